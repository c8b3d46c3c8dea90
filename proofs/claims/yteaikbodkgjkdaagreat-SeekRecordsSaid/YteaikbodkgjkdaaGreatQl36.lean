/-
  Texts beneath.
-/
import Derived.Test.YteaikbodkgjkdaaGreatQl35
set_option linter.unusedVariables false
set_option linter.unusedSimpArgs false
set_option maxRecDepth 100000
set_option maxHeartbeats 8000000
open Go.ChangeShapes Go.WideShapes Go.ChangeAt Go.RowKit
namespace Go.Proofs.YteaikbodkgjkdaaGreat
namespace Wa
open Bytes8 Own8 OwnE Ob Ga Gb Ok7 Rc Va Dc
open Yp Ye Yh
open Rg (arcode)
open Ym (aBC)
def nothB (n:Nat)(x:Int):Bool:=decide (x=0)||decide ((n:Int)≤x)
def lastI (out:List Int):Int:=out.getLastD 0
def inA (K:List Int→List Int×Int)(E:Nat)(n ni:Int)(g:Nat→Int):Nat→Nat→List Int→List Int×Int
 |0,_,out=>K out
 |m+1,i,out=>if(out.length:Int)=n then(out,0)else if nothB E (g i)=true then(out,ni)else if g i≤lastI out then(out,13)else inA K E n ni g m (i+1) (out++ [g i])
def chase (h:HD)(l:List Int)(E:Nat)(n na ni:Int):Nat→List Int→Nat→Nat→List Int×Int
 |0,out,_,_=>(out,0)
 |f+1,out,a,last=>if(out.length:Int)=n then(out,0)else if nothB E a=true then(out,na)else if a≤last then(out,12)else if arcode h l E a≠0 then(out,arcode h l E a)else inA (fun o=>chase h l E n na ni f o (aX9 h l E a).toNat a) E n ni (arF (bodyL l a)) (aC9 h l E a) 0 out
theorem aFL (K:List Int→List Int×Int)(E:Nat)(n ni:Int)(g:Nat→Int)(m i:Nat)(out:List Int)(h:(out.length:Int)=n)(a:K out=(out,0)):inA K E n ni g m i out=(out,0):=by
 cases m with
 |zero=>exact a
 |succ m=>exact if_pos h
theorem aAN (h:HD)(l:List Int)(E:Nat)(n na ni:Int)(f:Nat)(out:List Int)(a b:Nat)(c:(out.length:Int)=n):chase h l E n na ni f out a b=(out,0):=by
 cases f with
 |zero=>rfl
 |succ f=>exact if_pos c
theorem aOj {h:HD}{l:List Int}{E a:Nat}(d:AllB l):aX9 h l E a=((aX9 h l E a).toNat:Int)∧(aX9 h l E a).toNat≤18446744073709551615:=by
 have c:AllB (bodyL l a):=fun x hx=>d x (List.mem_of_mem_drop (List.mem_of_mem_take hx))
 have b:=aCE c 0
 have e:0≤aX9 h l E a∧aX9 h l E a≤18446744073709551615:=by
  unfold aX9 arX
  split
  ·split
   ·exact b
   ·omega
  ·omega
 omega
theorem aIO {l:List Int}{a:Nat}(b:AllB l)(i:Nat):0≤arF (bodyL l a) i∧arF (bodyL l a) i≤18446744073709551615:=aCE (fun x hx=>b x (List.mem_of_mem_drop (List.mem_of_mem_take hx))) _
theorem aP5 {h:HD}{l:List Int}{n a:Nat}(c:l.length≤1000000):aC9 h l n a≤1000000:=by
 have b:(bodyL l a).length≤l.length:=by unfold bodyL;rw[List.length_take,List.length_drop];omega
 unfold aC9
 split
 ·unfold arM arN
  split<;>omega
 ·omega
theorem aDf (out:List Int)(x:Int):lastI (out++ [x])=x:=by simp[lastI]
def Up (E:Nat)(out:List Int):Prop:=(out.length:Int)≤lastI out∧lastI out≤(E:Int)
theorem Up.nil (E:Nat):Up E []:=⟨by simp[lastI],by simp[lastI]⟩
theorem Up.snoc {E:Nat}{out:List Int}{x:Int}(h:Up E out)(b:lastI out<x)(a:nothB E x=false):Up E (out++ [x]):=by
 have c: ¬(E:Int)≤x:=by simp[nothB]at a;omega
 refine⟨?_,?_⟩
 ·rw[aDf,yA,List.length_singleton];have:=h.1;omega
 ·rw[aDf];omega
theorem aCP (out:List Int)(m:Nat)(h:out.length=m+1):(out.map (Value.int .u64))[m]? =some (.int .u64 (lastI out)):=by
 rw[List.getElem?_map]
 have:out[m]? =some (lastI out):=by
  rw[show m=out.length-1 by omega,←List.getLast?_eq_getElem?]
  cases out with
  |nil=>simp at h
  |cons x t=>simp[lastI,List.getLastD_cons,List.getLast?_cons]
 rw[this];rfl
attribute [local irreducible] HD.cells wpList Code.wp
theorem aLt {f:Nat}{h:HD}{d:Int}{A:Option Addr}{n c:Nat}{l:List Int}(x:Int)(w:World)(v:ViewR w f h d A n c l):Calls Tryz.prog 87 #[.pointer (some ⟨f,0,none⟩),.int .u64 x] w fun e w'=>e= .returned (.bool (nothB n x))∧w=w':=by
 have g:=yH (aEq w v)
 clear v
 unfold nothB
 by_cases b:x=0
 ·subst b
  go_enter Tryz.func87,Tryz.ntmps87
  go_wp2_with(first
   |(go_at_call 126;(refine g.out.mono ?_);rintro e w1 ⟨rfl,rfl⟩)
   |fail)
  go_ret
  exact⟨rfl,rfl⟩
 ·have i:(x==0)=false:=by simpa using b
  have a:decide (x=0)=false:=by simpa using b
  rw[a,Bool.false_or]
  go_enter Tryz.func87,Tryz.ntmps87
  go_wp2_with(first
   |(go_at_call 126;(refine g.out.mono ?_);rintro e w1 ⟨rfl,rfl⟩)
   |fail)
  go_ret
  exact⟨rfl,rfl⟩
theorem aIP {d:Nat}{h:HD}{A:Option Addr}{n c:Nat}{l:List Int}(x:Int)(w:World)(v:ViewAt w d h A n c l):Calls Tryz.prog 123 #[.pointer (some ⟨d,0,none⟩),.int .u64 x] w fun e w'=>e= .returned (.bool (nothB n x))∧w=w':=by
 have f:=yH (aFE w v)
 clear v
 unfold nothB
 by_cases b:x=0
 ·subst b
  go_enter Tryz.func123,Tryz.ntmps123
  go_wp2_with(first
   |(go_at_call 157;(refine f.out.mono ?_);rintro e w1 ⟨rfl,rfl⟩)
   |fail)
  go_ret
  exact⟨rfl,rfl⟩
 ·have g:(x==0)=false:=by simpa using b
  have a:decide (x=0)=false:=by simpa using b
  rw[a,Bool.false_or]
  go_enter Tryz.func123,Tryz.ntmps123
  go_wp2_with(first
   |(go_at_call 157;(refine f.out.mono ?_);rintro e w1 ⟨rfl,rfl⟩)
   |fail)
  go_ret
  exact⟨rfl,rfl⟩
def TellL (R:List Int×Int)(w:World)(e:Ending)(w':World):Prop:=Below w.heap.size w w'∧ ∃A m c,e= .returned (.tuple #[.slice A m c,.int .i64 R.2])∧OwnE 59 1 w' w.heap.size A m c (R.1.map (Value.int .u64))∧R.1.length=m
end Wa
namespace Vd
open Bytes8 Blk8 Own8 OwnM OwnE Rows2 Ob Od Ga Gb Gf Gj Gq Gt Ok7 Ns Ra Rc Va
open Go1 (hcode rhd aBK HTold magicB)
theorem aP6 {w:World}{g:Nat}{T:TypeId}{h:HD}{m:Nat}(a:Blk w g (h.cells m) T):w.rangeAt g 0 (h.cells m):=fun j v hj=>by rw[Nat.zero_add];exact a.cell hj
theorem aHH (h:HD)(d:Int)(b:Value)(A:Option Addr)(n c:Nat)(e:b= .slice A n c):Tryz.prog.built 180 [(0,.agg (h.cells 20).toArray),(1,.int .u64 d),(2,b)]=some (h.cells 20++([.int .u64 d,b]:List Value)).toArray:=by subst e;kernel_rfl
def bldRV (parts:Array (Nat×Value)):Sem Value:=Instr.build 180 parts
theorem aJJ (a:Array (Nat×Value)):Instr.build 180 a=bldRV a:=rfl
theorem aHI (h:HD)(d:Int)(A:Option Addr)(n c:Nat)(w:World):(bldRV #[(0,.agg (h.cells 20).toArray),(1,.int .u64 d),(2,.slice A n c)]).run Tryz.prog w= .ok (.agg (h.cells 20++([.int .u64 d,.slice A n c]:List Value)).toArray) w:=by
 unfold bldRV
 exact run_build w _ _ _ (aHH h d _ A n c rfl)
def OpenedR (l:List Int)(E:Nat)(w:World)(e:Ending)(w':World):Prop:= ∃(gv:Nat) (A2:Option Addr) (c2:Nat),e= .returned (.tuple #[.pointer (some ⟨gv,0,none⟩),.int .i64 0])∧w.heap.size≤gv∧ViewR w' gv (hdOf l) (Ob.u8 l 248) A2 E c2 (l.take E)∧Below w.heap.size w w'
attribute [local irreducible] HD.cells wpList Code.wp
attribute [local go_sem ↓] aJJ
theorem aJK (l:List Int)(A:Option Addr)(n c:Nat)(w:World)(s:Bytes w A l)(G:l.length=n)(hn:n≤800000)(F:n≤c)(v:hcode l n=0)(E:Nat)(V:endV (hdOf l)=(E:Int))(g:endB (hdOf l)=true)(Z:E≤n)(p:(hdOf l).Ok 21):
 Calls Tryz.prog 40 #[.slice A n c] w (OpenedR l E w):=by
 have u:=yH (aFa A l n c w s G (by omega) F)
 rw[if_pos v,if_pos v,v]at u
 unfold RTold at u
 have M:=yH fun(W:World)=>aI3 (hdOf l) (aDk s.1 20) W
 rw[V,g]at M
 have R:=yH s
 unfold OpenedR
 have r:=yH G
 have C:=yH p
 have j:(l.take E).length=E:=by rw[List.length_take];omega
 generalize hdOf l=H at*
 generalize Ob.u8 l 248=dp at*
 clear p s G v V g
 go_enter Tryz.func40,Tryz.ntmps40
 go_upto_region 4 with(first
  |(go_at_call 85;((refine u.out.mono ?_);rintro e w1 ⟨rfl,q⟩;have x:=yH q;clear q))
  |((with_reducible apply aAa (.tmp 4) (.tmp 12));refine wpList_store_row rfl 123 (.tmp 4) (.tmp 12) rfl w1.heap.size (H.cells 20).toArray rfl rfl 123 Tryz.zeroCells123 (heap_alloc_new w1 _) (aAc _) aAk (HD.one _ 20) ?_)
  |fail)
 have t:=yH (show Blk ((w1.alloc (.cells Tryz.zeroCells123 123)).setRow w1.heap.size (H.cells 20).toArray) w1.heap.size (H.cells 20) 123 from setRow_heap _ _ _ _ _ (0,0) (heap_alloc_new w1 _))
 have N:=yH (show Below w.heap.size w ((w1.alloc (.cells Tryz.zeroCells123 123)).setRow w1.heap.size (H.cells 20).toArray)from below_setRow (x.out.alloc x.out.size _) x.out.size _)
 generalize (w1.alloc (.cells Tryz.zeroCells123 123)).setRow w1.heap.size (H.cells 20).toArray=w2 at*
 generalize w1.heap.size=B at*
 clear u x
 go_upto_region 5 with(first
  |((with_reducible apply aAb 19);refine wpList_load_row rfl 123 (.tmp 4) rfl B rfl 123 (H.cells 20).toArray (0,0) _ t.out Tryz.underlying123 rfl (aAc _) ?_)
  |(go_at_call 86;((refine(M.out _).mono ?_);rintro e w4 ⟨rfl,b⟩;have z:=yH (N.out.trans (b.mono N.out.size));have X:=yH (t.out.below b t.out.lt);clear b))
  |fail)
 have J:=yH (show Below w4.heap.size w4 w4.drew from(yB w4.heap.size w4).drew)
 have y:=yH fun(W:World) (hW:Below w4.heap.size w4 W)=>show(fun W:World=>W.rangeAt B 0 (H.cells 20)) W from aP6 (X.out.below hW X.out.lt)
 have hcut:=fun W:World=>aOg A n c E (by omega) (by omega) W
 have L:=yH (show Below w4.heap.size w4 (w4.drew.alloc (.cells #[] 5))from J.out.alloc J.out.size _)
 have I:=yH (Own.made w4.drew w4.heap.size (yR _))
 have D:=yH (show Bytes (w4.drew.alloc (.cells #[] 5)) (cutA A c 0) (l.take E)from by
  have k:=Bytes.cut ((R.out.below z.out (yR _)).below L.out (yR _)) c 0 E (by rw[r.out];exact F)
  rw[List.drop_zero]at k
  exact k)
 have Y:=fun(A':Option Addr) (c':Nat) (W:World)=>aHI H dp A' E c' W
 clear M t N R r F
 refine wp_region_noPanic ?_
 refine wp_region_held_drew (S:=fun W:World=>W.rangeAt B 0 (H.cells 20)) (by kernel_rfl) (by exact(y.out _ J.out)) (fun hHeld=>?_)
 refine tk (i:=0) (oi:=⟨some 23,_,_,_,_,_⟩) rfl (yieldsIf_load_mid (by rfl) _ _ rfl _ _ rfl _ _ (fun _ h=>h) Tryz.underlying123 rfl (aBu _)) ?_
 try simp only[Act.put,sA,sZ,sS]
 refine tq 1 24 rfl (fun W hSw=>by go_simp;try (with_reducible rfl)) ?_
 try simp only[Act.put,sA,sZ,sS]
 refine tq 3 26 rfl (fun W hSw=>by go_simp;try (with_reducible rfl)) ?_
 try simp only[Act.put,sA,sZ,sS]
 refine tq 4 27 rfl (fun W hSw=>by go_simp;try (with_reducible rfl)) ?_
 try simp only[Act.put,sA,sZ,sS]
 refine tq 5 28 rfl (fun W hSw=>by go_simp;try (with_reducible rfl)) ?_
 try simp only[Act.put,sA,sZ,sS]
 refine rd 2 rfl (fun K hK=>?_)
 go_simp
 skip
 try go_wp2_with fail
 refine hK.out _ _ (by exact(y.out _ L.out)) (fun hHeld=>?_)
 clear hK K
 try simp only[Act.put,sA,sZ,sS]
 refine rd 6 rfl (fun K hK=>?_)
 refine aAg (o:=⟨some 29,_,_,_,_,_⟩) rfl (.tmp 25) (.tmp 28) rfl w4.heap.size _ 0 0 [] rfl I.out (cutA A c 0) E c (l.take E) rfl D.out j (by omega) ?_
 intro A5 c5 w5 a m
 rw[Nat.zero_add,List.nil_append]at a
 have d:=yH a
 have f:=yH (L.out.trans m)
 clear a m
 refine hK.out _ _ (by exact(y.out _ f.out)) (fun hHeld=>?_)
 clear hK K
 try simp only[Act.put,sA,sZ,sS]
 refine tq 7 30 rfl (fun W hSw=>by go_simp;try (with_reducible rfl)) ?_
 try simp only[Act.put,sA,sZ,sS]
 refine rd 8 rfl (fun K hK=>?_)
 go_simp
 skip
 try go_wp2_with fail
 refine hK.out _ _ (by exact(y.out _ (f.out.alloc f.out.size _))) (fun hHeld=>?_)
 clear hK K
 try simp only[Act.put,sA,sZ,sS]
 refine tq 9 2 rfl (fun W hSw=>by go_simp;try (with_reducible rfl)) ?_
 try simp only[Act.put,sA,sZ,sS]
 refine tq 10 3 rfl (fun W hSw=>by go_simp;try (with_reducible rfl)) ?_
 try simp only[Act.put,sA,sZ,sS]
 refine wpAnyH_done (by kernel_rfl) ?_ _
 refine NoPanic.normal ?_
 go_wp2
 go_ret2
 exact⟨_,A5,c5,rfl,Nat.le_trans z.out.size f.out.size,⟨Blk.new w5 _ _,d.out.bytes.below ((yB _ _).alloc (yR _) _) (yR _),j,(aBs d.out).1,(aBs d.out).2,by omega,C.out⟩,z.out.trans ((f.out.alloc f.out.size _).mono z.out.size)⟩
end Vd
namespace Wb
open Bytes8 Blk8 Own8 OwnA OwnE Rows2 Ob Ga Gb Ok7 Rc Va Dc Wa
open Yp Ye Yg Yh
open Rg (arcode)
open Ym (aBC)
structure In (w wz:World)(E:Nat)(n0:Int)(R:List Int×Int)(K:List Int→List Int×Int)(ni:Int)(g:Nat→Int)(ga cnt k:Nat)(nx:Int)(It:Option Addr)(ci:Nat)(T:TypeId)(out:List Int)(A:Option Addr)(m c:Nat):Prop where
 run:inA K E n0 ni g (cnt-k) k out=R
 own:OwnE 59 1 wz w.heap.size A m c (out.map (Value.int .u64))
 len:out.length=m
 up:Up E out
 le:(m:Int)≤n0
 blk:Blk wz ga [.int .u64 nx,.slice It cnt ci] T
 its:InInts .u64 wz It cnt g
 low:w.heap.size≤ga
 apB:ownB A≠some ga
 apI: ∀b off,It=some ⟨b,off,none⟩→ownB A≠some b
 bel:Below w.heap.size w wz
theorem In.push {w s w2:World}{E:Nat}{n0:Int}{R:List Int×Int}{K:List Int→List Int×Int}{ni:Int}{g:Nat→Int}{o cnt k:Nat}{nx:Int}{v:Option Addr}{z:Nat}{T:TypeId}{out:List Int}{A:Option Addr}{m c:Nat}
 (p:In w s E n0 R K ni g o cnt k nx v z T out A m c)(J:k<cnt)(F:(m:Int)≠n0)(u:nothB E (g k)=false)(B:lastI out<g k){w1:World}(d:Below s.heap.size s w1){n:Option Addr}{x:Nat}(D:OwnE 59 1 w2 w.heap.size n (m+1) x (out.map (Value.int .u64)++ [.int .u64 (g k)]))(j:w1.grownBy w2 (ownB A))(f:ownB n=ownB A∨ownB n=some w1.heap.size):
 In w w2 E n0 R K ni g o cnt (k+1) nx v z T (out++ [g k]) n (m+1) x where
 run:=by
  have a:=p.run
  rw[show cnt-k=(cnt-(k+1))+1 by omega]at a
  unfold inA at a
  rw[if_neg (by rw[p.len];exact F),if_neg (by rw[u];decide),if_neg (by omega)]at a
  exact a
 own:=by rw[List.map_append,List.map_cons,List.map_nil];exact D
 len:=by simp[p.len]
 up:=p.up.snoc B u
 le:=by have:=p.le;omega
 blk:=by
  have a:=p.blk.below d p.blk.lt
  exact(j.block o a.lt (fun e=>p.apB e.symm)).trans a
 its:=fun i hi=>by
  obtain⟨b,off,e,r,H,C⟩:=p.its i hi
  have y:b<w1.heap.size:=yL r d.size
  exact⟨b,off,e,yL y j.size,(World.cell?_of_block (j.block b y (fun e2=>p.apI b off e e2.symm))).trans ((d.cell (p:=⟨b,off+i,none⟩) r).trans H),C⟩
 low:=p.low
 apB:=fun e=>by
  rcases f with a|a
  ·exact p.apB (a▸e)
  ·rw[a]at e;injection e with e;have:=p.blk.lt;have:=d.size;omega
 apI:=fun b off e0 e=>by
  rcases f with a|a
  ·exact p.apI b off e0 (a▸e)
  ·rw[a]at e;injection e with e
   by_cases G:0<cnt
   ·obtain⟨I,t,l,r,_⟩:=p.its 0 G
    rw[e0]at l
    injection l with l
    injection l with e1 e2
    have:=d.size
    omega
   ·omega
 bel:=by
  have a:=p.bel.trans (d.mono p.bel.size)
  exact a.trans (below_grown j a.size (fun q hq=>(Dc.OwnE.ltB p.own q hq).1))
theorem In.drewN {w d:World}{E:Nat}{n0:Int}{R:List Int×Int}{K:List Int→List Int×Int}{ni:Int}{g:Nat→Int}{a cnt k:Nat}{nx:Int}{e:Option Addr}{b:Nat}{T:TypeId}{out:List Int}{A:Option Addr}{m c:Nat}
 (p:In w d E n0 R K ni g a cnt k nx e b T out A m c)(q:Nat):In w (d.drewN q) E n0 R K ni g a cnt k nx e b T out A m c:=⟨p.run,p.own,p.len,p.up,p.le,p.blk,p.its,p.low,p.apB,p.apI,below_drewN p.bel q⟩
def natO:Value→Nat
 | .int _ z=>z.toNat
 |_=>0
attribute [local irreducible] HD.cells wpList Code.wp
theorem aGG {gv:Nat}{h:HD}{d:Int}{A:Option Addr}{n c:Nat}{l:List Int}(w:World)(v:ViewR w gv h d A n c l):
 Calls Tryz.prog 41 #[.pointer (some ⟨gv,0,none⟩)] w (TellL (chase h l n (h.N 8) 14 2 (n+1) [] (h.N 11).toNat 0) w):=by
 have aY:w.cell? ⟨gv,75,none⟩=some (.int .u64 (h.N 8)):=v.blk.cell (aFI _ _ _ 8 (by decide))
 have aH:w.cell? ⟨gv,78,none⟩=some (.int .u64 (h.N 11)):=v.blk.cell (aFI _ _ _ 11 (by decide))
 have hn:=v.big
 have H:=yH fun(x:Int) (W:World) (hW:Below w.heap.size w W)=>aLt x W (v.below hW)
 have az:=yH fun(a:Nat) (W:World) (hW:Below w.heap.size w W)=>aNx a W (v.below hW)
 have ay:=yH v.by_.1
 have aN:=yH fun a=>aP5 (h:=h) (n:=n) (a:=a) (show l.length≤1000000 by have:=v.len;have:=v.big;omega)
 have h8:=v.ok.N 8
 have aZ:=v.ok.N 11
 have aE:h.N 11=((h.N 11).toNat:Int):=by omega
 rw[aE]at aH
 clear v
 generalize h.N 8=n0 at*
 generalize (h.N 11).toNat=a0 at*
 have aF:=yH (rfl:chase h l n n0 14 2 (n+1) [] a0 0=chase h l n n0 14 2 (n+1) [] a0 0)
 generalize aA:chase h l n n0 14 2 (n+1) [] a0 0=R at*
 have aG:=yH aA
 clear aF aA
 have O0:=yH (show OwnE 59 1 w w.heap.size none 0 0 (([]:List Int).map (Value.int .u64))from OwnE.nil w w.heap.size (yR _))
 have B0:=yH (yB w.heap.size w)
 have UN:=yH (Up.nil n)
 unfold TellL
 go_enter Tryz.func41,Tryz.ntmps41
 go_wp2
 go_loopw [4,6,7] (fun s x y wr=> ∃(out:List Int) (m a la f:Nat) (L:Option Addr) (V:Nat),s= .slice L m V∧x= .int .u64 (a:Int)∧y= .int .u64 (la:Int)∧Hid (chase h l n n0 14 2 f out a la=R)∧Hid (OwnE 59 1 wr w.heap.size L m V (out.map (Value.int .u64)))∧Hid (out.length=m)∧Hid (Up n out)∧Hid ((m:Int)≤n0)∧Hid (la≤n∧n+1≤f+la∧a≤18446744073709551615)∧Hid (Below w.heap.size w wr)) (fun _ _ y _=>n+1-natO y)
 case atStart=>exact⟨[],0,a0,0,n+1,none,0,rfl,rfl,rfl,aG,O0,yH rfl,UN,yH (by simpa using h8.1),yH ⟨by omega,by omega,by omega⟩,B0⟩
 case round=>
  obtain⟨out,m,a,la,f,L,V,rfl,rfl,rfl,hR,hO,hL,hU,hM,hF,Y⟩:=hrel
  have au:=hU.out
  unfold Up at au
  rw[hL.out]at au
  have hm:m≤800000:=by omega
  have aW:IntKind.u64.wrap (m:Int)=(m:Int):=by rw[IntKind.wrap_u64];omega
  have ai:=hM.out
  clear au
  by_cases j:(m:Int)=n0
  ·have C:Hid ((out,(0:Int))=R):=yH (by rw[←hR.out];exact(aAN _ _ _ _ _ _ _ _ _ _ (by rw[hL.out];exact j)).symm)
   have d1:decide ((m:Int)<n0)=false:=by simp;omega
   go_wp2
   refine bodyPost_ret (v:= .tuple #[.slice L m V,.int .i64 0]) (by simp[results,Tryz.results41,go_sem,Result.andThen]) rfl ?_
   rw[←C.out]
   exact⟨Y.out,L,m,V,rfl,hO.out,hL.out⟩
  have d1:decide ((m:Int)<n0)=true:=by simp;omega
  obtain⟨f,rfl⟩: ∃q,f=q+1:=⟨f-1,by have:=hF.out;omega⟩
  have t:=hR.out
  unfold chase at t
  rw[if_neg (by rw[hL.out];exact j)]at t
  by_cases hno:nothB n (a:Int)=true
  ·rw[if_pos hno]at t
   have C:=yH t
   have D:=hno
   clear t ai hm
   go_wp2_with(first
    |(go_at_call 87;(refine(H.out _ _ Y.out).mono ?_);rintro e w1 ⟨rfl,rfl⟩;(try rw[D]))
    |fail)
   refine bodyPost_ret (v:= .tuple #[.slice L m V,.int .i64 14]) (by simp[results,Tryz.results41,go_sem,Result.andThen]) rfl ?_
   rw[←C.out]
   exact⟨Y.out,L,m,V,rfl,hO.out,hL.out⟩
  rw[if_neg hno]at t
  have D:nothB n (a:Int)=false:=by simpa using hno
  have ad:0<a∧a<n:=by simp[nothB]at D;omega
  by_cases ag:a≤la
  ·rw[if_pos ag]at t
   have C:=yH t
   have d2:decide ((a:Int)≤(la:Int))=true:=by simp;omega
   have d3:decide (a≤la)=true:=by simp;omega
   clear t ai hm hno ad
   go_wp2_with(first
    |(go_at_call 87;(refine(H.out _ _ Y.out).mono ?_);rintro e w1 ⟨rfl,rfl⟩;(try rw[D]))
    |fail)
   refine bodyPost_ret (v:= .tuple #[.slice L m V,.int .i64 12]) (by simp[results,Tryz.results41,go_sem,Result.andThen]) rfl ?_
   rw[←C.out]
   exact⟨Y.out,L,m,V,rfl,hO.out,hL.out⟩
  rw[if_neg ag]at t
  have d2:decide ((a:Int)≤(la:Int))=false:=by simp;omega
  have d3:decide (a≤la)=false:=by simp;omega
  have aa:=yH fun(W:World) (hW:Below w.heap.size w W)=>az.out a W hW
  unfold TellA at aa
  have hnx:=yH (aOj (h:=h) (E:=n) (a:=a) ay.out)
  have HG:=yH fun i=>aIO (a:=a) ay.out i
  by_cases hcd:arcode h l n a≠0
  ·rw[if_pos hcd]at t
   have C:=yH t
   have aV:decide (arcode h l n a=0)=false:=by simpa using hcd
   have aQ:(arcode h l n a==0)=false:=by simpa using hcd
   have aR:(arcode h l n a !=0)=true:=by simpa using hcd
   generalize arcode h l n a=cd at*
   generalize aX9 h l n a=nx at*
   generalize aC9 h l n a=cnt at*
   clear t ai hm hno ad
   go_wp2_with(first
    |(go_at_call 87;(refine(H.out _ _ Y.out).mono ?_);rintro e w1 ⟨rfl,rfl⟩;(try rw[D]))
    |(go_at_call 88;(refine(aa.out _ Y.out).mono ?_);rintro e w2 ⟨F,A2,c2,rfl,_,_⟩;have B2:=yH (Y.out.trans (F.mono Y.out.size));have O2:=yH (hO.out.kept F (yR _));clear F)
    |fail)
   refine bodyPost_ret (v:= .tuple #[.slice L m V,.int .i64 cd]) (by simp[results,Tryz.results41,go_sem,Result.andThen]) rfl ?_
   rw[←C.out]
   exact⟨B2.out.alloc B2.out.size _,L,m,V,rfl,O2.out.alloc _,hL.out⟩
  rw[if_neg hcd]at t
  have al:arcode h l n a=0:=by simpa using hcd
  obtain⟨nx,ak,aj⟩: ∃q:Nat,aX9 h l n a=(q:Int)∧q≤18446744073709551615:=⟨_,hnx.out⟩
  simp only[al,ak,Int.toNat_natCast]at aa t
  clear hnx ak hcd al az hno ai
  have aS:=aN.out a
  generalize aC9 h l n a=cnt at*
  generalize arF (bodyL l a)=g at*
  generalize hK:(fun o=>chase h l n n0 14 2 f o nx a)=K at*
  have HK:=yH hK
  have aC:=yH t
  clear t hK
  have ae:=yH ad
  have ah:=yH ag
  clear ad ag
  go_wp2_with(first
   |(go_at_call 87;(refine(H.out _ _ Y.out).mono ?_);rintro e w1 ⟨rfl,rfl⟩;(try rw[D]))
   |(go_at_call 88;(refine(aa.out _ Y.out).mono ?_);rintro e w2 ⟨F,A2,c2,rfl,ax,aD⟩;have aX:=yH F;have B2:=yH (Y.out.trans (F.mono Y.out.size));have O2:=yH (hO.out.kept F (yR _));have I2:=yH ax;have N2:=yH aD;clear F ax aD)
   |fail)
  have aM:Hid (In w (w2.alloc (.cells #[.int .u64 (nx:Int),.slice A2 cnt c2] 183)) n n0 R K 2 g w2.heap.size cnt 0 (nx:Int) A2 c2 183 out L m V):=yH
   {run:=aC.out,own:=O2.out.alloc _,len:=hL.out,up:=hU.out,le:=hM.out,blk:=Blk.new w2 [.int .u64 (nx:Int),.slice A2 cnt c2] _
    its:=I2.out.below ((yB _ _).alloc (yR _) _)
    low:=B2.out.size
    apB:=fun e=>by have:=(Dc.OwnE.ltB O2.out _ e).2;omega
    apI:=fun b X e e2=>by have h1:=N2.out b X e;have h2:=(Dc.OwnE.ltB hO.out _ e2).2;omega
    bel:=B2.out.alloc B2.out.size _}
  clear hR hO hU B2 O2 I2 N2 aC aa
  generalize w2.heap.size=ga at*
  generalize (w2.alloc (.cells #[.int .u64 (nx:Int),.slice A2 cnt c2] 183))=w3 at*
  go_loopw [4,10] (fun s i wz=> ∃(p:List Int) (r k:Nat) (A3:Option Addr) (c3:Nat),k≤cnt∧s= .slice A3 r c3∧i= .int .i64 (k:Int)∧Hid (In w wz n n0 R K 2 g ga cnt k (nx:Int) A2 c2 183 p A3 r c3)) (fun _ i _=>cnt-natO i)
  case atStart=>exact⟨out,m,0,L,V,Nat.zero_le _,rfl,rfl,aM⟩
  case round=>
   obtain⟨p,r,k,A3,c3,hk,rfl,rfl,P⟩:=hrel
   have k0:=P.out.blk.cell (i:=0) rfl
   have k1:=P.out.blk.cell (i:=1) rfl
   have ao:=P.out.up
   unfold Up at ao
   rw[P.out.len]at ao
   have aB:r≤800000:=by omega
   have aP:IntKind.u64.wrap (r:Int)=(r:Int):=by rw[IntKind.wrap_u64];omega
   have M:=P.out.le
   have ab:=yH P.out.run
   clear ao
   by_cases aq:k<cnt
   ·have e1:decide ((k:Int)<(cnt:Int))=true:=by simp;omega
    have e2:decide (k<cnt)=true:=by simp;omega
    by_cases j:(r:Int)=n0
    ·have e3:decide ((r:Int)<n0)=false:=by simp;omega
     have av:Hid (∀f a' la',chase h l n n0 14 2 f p a' la'=R):=yH fun f a' la'=>by
      rw[←ab.out,aFL _ _ _ _ _ _ _ _ (by rw[P.out.len];exact j) (by rw[←HK.out];exact aAN _ _ _ _ _ _ _ _ _ _ (by rw[P.out.len];exact j))]
      exact aAN _ _ _ _ _ _ _ _ _ _ (by rw[P.out.len];exact j)
     clear M aB j
     go_wp2
     have an:=P.out.le
     exact⟨⟨p,r,nx,a,f,A3,c3,rfl,rfl,rfl,yH (av.out _ _ _),yH P.out.own,yH P.out.len,yH P.out.up,yH an,yH ⟨by have:=ae.out;omega,by have:=hF.out;have:=ah.out;omega,aj⟩,yH P.out.bel⟩,by have:=ae.out;have:=ah.out;simp[natO];omega⟩
    ·have e3:decide ((r:Int)<n0)=true:=by simp;omega
     obtain⟨b,X,rfl,aU,cx,_⟩:=P.out.its k aq
     have B:=ab.out
     rw[show cnt-k=(cnt-(k+1))+1 by omega]at B
     unfold inA at B
     rw[if_neg (by rw[P.out.len];exact j)]at B
     by_cases J:nothB n (g k)=true
     ·rw[if_pos J]at B
      have C:=yH B
      have z:=J
      clear B M aB j
      go_wp2_with(first
       |(go_at_call 87;(refine(H.out _ _ P.out.bel).mono ?_);rintro e w1 ⟨rfl,rfl⟩;(try rw[z]))
       |fail)
      refine bodyPost_ret (v:= .tuple #[.slice A3 r c3,.int .i64 2]) (by simp[results,Tryz.results41,go_sem,Result.andThen]) rfl ?_
      rw[←C.out]
      exact⟨P.out.bel,A3,r,c3,rfl,P.out.own,P.out.len⟩
     rw[if_neg J]at B
     have z:nothB n (g k)=false:=by simpa using J
     have aT:0<g k:=by have h1:=(HG.out k).1;simp[nothB]at z;omega
     by_cases af:g k≤lastI p
     ·rw[if_pos af]at B
      have C:=yH B
      obtain⟨m3,I⟩: ∃q,r=q+1:=by
       cases r with
       |zero=>
        have h1:p=[]:=List.eq_nil_of_length_eq_zero P.out.len
        rw[h1]at af
        simp[lastI]at af
        omega
       |succ q=>exact⟨q,rfl⟩
      have hq:IntKind.i64.wrap ((r:Int)-1)=(m3:Int):=by rw[IntKind.wrap_i64];omega
      obtain⟨gq,rfl,_,_,aw⟩:=P.out.own.cell (i:=m3) (by rw[P.out.own.len];omega)
      rw[aCP p m3 (by rw[P.out.len];exact I)]at aw
      generalize lastI p=lz at*
      have e4:decide ((r:Int)>0)=true:=by simp;omega
      have e5:decide (0<r)=true:=by simp;omega
      have e6:decide ((0:Int)<(r:Int))=true:=by simp;omega
      have e7:decide (g k≤lz)=true:=by simpa using af
      have aL:=yH I
      have aO:m3<r:=by omega
      have e8:decide ((m3:Int)<(r:Int))=true:=by simp;omega
      clear B M j I J
      go_upto_region 17 with(first
       |(go_at_call 87;(refine(H.out _ _ P.out.bel).mono ?_);rintro e w1 ⟨rfl,rfl⟩;(try rw[z]))
       |fail)
      go_quiet (fail)
      go_wp2
      refine bodyPost_ret (v:= .tuple #[.slice (some ⟨gq,0,none⟩) r c3,.int .i64 13]) (by simp[results,Tryz.results41,go_sem,Result.andThen]) rfl ?_
      rw[←C.out]
      exact⟨below_drewN P.out.bel _,(some ⟨gq,0,none⟩),r,c3,rfl,(P.out.drewN _).own,P.out.len⟩
     ·by_cases hz:r=0
      ·have e4:decide ((r:Int)>0)=false:=by simp;omega
       have e5:decide (0<r)=false:=by simp;omega
       have e6:decide ((0:Int)<(r:Int))=false:=by simp;omega
       have HZ:=yH hz
       clear B M J hz
       go_upto_region 17 with(first
        |(go_at_call 87;(refine(H.out _ _ P.out.bel).mono ?_);rintro e w1 ⟨rfl,rfl⟩;(try rw[z]))
        |fail)
       go_quiet (fail)
       have aK:(wr.drewN nq).cell? ⟨ga,1,none⟩=some (.slice (some ⟨b,X,none⟩) cnt c2):=k1
       have aJ:(wr.drewN nq).cell? ⟨b,X+k,none⟩=some (.int .u64 (g k)):=cx
       go_wp2_with(first
        |(at_builtin;refine aAe aBC rfl (.tmp 86) (.tmp 92) rfl w.heap.size A3 r c3 (p.map (Value.int .u64)) rfl (OwnE.alloc (P.out.drewN nq).own _) ⟨(wr.drewN nq).heap.size,0,none⟩ 1 1 [.int .u64 (g k)] rfl rfl (Blk.news (Blk.new (wr.drewN nq) [.int .u64 (g k)] 59)) (by intro u hu;simp at hu;subst hu;rfl) (by omega) (by omega) (by unfold maxLen;omega) ?_;intro A5 c5 w5 Z ac G;have ap:=yH Z;have am:=yH ac;have ar:=yH G;clear Z ac G)
        |fail)
       exact⟨⟨p++ [g k],r+1,k+1,A5,c5,by omega,rfl,by go_num,yH (P.out.push aq j z (by omega) ((below_drewN (yB wr.heap.size wr) nq).alloc (yR _) _) ap.out am.out ar.out)⟩,by simp[natO];omega⟩
      ·obtain⟨m3,I⟩: ∃q,r=q+1:=⟨r-1,by omega⟩
       have hq:IntKind.i64.wrap ((r:Int)-1)=(m3:Int):=by rw[IntKind.wrap_i64];omega
       obtain⟨gq,aI,_,_,aw⟩:=P.out.own.cell (i:=m3) (by rw[P.out.own.len];omega)
       rw[aCP p m3 (by rw[P.out.len];exact I)]at aw
       subst aI
       have e4:decide ((r:Int)>0)=true:=by simp;omega
       have e5:decide (0<r)=true:=by simp;omega
       have e6:decide ((0:Int)<(r:Int))=true:=by simp;omega
       have e7:decide (g k≤lastI p)=false:=by simp;omega
       have aL:=yH I
       have aO:m3<r:=by omega
       have e8:decide ((m3:Int)<(r:Int))=true:=by simp;omega
       clear B M I J hz
       go_upto_region 17 with(first
        |(go_at_call 87;(refine(H.out _ _ P.out.bel).mono ?_);rintro e w1 ⟨rfl,rfl⟩;(try rw[z]))
        |fail)
       go_quiet (fail)
       have aK:(wr.drewN nq).cell? ⟨ga,1,none⟩=some (.slice (some ⟨b,X,none⟩) cnt c2):=k1
       have aJ:(wr.drewN nq).cell? ⟨b,X+k,none⟩=some (.int .u64 (g k)):=cx
       go_wp2_with(first
        |(at_builtin;refine aAe aBC rfl (.tmp 86) (.tmp 92) rfl w.heap.size (some ⟨gq,0,none⟩) r c3 (p.map (Value.int .u64)) rfl (OwnE.alloc (P.out.drewN nq).own _) ⟨(wr.drewN nq).heap.size,0,none⟩ 1 1 [.int .u64 (g k)] rfl rfl (Blk.news (Blk.new (wr.drewN nq) [.int .u64 (g k)] 59)) (by intro u hu;simp at hu;subst hu;rfl) (by omega) (by omega) (by unfold maxLen;omega) ?_;intro A5 c5 w5 Z ac G;have ap:=yH Z;have am:=yH ac;have ar:=yH G;clear Z ac G)
        |fail)
       exact⟨⟨p++ [g k],r+1,k+1,A5,c5,by omega,rfl,by go_num,yH (P.out.push aq j z (by omega) ((below_drewN (yB wr.heap.size wr) nq).alloc (yR _) _) ap.out am.out ar.out)⟩,by simp[natO];omega⟩
   ·obtain rfl:k=cnt:=by omega
    have e1:decide ((k:Int)<(k:Int))=false:=by simp
    have e2:decide (k<k)=false:=by simp
    have av:Hid (chase h l n n0 14 2 f p nx a=R):=yH (by
     have h1:=ab.out
     rw[Nat.sub_self]at h1
     unfold inA at h1
     rw[←HK.out]at h1
     exact h1)
    clear M
    go_wp2
    have an:=P.out.le
    exact⟨⟨p,r,nx,a,f,A3,c3,rfl,rfl,rfl,av,yH P.out.own,yH P.out.len,yH P.out.up,yH an,yH ⟨by have:=ae.out;omega,by have:=hF.out;have:=ah.out;omega,aj⟩,yH P.out.bel⟩,by have:=ae.out;have:=ah.out;simp[natO];omega⟩
end Wb
namespace Wd
open Bytes8 Own8 OwnE Ob Ga Gb Va Wa
open Yp Ye Yh
open Rg (arcode)
def its (g:Nat→Int):Nat→Nat→List (Int×Int)
 |0,_=>[]
 |m+1,i=>(g i,0)::its g m (i+1)
def yl (h:HD)(l:List Int)(E:Nat):Nat→Nat→Nat→List (Int×Int)
 |0,_,_=>[]
 |f+1,a,last=>if nothB E a=true then []else if a≤last then [(0,12)]else if arcode h l E a≠0 then [(0,arcode h l E a)]else its (arF (bodyL l a)) (aC9 h l E a) 0++yl h l E f (aX9 h l E a).toNat a
def step (E:Nat)(n ni:Int)(out:List Int)(x:Int×Int):List Int×Option Int:=
 if x.2≠0 then(out,some x.2)else if nothB E x.1=true then(out,some ni)else if 0<out.length∧x.1≤lastI out then(out,some 13)else if((out++ [x.1]).length:Int)=n then(out++ [x.1],some 0)else(out++ [x.1],none)
def runY (E:Nat)(n na ni:Int):List (Int×Int)→List Int→List Int×Int
 | [],out=>(out,na)
 |x::xs,out=>match step E n ni out x with
  |(o,some c)=>(o,c)
  |(o,none)=>runY E n na ni xs o
theorem aBy (E:Nat)(n na ni:Int)(x:Int×Int)(xs:List (Int×Int))(out:List Int):runY E n na ni (x::xs) out=match step E n ni out x with
 |(o,some c)=>(o,c)
 |(o,none)=>runY E n na ni xs o:=rfl
theorem aNz (E:Nat)(n na ni:Int)(g:Nat→Int)(f: ∀i,0≤g i)(K:List Int→List Int×Int)(rest:List (Int×Int))
 (k: ∀o:List Int,(o.length:Int)≠n→runY E n na ni rest o=K o)(e: ∀o:List Int,(o.length:Int)=n→K o=(o,0)):
 ∀(m i:Nat) (out:List Int),(out.length:Int)≠n→runY E n na ni (its g m i++rest) out=inA K E n ni g m i out:=by
 intro m
 induction m with
 |zero=>intro i out h;exact k out h
 |succ m ih=>
  intro i out h
  show runY E n na ni ((g i,0)::(its g m (i+1)++rest)) out=_
  rw[aBy]
  unfold inA step
  rw[if_neg h,if_neg (by simp)]
  by_cases b:nothB E (g i)=true
  ·rw[if_pos b,if_pos b]
  ·rw[if_neg b,if_neg b]
   by_cases a:g i≤lastI out
   ·have j:0<out.length:=by
     rcases Nat.eq_zero_or_pos out.length with d|d
     ·have l:=f i
      rw[List.eq_nil_of_length_eq_zero d]at a
      simp[lastI]at a
      simp[nothB]at b
      omega
     ·exact d
    rw[if_pos ⟨j,a⟩,if_pos a]
   ·rw[if_neg (fun h=>a h.2),if_neg a]
    by_cases c:(((out++ [g i]).length:Nat):Int)=n
    ·rw[if_pos c]
     exact(aFL K E n ni g m (i+1) _ c (e _ c)).symm
    ·rw[if_neg c]
     exact ih (i+1) _ c
theorem aLu (h:HD)(l:List Int)(p:AllB l)(E:Nat)(n na ni:Int): ∀(f a b:Nat) (out:List Int),b≤E→E+1≤f+b→(out.length:Int)≠n→runY E n na ni (yl h l E f a b) out=chase h l E n na ni f out a b:=by
 intro f
 induction f with
 |zero=>intro a b out m k _;omega
 |succ f ih=>
  intro a b out m k g
  unfold yl chase
  rw[if_neg g]
  by_cases d:nothB E (a:Int)=true
  ·rw[if_pos d,if_pos d];rfl
  ·rw[if_neg d,if_neg d]
   by_cases e:a≤b
   ·rw[if_pos e,if_pos e];rfl
   ·rw[if_neg e,if_neg e]
    by_cases c:arcode h l E a≠0
    ·rw[if_pos c,if_pos c,aBy]
     unfold step
     rw[if_pos c]
    ·rw[if_neg c,if_neg c]
     have q:a<E:=by
      have j:nothB E (a:Int)=false:=by simpa using d
      simp[nothB]at j
      omega
     exact aNz E n na ni _ (fun i=>(aIO p i).1) _ _ (fun o ho=>ih _ _ _ (by omega) (by omega) ho) (fun o ho=>aAN h l E n na ni f o _ _ ho) _ _ _ g
def after (E:Nat)(n ni:Int):List (Int×Int)→List Int→Option (List Int)
 | [],out=>some out
 |x::xs,out=>match step E n ni out x with
  |(_,some _)=>none
  |(o,none)=>after E n ni xs o
theorem aE4 (E:Nat)(n ni:Int)(x:Int×Int): ∀(d:List (Int×Int)) (out o f:List Int),after E n ni d out=some o→step E n ni o x=(f,none)→after E n ni (d++ [x]) out=some f:=by
 intro d
 induction d with
 |nil=>
  intro out o f e g
  injection e with e
  subst e
  show(match step E n ni out x with|(_,some _)=>none|(o,none)=>after E n ni [] o)=_
  rw[g];rfl
 |cons y ys ih=>
  intro out o f e g
  show(match step E n ni out y with|(_,some _)=>none|(o,none)=>after E n ni (ys++ [x]) o)=_
  have i:(match step E n ni out y with|(_,some _)=>none|(o,none)=>after E n ni ys o)=some o:=e
  cases hs:step E n ni out y with
  |mk a b=>
   rw[hs]at i
   cases b with
   |none=>exact ih a o f i g
   |some c=>cases i
theorem aB6 (E:Nat)(n na ni:Int): ∀(d rest:List (Int×Int)) (out o:List Int),after E n ni d out=some o→runY E n na ni (d++rest) out=runY E n na ni rest o:=by
 intro d
 induction d with
 |nil=>intro rest out o h;injection h with h;rw[h];rfl
 |cons y ys ih=>
  intro rest out o h
  have e:(match step E n ni out y with|(_,some _)=>none|(o,none)=>after E n ni ys o)=some o:=h
  show runY E n na ni (y::(ys++rest)) out=_
  rw[aBy]
  cases hs:step E n ni out y with
  |mk a b=>
   rw[hs]at e
   cases b with
   |none=>exact ih rest a o e
   |some c=>cases e
end Wd
namespace Jh
open Ga
open Go1 (hcode)
attribute [local irreducible] HD.cells wpList Code.wp
end Jh
end Go.Proofs.YteaikbodkgjkdaaGreat
