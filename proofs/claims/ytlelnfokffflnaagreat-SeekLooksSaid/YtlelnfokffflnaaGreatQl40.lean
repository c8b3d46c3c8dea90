/-
  Texts beneath the proof.
-/
import Derived.Test.YtlelnfokffflnaaGreatQl39
set_option linter.unusedVariables false
set_option linter.unusedSimpArgs false
set_option maxRecDepth 100000
set_option maxHeartbeats 16000000
open Go.ChangeShapes Go.WideShapes Go.ChangeAt Go.RowKit
namespace Go.Proofs.YtlelnfokffflnaaGreat
namespace Wk
open Go.ChangeShapes Go.WideShapes Go.ChangeAt Go.RowKit Go.Shelf
open Bytes8 Blk8 Kf Own8 OwnA OwnE Rows2 Ob Od Ga Gb Ok7 Rc Va Dc Wa Wd We Wf
open Ye Yg Yh
open Rg (arcode)
open Ym (aBC)
open Wb (natO)
attribute [local go_sem] Oper.semAt_some
theorem aAQ {F:Fence}{D:Nat}{E S:TypeId}{size d:Nat}{z:Value}(N:Elt E S size d z){w:World}{l:Array Oper}{rest:List Oper}{o:Oper}{a:Act}{Q:Exit→Act→World→Prop}(q:o.guard=none)(s x:Operand)
 (i:o.op= .call {callee:= .builtin .append,args:= #[s,x],argTypes:= #[S,S]})
 (base:Nat)(A:Option Addr)(n c:Nat)(xs:List Value)(hs:a.eval s= .slice A n c)(V:OwnE E size w base A n c xs)(t:Addr)(m C:Nat)(b:List Value)(J:a.eval x= .slice (some t) m C)(R:b.length=m*size)
 (g: ∀j u,b[j]? =some u→w.cell? (t.add j)=some u)(I: ∀u∈b,u.oneCell'=true)(B:n+m≤4611686018427387904)(f:(n+m)*d≤140737488355328)(y:n+m≤maxLen)
 (h: ∀k p w',OwnE E size w' base k (n+m) p (xs++b)→w.grownBy w' (ownB A)→(ownB k=ownB A∨ownB k=some w.heap.size)→wpListIn F D Tryz.prog l Q rest (a.put o.dst (.slice k (n+m) p)) w'):wpListIn F D Tryz.prog l Q (o::rest) a w:=by
 refine wpListIn_plain q fun K hK'=>?_
 obtain⟨k,p,w',H,M,G,L⟩:=aAA N w o.type base A n c xs V t m C b R g I B f y
 unfold Oper.wpIn
 refine⟨?_,?_⟩
 ·simp[Oper.about,i,resolve,Target.leads,Sem.run_pure]
 ·rw[Oper.semAt_plain F _ _ (by rw[i];intro c r;cases r)]
  simp[execOp,i,resolve,invoke,builtin,hs,J,H,Result.andThen]
  exact hK' _ _ (h k p w' M G L)
theorem aLD (b:Nat)(a:Int)(w:World):Calls Tryz.prog 192 #[.pointer (some ⟨b,0,none⟩),.int .u64 a] w fun e w'=>e= .returned (.func (.func 231) #[] #[.pointer (some ⟨w.heap.size,0,none⟩),.pointer (some ⟨w.heap.size+1,0,none⟩)])∧w'=(w.alloc (.cells #[.pointer (some ⟨b,0,none⟩)] 51)).alloc (.cells #[.int .u64 a] 27):=by
 go_enter Tryz.func192,Tryz.ntmps192
 go_wp2
 go_ret
 exact⟨by simp,rfl⟩
theorem aBU {E:TypeId}{size:Nat}{w:World}{b n c k:Nat}{A:Option Addr}{xs:List Value}(h:OwnE E size w b A n c xs)(f:ownB A=some k): ∃d,w.heap[k]? =some (.cells d E (0,0)):=by
 obtain⟨o,m,i⟩:=h
 rcases i with⟨e,_⟩|⟨g,l,d,e,_,j,_⟩
 ·injection e with e
  subst e
  cases f
 ·injection e with e
  subst e
  have:g=k:=by simpa [ownB]using f
  subst this
  exact⟨d,j⟩
structure Gth (w0:World)(gv s:Nat)(n na ni:Int)(out:List Int)(A:Option Addr)(m c:Nat)(W:World):Prop where
 own:OwnE 27 1 W w0.heap.size A m c (out.map (Value.int .u64))
 len:out.length=m
 bv:Blk W s [.pointer (some ⟨gv,0,none⟩)] 51
 bl:Blk W (s+1) [.slice A m c] 30
 bc:Blk W (s+2) [.int .u64 n] 27
 bn:Blk W (s+3) [.int .i64 na,.int .i64 ni] 253
 r0:Blk W (s+4) [.slice none 0 0] 30
 r1:Blk W (s+5) [.int .i64 0] 3
 row: ∀k,ownB A=some k→k<s∨s+8≤k
 bel:Below w0.heap.size w0 W
 sz:s+8≤W.heap.size
theorem Gth.keptF {w0:World}{d s:Nat}{n na ni:Int}{out:List Int}{A:Option Addr}{m c:Nat}{W f:World}{G:Nat→Prop}(h:Gth w0 d s n na ni out A m c W)(k:KeptF G W f)(b: ∀j,j<s+6→s≤j→ ¬G j)(g: ∀j,ownB A=some j→ ¬G j)(i: ∀j,j<w0.heap.size→ ¬G j):Gth w0 d s n na ni out A m c f:=
 {own:=Mf.OwnE.keptF h.own k g
  len:=h.len
  bv:=Kf.Blk.keptF h.bv k (b _ (by omega) (by omega))
  bl:=Kf.Blk.keptF h.bl k (b _ (by omega) (by omega))
  bc:=Kf.Blk.keptF h.bc k (b _ (by omega) (by omega))
  bn:=Kf.Blk.keptF h.bn k (b _ (by omega) (by omega))
  r0:=Kf.Blk.keptF h.r0 k (b _ (by omega) (by omega))
  r1:=Kf.Blk.keptF h.r1 k (b _ (by omega) (by omega))
  row:=h.row
  bel:=h.bel.trans ⟨k.os,k.tape,k.output,k.size,fun j hj=>k.block j (by have:=h.bel.size;omega) (i j hj)⟩
  sz:=Nat.le_trans h.sz k.size}
theorem aHR {w0:World}{b s:Nat}{n na ni:Int}{out:List Int}{A:Option Addr}{m c:Nat}{W:World}(h:Gth w0 b s n na ni out A m c W):rowOf W (s+1)=ownB A:=by
 unfold rowOf
 rw[h.bl.cell (i:=0) rfl]
theorem aFM {w0:World}{i s:Nat}{n na ni:Int}{out:List Int}{A:Option Addr}{m c:Nat}{V:World}(h:Gth w0 i s n na ni out A m c V)(hs:w0.heap.size≤s)(b:Int)(D:Nat)(p:s+8≤D):
 KeepsFrom D V ((V.setCell ⟨s+4,0,none⟩ (.slice A m c)).setCell ⟨s+5,0,none⟩ (.int .i64 b))∧Blk ((V.setCell ⟨s+4,0,none⟩ (.slice A m c)).setCell ⟨s+5,0,none⟩ (.int .i64 b)) (s+4) [.slice A m c] 30∧Blk ((V.setCell ⟨s+4,0,none⟩ (.slice A m c)).setCell ⟨s+5,0,none⟩ (.int .i64 b)) (s+5) [.int .i64 b] 3∧
  OwnE 27 1 ((V.setCell ⟨s+4,0,none⟩ (.slice A m c)).setCell ⟨s+5,0,none⟩ (.int .i64 b)) w0.heap.size A m c (out.map (Value.int .u64))∧Below w0.heap.size w0 ((V.setCell ⟨s+4,0,none⟩ (.slice A m c)).setCell ⟨s+5,0,none⟩ (.int .i64 b)):=by
 have f:=KeptF.set1 V (s+4) 0 (.slice A m c)
 have g:=KeptF.set1 (V.setCell ⟨s+4,0,none⟩ (.slice A m c)) (s+5) 0 (.int .i64 b)
 have d:KeptF (fun j=>j=s+4∨j=s+5) V ((V.setCell ⟨s+4,0,none⟩ (.slice A m c)).setCell ⟨s+5,0,none⟩ (.int .i64 b)):=(f.mono fun j e=> .inl e).trans g fun j _ e=> .inr e
 refine⟨⟨d.size,fun k o hk ho hc=>(d.block k (Array.getElem?_eq_some_iff.1 ho).1 (fun e=>by omega)).trans ho⟩,?_,?_,Mf.OwnE.keptF h.own d (fun j hj e=>by have:=h.row j hj;omega),h.bel.trans ⟨d.os,d.tape,d.output,d.size,fun j hj=>d.block j (by have:=h.bel.size;omega) (fun e=>by omega)⟩⟩
 ·exact Kf.Blk.keptF (show Blk (V.setCell ⟨s+4,0,none⟩ (.slice A m c)) (s+4) [.slice A m c] 30 from Boxed.set (t:=30) (.slice A m c) h.r0) g (fun e=>by have l:s+4=s+5:=e;omega)
 ·exact Boxed.set (t:=3) (.int .i64 b) (show Boxed (V.setCell ⟨s+4,0,none⟩ (.slice A m c)) (s+5) 3 (.int .i64 0)from Kf.Blk.keptF h.r1 f (fun e=>by have l:s+5=s+4:=e;omega))
theorem aIS {w0:World}{i s:Nat}{n na ni:Int}{out:List Int}{A:Option Addr}{m c:Nat}{V:World}(h:Gth w0 i s n na ni out A m c V)(hs:w0.heap.size≤s)(b:Int)(D:Nat)(l:s+8≤D):
 KeepsFrom D V ((V.setCell ⟨s+4,0,none⟩ (.slice A m c)).setCell ⟨s+5,0,none⟩ (.int .i64 b)).drew∧Blk ((V.setCell ⟨s+4,0,none⟩ (.slice A m c)).setCell ⟨s+5,0,none⟩ (.int .i64 b)).drew (s+4) [.slice A m c] 30∧Blk ((V.setCell ⟨s+4,0,none⟩ (.slice A m c)).setCell ⟨s+5,0,none⟩ (.int .i64 b)).drew (s+5) [.int .i64 b] 3∧
  OwnE 27 1 ((V.setCell ⟨s+4,0,none⟩ (.slice A m c)).setCell ⟨s+5,0,none⟩ (.int .i64 b)).drew w0.heap.size A m c (out.map (Value.int .u64))∧Below w0.heap.size w0 ((V.setCell ⟨s+4,0,none⟩ (.slice A m c)).setCell ⟨s+5,0,none⟩ (.int .i64 b)).drew:=by
 obtain⟨f,k,j,g,d⟩:=aFM h hs b D l
 exact⟨⟨f.size,f.same⟩,k,j,Mf.OwnE.keptF g ((KeptF.refl (fun _=>False) _).drew) (fun _ _ e=>e),⟨d.os,d.tape,d.output,d.size,d.block⟩⟩
theorem aIT {w0:World}{D s:Nat}{n na ni:Int}{out:List Int}{A:Option Addr}{m c:Nat}{V:World}(h:Gth w0 D s n na ni out A m c V)(hs:w0.heap.size≤s){o:Obj}{w2:World}{d:Option Addr}{l:Nat}{y:Int}(C:OwnE 27 1 w2 w0.heap.size d (m+1) l (out.map (Value.int .u64)++ [.int .u64 y]))(J:(V.alloc o).grownBy w2 (ownB A))(B:ownB d=ownB A∨ownB d=some (V.alloc o).heap.size):
 Gth w0 D s n na ni (out++ [y]) d (m+1) l (w2.setCell ⟨s+1,0,none⟩ (.slice d (m+1) l))∧KpL w0.heap.size (s+1) V (w2.setCell ⟨s+1,0,none⟩ (.slice d (m+1) l))∧KeptF (fun j=>ownB A=some j∨j=s+1) V (w2.setCell ⟨s+1,0,none⟩ (.slice d (m+1) l))∧Blk w2 (s+1) [.slice A m c] 30:=by
 have H:=h.sz
 have E:KeptF (fun j=>ownB A=some j) V w2:=(KeptF.alloc (KeptF.refl _ V) o).grown J fun k e _=>e
 have z:=KeptF.set1 w2 (s+1) 0 (.slice d (m+1) l)
 have g:KeptF (fun j=>ownB A=some j∨j=s+1) V (w2.setCell ⟨s+1,0,none⟩ (.slice d (m+1) l)):=(E.mono fun j e=> .inl e).trans z fun j _ e=> .inr e
 have G:(V.alloc o).heap.size=V.heap.size+1:=by simp
 have f: ∀k,ownB d=some k→ownB A=some k∨k=V.heap.size+1:=fun k hk=>B.elim (fun e=> .inl (e▸hk)) (fun e=> .inr (by rw[e,G]at hk;injection hk with hk;exact hk.symm))
 have p: ∀k,ownB A=some k→k<s∨s+8≤k:=h.row
 have n0: ∀j,s≤j→j<s+6→j≠s+1→ ¬(ownB A=some j∨j=s+1):=fun j h1 h2 h3 e=>e.elim (fun e=>by have:=p j e;omega) h3
 have x:Blk w2 (s+1) [.slice A m c] 30:=Kf.Blk.keptF h.bl E (fun e=>by have:=p _ e;omega)
 have u:Blk (w2.setCell ⟨s+1,0,none⟩ (.slice d (m+1) l)) (s+1) [.slice d (m+1) l] 30:=Boxed.set (t:=30) (.slice d (m+1) l) x
 have r:Below w0.heap.size V (w2.setCell ⟨s+1,0,none⟩ (.slice d (m+1) l)):=⟨g.os,g.tape,g.output,g.size,fun j hj=>g.block j (by have:=h.bel.size;omega) (fun e=>e.elim (fun e=>by have:=(Dc.OwnE.ltB h.own j e).1;omega) (fun e=>by omega))⟩
 have I:rowOf (w2.setCell ⟨s+1,0,none⟩ (.slice d (m+1) l)) (s+1)=ownB d:=by
  unfold rowOf
  rw[u.cell (i:=0) rfl]
 refine⟨?_,⟨r,fun b q h1 h2 h3 h4=>?_,fun k hk=>?_⟩,g,x⟩
 ·exact
   {own:=Mf.OwnE.keptF (by rw[List.map_append];exact C) z (fun j hj e=>by
     have M:j=s+1:=e
     rcases f j hj with F|F
     ·have:=p j F;omega
     ·omega)
    len:=by simp[h.len]
    bv:=Kf.Blk.keptF h.bv g (n0 _ (by omega) (by omega) (by omega))
    bl:=u
    bc:=Kf.Blk.keptF h.bc g (n0 _ (by omega) (by omega) (by omega))
    bn:=Kf.Blk.keptF h.bn g (n0 _ (by omega) (by omega) (by omega))
    r0:=Kf.Blk.keptF h.r0 g (n0 _ (by omega) (by omega) (by omega))
    r1:=Kf.Blk.keptF h.r1 g (n0 _ (by omega) (by omega) (by omega))
    row:=fun k hk=>(f k hk).elim (p k) (fun e=>by omega)
    bel:=h.bel.trans r
    sz:=Nat.le_trans h.sz g.size}
 ·rw[aHR h]at h4
  exact(g.block b (Array.getElem?_eq_some_iff.1 h1).1 (fun e=>e.elim h4 h3)).trans h1
 ·rw[I]at hk
  rw[aHR h]
  have L:=Dc.OwnE.ltB C k hk
  have N:=z.size
  exact(f k hk).imp id (fun e=>⟨by omega,by omega⟩)
theorem aLE {w0 W:World}{D m c:Nat}{A:Option Addr}{xs:List Value}(g:OwnE 27 1 W w0.heap.size A m c xs)(i:Below w0.heap.size w0 W)(f:W.heap[D]? =some (.deferred (some [])))(l:w0.heap.size≤D)(o:Obj):
 OwnE 27 1 (W.putObj D o) w0.heap.size A m c xs∧Below w0.heap.size w0 (W.putObj D o):=by
 have b:=KeptF.grow _ (grownBy_putObj' W D o)
 refine⟨Mf.OwnE.keptF g b (fun j hj e=>?_),i.trans ⟨b.os,b.tape,b.output,b.size,fun j hj=>b.block j (by have:=i.size;omega) (fun e=>by injection e with e;omega)⟩⟩
 injection e with e
 subst e
 obtain⟨k,d⟩:=aBU g hj
 rw[d]at f
 cases f
attribute [local irreducible] HD.cells wpList Code.wp
def Gathered (w0:World)(R:List Int×Int)(e:Ending)(w':World):Prop:=Below w0.heap.size w0 w'∧ ∃A m c,e= .returned (.tuple #[.slice A m c,.int .i64 R.2])∧OwnE 27 1 w' w0.heap.size A m c (R.1.map (Value.int .u64))∧R.1.length=m
theorem aJQ {L:Nat}{h:HD}{A:Option Addr}{E c:Nat}{l:List Int}(w0:World)(v:ViewAt w0 L h A E c l)(bd:c≤maxLen)(a6:E≤800000)(bo:l.length≤800000)(aS:AllB l)(n na ni:Int)(a0:Nat)(bj:a0≤18446744073709551615)(hn:0≤n∧n≤18446744073709551615)(bC:0≤na∧na≤1000)(bH:0≤ni∧ni≤1000)(f:List Int)(A0:Option Addr)(H c0:Nat)(w:World)(hw:Below w0.heap.size w0 w)(ho:OwnE 27 1 w w0.heap.size A0 H c0 (f.map (Value.int .u64)))(av:f.length=H)(aC:Up E f):
 Calls Tryz.prog 146 #[.pointer (some ⟨L,0,none⟩),.slice A0 H c0,.int .u64 n,.int .u64 (a0:Int),.agg #[.int .i64 na,.int .i64 ni]] w (Gathered w0 (chase h l E n na ni (E+1) f a0 0)):=by
 have a1:=v
 have HO:=yH ho
 have HL:=yH av
 have bq:=yH aC
 have bA:H≤800000:=by
  unfold Up at aC
  rw[av]at aC
  omega
 have bG:IntKind.u64.wrap (H:Int)=(H:Int):=by rw[IntKind.wrap_u64];omega
 clear ho aC
 refine(callsIn_wide (n:=6)).1 ?_
 refine callsIn_of_wp_marks Tryz.func146 rfl trivial ?_ rfl
 refine wpIn_wide.2 ?_
 simp only[Tryz.ntmps146,List.size_toArray,List.length_cons,List.length_nil,Nat.reduceAdd,Nat.reduceSub,Array.replicate_succ,Array.replicate_zero,List.push_toArray,List.append_toArray,List.nil_append,List.cons_append]
 by_cases G:(H:Int)=n
 ·have aW:((H:Int)==n)=true:=by simpa using G
  have ay:decide ((H:Int)=n)=true:=by simpa using G
  rw[aAN h l E n na ni (E+1) f a0 0 (by rw[av];exact G)]
  have B6:=yH (((((((Below.refl w.heap.size w).alloc (yR _) (.cells #[.pointer (some ⟨L,0,none⟩)] 51)).alloc (by simp) (.cells #[.slice A0 H c0] 30)).alloc (by simp<;>omega) (.cells #[.int .u64 n] 27)).alloc (by simp<;>omega) (.cells #[.int .i64 na,.int .i64 ni] 253)).alloc (by simp<;>omega) (.cells #[.slice A0 H c0] 30)).alloc (by simp<;>omega) (.cells #[.int .i64 0] 3))
  have hs0:=hw.size
  have O6:=HO.out.kept B6.out (yR _)
  go_wp2
  refine⟨.tuple #[.slice A0 H c0,.int .i64 0],by simp[results,Tryz.results146,go_sem,Result.andThen],?_⟩
  exact⟨hw.trans (B6.out.mono hs0),A0,H,c0,rfl,O6,HL.out⟩
 ·have aW:((H:Int)==n)=false:=by simpa using G
  have ay:decide ((H:Int)=n)=false:=by simpa using G
  go_upto_region 3 with fail
  have hs0:=hw.size
  obtain⟨s,hs⟩: ∃s,w.heap.size=s:=⟨_,rfl⟩
  have K0:=((((((Blk.new w [.pointer (some ⟨L,0,none⟩)] 51).alloc (.cells #[.slice A0 H c0] 30)).alloc (.cells #[.int .u64 n] 27)).alloc (.cells #[.int .i64 na,.int .i64 ni] 253)).alloc (.cells #[.slice none 0 0] 30)).alloc (.cells #[.int .i64 0] 3))
  have K1:=(((((Blk.new (w.alloc (.cells #[.pointer (some ⟨L,0,none⟩)] 51)) [.slice A0 H c0] 30).alloc (.cells #[.int .u64 n] 27)).alloc (.cells #[.int .i64 na,.int .i64 ni] 253)).alloc (.cells #[.slice none 0 0] 30)).alloc (.cells #[.int .i64 0] 3))
  have K2:=((((Blk.new ((w.alloc (.cells #[.pointer (some ⟨L,0,none⟩)] 51)).alloc (.cells #[.slice A0 H c0] 30)) [.int .u64 n] 27).alloc (.cells #[.int .i64 na,.int .i64 ni] 253)).alloc (.cells #[.slice none 0 0] 30)).alloc (.cells #[.int .i64 0] 3))
  have K3:=(((Blk.new (((w.alloc (.cells #[.pointer (some ⟨L,0,none⟩)] 51)).alloc (.cells #[.slice A0 H c0] 30)).alloc (.cells #[.int .u64 n] 27)) [.int .i64 na,.int .i64 ni] 253).alloc (.cells #[.slice none 0 0] 30)).alloc (.cells #[.int .i64 0] 3))
  have K4:=((Blk.new ((((w.alloc (.cells #[.pointer (some ⟨L,0,none⟩)] 51)).alloc (.cells #[.slice A0 H c0] 30)).alloc (.cells #[.int .u64 n] 27)).alloc (.cells #[.int .i64 na,.int .i64 ni] 253)) [.slice none 0 0] 30).alloc (.cells #[.int .i64 0] 3))
  have K5:=(Blk.new (((((w.alloc (.cells #[.pointer (some ⟨L,0,none⟩)] 51)).alloc (.cells #[.slice A0 H c0] 30)).alloc (.cells #[.int .u64 n] 27)).alloc (.cells #[.int .i64 na,.int .i64 ni] 253)).alloc (.cells #[.slice none 0 0] 30)) [.int .i64 0] 3)
  have B6:=((((((Below.refl w.heap.size w).alloc (yR _) (.cells #[.pointer (some ⟨L,0,none⟩)] 51)).alloc (by simp) (.cells #[.slice A0 H c0] 30)).alloc (by simp<;>omega) (.cells #[.int .u64 n] 27)).alloc (by simp<;>omega) (.cells #[.int .i64 na,.int .i64 ni] 253)).alloc (by simp<;>omega) (.cells #[.slice none 0 0] 30)).alloc (by simp<;>omega) (.cells #[.int .i64 0] 3)
  have S6:((((((w.alloc (.cells #[.pointer (some ⟨L,0,none⟩)] 51)).alloc (.cells #[.slice A0 H c0] 30)).alloc (.cells #[.int .u64 n] 27)).alloc (.cells #[.int .i64 na,.int .i64 ni] 253)).alloc (.cells #[.slice none 0 0] 30)).alloc (.cells #[.int .i64 0] 3)).heap.size=s+6:=by simp only[World.alloc,Array.size_push];omega
  simp only[World.size_alloc,hs,Nat.add_assoc,Nat.reduceAdd]at K0 K1 K2 K3 K4 K5⊢
  generalize ((((((w.alloc (.cells #[.pointer (some ⟨L,0,none⟩)] 51)).alloc (.cells #[.slice A0 H c0] 30)).alloc (.cells #[.int .u64 n] 27)).alloc (.cells #[.int .i64 na,.int .i64 ni] 253)).alloc (.cells #[.slice none 0 0] 30)).alloc (.cells #[.int .i64 0] 3))=w6 at*
  have c5:=K0.cell (i:=0) rfl
  have aN:=yH (aLD L (a0:Int) w6)
  rw[S6]at aN
  have K6:=(Blk.new w6 [.pointer (some ⟨L,0,none⟩)] 51).alloc (.cells #[.int .u64 (a0:Int)] 27)
  have K7:=Blk.new (w6.alloc (.cells #[.pointer (some ⟨L,0,none⟩)] 51)) [.int .u64 (a0:Int)] 27
  have B8:Below w6.heap.size w6 ((w6.alloc (.cells #[.pointer (some ⟨L,0,none⟩)] 51)).alloc (.cells #[.int .u64 (a0:Int)] 27)):=((Below.refl _ _).alloc (yR _) _).alloc (by simp) _
  have S8:((w6.alloc (.cells #[.pointer (some ⟨L,0,none⟩)] 51)).alloc (.cells #[.int .u64 (a0:Int)] 27)).heap.size=s+8:=by simp only[World.alloc,Array.size_push];omega
  go_wp2_with(first
   |(go_at_call 192;(refine aN.out.mono ?_);rintro e w7 ⟨rfl,rfl⟩)
   |fail)
  simp only[World.size_alloc,S6]at K6 K7
  generalize (w6.alloc (.cells #[.pointer (some ⟨L,0,none⟩)] 51)).alloc (.cells #[.int .u64 (a0:Int)] 27)=W0 at*
  have aB:Hid (Gth w0 L s n na ni f A0 H c0 W0):=yH
   {own:=(HO.out.kept (B6.trans (B8.mono (by omega))) (by omega)),len:=HL.out
    bv:=K0.below B8 (by omega),bl:=K1.below B8 (by omega),bc:=K2.below B8 (by omega),bn:=K3.below B8 (by omega)
    r0:=K4.below B8 (by omega),r1:=K5.below B8 (by omega)
    row:=fun k hk=> .inl (by have:=(Dc.OwnE.ltB HO.out _ hk).2;omega)
    bel:=hw.trans ((B6.trans (B8.mono (by omega))).mono (by omega)),sz:=by omega}
  have a7:Mid w0 L (s+6) (s+7) (s+1) a0 W0:=
   {bel:=aB.out.bel,v:=K6.cell (i:=0) rfl,at_:=K7
    row:=fun k hk=>by
     rw[aHR aB.out]at hk
     have:=(Dc.OwnE.ltB HO.out _ hk).2
     omega}
  have br:=yH fun(x:Int) (V:World) (hV:Below w0.heap.size w0 V)=>aIP x V (a1.below hV)
  have aZ:=yH fun(xs:List (Int×Int)) (out:List Int) (h1:xs=yl h l E (E+1) a0 0) (h2:after E n ni xs f=some out)=>show chase h l E n na ni (E+1) f a0 0=(out,na)by
   rw[←aLv h l aS E n na ni (E+1) a0 0 f (Nat.zero_le _) (by omega) (by rw[av];exact G),←h1]
   have h3:=aB6 E n na ni xs [] f out h2
   rw[List.append_nil]at h3
   rw[h3];rfl
  have aR:=yH fun(p rest:List (Int×Int)) (R:List Int×Int) (h1:yl h l E (E+1) a0 0=p++rest) (h2: ∀r,runY E n na ni (p++r) f=R)=>show chase h l E n na ni (E+1) f a0 0=R by
   rw[←aLv h l aS E n na ni (E+1) a0 0 f (Nat.zero_le _) (by omega) (by rw[av];exact G),h1]
   exact h2 rest
  generalize chase h l E n na ni (E+1) f a0 0=R at*
  clear K0 K1 K2 K3 K4 K5 K6 K7 B6 c5 aN
  refine wpIn_wide.1 (aLx (F:=Fence.wide) (n:=5) rfl (by omega) (gf:=231) (lb:= #[.pointer (some ⟨s+6,0,none⟩),.pointer (some ⟨s+7,0,none⟩)]) rfl trivial (enters_of Tryz.func231 (by kernel_rfl) rfl)
   (aJN w0 a1 bd a6 bo aS (s+6) (s+7) (s+1) a0 4 (by omega) W0 a7 (by omega) (by omega) (by omega) (by omega) (by omega) (by omega) bj)
   (fun X Y hXY k o hk ho hc=>(hXY.block k (Array.getElem?_eq_some_iff.1 ho).1 (fun e=>by have e1:k=s+7:=e;omega)).trans ho)
   (fun h k=>KpL.trans h k) (fun V q o o' h1 h2 h3 h4=>KpL.put (d:=W0.heap.size) (by omega) (by omega) V q o o' h1 h2 h3) (fun _=>rfl)
   (fun p W=> ∃(out:List Int) (A:Option Addr) (m c:Nat),after E n ni p f=some out∧(m:Int)≠n∧Up E out∧Gth w0 L s n na ni out A m c W)
   (fun cd p W=>cd= .ret∧ ∃(o:List Int) (t:Int) (A:Option Addr) (m c:Nat),(∀r,runY E n na ni (p++r) f=(o,t))∧Blk W (s+4) [.slice A m c] 30∧Blk W (s+5) [.int .i64 t] 3∧OwnE 27 1 W w0.heap.size A m c (o.map (Value.int .u64))∧o.length=m∧(∀k,ownB A=some k→k<s∨s+8≤k)∧Below w0.heap.size w0 W)
   ?ownI ?ownX ?abI ?abX ⟨f,A0,H,c0,rfl,G,bq.out,aB.out⟩
   (fun x=>{tmps:= #[.pointer (some ⟨L,0,none⟩),.slice A0 H c0,.int .u64 n,.int .u64 (a0:Int),.agg #[.int .i64 na,.int .i64 ni],.pointer (some ⟨s,0,none⟩),.pointer (some ⟨s+1,0,none⟩),.pointer (some ⟨s+2,0,none⟩),undef,.pointer (some ⟨s+3,0,none⟩),.pointer (some ⟨s+4,0,none⟩),.pointer (some ⟨s+5,0,none⟩),.int .u64 x.1,.int .i64 x.2,.slice A0 H c0,.int .i64 (H:Int),.int .u64 (H:Int),.int .u64 n,.bool false,undef,.pointer (some ⟨L,0,none⟩),.int .u64 (a0:Int),.func (.func 231) #[] #[.pointer (some ⟨s+6,0,none⟩),.pointer (some ⟨s+7,0,none⟩)],.int .u64 x.1,.int .i64 x.2,undef,undef,undef,undef,undef,undef,undef,undef,undef,undef,undef,undef,undef,undef,undef,undef,undef,undef,undef,undef,undef,undef,undef,undef,undef,undef,undef,undef,undef,undef,undef,undef,undef,undef,undef,undef,undef,undef,undef,undef],defers:=[]}) ?assign ?body ?done ?stop)
  case assign=>
   intro q x V K hK
   gi_wp2
   exact hK
  case ownI=>
   rintro p V V' row ⟨out,A1,g,c1,h1,h2,h3,I⟩ hg hr
   refine⟨out,A1,g,c1,h1,h2,h3,I.keptF (KeptF.grow row hg) (fun j hj _ e=>?_) (fun j hj e=>?_) (fun j hj e=>?_)⟩
   ·have:=(hr j e).1;omega
   ·obtain⟨_,o,aa,aj⟩:=hr j e
    obtain⟨aJ,M⟩:=aBU I.own hj
    rw[M]at aa
    injection aa with aa
    rw[←aa]at aj
    cases aj
   ·have:=(hr j e).1;omega
  case ownX=>
   rintro cd p V V' row ⟨rfl,o,t,A1,g,c1,h1,b4,b5,aa,ah,aw,J⟩ hg hr
   have kk:=KeptF.grow row hg
   refine⟨rfl,o,t,A1,g,c1,h1,Kf.Blk.keptF b4 kk (fun e=>?_),Kf.Blk.keptF b5 kk (fun e=>?_),Mf.OwnE.keptF aa kk (fun j hj e=>?_),ah,aw,J.trans ⟨kk.os,kk.tape,kk.output,kk.size,fun j hj=>kk.block j (by have:=J.size;omega) (fun e=>?_)⟩⟩
   ·have:=(hr _ e).1;omega
   ·have:=(hr _ e).1;omega
   ·obtain⟨_,o2,aj,aY⟩:=hr j e
    obtain⟨aJ,M⟩:=aBU aa hj
    rw[M]at aj
    injection aj with aj
    rw[←aj]at aY
    cases aY
   ·have:=(hr _ e).1;omega
  case abI=>
   rintro p V V' ⟨out,A1,g,c1,h1,h2,h3,I⟩ kk
   refine⟨out,A1,g,c1,h1,h2,h3,I.keptF kk (fun j hj _ e=>?_) (fun j hj e=>?_) (fun j hj e=>?_)⟩
   ·have e1:j=s+7:=e;omega
   ·have e1:j=s+7:=e;have:=I.row j hj;omega
   ·have e1:j=s+7:=e;omega
  case abX=>
   rintro cd p V V' ⟨rfl,o,t,A1,g,c1,h1,b4,b5,aa,ah,aw,J⟩ kk
   refine⟨rfl,o,t,A1,g,c1,h1,Kf.Blk.keptF b4 kk (fun e=>?_),Kf.Blk.keptF b5 kk (fun e=>?_),Mf.OwnE.keptF aa kk (fun j hj e=>?_),ah,aw,J.trans ⟨kk.os,kk.tape,kk.output,kk.size,fun j hj=>kk.block j (by have:=J.size;omega) (fun e=>?_)⟩⟩
   ·have e1:s+4=s+7:=e;omega
   ·have e1:s+5=s+7:=e;omega
   ·have e1:j=s+7:=e;have:=aw j hj;omega
   ·have e1:j=s+7:=e;omega
  case body=>
   rintro q p x V a5 ⟨out,A1,g,c1,h1,h2,h3,I⟩
   obtain⟨y,z⟩:=x
   have bD:0≤y:=a5
   clear a5
   have cv:=I.bv.cell (i:=0) rfl
   have cl:=I.bl.cell (i:=0) rfl
   have cc:=I.bc.cell (i:=0) rfl
   have bm:=I.bn.cell (i:=0) rfl
   have bw:=I.bn.cell (i:=1) rfl
   have c4:=I.r0.cell (i:=0) rfl
   have c5:=I.r1.cell (i:=0) rfl
   have f1:=I.bl.frozen 0
   have f4:=I.r0.frozen 0
   have f5:=I.r1.frozen 0
   have bz:g≤800000:=by
    have h4:=h3
    unfold Up at h4
    rw[I.len]at h4
    omega
   have HG:=yH I
   have H1:=yH h1
   have H3:=yH h3
   have HD:=yH (show s+8≤W0.heap.size by omega)
   have al:=yH (show w0.heap.size≤s by omega)
   have ax:=yH fun(V':World) (hV:Below V.heap.size V V')=>br.out y V' (HG.out.bel.trans (hV.mono HG.out.bel.size))
   clear I h1 h3 aB a7 B8 hw hs0
   have bE:1≤5-1-1:=by omega
   have HR:=yH fun(t:Int) (ag:Wd.step E n ni out (y,z)=(out,some t))=>show ∀r,runY E n na ni (p++ [(y,z)]++r) f=(out,t)from fun r=>by
    rw[show p++ [(y,z)]++r=p++((y,z)::r)by simp,aB6 E n na ni p _ f out H1.out,aBy,ag]
   have a9:=yH fun(t:Int)=>aFM HG.out al.out t W0.heap.size HD.out
   have aL:=yH fun(t:Int)=>aIS HG.out al.out t W0.heap.size HD.out
   by_cases hz:z≠0
   ·have d1:(z==0)=false:=by simpa using hz
    have d2:decide (z=0)=false:=by simpa using hz
    have d3:(z !=0)=true:=by simpa using hz
    gi_wp2
    obtain⟨r2,r3,r4,r5,r6⟩:=a9.out z
    exact⟨r2,rfl,out,z,A1,g,c1,HR.out z (by unfold Wd.step;rw[if_pos hz]),r3,r4,r5,HG.out.len,HG.out.row,r6⟩
   have bp:z=0:=by simpa using hz
   subst bp
   clear hz
   by_cases hno:nothB E y=true
   ·have ag:Wd.step E n ni out (y,0)=(out,some ni):=by unfold Wd.step;rw[if_neg (by simp),if_pos hno]
    have aH:=yH (HR.out ni ag)
    clear ag
    gi_wp2_with (first
     |(refine⟨trivial,?_⟩;gi_at_call 193;refine(CallsIn.inRound q (callsIn_wide.2 (ax.out _ (Below.refl _ _)))).mono ?_;rintro e w1 ⟨rfl,rfl⟩;(try rw[hno]))
     |fail)
    gi_region
    all_goals gi_wp2
    all_goals
     obtain⟨r2,r3,r4,r5,r6⟩:=aL.out ni
     exact⟨r2,rfl,out,ni,A1,g,c1,aH.out,r3,r4,r5,HG.out.len,HG.out.row,r6⟩
   have N:nothB E y=false:=by simpa using hno
   have Z:=HG.out.len
   by_cases ab:0<g∧y≤lastI out
   ·have ag:Wd.step E n ni out (y,0)=(out,some 13):=by unfold Wd.step;rw[if_neg (by simp),if_neg (by simpa using N),if_pos ⟨by rw[Z];exact ab.1,ab.2⟩]
    have aH:=yH (HR.out 13 ag)
    obtain⟨ak,ab⟩:=ab
    obtain⟨m3,aX⟩: ∃q,g=q+1:=⟨g-1,by omega⟩
    have hq:IntKind.i64.wrap ((g:Int)-1)=(m3:Int):=by rw[IntKind.wrap_i64];omega
    obtain⟨gq,aQ,_,_,aM⟩:=HG.out.own.cell (i:=m3) (by rw[HG.out.own.len];omega)
    rw[aCP out m3 (by omega)]at aM
    subst aQ
    generalize lastI out=lz at*
    have e4:decide ((g:Int)>0)=true:=by simp;omega
    have e5:decide (0<g)=true:=by simp;omega
    have e6:decide ((0:Int)<(g:Int))=true:=by simp;omega
    have e7:decide (y≤lz)=true:=by simpa using ab
    have bk:m3<g:=by omega
    have e8:decide ((m3:Int)<(g:Int))=true:=by simp;omega
    clear ag hno aX Z ak
    gi_wp2_with (first
     |(refine⟨trivial,?_⟩;gi_at_call 193;refine(CallsIn.inRound q (callsIn_wide.2 (ax.out _ (Below.refl _ _)))).mono ?_;rintro e w1 ⟨rfl,rfl⟩;(try rw[N]))
     |fail)
    obtain⟨r2,r3,r4,r5,r6⟩:=a9.out 13
    exact⟨r2,rfl,out,13,_,g,c1,aH.out,r3,r4,r5,HG.out.len,HG.out.row,r6⟩
   have HY:=yH ab
   have aD:lastI out<y:=by
    rcases Nat.eq_zero_or_pos g with h5|h5
    ·have h6:out=[]:=List.eq_nil_of_length_eq_zero (by omega)
     rw[h6]
     simp[nothB]at N
     simp[lastI]
     omega
    ·have:=fun h6=>ab ⟨h5,h6⟩;omega
   have aE:=yH (H3.out.snoc aD N)
   have an: ∀b:Option Int,(if(((out++ [y]).length:Nat):Int)=n then some (0:Int)else none)=b→Wd.step E n ni out (y,0)=(out++ [y],b):=fun b hb=>by
    unfold Wd.step
    rw[if_neg (by simp),if_neg (by simpa using N),if_neg (by rw[Z];exact ab),←hb]
    split<;>rfl
   have ah:(((out++ [y]).length:Nat):Int)=(g:Int)+1:=by rw[List.length_append,List.length_singleton,Z];omega
   rw[ah]at an
   have aA:=yH an
   have bu:IntKind.u64.wrap ((g+1:Nat):Int)=((g+1:Nat):Int):=by rw[IntKind.wrap_u64];omega
   clear an hno
   rcases Nat.eq_zero_or_pos g with ak|ak
   ·have e4:decide ((g:Int)>0)=false:=by simp;omega
    have e5:decide (0<g)=false:=by simp;omega
    have e6:decide ((0:Int)<(g:Int))=false:=by simp;omega
    clear ab Z aD ak
    gi_upto_region 13 with(first
     |(refine⟨trivial,?_⟩;gi_at_call 193;refine(CallsIn.inRound q (callsIn_wide.2 (ax.out _ (Below.refl _ _)))).mono ?_;rintro e w1 ⟨rfl,rfl⟩;(try rw[N]))
     |(gi_at_builtin;refine aAQ aBC rfl (.tmp 52) (.tmp 54) rfl w0.heap.size A1 g c1 (out.map (Value.int .u64)) rfl (OwnE.alloc HG.out.own _) ⟨V.heap.size,0,none⟩ 1 1 [.int .u64 y] rfl rfl (Blk.news (Blk.new V [.int .u64 y] 27)) (by intro u hu;simp at hu;subst hu;rfl) (by omega) (by omega) (by unfold maxLen;omega) ?_;intro A5 c5 w5 aq ap af;have HP:=yH (aIT HG.out al.out aq ap af);clear aq ap af;have aV:=HP.out.2.2.2.cell (i:=0) rfl;have aI:=HP.out.2.2.2.frozen 0)
     |fail)
    obtain⟨C,au,ai,_⟩:=HP.out
    have bh:=C.bl.cell (i:=0) rfl
    have bi:=C.bc.cell (i:=0) rfl
    have bb:=C.r0.cell (i:=0) rfl
    have bf:=C.r1.cell (i:=0) rfl
    have bt:=C.r0.frozen 0
    have bg:=C.r1.frozen 0
    have ac:=yH C
    have aU:=yH au
    have ae:KeepsFrom W0.heap.size V (w5.setCell ⟨s+1,0,none⟩ (.slice A5 (g+1) c5)):=⟨ai.size,fun k o hk ho hc=>(ai.block k (Array.getElem?_eq_some_iff.1 ho).1 (fun e=>by
     have:=HD.out
     rcases e with e|e
     ·obtain⟨aJ,M⟩:=aBU HG.out.own e
      rw[M]at ho
      injection ho with ho
      rw[←ho]at hc
      cases hc
     ·omega)).trans ho⟩
    have ad:=yH ae
    clear C au ai ae HP aV aI
    generalize w5.setCell ⟨s+1,0,none⟩ (.slice A5 (g+1) c5)=w6 at*
    by_cases am:(g:Int)+1=n
    ·have B:((g+1:Nat):Int)=n:=by omega
     have d7:(((g+1:Nat):Int)==n)=true:=by simpa using B
     have d8:decide (((g+1:Nat):Int)=n)=true:=by simpa using B
     have aG:=yH fun r=>show runY E n na ni (p++ [(y,0)]++r) f=(out++ [y],0)from by
      rw[show p++ [(y,0)]++r=p++((y,0)::r)by simp,aB6 E n na ni p _ f out H1.out,aBy,aA.out (some 0) (if_pos am)]
     have ar:=yH (aFM ac.out al.out 0 W0.heap.size HD.out)
     gi_wp2
     obtain⟨r2,r3,r4,r5,r6⟩:=ar.out
     exact⟨ad.out.trans r2,rfl,out++ [y],0,_,g+1,c5,aG.out,r3,r4,r5,ac.out.len,ac.out.row,r6⟩
    ·have B: ¬((g+1:Nat):Int)=n:=by omega
     have d7:(((g+1:Nat):Int)==n)=false:=by simpa using B
     have d8:decide (((g+1:Nat):Int)=n)=false:=by simpa using B
     have aF:=yH (aE4 E n ni (y,0) p f out (out++ [y]) H1.out (aA.out none (if_neg am)))
     have aK:=yH B
     gi_wp2
     exact⟨ad.out,aU.out,out++ [y],A5,g+1,c5,aF.out,aK.out,aE.out,ac.out⟩
   ·obtain⟨m3,aX⟩: ∃q,g=q+1:=⟨g-1,by omega⟩
    have hq:IntKind.i64.wrap ((g:Int)-1)=(m3:Int):=by rw[IntKind.wrap_i64];omega
    obtain⟨gq,aQ,_,_,aM⟩:=HG.out.own.cell (i:=m3) (by rw[HG.out.own.len];omega)
    rw[aCP out m3 (by omega)]at aM
    subst aQ
    have bx:=yH aD
    have bB:=yH ak
    have bF:=yH Z
    have ba: ¬y≤lastI out:=by omega
    have e7:decide (y≤lastI out)=false:=by simpa using ba
    generalize lastI out=lz at*
    have e4:decide ((g:Int)>0)=true:=by simp;omega
    have e5:decide (0<g)=true:=by simp;omega
    have e6:decide ((0:Int)<(g:Int))=true:=by simp;omega
    have bk:m3<g:=by omega
    have e8:decide ((m3:Int)<(g:Int))=true:=by simp;omega
    clear aX Z ak aD ba ab
    gi_upto_region 13 with(first
     |(refine⟨trivial,?_⟩;gi_at_call 193;refine(CallsIn.inRound q (callsIn_wide.2 (ax.out _ (Below.refl _ _)))).mono ?_;rintro e w1 ⟨rfl,rfl⟩;(try rw[N]))
     |(gi_at_builtin;refine aAQ aBC rfl (.tmp 52) (.tmp 54) rfl w0.heap.size (some ⟨gq,0,none⟩) g c1 (out.map (Value.int .u64)) rfl (OwnE.alloc HG.out.own _) ⟨V.heap.size,0,none⟩ 1 1 [.int .u64 y] rfl rfl (Blk.news (Blk.new V [.int .u64 y] 27)) (by intro u hu;simp at hu;subst hu;rfl) (by omega) (by omega) (by unfold maxLen;omega) ?_;intro A5 c5 w5 aq ap af;have HP:=yH (aIT HG.out al.out aq ap af);clear aq ap af;have aV:=HP.out.2.2.2.cell (i:=0) rfl;have aI:=HP.out.2.2.2.frozen 0)
     |fail)
    obtain⟨C,au,ai,_⟩:=HP.out
    have bh:=C.bl.cell (i:=0) rfl
    have bi:=C.bc.cell (i:=0) rfl
    have bb:=C.r0.cell (i:=0) rfl
    have bf:=C.r1.cell (i:=0) rfl
    have bt:=C.r0.frozen 0
    have bg:=C.r1.frozen 0
    have ac:=yH C
    have aU:=yH au
    have ae:KeepsFrom W0.heap.size V (w5.setCell ⟨s+1,0,none⟩ (.slice A5 (g+1) c5)):=⟨ai.size,fun k o hk ho hc=>(ai.block k (Array.getElem?_eq_some_iff.1 ho).1 (fun e=>by
     have:=HD.out
     rcases e with e|e
     ·obtain⟨aJ,M⟩:=aBU HG.out.own e
      rw[M]at ho
      injection ho with ho
      rw[←ho]at hc
      cases hc
     ·omega)).trans ho⟩
    have ad:=yH ae
    clear C au ai ae HP aV aI
    generalize w5.setCell ⟨s+1,0,none⟩ (.slice A5 (g+1) c5)=w6 at*
    by_cases am:(g:Int)+1=n
    ·have B:((g+1:Nat):Int)=n:=by omega
     have d7:(((g+1:Nat):Int)==n)=true:=by simpa using B
     have d8:decide (((g+1:Nat):Int)=n)=true:=by simpa using B
     have aG:=yH fun r=>show runY E n na ni (p++ [(y,0)]++r) f=(out++ [y],0)from by
      rw[show p++ [(y,0)]++r=p++((y,0)::r)by simp,aB6 E n na ni p _ f out H1.out,aBy,aA.out (some 0) (if_pos am)]
     have ar:=yH (aFM ac.out al.out 0 W0.heap.size HD.out)
     gi_wp2
     obtain⟨r2,r3,r4,r5,r6⟩:=ar.out
     exact⟨ad.out.trans r2,rfl,out++ [y],0,_,g+1,c5,aG.out,r3,r4,r5,ac.out.len,ac.out.row,r6⟩
    ·have B: ¬((g+1:Nat):Int)=n:=by omega
     have d7:(((g+1:Nat):Int)==n)=false:=by simpa using B
     have d8:decide (((g+1:Nat):Int)=n)=false:=by simpa using B
     have aF:=yH (aE4 E n ni (y,0) p f out (out++ [y]) H1.out (aA.out none (if_neg am)))
     have aK:=yH B
     gi_wp2
     exact⟨ad.out,aU.out,out++ [y],A5,g+1,c5,aF.out,aK.out,aE.out,ac.out⟩
  case done=>
   rintro D xs V hD a2 ⟨out,A1,g,c1,h1,h2,h3,I⟩ hK
   have ao:=aZ.out xs out a2 h1
   have cl:=I.bl.cell (i:=0) rfl
   have bm:=I.bn.cell (i:=0) rfl
   have c4:=I.r0.cell (i:=0) rfl
   have c5:=I.r1.cell (i:=0) rfl
   have f4:=I.r0.frozen 0
   have f5:=I.r1.frozen 0
   have a3:w0.heap.size≤s:=by omega
   have aL:=yH (aIS I a3 na W0.heap.size (by omega))
   have aT:=yH ao
   have bs:=yH hK
   have HG:=yH I
   have az:=yH hD
   clear hK ao h1 a2
   go_upto_region 15 with fail
   go_region
   all_goals
    go_wp2
    obtain⟨r2,r3,r4,r5,r6⟩:=aL.out
    have a4:=r2.same D _ az.out bs.out rfl
    obtain⟨o1,o2⟩:=aLE r5 r6 a4 (by have:=az.out;omega) (.deferred none)
    have aO:=(World.cell?_of_block (a:=⟨s+4,0,none⟩) (World.putObj_heap_other (w:=((V.setCell ⟨s+4,0,none⟩ (.slice A1 g c1)).setCell ⟨s+5,0,none⟩ (.int .i64 na)).drew) (o:= .deferred none) (show s+4≠D by have:=az.out;omega))).trans (r3.cell (i:=0) rfl)
    have aP:=(World.cell?_of_block (a:=⟨s+5,0,none⟩) (World.putObj_heap_other (w:=((V.setCell ⟨s+4,0,none⟩ (.slice A1 g c1)).setCell ⟨s+5,0,none⟩ (.int .i64 na)).drew) (o:= .deferred none) (show s+5≠D by have:=az.out;omega))).trans (r4.cell (i:=0) rfl)
    refine⟨by simp,.inl ⟨_,_,rfl,run_takeDeferred a4,?_⟩⟩
    refine⟨.tuple #[.slice A1 g c1,.int .i64 na],by simp[results,Tryz.results146,go_sem,Result.andThen,aO,aP],?_⟩
    rw[aT.out]
    exact⟨o2,A1,g,c1,rfl,o1,HG.out.len⟩
  case stop=>
   rintro D cd p V hD ⟨rest,a8⟩ ⟨rfl,o,t,A1,g,c1,h1,b4,b5,aa,ah,aw,J⟩ hK
   have ao:=aR.out p rest (o,t) a8 h1
   obtain⟨o1,o2⟩:=aLE aa J hK (by omega) (.deferred none)
   have aO:=(World.cell?_of_block (a:=⟨s+4,0,none⟩) (World.putObj_heap_other (w:=V) (o:= .deferred none) (show s+4≠D by omega))).trans (b4.cell (i:=0) rfl)
   have aP:=(World.cell?_of_block (a:=⟨s+5,0,none⟩) (World.putObj_heap_other (w:=V) (o:= .deferred none) (show s+5≠D by omega))).trans (b5.cell (i:=0) rfl)
   have aT:=yH ao
   clear ao
   gi_wp2
   refine⟨by simp,.inl ⟨_,_,rfl,run_takeDeferred hK,?_⟩⟩
   refine⟨.tuple #[.slice A1 g c1,.int .i64 t],by simp[results,Tryz.results146,go_sem,Result.andThen,aO,aP],?_⟩
   rw[aT.out]
   exact⟨o2,A1,g,c1,rfl,o1,ah⟩
end Wk
namespace Wl
open Bytes8 Blk8 Own8 OwnE Ga Gb Ok7 Rc Va Dc Wa Wk
open Ye Yg Yh
open Rd (dcode)
open Lk (aEk)
attribute [local irreducible] HD.cells wpList Code.wp
theorem aHS {s:Nat}{h:HD}{A:Option Addr}{E c:Nat}{l:List Int}(w:World)(v:ViewAt w s h A E c l)(o:c≤maxLen)(f:E≤800000)(p:l.length≤800000)(r:AllB l)(g:h.Ok 21):
 Calls Tryz.prog 88 #[.pointer (some ⟨s,0,none⟩)] w (TellL (chase h l E (h.N 8) 14 2 (E+1) [] (h.N 11).toNat 0) w):=by
 have x:=yH (aEk w v.blk)
 have y:=g.N 8
 have H:=g.N 11
 have j:((h.N 11).toNat:Int)=h.N 11:=by omega
 have b:=yH fun(W:World) (hW:Below w.heap.size w W)=>by
  have q:=aJQ w v o f p r (h.N 8) 14 2 (h.N 11).toNat (by omega) y (by decide) (by decide) [] none 0 0 W hW (OwnE.nil W w.heap.size hW.size) rfl (Up.nil E)
  rw[j]at q
  exact q
 clear v
 unfold Gathered at b
 unfold TellL
 generalize chase h l E (h.N 8) 14 2 (E+1) [] (h.N 11).toNat 0=R at*
 go_enter Tryz.func88,Tryz.ntmps88
 go_upto_region 2 with(first
  |(go_at_call 85;(refine x.out.mono ?_);rintro e w1 ⟨rfl,i⟩;have n:=yH i;clear i)
  |((with_reducible apply aAa (.tmp 4) (.tmp 6));refine wpList_store_row rfl 39 (.tmp 4) (.tmp 6) rfl w1.heap.size (h.cells 21).toArray rfl rfl 39 Tryz.zeroCells39 (heap_alloc_new w1 _) (aAf _) aAB (HD.one _ 21) ?_)
  |fail)
 have t:=yH (show Blk ((w1.alloc (.cells Tryz.zeroCells39 39)).setRow w1.heap.size (h.cells 21).toArray) w1.heap.size (h.cells 21) 39 from setRow_heap _ _ _ _ _ (0,0) (heap_alloc_new w1 _))
 have C:=yH (show Below w.heap.size w ((w1.alloc (.cells Tryz.zeroCells39 39)).setRow w1.heap.size (h.cells 21).toArray)from below_setRow (n.out.alloc n.out.size _) n.out.size _)
 generalize (w1.alloc (.cells Tryz.zeroCells39 39)).setRow w1.heap.size (h.cells 21).toArray=w2 at*
 generalize w1.heap.size=u at*
 have F:w2.cell? ⟨u,75,none⟩=some (.int .u64 (h.N 8)):=t.out.cell (h.get_N 21 8 (by decide))
 have D:w2.cell? ⟨u,78,none⟩=some (.int .u64 (h.N 11)):=t.out.cell (h.get_N 21 11 (by decide))
 clear x n
 go_wp2_with(first
  |(go_at_call 146;(refine(b.out _ C.out).mono ?_);rintro e w3 ⟨k,L,B,z,rfl,d,m⟩;have J:=yH k;have I:=yH d;have G:=yH m;clear k d m)
  |fail)
 go_ret2
 exact⟨J.out,L,B,z,rfl,I.out,G.out⟩
end Wl
namespace Wm
open Ga Gb
open Ye Yh
open Rd (dcode)
open Lk (aEk)
attribute [local irreducible] HD.cells wpList Code.wp
end Wm
namespace Ls
open Bytes8 Blk8 Own8 OwnE Rows2 Ga Gb Dc Wa
open Ye Yh
open Rd (dcode)
open Rg (arcode)
open Ma (roomN)
def U64 (out:List Int):Prop:= ∀x∈out,0≤x∧x≤18446744073709551615
def Fit (E:Nat)(out:List Int):Prop:=Up E out∧U64 out
theorem U64.snoc {out:List Int}{x:Int}(h:U64 out)(c:0≤x∧x≤18446744073709551615):U64 (out++ [x]):=fun y hy=>by
 rcases List.mem_append.1 hy with b|b
 ·exact h y b
 ·rw[List.mem_singleton]at b;exact b▸c
theorem aLF {K:List Int→List Int×Int}{E:Nat}{n ni:Int}{g:Nat→Int}(c: ∀i,0≤g i∧g i≤18446744073709551615)(b: ∀o,Fit E o→Fit E (K o).1): ∀(m i:Nat) (out:List Int),Fit E out→Fit E (inA K E n ni g m i out).1
 |0,i,out,h=>b out h
 |m+1,i,out,h=>by
  unfold inA
  by_cases h1:(out.length:Int)=n
  ·rw[if_pos h1];exact h
  ·rw[if_neg h1]
   by_cases h2:nothB E (g i)=true
   ·rw[if_pos h2];exact h
   ·rw[if_neg h2]
    by_cases h3:g i≤lastI out
    ·rw[if_pos h3];exact h
    ·rw[if_neg h3]
     exact aLF c b m (i+1) _ ⟨h.1.snoc (by omega) (by simpa using h2),h.2.snoc (c i)⟩
theorem aEs {h:HD}{l:List Int}(b:AllB l){E:Nat}{n na ni:Int}: ∀(f:Nat) (out:List Int) (a last:Nat),Fit E out→Fit E (chase h l E n na ni f out a last).1
 |0,out,a,last,h=>h
 |f+1,out,a,last,hh=>by
  unfold chase
  by_cases h1:(out.length:Int)=n
  ·rw[if_pos h1];exact hh
  ·rw[if_neg h1]
   by_cases h2:nothB E (a:Int)=true
   ·rw[if_pos h2];exact hh
   ·rw[if_neg h2]
    by_cases h3:a≤last
    ·rw[if_pos h3];exact hh
    ·rw[if_neg h3]
     by_cases h4:arcode h l E a≠0
     ·rw[if_pos h4];exact hh
     ·rw[if_neg h4]
      exact aLF (fun i=>aIO b i) (fun o ho=>aEs b f o _ _ ho) _ _ _ hh
theorem aLG (E:Nat):Fit E []:=⟨Up.nil E,fun x hx=>by cases hx⟩
theorem aGM {w:World}{b m c:Nat}{A:Option Addr}{out:List Int}(h:OwnE 27 1 w b A m c (out.map (Value.int .u64)))(n:out.length=m)(l:U64 out):InInts .u64 w A m (fun i=>out.getD i 0):=fun i hi=>by
 obtain⟨g,e,_,k,f⟩:=h.cell (i:=i) (by rw[List.length_map];omega)
 have d:i<out.length:=by omega
 rw[List.getElem?_map,List.getElem?_eq_getElem d]at f
 have j:out.getD i 0=out[i]:=by simp[List.getElem?_eq_getElem d]
 refine⟨g,0,e,k,?_,?_⟩
 ·show w.cell? ⟨g,0+i,none⟩=some (.int .u64 (out.getD i 0))
  rw[Nat.zero_add,j]
  exact f
 ·have:=l out[i] (List.getElem_mem d)
  show(Lit.int .u64 (out.getD i 0)).wf=true
  rw[j]
  simp[Lit.wf,IntKind.min,IntKind.max,IntKind.signed,IntKind.bits]
  omega
attribute [local irreducible] HD.cells wpList Code.wp
end Ls
end Go.Proofs.YtlelnfokffflnaaGreat
