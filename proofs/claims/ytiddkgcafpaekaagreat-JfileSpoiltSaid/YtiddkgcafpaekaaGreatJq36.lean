/-
  Texts beneath the proof.
-/
import Derived.Test.YtiddkgcafpaekaaGreatJq35
set_option linter.unusedVariables false
set_option linter.unusedSimpArgs false
set_option maxRecDepth 100000
set_option maxHeartbeats 4000000
open Go.ChangeShapes Go.WideShapes Go.ChangeAt Go.RowKit
namespace Go.Proofs.YtiddkgcafpaekaaGreat
namespace Wa
open Bytes8 Own8 OwnE Ob Ga Gb Ok7 Rc Va Dc
open Yp Ye Yh
open Rg (arcode)
open Ym (wordElt)
def nothB (n:Nat)(x:Int):Bool:=decide (x=0)||decide ((n:Int)≤x)
def lastI (out:List Int):Int:=out.getLastD 0
def inA (K:List Int→List Int×Int)(E:Nat)(n ni:Int)(g:Nat→Int):Nat→Nat→List Int→List Int×Int
 |0,_,out=>K out
 |m+1,i,out=>if(out.length:Int)=n then(out,0)else if nothB E (g i)=true then(out,ni)else if g i≤lastI out then(out,13)else inA K E n ni g m (i+1) (out++ [g i])
def chase (h:HD)(l:List Int)(E:Nat)(n na ni:Int):Nat→List Int→Nat→Nat→List Int×Int
 |0,out,_,_=>(out,0)
 |f+1,out,a,last=>if(out.length:Int)=n then(out,0)else if nothB E a=true then(out,na)else if a≤last then(out,12)else if arcode h l E a≠0 then(out,arcode h l E a)else inA (fun o=>chase h l E n na ni f o (aX9 h l E a).toNat a) E n ni (arF (bodyL l a)) (aC9 h l E a) 0 out
theorem inA_full (K:List Int→List Int×Int)(E:Nat)(n ni:Int)(g:Nat→Int)(m i:Nat)(out:List Int)(h:(out.length:Int)=n)(hK:K out=(out,0)):inA K E n ni g m i out=(out,0):=by
 cases m with
 |zero=>exact hK
 |succ m=>exact if_pos h
theorem chase_full (h:HD)(l:List Int)(E:Nat)(n na ni:Int)(f:Nat)(out:List Int)(a last:Nat)(hl:(out.length:Int)=n):chase h l E n na ni f out a last=(out,0):=by
 cases f with
 |zero=>rfl
 |succ f=>exact if_pos hl
theorem aX9_nn {h:HD}{l:List Int}{E a:Nat}(hA:AllB l):aX9 h l E a=((aX9 h l E a).toNat:Int)∧(aX9 h l E a).toNat≤18446744073709551615:=by
 have hb:AllB (bodyL l a):=fun x hx=>hA x (List.mem_of_mem_drop (List.mem_of_mem_take hx))
 have h1:=u8_bd hb 0
 have h2:0≤aX9 h l E a∧aX9 h l E a≤18446744073709551615:=by
  unfold aX9 arX
  split
  ·split
   ·exact h1
   ·omega
  ·omega
 omega
theorem arF_nn {l:List Int}{a:Nat}(hA:AllB l)(i:Nat):0≤arF (bodyL l a) i∧arF (bodyL l a) i≤18446744073709551615:=u8_bd (fun x hx=>hA x (List.mem_of_mem_drop (List.mem_of_mem_take hx))) _
theorem aC_le {h:HD}{l:List Int}{n a:Nat}(hl:l.length≤1000000):aC9 h l n a≤1000000:=by
 have hb:(bodyL l a).length≤l.length:=by unfold bodyL;rw[List.length_take,List.length_drop];omega
 unfold aC9
 split
 ·unfold arM arN
  split<;>omega
 ·omega
theorem lastI_snoc (out:List Int)(x:Int):lastI (out++ [x])=x:=by simp[lastI]
def Up (E:Nat)(out:List Int):Prop:=(out.length:Int)≤lastI out∧lastI out≤(E:Int)
theorem Up.nil (E:Nat):Up E []:=⟨by simp[lastI],by simp[lastI]⟩
theorem Up.snoc {E:Nat}{out:List Int}{x:Int}(h:Up E out)(h1:lastI out<x)(h2:nothB E x=false):Up E (out++ [x]):=by
 have h3: ¬(E:Int)≤x:=by simp[nothB]at h2;omega
 refine⟨?_,?_⟩
 ·rw[lastI_snoc,List.length_append,List.length_singleton];have:=h.1;omega
 ·rw[lastI_snoc];omega
theorem last_cell (out:List Int)(m:Nat)(h:out.length=m+1):(out.map (Value.int .u64))[m]? =some (.int .u64 (lastI out)):=by
 rw[List.getElem?_map]
 have:out[m]? =some (lastI out):=by
  rw[show m=out.length-1 by omega,←List.getLast?_eq_getElem?]
  cases out with
  |nil=>simp at h
  |cons x t=>simp[lastI,List.getLastD_cons,List.getLast?_cons]
 rw[this];rfl
attribute [local irreducible] HD.cells wpList Code.wp
theorem noth_any {gv:Nat}{h:HD}{A:Option Addr}{n c:Nat}{l:List Int}(x:Int)(w:World)(v:ViewAt w gv h A n c l):Calls Tryz.prog 180 #[.pointer (some ⟨gv,0,none⟩),.int .u64 x] w fun e w'=>e= .returned (.bool (nothB n x))∧w=w':=by
 have HE:=yH (vend_any w v)
 clear v
 unfold nothB
 by_cases hx:x=0
 ·subst hx
  go_enter Tryz.func180,Tryz.ntmps180
  go_wp2_with(first
   |(go_at_call 105;(refine HE.out.mono ?_);rintro e w1 ⟨rfl,rfl⟩)
   |fail)
  go_ret
  exact⟨rfl,rfl⟩
 ·have hd:(x==0)=false:=by simpa using hx
  have hd2:decide (x=0)=false:=by simpa using hx
  rw[hd2,Bool.false_or]
  go_enter Tryz.func180,Tryz.ntmps180
  go_wp2_with(first
   |(go_at_call 105;(refine HE.out.mono ?_);rintro e w1 ⟨rfl,rfl⟩)
   |fail)
  go_ret
  exact⟨rfl,rfl⟩
def TellL (R:List Int×Int)(w:World)(e:Ending)(w':World):Prop:=Below w.heap.size w w'∧ ∃A m c,e= .returned (.tuple #[.slice A m c,.int .i64 R.2])∧OwnE 27 1 w' w.heap.size A m c (R.1.map (Value.int .u64))∧R.1.length=m
end Wa
namespace Vd
open Bytes8 Blk8 Own8 OwnM OwnE Rows2 Ob Od Ga Gb Gf Gj Gq Gt Ok7 Ns Ra Rc Va
open Go1 (hcode rhd hread_any HTold magicB)
theorem rwhole {w:World}{g:Nat}{T:TypeId}{h:HD}{m:Nat}(hb:Blk w g (h.cells m) T):w.rangeAt g 0 (h.cells m):=fun j v hj=>by rw[Nat.zero_add];exact hb.cell hj
theorem rview_built (h:HD)(d:Int)(b:Value)(A:Option Addr)(n c:Nat)(e:b= .slice A n c):Tryz.prog.built 121 [(0,.agg (h.cells 20).toArray),(1,.int .u64 d),(2,b)]=some (h.cells 20++([.int .u64 d,b]:List Value)).toArray:=by subst e;kernel_rfl
def bldRV (parts:Array (Nat×Value)):Sem Value:=Instr.build 121 parts
theorem bldRV_fold (parts:Array (Nat×Value)):Instr.build 121 parts=bldRV parts:=rfl
theorem build_rview (h:HD)(d:Int)(A:Option Addr)(n c:Nat)(w:World):(bldRV #[(0,.agg (h.cells 20).toArray),(1,.int .u64 d),(2,.slice A n c)]).run Tryz.prog w= .ok (.agg (h.cells 20++([.int .u64 d,.slice A n c]:List Value)).toArray) w:=by
 unfold bldRV
 exact run_build w _ _ _ (rview_built h d _ A n c rfl)
def OpenedR (l:List Int)(E:Nat)(w:World)(e:Ending)(w':World):Prop:= ∃(gv:Nat) (A2:Option Addr) (c2:Nat),e= .returned (.tuple #[.pointer (some ⟨gv,0,none⟩),.int .i64 0])∧w.heap.size≤gv∧ViewR w' gv (hdOf l) (Ob.u8 l 248) A2 E c2 (l.take E)∧Below w.heap.size w w'
attribute [local irreducible] HD.cells wpList Code.wp
attribute [local go_sem ↓] bldRV_fold
theorem ropen_fine (l:List Int)(A:Option Addr)(n c:Nat)(w:World)(hb:Bytes w A l)(hL:l.length=n)(hn:n≤800000)(hc:n≤c)(hz:hcode l n=0)(E:Nat)(hE:endV (hdOf l)=(E:Int))(hEB:endB (hdOf l)=true)(hEn:E≤n)(hok:(hdOf l).Ok 21):
 Calls Tryz.prog 54 #[.slice A n c] w (OpenedR l E w):=by
 have HR:=yH (rreadHead_any A l n c w hb hL (by omega) hc)
 rw[if_pos hz,if_pos hz,hz]at HR
 unfold RTold at HR
 have HE:=yH fun(W:World)=>rend_any (hdOf l) (hdOf_ok hb.1 20) W
 rw[hE,hEB]at HE
 have HB:=yH hb
 unfold OpenedR
 have HLB:=yH hL
 have HOk:=yH hok
 have hTk:(l.take E).length=E:=by rw[List.length_take];omega
 generalize hdOf l=H at*
 generalize Ob.u8 l 248=dp at*
 clear hok hb hL hz hE hEB
 go_enter Tryz.func54,Tryz.ntmps54
 go_upto_region 4 with(first
  |(go_at_call 110;((refine HR.out.mono ?_);rintro e w1 ⟨rfl,hb1⟩;have B1:=yH hb1;clear hb1))
  |((with_reducible apply at_store (.tmp 4) (.tmp 12));refine wpList_store_row rfl 119 (.tmp 4) (.tmp 12) rfl w1.heap.size (H.cells 20).toArray rfl rfl 119 Tryz.zeroCells119 (heap_alloc_new w1 _) (rcells_info _) rzeros_size (HD.one _ 20) ?_)
  |fail)
 have R2:=yH (show Blk ((w1.alloc (.cells Tryz.zeroCells119 119)).setRow w1.heap.size (H.cells 20).toArray) w1.heap.size (H.cells 20) 119 from setRow_heap _ _ _ _ _ (0,0) (heap_alloc_new w1 _))
 have B2:=yH (show Below w.heap.size w ((w1.alloc (.cells Tryz.zeroCells119 119)).setRow w1.heap.size (H.cells 20).toArray)from below_setRow (B1.out.alloc B1.out.size _) B1.out.size _)
 generalize (w1.alloc (.cells Tryz.zeroCells119 119)).setRow w1.heap.size (H.cells 20).toArray=w2 at*
 generalize w1.heap.size=s4 at*
 clear HR B1
 go_upto_region 5 with(first
  |((with_reducible apply at_slot 19);refine wpList_load_row rfl 119 (.tmp 4) rfl s4 rfl 119 (H.cells 20).toArray (0,0) _ R2.out Tryz.underlying119 rfl (rcells_info _) ?_)
  |(go_at_call 111;((refine(HE.out _).mono ?_);rintro e w4 ⟨rfl,hb4⟩;have B4:=yH (B2.out.trans (hb4.mono B2.out.size));have R4:=yH (R2.out.below hb4 R2.out.lt);clear hb4))
  |fail)
 have D4:=yH (show Below w4.heap.size w4 w4.drew from(Below.refl w4.heap.size w4).drew)
 have HS:=yH fun(W:World) (hW:Below w4.heap.size w4 W)=>show(fun W:World=>W.rangeAt s4 0 (H.cells 20)) W from rwhole (R4.out.below hW R4.out.lt)
 have hcut:=fun W:World=>cut_hu A n c E (by omega) (by omega) W
 have BE:=yH (show Below w4.heap.size w4 (w4.drew.alloc (.cells #[] 5))from D4.out.alloc D4.out.size _)
 have HOw:=yH (Own.made w4.drew w4.heap.size (yR _))
 have HBe:=yH (show Bytes (w4.drew.alloc (.cells #[] 5)) (cutA A c 0) (l.take E)from by
  have k:=Bytes.cut ((HB.out.below B4.out (yR _)).below BE.out (yR _)) c 0 E (by rw[HLB.out];exact hc)
  rw[List.drop_zero]at k
  exact k)
 have hbld:=fun(A':Option Addr) (c':Nat) (W:World)=>build_rview H dp A' E c' W
 clear HE R2 B2 HB HLB hc
 refine wp_region_noPanic ?_
 refine wp_region_held_drew (S:=fun W:World=>W.rangeAt s4 0 (H.cells 20)) (by kernel_rfl) (by exact(HS.out _ D4.out)) (fun hHeld=>?_)
 refine tk (i:=0) (oi:=⟨some 23,_,_,_,_,_⟩) rfl (yieldsIf_load_mid (by rfl) _ _ rfl _ _ rfl _ _ (fun _ h=>h) Tryz.underlying119 rfl (rcells_len _)) ?_
 try simp only[Act.put,sA,sZ,sS]
 refine tk (i:=1) (oi:=⟨some 24,_,_,_,_,_⟩) (v:=?_) rfl (Or.inl ⟨by rfl,?_⟩) ?_
 rotate_left
 ·intro W hSw;go_simp;try (with_reducible rfl)
 try simp only[Act.put,sA,sZ,sS]
 refine tk (i:=3) (oi:=⟨some 26,_,_,_,_,_⟩) (v:=?_) rfl (Or.inl ⟨by rfl,?_⟩) ?_
 rotate_left
 ·intro W hSw;go_simp;try (with_reducible rfl)
 try simp only[Act.put,sA,sZ,sS]
 refine tk (i:=4) (oi:=⟨some 27,_,_,_,_,_⟩) (v:=?_) rfl (Or.inl ⟨by rfl,?_⟩) ?_
 rotate_left
 ·intro W hSw;go_simp;try (with_reducible rfl)
 try simp only[Act.put,sA,sZ,sS]
 refine tk (i:=5) (oi:=⟨some 28,_,_,_,_,_⟩) (v:=?_) rfl (Or.inl ⟨by rfl,?_⟩) ?_
 rotate_left
 ·intro W hSw;go_simp;try (with_reducible rfl)
 try simp only[Act.put,sA,sZ,sS]
 refine wpAnyH_ready (rs:=[2]) (by kernel_rfl) (by simp) ?_
 refine AllReadyH.cons (o:=⟨some 25,_,_,_,_,_⟩) rfl (fun K hK=>?_) AllReadyH.nil
 go_simp
 skip
 try go_wp2_with fail
 refine hK.out _ _ (by exact(HS.out _ BE.out)) (fun hHeld=>?_)
 clear hK K
 try simp only[Act.put,sA,sZ,sS]
 refine wpAnyH_ready (rs:=[6]) (by kernel_rfl) (by simp) ?_
 refine AllReadyH.cons (o:=⟨some 29,_,_,_,_,_⟩) rfl (fun K hK=>?_) AllReadyH.nil
 refine step_append_bytes (o:=⟨some 29,_,_,_,_,_⟩) rfl (.tmp 25) (.tmp 28) rfl w4.heap.size _ 0 0 [] rfl HOw.out (cutA A c 0) E c (l.take E) rfl HBe.out hTk (by omega) ?_
 intro A5 c5 w5 ho5 hb5
 rw[Nat.zero_add,List.nil_append]at ho5
 have HO5:=yH ho5
 have B5:=yH (BE.out.trans hb5)
 clear ho5 hb5
 refine hK.out _ _ (by exact(HS.out _ B5.out)) (fun hHeld=>?_)
 clear hK K
 try simp only[Act.put,sA,sZ,sS]
 refine tk (i:=7) (oi:=⟨some 30,_,_,_,_,_⟩) (v:=?_) rfl (Or.inl ⟨by rfl,?_⟩) ?_
 rotate_left
 ·intro W hSw;go_simp;try (with_reducible rfl)
 try simp only[Act.put,sA,sZ,sS]
 refine wpAnyH_ready (rs:=[8]) (by kernel_rfl) (by simp) ?_
 refine AllReadyH.cons (o:=⟨some 31,_,_,_,_,_⟩) rfl (fun K hK=>?_) AllReadyH.nil
 go_simp
 skip
 try go_wp2_with fail
 refine hK.out _ _ (by exact(HS.out _ (B5.out.alloc B5.out.size _))) (fun hHeld=>?_)
 clear hK K
 try simp only[Act.put,sA,sZ,sS]
 refine tk (i:=9) (oi:=⟨some 2,_,_,_,_,_⟩) (v:=?_) rfl (Or.inl ⟨by rfl,?_⟩) ?_
 rotate_left
 ·intro W hSw;go_simp;try (with_reducible rfl)
 try simp only[Act.put,sA,sZ,sS]
 refine tk (i:=10) (oi:=⟨some 3,_,_,_,_,_⟩) (v:=?_) rfl (Or.inl ⟨by rfl,?_⟩) ?_
 rotate_left
 ·intro W hSw;go_simp;try (with_reducible rfl)
 try simp only[Act.put,sA,sZ,sS]
 refine wpAnyH_done (by kernel_rfl) ?_ _
 refine NoPanic.normal ?_
 go_wp2
 go_ret2
 exact⟨_,A5,c5,rfl,Nat.le_trans B4.out.size B5.out.size,⟨Blk.new w5 _ _,HO5.out.bytes.below ((Below.refl _ _).alloc (yR _) _) (yR _),hTk,(own_cap HO5.out).1,(own_cap HO5.out).2,by omega,HOk.out⟩,B4.out.trans ((B5.out.alloc B5.out.size _).mono B4.out.size)⟩
end Vd
namespace Wb
open Ga Gb
open Ye Yh
open Rg (arcode)
open Ym (wordElt)
def natO:Value→Nat
 | .int _ z=>z.toNat
 |_=>0
attribute [local irreducible] HD.cells wpList Code.wp
end Wb
namespace Wd
open Bytes8 Own8 OwnE Ob Ga Gb Va Wa
open Yp Ye Yh
open Rg (arcode)
def its (g:Nat→Int):Nat→Nat→List (Int×Int)
 |0,_=>[]
 |m+1,i=>(g i,0)::its g m (i+1)
def yl (h:HD)(l:List Int)(E:Nat):Nat→Nat→Nat→List (Int×Int)
 |0,_,_=>[]
 |f+1,a,last=>if nothB E a=true then []else if a≤last then [(0,12)]else if arcode h l E a≠0 then [(0,arcode h l E a)]else its (arF (bodyL l a)) (aC9 h l E a) 0++yl h l E f (aX9 h l E a).toNat a
def step (E:Nat)(n ni:Int)(out:List Int)(x:Int×Int):List Int×Option Int:=
 if x.2≠0 then(out,some x.2)else if nothB E x.1=true then(out,some ni)else if 0<out.length∧x.1≤lastI out then(out,some 13)else if((out++ [x.1]).length:Int)=n then(out++ [x.1],some 0)else(out++ [x.1],none)
def runY (E:Nat)(n na ni:Int):List (Int×Int)→List Int→List Int×Int
 | [],out=>(out,na)
 |x::xs,out=>match step E n ni out x with
  |(o,some c)=>(o,c)
  |(o,none)=>runY E n na ni xs o
theorem runY_cons (E:Nat)(n na ni:Int)(x:Int×Int)(xs:List (Int×Int))(out:List Int):runY E n na ni (x::xs) out=match step E n ni out x with
 |(o,some c)=>(o,c)
 |(o,none)=>runY E n na ni xs o:=rfl
theorem runY_its (E:Nat)(n na ni:Int)(g:Nat→Int)(hg: ∀i,0≤g i)(K:List Int→List Int×Int)(rest:List (Int×Int))
 (h1: ∀o:List Int,(o.length:Int)≠n→runY E n na ni rest o=K o)(h2: ∀o:List Int,(o.length:Int)=n→K o=(o,0)):
 ∀(m i:Nat) (out:List Int),(out.length:Int)≠n→runY E n na ni (its g m i++rest) out=inA K E n ni g m i out:=by
 intro m
 induction m with
 |zero=>intro i out h;exact h1 out h
 |succ m ih=>
  intro i out h
  show runY E n na ni ((g i,0)::(its g m (i+1)++rest)) out=_
  rw[runY_cons]
  unfold inA step
  rw[if_neg h,if_neg (by simp)]
  by_cases h3:nothB E (g i)=true
  ·rw[if_pos h3,if_pos h3]
  ·rw[if_neg h3,if_neg h3]
   by_cases h4:g i≤lastI out
   ·have h6:0<out.length:=by
     rcases Nat.eq_zero_or_pos out.length with h7|h7
     ·have h8:=hg i
      rw[List.eq_nil_of_length_eq_zero h7]at h4
      simp[lastI]at h4
      simp[nothB]at h3
      omega
     ·exact h7
    rw[if_pos ⟨h6,h4⟩,if_pos h4]
   ·rw[if_neg (fun h=>h4 h.2),if_neg h4]
    by_cases h5:(((out++ [g i]).length:Nat):Int)=n
    ·rw[if_pos h5]
     exact(inA_full K E n ni g m (i+1) _ h5 (h2 _ h5)).symm
    ·rw[if_neg h5]
     exact ih (i+1) _ h5
theorem runY_yl (h:HD)(l:List Int)(hA:AllB l)(E:Nat)(n na ni:Int): ∀(f a last:Nat) (out:List Int),last≤E→E+1≤f+last→(out.length:Int)≠n→runY E n na ni (yl h l E f a last) out=chase h l E n na ni f out a last:=by
 intro f
 induction f with
 |zero=>intro a last out h1 h2 _;omega
 |succ f ih=>
  intro a last out h1 h2 h3
  unfold yl chase
  rw[if_neg h3]
  by_cases h4:nothB E (a:Int)=true
  ·rw[if_pos h4,if_pos h4];rfl
  ·rw[if_neg h4,if_neg h4]
   by_cases h5:a≤last
   ·rw[if_pos h5,if_pos h5];rfl
   ·rw[if_neg h5,if_neg h5]
    by_cases h6:arcode h l E a≠0
    ·rw[if_pos h6,if_pos h6,runY_cons]
     unfold step
     rw[if_pos h6]
    ·rw[if_neg h6,if_neg h6]
     have h7:a<E:=by
      have h8:nothB E (a:Int)=false:=by simpa using h4
      simp[nothB]at h8
      omega
     exact runY_its E n na ni _ (fun i=>(arF_nn hA i).1) _ _ (fun o ho=>ih _ _ _ (by omega) (by omega) ho) (fun o ho=>chase_full h l E n na ni f o _ _ ho) _ _ _ h3
def after (E:Nat)(n ni:Int):List (Int×Int)→List Int→Option (List Int)
 | [],out=>some out
 |x::xs,out=>match step E n ni out x with
  |(_,some _)=>none
  |(o,none)=>after E n ni xs o
theorem after_snoc (E:Nat)(n ni:Int)(x:Int×Int): ∀(pre:List (Int×Int)) (out o o2:List Int),after E n ni pre out=some o→step E n ni o x=(o2,none)→after E n ni (pre++ [x]) out=some o2:=by
 intro pre
 induction pre with
 |nil=>
  intro out o o2 h1 h2
  injection h1 with h1
  subst h1
  show(match step E n ni out x with|(_,some _)=>none|(o,none)=>after E n ni [] o)=_
  rw[h2];rfl
 |cons y ys ih=>
  intro out o o2 h1 h2
  show(match step E n ni out y with|(_,some _)=>none|(o,none)=>after E n ni (ys++ [x]) o)=_
  have h3:(match step E n ni out y with|(_,some _)=>none|(o,none)=>after E n ni ys o)=some o:=h1
  cases hs:step E n ni out y with
  |mk a b=>
   rw[hs]at h3
   cases b with
   |none=>exact ih a o o2 h3 h2
   |some c=>cases h3
theorem runY_after (E:Nat)(n na ni:Int): ∀(pre rest:List (Int×Int)) (out o:List Int),after E n ni pre out=some o→runY E n na ni (pre++rest) out=runY E n na ni rest o:=by
 intro pre
 induction pre with
 |nil=>intro rest out o h;injection h with h;rw[h];rfl
 |cons y ys ih=>
  intro rest out o h
  have h3:(match step E n ni out y with|(_,some _)=>none|(o,none)=>after E n ni ys o)=some o:=h
  show runY E n na ni (y::(ys++rest)) out=_
  rw[runY_cons]
  cases hs:step E n ni out y with
  |mk a b=>
   rw[hs]at h3
   cases b with
   |none=>exact ih rest a o h3
   |some c=>cases h3
end Wd
end Go.Proofs.YtiddkgcafpaekaaGreat
