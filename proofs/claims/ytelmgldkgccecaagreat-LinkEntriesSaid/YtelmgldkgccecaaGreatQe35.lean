/-
  Texts beneath the proof.
-/
import Derived.RangeFuncNested
import Derived.RangeFuncBox
import Derived.RangeFuncLeaves
import Derived.Shelf.Abstract
import Derived.WalkKit
import Derived.OwnWalkIn
import Derived.TacticsInMore
import Derived.LoopNIn
import Derived.LoopIn
import Derived.Test.YtelmgldkgccecaaGreatQe34
import Derived.Test.YtelmgldkgccecaaGreatQe31
import Derived.Test.YtelmgldkgccecaaGreatQe8
import Derived.Test.YtelmgldkgccecaaGreatQe14
import Derived.Test.YtelmgldkgccecaaGreatQe13
import Derived.Test.YtelmgldkgccecaaGreatQe4
import Derived.Test.YtelmgldkgccecaaGreatQe5
set_option linter.unusedVariables false
set_option linter.unusedSimpArgs false
set_option maxRecDepth 100000
open Go.ChangeShapes Go.WideShapes Go.ChangeAt Go.RowKit
namespace Go.Proofs.YtelmgldkgccecaaGreat
namespace Va
open Rows2 Ob Ga Gb Ok7 Np Rc Rm Rr
open Yp Yd Ye Yg Yh
open Rd (dcode dz)
open Rg (arcode az AskA arrAsk)
open Ri (ecode9 ez)
abbrev rng (h:HD)(n a:Nat):Prop:=h.N 0≤(a:Int)∧a<n
def aX9 (h:HD)(l:List Int)(n a:Nat):Int:=if rng h n a then arX l a else 0
def aC9 (h:HD)(l:List Int)(n a:Nat):Nat:=if rng h n a then arM l a else 0
def TellA (B:Nat)(h:HD)(l:List Int)(n a:Nat)(w:World)(e:Ending)(w':World):Prop:=Below w.heap.size w w'∧ ∃A' c,e= .returned (.tuple #[arrV (aX9 h l n a) A' (aC9 h l n a) c,.int .i64 (arcode h l n a)])∧InInts .u64 w' A' (aC9 h l n a) (arF (bodyL l a))∧NewIn B A'
theorem none_new (B:Nat):NewIn B none:=fun b off e=>by cases e
theorem arrTell {gv:Nat}{h:HD}{A:Option Addr}{n c:Nat}{l:List Int}(a:Nat)(w:World)(v:ViewAt w gv h A n c l)(hcm:c≤maxLen):
 Calls Tryz.prog 65 #[.pointer (some ⟨gv,0,none⟩),.int .u64 (a:Int)] w (TellA w.heap.size h l n a w):=by
 refine(arrAsk a w v hcm).mono ?_
 rintro e w' ⟨hb,hh⟩
 refine⟨hb,?_⟩
 unfold aX9 aC9 arcode
 by_cases hr:rng h n a
 ·rcases hh with⟨hz,rfl⟩|⟨hz,A',c',rfl,h1,h2⟩
  ·have e0:arcode h l n a=ecode l a 6 8 8:=if_pos hr
   rw[e0]at hz
   have t1:arX l a=0:=if_neg hz
   have t2:arM l a=0:=if_neg hz
   simp only[if_pos hr,t1,t2]
   rw[e0]
   exact⟨none,0,rfl,fun i hi=>absurd hi (Nat.not_lt_zero i),none_new _⟩
  ·have e0:arcode h l n a=ecode l a 6 8 8:=if_pos hr
   rw[e0]at hz
   simp only[if_pos hr]
   rw[hz]
   exact⟨A',c',rfl,h1,h2⟩
 ·rcases hh with⟨hz,rfl⟩|⟨hz,_⟩
  ·simp only[if_neg hr]
   rw[show arcode h l n a=2 from if_neg hr]
   exact⟨none,0,rfl,fun i hi=>absurd hi (Nat.not_lt_zero i),none_new _⟩
  ·rw[show arcode h l n a=2 from if_neg hr]at hz;cases hz
attribute [local irreducible] HD.cells wpList Code.wp
end Va
namespace Wa
open Bytes8 Own8 OwnE Ob Ga Gb Ok7 Rc Va Dc
open Yp Ye Yh
open Rg (arcode)
open Ym (wordElt)
def nothB (n:Nat)(x:Int):Bool:=decide (x=0)||decide ((n:Int)≤x)
def lastI (out:List Int):Int:=out.getLastD 0
def inA (K:List Int→List Int×Int)(E:Nat)(n ni:Int)(g:Nat→Int):Nat→Nat→List Int→List Int×Int
 |0,_,out=>K out
 |m+1,i,out=>if(out.length:Int)=n then(out,0)else if nothB E (g i)=true then(out,ni)else if g i≤lastI out then(out,13)else inA K E n ni g m (i+1) (out++ [g i])
def chase (h:HD)(l:List Int)(E:Nat)(n na ni:Int):Nat→List Int→Nat→Nat→List Int×Int
 |0,out,_,_=>(out,0)
 |f+1,out,a,last=>if(out.length:Int)=n then(out,0)else if nothB E a=true then(out,na)else if a≤last then(out,12)else if arcode h l E a≠0 then(out,arcode h l E a)else inA (fun o=>chase h l E n na ni f o (aX9 h l E a).toNat a) E n ni (arF (bodyL l a)) (aC9 h l E a) 0 out
theorem inA_full (K:List Int→List Int×Int)(E:Nat)(n ni:Int)(g:Nat→Int)(m i:Nat)(out:List Int)(h:(out.length:Int)=n)(hK:K out=(out,0)):inA K E n ni g m i out=(out,0):=by
 cases m with
 |zero=>exact hK
 |succ m=>exact if_pos h
theorem chase_full (h:HD)(l:List Int)(E:Nat)(n na ni:Int)(f:Nat)(out:List Int)(a last:Nat)(hl:(out.length:Int)=n):chase h l E n na ni f out a last=(out,0):=by
 cases f with
 |zero=>rfl
 |succ f=>exact if_pos hl
theorem aX9_nn {h:HD}{l:List Int}{E a:Nat}(hA:AllB l):aX9 h l E a=((aX9 h l E a).toNat:Int)∧(aX9 h l E a).toNat≤18446744073709551615:=by
 have hb:AllB (bodyL l a):=fun x hx=>hA x (List.mem_of_mem_drop (List.mem_of_mem_take hx))
 have h1:=u8_bd hb 0
 have h2:0≤aX9 h l E a∧aX9 h l E a≤18446744073709551615:=by
  unfold aX9 arX
  split
  ·split
   ·exact h1
   ·omega
  ·omega
 omega
theorem arF_nn {l:List Int}{a:Nat}(hA:AllB l)(i:Nat):0≤arF (bodyL l a) i∧arF (bodyL l a) i≤18446744073709551615:=u8_bd (fun x hx=>hA x (List.mem_of_mem_drop (List.mem_of_mem_take hx))) _
theorem aC_le {h:HD}{l:List Int}{n a:Nat}(hl:l.length≤1000000):aC9 h l n a≤1000000:=by
 have hb:(bodyL l a).length≤l.length:=by unfold bodyL;rw[List.length_take,List.length_drop];omega
 unfold aC9
 split
 ·unfold arM arN
  split<;>omega
 ·omega
theorem lastI_snoc (out:List Int)(x:Int):lastI (out++ [x])=x:=by simp[lastI]
def Up (E:Nat)(out:List Int):Prop:=(out.length:Int)≤lastI out∧lastI out≤(E:Int)
theorem Up.nil (E:Nat):Up E []:=⟨by simp[lastI],by simp[lastI]⟩
theorem Up.snoc {E:Nat}{out:List Int}{x:Int}(h:Up E out)(h1:lastI out<x)(h2:nothB E x=false):Up E (out++ [x]):=by
 have h3: ¬(E:Int)≤x:=by simp[nothB]at h2;omega
 refine⟨?_,?_⟩
 ·rw[lastI_snoc,List.length_append,List.length_singleton];have:=h.1;omega
 ·rw[lastI_snoc];omega
theorem last_cell (out:List Int)(m:Nat)(h:out.length=m+1):(out.map (Value.int .u64))[m]? =some (.int .u64 (lastI out)):=by
 rw[List.getElem?_map]
 have:out[m]? =some (lastI out):=by
  rw[show m=out.length-1 by omega,←List.getLast?_eq_getElem?]
  cases out with
  |nil=>simp at h
  |cons x t=>simp[lastI,List.getLastD_cons,List.getLast?_cons]
 rw[this];rfl
attribute [local irreducible] HD.cells wpList Code.wp
theorem noth_any {gv:Nat}{h:HD}{A:Option Addr}{n c:Nat}{l:List Int}(x:Int)(w:World)(v:ViewAt w gv h A n c l):Calls Tryz.prog 107 #[.pointer (some ⟨gv,0,none⟩),.int .u64 x] w fun e w'=>e= .returned (.bool (nothB n x))∧w=w':=by
 have HE:=Lib.hid (vend_any w v)
 clear v
 unfold nothB
 by_cases hx:x=0
 ·subst hx
  go_enter Tryz.func107,Tryz.ntmps107
  go_wp2_with(first
   |(go_at_call 18;(refine HE.out.mono ?_);rintro e w1 ⟨rfl,rfl⟩)
   |fail)
  go_ret
  exact⟨rfl,rfl⟩
 ·have hd:(x==0)=false:=by simpa using hx
  have hd2:decide (x=0)=false:=by simpa using hx
  rw[hd2,Bool.false_or]
  go_enter Tryz.func107,Tryz.ntmps107
  go_wp2_with(first
   |(go_at_call 18;(refine HE.out.mono ?_);rintro e w1 ⟨rfl,rfl⟩)
   |fail)
  go_ret
  exact⟨rfl,rfl⟩
def TellL (R:List Int×Int)(w:World)(e:Ending)(w':World):Prop:=Below w.heap.size w w'∧ ∃A m c,e= .returned (.tuple #[.slice A m c,.int .i64 R.2])∧OwnE 23 1 w' w.heap.size A m c (R.1.map (Value.int .u64))∧R.1.length=m
end Wa
namespace Wb
open Ga Gb
open Ye Yh
open Rg (arcode)
open Ym (wordElt)
def natO:Value→Nat
 | .int _ z=>z.toNat
 |_=>0
attribute [local irreducible] HD.cells wpList Code.wp
end Wb
namespace Wd
open Bytes8 Own8 OwnE Ob Ga Gb Va Wa
open Yp Ye Yh
open Rg (arcode)
def its (g:Nat→Int):Nat→Nat→List (Int×Int)
 |0,_=>[]
 |m+1,i=>(g i,0)::its g m (i+1)
def yl (h:HD)(l:List Int)(E:Nat):Nat→Nat→Nat→List (Int×Int)
 |0,_,_=>[]
 |f+1,a,last=>if nothB E a=true then []else if a≤last then [(0,12)]else if arcode h l E a≠0 then [(0,arcode h l E a)]else its (arF (bodyL l a)) (aC9 h l E a) 0++yl h l E f (aX9 h l E a).toNat a
def step (E:Nat)(n ni:Int)(out:List Int)(x:Int×Int):List Int×Option Int:=
 if x.2≠0 then(out,some x.2)else if nothB E x.1=true then(out,some ni)else if 0<out.length∧x.1≤lastI out then(out,some 13)else if((out++ [x.1]).length:Int)=n then(out++ [x.1],some 0)else(out++ [x.1],none)
def runY (E:Nat)(n na ni:Int):List (Int×Int)→List Int→List Int×Int
 | [],out=>(out,na)
 |x::xs,out=>match step E n ni out x with
  |(o,some c)=>(o,c)
  |(o,none)=>runY E n na ni xs o
theorem runY_cons (E:Nat)(n na ni:Int)(x:Int×Int)(xs:List (Int×Int))(out:List Int):runY E n na ni (x::xs) out=match step E n ni out x with
 |(o,some c)=>(o,c)
 |(o,none)=>runY E n na ni xs o:=rfl
theorem runY_its (E:Nat)(n na ni:Int)(g:Nat→Int)(hg: ∀i,0≤g i)(K:List Int→List Int×Int)(rest:List (Int×Int))
 (h1: ∀o:List Int,(o.length:Int)≠n→runY E n na ni rest o=K o)(h2: ∀o:List Int,(o.length:Int)=n→K o=(o,0)):
 ∀(m i:Nat) (out:List Int),(out.length:Int)≠n→runY E n na ni (its g m i++rest) out=inA K E n ni g m i out:=by
 intro m
 induction m with
 |zero=>intro i out h;exact h1 out h
 |succ m ih=>
  intro i out h
  show runY E n na ni ((g i,0)::(its g m (i+1)++rest)) out=_
  rw[runY_cons]
  unfold inA step
  rw[if_neg h,if_neg (by simp)]
  by_cases h3:nothB E (g i)=true
  ·rw[if_pos h3,if_pos h3]
  ·rw[if_neg h3,if_neg h3]
   by_cases h4:g i≤lastI out
   ·have h6:0<out.length:=by
     rcases Nat.eq_zero_or_pos out.length with h7|h7
     ·have h8:=hg i
      rw[List.eq_nil_of_length_eq_zero h7]at h4
      simp[lastI]at h4
      simp[nothB]at h3
      omega
     ·exact h7
    rw[if_pos ⟨h6,h4⟩,if_pos h4]
   ·rw[if_neg (fun h=>h4 h.2),if_neg h4]
    by_cases h5:(((out++ [g i]).length:Nat):Int)=n
    ·rw[if_pos h5]
     exact(inA_full K E n ni g m (i+1) _ h5 (h2 _ h5)).symm
    ·rw[if_neg h5]
     exact ih (i+1) _ h5
theorem runY_yl (h:HD)(l:List Int)(hA:AllB l)(E:Nat)(n na ni:Int): ∀(f a last:Nat) (out:List Int),last≤E→E+1≤f+last→(out.length:Int)≠n→runY E n na ni (yl h l E f a last) out=chase h l E n na ni f out a last:=by
 intro f
 induction f with
 |zero=>intro a last out h1 h2 _;omega
 |succ f ih=>
  intro a last out h1 h2 h3
  unfold yl chase
  rw[if_neg h3]
  by_cases h4:nothB E (a:Int)=true
  ·rw[if_pos h4,if_pos h4];rfl
  ·rw[if_neg h4,if_neg h4]
   by_cases h5:a≤last
   ·rw[if_pos h5,if_pos h5];rfl
   ·rw[if_neg h5,if_neg h5]
    by_cases h6:arcode h l E a≠0
    ·rw[if_pos h6,if_pos h6,runY_cons]
     unfold step
     rw[if_pos h6]
    ·rw[if_neg h6,if_neg h6]
     have h7:a<E:=by
      have h8:nothB E (a:Int)=false:=by simpa using h4
      simp[nothB]at h8
      omega
     exact runY_its E n na ni _ (fun i=>(arF_nn hA i).1) _ _ (fun o ho=>ih _ _ _ (by omega) (by omega) ho) (fun o ho=>chase_full h l E n na ni f o _ _ ho) _ _ _ h3
def after (E:Nat)(n ni:Int):List (Int×Int)→List Int→Option (List Int)
 | [],out=>some out
 |x::xs,out=>match step E n ni out x with
  |(_,some _)=>none
  |(o,none)=>after E n ni xs o
theorem after_snoc (E:Nat)(n ni:Int)(x:Int×Int): ∀(pre:List (Int×Int)) (out o o2:List Int),after E n ni pre out=some o→step E n ni o x=(o2,none)→after E n ni (pre++ [x]) out=some o2:=by
 intro pre
 induction pre with
 |nil=>
  intro out o o2 h1 h2
  injection h1 with h1
  subst h1
  show(match step E n ni out x with|(_,some _)=>none|(o,none)=>after E n ni [] o)=_
  rw[h2];rfl
 |cons y ys ih=>
  intro out o o2 h1 h2
  show(match step E n ni out y with|(_,some _)=>none|(o,none)=>after E n ni (ys++ [x]) o)=_
  have h3:(match step E n ni out y with|(_,some _)=>none|(o,none)=>after E n ni ys o)=some o:=h1
  cases hs:step E n ni out y with
  |mk a b=>
   rw[hs]at h3
   cases b with
   |none=>exact ih a o o2 h3 h2
   |some c=>cases h3
theorem runY_after (E:Nat)(n na ni:Int): ∀(pre rest:List (Int×Int)) (out o:List Int),after E n ni pre out=some o→runY E n na ni (pre++rest) out=runY E n na ni rest o:=by
 intro pre
 induction pre with
 |nil=>intro rest out o h;injection h with h;rw[h];rfl
 |cons y ys ih=>
  intro rest out o h
  have h3:(match step E n ni out y with|(_,some _)=>none|(o,none)=>after E n ni ys o)=some o:=h
  show runY E n na ni (y::(ys++rest)) out=_
  rw[runY_cons]
  cases hs:step E n ni out y with
  |mk a b=>
   rw[hs]at h3
   cases b with
   |none=>exact ih rest a o h3
   |some c=>cases h3
end Wd
namespace Wc
open Ga Gb
open Ye Yh
open Rd (dcode)
open Rg (arcode)
open Ym (wordElt)
attribute [local irreducible] HD.cells wpList Code.wp
end Wc
namespace We
open Go.ChangeShapes Go.WideShapes Go.ChangeAt Go.RowKit Go.Shelf
variable {F : Fence} {n : Nat} {P : Program}
def SeqOwn {α:Type}(F:Fence)(n:Nat)(P:Program)(g:Nat)(lb:Array Value)(encs:α→Array Value)(Px:α→Prop)(Kp Ab:World→World→Prop)(S Sp:List α→Prop)(w:World):Prop:=
 ∀(l:Nat) (J Jx:List α→World→Prop) (W:World),Below w.heap.size w W→(∀s A B,J s A→Ab A B→J s B)→(∀s A B,Jx s A→Ab A B→Jx s B)→
  (∀pre x V,Px x→J pre V→YieldAt F (n-1) P l (encs x) V fun e V'=>(e= .returned (.bool true)∧J (pre++ [x]) V'∧Kp V V')∨(e= .returned (.bool false)∧Jx (pre++ [x]) V'))→
  J [] W→CallsIn F n P g (#[.func (.yield l) #[] #[]]++lb) W fun e W'=>(∃v,e= .returned v)∧((∃xs,S xs∧J xs W')∨(∃pre,Sp pre∧Jx pre W'))
def Left {α:Type}(B:Nat)(Kp:World→World→Prop)(I:List α→World→Prop)(Ix:Code→List α→World→Prop)(xs:List α)(W:World):Exit→Act→World→Prop
 | .normal,_,W'=>KeepsFrom B W W'∧Kp W W'∧I xs W'
 | .ret,_,W'=>KeepsFrom B W W'∧Ix .ret xs W'
 | .exit id,_,W'=>KeepsFrom B W W'∧Ix (.exit id) xs W'
 | .goto t,_,W'=>KeepsFrom B W W'∧Ix (.goto t) xs W'
 |_,_,_=>False
theorem range_own {α:Type}{g:Operand}{ps:Array Tmp}{assign body:Code}{Q:Exit→Act→World→Prop}{a:Act}{w:World}
 (hro:F.round=none)(h1:1≤n){gf:Nat}{lb:Array Value}(hg:a.eval g= .func (.func gf) #[] lb)(hFg:F.fn gf)(eg: ∀args w,(callFunc gf args).run P w= .ok (.enter gf args) w)
 {encs:α→Array Value}{Px:α→Prop}{Kp Ab:World→World→Prop}{S Sp:List α→Prop}(hseq:SeqOwn F (n-1) P gf lb encs Px Kp Ab S Sp w)
 (hAb: ∀A B,Ab A B→ ∀k o,w.heap.size≤k→A.heap[k]? =some o→o.isCells=false→B.heap[k]? =some o)
 (hKt: ∀ {A B C:World},Kp A B→Kp B C→Kp A C)(hKb: ∀(W:World) (l:Nat) (o o':Obj),w.heap.size≤l→W.heap[l]? =some o→o.isCells=false→o.isWalk=false→Kp W (W.putObj l o'))(hps: ∀x,(encs x).size=ps.size)
 (I:List α→World→Prop)(Ix:Code→List α→World→Prop)(hI:OwnFrom w.heap.size I)(hIx: ∀c,OwnFrom w.heap.size (Ix c))(hIa: ∀s A B,I s A→Ab A B→I s B)(hIxa: ∀c s A B,Ix c s A→Ab A B→Ix c s B)(h0:I [] w)(a₁:α→Act)
 (hassign: ∀(l:Nat) (x:α) (W:World) (K:Act→World→Prop),K (a₁ x) W→
   assign.wpIn (F.inRound l) (n-1-1) P (Exit.then K (fun _ _ _=>False)) {tmps:=(ps.zip (encs x)).foldl (fun t (p,v)=>t.setIfInBounds p v) a.tmps,defers:=[]} W)
 (hbody: ∀(l:Nat) (pre:List α) (x:α) (W:World),Px x→I pre W→body.wpIn (F.inRound l) (n-1-1) P (Left w.heap.size Kp I Ix (pre++ [x]) W) (a₁ x) W)
 (hdone: ∀(D:Nat) (xs:List α) (W:World),w.heap.size≤D→S xs→I xs W→W.heap[D]? =some (.deferred (some []))→Q .normal {a with defers:={target:= .collected D,args:= #[]}::a.defers} W)
 (hstop: ∀(D:Nat) (c:Code) (pre:List α) (W:World),w.heap.size≤D→Sp pre→Ix c pre W→W.heap[D]? =some (.deferred (some []))→c.wpIn F n P Q {a with defers:={target:= .collected D,args:= #[]}::a.defers} W):
 (Code.rangeFunc g ps assign body).wpIn F n P Q a w:=by
 refine wpIn_rangeFunc fun fn hfn=>?_
 rw[hro]
 generalize hd:w.heap.size=d at*
 let mk:LoopState→Option Code→Loop:=fun st pe=>{state:=st,pending:=pe,fn,tmps:=a.tmps,params:=ps,assign,body,defers:=d}
 let At:LoopState→Option Code→World→Prop:=fun st pe W=>W.heap[d+1]? =some (.loop (mk st pe))∧W.heap[d]? =some (.deferred (some []))
 have at_put: ∀ {st pe st' pe'} {W:World},At st pe W→At st' pe' (W.putObj (d+1) (.loop (mk st' pe'))):=fun h=>
  ⟨World.putObj_heap_same (Array.getElem?_eq_some_iff.1 h.1).1,(World.putObj_heap_other (by omega)).trans h.2⟩
 have at_kept: ∀ {st pe} {W W':World},(∀k o,d≤k→W.heap[k]? =some o→o.isCells=false→W'.heap[k]? =some o)→At st pe W→At st pe W':=fun hk h=>
  ⟨hk _ _ (by omega) h.1 rfl,hk _ _ (Nat.le_refl _) h.2 rfl⟩
 let W0:World:=(w.alloc (.deferred (some []))).alloc (.loop (mk .ready none))
 have A0:At .ready none W0:=by
  refine⟨?_,?_⟩
  ·have:=World.alloc_heap_new (w.alloc (.deferred (some []))) (.loop (mk .ready none))
   rwa[World.size_alloc,hd]at this
  ·have:=World.alloc_heap_new w (.deferred (some []))
   rw[hd]at this
   exact(Below.heap_alloc _ _ _ (by simp[hd])).trans this
 have B0:Below d w W0:=((Below.refl _ w).alloc (by omega) _).alloc (by simp;omega) _
 refine⟨d+1,[{target:= .collected d,args:= #[]}],W0,{target:= .fn (.func gf) lb,args:= #[.func (.yield (d+1)) #[] #[]]},W0,gf,#[.func (.yield (d+1)) #[] #[]]++lb,W0,?_,?_,?_,?_,fun _=>h1,?_⟩
 ·have:=run_enterLoop_outer (P:=P) (w:=w) fn a.tmps ps assign body
  rw[hd]at this
  exact this
 ·simp only[resolve,hg]
  simp[go_sem]
 ·intro f' hf'
  simp[Target.leads]at hf'
  subst hf'
  exact hFg
 ·simp[invoke,go_sem,eg]
 refine(hseq (d+1) (fun pre W=>I pre W∧At .ready none W) (fun pre W=> ∃c,Ix c pre W∧At .done (some c) W) W0 (by rw[hd];exact B0)
  (fun s A B h hab=>⟨hIa s A B h.1 hab,at_kept (hAb A B hab) h.2⟩) (fun s A B h hab=>h.imp fun c hc=>⟨hIxa c s A B hc.1 hab,at_kept (hAb A B hab) hc.2⟩)
  ?round ⟨hI.alloc _ (hI.alloc _ h0),A0⟩).mono ?after
 case round=>
  rintro pre x W hpx ⟨hi,hat⟩
  have hy:=run_yield (P:=P) (args:=encs x) hat.1 (hps x)
  have hb:=run_beginRound (P:=P) hat.1 rfl
  have hat2:At .busy none (W.putObj (d+1) (.loop (mk .busy none))):=at_put hat
  refine⟨fn,_,assign,body,hy,roundIn_of_wpIn hfn (hassign _ x W _ ⟨_,hb,wpIn_mono (hbody _ pre x _ hpx (hI.putObj _ hi (by omega) hat.1 rfl)) ?_⟩)⟩
  have ends: ∀(jump:Option Code) (V:World),KeepsFrom d (W.putObj (d+1) (.loop (mk .busy none))) V→(Instr.endRound (d+1) jump).run P V= .ok (.bool jump.isNone) (V.putObj (d+1) (.loop (mk (if jump.isNone then .ready else .done) jump)))∧At .busy none V:=fun jump V hk=>by
   have h2:=at_kept (fun k o h3 h4 h5=>hk.same k o h3 h4 h5) hat2
   exact⟨run_endRound jump h2.1,h2⟩
  have out: ∀(c:Code) (V:World),KeepsFrom d (W.putObj (d+1) (.loop (mk .busy none))) V→Ix c (pre++ [x]) V→Ix c (pre++ [x]) (V.putObj (d+1) (.loop (mk .done (some c))))∧At .done (some c) (V.putObj (d+1) (.loop (mk .done (some c)))):=fun c V hk hx=>
   ⟨(hIx c).putObj _ hx (by omega) (ends none V hk).2.1 rfl,at_put (ends none V hk).2⟩
  rintro e a3 V hp
  cases e with
  |normal=>
   obtain⟨hk,hkp,hi3⟩:=hp
   obtain⟨hr,h2⟩:=ends none V hk
   exact⟨_,_,hr,.inl ⟨rfl,⟨hI.putObj _ hi3 (by omega) h2.1 rfl,at_put h2⟩,hKt (hKt (hKb _ _ _ _ (by omega) hat.1 rfl rfl) hkp) (hKb _ _ _ _ (by omega) h2.1 rfl rfl)⟩⟩
  |ret=>exact⟨_,_,(ends (some .ret) V hp.1).1,.inr ⟨rfl,.ret,out _ V hp.1 hp.2⟩⟩
  |exit id=>exact⟨_,_,(ends (some (.exit id)) V hp.1).1,.inr ⟨rfl,.exit id,out _ V hp.1 hp.2⟩⟩
  |goto t=>exact⟨_,_,(ends (some (.goto t)) V hp.1).1,.inr ⟨rfl,.goto t,out _ V hp.1 hp.2⟩⟩
  |panic ch=>exact hp.elim
  |outgrown=>exact hp.elim
 case after=>
  rintro e V ⟨⟨v,rfl⟩,⟨xs,hS,hi,h2⟩|⟨pre,hSp,c,hi,h2⟩⟩
  ·exact⟨none,_,run_endLoop h2.1 (by simp[mk]),hdone d xs _ (by omega) hS (hI.putObj _ hi (by omega) h2.1 rfl) ((World.putObj_heap_other (by omega)).trans h2.2)⟩
  ·exact⟨some c,_,run_endLoop h2.1 (by simp[mk]),hstop d c pre _ (by omega) hSp ((hIx c).putObj _ hi (by omega) h2.1 rfl) ((World.putObj_heap_other (by omega)).trans h2.2)⟩
end We
end Go.Proofs.YtelmgldkgccecaaGreat
