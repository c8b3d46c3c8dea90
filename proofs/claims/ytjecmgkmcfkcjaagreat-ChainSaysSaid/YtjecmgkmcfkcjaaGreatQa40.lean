/-
  Texts beneath the proof.
-/
import Derived.Test.YtjecmgkmcfkcjaaGreatQa1
import Derived.RangeFuncNested
import Derived.RangeFuncBox
import Derived.RangeFuncLeaves
import Derived.Shelf.Abstract
import Derived.WalkKit
import Derived.OwnWalkIn
import Derived.TacticsInMore
import Derived.LoopNIn
import Derived.LoopIn
import Derived.Sort.CutIn
import Derived.Test.YtjecmgkmcfkcjaaGreatQa39
import Derived.Test.YtjecmgkmcfkcjaaGreatQa38
import Derived.Test.YtjecmgkmcfkcjaaGreatQa5
set_option linter.unusedVariables false
set_option linter.unusedSimpArgs false
set_option maxRecDepth 100000
namespace Go.Proofs.YtjecmgkmcfkcjaaGreat
namespace Xb
open Wa Wg Wh
def badW (ri:Bool)(a:Nat):Option Nat→Bool
 |none=>false
 |some la=>if ri then decide (a≤la)else decide (la≤a)
def yk (E:Nat)(ri:Bool)(oC:Nat→Int)(oX:Nat→Nat):Nat→Nat→Option Nat→List (Nat×Int)
 |0,_,_=>[]
 |f+1,a,la=>if nothB E a=true then []else if badW ri a la=true then [(0,12)]else if oC a≠0 then [(a,oC a)]else(a,0)::yk E ri oC oX f (oX a) (some a)
def enough (E:Nat)(ri:Bool)(f:Nat):Option Nat→Prop
 |none=>E+2≤f
 |some la=>la≤E∧(if ri then E+1≤f+la else la+1≤f)
theorem enough_next {E:Nat}{ri:Bool}{f a:Nat}{la:Option Nat}(h:enough E ri (f+1) la)(hb:badW ri a la=false)(ha:a<E):enough E ri f (some a):=by
 cases la with
 |none=>
  have h':E+2≤f+1:=h
  unfold enough
  cases ri
  ·simp;omega
  ·simp;omega
 |some x=>
  unfold enough at h⊢
  unfold badW at hb
  cases ri
  ·simp at h hb⊢;omega
  ·simp at h hb⊢;omega
theorem enough_0 {E:Nat}{ri:Bool}{la:Option Nat}(h:enough E ri 0 la):False:=by
 cases la with
 |none=>have h':E+2≤0:=h;omega
 |some x=>
  unfold enough at h
  cases ri
  ·simp at h
  ·simp at h;omega
theorem yk_len (E:Nat)(ri:Bool)(oC:Nat→Int)(oX:Nat→Nat): ∀(f a:Nat) (la:Option Nat),(yk E ri oC oX f a la).length≤f
 |0,_,_=>jR _
 |f+1,a,la=>by
  have:=yk_len E ri oC oX f (oX a) (some a)
  unfold yk
  split
  ·simp
  ·split
   ·simp
   ·split
    ·simp
    ·simp only[List.length_cons];omega
def plR:List (Nat×Int)→List Int→List Int×Int
 | [],out=>(out,0)
 |x::xs,out=>if x.2≠0 then([],x.2)else plR xs (out++ [(x.1:Int)])
def plA:List (Nat×Int)→List Int→Option (List Int)
 | [],out=>some out
 |x::xs,out=>if x.2≠0 then none else plA xs (out++ [(x.1:Int)])
theorem plA_snoc (x:Nat×Int)(hx:x.2=0): ∀(pre:List (Nat×Int)) (out o:List Int),plA pre out=some o→plA (pre++ [x]) out=some (o++ [(x.1:Int)])
 | [],out,o,h=>by
   injection h with h
   subst h
   show(if x.2≠0 then none else some (out++ [(x.1:Int)]))=_
   rw[if_neg (by simpa using hx)]
 |y::pre,out,o,h=>by
  unfold plA at h
  show(if y.2≠0 then none else plA (pre++ [x]) (out++ [(y.1:Int)]))=_
  by_cases h0:y.2≠0
  ·rw[if_pos h0]at h;cases h
  ·rw[if_neg h0]at h⊢
   exact plA_snoc x hx pre _ o h
theorem plA_len: ∀(l:List (Nat×Int)) (out o:List Int),plA l out=some o→o.length=out.length+l.length
 | [],out,o,h=>by injection h with h;subst h;rfl
 |x::xs,out,o,h=>by
  unfold plA at h
  by_cases h0:x.2≠0
  ·rw[if_pos h0]at h;cases h
  ·rw[if_neg h0]at h
   have:=plA_len xs _ o h
   rw[List.length_append,List.length_singleton]at this
   rw[List.length_cons];omega
theorem plR_after: ∀(pre rest:List (Nat×Int)) (out o:List Int),plA pre out=some o→plR (pre++rest) out=plR rest o
 | [],rest,out,o,h=>by injection h with h;subst h;rfl
 |y::pre,rest,out,o,h=>by
  unfold plA at h
  show(if y.2≠0 then([],y.2)else plR (pre++rest) (out++ [(y.1:Int)]))=_
  by_cases h0:y.2≠0
  ·rw[if_pos h0]at h;cases h
  ·rw[if_neg h0]at h⊢
   exact plR_after pre rest _ o h
theorem nothB_is {E a:Nat}(h: ¬nothB E (a:Int)=true):0<a∧a<E:=by simp[nothB]at h;omega
theorem plR_links (E:Nat)(oC:Nat→Int)(oX:Nat→Nat): ∀(f a last:Nat) (out:List Int),plR (yk E true oC oX f a (some last)) out=links E oC oX f a last out
 |0,a,last,out=>rfl
 |f+1,a,last,out=>by
  unfold yk links
  by_cases h1:nothB E (a:Int)=true
  ·rw[if_pos h1,if_pos h1];rfl
  rw[if_neg h1,if_neg h1]
  by_cases h2:a≤last
  ·rw[if_pos (by simpa [badW]using h2),if_pos h2];rfl
  rw[if_neg (by simpa [badW]using h2),if_neg h2]
  by_cases h3:oC a≠0
  ·rw[if_pos h3,if_pos h3]
   show(if oC a≠0 then _ else _)=_
   rw[if_pos h3]
  rw[if_neg h3,if_neg h3]
  exact plR_links E oC oX f (oX a) a _
theorem yk_first (E:Nat)(oC:Nat→Int)(oX:Nat→Nat)(f a:Nat):yk E true oC oX f a none=yk E true oC oX f a (some 0):=by
 cases f with
 |zero=>rfl
 |succ f=>
  unfold yk
  by_cases h1:nothB E (a:Int)=true
  ·rw[if_pos h1,if_pos h1]
  rw[if_neg h1,if_neg h1]
  have:=nothB_is h1
  rw[show badW true a none=false from rfl,show badW true a (some 0)=false by simp[badW];omega]
theorem yk_more (E:Nat)(ri:Bool)(oC:Nat→Int)(oX:Nat→Nat): ∀(f g a:Nat) (la:Option Nat),enough E ri f la→f≤g→yk E ri oC oX g a la=yk E ri oC oX f a la
 |0,g,a,la,h,hg=>absurd h (fun h=>enough_0 h)
 |f+1,g,a,la,h,hg=>by
  obtain⟨g,rfl⟩: ∃q,g=q+1:=⟨g-1,by omega⟩
  unfold yk
  by_cases h1:nothB E (a:Int)=true
  ·rw[if_pos h1,if_pos h1]
  rw[if_neg h1,if_neg h1]
  cases hb:badW ri a la
  ·rw[if_neg (show ¬(false=true)by simp),if_neg (show ¬(false=true)by simp)]
   by_cases h3:oC a≠0
   ·rw[if_pos h3,if_pos h3]
   rw[if_neg h3,if_neg h3,yk_more E ri oC oX f g (oX a) (some a) (enough_next h hb (nothB_is h1).2) (by omega)]
  ·rw[if_pos rfl,if_pos rfl]
theorem yk_start (E:Nat)(oC:Nat→Int)(oX:Nat→Nat)(a:Nat):yk E true oC oX (E+2) a none=yk E true oC oX (E+1) a (some 0):=by
 rw[yk_first]
 exact yk_more E true oC oX (E+1) (E+2) a (some 0) ⟨Nat.zero_le _,by simp⟩ (by omega)
def fdR (oH:Nat→Int)(oP:Nat→List Int)(hv:Int)(pl:List Int):List (Nat×Int)→Int×Int
 | []=>(0,16)
 |x::xs=>if x.2≠0 then(0,x.2)else if oH x.1=hv∧oP x.1=pl then((x.1:Int),0)else fdR oH oP hv pl xs
def fdN (oH:Nat→Int)(oP:Nat→List Int)(hv:Int)(pl:List Int)(l:List (Nat×Int)):Prop:= ∀x∈l,x.2=0∧ ¬(oH x.1=hv∧oP x.1=pl)
theorem fdR_after {oH:Nat→Int}{oP:Nat→List Int}{hv:Int}{pl:List Int}(rest:List (Nat×Int)): ∀pre:List (Nat×Int),fdN oH oP hv pl pre→fdR oH oP hv pl (pre++rest)=fdR oH oP hv pl rest
 | [],_=>rfl
 |y::pre,h=>by
  obtain⟨h1,h2⟩:=h y (List.mem_cons_self ..)
  show(if y.2≠0 then _ else if _ then _ else fdR oH oP hv pl (pre++rest))=_
  rw[if_neg (by simpa using h1),if_neg h2]
  exact fdR_after rest pre fun x hx=>h x (List.mem_cons_of_mem _ hx)
theorem fdR_seek (E:Nat)(oC:Nat→Int)(oX:Nat→Nat)(oH:Nat→Int)(oP:Nat→List Int)(hv:Int)(pl:List Int): ∀(f a last:Nat),fdR oH oP hv pl (yk E true oC oX f a (some last))=seek E oC oX oH oP hv pl f a last
 |0,a,last=>rfl
 |f+1,a,last=>by
  unfold yk seek
  by_cases h1:nothB E (a:Int)=true
  ·rw[if_pos h1,if_pos h1];rfl
  rw[if_neg h1,if_neg h1]
  by_cases h2:a≤last
  ·rw[if_pos (by simpa [badW]using h2),if_pos h2];rfl
  rw[if_neg (by simpa [badW]using h2),if_neg h2]
  by_cases h3:oC a≠0
  ·rw[if_pos h3,if_pos h3]
   show(if oC a≠0 then _ else _)=_
   rw[if_pos h3]
  rw[if_neg h3,if_neg h3]
  show(if(0:Int)≠0 then _ else if oH a=hv∧oP a=pl then _ else fdR oH oP hv pl (yk E true oC oX f (oX a) (some a)))=_
  rw[if_neg (by simp),fdR_seek E oC oX oH oP hv pl f (oX a) a]
end Xb
namespace We
open Go.ChangeShapes Go.WideShapes Go.ChangeAt Go.RowKit Go.Shelf
variable {F : Fence} {n : Nat} {P : Program}
def Left {α:Type}(B:Nat)(Kp:World→World→Prop)(I:List α→World→Prop)(Ix:Code→List α→World→Prop)(xs:List α)(W:World):Exit→Act→World→Prop
 | .normal,_,W'=>KeepsFrom B W W'∧Kp W W'∧I xs W'
 | .ret,_,W'=>KeepsFrom B W W'∧Ix .ret xs W'
 | .exit id,_,W'=>KeepsFrom B W W'∧Ix (.exit id) xs W'
 | .goto t,_,W'=>KeepsFrom B W W'∧Ix (.goto t) xs W'
 |_,_,_=>False
end We
namespace Xa
open Go.ChangeShapes Go.WideShapes Go.ChangeAt Go.RowKit Go.Shelf
variable {F : Fence} {n : Nat} {P : Program}
def SeqOwn {α:Type}(F:Fence)(n:Nat)(P:Program)(g:Nat)(lb:Array Value)(encs:α→Array Value)(Px:α→World→Prop)(Kp Ab:World→World→Prop)(S Sp:List α→Prop)(w:World):Prop:=
 ∀(l:Nat) (J Jx:List α→World→Prop) (W:World),Below w.heap.size w W→(∀s A B,J s A→Ab A B→J s B)→(∀s A B,Jx s A→Ab A B→Jx s B)→
  (∀pre x V,Px x V→Sp (pre++ [x])→J pre V→YieldAt F (n-1) P l (encs x) V fun e V'=>(e= .returned (.bool true)∧J (pre++ [x]) V'∧Kp V V')∨(e= .returned (.bool false)∧Jx (pre++ [x]) V'))→
  J [] W→CallsIn F n P g (#[.func (.yield l) #[] #[]]++lb) W fun e W'=>(∃v,e= .returned v)∧((∃xs,S xs∧J xs W')∨(∃pre,Sp pre∧Jx pre W'))
theorem range_own {α:Type}{g:Operand}{ps:Array Tmp}{assign body:Code}{Q:Exit→Act→World→Prop}{a:Act}{w:World}
 (hro:F.round=none)(h1:1≤n){gf:Nat}{lb:Array Value}(hg:a.eval g= .func (.func gf) #[] lb)(hFg:F.fn gf)(eg: ∀args w,(callFunc gf args).run P w= .ok (.enter gf args) w)
 {encs:α→Array Value}{Px:α→World→Prop}{Kp Ab:World→World→Prop}{S Sp:List α→Prop}(hseq:SeqOwn F (n-1) P gf lb encs Px Kp Ab S Sp w)
 (hAb: ∀A B,Ab A B→ ∀k o,w.heap.size≤k→A.heap[k]? =some o→o.isCells=false→B.heap[k]? =some o)
 (hKt: ∀ {A B C:World},Kp A B→Kp B C→Kp A C)(hKb: ∀(W:World) (l:Nat) (o o':Obj),w.heap.size≤l→W.heap[l]? =some o→o.isCells=false→o.isWalk=false→Kp W (W.putObj l o'))(hps: ∀x,(encs x).size=ps.size)(hPb: ∀x (W:World) (l:Nat) (o o':Obj),w.heap.size≤l→W.heap[l]? =some o→o.isCells=false→Px x W→Px x (W.putObj l o'))
 (I:List α→World→Prop)(Ix:Code→List α→World→Prop)(hI:OwnFrom w.heap.size I)(hIx: ∀c,OwnFrom w.heap.size (Ix c))(hIa: ∀s A B,I s A→Ab A B→I s B)(hIxa: ∀c s A B,Ix c s A→Ab A B→Ix c s B)(h0:I [] w)(a₁:α→World→Act)(as_:α→World→World)(hAs: ∀x W k o,w.heap.size≤k→W.heap[k]? =some o→o.isCells=false→(as_ x W).heap[k]? =some o)(hIs: ∀s x W,w.heap.size+2≤W.heap.size→I s W→I s (as_ x W))(hPs: ∀x W,Px x W→Px x (as_ x W))(hKs: ∀x W,w.heap.size+2≤W.heap.size→Kp W (as_ x W))
 (hassign: ∀(l:Nat) (x:α) (W:World) (K:Act→World→Prop),K (a₁ x W) (as_ x W)→
   assign.wpIn (F.inRound l) (n-1-1) P (Exit.then K (fun _ _ _=>False)) {tmps:=(ps.zip (encs x)).foldl (fun t (p,v)=>t.setIfInBounds p v) a.tmps,defers:=[]} W)
 (hbody: ∀(l:Nat) (pre:List α) (x:α) (W V:World),w.heap.size+2≤W.heap.size→Px x V→Sp (pre++ [x])→I pre V→V.heap.size=(as_ x W).heap.size→(∀k,k≠w.heap.size+1→V.heap[k]? =(as_ x W).heap[k]?)→body.wpIn (F.inRound l) (n-1-1) P (We.Left w.heap.size Kp I Ix (pre++ [x]) V) (a₁ x W) V)
 (hdone: ∀(D:Nat) (xs:List α) (W:World),w.heap.size≤D→S xs→I xs W→W.heap[D]? =some (.deferred (some []))→Q .normal {a with defers:={target:= .collected D,args:= #[]}::a.defers} W)
 (hstop: ∀(D:Nat) (c:Code) (pre:List α) (W:World),w.heap.size≤D→Sp pre→Ix c pre W→W.heap[D]? =some (.deferred (some []))→c.wpIn F n P Q {a with defers:={target:= .collected D,args:= #[]}::a.defers} W):
 (Code.rangeFunc g ps assign body).wpIn F n P Q a w:=by
 refine wpIn_rangeFunc fun fn hfn=>?_
 rw[hro]
 generalize hd:w.heap.size=d at*
 let mk:LoopState→Option Code→Loop:=fun st pe=>{state:=st,pending:=pe,fn,tmps:=a.tmps,params:=ps,assign,body,defers:=d}
 let At:LoopState→Option Code→World→Prop:=fun st pe W=>W.heap[d+1]? =some (.loop (mk st pe))∧W.heap[d]? =some (.deferred (some []))
 have at_put: ∀ {st pe st' pe'} {W:World},At st pe W→At st' pe' (W.putObj (d+1) (.loop (mk st' pe'))):=fun h=>
  ⟨World.putObj_heap_same (Array.getElem?_eq_some_iff.1 h.1).1,(World.putObj_heap_other (by omega)).trans h.2⟩
 have at_kept: ∀ {st pe} {W W':World},(∀k o,d≤k→W.heap[k]? =some o→o.isCells=false→W'.heap[k]? =some o)→At st pe W→At st pe W':=fun hk h=>
  ⟨hk _ _ (by omega) h.1 rfl,hk _ _ (jR _) h.2 rfl⟩
 let W0:World:=(w.alloc (.deferred (some []))).alloc (.loop (mk .ready none))
 have A0:At .ready none W0:=by
  refine⟨?_,?_⟩
  ·have:=World.alloc_heap_new (w.alloc (.deferred (some []))) (.loop (mk .ready none))
   rwa[World.size_alloc,hd]at this
  ·have:=World.alloc_heap_new w (.deferred (some []))
   rw[hd]at this
   exact(Below.heap_alloc _ _ _ (by simp[hd])).trans this
 have B0:Below d w W0:=((Below.refl _ w).alloc (by omega) _).alloc (by simp;omega) _
 refine⟨d+1,[{target:= .collected d,args:= #[]}],W0,{target:= .fn (.func gf) lb,args:= #[.func (.yield (d+1)) #[] #[]]},W0,gf,#[.func (.yield (d+1)) #[] #[]]++lb,W0,?_,?_,?_,?_,fun _=>h1,?_⟩
 ·have:=run_enterLoop_outer (P:=P) (w:=w) fn a.tmps ps assign body
  rw[hd]at this
  exact this
 ·simp only[resolve,hg]
  simp[go_sem]
 ·intro f' hf'
  simp[Target.leads]at hf'
  subst hf'
  exact hFg
 ·simp[invoke,go_sem,eg]
 refine(hseq (d+1) (fun pre W=>I pre W∧At .ready none W) (fun pre W=> ∃c,Ix c pre W∧At .done (some c) W) W0 (by rw[hd];exact B0)
  (fun s A B h hab=>⟨hIa s A B h.1 hab,at_kept (hAb A B hab) h.2⟩) (fun s A B h hab=>h.imp fun c hc=>⟨hIxa c s A B hc.1 hab,at_kept (hAb A B hab) hc.2⟩)
  ?round ⟨hI.alloc _ (hI.alloc _ h0),A0⟩).mono ?after
 case round=>
  rintro pre x W hpx hsp ⟨hi,hat⟩
  have hy:=run_yield (P:=P) (args:=encs x) hat.1 (hps x)
  have hszW:d+2≤W.heap.size:=(Array.getElem?_eq_some_iff.1 hat.1).1
  have hat1:At .ready none (as_ x W):=at_kept (hAs x W) hat
  have hb:=run_beginRound (P:=P) hat1.1 rfl
  have hat2:At .busy none ((as_ x W).putObj (d+1) (.loop (mk .busy none))):=at_put hat1
  refine⟨fn,_,assign,body,hy,roundIn_of_wpIn hfn (hassign _ x W _ ⟨_,hb,wpIn_mono (hbody _ pre x W _ hszW (hPb x _ _ _ _ (by omega) hat1.1 rfl (hPs x W hpx)) hsp (hI.putObj _ (hIs pre x W hszW hi) (by omega) hat1.1 rfl) (by simp) (fun k hk=>World.putObj_heap_other hk)) ?_⟩)⟩
  have ends: ∀(jump:Option Code) (V:World),KeepsFrom d ((as_ x W).putObj (d+1) (.loop (mk .busy none))) V→(Instr.endRound (d+1) jump).run P V= .ok (.bool jump.isNone) (V.putObj (d+1) (.loop (mk (if jump.isNone then .ready else .done) jump)))∧At .busy none V:=fun jump V hk=>by
   have h2:=at_kept (fun k o h3 h4 h5=>hk.same k o h3 h4 h5) hat2
   exact⟨run_endRound jump h2.1,h2⟩
  have out: ∀(c:Code) (V:World),KeepsFrom d ((as_ x W).putObj (d+1) (.loop (mk .busy none))) V→Ix c (pre++ [x]) V→Ix c (pre++ [x]) (V.putObj (d+1) (.loop (mk .done (some c))))∧At .done (some c) (V.putObj (d+1) (.loop (mk .done (some c)))):=fun c V hk hx=>
   ⟨(hIx c).putObj _ hx (by omega) (ends none V hk).2.1 rfl,at_put (ends none V hk).2⟩
  rintro e a3 V hp
  cases e with
  |normal=>
   obtain⟨hk,hkp,hi3⟩:=hp
   obtain⟨hr,h2⟩:=ends none V hk
   exact⟨_,_,hr,.inl ⟨rfl,⟨hI.putObj _ hi3 (by omega) h2.1 rfl,at_put h2⟩,hKt (hKt (hKt (hKs x W hszW) (hKb _ _ _ _ (by omega) hat1.1 rfl rfl)) hkp) (hKb _ _ _ _ (by omega) h2.1 rfl rfl)⟩⟩
  |ret=>exact⟨_,_,(ends (some .ret) V hp.1).1,.inr ⟨rfl,.ret,out _ V hp.1 hp.2⟩⟩
  |exit id=>exact⟨_,_,(ends (some (.exit id)) V hp.1).1,.inr ⟨rfl,.exit id,out _ V hp.1 hp.2⟩⟩
  |goto t=>exact⟨_,_,(ends (some (.goto t)) V hp.1).1,.inr ⟨rfl,.goto t,out _ V hp.1 hp.2⟩⟩
  |panic ch=>exact hp.elim
  |outgrown=>exact hp.elim
 case after=>
  rintro e V ⟨⟨v,rfl⟩,⟨xs,hS,hi,h2⟩|⟨pre,hSp,c,hi,h2⟩⟩
  ·exact⟨none,_,run_endLoop h2.1 (by simp[mk]),hdone d xs _ (by omega) hS (hI.putObj _ hi (by omega) h2.1 rfl) ((World.putObj_heap_other (by omega)).trans h2.2)⟩
  ·exact⟨some c,_,run_endLoop h2.1 (by simp[mk]),hstop d c pre _ (by omega) hSp ((hIx c).putObj _ hi (by omega) h2.1 rfl) ((World.putObj_heap_other (by omega)).trans h2.2)⟩
end Xa
namespace Wf
open Go.ChangeShapes Go.WideShapes Go.ChangeAt Go.RowKit Go.Shelf
open Bytes8 Blk8 Kf Own8 OwnA OwnE Rows2 Ga Gb Rc Va
open Yc Ye
attribute [local go_sem] Oper.semAt_some
def rowOf (V:World)(lb:Nat):Option Nat:=match V.cell? ⟨lb,0,none⟩with
 |some (.slice A _ _)=>ownB A
 |_=>none
theorem rowOf_block {V V':World}{lb:Nat}(h:V'.heap[lb]? =V.heap[lb]?):rowOf V' lb=rowOf V lb:=by
 unfold rowOf
 rw[World.cell?_of_block (a:=⟨lb,0,none⟩) h]
structure KpL (B0 lb:Nat)(V V':World):Prop where
 below:Below B0 V V'
 cells: ∀b o,V.heap[b]? =some o→o.isCells=true→b≠lb→rowOf V lb≠some b→V'.heap[b]? =some o
 row: ∀k,rowOf V' lb=some k→rowOf V lb=some k∨(V.heap.size≤k∧k<V'.heap.size)
theorem KpL.trans {B0 lb:Nat}{A B C:World}(h:KpL B0 lb A B)(k:KpL B0 lb B C):KpL B0 lb A C:=
 {below:=h.below.trans k.below
  cells:=fun b o h1 h2 h3 h4=>k.cells b o (h.cells b o h1 h2 h3 h4) h2 h3 fun e=>(h.row b e).elim h4 fun h5=>by have:=(Array.getElem?_eq_some_iff.1 h1).1;omega
  row:=fun x hx=>(k.row x hx).elim (fun h1=>(h.row x h1).imp id fun h2=>⟨h2.1,by have:=k.below.size;omega⟩) fun h1=> .inr ⟨by have:=h.below.size;omega,h1.2⟩}
theorem KpL.put {B0 lb d:Nat}(hlb:lb<d)(hB0:B0≤d)(W:World)(l:Nat)(o o':Obj)(hl:d≤l)(ho:W.heap[l]? =some o)(hc:o.isCells=false):KpL B0 lb W (W.putObj l o'):=
 {below:=⟨rfl,rfl,rfl,by simp,fun k hk=>World.putObj_heap_other (by omega)⟩
  cells:=fun b o1 h1 h2 _ _=>(World.putObj_heap_other (fun e=>by
   rw[e,ho]at h1
   injection h1 with h1
   rw[←h1,hc]at h2
   cases h2)).trans h1
  row:=fun k hk=> .inl (by rw[←hk];exact(rowOf_block (World.putObj_heap_other (by omega))).symm)}
theorem KpL.blk {B0 lb:Nat}{V V':World}(h:KpL B0 lb V V'){b:Nat}{vs:List Value}{T:TypeId}(hb:Blk V b vs T)(h1:b≠lb)(h2:rowOf V lb≠some b):Blk V' b vs T:=h.cells b _ hb rfl h1 h2
theorem KpL.cell {B0 lb:Nat}{V V':World}(h:KpL B0 lb V V'){b i:Nat}{v:Value}(hc:V.cell? ⟨b,i,none⟩=some v)(h1:b≠lb)(h2:rowOf V lb≠some b):V'.cell? ⟨b,i,none⟩=some v:=by
 unfold World.cell? at hc
 cases ho:V.heap[b]? with
 |none=>simp[ho]at hc
 |some o=>
  cases o with
  |cells c e fz=>
   have h3:=h.cells b _ ho rfl h1 h2
   exact(World.cell?_of_block (a:=⟨b,i,none⟩) (w':=V') (w:=V) (h3.trans ho.symm)).trans (by unfold World.cell?;exact hc)
  |_=>simp[ho]at hc
attribute [local irreducible] HD.cells wpList Code.wp
end Wf
end Go.Proofs.YtjecmgkmcfkcjaaGreat
