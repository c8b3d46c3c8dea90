/-
  Texts beneath the proof.
-/
import Derived.RangeFuncNested
import Derived.OwnWalkIn
import Derived.TacticsInMore
import Derived.LoopNIn
import Derived.Sort.CutIn
import Derived.Test.YtiddkgcafpaekaaGreatJq36
set_option linter.unusedVariables false
set_option linter.unusedSimpArgs false
set_option maxRecDepth 100000
set_option maxHeartbeats 8000000
open Go.ChangeShapes Go.WideShapes Go.ChangeAt Go.RowKit
namespace Go.Proofs.YtiddkgcafpaekaaGreat
namespace Wc
open Ga Gb
open Ye Yh
open Rd (dcode)
open Rg (arcode)
open Ym (wordElt)
attribute [local irreducible] HD.cells wpList Code.wp
end Wc
namespace We
open Go.ChangeShapes Go.WideShapes Go.ChangeAt Go.RowKit Go.Shelf
variable {F : Fence} {n : Nat} {P : Program}
def SeqOwn {α:Type}(F:Fence)(n:Nat)(P:Program)(g:Nat)(lb:Array Value)(encs:α→Array Value)(Px:α→Prop)(Kp Ab:World→World→Prop)(S Sp:List α→Prop)(w:World):Prop:=
 ∀(l:Nat) (J Jx:List α→World→Prop) (W:World),Below w.heap.size w W→(∀s A B,J s A→Ab A B→J s B)→(∀s A B,Jx s A→Ab A B→Jx s B)→
  (∀pre x V,Px x→J pre V→YieldAt F (n-1) P l (encs x) V fun e V'=>(e= .returned (.bool true)∧J (pre++ [x]) V'∧Kp V V')∨(e= .returned (.bool false)∧Jx (pre++ [x]) V'))→
  J [] W→CallsIn F n P g (#[.func (.yield l) #[] #[]]++lb) W fun e W'=>(∃v,e= .returned v)∧((∃xs,S xs∧J xs W')∨(∃pre,Sp pre∧Jx pre W'))
def Left {α:Type}(B:Nat)(Kp:World→World→Prop)(I:List α→World→Prop)(Ix:Code→List α→World→Prop)(xs:List α)(W:World):Exit→Act→World→Prop
 | .normal,_,W'=>KeepsFrom B W W'∧Kp W W'∧I xs W'
 | .ret,_,W'=>KeepsFrom B W W'∧Ix .ret xs W'
 | .exit id,_,W'=>KeepsFrom B W W'∧Ix (.exit id) xs W'
 | .goto t,_,W'=>KeepsFrom B W W'∧Ix (.goto t) xs W'
 |_,_,_=>False
theorem range_own {α:Type}{g:Operand}{ps:Array Tmp}{assign body:Code}{Q:Exit→Act→World→Prop}{a:Act}{w:World}
 (hro:F.round=none)(h1:1≤n){gf:Nat}{lb:Array Value}(hg:a.eval g= .func (.func gf) #[] lb)(hFg:F.fn gf)(eg: ∀args w,(callFunc gf args).run P w= .ok (.enter gf args) w)
 {encs:α→Array Value}{Px:α→Prop}{Kp Ab:World→World→Prop}{S Sp:List α→Prop}(hseq:SeqOwn F (n-1) P gf lb encs Px Kp Ab S Sp w)
 (hAb: ∀A B,Ab A B→ ∀k o,w.heap.size≤k→A.heap[k]? =some o→o.isCells=false→B.heap[k]? =some o)
 (hKt: ∀ {A B C:World},Kp A B→Kp B C→Kp A C)(hKb: ∀(W:World) (l:Nat) (o o':Obj),w.heap.size≤l→W.heap[l]? =some o→o.isCells=false→o.isWalk=false→Kp W (W.putObj l o'))(hps: ∀x,(encs x).size=ps.size)
 (I:List α→World→Prop)(Ix:Code→List α→World→Prop)(hI:OwnFrom w.heap.size I)(hIx: ∀c,OwnFrom w.heap.size (Ix c))(hIa: ∀s A B,I s A→Ab A B→I s B)(hIxa: ∀c s A B,Ix c s A→Ab A B→Ix c s B)(h0:I [] w)(a₁:α→Act)
 (hassign: ∀(l:Nat) (x:α) (W:World) (K:Act→World→Prop),K (a₁ x) W→
   assign.wpIn (F.inRound l) (n-1-1) P (Exit.then K (fun _ _ _=>False)) {tmps:=(ps.zip (encs x)).foldl (fun t (p,v)=>t.setIfInBounds p v) a.tmps,defers:=[]} W)
 (hbody: ∀(l:Nat) (pre:List α) (x:α) (W:World),Px x→I pre W→body.wpIn (F.inRound l) (n-1-1) P (Left w.heap.size Kp I Ix (pre++ [x]) W) (a₁ x) W)
 (hdone: ∀(D:Nat) (xs:List α) (W:World),w.heap.size≤D→S xs→I xs W→W.heap[D]? =some (.deferred (some []))→Q .normal {a with defers:={target:= .collected D,args:= #[]}::a.defers} W)
 (hstop: ∀(D:Nat) (c:Code) (pre:List α) (W:World),w.heap.size≤D→Sp pre→Ix c pre W→W.heap[D]? =some (.deferred (some []))→c.wpIn F n P Q {a with defers:={target:= .collected D,args:= #[]}::a.defers} W):
 (Code.rangeFunc g ps assign body).wpIn F n P Q a w:=by
 refine wpIn_rangeFunc fun fn hfn=>?_
 rw[hro]
 generalize hd:w.heap.size=d at*
 let mk:LoopState→Option Code→Loop:=fun st pe=>{state:=st,pending:=pe,fn,tmps:=a.tmps,params:=ps,assign,body,defers:=d}
 let At:LoopState→Option Code→World→Prop:=fun st pe W=>W.heap[d+1]? =some (.loop (mk st pe))∧W.heap[d]? =some (.deferred (some []))
 have at_put: ∀ {st pe st' pe'} {W:World},At st pe W→At st' pe' (W.putObj (d+1) (.loop (mk st' pe'))):=fun h=>
  ⟨World.putObj_heap_same (Array.getElem?_eq_some_iff.1 h.1).1,(World.putObj_heap_other (by omega)).trans h.2⟩
 have at_kept: ∀ {st pe} {W W':World},(∀k o,d≤k→W.heap[k]? =some o→o.isCells=false→W'.heap[k]? =some o)→At st pe W→At st pe W':=fun hk h=>
  ⟨hk _ _ (by omega) h.1 rfl,hk _ _ (yR _) h.2 rfl⟩
 let W0:World:=(w.alloc (.deferred (some []))).alloc (.loop (mk .ready none))
 have A0:At .ready none W0:=by
  refine⟨?_,?_⟩
  ·have:=World.alloc_heap_new (w.alloc (.deferred (some []))) (.loop (mk .ready none))
   rwa[World.size_alloc,hd]at this
  ·have:=World.alloc_heap_new w (.deferred (some []))
   rw[hd]at this
   exact(Below.heap_alloc _ _ _ (by simp[hd])).trans this
 have B0:Below d w W0:=((Below.refl _ w).alloc (by omega) _).alloc (by simp;omega) _
 refine⟨d+1,[{target:= .collected d,args:= #[]}],W0,{target:= .fn (.func gf) lb,args:= #[.func (.yield (d+1)) #[] #[]]},W0,gf,#[.func (.yield (d+1)) #[] #[]]++lb,W0,?_,?_,?_,?_,fun _=>h1,?_⟩
 ·have:=run_enterLoop_outer (P:=P) (w:=w) fn a.tmps ps assign body
  rw[hd]at this
  exact this
 ·simp only[resolve,hg]
  simp[go_sem]
 ·intro f' hf'
  simp[Target.leads]at hf'
  subst hf'
  exact hFg
 ·simp[invoke,go_sem,eg]
 refine(hseq (d+1) (fun pre W=>I pre W∧At .ready none W) (fun pre W=> ∃c,Ix c pre W∧At .done (some c) W) W0 (by rw[hd];exact B0)
  (fun s A B h hab=>⟨hIa s A B h.1 hab,at_kept (hAb A B hab) h.2⟩) (fun s A B h hab=>h.imp fun c hc=>⟨hIxa c s A B hc.1 hab,at_kept (hAb A B hab) hc.2⟩)
  ?round ⟨hI.alloc _ (hI.alloc _ h0),A0⟩).mono ?after
 case round=>
  rintro pre x W hpx ⟨hi,hat⟩
  have hy:=run_yield (P:=P) (args:=encs x) hat.1 (hps x)
  have hb:=run_beginRound (P:=P) hat.1 rfl
  have hat2:At .busy none (W.putObj (d+1) (.loop (mk .busy none))):=at_put hat
  refine⟨fn,_,assign,body,hy,roundIn_of_wpIn hfn (hassign _ x W _ ⟨_,hb,wpIn_mono (hbody _ pre x _ hpx (hI.putObj _ hi (by omega) hat.1 rfl)) ?_⟩)⟩
  have ends: ∀(jump:Option Code) (V:World),KeepsFrom d (W.putObj (d+1) (.loop (mk .busy none))) V→(Instr.endRound (d+1) jump).run P V= .ok (.bool jump.isNone) (V.putObj (d+1) (.loop (mk (if jump.isNone then .ready else .done) jump)))∧At .busy none V:=fun jump V hk=>by
   have h2:=at_kept (fun k o h3 h4 h5=>hk.same k o h3 h4 h5) hat2
   exact⟨run_endRound jump h2.1,h2⟩
  have out: ∀(c:Code) (V:World),KeepsFrom d (W.putObj (d+1) (.loop (mk .busy none))) V→Ix c (pre++ [x]) V→Ix c (pre++ [x]) (V.putObj (d+1) (.loop (mk .done (some c))))∧At .done (some c) (V.putObj (d+1) (.loop (mk .done (some c)))):=fun c V hk hx=>
   ⟨(hIx c).putObj _ hx (by omega) (ends none V hk).2.1 rfl,at_put (ends none V hk).2⟩
  rintro e a3 V hp
  cases e with
  |normal=>
   obtain⟨hk,hkp,hi3⟩:=hp
   obtain⟨hr,h2⟩:=ends none V hk
   exact⟨_,_,hr,.inl ⟨rfl,⟨hI.putObj _ hi3 (by omega) h2.1 rfl,at_put h2⟩,hKt (hKt (hKb _ _ _ _ (by omega) hat.1 rfl rfl) hkp) (hKb _ _ _ _ (by omega) h2.1 rfl rfl)⟩⟩
  |ret=>exact⟨_,_,(ends (some .ret) V hp.1).1,.inr ⟨rfl,.ret,out _ V hp.1 hp.2⟩⟩
  |exit id=>exact⟨_,_,(ends (some (.exit id)) V hp.1).1,.inr ⟨rfl,.exit id,out _ V hp.1 hp.2⟩⟩
  |goto t=>exact⟨_,_,(ends (some (.goto t)) V hp.1).1,.inr ⟨rfl,.goto t,out _ V hp.1 hp.2⟩⟩
  |panic ch=>exact hp.elim
  |outgrown=>exact hp.elim
 case after=>
  rintro e V ⟨⟨v,rfl⟩,⟨xs,hS,hi,h2⟩|⟨pre,hSp,c,hi,h2⟩⟩
  ·exact⟨none,_,run_endLoop h2.1 (by simp[mk]),hdone d xs _ (by omega) hS (hI.putObj _ hi (by omega) h2.1 rfl) ((World.putObj_heap_other (by omega)).trans h2.2)⟩
  ·exact⟨some c,_,run_endLoop h2.1 (by simp[mk]),hstop d c pre _ (by omega) hSp ((hIx c).putObj _ hi (by omega) h2.1 rfl) ((World.putObj_heap_other (by omega)).trans h2.2)⟩
end We
namespace Wf
open Go.ChangeShapes Go.WideShapes Go.ChangeAt Go.RowKit Go.Shelf
open Bytes8 Blk8 Kf Own8 OwnA OwnE Rows2 Ob Ga Gb Ok7 Rc Va Wa Wd We
open Yc Yp Ye Yg Yh
open Rg (arcode)
open Wb (natO)
attribute [local go_sem] Oper.semAt_some
def rowOf (V:World)(lb:Nat):Option Nat:=match V.cell? ⟨lb,0,none⟩with
 |some (.slice A _ _)=>ownB A
 |_=>none
theorem rowOf_block {V V':World}{lb:Nat}(h:V'.heap[lb]? =V.heap[lb]?):rowOf V' lb=rowOf V lb:=by
 unfold rowOf
 rw[World.cell?_of_block (a:=⟨lb,0,none⟩) h]
structure KpL (B0 lb:Nat)(V V':World):Prop where
 below:Below B0 V V'
 cells: ∀b o,V.heap[b]? =some o→o.isCells=true→b≠lb→rowOf V lb≠some b→V'.heap[b]? =some o
 row: ∀k,rowOf V' lb=some k→rowOf V lb=some k∨(V.heap.size≤k∧k<V'.heap.size)
theorem KpL.trans {B0 lb:Nat}{A B C:World}(h:KpL B0 lb A B)(k:KpL B0 lb B C):KpL B0 lb A C:=
 {below:=h.below.trans k.below
  cells:=fun b o h1 h2 h3 h4=>k.cells b o (h.cells b o h1 h2 h3 h4) h2 h3 fun e=>(h.row b e).elim h4 fun h5=>by have:=(Array.getElem?_eq_some_iff.1 h1).1;omega
  row:=fun x hx=>(k.row x hx).elim (fun h1=>(h.row x h1).imp id fun h2=>⟨h2.1,by have:=k.below.size;omega⟩) fun h1=> .inr ⟨by have:=h.below.size;omega,h1.2⟩}
theorem KpL.put {B0 lb d:Nat}(hlb:lb<d)(hB0:B0≤d)(W:World)(l:Nat)(o o':Obj)(hl:d≤l)(ho:W.heap[l]? =some o)(hc:o.isCells=false):KpL B0 lb W (W.putObj l o'):=
 {below:=⟨rfl,rfl,rfl,by simp,fun k hk=>World.putObj_heap_other (by omega)⟩
  cells:=fun b o1 h1 h2 _ _=>(World.putObj_heap_other (fun e=>by
   rw[e,ho]at h1
   injection h1 with h1
   rw[←h1,hc]at h2
   cases h2)).trans h1
  row:=fun k hk=> .inl (by rw[←hk];exact(rowOf_block (World.putObj_heap_other (by omega))).symm)}
theorem KpL.blk {B0 lb:Nat}{V V':World}(h:KpL B0 lb V V'){b:Nat}{vs:List Value}{T:TypeId}(hb:Blk V b vs T)(h1:b≠lb)(h2:rowOf V lb≠some b):Blk V' b vs T:=h.cells b _ hb rfl h1 h2
theorem KpL.cell {B0 lb:Nat}{V V':World}(h:KpL B0 lb V V'){b i:Nat}{v:Value}(hc:V.cell? ⟨b,i,none⟩=some v)(h1:b≠lb)(h2:rowOf V lb≠some b):V'.cell? ⟨b,i,none⟩=some v:=by
 unfold World.cell? at hc
 cases ho:V.heap[b]? with
 |none=>simp[ho]at hc
 |some o=>
  cases o with
  |cells c e fz=>
   have h3:=h.cells b _ ho rfl h1 h2
   exact(World.cell?_of_block (a:=⟨b,i,none⟩) (w':=V') (w:=V) (h3.trans ho.symm)).trans (by unfold World.cell?;exact hc)
  |_=>simp[ho]at hc
theorem KpL.ints {B0 lb:Nat}{V V':World}(h:KpL B0 lb V V'){A:Option Addr}{n:Nat}{f:Nat→Int}(hi:InInts .u64 V A n f)(h1:0<n→ ∀b off,A=some ⟨b,off,none⟩→b≠lb∧rowOf V lb≠some b):InInts .u64 V' A n f:=fun i hin=>by
 obtain⟨b,off,e,h2,h3,h4⟩:=hi i hin
 exact⟨b,off,e,yL h2 h.below.size,h.cell h3 (h1 (by omega) b off e).1 (h1 (by omega) b off e).2,h4⟩
structure Mid (w0:World)(gv Bv Ba lb:Nat)(a:Nat)(W:World):Prop where
 bel:Below w0.heap.size w0 W
 v:W.cell? ⟨Bv,0,none⟩=some (.pointer (some ⟨gv,0,none⟩))
 at_:Blk W Ba [.int .u64 (a:Int)] 27
 row: ∀k,rowOf W lb=some k→k≠Bv∧k≠Ba∧k<W.heap.size
theorem Mid.kp {w0:World}{gv Bv Ba lb a:Nat}{W W':World}(h:Mid w0 gv Bv Ba lb a W)(k:KpL w0.heap.size lb W W')(h1:Bv≠lb)(h2:Ba≠lb)(h3:Bv<W.heap.size):Mid w0 gv Bv Ba lb a W':=
 {bel:=h.bel.trans k.below
  v:=k.cell h.v h1 fun e=>(h.row Bv e).1 rfl
  at_:=k.blk h.at_ h2 fun e=>(h.row Ba e).2.1 rfl
  row:=fun x hx=>(k.row x hx).elim (fun h4=>⟨(h.row x h4).1,(h.row x h4).2.1,yL (h.row x h4).2.2 k.below.size⟩) fun h4=>⟨by omega,by have:=h.at_.lt;omega,h4.2⟩}
theorem Mid.below {w0:World}{gv Bv Ba lb a:Nat}{W W':World}(h:Mid w0 gv Bv Ba lb a W)(k:Below W.heap.size W W')(h1:lb<W.heap.size)(h3:Bv<W.heap.size):Mid w0 gv Bv Ba lb a W':=
 {bel:=h.bel.trans (k.mono h.bel.size)
  v:=(k.cell (p:=⟨Bv,0,none⟩) h3).trans h.v
  at_:=h.at_.below k h.at_.lt
  row:=fun x hx=>by
   rw[rowOf_block (k.block lb h1)]at hx
   obtain⟨r1,r2,r3⟩:=h.row x hx
   exact⟨r1,r2,yL r3 k.size⟩}
theorem its_split (g:Nat→Int)(cnt k:Nat)(h:k<cnt):its g (cnt-k) k=(g k,0)::its g (cnt-(k+1)) (k+1):=by
 rw[show cnt-k=(cnt-(k+1))+1 by omega];rfl
structure Hand (lb:Nat)(ga:Nat)(T:TypeId)(nx:Int)(It:Option Addr)(cnt ci:Nat)(g:Nat→Int)(W:World):Prop where
 blk:Blk W ga [.int .u64 nx,.slice It cnt ci] T
 ints:InInts .u64 W It cnt g
 rowA:rowOf W lb≠some ga
 rowI:0<cnt→ ∀b off,It=some ⟨b,off,none⟩→b<W.heap.size∧rowOf W lb≠some b
theorem Hand.kp {B0 lb ga:Nat}{T:TypeId}{nx:Int}{It:Option Addr}{cnt ci:Nat}{g:Nat→Int}{W W':World}(h:Hand lb ga T nx It cnt ci g W)(k:KpL B0 lb W W')(h1:ga≠lb)(h2: ∀b off,It=some ⟨b,off,none⟩→b≠lb):Hand lb ga T nx It cnt ci g W':=
 {blk:=k.blk h.blk h1 h.rowA
  ints:=k.ints h.ints fun h0 b off e=>⟨h2 b off e,(h.rowI h0 b off e).2⟩
  rowA:=fun e=>(k.row ga e).elim h.rowA fun h3=>by have:=h.blk.lt;omega
  rowI:=fun h0 b off e=>⟨yL (h.rowI h0 b off e).1 k.below.size,fun e2=>(k.row b e2).elim (h.rowI h0 b off e).2 fun h3=>by have:=(h.rowI h0 b off e).1;omega⟩}
attribute [local irreducible] HD.cells wpList Code.wp
abbrev encY (x:Int×Int):Array Value:= #[.int .u64 x.1,.int .i64 x.2]
theorem items1_own {gv:Nat}{h:HD}{A:Option Addr}{E c:Nat}{l:List Int}(w0:World)(v:ViewAt w0 gv h A E c l)(hcm:c≤maxLen)(hbig:E≤800000)(hll:l.length≤800000)(hAB:AllB l)(Bv Ba lb a0 n:Nat)(hn:1≤n)(w:World)(hM:Mid w0 gv Bv Ba lb a0 w)(hBl:Bv≠lb)(hAl:Ba≠lb)(hvl:Bv<w.heap.size)(hll2:lb<w.heap.size)(hva:Bv≠Ba)(hB0:w0.heap.size≤Ba)(ha0:a0≤18446744073709551615):
 SeqOwn Fence.wide n Tryz.prog 220 #[.pointer (some ⟨Bv,0,none⟩),.pointer (some ⟨Ba,0,none⟩)] encY (fun x=>0≤x.1) (KpL w0.heap.size lb) (KeptF (One Ba)) (fun xs=>xs=yl h l E (E+1) a0 0) (fun pre=> ∃rest,yl h l E (E+1) a0 0=pre++rest) w:=by
 intro lL J Jx W hW hJ hJx hY hJ0
 have HNo:=yH fun(x:Int) (V:World) (hV:Below w0.heap.size w0 V)=>noth_any x V (v.below hV)
 have HAr:=yH fun(a:Nat) (V:World) (hV:Below w0.heap.size w0 V)=>arrTell a V (v.below hV) hcm
 have HCL:=yH fun a=>aC_le (h:=h) (n:=E) (a:=a) (show l.length≤1000000 by omega)
 have hsW:=hW.size
 have HM0:=yH (hM.below hW hll2 hvl)
 have HLB:=yH (show lb<W.heap.size by omega)
 have HVB:=yH (show Bv<W.heap.size by omega)
 have HJ:=yH fun(s:List (Int×Int)) (X Y:World) (hs:J s X) (hb:Below X.heap.size X Y)=>hJ s X Y hs (KeptF.of_below hb)
 have HJb:=yH hJ
 clear v hM hvl hll2 hJ hJx hsW
 refine callsIn_of_wp Tryz.func220 rfl trivial ?_ rfl
 simp only[Tryz.ntmps220,List.size_toArray,List.length_cons,List.length_nil,Nat.reduceAdd,Nat.reduceSub,Array.replicate_succ,Array.replicate_zero,List.push_toArray,List.append_toArray,List.nil_append,List.cons_append]
 gi_wp2
 obtain⟨YL,hYL⟩: ∃YL,yl h l E (E+1) a0 0=YL:=⟨_,rfl⟩
 have HS0:=yH (show YL=[]++yl h l E (E+1) a0 0 from hYL.symm)
 have HYL:=yH hYL
 clear hYL
 gi_loopw [4] (fun s wr=> ∃(a la f:Nat) (pre:List (Int×Int)),s= .int .u64 (la:Int)∧Hid (J pre wr)∧Hid (YL=pre++yl h l E f a la)∧Hid (la≤E∧E+1≤f+la∧a≤18446744073709551615)∧Hid (Mid w0 gv Bv Ba lb a wr)∧Hid (W.heap.size≤wr.heap.size)) (fun s _=>E+1-natO s)
 case atStart=>exact⟨a0,0,E+1,[],rfl,yH hJ0,HS0,yH ⟨by omega,by omega,by omega⟩,HM0,yH (yR _)⟩
 case round=>
  obtain⟨a,la,f,pre,rfl,hj,hS,hF,hM,hsz⟩:=hrel
  have kv:=hM.out.v
  have ka:=hM.out.at_.cell (i:=0) rfl
  have hlb:lb<wr.heap.size:=yL HLB.out hsz.out
  have hbv:Bv<wr.heap.size:=yL HVB.out hsz.out
  obtain⟨f,rfl⟩: ∃q,f=q+1:=⟨f-1,by have:=hF.out;omega⟩
  have hS2:=hS.out
  unfold yl at hS2
  by_cases hno:nothB E (a:Int)=true
  ·rw[if_pos hno,List.append_nil]at hS2
   have HS:=yH hS2
   clear hS2 hlb hbv
   gi_wp2_with (first
    |(refine⟨trivial,?_⟩;gi_at_call 180;refine(callsIn_wide.2 (HNo.out _ _ hM.out.bel)).mono ?_;rintro e w1 ⟨rfl,rfl⟩;(try rw[hno]))
    |fail)
   go_end0
   exact⟨⟨_,rfl⟩,.inl ⟨_,HS.out.symm.trans HYL.out.symm,hj.out⟩⟩
  rw[if_neg hno]at hS2
  have hno':nothB E (a:Int)=false:=by simpa using hno
  have han:0<a∧a<E:=by simp[nothB]at hno';omega
  by_cases hla:a≤la
  ·rw[if_pos hla]at hS2
   have HS:=yH hS2
   have d2:decide ((a:Int)≤(la:Int))=true:=by simp;omega
   have d3:decide (a≤la)=true:=by simp;omega
   obtain⟨fn,tmps,assign,body,hy,hR⟩:=hY pre (0,12) wr (Int.le_refl 0) hj.out
   clear hS2 hno han hlb hbv
   gi_wp2_with (first
    |(refine⟨trivial,?_⟩;gi_at_call 180;refine(callsIn_wide.2 (HNo.out _ _ hM.out.bel)).mono ?_;rintro e w1 ⟨rfl,rfl⟩;(try rw[hno']))
    |fail)
   refine hR.mono ?_
   rintro e W3 (⟨rfl,hJ3,hk3⟩|⟨rfl,hJx3⟩)
   ·gi_wp2
    refine bodyPost_ret (results_none rfl _ _ _) rfl ?_
    exact⟨⟨_,rfl⟩,.inl ⟨_,HS.out.symm.trans HYL.out.symm,hJ3⟩⟩
   ·gi_wp2
    refine bodyPost_ret (results_none rfl _ _ _) rfl ?_
    exact⟨⟨_,rfl⟩,.inr ⟨_,⟨[],by rw[List.append_nil,HYL.out];exact HS.out⟩,hJx3⟩⟩
  rw[if_neg hla]at hS2
  have d2:decide ((a:Int)≤(la:Int))=false:=by simp;omega
  have d3:decide (a≤la)=false:=by simp;omega
  have HA2:=yH (HAr.out a wr hM.out.bel)
  unfold TellA at HA2
  by_cases hcd:arcode h l E a≠0
  ·rw[if_pos hcd]at hS2
   have HS:=yH hS2
   have dcd:decide (arcode h l E a=0)=false:=by simpa using hcd
   have dcd2:(arcode h l E a==0)=false:=by simpa using hcd
   have dcd3:(arcode h l E a !=0)=true:=by simpa using hcd
   generalize arcode h l E a=cd at*
   generalize aX9 h l E a=nx at*
   generalize aC9 h l E a=cnt at*
   clear hS2 hno han
   gi_upto_region 5 with(first
    |(refine⟨trivial,?_⟩;gi_at_call 180;refine(callsIn_wide.2 (HNo.out _ _ hM.out.bel)).mono ?_;rintro e w1 ⟨rfl,rfl⟩;(try rw[hno']))
    |(refine⟨trivial,?_⟩;gi_at_call 158;refine(callsIn_wide.2 HA2.out).mono ?_;rintro e w2 ⟨hb2,A2,c2,rfl,_,_⟩;have B2:=yH (hb2.alloc hb2.size (.cells #[.int .u64 nx,.slice A2 cnt c2] 259));clear hb2)
    |fail)
   obtain⟨fn,tmps,assign,body,hy,hR⟩:=hY pre (0,cd) _ (Int.le_refl 0) (HJ.out _ _ _ hj.out B2.out)
   gi_wp2
   refine hR.mono ?_
   rintro e W3 (⟨rfl,hJ3,hk3⟩|⟨rfl,hJx3⟩)
   ·gi_wp2
    refine bodyPost_ret (results_none rfl _ _ _) rfl ?_
    exact⟨⟨_,rfl⟩,.inl ⟨_,HS.out.symm.trans HYL.out.symm,hJ3⟩⟩
   ·gi_wp2
    refine bodyPost_ret (results_none rfl _ _ _) rfl ?_
    exact⟨⟨_,rfl⟩,.inr ⟨_,⟨[],by rw[List.append_nil,HYL.out];exact HS.out⟩,hJx3⟩⟩
  rw[if_neg hcd]at hS2
  have hcd':arcode h l E a=0:=by simpa using hcd
  have hnx:=aX9_nn (h:=h) (E:=E) (a:=a) hAB
  have HGn:=yH fun i=>(arF_nn (a:=a) hAB i).1
  obtain⟨nx,hnx1,hnx2⟩: ∃q:Nat,aX9 h l E a=(q:Int)∧q≤18446744073709551615:=⟨_,hnx⟩
  simp only[hcd',hnx1,Int.toNat_natCast]at HA2 hS2
  have hcn:=HCL.out a
  clear hnx hnx1 hcd hcd' hno
  generalize aC9 h l E a=cnt at*
  generalize arF (bodyL l a)=g at*
  have HS:=yH hS2
  have HAN:=yH han
  have HLA:=yH hla
  clear hS2 han hla
  gi_upto_region 7 with(first
   |(refine⟨trivial,?_⟩;gi_at_call 180;refine(callsIn_wide.2 (HNo.out _ _ hM.out.bel)).mono ?_;rintro e w1 ⟨rfl,rfl⟩;(try rw[hno']))
   |(refine⟨trivial,?_⟩;gi_at_call 158;refine(callsIn_wide.2 HA2.out).mono ?_;rintro e w2 ⟨hb2,A2,c2,rfl,hi2,hn2⟩;have Bb2:=yH hb2;have I2:=yH hi2;have N2:=yH hn2;clear hb2 hi2 hn2)
   |fail)
  have B3:=yH (Bb2.out.alloc Bb2.out.size (.cells #[.int .u64 (nx:Int),.slice A2 cnt c2] 259))
  have M3:=yH (hM.out.below B3.out hlb hbv)
  have J3:=yH (HJ.out _ _ _ hj.out B3.out)
  have hrw:rowOf (w2.alloc (.cells #[.int .u64 (nx:Int),.slice A2 cnt c2] 259)) lb=rowOf wr lb:=rowOf_block (B3.out.block lb hlb)
  have H3:Hid (Hand lb w2.heap.size 259 (nx:Int) A2 cnt c2 g (w2.alloc (.cells #[.int .u64 (nx:Int),.slice A2 cnt c2] 259))):=yH
   {blk:=Blk.new w2 [.int .u64 (nx:Int),.slice A2 cnt c2] _
    ints:=I2.out.below ((Below.refl _ _).alloc (yR _) _)
    rowA:=fun e=>by rw[hrw]at e;have h1:=(hM.out.row _ e).2.2;have h2:=Bb2.out.size;omega
    rowI:=fun hc0 b off e=>by
     have h1:=N2.out b off e
     obtain⟨b',off',e',q1,_⟩:=I2.out 0 hc0
     rw[e]at e'
     injection e' with e'
     injection e' with e1 e2
     exact⟨by rw[World.size_alloc];omega,fun e2=>by rw[hrw]at e2;have h3:=(hM.out.row _ e2).2.2;omega⟩}
  have HGL:=yH (show w2.heap.size≠lb from by have:=Bb2.out.size;omega)
  have HIL:=yH (show ∀b off,A2=some ⟨b,off,none⟩→b≠lb from fun b off e=>by have:=N2.out b off e;omega)
  have HZ3:=yH (show W.heap.size≤(w2.alloc (.cells #[.int .u64 (nx:Int),.slice A2 cnt c2] 259)).heap.size from Nat.le_trans hsz.out B3.out.size)
  have HS3:=yH (show YL=pre++(its g (cnt-0) 0++yl h l E f nx a)from HS.out)
  clear hj hS hM hsz kv ka hlb hbv hrw B3 N2 I2 HA2 HS
  generalize w2.heap.size=ga at*
  generalize (w2.alloc (.cells #[.int .u64 (nx:Int),.slice A2 cnt c2] 259))=w3 at*
  have k1:=H3.out.blk.cell (i:=1) rfl
  gi_wp2
  gi_loopw [32] (fun i wz=> ∃(k:Nat) (pre2:List (Int×Int)),k≤cnt∧i= .int .i64 (k:Int)∧Hid (J pre2 wz)∧Hid (YL=pre2++(its g (cnt-k) k++yl h l E f nx a))∧Hid (Mid w0 gv Bv Ba lb a wz)∧Hid (Hand lb ga 259 (nx:Int) A2 cnt c2 g wz)∧Hid (W.heap.size≤wz.heap.size)) (fun i _=>cnt-natO i)
  case atStart=>exact⟨0,pre,Nat.zero_le _,rfl,J3,HS3,M3,H3,HZ3⟩
  case round=>
   rename World=>wz
   clear k1
   obtain⟨k,pre2,hk,rfl,hj2,hS2,hM2,hH2,hz2⟩:=hrel
   by_cases hlt:k<cnt
   ·have d4:decide ((k:Int)<(cnt:Int))=true:=by simp;omega
    have d5:decide (k<cnt)=true:=by simp;omega
    obtain⟨b,off,hA2,hb0,cx,_⟩:=hH2.out.ints k hlt
    subst hA2
    have hk0:(0:Int)≤(k:Int):=by omega
    have hk1:(k:Int)<(cnt:Int):=by omega
    obtain⟨fn,tmps,assign,body,hy,hR⟩:=hY pre2 (g k,0) wz (HGn.out k) hj2.out
    have HSk:=yH (its_split g cnt k hlt)
    gi_wp2
    refine hR.mono ?_
    rintro e W3 (⟨rfl,hJ3,hk3⟩|⟨rfl,hJx3⟩)
    ·gi_wp2
     go_roundw
     case rel=>exact⟨k+1,pre2++ [(g k,0)],by omega,by go_num,yH hJ3,yH (by rw[hS2.out,HSk.out];simp),yH (hM2.out.kp hk3 hBl hAl (by have:=HVB.out;have:=hz2.out;omega)),yH (hH2.out.kp hk3 HGL.out HIL.out),yH (Nat.le_trans hz2.out hk3.below.size)⟩
     case measure=>simp[natO];omega
    ·gi_wp2
     refine bodyPost_ret (results_none rfl _ _ _) rfl ?_
     exact⟨⟨_,rfl⟩,.inr ⟨_,⟨its g (cnt-(k+1)) (k+1)++yl h l E f nx a,by rw[HYL.out,hS2.out,HSk.out];simp⟩,hJx3⟩⟩
   ·obtain rfl:k=cnt:=by omega
    have d4:decide ((k:Int)<(k:Int))=false:=by simp
    have d5:decide (k<k)=false:=by simp
    have ka2:=hM2.out.at_.cell (i:=0) rfl
    have kf2:=hM2.out.at_.frozen 0
    have k0:=hH2.out.blk.cell (i:=0) rfl
    gi_upto_region 12 with fail
    have HZ:=yH hz2.out
    gi_region
    all_goals
     gi_wp2
     have kS:KeptF (One Ba) wz (wz.setCell ⟨Ba,0,none⟩ (.int .u64 (nx:Int))).drew:=by
      have h1:=(KeptF.grow _ (grownBy_setCell' wz Ba (.int .u64 (nx:Int))))
      exact⟨h1.os,h1.tape,h1.output,h1.size,fun j hj hn=>h1.block j hj (fun e=>hn (by injection e with e;exact e.symm))⟩
     have hM5:Mid w0 gv Bv Ba lb nx (wz.setCell ⟨Ba,0,none⟩ (.int .u64 (nx:Int))).drew:=
      {bel:=hM2.out.bel.trans ⟨kS.os,kS.tape,kS.output,kS.size,fun j hj=>kS.block j (by have:=hM2.out.at_.lt;omega) (fun e=>by have e1:j=Ba:=e;omega)⟩
       v:=(World.cell?_of_block (a:=⟨Bv,0,none⟩) (kS.block Bv (by have:=HVB.out;have:=HZ.out;omega) hva)).trans hM2.out.v
       at_:=(Boxed.set (t:=27) (v:= .int .u64 (a:Int)) (.int .u64 (nx:Int)) hM2.out.at_)
       row:=fun x hx=>by
        rw[rowOf_block (kS.block lb (by have:=HLB.out;have:=HZ.out;omega) (fun e=>hAl e.symm))]at hx
        obtain⟨r1,r2,r3⟩:=hM2.out.row x hx
        exact⟨r1,r2,yL r3 kS.size⟩}
     exact⟨⟨nx,a,f,pre2,rfl,yH (HJb.out _ _ _ hj2.out kS),yH (by have h1:=hS2.out;rw[Nat.sub_self]at h1;exact h1),yH ⟨by have:=HAN.out;omega,by have:=hF.out;have:=HLA.out;omega,hnx2⟩,yH hM5,yH (Nat.le_trans HZ.out kS.size)⟩,by have:=HAN.out;have:=HLA.out;simp[natO];omega⟩
end Wf
end Go.Proofs.YtiddkgcafpaekaaGreat
