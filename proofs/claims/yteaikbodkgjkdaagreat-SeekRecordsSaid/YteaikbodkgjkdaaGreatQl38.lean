/-
  Texts beneath.
-/
import Derived.RangeFuncNested
import Derived.OwnWalkIn
import Derived.TacticsInMore
import Derived.LoopNIn
import Derived.Sort.CutIn
import Derived.Test.YteaikbodkgjkdaaGreatQl37
set_option linter.unusedVariables false
set_option linter.unusedSimpArgs false
set_option maxRecDepth 100000
set_option maxHeartbeats 8000000
namespace Go.Proofs.YteaikbodkgjkdaaGreat
namespace We
open Go.ChangeShapes Go.WideShapes Go.ChangeAt Go.RowKit Go.Shelf
variable {F : Fence} {n : Nat} {P : Program}
def SeqOwn {α:Type}(F:Fence)(n:Nat)(P:Program)(g:Nat)(lb:Array Value)(encs:α→Array Value)(Px:α→Prop)(Kp Ab:World→World→Prop)(S Sp:List α→Prop)(w:World):Prop:=
 ∀(l:Nat) (J Jx:List α→World→Prop) (W:World),Below w.heap.size w W→(∀s A B,J s A→Ab A B→J s B)→(∀s A B,Jx s A→Ab A B→Jx s B)→
  (∀pre x V,Px x→J pre V→YieldAt F (n-1) P l (encs x) V fun e V'=>(e= .returned (.bool true)∧J (pre++ [x]) V'∧Kp V V')∨(e= .returned (.bool false)∧Jx (pre++ [x]) V'))→
  J [] W→CallsIn F n P g (#[.func (.yield l) #[] #[]]++lb) W fun e W'=>(∃v,e= .returned v)∧((∃xs,S xs∧J xs W')∨(∃pre,Sp pre∧Jx pre W'))
def Left {α:Type}(B:Nat)(Kp:World→World→Prop)(I:List α→World→Prop)(Ix:Code→List α→World→Prop)(xs:List α)(W:World):Exit→Act→World→Prop
 | .normal,_,W'=>KeepsFrom B W W'∧Kp W W'∧I xs W'
 | .ret,_,W'=>KeepsFrom B W W'∧Ix .ret xs W'
 | .exit id,_,W'=>KeepsFrom B W W'∧Ix (.exit id) xs W'
 | .goto t,_,W'=>KeepsFrom B W W'∧Ix (.goto t) xs W'
 |_,_,_=>False
theorem aLw {α:Type}{g:Operand}{ps:Array Tmp}{f body:Code}{Q:Exit→Act→World→Prop}{a:Act}{w:World}
 (aj:F.round=none)(h1:1≤n){gf:Nat}{lb:Array Value}(hg:a.eval g= .func (.func gf) #[] lb)(an:F.fn gf)(eg: ∀args w,(callFunc gf args).run P w= .ok (.enter gf args) w)
 {r:α→Array Value}{Px:α→Prop}{X Ab:World→World→Prop}{S Sp:List α→Prop}(Z:SeqOwn F (n-1) P gf lb r Px X Ab S Sp w)
 (aa: ∀A B,Ab A B→ ∀k o,w.heap.size≤k→A.heap[k]? =some o→o.isCells=false→B.heap[k]? =some o)
 (ae: ∀ {A B C:World},X A B→X B C→X A C)(ag: ∀(W:World) (l:Nat) (o o':Obj),w.heap.size≤l→W.heap[l]? =some o→o.isCells=false→o.isWalk=false→X W (W.putObj l o'))(al: ∀x,(r x).size=ps.size)
 (I:List α→World→Prop)(J:Code→List α→World→Prop)(hI:OwnFrom w.heap.size I)(af: ∀c,OwnFrom w.heap.size (J c))(ai: ∀s A B,I s A→Ab A B→I s B)(ac: ∀c s A B,J c s A→Ab A B→J c s B)(h0:I [] w)(a₁:α→Act)
 (E: ∀(l:Nat) (x:α) (W:World) (K:Act→World→Prop),K (a₁ x) W→
   f.wpIn (F.inRound l) (n-1-1) P (Exit.then K (fun _ _ _=>False)) {tmps:=(ps.zip (r x)).foldl (fun t (p,v)=>t.setIfInBounds p v) a.tmps,defers:=[]} W)
 (N: ∀(l:Nat) (b:List α) (x:α) (W:World),Px x→I b W→body.wpIn (F.inRound l) (n-1-1) P (Left w.heap.size X I J (b++ [x]) W) (a₁ x) W)
 (L: ∀(D:Nat) (xs:List α) (W:World),w.heap.size≤D→S xs→I xs W→W.heap[D]? =some (.deferred (some []))→Q .normal {a with defers:={target:= .collected D,args:= #[]}::a.defers} W)
 (M: ∀(D:Nat) (c:Code) (b:List α) (W:World),w.heap.size≤D→Sp b→J c b W→W.heap[D]? =some (.deferred (some []))→c.wpIn F n P Q {a with defers:={target:= .collected D,args:= #[]}::a.defers} W):
 (Code.rangeFunc g ps f body).wpIn F n P Q a w:=by
 refine wpIn_rangeFunc fun fn hfn=>?_
 rw[aj]
 generalize Y:w.heap.size=d at*
 let u:LoopState→Option Code→Loop:=fun st pe=>{state:=st,pending:=pe,fn,tmps:=a.tmps,params:=ps,assign:=f,body,defers:=d}
 let G:LoopState→Option Code→World→Prop:=fun st pe W=>W.heap[d+1]? =some (.loop (u st pe))∧W.heap[d]? =some (.deferred (some []))
 have m: ∀ {st pe st' pe'} {W:World},G st pe W→G st' pe' (W.putObj (d+1) (.loop (u st' pe'))):=fun h=>
  ⟨World.putObj_heap_same (Array.getElem?_eq_some_iff.1 h.1).1,(World.putObj_heap_other (by omega)).trans h.2⟩
 have i: ∀ {st pe} {W W':World},(∀k o,d≤k→W.heap[k]? =some o→o.isCells=false→W'.heap[k]? =some o)→G st pe W→G st pe W':=fun H h=>
  ⟨H _ _ (by omega) h.1 rfl,H _ _ (yR _) h.2 rfl⟩
 let R:World:=(w.alloc (.deferred (some []))).alloc (.loop (u .ready none))
 have A0:G .ready none R:=by
  refine⟨?_,?_⟩
  ·have:=World.alloc_heap_new (w.alloc (.deferred (some []))) (.loop (u .ready none))
   rwa[World.size_alloc,Y]at this
  ·have:=World.alloc_heap_new w (.deferred (some []))
   rw[Y]at this
   exact(Below.heap_alloc _ _ _ (by simp[Y])).trans this
 have B0:Below d w R:=((yB _ w).alloc (by omega) _).alloc (by simp;omega) _
 refine⟨d+1,[{target:= .collected d,args:= #[]}],R,{target:= .fn (.func gf) lb,args:= #[.func (.yield (d+1)) #[] #[]]},R,gf,#[.func (.yield (d+1)) #[] #[]]++lb,R,?_,?_,?_,?_,fun _=>h1,?_⟩
 ·have:=run_enterLoop_outer (P:=P) (w:=w) fn a.tmps ps f body
  rw[Y]at this
  exact this
 ·simp only[resolve,hg]
  simp[go_sem]
 ·intro f' ad
  simp[Target.leads]at ad
  subst ad
  exact an
 ·simp[invoke,go_sem,eg]
 refine(Z (d+1) (fun b W=>I b W∧G .ready none W) (fun b W=> ∃c,J c b W∧G .done (some c) W) R (by rw[Y];exact B0)
  (fun s A B h hab=>⟨ai s A B h.1 hab,i (aa A B hab) h.2⟩) (fun s A B h hab=>h.imp fun c hc=>⟨ac c s A B hc.1 hab,i (aa A B hab) hc.2⟩)
  ?round ⟨hI.alloc _ (hI.alloc _ h0),A0⟩).mono ?after
 case round=>
  rintro b x W ah ⟨hi,z⟩
  have hy:=run_yield (P:=P) (args:=r x) z.1 (al x)
  have hb:=run_beginRound (P:=P) z.1 rfl
  have ab:G .busy none (W.putObj (d+1) (.loop (u .busy none))):=m z
  refine⟨fn,_,f,body,hy,roundIn_of_wpIn hfn (E _ x W _ ⟨_,hb,wpIn_mono (N _ b x _ ah (hI.putObj _ hi (by omega) z.1 rfl)) ?_⟩)⟩
  have j: ∀(jump:Option Code) (V:World),KeepsFrom d (W.putObj (d+1) (.loop (u .busy none))) V→(Instr.endRound (d+1) jump).run P V= .ok (.bool jump.isNone) (V.putObj (d+1) (.loop (u (if jump.isNone then .ready else .done) jump)))∧G .busy none V:=fun jump V H=>by
   have q:=i (fun k o h3 h4 h5=>H.same k o h3 h4 h5) ab
   exact⟨run_endRound jump q.1,q⟩
  have out: ∀(c:Code) (V:World),KeepsFrom d (W.putObj (d+1) (.loop (u .busy none))) V→J c (b++ [x]) V→J c (b++ [x]) (V.putObj (d+1) (.loop (u .done (some c))))∧G .done (some c) (V.putObj (d+1) (.loop (u .done (some c)))):=fun c V H hx=>
   ⟨(af c).putObj _ hx (by omega) (j none V H).2.1 rfl,m (j none V H).2⟩
  rintro e a3 V y
  cases e with
  |normal=>
   obtain⟨H,ao,am⟩:=y
   obtain⟨hr,q⟩:=j none V H
   exact⟨_,_,hr,.inl ⟨rfl,⟨hI.putObj _ am (by omega) q.1 rfl,m q⟩,ae (ae (ag _ _ _ _ (by omega) z.1 rfl rfl) ao) (ag _ _ _ _ (by omega) q.1 rfl rfl)⟩⟩
  |ret=>exact⟨_,_,(j (some .ret) V y.1).1,.inr ⟨rfl,.ret,out _ V y.1 y.2⟩⟩
  |exit id=>exact⟨_,_,(j (some (.exit id)) V y.1).1,.inr ⟨rfl,.exit id,out _ V y.1 y.2⟩⟩
  |goto t=>exact⟨_,_,(j (some (.goto t)) V y.1).1,.inr ⟨rfl,.goto t,out _ V y.1 y.2⟩⟩
  |panic ch=>exact y.elim
  |outgrown=>exact y.elim
 case after=>
  rintro e V ⟨⟨v,rfl⟩,⟨xs,hS,hi,q⟩|⟨b,ak,c,hi,q⟩⟩
  ·exact⟨none,_,run_endLoop q.1 (by simp[u]),L d xs _ (by omega) hS (hI.putObj _ hi (by omega) q.1 rfl) ((World.putObj_heap_other (by omega)).trans q.2)⟩
  ·exact⟨some c,_,run_endLoop q.1 (by simp[u]),M d c b _ (by omega) ak ((af c).putObj _ hi (by omega) q.1 rfl) ((World.putObj_heap_other (by omega)).trans q.2)⟩
end We
namespace Wf
open Go.ChangeShapes Go.WideShapes Go.ChangeAt Go.RowKit Go.Shelf
open Bytes8 Blk8 Kf Own8 OwnA OwnE Rows2 Ob Ga Gb Ok7 Rc Va Wa Wd We
open Yc Yp Ye Yg Yh
open Rg (arcode)
open Wb (natO)
attribute [local go_sem] Oper.semAt_some
def rowOf (V:World)(lb:Nat):Option Nat:=match V.cell? ⟨lb,0,none⟩with
 |some (.slice A _ _)=>ownB A
 |_=>none
theorem aBH {V b:World}{lb:Nat}(h:b.heap[lb]? =V.heap[lb]?):rowOf b lb=rowOf V lb:=by
 unfold rowOf
 rw[World.cell?_of_block (a:=⟨lb,0,none⟩) h]
structure KpL (B0 lb:Nat)(V V':World):Prop where
 below:Below B0 V V'
 cells: ∀b o,V.heap[b]? =some o→o.isCells=true→b≠lb→rowOf V lb≠some b→V'.heap[b]? =some o
 row: ∀k,rowOf V' lb=some k→rowOf V lb=some k∨(V.heap.size≤k∧k<V'.heap.size)
theorem KpL.trans {a lb:Nat}{A B C:World}(h:KpL a lb A B)(k:KpL a lb B C):KpL a lb A C:=
 {below:=h.below.trans k.below
  cells:=fun b o h1 h2 h3 h4=>k.cells b o (h.cells b o h1 h2 h3 h4) h2 h3 fun e=>(h.row b e).elim h4 fun h5=>by have:=(Array.getElem?_eq_some_iff.1 h1).1;omega
  row:=fun x hx=>(k.row x hx).elim (fun h1=>(h.row x h1).imp id fun h2=>⟨h2.1,by have:=k.below.size;omega⟩) fun h1=> .inr ⟨by have:=h.below.size;omega,h1.2⟩}
theorem KpL.put {a lb d:Nat}(j:lb<d)(f:a≤d)(W:World)(l:Nat)(o i:Obj)(m:d≤l)(c:W.heap[l]? =some o)(g:o.isCells=false):KpL a lb W (W.putObj l i):=
 {below:=⟨rfl,rfl,rfl,by simp,fun k hk=>World.putObj_heap_other (by omega)⟩
  cells:=fun b o1 h1 h2 _ _=>(World.putObj_heap_other (fun e=>by
   rw[e,c]at h1
   injection h1 with h1
   rw[←h1,g]at h2
   cases h2)).trans h1
  row:=fun k hk=> .inl (by rw[←hk];exact(aBH (World.putObj_heap_other (by omega))).symm)}
theorem KpL.blk {d lb:Nat}{V a:World}(h:KpL d lb V a){b:Nat}{c:List Value}{T:TypeId}(g:Blk V b c T)(f:b≠lb)(e:rowOf V lb≠some b):Blk a b c T:=h.cells b _ g rfl f e
theorem KpL.cell {j lb:Nat}{V g:World}(h:KpL j lb V g){b i:Nat}{v:Value}(f:V.cell? ⟨b,i,none⟩=some v)(l:b≠lb)(k:rowOf V lb≠some b):g.cell? ⟨b,i,none⟩=some v:=by
 unfold World.cell? at f
 cases d:V.heap[b]? with
 |none=>simp[d]at f
 |some o=>
  cases o with
  |cells c e fz=>
   have m:=h.cells b _ d rfl l k
   exact(World.cell?_of_block (a:=⟨b,i,none⟩) (w':=g) (w:=V) (m.trans d.symm)).trans (by unfold World.cell?;exact f)
  |_=>simp[d]at f
theorem KpL.ints {g lb:Nat}{V c:World}(h:KpL g lb V c){A:Option Addr}{n:Nat}{f:Nat→Int}(l:InInts .u64 V A n f)(d:0<n→ ∀b a,A=some ⟨b,a,none⟩→b≠lb∧rowOf V lb≠some b):InInts .u64 c A n f:=fun i hin=>by
 obtain⟨b,a,e,j,k,m⟩:=l i hin
 exact⟨b,a,e,yL j h.below.size,h.cell k (d (by omega) b a e).1 (d (by omega) b a e).2,m⟩
structure Mid (w0:World)(gv Bv Ba lb:Nat)(a:Nat)(W:World):Prop where
 bel:Below w0.heap.size w0 W
 v:W.cell? ⟨Bv,0,none⟩=some (.pointer (some ⟨gv,0,none⟩))
 at_:Blk W Ba [.int .u64 (a:Int)] 59
 row: ∀k,rowOf W lb=some k→k≠Bv∧k≠Ba∧k<W.heap.size
theorem Mid.kp {w0:World}{d b c lb a:Nat}{W f:World}(h:Mid w0 d b c lb a W)(k:KpL w0.heap.size lb W f)(i:b≠lb)(g:c≠lb)(j:b<W.heap.size):Mid w0 d b c lb a f:=
 {bel:=h.bel.trans k.below
  v:=k.cell h.v i fun e=>(h.row b e).1 rfl
  at_:=k.blk h.at_ g fun e=>(h.row c e).2.1 rfl
  row:=fun x hx=>(k.row x hx).elim (fun h4=>⟨(h.row x h4).1,(h.row x h4).2.1,yL (h.row x h4).2.2 k.below.size⟩) fun h4=>⟨by omega,by have:=h.at_.lt;omega,h4.2⟩}
theorem Mid.below {w0:World}{c b e lb a:Nat}{W d:World}(h:Mid w0 c b e lb a W)(k:Below W.heap.size W d)(i:lb<W.heap.size)(j:b<W.heap.size):Mid w0 c b e lb a d:=
 {bel:=h.bel.trans (k.mono h.bel.size)
  v:=(k.cell (p:=⟨b,0,none⟩) j).trans h.v
  at_:=h.at_.below k h.at_.lt
  row:=fun x hx=>by
   rw[aBH (k.block lb i)]at hx
   obtain⟨r1,f,g⟩:=h.row x hx
   exact⟨r1,f,yL g k.size⟩}
theorem aLx (g:Nat→Int)(cnt k:Nat)(h:k<cnt):its g (cnt-k) k=(g k,0)::its g (cnt-(k+1)) (k+1):=by
 rw[show cnt-k=(cnt-(k+1))+1 by omega];rfl
structure Hand (lb:Nat)(ga:Nat)(T:TypeId)(nx:Int)(It:Option Addr)(cnt ci:Nat)(g:Nat→Int)(W:World):Prop where
 blk:Blk W ga [.int .u64 nx,.slice It cnt ci] T
 ints:InInts .u64 W It cnt g
 rowA:rowOf W lb≠some ga
 rowI:0<cnt→ ∀b off,It=some ⟨b,off,none⟩→b<W.heap.size∧rowOf W lb≠some b
theorem Hand.kp {i lb a:Nat}{T:TypeId}{nx:Int}{c:Option Addr}{cnt d:Nat}{g:Nat→Int}{W f:World}(h:Hand lb a T nx c cnt d g W)(k:KpL i lb W f)(l:a≠lb)(j: ∀b off,c=some ⟨b,off,none⟩→b≠lb):Hand lb a T nx c cnt d g f:=
 {blk:=k.blk h.blk l h.rowA
  ints:=k.ints h.ints fun h0 b off e=>⟨j b off e,(h.rowI h0 b off e).2⟩
  rowA:=fun e=>(k.row a e).elim h.rowA fun h3=>by have:=h.blk.lt;omega
  rowI:=fun h0 b off e=>⟨yL (h.rowI h0 b off e).1 k.below.size,fun e2=>(k.row b e2).elim (h.rowI h0 b off e).2 fun h3=>by have:=(h.rowI h0 b off e).1;omega⟩}
attribute [local irreducible] HD.cells wpList Code.wp
abbrev encY (x:Int×Int):Array Value:= #[.int .u64 x.1,.int .i64 x.2]
theorem aJL {gv:Nat}{h:HD}{A:Option Addr}{E c:Nat}{l:List Int}(w0:World)(v:ViewAt w0 gv h A E c l)(aN:c≤maxLen)(aY:E≤800000)(a7:l.length≤800000)(aA:AllB l)(F y lb a0 n:Nat)(hn:1≤n)(w:World)(z:Mid w0 gv F y lb a0 w)(aH:F≠lb)(au:y≠lb)(az:F<w.heap.size)(ag:lb<w.heap.size)(aO:F≠y)(a6:w0.heap.size≤y)(a9:a0≤18446744073709551615):
 SeqOwn Fence.wide n Tryz.prog 155 #[.pointer (some ⟨F,0,none⟩),.pointer (some ⟨y,0,none⟩)] encY (fun x=>0≤x.1) (KpL w0.heap.size lb) (KeptF (One y)) (fun xs=>xs=yl h l E (E+1) a0 0) (fun o=> ∃rest,yl h l E (E+1) a0 0=o++rest) w:=by
 intro lL J Jx W hW hJ aS hY aG
 have af:=yH fun(x:Int) (V:World) (hV:Below w0.heap.size w0 V)=>aIP x V (v.below hV)
 have aK:=yH fun(a:Nat) (V:World) (hV:Below w0.heap.size w0 V)=>aPc a V (v.below hV) aN
 have aT:=yH fun a=>aP5 (h:=h) (n:=E) (a:=a) (show l.length≤1000000 by omega)
 have aI:=hW.size
 have aP:=yH (z.below hW ag az)
 have aq:=yH (show lb<W.heap.size by omega)
 have am:=yH (show F<W.heap.size by omega)
 have HJ:=yH fun(s:List (Int×Int)) (X Y:World) (hs:J s X) (hb:Below X.heap.size X Y)=>hJ s X Y hs (KeptF.of_below hb)
 have aJ:=yH hJ
 clear v z az ag hJ aS aI
 refine callsIn_of_wp Tryz.func155 rfl trivial ?_ rfl
 simp only[Tryz.ntmps155,List.size_toArray,List.length_cons,List.length_nil,Nat.reduceAdd,Nat.reduceSub,Array.replicate_succ,Array.replicate_zero,List.push_toArray,List.append_toArray,List.nil_append,List.cons_append]
 gi_wp2
 obtain⟨YL,an⟩: ∃YL,yl h l E (E+1) a0 0=YL:=⟨_,rfl⟩
 have aF:=yH (show YL=[]++yl h l E (E+1) a0 0 from an.symm)
 have C:=yH an
 clear an
 gi_loopw [4] (fun s wr=> ∃(a la f:Nat) (o:List (Int×Int)),s= .int .u64 (la:Int)∧Hid (J o wr)∧Hid (YL=o++yl h l E f a la)∧Hid (la≤E∧E+1≤f+la∧a≤18446744073709551615)∧Hid (Mid w0 gv F y lb a wr)∧Hid (W.heap.size≤wr.heap.size)) (fun s _=>E+1-natO s)
 case atStart=>exact⟨a0,0,E+1,[],rfl,yH aG,aF,yH ⟨by omega,by omega,by omega⟩,aP,yH (yR _)⟩
 case round=>
  obtain⟨a,la,f,o,rfl,hj,hS,hF,z,ab⟩:=hrel
  have kv:=z.out.v
  have ka:=z.out.at_.cell (i:=0) rfl
  have M:lb<wr.heap.size:=yL aq.out ab.out
  have ac:F<wr.heap.size:=yL am.out ab.out
  obtain⟨f,rfl⟩: ∃q,f=q+1:=⟨f-1,by have:=hF.out;omega⟩
  have d:=hS.out
  unfold yl at d
  by_cases hno:nothB E (a:Int)=true
  ·rw[if_pos hno,List.append_nil]at d
   have R:=yH d
   clear d M ac
   gi_wp2_with (first
    |(refine⟨trivial,?_⟩;gi_at_call 123;refine(callsIn_wide.2 (af.out _ _ z.out.bel)).mono ?_;rintro e w1 ⟨rfl,rfl⟩;(try rw[hno]))
    |fail)
   go_end0
   exact⟨⟨_,rfl⟩,.inl ⟨_,R.out.symm.trans C.out.symm,hj.out⟩⟩
  rw[if_neg hno]at d
  have B:nothB E (a:Int)=false:=by simpa using hno
  have aa:0<a∧a<E:=by simp[nothB]at B;omega
  by_cases ad:a≤la
  ·rw[if_pos ad]at d
   have R:=yH d
   have d2:decide ((a:Int)≤(la:Int))=true:=by simp;omega
   have d3:decide (a≤la)=true:=by simp;omega
   obtain⟨fn,tmps,u,body,hy,hR⟩:=hY o (0,12) wr (Int.le_refl 0) hj.out
   clear d hno aa M ac
   gi_wp2_with (first
    |(refine⟨trivial,?_⟩;gi_at_call 123;refine(callsIn_wide.2 (af.out _ _ z.out.bel)).mono ?_;rintro e w1 ⟨rfl,rfl⟩;(try rw[B]))
    |fail)
   refine hR.mono ?_
   rintro e W3 (⟨rfl,I,H⟩|⟨rfl,p⟩)
   ·gi_wp2
    refine bodyPost_ret (results_none rfl _ _ _) rfl ?_
    exact⟨⟨_,rfl⟩,.inl ⟨_,R.out.symm.trans C.out.symm,I⟩⟩
   ·gi_wp2
    refine bodyPost_ret (results_none rfl _ _ _) rfl ?_
    exact⟨⟨_,rfl⟩,.inr ⟨_,⟨[],by rw[List.append_nil,C.out];exact R.out⟩,p⟩⟩
  rw[if_neg ad]at d
  have d2:decide ((a:Int)≤(la:Int))=false:=by simp;omega
  have d3:decide (a≤la)=false:=by simp;omega
  have G:=yH (aK.out a wr z.out.bel)
  unfold TellA at G
  by_cases hcd:arcode h l E a≠0
  ·rw[if_pos hcd]at d
   have R:=yH d
   have a5:decide (arcode h l E a=0)=false:=by simpa using hcd
   have aW:(arcode h l E a==0)=false:=by simpa using hcd
   have aX:(arcode h l E a !=0)=true:=by simpa using hcd
   generalize arcode h l E a=cd at*
   generalize aX9 h l E a=nx at*
   generalize aC9 h l E a=cnt at*
   clear d hno aa
   gi_upto_region 5 with(first
    |(refine⟨trivial,?_⟩;gi_at_call 123;refine(callsIn_wide.2 (af.out _ _ z.out.bel)).mono ?_;rintro e w1 ⟨rfl,rfl⟩;(try rw[B]))
    |(refine⟨trivial,?_⟩;gi_at_call 156;refine(callsIn_wide.2 G.out).mono ?_;rintro e w2 ⟨D,L,N,rfl,_,_⟩;have B2:=yH (D.alloc D.size (.cells #[.int .u64 nx,.slice L cnt N] 270));clear D)
    |fail)
   obtain⟨fn,tmps,u,body,hy,hR⟩:=hY o (0,cd) _ (Int.le_refl 0) (HJ.out _ _ _ hj.out B2.out)
   gi_wp2
   refine hR.mono ?_
   rintro e W3 (⟨rfl,I,H⟩|⟨rfl,p⟩)
   ·gi_wp2
    refine bodyPost_ret (results_none rfl _ _ _) rfl ?_
    exact⟨⟨_,rfl⟩,.inl ⟨_,R.out.symm.trans C.out.symm,I⟩⟩
   ·gi_wp2
    refine bodyPost_ret (results_none rfl _ _ _) rfl ?_
    exact⟨⟨_,rfl⟩,.inr ⟨_,⟨[],by rw[List.append_nil,C.out];exact R.out⟩,p⟩⟩
  rw[if_neg hcd]at d
  have ai:arcode h l E a=0:=by simpa using hcd
  have aw:=aOj (h:=h) (E:=E) (a:=a) aA
  have aR:=yH fun i=>(aIO (a:=a) aA i).1
  obtain⟨nx,ah,ao⟩: ∃q:Nat,aX9 h l E a=(q:Int)∧q≤18446744073709551615:=⟨_,aw⟩
  simp only[ai,ah,Int.toNat_natCast]at G d
  have aZ:=aT.out a
  clear aw ah hcd ai hno
  generalize aC9 h l E a=cnt at*
  generalize arF (bodyL l a)=g at*
  have R:=yH d
  have av:=yH aa
  have ax:=yH ad
  clear d aa ad
  gi_upto_region 7 with(first
   |(refine⟨trivial,?_⟩;gi_at_call 123;refine(callsIn_wide.2 (af.out _ _ z.out.bel)).mono ?_;rintro e w1 ⟨rfl,rfl⟩;(try rw[B]))
   |(refine⟨trivial,?_⟩;gi_at_call 156;refine(callsIn_wide.2 G.out).mono ?_;rintro e w2 ⟨D,L,N,rfl,ap,aB⟩;have ae:=yH D;have I2:=yH ap;have N2:=yH aB;clear D ap aB)
   |fail)
  have B3:=yH (ae.out.alloc ae.out.size (.cells #[.int .u64 (nx:Int),.slice L cnt N] 270))
  have M3:=yH (z.out.below B3.out M ac)
  have J3:=yH (HJ.out _ _ _ hj.out B3.out)
  have ak:rowOf (w2.alloc (.cells #[.int .u64 (nx:Int),.slice L cnt N] 270)) lb=rowOf wr lb:=aBH (B3.out.block lb M)
  have H3:Hid (Hand lb w2.heap.size 270 (nx:Int) L cnt N g (w2.alloc (.cells #[.int .u64 (nx:Int),.slice L cnt N] 270))):=yH
   {blk:=Blk.new w2 [.int .u64 (nx:Int),.slice L cnt N] _
    ints:=I2.out.below ((yB _ _).alloc (yR _) _)
    rowA:=fun e=>by rw[ak]at e;have h1:=(z.out.row _ e).2.2;have h2:=ae.out.size;omega
    rowI:=fun hc0 b off e=>by
     have h1:=N2.out b off e
     obtain⟨b',aV,e',q1,_⟩:=I2.out 0 hc0
     rw[e]at e'
     injection e' with e'
     injection e' with e1 e2
     exact⟨by rw[World.size_alloc];omega,fun e2=>by rw[ak]at e2;have h3:=(z.out.row _ e2).2.2;omega⟩}
  have aE:=yH (show w2.heap.size≠lb from by have:=ae.out.size;omega)
  have aU:=yH (show ∀b off,L=some ⟨b,off,none⟩→b≠lb from fun b off e=>by have:=N2.out b off e;omega)
  have aQ:=yH (show W.heap.size≤(w2.alloc (.cells #[.int .u64 (nx:Int),.slice L cnt N] 270)).heap.size from Nat.le_trans ab.out B3.out.size)
  have aL:=yH (show YL=o++(its g (cnt-0) 0++yl h l E f nx a)from R.out)
  clear hj hS z ab kv ka M ac ak B3 N2 I2 G R
  generalize w2.heap.size=ga at*
  generalize (w2.alloc (.cells #[.int .u64 (nx:Int),.slice L cnt N] 270))=w3 at*
  have k1:=H3.out.blk.cell (i:=1) rfl
  gi_wp2
  gi_loopw [32] (fun i wz=> ∃(k:Nat) (m:List (Int×Int)),k≤cnt∧i= .int .i64 (k:Int)∧Hid (J m wz)∧Hid (YL=m++(its g (cnt-k) k++yl h l E f nx a))∧Hid (Mid w0 gv F y lb a wz)∧Hid (Hand lb ga 270 (nx:Int) L cnt N g wz)∧Hid (W.heap.size≤wz.heap.size)) (fun i _=>cnt-natO i)
  case atStart=>exact⟨0,o,Nat.zero_le _,rfl,J3,aL,M3,H3,aQ⟩
  case round=>
   rename World=>wz
   clear k1
   obtain⟨k,m,hk,rfl,aC,d,r,aj,al⟩:=hrel
   by_cases ar:k<cnt
   ·have d4:decide ((k:Int)<(cnt:Int))=true:=by simp;omega
    have d5:decide (k<cnt)=true:=by simp;omega
    obtain⟨b,off,aD,a3,cx,_⟩:=aj.out.ints k ar
    subst aD
    have a2:(0:Int)≤(k:Int):=by omega
    have a8:(k:Int)<(cnt:Int):=by omega
    obtain⟨fn,tmps,u,body,hy,hR⟩:=hY m (g k,0) wz (aR.out k) aC.out
    have ay:=yH (aLx g cnt k ar)
    gi_wp2
    refine hR.mono ?_
    rintro e W3 (⟨rfl,I,H⟩|⟨rfl,p⟩)
    ·gi_wp2
     go_roundw
     case rel=>exact⟨k+1,m++ [(g k,0)],by omega,by go_num,yH I,yH (by rw[d.out,ay.out];simp),yH (r.out.kp H aH au (by have:=am.out;have:=al.out;omega)),yH (aj.out.kp H aE.out aU.out),yH (Nat.le_trans al.out H.below.size)⟩
     case measure=>simp[natO];omega
    ·gi_wp2
     refine bodyPost_ret (results_none rfl _ _ _) rfl ?_
     exact⟨⟨_,rfl⟩,.inr ⟨_,⟨its g (cnt-(k+1)) (k+1)++yl h l E f nx a,by rw[C.out,d.out,ay.out];simp⟩,p⟩⟩
   ·obtain rfl:k=cnt:=by omega
    have d4:decide ((k:Int)<(k:Int))=false:=by simp
    have d5:decide (k<k)=false:=by simp
    have a1:=r.out.at_.cell (i:=0) rfl
    have a4:=r.out.at_.frozen 0
    have k0:=aj.out.blk.cell (i:=0) rfl
    gi_upto_region 12 with fail
    have HZ:=yH al.out
    gi_region
    all_goals
     gi_wp2
     have Z:KeptF (One y) wz (wz.setCell ⟨y,0,none⟩ (.int .u64 (nx:Int))).drew:=by
      have h1:=(KeptF.grow _ (grownBy_setCell' wz y (.int .u64 (nx:Int))))
      exact⟨h1.os,h1.tape,h1.output,h1.size,fun j hj hn=>h1.block j hj (fun e=>hn (by injection e with e;exact e.symm))⟩
     have aM:Mid w0 gv F y lb nx (wz.setCell ⟨y,0,none⟩ (.int .u64 (nx:Int))).drew:=
      {bel:=r.out.bel.trans ⟨Z.os,Z.tape,Z.output,Z.size,fun j hj=>Z.block j (by have:=r.out.at_.lt;omega) (fun e=>by have e1:j=y:=e;omega)⟩
       v:=(World.cell?_of_block (a:=⟨F,0,none⟩) (Z.block F (by have:=am.out;have:=HZ.out;omega) aO)).trans r.out.v
       at_:=(Boxed.set (t:=59) (v:= .int .u64 (a:Int)) (.int .u64 (nx:Int)) r.out.at_)
       row:=fun x hx=>by
        rw[aBH (Z.block lb (by have:=aq.out;have:=HZ.out;omega) (fun e=>au e.symm))]at hx
        obtain⟨r1,r2,r3⟩:=r.out.row x hx
        exact⟨r1,r2,yL r3 Z.size⟩}
     exact⟨⟨nx,a,f,m,rfl,yH (aJ.out _ _ _ aC.out Z),yH (by have h1:=d.out;rw[Nat.sub_self]at h1;exact h1),yH ⟨by have:=av.out;omega,by have:=hF.out;have:=ax.out;omega,ao⟩,yH aM,yH (Nat.le_trans HZ.out Z.size)⟩,by have:=av.out;have:=ax.out;simp[natO];omega⟩
end Wf
end Go.Proofs.YteaikbodkgjkdaaGreat
