/-
  Texts beneath the proof.
-/
import Derived.Test.YtlelnfokffflnaaGreatQl30
set_option linter.unusedVariables false
set_option linter.unusedSimpArgs false
set_option maxRecDepth 100000
set_option maxHeartbeats 4000000
open Go.ChangeShapes Go.WideShapes Go.ChangeAt Go.RowKit
namespace Go.Proofs.YtlelnfokffflnaaGreat
namespace Rd
open Bytes8 Blk8 Own8 OwnE Rows2 Ob Ga Gb Oj Ok7 Rc
abbrev dz:Array Value:= #[.int .u64 0,.int .u64 0,.int .u64 0,.int .u64 0,.int .u64 0,.int .u64 0,.slice none 0 0]
theorem aEl {w:World}{A:Option Addr}{l:List Int}{s:Nat}(h:Bytes w A l)(hs:w.heap[s]? =some (.cells dz 283 (0,0)))(j:Array Value):Bytes (w.setRow s j) A l:=by
 refine⟨h.1,fun i hi=>?_⟩
 obtain⟨b,a,e,m,c⟩:=h.2 i hi
 have d:b≠s:=by
  intro n
  subst n
  rw[World.cell?,hs]at c
  dsimp only at c
  have f:dz[a+i]? =some (.int .u8 (l.getD i 0)):=by simpa using c
  have o:a+i<7:=by
   rcases Nat.lt_or_ge (a+i) 7 with g|g
   ·exact g
   ·rw[Array.getElem?_eq_none (by simpa using g)]at f;cases f
  generalize a+i=k at*
  rcases k with _|_|_|_|_|_|_|k
  all_goals first|(simp at f)|omega
 exact⟨b,a,e,by simpa using m,(World.cell?_of_block (setRow_other w s b j d)).trans c⟩
attribute [local irreducible] wpList Code.wp
theorem got_no (a b c d e f:Int)(A:Option Addr)(n k:Nat)(cd:Int)(g:cd≠0)(w:World):Calls Tryz.prog 236 #[dataV a b c d e f A n k,.int .i64 cd] w fun e w'=>e= .panicked [haltE cd]∧Below w.heap.size w w':=by
 have h:=yH (aBF cd)
 have i:(cd==0)=false:=by simpa using g
 have b2:=yH (((Below.refl w.heap.size w).alloc (yR _) (.cells #[.int .u64 a,.int .u64 b,.int .u64 c,.int .u64 d,.int .u64 e,.int .u64 f,.slice A n k] 283)).alloc (by simp) (.cells dz 283))
 go_enter Tryz.func236,Tryz.ntmps236
 go_wp2_with(first
  |(go_at_call 205;(refine(h.out _).mono ?_);rintro e w1 ⟨rfl,rfl⟩)
  |fail)
 exact⟨rfl,rfl,b2.out⟩
theorem got_yes (a b c d e f:Int)(A:Option Addr)(n k:Nat)(w:World):Calls Tryz.prog 236 #[dataV a b c d e f A n k,.int .i64 0] w fun e' w'=>e'= .returned (dataV a b c d e f A n k)∧Below w.heap.size w w':=by
 have g:=yH (aA4 0)
 go_enter Tryz.func236,Tryz.ntmps236
 go_wp2_with(first
  |(go_at_call 205;(refine(g.out _).mono ?_);rintro e w1 ⟨rfl,rfl⟩)
  |fail)
 refine bodyPost_ret (v:=dataV a b c d e f A n k) (by exact results_cell_row Tryz.results236 _ _ (w.heap.size+1) 283 _ (0,0) _ rfl (heap_alloc2_new w _ _) Tryz.underlying283 rfl (by kernel_rfl)) rfl ?_
 exact⟨rfl,((Below.refl w.heap.size w).alloc (yR _) _).alloc (by simp) _⟩
def dcode (h:HD)(l:List Int)(n a:Nat):Int:=if h.N 0≤(a:Int)∧a<n then bcode l a 1 6 else 2
theorem aLj {b:Nat}{h:HD}{A:Option Addr}{n c:Nat}{l:List Int}(a:Nat)(w:World)(v:ViewAt w b h A n c l)(g: ¬(h.N 0≤(a:Int)∧a<n)):
 Calls Tryz.prog 212 #[.pointer (some ⟨b,0,none⟩),.int .u64 (a:Int)] w fun e w'=>e= .panicked [haltE 2]∧Below w.heap.size w w':=by
 have d:=yH (aHH (a:Int) _ (v.below ((Below.refl _ _).alloc (yR _) (.cells dz 283))) (by omega))
 have f:=yH ((Below.refl w.heap.size w).alloc (yR _) (.cells dz 283))
 clear v g
 go_enter Tryz.func212,Tryz.ntmps212
 go_wp2_with(first
  |(go_at_call 182;(refine d.out.mono ?_);rintro e w1 ⟨rfl,rfl⟩)
  |fail)
 exact⟨rfl,rfl,f.out⟩
theorem aNq {I:Nat}{h:HD}{A:Option Addr}{n c:Nat}{l:List Int}(a:Nat)(w:World)(v:ViewAt w I h A n c l)(H:c≤maxLen)(L:h.N 0≤(a:Int)∧a<n):
 Calls Tryz.prog 212 #[.pointer (some ⟨I,0,none⟩),.int .u64 (a:Int)] w fun e w'=>Below w.heap.size w w'∧
  ((bcode l a 1 6≠0∧e= .panicked [haltE (bcode l a 1 6)])∨(bcode l a 1 6=0∧ ∃A' m' c',e= .returned (dataV (bnum l a 1 6 0) (bnum l a 1 6 1) (bnum l a 1 6 2) (bnum l a 1 6 3) (bnum l a 1 6 4) (bnum l a 1 6 5) A' m' c')∧Bytes w' A' (bpay l a 1 6)∧(bpay l a 1 6).length=m'∧Cap w.heap.size A' m' c')):=by
 have k:=v.below ((Below.refl _ _).alloc (yR _) (.cells dz 283))
 have M:=yH (aFF (a:Int) _ k L.1 (by omega))
 have C:=yH (aJY A l n c a _ k.by_ k.len k.big k.cap H (by have:=v.big;omega))
 have z:=yH ((Below.refl w.heap.size w).alloc (yR _) (.cells dz 283))
 have R:=yH (heap_alloc_new w (.cells dz 283))
 have J:=yH (show w.heap.size<(w.alloc (.cells dz 283)).heap.size by simp)
 unfold DataTold2 at C
 generalize bnum l a 1 6 0=q at*
 generalize bnum l a 1 6 1=r at*
 generalize bnum l a 1 6 2=m at*
 generalize bnum l a 1 6 3=x at*
 generalize bnum l a 1 6 4=s at*
 generalize bnum l a 1 6 5=u at*
 generalize bcode l a 1 6=cd at*
 generalize bpay l a 1 6=X at*
 clear v k L
 by_cases G:cd=0
 ·subst G
  go_enter Tryz.func212,Tryz.ntmps212
  go_wp2_with(first
   |(go_at_call 182;(refine M.out.mono ?_);rintro e w1 ⟨rfl,rfl⟩)
   |(go_at_call 237;(refine C.out.mono ?_);rintro e w2 ⟨i,g,j,rfl,d,f,p,o⟩;have t:=yH d;have F:=yH f;clear d f)
   |(go_at_call 236;(refine(got_yes q r m x s u i g j w2).mono ?_);rintro e w3 ⟨rfl,b⟩;have y:=yH (t.out.trans (b.mono t.out.size));have E:=yH (F.out.below b (yR _));have D:=yH ((y.out.block _ J.out).trans R.out);clear b)
   |((with_reducible apply aAa (.tmp 4) (.tmp 12));refine wpList_store_row rfl 283 (.tmp 4) (.tmp 12) rfl w.heap.size #[.int .u64 q,.int .u64 r,.int .u64 m,.int .u64 x,.int .u64 s,.int .u64 u,.slice i g j] rfl rfl 283 dz D.out (by kernel_rfl) rfl (by simp[Value.oneCell']) ?_)
   |fail)
  refine bodyPost_ret (v:=dataV q r m x s u i g j) (by exact results_cell_row Tryz.results212 _ _ w.heap.size 283 _ (0,0) _ rfl (setRow_heap _ w.heap.size _ _ _ (0,0) D.out) Tryz.underlying283 rfl (by kernel_rfl)) rfl ?_
  have V:=below_setRow (B:=w.heap.size) (z.out.trans (y.out.mono z.out.size)) (yR _) #[.int .u64 q,.int .u64 r,.int .u64 m,.int .u64 x,.int .u64 s,.int .u64 u,.slice i g j]
  exact⟨V,.inr ⟨trivial,i,g,j,rfl,aEl E.out D.out _,p,o.mono (Nat.le_of_lt J.out)⟩⟩
 ·go_enter Tryz.func212,Tryz.ntmps212
  go_wp2_with(first
   |(go_at_call 182;(refine M.out.mono ?_);rintro e w1 ⟨rfl,rfl⟩)
   |(go_at_call 237;(refine C.out.mono ?_);rintro e w2 ⟨i,g,j,rfl,d,f,p,o⟩;have t:=yH (z.out.trans (d.mono z.out.size));clear d f)
   |(go_at_call 236;(refine(got_no q r m x s u i g j cd G w2).mono ?_);rintro e w3 ⟨rfl,b⟩;have y:=yH (t.out.trans (b.mono t.out.size));clear b)
   |fail)
  exact⟨rfl,y.out,.inl ⟨G,rfl⟩⟩
end Rd
namespace Re
open Bytes8 Blk8 OwnE Ob Ga Gb Oj Ok7 Rc Rd
def ReadD (B:Nat)(l:List Int)(a:Nat)(cd:Int)(e:Ending)(w':World):Prop:=
 (cd≠0∧e= .panicked [haltE cd])∨(cd=0∧ ∃A' m' c',e= .returned (dataV (bnum l a 1 6 0) (bnum l a 1 6 1) (bnum l a 1 6 2) (bnum l a 1 6 3) (bnum l a 1 6 4) (bnum l a 1 6 5) A' m' c')∧Bytes w' A' (bpay l a 1 6)∧(bpay l a 1 6).length=m'∧Cap B A' m' c')
theorem aLk {f:Nat}{h:HD}{A:Option Addr}{n c:Nat}{l:List Int}(a:Nat)(w:World)(v:ViewAt w f h A n c l)(d:c≤maxLen):
 Calls Tryz.prog 212 #[.pointer (some ⟨f,0,none⟩),.int .u64 (a:Int)] w fun e w'=>Below w.heap.size w w'∧ReadD w.heap.size l a (dcode h l n a) e w':=by
 unfold ReadD dcode
 by_cases b:h.N 0≤(a:Int)∧a<n
 ·rw[if_pos b]
  exact aNq a w v d b
 ·rw[if_neg b]
  refine(aLj a w v b).mono ?_
  rintro e w' ⟨rfl,g⟩
  exact⟨g,.inl ⟨by decide,rfl⟩⟩
attribute [local irreducible] wpList Code.wp
theorem aAw {P:Program}{fn:Func}{p q:Tmp}{e a:TypeId}(h:fn.results= #[.cell p e,.cell q a])(tmps:Array Value)(w:World)(g j:Nat)(t:TypeId)(b:Array Value)(fr:Nat×Nat)(d:TypeDesc)(c:Value)
 (hp:tmps.getD p undef= .pointer (some ⟨g,0,none⟩))(hq:tmps.getD q undef= .pointer (some ⟨j,0,none⟩))(k:w.heap[g]? =some (.cells b t fr))(m:P.underlying e=some d)(l:(match d with| .struct _| .array _ _=>true|_=>false)=true)(n:(P.info? e).map (·.size)=some b.size)
 (o:(loadVar a ⟨j,0,none⟩).run P w= .ok c w):(results fn tmps).run P w= .ok (.tuple #[.agg b,c]) w:=by
 have i:tmps[p]?.getD undef= .pointer (some ⟨g,0,none⟩):=by simpa using hp
 have f:tmps[q]?.getD undef= .pointer (some ⟨j,0,none⟩):=by simpa using hq
 simp[results,h,i,f,asAddr,run_loadVar_row w g t e b fr d k m l n,o]
theorem aAI (g:Nat)(x:Int)(w:World)(h:Blk w g [.int .i64 x] 3):(loadVar 3 ⟨g,0,none⟩).run Tryz.prog w= .ok (.int .i64 x) w:=by
 have a:=h.cell (i:=0) rfl
 simp[loadVar,go_sem,a,Tryz.underlying3]
end Re
namespace Rp
open Bytes8 Blk8 Own8 OwnE Rows2 Ga Gb Gf Gj Ok7 Ra Rc
open Go1 (hcode rhd aBK HTold magicB)
def Opened (l:List Int)(E:Nat)(w:World)(e:Ending)(w':World):Prop:= ∃(gv:Nat) (A2:Option Addr) (c2:Nat),e= .returned (.tuple #[.pointer (some ⟨gv,0,none⟩),.int .i64 0])∧w.heap.size≤gv∧ViewAt w' gv (hdOf l) A2 E c2 (l.take E)∧c2≤maxLen∧Below w.heap.size w w'
attribute [local irreducible] HD.cells wpList Code.wp
attribute [local go_sem ↓] aGF
theorem open_fine (l:List Int)(A:Option Addr)(n c:Nat)(w:World)(x:Bytes w A l)(y:l.length=n)(hn:n≤800000)(z:n≤c)(M:hcode l n=0)(E:Nat)(Y:endV (hdOf l)=(E:Int))(o:endB (hdOf l)=true)(C:E≤n)(g:(hdOf l).Ok 21):
 Calls Tryz.prog 22 #[.slice A n c] w (Opened l E w):=by
 have I:=yH (by have k:=aBK A l n c w x y (by omega) z;rw[show rhd l n=hdOf l from if_pos M,M]at k;exact k)
 unfold HTold at I
 have F:=yH fun(W:World)=>aDi (hdOf l) g W
 rw[Y,o]at F
 have V:=yH x
 unfold Opened
 have p:=yH y
 have B:=yH g
 have r:(l.take E).length=E:=by rw[List.length_take];omega
 generalize hdOf l=H at*
 clear g x y M Y o
 go_enter Tryz.func22,Tryz.ntmps22
 go_upto_region 4 with(first
  |(go_at_call 17;((refine I.out.mono ?_);rintro e w1 ⟨rfl,m⟩;have s:=yH m;clear m))
  |((with_reducible apply aAa (.tmp 4) (.tmp 11));refine wpList_store_row rfl 39 (.tmp 4) (.tmp 11) rfl w1.heap.size ((H).cells 21).toArray rfl rfl 39 Tryz.zeroCells39 (heap_alloc_new w1 _) (aAf _) aAB (HD.one _ 21) ?_)
  |fail)
 have u:=yH (show Blk ((w1.alloc (.cells Tryz.zeroCells39 39)).setRow w1.heap.size ((H).cells 21).toArray) w1.heap.size ((H).cells 21) 39 from setRow_heap _ _ _ _ _ (0,0) (heap_alloc_new w1 _))
 have N:=yH (show Below w.heap.size w ((w1.alloc (.cells Tryz.zeroCells39 39)).setRow w1.heap.size ((H).cells 21).toArray)from below_setRow (s.out.alloc s.out.size _) s.out.size _)
 generalize (w1.alloc (.cells Tryz.zeroCells39 39)).setRow w1.heap.size ((H).cells 21).toArray=w2 at*
 generalize w1.heap.size=J at*
 clear I s
 go_upto_region 5 with(first
  |((with_reducible apply aAb 17);refine wpList_load_row rfl 39 (.tmp 4) rfl J rfl 39 ((H).cells 21).toArray (0,0) _ u.out Tryz.underlying39 rfl (aAf _) ?_)
  |(go_at_call 57;((refine(F.out _).mono ?_);rintro e w4 ⟨rfl,f⟩;have t:=yH (N.out.trans (f.mono N.out.size));have X:=yH (u.out.below f u.out.lt);clear f))
  |fail)
 have v:=yH (show Below w4.heap.size w4 w4.drew from(Below.refl w4.heap.size w4).drew)
 have R:=yH fun(W:World) (hW:Below w4.heap.size w4 W)=>show(fun W:World=>W.rangeAt J 0 ((H).cells 21)) W from whole (X.out.below hW X.out.lt)
 have hcut:=fun W:World=>aOg A n c E (by omega) (by omega) W
 have G:=yH (show Bytes w4.drew (cutA A c 0) (l.take E)from by
  have k:=Bytes.cut ((V.out.below t.out (yR _)).below v.out (yR _)) c 0 E (by rw[p.out];exact z)
  rw[List.drop_zero]at k
  exact k)
 have D:=yH fun(W:World) (hW:Bytes W (cutA A c 0) (l.take E))=>aG0 (cutA A c 0) (l.take E) E c W hW r (by omega)
 have Z:=fun(A':Option Addr) (c':Nat) (W:World)=>aJI H A' E c' W
 clear F u N V p z C hn
 refine wp_region_noPanic ?_
 refine wp_region_held_drew (S:=fun W:World=>W.rangeAt J 0 ((H).cells 21)) (by kernel_rfl) (by exact(R.out _ v.out)) (fun hHeld=>?_)
 refine tk (i:=0) (oi:=⟨some 21,_,_,_,_,_⟩) rfl (yieldsIf_load_mid (by rfl) _ _ rfl _ _ rfl _ _ (fun _ h=>h) Tryz.underlying39 rfl (aE0 _)) ?_
 try simp only[Act.put,sA,sZ,sS]
 refine tq 1 22 rfl (fun W hSw=>by go_simp;try (with_reducible rfl)) ?_
 try simp only[Act.put,sA,sZ,sS]
 refine tq 2 23 rfl (fun W hSw=>by go_simp;try (with_reducible rfl)) ?_
 try simp only[Act.put,sA,sZ,sS]
 refine tq 3 24 rfl (fun W hSw=>by go_simp;try (with_reducible rfl)) ?_
 try simp only[Act.put,sA,sZ,sS]
 refine rd 4 rfl (fun K hK=>?_)
 go_simp
 ((refine(D.out _ G.out).mono ?_);rintro e w5 ⟨A5,c5,rfl,b,q,a⟩;have j:=yH (v.out.trans q);have L:=yH b;have d:=yH a;clear q b a)
 try go_wp2_with fail
 refine hK.out _ _ (by exact(R.out _ j.out)) (fun hHeld=>?_)
 clear hK K
 try simp only[Act.put,sA,sZ,sS]
 refine tq 5 26 rfl (fun W hSw=>by go_simp;try (with_reducible rfl)) ?_
 try simp only[Act.put,sA,sZ,sS]
 refine rd 6 rfl (fun K hK=>?_)
 go_simp
 skip
 try go_wp2_with fail
 refine hK.out _ _ (by exact(R.out _ (j.out.alloc j.out.size _))) (fun hHeld=>?_)
 clear hK K
 try simp only[Act.put,sA,sZ,sS]
 refine tq 7 2 rfl (fun W hSw=>by go_simp;try (with_reducible rfl)) ?_
 try simp only[Act.put,sA,sZ,sS]
 refine tq 8 3 rfl (fun W hSw=>by go_simp;try (with_reducible rfl)) ?_
 try simp only[Act.put,sA,sZ,sS]
 refine wpAnyH_done (by kernel_rfl) ?_ _
 refine NoPanic.normal ?_
 go_wp2
 go_ret2
 exact⟨_,A5,c5,rfl,Nat.le_trans t.out.size j.out.size,⟨Blk.new w5 _ _,L.out.below ((Below.refl _ _).alloc (yR _) _) (yR _),r,d.out.2.1,d.out.1,B.out⟩,d.out.2.2.1,t.out.trans ((j.out.alloc j.out.size _).mono t.out.size)⟩
end Rp
end Go.Proofs.YtlelnfokffflnaaGreat
