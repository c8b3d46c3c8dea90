/-
  Texts beneath.
-/
import Derived.Test.YteaikbodkgjkdaaGreatQl30
set_option linter.unusedVariables false
set_option linter.unusedSimpArgs false
set_option maxRecDepth 100000
set_option maxHeartbeats 4000000
open Go.ChangeShapes Go.WideShapes Go.ChangeAt Go.RowKit
namespace Go.Proofs.YteaikbodkgjkdaaGreat
namespace Rd
open Bytes8 Blk8 Own8 OwnE Rows2 Ob Ga Gb Oj Ok7 Rc
abbrev dz:Array Value:= #[.int .u64 0,.int .u64 0,.int .u64 0,.int .u64 0,.int .u64 0,.int .u64 0,.slice none 0 0]
theorem aEl {w:World}{A:Option Addr}{l:List Int}{s:Nat}(h:Bytes w A l)(hs:w.heap[s]? =some (.cells dz 238 (0,0)))(j:Array Value):Bytes (w.setRow s j) A l:=by
 refine⟨h.1,fun i hi=>?_⟩
 obtain⟨b,a,e,n,c⟩:=h.2 i hi
 have d:b≠s:=by
  intro o
  subst o
  rw[World.cell?,hs]at c
  dsimp only at c
  have f:dz[a+i]? =some (.int .u8 (l.getD i 0)):=by simpa using c
  have m:a+i<7:=by
   rcases Nat.lt_or_ge (a+i) 7 with g|g
   ·exact g
   ·rw[Array.getElem?_eq_none (by simpa using g)]at f;cases f
  generalize a+i=k at*
  rcases k with _|_|_|_|_|_|_|k
  all_goals first|(simp at f)|omega
 exact⟨b,a,e,by simpa using n,(World.cell?_of_block (setRow_other w s b j d)).trans c⟩
attribute [local irreducible] wpList Code.wp
theorem got_no (a b c d e f:Int)(A:Option Addr)(n k:Nat)(cd:Int)(i:cd≠0)(w:World):Calls Tryz.prog 202 #[dataV a b c d e f A n k,.int .i64 cd] w fun e w'=>e= .panicked [haltE cd]∧Below w.heap.size w w':=by
 have g:=yH (aBF cd)
 have j:(cd==0)=false:=by simpa using i
 have b2:=yH (((yB w.heap.size w).alloc (yR _) (.cells #[.int .u64 a,.int .u64 b,.int .u64 c,.int .u64 d,.int .u64 e,.int .u64 f,.slice A n k] 238)).alloc (by simp) (.cells dz 238))
 go_enter Tryz.func202,Tryz.ntmps202
 go_wp2_with(first
  |(go_at_call 178;(refine(g.out _).mono ?_);rintro e w1 ⟨rfl,rfl⟩)
  |fail)
 exact⟨rfl,rfl,b2.out⟩
theorem got_yes (a b c d e f:Int)(A:Option Addr)(n k:Nat)(w:World):Calls Tryz.prog 202 #[dataV a b c d e f A n k,.int .i64 0] w fun e' w'=>e'= .returned (dataV a b c d e f A n k)∧Below w.heap.size w w':=by
 have g:=yH (aA4 0)
 go_enter Tryz.func202,Tryz.ntmps202
 go_wp2_with(first
  |(go_at_call 178;(refine(g.out _).mono ?_);rintro e w1 ⟨rfl,rfl⟩)
  |fail)
 refine bodyPost_ret (v:=dataV a b c d e f A n k) (by exact results_cell_row Tryz.results202 _ _ (w.heap.size+1) 238 _ (0,0) _ rfl (heap_alloc2_new w _ _) Tryz.underlying238 rfl (by kernel_rfl)) rfl ?_
 exact⟨rfl,((yB w.heap.size w).alloc (yR _) _).alloc (by simp) _⟩
def dcode (h:HD)(l:List Int)(n a:Nat):Int:=if h.N 0≤(a:Int)∧a<n then bcode l a 1 6 else 2
theorem aLi {b:Nat}{h:HD}{A:Option Addr}{n c:Nat}{l:List Int}(a:Nat)(w:World)(v:ViewAt w b h A n c l)(f: ¬(h.N 0≤(a:Int)∧a<n)):
 Calls Tryz.prog 171 #[.pointer (some ⟨b,0,none⟩),.int .u64 (a:Int)] w fun e w'=>e= .panicked [haltE 2]∧Below w.heap.size w w':=by
 have g:=yH (aHE (a:Int) _ (v.below ((yB _ _).alloc (yR _) (.cells dz 238))) (by omega))
 have d:=yH ((yB w.heap.size w).alloc (yR _) (.cells dz 238))
 clear v f
 go_enter Tryz.func171,Tryz.ntmps171
 go_wp2_with(first
  |(go_at_call 188;(refine g.out.mono ?_);rintro e w1 ⟨rfl,rfl⟩)
  |fail)
 exact⟨rfl,rfl,d.out⟩
theorem aNq {I:Nat}{h:HD}{A:Option Addr}{n c:Nat}{l:List Int}(a:Nat)(w:World)(v:ViewAt w I h A n c l)(C:c≤maxLen)(L:h.N 0≤(a:Int)∧a<n):
 Calls Tryz.prog 171 #[.pointer (some ⟨I,0,none⟩),.int .u64 (a:Int)] w fun e w'=>Below w.heap.size w w'∧
  ((bcode l a 1 6≠0∧e= .panicked [haltE (bcode l a 1 6)])∨(bcode l a 1 6=0∧ ∃A' m' c',e= .returned (dataV (bnum l a 1 6 0) (bnum l a 1 6 1) (bnum l a 1 6 2) (bnum l a 1 6 3) (bnum l a 1 6 4) (bnum l a 1 6 5) A' m' c')∧Bytes w' A' (bpay l a 1 6)∧(bpay l a 1 6).length=m'∧Cap w.heap.size A' m' c')):=by
 have k:=v.below ((yB _ _).alloc (yR _) (.cells dz 238))
 have J:=yH (aFF (a:Int) _ k L.1 (by omega))
 have E:=yH (aJW A l n c a _ k.by_ k.len k.big k.cap C (by have:=v.big;omega))
 have y:=yH ((yB w.heap.size w).alloc (yR _) (.cells dz 238))
 have R:=yH (heap_alloc_new w (.cells dz 238))
 have M:=yH (show w.heap.size<(w.alloc (.cells dz 238)).heap.size by simp)
 unfold DataTold2 at E
 generalize bnum l a 1 6 0=m at*
 generalize bnum l a 1 6 1=u at*
 generalize bnum l a 1 6 2=s at*
 generalize bnum l a 1 6 3=p at*
 generalize bnum l a 1 6 4=o at*
 generalize bnum l a 1 6 5=t at*
 generalize bcode l a 1 6=cd at*
 generalize bpay l a 1 6=X at*
 clear v k L
 by_cases F:cd=0
 ·subst F
  go_enter Tryz.func171,Tryz.ntmps171
  go_wp2_with(first
   |(go_at_call 188;(refine J.out.mono ?_);rintro e w1 ⟨rfl,rfl⟩)
   |(go_at_call 203;(refine E.out.mono ?_);rintro e w2 ⟨j,g,i,rfl,d,f,q,r⟩;have x:=yH d;have D:=yH f;clear d f)
   |(go_at_call 202;(refine(got_yes m u s p o t j g i w2).mono ?_);rintro e w3 ⟨rfl,b⟩;have z:=yH (x.out.trans (b.mono x.out.size));have G:=yH (D.out.below b (yR _));have H:=yH ((z.out.block _ M.out).trans R.out);clear b)
   |((with_reducible apply aAa (.tmp 4) (.tmp 12));refine wpList_store_row rfl 238 (.tmp 4) (.tmp 12) rfl w.heap.size #[.int .u64 m,.int .u64 u,.int .u64 s,.int .u64 p,.int .u64 o,.int .u64 t,.slice j g i] rfl rfl 238 dz H.out (by kernel_rfl) rfl (by simp[Value.oneCell']) ?_)
   |fail)
  refine bodyPost_ret (v:=dataV m u s p o t j g i) (by exact results_cell_row Tryz.results171 _ _ w.heap.size 238 _ (0,0) _ rfl (setRow_heap _ w.heap.size _ _ _ (0,0) H.out) Tryz.underlying238 rfl (by kernel_rfl)) rfl ?_
  have V:=below_setRow (B:=w.heap.size) (y.out.trans (z.out.mono y.out.size)) (yR _) #[.int .u64 m,.int .u64 u,.int .u64 s,.int .u64 p,.int .u64 o,.int .u64 t,.slice j g i]
  exact⟨V,.inr ⟨trivial,j,g,i,rfl,aEl G.out H.out _,q,r.mono (Nat.le_of_lt M.out)⟩⟩
 ·go_enter Tryz.func171,Tryz.ntmps171
  go_wp2_with(first
   |(go_at_call 188;(refine J.out.mono ?_);rintro e w1 ⟨rfl,rfl⟩)
   |(go_at_call 203;(refine E.out.mono ?_);rintro e w2 ⟨j,g,i,rfl,d,f,q,r⟩;have x:=yH (y.out.trans (d.mono y.out.size));clear d f)
   |(go_at_call 202;(refine(got_no m u s p o t j g i cd F w2).mono ?_);rintro e w3 ⟨rfl,b⟩;have z:=yH (x.out.trans (b.mono x.out.size));clear b)
   |fail)
  exact⟨rfl,z.out,.inl ⟨F,rfl⟩⟩
end Rd
namespace Re
open Bytes8 Blk8 OwnE Ob Ga Gb Oj Ok7 Rc Rd
def ReadD (B:Nat)(l:List Int)(a:Nat)(cd:Int)(e:Ending)(w':World):Prop:=
 (cd≠0∧e= .panicked [haltE cd])∨(cd=0∧ ∃A' m' c',e= .returned (dataV (bnum l a 1 6 0) (bnum l a 1 6 1) (bnum l a 1 6 2) (bnum l a 1 6 3) (bnum l a 1 6 4) (bnum l a 1 6 5) A' m' c')∧Bytes w' A' (bpay l a 1 6)∧(bpay l a 1 6).length=m'∧Cap B A' m' c')
theorem aLj {f:Nat}{h:HD}{A:Option Addr}{n c:Nat}{l:List Int}(a:Nat)(w:World)(v:ViewAt w f h A n c l)(d:c≤maxLen):
 Calls Tryz.prog 171 #[.pointer (some ⟨f,0,none⟩),.int .u64 (a:Int)] w fun e w'=>Below w.heap.size w w'∧ReadD w.heap.size l a (dcode h l n a) e w':=by
 unfold ReadD dcode
 by_cases b:h.N 0≤(a:Int)∧a<n
 ·rw[if_pos b]
  exact aNq a w v d b
 ·rw[if_neg b]
  refine(aLi a w v b).mono ?_
  rintro e w' ⟨rfl,g⟩
  exact⟨g,.inl ⟨by decide,rfl⟩⟩
attribute [local irreducible] wpList Code.wp
theorem aAw {P:Program}{fn:Func}{p q:Tmp}{b a:TypeId}(h:fn.results= #[.cell p b,.cell q a])(tmps:Array Value)(w:World)(g j:Nat)(t:TypeId)(e:Array Value)(fr:Nat×Nat)(d:TypeDesc)(c:Value)
 (hp:tmps.getD p undef= .pointer (some ⟨g,0,none⟩))(hq:tmps.getD q undef= .pointer (some ⟨j,0,none⟩))(n:w.heap[g]? =some (.cells e t fr))(m:P.underlying b=some d)(k:(match d with| .struct _| .array _ _=>true|_=>false)=true)(o:(P.info? b).map (·.size)=some e.size)
 (l:(loadVar a ⟨j,0,none⟩).run P w= .ok c w):(results fn tmps).run P w= .ok (.tuple #[.agg e,c]) w:=by
 have i:tmps[p]?.getD undef= .pointer (some ⟨g,0,none⟩):=by simpa using hp
 have f:tmps[q]?.getD undef= .pointer (some ⟨j,0,none⟩):=by simpa using hq
 simp[results,h,i,f,asAddr,run_loadVar_row w g t b e fr d n m k o,l]
theorem aAI (g:Nat)(x:Int)(w:World)(h:Blk w g [.int .i64 x] 3):(loadVar 3 ⟨g,0,none⟩).run Tryz.prog w= .ok (.int .i64 x) w:=by
 have a:=h.cell (i:=0) rfl
 simp[loadVar,go_sem,a,Tryz.underlying3]
end Re
namespace Rp
open Bytes8 Blk8 Own8 OwnE Rows2 Ga Gb Gf Gj Ok7 Ra Rc
open Go1 (hcode rhd aBK HTold magicB)
def Opened (l:List Int)(E:Nat)(w:World)(e:Ending)(w':World):Prop:= ∃(gv:Nat) (A2:Option Addr) (c2:Nat),e= .returned (.tuple #[.pointer (some ⟨gv,0,none⟩),.int .i64 0])∧w.heap.size≤gv∧ViewAt w' gv (hdOf l) A2 E c2 (l.take E)∧c2≤maxLen∧Below w.heap.size w w'
attribute [local irreducible] HD.cells wpList Code.wp
attribute [local go_sem ↓] aGE
theorem open_fine (l:List Int)(A:Option Addr)(n c:Nat)(w:World)(x:Bytes w A l)(F:l.length=n)(hn:n≤800000)(D:n≤c)(G:hcode l n=0)(E:Nat)(X:endV (hdOf l)=(E:Int))(m:endB (hdOf l)=true)(z:E≤n)(f:(hdOf l).Ok 21):
 Calls Tryz.prog 38 #[.slice A n c] w (Opened l E w):=by
 have J:=yH (by have k:=aBK A l n c w x F (by omega) D;rw[show rhd l n=hdOf l from if_pos G,G]at k;exact k)
 unfold HTold at J
 have N:=yH fun(W:World)=>aDi (hdOf l) f W
 rw[X,m]at N
 have V:=yH x
 unfold Opened
 have r:=yH F
 have B:=yH f
 have o:(l.take E).length=E:=by rw[List.length_take];omega
 generalize hdOf l=H at*
 clear f x F G X m
 go_enter Tryz.func38,Tryz.ntmps38
 go_upto_region 4 with(first
  |(go_at_call 80;((refine J.out.mono ?_);rintro e w1 ⟨rfl,q⟩;have t:=yH q;clear q))
  |((with_reducible apply aAa (.tmp 4) (.tmp 11));refine wpList_store_row rfl 165 (.tmp 4) (.tmp 11) rfl w1.heap.size ((H).cells 21).toArray rfl rfl 165 Tryz.zeroCells165 (heap_alloc_new w1 _) (aAf _) aAB (HD.one _ 21) ?_)
  |fail)
 have s:=yH (show Blk ((w1.alloc (.cells Tryz.zeroCells165 165)).setRow w1.heap.size ((H).cells 21).toArray) w1.heap.size ((H).cells 21) 165 from setRow_heap _ _ _ _ _ (0,0) (heap_alloc_new w1 _))
 have R:=yH (show Below w.heap.size w ((w1.alloc (.cells Tryz.zeroCells165 165)).setRow w1.heap.size ((H).cells 21).toArray)from below_setRow (t.out.alloc t.out.size _) t.out.size _)
 generalize (w1.alloc (.cells Tryz.zeroCells165 165)).setRow w1.heap.size ((H).cells 21).toArray=w2 at*
 generalize w1.heap.size=v at*
 clear J t
 go_upto_region 5 with(first
  |((with_reducible apply aAb 17);refine wpList_load_row rfl 165 (.tmp 4) rfl v rfl 165 ((H).cells 21).toArray (0,0) _ s.out Tryz.underlying165 rfl (aAf _) ?_)
  |(go_at_call 81;((refine(N.out _).mono ?_);rintro e w4 ⟨rfl,g⟩;have u:=yH (R.out.trans (g.mono R.out.size));have Y:=yH (s.out.below g s.out.lt);clear g))
  |fail)
 have M:=yH (show Below w4.heap.size w4 w4.drew from(yB w4.heap.size w4).drew)
 have L:=yH fun(W:World) (hW:Below w4.heap.size w4 W)=>show(fun W:World=>W.rangeAt v 0 ((H).cells 21)) W from whole (Y.out.below hW Y.out.lt)
 have hcut:=fun W:World=>aOg A n c E (by omega) (by omega) W
 have y:=yH (show Bytes w4.drew (cutA A c 0) (l.take E)from by
  have k:=Bytes.cut ((V.out.below u.out (yR _)).below M.out (yR _)) c 0 E (by rw[r.out];exact D)
  rw[List.drop_zero]at k
  exact k)
 have I:=yH fun(W:World) (hW:Bytes W (cutA A c 0) (l.take E))=>aGZ (cutA A c 0) (l.take E) E c W hW o (by omega)
 have Z:=fun(A':Option Addr) (c':Nat) (W:World)=>aJG H A' E c' W
 clear N s R V r D z hn
 refine wp_region_noPanic ?_
 refine wp_region_held_drew (S:=fun W:World=>W.rangeAt v 0 ((H).cells 21)) (by kernel_rfl) (by exact(L.out _ M.out)) (fun hHeld=>?_)
 refine tk (i:=0) (oi:=⟨some 21,_,_,_,_,_⟩) rfl (yieldsIf_load_mid (by rfl) _ _ rfl _ _ rfl _ _ (fun _ h=>h) Tryz.underlying165 rfl (aE0 _)) ?_
 try simp only[Act.put,sA,sZ,sS]
 refine tq 1 22 rfl (fun W hSw=>by go_simp;try (with_reducible rfl)) ?_
 try simp only[Act.put,sA,sZ,sS]
 refine tq 2 23 rfl (fun W hSw=>by go_simp;try (with_reducible rfl)) ?_
 try simp only[Act.put,sA,sZ,sS]
 refine tq 3 24 rfl (fun W hSw=>by go_simp;try (with_reducible rfl)) ?_
 try simp only[Act.put,sA,sZ,sS]
 refine rd 4 rfl (fun K hK=>?_)
 go_simp
 ((refine(I.out _ y.out).mono ?_);rintro e w5 ⟨A5,c5,rfl,a,p,b⟩;have j:=yH (M.out.trans p);have C:=yH a;have d:=yH b;clear p a b)
 try go_wp2_with fail
 refine hK.out _ _ (by exact(L.out _ j.out)) (fun hHeld=>?_)
 clear hK K
 try simp only[Act.put,sA,sZ,sS]
 refine tq 5 26 rfl (fun W hSw=>by go_simp;try (with_reducible rfl)) ?_
 try simp only[Act.put,sA,sZ,sS]
 refine rd 6 rfl (fun K hK=>?_)
 go_simp
 skip
 try go_wp2_with fail
 refine hK.out _ _ (by exact(L.out _ (j.out.alloc j.out.size _))) (fun hHeld=>?_)
 clear hK K
 try simp only[Act.put,sA,sZ,sS]
 refine tq 7 2 rfl (fun W hSw=>by go_simp;try (with_reducible rfl)) ?_
 try simp only[Act.put,sA,sZ,sS]
 refine tq 8 3 rfl (fun W hSw=>by go_simp;try (with_reducible rfl)) ?_
 try simp only[Act.put,sA,sZ,sS]
 refine wpAnyH_done (by kernel_rfl) ?_ _
 refine NoPanic.normal ?_
 go_wp2
 go_ret2
 exact⟨_,A5,c5,rfl,Nat.le_trans u.out.size j.out.size,⟨Blk.new w5 _ _,C.out.below ((yB _ _).alloc (yR _) _) (yR _),o,d.out.2.1,d.out.1,B.out⟩,d.out.2.2.1,u.out.trans ((j.out.alloc j.out.size _).mono u.out.size)⟩
end Rp
end Go.Proofs.YteaikbodkgjkdaaGreat
