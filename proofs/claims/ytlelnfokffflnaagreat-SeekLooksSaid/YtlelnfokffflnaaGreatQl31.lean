/-
  Texts beneath the proof.
-/
import Derived.Test.YtlelnfokffflnaaGreatQl30
set_option linter.unusedVariables false
set_option linter.unusedSimpArgs false
set_option maxRecDepth 100000
set_option maxHeartbeats 4000000
open Go.ChangeShapes Go.WideShapes Go.ChangeAt Go.RowKit
namespace Go.Proofs.YtlelnfokffflnaaGreat
namespace Rd
open Bytes8 Blk8 Own8 OwnE Rows2 Ob Ga Gb Oj Ok7 Rc
abbrev dz:Array Value:= #[.int .u64 0,.int .u64 0,.int .u64 0,.int .u64 0,.int .u64 0,.int .u64 0,.slice none 0 0]
theorem aEl {w:World}{A:Option Addr}{l:List Int}{s:Nat}(h:Bytes w A l)(hs:w.heap[s]? =some (.cells dz 283 (0,0)))(m:Array Value):Bytes (w.setRow s m) A l:=by
 refine⟨h.1,fun i hi=>?_⟩
 obtain⟨b,c,e,p,d⟩:=h.2 i hi
 have g:b≠s:=by
  intro n
  subst n
  rw[World.cell?,hs]at d
  dsimp only at d
  have f:dz[c+i]? =some (.int .u8 (l.getD i 0)):=by simpa using d
  have o:c+i<7:=by
   rcases Nat.lt_or_ge (c+i) 7 with j|j
   ·exact j
   ·rw[Array.getElem?_eq_none (by simpa using j)]at f;cases f
  generalize c+i=k at*
  rcases k with _|_|_|_|_|_|_|k
  all_goals first|(simp at f)|omega
 exact⟨b,c,e,by simpa using p,(World.cell?_of_block (setRow_other w s b m g)).trans d⟩
attribute [local irreducible] wpList Code.wp
theorem got_no (a b c d e f:Int)(A:Option Addr)(n k:Nat)(cd:Int)(g:cd≠0)(w:World):Calls Tryz.prog 236 #[dataV a b c d e f A n k,.int .i64 cd] w fun e w'=>e= .panicked [haltE cd]∧Below w.heap.size w w':=by
 have i:=yH (aBF cd)
 have j:(cd==0)=false:=by simpa using g
 have b2:=yH (((Below.refl w.heap.size w).alloc (yR _) (.cells #[.int .u64 a,.int .u64 b,.int .u64 c,.int .u64 d,.int .u64 e,.int .u64 f,.slice A n k] 283)).alloc (by simp) (.cells dz 283))
 go_enter Tryz.func236,Tryz.ntmps236
 go_wp2_with(first
  |(go_at_call 205;(refine(i.out _).mono ?_);rintro e w1 ⟨rfl,rfl⟩)
  |fail)
 exact⟨rfl,rfl,b2.out⟩
theorem got_yes (a b c d e f:Int)(A:Option Addr)(n k:Nat)(w:World):Calls Tryz.prog 236 #[dataV a b c d e f A n k,.int .i64 0] w fun e' w'=>e'= .returned (dataV a b c d e f A n k)∧Below w.heap.size w w':=by
 have g:=yH (aA4 0)
 go_enter Tryz.func236,Tryz.ntmps236
 go_wp2_with(first
  |(go_at_call 205;(refine(g.out _).mono ?_);rintro e w1 ⟨rfl,rfl⟩)
  |fail)
 refine bodyPost_ret (v:=dataV a b c d e f A n k) (by exact results_cell_row Tryz.results236 _ _ (w.heap.size+1) 283 _ (0,0) _ rfl (heap_alloc2_new w _ _) Tryz.underlying283 rfl (by kernel_rfl)) rfl ?_
 exact⟨rfl,((Below.refl w.heap.size w).alloc (yR _) _).alloc (by simp) _⟩
def dcode (h:HD)(l:List Int)(n a:Nat):Int:=if h.N 0≤(a:Int)∧a<n then bcode l a 1 6 else 2
theorem aLj {b:Nat}{h:HD}{A:Option Addr}{n c:Nat}{l:List Int}(a:Nat)(w:World)(v:ViewAt w b h A n c l)(g: ¬(h.N 0≤(a:Int)∧a<n)):
 Calls Tryz.prog 212 #[.pointer (some ⟨b,0,none⟩),.int .u64 (a:Int)] w fun e w'=>e= .panicked [haltE 2]∧Below w.heap.size w w':=by
 have f:=yH (aHH (a:Int) _ (v.below ((Below.refl _ _).alloc (yR _) (.cells dz 283))) (by omega))
 have d:=yH ((Below.refl w.heap.size w).alloc (yR _) (.cells dz 283))
 clear v g
 go_enter Tryz.func212,Tryz.ntmps212
 go_wp2_with(first
  |(go_at_call 182;(refine f.out.mono ?_);rintro e w1 ⟨rfl,rfl⟩)
  |fail)
 exact⟨rfl,rfl,d.out⟩
theorem aNq {I:Nat}{h:HD}{A:Option Addr}{n c:Nat}{l:List Int}(a:Nat)(w:World)(v:ViewAt w I h A n c l)(E:c≤maxLen)(L:h.N 0≤(a:Int)∧a<n):
 Calls Tryz.prog 212 #[.pointer (some ⟨I,0,none⟩),.int .u64 (a:Int)] w fun e w'=>Below w.heap.size w w'∧
  ((bcode l a 1 6≠0∧e= .panicked [haltE (bcode l a 1 6)])∨(bcode l a 1 6=0∧ ∃A' m' c',e= .returned (dataV (bnum l a 1 6 0) (bnum l a 1 6 1) (bnum l a 1 6 2) (bnum l a 1 6 3) (bnum l a 1 6 4) (bnum l a 1 6 5) A' m' c')∧Bytes w' A' (bpay l a 1 6)∧(bpay l a 1 6).length=m'∧Cap w.heap.size A' m' c')):=by
 have k:=v.below ((Below.refl _ _).alloc (yR _) (.cells dz 283))
 have J:=yH (aFF (a:Int) _ k L.1 (by omega))
 have G:=yH (aJY A l n c a _ k.by_ k.len k.big k.cap E (by have:=v.big;omega))
 have y:=yH ((Below.refl w.heap.size w).alloc (yR _) (.cells dz 283))
 have R:=yH (heap_alloc_new w (.cells dz 283))
 have M:=yH (show w.heap.size<(w.alloc (.cells dz 283)).heap.size by simp)
 unfold DataTold2 at G
 generalize bnum l a 1 6 0=r at*
 generalize bnum l a 1 6 1=o at*
 generalize bnum l a 1 6 2=t at*
 generalize bnum l a 1 6 3=x at*
 generalize bnum l a 1 6 4=s at*
 generalize bnum l a 1 6 5=p at*
 generalize bcode l a 1 6=cd at*
 generalize bpay l a 1 6=X at*
 clear v k L
 by_cases F:cd=0
 ·subst F
  go_enter Tryz.func212,Tryz.ntmps212
  go_wp2_with(first
   |(go_at_call 182;(refine J.out.mono ?_);rintro e w1 ⟨rfl,rfl⟩)
   |(go_at_call 237;(refine G.out.mono ?_);rintro e w2 ⟨g,i,j,rfl,d,f,u,q⟩;have m:=yH d;have D:=yH f;clear d f)
   |(go_at_call 236;(refine(got_yes r o t x s p g i j w2).mono ?_);rintro e w3 ⟨rfl,b⟩;have z:=yH (m.out.trans (b.mono m.out.size));have C:=yH (D.out.below b (yR _));have H:=yH ((z.out.block _ M.out).trans R.out);clear b)
   |((with_reducible apply aAa (.tmp 4) (.tmp 12));refine wpList_store_row rfl 283 (.tmp 4) (.tmp 12) rfl w.heap.size #[.int .u64 r,.int .u64 o,.int .u64 t,.int .u64 x,.int .u64 s,.int .u64 p,.slice g i j] rfl rfl 283 dz H.out (by kernel_rfl) rfl (by simp[Value.oneCell']) ?_)
   |fail)
  refine bodyPost_ret (v:=dataV r o t x s p g i j) (by exact results_cell_row Tryz.results212 _ _ w.heap.size 283 _ (0,0) _ rfl (setRow_heap _ w.heap.size _ _ _ (0,0) H.out) Tryz.underlying283 rfl (by kernel_rfl)) rfl ?_
  have V:=below_setRow (B:=w.heap.size) (y.out.trans (z.out.mono y.out.size)) (yR _) #[.int .u64 r,.int .u64 o,.int .u64 t,.int .u64 x,.int .u64 s,.int .u64 p,.slice g i j]
  exact⟨V,.inr ⟨trivial,g,i,j,rfl,aEl C.out H.out _,u,q.mono (Nat.le_of_lt M.out)⟩⟩
 ·go_enter Tryz.func212,Tryz.ntmps212
  go_wp2_with(first
   |(go_at_call 182;(refine J.out.mono ?_);rintro e w1 ⟨rfl,rfl⟩)
   |(go_at_call 237;(refine G.out.mono ?_);rintro e w2 ⟨g,i,j,rfl,d,f,u,q⟩;have m:=yH (y.out.trans (d.mono y.out.size));clear d f)
   |(go_at_call 236;(refine(got_no r o t x s p g i j cd F w2).mono ?_);rintro e w3 ⟨rfl,b⟩;have z:=yH (m.out.trans (b.mono m.out.size));clear b)
   |fail)
  exact⟨rfl,z.out,.inl ⟨F,rfl⟩⟩
end Rd
namespace Re
open Bytes8 Blk8 OwnE Ob Ga Gb Oj Ok7 Rc Rd
def ReadD (B:Nat)(l:List Int)(a:Nat)(cd:Int)(e:Ending)(w':World):Prop:=
 (cd≠0∧e= .panicked [haltE cd])∨(cd=0∧ ∃A' m' c',e= .returned (dataV (bnum l a 1 6 0) (bnum l a 1 6 1) (bnum l a 1 6 2) (bnum l a 1 6 3) (bnum l a 1 6 4) (bnum l a 1 6 5) A' m' c')∧Bytes w' A' (bpay l a 1 6)∧(bpay l a 1 6).length=m'∧Cap B A' m' c')
theorem aLk {f:Nat}{h:HD}{A:Option Addr}{n c:Nat}{l:List Int}(a:Nat)(w:World)(v:ViewAt w f h A n c l)(d:c≤maxLen):
 Calls Tryz.prog 212 #[.pointer (some ⟨f,0,none⟩),.int .u64 (a:Int)] w fun e w'=>Below w.heap.size w w'∧ReadD w.heap.size l a (dcode h l n a) e w':=by
 unfold ReadD dcode
 by_cases b:h.N 0≤(a:Int)∧a<n
 ·rw[if_pos b]
  exact aNq a w v d b
 ·rw[if_neg b]
  refine(aLj a w v b).mono ?_
  rintro e w' ⟨rfl,g⟩
  exact⟨g,.inl ⟨by decide,rfl⟩⟩
attribute [local irreducible] wpList Code.wp
theorem aAw {P:Program}{fn:Func}{p q:Tmp}{i b:TypeId}(h:fn.results= #[.cell p i,.cell q b])(tmps:Array Value)(w:World)(g j:Nat)(t:TypeId)(f:Array Value)(fr:Nat×Nat)(d:TypeDesc)(c:Value)
 (hp:tmps.getD p undef= .pointer (some ⟨g,0,none⟩))(hq:tmps.getD q undef= .pointer (some ⟨j,0,none⟩))(s:w.heap[g]? =some (.cells f t fr))(o:P.underlying i=some d)(m:(match d with| .struct _| .array _ _=>true|_=>false)=true)(n:(P.info? i).map (·.size)=some f.size)
 (r:(loadVar b ⟨j,0,none⟩).run P w= .ok c w):(results fn tmps).run P w= .ok (.tuple #[.agg f,c]) w:=by
 have l:tmps[p]?.getD undef= .pointer (some ⟨g,0,none⟩):=by simpa using hp
 have k:tmps[q]?.getD undef= .pointer (some ⟨j,0,none⟩):=by simpa using hq
 simp[results,h,l,k,asAddr,run_loadVar_row w g t i f fr d s o m n,r]
theorem aAI (g:Nat)(x:Int)(w:World)(h:Blk w g [.int .i64 x] 3):(loadVar 3 ⟨g,0,none⟩).run Tryz.prog w= .ok (.int .i64 x) w:=by
 have b:=h.cell (i:=0) rfl
 simp[loadVar,go_sem,b,Tryz.underlying3]
end Re
namespace Rp
open Bytes8 Blk8 Own8 OwnE Rows2 Ga Gb Gf Gj Ok7 Ra Rc
open Go1 (hcode rhd aBK HTold magicB)
def Opened (l:List Int)(E:Nat)(w:World)(e:Ending)(w':World):Prop:= ∃(gv:Nat) (A2:Option Addr) (c2:Nat),e= .returned (.tuple #[.pointer (some ⟨gv,0,none⟩),.int .i64 0])∧w.heap.size≤gv∧ViewAt w' gv (hdOf l) A2 E c2 (l.take E)∧c2≤maxLen∧Below w.heap.size w w'
attribute [local irreducible] HD.cells wpList Code.wp
attribute [local go_sem ↓] aGF
theorem open_fine (l:List Int)(A:Option Addr)(n c:Nat)(w:World)(X:Bytes w A l)(C:l.length=n)(hn:n≤800000)(z:n≤c)(J:hcode l n=0)(E:Nat)(Y:endV (hdOf l)=(E:Int))(p:endB (hdOf l)=true)(L:E≤n)(g:(hdOf l).Ok 21):
 Calls Tryz.prog 22 #[.slice A n c] w (Opened l E w):=by
 have M:=yH (by have k:=aBK A l n c w X C (by omega) z;rw[show rhd l n=hdOf l from if_pos J,J]at k;exact k)
 unfold HTold at M
 have N:=yH fun(W:World)=>aDi (hdOf l) g W
 rw[Y,p]at N
 have Z:=yH X
 unfold Opened
 have s:=yH C
 have F:=yH g
 have q:(l.take E).length=E:=by rw[List.length_take];omega
 generalize hdOf l=H at*
 clear g X C J Y p
 go_enter Tryz.func22,Tryz.ntmps22
 go_upto_region 4 with(first
  |(go_at_call 17;((refine M.out.mono ?_);rintro e w1 ⟨rfl,r⟩;have u:=yH r;clear r))
  |((with_reducible apply aAa (.tmp 4) (.tmp 11));refine wpList_store_row rfl 39 (.tmp 4) (.tmp 11) rfl w1.heap.size ((H).cells 21).toArray rfl rfl 39 Tryz.zeroCells39 (heap_alloc_new w1 _) (aAf _) aAB (HD.one _ 21) ?_)
  |fail)
 have t:=yH (show Blk ((w1.alloc (.cells Tryz.zeroCells39 39)).setRow w1.heap.size ((H).cells 21).toArray) w1.heap.size ((H).cells 21) 39 from setRow_heap _ _ _ _ _ (0,0) (heap_alloc_new w1 _))
 have I:=yH (show Below w.heap.size w ((w1.alloc (.cells Tryz.zeroCells39 39)).setRow w1.heap.size ((H).cells 21).toArray)from below_setRow (u.out.alloc u.out.size _) u.out.size _)
 generalize (w1.alloc (.cells Tryz.zeroCells39 39)).setRow w1.heap.size ((H).cells 21).toArray=w2 at*
 generalize w1.heap.size=D at*
 clear M u
 go_upto_region 5 with(first
  |((with_reducible apply aAb 17);refine wpList_load_row rfl 39 (.tmp 4) rfl D rfl 39 ((H).cells 21).toArray (0,0) _ t.out Tryz.underlying39 rfl (aAf _) ?_)
  |(go_at_call 57;((refine(N.out _).mono ?_);rintro e w4 ⟨rfl,j⟩;have x:=yH (I.out.trans (j.mono I.out.size));have R4:=yH (t.out.below j t.out.lt);clear j))
  |fail)
 have V:=yH (show Below w4.heap.size w4 w4.drew from(Below.refl w4.heap.size w4).drew)
 have G:=yH fun(W:World) (hW:Below w4.heap.size w4 W)=>show(fun W:World=>W.rangeAt D 0 ((H).cells 21)) W from whole (R4.out.below hW R4.out.lt)
 have hcut:=fun W:World=>aOg A n c E (by omega) (by omega) W
 have B:=yH (show Bytes w4.drew (cutA A c 0) (l.take E)from by
  have k:=Bytes.cut ((Z.out.below x.out (yR _)).below V.out (yR _)) c 0 E (by rw[s.out];exact z)
  rw[List.drop_zero]at k
  exact k)
 have y:=yH fun(W:World) (hW:Bytes W (cutA A c 0) (l.take E))=>aG0 (cutA A c 0) (l.take E) E c W hW q (by omega)
 have aa:=fun(A':Option Addr) (c':Nat) (W:World)=>aJI H A' E c' W
 clear N t I Z s z L hn
 refine wp_region_noPanic ?_
 refine wp_region_held_drew (S:=fun W:World=>W.rangeAt D 0 ((H).cells 21)) (by kernel_rfl) (by exact(G.out _ V.out)) (fun hHeld=>?_)
 refine tk (i:=0) (oi:=⟨some 21,_,_,_,_,_⟩) rfl (yieldsIf_load_mid (by rfl) _ _ rfl _ _ rfl _ _ (fun _ h=>h) Tryz.underlying39 rfl (aE0 _)) ?_
 try simp only[Act.put,sA,sZ,sS]
 refine tq 1 22 rfl (fun W hSw=>by go_simp;try (with_reducible rfl)) ?_
 try simp only[Act.put,sA,sZ,sS]
 refine tq 2 23 rfl (fun W hSw=>by go_simp;try (with_reducible rfl)) ?_
 try simp only[Act.put,sA,sZ,sS]
 refine tq 3 24 rfl (fun W hSw=>by go_simp;try (with_reducible rfl)) ?_
 try simp only[Act.put,sA,sZ,sS]
 refine rd 4 rfl (fun K hK=>?_)
 go_simp
 ((refine(y.out _ B.out).mono ?_);rintro e w5 ⟨A5,c5,rfl,d,o,b⟩;have m:=yH (V.out.trans o);have R:=yH d;have f:=yH b;clear o d b)
 try go_wp2_with fail
 refine hK.out _ _ (by exact(G.out _ m.out)) (fun hHeld=>?_)
 clear hK K
 try simp only[Act.put,sA,sZ,sS]
 refine tq 5 26 rfl (fun W hSw=>by go_simp;try (with_reducible rfl)) ?_
 try simp only[Act.put,sA,sZ,sS]
 refine rd 6 rfl (fun K hK=>?_)
 go_simp
 skip
 try go_wp2_with fail
 refine hK.out _ _ (by exact(G.out _ (m.out.alloc m.out.size _))) (fun hHeld=>?_)
 clear hK K
 try simp only[Act.put,sA,sZ,sS]
 refine tq 7 2 rfl (fun W hSw=>by go_simp;try (with_reducible rfl)) ?_
 try simp only[Act.put,sA,sZ,sS]
 refine tq 8 3 rfl (fun W hSw=>by go_simp;try (with_reducible rfl)) ?_
 try simp only[Act.put,sA,sZ,sS]
 refine wpAnyH_done (by kernel_rfl) ?_ _
 refine NoPanic.normal ?_
 go_wp2
 go_ret2
 exact⟨_,A5,c5,rfl,Nat.le_trans x.out.size m.out.size,⟨Blk.new w5 _ _,R.out.below ((Below.refl _ _).alloc (yR _) _) (yR _),q,f.out.2.1,f.out.1,F.out⟩,f.out.2.2.1,x.out.trans ((m.out.alloc m.out.size _).mono x.out.size)⟩
end Rp
end Go.Proofs.YtlelnfokffflnaaGreat
