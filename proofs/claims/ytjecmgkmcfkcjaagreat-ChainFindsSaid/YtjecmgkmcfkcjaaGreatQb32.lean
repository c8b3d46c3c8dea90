/-
  Texts beneath the proof.
-/
import Derived.Test.YtjecmgkmcfkcjaaGreatQb31
import Derived.Test.YtjecmgkmcfkcjaaGreatQb12
set_option linter.unusedVariables false
set_option linter.unusedSimpArgs false
set_option maxRecDepth 100000
set_option maxHeartbeats 4000000
open Go.ChangeShapes Go.WideShapes Go.ChangeAt Go.RowKit
namespace Go.Proofs.YtjecmgkmcfkcjaaGreat
namespace Rf
open Bytes8 Blk8 Own8 OwnE Rows2 Ob Ga Gb Gi Oj Ok7 Rc Rd
open Re (bytes_code res_row_cell load_code)
theorem caught_idle (g3:Nat)(w:World):CallsD Tryz.prog 147 #[.pointer (some ⟨g3,0,none⟩)] .returning w fun e u' w'=>e= .returned (.tuple #[])∧u'= .returning∧w'=w:=by
 refine callsD_of_wpS Tryz.func147 rfl fun c₀ cs hu=>?_
 apply wpS_seq
 apply wpS_region
 simp[wpOpsS,go_sem,recoverD,hu,Tryz.ntmps147,Exit.thenS]
 refine wpS_of_wp ?_
 go_wp2
 cases c₀
 simp_all[bodyPostS,results,Tryz.results147]
theorem caught_halt (g3:Nat)(c y:Int)(older:List PanicEntry)(w:World)(h:Blk w g3 [.int .i64 y] 3):CallsD Tryz.prog 147 #[.pointer (some ⟨g3,0,none⟩)] (.panicking ({v:= .iface 230 (.int .i64 c),recovered:=false}::older)) w fun e u' w'=>e= .returned (.tuple #[])∧u'= .panicking ({v:= .iface 230 (.int .i64 c),recovered:=true}::older)∧w'=w.setCell ⟨g3,0,none⟩ (.int .i64 c):=by
 have c0:=h.cell (i:=0) rfl
 have z0:=h.frozen 0
 have hta: ∀w:World,(Instr.typeAssert (.iface 230 (.int .i64 c)) 20 230 true).run Tryz.prog w= .ok (.tuple #[.int .i64 c,.bool true]) w:=fun _=>by kernel_rfl
 refine callsD_of_wpS Tryz.func147 rfl fun c₀ cs hu=>?_
 apply wpS_seq
 apply wpS_region
 simp[wpOpsS,go_sem,recoverD,hu,Tryz.ntmps147,Exit.thenS]
 refine wpS_of_wp ?_
 go_wp2
 cases c₀
 simp_all[bodyPostS,results,Tryz.results147]
abbrev fz:Array Value:= #[.int .u64 0,.int .u64 0,.int .u64 0,.slice none 0 0]
theorem bytes_apart {w:World}{A:Option Addr}{l:List Int}{s:Nat}(h:Bytes w A l)(hs:w.heap[s]? =some (.cells fz 71 (0,0)))(cs:Array Value):Bytes (w.setRow s cs) A l:=by
 refine⟨h.1,fun i hi=>?_⟩
 obtain⟨b,off,e,hb,hc⟩:=h.2 i hi
 have hne:b≠s:=by
  intro he
  subst he
  rw[World.cell?,hs]at hc
  dsimp only at hc
  have hk:fz[off+i]? =some (.int .u8 (l.getD i 0)):=by simpa using hc
  have hlt:off+i<4:=by
   rcases Nat.lt_or_ge (off+i) 4 with h1|h1
   ·exact h1
   ·rw[Array.getElem?_eq_none (by simpa using h1)]at hk;cases hk
  generalize off+i=k at*
  rcases k with _|_|_|_|_|_|_|k
  all_goals first|(simp at hk)|omega
 exact⟨b,off,e,by simpa using hb,(World.cell?_of_block (setRow_other w s b cs hne)).trans hc⟩
attribute [local irreducible] wpList Code.wp
theorem got_no (a b c:Int)(A:Option Addr)(n k:Nat)(cd:Int)(h0:cd≠0)(w:World):Calls Tryz.prog 91 #[fieldV a b c A n k,.int .i64 cd] w fun e w'=>e= .panicked [haltE cd]∧Below w.heap.size w w':=by
 have HN:=Lib.hid (need_no cd)
 have d0:(cd==0)=false:=by simpa using h0
 have b2:=Lib.hid (((Below.refl w.heap.size w).alloc (Nat.le_refl _) (.cells #[.int .u64 a,.int .u64 b,.int .u64 c,.slice A n k] 71)).alloc (by simp) (.cells fz 71))
 go_enter Tryz.func91,Tryz.ntmps91
 go_wp2_with(first
  |(go_at_call 148;(refine(HN.out _).mono ?_);rintro e w1 ⟨rfl,rfl⟩)
  |fail)
 exact⟨rfl,rfl,b2.out⟩
theorem got_yes (a b c:Int)(A:Option Addr)(n k:Nat)(w:World):Calls Tryz.prog 91 #[fieldV a b c A n k,.int .i64 0] w fun e' w'=>e'= .returned (fieldV a b c A n k)∧Below w.heap.size w w':=by
 have HN:=Lib.hid (need_yes 0)
 go_enter Tryz.func91,Tryz.ntmps91
 go_wp2_with(first
  |(go_at_call 148;(refine(HN.out _).mono ?_);rintro e w1 ⟨rfl,rfl⟩)
  |fail)
 refine bodyPost_ret (v:=fieldV a b c A n k) (by exact results_cell_row Tryz.results91 _ _ (w.heap.size+1) 71 _ (0,0) _ rfl (heap_alloc2_new w _ _) Tryz.underlying71 rfl (by kernel_rfl)) rfl ?_
 exact⟨rfl,((Below.refl w.heap.size w).alloc (Nat.le_refl _) _).alloc (by simp) _⟩
def fcode (h:HD)(l:List Int)(n a:Nat):Int:=if h.N 0≤(a:Int)∧a<n then bcode l a 2 3 else 2
def ReadF (l:List Int)(a:Nat)(cd:Int)(e:Ending)(w':World):Prop:=
 (cd≠0∧e= .panicked [haltE cd])∨(cd=0∧ ∃A' m' c',e= .returned (fieldV (bnum l a 2 3 0) (bnum l a 2 3 1) (bnum l a 2 3 2) A' m' c')∧Bytes w' A' (bpay l a 2 3)∧(bpay l a 2 3).length=m'∧m'≤1000000)
theorem bytes_off {w:World}{A:Option Addr}{l:List Int}{g:Nat}{vs:List Value}{T:TypeId}(h:Bytes w A l)(hg:Blk w g vs T)(hv: ∀(k:Nat) (x:Int),vs[k]? ≠some (.int .u8 x))(i:Nat)(v:Value):Bytes (w.setCell ⟨g,i,none⟩ v) A l:=by
 refine⟨h.1,fun j hj=>?_⟩
 obtain⟨b,off,e,hb,hc⟩:=h.2 j hj
 have hne:b≠g:=by
  intro he
  subst he
  have hgg:w.heap[b]? =some (.cells vs.toArray T (0,0)):=hg
  rw[World.cell?,hgg]at hc
  dsimp only at hc
  exact hv (off+j) _ (by simpa using hc)
 exact⟨b,off,e,by simpa using hb,(World.cell?_of_block (Below.heap_setCell w ⟨g,i,none⟩ v b hne)).trans hc⟩
theorem no_u8 (x0 x1 x2:Value)(h0: ∃y,x0= .int .u64 y)(h1: ∃y,x1= .int .u64 y)(h2: ∃y,x2= .int .u64 y)(B:Option Addr)(m c:Nat)(k:Nat)(x:Int): [x0,x1,x2,.slice B m c][k]? ≠some (.int .u8 x):=by
 obtain⟨y0,rfl⟩:=h0;obtain⟨y1,rfl⟩:=h1;obtain⟨y2,rfl⟩:=h2
 rcases k with _|_|_|_|k<;>simp
theorem vfield_cl {gv:Nat}{h:HD}{A:Option Addr}{n c:Nat}{l:List Int}(a:Nat)(g2 g3:Nat)(w:World)(v:ViewAt w gv h A n c l)(hcm:c≤maxLen)(H2:Blk w g2 [.pointer (some ⟨gv,0,none⟩)] 27)(H3:Blk w g3 [.int .u64 (a:Int)] 40):
 Calls Tryz.prog 90 #[.pointer (some ⟨g2,0,none⟩),.pointer (some ⟨g3,0,none⟩)] w fun e w'=>Below w.heap.size w w'∧ReadF l a (fcode h l n a) e w':=by
 have b1:=Lib.hid ((Below.refl w.heap.size w).alloc (Nat.le_refl _) (.cells fz 71))
 have v1:=v.below b1.out
 have v1d:ViewAt (w.alloc (.cells fz 71)).drew gv h A n c l:=⟨v1.blk,v1.by_,v1.len,v1.cap,v1.big,v1.ok⟩
 have b1d:=Lib.hid b1.out.drew
 have G2:=Lib.hid (H2.alloc (.cells fz 71))
 have G3:=Lib.hid (H3.alloc (.cells fz 71))
 have s2:=Lib.hid G2.out.lt
 have s3:=Lib.hid G3.out.lt
 have Z1:=Lib.hid (heap_alloc_new w (.cells fz 71))
 have s1:=Lib.hid (show w.heap.size<(w.alloc (.cells fz 71)).heap.size by simp)
 have l2:=Lib.hid (Nat.ne_of_lt H2.lt)
 have l3:=Lib.hid (Nat.ne_of_lt H3.lt)
 by_cases hin:h.N 0≤(a:Int)∧a<n
 ·have HF:=Lib.hid (from_yes (a:Int) _ v1d hin.1 (by omega))
  have HR:=Lib.hid (readField_any A l n c a _ v1d.by_ v1.len v1.big v1.cap hcm (by have:=v1.big;omega))
  unfold FieldTold at HR
  unfold ReadF fcode
  rw[if_pos hin]
  generalize bnum l a 2 3 0=x0 at*
  generalize bnum l a 2 3 1=x1 at*
  generalize bnum l a 2 3 2=x2 at*
  generalize bcode l a 2 3=cd at*
  generalize bpay l a 2 3=pl at*
  clear v v1 v1d hin H2 H3
  go_enter Tryz.func90,Tryz.ntmps90
  go_upto_region 1 with fail
  generalize w.alloc (.cells fz 71)=w1 at*
  have t2:=G2.out.cell (i:=0) rfl
  have t3:=G3.out.cell (i:=0) rfl
  by_cases hz:cd=0
  ·subst hz
   go_region_held3 (fun W=>W.cell? ⟨g2,0,none⟩=some (.pointer (some ⟨gv,0,none⟩))∧W.cell? ⟨g3,0,none⟩=some (.int .u64 (a:Int))) (first|(with_reducible exact⟨t2,t3⟩)|(with_reducible exact⟨u2,u3⟩)|(with_reducible exact⟨p2,p3⟩)|(with_reducible exact⟨q2,q3⟩)|go_keep) (first
    |(go_at_call 93;(refine HF.out.mono ?_);rintro e wf ⟨rfl,rfl⟩)
    |(go_at_call 92;(refine HR.out.mono ?_);rintro e w2 ⟨A2,m2,c2',rfl,hb2,hy2,hl2,hm2⟩;have B2:=Lib.hid (b1d.out.trans (hb2.mono b1d.out.size));have ZZ2:=Lib.hid ((hb2.block _ s1.out).trans Z1.out);have HY2:=Lib.hid hy2;have U2:=Lib.hid (G2.out.drew.below hb2 s2.out);have U3:=Lib.hid (G3.out.drew.below hb2 s3.out);have u2:=U2.out.cell (i:=0) rfl;have u3:=U3.out.cell (i:=0) rfl;have B2s:=Lib.hid hb2.size;clear hb2 hy2)
    |(go_at_call 91;(refine(got_yes x0 x1 x2 A2 m2 c2' w2).mono ?_);rintro e w3 ⟨rfl,hb3⟩;have B3:=Lib.hid (B2.out.trans (hb3.mono B2.out.size));have HY3:=Lib.hid (HY2.out.below hb3 (Nat.le_refl _));have P2:=Lib.hid (U2.out.below hb3 U2.out.lt);have P3:=Lib.hid (U3.out.below hb3 U3.out.lt);have p2:=P2.out.cell (i:=0) rfl;have p3:=P3.out.cell (i:=0) rfl;have Z3:=Lib.hid ((hb3.block _ (Nat.lt_of_lt_of_le s1.out B2s.out)).trans ZZ2.out);have R3:=Lib.hid (show Blk w3 w.heap.size [.int .u64 0,.int .u64 0,.int .u64 0,.slice none 0 0] 71 from Z3.out);have e0:=R3.out.cell (i:=0) rfl;have z0:=R3.out.frozen 0;have e1:=R3.out.cell (i:=1) rfl;have z1:=R3.out.frozen 1;have e2:=R3.out.cell (i:=2) rfl;have z2:=R3.out.frozen 2;have e3:=R3.out.cell (i:=3) rfl;have z3:=R3.out.frozen 3;have q2:=((((P2.out.far (p:=⟨w.heap.size,0,none⟩) l2.out (.int .u64 x0)).far (p:=⟨w.heap.size,1,none⟩) l2.out (.int .u64 x1)).far (p:=⟨w.heap.size,2,none⟩) l2.out (.int .u64 x2)).far (p:=⟨w.heap.size,3,none⟩) l2.out (.slice A2 m2 c2')).cell (i:=0) rfl;have q3:=((((P3.out.far (p:=⟨w.heap.size,0,none⟩) l3.out (.int .u64 x0)).far (p:=⟨w.heap.size,1,none⟩) l3.out (.int .u64 x1)).far (p:=⟨w.heap.size,2,none⟩) l3.out (.int .u64 x2)).far (p:=⟨w.heap.size,3,none⟩) l3.out (.slice A2 m2 c2')).cell (i:=0) rfl;clear hb3)
    |fail)
   have F1:=R3.out.set_ 0 (.int .u64 x0)
   have F2:=F1.set_ 1 (.int .u64 x1)
   have F3:=F2.set_ 2 (.int .u64 x2)
   have F4:=F3.set_ 3 (.slice A2 m2 c2')
   have Y1:=bytes_off HY3.out R3.out (no_u8 _ _ _ ⟨_,rfl⟩ ⟨_,rfl⟩ ⟨_,rfl⟩ _ _ _) 0 (.int .u64 x0)
   have Y2:=bytes_off Y1 F1 (no_u8 _ _ _ ⟨_,rfl⟩ ⟨_,rfl⟩ ⟨_,rfl⟩ _ _ _) 1 (.int .u64 x1)
   have Y3:=bytes_off Y2 F2 (no_u8 _ _ _ ⟨_,rfl⟩ ⟨_,rfl⟩ ⟨_,rfl⟩ _ _ _) 2 (.int .u64 x2)
   have Y4:=bytes_off Y3 F3 (no_u8 _ _ _ ⟨_,rfl⟩ ⟨_,rfl⟩ ⟨_,rfl⟩ _ _ _) 3 (.slice A2 m2 c2')
   have b4:=(((B3.out.setCell (p:=⟨w.heap.size,0,none⟩) (Nat.le_refl _) (.int .u64 x0)).setCell (p:=⟨w.heap.size,1,none⟩) (Nat.le_refl _) (.int .u64 x1)).setCell (p:=⟨w.heap.size,2,none⟩) (Nat.le_refl _) (.int .u64 x2)).setCell (p:=⟨w.heap.size,3,none⟩) (Nat.le_refl _) (.slice A2 m2 c2')
   go_wp2_with fail
   refine bodyPost_ret (v:=fieldV x0 x1 x2 A2 m2 c2') (by exact results_cell_row Tryz.results90 _ _ w.heap.size 71 _ (0,0) _ rfl F4 Tryz.underlying71 rfl (by kernel_rfl)) rfl ?_
   exact⟨b4,A2,m2,⟨c2',rfl⟩,Y4,rfl,hm2⟩
  ·refine wp_region_held_drew (S:=fun W:World=>W.cell? ⟨g2,0,none⟩=some (.pointer (some ⟨gv,0,none⟩))∧W.cell? ⟨g3,0,none⟩=some (.int .u64 (a:Int))) (by kernel_rfl) (by exact⟨t2,t3⟩) (fun hHeld=>?_)
   refine tk (i:=0) (oi:=⟨some 3,_,_,_,_,_⟩) (v:=?_) rfl (Or.inl ⟨by rfl,?_⟩) ?_
   rotate_left
   ·intro W hSw;obtain⟨x0,x1⟩:=hSw;go_simp;try (with_reducible rfl)
   try simp only[Act.put,sA,sZ,sS]
   refine tk (i:=1) (oi:=⟨some 4,_,_,_,_,_⟩) (v:=?_) rfl (Or.inl ⟨by rfl,?_⟩) ?_
   rotate_left
   ·intro W hSw;obtain⟨x0,x1⟩:=hSw;go_simp;try (with_reducible rfl)
   try simp only[Act.put,sA,sZ,sS]
   refine tk (i:=3) (oi:=⟨some 6,_,_,_,_,_⟩) (v:=?_) rfl (Or.inl ⟨by rfl,?_⟩) ?_
   rotate_left
   ·intro W hSw;obtain⟨x0,x1⟩:=hSw;go_simp;try (with_reducible rfl)
   try simp only[Act.put,sA,sZ,sS]
   refine wpAnyH_ready (rs:=[2]) (by kernel_rfl) (by simp) ?_
   refine AllReadyH.cons (o:=⟨some 5,_,_,_,_,_⟩) rfl (fun K hK=>?_) AllReadyH.nil
   go_simp
   ((refine HF.out.mono ?_);rintro e wf ⟨rfl,rfl⟩)
   try go_wp2_with fail
   refine hK.out _ _ (by exact⟨t2,t3⟩) (fun hHeld=>?_)
   clear hK K
   try simp only[Act.put,sA,sZ,sS]
   refine wpAnyH_ready (rs:=[4]) (by kernel_rfl) (by simp) ?_
   refine AllReadyH.cons (o:=⟨some 7,_,_,_,_,_⟩) rfl (fun K hK=>?_) AllReadyH.nil
   go_simp
   ((refine HR.out.mono ?_);rintro e w2 ⟨A2,m2,c2',rfl,hb2,hy2,hl2,hm2⟩;have B2:=Lib.hid (b1d.out.trans (hb2.mono b1d.out.size));have U2:=Lib.hid (G2.out.drew.below hb2 s2.out);have U3:=Lib.hid (G3.out.drew.below hb2 s3.out);have u2:=U2.out.cell (i:=0) rfl;have u3:=U3.out.cell (i:=0) rfl;clear hb2 hy2)
   try go_wp2_with fail
   refine hK.out _ _ (by exact⟨u2,u3⟩) (fun hHeld=>?_)
   clear hK K
   try simp only[Act.put,sA,sZ,sS]
   refine tk (i:=5) (oi:=⟨some 8,_,_,_,_,_⟩) (v:=?_) rfl (Or.inl ⟨by rfl,?_⟩) ?_
   rotate_left
   ·intro W hSw;obtain⟨x0,x1⟩:=hSw;go_simp;try (with_reducible rfl)
   try simp only[Act.put,sA,sZ,sS]
   refine tk (i:=6) (oi:=⟨some 9,_,_,_,_,_⟩) (v:=?_) rfl (Or.inl ⟨by rfl,?_⟩) ?_
   rotate_left
   ·intro W hSw;obtain⟨x0,x1⟩:=hSw;go_simp;try (with_reducible rfl)
   try simp only[Act.put,sA,sZ,sS]
   refine wpAnyH_ready (rs:=[7]) (by kernel_rfl) (by simp) ?_
   refine AllReadyH.cons (o:=⟨some 10,_,_,_,_,_⟩) rfl (fun K hK=>?_) AllReadyH.nil
   go_simp
   ((refine(got_no x0 x1 x2 A2 m2 c2' cd hz w2).mono ?_);rintro e w3 ⟨rfl,hb3⟩;have B3:=Lib.hid (B2.out.trans (hb3.mono B2.out.size));clear hb3;exact⟨rfl,B3.out,.inl ⟨hz,rfl⟩⟩)
 ·have HF:=Lib.hid (from_no (a:Int) _ v1d (by omega))
  unfold ReadF fcode
  rw[if_neg hin]
  generalize bnum l a 2 3 0=x0 at*
  generalize bnum l a 2 3 1=x1 at*
  generalize bnum l a 2 3 2=x2 at*
  generalize bpay l a 2 3=pl at*
  clear v v1 v1d H2 H3
  go_enter Tryz.func90,Tryz.ntmps90
  go_upto_region 1 with fail
  generalize w.alloc (.cells fz 71)=w1 at*
  have t2:=G2.out.cell (i:=0) rfl
  have t3:=G3.out.cell (i:=0) rfl
  refine wp_region_held_drew (S:=fun W:World=>W.cell? ⟨g2,0,none⟩=some (.pointer (some ⟨gv,0,none⟩))∧W.cell? ⟨g3,0,none⟩=some (.int .u64 (a:Int))) (by kernel_rfl) (by exact⟨t2,t3⟩) (fun hHeld=>?_)
  refine tk (i:=0) (oi:=⟨some 3,_,_,_,_,_⟩) (v:=?_) rfl (Or.inl ⟨by rfl,?_⟩) ?_
  rotate_left
  ·intro W hSw;obtain⟨x0,x1⟩:=hSw;go_simp;try (with_reducible rfl)
  try simp only[Act.put,sA,sZ,sS]
  refine tk (i:=1) (oi:=⟨some 4,_,_,_,_,_⟩) (v:=?_) rfl (Or.inl ⟨by rfl,?_⟩) ?_
  rotate_left
  ·intro W hSw;obtain⟨x0,x1⟩:=hSw;go_simp;try (with_reducible rfl)
  try simp only[Act.put,sA,sZ,sS]
  refine tk (i:=3) (oi:=⟨some 6,_,_,_,_,_⟩) (v:=?_) rfl (Or.inl ⟨by rfl,?_⟩) ?_
  rotate_left
  ·intro W hSw;obtain⟨x0,x1⟩:=hSw;go_simp;try (with_reducible rfl)
  try simp only[Act.put,sA,sZ,sS]
  refine wpAnyH_ready (rs:=[2]) (by kernel_rfl) (by simp) ?_
  refine AllReadyH.cons (o:=⟨some 5,_,_,_,_,_⟩) rfl (fun K hK=>?_) AllReadyH.nil
  go_simp
  ((refine HF.out.mono ?_);rintro e wf ⟨rfl,rfl⟩;exact⟨rfl,b1d.out,.inl ⟨by decide,rfl⟩⟩)
def AskF (l:List Int)(a:Nat)(cd:Int)(e:Ending)(w':World):Prop:=
 (cd≠0∧e= .returned (.tuple #[.agg fz,.int .i64 cd]))∨(cd=0∧ ∃A' m' c',e= .returned (.tuple #[fieldV (bnum l a 2 3 0) (bnum l a 2 3 1) (bnum l a 2 3 2) A' m' c',.int .i64 0])∧Bytes w' A' (bpay l a 2 3)∧(bpay l a 2 3).length=m'∧m'≤1000000)
theorem asked_any {gv:Nat}{h:HD}{A:Option Addr}{n c:Nat}{l:List Int}(a:Nat)(g2 g3:Nat)(w:World)(v:ViewAt w gv h A n c l)(hcm:c≤maxLen)(H2:Blk w g2 [.pointer (some ⟨gv,0,none⟩)] 27)(H3:Blk w g3 [.int .u64 (a:Int)] 40):
 Calls Tryz.prog 89 #[.func (.func 90) #[] #[.pointer (some ⟨g2,0,none⟩),.pointer (some ⟨g3,0,none⟩)]] w fun e w'=>Below w.heap.size w w'∧AskF l a (fcode h l n a) e w':=by
 have b1:=Lib.hid ((Below.refl w.heap.size w).alloc (Nat.le_refl _) (.cells fz 71))
 have b2:=Lib.hid (b1.out.alloc b1.out.size (.cells #[.int .i64 0] 3))
 have v2:=v.below b2.out
 have HV:=Lib.hid (vfield_cl a g2 g3 _ v2 hcm (H2.below b2.out H2.lt) (H3.below b2.out H3.lt))
 have S1:(w.alloc (.cells fz 71)).heap.size=w.heap.size+1:=by simp only[World.alloc,Array.size_push]
 have S2:((w.alloc (.cells fz 71)).alloc (.cells #[.int .i64 0] 3)).heap.size=w.heap.size+1+1:=by simp only[World.alloc,Array.size_push]
 have Z2:=Lib.hid ((Below.heap_alloc (w.alloc (.cells fz 71)) (.cells #[.int .i64 0] 3) w.heap.size (by rw[S1];omega)).trans (heap_alloc_new w (.cells fz 71)))
 have R2:=Lib.hid (Blk.new_at (w.alloc (.cells fz 71)) [.int .i64 0] 3 _ S1)
 have hfn: ∀(fn:Fn) (first cap:Array Value) (w:World),(Instr.makeFunc fn first cap).run Tryz.prog w= .ok (.func fn first cap) w:=fun _ _ _ _=>rfl
 unfold ReadF at HV
 unfold AskF
 generalize bnum l a 2 3 0=x0 at*
 generalize bnum l a 2 3 1=x1 at*
 generalize bnum l a 2 3 2=x2 at*
 generalize fcode h l n a=cd at*
 generalize bpay l a 2 3=pl at*
 clear v v2 H2 H3
 by_cases hz:cd=0
 ·subst hz
  go_enter_defers Tryz.func89,Tryz.ntmps89
  go_wp2_with(first
   |(go_at_call 90;(refine HV.out.mono ?_);rintro e w3 ⟨hb3,⟨hne,_⟩|⟨_,A2,m2,c2',rfl,hy2,hl2,hm2⟩⟩;(exact absurd rfl hne);have B3:=Lib.hid (b2.out.trans (hb3.mono b2.out.size));have HY3:=Lib.hid hy2;have Z3:=Lib.hid ((hb3.block _ (by rw[S2];omega)).trans Z2.out);have R3:=Lib.hid (R2.out.below hb3 (by rw[S2];omega));clear hb3 hy2)
   |((with_reducible apply at_store (.tmp 2) (.tmp 6));refine wpList_store_row rfl 71 (.tmp 2) (.tmp 6) rfl w.heap.size #[.int .u64 x0,.int .u64 x1,.int .u64 x2,.slice A2 m2 c2'] rfl rfl 71 fz Z3.out (by kernel_rfl) rfl (by simp[Value.oneCell']) ?_;have R4:=Lib.hid (show Blk (w3.setRow w.heap.size #[.int .u64 x0,.int .u64 x1,.int .u64 x2,.slice A2 m2 c2']) (w.heap.size+1) [.int .i64 0] 3 from(setRow_other w3 w.heap.size (w.heap.size+1) _ (Nat.succ_ne_self _)).trans R3.out);have c4:=R4.out.cell (i:=0) rfl;have z4:=R4.out.frozen 0)
   |fail)
  refine leaves_cons (f:=147) (args:= #[.pointer (some ⟨w.heap.size+1,0,none⟩)]) (by simp) (by simp[go_sem]) ?_
  refine(caught_idle _ _).mono ?_
  rintro e u' w'' ⟨rfl,rfl,rfl⟩
  have b4:=(below_setRow (B:=w.heap.size) B3.out (Nat.le_refl _) #[.int .u64 x0,.int .u64 x1,.int .u64 x2,.slice A2 m2 c2']).setCell (p:=⟨w.heap.size+1,0,none⟩) (Nat.le_succ _) (.int .i64 0)
  exact⟨.tuple #[fieldV x0 x1 x2 A2 m2 c2',.int .i64 0],(by exact res_row_cell Tryz.results89 _ _ w.heap.size (w.heap.size+1) 71 _ (0,0) _ _ rfl rfl ((Below.heap_setCell _ _ _ _ (Nat.succ_ne_self _).symm).trans (setRow_heap _ w.heap.size _ _ _ (0,0) Z3.out)) Tryz.underlying71 rfl (by kernel_rfl) (load_code _ _ _ (R4.out.set_ 0 _))),b4,.inr ⟨trivial,A2,m2,c2',rfl,bytes_code (bytes_apart HY3.out Z3.out _) R4.out _,hl2,hm2⟩⟩
 ·go_enter_defers Tryz.func89,Tryz.ntmps89
  go_wp2_with(first
   |(go_at_call 90;(refine HV.out.mono ?_);rintro e w3 ⟨hb3,⟨_,rfl⟩|⟨he,_⟩⟩;rotate_left;(exact absurd he hz);have B3:=Lib.hid (b2.out.trans (hb3.mono b2.out.size));have Z3:=Lib.hid ((hb3.block _ (by rw[S2];omega)).trans Z2.out);have R3:=Lib.hid (R2.out.below hb3 (by rw[S2];omega));clear hb3)
   |fail)
  refine leaves_cons (f:=147) (args:= #[.pointer (some ⟨w.heap.size+1,0,none⟩)]) (by simp) (by simp[go_sem]) ?_
  refine(caught_halt _ cd 0 [] _ R3.out).mono ?_
  rintro e u' w'' ⟨rfl,rfl,rfl⟩
  have b4:=B3.out.setCell (p:=⟨w.heap.size+1,0,none⟩) (Nat.le_succ _) (.int .i64 cd)
  exact⟨.tuple #[.agg fz,.int .i64 cd],(by exact res_row_cell Tryz.results89 _ _ w.heap.size (w.heap.size+1) 71 _ (0,0) _ _ rfl rfl ((Below.heap_setCell _ _ _ _ (Nat.succ_ne_self _).symm).trans Z3.out) Tryz.underlying71 rfl (by kernel_rfl) (load_code _ _ _ (R3.out.set_ 0 _))),b4,.inl ⟨hz,rfl⟩⟩
theorem fieldAsk {gv:Nat}{h:HD}{A:Option Addr}{n c:Nat}{l:List Int}(a:Nat)(w:World)(v:ViewAt w gv h A n c l)(hcm:c≤maxLen):
 Calls Tryz.prog 33 #[.pointer (some ⟨gv,0,none⟩),.int .u64 (a:Int)] w fun e w'=>Below w.heap.size w w'∧AskF l a (fcode h l n a) e w':=by
 have b1:=Lib.hid ((Below.refl w.heap.size w).alloc (Nat.le_refl _) (.cells #[.pointer (some ⟨gv,0,none⟩)] 27))
 have b2:=Lib.hid (b1.out.alloc b1.out.size (.cells #[.int .u64 (a:Int)] 40))
 have b3:=Lib.hid (b2.out.alloc b2.out.size (.cells fz 71))
 have v3:=v.below b3.out
 have S1:(w.alloc (.cells #[.pointer (some ⟨gv,0,none⟩)] 27)).heap.size=w.heap.size+1:=by simp only[World.alloc,Array.size_push]
 have S2:((w.alloc (.cells #[.pointer (some ⟨gv,0,none⟩)] 27)).alloc (.cells #[.int .u64 (a:Int)] 40)).heap.size=w.heap.size+1+1:=by simp only[World.alloc,Array.size_push]
 have S3:(((w.alloc (.cells #[.pointer (some ⟨gv,0,none⟩)] 27)).alloc (.cells #[.int .u64 (a:Int)] 40)).alloc (.cells fz 71)).heap.size=w.heap.size+1+1+1:=by simp only[World.alloc,Array.size_push]
 have K1:=((Blk.new w [.pointer (some ⟨gv,0,none⟩)] 27).alloc (.cells #[.int .u64 (a:Int)] 40)).alloc (.cells fz 71)
 have K2:=(Blk.new_at (w.alloc (.cells #[.pointer (some ⟨gv,0,none⟩)] 27)) [.int .u64 (a:Int)] 40 _ S1).alloc (.cells fz 71)
 have HV:=Lib.hid (asked_any a w.heap.size (w.heap.size+1) _ v3 hcm K1 K2)
 have Z3:=Lib.hid (show(((w.alloc (.cells #[.pointer (some ⟨gv,0,none⟩)] 27)).alloc (.cells #[.int .u64 (a:Int)] 40)).alloc (.cells fz 71)).heap[w.heap.size+1+1]? =some (.cells fz 71 (0,0))from S2▸heap_alloc_new _ (.cells fz 71))
 have hfn: ∀(fn:Fn) (first cap:Array Value) (w:World),(Instr.makeFunc fn first cap).run Tryz.prog w= .ok (.func fn first cap) w:=fun _ _ _ _=>rfl
 unfold AskF at HV⊢
 generalize bnum l a 2 3 0=x0 at*
 generalize bnum l a 2 3 1=x1 at*
 generalize bnum l a 2 3 2=x2 at*
 generalize fcode h l n a=cd at*
 generalize bpay l a 2 3=pl at*
 clear v v3 K1 K2
 by_cases hz:cd=0
 ·subst hz
  go_enter Tryz.func33,Tryz.ntmps33
  go_wp2_with(first
   |(go_at_call 89;(refine HV.out.mono ?_);rintro e w4 ⟨hb4,⟨hne,_⟩|⟨_,A2,m2,c2',rfl,hy2,hl2,hm2⟩⟩;(exact absurd rfl hne);have B4:=Lib.hid (b3.out.trans (hb4.mono b3.out.size));have HY4:=Lib.hid hy2;have Z4:=Lib.hid ((hb4.block _ (by rw[S3];omega)).trans Z3.out);clear hb4 hy2)
   |((with_reducible apply at_store (.tmp 4) (.tmp 8));refine wpList_store_row rfl 71 (.tmp 4) (.tmp 8) rfl (w.heap.size+1+1) #[.int .u64 x0,.int .u64 x1,.int .u64 x2,.slice A2 m2 c2'] rfl rfl 71 fz Z4.out (by kernel_rfl) rfl (by simp[Value.oneCell']) ?_)
   |fail)
  refine bodyPost_ret (v:= .tuple #[fieldV x0 x1 x2 A2 m2 c2',.int .i64 0]) (by exact res_rowG Tryz.results33 _ _ (w.heap.size+1+1) 71 _ (0,0) _ _ rfl rfl (setRow_heap _ (w.heap.size+1+1) _ _ _ (0,0) Z4.out) Tryz.underlying71 rfl (by kernel_rfl)) rfl ?_
  have b5:=below_setRow (B:=w.heap.size) (g:=w.heap.size+1+1) B4.out (by omega) #[.int .u64 x0,.int .u64 x1,.int .u64 x2,.slice A2 m2 c2']
  exact⟨b5,.inr ⟨trivial,A2,m2,c2',rfl,bytes_apart HY4.out Z4.out _,hl2,hm2⟩⟩
 ·go_enter Tryz.func33,Tryz.ntmps33
  go_wp2_with(first
   |(go_at_call 89;(refine HV.out.mono ?_);rintro e w4 ⟨hb4,⟨_,rfl⟩|⟨he,_⟩⟩;rotate_left;(exact absurd he hz);have B4:=Lib.hid (b3.out.trans (hb4.mono b3.out.size));have Z4:=Lib.hid ((hb4.block _ (by rw[S3];omega)).trans Z3.out);clear hb4)
   |((with_reducible apply at_store (.tmp 4) (.tmp 8));refine wpList_store_row rfl 71 (.tmp 4) (.tmp 8) rfl (w.heap.size+1+1) fz rfl rfl 71 fz Z4.out (by kernel_rfl) rfl (by simp[Value.oneCell']) ?_)
   |fail)
  refine bodyPost_ret (v:= .tuple #[.agg fz,.int .i64 cd]) (by exact res_rowG Tryz.results33 _ _ (w.heap.size+1+1) 71 _ (0,0) _ _ rfl rfl (setRow_heap _ (w.heap.size+1+1) _ _ _ (0,0) Z4.out) Tryz.underlying71 rfl (by kernel_rfl)) rfl ?_
  have b5:=below_setRow (B:=w.heap.size) (g:=w.heap.size+1+1) B4.out (by omega) fz
  exact⟨b5,.inl ⟨hz,rfl⟩⟩
end Rf
namespace Rg
open Re (bytes_code res_row_cell load_code)
attribute [local irreducible] wpList Code.wp
end Rg
namespace Rh
open Re (bytes_code res_row_cell load_code)
attribute [local irreducible] wpList Code.wp
end Rh
end Go.Proofs.YtjecmgkmcfkcjaaGreat
