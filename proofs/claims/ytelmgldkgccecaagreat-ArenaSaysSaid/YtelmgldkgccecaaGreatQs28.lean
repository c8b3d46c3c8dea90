/-
  Texts beneath the proof.
-/
import Derived.Test.YtelmgldkgccecaaGreatQs1
import Derived.Test.YtelmgldkgccecaaGreatQs27
import Derived.Test.YtelmgldkgccecaaGreatQs12
set_option linter.unusedVariables false
set_option linter.unusedSimpArgs false
set_option maxRecDepth 100000
set_option maxHeartbeats 4000000
open Go.ChangeShapes Go.WideShapes Go.ChangeAt Go.RowKit
namespace Go.Proofs.YtelmgldkgccecaaGreat
namespace Rf
open Bytes8 Blk8 Own8 OwnE Rows2 Ob Ga Gb Gi Oj Ok7 Rc Rd
open Re (bytes_code res_row_cell load_code)
theorem caught_idle (g3:Nat)(w:World):CallsD Tryz.prog 164 #[.pointer (some ⟨g3,0,none⟩)] .returning w fun e u' w'=>e= .returned (.tuple #[])∧u'= .returning∧w'=w:=by
 refine callsD_of_wpS Tryz.func164 rfl fun c₀ cs hu=>?_
 apply wpS_seq
 apply wpS_region
 simp[wpOpsS,go_sem,recoverD,hu,Tryz.ntmps164,Exit.thenS]
 refine wpS_of_wp ?_
 go_wp2
 cases c₀
 simp_all[bodyPostS,results,Tryz.results164]
theorem caught_halt (g3:Nat)(c y:Int)(older:List PanicEntry)(w:World)(h:Blk w g3 [.int .i64 y] 3):CallsD Tryz.prog 164 #[.pointer (some ⟨g3,0,none⟩)] (.panicking ({v:= .iface 205 (.int .i64 c),recovered:=false}::older)) w fun e u' w'=>e= .returned (.tuple #[])∧u'= .panicking ({v:= .iface 205 (.int .i64 c),recovered:=true}::older)∧w'=w.setCell ⟨g3,0,none⟩ (.int .i64 c):=by
 have c0:=h.cell (i:=0) rfl
 have z0:=h.frozen 0
 have hta: ∀w:World,(Instr.typeAssert (.iface 205 (.int .i64 c)) 20 205 true).run Tryz.prog w= .ok (.tuple #[.int .i64 c,.bool true]) w:=fun _=>by kernel_rfl
 refine callsD_of_wpS Tryz.func164 rfl fun c₀ cs hu=>?_
 apply wpS_seq
 apply wpS_region
 simp[wpOpsS,go_sem,recoverD,hu,Tryz.ntmps164,Exit.thenS]
 refine wpS_of_wp ?_
 go_wp2
 cases c₀
 simp_all[bodyPostS,results,Tryz.results164]
abbrev fz:Array Value:= #[.int .u64 0,.int .u64 0,.int .u64 0,.slice none 0 0]
theorem bytes_apart {w:World}{A:Option Addr}{l:List Int}{s:Nat}(h:Bytes w A l)(hs:w.heap[s]? =some (.cells fz 96 (0,0)))(cs:Array Value):Bytes (w.setRow s cs) A l:=by
 refine⟨h.1,fun i hi=>?_⟩
 obtain⟨b,off,e,hb,hc⟩:=h.2 i hi
 have hne:b≠s:=by
  intro he
  subst he
  rw[World.cell?,hs]at hc
  dsimp only at hc
  have hk:fz[off+i]? =some (.int .u8 (l.getD i 0)):=by simpa using hc
  have hlt:off+i<4:=by
   rcases Nat.lt_or_ge (off+i) 4 with h1|h1
   ·exact h1
   ·rw[Array.getElem?_eq_none (by simpa using h1)]at hk;cases hk
  generalize off+i=k at*
  rcases k with _|_|_|_|_|_|_|k
  all_goals first|(simp at hk)|omega
 exact⟨b,off,e,by simpa using hb,(World.cell?_of_block (setRow_other w s b cs hne)).trans hc⟩
attribute [local irreducible] wpList Code.wp
theorem got_no (a b c:Int)(A:Option Addr)(n k:Nat)(cd:Int)(h0:cd≠0)(w:World):Calls Tryz.prog 99 #[fieldV a b c A n k,.int .i64 cd] w fun e w'=>e= .panicked [haltE cd]∧Below w.heap.size w w':=by
 have HN:=jH (need_no cd)
 have d0:(cd==0)=false:=by simpa using h0
 have b2:=jH (((Below.refl w.heap.size w).alloc (jR _) (.cells #[.int .u64 a,.int .u64 b,.int .u64 c,.slice A n k] 96)).alloc (by simp) (.cells fz 96))
 go_enter Tryz.func99,Tryz.ntmps99
 go_wp2_with(first
  |(go_at_call 117;(refine(HN.out _).mono ?_);rintro e w1 ⟨rfl,rfl⟩)
  |fail)
 exact⟨rfl,rfl,b2.out⟩
theorem got_yes (a b c:Int)(A:Option Addr)(n k:Nat)(w:World):Calls Tryz.prog 99 #[fieldV a b c A n k,.int .i64 0] w fun e' w'=>e'= .returned (fieldV a b c A n k)∧Below w.heap.size w w':=by
 have HN:=jH (need_yes 0)
 go_enter Tryz.func99,Tryz.ntmps99
 go_wp2_with(first
  |(go_at_call 117;(refine(HN.out _).mono ?_);rintro e w1 ⟨rfl,rfl⟩)
  |fail)
 refine bodyPost_ret (v:=fieldV a b c A n k) (by exact results_cell_row Tryz.results99 _ _ (w.heap.size+1) 96 _ (0,0) _ rfl (heap_alloc2_new w _ _) Tryz.underlying96 rfl (by kernel_rfl)) rfl ?_
 exact⟨rfl,((Below.refl w.heap.size w).alloc (jR _) _).alloc (by simp) _⟩
def fcode (h:HD)(l:List Int)(n a:Nat):Int:=if h.N 0≤(a:Int)∧a<n then bcode l a 2 3 else 2
def ReadF (l:List Int)(a:Nat)(cd:Int)(e:Ending)(w':World):Prop:=
 (cd≠0∧e= .panicked [haltE cd])∨(cd=0∧ ∃A' m' c',e= .returned (fieldV (bnum l a 2 3 0) (bnum l a 2 3 1) (bnum l a 2 3 2) A' m' c')∧Bytes w' A' (bpay l a 2 3)∧(bpay l a 2 3).length=m'∧m'≤1000000)
theorem bytes_off {w:World}{A:Option Addr}{l:List Int}{g:Nat}{vs:List Value}{T:TypeId}(h:Bytes w A l)(hg:Blk w g vs T)(hv: ∀(k:Nat) (x:Int),vs[k]? ≠some (.int .u8 x))(i:Nat)(v:Value):Bytes (w.setCell ⟨g,i,none⟩ v) A l:=by
 refine⟨h.1,fun j hj=>?_⟩
 obtain⟨b,off,e,hb,hc⟩:=h.2 j hj
 have hne:b≠g:=by
  intro he
  subst he
  have hgg:w.heap[b]? =some (.cells vs.toArray T (0,0)):=hg
  rw[World.cell?,hgg]at hc
  dsimp only at hc
  exact hv (off+j) _ (by simpa using hc)
 exact⟨b,off,e,by simpa using hb,(World.cell?_of_block (Below.heap_setCell w ⟨g,i,none⟩ v b hne)).trans hc⟩
theorem no_u8 (x0 x1 x2:Value)(h0: ∃y,x0= .int .u64 y)(h1: ∃y,x1= .int .u64 y)(h2: ∃y,x2= .int .u64 y)(B:Option Addr)(m c:Nat)(k:Nat)(x:Int): [x0,x1,x2,.slice B m c][k]? ≠some (.int .u8 x):=by
 obtain⟨y0,rfl⟩:=h0;obtain⟨y1,rfl⟩:=h1;obtain⟨y2,rfl⟩:=h2
 rcases k with _|_|_|_|k<;>simp
theorem vfield_cl {gv:Nat}{h:HD}{A:Option Addr}{n c:Nat}{l:List Int}(a:Nat)(g2 g3:Nat)(w:World)(v:ViewAt w gv h A n c l)(hcm:c≤maxLen)(H2:Blk w g2 [.pointer (some ⟨gv,0,none⟩)] 28)(H3:Blk w g3 [.int .u64 (a:Int)] 23):
 Calls Tryz.prog 98 #[.pointer (some ⟨g2,0,none⟩),.pointer (some ⟨g3,0,none⟩)] w fun e w'=>Below w.heap.size w w'∧ReadF l a (fcode h l n a) e w':=by
 have b1:=jH ((Below.refl w.heap.size w).alloc (jR _) (.cells fz 96))
 have v1:=v.below b1.out
 have v1d:ViewAt (w.alloc (.cells fz 96)).drew gv h A n c l:=⟨v1.blk,v1.by_,v1.len,v1.cap,v1.big,v1.ok⟩
 have b1d:=jH b1.out.drew
 have G2:=jH (H2.alloc (.cells fz 96))
 have G3:=jH (H3.alloc (.cells fz 96))
 have s2:=jH G2.out.lt
 have s3:=jH G3.out.lt
 have Z1:=jH (heap_alloc_new w (.cells fz 96))
 have s1:=jH (show w.heap.size<(w.alloc (.cells fz 96)).heap.size by simp)
 have l2:=jH (Nat.ne_of_lt H2.lt)
 have l3:=jH (Nat.ne_of_lt H3.lt)
 by_cases hin:h.N 0≤(a:Int)∧a<n
 ·have HF:=jH (from_yes (a:Int) _ v1d hin.1 (by omega))
  have HR:=jH (readField_any A l n c a _ v1d.by_ v1.len v1.big v1.cap hcm (by have:=v1.big;omega))
  unfold FieldTold at HR
  unfold ReadF fcode
  rw[if_pos hin]
  generalize bnum l a 2 3 0=x0 at*
  generalize bnum l a 2 3 1=x1 at*
  generalize bnum l a 2 3 2=x2 at*
  generalize bcode l a 2 3=cd at*
  generalize bpay l a 2 3=pl at*
  clear v v1 v1d hin H2 H3
  go_enter Tryz.func98,Tryz.ntmps98
  go_upto_region 1 with fail
  generalize w.alloc (.cells fz 96)=w1 at*
  have t2:=G2.out.cell (i:=0) rfl
  have t3:=G3.out.cell (i:=0) rfl
  by_cases hz:cd=0
  ·subst hz
   go_region_held3 (fun W=>W.cell? ⟨g2,0,none⟩=some (.pointer (some ⟨gv,0,none⟩))∧W.cell? ⟨g3,0,none⟩=some (.int .u64 (a:Int))) (first|(with_reducible exact⟨t2,t3⟩)|(with_reducible exact⟨u2,u3⟩)|(with_reducible exact⟨p2,p3⟩)|(with_reducible exact⟨q2,q3⟩)|go_keep) (first
    |(go_at_call 101;(refine HF.out.mono ?_);rintro e wf ⟨rfl,rfl⟩)
    |(go_at_call 100;(refine HR.out.mono ?_);rintro e w2 ⟨A2,m2,c2',rfl,hb2,hy2,hl2,hm2⟩;have B2:=jH (b1d.out.trans (hb2.mono b1d.out.size));have ZZ2:=jH ((hb2.block _ s1.out).trans Z1.out);have HY2:=jH hy2;have U2:=jH (G2.out.drew.below hb2 s2.out);have U3:=jH (G3.out.drew.below hb2 s3.out);have u2:=U2.out.cell (i:=0) rfl;have u3:=U3.out.cell (i:=0) rfl;have B2s:=jH hb2.size;clear hb2 hy2)
    |(go_at_call 99;(refine(got_yes x0 x1 x2 A2 m2 c2' w2).mono ?_);rintro e w3 ⟨rfl,hb3⟩;have B3:=jH (B2.out.trans (hb3.mono B2.out.size));have HY3:=jH (HY2.out.below hb3 (jR _));have P2:=jH (U2.out.below hb3 U2.out.lt);have P3:=jH (U3.out.below hb3 U3.out.lt);have p2:=P2.out.cell (i:=0) rfl;have p3:=P3.out.cell (i:=0) rfl;have Z3:=jH ((hb3.block _ (jL s1.out B2s.out)).trans ZZ2.out);have R3:=jH (show Blk w3 w.heap.size [.int .u64 0,.int .u64 0,.int .u64 0,.slice none 0 0] 96 from Z3.out);have e0:=R3.out.cell (i:=0) rfl;have z0:=R3.out.frozen 0;have e1:=R3.out.cell (i:=1) rfl;have z1:=R3.out.frozen 1;have e2:=R3.out.cell (i:=2) rfl;have z2:=R3.out.frozen 2;have e3:=R3.out.cell (i:=3) rfl;have z3:=R3.out.frozen 3;have q2:=((((P2.out.far (p:=⟨w.heap.size,0,none⟩) l2.out (.int .u64 x0)).far (p:=⟨w.heap.size,1,none⟩) l2.out (.int .u64 x1)).far (p:=⟨w.heap.size,2,none⟩) l2.out (.int .u64 x2)).far (p:=⟨w.heap.size,3,none⟩) l2.out (.slice A2 m2 c2')).cell (i:=0) rfl;have q3:=((((P3.out.far (p:=⟨w.heap.size,0,none⟩) l3.out (.int .u64 x0)).far (p:=⟨w.heap.size,1,none⟩) l3.out (.int .u64 x1)).far (p:=⟨w.heap.size,2,none⟩) l3.out (.int .u64 x2)).far (p:=⟨w.heap.size,3,none⟩) l3.out (.slice A2 m2 c2')).cell (i:=0) rfl;clear hb3)
    |fail)
   have F1:=R3.out.set_ 0 (.int .u64 x0)
   have F2:=F1.set_ 1 (.int .u64 x1)
   have F3:=F2.set_ 2 (.int .u64 x2)
   have F4:=F3.set_ 3 (.slice A2 m2 c2')
   have Y1:=bytes_off HY3.out R3.out (no_u8 _ _ _ ⟨_,rfl⟩ ⟨_,rfl⟩ ⟨_,rfl⟩ _ _ _) 0 (.int .u64 x0)
   have Y2:=bytes_off Y1 F1 (no_u8 _ _ _ ⟨_,rfl⟩ ⟨_,rfl⟩ ⟨_,rfl⟩ _ _ _) 1 (.int .u64 x1)
   have Y3:=bytes_off Y2 F2 (no_u8 _ _ _ ⟨_,rfl⟩ ⟨_,rfl⟩ ⟨_,rfl⟩ _ _ _) 2 (.int .u64 x2)
   have Y4:=bytes_off Y3 F3 (no_u8 _ _ _ ⟨_,rfl⟩ ⟨_,rfl⟩ ⟨_,rfl⟩ _ _ _) 3 (.slice A2 m2 c2')
   have b4:=(((B3.out.setCell (p:=⟨w.heap.size,0,none⟩) (jR _) (.int .u64 x0)).setCell (p:=⟨w.heap.size,1,none⟩) (jR _) (.int .u64 x1)).setCell (p:=⟨w.heap.size,2,none⟩) (jR _) (.int .u64 x2)).setCell (p:=⟨w.heap.size,3,none⟩) (jR _) (.slice A2 m2 c2')
   go_wp2_with fail
   refine bodyPost_ret (v:=fieldV x0 x1 x2 A2 m2 c2') (by exact results_cell_row Tryz.results98 _ _ w.heap.size 96 _ (0,0) _ rfl F4 Tryz.underlying96 rfl (by kernel_rfl)) rfl ?_
   exact⟨b4,A2,m2,⟨c2',rfl⟩,Y4,rfl,hm2⟩
  ·refine wp_region_held_drew (S:=fun W:World=>W.cell? ⟨g2,0,none⟩=some (.pointer (some ⟨gv,0,none⟩))∧W.cell? ⟨g3,0,none⟩=some (.int .u64 (a:Int))) (by kernel_rfl) (by exact⟨t2,t3⟩) (fun hHeld=>?_)
   refine tk (i:=0) (oi:=⟨some 3,_,_,_,_,_⟩) (v:=?_) rfl (Or.inl ⟨by rfl,?_⟩) ?_
   rotate_left
   ·intro W hSw;obtain⟨x0,x1⟩:=hSw;go_simp;try (with_reducible rfl)
   try simp only[Act.put,sA,sZ,sS]
   refine tk (i:=1) (oi:=⟨some 4,_,_,_,_,_⟩) (v:=?_) rfl (Or.inl ⟨by rfl,?_⟩) ?_
   rotate_left
   ·intro W hSw;obtain⟨x0,x1⟩:=hSw;go_simp;try (with_reducible rfl)
   try simp only[Act.put,sA,sZ,sS]
   refine tk (i:=3) (oi:=⟨some 6,_,_,_,_,_⟩) (v:=?_) rfl (Or.inl ⟨by rfl,?_⟩) ?_
   rotate_left
   ·intro W hSw;obtain⟨x0,x1⟩:=hSw;go_simp;try (with_reducible rfl)
   try simp only[Act.put,sA,sZ,sS]
   refine wpAnyH_ready (rs:=[2]) (by kernel_rfl) (by simp) ?_
   refine AllReadyH.cons (o:=⟨some 5,_,_,_,_,_⟩) rfl (fun K hK=>?_) AllReadyH.nil
   go_simp
   ((refine HF.out.mono ?_);rintro e wf ⟨rfl,rfl⟩)
   try go_wp2_with fail
   refine hK.out _ _ (by exact⟨t2,t3⟩) (fun hHeld=>?_)
   clear hK K
   try simp only[Act.put,sA,sZ,sS]
   refine wpAnyH_ready (rs:=[4]) (by kernel_rfl) (by simp) ?_
   refine AllReadyH.cons (o:=⟨some 7,_,_,_,_,_⟩) rfl (fun K hK=>?_) AllReadyH.nil
   go_simp
   ((refine HR.out.mono ?_);rintro e w2 ⟨A2,m2,c2',rfl,hb2,hy2,hl2,hm2⟩;have B2:=jH (b1d.out.trans (hb2.mono b1d.out.size));have U2:=jH (G2.out.drew.below hb2 s2.out);have U3:=jH (G3.out.drew.below hb2 s3.out);have u2:=U2.out.cell (i:=0) rfl;have u3:=U3.out.cell (i:=0) rfl;clear hb2 hy2)
   try go_wp2_with fail
   refine hK.out _ _ (by exact⟨u2,u3⟩) (fun hHeld=>?_)
   clear hK K
   try simp only[Act.put,sA,sZ,sS]
   refine tk (i:=5) (oi:=⟨some 8,_,_,_,_,_⟩) (v:=?_) rfl (Or.inl ⟨by rfl,?_⟩) ?_
   rotate_left
   ·intro W hSw;obtain⟨x0,x1⟩:=hSw;go_simp;try (with_reducible rfl)
   try simp only[Act.put,sA,sZ,sS]
   refine tk (i:=6) (oi:=⟨some 9,_,_,_,_,_⟩) (v:=?_) rfl (Or.inl ⟨by rfl,?_⟩) ?_
   rotate_left
   ·intro W hSw;obtain⟨x0,x1⟩:=hSw;go_simp;try (with_reducible rfl)
   try simp only[Act.put,sA,sZ,sS]
   refine wpAnyH_ready (rs:=[7]) (by kernel_rfl) (by simp) ?_
   refine AllReadyH.cons (o:=⟨some 10,_,_,_,_,_⟩) rfl (fun K hK=>?_) AllReadyH.nil
   go_simp
   ((refine(got_no x0 x1 x2 A2 m2 c2' cd hz w2).mono ?_);rintro e w3 ⟨rfl,hb3⟩;have B3:=jH (B2.out.trans (hb3.mono B2.out.size));clear hb3;exact⟨rfl,B3.out,.inl ⟨hz,rfl⟩⟩)
 ·have HF:=jH (from_no (a:Int) _ v1d (by omega))
  unfold ReadF fcode
  rw[if_neg hin]
  generalize bnum l a 2 3 0=x0 at*
  generalize bnum l a 2 3 1=x1 at*
  generalize bnum l a 2 3 2=x2 at*
  generalize bpay l a 2 3=pl at*
  clear v v1 v1d H2 H3
  go_enter Tryz.func98,Tryz.ntmps98
  go_upto_region 1 with fail
  generalize w.alloc (.cells fz 96)=w1 at*
  have t2:=G2.out.cell (i:=0) rfl
  have t3:=G3.out.cell (i:=0) rfl
  refine wp_region_held_drew (S:=fun W:World=>W.cell? ⟨g2,0,none⟩=some (.pointer (some ⟨gv,0,none⟩))∧W.cell? ⟨g3,0,none⟩=some (.int .u64 (a:Int))) (by kernel_rfl) (by exact⟨t2,t3⟩) (fun hHeld=>?_)
  refine tk (i:=0) (oi:=⟨some 3,_,_,_,_,_⟩) (v:=?_) rfl (Or.inl ⟨by rfl,?_⟩) ?_
  rotate_left
  ·intro W hSw;obtain⟨x0,x1⟩:=hSw;go_simp;try (with_reducible rfl)
  try simp only[Act.put,sA,sZ,sS]
  refine tk (i:=1) (oi:=⟨some 4,_,_,_,_,_⟩) (v:=?_) rfl (Or.inl ⟨by rfl,?_⟩) ?_
  rotate_left
  ·intro W hSw;obtain⟨x0,x1⟩:=hSw;go_simp;try (with_reducible rfl)
  try simp only[Act.put,sA,sZ,sS]
  refine tk (i:=3) (oi:=⟨some 6,_,_,_,_,_⟩) (v:=?_) rfl (Or.inl ⟨by rfl,?_⟩) ?_
  rotate_left
  ·intro W hSw;obtain⟨x0,x1⟩:=hSw;go_simp;try (with_reducible rfl)
  try simp only[Act.put,sA,sZ,sS]
  refine wpAnyH_ready (rs:=[2]) (by kernel_rfl) (by simp) ?_
  refine AllReadyH.cons (o:=⟨some 5,_,_,_,_,_⟩) rfl (fun K hK=>?_) AllReadyH.nil
  go_simp
  ((refine HF.out.mono ?_);rintro e wf ⟨rfl,rfl⟩;exact⟨rfl,b1d.out,.inl ⟨by decide,rfl⟩⟩)
def AskF (l:List Int)(a:Nat)(cd:Int)(e:Ending)(w':World):Prop:=
 (cd≠0∧e= .returned (.tuple #[.agg fz,.int .i64 cd]))∨(cd=0∧ ∃A' m' c',e= .returned (.tuple #[fieldV (bnum l a 2 3 0) (bnum l a 2 3 1) (bnum l a 2 3 2) A' m' c',.int .i64 0])∧Bytes w' A' (bpay l a 2 3)∧(bpay l a 2 3).length=m'∧m'≤1000000)
theorem asked_any {gv:Nat}{h:HD}{A:Option Addr}{n c:Nat}{l:List Int}(a:Nat)(g2 g3:Nat)(w:World)(v:ViewAt w gv h A n c l)(hcm:c≤maxLen)(H2:Blk w g2 [.pointer (some ⟨gv,0,none⟩)] 28)(H3:Blk w g3 [.int .u64 (a:Int)] 23):
 Calls Tryz.prog 97 #[.func (.func 98) #[] #[.pointer (some ⟨g2,0,none⟩),.pointer (some ⟨g3,0,none⟩)]] w fun e w'=>Below w.heap.size w w'∧AskF l a (fcode h l n a) e w':=by
 have b1:=jH ((Below.refl w.heap.size w).alloc (jR _) (.cells fz 96))
 have b2:=jH (b1.out.alloc b1.out.size (.cells #[.int .i64 0] 3))
 have v2:=v.below b2.out
 have HV:=jH (vfield_cl a g2 g3 _ v2 hcm (H2.below b2.out H2.lt) (H3.below b2.out H3.lt))
 have S1:(w.alloc (.cells fz 96)).heap.size=w.heap.size+1:=by simp only[World.alloc,Array.size_push]
 have S2:((w.alloc (.cells fz 96)).alloc (.cells #[.int .i64 0] 3)).heap.size=w.heap.size+1+1:=by simp only[World.alloc,Array.size_push]
 have Z2:=jH ((Below.heap_alloc (w.alloc (.cells fz 96)) (.cells #[.int .i64 0] 3) w.heap.size (by rw[S1];omega)).trans (heap_alloc_new w (.cells fz 96)))
 have R2:=jH (Blk.new_at (w.alloc (.cells fz 96)) [.int .i64 0] 3 _ S1)
 have hfn: ∀(fn:Fn) (first cap:Array Value) (w:World),(Instr.makeFunc fn first cap).run Tryz.prog w= .ok (.func fn first cap) w:=fun _ _ _ _=>rfl
 unfold ReadF at HV
 unfold AskF
 generalize bnum l a 2 3 0=x0 at*
 generalize bnum l a 2 3 1=x1 at*
 generalize bnum l a 2 3 2=x2 at*
 generalize fcode h l n a=cd at*
 generalize bpay l a 2 3=pl at*
 clear v v2 H2 H3
 by_cases hz:cd=0
 ·subst hz
  go_enter_defers Tryz.func97,Tryz.ntmps97
  go_wp2_with(first
   |(go_at_call 98;(refine HV.out.mono ?_);rintro e w3 ⟨hb3,⟨hne,_⟩|⟨_,A2,m2,c2',rfl,hy2,hl2,hm2⟩⟩;(exact absurd rfl hne);have B3:=jH (b2.out.trans (hb3.mono b2.out.size));have HY3:=jH hy2;have Z3:=jH ((hb3.block _ (by rw[S2];omega)).trans Z2.out);have R3:=jH (R2.out.below hb3 (by rw[S2];omega));clear hb3 hy2)
   |((with_reducible apply at_store (.tmp 2) (.tmp 6));refine wpList_store_row rfl 96 (.tmp 2) (.tmp 6) rfl w.heap.size #[.int .u64 x0,.int .u64 x1,.int .u64 x2,.slice A2 m2 c2'] rfl rfl 96 fz Z3.out (by kernel_rfl) rfl (by simp[Value.oneCell']) ?_;have R4:=jH (show Blk (w3.setRow w.heap.size #[.int .u64 x0,.int .u64 x1,.int .u64 x2,.slice A2 m2 c2']) (w.heap.size+1) [.int .i64 0] 3 from(setRow_other w3 w.heap.size (w.heap.size+1) _ (Nat.succ_ne_self _)).trans R3.out);have c4:=R4.out.cell (i:=0) rfl;have z4:=R4.out.frozen 0)
   |fail)
  refine leaves_cons (f:=164) (args:= #[.pointer (some ⟨w.heap.size+1,0,none⟩)]) (by simp) (by simp[go_sem]) ?_
  refine(caught_idle _ _).mono ?_
  rintro e u' w'' ⟨rfl,rfl,rfl⟩
  have b4:=(below_setRow (B:=w.heap.size) B3.out (jR _) #[.int .u64 x0,.int .u64 x1,.int .u64 x2,.slice A2 m2 c2']).setCell (p:=⟨w.heap.size+1,0,none⟩) (Nat.le_succ _) (.int .i64 0)
  exact⟨.tuple #[fieldV x0 x1 x2 A2 m2 c2',.int .i64 0],(by exact res_row_cell Tryz.results97 _ _ w.heap.size (w.heap.size+1) 96 _ (0,0) _ _ rfl rfl ((Below.heap_setCell _ _ _ _ (Nat.succ_ne_self _).symm).trans (setRow_heap _ w.heap.size _ _ _ (0,0) Z3.out)) Tryz.underlying96 rfl (by kernel_rfl) (load_code _ _ _ (R4.out.set_ 0 _))),b4,.inr ⟨trivial,A2,m2,c2',rfl,bytes_code (bytes_apart HY3.out Z3.out _) R4.out _,hl2,hm2⟩⟩
 ·go_enter_defers Tryz.func97,Tryz.ntmps97
  go_wp2_with(first
   |(go_at_call 98;(refine HV.out.mono ?_);rintro e w3 ⟨hb3,⟨_,rfl⟩|⟨he,_⟩⟩;rotate_left;(exact absurd he hz);have B3:=jH (b2.out.trans (hb3.mono b2.out.size));have Z3:=jH ((hb3.block _ (by rw[S2];omega)).trans Z2.out);have R3:=jH (R2.out.below hb3 (by rw[S2];omega));clear hb3)
   |fail)
  refine leaves_cons (f:=164) (args:= #[.pointer (some ⟨w.heap.size+1,0,none⟩)]) (by simp) (by simp[go_sem]) ?_
  refine(caught_halt _ cd 0 [] _ R3.out).mono ?_
  rintro e u' w'' ⟨rfl,rfl,rfl⟩
  have b4:=B3.out.setCell (p:=⟨w.heap.size+1,0,none⟩) (Nat.le_succ _) (.int .i64 cd)
  exact⟨.tuple #[.agg fz,.int .i64 cd],(by exact res_row_cell Tryz.results97 _ _ w.heap.size (w.heap.size+1) 96 _ (0,0) _ _ rfl rfl ((Below.heap_setCell _ _ _ _ (Nat.succ_ne_self _).symm).trans Z3.out) Tryz.underlying96 rfl (by kernel_rfl) (load_code _ _ _ (R3.out.set_ 0 _))),b4,.inl ⟨hz,rfl⟩⟩
theorem fieldAsk {gv:Nat}{h:HD}{A:Option Addr}{n c:Nat}{l:List Int}(a:Nat)(w:World)(v:ViewAt w gv h A n c l)(hcm:c≤maxLen):
 Calls Tryz.prog 44 #[.pointer (some ⟨gv,0,none⟩),.int .u64 (a:Int)] w fun e w'=>Below w.heap.size w w'∧AskF l a (fcode h l n a) e w':=by
 have b1:=jH ((Below.refl w.heap.size w).alloc (jR _) (.cells #[.pointer (some ⟨gv,0,none⟩)] 28))
 have b2:=jH (b1.out.alloc b1.out.size (.cells #[.int .u64 (a:Int)] 23))
 have b3:=jH (b2.out.alloc b2.out.size (.cells fz 96))
 have v3:=v.below b3.out
 have S1:(w.alloc (.cells #[.pointer (some ⟨gv,0,none⟩)] 28)).heap.size=w.heap.size+1:=by simp only[World.alloc,Array.size_push]
 have S2:((w.alloc (.cells #[.pointer (some ⟨gv,0,none⟩)] 28)).alloc (.cells #[.int .u64 (a:Int)] 23)).heap.size=w.heap.size+1+1:=by simp only[World.alloc,Array.size_push]
 have S3:(((w.alloc (.cells #[.pointer (some ⟨gv,0,none⟩)] 28)).alloc (.cells #[.int .u64 (a:Int)] 23)).alloc (.cells fz 96)).heap.size=w.heap.size+1+1+1:=by simp only[World.alloc,Array.size_push]
 have K1:=((Blk.new w [.pointer (some ⟨gv,0,none⟩)] 28).alloc (.cells #[.int .u64 (a:Int)] 23)).alloc (.cells fz 96)
 have K2:=(Blk.new_at (w.alloc (.cells #[.pointer (some ⟨gv,0,none⟩)] 28)) [.int .u64 (a:Int)] 23 _ S1).alloc (.cells fz 96)
 have HV:=jH (asked_any a w.heap.size (w.heap.size+1) _ v3 hcm K1 K2)
 have Z3:=jH (show(((w.alloc (.cells #[.pointer (some ⟨gv,0,none⟩)] 28)).alloc (.cells #[.int .u64 (a:Int)] 23)).alloc (.cells fz 96)).heap[w.heap.size+1+1]? =some (.cells fz 96 (0,0))from S2▸heap_alloc_new _ (.cells fz 96))
 have hfn: ∀(fn:Fn) (first cap:Array Value) (w:World),(Instr.makeFunc fn first cap).run Tryz.prog w= .ok (.func fn first cap) w:=fun _ _ _ _=>rfl
 unfold AskF at HV⊢
 generalize bnum l a 2 3 0=x0 at*
 generalize bnum l a 2 3 1=x1 at*
 generalize bnum l a 2 3 2=x2 at*
 generalize fcode h l n a=cd at*
 generalize bpay l a 2 3=pl at*
 clear v v3 K1 K2
 by_cases hz:cd=0
 ·subst hz
  go_enter Tryz.func44,Tryz.ntmps44
  go_wp2_with(first
   |(go_at_call 97;(refine HV.out.mono ?_);rintro e w4 ⟨hb4,⟨hne,_⟩|⟨_,A2,m2,c2',rfl,hy2,hl2,hm2⟩⟩;(exact absurd rfl hne);have B4:=jH (b3.out.trans (hb4.mono b3.out.size));have HY4:=jH hy2;have Z4:=jH ((hb4.block _ (by rw[S3];omega)).trans Z3.out);clear hb4 hy2)
   |((with_reducible apply at_store (.tmp 4) (.tmp 8));refine wpList_store_row rfl 96 (.tmp 4) (.tmp 8) rfl (w.heap.size+1+1) #[.int .u64 x0,.int .u64 x1,.int .u64 x2,.slice A2 m2 c2'] rfl rfl 96 fz Z4.out (by kernel_rfl) rfl (by simp[Value.oneCell']) ?_)
   |fail)
  refine bodyPost_ret (v:= .tuple #[fieldV x0 x1 x2 A2 m2 c2',.int .i64 0]) (by exact res_rowG Tryz.results44 _ _ (w.heap.size+1+1) 96 _ (0,0) _ _ rfl rfl (setRow_heap _ (w.heap.size+1+1) _ _ _ (0,0) Z4.out) Tryz.underlying96 rfl (by kernel_rfl)) rfl ?_
  have b5:=below_setRow (B:=w.heap.size) (g:=w.heap.size+1+1) B4.out (by omega) #[.int .u64 x0,.int .u64 x1,.int .u64 x2,.slice A2 m2 c2']
  exact⟨b5,.inr ⟨trivial,A2,m2,c2',rfl,bytes_apart HY4.out Z4.out _,hl2,hm2⟩⟩
 ·go_enter Tryz.func44,Tryz.ntmps44
  go_wp2_with(first
   |(go_at_call 97;(refine HV.out.mono ?_);rintro e w4 ⟨hb4,⟨_,rfl⟩|⟨he,_⟩⟩;rotate_left;(exact absurd he hz);have B4:=jH (b3.out.trans (hb4.mono b3.out.size));have Z4:=jH ((hb4.block _ (by rw[S3];omega)).trans Z3.out);clear hb4)
   |((with_reducible apply at_store (.tmp 4) (.tmp 8));refine wpList_store_row rfl 96 (.tmp 4) (.tmp 8) rfl (w.heap.size+1+1) fz rfl rfl 96 fz Z4.out (by kernel_rfl) rfl (by simp[Value.oneCell']) ?_)
   |fail)
  refine bodyPost_ret (v:= .tuple #[.agg fz,.int .i64 cd]) (by exact res_rowG Tryz.results44 _ _ (w.heap.size+1+1) 96 _ (0,0) _ _ rfl rfl (setRow_heap _ (w.heap.size+1+1) _ _ _ (0,0) Z4.out) Tryz.underlying96 rfl (by kernel_rfl)) rfl ?_
  have b5:=below_setRow (B:=w.heap.size) (g:=w.heap.size+1+1) B4.out (by omega) fz
  exact⟨b5,.inl ⟨hz,rfl⟩⟩
end Rf
namespace Rg
open Bytes8 Blk8 Own8 OwnE Rows2 Ob Ga Gb Gi Ok7 Rc Rd
open Kf Yp Yd Ye Yg Yh
open Re (bytes_code res_row_cell load_code)
theorem caught_idle (g3:Nat)(w:World):CallsD Tryz.prog 183 #[.pointer (some ⟨g3,0,none⟩)] .returning w fun e u' w'=>e= .returned (.tuple #[])∧u'= .returning∧w'=w:=by
 refine callsD_of_wpS Tryz.func183 rfl fun c₀ cs hu=>?_
 apply wpS_seq
 apply wpS_region
 simp[wpOpsS,go_sem,recoverD,hu,Tryz.ntmps183,Exit.thenS]
 refine wpS_of_wp ?_
 go_wp2
 cases c₀
 simp_all[bodyPostS,results,Tryz.results183]
theorem caught_halt (g3:Nat)(c y:Int)(older:List PanicEntry)(w:World)(h:Blk w g3 [.int .i64 y] 3):CallsD Tryz.prog 183 #[.pointer (some ⟨g3,0,none⟩)] (.panicking ({v:= .iface 205 (.int .i64 c),recovered:=false}::older)) w fun e u' w'=>e= .returned (.tuple #[])∧u'= .panicking ({v:= .iface 205 (.int .i64 c),recovered:=true}::older)∧w'=w.setCell ⟨g3,0,none⟩ (.int .i64 c):=by
 have c0:=h.cell (i:=0) rfl
 have z0:=h.frozen 0
 have hta: ∀w:World,(Instr.typeAssert (.iface 205 (.int .i64 c)) 20 205 true).run Tryz.prog w= .ok (.tuple #[.int .i64 c,.bool true]) w:=fun _=>by kernel_rfl
 refine callsD_of_wpS Tryz.func183 rfl fun c₀ cs hu=>?_
 apply wpS_seq
 apply wpS_region
 simp[wpOpsS,go_sem,recoverD,hu,Tryz.ntmps183,Exit.thenS]
 refine wpS_of_wp ?_
 go_wp2
 cases c₀
 simp_all[bodyPostS,results,Tryz.results183]
abbrev az:Array Value:= #[.int .u64 0,.slice none 0 0]
attribute [local irreducible] wpList Code.wp
theorem got_no (a:Int)(A:Option Addr)(n k:Nat)(cd:Int)(h0:cd≠0)(w:World):Calls Tryz.prog 129 #[arrV a A n k,.int .i64 cd] w fun e w'=>e= .panicked [haltE cd]∧Below w.heap.size w w':=by
 have HN:=jH (need_no cd)
 have d0:(cd==0)=false:=by simpa using h0
 have b2:=jH (((Below.refl w.heap.size w).alloc (jR _) (.cells #[.int .u64 a,.slice A n k] 141)).alloc (by simp) (.cells az 141))
 go_enter Tryz.func129,Tryz.ntmps129
 go_wp2_with(first
  |(go_at_call 117;(refine(HN.out _).mono ?_);rintro e w1 ⟨rfl,rfl⟩)
  |fail)
 exact⟨rfl,rfl,b2.out⟩
theorem got_yes (a:Int)(A:Option Addr)(n k:Nat)(w:World):Calls Tryz.prog 129 #[arrV a A n k,.int .i64 0] w fun e' w'=>e'= .returned (arrV a A n k)∧Below w.heap.size w w':=by
 have HN:=jH (need_yes 0)
 go_enter Tryz.func129,Tryz.ntmps129
 go_wp2_with(first
  |(go_at_call 117;(refine(HN.out _).mono ?_);rintro e w1 ⟨rfl,rfl⟩)
  |fail)
 refine bodyPost_ret (v:=arrV a A n k) (by exact results_cell_row Tryz.results129 _ _ (w.heap.size+1) 141 _ (0,0) _ rfl (heap_alloc2_new w _ _) Tryz.underlying141 rfl (by kernel_rfl)) rfl ?_
 exact⟨rfl,((Below.refl w.heap.size w).alloc (jR _) _).alloc (by simp) _⟩
def arcode (h:HD)(l:List Int)(n a:Nat):Int:=if h.N 0≤(a:Int)∧a<n then ecode l a 6 8 8 else 2
def ReadA (B:Nat)(l:List Int)(a:Nat)(cd:Int)(e:Ending)(w':World):Prop:=
 (cd≠0∧e= .panicked [haltE cd])∨(cd=0∧ ∃A' c',e= .returned (arrV (arX l a) A' (arM l a) c')∧InInts .u64 w' A' (arM l a) (arF (bodyL l a))∧NewIn B A')
theorem ints_off {k:IntKind}{w:World}{a:Option Addr}{n:Nat}{f:Nat→Int}(hi:InInts k w a n f){g:Nat}(hg: ∀b off,a=some ⟨b,off,none⟩→b≠g)(i:Nat)(v:Value):InInts k (w.setCell ⟨g,i,none⟩ v) a n f:=fun j hx=>by
 obtain⟨b,off,e,h1,h2,h3⟩:=hi j hx
 exact⟨b,off,e,by simpa using h1,(World.cell?_of_block (Below.heap_setCell w ⟨g,i,none⟩ v b (hg b off e))).trans h2,h3⟩
theorem new_ne {B:Nat}{A:Option Addr}(h:NewIn B A){g:Nat}(hg:g<B): ∀b off,A=some ⟨b,off,none⟩→b≠g:=fun b off e=>Nat.ne_of_gt (jL hg (h b off e))
theorem new_mono {B C:Nat}{A:Option Addr}(h:NewIn B A)(hc:C≤B):NewIn C A:=fun b off e=>Nat.le_trans hc (h b off e)
theorem varr_cl {gv:Nat}{h:HD}{A:Option Addr}{n c:Nat}{l:List Int}(a:Nat)(g2 g3:Nat)(w:World)(v:ViewAt w gv h A n c l)(hcm:c≤maxLen)(H2:Blk w g2 [.pointer (some ⟨gv,0,none⟩)] 28)(H3:Blk w g3 [.int .u64 (a:Int)] 23):
 Calls Tryz.prog 128 #[.pointer (some ⟨g2,0,none⟩),.pointer (some ⟨g3,0,none⟩)] w fun e w'=>Below w.heap.size w w'∧ReadA w.heap.size l a (arcode h l n a) e w':=by
 have b1:=jH ((Below.refl w.heap.size w).alloc (jR _) (.cells az 141))
 have v1:=v.below b1.out
 have v1d:ViewAt (w.alloc (.cells az 141)).drew gv h A n c l:=⟨v1.blk,v1.by_,v1.len,v1.cap,v1.big,v1.ok⟩
 have b1d:=jH b1.out.drew
 have G2:=jH (H2.alloc (.cells az 141))
 have G3:=jH (H3.alloc (.cells az 141))
 have s2:=jH G2.out.lt
 have s3:=jH G3.out.lt
 have Z1:=jH (heap_alloc_new w (.cells az 141))
 have s1:=jH (show w.heap.size<(w.alloc (.cells az 141)).heap.size by simp)
 have l2:=jH (Nat.ne_of_lt H2.lt)
 have l3:=jH (Nat.ne_of_lt H3.lt)
 by_cases hin:h.N 0≤(a:Int)∧a<n
 ·have HF:=jH (from_yes (a:Int) _ v1d hin.1 (by omega))
  have HR:=jH (readArray_n A l n c a _ v1d.by_ v1.len v1.big v1.cap hcm (by have:=v1.big;omega))
  unfold ArrTold2 at HR
  unfold ReadA arcode
  rw[if_pos hin]
  generalize arX l a=x0 at*
  generalize ecode l a 6 8 8=cd at*
  generalize arM l a=mm at*
  generalize arF (bodyL l a)=ff at*
  clear v v1 v1d hin H2 H3
  go_enter Tryz.func128,Tryz.ntmps128
  go_upto_region 1 with fail
  generalize w.alloc (.cells az 141)=w1 at*
  have t2:=G2.out.cell (i:=0) rfl
  have t3:=G3.out.cell (i:=0) rfl
  by_cases hz:cd=0
  ·subst hz
   go_region_held3 (fun W=>W.cell? ⟨g2,0,none⟩=some (.pointer (some ⟨gv,0,none⟩))∧W.cell? ⟨g3,0,none⟩=some (.int .u64 (a:Int))) (first|(with_reducible exact⟨t2,t3⟩)|(with_reducible exact⟨u2,u3⟩)|(with_reducible exact⟨p2,p3⟩)|(with_reducible exact⟨q2,q3⟩)|go_keep) (first
    |(go_at_call 101;(refine HF.out.mono ?_);rintro e wf ⟨rfl,rfl⟩)
    |(go_at_call 130;(refine HR.out.mono ?_);rintro e w2 ⟨A2,c2',rfl,hb2,hy2,hw2⟩;have B2:=jH (b1d.out.trans (hb2.mono b1d.out.size));have ZZ2:=jH ((hb2.block _ s1.out).trans Z1.out);have HY2:=jH hy2;have HW2:=jH (show NewIn w1.heap.size A2 from hw2);have U2:=jH (G2.out.drew.below hb2 s2.out);have U3:=jH (G3.out.drew.below hb2 s3.out);have u2:=U2.out.cell (i:=0) rfl;have u3:=U3.out.cell (i:=0) rfl;have B2s:=jH hb2.size;clear hb2 hy2 hw2)
    |(go_at_call 129;(refine(got_yes x0 A2 mm c2' w2).mono ?_);rintro e w3 ⟨rfl,hb3⟩;have B3:=jH (B2.out.trans (hb3.mono B2.out.size));have HY3:=jH (HY2.out.below hb3);have P2:=jH (U2.out.below hb3 U2.out.lt);have P3:=jH (U3.out.below hb3 U3.out.lt);have p2:=P2.out.cell (i:=0) rfl;have p3:=P3.out.cell (i:=0) rfl;have Z3:=jH ((hb3.block _ (jL s1.out B2s.out)).trans ZZ2.out);have R3:=jH (show Blk w3 w.heap.size [.int .u64 0,.slice none 0 0] 141 from Z3.out);have e0:=R3.out.cell (i:=0) rfl;have z0:=R3.out.frozen 0;have e1:=R3.out.cell (i:=1) rfl;have z1:=R3.out.frozen 1;have q2:=((P2.out.far (p:=⟨w.heap.size,0,none⟩) l2.out (.int .u64 x0)).far (p:=⟨w.heap.size,1,none⟩) l2.out (.slice A2 mm c2')).cell (i:=0) rfl;have q3:=((P3.out.far (p:=⟨w.heap.size,0,none⟩) l3.out (.int .u64 x0)).far (p:=⟨w.heap.size,1,none⟩) l3.out (.slice A2 mm c2')).cell (i:=0) rfl;clear hb3)
    |fail)
   have F4:=(R3.out.set_ 0 (.int .u64 x0)).set_ 1 (.slice A2 mm c2')
   have Y4:=ints_off (ints_off HY3.out (new_ne HW2.out s1.out) 0 (.int .u64 x0)) (new_ne HW2.out s1.out) 1 (.slice A2 mm c2')
   have b4:=(B3.out.setCell (p:=⟨w.heap.size,0,none⟩) (jR _) (.int .u64 x0)).setCell (p:=⟨w.heap.size,1,none⟩) (jR _) (.slice A2 mm c2')
   have N4:=new_mono HW2.out (Nat.le_of_lt s1.out)
   go_wp2_with fail
   refine bodyPost_ret (v:=arrV x0 A2 mm c2') (by exact results_cell_row Tryz.results128 _ _ w.heap.size 141 _ (0,0) _ rfl F4 Tryz.underlying141 rfl (by kernel_rfl)) rfl ?_
   exact⟨b4,A2,⟨c2',rfl⟩,Y4,N4⟩
  ·refine wp_region_held_drew (S:=fun W:World=>W.cell? ⟨g2,0,none⟩=some (.pointer (some ⟨gv,0,none⟩))∧W.cell? ⟨g3,0,none⟩=some (.int .u64 (a:Int))) (by kernel_rfl) (by exact⟨t2,t3⟩) (fun hHeld=>?_)
   refine tk (i:=0) (oi:=⟨some 3,_,_,_,_,_⟩) (v:=?_) rfl (Or.inl ⟨by rfl,?_⟩) ?_
   rotate_left
   ·intro W hSw;obtain⟨x0,x1⟩:=hSw;go_simp;try (with_reducible rfl)
   try simp only[Act.put,sA,sZ,sS]
   refine tk (i:=1) (oi:=⟨some 4,_,_,_,_,_⟩) (v:=?_) rfl (Or.inl ⟨by rfl,?_⟩) ?_
   rotate_left
   ·intro W hSw;obtain⟨x0,x1⟩:=hSw;go_simp;try (with_reducible rfl)
   try simp only[Act.put,sA,sZ,sS]
   refine tk (i:=3) (oi:=⟨some 6,_,_,_,_,_⟩) (v:=?_) rfl (Or.inl ⟨by rfl,?_⟩) ?_
   rotate_left
   ·intro W hSw;obtain⟨x0,x1⟩:=hSw;go_simp;try (with_reducible rfl)
   try simp only[Act.put,sA,sZ,sS]
   refine wpAnyH_ready (rs:=[2]) (by kernel_rfl) (by simp) ?_
   refine AllReadyH.cons (o:=⟨some 5,_,_,_,_,_⟩) rfl (fun K hK=>?_) AllReadyH.nil
   go_simp
   ((refine HF.out.mono ?_);rintro e wf ⟨rfl,rfl⟩)
   try go_wp2_with fail
   refine hK.out _ _ (by exact⟨t2,t3⟩) (fun hHeld=>?_)
   clear hK K
   try simp only[Act.put,sA,sZ,sS]
   refine wpAnyH_ready (rs:=[4]) (by kernel_rfl) (by simp) ?_
   refine AllReadyH.cons (o:=⟨some 7,_,_,_,_,_⟩) rfl (fun K hK=>?_) AllReadyH.nil
   go_simp
   ((refine HR.out.mono ?_);rintro e w2 ⟨A2,c2',rfl,hb2,hy2,hw2⟩;have B2:=jH (b1d.out.trans (hb2.mono b1d.out.size));have U2:=jH (G2.out.drew.below hb2 s2.out);have U3:=jH (G3.out.drew.below hb2 s3.out);have u2:=U2.out.cell (i:=0) rfl;have u3:=U3.out.cell (i:=0) rfl;clear hb2 hy2 hw2)
   try go_wp2_with fail
   refine hK.out _ _ (by exact⟨u2,u3⟩) (fun hHeld=>?_)
   clear hK K
   try simp only[Act.put,sA,sZ,sS]
   refine tk (i:=5) (oi:=⟨some 8,_,_,_,_,_⟩) (v:=?_) rfl (Or.inl ⟨by rfl,?_⟩) ?_
   rotate_left
   ·intro W hSw;obtain⟨x0,x1⟩:=hSw;go_simp;try (with_reducible rfl)
   try simp only[Act.put,sA,sZ,sS]
   refine tk (i:=6) (oi:=⟨some 9,_,_,_,_,_⟩) (v:=?_) rfl (Or.inl ⟨by rfl,?_⟩) ?_
   rotate_left
   ·intro W hSw;obtain⟨x0,x1⟩:=hSw;go_simp;try (with_reducible rfl)
   try simp only[Act.put,sA,sZ,sS]
   refine wpAnyH_ready (rs:=[7]) (by kernel_rfl) (by simp) ?_
   refine AllReadyH.cons (o:=⟨some 10,_,_,_,_,_⟩) rfl (fun K hK=>?_) AllReadyH.nil
   go_simp
   ((refine(got_no x0 A2 mm c2' cd hz w2).mono ?_);rintro e w3 ⟨rfl,hb3⟩;have B3:=jH (B2.out.trans (hb3.mono B2.out.size));clear hb3;exact⟨rfl,B3.out,.inl ⟨hz,rfl⟩⟩)
 ·have HF:=jH (from_no (a:Int) _ v1d (by omega))
  unfold ReadA arcode
  rw[if_neg hin]
  generalize arX l a=x0 at*
  generalize arM l a=mm at*
  generalize arF (bodyL l a)=ff at*
  clear v v1 v1d H2 H3
  go_enter Tryz.func128,Tryz.ntmps128
  go_upto_region 1 with fail
  generalize w.alloc (.cells az 141)=w1 at*
  have t2:=G2.out.cell (i:=0) rfl
  have t3:=G3.out.cell (i:=0) rfl
  refine wp_region_held_drew (S:=fun W:World=>W.cell? ⟨g2,0,none⟩=some (.pointer (some ⟨gv,0,none⟩))∧W.cell? ⟨g3,0,none⟩=some (.int .u64 (a:Int))) (by kernel_rfl) (by exact⟨t2,t3⟩) (fun hHeld=>?_)
  refine tk (i:=0) (oi:=⟨some 3,_,_,_,_,_⟩) (v:=?_) rfl (Or.inl ⟨by rfl,?_⟩) ?_
  rotate_left
  ·intro W hSw;obtain⟨x0,x1⟩:=hSw;go_simp;try (with_reducible rfl)
  try simp only[Act.put,sA,sZ,sS]
  refine tk (i:=1) (oi:=⟨some 4,_,_,_,_,_⟩) (v:=?_) rfl (Or.inl ⟨by rfl,?_⟩) ?_
  rotate_left
  ·intro W hSw;obtain⟨x0,x1⟩:=hSw;go_simp;try (with_reducible rfl)
  try simp only[Act.put,sA,sZ,sS]
  refine tk (i:=3) (oi:=⟨some 6,_,_,_,_,_⟩) (v:=?_) rfl (Or.inl ⟨by rfl,?_⟩) ?_
  rotate_left
  ·intro W hSw;obtain⟨x0,x1⟩:=hSw;go_simp;try (with_reducible rfl)
  try simp only[Act.put,sA,sZ,sS]
  refine wpAnyH_ready (rs:=[2]) (by kernel_rfl) (by simp) ?_
  refine AllReadyH.cons (o:=⟨some 5,_,_,_,_,_⟩) rfl (fun K hK=>?_) AllReadyH.nil
  go_simp
  ((refine HF.out.mono ?_);rintro e wf ⟨rfl,rfl⟩;exact⟨rfl,b1d.out,.inl ⟨by decide,rfl⟩⟩)
def AskA (B:Nat)(l:List Int)(a:Nat)(cd:Int)(e:Ending)(w':World):Prop:=
 (cd≠0∧e= .returned (.tuple #[.agg az,.int .i64 cd]))∨(cd=0∧ ∃A' c',e= .returned (.tuple #[arrV (arX l a) A' (arM l a) c',.int .i64 0])∧InInts .u64 w' A' (arM l a) (arF (bodyL l a))∧NewIn B A')
theorem asked_any {gv:Nat}{h:HD}{A:Option Addr}{n c:Nat}{l:List Int}(a:Nat)(g2 g3:Nat)(w:World)(v:ViewAt w gv h A n c l)(hcm:c≤maxLen)(H2:Blk w g2 [.pointer (some ⟨gv,0,none⟩)] 28)(H3:Blk w g3 [.int .u64 (a:Int)] 23):
 Calls Tryz.prog 127 #[.func (.func 128) #[] #[.pointer (some ⟨g2,0,none⟩),.pointer (some ⟨g3,0,none⟩)]] w fun e w'=>Below w.heap.size w w'∧AskA w.heap.size l a (arcode h l n a) e w':=by
 have b1:=jH ((Below.refl w.heap.size w).alloc (jR _) (.cells az 141))
 have b2:=jH (b1.out.alloc b1.out.size (.cells #[.int .i64 0] 3))
 have v2:=v.below b2.out
 have HV:=jH (varr_cl a g2 g3 _ v2 hcm (H2.below b2.out H2.lt) (H3.below b2.out H3.lt))
 have S1:(w.alloc (.cells az 141)).heap.size=w.heap.size+1:=by simp only[World.alloc,Array.size_push]
 have S2:((w.alloc (.cells az 141)).alloc (.cells #[.int .i64 0] 3)).heap.size=w.heap.size+1+1:=by simp only[World.alloc,Array.size_push]
 have Z2:=jH ((Below.heap_alloc (w.alloc (.cells az 141)) (.cells #[.int .i64 0] 3) w.heap.size (by rw[S1];omega)).trans (heap_alloc_new w (.cells az 141)))
 have R2:=jH (Blk.new_at (w.alloc (.cells az 141)) [.int .i64 0] 3 _ S1)
 have hfn: ∀(fn:Fn) (first cap:Array Value) (w:World),(Instr.makeFunc fn first cap).run Tryz.prog w= .ok (.func fn first cap) w:=fun _ _ _ _=>rfl
 unfold ReadA at HV
 unfold AskA
 generalize arX l a=x0 at*
 generalize arcode h l n a=cd at*
 generalize arM l a=mm at*
 generalize arF (bodyL l a)=ff at*
 clear v v2 H2 H3
 by_cases hz:cd=0
 ·subst hz
  go_enter_defers Tryz.func127,Tryz.ntmps127
  go_wp2_with(first
   |(go_at_call 128;(refine HV.out.mono ?_);rintro e w3 ⟨hb3,⟨hne,_⟩|⟨_,A2,c2',rfl,hy2,hw2⟩⟩;(exact absurd rfl hne);have B3:=jH (b2.out.trans (hb3.mono b2.out.size));have HY3:=jH hy2;have HW3:=jH (show NewIn (w.heap.size+1+1) A2 from S2▸hw2);have Z3:=jH ((hb3.block _ (by rw[S2];omega)).trans Z2.out);have R3:=jH (R2.out.below hb3 (by rw[S2];omega));clear hb3 hy2 hw2)
   |((with_reducible apply at_store (.tmp 2) (.tmp 6));refine wpList_store_row rfl 141 (.tmp 2) (.tmp 6) rfl w.heap.size #[.int .u64 x0,.slice A2 mm c2'] rfl rfl 141 az Z3.out (by kernel_rfl) rfl (by simp[Value.oneCell']) ?_;have R4:=jH (show Blk (w3.setRow w.heap.size #[.int .u64 x0,.slice A2 mm c2']) (w.heap.size+1) [.int .i64 0] 3 from(setRow_other w3 w.heap.size (w.heap.size+1) _ (Nat.succ_ne_self _)).trans R3.out);have c4:=R4.out.cell (i:=0) rfl;have z4:=R4.out.frozen 0)
   |fail)
  refine leaves_cons (f:=183) (args:= #[.pointer (some ⟨w.heap.size+1,0,none⟩)]) (by simp) (by simp[go_sem]) ?_
  refine(caught_idle _ _).mono ?_
  rintro e u' w'' ⟨rfl,rfl,rfl⟩
  have b4:=(below_setRow (B:=w.heap.size) B3.out (jR _) #[.int .u64 x0,.slice A2 mm c2']).setCell (p:=⟨w.heap.size+1,0,none⟩) (Nat.le_succ _) (.int .i64 0)
  exact⟨.tuple #[arrV x0 A2 mm c2',.int .i64 0],(by exact res_row_cell Tryz.results127 _ _ w.heap.size (w.heap.size+1) 141 _ (0,0) _ _ rfl rfl ((Below.heap_setCell _ _ _ _ (Nat.succ_ne_self _).symm).trans (setRow_heap _ w.heap.size _ _ _ (0,0) Z3.out)) Tryz.underlying141 rfl (by kernel_rfl) (load_code _ _ _ (R4.out.set_ 0 _))),b4,.inr ⟨trivial,A2,c2',rfl,ints_off (InInts.setRow HY3.out (new_ne HW3.out (by omega)) _) (new_ne HW3.out (by omega)) _ _,new_mono HW3.out (by omega)⟩⟩
 ·go_enter_defers Tryz.func127,Tryz.ntmps127
  go_wp2_with(first
   |(go_at_call 128;(refine HV.out.mono ?_);rintro e w3 ⟨hb3,⟨_,rfl⟩|⟨he,_⟩⟩;rotate_left;(exact absurd he hz);have B3:=jH (b2.out.trans (hb3.mono b2.out.size));have Z3:=jH ((hb3.block _ (by rw[S2];omega)).trans Z2.out);have R3:=jH (R2.out.below hb3 (by rw[S2];omega));clear hb3)
   |fail)
  refine leaves_cons (f:=183) (args:= #[.pointer (some ⟨w.heap.size+1,0,none⟩)]) (by simp) (by simp[go_sem]) ?_
  refine(caught_halt _ cd 0 [] _ R3.out).mono ?_
  rintro e u' w'' ⟨rfl,rfl,rfl⟩
  have b4:=B3.out.setCell (p:=⟨w.heap.size+1,0,none⟩) (Nat.le_succ _) (.int .i64 cd)
  exact⟨.tuple #[.agg az,.int .i64 cd],(by exact res_row_cell Tryz.results127 _ _ w.heap.size (w.heap.size+1) 141 _ (0,0) _ _ rfl rfl ((Below.heap_setCell _ _ _ _ (Nat.succ_ne_self _).symm).trans Z3.out) Tryz.underlying141 rfl (by kernel_rfl) (load_code _ _ _ (R3.out.set_ 0 _))),b4,.inl ⟨hz,rfl⟩⟩
theorem arrAsk {gv:Nat}{h:HD}{A:Option Addr}{n c:Nat}{l:List Int}(a:Nat)(w:World)(v:ViewAt w gv h A n c l)(hcm:c≤maxLen):
 Calls Tryz.prog 65 #[.pointer (some ⟨gv,0,none⟩),.int .u64 (a:Int)] w fun e w'=>Below w.heap.size w w'∧AskA w.heap.size l a (arcode h l n a) e w':=by
 have b1:=jH ((Below.refl w.heap.size w).alloc (jR _) (.cells #[.pointer (some ⟨gv,0,none⟩)] 28))
 have b2:=jH (b1.out.alloc b1.out.size (.cells #[.int .u64 (a:Int)] 23))
 have b3:=jH (b2.out.alloc b2.out.size (.cells az 141))
 have v3:=v.below b3.out
 have S1:(w.alloc (.cells #[.pointer (some ⟨gv,0,none⟩)] 28)).heap.size=w.heap.size+1:=by simp only[World.alloc,Array.size_push]
 have S2:((w.alloc (.cells #[.pointer (some ⟨gv,0,none⟩)] 28)).alloc (.cells #[.int .u64 (a:Int)] 23)).heap.size=w.heap.size+1+1:=by simp only[World.alloc,Array.size_push]
 have S3:(((w.alloc (.cells #[.pointer (some ⟨gv,0,none⟩)] 28)).alloc (.cells #[.int .u64 (a:Int)] 23)).alloc (.cells az 141)).heap.size=w.heap.size+1+1+1:=by simp only[World.alloc,Array.size_push]
 have K1:=((Blk.new w [.pointer (some ⟨gv,0,none⟩)] 28).alloc (.cells #[.int .u64 (a:Int)] 23)).alloc (.cells az 141)
 have K2:=(Blk.new_at (w.alloc (.cells #[.pointer (some ⟨gv,0,none⟩)] 28)) [.int .u64 (a:Int)] 23 _ S1).alloc (.cells az 141)
 have HV:=jH (asked_any a w.heap.size (w.heap.size+1) _ v3 hcm K1 K2)
 have Z3:=jH (show(((w.alloc (.cells #[.pointer (some ⟨gv,0,none⟩)] 28)).alloc (.cells #[.int .u64 (a:Int)] 23)).alloc (.cells az 141)).heap[w.heap.size+1+1]? =some (.cells az 141 (0,0))from S2▸heap_alloc_new _ (.cells az 141))
 have hfn: ∀(fn:Fn) (first cap:Array Value) (w:World),(Instr.makeFunc fn first cap).run Tryz.prog w= .ok (.func fn first cap) w:=fun _ _ _ _=>rfl
 unfold AskA at HV⊢
 generalize arX l a=x0 at*
 generalize arcode h l n a=cd at*
 generalize arM l a=mm at*
 generalize arF (bodyL l a)=ff at*
 clear v v3 K1 K2
 by_cases hz:cd=0
 ·subst hz
  go_enter Tryz.func65,Tryz.ntmps65
  go_wp2_with(first
   |(go_at_call 127;(refine HV.out.mono ?_);rintro e w4 ⟨hb4,⟨hne,_⟩|⟨_,A2,c2',rfl,hy2,hw2⟩⟩;(exact absurd rfl hne);have B4:=jH (b3.out.trans (hb4.mono b3.out.size));have HY4:=jH hy2;have HW4:=jH (show NewIn (w.heap.size+1+1+1) A2 from S3▸hw2);have Z4:=jH ((hb4.block _ (by rw[S3];omega)).trans Z3.out);clear hb4 hy2 hw2)
   |((with_reducible apply at_store (.tmp 4) (.tmp 8));refine wpList_store_row rfl 141 (.tmp 4) (.tmp 8) rfl (w.heap.size+1+1) #[.int .u64 x0,.slice A2 mm c2'] rfl rfl 141 az Z4.out (by kernel_rfl) rfl (by simp[Value.oneCell']) ?_)
   |fail)
  refine bodyPost_ret (v:= .tuple #[arrV x0 A2 mm c2',.int .i64 0]) (by exact res_rowG Tryz.results65 _ _ (w.heap.size+1+1) 141 _ (0,0) _ _ rfl rfl (setRow_heap _ (w.heap.size+1+1) _ _ _ (0,0) Z4.out) Tryz.underlying141 rfl (by kernel_rfl)) rfl ?_
  have b5:=below_setRow (B:=w.heap.size) (g:=w.heap.size+1+1) B4.out (by omega) #[.int .u64 x0,.slice A2 mm c2']
  exact⟨b5,.inr ⟨trivial,A2,c2',rfl,InInts.setRow HY4.out (new_ne HW4.out (by omega)) _,new_mono HW4.out (by omega)⟩⟩
 ·go_enter Tryz.func65,Tryz.ntmps65
  go_wp2_with(first
   |(go_at_call 127;(refine HV.out.mono ?_);rintro e w4 ⟨hb4,⟨_,rfl⟩|⟨he,_⟩⟩;rotate_left;(exact absurd he hz);have B4:=jH (b3.out.trans (hb4.mono b3.out.size));have Z4:=jH ((hb4.block _ (by rw[S3];omega)).trans Z3.out);clear hb4)
   |((with_reducible apply at_store (.tmp 4) (.tmp 8));refine wpList_store_row rfl 141 (.tmp 4) (.tmp 8) rfl (w.heap.size+1+1) az rfl rfl 141 az Z4.out (by kernel_rfl) rfl (by simp[Value.oneCell']) ?_)
   |fail)
  refine bodyPost_ret (v:= .tuple #[.agg az,.int .i64 cd]) (by exact res_rowG Tryz.results65 _ _ (w.heap.size+1+1) 141 _ (0,0) _ _ rfl rfl (setRow_heap _ (w.heap.size+1+1) _ _ _ (0,0) Z4.out) Tryz.underlying141 rfl (by kernel_rfl)) rfl ?_
  have b5:=below_setRow (B:=w.heap.size) (g:=w.heap.size+1+1) B4.out (by omega) az
  exact⟨b5,.inl ⟨hz,rfl⟩⟩
end Rg
namespace Rh
open Blk8 Own8 OwnE Ga Gb Ok7 Rc
open Kf Ye Yg Yh
open Re (bytes_code res_row_cell load_code)
attribute [local irreducible] wpList Code.wp
theorem gote_no (cs:Array Value)(cd:Int)(h0:cd≠0)(w:World):Calls Tryz.prog 181 #[.agg cs,.int .i64 cd] w fun e w'=>e= .panicked [haltE cd]∧Below w.heap.size w w':=by
 have HN:=jH (need_no cd)
 have d0:(cd==0)=false:=by simpa using h0
 have b2:=jH (((Below.refl w.heap.size w).alloc (jR _) (.cells cs 132)).alloc (by simp) (zC 132))
 go_enter Tryz.func181,Tryz.ntmps181
 go_wp2_with(first
  |(go_at_call 117;(refine(HN.out _).mono ?_);rintro e w1 ⟨rfl,rfl⟩)
  |fail)
 exact⟨rfl,rfl,b2.out⟩
theorem gote_yes (cs:Array Value)(hs:cs.size=21)(h1:cs.all (·.oneCell')=true)(w:World):Calls Tryz.prog 181 #[.agg cs,.int .i64 0] w fun e' w'=>e'= .returned (.agg cs)∧Below w.heap.size w w':=by
 have HN:=jH (need_yes 0)
 have hinfo:(Tryz.prog.info? 132).map (·.size)=some cs.size:=by rw[entInfo,hs]
 have S1:(w.alloc (.cells cs 132)).heap.size=w.heap.size+1:=by simp only[World.alloc,Array.size_push]
 have Za:=jH (show((w.alloc (.cells cs 132)).alloc (zC 132)).heap[w.heap.size]? =some (.cells cs 132 (0,0))from(Below.heap_alloc _ _ w.heap.size (by rw[S1];omega)).trans (heap_alloc_new w (.cells cs 132)))
 have Zb:=jH (show((w.alloc (.cells cs 132)).alloc (zC 132)).heap[w.heap.size+1]? =some (.cells zL.toArray 132 (0,0))from heap_alloc2_new w _ _)
 have b2:=jH (((Below.refl w.heap.size w).alloc (jR _) (.cells cs 132)).alloc (by simp) (zC 132))
 have HI:=jH hinfo
 have H1:=jH h1
 have HS:=jH (show zL.toArray.size=cs.size from hs.symm)
 clear hinfo h1 hs
 go_enter Tryz.func181,Tryz.ntmps181
 go_wp2_with(first
  |(go_at_call 117;(refine(HN.out _).mono ?_);rintro e w1 ⟨rfl,rfl⟩)
  |(refine wpList_load_row rfl 132 (.tmp 2) rfl w.heap.size rfl 132 cs (0,0) _ Za.out Tryz.underlying132 rfl HI.out ?_)
  |((with_reducible apply at_store (.tmp 4) (.tmp 9));refine wpList_store_row rfl 132 (.tmp 4) (.tmp 9) rfl (w.heap.size+1) cs rfl rfl 132 zL.toArray Zb.out HI.out HS.out H1.out ?_)
  |fail)
 refine bodyPost_ret (v:= .agg cs) (by exact results_cell_row Tryz.results181 _ _ (w.heap.size+1) 132 _ (0,0) _ rfl (setRow_heap _ (w.heap.size+1) _ _ _ (0,0) Zb.out) Tryz.underlying132 rfl HI.out) rfl ?_
 exact⟨rfl,below_setRow b2.out (by omega) cs⟩
end Rh
end Go.Proofs.YtelmgldkgccecaaGreat
