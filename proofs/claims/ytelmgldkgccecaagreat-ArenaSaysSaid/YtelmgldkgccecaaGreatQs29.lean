/-
  Texts beneath the proof.
-/
import Derived.Test.YtelmgldkgccecaaGreatQs1
import Derived.Recover
import Derived.Defers
import Derived.BigRegion
import Derived.Test.YtelmgldkgccecaaGreatQs28
import Derived.Test.YtelmgldkgccecaaGreatQs27
import Derived.Test.YtelmgldkgccecaaGreatQs6
set_option linter.unusedVariables false
set_option linter.unusedSimpArgs false
set_option maxRecDepth 100000
set_option maxHeartbeats 4000000
open Go.ChangeShapes Go.WideShapes Go.ChangeAt Go.RowKit
namespace Go.Proofs.YtelmgldkgccecaaGreat
namespace Ri
open Bytes8 Blk8 Own8 OwnE Rows2 Ob Ga Gb Gi Ok7 Rc
open Kf Yc Yp Yd Ye Yg Yh Rh
open Re (res_row_cell load_code)
abbrev ez:Array Value:=zL.toArray
theorem new_ne {B:Nat}{A:Option Addr}(h:NewIn B A){g:Nat}(hg:g<B): ∀b off,A=some ⟨b,off,none⟩→b≠g:=fun b off e=>Nat.ne_of_gt (jL hg (h b off e))
theorem new_mono {B C:Nat}{A:Option Addr}(h:NewIn B A)(hc:C≤B):NewIn C A:=fun b off e=>Nat.le_trans hc (h b off e)
theorem in2_off {w:World}{a:Option Addr}{n:Nat}{f h:Nat→Int}(hi:In2 w a n f h){g:Nat}(hg: ∀b off,a=some ⟨b,off,none⟩→b≠g)(k:Nat)(v:Value):In2 (w.setCell ⟨g,k,none⟩ v) a n f h:=fun i hx=>by
 obtain⟨b,off,e,h1,h2,h3,h4⟩:=hi i hx
 have hc:=Below.heap_setCell w ⟨g,k,none⟩ v b (hg b off e)
 exact⟨b,off,e,by simpa using h1,(World.cell?_of_block hc).trans h2,(World.cell?_of_block hc).trans h3,h4⟩
theorem caught_idle (g3:Nat)(w:World):CallsD Tryz.prog 180 #[.pointer (some ⟨g3,0,none⟩)] .returning w fun e u' w'=>e= .returned (.tuple #[])∧u'= .returning∧w'=w:=by
 refine callsD_of_wpS Tryz.func180 rfl fun c₀ cs hu=>?_
 apply wpS_seq
 apply wpS_region
 simp[wpOpsS,go_sem,recoverD,hu,Tryz.ntmps180,Exit.thenS]
 refine wpS_of_wp ?_
 go_wp2
 cases c₀
 simp_all[bodyPostS,results,Tryz.results180]
theorem caught_halt (g3:Nat)(c y:Int)(older:List PanicEntry)(w:World)(h:Blk w g3 [.int .i64 y] 3):CallsD Tryz.prog 180 #[.pointer (some ⟨g3,0,none⟩)] (.panicking ({v:= .iface 205 (.int .i64 c),recovered:=false}::older)) w fun e u' w'=>e= .returned (.tuple #[])∧u'= .panicking ({v:= .iface 205 (.int .i64 c),recovered:=true}::older)∧w'=w.setCell ⟨g3,0,none⟩ (.int .i64 c):=by
 have c0:=h.cell (i:=0) rfl
 have z0:=h.frozen 0
 have hta: ∀w:World,(Instr.typeAssert (.iface 205 (.int .i64 c)) 20 205 true).run Tryz.prog w= .ok (.tuple #[.int .i64 c,.bool true]) w:=fun _=>by kernel_rfl
 refine callsD_of_wpS Tryz.func180 rfl fun c₀ cs hu=>?_
 apply wpS_seq
 apply wpS_region
 simp[wpOpsS,go_sem,recoverD,hu,Tryz.ntmps180,Exit.thenS]
 refine wpS_of_wp ?_
 go_wp2
 cases c₀
 simp_all[bodyPostS,results,Tryz.results180]
attribute [local irreducible] wpList Code.wp
def ecode9 (h:HD)(l:List Int)(n a:Nat):Int:=if h.N 0≤(a:Int)∧a<n then entC0 l a else 2
theorem vent_out {gv:Nat}{h:HD}{A:Option Addr}{n c:Nat}{l:List Int}(a:Nat)(w:World)(v:ViewAt w gv h A n c l)(h1: ¬(h.N 0≤(a:Int)∧a<n)):
 Calls Tryz.prog 125 #[.pointer (some ⟨gv,0,none⟩),.int .u64 (a:Int)] w fun e w'=>e= .panicked [haltE 2]∧Below w.heap.size w w':=by
 have HF:=jH (from_no (a:Int) _ (v.below ((Below.refl _ _).alloc (jR _) (.cells ez 132))) (by omega))
 have b1:=jH ((Below.refl w.heap.size w).alloc (jR _) (.cells ez 132))
 clear v h1
 go_enter Tryz.func125,Tryz.ntmps125
 go_wp2_with(first
  |(go_at_call 101;(refine HF.out.mono ?_);rintro e w1 ⟨rfl,rfl⟩)
  |fail)
 exact⟨rfl,rfl,b1.out⟩
theorem vent_in {gv:Nat}{h:HD}{A:Option Addr}{n c:Nat}{l:List Int}(a:Nat)(w:World)(v:ViewAt w gv h A n c l)(hcm:c≤maxLen)(h1:h.N 0≤(a:Int)∧a<n):
 Calls Tryz.prog 125 #[.pointer (some ⟨gv,0,none⟩),.int .u64 (a:Int)] w fun e w'=>Below w.heap.size w w'∧
  ((entC0 l a≠0∧e= .panicked [haltE (entC0 l a)])∨(entC0 l a=0∧ ∃A' c',e= .returned (entV (eNum l a 0) (eNum l a 8) (eNum l a 16) (eK l a) (eNum l a 40) A' (eN l a) c')∧In2 w' A' (eN l a) (itA (bodyL l a)) (itH (bodyL l a))∧NewIn w.heap.size A')):=by
 have v1:=v.below ((Below.refl _ _).alloc (jR _) (.cells ez 132))
 have HF:=jH (from_yes (a:Int) _ v1 h1.1 (by omega))
 have HR:=jH (read_e_n A l n c a _ v1.by_ v1.len v1.big v1.cap hcm (by have:=v.big;omega))
 have b1:=jH ((Below.refl w.heap.size w).alloc (jR _) (.cells ez 132))
 have Z1:=jH (heap_alloc_new w (.cells ez 132))
 have s1:=jH (show w.heap.size<(w.alloc (.cells ez 132)).heap.size by simp)
 unfold EntTold2 at HR
 generalize eNum l a 0=s0 at*
 generalize eNum l a 8=s8 at*
 generalize eNum l a 16=s16 at*
 generalize eNum l a 40=s40 at*
 generalize eK l a=kk at*
 generalize eN l a=mm at*
 generalize itA (bodyL l a)=fa at*
 generalize entC0 l a=cd at*
 generalize itH (bodyL l a)=fh at*
 clear v v1 h1
 by_cases hz:cd=0
 ·subst hz
  go_enter Tryz.func125,Tryz.ntmps125
  go_wp2_with(first
   |(go_at_call 101;(refine HF.out.mono ?_);rintro e w1 ⟨rfl,rfl⟩)
   |(go_at_call 182;(refine HR.out.mono ?_);rintro e w2 ⟨A2,c2,rfl,hb2,hy2,hw2⟩;have B2:=jH hb2;have HY2:=jH hy2;have HW2:=jH hw2;clear hb2 hy2 hw2)
   |(go_at_call 181;(refine(gote_yes (entL s0 s8 s16 kk s40 A2 mm c2).toArray rfl (ent_one _ _ _ _ _ _ _ _) w2).mono ?_);rintro e w3 ⟨rfl,hb3⟩;have B3:=jH (B2.out.trans (hb3.mono B2.out.size));have HY3:=jH (HY2.out.keep hb3);have Z3:=jH ((B3.out.block _ s1.out).trans Z1.out);clear hb3)
   |((with_reducible apply at_store (.tmp 4) (.tmp 12));refine wpList_store_row rfl 132 (.tmp 4) (.tmp 12) rfl w.heap.size (entL s0 s8 s16 kk s40 A2 mm c2).toArray rfl rfl 132 ez Z3.out (by kernel_rfl) rfl (by first|exact ent_one _ _ _ _ _ _ _ _|exact z_one) ?_)
   |fail)
  refine bodyPost_ret (v:=entV s0 s8 s16 kk s40 A2 mm c2) (by exact results_cell_row Tryz.results125 _ _ w.heap.size 132 _ (0,0) _ rfl (setRow_heap _ w.heap.size _ _ _ (0,0) Z3.out) Tryz.underlying132 rfl (by kernel_rfl)) rfl ?_
  have b4:=below_setRow (B:=w.heap.size) (b1.out.trans (B3.out.mono b1.out.size)) (jR _) (entL s0 s8 s16 kk s40 A2 mm c2).toArray
  exact⟨b4,.inr ⟨trivial,A2,c2,rfl,In2.setRow HY3.out (new_ne HW2.out s1.out) _,new_mono HW2.out (Nat.le_of_lt s1.out)⟩⟩
 ·go_enter Tryz.func125,Tryz.ntmps125
  go_wp2_with(first
   |(go_at_call 101;(refine HF.out.mono ?_);rintro e w1 ⟨rfl,rfl⟩)
   |(go_at_call 182;(refine HR.out.mono ?_);rintro e w2 ⟨A2,c2,rfl,hb2,hy2,hw2⟩;have B2:=jH (b1.out.trans (hb2.mono b1.out.size));clear hb2 hy2)
   |(go_at_call 181;(refine(gote_no (entL s0 s8 s16 kk s40 A2 mm c2).toArray cd hz w2).mono ?_);rintro e w3 ⟨rfl,hb3⟩;have B3:=jH (B2.out.trans (hb3.mono B2.out.size));clear hb3)
   |fail)
  exact⟨rfl,B3.out,.inl ⟨hz,rfl⟩⟩
def ReadE (B:Nat)(l:List Int)(a:Nat)(cd:Int)(e:Ending)(w':World):Prop:=
 (cd≠0∧e= .panicked [haltE cd])∨(cd=0∧ ∃A' c',e= .returned (entV (eNum l a 0) (eNum l a 8) (eNum l a 16) (eK l a) (eNum l a 40) A' (eN l a) c')∧In2 w' A' (eN l a) (itA (bodyL l a)) (itH (bodyL l a))∧NewIn B A')
theorem vent_any {gv:Nat}{h:HD}{A:Option Addr}{n c:Nat}{l:List Int}(a:Nat)(w:World)(v:ViewAt w gv h A n c l)(hcm:c≤maxLen):
 Calls Tryz.prog 125 #[.pointer (some ⟨gv,0,none⟩),.int .u64 (a:Int)] w fun e w'=>Below w.heap.size w w'∧ReadE w.heap.size l a (ecode9 h l n a) e w':=by
 unfold ReadE ecode9
 by_cases h1:h.N 0≤(a:Int)∧a<n
 ·rw[if_pos h1]
  exact vent_in a w v hcm h1
 ·rw[if_neg h1]
  refine(vent_out a w v h1).mono ?_
  rintro e w' ⟨rfl,hb⟩
  exact⟨hb,.inl ⟨by decide,rfl⟩⟩
theorem vent_cl {gv:Nat}{h:HD}{A:Option Addr}{n c:Nat}{l:List Int}(a:Nat)(g2 g3:Nat)(w:World)(v:ViewAt w gv h A n c l)(hcm:c≤maxLen)(H2:Blk w g2 [.pointer (some ⟨gv,0,none⟩)] 28)(H3:Blk w g3 [.int .u64 (a:Int)] 23):
 Calls Tryz.prog 124 #[.pointer (some ⟨g2,0,none⟩),.pointer (some ⟨g3,0,none⟩)] w fun e w'=>Below w.heap.size w w'∧ReadE w.heap.size l a (ecode9 h l n a) e w':=by
 have b1:=jH ((Below.refl w.heap.size w).alloc (jR _) (.cells ez 132))
 have v1:=v.below b1.out
 have c2:=(H2.alloc (.cells ez 132)).cell (i:=0) rfl
 have c3:=(H3.alloc (.cells ez 132)).cell (i:=0) rfl
 have HV:=jH (vent_any a _ v1 hcm)
 have Z1:=jH (heap_alloc_new w (.cells ez 132))
 have s1:=jH (show w.heap.size<(w.alloc (.cells ez 132)).heap.size by simp)
 unfold ReadE at HV⊢
 generalize eNum l a 0=s0 at*
 generalize eNum l a 8=s8 at*
 generalize eNum l a 16=s16 at*
 generalize eNum l a 40=s40 at*
 generalize eK l a=kk at*
 generalize eN l a=mm at*
 generalize itA (bodyL l a)=fa at*
 generalize ecode9 h l n a=cd at*
 generalize itH (bodyL l a)=fh at*
 clear v v1 H2 H3
 by_cases hz:cd=0
 ·subst hz
  go_enter Tryz.func124,Tryz.ntmps124
  go_wp2_with(first
   |(go_at_call 125;(refine HV.out.mono ?_);rintro e w3 ⟨hb3,⟨hne,_⟩|⟨_,A2,c2',rfl,hy2,hw2⟩⟩;(exact absurd rfl hne);have B3:=jH (b1.out.trans (hb3.mono b1.out.size));have HY3:=jH hy2;have HW3:=jH hw2;have Z3:=jH ((hb3.block _ s1.out).trans Z1.out);clear hb3 hy2 hw2)
   |((with_reducible apply at_store (.tmp 2) (.tmp 5));refine wpList_store_row rfl 132 (.tmp 2) (.tmp 5) rfl w.heap.size (entL s0 s8 s16 kk s40 A2 mm c2').toArray rfl rfl 132 ez Z3.out (by kernel_rfl) rfl (by first|exact ent_one _ _ _ _ _ _ _ _|exact z_one) ?_)
   |fail)
  refine bodyPost_ret (v:=entV s0 s8 s16 kk s40 A2 mm c2') (by exact results_cell_row Tryz.results124 _ _ w.heap.size 132 _ (0,0) _ rfl (setRow_heap _ w.heap.size _ _ _ (0,0) Z3.out) Tryz.underlying132 rfl (by kernel_rfl)) rfl ?_
  have b4:=below_setRow (B:=w.heap.size) B3.out (jR _) (entL s0 s8 s16 kk s40 A2 mm c2').toArray
  exact⟨b4,.inr ⟨trivial,A2,c2',rfl,In2.setRow HY3.out (new_ne HW3.out s1.out) _,new_mono HW3.out (Nat.le_of_lt s1.out)⟩⟩
 ·go_enter Tryz.func124,Tryz.ntmps124
  go_wp2_with(first
   |(go_at_call 125;(refine HV.out.mono ?_);rintro e w3 ⟨hb3,⟨_,rfl⟩|⟨he,_⟩⟩;rotate_left;(exact absurd he hz);have B3:=jH (b1.out.trans (hb3.mono b1.out.size));clear hb3)
   |fail)
  exact⟨rfl,B3.out,.inl ⟨hz,rfl⟩⟩
def AskE (B:Nat)(l:List Int)(a:Nat)(cd:Int)(e:Ending)(w':World):Prop:=
 (cd≠0∧e= .returned (.tuple #[.agg ez,.int .i64 cd]))∨(cd=0∧ ∃A' c',e= .returned (.tuple #[entV (eNum l a 0) (eNum l a 8) (eNum l a 16) (eK l a) (eNum l a 40) A' (eN l a) c',.int .i64 0])∧In2 w' A' (eN l a) (itA (bodyL l a)) (itH (bodyL l a))∧NewIn B A')
theorem asked_any {gv:Nat}{h:HD}{A:Option Addr}{n c:Nat}{l:List Int}(a:Nat)(g2 g3:Nat)(w:World)(v:ViewAt w gv h A n c l)(hcm:c≤maxLen)(H2:Blk w g2 [.pointer (some ⟨gv,0,none⟩)] 28)(H3:Blk w g3 [.int .u64 (a:Int)] 23):
 Calls Tryz.prog 123 #[.func (.func 124) #[] #[.pointer (some ⟨g2,0,none⟩),.pointer (some ⟨g3,0,none⟩)]] w fun e w'=>Below w.heap.size w w'∧AskE w.heap.size l a (ecode9 h l n a) e w':=by
 have b1:=jH ((Below.refl w.heap.size w).alloc (jR _) (.cells ez 132))
 have b2:=jH (b1.out.alloc b1.out.size (.cells #[.int .i64 0] 3))
 have v2:=v.below b2.out
 have HV:=jH (vent_cl a g2 g3 _ v2 hcm (H2.below b2.out H2.lt) (H3.below b2.out H3.lt))
 have S1:(w.alloc (.cells ez 132)).heap.size=w.heap.size+1:=by simp only[World.alloc,Array.size_push]
 have S2:((w.alloc (.cells ez 132)).alloc (.cells #[.int .i64 0] 3)).heap.size=w.heap.size+1+1:=by simp only[World.alloc,Array.size_push]
 have Z2:=jH ((Below.heap_alloc (w.alloc (.cells ez 132)) (.cells #[.int .i64 0] 3) w.heap.size (by rw[S1];omega)).trans (heap_alloc_new w (.cells ez 132)))
 have R2:=jH (Blk.new_at (w.alloc (.cells ez 132)) [.int .i64 0] 3 _ S1)
 have hfn: ∀(fn:Fn) (first cap:Array Value) (w:World),(Instr.makeFunc fn first cap).run Tryz.prog w= .ok (.func fn first cap) w:=fun _ _ _ _=>rfl
 unfold ReadE at HV
 unfold AskE
 generalize eNum l a 0=s0 at*
 generalize eNum l a 8=s8 at*
 generalize eNum l a 16=s16 at*
 generalize eNum l a 40=s40 at*
 generalize eK l a=kk at*
 generalize eN l a=mm at*
 generalize itA (bodyL l a)=fa at*
 generalize ecode9 h l n a=cd at*
 generalize itH (bodyL l a)=fh at*
 clear v v2 H2 H3
 by_cases hz:cd=0
 ·subst hz
  go_enter_defers Tryz.func123,Tryz.ntmps123
  go_wp2_with(first
   |(go_at_call 124;(refine HV.out.mono ?_);rintro e w3 ⟨hb3,⟨hne,_⟩|⟨_,A2,c2',rfl,hy2,hw2⟩⟩;(exact absurd rfl hne);have B3:=jH (b2.out.trans (hb3.mono b2.out.size));have HY3:=jH hy2;have HW3:=jH (show NewIn (w.heap.size+1+1) A2 from S2▸hw2);have Z3:=jH ((hb3.block _ (by rw[S2];omega)).trans Z2.out);have R3:=jH (R2.out.below hb3 (by rw[S2];omega));clear hb3 hy2 hw2)
   |((with_reducible apply at_store (.tmp 2) (.tmp 6));refine wpList_store_row rfl 132 (.tmp 2) (.tmp 6) rfl w.heap.size (entL s0 s8 s16 kk s40 A2 mm c2').toArray rfl rfl 132 ez Z3.out (by kernel_rfl) rfl (by first|exact ent_one _ _ _ _ _ _ _ _|exact z_one) ?_;have R4:=jH (show Blk (w3.setRow w.heap.size (entL s0 s8 s16 kk s40 A2 mm c2').toArray) (w.heap.size+1) [.int .i64 0] 3 from(setRow_other w3 w.heap.size (w.heap.size+1) _ (Nat.succ_ne_self _)).trans R3.out);have c4:=R4.out.cell (i:=0) rfl;have z4:=R4.out.frozen 0)
   |fail)
  refine leaves_cons (f:=180) (args:= #[.pointer (some ⟨w.heap.size+1,0,none⟩)]) (by simp) (by simp[go_sem]) ?_
  refine(caught_idle _ _).mono ?_
  rintro e u' w'' ⟨rfl,rfl,rfl⟩
  have b4:=(below_setRow (B:=w.heap.size) B3.out (jR _) (entL s0 s8 s16 kk s40 A2 mm c2').toArray).setCell (p:=⟨w.heap.size+1,0,none⟩) (Nat.le_succ _) (.int .i64 0)
  exact⟨.tuple #[entV s0 s8 s16 kk s40 A2 mm c2',.int .i64 0],(by exact res_row_cell Tryz.results123 _ _ w.heap.size (w.heap.size+1) 132 _ (0,0) _ _ rfl rfl ((Below.heap_setCell _ _ _ _ (Nat.succ_ne_self _).symm).trans (setRow_heap _ w.heap.size _ _ _ (0,0) Z3.out)) Tryz.underlying132 rfl (by kernel_rfl) (load_code _ _ _ (R4.out.set_ 0 _))),b4,.inr ⟨trivial,A2,c2',rfl,in2_off (In2.setRow HY3.out (new_ne HW3.out (by omega)) _) (new_ne HW3.out (by omega)) _ _,new_mono HW3.out (by omega)⟩⟩
 ·go_enter_defers Tryz.func123,Tryz.ntmps123
  go_wp2_with(first
   |(go_at_call 124;(refine HV.out.mono ?_);rintro e w3 ⟨hb3,⟨_,rfl⟩|⟨he,_⟩⟩;rotate_left;(exact absurd he hz);have B3:=jH (b2.out.trans (hb3.mono b2.out.size));have Z3:=jH ((hb3.block _ (by rw[S2];omega)).trans Z2.out);have R3:=jH (R2.out.below hb3 (by rw[S2];omega));clear hb3)
   |fail)
  refine leaves_cons (f:=180) (args:= #[.pointer (some ⟨w.heap.size+1,0,none⟩)]) (by simp) (by simp[go_sem]) ?_
  refine(caught_halt _ cd 0 [] _ R3.out).mono ?_
  rintro e u' w'' ⟨rfl,rfl,rfl⟩
  have b4:=B3.out.setCell (p:=⟨w.heap.size+1,0,none⟩) (Nat.le_succ _) (.int .i64 cd)
  exact⟨.tuple #[.agg ez,.int .i64 cd],(by exact res_row_cell Tryz.results123 _ _ w.heap.size (w.heap.size+1) 132 _ (0,0) _ _ rfl rfl ((Below.heap_setCell _ _ _ _ (Nat.succ_ne_self _).symm).trans Z3.out) Tryz.underlying132 rfl (by kernel_rfl) (load_code _ _ _ (R3.out.set_ 0 _))),b4,.inl ⟨hz,rfl⟩⟩
theorem entAsk {gv:Nat}{h:HD}{A:Option Addr}{n c:Nat}{l:List Int}(a:Nat)(w:World)(v:ViewAt w gv h A n c l)(hcm:c≤maxLen):
 Calls Tryz.prog 63 #[.pointer (some ⟨gv,0,none⟩),.int .u64 (a:Int)] w fun e w'=>Below w.heap.size w w'∧AskE w.heap.size l a (ecode9 h l n a) e w':=by
 have b1:=jH ((Below.refl w.heap.size w).alloc (jR _) (.cells #[.pointer (some ⟨gv,0,none⟩)] 28))
 have b2:=jH (b1.out.alloc b1.out.size (.cells #[.int .u64 (a:Int)] 23))
 have b3:=jH (b2.out.alloc b2.out.size (.cells ez 132))
 have v3:=v.below b3.out
 have S1:(w.alloc (.cells #[.pointer (some ⟨gv,0,none⟩)] 28)).heap.size=w.heap.size+1:=by simp only[World.alloc,Array.size_push]
 have S2:((w.alloc (.cells #[.pointer (some ⟨gv,0,none⟩)] 28)).alloc (.cells #[.int .u64 (a:Int)] 23)).heap.size=w.heap.size+1+1:=by simp only[World.alloc,Array.size_push]
 have S3:(((w.alloc (.cells #[.pointer (some ⟨gv,0,none⟩)] 28)).alloc (.cells #[.int .u64 (a:Int)] 23)).alloc (.cells ez 132)).heap.size=w.heap.size+1+1+1:=by simp only[World.alloc,Array.size_push]
 have K1:=((Blk.new w [.pointer (some ⟨gv,0,none⟩)] 28).alloc (.cells #[.int .u64 (a:Int)] 23)).alloc (.cells ez 132)
 have K2:=(Blk.new_at (w.alloc (.cells #[.pointer (some ⟨gv,0,none⟩)] 28)) [.int .u64 (a:Int)] 23 _ S1).alloc (.cells ez 132)
 have HV:=jH (asked_any a w.heap.size (w.heap.size+1) _ v3 hcm K1 K2)
 have Z3:=jH (show(((w.alloc (.cells #[.pointer (some ⟨gv,0,none⟩)] 28)).alloc (.cells #[.int .u64 (a:Int)] 23)).alloc (.cells ez 132)).heap[w.heap.size+1+1]? =some (.cells ez 132 (0,0))from S2▸heap_alloc_new _ (.cells ez 132))
 have hfn: ∀(fn:Fn) (first cap:Array Value) (w:World),(Instr.makeFunc fn first cap).run Tryz.prog w= .ok (.func fn first cap) w:=fun _ _ _ _=>rfl
 unfold AskE at HV⊢
 generalize eNum l a 0=s0 at*
 generalize eNum l a 8=s8 at*
 generalize eNum l a 16=s16 at*
 generalize eNum l a 40=s40 at*
 generalize eK l a=kk at*
 generalize eN l a=mm at*
 generalize itA (bodyL l a)=fa at*
 generalize ecode9 h l n a=cd at*
 generalize itH (bodyL l a)=fh at*
 clear v v3 K1 K2
 by_cases hz:cd=0
 ·subst hz
  go_enter Tryz.func63,Tryz.ntmps63
  go_wp2_with(first
   |(go_at_call 123;(refine HV.out.mono ?_);rintro e w4 ⟨hb4,⟨hne,_⟩|⟨_,A2,c2',rfl,hy2,hw2⟩⟩;(exact absurd rfl hne);have B4:=jH (b3.out.trans (hb4.mono b3.out.size));have HY4:=jH hy2;have HW4:=jH (show NewIn (w.heap.size+1+1+1) A2 from S3▸hw2);have Z4:=jH ((hb4.block _ (by rw[S3];omega)).trans Z3.out);clear hb4 hy2 hw2)
   |((with_reducible apply at_store (.tmp 4) (.tmp 8));refine wpList_store_row rfl 132 (.tmp 4) (.tmp 8) rfl (w.heap.size+1+1) (entL s0 s8 s16 kk s40 A2 mm c2').toArray rfl rfl 132 ez Z4.out (by kernel_rfl) rfl (by first|exact ent_one _ _ _ _ _ _ _ _|exact z_one) ?_)
   |fail)
  refine bodyPost_ret (v:= .tuple #[entV s0 s8 s16 kk s40 A2 mm c2',.int .i64 0]) (by exact res_rowG Tryz.results63 _ _ (w.heap.size+1+1) 132 _ (0,0) _ _ rfl rfl (setRow_heap _ (w.heap.size+1+1) _ _ _ (0,0) Z4.out) Tryz.underlying132 rfl (by kernel_rfl)) rfl ?_
  have b5:=below_setRow (B:=w.heap.size) (g:=w.heap.size+1+1) B4.out (by omega) (entL s0 s8 s16 kk s40 A2 mm c2').toArray
  exact⟨b5,.inr ⟨trivial,A2,c2',rfl,In2.setRow HY4.out (new_ne HW4.out (by omega)) _,new_mono HW4.out (by omega)⟩⟩
 ·go_enter Tryz.func63,Tryz.ntmps63
  go_wp2_with(first
   |(go_at_call 123;(refine HV.out.mono ?_);rintro e w4 ⟨hb4,⟨_,rfl⟩|⟨he,_⟩⟩;rotate_left;(exact absurd he hz);have B4:=jH (b3.out.trans (hb4.mono b3.out.size));have Z4:=jH ((hb4.block _ (by rw[S3];omega)).trans Z3.out);clear hb4)
   |((with_reducible apply at_store (.tmp 4) (.tmp 8));refine wpList_store_row rfl 132 (.tmp 4) (.tmp 8) rfl (w.heap.size+1+1) ez rfl rfl 132 ez Z4.out (by kernel_rfl) rfl (by first|exact ent_one _ _ _ _ _ _ _ _|exact z_one) ?_)
   |fail)
  refine bodyPost_ret (v:= .tuple #[.agg ez,.int .i64 cd]) (by exact res_rowG Tryz.results63 _ _ (w.heap.size+1+1) 132 _ (0,0) _ _ rfl rfl (setRow_heap _ (w.heap.size+1+1) _ _ _ (0,0) Z4.out) Tryz.underlying132 rfl (by kernel_rfl)) rfl ?_
  have b5:=below_setRow (B:=w.heap.size) (g:=w.heap.size+1+1) B4.out (by omega) ez
  exact⟨b5,.inl ⟨hz,rfl⟩⟩
end Ri
namespace Rj
open Bytes8 Blk8 Own8 OwnE Rows2 Ga Gb Ok7 Np Sg Ra Rc
def keyB (ic:Int):Bool:=bits .and .u32 ic 4 !=0
theorem view_cell {w:World}{gv:Nat}{h:HD}{b v:Value}(hb:Blk w gv (viewC h b) 111){i:Nat}(hi:(h.cells 21)[i]? =some v):w.cell? ⟨gv,i,none⟩=some v:=by
 refine hb.cell ?_
 unfold viewC
 rw[List.getElem?_append_left (List.getElem?_eq_some_iff.1 hi).1]
 exact hi
theorem view_ic (h:HD):(h.cells 21)[1]? =some (.int .u32 h.ic):=by
 rw[h.get 21 1 (by decide)]
 rfl
theorem view_id {w:World}{gv:Nat}{h:HD}{b:Value}(hb:Blk w gv (viewC h b) 111):w.rangeAt gv 3 (idJ h.I):=fun j v hj=>by
 have hl:j<16:=(List.getElem?_eq_some_iff.1 hj).1
 refine view_cell hb ((h.get_I 21 j (by omega)).trans ?_)
 rw[idJ_get h.I j hl]at hj
 exact hj
theorem I_ok {h:HD}(ok:h.Ok 21):IdOk h.I:=fun i=>ok.I i
attribute [local irreducible] HD.cells wpList Code.wp
theorem vhash_any {gv:Nat}{h:HD}{A:Option Addr}{n c:Nat}{l:List Int}(A2:Option Addr)(pl:List Int)(m2 c2:Nat)(w:World)(v:ViewAt w gv h A n c l)(hb:Bytes w A2 pl)(hL:pl.length=m2)(hm:m2≤800000)(hc:m2≤c2)(hcm:c2≤maxLen):
 Calls Tryz.prog 21 #[.pointer (some ⟨gv,0,none⟩),.slice A2 m2 c2] w fun e w'=>e= .returned (.int .u64 (ofS (keyB h.ic) (idL h.I) pl))∧Below w.heap.size w w':=by
 have HOf:=jH fun(t:Bool)=>of_any t h.I A2 pl m2 c2 w.drew (I_ok v.ok) hb.drew hL hm hc hcm
 have c1:=view_cell v.blk (view_ic h)
 have Sd:=jH (show w.drew.cell? ⟨gv,1,none⟩=some (.int .u32 h.ic)∧w.drew.rangeAt gv 3 (idJ h.I)from⟨c1,view_id v.blk⟩)
 have D:=jH (show Below w.heap.size w w.drew from(Below.refl w.heap.size w).drew)
 have HV:=jH v.blk
 clear v c1 hb hL
 go_enter Tryz.func21,Tryz.ntmps21
 go_upto_region 1 with fail
 refine wp_region_noPanic ?_
 refine wp_region_held_drew (S:=fun W:World=>W.cell? ⟨gv,1,none⟩=some (.int .u32 h.ic)∧W.rangeAt gv 3 (idJ h.I)) (by kernel_rfl) (by exact Sd.out) (fun hHeld=>?_)
 refine tk (i:=0) (oi:=⟨some 5,_,_,_,_,_⟩) (v:=?_) rfl (Or.inl ⟨by rfl,?_⟩) ?_
 rotate_left
 ·intro W hSw;go_simp;try (with_reducible rfl)
 try simp only[Act.put,sA,sZ,sS]
 refine tk (i:=1) (oi:=⟨some 6,_,_,_,_,_⟩) (v:=?_) rfl (Or.inl ⟨by rfl,?_⟩) ?_
 rotate_left
 ·intro W hSw;go_simp;try (with_reducible rfl)
 try simp only[Act.put,sA,sZ,sS]
 refine tk (i:=2) (oi:=⟨some 7,_,_,_,_,_⟩) (v:=?_) rfl (Or.inl ⟨by rfl,?_⟩) ?_
 rotate_left
 ·intro W hSw;go_simp;try (with_reducible rfl)
 try simp only[Act.put,sA,sZ,sS]
 refine tk (i:=3) (oi:=⟨some 8,_,_,_,_,_⟩) (v:=?_) rfl (Or.inl ⟨by rfl,?_⟩) ?_
 rotate_left
 ·intro W hSw;go_simp;try (with_reducible rfl)
 try simp only[Act.put,sA,sZ,sS]
 refine tk (i:=4) (oi:=⟨some 9,_,_,_,_,_⟩) (v:=?_) rfl (Or.inl ⟨by rfl,?_⟩) ?_
 rotate_left
 ·intro W hSw;have hSx:=hSw.1;go_simp;try (with_reducible rfl)
 try simp only[Act.put,sA,sZ,sS]
 refine tk (i:=5) (oi:=⟨some 10,_,_,_,_,_⟩) (v:=?_) rfl (Or.inl ⟨by rfl,?_⟩) ?_
 rotate_left
 ·intro W hSw;go_simp;try (with_reducible rfl)
 try simp only[Act.put,sA,sZ,sS]
 refine tk (i:=6) (oi:=⟨some 11,_,_,_,_,_⟩) (v:=?_) rfl (Or.inl ⟨by rfl,?_⟩) ?_
 rotate_left
 ·intro W hSw;go_simp;try (with_reducible rfl)
 try simp only[Act.put,sA,sZ,sS]
 refine tk (i:=7) (oi:=⟨some 12,_,_,_,_,_⟩) (v:=?_) rfl (Or.inl ⟨by rfl,?_⟩) ?_
 rotate_left
 ·intro W hSw;go_simp;try (with_reducible rfl)
 try simp only[Act.put,sA,sZ,sS]
 refine tk (i:=8) (oi:=⟨some 13,_,_,_,_,_⟩) (v:=?_) rfl (Or.inl ⟨by rfl,?_⟩) ?_
 rotate_left
 ·intro W hSw;go_simp;try (with_reducible rfl)
 try simp only[Act.put,sA,sZ,sS]
 refine tk (i:=9) (oi:=⟨some 14,_,_,_,_,_⟩) (v:=?_) rfl (Or.inl ⟨by rfl,?_⟩) ?_
 rotate_left
 ·intro W hSw;go_simp;try (with_reducible rfl)
 try simp only[Act.put,sA,sZ,sS]
 refine tk (i:=10) (oi:=⟨some 15,_,_,_,_,_⟩) (v:=?_) rfl (Or.inl ⟨by rfl,?_⟩) ?_
 rotate_left
 ·intro W hSw;go_simp;try (with_reducible rfl)
 try simp only[Act.put,sA,sZ,sS]
 refine tk (i:=11) (oi:=⟨some 16,_,_,_,_,_⟩) rfl (yieldsIf_load_mid (by rfl) _ _ rfl _ _ rfl _ _ (fun _ h=>h.2) Tryz.underlying57 rfl (idJ_info _)) ?_
 try simp only[Act.put,sA,sZ,sS]
 refine tk (i:=12) (oi:=⟨some 17,_,_,_,_,_⟩) (v:=?_) rfl (Or.inl ⟨by rfl,?_⟩) ?_
 rotate_left
 ·intro W hSw;go_simp;try (with_reducible rfl)
 try simp only[Act.put,sA,sZ,sS]
 refine wpAnyH_ready (rs:=[13]) (by kernel_rfl) (by simp) ?_
 refine AllReadyH.cons (o:=⟨some 18,_,_,_,_,_⟩) rfl (fun K hK=>?_) AllReadyH.nil
 go_simp
 ((refine(HOf.out _).mono ?_);rintro e w2 ⟨rfl,hb2⟩;have B2:=jH (D.out.trans hb2);have S2:=jH (show w2.cell? ⟨gv,1,none⟩=some (.int .u32 h.ic)∧w2.rangeAt gv 3 (idJ h.I)from⟨view_cell (HV.out.below B2.out HV.out.lt) (view_ic h),view_id (HV.out.below B2.out HV.out.lt)⟩);clear hb2)
 try go_wp2_with fail
 refine hK.out _ _ (by exact S2.out) (fun hHeld=>?_)
 clear hK K
 try simp only[Act.put,sA,sZ,sS]
 refine tk (i:=14) (oi:=⟨some 4,_,_,_,_,_⟩) (v:=?_) rfl (Or.inl ⟨by rfl,?_⟩) ?_
 rotate_left
 ·intro W hSw;go_simp;try (with_reducible rfl)
 try simp only[Act.put,sA,sZ,sS]
 refine wpAnyH_done (by kernel_rfl) ?_ _
 refine NoPanic.normal ?_
 go_wp2
 go_ret
 exact⟨rfl,B2.out⟩
end Rj
namespace Rk
open Bytes8 Blk8 Own8 OwnE Rows2 Ob Ga Gb Oj Ok7 Np Sg Rc Rd Re Rj
def hcode9 (h:HD)(l:List Int)(n a:Nat):Int:=if dcode h l n a≠0 then dcode h l n a else if bnum l a 1 6 0=ofS (keyB h.ic) (idL h.I) (bpay l a 1 6)then 0 else 9
theorem bpay_le (l:List Int)(a:Nat)(k:Int)(n:Nat):(bpay l a k n).length≤l.length:=by
 unfold bpay
 split
 ·rw[List.length_drop]
  unfold bodyL
  rw[List.length_take,List.length_drop]
  omega
 ·exact Nat.zero_le _
attribute [local irreducible] wpList Code.wp ofS bnum bpay bcode
theorem hashed_any {gv:Nat}{h:HD}{A:Option Addr}{n c:Nat}{l:List Int}(a:Nat)(w:World)(v:ViewAt w gv h A n c l)(hcm:c≤maxLen)(h8:n≤800000):
 Calls Tryz.prog 106 #[.pointer (some ⟨gv,0,none⟩),.int .u64 (a:Int)] w fun e w'=>Below w.heap.size w w'∧ReadD w.heap.size l a (hcode9 h l n a) e w':=by
 have b1:=jH ((Below.refl w.heap.size w).alloc (jR _) (.cells dz 92))
 have v1:=v.below b1.out
 have HV:=jH (vdata_any a _ v1 hcm)
 have HH:=jH fun(A2:Option Addr) (m2 c2:Nat) (B:Nat) (W:World) (hW:Below w.heap.size w W) (hb:Bytes W A2 (bpay l a 1 6)) (hL:(bpay l a 1 6).length=m2) (hcp:Cap B A2 m2 c2)=>vhash_any A2 (bpay l a 1 6) m2 c2 W (v.below hW) hb hL (by have h1:=bpay_le l a 1 6;have h2:=v.len;omega) hcp.2.1 hcp.2.2.1
 have Z1:=jH (heap_alloc_new w (.cells dz 92))
 have s1:=jH (show w.heap.size<(w.alloc (.cells dz 92)).heap.size by simp)
 unfold ReadD at HV⊢
 unfold hcode9
 generalize ofS (keyB h.ic) (idL h.I) (bpay l a 1 6)=y0 at*
 generalize bnum l a 1 6 0=x0 at*
 generalize bnum l a 1 6 1=x1 at*
 generalize bnum l a 1 6 2=x2 at*
 generalize bnum l a 1 6 3=x3 at*
 generalize bnum l a 1 6 4=x4 at*
 generalize bnum l a 1 6 5=x5 at*
 generalize dcode h l n a=cd at*
 generalize bpay l a 1 6=pl at*
 clear v v1
 by_cases hz:cd=0
 ·subst hz
  rw[if_neg (by decide)]
  obtain⟨cc,hcc⟩: ∃c:Int,c=if x0=y0 then 0 else 9:=⟨_,rfl⟩
  rw[←hcc]
  have HCC:=jH hcc
  clear hcc
  go_enter Tryz.func106,Tryz.ntmps106
  go_upto_region 2 with(first
   |(go_at_call 96;(refine HV.out.mono ?_);rintro e w2 ⟨hb2,⟨hne,_⟩|⟨_,A2,m2,c2',rfl,hy2,hl2,hm2⟩⟩;(exact absurd rfl hne);have B2:=jH (b1.out.trans (hb2.mono b1.out.size));have HY2:=jH hy2;have Z2:=jH ((hb2.block _ s1.out).trans Z1.out);have SZ2:=jH (show w.heap.size<w2.heap.size from jL s1.out hb2.size);clear hb2 hy2)
   |((with_reducible apply at_store (.tmp 5) (.tmp 8));refine wpList_store_row rfl 92 (.tmp 5) (.tmp 8) rfl w2.heap.size #[.int .u64 x0,.int .u64 x1,.int .u64 x2,.int .u64 x3,.int .u64 x4,.int .u64 x5,.slice A2 m2 c2'] rfl rfl 92 dz (heap_alloc_new w2 _) (by kernel_rfl) rfl (by simp[Value.oneCell']) ?_)
   |fail)
  have R3:=jH (show Blk ((w2.alloc (.cells dz 92)).setRow w2.heap.size #[.int .u64 x0,.int .u64 x1,.int .u64 x2,.int .u64 x3,.int .u64 x4,.int .u64 x5,.slice A2 m2 c2']) w2.heap.size [.int .u64 x0,.int .u64 x1,.int .u64 x2,.int .u64 x3,.int .u64 x4,.int .u64 x5,.slice A2 m2 c2'] 92 from setRow_heap _ _ _ _ _ (0,0) (heap_alloc_new w2 _))
  have B23:=jH (show Below w2.heap.size w2 ((w2.alloc (.cells dz 92)).setRow w2.heap.size #[.int .u64 x0,.int .u64 x1,.int .u64 x2,.int .u64 x3,.int .u64 x4,.int .u64 x5,.slice A2 m2 c2'])from below_setRow ((Below.refl _ _).alloc (jR _) _) (jR _) _)
  generalize (w2.alloc (.cells dz 92)).setRow w2.heap.size #[.int .u64 x0,.int .u64 x1,.int .u64 x2,.int .u64 x3,.int .u64 x4,.int .u64 x5,.slice A2 m2 c2']=w3 at*
  have B3:=jH (B2.out.trans (B23.out.mono B2.out.size))
  have HY3:=jH (HY2.out.below B23.out (jR _))
  have Z3:=jH ((B23.out.block _ SZ2.out).trans Z2.out)
  have Z3s:=jH (show w.heap.size<w3.drew.heap.size from jL SZ2.out B23.out.size)
  have HS:=jH (HH.out A2 m2 c2' _ w3.drew B3.out.drew HY3.out.drew hl2 hm2)
  have Sd:=jH (show w3.drew.cell? ⟨w2.heap.size,0,none⟩=some (.int .u64 x0)∧w3.drew.cell? ⟨w2.heap.size,6,none⟩=some (.slice A2 m2 c2')from⟨R3.out.drew.cell (i:=0) rfl,R3.out.drew.cell (i:=6) rfl⟩)
  have HCp:=jH (hm2.mono (Nat.le_of_lt s1.out))
  generalize w2.heap.size=s5 at*
  clear HV HH hm2 B2 HY2 Z2 SZ2 B23
  by_cases he:x0=y0
  ·have hcc:=HCC.out
   rw[if_pos he]at hcc
   have HC0:=jH hcc
   clear hcc
   have d:(x0==y0)=true:=by simpa using he
   refine wp_region_held_drew (S:=fun W:World=>W.cell? ⟨s5,0,none⟩=some (.int .u64 x0)∧W.cell? ⟨s5,6,none⟩=some (.slice A2 m2 c2')) (by kernel_rfl) (by exact Sd.out) (fun hHeld=>?_)
   refine tk (i:=0) (oi:=⟨some 9,_,_,_,_,_⟩) (v:=?_) rfl (Or.inl ⟨by rfl,?_⟩) ?_
   rotate_left
   ·intro W hSw;obtain⟨x0,x1⟩:=hSw;go_simp;try (with_reducible rfl)
   try simp only[Act.put,sA,sZ,sS]
   refine tk (i:=1) (oi:=⟨some 10,_,_,_,_,_⟩) (v:=?_) rfl (Or.inl ⟨by rfl,?_⟩) ?_
   rotate_left
   ·intro W hSw;obtain⟨x0,x1⟩:=hSw;go_simp;try (with_reducible rfl)
   try simp only[Act.put,sA,sZ,sS]
   refine tk (i:=2) (oi:=⟨some 11,_,_,_,_,_⟩) (v:=?_) rfl (Or.inl ⟨by rfl,?_⟩) ?_
   rotate_left
   ·intro W hSw;obtain⟨x0,x1⟩:=hSw;go_simp;try (with_reducible rfl)
   try simp only[Act.put,sA,sZ,sS]
   refine tk (i:=3) (oi:=⟨some 12,_,_,_,_,_⟩) (v:=?_) rfl (Or.inl ⟨by rfl,?_⟩) ?_
   rotate_left
   ·intro W hSw;obtain⟨x0,x1⟩:=hSw;go_simp;try (with_reducible rfl)
   try simp only[Act.put,sA,sZ,sS]
   refine tk (i:=4) (oi:=⟨some 13,_,_,_,_,_⟩) (v:=?_) rfl (Or.inl ⟨by rfl,?_⟩) ?_
   rotate_left
   ·intro W hSw;obtain⟨x0,x1⟩:=hSw;go_simp;try (with_reducible rfl)
   try simp only[Act.put,sA,sZ,sS]
   refine wpAnyH_ready (rs:=[5]) (by kernel_rfl) (by simp) ?_
   refine AllReadyH.cons (o:=⟨some 14,_,_,_,_,_⟩) rfl (fun K hK=>?_) AllReadyH.nil
   go_simp
   ((refine HS.out.mono ?_);rintro e w4 ⟨rfl,hb4⟩;have B4:=jH (B3.out.drew.trans (hb4.mono B3.out.size));have R4:=jH (R3.out.drew.below hb4 R3.out.lt);have HY4:=jH (HY3.out.drew.below hb4 (jR _));have S4:=jH (show w4.cell? ⟨s5,0,none⟩=some (.int .u64 x0)∧w4.cell? ⟨s5,6,none⟩=some (.slice A2 m2 c2')from⟨R4.out.cell (i:=0) rfl,R4.out.cell (i:=6) rfl⟩);have Z4:=jH ((hb4.block _ Z3s.out).trans Z3.out);clear hb4)
   try go_wp2_with fail
   refine hK.out _ _ (by exact S4.out) (fun hHeld=>?_)
   clear hK K
   try simp only[Act.put,sA,sZ,sS]
   refine tk (i:=6) (oi:=⟨some 15,_,_,_,_,_⟩) (v:=?_) rfl (Or.inl ⟨by rfl,?_⟩) ?_
   rotate_left
   ·intro W hSw;obtain⟨x0,x1⟩:=hSw;go_simp;try (with_reducible rfl)
   try simp only[Act.put,sA,sZ,sS]
   refine wpAnyH_ready (rs:=[7]) (by kernel_rfl) (by simp) ?_
   refine AllReadyH.cons (o:=⟨some 16,_,_,_,_,_⟩) rfl (fun K hK=>?_) AllReadyH.nil
   go_simp
   ((refine(need_yes 9 _).mono ?_);rintro e w5 ⟨rfl,rfl⟩)
   try go_wp2_with fail
   refine hK.out _ _ (by exact S4.out) (fun hHeld=>?_)
   clear hK K
   try simp only[Act.put,sA,sZ,sS]
   refine wpAnyH_done (by kernel_rfl) ?_ _
   go_wp2_with(first
    |((with_reducible apply at_slot 17);refine wpList_load_row rfl 92 (.tmp 5) rfl s5 rfl 92 #[.int .u64 x0,.int .u64 x1,.int .u64 x2,.int .u64 x3,.int .u64 x4,.int .u64 x5,.slice A2 m2 c2'] (0,0) _ R4.out Tryz.underlying92 rfl (by kernel_rfl) ?_)
    |((with_reducible apply at_store (.tmp 4) (.tmp 17));refine wpList_store_row rfl 92 (.tmp 4) (.tmp 17) rfl w.heap.size #[.int .u64 x0,.int .u64 x1,.int .u64 x2,.int .u64 x3,.int .u64 x4,.int .u64 x5,.slice A2 m2 c2'] rfl rfl 92 dz Z4.out (by kernel_rfl) rfl (by simp[Value.oneCell']) ?_)
    |fail)
   refine bodyPost_ret (v:=dataV x0 x1 x2 x3 x4 x5 A2 m2 c2') (by exact results_cell_row Tryz.results106 _ _ w.heap.size 92 _ (0,0) _ rfl (setRow_heap _ w.heap.size _ _ _ (0,0) Z4.out) Tryz.underlying92 rfl (by kernel_rfl)) rfl ?_
   have b5:=below_setRow (B:=w.heap.size) B4.out (jR _) #[.int .u64 x0,.int .u64 x1,.int .u64 x2,.int .u64 x3,.int .u64 x4,.int .u64 x5,.slice A2 m2 c2']
   exact⟨b5,.inr ⟨HC0.out,A2,m2,c2',rfl,bytes_apart HY4.out Z4.out _,hl2,HCp.out⟩⟩
  ·have hcc:=HCC.out
   rw[if_neg he]at hcc
   have HC9:=jH hcc
   clear hcc
   have d:(x0==y0)=false:=by simpa using he
   refine wp_region_held_drew (S:=fun W:World=>W.cell? ⟨s5,0,none⟩=some (.int .u64 x0)∧W.cell? ⟨s5,6,none⟩=some (.slice A2 m2 c2')) (by kernel_rfl) (by exact Sd.out) (fun hHeld=>?_)
   refine tk (i:=0) (oi:=⟨some 9,_,_,_,_,_⟩) (v:=?_) rfl (Or.inl ⟨by rfl,?_⟩) ?_
   rotate_left
   ·intro W hSw;obtain⟨x0,x1⟩:=hSw;go_simp;try (with_reducible rfl)
   try simp only[Act.put,sA,sZ,sS]
   refine tk (i:=1) (oi:=⟨some 10,_,_,_,_,_⟩) (v:=?_) rfl (Or.inl ⟨by rfl,?_⟩) ?_
   rotate_left
   ·intro W hSw;obtain⟨x0,x1⟩:=hSw;go_simp;try (with_reducible rfl)
   try simp only[Act.put,sA,sZ,sS]
   refine tk (i:=2) (oi:=⟨some 11,_,_,_,_,_⟩) (v:=?_) rfl (Or.inl ⟨by rfl,?_⟩) ?_
   rotate_left
   ·intro W hSw;obtain⟨x0,x1⟩:=hSw;go_simp;try (with_reducible rfl)
   try simp only[Act.put,sA,sZ,sS]
   refine tk (i:=3) (oi:=⟨some 12,_,_,_,_,_⟩) (v:=?_) rfl (Or.inl ⟨by rfl,?_⟩) ?_
   rotate_left
   ·intro W hSw;obtain⟨x0,x1⟩:=hSw;go_simp;try (with_reducible rfl)
   try simp only[Act.put,sA,sZ,sS]
   refine tk (i:=4) (oi:=⟨some 13,_,_,_,_,_⟩) (v:=?_) rfl (Or.inl ⟨by rfl,?_⟩) ?_
   rotate_left
   ·intro W hSw;obtain⟨x0,x1⟩:=hSw;go_simp;try (with_reducible rfl)
   try simp only[Act.put,sA,sZ,sS]
   refine wpAnyH_ready (rs:=[5]) (by kernel_rfl) (by simp) ?_
   refine AllReadyH.cons (o:=⟨some 14,_,_,_,_,_⟩) rfl (fun K hK=>?_) AllReadyH.nil
   go_simp
   ((refine HS.out.mono ?_);rintro e w4 ⟨rfl,hb4⟩;have B4:=jH (B3.out.drew.trans (hb4.mono B3.out.size));have R4:=jH (R3.out.drew.below hb4 R3.out.lt);have HY4:=jH (HY3.out.drew.below hb4 (jR _));have S4:=jH (show w4.cell? ⟨s5,0,none⟩=some (.int .u64 x0)∧w4.cell? ⟨s5,6,none⟩=some (.slice A2 m2 c2')from⟨R4.out.cell (i:=0) rfl,R4.out.cell (i:=6) rfl⟩);have Z4:=jH ((hb4.block _ Z3s.out).trans Z3.out);clear hb4)
   try go_wp2_with fail
   refine hK.out _ _ (by exact S4.out) (fun hHeld=>?_)
   clear hK K
   try simp only[Act.put,sA,sZ,sS]
   refine tk (i:=6) (oi:=⟨some 15,_,_,_,_,_⟩) (v:=?_) rfl (Or.inl ⟨by rfl,?_⟩) ?_
   rotate_left
   ·intro W hSw;obtain⟨x0,x1⟩:=hSw;go_simp;try (with_reducible rfl)
   try simp only[Act.put,sA,sZ,sS]
   refine wpAnyH_ready (rs:=[7]) (by kernel_rfl) (by simp) ?_
   refine AllReadyH.cons (o:=⟨some 16,_,_,_,_,_⟩) rfl (fun K hK=>?_) AllReadyH.nil
   go_simp
   ((refine(need_no 9 _).mono ?_);rintro e w5 ⟨rfl,rfl⟩;exact⟨rfl,B4.out,.inl ⟨by rw[HC9.out];decide,by rw[HC9.out]⟩⟩)
 ·rw[if_pos hz]
  go_enter Tryz.func106,Tryz.ntmps106
  go_wp2_with(first
   |(go_at_call 96;(refine HV.out.mono ?_);rintro e w3 ⟨hb3,⟨_,rfl⟩|⟨he,_⟩⟩;rotate_left;(exact absurd he hz);have B3:=jH (b1.out.trans (hb3.mono b1.out.size));clear hb3)
   |fail)
  exact⟨rfl,B3.out,.inl ⟨hz,rfl⟩⟩
end Rk
namespace Rl
open Bytes8 Blk8 Own8 OwnE Rows2 Ob Ga Gb Oj Ok7 Np Rc Rk
open Rd (dz)
open Re (bytes_code load_code ReadD)
theorem caught_idle (g3:Nat)(w:World):CallsD Tryz.prog 168 #[.pointer (some ⟨g3,0,none⟩)] .returning w fun e u' w'=>e= .returned (.tuple #[])∧u'= .returning∧w'=w:=by
 refine callsD_of_wpS Tryz.func168 rfl fun c₀ cs hu=>?_
 apply wpS_seq
 apply wpS_region
 simp[wpOpsS,go_sem,recoverD,hu,Tryz.ntmps168,Exit.thenS]
 refine wpS_of_wp ?_
 go_wp2
 cases c₀
 simp_all[bodyPostS,results,Tryz.results168]
theorem caught_halt (g3:Nat)(c y:Int)(older:List PanicEntry)(w:World)(h:Blk w g3 [.int .i64 y] 3):CallsD Tryz.prog 168 #[.pointer (some ⟨g3,0,none⟩)] (.panicking ({v:= .iface 205 (.int .i64 c),recovered:=false}::older)) w fun e u' w'=>e= .returned (.tuple #[])∧u'= .panicking ({v:= .iface 205 (.int .i64 c),recovered:=true}::older)∧w'=w.setCell ⟨g3,0,none⟩ (.int .i64 c):=by
 have c0:=h.cell (i:=0) rfl
 have z0:=h.frozen 0
 have hta: ∀w:World,(Instr.typeAssert (.iface 205 (.int .i64 c)) 20 205 true).run Tryz.prog w= .ok (.tuple #[.int .i64 c,.bool true]) w:=fun _=>by kernel_rfl
 refine callsD_of_wpS Tryz.func168 rfl fun c₀ cs hu=>?_
 apply wpS_seq
 apply wpS_region
 simp[wpOpsS,go_sem,recoverD,hu,Tryz.ntmps168,Exit.thenS]
 refine wpS_of_wp ?_
 go_wp2
 cases c₀
 simp_all[bodyPostS,results,Tryz.results168]
def ReadP (B:Nat)(l:List Int)(a:Nat)(cd:Int)(e:Ending)(w':World):Prop:=
 (cd≠0∧e= .panicked [haltE cd])∨(cd=0∧ ∃A' m' c',e= .returned (.slice A' m' c')∧Bytes w' A' (bpay l a 1 6)∧(bpay l a 1 6).length=m'∧Cap B A' m' c')
def AskP (B:Nat)(l:List Int)(a:Nat)(cd:Int)(e:Ending)(w':World):Prop:=
 (cd≠0∧e= .returned (.tuple #[.slice none 0 0,.int .i64 cd]))∨(cd=0∧ ∃A' m' c',e= .returned (.tuple #[.slice A' m' c',.int .i64 0])∧Bytes w' A' (bpay l a 1 6)∧(bpay l a 1 6).length=m'∧Cap B A' m' c')
attribute [local irreducible] wpList Code.wp
theorem vpay_cl {gv:Nat}{h:HD}{A:Option Addr}{n c:Nat}{l:List Int}(a:Nat)(g2 g3:Nat)(w:World)(v:ViewAt w gv h A n c l)(hcm:c≤maxLen)(h8:n≤800000)(H2:Blk w g2 [.pointer (some ⟨gv,0,none⟩)] 28)(H3:Blk w g3 [.int .u64 (a:Int)] 23):
 Calls Tryz.prog 105 #[.pointer (some ⟨g2,0,none⟩),.pointer (some ⟨g3,0,none⟩)] w fun e w'=>Below w.heap.size w w'∧ReadP w.heap.size l a (hcode9 h l n a) e w':=by
 have c2:=H2.cell (i:=0) rfl
 have c3:=H3.cell (i:=0) rfl
 have hfld: ∀(y0 y1 y2 y3 y4 y5:Int) (A2:Option Addr) (m2 c2:Nat) (W:World),(Instr.field 92 (dataV y0 y1 y2 y3 y4 y5 A2 m2 c2) 6).run Tryz.prog W= .ok (.slice A2 m2 c2) W:=fun _ _ _ _ _ _ _ _ _ _=>by rfl
 have HV:=jH (hashed_any a w v hcm h8)
 unfold ReadD at HV
 unfold ReadP
 generalize bnum l a 1 6 0=x0 at*
 generalize bnum l a 1 6 1=x1 at*
 generalize bnum l a 1 6 2=x2 at*
 generalize bnum l a 1 6 3=x3 at*
 generalize bnum l a 1 6 4=x4 at*
 generalize bnum l a 1 6 5=x5 at*
 generalize hcode9 h l n a=cd at*
 generalize bpay l a 1 6=pl at*
 clear v H2 H3
 by_cases hz:cd=0
 ·subst hz
  go_enter Tryz.func105,Tryz.ntmps105
  go_wp2_with(first
   |(go_at_call 106;(refine HV.out.mono ?_);rintro e w3 ⟨hb3,⟨hne,_⟩|⟨_,A2,m2,c2',rfl,hy2,hl2,hm2⟩⟩;(exact absurd rfl hne);have B3:=jH hb3;have HY3:=jH hy2;have HC3:=jH hm2;clear hb3 hy2 hm2)
   |fail)
  go_ret
  exact⟨B3.out,.inr ⟨trivial,A2,m2,c2',rfl,HY3.out,hl2,HC3.out⟩⟩
 ·go_enter Tryz.func105,Tryz.ntmps105
  go_wp2_with(first
   |(go_at_call 106;(refine HV.out.mono ?_);rintro e w3 ⟨hb3,⟨_,rfl⟩|⟨he,_⟩⟩;rotate_left;(exact absurd he hz);have B3:=jH hb3;clear hb3)
   |fail)
  exact⟨rfl,B3.out,.inl ⟨hz,rfl⟩⟩
theorem res_slot_cell {P:Program}{fn:Func}{p q:Tmp}{ty2:TypeId}(h:fn.results= #[.tmp p,.cell q ty2])(tmps:Array Value)(w:World)(gq:Nat)(v c:Value)
 (hp:tmps.getD p undef=v)(hq:tmps.getD q undef= .pointer (some ⟨gq,0,none⟩))(hl:(loadVar ty2 ⟨gq,0,none⟩).run P w= .ok c w):(results fn tmps).run P w= .ok (.tuple #[v,c]) w:=by
 have hp':tmps[p]?.getD undef=v:=by simpa using hp
 have hq':tmps[q]?.getD undef= .pointer (some ⟨gq,0,none⟩):=by simpa using hq
 simp[results,h,hp',hq',asAddr,hl]
theorem asked_any {gv:Nat}{h:HD}{A:Option Addr}{n c:Nat}{l:List Int}(a:Nat)(g2 g3:Nat)(w:World)(v:ViewAt w gv h A n c l)(hcm:c≤maxLen)(h8:n≤800000)(H2:Blk w g2 [.pointer (some ⟨gv,0,none⟩)] 28)(H3:Blk w g3 [.int .u64 (a:Int)] 23):
 Calls Tryz.prog 104 #[.func (.func 105) #[] #[.pointer (some ⟨g2,0,none⟩),.pointer (some ⟨g3,0,none⟩)]] w fun e w'=>Below w.heap.size w w'∧AskP w.heap.size l a (hcode9 h l n a) e w':=by
 have b2:=jH ((Below.refl w.heap.size w).alloc (jR _) (.cells #[.int .i64 0] 3))
 have v2:=v.below b2.out
 have HV:=jH (vpay_cl a g2 g3 _ v2 hcm h8 (H2.below b2.out H2.lt) (H3.below b2.out H3.lt))
 have S2:(w.alloc (.cells #[.int .i64 0] 3)).heap.size=w.heap.size+1:=by simp only[World.alloc,Array.size_push]
 have R2:=jH (Blk.new w [.int .i64 0] 3)
 have hfn: ∀(fn:Fn) (first cap:Array Value) (w:World),(Instr.makeFunc fn first cap).run Tryz.prog w= .ok (.func fn first cap) w:=fun _ _ _ _=>rfl
 unfold ReadP at HV
 unfold AskP
 generalize hcode9 h l n a=cd at*
 generalize bpay l a 1 6=pl at*
 clear v v2 H2 H3
 by_cases hz:cd=0
 ·subst hz
  go_enter_defers Tryz.func104,Tryz.ntmps104
  go_wp2_with(first
   |(go_at_call 105;(refine HV.out.mono ?_);rintro e w3 ⟨hb3,⟨hne,_⟩|⟨_,A2,m2,c2',rfl,hy2,hl2,hm2⟩⟩;(exact absurd rfl hne);have B3:=jH (b2.out.trans (hb3.mono b2.out.size));have HY3:=jH hy2;have HC3:=jH (hm2.mono b2.out.size);have R3:=jH (R2.out.below hb3 (by rw[S2];omega));have c4:=R3.out.cell (i:=0) rfl;have z4:=R3.out.frozen 0;clear hb3 hy2 hm2)
   |fail)
  refine leaves_cons (f:=168) (args:= #[.pointer (some ⟨w.heap.size,0,none⟩)]) (by simp) (by simp[go_sem]) ?_
  refine(caught_idle _ _).mono ?_
  rintro e u' w'' ⟨rfl,rfl,rfl⟩
  have b4:=B3.out.setCell (p:=⟨w.heap.size,0,none⟩) (jR _) (.int .i64 0)
  exact⟨.tuple #[.slice A2 m2 c2',.int .i64 0],(by exact res_slot_cell Tryz.results104 _ _ w.heap.size _ _ rfl rfl (load_code _ _ _ (R3.out.set_ 0 _))),b4,.inr ⟨trivial,A2,m2,c2',rfl,bytes_code HY3.out R3.out _,hl2,HC3.out⟩⟩
 ·go_enter_defers Tryz.func104,Tryz.ntmps104
  go_wp2_with(first
   |(go_at_call 105;(refine HV.out.mono ?_);rintro e w3 ⟨hb3,⟨_,rfl⟩|⟨he,_⟩⟩;rotate_left;(exact absurd he hz);have B3:=jH (b2.out.trans (hb3.mono b2.out.size));have R3:=jH (R2.out.below hb3 (by rw[S2];omega));clear hb3)
   |fail)
  refine leaves_cons (f:=168) (args:= #[.pointer (some ⟨w.heap.size,0,none⟩)]) (by simp) (by simp[go_sem]) ?_
  refine(caught_halt _ cd 0 [] _ R3.out).mono ?_
  rintro e u' w'' ⟨rfl,rfl,rfl⟩
  have b4:=B3.out.setCell (p:=⟨w.heap.size,0,none⟩) (jR _) (.int .i64 cd)
  exact⟨.tuple #[.slice none 0 0,.int .i64 cd],(by exact res_slot_cell Tryz.results104 _ _ w.heap.size _ _ rfl rfl (load_code _ _ _ (R3.out.set_ 0 _))),b4,.inl ⟨hz,rfl⟩⟩
theorem payAsk {gv:Nat}{h:HD}{A:Option Addr}{n c:Nat}{l:List Int}(a:Nat)(w:World)(v:ViewAt w gv h A n c l)(hcm:c≤maxLen)(h8:n≤800000):
 Calls Tryz.prog 48 #[.pointer (some ⟨gv,0,none⟩),.int .u64 (a:Int)] w fun e w'=>Below w.heap.size w w'∧AskP w.heap.size l a (hcode9 h l n a) e w':=by
 have b1:=jH ((Below.refl w.heap.size w).alloc (jR _) (.cells #[.pointer (some ⟨gv,0,none⟩)] 28))
 have b2:=jH (b1.out.alloc b1.out.size (.cells #[.int .u64 (a:Int)] 23))
 have v2:=v.below b2.out
 have S1:(w.alloc (.cells #[.pointer (some ⟨gv,0,none⟩)] 28)).heap.size=w.heap.size+1:=by simp only[World.alloc,Array.size_push]
 have K1:=(Blk.new w [.pointer (some ⟨gv,0,none⟩)] 28).alloc (.cells #[.int .u64 (a:Int)] 23)
 have K2:=Blk.new_at (w.alloc (.cells #[.pointer (some ⟨gv,0,none⟩)] 28)) [.int .u64 (a:Int)] 23 _ S1
 have HV:=jH (asked_any a w.heap.size (w.heap.size+1) _ v2 hcm h8 K1 K2)
 have hfn: ∀(fn:Fn) (first cap:Array Value) (w:World),(Instr.makeFunc fn first cap).run Tryz.prog w= .ok (.func fn first cap) w:=fun _ _ _ _=>rfl
 unfold AskP at HV⊢
 generalize hcode9 h l n a=cd at*
 generalize bpay l a 1 6=pl at*
 clear v v2 K1 K2
 by_cases hz:cd=0
 ·subst hz
  go_enter Tryz.func48,Tryz.ntmps48
  go_wp2_with(first
   |(go_at_call 104;(refine HV.out.mono ?_);rintro e w4 ⟨hb4,⟨hne,_⟩|⟨_,A2,m2,c2',rfl,hy2,hl2,hm2⟩⟩;(exact absurd rfl hne);have B4:=jH (b2.out.trans (hb4.mono b2.out.size));have HY4:=jH hy2;have HC4:=jH (hm2.mono b2.out.size);clear hb4 hy2 hm2)
   |fail)
  go_ret2
  exact⟨B4.out,.inr ⟨trivial,A2,m2,c2',rfl,HY4.out,hl2,HC4.out⟩⟩
 ·go_enter Tryz.func48,Tryz.ntmps48
  go_wp2_with(first
   |(go_at_call 104;(refine HV.out.mono ?_);rintro e w4 ⟨hb4,⟨_,rfl⟩|⟨he,_⟩⟩;rotate_left;(exact absurd he hz);have B4:=jH (b2.out.trans (hb4.mono b2.out.size));clear hb4)
   |fail)
  go_ret2
  exact⟨B4.out,.inl ⟨hz,rfl⟩⟩
end Rl
end Go.Proofs.YtelmgldkgccecaaGreat
