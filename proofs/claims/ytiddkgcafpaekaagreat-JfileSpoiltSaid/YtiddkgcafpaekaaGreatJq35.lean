/-
  Texts beneath the proof.
-/
import Derived.Test.YtiddkgcafpaekaaGreatJq34
set_option linter.unusedVariables false
set_option linter.unusedSimpArgs false
set_option maxRecDepth 100000
set_option maxHeartbeats 8000000
open Go.ChangeShapes Go.WideShapes Go.ChangeAt Go.RowKit
namespace Go.Proofs.YtiddkgcafpaekaaGreat
namespace Ro
open Bytes8 Blk8 Own8 OwnE Rows2 Ob Ga Gb Gi Ok7 Np Nr Pr8 Rc Rm Rn
open Yp Ye Yg Yh
open Ri (new_ne new_mono)
open Re (res_row_cell load_code)
theorem prs_row {w:World}{a:Option Addr}{l:List PR}(h:Prs w a l){s:Nat}(hs: ∀b off,a=some ⟨b,off,none⟩→b≠s)(cs:Array Value):Prs (w.setRow s cs) a l:=h.keptB (by simp) (fun b off e _=>setRow_other w s b cs (hs b off e))
theorem prs_off {w:World}{a:Option Addr}{l:List PR}(h:Prs w a l){g:Nat}(hg: ∀b off,a=some ⟨b,off,none⟩→b≠g)(k:Nat)(v:Value):Prs (w.setCell ⟨g,k,none⟩ v) a l:=h.keptB (by simp) (fun b off e _=>Below.heap_setCell w ⟨g,k,none⟩ v b (hg b off e))
def ReadR2 (B:Nat)(l:List Int)(a:Nat)(cd:Int)(e:Ending)(w':World):Prop:=
 (cd≠0∧e= .panicked [haltE cd])∨(cd=0∧ ∃A' c',e= .returned (.agg (recL (eNum l a 0) (eNum l a 8) (eNum l a 16) (eK l a) (.slice A' (eN l a) c')).toArray)∧Prs w' A' (prsL (payP l (itA (bodyL l a))) (eN l a))∧NewIn B A')
theorem caught_idle (g3:Nat)(w:World):CallsD Tryz.prog 221 #[.pointer (some ⟨g3,0,none⟩)] .returning w fun e u' w'=>e= .returned (.tuple #[])∧u'= .returning∧w'=w:=by
 refine callsD_of_wpS Tryz.func221 rfl fun c₀ cs hu=>?_
 apply wpS_seq
 apply wpS_region
 simp[wpOpsS,go_sem,recoverD,hu,Tryz.ntmps221,Exit.thenS]
 refine wpS_of_wp ?_
 go_wp2
 cases c₀
 simp_all[bodyPostS,results,Tryz.results221]
theorem caught_halt (g3:Nat)(c y:Int)(older:List PanicEntry)(w:World)(h:Blk w g3 [.int .i64 y] 3):CallsD Tryz.prog 221 #[.pointer (some ⟨g3,0,none⟩)] (.panicking ({v:= .iface 337 (.int .i64 c),recovered:=false}::older)) w fun e u' w'=>e= .returned (.tuple #[])∧u'= .panicking ({v:= .iface 337 (.int .i64 c),recovered:=true}::older)∧w'=w.setCell ⟨g3,0,none⟩ (.int .i64 c):=by
 have c0:=h.cell (i:=0) rfl
 have z0:=h.frozen 0
 have hta: ∀w:World,(Instr.typeAssert (.iface 337 (.int .i64 c)) 20 337 true).run Tryz.prog w= .ok (.tuple #[.int .i64 c,.bool true]) w:=fun _=>by kernel_rfl
 refine callsD_of_wpS Tryz.func221 rfl fun c₀ cs hu=>?_
 apply wpS_seq
 apply wpS_region
 simp[wpOpsS,go_sem,recoverD,hu,Tryz.ntmps221,Exit.thenS]
 refine wpS_of_wp ?_
 go_wp2
 cases c₀
 simp_all[bodyPostS,results,Tryz.results221]
attribute [local irreducible] wpList Code.wp
theorem vrec_cl {gv:Nat}{h:HD}{A:Option Addr}{n c:Nat}{l:List Int}(a:Nat)(g2 g3:Nat)(w:World)(v:ViewAt w gv h A n c l)(hcm:c≤maxLen)(h8:n≤800000)(H2:Blk w g2 [.pointer (some ⟨gv,0,none⟩)] 51)(H3:Blk w g3 [.int .u64 (a:Int)] 27):
 Calls Tryz.prog 182 #[.pointer (some ⟨g2,0,none⟩),.pointer (some ⟨g3,0,none⟩)] w fun e w'=>Below w.heap.size w w'∧ReadR2 w.heap.size l a (rcode h l n a) e w':=by
 have b1:=yH ((Below.refl w.heap.size w).alloc (yR _) (.cells zR 74))
 have v1:=v.below b1.out
 have c2:=(H2.alloc (.cells zR 74)).cell (i:=0) rfl
 have c3:=(H3.alloc (.cells zR 74)).cell (i:=0) rfl
 have HV:=yH (vrec_any a _ v1 hcm h8)
 have Z1:=yH (heap_alloc_new w (.cells zR 74))
 have s1:=yH (show w.heap.size<(w.alloc (.cells zR 74)).heap.size by simp)
 unfold ReadR at HV
 unfold ReadR2
 generalize eNum l a 0=s0 at*
 generalize eNum l a 8=s8 at*
 generalize eNum l a 16=s16 at*
 generalize eK l a=kk at*
 generalize eN l a=mm at*
 generalize rcode h l n a=cd at*
 generalize prsL (payP l (itA (bodyL l a))) mm=pr at*
 clear v v1 H2 H3
 by_cases hz:cd=0
 ·subst hz
  go_enter Tryz.func182,Tryz.ntmps182
  go_wp2_with(first
   |(go_at_call 183;(refine HV.out.mono ?_);rintro e w3 ⟨hb3,⟨hne,_⟩|⟨_,A2,c2',rfl,hy2,hw2⟩⟩;(exact absurd rfl hne);have B3:=yH (b1.out.trans (hb3.mono b1.out.size));have HY3:=yH hy2;have HW3:=yH hw2;have Z3:=yH ((hb3.block _ s1.out).trans Z1.out);clear hb3 hy2 hw2)
   |((with_reducible apply at_store (.tmp 2) (.tmp 5));refine wpList_store_row rfl 74 (.tmp 2) (.tmp 5) rfl w.heap.size (recL s0 s8 s16 kk (.slice A2 mm c2')).toArray rfl rfl 74 zR Z3.out (by kernel_rfl) rfl (by first|exact recL_all _ _ _ _ _ _ _|exact recL_all 0 0 0 (fun _=>0) none 0 0) ?_)
   |fail)
  refine bodyPost_ret (v:= .agg (recL s0 s8 s16 kk (.slice A2 mm c2')).toArray) (by exact results_cell_row Tryz.results182 _ _ w.heap.size 74 _ (0,0) _ rfl (setRow_heap _ w.heap.size _ _ _ (0,0) Z3.out) Tryz.underlying74 rfl (by kernel_rfl)) rfl ?_
  have b4:=below_setRow (B:=w.heap.size) B3.out (yR _) (recL s0 s8 s16 kk (.slice A2 mm c2')).toArray
  exact⟨b4,.inr ⟨trivial,A2,c2',rfl,prs_row HY3.out (new_ne HW3.out s1.out) _,new_mono HW3.out (Nat.le_of_lt s1.out)⟩⟩
 ·go_enter Tryz.func182,Tryz.ntmps182
  go_wp2_with(first
   |(go_at_call 183;(refine HV.out.mono ?_);rintro e w3 ⟨hb3,⟨_,rfl⟩|⟨he,_⟩⟩;rotate_left;(exact absurd he hz);have B3:=yH (b1.out.trans (hb3.mono b1.out.size));clear hb3)
   |fail)
  exact⟨rfl,B3.out,.inl ⟨hz,rfl⟩⟩
def AskR (B:Nat)(l:List Int)(a:Nat)(cd:Int)(e:Ending)(w':World):Prop:=
 (cd≠0∧e= .returned (.tuple #[.agg zR,.int .i64 cd]))∨(cd=0∧ ∃A' c',e= .returned (.tuple #[.agg (recL (eNum l a 0) (eNum l a 8) (eNum l a 16) (eK l a) (.slice A' (eN l a) c')).toArray,.int .i64 0])∧Prs w' A' (prsL (payP l (itA (bodyL l a))) (eN l a))∧NewIn B A')
theorem asked_any {gv:Nat}{h:HD}{A:Option Addr}{n c:Nat}{l:List Int}(a:Nat)(g2 g3:Nat)(w:World)(v:ViewAt w gv h A n c l)(hcm:c≤maxLen)(h8:n≤800000)(H2:Blk w g2 [.pointer (some ⟨gv,0,none⟩)] 51)(H3:Blk w g3 [.int .u64 (a:Int)] 27):
 Calls Tryz.prog 181 #[.func (.func 182) #[] #[.pointer (some ⟨g2,0,none⟩),.pointer (some ⟨g3,0,none⟩)]] w fun e w'=>Below w.heap.size w w'∧AskR w.heap.size l a (rcode h l n a) e w':=by
 have b1:=yH ((Below.refl w.heap.size w).alloc (yR _) (.cells zR 74))
 have b2:=yH (b1.out.alloc b1.out.size (.cells #[.int .i64 0] 3))
 have v2:=v.below b2.out
 have HV:=yH (vrec_cl a g2 g3 _ v2 hcm h8 (H2.below b2.out H2.lt) (H3.below b2.out H3.lt))
 have S1:(w.alloc (.cells zR 74)).heap.size=w.heap.size+1:=by simp only[World.alloc,Array.size_push]
 have S2:((w.alloc (.cells zR 74)).alloc (.cells #[.int .i64 0] 3)).heap.size=w.heap.size+1+1:=by simp only[World.alloc,Array.size_push]
 have Z2:=yH ((Below.heap_alloc (w.alloc (.cells zR 74)) (.cells #[.int .i64 0] 3) w.heap.size (by rw[S1];omega)).trans (heap_alloc_new w (.cells zR 74)))
 have R2:=yH (Blk.new_at (w.alloc (.cells zR 74)) [.int .i64 0] 3 _ S1)
 have hfn: ∀(fn:Fn) (first cap:Array Value) (w:World),(Instr.makeFunc fn first cap).run Tryz.prog w= .ok (.func fn first cap) w:=fun _ _ _ _=>rfl
 unfold ReadR2 at HV
 unfold AskR
 generalize eNum l a 0=s0 at*
 generalize eNum l a 8=s8 at*
 generalize eNum l a 16=s16 at*
 generalize eK l a=kk at*
 generalize eN l a=mm at*
 generalize rcode h l n a=cd at*
 generalize prsL (payP l (itA (bodyL l a))) mm=pr at*
 clear v v2 H2 H3
 by_cases hz:cd=0
 ·subst hz
  go_enter_defers Tryz.func181,Tryz.ntmps181
  go_wp2_with(first
   |(go_at_call 182;(refine HV.out.mono ?_);rintro e w3 ⟨hb3,⟨hne,_⟩|⟨_,A2,c2',rfl,hy2,hw2⟩⟩;(exact absurd rfl hne);have B3:=yH (b2.out.trans (hb3.mono b2.out.size));have HY3:=yH hy2;have HW3:=yH (show NewIn (w.heap.size+1+1) A2 from S2▸hw2);have Z3:=yH ((hb3.block _ (by rw[S2];omega)).trans Z2.out);have R3:=yH (R2.out.below hb3 (by rw[S2];omega));clear hb3 hy2 hw2)
   |((with_reducible apply at_store (.tmp 2) (.tmp 6));refine wpList_store_row rfl 74 (.tmp 2) (.tmp 6) rfl w.heap.size (recL s0 s8 s16 kk (.slice A2 mm c2')).toArray rfl rfl 74 zR Z3.out (by kernel_rfl) rfl (by first|exact recL_all _ _ _ _ _ _ _|exact recL_all 0 0 0 (fun _=>0) none 0 0) ?_;have R4:=yH (show Blk (w3.setRow w.heap.size (recL s0 s8 s16 kk (.slice A2 mm c2')).toArray) (w.heap.size+1) [.int .i64 0] 3 from(setRow_other w3 w.heap.size (w.heap.size+1) _ (Nat.succ_ne_self _)).trans R3.out);have c4:=R4.out.cell (i:=0) rfl;have z4:=R4.out.frozen 0)
   |fail)
  refine leaves_cons (f:=221) (args:= #[.pointer (some ⟨w.heap.size+1,0,none⟩)]) (by simp) (by simp[go_sem]) ?_
  refine(caught_idle _ _).mono ?_
  rintro e u' w'' ⟨rfl,rfl,rfl⟩
  have b4:=(below_setRow (B:=w.heap.size) B3.out (yR _) (recL s0 s8 s16 kk (.slice A2 mm c2')).toArray).setCell (p:=⟨w.heap.size+1,0,none⟩) (Nat.le_succ _) (.int .i64 0)
  exact⟨.tuple #[.agg (recL s0 s8 s16 kk (.slice A2 mm c2')).toArray,.int .i64 0],(by exact res_row_cell Tryz.results181 _ _ w.heap.size (w.heap.size+1) 74 _ (0,0) _ _ rfl rfl ((Below.heap_setCell _ _ _ _ (Nat.succ_ne_self _).symm).trans (setRow_heap _ w.heap.size _ _ _ (0,0) Z3.out)) Tryz.underlying74 rfl (by kernel_rfl) (load_code _ _ _ (R4.out.set_ 0 _))),b4,.inr ⟨trivial,A2,c2',rfl,prs_off (prs_row HY3.out (new_ne HW3.out (by omega)) _) (new_ne HW3.out (by omega)) _ _,new_mono HW3.out (by omega)⟩⟩
 ·go_enter_defers Tryz.func181,Tryz.ntmps181
  go_wp2_with(first
   |(go_at_call 182;(refine HV.out.mono ?_);rintro e w3 ⟨hb3,⟨_,rfl⟩|⟨he,_⟩⟩;rotate_left;(exact absurd he hz);have B3:=yH (b2.out.trans (hb3.mono b2.out.size));have Z3:=yH ((hb3.block _ (by rw[S2];omega)).trans Z2.out);have R3:=yH (R2.out.below hb3 (by rw[S2];omega));clear hb3)
   |fail)
  refine leaves_cons (f:=221) (args:= #[.pointer (some ⟨w.heap.size+1,0,none⟩)]) (by simp) (by simp[go_sem]) ?_
  refine(caught_halt _ cd 0 [] _ R3.out).mono ?_
  rintro e u' w'' ⟨rfl,rfl,rfl⟩
  have b4:=B3.out.setCell (p:=⟨w.heap.size+1,0,none⟩) (Nat.le_succ _) (.int .i64 cd)
  exact⟨.tuple #[.agg zR,.int .i64 cd],(by exact res_row_cell Tryz.results181 _ _ w.heap.size (w.heap.size+1) 74 _ (0,0) _ _ rfl rfl ((Below.heap_setCell _ _ _ _ (Nat.succ_ne_self _).symm).trans Z3.out) Tryz.underlying74 rfl (by kernel_rfl) (load_code _ _ _ (R3.out.set_ 0 _))),b4,.inl ⟨hz,rfl⟩⟩
theorem recAsk {gv:Nat}{h:HD}{A:Option Addr}{n c:Nat}{l:List Int}(a:Nat)(w:World)(v:ViewAt w gv h A n c l)(hcm:c≤maxLen)(h8:n≤800000):
 Calls Tryz.prog 142 #[.pointer (some ⟨gv,0,none⟩),.int .u64 (a:Int)] w fun e w'=>Below w.heap.size w w'∧AskR w.heap.size l a (rcode h l n a) e w':=by
 have b1:=yH ((Below.refl w.heap.size w).alloc (yR _) (.cells #[.pointer (some ⟨gv,0,none⟩)] 51))
 have b2:=yH (b1.out.alloc b1.out.size (.cells #[.int .u64 (a:Int)] 27))
 have b3:=yH (b2.out.alloc b2.out.size (.cells zR 74))
 have v3:=v.below b3.out
 have S1:(w.alloc (.cells #[.pointer (some ⟨gv,0,none⟩)] 51)).heap.size=w.heap.size+1:=by simp only[World.alloc,Array.size_push]
 have S2:((w.alloc (.cells #[.pointer (some ⟨gv,0,none⟩)] 51)).alloc (.cells #[.int .u64 (a:Int)] 27)).heap.size=w.heap.size+1+1:=by simp only[World.alloc,Array.size_push]
 have S3:(((w.alloc (.cells #[.pointer (some ⟨gv,0,none⟩)] 51)).alloc (.cells #[.int .u64 (a:Int)] 27)).alloc (.cells zR 74)).heap.size=w.heap.size+1+1+1:=by simp only[World.alloc,Array.size_push]
 have K1:=((Blk.new w [.pointer (some ⟨gv,0,none⟩)] 51).alloc (.cells #[.int .u64 (a:Int)] 27)).alloc (.cells zR 74)
 have K2:=(Blk.new_at (w.alloc (.cells #[.pointer (some ⟨gv,0,none⟩)] 51)) [.int .u64 (a:Int)] 27 _ S1).alloc (.cells zR 74)
 have HV:=yH (asked_any a w.heap.size (w.heap.size+1) _ v3 hcm h8 K1 K2)
 have Z3:=yH (show(((w.alloc (.cells #[.pointer (some ⟨gv,0,none⟩)] 51)).alloc (.cells #[.int .u64 (a:Int)] 27)).alloc (.cells zR 74)).heap[w.heap.size+1+1]? =some (.cells zR 74 (0,0))from S2▸heap_alloc_new _ (.cells zR 74))
 have hfn: ∀(fn:Fn) (first cap:Array Value) (w:World),(Instr.makeFunc fn first cap).run Tryz.prog w= .ok (.func fn first cap) w:=fun _ _ _ _=>rfl
 unfold AskR at HV⊢
 generalize eNum l a 0=s0 at*
 generalize eNum l a 8=s8 at*
 generalize eNum l a 16=s16 at*
 generalize eK l a=kk at*
 generalize eN l a=mm at*
 generalize rcode h l n a=cd at*
 generalize prsL (payP l (itA (bodyL l a))) mm=pr at*
 clear v v3 K1 K2
 by_cases hz:cd=0
 ·subst hz
  go_enter Tryz.func142,Tryz.ntmps142
  go_wp2_with(first
   |(go_at_call 181;(refine HV.out.mono ?_);rintro e w4 ⟨hb4,⟨hne,_⟩|⟨_,A2,c2',rfl,hy2,hw2⟩⟩;(exact absurd rfl hne);have B4:=yH (b3.out.trans (hb4.mono b3.out.size));have HY4:=yH hy2;have HW4:=yH (show NewIn (w.heap.size+1+1+1) A2 from S3▸hw2);have Z4:=yH ((hb4.block _ (by rw[S3];omega)).trans Z3.out);clear hb4 hy2 hw2)
   |((with_reducible apply at_store (.tmp 4) (.tmp 8));refine wpList_store_row rfl 74 (.tmp 4) (.tmp 8) rfl (w.heap.size+1+1) (recL s0 s8 s16 kk (.slice A2 mm c2')).toArray rfl rfl 74 zR Z4.out (by kernel_rfl) rfl (by first|exact recL_all _ _ _ _ _ _ _|exact recL_all 0 0 0 (fun _=>0) none 0 0) ?_)
   |fail)
  refine bodyPost_ret (v:= .tuple #[.agg (recL s0 s8 s16 kk (.slice A2 mm c2')).toArray,.int .i64 0]) (by exact res_rowG Tryz.results142 _ _ (w.heap.size+1+1) 74 _ (0,0) _ _ rfl rfl (setRow_heap _ (w.heap.size+1+1) _ _ _ (0,0) Z4.out) Tryz.underlying74 rfl (by kernel_rfl)) rfl ?_
  have b5:=below_setRow (B:=w.heap.size) (g:=w.heap.size+1+1) B4.out (by omega) (recL s0 s8 s16 kk (.slice A2 mm c2')).toArray
  exact⟨b5,.inr ⟨trivial,A2,c2',rfl,prs_row HY4.out (new_ne HW4.out (by omega)) _,new_mono HW4.out (by omega)⟩⟩
 ·go_enter Tryz.func142,Tryz.ntmps142
  go_wp2_with(first
   |(go_at_call 181;(refine HV.out.mono ?_);rintro e w4 ⟨hb4,⟨_,rfl⟩|⟨he,_⟩⟩;rotate_left;(exact absurd he hz);have B4:=yH (b3.out.trans (hb4.mono b3.out.size));have Z4:=yH ((hb4.block _ (by rw[S3];omega)).trans Z3.out);clear hb4)
   |((with_reducible apply at_store (.tmp 4) (.tmp 8));refine wpList_store_row rfl 74 (.tmp 4) (.tmp 8) rfl (w.heap.size+1+1) zR rfl rfl 74 zR Z4.out (by kernel_rfl) rfl (by first|exact recL_all _ _ _ _ _ _ _|exact recL_all 0 0 0 (fun _=>0) none 0 0) ?_)
   |fail)
  refine bodyPost_ret (v:= .tuple #[.agg zR,.int .i64 cd]) (by exact res_rowG Tryz.results142 _ _ (w.heap.size+1+1) 74 _ (0,0) _ _ rfl rfl (setRow_heap _ (w.heap.size+1+1) _ _ _ (0,0) Z4.out) Tryz.underlying74 rfl (by kernel_rfl)) rfl ?_
  have b5:=below_setRow (B:=w.heap.size) (g:=w.heap.size+1+1) B4.out (by omega) zR
  exact⟨b5,.inl ⟨hz,rfl⟩⟩
end Ro
namespace Rq
open Bytes8 Blk8 OwnE Ob Nr Np Yq
theorem eql_id (K:Nat→Int)(hK:IdOk K)(w:World):(binOp .eql 37 (.agg #[.int .u8 (K 0),.int .u8 (K 1),.int .u8 (K 2),.int .u8 (K 3),.int .u8 (K 4),.int .u8 (K 5),.int .u8 (K 6),.int .u8 (K 7),.int .u8 (K 8),.int .u8 (K 9),.int .u8 (K 10),.int .u8 (K 11),.int .u8 (K 12),.int .u8 (K 13),.int .u8 (K 14),.int .u8 (K 15)]) (.agg #[.int .u8 (K 0),.int .u8 (K 1),.int .u8 (K 2),.int .u8 (K 3),.int .u8 (K 4),.int .u8 (K 5),.int .u8 (K 6),.int .u8 (K 7),.int .u8 (K 8),.int .u8 (K 9),.int .u8 (K 10),.int .u8 (K 11),.int .u8 (K 12),.int .u8 (K 13),.int .u8 (K 14),.int .u8 (K 15)])).run Tryz.prog w= .ok (.bool true) w:=by
 obtain⟨r,hr,hiff⟩:=run_equalIn_deep (P:=Tryz.prog) 9998 2 37 (by kernel_rfl) w 2 2 (.agg #[.int .u8 (K 0),.int .u8 (K 1),.int .u8 (K 2),.int .u8 (K 3),.int .u8 (K 4),.int .u8 (K 5),.int .u8 (K 6),.int .u8 (K 7),.int .u8 (K 8),.int .u8 (K 9),.int .u8 (K 10),.int .u8 (K 11),.int .u8 (K 12),.int .u8 (K 13),.int .u8 (K 14),.int .u8 (K 15)]) (.agg #[.int .u8 (K 0),.int .u8 (K 1),.int .u8 (K 2),.int .u8 (K 3),.int .u8 (K 4),.int .u8 (K 5),.int .u8 (K 6),.int .u8 (K 7),.int .u8 (K 8),.int .u8 (K 9),.int .u8 (K 10),.int .u8 (K 11),.int .u8 (K 12),.int .u8 (K 13),.int .u8 (K 14),.int .u8 (K 15)]) ((idL K).map (Lit.int .u8)) ((idL K).map (Lit.int .u8)) (by kernel_rfl) (by kernel_rfl) (id_lits K hK) (id_lits K hK)
 have h:r=true:=hiff.2 rfl
 subst h
 rw[run_eql_struct,show(10000:Nat)=9998+2 from rfl,hr]
 rfl
theorem rec_range {w:World}{g:Nat}{T:TypeId}{s r m:Int}{K:Nat→Int}{F:Value}(h:Blk w g (recL s r m K F) T):w.rangeAt g 3 (idJ K):=fun j v hj=>by
 have hl:j<16:=(List.getElem?_eq_some_iff.1 hj).1
 refine h.cell (i:=3+j) ?_
 rw[idJ_get K j hl]at hj
 rcases j with _|_|_|_|_|_|_|_|_|_|_|_|_|_|_|_|j
 all_goals first|exact hj|omega
attribute [local irreducible] wpList Code.wp
end Rq
namespace Zs
open Bytes8 Blk8 Own8 OwnE Rows2 Ob Nr Np Pr8 Yq Pb8 Rq
theorem subB_yes {l m:List PR}(h: ∀x∈l,x∈m):subB l m=true:=by
 unfold subB
 rw[List.all_eq_true]
 exact fun x hx=>by simpa using h x hx
theorem recL_cong {s r m:Int}{K K2:Nat→Int}{F:Value}(h: ∀i,i<16→K i=K2 i):recL s r m K F=recL s r m K2 F:=by
 unfold recL
 rw[h 0 (by decide),h 1 (by decide),h 2 (by decide),h 3 (by decide),h 4 (by decide),h 5 (by decide),h 6 (by decide),h 7 (by decide),h 8 (by decide),h 9 (by decide),h 10 (by decide),h 11 (by decide),h 12 (by decide),h 13 (by decide),h 14 (by decide),h 15 (by decide)]
attribute [local irreducible] wpList Code.wp
theorem samerow_yes (s r m:Int)(K:Nat→Int)(hK:IdOk K)(A B:Option Addr)(n k c d:Nat)(l1 l2:List PR)(w:World)(h1:Prs w A l1)(h2:Prs w B l2)(hl1:l1.length=n)(hl2:l2.length=k)(hn:n≤1000000)(hk:k≤1000000)(hs: ∀x,x∈l1↔x∈l2):
 Calls Tryz.prog 45 #[.agg (recL s r m K (.slice A n c)).toArray,.agg (recL s r m K (.slice B k d)).toArray] w fun e w'=>e= .returned (.bool true)∧Below w.heap.size w w':=by
 have B0:=yH (((Below.refl w.heap.size w).alloc (yR _) (.cells (recL s r m K (.slice A n c)).toArray 74)).alloc (by simp) (.cells (recL s r m K (.slice B k d)).toArray 74))
 have P0:=yH ((show Blk (w.alloc (.cells (recL s r m K (.slice A n c)).toArray 74)) w.heap.size (recL s r m K (.slice A n c)) 74 from Blk.new w _ _).alloc (.cells (recL s r m K (.slice B k d)).toArray 74))
 have Q0:=yH (show Blk ((w.alloc (.cells (recL s r m K (.slice A n c)).toArray 74)).alloc (.cells (recL s r m K (.slice B k d)).toArray 74)) (w.heap.size+1) (recL s r m K (.slice B k d)) 74 from Blk.new_at _ _ _ _ (by simp))
 have h1':=yH (h1.below B0.out)
 have h2':=yH (h2.below B0.out)
 have heq:=eql_id K hK
 clear h1 h2
 have p0:=P0.out.cell (i:=0) rfl;have p1:=P0.out.cell (i:=1) rfl;have p2:=P0.out.cell (i:=2) rfl;have p19:=P0.out.cell (i:=19) rfl
 have q0:=Q0.out.cell (i:=0) rfl;have q1:=Q0.out.cell (i:=1) rfl;have q2:=Q0.out.cell (i:=2) rfl;have q19:=Q0.out.cell (i:=19) rfl
 go_enter Tryz.func45,Tryz.ntmps45
 go_upto_region 1 with fail
 have hlt1:=P0.out.lt
 have hlt2:=Q0.out.lt
 have PR0:=yH (rec_range P0.out)
 have QR0:=yH (rec_range Q0.out)
 generalize (w.alloc (.cells (recL s r m K (.slice A n c)).toArray 74)).alloc (.cells (recL s r m K (.slice B k d)).toArray 74)=W0 at*
 have HS1:=yH (by have q:=rwithin_any A B l1 l2 n k c d W0 h1'.out h2'.out hl1 hl2 hn hk;rw[subB_yes fun x hx=>(hs x).1 hx]at q;exact q)
 have HS2:=yH fun(W:World) (hW:Below W0.heap.size W0 W)=>by have q:=rwithin_any B A l2 l1 k n d c W (h2'.out.below hW) (h1'.out.below hW) hl2 hl1 hk hn;rw[subB_yes fun x hx=>(hs x).2 hx]at q;exact q
 have HP:=yH fun(W:World) (hW:Below W0.heap.size W0 W)=>(P0.out.below hW hlt1).cell (i:=19) rfl
 have HQ:=yH fun(W:World) (hW:Below W0.heap.size W0 W)=>(Q0.out.below hW hlt2).cell (i:=19) rfl
 go_wp2_with(first
  |(refine wpList_load_mid_want rfl 37 (.tmp 25) rfl w.heap.size 3 rfl [.int .u8 (K 0),.int .u8 (K 1),.int .u8 (K 2),.int .u8 (K 3),.int .u8 (K 4),.int .u8 (K 5),.int .u8 (K 6),.int .u8 (K 7),.int .u8 (K 8),.int .u8 (K 9),.int .u8 (K 10),.int .u8 (K 11),.int .u8 (K 12),.int .u8 (K 13),.int .u8 (K 14),.int .u8 (K 15)] _ PR0.out Tryz.underlying37 rfl idInfo ?_)
  |(refine wpList_load_mid_want rfl 37 (.tmp 27) rfl (w.heap.size+1) 3 rfl [.int .u8 (K 0),.int .u8 (K 1),.int .u8 (K 2),.int .u8 (K 3),.int .u8 (K 4),.int .u8 (K 5),.int .u8 (K 6),.int .u8 (K 7),.int .u8 (K 8),.int .u8 (K 9),.int .u8 (K 10),.int .u8 (K 11),.int .u8 (K 12),.int .u8 (K 13),.int .u8 (K 14),.int .u8 (K 15)] _ QR0.out Tryz.underlying37 rfl idInfo ?_)
  |(go_at_call 94;(with_reducible refine HS1.out.mono ?_);rintro e w2 ⟨rfl,hb2⟩;have HB2:=yH hb2;have p19b:=HP.out _ hb2;have q19b:=HQ.out _ hb2;clear hb2)
  |(go_at_call 94;(with_reducible refine(HS2.out _ HB2.out).mono ?_);rintro e w3 ⟨rfl,hb3⟩;have HB3:=yH (HB2.out.trans (hb3.mono HB2.out.size));clear hb3))
 go_ret
 exact⟨rfl,B0.out.trans (HB3.out.mono B0.out.size)⟩
end Zs
namespace Rr
open Bytes8 Blk8 OwnE Ob Ga Gb Ma Na Np Nr Pr8 Nt Nu Rc Rm Rn
open Yp Ye Yg Yh Ri
open Rd (dcode dz)
open Go1 (hcode rhd hread_any HTold magicB)
theorem eK_ok {l:List Int}{a:Nat}(h:AllB l):IdOk (eK l a):=by
 unfold eK
 split
 ·exact itK_ok (by
   unfold bodyL
   exact(h.drop _).take _)
 ·exact fun _=>⟨Int.le_refl _,by show(0:Int)<256;decide⟩
structure RecP where
 s:Int
 r:Int
 m:Int
 K:Nat→Int
 n:Nat
 pl:List PR
def recP (h:HD)(l:List Int)(n a:Nat):RecP:=if rcode h l n a=0 then⟨eNum l a 0,eNum l a 8,eNum l a 16,eK l a,eN l a,prsL (payP l (itA (bodyL l a))) (eN l a)⟩else⟨0,0,0,fun _=>0,0,[]⟩
structure RecP.Ok (p:RecP):Prop where
 K:IdOk p.K
 len:p.pl.length=p.n
 n:p.n≤1000000
theorem rcode_short {h:HD}{l:List Int}{n a:Nat}(hz:rcode h l n a=0):eN l a≤16:=by
 rcases Nat.lt_or_ge 16 (eN l a)with h1|h1
 ·have k:=rc_of h l n (ecode9 h l n a) (eN l a) (itA (bodyL l a)) (itH (bodyL l a)) (eNum l a 40)
  by_cases h2:ecode9 h l n a=0
  ·have:=k.b h2 h1
   have e:rcode h l n a=21:=this
   rw[hz]at e;cases e
  ·have e:rcode h l n a=ecode9 h l n a:=k.a h2
   rw[hz]at e
   exact absurd e.symm h2
 ·exact h1
theorem recP_ok (h:HD){l:List Int}(n a:Nat)(hl:AllB l):(recP h l n a).Ok:=by
 unfold recP
 by_cases hz:rcode h l n a=0
 ·rw[if_pos hz]
  exact⟨eK_ok hl,prsL_len _ _,by have:=rcode_short hz;show eN l a≤_;omega⟩
 ·rw[if_neg hz]
  exact⟨fun _=>⟨Int.le_refl _,by show(0:Int)<256;decide⟩,rfl,Nat.zero_le _⟩
abbrev RecP.v (p:RecP)(F:Option Addr)(c:Nat):Value:= .agg (recL p.s p.r p.m p.K (.slice F p.n c)).toArray
attribute [local irreducible] HD.cells wpList Code.wp
end Rr
namespace Zt
end Zt
namespace Va
open Bytes8 Blk8 Own8 OwnE Rows2 Ob Ga Gb Ok7 Np Pr8 Rc Rm Rr
open Yp Yd Ye Yg Yh
open Rd (dcode dz)
open Rg (arcode az AskA arrAsk)
open Ri (ecode9 ez)
structure ViewR (w:World)(gv:Nat)(h:HD)(d:Int)(A:Option Addr)(n c:Nat)(l:List Int):Prop where
 blk:Blk w gv (h.cells 20++ [.int .u64 d,.slice A n c]) 121
 by_:Bytes w A l
 len:l.length=n
 cap:n≤c
 capm:c≤maxLen
 big:n≤800000
 ok:h.Ok 21
theorem ViewR.below {w w':World}{gv:Nat}{h:HD}{d:Int}{A:Option Addr}{n c:Nat}{l:List Int}(v:ViewR w gv h d A n c l)(hb:Below w.heap.size w w'):ViewR w' gv h d A n c l:=
 ⟨v.blk.below hb v.blk.lt,v.by_.below hb (yR _),v.len,v.cap,v.capm,v.big,v.ok⟩
theorem rview_N (h:HD)(d:Int)(b:Value)(i:Nat)(hi:i<20):(h.cells 20++ [.int .u64 d,b])[67+i]? =some (.int .u64 (h.N i)):=by
 rw[List.getElem?_append_left (by rw[HD.len];omega)]
 exact h.get_N 20 i hi
theorem rview_b (h:HD)(d:Int)(b:Value):(h.cells 20++ [.int .u64 d,b])[91]? =some b:=by
 rw[List.getElem?_append_right (by rw[HD.len];omega),HD.len]
 rfl
abbrev rng (h:HD)(n a:Nat):Prop:=h.N 0≤(a:Int)∧a<n
def aX9 (h:HD)(l:List Int)(n a:Nat):Int:=if rng h n a then arX l a else 0
def aC9 (h:HD)(l:List Int)(n a:Nat):Nat:=if rng h n a then arM l a else 0
def TellA (B:Nat)(h:HD)(l:List Int)(n a:Nat)(w:World)(e:Ending)(w':World):Prop:=Below w.heap.size w w'∧ ∃A' c,e= .returned (.tuple #[arrV (aX9 h l n a) A' (aC9 h l n a) c,.int .i64 (arcode h l n a)])∧InInts .u64 w' A' (aC9 h l n a) (arF (bodyL l a))∧NewIn B A'
theorem none_new (B:Nat):NewIn B none:=fun b off e=>by cases e
theorem arrTell {gv:Nat}{h:HD}{A:Option Addr}{n c:Nat}{l:List Int}(a:Nat)(w:World)(v:ViewAt w gv h A n c l)(hcm:c≤maxLen):
 Calls Tryz.prog 158 #[.pointer (some ⟨gv,0,none⟩),.int .u64 (a:Int)] w (TellA w.heap.size h l n a w):=by
 refine(arrAsk a w v hcm).mono ?_
 rintro e w' ⟨hb,hh⟩
 refine⟨hb,?_⟩
 unfold aX9 aC9 arcode
 by_cases hr:rng h n a
 ·rcases hh with⟨hz,rfl⟩|⟨hz,A',c',rfl,h1,h2⟩
  ·have e0:arcode h l n a=ecode l a 6 8 8:=if_pos hr
   rw[e0]at hz
   have t1:arX l a=0:=if_neg hz
   have t2:arM l a=0:=if_neg hz
   simp only[if_pos hr,t1,t2]
   rw[e0]
   exact⟨none,0,rfl,fun i hi=>absurd hi (Nat.not_lt_zero i),none_new _⟩
  ·have e0:arcode h l n a=ecode l a 6 8 8:=if_pos hr
   rw[e0]at hz
   simp only[if_pos hr]
   rw[hz]
   exact⟨A',c',rfl,h1,h2⟩
 ·rcases hh with⟨hz,rfl⟩|⟨hz,_⟩
  ·simp only[if_neg hr]
   rw[show arcode h l n a=2 from if_neg hr]
   exact⟨none,0,rfl,fun i hi=>absurd hi (Nat.not_lt_zero i),none_new _⟩
  ·rw[show arcode h l n a=2 from if_neg hr]at hz;cases hz
attribute [local irreducible] HD.cells wpList Code.wp
theorem rvend_any {gv:Nat}{h:HD}{d:Int}{A:Option Addr}{n c:Nat}{l:List Int}(w:World)(v:ViewR w gv h d A n c l):Calls Tryz.prog 112 #[.pointer (some ⟨gv,0,none⟩)] w fun e w'=>e= .returned (.int .u64 (n:Int))∧w=w':=by
 have c91:=v.blk.cell (rview_b _ _ _)
 have hn:=v.big
 have hw:IntKind.u64.wrap (n:Int)=(n:Int):=by rw[IntKind.wrap_u64];omega
 clear v
 go_enter Tryz.func112,Tryz.ntmps112
 go_wp2
 go_ret
 exact⟨rfl,rfl⟩
end Va
end Go.Proofs.YtiddkgcafpaekaaGreat
