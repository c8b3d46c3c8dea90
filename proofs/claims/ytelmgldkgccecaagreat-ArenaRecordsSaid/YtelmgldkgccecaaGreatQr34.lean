/-
  Texts beneath the proof.
-/
import Derived.Recover
import Derived.Defers
import Derived.Test.YtelmgldkgccecaaGreatQr33
import Derived.Test.YtelmgldkgccecaaGreatQr20
import Derived.Test.YtelmgldkgccecaaGreatQr12
import Derived.Test.YtelmgldkgccecaaGreatQr30
import Derived.Test.YtelmgldkgccecaaGreatQr32
set_option linter.unusedVariables false
set_option linter.unusedSimpArgs false
set_option maxRecDepth 100000
set_option maxHeartbeats 8000000
open Go.ChangeShapes Go.WideShapes Go.ChangeAt Go.RowKit
namespace Go.Proofs.YtelmgldkgccecaaGreat
namespace Ro
open Bytes8 Blk8 Own8 OwnE Rows2 Ob Ga Gb Gi Ok7 Np Nr Pr8 Rc Rm Rn
open Yp Ye Yg
open Ri (new_ne new_mono)
open Re (res_row_cell load_code)
theorem prs_row {w:World}{a:Option Addr}{l:List PR}(h:Prs w a l){s:Nat}(hs: ∀b off,a=some ⟨b,off,none⟩→b≠s)(cs:Array Value):Prs (w.setRow s cs) a l:=h.keptB (by simp) (fun b off e _=>setRow_other w s b cs (hs b off e))
theorem prs_off {w:World}{a:Option Addr}{l:List PR}(h:Prs w a l){g:Nat}(hg: ∀b off,a=some ⟨b,off,none⟩→b≠g)(k:Nat)(v:Value):Prs (w.setCell ⟨g,k,none⟩ v) a l:=h.keptB (by simp) (fun b off e _=>Below.heap_setCell w ⟨g,k,none⟩ v b (hg b off e))
def ReadR2 (B:Nat)(l:List Int)(a:Nat)(cd:Int)(e:Ending)(w':World):Prop:=
 (cd≠0∧e= .panicked [haltE cd])∨(cd=0∧ ∃A' c',e= .returned (.agg (recL (eNum l a 0) (eNum l a 8) (eNum l a 16) (eK l a) (.slice A' (eN l a) c')).toArray)∧Prs w' A' (prsL (payP l (itA (bodyL l a))) (eN l a))∧NewIn B A')
theorem caught_idle (g3:Nat)(w:World):CallsD Tryz.prog 152 #[.pointer (some ⟨g3,0,none⟩)] .returning w fun e u' w'=>e= .returned (.tuple #[])∧u'= .returning∧w'=w:=by
 refine callsD_of_wpS Tryz.func152 rfl fun c₀ cs hu=>?_
 apply wpS_seq
 apply wpS_region
 simp[wpOpsS,go_sem,recoverD,hu,Tryz.ntmps152,Exit.thenS]
 refine wpS_of_wp ?_
 go_wp2
 cases c₀
 simp_all[bodyPostS,results,Tryz.results152]
theorem caught_halt (g3:Nat)(c y:Int)(older:List PanicEntry)(w:World)(h:Blk w g3 [.int .i64 y] 3):CallsD Tryz.prog 152 #[.pointer (some ⟨g3,0,none⟩)] (.panicking ({v:= .iface 205 (.int .i64 c),recovered:=false}::older)) w fun e u' w'=>e= .returned (.tuple #[])∧u'= .panicking ({v:= .iface 205 (.int .i64 c),recovered:=true}::older)∧w'=w.setCell ⟨g3,0,none⟩ (.int .i64 c):=by
 have c0:=h.cell (i:=0) rfl
 have z0:=h.frozen 0
 have hta: ∀w:World,(Instr.typeAssert (.iface 205 (.int .i64 c)) 20 205 true).run Tryz.prog w= .ok (.tuple #[.int .i64 c,.bool true]) w:=fun _=>by kernel_rfl
 refine callsD_of_wpS Tryz.func152 rfl fun c₀ cs hu=>?_
 apply wpS_seq
 apply wpS_region
 simp[wpOpsS,go_sem,recoverD,hu,Tryz.ntmps152,Exit.thenS]
 refine wpS_of_wp ?_
 go_wp2
 cases c₀
 simp_all[bodyPostS,results,Tryz.results152]
attribute [local irreducible] wpList Code.wp
theorem vrec_cl {gv:Nat}{h:HD}{A:Option Addr}{n c:Nat}{l:List Int}(a:Nat)(g2 g3:Nat)(w:World)(v:ViewAt w gv h A n c l)(hcm:c≤maxLen)(h8:n≤800000)(H2:Blk w g2 [.pointer (some ⟨gv,0,none⟩)] 28)(H3:Blk w g3 [.int .u64 (a:Int)] 23):
 Calls Tryz.prog 85 #[.pointer (some ⟨g2,0,none⟩),.pointer (some ⟨g3,0,none⟩)] w fun e w'=>Below w.heap.size w w'∧ReadR2 w.heap.size l a (rcode h l n a) e w':=by
 have b1:=Lib.hid ((Below.refl w.heap.size w).alloc (Nat.le_refl _) (.cells zR 67))
 have v1:=v.below b1.out
 have c2:=(H2.alloc (.cells zR 67)).cell (i:=0) rfl
 have c3:=(H3.alloc (.cells zR 67)).cell (i:=0) rfl
 have HV:=Lib.hid (vrec_any a _ v1 hcm h8)
 have Z1:=Lib.hid (heap_alloc_new w (.cells zR 67))
 have s1:=Lib.hid (show w.heap.size<(w.alloc (.cells zR 67)).heap.size by simp)
 unfold ReadR at HV
 unfold ReadR2
 generalize eNum l a 0=s0 at*
 generalize eNum l a 8=s8 at*
 generalize eNum l a 16=s16 at*
 generalize eK l a=kk at*
 generalize eN l a=mm at*
 generalize rcode h l n a=cd at*
 generalize prsL (payP l (itA (bodyL l a))) mm=pr at*
 clear v v1 H2 H3
 by_cases hz:cd=0
 ·subst hz
  go_enter Tryz.func85,Tryz.ntmps85
  go_wp2_with(first
   |(go_at_call 86;(refine HV.out.mono ?_);rintro e w3 ⟨hb3,⟨hne,_⟩|⟨_,A2,c2',rfl,hy2,hw2⟩⟩;(exact absurd rfl hne);have B3:=Lib.hid (b1.out.trans (hb3.mono b1.out.size));have HY3:=Lib.hid hy2;have HW3:=Lib.hid hw2;have Z3:=Lib.hid ((hb3.block _ s1.out).trans Z1.out);clear hb3 hy2 hw2)
   |((with_reducible apply at_store (.tmp 2) (.tmp 5));refine wpList_store_row rfl 67 (.tmp 2) (.tmp 5) rfl w.heap.size (recL s0 s8 s16 kk (.slice A2 mm c2')).toArray rfl rfl 67 zR Z3.out (by kernel_rfl) rfl (by first|exact recL_all _ _ _ _ _ _ _|exact recL_all 0 0 0 (fun _=>0) none 0 0) ?_)
   |fail)
  refine bodyPost_ret (v:= .agg (recL s0 s8 s16 kk (.slice A2 mm c2')).toArray) (by exact results_cell_row Tryz.results85 _ _ w.heap.size 67 _ (0,0) _ rfl (setRow_heap _ w.heap.size _ _ _ (0,0) Z3.out) Tryz.underlying67 rfl (by kernel_rfl)) rfl ?_
  have b4:=below_setRow (B:=w.heap.size) B3.out (Nat.le_refl _) (recL s0 s8 s16 kk (.slice A2 mm c2')).toArray
  exact⟨b4,.inr ⟨trivial,A2,c2',rfl,prs_row HY3.out (new_ne HW3.out s1.out) _,new_mono HW3.out (Nat.le_of_lt s1.out)⟩⟩
 ·go_enter Tryz.func85,Tryz.ntmps85
  go_wp2_with(first
   |(go_at_call 86;(refine HV.out.mono ?_);rintro e w3 ⟨hb3,⟨_,rfl⟩|⟨he,_⟩⟩;rotate_left;(exact absurd he hz);have B3:=Lib.hid (b1.out.trans (hb3.mono b1.out.size));clear hb3)
   |fail)
  exact⟨rfl,B3.out,.inl ⟨hz,rfl⟩⟩
def AskR (B:Nat)(l:List Int)(a:Nat)(cd:Int)(e:Ending)(w':World):Prop:=
 (cd≠0∧e= .returned (.tuple #[.agg zR,.int .i64 cd]))∨(cd=0∧ ∃A' c',e= .returned (.tuple #[.agg (recL (eNum l a 0) (eNum l a 8) (eNum l a 16) (eK l a) (.slice A' (eN l a) c')).toArray,.int .i64 0])∧Prs w' A' (prsL (payP l (itA (bodyL l a))) (eN l a))∧NewIn B A')
theorem asked_any {gv:Nat}{h:HD}{A:Option Addr}{n c:Nat}{l:List Int}(a:Nat)(g2 g3:Nat)(w:World)(v:ViewAt w gv h A n c l)(hcm:c≤maxLen)(h8:n≤800000)(H2:Blk w g2 [.pointer (some ⟨gv,0,none⟩)] 28)(H3:Blk w g3 [.int .u64 (a:Int)] 23):
 Calls Tryz.prog 84 #[.func (.func 85) #[] #[.pointer (some ⟨g2,0,none⟩),.pointer (some ⟨g3,0,none⟩)]] w fun e w'=>Below w.heap.size w w'∧AskR w.heap.size l a (rcode h l n a) e w':=by
 have b1:=Lib.hid ((Below.refl w.heap.size w).alloc (Nat.le_refl _) (.cells zR 67))
 have b2:=Lib.hid (b1.out.alloc b1.out.size (.cells #[.int .i64 0] 3))
 have v2:=v.below b2.out
 have HV:=Lib.hid (vrec_cl a g2 g3 _ v2 hcm h8 (H2.below b2.out H2.lt) (H3.below b2.out H3.lt))
 have S1:(w.alloc (.cells zR 67)).heap.size=w.heap.size+1:=by simp only[World.alloc,Array.size_push]
 have S2:((w.alloc (.cells zR 67)).alloc (.cells #[.int .i64 0] 3)).heap.size=w.heap.size+1+1:=by simp only[World.alloc,Array.size_push]
 have Z2:=Lib.hid ((Below.heap_alloc (w.alloc (.cells zR 67)) (.cells #[.int .i64 0] 3) w.heap.size (by rw[S1];omega)).trans (heap_alloc_new w (.cells zR 67)))
 have R2:=Lib.hid (Blk.new_at (w.alloc (.cells zR 67)) [.int .i64 0] 3 _ S1)
 have hfn: ∀(fn:Fn) (first cap:Array Value) (w:World),(Instr.makeFunc fn first cap).run Tryz.prog w= .ok (.func fn first cap) w:=fun _ _ _ _=>rfl
 unfold ReadR2 at HV
 unfold AskR
 generalize eNum l a 0=s0 at*
 generalize eNum l a 8=s8 at*
 generalize eNum l a 16=s16 at*
 generalize eK l a=kk at*
 generalize eN l a=mm at*
 generalize rcode h l n a=cd at*
 generalize prsL (payP l (itA (bodyL l a))) mm=pr at*
 clear v v2 H2 H3
 by_cases hz:cd=0
 ·subst hz
  go_enter_defers Tryz.func84,Tryz.ntmps84
  go_wp2_with(first
   |(go_at_call 85;(refine HV.out.mono ?_);rintro e w3 ⟨hb3,⟨hne,_⟩|⟨_,A2,c2',rfl,hy2,hw2⟩⟩;(exact absurd rfl hne);have B3:=Lib.hid (b2.out.trans (hb3.mono b2.out.size));have HY3:=Lib.hid hy2;have HW3:=Lib.hid (show NewIn (w.heap.size+1+1) A2 from S2▸hw2);have Z3:=Lib.hid ((hb3.block _ (by rw[S2];omega)).trans Z2.out);have R3:=Lib.hid (R2.out.below hb3 (by rw[S2];omega));clear hb3 hy2 hw2)
   |((with_reducible apply at_store (.tmp 2) (.tmp 6));refine wpList_store_row rfl 67 (.tmp 2) (.tmp 6) rfl w.heap.size (recL s0 s8 s16 kk (.slice A2 mm c2')).toArray rfl rfl 67 zR Z3.out (by kernel_rfl) rfl (by first|exact recL_all _ _ _ _ _ _ _|exact recL_all 0 0 0 (fun _=>0) none 0 0) ?_;have R4:=Lib.hid (show Blk (w3.setRow w.heap.size (recL s0 s8 s16 kk (.slice A2 mm c2')).toArray) (w.heap.size+1) [.int .i64 0] 3 from(setRow_other w3 w.heap.size (w.heap.size+1) _ (Nat.succ_ne_self _)).trans R3.out);have c4:=R4.out.cell (i:=0) rfl;have z4:=R4.out.frozen 0)
   |fail)
  refine leaves_cons (f:=152) (args:= #[.pointer (some ⟨w.heap.size+1,0,none⟩)]) (by simp) (by simp[go_sem]) ?_
  refine(caught_idle _ _).mono ?_
  rintro e u' w'' ⟨rfl,rfl,rfl⟩
  have b4:=(below_setRow (B:=w.heap.size) B3.out (Nat.le_refl _) (recL s0 s8 s16 kk (.slice A2 mm c2')).toArray).setCell (p:=⟨w.heap.size+1,0,none⟩) (Nat.le_succ _) (.int .i64 0)
  exact⟨.tuple #[.agg (recL s0 s8 s16 kk (.slice A2 mm c2')).toArray,.int .i64 0],(by exact res_row_cell Tryz.results84 _ _ w.heap.size (w.heap.size+1) 67 _ (0,0) _ _ rfl rfl ((Below.heap_setCell _ _ _ _ (Nat.succ_ne_self _).symm).trans (setRow_heap _ w.heap.size _ _ _ (0,0) Z3.out)) Tryz.underlying67 rfl (by kernel_rfl) (load_code _ _ _ (R4.out.set_ 0 _))),b4,.inr ⟨trivial,A2,c2',rfl,prs_off (prs_row HY3.out (new_ne HW3.out (by omega)) _) (new_ne HW3.out (by omega)) _ _,new_mono HW3.out (by omega)⟩⟩
 ·go_enter_defers Tryz.func84,Tryz.ntmps84
  go_wp2_with(first
   |(go_at_call 85;(refine HV.out.mono ?_);rintro e w3 ⟨hb3,⟨_,rfl⟩|⟨he,_⟩⟩;rotate_left;(exact absurd he hz);have B3:=Lib.hid (b2.out.trans (hb3.mono b2.out.size));have Z3:=Lib.hid ((hb3.block _ (by rw[S2];omega)).trans Z2.out);have R3:=Lib.hid (R2.out.below hb3 (by rw[S2];omega));clear hb3)
   |fail)
  refine leaves_cons (f:=152) (args:= #[.pointer (some ⟨w.heap.size+1,0,none⟩)]) (by simp) (by simp[go_sem]) ?_
  refine(caught_halt _ cd 0 [] _ R3.out).mono ?_
  rintro e u' w'' ⟨rfl,rfl,rfl⟩
  have b4:=B3.out.setCell (p:=⟨w.heap.size+1,0,none⟩) (Nat.le_succ _) (.int .i64 cd)
  exact⟨.tuple #[.agg zR,.int .i64 cd],(by exact res_row_cell Tryz.results84 _ _ w.heap.size (w.heap.size+1) 67 _ (0,0) _ _ rfl rfl ((Below.heap_setCell _ _ _ _ (Nat.succ_ne_self _).symm).trans Z3.out) Tryz.underlying67 rfl (by kernel_rfl) (load_code _ _ _ (R3.out.set_ 0 _))),b4,.inl ⟨hz,rfl⟩⟩
theorem recAsk {gv:Nat}{h:HD}{A:Option Addr}{n c:Nat}{l:List Int}(a:Nat)(w:World)(v:ViewAt w gv h A n c l)(hcm:c≤maxLen)(h8:n≤800000):
 Calls Tryz.prog 27 #[.pointer (some ⟨gv,0,none⟩),.int .u64 (a:Int)] w fun e w'=>Below w.heap.size w w'∧AskR w.heap.size l a (rcode h l n a) e w':=by
 have b1:=Lib.hid ((Below.refl w.heap.size w).alloc (Nat.le_refl _) (.cells #[.pointer (some ⟨gv,0,none⟩)] 28))
 have b2:=Lib.hid (b1.out.alloc b1.out.size (.cells #[.int .u64 (a:Int)] 23))
 have b3:=Lib.hid (b2.out.alloc b2.out.size (.cells zR 67))
 have v3:=v.below b3.out
 have S1:(w.alloc (.cells #[.pointer (some ⟨gv,0,none⟩)] 28)).heap.size=w.heap.size+1:=by simp only[World.alloc,Array.size_push]
 have S2:((w.alloc (.cells #[.pointer (some ⟨gv,0,none⟩)] 28)).alloc (.cells #[.int .u64 (a:Int)] 23)).heap.size=w.heap.size+1+1:=by simp only[World.alloc,Array.size_push]
 have S3:(((w.alloc (.cells #[.pointer (some ⟨gv,0,none⟩)] 28)).alloc (.cells #[.int .u64 (a:Int)] 23)).alloc (.cells zR 67)).heap.size=w.heap.size+1+1+1:=by simp only[World.alloc,Array.size_push]
 have K1:=((Blk.new w [.pointer (some ⟨gv,0,none⟩)] 28).alloc (.cells #[.int .u64 (a:Int)] 23)).alloc (.cells zR 67)
 have K2:=(Blk.new_at (w.alloc (.cells #[.pointer (some ⟨gv,0,none⟩)] 28)) [.int .u64 (a:Int)] 23 _ S1).alloc (.cells zR 67)
 have HV:=Lib.hid (asked_any a w.heap.size (w.heap.size+1) _ v3 hcm h8 K1 K2)
 have Z3:=Lib.hid (show(((w.alloc (.cells #[.pointer (some ⟨gv,0,none⟩)] 28)).alloc (.cells #[.int .u64 (a:Int)] 23)).alloc (.cells zR 67)).heap[w.heap.size+1+1]? =some (.cells zR 67 (0,0))from S2▸heap_alloc_new _ (.cells zR 67))
 have hfn: ∀(fn:Fn) (first cap:Array Value) (w:World),(Instr.makeFunc fn first cap).run Tryz.prog w= .ok (.func fn first cap) w:=fun _ _ _ _=>rfl
 unfold AskR at HV⊢
 generalize eNum l a 0=s0 at*
 generalize eNum l a 8=s8 at*
 generalize eNum l a 16=s16 at*
 generalize eK l a=kk at*
 generalize eN l a=mm at*
 generalize rcode h l n a=cd at*
 generalize prsL (payP l (itA (bodyL l a))) mm=pr at*
 clear v v3 K1 K2
 by_cases hz:cd=0
 ·subst hz
  go_enter Tryz.func27,Tryz.ntmps27
  go_wp2_with(first
   |(go_at_call 84;(refine HV.out.mono ?_);rintro e w4 ⟨hb4,⟨hne,_⟩|⟨_,A2,c2',rfl,hy2,hw2⟩⟩;(exact absurd rfl hne);have B4:=Lib.hid (b3.out.trans (hb4.mono b3.out.size));have HY4:=Lib.hid hy2;have HW4:=Lib.hid (show NewIn (w.heap.size+1+1+1) A2 from S3▸hw2);have Z4:=Lib.hid ((hb4.block _ (by rw[S3];omega)).trans Z3.out);clear hb4 hy2 hw2)
   |((with_reducible apply at_store (.tmp 4) (.tmp 8));refine wpList_store_row rfl 67 (.tmp 4) (.tmp 8) rfl (w.heap.size+1+1) (recL s0 s8 s16 kk (.slice A2 mm c2')).toArray rfl rfl 67 zR Z4.out (by kernel_rfl) rfl (by first|exact recL_all _ _ _ _ _ _ _|exact recL_all 0 0 0 (fun _=>0) none 0 0) ?_)
   |fail)
  refine bodyPost_ret (v:= .tuple #[.agg (recL s0 s8 s16 kk (.slice A2 mm c2')).toArray,.int .i64 0]) (by exact res_rowG Tryz.results27 _ _ (w.heap.size+1+1) 67 _ (0,0) _ _ rfl rfl (setRow_heap _ (w.heap.size+1+1) _ _ _ (0,0) Z4.out) Tryz.underlying67 rfl (by kernel_rfl)) rfl ?_
  have b5:=below_setRow (B:=w.heap.size) (g:=w.heap.size+1+1) B4.out (by omega) (recL s0 s8 s16 kk (.slice A2 mm c2')).toArray
  exact⟨b5,.inr ⟨trivial,A2,c2',rfl,prs_row HY4.out (new_ne HW4.out (by omega)) _,new_mono HW4.out (by omega)⟩⟩
 ·go_enter Tryz.func27,Tryz.ntmps27
  go_wp2_with(first
   |(go_at_call 84;(refine HV.out.mono ?_);rintro e w4 ⟨hb4,⟨_,rfl⟩|⟨he,_⟩⟩;rotate_left;(exact absurd he hz);have B4:=Lib.hid (b3.out.trans (hb4.mono b3.out.size));have Z4:=Lib.hid ((hb4.block _ (by rw[S3];omega)).trans Z3.out);clear hb4)
   |((with_reducible apply at_store (.tmp 4) (.tmp 8));refine wpList_store_row rfl 67 (.tmp 4) (.tmp 8) rfl (w.heap.size+1+1) zR rfl rfl 67 zR Z4.out (by kernel_rfl) rfl (by first|exact recL_all _ _ _ _ _ _ _|exact recL_all 0 0 0 (fun _=>0) none 0 0) ?_)
   |fail)
  refine bodyPost_ret (v:= .tuple #[.agg zR,.int .i64 cd]) (by exact res_rowG Tryz.results27 _ _ (w.heap.size+1+1) 67 _ (0,0) _ _ rfl rfl (setRow_heap _ (w.heap.size+1+1) _ _ _ (0,0) Z4.out) Tryz.underlying67 rfl (by kernel_rfl)) rfl ?_
  have b5:=below_setRow (B:=w.heap.size) (g:=w.heap.size+1+1) B4.out (by omega) zR
  exact⟨b5,.inl ⟨hz,rfl⟩⟩
end Ro
namespace Rq
open Bytes8 Blk8 OwnE Ob Nr Np Yq
theorem eql_id (K:Nat→Int)(hK:IdOk K)(w:World):(binOp .eql 57 (.agg #[.int .u8 (K 0),.int .u8 (K 1),.int .u8 (K 2),.int .u8 (K 3),.int .u8 (K 4),.int .u8 (K 5),.int .u8 (K 6),.int .u8 (K 7),.int .u8 (K 8),.int .u8 (K 9),.int .u8 (K 10),.int .u8 (K 11),.int .u8 (K 12),.int .u8 (K 13),.int .u8 (K 14),.int .u8 (K 15)]) (.agg #[.int .u8 (K 0),.int .u8 (K 1),.int .u8 (K 2),.int .u8 (K 3),.int .u8 (K 4),.int .u8 (K 5),.int .u8 (K 6),.int .u8 (K 7),.int .u8 (K 8),.int .u8 (K 9),.int .u8 (K 10),.int .u8 (K 11),.int .u8 (K 12),.int .u8 (K 13),.int .u8 (K 14),.int .u8 (K 15)])).run Tryz.prog w= .ok (.bool true) w:=by
 obtain⟨r,hr,hiff⟩:=run_equalIn_deep (P:=Tryz.prog) 9998 2 57 (by kernel_rfl) w 2 2 (.agg #[.int .u8 (K 0),.int .u8 (K 1),.int .u8 (K 2),.int .u8 (K 3),.int .u8 (K 4),.int .u8 (K 5),.int .u8 (K 6),.int .u8 (K 7),.int .u8 (K 8),.int .u8 (K 9),.int .u8 (K 10),.int .u8 (K 11),.int .u8 (K 12),.int .u8 (K 13),.int .u8 (K 14),.int .u8 (K 15)]) (.agg #[.int .u8 (K 0),.int .u8 (K 1),.int .u8 (K 2),.int .u8 (K 3),.int .u8 (K 4),.int .u8 (K 5),.int .u8 (K 6),.int .u8 (K 7),.int .u8 (K 8),.int .u8 (K 9),.int .u8 (K 10),.int .u8 (K 11),.int .u8 (K 12),.int .u8 (K 13),.int .u8 (K 14),.int .u8 (K 15)]) ((idL K).map (Lit.int .u8)) ((idL K).map (Lit.int .u8)) (by kernel_rfl) (by kernel_rfl) (id_lits K hK) (id_lits K hK)
 have h:r=true:=hiff.2 rfl
 subst h
 rw[run_eql_struct,show(10000:Nat)=9998+2 from rfl,hr]
 rfl
theorem rec_range {w:World}{g:Nat}{T:TypeId}{s r m:Int}{K:Nat→Int}{F:Value}(h:Blk w g (recL s r m K F) T):w.rangeAt g 3 (idJ K):=fun j v hj=>by
 have hl:j<16:=(List.getElem?_eq_some_iff.1 hj).1
 refine h.cell (i:=3+j) ?_
 rw[idJ_get K j hl]at hj
 rcases j with _|_|_|_|_|_|_|_|_|_|_|_|_|_|_|_|j
 all_goals first|exact hj|omega
attribute [local irreducible] wpList Code.wp
end Rq
namespace Zs
open Bytes8 Blk8 Own8 OwnE Rows2 Ob Nr Np Pr8 Yq Pb8 Rq
theorem subB_yes {l m:List PR}(h: ∀x∈l,x∈m):subB l m=true:=by
 unfold subB
 rw[List.all_eq_true]
 exact fun x hx=>by simpa using h x hx
theorem recL_cong {s r m:Int}{K K2:Nat→Int}{F:Value}(h: ∀i,i<16→K i=K2 i):recL s r m K F=recL s r m K2 F:=by
 unfold recL
 rw[h 0 (by decide),h 1 (by decide),h 2 (by decide),h 3 (by decide),h 4 (by decide),h 5 (by decide),h 6 (by decide),h 7 (by decide),h 8 (by decide),h 9 (by decide),h 10 (by decide),h 11 (by decide),h 12 (by decide),h 13 (by decide),h 14 (by decide),h 15 (by decide)]
attribute [local irreducible] wpList Code.wp
theorem samerow_yes (s r m:Int)(K:Nat→Int)(hK:IdOk K)(A B:Option Addr)(n k c d:Nat)(l1 l2:List PR)(w:World)(h1:Prs w A l1)(h2:Prs w B l2)(hl1:l1.length=n)(hl2:l2.length=k)(hn:n≤1000000)(hk:k≤1000000)(hs: ∀x,x∈l1↔x∈l2):
 Calls Tryz.prog 47 #[.agg (recL s r m K (.slice A n c)).toArray,.agg (recL s r m K (.slice B k d)).toArray] w fun e w'=>e= .returned (.bool true)∧Below w.heap.size w w':=by
 have B0:=Lib.hid (((Below.refl w.heap.size w).alloc (Nat.le_refl _) (.cells (recL s r m K (.slice A n c)).toArray 67)).alloc (by simp) (.cells (recL s r m K (.slice B k d)).toArray 67))
 have P0:=Lib.hid ((show Blk (w.alloc (.cells (recL s r m K (.slice A n c)).toArray 67)) w.heap.size (recL s r m K (.slice A n c)) 67 from Blk.new w _ _).alloc (.cells (recL s r m K (.slice B k d)).toArray 67))
 have Q0:=Lib.hid (show Blk ((w.alloc (.cells (recL s r m K (.slice A n c)).toArray 67)).alloc (.cells (recL s r m K (.slice B k d)).toArray 67)) (w.heap.size+1) (recL s r m K (.slice B k d)) 67 from Blk.new_at _ _ _ _ (by simp))
 have h1':=Lib.hid (h1.below B0.out)
 have h2':=Lib.hid (h2.below B0.out)
 have heq:=eql_id K hK
 clear h1 h2
 have p0:=P0.out.cell (i:=0) rfl;have p1:=P0.out.cell (i:=1) rfl;have p2:=P0.out.cell (i:=2) rfl;have p19:=P0.out.cell (i:=19) rfl
 have q0:=Q0.out.cell (i:=0) rfl;have q1:=Q0.out.cell (i:=1) rfl;have q2:=Q0.out.cell (i:=2) rfl;have q19:=Q0.out.cell (i:=19) rfl
 go_enter Tryz.func47,Tryz.ntmps47
 go_upto_region 1 with fail
 have hlt1:=P0.out.lt
 have hlt2:=Q0.out.lt
 have PR0:=Lib.hid (rec_range P0.out)
 have QR0:=Lib.hid (rec_range Q0.out)
 generalize (w.alloc (.cells (recL s r m K (.slice A n c)).toArray 67)).alloc (.cells (recL s r m K (.slice B k d)).toArray 67)=W0 at*
 have HS1:=Lib.hid (by have q:=rwithin_any A B l1 l2 n k c d W0 h1'.out h2'.out hl1 hl2 hn hk;rw[subB_yes fun x hx=>(hs x).1 hx]at q;exact q)
 have HS2:=Lib.hid fun(W:World) (hW:Below W0.heap.size W0 W)=>by have q:=rwithin_any B A l2 l1 k n d c W (h2'.out.below hW) (h1'.out.below hW) hl2 hl1 hk hn;rw[subB_yes fun x hx=>(hs x).2 hx]at q;exact q
 have HP:=Lib.hid fun(W:World) (hW:Below W0.heap.size W0 W)=>(P0.out.below hW hlt1).cell (i:=19) rfl
 have HQ:=Lib.hid fun(W:World) (hW:Below W0.heap.size W0 W)=>(Q0.out.below hW hlt2).cell (i:=19) rfl
 go_wp2_with(first
  |(refine wpList_load_mid_want rfl 57 (.tmp 25) rfl w.heap.size 3 rfl [.int .u8 (K 0),.int .u8 (K 1),.int .u8 (K 2),.int .u8 (K 3),.int .u8 (K 4),.int .u8 (K 5),.int .u8 (K 6),.int .u8 (K 7),.int .u8 (K 8),.int .u8 (K 9),.int .u8 (K 10),.int .u8 (K 11),.int .u8 (K 12),.int .u8 (K 13),.int .u8 (K 14),.int .u8 (K 15)] _ PR0.out Tryz.underlying57 rfl idInfo ?_)
  |(refine wpList_load_mid_want rfl 57 (.tmp 27) rfl (w.heap.size+1) 3 rfl [.int .u8 (K 0),.int .u8 (K 1),.int .u8 (K 2),.int .u8 (K 3),.int .u8 (K 4),.int .u8 (K 5),.int .u8 (K 6),.int .u8 (K 7),.int .u8 (K 8),.int .u8 (K 9),.int .u8 (K 10),.int .u8 (K 11),.int .u8 (K 12),.int .u8 (K 13),.int .u8 (K 14),.int .u8 (K 15)] _ QR0.out Tryz.underlying57 rfl idInfo ?_)
  |(go_at_call 41;(with_reducible refine HS1.out.mono ?_);rintro e w2 ⟨rfl,hb2⟩;have HB2:=Lib.hid hb2;have p19b:=HP.out _ hb2;have q19b:=HQ.out _ hb2;clear hb2)
  |(go_at_call 41;(with_reducible refine(HS2.out _ HB2.out).mono ?_);rintro e w3 ⟨rfl,hb3⟩;have HB3:=Lib.hid (HB2.out.trans (hb3.mono HB2.out.size));clear hb3))
 go_ret
 exact⟨rfl,B0.out.trans (HB3.out.mono B0.out.size)⟩
end Zs
namespace Rr
open Bytes8 Blk8 Own8 OwnE Rows2 Ob Ga Gb Ma Na Np Pr8 Nt Nu Ra Rc Rm Rn
open Yp Ye Yg Ri
open Rd (dcode dz)
open Go1 (hcode rhd hread_any HTold magicB)
theorem eK_ok {l:List Int}{a:Nat}(h:AllB l):IdOk (eK l a):=by
 unfold eK
 split
 ·exact itK_ok (by
   unfold bodyL
   exact(h.drop _).take _)
 ·exact fun _=>⟨Int.le_refl _,by show(0:Int)<256;decide⟩
structure RecP where
 s:Int
 r:Int
 m:Int
 K:Nat→Int
 n:Nat
 pl:List PR
def recP (h:HD)(l:List Int)(n a:Nat):RecP:=if rcode h l n a=0 then⟨eNum l a 0,eNum l a 8,eNum l a 16,eK l a,eN l a,prsL (payP l (itA (bodyL l a))) (eN l a)⟩else⟨0,0,0,fun _=>0,0,[]⟩
structure RecP.Ok (p:RecP):Prop where
 K:IdOk p.K
 len:p.pl.length=p.n
 n:p.n≤1000000
theorem rcode_short {h:HD}{l:List Int}{n a:Nat}(hz:rcode h l n a=0):eN l a≤16:=by
 rcases Nat.lt_or_ge 16 (eN l a)with h1|h1
 ·have k:=rc_of h l n (ecode9 h l n a) (eN l a) (itA (bodyL l a)) (itH (bodyL l a)) (eNum l a 40)
  by_cases h2:ecode9 h l n a=0
  ·have:=k.b h2 h1
   have e:rcode h l n a=21:=this
   rw[hz]at e;cases e
  ·have e:rcode h l n a=ecode9 h l n a:=k.a h2
   rw[hz]at e
   exact absurd e.symm h2
 ·exact h1
theorem recP_ok (h:HD){l:List Int}(n a:Nat)(hl:AllB l):(recP h l n a).Ok:=by
 unfold recP
 by_cases hz:rcode h l n a=0
 ·rw[if_pos hz]
  exact⟨eK_ok hl,prsL_len _ _,by have:=rcode_short hz;show eN l a≤_;omega⟩
 ·rw[if_neg hz]
  exact⟨fun _=>⟨Int.le_refl _,by show(0:Int)<256;decide⟩,rfl,Nat.zero_le _⟩
attribute [local irreducible] HD.cells wpList Code.wp
theorem view_head {w:World}{gv:Nat}{h:HD}{b:Value}(hv:Blk w gv (viewC h b) 111):w.rangeAt gv 0 (h.cells 21):=fun j x hj=>by
 rw[Nat.zero_add]
 refine hv.cell ?_
 unfold viewC
 rw[List.getElem?_append_left (List.getElem?_eq_some_iff.1 hj).1]
 exact hj
theorem vhead_any {gv:Nat}{h:HD}{b:Value}(w:World)(hv:Blk w gv (viewC h b) 111):Calls Tryz.prog 25 #[.pointer (some ⟨gv,0,none⟩)] w fun e w'=>e= .returned (.agg (h.cells 21).toArray)∧Below w.heap.size w w':=by
 have b1:=Lib.hid ((Below.refl w.heap.size w).alloc (Nat.le_refl _) (.cells Tryz.zeroCells59 59))
 have HR:=Lib.hid (view_head (hv.below b1.out hv.lt))
 have Z:=Lib.hid (heap_alloc_new w (.cells Tryz.zeroCells59 59))
 clear hv
 go_enter Tryz.func25,Tryz.ntmps25
 go_wp2_with(first
  |((with_reducible apply at_slot 6);refine wpList_load_mid rfl 59 (.tmp 5) rfl gv 0 rfl (h.cells 21) _ HR.out Tryz.underlying59 rfl (hcells_len _) ?_)
  |((with_reducible apply at_store (.tmp 2) (.tmp 6));refine wpList_store_row rfl 59 (.tmp 2) (.tmp 6) rfl w.heap.size (h.cells 21).toArray rfl rfl 59 Tryz.zeroCells59 Z.out (cells_info _) zeros_size (HD.one _ 21) ?_)
  |fail)
 refine bodyPost_ret (v:= .agg (h.cells 21).toArray) (by exact results_cell_row Tryz.results25 _ _ w.heap.size 59 _ (0,0) _ rfl (setRow_heap _ w.heap.size _ _ _ (0,0) Z.out) Tryz.underlying59 rfl (cells_info _)) rfl ?_
 exact⟨rfl,below_setRow b1.out (Nat.le_refl _) _⟩
end Rr
namespace Zv
open Bytes8 Blk8 Own8 OwnE Rows2 Nr Np Pr8 Zs
def RecAt (w:World)(A:Option Addr)(i:Nat)(s r m:Int)(K:Nat→Int)(l:List PR):Prop:= ∃(b:Nat) (F:Option Addr) (n c:Nat),A=some ⟨b,0,none⟩∧b<w.heap.size∧w.rangeAt b (i*20) (recL s r m K (.slice F n c))∧Prs w F l∧l.length=n∧n≤1000000
theorem RecAt.below {w w':World}{A:Option Addr}{i:Nat}{s r m:Int}{K:Nat→Int}{l:List PR}(h:RecAt w A i s r m K l)(k:Below w.heap.size w w'):RecAt w' A i s r m K l:=by
 obtain⟨b,F,n,c,e,hb,hr,hp,h1,h2⟩:=h
 exact⟨b,F,n,c,e,Nat.lt_of_lt_of_le hb k.size,fun j v hj=>(World.cell?_of_block (a:=⟨b,i*20+j,none⟩) (k.block b hb)).trans (hr j v hj),hp.below k,h1,h2⟩
attribute [local irreducible] wpList Code.wp
theorem samerows_yes (A B:Option Addr)(n c d:Nat)(w:World)(hn:n≤1000000)(h: ∀i,i<n→ ∃(s r m:Int) (K:Nat→Int) (l1 l2:List PR),IdOk K∧RecAt w A i s r m K l1∧RecAt w B i s r m K l2∧ ∀x,x∈l1↔x∈l2):
 Calls Tryz.prog 28 #[.slice A n c,.slice B n d] w fun e w'=>e= .returned (.bool true)∧Below w.heap.size w w':=by
 have H:=Lib.hid h
 have S0:=Lib.hid (Below.refl w.heap.size w)
 clear h
 go_enter Tryz.func28,Tryz.ntmps28
 have dne:((n:Int)!=(n:Int))=false:=by simp
 go_wp2_with fail
 go_loopw [5] (fun i wr=> ∃x:Nat,x≤n∧i= .int .i64 (x:Int)∧Hid (Below w.heap.size w wr)) (fun i _=>n-Rn.natOf i)
 case atStart=>exact⟨0,Nat.zero_le _,rfl,S0⟩
 case round=>
  clear dne
  obtain⟨i,hi,rfl,hbr⟩:=hrel
  by_cases hlt:i<n
  ·have dd1:decide ((i:Int)<(n:Int))=true:=by simp;omega
   have hii:(i:Int)<(n:Int):=by omega
   have hwx:IntKind.i64.wrap ((i:Int)+1)=((i+1:Nat):Int):=by rw[IntKind.wrap_i64];omega
   obtain⟨s,r,m,K,l1,l2,hK,h1,h2,hm⟩:=H.out i hlt
   have R1:=Lib.hid (h1.below hbr.out)
   have R2:=Lib.hid (h2.below hbr.out)
   clear h1 h2
   obtain⟨bA,Fa,na,ca,rfl,hbA,gA,pA,lA,nA⟩:=R1.out
   obtain⟨bB,Fb,nb,cb,rfl,hbB,gB,pB,lB,nB⟩:=R2.out
   have GA:=Lib.hid gA;have GB:=Lib.hid gB;have PA:=Lib.hid pA;have PB:=Lib.hid pB;have HKK:=Lib.hid hK;have HM:=Lib.hid hm
   have LN:=Lib.hid (⟨lA,nA,lB,nB⟩:l1.length=na∧na≤1000000∧l2.length=nb∧nb≤1000000)
   clear gA gB pA pB lA nA lB nB hK hm R1 R2
   go_upto_region 6 with fail
   have D8:=Lib.hid (show Below wr.heap.size wr wr.drew from(Below.refl wr.heap.size wr).drew)
   have HS:=Lib.hid fun(W:World) (hW:Below wr.heap.size wr W)=>show W.rangeAt bA (i*20) (recL s r m K (.slice Fa na ca))∧W.rangeAt bB (i*20) (recL s r m K (.slice Fb nb cb))from
    ⟨fun j v hj=>(World.cell?_of_block (a:=⟨bA,i*20+j,none⟩) (hW.block bA hbA)).trans (GA.out j v hj),fun j v hj=>(World.cell?_of_block (a:=⟨bB,i*20+j,none⟩) (hW.block bB hbB)).trans (GB.out j v hj)⟩
   have HSm:=Lib.hid fun(W:World) (hW:Below wr.heap.size wr W)=>samerow_yes s r m K HKK.out Fa Fb na nb ca cb l1 l2 W (PA.out.below hW) (PB.out.below hW) LN.out.1 LN.out.2.2.1 LN.out.2.1 LN.out.2.2.2 HM.out
   have hw20:((i:Int)).toNat*20=i*20:=by omega
   refine wp_region_noPanic ?_
   refine wp_region_held_drew (S:=fun W:World=>W.rangeAt bA (i*20) (recL s r m K (.slice Fa na ca))∧W.rangeAt bB (i*20) (recL s r m K (.slice Fb nb cb))) (by kernel_rfl) (by exact HS.out _ D8.out) (fun hHeld=>?_)
   refine tk (i:=0) (oi:=⟨some 17,_,_,_,_,_⟩) (v:=?_) rfl (Or.inl ⟨by rfl,?_⟩) ?_
   rotate_left
   ·intro W hSw;go_simp;try (with_reducible rfl)
   try simp only[Act.put,sA,sZ,sS]
   refine tk (i:=1) (oi:=⟨some 18,_,_,_,_,_⟩) (v:=?_) rfl (Or.inl ⟨by rfl,?_⟩) ?_
   rotate_left
   ·intro W hSw;go_simp;try (with_reducible rfl)
   try simp only[Act.put,sA,sZ,sS]
   refine tk (i:=2) (oi:=⟨some 19,_,_,_,_,_⟩) (v:=?_) rfl (Or.inl ⟨by rfl,?_⟩) ?_
   rotate_left
   ·intro W hSw;go_simp;try (with_reducible rfl)
   try simp only[Act.put,sA,sZ,sS]
   refine tk (i:=3) (oi:=⟨some 20,_,_,_,_,_⟩) rfl (yieldsIf_load_mid (by rfl) _ _ rfl _ _ rfl _ _ (fun _ h=>h.1) Tryz.underlying67 rfl (recInfo _ _ _ _ _)) ?_
   try simp only[Act.put,sA,sZ,sS]
   refine tk (i:=4) (oi:=⟨some 21,_,_,_,_,_⟩) (v:=?_) rfl (Or.inl ⟨by rfl,?_⟩) ?_
   rotate_left
   ·intro W hSw;go_simp;try (with_reducible rfl)
   try simp only[Act.put,sA,sZ,sS]
   refine tk (i:=5) (oi:=⟨some 22,_,_,_,_,_⟩) (v:=?_) rfl (Or.inl ⟨by rfl,?_⟩) ?_
   rotate_left
   ·intro W hSw;go_simp;try (with_reducible rfl)
   try simp only[Act.put,sA,sZ,sS]
   refine tk (i:=6) (oi:=⟨some 23,_,_,_,_,_⟩) (v:=?_) rfl (Or.inl ⟨by rfl,?_⟩) ?_
   rotate_left
   ·intro W hSw;go_simp;try (with_reducible rfl)
   try simp only[Act.put,sA,sZ,sS]
   refine tk (i:=7) (oi:=⟨some 24,_,_,_,_,_⟩) rfl (yieldsIf_load_mid (by rfl) _ _ rfl _ _ rfl _ _ (fun _ h=>h.2) Tryz.underlying67 rfl (recInfo _ _ _ _ _)) ?_
   try simp only[Act.put,sA,sZ,sS]
   refine wpAnyH_ready (rs:=[8]) (by kernel_rfl) (by simp) ?_
   refine AllReadyH.cons (o:=⟨some 25,_,_,_,_,_⟩) rfl (fun KK hKK=>?_) AllReadyH.nil
   go_simp
   ((with_reducible refine(HSm.out _ D8.out).mono ?_);rintro e w9 ⟨rfl,hb9⟩;have B9:=Lib.hid (D8.out.trans (hb9.mono D8.out.size));clear hb9)
   try go_wp2_with fail
   refine hKK.out _ _ (by exact(HS.out _ B9.out)) (fun hHeld=>?_)
   clear hKK KK
   try simp only[Act.put,sA,sZ,sS]
   refine tk (i:=9) (oi:=⟨some 26,_,_,_,_,_⟩) (v:=?_) rfl (Or.inl ⟨by rfl,?_⟩) ?_
   rotate_left
   ·intro W hSw;go_simp;try (with_reducible rfl)
   try simp only[Act.put,sA,sZ,sS]
   refine wpAnyH_done (by kernel_rfl) ?_ _
   refine NoPanic.normal ?_
   go_wp2_with fail
   go_roundw
   case rel=>exact⟨i+1,by omega,rfl,Lib.hid (hbr.out.trans (B9.out.mono hbr.out.size))⟩
   case measure=>simp[Rn.natOf];omega
  ·have dd1:decide ((i:Int)<(n:Int))=false:=by simp;omega
   go_wp2_with fail
   go_ret
   exact⟨rfl,hbr.out⟩
end Zv
end Go.Proofs.YtelmgldkgccecaaGreat
