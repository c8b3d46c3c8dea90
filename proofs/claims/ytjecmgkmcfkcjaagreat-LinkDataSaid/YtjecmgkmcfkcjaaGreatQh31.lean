/-
  Texts beneath the proof.
-/
import Derived.Test.YtjecmgkmcfkcjaaGreatQh30
set_option linter.unusedVariables false
set_option linter.unusedSimpArgs false
set_option maxRecDepth 100000
set_option maxHeartbeats 4000000
open Go.ChangeShapes Go.WideShapes Go.ChangeAt Go.RowKit
namespace Go.Proofs.YtjecmgkmcfkcjaaGreat
namespace Rp
open Bytes8 Blk8 Own8 OwnE Rows2 Ga Gb Gf Gj Ok7 Nt Ra Rc
open Go1 (hcode rhd hread_any HTold magicB)
def Opened (l:List Int)(E:Nat)(w:World)(e:Ending)(w':World):Prop:= ∃(gv:Nat) (A2:Option Addr) (c2:Nat),e= .returned (.tuple #[.pointer (some ⟨gv,0,none⟩),.int .i64 0])∧w.heap.size≤gv∧ViewAt w' gv (hdOf l) A2 E c2 (l.take E)∧c2≤maxLen∧Below w.heap.size w w'
attribute [local irreducible] HD.cells wpList Code.wp
attribute [local go_sem ↓] bldV_fold
theorem open_fine (l:List Int)(A:Option Addr)(n c:Nat)(w:World)(hb:Bytes w A l)(hL:l.length=n)(hn:n≤800000)(hc:n≤c)(hz:hcode l n=0)(E:Nat)(hE:endV (hdOf l)=(E:Int))(hEB:endB (hdOf l)=true)(hEn:E≤n)(hok:(hdOf l).Ok 21):
 Calls Tryz.prog 15 #[.slice A n c] w (Opened l E w):=by
 have R1:=Lib.hid (by have k:=hread_any A l n c w hb hL (by omega) hc;rw[show rhd l n=hdOf l from if_pos hz,hz]at k;exact k)
 unfold HTold at R1
 have HE:=Lib.hid fun(W:World)=>end_any (hdOf l) hok W
 rw[hE,hEB]at HE
 have HB:=Lib.hid hb
 unfold Opened
 have HLB:=Lib.hid hL
 have HOk:=Lib.hid hok
 have hTk:(l.take E).length=E:=by rw[List.length_take];omega
 generalize hdOf l=H at*
 clear hok hb hL hz hE hEB
 go_enter Tryz.func15,Tryz.ntmps15
 go_upto_region 4 with(first
  |(go_at_call 66;((refine R1.out.mono ?_);rintro e w1 ⟨rfl,hb1⟩;have B1:=Lib.hid hb1;clear hb1))
  |((with_reducible apply at_store (.tmp 4) (.tmp 11));refine wpList_store_row rfl 78 (.tmp 4) (.tmp 11) rfl w1.heap.size ((H).cells 21).toArray rfl rfl 78 Tryz.zeroCells78 (heap_alloc_new w1 _) (cells_info _) zeros_size (HD.one _ 21) ?_)
  |fail)
 have R2:=Lib.hid (show Blk ((w1.alloc (.cells Tryz.zeroCells78 78)).setRow w1.heap.size ((H).cells 21).toArray) w1.heap.size ((H).cells 21) 78 from setRow_heap _ _ _ _ _ (0,0) (heap_alloc_new w1 _))
 have B2:=Lib.hid (show Below w.heap.size w ((w1.alloc (.cells Tryz.zeroCells78 78)).setRow w1.heap.size ((H).cells 21).toArray)from below_setRow (B1.out.alloc B1.out.size _) B1.out.size _)
 generalize (w1.alloc (.cells Tryz.zeroCells78 78)).setRow w1.heap.size ((H).cells 21).toArray=w2 at*
 generalize w1.heap.size=s4 at*
 clear R1 B1
 go_upto_region 5 with(first
  |((with_reducible apply at_slot 17);refine wpList_load_row rfl 78 (.tmp 4) rfl s4 rfl 78 ((H).cells 21).toArray (0,0) _ R2.out Tryz.underlying78 rfl (cells_info _) ?_)
  |(go_at_call 67;((refine(HE.out _).mono ?_);rintro e w4 ⟨rfl,hb4⟩;have B4:=Lib.hid (B2.out.trans (hb4.mono B2.out.size));have R4:=Lib.hid (R2.out.below hb4 R2.out.lt);clear hb4))
  |fail)
 have D4:=Lib.hid (show Below w4.heap.size w4 w4.drew from(Below.refl w4.heap.size w4).drew)
 have HS:=Lib.hid fun(W:World) (hW:Below w4.heap.size w4 W)=>show(fun W:World=>W.rangeAt s4 0 ((H).cells 21)) W from whole (R4.out.below hW R4.out.lt)
 have hcut:=fun W:World=>cut_hu A n c E (by omega) (by omega) W
 have HBw:=Lib.hid (show Bytes w4.drew (cutA A c 0) (l.take E)from by
  have k:=Bytes.cut ((HB.out.below B4.out (Nat.le_refl _)).below D4.out (Nat.le_refl _)) c 0 E (by rw[HLB.out];exact hc)
  rw[List.drop_zero]at k
  exact k)
 have HCl:=Lib.hid fun(W:World) (hW:Bytes W (cutA A c 0) (l.take E))=>clone_cap (cutA A c 0) (l.take E) E c W hW hTk (by omega)
 have hbld:=fun(A':Option Addr) (c':Nat) (W:World)=>build_view H A' E c' W
 clear HE R2 B2 HB HLB hc hEn hn
 refine wp_region_noPanic ?_
 refine wp_region_held_drew (S:=fun W:World=>W.rangeAt s4 0 ((H).cells 21)) (by kernel_rfl) (by exact(HS.out _ D4.out)) (fun hHeld=>?_)
 refine tk (i:=0) (oi:=⟨some 21,_,_,_,_,_⟩) rfl (yieldsIf_load_mid (by rfl) _ _ rfl _ _ rfl _ _ (fun _ h=>h) Tryz.underlying78 rfl (hcells_len _)) ?_
 try simp only[Act.put,sA,sZ,sS]
 refine tk (i:=1) (oi:=⟨some 22,_,_,_,_,_⟩) (v:=?_) rfl (Or.inl ⟨by rfl,?_⟩) ?_
 rotate_left
 ·intro W hSw;go_simp;try (with_reducible rfl)
 try simp only[Act.put,sA,sZ,sS]
 refine tk (i:=2) (oi:=⟨some 23,_,_,_,_,_⟩) (v:=?_) rfl (Or.inl ⟨by rfl,?_⟩) ?_
 rotate_left
 ·intro W hSw;go_simp;try (with_reducible rfl)
 try simp only[Act.put,sA,sZ,sS]
 refine tk (i:=3) (oi:=⟨some 24,_,_,_,_,_⟩) (v:=?_) rfl (Or.inl ⟨by rfl,?_⟩) ?_
 rotate_left
 ·intro W hSw;go_simp;try (with_reducible rfl)
 try simp only[Act.put,sA,sZ,sS]
 refine wpAnyH_ready (rs:=[4]) (by kernel_rfl) (by simp) ?_
 refine AllReadyH.cons (o:=⟨some 25,_,_,_,_,_⟩) rfl (fun K hK=>?_) AllReadyH.nil
 go_simp
 ((refine(HCl.out _ HBw.out).mono ?_);rintro e w5 ⟨A5,c5,rfl,hby5,hb5,hcp5⟩;have B5:=Lib.hid (D4.out.trans hb5);have HB5:=Lib.hid hby5;have HC5:=Lib.hid hcp5;clear hb5 hby5 hcp5)
 try go_wp2_with fail
 refine hK.out _ _ (by exact(HS.out _ B5.out)) (fun hHeld=>?_)
 clear hK K
 try simp only[Act.put,sA,sZ,sS]
 refine tk (i:=5) (oi:=⟨some 26,_,_,_,_,_⟩) (v:=?_) rfl (Or.inl ⟨by rfl,?_⟩) ?_
 rotate_left
 ·intro W hSw;go_simp;try (with_reducible rfl)
 try simp only[Act.put,sA,sZ,sS]
 refine wpAnyH_ready (rs:=[6]) (by kernel_rfl) (by simp) ?_
 refine AllReadyH.cons (o:=⟨some 27,_,_,_,_,_⟩) rfl (fun K hK=>?_) AllReadyH.nil
 go_simp
 skip
 try go_wp2_with fail
 refine hK.out _ _ (by exact(HS.out _ (B5.out.alloc B5.out.size _))) (fun hHeld=>?_)
 clear hK K
 try simp only[Act.put,sA,sZ,sS]
 refine tk (i:=7) (oi:=⟨some 2,_,_,_,_,_⟩) (v:=?_) rfl (Or.inl ⟨by rfl,?_⟩) ?_
 rotate_left
 ·intro W hSw;go_simp;try (with_reducible rfl)
 try simp only[Act.put,sA,sZ,sS]
 refine tk (i:=8) (oi:=⟨some 3,_,_,_,_,_⟩) (v:=?_) rfl (Or.inl ⟨by rfl,?_⟩) ?_
 rotate_left
 ·intro W hSw;go_simp;try (with_reducible rfl)
 try simp only[Act.put,sA,sZ,sS]
 refine wpAnyH_done (by kernel_rfl) ?_ _
 refine NoPanic.normal ?_
 go_wp2
 go_ret2
 exact⟨_,A5,c5,rfl,Nat.le_trans B4.out.size B5.out.size,⟨Blk.new w5 _ _,HB5.out.below ((Below.refl _ _).alloc (Nat.le_refl _) _) (Nat.le_refl _),hTk,HC5.out.2.1,HC5.out.1,HOk.out⟩,HC5.out.2.2.1,B4.out.trans ((B5.out.alloc B5.out.size _).mono B4.out.size)⟩
end Rp
namespace Rf
open Re (bytes_code res_row_cell load_code)
attribute [local irreducible] wpList Code.wp
end Rf
end Go.Proofs.YtjecmgkmcfkcjaaGreat
