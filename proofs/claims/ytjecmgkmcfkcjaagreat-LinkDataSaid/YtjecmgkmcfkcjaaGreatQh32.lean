/-
  Texts beneath the proof.
-/
import Derived.Test.YtjecmgkmcfkcjaaGreatQh30
set_option linter.unusedVariables false
set_option linter.unusedSimpArgs false
set_option maxRecDepth 100000
set_option maxHeartbeats 4000000
open Go.ChangeShapes Go.WideShapes Go.ChangeAt Go.RowKit
namespace Go.Proofs.YtjecmgkmcfkcjaaGreat
namespace Rg
open Re (bytes_code res_row_cell load_code)
attribute [local irreducible] wpList Code.wp
end Rg
namespace Rh
open Re (bytes_code res_row_cell load_code)
attribute [local irreducible] wpList Code.wp
end Rh
namespace Ri
open Re (res_row_cell load_code)
attribute [local irreducible] wpList Code.wp
end Ri
namespace Rj
open Bytes8 Blk8 Own8 OwnE Rows2 Ga Gb Ok7 Np Sg Ra Rc
def keyB (ic:Int):Bool:=bits .and .u32 ic 4 !=0
theorem view_cell {w:World}{gv:Nat}{h:HD}{b v:Value}(hb:Blk w gv (viewC h b) 123){i:Nat}(hi:(h.cells 21)[i]? =some v):w.cell? ⟨gv,i,none⟩=some v:=by
 refine hb.cell ?_
 unfold viewC
 rw[List.getElem?_append_left (List.getElem?_eq_some_iff.1 hi).1]
 exact hi
theorem view_ic (h:HD):(h.cells 21)[1]? =some (.int .u32 h.ic):=by
 rw[h.get 21 1 (by decide)]
 rfl
theorem view_id {w:World}{gv:Nat}{h:HD}{b:Value}(hb:Blk w gv (viewC h b) 123):w.rangeAt gv 3 (idJ h.I):=fun j v hj=>by
 have hl:j<16:=(List.getElem?_eq_some_iff.1 hj).1
 refine view_cell hb ((h.get_I 21 j (by omega)).trans ?_)
 rw[idJ_get h.I j hl]at hj
 exact hj
theorem I_ok {h:HD}(ok:h.Ok 21):IdOk h.I:=fun i=>ok.I i
attribute [local irreducible] HD.cells wpList Code.wp
theorem vhash_any {gv:Nat}{h:HD}{A:Option Addr}{n c:Nat}{l:List Int}(A2:Option Addr)(pl:List Int)(m2 c2:Nat)(w:World)(v:ViewAt w gv h A n c l)(hb:Bytes w A2 pl)(hL:pl.length=m2)(hm:m2≤800000)(hc:m2≤c2)(hcm:c2≤maxLen):
 Calls Tryz.prog 65 #[.pointer (some ⟨gv,0,none⟩),.slice A2 m2 c2] w fun e w'=>e= .returned (.int .u64 (ofS (keyB h.ic) (idL h.I) pl))∧Below w.heap.size w w':=by
 have HOf:=Lib.hid fun(t:Bool)=>of_any t h.I A2 pl m2 c2 w.drew (I_ok v.ok) hb.drew hL hm hc hcm
 have c1:=view_cell v.blk (view_ic h)
 have Sd:=Lib.hid (show w.drew.cell? ⟨gv,1,none⟩=some (.int .u32 h.ic)∧w.drew.rangeAt gv 3 (idJ h.I)from⟨c1,view_id v.blk⟩)
 have D:=Lib.hid (show Below w.heap.size w w.drew from(Below.refl w.heap.size w).drew)
 have HV:=Lib.hid v.blk
 clear v c1 hb hL
 go_enter Tryz.func65,Tryz.ntmps65
 go_upto_region 1 with fail
 refine wp_region_noPanic ?_
 refine wp_region_held_drew (S:=fun W:World=>W.cell? ⟨gv,1,none⟩=some (.int .u32 h.ic)∧W.rangeAt gv 3 (idJ h.I)) (by kernel_rfl) (by exact Sd.out) (fun hHeld=>?_)
 refine tk (i:=0) (oi:=⟨some 5,_,_,_,_,_⟩) (v:=?_) rfl (Or.inl ⟨by rfl,?_⟩) ?_
 rotate_left
 ·intro W hSw;go_simp;try (with_reducible rfl)
 try simp only[Act.put,sA,sZ,sS]
 refine tk (i:=1) (oi:=⟨some 6,_,_,_,_,_⟩) (v:=?_) rfl (Or.inl ⟨by rfl,?_⟩) ?_
 rotate_left
 ·intro W hSw;go_simp;try (with_reducible rfl)
 try simp only[Act.put,sA,sZ,sS]
 refine tk (i:=2) (oi:=⟨some 7,_,_,_,_,_⟩) (v:=?_) rfl (Or.inl ⟨by rfl,?_⟩) ?_
 rotate_left
 ·intro W hSw;go_simp;try (with_reducible rfl)
 try simp only[Act.put,sA,sZ,sS]
 refine tk (i:=3) (oi:=⟨some 8,_,_,_,_,_⟩) (v:=?_) rfl (Or.inl ⟨by rfl,?_⟩) ?_
 rotate_left
 ·intro W hSw;go_simp;try (with_reducible rfl)
 try simp only[Act.put,sA,sZ,sS]
 refine tk (i:=4) (oi:=⟨some 9,_,_,_,_,_⟩) (v:=?_) rfl (Or.inl ⟨by rfl,?_⟩) ?_
 rotate_left
 ·intro W hSw;have hSx:=hSw.1;go_simp;try (with_reducible rfl)
 try simp only[Act.put,sA,sZ,sS]
 refine tk (i:=5) (oi:=⟨some 10,_,_,_,_,_⟩) (v:=?_) rfl (Or.inl ⟨by rfl,?_⟩) ?_
 rotate_left
 ·intro W hSw;go_simp;try (with_reducible rfl)
 try simp only[Act.put,sA,sZ,sS]
 refine tk (i:=6) (oi:=⟨some 11,_,_,_,_,_⟩) (v:=?_) rfl (Or.inl ⟨by rfl,?_⟩) ?_
 rotate_left
 ·intro W hSw;go_simp;try (with_reducible rfl)
 try simp only[Act.put,sA,sZ,sS]
 refine tk (i:=7) (oi:=⟨some 12,_,_,_,_,_⟩) (v:=?_) rfl (Or.inl ⟨by rfl,?_⟩) ?_
 rotate_left
 ·intro W hSw;go_simp;try (with_reducible rfl)
 try simp only[Act.put,sA,sZ,sS]
 refine tk (i:=8) (oi:=⟨some 13,_,_,_,_,_⟩) (v:=?_) rfl (Or.inl ⟨by rfl,?_⟩) ?_
 rotate_left
 ·intro W hSw;go_simp;try (with_reducible rfl)
 try simp only[Act.put,sA,sZ,sS]
 refine tk (i:=9) (oi:=⟨some 14,_,_,_,_,_⟩) (v:=?_) rfl (Or.inl ⟨by rfl,?_⟩) ?_
 rotate_left
 ·intro W hSw;go_simp;try (with_reducible rfl)
 try simp only[Act.put,sA,sZ,sS]
 refine tk (i:=10) (oi:=⟨some 15,_,_,_,_,_⟩) (v:=?_) rfl (Or.inl ⟨by rfl,?_⟩) ?_
 rotate_left
 ·intro W hSw;go_simp;try (with_reducible rfl)
 try simp only[Act.put,sA,sZ,sS]
 refine tk (i:=11) (oi:=⟨some 16,_,_,_,_,_⟩) rfl (yieldsIf_load_mid (by rfl) _ _ rfl _ _ rfl _ _ (fun _ h=>h.2) Tryz.underlying62 rfl (idJ_info _)) ?_
 try simp only[Act.put,sA,sZ,sS]
 refine tk (i:=12) (oi:=⟨some 17,_,_,_,_,_⟩) (v:=?_) rfl (Or.inl ⟨by rfl,?_⟩) ?_
 rotate_left
 ·intro W hSw;go_simp;try (with_reducible rfl)
 try simp only[Act.put,sA,sZ,sS]
 refine wpAnyH_ready (rs:=[13]) (by kernel_rfl) (by simp) ?_
 refine AllReadyH.cons (o:=⟨some 18,_,_,_,_,_⟩) rfl (fun K hK=>?_) AllReadyH.nil
 go_simp
 ((refine(HOf.out _).mono ?_);rintro e w2 ⟨rfl,hb2⟩;have B2:=Lib.hid (D.out.trans hb2);have S2:=Lib.hid (show w2.cell? ⟨gv,1,none⟩=some (.int .u32 h.ic)∧w2.rangeAt gv 3 (idJ h.I)from⟨view_cell (HV.out.below B2.out HV.out.lt) (view_ic h),view_id (HV.out.below B2.out HV.out.lt)⟩);clear hb2)
 try go_wp2_with fail
 refine hK.out _ _ (by exact S2.out) (fun hHeld=>?_)
 clear hK K
 try simp only[Act.put,sA,sZ,sS]
 refine tk (i:=14) (oi:=⟨some 4,_,_,_,_,_⟩) (v:=?_) rfl (Or.inl ⟨by rfl,?_⟩) ?_
 rotate_left
 ·intro W hSw;go_simp;try (with_reducible rfl)
 try simp only[Act.put,sA,sZ,sS]
 refine wpAnyH_done (by kernel_rfl) ?_ _
 refine NoPanic.normal ?_
 go_wp2
 go_ret
 exact⟨rfl,B2.out⟩
end Rj
namespace Rk
open Ob Sg
attribute [local irreducible] wpList Code.wp ofS bnum bpay bcode
end Rk
end Go.Proofs.YtjecmgkmcfkcjaaGreat
