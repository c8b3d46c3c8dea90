/-
  Texts beneath the proof.
-/
import Derived.Test.YtiddkgcafpaekaaGreatJq9
set_option linter.unusedVariables false
set_option linter.unusedSimpArgs false
set_option maxRecDepth 100000
set_option maxHeartbeats 4000000
open Go.ChangeShapes Go.WideShapes Go.ChangeAt Go.RowKit
namespace Go.Proofs.YtiddkgcafpaekaaGreat
namespace Gm
open Bytes8 Blk8 Own8 OwnE Ga Gb Gf Gl
def flB (ic:Int):Bool:=bits BinOp.andNot IntKind.u32 ic 4 !=0
def stB (s:Int):Bool:=s==0||s==1||s==2
def fcode (h:HD)(n:Int):Int:=
 if flB h.ic=true then 7 else if stB h.st=false then 8
 else if h.N 0<272∨h.N 0%8≠0∨h.N 1%8≠0 then 5
 else if endB h=false∨n<endV h then 2
 else if tcode (h.N 2) (h.N 3) (h.N 0) (endV h)≠0 then tcode (h.N 2) (h.N 3) (h.N 0) (endV h)else tcode (h.N 4) (h.N 5) (h.N 0) (endV h)
theorem end_bd (h:HD)(ok:h.Ok 21):0≤endV h∧endV h≤18446744073709551615:=by
 have h0:=ok.N 0
 have h1:=ok.N 1
 unfold endV
 split<;>omega
attribute [local irreducible] HD.cells wpList Code.wp
abbrev Told (c:Int)(w:World)(e:Ending)(w':World):Prop:=e= .returned (.int .i64 c)∧Below w.heap.size w w'
theorem fault_flag (h:HD)(ok:h.Ok 21)(n:Int)(w:World)(h1:(bits BinOp.andNot IntKind.u32 h.ic 4 !=0)=true):Calls Tryz.prog 65 #[.agg (h.cells 21).toArray,.int .u64 n] w (Told 7 w):=by
 have b0:=yH ((Below.refl w.heap.size w).alloc (yR _) (.cells (h.cells 21).toArray 39))
 have R0:=yH (show Blk (w.alloc (.cells (h.cells 21).toArray 39)) w.heap.size (h.cells 21) 39 from Blk.new w _ _)
 have HE:=yH fun(W:World)=>end_any h ok W
 have HS:=yH fun(W:World)=>isState_any h.st W
 have hic:=ok.ic
 obtain⟨p0,p1⟩:=ok.N 0
 obtain⟨r0,r1⟩:=ok.N 1
 go_enter Tryz.func65,Tryz.ntmps65
 go_wp2_with(first
  |((with_reducible apply at_slot 9);refine wpList_load_row rfl 39 (.tmp 2) rfl w.heap.size rfl 39 (h.cells 21).toArray (0,0) _ R0.out Tryz.underlying39 rfl (cells_info _) ?_)
  |(go_at_call 71;((with_reducible refine(HE.out _).mono ?_);rintro e w1 ⟨rfl,hb1⟩;have B1:=yH (b0.out.trans (hb1.mono b0.out.size));have R1:=yH (R0.out.below hb1 R0.out.lt);have c1:w1.cell? ⟨w.heap.size,1,none⟩=some (.int .u32 h.ic):=R1.out.cell (h.get 21 1 (by decide));have c2:w1.cell? ⟨w.heap.size,2,none⟩=some (.int .i64 h.st):=R1.out.cell (h.get 21 2 (by decide));have c67:=HD.nums_at R1.out 0 (by decide);have c68:=HD.nums_at R1.out 1 (by decide);have c69:=HD.nums_at R1.out 2 (by decide);have c70:=HD.nums_at R1.out 3 (by decide);clear hb1))
  |(go_at_call 128;((with_reducible refine(HS.out _).mono ?_);rintro e w' ⟨rfl,rfl⟩))
  |((with_reducible apply at_slot 47);refine wpList_load_row rfl 39 (.tmp 2) rfl w.heap.size rfl 39 (h.cells 21).toArray (0,0) _ R1.out Tryz.underlying39 rfl (cells_info _) ?_)
  |(go_at_call 129;((with_reducible refine(HT1.out w1).mono ?_);rintro e w2 ⟨rfl,hb2⟩;have B2:=yH (B1.out.trans (hb2.mono B1.out.size));have R2:=yH (R1.out.below hb2 R1.out.lt);have c71:=HD.nums_at R2.out 4 (by decide);have c72:=HD.nums_at R2.out 5 (by decide);clear hb2))
  |((with_reducible apply at_slot 57);refine wpList_load_row rfl 39 (.tmp 2) rfl w.heap.size rfl 39 (h.cells 21).toArray (0,0) _ R2.out Tryz.underlying39 rfl (cells_info _) ?_)
  |(go_at_call 129;((with_reducible refine(HT2.out w2).mono ?_);rintro e w3 ⟨rfl,hb3⟩;have B3:=yH (B2.out.trans (hb3.mono B2.out.size));clear hb3)))
 go_ret
 exact⟨rfl,B1.out⟩
theorem fault_state (h:HD)(ok:h.Ok 21)(n:Int)(w:World)(h1:(bits BinOp.andNot IntKind.u32 h.ic 4 !=0)=false)(h2:stB h.st=false):Calls Tryz.prog 65 #[.agg (h.cells 21).toArray,.int .u64 n] w (Told 8 w):=by
 have b0:=yH ((Below.refl w.heap.size w).alloc (yR _) (.cells (h.cells 21).toArray 39))
 have R0:=yH (show Blk (w.alloc (.cells (h.cells 21).toArray 39)) w.heap.size (h.cells 21) 39 from Blk.new w _ _)
 have HE:=yH fun(W:World)=>end_any h ok W
 have HS:=yH fun(W:World)=>isState_any h.st W
 have hic:=ok.ic
 obtain⟨p0,p1⟩:=ok.N 0
 obtain⟨r0,r1⟩:=ok.N 1
 unfold stB at h2
 rw[h2]at HS
 clear h2
 go_enter Tryz.func65,Tryz.ntmps65
 go_wp2_with(first
  |((with_reducible apply at_slot 9);refine wpList_load_row rfl 39 (.tmp 2) rfl w.heap.size rfl 39 (h.cells 21).toArray (0,0) _ R0.out Tryz.underlying39 rfl (cells_info _) ?_)
  |(go_at_call 71;((with_reducible refine(HE.out _).mono ?_);rintro e w1 ⟨rfl,hb1⟩;have B1:=yH (b0.out.trans (hb1.mono b0.out.size));have R1:=yH (R0.out.below hb1 R0.out.lt);have c1:w1.cell? ⟨w.heap.size,1,none⟩=some (.int .u32 h.ic):=R1.out.cell (h.get 21 1 (by decide));have c2:w1.cell? ⟨w.heap.size,2,none⟩=some (.int .i64 h.st):=R1.out.cell (h.get 21 2 (by decide));have c67:=HD.nums_at R1.out 0 (by decide);have c68:=HD.nums_at R1.out 1 (by decide);have c69:=HD.nums_at R1.out 2 (by decide);have c70:=HD.nums_at R1.out 3 (by decide);clear hb1))
  |(go_at_call 128;((with_reducible refine(HS.out _).mono ?_);rintro e w' ⟨rfl,rfl⟩))
  |((with_reducible apply at_slot 47);refine wpList_load_row rfl 39 (.tmp 2) rfl w.heap.size rfl 39 (h.cells 21).toArray (0,0) _ R1.out Tryz.underlying39 rfl (cells_info _) ?_)
  |(go_at_call 129;((with_reducible refine(HT1.out w1).mono ?_);rintro e w2 ⟨rfl,hb2⟩;have B2:=yH (B1.out.trans (hb2.mono B1.out.size));have R2:=yH (R1.out.below hb2 R1.out.lt);have c71:=HD.nums_at R2.out 4 (by decide);have c72:=HD.nums_at R2.out 5 (by decide);clear hb2))
  |((with_reducible apply at_slot 57);refine wpList_load_row rfl 39 (.tmp 2) rfl w.heap.size rfl 39 (h.cells 21).toArray (0,0) _ R2.out Tryz.underlying39 rfl (cells_info _) ?_)
  |(go_at_call 129;((with_reducible refine(HT2.out w2).mono ?_);rintro e w3 ⟨rfl,hb3⟩;have B3:=yH (B2.out.trans (hb3.mono B2.out.size));clear hb3)))
 go_ret
 exact⟨rfl,B1.out⟩
theorem fault_size (h:HD)(ok:h.Ok 21)(n:Int)(w:World)(h1:(bits BinOp.andNot IntKind.u32 h.ic 4 !=0)=false)(h2:stB h.st=true)(h3:h.N 0<272∨h.N 0%8≠0∨h.N 1%8≠0):Calls Tryz.prog 65 #[.agg (h.cells 21).toArray,.int .u64 n] w (Told 5 w):=by
 have b0:=yH ((Below.refl w.heap.size w).alloc (yR _) (.cells (h.cells 21).toArray 39))
 have R0:=yH (show Blk (w.alloc (.cells (h.cells 21).toArray 39)) w.heap.size (h.cells 21) 39 from Blk.new w _ _)
 have HE:=yH fun(W:World)=>end_any h ok W
 have HS:=yH fun(W:World)=>isState_any h.st W
 have hic:=ok.ic
 obtain⟨p0,p1⟩:=ok.N 0
 obtain⟨r0,r1⟩:=ok.N 1
 unfold stB at h2
 rw[h2]at HS
 clear h2
 by_cases h4:h.N 0<272
 ·have d4:decide (h.N 0<272)=true:=by simp;omega
  clear h3
  go_enter Tryz.func65,Tryz.ntmps65
  go_wp2_with(first
   |((with_reducible apply at_slot 9);refine wpList_load_row rfl 39 (.tmp 2) rfl w.heap.size rfl 39 (h.cells 21).toArray (0,0) _ R0.out Tryz.underlying39 rfl (cells_info _) ?_)
   |(go_at_call 71;((with_reducible refine(HE.out _).mono ?_);rintro e w1 ⟨rfl,hb1⟩;have B1:=yH (b0.out.trans (hb1.mono b0.out.size));have R1:=yH (R0.out.below hb1 R0.out.lt);have c1:w1.cell? ⟨w.heap.size,1,none⟩=some (.int .u32 h.ic):=R1.out.cell (h.get 21 1 (by decide));have c2:w1.cell? ⟨w.heap.size,2,none⟩=some (.int .i64 h.st):=R1.out.cell (h.get 21 2 (by decide));have c67:=HD.nums_at R1.out 0 (by decide);have c68:=HD.nums_at R1.out 1 (by decide);have c69:=HD.nums_at R1.out 2 (by decide);have c70:=HD.nums_at R1.out 3 (by decide);clear hb1))
   |(go_at_call 128;((with_reducible refine(HS.out _).mono ?_);rintro e w' ⟨rfl,rfl⟩))
   |((with_reducible apply at_slot 47);refine wpList_load_row rfl 39 (.tmp 2) rfl w.heap.size rfl 39 (h.cells 21).toArray (0,0) _ R1.out Tryz.underlying39 rfl (cells_info _) ?_)
   |(go_at_call 129;((with_reducible refine(HT1.out w1).mono ?_);rintro e w2 ⟨rfl,hb2⟩;have B2:=yH (B1.out.trans (hb2.mono B1.out.size));have R2:=yH (R1.out.below hb2 R1.out.lt);have c71:=HD.nums_at R2.out 4 (by decide);have c72:=HD.nums_at R2.out 5 (by decide);clear hb2))
   |((with_reducible apply at_slot 57);refine wpList_load_row rfl 39 (.tmp 2) rfl w.heap.size rfl 39 (h.cells 21).toArray (0,0) _ R2.out Tryz.underlying39 rfl (cells_info _) ?_)
   |(go_at_call 129;((with_reducible refine(HT2.out w2).mono ?_);rintro e w3 ⟨rfl,hb3⟩;have B3:=yH (B2.out.trans (hb3.mono B2.out.size));clear hb3)))
  go_ret
  exact⟨rfl,B1.out⟩
 have d4:decide (h.N 0<272)=false:=by simp;omega
 by_cases h5:h.N 0%8=0
 ·have h6: ¬h.N 1%8=0:=by omega
  clear h3
  go_enter Tryz.func65,Tryz.ntmps65
  go_wp2_with(first
   |((with_reducible apply at_slot 9);refine wpList_load_row rfl 39 (.tmp 2) rfl w.heap.size rfl 39 (h.cells 21).toArray (0,0) _ R0.out Tryz.underlying39 rfl (cells_info _) ?_)
   |(go_at_call 71;((with_reducible refine(HE.out _).mono ?_);rintro e w1 ⟨rfl,hb1⟩;have B1:=yH (b0.out.trans (hb1.mono b0.out.size));have R1:=yH (R0.out.below hb1 R0.out.lt);have c1:w1.cell? ⟨w.heap.size,1,none⟩=some (.int .u32 h.ic):=R1.out.cell (h.get 21 1 (by decide));have c2:w1.cell? ⟨w.heap.size,2,none⟩=some (.int .i64 h.st):=R1.out.cell (h.get 21 2 (by decide));have c67:=HD.nums_at R1.out 0 (by decide);have c68:=HD.nums_at R1.out 1 (by decide);have c69:=HD.nums_at R1.out 2 (by decide);have c70:=HD.nums_at R1.out 3 (by decide);clear hb1))
   |(go_at_call 128;((with_reducible refine(HS.out _).mono ?_);rintro e w' ⟨rfl,rfl⟩))
   |((with_reducible apply at_slot 47);refine wpList_load_row rfl 39 (.tmp 2) rfl w.heap.size rfl 39 (h.cells 21).toArray (0,0) _ R1.out Tryz.underlying39 rfl (cells_info _) ?_)
   |(go_at_call 129;((with_reducible refine(HT1.out w1).mono ?_);rintro e w2 ⟨rfl,hb2⟩;have B2:=yH (B1.out.trans (hb2.mono B1.out.size));have R2:=yH (R1.out.below hb2 R1.out.lt);have c71:=HD.nums_at R2.out 4 (by decide);have c72:=HD.nums_at R2.out 5 (by decide);clear hb2))
   |((with_reducible apply at_slot 57);refine wpList_load_row rfl 39 (.tmp 2) rfl w.heap.size rfl 39 (h.cells 21).toArray (0,0) _ R2.out Tryz.underlying39 rfl (cells_info _) ?_)
   |(go_at_call 129;((with_reducible refine(HT2.out w2).mono ?_);rintro e w3 ⟨rfl,hb3⟩;have B3:=yH (B2.out.trans (hb3.mono B2.out.size));clear hb3)))
  go_ret
  exact⟨rfl,B1.out⟩
 ·clear h3
  go_enter Tryz.func65,Tryz.ntmps65
  go_wp2_with(first
   |((with_reducible apply at_slot 9);refine wpList_load_row rfl 39 (.tmp 2) rfl w.heap.size rfl 39 (h.cells 21).toArray (0,0) _ R0.out Tryz.underlying39 rfl (cells_info _) ?_)
   |(go_at_call 71;((with_reducible refine(HE.out _).mono ?_);rintro e w1 ⟨rfl,hb1⟩;have B1:=yH (b0.out.trans (hb1.mono b0.out.size));have R1:=yH (R0.out.below hb1 R0.out.lt);have c1:w1.cell? ⟨w.heap.size,1,none⟩=some (.int .u32 h.ic):=R1.out.cell (h.get 21 1 (by decide));have c2:w1.cell? ⟨w.heap.size,2,none⟩=some (.int .i64 h.st):=R1.out.cell (h.get 21 2 (by decide));have c67:=HD.nums_at R1.out 0 (by decide);have c68:=HD.nums_at R1.out 1 (by decide);have c69:=HD.nums_at R1.out 2 (by decide);have c70:=HD.nums_at R1.out 3 (by decide);clear hb1))
   |(go_at_call 128;((with_reducible refine(HS.out _).mono ?_);rintro e w' ⟨rfl,rfl⟩))
   |((with_reducible apply at_slot 47);refine wpList_load_row rfl 39 (.tmp 2) rfl w.heap.size rfl 39 (h.cells 21).toArray (0,0) _ R1.out Tryz.underlying39 rfl (cells_info _) ?_)
   |(go_at_call 129;((with_reducible refine(HT1.out w1).mono ?_);rintro e w2 ⟨rfl,hb2⟩;have B2:=yH (B1.out.trans (hb2.mono B1.out.size));have R2:=yH (R1.out.below hb2 R1.out.lt);have c71:=HD.nums_at R2.out 4 (by decide);have c72:=HD.nums_at R2.out 5 (by decide);clear hb2))
   |((with_reducible apply at_slot 57);refine wpList_load_row rfl 39 (.tmp 2) rfl w.heap.size rfl 39 (h.cells 21).toArray (0,0) _ R2.out Tryz.underlying39 rfl (cells_info _) ?_)
   |(go_at_call 129;((with_reducible refine(HT2.out w2).mono ?_);rintro e w3 ⟨rfl,hb3⟩;have B3:=yH (B2.out.trans (hb3.mono B2.out.size));clear hb3)))
  go_ret
  exact⟨rfl,B1.out⟩
theorem fault_range (h:HD)(ok:h.Ok 21)(n:Int)(w:World)(h1:(bits BinOp.andNot IntKind.u32 h.ic 4 !=0)=false)(h2:stB h.st=true)(h3: ¬(h.N 0<272∨h.N 0%8≠0∨h.N 1%8≠0))(h4:endB h=false∨n<endV h):Calls Tryz.prog 65 #[.agg (h.cells 21).toArray,.int .u64 n] w (Told 2 w):=by
 have b0:=yH ((Below.refl w.heap.size w).alloc (yR _) (.cells (h.cells 21).toArray 39))
 have R0:=yH (show Blk (w.alloc (.cells (h.cells 21).toArray 39)) w.heap.size (h.cells 21) 39 from Blk.new w _ _)
 have HE:=yH fun(W:World)=>end_any h ok W
 have HS:=yH fun(W:World)=>isState_any h.st W
 have hic:=ok.ic
 obtain⟨p0,p1⟩:=ok.N 0
 obtain⟨r0,r1⟩:=ok.N 1
 unfold stB at h2
 rw[h2]at HS
 clear h2
 have d4:decide (h.N 0<272)=false:=by simp;omega
 have h5:h.N 0%8=0:=by omega
 have h6:h.N 1%8=0:=by omega
 clear h3
 by_cases h7:endB h=false
 ·rw[h7]at HE
  clear h4 h7
  go_enter Tryz.func65,Tryz.ntmps65
  go_wp2_with(first
   |((with_reducible apply at_slot 9);refine wpList_load_row rfl 39 (.tmp 2) rfl w.heap.size rfl 39 (h.cells 21).toArray (0,0) _ R0.out Tryz.underlying39 rfl (cells_info _) ?_)
   |(go_at_call 71;((with_reducible refine(HE.out _).mono ?_);rintro e w1 ⟨rfl,hb1⟩;have B1:=yH (b0.out.trans (hb1.mono b0.out.size));have R1:=yH (R0.out.below hb1 R0.out.lt);have c1:w1.cell? ⟨w.heap.size,1,none⟩=some (.int .u32 h.ic):=R1.out.cell (h.get 21 1 (by decide));have c2:w1.cell? ⟨w.heap.size,2,none⟩=some (.int .i64 h.st):=R1.out.cell (h.get 21 2 (by decide));have c67:=HD.nums_at R1.out 0 (by decide);have c68:=HD.nums_at R1.out 1 (by decide);have c69:=HD.nums_at R1.out 2 (by decide);have c70:=HD.nums_at R1.out 3 (by decide);clear hb1))
   |(go_at_call 128;((with_reducible refine(HS.out _).mono ?_);rintro e w' ⟨rfl,rfl⟩))
   |((with_reducible apply at_slot 47);refine wpList_load_row rfl 39 (.tmp 2) rfl w.heap.size rfl 39 (h.cells 21).toArray (0,0) _ R1.out Tryz.underlying39 rfl (cells_info _) ?_)
   |(go_at_call 129;((with_reducible refine(HT1.out w1).mono ?_);rintro e w2 ⟨rfl,hb2⟩;have B2:=yH (B1.out.trans (hb2.mono B1.out.size));have R2:=yH (R1.out.below hb2 R1.out.lt);have c71:=HD.nums_at R2.out 4 (by decide);have c72:=HD.nums_at R2.out 5 (by decide);clear hb2))
   |((with_reducible apply at_slot 57);refine wpList_load_row rfl 39 (.tmp 2) rfl w.heap.size rfl 39 (h.cells 21).toArray (0,0) _ R2.out Tryz.underlying39 rfl (cells_info _) ?_)
   |(go_at_call 129;((with_reducible refine(HT2.out w2).mono ?_);rintro e w3 ⟨rfl,hb3⟩;have B3:=yH (B2.out.trans (hb3.mono B2.out.size));clear hb3)))
  go_ret
  exact⟨rfl,B1.out⟩
 ·have h7':endB h=true:=by simpa using h7
  have h8:n<endV h:=by rcases h4 with h4|h4;exact absurd h4 h7;exact h4
  rw[h7']at HE
  clear h4 h7 h7'
  generalize endV h=V at*
  have d8:decide (n<V)=true:=by simp;omega
  go_enter Tryz.func65,Tryz.ntmps65
  go_wp2_with(first
   |((with_reducible apply at_slot 9);refine wpList_load_row rfl 39 (.tmp 2) rfl w.heap.size rfl 39 (h.cells 21).toArray (0,0) _ R0.out Tryz.underlying39 rfl (cells_info _) ?_)
   |(go_at_call 71;((with_reducible refine(HE.out _).mono ?_);rintro e w1 ⟨rfl,hb1⟩;have B1:=yH (b0.out.trans (hb1.mono b0.out.size));have R1:=yH (R0.out.below hb1 R0.out.lt);have c1:w1.cell? ⟨w.heap.size,1,none⟩=some (.int .u32 h.ic):=R1.out.cell (h.get 21 1 (by decide));have c2:w1.cell? ⟨w.heap.size,2,none⟩=some (.int .i64 h.st):=R1.out.cell (h.get 21 2 (by decide));have c67:=HD.nums_at R1.out 0 (by decide);have c68:=HD.nums_at R1.out 1 (by decide);have c69:=HD.nums_at R1.out 2 (by decide);have c70:=HD.nums_at R1.out 3 (by decide);clear hb1))
   |(go_at_call 128;((with_reducible refine(HS.out _).mono ?_);rintro e w' ⟨rfl,rfl⟩))
   |((with_reducible apply at_slot 47);refine wpList_load_row rfl 39 (.tmp 2) rfl w.heap.size rfl 39 (h.cells 21).toArray (0,0) _ R1.out Tryz.underlying39 rfl (cells_info _) ?_)
   |(go_at_call 129;((with_reducible refine(HT1.out w1).mono ?_);rintro e w2 ⟨rfl,hb2⟩;have B2:=yH (B1.out.trans (hb2.mono B1.out.size));have R2:=yH (R1.out.below hb2 R1.out.lt);have c71:=HD.nums_at R2.out 4 (by decide);have c72:=HD.nums_at R2.out 5 (by decide);clear hb2))
   |((with_reducible apply at_slot 57);refine wpList_load_row rfl 39 (.tmp 2) rfl w.heap.size rfl 39 (h.cells 21).toArray (0,0) _ R2.out Tryz.underlying39 rfl (cells_info _) ?_)
   |(go_at_call 129;((with_reducible refine(HT2.out w2).mono ?_);rintro e w3 ⟨rfl,hb3⟩;have B3:=yH (B2.out.trans (hb3.mono B2.out.size));clear hb3)))
  go_ret
  exact⟨rfl,B1.out⟩
theorem fault_table (h:HD)(ok:h.Ok 21)(n:Int)(hn:n≤1000000)(w:World)(h1:(bits BinOp.andNot IntKind.u32 h.ic 4 !=0)=false)(h2:stB h.st=true)(h3: ¬(h.N 0<272∨h.N 0%8≠0∨h.N 1%8≠0))(h4: ¬(endB h=false∨n<endV h)):Calls Tryz.prog 65 #[.agg (h.cells 21).toArray,.int .u64 n] w (Told (if tcode (h.N 2) (h.N 3) (h.N 0) (endV h)≠0 then tcode (h.N 2) (h.N 3) (h.N 0) (endV h)else tcode (h.N 4) (h.N 5) (h.N 0) (endV h)) w):=by
 have b0:=yH ((Below.refl w.heap.size w).alloc (yR _) (.cells (h.cells 21).toArray 39))
 have R0:=yH (show Blk (w.alloc (.cells (h.cells 21).toArray 39)) w.heap.size (h.cells 21) 39 from Blk.new w _ _)
 have HE:=yH fun(W:World)=>end_any h ok W
 have HS:=yH fun(W:World)=>isState_any h.st W
 have hic:=ok.ic
 obtain⟨p0,p1⟩:=ok.N 0
 obtain⟨r0,r1⟩:=ok.N 1
 unfold stB at h2
 rw[h2]at HS
 clear h2
 have d4:decide (h.N 0<272)=false:=by simp;omega
 have h5:h.N 0%8=0:=by omega
 have h6:h.N 1%8=0:=by omega
 clear h3
 have h7:endB h=true:=by
  cases hb:endB h with
  |true=>rfl
  |false=>exact absurd (Or.inl hb) h4
 have h8: ¬n<endV h:=fun hx=>h4 (Or.inr hx)
 have hV:endV h=h.N 0+h.N 1:=if_pos (of_decide_eq_true h7)
 have hN0:h.N 0≤1000000000:=by omega
 have hVb:=end_bd h ok
 have HT1:=yH fun(W:World)=>tf_any h ok (endV h) (h.N 2) (h.N 3) hVb (ok.N 2) (ok.N 3) hN0 W
 have HT2:=yH fun(W:World)=>tf_any h ok (endV h) (h.N 4) (h.N 5) hVb (ok.N 4) (ok.N 5) hN0 W
 rw[h7]at HE
 clear h4 h7 hV
 generalize tcode (h.N 2) (h.N 3) (h.N 0) (endV h)=t1 at*
 generalize tcode (h.N 4) (h.N 5) (h.N 0) (endV h)=t2 at*
 generalize endV h=V at*
 have d8:decide (n<V)=false:=by simp;omega
 by_cases ht:t1=0
 ·subst ht
  rw[if_neg (by simp)]
  go_enter Tryz.func65,Tryz.ntmps65
  go_wp2_with(first
   |((with_reducible apply at_slot 9);refine wpList_load_row rfl 39 (.tmp 2) rfl w.heap.size rfl 39 (h.cells 21).toArray (0,0) _ R0.out Tryz.underlying39 rfl (cells_info _) ?_)
   |(go_at_call 71;((with_reducible refine(HE.out _).mono ?_);rintro e w1 ⟨rfl,hb1⟩;have B1:=yH (b0.out.trans (hb1.mono b0.out.size));have R1:=yH (R0.out.below hb1 R0.out.lt);have c1:w1.cell? ⟨w.heap.size,1,none⟩=some (.int .u32 h.ic):=R1.out.cell (h.get 21 1 (by decide));have c2:w1.cell? ⟨w.heap.size,2,none⟩=some (.int .i64 h.st):=R1.out.cell (h.get 21 2 (by decide));have c67:=HD.nums_at R1.out 0 (by decide);have c68:=HD.nums_at R1.out 1 (by decide);have c69:=HD.nums_at R1.out 2 (by decide);have c70:=HD.nums_at R1.out 3 (by decide);clear hb1))
   |(go_at_call 128;((with_reducible refine(HS.out _).mono ?_);rintro e w' ⟨rfl,rfl⟩))
   |((with_reducible apply at_slot 47);refine wpList_load_row rfl 39 (.tmp 2) rfl w.heap.size rfl 39 (h.cells 21).toArray (0,0) _ R1.out Tryz.underlying39 rfl (cells_info _) ?_)
   |(go_at_call 129;((with_reducible refine(HT1.out w1).mono ?_);rintro e w2 ⟨rfl,hb2⟩;have B2:=yH (B1.out.trans (hb2.mono B1.out.size));have R2:=yH (R1.out.below hb2 R1.out.lt);have c71:=HD.nums_at R2.out 4 (by decide);have c72:=HD.nums_at R2.out 5 (by decide);clear hb2))
   |((with_reducible apply at_slot 57);refine wpList_load_row rfl 39 (.tmp 2) rfl w.heap.size rfl 39 (h.cells 21).toArray (0,0) _ R2.out Tryz.underlying39 rfl (cells_info _) ?_)
   |(go_at_call 129;((with_reducible refine(HT2.out w2).mono ?_);rintro e w3 ⟨rfl,hb3⟩;have B3:=yH (B2.out.trans (hb3.mono B2.out.size));clear hb3)))
  go_ret
  exact⟨rfl,B3.out⟩
 ·rw[if_pos ht]
  have dt:(t1 !=0)=true:=by simp[ht]
  go_enter Tryz.func65,Tryz.ntmps65
  go_wp2_with(first
   |((with_reducible apply at_slot 9);refine wpList_load_row rfl 39 (.tmp 2) rfl w.heap.size rfl 39 (h.cells 21).toArray (0,0) _ R0.out Tryz.underlying39 rfl (cells_info _) ?_)
   |(go_at_call 71;((with_reducible refine(HE.out _).mono ?_);rintro e w1 ⟨rfl,hb1⟩;have B1:=yH (b0.out.trans (hb1.mono b0.out.size));have R1:=yH (R0.out.below hb1 R0.out.lt);have c1:w1.cell? ⟨w.heap.size,1,none⟩=some (.int .u32 h.ic):=R1.out.cell (h.get 21 1 (by decide));have c2:w1.cell? ⟨w.heap.size,2,none⟩=some (.int .i64 h.st):=R1.out.cell (h.get 21 2 (by decide));have c67:=HD.nums_at R1.out 0 (by decide);have c68:=HD.nums_at R1.out 1 (by decide);have c69:=HD.nums_at R1.out 2 (by decide);have c70:=HD.nums_at R1.out 3 (by decide);clear hb1))
   |(go_at_call 128;((with_reducible refine(HS.out _).mono ?_);rintro e w' ⟨rfl,rfl⟩))
   |((with_reducible apply at_slot 47);refine wpList_load_row rfl 39 (.tmp 2) rfl w.heap.size rfl 39 (h.cells 21).toArray (0,0) _ R1.out Tryz.underlying39 rfl (cells_info _) ?_)
   |(go_at_call 129;((with_reducible refine(HT1.out w1).mono ?_);rintro e w2 ⟨rfl,hb2⟩;have B2:=yH (B1.out.trans (hb2.mono B1.out.size));have R2:=yH (R1.out.below hb2 R1.out.lt);have c71:=HD.nums_at R2.out 4 (by decide);have c72:=HD.nums_at R2.out 5 (by decide);clear hb2))
   |((with_reducible apply at_slot 57);refine wpList_load_row rfl 39 (.tmp 2) rfl w.heap.size rfl 39 (h.cells 21).toArray (0,0) _ R2.out Tryz.underlying39 rfl (cells_info _) ?_)
   |(go_at_call 129;((with_reducible refine(HT2.out w2).mono ?_);rintro e w3 ⟨rfl,hb3⟩;have B3:=yH (B2.out.trans (hb3.mono B2.out.size));clear hb3)))
  go_ret
  exact⟨rfl,B2.out⟩
theorem fault_any (h:HD)(ok:h.Ok 21)(n:Int)(hn:n≤1000000)(w:World):Calls Tryz.prog 65 #[.agg (h.cells 21).toArray,.int .u64 n] w (Told (fcode h n) w):=by
 unfold fcode
 by_cases h1:flB h.ic=true
 ·rw[if_pos h1];exact fault_flag h ok n w h1
 rw[if_neg h1]
 have h1':flB h.ic=false:=by simpa using h1
 by_cases h2:stB h.st=false
 ·rw[if_pos h2];exact fault_state h ok n w h1' h2
 rw[if_neg h2]
 have h2':stB h.st=true:=by simpa using h2
 by_cases h3:h.N 0<272∨h.N 0%8≠0∨h.N 1%8≠0
 ·rw[if_pos h3];exact fault_size h ok n w h1' h2' h3
 rw[if_neg h3]
 by_cases h4:endB h=false∨n<endV h
 ·rw[if_pos h4];exact fault_range h ok n w h1' h2' h3 h4
 rw[if_neg h4]
 exact fault_table h ok n hn w h1' h2' h3 h4
end Gm
namespace Go1
open Bytes8 Blk8 Own8 OwnE Ga Gb Gi Gj Gk Gm
def magicB (l:List Int):Bool:=(strOfNums (l.take 8)).toList== [76,80,75,83,72,72,82,72]
def hcode (l:List Int)(n:Nat):Int:=if n<272 then 22 else if magicB l=false then 6 else fcode (hdOf l) n
def rhd (l:List Int)(n:Nat):HD:=if hcode l n=0 then hdOf l else hd0
abbrev HTold (h:HD)(c:Int)(w:World)(e:Ending)(w':World):Prop:=e= .returned (.tuple #[.agg (h.cells 21).toArray,.int .i64 c])∧Below w.heap.size w w'
theorem bytes_take {w:World}{A:Option Addr}{l:List Int}(hb:Bytes w A l)(k:Nat):Bytes w A (l.take k):=⟨hb.1.take k,fun i hi=>by
 have h1:i<k∧i<l.length:=by simp at hi;omega
 obtain⟨b,off,e,hlt,hcell⟩:=hb.2 i h1.2
 refine⟨b,off,e,hlt,?_⟩
 rw[hcell]
 simp[List.getD_eq_getElem?_getD,List.getElem?_take_of_lt h1.1]⟩
attribute [local irreducible] HD.cells wpList Code.wp
theorem read_magic (A:Option Addr)(l:List Int)(n c:Nat)(w:World)(hb:Bytes w A l)(hL:l.length=n)(h272:272≤n)(hc:n≤c)(hm:magicB l=false):
 Calls Tryz.prog 19 #[.slice A n c] w (HTold hd0 6 w):=by
 have d1: ¬(n:Int)<272:=by omega
 go_enter Tryz.func19,Tryz.ntmps19
 go_upto_region 1 with fail
 have b1:=yH ((Below.refl w.heap.size w).alloc (yR _) (.cells Tryz.zeroCells39 39))
 have Z1:=yH (heap_alloc_new w (.cells Tryz.zeroCells39 39))
 generalize w.alloc (.cells Tryz.zeroCells39 39)=w1 at*
 have h8:(l.take 8).length=8:=by simp;omega
 have hst:=(bytes_take (hb.below b1.out (yR _)) 8).string c 8 h8
 have hS:(!(strOfNums (l.take 8)).toList== [76,80,75,83,72,72,82,72])=true:=by unfold magicB at hm;rw[hm];rfl
 generalize strOfNums (l.take 8)=S at*
 have hcc:(8:Int)≤(c:Int):=by omega
 clear hb h8 hm
 go_wp2_with(first
  |((with_reducible apply at_slot 14);refine wpList_build_zero rfl 39 rfl _ zero_built ?_)
  |((with_reducible apply at_store (.tmp 2) (.tmp 14));refine wpList_store_row rfl 39 (.tmp 2) (.tmp 14) rfl w.heap.size (hd0.cells 21).toArray rfl rfl 39 Tryz.zeroCells39 Z1.out (cells_info _) zeros_size (HD.one _ 21) ?_))
 refine bodyPost_ret (v:= .tuple #[.agg (hd0.cells 21).toArray,.int .i64 6]) (by exact res_rowG Tryz.results19 _ _ w.heap.size 39 _ (0,0) _ _ rfl rfl (setRow_heap _ _ _ _ _ (0,0) Z1.out) Tryz.underlying39 rfl (cells_info _)) rfl ?_
 exact⟨rfl,below_setRow b1.out (yR _) _⟩
theorem read_taken (A:Option Addr)(l:List Int)(n c:Nat)(w:World)(hb:Bytes w A l)(hL:l.length=n)(h272:272≤n)(hn:n≤1000000)(hc:n≤c)(hm:magicB l=true)(cd:Int)(hcd:fcode (hdOf l) n=cd):
 Calls Tryz.prog 19 #[.slice A n c] w (HTold (if cd=0 then hdOf l else hd0) cd w):=by
 have d1: ¬(n:Int)<272:=by omega
 have HT:=yH fun(W:World) (hW:Bytes W A l)=>taken_any A l n c W hW hL h272 hn hc
 have HF:=yH fun(W:World)=>fault_any (hdOf l) (hdOf_ok hb.1 21) (n:Int) (by omega) W
 rw[hcd]at HF
 go_enter Tryz.func19,Tryz.ntmps19
 go_upto_region 1 with fail
 have b1:=yH ((Below.refl w.heap.size w).alloc (yR _) (.cells Tryz.zeroCells39 39))
 have Z1:=yH (heap_alloc_new w (.cells Tryz.zeroCells39 39))
 have S1:=yH (show(w.alloc (.cells Tryz.zeroCells39 39)).heap.size=w.heap.size+1 by simp)
 generalize w.alloc (.cells Tryz.zeroCells39 39)=w1 at*
 have h8:(l.take 8).length=8:=by simp;omega
 have HB1:=yH (hb.below b1.out (yR _))
 have hst:=(bytes_take HB1.out 8).string c 8 h8
 have hS:(!(strOfNums (l.take 8)).toList== [76,80,75,83,72,72,82,72])=false:=by unfold magicB at hm;rw[hm];rfl
 generalize strOfNums (l.take 8)=S at*
 have hcc:(8:Int)≤(c:Int):=by omega
 clear hb h8 hm hcd
 go_upto_region 6 with(first
  |(go_at_call 64;((with_reducible refine(HT.out _ HB1.out).mono ?_);rintro e w2 ⟨rfl,hb2⟩;have B2:=yH hb2;clear hb2))
  |((with_reducible apply at_store (.tmp 4) (.tmp 16));refine wpList_store_row rfl 39 (.tmp 4) (.tmp 16) rfl w2.heap.size ((hdOf l).cells 21).toArray rfl rfl 39 Tryz.zeroCells39 (heap_alloc_new w2 _) (cells_info _) zeros_size (HD.one _ 21) ?_))
 have R3:=yH (show Blk ((w2.alloc (.cells Tryz.zeroCells39 39)).setRow w2.heap.size ((hdOf l).cells 21).toArray) w2.heap.size ((hdOf l).cells 21) 39 from setRow_heap _ _ _ _ _ (0,0) (heap_alloc_new w2 _))
 have B3:=yH (show Below w1.heap.size w1 ((w2.alloc (.cells Tryz.zeroCells39 39)).setRow w2.heap.size ((hdOf l).cells 21).toArray)from below_setRow (B2.out.alloc B2.out.size _) B2.out.size _)
 generalize (w2.alloc (.cells Tryz.zeroCells39 39)).setRow w2.heap.size ((hdOf l).cells 21).toArray=w3 at*
 clear hst hS
 go_upto_region 7 with(first
  |((with_reducible apply at_slot 17);refine wpList_load_row rfl 39 (.tmp 4) rfl w2.heap.size rfl 39 ((hdOf l).cells 21).toArray (0,0) _ R3.out Tryz.underlying39 rfl (cells_info _) ?_)
  |(go_at_call 65;((with_reducible refine(HF.out _).mono ?_);rintro e w4 ⟨rfl,hb4⟩;have R4:=yH (R3.out.below hb4 R3.out.lt);have B4:=yH (B3.out.trans (hb4.mono B3.out.size));clear hb4)))
 have Z4:=yH ((B4.out.block w.heap.size (by rw[S1.out];exact Nat.lt_succ_self _)).trans Z1.out)
 have Bz:=yH (b1.out.trans (B4.out.mono (by rw[S1.out];exact Nat.le_succ _)))
 by_cases hz:cd=0
 ·rw[if_pos hz]
  subst hz
  go_wp2_with(first
   |((with_reducible apply at_slot 26);refine wpList_load_row rfl 39 (.tmp 4) rfl w2.heap.size rfl 39 ((hdOf l).cells 21).toArray (0,0) _ R4.out Tryz.underlying39 rfl (cells_info _) ?_)
   |((with_reducible apply at_store (.tmp 2) (.tmp 26));refine wpList_store_row rfl 39 (.tmp 2) (.tmp 26) rfl w.heap.size ((hdOf l).cells 21).toArray rfl rfl 39 Tryz.zeroCells39 Z4.out (cells_info _) zeros_size (HD.one _ 21) ?_))
  refine bodyPost_ret (v:= .tuple #[.agg ((hdOf l).cells 21).toArray,.int .i64 0]) (by exact res_rowG Tryz.results19 _ _ w.heap.size 39 _ (0,0) _ _ rfl rfl (setRow_heap _ _ _ _ _ (0,0) Z4.out) Tryz.underlying39 rfl (cells_info _)) rfl ?_
  exact⟨rfl,below_setRow Bz.out (yR _) _⟩
 ·rw[if_neg hz]
  have dz:(cd !=0)=true:=by simp[hz]
  go_wp2_with(first
   |((with_reducible apply at_slot 24);refine wpList_build_zero rfl 39 rfl _ zero_built ?_)
   |((with_reducible apply at_store (.tmp 2) (.tmp 24));refine wpList_store_row rfl 39 (.tmp 2) (.tmp 24) rfl w.heap.size (hd0.cells 21).toArray rfl rfl 39 Tryz.zeroCells39 Z4.out (cells_info _) zeros_size (HD.one _ 21) ?_))
  refine bodyPost_ret (v:= .tuple #[.agg (hd0.cells 21).toArray,.int .i64 cd]) (by exact res_rowG Tryz.results19 _ _ w.heap.size 39 _ (0,0) _ _ rfl rfl (setRow_heap _ _ _ _ _ (0,0) Z4.out) Tryz.underlying39 rfl (cells_info _)) rfl ?_
  exact⟨rfl,below_setRow Bz.out (yR _) _⟩
theorem hread_any (A:Option Addr)(l:List Int)(n c:Nat)(w:World)(hb:Bytes w A l)(hL:l.length=n)(hn:n≤1000000)(hc:n≤c):
 Calls Tryz.prog 19 #[.slice A n c] w (HTold (rhd l n) (hcode l n) w):=by
 unfold rhd
 by_cases h1:n<272
 ·rw[show hcode l n=22 from if_pos h1,if_neg (by decide)]
  exact read_short A n c w h1
 by_cases h2:magicB l=false
 ·rw[show hcode l n=6 by unfold hcode;rw[if_neg h1,if_pos h2],if_neg (by decide)]
  exact read_magic A l n c w hb hL (by omega) hc h2
 ·have h2':magicB l=true:=by simpa using h2
  exact read_taken A l n c w hb hL (by omega) hn hc h2' _ (by unfold hcode;rw[if_neg h1,if_neg h2])
end Go1
namespace Gp
open Bytes8 Blk8 Own8 OwnE Ob Ga Gb Gj
def id16 (l:List Int)(p:Nat):List Value:=(List.range 16).map fun i=> .int .u8 (l.getD (p+i) 0)
def id16k (l:List Int)(p k:Nat):List Value:=(List.range 16).map fun i=> .int .u8 (if i<k then l.getD (p+i) 0 else 0)
theorem id16k_len (l:List Int)(p k:Nat):(id16k l p k).length=16:=by simp[id16k]
theorem id16k_whole (l:List Int)(p:Nat):id16k l p 16=id16 l p:=by
 unfold id16k id16
 apply List.map_congr_left
 intro i hi
 rw[if_pos (List.mem_range.1 hi)]
theorem id16k_get (l:List Int)(p k i:Nat)(hi:i<16):(id16k l p k)[i]? =some (.int .u8 (if i<k then l.getD (p+i) 0 else 0)):=by simp[id16k,hi]
theorem id16k_set (l:List Int)(p k:Nat)(hk:k<16):(id16k l p k).set k (.int .u8 (l.getD (p+k) 0))=id16k l p (k+1):=by
 apply List.ext_getElem?
 intro i
 rw[List.getElem?_set]
 by_cases hi:i<16
 ·by_cases he:k=i
  ·subst he
   rw[if_pos rfl,if_pos (by rw[id16k_len];exact hk),id16k_get _ _ _ _ hi,if_pos (Nat.lt_succ_self _)]
  ·rw[if_neg he,id16k_get _ _ _ _ hi,id16k_get _ _ _ _ hi]
   by_cases h4:i<k
   ·rw[if_pos h4,if_pos (by omega)]
   ·rw[if_neg h4,if_neg (by omega)]
 ·rw[if_neg (by omega),List.getElem?_eq_none (by rw[id16k_len];omega),List.getElem?_eq_none (by rw[id16k_len];omega)]
theorem id16_one (l:List Int)(p:Nat):(id16 l p).toArray.all (·.oneCell')=true:=by
 rw[Array.all_eq_true_iff_forall_mem]
 intro x hx
 simp only[id16,List.mem_toArray,List.mem_map]at hx
 obtain⟨i,_,rfl⟩:=hx
 rfl
theorem id16_info (l:List Int)(p:Nat):(Tryz.prog.info? 37).map (·.size)=some (id16 l p).toArray.size:=by rw[idInfo];simp[id16]
theorem id16_idc (l:List Int)(k:Nat):id16 l (24+16*k)=idc (hdOf l) k:=by
 unfold id16 idc HD.id hdOf
 rw[List.map_map]
 apply List.map_congr_left
 intro i _
 simp[Nat.add_assoc]
abbrev z16:List Value:=[.int .u8 0,.int .u8 0,.int .u8 0,.int .u8 0,.int .u8 0,.int .u8 0,.int .u8 0,.int .u8 0,.int .u8 0,.int .u8 0,.int .u8 0,.int .u8 0,.int .u8 0,.int .u8 0,.int .u8 0,.int .u8 0]
attribute [local irreducible] wpList Code.wp
theorem rid_any (A:Option Addr)(l:List Int)(n c p:Nat)(w:World)(hb:Bytes w A l)(hL:l.length=n)(hn:n≤1000000)(hp:p+16≤n):
 Calls Tryz.prog 213 #[.slice A n c,.int .i64 (p:Int)] w fun e w'=>e= .returned (.agg (id16 l p).toArray)∧Below w.heap.size w w':=by
 obtain⟨bb,off,rfl,hblt,hcell⟩:=hb.spot (by omega)
 have HB:=yH hcell
 clear hcell hb
 have R0:=yH (show Blk ((w.alloc (.cells z16.toArray 37)).alloc (.cells z16.toArray 37)) w.heap.size z16 37 from(Blk.new w z16 _).alloc _)
 have Q0:=yH (show Blk ((w.alloc (.cells z16.toArray 37)).alloc (.cells z16.toArray 37)) (w.heap.size+1) (id16k l p 0) 37 from Blk.new_at _ _ _ _ (by simp))
 have b0:=yH (((Below.refl w.heap.size w).alloc (yR _) (.cells z16.toArray 37)).alloc (by simp) (.cells z16.toArray 37))
 have S0:=yH (show((w.alloc (.cells z16.toArray 37)).alloc (.cells z16.toArray 37)).heap.size=w.heap.size+2 by simp)
 go_enter Tryz.func213,Tryz.ntmps213
 go_upto_region 2 with fail
 generalize (w.alloc (.cells z16.toArray 37)).alloc (.cells z16.toArray 37)=w0 at*
 go_wp2_with fail
 go_loopw [6] (fun i wr=> ∃k:Nat,k≤16∧i= .int .i64 (k:Int)∧Hid (Blk wr (w.heap.size+1) (id16k l p k) 37)∧Hid (Below (w.heap.size+1) w0 wr)) (fun i _=>16-(intOf i).toNat)
 case atStart=>exact⟨0,Nat.zero_le _,rfl,Q0,yH (Below.refl _ _)⟩
 case round=>
  obtain⟨k,hk,rfl,hR,hB⟩:=hrel
  by_cases hlt:k<16
  ·have hst:=yH (id16k_set l p k hlt)
   have hce:wr.cell? ⟨bb,off+(p+k),none⟩=some (.int .u8 (l.getD (p+k) 0)):=((hB.out.cell (p:=⟨bb,off+(p+k),none⟩) (Nat.lt_succ_of_lt hblt)).trans (b0.out.cell (p:=⟨bb,off+(p+k),none⟩) hblt)).trans (HB.out (p+k) (by omega))
   have ck:=hR.out.cell (id16k_get l p k k hlt)
   have fk:=hR.out.frozen k
   have hpk:(p:Int)+(k:Int)<(n:Int):=by omega
   have hpk0:(0:Int)≤(p:Int)+(k:Int):=by omega
   generalize l.getD (p+k) 0=x at*
   go_wp2_with fail
   go_roundw
   case rel=>exact⟨k+1,by omega,by go_num,yH (by rw[←hst.out];exact hR.out.set_ k _),yH (hB.out.setCell (yR _) _)⟩
   case measure=>simp[intOf];omega
  ·obtain rfl:k=16:=by omega
   have Rz:=yH (show Blk wr (w.heap.size+1) (id16 l p) 37 by rw[←id16k_whole];exact hR.out)
   have Z:=yH ((hB.out.block w.heap.size (Nat.lt_succ_self _)).trans R0.out)
   have Bz:=yH (b0.out.trans (hB.out.mono (Nat.le_succ _)))
   clear hR hB
   go_wp2_with(first
    |((with_reducible apply at_slot 19);refine wpList_load_row rfl 37 (.tmp 5) rfl (w.heap.size+1) rfl 37 (id16 l p).toArray (0,0) _ Rz.out Tryz.underlying37 rfl (id16_info l p) ?_)
    |((with_reducible apply at_store (.tmp 4) (.tmp 19));refine wpList_store_row rfl 37 (.tmp 4) (.tmp 19) rfl w.heap.size (id16 l p).toArray rfl rfl 37 _ Z.out (id16_info l p) (by simp[id16]) (id16_one l p) ?_)
    |fail)
   refine bodyPost_ret (v:= .agg (id16 l p).toArray) (by exact results_cell_row Tryz.results213 _ _ w.heap.size 37 _ (0,0) _ rfl (setRow_heap _ w.heap.size _ _ _ (0,0) Z.out) Tryz.underlying37 rfl (id16_info l p)) rfl ?_
   exact⟨rfl,below_setRow Bz.out (yR _) _⟩
theorem cells_set (h k:HD)(m p:Nat)(v:Value)(hp:p<70+m)(h1:k.at_ m p=v)(h2: ∀i,i<70+m→i≠p→k.at_ m i=h.at_ m i):(h.cells m).set p v=k.cells m:=by
 apply List.ext_getElem?
 intro i
 rw[List.getElem?_set]
 by_cases hi:i<70+m
 ·by_cases he:p=i
  ·subst he
   rw[if_pos rfl,if_pos (by rw[HD.len];exact hp),HD.get _ m _ hi,h1]
  ·rw[if_neg he,HD.get _ m i hi,HD.get _ m i hi,h2 i hi (fun e=>he e.symm)]
 ·rw[if_neg (by omega),List.getElem?_eq_none (by rw[HD.len];omega),List.getElem?_eq_none (by rw[HD.len];omega)]
theorem set_cp (h:HD)(m p:Nat)(v:Int)(hp:p=0):(h.cells m).set p (.int .u32 v)=({h with cp:=v}:HD).cells m:=by
 subst hp
 refine cells_set _ _ m _ _ (by omega) ?_ (fun i hi hne=>?_)
 ·unfold HD.at_
  rfl
 ·unfold HD.at_
  repeat' split
  all_goals first|rfl|(exfalso;omega)
theorem set_ic (h:HD)(m p:Nat)(v:Int)(hp:p=1):(h.cells m).set p (.int .u32 v)=({h with ic:=v}:HD).cells m:=by
 subst hp
 refine cells_set _ _ m _ _ (by omega) ?_ (fun i hi hne=>?_)
 ·unfold HD.at_
  rfl
 ·unfold HD.at_
  repeat' split
  all_goals first|rfl|(exfalso;omega)
theorem set_ta (h:HD)(m p:Nat)(v:Int)(hp:p=67+m):(h.cells m).set p (.int .u32 v)=({h with ta:=v}:HD).cells m:=by
 subst hp
 refine cells_set _ _ m _ _ (by omega) ?_ (fun i hi hne=>?_)
 ·unfold HD.at_
  rw[if_neg (by omega),if_neg (by omega),if_neg (by omega),if_pos rfl]
 ·unfold HD.at_
  repeat' split
  all_goals first|rfl|(exfalso;omega)
theorem set_ti (h:HD)(m p:Nat)(v:Int)(hp:p=68+m):(h.cells m).set p (.int .u32 v)=({h with ti:=v}:HD).cells m:=by
 subst hp
 refine cells_set _ _ m _ _ (by omega) ?_ (fun i hi hne=>?_)
 ·unfold HD.at_
  rw[if_neg (by omega),if_neg (by omega),if_neg (by omega),if_neg (by omega),if_pos rfl]
 ·unfold HD.at_
  repeat' split
  all_goals first|rfl|(exfalso;omega)
theorem set_te (h:HD)(m p:Nat)(v:Int)(hp:p=69+m):(h.cells m).set p (.int .u64 v)=({h with te:=v}:HD).cells m:=by
 subst hp
 refine cells_set _ _ m _ _ (by omega) ?_ (fun i hi hne=>?_)
 ·unfold HD.at_
  rw[if_neg (by omega),if_neg (by omega),if_neg (by omega),if_neg (by omega),if_neg (by omega)]
 ·unfold HD.at_
  repeat' split
  all_goals first|rfl|(exfalso;omega)
end Gp
end Go.Proofs.YtiddkgcafpaekaaGreat
