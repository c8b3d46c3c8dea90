/-
  Texts beneath the proof.
-/
import Derived.Test.YtjecmgkmcfkcjaaGreatQh9
set_option linter.unusedVariables false
set_option linter.unusedSimpArgs false
set_option maxRecDepth 100000
open Go.ChangeShapes Go.WideShapes Go.ChangeAt Go.RowKit
namespace Go.Proofs.YtjecmgkmcfkcjaaGreat
namespace Gp
open Bytes8 OwnE Ob Ga Gb
abbrev z16:List Value:=[.int .u8 0,.int .u8 0,.int .u8 0,.int .u8 0,.int .u8 0,.int .u8 0,.int .u8 0,.int .u8 0,.int .u8 0,.int .u8 0,.int .u8 0,.int .u8 0,.int .u8 0,.int .u8 0,.int .u8 0,.int .u8 0]
attribute [local irreducible] wpList Code.wp
theorem cells_set (h k:HD)(m p:Nat)(v:Value)(hp:p<70+m)(h1:k.at_ m p=v)(h2: ∀i,i<70+m→i≠p→k.at_ m i=h.at_ m i):(h.cells m).set p v=k.cells m:=by
 apply List.ext_getElem?
 intro i
 rw[List.getElem?_set]
 by_cases hi:i<70+m
 ·by_cases he:p=i
  ·subst he
   rw[if_pos rfl,if_pos (by rw[HD.len];exact hp),HD.get _ m _ hi,h1]
  ·rw[if_neg he,HD.get _ m i hi,HD.get _ m i hi,h2 i hi (fun e=>he e.symm)]
 ·rw[if_neg (by omega),List.getElem?_eq_none (by rw[HD.len];omega),List.getElem?_eq_none (by rw[HD.len];omega)]
end Gp
namespace Gq
open OwnE Ga Gb
def stR (p v:Value):Sem Unit:=Instr.storeAt 126 p v
theorem st_fold (p v:Value):Instr.storeAt 126 p v=stR p v:=rfl
def bldR (parts:Array (Nat×Value)):Sem Value:=Instr.build 126 parts
theorem bld_fold (parts:Array (Nat×Value)):Instr.build 126 parts=bldR parts:=rfl
theorem rcells_info (h:HD):(Tryz.prog.info? 126).map (·.size)=some (h.cells 20).toArray.size:=by rw[rheadInfo];simp[HD.len]
theorem rcells_len (h:HD):(Tryz.prog.info? 126).map (·.size)=some (h.cells 20).length:=by rw[rheadInfo];simp[HD.len]
theorem rzeros_size {h:HD}:Tryz.zeroCells126.size=(h.cells 20).toArray.size:=by rw[show Tryz.zeroCells126.size=90 by kernel_rfl];simp[HD.len]
attribute [local irreducible] HD.cells wpList Code.wp
attribute [local go_sem ↓] st_fold bld_fold
end Gq
end Go.Proofs.YtjecmgkmcfkcjaaGreat
