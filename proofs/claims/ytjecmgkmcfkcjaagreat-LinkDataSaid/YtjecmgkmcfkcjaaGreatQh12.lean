/-
  Texts beneath the proof.
-/
import Derived.Test.YtjecmgkmcfkcjaaGreatQh11
set_option linter.unusedVariables false
set_option linter.unusedSimpArgs false
set_option maxRecDepth 100000
open Go.ChangeShapes Go.WideShapes Go.ChangeAt Go.RowKit
namespace Go.Proofs.YtjecmgkmcfkcjaaGreat
namespace Yf
end Yf
namespace Yg
open Bytes8 Blk8 OwnE Kf Ye
theorem res_row {P:Program}{fn:Func}{p u:Tmp}{ty:TypeId}(h:fn.results= #[.cell p ty,.tmp u])(tmps:Array Value)(w:World)(g:Nat)(t:TypeId)(cs:Array Value)(fr:Nat×Nat)(d:TypeDesc)(c:Value)
 (hp:tmps.getD p undef= .pointer (some ⟨g,0,none⟩))(hc:tmps.getD u undef=c)(hg:w.heap[g]? =some (.cells cs t fr))(hu:P.underlying ty=some d)(hd:(match d with| .struct _| .array _ _=>true|_=>false)=true)(hi:(P.info? ty).map (·.size)=some cs.size):
 (results fn tmps).run P w= .ok (.tuple #[.agg cs,c]) w:=by
 rw[results_cell_tmp h,hp,hc]
 simp[asAddr,run_loadVar_row w g t ty cs fr d hg hu hd hi,Result.andThen]
def stE (p v:Value):Sem Unit:=Instr.storeAt 285 p v
theorem st_fold (p v:Value):Instr.storeAt 285 p v=stE p v:=rfl
attribute [local go_sem ↓] st_fold
end Yg
namespace Yh
end Yh
namespace Yq
end Yq
end Go.Proofs.YtjecmgkmcfkcjaaGreat
