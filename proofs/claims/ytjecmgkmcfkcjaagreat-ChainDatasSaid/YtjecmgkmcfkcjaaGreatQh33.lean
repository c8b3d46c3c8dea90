/-
  Texts beneath the proof.
-/
import Derived.Test.YtjecmgkmcfkcjaaGreatQh32
set_option linter.unusedVariables false
set_option linter.unusedSimpArgs false
set_option maxRecDepth 100000
open Go.ChangeShapes Go.WideShapes Go.ChangeAt Go.RowKit
namespace Go.Proofs.YtjecmgkmcfkcjaaGreat
namespace Rl
open Bytes8 Blk8 OwnE Rc
open Rd (dz)
open Re (bytes_code load_code ReadD)
attribute [local irreducible] wpList Code.wp
theorem res_slot_cell {P:Program}{fn:Func}{p q:Tmp}{ty2:TypeId}(h:fn.results= #[.tmp p,.cell q ty2])(tmps:Array Value)(w:World)(gq:Nat)(v c:Value)
 (hp:tmps.getD p undef=v)(hq:tmps.getD q undef= .pointer (some ⟨gq,0,none⟩))(hl:(loadVar ty2 ⟨gq,0,none⟩).run P w= .ok c w):(results fn tmps).run P w= .ok (.tuple #[v,c]) w:=by
 have hp':tmps[p]?.getD undef=v:=by simpa using hp
 have hq':tmps[q]?.getD undef= .pointer (some ⟨gq,0,none⟩):=by simpa using hq
 simp[results,h,hp',hq',asAddr,hl]
end Rl
namespace Rm
open Rd (dcode dz)
structure Row4 where
 b:Nat
 off:Nat
 m:Nat
 c:Nat
section
variable {w4 wr : World} {s6 : Nat} {s r m : Int} {K : Nat → Int} {P : Nat → List Int} {F : Option Addr} {cF : Nat} {PA : Option Addr} {cP : Nat} {rows : List Row4} {kf kp : Nat}
end
attribute [local irreducible] wpList Code.wp
end Rm
end Go.Proofs.YtjecmgkmcfkcjaaGreat
