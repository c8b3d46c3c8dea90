/-
  No cell of these rows narrows 'for every input' (looked for: loops, veiled, ifaces, maps, wideKeys, modest, calm, conditions, laid).
  DERIVED. THE GIVEN ROWS OF THIS SEAT. 3 by the template 'for every input the law returns true; each argument reads behind the call as it read before'; 0 by the template 'total and deterministic' (their statements: YtecoenaojofgbaaTotals.lean).
  GIVEN WITH THE SEED: the statements are not yours to turn. If you find one false, say at which input.
  Laid BY PROGRAM, IN A SANDBOX (cutbox-rows.mjs): the forced cells as the released guide's own fill.sh prints them over the translation bc2893f4befee065… (all of the seat's roots in one cut). By AI agents, Wed Nov 11 2026. No macro, syntax, notation, axiom, sorry.
-/
import Derived.Test.YtecoenaojofgbaaChecked
import GoSem.Claim
import GoSem.ClaimJoined
import GoSem.ClaimMapViews
import Derived.JoinedTies
import Derived.KernelRfl
namespace Go.Proofs.Ytecoenaojofgbaa
/- THE CELL 'sum', in the pinned program and in every row, IS THE sha256 OF THE DUMP (.gsa) THAT YtecoenaojofgbaaProg.lean LOADS. Nothing in Lean hashes anything: it is a label: what it is worth is what the hold of that sum in a sandbox is worth. -/
noncomputable def Try.pinned : Pinned := { name := "ytecoenaojofgbaa", sum := "bc2893f4befee0651b91731ee520d02f1e54d94bd6996f03b05dfdd90716b9b9", checked := Try.checked }
namespace Rows
def none {H : Type} : Left H := { results := [], args := [] }

/-- 'diurnallaw9.HeadJournals': WHATEVER THE INPUT: true; the input reads as it did. -/
def headJournalsSpec : ChangeSpec := { name := "headJournals", fn := fun _ => fun
  | [d1, d2, d3] => { results := [.lit (.bool true)], args := [d1, d2, d3] }
  | _ => none }
def headJournalsRow : OpenClaim := { program := "ytecoenaojofgbaa", sum := "bc2893f4befee0651b91731ee520d02f1e54d94bd6996f03b05dfdd90716b9b9", func := "diurnal/diurnallaw9.HeadJournals", spec := "headJournals", inPlace := ["math/bits.Add64"], apart := false }
def HeadJournalsSaid : Prop := headJournalsRow.holds Try.pinned (OpenSpec.ofChange headJournalsSpec)

/-- ITS FALSE NEIGHBOUR: 'it returns false'. Refute it at one input. -/
def headJournalsWrong : ChangeSpec := { name := "headJournals", fn := fun _ => fun
  | [d1, d2, d3] => { results := [.lit (.bool false)], args := [d1, d2, d3] }
  | _ => none }
def HeadJournalsWrongFalsely : Prop := headJournalsRow.holds Try.pinned (OpenSpec.ofChange headJournalsWrong)

/-- 'diurnallaw9.HeadWrong': WHATEVER THE INPUT: true; the input reads as it did. -/
def headWrongSpec : ChangeSpec := { name := "headWrong", fn := fun _ => fun
  | [d1, d2, d3] => { results := [.lit (.bool true)], args := [d1, d2, d3] }
  | _ => none }
def headWrongRow : OpenClaim := { program := "ytecoenaojofgbaa", sum := "bc2893f4befee0651b91731ee520d02f1e54d94bd6996f03b05dfdd90716b9b9", func := "diurnal/diurnallaw9.HeadWrong", spec := "headWrong", inPlace := ["math/bits.Add64"], apart := false }
def HeadWrongSaid : Prop := headWrongRow.holds Try.pinned (OpenSpec.ofChange headWrongSpec)

/-- ITS FALSE NEIGHBOUR: 'it returns false'. Refute it at one input. -/
def headWrongWrong : ChangeSpec := { name := "headWrong", fn := fun _ => fun
  | [d1, d2, d3] => { results := [.lit (.bool false)], args := [d1, d2, d3] }
  | _ => none }
def HeadWrongWrongFalsely : Prop := headWrongRow.holds Try.pinned (OpenSpec.ofChange headWrongWrong)

/-- 'diurnallaw10.ArenaGuards': WHATEVER THE INPUT: true; the input reads as it did. -/
def arenaGuardsSpec : ChangeSpec := { name := "arenaGuards", fn := fun _ => fun
  | [d1, d2] => { results := [.lit (.bool true)], args := [d1, d2] }
  | _ => none }
def arenaGuardsRow : OpenClaim := { program := "ytecoenaojofgbaa", sum := "bc2893f4befee0651b91731ee520d02f1e54d94bd6996f03b05dfdd90716b9b9", func := "diurnal/diurnallaw10.ArenaGuards", spec := "arenaGuards", inPlace := ["math/bits.Add64"], unfollowed := true, recurses := true, apart := false }
def ArenaGuardsSaid : Prop := arenaGuardsRow.holds Try.pinned (OpenSpec.ofChange arenaGuardsSpec)

/-- ITS FALSE NEIGHBOUR: 'it returns false'. Refute it at one input. -/
def arenaGuardsWrong : ChangeSpec := { name := "arenaGuards", fn := fun _ => fun
  | [d1, d2] => { results := [.lit (.bool false)], args := [d1, d2] }
  | _ => none }
def ArenaGuardsWrongFalsely : Prop := arenaGuardsRow.holds Try.pinned (OpenSpec.ofChange arenaGuardsWrong)

/- THE SECOND FORM. 'bulk': how many values and letters a reading holds, each counted each time it is reached (what is shared counts as often as it is met; a slice's spare places count too). A statement '..UptoSaid' is the law's where the arguments, and the package variables that the reading takes, are together of bulk at most 1048576: NARROWER than '..Said'. Prove '..Said' where nothing that the law and all that it calls make is longer than what came in: it says more and counts as full. Else prove '..UptoSaid'. A law counts once. -/
mutual
def uptoBulk {H : Type} : DataW H → Nat
  | .lit (.string bytes) => bytes.length + 1
  | .lit _ => 1
  | .nil => 1
  | .ptr d => uptoBulk d + 1
  | .slice elems spare => uptoBulkAll elems + uptoBulkAll spare + 1
  | .agg parts => uptoBulkAll parts + 1
  | .iface _ d => uptoBulk d + 1
  | .map entries => uptoBulkEntries entries + 1
  | .held _ => 1
def uptoBulkAll {H : Type} : List (DataW H) → Nat
  | [] => 0
  | d :: r => uptoBulk d + uptoBulkAll r
def uptoBulkEntries {H : Type} : List (Lit × DataW H) → Nat
  | [] => 0
  | x :: r => uptoBulkEntry x + uptoBulkEntries r
def uptoBulkEntry {H : Type} : Lit × DataW H → Nat
  | (.string bytes, d) => bytes.length + uptoBulk d + 1
  | (_, d) => uptoBulk d + 1
 end
def uptoSmall : (H : Type) → List (DataW H) → Bool := fun _ ds => decide (uptoBulkAll ds ≤ 1048576)
def OpenSpec.upto (s : _root_.Go.ChangeSpec) : _root_.Go.OpenSpec := { _root_.Go.OpenSpec.ofChange s with cond := some uptoSmall }

/-- 'diurnallaw9.HeadJournals', WHERE WHAT IT READS IS OF BULK AT MOST 1048576: true; the input reads as it did. -/
def headJournalsUptoRow : OpenClaim := { program := "ytecoenaojofgbaa", sum := "bc2893f4befee0651b91731ee520d02f1e54d94bd6996f03b05dfdd90716b9b9", func := "diurnal/diurnallaw9.HeadJournals", spec := "headJournals", inPlace := ["math/bits.Add64"], apart := false, narrowed := true }
def HeadJournalsUptoSaid : Prop := headJournalsUptoRow.holds Try.pinned (OpenSpec.upto headJournalsSpec)

/-- 'diurnallaw9.HeadWrong', WHERE WHAT IT READS IS OF BULK AT MOST 1048576: true; the input reads as it did. -/
def headWrongUptoRow : OpenClaim := { program := "ytecoenaojofgbaa", sum := "bc2893f4befee0651b91731ee520d02f1e54d94bd6996f03b05dfdd90716b9b9", func := "diurnal/diurnallaw9.HeadWrong", spec := "headWrong", inPlace := ["math/bits.Add64"], apart := false, narrowed := true }
def HeadWrongUptoSaid : Prop := headWrongUptoRow.holds Try.pinned (OpenSpec.upto headWrongSpec)

/-- 'diurnallaw10.ArenaGuards', WHERE WHAT IT READS IS OF BULK AT MOST 1048576: true; the input reads as it did. -/
def arenaGuardsUptoRow : OpenClaim := { program := "ytecoenaojofgbaa", sum := "bc2893f4befee0651b91731ee520d02f1e54d94bd6996f03b05dfdd90716b9b9", func := "diurnal/diurnallaw10.ArenaGuards", spec := "arenaGuards", inPlace := ["math/bits.Add64"], unfollowed := true, recurses := true, apart := false, narrowed := true }
def ArenaGuardsUptoSaid : Prop := arenaGuardsUptoRow.holds Try.pinned (OpenSpec.upto arenaGuardsSpec)

end Rows
end Go.Proofs.Ytecoenaojofgbaa
