/-
  No cell of these rows narrows 'for every input' (looked for: loops, veiled, ifaces, maps, wideKeys, modest, calm, conditions, laid).
  DERIVED. THE GIVEN ROWS OF THIS SEAT. 5 by the template 'for every input the law returns true; each argument reads behind the call as it read before'; 0 by the template 'total and deterministic' (their statements: YtldkmobncmfodaaGreatTotals.lean).
  GIVEN WITH THE SEED: the statements are not yours to turn. If you find one false, say at which input.
  Laid BY PROGRAM, IN A SANDBOX (cutbox-rows.mjs): the forced cells as the released guide's own fill.sh prints them over the translation 5fe2e39880a01d30… (all of the seat's roots in one cut). By AI agents, Wed Nov 11 2026. No macro, syntax, notation, axiom, sorry.
-/
import Derived.Test.YtldkmobncmfodaaGreatChecked
import GoSem.Claim
import GoSem.ClaimJoined
import GoSem.ClaimMapViews
import Derived.JoinedTies
import Derived.KernelRfl
namespace Go.Proofs.YtldkmobncmfodaaGreat
/- THE CELL 'sum', in the pinned program and in every row, IS THE sha256 OF THE DUMP (.gsa) THAT YtldkmobncmfodaaGreatProg.lean LOADS. Nothing in Lean hashes anything: it is a label: what it is worth is what the hold of that sum in a sandbox is worth. -/
noncomputable def Tryz.pinned : Pinned := { name := "ytldkmobncmfodaagreat", sum := "5fe2e39880a01d307236eef00a00c24e29f5423503336fc7c3fa0281b6948e18", checked := Tryz.checked }
namespace Rows
def none {H : Type} : Left H := { results := [], args := [] }

/-- 'diurnallaw10.ArenaSays': WHATEVER THE INPUT: true; the input reads as it did. -/
def arenaSaysSpec : ChangeSpec := { name := "arenaSays", fn := fun _ => fun
  | [d1, d2, d3, d4, d5] => { results := [.lit (.bool true)], args := [d1, d2, d3, d4, d5] }
  | _ => none }
def arenaSaysRow : OpenClaim := { program := "ytldkmobncmfodaagreat", sum := "5fe2e39880a01d307236eef00a00c24e29f5423503336fc7c3fa0281b6948e18", func := "diurnal/diurnallaw10.ArenaSays", spec := "arenaSays", inPlace := ["math/bits.Add64", "internal/bytealg.IndexByteString", "internal/bytealg.IndexString"], unfollowed := true, recurses := true, named := ["internal/bytealg.MaxLen"], apart := false }
def ArenaSaysSaid : Prop := arenaSaysRow.holds Tryz.pinned (OpenSpec.ofChange arenaSaysSpec)

/-- ITS FALSE NEIGHBOUR: 'it returns false'. Refute it at one input. -/
def arenaSaysWrong : ChangeSpec := { name := "arenaSays", fn := fun _ => fun
  | [d1, d2, d3, d4, d5] => { results := [.lit (.bool false)], args := [d1, d2, d3, d4, d5] }
  | _ => none }
def ArenaSaysWrongFalsely : Prop := arenaSaysRow.holds Tryz.pinned (OpenSpec.ofChange arenaSaysWrong)

/-- 'diurnallaw10.ArenaRaw': WHATEVER THE INPUT: true; the input reads as it did. -/
def arenaRawSpec : ChangeSpec := { name := "arenaRaw", fn := fun _ => fun
  | [d1, d2] => { results := [.lit (.bool true)], args := [d1, d2] }
  | _ => none }
def arenaRawRow : OpenClaim := { program := "ytldkmobncmfodaagreat", sum := "5fe2e39880a01d307236eef00a00c24e29f5423503336fc7c3fa0281b6948e18", func := "diurnal/diurnallaw10.ArenaRaw", spec := "arenaRaw", inPlace := ["math/bits.Add64", "internal/bytealg.IndexByteString", "internal/bytealg.IndexString"], unfollowed := true, recurses := true, named := ["internal/bytealg.MaxLen"], apart := false }
def ArenaRawSaid : Prop := arenaRawRow.holds Tryz.pinned (OpenSpec.ofChange arenaRawSpec)

/-- ITS FALSE NEIGHBOUR: 'it returns false'. Refute it at one input. -/
def arenaRawWrong : ChangeSpec := { name := "arenaRaw", fn := fun _ => fun
  | [d1, d2] => { results := [.lit (.bool false)], args := [d1, d2] }
  | _ => none }
def ArenaRawWrongFalsely : Prop := arenaRawRow.holds Tryz.pinned (OpenSpec.ofChange arenaRawWrong)

/-- 'diurnallaw10.ArenaBehind': WHATEVER THE INPUT: true; the input reads as it did. -/
def arenaBehindSpec : ChangeSpec := { name := "arenaBehind", fn := fun _ => fun
  | [d1, d2] => { results := [.lit (.bool true)], args := [d1, d2] }
  | _ => none }
def arenaBehindRow : OpenClaim := { program := "ytldkmobncmfodaagreat", sum := "5fe2e39880a01d307236eef00a00c24e29f5423503336fc7c3fa0281b6948e18", func := "diurnal/diurnallaw10.ArenaBehind", spec := "arenaBehind", inPlace := ["math/bits.Add64", "internal/bytealg.IndexByteString", "internal/bytealg.IndexString"], unfollowed := true, recurses := true, named := ["internal/bytealg.MaxLen"], apart := false }
def ArenaBehindSaid : Prop := arenaBehindRow.holds Tryz.pinned (OpenSpec.ofChange arenaBehindSpec)

/-- ITS FALSE NEIGHBOUR: 'it returns false'. Refute it at one input. -/
def arenaBehindWrong : ChangeSpec := { name := "arenaBehind", fn := fun _ => fun
  | [d1, d2] => { results := [.lit (.bool false)], args := [d1, d2] }
  | _ => none }
def ArenaBehindWrongFalsely : Prop := arenaBehindRow.holds Tryz.pinned (OpenSpec.ofChange arenaBehindWrong)

/-- 'diurnallaw11.ChainSays': WHATEVER THE INPUT: true; the input reads as it did. -/
def chainSaysSpec : ChangeSpec := { name := "chainSays", fn := fun _ => fun
  | [d1, d2, d3, d4, d5, d6] => { results := [.lit (.bool true)], args := [d1, d2, d3, d4, d5, d6] }
  | _ => none }
def chainSaysRow : OpenClaim := { program := "ytldkmobncmfodaagreat", sum := "5fe2e39880a01d307236eef00a00c24e29f5423503336fc7c3fa0281b6948e18", func := "diurnal/diurnallaw11.ChainSays", spec := "chainSays", inPlace := ["math/bits.Add64"], unfollowed := true, recurses := true, apart := false }
def ChainSaysSaid : Prop := chainSaysRow.holds Tryz.pinned (OpenSpec.ofChange chainSaysSpec)

/-- ITS FALSE NEIGHBOUR: 'it returns false'. Refute it at one input. -/
def chainSaysWrong : ChangeSpec := { name := "chainSays", fn := fun _ => fun
  | [d1, d2, d3, d4, d5, d6] => { results := [.lit (.bool false)], args := [d1, d2, d3, d4, d5, d6] }
  | _ => none }
def ChainSaysWrongFalsely : Prop := chainSaysRow.holds Tryz.pinned (OpenSpec.ofChange chainSaysWrong)

/-- 'diurnallaw12.LinkSays': WHATEVER THE INPUT: true; the input reads as it did. -/
def linkSaysSpec : ChangeSpec := { name := "linkSays", fn := fun _ => fun
  | [d1, d2, d3, d4, d5] => { results := [.lit (.bool true)], args := [d1, d2, d3, d4, d5] }
  | _ => none }
def linkSaysRow : OpenClaim := { program := "ytldkmobncmfodaagreat", sum := "5fe2e39880a01d307236eef00a00c24e29f5423503336fc7c3fa0281b6948e18", func := "diurnal/diurnallaw12.LinkSays", spec := "linkSays", inPlace := ["math/bits.Add64"], unfollowed := true, recurses := true, apart := false }
def LinkSaysSaid : Prop := linkSaysRow.holds Tryz.pinned (OpenSpec.ofChange linkSaysSpec)

/-- ITS FALSE NEIGHBOUR: 'it returns false'. Refute it at one input. -/
def linkSaysWrong : ChangeSpec := { name := "linkSays", fn := fun _ => fun
  | [d1, d2, d3, d4, d5] => { results := [.lit (.bool false)], args := [d1, d2, d3, d4, d5] }
  | _ => none }
def LinkSaysWrongFalsely : Prop := linkSaysRow.holds Tryz.pinned (OpenSpec.ofChange linkSaysWrong)

/- THE SECOND FORM. 'bulk': how many values and letters a reading holds, each counted each time it is reached (what is shared counts as often as it is met; a slice's spare places count too). A statement '..UptoSaid' is the law's where the arguments, and the package variables that the reading takes, are together of bulk at most 1048576: NARROWER than '..Said'. Prove '..Said' where nothing that the law and all that it calls make is longer than what came in: it says more and counts as full. Else prove '..UptoSaid'. A law counts once. -/
mutual
def uptoBulk {H : Type} : DataW H → Nat
  | .lit (.string bytes) => bytes.length + 1
  | .lit _ => 1
  | .nil => 1
  | .ptr d => uptoBulk d + 1
  | .slice elems spare => uptoBulkAll elems + uptoBulkAll spare + 1
  | .agg parts => uptoBulkAll parts + 1
  | .iface _ d => uptoBulk d + 1
  | .map entries => uptoBulkEntries entries + 1
  | .held _ => 1
def uptoBulkAll {H : Type} : List (DataW H) → Nat
  | [] => 0
  | d :: r => uptoBulk d + uptoBulkAll r
def uptoBulkEntries {H : Type} : List (Lit × DataW H) → Nat
  | [] => 0
  | x :: r => uptoBulkEntry x + uptoBulkEntries r
def uptoBulkEntry {H : Type} : Lit × DataW H → Nat
  | (.string bytes, d) => bytes.length + uptoBulk d + 1
  | (_, d) => uptoBulk d + 1
 end
def uptoSmall : (H : Type) → List (DataW H) → Bool := fun _ ds => decide (uptoBulkAll ds ≤ 1048576)
def OpenSpec.upto (s : _root_.Go.ChangeSpec) : _root_.Go.OpenSpec := { _root_.Go.OpenSpec.ofChange s with cond := some uptoSmall }

/-- 'diurnallaw10.ArenaSays', WHERE WHAT IT READS IS OF BULK AT MOST 1048576: true; the input reads as it did. -/
def arenaSaysUptoRow : OpenClaim := { program := "ytldkmobncmfodaagreat", sum := "5fe2e39880a01d307236eef00a00c24e29f5423503336fc7c3fa0281b6948e18", func := "diurnal/diurnallaw10.ArenaSays", spec := "arenaSays", inPlace := ["math/bits.Add64", "internal/bytealg.IndexByteString", "internal/bytealg.IndexString"], unfollowed := true, recurses := true, named := ["internal/bytealg.MaxLen"], apart := false, narrowed := true }
def ArenaSaysUptoSaid : Prop := arenaSaysUptoRow.holds Tryz.pinned (OpenSpec.upto arenaSaysSpec)

/-- 'diurnallaw10.ArenaRaw', WHERE WHAT IT READS IS OF BULK AT MOST 1048576: true; the input reads as it did. -/
def arenaRawUptoRow : OpenClaim := { program := "ytldkmobncmfodaagreat", sum := "5fe2e39880a01d307236eef00a00c24e29f5423503336fc7c3fa0281b6948e18", func := "diurnal/diurnallaw10.ArenaRaw", spec := "arenaRaw", inPlace := ["math/bits.Add64", "internal/bytealg.IndexByteString", "internal/bytealg.IndexString"], unfollowed := true, recurses := true, named := ["internal/bytealg.MaxLen"], apart := false, narrowed := true }
def ArenaRawUptoSaid : Prop := arenaRawUptoRow.holds Tryz.pinned (OpenSpec.upto arenaRawSpec)

/-- 'diurnallaw10.ArenaBehind', WHERE WHAT IT READS IS OF BULK AT MOST 1048576: true; the input reads as it did. -/
def arenaBehindUptoRow : OpenClaim := { program := "ytldkmobncmfodaagreat", sum := "5fe2e39880a01d307236eef00a00c24e29f5423503336fc7c3fa0281b6948e18", func := "diurnal/diurnallaw10.ArenaBehind", spec := "arenaBehind", inPlace := ["math/bits.Add64", "internal/bytealg.IndexByteString", "internal/bytealg.IndexString"], unfollowed := true, recurses := true, named := ["internal/bytealg.MaxLen"], apart := false, narrowed := true }
def ArenaBehindUptoSaid : Prop := arenaBehindUptoRow.holds Tryz.pinned (OpenSpec.upto arenaBehindSpec)

/-- 'diurnallaw11.ChainSays', WHERE WHAT IT READS IS OF BULK AT MOST 1048576: true; the input reads as it did. -/
def chainSaysUptoRow : OpenClaim := { program := "ytldkmobncmfodaagreat", sum := "5fe2e39880a01d307236eef00a00c24e29f5423503336fc7c3fa0281b6948e18", func := "diurnal/diurnallaw11.ChainSays", spec := "chainSays", inPlace := ["math/bits.Add64"], unfollowed := true, recurses := true, apart := false, narrowed := true }
def ChainSaysUptoSaid : Prop := chainSaysUptoRow.holds Tryz.pinned (OpenSpec.upto chainSaysSpec)

/-- 'diurnallaw12.LinkSays', WHERE WHAT IT READS IS OF BULK AT MOST 1048576: true; the input reads as it did. -/
def linkSaysUptoRow : OpenClaim := { program := "ytldkmobncmfodaagreat", sum := "5fe2e39880a01d307236eef00a00c24e29f5423503336fc7c3fa0281b6948e18", func := "diurnal/diurnallaw12.LinkSays", spec := "linkSays", inPlace := ["math/bits.Add64"], unfollowed := true, recurses := true, apart := false, narrowed := true }
def LinkSaysUptoSaid : Prop := linkSaysUptoRow.holds Tryz.pinned (OpenSpec.upto linkSaysSpec)

end Rows
end Go.Proofs.YtldkmobncmfodaaGreat
