/-
  No cell of these rows narrows 'for every input' (looked for: loops, veiled, ifaces, maps, wideKeys, modest, calm, conditions, laid).
  DERIVED. THE GIVEN ROWS OF THIS SEAT. 9 by the template 'for every input the law returns true; each argument reads behind the call as it read before'; 0 by the template 'total and deterministic' (their statements: YtjecmgkmcfkcjaaGreatTotals.lean).
  GIVEN WITH THE SEED: the statements are not yours to turn. If you find one false, say at which input.
  Laid BY PROGRAM, IN A SANDBOX (cutbox-rows.mjs): the forced cells as the released guide's own fill.sh prints them over the translation 01beaaf36c102f82… (all of the seat's roots in one cut). By AI agents, Wed Nov 11 2026. No macro, syntax, notation, axiom, sorry.
-/
import Derived.Test.YtjecmgkmcfkcjaaGreatChecked
import GoSem.Claim
import GoSem.ClaimJoined
import GoSem.ClaimMapViews
import Derived.JoinedTies
import Derived.KernelRfl
namespace Go.Proofs.YtjecmgkmcfkcjaaGreat
/- THE CELL 'sum', in the pinned program and in every row, IS THE sha256 OF THE DUMP (.gsa) THAT YtjecmgkmcfkcjaaGreatProg.lean LOADS. Nothing in Lean hashes anything: it is a label: what it is worth is what the hold of that sum in a sandbox is worth. -/
noncomputable def Tryz.pinned : Pinned := { name := "ytjecmgkmcfkcjaagreat", sum := "01beaaf36c102f824f73e9fbee3073a8a8b8f200f42c8ca28bc4daa0d1e642af", checked := Tryz.checked }
namespace Rows
def none {H : Type} : Left H := { results := [], args := [] }

/-- 'diurnallaw11.ChainSays': WHATEVER THE INPUT: true; the input reads as it did. -/
def chainSaysSpec : ChangeSpec := { name := "chainSays", fn := fun _ => fun
  | [d1, d2, d3, d4, d5, d6] => { results := [.lit (.bool true)], args := [d1, d2, d3, d4, d5, d6] }
  | _ => none }
def chainSaysRow : OpenClaim := { program := "ytjecmgkmcfkcjaagreat", sum := "01beaaf36c102f824f73e9fbee3073a8a8b8f200f42c8ca28bc4daa0d1e642af", func := "diurnal/diurnallaw11.ChainSays", spec := "chainSays", inPlace := ["math/bits.Add64"], unfollowed := true, recurses := true, apart := false }
def ChainSaysSaid : Prop := chainSaysRow.holds Tryz.pinned (OpenSpec.ofChange chainSaysSpec)

/-- ITS FALSE NEIGHBOUR: 'it returns false'. Refute it at one input. -/
def chainSaysWrong : ChangeSpec := { name := "chainSays", fn := fun _ => fun
  | [d1, d2, d3, d4, d5, d6] => { results := [.lit (.bool false)], args := [d1, d2, d3, d4, d5, d6] }
  | _ => none }
def ChainSaysWrongFalsely : Prop := chainSaysRow.holds Tryz.pinned (OpenSpec.ofChange chainSaysWrong)

/-- 'diurnallaw11.ChainFinds': WHATEVER THE INPUT: true; the input reads as it did. -/
def chainFindsSpec : ChangeSpec := { name := "chainFinds", fn := fun _ => fun
  | [d] => { results := [.lit (.bool true)], args := [d] }
  | _ => none }
def chainFindsRow : OpenClaim := { program := "ytjecmgkmcfkcjaagreat", sum := "01beaaf36c102f824f73e9fbee3073a8a8b8f200f42c8ca28bc4daa0d1e642af", func := "diurnal/diurnallaw11.ChainFinds", spec := "chainFinds", inPlace := ["math/bits.Add64"], unfollowed := true, recurses := true, apart := false }
def ChainFindsSaid : Prop := chainFindsRow.holds Tryz.pinned (OpenSpec.ofChange chainFindsSpec)

/-- ITS FALSE NEIGHBOUR: 'it returns false'. Refute it at one input. -/
def chainFindsWrong : ChangeSpec := { name := "chainFinds", fn := fun _ => fun
  | [d] => { results := [.lit (.bool false)], args := [d] }
  | _ => none }
def ChainFindsWrongFalsely : Prop := chainFindsRow.holds Tryz.pinned (OpenSpec.ofChange chainFindsWrong)

/-- 'diurnallaw11.ChainDatas': WHATEVER THE INPUT: true; the input reads as it did. -/
def chainDatasSpec : ChangeSpec := { name := "chainDatas", fn := fun _ => fun
  | [d] => { results := [.lit (.bool true)], args := [d] }
  | _ => none }
def chainDatasRow : OpenClaim := { program := "ytjecmgkmcfkcjaagreat", sum := "01beaaf36c102f824f73e9fbee3073a8a8b8f200f42c8ca28bc4daa0d1e642af", func := "diurnal/diurnallaw11.ChainDatas", spec := "chainDatas", inPlace := ["math/bits.Add64"], unfollowed := true, recurses := true, apart := false }
def ChainDatasSaid : Prop := chainDatasRow.holds Tryz.pinned (OpenSpec.ofChange chainDatasSpec)

/-- ITS FALSE NEIGHBOUR: 'it returns false'. Refute it at one input. -/
def chainDatasWrong : ChangeSpec := { name := "chainDatas", fn := fun _ => fun
  | [d] => { results := [.lit (.bool false)], args := [d] }
  | _ => none }
def ChainDatasWrongFalsely : Prop := chainDatasRow.holds Tryz.pinned (OpenSpec.ofChange chainDatasWrong)

/-- 'diurnallaw12.LinkData': WHATEVER THE INPUT: true; the input reads as it did. -/
def linkDataSpec : ChangeSpec := { name := "linkData", fn := fun _ => fun
  | [d] => { results := [.lit (.bool true)], args := [d] }
  | _ => none }
def linkDataRow : OpenClaim := { program := "ytjecmgkmcfkcjaagreat", sum := "01beaaf36c102f824f73e9fbee3073a8a8b8f200f42c8ca28bc4daa0d1e642af", func := "diurnal/diurnallaw12.LinkData", spec := "linkData", inPlace := ["math/bits.Add64"], unfollowed := true, recurses := true, apart := false }
def LinkDataSaid : Prop := linkDataRow.holds Tryz.pinned (OpenSpec.ofChange linkDataSpec)

/-- ITS FALSE NEIGHBOUR: 'it returns false'. Refute it at one input. -/
def linkDataWrong : ChangeSpec := { name := "linkData", fn := fun _ => fun
  | [d] => { results := [.lit (.bool false)], args := [d] }
  | _ => none }
def LinkDataWrongFalsely : Prop := linkDataRow.holds Tryz.pinned (OpenSpec.ofChange linkDataWrong)

/-- 'diurnallaw15.JfileSays': WHATEVER THE INPUT: true; the input reads as it did. -/
def jfileSaysSpec : ChangeSpec := { name := "jfileSays", fn := fun _ => fun
  | [d1, d2, d3, d4] => { results := [.lit (.bool true)], args := [d1, d2, d3, d4] }
  | _ => none }
def jfileSaysRow : OpenClaim := { program := "ytjecmgkmcfkcjaagreat", sum := "01beaaf36c102f824f73e9fbee3073a8a8b8f200f42c8ca28bc4daa0d1e642af", func := "diurnal/diurnallaw15.JfileSays", spec := "jfileSays", inPlace := ["math/bits.Add64", "internal/bytealg.IndexByteString", "internal/bytealg.IndexString"], unfollowed := true, recurses := true, named := ["internal/bytealg.MaxLen"], apart := false }
def JfileSaysSaid : Prop := jfileSaysRow.holds Tryz.pinned (OpenSpec.ofChange jfileSaysSpec)

/-- ITS FALSE NEIGHBOUR: 'it returns false'. Refute it at one input. -/
def jfileSaysWrong : ChangeSpec := { name := "jfileSays", fn := fun _ => fun
  | [d1, d2, d3, d4] => { results := [.lit (.bool false)], args := [d1, d2, d3, d4] }
  | _ => none }
def JfileSaysWrongFalsely : Prop := jfileSaysRow.holds Tryz.pinned (OpenSpec.ofChange jfileSaysWrong)

/-- 'diurnallaw15.JfileReads': WHATEVER THE INPUT: true; the input reads as it did. -/
def jfileReadsSpec : ChangeSpec := { name := "jfileReads", fn := fun _ => fun
  | [d1, d2] => { results := [.lit (.bool true)], args := [d1, d2] }
  | _ => none }
def jfileReadsRow : OpenClaim := { program := "ytjecmgkmcfkcjaagreat", sum := "01beaaf36c102f824f73e9fbee3073a8a8b8f200f42c8ca28bc4daa0d1e642af", func := "diurnal/diurnallaw15.JfileReads", spec := "jfileReads", inPlace := ["math/bits.Add64", "internal/bytealg.IndexByteString", "internal/bytealg.IndexString"], unfollowed := true, recurses := true, named := ["internal/bytealg.MaxLen"], apart := false }
def JfileReadsSaid : Prop := jfileReadsRow.holds Tryz.pinned (OpenSpec.ofChange jfileReadsSpec)

/-- ITS FALSE NEIGHBOUR: 'it returns false'. Refute it at one input. -/
def jfileReadsWrong : ChangeSpec := { name := "jfileReads", fn := fun _ => fun
  | [d1, d2] => { results := [.lit (.bool false)], args := [d1, d2] }
  | _ => none }
def JfileReadsWrongFalsely : Prop := jfileReadsRow.holds Tryz.pinned (OpenSpec.ofChange jfileReadsWrong)

/-- 'diurnallaw15.JfileElder': WHATEVER THE INPUT: true; the input reads as it did. -/
def jfileElderSpec : ChangeSpec := { name := "jfileElder", fn := fun _ => fun
  | [d1, d2] => { results := [.lit (.bool true)], args := [d1, d2] }
  | _ => none }
def jfileElderRow : OpenClaim := { program := "ytjecmgkmcfkcjaagreat", sum := "01beaaf36c102f824f73e9fbee3073a8a8b8f200f42c8ca28bc4daa0d1e642af", func := "diurnal/diurnallaw15.JfileElder", spec := "jfileElder", inPlace := ["math/bits.Add64", "internal/bytealg.IndexByteString", "internal/bytealg.IndexString"], unfollowed := true, recurses := true, named := ["internal/bytealg.MaxLen"], apart := false }
def JfileElderSaid : Prop := jfileElderRow.holds Tryz.pinned (OpenSpec.ofChange jfileElderSpec)

/-- ITS FALSE NEIGHBOUR: 'it returns false'. Refute it at one input. -/
def jfileElderWrong : ChangeSpec := { name := "jfileElder", fn := fun _ => fun
  | [d1, d2] => { results := [.lit (.bool false)], args := [d1, d2] }
  | _ => none }
def JfileElderWrongFalsely : Prop := jfileElderRow.holds Tryz.pinned (OpenSpec.ofChange jfileElderWrong)

/-- 'diurnallaw15.JfileSpoilt': WHATEVER THE INPUT: true; the input reads as it did. -/
def jfileSpoiltSpec : ChangeSpec := { name := "jfileSpoilt", fn := fun _ => fun
  | [d1, d2, d3, d4] => { results := [.lit (.bool true)], args := [d1, d2, d3, d4] }
  | _ => none }
def jfileSpoiltRow : OpenClaim := { program := "ytjecmgkmcfkcjaagreat", sum := "01beaaf36c102f824f73e9fbee3073a8a8b8f200f42c8ca28bc4daa0d1e642af", func := "diurnal/diurnallaw15.JfileSpoilt", spec := "jfileSpoilt", inPlace := ["math/bits.Add64", "internal/bytealg.IndexByteString", "internal/bytealg.IndexString"], unfollowed := true, recurses := true, named := ["internal/bytealg.MaxLen"], apart := false }
def JfileSpoiltSaid : Prop := jfileSpoiltRow.holds Tryz.pinned (OpenSpec.ofChange jfileSpoiltSpec)

/-- ITS FALSE NEIGHBOUR: 'it returns false'. Refute it at one input. -/
def jfileSpoiltWrong : ChangeSpec := { name := "jfileSpoilt", fn := fun _ => fun
  | [d1, d2, d3, d4] => { results := [.lit (.bool false)], args := [d1, d2, d3, d4] }
  | _ => none }
def JfileSpoiltWrongFalsely : Prop := jfileSpoiltRow.holds Tryz.pinned (OpenSpec.ofChange jfileSpoiltWrong)

/-- 'diurnallaw15.JfileRises': WHATEVER THE INPUT: true; the input reads as it did. -/
def jfileRisesSpec : ChangeSpec := { name := "jfileRises", fn := fun _ => fun
  | [d1, d2, d3] => { results := [.lit (.bool true)], args := [d1, d2, d3] }
  | _ => none }
def jfileRisesRow : OpenClaim := { program := "ytjecmgkmcfkcjaagreat", sum := "01beaaf36c102f824f73e9fbee3073a8a8b8f200f42c8ca28bc4daa0d1e642af", func := "diurnal/diurnallaw15.JfileRises", spec := "jfileRises", inPlace := ["math/bits.Add64", "internal/bytealg.IndexByteString", "internal/bytealg.IndexString"], unfollowed := true, recurses := true, named := ["internal/bytealg.MaxLen"], apart := false }
def JfileRisesSaid : Prop := jfileRisesRow.holds Tryz.pinned (OpenSpec.ofChange jfileRisesSpec)

/-- ITS FALSE NEIGHBOUR: 'it returns false'. Refute it at one input. -/
def jfileRisesWrong : ChangeSpec := { name := "jfileRises", fn := fun _ => fun
  | [d1, d2, d3] => { results := [.lit (.bool false)], args := [d1, d2, d3] }
  | _ => none }
def JfileRisesWrongFalsely : Prop := jfileRisesRow.holds Tryz.pinned (OpenSpec.ofChange jfileRisesWrong)

/- THE SECOND FORM. 'bulk': how many values and letters a reading holds, each counted each time it is reached (what is shared counts as often as it is met; a slice's spare places count too). A statement '..UptoSaid' is the law's where the arguments, and the package variables that the reading takes, are together of bulk at most 1048576: NARROWER than '..Said'. Prove '..Said' where nothing that the law and all that it calls make is longer than what came in: it says more and counts as full. Else prove '..UptoSaid'. A law counts once. -/
mutual
def uptoBulk {H : Type} : DataW H → Nat
  | .lit (.string bytes) => bytes.length + 1
  | .lit _ => 1
  | .nil => 1
  | .ptr d => uptoBulk d + 1
  | .slice elems spare => uptoBulkAll elems + uptoBulkAll spare + 1
  | .agg parts => uptoBulkAll parts + 1
  | .iface _ d => uptoBulk d + 1
  | .map entries => uptoBulkEntries entries + 1
  | .held _ => 1
def uptoBulkAll {H : Type} : List (DataW H) → Nat
  | [] => 0
  | d :: r => uptoBulk d + uptoBulkAll r
def uptoBulkEntries {H : Type} : List (Lit × DataW H) → Nat
  | [] => 0
  | x :: r => uptoBulkEntry x + uptoBulkEntries r
def uptoBulkEntry {H : Type} : Lit × DataW H → Nat
  | (.string bytes, d) => bytes.length + uptoBulk d + 1
  | (_, d) => uptoBulk d + 1
 end
def uptoSmall : (H : Type) → List (DataW H) → Bool := fun _ ds => decide (uptoBulkAll ds ≤ 1048576)
def OpenSpec.upto (s : _root_.Go.ChangeSpec) : _root_.Go.OpenSpec := { _root_.Go.OpenSpec.ofChange s with cond := some uptoSmall }

/-- 'diurnallaw11.ChainSays', WHERE WHAT IT READS IS OF BULK AT MOST 1048576: true; the input reads as it did. -/
def chainSaysUptoRow : OpenClaim := { program := "ytjecmgkmcfkcjaagreat", sum := "01beaaf36c102f824f73e9fbee3073a8a8b8f200f42c8ca28bc4daa0d1e642af", func := "diurnal/diurnallaw11.ChainSays", spec := "chainSays", inPlace := ["math/bits.Add64"], unfollowed := true, recurses := true, apart := false, narrowed := true }
def ChainSaysUptoSaid : Prop := chainSaysUptoRow.holds Tryz.pinned (OpenSpec.upto chainSaysSpec)

/-- 'diurnallaw11.ChainFinds', WHERE WHAT IT READS IS OF BULK AT MOST 1048576: true; the input reads as it did. -/
def chainFindsUptoRow : OpenClaim := { program := "ytjecmgkmcfkcjaagreat", sum := "01beaaf36c102f824f73e9fbee3073a8a8b8f200f42c8ca28bc4daa0d1e642af", func := "diurnal/diurnallaw11.ChainFinds", spec := "chainFinds", inPlace := ["math/bits.Add64"], unfollowed := true, recurses := true, apart := false, narrowed := true }
def ChainFindsUptoSaid : Prop := chainFindsUptoRow.holds Tryz.pinned (OpenSpec.upto chainFindsSpec)

/-- 'diurnallaw11.ChainDatas', WHERE WHAT IT READS IS OF BULK AT MOST 1048576: true; the input reads as it did. -/
def chainDatasUptoRow : OpenClaim := { program := "ytjecmgkmcfkcjaagreat", sum := "01beaaf36c102f824f73e9fbee3073a8a8b8f200f42c8ca28bc4daa0d1e642af", func := "diurnal/diurnallaw11.ChainDatas", spec := "chainDatas", inPlace := ["math/bits.Add64"], unfollowed := true, recurses := true, apart := false, narrowed := true }
def ChainDatasUptoSaid : Prop := chainDatasUptoRow.holds Tryz.pinned (OpenSpec.upto chainDatasSpec)

/-- 'diurnallaw12.LinkData', WHERE WHAT IT READS IS OF BULK AT MOST 1048576: true; the input reads as it did. -/
def linkDataUptoRow : OpenClaim := { program := "ytjecmgkmcfkcjaagreat", sum := "01beaaf36c102f824f73e9fbee3073a8a8b8f200f42c8ca28bc4daa0d1e642af", func := "diurnal/diurnallaw12.LinkData", spec := "linkData", inPlace := ["math/bits.Add64"], unfollowed := true, recurses := true, apart := false, narrowed := true }
def LinkDataUptoSaid : Prop := linkDataUptoRow.holds Tryz.pinned (OpenSpec.upto linkDataSpec)

/-- 'diurnallaw15.JfileSays', WHERE WHAT IT READS IS OF BULK AT MOST 1048576: true; the input reads as it did. -/
def jfileSaysUptoRow : OpenClaim := { program := "ytjecmgkmcfkcjaagreat", sum := "01beaaf36c102f824f73e9fbee3073a8a8b8f200f42c8ca28bc4daa0d1e642af", func := "diurnal/diurnallaw15.JfileSays", spec := "jfileSays", inPlace := ["math/bits.Add64", "internal/bytealg.IndexByteString", "internal/bytealg.IndexString"], unfollowed := true, recurses := true, named := ["internal/bytealg.MaxLen"], apart := false, narrowed := true }
def JfileSaysUptoSaid : Prop := jfileSaysUptoRow.holds Tryz.pinned (OpenSpec.upto jfileSaysSpec)

/-- 'diurnallaw15.JfileReads', WHERE WHAT IT READS IS OF BULK AT MOST 1048576: true; the input reads as it did. -/
def jfileReadsUptoRow : OpenClaim := { program := "ytjecmgkmcfkcjaagreat", sum := "01beaaf36c102f824f73e9fbee3073a8a8b8f200f42c8ca28bc4daa0d1e642af", func := "diurnal/diurnallaw15.JfileReads", spec := "jfileReads", inPlace := ["math/bits.Add64", "internal/bytealg.IndexByteString", "internal/bytealg.IndexString"], unfollowed := true, recurses := true, named := ["internal/bytealg.MaxLen"], apart := false, narrowed := true }
def JfileReadsUptoSaid : Prop := jfileReadsUptoRow.holds Tryz.pinned (OpenSpec.upto jfileReadsSpec)

/-- 'diurnallaw15.JfileElder', WHERE WHAT IT READS IS OF BULK AT MOST 1048576: true; the input reads as it did. -/
def jfileElderUptoRow : OpenClaim := { program := "ytjecmgkmcfkcjaagreat", sum := "01beaaf36c102f824f73e9fbee3073a8a8b8f200f42c8ca28bc4daa0d1e642af", func := "diurnal/diurnallaw15.JfileElder", spec := "jfileElder", inPlace := ["math/bits.Add64", "internal/bytealg.IndexByteString", "internal/bytealg.IndexString"], unfollowed := true, recurses := true, named := ["internal/bytealg.MaxLen"], apart := false, narrowed := true }
def JfileElderUptoSaid : Prop := jfileElderUptoRow.holds Tryz.pinned (OpenSpec.upto jfileElderSpec)

/-- 'diurnallaw15.JfileSpoilt', WHERE WHAT IT READS IS OF BULK AT MOST 1048576: true; the input reads as it did. -/
def jfileSpoiltUptoRow : OpenClaim := { program := "ytjecmgkmcfkcjaagreat", sum := "01beaaf36c102f824f73e9fbee3073a8a8b8f200f42c8ca28bc4daa0d1e642af", func := "diurnal/diurnallaw15.JfileSpoilt", spec := "jfileSpoilt", inPlace := ["math/bits.Add64", "internal/bytealg.IndexByteString", "internal/bytealg.IndexString"], unfollowed := true, recurses := true, named := ["internal/bytealg.MaxLen"], apart := false, narrowed := true }
def JfileSpoiltUptoSaid : Prop := jfileSpoiltUptoRow.holds Tryz.pinned (OpenSpec.upto jfileSpoiltSpec)

/-- 'diurnallaw15.JfileRises', WHERE WHAT IT READS IS OF BULK AT MOST 1048576: true; the input reads as it did. -/
def jfileRisesUptoRow : OpenClaim := { program := "ytjecmgkmcfkcjaagreat", sum := "01beaaf36c102f824f73e9fbee3073a8a8b8f200f42c8ca28bc4daa0d1e642af", func := "diurnal/diurnallaw15.JfileRises", spec := "jfileRises", inPlace := ["math/bits.Add64", "internal/bytealg.IndexByteString", "internal/bytealg.IndexString"], unfollowed := true, recurses := true, named := ["internal/bytealg.MaxLen"], apart := false, narrowed := true }
def JfileRisesUptoSaid : Prop := jfileRisesUptoRow.holds Tryz.pinned (OpenSpec.upto jfileRisesSpec)

end Rows
end Go.Proofs.YtjecmgkmcfkcjaaGreat
