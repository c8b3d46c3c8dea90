/-
  No cell of these rows narrows 'for every input' (looked for: loops, veiled, ifaces, maps, wideKeys, modest, calm, conditions, laid).
  DERIVED. THE GIVEN ROWS OF THIS SEAT. 6 by the template 'for every input the law returns true; each argument reads behind the call as it read before'; 0 by the template 'total and deterministic' (their statements: YteaikbodkgjkdaaGreatTotals.lean).
  GIVEN WITH THE SEED: the statements are not yours to turn. If you find one false, say at which input.
  Laid BY PROGRAM, IN A SANDBOX (cutbox-rows.mjs): the forced cells as the released guide's own fill.sh prints them over the translation c3e6fef52be43e9d… (all of the seat's roots in one cut). By AI agents, Wed Nov 11 2026. No macro, syntax, notation, axiom, sorry.
-/
import Derived.Test.YteaikbodkgjkdaaGreatChecked
import GoSem.Claim
import GoSem.ClaimJoined
import GoSem.ClaimMapViews
import Derived.JoinedTies
import Derived.KernelRfl
namespace Go.Proofs.YteaikbodkgjkdaaGreat
/- THE CELL 'sum', in the pinned program and in every row, IS THE sha256 OF THE DUMP (.gsa) THAT YteaikbodkgjkdaaGreatProg.lean LOADS. Nothing in Lean hashes anything: it is a label: what it is worth is what the hold of that sum in a sandbox is worth. -/
noncomputable def Tryz.pinned : Pinned := { name := "yteaikbodkgjkdaagreat", sum := "c3e6fef52be43e9d18c73c7a90774e85e125a69e88f0e0e40030a2829744c96e", checked := Tryz.checked }
namespace Rows
def none {H : Type} : Left H := { results := [], args := [] }

/-- 'diurnallaw18.QuerySays': WHATEVER THE INPUT: true; the input reads as it did. -/
def querySaysSpec : ChangeSpec := { name := "querySays", fn := fun _ => fun
  | [d1, d2, d3, d4, d5] => { results := [.lit (.bool true)], args := [d1, d2, d3, d4, d5] }
  | _ => none }
def querySaysRow : OpenClaim := { program := "yteaikbodkgjkdaagreat", sum := "c3e6fef52be43e9d18c73c7a90774e85e125a69e88f0e0e40030a2829744c96e", func := "diurnal/diurnallaw18.QuerySays", spec := "querySays", inPlace := ["math/bits.Add64", "internal/bytealg.IndexByteString", "internal/bytealg.IndexString"], unfollowed := true, recurses := true, named := ["internal/bytealg.MaxLen"], plainKeys := false, apart := false }
def QuerySaysSaid : Prop := querySaysRow.holds Tryz.pinned (OpenSpec.ofChange querySaysSpec)

/-- ITS FALSE NEIGHBOUR: 'it returns false'. Refute it at one input. -/
def querySaysWrong : ChangeSpec := { name := "querySays", fn := fun _ => fun
  | [d1, d2, d3, d4, d5] => { results := [.lit (.bool false)], args := [d1, d2, d3, d4, d5] }
  | _ => none }
def QuerySaysWrongFalsely : Prop := querySaysRow.holds Tryz.pinned (OpenSpec.ofChange querySaysWrong)

/-- 'diurnallaw18.QueryScans': WHATEVER THE INPUT: true; the input reads as it did. -/
def queryScansSpec : ChangeSpec := { name := "queryScans", fn := fun _ => fun
  | [d1, d2] => { results := [.lit (.bool true)], args := [d1, d2] }
  | _ => none }
def queryScansRow : OpenClaim := { program := "yteaikbodkgjkdaagreat", sum := "c3e6fef52be43e9d18c73c7a90774e85e125a69e88f0e0e40030a2829744c96e", func := "diurnal/diurnallaw18.QueryScans", spec := "queryScans", inPlace := ["math/bits.Add64", "internal/bytealg.IndexByteString", "internal/bytealg.IndexString"], unfollowed := true, recurses := true, named := ["internal/bytealg.MaxLen"], plainKeys := false, apart := false }
def QueryScansSaid : Prop := queryScansRow.holds Tryz.pinned (OpenSpec.ofChange queryScansSpec)

/-- ITS FALSE NEIGHBOUR: 'it returns false'. Refute it at one input. -/
def queryScansWrong : ChangeSpec := { name := "queryScans", fn := fun _ => fun
  | [d1, d2] => { results := [.lit (.bool false)], args := [d1, d2] }
  | _ => none }
def QueryScansWrongFalsely : Prop := queryScansRow.holds Tryz.pinned (OpenSpec.ofChange queryScansWrong)

/-- 'diurnallaw18.QueryElder': WHATEVER THE INPUT: true; the input reads as it did. -/
def queryElderSpec : ChangeSpec := { name := "queryElder", fn := fun _ => fun
  | [d1, d2, d3] => { results := [.lit (.bool true)], args := [d1, d2, d3] }
  | _ => none }
def queryElderRow : OpenClaim := { program := "yteaikbodkgjkdaagreat", sum := "c3e6fef52be43e9d18c73c7a90774e85e125a69e88f0e0e40030a2829744c96e", func := "diurnal/diurnallaw18.QueryElder", spec := "queryElder", inPlace := ["math/bits.Add64", "internal/bytealg.IndexByteString", "internal/bytealg.IndexString"], unfollowed := true, recurses := true, named := ["internal/bytealg.MaxLen"], plainKeys := false, apart := false }
def QueryElderSaid : Prop := queryElderRow.holds Tryz.pinned (OpenSpec.ofChange queryElderSpec)

/-- ITS FALSE NEIGHBOUR: 'it returns false'. Refute it at one input. -/
def queryElderWrong : ChangeSpec := { name := "queryElder", fn := fun _ => fun
  | [d1, d2, d3] => { results := [.lit (.bool false)], args := [d1, d2, d3] }
  | _ => none }
def QueryElderWrongFalsely : Prop := queryElderRow.holds Tryz.pinned (OpenSpec.ofChange queryElderWrong)

/-- 'diurnallaw18.QueryRight': WHATEVER THE INPUT: true; the input reads as it did. -/
def queryRightSpec : ChangeSpec := { name := "queryRight", fn := fun _ => fun
  | [d1, d2, d3, d4] => { results := [.lit (.bool true)], args := [d1, d2, d3, d4] }
  | _ => none }
def queryRightRow : OpenClaim := { program := "yteaikbodkgjkdaagreat", sum := "c3e6fef52be43e9d18c73c7a90774e85e125a69e88f0e0e40030a2829744c96e", func := "diurnal/diurnallaw18.QueryRight", spec := "queryRight", inPlace := ["math/bits.Add64", "internal/bytealg.IndexByteString", "internal/bytealg.IndexString"], unfollowed := true, recurses := true, named := ["internal/bytealg.MaxLen"], plainKeys := false, apart := false }
def QueryRightSaid : Prop := queryRightRow.holds Tryz.pinned (OpenSpec.ofChange queryRightSpec)

/-- ITS FALSE NEIGHBOUR: 'it returns false'. Refute it at one input. -/
def queryRightWrong : ChangeSpec := { name := "queryRight", fn := fun _ => fun
  | [d1, d2, d3, d4] => { results := [.lit (.bool false)], args := [d1, d2, d3, d4] }
  | _ => none }
def QueryRightWrongFalsely : Prop := queryRightRow.holds Tryz.pinned (OpenSpec.ofChange queryRightWrong)

/-- 'diurnallaw16.SeekRecords': WHATEVER THE INPUT: true; the input reads as it did. -/
def seekRecordsSpec : ChangeSpec := { name := "seekRecords", fn := fun _ => fun
  | [d1, d2] => { results := [.lit (.bool true)], args := [d1, d2] }
  | _ => none }
def seekRecordsRow : OpenClaim := { program := "yteaikbodkgjkdaagreat", sum := "c3e6fef52be43e9d18c73c7a90774e85e125a69e88f0e0e40030a2829744c96e", func := "diurnal/diurnallaw16.SeekRecords", spec := "seekRecords", inPlace := ["math/bits.Add64", "internal/bytealg.IndexByteString", "internal/bytealg.IndexString"], unfollowed := true, recurses := true, named := ["internal/bytealg.MaxLen"], plainKeys := false, apart := false }
def SeekRecordsSaid : Prop := seekRecordsRow.holds Tryz.pinned (OpenSpec.ofChange seekRecordsSpec)

/-- ITS FALSE NEIGHBOUR: 'it returns false'. Refute it at one input. -/
def seekRecordsWrong : ChangeSpec := { name := "seekRecords", fn := fun _ => fun
  | [d1, d2] => { results := [.lit (.bool false)], args := [d1, d2] }
  | _ => none }
def SeekRecordsWrongFalsely : Prop := seekRecordsRow.holds Tryz.pinned (OpenSpec.ofChange seekRecordsWrong)

/-- 'diurnallaw16.SeekLooks': WHATEVER THE INPUT: true; the input reads as it did. -/
def seekLooksSpec : ChangeSpec := { name := "seekLooks", fn := fun _ => fun
  | [d1, d2] => { results := [.lit (.bool true)], args := [d1, d2] }
  | _ => none }
def seekLooksRow : OpenClaim := { program := "yteaikbodkgjkdaagreat", sum := "c3e6fef52be43e9d18c73c7a90774e85e125a69e88f0e0e40030a2829744c96e", func := "diurnal/diurnallaw16.SeekLooks", spec := "seekLooks", inPlace := ["math/bits.Add64", "internal/bytealg.IndexByteString", "internal/bytealg.IndexString"], unfollowed := true, recurses := true, named := ["internal/bytealg.MaxLen"], plainKeys := false, apart := false }
def SeekLooksSaid : Prop := seekLooksRow.holds Tryz.pinned (OpenSpec.ofChange seekLooksSpec)

/-- ITS FALSE NEIGHBOUR: 'it returns false'. Refute it at one input. -/
def seekLooksWrong : ChangeSpec := { name := "seekLooks", fn := fun _ => fun
  | [d1, d2] => { results := [.lit (.bool false)], args := [d1, d2] }
  | _ => none }
def SeekLooksWrongFalsely : Prop := seekLooksRow.holds Tryz.pinned (OpenSpec.ofChange seekLooksWrong)

/- THE SECOND FORM. 'bulk': how many values and letters a reading holds, each counted each time it is reached (what is shared counts as often as it is met; a slice's spare places count too). A statement '..UptoSaid' is the law's where the arguments, and the package variables that the reading takes, are together of bulk at most 1048576: NARROWER than '..Said'. Prove '..Said' where nothing that the law and all that it calls make is longer than what came in: it says more and counts as full. Else prove '..UptoSaid'. A law counts once. -/
mutual
def uptoBulk {H : Type} : DataW H → Nat
  | .lit (.string bytes) => bytes.length + 1
  | .lit _ => 1
  | .nil => 1
  | .ptr d => uptoBulk d + 1
  | .slice elems spare => uptoBulkAll elems + uptoBulkAll spare + 1
  | .agg parts => uptoBulkAll parts + 1
  | .iface _ d => uptoBulk d + 1
  | .map entries => uptoBulkEntries entries + 1
  | .held _ => 1
def uptoBulkAll {H : Type} : List (DataW H) → Nat
  | [] => 0
  | d :: r => uptoBulk d + uptoBulkAll r
def uptoBulkEntries {H : Type} : List (Lit × DataW H) → Nat
  | [] => 0
  | x :: r => uptoBulkEntry x + uptoBulkEntries r
def uptoBulkEntry {H : Type} : Lit × DataW H → Nat
  | (.string bytes, d) => bytes.length + uptoBulk d + 1
  | (_, d) => uptoBulk d + 1
 end
def uptoSmall : (H : Type) → List (DataW H) → Bool := fun _ ds => decide (uptoBulkAll ds ≤ 1048576)
def OpenSpec.upto (s : _root_.Go.ChangeSpec) : _root_.Go.OpenSpec := { _root_.Go.OpenSpec.ofChange s with cond := some uptoSmall }

/-- 'diurnallaw18.QuerySays', WHERE WHAT IT READS IS OF BULK AT MOST 1048576: true; the input reads as it did. -/
def querySaysUptoRow : OpenClaim := { program := "yteaikbodkgjkdaagreat", sum := "c3e6fef52be43e9d18c73c7a90774e85e125a69e88f0e0e40030a2829744c96e", func := "diurnal/diurnallaw18.QuerySays", spec := "querySays", inPlace := ["math/bits.Add64", "internal/bytealg.IndexByteString", "internal/bytealg.IndexString"], unfollowed := true, recurses := true, named := ["internal/bytealg.MaxLen"], plainKeys := false, apart := false, narrowed := true }
def QuerySaysUptoSaid : Prop := querySaysUptoRow.holds Tryz.pinned (OpenSpec.upto querySaysSpec)

/-- 'diurnallaw18.QueryScans', WHERE WHAT IT READS IS OF BULK AT MOST 1048576: true; the input reads as it did. -/
def queryScansUptoRow : OpenClaim := { program := "yteaikbodkgjkdaagreat", sum := "c3e6fef52be43e9d18c73c7a90774e85e125a69e88f0e0e40030a2829744c96e", func := "diurnal/diurnallaw18.QueryScans", spec := "queryScans", inPlace := ["math/bits.Add64", "internal/bytealg.IndexByteString", "internal/bytealg.IndexString"], unfollowed := true, recurses := true, named := ["internal/bytealg.MaxLen"], plainKeys := false, apart := false, narrowed := true }
def QueryScansUptoSaid : Prop := queryScansUptoRow.holds Tryz.pinned (OpenSpec.upto queryScansSpec)

/-- 'diurnallaw18.QueryElder', WHERE WHAT IT READS IS OF BULK AT MOST 1048576: true; the input reads as it did. -/
def queryElderUptoRow : OpenClaim := { program := "yteaikbodkgjkdaagreat", sum := "c3e6fef52be43e9d18c73c7a90774e85e125a69e88f0e0e40030a2829744c96e", func := "diurnal/diurnallaw18.QueryElder", spec := "queryElder", inPlace := ["math/bits.Add64", "internal/bytealg.IndexByteString", "internal/bytealg.IndexString"], unfollowed := true, recurses := true, named := ["internal/bytealg.MaxLen"], plainKeys := false, apart := false, narrowed := true }
def QueryElderUptoSaid : Prop := queryElderUptoRow.holds Tryz.pinned (OpenSpec.upto queryElderSpec)

/-- 'diurnallaw18.QueryRight', WHERE WHAT IT READS IS OF BULK AT MOST 1048576: true; the input reads as it did. -/
def queryRightUptoRow : OpenClaim := { program := "yteaikbodkgjkdaagreat", sum := "c3e6fef52be43e9d18c73c7a90774e85e125a69e88f0e0e40030a2829744c96e", func := "diurnal/diurnallaw18.QueryRight", spec := "queryRight", inPlace := ["math/bits.Add64", "internal/bytealg.IndexByteString", "internal/bytealg.IndexString"], unfollowed := true, recurses := true, named := ["internal/bytealg.MaxLen"], plainKeys := false, apart := false, narrowed := true }
def QueryRightUptoSaid : Prop := queryRightUptoRow.holds Tryz.pinned (OpenSpec.upto queryRightSpec)

/-- 'diurnallaw16.SeekRecords', WHERE WHAT IT READS IS OF BULK AT MOST 1048576: true; the input reads as it did. -/
def seekRecordsUptoRow : OpenClaim := { program := "yteaikbodkgjkdaagreat", sum := "c3e6fef52be43e9d18c73c7a90774e85e125a69e88f0e0e40030a2829744c96e", func := "diurnal/diurnallaw16.SeekRecords", spec := "seekRecords", inPlace := ["math/bits.Add64", "internal/bytealg.IndexByteString", "internal/bytealg.IndexString"], unfollowed := true, recurses := true, named := ["internal/bytealg.MaxLen"], plainKeys := false, apart := false, narrowed := true }
def SeekRecordsUptoSaid : Prop := seekRecordsUptoRow.holds Tryz.pinned (OpenSpec.upto seekRecordsSpec)

/-- 'diurnallaw16.SeekLooks', WHERE WHAT IT READS IS OF BULK AT MOST 1048576: true; the input reads as it did. -/
def seekLooksUptoRow : OpenClaim := { program := "yteaikbodkgjkdaagreat", sum := "c3e6fef52be43e9d18c73c7a90774e85e125a69e88f0e0e40030a2829744c96e", func := "diurnal/diurnallaw16.SeekLooks", spec := "seekLooks", inPlace := ["math/bits.Add64", "internal/bytealg.IndexByteString", "internal/bytealg.IndexString"], unfollowed := true, recurses := true, named := ["internal/bytealg.MaxLen"], plainKeys := false, apart := false, narrowed := true }
def SeekLooksUptoSaid : Prop := seekLooksUptoRow.holds Tryz.pinned (OpenSpec.upto seekLooksSpec)

end Rows
end Go.Proofs.YteaikbodkgjkdaaGreat
