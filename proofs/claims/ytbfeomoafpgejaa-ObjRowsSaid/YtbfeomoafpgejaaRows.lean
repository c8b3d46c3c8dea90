/-
  No cell of these rows narrows 'for every input' (looked for: loops, veiled, ifaces, maps, wideKeys, modest, calm, conditions, laid).
  DERIVED. THE GIVEN ROWS OF THIS SEAT. 5 by the template 'for every input the law returns true; each argument reads behind the call as it read before'; 0 by the template 'total and deterministic' (their statements: YtbfeomoafpgejaaTotals.lean).
  GIVEN WITH THE SEED: the statements are not yours to turn. If you find one false, say at which input.
  Laid BY PROGRAM, IN A SANDBOX (cutbox-rows.mjs): the forced cells as the released guide's own fill.sh prints them over the translation c6c683c0012daaa3… (all of the seat's roots in one cut). By AI agents, Wed Nov 11 2026. No macro, syntax, notation, axiom, sorry.
-/
import Derived.Test.YtbfeomoafpgejaaChecked
import GoSem.Claim
import GoSem.ClaimJoined
import GoSem.ClaimMapViews
import Derived.JoinedTies
import Derived.KernelRfl
namespace Go.Proofs.Ytbfeomoafpgejaa
/- THE CELL 'sum', in the pinned program and in every row, IS THE sha256 OF THE DUMP (.gsa) THAT YtbfeomoafpgejaaProg.lean LOADS. Nothing in Lean hashes anything: it is a label: what it is worth is what the hold of that sum in a sandbox is worth. -/
noncomputable def Try.pinned : Pinned := { name := "ytbfeomoafpgejaa", sum := "c6c683c0012daaa39bf1fd8f5659c0a68b655c0a7fafb03312c7a3af35e6f6db", checked := Try.checked }
namespace Rows
def none {H : Type} : Left H := { results := [], args := [] }

/-- 'diurnallaw7.ObjSays': WHATEVER THE INPUT: true; the input reads as it did. -/
def objSaysSpec : ChangeSpec := { name := "objSays", fn := fun _ => fun
  | [d1, d2] => { results := [.lit (.bool true)], args := [d1, d2] }
  | _ => none }
def objSaysRow : OpenClaim := { program := "ytbfeomoafpgejaa", sum := "c6c683c0012daaa39bf1fd8f5659c0a68b655c0a7fafb03312c7a3af35e6f6db", func := "diurnal/diurnallaw7.ObjSays", spec := "objSays", apart := false }
def ObjSaysSaid : Prop := objSaysRow.holds Try.pinned (OpenSpec.ofChange objSaysSpec)

/-- ITS FALSE NEIGHBOUR: 'it returns false'. Refute it at one input. -/
def objSaysWrong : ChangeSpec := { name := "objSays", fn := fun _ => fun
  | [d1, d2] => { results := [.lit (.bool false)], args := [d1, d2] }
  | _ => none }
def ObjSaysWrongFalsely : Prop := objSaysRow.holds Try.pinned (OpenSpec.ofChange objSaysWrong)

/-- 'diurnallaw7.ObjPuts': WHATEVER THE INPUT: true; the input reads as it did. -/
def objPutsSpec : ChangeSpec := { name := "objPuts", fn := fun _ => fun
  | [d1, d2, d3] => { results := [.lit (.bool true)], args := [d1, d2, d3] }
  | _ => none }
def objPutsRow : OpenClaim := { program := "ytbfeomoafpgejaa", sum := "c6c683c0012daaa39bf1fd8f5659c0a68b655c0a7fafb03312c7a3af35e6f6db", func := "diurnal/diurnallaw7.ObjPuts", spec := "objPuts", apart := false }
def ObjPutsSaid : Prop := objPutsRow.holds Try.pinned (OpenSpec.ofChange objPutsSpec)

/-- ITS FALSE NEIGHBOUR: 'it returns false'. Refute it at one input. -/
def objPutsWrong : ChangeSpec := { name := "objPuts", fn := fun _ => fun
  | [d1, d2, d3] => { results := [.lit (.bool false)], args := [d1, d2, d3] }
  | _ => none }
def ObjPutsWrongFalsely : Prop := objPutsRow.holds Try.pinned (OpenSpec.ofChange objPutsWrong)

/-- 'diurnallaw7.ObjBack': WHATEVER THE INPUT: true; the input reads as it did. -/
def objBackSpec : ChangeSpec := { name := "objBack", fn := fun _ => fun
  | [d1, d2] => { results := [.lit (.bool true)], args := [d1, d2] }
  | _ => none }
def objBackRow : OpenClaim := { program := "ytbfeomoafpgejaa", sum := "c6c683c0012daaa39bf1fd8f5659c0a68b655c0a7fafb03312c7a3af35e6f6db", func := "diurnal/diurnallaw7.ObjBack", spec := "objBack", apart := false }
def ObjBackSaid : Prop := objBackRow.holds Try.pinned (OpenSpec.ofChange objBackSpec)

/-- ITS FALSE NEIGHBOUR: 'it returns false'. Refute it at one input. -/
def objBackWrong : ChangeSpec := { name := "objBack", fn := fun _ => fun
  | [d1, d2] => { results := [.lit (.bool false)], args := [d1, d2] }
  | _ => none }
def ObjBackWrongFalsely : Prop := objBackRow.holds Try.pinned (OpenSpec.ofChange objBackWrong)

/-- 'diurnallaw7.ObjRows': WHATEVER THE INPUT: true; the input reads as it did. -/
def objRowsSpec : ChangeSpec := { name := "objRows", fn := fun _ => fun
  | [d1, d2] => { results := [.lit (.bool true)], args := [d1, d2] }
  | _ => none }
def objRowsRow : OpenClaim := { program := "ytbfeomoafpgejaa", sum := "c6c683c0012daaa39bf1fd8f5659c0a68b655c0a7fafb03312c7a3af35e6f6db", func := "diurnal/diurnallaw7.ObjRows", spec := "objRows", apart := false }
def ObjRowsSaid : Prop := objRowsRow.holds Try.pinned (OpenSpec.ofChange objRowsSpec)

/-- ITS FALSE NEIGHBOUR: 'it returns false'. Refute it at one input. -/
def objRowsWrong : ChangeSpec := { name := "objRows", fn := fun _ => fun
  | [d1, d2] => { results := [.lit (.bool false)], args := [d1, d2] }
  | _ => none }
def ObjRowsWrongFalsely : Prop := objRowsRow.holds Try.pinned (OpenSpec.ofChange objRowsWrong)

/-- 'diurnallaw7.ObjCut': WHATEVER THE INPUT: true; the input reads as it did. -/
def objCutSpec : ChangeSpec := { name := "objCut", fn := fun _ => fun
  | [d1, d2, d3, d4, d5] => { results := [.lit (.bool true)], args := [d1, d2, d3, d4, d5] }
  | _ => none }
def objCutRow : OpenClaim := { program := "ytbfeomoafpgejaa", sum := "c6c683c0012daaa39bf1fd8f5659c0a68b655c0a7fafb03312c7a3af35e6f6db", func := "diurnal/diurnallaw7.ObjCut", spec := "objCut", apart := false }
def ObjCutSaid : Prop := objCutRow.holds Try.pinned (OpenSpec.ofChange objCutSpec)

/-- ITS FALSE NEIGHBOUR: 'it returns false'. Refute it at one input. -/
def objCutWrong : ChangeSpec := { name := "objCut", fn := fun _ => fun
  | [d1, d2, d3, d4, d5] => { results := [.lit (.bool false)], args := [d1, d2, d3, d4, d5] }
  | _ => none }
def ObjCutWrongFalsely : Prop := objCutRow.holds Try.pinned (OpenSpec.ofChange objCutWrong)

/- THE SECOND FORM. 'bulk': how many values and letters a reading holds, each counted each time it is reached (what is shared counts as often as it is met; a slice's spare places count too). A statement '..UptoSaid' is the law's where the arguments, and the package variables that the reading takes, are together of bulk at most 1048576: NARROWER than '..Said'. Prove '..Said' where nothing that the law and all that it calls make is longer than what came in: it says more and counts as full. Else prove '..UptoSaid'. A law counts once. -/
mutual
def uptoBulk {H : Type} : DataW H → Nat
  | .lit (.string bytes) => bytes.length + 1
  | .lit _ => 1
  | .nil => 1
  | .ptr d => uptoBulk d + 1
  | .slice elems spare => uptoBulkAll elems + uptoBulkAll spare + 1
  | .agg parts => uptoBulkAll parts + 1
  | .iface _ d => uptoBulk d + 1
  | .map entries => uptoBulkEntries entries + 1
  | .held _ => 1
def uptoBulkAll {H : Type} : List (DataW H) → Nat
  | [] => 0
  | d :: r => uptoBulk d + uptoBulkAll r
def uptoBulkEntries {H : Type} : List (Lit × DataW H) → Nat
  | [] => 0
  | x :: r => uptoBulkEntry x + uptoBulkEntries r
def uptoBulkEntry {H : Type} : Lit × DataW H → Nat
  | (.string bytes, d) => bytes.length + uptoBulk d + 1
  | (_, d) => uptoBulk d + 1
 end
def uptoSmall : (H : Type) → List (DataW H) → Bool := fun _ ds => decide (uptoBulkAll ds ≤ 1048576)
def OpenSpec.upto (s : _root_.Go.ChangeSpec) : _root_.Go.OpenSpec := { _root_.Go.OpenSpec.ofChange s with cond := some uptoSmall }

/-- 'diurnallaw7.ObjSays', WHERE WHAT IT READS IS OF BULK AT MOST 1048576: true; the input reads as it did. -/
def objSaysUptoRow : OpenClaim := { program := "ytbfeomoafpgejaa", sum := "c6c683c0012daaa39bf1fd8f5659c0a68b655c0a7fafb03312c7a3af35e6f6db", func := "diurnal/diurnallaw7.ObjSays", spec := "objSays", apart := false, narrowed := true }
def ObjSaysUptoSaid : Prop := objSaysUptoRow.holds Try.pinned (OpenSpec.upto objSaysSpec)

/-- 'diurnallaw7.ObjPuts', WHERE WHAT IT READS IS OF BULK AT MOST 1048576: true; the input reads as it did. -/
def objPutsUptoRow : OpenClaim := { program := "ytbfeomoafpgejaa", sum := "c6c683c0012daaa39bf1fd8f5659c0a68b655c0a7fafb03312c7a3af35e6f6db", func := "diurnal/diurnallaw7.ObjPuts", spec := "objPuts", apart := false, narrowed := true }
def ObjPutsUptoSaid : Prop := objPutsUptoRow.holds Try.pinned (OpenSpec.upto objPutsSpec)

/-- 'diurnallaw7.ObjBack', WHERE WHAT IT READS IS OF BULK AT MOST 1048576: true; the input reads as it did. -/
def objBackUptoRow : OpenClaim := { program := "ytbfeomoafpgejaa", sum := "c6c683c0012daaa39bf1fd8f5659c0a68b655c0a7fafb03312c7a3af35e6f6db", func := "diurnal/diurnallaw7.ObjBack", spec := "objBack", apart := false, narrowed := true }
def ObjBackUptoSaid : Prop := objBackUptoRow.holds Try.pinned (OpenSpec.upto objBackSpec)

/-- 'diurnallaw7.ObjRows', WHERE WHAT IT READS IS OF BULK AT MOST 1048576: true; the input reads as it did. -/
def objRowsUptoRow : OpenClaim := { program := "ytbfeomoafpgejaa", sum := "c6c683c0012daaa39bf1fd8f5659c0a68b655c0a7fafb03312c7a3af35e6f6db", func := "diurnal/diurnallaw7.ObjRows", spec := "objRows", apart := false, narrowed := true }
def ObjRowsUptoSaid : Prop := objRowsUptoRow.holds Try.pinned (OpenSpec.upto objRowsSpec)

/-- 'diurnallaw7.ObjCut', WHERE WHAT IT READS IS OF BULK AT MOST 1048576: true; the input reads as it did. -/
def objCutUptoRow : OpenClaim := { program := "ytbfeomoafpgejaa", sum := "c6c683c0012daaa39bf1fd8f5659c0a68b655c0a7fafb03312c7a3af35e6f6db", func := "diurnal/diurnallaw7.ObjCut", spec := "objCut", apart := false, narrowed := true }
def ObjCutUptoSaid : Prop := objCutUptoRow.holds Try.pinned (OpenSpec.upto objCutSpec)

end Rows
end Go.Proofs.Ytbfeomoafpgejaa
