/-
  No cell of these rows narrows 'for every input' (looked for: loops, veiled, ifaces, maps, wideKeys, modest, calm, conditions, laid).
  DERIVED. THE GIVEN ROWS OF THIS SEAT. 7 by the template 'for every input the law returns true; each argument reads behind the call as it read before'; 0 by the template 'total and deterministic' (their statements: YtjofcmdlcoganaaTotals.lean).
  GIVEN WITH THE SEED: the statements are not yours to turn. If you find one false, say at which input.
  Laid BY PROGRAM, IN A SANDBOX (cutbox-rows.mjs): the forced cells as the released guide's own fill.sh prints them over the translation a734af4635095197… (all of the seat's roots in one cut). By AI agents, Wed Nov 11 2026. No macro, syntax, notation, axiom, sorry.
-/
import Derived.Test.YtjofcmdlcoganaaChecked
import GoSem.Claim
import GoSem.ClaimJoined
import GoSem.ClaimMapViews
import Derived.JoinedTies
import Derived.KernelRfl
namespace Go.Proofs.Ytjofcmdlcoganaa
/- THE CELL 'sum', in the pinned program and in every row, IS THE sha256 OF THE DUMP (.gsa) THAT YtjofcmdlcoganaaProg.lean LOADS. Nothing in Lean hashes anything: it is a label: what it is worth is what the hold of that sum in a sandbox is worth. -/
noncomputable def Try.pinned : Pinned := { name := "ytjofcmdlcoganaa", sum := "a734af4635095197fead9575c229d5686746efa2b1774c9996fe6528e9cac631", checked := Try.checked }
namespace Rows
def none {H : Type} : Left H := { results := [], args := [] }

/-- 'laws.FnTrains': WHATEVER THE INPUT: true; the input reads as it did. -/
def fnTrainsSpec : ChangeSpec := { name := "fnTrains", fn := fun _ => fun
  | [d] => { results := [.lit (.bool true)], args := [d] }
  | _ => none }
def fnTrainsRow : OpenClaim := { program := "ytjofcmdlcoganaa", sum := "a734af4635095197fead9575c229d5686746efa2b1774c9996fe6528e9cac631", func := "loop.example/g00357/laws.FnTrains", spec := "fnTrains", unfollowed := true, recurses := true, apart := false }
def FnTrainsSaid : Prop := fnTrainsRow.holds Try.pinned (OpenSpec.ofChange fnTrainsSpec)

/-- ITS FALSE NEIGHBOUR: 'it returns false'. Refute it at one input. -/
def fnTrainsWrong : ChangeSpec := { name := "fnTrains", fn := fun _ => fun
  | [d] => { results := [.lit (.bool false)], args := [d] }
  | _ => none }
def FnTrainsWrongFalsely : Prop := fnTrainsRow.holds Try.pinned (OpenSpec.ofChange fnTrainsWrong)

/-- 'laws.FnExactCentersFault': WHATEVER THE INPUT: true; the input reads as it did. -/
def fnExactCentersFaultSpec : ChangeSpec := { name := "fnExactCentersFault", fn := fun _ => fun
  | [d] => { results := [.lit (.bool true)], args := [d] }
  | _ => none }
def fnExactCentersFaultRow : OpenClaim := { program := "ytjofcmdlcoganaa", sum := "a734af4635095197fead9575c229d5686746efa2b1774c9996fe6528e9cac631", func := "loop.example/g00357/laws.FnExactCentersFault", spec := "fnExactCentersFault", apart := false }
def FnExactCentersFaultSaid : Prop := fnExactCentersFaultRow.holds Try.pinned (OpenSpec.ofChange fnExactCentersFaultSpec)

/-- ITS FALSE NEIGHBOUR: 'it returns false'. Refute it at one input. -/
def fnExactCentersFaultWrong : ChangeSpec := { name := "fnExactCentersFault", fn := fun _ => fun
  | [d] => { results := [.lit (.bool false)], args := [d] }
  | _ => none }
def FnExactCentersFaultWrongFalsely : Prop := fnExactCentersFaultRow.holds Try.pinned (OpenSpec.ofChange fnExactCentersFaultWrong)

/-- 'laws.FnExactNearestOf': WHATEVER THE INPUT: true; the input reads as it did. -/
def fnExactNearestOfSpec : ChangeSpec := { name := "fnExactNearestOf", fn := fun _ => fun
  | [d1, d2] => { results := [.lit (.bool true)], args := [d1, d2] }
  | _ => none }
def fnExactNearestOfRow : OpenClaim := { program := "ytjofcmdlcoganaa", sum := "a734af4635095197fead9575c229d5686746efa2b1774c9996fe6528e9cac631", func := "loop.example/g00357/laws.FnExactNearestOf", spec := "fnExactNearestOf", apart := false }
def FnExactNearestOfSaid : Prop := fnExactNearestOfRow.holds Try.pinned (OpenSpec.ofChange fnExactNearestOfSpec)

/-- ITS FALSE NEIGHBOUR: 'it returns false'. Refute it at one input. -/
def fnExactNearestOfWrong : ChangeSpec := { name := "fnExactNearestOf", fn := fun _ => fun
  | [d1, d2] => { results := [.lit (.bool false)], args := [d1, d2] }
  | _ => none }
def FnExactNearestOfWrongFalsely : Prop := fnExactNearestOfRow.holds Try.pinned (OpenSpec.ofChange fnExactNearestOfWrong)

/-- 'laws.FnExactAssignAll': WHATEVER THE INPUT: true; the input reads as it did. -/
def fnExactAssignAllSpec : ChangeSpec := { name := "fnExactAssignAll", fn := fun _ => fun
  | [d1, d2] => { results := [.lit (.bool true)], args := [d1, d2] }
  | _ => none }
def fnExactAssignAllRow : OpenClaim := { program := "ytjofcmdlcoganaa", sum := "a734af4635095197fead9575c229d5686746efa2b1774c9996fe6528e9cac631", func := "loop.example/g00357/laws.FnExactAssignAll", spec := "fnExactAssignAll", apart := false }
def FnExactAssignAllSaid : Prop := fnExactAssignAllRow.holds Try.pinned (OpenSpec.ofChange fnExactAssignAllSpec)

/-- ITS FALSE NEIGHBOUR: 'it returns false'. Refute it at one input. -/
def fnExactAssignAllWrong : ChangeSpec := { name := "fnExactAssignAll", fn := fun _ => fun
  | [d1, d2] => { results := [.lit (.bool false)], args := [d1, d2] }
  | _ => none }
def FnExactAssignAllWrongFalsely : Prop := fnExactAssignAllRow.holds Try.pinned (OpenSpec.ofChange fnExactAssignAllWrong)

/-- 'laws.FnExactMoveCenters': WHATEVER THE INPUT: true; the input reads as it did. -/
def fnExactMoveCentersSpec : ChangeSpec := { name := "fnExactMoveCenters", fn := fun _ => fun
  | [d1, d2] => { results := [.lit (.bool true)], args := [d1, d2] }
  | _ => none }
def fnExactMoveCentersRow : OpenClaim := { program := "ytjofcmdlcoganaa", sum := "a734af4635095197fead9575c229d5686746efa2b1774c9996fe6528e9cac631", func := "loop.example/g00357/laws.FnExactMoveCenters", spec := "fnExactMoveCenters", unfollowed := true, recurses := true, apart := false }
def FnExactMoveCentersSaid : Prop := fnExactMoveCentersRow.holds Try.pinned (OpenSpec.ofChange fnExactMoveCentersSpec)

/-- ITS FALSE NEIGHBOUR: 'it returns false'. Refute it at one input. -/
def fnExactMoveCentersWrong : ChangeSpec := { name := "fnExactMoveCenters", fn := fun _ => fun
  | [d1, d2] => { results := [.lit (.bool false)], args := [d1, d2] }
  | _ => none }
def FnExactMoveCentersWrongFalsely : Prop := fnExactMoveCentersRow.holds Try.pinned (OpenSpec.ofChange fnExactMoveCentersWrong)

/-- 'laws.FnExactCostOf': WHATEVER THE INPUT: true; the input reads as it did. -/
def fnExactCostOfSpec : ChangeSpec := { name := "fnExactCostOf", fn := fun _ => fun
  | [d1, d2] => { results := [.lit (.bool true)], args := [d1, d2] }
  | _ => none }
def fnExactCostOfRow : OpenClaim := { program := "ytjofcmdlcoganaa", sum := "a734af4635095197fead9575c229d5686746efa2b1774c9996fe6528e9cac631", func := "loop.example/g00357/laws.FnExactCostOf", spec := "fnExactCostOf", apart := false }
def FnExactCostOfSaid : Prop := fnExactCostOfRow.holds Try.pinned (OpenSpec.ofChange fnExactCostOfSpec)

/-- ITS FALSE NEIGHBOUR: 'it returns false'. Refute it at one input. -/
def fnExactCostOfWrong : ChangeSpec := { name := "fnExactCostOf", fn := fun _ => fun
  | [d1, d2] => { results := [.lit (.bool false)], args := [d1, d2] }
  | _ => none }
def FnExactCostOfWrongFalsely : Prop := fnExactCostOfRow.holds Try.pinned (OpenSpec.ofChange fnExactCostOfWrong)

/-- 'laws.FnExactTrainCenters': WHATEVER THE INPUT: true; the input reads as it did. -/
def fnExactTrainCentersSpec : ChangeSpec := { name := "fnExactTrainCenters", fn := fun _ => fun
  | [d1, d2, d3] => { results := [.lit (.bool true)], args := [d1, d2, d3] }
  | _ => none }
def fnExactTrainCentersRow : OpenClaim := { program := "ytjofcmdlcoganaa", sum := "a734af4635095197fead9575c229d5686746efa2b1774c9996fe6528e9cac631", func := "loop.example/g00357/laws.FnExactTrainCenters", spec := "fnExactTrainCenters", unfollowed := true, recurses := true, apart := false }
def FnExactTrainCentersSaid : Prop := fnExactTrainCentersRow.holds Try.pinned (OpenSpec.ofChange fnExactTrainCentersSpec)

/-- ITS FALSE NEIGHBOUR: 'it returns false'. Refute it at one input. -/
def fnExactTrainCentersWrong : ChangeSpec := { name := "fnExactTrainCenters", fn := fun _ => fun
  | [d1, d2, d3] => { results := [.lit (.bool false)], args := [d1, d2, d3] }
  | _ => none }
def FnExactTrainCentersWrongFalsely : Prop := fnExactTrainCentersRow.holds Try.pinned (OpenSpec.ofChange fnExactTrainCentersWrong)

/- THE SECOND FORM. 'bulk': how many values and letters a reading holds, each counted each time it is reached (what is shared counts as often as it is met; a slice's spare places count too). A statement '..UptoSaid' is the law's where the arguments, and the package variables that the reading takes, are together of bulk at most 1048576: NARROWER than '..Said'. Prove '..Said' where nothing that the law and all that it calls make is longer than what came in: it says more and counts as full. Else prove '..UptoSaid'. A law counts once. -/
mutual
def uptoBulk {H : Type} : DataW H → Nat
  | .lit (.string bytes) => bytes.length + 1
  | .lit _ => 1
  | .nil => 1
  | .ptr d => uptoBulk d + 1
  | .slice elems spare => uptoBulkAll elems + uptoBulkAll spare + 1
  | .agg parts => uptoBulkAll parts + 1
  | .iface _ d => uptoBulk d + 1
  | .map entries => uptoBulkEntries entries + 1
  | .held _ => 1
def uptoBulkAll {H : Type} : List (DataW H) → Nat
  | [] => 0
  | d :: r => uptoBulk d + uptoBulkAll r
def uptoBulkEntries {H : Type} : List (Lit × DataW H) → Nat
  | [] => 0
  | x :: r => uptoBulkEntry x + uptoBulkEntries r
def uptoBulkEntry {H : Type} : Lit × DataW H → Nat
  | (.string bytes, d) => bytes.length + uptoBulk d + 1
  | (_, d) => uptoBulk d + 1
 end
def uptoSmall : (H : Type) → List (DataW H) → Bool := fun _ ds => decide (uptoBulkAll ds ≤ 1048576)
def OpenSpec.upto (s : _root_.Go.ChangeSpec) : _root_.Go.OpenSpec := { _root_.Go.OpenSpec.ofChange s with cond := some uptoSmall }

/-- 'laws.FnTrains', WHERE WHAT IT READS IS OF BULK AT MOST 1048576: true; the input reads as it did. -/
def fnTrainsUptoRow : OpenClaim := { program := "ytjofcmdlcoganaa", sum := "a734af4635095197fead9575c229d5686746efa2b1774c9996fe6528e9cac631", func := "loop.example/g00357/laws.FnTrains", spec := "fnTrains", unfollowed := true, recurses := true, apart := false, narrowed := true }
def FnTrainsUptoSaid : Prop := fnTrainsUptoRow.holds Try.pinned (OpenSpec.upto fnTrainsSpec)

/-- 'laws.FnExactCentersFault', WHERE WHAT IT READS IS OF BULK AT MOST 1048576: true; the input reads as it did. -/
def fnExactCentersFaultUptoRow : OpenClaim := { program := "ytjofcmdlcoganaa", sum := "a734af4635095197fead9575c229d5686746efa2b1774c9996fe6528e9cac631", func := "loop.example/g00357/laws.FnExactCentersFault", spec := "fnExactCentersFault", apart := false, narrowed := true }
def FnExactCentersFaultUptoSaid : Prop := fnExactCentersFaultUptoRow.holds Try.pinned (OpenSpec.upto fnExactCentersFaultSpec)

/-- 'laws.FnExactNearestOf', WHERE WHAT IT READS IS OF BULK AT MOST 1048576: true; the input reads as it did. -/
def fnExactNearestOfUptoRow : OpenClaim := { program := "ytjofcmdlcoganaa", sum := "a734af4635095197fead9575c229d5686746efa2b1774c9996fe6528e9cac631", func := "loop.example/g00357/laws.FnExactNearestOf", spec := "fnExactNearestOf", apart := false, narrowed := true }
def FnExactNearestOfUptoSaid : Prop := fnExactNearestOfUptoRow.holds Try.pinned (OpenSpec.upto fnExactNearestOfSpec)

/-- 'laws.FnExactAssignAll', WHERE WHAT IT READS IS OF BULK AT MOST 1048576: true; the input reads as it did. -/
def fnExactAssignAllUptoRow : OpenClaim := { program := "ytjofcmdlcoganaa", sum := "a734af4635095197fead9575c229d5686746efa2b1774c9996fe6528e9cac631", func := "loop.example/g00357/laws.FnExactAssignAll", spec := "fnExactAssignAll", apart := false, narrowed := true }
def FnExactAssignAllUptoSaid : Prop := fnExactAssignAllUptoRow.holds Try.pinned (OpenSpec.upto fnExactAssignAllSpec)

/-- 'laws.FnExactMoveCenters', WHERE WHAT IT READS IS OF BULK AT MOST 1048576: true; the input reads as it did. -/
def fnExactMoveCentersUptoRow : OpenClaim := { program := "ytjofcmdlcoganaa", sum := "a734af4635095197fead9575c229d5686746efa2b1774c9996fe6528e9cac631", func := "loop.example/g00357/laws.FnExactMoveCenters", spec := "fnExactMoveCenters", unfollowed := true, recurses := true, apart := false, narrowed := true }
def FnExactMoveCentersUptoSaid : Prop := fnExactMoveCentersUptoRow.holds Try.pinned (OpenSpec.upto fnExactMoveCentersSpec)

/-- 'laws.FnExactCostOf', WHERE WHAT IT READS IS OF BULK AT MOST 1048576: true; the input reads as it did. -/
def fnExactCostOfUptoRow : OpenClaim := { program := "ytjofcmdlcoganaa", sum := "a734af4635095197fead9575c229d5686746efa2b1774c9996fe6528e9cac631", func := "loop.example/g00357/laws.FnExactCostOf", spec := "fnExactCostOf", apart := false, narrowed := true }
def FnExactCostOfUptoSaid : Prop := fnExactCostOfUptoRow.holds Try.pinned (OpenSpec.upto fnExactCostOfSpec)

/-- 'laws.FnExactTrainCenters', WHERE WHAT IT READS IS OF BULK AT MOST 1048576: true; the input reads as it did. -/
def fnExactTrainCentersUptoRow : OpenClaim := { program := "ytjofcmdlcoganaa", sum := "a734af4635095197fead9575c229d5686746efa2b1774c9996fe6528e9cac631", func := "loop.example/g00357/laws.FnExactTrainCenters", spec := "fnExactTrainCenters", unfollowed := true, recurses := true, apart := false, narrowed := true }
def FnExactTrainCentersUptoSaid : Prop := fnExactTrainCentersUptoRow.holds Try.pinned (OpenSpec.upto fnExactTrainCentersSpec)

end Rows
end Go.Proofs.Ytjofcmdlcoganaa
