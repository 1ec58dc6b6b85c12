/-
  No cell of these rows narrows 'for every input' (looked for: loops, veiled, ifaces, maps, wideKeys, modest, calm, conditions, laid).
  DERIVED. THE GIVEN ROWS OF THIS SEAT. 4 by the template 'for every input the law returns true; each argument reads behind the call as it read before'; 0 by the template 'total and deterministic' (their statements: YtgjjmbliahhhjaaTotals.lean).
  GIVEN WITH THE SEED: the statements are not yours to turn. If you find one false, say at which input.
  Laid BY PROGRAM, IN A SANDBOX (cutbox-rows.mjs): the forced cells as the released guide's own fill.sh prints them over the translation 3f7fd09a33f27679… (all of the seat's roots in one cut). By AI agents, Wed Nov 11 2026. No macro, syntax, notation, axiom, sorry.
-/
import Derived.Test.YtgjjmbliahhhjaaChecked
import GoSem.Claim
import GoSem.ClaimJoined
import GoSem.ClaimMapViews
import Derived.JoinedTies
import Derived.KernelRfl
namespace Go.Proofs.Ytgjjmbliahhhjaa
/- THE CELL 'sum', in the pinned program and in every row, IS THE sha256 OF THE DUMP (.gsa) THAT YtgjjmbliahhhjaaProg.lean LOADS. Nothing in Lean hashes anything: it is a label: what it is worth is what the hold of that sum in a sandbox is worth. -/
noncomputable def Try.pinned : Pinned := { name := "ytgjjmbliahhhjaa", sum := "3f7fd09a33f27679a6b015638a7d06bf5cf44d7681fa57543e1295ffec0cc047", checked := Try.checked }
namespace Rows
def none {H : Type} : Left H := { results := [], args := [] }

/-- 'laws.FnExactWriteFault': WHATEVER THE INPUT: true; the input reads as it did. -/
def fnExactWriteFaultSpec : ChangeSpec := { name := "fnExactWriteFault", fn := fun _ => fun
  | [d] => { results := [.lit (.bool true)], args := [d] }
  | _ => none }
def fnExactWriteFaultRow : OpenClaim := { program := "ytgjjmbliahhhjaa", sum := "3f7fd09a33f27679a6b015638a7d06bf5cf44d7681fa57543e1295ffec0cc047", func := "loop.example/g00357/laws.FnExactWriteFault", spec := "fnExactWriteFault", apart := false }
def FnExactWriteFaultSaid : Prop := fnExactWriteFaultRow.holds Try.pinned (OpenSpec.ofChange fnExactWriteFaultSpec)

/-- ITS FALSE NEIGHBOUR: 'it returns false'. Refute it at one input. -/
def fnExactWriteFaultWrong : ChangeSpec := { name := "fnExactWriteFault", fn := fun _ => fun
  | [d] => { results := [.lit (.bool false)], args := [d] }
  | _ => none }
def FnExactWriteFaultWrongFalsely : Prop := fnExactWriteFaultRow.holds Try.pinned (OpenSpec.ofChange fnExactWriteFaultWrong)

/-- 'laws.FnExactPackWrite': WHATEVER THE INPUT: true; the input reads as it did. -/
def fnExactPackWriteSpec : ChangeSpec := { name := "fnExactPackWrite", fn := fun _ => fun
  | [d] => { results := [.lit (.bool true)], args := [d] }
  | _ => none }
def fnExactPackWriteRow : OpenClaim := { program := "ytgjjmbliahhhjaa", sum := "3f7fd09a33f27679a6b015638a7d06bf5cf44d7681fa57543e1295ffec0cc047", func := "loop.example/g00357/laws.FnExactPackWrite", spec := "fnExactPackWrite", apart := false }
def FnExactPackWriteSaid : Prop := fnExactPackWriteRow.holds Try.pinned (OpenSpec.ofChange fnExactPackWriteSpec)

/-- ITS FALSE NEIGHBOUR: 'it returns false'. Refute it at one input. -/
def fnExactPackWriteWrong : ChangeSpec := { name := "fnExactPackWrite", fn := fun _ => fun
  | [d] => { results := [.lit (.bool false)], args := [d] }
  | _ => none }
def FnExactPackWriteWrongFalsely : Prop := fnExactPackWriteRow.holds Try.pinned (OpenSpec.ofChange fnExactPackWriteWrong)

/-- 'laws.FnExactUnpackWrite': WHATEVER THE INPUT: true; the input reads as it did. -/
def fnExactUnpackWriteSpec : ChangeSpec := { name := "fnExactUnpackWrite", fn := fun _ => fun
  | [d] => { results := [.lit (.bool true)], args := [d] }
  | _ => none }
def fnExactUnpackWriteRow : OpenClaim := { program := "ytgjjmbliahhhjaa", sum := "3f7fd09a33f27679a6b015638a7d06bf5cf44d7681fa57543e1295ffec0cc047", func := "loop.example/g00357/laws.FnExactUnpackWrite", spec := "fnExactUnpackWrite", apart := false }
def FnExactUnpackWriteSaid : Prop := fnExactUnpackWriteRow.holds Try.pinned (OpenSpec.ofChange fnExactUnpackWriteSpec)

/-- ITS FALSE NEIGHBOUR: 'it returns false'. Refute it at one input. -/
def fnExactUnpackWriteWrong : ChangeSpec := { name := "fnExactUnpackWrite", fn := fun _ => fun
  | [d] => { results := [.lit (.bool false)], args := [d] }
  | _ => none }
def FnExactUnpackWriteWrongFalsely : Prop := fnExactUnpackWriteRow.holds Try.pinned (OpenSpec.ofChange fnExactUnpackWriteWrong)

/-- 'laws.FnExactSameWrites': WHATEVER THE INPUT: true; the input reads as it did. -/
def fnExactSameWritesSpec : ChangeSpec := { name := "fnExactSameWrites", fn := fun _ => fun
  | [d1, d2] => { results := [.lit (.bool true)], args := [d1, d2] }
  | _ => none }
def fnExactSameWritesRow : OpenClaim := { program := "ytgjjmbliahhhjaa", sum := "3f7fd09a33f27679a6b015638a7d06bf5cf44d7681fa57543e1295ffec0cc047", func := "loop.example/g00357/laws.FnExactSameWrites", spec := "fnExactSameWrites", unfollowed := true, recurses := true, apart := false }
def FnExactSameWritesSaid : Prop := fnExactSameWritesRow.holds Try.pinned (OpenSpec.ofChange fnExactSameWritesSpec)

/-- ITS FALSE NEIGHBOUR: 'it returns false'. Refute it at one input. -/
def fnExactSameWritesWrong : ChangeSpec := { name := "fnExactSameWrites", fn := fun _ => fun
  | [d1, d2] => { results := [.lit (.bool false)], args := [d1, d2] }
  | _ => none }
def FnExactSameWritesWrongFalsely : Prop := fnExactSameWritesRow.holds Try.pinned (OpenSpec.ofChange fnExactSameWritesWrong)

/- THE SECOND FORM. 'bulk': how many values and letters a reading holds, each counted each time it is reached (what is shared counts as often as it is met; a slice's spare places count too). A statement '..UptoSaid' is the law's where the arguments, and the package variables that the reading takes, are together of bulk at most 1048576: NARROWER than '..Said'. Prove '..Said' where nothing that the law and all that it calls make is longer than what came in: it says more and counts as full. Else prove '..UptoSaid'. A law counts once. -/
mutual
def uptoBulk {H : Type} : DataW H → Nat
  | .lit (.string bytes) => bytes.length + 1
  | .lit _ => 1
  | .nil => 1
  | .ptr d => uptoBulk d + 1
  | .slice elems spare => uptoBulkAll elems + uptoBulkAll spare + 1
  | .agg parts => uptoBulkAll parts + 1
  | .iface _ d => uptoBulk d + 1
  | .map entries => uptoBulkEntries entries + 1
  | .held _ => 1
def uptoBulkAll {H : Type} : List (DataW H) → Nat
  | [] => 0
  | d :: r => uptoBulk d + uptoBulkAll r
def uptoBulkEntries {H : Type} : List (Lit × DataW H) → Nat
  | [] => 0
  | x :: r => uptoBulkEntry x + uptoBulkEntries r
def uptoBulkEntry {H : Type} : Lit × DataW H → Nat
  | (.string bytes, d) => bytes.length + uptoBulk d + 1
  | (_, d) => uptoBulk d + 1
 end
def uptoSmall : (H : Type) → List (DataW H) → Bool := fun _ ds => decide (uptoBulkAll ds ≤ 1048576)
def OpenSpec.upto (s : _root_.Go.ChangeSpec) : _root_.Go.OpenSpec := { _root_.Go.OpenSpec.ofChange s with cond := some uptoSmall }

/-- 'laws.FnExactWriteFault', WHERE WHAT IT READS IS OF BULK AT MOST 1048576: true; the input reads as it did. -/
def fnExactWriteFaultUptoRow : OpenClaim := { program := "ytgjjmbliahhhjaa", sum := "3f7fd09a33f27679a6b015638a7d06bf5cf44d7681fa57543e1295ffec0cc047", func := "loop.example/g00357/laws.FnExactWriteFault", spec := "fnExactWriteFault", apart := false, narrowed := true }
def FnExactWriteFaultUptoSaid : Prop := fnExactWriteFaultUptoRow.holds Try.pinned (OpenSpec.upto fnExactWriteFaultSpec)

/-- 'laws.FnExactPackWrite', WHERE WHAT IT READS IS OF BULK AT MOST 1048576: true; the input reads as it did. -/
def fnExactPackWriteUptoRow : OpenClaim := { program := "ytgjjmbliahhhjaa", sum := "3f7fd09a33f27679a6b015638a7d06bf5cf44d7681fa57543e1295ffec0cc047", func := "loop.example/g00357/laws.FnExactPackWrite", spec := "fnExactPackWrite", apart := false, narrowed := true }
def FnExactPackWriteUptoSaid : Prop := fnExactPackWriteUptoRow.holds Try.pinned (OpenSpec.upto fnExactPackWriteSpec)

/-- 'laws.FnExactUnpackWrite', WHERE WHAT IT READS IS OF BULK AT MOST 1048576: true; the input reads as it did. -/
def fnExactUnpackWriteUptoRow : OpenClaim := { program := "ytgjjmbliahhhjaa", sum := "3f7fd09a33f27679a6b015638a7d06bf5cf44d7681fa57543e1295ffec0cc047", func := "loop.example/g00357/laws.FnExactUnpackWrite", spec := "fnExactUnpackWrite", apart := false, narrowed := true }
def FnExactUnpackWriteUptoSaid : Prop := fnExactUnpackWriteUptoRow.holds Try.pinned (OpenSpec.upto fnExactUnpackWriteSpec)

/-- 'laws.FnExactSameWrites', WHERE WHAT IT READS IS OF BULK AT MOST 1048576: true; the input reads as it did. -/
def fnExactSameWritesUptoRow : OpenClaim := { program := "ytgjjmbliahhhjaa", sum := "3f7fd09a33f27679a6b015638a7d06bf5cf44d7681fa57543e1295ffec0cc047", func := "loop.example/g00357/laws.FnExactSameWrites", spec := "fnExactSameWrites", unfollowed := true, recurses := true, apart := false, narrowed := true }
def FnExactSameWritesUptoSaid : Prop := fnExactSameWritesUptoRow.holds Try.pinned (OpenSpec.upto fnExactSameWritesSpec)

end Rows
end Go.Proofs.Ytgjjmbliahhhjaa
