/-
  No cell of these rows narrows 'for every input' (looked for: loops, veiled, ifaces, maps, wideKeys, modest, calm, conditions, laid).
  DERIVED. THE GIVEN ROWS OF THIS SEAT. 4 by the template 'for every input the law returns true; each argument reads behind the call as it read before'; 0 by the template 'total and deterministic' (their statements: YtggnnbdjihihiaaGreatTotals.lean).
  GIVEN WITH THE SEED: the statements are not yours to turn. If you find one false, say at which input.
  Laid BY PROGRAM, IN A SANDBOX (cutbox-rows.mjs): the forced cells as the released guide's own fill.sh prints them over the translation 5393e2516022319f… (all of the seat's roots in one cut). By AI agents, Wed Nov 11 2026. No macro, syntax, notation, axiom, sorry.
-/
import Derived.Test.YtggnnbdjihihiaaGreatChecked
import GoSem.Claim
import GoSem.ClaimJoined
import GoSem.ClaimMapViews
import Derived.JoinedTies
import Derived.KernelRfl
namespace Go.Proofs.YtggnnbdjihihiaaGreat
/- THE CELL 'sum', in the pinned program and in every row, IS THE sha256 OF THE DUMP (.gsa) THAT YtggnnbdjihihiaaGreatProg.lean LOADS. Nothing in Lean hashes anything: it is a label: what it is worth is what the hold of that sum in a sandbox is worth. -/
noncomputable def Tryz.pinned : Pinned := { name := "ytggnnbdjihihiaagreat", sum := "5393e2516022319f205ff8070db0e026c383c8444e95a824cac6dc6ae27c9344", checked := Tryz.checked }
namespace Rows
def none {H : Type} : Left H := { results := [], args := [] }

/-- 'laws.FnIvf': WHATEVER THE INPUT: true; the input reads as it did. -/
def fnIvfSpec : ChangeSpec := { name := "fnIvf", fn := fun _ => fun
  | [d] => { results := [.lit (.bool true)], args := [d] }
  | _ => none }
def fnIvfRow : OpenClaim := { program := "ytggnnbdjihihiaagreat", sum := "5393e2516022319f205ff8070db0e026c383c8444e95a824cac6dc6ae27c9344", func := "loop.example/g00357/laws.FnIvf", spec := "fnIvf", inPlace := ["slices.overlaps[loop.example/g00357/impl.Hit]"], unfollowed := true, recurses := true, apart := false }
def FnIvfSaid : Prop := fnIvfRow.holds Tryz.pinned (OpenSpec.ofChange fnIvfSpec)

/-- ITS FALSE NEIGHBOUR: 'it returns false'. Refute it at one input. -/
def fnIvfWrong : ChangeSpec := { name := "fnIvf", fn := fun _ => fun
  | [d] => { results := [.lit (.bool false)], args := [d] }
  | _ => none }
def FnIvfWrongFalsely : Prop := fnIvfRow.holds Tryz.pinned (OpenSpec.ofChange fnIvfWrong)

/-- 'laws.FnExactAddIvf': WHATEVER THE INPUT: true; the input reads as it did. -/
def fnExactAddIvfSpec : ChangeSpec := { name := "fnExactAddIvf", fn := fun _ => fun
  | [d1, d2, d3] => { results := [.lit (.bool true)], args := [d1, d2, d3] }
  | _ => none }
def fnExactAddIvfRow : OpenClaim := { program := "ytggnnbdjihihiaagreat", sum := "5393e2516022319f205ff8070db0e026c383c8444e95a824cac6dc6ae27c9344", func := "loop.example/g00357/laws.FnExactAddIvf", spec := "fnExactAddIvf", unfollowed := true, recurses := true, apart := false }
def FnExactAddIvfSaid : Prop := fnExactAddIvfRow.holds Tryz.pinned (OpenSpec.ofChange fnExactAddIvfSpec)

/-- ITS FALSE NEIGHBOUR: 'it returns false'. Refute it at one input. -/
def fnExactAddIvfWrong : ChangeSpec := { name := "fnExactAddIvf", fn := fun _ => fun
  | [d1, d2, d3] => { results := [.lit (.bool false)], args := [d1, d2, d3] }
  | _ => none }
def FnExactAddIvfWrongFalsely : Prop := fnExactAddIvfRow.holds Tryz.pinned (OpenSpec.ofChange fnExactAddIvfWrong)

/-- 'laws.FnExactDropIvf': WHATEVER THE INPUT: true; the input reads as it did. -/
def fnExactDropIvfSpec : ChangeSpec := { name := "fnExactDropIvf", fn := fun _ => fun
  | [d1, d2] => { results := [.lit (.bool true)], args := [d1, d2] }
  | _ => none }
def fnExactDropIvfRow : OpenClaim := { program := "ytggnnbdjihihiaagreat", sum := "5393e2516022319f205ff8070db0e026c383c8444e95a824cac6dc6ae27c9344", func := "loop.example/g00357/laws.FnExactDropIvf", spec := "fnExactDropIvf", unfollowed := true, recurses := true, apart := false }
def FnExactDropIvfSaid : Prop := fnExactDropIvfRow.holds Tryz.pinned (OpenSpec.ofChange fnExactDropIvfSpec)

/-- ITS FALSE NEIGHBOUR: 'it returns false'. Refute it at one input. -/
def fnExactDropIvfWrong : ChangeSpec := { name := "fnExactDropIvf", fn := fun _ => fun
  | [d1, d2] => { results := [.lit (.bool false)], args := [d1, d2] }
  | _ => none }
def FnExactDropIvfWrongFalsely : Prop := fnExactDropIvfRow.holds Tryz.pinned (OpenSpec.ofChange fnExactDropIvfWrong)

/-- 'laws.FnExactSearchIvf': WHATEVER THE INPUT: true; the input reads as it did. -/
def fnExactSearchIvfSpec : ChangeSpec := { name := "fnExactSearchIvf", fn := fun _ => fun
  | [d1, d2, d3, d4] => { results := [.lit (.bool true)], args := [d1, d2, d3, d4] }
  | _ => none }
def fnExactSearchIvfRow : OpenClaim := { program := "ytggnnbdjihihiaagreat", sum := "5393e2516022319f205ff8070db0e026c383c8444e95a824cac6dc6ae27c9344", func := "loop.example/g00357/laws.FnExactSearchIvf", spec := "fnExactSearchIvf", inPlace := ["slices.overlaps[loop.example/g00357/impl.Hit]"], unfollowed := true, recurses := true, apart := false }
def FnExactSearchIvfSaid : Prop := fnExactSearchIvfRow.holds Tryz.pinned (OpenSpec.ofChange fnExactSearchIvfSpec)

/-- ITS FALSE NEIGHBOUR: 'it returns false'. Refute it at one input. -/
def fnExactSearchIvfWrong : ChangeSpec := { name := "fnExactSearchIvf", fn := fun _ => fun
  | [d1, d2, d3, d4] => { results := [.lit (.bool false)], args := [d1, d2, d3, d4] }
  | _ => none }
def FnExactSearchIvfWrongFalsely : Prop := fnExactSearchIvfRow.holds Tryz.pinned (OpenSpec.ofChange fnExactSearchIvfWrong)

/- THE SECOND FORM. 'bulk': how many values and letters a reading holds, each counted each time it is reached (what is shared counts as often as it is met; a slice's spare places count too). A statement '..UptoSaid' is the law's where the arguments, and the package variables that the reading takes, are together of bulk at most 1048576: NARROWER than '..Said'. Prove '..Said' where nothing that the law and all that it calls make is longer than what came in: it says more and counts as full. Else prove '..UptoSaid'. A law counts once. -/
mutual
def uptoBulk {H : Type} : DataW H → Nat
  | .lit (.string bytes) => bytes.length + 1
  | .lit _ => 1
  | .nil => 1
  | .ptr d => uptoBulk d + 1
  | .slice elems spare => uptoBulkAll elems + uptoBulkAll spare + 1
  | .agg parts => uptoBulkAll parts + 1
  | .iface _ d => uptoBulk d + 1
  | .map entries => uptoBulkEntries entries + 1
  | .held _ => 1
def uptoBulkAll {H : Type} : List (DataW H) → Nat
  | [] => 0
  | d :: r => uptoBulk d + uptoBulkAll r
def uptoBulkEntries {H : Type} : List (Lit × DataW H) → Nat
  | [] => 0
  | x :: r => uptoBulkEntry x + uptoBulkEntries r
def uptoBulkEntry {H : Type} : Lit × DataW H → Nat
  | (.string bytes, d) => bytes.length + uptoBulk d + 1
  | (_, d) => uptoBulk d + 1
 end
def uptoSmall : (H : Type) → List (DataW H) → Bool := fun _ ds => decide (uptoBulkAll ds ≤ 1048576)
def OpenSpec.upto (s : _root_.Go.ChangeSpec) : _root_.Go.OpenSpec := { _root_.Go.OpenSpec.ofChange s with cond := some uptoSmall }

/-- 'laws.FnIvf', WHERE WHAT IT READS IS OF BULK AT MOST 1048576: true; the input reads as it did. -/
def fnIvfUptoRow : OpenClaim := { program := "ytggnnbdjihihiaagreat", sum := "5393e2516022319f205ff8070db0e026c383c8444e95a824cac6dc6ae27c9344", func := "loop.example/g00357/laws.FnIvf", spec := "fnIvf", inPlace := ["slices.overlaps[loop.example/g00357/impl.Hit]"], unfollowed := true, recurses := true, apart := false, narrowed := true }
def FnIvfUptoSaid : Prop := fnIvfUptoRow.holds Tryz.pinned (OpenSpec.upto fnIvfSpec)

/-- 'laws.FnExactAddIvf', WHERE WHAT IT READS IS OF BULK AT MOST 1048576: true; the input reads as it did. -/
def fnExactAddIvfUptoRow : OpenClaim := { program := "ytggnnbdjihihiaagreat", sum := "5393e2516022319f205ff8070db0e026c383c8444e95a824cac6dc6ae27c9344", func := "loop.example/g00357/laws.FnExactAddIvf", spec := "fnExactAddIvf", unfollowed := true, recurses := true, apart := false, narrowed := true }
def FnExactAddIvfUptoSaid : Prop := fnExactAddIvfUptoRow.holds Tryz.pinned (OpenSpec.upto fnExactAddIvfSpec)

/-- 'laws.FnExactDropIvf', WHERE WHAT IT READS IS OF BULK AT MOST 1048576: true; the input reads as it did. -/
def fnExactDropIvfUptoRow : OpenClaim := { program := "ytggnnbdjihihiaagreat", sum := "5393e2516022319f205ff8070db0e026c383c8444e95a824cac6dc6ae27c9344", func := "loop.example/g00357/laws.FnExactDropIvf", spec := "fnExactDropIvf", unfollowed := true, recurses := true, apart := false, narrowed := true }
def FnExactDropIvfUptoSaid : Prop := fnExactDropIvfUptoRow.holds Tryz.pinned (OpenSpec.upto fnExactDropIvfSpec)

/-- 'laws.FnExactSearchIvf', WHERE WHAT IT READS IS OF BULK AT MOST 1048576: true; the input reads as it did. -/
def fnExactSearchIvfUptoRow : OpenClaim := { program := "ytggnnbdjihihiaagreat", sum := "5393e2516022319f205ff8070db0e026c383c8444e95a824cac6dc6ae27c9344", func := "loop.example/g00357/laws.FnExactSearchIvf", spec := "fnExactSearchIvf", inPlace := ["slices.overlaps[loop.example/g00357/impl.Hit]"], unfollowed := true, recurses := true, apart := false, narrowed := true }
def FnExactSearchIvfUptoSaid : Prop := fnExactSearchIvfUptoRow.holds Tryz.pinned (OpenSpec.upto fnExactSearchIvfSpec)

end Rows
end Go.Proofs.YtggnnbdjihihiaaGreat
