/-
  No cell of these rows narrows 'for every input' (looked for: loops, veiled, ifaces, maps, wideKeys, modest, calm, conditions, laid).
  DERIVED. THE GIVEN ROWS OF THIS SEAT. 6 by the template 'for every input the law returns true; each argument reads behind the call as it read before'; 0 by the template 'total and deterministic' (their statements: YtggnnbdjihihiaaTotals.lean).
  GIVEN WITH THE SEED: the statements are not yours to turn. If you find one false, say at which input.
  Laid BY PROGRAM, IN A SANDBOX (cutbox-rows.mjs): the forced cells as the released guide's own fill.sh prints them over the translation 8053da9b45f9132a… (all of the seat's roots in one cut). By AI agents, Wed Nov 11 2026. No macro, syntax, notation, axiom, sorry.
-/
import Derived.Test.YtggnnbdjihihiaaChecked
import GoSem.Claim
import GoSem.ClaimJoined
import GoSem.ClaimMapViews
import Derived.JoinedTies
import Derived.KernelRfl
namespace Go.Proofs.Ytggnnbdjihihiaa
/- THE CELL 'sum', in the pinned program and in every row, IS THE sha256 OF THE DUMP (.gsa) THAT YtggnnbdjihihiaaProg.lean LOADS. Nothing in Lean hashes anything: it is a label: what it is worth is what the hold of that sum in a sandbox is worth. -/
noncomputable def Try.pinned : Pinned := { name := "ytggnnbdjihihiaa", sum := "8053da9b45f9132aa202d934fd9e79fc75afa1114e538ceb88142691c89b2753", checked := Try.checked }
namespace Rows
def none {H : Type} : Left H := { results := [], args := [] }

/-- 'laws.FnProbes': WHATEVER THE INPUT: true; the input reads as it did. -/
def fnProbesSpec : ChangeSpec := { name := "fnProbes", fn := fun _ => fun
  | [d] => { results := [.lit (.bool true)], args := [d] }
  | _ => none }
def fnProbesRow : OpenClaim := { program := "ytggnnbdjihihiaa", sum := "8053da9b45f9132aa202d934fd9e79fc75afa1114e538ceb88142691c89b2753", func := "loop.example/g00357/laws.FnProbes", spec := "fnProbes", inPlace := ["slices.overlaps[loop.example/g00357/impl.Hit]"], unfollowed := true, recurses := true, apart := false }
def FnProbesSaid : Prop := fnProbesRow.holds Try.pinned (OpenSpec.ofChange fnProbesSpec)

/-- ITS FALSE NEIGHBOUR: 'it returns false'. Refute it at one input. -/
def fnProbesWrong : ChangeSpec := { name := "fnProbes", fn := fun _ => fun
  | [d] => { results := [.lit (.bool false)], args := [d] }
  | _ => none }
def FnProbesWrongFalsely : Prop := fnProbesRow.holds Try.pinned (OpenSpec.ofChange fnProbesWrong)

/-- 'laws.FnAdds': WHATEVER THE INPUT: true; the input reads as it did. -/
def fnAddsSpec : ChangeSpec := { name := "fnAdds", fn := fun _ => fun
  | [d] => { results := [.lit (.bool true)], args := [d] }
  | _ => none }
def fnAddsRow : OpenClaim := { program := "ytggnnbdjihihiaa", sum := "8053da9b45f9132aa202d934fd9e79fc75afa1114e538ceb88142691c89b2753", func := "loop.example/g00357/laws.FnAdds", spec := "fnAdds", unfollowed := true, recurses := true, apart := false }
def FnAddsSaid : Prop := fnAddsRow.holds Try.pinned (OpenSpec.ofChange fnAddsSpec)

/-- ITS FALSE NEIGHBOUR: 'it returns false'. Refute it at one input. -/
def fnAddsWrong : ChangeSpec := { name := "fnAdds", fn := fun _ => fun
  | [d] => { results := [.lit (.bool false)], args := [d] }
  | _ => none }
def FnAddsWrongFalsely : Prop := fnAddsRow.holds Try.pinned (OpenSpec.ofChange fnAddsWrong)

/-- 'laws.FnExactIvfFault': WHATEVER THE INPUT: true; the input reads as it did. -/
def fnExactIvfFaultSpec : ChangeSpec := { name := "fnExactIvfFault", fn := fun _ => fun
  | [d] => { results := [.lit (.bool true)], args := [d] }
  | _ => none }
def fnExactIvfFaultRow : OpenClaim := { program := "ytggnnbdjihihiaa", sum := "8053da9b45f9132aa202d934fd9e79fc75afa1114e538ceb88142691c89b2753", func := "loop.example/g00357/laws.FnExactIvfFault", spec := "fnExactIvfFault", unfollowed := true, recurses := true, apart := false }
def FnExactIvfFaultSaid : Prop := fnExactIvfFaultRow.holds Try.pinned (OpenSpec.ofChange fnExactIvfFaultSpec)

/-- ITS FALSE NEIGHBOUR: 'it returns false'. Refute it at one input. -/
def fnExactIvfFaultWrong : ChangeSpec := { name := "fnExactIvfFault", fn := fun _ => fun
  | [d] => { results := [.lit (.bool false)], args := [d] }
  | _ => none }
def FnExactIvfFaultWrongFalsely : Prop := fnExactIvfFaultRow.holds Try.pinned (OpenSpec.ofChange fnExactIvfFaultWrong)

/-- 'laws.FnExactBuildIvf': WHATEVER THE INPUT: true; the input reads as it did. -/
def fnExactBuildIvfSpec : ChangeSpec := { name := "fnExactBuildIvf", fn := fun _ => fun
  | [d1, d2] => { results := [.lit (.bool true)], args := [d1, d2] }
  | _ => none }
def fnExactBuildIvfRow : OpenClaim := { program := "ytggnnbdjihihiaa", sum := "8053da9b45f9132aa202d934fd9e79fc75afa1114e538ceb88142691c89b2753", func := "loop.example/g00357/laws.FnExactBuildIvf", spec := "fnExactBuildIvf", apart := false }
def FnExactBuildIvfSaid : Prop := fnExactBuildIvfRow.holds Try.pinned (OpenSpec.ofChange fnExactBuildIvfSpec)

/-- ITS FALSE NEIGHBOUR: 'it returns false'. Refute it at one input. -/
def fnExactBuildIvfWrong : ChangeSpec := { name := "fnExactBuildIvf", fn := fun _ => fun
  | [d1, d2] => { results := [.lit (.bool false)], args := [d1, d2] }
  | _ => none }
def FnExactBuildIvfWrongFalsely : Prop := fnExactBuildIvfRow.holds Try.pinned (OpenSpec.ofChange fnExactBuildIvfWrong)

/-- 'laws.FnExactProbesOf': WHATEVER THE INPUT: true; the input reads as it did. -/
def fnExactProbesOfSpec : ChangeSpec := { name := "fnExactProbesOf", fn := fun _ => fun
  | [d1, d2, d3] => { results := [.lit (.bool true)], args := [d1, d2, d3] }
  | _ => none }
def fnExactProbesOfRow : OpenClaim := { program := "ytggnnbdjihihiaa", sum := "8053da9b45f9132aa202d934fd9e79fc75afa1114e538ceb88142691c89b2753", func := "loop.example/g00357/laws.FnExactProbesOf", spec := "fnExactProbesOf", unfollowed := true, recurses := true, apart := false }
def FnExactProbesOfSaid : Prop := fnExactProbesOfRow.holds Try.pinned (OpenSpec.ofChange fnExactProbesOfSpec)

/-- ITS FALSE NEIGHBOUR: 'it returns false'. Refute it at one input. -/
def fnExactProbesOfWrong : ChangeSpec := { name := "fnExactProbesOf", fn := fun _ => fun
  | [d1, d2, d3] => { results := [.lit (.bool false)], args := [d1, d2, d3] }
  | _ => none }
def FnExactProbesOfWrongFalsely : Prop := fnExactProbesOfRow.holds Try.pinned (OpenSpec.ofChange fnExactProbesOfWrong)

/-- 'laws.FnExactItemsOf': WHATEVER THE INPUT: true; the input reads as it did. -/
def fnExactItemsOfSpec : ChangeSpec := { name := "fnExactItemsOf", fn := fun _ => fun
  | [d] => { results := [.lit (.bool true)], args := [d] }
  | _ => none }
def fnExactItemsOfRow : OpenClaim := { program := "ytggnnbdjihihiaa", sum := "8053da9b45f9132aa202d934fd9e79fc75afa1114e538ceb88142691c89b2753", func := "loop.example/g00357/laws.FnExactItemsOf", spec := "fnExactItemsOf", unfollowed := true, recurses := true, apart := false }
def FnExactItemsOfSaid : Prop := fnExactItemsOfRow.holds Try.pinned (OpenSpec.ofChange fnExactItemsOfSpec)

/-- ITS FALSE NEIGHBOUR: 'it returns false'. Refute it at one input. -/
def fnExactItemsOfWrong : ChangeSpec := { name := "fnExactItemsOf", fn := fun _ => fun
  | [d] => { results := [.lit (.bool false)], args := [d] }
  | _ => none }
def FnExactItemsOfWrongFalsely : Prop := fnExactItemsOfRow.holds Try.pinned (OpenSpec.ofChange fnExactItemsOfWrong)

/- THE SECOND FORM. 'bulk': how many values and letters a reading holds, each counted each time it is reached (what is shared counts as often as it is met; a slice's spare places count too). A statement '..UptoSaid' is the law's where the arguments, and the package variables that the reading takes, are together of bulk at most 1048576: NARROWER than '..Said'. Prove '..Said' where nothing that the law and all that it calls make is longer than what came in: it says more and counts as full. Else prove '..UptoSaid'. A law counts once. -/
mutual
def uptoBulk {H : Type} : DataW H → Nat
  | .lit (.string bytes) => bytes.length + 1
  | .lit _ => 1
  | .nil => 1
  | .ptr d => uptoBulk d + 1
  | .slice elems spare => uptoBulkAll elems + uptoBulkAll spare + 1
  | .agg parts => uptoBulkAll parts + 1
  | .iface _ d => uptoBulk d + 1
  | .map entries => uptoBulkEntries entries + 1
  | .held _ => 1
def uptoBulkAll {H : Type} : List (DataW H) → Nat
  | [] => 0
  | d :: r => uptoBulk d + uptoBulkAll r
def uptoBulkEntries {H : Type} : List (Lit × DataW H) → Nat
  | [] => 0
  | x :: r => uptoBulkEntry x + uptoBulkEntries r
def uptoBulkEntry {H : Type} : Lit × DataW H → Nat
  | (.string bytes, d) => bytes.length + uptoBulk d + 1
  | (_, d) => uptoBulk d + 1
 end
def uptoSmall : (H : Type) → List (DataW H) → Bool := fun _ ds => decide (uptoBulkAll ds ≤ 1048576)
def OpenSpec.upto (s : _root_.Go.ChangeSpec) : _root_.Go.OpenSpec := { _root_.Go.OpenSpec.ofChange s with cond := some uptoSmall }

/-- 'laws.FnProbes', WHERE WHAT IT READS IS OF BULK AT MOST 1048576: true; the input reads as it did. -/
def fnProbesUptoRow : OpenClaim := { program := "ytggnnbdjihihiaa", sum := "8053da9b45f9132aa202d934fd9e79fc75afa1114e538ceb88142691c89b2753", func := "loop.example/g00357/laws.FnProbes", spec := "fnProbes", inPlace := ["slices.overlaps[loop.example/g00357/impl.Hit]"], unfollowed := true, recurses := true, apart := false, narrowed := true }
def FnProbesUptoSaid : Prop := fnProbesUptoRow.holds Try.pinned (OpenSpec.upto fnProbesSpec)

/-- 'laws.FnAdds', WHERE WHAT IT READS IS OF BULK AT MOST 1048576: true; the input reads as it did. -/
def fnAddsUptoRow : OpenClaim := { program := "ytggnnbdjihihiaa", sum := "8053da9b45f9132aa202d934fd9e79fc75afa1114e538ceb88142691c89b2753", func := "loop.example/g00357/laws.FnAdds", spec := "fnAdds", unfollowed := true, recurses := true, apart := false, narrowed := true }
def FnAddsUptoSaid : Prop := fnAddsUptoRow.holds Try.pinned (OpenSpec.upto fnAddsSpec)

/-- 'laws.FnExactIvfFault', WHERE WHAT IT READS IS OF BULK AT MOST 1048576: true; the input reads as it did. -/
def fnExactIvfFaultUptoRow : OpenClaim := { program := "ytggnnbdjihihiaa", sum := "8053da9b45f9132aa202d934fd9e79fc75afa1114e538ceb88142691c89b2753", func := "loop.example/g00357/laws.FnExactIvfFault", spec := "fnExactIvfFault", unfollowed := true, recurses := true, apart := false, narrowed := true }
def FnExactIvfFaultUptoSaid : Prop := fnExactIvfFaultUptoRow.holds Try.pinned (OpenSpec.upto fnExactIvfFaultSpec)

/-- 'laws.FnExactBuildIvf', WHERE WHAT IT READS IS OF BULK AT MOST 1048576: true; the input reads as it did. -/
def fnExactBuildIvfUptoRow : OpenClaim := { program := "ytggnnbdjihihiaa", sum := "8053da9b45f9132aa202d934fd9e79fc75afa1114e538ceb88142691c89b2753", func := "loop.example/g00357/laws.FnExactBuildIvf", spec := "fnExactBuildIvf", apart := false, narrowed := true }
def FnExactBuildIvfUptoSaid : Prop := fnExactBuildIvfUptoRow.holds Try.pinned (OpenSpec.upto fnExactBuildIvfSpec)

/-- 'laws.FnExactProbesOf', WHERE WHAT IT READS IS OF BULK AT MOST 1048576: true; the input reads as it did. -/
def fnExactProbesOfUptoRow : OpenClaim := { program := "ytggnnbdjihihiaa", sum := "8053da9b45f9132aa202d934fd9e79fc75afa1114e538ceb88142691c89b2753", func := "loop.example/g00357/laws.FnExactProbesOf", spec := "fnExactProbesOf", unfollowed := true, recurses := true, apart := false, narrowed := true }
def FnExactProbesOfUptoSaid : Prop := fnExactProbesOfUptoRow.holds Try.pinned (OpenSpec.upto fnExactProbesOfSpec)

/-- 'laws.FnExactItemsOf', WHERE WHAT IT READS IS OF BULK AT MOST 1048576: true; the input reads as it did. -/
def fnExactItemsOfUptoRow : OpenClaim := { program := "ytggnnbdjihihiaa", sum := "8053da9b45f9132aa202d934fd9e79fc75afa1114e538ceb88142691c89b2753", func := "loop.example/g00357/laws.FnExactItemsOf", spec := "fnExactItemsOf", unfollowed := true, recurses := true, apart := false, narrowed := true }
def FnExactItemsOfUptoSaid : Prop := fnExactItemsOfUptoRow.holds Try.pinned (OpenSpec.upto fnExactItemsOfSpec)

end Rows
end Go.Proofs.Ytggnnbdjihihiaa
