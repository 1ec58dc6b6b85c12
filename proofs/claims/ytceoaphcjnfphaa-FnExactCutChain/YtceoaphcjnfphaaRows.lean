/-
  No cell of these rows narrows 'for every input' (looked for: loops, veiled, ifaces, maps, wideKeys, modest, calm, conditions, laid).
  DERIVED. THE GIVEN ROWS OF THIS SEAT. 6 by the template 'for every input the law returns true; each argument reads behind the call as it read before'; 0 by the template 'total and deterministic' (their statements: YtceoaphcjnfphaaTotals.lean).
  GIVEN WITH THE SEED: the statements are not yours to turn. If you find one false, say at which input.
  Laid BY PROGRAM, IN A SANDBOX (cutbox-rows.mjs): the forced cells as the released guide's own fill.sh prints them over the translation 8d8494b59c8959c7… (all of the seat's roots in one cut). By AI agents, Wed Nov 11 2026. No macro, syntax, notation, axiom, sorry.
-/
import Derived.Test.YtceoaphcjnfphaaChecked
import GoSem.Claim
import GoSem.ClaimJoined
import GoSem.ClaimMapViews
import Derived.JoinedTies
import Derived.KernelRfl
namespace Go.Proofs.Ytceoaphcjnfphaa
/- THE CELL 'sum', in the pinned program and in every row, IS THE sha256 OF THE DUMP (.gsa) THAT YtceoaphcjnfphaaProg.lean LOADS. Nothing in Lean hashes anything: it is a label: what it is worth is what the hold of that sum in a sandbox is worth. -/
noncomputable def Try.pinned : Pinned := { name := "ytceoaphcjnfphaa", sum := "8d8494b59c8959c7590eaaa6b3665f01bf561d1ba4eecdffbf5e3ff01f55234c", checked := Try.checked }
namespace Rows
def none {H : Type} : Left H := { results := [], args := [] }

/-- 'laws.FnExactChainFault': WHATEVER THE INPUT: true; the input reads as it did. -/
def fnExactChainFaultSpec : ChangeSpec := { name := "fnExactChainFault", fn := fun _ => fun
  | [d] => { results := [.lit (.bool true)], args := [d] }
  | _ => none }
def fnExactChainFaultRow : OpenClaim := { program := "ytceoaphcjnfphaa", sum := "8d8494b59c8959c7590eaaa6b3665f01bf561d1ba4eecdffbf5e3ff01f55234c", func := "loop.example/g00357/laws.FnExactChainFault", spec := "fnExactChainFault", apart := false }
def FnExactChainFaultSaid : Prop := fnExactChainFaultRow.holds Try.pinned (OpenSpec.ofChange fnExactChainFaultSpec)

/-- ITS FALSE NEIGHBOUR: 'it returns false'. Refute it at one input. -/
def fnExactChainFaultWrong : ChangeSpec := { name := "fnExactChainFault", fn := fun _ => fun
  | [d] => { results := [.lit (.bool false)], args := [d] }
  | _ => none }
def FnExactChainFaultWrongFalsely : Prop := fnExactChainFaultRow.holds Try.pinned (OpenSpec.ofChange fnExactChainFaultWrong)

/-- 'laws.FnExactNewChain': WHATEVER THE INPUT: true; the input reads as it did. -/
def fnExactNewChainSpec : ChangeSpec := { name := "fnExactNewChain", fn := fun _ => fun
  | [d] => { results := [.lit (.bool true)], args := [d] }
  | _ => none }
def fnExactNewChainRow : OpenClaim := { program := "ytceoaphcjnfphaa", sum := "8d8494b59c8959c7590eaaa6b3665f01bf561d1ba4eecdffbf5e3ff01f55234c", func := "loop.example/g00357/laws.FnExactNewChain", spec := "fnExactNewChain", apart := false }
def FnExactNewChainSaid : Prop := fnExactNewChainRow.holds Try.pinned (OpenSpec.ofChange fnExactNewChainSpec)

/-- ITS FALSE NEIGHBOUR: 'it returns false'. Refute it at one input. -/
def fnExactNewChainWrong : ChangeSpec := { name := "fnExactNewChain", fn := fun _ => fun
  | [d] => { results := [.lit (.bool false)], args := [d] }
  | _ => none }
def FnExactNewChainWrongFalsely : Prop := fnExactNewChainRow.holds Try.pinned (OpenSpec.ofChange fnExactNewChainWrong)

/-- 'laws.FnExactNextIn': WHATEVER THE INPUT: true; the input reads as it did. -/
def fnExactNextInSpec : ChangeSpec := { name := "fnExactNextIn", fn := fun _ => fun
  | [d1, d2] => { results := [.lit (.bool true)], args := [d1, d2] }
  | _ => none }
def fnExactNextInRow : OpenClaim := { program := "ytceoaphcjnfphaa", sum := "8d8494b59c8959c7590eaaa6b3665f01bf561d1ba4eecdffbf5e3ff01f55234c", func := "loop.example/g00357/laws.FnExactNextIn", spec := "fnExactNextIn", unfollowed := true, recurses := true, apart := false }
def FnExactNextInSaid : Prop := fnExactNextInRow.holds Try.pinned (OpenSpec.ofChange fnExactNextInSpec)

/-- ITS FALSE NEIGHBOUR: 'it returns false'. Refute it at one input. -/
def fnExactNextInWrong : ChangeSpec := { name := "fnExactNextIn", fn := fun _ => fun
  | [d1, d2] => { results := [.lit (.bool false)], args := [d1, d2] }
  | _ => none }
def FnExactNextInWrongFalsely : Prop := fnExactNextInRow.holds Try.pinned (OpenSpec.ofChange fnExactNextInWrong)

/-- 'laws.FnExactPrevIn': WHATEVER THE INPUT: true; the input reads as it did. -/
def fnExactPrevInSpec : ChangeSpec := { name := "fnExactPrevIn", fn := fun _ => fun
  | [d1, d2] => { results := [.lit (.bool true)], args := [d1, d2] }
  | _ => none }
def fnExactPrevInRow : OpenClaim := { program := "ytceoaphcjnfphaa", sum := "8d8494b59c8959c7590eaaa6b3665f01bf561d1ba4eecdffbf5e3ff01f55234c", func := "loop.example/g00357/laws.FnExactPrevIn", spec := "fnExactPrevIn", unfollowed := true, recurses := true, apart := false }
def FnExactPrevInSaid : Prop := fnExactPrevInRow.holds Try.pinned (OpenSpec.ofChange fnExactPrevInSpec)

/-- ITS FALSE NEIGHBOUR: 'it returns false'. Refute it at one input. -/
def fnExactPrevInWrong : ChangeSpec := { name := "fnExactPrevIn", fn := fun _ => fun
  | [d1, d2] => { results := [.lit (.bool false)], args := [d1, d2] }
  | _ => none }
def FnExactPrevInWrongFalsely : Prop := fnExactPrevInRow.holds Try.pinned (OpenSpec.ofChange fnExactPrevInWrong)

/-- 'laws.FnExactCutChain': WHATEVER THE INPUT: true; the input reads as it did. -/
def fnExactCutChainSpec : ChangeSpec := { name := "fnExactCutChain", fn := fun _ => fun
  | [d1, d2] => { results := [.lit (.bool true)], args := [d1, d2] }
  | _ => none }
def fnExactCutChainRow : OpenClaim := { program := "ytceoaphcjnfphaa", sum := "8d8494b59c8959c7590eaaa6b3665f01bf561d1ba4eecdffbf5e3ff01f55234c", func := "loop.example/g00357/laws.FnExactCutChain", spec := "fnExactCutChain", apart := false }
def FnExactCutChainSaid : Prop := fnExactCutChainRow.holds Try.pinned (OpenSpec.ofChange fnExactCutChainSpec)

/-- ITS FALSE NEIGHBOUR: 'it returns false'. Refute it at one input. -/
def fnExactCutChainWrong : ChangeSpec := { name := "fnExactCutChain", fn := fun _ => fun
  | [d1, d2] => { results := [.lit (.bool false)], args := [d1, d2] }
  | _ => none }
def FnExactCutChainWrongFalsely : Prop := fnExactCutChainRow.holds Try.pinned (OpenSpec.ofChange fnExactCutChainWrong)

/-- 'laws.FnExactJoinChain': WHATEVER THE INPUT: true; the input reads as it did. -/
def fnExactJoinChainSpec : ChangeSpec := { name := "fnExactJoinChain", fn := fun _ => fun
  | [d1, d2] => { results := [.lit (.bool true)], args := [d1, d2] }
  | _ => none }
def fnExactJoinChainRow : OpenClaim := { program := "ytceoaphcjnfphaa", sum := "8d8494b59c8959c7590eaaa6b3665f01bf561d1ba4eecdffbf5e3ff01f55234c", func := "loop.example/g00357/laws.FnExactJoinChain", spec := "fnExactJoinChain", apart := false }
def FnExactJoinChainSaid : Prop := fnExactJoinChainRow.holds Try.pinned (OpenSpec.ofChange fnExactJoinChainSpec)

/-- ITS FALSE NEIGHBOUR: 'it returns false'. Refute it at one input. -/
def fnExactJoinChainWrong : ChangeSpec := { name := "fnExactJoinChain", fn := fun _ => fun
  | [d1, d2] => { results := [.lit (.bool false)], args := [d1, d2] }
  | _ => none }
def FnExactJoinChainWrongFalsely : Prop := fnExactJoinChainRow.holds Try.pinned (OpenSpec.ofChange fnExactJoinChainWrong)

/- THE SECOND FORM. 'bulk': how many values and letters a reading holds, each counted each time it is reached (what is shared counts as often as it is met; a slice's spare places count too). A statement '..UptoSaid' is the law's where the arguments, and the package variables that the reading takes, are together of bulk at most 1048576: NARROWER than '..Said'. Prove '..Said' where nothing that the law and all that it calls make is longer than what came in: it says more and counts as full. Else prove '..UptoSaid'. A law counts once. -/
mutual
def uptoBulk {H : Type} : DataW H → Nat
  | .lit (.string bytes) => bytes.length + 1
  | .lit _ => 1
  | .nil => 1
  | .ptr d => uptoBulk d + 1
  | .slice elems spare => uptoBulkAll elems + uptoBulkAll spare + 1
  | .agg parts => uptoBulkAll parts + 1
  | .iface _ d => uptoBulk d + 1
  | .map entries => uptoBulkEntries entries + 1
  | .held _ => 1
def uptoBulkAll {H : Type} : List (DataW H) → Nat
  | [] => 0
  | d :: r => uptoBulk d + uptoBulkAll r
def uptoBulkEntries {H : Type} : List (Lit × DataW H) → Nat
  | [] => 0
  | x :: r => uptoBulkEntry x + uptoBulkEntries r
def uptoBulkEntry {H : Type} : Lit × DataW H → Nat
  | (.string bytes, d) => bytes.length + uptoBulk d + 1
  | (_, d) => uptoBulk d + 1
 end
def uptoSmall : (H : Type) → List (DataW H) → Bool := fun _ ds => decide (uptoBulkAll ds ≤ 1048576)
def OpenSpec.upto (s : _root_.Go.ChangeSpec) : _root_.Go.OpenSpec := { _root_.Go.OpenSpec.ofChange s with cond := some uptoSmall }

/-- 'laws.FnExactChainFault', WHERE WHAT IT READS IS OF BULK AT MOST 1048576: true; the input reads as it did. -/
def fnExactChainFaultUptoRow : OpenClaim := { program := "ytceoaphcjnfphaa", sum := "8d8494b59c8959c7590eaaa6b3665f01bf561d1ba4eecdffbf5e3ff01f55234c", func := "loop.example/g00357/laws.FnExactChainFault", spec := "fnExactChainFault", apart := false, narrowed := true }
def FnExactChainFaultUptoSaid : Prop := fnExactChainFaultUptoRow.holds Try.pinned (OpenSpec.upto fnExactChainFaultSpec)

/-- 'laws.FnExactNewChain', WHERE WHAT IT READS IS OF BULK AT MOST 1048576: true; the input reads as it did. -/
def fnExactNewChainUptoRow : OpenClaim := { program := "ytceoaphcjnfphaa", sum := "8d8494b59c8959c7590eaaa6b3665f01bf561d1ba4eecdffbf5e3ff01f55234c", func := "loop.example/g00357/laws.FnExactNewChain", spec := "fnExactNewChain", apart := false, narrowed := true }
def FnExactNewChainUptoSaid : Prop := fnExactNewChainUptoRow.holds Try.pinned (OpenSpec.upto fnExactNewChainSpec)

/-- 'laws.FnExactNextIn', WHERE WHAT IT READS IS OF BULK AT MOST 1048576: true; the input reads as it did. -/
def fnExactNextInUptoRow : OpenClaim := { program := "ytceoaphcjnfphaa", sum := "8d8494b59c8959c7590eaaa6b3665f01bf561d1ba4eecdffbf5e3ff01f55234c", func := "loop.example/g00357/laws.FnExactNextIn", spec := "fnExactNextIn", unfollowed := true, recurses := true, apart := false, narrowed := true }
def FnExactNextInUptoSaid : Prop := fnExactNextInUptoRow.holds Try.pinned (OpenSpec.upto fnExactNextInSpec)

/-- 'laws.FnExactPrevIn', WHERE WHAT IT READS IS OF BULK AT MOST 1048576: true; the input reads as it did. -/
def fnExactPrevInUptoRow : OpenClaim := { program := "ytceoaphcjnfphaa", sum := "8d8494b59c8959c7590eaaa6b3665f01bf561d1ba4eecdffbf5e3ff01f55234c", func := "loop.example/g00357/laws.FnExactPrevIn", spec := "fnExactPrevIn", unfollowed := true, recurses := true, apart := false, narrowed := true }
def FnExactPrevInUptoSaid : Prop := fnExactPrevInUptoRow.holds Try.pinned (OpenSpec.upto fnExactPrevInSpec)

/-- 'laws.FnExactCutChain', WHERE WHAT IT READS IS OF BULK AT MOST 1048576: true; the input reads as it did. -/
def fnExactCutChainUptoRow : OpenClaim := { program := "ytceoaphcjnfphaa", sum := "8d8494b59c8959c7590eaaa6b3665f01bf561d1ba4eecdffbf5e3ff01f55234c", func := "loop.example/g00357/laws.FnExactCutChain", spec := "fnExactCutChain", apart := false, narrowed := true }
def FnExactCutChainUptoSaid : Prop := fnExactCutChainUptoRow.holds Try.pinned (OpenSpec.upto fnExactCutChainSpec)

/-- 'laws.FnExactJoinChain', WHERE WHAT IT READS IS OF BULK AT MOST 1048576: true; the input reads as it did. -/
def fnExactJoinChainUptoRow : OpenClaim := { program := "ytceoaphcjnfphaa", sum := "8d8494b59c8959c7590eaaa6b3665f01bf561d1ba4eecdffbf5e3ff01f55234c", func := "loop.example/g00357/laws.FnExactJoinChain", spec := "fnExactJoinChain", apart := false, narrowed := true }
def FnExactJoinChainUptoSaid : Prop := fnExactJoinChainUptoRow.holds Try.pinned (OpenSpec.upto fnExactJoinChainSpec)

end Rows
end Go.Proofs.Ytceoaphcjnfphaa
