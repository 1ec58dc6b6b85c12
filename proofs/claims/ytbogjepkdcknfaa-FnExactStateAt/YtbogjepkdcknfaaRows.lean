/-
  No cell of these rows narrows 'for every input' (looked for: loops, veiled, ifaces, maps, wideKeys, modest, calm, conditions, laid).
  DERIVED. THE GIVEN ROWS OF THIS SEAT. 7 by the template 'for every input the law returns true; each argument reads behind the call as it read before'; 0 by the template 'total and deterministic' (their statements: YtbogjepkdcknfaaTotals.lean).
  GIVEN WITH THE SEED: the statements are not yours to turn. If you find one false, say at which input.
  Laid BY PROGRAM, IN A SANDBOX (cutbox-rows.mjs): the forced cells as the released guide's own fill.sh prints them over the translation 28b8901fbad41a9e… (all of the seat's roots in one cut). By AI agents, Wed Nov 11 2026. No macro, syntax, notation, axiom, sorry.
-/
import Derived.Test.YtbogjepkdcknfaaChecked
import GoSem.Claim
import GoSem.ClaimJoined
import GoSem.ClaimMapViews
import Derived.JoinedTies
import Derived.KernelRfl
namespace Go.Proofs.Ytbogjepkdcknfaa
/- THE CELL 'sum', in the pinned program and in every row, IS THE sha256 OF THE DUMP (.gsa) THAT YtbogjepkdcknfaaProg.lean LOADS. Nothing in Lean hashes anything: it is a label: what it is worth is what the hold of that sum in a sandbox is worth. -/
noncomputable def Try.pinned : Pinned := { name := "ytbogjepkdcknfaa", sum := "28b8901fbad41a9efebeb4fd279f6989918ea6832154eda50d789a5b192b75f6", checked := Try.checked }
namespace Rows
def none {H : Type} : Left H := { results := [], args := [] }

/-- 'laws.FnExactNodeFault': WHATEVER THE INPUT: true; the input reads as it did. -/
def fnExactNodeFaultSpec : ChangeSpec := { name := "fnExactNodeFault", fn := fun _ => fun
  | [d] => { results := [.lit (.bool true)], args := [d] }
  | _ => none }
def fnExactNodeFaultRow : OpenClaim := { program := "ytbogjepkdcknfaa", sum := "28b8901fbad41a9efebeb4fd279f6989918ea6832154eda50d789a5b192b75f6", func := "loop.example/g00357/laws.FnExactNodeFault", spec := "fnExactNodeFault", plainKeys := false, apart := false }
def FnExactNodeFaultSaid : Prop := fnExactNodeFaultRow.holds Try.pinned (OpenSpec.ofChange fnExactNodeFaultSpec)

/-- ITS FALSE NEIGHBOUR: 'it returns false'. Refute it at one input. -/
def fnExactNodeFaultWrong : ChangeSpec := { name := "fnExactNodeFault", fn := fun _ => fun
  | [d] => { results := [.lit (.bool false)], args := [d] }
  | _ => none }
def FnExactNodeFaultWrongFalsely : Prop := fnExactNodeFaultRow.holds Try.pinned (OpenSpec.ofChange fnExactNodeFaultWrong)

/-- 'laws.FnExactNewNode': WHATEVER THE INPUT: true; the input reads as it did. -/
def fnExactNewNodeSpec : ChangeSpec := { name := "fnExactNewNode", fn := fun _ => fun
  | [d] => { results := [.lit (.bool true)], args := [d] }
  | _ => none }
def fnExactNewNodeRow : OpenClaim := { program := "ytbogjepkdcknfaa", sum := "28b8901fbad41a9efebeb4fd279f6989918ea6832154eda50d789a5b192b75f6", func := "loop.example/g00357/laws.FnExactNewNode", spec := "fnExactNewNode", plainKeys := false, apart := false }
def FnExactNewNodeSaid : Prop := fnExactNewNodeRow.holds Try.pinned (OpenSpec.ofChange fnExactNewNodeSpec)

/-- ITS FALSE NEIGHBOUR: 'it returns false'. Refute it at one input. -/
def fnExactNewNodeWrong : ChangeSpec := { name := "fnExactNewNode", fn := fun _ => fun
  | [d] => { results := [.lit (.bool false)], args := [d] }
  | _ => none }
def FnExactNewNodeWrongFalsely : Prop := fnExactNewNodeRow.holds Try.pinned (OpenSpec.ofChange fnExactNewNodeWrong)

/-- 'laws.FnExactSyncNode': WHATEVER THE INPUT: true; the input reads as it did. -/
def fnExactSyncNodeSpec : ChangeSpec := { name := "fnExactSyncNode", fn := fun _ => fun
  | [d] => { results := [.lit (.bool true)], args := [d] }
  | _ => none }
def fnExactSyncNodeRow : OpenClaim := { program := "ytbogjepkdcknfaa", sum := "28b8901fbad41a9efebeb4fd279f6989918ea6832154eda50d789a5b192b75f6", func := "loop.example/g00357/laws.FnExactSyncNode", spec := "fnExactSyncNode", plainKeys := false, apart := false }
def FnExactSyncNodeSaid : Prop := fnExactSyncNodeRow.holds Try.pinned (OpenSpec.ofChange fnExactSyncNodeSpec)

/-- ITS FALSE NEIGHBOUR: 'it returns false'. Refute it at one input. -/
def fnExactSyncNodeWrong : ChangeSpec := { name := "fnExactSyncNode", fn := fun _ => fun
  | [d] => { results := [.lit (.bool false)], args := [d] }
  | _ => none }
def FnExactSyncNodeWrongFalsely : Prop := fnExactSyncNodeRow.holds Try.pinned (OpenSpec.ofChange fnExactSyncNodeWrong)

/-- 'laws.FnExactCleanNode': WHATEVER THE INPUT: true; the input reads as it did. -/
def fnExactCleanNodeSpec : ChangeSpec := { name := "fnExactCleanNode", fn := fun _ => fun
  | [d1, d2] => { results := [.lit (.bool true)], args := [d1, d2] }
  | _ => none }
def fnExactCleanNodeRow : OpenClaim := { program := "ytbogjepkdcknfaa", sum := "28b8901fbad41a9efebeb4fd279f6989918ea6832154eda50d789a5b192b75f6", func := "loop.example/g00357/laws.FnExactCleanNode", spec := "fnExactCleanNode", plainKeys := false, apart := false }
def FnExactCleanNodeSaid : Prop := fnExactCleanNodeRow.holds Try.pinned (OpenSpec.ofChange fnExactCleanNodeSpec)

/-- ITS FALSE NEIGHBOUR: 'it returns false'. Refute it at one input. -/
def fnExactCleanNodeWrong : ChangeSpec := { name := "fnExactCleanNode", fn := fun _ => fun
  | [d1, d2] => { results := [.lit (.bool false)], args := [d1, d2] }
  | _ => none }
def FnExactCleanNodeWrongFalsely : Prop := fnExactCleanNodeRow.holds Try.pinned (OpenSpec.ofChange fnExactCleanNodeWrong)

/-- 'laws.FnExactCrashNode': WHATEVER THE INPUT: true; the input reads as it did. -/
def fnExactCrashNodeSpec : ChangeSpec := { name := "fnExactCrashNode", fn := fun _ => fun
  | [d1, d2] => { results := [.lit (.bool true)], args := [d1, d2] }
  | _ => none }
def fnExactCrashNodeRow : OpenClaim := { program := "ytbogjepkdcknfaa", sum := "28b8901fbad41a9efebeb4fd279f6989918ea6832154eda50d789a5b192b75f6", func := "loop.example/g00357/laws.FnExactCrashNode", spec := "fnExactCrashNode", plainKeys := false, apart := false }
def FnExactCrashNodeSaid : Prop := fnExactCrashNodeRow.holds Try.pinned (OpenSpec.ofChange fnExactCrashNodeSpec)

/-- ITS FALSE NEIGHBOUR: 'it returns false'. Refute it at one input. -/
def fnExactCrashNodeWrong : ChangeSpec := { name := "fnExactCrashNode", fn := fun _ => fun
  | [d1, d2] => { results := [.lit (.bool false)], args := [d1, d2] }
  | _ => none }
def FnExactCrashNodeWrongFalsely : Prop := fnExactCrashNodeRow.holds Try.pinned (OpenSpec.ofChange fnExactCrashNodeWrong)

/-- 'laws.FnExactDirtyIn': WHATEVER THE INPUT: true; the input reads as it did. -/
def fnExactDirtyInSpec : ChangeSpec := { name := "fnExactDirtyIn", fn := fun _ => fun
  | [d1, d2] => { results := [.lit (.bool true)], args := [d1, d2] }
  | _ => none }
def fnExactDirtyInRow : OpenClaim := { program := "ytbogjepkdcknfaa", sum := "28b8901fbad41a9efebeb4fd279f6989918ea6832154eda50d789a5b192b75f6", func := "loop.example/g00357/laws.FnExactDirtyIn", spec := "fnExactDirtyIn", unfollowed := true, recurses := true, plainKeys := false, apart := false }
def FnExactDirtyInSaid : Prop := fnExactDirtyInRow.holds Try.pinned (OpenSpec.ofChange fnExactDirtyInSpec)

/-- ITS FALSE NEIGHBOUR: 'it returns false'. Refute it at one input. -/
def fnExactDirtyInWrong : ChangeSpec := { name := "fnExactDirtyIn", fn := fun _ => fun
  | [d1, d2] => { results := [.lit (.bool false)], args := [d1, d2] }
  | _ => none }
def FnExactDirtyInWrongFalsely : Prop := fnExactDirtyInRow.holds Try.pinned (OpenSpec.ofChange fnExactDirtyInWrong)

/-- 'laws.FnExactStateAt': WHATEVER THE INPUT: true; the input reads as it did. -/
def fnExactStateAtSpec : ChangeSpec := { name := "fnExactStateAt", fn := fun _ => fun
  | [d1, d2] => { results := [.lit (.bool true)], args := [d1, d2] }
  | _ => none }
def fnExactStateAtRow : OpenClaim := { program := "ytbogjepkdcknfaa", sum := "28b8901fbad41a9efebeb4fd279f6989918ea6832154eda50d789a5b192b75f6", func := "loop.example/g00357/laws.FnExactStateAt", spec := "fnExactStateAt", unfollowed := true, recurses := true, plainKeys := false, apart := false }
def FnExactStateAtSaid : Prop := fnExactStateAtRow.holds Try.pinned (OpenSpec.ofChange fnExactStateAtSpec)

/-- ITS FALSE NEIGHBOUR: 'it returns false'. Refute it at one input. -/
def fnExactStateAtWrong : ChangeSpec := { name := "fnExactStateAt", fn := fun _ => fun
  | [d1, d2] => { results := [.lit (.bool false)], args := [d1, d2] }
  | _ => none }
def FnExactStateAtWrongFalsely : Prop := fnExactStateAtRow.holds Try.pinned (OpenSpec.ofChange fnExactStateAtWrong)

/- THE SECOND FORM. 'bulk': how many values and letters a reading holds, each counted each time it is reached (what is shared counts as often as it is met; a slice's spare places count too). A statement '..UptoSaid' is the law's where the arguments, and the package variables that the reading takes, are together of bulk at most 1048576: NARROWER than '..Said'. Prove '..Said' where nothing that the law and all that it calls make is longer than what came in: it says more and counts as full. Else prove '..UptoSaid'. A law counts once. -/
mutual
def uptoBulk {H : Type} : DataW H → Nat
  | .lit (.string bytes) => bytes.length + 1
  | .lit _ => 1
  | .nil => 1
  | .ptr d => uptoBulk d + 1
  | .slice elems spare => uptoBulkAll elems + uptoBulkAll spare + 1
  | .agg parts => uptoBulkAll parts + 1
  | .iface _ d => uptoBulk d + 1
  | .map entries => uptoBulkEntries entries + 1
  | .held _ => 1
def uptoBulkAll {H : Type} : List (DataW H) → Nat
  | [] => 0
  | d :: r => uptoBulk d + uptoBulkAll r
def uptoBulkEntries {H : Type} : List (Lit × DataW H) → Nat
  | [] => 0
  | x :: r => uptoBulkEntry x + uptoBulkEntries r
def uptoBulkEntry {H : Type} : Lit × DataW H → Nat
  | (.string bytes, d) => bytes.length + uptoBulk d + 1
  | (_, d) => uptoBulk d + 1
 end
def uptoSmall : (H : Type) → List (DataW H) → Bool := fun _ ds => decide (uptoBulkAll ds ≤ 1048576)
def OpenSpec.upto (s : _root_.Go.ChangeSpec) : _root_.Go.OpenSpec := { _root_.Go.OpenSpec.ofChange s with cond := some uptoSmall }

/-- 'laws.FnExactNodeFault', WHERE WHAT IT READS IS OF BULK AT MOST 1048576: true; the input reads as it did. -/
def fnExactNodeFaultUptoRow : OpenClaim := { program := "ytbogjepkdcknfaa", sum := "28b8901fbad41a9efebeb4fd279f6989918ea6832154eda50d789a5b192b75f6", func := "loop.example/g00357/laws.FnExactNodeFault", spec := "fnExactNodeFault", plainKeys := false, apart := false, narrowed := true }
def FnExactNodeFaultUptoSaid : Prop := fnExactNodeFaultUptoRow.holds Try.pinned (OpenSpec.upto fnExactNodeFaultSpec)

/-- 'laws.FnExactNewNode', WHERE WHAT IT READS IS OF BULK AT MOST 1048576: true; the input reads as it did. -/
def fnExactNewNodeUptoRow : OpenClaim := { program := "ytbogjepkdcknfaa", sum := "28b8901fbad41a9efebeb4fd279f6989918ea6832154eda50d789a5b192b75f6", func := "loop.example/g00357/laws.FnExactNewNode", spec := "fnExactNewNode", plainKeys := false, apart := false, narrowed := true }
def FnExactNewNodeUptoSaid : Prop := fnExactNewNodeUptoRow.holds Try.pinned (OpenSpec.upto fnExactNewNodeSpec)

/-- 'laws.FnExactSyncNode', WHERE WHAT IT READS IS OF BULK AT MOST 1048576: true; the input reads as it did. -/
def fnExactSyncNodeUptoRow : OpenClaim := { program := "ytbogjepkdcknfaa", sum := "28b8901fbad41a9efebeb4fd279f6989918ea6832154eda50d789a5b192b75f6", func := "loop.example/g00357/laws.FnExactSyncNode", spec := "fnExactSyncNode", plainKeys := false, apart := false, narrowed := true }
def FnExactSyncNodeUptoSaid : Prop := fnExactSyncNodeUptoRow.holds Try.pinned (OpenSpec.upto fnExactSyncNodeSpec)

/-- 'laws.FnExactCleanNode', WHERE WHAT IT READS IS OF BULK AT MOST 1048576: true; the input reads as it did. -/
def fnExactCleanNodeUptoRow : OpenClaim := { program := "ytbogjepkdcknfaa", sum := "28b8901fbad41a9efebeb4fd279f6989918ea6832154eda50d789a5b192b75f6", func := "loop.example/g00357/laws.FnExactCleanNode", spec := "fnExactCleanNode", plainKeys := false, apart := false, narrowed := true }
def FnExactCleanNodeUptoSaid : Prop := fnExactCleanNodeUptoRow.holds Try.pinned (OpenSpec.upto fnExactCleanNodeSpec)

/-- 'laws.FnExactCrashNode', WHERE WHAT IT READS IS OF BULK AT MOST 1048576: true; the input reads as it did. -/
def fnExactCrashNodeUptoRow : OpenClaim := { program := "ytbogjepkdcknfaa", sum := "28b8901fbad41a9efebeb4fd279f6989918ea6832154eda50d789a5b192b75f6", func := "loop.example/g00357/laws.FnExactCrashNode", spec := "fnExactCrashNode", plainKeys := false, apart := false, narrowed := true }
def FnExactCrashNodeUptoSaid : Prop := fnExactCrashNodeUptoRow.holds Try.pinned (OpenSpec.upto fnExactCrashNodeSpec)

/-- 'laws.FnExactDirtyIn', WHERE WHAT IT READS IS OF BULK AT MOST 1048576: true; the input reads as it did. -/
def fnExactDirtyInUptoRow : OpenClaim := { program := "ytbogjepkdcknfaa", sum := "28b8901fbad41a9efebeb4fd279f6989918ea6832154eda50d789a5b192b75f6", func := "loop.example/g00357/laws.FnExactDirtyIn", spec := "fnExactDirtyIn", unfollowed := true, recurses := true, plainKeys := false, apart := false, narrowed := true }
def FnExactDirtyInUptoSaid : Prop := fnExactDirtyInUptoRow.holds Try.pinned (OpenSpec.upto fnExactDirtyInSpec)

/-- 'laws.FnExactStateAt', WHERE WHAT IT READS IS OF BULK AT MOST 1048576: true; the input reads as it did. -/
def fnExactStateAtUptoRow : OpenClaim := { program := "ytbogjepkdcknfaa", sum := "28b8901fbad41a9efebeb4fd279f6989918ea6832154eda50d789a5b192b75f6", func := "loop.example/g00357/laws.FnExactStateAt", spec := "fnExactStateAt", unfollowed := true, recurses := true, plainKeys := false, apart := false, narrowed := true }
def FnExactStateAtUptoSaid : Prop := fnExactStateAtUptoRow.holds Try.pinned (OpenSpec.upto fnExactStateAtSpec)

end Rows
end Go.Proofs.Ytbogjepkdcknfaa
