/-
  No cell of these rows narrows 'for every input' (looked for: loops, veiled, ifaces, maps, wideKeys, modest, calm, conditions, laid).
  DERIVED. THE GIVEN ROWS OF THIS SEAT. 12 by the template 'for every input the law returns true; each argument reads behind the call as it read before'; 0 by the template 'total and deterministic' (their statements: YtoanimpijfijgaaGreatTotals.lean).
  GIVEN WITH THE SEED: the statements are not yours to turn. If you find one false, say at which input.
  Laid BY PROGRAM, IN A SANDBOX (cutbox-rows.mjs): the forced cells as the released guide's own fill.sh prints them over the translation 5fb150a9c3dc2a7f… (all of the seat's roots in one cut). By AI agents, Wed Nov 11 2026. No macro, syntax, notation, axiom, sorry.
-/
import Derived.Test.YtoanimpijfijgaaGreatChecked
import GoSem.Claim
import GoSem.ClaimJoined
import GoSem.ClaimMapViews
import Derived.JoinedTies
import Derived.KernelRfl
namespace Go.Proofs.YtoanimpijfijgaaGreat
/- THE CELL 'sum', in the pinned program and in every row, IS THE sha256 OF THE DUMP (.gsa) THAT YtoanimpijfijgaaGreatProg.lean LOADS. Nothing in Lean hashes anything: it is a label: what it is worth is what the hold of that sum in a sandbox is worth. -/
noncomputable def Tryz.pinned : Pinned := { name := "ytoanimpijfijgaagreat", sum := "5fb150a9c3dc2a7f7171903ce331bb338c27c5bf86dd318af24d031fc243a805", checked := Tryz.checked }
namespace Rows
def none {H : Type} : Left H := { results := [], args := [] }

/-- 'laws.FnExactSendWorld': WHATEVER THE INPUT: true; the input reads as it did. -/
def fnExactSendWorldSpec : ChangeSpec := { name := "fnExactSendWorld", fn := fun _ => fun
  | [d1, d2, d3] => { results := [.lit (.bool true)], args := [d1, d2, d3] }
  | _ => none }
def fnExactSendWorldRow : OpenClaim := { program := "ytoanimpijfijgaagreat", sum := "5fb150a9c3dc2a7f7171903ce331bb338c27c5bf86dd318af24d031fc243a805", func := "loop.example/g00357/laws.FnExactSendWorld", spec := "fnExactSendWorld", unfollowed := true, recurses := true, plainKeys := false, apart := false }
def FnExactSendWorldSaid : Prop := fnExactSendWorldRow.holds Tryz.pinned (OpenSpec.ofChange fnExactSendWorldSpec)

/-- ITS FALSE NEIGHBOUR: 'it returns false'. Refute it at one input. -/
def fnExactSendWorldWrong : ChangeSpec := { name := "fnExactSendWorld", fn := fun _ => fun
  | [d1, d2, d3] => { results := [.lit (.bool false)], args := [d1, d2, d3] }
  | _ => none }
def FnExactSendWorldWrongFalsely : Prop := fnExactSendWorldRow.holds Tryz.pinned (OpenSpec.ofChange fnExactSendWorldWrong)

/-- 'laws.FnExactAckWorld': WHATEVER THE INPUT: true; the input reads as it did. -/
def fnExactAckWorldSpec : ChangeSpec := { name := "fnExactAckWorld", fn := fun _ => fun
  | [d1, d2] => { results := [.lit (.bool true)], args := [d1, d2] }
  | _ => none }
def fnExactAckWorldRow : OpenClaim := { program := "ytoanimpijfijgaagreat", sum := "5fb150a9c3dc2a7f7171903ce331bb338c27c5bf86dd318af24d031fc243a805", func := "loop.example/g00357/laws.FnExactAckWorld", spec := "fnExactAckWorld", unfollowed := true, recurses := true, plainKeys := false, apart := false }
def FnExactAckWorldSaid : Prop := fnExactAckWorldRow.holds Tryz.pinned (OpenSpec.ofChange fnExactAckWorldSpec)

/-- ITS FALSE NEIGHBOUR: 'it returns false'. Refute it at one input. -/
def fnExactAckWorldWrong : ChangeSpec := { name := "fnExactAckWorld", fn := fun _ => fun
  | [d1, d2] => { results := [.lit (.bool false)], args := [d1, d2] }
  | _ => none }
def FnExactAckWorldWrongFalsely : Prop := fnExactAckWorldRow.holds Tryz.pinned (OpenSpec.ofChange fnExactAckWorldWrong)

/-- 'laws.FnExactTickWorld': WHATEVER THE INPUT: true; the input reads as it did. -/
def fnExactTickWorldSpec : ChangeSpec := { name := "fnExactTickWorld", fn := fun _ => fun
  | [d1, d2] => { results := [.lit (.bool true)], args := [d1, d2] }
  | _ => none }
def fnExactTickWorldRow : OpenClaim := { program := "ytoanimpijfijgaagreat", sum := "5fb150a9c3dc2a7f7171903ce331bb338c27c5bf86dd318af24d031fc243a805", func := "loop.example/g00357/laws.FnExactTickWorld", spec := "fnExactTickWorld", unfollowed := true, recurses := true, plainKeys := false, apart := false }
def FnExactTickWorldSaid : Prop := fnExactTickWorldRow.holds Tryz.pinned (OpenSpec.ofChange fnExactTickWorldSpec)

/-- ITS FALSE NEIGHBOUR: 'it returns false'. Refute it at one input. -/
def fnExactTickWorldWrong : ChangeSpec := { name := "fnExactTickWorld", fn := fun _ => fun
  | [d1, d2] => { results := [.lit (.bool false)], args := [d1, d2] }
  | _ => none }
def FnExactTickWorldWrongFalsely : Prop := fnExactTickWorldRow.holds Tryz.pinned (OpenSpec.ofChange fnExactTickWorldWrong)

/-- 'laws.FnExactBeatWorld': WHATEVER THE INPUT: true; the input reads as it did. -/
def fnExactBeatWorldSpec : ChangeSpec := { name := "fnExactBeatWorld", fn := fun _ => fun
  | [d1, d2] => { results := [.lit (.bool true)], args := [d1, d2] }
  | _ => none }
def fnExactBeatWorldRow : OpenClaim := { program := "ytoanimpijfijgaagreat", sum := "5fb150a9c3dc2a7f7171903ce331bb338c27c5bf86dd318af24d031fc243a805", func := "loop.example/g00357/laws.FnExactBeatWorld", spec := "fnExactBeatWorld", unfollowed := true, recurses := true, plainKeys := false, apart := false }
def FnExactBeatWorldSaid : Prop := fnExactBeatWorldRow.holds Tryz.pinned (OpenSpec.ofChange fnExactBeatWorldSpec)

/-- ITS FALSE NEIGHBOUR: 'it returns false'. Refute it at one input. -/
def fnExactBeatWorldWrong : ChangeSpec := { name := "fnExactBeatWorld", fn := fun _ => fun
  | [d1, d2] => { results := [.lit (.bool false)], args := [d1, d2] }
  | _ => none }
def FnExactBeatWorldWrongFalsely : Prop := fnExactBeatWorldRow.holds Tryz.pinned (OpenSpec.ofChange fnExactBeatWorldWrong)

/-- 'laws.FnExactRemoveWorld': WHATEVER THE INPUT: true; the input reads as it did. -/
def fnExactRemoveWorldSpec : ChangeSpec := { name := "fnExactRemoveWorld", fn := fun _ => fun
  | [d1, d2] => { results := [.lit (.bool true)], args := [d1, d2] }
  | _ => none }
def fnExactRemoveWorldRow : OpenClaim := { program := "ytoanimpijfijgaagreat", sum := "5fb150a9c3dc2a7f7171903ce331bb338c27c5bf86dd318af24d031fc243a805", func := "loop.example/g00357/laws.FnExactRemoveWorld", spec := "fnExactRemoveWorld", unfollowed := true, recurses := true, plainKeys := false, apart := false }
def FnExactRemoveWorldSaid : Prop := fnExactRemoveWorldRow.holds Tryz.pinned (OpenSpec.ofChange fnExactRemoveWorldSpec)

/-- ITS FALSE NEIGHBOUR: 'it returns false'. Refute it at one input. -/
def fnExactRemoveWorldWrong : ChangeSpec := { name := "fnExactRemoveWorld", fn := fun _ => fun
  | [d1, d2] => { results := [.lit (.bool false)], args := [d1, d2] }
  | _ => none }
def FnExactRemoveWorldWrongFalsely : Prop := fnExactRemoveWorldRow.holds Tryz.pinned (OpenSpec.ofChange fnExactRemoveWorldWrong)

/-- 'laws.FnExactJoinWorld': WHATEVER THE INPUT: true; the input reads as it did. -/
def fnExactJoinWorldSpec : ChangeSpec := { name := "fnExactJoinWorld", fn := fun _ => fun
  | [d1, d2] => { results := [.lit (.bool true)], args := [d1, d2] }
  | _ => none }
def fnExactJoinWorldRow : OpenClaim := { program := "ytoanimpijfijgaagreat", sum := "5fb150a9c3dc2a7f7171903ce331bb338c27c5bf86dd318af24d031fc243a805", func := "loop.example/g00357/laws.FnExactJoinWorld", spec := "fnExactJoinWorld", unfollowed := true, recurses := true, plainKeys := false, apart := false }
def FnExactJoinWorldSaid : Prop := fnExactJoinWorldRow.holds Tryz.pinned (OpenSpec.ofChange fnExactJoinWorldSpec)

/-- ITS FALSE NEIGHBOUR: 'it returns false'. Refute it at one input. -/
def fnExactJoinWorldWrong : ChangeSpec := { name := "fnExactJoinWorld", fn := fun _ => fun
  | [d1, d2] => { results := [.lit (.bool false)], args := [d1, d2] }
  | _ => none }
def FnExactJoinWorldWrongFalsely : Prop := fnExactJoinWorldRow.holds Tryz.pinned (OpenSpec.ofChange fnExactJoinWorldWrong)

/-- 'laws.FnExactCommittedIn': WHATEVER THE INPUT: true; the input reads as it did. -/
def fnExactCommittedInSpec : ChangeSpec := { name := "fnExactCommittedIn", fn := fun _ => fun
  | [d] => { results := [.lit (.bool true)], args := [d] }
  | _ => none }
def fnExactCommittedInRow : OpenClaim := { program := "ytoanimpijfijgaagreat", sum := "5fb150a9c3dc2a7f7171903ce331bb338c27c5bf86dd318af24d031fc243a805", func := "loop.example/g00357/laws.FnExactCommittedIn", spec := "fnExactCommittedIn", unfollowed := true, recurses := true, plainKeys := false, apart := false }
def FnExactCommittedInSaid : Prop := fnExactCommittedInRow.holds Tryz.pinned (OpenSpec.ofChange fnExactCommittedInSpec)

/-- ITS FALSE NEIGHBOUR: 'it returns false'. Refute it at one input. -/
def fnExactCommittedInWrong : ChangeSpec := { name := "fnExactCommittedIn", fn := fun _ => fun
  | [d] => { results := [.lit (.bool false)], args := [d] }
  | _ => none }
def FnExactCommittedInWrongFalsely : Prop := fnExactCommittedInRow.holds Tryz.pinned (OpenSpec.ofChange fnExactCommittedInWrong)

/-- 'laws.FnExactReadWorld': WHATEVER THE INPUT: true; the input reads as it did. -/
def fnExactReadWorldSpec : ChangeSpec := { name := "fnExactReadWorld", fn := fun _ => fun
  | [d1, d2, d3] => { results := [.lit (.bool true)], args := [d1, d2, d3] }
  | _ => none }
def fnExactReadWorldRow : OpenClaim := { program := "ytoanimpijfijgaagreat", sum := "5fb150a9c3dc2a7f7171903ce331bb338c27c5bf86dd318af24d031fc243a805", func := "loop.example/g00357/laws.FnExactReadWorld", spec := "fnExactReadWorld", unfollowed := true, recurses := true, plainKeys := false, apart := false }
def FnExactReadWorldSaid : Prop := fnExactReadWorldRow.holds Tryz.pinned (OpenSpec.ofChange fnExactReadWorldSpec)

/-- ITS FALSE NEIGHBOUR: 'it returns false'. Refute it at one input. -/
def fnExactReadWorldWrong : ChangeSpec := { name := "fnExactReadWorld", fn := fun _ => fun
  | [d1, d2, d3] => { results := [.lit (.bool false)], args := [d1, d2, d3] }
  | _ => none }
def FnExactReadWorldWrongFalsely : Prop := fnExactReadWorldRow.holds Tryz.pinned (OpenSpec.ofChange fnExactReadWorldWrong)

/-- 'laws.FnExactFindWorld': WHATEVER THE INPUT: true; the input reads as it did. -/
def fnExactFindWorldSpec : ChangeSpec := { name := "fnExactFindWorld", fn := fun _ => fun
  | [d1, d2, d3, d4] => { results := [.lit (.bool true)], args := [d1, d2, d3, d4] }
  | _ => none }
def fnExactFindWorldRow : OpenClaim := { program := "ytoanimpijfijgaagreat", sum := "5fb150a9c3dc2a7f7171903ce331bb338c27c5bf86dd318af24d031fc243a805", func := "loop.example/g00357/laws.FnExactFindWorld", spec := "fnExactFindWorld", inPlace := ["slices.overlaps[loop.example/g00357/impl.Hit]"], unfollowed := true, recurses := true, plainKeys := false, apart := false }
def FnExactFindWorldSaid : Prop := fnExactFindWorldRow.holds Tryz.pinned (OpenSpec.ofChange fnExactFindWorldSpec)

/-- ITS FALSE NEIGHBOUR: 'it returns false'. Refute it at one input. -/
def fnExactFindWorldWrong : ChangeSpec := { name := "fnExactFindWorld", fn := fun _ => fun
  | [d1, d2, d3, d4] => { results := [.lit (.bool false)], args := [d1, d2, d3, d4] }
  | _ => none }
def FnExactFindWorldWrongFalsely : Prop := fnExactFindWorldRow.holds Tryz.pinned (OpenSpec.ofChange fnExactFindWorldWrong)

/-- 'laws.FnExactFinishWorld': WHATEVER THE INPUT: true; the input reads as it did. -/
def fnExactFinishWorldSpec : ChangeSpec := { name := "fnExactFinishWorld", fn := fun _ => fun
  | [d1, d2, d3] => { results := [.lit (.bool true)], args := [d1, d2, d3] }
  | _ => none }
def fnExactFinishWorldRow : OpenClaim := { program := "ytoanimpijfijgaagreat", sum := "5fb150a9c3dc2a7f7171903ce331bb338c27c5bf86dd318af24d031fc243a805", func := "loop.example/g00357/laws.FnExactFinishWorld", spec := "fnExactFinishWorld", unfollowed := true, recurses := true, plainKeys := false, apart := false }
def FnExactFinishWorldSaid : Prop := fnExactFinishWorldRow.holds Tryz.pinned (OpenSpec.ofChange fnExactFinishWorldSpec)

/-- ITS FALSE NEIGHBOUR: 'it returns false'. Refute it at one input. -/
def fnExactFinishWorldWrong : ChangeSpec := { name := "fnExactFinishWorld", fn := fun _ => fun
  | [d1, d2, d3] => { results := [.lit (.bool false)], args := [d1, d2, d3] }
  | _ => none }
def FnExactFinishWorldWrongFalsely : Prop := fnExactFinishWorldRow.holds Tryz.pinned (OpenSpec.ofChange fnExactFinishWorldWrong)

/-- 'laws.FnExactStateIn': WHATEVER THE INPUT: true; the input reads as it did. -/
def fnExactStateInSpec : ChangeSpec := { name := "fnExactStateIn", fn := fun _ => fun
  | [d] => { results := [.lit (.bool true)], args := [d] }
  | _ => none }
def fnExactStateInRow : OpenClaim := { program := "ytoanimpijfijgaagreat", sum := "5fb150a9c3dc2a7f7171903ce331bb338c27c5bf86dd318af24d031fc243a805", func := "loop.example/g00357/laws.FnExactStateIn", spec := "fnExactStateIn", unfollowed := true, recurses := true, plainKeys := false, apart := false }
def FnExactStateInSaid : Prop := fnExactStateInRow.holds Tryz.pinned (OpenSpec.ofChange fnExactStateInSpec)

/-- ITS FALSE NEIGHBOUR: 'it returns false'. Refute it at one input. -/
def fnExactStateInWrong : ChangeSpec := { name := "fnExactStateIn", fn := fun _ => fun
  | [d] => { results := [.lit (.bool false)], args := [d] }
  | _ => none }
def FnExactStateInWrongFalsely : Prop := fnExactStateInRow.holds Tryz.pinned (OpenSpec.ofChange fnExactStateInWrong)

/-- 'laws.FnExactMayAnswer': WHATEVER THE INPUT: true; the input reads as it did. -/
def fnExactMayAnswerSpec : ChangeSpec := { name := "fnExactMayAnswer", fn := fun _ => fun
  | [d1, d2] => { results := [.lit (.bool true)], args := [d1, d2] }
  | _ => none }
def fnExactMayAnswerRow : OpenClaim := { program := "ytoanimpijfijgaagreat", sum := "5fb150a9c3dc2a7f7171903ce331bb338c27c5bf86dd318af24d031fc243a805", func := "loop.example/g00357/laws.FnExactMayAnswer", spec := "fnExactMayAnswer", unfollowed := true, recurses := true, plainKeys := false, apart := false }
def FnExactMayAnswerSaid : Prop := fnExactMayAnswerRow.holds Tryz.pinned (OpenSpec.ofChange fnExactMayAnswerSpec)

/-- ITS FALSE NEIGHBOUR: 'it returns false'. Refute it at one input. -/
def fnExactMayAnswerWrong : ChangeSpec := { name := "fnExactMayAnswer", fn := fun _ => fun
  | [d1, d2] => { results := [.lit (.bool false)], args := [d1, d2] }
  | _ => none }
def FnExactMayAnswerWrongFalsely : Prop := fnExactMayAnswerRow.holds Tryz.pinned (OpenSpec.ofChange fnExactMayAnswerWrong)

/- THE SECOND FORM. 'bulk': how many values and letters a reading holds, each counted each time it is reached (what is shared counts as often as it is met; a slice's spare places count too). A statement '..UptoSaid' is the law's where the arguments, and the package variables that the reading takes, are together of bulk at most 1048576: NARROWER than '..Said'. Prove '..Said' where nothing that the law and all that it calls make is longer than what came in: it says more and counts as full. Else prove '..UptoSaid'. A law counts once. -/
mutual
def uptoBulk {H : Type} : DataW H → Nat
  | .lit (.string bytes) => bytes.length + 1
  | .lit _ => 1
  | .nil => 1
  | .ptr d => uptoBulk d + 1
  | .slice elems spare => uptoBulkAll elems + uptoBulkAll spare + 1
  | .agg parts => uptoBulkAll parts + 1
  | .iface _ d => uptoBulk d + 1
  | .map entries => uptoBulkEntries entries + 1
  | .held _ => 1
def uptoBulkAll {H : Type} : List (DataW H) → Nat
  | [] => 0
  | d :: r => uptoBulk d + uptoBulkAll r
def uptoBulkEntries {H : Type} : List (Lit × DataW H) → Nat
  | [] => 0
  | x :: r => uptoBulkEntry x + uptoBulkEntries r
def uptoBulkEntry {H : Type} : Lit × DataW H → Nat
  | (.string bytes, d) => bytes.length + uptoBulk d + 1
  | (_, d) => uptoBulk d + 1
 end
def uptoSmall : (H : Type) → List (DataW H) → Bool := fun _ ds => decide (uptoBulkAll ds ≤ 1048576)
def OpenSpec.upto (s : _root_.Go.ChangeSpec) : _root_.Go.OpenSpec := { _root_.Go.OpenSpec.ofChange s with cond := some uptoSmall }

/-- 'laws.FnExactSendWorld', WHERE WHAT IT READS IS OF BULK AT MOST 1048576: true; the input reads as it did. -/
def fnExactSendWorldUptoRow : OpenClaim := { program := "ytoanimpijfijgaagreat", sum := "5fb150a9c3dc2a7f7171903ce331bb338c27c5bf86dd318af24d031fc243a805", func := "loop.example/g00357/laws.FnExactSendWorld", spec := "fnExactSendWorld", unfollowed := true, recurses := true, plainKeys := false, apart := false, narrowed := true }
def FnExactSendWorldUptoSaid : Prop := fnExactSendWorldUptoRow.holds Tryz.pinned (OpenSpec.upto fnExactSendWorldSpec)

/-- 'laws.FnExactAckWorld', WHERE WHAT IT READS IS OF BULK AT MOST 1048576: true; the input reads as it did. -/
def fnExactAckWorldUptoRow : OpenClaim := { program := "ytoanimpijfijgaagreat", sum := "5fb150a9c3dc2a7f7171903ce331bb338c27c5bf86dd318af24d031fc243a805", func := "loop.example/g00357/laws.FnExactAckWorld", spec := "fnExactAckWorld", unfollowed := true, recurses := true, plainKeys := false, apart := false, narrowed := true }
def FnExactAckWorldUptoSaid : Prop := fnExactAckWorldUptoRow.holds Tryz.pinned (OpenSpec.upto fnExactAckWorldSpec)

/-- 'laws.FnExactTickWorld', WHERE WHAT IT READS IS OF BULK AT MOST 1048576: true; the input reads as it did. -/
def fnExactTickWorldUptoRow : OpenClaim := { program := "ytoanimpijfijgaagreat", sum := "5fb150a9c3dc2a7f7171903ce331bb338c27c5bf86dd318af24d031fc243a805", func := "loop.example/g00357/laws.FnExactTickWorld", spec := "fnExactTickWorld", unfollowed := true, recurses := true, plainKeys := false, apart := false, narrowed := true }
def FnExactTickWorldUptoSaid : Prop := fnExactTickWorldUptoRow.holds Tryz.pinned (OpenSpec.upto fnExactTickWorldSpec)

/-- 'laws.FnExactBeatWorld', WHERE WHAT IT READS IS OF BULK AT MOST 1048576: true; the input reads as it did. -/
def fnExactBeatWorldUptoRow : OpenClaim := { program := "ytoanimpijfijgaagreat", sum := "5fb150a9c3dc2a7f7171903ce331bb338c27c5bf86dd318af24d031fc243a805", func := "loop.example/g00357/laws.FnExactBeatWorld", spec := "fnExactBeatWorld", unfollowed := true, recurses := true, plainKeys := false, apart := false, narrowed := true }
def FnExactBeatWorldUptoSaid : Prop := fnExactBeatWorldUptoRow.holds Tryz.pinned (OpenSpec.upto fnExactBeatWorldSpec)

/-- 'laws.FnExactRemoveWorld', WHERE WHAT IT READS IS OF BULK AT MOST 1048576: true; the input reads as it did. -/
def fnExactRemoveWorldUptoRow : OpenClaim := { program := "ytoanimpijfijgaagreat", sum := "5fb150a9c3dc2a7f7171903ce331bb338c27c5bf86dd318af24d031fc243a805", func := "loop.example/g00357/laws.FnExactRemoveWorld", spec := "fnExactRemoveWorld", unfollowed := true, recurses := true, plainKeys := false, apart := false, narrowed := true }
def FnExactRemoveWorldUptoSaid : Prop := fnExactRemoveWorldUptoRow.holds Tryz.pinned (OpenSpec.upto fnExactRemoveWorldSpec)

/-- 'laws.FnExactJoinWorld', WHERE WHAT IT READS IS OF BULK AT MOST 1048576: true; the input reads as it did. -/
def fnExactJoinWorldUptoRow : OpenClaim := { program := "ytoanimpijfijgaagreat", sum := "5fb150a9c3dc2a7f7171903ce331bb338c27c5bf86dd318af24d031fc243a805", func := "loop.example/g00357/laws.FnExactJoinWorld", spec := "fnExactJoinWorld", unfollowed := true, recurses := true, plainKeys := false, apart := false, narrowed := true }
def FnExactJoinWorldUptoSaid : Prop := fnExactJoinWorldUptoRow.holds Tryz.pinned (OpenSpec.upto fnExactJoinWorldSpec)

/-- 'laws.FnExactCommittedIn', WHERE WHAT IT READS IS OF BULK AT MOST 1048576: true; the input reads as it did. -/
def fnExactCommittedInUptoRow : OpenClaim := { program := "ytoanimpijfijgaagreat", sum := "5fb150a9c3dc2a7f7171903ce331bb338c27c5bf86dd318af24d031fc243a805", func := "loop.example/g00357/laws.FnExactCommittedIn", spec := "fnExactCommittedIn", unfollowed := true, recurses := true, plainKeys := false, apart := false, narrowed := true }
def FnExactCommittedInUptoSaid : Prop := fnExactCommittedInUptoRow.holds Tryz.pinned (OpenSpec.upto fnExactCommittedInSpec)

/-- 'laws.FnExactReadWorld', WHERE WHAT IT READS IS OF BULK AT MOST 1048576: true; the input reads as it did. -/
def fnExactReadWorldUptoRow : OpenClaim := { program := "ytoanimpijfijgaagreat", sum := "5fb150a9c3dc2a7f7171903ce331bb338c27c5bf86dd318af24d031fc243a805", func := "loop.example/g00357/laws.FnExactReadWorld", spec := "fnExactReadWorld", unfollowed := true, recurses := true, plainKeys := false, apart := false, narrowed := true }
def FnExactReadWorldUptoSaid : Prop := fnExactReadWorldUptoRow.holds Tryz.pinned (OpenSpec.upto fnExactReadWorldSpec)

/-- 'laws.FnExactFindWorld', WHERE WHAT IT READS IS OF BULK AT MOST 1048576: true; the input reads as it did. -/
def fnExactFindWorldUptoRow : OpenClaim := { program := "ytoanimpijfijgaagreat", sum := "5fb150a9c3dc2a7f7171903ce331bb338c27c5bf86dd318af24d031fc243a805", func := "loop.example/g00357/laws.FnExactFindWorld", spec := "fnExactFindWorld", inPlace := ["slices.overlaps[loop.example/g00357/impl.Hit]"], unfollowed := true, recurses := true, plainKeys := false, apart := false, narrowed := true }
def FnExactFindWorldUptoSaid : Prop := fnExactFindWorldUptoRow.holds Tryz.pinned (OpenSpec.upto fnExactFindWorldSpec)

/-- 'laws.FnExactFinishWorld', WHERE WHAT IT READS IS OF BULK AT MOST 1048576: true; the input reads as it did. -/
def fnExactFinishWorldUptoRow : OpenClaim := { program := "ytoanimpijfijgaagreat", sum := "5fb150a9c3dc2a7f7171903ce331bb338c27c5bf86dd318af24d031fc243a805", func := "loop.example/g00357/laws.FnExactFinishWorld", spec := "fnExactFinishWorld", unfollowed := true, recurses := true, plainKeys := false, apart := false, narrowed := true }
def FnExactFinishWorldUptoSaid : Prop := fnExactFinishWorldUptoRow.holds Tryz.pinned (OpenSpec.upto fnExactFinishWorldSpec)

/-- 'laws.FnExactStateIn', WHERE WHAT IT READS IS OF BULK AT MOST 1048576: true; the input reads as it did. -/
def fnExactStateInUptoRow : OpenClaim := { program := "ytoanimpijfijgaagreat", sum := "5fb150a9c3dc2a7f7171903ce331bb338c27c5bf86dd318af24d031fc243a805", func := "loop.example/g00357/laws.FnExactStateIn", spec := "fnExactStateIn", unfollowed := true, recurses := true, plainKeys := false, apart := false, narrowed := true }
def FnExactStateInUptoSaid : Prop := fnExactStateInUptoRow.holds Tryz.pinned (OpenSpec.upto fnExactStateInSpec)

/-- 'laws.FnExactMayAnswer', WHERE WHAT IT READS IS OF BULK AT MOST 1048576: true; the input reads as it did. -/
def fnExactMayAnswerUptoRow : OpenClaim := { program := "ytoanimpijfijgaagreat", sum := "5fb150a9c3dc2a7f7171903ce331bb338c27c5bf86dd318af24d031fc243a805", func := "loop.example/g00357/laws.FnExactMayAnswer", spec := "fnExactMayAnswer", unfollowed := true, recurses := true, plainKeys := false, apart := false, narrowed := true }
def FnExactMayAnswerUptoSaid : Prop := fnExactMayAnswerUptoRow.holds Tryz.pinned (OpenSpec.upto fnExactMayAnswerSpec)

end Rows
end Go.Proofs.YtoanimpijfijgaaGreat
