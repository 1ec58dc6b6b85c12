/-
  No cell of these rows narrows 'for every input' (looked for: loops, veiled, ifaces, maps, wideKeys, modest, calm, conditions, laid).
  DERIVED. THE GIVEN ROWS OF THIS SEAT. 11 by the template 'for every input the law returns true; each argument reads behind the call as it read before'; 0 by the template 'total and deterministic' (their statements: YtdnhmoppineegaaGreatTotals.lean).
  GIVEN WITH THE SEED: the statements are not yours to turn. If you find one false, say at which input.
  Laid BY PROGRAM, IN A SANDBOX (cutbox-rows.mjs): the forced cells as the released guide's own fill.sh prints them over the translation 5a4868c57a367ac3… (all of the seat's roots in one cut). By AI agents, Wed Nov 11 2026. No macro, syntax, notation, axiom, sorry.
-/
import Derived.Test.YtdnhmoppineegaaGreatChecked
import GoSem.Claim
import GoSem.ClaimJoined
import GoSem.ClaimMapViews
import Derived.JoinedTies
import Derived.KernelRfl
namespace Go.Proofs.YtdnhmoppineegaaGreat
/- THE CELL 'sum', in the pinned program and in every row, IS THE sha256 OF THE DUMP (.gsa) THAT YtdnhmoppineegaaGreatProg.lean LOADS. Nothing in Lean hashes anything: it is a label: what it is worth is what the hold of that sum in a sandbox is worth. -/
noncomputable def Tryz.pinned : Pinned := { name := "ytdnhmoppineegaagreat", sum := "5a4868c57a367ac3a9e7613bfaf575b23772ffb60d4dad96cfb71b0fba130905", checked := Tryz.checked }
namespace Rows
def none {H : Type} : Left H := { results := [], args := [] }

/-- 'laws.FnExactSyncWorld': WHATEVER THE INPUT: true; the input reads as it did. -/
def fnExactSyncWorldSpec : ChangeSpec := { name := "fnExactSyncWorld", fn := fun _ => fun
  | [d1, d2] => { results := [.lit (.bool true)], args := [d1, d2] }
  | _ => none }
def fnExactSyncWorldRow : OpenClaim := { program := "ytdnhmoppineegaagreat", sum := "5a4868c57a367ac3a9e7613bfaf575b23772ffb60d4dad96cfb71b0fba130905", func := "loop.example/g00357/laws.FnExactSyncWorld", spec := "fnExactSyncWorld", unfollowed := true, recurses := true, plainKeys := false, apart := false }
def FnExactSyncWorldSaid : Prop := fnExactSyncWorldRow.holds Tryz.pinned (OpenSpec.ofChange fnExactSyncWorldSpec)

/-- ITS FALSE NEIGHBOUR: 'it returns false'. Refute it at one input. -/
def fnExactSyncWorldWrong : ChangeSpec := { name := "fnExactSyncWorld", fn := fun _ => fun
  | [d1, d2] => { results := [.lit (.bool false)], args := [d1, d2] }
  | _ => none }
def FnExactSyncWorldWrongFalsely : Prop := fnExactSyncWorldRow.holds Tryz.pinned (OpenSpec.ofChange fnExactSyncWorldWrong)

/-- 'laws.FnExactCrashWorld': WHATEVER THE INPUT: true; the input reads as it did. -/
def fnExactCrashWorldSpec : ChangeSpec := { name := "fnExactCrashWorld", fn := fun _ => fun
  | [d1, d2, d3] => { results := [.lit (.bool true)], args := [d1, d2, d3] }
  | _ => none }
def fnExactCrashWorldRow : OpenClaim := { program := "ytdnhmoppineegaagreat", sum := "5a4868c57a367ac3a9e7613bfaf575b23772ffb60d4dad96cfb71b0fba130905", func := "loop.example/g00357/laws.FnExactCrashWorld", spec := "fnExactCrashWorld", unfollowed := true, recurses := true, plainKeys := false, apart := false }
def FnExactCrashWorldSaid : Prop := fnExactCrashWorldRow.holds Tryz.pinned (OpenSpec.ofChange fnExactCrashWorldSpec)

/-- ITS FALSE NEIGHBOUR: 'it returns false'. Refute it at one input. -/
def fnExactCrashWorldWrong : ChangeSpec := { name := "fnExactCrashWorld", fn := fun _ => fun
  | [d1, d2, d3] => { results := [.lit (.bool false)], args := [d1, d2, d3] }
  | _ => none }
def FnExactCrashWorldWrongFalsely : Prop := fnExactCrashWorldRow.holds Tryz.pinned (OpenSpec.ofChange fnExactCrashWorldWrong)

/-- 'laws.FnExactStartWorld': WHATEVER THE INPUT: true; the input reads as it did. -/
def fnExactStartWorldSpec : ChangeSpec := { name := "fnExactStartWorld", fn := fun _ => fun
  | [d1, d2] => { results := [.lit (.bool true)], args := [d1, d2] }
  | _ => none }
def fnExactStartWorldRow : OpenClaim := { program := "ytdnhmoppineegaagreat", sum := "5a4868c57a367ac3a9e7613bfaf575b23772ffb60d4dad96cfb71b0fba130905", func := "loop.example/g00357/laws.FnExactStartWorld", spec := "fnExactStartWorld", unfollowed := true, recurses := true, plainKeys := false, apart := false }
def FnExactStartWorldSaid : Prop := fnExactStartWorldRow.holds Tryz.pinned (OpenSpec.ofChange fnExactStartWorldSpec)

/-- ITS FALSE NEIGHBOUR: 'it returns false'. Refute it at one input. -/
def fnExactStartWorldWrong : ChangeSpec := { name := "fnExactStartWorld", fn := fun _ => fun
  | [d1, d2] => { results := [.lit (.bool false)], args := [d1, d2] }
  | _ => none }
def FnExactStartWorldWrongFalsely : Prop := fnExactStartWorldRow.holds Tryz.pinned (OpenSpec.ofChange fnExactStartWorldWrong)

/-- 'laws.FnExactSendWorld': WHATEVER THE INPUT: true; the input reads as it did. -/
def fnExactSendWorldSpec : ChangeSpec := { name := "fnExactSendWorld", fn := fun _ => fun
  | [d1, d2, d3] => { results := [.lit (.bool true)], args := [d1, d2, d3] }
  | _ => none }
def fnExactSendWorldRow : OpenClaim := { program := "ytdnhmoppineegaagreat", sum := "5a4868c57a367ac3a9e7613bfaf575b23772ffb60d4dad96cfb71b0fba130905", func := "loop.example/g00357/laws.FnExactSendWorld", spec := "fnExactSendWorld", unfollowed := true, recurses := true, plainKeys := false, apart := false }
def FnExactSendWorldSaid : Prop := fnExactSendWorldRow.holds Tryz.pinned (OpenSpec.ofChange fnExactSendWorldSpec)

/-- ITS FALSE NEIGHBOUR: 'it returns false'. Refute it at one input. -/
def fnExactSendWorldWrong : ChangeSpec := { name := "fnExactSendWorld", fn := fun _ => fun
  | [d1, d2, d3] => { results := [.lit (.bool false)], args := [d1, d2, d3] }
  | _ => none }
def FnExactSendWorldWrongFalsely : Prop := fnExactSendWorldRow.holds Tryz.pinned (OpenSpec.ofChange fnExactSendWorldWrong)

/-- 'laws.FnExactAckWorld': WHATEVER THE INPUT: true; the input reads as it did. -/
def fnExactAckWorldSpec : ChangeSpec := { name := "fnExactAckWorld", fn := fun _ => fun
  | [d1, d2] => { results := [.lit (.bool true)], args := [d1, d2] }
  | _ => none }
def fnExactAckWorldRow : OpenClaim := { program := "ytdnhmoppineegaagreat", sum := "5a4868c57a367ac3a9e7613bfaf575b23772ffb60d4dad96cfb71b0fba130905", func := "loop.example/g00357/laws.FnExactAckWorld", spec := "fnExactAckWorld", unfollowed := true, recurses := true, plainKeys := false, apart := false }
def FnExactAckWorldSaid : Prop := fnExactAckWorldRow.holds Tryz.pinned (OpenSpec.ofChange fnExactAckWorldSpec)

/-- ITS FALSE NEIGHBOUR: 'it returns false'. Refute it at one input. -/
def fnExactAckWorldWrong : ChangeSpec := { name := "fnExactAckWorld", fn := fun _ => fun
  | [d1, d2] => { results := [.lit (.bool false)], args := [d1, d2] }
  | _ => none }
def FnExactAckWorldWrongFalsely : Prop := fnExactAckWorldRow.holds Tryz.pinned (OpenSpec.ofChange fnExactAckWorldWrong)

/-- 'laws.FnExactTickWorld': WHATEVER THE INPUT: true; the input reads as it did. -/
def fnExactTickWorldSpec : ChangeSpec := { name := "fnExactTickWorld", fn := fun _ => fun
  | [d1, d2] => { results := [.lit (.bool true)], args := [d1, d2] }
  | _ => none }
def fnExactTickWorldRow : OpenClaim := { program := "ytdnhmoppineegaagreat", sum := "5a4868c57a367ac3a9e7613bfaf575b23772ffb60d4dad96cfb71b0fba130905", func := "loop.example/g00357/laws.FnExactTickWorld", spec := "fnExactTickWorld", unfollowed := true, recurses := true, plainKeys := false, apart := false }
def FnExactTickWorldSaid : Prop := fnExactTickWorldRow.holds Tryz.pinned (OpenSpec.ofChange fnExactTickWorldSpec)

/-- ITS FALSE NEIGHBOUR: 'it returns false'. Refute it at one input. -/
def fnExactTickWorldWrong : ChangeSpec := { name := "fnExactTickWorld", fn := fun _ => fun
  | [d1, d2] => { results := [.lit (.bool false)], args := [d1, d2] }
  | _ => none }
def FnExactTickWorldWrongFalsely : Prop := fnExactTickWorldRow.holds Tryz.pinned (OpenSpec.ofChange fnExactTickWorldWrong)

/-- 'laws.FnExactBeatWorld': WHATEVER THE INPUT: true; the input reads as it did. -/
def fnExactBeatWorldSpec : ChangeSpec := { name := "fnExactBeatWorld", fn := fun _ => fun
  | [d1, d2] => { results := [.lit (.bool true)], args := [d1, d2] }
  | _ => none }
def fnExactBeatWorldRow : OpenClaim := { program := "ytdnhmoppineegaagreat", sum := "5a4868c57a367ac3a9e7613bfaf575b23772ffb60d4dad96cfb71b0fba130905", func := "loop.example/g00357/laws.FnExactBeatWorld", spec := "fnExactBeatWorld", unfollowed := true, recurses := true, plainKeys := false, apart := false }
def FnExactBeatWorldSaid : Prop := fnExactBeatWorldRow.holds Tryz.pinned (OpenSpec.ofChange fnExactBeatWorldSpec)

/-- ITS FALSE NEIGHBOUR: 'it returns false'. Refute it at one input. -/
def fnExactBeatWorldWrong : ChangeSpec := { name := "fnExactBeatWorld", fn := fun _ => fun
  | [d1, d2] => { results := [.lit (.bool false)], args := [d1, d2] }
  | _ => none }
def FnExactBeatWorldWrongFalsely : Prop := fnExactBeatWorldRow.holds Tryz.pinned (OpenSpec.ofChange fnExactBeatWorldWrong)

/-- 'laws.FnExactRemoveWorld': WHATEVER THE INPUT: true; the input reads as it did. -/
def fnExactRemoveWorldSpec : ChangeSpec := { name := "fnExactRemoveWorld", fn := fun _ => fun
  | [d1, d2] => { results := [.lit (.bool true)], args := [d1, d2] }
  | _ => none }
def fnExactRemoveWorldRow : OpenClaim := { program := "ytdnhmoppineegaagreat", sum := "5a4868c57a367ac3a9e7613bfaf575b23772ffb60d4dad96cfb71b0fba130905", func := "loop.example/g00357/laws.FnExactRemoveWorld", spec := "fnExactRemoveWorld", unfollowed := true, recurses := true, plainKeys := false, apart := false }
def FnExactRemoveWorldSaid : Prop := fnExactRemoveWorldRow.holds Tryz.pinned (OpenSpec.ofChange fnExactRemoveWorldSpec)

/-- ITS FALSE NEIGHBOUR: 'it returns false'. Refute it at one input. -/
def fnExactRemoveWorldWrong : ChangeSpec := { name := "fnExactRemoveWorld", fn := fun _ => fun
  | [d1, d2] => { results := [.lit (.bool false)], args := [d1, d2] }
  | _ => none }
def FnExactRemoveWorldWrongFalsely : Prop := fnExactRemoveWorldRow.holds Tryz.pinned (OpenSpec.ofChange fnExactRemoveWorldWrong)

/-- 'laws.FnExactJoinWorld': WHATEVER THE INPUT: true; the input reads as it did. -/
def fnExactJoinWorldSpec : ChangeSpec := { name := "fnExactJoinWorld", fn := fun _ => fun
  | [d1, d2] => { results := [.lit (.bool true)], args := [d1, d2] }
  | _ => none }
def fnExactJoinWorldRow : OpenClaim := { program := "ytdnhmoppineegaagreat", sum := "5a4868c57a367ac3a9e7613bfaf575b23772ffb60d4dad96cfb71b0fba130905", func := "loop.example/g00357/laws.FnExactJoinWorld", spec := "fnExactJoinWorld", unfollowed := true, recurses := true, plainKeys := false, apart := false }
def FnExactJoinWorldSaid : Prop := fnExactJoinWorldRow.holds Tryz.pinned (OpenSpec.ofChange fnExactJoinWorldSpec)

/-- ITS FALSE NEIGHBOUR: 'it returns false'. Refute it at one input. -/
def fnExactJoinWorldWrong : ChangeSpec := { name := "fnExactJoinWorld", fn := fun _ => fun
  | [d1, d2] => { results := [.lit (.bool false)], args := [d1, d2] }
  | _ => none }
def FnExactJoinWorldWrongFalsely : Prop := fnExactJoinWorldRow.holds Tryz.pinned (OpenSpec.ofChange fnExactJoinWorldWrong)

/-- 'laws.FnExactLoseWorld': WHATEVER THE INPUT: true; the input reads as it did. -/
def fnExactLoseWorldSpec : ChangeSpec := { name := "fnExactLoseWorld", fn := fun _ => fun
  | [d1, d2] => { results := [.lit (.bool true)], args := [d1, d2] }
  | _ => none }
def fnExactLoseWorldRow : OpenClaim := { program := "ytdnhmoppineegaagreat", sum := "5a4868c57a367ac3a9e7613bfaf575b23772ffb60d4dad96cfb71b0fba130905", func := "loop.example/g00357/laws.FnExactLoseWorld", spec := "fnExactLoseWorld", unfollowed := true, recurses := true, plainKeys := false, apart := false }
def FnExactLoseWorldSaid : Prop := fnExactLoseWorldRow.holds Tryz.pinned (OpenSpec.ofChange fnExactLoseWorldSpec)

/-- ITS FALSE NEIGHBOUR: 'it returns false'. Refute it at one input. -/
def fnExactLoseWorldWrong : ChangeSpec := { name := "fnExactLoseWorld", fn := fun _ => fun
  | [d1, d2] => { results := [.lit (.bool false)], args := [d1, d2] }
  | _ => none }
def FnExactLoseWorldWrongFalsely : Prop := fnExactLoseWorldRow.holds Tryz.pinned (OpenSpec.ofChange fnExactLoseWorldWrong)

/-- 'laws.FnExactCommittedIn': WHATEVER THE INPUT: true; the input reads as it did. -/
def fnExactCommittedInSpec : ChangeSpec := { name := "fnExactCommittedIn", fn := fun _ => fun
  | [d] => { results := [.lit (.bool true)], args := [d] }
  | _ => none }
def fnExactCommittedInRow : OpenClaim := { program := "ytdnhmoppineegaagreat", sum := "5a4868c57a367ac3a9e7613bfaf575b23772ffb60d4dad96cfb71b0fba130905", func := "loop.example/g00357/laws.FnExactCommittedIn", spec := "fnExactCommittedIn", unfollowed := true, recurses := true, plainKeys := false, apart := false }
def FnExactCommittedInSaid : Prop := fnExactCommittedInRow.holds Tryz.pinned (OpenSpec.ofChange fnExactCommittedInSpec)

/-- ITS FALSE NEIGHBOUR: 'it returns false'. Refute it at one input. -/
def fnExactCommittedInWrong : ChangeSpec := { name := "fnExactCommittedIn", fn := fun _ => fun
  | [d] => { results := [.lit (.bool false)], args := [d] }
  | _ => none }
def FnExactCommittedInWrongFalsely : Prop := fnExactCommittedInRow.holds Tryz.pinned (OpenSpec.ofChange fnExactCommittedInWrong)

/- THE SECOND FORM. 'bulk': how many values and letters a reading holds, each counted each time it is reached (what is shared counts as often as it is met; a slice's spare places count too). A statement '..UptoSaid' is the law's where the arguments, and the package variables that the reading takes, are together of bulk at most 1048576: NARROWER than '..Said'. Prove '..Said' where nothing that the law and all that it calls make is longer than what came in: it says more and counts as full. Else prove '..UptoSaid'. A law counts once. -/
mutual
def uptoBulk {H : Type} : DataW H → Nat
  | .lit (.string bytes) => bytes.length + 1
  | .lit _ => 1
  | .nil => 1
  | .ptr d => uptoBulk d + 1
  | .slice elems spare => uptoBulkAll elems + uptoBulkAll spare + 1
  | .agg parts => uptoBulkAll parts + 1
  | .iface _ d => uptoBulk d + 1
  | .map entries => uptoBulkEntries entries + 1
  | .held _ => 1
def uptoBulkAll {H : Type} : List (DataW H) → Nat
  | [] => 0
  | d :: r => uptoBulk d + uptoBulkAll r
def uptoBulkEntries {H : Type} : List (Lit × DataW H) → Nat
  | [] => 0
  | x :: r => uptoBulkEntry x + uptoBulkEntries r
def uptoBulkEntry {H : Type} : Lit × DataW H → Nat
  | (.string bytes, d) => bytes.length + uptoBulk d + 1
  | (_, d) => uptoBulk d + 1
 end
def uptoSmall : (H : Type) → List (DataW H) → Bool := fun _ ds => decide (uptoBulkAll ds ≤ 1048576)
def OpenSpec.upto (s : _root_.Go.ChangeSpec) : _root_.Go.OpenSpec := { _root_.Go.OpenSpec.ofChange s with cond := some uptoSmall }

/-- 'laws.FnExactSyncWorld', WHERE WHAT IT READS IS OF BULK AT MOST 1048576: true; the input reads as it did. -/
def fnExactSyncWorldUptoRow : OpenClaim := { program := "ytdnhmoppineegaagreat", sum := "5a4868c57a367ac3a9e7613bfaf575b23772ffb60d4dad96cfb71b0fba130905", func := "loop.example/g00357/laws.FnExactSyncWorld", spec := "fnExactSyncWorld", unfollowed := true, recurses := true, plainKeys := false, apart := false, narrowed := true }
def FnExactSyncWorldUptoSaid : Prop := fnExactSyncWorldUptoRow.holds Tryz.pinned (OpenSpec.upto fnExactSyncWorldSpec)

/-- 'laws.FnExactCrashWorld', WHERE WHAT IT READS IS OF BULK AT MOST 1048576: true; the input reads as it did. -/
def fnExactCrashWorldUptoRow : OpenClaim := { program := "ytdnhmoppineegaagreat", sum := "5a4868c57a367ac3a9e7613bfaf575b23772ffb60d4dad96cfb71b0fba130905", func := "loop.example/g00357/laws.FnExactCrashWorld", spec := "fnExactCrashWorld", unfollowed := true, recurses := true, plainKeys := false, apart := false, narrowed := true }
def FnExactCrashWorldUptoSaid : Prop := fnExactCrashWorldUptoRow.holds Tryz.pinned (OpenSpec.upto fnExactCrashWorldSpec)

/-- 'laws.FnExactStartWorld', WHERE WHAT IT READS IS OF BULK AT MOST 1048576: true; the input reads as it did. -/
def fnExactStartWorldUptoRow : OpenClaim := { program := "ytdnhmoppineegaagreat", sum := "5a4868c57a367ac3a9e7613bfaf575b23772ffb60d4dad96cfb71b0fba130905", func := "loop.example/g00357/laws.FnExactStartWorld", spec := "fnExactStartWorld", unfollowed := true, recurses := true, plainKeys := false, apart := false, narrowed := true }
def FnExactStartWorldUptoSaid : Prop := fnExactStartWorldUptoRow.holds Tryz.pinned (OpenSpec.upto fnExactStartWorldSpec)

/-- 'laws.FnExactSendWorld', WHERE WHAT IT READS IS OF BULK AT MOST 1048576: true; the input reads as it did. -/
def fnExactSendWorldUptoRow : OpenClaim := { program := "ytdnhmoppineegaagreat", sum := "5a4868c57a367ac3a9e7613bfaf575b23772ffb60d4dad96cfb71b0fba130905", func := "loop.example/g00357/laws.FnExactSendWorld", spec := "fnExactSendWorld", unfollowed := true, recurses := true, plainKeys := false, apart := false, narrowed := true }
def FnExactSendWorldUptoSaid : Prop := fnExactSendWorldUptoRow.holds Tryz.pinned (OpenSpec.upto fnExactSendWorldSpec)

/-- 'laws.FnExactAckWorld', WHERE WHAT IT READS IS OF BULK AT MOST 1048576: true; the input reads as it did. -/
def fnExactAckWorldUptoRow : OpenClaim := { program := "ytdnhmoppineegaagreat", sum := "5a4868c57a367ac3a9e7613bfaf575b23772ffb60d4dad96cfb71b0fba130905", func := "loop.example/g00357/laws.FnExactAckWorld", spec := "fnExactAckWorld", unfollowed := true, recurses := true, plainKeys := false, apart := false, narrowed := true }
def FnExactAckWorldUptoSaid : Prop := fnExactAckWorldUptoRow.holds Tryz.pinned (OpenSpec.upto fnExactAckWorldSpec)

/-- 'laws.FnExactTickWorld', WHERE WHAT IT READS IS OF BULK AT MOST 1048576: true; the input reads as it did. -/
def fnExactTickWorldUptoRow : OpenClaim := { program := "ytdnhmoppineegaagreat", sum := "5a4868c57a367ac3a9e7613bfaf575b23772ffb60d4dad96cfb71b0fba130905", func := "loop.example/g00357/laws.FnExactTickWorld", spec := "fnExactTickWorld", unfollowed := true, recurses := true, plainKeys := false, apart := false, narrowed := true }
def FnExactTickWorldUptoSaid : Prop := fnExactTickWorldUptoRow.holds Tryz.pinned (OpenSpec.upto fnExactTickWorldSpec)

/-- 'laws.FnExactBeatWorld', WHERE WHAT IT READS IS OF BULK AT MOST 1048576: true; the input reads as it did. -/
def fnExactBeatWorldUptoRow : OpenClaim := { program := "ytdnhmoppineegaagreat", sum := "5a4868c57a367ac3a9e7613bfaf575b23772ffb60d4dad96cfb71b0fba130905", func := "loop.example/g00357/laws.FnExactBeatWorld", spec := "fnExactBeatWorld", unfollowed := true, recurses := true, plainKeys := false, apart := false, narrowed := true }
def FnExactBeatWorldUptoSaid : Prop := fnExactBeatWorldUptoRow.holds Tryz.pinned (OpenSpec.upto fnExactBeatWorldSpec)

/-- 'laws.FnExactRemoveWorld', WHERE WHAT IT READS IS OF BULK AT MOST 1048576: true; the input reads as it did. -/
def fnExactRemoveWorldUptoRow : OpenClaim := { program := "ytdnhmoppineegaagreat", sum := "5a4868c57a367ac3a9e7613bfaf575b23772ffb60d4dad96cfb71b0fba130905", func := "loop.example/g00357/laws.FnExactRemoveWorld", spec := "fnExactRemoveWorld", unfollowed := true, recurses := true, plainKeys := false, apart := false, narrowed := true }
def FnExactRemoveWorldUptoSaid : Prop := fnExactRemoveWorldUptoRow.holds Tryz.pinned (OpenSpec.upto fnExactRemoveWorldSpec)

/-- 'laws.FnExactJoinWorld', WHERE WHAT IT READS IS OF BULK AT MOST 1048576: true; the input reads as it did. -/
def fnExactJoinWorldUptoRow : OpenClaim := { program := "ytdnhmoppineegaagreat", sum := "5a4868c57a367ac3a9e7613bfaf575b23772ffb60d4dad96cfb71b0fba130905", func := "loop.example/g00357/laws.FnExactJoinWorld", spec := "fnExactJoinWorld", unfollowed := true, recurses := true, plainKeys := false, apart := false, narrowed := true }
def FnExactJoinWorldUptoSaid : Prop := fnExactJoinWorldUptoRow.holds Tryz.pinned (OpenSpec.upto fnExactJoinWorldSpec)

/-- 'laws.FnExactLoseWorld', WHERE WHAT IT READS IS OF BULK AT MOST 1048576: true; the input reads as it did. -/
def fnExactLoseWorldUptoRow : OpenClaim := { program := "ytdnhmoppineegaagreat", sum := "5a4868c57a367ac3a9e7613bfaf575b23772ffb60d4dad96cfb71b0fba130905", func := "loop.example/g00357/laws.FnExactLoseWorld", spec := "fnExactLoseWorld", unfollowed := true, recurses := true, plainKeys := false, apart := false, narrowed := true }
def FnExactLoseWorldUptoSaid : Prop := fnExactLoseWorldUptoRow.holds Tryz.pinned (OpenSpec.upto fnExactLoseWorldSpec)

/-- 'laws.FnExactCommittedIn', WHERE WHAT IT READS IS OF BULK AT MOST 1048576: true; the input reads as it did. -/
def fnExactCommittedInUptoRow : OpenClaim := { program := "ytdnhmoppineegaagreat", sum := "5a4868c57a367ac3a9e7613bfaf575b23772ffb60d4dad96cfb71b0fba130905", func := "loop.example/g00357/laws.FnExactCommittedIn", spec := "fnExactCommittedIn", unfollowed := true, recurses := true, plainKeys := false, apart := false, narrowed := true }
def FnExactCommittedInUptoSaid : Prop := fnExactCommittedInUptoRow.holds Tryz.pinned (OpenSpec.upto fnExactCommittedInSpec)

end Rows
end Go.Proofs.YtdnhmoppineegaaGreat
