/-
  No cell of these rows narrows 'for every input' (looked for: loops, veiled, ifaces, maps, wideKeys, modest, calm, conditions, laid).
  DERIVED. THE GIVEN ROWS OF THIS SEAT. 8 by the template 'for every input the law returns true; each argument reads behind the call as it read before'; 0 by the template 'total and deterministic' (their statements: YtplhhdnmhcnhgaaTotals.lean).
  GIVEN WITH THE SEED: the statements are not yours to turn. If you find one false, say at which input.
  Laid BY PROGRAM, IN A SANDBOX (cutbox-rows.mjs): the forced cells as the released guide's own fill.sh prints them over the translation 78d1d322d05dcd63… (all of the seat's roots in one cut). By AI agents, Wed Nov 11 2026. No macro, syntax, notation, axiom, sorry.
-/
import Derived.Test.YtplhhdnmhcnhgaaChecked
import GoSem.Claim
import GoSem.ClaimJoined
import GoSem.ClaimMapViews
import Derived.JoinedTies
import Derived.KernelRfl
namespace Go.Proofs.Ytplhhdnmhcnhgaa
/- THE CELL 'sum', in the pinned program and in every row, IS THE sha256 OF THE DUMP (.gsa) THAT YtplhhdnmhcnhgaaProg.lean LOADS. Nothing in Lean hashes anything: it is a label: what it is worth is what the hold of that sum in a sandbox is worth. -/
noncomputable def Try.pinned : Pinned := { name := "ytplhhdnmhcnhgaa", sum := "78d1d322d05dcd637b2bd4b10734b75b8fbaa8ce115e6a9aee972789b8734d34", checked := Try.checked }
namespace Rows
def none {H : Type} : Left H := { results := [], args := [] }

/-- 'laws.FnBest': WHATEVER THE INPUT: true; the input reads as it did. -/
def fnBestSpec : ChangeSpec := { name := "fnBest", fn := fun _ => fun
  | [d] => { results := [.lit (.bool true)], args := [d] }
  | _ => none }
def fnBestRow : OpenClaim := { program := "ytplhhdnmhcnhgaa", sum := "78d1d322d05dcd637b2bd4b10734b75b8fbaa8ce115e6a9aee972789b8734d34", func := "loop.example/g00357/laws.FnBest", spec := "fnBest", inPlace := ["slices.overlaps[loop.example/g00357/impl.Hit]"], unfollowed := true, recurses := true, apart := false }
def FnBestSaid : Prop := fnBestRow.holds Try.pinned (OpenSpec.ofChange fnBestSpec)

/-- ITS FALSE NEIGHBOUR: 'it returns false'. Refute it at one input. -/
def fnBestWrong : ChangeSpec := { name := "fnBest", fn := fun _ => fun
  | [d] => { results := [.lit (.bool false)], args := [d] }
  | _ => none }
def FnBestWrongFalsely : Prop := fnBestRow.holds Try.pinned (OpenSpec.ofChange fnBestWrong)

/-- 'laws.FnMerges': WHATEVER THE INPUT: true; the input reads as it did. -/
def fnMergesSpec : ChangeSpec := { name := "fnMerges", fn := fun _ => fun
  | [d] => { results := [.lit (.bool true)], args := [d] }
  | _ => none }
def fnMergesRow : OpenClaim := { program := "ytplhhdnmhcnhgaa", sum := "78d1d322d05dcd637b2bd4b10734b75b8fbaa8ce115e6a9aee972789b8734d34", func := "loop.example/g00357/laws.FnMerges", spec := "fnMerges", inPlace := ["slices.overlaps[loop.example/g00357/impl.Hit]"], unfollowed := true, recurses := true, apart := false }
def FnMergesSaid : Prop := fnMergesRow.holds Try.pinned (OpenSpec.ofChange fnMergesSpec)

/-- ITS FALSE NEIGHBOUR: 'it returns false'. Refute it at one input. -/
def fnMergesWrong : ChangeSpec := { name := "fnMerges", fn := fun _ => fun
  | [d] => { results := [.lit (.bool false)], args := [d] }
  | _ => none }
def FnMergesWrongFalsely : Prop := fnMergesRow.holds Try.pinned (OpenSpec.ofChange fnMergesWrong)

/-- 'laws.FnExactHitsFault': WHATEVER THE INPUT: true; the input reads as it did. -/
def fnExactHitsFaultSpec : ChangeSpec := { name := "fnExactHitsFault", fn := fun _ => fun
  | [d] => { results := [.lit (.bool true)], args := [d] }
  | _ => none }
def fnExactHitsFaultRow : OpenClaim := { program := "ytplhhdnmhcnhgaa", sum := "78d1d322d05dcd637b2bd4b10734b75b8fbaa8ce115e6a9aee972789b8734d34", func := "loop.example/g00357/laws.FnExactHitsFault", spec := "fnExactHitsFault", apart := false }
def FnExactHitsFaultSaid : Prop := fnExactHitsFaultRow.holds Try.pinned (OpenSpec.ofChange fnExactHitsFaultSpec)

/-- ITS FALSE NEIGHBOUR: 'it returns false'. Refute it at one input. -/
def fnExactHitsFaultWrong : ChangeSpec := { name := "fnExactHitsFault", fn := fun _ => fun
  | [d] => { results := [.lit (.bool false)], args := [d] }
  | _ => none }
def FnExactHitsFaultWrongFalsely : Prop := fnExactHitsFaultRow.holds Try.pinned (OpenSpec.ofChange fnExactHitsFaultWrong)

/-- 'laws.FnExactIsBetter': WHATEVER THE INPUT: true; the input reads as it did. -/
def fnExactIsBetterSpec : ChangeSpec := { name := "fnExactIsBetter", fn := fun _ => fun
  | [d1, d2] => { results := [.lit (.bool true)], args := [d1, d2] }
  | _ => none }
def fnExactIsBetterRow : OpenClaim := { program := "ytplhhdnmhcnhgaa", sum := "78d1d322d05dcd637b2bd4b10734b75b8fbaa8ce115e6a9aee972789b8734d34", func := "loop.example/g00357/laws.FnExactIsBetter", spec := "fnExactIsBetter", apart := false }
def FnExactIsBetterSaid : Prop := fnExactIsBetterRow.holds Try.pinned (OpenSpec.ofChange fnExactIsBetterSpec)

/-- ITS FALSE NEIGHBOUR: 'it returns false'. Refute it at one input. -/
def fnExactIsBetterWrong : ChangeSpec := { name := "fnExactIsBetter", fn := fun _ => fun
  | [d1, d2] => { results := [.lit (.bool false)], args := [d1, d2] }
  | _ => none }
def FnExactIsBetterWrongFalsely : Prop := fnExactIsBetterRow.holds Try.pinned (OpenSpec.ofChange fnExactIsBetterWrong)

/-- 'laws.FnExactBestOf': WHATEVER THE INPUT: true; the input reads as it did. -/
def fnExactBestOfSpec : ChangeSpec := { name := "fnExactBestOf", fn := fun _ => fun
  | [d1, d2] => { results := [.lit (.bool true)], args := [d1, d2] }
  | _ => none }
def fnExactBestOfRow : OpenClaim := { program := "ytplhhdnmhcnhgaa", sum := "78d1d322d05dcd637b2bd4b10734b75b8fbaa8ce115e6a9aee972789b8734d34", func := "loop.example/g00357/laws.FnExactBestOf", spec := "fnExactBestOf", inPlace := ["slices.overlaps[loop.example/g00357/impl.Hit]"], unfollowed := true, recurses := true, apart := false }
def FnExactBestOfSaid : Prop := fnExactBestOfRow.holds Try.pinned (OpenSpec.ofChange fnExactBestOfSpec)

/-- ITS FALSE NEIGHBOUR: 'it returns false'. Refute it at one input. -/
def fnExactBestOfWrong : ChangeSpec := { name := "fnExactBestOf", fn := fun _ => fun
  | [d1, d2] => { results := [.lit (.bool false)], args := [d1, d2] }
  | _ => none }
def FnExactBestOfWrongFalsely : Prop := fnExactBestOfRow.holds Try.pinned (OpenSpec.ofChange fnExactBestOfWrong)

/-- 'laws.FnExactAddHit': WHATEVER THE INPUT: true; the input reads as it did. -/
def fnExactAddHitSpec : ChangeSpec := { name := "fnExactAddHit", fn := fun _ => fun
  | [d1, d2, d3] => { results := [.lit (.bool true)], args := [d1, d2, d3] }
  | _ => none }
def fnExactAddHitRow : OpenClaim := { program := "ytplhhdnmhcnhgaa", sum := "78d1d322d05dcd637b2bd4b10734b75b8fbaa8ce115e6a9aee972789b8734d34", func := "loop.example/g00357/laws.FnExactAddHit", spec := "fnExactAddHit", inPlace := ["slices.overlaps[loop.example/g00357/impl.Hit]"], unfollowed := true, recurses := true, apart := false }
def FnExactAddHitSaid : Prop := fnExactAddHitRow.holds Try.pinned (OpenSpec.ofChange fnExactAddHitSpec)

/-- ITS FALSE NEIGHBOUR: 'it returns false'. Refute it at one input. -/
def fnExactAddHitWrong : ChangeSpec := { name := "fnExactAddHit", fn := fun _ => fun
  | [d1, d2, d3] => { results := [.lit (.bool false)], args := [d1, d2, d3] }
  | _ => none }
def FnExactAddHitWrongFalsely : Prop := fnExactAddHitRow.holds Try.pinned (OpenSpec.ofChange fnExactAddHitWrong)

/-- 'laws.FnExactMergeHits': WHATEVER THE INPUT: true; the input reads as it did. -/
def fnExactMergeHitsSpec : ChangeSpec := { name := "fnExactMergeHits", fn := fun _ => fun
  | [d1, d2, d3] => { results := [.lit (.bool true)], args := [d1, d2, d3] }
  | _ => none }
def fnExactMergeHitsRow : OpenClaim := { program := "ytplhhdnmhcnhgaa", sum := "78d1d322d05dcd637b2bd4b10734b75b8fbaa8ce115e6a9aee972789b8734d34", func := "loop.example/g00357/laws.FnExactMergeHits", spec := "fnExactMergeHits", inPlace := ["slices.overlaps[loop.example/g00357/impl.Hit]"], unfollowed := true, recurses := true, apart := false }
def FnExactMergeHitsSaid : Prop := fnExactMergeHitsRow.holds Try.pinned (OpenSpec.ofChange fnExactMergeHitsSpec)

/-- ITS FALSE NEIGHBOUR: 'it returns false'. Refute it at one input. -/
def fnExactMergeHitsWrong : ChangeSpec := { name := "fnExactMergeHits", fn := fun _ => fun
  | [d1, d2, d3] => { results := [.lit (.bool false)], args := [d1, d2, d3] }
  | _ => none }
def FnExactMergeHitsWrongFalsely : Prop := fnExactMergeHitsRow.holds Try.pinned (OpenSpec.ofChange fnExactMergeHitsWrong)

/-- 'laws.FnExactRankOf': WHATEVER THE INPUT: true; the input reads as it did. -/
def fnExactRankOfSpec : ChangeSpec := { name := "fnExactRankOf", fn := fun _ => fun
  | [d1, d2] => { results := [.lit (.bool true)], args := [d1, d2] }
  | _ => none }
def fnExactRankOfRow : OpenClaim := { program := "ytplhhdnmhcnhgaa", sum := "78d1d322d05dcd637b2bd4b10734b75b8fbaa8ce115e6a9aee972789b8734d34", func := "loop.example/g00357/laws.FnExactRankOf", spec := "fnExactRankOf", apart := false }
def FnExactRankOfSaid : Prop := fnExactRankOfRow.holds Try.pinned (OpenSpec.ofChange fnExactRankOfSpec)

/-- ITS FALSE NEIGHBOUR: 'it returns false'. Refute it at one input. -/
def fnExactRankOfWrong : ChangeSpec := { name := "fnExactRankOf", fn := fun _ => fun
  | [d1, d2] => { results := [.lit (.bool false)], args := [d1, d2] }
  | _ => none }
def FnExactRankOfWrongFalsely : Prop := fnExactRankOfRow.holds Try.pinned (OpenSpec.ofChange fnExactRankOfWrong)

/- THE SECOND FORM. 'bulk': how many values and letters a reading holds, each counted each time it is reached (what is shared counts as often as it is met; a slice's spare places count too). A statement '..UptoSaid' is the law's where the arguments, and the package variables that the reading takes, are together of bulk at most 1048576: NARROWER than '..Said'. Prove '..Said' where nothing that the law and all that it calls make is longer than what came in: it says more and counts as full. Else prove '..UptoSaid'. A law counts once. -/
mutual
def uptoBulk {H : Type} : DataW H → Nat
  | .lit (.string bytes) => bytes.length + 1
  | .lit _ => 1
  | .nil => 1
  | .ptr d => uptoBulk d + 1
  | .slice elems spare => uptoBulkAll elems + uptoBulkAll spare + 1
  | .agg parts => uptoBulkAll parts + 1
  | .iface _ d => uptoBulk d + 1
  | .map entries => uptoBulkEntries entries + 1
  | .held _ => 1
def uptoBulkAll {H : Type} : List (DataW H) → Nat
  | [] => 0
  | d :: r => uptoBulk d + uptoBulkAll r
def uptoBulkEntries {H : Type} : List (Lit × DataW H) → Nat
  | [] => 0
  | x :: r => uptoBulkEntry x + uptoBulkEntries r
def uptoBulkEntry {H : Type} : Lit × DataW H → Nat
  | (.string bytes, d) => bytes.length + uptoBulk d + 1
  | (_, d) => uptoBulk d + 1
 end
def uptoSmall : (H : Type) → List (DataW H) → Bool := fun _ ds => decide (uptoBulkAll ds ≤ 1048576)
def OpenSpec.upto (s : _root_.Go.ChangeSpec) : _root_.Go.OpenSpec := { _root_.Go.OpenSpec.ofChange s with cond := some uptoSmall }

/-- 'laws.FnBest', WHERE WHAT IT READS IS OF BULK AT MOST 1048576: true; the input reads as it did. -/
def fnBestUptoRow : OpenClaim := { program := "ytplhhdnmhcnhgaa", sum := "78d1d322d05dcd637b2bd4b10734b75b8fbaa8ce115e6a9aee972789b8734d34", func := "loop.example/g00357/laws.FnBest", spec := "fnBest", inPlace := ["slices.overlaps[loop.example/g00357/impl.Hit]"], unfollowed := true, recurses := true, apart := false, narrowed := true }
def FnBestUptoSaid : Prop := fnBestUptoRow.holds Try.pinned (OpenSpec.upto fnBestSpec)

/-- 'laws.FnMerges', WHERE WHAT IT READS IS OF BULK AT MOST 1048576: true; the input reads as it did. -/
def fnMergesUptoRow : OpenClaim := { program := "ytplhhdnmhcnhgaa", sum := "78d1d322d05dcd637b2bd4b10734b75b8fbaa8ce115e6a9aee972789b8734d34", func := "loop.example/g00357/laws.FnMerges", spec := "fnMerges", inPlace := ["slices.overlaps[loop.example/g00357/impl.Hit]"], unfollowed := true, recurses := true, apart := false, narrowed := true }
def FnMergesUptoSaid : Prop := fnMergesUptoRow.holds Try.pinned (OpenSpec.upto fnMergesSpec)

/-- 'laws.FnExactHitsFault', WHERE WHAT IT READS IS OF BULK AT MOST 1048576: true; the input reads as it did. -/
def fnExactHitsFaultUptoRow : OpenClaim := { program := "ytplhhdnmhcnhgaa", sum := "78d1d322d05dcd637b2bd4b10734b75b8fbaa8ce115e6a9aee972789b8734d34", func := "loop.example/g00357/laws.FnExactHitsFault", spec := "fnExactHitsFault", apart := false, narrowed := true }
def FnExactHitsFaultUptoSaid : Prop := fnExactHitsFaultUptoRow.holds Try.pinned (OpenSpec.upto fnExactHitsFaultSpec)

/-- 'laws.FnExactIsBetter', WHERE WHAT IT READS IS OF BULK AT MOST 1048576: true; the input reads as it did. -/
def fnExactIsBetterUptoRow : OpenClaim := { program := "ytplhhdnmhcnhgaa", sum := "78d1d322d05dcd637b2bd4b10734b75b8fbaa8ce115e6a9aee972789b8734d34", func := "loop.example/g00357/laws.FnExactIsBetter", spec := "fnExactIsBetter", apart := false, narrowed := true }
def FnExactIsBetterUptoSaid : Prop := fnExactIsBetterUptoRow.holds Try.pinned (OpenSpec.upto fnExactIsBetterSpec)

/-- 'laws.FnExactBestOf', WHERE WHAT IT READS IS OF BULK AT MOST 1048576: true; the input reads as it did. -/
def fnExactBestOfUptoRow : OpenClaim := { program := "ytplhhdnmhcnhgaa", sum := "78d1d322d05dcd637b2bd4b10734b75b8fbaa8ce115e6a9aee972789b8734d34", func := "loop.example/g00357/laws.FnExactBestOf", spec := "fnExactBestOf", inPlace := ["slices.overlaps[loop.example/g00357/impl.Hit]"], unfollowed := true, recurses := true, apart := false, narrowed := true }
def FnExactBestOfUptoSaid : Prop := fnExactBestOfUptoRow.holds Try.pinned (OpenSpec.upto fnExactBestOfSpec)

/-- 'laws.FnExactAddHit', WHERE WHAT IT READS IS OF BULK AT MOST 1048576: true; the input reads as it did. -/
def fnExactAddHitUptoRow : OpenClaim := { program := "ytplhhdnmhcnhgaa", sum := "78d1d322d05dcd637b2bd4b10734b75b8fbaa8ce115e6a9aee972789b8734d34", func := "loop.example/g00357/laws.FnExactAddHit", spec := "fnExactAddHit", inPlace := ["slices.overlaps[loop.example/g00357/impl.Hit]"], unfollowed := true, recurses := true, apart := false, narrowed := true }
def FnExactAddHitUptoSaid : Prop := fnExactAddHitUptoRow.holds Try.pinned (OpenSpec.upto fnExactAddHitSpec)

/-- 'laws.FnExactMergeHits', WHERE WHAT IT READS IS OF BULK AT MOST 1048576: true; the input reads as it did. -/
def fnExactMergeHitsUptoRow : OpenClaim := { program := "ytplhhdnmhcnhgaa", sum := "78d1d322d05dcd637b2bd4b10734b75b8fbaa8ce115e6a9aee972789b8734d34", func := "loop.example/g00357/laws.FnExactMergeHits", spec := "fnExactMergeHits", inPlace := ["slices.overlaps[loop.example/g00357/impl.Hit]"], unfollowed := true, recurses := true, apart := false, narrowed := true }
def FnExactMergeHitsUptoSaid : Prop := fnExactMergeHitsUptoRow.holds Try.pinned (OpenSpec.upto fnExactMergeHitsSpec)

/-- 'laws.FnExactRankOf', WHERE WHAT IT READS IS OF BULK AT MOST 1048576: true; the input reads as it did. -/
def fnExactRankOfUptoRow : OpenClaim := { program := "ytplhhdnmhcnhgaa", sum := "78d1d322d05dcd637b2bd4b10734b75b8fbaa8ce115e6a9aee972789b8734d34", func := "loop.example/g00357/laws.FnExactRankOf", spec := "fnExactRankOf", apart := false, narrowed := true }
def FnExactRankOfUptoSaid : Prop := fnExactRankOfUptoRow.holds Try.pinned (OpenSpec.upto fnExactRankOfSpec)

end Rows
end Go.Proofs.Ytplhhdnmhcnhgaa
