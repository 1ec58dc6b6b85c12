/-
  No cell of these rows narrows 'for every input' (looked for: loops, veiled, ifaces, maps, wideKeys, modest, calm, conditions, laid).
  DERIVED. THE GIVEN ROWS OF THIS SEAT. 8 by the template 'for every input the law returns true; each argument reads behind the call as it read before'; 0 by the template 'total and deterministic' (their statements: YtecagllmonckgaaGreatTotals.lean).
  GIVEN WITH THE SEED: the statements are not yours to turn. If you find one false, say at which input.
  Laid BY PROGRAM, IN A SANDBOX (cutbox-rows.mjs): the forced cells as the released guide's own fill.sh prints them over the translation 4bee616c1954ee72… (all of the seat's roots in one cut). By AI agents, Wed Nov 11 2026. No macro, syntax, notation, axiom, sorry.
-/
import Derived.Test.YtecagllmonckgaaGreatChecked
import GoSem.Claim
import GoSem.ClaimJoined
import GoSem.ClaimMapViews
import Derived.JoinedTies
import Derived.KernelRfl
namespace Go.Proofs.YtecagllmonckgaaGreat
/- THE CELL 'sum', in the pinned program and in every row, IS THE sha256 OF THE DUMP (.gsa) THAT YtecagllmonckgaaGreatProg.lean LOADS. Nothing in Lean hashes anything: it is a label: what it is worth is what the hold of that sum in a sandbox is worth. -/
noncomputable def Tryz.pinned : Pinned := { name := "ytecagllmonckgaagreat", sum := "4bee616c1954ee727fe8b2473f1933f67c46eada2e000eba92ce81cb6f124c63", checked := Tryz.checked }
namespace Rows
def none {H : Type} : Left H := { results := [], args := [] }

/-- 'laws.FnExactReadWorld': WHATEVER THE INPUT: true; the input reads as it did. -/
def fnExactReadWorldSpec : ChangeSpec := { name := "fnExactReadWorld", fn := fun _ => fun
  | [d1, d2, d3] => { results := [.lit (.bool true)], args := [d1, d2, d3] }
  | _ => none }
def fnExactReadWorldRow : OpenClaim := { program := "ytecagllmonckgaagreat", sum := "4bee616c1954ee727fe8b2473f1933f67c46eada2e000eba92ce81cb6f124c63", func := "loop.example/g00357/laws.FnExactReadWorld", spec := "fnExactReadWorld", unfollowed := true, recurses := true, plainKeys := false, apart := false }
def FnExactReadWorldSaid : Prop := fnExactReadWorldRow.holds Tryz.pinned (OpenSpec.ofChange fnExactReadWorldSpec)

/-- ITS FALSE NEIGHBOUR: 'it returns false'. Refute it at one input. -/
def fnExactReadWorldWrong : ChangeSpec := { name := "fnExactReadWorld", fn := fun _ => fun
  | [d1, d2, d3] => { results := [.lit (.bool false)], args := [d1, d2, d3] }
  | _ => none }
def FnExactReadWorldWrongFalsely : Prop := fnExactReadWorldRow.holds Tryz.pinned (OpenSpec.ofChange fnExactReadWorldWrong)

/-- 'laws.FnExactFindWorld': WHATEVER THE INPUT: true; the input reads as it did. -/
def fnExactFindWorldSpec : ChangeSpec := { name := "fnExactFindWorld", fn := fun _ => fun
  | [d1, d2, d3, d4] => { results := [.lit (.bool true)], args := [d1, d2, d3, d4] }
  | _ => none }
def fnExactFindWorldRow : OpenClaim := { program := "ytecagllmonckgaagreat", sum := "4bee616c1954ee727fe8b2473f1933f67c46eada2e000eba92ce81cb6f124c63", func := "loop.example/g00357/laws.FnExactFindWorld", spec := "fnExactFindWorld", inPlace := ["slices.overlaps[loop.example/g00357/impl.Hit]"], unfollowed := true, recurses := true, plainKeys := false, apart := false }
def FnExactFindWorldSaid : Prop := fnExactFindWorldRow.holds Tryz.pinned (OpenSpec.ofChange fnExactFindWorldSpec)

/-- ITS FALSE NEIGHBOUR: 'it returns false'. Refute it at one input. -/
def fnExactFindWorldWrong : ChangeSpec := { name := "fnExactFindWorld", fn := fun _ => fun
  | [d1, d2, d3, d4] => { results := [.lit (.bool false)], args := [d1, d2, d3, d4] }
  | _ => none }
def FnExactFindWorldWrongFalsely : Prop := fnExactFindWorldRow.holds Tryz.pinned (OpenSpec.ofChange fnExactFindWorldWrong)

/-- 'laws.FnExactFinishWorld': WHATEVER THE INPUT: true; the input reads as it did. -/
def fnExactFinishWorldSpec : ChangeSpec := { name := "fnExactFinishWorld", fn := fun _ => fun
  | [d1, d2, d3] => { results := [.lit (.bool true)], args := [d1, d2, d3] }
  | _ => none }
def fnExactFinishWorldRow : OpenClaim := { program := "ytecagllmonckgaagreat", sum := "4bee616c1954ee727fe8b2473f1933f67c46eada2e000eba92ce81cb6f124c63", func := "loop.example/g00357/laws.FnExactFinishWorld", spec := "fnExactFinishWorld", unfollowed := true, recurses := true, plainKeys := false, apart := false }
def FnExactFinishWorldSaid : Prop := fnExactFinishWorldRow.holds Tryz.pinned (OpenSpec.ofChange fnExactFinishWorldSpec)

/-- ITS FALSE NEIGHBOUR: 'it returns false'. Refute it at one input. -/
def fnExactFinishWorldWrong : ChangeSpec := { name := "fnExactFinishWorld", fn := fun _ => fun
  | [d1, d2, d3] => { results := [.lit (.bool false)], args := [d1, d2, d3] }
  | _ => none }
def FnExactFinishWorldWrongFalsely : Prop := fnExactFinishWorldRow.holds Tryz.pinned (OpenSpec.ofChange fnExactFinishWorldWrong)

/-- 'laws.FnExactChainRight': WHATEVER THE INPUT: true; the input reads as it did. -/
def fnExactChainRightSpec : ChangeSpec := { name := "fnExactChainRight", fn := fun _ => fun
  | [d] => { results := [.lit (.bool true)], args := [d] }
  | _ => none }
def fnExactChainRightRow : OpenClaim := { program := "ytecagllmonckgaagreat", sum := "4bee616c1954ee727fe8b2473f1933f67c46eada2e000eba92ce81cb6f124c63", func := "loop.example/g00357/laws.FnExactChainRight", spec := "fnExactChainRight", unfollowed := true, recurses := true, plainKeys := false, apart := false }
def FnExactChainRightSaid : Prop := fnExactChainRightRow.holds Tryz.pinned (OpenSpec.ofChange fnExactChainRightSpec)

/-- ITS FALSE NEIGHBOUR: 'it returns false'. Refute it at one input. -/
def fnExactChainRightWrong : ChangeSpec := { name := "fnExactChainRight", fn := fun _ => fun
  | [d] => { results := [.lit (.bool false)], args := [d] }
  | _ => none }
def FnExactChainRightWrongFalsely : Prop := fnExactChainRightRow.holds Tryz.pinned (OpenSpec.ofChange fnExactChainRightWrong)

/-- 'laws.FnExactLinearRight': WHATEVER THE INPUT: true; the input reads as it did. -/
def fnExactLinearRightSpec : ChangeSpec := { name := "fnExactLinearRight", fn := fun _ => fun
  | [d] => { results := [.lit (.bool true)], args := [d] }
  | _ => none }
def fnExactLinearRightRow : OpenClaim := { program := "ytecagllmonckgaagreat", sum := "4bee616c1954ee727fe8b2473f1933f67c46eada2e000eba92ce81cb6f124c63", func := "loop.example/g00357/laws.FnExactLinearRight", spec := "fnExactLinearRight", inPlace := ["slices.overlaps[loop.example/g00357/impl.Hit]"], unfollowed := true, recurses := true, plainKeys := false, apart := false }
def FnExactLinearRightSaid : Prop := fnExactLinearRightRow.holds Tryz.pinned (OpenSpec.ofChange fnExactLinearRightSpec)

/-- ITS FALSE NEIGHBOUR: 'it returns false'. Refute it at one input. -/
def fnExactLinearRightWrong : ChangeSpec := { name := "fnExactLinearRight", fn := fun _ => fun
  | [d] => { results := [.lit (.bool false)], args := [d] }
  | _ => none }
def FnExactLinearRightWrongFalsely : Prop := fnExactLinearRightRow.holds Tryz.pinned (OpenSpec.ofChange fnExactLinearRightWrong)

/-- 'laws.FnExactKeptRight': WHATEVER THE INPUT: true; the input reads as it did. -/
def fnExactKeptRightSpec : ChangeSpec := { name := "fnExactKeptRight", fn := fun _ => fun
  | [d] => { results := [.lit (.bool true)], args := [d] }
  | _ => none }
def fnExactKeptRightRow : OpenClaim := { program := "ytecagllmonckgaagreat", sum := "4bee616c1954ee727fe8b2473f1933f67c46eada2e000eba92ce81cb6f124c63", func := "loop.example/g00357/laws.FnExactKeptRight", spec := "fnExactKeptRight", unfollowed := true, recurses := true, plainKeys := false, apart := false }
def FnExactKeptRightSaid : Prop := fnExactKeptRightRow.holds Tryz.pinned (OpenSpec.ofChange fnExactKeptRightSpec)

/-- ITS FALSE NEIGHBOUR: 'it returns false'. Refute it at one input. -/
def fnExactKeptRightWrong : ChangeSpec := { name := "fnExactKeptRight", fn := fun _ => fun
  | [d] => { results := [.lit (.bool false)], args := [d] }
  | _ => none }
def FnExactKeptRightWrongFalsely : Prop := fnExactKeptRightRow.holds Tryz.pinned (OpenSpec.ofChange fnExactKeptRightWrong)

/-- 'laws.FnExactOverIn': WHATEVER THE INPUT: true; the input reads as it did. -/
def fnExactOverInSpec : ChangeSpec := { name := "fnExactOverIn", fn := fun _ => fun
  | [d] => { results := [.lit (.bool true)], args := [d] }
  | _ => none }
def fnExactOverInRow : OpenClaim := { program := "ytecagllmonckgaagreat", sum := "4bee616c1954ee727fe8b2473f1933f67c46eada2e000eba92ce81cb6f124c63", func := "loop.example/g00357/laws.FnExactOverIn", spec := "fnExactOverIn", unfollowed := true, recurses := true, plainKeys := false, apart := false }
def FnExactOverInSaid : Prop := fnExactOverInRow.holds Tryz.pinned (OpenSpec.ofChange fnExactOverInSpec)

/-- ITS FALSE NEIGHBOUR: 'it returns false'. Refute it at one input. -/
def fnExactOverInWrong : ChangeSpec := { name := "fnExactOverIn", fn := fun _ => fun
  | [d] => { results := [.lit (.bool false)], args := [d] }
  | _ => none }
def FnExactOverInWrongFalsely : Prop := fnExactOverInRow.holds Tryz.pinned (OpenSpec.ofChange fnExactOverInWrong)

/-- 'laws.FnExactIndexIn': WHATEVER THE INPUT: true; the input reads as it did. -/
def fnExactIndexInSpec : ChangeSpec := { name := "fnExactIndexIn", fn := fun _ => fun
  | [d1, d2, d3] => { results := [.lit (.bool true)], args := [d1, d2, d3] }
  | _ => none }
def fnExactIndexInRow : OpenClaim := { program := "ytecagllmonckgaagreat", sum := "4bee616c1954ee727fe8b2473f1933f67c46eada2e000eba92ce81cb6f124c63", func := "loop.example/g00357/laws.FnExactIndexIn", spec := "fnExactIndexIn", unfollowed := true, recurses := true, plainKeys := false, apart := false }
def FnExactIndexInSaid : Prop := fnExactIndexInRow.holds Tryz.pinned (OpenSpec.ofChange fnExactIndexInSpec)

/-- ITS FALSE NEIGHBOUR: 'it returns false'. Refute it at one input. -/
def fnExactIndexInWrong : ChangeSpec := { name := "fnExactIndexIn", fn := fun _ => fun
  | [d1, d2, d3] => { results := [.lit (.bool false)], args := [d1, d2, d3] }
  | _ => none }
def FnExactIndexInWrongFalsely : Prop := fnExactIndexInRow.holds Tryz.pinned (OpenSpec.ofChange fnExactIndexInWrong)

/- THE SECOND FORM. 'bulk': how many values and letters a reading holds, each counted each time it is reached (what is shared counts as often as it is met; a slice's spare places count too). A statement '..UptoSaid' is the law's where the arguments, and the package variables that the reading takes, are together of bulk at most 1048576: NARROWER than '..Said'. Prove '..Said' where nothing that the law and all that it calls make is longer than what came in: it says more and counts as full. Else prove '..UptoSaid'. A law counts once. -/
mutual
def uptoBulk {H : Type} : DataW H → Nat
  | .lit (.string bytes) => bytes.length + 1
  | .lit _ => 1
  | .nil => 1
  | .ptr d => uptoBulk d + 1
  | .slice elems spare => uptoBulkAll elems + uptoBulkAll spare + 1
  | .agg parts => uptoBulkAll parts + 1
  | .iface _ d => uptoBulk d + 1
  | .map entries => uptoBulkEntries entries + 1
  | .held _ => 1
def uptoBulkAll {H : Type} : List (DataW H) → Nat
  | [] => 0
  | d :: r => uptoBulk d + uptoBulkAll r
def uptoBulkEntries {H : Type} : List (Lit × DataW H) → Nat
  | [] => 0
  | x :: r => uptoBulkEntry x + uptoBulkEntries r
def uptoBulkEntry {H : Type} : Lit × DataW H → Nat
  | (.string bytes, d) => bytes.length + uptoBulk d + 1
  | (_, d) => uptoBulk d + 1
 end
def uptoSmall : (H : Type) → List (DataW H) → Bool := fun _ ds => decide (uptoBulkAll ds ≤ 1048576)
def OpenSpec.upto (s : _root_.Go.ChangeSpec) : _root_.Go.OpenSpec := { _root_.Go.OpenSpec.ofChange s with cond := some uptoSmall }

/-- 'laws.FnExactReadWorld', WHERE WHAT IT READS IS OF BULK AT MOST 1048576: true; the input reads as it did. -/
def fnExactReadWorldUptoRow : OpenClaim := { program := "ytecagllmonckgaagreat", sum := "4bee616c1954ee727fe8b2473f1933f67c46eada2e000eba92ce81cb6f124c63", func := "loop.example/g00357/laws.FnExactReadWorld", spec := "fnExactReadWorld", unfollowed := true, recurses := true, plainKeys := false, apart := false, narrowed := true }
def FnExactReadWorldUptoSaid : Prop := fnExactReadWorldUptoRow.holds Tryz.pinned (OpenSpec.upto fnExactReadWorldSpec)

/-- 'laws.FnExactFindWorld', WHERE WHAT IT READS IS OF BULK AT MOST 1048576: true; the input reads as it did. -/
def fnExactFindWorldUptoRow : OpenClaim := { program := "ytecagllmonckgaagreat", sum := "4bee616c1954ee727fe8b2473f1933f67c46eada2e000eba92ce81cb6f124c63", func := "loop.example/g00357/laws.FnExactFindWorld", spec := "fnExactFindWorld", inPlace := ["slices.overlaps[loop.example/g00357/impl.Hit]"], unfollowed := true, recurses := true, plainKeys := false, apart := false, narrowed := true }
def FnExactFindWorldUptoSaid : Prop := fnExactFindWorldUptoRow.holds Tryz.pinned (OpenSpec.upto fnExactFindWorldSpec)

/-- 'laws.FnExactFinishWorld', WHERE WHAT IT READS IS OF BULK AT MOST 1048576: true; the input reads as it did. -/
def fnExactFinishWorldUptoRow : OpenClaim := { program := "ytecagllmonckgaagreat", sum := "4bee616c1954ee727fe8b2473f1933f67c46eada2e000eba92ce81cb6f124c63", func := "loop.example/g00357/laws.FnExactFinishWorld", spec := "fnExactFinishWorld", unfollowed := true, recurses := true, plainKeys := false, apart := false, narrowed := true }
def FnExactFinishWorldUptoSaid : Prop := fnExactFinishWorldUptoRow.holds Tryz.pinned (OpenSpec.upto fnExactFinishWorldSpec)

/-- 'laws.FnExactChainRight', WHERE WHAT IT READS IS OF BULK AT MOST 1048576: true; the input reads as it did. -/
def fnExactChainRightUptoRow : OpenClaim := { program := "ytecagllmonckgaagreat", sum := "4bee616c1954ee727fe8b2473f1933f67c46eada2e000eba92ce81cb6f124c63", func := "loop.example/g00357/laws.FnExactChainRight", spec := "fnExactChainRight", unfollowed := true, recurses := true, plainKeys := false, apart := false, narrowed := true }
def FnExactChainRightUptoSaid : Prop := fnExactChainRightUptoRow.holds Tryz.pinned (OpenSpec.upto fnExactChainRightSpec)

/-- 'laws.FnExactLinearRight', WHERE WHAT IT READS IS OF BULK AT MOST 1048576: true; the input reads as it did. -/
def fnExactLinearRightUptoRow : OpenClaim := { program := "ytecagllmonckgaagreat", sum := "4bee616c1954ee727fe8b2473f1933f67c46eada2e000eba92ce81cb6f124c63", func := "loop.example/g00357/laws.FnExactLinearRight", spec := "fnExactLinearRight", inPlace := ["slices.overlaps[loop.example/g00357/impl.Hit]"], unfollowed := true, recurses := true, plainKeys := false, apart := false, narrowed := true }
def FnExactLinearRightUptoSaid : Prop := fnExactLinearRightUptoRow.holds Tryz.pinned (OpenSpec.upto fnExactLinearRightSpec)

/-- 'laws.FnExactKeptRight', WHERE WHAT IT READS IS OF BULK AT MOST 1048576: true; the input reads as it did. -/
def fnExactKeptRightUptoRow : OpenClaim := { program := "ytecagllmonckgaagreat", sum := "4bee616c1954ee727fe8b2473f1933f67c46eada2e000eba92ce81cb6f124c63", func := "loop.example/g00357/laws.FnExactKeptRight", spec := "fnExactKeptRight", unfollowed := true, recurses := true, plainKeys := false, apart := false, narrowed := true }
def FnExactKeptRightUptoSaid : Prop := fnExactKeptRightUptoRow.holds Tryz.pinned (OpenSpec.upto fnExactKeptRightSpec)

/-- 'laws.FnExactOverIn', WHERE WHAT IT READS IS OF BULK AT MOST 1048576: true; the input reads as it did. -/
def fnExactOverInUptoRow : OpenClaim := { program := "ytecagllmonckgaagreat", sum := "4bee616c1954ee727fe8b2473f1933f67c46eada2e000eba92ce81cb6f124c63", func := "loop.example/g00357/laws.FnExactOverIn", spec := "fnExactOverIn", unfollowed := true, recurses := true, plainKeys := false, apart := false, narrowed := true }
def FnExactOverInUptoSaid : Prop := fnExactOverInUptoRow.holds Tryz.pinned (OpenSpec.upto fnExactOverInSpec)

/-- 'laws.FnExactIndexIn', WHERE WHAT IT READS IS OF BULK AT MOST 1048576: true; the input reads as it did. -/
def fnExactIndexInUptoRow : OpenClaim := { program := "ytecagllmonckgaagreat", sum := "4bee616c1954ee727fe8b2473f1933f67c46eada2e000eba92ce81cb6f124c63", func := "loop.example/g00357/laws.FnExactIndexIn", spec := "fnExactIndexIn", unfollowed := true, recurses := true, plainKeys := false, apart := false, narrowed := true }
def FnExactIndexInUptoSaid : Prop := fnExactIndexInUptoRow.holds Tryz.pinned (OpenSpec.upto fnExactIndexInSpec)

end Rows
end Go.Proofs.YtecagllmonckgaaGreat
