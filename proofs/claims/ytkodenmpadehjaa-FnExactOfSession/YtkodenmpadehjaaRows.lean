/-
  No cell of these rows narrows 'for every input' (looked for: loops, veiled, ifaces, maps, wideKeys, modest, calm, conditions, laid).
  DERIVED. THE GIVEN ROWS OF THIS SEAT. 4 by the template 'for every input the law returns true; each argument reads behind the call as it read before'; 0 by the template 'total and deterministic' (their statements: YtkodenmpadehjaaTotals.lean).
  GIVEN WITH THE SEED: the statements are not yours to turn. If you find one false, say at which input.
  Laid BY PROGRAM, IN A SANDBOX (cutbox-rows.mjs): the forced cells as the released guide's own fill.sh prints them over the translation 4ee644d18ba525fc… (all of the seat's roots in one cut). By AI agents, Wed Nov 11 2026. No macro, syntax, notation, axiom, sorry.
-/
import Derived.Test.YtkodenmpadehjaaChecked
import GoSem.Claim
import GoSem.ClaimJoined
import GoSem.ClaimMapViews
import Derived.JoinedTies
import Derived.KernelRfl
namespace Go.Proofs.Ytkodenmpadehjaa
/- THE CELL 'sum', in the pinned program and in every row, IS THE sha256 OF THE DUMP (.gsa) THAT YtkodenmpadehjaaProg.lean LOADS. Nothing in Lean hashes anything: it is a label: what it is worth is what the hold of that sum in a sandbox is worth. -/
noncomputable def Try.pinned : Pinned := { name := "ytkodenmpadehjaa", sum := "4ee644d18ba525fcfe1b96ec7f153ed670af4569e1e587b24750a5c3a7d0aa50", checked := Try.checked }
namespace Rows
def none {H : Type} : Left H := { results := [], args := [] }

/-- 'laws.FnExactLastSeq': WHATEVER THE INPUT: true; the input reads as it did. -/
def fnExactLastSeqSpec : ChangeSpec := { name := "fnExactLastSeq", fn := fun _ => fun
  | [d1, d2] => { results := [.lit (.bool true)], args := [d1, d2] }
  | _ => none }
def fnExactLastSeqRow : OpenClaim := { program := "ytkodenmpadehjaa", sum := "4ee644d18ba525fcfe1b96ec7f153ed670af4569e1e587b24750a5c3a7d0aa50", func := "loop.example/g00357/laws.FnExactLastSeq", spec := "fnExactLastSeq", plainKeys := false, apart := false }
def FnExactLastSeqSaid : Prop := fnExactLastSeqRow.holds Try.pinned (OpenSpec.ofChange fnExactLastSeqSpec)

/-- ITS FALSE NEIGHBOUR: 'it returns false'. Refute it at one input. -/
def fnExactLastSeqWrong : ChangeSpec := { name := "fnExactLastSeq", fn := fun _ => fun
  | [d1, d2] => { results := [.lit (.bool false)], args := [d1, d2] }
  | _ => none }
def FnExactLastSeqWrongFalsely : Prop := fnExactLastSeqRow.holds Try.pinned (OpenSpec.ofChange fnExactLastSeqWrong)

/-- 'laws.FnExactSeenAt': WHATEVER THE INPUT: true; the input reads as it did. -/
def fnExactSeenAtSpec : ChangeSpec := { name := "fnExactSeenAt", fn := fun _ => fun
  | [d1, d2, d3] => { results := [.lit (.bool true)], args := [d1, d2, d3] }
  | _ => none }
def fnExactSeenAtRow : OpenClaim := { program := "ytkodenmpadehjaa", sum := "4ee644d18ba525fcfe1b96ec7f153ed670af4569e1e587b24750a5c3a7d0aa50", func := "loop.example/g00357/laws.FnExactSeenAt", spec := "fnExactSeenAt", plainKeys := false, apart := false }
def FnExactSeenAtSaid : Prop := fnExactSeenAtRow.holds Try.pinned (OpenSpec.ofChange fnExactSeenAtSpec)

/-- ITS FALSE NEIGHBOUR: 'it returns false'. Refute it at one input. -/
def fnExactSeenAtWrong : ChangeSpec := { name := "fnExactSeenAt", fn := fun _ => fun
  | [d1, d2, d3] => { results := [.lit (.bool false)], args := [d1, d2, d3] }
  | _ => none }
def FnExactSeenAtWrongFalsely : Prop := fnExactSeenAtRow.holds Try.pinned (OpenSpec.ofChange fnExactSeenAtWrong)

/-- 'laws.FnExactOnceRight': WHATEVER THE INPUT: true; the input reads as it did. -/
def fnExactOnceRightSpec : ChangeSpec := { name := "fnExactOnceRight", fn := fun _ => fun
  | [d] => { results := [.lit (.bool true)], args := [d] }
  | _ => none }
def fnExactOnceRightRow : OpenClaim := { program := "ytkodenmpadehjaa", sum := "4ee644d18ba525fcfe1b96ec7f153ed670af4569e1e587b24750a5c3a7d0aa50", func := "loop.example/g00357/laws.FnExactOnceRight", spec := "fnExactOnceRight", plainKeys := false, apart := false }
def FnExactOnceRightSaid : Prop := fnExactOnceRightRow.holds Try.pinned (OpenSpec.ofChange fnExactOnceRightSpec)

/-- ITS FALSE NEIGHBOUR: 'it returns false'. Refute it at one input. -/
def fnExactOnceRightWrong : ChangeSpec := { name := "fnExactOnceRight", fn := fun _ => fun
  | [d] => { results := [.lit (.bool false)], args := [d] }
  | _ => none }
def FnExactOnceRightWrongFalsely : Prop := fnExactOnceRightRow.holds Try.pinned (OpenSpec.ofChange fnExactOnceRightWrong)

/-- 'laws.FnExactOfSession': WHATEVER THE INPUT: true; the input reads as it did. -/
def fnExactOfSessionSpec : ChangeSpec := { name := "fnExactOfSession", fn := fun _ => fun
  | [d1, d2] => { results := [.lit (.bool true)], args := [d1, d2] }
  | _ => none }
def fnExactOfSessionRow : OpenClaim := { program := "ytkodenmpadehjaa", sum := "4ee644d18ba525fcfe1b96ec7f153ed670af4569e1e587b24750a5c3a7d0aa50", func := "loop.example/g00357/laws.FnExactOfSession", spec := "fnExactOfSession", plainKeys := false, apart := false }
def FnExactOfSessionSaid : Prop := fnExactOfSessionRow.holds Try.pinned (OpenSpec.ofChange fnExactOfSessionSpec)

/-- ITS FALSE NEIGHBOUR: 'it returns false'. Refute it at one input. -/
def fnExactOfSessionWrong : ChangeSpec := { name := "fnExactOfSession", fn := fun _ => fun
  | [d1, d2] => { results := [.lit (.bool false)], args := [d1, d2] }
  | _ => none }
def FnExactOfSessionWrongFalsely : Prop := fnExactOfSessionRow.holds Try.pinned (OpenSpec.ofChange fnExactOfSessionWrong)

/- THE SECOND FORM. 'bulk': how many values and letters a reading holds, each counted each time it is reached (what is shared counts as often as it is met; a slice's spare places count too). A statement '..UptoSaid' is the law's where the arguments, and the package variables that the reading takes, are together of bulk at most 1048576: NARROWER than '..Said'. Prove '..Said' where nothing that the law and all that it calls make is longer than what came in: it says more and counts as full. Else prove '..UptoSaid'. A law counts once. -/
mutual
def uptoBulk {H : Type} : DataW H → Nat
  | .lit (.string bytes) => bytes.length + 1
  | .lit _ => 1
  | .nil => 1
  | .ptr d => uptoBulk d + 1
  | .slice elems spare => uptoBulkAll elems + uptoBulkAll spare + 1
  | .agg parts => uptoBulkAll parts + 1
  | .iface _ d => uptoBulk d + 1
  | .map entries => uptoBulkEntries entries + 1
  | .held _ => 1
def uptoBulkAll {H : Type} : List (DataW H) → Nat
  | [] => 0
  | d :: r => uptoBulk d + uptoBulkAll r
def uptoBulkEntries {H : Type} : List (Lit × DataW H) → Nat
  | [] => 0
  | x :: r => uptoBulkEntry x + uptoBulkEntries r
def uptoBulkEntry {H : Type} : Lit × DataW H → Nat
  | (.string bytes, d) => bytes.length + uptoBulk d + 1
  | (_, d) => uptoBulk d + 1
 end
def uptoSmall : (H : Type) → List (DataW H) → Bool := fun _ ds => decide (uptoBulkAll ds ≤ 1048576)
def OpenSpec.upto (s : _root_.Go.ChangeSpec) : _root_.Go.OpenSpec := { _root_.Go.OpenSpec.ofChange s with cond := some uptoSmall }

/-- 'laws.FnExactLastSeq', WHERE WHAT IT READS IS OF BULK AT MOST 1048576: true; the input reads as it did. -/
def fnExactLastSeqUptoRow : OpenClaim := { program := "ytkodenmpadehjaa", sum := "4ee644d18ba525fcfe1b96ec7f153ed670af4569e1e587b24750a5c3a7d0aa50", func := "loop.example/g00357/laws.FnExactLastSeq", spec := "fnExactLastSeq", plainKeys := false, apart := false, narrowed := true }
def FnExactLastSeqUptoSaid : Prop := fnExactLastSeqUptoRow.holds Try.pinned (OpenSpec.upto fnExactLastSeqSpec)

/-- 'laws.FnExactSeenAt', WHERE WHAT IT READS IS OF BULK AT MOST 1048576: true; the input reads as it did. -/
def fnExactSeenAtUptoRow : OpenClaim := { program := "ytkodenmpadehjaa", sum := "4ee644d18ba525fcfe1b96ec7f153ed670af4569e1e587b24750a5c3a7d0aa50", func := "loop.example/g00357/laws.FnExactSeenAt", spec := "fnExactSeenAt", plainKeys := false, apart := false, narrowed := true }
def FnExactSeenAtUptoSaid : Prop := fnExactSeenAtUptoRow.holds Try.pinned (OpenSpec.upto fnExactSeenAtSpec)

/-- 'laws.FnExactOnceRight', WHERE WHAT IT READS IS OF BULK AT MOST 1048576: true; the input reads as it did. -/
def fnExactOnceRightUptoRow : OpenClaim := { program := "ytkodenmpadehjaa", sum := "4ee644d18ba525fcfe1b96ec7f153ed670af4569e1e587b24750a5c3a7d0aa50", func := "loop.example/g00357/laws.FnExactOnceRight", spec := "fnExactOnceRight", plainKeys := false, apart := false, narrowed := true }
def FnExactOnceRightUptoSaid : Prop := fnExactOnceRightUptoRow.holds Try.pinned (OpenSpec.upto fnExactOnceRightSpec)

/-- 'laws.FnExactOfSession', WHERE WHAT IT READS IS OF BULK AT MOST 1048576: true; the input reads as it did. -/
def fnExactOfSessionUptoRow : OpenClaim := { program := "ytkodenmpadehjaa", sum := "4ee644d18ba525fcfe1b96ec7f153ed670af4569e1e587b24750a5c3a7d0aa50", func := "loop.example/g00357/laws.FnExactOfSession", spec := "fnExactOfSession", plainKeys := false, apart := false, narrowed := true }
def FnExactOfSessionUptoSaid : Prop := fnExactOfSessionUptoRow.holds Try.pinned (OpenSpec.upto fnExactOfSessionSpec)

end Rows
end Go.Proofs.Ytkodenmpadehjaa
