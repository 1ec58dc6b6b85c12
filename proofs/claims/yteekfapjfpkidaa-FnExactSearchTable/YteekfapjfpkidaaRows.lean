/-
  No cell of these rows narrows 'for every input' (looked for: loops, veiled, ifaces, maps, wideKeys, modest, calm, conditions, laid).
  DERIVED. THE GIVEN ROWS OF THIS SEAT. 6 by the template 'for every input the law returns true; each argument reads behind the call as it read before'; 0 by the template 'total and deterministic' (their statements: YteekfapjfpkidaaTotals.lean).
  GIVEN WITH THE SEED: the statements are not yours to turn. If you find one false, say at which input.
  Laid BY PROGRAM, IN A SANDBOX (cutbox-rows.mjs): the forced cells as the released guide's own fill.sh prints them over the translation 605055e287cc149f… (all of the seat's roots in one cut). By AI agents, Wed Nov 11 2026. No macro, syntax, notation, axiom, sorry.
-/
import Derived.Test.YteekfapjfpkidaaChecked
import GoSem.Claim
import GoSem.ClaimJoined
import GoSem.ClaimMapViews
import Derived.JoinedTies
import Derived.KernelRfl
namespace Go.Proofs.Yteekfapjfpkidaa
/- THE CELL 'sum', in the pinned program and in every row, IS THE sha256 OF THE DUMP (.gsa) THAT YteekfapjfpkidaaProg.lean LOADS. Nothing in Lean hashes anything: it is a label: what it is worth is what the hold of that sum in a sandbox is worth. -/
noncomputable def Try.pinned : Pinned := { name := "yteekfapjfpkidaa", sum := "605055e287cc149f008a76d921c8b7255c111e0da3921e671dc96d687a77f971", checked := Try.checked }
namespace Rows
def none {H : Type} : Left H := { results := [], args := [] }

/-- 'laws.FnExactTableFault': WHATEVER THE INPUT: true; the input reads as it did. -/
def fnExactTableFaultSpec : ChangeSpec := { name := "fnExactTableFault", fn := fun _ => fun
  | [d] => { results := [.lit (.bool true)], args := [d] }
  | _ => none }
def fnExactTableFaultRow : OpenClaim := { program := "yteekfapjfpkidaa", sum := "605055e287cc149f008a76d921c8b7255c111e0da3921e671dc96d687a77f971", func := "loop.example/g00357/laws.FnExactTableFault", spec := "fnExactTableFault", apart := false }
def FnExactTableFaultSaid : Prop := fnExactTableFaultRow.holds Try.pinned (OpenSpec.ofChange fnExactTableFaultSpec)

/-- ITS FALSE NEIGHBOUR: 'it returns false'. Refute it at one input. -/
def fnExactTableFaultWrong : ChangeSpec := { name := "fnExactTableFault", fn := fun _ => fun
  | [d] => { results := [.lit (.bool false)], args := [d] }
  | _ => none }
def FnExactTableFaultWrongFalsely : Prop := fnExactTableFaultRow.holds Try.pinned (OpenSpec.ofChange fnExactTableFaultWrong)

/-- 'laws.FnExactSameTables': WHATEVER THE INPUT: true; the input reads as it did. -/
def fnExactSameTablesSpec : ChangeSpec := { name := "fnExactSameTables", fn := fun _ => fun
  | [d1, d2] => { results := [.lit (.bool true)], args := [d1, d2] }
  | _ => none }
def fnExactSameTablesRow : OpenClaim := { program := "yteekfapjfpkidaa", sum := "605055e287cc149f008a76d921c8b7255c111e0da3921e671dc96d687a77f971", func := "loop.example/g00357/laws.FnExactSameTables", spec := "fnExactSameTables", unfollowed := true, recurses := true, apart := false }
def FnExactSameTablesSaid : Prop := fnExactSameTablesRow.holds Try.pinned (OpenSpec.ofChange fnExactSameTablesSpec)

/-- ITS FALSE NEIGHBOUR: 'it returns false'. Refute it at one input. -/
def fnExactSameTablesWrong : ChangeSpec := { name := "fnExactSameTables", fn := fun _ => fun
  | [d1, d2] => { results := [.lit (.bool false)], args := [d1, d2] }
  | _ => none }
def FnExactSameTablesWrongFalsely : Prop := fnExactSameTablesRow.holds Try.pinned (OpenSpec.ofChange fnExactSameTablesWrong)

/-- 'laws.FnExactSearchTable': WHATEVER THE INPUT: true; the input reads as it did. -/
def fnExactSearchTableSpec : ChangeSpec := { name := "fnExactSearchTable", fn := fun _ => fun
  | [d1, d2, d3] => { results := [.lit (.bool true)], args := [d1, d2, d3] }
  | _ => none }
def fnExactSearchTableRow : OpenClaim := { program := "yteekfapjfpkidaa", sum := "605055e287cc149f008a76d921c8b7255c111e0da3921e671dc96d687a77f971", func := "loop.example/g00357/laws.FnExactSearchTable", spec := "fnExactSearchTable", inPlace := ["slices.overlaps[loop.example/g00357/impl.Hit]"], unfollowed := true, recurses := true, apart := false }
def FnExactSearchTableSaid : Prop := fnExactSearchTableRow.holds Try.pinned (OpenSpec.ofChange fnExactSearchTableSpec)

/-- ITS FALSE NEIGHBOUR: 'it returns false'. Refute it at one input. -/
def fnExactSearchTableWrong : ChangeSpec := { name := "fnExactSearchTable", fn := fun _ => fun
  | [d1, d2, d3] => { results := [.lit (.bool false)], args := [d1, d2, d3] }
  | _ => none }
def FnExactSearchTableWrongFalsely : Prop := fnExactSearchTableRow.holds Try.pinned (OpenSpec.ofChange fnExactSearchTableWrong)

/-- 'laws.FnExactGetItem': WHATEVER THE INPUT: true; the input reads as it did. -/
def fnExactGetItemSpec : ChangeSpec := { name := "fnExactGetItem", fn := fun _ => fun
  | [d1, d2] => { results := [.lit (.bool true)], args := [d1, d2] }
  | _ => none }
def fnExactGetItemRow : OpenClaim := { program := "yteekfapjfpkidaa", sum := "605055e287cc149f008a76d921c8b7255c111e0da3921e671dc96d687a77f971", func := "loop.example/g00357/laws.FnExactGetItem", spec := "fnExactGetItem", apart := false }
def FnExactGetItemSaid : Prop := fnExactGetItemRow.holds Try.pinned (OpenSpec.ofChange fnExactGetItemSpec)

/-- ITS FALSE NEIGHBOUR: 'it returns false'. Refute it at one input. -/
def fnExactGetItemWrong : ChangeSpec := { name := "fnExactGetItem", fn := fun _ => fun
  | [d1, d2] => { results := [.lit (.bool false)], args := [d1, d2] }
  | _ => none }
def FnExactGetItemWrongFalsely : Prop := fnExactGetItemRow.holds Try.pinned (OpenSpec.ofChange fnExactGetItemWrong)

/-- 'laws.FnExactPutItem': WHATEVER THE INPUT: true; the input reads as it did. -/
def fnExactPutItemSpec : ChangeSpec := { name := "fnExactPutItem", fn := fun _ => fun
  | [d1, d2, d3] => { results := [.lit (.bool true)], args := [d1, d2, d3] }
  | _ => none }
def fnExactPutItemRow : OpenClaim := { program := "yteekfapjfpkidaa", sum := "605055e287cc149f008a76d921c8b7255c111e0da3921e671dc96d687a77f971", func := "loop.example/g00357/laws.FnExactPutItem", spec := "fnExactPutItem", unfollowed := true, recurses := true, apart := false }
def FnExactPutItemSaid : Prop := fnExactPutItemRow.holds Try.pinned (OpenSpec.ofChange fnExactPutItemSpec)

/-- ITS FALSE NEIGHBOUR: 'it returns false'. Refute it at one input. -/
def fnExactPutItemWrong : ChangeSpec := { name := "fnExactPutItem", fn := fun _ => fun
  | [d1, d2, d3] => { results := [.lit (.bool false)], args := [d1, d2, d3] }
  | _ => none }
def FnExactPutItemWrongFalsely : Prop := fnExactPutItemRow.holds Try.pinned (OpenSpec.ofChange fnExactPutItemWrong)

/-- 'laws.FnExactDropItem': WHATEVER THE INPUT: true; the input reads as it did. -/
def fnExactDropItemSpec : ChangeSpec := { name := "fnExactDropItem", fn := fun _ => fun
  | [d1, d2] => { results := [.lit (.bool true)], args := [d1, d2] }
  | _ => none }
def fnExactDropItemRow : OpenClaim := { program := "yteekfapjfpkidaa", sum := "605055e287cc149f008a76d921c8b7255c111e0da3921e671dc96d687a77f971", func := "loop.example/g00357/laws.FnExactDropItem", spec := "fnExactDropItem", unfollowed := true, recurses := true, apart := false }
def FnExactDropItemSaid : Prop := fnExactDropItemRow.holds Try.pinned (OpenSpec.ofChange fnExactDropItemSpec)

/-- ITS FALSE NEIGHBOUR: 'it returns false'. Refute it at one input. -/
def fnExactDropItemWrong : ChangeSpec := { name := "fnExactDropItem", fn := fun _ => fun
  | [d1, d2] => { results := [.lit (.bool false)], args := [d1, d2] }
  | _ => none }
def FnExactDropItemWrongFalsely : Prop := fnExactDropItemRow.holds Try.pinned (OpenSpec.ofChange fnExactDropItemWrong)

/- THE SECOND FORM. 'bulk': how many values and letters a reading holds, each counted each time it is reached (what is shared counts as often as it is met; a slice's spare places count too). A statement '..UptoSaid' is the law's where the arguments, and the package variables that the reading takes, are together of bulk at most 1048576: NARROWER than '..Said'. Prove '..Said' where nothing that the law and all that it calls make is longer than what came in: it says more and counts as full. Else prove '..UptoSaid'. A law counts once. -/
mutual
def uptoBulk {H : Type} : DataW H → Nat
  | .lit (.string bytes) => bytes.length + 1
  | .lit _ => 1
  | .nil => 1
  | .ptr d => uptoBulk d + 1
  | .slice elems spare => uptoBulkAll elems + uptoBulkAll spare + 1
  | .agg parts => uptoBulkAll parts + 1
  | .iface _ d => uptoBulk d + 1
  | .map entries => uptoBulkEntries entries + 1
  | .held _ => 1
def uptoBulkAll {H : Type} : List (DataW H) → Nat
  | [] => 0
  | d :: r => uptoBulk d + uptoBulkAll r
def uptoBulkEntries {H : Type} : List (Lit × DataW H) → Nat
  | [] => 0
  | x :: r => uptoBulkEntry x + uptoBulkEntries r
def uptoBulkEntry {H : Type} : Lit × DataW H → Nat
  | (.string bytes, d) => bytes.length + uptoBulk d + 1
  | (_, d) => uptoBulk d + 1
 end
def uptoSmall : (H : Type) → List (DataW H) → Bool := fun _ ds => decide (uptoBulkAll ds ≤ 1048576)
def OpenSpec.upto (s : _root_.Go.ChangeSpec) : _root_.Go.OpenSpec := { _root_.Go.OpenSpec.ofChange s with cond := some uptoSmall }

/-- 'laws.FnExactTableFault', WHERE WHAT IT READS IS OF BULK AT MOST 1048576: true; the input reads as it did. -/
def fnExactTableFaultUptoRow : OpenClaim := { program := "yteekfapjfpkidaa", sum := "605055e287cc149f008a76d921c8b7255c111e0da3921e671dc96d687a77f971", func := "loop.example/g00357/laws.FnExactTableFault", spec := "fnExactTableFault", apart := false, narrowed := true }
def FnExactTableFaultUptoSaid : Prop := fnExactTableFaultUptoRow.holds Try.pinned (OpenSpec.upto fnExactTableFaultSpec)

/-- 'laws.FnExactSameTables', WHERE WHAT IT READS IS OF BULK AT MOST 1048576: true; the input reads as it did. -/
def fnExactSameTablesUptoRow : OpenClaim := { program := "yteekfapjfpkidaa", sum := "605055e287cc149f008a76d921c8b7255c111e0da3921e671dc96d687a77f971", func := "loop.example/g00357/laws.FnExactSameTables", spec := "fnExactSameTables", unfollowed := true, recurses := true, apart := false, narrowed := true }
def FnExactSameTablesUptoSaid : Prop := fnExactSameTablesUptoRow.holds Try.pinned (OpenSpec.upto fnExactSameTablesSpec)

/-- 'laws.FnExactSearchTable', WHERE WHAT IT READS IS OF BULK AT MOST 1048576: true; the input reads as it did. -/
def fnExactSearchTableUptoRow : OpenClaim := { program := "yteekfapjfpkidaa", sum := "605055e287cc149f008a76d921c8b7255c111e0da3921e671dc96d687a77f971", func := "loop.example/g00357/laws.FnExactSearchTable", spec := "fnExactSearchTable", inPlace := ["slices.overlaps[loop.example/g00357/impl.Hit]"], unfollowed := true, recurses := true, apart := false, narrowed := true }
def FnExactSearchTableUptoSaid : Prop := fnExactSearchTableUptoRow.holds Try.pinned (OpenSpec.upto fnExactSearchTableSpec)

/-- 'laws.FnExactGetItem', WHERE WHAT IT READS IS OF BULK AT MOST 1048576: true; the input reads as it did. -/
def fnExactGetItemUptoRow : OpenClaim := { program := "yteekfapjfpkidaa", sum := "605055e287cc149f008a76d921c8b7255c111e0da3921e671dc96d687a77f971", func := "loop.example/g00357/laws.FnExactGetItem", spec := "fnExactGetItem", apart := false, narrowed := true }
def FnExactGetItemUptoSaid : Prop := fnExactGetItemUptoRow.holds Try.pinned (OpenSpec.upto fnExactGetItemSpec)

/-- 'laws.FnExactPutItem', WHERE WHAT IT READS IS OF BULK AT MOST 1048576: true; the input reads as it did. -/
def fnExactPutItemUptoRow : OpenClaim := { program := "yteekfapjfpkidaa", sum := "605055e287cc149f008a76d921c8b7255c111e0da3921e671dc96d687a77f971", func := "loop.example/g00357/laws.FnExactPutItem", spec := "fnExactPutItem", unfollowed := true, recurses := true, apart := false, narrowed := true }
def FnExactPutItemUptoSaid : Prop := fnExactPutItemUptoRow.holds Try.pinned (OpenSpec.upto fnExactPutItemSpec)

/-- 'laws.FnExactDropItem', WHERE WHAT IT READS IS OF BULK AT MOST 1048576: true; the input reads as it did. -/
def fnExactDropItemUptoRow : OpenClaim := { program := "yteekfapjfpkidaa", sum := "605055e287cc149f008a76d921c8b7255c111e0da3921e671dc96d687a77f971", func := "loop.example/g00357/laws.FnExactDropItem", spec := "fnExactDropItem", unfollowed := true, recurses := true, apart := false, narrowed := true }
def FnExactDropItemUptoSaid : Prop := fnExactDropItemUptoRow.holds Try.pinned (OpenSpec.upto fnExactDropItemSpec)

end Rows
end Go.Proofs.Yteekfapjfpkidaa
