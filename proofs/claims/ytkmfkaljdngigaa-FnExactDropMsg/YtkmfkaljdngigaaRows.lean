/-
  No cell of these rows narrows 'for every input' (looked for: loops, veiled, ifaces, maps, wideKeys, modest, calm, conditions, laid).
  DERIVED. THE GIVEN ROWS OF THIS SEAT. 5 by the template 'for every input the law returns true; each argument reads behind the call as it read before'; 0 by the template 'total and deterministic' (their statements: YtkmfkaljdngigaaTotals.lean).
  GIVEN WITH THE SEED: the statements are not yours to turn. If you find one false, say at which input.
  Laid BY PROGRAM, IN A SANDBOX (cutbox-rows.mjs): the forced cells as the released guide's own fill.sh prints them over the translation 671985fce78a1d00… (all of the seat's roots in one cut). By AI agents, Wed Nov 11 2026. No macro, syntax, notation, axiom, sorry.
-/
import Derived.Test.YtkmfkaljdngigaaChecked
import GoSem.Claim
import GoSem.ClaimJoined
import GoSem.ClaimMapViews
import Derived.JoinedTies
import Derived.KernelRfl
namespace Go.Proofs.Ytkmfkaljdngigaa
/- THE CELL 'sum', in the pinned program and in every row, IS THE sha256 OF THE DUMP (.gsa) THAT YtkmfkaljdngigaaProg.lean LOADS. Nothing in Lean hashes anything: it is a label: what it is worth is what the hold of that sum in a sandbox is worth. -/
noncomputable def Try.pinned : Pinned := { name := "ytkmfkaljdngigaa", sum := "671985fce78a1d00f5cef4a202f9ebfcca41e40097d684d8f808b6ec152edd42", checked := Try.checked }
namespace Rows
def none {H : Type} : Left H := { results := [], args := [] }

/-- 'laws.FnExactMsgFault': WHATEVER THE INPUT: true; the input reads as it did. -/
def fnExactMsgFaultSpec : ChangeSpec := { name := "fnExactMsgFault", fn := fun _ => fun
  | [d] => { results := [.lit (.bool true)], args := [d] }
  | _ => none }
def fnExactMsgFaultRow : OpenClaim := { program := "ytkmfkaljdngigaa", sum := "671985fce78a1d00f5cef4a202f9ebfcca41e40097d684d8f808b6ec152edd42", func := "loop.example/g00357/laws.FnExactMsgFault", spec := "fnExactMsgFault", unfollowed := true, recurses := true, apart := false }
def FnExactMsgFaultSaid : Prop := fnExactMsgFaultRow.holds Try.pinned (OpenSpec.ofChange fnExactMsgFaultSpec)

/-- ITS FALSE NEIGHBOUR: 'it returns false'. Refute it at one input. -/
def fnExactMsgFaultWrong : ChangeSpec := { name := "fnExactMsgFault", fn := fun _ => fun
  | [d] => { results := [.lit (.bool false)], args := [d] }
  | _ => none }
def FnExactMsgFaultWrongFalsely : Prop := fnExactMsgFaultRow.holds Try.pinned (OpenSpec.ofChange fnExactMsgFaultWrong)

/-- 'laws.FnExactNetFault': WHATEVER THE INPUT: true; the input reads as it did. -/
def fnExactNetFaultSpec : ChangeSpec := { name := "fnExactNetFault", fn := fun _ => fun
  | [d] => { results := [.lit (.bool true)], args := [d] }
  | _ => none }
def fnExactNetFaultRow : OpenClaim := { program := "ytkmfkaljdngigaa", sum := "671985fce78a1d00f5cef4a202f9ebfcca41e40097d684d8f808b6ec152edd42", func := "loop.example/g00357/laws.FnExactNetFault", spec := "fnExactNetFault", unfollowed := true, recurses := true, apart := false }
def FnExactNetFaultSaid : Prop := fnExactNetFaultRow.holds Try.pinned (OpenSpec.ofChange fnExactNetFaultSpec)

/-- ITS FALSE NEIGHBOUR: 'it returns false'. Refute it at one input. -/
def fnExactNetFaultWrong : ChangeSpec := { name := "fnExactNetFault", fn := fun _ => fun
  | [d] => { results := [.lit (.bool false)], args := [d] }
  | _ => none }
def FnExactNetFaultWrongFalsely : Prop := fnExactNetFaultRow.holds Try.pinned (OpenSpec.ofChange fnExactNetFaultWrong)

/-- 'laws.FnExactSendMsg': WHATEVER THE INPUT: true; the input reads as it did. -/
def fnExactSendMsgSpec : ChangeSpec := { name := "fnExactSendMsg", fn := fun _ => fun
  | [d1, d2] => { results := [.lit (.bool true)], args := [d1, d2] }
  | _ => none }
def fnExactSendMsgRow : OpenClaim := { program := "ytkmfkaljdngigaa", sum := "671985fce78a1d00f5cef4a202f9ebfcca41e40097d684d8f808b6ec152edd42", func := "loop.example/g00357/laws.FnExactSendMsg", spec := "fnExactSendMsg", unfollowed := true, recurses := true, apart := false }
def FnExactSendMsgSaid : Prop := fnExactSendMsgRow.holds Try.pinned (OpenSpec.ofChange fnExactSendMsgSpec)

/-- ITS FALSE NEIGHBOUR: 'it returns false'. Refute it at one input. -/
def fnExactSendMsgWrong : ChangeSpec := { name := "fnExactSendMsg", fn := fun _ => fun
  | [d1, d2] => { results := [.lit (.bool false)], args := [d1, d2] }
  | _ => none }
def FnExactSendMsgWrongFalsely : Prop := fnExactSendMsgRow.holds Try.pinned (OpenSpec.ofChange fnExactSendMsgWrong)

/-- 'laws.FnExactDropMsg': WHATEVER THE INPUT: true; the input reads as it did. -/
def fnExactDropMsgSpec : ChangeSpec := { name := "fnExactDropMsg", fn := fun _ => fun
  | [d1, d2] => { results := [.lit (.bool true)], args := [d1, d2] }
  | _ => none }
def fnExactDropMsgRow : OpenClaim := { program := "ytkmfkaljdngigaa", sum := "671985fce78a1d00f5cef4a202f9ebfcca41e40097d684d8f808b6ec152edd42", func := "loop.example/g00357/laws.FnExactDropMsg", spec := "fnExactDropMsg", unfollowed := true, recurses := true, apart := false }
def FnExactDropMsgSaid : Prop := fnExactDropMsgRow.holds Try.pinned (OpenSpec.ofChange fnExactDropMsgSpec)

/-- ITS FALSE NEIGHBOUR: 'it returns false'. Refute it at one input. -/
def fnExactDropMsgWrong : ChangeSpec := { name := "fnExactDropMsg", fn := fun _ => fun
  | [d1, d2] => { results := [.lit (.bool false)], args := [d1, d2] }
  | _ => none }
def FnExactDropMsgWrongFalsely : Prop := fnExactDropMsgRow.holds Try.pinned (OpenSpec.ofChange fnExactDropMsgWrong)

/-- 'laws.FnExactCountMsgs': WHATEVER THE INPUT: true; the input reads as it did. -/
def fnExactCountMsgsSpec : ChangeSpec := { name := "fnExactCountMsgs", fn := fun _ => fun
  | [d1, d2] => { results := [.lit (.bool true)], args := [d1, d2] }
  | _ => none }
def fnExactCountMsgsRow : OpenClaim := { program := "ytkmfkaljdngigaa", sum := "671985fce78a1d00f5cef4a202f9ebfcca41e40097d684d8f808b6ec152edd42", func := "loop.example/g00357/laws.FnExactCountMsgs", spec := "fnExactCountMsgs", unfollowed := true, recurses := true, apart := false }
def FnExactCountMsgsSaid : Prop := fnExactCountMsgsRow.holds Try.pinned (OpenSpec.ofChange fnExactCountMsgsSpec)

/-- ITS FALSE NEIGHBOUR: 'it returns false'. Refute it at one input. -/
def fnExactCountMsgsWrong : ChangeSpec := { name := "fnExactCountMsgs", fn := fun _ => fun
  | [d1, d2] => { results := [.lit (.bool false)], args := [d1, d2] }
  | _ => none }
def FnExactCountMsgsWrongFalsely : Prop := fnExactCountMsgsRow.holds Try.pinned (OpenSpec.ofChange fnExactCountMsgsWrong)

/- THE SECOND FORM. 'bulk': how many values and letters a reading holds, each counted each time it is reached (what is shared counts as often as it is met; a slice's spare places count too). A statement '..UptoSaid' is the law's where the arguments, and the package variables that the reading takes, are together of bulk at most 1048576: NARROWER than '..Said'. Prove '..Said' where nothing that the law and all that it calls make is longer than what came in: it says more and counts as full. Else prove '..UptoSaid'. A law counts once. -/
mutual
def uptoBulk {H : Type} : DataW H → Nat
  | .lit (.string bytes) => bytes.length + 1
  | .lit _ => 1
  | .nil => 1
  | .ptr d => uptoBulk d + 1
  | .slice elems spare => uptoBulkAll elems + uptoBulkAll spare + 1
  | .agg parts => uptoBulkAll parts + 1
  | .iface _ d => uptoBulk d + 1
  | .map entries => uptoBulkEntries entries + 1
  | .held _ => 1
def uptoBulkAll {H : Type} : List (DataW H) → Nat
  | [] => 0
  | d :: r => uptoBulk d + uptoBulkAll r
def uptoBulkEntries {H : Type} : List (Lit × DataW H) → Nat
  | [] => 0
  | x :: r => uptoBulkEntry x + uptoBulkEntries r
def uptoBulkEntry {H : Type} : Lit × DataW H → Nat
  | (.string bytes, d) => bytes.length + uptoBulk d + 1
  | (_, d) => uptoBulk d + 1
 end
def uptoSmall : (H : Type) → List (DataW H) → Bool := fun _ ds => decide (uptoBulkAll ds ≤ 1048576)
def OpenSpec.upto (s : _root_.Go.ChangeSpec) : _root_.Go.OpenSpec := { _root_.Go.OpenSpec.ofChange s with cond := some uptoSmall }

/-- 'laws.FnExactMsgFault', WHERE WHAT IT READS IS OF BULK AT MOST 1048576: true; the input reads as it did. -/
def fnExactMsgFaultUptoRow : OpenClaim := { program := "ytkmfkaljdngigaa", sum := "671985fce78a1d00f5cef4a202f9ebfcca41e40097d684d8f808b6ec152edd42", func := "loop.example/g00357/laws.FnExactMsgFault", spec := "fnExactMsgFault", unfollowed := true, recurses := true, apart := false, narrowed := true }
def FnExactMsgFaultUptoSaid : Prop := fnExactMsgFaultUptoRow.holds Try.pinned (OpenSpec.upto fnExactMsgFaultSpec)

/-- 'laws.FnExactNetFault', WHERE WHAT IT READS IS OF BULK AT MOST 1048576: true; the input reads as it did. -/
def fnExactNetFaultUptoRow : OpenClaim := { program := "ytkmfkaljdngigaa", sum := "671985fce78a1d00f5cef4a202f9ebfcca41e40097d684d8f808b6ec152edd42", func := "loop.example/g00357/laws.FnExactNetFault", spec := "fnExactNetFault", unfollowed := true, recurses := true, apart := false, narrowed := true }
def FnExactNetFaultUptoSaid : Prop := fnExactNetFaultUptoRow.holds Try.pinned (OpenSpec.upto fnExactNetFaultSpec)

/-- 'laws.FnExactSendMsg', WHERE WHAT IT READS IS OF BULK AT MOST 1048576: true; the input reads as it did. -/
def fnExactSendMsgUptoRow : OpenClaim := { program := "ytkmfkaljdngigaa", sum := "671985fce78a1d00f5cef4a202f9ebfcca41e40097d684d8f808b6ec152edd42", func := "loop.example/g00357/laws.FnExactSendMsg", spec := "fnExactSendMsg", unfollowed := true, recurses := true, apart := false, narrowed := true }
def FnExactSendMsgUptoSaid : Prop := fnExactSendMsgUptoRow.holds Try.pinned (OpenSpec.upto fnExactSendMsgSpec)

/-- 'laws.FnExactDropMsg', WHERE WHAT IT READS IS OF BULK AT MOST 1048576: true; the input reads as it did. -/
def fnExactDropMsgUptoRow : OpenClaim := { program := "ytkmfkaljdngigaa", sum := "671985fce78a1d00f5cef4a202f9ebfcca41e40097d684d8f808b6ec152edd42", func := "loop.example/g00357/laws.FnExactDropMsg", spec := "fnExactDropMsg", unfollowed := true, recurses := true, apart := false, narrowed := true }
def FnExactDropMsgUptoSaid : Prop := fnExactDropMsgUptoRow.holds Try.pinned (OpenSpec.upto fnExactDropMsgSpec)

/-- 'laws.FnExactCountMsgs', WHERE WHAT IT READS IS OF BULK AT MOST 1048576: true; the input reads as it did. -/
def fnExactCountMsgsUptoRow : OpenClaim := { program := "ytkmfkaljdngigaa", sum := "671985fce78a1d00f5cef4a202f9ebfcca41e40097d684d8f808b6ec152edd42", func := "loop.example/g00357/laws.FnExactCountMsgs", spec := "fnExactCountMsgs", unfollowed := true, recurses := true, apart := false, narrowed := true }
def FnExactCountMsgsUptoSaid : Prop := fnExactCountMsgsUptoRow.holds Try.pinned (OpenSpec.upto fnExactCountMsgsSpec)

end Rows
end Go.Proofs.Ytkmfkaljdngigaa
