/-
  NARROWER THAN 'FOR EVERY INPUT', by the rows' own cells (each row's printed sentence says how): FnExactAskWorld: ifaces, laid · FnExactHearWorld: ifaces, laid · FnHears: ifaces, laid · FnAsked: ifaces, laid.
  DERIVED. THE GIVEN ROWS OF THIS SEAT. 4 by the template 'for every input the law returns true; each argument reads behind the call as it read before'; 0 by the template 'total and deterministic' (their statements: YtomphbenbnnfgaaGreatDoorTotals.lean).
  GIVEN WITH THE SEED: the statements are not yours to turn. If you find one false, say at which input.
  Laid BY PROGRAM, IN A SANDBOX (cutbox-rows.mjs): the forced cells as the released guide's own fill.sh prints them over the translation 9e41ec84bc469b7c… (all of the seat's roots in one cut). By AI agents, Wed Nov 11 2026. No macro, syntax, notation, axiom, sorry.
-/
import Derived.Test.YtomphbenbnnfgaaGreatDoorChecked
import GoSem.Claim
import GoSem.ClaimJoined
import GoSem.ClaimMapViews
import Derived.JoinedTies
import Derived.KernelRfl
namespace Go.Proofs.YtomphbenbnnfgaaGreatDoor
/- THE CELL 'sum', in the pinned program and in every row, IS THE sha256 OF THE DUMP (.gsa) THAT YtomphbenbnnfgaaGreatDoorProg.lean LOADS. Nothing in Lean hashes anything: it is a label: what it is worth is what the hold of that sum in a sandbox is worth. -/
noncomputable def Tryz.pinned : Pinned := { name := "ytomphbenbnnfgaagreatdoor", sum := "9e41ec84bc469b7c0648b3a75df654a62d493e1399dccdba21e95ecfe2e18960", checked := Tryz.checked }
namespace Rows
def none {H : Type} : Left H := { results := [], args := [] }

/- WHAT THE LISTED PACKAGE-LEVEL VARIABLES READ AS WHEN THE CALL BEGINS. Each datum BY PROGRAM (the guide's laid-datum.mjs) off the statement by which the dump's own 'gosem.cut.vars' lays the variable. In a bare row this is a premise. The card (YtomphbenbnnfgaaGreatDoorCards.lean) ties it to the program's text. -/
def laid_errors_errorType {H : Type} : DataW H := .iface "internal/reflectlite.rtype" (.agg [.ptr (.lit (.string [101, 114, 114, 111, 114]))])
def laid_loop_example_g00357_impl_errFull {H : Type} : DataW H := .iface "*errors.errorString" (.ptr (.agg [.lit (.string [116, 104, 101, 114, 101, 32, 105, 115, 32, 110, 111, 32, 114, 111, 111, 109, 32, 102, 111, 114, 32, 111, 110, 101, 32, 109, 111, 114, 101, 32, 119, 114, 105, 116, 101])]))

/-- 'laws.FnExactAskWorld': WHATEVER THE INPUT: true; the input reads as it did. -/
def fnExactAskWorldSpec : ChangeSpec := { name := "fnExactAskWorld", vars := ["loop.example/g00357/impl.errFull"], fn := fun _ => fun
  | [d1, d2, g1] => { results := [.lit (.bool true)], args := [d1, d2], vars := [g1] }
  | _ => none }
def fnExactAskWorldRow : OpenClaim := { program := "ytomphbenbnnfgaagreatdoor", sum := "9e41ec84bc469b7c0648b3a75df654a62d493e1399dccdba21e95ecfe2e18960", func := "loop.example/g00357/laws.FnExactAskWorld", spec := "fnExactAskWorld", inPlace := ["internal/reflectlite.ValueOf", "(internal/reflectlite.Value).Type", "(internal/reflectlite.Value).IsNil", "internal/reflectlite.TypeOf", "(internal/reflectlite.Value).Elem", "(internal/reflectlite.Value).Set"], unfollowed := true, recurses := true, named := ["loop.example/g00357/impl.errFull", "errors.errorType"], ifaces := true, plainKeys := false, apart := false, laid := [("errors.errorType", laid_errors_errorType), ("loop.example/g00357/impl.errFull", laid_loop_example_g00357_impl_errFull)] }
def FnExactAskWorldSaid : Prop := fnExactAskWorldRow.holds Tryz.pinned (OpenSpec.ofChange fnExactAskWorldSpec)

/-- ITS FALSE NEIGHBOUR: 'it returns false'. Refute it at one input. -/
def fnExactAskWorldWrong : ChangeSpec := { name := "fnExactAskWorld", vars := ["loop.example/g00357/impl.errFull"], fn := fun _ => fun
  | [d1, d2, g1] => { results := [.lit (.bool false)], args := [d1, d2], vars := [g1] }
  | _ => none }
def FnExactAskWorldWrongFalsely : Prop := fnExactAskWorldRow.holds Tryz.pinned (OpenSpec.ofChange fnExactAskWorldWrong)

/-- 'laws.FnExactHearWorld': WHATEVER THE INPUT: true; the input reads as it did. -/
def fnExactHearWorldSpec : ChangeSpec := { name := "fnExactHearWorld", vars := ["loop.example/g00357/impl.errFull"], fn := fun _ => fun
  | [d1, d2, g1] => { results := [.lit (.bool true)], args := [d1, d2], vars := [g1] }
  | _ => none }
def fnExactHearWorldRow : OpenClaim := { program := "ytomphbenbnnfgaagreatdoor", sum := "9e41ec84bc469b7c0648b3a75df654a62d493e1399dccdba21e95ecfe2e18960", func := "loop.example/g00357/laws.FnExactHearWorld", spec := "fnExactHearWorld", inPlace := ["internal/reflectlite.ValueOf", "(internal/reflectlite.Value).Type", "(internal/reflectlite.Value).IsNil", "internal/reflectlite.TypeOf", "(internal/reflectlite.Value).Elem", "(internal/reflectlite.Value).Set"], unfollowed := true, recurses := true, named := ["loop.example/g00357/impl.errFull", "errors.errorType"], ifaces := true, plainKeys := false, apart := false, laid := [("errors.errorType", laid_errors_errorType), ("loop.example/g00357/impl.errFull", laid_loop_example_g00357_impl_errFull)] }
def FnExactHearWorldSaid : Prop := fnExactHearWorldRow.holds Tryz.pinned (OpenSpec.ofChange fnExactHearWorldSpec)

/-- ITS FALSE NEIGHBOUR: 'it returns false'. Refute it at one input. -/
def fnExactHearWorldWrong : ChangeSpec := { name := "fnExactHearWorld", vars := ["loop.example/g00357/impl.errFull"], fn := fun _ => fun
  | [d1, d2, g1] => { results := [.lit (.bool false)], args := [d1, d2], vars := [g1] }
  | _ => none }
def FnExactHearWorldWrongFalsely : Prop := fnExactHearWorldRow.holds Tryz.pinned (OpenSpec.ofChange fnExactHearWorldWrong)

/-- 'laws.FnHears': WHATEVER THE INPUT: true; the input reads as it did. -/
def fnHearsSpec : ChangeSpec := { name := "fnHears", vars := ["loop.example/g00357/impl.errFull"], fn := fun _ => fun
  | [d, g1] => { results := [.lit (.bool true)], args := [d], vars := [g1] }
  | _ => none }
def fnHearsRow : OpenClaim := { program := "ytomphbenbnnfgaagreatdoor", sum := "9e41ec84bc469b7c0648b3a75df654a62d493e1399dccdba21e95ecfe2e18960", func := "loop.example/g00357/laws.FnHears", spec := "fnHears", inPlace := ["internal/reflectlite.ValueOf", "(internal/reflectlite.Value).Type", "(internal/reflectlite.Value).IsNil", "internal/reflectlite.TypeOf", "(internal/reflectlite.Value).Elem", "(internal/reflectlite.Value).Set"], unfollowed := true, recurses := true, named := ["loop.example/g00357/impl.errFull", "errors.errorType"], ifaces := true, plainKeys := false, apart := false, laid := [("errors.errorType", laid_errors_errorType), ("loop.example/g00357/impl.errFull", laid_loop_example_g00357_impl_errFull)] }
def FnHearsSaid : Prop := fnHearsRow.holds Tryz.pinned (OpenSpec.ofChange fnHearsSpec)

/-- ITS FALSE NEIGHBOUR: 'it returns false'. Refute it at one input. -/
def fnHearsWrong : ChangeSpec := { name := "fnHears", vars := ["loop.example/g00357/impl.errFull"], fn := fun _ => fun
  | [d, g1] => { results := [.lit (.bool false)], args := [d], vars := [g1] }
  | _ => none }
def FnHearsWrongFalsely : Prop := fnHearsRow.holds Tryz.pinned (OpenSpec.ofChange fnHearsWrong)

/-- 'laws.FnAsked': WHATEVER THE INPUT: true; the input reads as it did. -/
def fnAskedSpec : ChangeSpec := { name := "fnAsked", vars := ["loop.example/g00357/impl.errFull"], fn := fun _ => fun
  | [d, g1] => { results := [.lit (.bool true)], args := [d], vars := [g1] }
  | _ => none }
def fnAskedRow : OpenClaim := { program := "ytomphbenbnnfgaagreatdoor", sum := "9e41ec84bc469b7c0648b3a75df654a62d493e1399dccdba21e95ecfe2e18960", func := "loop.example/g00357/laws.FnAsked", spec := "fnAsked", inPlace := ["internal/reflectlite.ValueOf", "(internal/reflectlite.Value).Type", "(internal/reflectlite.Value).IsNil", "internal/reflectlite.TypeOf", "(internal/reflectlite.Value).Elem", "(internal/reflectlite.Value).Set"], unfollowed := true, recurses := true, named := ["loop.example/g00357/impl.errFull", "errors.errorType"], ifaces := true, plainKeys := false, apart := false, laid := [("errors.errorType", laid_errors_errorType), ("loop.example/g00357/impl.errFull", laid_loop_example_g00357_impl_errFull)] }
def FnAskedSaid : Prop := fnAskedRow.holds Tryz.pinned (OpenSpec.ofChange fnAskedSpec)

/-- ITS FALSE NEIGHBOUR: 'it returns false'. Refute it at one input. -/
def fnAskedWrong : ChangeSpec := { name := "fnAsked", vars := ["loop.example/g00357/impl.errFull"], fn := fun _ => fun
  | [d, g1] => { results := [.lit (.bool false)], args := [d], vars := [g1] }
  | _ => none }
def FnAskedWrongFalsely : Prop := fnAskedRow.holds Tryz.pinned (OpenSpec.ofChange fnAskedWrong)

/- THE SECOND FORM. 'bulk': how many values and letters a reading holds, each counted each time it is reached (what is shared counts as often as it is met; a slice's spare places count too). A statement '..UptoSaid' is the law's where the arguments, and the package variables that the reading takes, are together of bulk at most 1048576: NARROWER than '..Said'. Prove '..Said' where nothing that the law and all that it calls make is longer than what came in: it says more and counts as full. Else prove '..UptoSaid'. A law counts once. -/
mutual
def uptoBulk {H : Type} : DataW H → Nat
  | .lit (.string bytes) => bytes.length + 1
  | .lit _ => 1
  | .nil => 1
  | .ptr d => uptoBulk d + 1
  | .slice elems spare => uptoBulkAll elems + uptoBulkAll spare + 1
  | .agg parts => uptoBulkAll parts + 1
  | .iface _ d => uptoBulk d + 1
  | .map entries => uptoBulkEntries entries + 1
  | .held _ => 1
def uptoBulkAll {H : Type} : List (DataW H) → Nat
  | [] => 0
  | d :: r => uptoBulk d + uptoBulkAll r
def uptoBulkEntries {H : Type} : List (Lit × DataW H) → Nat
  | [] => 0
  | x :: r => uptoBulkEntry x + uptoBulkEntries r
def uptoBulkEntry {H : Type} : Lit × DataW H → Nat
  | (.string bytes, d) => bytes.length + uptoBulk d + 1
  | (_, d) => uptoBulk d + 1
 end
def uptoSmall : (H : Type) → List (DataW H) → Bool := fun _ ds => decide (uptoBulkAll ds ≤ 1048576)
def OpenSpec.upto (s : _root_.Go.ChangeSpec) : _root_.Go.OpenSpec := { _root_.Go.OpenSpec.ofChange s with cond := some uptoSmall }

/-- 'laws.FnExactAskWorld', WHERE WHAT IT READS IS OF BULK AT MOST 1048576: true; the input reads as it did. -/
def fnExactAskWorldUptoRow : OpenClaim := { program := "ytomphbenbnnfgaagreatdoor", sum := "9e41ec84bc469b7c0648b3a75df654a62d493e1399dccdba21e95ecfe2e18960", func := "loop.example/g00357/laws.FnExactAskWorld", spec := "fnExactAskWorld", inPlace := ["internal/reflectlite.ValueOf", "(internal/reflectlite.Value).Type", "(internal/reflectlite.Value).IsNil", "internal/reflectlite.TypeOf", "(internal/reflectlite.Value).Elem", "(internal/reflectlite.Value).Set"], unfollowed := true, recurses := true, named := ["loop.example/g00357/impl.errFull", "errors.errorType"], ifaces := true, plainKeys := false, apart := false, laid := [("errors.errorType", laid_errors_errorType), ("loop.example/g00357/impl.errFull", laid_loop_example_g00357_impl_errFull)], narrowed := true }
def FnExactAskWorldUptoSaid : Prop := fnExactAskWorldUptoRow.holds Tryz.pinned (OpenSpec.upto fnExactAskWorldSpec)

/-- 'laws.FnExactHearWorld', WHERE WHAT IT READS IS OF BULK AT MOST 1048576: true; the input reads as it did. -/
def fnExactHearWorldUptoRow : OpenClaim := { program := "ytomphbenbnnfgaagreatdoor", sum := "9e41ec84bc469b7c0648b3a75df654a62d493e1399dccdba21e95ecfe2e18960", func := "loop.example/g00357/laws.FnExactHearWorld", spec := "fnExactHearWorld", inPlace := ["internal/reflectlite.ValueOf", "(internal/reflectlite.Value).Type", "(internal/reflectlite.Value).IsNil", "internal/reflectlite.TypeOf", "(internal/reflectlite.Value).Elem", "(internal/reflectlite.Value).Set"], unfollowed := true, recurses := true, named := ["loop.example/g00357/impl.errFull", "errors.errorType"], ifaces := true, plainKeys := false, apart := false, laid := [("errors.errorType", laid_errors_errorType), ("loop.example/g00357/impl.errFull", laid_loop_example_g00357_impl_errFull)], narrowed := true }
def FnExactHearWorldUptoSaid : Prop := fnExactHearWorldUptoRow.holds Tryz.pinned (OpenSpec.upto fnExactHearWorldSpec)

/-- 'laws.FnHears', WHERE WHAT IT READS IS OF BULK AT MOST 1048576: true; the input reads as it did. -/
def fnHearsUptoRow : OpenClaim := { program := "ytomphbenbnnfgaagreatdoor", sum := "9e41ec84bc469b7c0648b3a75df654a62d493e1399dccdba21e95ecfe2e18960", func := "loop.example/g00357/laws.FnHears", spec := "fnHears", inPlace := ["internal/reflectlite.ValueOf", "(internal/reflectlite.Value).Type", "(internal/reflectlite.Value).IsNil", "internal/reflectlite.TypeOf", "(internal/reflectlite.Value).Elem", "(internal/reflectlite.Value).Set"], unfollowed := true, recurses := true, named := ["loop.example/g00357/impl.errFull", "errors.errorType"], ifaces := true, plainKeys := false, apart := false, laid := [("errors.errorType", laid_errors_errorType), ("loop.example/g00357/impl.errFull", laid_loop_example_g00357_impl_errFull)], narrowed := true }
def FnHearsUptoSaid : Prop := fnHearsUptoRow.holds Tryz.pinned (OpenSpec.upto fnHearsSpec)

/-- 'laws.FnAsked', WHERE WHAT IT READS IS OF BULK AT MOST 1048576: true; the input reads as it did. -/
def fnAskedUptoRow : OpenClaim := { program := "ytomphbenbnnfgaagreatdoor", sum := "9e41ec84bc469b7c0648b3a75df654a62d493e1399dccdba21e95ecfe2e18960", func := "loop.example/g00357/laws.FnAsked", spec := "fnAsked", inPlace := ["internal/reflectlite.ValueOf", "(internal/reflectlite.Value).Type", "(internal/reflectlite.Value).IsNil", "internal/reflectlite.TypeOf", "(internal/reflectlite.Value).Elem", "(internal/reflectlite.Value).Set"], unfollowed := true, recurses := true, named := ["loop.example/g00357/impl.errFull", "errors.errorType"], ifaces := true, plainKeys := false, apart := false, laid := [("errors.errorType", laid_errors_errorType), ("loop.example/g00357/impl.errFull", laid_loop_example_g00357_impl_errFull)], narrowed := true }
def FnAskedUptoSaid : Prop := fnAskedUptoRow.holds Tryz.pinned (OpenSpec.upto fnAskedSpec)

end Rows
end Go.Proofs.YtomphbenbnnfgaaGreatDoor
