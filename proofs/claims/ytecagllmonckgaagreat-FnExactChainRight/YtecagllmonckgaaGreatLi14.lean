/-
  ChainRight tells of every world whether each of its chain has the first writes of what the one ahead has surely, and none knows more to be at the tail than is, as its model; it writes into no argument and keeps nothing of it, behind another call too.
-/
import Derived.Test.YtecagllmonckgaaGreatRows
import Derived.WalkKit
import Derived.Test.YtecagllmonckgaaGreatLi12
import Derived.Test.YtecagllmonckgaaGreatLi13
import Derived.ProofKit
import Derived.OpenShut
import Derived.ShutString
import Derived.ChangeOld
import Derived.Below

namespace Go.Proofs.YtecagllmonckgaaGreat.fnExactChainRight
open Go.ChangeShapes Go.WideShapes Go.ChangeAt Go.RowKit
open Go.ChangeMaps (open_string shut_string)
set_option linter.unusedVariables false
theorem own : ownKnob Tryz.prog.godebug = none := by kernel_rfl
theorem laidOut : laidOutB Tryz.prog = true := by kernel_rfl
set_option maxRecDepth 100000 in
theorem lifted (os : Os) (started : os.Started) (H : Type) (enc : TypeId × Value → H) :
    ReturnsInHanded {} Tryz.checked os 6 .any (Rows.fnExactChainRightSpec.pre6 enc Tryz.prog Tryz.f6 Rows.fnExactChainRightRow.domain false) (Rows.fnExactChainRightSpec.post enc Tryz.prog Tryz.f6 false true false false) := by
  refine returnsInHanded_of_change (C := Tryz.checked) own started (by kernel_rfl) Tryz.func6
    (ChangeSpec.witness6 (enc := enc) (C := Tryz.checked) false ⟨#[], #[.agg #[.int .i64 0, .int .i64 0, .int .i64 0, .slice none 0 0, .slice none 0 0, .slice none 0 0, .slice none 0 0]], []⟩ 8 (by kernel_rfl) (by kernel_rfl) (by kernel_rfl) (by kernel_rfl)) ?_
  intro W base args ds gs before hval0 hW hcnd _
  have hval : ∀ (j : Nat) t v, Tryz.f6.params[j]? = some t → args[j]? = some v → Value.okWide Tryz.prog W .any base t v := hval0
  have hW' := hW
  obtain ⟨p, q, hA0, hV, rfl, hfz, hnd⟩ := hW
  have hA : DataW.TrodAll enc Tryz.prog W 0 (fun _ => true) true Tryz.f6.params.toList args.toList ds p := hA0
  rw [Tryz.params6] at hA hval
  obtain ⟨v0, vs0, d0, ds0, p0, q0, hargs, rfl, rfl, h0, r0_⟩ := trodAll_cons hA
  obtain ⟨rfl, rfl, rfl⟩ := trodAll_nil r0_
  obtain rfl : args = #[v0] := by cases args; simp_all
  obtain ⟨rfl, rfl⟩ := trodVars_none hV
  obtain ⟨c0, rfl, -⟩ := okWide_struct Tryz.underlying29 (hval 0 29 v0 rfl rfl)
  have k0 := h0
  have lt0 : ∀ x ∈ p0, x.block < W.heap.size := by obtain ⟨m, hm⟩ := k0; exact DataW.trod_lt m _ _ _ hm
  obtain ⟨x0, r0⟩ := il (gY) h0
  clear hA0 hval0
  refine (fE c0.toList x0 W r0).mono fun e W' ⟨he, bel⟩ => ?_
  subst he
  exact ⟨_, rfl, _, _, _, [], _, [], hW', trodAll_mk1 (shut_bool Tryz.underlying4 _), (trodAll_cons_mk (Below.trod laidOut (by kernel_rfl) (of_decide_eq_true (by kernel_rfl)) k0 bel lt0) trodAll_mk0), rfl, bel.frame _, fun h => by cases h⟩
theorem and_move {a b c : Bool} (h : (a && (b && c)) = true) : ((a && b) && c) = true := by
  rw [Bool.and_assoc]
  exact h
set_option maxHeartbeats 4000000 in
theorem closed : joinedFacts Tryz.prog 6 Tryz.f6 Rows.fnExactChainRightSpec Rows.fnExactChainRightRow = true := by
  unfold joinedFacts
  refine and_move ?_
  refine and_move ?_
  refine and_move ?_
  refine and_move ?_
  refine and_move ?_
  refine and_move ?_
  refine and_move ?_
  refine and_move ?_
  refine and_move ?_
  refine and_move ?_
  refine and_move ?_
  refine and_move ?_
  refine and_move ?_
  refine and_move ?_
  refine and_move ?_
  refine and_move ?_
  refine and_move ?_
  exact Bool.and_eq_true_iff.mpr ⟨by as_aux_lemma => kernel_rfl, by as_aux_lemma => kernel_rfl⟩
set_option maxHeartbeats 4000000 in
theorem over : Rows.fnExactChainRightRow.holds Tryz.pinned (OpenSpec.ofChange Rows.fnExactChainRightSpec) :=
  OpenClaim.holds_of_wide 6 Tryz.f6 rfl rfl rfl rfl rfl rfl rfl ⟨rfl, rfl, rfl, rfl, rfl⟩ rfl rfl rfl rfl rfl (by kernel_rfl) Tryz.func6 closed
    (of_decide_eq_true (by kernel_rfl)) (by unfold Func.isWrapper; first | (rw [if_pos (by decide +kernel)]; kernel_rfl) | (rw [if_neg (by decide +kernel)]; exact ⟨rfl, rfl⟩))
    (fun os started H enc _ => lifted os started H enc)
theorem proved : Rows.FnExactChainRightSaid := over
#print axioms proved
end Go.Proofs.YtecagllmonckgaaGreat.fnExactChainRight
