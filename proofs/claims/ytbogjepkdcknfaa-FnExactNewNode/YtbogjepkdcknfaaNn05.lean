/-
  Texts of this proof in one: NewNodeC, NodeFew, LawNewN.
  Their conditions stand in their theorems.
-/
import Derived.Test.YtbogjepkdcknfaaNn02
import Derived.Test.YtbogjepkdcknfaaNn03
import Derived.Test.YtbogjepkdcknfaaNn04
import Derived.Test.YtbogjepkdcknfaaNn01

namespace Go.Proofs.Ytbogjepkdcknfaa
open Go.RowKit

set_option maxRecDepth 10000 in
set_option maxHeartbeats 1000000 in
theorem implNewNode (id : Int) (w : World) :
    Calls Try.prog 16 #[.int .i64 id] w fun e w' => ∃ cs, e = .returned (.agg cs.toArray) ∧ Lay.tNodeResult.OwnIn w' cs (newNodeR id) w.heap.size w'.heap.size ∧ Below w.heap.size w w' := by
  have HB : Hid (∀ o, Below w.heap.size w (w.alloc o)) := fun o => (Below.refl _ _).alloc (Nat.le_refl _) o
  have HL : Hid (∀ W, Calls Try.prog 37 #[.int .i64 id] W fun e w' => e = .returned (.bool (decide (1 ≤ id) && decide (id ≤ 5))) ∧ w' = W) := fun W => isNodeIdC id W
  by_cases hi : 1 ≤ id ∧ id ≤ 5
  · have hd : (decide (1 ≤ id) && decide (id ≤ 5)) = true := by simpa using hi
    rw [hd] at HL
    have HY : Hid (newNodeR id = ⟨0, 0, ⟨id, true, 0, 0, [], 0, 0⟩⟩) := by show newNodeR id = _; rw [newNodeR, if_pos hi]
    clear hd
    go_enter Try.func16, Try.ntmps16
    go_wp2_with fail
    refine (unhide HL _).mono ?_
    rintro e W1 ⟨rfl, h1⟩
    subst W1
    go_wp2_with fail
    refine bodyPost_ret (v := .agg #[.int .i64 0, .int .i64 0, .int .i64 id, .bool true, .int .i64 0, .int .i64 0, .slice none 0 0, .int .i64 0, .int .i64 0]) (by simp [results, Try.results16, go_sem]) rfl ?_
    rw [unhide HY]
    exact ⟨[.int .i64 0, .int .i64 0, .int .i64 id, .bool true, .int .i64 0, .int .i64 0, .slice none 0 0, .int .i64 0, .int .i64 0], rfl, own_nodeR (x := ⟨id, true, 0, 0, [], 0, 0⟩) (by decide) (by decide) nil_own (by simp only; omega) (by simp only; omega) (by simp only; omega) (by simp only; omega) (by simp only; omega), unhide HB _⟩
  · have hd : (decide (1 ≤ id) && decide (id ≤ 5)) = false := by
      by_cases h1 : 1 ≤ id
      · simp [h1]; omega
      · simp [h1]
    rw [hd] at HL
    have HY : Hid (newNodeR id = badNode 3) := by show newNodeR id = _; rw [newNodeR, if_neg hi]
    clear hd
    go_enter Try.func16, Try.ntmps16
    go_wp2_with fail
    refine (unhide HL _).mono ?_
    rintro e W1 ⟨rfl, h1⟩
    subst W1
    go_wp2_with fail
    refine bodyPost_ret (v := .agg #[.int .i64 3, .int .i64 0, .int .i64 0, .bool false, .int .i64 0, .int .i64 0, .slice none 0 0, .int .i64 0, .int .i64 0]) (by simp [results, Try.results16, go_sem]) rfl ?_
    rw [unhide HY]
    exact ⟨[.int .i64 3, .int .i64 0, .int .i64 0, .bool false, .int .i64 0, .int .i64 0, .slice none 0 0, .int .i64 0, .int .i64 0], rfl, own_badNode (by decide), unhide HB _⟩

set_option maxRecDepth 10000 in
set_option maxHeartbeats 1000000 in
theorem specNewNode (id : Int) (w : World) :
    Calls Try.prog 15 #[.int .i64 id] w fun e w' => ∃ cs, e = .returned (.agg cs.toArray) ∧ Lay.tNodeResult.LiesIn w' cs (newNodeR id) w.heap.size w'.heap.size ∧ Below w.heap.size w w' := by
  have HB : Hid (∀ o, Below w.heap.size w (w.alloc o)) := fun o => (Below.refl _ _).alloc (Nat.le_refl _) o
  have HL : Hid (∀ W, Calls Try.prog 42 #[.int .i64 id] W fun e w' => e = .returned (.bool (decide (1 ≤ id) && decide (id ≤ 5))) ∧ w' = W) := fun W => nodeC id W
  by_cases hi : 1 ≤ id ∧ id ≤ 5
  · have hd : (decide (1 ≤ id) && decide (id ≤ 5)) = true := by simpa using hi
    rw [hd] at HL
    have HY : Hid (newNodeR id = ⟨0, 0, ⟨id, true, 0, 0, [], 0, 0⟩⟩) := by show newNodeR id = _; rw [newNodeR, if_pos hi]
    clear hd
    go_enter Try.func15, Try.ntmps15
    go_wp2_with fail
    refine (unhide HL _).mono ?_
    rintro e W1 ⟨rfl, h1⟩
    subst W1
    go_wp2_with fail
    refine bodyPost_ret (v := .agg #[.int .i64 0, .int .i64 0, .int .i64 id, .bool true, .int .i64 0, .int .i64 0, .slice none 0 0, .int .i64 0, .int .i64 0]) (by simp [results, Try.results15, go_sem]) rfl ?_
    rw [unhide HY]
    exact ⟨[.int .i64 0, .int .i64 0, .int .i64 id, .bool true, .int .i64 0, .int .i64 0, .slice none 0 0, .int .i64 0, .int .i64 0], rfl, (own_nodeR (x := ⟨id, true, 0, 0, [], 0, 0⟩) (by decide) (by decide) nil_own (by simp only; omega) (by simp only; omega) (by simp only; omega) (by simp only; omega) (by simp only; omega)).lies, unhide HB _⟩
  · have hd : (decide (1 ≤ id) && decide (id ≤ 5)) = false := by
      by_cases h1 : 1 ≤ id
      · simp [h1]; omega
      · simp [h1]
    rw [hd] at HL
    have HY : Hid (newNodeR id = badNode 3) := by show newNodeR id = _; rw [newNodeR, if_neg hi]
    clear hd
    go_enter Try.func15, Try.ntmps15
    go_wp2_with fail
    refine (unhide HL _).mono ?_
    rintro e W1 ⟨rfl, h1⟩
    subst W1
    go_wp2_with fail
    refine bodyPost_ret (v := .agg #[.int .i64 3, .int .i64 0, .int .i64 0, .bool false, .int .i64 0, .int .i64 0, .slice none 0 0, .int .i64 0, .int .i64 0]) (by simp [results, Try.results15, go_sem]) rfl ?_
    rw [unhide HY]
    exact ⟨[.int .i64 3, .int .i64 0, .int .i64 0, .bool false, .int .i64 0, .int .i64 0, .slice none 0 0, .int .i64 0, .int .i64 0], rfl, (own_badNode (by decide)).lies, unhide HB _⟩

end Go.Proofs.Ytbogjepkdcknfaa

namespace Go.Proofs.Ytbogjepkdcknfaa
open Go.RowKit

theorem writes_few9 {ws : List DWrite} (h : ∀ x ∈ ws, wF x = 0) : cntAll Lay.tWrite.cnt ws ≤ 10 * ws.length := by
  induction ws with
  | nil => simp [cntAll]
  | cons x xs ih =>
    have h1 := ih fun y hy => h y (List.mem_cons_of_mem _ hy)
    have h2 : x.vec.length ≤ 3 := by
      obtain ⟨-, -, -, hk⟩ := writeFault_zero (h x (by simp))
      rcases hk with ⟨-, hv⟩ | ⟨-, hv⟩
      · have := (vecFault_zero hv).1; omega
      · rw [hv]; simp
    have h3 : Lay.tWrite.cnt x = x.vec.length + 4 := by
      have e : cntAll Lay.int.cnt x.vec = x.vec.length := by
        generalize x.vec = l
        induction l with
        | nil => rfl
        | cons y ys ihy => simp only [cntAll, List.length_cons, ihy]; show 1 + ys.length = _; omega
      show 1 + (1 + (cntAll Lay.int.cnt x.vec + (1 + 1))) = _
      omega
    simp only [cntAll, List.length_cons]
    omega
theorem node_few (y : DNodeResult) (h : ∀ x ∈ y.node.writes, wF x = 0) (hl : y.node.writes.length ≤ 1000) : Lay.tNodeResult.vcnt y ≤ 100000000 := by
  rw [vcnt_NodeResult, vcnt_Node]
  show cntAll Lay.tWrite.cnt y.node.writes ≤ 100000000
  have := writes_few9 h
  omega
theorem bad_few (c : Int) : Lay.tNodeResult.vcnt (badNode c) ≤ 100000000 := node_few _ (fun x hx => by cases hx) (by simp [badNode, noNode])
theorem syncR_few (x : DNode) : Lay.tNodeResult.vcnt (syncR x) ≤ 100000000 := by
  unfold syncR
  split
  · rename_i h
    have hok := (askedN_zero h).1
    exact node_few _ hok.ws (by have := hok.len; simp only; omega)
  · exact bad_few _
theorem cleanR_few (x : DNode) (i : Int) : Lay.tNodeResult.vcnt (cleanR x i) ≤ 100000000 := by
  unfold cleanR
  split
  · rename_i h
    have hok := (askedN_zero h).1
    split
    · exact node_few _ hok.ws (by have := hok.len; simp only; omega)
    · exact bad_few _
  · exact bad_few _
theorem crashR_few (x : DNode) (i : Int) : Lay.tNodeResult.vcnt (crashR x i) ≤ 100000000 := by
  unfold crashR
  split
  · rename_i h
    have hok := (askedN_zero h).1
    split
    · exact node_few _ (fun y hy => hok.ws y (List.mem_of_mem_take hy)) (by have := hok.len; simp only [crashN, List.length_take]; omega)
    · exact bad_few _
  · exact bad_few _
end Go.Proofs.Ytbogjepkdcknfaa

namespace Go.Proofs.Ytbogjepkdcknfaa
open Go.RowKit

theorem newNodeR_few (id : Int) : Lay.tNodeResult.vcnt (newNodeR id) ≤ 100000000 := by
  unfold newNodeR
  split
  · exact node_few _ (fun x hx => by cases hx) (by simp)
  · exact bad_few _
theorem lawNewNode (id : Int) (w : World) :
    Calls Try.prog 4 #[.int .i64 id] w fun e w' => e = .returned (.bool true) ∧ Below w.heap.size w w' := by
  refine lawx_NewNode id (newNodeR id) w (fun W => (specNewNode id W).mono fun e w' q => ?_) (fun W => implNewNode id W) (newNodeR_few id)
  obtain ⟨cs, q1, q2, q3⟩ := q
  exact ⟨cs, q1, q2.reads, q3⟩

end Go.Proofs.Ytbogjepkdcknfaa
