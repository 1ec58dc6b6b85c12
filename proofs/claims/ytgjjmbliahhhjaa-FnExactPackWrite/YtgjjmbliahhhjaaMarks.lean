/-
  markInt64S writes the numbers k, k + 1, .. into a slice of the law's own; heldInt64S finds them there; eqIntsResult says that a result is itself.
  Condition: at most 1048576 numbers.
-/
import Derived.Test.YtgjjmbliahhhjaaInts
namespace Go.Proofs.Ytgjjmbliahhhjaa
open Go.RowKit

/-- The numbers k, k + 1, .., n of them. -/
def marks (k : Int) : Nat → List Int
  | 0 => []
  | n + 1 => marks k n ++ [k + (n : Int)]
theorem marks_len (k : Int) (n : Nat) : (marks k n).length = n := by
  induction n with
  | zero => rfl
  | succ n ih => simp [marks, ih]
theorem marks_at (k : Int) (n j : Nat) (h : j < n) : (marks k n).getD j 0 = k + j := by
  induction n with
  | zero => omega
  | succ n ih =>
    by_cases hj : j < n
    · have := ih hj
      simpa [marks, List.getD, List.getElem?_append_left (show j < (marks k n).length by rw [marks_len]; exact hj)] using this
    · obtain rfl : j = n := by omega
      simp [marks, List.getD, marks_len]
theorem marks_wf (k : Int) (n : Nat) (hk : 0 ≤ k) (hk2 : k ≤ 100000000) (hn : n ≤ 1048576) : ∀ z ∈ marks k n, (Lit.int .i64 z).wf = true := by
  intro z hz
  obtain ⟨j, hj, rfl⟩ := List.mem_iff_getElem.1 hz
  rw [marks_len] at hj
  have := marks_at k n j hj
  have e : (marks k n)[j] = k + j := by simpa [List.getD, marks_len, hj] using this
  rw [e]
  exact wf_of_bd (by omega)

theorem set_marks (zs : List Int) (k : Int) (j : Nat) (hj : j < zs.length) :
    (((marks k j) ++ zs.drop j).map (Value.int .i64)).set j (.int .i64 (k + j)) = ((marks k (j + 1)) ++ zs.drop (j + 1)).map (Value.int .i64) := by
  have hl : ((marks k j).map (Value.int .i64)).length = j := by simp [marks_len]
  rw [List.map_append, List.set_append_right _ _ (by omega), hl, Nat.sub_self, List.drop_eq_getElem_cons hj, List.map_cons, List.set_cons_zero]
  simp [marks]

set_option maxHeartbeats 400000 in
theorem markInts_pos (g cap base : Nat) (zs : List Int) (k : Int) (w : World) (hn : zs.length ≤ 1048576) (hk : 0 ≤ k) (hk2 : k ≤ 100000000)
    (hown : w.ownsRow base 2 1 (.slice (some ⟨g, 0, none⟩) zs.length cap) zs.length (zs.map (Value.int .i64))) :
    Calls Try.prog 23 #[.slice (some ⟨g, 0, none⟩) zs.length cap, .int .i64 k] w fun e w' => e = .returned (.int .i64 (k + zs.length)) ∧
      w'.ownsRow base 2 1 (.slice (some ⟨g, 0, none⟩) zs.length cap) zs.length ((marks k zs.length).map (Value.int .i64)) ∧ w.grownBy w' (some g) := by
  go_enter Try.func23, Try.ntmps23
  go_wp2
  go_loopw [1, 5] (fun kk i wr => ∃ j : Nat, j ≤ zs.length ∧ i = .int .i64 j ∧ kk = .int .i64 (k + j) ∧ wr.ownsRow base 2 1 (.slice (some ⟨g, 0, none⟩) zs.length cap) zs.length ((marks k j ++ zs.drop j).map (Value.int .i64)) ∧ w.grownBy wr (some g))
    (fun _ i _ => zs.length - (intOf i).toNat)
  case atStart => exact ⟨0, Nat.zero_le _, rfl, by simp, by simpa [marks] using hown, World.grownBy.refl _ _⟩
  case round =>
    obtain ⟨j, hj, rfl, rfl, hown1, hgr⟩ := hrel
    clear hown
    by_cases hlt : j < zs.length
    · obtain ⟨u, hcd⟩ : ∃ u, wr.cell? ⟨g, j, none⟩ = some u := by
        rw [hown1.cellAt j (by omega)]
        exact ⟨_, List.getElem?_eq_getElem (by simp [marks_len]; omega)⟩
      have hfz := hown1.frozenAt j
      have hst := hown1.stored j (.int .i64 (k + j))
      rw [set_marks zs k j hlt] at hst
      have HO := hide hst.1
      have HG := hide (grown_trans hgr hst.2)
      clear hst hown1 hgr
      go_wp2
      go_roundw
      case rel => exact ⟨j + 1, by omega, by go_num, by go_num, unhide HO, unhide HG⟩
      case measure => simp [intOf]; omega
    · obtain rfl : j = zs.length := by omega
      have HO := hide hown1
      have HG := hide hgr
      clear hown1 hgr
      go_wp2
      go_ret
      exact ⟨rfl, by simpa using unhide HO, unhide HG⟩

theorem markInts_zero (ao : Option Addr) (cap : Nat) (k : Int) (w : World) :
    Calls Try.prog 23 #[.slice ao 0 cap, .int .i64 k] w fun e w' => e = .returned (.int .i64 k) ∧ w' = w := by
  go_enter Try.func23, Try.ntmps23
  go_wp2
  refine wp_loop_rounds 1 ?_
  rw [rounds_succ]
  go_wp2
  go_ret
  exact ⟨rfl, rfl⟩

/-- markInt64S. -/
theorem markInts (v : Value) (base : Nat) (zs : List Int) (k : Int) (w : World) (hn : zs.length ≤ 1048576) (hk : 0 ≤ k) (hk2 : k ≤ 100000000)
    (hown : w.ownsRow base 2 1 v zs.length (zs.map (Value.int .i64))) :
    Calls Try.prog 23 #[v, .int .i64 k] w fun e w' => e = .returned (.int .i64 (k + zs.length)) ∧
      w'.ownsRow base 2 1 v zs.length ((marks k zs.length).map (Value.int .i64)) ∧ w.grownBy w' v.ownBlock := by
  rcases hown.2 with ⟨rfl, h0⟩ | ⟨g, cap, cur, rfl, _⟩
  · obtain rfl : zs = [] := List.eq_nil_of_length_eq_zero h0
    refine (markInts_zero none 0 k w).mono ?_
    rintro e w' ⟨rfl, rfl⟩
    exact ⟨by simp, World.ownsRow_nil _ _ _ _, World.grownBy.refl _ _⟩
  · exact markInts_pos g cap base zs k w hn hk hk2 hown

set_option maxHeartbeats 400000 in
theorem heldInts_pos (b off cap n : Nat) (k : Int) (w : World) (hn : n ≤ 1048576) (hk : 0 ≤ k) (hk2 : k ≤ 100000000) (hc : ∀ j, j < n → w.cell? ⟨b, off + j, none⟩ = some (.int .i64 (k + j))) :
    Calls Try.prog 37 #[.slice (some ⟨b, off, none⟩) n cap, .int .i64 k] w fun e w' => e = .returned (.int .i64 (k + n)) ∧ w' = w := by
  go_enter Try.func37, Try.ntmps37
  go_wp2
  go_loop [1, 5] (fun kk i => ∃ j : Nat, j ≤ n ∧ i = .int .i64 j ∧ kk = .int .i64 (k + j)) (fun _ i => n - (intOf i).toNat)
  case atStart => exact ⟨0, Nat.zero_le _, rfl, by simp⟩
  case round =>
    obtain ⟨j, hj, rfl, rfl⟩ := hrel
    by_cases hlt : j < n
    · have hcx := hc j hlt
      have hne : ((k + (j : Int)) != (k + (j : Int))) = false := by simp
      clear hc
      go_wp2
      go_round
      case rel => exact ⟨j + 1, by omega, by go_num, by go_num⟩
      case measure => simp [intOf]; omega
    · obtain rfl : j = n := by omega
      go_wp2
      go_ret
      exact ⟨rfl, rfl⟩

theorem heldInts_zero (ao : Option Addr) (cap : Nat) (k : Int) (w : World) :
    Calls Try.prog 37 #[.slice ao 0 cap, .int .i64 k] w fun e w' => e = .returned (.int .i64 k) ∧ w' = w := by
  go_enter Try.func37, Try.ntmps37
  go_wp2
  refine wp_loop_rounds 1 ?_
  rw [rounds_succ]
  go_wp2
  go_ret
  exact ⟨rfl, rfl⟩

/-- heldInt64S. -/
theorem heldInts (v : Value) (n : Nat) (k : Int) (w : World) (hn : n ≤ 1048576) (hk : 0 ≤ k) (hk2 : k ≤ 100000000) (h : IsInts w v (marks k n)) :
    Calls Try.prog 37 #[v, .int .i64 k] w fun e w' => e = .returned (.int .i64 (k + n)) ∧ w' = w := by
  obtain ⟨ao, cap, rfl, hwf, hc⟩ := h
  rw [marks_len] at hc ⊢
  by_cases hp : 0 < n
  · obtain ⟨b, off, rfl, hc1⟩ := hc hp
    exact heldInts_pos b off cap n k w hn hk hk2 (fun j hj => by rw [hc1 j hj, marks_at k n j hj])
  · obtain rfl : n = 0 := by omega
    refine (heldInts_zero ao cap k w).mono ?_
    rintro e w' ⟨rfl, rfl⟩
    exact ⟨by simp, rfl⟩

set_option maxHeartbeats 400000 in
theorem markRes (c : Int) (ao : Option Addr) (n cap base : Nat) (zs : List Int) (k : Int) (w : World) (hl : n = zs.length) (hn : zs.length ≤ 1048576) (hk : 0 ≤ k) (hk2 : k ≤ 100000000)
    (hown : w.ownsRow base 2 1 (.slice ao n cap) zs.length (zs.map (Value.int .i64))) :
    Calls Try.prog 16 #[intsRes c (.slice ao n cap), .int .i64 k] w fun e w' => e = .returned (.int .i64 (k + zs.length)) ∧
      w'.ownsRow base 2 1 (.slice ao n cap) zs.length ((marks k zs.length).map (Value.int .i64)) ∧ w.grownBy w' (Value.slice ao n cap).ownBlock := by
  have hl' := hide hl
  clear hl
  simp only [intsRes]
  go_enter Try.func16, Try.ntmps16
  go_wp2_with fail
  refine (markInts _ base zs k _ hn hk hk2 (hown.alloc _)).mono ?_
  rintro e w1 ⟨rfl, ho, hg⟩
  have HO := hide ho
  have HG := hide hg
  clear ho hg hown
  go_wp2_with fail
  go_ret
  exact ⟨rfl, unhide HO, grown_trans (World.grownBy_alloc w _ _) (unhide HG)⟩

set_option maxHeartbeats 400000 in
theorem heldRes (c : Int) (ao : Option Addr) (n cap m : Nat) (k : Int) (w : World) (hn : m ≤ 1048576) (hk : 0 ≤ k) (hk2 : k ≤ 100000000) (h : IsInts w (.slice ao n cap) (marks k m)) :
    Calls Try.prog 17 #[intsRes c (.slice ao n cap), .int .i64 k] w fun e w' => e = .returned (.int .i64 (k + m)) ∧ Below w.heap.size w w' := by
  simp only [intsRes]
  go_enter Try.func17, Try.ntmps17
  go_wp2_with fail
  refine (heldInts _ m k _ hn hk hk2 (h.later ((Below.refl _ _).alloc (Nat.le_refl _) _))).mono ?_
  rintro e w1 ⟨rfl, rfl⟩
  go_wp2_with fail
  go_ret
  exact ⟨rfl, (Below.refl _ _).alloc (Nat.le_refl _) _⟩

set_option maxHeartbeats 400000 in
theorem eqIntsRes (c : Int) (ao ao2 : Option Addr) (n cap n2 cap2 : Nat) (zs : List Int) (w : World) (hn : zs.length ≤ 1048576) (h : IsInts w (.slice ao n cap) zs) (h2 : IsInts w (.slice ao2 n2 cap2) zs) :
    Calls Try.prog 14 #[intsRes c (.slice ao n cap), intsRes c (.slice ao2 n2 cap2)] w fun e w' => e = .returned (.bool true) ∧ Below w.heap.size w w' := by
  have h1 : (c != c) = false := by simp
  have b := fun o o2 => ((Below.refl w.heap.size w).alloc (Nat.le_refl _) o).alloc (by simp) o2
  simp only [intsRes]
  go_enter Try.func14, Try.ntmps14
  go_wp2_with fail
  refine (eqInts _ _ zs _ (h.later (b _ _)) (h2.later (b _ _)) hn).mono ?_
  rintro e w1 ⟨rfl, hb⟩
  have HB := hide ((b _ _).trans (hb.mono (by simp; omega)))
  clear hb b
  go_wp2_with fail
  go_ret
  exact ⟨rfl, unhide HB⟩

end Go.Proofs.Ytgjjmbliahhhjaa
