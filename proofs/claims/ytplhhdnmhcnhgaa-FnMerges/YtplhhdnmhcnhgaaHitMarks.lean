/-
  markHitS writes the numbers k, k + 1, .. into hits of the law's own; heldHitS finds them there; eqHitsResult says that a result is itself.
  Condition: at most 1048576 hits.
-/
import Derived.Test.YtplhhdnmhcnhgaaToHits
namespace Go.Proofs.Ytplhhdnmhcnhgaa
open Go.RowKit

/-- The hits (k, k + 1), (k + 2, k + 3), .., n of them. -/
def marks2 (k : Int) : Nat → List (Int × Int)
  | 0 => []
  | n + 1 => marks2 k n ++ [(k + (n : Int) * 2, k + (n : Int) * 2 + 1)]
theorem marks2_len (k : Int) (n : Nat) : (marks2 k n).length = n := by
  induction n with
  | zero => rfl
  | succ n ih => simp [marks2, ih]
theorem marks2_at (k : Int) (n j : Nat) (h : j < n) : (marks2 k n)[j]? = some (k + (j : Int) * 2, k + (j : Int) * 2 + 1) := by
  induction n with
  | zero => omega
  | succ n ih =>
    by_cases hj : j < n
    · simpa [marks2, List.getElem?_append_left (show j < (marks2 k n).length by rw [marks2_len]; exact hj)] using ih hj
    · obtain rfl : j = n := by omega
      simp [marks2, marks2_len]
theorem marks2_wf (k : Int) (n : Nat) (hk : 0 ≤ k) (hk2 : k ≤ 100000000) (hn : n ≤ 1048576) : ∀ z ∈ marks2 k n, Wf2 z := by
  intro z hz
  obtain ⟨j, hj, rfl⟩ := List.mem_iff_getElem.1 hz
  rw [marks2_len] at hj
  have e : (marks2 k n)[j] = (k + (j : Int) * 2, k + (j : Int) * 2 + 1) := by simpa [marks2_len, hj] using marks2_at k n j hj
  rw [e]
  exact ⟨wf_of_bd (by omega), wf_of_bd (by omega)⟩

theorem set_marks2 (hs : List (Int × Int)) (k : Int) (j : Nat) (hj : j < hs.length) :
    ((cells2 (marks2 k j ++ hs.drop j)).set (j * 2) (.int .i64 (k + (j : Int) * 2))).set (j * 2 + 1) (.int .i64 (k + (j : Int) * 2 + 1)) = cells2 (marks2 k (j + 1) ++ hs.drop (j + 1)) := by
  have hl : (cells2 (marks2 k j)).length = j * 2 := by rw [cells2_len, marks2_len]
  rw [cells2_app, List.set_append_right _ _ (by omega), List.set_append_right _ _ (by omega), hl, Nat.sub_self, show j * 2 + 1 - j * 2 = 1 by omega, List.drop_eq_getElem_cons hj]
  simp [cells2, marks2, cells2_app]

set_option maxHeartbeats 1000000 in
theorem markHits_pos (g cap base : Nat) (hs : List (Int × Int)) (k : Int) (w : World) (hn : hs.length ≤ 1048576) (hk : 0 ≤ k) (hk2 : k ≤ 100000000)
    (hown : w.ownsRow base 31 2 (.slice (some ⟨g, 0, none⟩) hs.length cap) hs.length (cells2 hs)) :
    Calls Try.prog 30 #[.slice (some ⟨g, 0, none⟩) hs.length cap, .int .i64 k] w fun e w' => e = .returned (.int .i64 (k + hs.length * 2)) ∧
      w'.ownsRow base 31 2 (.slice (some ⟨g, 0, none⟩) hs.length cap) hs.length (cells2 (marks2 k hs.length)) ∧ w.grownBy w' (some g) := by
  go_enter Try.func30, Try.ntmps30
  go_wp2_with fail
  go_loopw [1, 5] (fun kk i wr => ∃ j : Nat, j ≤ hs.length ∧ i = .int .i64 j ∧ kk = .int .i64 (k + (j : Int) * 2) ∧ wr.ownsRow base 31 2 (.slice (some ⟨g, 0, none⟩) hs.length cap) hs.length (cells2 (marks2 k j ++ hs.drop j)) ∧ w.grownBy wr (some g))
    (fun _ i _ => hs.length - (intOf i).toNat)
  case atStart => exact ⟨0, Nat.zero_le _, rfl, by simp, by simpa [marks2] using hown, World.grownBy.refl _ _⟩
  case round =>
    obtain ⟨j, hj, rfl, rfl, hown1, hgr⟩ := hrel
    clear hown
    by_cases hlt : j < hs.length
    · have hlen : (cells2 (marks2 k j ++ hs.drop j)).length = hs.length * 2 := by rw [cells2_len]; simp [marks2_len]; omega
      obtain ⟨u1, hd1⟩ : ∃ u, wr.cell? ⟨g, j * 2, none⟩ = some u := by
        rw [hown1.cellAt (j * 2) (by omega)]
        exact ⟨_, List.getElem?_eq_getElem (by omega)⟩
      obtain ⟨u2, hd2⟩ : ∃ u, wr.cell? ⟨g, j * 2 + 1, none⟩ = some u := by
        rw [hown1.cellAt (j * 2 + 1) (by omega)]
        exact ⟨_, List.getElem?_eq_getElem (by omega)⟩
      have hf1 := hown1.frozenAt (j * 2)
      have hf2 := hown1.frozenAt (j * 2 + 1)
      have hs1 := hown1.stored (j * 2) (.int .i64 (k + (j : Int) * 2))
      have hst := hs1.1.stored (j * 2 + 1) (.int .i64 (k + (j : Int) * 2 + 1))
      rw [set_marks2 hs k j hlt] at hst
      have HO := hide hst.1
      have HG := hide (grown_trans (grown_trans hgr hs1.2) hst.2)
      clear hst hown1 hgr hs1 hlen
      go_wp2_with fail
      go_roundw
      case rel => exact ⟨j + 1, by omega, by go_num, by go_num, unhide HO, unhide HG⟩
      case measure => simp [intOf]; omega
    · obtain rfl : j = hs.length := by omega
      have HO := hide hown1
      have HG := hide hgr
      clear hown1 hgr
      go_wp2_with fail
      go_ret
      exact ⟨rfl, by simpa using unhide HO, unhide HG⟩

theorem markHits_zero (ao : Option Addr) (cap : Nat) (k : Int) (w : World) :
    Calls Try.prog 30 #[.slice ao 0 cap, .int .i64 k] w fun e w' => e = .returned (.int .i64 k) ∧ w' = w := by
  go_enter Try.func30, Try.ntmps30
  go_wp2_with fail
  refine wp_loop_rounds 1 ?_
  rw [rounds_succ]
  go_wp2_with fail
  go_ret
  exact ⟨rfl, rfl⟩

/-- markHitS. -/
theorem markHits (v : Value) (base : Nat) (hs : List (Int × Int)) (k : Int) (w : World) (hn : hs.length ≤ 1048576) (hk : 0 ≤ k) (hk2 : k ≤ 100000000)
    (hown : w.ownsRow base 31 2 v hs.length (cells2 hs)) :
    Calls Try.prog 30 #[v, .int .i64 k] w fun e w' => e = .returned (.int .i64 (k + hs.length * 2)) ∧
      w'.ownsRow base 31 2 v hs.length (cells2 (marks2 k hs.length)) ∧ w.grownBy w' v.ownBlock := by
  rcases hown.2 with ⟨rfl, h0⟩ | ⟨g, cap, cur, rfl, _⟩
  · obtain rfl : hs = [] := List.eq_nil_of_length_eq_zero h0
    refine (markHits_zero none 0 k w).mono ?_
    rintro e w' ⟨rfl, rfl⟩
    exact ⟨by simp, World.ownsRow_nil _ _ _ _, World.grownBy.refl _ _⟩
  · exact markHits_pos g cap base hs k w hn hk hk2 hown

set_option maxHeartbeats 1000000 in
theorem heldHits_pos (b off cap n : Nat) (k : Int) (w : World) (hn : n ≤ 1048576) (hk : 0 ≤ k) (hk2 : k ≤ 100000000) (hc : ∀ j, j < n → w.cell? ⟨b, off + j * 2, none⟩ = some (.int .i64 (k + (j : Int) * 2)) ∧ w.cell? ⟨b, off + j * 2 + 1, none⟩ = some (.int .i64 (k + (j : Int) * 2 + 1))) :
    Calls Try.prog 52 #[.slice (some ⟨b, off, none⟩) n cap, .int .i64 k] w fun e w' => e = .returned (.int .i64 (k + n * 2)) ∧ w' = w := by
  go_enter Try.func52, Try.ntmps52
  go_wp2_with fail
  go_loop [1, 5] (fun kk i => ∃ j : Nat, j ≤ n ∧ i = .int .i64 j ∧ kk = .int .i64 (k + (j : Int) * 2)) (fun _ i => n - (intOf i).toNat)
  case atStart => exact ⟨0, Nat.zero_le _, rfl, by simp⟩
  case round =>
    obtain ⟨j, hj, rfl, rfl⟩ := hrel
    by_cases hlt : j < n
    · obtain ⟨hcx, hcy⟩ := hc j hlt
      have hne : ((k + (j : Int) * 2) != (k + (j : Int) * 2)) = false := by simp
      have hne2 : ((k + (j : Int) * 2 + 1) != (k + (j : Int) * 2 + 1)) = false := by simp
      clear hc
      go_wp2_with fail
      go_round
      case rel => exact ⟨j + 1, by omega, by go_num, by go_num⟩
      case measure => simp [intOf]; omega
    · obtain rfl : j = n := by omega
      go_wp2_with fail
      go_ret
      exact ⟨rfl, rfl⟩

theorem heldHits_zero (ao : Option Addr) (cap : Nat) (k : Int) (w : World) :
    Calls Try.prog 52 #[.slice ao 0 cap, .int .i64 k] w fun e w' => e = .returned (.int .i64 k) ∧ w' = w := by
  go_enter Try.func52, Try.ntmps52
  go_wp2_with fail
  refine wp_loop_rounds 1 ?_
  rw [rounds_succ]
  go_wp2_with fail
  go_ret
  exact ⟨rfl, rfl⟩

/-- heldHitS. -/
theorem heldHits (v : Value) (n : Nat) (k : Int) (w : World) (hn : n ≤ 1048576) (hk : 0 ≤ k) (hk2 : k ≤ 100000000) (h : IsHits w v (marks2 k n)) :
    Calls Try.prog 52 #[v, .int .i64 k] w fun e w' => e = .returned (.int .i64 (k + n * 2)) ∧ w' = w := by
  obtain ⟨ao, cap, rfl, _, _, hwf, hc⟩ := h
  rw [marks2_len] at hc ⊢
  by_cases hp : 0 < n
  · obtain ⟨b, off, rfl, hc1⟩ := hc hp
    exact heldHits_pos b off cap n k w hn hk hk2 (fun j hj => hc1 j _ _ (marks2_at k n j hj))
  · obtain rfl : n = 0 := by omega
    refine (heldHits_zero ao cap k w).mono ?_
    rintro e w' ⟨rfl, rfl⟩
    exact ⟨by simp, rfl⟩

set_option maxHeartbeats 400000 in
theorem markHitsRes (c : Int) (ao : Option Addr) (n cap base : Nat) (hs : List (Int × Int)) (k : Int) (w : World) (hl : n = hs.length) (hn : hs.length ≤ 1048576) (hk : 0 ≤ k) (hk2 : k ≤ 100000000)
    (hown : w.ownsRow base 31 2 (.slice ao n cap) hs.length (cells2 hs)) :
    Calls Try.prog 31 #[intsRes c (.slice ao n cap), .int .i64 k] w fun e w' => e = .returned (.int .i64 (k + hs.length * 2)) ∧
      w'.ownsRow base 31 2 (.slice ao n cap) hs.length (cells2 (marks2 k hs.length)) ∧ w.grownBy w' (Value.slice ao n cap).ownBlock := by
  have hl' := hide hl
  clear hl
  simp only [intsRes]
  go_enter Try.func31, Try.ntmps31
  go_wp2_with fail
  refine (markHits _ base hs k _ hn hk hk2 (hown.alloc _)).mono ?_
  rintro e w1 ⟨rfl, ho, hg⟩
  have HO := hide ho
  have HG := hide hg
  clear ho hg hown
  go_wp2_with fail
  go_ret
  exact ⟨rfl, unhide HO, grown_trans (World.grownBy_alloc w _ _) (unhide HG)⟩

set_option maxHeartbeats 400000 in
theorem heldHitsRes (c : Int) (ao : Option Addr) (n cap m : Nat) (k : Int) (w : World) (hn : m ≤ 1048576) (hk : 0 ≤ k) (hk2 : k ≤ 100000000) (h : IsHits w (.slice ao n cap) (marks2 k m)) :
    Calls Try.prog 32 #[intsRes c (.slice ao n cap), .int .i64 k] w fun e w' => e = .returned (.int .i64 (k + m * 2)) ∧ Below w.heap.size w w' := by
  simp only [intsRes]
  go_enter Try.func32, Try.ntmps32
  go_wp2_with fail
  refine (heldHits _ m k _ hn hk hk2 (h.later ((Below.refl _ _).alloc (Nat.le_refl _) _))).mono ?_
  rintro e w1 ⟨rfl, rfl⟩
  go_wp2_with fail
  go_ret
  exact ⟨rfl, (Below.refl _ _).alloc (Nat.le_refl _) _⟩

set_option maxHeartbeats 400000 in
theorem eqHitsRes (c : Int) (ao ao2 : Option Addr) (n cap n2 cap2 : Nat) (hs : List (Int × Int)) (w : World) (hn : hs.length ≤ 1048576) (h : IsHits w (.slice ao n cap) hs) (h2 : IsHits w (.slice ao2 n2 cap2) hs) :
    Calls Try.prog 29 #[intsRes c (.slice ao n cap), intsRes c (.slice ao2 n2 cap2)] w fun e w' => e = .returned (.bool true) ∧ Below w.heap.size w w' := by
  have h1 : (c != c) = false := by simp
  have b := fun o o2 => ((Below.refl w.heap.size w).alloc (Nat.le_refl _) o).alloc (by simp) o2
  simp only [intsRes]
  go_enter Try.func29, Try.ntmps29
  go_wp2_with fail
  refine (eqHits _ _ hs _ (h.later (b _ _)) (h2.later (b _ _)) hn).mono ?_
  rintro e w1 ⟨rfl, hb⟩
  have HB := hide ((b _ _).trans (hb.mono (by simp; omega)))
  clear hb b
  go_wp2_with fail
  go_ret
  exact ⟨rfl, unhide HB⟩

theorem isHits_marks {w : World} {base T n : Nat} {v : Value} {k : Int} (hk : 0 ≤ k) (hk2 : k ≤ 100000000) (hn : n ≤ 1048576) (h : w.ownsRow base T 2 v n (cells2 (marks2 k n))) : IsHits w v (marks2 k n) := by
  refine isHits_row (base := base) (T := T) (marks2_wf k n hk hk2 hn) ?_
  rw [marks2_len]
  exact h

theorem szHits_ok (ao : Option Addr) (n cap : Nat) (l : Nat) (w : World) (hn : n ≤ l) (hl : l ≤ 1048576) :
    Calls Try.prog 23 #[.slice ao n cap, .int .i64 l] w fun e w' => e = .returned (.int .i64 ((l - n : Nat) : Int)) ∧ w' = w := by
  have e1 : (l : Int) - (n : Int) = ((l - n : Nat) : Int) := by omega
  have e2 : decide (((l - n : Nat) : Int) < 0) = false := by simp
  go_enter Try.func23, Try.ntmps23
  go_wp2_with fail
  go_ret
  exact ⟨rfl, rfl⟩
theorem szHits_many (ao : Option Addr) (n cap : Nat) (l : Nat) (w : World) (hn : l < n) (hl : l ≤ 1048576) (hm : n ≤ 9223372036854775807) :
    Calls Try.prog 23 #[.slice ao n cap, .int .i64 l] w fun e w' => e = .returned (.int .i64 (-1)) ∧ w' = w := by
  have e2 : decide ((l : Int) - (n : Int) < 0) = true := by simp; omega
  go_enter Try.func23, Try.ntmps23
  go_wp2_with fail
  go_ret
  exact ⟨rfl, rfl⟩

end Go.Proofs.Ytplhhdnmhcnhgaa
