/-
  toHitS gives a new slice of the same hits; eqHitS says that two slices of the same hits are the same.
  Condition: at most 1048576 hits.
-/
import Derived.Test.YtplhhdnmhcnhgaaChecked
import Derived.Test.YtplhhdnmhcnhgaaHits
import Derived.BigQuiet
import Derived.Deep.QuietTactic
import Derived.Deep.RegionWith
namespace Go.Proofs.Ytplhhdnmhcnhgaa
open Go.RowKit

theorem infoHit : (Try.prog.info? 31).map (fun i => (i.zero, i.size, i.bytes)) = some (some (.agg #[.int .i64 0, .int .i64 0]), 2, 16) := by kernel_rfl

theorem made2 (n : Nat) : (madeCells #[.int .i64 0, .int .i64 0] (n * 2)).toList = cells2 (List.replicate n (0, 0)) := by
  apply List.ext_getElem?
  intro j
  by_cases hj : j < n * 2
  · obtain ⟨u, hu⟩ : ∃ u, (cells2 (List.replicate n (0, 0)))[j]? = some u := ⟨_, List.getElem?_eq_getElem (by rw [cells2_len]; simpa using hj)⟩
    obtain ⟨k, x, y, h1, h2⟩ := cells2_get _ _ _ hu
    rw [hu]
    simp [List.getElem?_replicate] at h1
    obtain ⟨h3, rfl, rfl⟩ := h1
    have hm : j % 2 = 0 ∨ j % 2 = 1 := by omega
    rcases h2 with ⟨-, rfl⟩ | ⟨-, rfl⟩ <;> rcases hm with hm | hm <;> simp [madeCells, hj, hm]
  · have h1 : (cells2 (List.replicate n ((0 : Int), (0 : Int)))).length = n * 2 := by rw [cells2_len]; simp
    rw [List.getElem?_eq_none (l := cells2 _) (by rw [h1]; omega)]
    simp [madeCells, hj]

theorem toHit (x y : Int) (w : World) :
    Calls Try.prog 28 #[.agg #[.int .i64 x, .int .i64 y]] w fun e w' => e = .returned (.agg #[.int .i64 x, .int .i64 y]) ∧ Below w.heap.size w w' := by
  go_enter Try.func28, Try.ntmps28
  go_wp2_with fail
  refine bodyPost_ret (v := .agg #[.int .i64 x, .int .i64 y]) (by simp [results, Try.results28, go_sem]) rfl ⟨rfl, ?_⟩
  exact (((Below.refl _ _).alloc (Nat.le_refl _) _).alloc (by simp) _).alloc (by simp; omega) _

/-- Hits that are filled in, up to k. -/
theorem set_fill2 (hs : List (Int × Int)) (k : Nat) (x y : Int) (hk : hs[k]? = some (x, y)) :
    ((cells2 (hs.take k ++ List.replicate (hs.length - k) (0, 0))).set (k * 2) (.int .i64 x)).set (k * 2 + 1) (.int .i64 y) = cells2 (hs.take (k + 1) ++ List.replicate (hs.length - (k + 1)) (0, 0)) := by
  have hlt : k < hs.length := by
    rcases Nat.lt_or_ge k hs.length with h | h
    · exact h
    · rw [List.getElem?_eq_none h] at hk; cases hk
  have hl : (cells2 (hs.take k)).length = k * 2 := by rw [cells2_len]; simp; omega
  rw [cells2_app, List.set_append_right _ _ (by omega), List.set_append_right _ _ (by omega), hl, Nat.sub_self, show k * 2 + 1 - k * 2 = 1 by omega]
  obtain ⟨m, hm⟩ : ∃ m, hs.length - k = m + 1 := ⟨hs.length - k - 1, by omega⟩
  rw [hm, show hs.length - (k + 1) = m by omega, List.replicate_succ, List.take_succ_eq_append_getElem hlt, cells2_app, cells2_app]
  have he : hs[k] = (x, y) := by simpa [hlt] using hk
  rw [he]
  simp [cells2]

set_option maxHeartbeats 1000000 in
theorem toHits_pos (b off cap : Nat) (hs : List (Int × Int)) (w : World) (hn : hs.length ≤ 1048576) (hc : ∀ j x y, hs[j]? = some (x, y) → w.cell? ⟨b, off + j * 2, none⟩ = some (.int .i64 x) ∧ w.cell? ⟨b, off + j * 2 + 1, none⟩ = some (.int .i64 y)) :
    Calls Try.prog 25 #[.slice (some ⟨b, off, none⟩) hs.length cap] w fun e w' => e = .returned (.slice (some ⟨w.heap.size, 0, none⟩) hs.length hs.length) ∧
      w'.ownsRow w.heap.size 31 2 (.slice (some ⟨w.heap.size, 0, none⟩) hs.length hs.length) hs.length (cells2 hs) ∧ Below w.heap.size w w' := by
  obtain ⟨i0, hi, hz0, hz1, hz2⟩ := info_parts infoHit
  go_enter Try.func25, Try.ntmps25
  go_wp2_with (at_make; refine wpList_make_full _ rfl _ _ 24 rfl w.heap.size 31 i0 _ 2 Try.underlying24 hi hz0 hz1 _ _ _ _ hs.length rfl rfl rfl rfl ?c1 ?c2 ?c3 ?_)
  case c1 => rw [hz2]; omega
  case c2 => unfold maxLen; omega
  case c3 => exact Nat.le_refl _
  intro w1 hown1 hgrow1
  have hB1 : Below w.heap.size w w1 := (Below.refl _ _).grown hgrow1 (Nat.le_refl _) (by simp)
  rw [made2] at hown1
  clear hgrow1 hi hz0 hz1 hz2
  go_wp2_with fail
  go_loopw [4] (fun i wr => ∃ k : Nat, k ≤ hs.length ∧ i = .int .i64 k ∧ wr.ownsRow w.heap.size 31 2 (.slice (some ⟨w.heap.size, 0, none⟩) hs.length hs.length) hs.length (cells2 (hs.take k ++ List.replicate (hs.length - k) (0, 0))) ∧ Below w.heap.size w wr)
    (fun i _ => hs.length - (intOf i).toNat)
  case atStart => exact ⟨0, Nat.zero_le _, rfl, by simpa using hown1, hB1⟩
  case round =>
    obtain ⟨k, hk, rfl, hown, hB⟩ := hrel
    clear hown1 hB1
    by_cases hlt : k < hs.length
    · obtain ⟨x, y, hxy⟩ : ∃ x y, hs[k]? = some (x, y) := ⟨hs[k].1, hs[k].2, by simp [hlt]⟩
      have hcx : wr.cell? ⟨b, off + k * 2, none⟩ = some (.int .i64 x) := (hB.cell (World.block_lt_of_cell? _ _ (hc k x y hxy).1)).trans (hc k x y hxy).1
      have hcy : wr.cell? ⟨b, off + k * 2 + 1, none⟩ = some (.int .i64 y) := (hB.cell (World.block_lt_of_cell? _ _ (hc k x y hxy).2)).trans (hc k x y hxy).2
      have hlen : (cells2 (hs.take k ++ List.replicate (hs.length - k) (0, 0))).length = hs.length * 2 := by rw [cells2_len]; simp; omega
      clear hc
      go_wp2_with fail
      refine (toHit x y _).mono ?_
      rintro e w2 ⟨rfl, hb2⟩
      have hown2 := own_below hown hb2
      have hB2 := hB.trans (hb2.mono hB.size)
      obtain ⟨u1, hd1⟩ : ∃ u, w2.cell? ⟨w.heap.size, k * 2, none⟩ = some u := by
        rw [hown2.cellAt (k * 2) (by omega)]
        exact ⟨_, List.getElem?_eq_getElem (by omega)⟩
      obtain ⟨u2, hd2⟩ : ∃ u, w2.cell? ⟨w.heap.size, k * 2 + 1, none⟩ = some u := by
        rw [hown2.cellAt (k * 2 + 1) (by omega)]
        exact ⟨_, List.getElem?_eq_getElem (by omega)⟩
      have hf1 := hown2.frozenAt (k * 2)
      have hf2 := hown2.frozenAt (k * 2 + 1)
      have hst := (hown2.stored (k * 2) (.int .i64 x)).1.stored (k * 2 + 1) (.int .i64 y)
      rw [set_fill2 hs k x y hxy] at hst
      have R := hide hst.1
      have RB : Hid (Below w.heap.size w ((w2.setCell ⟨w.heap.size, k * 2, none⟩ (.int .i64 x)).setCell ⟨w.heap.size, k * 2 + 1, none⟩ (.int .i64 y))) := (hB2.setCell (by simp) _).setCell (by simp) _
      clear hown hown2 hB hB2 hb2 hst hlen hcx hcy hxy
      go_wp2_with fail
      go_roundw
      case rel => exact ⟨k + 1, by omega, by go_num, unhide R, unhide RB⟩
      case measure => simp [intOf]; omega
    · obtain rfl : k = hs.length := by omega
      clear hc
      go_wp2_with fail
      go_ret
      exact ⟨rfl, by simpa using hown, hB⟩

set_option maxHeartbeats 400000 in
theorem toHits_zero (ao : Option Addr) (cap : Nat) (w : World) :
    Calls Try.prog 25 #[.slice ao 0 cap] w fun e w' => e = .returned (.slice (some ⟨w.heap.size, 0, none⟩) 0 0) ∧
      w'.ownsRow w.heap.size 31 2 (.slice (some ⟨w.heap.size, 0, none⟩) 0 0) 0 [] ∧ Below w.heap.size w w' := by
  obtain ⟨i0, hi, hz0, hz1, hz2⟩ := info_parts infoHit
  go_enter Try.func25, Try.ntmps25
  go_wp2_with (at_make; refine wpList_make_full _ rfl _ _ 24 rfl w.heap.size 31 i0 _ 2 Try.underlying24 hi hz0 hz1 _ _ _ _ 0 rfl rfl rfl rfl ?c1 ?c2 ?c3 ?_)
  case c1 => rw [hz2]; omega
  case c2 => unfold maxLen; omega
  case c3 => exact Nat.le_refl _
  intro w1 hown1 hgrow1
  have hB1 : Below w.heap.size w w1 := (Below.refl _ _).grown hgrow1 (Nat.le_refl _) (by simp)
  clear hgrow1 hi hz0 hz1 hz2
  have hm0 : (madeCells #[.int .i64 0, .int .i64 0] 0).toList = [] := made2 0
  rw [hm0] at hown1
  go_wp2_with fail
  refine wp_loop_rounds 1 ?_
  rw [rounds_succ]
  go_wp2_with fail
  go_ret
  exact ⟨rfl, hown1, hB1⟩

/-- toHitS: a new slice of the same hits. -/
theorem toHits (v : Value) (hs : List (Int × Int)) (w : World) (h : IsHits w v hs) (hn : hs.length ≤ 1048576) :
    Calls Try.prog 25 #[v] w fun e w' => ∃ v', e = .returned v' ∧ v' = .slice (some ⟨w.heap.size, 0, none⟩) hs.length hs.length ∧
      w'.ownsRow w.heap.size 31 2 v' hs.length (cells2 hs) ∧ IsHits w' v' hs ∧ Below w.heap.size w w' := by
  obtain ⟨ao, cap, rfl, h1, h2, hwf, hc⟩ := h
  by_cases hp : 0 < hs.length
  · obtain ⟨b, off, rfl, hc1⟩ := hc hp
    refine (toHits_pos b off cap hs w hn hc1).mono ?_
    rintro e w' ⟨rfl, ho, hb⟩
    exact ⟨_, rfl, rfl, ho, isHits_row hwf ho, hb⟩
  · have hz : hs = [] := List.eq_nil_of_length_eq_zero (by omega)
    subst hz
    refine (toHits_zero ao cap w).mono ?_
    rintro e w' ⟨rfl, ho, hb⟩
    exact ⟨_, rfl, rfl, ho, isHits_row hwf ho, hb⟩

theorem eqHit_same (x y : Int) (w : World) :
    Calls Try.prog 50 #[.agg #[.int .i64 x, .int .i64 y], .agg #[.int .i64 x, .int .i64 y]] w fun e w' => e = .returned (.bool true) ∧ Below w.heap.size w w' := by
  have h1 : (x != x) = false := by simp
  have h2 : (y != y) = false := by simp
  go_enter Try.func50, Try.ntmps50
  go_wp2_with fail
  go_ret
  exact ⟨rfl, ((Below.refl _ _).alloc (Nat.le_refl _) _).alloc (by simp) _⟩

theorem below_keep2 {w W W' : World} (h : Below w.heap.size w W) (k : Below W.heap.size W W') : Below w.heap.size w W' := h.trans (k.mono h.size)

set_option maxHeartbeats 1000000 in
theorem eqHits_pos (b off cap b2 off2 cap2 : Nat) (hs : List (Int × Int)) (w : World) (hn : hs.length ≤ 1048576) (hc : ∀ j x y, hs[j]? = some (x, y) → w.cell? ⟨b, off + j * 2, none⟩ = some (.int .i64 x) ∧ w.cell? ⟨b, off + j * 2 + 1, none⟩ = some (.int .i64 y))
    (hc2 : ∀ j x y, hs[j]? = some (x, y) → w.cell? ⟨b2, off2 + j * 2, none⟩ = some (.int .i64 x) ∧ w.cell? ⟨b2, off2 + j * 2 + 1, none⟩ = some (.int .i64 y)) :
    Calls Try.prog 26 #[.slice (some ⟨b, off, none⟩) hs.length cap, .slice (some ⟨b2, off2, none⟩) hs.length cap2] w fun e w' => e = .returned (.bool true) ∧ Below w.heap.size w w' := by
  go_enter Try.func26, Try.ntmps26
  go_wp2_with fail
  go_loopw [5] (fun i wr => ∃ k : Nat, k ≤ hs.length ∧ i = .int .i64 k ∧ Below w.heap.size w wr) (fun i _ => hs.length - (intOf i).toNat)
  case atStart => exact ⟨0, Nat.zero_le _, rfl, Below.refl _ _⟩
  case round =>
    obtain ⟨k, hk, rfl, hB⟩ := hrel
    by_cases hlt : k < hs.length
    · obtain ⟨x, y, hxy⟩ : ∃ x y, hs[k]? = some (x, y) := ⟨hs[k].1, hs[k].2, by simp [hlt]⟩
      have c1 := (hB.cell (World.block_lt_of_cell? _ _ (hc k x y hxy).1)).trans (hc k x y hxy).1
      have c2 := (hB.cell (World.block_lt_of_cell? _ _ (hc k x y hxy).2)).trans (hc k x y hxy).2
      have c3 := (hB.cell (World.block_lt_of_cell? _ _ (hc2 k x y hxy).1)).trans (hc2 k x y hxy).1
      have c4 := (hB.cell (World.block_lt_of_cell? _ _ (hc2 k x y hxy).2)).trans (hc2 k x y hxy).2
      have HB := hide hB
      clear hc hc2 hB hxy
      go_wp2_with fail
      first
        | go_region_with (go_at_call 50; refine (eqHit_same x y _).mono ?_; rintro e w2 ⟨rfl, hb2⟩)
        | fail
      all_goals go_wp2_with fail
      all_goals exact ⟨⟨k + 1, by omega, by go_num, below_keep2 (unhide HB).drew hb2⟩, by simp [intOf]; omega⟩
    · clear hc hc2
      go_wp2_with fail
      go_ret
      exact ⟨rfl, hB⟩

set_option maxHeartbeats 400000 in
theorem eqHits_zero (ao ao2 : Option Addr) (cap cap2 : Nat) (w : World) :
    Calls Try.prog 26 #[.slice ao 0 cap, .slice ao2 0 cap2] w fun e w' => e = .returned (.bool true) ∧ Below w.heap.size w w' := by
  go_enter Try.func26, Try.ntmps26
  go_wp2_with fail
  refine wp_loop_rounds 1 ?_
  rw [rounds_succ]
  go_wp2_with fail
  go_ret
  exact ⟨rfl, Below.refl _ _⟩

/-- eqHitS: two slices of the same hits are the same. -/
theorem eqHits (v v2 : Value) (hs : List (Int × Int)) (w : World) (h : IsHits w v hs) (h2 : IsHits w v2 hs) (hn : hs.length ≤ 1048576) :
    Calls Try.prog 26 #[v, v2] w fun e w' => e = .returned (.bool true) ∧ Below w.heap.size w w' := by
  obtain ⟨ao, cap, rfl, _, _, hwf, hc⟩ := h
  obtain ⟨ao2, cap2, rfl, _, _, _, hc2⟩ := h2
  by_cases hp : 0 < hs.length
  · obtain ⟨b, off, rfl, hc1⟩ := hc hp
    obtain ⟨b2, off2, rfl, hc3⟩ := hc2 hp
    exact eqHits_pos b off cap b2 off2 cap2 hs w hn hc1 hc3
  · have hz : hs = [] := List.eq_nil_of_length_eq_zero (by omega)
    subst hz
    exact eqHits_zero ao ao2 cap cap2 w

end Go.Proofs.Ytplhhdnmhcnhgaa
