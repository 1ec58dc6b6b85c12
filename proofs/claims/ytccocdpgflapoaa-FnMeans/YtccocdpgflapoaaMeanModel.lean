/-
  MeanOf of the model: the fault; or the three means, as a new slice.
  No condition.
-/
import Derived.Test.YtccocdpgflapoaaMeanOf
import Derived.Test.YtccocdpgflapoaaInfo
import Derived.Deep.RegionHeld3
import Derived.Deep.RegionLaw
import Derived.Deep.AppendLies
import Derived.Laws.Pointers
namespace Go.Proofs.Ytccocdpgflapoaa
open Go.RowKit

theorem modelMean_n (ao : Option Addr) (len cap : Nat) (n : Int) (w : World) (h : n < 1 ∨ 1000 < n) :
    Calls Try.prog 14 #[.slice ao len cap, .int .i64 n] w fun e w' => e = .returned (intsRes 3 (.slice none 0 0)) ∧ Below w.heap.size w w' := by
  by_cases h1 : n < 1
  · clear h
    go_enter Try.func14, Try.ntmps14
    go_wp2
    refine bodyPost_ret (v := intsRes 3 (.slice none 0 0)) (by simp [results, Try.results14, go_sem, intsRes]) rfl ⟨rfl, ?_⟩
    exact (Below.refl _ _).alloc (Nat.le_refl _) _
  · have h2 : 1000 < n := by omega
    have hd : decide (n ≤ 1000) = false := by simp; omega
    clear h
    go_enter Try.func14, Try.ntmps14
    go_wp2
    refine bodyPost_ret (v := intsRes 3 (.slice none 0 0)) (by simp [results, Try.results14, go_sem, intsRes]) rfl ⟨rfl, ?_⟩
    exact (Below.refl _ _).alloc (Nat.le_refl _) _

theorem modelMean_len (ao : Option Addr) (len cap : Nat) (n : Int) (w : World) (h1 : 1 ≤ n) (h2 : n ≤ 1000) (hl : len ≠ 3) :
    Calls Try.prog 14 #[.slice ao len cap, .int .i64 n] w fun e w' => e = .returned (intsRes 1 (.slice none 0 0)) ∧ Below w.heap.size w w' := by
  have hd : decide (n ≤ 1000) = true := by simp; omega
  have h3 : ((len : Int) != 3) = true := by rw [bne_iff_ne]; omega
  go_enter Try.func14, Try.ntmps14
  go_wp2
  refine bodyPost_ret (v := intsRes 1 (.slice none 0 0)) (by simp [results, Try.results14, go_sem, intsRes]) rfl ⟨rfl, ?_⟩
  exact (Below.refl _ _).alloc (Nat.le_refl _) _

set_option maxHeartbeats 400000 in
theorem modelMean_bad (b off cap : Nat) (zs : List Int) (n : Int) (w : World) (hbl : b < w.heap.size) (h1 : 1 ≤ n) (h2 : n ≤ 1000) (h : zs.length = 3) (hf : meanFault zs n ≠ 0) (hc : ∀ j, j < 3 → w.cell? ⟨b, off + j, none⟩ = some (.int .i64 (zs.getD j 0))) :
    Calls Try.prog 14 #[.slice (some ⟨b, off, none⟩) 3 cap, .int .i64 n] w fun e w' => e = .returned (intsRes 3 (.slice none 0 0)) ∧ Below w.heap.size w w' := by
  have hd : decide (n ≤ 1000) = true := by simp; omega
  have HF := hide hf
  clear hf
  go_enter Try.func14, Try.ntmps14
  go_wp2
  go_loop [5] (fun i => ∃ k : Nat, k ≤ 3 ∧ i = .int .i64 k ∧ ∀ j, j < k → sumB n (zs.getD j 0) = true) (fun i => 3 - (intOf i).toNat)
  case atStart => exact ⟨0, Nat.zero_le _, rfl, fun j hj => by omega⟩
  case round =>
    obtain ⟨k, hk, rfl, hg⟩ := hrel
    have HG := hide hg
    have HL := hide h
    clear hg h
    by_cases hlt : k < 3
    · have hcx : w.cell? ⟨b, off + k, none⟩ = some (.int .i64 (zs.getD k 0)) := hc k hlt
      obtain ⟨z, hz⟩ : ∃ z, z = zs.getD k 0 := ⟨_, rfl⟩
      rw [← hz] at hcx
      have HZ := hide hz
      clear hz hc
      cases hp : sumB n z with
      | true =>
        obtain ⟨hb1, hb2⟩ := sumB_true hp
        have hd2 : decide (z ≤ 1000 * n) = true := by simp; omega
        have HP := hide hp
        clear hp
        go_wp2
        go_round
        case rel =>
          refine ⟨k + 1, by omega, by go_num, fun j hj => ?_⟩
          by_cases hjk : j < k
          · exact unhide HG j hjk
          · rw [show j = k by omega, ← unhide HZ]; exact unhide HP
        case measure => simp [intOf]; omega
      | false =>
        have hb := sumB_false hp
        clear hp
        rcases hb with hb | hb
        · go_wp2
          refine bodyPost_ret (v := intsRes 3 (.slice none 0 0)) (by simp [results, Try.results14, go_sem, intsRes]) rfl ⟨rfl, ?_⟩
          exact (Below.refl _ _).alloc (Nat.le_refl _) _
        · have hb1 : -1000 * n ≤ z := by omega
          have hd2 : decide (z ≤ 1000 * n) = false := by simp; omega
          go_wp2
          refine bodyPost_ret (v := intsRes 3 (.slice none 0 0)) (by simp [results, Try.results14, go_sem, intsRes]) rfl ⟨rfl, ?_⟩
          exact (Below.refl _ _).alloc (Nat.le_refl _) _
    · exact absurd (meanFault_ok h1 h2 (unhide HL) (fun j hj => unhide HG j (by omega))) (unhide HF)

theorem own_mono {w : World} {b b' T : Nat} {v : Value} {n : Nat} {xs : List Value} (hb : b' ≤ b) (h : w.ownsRow b T 1 v n xs) : w.ownsRow b' T 1 v n xs := by
  refine ⟨h.1, ?_⟩
  rcases h.2 with h2 | ⟨g, cap, cur, hv, hg, r⟩
  · exact Or.inl h2
  · exact Or.inr ⟨g, cap, cur, hv, by omega, r⟩

/-- What one round leaves: an appended slice is stored into the second cell of block B + 1. -/
theorem append_round {wr W' w1 W0 : World} {r v : Value} {B k T : Nat} {xs ys : List Value} {c : Value} (hal : Below wr.heap.size wr W') (hown : wr.ownsRow (B + 2) T 1 r k xs) (hgrow : W'.grownBy w1 r.ownBlock)
    (q0 : wr.cell? ⟨B + 1, 0, none⟩ = some c) (q1 : wr.cell? ⟨B + 1, 1, none⟩ = some r) (q2 : ∀ o, wr.frozen? ⟨B + 1, o, none⟩ = false) (hsz : B + 2 ≤ wr.heap.size) (hown1 : w1.ownsRow (B + 2) T 1 v (k + 1) ys) (hB : Below (B + 1) W0 wr) :
    (w1.setCell ⟨B + 1, 1, none⟩ v).cell? ⟨B + 1, 0, none⟩ = some c ∧ (w1.setCell ⟨B + 1, 1, none⟩ v).cell? ⟨B + 1, 1, none⟩ = some v ∧ (∀ o, (w1.setCell ⟨B + 1, 1, none⟩ v).frozen? ⟨B + 1, o, none⟩ = false) ∧
      (w1.setCell ⟨B + 1, 1, none⟩ v).ownsRow (B + 2) T 1 v (k + 1) ys ∧ B + 2 ≤ (w1.setCell ⟨B + 1, 1, none⟩ v).heap.size ∧ Below (B + 1) W0 (w1.setCell ⟨B + 1, 1, none⟩ v) := by
  have hl1 : some (B + 1) ≠ r.ownBlock := fun e => by have := (hown.lt _ e.symm).1; omega
  have s1 := hal.size
  have s2 := hgrow.size
  have f : ∀ o, w1.cell? ⟨B + 1, o, none⟩ = wr.cell? ⟨B + 1, o, none⟩ := fun o => (hgrow.cell_far ⟨B + 1, o, none⟩ (by simp; omega) hl1).trans (hal.cell (p := ⟨B + 1, o, none⟩) (by simp; omega))
  have g : ∀ o, w1.frozen? ⟨B + 1, o, none⟩ = false := fun o => ((hgrow.frozen_far ⟨B + 1, o, none⟩ (by simp; omega) hl1).trans (hal.frozen (p := ⟨B + 1, o, none⟩) (by simp; omega))).trans (q2 o)
  refine ⟨?_, ?_, fun o => ?_, ownsRow_setCell_below hown1 (by simp) _, ?_, ?_⟩
  · have e : (w1.setCell ⟨B + 1, 1, none⟩ v).cell? ⟨B + 1, 0, none⟩ = w1.cell? ⟨B + 1, 0, none⟩ := by apply World.cell?_setCell_other; simp
    rw [e, f 0, q0]
  · exact World.cell?_setCell_same _ _ _ ((f 1).trans q1)
  · simpa [go_sem] using g o
  · simp; omega
  · have h1 : Below (B + 1) W0 W' := hB.trans (hal.mono (by omega))
    exact (h1.grown hgrow (by omega) (fun k hk => by have := (hown.lt _ hk).1; omega)).setCell (by simp) _

theorem means_step (x y z n : Int) (k : Nat) (hk : k < 3) : ([mean x n, mean y n, mean z n].take (k + 1)).map (Value.int .i64) = ([mean x n, mean y n, mean z n].take k).map (Value.int .i64) ++ [.int .i64 (mean ([x, y, z].getD k 0) n)] := by
  rcases (show k = 0 ∨ k = 1 ∨ k = 2 by omega) with rfl | rfl | rfl <;> rfl

set_option maxRecDepth 100000 in
set_option maxHeartbeats 3200000 in
theorem modelMean_three (b off cap : Nat) (x y z n : Int) (w : World) (hbl : b < w.heap.size) (hc : ∀ j, j < 3 → w.cell? ⟨b, off + j, none⟩ = some (.int .i64 ([x, y, z].getD j 0)))
    (h1 : 1 ≤ n) (h2 : n ≤ 1000) (hb : ∀ j, j < 3 → -1000 * n ≤ [x, y, z].getD j 0 ∧ [x, y, z].getD j 0 ≤ 1000 * n) :
    Calls Try.prog 14 #[.slice (some ⟨b, off, none⟩) 3 cap, .int .i64 n] w fun e w' => ∃ v, e = .returned (intsRes 0 v) ∧
      w'.ownsRow w.heap.size 2 1 v 3 ([mean x n, mean y n, mean z n].map (Value.int .i64)) ∧ Below w.heap.size w w' := by
  obtain ⟨i0, hi0, hz0, hz1, hz2⟩ := info_parts info2
  have hd : decide (n ≤ 1000) = true := by simp; omega
  go_enter Try.func14, Try.ntmps14
  go_wp2
  go_loop [5] (fun i => ∃ k : Nat, k ≤ 3 ∧ i = .int .i64 k) (fun i => 3 - (intOf i).toNat)
  case atStart => exact ⟨0, Nat.zero_le _, rfl⟩
  case round =>
    obtain ⟨k, hk, rfl⟩ := hrel
    by_cases hlt : k < 3
    · have hcx : w.cell? ⟨b, off + k, none⟩ = some (.int .i64 ([x, y, z].getD k 0)) := hc k hlt
      obtain ⟨hb1, hb2⟩ := hb k hlt
      generalize [x, y, z].getD k 0 = s at *
      have hd2 : decide (s ≤ 1000 * n) = true := by simp; omega
      clear hc hb
      go_wp2
      go_round
      case rel => exact ⟨k + 1, by omega, by go_num⟩
      case measure => simp [intOf]; omega
    · obtain rfl : k = 3 := by omega
      go_wp2
      have hB0 : Below (w.heap.size + 1) ((w.alloc (.cells #[.int .i64 0, .slice none 0 0] 35)).alloc (.cells #[.int .i64 0, .slice none 0 0] 35)) ((w.alloc (.cells #[.int .i64 0, .slice none 0 0] 35)).alloc (.cells #[.int .i64 0, .slice none 0 0] 35)) := Below.refl _ _
      go_loopw [7] (fun i wr => ∃ (k : Nat) (r : Value), k ≤ 3 ∧ i = .int .i64 k ∧ wr.cell? ⟨w.heap.size + 1, 0, none⟩ = some (.int .i64 0) ∧ wr.cell? ⟨w.heap.size + 1, 1, none⟩ = some r ∧ (∀ o, wr.frozen? ⟨w.heap.size + 1, o, none⟩ = false) ∧
          wr.ownsRow (w.heap.size + 2) 2 1 r k (([mean x n, mean y n, mean z n].take k).map (Value.int .i64)) ∧ w.heap.size + 2 ≤ wr.heap.size ∧
          Below (w.heap.size + 1) ((w.alloc (.cells #[.int .i64 0, .slice none 0 0] 35)).alloc (.cells #[.int .i64 0, .slice none 0 0] 35)) wr)
        (fun i _ => 3 - (intOf i).toNat)
      case atStart => exact ⟨0, _, Nat.zero_le _, rfl, by simp [go_sem], by simp [go_sem], fun o => by simp [go_sem], World.ownsRow_nil _ _ _ _, by simp, hB0⟩
      case round =>
        obtain ⟨k, r, hk, rfl, q0, q1, q2, hown, hsz, hB⟩ := hrel
        clear hB0
        by_cases hlt : k < 3
        · obtain ⟨hb1, hb2⟩ := hb k hlt
          have hcx : wr.cell? ⟨b, off + k, none⟩ = some (.int .i64 ([x, y, z].getD k 0)) := by
            rw [hB.cell (by simp; omega)]
            have := hc k hlt
            simp [go_sem, hbl, this, show b < w.heap.size + 1 by omega]
          have HM := hide (means_step x y z n k hlt)
          have hl1 : r.ownBlock ≠ some (w.heap.size + 1) := fun e => by have := (hown.lt _ e).1; omega
          have hl2 : r.ownBlock ≠ some b := fun e => by have := (hown.lt _ e).1; omega
          have hk0 : (0 : Int) ≤ (k : Int) := Int.natCast_nonneg _
          have hk1 : (k : Int) < 3 := by omega
          have hlb : b < wr.heap.size := by omega
          have hlw : w.heap.size + 1 < wr.heap.size := by omega
          have q3 := q2 1
          have q4 : ∀ o : Obj, (wr.alloc o).frozen? ⟨w.heap.size + 1, 1, none⟩ = false := fun o => by rw [World.frozen?_of_block (Below.heap_alloc wr o (w.heap.size + 1) hlw)]; exact q3
          have q5 : ∀ o : Obj, (wr.alloc o).drew.frozen? ⟨w.heap.size + 1, 1, none⟩ = false := fun o => q4 o
          generalize [x, y, z].getD k 0 = s at *
          clear hc hb hi0 hz0 hz1 hz2
          obtain ⟨i0, hi0, hz0, hz1, hz2⟩ := info_parts info2
          have HB := hide hB
          clear hB
          go_wp2
          go_region_law (first
              | (go_simp; go_at_call 28; refine (modelRound s n _ h1 h2 hb1 hb2).mono ?_; rintro e w2 ⟨rfl, rfl⟩)
              | ((refine step_append_lies _ (by rfl) _ _ _ (by rfl) (w.heap.size + 2) 2 i0 _ 1 8 Try.underlying24 hi0 hz0 hz1 hz2 rfl (by omega) r k _ (by rfl) (by first | exact (hown.alloc _) | exact (hown.alloc _).drew | exact (hown.alloc _).drew.drew) ⟨wr.heap.size, 0, none⟩ 1 1 [.int .i64 (mean s n)] (by rfl) (by rfl) (World.news_of_block (cs := #[.int .i64 (mean s n)]) (t := 2) (fr := (0, 0)) (heap_alloc_new wr _)) (by simp [Value.oneCell']) (by omega) (by unfold maxLen; omega) (by omega) (by simp; omega) (wr.heap.size + 1) (by simp) ?_; intro gg cap2 w1 hown1 hgrow hat hlt2; have g0 := hgrow.cell_far ⟨w.heap.size + 1, 1, none⟩ (by simp; omega) (Ne.symm hl1); have g1 := hgrow.frozen_far ⟨w.heap.size + 1, 1, none⟩ (by simp; omega) (Ne.symm hl1))))
          all_goals
            have R := append_round (W0 := (w.alloc (.cells #[.int .i64 0, .slice none 0 0] 35)).alloc (.cells #[.int .i64 0, .slice none 0 0] 35)) (by first | exact ((Below.refl _ _).alloc (Nat.le_refl _) _) | exact ((Below.refl _ _).alloc (Nat.le_refl _) _).drew | exact ((Below.refl _ _).alloc (Nat.le_refl _) _).drew.drew) hown hgrow q0 q1 q2 hsz hown1 (unhide HB)
            have HR := hide R
            clear R hown hgrow q0 q1 q2 q3 q4 q5 hown1 hcx
            go_wp2
            go_roundw
            case rel => exact ⟨k + 1, _, by omega, by go_num, (unhide HR).1, (unhide HR).2.1, (unhide HR).2.2.1, by rw [unhide HM]; exact (unhide HR).2.2.2.1, (unhide HR).2.2.2.2.1, (unhide HR).2.2.2.2.2⟩
            case measure => simp [intOf]; omega
        · obtain rfl : k = 3 := by omega
          have z0 : wr.cell? ⟨w.heap.size, 0, none⟩ = some (.int .i64 0) := (hB.cell (p := ⟨w.heap.size, 0, none⟩) (by simp)).trans (by simp [go_sem])
          have z1 : wr.cell? ⟨w.heap.size, 1, none⟩ = some (.slice none 0 0) := (hB.cell (p := ⟨w.heap.size, 1, none⟩) (by simp)).trans (by simp [go_sem])
          have z2 : ∀ o, wr.frozen? ⟨w.heap.size, o, none⟩ = false := fun o => (hB.frozen (p := ⟨w.heap.size, o, none⟩) (by simp)).trans (by simp [go_sem])
          obtain ⟨g, cp, hr⟩ : ∃ g cp, r = .slice (some ⟨g, 0, none⟩) 3 cp := by
            rcases hown.2 with ⟨_, h0⟩ | ⟨g, cp, cur, h, _⟩
            · omega
            · exact ⟨g, cp, h⟩
          subst hr
          have hz3 : w.heap.size < wr.heap.size := by omega
          have HO := hide hown
          have HB := hide hB
          clear hown hB hc hb hi0 hz0 hz1 hz2
          go_wp2
          refine bodyPost_ret (v := intsRes 0 (.slice (some ⟨g, 0, none⟩) 3 cp)) (by simp [results, Try.results14, go_sem, intsRes, z0, z1]) rfl ⟨_, rfl, ?_, ?_⟩
          · exact ownsRow_setCell_below (ownsRow_setCell_below (unhide HO) (by simp) _) (by simp) _ |> own_mono (by omega)
          · exact (((((Below.refl w.heap.size w).alloc (Nat.le_refl _) _).alloc (by simp) _).trans ((unhide HB).mono (by omega))).setCell (by simp) _).setCell (by simp) _

/-- MeanOf of the model. -/
theorem modelMean (v : Value) (zs : List Int) (n : Int) (w : World) (h : IsInts w v zs) :
    Calls Try.prog 14 #[v, .int .i64 n] w fun e w' => ∃ r, e = .returned (intsRes (meanFault zs n) r) ∧
      w'.ownsRow w.heap.size 2 1 r (meanList zs n).length ((meanList zs n).map (Value.int .i64)) ∧ Below w.heap.size w w' := by
  have empty : ∀ e w', e = Ending.returned (intsRes (meanFault zs n) (.slice none 0 0)) ∧ Below w.heap.size w w' → meanFault zs n ≠ 0 →
      ∃ r, e = .returned (intsRes (meanFault zs n) r) ∧ w'.ownsRow w.heap.size 2 1 r (meanList zs n).length ((meanList zs n).map (Value.int .i64)) ∧ Below w.heap.size w w' := by
    rintro e w' ⟨rfl, hb⟩ hf
    have e : meanList zs n = [] := by simp [meanList, hf]
    rw [e]
    exact ⟨_, rfl, World.ownsRow_nil _ _ _ _, hb⟩
  have h' := h
  obtain ⟨ao, cap, rfl, hwf, hc⟩ := h'
  by_cases hn : n < 1 ∨ 1000 < n
  · have hf : meanFault zs n = 3 := meanFault_n hn
    rw [hf] at empty ⊢
    exact (modelMean_n ao zs.length cap n w hn).mono fun e w' hh => empty e w' hh (by decide)
  · by_cases h3 : zs.length = 3
    · obtain ⟨b, off, rfl, hc1⟩ := hc (by omega)
      have hbl : b < w.heap.size := World.block_lt_of_cell? _ _ (hc1 0 (by omega))
      by_cases hf : meanFault zs n = 0
      · obtain ⟨⟨h1, h2⟩, x, y, z, rfl, hx, hy, hz⟩ := meanFault_zero hf
        have e : meanList [x, y, z] n = [mean x n, mean y n, mean z n] := by simp [meanList, hf]
        rw [e, hf]
        refine modelMean_three b off cap x y z n w hbl (fun j hj => hc1 j hj) h1 h2 (fun j hj => ?_)
        rcases (show j = 0 ∨ j = 1 ∨ j = 2 by omega) with rfl | rfl | rfl
        · exact hx
        · exact hy
        · exact hz
      · have e3 : meanFault zs n = 3 := by
          have h0 : ¬ (n < 1 ∨ 1000 < n) := hn
          unfold meanFault at hf ⊢
          simp only [h0, h3, if_true, if_false] at hf ⊢
          split at hf <;> simp_all
        have hf' := hf
        rw [e3] at empty ⊢
        rw [h3] at hc1 ⊢
        exact (modelMean_bad b off cap zs n w hbl (by omega) (by omega) h3 hf hc1).mono fun e w' hh => empty e w' hh (by decide)
    · have hf : meanFault zs n = 1 := meanFault_len (by omega) (by omega) h3
      rw [hf] at empty ⊢
      exact (modelMean_len ao zs.length cap n w (by omega) (by omega) h3).mono fun e w' hh => empty e w' hh (by decide)

end Go.Proofs.Ytccocdpgflapoaa
