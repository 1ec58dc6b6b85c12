/-
  l1Number reads a piece as a number and tells whether it is written so.
  Condition: at most 1048576 bytes.
-/
import Derived.Test.YtjfplfhdfiebgaaDoorDigits
import Derived.Test.YtjfplfhdfiebgaaDoorCutPlain
import Derived.Laws.Strings2
namespace Go.Proofs.YtjfplfhdfiebgaaDoor
open Go.RowKit

theorem dval_lt (l : Bytes) (h : allDig l = true) (hl : l.length ≤ 4) : 0 ≤ dval 0 l ∧ dval 0 l ≤ 9999 := by
  have step : ∀ (n : Int) (m : Int) (c : UInt8), isDig c = true → 0 ≤ n → n ≤ m → 0 ≤ n * 10 + ((c.toNat : Int) - 48) ∧ n * 10 + ((c.toNat : Int) - 48) ≤ m * 10 + 9 := by
    intro n m c hc h0 hm
    have := isDig_bd hc
    omega
  match l, h, hl with
  | [], _, _ => simp [dval]
  | [a], h, _ =>
    simp only [allDig, Bool.and_eq_true] at h
    have h1 := step 0 0 a h.1 (by omega) (by omega)
    simp only [dval]
    omega
  | [a, b], h, _ =>
    simp only [allDig, Bool.and_eq_true] at h
    have h1 := step 0 0 a h.1 (by omega) (by omega)
    have h2 := step _ 9 b h.2.1 h1.1 (by omega)
    simp only [dval]
    omega
  | [a, b, c], h, _ =>
    simp only [allDig, Bool.and_eq_true] at h
    have h1 := step 0 0 a h.1 (by omega) (by omega)
    have h2 := step _ 9 b h.2.1 h1.1 (by omega)
    have h3 := step _ 99 c h.2.2.1 h2.1 (by omega)
    simp only [dval]
    omega
  | [a, b, c, d], h, _ =>
    simp only [allDig, Bool.and_eq_true] at h
    have h1 := step 0 0 a h.1 (by omega) (by omega)
    have h2 := step _ 9 b h.2.1 h1.1 (by omega)
    have h3 := step _ 99 c h.2.2.1 h2.1 (by omega)
    have h4 := step _ 999 d h.2.2.2.1 h3.1 (by omega)
    simp only [dval]
    omega
  | _ :: _ :: _ :: _ :: _ :: _, _, hl => simp at hl

theorem toList_data (s : ByteArray) : s.toList = s.data.toList := by
  obtain ⟨⟨l⟩⟩ := s
  simp

/-- The piece without its first o bytes, as far as i. -/
def seg (b : ByteArray) (o i : Nat) : Bytes := (b.data.toList.take i).drop o
theorem seg_start (b : ByteArray) (o : Nat) : seg b o o = [] := by unfold seg; simp
theorem seg_all (b : ByteArray) (o : Nat) : seg b o b.size = b.data.toList.drop o := by
  unfold seg
  rw [List.take_of_length_le (by simp)]
theorem seg_snoc (b : ByteArray) (o i : Nat) (ho : o ≤ i) (hi : i < b.size) : seg b o (i + 1) = seg b o i ++ [b[i]] := by
  unfold seg
  rw [List.take_succ_eq_append_getElem (by simpa using hi), List.drop_append_of_le_length (by simp; omega)]
  rfl
theorem allDig_part (l m : Bytes) : allDig (l ++ m) = (allDig l && allDig m) := by
  induction l with
  | nil => simp [allDig]
  | cons c l ih => simp [allDig, ih, Bool.and_assoc]
theorem seg_bad (b : ByteArray) (o i : Nat) (ho : o ≤ i) (hi : i < b.size) (h : isDig b[i] = false) : allDig (b.data.toList.drop o) = false := by
  have e1 := seg_snoc b o i ho hi
  have e2 : b.data.toList.drop o = seg b o (i + 1) ++ b.data.toList.drop (i + 1) := by
    unfold seg
    rw [← List.drop_append_of_le_length (by simp; omega), List.take_append_drop]
  rw [e2, e1, allDig_part, allDig_snoc, h]
  simp

set_option maxRecDepth 100000 in
set_option maxHeartbeats 1600000 in
theorem number_0 (b : ByteArray) (w : World) (hs : b.size ≤ 1048576) (h0 : 0 < b.size) (hneg : isNeg b.data.toList = false) :
    Calls Tryd.prog 47 #[.string b] w fun e w' => e = .returned (.tuple #[.int .i64 (numR b.data.toList).1, .bool (numR b.data.toList).2]) ∧ Below w.heap.size w w' := by
  have hlen : b.data.toList.length = b.size := by simp
  have hbody : bodyOf b.data.toList = b.data.toList.drop 0 := by unfold bodyOf; rw [hneg]; rfl
  have hblen : (b.data.toList.drop 0).length = b.size - 0 := by simp
  have hfirst : (((b[0]'h0).toNat : Int) == 45) = false := by
    have e : b.data.toList = b[0] :: rest b 1 := rest_cons b 0 h0
    rw [e] at hneg
    simp [isNeg] at hneg
    rw [beq_eq_false_iff_ne]; omega
  have hp : (0 : Int) < (b.size : Int) := by omega
  have hdp : decide ((0 : Int) < (b.size : Int)) = true := by simp; omega
  by_cases hc : b.size - 0 < 1 ∨ 4 < b.size - 0
  · have HN : Hid (numR b.data.toList = (0, false)) := by
      show numR b.data.toList = (0, false)
      unfold numR
      rw [hbody, hblen, if_pos hc]
    clear hlen hbody hblen hneg
    by_cases hc1 : b.size - 0 < 1
    · omega
    · have hc2 : 4 < b.size - 0 := by omega
      have hd4 : decide ((4 : Int) < (b.size : Int)) = true := by simp; omega
      clear hc
      go_enter Tryd.func47, Tryd.ntmps47
      go_wp2
      go_ret2
      exact ⟨by rw [unhide HN]; rfl, Below.refl _ _⟩
  · have hc1 : 1 ≤ b.size - 0 := by omega
    have hc2 : b.size - 0 ≤ 4 := by omega
    have hd4 : decide ((4 : Int) < (b.size : Int)) = false := by simp; omega
    have HN : Hid (∀ r, (allDig (b.data.toList.drop 0) = false → (0, false) = r) → (allDig (b.data.toList.drop 0) = true → (signed b.data.toList (dval 0 (b.data.toList.drop 0)), decide (dec (signed b.data.toList (dval 0 (b.data.toList.drop 0))) = b.data.toList)) = r) → numR b.data.toList = r) := by
      intro r h1 h2
      unfold numR
      rw [hbody, hblen, if_neg hc]
      cases ha : allDig (b.data.toList.drop 0) with
      | true => rw [if_pos rfl]; exact h2 ha
      | false => rw [if_neg (by simp)]; exact h1 ha
    have HG := hide hneg
    have HB := hide hblen
    clear hlen hbody hblen hneg hc
    go_enter Tryd.func47, Tryd.ntmps47
    go_wp2
    go_loop [5, 6] (fun n i => ∃ k : Nat, 0 ≤ k ∧ k ≤ b.size ∧ i = .int .i64 k ∧ n = .int .i64 (dval 0 (seg b 0 k)) ∧ allDig (seg b 0 k) = true) (fun _ i => b.size - (intOf i).toNat)
    case atStart => exact ⟨0, by omega, by omega, rfl, by rw [seg_start]; rfl, by rw [seg_start]; rfl⟩
    case round =>
      obtain ⟨k, hk0, hk, rfl, rfl, hall⟩ := hrel
      have hsl : (seg b 0 k).length ≤ 4 := by unfold seg; simp; omega
      have hdb := dval_lt _ hall hsl
      by_cases hlt : k < b.size
      · have HS := hide (seg_snoc b 0 k hk0 hlt)
        have HA := hide hall
        cases hd : isDig b[k] with
        | true =>
          have hb := isDig_bd hd
          have hg : decide ((57 : Int) < (b[k].toNat : Int)) = false := by simp; omega
          have HD := hide hd
          obtain ⟨hb1, hb2⟩ := hb
          obtain ⟨hv1, hv2⟩ := hdb
          clear hd hall hfirst
          generalize hcc : dval 0 (seg b 0 k) = v at *
          have HV := hide hcc
          clear hcc
          go_wp2
          go_round
          case rel =>
            refine ⟨k + 1, by omega, by omega, by go_num, ?_, ?_⟩
            · rw [unhide HS, dval_snoc, unhide HV]
            · rw [unhide HS, allDig_snoc, unhide HA, unhide HD]; rfl
          case measure => simp [intOf]; omega
        | false =>
          have HX := hide (unhide HN (0, false) (fun _ => rfl) (fun h => by rw [seg_bad b 0 k hk0 hlt hd] at h; simp at h))
          have hbb : b[k].toNat < 48 ∨ 57 < b[k].toNat := by
            simp [isDig] at hd
            omega
          clear hd hall hfirst HN
          rcases hbb with hb | hb
          · go_wp2
            go_ret2
            exact ⟨by rw [unhide HX]; rfl, Below.refl _ _⟩
          · have hb1 : ¬ ((b[k].toNat : Int) < 48) := by omega
            have hg : decide ((57 : Int) < (b[k].toNat : Int)) = true := by simp; omega
            go_wp2
            go_ret2
            exact ⟨by rw [unhide HX]; rfl, Below.refl _ _⟩
      · obtain rfl : k = b.size := by omega
        rw [seg_all] at hall hdb hsl ⊢
        have hsg : signed b.data.toList (dval 0 (b.data.toList.drop 0)) = dval 0 (b.data.toList.drop 0) := by unfold signed; rw [unhide HG]; rfl
        have HX := hide (unhide HN _ (fun h => by rw [hall] at h; simp at h) (fun _ => rfl))
        rw [hsg] at HX
        obtain ⟨hv1, hv2⟩ := hdb
        generalize dval 0 (b.data.toList.drop 0) = v at *
        clear hall HN hsg HG hfirst
        go_wp2_with fail
        refine (digits (v) w (by omega) (by omega)).mono ?_
        rintro e w1 ⟨rfl, hb1⟩
        simp only [str]
        have HB1 := hide hb1
        clear hb1
        go_wp2_with fail
        go_ret2
        refine ⟨?_, unhide HB1⟩
        have e : (dec (v) == b.toList) = decide (dec (v) = b.data.toList) := by rw [toList_data, Bool.eq_iff_iff]; simp
        rw [unhide HX]
        show Ending.returned (.tuple #[.int .i64 (v), .bool (dec (v) == b.toList)]) = _
        rw [e]

set_option maxRecDepth 100000 in
set_option maxHeartbeats 1600000 in
theorem number_1 (b : ByteArray) (w : World) (hs : b.size ≤ 1048576) (h0 : 0 < b.size) (hneg : isNeg b.data.toList = true) :
    Calls Tryd.prog 47 #[.string b] w fun e w' => e = .returned (.tuple #[.int .i64 (numR b.data.toList).1, .bool (numR b.data.toList).2]) ∧ Below w.heap.size w w' := by
  have hlen : b.data.toList.length = b.size := by simp
  have hbody : bodyOf b.data.toList = b.data.toList.drop 1 := by unfold bodyOf; rw [hneg]; simp
  have hblen : (b.data.toList.drop 1).length = b.size - 1 := by simp
  have hfirst : (((b[0]'h0).toNat : Int) == 45) = true := by
    have e : b.data.toList = b[0] :: rest b 1 := rest_cons b 0 h0
    rw [e] at hneg
    simp [isNeg] at hneg
    rw [beq_iff_eq]; omega
  have hp : (0 : Int) < (b.size : Int) := by omega
  have hdp : decide ((0 : Int) < (b.size : Int)) = true := by simp; omega
  by_cases hc : b.size - 1 < 1 ∨ 4 < b.size - 1
  · have HN : Hid (numR b.data.toList = (0, false)) := by
      show numR b.data.toList = (0, false)
      unfold numR
      rw [hbody, hblen, if_pos hc]
    clear hlen hbody hblen hneg
    by_cases hc1 : b.size - 1 < 1
    · clear hc
      go_enter Tryd.func47, Tryd.ntmps47
      go_wp2
      go_ret2
      exact ⟨by rw [unhide HN]; rfl, Below.refl _ _⟩
    · have hc2 : 4 < b.size - 1 := by omega
      have hd4 : decide ((4 : Int) < (b.size : Int) - 1) = true := by simp; omega
      clear hc
      go_enter Tryd.func47, Tryd.ntmps47
      go_wp2
      go_ret2
      exact ⟨by rw [unhide HN]; rfl, Below.refl _ _⟩
  · have hc1 : 1 ≤ b.size - 1 := by omega
    have hc2 : b.size - 1 ≤ 4 := by omega
    have hd4 : decide ((4 : Int) < (b.size : Int) - 1) = false := by simp; omega
    have HN : Hid (∀ r, (allDig (b.data.toList.drop 1) = false → (0, false) = r) → (allDig (b.data.toList.drop 1) = true → (signed b.data.toList (dval 0 (b.data.toList.drop 1)), decide (dec (signed b.data.toList (dval 0 (b.data.toList.drop 1))) = b.data.toList)) = r) → numR b.data.toList = r) := by
      intro r h1 h2
      unfold numR
      rw [hbody, hblen, if_neg hc]
      cases ha : allDig (b.data.toList.drop 1) with
      | true => rw [if_pos rfl]; exact h2 ha
      | false => rw [if_neg (by simp)]; exact h1 ha
    have HG := hide hneg
    have HB := hide hblen
    clear hlen hbody hblen hneg hc
    go_enter Tryd.func47, Tryd.ntmps47
    go_wp2
    go_loop [5, 6] (fun n i => ∃ k : Nat, 1 ≤ k ∧ k ≤ b.size ∧ i = .int .i64 k ∧ n = .int .i64 (dval 0 (seg b 1 k)) ∧ allDig (seg b 1 k) = true) (fun _ i => b.size - (intOf i).toNat)
    case atStart => exact ⟨1, by omega, by omega, rfl, by rw [seg_start]; rfl, by rw [seg_start]; rfl⟩
    case round =>
      obtain ⟨k, hk0, hk, rfl, rfl, hall⟩ := hrel
      have hsl : (seg b 1 k).length ≤ 4 := by unfold seg; simp; omega
      have hdb := dval_lt _ hall hsl
      by_cases hlt : k < b.size
      · have HS := hide (seg_snoc b 1 k hk0 hlt)
        have HA := hide hall
        cases hd : isDig b[k] with
        | true =>
          have hb := isDig_bd hd
          have hg : decide ((57 : Int) < (b[k].toNat : Int)) = false := by simp; omega
          have HD := hide hd
          obtain ⟨hb1, hb2⟩ := hb
          obtain ⟨hv1, hv2⟩ := hdb
          clear hd hall hfirst
          generalize hcc : dval 0 (seg b 1 k) = v at *
          have HV := hide hcc
          clear hcc
          go_wp2
          go_round
          case rel =>
            refine ⟨k + 1, by omega, by omega, by go_num, ?_, ?_⟩
            · rw [unhide HS, dval_snoc, unhide HV]
            · rw [unhide HS, allDig_snoc, unhide HA, unhide HD]; rfl
          case measure => simp [intOf]; omega
        | false =>
          have HX := hide (unhide HN (0, false) (fun _ => rfl) (fun h => by rw [seg_bad b 1 k hk0 hlt hd] at h; simp at h))
          have hbb : b[k].toNat < 48 ∨ 57 < b[k].toNat := by
            simp [isDig] at hd
            omega
          clear hd hall hfirst HN
          rcases hbb with hb | hb
          · go_wp2
            go_ret2
            exact ⟨by rw [unhide HX]; rfl, Below.refl _ _⟩
          · have hb1 : ¬ ((b[k].toNat : Int) < 48) := by omega
            have hg : decide ((57 : Int) < (b[k].toNat : Int)) = true := by simp; omega
            go_wp2
            go_ret2
            exact ⟨by rw [unhide HX]; rfl, Below.refl _ _⟩
      · obtain rfl : k = b.size := by omega
        rw [seg_all] at hall hdb hsl ⊢
        have hsg : signed b.data.toList (dval 0 (b.data.toList.drop 1)) = -dval 0 (b.data.toList.drop 1) := by unfold signed; rw [unhide HG]; rfl
        have HX := hide (unhide HN _ (fun h => by rw [hall] at h; simp at h) (fun _ => rfl))
        rw [hsg] at HX
        obtain ⟨hv1, hv2⟩ := hdb
        generalize dval 0 (b.data.toList.drop 1) = v at *
        clear hall HN hsg HG hfirst
        go_wp2_with fail
        refine (digits (-v) w (by omega) (by omega)).mono ?_
        rintro e w1 ⟨rfl, hb1⟩
        simp only [str]
        have HB1 := hide hb1
        clear hb1
        go_wp2_with fail
        go_ret2
        refine ⟨?_, unhide HB1⟩
        have e : (dec (-v) == b.toList) = decide (dec (-v) = b.data.toList) := by rw [toList_data, Bool.eq_iff_iff]; simp
        rw [unhide HX]
        show Ending.returned (.tuple #[.int .i64 (-v), .bool (dec (-v) == b.toList)]) = _
        rw [e]

theorem number_empty (b : ByteArray) (w : World) (h0 : b.size = 0) :
    Calls Tryd.prog 47 #[.string b] w fun e w' => e = .returned (.tuple #[.int .i64 0, .bool false]) ∧ Below w.heap.size w w' := by
  have hp : decide ((0 : Int) < (b.size : Int)) = false := by rw [h0]; rfl
  go_enter Tryd.func47, Tryd.ntmps47
  go_wp2
  go_ret2
  exact ⟨rfl, Below.refl _ _⟩

/-- l1Number. -/
theorem number (b : ByteArray) (w : World) (hs : b.size ≤ 1048576) :
    Calls Tryd.prog 47 #[.string b] w fun e w' => e = .returned (.tuple #[.int .i64 (numR b.data.toList).1, .bool (numR b.data.toList).2]) ∧ Below w.heap.size w w' := by
  by_cases h0 : 0 < b.size
  · cases hneg : isNeg b.data.toList with
    | true => exact number_1 b w hs h0 hneg
    | false => exact number_0 b w hs h0 hneg
  · have e : b.data.toList = [] := rest_nil b 0 h0
    rw [e]
    exact number_empty b w (by omega)

end Go.Proofs.YtjfplfhdfiebgaaDoor
