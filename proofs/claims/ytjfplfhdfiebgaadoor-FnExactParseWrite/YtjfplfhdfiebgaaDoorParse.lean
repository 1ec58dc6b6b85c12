/-
  l1Parse and ParseVec of the model read what the plain functions read; ParseVec of the program too.
  Condition: at most 1048576 bytes.
-/
import Derived.Test.YtjfplfhdfiebgaaDoorCut
import Derived.Test.YtjfplfhdfiebgaaDoorListC
import Derived.Test.YtjfplfhdfiebgaaDoorFault
import Derived.Test.YtjfplfhdfiebgaaDoorInfo
namespace Go.Proofs.YtjfplfhdfiebgaaDoor
open Go.RowKit

theorem numR_bd (l : Bytes) : -9999 ≤ (numR l).1 ∧ (numR l).1 ≤ 9999 := by
  unfold numR
  split
  · simp
  · next h =>
    split
    · next h2 =>
      have := dval_lt (bodyOf l) h2 (by omega)
      unfold signed
      split <;> simp <;> omega
    · simp

def vals (bs : List ByteArray) : List Int := bs.map fun b => (numR b.data.toList).1
theorem vals_wf (bs : List ByteArray) : ∀ z ∈ vals bs, (Lit.int .i64 z).wf = true := by
  intro z hz
  obtain ⟨b, _, rfl⟩ := List.mem_map.1 hz
  exact wf_of_bd (by have := numR_bd b.data.toList; omega)
theorem vals_snoc (bs : List ByteArray) (k : Nat) (hk : k < bs.length) : vals (bs.take (k + 1)) = vals (bs.take k) ++ [(numR bs[k].data.toList).1] := by
  unfold vals
  rw [List.take_succ_eq_append_getElem hk, List.map_append]
  rfl
theorem all_snoc (bs : List ByteArray) (k : Nat) (hk : k < bs.length) : (bs.take (k + 1)).all (fun b => (numR b.data.toList).2) = ((bs.take k).all (fun b => (numR b.data.toList).2) && (numR bs[k].data.toList).2) := by
  rw [List.take_succ_eq_append_getElem hk, List.all_append]
  simp
theorem all_bad (bs : List ByteArray) (k : Nat) (hk : k < bs.length) (h : (numR bs[k].data.toList).2 = false) : bs.all (fun b => (numR b.data.toList).2) = false := by
  rw [List.all_eq_false]
  exact ⟨bs[k], List.getElem_mem hk, by rw [h]; simp⟩

theorem modelP_of {l : Bytes} {bs : List ByteArray} (h : bs.map (fun b => b.data.toList) = cutA [] l) : modelP l = if bs.all (fun b => (numR b.data.toList).2) = true ∧ vecFault (vals bs) = 0 then some (vals bs) else none := by
  unfold modelP vals
  rw [← h]
  simp only [List.all_map, List.map_map]
  rfl

/-- What l1Parse leaves. -/
def ParsePost (l : Bytes) (w : World) (e : Ending) (w' : World) : Prop :=
  ∃ v b, e = .returned (.tuple #[v, .bool b]) ∧ ((b = true ∧ ∃ ms, modelP l = some ms ∧ (∀ z ∈ ms, (Lit.int .i64 z).wf = true) ∧ w'.ownsRow w.heap.size 2 1 v ms.length (ms.map (Value.int .i64))) ∨ (b = false ∧ modelP l = none ∧ ∃ ms : List Int, vecFault ms ≠ 0 ∧ (∀ z ∈ ms, (Lit.int .i64 z).wf = true) ∧ w'.ownsRow w.heap.size 2 1 v ms.length (ms.map (Value.int .i64)))) ∧ Below w.heap.size w w'

set_option maxRecDepth 100000 in
set_option maxHeartbeats 1600000 in
theorem parseC (s : ByteArray) (w : World) (hs : s.size ≤ 1048576) :
    Calls Tryd.prog 46 #[.string s] w (ParsePost s.data.toList w) := by
  go_enter Tryd.func46, Tryd.ntmps46
  go_wp2_with fail
  refine (cutC s w hs).mono ?_
  rintro e w1 ⟨v1, bs, rfl, hown, hcut, hlen, hsmall, hB1⟩
  have hne : bs ≠ [] := by
    rintro rfl
    exact cutA_ne [] s.data.toList hcut.symm
  have hpos : 0 < bs.length := by cases bs with | nil => exact absurd rfl hne | cons c r => simp
  obtain ⟨g, cap, rfl, hg, hcell⟩ : ∃ g cap, v1 = .slice (some ⟨g, 0, none⟩) bs.length cap ∧ g < w1.heap.size ∧ ∀ j (hj : j < bs.length), w1.cell? ⟨g, j, none⟩ = some (.string bs[j]) := by
    rcases hown.2 with ⟨_, h0⟩ | ⟨g, cap, cur, rfl, _, hh, _⟩
    · omega
    · refine ⟨g, cap, rfl, lt_of_block hh, fun j hj => ?_⟩
      rw [hown.cellAt j (by omega)]
      simp [hj]
  have HP := hide (modelP_of hcut)
  have HC := hide hcell
  have HS := hide hsmall
  have HB1 := hide hB1
  clear hown hcut hne hcell hsmall hB1
  have hw1 := (unhide HB1).size
  go_wp2_with fail
  go_loopw [5, 6] (fun v ii wr => ∃ k : Nat, k ≤ bs.length ∧ ii = .int .i64 k ∧ (bs.take k).all (fun b => (numR b.data.toList).2) = true ∧ wr.ownsRow w1.heap.size 2 1 v k ((vals (bs.take k)).map (Value.int .i64)) ∧ w1.heap.size ≤ wr.heap.size ∧ Below w1.heap.size w1 wr)
    (fun _ i _ => bs.length - (intOf i).toNat)
  case atStart => exact ⟨0, by omega, rfl, by simp, World.ownsRow_lit w1 #[] 0 (Nat.le_refl _) (by unfold maxLen; omega) rfl, by simp, (Below.refl _ _).alloc (Nat.le_refl _) _⟩
  case round =>
    obtain ⟨k, hk, rfl, hall, hown, hsz, hB⟩ := hrel
    have HA := hide hall
    have HB := hide hB
    clear hall hB
    by_cases hlt : k < bs.length
    · have hcx : wr.cell? ⟨g, k, none⟩ = some (.string bs[k]) := ((unhide HB).cell (p := ⟨g, k, none⟩) hg).trans (unhide HC k hlt)
      have hbk : bs[k].size ≤ 1048576 := unhide HS _ (List.getElem_mem hlt)
      obtain ⟨p, hp⟩ : ∃ p, p = bs[k] := ⟨_, rfl⟩
      rw [← hp] at hcx hbk
      have HPK := hide hp
      clear hp
      go_wp2_with fail
      refine (number p wr hbk).mono ?_
      rintro e w2 ⟨rfl, hb2⟩
      have hb := numR_bd p.data.toList
      cases hok : (numR p.data.toList).2 with
      | false =>
        have HM : Hid (modelP s.data.toList = none) := by
          show modelP s.data.toList = none
          rw [unhide HP, if_neg]
          rintro ⟨h, _⟩
          rw [all_bad bs k hlt (by rw [← unhide HPK]; exact hok)] at h
          simp at h
        have HB2 := hide (((unhide HB1).trans ((unhide HB).mono hw1)).trans (hb2.mono (by omega)))
        clear hb2 hok hcx HB hown
        go_wp2_with fail
        go_ret2
        exact ⟨_, false, rfl, Or.inr ⟨rfl, unhide HM, [], by decide, by simp, World.ownsRow_nil _ _ _ _⟩, unhide HB2⟩
      | true =>
        have hown2 := own_below hown hb2
        have HB2 := hide ((unhide HB).trans (hb2.mono hsz))
        have hsz2 := hb2.size
        have HOK := hide hok
        obtain ⟨i0, hi0, hz0, hz1, hz2⟩ := info_parts info2
        clear hb2 hok hcx HB hown
        generalize hq : (numR p.data.toList).1 = q at *
        have HQ := hide hq
        clear hq
        go_wp2_with (at_builtin; refine wpList_append_lies _ rfl _ _ 22 rfl w1.heap.size 2 i0 _ 1 8 Tryd.underlying22 hi0 hz0 hz1 hz2 rfl (by omega) _ k _ rfl (hown2.alloc _) ⟨w2.heap.size, 0, none⟩ 1 1 [.int .i64 q] rfl rfl (World.news_of_block (cs := #[.int .i64 q]) (t := 2) (fr := (0, 0)) (heap_alloc_new w2 _)) (by simp [Value.oneCell']) (by omega) (by unfold maxLen; omega) (by omega) (by simp; omega) (w2.heap.size + 1) (by simp) ?_)
        intro gg cap2 w3 hown3 hgrow _ _
        have hs3 := hgrow.size
        have hs3' : w1.heap.size ≤ w3.heap.size := by simp at hs3; omega
        have HB3 := hide (((unhide HB2).alloc (by omega) (.cells #[.int .i64 q] 2)).grown hgrow (by simp; omega) (fun j hj => (hown2.lt j hj).1))
        have HO3 : Hid (w3.ownsRow w1.heap.size 2 1 (.slice (some ⟨gg, 0, none⟩) (k + 1) cap2) (k + 1) ((vals (bs.take (k + 1))).map (Value.int .i64))) := by
          show w3.ownsRow w1.heap.size 2 1 (.slice (some ⟨gg, 0, none⟩) (k + 1) cap2) (k + 1) ((vals (bs.take (k + 1))).map (Value.int .i64))
          rw [vals_snoc bs k hlt, List.map_append, ← unhide HPK, unhide HQ]
          exact hown3
        have HA3 : Hid ((bs.take (k + 1)).all (fun b => (numR b.data.toList).2) = true) := by
          show (bs.take (k + 1)).all (fun b => (numR b.data.toList).2) = true
          rw [all_snoc bs k hlt, unhide HA, ← unhide HPK, unhide HOK]
          rfl
        clear hown2 hown3 hgrow HB2 hs3 hi0 hz0 hz1 hz2
        go_wp2
        go_roundw
        case rel => exact ⟨k + 1, by omega, by go_num, unhide HA3, unhide HO3, hs3', unhide HB3⟩
        case measure => simp [intOf]; omega
    · obtain rfl : k = bs.length := by omega
      rw [List.take_length] at hown
      have hA := unhide HA
      rw [List.take_length] at hA
      have hlv : (vals bs).length = bs.length := by simp [vals]
      have hi : IsInts wr _ (vals bs) := isInts_row (vals_wf bs) (by rw [hlv]; exact hown)
      have HO := hide hown
      have hAA := hide hA
      clear hA hown
      go_wp2_with fail
      refine (modelFault _ (vals bs) wr hi).mono ?_
      rintro e w2 ⟨rfl, rfl⟩
      by_cases hf : vecFault (vals bs) = 0
      · have e0 : (vecFault (vals bs) == 0) = true := by rw [hf]; rfl
        have HM := hide ((unhide HP).trans (if_pos ⟨unhide hAA, hf⟩))
        clear hf hi
        go_wp2_with fail
        go_ret2
        refine ⟨_, true, rfl, Or.inl ⟨rfl, vals bs, unhide HM, vals_wf bs, own_mono hw1 (by rw [hlv]; exact unhide HO)⟩, (unhide HB1).trans ((unhide HB).mono hw1)⟩
      · have e0 : (vecFault (vals bs) == 0) = false := by rw [beq_eq_false_iff_ne]; exact hf
        have HM := hide ((unhide HP).trans (if_neg (fun h => hf h.2)))
        have HF := hide hf
        clear hf hi
        go_wp2_with fail
        go_ret2
        exact ⟨_, false, rfl, Or.inr ⟨rfl, unhide HM, vals bs, unhide HF, vals_wf bs, own_mono hw1 (by rw [hlv]; exact unhide HO)⟩, (unhide HB1).trans ((unhide HB).mono hw1)⟩

end Go.Proofs.YtjfplfhdfiebgaaDoor
