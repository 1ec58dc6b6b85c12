/-
  Texts of this proof in one: Fault, VecOf, ListC, Parse, CutSp, TextPlain, WrBase, InB, InC, WrFault, WrZero, WTextPlain, SpecReadB, SpecReadNo.
  Their conditions stand in their theorems.
-/
import Derived.Test.YtjfplfhdfiebgaaDoorChecked
import Derived.Test.YtjfplfhdfiebgaaDoorPq01
import Derived.Test.YtjfplfhdfiebgaaDoorPq02
import Derived.WalkSmall
import Derived.Outline
import Derived.Test.YtjfplfhdfiebgaaDoorPq03
import Derived.Lib.AppendIntMem
import Derived.Deep.RegionHeld3

namespace Go.Proofs.YtjfplfhdfiebgaaDoor
open Go.RowKit

set_option maxHeartbeats 400000 in
theorem implFault_len (ao : Option Addr) (n cap : Nat) (w : World) (h : n ≠ 3) :
    Calls Tryd.prog 56 #[.slice ao n cap] w fun e w' => e = .returned (.int .i64 1) ∧ w' = w := by
  have h3 : ((n : Int) != 3) = true := by rw [bne_iff_ne]; omega
  go_enter Tryd.func56, Tryd.ntmps56
  go_wp2
  go_ret
  exact ⟨rfl, rfl⟩

set_option maxHeartbeats 400000 in
theorem implFault_three (b off cap : Nat) (zs : List Int) (w : World) (h : zs.length = 3) (hc : ∀ j, j < 3 → w.cell? ⟨b, off + j, none⟩ = some (.int .i64 (zs.getD j 0))) :
    Calls Tryd.prog 56 #[.slice (some ⟨b, off, none⟩) 3 cap] w fun e w' => e = .returned (.int .i64 (vecFault zs)) ∧ w' = w := by
  go_enter Tryd.func56, Tryd.ntmps56
  go_wp2
  go_loop [10] (fun i => ∃ k : Nat, k ≤ 3 ∧ i = .int .i64 k ∧ ∀ j, j < k → partB (zs.getD j 0) = true) (fun i => 3 - (intOf i).toNat)
  case atStart => exact ⟨0, Nat.zero_le _, rfl, fun j hj => by omega⟩
  case round =>
    obtain ⟨k, hk, rfl, hg⟩ := hrel
    have HG : Hid (∀ j, j < k → partB (zs.getD j 0) = true) := hg
    have HL : Hid (zs.length = 3) := h
    clear hg h
    by_cases hlt : k < 3
    · have hcx : w.cell? ⟨b, off + k, none⟩ = some (.int .i64 (zs.getD k 0)) := hc k hlt
      obtain ⟨z, hz⟩ : ∃ z, z = zs.getD k 0 := ⟨_, rfl⟩
      rw [← hz] at hcx
      have HZ : Hid (z = zs.getD k 0) := hz
      clear hz hc
      cases hp : partB z with
      | true =>
        have hb := partB_true hp
        have HP : Hid (partB z = true) := hp
        clear hp
        obtain ⟨hb1, hb2⟩ := hb
        go_wp2
        go_round
        case rel =>
          refine ⟨k + 1, by omega, by go_num, fun j hj => ?_⟩
          by_cases hjk : j < k
          · exact HG.out j hjk
          · rw [show j = k by omega, ← HZ.out]; exact HP.out
        case measure => simp [intOf]; omega
      | false =>
        have HV : Hid (vecFault zs = 3) := vecFault_bad HL.out k hlt (by rw [← HZ.out]; exact hp)
        have hb := partB_false hp
        clear hp
        rcases hb with hb | hb
        · go_wp2
          go_ret
          exact ⟨by rw [HV.out]; rfl, rfl⟩
        · have hb1 : -1000 ≤ z := by omega
          have hd : decide (z ≤ 1000) = false := by simp; omega
          go_wp2
          go_ret
          exact ⟨by rw [HV.out]; rfl, rfl⟩
    · have HV : Hid (vecFault zs = 0) := vecFault_ok HL.out (fun j hj => HG.out j (by omega))
      go_wp2
      go_ret
      exact ⟨by rw [HV.out]; rfl, rfl⟩

set_option maxHeartbeats 400000 in
theorem modelFault_len (ao : Option Addr) (n cap : Nat) (w : World) (h : n ≠ 3) :
    Calls Tryd.prog 33 #[.slice ao n cap] w fun e w' => e = .returned (.int .i64 1) ∧ w' = w := by
  have h3 : ((n : Int) != 3) = true := by rw [bne_iff_ne]; omega
  go_enter Tryd.func33, Tryd.ntmps33
  go_wp2
  go_ret
  exact ⟨rfl, rfl⟩

set_option maxHeartbeats 400000 in
theorem modelFault_three (b off cap : Nat) (zs : List Int) (w : World) (h : zs.length = 3) (hc : ∀ j, j < 3 → w.cell? ⟨b, off + j, none⟩ = some (.int .i64 (zs.getD j 0))) :
    Calls Tryd.prog 33 #[.slice (some ⟨b, off, none⟩) 3 cap] w fun e w' => e = .returned (.int .i64 (vecFault zs)) ∧ w' = w := by
  go_enter Tryd.func33, Tryd.ntmps33
  go_wp2
  go_loop [3] (fun i => ∃ k : Nat, k ≤ 3 ∧ i = .int .i64 k ∧ ∀ j, j < k → partB (zs.getD j 0) = true) (fun i => 3 - (intOf i).toNat)
  case atStart => exact ⟨0, Nat.zero_le _, rfl, fun j hj => by omega⟩
  case round =>
    obtain ⟨k, hk, rfl, hg⟩ := hrel
    have HG : Hid (∀ j, j < k → partB (zs.getD j 0) = true) := hg
    have HL : Hid (zs.length = 3) := h
    clear hg h
    by_cases hlt : k < 3
    · have hcx : w.cell? ⟨b, off + k, none⟩ = some (.int .i64 (zs.getD k 0)) := hc k hlt
      obtain ⟨z, hz⟩ : ∃ z, z = zs.getD k 0 := ⟨_, rfl⟩
      rw [← hz] at hcx
      have HZ : Hid (z = zs.getD k 0) := hz
      clear hz hc
      cases hp : partB z with
      | true =>
        have hb := partB_true hp
        have HP : Hid (partB z = true) := hp
        clear hp
        obtain ⟨hb1, hb2⟩ := hb
        go_wp2
        go_round
        case rel =>
          refine ⟨k + 1, by omega, by go_num, fun j hj => ?_⟩
          by_cases hjk : j < k
          · exact HG.out j hjk
          · rw [show j = k by omega, ← HZ.out]; exact HP.out
        case measure => simp [intOf]; omega
      | false =>
        have HV : Hid (vecFault zs = 3) := vecFault_bad HL.out k hlt (by rw [← HZ.out]; exact hp)
        have hb := partB_false hp
        clear hp
        rcases hb with hb | hb
        · go_wp2
          go_ret
          exact ⟨by rw [HV.out]; rfl, rfl⟩
        · have hb1 : -1000 ≤ z := by omega
          have hd : decide (z ≤ 1000) = false := by simp; omega
          go_wp2
          go_ret
          exact ⟨by rw [HV.out]; rfl, rfl⟩
    · have HV : Hid (vecFault zs = 0) := vecFault_ok HL.out (fun j hj => HG.out j (by omega))
      go_wp2
      go_ret
      exact ⟨by rw [HV.out]; rfl, rfl⟩


/-- VecFault of the program. -/
theorem implFault (v : Value) (zs : List Int) (w : World) (h : IsInts w v zs) :
    Calls Tryd.prog 56 #[v] w fun e w' => e = .returned (.int .i64 (vecFault zs)) ∧ w' = w := by
  obtain ⟨ao, cap, rfl, hwf, hc⟩ := h
  by_cases h3 : zs.length = 3
  · obtain ⟨b, off, rfl, hc1⟩ := hc (by omega)
    rw [h3] at hc1 ⊢
    exact implFault_three b off cap zs w h3 hc1
  · rw [vecFault_len h3]
    exact implFault_len ao zs.length cap w h3

/-- VecFault of the model. -/
theorem modelFault (v : Value) (zs : List Int) (w : World) (h : IsInts w v zs) :
    Calls Tryd.prog 33 #[v] w fun e w' => e = .returned (.int .i64 (vecFault zs)) ∧ w' = w := by
  obtain ⟨ao, cap, rfl, hwf, hc⟩ := h
  by_cases h3 : zs.length = 3
  · obtain ⟨b, off, rfl, hc1⟩ := hc (by omega)
    rw [h3] at hc1 ⊢
    exact modelFault_three b off cap zs w h3 hc1
  · rw [vecFault_len h3]
    exact modelFault_len ao zs.length cap w h3

end Go.Proofs.YtjfplfhdfiebgaaDoor

namespace Go.Proofs.YtjfplfhdfiebgaaDoor
open Go.RowKit

theorem bcell {W w1 : World} (hb : Below W.heap.size W w1) : (∀ b o, b < W.heap.size → w1.cell? ⟨b, o, none⟩ = W.cell? ⟨b, o, none⟩) ∧ (∀ b o, b < W.heap.size → w1.frozen? ⟨b, o, none⟩ = W.frozen? ⟨b, o, none⟩) :=
  ⟨fun b o h => hb.cell (p := ⟨b, o, none⟩) h, fun b o h => hb.frozen (p := ⟨b, o, none⟩) h⟩

/-- Two blocks of three cells that were laid ahead of a call are there behind it, and may be written. -/
theorem two_kept {w w1 : World} {T : TypeId} {x0 x1 x2 y0 y1 y2 : Value} (hb : Below ((w.alloc (.cells #[x0, x1, x2] T)).alloc (.cells #[y0, y1, y2] T)).heap.size ((w.alloc (.cells #[x0, x1, x2] T)).alloc (.cells #[y0, y1, y2] T)) w1) :
    (w1.cell? ⟨w.heap.size, 0, none⟩ = some x0 ∧ w1.cell? ⟨w.heap.size, 1, none⟩ = some x1 ∧ w1.cell? ⟨w.heap.size, 2, none⟩ = some x2) ∧
    (w1.cell? ⟨w.heap.size + 1, 0, none⟩ = some y0 ∧ w1.cell? ⟨w.heap.size + 1, 1, none⟩ = some y1 ∧ w1.cell? ⟨w.heap.size + 1, 2, none⟩ = some y2) ∧
    (∀ o, w1.frozen? ⟨w.heap.size, o, none⟩ = false) ∧ (∀ o, w1.frozen? ⟨w.heap.size + 1, o, none⟩ = false) := by
  refine ⟨⟨?_, ?_, ?_⟩, ⟨?_, ?_, ?_⟩, fun o => ?_, fun o => ?_⟩
  all_goals first | rw [hb.cell (by simp [World.size_alloc]; try omega)] | rw [hb.frozen (by simp [World.size_alloc]; try omega)]
  all_goals simp [go_sem]

/-- Three numbers as an array. -/
def arr3 (x y z : Int) : Value := .agg #[.int .i64 x, .int .i64 y, .int .i64 z]

theorem IsInts.three {w : World} {v : Value} {zs : List Int} (h : IsInts w v zs) (h3 : zs.length = 3) :
    ∃ b off cap x y z, zs = [x, y, z] ∧ v = .slice (some ⟨b, off, none⟩) 3 cap ∧ b < w.heap.size ∧ w.cell? ⟨b, off, none⟩ = some (.int .i64 x) ∧ w.cell? ⟨b, off + 1, none⟩ = some (.int .i64 y) ∧ w.cell? ⟨b, off + 2, none⟩ = some (.int .i64 z) := by
  obtain ⟨ao, cap, rfl, hwf, hc⟩ := h
  match zs, h3 with
  | [x, y, z], _ =>
    obtain ⟨b, off, rfl, hc1⟩ := hc (by simp)
    have c0 := hc1 0 (by simp)
    have c1 := hc1 1 (by simp)
    have c2 := hc1 2 (by simp)
    exact ⟨b, off, cap, x, y, z, rfl, rfl, World.block_lt_of_cell? _ _ c0, by simpa using c0, by simpa using c1, by simpa using c2⟩

set_option maxHeartbeats 400000 in
theorem vectorOf_bad (v : Value) (zs : List Int) (w : World) (h : IsInts w v zs) (hf : vecFault zs ≠ 0) :
    Calls Tryd.prog 39 #[v] w fun e w' => e = .returned (.tuple #[arr3 0 0 0, .int .i64 (vecFault zs)]) ∧ Below w.heap.size w w' := by
  go_enter Tryd.func39, Tryd.ntmps39
  go_wp2_with fail
  refine (implFault v zs _ (h.later (((Below.refl _ _).alloc (Nat.le_refl _) _).alloc (by simp) _))).mono ?_
  rintro e w' ⟨rfl, rfl⟩
  have hne : (vecFault zs != 0) = true := by rw [bne_iff_ne]; exact hf
  go_wp2_with fail
  refine bodyPost_ret (v := .tuple #[arr3 0 0 0, .int .i64 (vecFault zs)]) (by simp [results, Tryd.results39, go_sem, arr3]) rfl ⟨rfl, ?_⟩
  exact ((Below.refl _ _).alloc (Nat.le_refl _) _).alloc (by simp) _

set_option maxHeartbeats 1000000 in
theorem vectorOf_three (b off cap : Nat) (x y z : Int) (w : World) (hbl : b < w.heap.size) (c0 : w.cell? ⟨b, off, none⟩ = some (.int .i64 x)) (c1 : w.cell? ⟨b, off + 1, none⟩ = some (.int .i64 y)) (c2 : w.cell? ⟨b, off + 2, none⟩ = some (.int .i64 z))
    (h : IsInts w (.slice (some ⟨b, off, none⟩) 3 cap) [x, y, z]) (hf : vecFault [x, y, z] = 0) :
    Calls Tryd.prog 39 #[.slice (some ⟨b, off, none⟩) 3 cap] w fun e w' => e = .returned (.tuple #[arr3 x y z, .int .i64 0]) ∧ Below w.heap.size w w' := by
  go_enter Tryd.func39, Tryd.ntmps39
  go_wp2_with fail
  refine (implFault _ [x, y, z] _ (h.later (((Below.refl _ _).alloc (Nat.le_refl _) _).alloc (by simp) _))).mono ?_
  rintro e w' ⟨rfl, rfl⟩
  rw [hf]
  clear h hf
  go_wp2_with fail
  refine wp_loop_rounds 4 ?_
  rw [rounds_succ]
  go_wp2
  rw [rounds_succ]
  go_wp2
  rw [rounds_succ]
  go_wp2
  rw [rounds_succ]
  go_wp2
  refine bodyPost_ret (v := .tuple #[arr3 x y z, .int .i64 0]) (by simp [results, Tryd.results39, go_sem, arr3]) rfl ⟨rfl, ?_⟩
  exact ((Below.refl _ _).alloc (Nat.le_refl _) _).alloc (by simp) _

theorem vectorOf_ok (v : Value) (x y z : Int) (w : World) (h : IsInts w v [x, y, z]) (hf : vecFault [x, y, z] = 0) :
    Calls Tryd.prog 39 #[v] w fun e w' => e = .returned (.tuple #[arr3 x y z, .int .i64 0]) ∧ Below w.heap.size w w' := by
  obtain ⟨b, off, cap, x', y', z', he, rfl, hbl, c0, c1, c2⟩ := h.three rfl
  simp only [List.cons.injEq, and_true] at he
  obtain ⟨rfl, rfl, rfl⟩ := he
  exact vectorOf_three b off cap x y z w hbl c0 c1 c2 h hf

end Go.Proofs.YtjfplfhdfiebgaaDoor

namespace Go.Proofs.YtjfplfhdfiebgaaDoor
open Go.RowKit

set_option maxHeartbeats 400000 in
theorem listOf3 (x y z : Int) (w : World) :
    Calls Tryd.prog 41 #[arr3 x y z] w fun e w' => e = .returned (.slice (some ⟨w.heap.size + 1, 0, none⟩) 3 3) ∧
      (w.alloc (.cells #[.int .i64 x, .int .i64 y, .int .i64 z] 66)).alloc (.cells #[.int .i64 x, .int .i64 y, .int .i64 z] 2) = w' := by
  have hmk : ∀ w : World, (Instr.makeSlice 22 (.int .i64 3) (.int .i64 3)).run Tryd.prog w = .ok (.slice (some ⟨w.heap.size, 0, none⟩) 3 3) (w.alloc (.cells #[.int .i64 0, .int .i64 0, .int .i64 0] 2)) := fun _ => by kernel_rfl
  have i0 : ∀ w : World, (Instr.index 66 (.agg #[.int .i64 x, .int .i64 y, .int .i64 z]) (.int .i64 0)).run Tryd.prog w = .ok (.int .i64 x) w := fun _ => by kernel_rfl
  have i1 : ∀ w : World, (Instr.index 66 (.agg #[.int .i64 x, .int .i64 y, .int .i64 z]) (.int .i64 1)).run Tryd.prog w = .ok (.int .i64 y) w := fun _ => by kernel_rfl
  have i2 : ∀ w : World, (Instr.index 66 (.agg #[.int .i64 x, .int .i64 y, .int .i64 z]) (.int .i64 2)).run Tryd.prog w = .ok (.int .i64 z) w := fun _ => by kernel_rfl
  simp only [arr3]
  go_enter Tryd.func41, Tryd.ntmps41
  go_wp2
  refine wp_loop_rounds 4 ?_
  rw [rounds_succ]
  go_wp2
  rw [rounds_succ]
  go_wp2
  rw [rounds_succ]
  go_wp2
  rw [rounds_succ]
  go_wp2
  go_ret
  exact ⟨rfl, rfl⟩

end Go.Proofs.YtjfplfhdfiebgaaDoor

namespace Go.Proofs.YtjfplfhdfiebgaaDoor
open Go.RowKit

theorem listOwn (x y z : Int) (w : World) (hw : ∀ a ∈ [x, y, z], (Lit.int .i64 a).wf = true) :
    Calls Tryd.prog 41 #[arr3 x y z] w fun e w' => ∃ g, e = .returned (.slice (some ⟨g, 0, none⟩) 3 3) ∧ (Lay.sl Lay.int).OwnIn w' [.slice (some ⟨g, 0, none⟩) 3 3] [x, y, z] w.heap.size w'.heap.size ∧ Below w.heap.size w w' := by
  refine (listOf3 x y z w).mono ?_
  rintro e w' ⟨rfl, rfl⟩
  refine ⟨w.heap.size + 1, rfl, ?_, ((Below.refl _ _).alloc (Nat.le_refl _) _).alloc (by simp) _⟩
  refine Lay.ownInts (zs := [x, y, z]) (base := w.heap.size) (T := 2) hw (by simp) ?_
  exact own_new3 (W := w.alloc _) (by simp) (by simp)

end Go.Proofs.YtjfplfhdfiebgaaDoor

namespace Go.Proofs.YtjfplfhdfiebgaaDoor
open Go.RowKit

theorem numR_bd (l : Bytes) : -9999 ≤ (numR l).1 ∧ (numR l).1 ≤ 9999 := by
  unfold numR
  split
  · simp
  · next h =>
    split
    · next h2 =>
      have := dval_lt (bodyOf l) h2 (by omega)
      unfold signed
      split <;> simp <;> omega
    · simp

def vals (bs : List ByteArray) : List Int := bs.map fun b => (numR b.data.toList).1
theorem vals_wf (bs : List ByteArray) : ∀ z ∈ vals bs, (Lit.int .i64 z).wf = true := by
  intro z hz
  obtain ⟨b, _, rfl⟩ := List.mem_map.1 hz
  exact wf_of_bd (by have := numR_bd b.data.toList; omega)
theorem vals_snoc (bs : List ByteArray) (k : Nat) (hk : k < bs.length) : vals (bs.take (k + 1)) = vals (bs.take k) ++ [(numR bs[k].data.toList).1] := by
  unfold vals
  rw [List.take_succ_eq_append_getElem hk, List.map_append]
  rfl
theorem all_snoc (bs : List ByteArray) (k : Nat) (hk : k < bs.length) : (bs.take (k + 1)).all (fun b => (numR b.data.toList).2) = ((bs.take k).all (fun b => (numR b.data.toList).2) && (numR bs[k].data.toList).2) := by
  rw [List.take_succ_eq_append_getElem hk, List.all_append]
  simp
theorem all_bad (bs : List ByteArray) (k : Nat) (hk : k < bs.length) (h : (numR bs[k].data.toList).2 = false) : bs.all (fun b => (numR b.data.toList).2) = false := by
  rw [List.all_eq_false]
  exact ⟨bs[k], List.getElem_mem hk, by rw [h]; simp⟩

theorem modelP_of {l : Bytes} {bs : List ByteArray} (h : bs.map (fun b => b.data.toList) = cutA [] l) : modelP l = if bs.all (fun b => (numR b.data.toList).2) = true ∧ vecFault (vals bs) = 0 then some (vals bs) else none := by
  unfold modelP vals
  rw [← h]
  simp only [List.all_map, List.map_map]
  rfl

/-- What l1Parse leaves. -/
def ParsePost (l : Bytes) (w : World) (e : Ending) (w' : World) : Prop :=
  ∃ v b, e = .returned (.tuple #[v, .bool b]) ∧ ((b = true ∧ ∃ ms, modelP l = some ms ∧ (∀ z ∈ ms, (Lit.int .i64 z).wf = true) ∧ w'.ownsRow w.heap.size 2 1 v ms.length (ms.map (Value.int .i64))) ∨ (b = false ∧ modelP l = none ∧ ∃ ms : List Int, vecFault ms ≠ 0 ∧ (∀ z ∈ ms, (Lit.int .i64 z).wf = true) ∧ w'.ownsRow w.heap.size 2 1 v ms.length (ms.map (Value.int .i64)))) ∧ Below w.heap.size w w'

set_option maxRecDepth 100000 in
set_option maxHeartbeats 1600000 in
theorem parseC (s : ByteArray) (w : World) (hs : s.size ≤ 1048576) :
    Calls Tryd.prog 46 #[.string s] w (ParsePost s.data.toList w) := by
  go_enter Tryd.func46, Tryd.ntmps46
  go_wp2_with fail
  refine (cutC s w hs).mono ?_
  rintro e w1 ⟨v1, bs, rfl, hown, hcut, hlen, hsmall, hB1⟩
  have hne : bs ≠ [] := by
    rintro rfl
    exact cutA_ne [] s.data.toList hcut.symm
  have hpos : 0 < bs.length := by cases bs with | nil => exact absurd rfl hne | cons c r => simp
  obtain ⟨g, cap, rfl, hg, hcell⟩ : ∃ g cap, v1 = .slice (some ⟨g, 0, none⟩) bs.length cap ∧ g < w1.heap.size ∧ ∀ j (hj : j < bs.length), w1.cell? ⟨g, j, none⟩ = some (.string bs[j]) := by
    rcases hown.2 with ⟨_, h0⟩ | ⟨g, cap, cur, rfl, _, hh, _⟩
    · omega
    · refine ⟨g, cap, rfl, lt_of_block hh, fun j hj => ?_⟩
      rw [hown.cellAt j (by omega)]
      simp [hj]
  have HP := hide (modelP_of hcut)
  have HC := hide hcell
  have HS := hide hsmall
  have HB1 := hide hB1
  clear hown hcut hne hcell hsmall hB1
  have hw1 := (unhide HB1).size
  go_wp2_with fail
  go_loopw [5, 6] (fun v ii wr => ∃ k : Nat, k ≤ bs.length ∧ ii = .int .i64 k ∧ (bs.take k).all (fun b => (numR b.data.toList).2) = true ∧ wr.ownsRow w1.heap.size 2 1 v k ((vals (bs.take k)).map (Value.int .i64)) ∧ w1.heap.size ≤ wr.heap.size ∧ Below w1.heap.size w1 wr)
    (fun _ i _ => bs.length - (intOf i).toNat)
  case atStart => exact ⟨0, by omega, rfl, by simp, World.ownsRow_lit w1 #[] 0 (Nat.le_refl _) (by unfold maxLen; omega) rfl, by simp, (Below.refl _ _).alloc (Nat.le_refl _) _⟩
  case round =>
    obtain ⟨k, hk, rfl, hall, hown, hsz, hB⟩ := hrel
    have HA := hide hall
    have HB := hide hB
    clear hall hB
    by_cases hlt : k < bs.length
    · have hcx : wr.cell? ⟨g, k, none⟩ = some (.string bs[k]) := ((unhide HB).cell (p := ⟨g, k, none⟩) hg).trans (unhide HC k hlt)
      have hbk : bs[k].size ≤ 1048576 := unhide HS _ (List.getElem_mem hlt)
      obtain ⟨p, hp⟩ : ∃ p, p = bs[k] := ⟨_, rfl⟩
      rw [← hp] at hcx hbk
      have HPK := hide hp
      clear hp
      go_wp2_with fail
      refine (number p wr hbk).mono ?_
      rintro e w2 ⟨rfl, hb2⟩
      have hb := numR_bd p.data.toList
      cases hok : (numR p.data.toList).2 with
      | false =>
        have HM : Hid (modelP s.data.toList = none) := by
          show modelP s.data.toList = none
          rw [unhide HP, if_neg]
          rintro ⟨h, _⟩
          rw [all_bad bs k hlt (by rw [← unhide HPK]; exact hok)] at h
          simp at h
        have HB2 := hide (((unhide HB1).trans ((unhide HB).mono hw1)).trans (hb2.mono (by omega)))
        clear hb2 hok hcx HB hown
        go_wp2_with fail
        go_ret2
        exact ⟨_, false, rfl, Or.inr ⟨rfl, unhide HM, [], by decide, by simp, World.ownsRow_nil _ _ _ _⟩, unhide HB2⟩
      | true =>
        have hown2 := own_below hown hb2
        have HB2 := hide ((unhide HB).trans (hb2.mono hsz))
        have hsz2 := hb2.size
        have HOK := hide hok
        obtain ⟨i0, hi0, hz0, hz1, hz2⟩ := info_parts info2
        clear hb2 hok hcx HB hown
        generalize hq : (numR p.data.toList).1 = q at *
        have HQ := hide hq
        clear hq
        go_wp2_with (at_builtin; refine wpList_append_lies _ rfl _ _ 22 rfl w1.heap.size 2 i0 _ 1 8 Tryd.underlying22 hi0 hz0 hz1 hz2 rfl (by omega) _ k _ rfl (hown2.alloc _) ⟨w2.heap.size, 0, none⟩ 1 1 [.int .i64 q] rfl rfl (World.news_of_block (cs := #[.int .i64 q]) (t := 2) (fr := (0, 0)) (heap_alloc_new w2 _)) (by simp [Value.oneCell']) (by omega) (by unfold maxLen; omega) (by omega) (by simp; omega) (w2.heap.size + 1) (by simp) ?_)
        intro gg cap2 w3 hown3 hgrow _ _
        have hs3 := hgrow.size
        have hs3' : w1.heap.size ≤ w3.heap.size := by simp at hs3; omega
        have HB3 := hide (((unhide HB2).alloc (by omega) (.cells #[.int .i64 q] 2)).grown hgrow (by simp; omega) (fun j hj => (hown2.lt j hj).1))
        have HO3 : Hid (w3.ownsRow w1.heap.size 2 1 (.slice (some ⟨gg, 0, none⟩) (k + 1) cap2) (k + 1) ((vals (bs.take (k + 1))).map (Value.int .i64))) := by
          show w3.ownsRow w1.heap.size 2 1 (.slice (some ⟨gg, 0, none⟩) (k + 1) cap2) (k + 1) ((vals (bs.take (k + 1))).map (Value.int .i64))
          rw [vals_snoc bs k hlt, List.map_append, ← unhide HPK, unhide HQ]
          exact hown3
        have HA3 : Hid ((bs.take (k + 1)).all (fun b => (numR b.data.toList).2) = true) := by
          show (bs.take (k + 1)).all (fun b => (numR b.data.toList).2) = true
          rw [all_snoc bs k hlt, unhide HA, ← unhide HPK, unhide HOK]
          rfl
        clear hown2 hown3 hgrow HB2 hs3 hi0 hz0 hz1 hz2
        go_wp2
        go_roundw
        case rel => exact ⟨k + 1, by omega, by go_num, unhide HA3, unhide HO3, hs3', unhide HB3⟩
        case measure => simp [intOf]; omega
    · obtain rfl : k = bs.length := by omega
      rw [List.take_length] at hown
      have hA := unhide HA
      rw [List.take_length] at hA
      have hlv : (vals bs).length = bs.length := by simp [vals]
      have hi : IsInts wr _ (vals bs) := isInts_row (vals_wf bs) (by rw [hlv]; exact hown)
      have HO := hide hown
      have hAA := hide hA
      clear hA hown
      go_wp2_with fail
      refine (modelFault _ (vals bs) wr hi).mono ?_
      rintro e w2 ⟨rfl, rfl⟩
      by_cases hf : vecFault (vals bs) = 0
      · have e0 : (vecFault (vals bs) == 0) = true := by rw [hf]; rfl
        have HM := hide ((unhide HP).trans (if_pos ⟨unhide hAA, hf⟩))
        clear hf hi
        go_wp2_with fail
        go_ret2
        refine ⟨_, true, rfl, Or.inl ⟨rfl, vals bs, unhide HM, vals_wf bs, own_mono hw1 (by rw [hlv]; exact unhide HO)⟩, (unhide HB1).trans ((unhide HB).mono hw1)⟩
      · have e0 : (vecFault (vals bs) == 0) = false := by rw [beq_eq_false_iff_ne]; exact hf
        have HM := hide ((unhide HP).trans (if_neg (fun h => hf h.2)))
        have HF := hide hf
        clear hf hi
        go_wp2_with fail
        go_ret2
        exact ⟨_, false, rfl, Or.inr ⟨rfl, unhide HM, vals bs, unhide HF, vals_wf bs, own_mono hw1 (by rw [hlv]; exact unhide HO)⟩, (unhide HB1).trans ((unhide HB).mono hw1)⟩

end Go.Proofs.YtjfplfhdfiebgaaDoor

namespace Go.Proofs.YtjfplfhdfiebgaaDoor
open Go.RowKit

/-- Cut at each 32; acc: what stands ahead in this piece. -/
def cutS (acc : Bytes) : Bytes → List Bytes
  | [] => [acc]
  | c :: r => if c.toNat = 32 then acc :: cutS [] r else cutS (acc ++ [c]) r

/-- What holds ahead of each round. -/
def CutSInv (s : ByteArray) (i f : Nat) (bs : List ByteArray) : Prop :=
  (i ≤ s.size ∧ f ≤ i ∧ bs.map (fun b => b.data.toList) ++ cutS (seg s f i) (rest s i) = cutS [] s.data.toList) ∨ (i = s.size + 1 ∧ bs.map (fun b => b.data.toList) = cutS [] s.data.toList)

theorem cutS_end {s : ByteArray} {f : Nat} {bs : List ByteArray} (h : CutSInv s s.size f bs) : CutSInv s (s.size + 1) (s.size + 1) (bs ++ [s.extract f s.size]) := by
  rcases h with ⟨_, _, h⟩ | ⟨h, _⟩
  · right
    rw [rest_nil s s.size (by omega), cutS] at h
    refine ⟨rfl, ?_⟩
    rw [List.map_append, ← h]
    simp only [List.map_cons, List.map_nil, ext_seg]
  · omega
theorem cutS_blank {s : ByteArray} {i f : Nat} {bs : List ByteArray} (hi : i < s.size) (hc : s[i].toNat = 32) (h : CutSInv s i f bs) : CutSInv s (i + 1) (i + 1) (bs ++ [s.extract f i]) := by
  rcases h with ⟨_, _, h⟩ | ⟨h, _⟩
  · left
    rw [rest_cons s i hi, cutS, if_pos hc] at h
    refine ⟨by omega, by omega, ?_⟩
    rw [List.map_append, seg_start, ← h]
    simp only [List.map_cons, List.map_nil, ext_seg, List.append_assoc, List.cons_append, List.nil_append]
  · omega
theorem cutS_other {s : ByteArray} {i f : Nat} {bs : List ByteArray} (hi : i < s.size) (hc : s[i].toNat ≠ 32) (h : CutSInv s i f bs) : CutSInv s (i + 1) f bs := by
  rcases h with ⟨_, hf, h⟩ | ⟨h, _⟩
  · left
    rw [rest_cons s i hi, cutS, if_neg hc] at h
    refine ⟨by omega, by omega, ?_⟩
    rw [seg_snoc s f i hf hi]
    exact h
  · omega

set_option maxRecDepth 100000 in
set_option maxHeartbeats 1600000 in
theorem cutSpC (s : ByteArray) (w : World) (hs : s.size ≤ 1048576) :
    Calls Tryd.prog 26 #[.string s, .int .u8 32] w fun e w' => ∃ (v : Value) (bs : List ByteArray), e = .returned v ∧ w'.ownsRow w.heap.size 9 1 v bs.length (bs.map Value.string) ∧
      bs.map (fun b => b.data.toList) = cutS [] s.data.toList ∧ bs.length ≤ 1048577 ∧ (∀ b ∈ bs, b.size ≤ 1048576) ∧ Below w.heap.size w w' := by
  go_enter Tryd.func26, Tryd.ntmps26
  go_wp2
  go_loopw [5, 6, 7] (fun v ff ii wr => ∃ (i f : Nat) (bs : List ByteArray), i ≤ s.size + 1 ∧ (i ≤ s.size → f ≤ i) ∧ ii = .int .i64 i ∧ ff = .int .i64 f ∧ bs.length ≤ i ∧ (∀ b ∈ bs, b.size ≤ 1048576) ∧ CutSInv s i f bs ∧ wr.ownsRow w.heap.size 9 1 v bs.length (bs.map Value.string) ∧ Below w.heap.size w wr)
    (fun _ _ i _ => s.size + 1 - (intOf i).toNat)
  case atStart =>
    refine ⟨0, 0, [], by omega, fun _ => by omega, rfl, rfl, by simp, by simp, Or.inl ⟨by omega, by omega, by rw [seg_start]; rfl⟩, ?_, (Below.refl _ _).alloc (Nat.le_refl _) _⟩
    exact World.ownsRow_lit w #[] 0 (Nat.le_refl _) (by unfold maxLen; omega) rfl
  case round =>
    obtain ⟨i, f, bs, hi, hf, rfl, rfl, hbl, hbz, hinv, hown, hB⟩ := hrel
    by_cases hle : i ≤ s.size
    · have hf' := hf hle
      have HI := hide hinv
      have HZ := hide hbz
      have HB := hide hB
      have hsz := hB.size
      clear hinv hbz hB hf
      by_cases he : i = s.size
      · have e1 : ((i : Int) == (s.size : Int)) = true := by rw [beq_iff_eq]; omega
        have HE := hide he
        clear he
        obtain ⟨i0, hi0, hz0, hz1, hz2⟩ := info_parts infoSt
        go_wp2_with (at_builtin; refine wpList_append_lies _ rfl _ _ 49 rfl w.heap.size 9 i0 _ 1 16 Tryd.underlying49 hi0 hz0 hz1 hz2 rfl (by omega) _ bs.length _ rfl (hown.alloc _) ⟨wr.heap.size, 0, none⟩ 1 1 [.string (s.extract f i)] rfl rfl (World.news_of_block (cs := #[.string (s.extract f i)]) (t := 9) (fr := (0, 0)) (heap_alloc_new wr _)) (by simp [Value.oneCell']) (by omega) (by unfold maxLen; omega) (by omega) (by simp; omega) (wr.heap.size + 1) (by simp) ?_)
        intro g cap w1 hown1 hgrow _ _
        have HO := hide (map_snoc bs _ hown1)
        have HB1 := hide (((unhide HB).alloc hsz (.cells #[.string (s.extract f i)] 9)).grown hgrow (by simp; omega) (fun j hj => (hown.lt j hj).1))
        clear hown1 hgrow hown hi0 hz0 hz1 hz2 HB
        go_wp2
        go_roundw
        case rel => exact ⟨i + 1, i + 1, bs ++ [s.extract f i], by omega, fun _ => by omega, by go_num, by go_num, by simp; omega, small_snoc hs (unhide HZ), by have h := unhide HI; rw [unhide HE] at h ⊢; exact cutS_end h, unhide HO, unhide HB1⟩
        case measure => simp [intOf]; omega
      · have hlt : i < s.size := by omega
        have e1 : ((i : Int) == (s.size : Int)) = false := by rw [beq_eq_false_iff_ne]; omega
        clear he
        by_cases h32 : s[i].toNat = 32
        · have e2 : ((s[i].toNat : Int) == 32) = true := by rw [beq_iff_eq]; omega
          have H32 := hide h32
          clear h32
          obtain ⟨i0, hi0, hz0, hz1, hz2⟩ := info_parts infoSt
          go_wp2_with (at_builtin; refine wpList_append_lies _ rfl _ _ 49 rfl w.heap.size 9 i0 _ 1 16 Tryd.underlying49 hi0 hz0 hz1 hz2 rfl (by omega) _ bs.length _ rfl (hown.alloc _) ⟨wr.heap.size, 0, none⟩ 1 1 [.string (s.extract f i)] rfl rfl (World.news_of_block (cs := #[.string (s.extract f i)]) (t := 9) (fr := (0, 0)) (heap_alloc_new wr _)) (by simp [Value.oneCell']) (by omega) (by unfold maxLen; omega) (by omega) (by simp; omega) (wr.heap.size + 1) (by simp) ?_)
          intro g cap w1 hown1 hgrow _ _
          have HO := hide (map_snoc bs _ hown1)
          have HB1 := hide (((unhide HB).alloc hsz (.cells #[.string (s.extract f i)] 9)).grown hgrow (by simp; omega) (fun j hj => (hown.lt j hj).1))
          clear hown1 hgrow hown hi0 hz0 hz1 hz2 HB
          go_wp2
          go_roundw
          case rel => exact ⟨i + 1, i + 1, bs ++ [s.extract f i], by omega, fun _ => by omega, by go_num, by go_num, by simp; omega, small_snoc hs (unhide HZ), cutS_blank hlt (unhide H32) (unhide HI), unhide HO, unhide HB1⟩
          case measure => simp [intOf]; omega
        · have e2 : ((s[i].toNat : Int) == 32) = false := by rw [beq_eq_false_iff_ne]; omega
          have H32 := hide h32
          have HO := hide hown
          clear h32 hown
          go_wp2
          go_roundw
          case rel => exact ⟨i + 1, f, bs, by omega, fun _ => by omega, by go_num, rfl, by omega, unhide HZ, cutS_other hlt (unhide H32) (unhide HI), unhide HO, unhide HB⟩
          case measure => simp [intOf]; omega
    · have HO := hide hown
      have HB := hide hB
      have hend : bs.map (fun b => b.data.toList) = cutS [] s.data.toList := by
        rcases hinv with ⟨h, _⟩ | ⟨_, h⟩
        · omega
        · exact h
      have HE := hide hend
      have HZ := hide hbz
      clear hown hB hinv hend hbz hf
      go_wp2
      go_ret
      exact ⟨_, bs, rfl, unhide HO, unhide HE, by omega, unhide HZ, unhide HB⟩

end Go.Proofs.YtjfplfhdfiebgaaDoor

namespace Go.Proofs.YtjfplfhdfiebgaaDoor
open Go.RowKit

theorem dec_len (n : Int) : (dec n).length ≤ 5 := by
  unfold dec
  split
  · have := decF_len 4 n.natAbs; simp; omega
  · have := decF_len 4 n.toNat; omega

/-- The text of three numbers. -/
def text3 (x y z : Int) : Bytes := dec x ++ 44 :: (dec y ++ 44 :: dec z)
theorem text3_len (x y z : Int) : (text3 x y z).length ≤ 17 := by
  have := dec_len x
  have := dec_len y
  have := dec_len z
  simp [text3]
  omega
/-- What VecText tells. -/
def vecText (zs : List Int) : Bytes := if vecFault zs = 0 then text3 (zs.getD 0 0) (zs.getD 1 0) (zs.getD 2 0) else []
theorem vecText_len (zs : List Int) : (vecText zs).length ≤ 17 := by
  unfold vecText
  split
  · exact text3_len _ _ _
  · simp

end Go.Proofs.YtjfplfhdfiebgaaDoor

namespace Go.Proofs.YtjfplfhdfiebgaaDoor
open Go.RowKit

theorem Box.five {lo : Nat} {x0 x1 x2 x3 x4 : Value} {T : TypeId} {W : World} {s : Nat} (h : Box lo #[x0, x1, x2, x3, x4] T W s) :
    (W.cell? ⟨s, 0, none⟩ = some x0 ∧ W.cell? ⟨s, 1, none⟩ = some x1 ∧ W.cell? ⟨s, 2, none⟩ = some x2 ∧ W.cell? ⟨s, 3, none⟩ = some x3 ∧ W.cell? ⟨s, 4, none⟩ = some x4) ∧ (∀ o, W.frozen? ⟨s, o, none⟩ = false) ∧ s < W.heap.size := by
  refine ⟨⟨?_, ?_, ?_, ?_, ?_⟩, fun o => ?_, h.lt⟩
  all_goals first | simp [World.cell?, h.2] | simp [World.frozen?, h.2]
theorem Box.alloc {lo : Nat} {cs : Array Value} {T : TypeId} {W : World} {s : Nat} (h : Box lo cs T W s) (o : Obj) : Box lo cs T (W.alloc o) s := ⟨h.1, (Below.heap_alloc W o s h.lt).trans h.2⟩

set_option maxRecDepth 100000 in
set_option maxHeartbeats 1000000 in
theorem toWrite (k i : Int) (v : Value) (s q : Int) (zs : List Int) (w : World) (h : IsInts w v zs) (hn : zs.length ≤ 1048576) :
    Calls Tryd.prog 7 #[.agg #[.int .i64 k, .int .i64 i, v, .int .i64 s, .int .i64 q]] w fun e w' => ∃ g : Nat, e = .returned (.agg #[.int .i64 k, .int .i64 i, .slice (some ⟨g, 0, none⟩) zs.length zs.length, .int .i64 s, .int .i64 q]) ∧
      w'.ownsRow w.heap.size 2 1 (.slice (some ⟨g, 0, none⟩) zs.length zs.length) zs.length (zs.map (Value.int .i64)) ∧ Below w.heap.size w w' := by
  have h' := h
  obtain ⟨ao, cap, rfl, -⟩ := h'
  go_enter Tryd.func7, Tryd.ntmps7
  go_wp2_with fail
  have bA : Box w.heap.size #[.int .i64 k, .int .i64 i, .slice ao zs.length cap, .int .i64 s, .int .i64 q] 24 (((w.alloc (.cells #[.int .i64 k, .int .i64 i, .slice ao zs.length cap, .int .i64 s, .int .i64 q] 24)).alloc (.cells #[.int .i64 0, .int .i64 0, .slice none 0 0, .int .i64 0, .int .i64 0] 29)).alloc (.cells #[.int .i64 k, .int .i64 i, .slice none 0 0, .int .i64 0, .int .i64 0] 29)) w.heap.size := ((newBox (Nat.le_refl _)).alloc _).alloc _
  have bZ : Box w.heap.size #[.int .i64 0, .int .i64 0, .slice none 0 0, .int .i64 0, .int .i64 0] 29 (((w.alloc (.cells #[.int .i64 k, .int .i64 i, .slice ao zs.length cap, .int .i64 s, .int .i64 q] 24)).alloc (.cells #[.int .i64 0, .int .i64 0, .slice none 0 0, .int .i64 0, .int .i64 0] 29)).alloc (.cells #[.int .i64 k, .int .i64 i, .slice none 0 0, .int .i64 0, .int .i64 0] 29)) (w.heap.size + 1) := by
    have := (newBox (lo := w.heap.size) (cs := #[.int .i64 0, .int .i64 0, .slice none 0 0, .int .i64 0, .int .i64 0]) (T := 29) (W := w.alloc (.cells #[.int .i64 k, .int .i64 i, .slice ao zs.length cap, .int .i64 s, .int .i64 q] 24)) (by simp)).alloc (.cells #[.int .i64 k, .int .i64 i, .slice none 0 0, .int .i64 0, .int .i64 0] 29)
    simpa using this
  have bO : Box w.heap.size #[.int .i64 k, .int .i64 i, .slice none 0 0, .int .i64 0, .int .i64 0] 29 (((w.alloc (.cells #[.int .i64 k, .int .i64 i, .slice ao zs.length cap, .int .i64 s, .int .i64 q] 24)).alloc (.cells #[.int .i64 0, .int .i64 0, .slice none 0 0, .int .i64 0, .int .i64 0] 29)).alloc (.cells #[.int .i64 k, .int .i64 i, .slice none 0 0, .int .i64 0, .int .i64 0] 29)) (w.heap.size + 1 + 1) := by
    have := newBox (lo := w.heap.size) (cs := #[.int .i64 k, .int .i64 i, .slice none 0 0, .int .i64 0, .int .i64 0]) (T := 29) (W := (w.alloc (.cells #[.int .i64 k, .int .i64 i, .slice ao zs.length cap, .int .i64 s, .int .i64 q] 24)).alloc (.cells #[.int .i64 0, .int .i64 0, .slice none 0 0, .int .i64 0, .int .i64 0] 29)) (by simp; omega)
    simpa using this
  have B0 : Below w.heap.size w (((w.alloc (.cells #[.int .i64 k, .int .i64 i, .slice ao zs.length cap, .int .i64 s, .int .i64 q] 24)).alloc (.cells #[.int .i64 0, .int .i64 0, .slice none 0 0, .int .i64 0, .int .i64 0] 29)).alloc (.cells #[.int .i64 k, .int .i64 i, .slice none 0 0, .int .i64 0, .int .i64 0] 29)) := (((Below.refl _ _).alloc (Nat.le_refl _) _).alloc (by simp) _).alloc (by simp; omega) _
  have hz0 : (((w.alloc (.cells #[.int .i64 k, .int .i64 i, .slice ao zs.length cap, .int .i64 s, .int .i64 q] 24)).alloc (.cells #[.int .i64 0, .int .i64 0, .slice none 0 0, .int .i64 0, .int .i64 0] 29)).alloc (.cells #[.int .i64 k, .int .i64 i, .slice none 0 0, .int .i64 0, .int .i64 0] 29)).heap.size = w.heap.size + 3 := by simp
  generalize ((w.alloc (.cells #[.int .i64 k, .int .i64 i, .slice ao zs.length cap, .int .i64 s, .int .i64 q] 24)).alloc (.cells #[.int .i64 0, .int .i64 0, .slice none 0 0, .int .i64 0, .int .i64 0] 29)).alloc (.cells #[.int .i64 k, .int .i64 i, .slice none 0 0, .int .i64 0, .int .i64 0] 29) = W0 at *
  refine (toInts _ zs _ (h.later B0) hn).mono ?_
  rintro e w1 ⟨v1, rfl, rfl, ho, -, hb⟩
  obtain ⟨⟨-, -, -, a3, a4⟩, -, -⟩ := (bA.keep hb).five
  obtain ⟨⟨z0, z1, z2, z3, z4⟩, zf, zl⟩ := (bZ.keep hb).five
  obtain ⟨⟨o0, o1, o2, o3, o4⟩, of, ol⟩ := (bO.keep hb).five
  have HB := hide (B0.trans (hb.mono B0.size))
  have HO := hide ho
  generalize W0.heap.size = g at *
  subst hz0
  clear hb bA bZ bO B0 ho h
  go_wp2_with fail
  refine bodyPost_ret (v := .agg #[.int .i64 k, .int .i64 i, .slice (some ⟨w.heap.size + 3, 0, none⟩) zs.length zs.length, .int .i64 s, .int .i64 q]) (by simp [results, Tryd.results7, go_sem, z0, z1, z2, z3, z4]) rfl ?_
  refine ⟨w.heap.size + 3, rfl, own_mono (b := w.heap.size + 3) (by omega) ?_, ?_⟩
  · refine own_setC (own_setC (own_setC (own_setC (own_setC (own_setC (own_setC (own_setC (unhide HO) ?_ _) ?_ _) ?_ _) ?_ _) ?_ _) ?_ _) ?_ _) ?_ _ <;> simp
  · refine ((((((((unhide HB).setCell ?_ _).setCell ?_ _).setCell ?_ _).setCell ?_ _).setCell ?_ _).setCell ?_ _).setCell ?_ _).setCell ?_ _ <;> simp <;> omega

theorem szInts_ok (ao : Option Addr) (n cap : Nat) (l : Nat) (w : World) (hn : n ≤ l) (hl : l ≤ 1048576) :
    Calls Tryd.prog 16 #[.slice ao n cap, .int .i64 l] w fun e w' => e = .returned (.int .i64 ((l - n : Nat) : Int)) ∧ w' = w := by
  have e1 : (l : Int) - (n : Int) = ((l - n : Nat) : Int) := by omega
  have e2 : decide (((l - n : Nat) : Int) < 0) = false := by simp
  go_enter Tryd.func16, Tryd.ntmps16
  go_wp2_with fail
  go_ret
  exact ⟨rfl, rfl⟩
theorem szInts_many (ao : Option Addr) (n cap : Nat) (l : Nat) (w : World) (hn : l < n) (hl : l ≤ 1048576) (hm : n ≤ 9223372036854775807) :
    Calls Tryd.prog 16 #[.slice ao n cap, .int .i64 l] w fun e w' => e = .returned (.int .i64 (-1)) ∧ w' = w := by
  have e2 : decide ((l : Int) - (n : Int) < 0) = true := by simp; omega
  go_enter Tryd.func16, Tryd.ntmps16
  go_wp2_with fail
  go_ret
  exact ⟨rfl, rfl⟩

theorem szWrite_ok (k i : Int) (ao : Option Addr) (n cap : Nat) (s q : Int) (l : Nat) (w : World) (hn : n ≤ l) (hl : l ≤ 1048576) :
    Calls Tryd.prog 5 #[.agg #[.int .i64 k, .int .i64 i, .slice ao n cap, .int .i64 s, .int .i64 q], .int .i64 l] w fun e w' => e = .returned (.int .i64 ((l - n : Nat) : Int)) ∧ Below w.heap.size w w' := by
  have B0 : ∀ o, Below w.heap.size w (w.alloc o) := fun o => (Below.refl _ _).alloc (Nat.le_refl _) o
  have e2 : decide (((l - n : Nat) : Int) < 0) = false := by simp
  go_enter Tryd.func5, Tryd.ntmps5
  go_wp2_with fail
  refine (szInts_ok ao n cap l _ hn hl).mono ?_
  rintro e w1 ⟨rfl, rfl⟩
  go_wp2_with fail
  go_ret
  exact ⟨rfl, B0 _⟩
theorem szWrite_many (k i : Int) (ao : Option Addr) (n cap : Nat) (s q : Int) (l : Nat) (w : World) (hn : l < n) (hl : l ≤ 1048576) (hm : n ≤ 9223372036854775807) :
    Calls Tryd.prog 5 #[.agg #[.int .i64 k, .int .i64 i, .slice ao n cap, .int .i64 s, .int .i64 q], .int .i64 l] w fun e w' => e = .returned (.int .i64 (-1)) ∧ Below w.heap.size w w' := by
  have B0 : ∀ o, Below w.heap.size w (w.alloc o) := fun o => (Below.refl _ _).alloc (Nat.le_refl _) o
  go_enter Tryd.func5, Tryd.ntmps5
  go_wp2_with fail
  refine (szInts_many ao n cap l _ hn hl hm).mono ?_
  rintro e w1 ⟨rfl, rfl⟩
  go_wp2_with fail
  go_ret
  exact ⟨rfl, B0 _⟩

set_option maxHeartbeats 1000000 in
theorem eqWrite (k i : Int) (u v : Value) (s q : Int) (zs : List Int) (w : World) (h : IsInts w u zs) (h2 : IsInts w v zs) (hn : zs.length ≤ 1048576) :
    Calls Tryd.prog 10 #[.agg #[.int .i64 k, .int .i64 i, u, .int .i64 s, .int .i64 q], .agg #[.int .i64 k, .int .i64 i, v, .int .i64 s, .int .i64 q]] w fun e w' => e = .returned (.bool true) ∧ Below w.heap.size w w' := by
  have hu : ∃ a n c, u = .slice a n c := by obtain ⟨a, c, h, -⟩ := h; exact ⟨a, _, c, h⟩
  have hv : ∃ a n c, v = .slice a n c := by obtain ⟨a, c, h, -⟩ := h2; exact ⟨a, _, c, h⟩
  obtain ⟨au, nu, cu, rfl⟩ := hu
  obtain ⟨av, nv, cv, rfl⟩ := hv
  have e1 : (k != k) = false := by simp
  have e2 : (i != i) = false := by simp
  have e3 : (s != s) = false := by simp
  have e4 : (q != q) = false := by simp
  have B0 : Below w.heap.size w ((w.alloc (.cells #[.int .i64 k, .int .i64 i, .slice au nu cu, .int .i64 s, .int .i64 q] 29)).alloc (.cells #[.int .i64 k, .int .i64 i, .slice av nv cv, .int .i64 s, .int .i64 q] 29)) := ((Below.refl _ _).alloc (Nat.le_refl _) _).alloc (by simp) _
  have bA : Box w.heap.size #[.int .i64 k, .int .i64 i, .slice au nu cu, .int .i64 s, .int .i64 q] 29 ((w.alloc (.cells #[.int .i64 k, .int .i64 i, .slice au nu cu, .int .i64 s, .int .i64 q] 29)).alloc (.cells #[.int .i64 k, .int .i64 i, .slice av nv cv, .int .i64 s, .int .i64 q] 29)) w.heap.size := (newBox (Nat.le_refl _)).alloc _
  have bC : Box w.heap.size #[.int .i64 k, .int .i64 i, .slice av nv cv, .int .i64 s, .int .i64 q] 29 ((w.alloc (.cells #[.int .i64 k, .int .i64 i, .slice au nu cu, .int .i64 s, .int .i64 q] 29)).alloc (.cells #[.int .i64 k, .int .i64 i, .slice av nv cv, .int .i64 s, .int .i64 q] 29)) (w.heap.size + 1) := by
    have := newBox (lo := w.heap.size) (cs := #[.int .i64 k, .int .i64 i, .slice av nv cv, .int .i64 s, .int .i64 q]) (T := 29) (W := w.alloc (.cells #[.int .i64 k, .int .i64 i, .slice au nu cu, .int .i64 s, .int .i64 q] 29)) (by simp)
    simpa using this
  go_enter Tryd.func10, Tryd.ntmps10
  go_wp2_with fail
  generalize (w.alloc (.cells #[.int .i64 k, .int .i64 i, .slice au nu cu, .int .i64 s, .int .i64 q] 29)).alloc (.cells #[.int .i64 k, .int .i64 i, .slice av nv cv, .int .i64 s, .int .i64 q] 29) = W0 at *
  refine (eqInts _ _ zs _ (h.later B0) (h2.later B0) hn).mono ?_
  rintro e w1 ⟨rfl, hb⟩
  obtain ⟨⟨-, -, -, a3, a4⟩, -, -⟩ := (bA.keep hb).five
  obtain ⟨⟨-, -, -, c3, c4⟩, -, -⟩ := (bC.keep hb).five
  have HB := hide (B0.trans (hb.mono B0.size))
  clear hb bA bC B0 h h2
  go_wp2_with fail
  go_ret
  exact ⟨rfl, unhide HB⟩

end Go.Proofs.YtjfplfhdfiebgaaDoor

namespace Go.Proofs.YtjfplfhdfiebgaaDoor
open Go.RowKit

theorem inC (v lo hi : Int) (w : World) :
    Calls Tryd.prog 30 #[.int .i64 v, .int .i64 lo, .int .i64 hi] w fun e w' => e = .returned (.bool (decide (lo ≤ v) && decide (v ≤ hi))) ∧ w' = w := by
  by_cases h1 : lo ≤ v
  · have d1 : decide (lo ≤ v) = true := by simpa using h1
    rw [d1]
    cases d2 : decide (v ≤ hi) <;>
    · go_enter Tryd.func30, Tryd.ntmps30
      go_wp2_with fail
      go_ret
      exact ⟨rfl, rfl⟩
  · have d1 : decide (lo ≤ v) = false := by simpa using h1
    rw [d1]
    go_enter Tryd.func30, Tryd.ntmps30
    go_wp2_with fail
    go_ret
    exact ⟨rfl, rfl⟩
theorem idC (x : Int) (w : World) : Calls Tryd.prog 31 #[.int .i64 x] w fun e w' => e = .returned (.bool (decide (1 ≤ x) && decide (x ≤ 999))) ∧ w' = w := by
  go_enter Tryd.func31, Tryd.ntmps31
  go_wp2_with fail
  refine (inC x 1 999 _).mono ?_
  rintro e w1 ⟨rfl, rfl⟩
  go_wp2_with fail
  go_ret
  exact ⟨rfl, rfl⟩

end Go.Proofs.YtjfplfhdfiebgaaDoor

namespace Go.Proofs.YtjfplfhdfiebgaaDoor
open Go.RowKit

theorem sessionC (x : Int) (w : World) : Calls Tryd.prog 32 #[.int .i64 x] w fun e w' => e = .returned (.bool (decide (1 ≤ x) && decide (x ≤ 9))) ∧ w' = w := by
  go_enter Tryd.func32, Tryd.ntmps32
  go_wp2_with fail
  refine (inC x 1 9 _).mono ?_
  rintro e w1 ⟨rfl, rfl⟩
  go_wp2_with fail
  go_ret
  exact ⟨rfl, rfl⟩

end Go.Proofs.YtjfplfhdfiebgaaDoor

namespace Go.Proofs.YtjfplfhdfiebgaaDoor
open Go.RowKit

def kindB (k : Int) (n : Nat) : Bool := (decide (1 ≤ k) && decide (k ≤ 2)) && !(k == 2 && decide (0 < (n : Int)))
def boundB (i s q : Int) : Bool := (decide (1 ≤ i) && decide (i ≤ 999)) && ((decide (1 ≤ s) && decide (s ≤ 9)) && (decide (1 ≤ q) && decide (q ≤ 999)))
/-- What is wrong with a write. -/
def writeFault (k i : Int) (zs : List Int) (s q : Int) : Int :=
  if kindB k zs.length then (if boundB i s q then (if k = 1 then vecFault zs else 0) else 3) else 1

/-- The write that the pointer b points at. -/
def WriteAt (w : World) (b : Nat) (k i : Int) (v : Value) (s q : Int) : Prop :=
  w.cell? ⟨b, 0, none⟩ = some (.int .i64 k) ∧ w.cell? ⟨b, 1, none⟩ = some (.int .i64 i) ∧ w.cell? ⟨b, 2, none⟩ = some v ∧ w.cell? ⟨b, 3, none⟩ = some (.int .i64 s) ∧ w.cell? ⟨b, 4, none⟩ = some (.int .i64 q)
theorem WriteAt.later {w w' : World} {b : Nat} {k i s q : Int} {v : Value} (h : WriteAt w b k i v s q) (hb : Below w.heap.size w w') : WriteAt w' b k i v s q :=
  ⟨cell_keep hb h.1, cell_keep hb h.2.1, cell_keep hb h.2.2.1, cell_keep hb h.2.2.2.1, cell_keep hb h.2.2.2.2⟩

/-- The write at an element's place. -/
def WriteAtO (w : World) (b o : Nat) (k i : Int) (v : Value) (s q : Int) : Prop :=
  w.cell? ⟨b, o, none⟩ = some (.int .i64 k) ∧ w.cell? ⟨b, o + 1, none⟩ = some (.int .i64 i) ∧ w.cell? ⟨b, o + 2, none⟩ = some v ∧ w.cell? ⟨b, o + 3, none⟩ = some (.int .i64 s) ∧ w.cell? ⟨b, o + 4, none⟩ = some (.int .i64 q)

set_option maxRecDepth 100000 in
set_option maxHeartbeats 1000000 in
theorem l3FaultO (b o : Nat) (k i : Int) (v : Value) (s q : Int) (zs : List Int) (w : World) (hc : WriteAtO w b o k i v s q) (h : IsInts w v zs) :
    Calls Tryd.prog 17 #[.pointer (some ⟨b, o, none⟩)] w fun e w' => e = .returned (.int .i64 (writeFault k i zs s q)) ∧ w' = w := by
  have hv : ∃ a c, v = .slice a zs.length c := by obtain ⟨a, c, h, -⟩ := h; exact ⟨a, c, h⟩
  obtain ⟨av, cv, rfl⟩ := hv
  obtain ⟨c0, c1, c2, c3, c4⟩ := hc
  have HH := hide h
  clear h
  generalize hF : writeFault k i zs s q = F
  have HF := hide hF
  clear hF
  cases d1 : (decide (1 ≤ k) && decide (k ≤ 2)) with
  | false =>
    have hE : F = 1 := by rw [← unhide HF, writeFault, kindB, d1]; rfl
    subst hE
    go_enter Tryd.func17, Tryd.ntmps17
    go_wp2_with fail
    refine (inC k 1 2 _).mono ?_
    rintro e w1 ⟨rfl, rfl⟩
    rw [d1]
    go_wp2_with fail
    go_ret
    exact ⟨rfl, rfl⟩
  | true =>
    have hk : k = 1 ∨ k = 2 := by
      simp only [Bool.and_eq_true, decide_eq_true_eq] at d1
      omega
    clear d1
    rcases hk with rfl | rfl
    · have hK : kindB 1 zs.length = true := rfl
      cases dI : (decide (1 ≤ i) && decide (i ≤ 999)) with
      | false =>
        have hE : F = 3 := by rw [← unhide HF, writeFault, hK, if_pos rfl, boundB, dI]; rfl
        subst hE
        go_enter Tryd.func17, Tryd.ntmps17
        go_wp2_with fail
        refine (inC 1 1 2 _).mono ?_
        rintro e w1 ⟨rfl, rfl⟩
        go_wp2_with fail
        refine (idC i _).mono ?_
        rintro e w1 ⟨rfl, rfl⟩
        rw [dI]
        go_wp2_with fail
        go_ret
        exact ⟨rfl, rfl⟩
      | true =>
        cases dS : (decide (1 ≤ s) && decide (s ≤ 9)) with
        | false =>
          have hE : F = 3 := by rw [← unhide HF, writeFault, hK, if_pos rfl, boundB, dI, dS]; rfl
          subst hE
          go_enter Tryd.func17, Tryd.ntmps17
          go_wp2_with fail
          refine (inC 1 1 2 _).mono ?_
          rintro e w1 ⟨rfl, rfl⟩
          go_wp2_with fail
          refine (idC i _).mono ?_
          rintro e w1 ⟨rfl, rfl⟩
          rw [dI]
          go_wp2_with fail
          refine (sessionC s _).mono ?_
          rintro e w1 ⟨rfl, rfl⟩
          rw [dS]
          go_wp2_with fail
          go_ret
          exact ⟨rfl, rfl⟩
        | true =>
          cases dQ : (decide (1 ≤ q) && decide (q ≤ 999)) with
          | false =>
            have hE : F = 3 := by rw [← unhide HF, writeFault, hK, if_pos rfl, boundB, dI, dS, dQ]; rfl
            subst hE
            go_enter Tryd.func17, Tryd.ntmps17
            go_wp2_with fail
            refine (inC 1 1 2 _).mono ?_
            rintro e w1 ⟨rfl, rfl⟩
            go_wp2_with fail
            refine (idC i _).mono ?_
            rintro e w1 ⟨rfl, rfl⟩
            rw [dI]
            go_wp2_with fail
            refine (sessionC s _).mono ?_
            rintro e w1 ⟨rfl, rfl⟩
            rw [dS]
            go_wp2_with fail
            refine (inC q 1 999 _).mono ?_
            rintro e w1 ⟨rfl, rfl⟩
            rw [dQ]
            go_wp2_with fail
            go_ret
            exact ⟨rfl, rfl⟩
          | true =>
            have hE : F = vecFault zs := by rw [← unhide HF, writeFault, hK, if_pos rfl, boundB, dI, dS, dQ]; rfl
            subst hE
            go_enter Tryd.func17, Tryd.ntmps17
            go_wp2_with fail
            refine (inC 1 1 2 _).mono ?_
            rintro e w1 ⟨rfl, rfl⟩
            go_wp2_with fail
            refine (idC i _).mono ?_
            rintro e w1 ⟨rfl, rfl⟩
            rw [dI]
            go_wp2_with fail
            refine (sessionC s _).mono ?_
            rintro e w1 ⟨rfl, rfl⟩
            rw [dS]
            go_wp2_with fail
            refine (inC q 1 999 _).mono ?_
            rintro e w1 ⟨rfl, rfl⟩
            rw [dQ]
            go_wp2_with fail
            refine (modelFault _ zs _ (unhide HH)).mono ?_
            rintro e w1 ⟨rfl, rfl⟩
            go_wp2_with fail
            go_ret
            exact ⟨rfl, rfl⟩
    · by_cases hz : zs.length = 0
      · obtain rfl : zs = [] := List.eq_nil_of_length_eq_zero hz
        have hK : kindB 2 ([] : List Int).length = true := rfl
        simp only [List.length_nil] at c2 hK
        clear hz
        cases dI : (decide (1 ≤ i) && decide (i ≤ 999)) with
        | false =>
          have hE : F = 3 := by rw [← unhide HF, writeFault, show kindB 2 ([] : List Int).length = true from rfl, if_pos rfl, boundB, dI]; rfl
          subst hE
          go_enter Tryd.func17, Tryd.ntmps17
          go_wp2_with fail
          refine (inC 2 1 2 _).mono ?_
          rintro e w1 ⟨rfl, rfl⟩
          go_wp2_with fail
          refine (idC i _).mono ?_
          rintro e w1 ⟨rfl, rfl⟩
          rw [dI]
          go_wp2_with fail
          go_ret
          exact ⟨rfl, rfl⟩
        | true =>
          cases dS : (decide (1 ≤ s) && decide (s ≤ 9)) with
          | false =>
            have hE : F = 3 := by rw [← unhide HF, writeFault, show kindB 2 ([] : List Int).length = true from rfl, if_pos rfl, boundB, dI, dS]; rfl
            subst hE
            go_enter Tryd.func17, Tryd.ntmps17
            go_wp2_with fail
            refine (inC 2 1 2 _).mono ?_
            rintro e w1 ⟨rfl, rfl⟩
            go_wp2_with fail
            refine (idC i _).mono ?_
            rintro e w1 ⟨rfl, rfl⟩
            rw [dI]
            go_wp2_with fail
            refine (sessionC s _).mono ?_
            rintro e w1 ⟨rfl, rfl⟩
            rw [dS]
            go_wp2_with fail
            go_ret
            exact ⟨rfl, rfl⟩
          | true =>
            cases dQ : (decide (1 ≤ q) && decide (q ≤ 999)) with
            | false =>
              have hE : F = 3 := by rw [← unhide HF, writeFault, show kindB 2 ([] : List Int).length = true from rfl, if_pos rfl, boundB, dI, dS, dQ]; rfl
              subst hE
              go_enter Tryd.func17, Tryd.ntmps17
              go_wp2_with fail
              refine (inC 2 1 2 _).mono ?_
              rintro e w1 ⟨rfl, rfl⟩
              go_wp2_with fail
              refine (idC i _).mono ?_
              rintro e w1 ⟨rfl, rfl⟩
              rw [dI]
              go_wp2_with fail
              refine (sessionC s _).mono ?_
              rintro e w1 ⟨rfl, rfl⟩
              rw [dS]
              go_wp2_with fail
              refine (inC q 1 999 _).mono ?_
              rintro e w1 ⟨rfl, rfl⟩
              rw [dQ]
              go_wp2_with fail
              go_ret
              exact ⟨rfl, rfl⟩
            | true =>
              have hE : F = 0 := by rw [← unhide HF, writeFault, show kindB 2 ([] : List Int).length = true from rfl, if_pos rfl, boundB, dI, dS, dQ]; rfl
              subst hE
              go_enter Tryd.func17, Tryd.ntmps17
              go_wp2_with fail
              refine (inC 2 1 2 _).mono ?_
              rintro e w1 ⟨rfl, rfl⟩
              go_wp2_with fail
              refine (idC i _).mono ?_
              rintro e w1 ⟨rfl, rfl⟩
              rw [dI]
              go_wp2_with fail
              refine (sessionC s _).mono ?_
              rintro e w1 ⟨rfl, rfl⟩
              rw [dS]
              go_wp2_with fail
              refine (inC q 1 999 _).mono ?_
              rintro e w1 ⟨rfl, rfl⟩
              rw [dQ]
              go_wp2_with fail
              go_ret
              exact ⟨rfl, rfl⟩
      · have hE : F = 1 := by
          have : kindB 2 zs.length = false := by simp [kindB]; omega
          rw [← unhide HF, writeFault, this]; rfl
        subst hE
        obtain ⟨m, hm⟩ : ∃ m, zs.length = m + 1 := ⟨zs.length - 1, by omega⟩
        rw [hm] at c2
        clear hz hm
        go_enter Tryd.func17, Tryd.ntmps17
        go_wp2_with fail
        refine (inC 2 1 2 _).mono ?_
        rintro e w1 ⟨rfl, rfl⟩
        go_wp2_with fail
        go_ret
        exact ⟨rfl, rfl⟩

theorem l3Fault (b : Nat) (k i : Int) (v : Value) (s q : Int) (zs : List Int) (w : World) (hc : WriteAt w b k i v s q) (h : IsInts w v zs) :
    Calls Tryd.prog 17 #[.pointer (some ⟨b, 0, none⟩)] w fun e w' => e = .returned (.int .i64 (writeFault k i zs s q)) ∧ w' = w :=
  l3FaultO b 0 k i v s q zs w hc h

end Go.Proofs.YtjfplfhdfiebgaaDoor

namespace Go.Proofs.YtjfplfhdfiebgaaDoor
open Go.RowKit

/-- A write without a fault. -/
theorem writeFault_zero {k i s q : Int} {zs : List Int} (h : writeFault k i zs s q = 0) : (1 ≤ i ∧ i ≤ 999) ∧ (1 ≤ s ∧ s ≤ 9) ∧ (1 ≤ q ∧ q ≤ 999) ∧ ((k = 1 ∧ vecFault zs = 0) ∨ (k = 2 ∧ zs = [])) := by
  unfold writeFault at h
  split at h
  · next hk =>
    split at h
    · next hb =>
      simp only [kindB, Bool.and_eq_true, decide_eq_true_eq, Bool.not_eq_true', Bool.and_eq_false_iff] at hk
      simp only [boundB, Bool.and_eq_true, decide_eq_true_eq] at hb
      refine ⟨hb.1, hb.2.1, hb.2.2, ?_⟩
      by_cases h1 : k = 1
      · rw [if_pos h1] at h
        exact Or.inl ⟨h1, h⟩
      · have h2 : k = 2 := by omega
        refine Or.inr ⟨h2, ?_⟩
        rcases hk.2 with h3 | h3
        · simp [h2] at h3
        · simp at h3
          exact h3
    · omega
  · omega

end Go.Proofs.YtjfplfhdfiebgaaDoor

namespace Go.Proofs.YtjfplfhdfiebgaaDoor
open Go.RowKit

/-- What stands ahead of 'by'. -/
def writeHead (k i : Int) (zs : List Int) : Bytes := if k = 1 then [112, 117, 116, 32] ++ dec i ++ [32] ++ vecText zs else [100, 114, 111, 112, 32] ++ dec i
def writeTail (s q : Int) (h : Bytes) : Bytes := h ++ [32, 98, 121, 32] ++ dec s ++ [32] ++ dec q
def writeText (k i : Int) (zs : List Int) (s q : Int) : Bytes := if writeFault k i zs s q = 0 then writeTail s q (writeHead k i zs) else []
theorem writeHead_len (k i : Int) (zs : List Int) : (writeHead k i zs).length ≤ 30 := by
  have := dec_len i
  have := vecText_len zs
  unfold writeHead
  split <;> simp <;> omega
theorem writeText_len (k i : Int) (zs : List Int) (s q : Int) : (writeText k i zs s q).length ≤ 60 := by
  have := dec_len s
  have := dec_len q
  have := writeHead_len k i zs
  unfold writeText
  split
  · simp [writeTail]; omega
  · simp

/-- Two texts, one behind the other. -/
theorem addS {a b c : Bytes} (h : a ++ b = c) (hl : c.length ≤ 1000) : ∀ W : World, (Op.stringOp .add ⟨a.toArray⟩ ⟨b.toArray⟩).run Tryd.prog W = .ok (.string ⟨c.toArray⟩) W := by
  intro W
  subst h
  simp at hl
  exact (run_string_add_sum W _ _ (by simp [ByteArray.size]; omega)).trans (by rw [str_app])

end Go.Proofs.YtjfplfhdfiebgaaDoor

namespace Go.Proofs.YtjfplfhdfiebgaaDoor
open Go.RowKit

/-- Whether the three numbers are written so, and the write has no fault. -/
def tailOk (k : Int) (zs : List Int) (a b c : Bytes) : Bool := ((numR a).2 && (numR b).2 && (numR c).2) && (writeFault k (numR a).1 zs (numR b).1 (numR c).1 == 0)
def tailW (k : Int) (zs : List Int) (a b c : Bytes) : DWrite := ⟨k, (numR a).1, zs, (numR b).1, (numR c).1⟩

/-- What l3Read tells: a write, whether it is right. -/
def ToldR (w w' : World) (e : Ending) (x : DWrite) (ok : Bool) : Prop := ∃ cs, e = .returned (.tuple #[.agg cs.toArray, .bool ok]) ∧ Lay.tWrite.LiesIn w' cs x w.heap.size w'.heap.size ∧ Below w.heap.size w w'

theorem readsR {w : World} {x : DWrite} {v : Value} {lo hi : Nat} (h : (Lay.sl Lay.int).LiesIn w [v] x.vec lo hi) (h1 : (Lit.int .i64 x.kind).wf = true) (h2 : (Lit.int .i64 x.id).wf = true) (h3 : (Lit.int .i64 x.session).wf = true) (h4 : (Lit.int .i64 x.seq).wf = true) :
    Lay.tWrite.LiesIn w [.int .i64 x.kind, .int .i64 x.id, v, .int .i64 x.session, .int .i64 x.seq] x lo hi := by
  obtain ⟨bl, hl, hb⟩ := h
  have hl' := hl
  obtain ⟨ao, cap, e, -⟩ := hl'
  obtain rfl : v = .slice ao x.vec.length cap := by simpa using e
  exact ⟨bl, lies_Write.2 ⟨ao, cap, bl, rfl, rfl, h1, h2, hl, h3, h4⟩, hb⟩

/-- A write stored into the result's own block: what is known of the others stays. -/
theorem storeR {w wa : World} {sx hi : Nat} {xs cs : Array Value} {T T2 : TypeId} {cv : List Value} {zs : List Int} {vs : List Value} (hb : Below w.heap.size w wa) (bX : Box 0 xs T wa sx) (bR : Box 0 cs T2 wa w.heap.size) (hv : (Lay.sl Lay.int).LiesIn wa cv zs (sx + 1) hi) (hz : hi ≤ wa.heap.size) (hsx : w.heap.size < sx) (hl : cs.size = vs.length) :
    Below w.heap.size w (setAll wa w.heap.size 0 vs) ∧ Box 0 xs T (setAll wa w.heap.size 0 vs) sx ∧ (∃ cs' : Array Value, cs'.size = vs.length ∧ Box 0 cs' T2 (setAll wa w.heap.size 0 vs) w.heap.size) ∧ (Lay.sl Lay.int).LiesIn (setAll wa w.heap.size 0 vs) cv zs (sx + 1) hi ∧ hi ≤ (setAll wa w.heap.size 0 vs).heap.size := by
  have E := ext_setAll (fun q => q = w.heap.size) (Ext.refl _ wa) w.heap.size 0 vs rfl
  refine ⟨below_setAll hb _ _ _ (Nat.le_refl _), bX.ext E (by omega), ?_, hv.ext E (fun k h1 _ h3 => by omega), by rw [size_setAll]; exact hz⟩
  have : ∀ (l : List Value) (i : Nat) (W : World) (c : Array Value), Box 0 c T2 W w.heap.size → ∃ c' : Array Value, c'.size = c.size ∧ Box 0 c' T2 (setAll W w.heap.size i l) w.heap.size := by
    intro l
    induction l with
    | nil => intro i W c h; exact ⟨c, rfl, h⟩
    | cons v l ih =>
      intro i W c h
      obtain ⟨c', h1, h2⟩ := ih (i + 1) _ _ (h.set i v)
      exact ⟨c', by rw [h1]; simp, h2⟩
  obtain ⟨c', h1, h2⟩ := this vs 0 wa cs bR
  exact ⟨c', h1.trans hl, h2⟩

theorem str_of_list {s : ByteArray} {l : List UInt8} (h : s.toList = l) : s = ⟨l.toArray⟩ := by
  obtain ⟨⟨x⟩⟩ := s
  subst h
  simp

theorem own_big {w : World} {base T : Nat} {v : Value} {zs : List Int} (h : w.ownsRow base T 1 v zs.length (zs.map (Value.int .i64))) : zs.length ≤ 9223372036854775807 := by
  rcases h.2 with ⟨-, h0⟩ | ⟨g, cap, cur, -, -, -, h1, h2, -⟩
  · omega
  · unfold maxLen at h2; omega

/-- append of texts that lie somewhere onto a row of texts of the call's own, at a step of a region that draws its order. -/
theorem step_append_at {w1 : World} {base : Nat} {v : Value} {n : Nat} {xs : List Value} (hown : w1.ownsRow base 9 1 v n xs) (ad : Addr) (m c : Nat) (news : List Value) {ops : Array Oper} {o : Oper} {a : Act} {K : Act → World → Prop} {Q : Exit → Act → World → Prop} {E : Prop} (hgd : o.guard = none) (s x : Operand)
    (ho : o.op = .call { callee := .builtin .append, args := #[s, x], argTypes := #[49, 49] }) (hs : a.eval s = v) (hx : a.eval x = .slice (some ad) m c) (hl : news.length = m) (hnews : ∀ (j : Nat) (u : Value), news[j]? = some u → w1.cell? (ad.add j) = some u) (h1 : ∀ u ∈ news, u.oneCell' = true) (hm0 : 0 < m)
    (hn : n + m ≤ 100000000) (hbase : base ≤ w1.heap.size)
    (h : ∀ g cap w', w'.ownsRow base 9 1 (.slice (some ⟨g, 0, none⟩) (n + m) cap) (n + m) (xs ++ news) → Below base w1 w' → g < w'.heap.size → w1.heap.size ≤ w'.heap.size → K (a.put o.dst (.slice (some ⟨g, 0, none⟩) (n + m) cap)) w') :
    if Region.wanted o (yielded ops a.tmps) = true then Oper.wp Tryd.prog o a w1 K Q else E := by
  obtain ⟨i0, hi0, hz0, hz1, hz2⟩ := info_parts infoSt
  refine step_append_lies _ hgd s x 49 ho base 9 i0 _ 1 16 Tryd.underlying49 hi0 hz0 hz1 hz2 rfl (by omega) v n xs hs hown ad m c news hx (by omega) hnews h1 hm0 (by unfold maxLen; omega) (by omega) hbase w1.heap.size rfl ?_
  intro g cap w' h2 h3 _ h5
  exact h g cap w' h2 ((Below.refl _ _).grown h3 hbase (fun j hj => (hown.lt j hj).1)) h5 h3.size

/-- The kind and the vector stored into the write: what is known stays. -/
theorem storeP {w w3 : World} {sx : Nat} {k0 i0 v0 s0 q0 : Value} {T T2 : TypeId} {cs : Array Value} {cv : List Value} {zs : List Int} (k v : Value) (hsx : w.heap.size < sx) (bX : Box 0 #[k0, i0, v0, s0, q0] T w3 sx) (bR : Box 0 cs T2 w3 w.heap.size) (hb : Below w.heap.size w w3) (hv : (Lay.sl Lay.int).LiesIn w3 cv zs (sx + 1) w3.heap.size) :
    Box 0 #[k, i0, v, s0, q0] T ((w3.setCell ⟨sx, 0, none⟩ k).setCell ⟨sx, 2, none⟩ v) sx ∧ Box 0 cs T2 ((w3.setCell ⟨sx, 0, none⟩ k).setCell ⟨sx, 2, none⟩ v) w.heap.size ∧ Below w.heap.size w ((w3.setCell ⟨sx, 0, none⟩ k).setCell ⟨sx, 2, none⟩ v) ∧ (Lay.sl Lay.int).LiesIn ((w3.setCell ⟨sx, 0, none⟩ k).setCell ⟨sx, 2, none⟩ v) cv zs (sx + 1) ((w3.setCell ⟨sx, 0, none⟩ k).setCell ⟨sx, 2, none⟩ v).heap.size := by
  have b1 := (bX.set 0 k).set 2 v
  have E : Ext (fun q => q = sx) w3 ((w3.setCell ⟨sx, 0, none⟩ k).setCell ⟨sx, 2, none⟩ v) := ((Ext.refl (fun q => q = sx) w3).setCell ⟨sx, 0, none⟩ k rfl).setCell ⟨sx, 2, none⟩ v rfl
  have hs := E.size
  refine ⟨by simpa using b1, bR.ext E (by omega), hb.trans (E.below hb.size (fun k hk h => by omega)), (hv.ext E (fun q h1 h2 h3 => by omega)).mono (Nat.le_refl _) hs⟩

/-- Three numbers stored into the write: what is known stays. -/
theorem storeX {w w3 : World} {sx : Nat} {k0 i0 v0 s0 q0 : Value} {T T2 : TypeId} {cs : Array Value} {cv : List Value} {zs : List Int} (na ns nq : Value) (hsx : w.heap.size < sx) (bX : Box 0 #[k0, i0, v0, s0, q0] T w3 sx) (bR : Box 0 cs T2 w3 w.heap.size) (hb : Below w.heap.size w w3) (hv : (Lay.sl Lay.int).LiesIn w3 cv zs (sx + 1) w3.heap.size) :
    Box 0 #[k0, na, v0, ns, nq] T (((w3.setCell ⟨sx, 1, none⟩ na).setCell ⟨sx, 3, none⟩ ns).setCell ⟨sx, 4, none⟩ nq) sx ∧ Box 0 cs T2 (((w3.setCell ⟨sx, 1, none⟩ na).setCell ⟨sx, 3, none⟩ ns).setCell ⟨sx, 4, none⟩ nq) w.heap.size ∧ Below w.heap.size w (((w3.setCell ⟨sx, 1, none⟩ na).setCell ⟨sx, 3, none⟩ ns).setCell ⟨sx, 4, none⟩ nq) ∧ (Lay.sl Lay.int).LiesIn (((w3.setCell ⟨sx, 1, none⟩ na).setCell ⟨sx, 3, none⟩ ns).setCell ⟨sx, 4, none⟩ nq) cv zs (sx + 1) (((w3.setCell ⟨sx, 1, none⟩ na).setCell ⟨sx, 3, none⟩ ns).setCell ⟨sx, 4, none⟩ nq).heap.size := by
  have b1 := ((bX.set 1 na).set 3 ns).set 4 nq
  have E : Ext (fun q => q = sx) w3 (((w3.setCell ⟨sx, 1, none⟩ na).setCell ⟨sx, 3, none⟩ ns).setCell ⟨sx, 4, none⟩ nq) := (((Ext.refl (fun q => q = sx) w3).setCell ⟨sx, 1, none⟩ na rfl).setCell ⟨sx, 3, none⟩ ns rfl).setCell ⟨sx, 4, none⟩ nq rfl
  have hs := E.size
  refine ⟨by simpa using b1, bR.ext E (by omega), hb.trans (E.below hb.size (fun k hk h => by omega)), (hv.ext E (fun q h1 h2 h3 => by omega)).mono (Nat.le_refl _) hs⟩

end Go.Proofs.YtjfplfhdfiebgaaDoor

namespace Go.Proofs.YtjfplfhdfiebgaaDoor
open Go.RowKit

set_option maxRecDepth 100000 in
set_option maxHeartbeats 400000 in
theorem l3Read_no1 (ao : Option Addr) (n cap : Nat) (w : World) (h5 : n ≠ 5) (h6 : n ≠ 6) :
    Calls Tryd.prog 25 #[.slice ao n cap] w fun e w' => ToldR w w' e ⟨2, 0, [], 0, 0⟩ false := by
  have e5 : ((n : Int) != 5) = true := by rw [bne_iff_ne]; omega
  have e6 : ((n : Int) == 6) = false := by rw [beq_eq_false_iff_ne]; omega
  have nb : Below w.heap.size w ((w.alloc (.cells #[.int .i64 0, .int .i64 0, .slice none 0 0, .int .i64 0, .int .i64 0] 29)).alloc (.cells #[.int .i64 2, .int .i64 0, .slice none 0 0, .int .i64 0, .int .i64 0] 29)) := ((Below.refl _ _).alloc (Nat.le_refl _) _).alloc (by simp) _
  have HB : Hid (∀ o o', Below w.heap.size w ((w.alloc o).alloc o')) := fun o o' => ((Below.refl _ _).alloc (Nat.le_refl _) _).alloc (by simp) _
  clear nb
  go_enter Tryd.func25, Tryd.ntmps25
  go_wp2_with fail
  refine bodyPost_ret (v := .tuple #[.agg #[.int .i64 2, .int .i64 0, .slice none 0 0, .int .i64 0, .int .i64 0], .bool false]) (by simp [results, Tryd.results25, go_sem]) rfl ?_
  refine ⟨[.int .i64 2, .int .i64 0, .slice none 0 0, .int .i64 0, .int .i64 0], rfl, readsR (x := ⟨2, 0, [], 0, 0⟩) ⟨[], Lay.lies_ints.2 ⟨none, 0, rfl, ⟨by simp, by simp⟩, by simp, Or.inl ⟨rfl, rfl⟩⟩, by simp⟩ rfl rfl rfl rfl, ?_⟩
  exact unhide HB _ _

set_option maxRecDepth 100000 in
set_option maxHeartbeats 400000 in
theorem l3Read_no2 (g cap : Nat) (s : ByteArray) (w : World) (h0 : w.cell? ⟨g, 0, none⟩ = some (.string s)) (hs : s ≠ ⟨#[112, 117, 116]⟩) :
    Calls Tryd.prog 25 #[.slice (some ⟨g, 0, none⟩) 6 cap] w fun e w' => ToldR w w' e ⟨2, 0, [], 0, 0⟩ false := by
  have e0 : (s.toList == [112, 117, 116]) = false := by rw [beq_eq_false_iff_ne]; exact fun h => hs (str_of_list h)
  have nb : Below w.heap.size w ((w.alloc (.cells #[.int .i64 0, .int .i64 0, .slice none 0 0, .int .i64 0, .int .i64 0] 29)).alloc (.cells #[.int .i64 2, .int .i64 0, .slice none 0 0, .int .i64 0, .int .i64 0] 29)) := ((Below.refl _ _).alloc (Nat.le_refl _) _).alloc (by simp) _
  replace h0 := cell_keep nb h0
  have HB : Hid (∀ o o', Below w.heap.size w ((w.alloc o).alloc o')) := fun o o' => ((Below.refl _ _).alloc (Nat.le_refl _) _).alloc (by simp) _
  clear nb
  go_enter Tryd.func25, Tryd.ntmps25
  go_wp2_with fail
  refine bodyPost_ret (v := .tuple #[.agg #[.int .i64 2, .int .i64 0, .slice none 0 0, .int .i64 0, .int .i64 0], .bool false]) (by simp [results, Tryd.results25, go_sem]) rfl ?_
  refine ⟨[.int .i64 2, .int .i64 0, .slice none 0 0, .int .i64 0, .int .i64 0], rfl, readsR (x := ⟨2, 0, [], 0, 0⟩) ⟨[], Lay.lies_ints.2 ⟨none, 0, rfl, ⟨by simp, by simp⟩, by simp, Or.inl ⟨rfl, rfl⟩⟩, by simp⟩ rfl rfl rfl rfl, ?_⟩
  exact unhide HB _ _

set_option maxRecDepth 100000 in
set_option maxHeartbeats 400000 in
theorem l3Read_no3 (g cap : Nat) (s : ByteArray) (w : World) (h0 : w.cell? ⟨g, 0, none⟩ = some (.string s)) (hs : s ≠ ⟨#[100, 114, 111, 112]⟩) :
    Calls Tryd.prog 25 #[.slice (some ⟨g, 0, none⟩) 5 cap] w fun e w' => ToldR w w' e ⟨2, 0, [], 0, 0⟩ false := by
  have e0 : (s.toList == [100, 114, 111, 112]) = false := by rw [beq_eq_false_iff_ne]; exact fun h => hs (str_of_list h)
  have nb : Below w.heap.size w ((w.alloc (.cells #[.int .i64 0, .int .i64 0, .slice none 0 0, .int .i64 0, .int .i64 0] 29)).alloc (.cells #[.int .i64 2, .int .i64 0, .slice none 0 0, .int .i64 0, .int .i64 0] 29)) := ((Below.refl _ _).alloc (Nat.le_refl _) _).alloc (by simp) _
  replace h0 := cell_keep nb h0
  have HB : Hid (∀ o o', Below w.heap.size w ((w.alloc o).alloc o')) := fun o o' => ((Below.refl _ _).alloc (Nat.le_refl _) _).alloc (by simp) _
  clear nb
  go_enter Tryd.func25, Tryd.ntmps25
  go_wp2_with fail
  refine bodyPost_ret (v := .tuple #[.agg #[.int .i64 2, .int .i64 0, .slice none 0 0, .int .i64 0, .int .i64 0], .bool false]) (by simp [results, Tryd.results25, go_sem]) rfl ?_
  refine ⟨[.int .i64 2, .int .i64 0, .slice none 0 0, .int .i64 0, .int .i64 0], rfl, readsR (x := ⟨2, 0, [], 0, 0⟩) ⟨[], Lay.lies_ints.2 ⟨none, 0, rfl, ⟨by simp, by simp⟩, by simp, Or.inl ⟨rfl, rfl⟩⟩, by simp⟩ rfl rfl rfl rfl, ?_⟩
  exact unhide HB _ _

set_option maxRecDepth 100000 in
set_option maxHeartbeats 400000 in
theorem l3Read_no4 (g cap : Nat) (s : ByteArray) (w : World) (h0 : w.cell? ⟨g, 0, none⟩ = some (.string ⟨#[100, 114, 111, 112]⟩)) (h2 : w.cell? ⟨g, 2, none⟩ = some (.string s)) (hs : s ≠ ⟨#[98, 121]⟩) :
    Calls Tryd.prog 25 #[.slice (some ⟨g, 0, none⟩) 5 cap] w fun e w' => ToldR w w' e ⟨2, 0, [], 0, 0⟩ false := by
  have e0 : (s.toList == [98, 121]) = false := by rw [beq_eq_false_iff_ne]; exact fun h => hs (str_of_list h)
  have nb : Below w.heap.size w ((w.alloc (.cells #[.int .i64 0, .int .i64 0, .slice none 0 0, .int .i64 0, .int .i64 0] 29)).alloc (.cells #[.int .i64 2, .int .i64 0, .slice none 0 0, .int .i64 0, .int .i64 0] 29)) := ((Below.refl _ _).alloc (Nat.le_refl _) _).alloc (by simp) _
  replace h0 := cell_keep nb h0
  replace h2 := cell_keep nb h2
  have HB : Hid (∀ o o', Below w.heap.size w ((w.alloc o).alloc o')) := fun o o' => ((Below.refl _ _).alloc (Nat.le_refl _) _).alloc (by simp) _
  clear nb
  go_enter Tryd.func25, Tryd.ntmps25
  go_wp2_with fail
  refine bodyPost_ret (v := .tuple #[.agg #[.int .i64 2, .int .i64 0, .slice none 0 0, .int .i64 0, .int .i64 0], .bool false]) (by simp [results, Tryd.results25, go_sem]) rfl ?_
  refine ⟨[.int .i64 2, .int .i64 0, .slice none 0 0, .int .i64 0, .int .i64 0], rfl, readsR (x := ⟨2, 0, [], 0, 0⟩) ⟨[], Lay.lies_ints.2 ⟨none, 0, rfl, ⟨by simp, by simp⟩, by simp, Or.inl ⟨rfl, rfl⟩⟩, by simp⟩ rfl rfl rfl rfl, ?_⟩
  exact unhide HB _ _

end Go.Proofs.YtjfplfhdfiebgaaDoor
