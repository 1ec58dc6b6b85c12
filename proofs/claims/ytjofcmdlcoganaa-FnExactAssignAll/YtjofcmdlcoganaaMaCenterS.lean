/-
  markCenterS, heldCenterS of laws/exact.go: the marks are laid into a list of the law's own, and found there.
  Condition: at most 1000000000 marks.
-/
import Derived.Test.YtjofcmdlcoganaaChecked
import Derived.Test.YtjofcmdlcoganaaOwnCenter
import Derived.Test.YtjofcmdlcoganaaGround
import Derived.Test.YtjofcmdlcoganaaLayMark
namespace Go.Proofs.Ytjofcmdlcoganaa
open Go.RowKit

theorem cnt_Center (x : DCenter) : Lay.tCenter.cnt x = 0 + (Lay.sl Lay.int).vcnt x.vec := by
  show (Lay.sl Lay.int).vcnt x.vec = 0 + (Lay.sl Lay.int).vcnt x.vec
  omega
theorem mkd_Center (k : Int) (x : DCenter) : Lay.tCenter.mkd k x = ⟨(Lay.sl Lay.int).mkv (k) x.vec⟩ := rfl
theorem vcnt_CenterS (xs : List DCenter) : (Lay.sl Lay.tCenter).vcnt xs = cntAll Lay.tCenter.cnt xs := rfl
theorem mkv_CenterS (k : Int) (xs : List DCenter) : (Lay.sl Lay.tCenter).mkv k xs = mkAll Lay.tCenter.cnt Lay.tCenter.mkd k xs := rfl

set_option maxRecDepth 10000 in
set_option maxHeartbeats 2000000 in
theorem markCenter_pos (b off cap : Nat) (xs : List DCenter) (bl : List Nat) (k : Int) (w : World) (h : (Lay.sl Lay.tCenter).Own w [.slice (some ⟨b, off, none⟩) xs.length cap] xs bl) (hk : 0 ≤ k) (hk2 : k + (cntAll Lay.tCenter.cnt xs : Nat) ≤ 1000000000) :
    Calls Try.prog 33 #[.slice (some ⟨b, off, none⟩) xs.length cap, .int .i64 k] w fun e w' => e = .returned (.int .i64 (k + (cntAll Lay.tCenter.cnt xs : Nat))) ∧ (Lay.sl Lay.tCenter).Own w' [.slice (some ⟨b, off, none⟩) xs.length cap] (mkAll Lay.tCenter.cnt Lay.tCenter.mkd k xs) bl ∧ Ext (fun q => q ∈ bl) w w' := by
  have hbig := h.reads.big
  have H := hide h
  clear h
  go_enter Try.func33, Try.ntmps33
  go_wp2_with fail
  go_loopw [1, 5] (fun kk i wr => ∃ (j : Nat) (kj : Int), j ≤ xs.length ∧ i = .int .i64 j ∧ kj = k + (cntAll Lay.tCenter.cnt (xs.take j) : Nat) ∧ kk = .int .i64 kj ∧ (Lay.sl Lay.tCenter).Own wr [.slice (some ⟨b, off, none⟩) xs.length cap] (mkPre Lay.tCenter.cnt Lay.tCenter.mkd k xs j) bl ∧ Ext (fun q => q ∈ bl) w wr) (fun _ i _ => xs.length - (intOf i).toNat)
  case atStart => exact ⟨0, k, Nat.zero_le _, rfl, by simp [cntAll], rfl, by rw [mkPre_zero]; exact unhide H, Ext.refl _ _⟩
  case round =>
    obtain ⟨j, kj, hj, rfl, hkj, rfl, hO, hX⟩ := hrel
    clear H
    by_cases hlt : j < xs.length
    · have hj2 : j < (mkPre Lay.tCenter.cnt Lay.tCenter.mkd k xs j).length := by rw [mkPre_len _ _ _ _ _ hj]; exact hlt
      obtain ⟨row, blk, R, O, hbk, hin, hfin⟩ := Lay.own_upd hO hj2
      rw [mkPre_get _ _ _ _ _ hlt] at O
      have HT := hide (Lay.cntAll_take (f := Lay.tCenter.cnt) hlt)
      have hle := Lay.cntAll_take_le (f := Lay.tCenter.cnt) (xs := xs) (k := j + 1)
      rw [unhide HT] at hle
      have HM : Hid (∀ y, y = Lay.tCenter.mkd kj xs[j] → (mkPre Lay.tCenter.cnt Lay.tCenter.mkd k xs j).set j y = mkPre Lay.tCenter.cnt Lay.tCenter.mkd k xs (j + 1)) := fun y e => by rw [e, hkj]; exact mkPre_set _ _ _ _ _ hlt
      have HF := hide hfin
      have HX := hide hX
      have HI := hide hin
      clear hO hfin hX hin hj2
      generalize hx : xs[j] = x at *
      clear hx
      have hcn := cnt_Center x
      have HD := hide (mkd_Center kj x)
      have hb1 : 0 ≤ kj := by omega
      have hb2 : kj + (Lay.tCenter.cnt x : Int) ≤ 1000000000 := by omega
      have HK := hide hkj
      clear hkj hle
      have hnd := O.2.1
      obtain ⟨a0, d0, g0, rfl, hbl, O0⟩ := own_Center O
      clear O
      subst hbl
      have HN := hide hnd
      clear hnd
      have l1 : b < wr.heap.size := R.lt
      have c0 : wr.cell? ⟨b, off + j, none⟩ = some (.slice a0 x.vec.length d0) := (by have q1 : wr.cell? ⟨b, off + j * 1 + 0, none⟩ = some (.slice a0 x.vec.length d0) := R.at 0 _ rfl; rw [Nat.mul_one, Nat.add_zero] at q1; exact q1)
      have HR := hide R
      clear R
      go_wp2_with fail
      refine (mark_Int64S _ x.vec blk (kj) _ O0 (by omega) (by omega)).mono ?_
      rintro e w2 ⟨rfl, Q0, E2⟩
      have R := (unhide HR).call E2 (fun _ h => h) hbk
      clear E2 O0 HR c0 
      clear l1
      have l1 : b < w2.heap.size := R.lt
      have HR := hide R
      clear R
      have HQ := hide Q0
      clear Q0
      go_wp2_with fail
      go_roundw
      case rel =>
        refine ⟨j + 1, _, by omega, by go_num, ?_, rfl, ?_, ?_⟩
        · rw [unhide HT, hcn]
          have := unhide HK
          omega
        · rw [← unhide HM _ (unhide HD).symm]
          exact unhide HF _ _ _ (unhide HR) (mkOwn_Center (x := ⟨(Lay.sl Lay.int).mkv (kj) x.vec⟩) (unhide HQ)  (unhide HN))
        · exact (unhide HX).trans ((unhide HR).ext.mono fun q _ hq => unhide HI q (by rcases hq with h | h; exact Or.inl h.symm; exact Or.inr h))
      case measure => simp [intOf]; omega
    · obtain rfl : j = xs.length := by omega
      rw [mkPre_all] at hO
      rw [List.take_length] at hkj
      have HK := hide hkj
      clear hkj
      have HO := hide hO
      have HX := hide hX
      clear hO hX
      go_wp2_with fail
      go_ret
      exact ⟨by rw [← unhide HK]; rfl, unhide HO, unhide HX⟩

theorem markCenter_zero (ao : Option Addr) (cap : Nat) (k : Int) (w : World) :
    Calls Try.prog 33 #[.slice ao 0 cap, .int .i64 k] w fun e w' => e = .returned (.int .i64 k) ∧ w' = w := by
  go_enter Try.func33, Try.ntmps33
  go_wp2_with fail
  refine wp_loop_rounds 1 ?_
  rw [rounds_succ]
  go_wp2_with fail
  go_ret
  exact ⟨rfl, rfl⟩

/-- markCenterS. -/
theorem mark_CenterS (v : Value) (xs : List DCenter) (bl : List Nat) (k : Int) (w : World) (h : (Lay.sl Lay.tCenter).Own w [v] xs bl) (hk : 0 ≤ k) (hk2 : k + (Lay.sl Lay.tCenter).vcnt xs ≤ 1000000000) :
    Calls Try.prog 33 #[v, .int .i64 k] w fun e w' => e = .returned (.int .i64 (k + (Lay.sl Lay.tCenter).vcnt xs)) ∧ (Lay.sl Lay.tCenter).Own w' [v] ((Lay.sl Lay.tCenter).mkv k xs) bl ∧ Ext (fun q => q ∈ bl) w w' := by
  obtain ⟨ao, cap, rfl⟩ := open_sl h.reads
  by_cases hp : 0 < xs.length
  · obtain ⟨b, off, rfl, hbl⟩ := Lay.sl_addr h.reads hp
    exact markCenter_pos b off cap xs bl k w h hk hk2
  · obtain rfl : xs = [] := List.eq_nil_of_length_eq_zero (by omega)
    refine (markCenter_zero ao cap k w).mono ?_
    rintro e w' ⟨rfl, rfl⟩
    exact ⟨by rw [vcnt_CenterS]; simp [cntAll], h, Ext.refl _ _⟩

end Go.Proofs.Ytjofcmdlcoganaa
