/-
  l1Cut cuts a text at its blanks.
  Condition: at most 1048576 bytes.
-/
import Derived.Test.YtjfplfhdfiebgaaDoorCut
namespace Go.Proofs.YtjfplfhdfiebgaaDoor
open Go.RowKit

/-- Cut at each 32; acc: what stands ahead in this piece. -/
def cutS (acc : Bytes) : Bytes → List Bytes
  | [] => [acc]
  | c :: r => if c.toNat = 32 then acc :: cutS [] r else cutS (acc ++ [c]) r

/-- What holds ahead of each round. -/
def CutSInv (s : ByteArray) (i f : Nat) (bs : List ByteArray) : Prop :=
  (i ≤ s.size ∧ f ≤ i ∧ bs.map (fun b => b.data.toList) ++ cutS (seg s f i) (rest s i) = cutS [] s.data.toList) ∨ (i = s.size + 1 ∧ bs.map (fun b => b.data.toList) = cutS [] s.data.toList)

theorem cutS_end {s : ByteArray} {f : Nat} {bs : List ByteArray} (h : CutSInv s s.size f bs) : CutSInv s (s.size + 1) (s.size + 1) (bs ++ [s.extract f s.size]) := by
  rcases h with ⟨_, _, h⟩ | ⟨h, _⟩
  · right
    rw [rest_nil s s.size (by omega), cutS] at h
    refine ⟨rfl, ?_⟩
    rw [List.map_append, ← h]
    simp only [List.map_cons, List.map_nil, ext_seg]
  · omega
theorem cutS_blank {s : ByteArray} {i f : Nat} {bs : List ByteArray} (hi : i < s.size) (hc : s[i].toNat = 32) (h : CutSInv s i f bs) : CutSInv s (i + 1) (i + 1) (bs ++ [s.extract f i]) := by
  rcases h with ⟨_, _, h⟩ | ⟨h, _⟩
  · left
    rw [rest_cons s i hi, cutS, if_pos hc] at h
    refine ⟨by omega, by omega, ?_⟩
    rw [List.map_append, seg_start, ← h]
    simp only [List.map_cons, List.map_nil, ext_seg, List.append_assoc, List.cons_append, List.nil_append]
  · omega
theorem cutS_other {s : ByteArray} {i f : Nat} {bs : List ByteArray} (hi : i < s.size) (hc : s[i].toNat ≠ 32) (h : CutSInv s i f bs) : CutSInv s (i + 1) f bs := by
  rcases h with ⟨_, hf, h⟩ | ⟨h, _⟩
  · left
    rw [rest_cons s i hi, cutS, if_neg hc] at h
    refine ⟨by omega, by omega, ?_⟩
    rw [seg_snoc s f i hf hi]
    exact h
  · omega

set_option maxRecDepth 100000 in
set_option maxHeartbeats 1600000 in
theorem cutSpC (s : ByteArray) (w : World) (hs : s.size ≤ 1048576) :
    Calls Tryd.prog 26 #[.string s, .int .u8 32] w fun e w' => ∃ (v : Value) (bs : List ByteArray), e = .returned v ∧ w'.ownsRow w.heap.size 9 1 v bs.length (bs.map Value.string) ∧
      bs.map (fun b => b.data.toList) = cutS [] s.data.toList ∧ bs.length ≤ 1048577 ∧ (∀ b ∈ bs, b.size ≤ 1048576) ∧ Below w.heap.size w w' := by
  go_enter Tryd.func26, Tryd.ntmps26
  go_wp2
  go_loopw [5, 6, 7] (fun v ff ii wr => ∃ (i f : Nat) (bs : List ByteArray), i ≤ s.size + 1 ∧ (i ≤ s.size → f ≤ i) ∧ ii = .int .i64 i ∧ ff = .int .i64 f ∧ bs.length ≤ i ∧ (∀ b ∈ bs, b.size ≤ 1048576) ∧ CutSInv s i f bs ∧ wr.ownsRow w.heap.size 9 1 v bs.length (bs.map Value.string) ∧ Below w.heap.size w wr)
    (fun _ _ i _ => s.size + 1 - (intOf i).toNat)
  case atStart =>
    refine ⟨0, 0, [], by omega, fun _ => by omega, rfl, rfl, by simp, by simp, Or.inl ⟨by omega, by omega, by rw [seg_start]; rfl⟩, ?_, (Below.refl _ _).alloc (Nat.le_refl _) _⟩
    exact World.ownsRow_lit w #[] 0 (Nat.le_refl _) (by unfold maxLen; omega) rfl
  case round =>
    obtain ⟨i, f, bs, hi, hf, rfl, rfl, hbl, hbz, hinv, hown, hB⟩ := hrel
    by_cases hle : i ≤ s.size
    · have hf' := hf hle
      have HI := hide hinv
      have HZ := hide hbz
      have HB := hide hB
      have hsz := hB.size
      clear hinv hbz hB hf
      by_cases he : i = s.size
      · have e1 : ((i : Int) == (s.size : Int)) = true := by rw [beq_iff_eq]; omega
        have HE := hide he
        clear he
        obtain ⟨i0, hi0, hz0, hz1, hz2⟩ := info_parts infoSt
        go_wp2_with (at_builtin; refine wpList_append_lies _ rfl _ _ 49 rfl w.heap.size 9 i0 _ 1 16 Tryd.underlying49 hi0 hz0 hz1 hz2 rfl (by omega) _ bs.length _ rfl (hown.alloc _) ⟨wr.heap.size, 0, none⟩ 1 1 [.string (s.extract f i)] rfl rfl (World.news_of_block (cs := #[.string (s.extract f i)]) (t := 9) (fr := (0, 0)) (heap_alloc_new wr _)) (by simp [Value.oneCell']) (by omega) (by unfold maxLen; omega) (by omega) (by simp; omega) (wr.heap.size + 1) (by simp) ?_)
        intro g cap w1 hown1 hgrow _ _
        have HO := hide (map_snoc bs _ hown1)
        have HB1 := hide (((unhide HB).alloc hsz (.cells #[.string (s.extract f i)] 9)).grown hgrow (by simp; omega) (fun j hj => (hown.lt j hj).1))
        clear hown1 hgrow hown hi0 hz0 hz1 hz2 HB
        go_wp2
        go_roundw
        case rel => exact ⟨i + 1, i + 1, bs ++ [s.extract f i], by omega, fun _ => by omega, by go_num, by go_num, by simp; omega, small_snoc hs (unhide HZ), by have h := unhide HI; rw [unhide HE] at h ⊢; exact cutS_end h, unhide HO, unhide HB1⟩
        case measure => simp [intOf]; omega
      · have hlt : i < s.size := by omega
        have e1 : ((i : Int) == (s.size : Int)) = false := by rw [beq_eq_false_iff_ne]; omega
        clear he
        by_cases h32 : s[i].toNat = 32
        · have e2 : ((s[i].toNat : Int) == 32) = true := by rw [beq_iff_eq]; omega
          have H32 := hide h32
          clear h32
          obtain ⟨i0, hi0, hz0, hz1, hz2⟩ := info_parts infoSt
          go_wp2_with (at_builtin; refine wpList_append_lies _ rfl _ _ 49 rfl w.heap.size 9 i0 _ 1 16 Tryd.underlying49 hi0 hz0 hz1 hz2 rfl (by omega) _ bs.length _ rfl (hown.alloc _) ⟨wr.heap.size, 0, none⟩ 1 1 [.string (s.extract f i)] rfl rfl (World.news_of_block (cs := #[.string (s.extract f i)]) (t := 9) (fr := (0, 0)) (heap_alloc_new wr _)) (by simp [Value.oneCell']) (by omega) (by unfold maxLen; omega) (by omega) (by simp; omega) (wr.heap.size + 1) (by simp) ?_)
          intro g cap w1 hown1 hgrow _ _
          have HO := hide (map_snoc bs _ hown1)
          have HB1 := hide (((unhide HB).alloc hsz (.cells #[.string (s.extract f i)] 9)).grown hgrow (by simp; omega) (fun j hj => (hown.lt j hj).1))
          clear hown1 hgrow hown hi0 hz0 hz1 hz2 HB
          go_wp2
          go_roundw
          case rel => exact ⟨i + 1, i + 1, bs ++ [s.extract f i], by omega, fun _ => by omega, by go_num, by go_num, by simp; omega, small_snoc hs (unhide HZ), cutS_blank hlt (unhide H32) (unhide HI), unhide HO, unhide HB1⟩
          case measure => simp [intOf]; omega
        · have e2 : ((s[i].toNat : Int) == 32) = false := by rw [beq_eq_false_iff_ne]; omega
          have H32 := hide h32
          have HO := hide hown
          clear h32 hown
          go_wp2
          go_roundw
          case rel => exact ⟨i + 1, f, bs, by omega, fun _ => by omega, by go_num, rfl, by omega, unhide HZ, cutS_other hlt (unhide H32) (unhide HI), unhide HO, unhide HB⟩
          case measure => simp [intOf]; omega
    · have HO := hide hown
      have HB := hide hB
      have hend : bs.map (fun b => b.data.toList) = cutS [] s.data.toList := by
        rcases hinv with ⟨h, _⟩ | ⟨_, h⟩
        · omega
        · exact h
      have HE := hide hend
      have HZ := hide hbz
      clear hown hB hinv hend hbz hf
      go_wp2
      go_ret
      exact ⟨_, bs, rfl, unhide HO, unhide HE, by omega, unhide HZ, unhide HB⟩

end Go.Proofs.YtjfplfhdfiebgaaDoor
