/-
  l1Cut cuts a text at its commas.
  Condition: at most 1048576 bytes.
-/
import Derived.Test.YtjfplfhdfiebgaaDoorNumber
import Derived.Lib.Strings
import Derived.Deep.AppendLies
namespace Go.Proofs.YtjfplfhdfiebgaaDoor
open Go.RowKit

theorem infoSt : (Tryd.prog.info? 9).map (fun i => (i.zero, i.size, i.bytes)) = some (some (.string ⟨#[]⟩), 1, 16) := by kernel_rfl

theorem ext_seg (s : ByteArray) (f i : Nat) : (s.extract f i).data.toList = seg s f i := by
  rw [Lib.extract_data]
  unfold seg
  rw [List.drop_take]
theorem ext_size (s : ByteArray) (f i : Nat) : (s.extract f i).size ≤ s.size := by
  rw [ByteArray.size_extract]
  omega
theorem map_snoc (bs : List ByteArray) (b : ByteArray) {w : World} {B T : Nat} {v : Value} (h : w.ownsRow B T 1 v (bs.length + 1) (bs.map Value.string ++ [Value.string b])) : w.ownsRow B T 1 v (bs ++ [b]).length ((bs ++ [b]).map Value.string) := by
  rw [List.map_append, List.length_append]
  exact h
theorem small_snoc {s : ByteArray} {bs : List ByteArray} {f i : Nat} (hs : s.size ≤ 1048576) (h : ∀ b ∈ bs, b.size ≤ 1048576) : ∀ b ∈ bs ++ [s.extract f i], b.size ≤ 1048576 := by
  intro b hb
  rcases List.mem_append.1 hb with h1 | h1
  · exact h b h1
  · simp at h1
    subst h1
    exact Nat.le_trans (ext_size s f i) hs

/-- What holds ahead of each round. -/
def CutInv (s : ByteArray) (i f : Nat) (bs : List ByteArray) : Prop :=
  (i ≤ s.size ∧ f ≤ i ∧ bs.map (fun b => b.data.toList) ++ cutA (seg s f i) (rest s i) = cutA [] s.data.toList) ∨ (i = s.size + 1 ∧ bs.map (fun b => b.data.toList) = cutA [] s.data.toList)

theorem cut_end {s : ByteArray} {f : Nat} {bs : List ByteArray} (h : CutInv s s.size f bs) : CutInv s (s.size + 1) (s.size + 1) (bs ++ [s.extract f s.size]) := by
  rcases h with ⟨_, _, h⟩ | ⟨h, _⟩
  · right
    rw [rest_nil s s.size (by omega), cutA] at h
    refine ⟨rfl, ?_⟩
    rw [List.map_append, ← h]
    simp only [List.map_cons, List.map_nil, ext_seg]
  · omega
theorem cut_comma {s : ByteArray} {i f : Nat} {bs : List ByteArray} (hi : i < s.size) (hc : s[i].toNat = 44) (h : CutInv s i f bs) : CutInv s (i + 1) (i + 1) (bs ++ [s.extract f i]) := by
  rcases h with ⟨_, _, h⟩ | ⟨h, _⟩
  · left
    rw [rest_cons s i hi, cutA, if_pos hc] at h
    refine ⟨by omega, by omega, ?_⟩
    rw [List.map_append, seg_start, ← h]
    simp only [List.map_cons, List.map_nil, ext_seg, List.append_assoc, List.cons_append, List.nil_append]
  · omega
theorem cut_other {s : ByteArray} {i f : Nat} {bs : List ByteArray} (hi : i < s.size) (hc : s[i].toNat ≠ 44) (h : CutInv s i f bs) : CutInv s (i + 1) f bs := by
  rcases h with ⟨_, hf, h⟩ | ⟨h, _⟩
  · left
    rw [rest_cons s i hi, cutA, if_neg hc] at h
    refine ⟨by omega, by omega, ?_⟩
    rw [seg_snoc s f i hf hi]
    exact h
  · omega

set_option maxRecDepth 100000 in
set_option maxHeartbeats 1600000 in
theorem cutC (s : ByteArray) (w : World) (hs : s.size ≤ 1048576) :
    Calls Tryd.prog 26 #[.string s, .int .u8 44] w fun e w' => ∃ (v : Value) (bs : List ByteArray), e = .returned v ∧ w'.ownsRow w.heap.size 9 1 v bs.length (bs.map Value.string) ∧
      bs.map (fun b => b.data.toList) = cutA [] s.data.toList ∧ bs.length ≤ 1048577 ∧ (∀ b ∈ bs, b.size ≤ 1048576) ∧ Below w.heap.size w w' := by
  go_enter Tryd.func26, Tryd.ntmps26
  go_wp2
  go_loopw [5, 6, 7] (fun v ff ii wr => ∃ (i f : Nat) (bs : List ByteArray), i ≤ s.size + 1 ∧ (i ≤ s.size → f ≤ i) ∧ ii = .int .i64 i ∧ ff = .int .i64 f ∧ bs.length ≤ i ∧ (∀ b ∈ bs, b.size ≤ 1048576) ∧ CutInv s i f bs ∧ wr.ownsRow w.heap.size 9 1 v bs.length (bs.map Value.string) ∧ Below w.heap.size w wr)
    (fun _ _ i _ => s.size + 1 - (intOf i).toNat)
  case atStart =>
    refine ⟨0, 0, [], by omega, fun _ => by omega, rfl, rfl, by simp, by simp, Or.inl ⟨by omega, by omega, by rw [seg_start]; rfl⟩, ?_, (Below.refl _ _).alloc (Nat.le_refl _) _⟩
    exact World.ownsRow_lit w #[] 0 (Nat.le_refl _) (by unfold maxLen; omega) rfl
  case round =>
    obtain ⟨i, f, bs, hi, hf, rfl, rfl, hbl, hbz, hinv, hown, hB⟩ := hrel
    by_cases hle : i ≤ s.size
    · have hf' := hf hle
      have HI := hide hinv
      have HZ := hide hbz
      have HB := hide hB
      have hsz := hB.size
      clear hinv hbz hB hf
      by_cases he : i = s.size
      · have e1 : ((i : Int) == (s.size : Int)) = true := by rw [beq_iff_eq]; omega
        have HE := hide he
        clear he
        obtain ⟨i0, hi0, hz0, hz1, hz2⟩ := info_parts infoSt
        go_wp2_with (at_builtin; refine wpList_append_lies _ rfl _ _ 49 rfl w.heap.size 9 i0 _ 1 16 Tryd.underlying49 hi0 hz0 hz1 hz2 rfl (by omega) _ bs.length _ rfl (hown.alloc _) ⟨wr.heap.size, 0, none⟩ 1 1 [.string (s.extract f i)] rfl rfl (World.news_of_block (cs := #[.string (s.extract f i)]) (t := 9) (fr := (0, 0)) (heap_alloc_new wr _)) (by simp [Value.oneCell']) (by omega) (by unfold maxLen; omega) (by omega) (by simp; omega) (wr.heap.size + 1) (by simp) ?_)
        intro g cap w1 hown1 hgrow _ _
        have HO := hide (map_snoc bs _ hown1)
        have HB1 := hide (((unhide HB).alloc hsz (.cells #[.string (s.extract f i)] 9)).grown hgrow (by simp; omega) (fun j hj => (hown.lt j hj).1))
        clear hown1 hgrow hown hi0 hz0 hz1 hz2 HB
        go_wp2
        go_roundw
        case rel => exact ⟨i + 1, i + 1, bs ++ [s.extract f i], by omega, fun _ => by omega, by go_num, by go_num, by simp; omega, small_snoc hs (unhide HZ), by have h := unhide HI; rw [unhide HE] at h ⊢; exact cut_end h, unhide HO, unhide HB1⟩
        case measure => simp [intOf]; omega
      · have hlt : i < s.size := by omega
        have e1 : ((i : Int) == (s.size : Int)) = false := by rw [beq_eq_false_iff_ne]; omega
        clear he
        by_cases h44 : s[i].toNat = 44
        · have e2 : ((s[i].toNat : Int) == 44) = true := by rw [beq_iff_eq]; omega
          have H44 := hide h44
          clear h44
          obtain ⟨i0, hi0, hz0, hz1, hz2⟩ := info_parts infoSt
          go_wp2_with (at_builtin; refine wpList_append_lies _ rfl _ _ 49 rfl w.heap.size 9 i0 _ 1 16 Tryd.underlying49 hi0 hz0 hz1 hz2 rfl (by omega) _ bs.length _ rfl (hown.alloc _) ⟨wr.heap.size, 0, none⟩ 1 1 [.string (s.extract f i)] rfl rfl (World.news_of_block (cs := #[.string (s.extract f i)]) (t := 9) (fr := (0, 0)) (heap_alloc_new wr _)) (by simp [Value.oneCell']) (by omega) (by unfold maxLen; omega) (by omega) (by simp; omega) (wr.heap.size + 1) (by simp) ?_)
          intro g cap w1 hown1 hgrow _ _
          have HO := hide (map_snoc bs _ hown1)
          have HB1 := hide (((unhide HB).alloc hsz (.cells #[.string (s.extract f i)] 9)).grown hgrow (by simp; omega) (fun j hj => (hown.lt j hj).1))
          clear hown1 hgrow hown hi0 hz0 hz1 hz2 HB
          go_wp2
          go_roundw
          case rel => exact ⟨i + 1, i + 1, bs ++ [s.extract f i], by omega, fun _ => by omega, by go_num, by go_num, by simp; omega, small_snoc hs (unhide HZ), cut_comma hlt (unhide H44) (unhide HI), unhide HO, unhide HB1⟩
          case measure => simp [intOf]; omega
        · have e2 : ((s[i].toNat : Int) == 44) = false := by rw [beq_eq_false_iff_ne]; omega
          have H44 := hide h44
          have HO := hide hown
          clear h44 hown
          go_wp2
          go_roundw
          case rel => exact ⟨i + 1, f, bs, by omega, fun _ => by omega, by go_num, rfl, by omega, unhide HZ, cut_other hlt (unhide H44) (unhide HI), unhide HO, unhide HB⟩
          case measure => simp [intOf]; omega
    · have HO := hide hown
      have HB := hide hB
      have hend : bs.map (fun b => b.data.toList) = cutA [] s.data.toList := by
        rcases hinv with ⟨h, _⟩ | ⟨_, h⟩
        · omega
        · exact h
      have HE := hide hend
      have HZ := hide hbz
      clear hown hB hinv hend hbz hf
      go_wp2
      go_ret
      exact ⟨_, bs, rfl, unhide HO, unhide HE, by omega, unhide HZ, unhide HB⟩

end Go.Proofs.YtjfplfhdfiebgaaDoor
