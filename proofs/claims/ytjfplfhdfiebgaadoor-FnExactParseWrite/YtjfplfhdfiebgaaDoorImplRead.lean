/-
  readWrite of the program: the write whose words a text has, or that there is none; nothing old is written.
  Condition: the library's own variables have their shapes; at most 1048576 bytes.
-/
import Derived.Test.YtjfplfhdfiebgaaDoorImplReadD
import Derived.Test.YtjfplfhdfiebgaaDoorImplReadP
import Derived.Test.YtjfplfhdfiebgaaDoorSplitPlain
import Derived.Test.YtjfplfhdfiebgaaDoorShelf
import Derived.ChangeAgain
namespace Go.Proofs.YtjfplfhdfiebgaaDoor
open Go.RowKit

def Shp (w : World) : Prop := w.ShapedOpen Tryd.prog
theorem Shp.later {W W' : World} (h : Shp W) (hb : Below W.heap.size W W') : Shp W' := World.ShapedOpen.keptBut h (hb.frame (fun _ => False)) (fun _ hp => hp.elim)

theorem readI_other {l : List Bytes} (h5 : l.length ≠ 5) (h6 : l.length ≠ 6) : readI l = none := by
  unfold readI
  split
  · exact absurd rfl h6
  · exact absurd rfl h5
  · rfl
theorem readI_five {c0 c1 c2 c3 c4 : Bytes} (h : ¬ (c0 = [100, 114, 111, 112] ∧ c2 = [98, 121])) : readI [c0, c1, c2, c3, c4] = none := if_neg h
theorem readI_six {c0 c1 c2 c3 c4 c5 : Bytes} (h : ¬ (c0 = [112, 117, 116] ∧ c3 = [98, 121])) : readI [c0, c1, c2, c3, c4, c5] = none := if_neg h
theorem readI_drop' (c0 c1 c2 c3 c4 : Bytes) : readI [c0, c1, c2, c3, c4] = if c0 = [100, 114, 111, 112] ∧ c2 = [98, 121] then (if tailI 2 [] c1 c3 c4 = true then some (tailX 2 [] c1 c3 c4) else none) else none := rfl
theorem readI_put' (c0 c1 c2 c3 c4 c5 : Bytes) : readI [c0, c1, c2, c3, c4, c5] = if c0 = [112, 117, 116] ∧ c3 = [98, 121] then (match PP 3 (0, 0, 0) c2 with | none => none | some t => if tailI 1 [t.1, t.2.1, t.2.2] c1 c4 c5 = true then some (tailX 1 [t.1, t.2.1, t.2.2] c1 c4 c5) else none) else none := rfl
theorem readI_drop {c1 c3 c4 : Bytes} : readI [[100, 114, 111, 112], c1, [98, 121], c3, c4] = if tailI 2 [] c1 c3 c4 = true then some (tailX 2 [] c1 c3 c4) else none := (readI_drop' _ _ _ _ _).trans (if_pos ⟨rfl, rfl⟩)
theorem readI_put {c1 c2 c4 c5 : Bytes} : readI [[112, 117, 116], c1, c2, [98, 121], c4, c5] = (match PP 3 (0, 0, 0) c2 with | none => none | some t => if tailI 1 [t.1, t.2.1, t.2.2] c1 c4 c5 = true then some (tailX 1 [t.1, t.2.1, t.2.2] c1 c4 c5) else none) := (readI_put' _ _ _ _ _ _).trans (if_pos ⟨rfl, rfl⟩)
theorem five {bs : List ByteArray} (h : bs.length = 5) : ∃ a b c d e, bs = [a, b, c, d, e] := by
  match bs, h with
  | [a, b, c, d, e], _ => exact ⟨a, b, c, d, e, rfl⟩
theorem six {bs : List ByteArray} (h : bs.length = 6) : ∃ a b c d e f, bs = [a, b, c, d, e, f] := by
  match bs, h with
  | [a, b, c, d, e, f], _ => exact ⟨a, b, c, d, e, f, rfl⟩

def ToldRW (l : List Bytes) (w : World) (e : Ending) (w' : World) : Prop := ∃ (k i : Int) (a : Option Addr) (n c : Nat) (ss q : Int) (ok : Bool), e = .returned (.tuple #[.agg #[.int .i64 k, .int .i64 i, .slice a n c, .int .i64 ss, .int .i64 q], .bool ok]) ∧ (ok = true → ∃ x, readI l = some x ∧ Lay.tWrite.OwnIn w' [.int .i64 k, .int .i64 i, .slice a n c, .int .i64 ss, .int .i64 q] x w.heap.size w'.heap.size) ∧ (ok = false → readI l = none) ∧ Below w.heap.size w w'

theorem readW_bs (s : ByteArray) (bs : List ByteArray) (w : World)
    (hsp : ∀ W : World, W = w.alloc (.cells #[.int .i64 0, .int .i64 0, .slice none 0 0, .int .i64 0, .int .i64 0] 29) → Calls Tryd.prog 48 #[.string s, .string ⟨#[32]⟩] W fun e w' => e = .returned (.slice (some ⟨W.heap.size, 0, none⟩) bs.length bs.length) ∧ w' = W.alloc (.cells (bs.map Value.string).toArray 9))
    (hz : ∀ b ∈ bs, b.size ≤ 1048576) (hn : bs.length ≤ 1048577) :
    Calls Tryd.prog 27 #[.string s] w (ToldRW (bs.map (·.data.toList)) w) := by
  by_cases h3 : bs.length < 3
  · rcases bs with _ | ⟨b0, _ | ⟨b1, _ | ⟨b2, bs⟩⟩⟩
    · exact readW_0 s _ w hsp rfl
    · exact readW_1 s b0 _ w hsp rfl
    · exact readW_2 s b0 b1 _ w hsp rfl
    · simp only [List.length_cons] at h3
      omega
  obtain ⟨m, hm⟩ : ∃ m, bs.length = m + 3 := ⟨bs.length - 3, by omega⟩
  rw [hm] at hsp
  obtain ⟨t, ht⟩ : ∃ t, bs[m]? = some t := ⟨bs[m]'(by omega), List.getElem?_eq_getElem _⟩
  by_cases hb : t.data.toList = [98, 121]
  · obtain rfl : t = ⟨#[98, 121]⟩ := ba_eq hb
    by_cases h5 : m = 2
    · subst h5
      obtain ⟨d, a, t2, b, c, rfl⟩ := five hm
      obtain rfl : t2 = ⟨#[98, 121]⟩ := Option.some.inj ht
      by_cases hd : d.data.toList = [100, 114, 111, 112]
      · obtain rfl : d = ⟨#[100, 114, 111, 112]⟩ := ba_eq hd
        exact readW_drop s _ a b c _ w hsp (hz _ (by simp)) (hz _ (by simp)) (hz _ (by simp)) readI_drop (fun W hB => readDeed_drop _ _ W (hB.at 0 _ rfl))
      · exact readW_dno s _ 2 _ w hsp (readI_five fun h => hd h.1) (by omega) ht (fun W hB => (readDeed_ndrop _ _ d W (hB.at 0 _ rfl) (by rw [toList_data]; simpa using hd)).mono (fun e w' h => ⟨_, h.1, h.2⟩))
    · by_cases h6 : m = 3
      · subst h6
        obtain ⟨d, a, v, t2, b, c, rfl⟩ := six hm
        obtain rfl : t2 = ⟨#[98, 121]⟩ := Option.some.inj ht
        by_cases hd : d.data.toList = [112, 117, 116]
        · obtain rfl : d = ⟨#[112, 117, 116]⟩ := ba_eq hd
          cases hP : PP 3 (0, 0, 0) v.data.toList with
          | none =>
            refine readW_dno s _ 3 _ w hsp (readI_put.trans (by rw [hP])) (by omega) ht (fun W hB => (readDeed_put _ _ v W (hB.at 0 _ rfl) (hB.at 2 _ rfl) (hz _ (by simp))).mono (fun e w' h => ⟨putV 0 0 0, ?_, h.2⟩))
            rw [h.1, show rest v 0 = v.data.toList from rfl, hP]
            rfl
          | some T =>
            obtain ⟨p, q, r⟩ := T
            obtain ⟨-, b1, b2, b3⟩ := PP_some hP
            refine readW_put s _ a v b c p q r _ w hsp ?_ (hz _ (by simp)) (hz _ (by simp)) (hz _ (by simp)) (readI_put.trans (by rw [hP])) (fun W hB => (readDeed_put _ _ v W (hB.at 0 _ rfl) (hB.at 2 _ rfl) (hz _ (by simp))).mono (fun e w' h => ⟨?_, h.2⟩))
            · intro z hz
              simp only [List.mem_cons, List.not_mem_nil, or_false] at hz
              rcases hz with rfl | rfl | rfl
              · exact wf_of_bd (by omega)
              · exact wf_of_bd (by omega)
              · exact wf_of_bd (by omega)
            · rw [h.1, show rest v 0 = v.data.toList from rfl, hP]
              rfl
        · exact readW_dno s _ 3 _ w hsp (readI_six fun h => hd h.1) (by omega) ht (fun W hB => (readDeed_nput _ _ d W (hB.at 0 _ rfl) (by rw [toList_data]; simpa using hd)).mono (fun e w' h => ⟨_, h.1, h.2⟩))
      · exact readW_dno s bs m _ w hsp (readI_other (by rw [List.length_map]; omega) (by rw [List.length_map]; omega)) (by omega) ht (fun W hB => (readDeed_no _ _ _ W (by simp only [beq_eq_false_iff_ne]; omega) (by simp only [beq_eq_false_iff_ne]; omega)).mono (fun e w' h => ⟨_, h.1, h.2⟩))
  · refine readW_nby s bs m t _ w hsp ?_ (by omega) ht hb
    by_cases h5 : m = 2
    · subst h5
      obtain ⟨d, a, t2, b, c, rfl⟩ := five hm
      obtain rfl : t2 = t := Option.some.inj ht
      exact readI_five fun h => hb h.2
    · by_cases h6 : m = 3
      · subst h6
        obtain ⟨d, a, v, t2, b, c, rfl⟩ := six hm
        obtain rfl : t2 = t := Option.some.inj ht
        exact readI_six fun h => hb h.2
      · exact readI_other (by rw [List.length_map]; omega) (by rw [List.length_map]; omega)

theorem cutS_le : ∀ (l acc c : Bytes), c ∈ cutS acc l → c.length ≤ acc.length + l.length
  | [], acc, c, h => by
    simp only [cutS, List.mem_singleton] at h
    subst h
    simp
  | d :: r, acc, c, h => by
    rw [cutS] at h
    split at h
    · rcases List.mem_cons.1 h with rfl | h
      · simp
      · have := cutS_le r [] c h
        simp only [List.length_nil, List.length_cons] at *
        omega
    · have := cutS_le r _ c h
      simp only [List.length_append, List.length_cons, List.length_nil] at *
      omega
theorem cutS_few : ∀ (l acc : Bytes), (cutS acc l).length ≤ l.length + 1
  | [], acc => by simp [cutS]
  | d :: r, acc => by
    rw [cutS]
    split
    · have := cutS_few r []
      simp only [List.length_cons]
      omega
    · have := cutS_few r (acc ++ [d])
      simp only [List.length_cons]
      omega

/-- readWrite of the program. -/
theorem readWriteC (s : ByteArray) (w : World) (hs : s.size ≤ 1048576) (hsh : Shp w) :
    Calls Tryd.prog 27 #[.string s] w (ToldRW (cutS [] s.data.toList) w) := by
  have hw := split_words s
  have hlen := Lib.splitB_all ⟨#[32]⟩ (by decide) 0 (Lib.countB s ⟨#[32]⟩) s rfl
  have hsp : ∀ W : World, W = w.alloc (.cells #[.int .i64 0, .int .i64 0, .slice none 0 0, .int .i64 0, .int .i64 0] 29) → Calls Tryd.prog 48 #[.string s, .string ⟨#[32]⟩] W fun e w' => e = .returned (.slice (some ⟨W.heap.size, 0, none⟩) (Lib.splitB ⟨#[32]⟩ 0 (Lib.countB s ⟨#[32]⟩) s).length (Lib.splitB ⟨#[32]⟩ 0 (Lib.countB s ⟨#[32]⟩) s).length) ∧ w' = W.alloc (.cells ((Lib.splitB ⟨#[32]⟩ 0 (Lib.countB s ⟨#[32]⟩) s).map Value.string).toArray 9) := by
    rintro W rfl
    rw [hlen]
    exact Tryd.strings_Split_shaped s ⟨#[32]⟩ _ (hsh.later ((Below.refl _ _).alloc (Nat.le_refl _) _)) (by omega) (by decide)
  clear hlen
  generalize Lib.splitB ⟨#[32]⟩ 0 (Lib.countB s ⟨#[32]⟩) s = bs at *
  have hsz : s.data.toList.length = s.size := by simp
  rw [← hw]
  refine readW_bs s bs w hsp (fun b hb => ?_) ?_
  · have := cutS_le s.data.toList [] b.data.toList (hw ▸ List.mem_map_of_mem hb)
    have h2 : b.data.toList.length = b.size := by simp
    simp only [List.length_nil] at this
    omega
  · have := cutS_few s.data.toList []
    rw [← hw, List.length_map] at this
    omega

end Go.Proofs.YtjfplfhdfiebgaaDoor
