/-
  DrawParseVec draws a text of at most 17 bytes, DrawVecText a slice of at most four numbers: in new memory; nothing old is written.
  Condition: at most 1048576 bytes.
-/
import Derived.Test.YtgbhhaobioafaaaDoorSource
import Derived.Test.YtgbhhaobioafaaaDoorDraw3
import Derived.Test.YtgbhhaobioafaaaDoorTextModel
import Derived.Laws.IdiomStrings
import Derived.Laws.BytesArg
namespace Go.Proofs.YtgbhhaobioafaaaDoor
open Go.RowKit

theorem decF_ne (f n : Nat) : decF (f + 1) n ≠ [] := by
  unfold decF
  split <;> simp
theorem dec_ne (n : Int) : 1 ≤ (dec n).length := by
  have h : dec n ≠ [] := by
    unfold dec
    split
    · simp
    · exact decF_ne 3 _
  cases hd : dec n with
  | nil => exact absurd hd h
  | cons c r => simp
theorem text3_ge (x y z : Int) : 5 ≤ (text3 x y z).length := by
  have := dec_ne x
  have := dec_ne y
  have := dec_ne z
  simp [text3]
  omega

/-- Bytes that lie in the block g, from its beginning, and may be written. -/
def IsBytes (w : World) (g n : Nat) : Prop := g < w.heap.size ∧ ∃ xs : List Int, xs.length = n ∧ (∀ j, j < n → w.cell? ⟨g, j, none⟩ = some (.int .u8 (xs.getD j 0))) ∧ ∀ j, j < n → w.frozen? ⟨g, j, none⟩ = false
theorem IsBytes.keep {w w' : World} {g n b : Nat} (h : IsBytes w g n) (hg : w.grownBy w' (some b)) (hb : b ≠ g) : IsBytes w' g n := by
  obtain ⟨h0, xs, h1, h2, h3⟩ := h
  have hk := hg.block g h0 (by simp; omega)
  refine ⟨Nat.lt_of_lt_of_le h0 hg.size, xs, h1, fun j hj => ?_, fun j hj => ?_⟩
  · rw [← h2 j hj]; simp [World.cell?, hk]
  · rw [← h3 j hj]; simp [World.frozen?, hk]
theorem IsBytes.set {w : World} {g n i : Nat} (h : IsBytes w g n) (hi : i < n) (x : Int) : IsBytes (w.setCell ⟨g, i, none⟩ (.int .u8 x)) g n := by
  obtain ⟨h0, xs, h1, h2, h3⟩ := h
  refine ⟨by simpa using h0, xs.set i x, by simpa using h1, fun j hj => ?_, fun j hj => ?_⟩
  · by_cases e : i = j
    · subst e
      have hx : (xs.set i x).getD i 0 = x := by simp [List.getD, show i < xs.length by omega]
      rw [hx]
      simp [go_sem, h2 i hi]
    · have hx : (xs.set i x).getD j 0 = xs.getD j 0 := by simp [List.getD, e]
      rw [hx, ← h2 j hj]
      simp [go_sem]
  · rw [← h3 j hj]
    simp [go_sem]
theorem IsBytes.less {w : World} {g n k : Nat} (h : IsBytes w g n) (hk : k ≤ n) : IsBytes w g k := by
  obtain ⟨h0, xs, h1, h2, h3⟩ := h
  refine ⟨h0, xs.take k, by simp; omega, fun j hj => ?_, fun j hj => h3 j (by omega)⟩
  rw [h2 j (by omega)]
  simp [List.getD, hj]
theorem IsBytes.conv {w : World} {g n : Nat} (h : IsBytes w g n) (cap : Nat) : ∃ s : ByteArray, s.size = n ∧ (convert 22 9 (.slice (some ⟨g, 0, none⟩) n cap)).run Tryd.prog w = .ok (.string s) w := by
  obtain ⟨h0, xs, h1, h2, h3⟩ := h
  refine ⟨strOfNums xs, by simp [strOfNums, ByteArray.size, h1], ?_⟩
  exact run_convert_bytes_arg (P := Tryd.prog) w 22 5 Tryd.underlying22 Tryd.underlying5 g 0 n cap xs h1 (fun i hi => by rw [Nat.zero_add]; exact h2 i hi) 9 Tryd.underlying9
theorem bytes_new (w : World) (s : ByteArray) (c : Nat) (T : TypeId) : IsBytes (w.alloc (.cells (bytesRow s c) T ((bytesRow s c).size, (bytesRow s c).size + 1))) w.heap.size s.size := by
  have hh := heap_alloc_new w (.cells (bytesRow s c) T ((bytesRow s c).size, (bytesRow s c).size + 1))
  refine ⟨by simp, s.data.toList.map fun b => (b.toNat : Int), by simp, fun j hj => ?_, fun j hj => ?_⟩
  · simp only [World.cell?, hh]
    simp [bytesRow, Array.getElem?_append, hj, List.getD]
  · simp only [World.frozen?, hh]
    have hj2 : j < s.data.size := hj
    have : (bytesRow s c).size = s.data.size + (c - s.size) := by simp [bytesRow]
    simp [this]
    omega

set_option maxRecDepth 100000 in
set_option maxHeartbeats 2000000 in
theorem drawParse (ao : Option Addr) (len cap : Nat) (w : World) (hc : IsCode w.heap.size w (.slice ao len cap)) :
    Calls Tryd.prog 5 #[.slice ao len cap] w fun e w' => ∃ s : ByteArray, e = .returned (.string s) ∧ s.size ≤ 17 ∧ Below w.heap.size w w' := by
  go_enter Tryd.func5, Tryd.ntmps5
  go_wp2_with fail
  refine (source ao len cap w).mono ?_
  rintro e w1 ⟨rfl, rfl⟩
  have hs1 := src_new w (.slice ao len cap)
  have hc1 := hc.alloc (Nat.le_refl _) (.cells #[.slice ao len cap, .int .i64 0] 54)
  have HB1 := hide ((Below.refl w.heap.size w).alloc (Nat.le_refl _) (.cells #[.slice ao len cap, .int .i64 0] 54))
  clear hc
  go_wp2_with fail
  refine (draw w.heap.size 0 _ _ hs1 hc1 (by omega)).mono ?_
  rintro e w2 ⟨v, ds, rfl, hl, hr, hown, hs2, hc2, hg2⟩
  have HB2 := hide ((unhide HB1).grown hg2 (by simp) (fun k hk => by simp at hk; omega))
  clear hs1 hc1 hg2 HB1
  match ds, hl with
  | [x, y, z], _ =>
  have hi : IsInts w2 v [x, y, z] := isInts_row (fun d hd => wf_of_bd (by have := hr d hd; omega)) hown
  obtain ⟨b, off, cap2, x', y', z', he, rfl, -, c0, c1, c2⟩ := hi.three rfl
  simp only [List.cons.injEq, and_true] at he
  obtain ⟨rfl, rfl, rfl⟩ := he
  go_wp2_with fail
  refine (l1Text3 b off cap2 x y z w2 c0 c1 c2 (hr x (by simp)) (hr y (by simp)) (hr z (by simp))).mono ?_
  rintro e w3 ⟨rfl, hb3⟩
  have l1 := text3_len x y z
  have l2 := text3_ge x y z
  generalize text3 x y z = tx at *
  have hs3 : SrcAt w3 w.heap.size (.slice ao len cap) (0 + 9) := (hb3.block _ hs2.lt).trans hs2
  have hc3 : IsCode w.heap.size w3 (.slice ao len cap) := hc2.later (hb3.mono (Nat.le_of_lt hs2.lt))
  have HB3 := hide ((unhide HB2).trans (hb3.mono (Nat.le_of_lt hs2.lt)))
  have hconv := run_bytes_of_string (P := Tryd.prog) w3 9 22 5 ⟨tx.toArray⟩ Tryd.underlying9 Tryd.underlying22 Tryd.underlying5
  obtain ⟨w4, hw4⟩ : ∃ w4, w4 = (w3.drew.alloc (.cells (bytesRow ⟨tx.toArray⟩ (grownCap w3 (⟨tx.toArray⟩ : ByteArray).size 0 5)) 5 ((bytesRow ⟨tx.toArray⟩ (grownCap w3 (⟨tx.toArray⟩ : ByteArray).size 0 5)).size, (bytesRow ⟨tx.toArray⟩ (grownCap w3 (⟨tx.toArray⟩ : ByteArray).size 0 5)).size + 1))) := ⟨_, rfl⟩
  rw [← hw4] at hconv
  have hby : IsBytes w4 w3.heap.size tx.length := by rw [hw4]; exact bytes_new w3.drew ⟨tx.toArray⟩ _ _
  have hsz : (⟨tx.toArray⟩ : ByteArray).size = tx.length := rfl
  rw [hsz] at hconv
  have hcp : tx.length ≤ grownCap w3 tx.length 0 5 := grownCap_ge w3 _ _ _
  generalize grownCap w3 tx.length 0 5 = cp at *
  simp only [str]
  have hs4 : SrcAt w4 w.heap.size (.slice ao len cap) (0 + 9) := by rw [hw4]; exact SrcAt.alloc (w := w3.drew) hs3 _
  have hc4 : IsCode w.heap.size w4 (.slice ao len cap) := by rw [hw4]; exact IsCode.alloc (w := w3.drew) (hc3.later ⟨rfl, rfl, rfl, Nat.le_refl _, fun _ _ => rfl⟩) (Nat.le_of_lt hs3.lt) _
  have HB4 : Hid (Below w.heap.size w w4) := by
    show Below w.heap.size w w4
    rw [hw4]
    exact Below.alloc (w := w3.drew) ((unhide HB3).trans ⟨rfl, rfl, rfl, Nat.le_refl _, fun _ _ => rfl⟩) (Nat.le_of_lt hs3.lt) _
  have hne : w.heap.size < w3.heap.size := hs3.lt
  clear hw4 hs3 hc3 HB3 HB2 hb3 hs2 hc2 hown hi c0 c1 c2 hr
  go_wp2_with fail
  refine (next w.heap.size (0 + 9) _ 5 _ hs4 hc4 (by omega) (by omega) (by omega)).mono ?_
  rintro e w5 ⟨r, rfl, hr, hs5, hc5, hg5⟩
  have hby5 := hby.keep hg5 (by omega)
  have HB5 := hide ((unhide HB4).grown hg5 (Nat.le_of_lt hs4.lt) (fun k hk => by simp at hk; omega))
  clear hs4 hc4 hg5 HB4 hby hconv
  by_cases r0 : r = 0
  · subst r0
    go_wp2_with fail
    refine (next w.heap.size (0 + 9 + 1) _ tx.length _ hs5 hc5 (by omega) (by omega) (by omega)).mono ?_
    rintro e w6 ⟨i, rfl, hi, hs6, hc6, hg6⟩
    have hby6 := hby5.keep hg6 (by omega)
    have HB6 := hide ((unhide HB5).grown hg6 (Nat.le_of_lt hs5.lt) (fun k hk => by simp at hk; omega))
    clear hs5 hc5 hg6 HB5 hby5
    go_wp2_with fail
    have hsa := hs6.alloc (.cells #[.int .i64 48, .int .i64 44, .int .i64 45, .int .i64 57] 2)
    have hbya : IsBytes (w6.alloc (.cells #[.int .i64 48, .int .i64 44, .int .i64 45, .int .i64 57] 2)) w3.heap.size tx.length := hby6.keep (World.grownBy_alloc w6 _ (some w6.heap.size)) (by have := hby6.1; omega)
    have e := pick w.heap.size (0 + 9 + 1 + 1) w6.heap.size (.slice ao len cap) [48, 44, 45, 57] _ hsa (hc6.alloc (Nat.le_of_lt hs6.lt) _) (by omega) (by simp) (by simp) (heap_alloc_new w6 _) (by have := hs6.lt; omega)
    refine e.mono ?_
    clear e
    rintro e w7 ⟨c, rfl, hc, hs7, hc7, hg7⟩
    have hby7 := hbya.keep hg7 (by omega)
    have HB7 := hide (((unhide HB6).alloc (Nat.le_of_lt hs6.lt) _).grown hg7 (by have := hs6.lt; simp; omega) (fun k hk => by simp at hk; omega))
    have hcb : 0 ≤ c ∧ c ≤ 57 := by simp at hc; omega
    have hi2 : i < tx.length := by omega
    obtain ⟨s, hss, hcv⟩ := (hby7.set hi2 c).conv cp
    obtain ⟨hlt, xs, hx1, hx2, hx3⟩ := hby7
    have k0 := hx2 i hi2
    have k1 := hx3 i hi2
    clear hs6 hc6 HB6 hby6 hsa hbya hg7 hc hs7 hc7 hx1 hx2 hx3
    go_wp2_with fail
    go_ret
    exact ⟨s, rfl, by omega, (unhide HB7).setCell (by show w.heap.size ≤ w3.heap.size; omega) _⟩
  · by_cases r1 : r = 1
    · subst r1
      go_wp2_with fail
      refine (next w.heap.size (0 + 9 + 1) _ tx.length _ hs5 hc5 (by omega) (by omega) (by omega)).mono ?_
      rintro e w6 ⟨i, rfl, hi, hs6, hc6, hg6⟩
      have hby6 := hby5.keep hg6 (by omega)
      have HB6 := hide ((unhide HB5).grown hg6 (Nat.le_of_lt hs5.lt) (fun k hk => by simp at hk; omega))
      have hi2 : i < tx.length := by omega
      obtain ⟨s, hss, hcv⟩ := (hby6.less (k := i) (by omega)).conv cp
      clear hs5 hc5 hg6 HB5 hby5 hs6 hc6 hby6
      go_wp2_with fail
      go_ret
      exact ⟨s, rfl, by omega, unhide HB6⟩
    · obtain ⟨s, hss, hcv⟩ := hby5.conv cp
      have n0 : ((r : Int) == 0) = false := by simp; omega
      have n1 : ((r : Int) == 1) = false := by simp; omega
      clear hs5 hc5 hby5
      go_wp2_with fail
      go_ret
      exact ⟨s, rfl, by omega, unhide HB5⟩

theorem drawVec (ao : Option Addr) (len cap : Nat) (w : World) (hc : IsCode w.heap.size w (.slice ao len cap)) :
    Calls Tryd.prog 9 #[.slice ao len cap] w fun e w' => ∃ v zs, e = .returned v ∧ IsInts w' v zs ∧ zs.length ≤ 4 ∧ Below w.heap.size w w' := by
  go_enter Tryd.func9, Tryd.ntmps9
  go_wp2_with fail
  refine (source ao len cap w).mono ?_
  rintro e w1 ⟨rfl, rfl⟩
  have hs1 := src_new w (.slice ao len cap)
  have hc1 := hc.alloc (Nat.le_refl _) (.cells #[.slice ao len cap, .int .i64 0] 54)
  have HB1 := hide ((Below.refl w.heap.size w).alloc (Nat.le_refl _) (.cells #[.slice ao len cap, .int .i64 0] 54))
  clear hc
  go_wp2_with fail
  refine (bent w.heap.size 0 _ _ hs1 hc1 (by omega)).mono ?_
  rintro e w2 ⟨v1, zs, m2, rfl, hl1, hn1, hm2, hs2, hc2, hg2⟩
  have HB2 := hide ((unhide HB1).grown hg2 (by simp) (fun k hk => by simp at hk; omega))
  have HI := hide hn1.ints
  clear hs1 hc1 hg2 HB1 hn1 hs2 hc2
  go_wp2_with fail
  go_ret
  exact ⟨v1, zs, rfl, unhide HI, hl1, unhide HB2⟩

end Go.Proofs.YtgbhhaobioafaaaDoor
