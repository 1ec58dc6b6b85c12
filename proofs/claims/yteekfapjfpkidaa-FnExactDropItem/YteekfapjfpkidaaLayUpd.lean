/-
  A slice of data of the law's own, one element of which is written anew: small laws.
  No condition.
-/
import Derived.Test.YteekfapjfpkidaaLayRow
namespace Go.Proofs.Yteekfapjfpkidaa
open Go.RowKit

theorem nodup_flat {bls : List (List Nat)} (h : bls.flatten.Nodup) : (∀ l ∈ bls, l.Nodup) ∧ ∀ i j (hi : i < bls.length) (hj : j < bls.length), i ≠ j → ∀ c ∈ bls[i], c ∉ bls[j] := by
  induction bls with
  | nil => exact ⟨by simp, fun i j hi => by simp at hi⟩
  | cons l ls ih =>
    rw [List.flatten_cons, List.nodup_append] at h
    obtain ⟨h1, h2, h3⟩ := h
    obtain ⟨k1, k2⟩ := ih h2
    have hm : ∀ j (hj : j < ls.length), ∀ c ∈ l, c ∉ ls[j] := fun j hj c hc hq => h3 c hc c (List.mem_flatten.2 ⟨_, List.getElem_mem hj, hq⟩) rfl
    refine ⟨fun q hq => ?_, fun i j hi hj hne c hc hq => ?_⟩
    · rcases List.mem_cons.1 hq with rfl | hq
      · exact h1
      · exact k1 q hq
    · match i, j, hi, hj, hne with
      | 0, j + 1, _, hj, _ => exact hm j (by simpa using hj) c (by simpa using hc) (by simpa using hq)
      | i + 1, 0, hi, _, _ => exact hm i (by simpa using hi) c (by simpa using hq) (by simpa using hc)
      | i + 1, j + 1, hi, hj, hne => exact k2 i j (by simpa using hi) (by simpa using hj) (by omega) c (by simpa using hc) (by simpa using hq)

/-- Row o.. of block b at the world c: n cells; all else of that block is as at w; only b and blk have been written since w. -/
structure RowAt (w c : World) (b o n : Nat) (cs : List Value) (blk : List Nat) : Prop where
  len : cs.length = n
  cells : ∀ m, m < n → c.cell? ⟨b, o + m, none⟩ = cs[m]?
  others : ∀ q, (q < o ∨ o + n ≤ q) → c.cell? ⟨b, q, none⟩ = w.cell? ⟨b, q, none⟩
  soft : ∀ q, c.frozen? ⟨b, q, none⟩ = false
  lt : b < c.heap.size
  ext : Ext (fun q => q = b ∨ q ∈ blk) w c

theorem RowAt.at {w c : World} {b o n : Nat} {cs : List Value} {blk : List Nat} (h : RowAt w c b o n cs blk) (m : Nat) (v : Value) (hv : cs[m]? = some v) : c.cell? ⟨b, o + m, none⟩ = some v := by
  have : m < n := by rw [← h.len]; exact (List.getElem?_eq_some_iff.1 hv).1
  rw [h.cells m this, hv]
theorem RowAt.set {w c : World} {b o n : Nat} {cs : List Value} {blk : List Nat} (h : RowAt w c b o n cs blk) (m : Nat) (v : Value) (hm : m < n) : RowAt w (c.setCell ⟨b, o + m, none⟩ v) b o n (cs.set m v) blk := by
  refine ⟨by simpa using h.len, fun j hj => ?_, fun q hq => ?_, fun q => by simpa using h.soft q, by simpa using h.lt, h.ext.setCell _ _ (Or.inl rfl)⟩
  · by_cases e : j = m
    · subst e
      have hc := h.cells j hj
      have : ∃ u, c.cell? ⟨b, o + j, none⟩ = some u := ⟨_, hc.trans (List.getElem?_eq_getElem (by rw [h.len]; exact hj))⟩
      obtain ⟨u, hu⟩ := this
      rw [World.cell?_setCell_same _ _ _ hu, List.getElem?_set_self (by rw [h.len]; exact hj)]
    · rw [World.cell?_setCell_other _ _ _ _ (fun q => by have := congrArg Addr.off q; simp only at this; omega), h.cells j hj, List.getElem?_set_ne (by omega)]
  · rw [World.cell?_setCell_other _ _ _ _ (fun e => by have := congrArg Addr.off e; simp only at this; omega)]
    exact h.others q hq
theorem RowAt.call {w c c' : World} {b o n : Nat} {cs : List Value} {blk g : List Nat} (h : RowAt w c b o n cs blk) (e : Ext (fun q => q ∈ g) c c') (hg : ∀ q ∈ g, q ∈ blk) (hb : b ∉ g) : RowAt w c' b o n cs blk := by
  have hh := e.block b h.lt hb
  exact ⟨h.len, fun m hm => (cell_of_heap hh _).trans (h.cells m hm), fun q hq => (cell_of_heap hh _).trans (h.others q hq), fun q => (frozen_of_heap hh _).trans (h.soft q), Nat.lt_of_lt_of_le h.lt e.size, h.ext.trans (e.mono fun q _ hq => Or.inr (hg q hq))⟩

namespace Lay
variable {α : Type} {A : Lay α} {w : World}

/-- Element k of data of one's own: its cells, its own data; and what holds when it has been written anew. -/
theorem own_upd {xs : List α} {b off cap k n : Nat} {bl : List Nat} (h : (sl A).Own w [.slice (some ⟨b, off, none⟩) n cap] xs bl) (hk : k < xs.length) :
    ∃ row blk, RowAt w w b (off + k * A.n) A.n row blk ∧ A.Own w row xs[k] blk ∧ b ∉ blk ∧
      (∀ c, (b = c ∨ c ∈ blk) → c ∈ bl) ∧ ∀ w' row' x', RowAt w w' b (off + k * A.n) A.n row' blk → A.Own w' row' x' blk → (sl A).Own w' [.slice (some ⟨b, off, none⟩) n cap] (xs.set k x') bl := by
  obtain ⟨⟨ao, cp, e, hsz, hl⟩, hnd, hf⟩ := h
  simp only [List.cons.injEq, Value.slice.injEq, and_true] at e
  obtain ⟨rfl, rfl, rfl⟩ := e
  rcases hl with ⟨rfl, -⟩ | ⟨b', off', rows, bls, e2, hb, rfl, hr, hbl, hj⟩
  · simp at hk
  simp only [Option.some.injEq, Addr.mk.injEq, and_true] at e2
  obtain ⟨rfl, rfl⟩ := e2
  have hk1 : k < rows.length := by omega
  have hk2 : k < bls.length := by omega
  obtain ⟨hc, hlie⟩ := hj k hk hk1 hk2
  rw [List.nodup_cons] at hnd
  have hmem : ∀ c ∈ bls[k], c ∈ bls.flatten := fun c hc => List.mem_flatten.2 ⟨_, List.getElem_mem _, hc⟩
  have hb0 : b ∉ bls[k] := fun hm => hnd.1 (hmem b hm)
  have hfl := nodup_flat hnd.2
  refine ⟨rows[k], bls[k], ⟨A.len hlie, hc, fun _ _ => rfl, fun q => hf b (by simp) q, hb, Ext.refl _ _⟩, ⟨hlie, hfl.1 _ (List.getElem_mem _), fun c hm => hf c (by simp [hmem c hm])⟩, hb0, ?_, ?_⟩
  · rintro c (rfl | hm)
    · simp
    · simp [hmem c hm]
  · intro w' row' x' hR hO
    have hkeep : ∀ c, c < w.heap.size → c ≠ b → c ∉ bls[k] → w'.heap[c]? = w.heap[c]? := fun c hlt h1 h2 => hR.ext.block c hlt (by rintro (h | h); exact h1 h; exact h2 h)
    have hother : ∀ j (h1 : j < bls.length), j ≠ k → ∀ c ∈ bls[j], c ≠ b ∧ c ∉ bls[k] := by
      intro j h1 hne c hm
      refine ⟨fun e => hnd.1 (e ▸ List.mem_flatten.2 ⟨_, List.getElem_mem h1, hm⟩), fun hm2 => ?_⟩
      exact hfl.2 j k h1 hk2 hne c hm hm2
    refine ⟨⟨some ⟨b, off, none⟩, cap, by simp, by simpa using hsz, Or.inr ⟨b, off, rows.set k row', bls, rfl, hR.lt, rfl, by simpa using hr, by simpa using hbl, fun j h1 h2 h3 => ?_⟩⟩, ?_, ?_⟩
    · have h1' : j < xs.length := by simpa using h1
      have h2' : j < rows.length := by simpa using h2
      by_cases e : j = k
      · subst e
        rw [List.getElem_set_self, List.getElem_set_self]
        exact ⟨hR.cells, hO.1⟩
      · rw [List.getElem_set_ne (by omega), List.getElem_set_ne (by omega)]
        obtain ⟨c1, c2⟩ := hj j h1' h2' h3
        refine ⟨fun m hm => ?_, A.keep c2 fun c hm => hkeep c (A.lt c2 c hm) (hother j h3 e c hm).1 (hother j h3 e c hm).2⟩
        rw [hR.others _ ?_]
        · exact c1 m hm
        · rcases Nat.lt_or_ge j k with h | h
          · left
            have : (j + 1) * A.n ≤ k * A.n := Nat.mul_le_mul_right _ h
            rw [Nat.add_mul] at this
            omega
          · right
            have : (k + 1) * A.n ≤ j * A.n := Nat.mul_le_mul_right _ (by omega)
            rw [Nat.add_mul] at this
            omega
    · rw [List.nodup_cons]
      exact hnd
    · intro c hm o
      rcases List.mem_cons.1 hm with rfl | hm
      · exact hR.soft o
      · obtain ⟨l, hl1, hl2⟩ := List.mem_flatten.1 hm
        obtain ⟨j, hjl, rfl⟩ := List.getElem_of_mem hl1
        by_cases e : j = k
        · subst e
          exact hO.2.2 c hl2 o
        · obtain ⟨c1, c2⟩ := hj j (by omega) (by omega) hjl
          rw [frozen_of_heap (hkeep c (A.lt c2 c hl2) (hother j hjl e c hl2).1 (hother j hjl e c hl2).2) o]
          exact hf c (List.mem_cons_of_mem _ hm) o
end Lay

/-! ### Lists that are marked one element behind the other -/
theorem mkAll_at {α : Type} (c : α → Nat) (m : Int → α → α) (k : Int) (xs : List α) (j : Nat) (hj : j < xs.length) (hj2 : j < (mkAll c m k xs).length) : (mkAll c m k xs)[j] = m (k + (cntAll c (xs.take j) : Nat)) xs[j] := by
  induction xs generalizing k j with
  | nil => simp at hj
  | cons x xs ih =>
    match j with
    | 0 => simp [mkAll, cntAll]
    | j + 1 =>
      have := ih (k + c x) j (by simpa using hj) (by simpa [mkAll] using hj2)
      simp only [mkAll, List.getElem_cons_succ, List.take_succ_cons, cntAll]
      rw [this]
      congr 1
      omega
theorem mkAll_size {α : Type} (c : α → Nat) (m : Int → α → α) (k : Int) (xs : List α) : (mkAll c m k xs).length = xs.length := by
  induction xs generalizing k with
  | nil => rfl
  | cons x xs ih => simp [mkAll, ih]
/-- The first j marked, the others as they were. -/
def mkPre {α : Type} (c : α → Nat) (m : Int → α → α) (k : Int) (xs : List α) (j : Nat) : List α := (mkAll c m k xs).take j ++ xs.drop j
theorem mkPre_len {α : Type} (c : α → Nat) (m : Int → α → α) (k : Int) (xs : List α) (j : Nat) (hj : j ≤ xs.length) : (mkPre c m k xs j).length = xs.length := by
  simp [mkPre, mkAll_size]; omega
theorem mkPre_get {α : Type} (c : α → Nat) (m : Int → α → α) (k : Int) (xs : List α) (j : Nat) (hj : j < xs.length) (h2 : j < (mkPre c m k xs j).length) : (mkPre c m k xs j)[j] = xs[j] := by
  have e : (mkPre c m k xs j)[j]? = xs[j]? := by
    rw [mkPre, List.getElem?_append_right (by simp [mkAll_size]; omega)]
    simp [mkAll_size, Nat.min_eq_left (Nat.le_of_lt hj)]
  rw [List.getElem?_eq_getElem h2, List.getElem?_eq_getElem hj] at e
  exact Option.some.inj e
theorem mkPre_set {α : Type} (c : α → Nat) (m : Int → α → α) (k : Int) (xs : List α) (j : Nat) (hj : j < xs.length) : (mkPre c m k xs j).set j (m (k + (cntAll c (xs.take j) : Nat)) xs[j]) = mkPre c m k xs (j + 1) := by
  have hl : ((mkAll c m k xs).take j).length = j := by simp [mkAll_size]; omega
  unfold mkPre
  rw [List.set_append_right _ _ (by omega), hl, Nat.sub_self, List.drop_eq_getElem_cons hj, List.set_cons_zero, List.take_succ_eq_append_getElem (by rw [mkAll_size]; exact hj), mkAll_at c m k xs j hj]
  simp
theorem mkPre_zero {α : Type} (c : α → Nat) (m : Int → α → α) (k : Int) (xs : List α) : mkPre c m k xs 0 = xs := by simp [mkPre]
theorem mkPre_all {α : Type} (c : α → Nat) (m : Int → α → α) (k : Int) (xs : List α) : mkPre c m k xs xs.length = mkAll c m k xs := by
  unfold mkPre
  rw [List.drop_length, List.append_nil, List.take_of_length_le (by rw [mkAll_size]; exact Nat.le_refl _)]
end Go.Proofs.Yteekfapjfpkidaa
