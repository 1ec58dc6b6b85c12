/-
  A row of structs of the call's own that grows by append, each struct with lists behind it: small laws.
  No condition.
-/
import Derived.Test.YteekfapjfpkidaaLayRow
import Derived.Deep.AppendLies
namespace Go.Proofs.Yteekfapjfpkidaa
open Go.RowKit

/-- The slice v holds the data xs, row by row; the blocks behind them are bls; the row's own block is none of them. -/
structure Grow {α : Type} (A : Lay α) (w : World) (base T : Nat) (v : Value) (rows : List (List Value)) (xs : List α) (bls : List (List Nat)) : Prop where
  own : w.ownsRow base T A.n v xs.length rows.flatten
  nrows : rows.length = xs.length
  nbls : bls.length = xs.length
  lies : ∀ j (h1 : j < xs.length) (h2 : j < rows.length) (h3 : j < bls.length), A.lies w rows[j] xs[j] bls[j]
  off : ∀ b ∈ bls.flatten, v.ownBlock ≠ some b

namespace Grow
variable {α : Type} {A : Lay α} {w w' : World} {base T : Nat} {v : Value} {rows : List (List Value)} {xs : List α} {bls : List (List Nat)}

theorem nil (h : w.ownsRow base T A.n v 0 []) : Grow A w base T v [] [] [] := ⟨h, rfl, rfl, fun j h1 => by simp at h1, by simp⟩
theorem sub_lt (h : Grow A w base T v rows xs bls) : ∀ b ∈ bls.flatten, b < w.heap.size := by
  intro b hb
  obtain ⟨l, h1, h2⟩ := List.mem_flatten.1 hb
  obtain ⟨j, hj, rfl⟩ := List.getElem_of_mem h1
  exact A.lt (h.lies j (by have := h.nbls; omega) (by have := h.nbls; have := h.nrows; omega) hj) b h2
theorem kept (h : Grow A w base T v rows xs bls) (ho : w'.ownsRow base T A.n v xs.length rows.flatten) (hk : ∀ b ∈ bls.flatten, w'.heap[b]? = w.heap[b]?) : Grow A w' base T v rows xs bls :=
  ⟨ho, h.nrows, h.nbls, fun j h1 h2 h3 => A.keep (h.lies j h1 h2 h3) fun b hb => hk b (List.mem_flatten.2 ⟨_, List.getElem_mem _, hb⟩), h.off⟩
theorem later (h : Grow A w base T v rows xs bls) (hb : Below w.heap.size w w') : Grow A w' base T v rows xs bls :=
  h.kept (own_below h.own hb) fun b hm => hb.block b (h.sub_lt b hm)
/-- One more. -/
theorem snoc (h : Grow A w base T v rows xs bls) {row : List Value} {x : α} {bl : List Nat} (hl : A.lies w row x bl) (hb : ∀ b ∈ bl, v.ownBlock ≠ some b) {g cap : Nat}
    (ho : w'.ownsRow base T A.n (.slice (some ⟨g, 0, none⟩) (xs.length + 1) cap) (xs.length + 1) (rows.flatten ++ row)) (hg : w.grownBy w' v.ownBlock) (hor : v.ownBlock = some g ∨ w.heap.size ≤ g) :
    Grow A w' base T (.slice (some ⟨g, 0, none⟩) (xs.length + 1) cap) (rows ++ [row]) (xs ++ [x]) (bls ++ [bl]) := by
  have hlt := h.sub_lt
  have hbl := A.lt hl
  have hk : ∀ b ∈ bls.flatten, w'.heap[b]? = w.heap[b]? := fun b hm => hg.block b (hlt b hm) (fun e => h.off b hm e.symm)
  have hk2 : ∀ b ∈ bl, w'.heap[b]? = w.heap[b]? := fun b hm => hg.block b (hbl b hm) (fun e => hb b hm e.symm)
  refine ⟨by simpa using ho, by simp [h.nrows], by simp [h.nbls], fun j h1 h2 h3 => ?_, ?_⟩
  · by_cases hj : j < xs.length
    · have e := h.lies j hj (by have := h.nrows; omega) (by have := h.nbls; omega)
      rw [List.getElem_append_left (by have := h.nrows; omega), List.getElem_append_left hj, List.getElem_append_left (by have := h.nbls; omega)]
      exact A.keep e fun b hm => hk b (List.mem_flatten.2 ⟨_, List.getElem_mem _, hm⟩)
    · obtain rfl : j = xs.length := by simp at h1; omega
      rw [List.getElem_append_right (by have := h.nrows; omega), List.getElem_append_right (by omega), List.getElem_append_right (by have := h.nbls; omega)]
      simpa using A.keep hl hk2
  · intro b hm e
    have e1 : b = g := by simpa [Value.ownBlock] using e.symm
    rw [List.flatten_append] at hm
    rcases hor with ho1 | ho1
    · rcases List.mem_append.1 hm with hm | hm
      · exact h.off b hm (by rw [ho1, e1])
      · exact hb b (by simpa using hm) (by rw [ho1, e1])
    · rcases List.mem_append.1 hm with hm | hm
      · have := hlt b hm; omega
      · have := hbl b (by simpa using hm); omega
theorem form (h : Grow A w base T v rows xs bls) : (v = .slice none 0 0 ∧ xs = []) ∨ ∃ g cap, v = .slice (some ⟨g, 0, none⟩) xs.length cap ∧ base ≤ g ∧ g < w.heap.size ∧ xs.length ≤ cap := by
  rcases h.own.2 with ⟨rfl, h0⟩ | ⟨g, cap, cur, rfl, hg, hh, hcap, _⟩
  · exact Or.inl ⟨rfl, List.eq_nil_of_length_eq_zero h0⟩
  · exact Or.inr ⟨g, cap, rfl, hg, lt_of_block hh, hcap⟩
theorem row_len (h : Grow A w base T v rows xs bls) : ∀ r ∈ rows, r.length = A.n := by
  intro r hm
  obtain ⟨j, hj, rfl⟩ := List.getElem_of_mem hm
  exact A.len (h.lies j (by have := h.nrows; omega) hj (by have := h.nrows; have := h.nbls; omega))
theorem flat_len (h : Grow A w base T v rows xs bls) : rows.flatten.length = xs.length * A.n := h.own.1
/-- It can be read. -/
theorem reads (h : Grow A w base T v rows xs bls) (hn : xs.length ≤ 9223372036854775807) : (Lay.sl A).lies w [v] xs (match v with | .slice (some a) _ _ => if xs = [] then [] else a.block :: bls.flatten | _ => []) ∨ xs = [] ∧ (Lay.sl A).lies w [v] xs [] := by
  rcases h.form with ⟨rfl, rfl⟩ | ⟨g, cap, rfl, hg, hgl, hcap⟩
  · exact Or.inr ⟨rfl, ⟨none, 0, rfl, ⟨by simp, hn⟩, Or.inl ⟨rfl, rfl⟩⟩⟩
  · by_cases h0 : xs = []
    · subst h0
      exact Or.inr ⟨rfl, ⟨_, cap, rfl, ⟨hcap, hn⟩, Or.inl ⟨rfl, rfl⟩⟩⟩
    · left
      simp only [if_neg h0]
      refine ⟨_, cap, rfl, ⟨hcap, hn⟩, Or.inr ⟨g, 0, rows, bls, rfl, hgl, rfl, h.nrows, h.nbls, fun j h1 h2 h3 => ⟨fun m hm => ?_, h.lies j h1 h2 h3⟩⟩⟩
      rw [Nat.zero_add, h.own.cellAt (j * A.n + m) (by
        have := h.flat_len
        have : (j + 1) * A.n ≤ xs.length * A.n := Nat.mul_le_mul_right _ (by omega)
        rw [Nat.add_mul] at this
        omega)]
      exact Lay.flat_at h.row_len j m h2 hm
theorem toReads (h : Grow A w base T v rows xs bls) (hn : xs.length ≤ 9223372036854775807) : (Lay.sl A).Reads w [v] xs := by
  rcases h.reads hn with h | ⟨-, h⟩
  · exact ⟨_, h⟩
  · exact ⟨_, h⟩
/-- It is data of the call's own, if what lies behind it is. -/
theorem toOwn (h : Grow A w base T v rows xs bls) (hn : xs.length ≤ 9223372036854775807) (hnd : bls.flatten.Nodup) (hs : ∀ b ∈ bls.flatten, base ≤ b ∧ ∀ o, w.frozen? ⟨b, o, none⟩ = false) : (Lay.sl A).OwnIn w [v] xs base w.heap.size := by
  have hr := h.reads hn
  rcases h.form with ⟨rfl, rfl⟩ | ⟨g, cap, rfl, hg, hgl, hcap⟩
  · exact ⟨[], ⟨⟨none, 0, rfl, ⟨by simp, hn⟩, Or.inl ⟨rfl, rfl⟩⟩, by simp, by simp⟩, by simp⟩
  · by_cases h0 : xs = []
    · subst h0
      exact ⟨[], ⟨⟨_, cap, rfl, ⟨hcap, hn⟩, Or.inl ⟨rfl, rfl⟩⟩, by simp, by simp⟩, by simp⟩
    · simp only [if_neg h0] at hr
      rcases hr with hr | ⟨h1, -⟩
      · refine ⟨_, ⟨hr, ?_, ?_⟩, ?_⟩
        · rw [List.nodup_cons]
          exact ⟨fun hm => h.off g hm rfl, hnd⟩
        · intro b hm o
          rcases List.mem_cons.1 hm with rfl | hm
          · exact h.own.frozenAt o
          · exact (hs b hm).2 o
        · intro b hm
          rcases List.mem_cons.1 hm with rfl | hm
          · exact ⟨hg, hgl⟩
          · exact ⟨(hs b hm).1, h.sub_lt b hm⟩
      · exact absurd h1 h0
/-- It lies in the call's own blocks, if what lies behind it does. -/
theorem toLies (h : Grow A w base T v rows xs bls) (hn : xs.length ≤ 9223372036854775807) (hs : ∀ b ∈ bls.flatten, base ≤ b) : (Lay.sl A).LiesIn w [v] xs base w.heap.size := by
  have hr := h.reads hn
  rcases h.form with ⟨rfl, rfl⟩ | ⟨g, cap, rfl, hg, hgl, hcap⟩
  · exact ⟨[], ⟨none, 0, rfl, ⟨by simp, hn⟩, Or.inl ⟨rfl, rfl⟩⟩, by simp⟩
  · by_cases h0 : xs = []
    · subst h0
      exact ⟨[], ⟨_, cap, rfl, ⟨hcap, hn⟩, Or.inl ⟨rfl, rfl⟩⟩, by simp⟩
    · simp only [if_neg h0] at hr
      rcases hr with hr | ⟨h1, -⟩
      · refine ⟨_, hr, fun b hm => ?_⟩
        rcases List.mem_cons.1 hm with rfl | hm
        · exact ⟨hg, hgl⟩
        · exact ⟨hs b hm, h.sub_lt b hm⟩
      · exact absurd h1 h0
end Grow

end Go.Proofs.Yteekfapjfpkidaa
