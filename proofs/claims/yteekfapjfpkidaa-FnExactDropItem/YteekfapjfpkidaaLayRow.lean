/-
  A row of structs that a loop fills, one behind the other, each with lists of its own: small laws.
  No condition.
-/
import Derived.Test.YteekfapjfpkidaaLay
import Derived.Test.YteekfapjfpkidaaLayLaw
namespace Go.Proofs.Yteekfapjfpkidaa
open Go.RowKit

/-- What szT tells: what is left, or -1. -/
def szR (l n : Nat) : Int := if n ≤ l then ((l - n : Nat) : Int) else -1
theorem szR_ok {l n : Nat} (h : n ≤ l) : szR l n = ((l - n : Nat) : Int) := if_pos h
theorem szR_many {l n : Nat} (h : l < n) : szR l n = -1 := if_neg (by omega)

/-! ### The parts of a struct, each in blocks of its own -/
namespace Lay
variable {α β : Type} {A : Lay α} {B : Lay β} {w w' : World}
theorem ownIn_int {z : Int} {lo hi : Nat} (h : (Lit.int .i64 z).wf = true) : Lay.int.OwnIn w [.int .i64 z] z lo hi := ⟨[], ⟨⟨rfl, h, rfl⟩, by simp, by simp⟩, by simp⟩
theorem ownIn_bool {b : Bool} {lo hi : Nat} : Lay.bool.OwnIn w [.bool b] b lo hi := ⟨[], ⟨⟨rfl, rfl⟩, by simp, by simp⟩, by simp⟩
theorem ownIn_str {s : ByteArray} {lo hi : Nat} : Lay.str.OwnIn w [.string s] s lo hi := ⟨[], ⟨⟨rfl, rfl⟩, by simp, by simp⟩, by simp⟩
theorem ownIn_pair {c1 c2 : List Value} {x : α} {y : β} {lo m m' hi : Nat} (h : A.OwnIn w c1 x lo m) (k : B.OwnIn w c2 y m' hi) (hm : m ≤ m') (hlo : lo ≤ m') (hhi : m ≤ hi) : (Lay.pair A B).OwnIn w (c1 ++ c2) (x, y) lo hi := by
  obtain ⟨b1, ⟨l1, n1, f1⟩, i1⟩ := h
  obtain ⟨b2, ⟨l2, n2, f2⟩, i2⟩ := k
  refine ⟨b1 ++ b2, ⟨⟨c1, c2, b1, b2, rfl, rfl, l1, l2⟩, ?_, ?_⟩, ?_⟩
  · rw [List.nodup_append]
    exact ⟨n1, n2, fun a ha b hb e => by have := i1 a ha; have := i2 b hb; omega⟩
  · intro b hb
    rcases List.mem_append.1 hb with h | h
    · exact f1 b h
    · exact f2 b h
  · intro b hb
    rcases List.mem_append.1 hb with h | h
    · have := i1 b h; omega
    · have := i2 b h; omega
theorem ownIn_via {f : β → α} {g : α → β} {cs : List Value} {x : β} {lo hi : Nat} (h : A.OwnIn w cs (f x) lo hi) : (Lay.via A f g).OwnIn w cs x lo hi := h

/-- An answer of one's own. -/
theorem toldOwn {w : World} {cs : List Value} {x : α} {lo hi : Nat} (own : A.OwnIn w' cs x lo hi) (hlo : w.heap.size ≤ lo) (hhi : hi ≤ w'.heap.size) (hb : Below w.heap.size w w') :
    ∃ cs', Ending.returned (.agg cs.toArray) = .returned (.agg cs'.toArray) ∧ A.OwnIn w' cs' x w.heap.size w'.heap.size ∧ Below w.heap.size w w' := ⟨cs, rfl, own.mono hlo hhi, hb⟩

/-- The rows' own data. -/
def Subs (A : Lay α) (w : World) (rows : List (List Value)) (xs : List α) (lo hi : Nat) : Prop :=
  ∃ bls : List (List Nat), rows.length = xs.length ∧ bls.length = xs.length ∧ (∀ j (h1 : j < xs.length) (h2 : j < rows.length) (h3 : j < bls.length), A.lies w rows[j] xs[j] bls[j]) ∧
    bls.flatten.Nodup ∧ (∀ b ∈ bls.flatten, lo ≤ b ∧ b < hi) ∧ ∀ b ∈ bls.flatten, ∀ o, w.frozen? ⟨b, o, none⟩ = false
theorem subs_nil {lo hi : Nat} : Subs A w [] [] lo hi := ⟨[], rfl, rfl, fun j h => by simp at h, by simp, by simp, by simp⟩
theorem subs_snoc {rows : List (List Value)} {xs : List α} {row : List Value} {x : α} {lo hi lo' hi' : Nat} (h : Subs A w rows xs lo hi) (k : A.OwnIn w row x lo' hi') (h1 : hi ≤ lo') (h2 : lo ≤ lo') (h3 : hi ≤ hi') : Subs A w (rows ++ [row]) (xs ++ [x]) lo hi' := by
  obtain ⟨bls, hr, hb, hl, hn, hi, hf⟩ := h
  obtain ⟨bl, ⟨l, n, f⟩, i⟩ := k
  refine ⟨bls ++ [bl], by simp [hr], by simp [hb], fun j j1 j2 j3 => ?_, ?_, ?_, ?_⟩
  · by_cases hj : j < xs.length
    · have e := hl j hj (by omega) (by omega)
      rw [List.getElem_append_left (by omega), List.getElem_append_left hj, List.getElem_append_left (by omega)]
      exact e
    · obtain rfl : j = xs.length := by simp at j1; omega
      rw [List.getElem_append_right (by omega), List.getElem_append_right (by omega), List.getElem_append_right (by omega)]
      simpa using l
  · rw [List.flatten_append, List.nodup_append]
    refine ⟨hn, by simpa using n, fun a ha b hb e => ?_⟩
    have := hi a ha
    have := i b (by simpa using hb)
    omega
  · intro b hb
    rw [List.flatten_append] at hb
    rcases List.mem_append.1 hb with h | h
    · have := hi b h; omega
    · have := i b (by simpa using h); omega
  · intro b hb
    rw [List.flatten_append] at hb
    rcases List.mem_append.1 hb with h | h
    · exact hf b h
    · exact f b (by simpa using h)
theorem subs_ext {rows : List (List Value)} {xs : List α} {lo hi : Nat} {S : Nat → Prop} (h : Subs A w rows xs lo hi) (e : Ext S w w') (hs : ∀ k, lo ≤ k → k < hi → ¬ S k) : Subs A w' rows xs lo hi := by
  obtain ⟨bls, hr, hb, hl, hn, hi, hf⟩ := h
  have hlt : ∀ b ∈ bls.flatten, b < w.heap.size := by
    intro b hm
    obtain ⟨l, h1, h2⟩ := List.mem_flatten.1 hm
    obtain ⟨j, hj, rfl⟩ := List.getElem_of_mem h1
    exact A.lt (hl j (by omega) (by omega) hj) b h2
  have hk : ∀ b ∈ bls.flatten, w'.heap[b]? = w.heap[b]? := fun b hm => e.block b (hlt b hm) (hs b (hi b hm).1 (hi b hm).2)
  exact ⟨bls, hr, hb, fun j h1 h2 h3 => A.keep (hl j h1 h2 h3) fun b hm => hk b (List.mem_flatten.2 ⟨_, List.getElem_mem _, hm⟩), hn, hi, fun b hm o => (frozen_of_heap (hk b hm) o).trans (hf b hm o)⟩
theorem subs_len {rows : List (List Value)} {xs : List α} {lo hi : Nat} (h : Subs A w rows xs lo hi) : rows.flatten.length = xs.length * A.n ∧ rows.length = xs.length := by
  obtain ⟨bls, hr, hb, hl, -⟩ := h
  refine ⟨?_, hr⟩
  rw [← hr]
  have : ∀ r ∈ rows, r.length = A.n := by
    intro r hm
    obtain ⟨j, hj, rfl⟩ := List.getElem_of_mem hm
    exact A.len (hl j (by omega) hj (by omega))
  clear hr hb hl
  induction rows with
  | nil => simp
  | cons r rows ih =>
    rw [List.flatten_cons, List.length_append, this r (by simp), ih fun q hq => this q (List.mem_cons_of_mem _ hq), List.length_cons, Nat.add_mul]
    omega

theorem flat_at {rows : List (List Value)} {n : Nat} (h : ∀ r ∈ rows, r.length = n) (j m : Nat) (hj : j < rows.length) (hm : m < n) : rows.flatten[j * n + m]? = rows[j][m]? := by
  induction rows generalizing j with
  | nil => simp at hj
  | cons r rows ih =>
    have hr := h r (by simp)
    rw [List.flatten_cons]
    match j with
    | 0 =>
      rw [List.getElem?_append_left (by omega)]
      simp
    | j + 1 =>
      rw [List.getElem?_append_right (by rw [hr, Nat.add_mul]; omega), hr, show (j + 1) * n + m - n = j * n + m by rw [Nat.add_mul]; omega]
      rw [ih (fun q hq => h q (List.mem_cons_of_mem _ hq)) j (by simpa using hj)]
      simp

/-- The row is full: it is data of the call's own. -/
theorem subs_done {rows : List (List Value)} {xs : List α} {base T g cap lo hi : Nat} (hown : w.ownsRow base T A.n (.slice (some ⟨g, 0, none⟩) xs.length cap) xs.length rows.flatten) (h : Subs A w rows xs lo hi) (hg : g < lo) (hhi : hi ≤ w.heap.size) (hn : xs.length ≤ 9223372036854775807) :
    (sl A).OwnIn w [.slice (some ⟨g, 0, none⟩) xs.length cap] xs base w.heap.size := by
  obtain ⟨bls, hr, hb, hl, hnd, hi', hf⟩ := h
  have hlg := hown.lt g rfl
  have hle : ∀ r ∈ rows, r.length = A.n := by
    intro r hm
    obtain ⟨j, hj, rfl⟩ := List.getElem_of_mem hm
    exact A.len (hl j (by omega) hj (by omega))
  have hcap : xs.length ≤ cap := by
    rcases hown.2 with ⟨e, -⟩ | ⟨g', cap', cur, e, -, -, hc, -⟩
    · simp at e
    · simp only [Value.slice.injEq] at e
      obtain ⟨-, -, rfl⟩ := e
      exact hc
  by_cases h0 : xs = []
  · subst h0
    exact ⟨[], ⟨⟨_, _, rfl, ⟨hcap, hn⟩, Or.inl ⟨rfl, rfl⟩⟩, by simp, by simp⟩, by simp⟩
  · refine ⟨g :: bls.flatten, ⟨⟨_, _, rfl, ⟨hcap, hn⟩, Or.inr ⟨g, 0, rows, bls, rfl, hlg.2, rfl, hr, hb, fun j h1 h2 h3 => ⟨fun m hm => ?_, hl j h1 h2 h3⟩⟩⟩, ?_, ?_⟩, ?_⟩
    · rw [Nat.zero_add, hown.cellAt (j * A.n + m) (by
        have : (j + 1) * A.n ≤ xs.length * A.n := Nat.mul_le_mul_right _ (by omega)
        rw [Nat.add_mul] at this
        omega)]
      exact flat_at hle j m h2 hm
    · rw [List.nodup_cons]
      exact ⟨fun hm => by have := hi' g hm; omega, hnd⟩
    · intro b hm o
      rcases List.mem_cons.1 hm with rfl | hm
      · exact hown.frozenAt o
      · exact hf b hm o
    · intro b hm
      rcases List.mem_cons.1 hm with rfl | hm
      · exact hlg
      · have := hi' b hm; omega

/-- Element k of a slice, cell by cell. -/
theorem row_at {xs : List α} {b off cap k : Nat} (h : (sl A).Reads w [.slice (some ⟨b, off, none⟩) xs.length cap] xs) (hk : k < xs.length) : ∃ row, (∀ m, m < A.n → w.cell? ⟨b, off + k * A.n + m, none⟩ = row[m]?) ∧ A.Reads w row xs[k] := by
  obtain ⟨bl, ao, cp, e, -, h⟩ := h
  simp only [List.cons.injEq, Value.slice.injEq, and_true] at e
  obtain ⟨rfl, -, rfl⟩ := e
  rcases h with ⟨rfl, -⟩ | ⟨b', off', rows, bls, e2, hb, rfl, hr, hl, hj⟩
  · simp at hk
  · simp only [Option.some.injEq, Addr.mk.injEq, and_true] at e2
    obtain ⟨rfl, rfl⟩ := e2
    exact ⟨_, (hj k hk (by omega) (by omega)).1, ⟨_, (hj k hk (by omega) (by omega)).2⟩⟩
theorem sl_addr {xs : List α} {ao : Option Addr} {n cap : Nat} (h : (sl A).Reads w [.slice ao n cap] xs) (hp : 0 < xs.length) : ∃ b off, ao = some ⟨b, off, none⟩ ∧ b < w.heap.size := by
  obtain ⟨bl, ao', cp, e, -, h⟩ := h
  simp only [List.cons.injEq, Value.slice.injEq, and_true] at e
  obtain ⟨rfl, -, rfl⟩ := e
  rcases h with ⟨rfl, -⟩ | ⟨b', off', rows, bls, e2, hb, rfl, hr, hl, hj⟩
  · simp at hp
  · exact ⟨b', off', e2, hb⟩
theorem sz_elem {xs : List α} {k : Nat} (hk : k < xs.length) : A.sz xs[k] ≤ (sl A).sz xs := by
  show A.sz xs[k] ≤ xs.length + cntAll A.sz xs
  have : A.sz xs[k] ≤ cntAll A.sz xs := by
    induction xs generalizing k with
    | nil => simp at hk
    | cons x xs ih =>
      match k with
      | 0 => simp [cntAll]
      | k + 1 =>
        have := ih (k := k) (by simpa using hk)
        simp only [cntAll, List.getElem_cons_succ]
        omega
  omega
theorem sz_len {xs : List α} : xs.length ≤ (sl A).sz xs := Nat.le_add_right _ _
theorem cntAll_take {f : α → Nat} {xs : List α} {k : Nat} (hk : k < xs.length) : cntAll f (xs.take (k + 1)) = cntAll f (xs.take k) + f xs[k] := by
  induction xs generalizing k with
  | nil => simp at hk
  | cons x xs ih =>
    match k with
    | 0 => simp [cntAll]
    | k + 1 =>
      have := ih (k := k) (by simpa using hk)
      simp only [List.take_succ_cons, cntAll, List.getElem_cons_succ]
      omega
theorem cntAll_take_le {f : α → Nat} {xs : List α} {k : Nat} : cntAll f (xs.take k) ≤ cntAll f xs := by
  induction xs generalizing k with
  | nil => simp
  | cons x xs ih =>
    match k with
    | 0 => simp [cntAll]
    | k + 1 =>
      have := ih (k := k)
      simp only [List.take_succ_cons, cntAll]
      omega
end Lay

/-! ### Cells that are stored one behind the other into a row -/
def setFrom (xs : List Value) : Nat → List Value → List Value
  | _, [] => xs
  | i, v :: vs => setFrom (xs.set i v) (i + 1) vs
theorem setFrom_app (P Q vs : List Value) (h : vs.length ≤ Q.length) : setFrom (P ++ Q) P.length vs = P ++ vs ++ Q.drop vs.length := by
  induction vs generalizing P Q with
  | nil => simp [setFrom]
  | cons v vs ih =>
    match Q, h with
    | q :: Q, h =>
      rw [setFrom, List.set_append_right _ _ (Nat.le_refl _), Nat.sub_self, List.set_cons_zero]
      have := ih (P ++ [v]) Q (by simpa using h)
      simp only [List.length_append, List.length_cons, List.length_nil, Nat.zero_add] at this
      rw [show P ++ v :: Q = P ++ [v] ++ Q by simp, this]
      simp
theorem own_setAll {w : World} {base e size g n cap : Nat} {xs : List Value} (h : w.ownsRow base e size (.slice (some ⟨g, 0, none⟩) n cap) n xs) (i : Nat) (vs : List Value) : (setAll w g i vs).ownsRow base e size (.slice (some ⟨g, 0, none⟩) n cap) n (setFrom xs i vs) := by
  induction vs generalizing w i xs with
  | nil => exact h
  | cons v vs ih => exact ih (h.stored i v).1 (i + 1)
end Go.Proofs.Yteekfapjfpkidaa
