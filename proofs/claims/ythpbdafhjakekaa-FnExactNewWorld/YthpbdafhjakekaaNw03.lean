/-
  Texts of this proof in one: HitGround, LayEntry, LayWorld, LayWorldResult, Info, Ints, LayInt, EqChain, EqWrite, EqWriteS, EqNode.
  Their conditions stand in their theorems.
-/
import Derived.Test.YthpbdafhjakekaaNw01
import Derived.Maps.AppendAt
import Derived.Deep.AppendLies
import Derived.Test.YthpbdafhjakekaaNw02
import Derived.Test.YthpbdafhjakekaaChecked
import Derived.WalkKit
import Derived.BigQuiet
import Derived.Deep.QuietTactic
import Derived.WalkSmall
import Derived.Deep.RegionHeld3

namespace Go.Proofs.Ythpbdafhjakekaa
open Go.RowKit

/-- The cells of hits. -/
def cells2 : List (Int × Int) → List Value
  | [] => []
  | h :: r => .int .i64 h.1 :: .int .i64 h.2 :: cells2 r
theorem cells2_len (hs : List (Int × Int)) : (cells2 hs).length = hs.length * 2 := by
  induction hs with
  | nil => rfl
  | cons h r ih => simp [cells2, ih]; omega
theorem cells2_app (a b : List (Int × Int)) : cells2 (a ++ b) = cells2 a ++ cells2 b := by
  induction a with
  | nil => rfl
  | cons h r ih => simp [cells2, ih]
theorem cells2_take (hs : List (Int × Int)) (k : Nat) : (cells2 hs).take (k * 2) = cells2 (hs.take k) := by
  induction hs generalizing k with
  | nil => simp [cells2]
  | cons h r ih =>
    cases k with
    | zero => simp [cells2]
    | succ k => simp [cells2, ih, Nat.add_mul]
theorem cells2_at (hs : List (Int × Int)) (j : Nat) (x y : Int) (h : hs[j]? = some (x, y)) : (cells2 hs)[j * 2]? = some (.int .i64 x) ∧ (cells2 hs)[j * 2 + 1]? = some (.int .i64 y) := by
  induction hs generalizing j with
  | nil => simp at h
  | cons p r ih =>
    cases j with
    | zero =>
      simp at h
      subst h
      simp [cells2]
    | succ j =>
      have := ih j (by simpa using h)
      simpa [cells2, Nat.add_mul] using this
theorem cells2_one (hs : List (Int × Int)) : ∀ u ∈ cells2 hs, u.oneCell' = true := by
  induction hs with
  | nil => simp [cells2]
  | cons h r ih =>
    intro u hu
    simp [cells2] at hu
    rcases hu with rfl | rfl | hu
    · rfl
    · rfl
    · exact ih u hu
theorem cells2_get (hs : List (Int × Int)) (j : Nat) (u : Value) (h : (cells2 hs)[j]? = some u) : ∃ k x y, hs[k]? = some (x, y) ∧ ((j = k * 2 ∧ u = .int .i64 x) ∨ (j = k * 2 + 1 ∧ u = .int .i64 y)) := by
  induction hs generalizing j with
  | nil => simp [cells2] at h
  | cons p r ih =>
    match j with
    | 0 =>
      simp [cells2] at h
      exact ⟨0, p.1, p.2, by simp, Or.inl ⟨rfl, h.symm⟩⟩
    | 1 =>
      simp [cells2] at h
      exact ⟨0, p.1, p.2, by simp, Or.inr ⟨rfl, h.symm⟩⟩
    | j + 2 =>
      obtain ⟨k, x, y, h1, h2⟩ := ih j (by simpa [cells2] using h)
      refine ⟨k + 1, x, y, by simpa using h1, ?_⟩
      rcases h2 with ⟨h2, h3⟩ | ⟨h2, h3⟩
      · exact Or.inl ⟨by omega, h3⟩
      · exact Or.inr ⟨by omega, h3⟩

/-- Both numbers are int64. -/
def Wf2 (h : Int × Int) : Prop := (Lit.int .i64 h.1).wf = true ∧ (Lit.int .i64 h.2).wf = true
theorem Wf2.bd {x y : Int} (h : Wf2 (x, y)) : (-9223372036854775808 ≤ x ∧ x ≤ 9223372036854775807) ∧ (-9223372036854775808 ≤ y ∧ y ≤ 9223372036854775807) := by
  simpa [Wf2, Lit.wf, IntKind.min, IntKind.max, IntKind.signed, IntKind.bits] using h

/-- The slice v holds the hits hs. -/
def IsHits (w : World) (v : Value) (hs : List (Int × Int)) : Prop :=
  ∃ ao cap, v = .slice ao hs.length cap ∧ hs.length ≤ cap ∧ (cap ≤ maxLen ∧ (ao = none → cap = 0)) ∧ (∀ h ∈ hs, Wf2 h) ∧
    (0 < hs.length → ∃ b off, ao = some ⟨b, off, none⟩ ∧ ∀ j x y, hs[j]? = some (x, y) → w.cell? ⟨b, off + j * 2, none⟩ = some (.int .i64 x) ∧ w.cell? ⟨b, off + j * 2 + 1, none⟩ = some (.int .i64 y))

theorem IsHits.wf {w : World} {v : Value} {hs : List (Int × Int)} (h : IsHits w v hs) : ∀ p ∈ hs, Wf2 p := by
  obtain ⟨_, _, _, _, _, hwf, _⟩ := h
  exact hwf
theorem IsHits.later {w w' : World} {v : Value} {hs : List (Int × Int)} (h : IsHits w v hs) (hb : Below w.heap.size w w') : IsHits w' v hs := by
  obtain ⟨ao, cap, rfl, h1, h2, hwf, hc⟩ := h
  refine ⟨ao, cap, rfl, h1, h2, hwf, fun hp => ?_⟩
  obtain ⟨b, off, hao, hc1⟩ := hc hp
  exact ⟨b, off, hao, fun j x y hj => ⟨cell_keep hb (hc1 j x y hj).1, cell_keep hb (hc1 j x y hj).2⟩⟩

/-- Whatever owns a row of hits holds them. -/
theorem isHits_row {w : World} {base T : Nat} {v : Value} {hs : List (Int × Int)} (hwf : ∀ p ∈ hs, Wf2 p)
    (h : w.ownsRow base T 2 v hs.length (cells2 hs)) : IsHits w v hs := by
  rcases h.2 with ⟨rfl, h0⟩ | ⟨g, cap, cur, rfl, _, _, h1, h2, _⟩
  · have : hs = [] := List.eq_nil_of_length_eq_zero h0
    subst this
    exact ⟨none, 0, rfl, by simp, ⟨Nat.zero_le _, fun _ => rfl⟩, by simp, by simp⟩
  · refine ⟨_, _, rfl, h1, ⟨h2, by simp⟩, hwf, fun hp => ⟨g, 0, rfl, fun j x y hj => ?_⟩⟩
    have hj2 : j < hs.length := by
      rcases Nat.lt_or_ge j hs.length with h | h
      · exact h
      · rw [List.getElem?_eq_none h] at hj; cases hj
    have := cells2_at hs j x y hj
    rw [Nat.zero_add, h.cellAt (j * 2) (by omega), h.cellAt (j * 2 + 1) (by omega)]
    exact this

theorem IsHits.take {w : World} {ao : Option Addr} {n cap : Nat} {hs : List (Int × Int)} (h : IsHits w (.slice ao n cap) hs) (k : Nat) (hk : k ≤ n) : IsHits w (.slice ao k cap) (hs.take k) := by
  obtain ⟨ao', cap', he, h1, h2, hwf, hc⟩ := h
  simp only [Value.slice.injEq] at he
  obtain ⟨rfl, rfl, rfl⟩ := he
  have hl : (hs.take k).length = k := by simp; omega
  refine ⟨ao, cap, by rw [hl], by omega, h2, fun p hp => hwf p (List.mem_of_mem_take hp), fun hp => ?_⟩
  obtain ⟨b, off, hao, hc1⟩ := hc (by omega)
  refine ⟨b, off, hao, fun j x y hj => hc1 j x y ?_⟩
  rw [List.getElem?_take] at hj
  split at hj
  · exact hj
  · cases hj
theorem IsHits.drop {w : World} {b off n cap : Nat} {hs : List (Int × Int)} (h : IsHits w (.slice (some ⟨b, off, none⟩) n cap) hs) (k : Nat) (hk : k ≤ n) (o2 : Nat) (ho : k < n → o2 = off + k * 2) : IsHits w (.slice (some ⟨b, o2, none⟩) (n - k) (cap - k)) (hs.drop k) := by
  obtain ⟨ao', cap', he, h1, h2, hwf, hc⟩ := h
  simp only [Value.slice.injEq] at he
  obtain ⟨rfl, rfl, rfl⟩ := he
  refine ⟨_, _, by rw [List.length_drop], by rw [List.length_drop]; omega, ⟨by omega, by simp⟩, fun p hp => hwf p (List.mem_of_mem_drop hp), fun hp => ?_⟩
  rw [List.length_drop] at hp
  obtain ⟨b', off', hao, hc1⟩ := hc (by omega)
  simp only [Option.some.injEq, Addr.mk.injEq, and_true] at hao
  obtain ⟨rfl, rfl⟩ := hao
  have ho2 := ho (by omega)
  subst ho2
  refine ⟨b, _, rfl, fun j x y hj => ?_⟩
  have := hc1 (k + j) x y (by simpa [List.getElem?_drop] using hj)
  rw [show off + k * 2 + j * 2 = off + (k + j) * 2 by omega]
  exact this

/-- The cells that append reads. -/
theorem IsHits.news {w : World} {b off n cap : Nat} {hs : List (Int × Int)} (h : IsHits w (.slice (some ⟨b, off, none⟩) n cap) hs) : ∀ j u, (cells2 hs)[j]? = some u → w.cell? ((⟨b, off, none⟩ : Addr).add j) = some u := by
  intro j u hj
  obtain ⟨k, x, y, h1, h2⟩ := cells2_get hs j u hj
  obtain ⟨ao', cap', he, h3, h4, hwf, hc⟩ := h
  simp only [Value.slice.injEq] at he
  obtain ⟨rfl, rfl, rfl⟩ := he
  have hk : k < hs.length := by
    rcases Nat.lt_or_ge k hs.length with h | h
    · exact h
    · rw [List.getElem?_eq_none h] at h1; cases h1
  obtain ⟨b', off', hao, hc1⟩ := hc (by omega)
  simp only [Option.some.injEq, Addr.mk.injEq, and_true] at hao
  obtain ⟨rfl, rfl⟩ := hao
  have hadd : (⟨b, off, none⟩ : Addr).add j = ⟨b, off + j, none⟩ := Addr.add_lit _ _ _
  rw [hadd]
  have := hc1 k x y h1
  rcases h2 with ⟨rfl, rfl⟩ | ⟨rfl, rfl⟩
  · exact this.1
  · exact this.2

end Go.Proofs.Ythpbdafhjakekaa

namespace Go.Proofs.Ythpbdafhjakekaa

/-- A hit is (id, score): the lower score is better, then the lower id. -/
def bet (a b : Int × Int) : Bool := decide (a.2 < b.2) || (decide (a.2 = b.2) && decide (a.1 < b.1))
theorem bet_iff (a b : Int × Int) : bet a b = true ↔ a.2 < b.2 ∨ (a.2 = b.2 ∧ a.1 < b.1) := by simp [bet]
theorem bet_irrefl (a : Int × Int) : bet a a = false := by simp [bet]
theorem bet_trans {a b c : Int × Int} (h : bet a b = true) (k : bet b c = true) : bet a c = true := by
  rw [bet_iff] at *
  omega
theorem bet_asymm {a b : Int × Int} (h : bet a b = true) : bet b a = false := by
  cases k : bet b a with
  | false => rfl
  | true =>
    have := bet_trans h k
    rw [bet_irrefl] at this
    cases this
theorem bet_total {a b : Int × Int} (h : bet a b = false) (hne : a ≠ b) : bet b a = true := by
  rw [bet_iff]
  have h1 : ¬ (a.2 < b.2 ∨ (a.2 = b.2 ∧ a.1 < b.1)) := by rw [← bet_iff, h]; simp
  have h2 : ¬ (a.1 = b.1 ∧ a.2 = b.2) := fun ⟨e1, e2⟩ => hne (Prod.ext e1 e2)
  omega

/-- The id and the score are in their ranges. -/
def oneB (h : Int × Int) : Bool := (decide (1 ≤ h.1) && decide (h.1 ≤ 999)) && (decide (0 ≤ h.2) && decide (h.2 ≤ 12000000))

/-- What is wrong with a list of hits behind p. -/
def faultFrom : Option (Int × Int) → List (Int × Int) → Int
  | _, [] => 0
  | p, h :: r => if oneB h then (if p.all (bet · h) then faultFrom (some h) r else 1) else 3
def hitsFault (hs : List (Int × Int)) : Int := if 20 < hs.length then 2 else faultFrom none hs
/-- The hit ahead of place k. -/
def ahead (hs : List (Int × Int)) (k : Nat) : Option (Int × Int) := if k = 0 then none else hs[k - 1]?

def Sorted (hs : List (Int × Int)) : Prop := hs.Pairwise (fun a b => bet a b = true)

theorem faultFrom_zero {p : Option (Int × Int)} {hs : List (Int × Int)} (h : faultFrom p hs = 0) : (∀ x ∈ hs, oneB x = true) ∧ Sorted hs ∧ ∀ q, p = some q → ∀ x ∈ hs, bet q x = true := by
  induction hs generalizing p with
  | nil => exact ⟨by simp, List.Pairwise.nil, by simp⟩
  | cons a r ih =>
    unfold faultFrom at h
    split at h
    · next h1 =>
      split at h
      · next h2 =>
        obtain ⟨i1, i2, i3⟩ := ih h
        refine ⟨fun x hx => ?_, List.Pairwise.cons (fun x hx => i3 a rfl x hx) i2, fun q hq x hx => ?_⟩
        · rcases List.mem_cons.1 hx with rfl | hx
          · exact h1
          · exact i1 x hx
        · subst hq
          simp at h2
          rcases List.mem_cons.1 hx with rfl | hx
          · exact h2
          · exact bet_trans h2 (i3 a rfl x hx)
      · simp at h
    · simp at h
theorem hitsFault_zero {hs : List (Int × Int)} (h : hitsFault hs = 0) : hs.length ≤ 20 ∧ (∀ x ∈ hs, oneB x = true) ∧ Sorted hs := by
  unfold hitsFault at h
  split at h
  · simp at h
  · next hl =>
    obtain ⟨h1, h2, _⟩ := faultFrom_zero h
    exact ⟨by omega, h1, h2⟩
theorem hitsFault_of {hs : List (Int × Int)} (hl : hs.length ≤ 20) (h1 : ∀ x ∈ hs, oneB x = true) (h2 : Sorted hs) : hitsFault hs = 0 := by
  have key : ∀ (hs : List (Int × Int)) (p : Option (Int × Int)), (∀ x ∈ hs, oneB x = true) → Sorted hs → (∀ q, p = some q → ∀ x ∈ hs, bet q x = true) → faultFrom p hs = 0 := by
    intro hs
    induction hs with
    | nil => intros; rfl
    | cons a r ih =>
      intro p h1 h2 h3
      unfold faultFrom
      rw [if_pos (h1 a (by simp)), if_pos]
      · exact ih (some a) (fun x hx => h1 x (by simp [hx])) h2.of_cons (fun q hq x hx => by cases hq; exact List.rel_of_pairwise_cons h2 hx)
      · cases p with
        | none => rfl
        | some q => simpa using h3 q rfl a (by simp)
  unfold hitsFault
  rw [if_neg (by omega)]
  exact key hs none h1 h2 (by simp)

/-- A hit put into a list. -/
def ins : List (Int × Int) → Int × Int → List (Int × Int)
  | [], h => [h]
  | x :: r, h => if bet x h then x :: ins r h else if x = h then x :: r else h :: x :: r
theorem ins_mem {hs : List (Int × Int)} {h x : Int × Int} : x ∈ ins hs h ↔ x = h ∨ x ∈ hs := by
  induction hs with
  | nil => simp [ins]
  | cons a r ih =>
    unfold ins
    split
    · simp [ih]
      constructor
      · rintro (h | h | h) <;> simp [h]
      · rintro (h | h | h) <;> simp [h]
    · split
      · next e => subst e; simp
      · simp
theorem ins_sorted {hs : List (Int × Int)} (hs1 : Sorted hs) (h : Int × Int) : Sorted (ins hs h) := by
  induction hs with
  | nil => exact List.pairwise_singleton _ _
  | cons a r ih =>
    unfold ins
    split
    · next h1 =>
      refine List.Pairwise.cons (fun x hx => ?_) (ih hs1.of_cons)
      rcases ins_mem.1 hx with rfl | hx
      · exact h1
      · exact List.rel_of_pairwise_cons hs1 hx
    · next h1 =>
      split
      · exact hs1
      · next h2 =>
        have h3 := bet_total (by simpa using h1) h2
        refine List.Pairwise.cons (fun x hx => ?_) hs1
        rcases List.mem_cons.1 hx with rfl | hx
        · exact h3
        · exact bet_trans h3 (List.rel_of_pairwise_cons hs1 hx)
theorem ins_len (hs : List (Int × Int)) (h : Int × Int) : (ins hs h).length ≤ hs.length + 1 := by
  induction hs with
  | nil => simp [ins]
  | cons a r ih =>
    unfold ins
    split
    · simp; omega
    · split <;> simp

/-- Two lists in order with the same members are the same. -/
theorem sorted_ext {a b : List (Int × Int)} (ha : Sorted a) (hb : Sorted b) (h : ∀ x, x ∈ a ↔ x ∈ b) : a = b := by
  induction a generalizing b with
  | nil =>
    cases b with
    | nil => rfl
    | cons y s => exact absurd ((h y).2 (by simp)) (by simp)
  | cons x r ih =>
    cases b with
    | nil => exact absurd ((h x).1 (by simp)) (by simp)
    | cons y s =>
      have hxy : x = y := by
        rcases List.mem_cons.1 ((h x).1 (by simp)) with e | hx
        · exact e
        · rcases List.mem_cons.1 ((h y).2 (by simp)) with e | hy
          · exact e.symm
          · have h1 := List.rel_of_pairwise_cons ha hy
            have h2 := List.rel_of_pairwise_cons hb hx
            rw [bet_asymm h1] at h2
            cases h2
      subst hxy
      congr 1
      refine ih ha.of_cons hb.of_cons (fun z => ?_)
      constructor
      · intro hz
        rcases List.mem_cons.1 ((h z).1 (by simp [hz])) with e | hz2
        · subst e
          have := List.rel_of_pairwise_cons ha hz
          rw [bet_irrefl] at this
          cases this
        · exact hz2
      · intro hz
        rcases List.mem_cons.1 ((h z).2 (by simp [hz])) with e | hz2
        · subst e
          have := List.rel_of_pairwise_cons hb hz
          rw [bet_irrefl] at this
          cases this
        · exact hz2

/-- All hits of a list, in order. -/
def allOf (hs : List (Int × Int)) : List (Int × Int) := hs.foldl ins []
theorem foldl_sorted {a : List (Int × Int)} (ha : Sorted a) (hs : List (Int × Int)) : Sorted (hs.foldl ins a) := by
  induction hs generalizing a with
  | nil => exact ha
  | cons h r ih => exact ih (ins_sorted ha h)
theorem foldl_mem {a hs : List (Int × Int)} {x : Int × Int} : x ∈ hs.foldl ins a ↔ x ∈ a ∨ x ∈ hs := by
  induction hs generalizing a with
  | nil => simp
  | cons h r ih =>
    simp only [List.foldl_cons, ih, ins_mem, List.mem_cons]
    constructor
    · rintro ((h | h) | h) <;> simp [h]
    · rintro (h | h | h) <;> simp [h]
theorem allOf_sorted (hs : List (Int × Int)) : Sorted (allOf hs) := foldl_sorted List.Pairwise.nil hs
theorem allOf_mem {hs : List (Int × Int)} {x : Int × Int} : x ∈ allOf hs ↔ x ∈ hs := by simp [allOf, foldl_mem]
theorem allOf_of_sorted {hs : List (Int × Int)} (h : Sorted hs) : allOf hs = hs := sorted_ext (allOf_sorted hs) h (fun _ => allOf_mem)
theorem ins_allOf (hs : List (Int × Int)) (h : Int × Int) : ins (allOf hs) h = allOf (hs ++ [h]) := by simp [allOf, List.foldl_append]

/-- Cut to k ahead or behind: the first k are the same. -/
theorem ins_take {hs : List (Int × Int)} (h : Int × Int) (k : Nat) : (ins (hs.take k) h).take k = (ins hs h).take k := by
  induction hs generalizing k with
  | nil => simp
  | cons a r ih =>
    cases k with
    | zero => simp
    | succ k =>
      simp only [List.take_succ_cons]
      unfold ins
      split
      · simp [ih]
      · split
        · simp [List.take_take]
        · cases k with
          | zero => simp
          | succ k => simp [List.take_take]; try omega

/-- The best k of a list, as they are reckoned one by one. -/
def best (k : Nat) (hs : List (Int × Int)) : List (Int × Int) := hs.foldl (fun out h => (ins out h).take k) []
theorem best_eq (k : Nat) (hs : List (Int × Int)) : best k hs = (allOf hs).take k := by
  have key : ∀ (hs a : List (Int × Int)), hs.foldl (fun out h => (ins out h).take k) (a.take k) = (hs.foldl ins a).take k := by
    intro hs
    induction hs with
    | nil => intro a; rfl
    | cons h r ih =>
      intro a
      simp only [List.foldl_cons]
      rw [ins_take, ih]
  have := key hs []
  simpa [best, allOf] using this
theorem best_sorted (k : Nat) (hs : List (Int × Int)) : Sorted (best k hs) := by
  rw [best_eq]
  exact (allOf_sorted hs).sublist (List.take_sublist _ _)
theorem best_mem {k : Nat} {hs : List (Int × Int)} {x : Int × Int} (h : x ∈ best k hs) : x ∈ hs := by
  rw [best_eq] at h
  exact allOf_mem.1 (List.mem_of_mem_take h)
theorem best_len (k : Nat) (hs : List (Int × Int)) : (best k hs).length ≤ k := by
  rw [best_eq]
  simp
  omega
theorem allOf_congr {a b : List (Int × Int)} (h : ∀ x, x ∈ a ↔ x ∈ b) : allOf a = allOf b := sorted_ext (allOf_sorted a) (allOf_sorted b) (fun x => by rw [allOf_mem, allOf_mem, h])
theorem best_congr (k : Nat) {a b : List (Int × Int)} (h : ∀ x, x ∈ a ↔ x ∈ b) : best k a = best k b := by rw [best_eq, best_eq, allOf_congr h]

end Go.Proofs.Ythpbdafhjakekaa

namespace Go.Proofs.Ythpbdafhjakekaa
open Go.RowKit

structure DHit where
  id : Int
  score : Int

def Lay.tHit : Lay DHit := Lay.via (Lay.pair Lay.int Lay.int) (fun x => (x.id, x.score)) (fun p => ⟨p.1, p.2⟩)

theorem lies_Hit {w : World} {cs : List Value} {x : DHit} {bl : List Nat} : Lay.tHit.lies w cs x bl ↔ cs = [.int .i64 x.id, .int .i64 x.score] ∧ bl = [] ∧ (Lit.int .i64 x.id).wf = true ∧ (Lit.int .i64 x.score).wf = true := by
  constructor
  · intro h
    obtain ⟨c0_, r0_, e0_, s0_, rfl, rfl, h0, h1⟩ := h
    obtain ⟨rfl, w0, rfl⟩ := h0
    obtain ⟨rfl, w1, rfl⟩ := h1
    exact ⟨by simp, by simp, w0, w1⟩
  · rintro ⟨rfl, hbl, w0, w1⟩
    rw [hbl]
    exact ⟨[.int .i64 x.id], [.int .i64 x.score], [], [], rfl, by simp, ⟨rfl, w0, rfl⟩, ⟨rfl, w1, rfl⟩⟩

end Go.Proofs.Ythpbdafhjakekaa

namespace Go.Proofs.Ythpbdafhjakekaa
open Go.RowKit

structure DHitsResult where
  code : Int
  hits : List DHit

def Lay.tHitsResult : Lay DHitsResult := Lay.via (Lay.pair Lay.int (Lay.sl Lay.tHit)) (fun x => (x.code, x.hits)) (fun p => ⟨p.1, p.2⟩)

theorem lies_HitsResult {w : World} {cs : List Value} {x : DHitsResult} {bl : List Nat} : Lay.tHitsResult.lies w cs x bl ↔ ∃ (a1 : Option Addr) (d1 : Nat) (b1 : List Nat), cs = [.int .i64 x.code, .slice a1 x.hits.length d1] ∧ bl = b1 ∧ (Lit.int .i64 x.code).wf = true ∧ (Lay.sl Lay.tHit).lies w [.slice a1 x.hits.length d1] x.hits b1 := by
  constructor
  · intro h
    obtain ⟨c0_, r0_, e0_, s0_, rfl, rfl, h0, h1⟩ := h
    obtain ⟨rfl, w0, rfl⟩ := h0
    have k1 := h1
    obtain ⟨a1, d1, rfl, -⟩ := k1
    exact ⟨a1, d1, s0_, by simp, by simp, w0, h1⟩
  · rintro ⟨a1, d1, b1, rfl, hbl, w0, l1⟩
    rw [hbl]
    exact ⟨[.int .i64 x.code], [.slice a1 x.hits.length d1], [], b1, rfl, by simp, ⟨rfl, w0, rfl⟩, l1⟩

theorem open_HitsResult {w : World} {cs : List Value} {x : DHitsResult} (h : Lay.tHitsResult.Reads w cs x) : ∃ (a1 : Option Addr) (d1 : Nat), cs = [.int .i64 x.code, .slice a1 x.hits.length d1] ∧ (Lay.sl Lay.tHit).Reads w [.slice a1 x.hits.length d1] x.hits := by
  obtain ⟨bl, h⟩ := h
  obtain ⟨a1, d1, b1, rfl, -, w0, l1⟩ := lies_HitsResult.1 h
  exact ⟨a1, d1, rfl, ⟨_, l1⟩⟩

end Go.Proofs.Ythpbdafhjakekaa

namespace Go.Proofs.Ythpbdafhjakekaa
open Go.RowKit

theorem vcnt_HitsResult (x : DHitsResult) : Lay.tHitsResult.vcnt x = (Lay.sl Lay.tHit).vcnt x.hits := by
  show 0 + ((Lay.sl Lay.tHit).vcnt x.hits) = (Lay.sl Lay.tHit).vcnt x.hits
  omega
theorem mkv_HitsResult (k : Int) (x : DHitsResult) : Lay.tHitsResult.mkv k x = ⟨x.code, (Lay.sl Lay.tHit).mkv (k) x.hits⟩ := by
  simp [Lay.tHitsResult, Lay.via, Lay.pair, Lay.int]
theorem own_HitsResult {w : World} {cs : List Value} {x : DHitsResult} {bl : List Nat} (h : Lay.tHitsResult.Own w cs x bl) : ∃ (a1 : Option Addr) (d1 : Nat) (g1 : List Nat), cs = [.int .i64 x.code, .slice a1 x.hits.length d1] ∧ bl = g1 ∧ (Lay.sl Lay.tHit).Own w [.slice a1 x.hits.length d1] x.hits g1 ∧ (Lit.int .i64 x.code).wf = true := by
  obtain ⟨hl, hn, hf⟩ := h
  obtain ⟨a1, d1, b1, rfl, hbl, w0, l1⟩ := lies_HitsResult.1 hl
  rw [hbl] at hn hf
  exact ⟨a1, d1, b1, rfl, hbl, ⟨l1, hn, hf⟩, w0⟩
theorem mkOwn_HitsResult {w : World} {x : DHitsResult} {c1 : List Value} {g1 : List Nat} (O1 : (Lay.sl Lay.tHit).Own w c1 x.hits g1) (v0 : (Lit.int .i64 x.code).wf = true) (hn : (g1).Nodup) : Lay.tHitsResult.Own w ([.int .i64 x.code] ++ c1) x (g1) := by
  refine ⟨⟨[.int .i64 x.code], c1, [], g1, rfl, by simp, ⟨rfl, v0, rfl⟩, O1.1⟩, hn, ?_⟩
  intro b hb o
  exact O1.2.2 b hb o

end Go.Proofs.Ythpbdafhjakekaa

namespace Go.Proofs.Ythpbdafhjakekaa
open Go.RowKit

structure DEntry where
  kind : Int
  session : Int
  seq : Int
  id : Int
  query : List Int
  k : Int
  start : Int
  fin : Int
  place : Int
  vec : List Int
  hits : List DHit

def Lay.tEntry : Lay DEntry := Lay.via (Lay.pair Lay.int (Lay.pair Lay.int (Lay.pair Lay.int (Lay.pair Lay.int (Lay.pair (Lay.sl Lay.int) (Lay.pair Lay.int (Lay.pair Lay.int (Lay.pair Lay.int (Lay.pair Lay.int (Lay.pair (Lay.sl Lay.int) (Lay.sl Lay.tHit))))))))))) (fun x => (x.kind, x.session, x.seq, x.id, x.query, x.k, x.start, x.fin, x.place, x.vec, x.hits)) (fun p => ⟨p.1, p.2.1, p.2.2.1, p.2.2.2.1, p.2.2.2.2.1, p.2.2.2.2.2.1, p.2.2.2.2.2.2.1, p.2.2.2.2.2.2.2.1, p.2.2.2.2.2.2.2.2.1, p.2.2.2.2.2.2.2.2.2.1, p.2.2.2.2.2.2.2.2.2.2⟩)

theorem lies_Entry {w : World} {cs : List Value} {x : DEntry} {bl : List Nat} : Lay.tEntry.lies w cs x bl ↔ ∃ (a4 : Option Addr) (d4 : Nat) (b4 : List Nat) (a9 : Option Addr) (d9 : Nat) (b9 : List Nat) (a10 : Option Addr) (d10 : Nat) (b10 : List Nat), cs = [.int .i64 x.kind, .int .i64 x.session, .int .i64 x.seq, .int .i64 x.id, .slice a4 x.query.length d4, .int .i64 x.k, .int .i64 x.start, .int .i64 x.fin, .int .i64 x.place, .slice a9 x.vec.length d9, .slice a10 x.hits.length d10] ∧ bl = b4 ++ (b9 ++ b10) ∧ (Lit.int .i64 x.kind).wf = true ∧ (Lit.int .i64 x.session).wf = true ∧ (Lit.int .i64 x.seq).wf = true ∧ (Lit.int .i64 x.id).wf = true ∧ (Lay.sl Lay.int).lies w [.slice a4 x.query.length d4] x.query b4 ∧ (Lit.int .i64 x.k).wf = true ∧ (Lit.int .i64 x.start).wf = true ∧ (Lit.int .i64 x.fin).wf = true ∧ (Lit.int .i64 x.place).wf = true ∧ (Lay.sl Lay.int).lies w [.slice a9 x.vec.length d9] x.vec b9 ∧ (Lay.sl Lay.tHit).lies w [.slice a10 x.hits.length d10] x.hits b10 := by
  constructor
  · intro h
    obtain ⟨c0_, r0_, e0_, s0_, rfl, rfl, h0, ⟨c1_, r1_, e1_, s1_, rfl, rfl, h1, ⟨c2_, r2_, e2_, s2_, rfl, rfl, h2, ⟨c3_, r3_, e3_, s3_, rfl, rfl, h3, ⟨c4_, r4_, e4_, s4_, rfl, rfl, h4, ⟨c5_, r5_, e5_, s5_, rfl, rfl, h5, ⟨c6_, r6_, e6_, s6_, rfl, rfl, h6, ⟨c7_, r7_, e7_, s7_, rfl, rfl, h7, ⟨c8_, r8_, e8_, s8_, rfl, rfl, h8, ⟨c9_, r9_, e9_, s9_, rfl, rfl, h9, h10⟩⟩⟩⟩⟩⟩⟩⟩⟩⟩ := h
    obtain ⟨rfl, w0, rfl⟩ := h0
    obtain ⟨rfl, w1, rfl⟩ := h1
    obtain ⟨rfl, w2, rfl⟩ := h2
    obtain ⟨rfl, w3, rfl⟩ := h3
    have k4 := h4
    obtain ⟨a4, d4, rfl, -⟩ := k4
    obtain ⟨rfl, w5, rfl⟩ := h5
    obtain ⟨rfl, w6, rfl⟩ := h6
    obtain ⟨rfl, w7, rfl⟩ := h7
    obtain ⟨rfl, w8, rfl⟩ := h8
    have k9 := h9
    obtain ⟨a9, d9, rfl, -⟩ := k9
    have k10 := h10
    obtain ⟨a10, d10, rfl, -⟩ := k10
    exact ⟨a4, d4, e4_, a9, d9, e9_, a10, d10, s9_, by simp, by simp, w0, w1, w2, w3, h4, w5, w6, w7, w8, h9, h10⟩
  · rintro ⟨a4, d4, b4, a9, d9, b9, a10, d10, b10, rfl, hbl, w0, w1, w2, w3, l4, w5, w6, w7, w8, l9, l10⟩
    rw [hbl]
    exact ⟨[.int .i64 x.kind], [.int .i64 x.session] ++ ([.int .i64 x.seq] ++ ([.int .i64 x.id] ++ ([.slice a4 x.query.length d4] ++ ([.int .i64 x.k] ++ ([.int .i64 x.start] ++ ([.int .i64 x.fin] ++ ([.int .i64 x.place] ++ ([.slice a9 x.vec.length d9] ++ [.slice a10 x.hits.length d10])))))))), [], [] ++ ([] ++ ([] ++ (b4 ++ ([] ++ ([] ++ ([] ++ ([] ++ (b9 ++ (b10))))))))), rfl, by simp, ⟨rfl, w0, rfl⟩, ⟨[.int .i64 x.session], [.int .i64 x.seq] ++ ([.int .i64 x.id] ++ ([.slice a4 x.query.length d4] ++ ([.int .i64 x.k] ++ ([.int .i64 x.start] ++ ([.int .i64 x.fin] ++ ([.int .i64 x.place] ++ ([.slice a9 x.vec.length d9] ++ [.slice a10 x.hits.length d10]))))))), [], [] ++ ([] ++ (b4 ++ ([] ++ ([] ++ ([] ++ ([] ++ (b9 ++ (b10)))))))), rfl, by simp, ⟨rfl, w1, rfl⟩, ⟨[.int .i64 x.seq], [.int .i64 x.id] ++ ([.slice a4 x.query.length d4] ++ ([.int .i64 x.k] ++ ([.int .i64 x.start] ++ ([.int .i64 x.fin] ++ ([.int .i64 x.place] ++ ([.slice a9 x.vec.length d9] ++ [.slice a10 x.hits.length d10])))))), [], [] ++ (b4 ++ ([] ++ ([] ++ ([] ++ ([] ++ (b9 ++ (b10))))))), rfl, by simp, ⟨rfl, w2, rfl⟩, ⟨[.int .i64 x.id], [.slice a4 x.query.length d4] ++ ([.int .i64 x.k] ++ ([.int .i64 x.start] ++ ([.int .i64 x.fin] ++ ([.int .i64 x.place] ++ ([.slice a9 x.vec.length d9] ++ [.slice a10 x.hits.length d10]))))), [], b4 ++ ([] ++ ([] ++ ([] ++ ([] ++ (b9 ++ (b10)))))), rfl, by simp, ⟨rfl, w3, rfl⟩, ⟨[.slice a4 x.query.length d4], [.int .i64 x.k] ++ ([.int .i64 x.start] ++ ([.int .i64 x.fin] ++ ([.int .i64 x.place] ++ ([.slice a9 x.vec.length d9] ++ [.slice a10 x.hits.length d10])))), b4, [] ++ ([] ++ ([] ++ ([] ++ (b9 ++ (b10))))), rfl, by simp, l4, ⟨[.int .i64 x.k], [.int .i64 x.start] ++ ([.int .i64 x.fin] ++ ([.int .i64 x.place] ++ ([.slice a9 x.vec.length d9] ++ [.slice a10 x.hits.length d10]))), [], [] ++ ([] ++ ([] ++ (b9 ++ (b10)))), rfl, by simp, ⟨rfl, w5, rfl⟩, ⟨[.int .i64 x.start], [.int .i64 x.fin] ++ ([.int .i64 x.place] ++ ([.slice a9 x.vec.length d9] ++ [.slice a10 x.hits.length d10])), [], [] ++ ([] ++ (b9 ++ (b10))), rfl, by simp, ⟨rfl, w6, rfl⟩, ⟨[.int .i64 x.fin], [.int .i64 x.place] ++ ([.slice a9 x.vec.length d9] ++ [.slice a10 x.hits.length d10]), [], [] ++ (b9 ++ (b10)), rfl, by simp, ⟨rfl, w7, rfl⟩, ⟨[.int .i64 x.place], [.slice a9 x.vec.length d9] ++ [.slice a10 x.hits.length d10], [], b9 ++ (b10), rfl, by simp, ⟨rfl, w8, rfl⟩, ⟨[.slice a9 x.vec.length d9], [.slice a10 x.hits.length d10], b9, b10, rfl, by simp, l9, l10⟩⟩⟩⟩⟩⟩⟩⟩⟩⟩

theorem open_Entry {w : World} {cs : List Value} {x : DEntry} (h : Lay.tEntry.Reads w cs x) : ∃ (a4 : Option Addr) (d4 : Nat) (a9 : Option Addr) (d9 : Nat) (a10 : Option Addr) (d10 : Nat), cs = [.int .i64 x.kind, .int .i64 x.session, .int .i64 x.seq, .int .i64 x.id, .slice a4 x.query.length d4, .int .i64 x.k, .int .i64 x.start, .int .i64 x.fin, .int .i64 x.place, .slice a9 x.vec.length d9, .slice a10 x.hits.length d10] ∧ (Lay.sl Lay.int).Reads w [.slice a4 x.query.length d4] x.query ∧ (Lay.sl Lay.int).Reads w [.slice a9 x.vec.length d9] x.vec ∧ (Lay.sl Lay.tHit).Reads w [.slice a10 x.hits.length d10] x.hits := by
  obtain ⟨bl, h⟩ := h
  obtain ⟨a4, d4, b4, a9, d9, b9, a10, d10, b10, rfl, -, w0, w1, w2, w3, l4, w5, w6, w7, w8, l9, l10⟩ := lies_Entry.1 h
  exact ⟨a4, d4, a9, d9, a10, d10, rfl, ⟨_, l4⟩, ⟨_, l9⟩, ⟨_, l10⟩⟩

end Go.Proofs.Ythpbdafhjakekaa

namespace Go.Proofs.Ythpbdafhjakekaa
open Go.RowKit

structure DWorld where
  now : Int
  events : Int
  chain : DChain
  nodes : List DNode
  msgs : List DMsg
  history : List DEntry

def Lay.tWorld : Lay DWorld := Lay.via (Lay.pair Lay.int (Lay.pair Lay.int (Lay.pair Lay.tChain (Lay.pair (Lay.sl Lay.tNode) (Lay.pair (Lay.sl Lay.tMsg) (Lay.sl Lay.tEntry)))))) (fun x => (x.now, x.events, x.chain, x.nodes, x.msgs, x.history)) (fun p => ⟨p.1, p.2.1, p.2.2.1, p.2.2.2.1, p.2.2.2.2.1, p.2.2.2.2.2⟩)

theorem lies_World {w : World} {cs : List Value} {x : DWorld} {bl : List Nat} : Lay.tWorld.lies w cs x bl ↔ ∃ (a3 : Option Addr) (d3 : Nat) (b3 : List Nat) (a4 : Option Addr) (d4 : Nat) (b4 : List Nat) (a5 : Option Addr) (d5 : Nat) (b5 : List Nat) (a6 : Option Addr) (d6 : Nat) (b6 : List Nat), cs = [.int .i64 x.now, .int .i64 x.events, .int .i64 x.chain.epoch, .slice a3 x.chain.ids.length d3, .slice a4 x.nodes.length d4, .slice a5 x.msgs.length d5, .slice a6 x.history.length d6] ∧ bl = b3 ++ (b4 ++ (b5 ++ b6)) ∧ (Lit.int .i64 x.now).wf = true ∧ (Lit.int .i64 x.events).wf = true ∧ (Lit.int .i64 x.chain.epoch).wf = true ∧ (Lay.sl Lay.int).lies w [.slice a3 x.chain.ids.length d3] x.chain.ids b3 ∧ (Lay.sl Lay.tNode).lies w [.slice a4 x.nodes.length d4] x.nodes b4 ∧ (Lay.sl Lay.tMsg).lies w [.slice a5 x.msgs.length d5] x.msgs b5 ∧ (Lay.sl Lay.tEntry).lies w [.slice a6 x.history.length d6] x.history b6 := by
  constructor
  · intro h
    obtain ⟨c0_, r0_, e0_, s0_, rfl, rfl, h0, ⟨c1_, r1_, e1_, s1_, rfl, rfl, h1, ⟨c2_, r2_, e2_, s2_, rfl, rfl, h2, ⟨c3_, r3_, e3_, s3_, rfl, rfl, h3, ⟨c4_, r4_, e4_, s4_, rfl, rfl, h4, h5⟩⟩⟩⟩⟩ := h
    obtain ⟨rfl, w0, rfl⟩ := h0
    obtain ⟨rfl, w1, rfl⟩ := h1
    obtain ⟨a3, d3, q3, rfl, hq2, w2, l3⟩ := lies_Chain.1 h2
    have k4 := h3
    obtain ⟨a4, d4, rfl, -⟩ := k4
    have k5 := h4
    obtain ⟨a5, d5, rfl, -⟩ := k5
    have k6 := h5
    obtain ⟨a6, d6, rfl, -⟩ := k6
    exact ⟨a3, d3, q3, a4, d4, e3_, a5, d5, e4_, a6, d6, s4_, by simp, by simp [hq2], w0, w1, w2, l3, h3, h4, h5⟩
  · rintro ⟨a3, d3, b3, a4, d4, b4, a5, d5, b5, a6, d6, b6, rfl, hbl, w0, w1, w2, l3, l4, l5, l6⟩
    rw [hbl]
    exact ⟨[.int .i64 x.now], [.int .i64 x.events] ++ ([.int .i64 x.chain.epoch, .slice a3 x.chain.ids.length d3] ++ ([.slice a4 x.nodes.length d4] ++ ([.slice a5 x.msgs.length d5] ++ [.slice a6 x.history.length d6]))), [], [] ++ (b3 ++ (b4 ++ (b5 ++ (b6)))), rfl, by simp, ⟨rfl, w0, rfl⟩, ⟨[.int .i64 x.events], [.int .i64 x.chain.epoch, .slice a3 x.chain.ids.length d3] ++ ([.slice a4 x.nodes.length d4] ++ ([.slice a5 x.msgs.length d5] ++ [.slice a6 x.history.length d6])), [], b3 ++ (b4 ++ (b5 ++ (b6))), rfl, by simp, ⟨rfl, w1, rfl⟩, ⟨[.int .i64 x.chain.epoch, .slice a3 x.chain.ids.length d3], [.slice a4 x.nodes.length d4] ++ ([.slice a5 x.msgs.length d5] ++ [.slice a6 x.history.length d6]), b3, b4 ++ (b5 ++ (b6)), rfl, by simp, lies_Chain.2 ⟨a3, d3, b3, rfl, rfl, w2, l3⟩, ⟨[.slice a4 x.nodes.length d4], [.slice a5 x.msgs.length d5] ++ [.slice a6 x.history.length d6], b4, b5 ++ (b6), rfl, by simp, l4, ⟨[.slice a5 x.msgs.length d5], [.slice a6 x.history.length d6], b5, b6, rfl, by simp, l5, l6⟩⟩⟩⟩⟩

theorem open_World {w : World} {cs : List Value} {x : DWorld} (h : Lay.tWorld.Reads w cs x) : ∃ (a3 : Option Addr) (d3 : Nat) (a4 : Option Addr) (d4 : Nat) (a5 : Option Addr) (d5 : Nat) (a6 : Option Addr) (d6 : Nat), cs = [.int .i64 x.now, .int .i64 x.events, .int .i64 x.chain.epoch, .slice a3 x.chain.ids.length d3, .slice a4 x.nodes.length d4, .slice a5 x.msgs.length d5, .slice a6 x.history.length d6] ∧ Lay.tChain.Reads w [.int .i64 x.chain.epoch, .slice a3 x.chain.ids.length d3] x.chain ∧ (Lay.sl Lay.tNode).Reads w [.slice a4 x.nodes.length d4] x.nodes ∧ (Lay.sl Lay.tMsg).Reads w [.slice a5 x.msgs.length d5] x.msgs ∧ (Lay.sl Lay.tEntry).Reads w [.slice a6 x.history.length d6] x.history := by
  obtain ⟨bl, h⟩ := h
  obtain ⟨a3, d3, b3, a4, d4, b4, a5, d5, b5, a6, d6, b6, rfl, -, w0, w1, w2, l3, l4, l5, l6⟩ := lies_World.1 h
  exact ⟨a3, d3, a4, d4, a5, d5, a6, d6, rfl, ⟨_, lies_Chain.2 ⟨a3, d3, _, rfl, rfl, w2, l3⟩⟩, ⟨_, l4⟩, ⟨_, l5⟩, ⟨_, l6⟩⟩

end Go.Proofs.Ythpbdafhjakekaa

namespace Go.Proofs.Ythpbdafhjakekaa
open Go.RowKit

structure DWorldResult where
  code : Int
  moved : Bool
  world : DWorld

def Lay.tWorldResult : Lay DWorldResult := Lay.via (Lay.pair Lay.int (Lay.pair Lay.bool Lay.tWorld)) (fun x => (x.code, x.moved, x.world)) (fun p => ⟨p.1, p.2.1, p.2.2⟩)

theorem lies_WorldResult {w : World} {cs : List Value} {x : DWorldResult} {bl : List Nat} : Lay.tWorldResult.lies w cs x bl ↔ ∃ (a5 : Option Addr) (d5 : Nat) (b5 : List Nat) (a6 : Option Addr) (d6 : Nat) (b6 : List Nat) (a7 : Option Addr) (d7 : Nat) (b7 : List Nat) (a8 : Option Addr) (d8 : Nat) (b8 : List Nat), cs = [.int .i64 x.code, .bool x.moved, .int .i64 x.world.now, .int .i64 x.world.events, .int .i64 x.world.chain.epoch, .slice a5 x.world.chain.ids.length d5, .slice a6 x.world.nodes.length d6, .slice a7 x.world.msgs.length d7, .slice a8 x.world.history.length d8] ∧ bl = b5 ++ (b6 ++ (b7 ++ b8)) ∧ (Lit.int .i64 x.code).wf = true ∧ (Lit.int .i64 x.world.now).wf = true ∧ (Lit.int .i64 x.world.events).wf = true ∧ (Lit.int .i64 x.world.chain.epoch).wf = true ∧ (Lay.sl Lay.int).lies w [.slice a5 x.world.chain.ids.length d5] x.world.chain.ids b5 ∧ (Lay.sl Lay.tNode).lies w [.slice a6 x.world.nodes.length d6] x.world.nodes b6 ∧ (Lay.sl Lay.tMsg).lies w [.slice a7 x.world.msgs.length d7] x.world.msgs b7 ∧ (Lay.sl Lay.tEntry).lies w [.slice a8 x.world.history.length d8] x.world.history b8 := by
  constructor
  · intro h
    obtain ⟨c0_, r0_, e0_, s0_, rfl, rfl, h0, ⟨c1_, r1_, e1_, s1_, rfl, rfl, h1, h2⟩⟩ := h
    obtain ⟨rfl, w0, rfl⟩ := h0
    obtain ⟨rfl, rfl⟩ := h1
    obtain ⟨a5, d5, q5, a6, d6, q6, a7, d7, q7, a8, d8, q8, rfl, hq2, w2, w3, w4, l5, l6, l7, l8⟩ := lies_World.1 h2
    exact ⟨a5, d5, q5, a6, d6, q6, a7, d7, q7, a8, d8, q8, by simp, by simp [hq2], w0, w2, w3, w4, l5, l6, l7, l8⟩
  · rintro ⟨a5, d5, b5, a6, d6, b6, a7, d7, b7, a8, d8, b8, rfl, hbl, w0, w2, w3, w4, l5, l6, l7, l8⟩
    rw [hbl]
    exact ⟨[.int .i64 x.code], [.bool x.moved] ++ [.int .i64 x.world.now, .int .i64 x.world.events, .int .i64 x.world.chain.epoch, .slice a5 x.world.chain.ids.length d5, .slice a6 x.world.nodes.length d6, .slice a7 x.world.msgs.length d7, .slice a8 x.world.history.length d8], [], [] ++ (b5 ++ (b6 ++ (b7 ++ b8))), rfl, by simp, ⟨rfl, w0, rfl⟩, ⟨[.bool x.moved], [.int .i64 x.world.now, .int .i64 x.world.events, .int .i64 x.world.chain.epoch, .slice a5 x.world.chain.ids.length d5, .slice a6 x.world.nodes.length d6, .slice a7 x.world.msgs.length d7, .slice a8 x.world.history.length d8], [], b5 ++ (b6 ++ (b7 ++ b8)), rfl, by simp, ⟨rfl, rfl⟩, lies_World.2 ⟨a5, d5, b5, a6, d6, b6, a7, d7, b7, a8, d8, b8, rfl, rfl, w2, w3, w4, l5, l6, l7, l8⟩⟩⟩

theorem open_WorldResult {w : World} {cs : List Value} {x : DWorldResult} (h : Lay.tWorldResult.Reads w cs x) : ∃ (a5 : Option Addr) (d5 : Nat) (a6 : Option Addr) (d6 : Nat) (a7 : Option Addr) (d7 : Nat) (a8 : Option Addr) (d8 : Nat), cs = [.int .i64 x.code, .bool x.moved, .int .i64 x.world.now, .int .i64 x.world.events, .int .i64 x.world.chain.epoch, .slice a5 x.world.chain.ids.length d5, .slice a6 x.world.nodes.length d6, .slice a7 x.world.msgs.length d7, .slice a8 x.world.history.length d8] ∧ Lay.tWorld.Reads w [.int .i64 x.world.now, .int .i64 x.world.events, .int .i64 x.world.chain.epoch, .slice a5 x.world.chain.ids.length d5, .slice a6 x.world.nodes.length d6, .slice a7 x.world.msgs.length d7, .slice a8 x.world.history.length d8] x.world := by
  obtain ⟨bl, h⟩ := h
  obtain ⟨a5, d5, b5, a6, d6, b6, a7, d7, b7, a8, d8, b8, rfl, -, w0, w2, w3, w4, l5, l6, l7, l8⟩ := lies_WorldResult.1 h
  exact ⟨a5, d5, a6, d6, a7, d7, a8, d8, rfl, ⟨_, lies_World.2 ⟨a5, d5, _, a6, d6, _, a7, d7, _, a8, d8, _, rfl, rfl, w2, w3, w4, l5, l6, l7, l8⟩⟩⟩

end Go.Proofs.Ythpbdafhjakekaa

namespace Go.Proofs.Ythpbdafhjakekaa

theorem info2 : (Try.prog.info? 2).map (fun i => (i.zero, i.size, i.bytes)) = some (some (.int .i64 0), 1, 8) := by kernel_rfl

end Go.Proofs.Ythpbdafhjakekaa

namespace Go.Proofs.Ythpbdafhjakekaa
open Go.RowKit

set_option maxHeartbeats 400000 in
theorem eqInts_pos (b off cap b2 off2 cap2 : Nat) (zs : List Int) (w : World) (hn : zs.length ≤ 9223372036854775807) (hc : ∀ j, j < zs.length → w.cell? ⟨b, off + j, none⟩ = some (.int .i64 (zs.getD j 0)))
    (hc2 : ∀ j, j < zs.length → w.cell? ⟨b2, off2 + j, none⟩ = some (.int .i64 (zs.getD j 0))) :
    Calls Try.prog 33 #[.slice (some ⟨b, off, none⟩) zs.length cap, .slice (some ⟨b2, off2, none⟩) zs.length cap2] w fun e w' => e = .returned (.bool true) ∧ Below w.heap.size w w' := by
  go_enter Try.func33, Try.ntmps33
  go_wp2
  go_loopw [5] (fun i wr => ∃ k : Nat, k ≤ zs.length ∧ i = .int .i64 k ∧ Below w.heap.size w wr) (fun i _ => zs.length - (intOf i).toNat)
  case atStart => exact ⟨0, Nat.zero_le _, rfl, Below.refl _ _⟩
  case round =>
    obtain ⟨k, hk, rfl, hB⟩ := hrel
    by_cases hlt : k < zs.length
    · have hcx : wr.cell? ⟨b, off + k, none⟩ = some (.int .i64 (zs.getD k 0)) := (hB.cell (World.block_lt_of_cell? _ _ (hc k hlt))).trans (hc k hlt)
      have hcy : wr.cell? ⟨b2, off2 + k, none⟩ = some (.int .i64 (zs.getD k 0)) := (hB.cell (World.block_lt_of_cell? _ _ (hc2 k hlt))).trans (hc2 k hlt)
      clear hc hc2
      go_wp2
      go_quiet (fail)
      go_wp2
      go_roundw
      case rel => exact ⟨k + 1, by omega, by go_num, below_drewN hB _⟩
      case measure => simp [intOf]; omega
    · go_wp2
      go_ret
      exact ⟨rfl, hB⟩

set_option maxHeartbeats 400000 in
theorem eqInts_zero (ao ao2 : Option Addr) (cap cap2 : Nat) (w : World) :
    Calls Try.prog 33 #[.slice ao 0 cap, .slice ao2 0 cap2] w fun e w' => e = .returned (.bool true) ∧ Below w.heap.size w w' := by
  go_enter Try.func33, Try.ntmps33
  go_wp2
  refine wp_loop_rounds 1 ?_
  rw [rounds_succ]
  go_wp2
  go_ret
  exact ⟨rfl, Below.refl _ _⟩

/-- eqInt64S: two slices of the same numbers are the same. -/
theorem eqIntsBig (v v2 : Value) (zs : List Int) (w : World) (h : IsInts w v zs) (h2 : IsInts w v2 zs) (hn : zs.length ≤ 9223372036854775807) :
    Calls Try.prog 33 #[v, v2] w fun e w' => e = .returned (.bool true) ∧ Below w.heap.size w w' := by
  obtain ⟨ao, cap, rfl, hwf, hc⟩ := h
  obtain ⟨ao2, cap2, rfl, _, hc2⟩ := h2
  by_cases hp : 0 < zs.length
  · obtain ⟨b, off, rfl, hc1⟩ := hc hp
    obtain ⟨b2, off2, rfl, hc3⟩ := hc2 hp
    exact eqInts_pos b off cap b2 off2 cap2 zs w hn hc1 hc3
  · have hz : zs = [] := List.eq_nil_of_length_eq_zero (by omega)
    subst hz
    exact eqInts_zero ao ao2 cap cap2 w
theorem eqInts (v v2 : Value) (zs : List Int) (w : World) (h : IsInts w v zs) (h2 : IsInts w v2 zs) (hn : zs.length ≤ 1048576) :
    Calls Try.prog 33 #[v, v2] w fun e w' => e = .returned (.bool true) ∧ Below w.heap.size w w' := eqIntsBig v v2 zs w h h2 (by omega)
end Go.Proofs.Ythpbdafhjakekaa

namespace Go.Proofs.Ythpbdafhjakekaa
open Go.RowKit

theorem sz_ints (zs : List Int) : (Lay.sl Lay.int).sz zs = zs.length := by
  show zs.length + cntAll (fun _ => 0) zs = zs.length
  have : cntAll (fun _ : Int => 0) zs = 0 := by induction zs with
    | nil => rfl
    | cons z zs ih => simpa [cntAll] using ih
  omega

theorem eq_Int64S (v v2 : Value) (zs : List Int) (w : World) (h : (Lay.sl Lay.int).Reads w [v] zs) (h2 : (Lay.sl Lay.int).Reads w [v2] zs) :
    Calls Try.prog 33 #[v, v2] w fun e w' => e = .returned (.bool true) ∧ Below w.heap.size w w' :=
  eqIntsBig v v2 zs w (Lay.ints_reads h) (Lay.ints_reads h2) h.big

end Go.Proofs.Ythpbdafhjakekaa

namespace Go.Proofs.Ythpbdafhjakekaa
open Go.RowKit

set_option maxRecDepth 10000 in
set_option maxHeartbeats 1000000 in
theorem eq_Chain (cs cs2 : List Value) (x : DChain) (w : World) (h : Lay.tChain.Reads w cs x) (h2 : Lay.tChain.Reads w cs2 x) :
    Calls Try.prog 21 #[.agg cs.toArray, .agg cs2.toArray] w fun e w' => e = .returned (.bool true) ∧ Below w.heap.size w w' := by
  obtain ⟨a1, d1, rfl, R1⟩ := open_Chain h
  obtain ⟨a1z, d1z, rfl, R1z⟩ := open_Chain h2
  clear h h2
  have e0 : (x.epoch != x.epoch) = false := by simp
  have HB0 : Below w.heap.size w ((w.alloc (.cells #[.int .i64 x.epoch, .slice a1 x.ids.length d1] 24)).alloc (.cells #[.int .i64 x.epoch, .slice a1z x.ids.length d1z] 24)) := ((Below.refl _ _).alloc (Nat.le_refl _) _).alloc (by simp) _
  have bA : Box w.heap.size #[.int .i64 x.epoch, .slice a1 x.ids.length d1] 24 ((w.alloc (.cells #[.int .i64 x.epoch, .slice a1 x.ids.length d1] 24)).alloc (.cells #[.int .i64 x.epoch, .slice a1z x.ids.length d1z] 24)) w.heap.size := (newBox (Nat.le_refl _)).grow _
  have bC : Box w.heap.size #[.int .i64 x.epoch, .slice a1z x.ids.length d1z] 24 ((w.alloc (.cells #[.int .i64 x.epoch, .slice a1 x.ids.length d1] 24)).alloc (.cells #[.int .i64 x.epoch, .slice a1z x.ids.length d1z] 24)) (w.heap.size + 1) := newBoxAt (by omega) (by simp)
  go_enter Try.func21, Try.ntmps21
  go_wp2_with fail
  generalize (w.alloc (.cells #[.int .i64 x.epoch, .slice a1 x.ids.length d1] 24)).alloc (.cells #[.int .i64 x.epoch, .slice a1z x.ids.length d1z] 24) = W0 at *
  replace R1 := R1.later HB0
  replace R1z := R1z.later HB0
  refine (eq_Int64S _ _ x.ids _ R1 R1z).mono ?_
  rintro e w1 ⟨rfl, hb⟩
  replace bA := bA.keep hb
  replace bC := bC.keep hb
  replace HB0 := HB0.trans (hb.mono HB0.size)
  clear hb
  have HB := hide HB0
  have HA := hide bA
  have HC := hide bC
  clear HB0 bA bC
  go_wp2_with fail
  go_ret
  exact ⟨rfl, unhide HB⟩

end Go.Proofs.Ythpbdafhjakekaa

namespace Go.Proofs.Ythpbdafhjakekaa
open Go.RowKit

set_option maxRecDepth 10000 in
set_option maxHeartbeats 1000000 in
theorem eq_Write (cs cs2 : List Value) (x : DWrite) (w : World) (h : Lay.tWrite.Reads w cs x) (h2 : Lay.tWrite.Reads w cs2 x) :
    Calls Try.prog 44 #[.agg cs.toArray, .agg cs2.toArray] w fun e w' => e = .returned (.bool true) ∧ Below w.heap.size w w' := by
  obtain ⟨a2, d2, rfl, R2⟩ := open_Write h
  obtain ⟨a2z, d2z, rfl, R2z⟩ := open_Write h2
  clear h h2
  have e0 : (x.kind != x.kind) = false := by simp
  have e1 : (x.id != x.id) = false := by simp
  have e3 : (x.session != x.session) = false := by simp
  have e4 : (x.seq != x.seq) = false := by simp
  have HB0 : Below w.heap.size w ((w.alloc (.cells #[.int .i64 x.kind, .int .i64 x.id, .slice a2 x.vec.length d2, .int .i64 x.session, .int .i64 x.seq] 62)).alloc (.cells #[.int .i64 x.kind, .int .i64 x.id, .slice a2z x.vec.length d2z, .int .i64 x.session, .int .i64 x.seq] 62)) := ((Below.refl _ _).alloc (Nat.le_refl _) _).alloc (by simp) _
  have bA : Box w.heap.size #[.int .i64 x.kind, .int .i64 x.id, .slice a2 x.vec.length d2, .int .i64 x.session, .int .i64 x.seq] 62 ((w.alloc (.cells #[.int .i64 x.kind, .int .i64 x.id, .slice a2 x.vec.length d2, .int .i64 x.session, .int .i64 x.seq] 62)).alloc (.cells #[.int .i64 x.kind, .int .i64 x.id, .slice a2z x.vec.length d2z, .int .i64 x.session, .int .i64 x.seq] 62)) w.heap.size := (newBox (Nat.le_refl _)).grow _
  have bC : Box w.heap.size #[.int .i64 x.kind, .int .i64 x.id, .slice a2z x.vec.length d2z, .int .i64 x.session, .int .i64 x.seq] 62 ((w.alloc (.cells #[.int .i64 x.kind, .int .i64 x.id, .slice a2 x.vec.length d2, .int .i64 x.session, .int .i64 x.seq] 62)).alloc (.cells #[.int .i64 x.kind, .int .i64 x.id, .slice a2z x.vec.length d2z, .int .i64 x.session, .int .i64 x.seq] 62)) (w.heap.size + 1) := newBoxAt (by omega) (by simp)
  go_enter Try.func44, Try.ntmps44
  go_wp2_with fail
  generalize (w.alloc (.cells #[.int .i64 x.kind, .int .i64 x.id, .slice a2 x.vec.length d2, .int .i64 x.session, .int .i64 x.seq] 62)).alloc (.cells #[.int .i64 x.kind, .int .i64 x.id, .slice a2z x.vec.length d2z, .int .i64 x.session, .int .i64 x.seq] 62) = W0 at *
  replace R2 := R2.later HB0
  replace R2z := R2z.later HB0
  refine (eq_Int64S _ _ x.vec _ R2 R2z).mono ?_
  rintro e w1 ⟨rfl, hb⟩
  replace bA := bA.keep hb
  replace bC := bC.keep hb
  replace HB0 := HB0.trans (hb.mono HB0.size)
  have p3 := bA.at 3 _ rfl
  have q3 := bC.at 3 _ rfl
  have p4 := bA.at 4 _ rfl
  have q4 := bC.at 4 _ rfl
  clear hb
  have HB := hide HB0
  have HA := hide bA
  have HC := hide bC
  clear HB0 bA bC
  go_wp2_with fail
  go_ret
  exact ⟨rfl, unhide HB⟩

end Go.Proofs.Ythpbdafhjakekaa

namespace Go.Proofs.Ythpbdafhjakekaa
open Go.RowKit

set_option maxRecDepth 100000 in
set_option maxHeartbeats 2000000 in
theorem eq_WriteS (v v2 : Value) (xs : List DWrite) (w : World) (h : (Lay.sl Lay.tWrite).Reads w [v] xs) (h2 : (Lay.sl Lay.tWrite).Reads w [v2] xs) :
    Calls Try.prog 43 #[v, v2] w fun e w' => e = .returned (.bool true) ∧ Below w.heap.size w w' := by
  have hbig := h.big
  obtain ⟨ao, cap, rfl⟩ := open_sl h
  obtain ⟨ao2, cap2, rfl⟩ := open_sl h2
  by_cases hp : 0 < xs.length
  · obtain ⟨b, off, rfl, hbl⟩ := Lay.sl_addr h hp
    obtain ⟨b2, off2, rfl, hbl2⟩ := Lay.sl_addr h2 hp
    have H := hide h
    have H2 := hide h2
    clear h h2
    go_enter Try.func43, Try.ntmps43
    go_wp2_with fail
    go_loopw [5] (fun i wr => ∃ k : Nat, k ≤ xs.length ∧ i = .int .i64 k ∧ Below w.heap.size w wr) (fun i _ => xs.length - (intOf i).toNat)
    case atStart => exact ⟨0, Nat.zero_le _, rfl, Below.refl _ _⟩
    case round =>
      obtain ⟨k, hk, rfl, hB⟩ := hrel
      by_cases hlt : k < xs.length
      · obtain ⟨row, hc, hr⟩ := Lay.row_at (unhide H) hlt
        obtain ⟨rowz, hcz, hrz⟩ := Lay.row_at (unhide H2) hlt
        have hr2 := hr
        obtain ⟨a2, d2, rfl, -⟩ := open_Write hr2
        have hrz2 := hrz
        obtain ⟨a2z, d2z, rfl, -⟩ := open_Write hrz2
        have c0 : w.cell? ⟨b, off + k * 5, none⟩ = some (.int .i64 (xs[k]).kind) := ((Below.refl w.heap.size w).cell (p := ⟨b, off + k * 5, none⟩) hbl).trans (hc 0 (by decide))
        have c1 : w.cell? ⟨b, off + k * 5 + 1, none⟩ = some (.int .i64 (xs[k]).id) := ((Below.refl w.heap.size w).cell (p := ⟨b, off + k * 5 + 1, none⟩) hbl).trans (hc 1 (by decide))
        have c2 : w.cell? ⟨b, off + k * 5 + 2, none⟩ = some (.slice a2 (xs[k]).vec.length d2) := ((Below.refl w.heap.size w).cell (p := ⟨b, off + k * 5 + 2, none⟩) hbl).trans (hc 2 (by decide))
        have c3 : w.cell? ⟨b, off + k * 5 + 3, none⟩ = some (.int .i64 (xs[k]).session) := ((Below.refl w.heap.size w).cell (p := ⟨b, off + k * 5 + 3, none⟩) hbl).trans (hc 3 (by decide))
        have c4 : w.cell? ⟨b, off + k * 5 + 4, none⟩ = some (.int .i64 (xs[k]).seq) := ((Below.refl w.heap.size w).cell (p := ⟨b, off + k * 5 + 4, none⟩) hbl).trans (hc 4 (by decide))
        have c0z : w.cell? ⟨b2, off2 + k * 5, none⟩ = some (.int .i64 (xs[k]).kind) := ((Below.refl w.heap.size w).cell (p := ⟨b2, off2 + k * 5, none⟩) hbl2).trans (hcz 0 (by decide))
        have c1z : w.cell? ⟨b2, off2 + k * 5 + 1, none⟩ = some (.int .i64 (xs[k]).id) := ((Below.refl w.heap.size w).cell (p := ⟨b2, off2 + k * 5 + 1, none⟩) hbl2).trans (hcz 1 (by decide))
        have c2z : w.cell? ⟨b2, off2 + k * 5 + 2, none⟩ = some (.slice a2z (xs[k]).vec.length d2z) := ((Below.refl w.heap.size w).cell (p := ⟨b2, off2 + k * 5 + 2, none⟩) hbl2).trans (hcz 2 (by decide))
        have c3z : w.cell? ⟨b2, off2 + k * 5 + 3, none⟩ = some (.int .i64 (xs[k]).session) := ((Below.refl w.heap.size w).cell (p := ⟨b2, off2 + k * 5 + 3, none⟩) hbl2).trans (hcz 3 (by decide))
        have c4z : w.cell? ⟨b2, off2 + k * 5 + 4, none⟩ = some (.int .i64 (xs[k]).seq) := ((Below.refl w.heap.size w).cell (p := ⟨b2, off2 + k * 5 + 4, none⟩) hbl2).trans (hcz 4 (by decide))
        clear hc hcz
        have HR := hide hr
        have HRZ := hide hrz
        clear hr hrz
        have HB := hide hB
        clear hB
        generalize hxk : xs[k] = x at *
        clear hxk
        have i1 : (0 : Int) ≤ (k : Int) := by omega
        have i2 : (k : Int) < (xs.length : Int) := by omega
        go_wp2_with fail
        refine wp_region_noPanic ?_
        refine wp_region_held_drew (S := fun w' => Below w.heap.size w w') (by kernel_rfl) (unhide HB).drew (fun hHeld => ?_)
        generalize wr.drew = wD at hHeld ⊢
        refine wpAnyH_take (i := 0) (oi := { dst := some 17, op := Go.Op.move (Go.Operand.tmp 0), type := 40, pos := "exact.go:407", after := #[], guard := none }) (v := ?v0) rfl (by kernel_rfl) (by kernel_rfl) (by kernel_rfl) (fun _ _ _ h => h) (Or.inl ⟨by rfl, ?h0⟩) hHeld ?r0
        case h0 =>
          intro wS hSw
          (try dsimp only at hSw)
          go_simp
          try with_reducible rfl
        case r0 =>
        simp only [Act.put, List.setIfInBounds_toArray, List.set_cons_zero, List.set_cons_succ]
        refine wpAnyH_take (i := 1) (oi := { dst := some 18, op := Go.Op.move (Go.Operand.tmp 5), type := 3, pos := "exact.go:407", after := #[], guard := none }) (v := ?v1) rfl (by kernel_rfl) (by kernel_rfl) (by kernel_rfl) (fun _ _ _ h => h) (Or.inl ⟨by rfl, ?h1⟩) hHeld ?r1
        case h1 =>
          intro wS hSw
          (try dsimp only at hSw)
          go_simp
          try with_reducible rfl
        case r1 =>
        simp only [Act.put, List.setIfInBounds_toArray, List.set_cons_zero, List.set_cons_succ]
        refine wpAnyH_take (i := 2) (oi := { dst := some 19, op := Go.Op.indexAddr 40 (Go.Operand.tmp 17) (Go.Operand.tmp 18), type := 0, pos := "exact.go:407", after := #[{ on := 0, ground := Go.Ground.data }, { on := 1, ground := Go.Ground.data }], guard := none }) (v := ?v2) rfl (by kernel_rfl) (by kernel_rfl) (by kernel_rfl) (fun _ _ _ h => h) (Or.inl ⟨by rfl, ?h2⟩) hHeld ?r2
        case h2 =>
          intro wS hSw
          (try dsimp only at hSw)
          go_simp
          try with_reducible rfl
        case r2 =>
        simp only [Act.put, List.setIfInBounds_toArray, List.set_cons_zero, List.set_cons_succ]
        refine wpAnyH_take (i := 3) (oi := { dst := some 20, op := Go.Op.load 62 (Go.Operand.tmp 19), type := 62, pos := "exact.go:407", after := #[{ on := 2, ground := Go.Ground.data }], guard := none }) (v := ?v3) rfl (by kernel_rfl) (by kernel_rfl) (by kernel_rfl) (fun _ _ _ h => h) (Or.inl ⟨by rfl, ?h3⟩) hHeld ?r3
        case h3 =>
          intro wS hSw
          have y0 := (hSw.cell (p := ⟨b, off + k * 5, none⟩) hbl).trans c0
          have y1 := (hSw.cell (p := ⟨b, off + k * 5 + 1, none⟩) hbl).trans c1
          have y2 := (hSw.cell (p := ⟨b, off + k * 5 + 2, none⟩) hbl).trans c2
          have y3 := (hSw.cell (p := ⟨b, off + k * 5 + 3, none⟩) hbl).trans c3
          have y4 := (hSw.cell (p := ⟨b, off + k * 5 + 4, none⟩) hbl).trans c4
          clear hSw
          (try dsimp only at hSw)
          go_simp
          try with_reducible rfl
        case r3 =>
        simp only [Act.put, List.setIfInBounds_toArray, List.set_cons_zero, List.set_cons_succ]
        refine wpAnyH_take (i := 4) (oi := { dst := some 21, op := Go.Op.move (Go.Operand.tmp 1), type := 40, pos := "exact.go:407", after := #[], guard := none }) (v := ?v4) rfl (by kernel_rfl) (by kernel_rfl) (by kernel_rfl) (fun _ _ _ h => h) (Or.inl ⟨by rfl, ?h4⟩) hHeld ?r4
        case h4 =>
          intro wS hSw
          (try dsimp only at hSw)
          go_simp
          try with_reducible rfl
        case r4 =>
        simp only [Act.put, List.setIfInBounds_toArray, List.set_cons_zero, List.set_cons_succ]
        refine wpAnyH_take (i := 5) (oi := { dst := some 22, op := Go.Op.move (Go.Operand.tmp 5), type := 3, pos := "exact.go:407", after := #[], guard := none }) (v := ?v5) rfl (by kernel_rfl) (by kernel_rfl) (by kernel_rfl) (fun _ _ _ h => h) (Or.inl ⟨by rfl, ?h5⟩) hHeld ?r5
        case h5 =>
          intro wS hSw
          (try dsimp only at hSw)
          go_simp
          try with_reducible rfl
        case r5 =>
        simp only [Act.put, List.setIfInBounds_toArray, List.set_cons_zero, List.set_cons_succ]
        refine wpAnyH_take (i := 6) (oi := { dst := some 23, op := Go.Op.indexAddr 40 (Go.Operand.tmp 21) (Go.Operand.tmp 22), type := 0, pos := "exact.go:407", after := #[{ on := 4, ground := Go.Ground.data }, { on := 5, ground := Go.Ground.data }], guard := none }) (v := ?v6) rfl (by kernel_rfl) (by kernel_rfl) (by kernel_rfl) (fun _ _ _ h => h) (Or.inl ⟨by rfl, ?h6⟩) hHeld ?r6
        case h6 =>
          intro wS hSw
          (try dsimp only at hSw)
          go_simp
          try with_reducible rfl
        case r6 =>
        simp only [Act.put, List.setIfInBounds_toArray, List.set_cons_zero, List.set_cons_succ]
        refine wpAnyH_take (i := 7) (oi := { dst := some 24, op := Go.Op.load 62 (Go.Operand.tmp 23), type := 62, pos := "exact.go:407", after := #[{ on := 6, ground := Go.Ground.data }], guard := none }) (v := ?v7) rfl (by kernel_rfl) (by kernel_rfl) (by kernel_rfl) (fun _ _ _ h => h) (Or.inl ⟨by rfl, ?h7⟩) hHeld ?r7
        case h7 =>
          intro wS hSw
          have y0z := (hSw.cell (p := ⟨b2, off2 + k * 5, none⟩) hbl2).trans c0z
          have y1z := (hSw.cell (p := ⟨b2, off2 + k * 5 + 1, none⟩) hbl2).trans c1z
          have y2z := (hSw.cell (p := ⟨b2, off2 + k * 5 + 2, none⟩) hbl2).trans c2z
          have y3z := (hSw.cell (p := ⟨b2, off2 + k * 5 + 3, none⟩) hbl2).trans c3z
          have y4z := (hSw.cell (p := ⟨b2, off2 + k * 5 + 4, none⟩) hbl2).trans c4z
          clear hSw
          (try dsimp only at hSw)
          go_simp
          try with_reducible rfl
        case r7 =>
        simp only [Act.put, List.setIfInBounds_toArray, List.set_cons_zero, List.set_cons_succ]
        refine wpAnyH_ready (rs := [8]) (by kernel_rfl) (by simp) ?_
        refine AllReadyH.cons (o := { dst := some 25, op := Go.Op.call { callee := Go.Callee.value (Go.Operand.func 44), args := #[Go.Operand.tmp 20, Go.Operand.tmp 24], argTypes := #[62, 62] }, type := 4, pos := "exact.go:407", after := #[{ on := 3, ground := Go.Ground.data }, { on := 7, ground := Go.Ground.data }], guard := none }) rfl (fun K hK => ?_) AllReadyH.nil
        go_simp
        go_at_call 44
        refine (eq_Write _ _ x _ ((unhide HR).later hHeld) ((unhide HRZ).later hHeld)).mono ?_
        rintro e w3 ⟨rfl, hbw⟩
        try go_wp2_with fail
        refine hK.out _ _ (hHeld.trans (hbw.mono hHeld.size)) (fun hHeld => ?_)
        clear hK K
        try simp only [Act.put, List.setIfInBounds_toArray, List.set_cons_zero, List.set_cons_succ]
        refine wpAnyH_take (i := 9) (oi := { dst := some 26, op := Go.Op.unOp Go.UnOp.not 4 (Go.Operand.tmp 25), type := 4, pos := "exact.go:407", after := #[{ on := 8, ground := Go.Ground.data }], guard := none }) (v := ?v9) rfl (by kernel_rfl) (by kernel_rfl) (by kernel_rfl) (fun _ _ _ h => h) (Or.inl ⟨by rfl, ?h9⟩) hHeld ?r9
        case h9 =>
          intro wS hSw
          (try dsimp only at hSw)
          go_simp
          try with_reducible rfl
        case r9 =>
        simp only [Act.put, List.setIfInBounds_toArray, List.set_cons_zero, List.set_cons_succ]
        refine wpAnyH_done (by kernel_rfl) ?_ _
        refine NoPanic.normal ?_
        have HB3 := hide hHeld
        clear hHeld c0 c0z c1 c1z c2 c2z c3 c3z c4 c4z HB
        go_wp2_with fail
        go_roundw
        case rel => exact ⟨k + 1, by omega, by go_num, unhide HB3⟩
        case measure => simp [intOf]; omega
      · have HB := hide hB
        clear hB
        go_wp2_with fail
        go_ret
        exact ⟨rfl, unhide HB⟩
  · obtain rfl : xs = [] := List.eq_nil_of_length_eq_zero (by omega)
    clear h h2 hp
    simp only [List.length_nil] at *
    go_enter Try.func43, Try.ntmps43
    go_wp2_with fail
    refine wp_loop_rounds 1 ?_
    rw [rounds_succ]
    go_wp2_with fail
    go_ret
    exact ⟨rfl, Below.refl _ _⟩

end Go.Proofs.Ythpbdafhjakekaa

namespace Go.Proofs.Ythpbdafhjakekaa
open Go.RowKit

set_option maxRecDepth 10000 in
set_option maxHeartbeats 1000000 in
theorem eq_Node (cs cs2 : List Value) (x : DNode) (w : World) (h : Lay.tNode.Reads w cs x) (h2 : Lay.tNode.Reads w cs2 x) :
    Calls Try.prog 34 #[.agg cs.toArray, .agg cs2.toArray] w fun e w' => e = .returned (.bool true) ∧ Below w.heap.size w w' := by
  obtain ⟨a4, d4, rfl, R4⟩ := open_Node h
  obtain ⟨a4z, d4z, rfl, R4z⟩ := open_Node h2
  clear h h2
  have e0 : (x.id != x.id) = false := by simp
  have e1 : (x.up != x.up) = false := by simp
  have e2 : (x.epoch != x.epoch) = false := by simp
  have e3 : (x.lease != x.lease) = false := by simp
  have e5 : (x.sure != x.sure) = false := by simp
  have e6 : (x.clean != x.clean) = false := by simp
  have HB0 : Below w.heap.size w ((w.alloc (.cells #[.int .i64 x.id, .bool x.up, .int .i64 x.epoch, .int .i64 x.lease, .slice a4 x.writes.length d4, .int .i64 x.sure, .int .i64 x.clean] 42)).alloc (.cells #[.int .i64 x.id, .bool x.up, .int .i64 x.epoch, .int .i64 x.lease, .slice a4z x.writes.length d4z, .int .i64 x.sure, .int .i64 x.clean] 42)) := ((Below.refl _ _).alloc (Nat.le_refl _) _).alloc (by simp) _
  have bA : Box w.heap.size #[.int .i64 x.id, .bool x.up, .int .i64 x.epoch, .int .i64 x.lease, .slice a4 x.writes.length d4, .int .i64 x.sure, .int .i64 x.clean] 42 ((w.alloc (.cells #[.int .i64 x.id, .bool x.up, .int .i64 x.epoch, .int .i64 x.lease, .slice a4 x.writes.length d4, .int .i64 x.sure, .int .i64 x.clean] 42)).alloc (.cells #[.int .i64 x.id, .bool x.up, .int .i64 x.epoch, .int .i64 x.lease, .slice a4z x.writes.length d4z, .int .i64 x.sure, .int .i64 x.clean] 42)) w.heap.size := (newBox (Nat.le_refl _)).grow _
  have bC : Box w.heap.size #[.int .i64 x.id, .bool x.up, .int .i64 x.epoch, .int .i64 x.lease, .slice a4z x.writes.length d4z, .int .i64 x.sure, .int .i64 x.clean] 42 ((w.alloc (.cells #[.int .i64 x.id, .bool x.up, .int .i64 x.epoch, .int .i64 x.lease, .slice a4 x.writes.length d4, .int .i64 x.sure, .int .i64 x.clean] 42)).alloc (.cells #[.int .i64 x.id, .bool x.up, .int .i64 x.epoch, .int .i64 x.lease, .slice a4z x.writes.length d4z, .int .i64 x.sure, .int .i64 x.clean] 42)) (w.heap.size + 1) := newBoxAt (by omega) (by simp)
  go_enter Try.func34, Try.ntmps34
  go_wp2_with fail
  generalize (w.alloc (.cells #[.int .i64 x.id, .bool x.up, .int .i64 x.epoch, .int .i64 x.lease, .slice a4 x.writes.length d4, .int .i64 x.sure, .int .i64 x.clean] 42)).alloc (.cells #[.int .i64 x.id, .bool x.up, .int .i64 x.epoch, .int .i64 x.lease, .slice a4z x.writes.length d4z, .int .i64 x.sure, .int .i64 x.clean] 42) = W0 at *
  replace R4 := R4.later HB0
  replace R4z := R4z.later HB0
  refine (eq_WriteS _ _ x.writes _ R4 R4z).mono ?_
  rintro e w1 ⟨rfl, hb⟩
  replace bA := bA.keep hb
  replace bC := bC.keep hb
  replace HB0 := HB0.trans (hb.mono HB0.size)
  have p5 := bA.at 5 _ rfl
  have q5 := bC.at 5 _ rfl
  have p6 := bA.at 6 _ rfl
  have q6 := bC.at 6 _ rfl
  clear hb
  have HB := hide HB0
  have HA := hide bA
  have HC := hide bC
  clear HB0 bA bC
  go_wp2_with fail
  go_ret
  exact ⟨rfl, unhide HB⟩

end Go.Proofs.Ythpbdafhjakekaa
