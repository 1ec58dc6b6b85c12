/-
  Texts of this proof in one: HitGround, HitInfo, HitModelB, HitFaultB, HitAppend, HitEq, HitAdd, HitBest, HitOpsB.
  Their conditions stand in their theorems.
-/
import Derived.Test.YtfgadegpdknocaaIp01
import Derived.Maps.AppendAt
import Derived.Deep.AppendLies
import Derived.Test.YtfgadegpdknocaaChecked
import Derived.BigQuiet
import Derived.Deep.QuietTactic
import Derived.Deep.RegionWith
import Derived.Deep.RegionHeld3
import Derived.Laws.StructEq
import Derived.Deep.CutRange

namespace Go.Proofs.Ytfgadegpdknocaa
open Go.RowKit

/-- The cells of hits. -/
def cells2 : List (Int × Int) → List Value
  | [] => []
  | h :: r => .int .i64 h.1 :: .int .i64 h.2 :: cells2 r
theorem cells2_len (hs : List (Int × Int)) : (cells2 hs).length = hs.length * 2 := by
  induction hs with
  | nil => rfl
  | cons h r ih => simp [cells2, ih]; omega
theorem cells2_app (a b : List (Int × Int)) : cells2 (a ++ b) = cells2 a ++ cells2 b := by
  induction a with
  | nil => rfl
  | cons h r ih => simp [cells2, ih]
theorem cells2_take (hs : List (Int × Int)) (k : Nat) : (cells2 hs).take (k * 2) = cells2 (hs.take k) := by
  induction hs generalizing k with
  | nil => simp [cells2]
  | cons h r ih =>
    cases k with
    | zero => simp [cells2]
    | succ k => simp [cells2, ih, Nat.add_mul]
theorem cells2_at (hs : List (Int × Int)) (j : Nat) (x y : Int) (h : hs[j]? = some (x, y)) : (cells2 hs)[j * 2]? = some (.int .i64 x) ∧ (cells2 hs)[j * 2 + 1]? = some (.int .i64 y) := by
  induction hs generalizing j with
  | nil => simp at h
  | cons p r ih =>
    cases j with
    | zero =>
      simp at h
      subst h
      simp [cells2]
    | succ j =>
      have := ih j (by simpa using h)
      simpa [cells2, Nat.add_mul] using this
theorem cells2_one (hs : List (Int × Int)) : ∀ u ∈ cells2 hs, u.oneCell' = true := by
  induction hs with
  | nil => simp [cells2]
  | cons h r ih =>
    intro u hu
    simp [cells2] at hu
    rcases hu with rfl | rfl | hu
    · rfl
    · rfl
    · exact ih u hu
theorem cells2_get (hs : List (Int × Int)) (j : Nat) (u : Value) (h : (cells2 hs)[j]? = some u) : ∃ k x y, hs[k]? = some (x, y) ∧ ((j = k * 2 ∧ u = .int .i64 x) ∨ (j = k * 2 + 1 ∧ u = .int .i64 y)) := by
  induction hs generalizing j with
  | nil => simp [cells2] at h
  | cons p r ih =>
    match j with
    | 0 =>
      simp [cells2] at h
      exact ⟨0, p.1, p.2, by simp, Or.inl ⟨rfl, h.symm⟩⟩
    | 1 =>
      simp [cells2] at h
      exact ⟨0, p.1, p.2, by simp, Or.inr ⟨rfl, h.symm⟩⟩
    | j + 2 =>
      obtain ⟨k, x, y, h1, h2⟩ := ih j (by simpa [cells2] using h)
      refine ⟨k + 1, x, y, by simpa using h1, ?_⟩
      rcases h2 with ⟨h2, h3⟩ | ⟨h2, h3⟩
      · exact Or.inl ⟨by omega, h3⟩
      · exact Or.inr ⟨by omega, h3⟩

/-- Both numbers are int64. -/
def Wf2 (h : Int × Int) : Prop := (Lit.int .i64 h.1).wf = true ∧ (Lit.int .i64 h.2).wf = true
theorem Wf2.bd {x y : Int} (h : Wf2 (x, y)) : (-9223372036854775808 ≤ x ∧ x ≤ 9223372036854775807) ∧ (-9223372036854775808 ≤ y ∧ y ≤ 9223372036854775807) := by
  simpa [Wf2, Lit.wf, IntKind.min, IntKind.max, IntKind.signed, IntKind.bits] using h

/-- The slice v holds the hits hs. -/
def IsHits (w : World) (v : Value) (hs : List (Int × Int)) : Prop :=
  ∃ ao cap, v = .slice ao hs.length cap ∧ hs.length ≤ cap ∧ (cap ≤ maxLen ∧ (ao = none → cap = 0)) ∧ (∀ h ∈ hs, Wf2 h) ∧
    (0 < hs.length → ∃ b off, ao = some ⟨b, off, none⟩ ∧ ∀ j x y, hs[j]? = some (x, y) → w.cell? ⟨b, off + j * 2, none⟩ = some (.int .i64 x) ∧ w.cell? ⟨b, off + j * 2 + 1, none⟩ = some (.int .i64 y))

theorem IsHits.wf {w : World} {v : Value} {hs : List (Int × Int)} (h : IsHits w v hs) : ∀ p ∈ hs, Wf2 p := by
  obtain ⟨_, _, _, _, _, hwf, _⟩ := h
  exact hwf
theorem IsHits.later {w w' : World} {v : Value} {hs : List (Int × Int)} (h : IsHits w v hs) (hb : Below w.heap.size w w') : IsHits w' v hs := by
  obtain ⟨ao, cap, rfl, h1, h2, hwf, hc⟩ := h
  refine ⟨ao, cap, rfl, h1, h2, hwf, fun hp => ?_⟩
  obtain ⟨b, off, hao, hc1⟩ := hc hp
  exact ⟨b, off, hao, fun j x y hj => ⟨cell_keep hb (hc1 j x y hj).1, cell_keep hb (hc1 j x y hj).2⟩⟩

/-- Whatever owns a row of hits holds them. -/
theorem isHits_row {w : World} {base T : Nat} {v : Value} {hs : List (Int × Int)} (hwf : ∀ p ∈ hs, Wf2 p)
    (h : w.ownsRow base T 2 v hs.length (cells2 hs)) : IsHits w v hs := by
  rcases h.2 with ⟨rfl, h0⟩ | ⟨g, cap, cur, rfl, _, _, h1, h2, _⟩
  · have : hs = [] := List.eq_nil_of_length_eq_zero h0
    subst this
    exact ⟨none, 0, rfl, by simp, ⟨Nat.zero_le _, fun _ => rfl⟩, by simp, by simp⟩
  · refine ⟨_, _, rfl, h1, ⟨h2, by simp⟩, hwf, fun hp => ⟨g, 0, rfl, fun j x y hj => ?_⟩⟩
    have hj2 : j < hs.length := by
      rcases Nat.lt_or_ge j hs.length with h | h
      · exact h
      · rw [List.getElem?_eq_none h] at hj; cases hj
    have := cells2_at hs j x y hj
    rw [Nat.zero_add, h.cellAt (j * 2) (by omega), h.cellAt (j * 2 + 1) (by omega)]
    exact this

theorem IsHits.take {w : World} {ao : Option Addr} {n cap : Nat} {hs : List (Int × Int)} (h : IsHits w (.slice ao n cap) hs) (k : Nat) (hk : k ≤ n) : IsHits w (.slice ao k cap) (hs.take k) := by
  obtain ⟨ao', cap', he, h1, h2, hwf, hc⟩ := h
  simp only [Value.slice.injEq] at he
  obtain ⟨rfl, rfl, rfl⟩ := he
  have hl : (hs.take k).length = k := by simp; omega
  refine ⟨ao, cap, by rw [hl], by omega, h2, fun p hp => hwf p (List.mem_of_mem_take hp), fun hp => ?_⟩
  obtain ⟨b, off, hao, hc1⟩ := hc (by omega)
  refine ⟨b, off, hao, fun j x y hj => hc1 j x y ?_⟩
  rw [List.getElem?_take] at hj
  split at hj
  · exact hj
  · cases hj
theorem IsHits.drop {w : World} {b off n cap : Nat} {hs : List (Int × Int)} (h : IsHits w (.slice (some ⟨b, off, none⟩) n cap) hs) (k : Nat) (hk : k ≤ n) (o2 : Nat) (ho : k < n → o2 = off + k * 2) : IsHits w (.slice (some ⟨b, o2, none⟩) (n - k) (cap - k)) (hs.drop k) := by
  obtain ⟨ao', cap', he, h1, h2, hwf, hc⟩ := h
  simp only [Value.slice.injEq] at he
  obtain ⟨rfl, rfl, rfl⟩ := he
  refine ⟨_, _, by rw [List.length_drop], by rw [List.length_drop]; omega, ⟨by omega, by simp⟩, fun p hp => hwf p (List.mem_of_mem_drop hp), fun hp => ?_⟩
  rw [List.length_drop] at hp
  obtain ⟨b', off', hao, hc1⟩ := hc (by omega)
  simp only [Option.some.injEq, Addr.mk.injEq, and_true] at hao
  obtain ⟨rfl, rfl⟩ := hao
  have ho2 := ho (by omega)
  subst ho2
  refine ⟨b, _, rfl, fun j x y hj => ?_⟩
  have := hc1 (k + j) x y (by simpa [List.getElem?_drop] using hj)
  rw [show off + k * 2 + j * 2 = off + (k + j) * 2 by omega]
  exact this

/-- The cells that append reads. -/
theorem IsHits.news {w : World} {b off n cap : Nat} {hs : List (Int × Int)} (h : IsHits w (.slice (some ⟨b, off, none⟩) n cap) hs) : ∀ j u, (cells2 hs)[j]? = some u → w.cell? ((⟨b, off, none⟩ : Addr).add j) = some u := by
  intro j u hj
  obtain ⟨k, x, y, h1, h2⟩ := cells2_get hs j u hj
  obtain ⟨ao', cap', he, h3, h4, hwf, hc⟩ := h
  simp only [Value.slice.injEq] at he
  obtain ⟨rfl, rfl, rfl⟩ := he
  have hk : k < hs.length := by
    rcases Nat.lt_or_ge k hs.length with h | h
    · exact h
    · rw [List.getElem?_eq_none h] at h1; cases h1
  obtain ⟨b', off', hao, hc1⟩ := hc (by omega)
  simp only [Option.some.injEq, Addr.mk.injEq, and_true] at hao
  obtain ⟨rfl, rfl⟩ := hao
  have hadd : (⟨b, off, none⟩ : Addr).add j = ⟨b, off + j, none⟩ := Addr.add_lit _ _ _
  rw [hadd]
  have := hc1 k x y h1
  rcases h2 with ⟨rfl, rfl⟩ | ⟨rfl, rfl⟩
  · exact this.1
  · exact this.2

end Go.Proofs.Ytfgadegpdknocaa

namespace Go.Proofs.Ytfgadegpdknocaa

/-- A hit is (id, score): the lower score is better, then the lower id. -/
def bet (a b : Int × Int) : Bool := decide (a.2 < b.2) || (decide (a.2 = b.2) && decide (a.1 < b.1))
theorem bet_iff (a b : Int × Int) : bet a b = true ↔ a.2 < b.2 ∨ (a.2 = b.2 ∧ a.1 < b.1) := by simp [bet]
theorem bet_irrefl (a : Int × Int) : bet a a = false := by simp [bet]
theorem bet_trans {a b c : Int × Int} (h : bet a b = true) (k : bet b c = true) : bet a c = true := by
  rw [bet_iff] at *
  omega
theorem bet_asymm {a b : Int × Int} (h : bet a b = true) : bet b a = false := by
  cases k : bet b a with
  | false => rfl
  | true =>
    have := bet_trans h k
    rw [bet_irrefl] at this
    cases this
theorem bet_total {a b : Int × Int} (h : bet a b = false) (hne : a ≠ b) : bet b a = true := by
  rw [bet_iff]
  have h1 : ¬ (a.2 < b.2 ∨ (a.2 = b.2 ∧ a.1 < b.1)) := by rw [← bet_iff, h]; simp
  have h2 : ¬ (a.1 = b.1 ∧ a.2 = b.2) := fun ⟨e1, e2⟩ => hne (Prod.ext e1 e2)
  omega

/-- The id and the score are in their ranges. -/
def oneB (h : Int × Int) : Bool := (decide (1 ≤ h.1) && decide (h.1 ≤ 999)) && (decide (0 ≤ h.2) && decide (h.2 ≤ 12000000))

/-- What is wrong with a list of hits behind p. -/
def faultFrom : Option (Int × Int) → List (Int × Int) → Int
  | _, [] => 0
  | p, h :: r => if oneB h then (if p.all (bet · h) then faultFrom (some h) r else 1) else 3
def hitsFault (hs : List (Int × Int)) : Int := if 20 < hs.length then 2 else faultFrom none hs
/-- The hit ahead of place k. -/
def ahead (hs : List (Int × Int)) (k : Nat) : Option (Int × Int) := if k = 0 then none else hs[k - 1]?

def Sorted (hs : List (Int × Int)) : Prop := hs.Pairwise (fun a b => bet a b = true)

theorem faultFrom_zero {p : Option (Int × Int)} {hs : List (Int × Int)} (h : faultFrom p hs = 0) : (∀ x ∈ hs, oneB x = true) ∧ Sorted hs ∧ ∀ q, p = some q → ∀ x ∈ hs, bet q x = true := by
  induction hs generalizing p with
  | nil => exact ⟨by simp, List.Pairwise.nil, by simp⟩
  | cons a r ih =>
    unfold faultFrom at h
    split at h
    · next h1 =>
      split at h
      · next h2 =>
        obtain ⟨i1, i2, i3⟩ := ih h
        refine ⟨fun x hx => ?_, List.Pairwise.cons (fun x hx => i3 a rfl x hx) i2, fun q hq x hx => ?_⟩
        · rcases List.mem_cons.1 hx with rfl | hx
          · exact h1
          · exact i1 x hx
        · subst hq
          simp at h2
          rcases List.mem_cons.1 hx with rfl | hx
          · exact h2
          · exact bet_trans h2 (i3 a rfl x hx)
      · simp at h
    · simp at h
theorem hitsFault_zero {hs : List (Int × Int)} (h : hitsFault hs = 0) : hs.length ≤ 20 ∧ (∀ x ∈ hs, oneB x = true) ∧ Sorted hs := by
  unfold hitsFault at h
  split at h
  · simp at h
  · next hl =>
    obtain ⟨h1, h2, _⟩ := faultFrom_zero h
    exact ⟨by omega, h1, h2⟩
theorem hitsFault_of {hs : List (Int × Int)} (hl : hs.length ≤ 20) (h1 : ∀ x ∈ hs, oneB x = true) (h2 : Sorted hs) : hitsFault hs = 0 := by
  have key : ∀ (hs : List (Int × Int)) (p : Option (Int × Int)), (∀ x ∈ hs, oneB x = true) → Sorted hs → (∀ q, p = some q → ∀ x ∈ hs, bet q x = true) → faultFrom p hs = 0 := by
    intro hs
    induction hs with
    | nil => intros; rfl
    | cons a r ih =>
      intro p h1 h2 h3
      unfold faultFrom
      rw [if_pos (h1 a (by simp)), if_pos]
      · exact ih (some a) (fun x hx => h1 x (by simp [hx])) h2.of_cons (fun q hq x hx => by cases hq; exact List.rel_of_pairwise_cons h2 hx)
      · cases p with
        | none => rfl
        | some q => simpa using h3 q rfl a (by simp)
  unfold hitsFault
  rw [if_neg (by omega)]
  exact key hs none h1 h2 (by simp)

/-- A hit put into a list. -/
def ins : List (Int × Int) → Int × Int → List (Int × Int)
  | [], h => [h]
  | x :: r, h => if bet x h then x :: ins r h else if x = h then x :: r else h :: x :: r
theorem ins_mem {hs : List (Int × Int)} {h x : Int × Int} : x ∈ ins hs h ↔ x = h ∨ x ∈ hs := by
  induction hs with
  | nil => simp [ins]
  | cons a r ih =>
    unfold ins
    split
    · simp [ih]
      constructor
      · rintro (h | h | h) <;> simp [h]
      · rintro (h | h | h) <;> simp [h]
    · split
      · next e => subst e; simp
      · simp
theorem ins_sorted {hs : List (Int × Int)} (hs1 : Sorted hs) (h : Int × Int) : Sorted (ins hs h) := by
  induction hs with
  | nil => exact List.pairwise_singleton _ _
  | cons a r ih =>
    unfold ins
    split
    · next h1 =>
      refine List.Pairwise.cons (fun x hx => ?_) (ih hs1.of_cons)
      rcases ins_mem.1 hx with rfl | hx
      · exact h1
      · exact List.rel_of_pairwise_cons hs1 hx
    · next h1 =>
      split
      · exact hs1
      · next h2 =>
        have h3 := bet_total (by simpa using h1) h2
        refine List.Pairwise.cons (fun x hx => ?_) hs1
        rcases List.mem_cons.1 hx with rfl | hx
        · exact h3
        · exact bet_trans h3 (List.rel_of_pairwise_cons hs1 hx)
theorem ins_len (hs : List (Int × Int)) (h : Int × Int) : (ins hs h).length ≤ hs.length + 1 := by
  induction hs with
  | nil => simp [ins]
  | cons a r ih =>
    unfold ins
    split
    · simp; omega
    · split <;> simp

/-- Two lists in order with the same members are the same. -/
theorem sorted_ext {a b : List (Int × Int)} (ha : Sorted a) (hb : Sorted b) (h : ∀ x, x ∈ a ↔ x ∈ b) : a = b := by
  induction a generalizing b with
  | nil =>
    cases b with
    | nil => rfl
    | cons y s => exact absurd ((h y).2 (by simp)) (by simp)
  | cons x r ih =>
    cases b with
    | nil => exact absurd ((h x).1 (by simp)) (by simp)
    | cons y s =>
      have hxy : x = y := by
        rcases List.mem_cons.1 ((h x).1 (by simp)) with e | hx
        · exact e
        · rcases List.mem_cons.1 ((h y).2 (by simp)) with e | hy
          · exact e.symm
          · have h1 := List.rel_of_pairwise_cons ha hy
            have h2 := List.rel_of_pairwise_cons hb hx
            rw [bet_asymm h1] at h2
            cases h2
      subst hxy
      congr 1
      refine ih ha.of_cons hb.of_cons (fun z => ?_)
      constructor
      · intro hz
        rcases List.mem_cons.1 ((h z).1 (by simp [hz])) with e | hz2
        · subst e
          have := List.rel_of_pairwise_cons ha hz
          rw [bet_irrefl] at this
          cases this
        · exact hz2
      · intro hz
        rcases List.mem_cons.1 ((h z).2 (by simp [hz])) with e | hz2
        · subst e
          have := List.rel_of_pairwise_cons hb hz
          rw [bet_irrefl] at this
          cases this
        · exact hz2

/-- All hits of a list, in order. -/
def allOf (hs : List (Int × Int)) : List (Int × Int) := hs.foldl ins []
theorem foldl_sorted {a : List (Int × Int)} (ha : Sorted a) (hs : List (Int × Int)) : Sorted (hs.foldl ins a) := by
  induction hs generalizing a with
  | nil => exact ha
  | cons h r ih => exact ih (ins_sorted ha h)
theorem foldl_mem {a hs : List (Int × Int)} {x : Int × Int} : x ∈ hs.foldl ins a ↔ x ∈ a ∨ x ∈ hs := by
  induction hs generalizing a with
  | nil => simp
  | cons h r ih =>
    simp only [List.foldl_cons, ih, ins_mem, List.mem_cons]
    constructor
    · rintro ((h | h) | h) <;> simp [h]
    · rintro (h | h | h) <;> simp [h]
theorem allOf_sorted (hs : List (Int × Int)) : Sorted (allOf hs) := foldl_sorted List.Pairwise.nil hs
theorem allOf_mem {hs : List (Int × Int)} {x : Int × Int} : x ∈ allOf hs ↔ x ∈ hs := by simp [allOf, foldl_mem]
theorem allOf_of_sorted {hs : List (Int × Int)} (h : Sorted hs) : allOf hs = hs := sorted_ext (allOf_sorted hs) h (fun _ => allOf_mem)
theorem ins_allOf (hs : List (Int × Int)) (h : Int × Int) : ins (allOf hs) h = allOf (hs ++ [h]) := by simp [allOf, List.foldl_append]

/-- Cut to k ahead or behind: the first k are the same. -/
theorem ins_take {hs : List (Int × Int)} (h : Int × Int) (k : Nat) : (ins (hs.take k) h).take k = (ins hs h).take k := by
  induction hs generalizing k with
  | nil => simp
  | cons a r ih =>
    cases k with
    | zero => simp
    | succ k =>
      simp only [List.take_succ_cons]
      unfold ins
      split
      · simp [ih]
      · split
        · simp [List.take_take]
        · cases k with
          | zero => simp
          | succ k => simp [List.take_take]; try omega

/-- The best k of a list, as they are reckoned one by one. -/
def best (k : Nat) (hs : List (Int × Int)) : List (Int × Int) := hs.foldl (fun out h => (ins out h).take k) []
theorem best_eq (k : Nat) (hs : List (Int × Int)) : best k hs = (allOf hs).take k := by
  have key : ∀ (hs a : List (Int × Int)), hs.foldl (fun out h => (ins out h).take k) (a.take k) = (hs.foldl ins a).take k := by
    intro hs
    induction hs with
    | nil => intro a; rfl
    | cons h r ih =>
      intro a
      simp only [List.foldl_cons]
      rw [ins_take, ih]
  have := key hs []
  simpa [best, allOf] using this
theorem best_sorted (k : Nat) (hs : List (Int × Int)) : Sorted (best k hs) := by
  rw [best_eq]
  exact (allOf_sorted hs).sublist (List.take_sublist _ _)
theorem best_mem {k : Nat} {hs : List (Int × Int)} {x : Int × Int} (h : x ∈ best k hs) : x ∈ hs := by
  rw [best_eq] at h
  exact allOf_mem.1 (List.mem_of_mem_take h)
theorem best_len (k : Nat) (hs : List (Int × Int)) : (best k hs).length ≤ k := by
  rw [best_eq]
  simp
  omega
theorem allOf_congr {a b : List (Int × Int)} (h : ∀ x, x ∈ a ↔ x ∈ b) : allOf a = allOf b := sorted_ext (allOf_sorted a) (allOf_sorted b) (fun x => by rw [allOf_mem, allOf_mem, h])
theorem best_congr (k : Nat) {a b : List (Int × Int)} (h : ∀ x, x ∈ a ↔ x ∈ b) : best k a = best k b := by rw [best_eq, best_eq, allOf_congr h]

end Go.Proofs.Ytfgadegpdknocaa

namespace Go.Proofs.Ytfgadegpdknocaa
open Go.RowKit

structure DHit where
  id : Int
  score : Int

def Lay.tHit : Lay DHit := Lay.via (Lay.pair Lay.int Lay.int) (fun x => (x.id, x.score)) (fun p => ⟨p.1, p.2⟩)

theorem lies_Hit {w : World} {cs : List Value} {x : DHit} {bl : List Nat} : Lay.tHit.lies w cs x bl ↔ cs = [.int .i64 x.id, .int .i64 x.score] ∧ bl = [] ∧ (Lit.int .i64 x.id).wf = true ∧ (Lit.int .i64 x.score).wf = true := by
  constructor
  · intro h
    obtain ⟨c0_, r0_, e0_, s0_, rfl, rfl, h0, h1⟩ := h
    obtain ⟨rfl, w0, rfl⟩ := h0
    obtain ⟨rfl, w1, rfl⟩ := h1
    exact ⟨by simp, by simp, w0, w1⟩
  · rintro ⟨rfl, hbl, w0, w1⟩
    rw [hbl]
    exact ⟨[.int .i64 x.id], [.int .i64 x.score], [], [], rfl, by simp, ⟨rfl, w0, rfl⟩, ⟨rfl, w1, rfl⟩⟩

end Go.Proofs.Ytfgadegpdknocaa

namespace Go.Proofs.Ytfgadegpdknocaa
open Go.RowKit

structure DHitsResult where
  code : Int
  hits : List DHit

def Lay.tHitsResult : Lay DHitsResult := Lay.via (Lay.pair Lay.int (Lay.sl Lay.tHit)) (fun x => (x.code, x.hits)) (fun p => ⟨p.1, p.2⟩)

theorem lies_HitsResult {w : World} {cs : List Value} {x : DHitsResult} {bl : List Nat} : Lay.tHitsResult.lies w cs x bl ↔ ∃ (a1 : Option Addr) (d1 : Nat) (b1 : List Nat), cs = [.int .i64 x.code, .slice a1 x.hits.length d1] ∧ bl = b1 ∧ (Lit.int .i64 x.code).wf = true ∧ (Lay.sl Lay.tHit).lies w [.slice a1 x.hits.length d1] x.hits b1 := by
  constructor
  · intro h
    obtain ⟨c0_, r0_, e0_, s0_, rfl, rfl, h0, h1⟩ := h
    obtain ⟨rfl, w0, rfl⟩ := h0
    have k1 := h1
    obtain ⟨a1, d1, rfl, -⟩ := k1
    exact ⟨a1, d1, s0_, by simp, by simp, w0, h1⟩
  · rintro ⟨a1, d1, b1, rfl, hbl, w0, l1⟩
    rw [hbl]
    exact ⟨[.int .i64 x.code], [.slice a1 x.hits.length d1], [], b1, rfl, by simp, ⟨rfl, w0, rfl⟩, l1⟩

theorem open_HitsResult {w : World} {cs : List Value} {x : DHitsResult} (h : Lay.tHitsResult.Reads w cs x) : ∃ (a1 : Option Addr) (d1 : Nat), cs = [.int .i64 x.code, .slice a1 x.hits.length d1] ∧ (Lay.sl Lay.tHit).Reads w [.slice a1 x.hits.length d1] x.hits := by
  obtain ⟨bl, h⟩ := h
  obtain ⟨a1, d1, b1, rfl, -, w0, l1⟩ := lies_HitsResult.1 h
  exact ⟨a1, d1, rfl, ⟨_, l1⟩⟩

end Go.Proofs.Ytfgadegpdknocaa

namespace Go.Proofs.Ytfgadegpdknocaa
open Go.RowKit

theorem vcnt_HitsResult (x : DHitsResult) : Lay.tHitsResult.vcnt x = (Lay.sl Lay.tHit).vcnt x.hits := by
  show 0 + ((Lay.sl Lay.tHit).vcnt x.hits) = (Lay.sl Lay.tHit).vcnt x.hits
  omega
theorem mkv_HitsResult (k : Int) (x : DHitsResult) : Lay.tHitsResult.mkv k x = ⟨x.code, (Lay.sl Lay.tHit).mkv (k) x.hits⟩ := by
  simp [Lay.tHitsResult, Lay.via, Lay.pair, Lay.int]
theorem own_HitsResult {w : World} {cs : List Value} {x : DHitsResult} {bl : List Nat} (h : Lay.tHitsResult.Own w cs x bl) : ∃ (a1 : Option Addr) (d1 : Nat) (g1 : List Nat), cs = [.int .i64 x.code, .slice a1 x.hits.length d1] ∧ bl = g1 ∧ (Lay.sl Lay.tHit).Own w [.slice a1 x.hits.length d1] x.hits g1 ∧ (Lit.int .i64 x.code).wf = true := by
  obtain ⟨hl, hn, hf⟩ := h
  obtain ⟨a1, d1, b1, rfl, hbl, w0, l1⟩ := lies_HitsResult.1 hl
  rw [hbl] at hn hf
  exact ⟨a1, d1, b1, rfl, hbl, ⟨l1, hn, hf⟩, w0⟩
theorem mkOwn_HitsResult {w : World} {x : DHitsResult} {c1 : List Value} {g1 : List Nat} (O1 : (Lay.sl Lay.tHit).Own w c1 x.hits g1) (v0 : (Lit.int .i64 x.code).wf = true) (hn : (g1).Nodup) : Lay.tHitsResult.Own w ([.int .i64 x.code] ++ c1) x (g1) := by
  refine ⟨⟨[.int .i64 x.code], c1, [], g1, rfl, by simp, ⟨rfl, v0, rfl⟩, O1.1⟩, hn, ?_⟩
  intro b hb o
  exact O1.2.2 b hb o

end Go.Proofs.Ytfgadegpdknocaa

namespace Go.Proofs.Ytfgadegpdknocaa
open Go.RowKit

theorem infoHit : (Try.prog.info? 77).map (fun i => (i.zero, i.size, i.bytes)) = some (some (.agg #[.int .i64 0, .int .i64 0]), 2, 16) := by kernel_rfl

theorem made2 (n : Nat) : (madeCells #[.int .i64 0, .int .i64 0] (n * 2)).toList = cells2 (List.replicate n (0, 0)) := by
  apply List.ext_getElem?
  intro j
  by_cases hj : j < n * 2
  · obtain ⟨u, hu⟩ : ∃ u, (cells2 (List.replicate n (0, 0)))[j]? = some u := ⟨_, List.getElem?_eq_getElem (by rw [cells2_len]; simpa using hj)⟩
    obtain ⟨k, x, y, h1, h2⟩ := cells2_get _ _ _ hu
    rw [hu]
    simp [List.getElem?_replicate] at h1
    obtain ⟨h3, rfl, rfl⟩ := h1
    have hm : j % 2 = 0 ∨ j % 2 = 1 := by omega
    rcases h2 with ⟨-, rfl⟩ | ⟨-, rfl⟩ <;> rcases hm with hm | hm <;> simp [madeCells, hj, hm]
  · have h1 : (cells2 (List.replicate n ((0 : Int), (0 : Int)))).length = n * 2 := by rw [cells2_len]; simp
    rw [List.getElem?_eq_none (l := cells2 _) (by rw [h1]; omega)]
    simp [madeCells, hj]

/-- Hits that are filled in, up to k. -/
theorem set_fill2 (hs : List (Int × Int)) (k : Nat) (x y : Int) (hk : hs[k]? = some (x, y)) :
    ((cells2 (hs.take k ++ List.replicate (hs.length - k) (0, 0))).set (k * 2) (.int .i64 x)).set (k * 2 + 1) (.int .i64 y) = cells2 (hs.take (k + 1) ++ List.replicate (hs.length - (k + 1)) (0, 0)) := by
  have hlt : k < hs.length := by
    rcases Nat.lt_or_ge k hs.length with h | h
    · exact h
    · rw [List.getElem?_eq_none h] at hk; cases hk
  have hl : (cells2 (hs.take k)).length = k * 2 := by rw [cells2_len]; simp; omega
  rw [cells2_app, List.set_append_right _ _ (by omega), List.set_append_right _ _ (by omega), hl, Nat.sub_self, show k * 2 + 1 - k * 2 = 1 by omega]
  obtain ⟨m, hm⟩ : ∃ m, hs.length - k = m + 1 := ⟨hs.length - k - 1, by omega⟩
  rw [hm, show hs.length - (k + 1) = m by omega, List.replicate_succ, List.take_succ_eq_append_getElem hlt, cells2_app, cells2_app]
  have he : hs[k] = (x, y) := by simpa [hlt] using hk
  rw [he]
  simp [cells2]

theorem below_keep2 {w W W' : World} (h : Below w.heap.size w W) (k : Below W.heap.size W W') : Below w.heap.size w W' := h.trans (k.mono h.size)

end Go.Proofs.Ytfgadegpdknocaa

namespace Go.Proofs.Ytfgadegpdknocaa
open Go.RowKit

theorem l1In (v lo hi : Int) (w : World) :
    Calls Try.prog 119 #[.int .i64 v, .int .i64 lo, .int .i64 hi] w fun e w' => e = .returned (.bool (decide (lo ≤ v) && decide (v ≤ hi))) ∧ w' = w := by
  by_cases h1 : lo ≤ v
  · by_cases h2 : v ≤ hi
    · have d1 : decide (lo ≤ v) = true := by simpa using h1
      have d2 : decide (v ≤ hi) = true := by simpa using h2
      rw [d1, d2]
      go_enter Try.func119, Try.ntmps119
      go_wp2_with fail
      go_ret
      exact ⟨rfl, rfl⟩
    · have d1 : decide (lo ≤ v) = true := by simpa using h1
      have d2 : decide (v ≤ hi) = false := by simpa using h2
      rw [d1, d2]
      go_enter Try.func119, Try.ntmps119
      go_wp2_with fail
      go_ret
      exact ⟨rfl, rfl⟩
  · have d1 : decide (lo ≤ v) = false := by simpa using h1
    rw [d1]
    go_enter Try.func119, Try.ntmps119
    go_wp2_with fail
    go_ret
    exact ⟨rfl, rfl⟩

set_option maxHeartbeats 400000 in
theorem l2Better (x y a b : Int) (w : World) :
    Calls Try.prog 152 #[.agg #[.int .i64 x, .int .i64 y], .agg #[.int .i64 a, .int .i64 b]] w fun e w' => e = .returned (.bool (bet (x, y) (a, b))) ∧ Below w.heap.size w w' := by
  have B : ∀ o o2, Below w.heap.size w ((w.alloc o).alloc o2) := fun o o2 => ((Below.refl _ _).alloc (Nat.le_refl _) o).alloc (by simp) o2
  by_cases h1 : y < b
  · have d1 : decide (y < b) = true := by simpa using h1
    have e : bet (x, y) (a, b) = true := by simp [bet, h1]
    rw [e]
    go_enter Try.func152, Try.ntmps152
    go_wp2_with fail
    go_ret
    exact ⟨rfl, B _ _⟩
  · have d1 : decide (y < b) = false := by simpa using h1
    by_cases h2 : y = b
    · subst h2
      have d2 : (y == y) = true := by simp
      have e : bet (x, y) (a, y) = decide (x < a) := by simp [bet]
      rw [e]
      cases d3 : decide (x < a) <;>
      · go_enter Try.func152, Try.ntmps152
        go_wp2_with fail
        go_ret
        exact ⟨rfl, B _ _⟩
    · have d2 : (y == b) = false := by simpa using h2
      have e : bet (x, y) (a, b) = false := by simp [bet, h1, h2]
      rw [e]
      go_enter Try.func152, Try.ntmps152
      go_wp2_with fail
      go_ret
      exact ⟨rfl, B _ _⟩

theorem l1Min (a b : Int) (w : World) :
    Calls Try.prog 153 #[.int .i64 a, .int .i64 b] w fun e w' => e = .returned (.int .i64 (min a b)) ∧ w' = w := by
  by_cases h : a < b
  · have e : min a b = a := by omega
    rw [e]
    go_enter Try.func153, Try.ntmps153
    go_wp2_with fail
    go_ret
    exact ⟨rfl, rfl⟩
  · have e : min a b = b := by omega
    rw [e]
    go_enter Try.func153, Try.ntmps153
    go_wp2_with fail
    go_ret
    exact ⟨rfl, rfl⟩

end Go.Proofs.Ytfgadegpdknocaa

namespace Go.Proofs.Ytfgadegpdknocaa
open Go.RowKit

theorem at_some {α : Type} {l : List α} {k : Nat} {x : α} (h : l[k]? = some x) : k < l.length := by
  rcases Nat.lt_or_ge k l.length with h2 | h2
  · exact h2
  · rw [List.getElem?_eq_none h2] at h; cases h

theorem drop_at {α : Type} {l : List α} {k : Nat} {x : α} (h : l[k]? = some x) : l.drop k = x :: l.drop (k + 1) := by
  have hk := at_some h
  rw [List.drop_eq_getElem_cons hk]
  congr 1
  simpa [hk] using h

theorem faultFrom_step (hs : List (Int × Int)) (k : Nat) (x y : Int) (h : hs[k]? = some (x, y)) :
    faultFrom (ahead hs k) (hs.drop k) = if oneB (x, y) then (if (ahead hs k).all (bet · (x, y)) then faultFrom (ahead hs (k + 1)) (hs.drop (k + 1)) else 1) else 3 := by
  rw [drop_at h]
  have : ahead hs (k + 1) = some (x, y) := by simpa [ahead] using h
  rw [this]
  rfl

end Go.Proofs.Ytfgadegpdknocaa

namespace Go.Proofs.Ytfgadegpdknocaa
open Go.RowKit

theorem append_none {P : Program} (t ty e : TypeId) (i : TypeInfo) (ht : P.underlying t = some (.slice e)) (hi : P.info? e = some i) (bo : Option Addr) (n cap c : Nat) (hn : n ≤ cap) (w : World) :
    (Builtin.append_ #[t, t] ty #[.slice bo n cap, .slice none 0 c]).run P w = (Builtin.append_ #[t, t] ty #[.slice bo n cap, .slice (some ⟨0, 0, none⟩) 0 c]).run P w := by
  simp [Builtin.append_, run_underlying ht, sizeOf, typeInfo, hi, Builtin.lenOf, hn, Builtin.firstCells, loadCells, loadCellsFrom]

theorem run_append_hits {w : World} (base ty : Nat) (v : Value) (n : Nat) (hs : List (Int × Int)) (hown : w.ownsRow base 77 2 v n (cells2 hs)) (x : Value) (ks : List (Int × Int)) (hx : IsHits w x ks)
    (hn : n + ks.length ≤ 100000000) (hbase : base ≤ w.heap.size) :
    ∃ v' w', (Builtin.append_ #[71, 71] ty #[v, x]).run Try.prog w = .ok v' w' ∧ w'.ownsRow base 77 2 v' (n + ks.length) (cells2 (hs ++ ks)) ∧ w.grownBy w' v.ownBlock ∧
      (v'.ownBlock = v.ownBlock ∨ v'.ownBlock = some w.heap.size) := by
  obtain ⟨i0, hi, hz0, hz1, hz2⟩ := info_parts infoHit
  have hml : n + ks.length ≤ maxLen := by unfold maxLen; omega
  rw [cells2_app]
  by_cases hp : 0 < ks.length
  · have hx' := hx
    obtain ⟨ao, cap, rfl, h1, h2, hwf, hc⟩ := hx'
    obtain ⟨b, off, rfl, hc1⟩ := hc hp
    obtain ⟨v', w', r1, r2, r3, -, r5⟩ := run_append_own_at (P := Try.prog) w base 71 ty 77 i0 _ 2 16 Try.underlying71 hi hz0 hz1 hz2 rfl (by omega) v n (cells2 hs) hown ⟨b, off, none⟩ ks.length cap (cells2 ks) (cells2_len ks) hx.news (cells2_one ks) hml (by omega) hbase
    exact ⟨v', w', r1, r2, r3, r5⟩
  · obtain rfl : ks = [] := List.eq_nil_of_length_eq_zero (by omega)
    obtain ⟨ao, cap, rfl, h1, h2, hwf, hc⟩ := hx
    cases ao with
    | none =>
      obtain ⟨v', w', r1, r2, r3, -, r5⟩ := run_append_own_at (P := Try.prog) w base 71 ty 77 i0 _ 2 16 Try.underlying71 hi hz0 hz1 hz2 rfl (by omega) v n (cells2 hs) hown ⟨0, 0, none⟩ 0 cap [] rfl (by simp) (by simp) hml (by simp at hn; omega) hbase
      refine ⟨v', w', ?_, r2, r3, r5⟩
      rcases hown.2 with ⟨rfl, h0⟩ | ⟨g, cp, cur, rfl, _, _, hle, _⟩
      · exact (append_none _ _ _ i0 Try.underlying71 hi none 0 0 cap (Nat.le_refl _) w).trans r1
      · exact (append_none _ _ _ i0 Try.underlying71 hi _ n cp cap hle w).trans r1
    | some ad =>
      obtain ⟨v', w', r1, r2, r3, -, r5⟩ := run_append_own_at (P := Try.prog) w base 71 ty 77 i0 _ 2 16 Try.underlying71 hi hz0 hz1 hz2 rfl (by omega) v n (cells2 hs) hown ad 0 cap [] rfl (by simp) (by simp) hml (by simp at hn; omega) hbase
      exact ⟨v', w', r1, r2, r3, r5⟩

/-- The same at an operation of a plain region. -/
theorem wpList_append_hits {w : World} {ops : Array Oper} {rest : List Oper} {o : Oper} {a : Act} {Q : Exit → Act → World → Prop} (hgd : o.guard = none) (s x : Operand)
    (ho : o.op = .call { callee := .builtin .append, args := #[s, x], argTypes := #[71, 71] })
    (base : Nat) (v : Value) (n : Nat) (hs : List (Int × Int)) (hv : a.eval s = v) (hown : w.ownsRow base 77 2 v n (cells2 hs)) (X : Value) (ks : List (Int × Int)) (hX : a.eval x = X) (hx : IsHits w X ks)
    (hn : n + ks.length ≤ 100000000) (hbase : base ≤ w.heap.size)
    (h : ∀ v' w', w'.ownsRow base 77 2 v' (n + ks.length) (cells2 (hs ++ ks)) → w.grownBy w' v.ownBlock → (v'.ownBlock = v.ownBlock ∨ v'.ownBlock = some w.heap.size) → wpList Try.prog ops Q rest (a.put o.dst v') w') :
    wpList Try.prog ops Q (o :: rest) a w := by
  refine wpList_plain hgd fun K hK => ?_
  obtain ⟨v', w', hr, h2, h3, h4⟩ := run_append_hits base o.type v n hs hown X ks hx hn hbase
  unfold Oper.wp execOp
  simp only [ho, resolve, invoke, builtin, Sem.run_bind, Sem.run_pure, Result.andThen_ok, List.map_toArray, List.map_cons, List.map_nil, hv, hX, hr]
  exact hK _ _ (h v' w' h2 h3 h4)

/-- .. onto a row that has a block: the new slice written out. -/
theorem wpList_append_row {w : World} {ops : Array Oper} {rest : List Oper} {o : Oper} {a : Act} {Q : Exit → Act → World → Prop} (hgd : o.guard = none) (s x : Operand)
    (ho : o.op = .call { callee := .builtin .append, args := #[s, x], argTypes := #[71, 71] })
    (base g n cp : Nat) (hs : List (Int × Int)) (hv : a.eval s = .slice (some ⟨g, 0, none⟩) n cp) (hown : w.ownsRow base 77 2 (.slice (some ⟨g, 0, none⟩) n cp) n (cells2 hs)) (X : Value) (ks : List (Int × Int)) (hX : a.eval x = X) (hx : IsHits w X ks)
    (m : Nat) (hm : n + ks.length = m) (hn : m ≤ 100000000) (hbase : base ≤ w.heap.size)
    (h : ∀ g' cp' w', w'.ownsRow base 77 2 (.slice (some ⟨g', 0, none⟩) m cp') m (cells2 (hs ++ ks)) → w.grownBy w' (some g) → (g' = g ∨ g' = w.heap.size) → wpList Try.prog ops Q rest (a.put o.dst (.slice (some ⟨g', 0, none⟩) m cp')) w') :
    wpList Try.prog ops Q (o :: rest) a w := by
  subst hm
  refine wpList_append_hits hgd s x ho base _ n hs hv hown X ks hX hx hn hbase fun v' w' h2 h3 h4 => ?_
  rcases h2.2 with ⟨rfl, h0⟩ | ⟨g', cap', cur, rfl, _⟩
  · rcases h4 with h4 | h4 <;> simp [Value.ownBlock] at h4
  · exact h g' cap' w' h2 h3 (by rcases h4 with h4 | h4 <;> simp [Value.ownBlock] at h4 <;> simp [h4])

/-- A row's first hits are a row. -/
theorem own_take {w : World} {base T g n cap : Nat} {hs : List (Int × Int)} (h : w.ownsRow base T 2 (.slice (some ⟨g, 0, none⟩) n cap) n (cells2 hs)) (k : Nat) (hk : k ≤ n) :
    w.ownsRow base T 2 (.slice (some ⟨g, 0, none⟩) k cap) k (cells2 (hs.take k)) := by
  have hl : (cells2 hs).length = n * 2 := h.1
  rcases h.2 with ⟨h', _⟩ | ⟨g', cap', cur, h', hb, hg, hnc, hcm, hcs, htake⟩
  · simp at h'
  · simp only [Value.slice.injEq, Option.some.injEq, Addr.mk.injEq, and_true, true_and] at h'
    obtain ⟨rfl, rfl⟩ := h'
    refine ⟨?_, .inr ⟨g, cap, cur, rfl, hb, hg, by omega, hcm, hcs, ?_⟩⟩
    · rw [cells2_len] at hl ⊢
      simp
      omega
    · rw [← cells2_take, ← htake, List.take_take]
      congr 1
      omega

end Go.Proofs.Ytfgadegpdknocaa

namespace Go.Proofs.Ytfgadegpdknocaa
open Go.RowKit

theorem eqIn2 (a b c d : Int) (w : World) : (Op.equalIn 10000 77 (.agg #[.int .i64 a, .int .i64 b]) (.agg #[.int .i64 c, .int .i64 d])).run Try.prog w = .ok (a == c && b == d) w := by
  have u3 := Try.underlying2
  have a3 := Try.isAgg2
  have z3 := Try.sizeOf2
  have hS : Try.prog.underlying 77 = some (.struct (Try.prog.fieldsOf 77)) := by kernel_rfl
  have hp : Try.prog.stoodInHeld 77 = false := by kernel_rfl
  rw [show (10000 : Nat) = 9999 + 1 from rfl, run_equalIn_agg w 9999 77 _ _ hS hp]
  simp only [Program.fieldsOf, Try.underlying77]
  go_simp
  by_cases h1 : a = c <;> by_cases h2 : b = d <;> simp [h1, h2]
theorem neq2 (a b c d : Int) (w : World) : (binOp .neq 77 (.agg #[.int .i64 a, .int .i64 b]) (.agg #[.int .i64 c, .int .i64 d])).run Try.prog w = .ok (.bool (!(a == c && b == d))) w := by
  simp only [binOp]
  simp only [Op.equal, Op.maxDepth]
  simp [eqIn2]
theorem eql2 (a b c d : Int) (w : World) : (binOp .eql 77 (.agg #[.int .i64 a, .int .i64 b]) (.agg #[.int .i64 c, .int .i64 d])).run Try.prog w = .ok (.bool (a == c && b == d)) w := by
  simp only [binOp]
  simp only [Op.equal, Op.maxDepth]
  simp [eqIn2]

end Go.Proofs.Ytfgadegpdknocaa

namespace Go.Proofs.Ytfgadegpdknocaa
open Go.RowKit

/-- How many hits at the head are better than h. -/
def posOf : List (Int × Int) → Int × Int → Nat
  | [], _ => 0
  | a :: r, h => if bet a h then posOf r h + 1 else 0
theorem posOf_le (hs : List (Int × Int)) (h : Int × Int) : posOf hs h ≤ hs.length := by
  induction hs with
  | nil => simp [posOf]
  | cons a r ih =>
    unfold posOf
    split <;> simp
    omega
theorem ins_pos (hs : List (Int × Int)) (h : Int × Int) : ins hs h = hs.take (posOf hs h) ++ (if hs[posOf hs h]? = some h then [] else [h]) ++ hs.drop (posOf hs h) := by
  induction hs with
  | nil => simp [ins, posOf]
  | cons a r ih =>
    unfold ins posOf
    split
    · simp [ih]
    · simp
      split <;> simp
/-- The test of the model's loop at place k. -/
def goOn (hs : List (Int × Int)) (h : Int × Int) (k : Nat) : Bool := (hs[k]?).any (bet · h)
theorem goOn_true {hs : List (Int × Int)} {h : Int × Int} {k : Nat} (hg : goOn hs h k = true) : k < hs.length ∧ posOf (hs.drop k) h = posOf (hs.drop (k + 1)) h + 1 := by
  unfold goOn at hg
  cases e : hs[k]? with
  | none => rw [e] at hg; simp at hg
  | some q =>
    rw [e] at hg
    refine ⟨at_some e, ?_⟩
    rw [drop_at e]
    simp only [Option.any_some] at hg
    simp [posOf, hg]
theorem goOn_false {hs : List (Int × Int)} {h : Int × Int} {k : Nat} (hg : goOn hs h k = false) : posOf (hs.drop k) h = 0 := by
  unfold goOn at hg
  cases e : hs[k]? with
  | none =>
    have : hs.length ≤ k := by simpa using e
    rw [List.drop_eq_nil_of_le this]
    rfl
  | some q =>
    rw [e] at hg
    rw [drop_at e]
    simp only [Option.any_some] at hg
    simp [posOf, hg]

theorem own_le {w : World} {base T sz g n cap : Nat} {xs : List Value} (h : w.ownsRow base T sz (.slice (some ⟨g, 0, none⟩) n cap) n xs) : n ≤ cap := by
  rcases h.2 with ⟨h0, _⟩ | ⟨g, c, cur, h0, _, _, h1, _⟩
  · simp at h0
  · simp only [Value.slice.injEq] at h0
    obtain ⟨-, -, rfl⟩ := h0
    exact h1
theorem hit_new {w : World} (x y : Int) (h : Wf2 (x, y)) : IsHits (w.alloc (.cells #[.int .i64 x, .int .i64 y] 77)) (.slice (some ⟨w.heap.size, 0, none⟩) 1 1) [(x, y)] := by
  obtain ⟨q0, q1⟩ := new_cells (w := w) (T := 77) (x := .int .i64 x) (y := .int .i64 y)
  refine ⟨_, _, rfl, by simp, ⟨by unfold maxLen; omega, by simp⟩, by simpa using h, fun _ => ⟨w.heap.size, 0, rfl, fun j a b hj => ?_⟩⟩
  cases j with
  | zero =>
    simp at hj
    obtain ⟨rfl, rfl⟩ := hj
    exact ⟨q0, q1⟩
  | succ j => simp at hj

set_option maxRecDepth 100000 in
set_option maxHeartbeats 1000000 in
theorem l2Add_pos (b off cap : Nat) (hs : List (Int × Int)) (x y : Int) (k : Nat) (w : World) (hp : 0 < hs.length) (hn : hs.length ≤ 100000) (hcap : hs.length ≤ cap) (hm : cap ≤ maxLen) (hwf : ∀ p ∈ hs, Wf2 p) (hwh : Wf2 (x, y))
    (hc : ∀ j x y, hs[j]? = some (x, y) → w.cell? ⟨b, off + j * 2, none⟩ = some (.int .i64 x) ∧ w.cell? ⟨b, off + j * 2 + 1, none⟩ = some (.int .i64 y)) :
    Calls Try.prog 140 #[.slice (some ⟨b, off, none⟩) hs.length cap, .agg #[.int .i64 x, .int .i64 y], .int .i64 k] w fun e w' => ∃ g cap', e = .returned (.slice (some ⟨g, 0, none⟩) ((ins hs (x, y)).take k).length cap') ∧
      w'.ownsRow w.heap.size 77 2 (.slice (some ⟨g, 0, none⟩) ((ins hs (x, y)).take k).length cap') ((ins hs (x, y)).take k).length (cells2 ((ins hs (x, y)).take k)) ∧ Below w.heap.size w w' := by
  have HH : Hid (∀ W, Below w.heap.size w W → IsHits W (.slice (some ⟨b, off, none⟩) hs.length cap) hs) := fun W hW => IsHits.later ⟨_, _, rfl, hcap, ⟨hm, by simp⟩, hwf, fun _ => ⟨b, off, rfl, hc⟩⟩ hW
  obtain ⟨q0, q1⟩ := new_cells (w := w) (T := 77) (x := .int .i64 x) (y := .int .i64 y)
  have B0 : Below w.heap.size w (w.alloc (.cells #[.int .i64 x, .int .i64 y] 77)) := (Below.refl _ _).alloc (Nat.le_refl _) _
  have HWF := hide hwf
  have HC := hide hc
  clear hwf hc
  go_enter Try.func140, Try.ntmps140
  go_wp2_with fail
  go_loopw [7] (fun i wr => ∃ j : Nat, j ≤ hs.length ∧ i = .int .i64 j ∧ j + posOf (hs.drop j) (x, y) = posOf hs (x, y) ∧ wr.cell? ⟨w.heap.size, 0, none⟩ = some (.int .i64 x) ∧ wr.cell? ⟨w.heap.size, 1, none⟩ = some (.int .i64 y) ∧ Below w.heap.size w wr) (fun i _ => hs.length - (intOf i).toNat)
  case atStart => exact ⟨0, Nat.zero_le _, rfl, by simp, q0, q1, B0⟩
  case round =>
    obtain ⟨j, hj, rfl, hps, r0, r1, hB⟩ := hrel
    clear q0 q1 B0
    have HPS := hide hps
    have HB := hide hB
    clear hps hB
    go_upto_region 2 with fail
    go_cut [20] from 9 to 22 (fun s20 wx => s20 = .bool (goOn hs (x, y) j) ∧ wx.cell? ⟨w.heap.size, 0, none⟩ = some (.int .i64 x) ∧ wx.cell? ⟨w.heap.size, 1, none⟩ = some (.int .i64 y) ∧ Below w.heap.size w wx)
    case first =>
      by_cases hlt : j < hs.length
      · obtain ⟨x2, y2, hxy⟩ : ∃ x y, hs[j]? = some (x, y) := ⟨hs[j].1, hs[j].2, by simp [hlt]⟩
        have p1 := ((unhide HB).cell (World.block_lt_of_cell? _ _ (unhide HC j x2 y2 hxy).1)).trans (unhide HC j x2 y2 hxy).1
        have p2 := ((unhide HB).cell (World.block_lt_of_cell? _ _ (unhide HC j x2 y2 hxy).2)).trans (unhide HC j x2 y2 hxy).2
        have hgo : goOn hs (x, y) j = bet (x2, y2) (x, y) := by simp [goOn, hxy]
        have HG := hide hgo
        have g1 : decide ((j : Int) < (hs.length : Int)) = true := by simp; omega
        have g3 : (j : Int) < (hs.length : Int) := by omega
        have g5 : (0 : Int) ≤ (j : Int) := by omega
        have LB : Hid (∀ W, Calls Try.prog 152 #[.agg #[.int .i64 x2, .int .i64 y2], .agg #[.int .i64 x, .int .i64 y]] W fun e w' => e = .returned (.bool (bet (x2, y2) (x, y))) ∧ Below W.heap.size W w') := fun W => l2Better x2 y2 x y W
        clear hxy hgo HPS HC HWF HH
        go_region_held3 (fun w' => Below wr.heap.size wr w' ∧ w'.cell? ⟨b, off + j * 2, none⟩ = some (.int .i64 x2) ∧ w'.cell? ⟨b, off + j * 2 + 1, none⟩ = some (.int .i64 y2) ∧ w'.cell? ⟨w.heap.size, 0, none⟩ = some (.int .i64 x) ∧ w'.cell? ⟨w.heap.size, 1, none⟩ = some (.int .i64 y))
          (first
            | exact ⟨(Below.refl _ _).drew, p1, p2, r0, r1⟩
            | (refine ⟨below_keep2 ?_ hb2, cell_keep hb2 ?_, cell_keep hb2 ?_, cell_keep hb2 ?_, cell_keep hb2 ?_⟩ <;> (first | assumption | (go_split_ands; assumption)))
            | go_keep)
          (first
            | (go_at_call 152; refine (unhide LB _).mono ?_; rintro e w2 ⟨rfl, hb2⟩))
        go_wp2_with fail
        go_meet
        refine ⟨congrArg Value.bool (unhide HG).symm, ?_, ?_, below_keep2 (unhide HB) ?_⟩ <;> (first | assumption | (go_split_ands; assumption))
      · obtain rfl : j = hs.length := by omega
        have hgo : goOn hs (x, y) hs.length = false := by simp [goOn]
        have HG := hide hgo
        have g1 : decide ((hs.length : Int) < (hs.length : Int)) = false := by simp
        clear hgo HPS HC HWF HH
        go_quiet (fail)
        go_wp2_with fail
        go_meet
        exact ⟨congrArg Value.bool (unhide HG).symm, r0, r1, below_drewN (unhide HB) _⟩
    case rest =>
    obtain ⟨rfl, s0, s1, hBc⟩ := hcut
    clear r0 r1 HB HC
    cases hg : goOn hs (x, y) j with
    | true =>
      obtain ⟨hlt, he⟩ := goOn_true hg
      have HP2 : Hid (j + 1 + posOf (hs.drop (j + 1)) (x, y) = posOf hs (x, y)) := by
        show j + 1 + posOf (hs.drop (j + 1)) (x, y) = posOf hs (x, y)
        have := unhide HPS
        omega
      have HBc := hide hBc
      clear he HPS hg hBc
      go_wp2_with fail
      go_roundw
      case rel => exact ⟨j + 1, by omega, by go_num, unhide HP2, s0, s1, unhide HBc⟩
      case measure => simp [intOf]; omega
    | false =>
      have hpo := goOn_false hg
      have hps := unhide HPS
      rw [hpo, Nat.add_zero] at hps
      have HE := hide hps
      have HBc := hide hBc
      clear hpo hps hg hBc HPS
      have hjc : (j : Int) ≤ (cap : Int) := by omega
      have hsz := World.block_lt_of_cell? _ _ s0
      have ba : Below w.heap.size w (wc.alloc (.cells #[] 77)) := (unhide HBc).alloc (unhide HBc).size _
      have O1 : (wc.alloc (.cells #[] 77)).ownsRow (w.heap.size + 1) 77 2 (.slice (some ⟨wc.heap.size, 0, none⟩) 0 0) 0 (cells2 []) := World.ownsRow_lit wc #[] 0 hsz (by unfold maxLen; omega) rfl
      have I1 := ((unhide HH) _ ba).take j hj
      have hlj : (hs.take j).length = j := by simp; omega
      have HBA := hide ba
      have HL := hide hlj
      have n1 := World.grownBy_alloc wc (.cells #[] 77) none
      have S0 := n1.cell s0 (by simp)
      have S1 := n1.cell s1 (by simp)
      clear ba n1 hlj
      go_wp2_with (at_builtin; refine wpList_append_row rfl _ _ rfl (w.heap.size + 1) wc.heap.size 0 0 [] rfl O1 _ (hs.take j) rfl I1 j ?o1 ?o2 ?o3 ?_)
      case o2 => omega
      case o3 => omega
      intro g1 cp1 w1 O2 G1 A1
      have hg1 := (O2.lt g1 rfl).1
      have b1 : Below w.heap.size w w1 := (unhide HBA).grown G1 (by simp; omega) (fun k hk => by simp at hk; omega)
      have S0' := G1.cell S0 (by simp; omega)
      have S1' := G1.cell S1 (by simp; omega)
      have hsz1 : w.heap.size + 1 ≤ w1.heap.size := by have := G1.size; simp at this; omega
      have HB1 := hide b1
      have HO2 := hide O2
      clear O1 I1 S0 S1 s0 s1 G1 A1 HBA HBc b1 O2 hsz
      go_upto_region 5 with fail
      go_cut [39] from 28 to 38 (fun s39 wx => s39 = .bool (decide (hs[j]? ≠ some (x, y))) ∧ wx.cell? ⟨w.heap.size, 0, none⟩ = some (.int .i64 x) ∧ wx.cell? ⟨w.heap.size, 1, none⟩ = some (.int .i64 y) ∧ wx.ownsRow (w.heap.size + 1) 77 2 (.slice (some ⟨g1, 0, none⟩) j cp1) j (cells2 (hs.take j)) ∧ w.heap.size + 1 ≤ wx.heap.size ∧ Below w.heap.size w wx)
      case first =>
        by_cases hlt : j < hs.length
        · obtain ⟨x2, y2, hxy⟩ : ∃ x y, hs[j]? = some (x, y) := ⟨hs[j].1, hs[j].2, by simp [hlt]⟩
          obtain ⟨_, _, e1, _, _, _, hcc⟩ := unhide HH w1 (unhide HB1)
          simp only [Value.slice.injEq] at e1
          obtain ⟨rfl, -, rfl⟩ := e1
          obtain ⟨_, _, e2, hcc⟩ := hcc hp
          simp only [Option.some.injEq, Addr.mk.injEq, and_true] at e2
          obtain ⟨rfl, rfl⟩ := e2
          obtain ⟨p1, p2⟩ := hcc j x2 y2 hxy
          have hd : decide (hs[j]? ≠ some (x, y)) = (!x2 == x || !y2 == y) := by
            rw [hxy]
            by_cases h1 : x2 = x <;> by_cases h2 : y2 = y <;> simp [h1, h2]
          have HG := hide hd
          have g1 : ((j : Int) == (hs.length : Int)) = false := by simp; omega
          have g3 : (j : Int) < (hs.length : Int) := by omega
          have g5 : (0 : Int) ≤ (j : Int) := by omega
          have hin := eqIn2 x2 y2 x y
          have hne := neq2 x2 y2 x y
          clear hxy hcc hd HWF HH
          go_quiet (fail)
          go_wp2_with fail
          go_meet
          exact ⟨congrArg Value.bool (unhide HG).symm, S0', S1', unhide HO2, hsz1, below_drewN (unhide HB1) _⟩
        · obtain rfl : j = hs.length := by omega
          have hd : decide (hs[hs.length]? ≠ some (x, y)) = true := by simp
          have HG := hide hd
          have g1 : ((hs.length : Int) == (hs.length : Int)) = true := by simp
          clear hd HWF HH
          go_quiet (fail)
          go_wp2_with fail
          go_meet
          exact ⟨congrArg Value.bool (unhide HG).symm, S0', S1', unhide HO2, hsz1, below_drewN (unhide HB1) _⟩
      case rest =>
      obtain ⟨rfl, u0, u1, O3, hsz3, hb3⟩ := hcut
      clear S0' S1' HB1 HO2 hsz1
      have HB3 := hide hb3
      have HO3 := hide O3
      clear hb3 O3
      go_upto_if 39 with fail
      go_cut [8] from 39 to 43 (fun s8 wx => ∃ (g2 cp2 n2 : Nat) (ms : List (Int × Int)), s8 = .slice (some ⟨g2, 0, none⟩) n2 cp2 ∧ ms.length = n2 ∧ n2 ≤ j + 1 ∧ ms = hs.take j ++ (if hs[j]? = some (x, y) then [] else [(x, y)]) ∧ wx.ownsRow (w.heap.size + 1) 77 2 (.slice (some ⟨g2, 0, none⟩) n2 cp2) n2 (cells2 ms) ∧ w.heap.size + 1 ≤ wx.heap.size ∧ Below w.heap.size w wx)
      case first =>
        by_cases hd : hs[j]? = some (x, y)
        · have d1 : decide (hs[j]? ≠ some (x, y)) = false := by simp [hd]
          rw [d1]
          have HD := hide hd
          clear d1 hd HH HWF
          go_wp2_with fail
          go_meet
          exact ⟨g1, cp1, j, hs.take j, rfl, by simp; omega, by omega, by simp [unhide HD], unhide HO3, hsz3, unhide HB3⟩
        · have d1 : decide (hs[j]? ≠ some (x, y)) = true := by simp [hd]
          rw [d1]
          have HD := hide hd
          have O3 := (unhide HO3).alloc (.cells #[.int .i64 x, .int .i64 y] 77)
          have X3 : IsHits (wc.alloc (.cells #[.int .i64 x, .int .i64 y] 77)) (.slice (some ⟨wc.heap.size, 0, none⟩) 1 1) [(x, y)] := hit_new x y hwh
          have b3 : Below w.heap.size w (wc.alloc (.cells #[.int .i64 x, .int .i64 y] 77)) := (unhide HB3).alloc (unhide HB3).size _
          have HB4 := hide b3
          clear d1 hd HH HWF b3
          go_wp2_with (at_builtin; refine wpList_append_row rfl _ _ rfl (w.heap.size + 1) g1 j cp1 (hs.take j) rfl O3 _ [(x, y)] rfl X3 (j + 1) rfl ?o5 ?o6 ?_)
          case o5 => omega
          case o6 => simp; omega
          intro g2 cp2 w2 O4 G2 A2
          have b4 : Below w.heap.size w w2 := (unhide HB4).grown G2 (by simp; omega) (fun k hk => by simp at hk; omega)
          have hs2 : w.heap.size + 1 ≤ w2.heap.size := by have := G2.size; simp at this; omega
          have HO4 := hide O4
          have HB5 := hide b4
          clear O3 X3 G2 A2 O4 b4 HB4
          go_wp2_with fail
          go_meet
          exact ⟨g2, cp2, j + 1, hs.take j ++ [(x, y)], rfl, by simp; omega, by omega, by simp [unhide HD], unhide HO4, hs2, unhide HB5⟩
      case rest =>
      obtain ⟨g2, cp2, n2, ms, rfl, hml, hn2, hms, O5, hsz5, hb5⟩ := hcut
      have I5 := (unhide HH) _ hb5
      have HB5 := hide hb5
      have HO5 := hide O5
      have HM := hide hms
      have HM2 := hide hml
      clear u0 u1 hsz3 HB3 HO3 hb5 hms HH HWF
      have hjl : (j : Int) ≤ (hs.length : Int) := by omega
      have hlc : (hs.length : Int) ≤ (cap : Int) := by omega
      have hld : (hs.drop j).length = hs.length - j := by simp
      have HLD := hide hld
      have HI5 := hide I5
      clear hld I5
      go_upto_region 7 with fail
      go_cut [8] from 44 to 48 (fun s8 wx => ∃ g3 cp3 : Nat, s8 = .slice (some ⟨g3, 0, none⟩) (n2 + (hs.length - j)) cp3 ∧ wx.ownsRow (w.heap.size + 1) 77 2 (.slice (some ⟨g3, 0, none⟩) (n2 + (hs.length - j)) cp3) (n2 + (hs.length - j)) (cells2 (ms ++ hs.drop j)) ∧ Below w.heap.size w wx)
      case first =>
        have hg2 := (O5.lt g2 rfl).1
        have fin : ∀ (g3 cp3 : Nat) (w3 : World), w3.ownsRow (w.heap.size + 1) 77 2 (.slice (some ⟨g3, 0, none⟩) (n2 + (hs.length - j)) cp3) (n2 + (hs.length - j)) (cells2 (ms ++ hs.drop j)) → wc.grownBy w3 (some g2) → Below w.heap.size w w3 := fun g3 cp3 w3 _ G => (unhide HB5).grown G (by omega) (fun k hk => by simp at hk; omega)
        by_cases hjc2 : j = cap
        · have hz : n2 + (hs.length - j) = n2 := by omega
          have hdz : hs.drop j = [] := List.drop_eq_nil_of_le (by omega)
          have HZ := hide hz
          have HDZ := hide hdz
          have hle2 := own_le O5
          clear O5 hz hdz fin
          subst hjc2
          go_wp2_with fail
          go_meet
          exact ⟨g2, cp2, by rw [unhide HZ], by rw [unhide HZ, unhide HDZ, List.append_nil]; exact unhide HO5, unhide HB5⟩
        · have X5 : IsHits wc (.slice (some ⟨b, off + j * 2, none⟩) (hs.length - j) (cap - j)) (hs.drop j) := (unhide HI5).drop j hj _ (fun _ => rfl)
          go_wp2_with (at_builtin; refine wpList_append_row rfl _ _ rfl (w.heap.size + 1) g2 n2 cp2 ms rfl O5 _ (hs.drop j) rfl X5 (n2 + (hs.length - j)) (by rw [unhide HLD]) (by omega) (by omega) ?_)
          intro g3 cp3 w3 O6 G3 A3
          have b6 := fin g3 cp3 w3 O6 G3
          have HO6 := hide O6
          have HB6 := hide b6
          clear O5 O6 G3 A3 b6 fin X5
          go_wp2_with fail
          go_meet
          exact ⟨g3, cp3, rfl, unhide HO6, unhide HB6⟩
      case rest =>
      obtain ⟨g3, cp3, rfl, O7, hb7⟩ := hcut
      have hls : ms ++ hs.drop j = ins hs (x, y) := by
        have he := unhide HE
        have h2 := unhide HM
        subst h2
        rw [ins_pos, ← he]
      have hll : n2 + (hs.length - j) = (ins hs (x, y)).length := by rw [← hls, List.length_append, unhide HM2, unhide HLD]
      rw [hls] at O7
      rw [hll] at O7 ⊢
      have hle := own_le O7
      have hin := ins_len hs (x, y)
      have hlk : ((ins hs (x, y)).take k).length = min k (ins hs (x, y)).length := by simp
      have HO7 := hide (own_mono (Nat.le_succ _) (own_take O7 (min k (ins hs (x, y)).length) (by omega)))
      have HB7 := hide hb7
      have HK := hide hlk
      have e1 : (ins hs (x, y)).take (min k (ins hs (x, y)).length) = (ins hs (x, y)).take k := by rw [← List.take_eq_take_min]
      have HE1 := hide e1
      clear O5 O7 hb7 hls hll hlk e1 HM HE HB5 HO5 HM2 HI5 HLD hml hjl hlc
      generalize (ins hs (x, y)).length = N at *
      go_wp2_with fail
      refine (l1Min (k : Int) (N : Int) _).mono ?_
      rintro e w9 ⟨rfl, rfl⟩
      have e2 : min (k : Int) (N : Int) = ((min k N : Nat) : Int) := by omega
      rw [e2]
      have c1 : ((min k N : Nat) : Int) ≤ (cp3 : Int) := by omega
      go_wp2_with fail
      go_ret
      refine ⟨g3, cp3, by rw [unhide HK]; rfl, ?_, unhide HB7⟩
      rw [unhide HK, ← unhide HE1]
      exact unhide HO7


set_option maxRecDepth 100000 in
set_option maxHeartbeats 1000000 in
theorem l2Add_zero (ao : Option Addr) (cap : Nat) (x y : Int) (k : Nat) (w : World) (hm : cap ≤ maxLen ∧ (ao = none → cap = 0)) (hwh : Wf2 (x, y)) :
    Calls Try.prog 140 #[.slice ao 0 cap, .agg #[.int .i64 x, .int .i64 y], .int .i64 k] w fun e w' => ∃ g cap', e = .returned (.slice (some ⟨g, 0, none⟩) (min k 1) cap') ∧
      w'.ownsRow w.heap.size 77 2 (.slice (some ⟨g, 0, none⟩) (min k 1) cap') (min k 1) (cells2 ([(x, y)].take (min k 1))) ∧ Below w.heap.size w w' := by
  obtain ⟨q0, q1⟩ := new_cells (w := w) (T := 77) (x := .int .i64 x) (y := .int .i64 y)
  have B0 : Below w.heap.size w (w.alloc (.cells #[.int .i64 x, .int .i64 y] 77)) := (Below.refl _ _).alloc (Nat.le_refl _) _
  have g1 : decide ((0 : Int) < 0) = false := by decide
  have g2 : ((0 : Int) == 0) = true := by decide
  go_enter Try.func140, Try.ntmps140
  go_wp2_with fail
  refine wp_loop_rounds 1 ?_
  rw [rounds_succ]
  go_wp2_with fail
  go_quiet (fail)
  go_upto_region 4 with fail
  generalize hwa : w.alloc (.cells #[.int .i64 x, .int .i64 y] 77) = wa at *
  have hsa : w.heap.size < wa.heap.size := World.block_lt_of_cell? _ _ q0
  have HB0 := hide B0
  clear hwa B0
  go_cut [8] from 23 to 27 (fun s8 wx => ∃ g1 : Nat, s8 = .slice (some ⟨g1, 0, none⟩) 0 0 ∧ wx.ownsRow (w.heap.size + 1) 77 2 (.slice (some ⟨g1, 0, none⟩) 0 0) 0 (cells2 []) ∧ wx.cell? ⟨w.heap.size, 0, none⟩ = some (.int .i64 x) ∧ wx.cell? ⟨w.heap.size, 1, none⟩ = some (.int .i64 y) ∧ Below w.heap.size w wx)
  case first =>
    have O1 : (wa.alloc (.cells #[] 77)).ownsRow (w.heap.size + 1) 77 2 (.slice (some ⟨wa.heap.size, 0, none⟩) 0 0) 0 (cells2 []) := World.ownsRow_lit wa #[] 0 hsa (by unfold maxLen; omega) rfl
    have n1 := World.grownBy_alloc wa (.cells #[] 77) none
    have S0 := n1.cell q0 (by simp)
    have S1 := n1.cell q1 (by simp)
    have b1 : Below w.heap.size w (wa.alloc (.cells #[] 77)) := (unhide HB0).alloc (by omega) _
    have HO1 := hide O1
    have HS0 := hide S0
    have HS1 := hide S1
    have HB1 := hide b1
    clear O1 S0 S1 b1 n1
    cases ao with
    | none =>
      obtain rfl := hm.2 rfl
      clear hm
      go_wp2_with fail
      go_meet
      exact ⟨wa.heap.size, rfl, unhide HO1, unhide HS0, unhide HS1, below_drewN (unhide HB1) _⟩
    | some a =>
      have hm1 := hm.1
      clear hm
      go_wp2_with fail
      go_meet
      exact ⟨wa.heap.size, rfl, unhide HO1, unhide HS0, unhide HS1, below_drewN (unhide HB1) _⟩
  case rest =>
  obtain ⟨g1, rfl, O1, s0, s1, hb1⟩ := hcut
  clear q0 q1 HB0 hsa
  have hg1 := (O1.lt g1 rfl).1
  have hsz := World.block_lt_of_cell? _ _ s0
  go_wp2_with fail
  go_quiet (fail)
  have O3 : ∀ n, ((wc.alloc (.cells #[.int .i64 x, .int .i64 y] 77)).drewN n).ownsRow (w.heap.size + 1) 77 2 (.slice (some ⟨g1, 0, none⟩) 0 0) 0 (cells2 []) := fun n => O1.alloc (.cells #[.int .i64 x, .int .i64 y] 77)
  have X3 : ∀ n, IsHits ((wc.alloc (.cells #[.int .i64 x, .int .i64 y] 77)).drewN n) (.slice (some ⟨wc.heap.size, 0, none⟩) 1 1) [(x, y)] := fun n => (hit_new x y hwh).later (below_drewN (Below.refl _ _) n)
  have HB1 := hide hb1
  clear hb1
  go_wp2_with (at_builtin; refine wpList_append_row rfl _ _ rfl (w.heap.size + 1) g1 0 0 [] rfl (O3 _) _ [(x, y)] rfl (X3 _) 1 rfl ?o5 ?o6 ?_)
  case o5 => omega
  case o6 => simp; omega
  intro g2 cp2 w2 O4 G2 A2
  have b4 : Below w.heap.size w w2 := ((below_drawn (unhide HB1) _).alloc (by simp; omega) _).grown G2 (by simp; omega) (fun k hk => by simp at hk; omega)
  have hle2 := own_le O4
  have HO4 := hide O4
  have HB4 := hide b4
  clear O1 O3 X3 G2 A2 O4 b4 HB1 s0 s1 hsz hg1
  go_upto_region 7 with fail
  go_cut [8] from 44 to 48 (fun s8 wx => s8 = .slice (some ⟨g2, 0, none⟩) 1 cp2 ∧ wx.ownsRow (w.heap.size + 1) 77 2 (.slice (some ⟨g2, 0, none⟩) 1 cp2) 1 (cells2 [(x, y)]) ∧ Below w.heap.size w wx)
  case first =>
    cases ao with
    | none =>
      obtain rfl := hm.2 rfl
      clear hm
      go_wp2_with fail
      go_meet
      exact ⟨rfl, unhide HO4, unhide HB4⟩
    | some a =>
      have hm1 := hm.1
      clear hm
      go_wp2_with fail
      go_meet
      exact ⟨rfl, unhide HO4, unhide HB4⟩
  case rest =>
  obtain ⟨rfl, O7, hb7⟩ := hcut
  have HO7 := hide (own_mono (Nat.le_succ _) (own_take O7 (min k 1) (by omega)))
  have HB7 := hide hb7
  clear O7 hb7 HO4 HB4
  go_wp2_with fail
  refine (l1Min (k : Int) 1 _).mono ?_
  rintro e w9 ⟨rfl, rfl⟩
  have e2 : min (k : Int) 1 = ((min k 1 : Nat) : Int) := by omega
  rw [e2]
  have c1 : ((min k 1 : Nat) : Int) ≤ (cp2 : Int) := by omega
  go_wp2_with fail
  go_ret
  exact ⟨g2, cp2, rfl, unhide HO7, unhide HB7⟩

/-- l2Add: the hit put into the list, the first k. -/
theorem l2Add (v : Value) (hs : List (Int × Int)) (x y : Int) (k : Nat) (w : World) (h : IsHits w v hs) (hn : hs.length ≤ 100000) (hwh : Wf2 (x, y)) :
    Calls Try.prog 140 #[v, .agg #[.int .i64 x, .int .i64 y], .int .i64 k] w fun e w' => ∃ g cap', e = .returned (.slice (some ⟨g, 0, none⟩) ((ins hs (x, y)).take k).length cap') ∧
      w'.ownsRow w.heap.size 77 2 (.slice (some ⟨g, 0, none⟩) ((ins hs (x, y)).take k).length cap') ((ins hs (x, y)).take k).length (cells2 ((ins hs (x, y)).take k)) ∧ Below w.heap.size w w' := by
  obtain ⟨ao, cap, rfl, h1, h2, hwf, hc⟩ := h
  by_cases hp : 0 < hs.length
  · obtain ⟨b, off, rfl, hc1⟩ := hc hp
    exact l2Add_pos b off cap hs x y k w hp hn h1 h2.1 hwf hwh hc1
  · obtain rfl : hs = [] := List.eq_nil_of_length_eq_zero (by omega)
    refine (l2Add_zero ao cap x y k w h2 hwh).mono ?_
    rintro e w' ⟨g, c, rfl, ho, hb⟩
    have e1 : ((ins [] (x, y)).take k).length = min k 1 := by simp [ins]
    have e2 : (ins [] (x, y)).take k = [(x, y)].take (min k 1) := by
      simp only [ins]
      rw [show min k 1 = min k [(x, y)].length from rfl, ← List.take_eq_take_min]
    refine ⟨g, c, by rw [e1], ?_, hb⟩
    rw [e1, e2]
    exact ho

end Go.Proofs.Ytfgadegpdknocaa

namespace Go.Proofs.Ytfgadegpdknocaa
open Go.RowKit

theorem best_snoc (k : Nat) (hs : List (Int × Int)) (j : Nat) (x y : Int) (h : hs[j]? = some (x, y)) : best k (hs.take (j + 1)) = (ins (best k (hs.take j)) (x, y)).take k := by
  have hj := at_some h
  have he : hs[j] = (x, y) := by simpa [hj] using h
  rw [List.take_succ_eq_append_getElem hj, he]
  simp [best, List.foldl_append]

set_option maxHeartbeats 1000000 in
theorem l2Best_pos (b off cap : Nat) (hs : List (Int × Int)) (k : Nat) (w : World) (hn : hs.length ≤ 100000) (hk : k ≤ 100) (hwf : ∀ p ∈ hs, Wf2 p)
    (hc : ∀ j x y, hs[j]? = some (x, y) → w.cell? ⟨b, off + j * 2, none⟩ = some (.int .i64 x) ∧ w.cell? ⟨b, off + j * 2 + 1, none⟩ = some (.int .i64 y)) :
    Calls Try.prog 121 #[.slice (some ⟨b, off, none⟩) hs.length cap, .int .i64 k] w fun e w' => ∃ g cap', e = .returned (.slice (some ⟨g, 0, none⟩) (best k hs).length cap') ∧
      w'.ownsRow w.heap.size 77 2 (.slice (some ⟨g, 0, none⟩) (best k hs).length cap') (best k hs).length (cells2 (best k hs)) ∧ Below w.heap.size w w' := by
  have HWF := hide hwf
  clear hwf
  go_enter Try.func121, Try.ntmps121
  go_wp2_with fail
  go_loopw [5, 6] (fun v i wr => ∃ (j g cp : Nat), j ≤ hs.length ∧ i = .int .i64 j ∧ v = .slice (some ⟨g, 0, none⟩) (best k (hs.take j)).length cp ∧ wr.ownsRow w.heap.size 77 2 v (best k (hs.take j)).length (cells2 (best k (hs.take j))) ∧ Below w.heap.size w wr)
    (fun _ i _ => hs.length - (intOf i).toNat)
  case atStart =>
    refine ⟨0, w.heap.size, 0, Nat.zero_le _, rfl, rfl, ?_, (Below.refl _ _).alloc (Nat.le_refl _) _⟩
    exact World.ownsRow_lit w #[] 0 (Nat.le_refl _) (by unfold maxLen; omega) rfl
  case round =>
    obtain ⟨j, g, cp, hj, rfl, rfl, hown, hB⟩ := hrel
    by_cases hlt : j < hs.length
    · obtain ⟨x, y, hxy⟩ : ∃ x y, hs[j]? = some (x, y) := ⟨hs[j].1, hs[j].2, by simp [hlt]⟩
      have c1 := (hB.cell (World.block_lt_of_cell? _ _ (hc j x y hxy).1)).trans (hc j x y hxy).1
      have c2 := (hB.cell (World.block_lt_of_cell? _ _ (hc j x y hxy).2)).trans (hc j x y hxy).2
      have hw1 : ∀ p ∈ best k (hs.take j), Wf2 p := fun p hp => unhide HWF p (List.mem_of_mem_take (best_mem hp))
      have hi := isHits_row hw1 hown
      have hl := best_len k (hs.take j)
      have hwh : Wf2 (x, y) := unhide HWF _ (List.mem_of_getElem? hxy)
      have HS := hide (best_snoc k hs j x y hxy)
      have L := l2Add (.slice (some ⟨g, 0, none⟩) (best k (hs.take j)).length cp) (best k (hs.take j)) x y k wr hi (by omega) hwh
      rw [← unhide HS] at L
      have HB := hide hB
      have HC := hide hc
      clear hown hB hc hxy hw1 hi hl hwh HS
      generalize (best k (hs.take j)).length = n at *
      go_wp2_with fail
      refine L.mono ?_
      rintro e w1 ⟨g1, cp1, rfl, ho, hb⟩
      have HO := hide (own_mono (unhide HB).size ho)
      have HB1 := hide (below_keep2 (unhide HB) hb)
      clear L ho hb HB c1 c2
      go_wp2_with fail
      go_roundw
      case rel => exact ⟨j + 1, g1, cp1, by omega, by go_num, rfl, unhide HO, unhide HB1⟩
      case measure => simp [intOf]; omega
    · obtain rfl : j = hs.length := by omega
      rw [List.take_length] at hown ⊢
      have HO := hide hown
      have HB := hide hB
      clear hown hB hc
      go_wp2_with fail
      go_ret
      exact ⟨g, cp, rfl, unhide HO, unhide HB⟩

set_option maxHeartbeats 400000 in
theorem l2Best_zero (ao : Option Addr) (cap : Nat) (k : Nat) (w : World) :
    Calls Try.prog 121 #[.slice ao 0 cap, .int .i64 k] w fun e w' => ∃ g cap', e = .returned (.slice (some ⟨g, 0, none⟩) 0 cap') ∧
      w'.ownsRow w.heap.size 77 2 (.slice (some ⟨g, 0, none⟩) 0 cap') 0 [] ∧ Below w.heap.size w w' := by
  have O1 : (w.alloc (.cells #[] 77)).ownsRow w.heap.size 77 2 (.slice (some ⟨w.heap.size, 0, none⟩) 0 0) 0 [] := World.ownsRow_lit w #[] 0 (Nat.le_refl _) (by unfold maxLen; omega) rfl
  have HO := hide O1
  clear O1
  go_enter Try.func121, Try.ntmps121
  go_wp2_with fail
  refine wp_loop_rounds 1 ?_
  rw [rounds_succ]
  go_wp2_with fail
  go_ret
  exact ⟨_, _, rfl, unhide HO, (Below.refl _ _).alloc (Nat.le_refl _) _⟩

/-- l2Best. -/
theorem l2Best (v : Value) (hs : List (Int × Int)) (k : Nat) (w : World) (h : IsHits w v hs) (hn : hs.length ≤ 100000) (hk : k ≤ 100) :
    Calls Try.prog 121 #[v, .int .i64 k] w fun e w' => ∃ g cap', e = .returned (.slice (some ⟨g, 0, none⟩) (best k hs).length cap') ∧
      w'.ownsRow w.heap.size 77 2 (.slice (some ⟨g, 0, none⟩) (best k hs).length cap') (best k hs).length (cells2 (best k hs)) ∧ Below w.heap.size w w' := by
  obtain ⟨ao, cap, rfl, h1, h2, hwf, hc⟩ := h
  by_cases hp : 0 < hs.length
  · obtain ⟨b, off, rfl, hc1⟩ := hc hp
    exact l2Best_pos b off cap hs k w hn hk hwf hc1
  · obtain rfl : hs = [] := List.eq_nil_of_length_eq_zero (by omega)
    exact l2Best_zero ao cap k w

end Go.Proofs.Ytfgadegpdknocaa

namespace Go.Proofs.Ytfgadegpdknocaa
open Go.RowKit

def kB (k : Int) : Bool := decide (0 ≤ k) && decide (k ≤ 20)

def bestCode (hs : List (Int × Int)) (k : Int) : Int := if kB k then (if 200 < hs.length then 2 else if hs.all oneB then 0 else 3) else 3

def bestList (hs : List (Int × Int)) (k : Int) : List (Int × Int) := if bestCode hs k = 0 then best k.toNat hs else []

def addCode (hs : List (Int × Int)) (h : Int × Int) (k : Int) : Int := if kB k then (if hitsFault hs = 0 then (if oneB h then 0 else 3) else hitsFault hs) else 3

def addList (hs : List (Int × Int)) (h : Int × Int) (k : Int) : List (Int × Int) := if addCode hs h k = 0 then (ins hs h).take k.toNat else []

theorem own_set {w : World} {base e size : Nat} {v : Value} {n : Nat} {xs : List Value} {a : Addr} (h : w.ownsRow base e size v n xs) (ha : a.block < base) (u : Value) : (w.setCell a u).ownsRow base e size v n xs := by
  refine ⟨h.1, ?_⟩
  rcases h.2 with h2 | ⟨g, cap, cur, hv, hg, hh, r⟩
  · exact Or.inl h2
  · exact Or.inr ⟨g, cap, cur, hv, hg, (heap_setCell_other w a g u (by omega)).trans hh, r⟩

/-- The result's own variable, a new block of (0, nil), as later worlds have it. -/
theorem resVar {w W : World} {T : TypeId} (h : Below (w.alloc (.cells #[.int .i64 0, .slice none 0 0] T)).heap.size (w.alloc (.cells #[.int .i64 0, .slice none 0 0] T)) W) :
    W.cell? ⟨w.heap.size, 0, none⟩ = some (.int .i64 0) ∧ W.cell? ⟨w.heap.size, 1, none⟩ = some (.slice none 0 0) ∧ (∀ o, W.frozen? ⟨w.heap.size, o, none⟩ = false) ∧ w.heap.size < W.heap.size := by
  refine ⟨(h.cell (p := ⟨w.heap.size, 0, none⟩) (by simp)).trans (by simp [go_sem]), (h.cell (p := ⟨w.heap.size, 1, none⟩) (by simp)).trans (by simp [go_sem]), fun o => (h.frozen (p := ⟨w.heap.size, o, none⟩) (by simp)).trans (by simp [go_sem]), ?_⟩
  have := h.size
  simp at this
  omega

/-- What AddHit tells. -/
def Told (w w' : World) (e : Ending) (c : Int) (l : List (Int × Int)) : Prop := ∃ r, e = .returned (intsRes c r) ∧ w'.ownsRow w.heap.size 77 2 r l.length (cells2 l) ∧ Below w.heap.size w w'

theorem told_nil {w w' : World} {c : Int} (h : Below w.heap.size w w') : Told w w' (.returned (intsRes c (.slice none 0 0))) c [] := ⟨_, rfl, World.ownsRow_nil _ _ _ _, h⟩

theorem bestList_len {zs : List (Int × Int)} {n : Int} : (bestList zs n).length ≤ 20 := by
  unfold bestList
  split
  · next h =>
    have hk : kB n = true := by
      cases hk : kB n with
      | true => rfl
      | false => simp [bestCode, hk] at h
    have := best_len n.toNat zs
    have hb : 0 ≤ n ∧ n ≤ 20 := by simpa [kB] using hk
    omega
  · simp

theorem bestList_mem {zs : List (Int × Int)} {n : Int} {m : Int × Int} (h : m ∈ bestList zs n) : m ∈ zs := by
  unfold bestList at h
  split at h
  · exact best_mem h
  · simp at h

end Go.Proofs.Ytfgadegpdknocaa
