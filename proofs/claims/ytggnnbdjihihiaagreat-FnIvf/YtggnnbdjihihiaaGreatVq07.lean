/-
  Texts of this proof in one: HitGround, HitInfo, HitModelB, HitFaultB, HitAppend, HitEq, HitAdd, HitBest, HitOpsB, SearchPlain, ProbePlain, ProbeMore, IvfRight, IvfFull, ImplId, ImplWanted, ImplHit, ImplFault, IvfHits, Big, RangeKit.
  Their conditions stand in their theorems.
-/
import Derived.Test.YtggnnbdjihihiaaGreatVq01
import Derived.Maps.AppendAt
import Derived.Deep.AppendLies
import Derived.Test.YtggnnbdjihihiaaGreatChecked
import Derived.BigQuiet
import Derived.Deep.QuietTactic
import Derived.Deep.RegionWith
import Derived.Deep.RegionHeld3
import Derived.Laws.StructEq
import Derived.Deep.CutRange
import Derived.Test.YtggnnbdjihihiaaGreatVq02
import Derived.Test.YtggnnbdjihihiaaGreatVq03
import Derived.RangeFuncNested
import Derived.RangeFuncBound
import Derived.RangeFuncCalls
import Derived.RangeFuncLeaves
import Derived.Shelf.Abstract
import Derived.Shelf.RegionOpen
import Derived.WalkKit
import Derived.OwnWalkIn
import Derived.TacticsInMore
import Derived.LoopNIn
import Derived.LoopIn

namespace Go.Proofs.YtggnnbdjihihiaaGreat
open Go.RowKit

/-- The cells of hits. -/
def cells2 : List (Int × Int) → List Value
  | [] => []
  | h :: r => .int .i64 h.1 :: .int .i64 h.2 :: cells2 r
theorem cells2_len (hs : List (Int × Int)) : (cells2 hs).length = hs.length * 2 := by
  induction hs with
  | nil => rfl
  | cons h r ih => simp [cells2, ih]; omega
theorem cells2_app (a b : List (Int × Int)) : cells2 (a ++ b) = cells2 a ++ cells2 b := by
  induction a with
  | nil => rfl
  | cons h r ih => simp [cells2, ih]
theorem cells2_take (hs : List (Int × Int)) (k : Nat) : (cells2 hs).take (k * 2) = cells2 (hs.take k) := by
  induction hs generalizing k with
  | nil => simp [cells2]
  | cons h r ih =>
    cases k with
    | zero => simp [cells2]
    | succ k => simp [cells2, ih, Nat.add_mul]
theorem cells2_at (hs : List (Int × Int)) (j : Nat) (x y : Int) (h : hs[j]? = some (x, y)) : (cells2 hs)[j * 2]? = some (.int .i64 x) ∧ (cells2 hs)[j * 2 + 1]? = some (.int .i64 y) := by
  induction hs generalizing j with
  | nil => simp at h
  | cons p r ih =>
    cases j with
    | zero =>
      simp at h
      subst h
      simp [cells2]
    | succ j =>
      have := ih j (by simpa using h)
      simpa [cells2, Nat.add_mul] using this
theorem cells2_one (hs : List (Int × Int)) : ∀ u ∈ cells2 hs, u.oneCell' = true := by
  induction hs with
  | nil => simp [cells2]
  | cons h r ih =>
    intro u hu
    simp [cells2] at hu
    rcases hu with rfl | rfl | hu
    · rfl
    · rfl
    · exact ih u hu
theorem cells2_get (hs : List (Int × Int)) (j : Nat) (u : Value) (h : (cells2 hs)[j]? = some u) : ∃ k x y, hs[k]? = some (x, y) ∧ ((j = k * 2 ∧ u = .int .i64 x) ∨ (j = k * 2 + 1 ∧ u = .int .i64 y)) := by
  induction hs generalizing j with
  | nil => simp [cells2] at h
  | cons p r ih =>
    match j with
    | 0 =>
      simp [cells2] at h
      exact ⟨0, p.1, p.2, by simp, Or.inl ⟨rfl, h.symm⟩⟩
    | 1 =>
      simp [cells2] at h
      exact ⟨0, p.1, p.2, by simp, Or.inr ⟨rfl, h.symm⟩⟩
    | j + 2 =>
      obtain ⟨k, x, y, h1, h2⟩ := ih j (by simpa [cells2] using h)
      refine ⟨k + 1, x, y, by simpa using h1, ?_⟩
      rcases h2 with ⟨h2, h3⟩ | ⟨h2, h3⟩
      · exact Or.inl ⟨by omega, h3⟩
      · exact Or.inr ⟨by omega, h3⟩

/-- Both numbers are int64. -/
def Wf2 (h : Int × Int) : Prop := (Lit.int .i64 h.1).wf = true ∧ (Lit.int .i64 h.2).wf = true
theorem Wf2.bd {x y : Int} (h : Wf2 (x, y)) : (-9223372036854775808 ≤ x ∧ x ≤ 9223372036854775807) ∧ (-9223372036854775808 ≤ y ∧ y ≤ 9223372036854775807) := by
  simpa [Wf2, Lit.wf, IntKind.min, IntKind.max, IntKind.signed, IntKind.bits] using h

/-- The slice v holds the hits hs. -/
def IsHits (w : World) (v : Value) (hs : List (Int × Int)) : Prop :=
  ∃ ao cap, v = .slice ao hs.length cap ∧ hs.length ≤ cap ∧ (cap ≤ maxLen ∧ (ao = none → cap = 0)) ∧ (∀ h ∈ hs, Wf2 h) ∧
    (0 < hs.length → ∃ b off, ao = some ⟨b, off, none⟩ ∧ ∀ j x y, hs[j]? = some (x, y) → w.cell? ⟨b, off + j * 2, none⟩ = some (.int .i64 x) ∧ w.cell? ⟨b, off + j * 2 + 1, none⟩ = some (.int .i64 y))

theorem IsHits.wf {w : World} {v : Value} {hs : List (Int × Int)} (h : IsHits w v hs) : ∀ p ∈ hs, Wf2 p := by
  obtain ⟨_, _, _, _, _, hwf, _⟩ := h
  exact hwf
theorem IsHits.later {w w' : World} {v : Value} {hs : List (Int × Int)} (h : IsHits w v hs) (hb : Below w.heap.size w w') : IsHits w' v hs := by
  obtain ⟨ao, cap, rfl, h1, h2, hwf, hc⟩ := h
  refine ⟨ao, cap, rfl, h1, h2, hwf, fun hp => ?_⟩
  obtain ⟨b, off, hao, hc1⟩ := hc hp
  exact ⟨b, off, hao, fun j x y hj => ⟨cell_keep hb (hc1 j x y hj).1, cell_keep hb (hc1 j x y hj).2⟩⟩

/-- Whatever owns a row of hits holds them. -/
theorem isHits_row {w : World} {base T : Nat} {v : Value} {hs : List (Int × Int)} (hwf : ∀ p ∈ hs, Wf2 p)
    (h : w.ownsRow base T 2 v hs.length (cells2 hs)) : IsHits w v hs := by
  rcases h.2 with ⟨rfl, h0⟩ | ⟨g, cap, cur, rfl, _, _, h1, h2, _⟩
  · have : hs = [] := List.eq_nil_of_length_eq_zero h0
    subst this
    exact ⟨none, 0, rfl, by simp, ⟨Nat.zero_le _, fun _ => rfl⟩, by simp, by simp⟩
  · refine ⟨_, _, rfl, h1, ⟨h2, by simp⟩, hwf, fun hp => ⟨g, 0, rfl, fun j x y hj => ?_⟩⟩
    have hj2 : j < hs.length := by
      rcases Nat.lt_or_ge j hs.length with h | h
      · exact h
      · rw [List.getElem?_eq_none h] at hj; cases hj
    have := cells2_at hs j x y hj
    rw [Nat.zero_add, h.cellAt (j * 2) (by omega), h.cellAt (j * 2 + 1) (by omega)]
    exact this

theorem IsHits.take {w : World} {ao : Option Addr} {n cap : Nat} {hs : List (Int × Int)} (h : IsHits w (.slice ao n cap) hs) (k : Nat) (hk : k ≤ n) : IsHits w (.slice ao k cap) (hs.take k) := by
  obtain ⟨ao', cap', he, h1, h2, hwf, hc⟩ := h
  simp only [Value.slice.injEq] at he
  obtain ⟨rfl, rfl, rfl⟩ := he
  have hl : (hs.take k).length = k := by simp; omega
  refine ⟨ao, cap, by rw [hl], by omega, h2, fun p hp => hwf p (List.mem_of_mem_take hp), fun hp => ?_⟩
  obtain ⟨b, off, hao, hc1⟩ := hc (by omega)
  refine ⟨b, off, hao, fun j x y hj => hc1 j x y ?_⟩
  rw [List.getElem?_take] at hj
  split at hj
  · exact hj
  · cases hj
theorem IsHits.drop {w : World} {b off n cap : Nat} {hs : List (Int × Int)} (h : IsHits w (.slice (some ⟨b, off, none⟩) n cap) hs) (k : Nat) (hk : k ≤ n) (o2 : Nat) (ho : k < n → o2 = off + k * 2) : IsHits w (.slice (some ⟨b, o2, none⟩) (n - k) (cap - k)) (hs.drop k) := by
  obtain ⟨ao', cap', he, h1, h2, hwf, hc⟩ := h
  simp only [Value.slice.injEq] at he
  obtain ⟨rfl, rfl, rfl⟩ := he
  refine ⟨_, _, by rw [List.length_drop], by rw [List.length_drop]; omega, ⟨by omega, by simp⟩, fun p hp => hwf p (List.mem_of_mem_drop hp), fun hp => ?_⟩
  rw [List.length_drop] at hp
  obtain ⟨b', off', hao, hc1⟩ := hc (by omega)
  simp only [Option.some.injEq, Addr.mk.injEq, and_true] at hao
  obtain ⟨rfl, rfl⟩ := hao
  have ho2 := ho (by omega)
  subst ho2
  refine ⟨b, _, rfl, fun j x y hj => ?_⟩
  have := hc1 (k + j) x y (by simpa [List.getElem?_drop] using hj)
  rw [show off + k * 2 + j * 2 = off + (k + j) * 2 by omega]
  exact this

/-- The cells that append reads. -/
theorem IsHits.news {w : World} {b off n cap : Nat} {hs : List (Int × Int)} (h : IsHits w (.slice (some ⟨b, off, none⟩) n cap) hs) : ∀ j u, (cells2 hs)[j]? = some u → w.cell? ((⟨b, off, none⟩ : Addr).add j) = some u := by
  intro j u hj
  obtain ⟨k, x, y, h1, h2⟩ := cells2_get hs j u hj
  obtain ⟨ao', cap', he, h3, h4, hwf, hc⟩ := h
  simp only [Value.slice.injEq] at he
  obtain ⟨rfl, rfl, rfl⟩ := he
  have hk : k < hs.length := by
    rcases Nat.lt_or_ge k hs.length with h | h
    · exact h
    · rw [List.getElem?_eq_none h] at h1; cases h1
  obtain ⟨b', off', hao, hc1⟩ := hc (by omega)
  simp only [Option.some.injEq, Addr.mk.injEq, and_true] at hao
  obtain ⟨rfl, rfl⟩ := hao
  have hadd : (⟨b, off, none⟩ : Addr).add j = ⟨b, off + j, none⟩ := Addr.add_lit _ _ _
  rw [hadd]
  have := hc1 k x y h1
  rcases h2 with ⟨rfl, rfl⟩ | ⟨rfl, rfl⟩
  · exact this.1
  · exact this.2

end Go.Proofs.YtggnnbdjihihiaaGreat

namespace Go.Proofs.YtggnnbdjihihiaaGreat

/-- A hit is (id, score): the lower score is better, then the lower id. -/
def bet (a b : Int × Int) : Bool := decide (a.2 < b.2) || (decide (a.2 = b.2) && decide (a.1 < b.1))
theorem bet_iff (a b : Int × Int) : bet a b = true ↔ a.2 < b.2 ∨ (a.2 = b.2 ∧ a.1 < b.1) := by simp [bet]
theorem bet_irrefl (a : Int × Int) : bet a a = false := by simp [bet]
theorem bet_trans {a b c : Int × Int} (h : bet a b = true) (k : bet b c = true) : bet a c = true := by
  rw [bet_iff] at *
  omega
theorem bet_asymm {a b : Int × Int} (h : bet a b = true) : bet b a = false := by
  cases k : bet b a with
  | false => rfl
  | true =>
    have := bet_trans h k
    rw [bet_irrefl] at this
    cases this
theorem bet_total {a b : Int × Int} (h : bet a b = false) (hne : a ≠ b) : bet b a = true := by
  rw [bet_iff]
  have h1 : ¬ (a.2 < b.2 ∨ (a.2 = b.2 ∧ a.1 < b.1)) := by rw [← bet_iff, h]; simp
  have h2 : ¬ (a.1 = b.1 ∧ a.2 = b.2) := fun ⟨e1, e2⟩ => hne (Prod.ext e1 e2)
  omega

/-- The id and the score are in their ranges. -/
def oneB (h : Int × Int) : Bool := (decide (1 ≤ h.1) && decide (h.1 ≤ 999)) && (decide (0 ≤ h.2) && decide (h.2 ≤ 12000000))

/-- What is wrong with a list of hits behind p. -/
def faultFrom : Option (Int × Int) → List (Int × Int) → Int
  | _, [] => 0
  | p, h :: r => if oneB h then (if p.all (bet · h) then faultFrom (some h) r else 1) else 3
def hitsFault (hs : List (Int × Int)) : Int := if 20 < hs.length then 2 else faultFrom none hs
/-- The hit ahead of place k. -/
def ahead (hs : List (Int × Int)) (k : Nat) : Option (Int × Int) := if k = 0 then none else hs[k - 1]?

def Sorted (hs : List (Int × Int)) : Prop := hs.Pairwise (fun a b => bet a b = true)

theorem faultFrom_zero {p : Option (Int × Int)} {hs : List (Int × Int)} (h : faultFrom p hs = 0) : (∀ x ∈ hs, oneB x = true) ∧ Sorted hs ∧ ∀ q, p = some q → ∀ x ∈ hs, bet q x = true := by
  induction hs generalizing p with
  | nil => exact ⟨by simp, List.Pairwise.nil, by simp⟩
  | cons a r ih =>
    unfold faultFrom at h
    split at h
    · next h1 =>
      split at h
      · next h2 =>
        obtain ⟨i1, i2, i3⟩ := ih h
        refine ⟨fun x hx => ?_, List.Pairwise.cons (fun x hx => i3 a rfl x hx) i2, fun q hq x hx => ?_⟩
        · rcases List.mem_cons.1 hx with rfl | hx
          · exact h1
          · exact i1 x hx
        · subst hq
          simp at h2
          rcases List.mem_cons.1 hx with rfl | hx
          · exact h2
          · exact bet_trans h2 (i3 a rfl x hx)
      · simp at h
    · simp at h
theorem hitsFault_zero {hs : List (Int × Int)} (h : hitsFault hs = 0) : hs.length ≤ 20 ∧ (∀ x ∈ hs, oneB x = true) ∧ Sorted hs := by
  unfold hitsFault at h
  split at h
  · simp at h
  · next hl =>
    obtain ⟨h1, h2, _⟩ := faultFrom_zero h
    exact ⟨by omega, h1, h2⟩
theorem hitsFault_of {hs : List (Int × Int)} (hl : hs.length ≤ 20) (h1 : ∀ x ∈ hs, oneB x = true) (h2 : Sorted hs) : hitsFault hs = 0 := by
  have key : ∀ (hs : List (Int × Int)) (p : Option (Int × Int)), (∀ x ∈ hs, oneB x = true) → Sorted hs → (∀ q, p = some q → ∀ x ∈ hs, bet q x = true) → faultFrom p hs = 0 := by
    intro hs
    induction hs with
    | nil => intros; rfl
    | cons a r ih =>
      intro p h1 h2 h3
      unfold faultFrom
      rw [if_pos (h1 a (by simp)), if_pos]
      · exact ih (some a) (fun x hx => h1 x (by simp [hx])) h2.of_cons (fun q hq x hx => by cases hq; exact List.rel_of_pairwise_cons h2 hx)
      · cases p with
        | none => rfl
        | some q => simpa using h3 q rfl a (by simp)
  unfold hitsFault
  rw [if_neg (by omega)]
  exact key hs none h1 h2 (by simp)

/-- A hit put into a list. -/
def ins : List (Int × Int) → Int × Int → List (Int × Int)
  | [], h => [h]
  | x :: r, h => if bet x h then x :: ins r h else if x = h then x :: r else h :: x :: r
theorem ins_mem {hs : List (Int × Int)} {h x : Int × Int} : x ∈ ins hs h ↔ x = h ∨ x ∈ hs := by
  induction hs with
  | nil => simp [ins]
  | cons a r ih =>
    unfold ins
    split
    · simp [ih]
      constructor
      · rintro (h | h | h) <;> simp [h]
      · rintro (h | h | h) <;> simp [h]
    · split
      · next e => subst e; simp
      · simp
theorem ins_sorted {hs : List (Int × Int)} (hs1 : Sorted hs) (h : Int × Int) : Sorted (ins hs h) := by
  induction hs with
  | nil => exact List.pairwise_singleton _ _
  | cons a r ih =>
    unfold ins
    split
    · next h1 =>
      refine List.Pairwise.cons (fun x hx => ?_) (ih hs1.of_cons)
      rcases ins_mem.1 hx with rfl | hx
      · exact h1
      · exact List.rel_of_pairwise_cons hs1 hx
    · next h1 =>
      split
      · exact hs1
      · next h2 =>
        have h3 := bet_total (by simpa using h1) h2
        refine List.Pairwise.cons (fun x hx => ?_) hs1
        rcases List.mem_cons.1 hx with rfl | hx
        · exact h3
        · exact bet_trans h3 (List.rel_of_pairwise_cons hs1 hx)
theorem ins_len (hs : List (Int × Int)) (h : Int × Int) : (ins hs h).length ≤ hs.length + 1 := by
  induction hs with
  | nil => simp [ins]
  | cons a r ih =>
    unfold ins
    split
    · simp; omega
    · split <;> simp

/-- Two lists in order with the same members are the same. -/
theorem sorted_ext {a b : List (Int × Int)} (ha : Sorted a) (hb : Sorted b) (h : ∀ x, x ∈ a ↔ x ∈ b) : a = b := by
  induction a generalizing b with
  | nil =>
    cases b with
    | nil => rfl
    | cons y s => exact absurd ((h y).2 (by simp)) (by simp)
  | cons x r ih =>
    cases b with
    | nil => exact absurd ((h x).1 (by simp)) (by simp)
    | cons y s =>
      have hxy : x = y := by
        rcases List.mem_cons.1 ((h x).1 (by simp)) with e | hx
        · exact e
        · rcases List.mem_cons.1 ((h y).2 (by simp)) with e | hy
          · exact e.symm
          · have h1 := List.rel_of_pairwise_cons ha hy
            have h2 := List.rel_of_pairwise_cons hb hx
            rw [bet_asymm h1] at h2
            cases h2
      subst hxy
      congr 1
      refine ih ha.of_cons hb.of_cons (fun z => ?_)
      constructor
      · intro hz
        rcases List.mem_cons.1 ((h z).1 (by simp [hz])) with e | hz2
        · subst e
          have := List.rel_of_pairwise_cons ha hz
          rw [bet_irrefl] at this
          cases this
        · exact hz2
      · intro hz
        rcases List.mem_cons.1 ((h z).2 (by simp [hz])) with e | hz2
        · subst e
          have := List.rel_of_pairwise_cons hb hz
          rw [bet_irrefl] at this
          cases this
        · exact hz2

/-- All hits of a list, in order. -/
def allOf (hs : List (Int × Int)) : List (Int × Int) := hs.foldl ins []
theorem foldl_sorted {a : List (Int × Int)} (ha : Sorted a) (hs : List (Int × Int)) : Sorted (hs.foldl ins a) := by
  induction hs generalizing a with
  | nil => exact ha
  | cons h r ih => exact ih (ins_sorted ha h)
theorem foldl_mem {a hs : List (Int × Int)} {x : Int × Int} : x ∈ hs.foldl ins a ↔ x ∈ a ∨ x ∈ hs := by
  induction hs generalizing a with
  | nil => simp
  | cons h r ih =>
    simp only [List.foldl_cons, ih, ins_mem, List.mem_cons]
    constructor
    · rintro ((h | h) | h) <;> simp [h]
    · rintro (h | h | h) <;> simp [h]
theorem allOf_sorted (hs : List (Int × Int)) : Sorted (allOf hs) := foldl_sorted List.Pairwise.nil hs
theorem allOf_mem {hs : List (Int × Int)} {x : Int × Int} : x ∈ allOf hs ↔ x ∈ hs := by simp [allOf, foldl_mem]
theorem allOf_of_sorted {hs : List (Int × Int)} (h : Sorted hs) : allOf hs = hs := sorted_ext (allOf_sorted hs) h (fun _ => allOf_mem)
theorem ins_allOf (hs : List (Int × Int)) (h : Int × Int) : ins (allOf hs) h = allOf (hs ++ [h]) := by simp [allOf, List.foldl_append]

/-- Cut to k ahead or behind: the first k are the same. -/
theorem ins_take {hs : List (Int × Int)} (h : Int × Int) (k : Nat) : (ins (hs.take k) h).take k = (ins hs h).take k := by
  induction hs generalizing k with
  | nil => simp
  | cons a r ih =>
    cases k with
    | zero => simp
    | succ k =>
      simp only [List.take_succ_cons]
      unfold ins
      split
      · simp [ih]
      · split
        · simp [List.take_take]
        · cases k with
          | zero => simp
          | succ k => simp [List.take_take]; try omega

/-- The best k of a list, as they are reckoned one by one. -/
def best (k : Nat) (hs : List (Int × Int)) : List (Int × Int) := hs.foldl (fun out h => (ins out h).take k) []
theorem best_eq (k : Nat) (hs : List (Int × Int)) : best k hs = (allOf hs).take k := by
  have key : ∀ (hs a : List (Int × Int)), hs.foldl (fun out h => (ins out h).take k) (a.take k) = (hs.foldl ins a).take k := by
    intro hs
    induction hs with
    | nil => intro a; rfl
    | cons h r ih =>
      intro a
      simp only [List.foldl_cons]
      rw [ins_take, ih]
  have := key hs []
  simpa [best, allOf] using this
theorem best_sorted (k : Nat) (hs : List (Int × Int)) : Sorted (best k hs) := by
  rw [best_eq]
  exact (allOf_sorted hs).sublist (List.take_sublist _ _)
theorem best_mem {k : Nat} {hs : List (Int × Int)} {x : Int × Int} (h : x ∈ best k hs) : x ∈ hs := by
  rw [best_eq] at h
  exact allOf_mem.1 (List.mem_of_mem_take h)
theorem best_len (k : Nat) (hs : List (Int × Int)) : (best k hs).length ≤ k := by
  rw [best_eq]
  simp
  omega
theorem allOf_congr {a b : List (Int × Int)} (h : ∀ x, x ∈ a ↔ x ∈ b) : allOf a = allOf b := sorted_ext (allOf_sorted a) (allOf_sorted b) (fun x => by rw [allOf_mem, allOf_mem, h])
theorem best_congr (k : Nat) {a b : List (Int × Int)} (h : ∀ x, x ∈ a ↔ x ∈ b) : best k a = best k b := by rw [best_eq, best_eq, allOf_congr h]

end Go.Proofs.YtggnnbdjihihiaaGreat

namespace Go.Proofs.YtggnnbdjihihiaaGreat
open Go.RowKit

structure DHit where
  id : Int
  score : Int

def Lay.tHit : Lay DHit := Lay.via (Lay.pair Lay.int Lay.int) (fun x => (x.id, x.score)) (fun p => ⟨p.1, p.2⟩)

theorem lies_Hit {w : World} {cs : List Value} {x : DHit} {bl : List Nat} : Lay.tHit.lies w cs x bl ↔ cs = [.int .i64 x.id, .int .i64 x.score] ∧ bl = [] ∧ (Lit.int .i64 x.id).wf = true ∧ (Lit.int .i64 x.score).wf = true := by
  constructor
  · intro h
    obtain ⟨c0_, r0_, e0_, s0_, rfl, rfl, h0, h1⟩ := h
    obtain ⟨rfl, w0, rfl⟩ := h0
    obtain ⟨rfl, w1, rfl⟩ := h1
    exact ⟨by simp, by simp, w0, w1⟩
  · rintro ⟨rfl, hbl, w0, w1⟩
    rw [hbl]
    exact ⟨[.int .i64 x.id], [.int .i64 x.score], [], [], rfl, by simp, ⟨rfl, w0, rfl⟩, ⟨rfl, w1, rfl⟩⟩

end Go.Proofs.YtggnnbdjihihiaaGreat

namespace Go.Proofs.YtggnnbdjihihiaaGreat
open Go.RowKit

structure DHitsResult where
  code : Int
  hits : List DHit

def Lay.tHitsResult : Lay DHitsResult := Lay.via (Lay.pair Lay.int (Lay.sl Lay.tHit)) (fun x => (x.code, x.hits)) (fun p => ⟨p.1, p.2⟩)

theorem lies_HitsResult {w : World} {cs : List Value} {x : DHitsResult} {bl : List Nat} : Lay.tHitsResult.lies w cs x bl ↔ ∃ (a1 : Option Addr) (d1 : Nat) (b1 : List Nat), cs = [.int .i64 x.code, .slice a1 x.hits.length d1] ∧ bl = b1 ∧ (Lit.int .i64 x.code).wf = true ∧ (Lay.sl Lay.tHit).lies w [.slice a1 x.hits.length d1] x.hits b1 := by
  constructor
  · intro h
    obtain ⟨c0_, r0_, e0_, s0_, rfl, rfl, h0, h1⟩ := h
    obtain ⟨rfl, w0, rfl⟩ := h0
    have k1 := h1
    obtain ⟨a1, d1, rfl, -⟩ := k1
    exact ⟨a1, d1, s0_, by simp, by simp, w0, h1⟩
  · rintro ⟨a1, d1, b1, rfl, hbl, w0, l1⟩
    rw [hbl]
    exact ⟨[.int .i64 x.code], [.slice a1 x.hits.length d1], [], b1, rfl, by simp, ⟨rfl, w0, rfl⟩, l1⟩

theorem open_HitsResult {w : World} {cs : List Value} {x : DHitsResult} (h : Lay.tHitsResult.Reads w cs x) : ∃ (a1 : Option Addr) (d1 : Nat), cs = [.int .i64 x.code, .slice a1 x.hits.length d1] ∧ (Lay.sl Lay.tHit).Reads w [.slice a1 x.hits.length d1] x.hits := by
  obtain ⟨bl, h⟩ := h
  obtain ⟨a1, d1, b1, rfl, -, w0, l1⟩ := lies_HitsResult.1 h
  exact ⟨a1, d1, rfl, ⟨_, l1⟩⟩

end Go.Proofs.YtggnnbdjihihiaaGreat

namespace Go.Proofs.YtggnnbdjihihiaaGreat
open Go.RowKit

theorem vcnt_HitsResult (x : DHitsResult) : Lay.tHitsResult.vcnt x = (Lay.sl Lay.tHit).vcnt x.hits := by
  show 0 + ((Lay.sl Lay.tHit).vcnt x.hits) = (Lay.sl Lay.tHit).vcnt x.hits
  omega
theorem mkv_HitsResult (k : Int) (x : DHitsResult) : Lay.tHitsResult.mkv k x = ⟨x.code, (Lay.sl Lay.tHit).mkv (k) x.hits⟩ := by
  simp [Lay.tHitsResult, Lay.via, Lay.pair, Lay.int]
theorem own_HitsResult {w : World} {cs : List Value} {x : DHitsResult} {bl : List Nat} (h : Lay.tHitsResult.Own w cs x bl) : ∃ (a1 : Option Addr) (d1 : Nat) (g1 : List Nat), cs = [.int .i64 x.code, .slice a1 x.hits.length d1] ∧ bl = g1 ∧ (Lay.sl Lay.tHit).Own w [.slice a1 x.hits.length d1] x.hits g1 ∧ (Lit.int .i64 x.code).wf = true := by
  obtain ⟨hl, hn, hf⟩ := h
  obtain ⟨a1, d1, b1, rfl, hbl, w0, l1⟩ := lies_HitsResult.1 hl
  rw [hbl] at hn hf
  exact ⟨a1, d1, b1, rfl, hbl, ⟨l1, hn, hf⟩, w0⟩
theorem mkOwn_HitsResult {w : World} {x : DHitsResult} {c1 : List Value} {g1 : List Nat} (O1 : (Lay.sl Lay.tHit).Own w c1 x.hits g1) (v0 : (Lit.int .i64 x.code).wf = true) (hn : (g1).Nodup) : Lay.tHitsResult.Own w ([.int .i64 x.code] ++ c1) x (g1) := by
  refine ⟨⟨[.int .i64 x.code], c1, [], g1, rfl, by simp, ⟨rfl, v0, rfl⟩, O1.1⟩, hn, ?_⟩
  intro b hb o
  exact O1.2.2 b hb o

end Go.Proofs.YtggnnbdjihihiaaGreat

namespace Go.Proofs.YtggnnbdjihihiaaGreat
open Go.RowKit

theorem infoHit : (Tryz.prog.info? 44).map (fun i => (i.zero, i.size, i.bytes)) = some (some (.agg #[.int .i64 0, .int .i64 0]), 2, 16) := by kernel_rfl

theorem made2 (n : Nat) : (madeCells #[.int .i64 0, .int .i64 0] (n * 2)).toList = cells2 (List.replicate n (0, 0)) := by
  apply List.ext_getElem?
  intro j
  by_cases hj : j < n * 2
  · obtain ⟨u, hu⟩ : ∃ u, (cells2 (List.replicate n (0, 0)))[j]? = some u := ⟨_, List.getElem?_eq_getElem (by rw [cells2_len]; simpa using hj)⟩
    obtain ⟨k, x, y, h1, h2⟩ := cells2_get _ _ _ hu
    rw [hu]
    simp [List.getElem?_replicate] at h1
    obtain ⟨h3, rfl, rfl⟩ := h1
    have hm : j % 2 = 0 ∨ j % 2 = 1 := by omega
    rcases h2 with ⟨-, rfl⟩ | ⟨-, rfl⟩ <;> rcases hm with hm | hm <;> simp [madeCells, hj, hm]
  · have h1 : (cells2 (List.replicate n ((0 : Int), (0 : Int)))).length = n * 2 := by rw [cells2_len]; simp
    rw [List.getElem?_eq_none (l := cells2 _) (by rw [h1]; omega)]
    simp [madeCells, hj]

/-- Hits that are filled in, up to k. -/
theorem set_fill2 (hs : List (Int × Int)) (k : Nat) (x y : Int) (hk : hs[k]? = some (x, y)) :
    ((cells2 (hs.take k ++ List.replicate (hs.length - k) (0, 0))).set (k * 2) (.int .i64 x)).set (k * 2 + 1) (.int .i64 y) = cells2 (hs.take (k + 1) ++ List.replicate (hs.length - (k + 1)) (0, 0)) := by
  have hlt : k < hs.length := by
    rcases Nat.lt_or_ge k hs.length with h | h
    · exact h
    · rw [List.getElem?_eq_none h] at hk; cases hk
  have hl : (cells2 (hs.take k)).length = k * 2 := by rw [cells2_len]; simp; omega
  rw [cells2_app, List.set_append_right _ _ (by omega), List.set_append_right _ _ (by omega), hl, Nat.sub_self, show k * 2 + 1 - k * 2 = 1 by omega]
  obtain ⟨m, hm⟩ : ∃ m, hs.length - k = m + 1 := ⟨hs.length - k - 1, by omega⟩
  rw [hm, show hs.length - (k + 1) = m by omega, List.replicate_succ, List.take_succ_eq_append_getElem hlt, cells2_app, cells2_app]
  have he : hs[k] = (x, y) := by simpa [hlt] using hk
  rw [he]
  simp [cells2]

theorem below_keep2 {w W W' : World} (h : Below w.heap.size w W) (k : Below W.heap.size W W') : Below w.heap.size w W' := h.trans (k.mono h.size)

end Go.Proofs.YtggnnbdjihihiaaGreat

namespace Go.Proofs.YtggnnbdjihihiaaGreat
open Go.RowKit

theorem l1In (v lo hi : Int) (w : World) :
    Calls Tryz.prog 95 #[.int .i64 v, .int .i64 lo, .int .i64 hi] w fun e w' => e = .returned (.bool (decide (lo ≤ v) && decide (v ≤ hi))) ∧ w' = w := by
  by_cases h1 : lo ≤ v
  · by_cases h2 : v ≤ hi
    · have d1 : decide (lo ≤ v) = true := by simpa using h1
      have d2 : decide (v ≤ hi) = true := by simpa using h2
      rw [d1, d2]
      go_enter Tryz.func95, Tryz.ntmps95
      go_wp2_with fail
      go_ret
      exact ⟨rfl, rfl⟩
    · have d1 : decide (lo ≤ v) = true := by simpa using h1
      have d2 : decide (v ≤ hi) = false := by simpa using h2
      rw [d1, d2]
      go_enter Tryz.func95, Tryz.ntmps95
      go_wp2_with fail
      go_ret
      exact ⟨rfl, rfl⟩
  · have d1 : decide (lo ≤ v) = false := by simpa using h1
    rw [d1]
    go_enter Tryz.func95, Tryz.ntmps95
    go_wp2_with fail
    go_ret
    exact ⟨rfl, rfl⟩

set_option maxHeartbeats 400000 in
theorem l2Better (x y a b : Int) (w : World) :
    Calls Tryz.prog 129 #[.agg #[.int .i64 x, .int .i64 y], .agg #[.int .i64 a, .int .i64 b]] w fun e w' => e = .returned (.bool (bet (x, y) (a, b))) ∧ Below w.heap.size w w' := by
  have B : ∀ o o2, Below w.heap.size w ((w.alloc o).alloc o2) := fun o o2 => ((Below.refl _ _).alloc (Nat.le_refl _) o).alloc (by simp) o2
  by_cases h1 : y < b
  · have d1 : decide (y < b) = true := by simpa using h1
    have e : bet (x, y) (a, b) = true := by simp [bet, h1]
    rw [e]
    go_enter Tryz.func129, Tryz.ntmps129
    go_wp2_with fail
    go_ret
    exact ⟨rfl, B _ _⟩
  · have d1 : decide (y < b) = false := by simpa using h1
    by_cases h2 : y = b
    · subst h2
      have d2 : (y == y) = true := by simp
      have e : bet (x, y) (a, y) = decide (x < a) := by simp [bet]
      rw [e]
      cases d3 : decide (x < a) <;>
      · go_enter Tryz.func129, Tryz.ntmps129
        go_wp2_with fail
        go_ret
        exact ⟨rfl, B _ _⟩
    · have d2 : (y == b) = false := by simpa using h2
      have e : bet (x, y) (a, b) = false := by simp [bet, h1, h2]
      rw [e]
      go_enter Tryz.func129, Tryz.ntmps129
      go_wp2_with fail
      go_ret
      exact ⟨rfl, B _ _⟩

theorem l2K (k : Int) (w : World) :
    Calls Tryz.prog 46 #[.int .i64 k] w fun e w' => e = .returned (.bool (decide (0 ≤ k) && decide (k ≤ 20))) ∧ w' = w := by
  go_enter Tryz.func46, Tryz.ntmps46
  go_wp2_with fail
  refine (l1In k 0 20 _).mono ?_
  rintro e w1 ⟨rfl, rfl⟩
  go_wp2_with fail
  go_ret
  exact ⟨rfl, rfl⟩

theorem l1Min (a b : Int) (w : World) :
    Calls Tryz.prog 130 #[.int .i64 a, .int .i64 b] w fun e w' => e = .returned (.int .i64 (min a b)) ∧ w' = w := by
  by_cases h : a < b
  · have e : min a b = a := by omega
    rw [e]
    go_enter Tryz.func130, Tryz.ntmps130
    go_wp2_with fail
    go_ret
    exact ⟨rfl, rfl⟩
  · have e : min a b = b := by omega
    rw [e]
    go_enter Tryz.func130, Tryz.ntmps130
    go_wp2_with fail
    go_ret
    exact ⟨rfl, rfl⟩

end Go.Proofs.YtggnnbdjihihiaaGreat

namespace Go.Proofs.YtggnnbdjihihiaaGreat
open Go.RowKit

theorem at_some {α : Type} {l : List α} {k : Nat} {x : α} (h : l[k]? = some x) : k < l.length := by
  rcases Nat.lt_or_ge k l.length with h2 | h2
  · exact h2
  · rw [List.getElem?_eq_none h2] at h; cases h

theorem drop_at {α : Type} {l : List α} {k : Nat} {x : α} (h : l[k]? = some x) : l.drop k = x :: l.drop (k + 1) := by
  have hk := at_some h
  rw [List.drop_eq_getElem_cons hk]
  congr 1
  simpa [hk] using h

theorem faultFrom_step (hs : List (Int × Int)) (k : Nat) (x y : Int) (h : hs[k]? = some (x, y)) :
    faultFrom (ahead hs k) (hs.drop k) = if oneB (x, y) then (if (ahead hs k).all (bet · (x, y)) then faultFrom (ahead hs (k + 1)) (hs.drop (k + 1)) else 1) else 3 := by
  rw [drop_at h]
  have : ahead hs (k + 1) = some (x, y) := by simpa [ahead] using h
  rw [this]
  rfl

end Go.Proofs.YtggnnbdjihihiaaGreat

namespace Go.Proofs.YtggnnbdjihihiaaGreat
open Go.RowKit

theorem append_none {P : Program} (t ty e : TypeId) (i : TypeInfo) (ht : P.underlying t = some (.slice e)) (hi : P.info? e = some i) (bo : Option Addr) (n cap c : Nat) (hn : n ≤ cap) (w : World) :
    (Builtin.append_ #[t, t] ty #[.slice bo n cap, .slice none 0 c]).run P w = (Builtin.append_ #[t, t] ty #[.slice bo n cap, .slice (some ⟨0, 0, none⟩) 0 c]).run P w := by
  simp [Builtin.append_, run_underlying ht, sizeOf, typeInfo, hi, Builtin.lenOf, hn, Builtin.firstCells, loadCells, loadCellsFrom]

theorem run_append_hits {w : World} (base ty : Nat) (v : Value) (n : Nat) (hs : List (Int × Int)) (hown : w.ownsRow base 44 2 v n (cells2 hs)) (x : Value) (ks : List (Int × Int)) (hx : IsHits w x ks)
    (hn : n + ks.length ≤ 100000000) (hbase : base ≤ w.heap.size) :
    ∃ v' w', (Builtin.append_ #[31, 31] ty #[v, x]).run Tryz.prog w = .ok v' w' ∧ w'.ownsRow base 44 2 v' (n + ks.length) (cells2 (hs ++ ks)) ∧ w.grownBy w' v.ownBlock ∧
      (v'.ownBlock = v.ownBlock ∨ v'.ownBlock = some w.heap.size) := by
  obtain ⟨i0, hi, hz0, hz1, hz2⟩ := info_parts infoHit
  have hml : n + ks.length ≤ maxLen := by unfold maxLen; omega
  rw [cells2_app]
  by_cases hp : 0 < ks.length
  · have hx' := hx
    obtain ⟨ao, cap, rfl, h1, h2, hwf, hc⟩ := hx'
    obtain ⟨b, off, rfl, hc1⟩ := hc hp
    obtain ⟨v', w', r1, r2, r3, -, r5⟩ := run_append_own_at (P := Tryz.prog) w base 31 ty 44 i0 _ 2 16 Tryz.underlying31 hi hz0 hz1 hz2 rfl (by omega) v n (cells2 hs) hown ⟨b, off, none⟩ ks.length cap (cells2 ks) (cells2_len ks) hx.news (cells2_one ks) hml (by omega) hbase
    exact ⟨v', w', r1, r2, r3, r5⟩
  · obtain rfl : ks = [] := List.eq_nil_of_length_eq_zero (by omega)
    obtain ⟨ao, cap, rfl, h1, h2, hwf, hc⟩ := hx
    cases ao with
    | none =>
      obtain ⟨v', w', r1, r2, r3, -, r5⟩ := run_append_own_at (P := Tryz.prog) w base 31 ty 44 i0 _ 2 16 Tryz.underlying31 hi hz0 hz1 hz2 rfl (by omega) v n (cells2 hs) hown ⟨0, 0, none⟩ 0 cap [] rfl (by simp) (by simp) hml (by simp at hn; omega) hbase
      refine ⟨v', w', ?_, r2, r3, r5⟩
      rcases hown.2 with ⟨rfl, h0⟩ | ⟨g, cp, cur, rfl, _, _, hle, _⟩
      · exact (append_none _ _ _ i0 Tryz.underlying31 hi none 0 0 cap (Nat.le_refl _) w).trans r1
      · exact (append_none _ _ _ i0 Tryz.underlying31 hi _ n cp cap hle w).trans r1
    | some ad =>
      obtain ⟨v', w', r1, r2, r3, -, r5⟩ := run_append_own_at (P := Tryz.prog) w base 31 ty 44 i0 _ 2 16 Tryz.underlying31 hi hz0 hz1 hz2 rfl (by omega) v n (cells2 hs) hown ad 0 cap [] rfl (by simp) (by simp) hml (by simp at hn; omega) hbase
      exact ⟨v', w', r1, r2, r3, r5⟩

/-- The same at an operation of a plain region. -/
theorem wpList_append_hits {w : World} {ops : Array Oper} {rest : List Oper} {o : Oper} {a : Act} {Q : Exit → Act → World → Prop} (hgd : o.guard = none) (s x : Operand)
    (ho : o.op = .call { callee := .builtin .append, args := #[s, x], argTypes := #[31, 31] })
    (base : Nat) (v : Value) (n : Nat) (hs : List (Int × Int)) (hv : a.eval s = v) (hown : w.ownsRow base 44 2 v n (cells2 hs)) (X : Value) (ks : List (Int × Int)) (hX : a.eval x = X) (hx : IsHits w X ks)
    (hn : n + ks.length ≤ 100000000) (hbase : base ≤ w.heap.size)
    (h : ∀ v' w', w'.ownsRow base 44 2 v' (n + ks.length) (cells2 (hs ++ ks)) → w.grownBy w' v.ownBlock → (v'.ownBlock = v.ownBlock ∨ v'.ownBlock = some w.heap.size) → wpList Tryz.prog ops Q rest (a.put o.dst v') w') :
    wpList Tryz.prog ops Q (o :: rest) a w := by
  refine wpList_plain hgd fun K hK => ?_
  obtain ⟨v', w', hr, h2, h3, h4⟩ := run_append_hits base o.type v n hs hown X ks hx hn hbase
  unfold Oper.wp execOp
  simp only [ho, resolve, invoke, builtin, Sem.run_bind, Sem.run_pure, Result.andThen_ok, List.map_toArray, List.map_cons, List.map_nil, hv, hX, hr]
  exact hK _ _ (h v' w' h2 h3 h4)

/-- .. onto a row that has a block: the new slice written out. -/
theorem wpList_append_row {w : World} {ops : Array Oper} {rest : List Oper} {o : Oper} {a : Act} {Q : Exit → Act → World → Prop} (hgd : o.guard = none) (s x : Operand)
    (ho : o.op = .call { callee := .builtin .append, args := #[s, x], argTypes := #[31, 31] })
    (base g n cp : Nat) (hs : List (Int × Int)) (hv : a.eval s = .slice (some ⟨g, 0, none⟩) n cp) (hown : w.ownsRow base 44 2 (.slice (some ⟨g, 0, none⟩) n cp) n (cells2 hs)) (X : Value) (ks : List (Int × Int)) (hX : a.eval x = X) (hx : IsHits w X ks)
    (m : Nat) (hm : n + ks.length = m) (hn : m ≤ 100000000) (hbase : base ≤ w.heap.size)
    (h : ∀ g' cp' w', w'.ownsRow base 44 2 (.slice (some ⟨g', 0, none⟩) m cp') m (cells2 (hs ++ ks)) → w.grownBy w' (some g) → (g' = g ∨ g' = w.heap.size) → wpList Tryz.prog ops Q rest (a.put o.dst (.slice (some ⟨g', 0, none⟩) m cp')) w') :
    wpList Tryz.prog ops Q (o :: rest) a w := by
  subst hm
  refine wpList_append_hits hgd s x ho base _ n hs hv hown X ks hX hx hn hbase fun v' w' h2 h3 h4 => ?_
  rcases h2.2 with ⟨rfl, h0⟩ | ⟨g', cap', cur, rfl, _⟩
  · rcases h4 with h4 | h4 <;> simp [Value.ownBlock] at h4
  · exact h g' cap' w' h2 h3 (by rcases h4 with h4 | h4 <;> simp [Value.ownBlock] at h4 <;> simp [h4])

/-- A row's first hits are a row. -/
theorem own_take {w : World} {base T g n cap : Nat} {hs : List (Int × Int)} (h : w.ownsRow base T 2 (.slice (some ⟨g, 0, none⟩) n cap) n (cells2 hs)) (k : Nat) (hk : k ≤ n) :
    w.ownsRow base T 2 (.slice (some ⟨g, 0, none⟩) k cap) k (cells2 (hs.take k)) := by
  have hl : (cells2 hs).length = n * 2 := h.1
  rcases h.2 with ⟨h', _⟩ | ⟨g', cap', cur, h', hb, hg, hnc, hcm, hcs, htake⟩
  · simp at h'
  · simp only [Value.slice.injEq, Option.some.injEq, Addr.mk.injEq, and_true, true_and] at h'
    obtain ⟨rfl, rfl⟩ := h'
    refine ⟨?_, .inr ⟨g, cap, cur, rfl, hb, hg, by omega, hcm, hcs, ?_⟩⟩
    · rw [cells2_len] at hl ⊢
      simp
      omega
    · rw [← cells2_take, ← htake, List.take_take]
      congr 1
      omega

end Go.Proofs.YtggnnbdjihihiaaGreat

namespace Go.Proofs.YtggnnbdjihihiaaGreat
open Go.RowKit

theorem eqIn2 (a b c d : Int) (w : World) : (Op.equalIn 10000 44 (.agg #[.int .i64 a, .int .i64 b]) (.agg #[.int .i64 c, .int .i64 d])).run Tryz.prog w = .ok (a == c && b == d) w := by
  have u3 := Tryz.underlying2
  have a3 := Tryz.isAgg2
  have z3 := Tryz.sizeOf2
  have hS : Tryz.prog.underlying 44 = some (.struct (Tryz.prog.fieldsOf 44)) := by kernel_rfl
  have hp : Tryz.prog.stoodInHeld 44 = false := by kernel_rfl
  rw [show (10000 : Nat) = 9999 + 1 from rfl, run_equalIn_agg w 9999 44 _ _ hS hp]
  simp only [Program.fieldsOf, Tryz.underlying44]
  go_simp
  by_cases h1 : a = c <;> by_cases h2 : b = d <;> simp [h1, h2]
theorem neq2 (a b c d : Int) (w : World) : (binOp .neq 44 (.agg #[.int .i64 a, .int .i64 b]) (.agg #[.int .i64 c, .int .i64 d])).run Tryz.prog w = .ok (.bool (!(a == c && b == d))) w := by
  simp only [binOp]
  simp only [Op.equal, Op.maxDepth]
  simp [eqIn2]
theorem eql2 (a b c d : Int) (w : World) : (binOp .eql 44 (.agg #[.int .i64 a, .int .i64 b]) (.agg #[.int .i64 c, .int .i64 d])).run Tryz.prog w = .ok (.bool (a == c && b == d)) w := by
  simp only [binOp]
  simp only [Op.equal, Op.maxDepth]
  simp [eqIn2]

end Go.Proofs.YtggnnbdjihihiaaGreat

namespace Go.Proofs.YtggnnbdjihihiaaGreat
open Go.RowKit

/-- How many hits at the head are better than h. -/
def posOf : List (Int × Int) → Int × Int → Nat
  | [], _ => 0
  | a :: r, h => if bet a h then posOf r h + 1 else 0
theorem posOf_le (hs : List (Int × Int)) (h : Int × Int) : posOf hs h ≤ hs.length := by
  induction hs with
  | nil => simp [posOf]
  | cons a r ih =>
    unfold posOf
    split <;> simp
    omega
theorem ins_pos (hs : List (Int × Int)) (h : Int × Int) : ins hs h = hs.take (posOf hs h) ++ (if hs[posOf hs h]? = some h then [] else [h]) ++ hs.drop (posOf hs h) := by
  induction hs with
  | nil => simp [ins, posOf]
  | cons a r ih =>
    unfold ins posOf
    split
    · simp [ih]
    · simp
      split <;> simp
/-- The test of the model's loop at place k. -/
def goOn (hs : List (Int × Int)) (h : Int × Int) (k : Nat) : Bool := (hs[k]?).any (bet · h)
theorem goOn_true {hs : List (Int × Int)} {h : Int × Int} {k : Nat} (hg : goOn hs h k = true) : k < hs.length ∧ posOf (hs.drop k) h = posOf (hs.drop (k + 1)) h + 1 := by
  unfold goOn at hg
  cases e : hs[k]? with
  | none => rw [e] at hg; simp at hg
  | some q =>
    rw [e] at hg
    refine ⟨at_some e, ?_⟩
    rw [drop_at e]
    simp only [Option.any_some] at hg
    simp [posOf, hg]
theorem goOn_false {hs : List (Int × Int)} {h : Int × Int} {k : Nat} (hg : goOn hs h k = false) : posOf (hs.drop k) h = 0 := by
  unfold goOn at hg
  cases e : hs[k]? with
  | none =>
    have : hs.length ≤ k := by simpa using e
    rw [List.drop_eq_nil_of_le this]
    rfl
  | some q =>
    rw [e] at hg
    rw [drop_at e]
    simp only [Option.any_some] at hg
    simp [posOf, hg]

theorem own_le {w : World} {base T sz g n cap : Nat} {xs : List Value} (h : w.ownsRow base T sz (.slice (some ⟨g, 0, none⟩) n cap) n xs) : n ≤ cap := by
  rcases h.2 with ⟨h0, _⟩ | ⟨g, c, cur, h0, _, _, h1, _⟩
  · simp at h0
  · simp only [Value.slice.injEq] at h0
    obtain ⟨-, -, rfl⟩ := h0
    exact h1
theorem hit_new {w : World} (x y : Int) (h : Wf2 (x, y)) : IsHits (w.alloc (.cells #[.int .i64 x, .int .i64 y] 44)) (.slice (some ⟨w.heap.size, 0, none⟩) 1 1) [(x, y)] := by
  obtain ⟨q0, q1⟩ := new_cells (w := w) (T := 44) (x := .int .i64 x) (y := .int .i64 y)
  refine ⟨_, _, rfl, by simp, ⟨by unfold maxLen; omega, by simp⟩, by simpa using h, fun _ => ⟨w.heap.size, 0, rfl, fun j a b hj => ?_⟩⟩
  cases j with
  | zero =>
    simp at hj
    obtain ⟨rfl, rfl⟩ := hj
    exact ⟨q0, q1⟩
  | succ j => simp at hj

set_option maxRecDepth 100000 in
set_option maxHeartbeats 1000000 in
theorem l2Add_pos (b off cap : Nat) (hs : List (Int × Int)) (x y : Int) (k : Nat) (w : World) (hp : 0 < hs.length) (hn : hs.length ≤ 100000) (hcap : hs.length ≤ cap) (hm : cap ≤ maxLen) (hwf : ∀ p ∈ hs, Wf2 p) (hwh : Wf2 (x, y))
    (hc : ∀ j x y, hs[j]? = some (x, y) → w.cell? ⟨b, off + j * 2, none⟩ = some (.int .i64 x) ∧ w.cell? ⟨b, off + j * 2 + 1, none⟩ = some (.int .i64 y)) :
    Calls Tryz.prog 97 #[.slice (some ⟨b, off, none⟩) hs.length cap, .agg #[.int .i64 x, .int .i64 y], .int .i64 k] w fun e w' => ∃ g cap', e = .returned (.slice (some ⟨g, 0, none⟩) ((ins hs (x, y)).take k).length cap') ∧
      w'.ownsRow w.heap.size 44 2 (.slice (some ⟨g, 0, none⟩) ((ins hs (x, y)).take k).length cap') ((ins hs (x, y)).take k).length (cells2 ((ins hs (x, y)).take k)) ∧ Below w.heap.size w w' := by
  have HH : Hid (∀ W, Below w.heap.size w W → IsHits W (.slice (some ⟨b, off, none⟩) hs.length cap) hs) := fun W hW => IsHits.later ⟨_, _, rfl, hcap, ⟨hm, by simp⟩, hwf, fun _ => ⟨b, off, rfl, hc⟩⟩ hW
  obtain ⟨q0, q1⟩ := new_cells (w := w) (T := 44) (x := .int .i64 x) (y := .int .i64 y)
  have B0 : Below w.heap.size w (w.alloc (.cells #[.int .i64 x, .int .i64 y] 44)) := (Below.refl _ _).alloc (Nat.le_refl _) _
  have HWF := hide hwf
  have HC := hide hc
  clear hwf hc
  go_enter Tryz.func97, Tryz.ntmps97
  go_wp2_with fail
  go_loopw [7] (fun i wr => ∃ j : Nat, j ≤ hs.length ∧ i = .int .i64 j ∧ j + posOf (hs.drop j) (x, y) = posOf hs (x, y) ∧ wr.cell? ⟨w.heap.size, 0, none⟩ = some (.int .i64 x) ∧ wr.cell? ⟨w.heap.size, 1, none⟩ = some (.int .i64 y) ∧ Below w.heap.size w wr) (fun i _ => hs.length - (intOf i).toNat)
  case atStart => exact ⟨0, Nat.zero_le _, rfl, by simp, q0, q1, B0⟩
  case round =>
    obtain ⟨j, hj, rfl, hps, r0, r1, hB⟩ := hrel
    clear q0 q1 B0
    have HPS := hide hps
    have HB := hide hB
    clear hps hB
    go_upto_region 2 with fail
    go_cut [20] from 9 to 22 (fun s20 wx => s20 = .bool (goOn hs (x, y) j) ∧ wx.cell? ⟨w.heap.size, 0, none⟩ = some (.int .i64 x) ∧ wx.cell? ⟨w.heap.size, 1, none⟩ = some (.int .i64 y) ∧ Below w.heap.size w wx)
    case first =>
      by_cases hlt : j < hs.length
      · obtain ⟨x2, y2, hxy⟩ : ∃ x y, hs[j]? = some (x, y) := ⟨hs[j].1, hs[j].2, by simp [hlt]⟩
        have p1 := ((unhide HB).cell (World.block_lt_of_cell? _ _ (unhide HC j x2 y2 hxy).1)).trans (unhide HC j x2 y2 hxy).1
        have p2 := ((unhide HB).cell (World.block_lt_of_cell? _ _ (unhide HC j x2 y2 hxy).2)).trans (unhide HC j x2 y2 hxy).2
        have hgo : goOn hs (x, y) j = bet (x2, y2) (x, y) := by simp [goOn, hxy]
        have HG := hide hgo
        have g1 : decide ((j : Int) < (hs.length : Int)) = true := by simp; omega
        have g3 : (j : Int) < (hs.length : Int) := by omega
        have g5 : (0 : Int) ≤ (j : Int) := by omega
        have LB : Hid (∀ W, Calls Tryz.prog 129 #[.agg #[.int .i64 x2, .int .i64 y2], .agg #[.int .i64 x, .int .i64 y]] W fun e w' => e = .returned (.bool (bet (x2, y2) (x, y))) ∧ Below W.heap.size W w') := fun W => l2Better x2 y2 x y W
        clear hxy hgo HPS HC HWF HH
        go_region_held3 (fun w' => Below wr.heap.size wr w' ∧ w'.cell? ⟨b, off + j * 2, none⟩ = some (.int .i64 x2) ∧ w'.cell? ⟨b, off + j * 2 + 1, none⟩ = some (.int .i64 y2) ∧ w'.cell? ⟨w.heap.size, 0, none⟩ = some (.int .i64 x) ∧ w'.cell? ⟨w.heap.size, 1, none⟩ = some (.int .i64 y))
          (first
            | exact ⟨(Below.refl _ _).drew, p1, p2, r0, r1⟩
            | (refine ⟨below_keep2 ?_ hb2, cell_keep hb2 ?_, cell_keep hb2 ?_, cell_keep hb2 ?_, cell_keep hb2 ?_⟩ <;> (first | assumption | (go_split_ands; assumption)))
            | go_keep)
          (first
            | (go_at_call 129; refine (unhide LB _).mono ?_; rintro e w2 ⟨rfl, hb2⟩))
        go_wp2_with fail
        go_meet
        refine ⟨congrArg Value.bool (unhide HG).symm, ?_, ?_, below_keep2 (unhide HB) ?_⟩ <;> (first | assumption | (go_split_ands; assumption))
      · obtain rfl : j = hs.length := by omega
        have hgo : goOn hs (x, y) hs.length = false := by simp [goOn]
        have HG := hide hgo
        have g1 : decide ((hs.length : Int) < (hs.length : Int)) = false := by simp
        clear hgo HPS HC HWF HH
        go_quiet (fail)
        go_wp2_with fail
        go_meet
        exact ⟨congrArg Value.bool (unhide HG).symm, r0, r1, below_drewN (unhide HB) _⟩
    case rest =>
    obtain ⟨rfl, s0, s1, hBc⟩ := hcut
    clear r0 r1 HB HC
    cases hg : goOn hs (x, y) j with
    | true =>
      obtain ⟨hlt, he⟩ := goOn_true hg
      have HP2 : Hid (j + 1 + posOf (hs.drop (j + 1)) (x, y) = posOf hs (x, y)) := by
        show j + 1 + posOf (hs.drop (j + 1)) (x, y) = posOf hs (x, y)
        have := unhide HPS
        omega
      have HBc := hide hBc
      clear he HPS hg hBc
      go_wp2_with fail
      go_roundw
      case rel => exact ⟨j + 1, by omega, by go_num, unhide HP2, s0, s1, unhide HBc⟩
      case measure => simp [intOf]; omega
    | false =>
      have hpo := goOn_false hg
      have hps := unhide HPS
      rw [hpo, Nat.add_zero] at hps
      have HE := hide hps
      have HBc := hide hBc
      clear hpo hps hg hBc HPS
      have hjc : (j : Int) ≤ (cap : Int) := by omega
      have hsz := World.block_lt_of_cell? _ _ s0
      have ba : Below w.heap.size w (wc.alloc (.cells #[] 44)) := (unhide HBc).alloc (unhide HBc).size _
      have O1 : (wc.alloc (.cells #[] 44)).ownsRow (w.heap.size + 1) 44 2 (.slice (some ⟨wc.heap.size, 0, none⟩) 0 0) 0 (cells2 []) := World.ownsRow_lit wc #[] 0 hsz (by unfold maxLen; omega) rfl
      have I1 := ((unhide HH) _ ba).take j hj
      have hlj : (hs.take j).length = j := by simp; omega
      have HBA := hide ba
      have HL := hide hlj
      have n1 := World.grownBy_alloc wc (.cells #[] 44) none
      have S0 := n1.cell s0 (by simp)
      have S1 := n1.cell s1 (by simp)
      clear ba n1 hlj
      go_wp2_with (at_builtin; refine wpList_append_row rfl _ _ rfl (w.heap.size + 1) wc.heap.size 0 0 [] rfl O1 _ (hs.take j) rfl I1 j ?o1 ?o2 ?o3 ?_)
      case o2 => omega
      case o3 => omega
      intro g1 cp1 w1 O2 G1 A1
      have hg1 := (O2.lt g1 rfl).1
      have b1 : Below w.heap.size w w1 := (unhide HBA).grown G1 (by simp; omega) (fun k hk => by simp at hk; omega)
      have S0' := G1.cell S0 (by simp; omega)
      have S1' := G1.cell S1 (by simp; omega)
      have hsz1 : w.heap.size + 1 ≤ w1.heap.size := by have := G1.size; simp at this; omega
      have HB1 := hide b1
      have HO2 := hide O2
      clear O1 I1 S0 S1 s0 s1 G1 A1 HBA HBc b1 O2 hsz
      go_upto_region 5 with fail
      go_cut [39] from 28 to 38 (fun s39 wx => s39 = .bool (decide (hs[j]? ≠ some (x, y))) ∧ wx.cell? ⟨w.heap.size, 0, none⟩ = some (.int .i64 x) ∧ wx.cell? ⟨w.heap.size, 1, none⟩ = some (.int .i64 y) ∧ wx.ownsRow (w.heap.size + 1) 44 2 (.slice (some ⟨g1, 0, none⟩) j cp1) j (cells2 (hs.take j)) ∧ w.heap.size + 1 ≤ wx.heap.size ∧ Below w.heap.size w wx)
      case first =>
        by_cases hlt : j < hs.length
        · obtain ⟨x2, y2, hxy⟩ : ∃ x y, hs[j]? = some (x, y) := ⟨hs[j].1, hs[j].2, by simp [hlt]⟩
          obtain ⟨_, _, e1, _, _, _, hcc⟩ := unhide HH w1 (unhide HB1)
          simp only [Value.slice.injEq] at e1
          obtain ⟨rfl, -, rfl⟩ := e1
          obtain ⟨_, _, e2, hcc⟩ := hcc hp
          simp only [Option.some.injEq, Addr.mk.injEq, and_true] at e2
          obtain ⟨rfl, rfl⟩ := e2
          obtain ⟨p1, p2⟩ := hcc j x2 y2 hxy
          have hd : decide (hs[j]? ≠ some (x, y)) = (!x2 == x || !y2 == y) := by
            rw [hxy]
            by_cases h1 : x2 = x <;> by_cases h2 : y2 = y <;> simp [h1, h2]
          have HG := hide hd
          have g1 : ((j : Int) == (hs.length : Int)) = false := by simp; omega
          have g3 : (j : Int) < (hs.length : Int) := by omega
          have g5 : (0 : Int) ≤ (j : Int) := by omega
          have hin := eqIn2 x2 y2 x y
          have hne := neq2 x2 y2 x y
          clear hxy hcc hd HWF HH
          go_quiet (fail)
          go_wp2_with fail
          go_meet
          exact ⟨congrArg Value.bool (unhide HG).symm, S0', S1', unhide HO2, hsz1, below_drewN (unhide HB1) _⟩
        · obtain rfl : j = hs.length := by omega
          have hd : decide (hs[hs.length]? ≠ some (x, y)) = true := by simp
          have HG := hide hd
          have g1 : ((hs.length : Int) == (hs.length : Int)) = true := by simp
          clear hd HWF HH
          go_quiet (fail)
          go_wp2_with fail
          go_meet
          exact ⟨congrArg Value.bool (unhide HG).symm, S0', S1', unhide HO2, hsz1, below_drewN (unhide HB1) _⟩
      case rest =>
      obtain ⟨rfl, u0, u1, O3, hsz3, hb3⟩ := hcut
      clear S0' S1' HB1 HO2 hsz1
      have HB3 := hide hb3
      have HO3 := hide O3
      clear hb3 O3
      go_upto_if 39 with fail
      go_cut [8] from 39 to 43 (fun s8 wx => ∃ (g2 cp2 n2 : Nat) (ms : List (Int × Int)), s8 = .slice (some ⟨g2, 0, none⟩) n2 cp2 ∧ ms.length = n2 ∧ n2 ≤ j + 1 ∧ ms = hs.take j ++ (if hs[j]? = some (x, y) then [] else [(x, y)]) ∧ wx.ownsRow (w.heap.size + 1) 44 2 (.slice (some ⟨g2, 0, none⟩) n2 cp2) n2 (cells2 ms) ∧ w.heap.size + 1 ≤ wx.heap.size ∧ Below w.heap.size w wx)
      case first =>
        by_cases hd : hs[j]? = some (x, y)
        · have d1 : decide (hs[j]? ≠ some (x, y)) = false := by simp [hd]
          rw [d1]
          have HD := hide hd
          clear d1 hd HH HWF
          go_wp2_with fail
          go_meet
          exact ⟨g1, cp1, j, hs.take j, rfl, by simp; omega, by omega, by simp [unhide HD], unhide HO3, hsz3, unhide HB3⟩
        · have d1 : decide (hs[j]? ≠ some (x, y)) = true := by simp [hd]
          rw [d1]
          have HD := hide hd
          have O3 := (unhide HO3).alloc (.cells #[.int .i64 x, .int .i64 y] 44)
          have X3 : IsHits (wc.alloc (.cells #[.int .i64 x, .int .i64 y] 44)) (.slice (some ⟨wc.heap.size, 0, none⟩) 1 1) [(x, y)] := hit_new x y hwh
          have b3 : Below w.heap.size w (wc.alloc (.cells #[.int .i64 x, .int .i64 y] 44)) := (unhide HB3).alloc (unhide HB3).size _
          have HB4 := hide b3
          clear d1 hd HH HWF b3
          go_wp2_with (at_builtin; refine wpList_append_row rfl _ _ rfl (w.heap.size + 1) g1 j cp1 (hs.take j) rfl O3 _ [(x, y)] rfl X3 (j + 1) rfl ?o5 ?o6 ?_)
          case o5 => omega
          case o6 => simp; omega
          intro g2 cp2 w2 O4 G2 A2
          have b4 : Below w.heap.size w w2 := (unhide HB4).grown G2 (by simp; omega) (fun k hk => by simp at hk; omega)
          have hs2 : w.heap.size + 1 ≤ w2.heap.size := by have := G2.size; simp at this; omega
          have HO4 := hide O4
          have HB5 := hide b4
          clear O3 X3 G2 A2 O4 b4 HB4
          go_wp2_with fail
          go_meet
          exact ⟨g2, cp2, j + 1, hs.take j ++ [(x, y)], rfl, by simp; omega, by omega, by simp [unhide HD], unhide HO4, hs2, unhide HB5⟩
      case rest =>
      obtain ⟨g2, cp2, n2, ms, rfl, hml, hn2, hms, O5, hsz5, hb5⟩ := hcut
      have I5 := (unhide HH) _ hb5
      have HB5 := hide hb5
      have HO5 := hide O5
      have HM := hide hms
      have HM2 := hide hml
      clear u0 u1 hsz3 HB3 HO3 hb5 hms HH HWF
      have hjl : (j : Int) ≤ (hs.length : Int) := by omega
      have hlc : (hs.length : Int) ≤ (cap : Int) := by omega
      have hld : (hs.drop j).length = hs.length - j := by simp
      have HLD := hide hld
      have HI5 := hide I5
      clear hld I5
      go_upto_region 7 with fail
      go_cut [8] from 44 to 48 (fun s8 wx => ∃ g3 cp3 : Nat, s8 = .slice (some ⟨g3, 0, none⟩) (n2 + (hs.length - j)) cp3 ∧ wx.ownsRow (w.heap.size + 1) 44 2 (.slice (some ⟨g3, 0, none⟩) (n2 + (hs.length - j)) cp3) (n2 + (hs.length - j)) (cells2 (ms ++ hs.drop j)) ∧ Below w.heap.size w wx)
      case first =>
        have hg2 := (O5.lt g2 rfl).1
        have fin : ∀ (g3 cp3 : Nat) (w3 : World), w3.ownsRow (w.heap.size + 1) 44 2 (.slice (some ⟨g3, 0, none⟩) (n2 + (hs.length - j)) cp3) (n2 + (hs.length - j)) (cells2 (ms ++ hs.drop j)) → wc.grownBy w3 (some g2) → Below w.heap.size w w3 := fun g3 cp3 w3 _ G => (unhide HB5).grown G (by omega) (fun k hk => by simp at hk; omega)
        by_cases hjc2 : j = cap
        · have hz : n2 + (hs.length - j) = n2 := by omega
          have hdz : hs.drop j = [] := List.drop_eq_nil_of_le (by omega)
          have HZ := hide hz
          have HDZ := hide hdz
          have hle2 := own_le O5
          clear O5 hz hdz fin
          subst hjc2
          go_wp2_with fail
          go_meet
          exact ⟨g2, cp2, by rw [unhide HZ], by rw [unhide HZ, unhide HDZ, List.append_nil]; exact unhide HO5, unhide HB5⟩
        · have X5 : IsHits wc (.slice (some ⟨b, off + j * 2, none⟩) (hs.length - j) (cap - j)) (hs.drop j) := (unhide HI5).drop j hj _ (fun _ => rfl)
          go_wp2_with (at_builtin; refine wpList_append_row rfl _ _ rfl (w.heap.size + 1) g2 n2 cp2 ms rfl O5 _ (hs.drop j) rfl X5 (n2 + (hs.length - j)) (by rw [unhide HLD]) (by omega) (by omega) ?_)
          intro g3 cp3 w3 O6 G3 A3
          have b6 := fin g3 cp3 w3 O6 G3
          have HO6 := hide O6
          have HB6 := hide b6
          clear O5 O6 G3 A3 b6 fin X5
          go_wp2_with fail
          go_meet
          exact ⟨g3, cp3, rfl, unhide HO6, unhide HB6⟩
      case rest =>
      obtain ⟨g3, cp3, rfl, O7, hb7⟩ := hcut
      have hls : ms ++ hs.drop j = ins hs (x, y) := by
        have he := unhide HE
        have h2 := unhide HM
        subst h2
        rw [ins_pos, ← he]
      have hll : n2 + (hs.length - j) = (ins hs (x, y)).length := by rw [← hls, List.length_append, unhide HM2, unhide HLD]
      rw [hls] at O7
      rw [hll] at O7 ⊢
      have hle := own_le O7
      have hin := ins_len hs (x, y)
      have hlk : ((ins hs (x, y)).take k).length = min k (ins hs (x, y)).length := by simp
      have HO7 := hide (own_mono (Nat.le_succ _) (own_take O7 (min k (ins hs (x, y)).length) (by omega)))
      have HB7 := hide hb7
      have HK := hide hlk
      have e1 : (ins hs (x, y)).take (min k (ins hs (x, y)).length) = (ins hs (x, y)).take k := by rw [← List.take_eq_take_min]
      have HE1 := hide e1
      clear O5 O7 hb7 hls hll hlk e1 HM HE HB5 HO5 HM2 HI5 HLD hml hjl hlc
      generalize (ins hs (x, y)).length = N at *
      go_wp2_with fail
      refine (l1Min (k : Int) (N : Int) _).mono ?_
      rintro e w9 ⟨rfl, rfl⟩
      have e2 : min (k : Int) (N : Int) = ((min k N : Nat) : Int) := by omega
      rw [e2]
      have c1 : ((min k N : Nat) : Int) ≤ (cp3 : Int) := by omega
      go_wp2_with fail
      go_ret
      refine ⟨g3, cp3, by rw [unhide HK]; rfl, ?_, unhide HB7⟩
      rw [unhide HK, ← unhide HE1]
      exact unhide HO7


set_option maxRecDepth 100000 in
set_option maxHeartbeats 1000000 in
theorem l2Add_zero (ao : Option Addr) (cap : Nat) (x y : Int) (k : Nat) (w : World) (hm : cap ≤ maxLen ∧ (ao = none → cap = 0)) (hwh : Wf2 (x, y)) :
    Calls Tryz.prog 97 #[.slice ao 0 cap, .agg #[.int .i64 x, .int .i64 y], .int .i64 k] w fun e w' => ∃ g cap', e = .returned (.slice (some ⟨g, 0, none⟩) (min k 1) cap') ∧
      w'.ownsRow w.heap.size 44 2 (.slice (some ⟨g, 0, none⟩) (min k 1) cap') (min k 1) (cells2 ([(x, y)].take (min k 1))) ∧ Below w.heap.size w w' := by
  obtain ⟨q0, q1⟩ := new_cells (w := w) (T := 44) (x := .int .i64 x) (y := .int .i64 y)
  have B0 : Below w.heap.size w (w.alloc (.cells #[.int .i64 x, .int .i64 y] 44)) := (Below.refl _ _).alloc (Nat.le_refl _) _
  have g1 : decide ((0 : Int) < 0) = false := by decide
  have g2 : ((0 : Int) == 0) = true := by decide
  go_enter Tryz.func97, Tryz.ntmps97
  go_wp2_with fail
  refine wp_loop_rounds 1 ?_
  rw [rounds_succ]
  go_wp2_with fail
  go_quiet (fail)
  go_upto_region 4 with fail
  generalize hwa : w.alloc (.cells #[.int .i64 x, .int .i64 y] 44) = wa at *
  have hsa : w.heap.size < wa.heap.size := World.block_lt_of_cell? _ _ q0
  have HB0 := hide B0
  clear hwa B0
  go_cut [8] from 23 to 27 (fun s8 wx => ∃ g1 : Nat, s8 = .slice (some ⟨g1, 0, none⟩) 0 0 ∧ wx.ownsRow (w.heap.size + 1) 44 2 (.slice (some ⟨g1, 0, none⟩) 0 0) 0 (cells2 []) ∧ wx.cell? ⟨w.heap.size, 0, none⟩ = some (.int .i64 x) ∧ wx.cell? ⟨w.heap.size, 1, none⟩ = some (.int .i64 y) ∧ Below w.heap.size w wx)
  case first =>
    have O1 : (wa.alloc (.cells #[] 44)).ownsRow (w.heap.size + 1) 44 2 (.slice (some ⟨wa.heap.size, 0, none⟩) 0 0) 0 (cells2 []) := World.ownsRow_lit wa #[] 0 hsa (by unfold maxLen; omega) rfl
    have n1 := World.grownBy_alloc wa (.cells #[] 44) none
    have S0 := n1.cell q0 (by simp)
    have S1 := n1.cell q1 (by simp)
    have b1 : Below w.heap.size w (wa.alloc (.cells #[] 44)) := (unhide HB0).alloc (by omega) _
    have HO1 := hide O1
    have HS0 := hide S0
    have HS1 := hide S1
    have HB1 := hide b1
    clear O1 S0 S1 b1 n1
    cases ao with
    | none =>
      obtain rfl := hm.2 rfl
      clear hm
      go_wp2_with fail
      go_meet
      exact ⟨wa.heap.size, rfl, unhide HO1, unhide HS0, unhide HS1, below_drewN (unhide HB1) _⟩
    | some a =>
      have hm1 := hm.1
      clear hm
      go_wp2_with fail
      go_meet
      exact ⟨wa.heap.size, rfl, unhide HO1, unhide HS0, unhide HS1, below_drewN (unhide HB1) _⟩
  case rest =>
  obtain ⟨g1, rfl, O1, s0, s1, hb1⟩ := hcut
  clear q0 q1 HB0 hsa
  have hg1 := (O1.lt g1 rfl).1
  have hsz := World.block_lt_of_cell? _ _ s0
  go_wp2_with fail
  go_quiet (fail)
  have O3 : ∀ n, ((wc.alloc (.cells #[.int .i64 x, .int .i64 y] 44)).drewN n).ownsRow (w.heap.size + 1) 44 2 (.slice (some ⟨g1, 0, none⟩) 0 0) 0 (cells2 []) := fun n => O1.alloc (.cells #[.int .i64 x, .int .i64 y] 44)
  have X3 : ∀ n, IsHits ((wc.alloc (.cells #[.int .i64 x, .int .i64 y] 44)).drewN n) (.slice (some ⟨wc.heap.size, 0, none⟩) 1 1) [(x, y)] := fun n => (hit_new x y hwh).later (below_drewN (Below.refl _ _) n)
  have HB1 := hide hb1
  clear hb1
  go_wp2_with (at_builtin; refine wpList_append_row rfl _ _ rfl (w.heap.size + 1) g1 0 0 [] rfl (O3 _) _ [(x, y)] rfl (X3 _) 1 rfl ?o5 ?o6 ?_)
  case o5 => omega
  case o6 => simp; omega
  intro g2 cp2 w2 O4 G2 A2
  have b4 : Below w.heap.size w w2 := ((below_drawn (unhide HB1) _).alloc (by simp; omega) _).grown G2 (by simp; omega) (fun k hk => by simp at hk; omega)
  have hle2 := own_le O4
  have HO4 := hide O4
  have HB4 := hide b4
  clear O1 O3 X3 G2 A2 O4 b4 HB1 s0 s1 hsz hg1
  go_upto_region 7 with fail
  go_cut [8] from 44 to 48 (fun s8 wx => s8 = .slice (some ⟨g2, 0, none⟩) 1 cp2 ∧ wx.ownsRow (w.heap.size + 1) 44 2 (.slice (some ⟨g2, 0, none⟩) 1 cp2) 1 (cells2 [(x, y)]) ∧ Below w.heap.size w wx)
  case first =>
    cases ao with
    | none =>
      obtain rfl := hm.2 rfl
      clear hm
      go_wp2_with fail
      go_meet
      exact ⟨rfl, unhide HO4, unhide HB4⟩
    | some a =>
      have hm1 := hm.1
      clear hm
      go_wp2_with fail
      go_meet
      exact ⟨rfl, unhide HO4, unhide HB4⟩
  case rest =>
  obtain ⟨rfl, O7, hb7⟩ := hcut
  have HO7 := hide (own_mono (Nat.le_succ _) (own_take O7 (min k 1) (by omega)))
  have HB7 := hide hb7
  clear O7 hb7 HO4 HB4
  go_wp2_with fail
  refine (l1Min (k : Int) 1 _).mono ?_
  rintro e w9 ⟨rfl, rfl⟩
  have e2 : min (k : Int) 1 = ((min k 1 : Nat) : Int) := by omega
  rw [e2]
  have c1 : ((min k 1 : Nat) : Int) ≤ (cp2 : Int) := by omega
  go_wp2_with fail
  go_ret
  exact ⟨g2, cp2, rfl, unhide HO7, unhide HB7⟩

/-- l2Add: the hit put into the list, the first k. -/
theorem l2Add (v : Value) (hs : List (Int × Int)) (x y : Int) (k : Nat) (w : World) (h : IsHits w v hs) (hn : hs.length ≤ 100000) (hwh : Wf2 (x, y)) :
    Calls Tryz.prog 97 #[v, .agg #[.int .i64 x, .int .i64 y], .int .i64 k] w fun e w' => ∃ g cap', e = .returned (.slice (some ⟨g, 0, none⟩) ((ins hs (x, y)).take k).length cap') ∧
      w'.ownsRow w.heap.size 44 2 (.slice (some ⟨g, 0, none⟩) ((ins hs (x, y)).take k).length cap') ((ins hs (x, y)).take k).length (cells2 ((ins hs (x, y)).take k)) ∧ Below w.heap.size w w' := by
  obtain ⟨ao, cap, rfl, h1, h2, hwf, hc⟩ := h
  by_cases hp : 0 < hs.length
  · obtain ⟨b, off, rfl, hc1⟩ := hc hp
    exact l2Add_pos b off cap hs x y k w hp hn h1 h2.1 hwf hwh hc1
  · obtain rfl : hs = [] := List.eq_nil_of_length_eq_zero (by omega)
    refine (l2Add_zero ao cap x y k w h2 hwh).mono ?_
    rintro e w' ⟨g, c, rfl, ho, hb⟩
    have e1 : ((ins [] (x, y)).take k).length = min k 1 := by simp [ins]
    have e2 : (ins [] (x, y)).take k = [(x, y)].take (min k 1) := by
      simp only [ins]
      rw [show min k 1 = min k [(x, y)].length from rfl, ← List.take_eq_take_min]
    refine ⟨g, c, by rw [e1], ?_, hb⟩
    rw [e1, e2]
    exact ho

end Go.Proofs.YtggnnbdjihihiaaGreat

namespace Go.Proofs.YtggnnbdjihihiaaGreat
open Go.RowKit

theorem best_snoc (k : Nat) (hs : List (Int × Int)) (j : Nat) (x y : Int) (h : hs[j]? = some (x, y)) : best k (hs.take (j + 1)) = (ins (best k (hs.take j)) (x, y)).take k := by
  have hj := at_some h
  have he : hs[j] = (x, y) := by simpa [hj] using h
  rw [List.take_succ_eq_append_getElem hj, he]
  simp [best, List.foldl_append]

set_option maxHeartbeats 1000000 in
theorem l2Best_pos (b off cap : Nat) (hs : List (Int × Int)) (k : Nat) (w : World) (hn : hs.length ≤ 100000) (hk : k ≤ 100) (hwf : ∀ p ∈ hs, Wf2 p)
    (hc : ∀ j x y, hs[j]? = some (x, y) → w.cell? ⟨b, off + j * 2, none⟩ = some (.int .i64 x) ∧ w.cell? ⟨b, off + j * 2 + 1, none⟩ = some (.int .i64 y)) :
    Calls Tryz.prog 50 #[.slice (some ⟨b, off, none⟩) hs.length cap, .int .i64 k] w fun e w' => ∃ g cap', e = .returned (.slice (some ⟨g, 0, none⟩) (best k hs).length cap') ∧
      w'.ownsRow w.heap.size 44 2 (.slice (some ⟨g, 0, none⟩) (best k hs).length cap') (best k hs).length (cells2 (best k hs)) ∧ Below w.heap.size w w' := by
  have HWF := hide hwf
  clear hwf
  go_enter Tryz.func50, Tryz.ntmps50
  go_wp2_with fail
  go_loopw [5, 6] (fun v i wr => ∃ (j g cp : Nat), j ≤ hs.length ∧ i = .int .i64 j ∧ v = .slice (some ⟨g, 0, none⟩) (best k (hs.take j)).length cp ∧ wr.ownsRow w.heap.size 44 2 v (best k (hs.take j)).length (cells2 (best k (hs.take j))) ∧ Below w.heap.size w wr)
    (fun _ i _ => hs.length - (intOf i).toNat)
  case atStart =>
    refine ⟨0, w.heap.size, 0, Nat.zero_le _, rfl, rfl, ?_, (Below.refl _ _).alloc (Nat.le_refl _) _⟩
    exact World.ownsRow_lit w #[] 0 (Nat.le_refl _) (by unfold maxLen; omega) rfl
  case round =>
    obtain ⟨j, g, cp, hj, rfl, rfl, hown, hB⟩ := hrel
    by_cases hlt : j < hs.length
    · obtain ⟨x, y, hxy⟩ : ∃ x y, hs[j]? = some (x, y) := ⟨hs[j].1, hs[j].2, by simp [hlt]⟩
      have c1 := (hB.cell (World.block_lt_of_cell? _ _ (hc j x y hxy).1)).trans (hc j x y hxy).1
      have c2 := (hB.cell (World.block_lt_of_cell? _ _ (hc j x y hxy).2)).trans (hc j x y hxy).2
      have hw1 : ∀ p ∈ best k (hs.take j), Wf2 p := fun p hp => unhide HWF p (List.mem_of_mem_take (best_mem hp))
      have hi := isHits_row hw1 hown
      have hl := best_len k (hs.take j)
      have hwh : Wf2 (x, y) := unhide HWF _ (List.mem_of_getElem? hxy)
      have HS := hide (best_snoc k hs j x y hxy)
      have L := l2Add (.slice (some ⟨g, 0, none⟩) (best k (hs.take j)).length cp) (best k (hs.take j)) x y k wr hi (by omega) hwh
      rw [← unhide HS] at L
      have HB := hide hB
      have HC := hide hc
      clear hown hB hc hxy hw1 hi hl hwh HS
      generalize (best k (hs.take j)).length = n at *
      go_wp2_with fail
      refine L.mono ?_
      rintro e w1 ⟨g1, cp1, rfl, ho, hb⟩
      have HO := hide (own_mono (unhide HB).size ho)
      have HB1 := hide (below_keep2 (unhide HB) hb)
      clear L ho hb HB c1 c2
      go_wp2_with fail
      go_roundw
      case rel => exact ⟨j + 1, g1, cp1, by omega, by go_num, rfl, unhide HO, unhide HB1⟩
      case measure => simp [intOf]; omega
    · obtain rfl : j = hs.length := by omega
      rw [List.take_length] at hown ⊢
      have HO := hide hown
      have HB := hide hB
      clear hown hB hc
      go_wp2_with fail
      go_ret
      exact ⟨g, cp, rfl, unhide HO, unhide HB⟩

set_option maxHeartbeats 400000 in
theorem l2Best_zero (ao : Option Addr) (cap : Nat) (k : Nat) (w : World) :
    Calls Tryz.prog 50 #[.slice ao 0 cap, .int .i64 k] w fun e w' => ∃ g cap', e = .returned (.slice (some ⟨g, 0, none⟩) 0 cap') ∧
      w'.ownsRow w.heap.size 44 2 (.slice (some ⟨g, 0, none⟩) 0 cap') 0 [] ∧ Below w.heap.size w w' := by
  have O1 : (w.alloc (.cells #[] 44)).ownsRow w.heap.size 44 2 (.slice (some ⟨w.heap.size, 0, none⟩) 0 0) 0 [] := World.ownsRow_lit w #[] 0 (Nat.le_refl _) (by unfold maxLen; omega) rfl
  have HO := hide O1
  clear O1
  go_enter Tryz.func50, Tryz.ntmps50
  go_wp2_with fail
  refine wp_loop_rounds 1 ?_
  rw [rounds_succ]
  go_wp2_with fail
  go_ret
  exact ⟨_, _, rfl, unhide HO, (Below.refl _ _).alloc (Nat.le_refl _) _⟩

/-- l2Best. -/
theorem l2Best (v : Value) (hs : List (Int × Int)) (k : Nat) (w : World) (h : IsHits w v hs) (hn : hs.length ≤ 100000) (hk : k ≤ 100) :
    Calls Tryz.prog 50 #[v, .int .i64 k] w fun e w' => ∃ g cap', e = .returned (.slice (some ⟨g, 0, none⟩) (best k hs).length cap') ∧
      w'.ownsRow w.heap.size 44 2 (.slice (some ⟨g, 0, none⟩) (best k hs).length cap') (best k hs).length (cells2 (best k hs)) ∧ Below w.heap.size w w' := by
  obtain ⟨ao, cap, rfl, h1, h2, hwf, hc⟩ := h
  by_cases hp : 0 < hs.length
  · obtain ⟨b, off, rfl, hc1⟩ := hc hp
    exact l2Best_pos b off cap hs k w hn hk hwf hc1
  · obtain rfl : hs = [] := List.eq_nil_of_length_eq_zero (by omega)
    exact l2Best_zero ao cap k w

end Go.Proofs.YtggnnbdjihihiaaGreat

namespace Go.Proofs.YtggnnbdjihihiaaGreat
open Go.RowKit

def kB (k : Int) : Bool := decide (0 ≤ k) && decide (k ≤ 20)

def bestCode (hs : List (Int × Int)) (k : Int) : Int := if kB k then (if 200 < hs.length then 2 else if hs.all oneB then 0 else 3) else 3

def bestList (hs : List (Int × Int)) (k : Int) : List (Int × Int) := if bestCode hs k = 0 then best k.toNat hs else []

def addCode (hs : List (Int × Int)) (h : Int × Int) (k : Int) : Int := if kB k then (if hitsFault hs = 0 then (if oneB h then 0 else 3) else hitsFault hs) else 3

def addList (hs : List (Int × Int)) (h : Int × Int) (k : Int) : List (Int × Int) := if addCode hs h k = 0 then (ins hs h).take k.toNat else []

theorem own_set {w : World} {base e size : Nat} {v : Value} {n : Nat} {xs : List Value} {a : Addr} (h : w.ownsRow base e size v n xs) (ha : a.block < base) (u : Value) : (w.setCell a u).ownsRow base e size v n xs := by
  refine ⟨h.1, ?_⟩
  rcases h.2 with h2 | ⟨g, cap, cur, hv, hg, hh, r⟩
  · exact Or.inl h2
  · exact Or.inr ⟨g, cap, cur, hv, hg, (heap_setCell_other w a g u (by omega)).trans hh, r⟩

/-- The result's own variable, a new block of (0, nil), as later worlds have it. -/
theorem resVar {w W : World} {T : TypeId} (h : Below (w.alloc (.cells #[.int .i64 0, .slice none 0 0] T)).heap.size (w.alloc (.cells #[.int .i64 0, .slice none 0 0] T)) W) :
    W.cell? ⟨w.heap.size, 0, none⟩ = some (.int .i64 0) ∧ W.cell? ⟨w.heap.size, 1, none⟩ = some (.slice none 0 0) ∧ (∀ o, W.frozen? ⟨w.heap.size, o, none⟩ = false) ∧ w.heap.size < W.heap.size := by
  refine ⟨(h.cell (p := ⟨w.heap.size, 0, none⟩) (by simp)).trans (by simp [go_sem]), (h.cell (p := ⟨w.heap.size, 1, none⟩) (by simp)).trans (by simp [go_sem]), fun o => (h.frozen (p := ⟨w.heap.size, o, none⟩) (by simp)).trans (by simp [go_sem]), ?_⟩
  have := h.size
  simp at this
  omega

/-- What AddHit tells. -/
def Told (w w' : World) (e : Ending) (c : Int) (l : List (Int × Int)) : Prop := ∃ r, e = .returned (intsRes c r) ∧ w'.ownsRow w.heap.size 44 2 r l.length (cells2 l) ∧ Below w.heap.size w w'

theorem told_nil {w w' : World} {c : Int} (h : Below w.heap.size w w') : Told w w' (.returned (intsRes c (.slice none 0 0))) c [] := ⟨_, rfl, World.ownsRow_nil _ _ _ _, h⟩

theorem bestList_len {zs : List (Int × Int)} {n : Int} : (bestList zs n).length ≤ 20 := by
  unfold bestList
  split
  · next h =>
    have hk : kB n = true := by
      cases hk : kB n with
      | true => rfl
      | false => simp [bestCode, hk] at h
    have := best_len n.toNat zs
    have hb : 0 ≤ n ∧ n ≤ 20 := by simpa [kB] using hk
    omega
  · simp

theorem bestList_mem {zs : List (Int × Int)} {n : Int} {m : Int × Int} (h : m ∈ bestList zs n) : m ∈ zs := by
  unfold bestList at h
  split at h
  · exact best_mem h
  · simp at h

end Go.Proofs.YtggnnbdjihihiaaGreat

namespace Go.Proofs.YtggnnbdjihihiaaGreat
open Go.RowKit

def hitOf (q : List Int) (x : DItem) : DHit := ⟨x.id, score3 q x.vec⟩
def pairH (h : DHit) : Int × Int := (h.id, h.score)
def dhit (p : Int × Int) : DHit := ⟨p.1, p.2⟩
def hitsL (xs : List DItem) (q : List Int) : List DHit := xs.map (hitOf q)
def searchR (xs : List DItem) (q : List Int) (k : Int) : DHitsResult :=
  if tableFault xs = 0 then (if vecFault q = 0 then (if kB k then ⟨0, (best k.toNat ((hitsL xs q).map pairH)).map dhit⟩ else ⟨3, []⟩) else ⟨vecFault q, []⟩) else ⟨tableFault xs, []⟩
theorem dhit_pair (h : DHit) : dhit (pairH h) = h := rfl
theorem cells2_map (hs : List DHit) : cells2 (hs.map pairH) = (hs.map fun h => [Value.int .i64 h.id, .int .i64 h.score]).flatten := by
  induction hs with
  | nil => rfl
  | cons h hs ih =>
    rw [List.map_cons, List.map_cons, List.flatten_cons, ← ih]
    rfl
/-- Rows of hits. -/
theorem grow_hits {w : World} {base T : Nat} {v : Value} {rows : List (List Value)} {hs : List DHit} {bls : List (List Nat)} (h : Grow Lay.tHit w base T v rows hs bls) : w.ownsRow base T 2 v (hs.map pairH).length (cells2 (hs.map pairH)) ∧ ∀ p ∈ hs.map pairH, Wf2 p := by
  have hrow : ∀ j (h1 : j < hs.length) (h2 : j < rows.length), rows[j] = [.int .i64 hs[j].id, .int .i64 hs[j].score] ∧ (Lit.int .i64 hs[j].id).wf = true ∧ (Lit.int .i64 hs[j].score).wf = true := by
    intro j h1 h2
    obtain ⟨e, -, w0, w1⟩ := lies_Hit.1 (h.lies j h1 h2 (by have := h.nbls; omega))
    exact ⟨e, w0, w1⟩
  have e : rows = hs.map fun h => [Value.int .i64 h.id, .int .i64 h.score] := by
    apply List.ext_getElem (by simp [h.nrows])
    intro j h1 h2
    rw [(hrow j (by have := h.nrows; omega) h1).1]
    simp
  refine ⟨?_, ?_⟩
  · rw [List.length_map, cells2_map, ← e]
    exact h.own
  · intro p hp
    obtain ⟨d, hd, rfl⟩ := List.mem_map.1 hp
    obtain ⟨j, hj, rfl⟩ := List.getElem_of_mem hd
    exact (hrow j hj (by have := h.nrows; omega)).2
/-- A row of hits of the call's own, as data. -/
theorem own_hits {w : World} {base T : Nat} {v : Value} {ps : List (Int × Int)} (h : w.ownsRow base T 2 v ps.length (cells2 ps)) (hw : ∀ p ∈ ps, Wf2 p) (hn : ps.length ≤ 9223372036854775807) : (Lay.sl Lay.tHit).OwnIn w [v] (ps.map dhit) base w.heap.size := by
  have hl : (ps.map dhit).length = ps.length := List.length_map _
  have e : cells2 ps = ((ps.map dhit).map fun h => [Value.int .i64 h.id, .int .i64 h.score]).flatten := by
    rw [← cells2_map, List.map_map]
    congr 1
    exact (List.map_id ps).symm
  have G : Grow Lay.tHit w base T v ((ps.map dhit).map fun h => [Value.int .i64 h.id, .int .i64 h.score]) (ps.map dhit) (List.replicate ps.length []) := by
    refine ⟨by rw [hl, ← e]; exact h, by simp, by simp, fun j h1 h2 h3 => ?_, by simp⟩
    have hj : j < ps.length := by simpa using h1
    have hq := hw ps[j] (List.getElem_mem hj)
    refine lies_Hit.2 ⟨by simp, by simp, ?_, ?_⟩
    · simpa [dhit] using hq.1
    · simpa [dhit] using hq.2
  exact G.toOwn (by rw [hl]; exact hn) (by simp) (by simp)
theorem score3_bd {q v : List Int} (h1 : vecFault q = 0) (h2 : vecFault v = 0) : 0 ≤ score3 q v ∧ score3 q v ≤ 12000000 := by
  obtain ⟨hl, -⟩ := vecFault_zero h1
  obtain ⟨hl2, -⟩ := vecFault_zero h2
  match q, hl, v, hl2 with
  | [x, y, z], _, [a, b, c], _ =>
    obtain ⟨⟨x1, x2⟩, ⟨y1, y2⟩, ⟨z1, z2⟩⟩ := fault3 h1
    obtain ⟨⟨a1, a2⟩, ⟨b1, b2⟩, ⟨c1, c2⟩⟩ := fault3 h2
    have m1 := sq_bd x a x1 x2 a1 a2
    have m2 := sq_bd y b y1 y2 b1 b2
    have m3 := sq_bd z c z1 z2 c1 c2
    show 0 ≤ (x - a) * (x - a) + (y - b) * (y - b) + (z - c) * (z - c) ∧ (x - a) * (x - a) + (y - b) * (y - b) + (z - c) * (z - c) ≤ 12000000
    omega
/-- The hits of a right table are right, and few. -/
theorem hits_right {xs : List DItem} {q : List Int} (h : tableFault xs = 0) (hq : vecFault q = 0) : ((hitsL xs q).map pairH).length ≤ 30 ∧ ∀ p ∈ (hitsL xs q).map pairH, oneB p = true := by
  obtain ⟨hl, ha, -⟩ := tableFault_zero h
  refine ⟨by simp [hitsL]; exact hl, fun p hp => ?_⟩
  obtain ⟨d, hd, rfl⟩ := List.mem_map.1 hp
  obtain ⟨x, hx, rfl⟩ := List.mem_map.1 hd
  obtain ⟨hi, hv⟩ := ha x hx
  have hs := score3_bd hq hv
  simp only [idB, Bool.and_eq_true, decide_eq_true_eq] at hi
  rw [show pairH (hitOf q x) = (x.id, score3 q x.vec) from rfl]
  simp only [oneB, Bool.and_eq_true, decide_eq_true_eq]
  omega
theorem best_code {xs : List DItem} {q : List Int} {k : Int} (h : tableFault xs = 0) (hq : vecFault q = 0) (hk : kB k = true) : bestCode ((hitsL xs q).map pairH) k = 0 ∧ bestList ((hitsL xs q).map pairH) k = best k.toNat ((hitsL xs q).map pairH) := by
  obtain ⟨h1, h2⟩ := hits_right h hq
  have e : bestCode ((hitsL xs q).map pairH) k = 0 := by
    rw [bestCode, hk, if_pos rfl, if_neg (by omega), if_pos (List.all_eq_true.2 h2)]
  exact ⟨e, by rw [bestList, if_pos e]⟩
theorem own_hitsR {w : World} {c : Int} {v : Value} {hs : List DHit} {lo hi : Nat} (hc : (Lit.int .i64 c).wf = true) (h : (Lay.sl Lay.tHit).OwnIn w [v] hs lo hi) : Lay.tHitsResult.OwnIn w [.int .i64 c, v] ⟨c, hs⟩ lo hi := by
  obtain ⟨bl, ⟨l, n, f⟩, i⟩ := h
  exact ⟨bl, ⟨⟨[.int .i64 c], [v], [], bl, rfl, by simp, ⟨rfl, hc, rfl⟩, l⟩, n, f⟩, i⟩
theorem own_codeHits {w : World} {c : Int} {lo hi : Nat} (hc : (Lit.int .i64 c).wf = true) : Lay.tHitsResult.OwnIn w [.int .i64 c, .slice none 0 0] ⟨c, []⟩ lo hi := own_hitsR hc ⟨[], ⟨⟨none, 0, rfl, by simp, Or.inl ⟨rfl, rfl⟩⟩, by simp, by simp⟩, by simp⟩
theorem vec3q {zs : List Int} (h : vecFault zs = 0) : ∃ p q r, zs = [p, q, r] := by
  have hl := (vecFault_zero h).1
  match zs, hl with
  | [p, q, r], _ => exact ⟨p, q, r, rfl⟩
theorem best_wf {ps : List (Int × Int)} {k : Nat} (h : ∀ p ∈ ps, Wf2 p) : ∀ p ∈ best k ps, Wf2 p := fun p hp => h p (best_mem hp)
theorem oneB_wf {p : Int × Int} (h : oneB p = true) : Wf2 p := by
  simp only [oneB, Bool.and_eq_true, decide_eq_true_eq] at h
  exact ⟨wf_of_bd (by omega), wf_of_bd (by omega)⟩

end Go.Proofs.YtggnnbdjihihiaaGreat

namespace Go.Proofs.YtggnnbdjihihiaaGreat
open Go.RowKit

def probeL (cs : List DCenter) (q : List Int) (k : Nat) : List DHit := (List.range k).map fun (i : Nat) => ⟨(i : Int), score3 (cs.getD i ⟨[]⟩).vec q⟩
def probesI (cs : List DCenter) (q : List Int) (n : Nat) : List Int := (best n ((probeL cs q cs.length).map pairH)).map Prod.fst
theorem probeL_step (cs : List DCenter) (q : List Int) (k : Nat) (h : k < cs.length) : probeL cs q (k + 1) = probeL cs q k ++ [⟨k, score3 cs[k].vec q⟩] := by
  have e : cs.getD k ⟨[]⟩ = cs[k] := by simp [List.getD, List.getElem?_eq_getElem h]
  rw [probeL, List.range_succ, List.map_append, List.map_cons, e]
  rfl
theorem probeL_len (cs : List DCenter) (q : List Int) (k : Nat) : (probeL cs q k).length = k := by simp [probeL]
def nB (n : Int) : Bool := decide (0 ≤ n) && decide (n ≤ 6)
def probesR (x : DIvf) (q : List Int) (n : Int) : DIntsResult :=
  if ivfFault x = 0 then (if vecFault q = 0 then (if nB n then ⟨0, probesI x.centers q n.toNat⟩ else ⟨3, []⟩) else ⟨vecFault q, []⟩) else ⟨ivfFault x, []⟩
theorem probe_wf {cs : List DCenter} {q : List Int} {n : Nat} (h6 : cs.length ≤ 1000) : ∀ z ∈ probesI cs q n, (Lit.int .i64 z).wf = true := by
  intro z hz
  obtain ⟨p, hp, rfl⟩ := List.mem_map.1 hz
  obtain ⟨d, hd, rfl⟩ := List.mem_map.1 (best_mem hp)
  obtain ⟨i, hi, rfl⟩ := List.mem_map.1 hd
  have := List.mem_range.1 hi
  exact wf_of_bd (by show _ ≤ (i : Int) ∧ (i : Int) ≤ _; omega)
theorem probe_len (cs : List DCenter) (q : List Int) (n : Nat) : (probesI cs q n).length ≤ n := by
  rw [probesI, List.length_map]
  exact best_len _ _
/-- All hits of the lists named. -/
def probedH (x : DIvf) (q : List Int) (ps : List Int) : List (Int × Int) := (ps.map fun p => (hitsL (x.lists.getD p.toNat ⟨[]⟩).items q).map pairH).flatten
def searchIvfR (x : DIvf) (q : List Int) (k n : Int) : DHitsResult :=
  if ivfFault x = 0 then (if vecFault q = 0 then (if kB k && nB n then ⟨0, (best k.toNat (probedH x q (probesI x.centers q n.toNat))).map dhit⟩ else ⟨3, []⟩) else ⟨vecFault q, []⟩) else ⟨ivfFault x, []⟩
theorem probedH_step (x : DIvf) (q : List Int) (ps : List Int) (j m : Nat) (h : j < ps.length) (e : ps[j] = (m : Int)) (hm : m < x.lists.length) : probedH x q (ps.take (j + 1)) = probedH x q (ps.take j) ++ (hitsL x.lists[m].items q).map pairH := by
  have e2 : x.lists.getD (ps[j]).toNat ⟨[]⟩ = x.lists[m] := by rw [e]; simp [List.getD, List.getElem?_eq_getElem hm]
  rw [probedH, List.take_succ_eq_append_getElem h, List.map_append, List.flatten_append, List.map_cons, e2]
  simp [probedH]
theorem probedH_right {x : DIvf} {q : List Int} (hx : ∀ l ∈ x.lists, tableFault l.items = 0) (hq : vecFault q = 0) (ps : List Int) : (probedH x q ps).length ≤ 30 * ps.length ∧ ∀ p ∈ probedH x q ps, oneB p = true := by
  have h1 : ∀ m : Nat, ((hitsL (x.lists.getD m ⟨[]⟩).items q).map pairH).length ≤ 30 ∧ ∀ p ∈ (hitsL (x.lists.getD m ⟨[]⟩).items q).map pairH, oneB p = true := fun m => by
    by_cases hm : m < x.lists.length
    · have e : x.lists.getD m ⟨[]⟩ = x.lists[m] := by simp [List.getD, List.getElem?_eq_getElem hm]
      rw [e]
      exact hits_right (hx _ (List.getElem_mem hm)) hq
    · have e : x.lists.getD m ⟨[]⟩ = ⟨[]⟩ := by simp [List.getD, List.getElem?_eq_none (Nat.le_of_not_lt hm)]
      rw [e]
      simp [hitsL]
  induction ps with
  | nil => simp [probedH]
  | cons p ps ih =>
    have e : probedH x q (p :: ps) = (hitsL (x.lists.getD p.toNat ⟨[]⟩).items q).map pairH ++ probedH x q ps := by simp [probedH]
    rw [e]
    refine ⟨?_, fun y hy => ?_⟩
    · have := (h1 p.toNat).1
      rw [List.length_append, List.length_cons]
      omega
    · rcases List.mem_append.1 hy with hy | hy
      · exact (h1 p.toNat).2 y hy
      · exact ih.2 y hy
theorem probe_at {cs : List DCenter} {q : List Int} {n : Nat} {z : Int} (h : z ∈ probesI cs q n) : ∃ m : Nat, z = m ∧ m < cs.length := by
  obtain ⟨p, hp, rfl⟩ := List.mem_map.1 h
  obtain ⟨d, hd, rfl⟩ := List.mem_map.1 (best_mem hp)
  obtain ⟨i, hi, rfl⟩ := List.mem_map.1 hd
  exact ⟨i, rfl, List.mem_range.1 hi⟩

end Go.Proofs.YtggnnbdjihihiaaGreat

namespace Go.Proofs.YtggnnbdjihihiaaGreat
open Go.RowKit

/-- The first places of a list in order are not worse than those of a part of it. -/
theorem sorted_first : ∀ (b a : List (Int × Int)), Sorted b → Sorted a → (∀ x ∈ a, x ∈ b) → ∀ i (h : i < a.length), ∃ h' : i < b.length, a[i] = b[i] ∨ bet b[i] a[i] = true
  | [], a, _, _, hs, i, h => by
    have := hs a[i] (List.getElem_mem h)
    simp at this
  | y :: s, [], _, _, _, i, h => by simp at h
  | y :: s, x :: r, hb, ha, hs, i, h => by
    by_cases e : x = y
    · subst e
      match i, h with
      | 0, _ => exact ⟨by simp, Or.inl rfl⟩
      | i + 1, h =>
        have hr : ∀ z ∈ r, z ∈ s := fun z hz => by
          rcases List.mem_cons.1 (hs z (List.mem_cons_of_mem _ hz)) with e | hz2
          · subst e
            have := List.rel_of_pairwise_cons ha hz
            rw [bet_irrefl] at this
            cases this
          · exact hz2
        obtain ⟨h1, h2⟩ := sorted_first s r hb.of_cons ha.of_cons hr i (by simpa using h)
        exact ⟨by simpa using h1, by simpa using h2⟩
    · have hx : x ∈ s := by
        rcases List.mem_cons.1 (hs x (by simp)) with e2 | h2
        · exact absurd e2 e
        · exact h2
      have hyx := List.rel_of_pairwise_cons hb hx
      have hr : ∀ z ∈ x :: r, z ∈ s := fun z hz => by
        rcases List.mem_cons.1 (hs z hz) with e2 | h2
        · subst e2
          rcases List.mem_cons.1 hz with e3 | h3
          · exact absurd e3.symm e
          · have := List.rel_of_pairwise_cons ha h3
            rw [bet_asymm this] at hyx
            cases hyx
        · exact h2
      obtain ⟨h1, h2⟩ := sorted_first s (x :: r) hb.of_cons ha hr i h
      refine ⟨by simp; omega, Or.inr ?_⟩
      have hbi : bet ((y :: s)[i]'(by simp; omega)) s[i] = true := by
        match i, h1 with
        | 0, h1 => exact List.rel_of_pairwise_cons hb (List.getElem_mem h1)
        | i + 1, h1 => exact List.pairwise_iff_getElem.1 hb.of_cons i (i + 1) (by omega) h1 (by omega)
      rcases h2 with h2 | h2
      · rw [h2]; exact hbi
      · exact bet_trans hbi h2
theorem best_more {a b : List (Int × Int)} (k : Nat) (h : ∀ x ∈ a, x ∈ b) : ∀ i (hi : i < (best k a).length), ∃ h' : i < (best k b).length, bet (best k a)[i] (best k b)[i] = false := by
  intro i hi
  have hi2 := hi
  rw [best_eq, List.length_take] at hi2
  obtain ⟨h1, h2⟩ := sorted_first (allOf b) (allOf a) (allOf_sorted b) (allOf_sorted a) (fun x hx => allOf_mem.2 (h x (allOf_mem.1 hx))) i (by omega)
  refine ⟨by rw [best_eq, List.length_take]; omega, ?_⟩
  have ea : (best k a)[i] = (allOf a)[i]'(by omega) := by simp [best_eq]
  have eb : (best k b)[i]'(by rw [best_eq, List.length_take]; omega) = (allOf b)[i] := by simp [best_eq]
  rw [ea, eb]
  rcases h2 with h2 | h2
  · rw [h2]; exact bet_irrefl _
  · exact bet_asymm h2
/-- The lists for n are the first of all. -/
theorem probes_take (cs : List DCenter) (q : List Int) {n : Nat} (hn : n ≤ 6) : probesI cs q n = (probesI cs q 6).take n := by
  rw [probesI, probesI, best_eq, best_eq, ← List.map_take, List.take_take, Nat.min_eq_left hn]
theorem probed_sub (x : DIvf) (q : List Int) {ps qs : List Int} (h : ∀ p ∈ ps, p ∈ qs) : ∀ y ∈ probedH x q ps, y ∈ probedH x q qs := by
  intro y hy
  obtain ⟨l, h1, h2⟩ := List.mem_flatten.1 hy
  obtain ⟨p, h3, rfl⟩ := List.mem_map.1 h1
  exact List.mem_flatten.2 ⟨_, List.mem_map.2 ⟨p, h p h3, rfl⟩, h2⟩
theorem ins_newP {hs : List (Int × Int)} {h : Int × Int} (hn : h ∉ hs) : (ins hs h).length = hs.length + 1 := by
  induction hs with
  | nil => rfl
  | cons a r ih =>
    unfold ins
    split
    · rw [List.length_cons, ih (fun q => hn (List.mem_cons_of_mem _ q)), List.length_cons]
    · split
      · next e => exact absurd (by rw [e]; simp) hn
      · simp
theorem allOf_lenP {hs : List (Int × Int)} (h : hs.Nodup) : (allOf hs).length = hs.length := by
  have : ∀ (ys a : List (Int × Int)), ys.Nodup → (∀ y ∈ ys, y ∉ a) → (ys.foldl ins a).length = a.length + ys.length := by
    intro ys
    induction ys with
    | nil => intro a _ _; rfl
    | cons y ys ih =>
      intro a hn hd
      rw [List.foldl_cons, ih (ins a y) (List.nodup_cons.1 hn).2 (fun z hz hq => by
        rcases ins_mem.1 hq with e | hq
        · rw [e] at hz; exact (List.nodup_cons.1 hn).1 hz
        · exact hd z (List.mem_cons_of_mem _ hz) hq), ins_newP (hd y (by simp)), List.length_cons]
      omega
  have := this hs [] h (by simp)
  show (hs.foldl ins []).length = _
  simpa using this
theorem probeL_nodup (cs : List DCenter) (q : List Int) (k : Nat) : ((probeL cs q k).map pairH).Nodup := by
  rw [probeL, List.map_map]
  refine List.Pairwise.map _ ?_ List.nodup_range
  intro a b hab e
  have : (a : Int) = (b : Int) := congrArg Prod.fst e
  omega
theorem probes_len (cs : List DCenter) (q : List Int) (n : Nat) : (probesI cs q n).length = min n cs.length := by
  rw [probesI, List.length_map, best_eq, List.length_take, allOf_lenP (probeL_nodup cs q _), List.length_map, probeL_len]
/-- Who is better than all others is the first. -/
theorem head_bestP {a : List (Int × Int)} (ha : Sorted a) {x : Int × Int} (hx : x ∈ a) (hb : ∀ y ∈ a, y = x ∨ bet x y = true) (h0 : 0 < a.length) : a[0] = x := by
  match a, h0 with
  | y :: r, _ =>
    rcases hb y (by simp) with e | h
    · exact e
    · rcases List.mem_cons.1 hx with e | hx
      · exact e.symm
      · have := List.rel_of_pairwise_cons ha hx
        rw [bet_asymm h] at this
        cases this
/-- The nearest of the first k centers is better than all others of them. -/
theorem nearK_best {cs : List DCenter} {v : List Int} (hc : ∀ c ∈ cs, vecFault c.vec = 0) (hv : vecFault v = 0) (k : Nat) (h2 : k ≤ cs.length) :
    ∀ j, j < k → j = (nearK cs v k).1 ∨ (nearK cs v k).2 < score3 (cs.getD j ⟨[]⟩).vec v ∨ ((nearK cs v k).2 = score3 (cs.getD j ⟨[]⟩).vec v ∧ (nearK cs v k).1 < j) := by
  induction k with
  | zero => intro j hj; omega
  | succ k ih =>
    intro j hj
    have hk : k < cs.length := by omega
    rw [nearK_step cs v k hk]
    have ek : score3 (cs.getD k ⟨[]⟩).vec v = score3 cs[k].vec v := by rw [getD_at hk]
    by_cases hl : score3 cs[k].vec v < (nearK cs v k).2
    · rw [if_pos hl]
      by_cases hjk : j = k
      · exact Or.inl hjk
      · have hk1 : 1 ≤ k := by omega
        rcases ih (by omega) j (by omega) with e | e | e
        · have h4 := (nearK_right hc hv k hk1 (by omega)).2.1
          rw [← e] at h4
          simp only
          omega
        · simp only; omega
        · simp only; omega
    · rw [if_neg hl]
      by_cases hjk : j = k
      · subst hjk
        have hk0 : 1 ≤ j := by
          apply Nat.succ_le_of_lt
          apply Nat.pos_of_ne_zero
          rintro rfl
          have := cscore_bd (hc cs[0] (List.getElem_mem hk)) hv
          simp only [nearK] at hl
          omega
        have h3 := (nearK_right hc hv j hk0 (by omega)).1
        omega
      · exact ih (by omega) j (by omega)
/-- The first list that is looked at is the nearest. -/
theorem probes_first {cs : List DCenter} {q : List Int} (hc : centersFault cs = 0) (hq : vecFault q = 0) {n : Nat} (h : 0 < (probesI cs q n).length) : (probesI cs q n)[0] = ((near cs q : Nat) : Int) := by
  obtain ⟨hl, hall⟩ := centersFault_zero hc
  have hn := near_lt hc hq
  have hlen := probes_len cs q n
  have h0 : 0 < (best n ((probeL cs q cs.length).map pairH)).length := by rw [probesI, List.length_map] at h; exact h
  have hb := nearK_best hall hq cs.length (Nat.le_refl _)
  have hr := nearK_right hall hq cs.length (by omega) (Nat.le_refl _)
  have hmem : ∀ y ∈ (probeL cs q cs.length).map pairH, ∃ j : Nat, j < cs.length ∧ y = ((j : Int), score3 (cs.getD j ⟨[]⟩).vec q) := fun y hy => by
    obtain ⟨d, hd, rfl⟩ := List.mem_map.1 hy
    obtain ⟨j, hj, rfl⟩ := List.mem_map.1 hd
    exact ⟨j, List.mem_range.1 hj, rfl⟩
  have hx : (((near cs q : Nat) : Int), score3 (cs.getD (near cs q) ⟨[]⟩).vec q) ∈ allOf ((probeL cs q cs.length).map pairH) := allOf_mem.2 (List.mem_map.2 ⟨⟨(near cs q : Nat), score3 (cs.getD (near cs q) ⟨[]⟩).vec q⟩, List.mem_map.2 ⟨near cs q, List.mem_range.2 hn, rfl⟩, rfl⟩)
  have h1 : 0 < (allOf ((probeL cs q cs.length).map pairH)).length := List.length_pos_of_mem hx
  have hh := head_bestP (allOf_sorted _) hx (fun y hy => by
    obtain ⟨j, hj, rfl⟩ := hmem y (allOf_mem.1 hy)
    rcases hb j hj with e | e | e
    · left
      rw [e]
      rfl
    · right
      rw [bet_iff]
      left
      show score3 (cs.getD (near cs q) ⟨[]⟩).vec q < _
      rw [show score3 (cs.getD (near cs q) ⟨[]⟩).vec q = (nearK cs q cs.length).2 from hr.2.1.symm]
      exact e
    · right
      rw [bet_iff]
      right
      refine ⟨?_, ?_⟩
      · show score3 (cs.getD (near cs q) ⟨[]⟩).vec q = _
        rw [show score3 (cs.getD (near cs q) ⟨[]⟩).vec q = (nearK cs q cs.length).2 from hr.2.1.symm]
        exact e.1
      · show ((near cs q : Nat) : Int) < (j : Int)
        have : near cs q < j := e.2
        omega) h1
  have e0 : (probesI cs q n)[0] = ((best n ((probeL cs q cs.length).map pairH))[0]'h0).1 := by simp [probesI]
  have e1 : (best n ((probeL cs q cs.length).map pairH))[0]'h0 = (allOf ((probeL cs q cs.length).map pairH))[0]'h1 := by simp [best_eq]
  rw [e0, e1, hh]

end Go.Proofs.YtggnnbdjihihiaaGreat

namespace Go.Proofs.YtggnnbdjihihiaaGreat
open Go.RowKit

theorem ivf_small {x : DIvf} (h : ivfFault x = 0) : (∀ l ∈ x.lists, tableFault l.items = 0) ∧ x.lists.length ≤ 6 := by
  obtain ⟨h1, h2, h3, -⟩ := ivfFault_zero h
  exact ⟨list_facts h3, by rw [h2]; exact (centersFault_zero h1).1.2⟩
theorem all_right {x : DIvf} (h : ivfFault x = 0) : Right (allIs x.lists) := by
  obtain ⟨-, -, h3, h4, h5⟩ := ivfFault_zero h
  exact tableFault_of (by omega) (fun y hy => by obtain ⟨l, hl, hm⟩ := allIs_mem hy; exact (tableFault_zero (list_facts h3 l hl)).2.1 y hm) (allIs_rising _)
theorem askedI_zero {x : DIvf} {id : Int} (h : askedI x id = 0) : ivfFault x = 0 ∧ idB id = true := by
  unfold askedI at h
  by_cases h1 : ivfFault x = 0
  · rw [if_pos h1] at h
    cases h2 : idB id with
    | true => exact ⟨h1, rfl⟩
    | false => rw [h2] at h; cases h
  · rw [if_neg h1] at h; exact absurd h h1
theorem askedI_wf (x : DIvf) (id : Int) : (Lit.int .i64 (askedI x id)).wf = true := by
  have := ivfFault_bd x
  refine wf_of_bd ?_
  unfold askedI
  split
  · split <;> omega
  · omega
theorem right_less {xs : List DItem} (h : Right xs) : xs.length ≤ 1000000 ∧ ∀ x ∈ xs, x.vec.length ≤ 100000000 := by
  obtain ⟨h1, h2, -⟩ := tableFault_zero h
  exact ⟨by omega, fun x hx => by have := (vecFault_zero (h2 x hx).2).1; omega⟩

end Go.Proofs.YtggnnbdjihihiaaGreat

namespace Go.Proofs.YtggnnbdjihihiaaGreat
open Go.RowKit

/-- Where no put has replaced an item, all items are there. -/
theorem gather_all {out : List DItem} (h : Rising out) (xs : List DItem) (hl : out.length + xs.length ≤ (gatherI out xs).length) : ∀ y, y ∈ out ∨ y ∈ xs → y ∈ gatherI out xs := by
  induction xs generalizing out with
  | nil =>
    intro y hy
    rcases hy with hy | hy
    · exact hy
    · cases hy
  | cons x xs ih =>
    have e : gatherI out (x :: xs) = gatherI (putI out x.id x.vec) xs := rfl
    have h1 := gatherI_len (putI_rising h x.id x.vec) xs
    have h2 := putI_len h x.id x.vec
    rw [e] at hl ⊢
    rw [List.length_cons] at hl
    have hno : hasI out x.id = false := by
      cases hh : hasI out x.id with
      | false => rfl
      | true =>
        rw [hh, if_pos rfl] at h2
        omega
    rw [hno, if_neg (by decide)] at h2
    intro y hy
    refine ih (putI_rising h x.id x.vec) (by omega) y ?_
    rcases hy with hy | hy
    · exact Or.inl (mem_putI.2 (Or.inr ⟨hy, hasI_false hno y hy⟩))
    · rcases List.mem_cons.1 hy with rfl | hy
      · exact Or.inl (mem_putI.2 (Or.inl rfl))
      · exact Or.inr hy
theorem fold_all (ls : List DIvfList) (o : List DItem) (h : Rising o) (hl : o.length + countIs ls ≤ (ls.foldl (fun o l => gatherI o l.items) o).length) : ∀ y, (y ∈ o ∨ ∃ l ∈ ls, y ∈ l.items) → y ∈ ls.foldl (fun o l => gatherI o l.items) o := by
  have hle : ∀ (ls : List DIvfList) (o : List DItem), Rising o → (ls.foldl (fun o l => gatherI o l.items) o).length ≤ o.length + countIs ls := by
    intro ls
    induction ls with
    | nil => exact fun o _ => Nat.le_refl _
    | cons l ls ih =>
      intro o ho
      have h1 := ih (gatherI o l.items) (gatherI_rising ho l.items)
      have h2 := gatherI_len ho l.items
      simp only [List.foldl_cons, countIs]
      omega
  induction ls generalizing o with
  | nil =>
    intro y hy
    rcases hy with hy | ⟨l, hl, -⟩
    · exact hy
    · cases hl
  | cons l ls ih =>
    have h1 := hle ls (gatherI o l.items) (gatherI_rising h l.items)
    have h2 := gatherI_len h l.items
    simp only [List.foldl_cons, countIs] at hl ⊢
    have h3 := gather_all h l.items (by omega)
    intro y hy
    refine ih (gatherI o l.items) (gatherI_rising h l.items) (by omega) y ?_
    rcases hy with hy | ⟨m, hm, hy⟩
    · exact Or.inl (h3 y (Or.inl hy))
    · rcases List.mem_cons.1 hm with rfl | hm
      · exact Or.inl (h3 y (Or.inr hy))
      · exact Or.inr ⟨m, hm, hy⟩
theorem allIs_all {ls : List DIvfList} (h : (allIs ls).length = countIs ls) {y : DItem} {l : DIvfList} (hl : l ∈ ls) (hy : y ∈ l.items) : y ∈ allIs ls :=
  fold_all ls [] List.Pairwise.nil (by rw [List.length_nil, Nat.zero_add]; exact Nat.le_of_eq h.symm) y (Or.inr ⟨l, hl, hy⟩)
/-- All lists are looked at. -/
theorem probe_all {cs : List DCenter} {q : List Int} (h6 : cs.length ≤ 6) (m : Nat) (hm : m < cs.length) : ((m : Nat) : Int) ∈ probesI cs q 6 := by
  have hx : (((m : Nat) : Int), score3 (cs.getD m ⟨[]⟩).vec q) ∈ allOf ((probeL cs q cs.length).map pairH) := allOf_mem.2 (List.mem_map.2 ⟨⟨((m : Nat) : Int), score3 (cs.getD m ⟨[]⟩).vec q⟩, List.mem_map.2 ⟨m, List.mem_range.2 hm, rfl⟩, rfl⟩)
  rw [probesI, best_eq, List.take_of_length_le (by rw [allOf_lenP (probeL_nodup cs q _), List.length_map, probeL_len]; exact h6)]
  exact List.mem_map.2 ⟨_, hx, rfl⟩
/-- A hit is an item's. -/
theorem probed_item {x : DIvf} {q : List Int} (h : ivfFault x = 0) {ps : List Int} {y : Int × Int} (hy : y ∈ probedH x q ps) : y ∈ (hitsL (allIs x.lists) q).map pairH := by
  obtain ⟨-, -, -, h4, -⟩ := ivfFault_zero h
  obtain ⟨l, h1, h2⟩ := List.mem_flatten.1 hy
  obtain ⟨p, -, rfl⟩ := List.mem_map.1 h1
  obtain ⟨d, hd, rfl⟩ := List.mem_map.1 h2
  obtain ⟨i, hi, rfl⟩ := List.mem_map.1 hd
  by_cases hp : p.toNat < x.lists.length
  · rw [getD_at hp] at hi
    exact List.mem_map.2 ⟨_, List.mem_map.2 ⟨i, allIs_all h4 (List.getElem_mem hp) hi, rfl⟩, rfl⟩
  · have e : x.lists.getD p.toNat ⟨[]⟩ = ⟨[]⟩ := by simp [List.getD, List.getElem?_eq_none (Nat.le_of_not_lt hp)]
    rw [e] at hi
    cases hi
theorem item_probed {x : DIvf} {q : List Int} (h : ivfFault x = 0) {y : Int × Int} (hy : y ∈ (hitsL (allIs x.lists) q).map pairH) : y ∈ probedH x q (probesI x.centers q 6) := by
  obtain ⟨h1, h2, -, -, -⟩ := ivfFault_zero h
  obtain ⟨d, hd, rfl⟩ := List.mem_map.1 hy
  obtain ⟨i, hi, rfl⟩ := List.mem_map.1 hd
  obtain ⟨l, hl, hi⟩ := allIs_mem hi
  obtain ⟨m, hm, rfl⟩ := List.getElem_of_mem hl
  refine List.mem_flatten.2 ⟨_, List.mem_map.2 ⟨((m : Nat) : Int), probe_all (centersFault_zero h1).1.2 m (by omega), rfl⟩, ?_⟩
  rw [Int.toNat_natCast, getD_at hm]
  exact List.mem_map.2 ⟨_, List.mem_map.2 ⟨i, hi, rfl⟩, rfl⟩
/-- What FnIvf asks: L are all items, A the hits told, B those of all items. -/
structure IvfTold (x : DIvf) (q : List Int) (k n : Int) (L : List DItem) (A B : List DHit) : Prop where
  told : searchIvfR x q k n = ⟨0, A⟩
  items : itemsIvfR x = ⟨0, L⟩
  all : searchR L q k = ⟨0, B⟩
  full : searchIvfR x q k 6 = ⟨0, B⟩
  few : A.length ≤ B.length
  most : B.length ≤ 20
  vec : vecFault q = 0
  right : hitsFault (A.map pairH) = 0
  each : ∀ i (hi : i < A.length), ∃ (h' : i < B.length) (v : List Int), getI L A[i].id = ⟨0, v⟩ ∧ vecFault v = 0 ∧ score3 q v = A[i].score ∧ bet (A[i].id, A[i].score) (B[i].id, B[i].score) = false
theorem find_in {xs : List DItem} (h : Rising xs) {x : DItem} (hx : x ∈ xs) : xs.find? (fun y => y.id == x.id) = some x := by
  induction xs with
  | nil => cases hx
  | cons a r ih =>
    rw [List.find?_cons]
    rcases List.mem_cons.1 hx with rfl | hx
    · rw [show (x.id == x.id) = true by simp]
    · have := List.rel_of_pairwise_cons h hx
      rw [show (a.id == x.id) = false by rw [beq_eq_false_iff_ne]; omega]
      exact ih h.of_cons hx
theorem ivf_told {x : DIvf} {q : List Int} {k n : Int} (h : (searchIvfR x q k n).code = 0) : ∃ L A B, IvfTold x q k n L A B := by
  unfold searchIvfR at h
  split at h
  · rename_i h1
    split at h
    · rename_i h2
      split at h
      · rename_i h3
        obtain ⟨hk, hn⟩ : kB k = true ∧ nB n = true := by simpa using h3
        have hT := allIs_right h1
        obtain ⟨hl, hv, hr⟩ := tableFault_zero hT
        have hkk : 0 ≤ k ∧ k ≤ 20 := by simpa [kB] using hk
        have h6 : nB 6 = true := by decide
        have efull : best k.toNat (probedH x q (probesI x.centers q 6)) = best k.toNat ((hitsL (allIs x.lists) q).map pairH) := best_congr _ fun y => ⟨probed_item h1, item_probed h1⟩
        have hmore := best_more (a := probedH x q (probesI x.centers q n.toNat)) (b := (hitsL (allIs x.lists) q).map pairH) k.toNat (fun y hy => probed_item h1 hy)
        have hb1 := best_len k.toNat ((hitsL (allIs x.lists) q).map pairH)
        have ha1 := best_len k.toNat (probedH x q (probesI x.centers q n.toNat))
        refine ⟨allIs x.lists, (best k.toNat (probedH x q (probesI x.centers q n.toNat))).map dhit, (best k.toNat ((hitsL (allIs x.lists) q).map pairH)).map dhit, ?_, ?_, ?_, ?_, ?_, ?_, h2, ?_, ?_⟩
        · rw [searchIvfR, if_pos h1, if_pos h2, if_pos h3]
        · rw [itemsIvfR, if_pos h1]
        · rw [searchR, if_pos hT, if_pos h2, if_pos hk]
        · rw [searchIvfR, if_pos h1, if_pos h2, if_pos (by rw [hk, h6]; rfl), ← efull]; rfl
        · rw [List.length_map, List.length_map]
          by_cases h0 : (best k.toNat (probedH x q (probesI x.centers q n.toNat))).length = 0
          · omega
          · obtain ⟨h7, -⟩ := hmore ((best k.toNat (probedH x q (probesI x.centers q n.toNat))).length - 1) (by omega)
            omega
        · rw [List.length_map]; omega
        · have e : ((best k.toNat (probedH x q (probesI x.centers q n.toNat))).map dhit).map pairH = best k.toNat (probedH x q (probesI x.centers q n.toNat)) := by
            rw [List.map_map]
            exact List.map_id _
          rw [e]
          exact hitsFault_of (by omega) (fun y hy => (hits_right hT h2).2 y (probed_item h1 (best_mem hy))) (best_sorted _ _)
        · intro i hi
          rw [List.length_map] at hi
          obtain ⟨h7, h8⟩ := hmore i hi
          have hm := probed_item h1 (best_mem (List.getElem_mem hi))
          obtain ⟨d, hd, e⟩ := List.mem_map.1 hm
          obtain ⟨it, hit, rfl⟩ := List.mem_map.1 hd
          have ei : ((best k.toNat (probedH x q (probesI x.centers q n.toNat))).map dhit)[i]'(by rw [List.length_map]; exact hi) = ⟨it.id, score3 q it.vec⟩ := by
            rw [List.getElem_map, ← e]
            rfl
          refine ⟨by rw [List.length_map]; exact h7, it.vec, ?_, (hv it hit).2, ?_, ?_⟩
          · rw [ei, getI, if_pos hT, if_pos (hv it hit).1]
            show pickI ((allIs x.lists).find? fun y => y.id == it.id) = _
            rw [find_in hr hit]
            rfl
          · rw [ei]
          · simp only [List.getElem_map, dhit]
            exact h8
      · simp at h
    · rename_i h2
      exact absurd h h2
  · rename_i h1
    exact absurd h h1

end Go.Proofs.YtggnnbdjihihiaaGreat

namespace Go.Proofs.YtggnnbdjihihiaaGreat
open Go.RowKit

theorem implId (v : Int) (w : World) :
    Calls Tryz.prog 56 #[.int .i64 v] w fun e w' => e = .returned (.bool (decide (1 ≤ v) && decide (v ≤ 999))) ∧ w' = w := by
  by_cases h1 : 1 ≤ v
  · have d1 : decide (1 ≤ v) = true := by simpa using h1
    rw [d1]
    cases d2 : decide (v ≤ 999) <;>
    · go_enter Tryz.func56, Tryz.ntmps56
      go_wp2_with fail
      go_ret
      exact ⟨rfl, rfl⟩
  · have d1 : decide (1 ≤ v) = false := by simpa using h1
    rw [d1]
    go_enter Tryz.func56, Tryz.ntmps56
    go_wp2_with fail
    go_ret
    exact ⟨rfl, rfl⟩

end Go.Proofs.YtggnnbdjihihiaaGreat

namespace Go.Proofs.YtggnnbdjihihiaaGreat
open Go.RowKit

theorem implWanted (v : Int) (w : World) :
    Calls Tryz.prog 39 #[.int .i64 v] w fun e w' => e = .returned (.bool (decide (0 ≤ v) && decide (v ≤ 20))) ∧ w' = w := by
  by_cases h1 : 0 ≤ v
  · have d1 : decide (0 ≤ v) = true := by simpa using h1
    rw [d1]
    cases d2 : decide (v ≤ 20) <;>
    · go_enter Tryz.func39, Tryz.ntmps39
      go_wp2_with fail
      go_ret
      exact ⟨rfl, rfl⟩
  · have d1 : decide (0 ≤ v) = false := by simpa using h1
    rw [d1]
    go_enter Tryz.func39, Tryz.ntmps39
    go_wp2_with fail
    go_ret
    exact ⟨rfl, rfl⟩

end Go.Proofs.YtggnnbdjihihiaaGreat

namespace Go.Proofs.YtggnnbdjihihiaaGreat
open Go.RowKit

set_option maxHeartbeats 400000 in
theorem implIsHit (x y : Int) (w : World) :
    Calls Tryz.prog 59 #[.agg #[.int .i64 x, .int .i64 y]] w fun e w' => e = .returned (.bool (oneB (x, y))) ∧ Below w.heap.size w w' := by
  have B : ∀ o, Below w.heap.size w (w.alloc o) := fun o => (Below.refl _ _).alloc (Nat.le_refl _) o
  have L1 := implId x
  have ho : oneB (x, y) = ((decide (1 ≤ x) && decide (x ≤ 999)) && (decide (0 ≤ y) && decide (y ≤ 12000000))) := rfl
  rw [ho]
  clear ho
  cases hd : (decide (1 ≤ x) && decide (x ≤ 999)) with
  | false =>
    rw [hd] at L1
    clear hd
    go_enter Tryz.func59, Tryz.ntmps59
    go_wp2_with fail
    refine (L1 _).mono ?_
    rintro e w1 ⟨rfl, rfl⟩
    go_wp2_with fail
    go_ret
    exact ⟨rfl, B _⟩
  | true =>
    rw [hd] at L1
    clear hd
    cases d1 : decide (0 ≤ y) with
    | false =>
      go_enter Tryz.func59, Tryz.ntmps59
      go_wp2_with fail
      refine (L1 _).mono ?_
      rintro e w1 ⟨rfl, rfl⟩
      go_wp2_with fail
      go_ret
      exact ⟨rfl, B _⟩
    | true =>
      cases d2 : decide (y ≤ 12000000) <;>
      · go_enter Tryz.func59, Tryz.ntmps59
        go_wp2_with fail
        refine (L1 _).mono ?_
        rintro e w1 ⟨rfl, rfl⟩
        go_wp2_with fail
        go_ret
        exact ⟨rfl, B _⟩

set_option maxHeartbeats 400000 in
theorem implBetter (x y a b : Int) (w : World) :
    Calls Tryz.prog 15 #[.agg #[.int .i64 x, .int .i64 y], .agg #[.int .i64 a, .int .i64 b]] w fun e w' => e = .returned (.bool (bet (x, y) (a, b))) ∧ Below w.heap.size w w' := by
  have B : ∀ o o2, Below w.heap.size w ((w.alloc o).alloc o2) := fun o o2 => ((Below.refl _ _).alloc (Nat.le_refl _) o).alloc (by simp) o2
  by_cases h2 : y = b
  · subst h2
    have e : bet (x, y) (a, y) = decide (x < a) := by simp [bet]
    rw [e]
    go_enter Tryz.func15, Tryz.ntmps15
    go_wp2_with fail
    go_ret
    exact ⟨rfl, B _ _⟩
  · have e : bet (x, y) (a, b) = decide (y < b) := by simp [bet, h2]
    rw [e]
    go_enter Tryz.func15, Tryz.ntmps15
    go_wp2_with fail
    go_ret
    exact ⟨rfl, B _ _⟩

end Go.Proofs.YtggnnbdjihihiaaGreat

namespace Go.Proofs.YtggnnbdjihihiaaGreat
open Go.RowKit

set_option maxRecDepth 100000 in
set_option maxHeartbeats 400000 in
theorem implHitsFault_pos (b off cap : Nat) (hs : List (Int × Int)) (w : World) (hn : hs.length ≤ 20) (hc : ∀ j x y, hs[j]? = some (x, y) → w.cell? ⟨b, off + j * 2, none⟩ = some (.int .i64 x) ∧ w.cell? ⟨b, off + j * 2 + 1, none⟩ = some (.int .i64 y)) :
    Calls Tryz.prog 17 #[.slice (some ⟨b, off, none⟩) hs.length cap] w fun e w' => e = .returned (.int .i64 (faultFrom none hs)) ∧ Below w.heap.size w w' := by
  generalize hF0 : faultFrom none hs = F0
  go_enter Tryz.func17, Tryz.ntmps17
  go_wp2_with fail
  go_loopw [10] (fun i wr => ∃ k : Nat, k ≤ hs.length ∧ i = .int .i64 k ∧ faultFrom (ahead hs k) (hs.drop k) = F0 ∧ Below w.heap.size w wr) (fun i _ => hs.length - (intOf i).toNat)
  case atStart => exact ⟨0, Nat.zero_le _, rfl, hF0, Below.refl _ _⟩
  case round =>
    obtain ⟨k, hk, rfl, hF, hB⟩ := hrel
    by_cases hlt : k < hs.length
    · obtain ⟨x, y, hxy⟩ : ∃ x y, hs[k]? = some (x, y) := ⟨hs[k].1, hs[k].2, by simp [hlt]⟩
      rw [faultFrom_step hs k x y hxy] at hF
      have cc : ∀ W, Below wr.heap.size wr W → W.cell? ⟨b, off + k * 2, none⟩ = some (.int .i64 x) ∧ W.cell? ⟨b, off + k * 2 + 1, none⟩ = some (.int .i64 y) := fun W hW =>
        ⟨cell_keep (w := wr) hW ((hB.cell (World.block_lt_of_cell? _ _ (hc k x y hxy).1)).trans (hc k x y hxy).1), cell_keep (w := wr) hW ((hB.cell (World.block_lt_of_cell? _ _ (hc k x y hxy).2)).trans (hc k x y hxy).2)⟩
      obtain ⟨c1, c2⟩ := cc wr (Below.refl _ _)
      have HF := hide hF
      have HB := hide hB
      have HC := hide hc
      have HX := hide hxy
      clear hF hB hc hxy
      go_wp2_with fail
      refine (implIsHit x y _).mono ?_
      rintro e w1 ⟨rfl, hb1⟩
      obtain ⟨q0, q1⟩ := new_cells (w := wr) (T := 44) (x := .int .i64 x) (y := .int .i64 y)
      have d1 := cell_keep hb1 q0
      have d2 := cell_keep hb1 q1
      have hb0 : Below wr.heap.size wr w1 := ((Below.refl _ _).alloc (Nat.le_refl _) _).trans (hb1.mono (by simp))
      have B1 := hide (below_keep2 (unhide HB) hb0)
      cases ho : oneB (x, y) with
      | false =>
        have hF := unhide HF
        rw [ho] at hF
        simp only [Bool.false_eq_true, if_false] at hF
        have HF2 := hide hF
        clear c1 c2 d1 d2 cc HF HB HX hF ho q0 q1 hb0 hb1
        go_wp2_with fail
        go_ret
        exact ⟨by rw [← unhide HF2]; rfl, unhide B1⟩
      | true =>
        have hF := unhide HF
        rw [ho] at hF
        simp only [if_true] at hF
        have HF2 := hide hF
        clear c1 c2 cc HF HB hF ho hb1 q0 q1 hb0
        by_cases hk0 : k = 0
        · subst hk0
          have hF := unhide HF2
          simp only [ahead, if_true, Option.all_none] at hF
          have HF3 := hide hF
          clear HF2 hF HC HX
          have g0 : decide ((0 : Int) < 0) = false := by decide
          go_wp2_with fail
          go_quiet (fail)
          all_goals go_wp2_with fail
          all_goals exact ⟨⟨0 + 1, by omega, by go_num, unhide HF3, below_drewN (unhide B1) _⟩, by simp [intOf]; omega⟩
        · obtain ⟨m, rfl⟩ : ∃ m, k = m + 1 := ⟨k - 1, by omega⟩
          obtain ⟨x2, y2, hxy2⟩ : ∃ x y, hs[m]? = some (x, y) := ⟨hs[m].1, hs[m].2, by simp [show m < hs.length by omega]⟩
          have e1 : ahead hs (m + 1) = some (x2, y2) := by simpa [ahead] using hxy2
          have hF := unhide HF2
          rw [e1] at hF
          simp only [Option.all_some] at hF
          have HF3 := hide hF
          have p1 := ((unhide B1).cell (World.block_lt_of_cell? _ _ (unhide HC m x2 y2 hxy2).1)).trans (unhide HC m x2 y2 hxy2).1
          have p2 := ((unhide B1).cell (World.block_lt_of_cell? _ _ (unhide HC m x2 y2 hxy2).2)).trans (unhide HC m x2 y2 hxy2).2
          clear HF2 hF HC HX hxy2 e1 hk0
          have g1 : decide ((0 : Int) < (m : Int) + 1) = true := by simp
          have g2 : (m : Int) + 1 - 1 = (m : Int) := by omega
          have g3 : (m : Int) < (hs.length : Int) := by omega
          have g4 : IntKind.i64.wrap ((m : Int) + 1 - 1) = (m : Int) := by simp only [IntKind.wrap_i64]; omega
          have g9 : IntKind.i64.wrap (m : Int) = (m : Int) := by simp only [IntKind.wrap_i64]; omega
          have g5 : (0 : Int) ≤ (m : Int) := by omega
          have g6 : (m : Int) + 1 < (hs.length : Int) := by omega
          have g7 : (0 : Int) ≤ (m : Int) + 1 := by omega
          have g8 : ((m : Int) + 1).toNat = m + 1 := by omega
          go_wp2_with fail
          have LB : Hid (∀ W, Calls Tryz.prog 15 #[.agg #[.int .i64 x2, .int .i64 y2], .agg #[.int .i64 x, .int .i64 y]] W fun e w' => e = .returned (.bool (bet (x2, y2) (x, y))) ∧ Below W.heap.size W w') := fun W => implBetter x2 y2 x y W
          (go_region_held3 (fun w' => Below w1.heap.size w1 w' ∧ w'.cell? ⟨wr.heap.size, 0, none⟩ = some (.int .i64 x) ∧ w'.cell? ⟨wr.heap.size, 1, none⟩ = some (.int .i64 y) ∧ w'.cell? ⟨b, off + m * 2, none⟩ = some (.int .i64 x2) ∧ w'.cell? ⟨b, off + m * 2 + 1, none⟩ = some (.int .i64 y2))
                (first
                  | exact ⟨(Below.refl _ _).drew, d1, d2, p1, p2⟩
                  | (refine ⟨below_keep2 ?_ hb2, cell_keep hb2 ?_, cell_keep hb2 ?_, cell_keep hb2 ?_, cell_keep hb2 ?_⟩ <;> (first | assumption | (go_split_ands; assumption)))
                  | go_keep)
                (first
                  | (go_at_call 15; refine (unhide LB _).mono ?_; rintro e w2 ⟨rfl, hb2⟩)))
          have BW : Hid (Below w.heap.size w w2) := below_keep2 (unhide B1) (by first | assumption | (go_split_ands; assumption))
          cases hbt : bet (x2, y2) (x, y) with
          | false =>
            have hF := unhide HF3
            simp only [hbt, Bool.false_eq_true, if_false] at hF
            have HF4 := hide hF
            clear hF HF3 hbt
            go_wp2_with fail
            go_ret
            exact ⟨by rw [← unhide HF4]; rfl, unhide BW⟩
          | true =>
            have hF := unhide HF3
            simp only [hbt, if_true] at hF
            have HF4 := hide hF
            clear hF HF3 hbt
            go_wp2_with fail
            go_roundw
            case rel => exact ⟨m + 1 + 1, by omega, by go_num, unhide HF4, unhide BW⟩
            case measure => simp [intOf]; omega
    · obtain rfl : k = hs.length := by omega
      simp only [List.drop_length] at hF
      have HF := hide hF
      clear hc hF
      go_wp2_with fail
      go_ret
      exact ⟨by rw [← unhide HF]; simp [faultFrom], hB⟩

set_option maxHeartbeats 400000 in
theorem implHitsFault (v : Value) (hs : List (Int × Int)) (w : World) (h : IsHits w v hs) :
    Calls Tryz.prog 17 #[v] w fun e w' => e = .returned (.int .i64 (hitsFault hs)) ∧ Below w.heap.size w w' := by
  obtain ⟨ao, cap, rfl, h1, h2, hwf, hc⟩ := h
  by_cases hn : hs.length ≤ 20
  · have e : hitsFault hs = faultFrom none hs := by unfold hitsFault; rw [if_neg (by omega)]
    rw [e]
    by_cases hp : 0 < hs.length
    · obtain ⟨b, off, rfl, hc1⟩ := hc hp
      exact implHitsFault_pos b off cap hs w hn hc1
    · obtain rfl : hs = [] := List.eq_nil_of_length_eq_zero (by omega)
      clear hc h1 h2 hwf e hn hp
      go_enter Tryz.func17, Tryz.ntmps17
      go_wp2_with fail
      refine wp_loop_rounds 1 ?_
      rw [rounds_succ]
      go_wp2_with fail
      go_ret
      exact ⟨rfl, Below.refl _ _⟩
  · have e : hitsFault hs = 2 := by unfold hitsFault; rw [if_pos (by omega)]
    rw [e]
    have hd : decide ((20 : Int) < (hs.length : Int)) = true := by simp; omega
    clear hc h1 h2 hwf e
    go_enter Tryz.func17, Tryz.ntmps17
    go_wp2_with fail
    go_ret
    exact ⟨rfl, Below.refl _ _⟩

end Go.Proofs.YtggnnbdjihihiaaGreat

namespace Go.Proofs.YtggnnbdjihihiaaGreat
open Go.RowKit

def HitsC (w : World) (v : Value) (hs : List (Int × Int)) : Prop :=
  ∃ ao cap, v = .slice ao hs.length cap ∧ (0 < hs.length → ∃ b off, ao = some ⟨b, off, none⟩ ∧ ∀ j x y, hs[j]? = some (x, y) → w.cell? ⟨b, off + j * 2, none⟩ = some (.int .i64 x) ∧ w.cell? ⟨b, off + j * 2 + 1, none⟩ = some (.int .i64 y))
theorem hits_reads {w : World} {v : Value} {hs : List DHit} (h : (Lay.sl Lay.tHit).Reads w [v] hs) : HitsC w v (hs.map pairH) := by
  obtain ⟨ao, cap, rfl⟩ := open_sl h
  refine ⟨ao, cap, by rw [List.length_map], fun hp => ?_⟩
  rw [List.length_map] at hp
  obtain ⟨b, off, rfl, -⟩ := Lay.sl_addr h hp
  refine ⟨b, off, rfl, fun j x y hj => ?_⟩
  rw [List.getElem?_map] at hj
  obtain ⟨d, hd, e⟩ := Option.map_eq_some_iff.1 hj
  obtain ⟨hl, rfl⟩ := List.getElem?_eq_some_iff.1 hd
  obtain ⟨row, hc, bl, hr⟩ := Lay.row_at h hl
  obtain ⟨rfl, -⟩ := lies_Hit.1 hr
  obtain ⟨rfl, rfl⟩ : hs[j].id = x ∧ hs[j].score = y := by simpa [pairH] using e
  exact ⟨hc 0 (by decide), hc 1 (by decide)⟩

set_option maxRecDepth 100000 in
set_option maxHeartbeats 1000000 in
theorem lwHitsC (u v : Value) (hs : List (Int × Int)) (w : World) (h : HitsC w u hs) (h2 : HitsC w v hs) (hn : hs.length ≤ 1000000) :
    Calls Tryz.prog 16 #[u, v] w fun e w' => e = .returned (.bool true) ∧ Below w.heap.size w w' := by
  obtain ⟨au, cu, rfl, hcu⟩ := h
  obtain ⟨av, cv, rfl, hcv⟩ := h2
  have hne : ((hs.length : Int) != (hs.length : Int)) = false := by simp
  go_enter Tryz.func16, Tryz.ntmps16
  go_wp2_with fail
  go_loopw [5] (fun i wr => ∃ j : Nat, j ≤ hs.length ∧ i = .int .i64 j ∧ Below w.heap.size w wr) (fun i _ => hs.length - (intOf i).toNat)
  case atStart => exact ⟨0, Nat.zero_le _, rfl, Below.refl _ _⟩
  case round =>
    obtain ⟨j, hj, rfl, hB⟩ := hrel
    by_cases hlt : j < hs.length
    · obtain ⟨x, y, hxy⟩ : ∃ x y, hs[j]? = some (x, y) := ⟨hs[j].1, hs[j].2, by simp [hlt]⟩
      obtain ⟨b1, o1, rfl, hd1⟩ := hcu (by omega)
      obtain ⟨b2, o2, rfl, hd2⟩ := hcv (by omega)
      have c1 := (hB.cell (World.block_lt_of_cell? _ _ (hd1 j x y hxy).1)).trans (hd1 j x y hxy).1
      have c2 := (hB.cell (World.block_lt_of_cell? _ _ (hd1 j x y hxy).2)).trans (hd1 j x y hxy).2
      have c3 := (hB.cell (World.block_lt_of_cell? _ _ (hd2 j x y hxy).1)).trans (hd2 j x y hxy).1
      have c4 := (hB.cell (World.block_lt_of_cell? _ _ (hd2 j x y hxy).2)).trans (hd2 j x y hxy).2
      have g3 : (j : Int) < (hs.length : Int) := by omega
      have g5 : (0 : Int) ≤ (j : Int) := by omega
      have hin := eqIn2 x y x y
      have hnn : ∀ w, (binOp .neq 44 (.agg #[.int .i64 x, .int .i64 y]) (.agg #[.int .i64 x, .int .i64 y])).run Tryz.prog w = .ok (.bool false) w := fun w => by rw [neq2]; simp
      have HB := hide hB
      clear hcu hcv hd1 hd2 hB hxy
      go_wp2_with fail
      go_quiet (fail)
      go_wp2_with fail
      go_roundw
      case rel => exact ⟨j + 1, by omega, by go_num, below_drewN (unhide HB) _⟩
      case measure => simp [intOf]; omega
    · obtain rfl : j = hs.length := by omega
      clear hcu hcv
      go_wp2_with fail
      go_ret
      exact ⟨rfl, hB⟩

set_option maxHeartbeats 400000 in
theorem implHitsFaultC (v : Value) (hs : List (Int × Int)) (w : World) (h : HitsC w v hs) (hn : hs.length ≤ 20) :
    Calls Tryz.prog 17 #[v] w fun e w' => e = .returned (.int .i64 (hitsFault hs)) ∧ Below w.heap.size w w' := by
  obtain ⟨ao, cap, rfl, hc⟩ := h
  have e : hitsFault hs = faultFrom none hs := by unfold hitsFault; rw [if_neg (by omega)]
  rw [e]
  by_cases hp : 0 < hs.length
  · obtain ⟨b, off, rfl, hc1⟩ := hc hp
    exact implHitsFault_pos b off cap hs w hn hc1
  · obtain rfl : hs = [] := List.eq_nil_of_length_eq_zero (by omega)
    clear hc e hn hp
    go_enter Tryz.func17, Tryz.ntmps17
    go_wp2_with fail
    refine wp_loop_rounds 1 ?_
    rw [rounds_succ]
    go_wp2_with fail
    go_ret
    exact ⟨rfl, Below.refl _ _⟩

end Go.Proofs.YtggnnbdjihihiaaGreat

namespace Go.Proofs.YtggnnbdjihihiaaGreat
open Go.RowKit

theorem big_no (ao : Option Addr) (len cap : Nat) (w : World) (hn : len ≤ 1048576) :
    Calls Tryz.prog 7 #[.slice ao len cap] w fun e w' => e = .returned (.bool false) ∧ w' = w := by
  have hd : decide (1048576 < (len : Int)) = false := by simp; omega
  go_enter Tryz.func7, Tryz.ntmps7
  go_wp2
  go_ret
  exact ⟨rfl, rfl⟩

theorem big_yes (ao : Option Addr) (len cap : Nat) (w : World) (hn : 1048576 < len) :
    Calls Tryz.prog 7 #[.slice ao len cap] w fun e w' => e = .returned (.bool true) ∧ w' = w := by
  have hd : decide (1048576 < (len : Int)) = true := by simp; omega
  go_enter Tryz.func7, Tryz.ntmps7
  go_wp2
  go_ret
  exact ⟨rfl, rfl⟩

/-- A function that computes: what it answers wherever w1 stands. -/
def Tells (P : Program) (f : Nat) (args : Array Value) (w1 : World) (v : Value) : Prop :=
  ∀ W, Below w1.heap.size w1 W → Calls P f args W fun e w' => e = .returned v ∧ Below W.heap.size W w'

theorem below_step {w1 W W' : World} (h : Below w1.heap.size w1 W) (k : Below W.heap.size W W') : Below w1.heap.size w1 W' := h.trans (k.mono h.size)

end Go.Proofs.YtggnnbdjihihiaaGreat

namespace Go.Proofs.YtggnnbdjihihiaaGreat
open Go.RowKit

/-- Blocks below n that are not in S are as they were. -/
def KpS (n : Nat) (S : Nat → Prop) (W W' : World) : Prop := W.heap.size ≤ W'.heap.size ∧ ∀ b, b < n → ¬ S b → W'.heap[b]? = W.heap[b]?
theorem KpS.refl (n : Nat) (S : Nat → Prop) (W : World) : KpS n S W W := ⟨Nat.le_refl _, fun _ _ _ => rfl⟩
theorem KpS.trans {n : Nat} {S : Nat → Prop} {a b c : World} (h : KpS n S a b) (k : KpS n S b c) : KpS n S a c := ⟨Nat.le_trans h.1 k.1, fun i h1 h2 => (k.2 i h1 h2).trans (h.2 i h1 h2)⟩
theorem KpS.put {n : Nat} (S : Nat → Prop) (W : World) (l : Nat) (o' : Obj) (hl : n ≤ l) : KpS n S W (W.putObj l o') :=
  ⟨by simp, fun b hb _ => World.putObj_heap_other (by omega)⟩
theorem KpS.of_ext {n : Nat} {S T : Nat → Prop} {a b : World} (h : Ext T a b) (hn : n ≤ a.heap.size) (hs : ∀ k, k < n → T k → S k) : KpS n S a b :=
  ⟨h.size, fun k hk hS => h.block k (by omega) fun ht => hS (hs k hk ht)⟩
theorem KpS.of_below {n : Nat} (S : Nat → Prop) {a b : World} (h : Below a.heap.size a b) (hn : n ≤ a.heap.size) : KpS n S a b := ⟨h.size, fun k hk _ => h.block k (by omega)⟩
theorem ext_of_grownBy {A B : World} {row : Option Nat} (h : A.grownBy B row) : Ext (fun q => row = some q) A B := ⟨h.os, h.tape, h.output, h.size, fun k hk hn => h.block k hk fun e => hn e.symm⟩
theorem keepsFrom_ext {B : Nat} {S : Nat → Prop} {a b : World} (h : Ext S a b) (hs : ∀ k o, B ≤ k → a.heap[k]? = some o → o.isCells = false → ¬ S k) : KeepsFrom B a b :=
  ⟨h.size, fun k o hB hk ho => (h.block k (Array.getElem?_eq_some_iff.1 hk).1 (hs k o hB hk ho)).trans hk⟩
theorem keepsFrom_below {B : Nat} {a b : World} (h : Below a.heap.size a b) : KeepsFrom B a b :=
  ⟨h.size, fun k _ _ hk _ => (h.block k (Array.getElem?_eq_some_iff.1 hk).1).trans hk⟩
/-- A block of cells is not turned. -/
theorem grown_cells {A B : World} {row : Option Nat} (h : A.grownBy B row) {n : Nat} (hr : ∀ r, row = some r → n ≤ r ∧ ∃ o : Obj, A.heap[r]? = some o ∧ o.isCells = false) {b : Nat} {o : Obj} (hb : A.heap[b]? = some o) (ho : b < n ∨ o.isCells = true) : B.heap[b]? = some o := by
  refine (h.block b (Array.getElem?_eq_some_iff.1 hb).1 fun e => ?_).trans hb
  obtain ⟨h1, o', h2, h3⟩ := hr b e.symm
  rcases ho with ho | ho
  · omega
  · rw [hb] at h2
    cases h2
    rw [ho] at h3
    cases h3
theorem box_grown {A B : World} {row : Option Nat} (h : A.grownBy B row) {n lo : Nat} (hr : ∀ r, row = some r → n ≤ r ∧ ∃ o : Obj, A.heap[r]? = some o ∧ o.isCells = false) {cs : Array Value} {T s : Nat} (hb : Box lo cs T A s) : Box lo cs T B s :=
  ⟨hb.1, grown_cells h hr hb.2 (Or.inr rfl)⟩
theorem below_grown {A B w : World} {row : Option Nat} (h : A.grownBy B row) {n m : Nat} (hr : ∀ r, row = some r → n ≤ r ∧ ∃ o : Obj, A.heap[r]? = some o ∧ o.isCells = false) (hb : Below m w A) (hm : m ≤ n) (hw : m ≤ w.heap.size) : Below m w B :=
  hb.grown h (Nat.le_trans hw hb.size) fun k e => by have := (hr k e).1; omega

end Go.Proofs.YtggnnbdjihihiaaGreat
