/-
  Texts of this proof in one: MaIvf, HitGround, EqHit, EqHitS, EqHitsResult, MaHitS, MaHitsResult, MkHitS, MkHitsResult.
  Their conditions stand in their theorems.
-/
import Derived.Test.YtfgadegpdknocaaGreatChecked
import Derived.Test.YtfgadegpdknocaaGreatIs04
import Derived.Test.YtfgadegpdknocaaGreatIs01
import Derived.Maps.AppendAt
import Derived.Deep.AppendLies
import Derived.Deep.RegionHeld3

namespace Go.Proofs.YtfgadegpdknocaaGreat
open Go.RowKit

set_option maxRecDepth 10000 in
set_option maxHeartbeats 1000000 in
theorem mark_Ivf (cs : List Value) (x : DIvf) (bl : List Nat) (k : Int) (w : World) (h : Lay.tIvf.Own w cs x bl) (hk : 0 ≤ k) (hk2 : k + Lay.tIvf.vcnt x ≤ 1000000000) :
    Calls Tryz.prog 15 #[.agg cs.toArray, .int .i64 k] w fun e w' => e = .returned (.int .i64 (k + Lay.tIvf.vcnt x)) ∧ Lay.tIvf.Own w' cs (Lay.tIvf.mkv k x) bl ∧ Ext (fun q => q ∈ bl) w w' := by
  have hlt := h.lt
  have hnd := h.2.1
  rw [vcnt_Ivf] at hk2
  obtain ⟨a0, d0, a1, d1, g0, g1, rfl, hbl, O0, O1⟩ := own_Ivf h
  clear h
  have HB0 : Below w.heap.size w (w.alloc (.cells #[.slice a0 x.centers.length d0, .slice a1 x.lists.length d1] 31)) := (Below.refl _ _).alloc (Nat.le_refl _) _
  have bA : Box w.heap.size #[.slice a0 x.centers.length d0, .slice a1 x.lists.length d1] 31 (w.alloc (.cells #[.slice a0 x.centers.length d0, .slice a1 x.lists.length d1] 31)) w.heap.size := newBox (Nat.le_refl _)
  have HN := hide hnd
  have HV := hide (vcnt_Ivf x)
  have HM := hide (mkv_Ivf k x)
  clear hnd
  go_enter Tryz.func15, Tryz.ntmps15
  go_wp2_with fail
  generalize w.alloc (.cells #[.slice a0 x.centers.length d0, .slice a1 x.lists.length d1] 31) = W0 at *
  replace O0 := O0.later HB0
  replace O1 := O1.later HB0
  have hsz := HB0.size
  have EX : Ext (fun q => q ∈ bl) w W0 := ext_of_below HB0 _
  have hs0 := bA.lt
  refine (mark_CenterS _ x.centers g0 (k) _ O0 (by omega) (by omega)).mono ?_
  rintro e w1 ⟨rfl, Q0, E0⟩
  replace O1 := O1.ext E0 (fun b hb hb2 => by subst hbl; exact absurd rfl ((by have := unhide HN; simp_all [List.nodup_append] : ∀ p ∈ g0, ∀ q ∈ g1, p ≠ q) b hb2 b hb))
  replace EX := EX.trans (E0.mono fun b _ hb => by rw [hbl]; simp [hb])
  replace bA := bA.ext E0 (fun hm => by have := hlt w.heap.size (by rw [hbl]; simp [hm]); omega)
  clear E0
  have p1 := bA.at 1 _ rfl
  have HA := hide bA
  have HX := hide EX
  have HL := hide hlt
  have HBL := hide hbl
  clear bA EX hlt hbl
  have P0 := hide Q0
  clear Q0
  have P1 := hide O1
  clear O1
  clear O0
  go_wp2_with fail
  have bA := unhide HA
  have EX := unhide HX
  have hlt := unhide HL
  have hbl := unhide HBL
  clear HA HX HL HBL
  have Q0 := unhide P0
  clear P0
  have O1 := unhide P1
  clear P1
  clear p1
  refine (mark_IvfListS _ x.lists g1 (k + ((Lay.sl Lay.tCenter).vcnt x.centers : Int)) _ O1 (by omega) (by omega)).mono ?_
  rintro e w2 ⟨rfl, Q1, E1⟩
  replace Q0 := Q0.ext E1 (fun b hb hb2 => by subst hbl; exact absurd rfl ((by have := unhide HN; simp_all [List.nodup_append] : ∀ p ∈ g0, ∀ q ∈ g1, p ≠ q) b hb b hb2))
  replace EX := EX.trans (E1.mono fun b _ hb => by rw [hbl]; simp [hb])
  replace bA := bA.ext E1 (fun hm => by have := hlt w.heap.size (by rw [hbl]; simp [hm]); omega)
  clear E1
  have HA := hide bA
  have HX := hide EX
  have HL := hide hlt
  have HBL := hide hbl
  clear bA EX hlt hbl
  have P0 := hide Q0
  clear Q0
  have P1 := hide Q1
  clear Q1
  clear O1
  go_wp2_with fail
  go_ret
  refine ⟨?_, ?_, unhide HX⟩
  · rw [show k + (Lay.tIvf.vcnt x : Int) = k + ((Lay.sl Lay.tCenter).vcnt x.centers : Int) + ((Lay.sl Lay.tIvfList).vcnt x.lists : Int) by rw [unhide HV]; omega]
    rfl
  · have e := unhide HBL
    subst e
    rw [unhide HM]
    exact mkOwn_Ivf (x := ⟨(Lay.sl Lay.tCenter).mkv (k) x.centers, (Lay.sl Lay.tIvfList).mkv (k + ((Lay.sl Lay.tCenter).vcnt x.centers : Int)) x.lists⟩) (unhide P0) (unhide P1) (unhide HN)

end Go.Proofs.YtfgadegpdknocaaGreat

namespace Go.Proofs.YtfgadegpdknocaaGreat
open Go.RowKit

/-- The cells of hits. -/
def cells2 : List (Int × Int) → List Value
  | [] => []
  | h :: r => .int .i64 h.1 :: .int .i64 h.2 :: cells2 r
theorem cells2_len (hs : List (Int × Int)) : (cells2 hs).length = hs.length * 2 := by
  induction hs with
  | nil => rfl
  | cons h r ih => simp [cells2, ih]; omega
theorem cells2_app (a b : List (Int × Int)) : cells2 (a ++ b) = cells2 a ++ cells2 b := by
  induction a with
  | nil => rfl
  | cons h r ih => simp [cells2, ih]
theorem cells2_take (hs : List (Int × Int)) (k : Nat) : (cells2 hs).take (k * 2) = cells2 (hs.take k) := by
  induction hs generalizing k with
  | nil => simp [cells2]
  | cons h r ih =>
    cases k with
    | zero => simp [cells2]
    | succ k => simp [cells2, ih, Nat.add_mul]
theorem cells2_at (hs : List (Int × Int)) (j : Nat) (x y : Int) (h : hs[j]? = some (x, y)) : (cells2 hs)[j * 2]? = some (.int .i64 x) ∧ (cells2 hs)[j * 2 + 1]? = some (.int .i64 y) := by
  induction hs generalizing j with
  | nil => simp at h
  | cons p r ih =>
    cases j with
    | zero =>
      simp at h
      subst h
      simp [cells2]
    | succ j =>
      have := ih j (by simpa using h)
      simpa [cells2, Nat.add_mul] using this
theorem cells2_one (hs : List (Int × Int)) : ∀ u ∈ cells2 hs, u.oneCell' = true := by
  induction hs with
  | nil => simp [cells2]
  | cons h r ih =>
    intro u hu
    simp [cells2] at hu
    rcases hu with rfl | rfl | hu
    · rfl
    · rfl
    · exact ih u hu
theorem cells2_get (hs : List (Int × Int)) (j : Nat) (u : Value) (h : (cells2 hs)[j]? = some u) : ∃ k x y, hs[k]? = some (x, y) ∧ ((j = k * 2 ∧ u = .int .i64 x) ∨ (j = k * 2 + 1 ∧ u = .int .i64 y)) := by
  induction hs generalizing j with
  | nil => simp [cells2] at h
  | cons p r ih =>
    match j with
    | 0 =>
      simp [cells2] at h
      exact ⟨0, p.1, p.2, by simp, Or.inl ⟨rfl, h.symm⟩⟩
    | 1 =>
      simp [cells2] at h
      exact ⟨0, p.1, p.2, by simp, Or.inr ⟨rfl, h.symm⟩⟩
    | j + 2 =>
      obtain ⟨k, x, y, h1, h2⟩ := ih j (by simpa [cells2] using h)
      refine ⟨k + 1, x, y, by simpa using h1, ?_⟩
      rcases h2 with ⟨h2, h3⟩ | ⟨h2, h3⟩
      · exact Or.inl ⟨by omega, h3⟩
      · exact Or.inr ⟨by omega, h3⟩

/-- Both numbers are int64. -/
def Wf2 (h : Int × Int) : Prop := (Lit.int .i64 h.1).wf = true ∧ (Lit.int .i64 h.2).wf = true
theorem Wf2.bd {x y : Int} (h : Wf2 (x, y)) : (-9223372036854775808 ≤ x ∧ x ≤ 9223372036854775807) ∧ (-9223372036854775808 ≤ y ∧ y ≤ 9223372036854775807) := by
  simpa [Wf2, Lit.wf, IntKind.min, IntKind.max, IntKind.signed, IntKind.bits] using h

/-- The slice v holds the hits hs. -/
def IsHits (w : World) (v : Value) (hs : List (Int × Int)) : Prop :=
  ∃ ao cap, v = .slice ao hs.length cap ∧ hs.length ≤ cap ∧ (cap ≤ maxLen ∧ (ao = none → cap = 0)) ∧ (∀ h ∈ hs, Wf2 h) ∧
    (0 < hs.length → ∃ b off, ao = some ⟨b, off, none⟩ ∧ ∀ j x y, hs[j]? = some (x, y) → w.cell? ⟨b, off + j * 2, none⟩ = some (.int .i64 x) ∧ w.cell? ⟨b, off + j * 2 + 1, none⟩ = some (.int .i64 y))

theorem IsHits.wf {w : World} {v : Value} {hs : List (Int × Int)} (h : IsHits w v hs) : ∀ p ∈ hs, Wf2 p := by
  obtain ⟨_, _, _, _, _, hwf, _⟩ := h
  exact hwf
theorem IsHits.later {w w' : World} {v : Value} {hs : List (Int × Int)} (h : IsHits w v hs) (hb : Below w.heap.size w w') : IsHits w' v hs := by
  obtain ⟨ao, cap, rfl, h1, h2, hwf, hc⟩ := h
  refine ⟨ao, cap, rfl, h1, h2, hwf, fun hp => ?_⟩
  obtain ⟨b, off, hao, hc1⟩ := hc hp
  exact ⟨b, off, hao, fun j x y hj => ⟨cell_keep hb (hc1 j x y hj).1, cell_keep hb (hc1 j x y hj).2⟩⟩

/-- Whatever owns a row of hits holds them. -/
theorem isHits_row {w : World} {base T : Nat} {v : Value} {hs : List (Int × Int)} (hwf : ∀ p ∈ hs, Wf2 p)
    (h : w.ownsRow base T 2 v hs.length (cells2 hs)) : IsHits w v hs := by
  rcases h.2 with ⟨rfl, h0⟩ | ⟨g, cap, cur, rfl, _, _, h1, h2, _⟩
  · have : hs = [] := List.eq_nil_of_length_eq_zero h0
    subst this
    exact ⟨none, 0, rfl, by simp, ⟨Nat.zero_le _, fun _ => rfl⟩, by simp, by simp⟩
  · refine ⟨_, _, rfl, h1, ⟨h2, by simp⟩, hwf, fun hp => ⟨g, 0, rfl, fun j x y hj => ?_⟩⟩
    have hj2 : j < hs.length := by
      rcases Nat.lt_or_ge j hs.length with h | h
      · exact h
      · rw [List.getElem?_eq_none h] at hj; cases hj
    have := cells2_at hs j x y hj
    rw [Nat.zero_add, h.cellAt (j * 2) (by omega), h.cellAt (j * 2 + 1) (by omega)]
    exact this

theorem IsHits.take {w : World} {ao : Option Addr} {n cap : Nat} {hs : List (Int × Int)} (h : IsHits w (.slice ao n cap) hs) (k : Nat) (hk : k ≤ n) : IsHits w (.slice ao k cap) (hs.take k) := by
  obtain ⟨ao', cap', he, h1, h2, hwf, hc⟩ := h
  simp only [Value.slice.injEq] at he
  obtain ⟨rfl, rfl, rfl⟩ := he
  have hl : (hs.take k).length = k := by simp; omega
  refine ⟨ao, cap, by rw [hl], by omega, h2, fun p hp => hwf p (List.mem_of_mem_take hp), fun hp => ?_⟩
  obtain ⟨b, off, hao, hc1⟩ := hc (by omega)
  refine ⟨b, off, hao, fun j x y hj => hc1 j x y ?_⟩
  rw [List.getElem?_take] at hj
  split at hj
  · exact hj
  · cases hj
theorem IsHits.drop {w : World} {b off n cap : Nat} {hs : List (Int × Int)} (h : IsHits w (.slice (some ⟨b, off, none⟩) n cap) hs) (k : Nat) (hk : k ≤ n) (o2 : Nat) (ho : k < n → o2 = off + k * 2) : IsHits w (.slice (some ⟨b, o2, none⟩) (n - k) (cap - k)) (hs.drop k) := by
  obtain ⟨ao', cap', he, h1, h2, hwf, hc⟩ := h
  simp only [Value.slice.injEq] at he
  obtain ⟨rfl, rfl, rfl⟩ := he
  refine ⟨_, _, by rw [List.length_drop], by rw [List.length_drop]; omega, ⟨by omega, by simp⟩, fun p hp => hwf p (List.mem_of_mem_drop hp), fun hp => ?_⟩
  rw [List.length_drop] at hp
  obtain ⟨b', off', hao, hc1⟩ := hc (by omega)
  simp only [Option.some.injEq, Addr.mk.injEq, and_true] at hao
  obtain ⟨rfl, rfl⟩ := hao
  have ho2 := ho (by omega)
  subst ho2
  refine ⟨b, _, rfl, fun j x y hj => ?_⟩
  have := hc1 (k + j) x y (by simpa [List.getElem?_drop] using hj)
  rw [show off + k * 2 + j * 2 = off + (k + j) * 2 by omega]
  exact this

/-- The cells that append reads. -/
theorem IsHits.news {w : World} {b off n cap : Nat} {hs : List (Int × Int)} (h : IsHits w (.slice (some ⟨b, off, none⟩) n cap) hs) : ∀ j u, (cells2 hs)[j]? = some u → w.cell? ((⟨b, off, none⟩ : Addr).add j) = some u := by
  intro j u hj
  obtain ⟨k, x, y, h1, h2⟩ := cells2_get hs j u hj
  obtain ⟨ao', cap', he, h3, h4, hwf, hc⟩ := h
  simp only [Value.slice.injEq] at he
  obtain ⟨rfl, rfl, rfl⟩ := he
  have hk : k < hs.length := by
    rcases Nat.lt_or_ge k hs.length with h | h
    · exact h
    · rw [List.getElem?_eq_none h] at h1; cases h1
  obtain ⟨b', off', hao, hc1⟩ := hc (by omega)
  simp only [Option.some.injEq, Addr.mk.injEq, and_true] at hao
  obtain ⟨rfl, rfl⟩ := hao
  have hadd : (⟨b, off, none⟩ : Addr).add j = ⟨b, off + j, none⟩ := Addr.add_lit _ _ _
  rw [hadd]
  have := hc1 k x y h1
  rcases h2 with ⟨rfl, rfl⟩ | ⟨rfl, rfl⟩
  · exact this.1
  · exact this.2

end Go.Proofs.YtfgadegpdknocaaGreat

namespace Go.Proofs.YtfgadegpdknocaaGreat

/-- A hit is (id, score): the lower score is better, then the lower id. -/
def bet (a b : Int × Int) : Bool := decide (a.2 < b.2) || (decide (a.2 = b.2) && decide (a.1 < b.1))
theorem bet_iff (a b : Int × Int) : bet a b = true ↔ a.2 < b.2 ∨ (a.2 = b.2 ∧ a.1 < b.1) := by simp [bet]
theorem bet_irrefl (a : Int × Int) : bet a a = false := by simp [bet]
theorem bet_trans {a b c : Int × Int} (h : bet a b = true) (k : bet b c = true) : bet a c = true := by
  rw [bet_iff] at *
  omega
theorem bet_asymm {a b : Int × Int} (h : bet a b = true) : bet b a = false := by
  cases k : bet b a with
  | false => rfl
  | true =>
    have := bet_trans h k
    rw [bet_irrefl] at this
    cases this
theorem bet_total {a b : Int × Int} (h : bet a b = false) (hne : a ≠ b) : bet b a = true := by
  rw [bet_iff]
  have h1 : ¬ (a.2 < b.2 ∨ (a.2 = b.2 ∧ a.1 < b.1)) := by rw [← bet_iff, h]; simp
  have h2 : ¬ (a.1 = b.1 ∧ a.2 = b.2) := fun ⟨e1, e2⟩ => hne (Prod.ext e1 e2)
  omega

/-- The id and the score are in their ranges. -/
def oneB (h : Int × Int) : Bool := (decide (1 ≤ h.1) && decide (h.1 ≤ 999)) && (decide (0 ≤ h.2) && decide (h.2 ≤ 12000000))

/-- What is wrong with a list of hits behind p. -/
def faultFrom : Option (Int × Int) → List (Int × Int) → Int
  | _, [] => 0
  | p, h :: r => if oneB h then (if p.all (bet · h) then faultFrom (some h) r else 1) else 3
def hitsFault (hs : List (Int × Int)) : Int := if 20 < hs.length then 2 else faultFrom none hs
/-- The hit ahead of place k. -/
def ahead (hs : List (Int × Int)) (k : Nat) : Option (Int × Int) := if k = 0 then none else hs[k - 1]?

def Sorted (hs : List (Int × Int)) : Prop := hs.Pairwise (fun a b => bet a b = true)

theorem faultFrom_zero {p : Option (Int × Int)} {hs : List (Int × Int)} (h : faultFrom p hs = 0) : (∀ x ∈ hs, oneB x = true) ∧ Sorted hs ∧ ∀ q, p = some q → ∀ x ∈ hs, bet q x = true := by
  induction hs generalizing p with
  | nil => exact ⟨by simp, List.Pairwise.nil, by simp⟩
  | cons a r ih =>
    unfold faultFrom at h
    split at h
    · next h1 =>
      split at h
      · next h2 =>
        obtain ⟨i1, i2, i3⟩ := ih h
        refine ⟨fun x hx => ?_, List.Pairwise.cons (fun x hx => i3 a rfl x hx) i2, fun q hq x hx => ?_⟩
        · rcases List.mem_cons.1 hx with rfl | hx
          · exact h1
          · exact i1 x hx
        · subst hq
          simp at h2
          rcases List.mem_cons.1 hx with rfl | hx
          · exact h2
          · exact bet_trans h2 (i3 a rfl x hx)
      · simp at h
    · simp at h
theorem hitsFault_zero {hs : List (Int × Int)} (h : hitsFault hs = 0) : hs.length ≤ 20 ∧ (∀ x ∈ hs, oneB x = true) ∧ Sorted hs := by
  unfold hitsFault at h
  split at h
  · simp at h
  · next hl =>
    obtain ⟨h1, h2, _⟩ := faultFrom_zero h
    exact ⟨by omega, h1, h2⟩
theorem hitsFault_of {hs : List (Int × Int)} (hl : hs.length ≤ 20) (h1 : ∀ x ∈ hs, oneB x = true) (h2 : Sorted hs) : hitsFault hs = 0 := by
  have key : ∀ (hs : List (Int × Int)) (p : Option (Int × Int)), (∀ x ∈ hs, oneB x = true) → Sorted hs → (∀ q, p = some q → ∀ x ∈ hs, bet q x = true) → faultFrom p hs = 0 := by
    intro hs
    induction hs with
    | nil => intros; rfl
    | cons a r ih =>
      intro p h1 h2 h3
      unfold faultFrom
      rw [if_pos (h1 a (by simp)), if_pos]
      · exact ih (some a) (fun x hx => h1 x (by simp [hx])) h2.of_cons (fun q hq x hx => by cases hq; exact List.rel_of_pairwise_cons h2 hx)
      · cases p with
        | none => rfl
        | some q => simpa using h3 q rfl a (by simp)
  unfold hitsFault
  rw [if_neg (by omega)]
  exact key hs none h1 h2 (by simp)

/-- A hit put into a list. -/
def ins : List (Int × Int) → Int × Int → List (Int × Int)
  | [], h => [h]
  | x :: r, h => if bet x h then x :: ins r h else if x = h then x :: r else h :: x :: r
theorem ins_mem {hs : List (Int × Int)} {h x : Int × Int} : x ∈ ins hs h ↔ x = h ∨ x ∈ hs := by
  induction hs with
  | nil => simp [ins]
  | cons a r ih =>
    unfold ins
    split
    · simp [ih]
      constructor
      · rintro (h | h | h) <;> simp [h]
      · rintro (h | h | h) <;> simp [h]
    · split
      · next e => subst e; simp
      · simp
theorem ins_sorted {hs : List (Int × Int)} (hs1 : Sorted hs) (h : Int × Int) : Sorted (ins hs h) := by
  induction hs with
  | nil => exact List.pairwise_singleton _ _
  | cons a r ih =>
    unfold ins
    split
    · next h1 =>
      refine List.Pairwise.cons (fun x hx => ?_) (ih hs1.of_cons)
      rcases ins_mem.1 hx with rfl | hx
      · exact h1
      · exact List.rel_of_pairwise_cons hs1 hx
    · next h1 =>
      split
      · exact hs1
      · next h2 =>
        have h3 := bet_total (by simpa using h1) h2
        refine List.Pairwise.cons (fun x hx => ?_) hs1
        rcases List.mem_cons.1 hx with rfl | hx
        · exact h3
        · exact bet_trans h3 (List.rel_of_pairwise_cons hs1 hx)
theorem ins_len (hs : List (Int × Int)) (h : Int × Int) : (ins hs h).length ≤ hs.length + 1 := by
  induction hs with
  | nil => simp [ins]
  | cons a r ih =>
    unfold ins
    split
    · simp; omega
    · split <;> simp

/-- Two lists in order with the same members are the same. -/
theorem sorted_ext {a b : List (Int × Int)} (ha : Sorted a) (hb : Sorted b) (h : ∀ x, x ∈ a ↔ x ∈ b) : a = b := by
  induction a generalizing b with
  | nil =>
    cases b with
    | nil => rfl
    | cons y s => exact absurd ((h y).2 (by simp)) (by simp)
  | cons x r ih =>
    cases b with
    | nil => exact absurd ((h x).1 (by simp)) (by simp)
    | cons y s =>
      have hxy : x = y := by
        rcases List.mem_cons.1 ((h x).1 (by simp)) with e | hx
        · exact e
        · rcases List.mem_cons.1 ((h y).2 (by simp)) with e | hy
          · exact e.symm
          · have h1 := List.rel_of_pairwise_cons ha hy
            have h2 := List.rel_of_pairwise_cons hb hx
            rw [bet_asymm h1] at h2
            cases h2
      subst hxy
      congr 1
      refine ih ha.of_cons hb.of_cons (fun z => ?_)
      constructor
      · intro hz
        rcases List.mem_cons.1 ((h z).1 (by simp [hz])) with e | hz2
        · subst e
          have := List.rel_of_pairwise_cons ha hz
          rw [bet_irrefl] at this
          cases this
        · exact hz2
      · intro hz
        rcases List.mem_cons.1 ((h z).2 (by simp [hz])) with e | hz2
        · subst e
          have := List.rel_of_pairwise_cons hb hz
          rw [bet_irrefl] at this
          cases this
        · exact hz2

/-- All hits of a list, in order. -/
def allOf (hs : List (Int × Int)) : List (Int × Int) := hs.foldl ins []
theorem foldl_sorted {a : List (Int × Int)} (ha : Sorted a) (hs : List (Int × Int)) : Sorted (hs.foldl ins a) := by
  induction hs generalizing a with
  | nil => exact ha
  | cons h r ih => exact ih (ins_sorted ha h)
theorem foldl_mem {a hs : List (Int × Int)} {x : Int × Int} : x ∈ hs.foldl ins a ↔ x ∈ a ∨ x ∈ hs := by
  induction hs generalizing a with
  | nil => simp
  | cons h r ih =>
    simp only [List.foldl_cons, ih, ins_mem, List.mem_cons]
    constructor
    · rintro ((h | h) | h) <;> simp [h]
    · rintro (h | h | h) <;> simp [h]
theorem allOf_sorted (hs : List (Int × Int)) : Sorted (allOf hs) := foldl_sorted List.Pairwise.nil hs
theorem allOf_mem {hs : List (Int × Int)} {x : Int × Int} : x ∈ allOf hs ↔ x ∈ hs := by simp [allOf, foldl_mem]
theorem allOf_of_sorted {hs : List (Int × Int)} (h : Sorted hs) : allOf hs = hs := sorted_ext (allOf_sorted hs) h (fun _ => allOf_mem)
theorem ins_allOf (hs : List (Int × Int)) (h : Int × Int) : ins (allOf hs) h = allOf (hs ++ [h]) := by simp [allOf, List.foldl_append]

/-- Cut to k ahead or behind: the first k are the same. -/
theorem ins_take {hs : List (Int × Int)} (h : Int × Int) (k : Nat) : (ins (hs.take k) h).take k = (ins hs h).take k := by
  induction hs generalizing k with
  | nil => simp
  | cons a r ih =>
    cases k with
    | zero => simp
    | succ k =>
      simp only [List.take_succ_cons]
      unfold ins
      split
      · simp [ih]
      · split
        · simp [List.take_take]
        · cases k with
          | zero => simp
          | succ k => simp [List.take_take]; try omega

/-- The best k of a list, as they are reckoned one by one. -/
def best (k : Nat) (hs : List (Int × Int)) : List (Int × Int) := hs.foldl (fun out h => (ins out h).take k) []
theorem best_eq (k : Nat) (hs : List (Int × Int)) : best k hs = (allOf hs).take k := by
  have key : ∀ (hs a : List (Int × Int)), hs.foldl (fun out h => (ins out h).take k) (a.take k) = (hs.foldl ins a).take k := by
    intro hs
    induction hs with
    | nil => intro a; rfl
    | cons h r ih =>
      intro a
      simp only [List.foldl_cons]
      rw [ins_take, ih]
  have := key hs []
  simpa [best, allOf] using this
theorem best_sorted (k : Nat) (hs : List (Int × Int)) : Sorted (best k hs) := by
  rw [best_eq]
  exact (allOf_sorted hs).sublist (List.take_sublist _ _)
theorem best_mem {k : Nat} {hs : List (Int × Int)} {x : Int × Int} (h : x ∈ best k hs) : x ∈ hs := by
  rw [best_eq] at h
  exact allOf_mem.1 (List.mem_of_mem_take h)
theorem best_len (k : Nat) (hs : List (Int × Int)) : (best k hs).length ≤ k := by
  rw [best_eq]
  simp
  omega
theorem allOf_congr {a b : List (Int × Int)} (h : ∀ x, x ∈ a ↔ x ∈ b) : allOf a = allOf b := sorted_ext (allOf_sorted a) (allOf_sorted b) (fun x => by rw [allOf_mem, allOf_mem, h])
theorem best_congr (k : Nat) {a b : List (Int × Int)} (h : ∀ x, x ∈ a ↔ x ∈ b) : best k a = best k b := by rw [best_eq, best_eq, allOf_congr h]

end Go.Proofs.YtfgadegpdknocaaGreat

namespace Go.Proofs.YtfgadegpdknocaaGreat
open Go.RowKit

structure DHit where
  id : Int
  score : Int

def Lay.tHit : Lay DHit := Lay.via (Lay.pair Lay.int Lay.int) (fun x => (x.id, x.score)) (fun p => ⟨p.1, p.2⟩)

theorem lies_Hit {w : World} {cs : List Value} {x : DHit} {bl : List Nat} : Lay.tHit.lies w cs x bl ↔ cs = [.int .i64 x.id, .int .i64 x.score] ∧ bl = [] ∧ (Lit.int .i64 x.id).wf = true ∧ (Lit.int .i64 x.score).wf = true := by
  constructor
  · intro h
    obtain ⟨c0_, r0_, e0_, s0_, rfl, rfl, h0, h1⟩ := h
    obtain ⟨rfl, w0, rfl⟩ := h0
    obtain ⟨rfl, w1, rfl⟩ := h1
    exact ⟨by simp, by simp, w0, w1⟩
  · rintro ⟨rfl, hbl, w0, w1⟩
    rw [hbl]
    exact ⟨[.int .i64 x.id], [.int .i64 x.score], [], [], rfl, by simp, ⟨rfl, w0, rfl⟩, ⟨rfl, w1, rfl⟩⟩

end Go.Proofs.YtfgadegpdknocaaGreat

namespace Go.Proofs.YtfgadegpdknocaaGreat
open Go.RowKit

structure DHitsResult where
  code : Int
  hits : List DHit

def Lay.tHitsResult : Lay DHitsResult := Lay.via (Lay.pair Lay.int (Lay.sl Lay.tHit)) (fun x => (x.code, x.hits)) (fun p => ⟨p.1, p.2⟩)

theorem lies_HitsResult {w : World} {cs : List Value} {x : DHitsResult} {bl : List Nat} : Lay.tHitsResult.lies w cs x bl ↔ ∃ (a1 : Option Addr) (d1 : Nat) (b1 : List Nat), cs = [.int .i64 x.code, .slice a1 x.hits.length d1] ∧ bl = b1 ∧ (Lit.int .i64 x.code).wf = true ∧ (Lay.sl Lay.tHit).lies w [.slice a1 x.hits.length d1] x.hits b1 := by
  constructor
  · intro h
    obtain ⟨c0_, r0_, e0_, s0_, rfl, rfl, h0, h1⟩ := h
    obtain ⟨rfl, w0, rfl⟩ := h0
    have k1 := h1
    obtain ⟨a1, d1, rfl, -⟩ := k1
    exact ⟨a1, d1, s0_, by simp, by simp, w0, h1⟩
  · rintro ⟨a1, d1, b1, rfl, hbl, w0, l1⟩
    rw [hbl]
    exact ⟨[.int .i64 x.code], [.slice a1 x.hits.length d1], [], b1, rfl, by simp, ⟨rfl, w0, rfl⟩, l1⟩

theorem open_HitsResult {w : World} {cs : List Value} {x : DHitsResult} (h : Lay.tHitsResult.Reads w cs x) : ∃ (a1 : Option Addr) (d1 : Nat), cs = [.int .i64 x.code, .slice a1 x.hits.length d1] ∧ (Lay.sl Lay.tHit).Reads w [.slice a1 x.hits.length d1] x.hits := by
  obtain ⟨bl, h⟩ := h
  obtain ⟨a1, d1, b1, rfl, -, w0, l1⟩ := lies_HitsResult.1 h
  exact ⟨a1, d1, rfl, ⟨_, l1⟩⟩

end Go.Proofs.YtfgadegpdknocaaGreat

namespace Go.Proofs.YtfgadegpdknocaaGreat
open Go.RowKit

theorem vcnt_HitsResult (x : DHitsResult) : Lay.tHitsResult.vcnt x = (Lay.sl Lay.tHit).vcnt x.hits := by
  show 0 + ((Lay.sl Lay.tHit).vcnt x.hits) = (Lay.sl Lay.tHit).vcnt x.hits
  omega
theorem mkv_HitsResult (k : Int) (x : DHitsResult) : Lay.tHitsResult.mkv k x = ⟨x.code, (Lay.sl Lay.tHit).mkv (k) x.hits⟩ := by
  simp [Lay.tHitsResult, Lay.via, Lay.pair, Lay.int]
theorem own_HitsResult {w : World} {cs : List Value} {x : DHitsResult} {bl : List Nat} (h : Lay.tHitsResult.Own w cs x bl) : ∃ (a1 : Option Addr) (d1 : Nat) (g1 : List Nat), cs = [.int .i64 x.code, .slice a1 x.hits.length d1] ∧ bl = g1 ∧ (Lay.sl Lay.tHit).Own w [.slice a1 x.hits.length d1] x.hits g1 ∧ (Lit.int .i64 x.code).wf = true := by
  obtain ⟨hl, hn, hf⟩ := h
  obtain ⟨a1, d1, b1, rfl, hbl, w0, l1⟩ := lies_HitsResult.1 hl
  rw [hbl] at hn hf
  exact ⟨a1, d1, b1, rfl, hbl, ⟨l1, hn, hf⟩, w0⟩
theorem mkOwn_HitsResult {w : World} {x : DHitsResult} {c1 : List Value} {g1 : List Nat} (O1 : (Lay.sl Lay.tHit).Own w c1 x.hits g1) (v0 : (Lit.int .i64 x.code).wf = true) (hn : (g1).Nodup) : Lay.tHitsResult.Own w ([.int .i64 x.code] ++ c1) x (g1) := by
  refine ⟨⟨[.int .i64 x.code], c1, [], g1, rfl, by simp, ⟨rfl, v0, rfl⟩, O1.1⟩, hn, ?_⟩
  intro b hb o
  exact O1.2.2 b hb o

end Go.Proofs.YtfgadegpdknocaaGreat

namespace Go.Proofs.YtfgadegpdknocaaGreat
open Go.RowKit

set_option maxRecDepth 10000 in
set_option maxHeartbeats 1000000 in
theorem eq_Hit (cs cs2 : List Value) (x : DHit) (w : World) (h : Lay.tHit.Reads w cs x) (h2 : Lay.tHit.Reads w cs2 x) :
    Calls Tryz.prog 112 #[.agg cs.toArray, .agg cs2.toArray] w fun e w' => e = .returned (.bool true) ∧ Below w.heap.size w w' := by
  obtain ⟨bl, h⟩ := h
  obtain ⟨rfl, -⟩ := lies_Hit.1 h
  obtain ⟨bl2, h2⟩ := h2
  obtain ⟨rfl, -⟩ := lies_Hit.1 h2
  clear h h2
  have e0 : (x.id != x.id) = false := by simp
  have e1 : (x.score != x.score) = false := by simp
  have HB0 : Below w.heap.size w ((w.alloc (.cells #[.int .i64 x.id, .int .i64 x.score] 66)).alloc (.cells #[.int .i64 x.id, .int .i64 x.score] 66)) := ((Below.refl _ _).alloc (Nat.le_refl _) _).alloc (by simp) _
  go_enter Tryz.func112, Tryz.ntmps112
  go_wp2_with fail
  go_ret
  exact ⟨rfl, HB0⟩

end Go.Proofs.YtfgadegpdknocaaGreat

namespace Go.Proofs.YtfgadegpdknocaaGreat
open Go.RowKit

set_option maxRecDepth 100000 in
set_option maxHeartbeats 2000000 in
theorem eq_HitS (v v2 : Value) (xs : List DHit) (w : World) (h : (Lay.sl Lay.tHit).Reads w [v] xs) (h2 : (Lay.sl Lay.tHit).Reads w [v2] xs) :
    Calls Tryz.prog 69 #[v, v2] w fun e w' => e = .returned (.bool true) ∧ Below w.heap.size w w' := by
  have hbig := h.big
  obtain ⟨ao, cap, rfl⟩ := open_sl h
  obtain ⟨ao2, cap2, rfl⟩ := open_sl h2
  by_cases hp : 0 < xs.length
  · obtain ⟨b, off, rfl, hbl⟩ := Lay.sl_addr h hp
    obtain ⟨b2, off2, rfl, hbl2⟩ := Lay.sl_addr h2 hp
    have H := hide h
    have H2 := hide h2
    clear h h2
    go_enter Tryz.func69, Tryz.ntmps69
    go_wp2_with fail
    go_loopw [5] (fun i wr => ∃ k : Nat, k ≤ xs.length ∧ i = .int .i64 k ∧ Below w.heap.size w wr) (fun i _ => xs.length - (intOf i).toNat)
    case atStart => exact ⟨0, Nat.zero_le _, rfl, Below.refl _ _⟩
    case round =>
      obtain ⟨k, hk, rfl, hB⟩ := hrel
      by_cases hlt : k < xs.length
      · obtain ⟨row, hc, hr⟩ := Lay.row_at (unhide H) hlt
        obtain ⟨rowz, hcz, hrz⟩ := Lay.row_at (unhide H2) hlt
        have hr2 := hr
        obtain ⟨blo, hlo⟩ := hr2; obtain ⟨rfl, -⟩ := lies_Hit.1 hlo; clear hlo
        have hrz2 := hrz
        obtain ⟨bloz, hloz⟩ := hrz2; obtain ⟨rfl, -⟩ := lies_Hit.1 hloz; clear hloz
        have c0 : w.cell? ⟨b, off + k * 2, none⟩ = some (.int .i64 (xs[k]).id) := ((Below.refl w.heap.size w).cell (p := ⟨b, off + k * 2, none⟩) hbl).trans (hc 0 (by decide))
        have c1 : w.cell? ⟨b, off + k * 2 + 1, none⟩ = some (.int .i64 (xs[k]).score) := ((Below.refl w.heap.size w).cell (p := ⟨b, off + k * 2 + 1, none⟩) hbl).trans (hc 1 (by decide))
        have c0z : w.cell? ⟨b2, off2 + k * 2, none⟩ = some (.int .i64 (xs[k]).id) := ((Below.refl w.heap.size w).cell (p := ⟨b2, off2 + k * 2, none⟩) hbl2).trans (hcz 0 (by decide))
        have c1z : w.cell? ⟨b2, off2 + k * 2 + 1, none⟩ = some (.int .i64 (xs[k]).score) := ((Below.refl w.heap.size w).cell (p := ⟨b2, off2 + k * 2 + 1, none⟩) hbl2).trans (hcz 1 (by decide))
        clear hc hcz
        have HR := hide hr
        have HRZ := hide hrz
        clear hr hrz
        have HB := hide hB
        clear hB
        generalize hxk : xs[k] = x at *
        clear hxk
        have i1 : (0 : Int) ≤ (k : Int) := by omega
        have i2 : (k : Int) < (xs.length : Int) := by omega
        go_wp2_with fail
        refine wp_region_noPanic ?_
        refine wp_region_held_drew (S := fun w' => Below w.heap.size w w') (by kernel_rfl) (unhide HB).drew (fun hHeld => ?_)
        generalize wr.drew = wD at hHeld ⊢
        refine wpAnyH_take (i := 0) (oi := { dst := some 17, op := Go.Op.move (Go.Operand.tmp 0), type := 46, pos := "exact.go:245", after := #[], guard := none }) (v := ?v0) rfl (by kernel_rfl) (by kernel_rfl) (by kernel_rfl) (fun _ _ _ h => h) (Or.inl ⟨by rfl, ?h0⟩) hHeld ?r0
        case h0 =>
          intro wS hSw
          (try dsimp only at hSw)
          go_simp
          try with_reducible rfl
        case r0 =>
        simp only [Act.put, List.setIfInBounds_toArray, List.set_cons_zero, List.set_cons_succ]
        refine wpAnyH_take (i := 1) (oi := { dst := some 18, op := Go.Op.move (Go.Operand.tmp 5), type := 3, pos := "exact.go:245", after := #[], guard := none }) (v := ?v1) rfl (by kernel_rfl) (by kernel_rfl) (by kernel_rfl) (fun _ _ _ h => h) (Or.inl ⟨by rfl, ?h1⟩) hHeld ?r1
        case h1 =>
          intro wS hSw
          (try dsimp only at hSw)
          go_simp
          try with_reducible rfl
        case r1 =>
        simp only [Act.put, List.setIfInBounds_toArray, List.set_cons_zero, List.set_cons_succ]
        refine wpAnyH_take (i := 2) (oi := { dst := some 19, op := Go.Op.indexAddr 46 (Go.Operand.tmp 17) (Go.Operand.tmp 18), type := 0, pos := "exact.go:245", after := #[{ on := 0, ground := Go.Ground.data }, { on := 1, ground := Go.Ground.data }], guard := none }) (v := ?v2) rfl (by kernel_rfl) (by kernel_rfl) (by kernel_rfl) (fun _ _ _ h => h) (Or.inl ⟨by rfl, ?h2⟩) hHeld ?r2
        case h2 =>
          intro wS hSw
          (try dsimp only at hSw)
          go_simp
          try with_reducible rfl
        case r2 =>
        simp only [Act.put, List.setIfInBounds_toArray, List.set_cons_zero, List.set_cons_succ]
        refine wpAnyH_take (i := 3) (oi := { dst := some 20, op := Go.Op.load 66 (Go.Operand.tmp 19), type := 66, pos := "exact.go:245", after := #[{ on := 2, ground := Go.Ground.data }], guard := none }) (v := ?v3) rfl (by kernel_rfl) (by kernel_rfl) (by kernel_rfl) (fun _ _ _ h => h) (Or.inl ⟨by rfl, ?h3⟩) hHeld ?r3
        case h3 =>
          intro wS hSw
          have y0 := (hSw.cell (p := ⟨b, off + k * 2, none⟩) hbl).trans c0
          have y1 := (hSw.cell (p := ⟨b, off + k * 2 + 1, none⟩) hbl).trans c1
          clear hSw
          (try dsimp only at hSw)
          go_simp
          try with_reducible rfl
        case r3 =>
        simp only [Act.put, List.setIfInBounds_toArray, List.set_cons_zero, List.set_cons_succ]
        refine wpAnyH_take (i := 4) (oi := { dst := some 21, op := Go.Op.move (Go.Operand.tmp 1), type := 46, pos := "exact.go:245", after := #[], guard := none }) (v := ?v4) rfl (by kernel_rfl) (by kernel_rfl) (by kernel_rfl) (fun _ _ _ h => h) (Or.inl ⟨by rfl, ?h4⟩) hHeld ?r4
        case h4 =>
          intro wS hSw
          (try dsimp only at hSw)
          go_simp
          try with_reducible rfl
        case r4 =>
        simp only [Act.put, List.setIfInBounds_toArray, List.set_cons_zero, List.set_cons_succ]
        refine wpAnyH_take (i := 5) (oi := { dst := some 22, op := Go.Op.move (Go.Operand.tmp 5), type := 3, pos := "exact.go:245", after := #[], guard := none }) (v := ?v5) rfl (by kernel_rfl) (by kernel_rfl) (by kernel_rfl) (fun _ _ _ h => h) (Or.inl ⟨by rfl, ?h5⟩) hHeld ?r5
        case h5 =>
          intro wS hSw
          (try dsimp only at hSw)
          go_simp
          try with_reducible rfl
        case r5 =>
        simp only [Act.put, List.setIfInBounds_toArray, List.set_cons_zero, List.set_cons_succ]
        refine wpAnyH_take (i := 6) (oi := { dst := some 23, op := Go.Op.indexAddr 46 (Go.Operand.tmp 21) (Go.Operand.tmp 22), type := 0, pos := "exact.go:245", after := #[{ on := 4, ground := Go.Ground.data }, { on := 5, ground := Go.Ground.data }], guard := none }) (v := ?v6) rfl (by kernel_rfl) (by kernel_rfl) (by kernel_rfl) (fun _ _ _ h => h) (Or.inl ⟨by rfl, ?h6⟩) hHeld ?r6
        case h6 =>
          intro wS hSw
          (try dsimp only at hSw)
          go_simp
          try with_reducible rfl
        case r6 =>
        simp only [Act.put, List.setIfInBounds_toArray, List.set_cons_zero, List.set_cons_succ]
        refine wpAnyH_take (i := 7) (oi := { dst := some 24, op := Go.Op.load 66 (Go.Operand.tmp 23), type := 66, pos := "exact.go:245", after := #[{ on := 6, ground := Go.Ground.data }], guard := none }) (v := ?v7) rfl (by kernel_rfl) (by kernel_rfl) (by kernel_rfl) (fun _ _ _ h => h) (Or.inl ⟨by rfl, ?h7⟩) hHeld ?r7
        case h7 =>
          intro wS hSw
          have y0z := (hSw.cell (p := ⟨b2, off2 + k * 2, none⟩) hbl2).trans c0z
          have y1z := (hSw.cell (p := ⟨b2, off2 + k * 2 + 1, none⟩) hbl2).trans c1z
          clear hSw
          (try dsimp only at hSw)
          go_simp
          try with_reducible rfl
        case r7 =>
        simp only [Act.put, List.setIfInBounds_toArray, List.set_cons_zero, List.set_cons_succ]
        refine wpAnyH_ready (rs := [8]) (by kernel_rfl) (by simp) ?_
        refine AllReadyH.cons (o := { dst := some 25, op := Go.Op.call { callee := Go.Callee.value (Go.Operand.func 112), args := #[Go.Operand.tmp 20, Go.Operand.tmp 24], argTypes := #[66, 66] }, type := 4, pos := "exact.go:245", after := #[{ on := 3, ground := Go.Ground.data }, { on := 7, ground := Go.Ground.data }], guard := none }) rfl (fun K hK => ?_) AllReadyH.nil
        go_simp
        go_at_call 112
        refine (eq_Hit _ _ x _ ((unhide HR).later hHeld) ((unhide HRZ).later hHeld)).mono ?_
        rintro e w3 ⟨rfl, hbw⟩
        try go_wp2_with fail
        refine hK.out _ _ (hHeld.trans (hbw.mono hHeld.size)) (fun hHeld => ?_)
        clear hK K
        try simp only [Act.put, List.setIfInBounds_toArray, List.set_cons_zero, List.set_cons_succ]
        refine wpAnyH_take (i := 9) (oi := { dst := some 26, op := Go.Op.unOp Go.UnOp.not 4 (Go.Operand.tmp 25), type := 4, pos := "exact.go:245", after := #[{ on := 8, ground := Go.Ground.data }], guard := none }) (v := ?v9) rfl (by kernel_rfl) (by kernel_rfl) (by kernel_rfl) (fun _ _ _ h => h) (Or.inl ⟨by rfl, ?h9⟩) hHeld ?r9
        case h9 =>
          intro wS hSw
          (try dsimp only at hSw)
          go_simp
          try with_reducible rfl
        case r9 =>
        simp only [Act.put, List.setIfInBounds_toArray, List.set_cons_zero, List.set_cons_succ]
        refine wpAnyH_done (by kernel_rfl) ?_ _
        refine NoPanic.normal ?_
        have HB3 := hide hHeld
        clear hHeld c0 c0z c1 c1z HB
        go_wp2_with fail
        go_roundw
        case rel => exact ⟨k + 1, by omega, by go_num, unhide HB3⟩
        case measure => simp [intOf]; omega
      · have HB := hide hB
        clear hB
        go_wp2_with fail
        go_ret
        exact ⟨rfl, unhide HB⟩
  · obtain rfl : xs = [] := List.eq_nil_of_length_eq_zero (by omega)
    clear h h2 hp
    simp only [List.length_nil] at *
    go_enter Tryz.func69, Tryz.ntmps69
    go_wp2_with fail
    refine wp_loop_rounds 1 ?_
    rw [rounds_succ]
    go_wp2_with fail
    go_ret
    exact ⟨rfl, Below.refl _ _⟩

end Go.Proofs.YtfgadegpdknocaaGreat

namespace Go.Proofs.YtfgadegpdknocaaGreat
open Go.RowKit

set_option maxRecDepth 10000 in
set_option maxHeartbeats 1000000 in
theorem eq_HitsResult (cs cs2 : List Value) (x : DHitsResult) (w : World) (h : Lay.tHitsResult.Reads w cs x) (h2 : Lay.tHitsResult.Reads w cs2 x) :
    Calls Tryz.prog 23 #[.agg cs.toArray, .agg cs2.toArray] w fun e w' => e = .returned (.bool true) ∧ Below w.heap.size w w' := by
  obtain ⟨a1, d1, rfl, R1⟩ := open_HitsResult h
  obtain ⟨a1z, d1z, rfl, R1z⟩ := open_HitsResult h2
  clear h h2
  have e0 : (x.code != x.code) = false := by simp
  have HB0 : Below w.heap.size w ((w.alloc (.cells #[.int .i64 x.code, .slice a1 x.hits.length d1] 48)).alloc (.cells #[.int .i64 x.code, .slice a1z x.hits.length d1z] 48)) := ((Below.refl _ _).alloc (Nat.le_refl _) _).alloc (by simp) _
  have bA : Box w.heap.size #[.int .i64 x.code, .slice a1 x.hits.length d1] 48 ((w.alloc (.cells #[.int .i64 x.code, .slice a1 x.hits.length d1] 48)).alloc (.cells #[.int .i64 x.code, .slice a1z x.hits.length d1z] 48)) w.heap.size := (newBox (Nat.le_refl _)).grow _
  have bC : Box w.heap.size #[.int .i64 x.code, .slice a1z x.hits.length d1z] 48 ((w.alloc (.cells #[.int .i64 x.code, .slice a1 x.hits.length d1] 48)).alloc (.cells #[.int .i64 x.code, .slice a1z x.hits.length d1z] 48)) (w.heap.size + 1) := newBoxAt (by omega) (by simp)
  go_enter Tryz.func23, Tryz.ntmps23
  go_wp2_with fail
  generalize (w.alloc (.cells #[.int .i64 x.code, .slice a1 x.hits.length d1] 48)).alloc (.cells #[.int .i64 x.code, .slice a1z x.hits.length d1z] 48) = W0 at *
  replace R1 := R1.later HB0
  replace R1z := R1z.later HB0
  refine (eq_HitS _ _ x.hits _ R1 R1z).mono ?_
  rintro e w1 ⟨rfl, hb⟩
  replace bA := bA.keep hb
  replace bC := bC.keep hb
  replace HB0 := HB0.trans (hb.mono HB0.size)
  clear hb
  have HB := hide HB0
  have HA := hide bA
  have HC := hide bC
  clear HB0 bA bC
  go_wp2_with fail
  go_ret
  exact ⟨rfl, unhide HB⟩

end Go.Proofs.YtfgadegpdknocaaGreat

namespace Go.Proofs.YtfgadegpdknocaaGreat
open Go.RowKit

theorem cnt_Hit (x : DHit) : Lay.tHit.cnt x = 2 := by
  show 1 + (1) = 2
  omega
theorem mkd_Hit (k : Int) (x : DHit) : Lay.tHit.mkd k x = ⟨k, k + 1⟩ := rfl
theorem vcnt_HitS (xs : List DHit) : (Lay.sl Lay.tHit).vcnt xs = cntAll Lay.tHit.cnt xs := rfl
theorem mkv_HitS (k : Int) (xs : List DHit) : (Lay.sl Lay.tHit).mkv k xs = mkAll Lay.tHit.cnt Lay.tHit.mkd k xs := rfl

set_option maxRecDepth 10000 in
set_option maxHeartbeats 2000000 in
theorem markHit_pos (b off cap : Nat) (xs : List DHit) (bl : List Nat) (k : Int) (w : World) (h : (Lay.sl Lay.tHit).Own w [.slice (some ⟨b, off, none⟩) xs.length cap] xs bl) (hk : 0 ≤ k) (hk2 : k + (cntAll Lay.tHit.cnt xs : Nat) ≤ 1000000000) :
    Calls Tryz.prog 70 #[.slice (some ⟨b, off, none⟩) xs.length cap, .int .i64 k] w fun e w' => e = .returned (.int .i64 (k + (cntAll Lay.tHit.cnt xs : Nat))) ∧ (Lay.sl Lay.tHit).Own w' [.slice (some ⟨b, off, none⟩) xs.length cap] (mkAll Lay.tHit.cnt Lay.tHit.mkd k xs) bl ∧ Ext (fun q => q ∈ bl) w w' := by
  have hbig := h.reads.big
  have H := hide h
  clear h
  go_enter Tryz.func70, Tryz.ntmps70
  go_wp2_with fail
  go_loopw [1, 5] (fun kk i wr => ∃ (j : Nat) (kj : Int), j ≤ xs.length ∧ i = .int .i64 j ∧ kj = k + (cntAll Lay.tHit.cnt (xs.take j) : Nat) ∧ kk = .int .i64 kj ∧ (Lay.sl Lay.tHit).Own wr [.slice (some ⟨b, off, none⟩) xs.length cap] (mkPre Lay.tHit.cnt Lay.tHit.mkd k xs j) bl ∧ Ext (fun q => q ∈ bl) w wr) (fun _ i _ => xs.length - (intOf i).toNat)
  case atStart => exact ⟨0, k, Nat.zero_le _, rfl, by simp [cntAll], rfl, by rw [mkPre_zero]; exact unhide H, Ext.refl _ _⟩
  case round =>
    obtain ⟨j, kj, hj, rfl, hkj, rfl, hO, hX⟩ := hrel
    clear H
    by_cases hlt : j < xs.length
    · have hj2 : j < (mkPre Lay.tHit.cnt Lay.tHit.mkd k xs j).length := by rw [mkPre_len _ _ _ _ _ hj]; exact hlt
      obtain ⟨row, blk, R, O, hbk, hin, hfin⟩ := Lay.own_upd hO hj2
      rw [mkPre_get _ _ _ _ _ hlt] at O
      have HT := hide (Lay.cntAll_take (f := Lay.tHit.cnt) hlt)
      have hle := Lay.cntAll_take_le (f := Lay.tHit.cnt) (xs := xs) (k := j + 1)
      rw [unhide HT] at hle
      have HM : Hid (∀ y, y = Lay.tHit.mkd kj xs[j] → (mkPre Lay.tHit.cnt Lay.tHit.mkd k xs j).set j y = mkPre Lay.tHit.cnt Lay.tHit.mkd k xs (j + 1)) := fun y e => by rw [e, hkj]; exact mkPre_set _ _ _ _ _ hlt
      have HF := hide hfin
      have HX := hide hX
      have HI := hide hin
      clear hO hfin hX hin hj2
      generalize hx : xs[j] = x at *
      clear hx
      have hcn := cnt_Hit x
      have HD := hide (mkd_Hit kj x)
      have hb1 : 0 ≤ kj := by omega
      have hb2 : kj + (Lay.tHit.cnt x : Int) ≤ 1000000000 := by omega
      have HK := hide hkj
      clear hkj hle
      have hbl0 : blk = [] := by have := (lies_Hit.1 O.1).2.1; exact this
      obtain ⟨rfl, -, -⟩ := lies_Hit.1 O.1
      clear O
      have l1 : b < wr.heap.size := R.lt
      have c0 : wr.cell? ⟨b, off + j * 2, none⟩ = some (.int .i64 x.id) := R.at 0 _ rfl
      have f0 : wr.frozen? ⟨b, off + j * 2, none⟩ = false := R.soft _
      have c1 : wr.cell? ⟨b, off + j * 2 + 1, none⟩ = some (.int .i64 x.score) := R.at 1 _ rfl
      have f1 : wr.frozen? ⟨b, off + j * 2 + 1, none⟩ = false := R.soft _
      have R0_ : RowAt wr ((wr.setCell ⟨b, off + j * 2, none⟩ (.int .i64 kj)).setCell ⟨b, off + j * 2 + 1, none⟩ (.int .i64 (kj + 1))) b (off + j * 2) 2 [.int .i64 kj, .int .i64 (kj + 1)] blk := ((R.set 0 (.int .i64 kj) (by decide)).set 1 (.int .i64 (kj + 1)) (by decide))
      have E0_ : Ext (fun q => q = b) wr ((wr.setCell ⟨b, off + j * 2, none⟩ (.int .i64 kj)).setCell ⟨b, off + j * 2 + 1, none⟩ (.int .i64 (kj + 1))) := (((Ext.refl (fun q => q = b) _).setCell ⟨b, off + j * 2, none⟩ (.int .i64 kj) rfl).setCell ⟨b, off + j * 2 + 1, none⟩ (.int .i64 (kj + 1)) rfl)
      clear R E0_
      have R := R0_
      clear R0_
      have HR := hide R
      clear R
      go_wp2_with fail
      go_roundw
      case rel =>
        refine ⟨j + 1, _, by omega, by go_num, ?_, rfl, ?_, ?_⟩
        · rw [unhide HT, hcn]
          have := unhide HK
          omega
        · rw [← unhide HM _ (unhide HD).symm]
          exact unhide HF _ _ _ (unhide HR) ⟨lies_Hit.2 ⟨rfl, hbl0, (show (Lit.int .i64 (kj)).wf = true from wf_of_bd (by omega)), (show (Lit.int .i64 (kj + 1)).wf = true from wf_of_bd (by omega))⟩, by rw [hbl0]; exact List.nodup_nil, by rw [hbl0]; simp⟩
        · exact (unhide HX).trans ((unhide HR).ext.mono fun q _ hq => unhide HI q (by rcases hq with h | h; exact Or.inl h.symm; exact Or.inr h))
      case measure => simp [intOf]; omega
    · obtain rfl : j = xs.length := by omega
      rw [mkPre_all] at hO
      rw [List.take_length] at hkj
      have HK := hide hkj
      clear hkj
      have HO := hide hO
      have HX := hide hX
      clear hO hX
      go_wp2_with fail
      go_ret
      exact ⟨by rw [← unhide HK]; rfl, unhide HO, unhide HX⟩

theorem markHit_zero (ao : Option Addr) (cap : Nat) (k : Int) (w : World) :
    Calls Tryz.prog 70 #[.slice ao 0 cap, .int .i64 k] w fun e w' => e = .returned (.int .i64 k) ∧ w' = w := by
  go_enter Tryz.func70, Tryz.ntmps70
  go_wp2_with fail
  refine wp_loop_rounds 1 ?_
  rw [rounds_succ]
  go_wp2_with fail
  go_ret
  exact ⟨rfl, rfl⟩

/-- markHitS. -/
theorem mark_HitS (v : Value) (xs : List DHit) (bl : List Nat) (k : Int) (w : World) (h : (Lay.sl Lay.tHit).Own w [v] xs bl) (hk : 0 ≤ k) (hk2 : k + (Lay.sl Lay.tHit).vcnt xs ≤ 1000000000) :
    Calls Tryz.prog 70 #[v, .int .i64 k] w fun e w' => e = .returned (.int .i64 (k + (Lay.sl Lay.tHit).vcnt xs)) ∧ (Lay.sl Lay.tHit).Own w' [v] ((Lay.sl Lay.tHit).mkv k xs) bl ∧ Ext (fun q => q ∈ bl) w w' := by
  obtain ⟨ao, cap, rfl⟩ := open_sl h.reads
  by_cases hp : 0 < xs.length
  · obtain ⟨b, off, rfl, hbl⟩ := Lay.sl_addr h.reads hp
    exact markHit_pos b off cap xs bl k w h hk hk2
  · obtain rfl : xs = [] := List.eq_nil_of_length_eq_zero (by omega)
    refine (markHit_zero ao cap k w).mono ?_
    rintro e w' ⟨rfl, rfl⟩
    exact ⟨by rw [vcnt_HitS]; simp [cntAll], h, Ext.refl _ _⟩

end Go.Proofs.YtfgadegpdknocaaGreat

namespace Go.Proofs.YtfgadegpdknocaaGreat
open Go.RowKit

set_option maxRecDepth 10000 in
set_option maxHeartbeats 1000000 in
theorem mark_HitsResult (cs : List Value) (x : DHitsResult) (bl : List Nat) (k : Int) (w : World) (h : Lay.tHitsResult.Own w cs x bl) (hk : 0 ≤ k) (hk2 : k + Lay.tHitsResult.vcnt x ≤ 1000000000) :
    Calls Tryz.prog 24 #[.agg cs.toArray, .int .i64 k] w fun e w' => e = .returned (.int .i64 (k + Lay.tHitsResult.vcnt x)) ∧ Lay.tHitsResult.Own w' cs (Lay.tHitsResult.mkv k x) bl ∧ Ext (fun q => q ∈ bl) w w' := by
  have hlt := h.lt
  have hnd := h.2.1
  rw [vcnt_HitsResult] at hk2
  obtain ⟨a1, d1, g1, rfl, hbl, O1, v0⟩ := own_HitsResult h
  clear h
  have HB0 : Below w.heap.size w (w.alloc (.cells #[.int .i64 x.code, .slice a1 x.hits.length d1] 48)) := (Below.refl _ _).alloc (Nat.le_refl _) _
  have bA : Box w.heap.size #[.int .i64 x.code, .slice a1 x.hits.length d1] 48 (w.alloc (.cells #[.int .i64 x.code, .slice a1 x.hits.length d1] 48)) w.heap.size := newBox (Nat.le_refl _)
  have HN := hide hnd
  have HV := hide (vcnt_HitsResult x)
  have HM := hide (mkv_HitsResult k x)
  clear hnd
  go_enter Tryz.func24, Tryz.ntmps24
  go_wp2_with fail
  generalize w.alloc (.cells #[.int .i64 x.code, .slice a1 x.hits.length d1] 48) = W0 at *
  replace O1 := O1.later HB0
  have hsz := HB0.size
  have EX : Ext (fun q => q ∈ bl) w W0 := ext_of_below HB0 _
  have hs0 := bA.lt
  refine (mark_HitS _ x.hits g1 (k) _ O1 (by omega) (by omega)).mono ?_
  rintro e w1 ⟨rfl, Q1, E1⟩
  replace EX := EX.trans (E1.mono fun b _ hb => by rw [hbl]; simp [hb])
  replace bA := bA.ext E1 (fun hm => by have := hlt w.heap.size (by rw [hbl]; simp [hm]); omega)
  clear E1
  have HA := hide bA
  have HX := hide EX
  have HL := hide hlt
  have HBL := hide hbl
  clear bA EX hlt hbl
  have P1 := hide Q1
  clear Q1
  clear O1
  go_wp2_with fail
  go_ret
  refine ⟨?_, ?_, unhide HX⟩
  · rw [show k + (Lay.tHitsResult.vcnt x : Int) = k + ((Lay.sl Lay.tHit).vcnt x.hits : Int) by rw [unhide HV]]
    rfl
  · have e := unhide HBL
    subst e
    rw [unhide HM]
    exact mkOwn_HitsResult (x := ⟨x.code, (Lay.sl Lay.tHit).mkv (k) x.hits⟩) (unhide P1) v0 (unhide HN)

end Go.Proofs.YtfgadegpdknocaaGreat

namespace Go.Proofs.YtfgadegpdknocaaGreat
open Go.RowKit

set_option maxRecDepth 10000 in
set_option maxHeartbeats 2000000 in
theorem heldHit_pos (b off cap : Nat) (xs : List DHit) (k : Int) (w : World) (h : (Lay.sl Lay.tHit).Reads w [.slice (some ⟨b, off, none⟩) (mkAll Lay.tHit.cnt Lay.tHit.mkd k xs).length cap] (mkAll Lay.tHit.cnt Lay.tHit.mkd k xs)) (hbl : b < w.heap.size) (hk : 0 ≤ k) (hk2 : k + (cntAll Lay.tHit.cnt xs : Nat) ≤ 1000000000) :
    Calls Tryz.prog 71 #[.slice (some ⟨b, off, none⟩) xs.length cap, .int .i64 k] w fun e w' => e = .returned (.int .i64 (k + (cntAll Lay.tHit.cnt xs : Nat))) ∧ Below w.heap.size w w' := by
  have hbig := h.big
  rw [mkAll_size] at hbig
  have H := hide h
  clear h
  go_enter Tryz.func71, Tryz.ntmps71
  go_wp2_with fail
  go_loopw [1, 5] (fun kk i wr => ∃ (j : Nat) (kj : Int), j ≤ xs.length ∧ i = .int .i64 j ∧ kj = k + (cntAll Lay.tHit.cnt (xs.take j) : Nat) ∧ kk = .int .i64 kj ∧ Below w.heap.size w wr) (fun _ i _ => xs.length - (intOf i).toNat)
  case atStart => exact ⟨0, k, Nat.zero_le _, rfl, by simp [cntAll], rfl, Below.refl _ _⟩
  case round =>
    obtain ⟨j, kj, hj, rfl, hkj, rfl, hB⟩ := hrel
    by_cases hlt : j < xs.length
    · have hj2 : j < (mkAll Lay.tHit.cnt Lay.tHit.mkd k xs).length := by rw [mkAll_size]; exact hlt
      obtain ⟨row, hc, hr⟩ := Lay.row_at (unhide H) hj2
      rw [mkAll_at _ _ _ _ _ hlt hj2, ← hkj, mkd_Hit] at hr
      have HT := hide (Lay.cntAll_take (f := Lay.tHit.cnt) hlt)
      have hle := Lay.cntAll_take_le (f := Lay.tHit.cnt) (xs := xs) (k := j + 1)
      rw [unhide HT] at hle
      clear hj2
      generalize hx : xs[j] = x at *
      clear hx
      have hcn := cnt_Hit x
      have hb1 : 0 ≤ kj := by omega
      have hb2 : kj + (Lay.tHit.cnt x : Int) ≤ 1000000000 := by omega
      have HK := hide hkj
      clear hkj hle
      replace hr := hr.later hB
      obtain ⟨blo, hlo⟩ := hr
      obtain ⟨rfl, -⟩ := lies_Hit.1 hlo
      clear hlo
      have c0 : wr.cell? ⟨b, off + j * 2, none⟩ = some (.int .i64 (kj)) := (hB.cell (p := ⟨b, off + j * 2, none⟩) hbl).trans (hc 0 (by decide))
      have e0 : ((kj : Int) != (kj : Int)) = false := by simp
      have c1 : wr.cell? ⟨b, off + j * 2 + 1, none⟩ = some (.int .i64 (kj + 1)) := (hB.cell (p := ⟨b, off + j * 2 + 1, none⟩) hbl).trans (hc 1 (by decide))
      have e1 : ((kj + 1 : Int) != (kj + 1 : Int)) = false := by simp
      have HB := hide hB
      clear hB hc
      go_wp2_with fail
      go_roundw
      case rel => exact ⟨j + 1, _, by omega, by go_num, (by rw [unhide HT, hcn]; have := unhide HK; omega), rfl, unhide HB⟩
      case measure => simp [intOf]; omega
    · obtain rfl : j = xs.length := by omega
      rw [List.take_length] at hkj
      have HK := hide hkj
      have HB := hide hB
      clear hB hkj
      go_wp2_with fail
      go_ret
      exact ⟨by rw [← unhide HK]; rfl, unhide HB⟩

theorem heldHit_zero (ao : Option Addr) (cap : Nat) (k : Int) (w : World) :
    Calls Tryz.prog 71 #[.slice ao 0 cap, .int .i64 k] w fun e w' => e = .returned (.int .i64 k) ∧ w' = w := by
  go_enter Tryz.func71, Tryz.ntmps71
  go_wp2_with fail
  refine wp_loop_rounds 1 ?_
  rw [rounds_succ]
  go_wp2_with fail
  go_ret
  exact ⟨rfl, rfl⟩

/-- heldHitS. -/
theorem held_HitS (v : Value) (xs : List DHit) (k : Int) (w : World) (h : (Lay.sl Lay.tHit).Reads w [v] ((Lay.sl Lay.tHit).mkv k xs)) (hk : 0 ≤ k) (hk2 : k + (Lay.sl Lay.tHit).vcnt xs ≤ 1000000000) :
    Calls Tryz.prog 71 #[v, .int .i64 k] w fun e w' => e = .returned (.int .i64 (k + (Lay.sl Lay.tHit).vcnt xs)) ∧ Below w.heap.size w w' := by
  rw [mkv_HitS] at h
  obtain ⟨ao, cap, rfl⟩ := open_sl h
  by_cases hp : 0 < xs.length
  · obtain ⟨b, off, rfl, hbl⟩ := Lay.sl_addr h (by rw [mkAll_size]; exact hp)
    have L := heldHit_pos b off cap xs k w h hbl hk hk2
    rw [mkAll_size]
    exact L
  · obtain rfl : xs = [] := List.eq_nil_of_length_eq_zero (by omega)
    refine (heldHit_zero ao cap k w).mono ?_
    rintro e w' ⟨rfl, rfl⟩
    exact ⟨by rw [vcnt_HitS]; simp [cntAll], Below.refl _ _⟩

end Go.Proofs.YtfgadegpdknocaaGreat

namespace Go.Proofs.YtfgadegpdknocaaGreat
open Go.RowKit

set_option maxRecDepth 10000 in
set_option maxHeartbeats 1000000 in
theorem held_HitsResult (cs : List Value) (x : DHitsResult) (k : Int) (w : World) (h : Lay.tHitsResult.Reads w cs (Lay.tHitsResult.mkv k x)) (hk : 0 ≤ k) (hk2 : k + Lay.tHitsResult.vcnt x ≤ 1000000000) :
    Calls Tryz.prog 25 #[.agg cs.toArray, .int .i64 k] w fun e w' => e = .returned (.int .i64 (k + Lay.tHitsResult.vcnt x)) ∧ Below w.heap.size w w' := by
  rw [mkv_HitsResult] at h
  rw [vcnt_HitsResult] at hk2
  have HV := hide (vcnt_HitsResult x)
  obtain ⟨a1, d1, rfl, R1⟩ := open_HitsResult h
  clear h
  generalize hn1 : (⟨x.code, (Lay.sl Lay.tHit).mkv (k) x.hits⟩ : DHitsResult).hits.length = n1 at *
  clear hn1
  have HB0 : Below w.heap.size w (w.alloc (.cells #[.int .i64 x.code, .slice a1 n1 d1] 48)) := (Below.refl _ _).alloc (Nat.le_refl _) _
  have bA : Box w.heap.size #[.int .i64 x.code, .slice a1 n1 d1] 48 (w.alloc (.cells #[.int .i64 x.code, .slice a1 n1 d1] 48)) w.heap.size := newBox (Nat.le_refl _)
  go_enter Tryz.func25, Tryz.ntmps25
  go_wp2_with fail
  generalize w.alloc (.cells #[.int .i64 x.code, .slice a1 n1 d1] 48) = W0 at *
  replace R1 := R1.later HB0
  refine (held_HitS _ x.hits (k) _ R1 (by omega) (by omega)).mono ?_
  rintro e w1 ⟨rfl, hb⟩
  replace HB0 := HB0.trans (hb.mono HB0.size)
  replace bA := bA.keep hb
  have HA := hide bA
  have HX := hide HB0
  clear bA HB0 hb R1
  have hq : decide (k + ((Lay.sl Lay.tHit).vcnt x.hits : Int) < 0) = false := by simp; omega
  go_wp2_with fail
  clear hq
  go_ret
  refine ⟨?_, unhide HX⟩
  rw [show k + (Lay.tHitsResult.vcnt x : Int) = k + ((Lay.sl Lay.tHit).vcnt x.hits : Int) by rw [unhide HV]]
  rfl

end Go.Proofs.YtfgadegpdknocaaGreat
