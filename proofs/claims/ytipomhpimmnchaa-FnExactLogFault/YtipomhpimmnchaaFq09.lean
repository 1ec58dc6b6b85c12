/-
  Texts of this proof in one: LayOpen, OpenLog.
  Their conditions stand in their theorems.
-/
import Derived.Test.YtipomhpimmnchaaChecked
import Derived.Test.YtipomhpimmnchaaFq01
import Derived.ProofKit
import Derived.OpenShut
import Derived.Deep.Slices
import Derived.Test.YtipomhpimmnchaaFq02

namespace Go.Proofs.Ytipomhpimmnchaa
open Go.RowKit Go.ChangeShapes Go.WideShapes

/-- Whatever reads as data of the type t lies as A says. -/
def Opens {α : Type} (A : Lay α) (t : TypeId) : Prop :=
  ∀ {H : Type} (enc : TypeId × Value → H) (W : World) (base : Nat) (spare : Nat → Bool) (held : Bool) (fuel : Nat) (cs : List Value) (x : DataW H × List MemPlace), DataW.trod enc Try.prog W base spare held fuel t cs = some x → ∃ y, A.Reads W cs y

theorem reads_pair {α β : Type} {A : Lay α} {B : Lay β} {W : World} {c1 c2 : List Value} {x : α} {y : β} (h : A.Reads W c1 x) (k : B.Reads W c2 y) : (Lay.pair A B).Reads W (c1 ++ c2) (x, y) := by
  obtain ⟨b1, h⟩ := h
  obtain ⟨b2, k⟩ := k
  exact ⟨b1 ++ b2, c1, c2, b1, b2, rfl, rfl, h, k⟩

theorem opens_int {t : TypeId} (ht : Try.prog.underlying t = some (.int .i64)) : Opens Lay.int t := by
  intro H enc W base spare held fuel cs x h
  obtain ⟨n, rfl, -, hw⟩ := DataW.trod_int ht h
  exact ⟨n, [], rfl, hw, rfl⟩
theorem opens_bool {t : TypeId} (ht : Try.prog.underlying t = some .bool) : Opens Lay.bool t := by
  intro H enc W base spare held fuel cs x h
  obtain ⟨b, rfl, -⟩ := DataW.trod_bool ht h
  exact ⟨b, [], rfl, rfl⟩
theorem opens_str {t : TypeId} (ht : Try.prog.underlying t = some .string) : Opens Lay.str t := by
  intro H enc W base spare held fuel cs x h
  obtain ⟨s, rfl, -, -⟩ := DataW.trod_string ht h
  exact ⟨s, [], rfl, rfl⟩

theorem opens_sl {α : Type} {A : Lay α} {t e : TypeId} (ht : Try.prog.underlying t = some (.slice e)) (hn : Try.prog.cellsOf e = A.n) (h0 : 0 < A.n) (h : Opens A e) : Opens (Lay.sl A) t := by
  intro H enc W base spare held fuel cs x hx
  rcases Go.Deep.open_slice ht hx with ⟨rfl, -⟩ | ⟨a, len, cap, m, n, D, Pl, rfl, hb, hl, hm, hmm, -, hel⟩
  · exact ⟨[], [], none, 0, rfl, ⟨Nat.le_refl _, by simp⟩, Or.inl ⟨rfl, rfl⟩⟩
  · have hlm : len ≤ m := by rw [hmm]; split <;> omega
    rw [hn] at hel
    have each : ∀ i, i < len → ∃ q : List Value × α, (∀ j, j < A.n → W.cell? (a.add (i * A.n + j)) = q.1[j]?) ∧ q.1.length = A.n ∧ A.Reads W q.1 q.2 := by
      intro i hi
      obtain ⟨cs', h1, h2⟩ := hel i (by omega)
      obtain ⟨-, hlen, hc⟩ := World.cells?_some h1
      obtain ⟨y, hy⟩ := h enc W base spare held n cs' _ h2
      refine ⟨(cs', y), fun j hj => ?_, hlen, hy⟩
      have := hc j hj
      rw [Addr.add_add] at this
      exact this
    by_cases hp : 0 < len
    · obtain ⟨b, off, spot⟩ := a
      obtain ⟨q0, c0, l0, -⟩ := each 0 hp
      have hc0 := c0 0 h0
      have hs0 : ∃ v, W.cell? ((⟨b, off, spot⟩ : Addr).add (0 * A.n + 0)) = some v := ⟨_, hc0.trans (List.getElem?_eq_getElem (by omega))⟩
      obtain ⟨v0, hv0⟩ := hs0
      have hspot : spot = none := by simpa [Addr.add] using World.cell?_spot hv0
      subst hspot
      have hbl : b < W.heap.size := by
        have := World.block_lt_of_cell? _ _ hv0
        simpa [Addr.add] using this
      have pick : ∃ f : (i : Nat) → i < len → List Value × α, ∀ i (hi : i < len), (∀ j, j < A.n → W.cell? ((⟨b, off, none⟩ : Addr).add (i * A.n + j)) = (f i hi).1[j]?) ∧ (f i hi).1.length = A.n ∧ A.Reads W (f i hi).1 (f i hi).2 :=
        ⟨fun i hi => Classical.choose (each i hi), fun i hi => Classical.choose_spec (each i hi)⟩
      obtain ⟨f, hf⟩ := pick
      have pick2 : ∃ g : (i : Nat) → i < len → List Nat, ∀ i (hi : i < len), A.lies W (f i hi).1 (f i hi).2 (g i hi) :=
        ⟨fun i hi => Classical.choose (hf i hi).2.2, fun i hi => Classical.choose_spec (hf i hi).2.2⟩
      obtain ⟨g, hg⟩ := pick2
      refine ⟨(List.finRange len).map (fun i => (f i.1 i.2).2), b :: ((List.finRange len).map (fun i => g i.1 i.2)).flatten, some ⟨b, off, none⟩, cap, by simp, ⟨by simpa using hl, by simp; unfold maxLen at hm; omega⟩, Or.inr ⟨b, off, (List.finRange len).map (fun i => (f i.1 i.2).1), (List.finRange len).map (fun i => g i.1 i.2), rfl, hbl, rfl, by simp, by simp, fun j h1 h2 h3 => ?_⟩⟩
      have hj : j < len := by simpa using h1
      refine ⟨fun k hk => ?_, ?_⟩
      · have := (hf j hj).1 k hk
        rw [Addr.add_lit] at this
        simpa [Nat.add_assoc] using this
      · simpa using hg j hj
    · obtain rfl : len = 0 := by omega
      exact ⟨[], [], some a, cap, rfl, ⟨hl, by simp⟩, Or.inl ⟨rfl, rfl⟩⟩

theorem open_arg {α : Type} {A : Lay α} {t : TypeId} (O : Opens A t) {H : Type} {enc : TypeId × Value → H} {W : World} {base : Nat} {spare : Nat → Bool} {held : Bool} {a : Option Addr} {len cap : Nat} {d : DataW H} {p : List MemPlace}
    (h : DataW.Trod enc Try.prog W base spare held t (.slice a len cap) d p) : ∃ y, A.Reads W [.slice a len cap] y := by
  obtain ⟨fuel, hf⟩ := h
  exact O enc W base spare held fuel _ _ (by simpa [Value.cells] using hf)
theorem open_arg_st {α : Type} {A : Lay α} {t : TypeId} (O : Opens A t) {H : Type} {enc : TypeId × Value → H} {W : World} {base : Nat} {spare : Nat → Bool} {held : Bool} {cs : Array Value} {d : DataW H} {p : List MemPlace}
    (h : DataW.Trod enc Try.prog W base spare held t (.agg cs) d p) : ∃ y, A.Reads W cs.toList y := by
  obtain ⟨fuel, hf⟩ := h
  exact O enc W base spare held fuel _ _ (by simpa [Value.cells] using hf)

end Go.Proofs.Ytipomhpimmnchaa

namespace Go.Proofs.Ytipomhpimmnchaa
open Go.RowKit

set_option maxRecDepth 10000 in
theorem opens_Log : Opens Lay.tLog 45 := by
  intro H enc W base spare held fuel cs x h
  obtain ⟨xs, n, _, _, hlen, hl, hfi⟩ := DataW.trod_struct Try.underlying45 h
  rw [show Try.prog.cellsOf 45 = 2 by kernel_rfl] at hlen
  match cs, hlen with
  | [c0, c1], _ =>
  match xs, hl with
  | [y0, y1], _ =>
  have z0 : Try.prog.cellsOf 24 = 1 := by kernel_rfl
  have f0 : DataW.trod enc Try.prog W base spare held n 24 (([c0, c1].drop 0).take (Try.prog.cellsOf 24)) = some y0 := hfi 0 _ rfl
  rw [z0] at f0
  obtain ⟨d0, r0⟩ := (opens_sl Try.underlying24 (by kernel_rfl) (by decide) (opens_int Try.underlying2)) enc W base spare held n _ _ f0
  have f1 : DataW.trod enc Try.prog W base spare held n 24 (([c0, c1].drop 1).take (Try.prog.cellsOf 24)) = some y1 := hfi 1 _ rfl
  rw [z0] at f1
  obtain ⟨d1, r1⟩ := (opens_sl Try.underlying24 (by kernel_rfl) (by decide) (opens_int Try.underlying2)) enc W base spare held n _ _ f1
  exact ⟨⟨d0, d1⟩, (reads_pair r0 r1)⟩

end Go.Proofs.Ytipomhpimmnchaa
