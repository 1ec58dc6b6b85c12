/-
  What a row's reading tells of a slice of hits, and of a hit, that came in.
  No condition.
-/
import Derived.Test.YtplhhdnmhcnhgaaChecked
import Derived.Test.YtplhhdnmhcnhgaaHits
import Derived.ProofKit
import Derived.OpenShut
import Derived.Deep.SlicePairs
namespace Go.Proofs.Ytplhhdnmhcnhgaa
open Go.RowKit Go.ChangeShapes Go.WideShapes

theorem open_hits {H : Type} {enc : TypeId × Value → H} {W : World} {base : Nat} {spare : Nat → Bool} {held : Bool} {a : Option Addr} {len cap : Nat} {d : DataW H} {p : List MemPlace}
    (h : DataW.Trod enc Try.prog W base spare held 42 (.slice a len cap) d p) : ∃ hs, hs.length = len ∧ IsHits W (.slice a len cap) hs := by
  obtain ⟨fuel, hf⟩ := h
  rcases Go.Deep.open_slice_pairs Try.underlying42 Try.underlying46 (by kernel_rfl) rfl rfl (by kernel_rfl) (by kernel_rfl) hf with ⟨hcs, _⟩ | ⟨x, l, c, m, n, V0, V1, D0, D1, P0, P1, hcs, _, hl, hm, hmm, _, hx⟩
  · simp [Value.cells] at hcs
    obtain ⟨rfl, rfl, rfl⟩ := hcs
    exact ⟨[], rfl, none, 0, rfl, Nat.le_refl _, ⟨Nat.zero_le _, fun _ => rfl⟩, by simp, by simp⟩
  · simp [Value.cells] at hcs
    obtain ⟨rfl, rfl, rfl⟩ := hcs
    have hlm : len ≤ m := by rw [hmm]; split <;> omega
    have each : ∀ i, i < len → ∃ q : Int × Int, W.cell? (x.add (i * 2)) = some (.int .i64 q.1) ∧ W.cell? (x.add (i * 2 + 1)) = some (.int .i64 q.2) ∧ Wf2 q := by
      intro i hi
      obtain ⟨h1, h2, h3, h4⟩ := hx i (by omega)
      obtain ⟨z0, e0, _, w0⟩ := DataW.trod_int Try.underlying2 h3
      obtain ⟨z1, e1, _, w1⟩ := DataW.trod_int Try.underlying2 h4
      simp at e0 e1
      rw [e0] at h1
      rw [e1] at h2
      exact ⟨(z0, z1), h1, h2, w0, w1⟩
    have pick : ∃ f : Nat → Int × Int, ∀ i, i < len → W.cell? (x.add (i * 2)) = some (.int .i64 (f i).1) ∧ W.cell? (x.add (i * 2 + 1)) = some (.int .i64 (f i).2) ∧ Wf2 (f i) := by
      refine ⟨fun i => if h : i < len then Classical.choose (each i h) else (0, 0), fun i hi => ?_⟩
      simp only [hi, dite_true]
      exact Classical.choose_spec (each i hi)
    obtain ⟨f, hfx⟩ := pick
    refine ⟨(List.range len).map f, by simp, some x, cap, by simp, by simpa using hl, ⟨hm, by simp⟩, fun q hq => ?_, fun hp => ?_⟩
    · obtain ⟨i, hi, rfl⟩ := List.mem_map.1 hq
      exact (hfx i (List.mem_range.1 hi)).2.2
    · simp at hp
      obtain ⟨b, off, spot⟩ := x
      have hc := (hfx 0 (by omega)).1
      have hspot : spot = none := by simpa [Addr.add] using World.cell?_spot hc
      subst hspot
      refine ⟨b, off, rfl, fun j u v hj => ?_⟩
      have hjl : j < len := by
        rcases Nat.lt_or_ge j len with h | h
        · exact h
        · rw [List.getElem?_eq_none (by simpa using h)] at hj; cases hj
      have hj2 : f j = (u, v) := by simpa [hjl] using hj
      have h1 := hfx j hjl
      rw [hj2] at h1
      simp only [Addr.add_lit] at h1
      exact ⟨h1.1, by rw [Nat.add_assoc]; exact h1.2.1⟩

theorem open_hit {H : Type} {enc : TypeId × Value → H} {W : World} {b0 base : Nat} {r : Reach} {spare : Nat → Bool} {held : Bool} {v : Value} {d : DataW H} {p : List MemPlace}
    (hval : Value.okWide Try.prog W r b0 46 v) (h : DataW.Trod enc Try.prog W base spare held 46 v d p) : ∃ x y, v = .agg #[.int .i64 x, .int .i64 y] ∧ Wf2 (x, y) := by
  obtain ⟨cs, rfl, hsz⟩ := okWide_struct Try.underlying46 hval
  have hc2 : Try.prog.cellsOf 46 = 2 := by kernel_rfl
  have hc1 : Try.prog.cellsOf 2 = 1 := by kernel_rfl
  rw [hc2] at hsz
  obtain ⟨l⟩ := cs
  match l, hsz with
  | [c0, c1], _ =>
  obtain ⟨fuel, hf⟩ := h
  obtain ⟨y0, y1, m, hx, _, hy0, hy1⟩ := trod_struct2 Try.underlying46 hf
  obtain ⟨x, e0, rfl, wa⟩ := DataW.trod_int Try.underlying2 hy0
  obtain ⟨y, e1, rfl, wb⟩ := DataW.trod_int Try.underlying2 hy1
  simp [Value.cells, hc1] at e0 e1
  subst e0 e1
  exact ⟨x, y, rfl, wa, wb⟩

end Go.Proofs.Ytplhhdnmhcnhgaa
