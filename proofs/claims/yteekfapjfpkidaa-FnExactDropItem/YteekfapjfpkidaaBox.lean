/-
  A new block of zero values that a statement lays before, between or behind its calls ('w := f(g(a), h(b))' draws the order): what is known of it.
  No condition: a definition and its small laws.
-/
import Derived.Test.YteekfapjfpkidaaBase
namespace Go.Proofs.Yteekfapjfpkidaa
open Go.RowKit

/-- The block s, not below lo, holds the cells cs. -/
def Box (lo : Nat) (cs : Array Value) (T : TypeId) (W : World) (s : Nat) : Prop := lo ≤ s ∧ W.heap[s]? = some (.cells cs T (0, 0))
theorem Box.drew {lo : Nat} {cs : Array Value} {T : TypeId} {W : World} {s : Nat} (h : Box lo cs T W s) : Box lo cs T W.drew s := h
theorem Box.lt {lo : Nat} {cs : Array Value} {T : TypeId} {W : World} {s : Nat} (h : Box lo cs T W s) : s < W.heap.size := lt_of_block h.2
theorem newBox {lo : Nat} {cs : Array Value} {T : TypeId} {W : World} (h : lo ≤ W.heap.size) : Box lo cs T (W.alloc (.cells cs T)) W.heap.size := ⟨h, heap_alloc_new W _⟩
theorem Box.keep {lo : Nat} {cs : Array Value} {T : TypeId} {W w' : World} {s : Nat} (h : Box lo cs T W s) (hb : Below W.heap.size W w') : Box lo cs T w' s := ⟨h.1, (hb.block s h.lt).trans h.2⟩
theorem own_setC {w : World} {base e size : Nat} {v : Value} {n : Nat} {xs : List Value} {a : Addr} (h : w.ownsRow base e size v n xs) (ha : a.block < base) (u : Value) : (w.setCell a u).ownsRow base e size v n xs := by
  refine ⟨h.1, ?_⟩
  rcases h.2 with h2 | ⟨g, cap, cur, hv, hg, hh, r⟩
  · exact Or.inl h2
  · exact Or.inr ⟨g, cap, cur, hv, hg, (heap_setCell_other w a g u (by omega)).trans hh, r⟩
theorem Box.two {lo : Nat} {x y : Value} {T : TypeId} {W : World} {s : Nat} (h : Box lo #[x, y] T W s) : W.cell? ⟨s, 0, none⟩ = some x ∧ W.cell? ⟨s, 1, none⟩ = some y ∧ (∀ o, W.frozen? ⟨s, o, none⟩ = false) ∧ s < W.heap.size := by
  refine ⟨?_, ?_, fun o => ?_, h.lt⟩
  · simp [World.cell?, h.2]
  · simp [World.cell?, h.2]
  · simp [World.frozen?, h.2]

end Go.Proofs.Yteekfapjfpkidaa
