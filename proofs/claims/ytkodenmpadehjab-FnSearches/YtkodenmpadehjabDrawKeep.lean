/-
  What the draws' source keeps while other memory is laid or written.
  No condition.
-/
import Derived.Test.YtkodenmpadehjabDraw1
namespace Go.Proofs.Ytkodenmpadehjab
open Go.RowKit

/-- Growth behind growth: what else is written is new. -/
theorem grown_new {a b c : World} {s r : Option Nat} (h : a.grownBy b s) (k : b.grownBy c r) (hr : ∀ j, r = some j → a.heap.size ≤ j) : a.grownBy c s :=
  ⟨k.os.trans h.os, k.tape.trans h.tape, k.output.trans h.output, Nat.le_trans h.size k.size, fun i hi hs => (k.block i (Nat.lt_of_lt_of_le hi h.size) (fun e => by have := hr i e.symm; omega)).trans (h.block i hi hs)⟩

theorem SrcAt.keep {w w' : World} {b m : Nat} {cv : Value} {r : Option Nat} (h : SrcAt w b cv m) (hg : w.grownBy w' r) (hr : some b ≠ r) : SrcAt w' b cv m := (hg.block b h.lt hr).trans h
theorem SrcAt.alloc {w : World} {b m : Nat} {cv : Value} (h : SrcAt w b cv m) (o : Obj) : SrcAt (w.alloc o) b cv m := (Below.heap_alloc w o b h.lt).trans h
theorem IsCode.alloc {w : World} {b : Nat} {cv : Value} (h : IsCode b w cv) (hb : b ≤ w.heap.size) (o : Obj) : IsCode b (w.alloc o) cv := h.later ((Below.refl _ _).alloc hb o)

theorem own_ne {W : World} {b0 b T sz : Nat} {u : Value} {n : Nat} {xs : List Value} (h : W.ownsRow b0 T sz u n xs) (hb : b < b0) : u.ownBlock ≠ some b := fun e => by have := (h.lt b e).1; omega

end Go.Proofs.Ytkodenmpadehjab
