/-
  Short forms of the moves of a walk.
  No condition.
-/
import Derived.WalkKit
import Derived.Deep.RegionHeld3
namespace Go.Proofs.YtomphbenbnnfgaaGreatDoor
open Go.RowKit
theorem pz {α : Type} (l : List α) (i : Nat) (a : α) : l.toArray.setIfInBounds i a = (l.set i a).toArray := List.setIfInBounds_toArray l i a
theorem py {α : Type} (x : α) (l : List α) (a : α) : (x :: l).set 0 a = a :: l := List.set_cons_zero
theorem px {α : Type} (x : α) (l : List α) (i : Nat) (a : α) : (x :: l).set (i + 1) a = x :: l.set i a := List.set_cons_succ
theorem ga {α : Type} {xs : List α} {i : Nat} (h : i < xs.toArray.size) : xs.toArray[i] = xs[i]'(by simpa using h) := List.getElem_toArray h
theorem gb {α : Type} {a : α} {q : List α} {h : 0 < (a :: q).length} : (a :: q)[0] = a := rfl
theorem gc {α : Type} {a : α} {q : List α} {i : Nat} {h : i + 1 < (a :: q).length} : (a :: q)[i + 1] = q[i]'(by simpa using h) := rfl
variable {P : Program} {ops : Array Oper} {Q : Exit → Act → World → Prop} {md : Region.Mode} {S : World → Prop} {fuel : Nat} {listed : Array Bool} {w : World} {l l' : List Value} {ds : List Deferred} {d : Nat}
theorem gd {i : Nat} {oi : Oper} {rest : List Oper} (h : ops.toList.drop i = oi :: rest) : ops[i]? = some oi := by
 have := congrArg List.head? h
 simpa [List.head?_drop] using this
theorem tkJ (i : Nat) {oi : Oper} {v : Value} {rest : List Oper} (hy : ∀ w, S w → (execOp (Act.eval ⟨l.toArray, ds⟩) oi).run P w = .ok (.value v) w) (hS : S w)
 (h : wpAnyH P md ops Q S fuel (listed.setIfInBounds i true) ⟨l'.toArray, ds⟩ w) (hi : ops.toList.drop i = oi :: rest := by rfl) (hs : Region.noSelect ops = true := by kernel_rfl) (hf : Region.free md ops listed i = true := by kernel_rfl) (hr : (Region.ready md ops listed).contains i = true := by kernel_rfl) (hd : oi.dst = some d := by rfl) (hl : l.set d v = l' := by simp only [py, px]; rfl) (hQ : ∀ c a w, Q (.panic c) (a.put oi.dst v) w → Q (.panic c) a w := by exact fun _ _ _ h => h) (hw : Region.wanted oi (yielded ops l.toArray) = true := by rfl) : wpAnyH P md ops Q S (fuel + 1) listed ⟨l.toArray, ds⟩ w := by
 have e : Act.put ⟨l.toArray, ds⟩ oi.dst v = ⟨l'.toArray, ds⟩ := by rw [hd, ← hl]; simp only [Act.put, pz]
 exact wpAnyH_take (gd hi) hs hf hr hQ (Or.inl ⟨hw, hy⟩) hS (by rw [e]; exact h)
theorem tkH (i : Nat) {oi : Oper} {v : Value} {rest : List Oper} (hS : S w)
 (h : wpAnyH P md ops Q S fuel (listed.setIfInBounds i true) ⟨l'.toArray, ds⟩ w) (hi : ops.toList.drop i = oi :: rest := by rfl) (hy : ∀ w, S w → (execOp (Act.eval ⟨l.toArray, ds⟩) oi).run P w = .ok (.value v) w := by intro _ _; go_simp; try with_reducible rfl) (hs : Region.noSelect ops = true := by kernel_rfl) (hf : Region.free md ops listed i = true := by kernel_rfl) (hr : (Region.ready md ops listed).contains i = true := by kernel_rfl) (hd : oi.dst = some d := by rfl) (hl : l.set d v = l' := by simp only [py, px]; rfl) (hQ : ∀ c a w, Q (.panic c) (a.put oi.dst v) w → Q (.panic c) a w := by exact fun _ _ _ h => h) (hw : Region.wanted oi (yielded ops l.toArray) = true := by rfl) : wpAnyH P md ops Q S (fuel + 1) listed ⟨l.toArray, ds⟩ w :=
 tkJ i hy hS h hi hs hf hr hd hl hQ hw
theorem skH (i : Nat) {oi : Oper} {rest : List Oper} (hS : S w)
 (h : wpAnyH P md ops Q S fuel (listed.setIfInBounds i true) ⟨l'.toArray, ds⟩ w) (hi : ops.toList.drop i = oi :: rest := by rfl) (hs : Region.noSelect ops = true := by kernel_rfl) (hf : Region.free md ops listed i = true := by kernel_rfl) (hr : (Region.ready md ops listed).contains i = true := by kernel_rfl) (hd : oi.dst = some d := by rfl) (hl : l.set d undef = l' := by simp only [py, px]; rfl) (hQ : ∀ c a w, Q (.panic c) (a.put oi.dst undef) w → Q (.panic c) a w := by exact fun _ _ _ h => h) (hw : Region.wanted oi (yielded ops l.toArray) = false := by rfl) : wpAnyH P md ops Q S (fuel + 1) listed ⟨l.toArray, ds⟩ w := by
 have e : Act.put ⟨l.toArray, ds⟩ oi.dst undef = ⟨l'.toArray, ds⟩ := by rw [hd, ← hl]; simp only [Act.put, pz]
 exact wpAnyH_take (gd hi) hs hf hr hQ (Or.inr ⟨hw, rfl⟩) hS (by rw [e]; exact h)
theorem rdH {a : Act} (i : Nat) {oi : Oper} {rest : List Oper} (h : ∀ K' : Act → World → Prop, Shut (∀ a w, S w → (S w → wpAnyH P md ops Q S fuel (listed.setIfInBounds i true) a w) → K' a w) → if Region.wanted oi (yielded ops a.tmps) = true then Oper.wp P oi a w K' Q else K' (a.put oi.dst undef) w) (hi : ops.toList.drop i = oi :: rest := by rfl) (hr : Region.ready md ops listed = [i] := by kernel_rfl) : wpAnyH P md ops Q S (fuel + 1) listed a w :=
 wpAnyH_ready hr (by simp) (AllReadyH.cons (gd hi) h AllReadyH.nil)
theorem fZ {p : Prop} (h : p := by go_simp; try with_reducible rfl) : p := h
theorem dZ {P : Program} {ops : Array Oper} {Q : Exit → Act → World → Prop} {md : Region.Mode} {S : World → Prop} {fuel : Nat} {listed : Array Bool} {a : Act} {w : World} (h : Q .normal a w) (hr : Region.ready md ops listed = [] := by kernel_rfl) : wpAnyH P md ops (NoPanic Q) S fuel listed a w := wpAnyH_done hr (NoPanic.normal h) fuel
theorem wZz {P : Program} {ops : Array Oper} {Q : Exit → Act → World → Prop} (S : World → Prop) {id : Nat} {a : Act} {w : World} (hS : S w.drew) (h : S w.drew → wpAnyH P .any ops (NoPanic Q) S ops.size (Array.replicate ops.size false) a w.drew) (hm : P.follows .mixedOrders = true := by kernel_rfl) : (Code.region id ops true).wp P Q a w := wp_region_noPanic (wp_region_held_drew hm hS h)
theorem cZ {B : Nat} {w w' : World} (h : Below B w w') {p : Addr} (hp : p.block < B) {v : Value} (z : w.cell? p = some v) : w'.cell? p = some v := (h.cell hp).trans z
theorem gZ {α : Type} {l : List α} {i : Nat} (h : i < l.length) : ∃ a, l[i]? = some a := ⟨_, List.getElem?_eq_getElem h⟩
end Go.Proofs.YtomphbenbnnfgaaGreatDoor
