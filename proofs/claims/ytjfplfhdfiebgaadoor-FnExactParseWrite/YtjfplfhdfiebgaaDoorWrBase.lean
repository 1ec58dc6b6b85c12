/-
  Writes (kind, id, vector, session, number) in memory: a copy by toWrite is new memory; two of the same parts are the same for eqWrite; szWrite tells what is left.
  Condition: a vector of at most 1048576 numbers.
-/
import Derived.Test.YtjfplfhdfiebgaaDoorInts
import Derived.Test.YtjfplfhdfiebgaaDoorGround
namespace Go.Proofs.YtjfplfhdfiebgaaDoor
open Go.RowKit

theorem Box.five {lo : Nat} {x0 x1 x2 x3 x4 : Value} {T : TypeId} {W : World} {s : Nat} (h : Box lo #[x0, x1, x2, x3, x4] T W s) :
    (W.cell? ⟨s, 0, none⟩ = some x0 ∧ W.cell? ⟨s, 1, none⟩ = some x1 ∧ W.cell? ⟨s, 2, none⟩ = some x2 ∧ W.cell? ⟨s, 3, none⟩ = some x3 ∧ W.cell? ⟨s, 4, none⟩ = some x4) ∧ (∀ o, W.frozen? ⟨s, o, none⟩ = false) ∧ s < W.heap.size := by
  refine ⟨⟨?_, ?_, ?_, ?_, ?_⟩, fun o => ?_, h.lt⟩
  all_goals first | simp [World.cell?, h.2] | simp [World.frozen?, h.2]
theorem Box.alloc {lo : Nat} {cs : Array Value} {T : TypeId} {W : World} {s : Nat} (h : Box lo cs T W s) (o : Obj) : Box lo cs T (W.alloc o) s := ⟨h.1, (Below.heap_alloc W o s h.lt).trans h.2⟩

set_option maxRecDepth 100000 in
set_option maxHeartbeats 1000000 in
theorem toWrite (k i : Int) (v : Value) (s q : Int) (zs : List Int) (w : World) (h : IsInts w v zs) (hn : zs.length ≤ 1048576) :
    Calls Tryd.prog 7 #[.agg #[.int .i64 k, .int .i64 i, v, .int .i64 s, .int .i64 q]] w fun e w' => ∃ g : Nat, e = .returned (.agg #[.int .i64 k, .int .i64 i, .slice (some ⟨g, 0, none⟩) zs.length zs.length, .int .i64 s, .int .i64 q]) ∧
      w'.ownsRow w.heap.size 2 1 (.slice (some ⟨g, 0, none⟩) zs.length zs.length) zs.length (zs.map (Value.int .i64)) ∧ Below w.heap.size w w' := by
  have h' := h
  obtain ⟨ao, cap, rfl, -⟩ := h'
  go_enter Tryd.func7, Tryd.ntmps7
  go_wp2_with fail
  have bA : Box w.heap.size #[.int .i64 k, .int .i64 i, .slice ao zs.length cap, .int .i64 s, .int .i64 q] 24 (((w.alloc (.cells #[.int .i64 k, .int .i64 i, .slice ao zs.length cap, .int .i64 s, .int .i64 q] 24)).alloc (.cells #[.int .i64 0, .int .i64 0, .slice none 0 0, .int .i64 0, .int .i64 0] 29)).alloc (.cells #[.int .i64 k, .int .i64 i, .slice none 0 0, .int .i64 0, .int .i64 0] 29)) w.heap.size := ((newBox (Nat.le_refl _)).alloc _).alloc _
  have bZ : Box w.heap.size #[.int .i64 0, .int .i64 0, .slice none 0 0, .int .i64 0, .int .i64 0] 29 (((w.alloc (.cells #[.int .i64 k, .int .i64 i, .slice ao zs.length cap, .int .i64 s, .int .i64 q] 24)).alloc (.cells #[.int .i64 0, .int .i64 0, .slice none 0 0, .int .i64 0, .int .i64 0] 29)).alloc (.cells #[.int .i64 k, .int .i64 i, .slice none 0 0, .int .i64 0, .int .i64 0] 29)) (w.heap.size + 1) := by
    have := (newBox (lo := w.heap.size) (cs := #[.int .i64 0, .int .i64 0, .slice none 0 0, .int .i64 0, .int .i64 0]) (T := 29) (W := w.alloc (.cells #[.int .i64 k, .int .i64 i, .slice ao zs.length cap, .int .i64 s, .int .i64 q] 24)) (by simp)).alloc (.cells #[.int .i64 k, .int .i64 i, .slice none 0 0, .int .i64 0, .int .i64 0] 29)
    simpa using this
  have bO : Box w.heap.size #[.int .i64 k, .int .i64 i, .slice none 0 0, .int .i64 0, .int .i64 0] 29 (((w.alloc (.cells #[.int .i64 k, .int .i64 i, .slice ao zs.length cap, .int .i64 s, .int .i64 q] 24)).alloc (.cells #[.int .i64 0, .int .i64 0, .slice none 0 0, .int .i64 0, .int .i64 0] 29)).alloc (.cells #[.int .i64 k, .int .i64 i, .slice none 0 0, .int .i64 0, .int .i64 0] 29)) (w.heap.size + 1 + 1) := by
    have := newBox (lo := w.heap.size) (cs := #[.int .i64 k, .int .i64 i, .slice none 0 0, .int .i64 0, .int .i64 0]) (T := 29) (W := (w.alloc (.cells #[.int .i64 k, .int .i64 i, .slice ao zs.length cap, .int .i64 s, .int .i64 q] 24)).alloc (.cells #[.int .i64 0, .int .i64 0, .slice none 0 0, .int .i64 0, .int .i64 0] 29)) (by simp; omega)
    simpa using this
  have B0 : Below w.heap.size w (((w.alloc (.cells #[.int .i64 k, .int .i64 i, .slice ao zs.length cap, .int .i64 s, .int .i64 q] 24)).alloc (.cells #[.int .i64 0, .int .i64 0, .slice none 0 0, .int .i64 0, .int .i64 0] 29)).alloc (.cells #[.int .i64 k, .int .i64 i, .slice none 0 0, .int .i64 0, .int .i64 0] 29)) := (((Below.refl _ _).alloc (Nat.le_refl _) _).alloc (by simp) _).alloc (by simp; omega) _
  have hz0 : (((w.alloc (.cells #[.int .i64 k, .int .i64 i, .slice ao zs.length cap, .int .i64 s, .int .i64 q] 24)).alloc (.cells #[.int .i64 0, .int .i64 0, .slice none 0 0, .int .i64 0, .int .i64 0] 29)).alloc (.cells #[.int .i64 k, .int .i64 i, .slice none 0 0, .int .i64 0, .int .i64 0] 29)).heap.size = w.heap.size + 3 := by simp
  generalize ((w.alloc (.cells #[.int .i64 k, .int .i64 i, .slice ao zs.length cap, .int .i64 s, .int .i64 q] 24)).alloc (.cells #[.int .i64 0, .int .i64 0, .slice none 0 0, .int .i64 0, .int .i64 0] 29)).alloc (.cells #[.int .i64 k, .int .i64 i, .slice none 0 0, .int .i64 0, .int .i64 0] 29) = W0 at *
  refine (toInts _ zs _ (h.later B0) hn).mono ?_
  rintro e w1 ⟨v1, rfl, rfl, ho, -, hb⟩
  obtain ⟨⟨-, -, -, a3, a4⟩, -, -⟩ := (bA.keep hb).five
  obtain ⟨⟨z0, z1, z2, z3, z4⟩, zf, zl⟩ := (bZ.keep hb).five
  obtain ⟨⟨o0, o1, o2, o3, o4⟩, of, ol⟩ := (bO.keep hb).five
  have HB := hide (B0.trans (hb.mono B0.size))
  have HO := hide ho
  generalize W0.heap.size = g at *
  subst hz0
  clear hb bA bZ bO B0 ho h
  go_wp2_with fail
  refine bodyPost_ret (v := .agg #[.int .i64 k, .int .i64 i, .slice (some ⟨w.heap.size + 3, 0, none⟩) zs.length zs.length, .int .i64 s, .int .i64 q]) (by simp [results, Tryd.results7, go_sem, z0, z1, z2, z3, z4]) rfl ?_
  refine ⟨w.heap.size + 3, rfl, own_mono (b := w.heap.size + 3) (by omega) ?_, ?_⟩
  · refine own_setC (own_setC (own_setC (own_setC (own_setC (own_setC (own_setC (own_setC (unhide HO) ?_ _) ?_ _) ?_ _) ?_ _) ?_ _) ?_ _) ?_ _) ?_ _ <;> simp
  · refine ((((((((unhide HB).setCell ?_ _).setCell ?_ _).setCell ?_ _).setCell ?_ _).setCell ?_ _).setCell ?_ _).setCell ?_ _).setCell ?_ _ <;> simp <;> omega

theorem szInts_ok (ao : Option Addr) (n cap : Nat) (l : Nat) (w : World) (hn : n ≤ l) (hl : l ≤ 1048576) :
    Calls Tryd.prog 16 #[.slice ao n cap, .int .i64 l] w fun e w' => e = .returned (.int .i64 ((l - n : Nat) : Int)) ∧ w' = w := by
  have e1 : (l : Int) - (n : Int) = ((l - n : Nat) : Int) := by omega
  have e2 : decide (((l - n : Nat) : Int) < 0) = false := by simp
  go_enter Tryd.func16, Tryd.ntmps16
  go_wp2_with fail
  go_ret
  exact ⟨rfl, rfl⟩
theorem szInts_many (ao : Option Addr) (n cap : Nat) (l : Nat) (w : World) (hn : l < n) (hl : l ≤ 1048576) (hm : n ≤ 9223372036854775807) :
    Calls Tryd.prog 16 #[.slice ao n cap, .int .i64 l] w fun e w' => e = .returned (.int .i64 (-1)) ∧ w' = w := by
  have e2 : decide ((l : Int) - (n : Int) < 0) = true := by simp; omega
  go_enter Tryd.func16, Tryd.ntmps16
  go_wp2_with fail
  go_ret
  exact ⟨rfl, rfl⟩

theorem szWrite_ok (k i : Int) (ao : Option Addr) (n cap : Nat) (s q : Int) (l : Nat) (w : World) (hn : n ≤ l) (hl : l ≤ 1048576) :
    Calls Tryd.prog 5 #[.agg #[.int .i64 k, .int .i64 i, .slice ao n cap, .int .i64 s, .int .i64 q], .int .i64 l] w fun e w' => e = .returned (.int .i64 ((l - n : Nat) : Int)) ∧ Below w.heap.size w w' := by
  have B0 : ∀ o, Below w.heap.size w (w.alloc o) := fun o => (Below.refl _ _).alloc (Nat.le_refl _) o
  have e2 : decide (((l - n : Nat) : Int) < 0) = false := by simp
  go_enter Tryd.func5, Tryd.ntmps5
  go_wp2_with fail
  refine (szInts_ok ao n cap l _ hn hl).mono ?_
  rintro e w1 ⟨rfl, rfl⟩
  go_wp2_with fail
  go_ret
  exact ⟨rfl, B0 _⟩
theorem szWrite_many (k i : Int) (ao : Option Addr) (n cap : Nat) (s q : Int) (l : Nat) (w : World) (hn : l < n) (hl : l ≤ 1048576) (hm : n ≤ 9223372036854775807) :
    Calls Tryd.prog 5 #[.agg #[.int .i64 k, .int .i64 i, .slice ao n cap, .int .i64 s, .int .i64 q], .int .i64 l] w fun e w' => e = .returned (.int .i64 (-1)) ∧ Below w.heap.size w w' := by
  have B0 : ∀ o, Below w.heap.size w (w.alloc o) := fun o => (Below.refl _ _).alloc (Nat.le_refl _) o
  go_enter Tryd.func5, Tryd.ntmps5
  go_wp2_with fail
  refine (szInts_many ao n cap l _ hn hl hm).mono ?_
  rintro e w1 ⟨rfl, rfl⟩
  go_wp2_with fail
  go_ret
  exact ⟨rfl, B0 _⟩

set_option maxHeartbeats 1000000 in
theorem eqWrite (k i : Int) (u v : Value) (s q : Int) (zs : List Int) (w : World) (h : IsInts w u zs) (h2 : IsInts w v zs) (hn : zs.length ≤ 1048576) :
    Calls Tryd.prog 10 #[.agg #[.int .i64 k, .int .i64 i, u, .int .i64 s, .int .i64 q], .agg #[.int .i64 k, .int .i64 i, v, .int .i64 s, .int .i64 q]] w fun e w' => e = .returned (.bool true) ∧ Below w.heap.size w w' := by
  have hu : ∃ a n c, u = .slice a n c := by obtain ⟨a, c, h, -⟩ := h; exact ⟨a, _, c, h⟩
  have hv : ∃ a n c, v = .slice a n c := by obtain ⟨a, c, h, -⟩ := h2; exact ⟨a, _, c, h⟩
  obtain ⟨au, nu, cu, rfl⟩ := hu
  obtain ⟨av, nv, cv, rfl⟩ := hv
  have e1 : (k != k) = false := by simp
  have e2 : (i != i) = false := by simp
  have e3 : (s != s) = false := by simp
  have e4 : (q != q) = false := by simp
  have B0 : Below w.heap.size w ((w.alloc (.cells #[.int .i64 k, .int .i64 i, .slice au nu cu, .int .i64 s, .int .i64 q] 29)).alloc (.cells #[.int .i64 k, .int .i64 i, .slice av nv cv, .int .i64 s, .int .i64 q] 29)) := ((Below.refl _ _).alloc (Nat.le_refl _) _).alloc (by simp) _
  have bA : Box w.heap.size #[.int .i64 k, .int .i64 i, .slice au nu cu, .int .i64 s, .int .i64 q] 29 ((w.alloc (.cells #[.int .i64 k, .int .i64 i, .slice au nu cu, .int .i64 s, .int .i64 q] 29)).alloc (.cells #[.int .i64 k, .int .i64 i, .slice av nv cv, .int .i64 s, .int .i64 q] 29)) w.heap.size := (newBox (Nat.le_refl _)).alloc _
  have bC : Box w.heap.size #[.int .i64 k, .int .i64 i, .slice av nv cv, .int .i64 s, .int .i64 q] 29 ((w.alloc (.cells #[.int .i64 k, .int .i64 i, .slice au nu cu, .int .i64 s, .int .i64 q] 29)).alloc (.cells #[.int .i64 k, .int .i64 i, .slice av nv cv, .int .i64 s, .int .i64 q] 29)) (w.heap.size + 1) := by
    have := newBox (lo := w.heap.size) (cs := #[.int .i64 k, .int .i64 i, .slice av nv cv, .int .i64 s, .int .i64 q]) (T := 29) (W := w.alloc (.cells #[.int .i64 k, .int .i64 i, .slice au nu cu, .int .i64 s, .int .i64 q] 29)) (by simp)
    simpa using this
  go_enter Tryd.func10, Tryd.ntmps10
  go_wp2_with fail
  generalize (w.alloc (.cells #[.int .i64 k, .int .i64 i, .slice au nu cu, .int .i64 s, .int .i64 q] 29)).alloc (.cells #[.int .i64 k, .int .i64 i, .slice av nv cv, .int .i64 s, .int .i64 q] 29) = W0 at *
  refine (eqInts _ _ zs _ (h.later B0) (h2.later B0) hn).mono ?_
  rintro e w1 ⟨rfl, hb⟩
  obtain ⟨⟨-, -, -, a3, a4⟩, -, -⟩ := (bA.keep hb).five
  obtain ⟨⟨-, -, -, c3, c4⟩, -, -⟩ := (bC.keep hb).five
  have HB := hide (B0.trans (hb.mono B0.size))
  clear hb bA bC B0 h h2
  go_wp2_with fail
  go_ret
  exact ⟨rfl, unhide HB⟩

end Go.Proofs.YtjfplfhdfiebgaaDoor
