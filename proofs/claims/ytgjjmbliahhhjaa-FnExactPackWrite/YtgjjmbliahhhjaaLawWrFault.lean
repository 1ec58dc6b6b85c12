/-
  The law FnExactWriteFault answers true at every write, and writes nothing that was there.
  Condition: WriteFault of the program tells what the model tells (a premise).
-/
import Derived.Test.YtgjjmbliahhhjaaWrFault
import Derived.Deep.RegionHeld3
namespace Go.Proofs.Ytgjjmbliahhhjaa
open Go.RowKit

/-- Four numbers that are int64. -/
def Wf4 (k i s q : Int) : Prop := (Lit.int .i64 k).wf = true ∧ (Lit.int .i64 i).wf = true ∧ (Lit.int .i64 s).wf = true ∧ (Lit.int .i64 q).wf = true

/-- What WriteFault of the program is to tell. -/
def ImplWriteFault : Prop := ∀ (k i : Int) (v : Value) (s q : Int) (zs : List Int) (w : World), Wf4 k i s q → IsInts w v zs →
    Calls Try.prog 10 #[.agg #[.int .i64 k, .int .i64 i, v, .int .i64 s, .int .i64 q]] w fun e w' => e = .returned (.int .i64 (writeFault k i zs s q)) ∧ Below w.heap.size w w'

theorem specWriteFault (k i : Int) (v : Value) (s q : Int) (zs : List Int) (w : World) (h : IsInts w v zs) :
    Calls Try.prog 8 #[.agg #[.int .i64 k, .int .i64 i, v, .int .i64 s, .int .i64 q]] w fun e w' => e = .returned (.int .i64 (writeFault k i zs s q)) ∧ Below w.heap.size w w' := by
  have hv : ∃ a c, v = .slice a zs.length c := by obtain ⟨a, c, h, -⟩ := h; exact ⟨a, c, h⟩
  obtain ⟨av, cv, rfl⟩ := hv
  have B0 : Below w.heap.size w (w.alloc (.cells #[.int .i64 k, .int .i64 i, .slice av zs.length cv, .int .i64 s, .int .i64 q] 27)) := (Below.refl _ _).alloc (Nat.le_refl _) _
  have bA : Box w.heap.size #[.int .i64 k, .int .i64 i, .slice av zs.length cv, .int .i64 s, .int .i64 q] 27 (w.alloc (.cells #[.int .i64 k, .int .i64 i, .slice av zs.length cv, .int .i64 s, .int .i64 q] 27)) w.heap.size := newBox (Nat.le_refl _)
  have L := l3Fault w.heap.size k i (.slice av zs.length cv) s q zs _ bA.five.1 (h.later B0)
  have HB := hide B0
  clear bA B0 h
  go_enter Try.func8, Try.ntmps8
  go_wp2_with fail
  refine L.mono ?_
  rintro e w1 ⟨rfl, rfl⟩
  clear L
  go_wp2_with fail
  go_ret
  exact ⟨rfl, unhide HB⟩

theorem lawWrFault_many (k i : Int) (ao : Option Addr) (n cap : Nat) (s q : Int) (w : World) (hn : 1048576 < n) (hm : n ≤ 9223372036854775807) :
    Calls Try.prog 3 #[.agg #[.int .i64 k, .int .i64 i, .slice ao n cap, .int .i64 s, .int .i64 q]] w fun e w' => e = .returned (.bool true) ∧ Below w.heap.size w w' := by
  have B0 : Below w.heap.size w (w.alloc (.cells #[.int .i64 k, .int .i64 i, .slice ao n cap, .int .i64 s, .int .i64 q] 24)) := (Below.refl _ _).alloc (Nat.le_refl _) _
  go_enter Try.func3, Try.ntmps3
  go_wp2_with fail
  refine (szWrite_many k i ao n cap s q 1048576 _ hn (by omega) hm).mono ?_
  rintro e w' ⟨rfl, hb⟩
  have HB := hide (B0.trans (hb.mono B0.size))
  clear hb B0
  go_wp2_with fail
  go_ret
  exact ⟨rfl, unhide HB⟩

set_option maxRecDepth 100000 in
set_option maxHeartbeats 1000000 in
theorem lawWrFault_few (impl : ImplWriteFault) (k i : Int) (ao : Option Addr) (cap : Nat) (s q : Int) (zs : List Int) (w : World) (hwf : Wf4 k i s q) (h : IsInts w (.slice ao zs.length cap) zs) (hn : zs.length ≤ 1048576) :
    Calls Try.prog 3 #[.agg #[.int .i64 k, .int .i64 i, .slice ao zs.length cap, .int .i64 s, .int .i64 q]] w fun e w' => e = .returned (.bool true) ∧ Below w.heap.size w w' := by
  have HI := hide impl
  have HWF := hide hwf
  clear impl hwf
  have B0 : Below w.heap.size w (w.alloc (.cells #[.int .i64 k, .int .i64 i, .slice ao zs.length cap, .int .i64 s, .int .i64 q] 24)) := (Below.refl _ _).alloc (Nat.le_refl _) _
  have bA : Box w.heap.size #[.int .i64 k, .int .i64 i, .slice ao zs.length cap, .int .i64 s, .int .i64 q] 24 (w.alloc (.cells #[.int .i64 k, .int .i64 i, .slice ao zs.length cap, .int .i64 s, .int .i64 q] 24)) w.heap.size := newBox (Nat.le_refl _)
  have h0 := h.later B0
  clear h
  go_enter Try.func3, Try.ntmps3
  go_wp2_with fail
  generalize w.alloc (.cells #[.int .i64 k, .int .i64 i, .slice ao zs.length cap, .int .i64 s, .int .i64 q] 24) = W0 at *
  have keep : Hid (∀ W, Below W0.heap.size W0 W → IsInts W (.slice ao zs.length cap) zs ∧ (W.cell? ⟨w.heap.size, 0, none⟩ = some (.int .i64 k) ∧ W.cell? ⟨w.heap.size, 1, none⟩ = some (.int .i64 i) ∧ W.cell? ⟨w.heap.size, 2, none⟩ = some (.slice ao zs.length cap) ∧ W.cell? ⟨w.heap.size, 3, none⟩ = some (.int .i64 s) ∧ W.cell? ⟨w.heap.size, 4, none⟩ = some (.int .i64 q)) ∧ Below w.heap.size w W) := fun W hW => ⟨h0.later hW, (bA.keep hW).five.1, B0.trans (hW.mono B0.size)⟩
  clear h0 bA B0
  refine (szWrite_ok k i ao zs.length cap s q 1048576 _ hn (by omega)).mono ?_
  rintro e w1 ⟨rfl, hb1⟩
  have hd0 : decide (((1048576 - zs.length : Nat) : Int) < 0) = false := by simp
  obtain ⟨i1, ⟨c0, c1, c2, c3, c4⟩, -⟩ := unhide keep w1 hb1
  go_wp2_with fail
  refine (toWrite k i _ s q zs _ i1 hn).mono ?_
  rintro e w2 ⟨g, rfl, ho, hb2⟩
  have b2 : Below W0.heap.size W0 w2 := hb1.trans (hb2.mono hb1.size)
  have i2 := isInts_row i1.wf ho
  clear hb1 hb2 ho i1 c0 c1 c2 c3 c4
  go_wp2_with fail
  refine (specWriteFault k i _ s q zs _ i2).mono ?_
  rintro e w3 ⟨rfl, hb3⟩
  have b3 := b2.trans (hb3.mono b2.size)
  obtain ⟨i3, ⟨c0, c1, c2, c3, c4⟩, -⟩ := unhide keep w3 b3
  clear b2 hb3 i2
  go_wp2_with fail
  refine (toWrite k i _ s q zs _ i3 hn).mono ?_
  rintro e w4 ⟨g2, rfl, ho, hb4⟩
  have b4 := b3.trans (hb4.mono b3.size)
  have i4 := isInts_row i3.wf ho
  have nb : Below w4.heap.size w4 (w4.alloc (.cells #[.int .i64 k, .int .i64 i, .slice (some ⟨g2, 0, none⟩) zs.length zs.length, .int .i64 s, .int .i64 q] 27)) := (Below.refl _ _).alloc (Nat.le_refl _) _
  have bX : Box w4.heap.size #[.int .i64 k, .int .i64 i, .slice (some ⟨g2, 0, none⟩) zs.length zs.length, .int .i64 s, .int .i64 q] 27 (w4.alloc (.cells #[.int .i64 k, .int .i64 i, .slice (some ⟨g2, 0, none⟩) zs.length zs.length, .int .i64 s, .int .i64 q] 27)) w4.heap.size := newBox (Nat.le_refl _)
  have b5 := b4.trans (nb.mono b4.size)
  have i5 := i4.later nb
  have hw5 := i3.wf
  clear b3 hb4 i3 i4 ho c0 c1 c2 c3 c4 nb b4
  go_wp2_with fail
  generalize hwx : w4.alloc (.cells #[.int .i64 k, .int .i64 i, .slice (some ⟨g2, 0, none⟩) zs.length zs.length, .int .i64 s, .int .i64 q] 27) = W5 at *
  generalize w4.heap.size = s5 at *
  clear hwx
  refine (unhide HI k i _ s q zs _ (unhide HWF) i5).mono ?_
  rintro e w6 ⟨rfl, hb6⟩
  have hne : (writeFault k i zs s q != writeFault k i zs s q) = false := by simp
  have b6 := b5.trans (hb6.mono b5.size)
  have i6 := i5.later hb6
  have bX6 := bX.keep hb6
  generalize writeFault k i zs s q = F at *
  obtain ⟨⟨x0, x1, x2, x3, x4⟩, -, -⟩ := bX6.five
  obtain ⟨-, ⟨c0, c1, c2, c3, c4⟩, -⟩ := unhide keep w6 b6
  have HWZ := hide hw5
  have HB6 := hide b6
  have HI6 := hide i6
  have LT : Hid (∀ W, Below w6.heap.size w6 W → Calls Try.prog 9 #[.agg #[.int .i64 k, .int .i64 i, .slice ao zs.length cap, .int .i64 s, .int .i64 q]] W fun e w' => ∃ g : Nat, e = .returned (.agg #[.int .i64 k, .int .i64 i, .slice (some ⟨g, 0, none⟩) zs.length zs.length, .int .i64 s, .int .i64 q]) ∧ IsInts w' (.slice (some ⟨g, 0, none⟩) zs.length zs.length) zs ∧ Below w6.heap.size w6 w') := fun W hW =>
    (toWrite k i _ s q zs W (unhide keep W ((unhide HB6).trans (hW.mono (unhide HB6).size))).1 hn).mono fun e w' ⟨g, h1, h2, h3⟩ => ⟨g, h1, isInts_row (unhide HWZ) h2, hW.trans (h3.mono hW.size)⟩
  have LE : Hid (∀ W v, Below w6.heap.size w6 W → IsInts W v zs → Calls Try.prog 11 #[.agg #[.int .i64 k, .int .i64 i, .slice (some ⟨g2, 0, none⟩) zs.length zs.length, .int .i64 s, .int .i64 q], .agg #[.int .i64 k, .int .i64 i, v, .int .i64 s, .int .i64 q]] W fun e w' => e = .returned (.bool true) ∧ Below w6.heap.size w6 w') := fun W v hW hv =>
    (eqWrite k i _ v s q zs W ((unhide HI6).later hW) hv hn).mono fun e w' ⟨h1, h3⟩ => ⟨h1, hW.trans (h3.mono hW.size)⟩
  have HC : Hid (∀ W, Below w6.heap.size w6 W → (W.cell? ⟨w.heap.size, 0, none⟩ = some (.int .i64 k) ∧ W.cell? ⟨w.heap.size, 1, none⟩ = some (.int .i64 i) ∧ W.cell? ⟨w.heap.size, 2, none⟩ = some (.slice ao zs.length cap) ∧ W.cell? ⟨w.heap.size, 3, none⟩ = some (.int .i64 s) ∧ W.cell? ⟨w.heap.size, 4, none⟩ = some (.int .i64 q)) ∧ (W.cell? ⟨s5, 0, none⟩ = some (.int .i64 k) ∧ W.cell? ⟨s5, 1, none⟩ = some (.int .i64 i) ∧ W.cell? ⟨s5, 2, none⟩ = some (.slice (some ⟨g2, 0, none⟩) zs.length zs.length) ∧ W.cell? ⟨s5, 3, none⟩ = some (.int .i64 s) ∧ W.cell? ⟨s5, 4, none⟩ = some (.int .i64 q))) := fun W hW =>
    ⟨(unhide keep W ((unhide HB6).trans (hW.mono (unhide HB6).size))).2.1, (bX6.keep hW).five.1⟩
  have HKB := hide (unhide keep w6 b6).2.2
  clear b5 hb6 i5 i6 bX bX6 hw5 keep b6
  go_wp2_with fail
  first
    | go_region_held3 (fun w' => (w'.cell? ⟨w.heap.size, 0, none⟩ = some (.int .i64 k) ∧ w'.cell? ⟨w.heap.size, 1, none⟩ = some (.int .i64 i) ∧ w'.cell? ⟨w.heap.size, 2, none⟩ = some (.slice ao zs.length cap) ∧ w'.cell? ⟨w.heap.size, 3, none⟩ = some (.int .i64 s) ∧ w'.cell? ⟨w.heap.size, 4, none⟩ = some (.int .i64 q)) ∧ (w'.cell? ⟨s5, 0, none⟩ = some (.int .i64 k) ∧ w'.cell? ⟨s5, 1, none⟩ = some (.int .i64 i) ∧ w'.cell? ⟨s5, 2, none⟩ = some (.slice (some ⟨g2, 0, none⟩) zs.length zs.length) ∧ w'.cell? ⟨s5, 3, none⟩ = some (.int .i64 s) ∧ w'.cell? ⟨s5, 4, none⟩ = some (.int .i64 q)))
        (first
          | exact unhide HC _ hbw
          | exact unhide HC _ (Below.refl _ _).drew
          | go_keep)
        (first
          | (go_at_call 9; refine (unhide LT _ (Below.refl _ _).drew).mono ?_; rintro e w7 ⟨g3, rfl, hi7, hbw⟩)
          | (go_at_call 11; refine (unhide LE _ _ hbw hi7).mono ?_; rintro e w8 ⟨rfl, hbw⟩))
    | fail
  have BW : Hid (Below w.heap.size w w8) := (unhide HKB).trans (hbw.mono (unhide HKB).size)
  go_wp2_with fail
  go_ret
  exact ⟨rfl, unhide BW⟩

theorem lawWrFault (impl : ImplWriteFault) (k i : Int) (v : Value) (s q : Int) (zs : List Int) (w : World) (hwf : Wf4 k i s q) (h : IsInts w v zs) (hm : zs.length ≤ 9223372036854775807) :
    Calls Try.prog 3 #[.agg #[.int .i64 k, .int .i64 i, v, .int .i64 s, .int .i64 q]] w fun e w' => e = .returned (.bool true) ∧ Below w.heap.size w w' := by
  have h' := h
  obtain ⟨ao, cap, rfl, -⟩ := h'
  by_cases hn : zs.length ≤ 1048576
  · exact lawWrFault_few impl k i ao cap s q zs w hwf h hn
  · exact lawWrFault_many k i ao zs.length cap s q w (by omega) hm

end Go.Proofs.Ytgjjmbliahhhjaa
