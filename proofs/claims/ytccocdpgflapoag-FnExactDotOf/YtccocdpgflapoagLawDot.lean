/-
  The law FnExactDotOf answers true at every two slices of int64, and writes nothing that was there.
  No condition.
-/
import Derived.Test.YtccocdpgflapoagInts
import Derived.Test.YtccocdpgflapoagModel2
namespace Go.Proofs.Ytccocdpgflapoag
open Go.RowKit

set_option maxHeartbeats 400000 in
theorem lawDotOf_many (ao ao2 : Option Addr) (n cap n2 cap2 : Nat) (w : World) (hn : 1048576 < n ∨ 1048576 < n2) :
    Calls Try.prog 4 #[.slice ao n cap, .slice ao2 n2 cap2] w fun e w' => e = .returned (.bool true) ∧ Below w.heap.size w w' := by
  by_cases h1 : 1048576 < n
  · clear hn
    go_enter Try.func4, Try.ntmps4
    go_wp2_with fail
    go_ret
    exact ⟨rfl, Below.refl _ _⟩
  · have h2 : 1048576 < n2 := by omega
    clear hn
    go_enter Try.func4, Try.ntmps4
    go_wp2_with fail
    go_ret
    exact ⟨rfl, Below.refl _ _⟩

set_option maxHeartbeats 400000 in
theorem lawDotOf_few (ao ao2 : Option Addr) (cap cap2 : Nat) (zs ys : List Int) (w : World) (h : IsInts w (.slice ao zs.length cap) zs) (g : IsInts w (.slice ao2 ys.length cap2) ys) (hn : zs.length ≤ 1048576) (hm : ys.length ≤ 1048576) :
    Calls Try.prog 4 #[.slice ao zs.length cap, .slice ao2 ys.length cap2] w fun e w' => e = .returned (.bool true) ∧ Below w.heap.size w w' := by
  obtain ⟨rc, rv, hr⟩ : ∃ c v, dotRes zs ys = intRes c v := by unfold dotRes; split <;> exact ⟨_, _, rfl⟩
  have HR := hide hr
  clear hr
  go_enter Try.func4, Try.ntmps4
  go_wp2_with fail
  refine (toInts _ zs _ h hn).mono ?_
  rintro e w1 ⟨v1, rfl, -, -, hi1, hb1⟩
  have h1 := h.later hb1
  have g1 := g.later hb1
  go_wp2_with fail
  refine (toInts _ ys _ g1 hm).mono ?_
  rintro e w2 ⟨v2, rfl, -, -, hi2, hb2⟩
  have h2 := h1.later hb2
  have g2 := g1.later hb2
  have hi1' := hi1.later hb2
  have b2 : Below w.heap.size w w2 := hb1.trans (hb2.mono hb1.size)
  clear hb1 hb2 h1 g1 hi1
  go_wp2_with fail
  refine (modelDot v1 v2 zs ys _ hi1' hi2).mono ?_
  rintro e w3 ⟨rfl, hb3⟩
  rw [unhide HR]
  simp only [intRes]
  have h3 := h2.later hb3
  have g3 := g2.later hb3
  have b3 : Below w.heap.size w w3 := b2.trans (hb3.mono b2.size)
  clear hb3 h2 g2 hi1' hi2 b2
  go_wp2_with fail
  have b4 := b3.alloc b3.size (.cells #[.int .i64 rc, .int .i64 rv] 24)
  have nb : Below w3.heap.size w3 (w3.alloc (.cells #[.int .i64 rc, .int .i64 rv] 24)) := (Below.refl _ _).alloc (Nat.le_refl _) _
  obtain ⟨k0, k1⟩ := new_cells (w := w3) (T := 24) (x := .int .i64 rc) (y := .int .i64 rv)
  have g4 := g3.later nb
  refine (toInts _ zs _ (h3.later nb) hn).mono ?_
  rintro e w5 ⟨x0, rfl, -, -, hx0, hb5⟩
  have h5 := (h3.later nb).later hb5
  have g5 := g4.later hb5
  replace k0 := cell_keep hb5 k0
  replace k1 := cell_keep hb5 k1
  have b5 : Below w.heap.size w w5 := b4.trans (hb5.mono b4.size)
  have hz5 : w3.heap.size < w5.heap.size := by have := hb5.size; simp at this; omega
  clear hb5 g4 h3 g3 b3 b4 nb
  go_wp2_with fail
  refine (toInts _ ys _ g5 hm).mono ?_
  rintro e w6 ⟨x1, rfl, -, -, hx1, hb6⟩
  have h6 := h5.later hb6
  have g6 := g5.later hb6
  have hx0' := hx0.later hb6
  replace k0 := cell_keep hb6 k0
  replace k1 := cell_keep hb6 k1
  have b6 : Below w.heap.size w w6 := b5.trans (hb6.mono b5.size)
  have hz6 : w3.heap.size < w6.heap.size := by have := hb6.size; omega
  clear hb6 h5 g5 hx0 b5 hz5
  go_wp2_with fail
  refine (implDot x0 x1 zs ys _ hx0' hx1).mono ?_
  rintro e w7 ⟨rfl, hb7⟩
  rw [unhide HR]
  simp only [intRes]
  have h7 := h6.later hb7
  have g7 := g6.later hb7
  have i0 := hx0'.later hb7
  have i1 := hx1.later hb7
  replace k0 := cell_keep hb7 k0
  replace k1 := cell_keep hb7 k1
  have b7 : Below w.heap.size w w7 := b6.trans (hb7.mono b6.size)
  have hz7 : w3.heap.size < w7.heap.size := by have := hb7.size; omega
  have nb : Below w7.heap.size w7 (w7.alloc (.cells #[.int .i64 rc, .int .i64 rv] 24)) := (Below.refl _ _).alloc (Nat.le_refl _) _
  have HH := hide (h7.later nb)
  have HG := hide (g7.later nb)
  have I0 := hide (i0.later nb)
  have I1 := hide (i1.later nb)
  have B8 := hide (b7.trans (nb.mono b7.size))
  clear hb7 h6 g6 hx0' hx1 b6 hz6 h7 g7 i0 i1 b7 nb
  go_wp2_with fail
  have e := eqIntRes rc rv (w7.alloc (.cells #[.int .i64 rc, .int .i64 rv] 24))
  simp only [intRes] at e
  refine e.mono ?_
  rintro e w8 ⟨rfl, hb8⟩
  have h8 := (unhide HH).later hb8
  have g8 := (unhide HG).later hb8
  have i0 := (unhide I0).later hb8
  have i1 := (unhide I1).later hb8
  have b8 : Below w.heap.size w w8 := (unhide B8).trans (hb8.mono (unhide B8).size)
  clear hb8 HH HG I0 I1 B8 k0 k1 hz7
  go_wp2_with fail
  refine (toInts _ zs _ h8 hn).mono ?_
  rintro e w9 ⟨y0, rfl, -, -, hy0, hb9⟩
  have g9 := g8.later hb9
  have i0' := i0.later hb9
  have i1' := i1.later hb9
  have b9 : Below w.heap.size w w9 := b8.trans (hb9.mono b8.size)
  clear h8 g8 i0 i1 hb9 b8
  go_wp2_with fail
  refine (eqInts x0 y0 zs _ i0' hy0 hn).mono ?_
  rintro e w10 ⟨rfl, hb10⟩
  have g10 := g9.later hb10
  have i1 := i1'.later hb10
  have b10 : Below w.heap.size w w10 := b9.trans (hb10.mono b9.size)
  clear g9 i1' i0' hy0 hb10 b9
  go_wp2_with fail
  refine (toInts _ ys _ g10 hm).mono ?_
  rintro e w11 ⟨y1, rfl, -, -, hy1, hb11⟩
  have i1' := i1.later hb11
  have b11 : Below w.heap.size w w11 := b10.trans (hb11.mono b10.size)
  clear g10 i1 hb11 b10
  go_wp2_with fail
  refine (eqInts x1 y1 ys _ i1' hy1 hm).mono ?_
  rintro e w12 ⟨rfl, hb12⟩
  have b12 : Below w.heap.size w w12 := b11.trans (hb12.mono b11.size)
  clear i1' hy1 hb12 b11
  go_wp2_with fail
  go_ret
  exact ⟨rfl, b12⟩

theorem lawDotOf (v v2 : Value) (zs ys : List Int) (w : World) (h : IsInts w v zs) (g : IsInts w v2 ys) :
    Calls Try.prog 4 #[v, v2] w fun e w' => e = .returned (.bool true) ∧ Below w.heap.size w w' := by
  obtain ⟨ao, cap, rfl, hr⟩ := h
  obtain ⟨ao2, cap2, rfl, hr2⟩ := g
  by_cases hn : zs.length ≤ 1048576 ∧ ys.length ≤ 1048576
  · exact lawDotOf_few ao ao2 cap cap2 zs ys w ⟨ao, cap, rfl, hr⟩ ⟨ao2, cap2, rfl, hr2⟩ hn.1 hn.2
  · exact lawDotOf_many ao ao2 zs.length cap ys.length cap2 w (by omega)

end Go.Proofs.Ytccocdpgflapoag
