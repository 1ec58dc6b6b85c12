/-
  The law FnExactVecText answers true at every slice of int64, and writes nothing that was there.
  Condition: the table of powers of ten holds what the program's text lays there.
-/
import Derived.Test.YtccocdpgflapoagDoorInts
import Derived.Test.YtccocdpgflapoagDoorTextModel
namespace Go.Proofs.YtccocdpgflapoagDoor
open Go.RowKit

set_option maxHeartbeats 400000 in
theorem eqTextRes (c : Int) (l : Bytes) (w : World) :
    Calls Tryd.prog 7 #[.agg #[.int .i64 c, .string ⟨l.toArray⟩], .agg #[.int .i64 c, .string ⟨l.toArray⟩]] w fun e w' => e = .returned (.bool true) ∧ Below w.heap.size w w' := by
  have h1 : (c != c) = false := by simp
  have h2 : ∀ W : World, (Op.stringOp .neq ⟨l.toArray⟩ ⟨l.toArray⟩).run Tryd.prog W = .ok (.bool false) W := fun W => by simp [Op.stringOp]
  go_enter Tryd.func7, Tryd.ntmps7
  go_wp2
  go_ret
  exact ⟨rfl, ((Below.refl _ _).alloc (Nat.le_refl _) _).alloc (by simp) _⟩

set_option maxHeartbeats 400000 in
theorem lawVecText_many (ao : Option Addr) (n cap : Nat) (w : World) (hn : 1048576 < n) :
    Calls Tryd.prog 3 #[.slice ao n cap] w fun e w' => e = .returned (.bool true) ∧ Below w.heap.size w w' := by
  go_enter Tryd.func3, Tryd.ntmps3
  go_wp2_with fail
  go_ret
  exact ⟨rfl, Below.refl _ _⟩

set_option maxHeartbeats 400000 in
theorem lawVecText_few (ao : Option Addr) (cap : Nat) (zs : List Int) (w : World) (h : IsInts w (.slice ao zs.length cap) zs) (hn : zs.length ≤ 1048576) (ht : Tab w) :
    Calls Tryd.prog 3 #[.slice ao zs.length cap] w fun e w' => e = .returned (.bool true) ∧ Below w.heap.size w w' := by
  have HT := hide ht
  clear ht
  go_enter Tryd.func3, Tryd.ntmps3
  go_wp2_with fail
  refine (toInts _ zs _ h hn).mono ?_
  rintro e w1 ⟨v1, rfl, -, -, hi1, hb1⟩
  have h1 := h.later hb1
  go_wp2_with fail
  refine (modelText v1 zs _ hi1).mono ?_
  rintro e w3 ⟨rfl, hb3⟩
  have h3 := h1.later hb3
  have b3 : Below w.heap.size w w3 := below_keep hb1 hb3
  clear hb3 h1 hi1 hb1
  simp only [str]
  go_wp2_with fail
  have b4 := b3.alloc b3.size (.cells #[.int .i64 (vecFault zs), .string ⟨(vecText zs).toArray⟩] 24)
  have nb : Below w3.heap.size w3 (w3.alloc (.cells #[.int .i64 (vecFault zs), .string ⟨(vecText zs).toArray⟩] 24)) := (Below.refl _ _).alloc (Nat.le_refl _) _
  obtain ⟨k0, k1⟩ := new_cells (w := w3) (T := 24) (x := .int .i64 (vecFault zs)) (y := .string ⟨(vecText zs).toArray⟩)
  refine (toInts _ zs _ (h3.later nb) hn).mono ?_
  rintro e w5 ⟨x0, rfl, -, -, hx0, hb5⟩
  have h5 := (h3.later nb).later hb5
  replace k0 := cell_keep hb5 k0
  replace k1 := cell_keep hb5 k1
  have b5 : Below w.heap.size w w5 := b4.trans (hb5.mono b4.size)
  have hz5 : w3.heap.size < w5.heap.size := by have := hb5.size; simp at this; omega
  clear hb5 h3 b3 b4 nb
  go_wp2_with fail
  refine (implText x0 zs _ hx0 ((unhide HT).later b5)).mono ?_
  rintro e w7 ⟨rfl, hb7⟩
  simp only [str]
  have h7 := h5.later hb7
  have i0 := hx0.later hb7
  replace k0 := cell_keep hb7 k0
  replace k1 := cell_keep hb7 k1
  have b7 : Below w.heap.size w w7 := b5.trans (hb7.mono b5.size)
  have hz7 : w3.heap.size < w7.heap.size := by have := hb7.size; omega
  have nb : Below w7.heap.size w7 (w7.alloc (.cells #[.int .i64 (vecFault zs), .string ⟨(vecText zs).toArray⟩] 24)) := (Below.refl _ _).alloc (Nat.le_refl _) _
  have HH := hide (h7.later nb)
  have I0 := hide (i0.later nb)
  have B8 := hide (b7.trans (nb.mono b7.size))
  clear hb7 h5 hx0 b5 hz5 h7 i0 b7 nb
  go_wp2_with fail
  have e := eqTextRes (vecFault zs) (vecText zs) (w7.alloc (.cells #[.int .i64 (vecFault zs), .string ⟨(vecText zs).toArray⟩] 24))
  refine e.mono ?_
  rintro e w8 ⟨rfl, hb8⟩
  have h8 := (unhide HH).later hb8
  have i0 := (unhide I0).later hb8
  have b8 : Below w.heap.size w w8 := (unhide B8).trans (hb8.mono (unhide B8).size)
  clear hb8 HH I0 B8 k0 k1 hz7
  go_wp2_with fail
  refine (toInts _ zs _ h8 hn).mono ?_
  rintro e w9 ⟨y0, rfl, -, -, hy0, hb9⟩
  have i0' := i0.later hb9
  have b9 : Below w.heap.size w w9 := b8.trans (hb9.mono b8.size)
  clear h8 i0 hb9 b8
  go_wp2_with fail
  refine (eqInts x0 y0 zs _ i0' hy0 hn).mono ?_
  rintro e w10 ⟨rfl, hb10⟩
  have b10 : Below w.heap.size w w10 := b9.trans (hb10.mono b9.size)
  clear i0' hy0 hb10 b9
  go_wp2_with fail
  go_ret
  exact ⟨rfl, b10⟩

theorem lawVecText (v : Value) (zs : List Int) (w : World) (h : IsInts w v zs) (ht : Tab w) :
    Calls Tryd.prog 3 #[v] w fun e w' => e = .returned (.bool true) ∧ Below w.heap.size w w' := by
  obtain ⟨ao, cap, rfl, hr⟩ := h
  by_cases hn : zs.length ≤ 1048576
  · exact lawVecText_few ao cap zs w ⟨ao, cap, rfl, hr⟩ hn ht
  · exact lawVecText_many ao zs.length cap w (by omega)

end Go.Proofs.YtccocdpgflapoagDoor
