/-
  Texts of this proof in one: LawFnOnce, LawFnOnceA.
  Their conditions stand in their theorems.
-/
import Derived.Test.YtkodenmpadehjaaDoorSqO06
import Derived.Test.YtkodenmpadehjaaDoorSqO07
import Derived.Test.YtkodenmpadehjaaDoorSqO10
import Derived.Test.YtkodenmpadehjaaDoorSqO11
import Derived.Test.YtkodenmpadehjaaDoorSqO12
import Derived.Deep.RegionHeld3
import Derived.Deep.CutRange

namespace Go.Proofs.YtkodenmpadehjaaDoor
open Go.RowKit

theorem fieldOR0 (c : Int) (b : Bool) (p : Int) (a : Option Addr) (n cp : Nat) (w : World) : (Instr.field 31 (.agg #[.int .i64 c, .bool b, .int .i64 p, .slice a n cp]) 0).run Tryd.prog w = .ok (.int .i64 c) w := by kernel_rfl
theorem lawFnOnce_many (ao : Option Addr) (len cap : Nat) (w : World) (hn : 1048576 < len) :
    Calls Tryd.prog 3 #[.slice ao len cap] w fun e w' => e = .returned (.bool true) ∧ Below w.heap.size w w' := by
  go_enter Tryd.func3, Tryd.ntmps3
  go_wp2_with fail
  refine (big_yes ao len cap w hn).mono ?_
  rintro e w1 ⟨rfl, rfl⟩
  go_wp2_with fail
  go_ret
  exact ⟨rfl, Below.refl _ _⟩

set_option maxRecDepth 100000 in
set_option maxHeartbeats 8000000 in
theorem lawFnOnce_few (ao : Option Addr) (len cap : Nat) (w : World) (hn : len ≤ 1048576) (hcode : IsCode w.heap.size w (.slice ao len cap)) (hE : Errs w) :
    Calls Tryd.prog 3 #[.slice ao len cap] w fun e w' => e = .returned (.bool true) ∧ Below w.heap.size w w' := by
  go_enter Tryd.func3, Tryd.ntmps3
  go_wp2_with fail
  refine (big_no ao len cap w hn).mono ?_
  rintro e w0 ⟨rfl, hw0⟩
  rw [hw0]
  clear hw0 w0
  go_wp2_with fail
  refine (drawApp ao len cap w hcode).mono ?_
  rintro e w1 ⟨v, ws, cs, x, rfl, hV, hX, hlen, hb1⟩
  obtain ⟨av, cv, rfl⟩ := open_sl hV
  obtain ⟨a2, d2, rfl, R2⟩ := open_Write hX
  have nb : Below w1.heap.size w1 (w1.alloc (.cells #[.int .i64 x.kind, .int .i64 x.id, .slice a2 x.vec.length d2, .int .i64 x.session, .int .i64 x.seq] 27)) := (Below.refl _ _).alloc (Nat.le_refl _) _
  have HA : Hid (Box 0 #[.int .i64 x.kind, .int .i64 x.id, .slice a2 x.vec.length d2, .int .i64 x.session, .int .i64 x.seq] 27 (w1.alloc (.cells #[.int .i64 x.kind, .int .i64 x.id, .slice a2 x.vec.length d2, .int .i64 x.session, .int .i64 x.seq] 27)) w1.heap.size) := newBox (Nat.zero_le _)
  have HV := hide (hV.later nb)
  have HX := hide (hX.later nb)
  have HE := hide ((hE.later hb1).later nb)
  have HB := hide (hb1.trans (nb.mono hb1.size))
  clear nb hV hX hE hb1 hcode R2
  go_upto_region 4 with fail
  generalize w1.alloc (.cells #[.int .i64 x.kind, .int .i64 x.id, .slice a2 x.vec.length d2, .int .i64 x.session, .int .i64 x.seq] 27) = W1 at *
  generalize w1.heap.size = pA at *
  have x0 : W1.cell? ⟨pA, 0, none⟩ = some (.int .i64 x.kind) := (unhide HA).at 0 _ rfl
  have x1 : W1.cell? ⟨pA, 1, none⟩ = some (.int .i64 x.id) := (unhide HA).at 1 _ rfl
  have x2 : W1.cell? ⟨pA, 2, none⟩ = some (.slice a2 x.vec.length d2) := (unhide HA).at 2 _ rfl
  have x3 : W1.cell? ⟨pA, 3, none⟩ = some (.int .i64 x.session) := (unhide HA).at 3 _ rfl
  have x4 : W1.cell? ⟨pA, 4, none⟩ = some (.int .i64 x.seq) := (unhide HA).at 4 _ rfl
  go_wp2_with fail
  clear x0 x1 x2 x3 x4
  refine (implApp _ ws _ x _ (unhide HE) (unhide HV) (unhide HX)).mono ?_
  rintro e w2 ⟨cs, rfl, hO, hb⟩
  have hR := hO.reads
  clear hO
  have HON : Hid ((appR ws x).code = 0 → Once ws x (appR ws x)) := once_ok
  have HSP : Hid (∀ W, Below w2.heap.size w2 W → Calls Tryd.prog 8 #[.slice av ws.length cv, .agg #[.int .i64 x.kind, .int .i64 x.id, .slice a2 x.vec.length d2, .int .i64 x.session, .int .i64 x.seq]] W fun e w' => ∃ cs, e = .returned (.agg cs.toArray) ∧ Lay.tOnceResult.LiesIn w' cs (appR ws x) W.heap.size w'.heap.size ∧ Below W.heap.size W w') := fun W hW => specApp _ ws [.int .i64 x.kind, .int .i64 x.id, .slice a2 x.vec.length d2, .int .i64 x.session, .int .i64 x.seq] x W (((unhide HV).later hb).later hW) (((unhide HX).later hb).later hW)
  generalize hy : appR ws x = y at *
  clear hy
  obtain ⟨a3, d3, rfl, hRw⟩ := open_OnceResult hR
  have HY := hide hRw
  replace HV := hide ((unhide HV).later hb)
  replace HX := hide ((unhide HX).later hb)
  replace HE := hide ((unhide HE).later hb)
  replace HA := hide ((unhide HA).keep hb)
  replace HB := hide ((unhide HB).trans (hb.mono (unhide HB).size))
  clear hb hR hRw
  have nb : Below w2.heap.size w2 (w2.alloc (.cells #[.int .i64 y.code, .bool y.isNew, .int .i64 y.place, .slice a3 y.writes.length d3] 31)) := (Below.refl _ _).alloc (Nat.le_refl _) _
  have HW2 := hide nb
  have HBx : Hid (Box 0 #[.int .i64 y.code, .bool y.isNew, .int .i64 y.place, .slice a3 y.writes.length d3] 31 (w2.alloc (.cells #[.int .i64 y.code, .bool y.isNew, .int .i64 y.place, .slice a3 y.writes.length d3] 31)) w2.heap.size) := newBox (Nat.zero_le _)
  replace HV := hide ((unhide HV).later nb)
  replace HX := hide ((unhide HX).later nb)
  replace HE := hide ((unhide HE).later nb)
  replace HA := hide ((unhide HA).keep nb)
  replace HY := hide ((unhide HY).later nb)
  replace HB := hide ((unhide HB).trans (nb.mono (unhide HB).size))
  clear nb
  go_upto_region 5 with fail
  generalize w2.alloc (.cells #[.int .i64 y.code, .bool y.isNew, .int .i64 y.place, .slice a3 y.writes.length d3] 31) = W2 at *
  generalize w2.heap.size = pB at *
  have b0 : W2.cell? ⟨pB, 0, none⟩ = some (.int .i64 y.code) := (unhide HBx).at 0 _ rfl
  have b1 : W2.cell? ⟨pB, 1, none⟩ = some (.bool y.isNew) := (unhide HBx).at 1 _ rfl
  have b2 : W2.cell? ⟨pB, 2, none⟩ = some (.int .i64 y.place) := (unhide HBx).at 2 _ rfl
  have b3 : W2.cell? ⟨pB, 3, none⟩ = some (.slice a3 y.writes.length d3) := (unhide HBx).at 3 _ rfl
  by_cases hc : y.code = 0
  · have hO := unhide HON hc
    obtain ⟨nl, hlast, hlq⟩ := hO.last
    obtain ⟨ol, hof, hol⟩ := hO.of
    have HON2 := hide hO
    have hag := hO.again
    have hse := hO.seen
    have hfw := hO.few
    clear hO HON HSP HW2
    have x0 : W2.cell? ⟨pA, 0, none⟩ = some (.int .i64 x.kind) := (unhide HA).at 0 _ rfl
    have x1 : W2.cell? ⟨pA, 1, none⟩ = some (.int .i64 x.id) := (unhide HA).at 1 _ rfl
    have x2 : W2.cell? ⟨pA, 2, none⟩ = some (.slice a2 x.vec.length d2) := (unhide HA).at 2 _ rfl
    have x3 : W2.cell? ⟨pA, 3, none⟩ = some (.int .i64 x.session) := (unhide HA).at 3 _ rfl
    have x4 : W2.cell? ⟨pA, 4, none⟩ = some (.int .i64 x.seq) := (unhide HA).at 4 _ rfl
    have HC1 := hide (implApp _ y.writes _ x W2 (unhide HE) (unhide HY) (unhide HX))
    rw [hag] at HC1
    rw [hc] at b0
    clear hag
    go_wp2_with fail
    clear x0 x1 x2 x3 x4 b0 b1 b2 b3
    refine (unhide HC1).mono ?_
    rintro e w3 ⟨cs, rfl, hO, hb⟩
    obtain ⟨a4, d4, rfl, hR4⟩ := open_OnceResult hO.reads
    have HY2 : Hid ((Lay.sl Lay.tWrite).Reads w3 [.slice a4 y.writes.length d4] y.writes) := hR4
    replace HV := hide ((unhide HV).later hb)
    replace HX := hide ((unhide HX).later hb)
    replace HE := hide ((unhide HE).later hb)
    replace HA := hide ((unhide HA).keep hb)
    replace HY := hide ((unhide HY).later hb)
    replace HBx := hide ((unhide HBx).keep hb)
    replace HB := hide ((unhide HB).trans (hb.mono (unhide HB).size))
    clear hb hO hR4 HC1
    have nb : Below w3.heap.size w3 (w3.alloc (.cells #[.int .i64 0, .bool false, .int .i64 y.place, .slice a4 y.writes.length d4] 31)) := (Below.refl _ _).alloc (Nat.le_refl _) _
    have HCx : Hid (Box 0 #[.int .i64 0, .bool false, .int .i64 y.place, .slice a4 y.writes.length d4] 31 (w3.alloc (.cells #[.int .i64 0, .bool false, .int .i64 y.place, .slice a4 y.writes.length d4] 31)) w3.heap.size) := newBox (Nat.zero_le _)
    replace HV := hide ((unhide HV).later nb)
    replace HX := hide ((unhide HX).later nb)
    replace HE := hide ((unhide HE).later nb)
    replace HA := hide ((unhide HA).keep nb)
    replace HY := hide ((unhide HY).later nb)
    replace HBx := hide ((unhide HBx).keep nb)
    replace HY2 := hide ((unhide HY2).later nb)
    replace HB := hide ((unhide HB).trans (nb.mono (unhide HB).size))
    clear nb
    go_upto_region 8 with fail
    generalize w3.alloc (.cells #[.int .i64 0, .bool false, .int .i64 y.place, .slice a4 y.writes.length d4] 31) = W3 at *
    generalize w3.heap.size = pC at *
    have x0 : W3.cell? ⟨pA, 0, none⟩ = some (.int .i64 x.kind) := (unhide HA).at 0 _ rfl
    have x1 : W3.cell? ⟨pA, 1, none⟩ = some (.int .i64 x.id) := (unhide HA).at 1 _ rfl
    have x2 : W3.cell? ⟨pA, 2, none⟩ = some (.slice a2 x.vec.length d2) := (unhide HA).at 2 _ rfl
    have x3 : W3.cell? ⟨pA, 3, none⟩ = some (.int .i64 x.session) := (unhide HA).at 3 _ rfl
    have x4 : W3.cell? ⟨pA, 4, none⟩ = some (.int .i64 x.seq) := (unhide HA).at 4 _ rfl
    have b0 : W3.cell? ⟨pB, 0, none⟩ = some (.int .i64 y.code) := (unhide HBx).at 0 _ rfl
    have b1 : W3.cell? ⟨pB, 1, none⟩ = some (.bool y.isNew) := (unhide HBx).at 1 _ rfl
    have b2 : W3.cell? ⟨pB, 2, none⟩ = some (.int .i64 y.place) := (unhide HBx).at 2 _ rfl
    have b3 : W3.cell? ⟨pB, 3, none⟩ = some (.slice a3 y.writes.length d3) := (unhide HBx).at 3 _ rfl
    have HC2 := hide (implSeenAt _ y.writes x.session x.seq W3 (unhide HY))
    rw [hse] at HC2
    clear hse
    go_wp2_with fail
    clear x0 x1 x2 x3 x4 b0 b1 b2 b3
    refine (unhide HC2).mono ?_
    rintro e w4 ⟨cs, rfl, hO, hb⟩
    obtain ⟨bl4, hl4⟩ := hO.reads
    obtain ⟨rfl, -, -, -⟩ := lies_IntResult.1 hl4
    replace HV := hide ((unhide HV).later hb)
    replace HX := hide ((unhide HX).later hb)
    replace HE := hide ((unhide HE).later hb)
    replace HA := hide ((unhide HA).keep hb)
    replace HY := hide ((unhide HY).later hb)
    replace HBx := hide ((unhide HBx).keep hb)
    replace HY2 := hide ((unhide HY2).later hb)
    replace HCx := hide ((unhide HCx).keep hb)
    replace HB := hide ((unhide HB).trans (hb.mono (unhide HB).size))
    clear hb hO hl4 HC2
    have nb : Below w4.heap.size w4 (w4.alloc (.cells #[.int .i64 0, .int .i64 y.place] 34)) := (Below.refl _ _).alloc (Nat.le_refl _) _
    have HDx : Hid (Box 0 #[.int .i64 0, .int .i64 y.place] 34 (w4.alloc (.cells #[.int .i64 0, .int .i64 y.place] 34)) w4.heap.size) := newBox (Nat.zero_le _)
    replace HV := hide ((unhide HV).later nb)
    replace HX := hide ((unhide HX).later nb)
    replace HE := hide ((unhide HE).later nb)
    replace HA := hide ((unhide HA).keep nb)
    replace HY := hide ((unhide HY).later nb)
    replace HBx := hide ((unhide HBx).keep nb)
    replace HY2 := hide ((unhide HY2).later nb)
    replace HCx := hide ((unhide HCx).keep nb)
    replace HB := hide ((unhide HB).trans (nb.mono (unhide HB).size))
    clear nb
    go_upto_region 9 with fail
    generalize w4.alloc (.cells #[.int .i64 0, .int .i64 y.place] 34) = W4 at *
    generalize w4.heap.size = pD at *
    have x0 : W4.cell? ⟨pA, 0, none⟩ = some (.int .i64 x.kind) := (unhide HA).at 0 _ rfl
    have x1 : W4.cell? ⟨pA, 1, none⟩ = some (.int .i64 x.id) := (unhide HA).at 1 _ rfl
    have x2 : W4.cell? ⟨pA, 2, none⟩ = some (.slice a2 x.vec.length d2) := (unhide HA).at 2 _ rfl
    have x3 : W4.cell? ⟨pA, 3, none⟩ = some (.int .i64 x.session) := (unhide HA).at 3 _ rfl
    have x4 : W4.cell? ⟨pA, 4, none⟩ = some (.int .i64 x.seq) := (unhide HA).at 4 _ rfl
    have b0 : W4.cell? ⟨pB, 0, none⟩ = some (.int .i64 y.code) := (unhide HBx).at 0 _ rfl
    have b1 : W4.cell? ⟨pB, 1, none⟩ = some (.bool y.isNew) := (unhide HBx).at 1 _ rfl
    have b2 : W4.cell? ⟨pB, 2, none⟩ = some (.int .i64 y.place) := (unhide HBx).at 2 _ rfl
    have b3 : W4.cell? ⟨pB, 3, none⟩ = some (.slice a3 y.writes.length d3) := (unhide HBx).at 3 _ rfl
    have HC3 := hide (implLast _ y.writes x.session W4 (unhide HY))
    rw [hlast] at HC3
    clear hlast
    go_wp2_with fail
    clear x0 x1 x2 x3 x4 b0 b1 b2 b3
    refine (unhide HC3).mono ?_
    rintro e w5 ⟨cs, rfl, hO, hb⟩
    obtain ⟨bl4, hl4⟩ := hO.reads
    obtain ⟨rfl, -, -, -⟩ := lies_IntResult.1 hl4
    replace HV := hide ((unhide HV).later hb)
    replace HX := hide ((unhide HX).later hb)
    replace HE := hide ((unhide HE).later hb)
    replace HA := hide ((unhide HA).keep hb)
    replace HY := hide ((unhide HY).later hb)
    replace HBx := hide ((unhide HBx).keep hb)
    replace HY2 := hide ((unhide HY2).later hb)
    replace HCx := hide ((unhide HCx).keep hb)
    replace HDx := hide ((unhide HDx).keep hb)
    replace HB := hide ((unhide HB).trans (hb.mono (unhide HB).size))
    clear hb hO hl4 HC3
    have nb : Below w5.heap.size w5 (w5.alloc (.cells #[.int .i64 0, .int .i64 nl] 34)) := (Below.refl _ _).alloc (Nat.le_refl _) _
    have HEx : Hid (Box 0 #[.int .i64 0, .int .i64 nl] 34 (w5.alloc (.cells #[.int .i64 0, .int .i64 nl] 34)) w5.heap.size) := newBox (Nat.zero_le _)
    replace HV := hide ((unhide HV).later nb)
    replace HX := hide ((unhide HX).later nb)
    replace HE := hide ((unhide HE).later nb)
    replace HA := hide ((unhide HA).keep nb)
    replace HY := hide ((unhide HY).later nb)
    replace HBx := hide ((unhide HBx).keep nb)
    replace HY2 := hide ((unhide HY2).later nb)
    replace HCx := hide ((unhide HCx).keep nb)
    replace HDx := hide ((unhide HDx).keep nb)
    replace HB := hide ((unhide HB).trans (nb.mono (unhide HB).size))
    clear nb
    go_upto_region 10 with fail
    generalize w5.alloc (.cells #[.int .i64 0, .int .i64 nl] 34) = W5 at *
    generalize w5.heap.size = pE at *
    have x0 : W5.cell? ⟨pA, 0, none⟩ = some (.int .i64 x.kind) := (unhide HA).at 0 _ rfl
    have x1 : W5.cell? ⟨pA, 1, none⟩ = some (.int .i64 x.id) := (unhide HA).at 1 _ rfl
    have x2 : W5.cell? ⟨pA, 2, none⟩ = some (.slice a2 x.vec.length d2) := (unhide HA).at 2 _ rfl
    have x3 : W5.cell? ⟨pA, 3, none⟩ = some (.int .i64 x.session) := (unhide HA).at 3 _ rfl
    have x4 : W5.cell? ⟨pA, 4, none⟩ = some (.int .i64 x.seq) := (unhide HA).at 4 _ rfl
    have b0 : W5.cell? ⟨pB, 0, none⟩ = some (.int .i64 y.code) := (unhide HBx).at 0 _ rfl
    have b1 : W5.cell? ⟨pB, 1, none⟩ = some (.bool y.isNew) := (unhide HBx).at 1 _ rfl
    have b2 : W5.cell? ⟨pB, 2, none⟩ = some (.int .i64 y.place) := (unhide HBx).at 2 _ rfl
    have b3 : W5.cell? ⟨pB, 3, none⟩ = some (.slice a3 y.writes.length d3) := (unhide HBx).at 3 _ rfl
    have HC4 := hide (implOf _ y.writes x.session W5 (unhide HY))
    rw [hof] at HC4
    clear hof
    go_wp2_with fail
    clear x0 x1 x2 x3 x4 b0 b1 b2 b3
    refine (unhide HC4).mono ?_
    rintro e w6 ⟨cs, rfl, hO, hb⟩
    obtain ⟨a6, d6, rfl, -⟩ := open_WritesResult hO.reads
    replace HV := hide ((unhide HV).later hb)
    replace HX := hide ((unhide HX).later hb)
    replace HE := hide ((unhide HE).later hb)
    replace HA := hide ((unhide HA).keep hb)
    replace HY := hide ((unhide HY).later hb)
    replace HBx := hide ((unhide HBx).keep hb)
    replace HY2 := hide ((unhide HY2).later hb)
    replace HCx := hide ((unhide HCx).keep hb)
    replace HDx := hide ((unhide HDx).keep hb)
    replace HEx := hide ((unhide HEx).keep hb)
    replace HB := hide ((unhide HB).trans (hb.mono (unhide HB).size))
    clear hb hO HC4
    have HK1 := HY
    have HK2 := HY2
    have nb : Below w6.heap.size w6 (w6.alloc (.cells #[.int .i64 0, .slice a6 ol.length d6] 38)) := (Below.refl _ _).alloc (Nat.le_refl _) _
    have HFx : Hid (Box 0 #[.int .i64 0, .slice a6 ol.length d6] 38 (w6.alloc (.cells #[.int .i64 0, .slice a6 ol.length d6] 38)) w6.heap.size) := newBox (Nat.zero_le _)
    replace HV := hide ((unhide HV).later nb)
    replace HX := hide ((unhide HX).later nb)
    replace HE := hide ((unhide HE).later nb)
    replace HA := hide ((unhide HA).keep nb)
    replace HY := hide ((unhide HY).later nb)
    replace HBx := hide ((unhide HBx).keep nb)
    replace HY2 := hide ((unhide HY2).later nb)
    replace HCx := hide ((unhide HCx).keep nb)
    replace HDx := hide ((unhide HDx).keep nb)
    replace HEx := hide ((unhide HEx).keep nb)
    replace HB := hide ((unhide HB).trans (nb.mono (unhide HB).size))
    have HW6 := hide nb
    clear nb
    have b2 : (w6.alloc (.cells #[.int .i64 0, .slice a6 ol.length d6] 38)).cell? ⟨pB, 2, none⟩ = some (.int .i64 y.place) := (unhide HBx).at 2 _ rfl
    have b3 : (w6.alloc (.cells #[.int .i64 0, .slice a6 ol.length d6] 38)).cell? ⟨pB, 3, none⟩ = some (.slice a3 y.writes.length d3) := (unhide HBx).at 3 _ rfl
    have c0 : (w6.alloc (.cells #[.int .i64 0, .slice a6 ol.length d6] 38)).cell? ⟨pC, 0, none⟩ = some (.int .i64 0) := (unhide HCx).at 0 _ rfl
    have c1 : (w6.alloc (.cells #[.int .i64 0, .slice a6 ol.length d6] 38)).cell? ⟨pC, 1, none⟩ = some (.bool false) := (unhide HCx).at 1 _ rfl
    have c2 : (w6.alloc (.cells #[.int .i64 0, .slice a6 ol.length d6] 38)).cell? ⟨pC, 2, none⟩ = some (.int .i64 y.place) := (unhide HCx).at 2 _ rfl
    have c3 : (w6.alloc (.cells #[.int .i64 0, .slice a6 ol.length d6] 38)).cell? ⟨pC, 3, none⟩ = some (.slice a4 y.writes.length d4) := (unhide HCx).at 3 _ rfl
    have g1 : (y.place == y.place) = true := by simp
    have g2 : decide (x.seq ≤ nl) = true := by simpa using hlq
    have g3 : decide ((0 : Int) < (ol.length : Int)) = true := decide_eq_true (by omega)
    have HSM : Hid (∀ W, Below w6.heap.size w6 W → Calls Tryd.prog 12 #[.slice a4 y.writes.length d4, .slice a3 y.writes.length d3] W fun e w' => e = .returned (.bool true) ∧ Below W.heap.size W w') := fun W hW => by
      have := implSame _ _ y.writes y.writes W ((unhide HK2).later hW) ((unhide HK1).later hW)
      rwa [same_self] at this
    go_wp2_with fail
    clear c0 c1 c2 c3 b2 b3
    by_cases hnew : y.isNew = true
    · obtain ⟨hl1, hpl⟩ := (unhide HON2).new1 hnew
      refine (unhide HSM _ (unhide HW6)).mono ?_
      rintro e w7 ⟨rfl, hb⟩
      replace HV := hide ((unhide HV).later hb)
      replace HX := hide ((unhide HX).later hb)
      replace HE := hide ((unhide HE).later hb)
      replace HA := hide ((unhide HA).keep hb)
      replace HY := hide ((unhide HY).later hb)
      replace HBx := hide ((unhide HBx).keep hb)
      replace HY2 := hide ((unhide HY2).later hb)
      replace HCx := hide ((unhide HCx).keep hb)
      replace HDx := hide ((unhide HDx).keep hb)
      replace HEx := hide ((unhide HEx).keep hb)
      replace HFx := hide ((unhide HFx).keep hb)
      replace HB := hide ((unhide HB).trans (hb.mono (unhide HB).size))
      clear hb HSM
      have x4 : w7.cell? ⟨pA, 4, none⟩ = some (.int .i64 x.seq) := (unhide HA).at 4 _ rfl
      have b1 : w7.cell? ⟨pB, 1, none⟩ = some (.bool y.isNew) := (unhide HBx).at 1 _ rfl
      have b2 : w7.cell? ⟨pB, 2, none⟩ = some (.int .i64 y.place) := (unhide HBx).at 2 _ rfl
      have b3 : w7.cell? ⟨pB, 3, none⟩ = some (.slice a3 y.writes.length d3) := (unhide HBx).at 3 _ rfl
      have dd0 : w7.cell? ⟨pD, 0, none⟩ = some (.int .i64 0) := (unhide HDx).at 0 _ rfl
      have dd1 : w7.cell? ⟨pD, 1, none⟩ = some (.int .i64 y.place) := (unhide HDx).at 1 _ rfl
      have ee1 : w7.cell? ⟨pE, 1, none⟩ = some (.int .i64 nl) := (unhide HEx).at 1 _ rfl
      rw [hnew] at b1
      have g4 : ((y.writes.length : Int) == IntKind.i64.wrap ((ws.length : Int) + 1)) = true := by rw [hl1, show IntKind.i64.wrap ((ws.length : Int) + 1) = (ws.length : Int) + 1 by rw [IntKind.wrap_i64]; omega]; simp
      have g4b : ((y.writes.length : Int) == (ws.length : Int) + 1) = true := by rw [hl1]; simp
      have g4c : IntKind.i64.wrap ((ws.length : Int) + 1) = (ws.length : Int) + 1 := by rw [IntKind.wrap_i64]; omega
      have g5 : (y.place == (y.writes.length : Int)) = true := by rw [hpl]; simp
      clear hl1 hpl g4
      have HO1 := hide (implOnce _ y.writes w7 (unhide HY))
      have HO2 : Hid (∀ W, Below w7.heap.size w7 W → Calls Tryd.prog 13 #[.slice av ws.length cv] W fun e w' => e = .returned (.bool (onceR ws)) ∧ Below W.heap.size W w') := fun W hW => implOnce _ ws W ((unhide HV).later hW)
      rw [(unhide HON2).right] at HO1
      generalize onceR ws = br at *
      clear HX HE HA HY HBx HY2 HCx HDx HEx HON2
      go_wp2_with fail
      clear dd0 dd1 ee1 x4 b1 b2 b3
      refine (unhide HO1).mono ?_
      rintro e w8 ⟨rfl, hb⟩
      have HB8 := hide hb
      replace HV := hide ((unhide HV).later hb)
      replace HFx := hide ((unhide HFx).keep hb)
      replace HB := hide ((unhide HB).trans (hb.mono (unhide HB).size))
      clear hb HO1
      go_wp2_with fail
      refine (unhide HO2 _ (unhide HB8)).mono ?_
      rintro e w9 ⟨rfl, hb⟩
      replace HV := hide ((unhide HV).later hb)
      replace HFx := hide ((unhide HFx).keep hb)
      replace HB := hide ((unhide HB).trans (hb.mono (unhide HB).size))
      clear hb HO2
      have ff1 : w9.cell? ⟨w6.heap.size, 1, none⟩ = some (.slice a6 ol.length d6) := (unhide HFx).at 1 _ rfl
      have g6 : (br == br) = true := by simp
      go_wp2_with fail
      go_ret
      exact ⟨by simp, unhide HB⟩
    · have hnew' : y.isNew = false := by simpa using hnew
      have hl0 := (unhide HON2).new0 hnew'
      refine (unhide HSM _ (unhide HW6)).mono ?_
      rintro e w7 ⟨rfl, hb⟩
      replace HV := hide ((unhide HV).later hb)
      replace HX := hide ((unhide HX).later hb)
      replace HE := hide ((unhide HE).later hb)
      replace HA := hide ((unhide HA).keep hb)
      replace HY := hide ((unhide HY).later hb)
      replace HBx := hide ((unhide HBx).keep hb)
      replace HY2 := hide ((unhide HY2).later hb)
      replace HCx := hide ((unhide HCx).keep hb)
      replace HDx := hide ((unhide HDx).keep hb)
      replace HEx := hide ((unhide HEx).keep hb)
      replace HFx := hide ((unhide HFx).keep hb)
      replace HB := hide ((unhide HB).trans (hb.mono (unhide HB).size))
      clear hb HSM
      generalize y.writes.length = L9 at *
      subst hl0
      have x4 : w7.cell? ⟨pA, 4, none⟩ = some (.int .i64 x.seq) := (unhide HA).at 4 _ rfl
      have b1 : w7.cell? ⟨pB, 1, none⟩ = some (.bool y.isNew) := (unhide HBx).at 1 _ rfl
      have b2 : w7.cell? ⟨pB, 2, none⟩ = some (.int .i64 y.place) := (unhide HBx).at 2 _ rfl
      have b3 : w7.cell? ⟨pB, 3, none⟩ = some (.slice a3 ws.length d3) := (unhide HBx).at 3 _ rfl
      have dd0 : w7.cell? ⟨pD, 0, none⟩ = some (.int .i64 0) := (unhide HDx).at 0 _ rfl
      have dd1 : w7.cell? ⟨pD, 1, none⟩ = some (.int .i64 y.place) := (unhide HDx).at 1 _ rfl
      have ee1 : w7.cell? ⟨pE, 1, none⟩ = some (.int .i64 nl) := (unhide HEx).at 1 _ rfl
      rw [hnew'] at b1
      have g4 : ((ws.length : Int) == (ws.length : Int)) = true := by simp
      have HO1 := hide (implOnce _ y.writes w7 (unhide HY))
      have HO2 : Hid (∀ W, Below w7.heap.size w7 W → Calls Tryd.prog 13 #[.slice av ws.length cv] W fun e w' => e = .returned (.bool (onceR ws)) ∧ Below W.heap.size W w') := fun W hW => implOnce _ ws W ((unhide HV).later hW)
      rw [(unhide HON2).right] at HO1
      generalize onceR ws = br at *
      clear HX HE HA HY HBx HY2 HCx HDx HEx HON2
      go_wp2_with fail
      all_goals try (exfalso; have hA : ∃ b, some undef = some (Value.bool b) := ⟨_, by assumption⟩; obtain ⟨b, hA⟩ := hA; first | (simp [undef] at hA; done) | (simp at hA; done) | (cases hA; done) | (injection hA with hA; cases hA; done))
      clear dd0 dd1 ee1 x4 b1 b2 b3
      refine (unhide HO1).mono ?_
      rintro e w8 ⟨rfl, hb⟩
      have HB8 := hide hb
      replace HV := hide ((unhide HV).later hb)
      replace HFx := hide ((unhide HFx).keep hb)
      replace HB := hide ((unhide HB).trans (hb.mono (unhide HB).size))
      clear hb HO1
      go_wp2_with fail
      refine (unhide HO2 _ (unhide HB8)).mono ?_
      rintro e w9 ⟨rfl, hb⟩
      replace HV := hide ((unhide HV).later hb)
      replace HFx := hide ((unhide HFx).keep hb)
      replace HB := hide ((unhide HB).trans (hb.mono (unhide HB).size))
      clear hb HO2
      have ff1 : w9.cell? ⟨w6.heap.size, 1, none⟩ = some (.slice a6 ol.length d6) := (unhide HFx).at 1 _ rfl
      have g6 : (br == br) = true := by simp
      go_wp2_with fail
      go_ret
      exact ⟨by simp, unhide HB⟩
  · have hd : (y.code != 0) = true := by simpa using hc
    go_wp2_with fail
    have HSQ : Hid (∀ W, Below W2.heap.size W2 W → Calls Tryd.prog 8 #[.slice av ws.length cv, .agg #[.int .i64 x.kind, .int .i64 x.id, .slice a2 x.vec.length d2, .int .i64 x.session, .int .i64 x.seq]] W fun e w' => ∃ (a : Option Addr) (n c : Nat), e = .returned (.agg #[.int .i64 y.code, .bool y.isNew, .int .i64 y.place, .slice a n c]) ∧ Below W.heap.size W w') := fun W hW => by
      refine (unhide HSP W ((unhide HW2).trans (hW.mono (Nat.le_of_lt (unhide HBx).lt)))).mono ?_
      rintro e w' ⟨cs, rfl, hL, hb⟩
      obtain ⟨a9, d9, rfl, -⟩ := open_OnceResult hL.reads
      exact ⟨_, _, _, rfl, hb⟩
    refine wp_region_noPanic ?_
    refine wp_region_held_drew (S := fun w' => Below W2.heap.size W2 w') (by kernel_rfl) (Below.refl _ _).drew (fun hHeld => ?_)
    refine wpAnyH_take (i := 0) (oi := { dst := some 23, op := Go.Op.move (Go.Operand.tmp 3), type := 24, pos := "laws.go:258", after := #[], guard := none }) (v := ?vs0) rfl (by kernel_rfl) (by kernel_rfl) (by kernel_rfl) (fun _ _ _ h => h) (Or.inl ⟨by rfl, ?hs0⟩) hHeld ?rs0
    case hs0 =>
      intro wS hSw
      (try dsimp only at hSw)
      go_simp
      try with_reducible rfl
    case rs0 =>
    simp only [Act.put, List.setIfInBounds_toArray, List.set_cons_zero, List.set_cons_succ]
    refine wpAnyH_take (i := 1) (oi := { dst := some 24, op := Go.Op.load 27 (Go.Operand.tmp 4), type := 27, pos := "laws.go:258", after := #[], guard := none }) (v := ?vs1) rfl (by kernel_rfl) (by kernel_rfl) (by kernel_rfl) (fun _ _ _ h => h) (Or.inl ⟨by rfl, ?hs1⟩) hHeld ?rs1
    case hs1 =>
      intro wS hSw
      have x0 : wS.cell? ⟨pA, 0, none⟩ = some (.int .i64 x.kind) := ((unhide HA).keep hSw).at 0 _ rfl
      have x1 : wS.cell? ⟨pA, 1, none⟩ = some (.int .i64 x.id) := ((unhide HA).keep hSw).at 1 _ rfl
      have x2 : wS.cell? ⟨pA, 2, none⟩ = some (.slice a2 x.vec.length d2) := ((unhide HA).keep hSw).at 2 _ rfl
      have x3 : wS.cell? ⟨pA, 3, none⟩ = some (.int .i64 x.session) := ((unhide HA).keep hSw).at 3 _ rfl
      have x4 : wS.cell? ⟨pA, 4, none⟩ = some (.int .i64 x.seq) := ((unhide HA).keep hSw).at 4 _ rfl
      have b0 : wS.cell? ⟨pB, 0, none⟩ = some (.int .i64 y.code) := ((unhide HBx).keep hSw).at 0 _ rfl
      clear hSw
      (try dsimp only at hSw)
      go_simp
      try with_reducible rfl
    case rs1 =>
    simp only [Act.put, List.setIfInBounds_toArray, List.set_cons_zero, List.set_cons_succ]
    refine wpAnyH_take (i := 4) (oi := { dst := some 27, op := Go.Op.fieldAddr 31 (Go.Operand.tmp 5) 0, type := 0, pos := "laws.go:258", after := #[], guard := none }) (v := ?vs4) rfl (by kernel_rfl) (by kernel_rfl) (by kernel_rfl) (fun _ _ _ h => h) (Or.inl ⟨by rfl, ?hs4⟩) hHeld ?rs4
    case hs4 =>
      intro wS hSw
      (try dsimp only at hSw)
      go_simp
      try with_reducible rfl
    case rs4 =>
    simp only [Act.put, List.setIfInBounds_toArray, List.set_cons_zero, List.set_cons_succ]
    refine wpAnyH_take (i := 5) (oi := { dst := some 28, op := Go.Op.load 2 (Go.Operand.tmp 27), type := 2, pos := "laws.go:258", after := #[{ on := 4, ground := Go.Ground.data }], guard := none }) (v := ?vs5) rfl (by kernel_rfl) (by kernel_rfl) (by kernel_rfl) (fun _ _ _ h => h) (Or.inl ⟨by rfl, ?hs5⟩) hHeld ?rs5
    case hs5 =>
      intro wS hSw
      have x0 : wS.cell? ⟨pA, 0, none⟩ = some (.int .i64 x.kind) := ((unhide HA).keep hSw).at 0 _ rfl
      have x1 : wS.cell? ⟨pA, 1, none⟩ = some (.int .i64 x.id) := ((unhide HA).keep hSw).at 1 _ rfl
      have x2 : wS.cell? ⟨pA, 2, none⟩ = some (.slice a2 x.vec.length d2) := ((unhide HA).keep hSw).at 2 _ rfl
      have x3 : wS.cell? ⟨pA, 3, none⟩ = some (.int .i64 x.session) := ((unhide HA).keep hSw).at 3 _ rfl
      have x4 : wS.cell? ⟨pA, 4, none⟩ = some (.int .i64 x.seq) := ((unhide HA).keep hSw).at 4 _ rfl
      have b0 : wS.cell? ⟨pB, 0, none⟩ = some (.int .i64 y.code) := ((unhide HBx).keep hSw).at 0 _ rfl
      clear hSw
      (try dsimp only at hSw)
      go_simp
      try with_reducible rfl
    case rs5 =>
    simp only [Act.put, List.setIfInBounds_toArray, List.set_cons_zero, List.set_cons_succ]
    refine wpAnyH_ready (rs := [2]) (by kernel_rfl) (by simp) ?_
    refine AllReadyH.cons (o := { dst := some 25, op := Go.Op.call { callee := Go.Callee.value (Go.Operand.func 8), args := #[Go.Operand.tmp 23, Go.Operand.tmp 24], argTypes := #[24, 27] }, type := 31, pos := "laws.go:258", after := #[{ on := 0, ground := Go.Ground.data }, { on := 1, ground := Go.Ground.data }], guard := none }) rfl (fun K hK => ?_) AllReadyH.nil
    go_simp
    go_at_call 8
    refine (unhide HSQ _ hHeld).mono ?_
    rintro e w9 ⟨a9, n9, c9, rfl, hb9⟩
    try go_wp2_with fail
    refine hK.out _ _ (hHeld.trans (hb9.mono hHeld.size)) (fun hHeld => ?_)
    clear hK K
    try simp only [Act.put, List.setIfInBounds_toArray, List.set_cons_zero, List.set_cons_succ]
    refine wpAnyH_take (i := 3) (oi := { dst := some 26, op := Go.Op.field 31 (Go.Operand.tmp 25) 0, type := 2, pos := "laws.go:258", after := #[{ on := 2, ground := Go.Ground.data }], guard := none }) (v := ?vs3) rfl (by kernel_rfl) (by kernel_rfl) (by kernel_rfl) (fun _ _ _ h => h) (Or.inl ⟨by rfl, ?hs3⟩) hHeld ?rs3
    case hs3 =>
      intro wS hSw
      have hf0 := fieldOR0
      clear hSw
      (try dsimp only at hSw)
      go_simp
      try with_reducible rfl
    case rs3 =>
    simp only [Act.put, List.setIfInBounds_toArray, List.set_cons_zero, List.set_cons_succ]
    refine wpAnyH_take (i := 6) (oi := { dst := some 29, op := Go.Op.binOp Go.BinOp.eql 2 (Go.Operand.tmp 26) (Go.Operand.tmp 28) 2, type := 4, pos := "laws.go:258", after := #[{ on := 3, ground := Go.Ground.data }, { on := 5, ground := Go.Ground.data }], guard := none }) (v := ?vs6) rfl (by kernel_rfl) (by kernel_rfl) (by kernel_rfl) (fun _ _ _ h => h) (Or.inl ⟨by rfl, ?hs6⟩) hHeld ?rs6
    case hs6 =>
      intro wS hSw
      (try dsimp only at hSw)
      go_simp
      try with_reducible rfl
    case rs6 =>
    simp only [Act.put, List.setIfInBounds_toArray, List.set_cons_zero, List.set_cons_succ]
    refine wpAnyH_take (i := 7) (oi := { dst := some 2, op := Go.Op.assign (Go.Operand.tmp 29), type := 4, pos := "laws.go:258", after := #[{ on := 6, ground := Go.Ground.data }, { on := 2, ground := Go.Ground.chain }, { on := 0, ground := Go.Ground.phase }, { on := 1, ground := Go.Ground.phase }, { on := 2, ground := Go.Ground.phase }, { on := 3, ground := Go.Ground.phase }, { on := 4, ground := Go.Ground.phase }, { on := 5, ground := Go.Ground.phase }, { on := 6, ground := Go.Ground.phase }], guard := none }) (v := ?vs7) rfl (by kernel_rfl) (by kernel_rfl) (by kernel_rfl) (fun _ _ _ h => h) (Or.inl ⟨by rfl, ?hs7⟩) hHeld ?rs7
    case hs7 =>
      intro wS hSw
      (try dsimp only at hSw)
      go_simp
      try with_reducible rfl
    case rs7 =>
    simp only [Act.put, List.setIfInBounds_toArray, List.set_cons_zero, List.set_cons_succ]
    refine wpAnyH_done (by kernel_rfl) ?_ _
    refine NoPanic.normal ?_
    have HB9 := hide ((unhide HB).trans (hHeld.mono (unhide HB).size))
    have hee : (y.code == y.code) = true := by simp
    clear hHeld
    go_wp2_with fail
    go_ret
    exact ⟨by simp, unhide HB9⟩

end Go.Proofs.YtkodenmpadehjaaDoor

namespace Go.Proofs.YtkodenmpadehjaaDoor
open Go.RowKit

theorem lawFnOnce (a : Option Addr) (len cap : Nat) (zs : List Int) (w : World) (h : (a = none ∧ len = 0 ∧ cap = 0 ∧ zs = []) ∨
    ∃ x, a = some x ∧ len ≤ cap ∧ cap ≤ maxLen ∧ zs.length = cap ∧ (∀ i, i < zs.length → w.cell? (x.add i) = some (.int .u8 (zs.getD i 0))) ∧ ∀ n ∈ zs, (Lit.int .u8 n).wf = true) (ht : Errs w) :
    Calls Tryd.prog 3 #[.slice a len cap] w fun e w' => e = .returned (.bool true) ∧ Below w.heap.size w w' := by
  by_cases hn : len ≤ 1048576
  · exact lawFnOnce_few _ _ _ w hn (isCode_of_row h hn) ht
  · exact lawFnOnce_many _ _ _ w (by omega)

end Go.Proofs.YtkodenmpadehjaaDoor
