/-
  Texts of this proof in one: SpecSame, SpecSameM, SpecSend, SpecWSend, SpecMember, ImplMember, AskedPlain, ChainsPlain, WorldMsgs, SendPlain.
  Their conditions stand in their theorems.
-/
import Derived.Test.YtoanimpijfijgaaGreatChecked
import Derived.Test.YtoanimpijfijgaaGreatAk05
import Derived.Test.YtoanimpijfijgaaGreatAk10
import Derived.Deep.RegionHeld3
import Derived.Test.YtoanimpijfijgaaGreatAk00
import Derived.Test.YtoanimpijfijgaaGreatAk07
import Derived.Deep.CutRange
import Derived.Test.YtoanimpijfijgaaGreatAk08
import Derived.Test.YtoanimpijfijgaaGreatAk04
set_option maxRecDepth 100000
set_option maxHeartbeats 4000000
namespace Go.Proofs.YtoanimpijfijgaaGreat
open Go.RowKit
theorem l3Same_0 (b o b2 o2 : Nat) (x y : DWrite) (a2 a2z : Option Addr) (d2 d2z : Nat) (w : World) (hA : w.cell? ⟨b, o, none⟩ = some (.int .i64 x.kind) ∧ w.cell? ⟨b, o + 1, none⟩ = some (.int .i64 x.id) ∧ w.cell? ⟨b, o + 2, none⟩ = some (.slice a2 x.vec.length d2) ∧ w.cell? ⟨b, o + 3, none⟩ = some (.int .i64 x.session) ∧ w.cell? ⟨b, o + 4, none⟩ = some (.int .i64 x.seq)) (hZ : w.cell? ⟨b2, o2, none⟩ = some (.int .i64 y.kind) ∧ w.cell? ⟨b2, o2 + 1, none⟩ = some (.int .i64 y.id) ∧ w.cell? ⟨b2, o2 + 2, none⟩ = some (.slice a2z y.vec.length d2z) ∧ w.cell? ⟨b2, o2 + 3, none⟩ = some (.int .i64 y.session) ∧ w.cell? ⟨b2, o2 + 4, none⟩ = some (.int .i64 y.seq)) (e0 : (x.kind == y.kind) = false) :
  Calls Tryz.prog 269 #[.pointer (some ⟨b, o, none⟩), .pointer (some ⟨b2, o2, none⟩)] w fun e w' => e = .returned (.bool false) ∧ Below w.heap.size w w' := by
 obtain ⟨c0, c1, c2, c3, c4⟩ := hA
 obtain ⟨k0, k1, k2, k3, k4⟩ := hZ
 have hb := World.block_lt_of_cell? _ _ c0
 have hb2 := World.block_lt_of_cell? _ _ k0
 go_enter Tryz.func269, Tryz.ntmps269
 go_wp2_with fail
 refine wp_region_noPanic ?_
 refine wp_region_held_drew (S := fun w' => Below w.heap.size w w') (by kernel_rfl) (Below.refl _ _).drew (fun zq => ?_)
 generalize w.drew = wD at zq ⊢
 refine tkH 0 zq ?_
 refine tkH 1 zq ?_
 refine tkH 2 zq ?_
 refine tkJ 3 (v := ?v3) ?h3 zq ?r3
 case h3 =>
  intro wS hSw
  have y0 := (hSw.cell (p := ⟨b, o, none⟩) (by simpa using hb)).trans c0
  have y1 := (hSw.cell (p := ⟨b, o + 1, none⟩) (by simpa using hb)).trans c1
  have y2 := (hSw.cell (p := ⟨b, o + 2, none⟩) (by simpa using hb)).trans c2
  have y3 := (hSw.cell (p := ⟨b, o + 3, none⟩) (by simpa using hb)).trans c3
  have y4 := (hSw.cell (p := ⟨b, o + 4, none⟩) (by simpa using hb)).trans c4
  have z0 := (hSw.cell (p := ⟨b2, o2, none⟩) (by simpa using hb2)).trans k0
  have z1 := (hSw.cell (p := ⟨b2, o2 + 1, none⟩) (by simpa using hb2)).trans k1
  have z2 := (hSw.cell (p := ⟨b2, o2 + 2, none⟩) (by simpa using hb2)).trans k2
  have z3 := (hSw.cell (p := ⟨b2, o2 + 3, none⟩) (by simpa using hb2)).trans k3
  have z4 := (hSw.cell (p := ⟨b2, o2 + 4, none⟩) (by simpa using hb2)).trans k4
  clear hSw
  (try dsimp only at hSw)
  go_simp
  try with_reducible rfl
 refine tkH 4 zq ?_
 refine tkH 5 zq ?_
 refine tkH 6 zq ?_
 refine tkJ 7 (v := ?v7) ?h7 zq ?r7
 case h7 =>
  intro wS hSw
  have y0 := (hSw.cell (p := ⟨b, o, none⟩) (by simpa using hb)).trans c0
  have y1 := (hSw.cell (p := ⟨b, o + 1, none⟩) (by simpa using hb)).trans c1
  have y2 := (hSw.cell (p := ⟨b, o + 2, none⟩) (by simpa using hb)).trans c2
  have y3 := (hSw.cell (p := ⟨b, o + 3, none⟩) (by simpa using hb)).trans c3
  have y4 := (hSw.cell (p := ⟨b, o + 4, none⟩) (by simpa using hb)).trans c4
  have z0 := (hSw.cell (p := ⟨b2, o2, none⟩) (by simpa using hb2)).trans k0
  have z1 := (hSw.cell (p := ⟨b2, o2 + 1, none⟩) (by simpa using hb2)).trans k1
  have z2 := (hSw.cell (p := ⟨b2, o2 + 2, none⟩) (by simpa using hb2)).trans k2
  have z3 := (hSw.cell (p := ⟨b2, o2 + 3, none⟩) (by simpa using hb2)).trans k3
  have z4 := (hSw.cell (p := ⟨b2, o2 + 4, none⟩) (by simpa using hb2)).trans k4
  clear hSw
  (try dsimp only at hSw)
  go_simp
  try with_reducible rfl
 refine tkH 8 zq ?_
 refine tkH 9 zq ?_
 refine skH 10 zq ?_
 refine skH 11 zq ?_
 refine skH 12 zq ?_
 refine skH 13 zq ?_
 refine skH 14 zq ?_
 refine skH 15 zq ?_
 refine skH 16 zq ?_
 refine skH 17 zq ?_
 refine skH 18 zq ?_
 refine tkH 19 zq ?_
 refine tkH 20 zq ?_
 refine skH 21 zq ?_
 refine skH 22 zq ?_
 refine skH 23 zq ?_
 refine skH 24 zq ?_
 refine skH 25 zq ?_
 refine skH 26 zq ?_
 refine skH 27 zq ?_
 refine skH 28 zq ?_
 refine skH 29 zq ?_
 refine tkH 30 zq ?_
 refine tkH 31 zq ?_
 refine skH 32 zq ?_
 refine skH 33 zq ?_
 refine skH 34 zq ?_
 refine skH 35 zq ?_
 refine skH 36 zq ?_
 refine skH 37 zq ?_
 refine skH 38 zq ?_
 refine skH 39 zq ?_
 refine skH 40 zq ?_
 refine tkH 41 zq ?_
 refine tkH 42 zq ?_
 refine skH 43 zq ?_
 refine skH 44 zq ?_
 refine skH 45 zq ?_
 refine skH 46 zq ?_
 refine skH 47 zq ?_
 refine skH 48 zq ?_
 refine skH 49 zq ?_
 refine skH 50 zq ?_
 refine skH 51 zq ?_
 refine tkH 52 zq ?_
 refine tkH 53 zq ?_
 refine wpAnyH_done (by kernel_rfl) ?_ _
 refine NoPanic.normal ?_
 have HB := yh zq
 clear zq
 go_wp2_with fail
 go_ret
 exact ⟨rfl, uh HB⟩
theorem l3Same_1 (b o b2 o2 : Nat) (x y : DWrite) (a2 a2z : Option Addr) (d2 d2z : Nat) (w : World) (hA : w.cell? ⟨b, o, none⟩ = some (.int .i64 x.kind) ∧ w.cell? ⟨b, o + 1, none⟩ = some (.int .i64 x.id) ∧ w.cell? ⟨b, o + 2, none⟩ = some (.slice a2 x.vec.length d2) ∧ w.cell? ⟨b, o + 3, none⟩ = some (.int .i64 x.session) ∧ w.cell? ⟨b, o + 4, none⟩ = some (.int .i64 x.seq)) (hZ : w.cell? ⟨b2, o2, none⟩ = some (.int .i64 y.kind) ∧ w.cell? ⟨b2, o2 + 1, none⟩ = some (.int .i64 y.id) ∧ w.cell? ⟨b2, o2 + 2, none⟩ = some (.slice a2z y.vec.length d2z) ∧ w.cell? ⟨b2, o2 + 3, none⟩ = some (.int .i64 y.session) ∧ w.cell? ⟨b2, o2 + 4, none⟩ = some (.int .i64 y.seq)) (e0 : (x.kind == y.kind) = true) (e1 : (x.id == y.id) = false) :
  Calls Tryz.prog 269 #[.pointer (some ⟨b, o, none⟩), .pointer (some ⟨b2, o2, none⟩)] w fun e w' => e = .returned (.bool false) ∧ Below w.heap.size w w' := by
 obtain ⟨c0, c1, c2, c3, c4⟩ := hA
 obtain ⟨k0, k1, k2, k3, k4⟩ := hZ
 have hb := World.block_lt_of_cell? _ _ c0
 have hb2 := World.block_lt_of_cell? _ _ k0
 go_enter Tryz.func269, Tryz.ntmps269
 go_wp2_with fail
 refine wp_region_noPanic ?_
 refine wp_region_held_drew (S := fun w' => Below w.heap.size w w') (by kernel_rfl) (Below.refl _ _).drew (fun zq => ?_)
 generalize w.drew = wD at zq ⊢
 refine tkH 0 zq ?_
 refine tkH 1 zq ?_
 refine tkH 2 zq ?_
 refine tkJ 3 (v := ?v3) ?h3 zq ?r3
 case h3 =>
  intro wS hSw
  have y0 := (hSw.cell (p := ⟨b, o, none⟩) (by simpa using hb)).trans c0
  have y1 := (hSw.cell (p := ⟨b, o + 1, none⟩) (by simpa using hb)).trans c1
  have y2 := (hSw.cell (p := ⟨b, o + 2, none⟩) (by simpa using hb)).trans c2
  have y3 := (hSw.cell (p := ⟨b, o + 3, none⟩) (by simpa using hb)).trans c3
  have y4 := (hSw.cell (p := ⟨b, o + 4, none⟩) (by simpa using hb)).trans c4
  have z0 := (hSw.cell (p := ⟨b2, o2, none⟩) (by simpa using hb2)).trans k0
  have z1 := (hSw.cell (p := ⟨b2, o2 + 1, none⟩) (by simpa using hb2)).trans k1
  have z2 := (hSw.cell (p := ⟨b2, o2 + 2, none⟩) (by simpa using hb2)).trans k2
  have z3 := (hSw.cell (p := ⟨b2, o2 + 3, none⟩) (by simpa using hb2)).trans k3
  have z4 := (hSw.cell (p := ⟨b2, o2 + 4, none⟩) (by simpa using hb2)).trans k4
  clear hSw
  (try dsimp only at hSw)
  go_simp
  try with_reducible rfl
 refine tkH 4 zq ?_
 refine tkH 5 zq ?_
 refine tkH 6 zq ?_
 refine tkJ 7 (v := ?v7) ?h7 zq ?r7
 case h7 =>
  intro wS hSw
  have y0 := (hSw.cell (p := ⟨b, o, none⟩) (by simpa using hb)).trans c0
  have y1 := (hSw.cell (p := ⟨b, o + 1, none⟩) (by simpa using hb)).trans c1
  have y2 := (hSw.cell (p := ⟨b, o + 2, none⟩) (by simpa using hb)).trans c2
  have y3 := (hSw.cell (p := ⟨b, o + 3, none⟩) (by simpa using hb)).trans c3
  have y4 := (hSw.cell (p := ⟨b, o + 4, none⟩) (by simpa using hb)).trans c4
  have z0 := (hSw.cell (p := ⟨b2, o2, none⟩) (by simpa using hb2)).trans k0
  have z1 := (hSw.cell (p := ⟨b2, o2 + 1, none⟩) (by simpa using hb2)).trans k1
  have z2 := (hSw.cell (p := ⟨b2, o2 + 2, none⟩) (by simpa using hb2)).trans k2
  have z3 := (hSw.cell (p := ⟨b2, o2 + 3, none⟩) (by simpa using hb2)).trans k3
  have z4 := (hSw.cell (p := ⟨b2, o2 + 4, none⟩) (by simpa using hb2)).trans k4
  clear hSw
  (try dsimp only at hSw)
  go_simp
  try with_reducible rfl
 refine tkH 8 zq ?_
 refine tkH 9 zq ?_
 refine tkH 10 zq ?_
 refine tkH 11 zq ?_
 refine tkH 12 zq ?_
 refine tkJ 13 (v := ?v13) ?h13 zq ?r13
 case h13 =>
  intro wS hSw
  have y0 := (hSw.cell (p := ⟨b, o, none⟩) (by simpa using hb)).trans c0
  have y1 := (hSw.cell (p := ⟨b, o + 1, none⟩) (by simpa using hb)).trans c1
  have y2 := (hSw.cell (p := ⟨b, o + 2, none⟩) (by simpa using hb)).trans c2
  have y3 := (hSw.cell (p := ⟨b, o + 3, none⟩) (by simpa using hb)).trans c3
  have y4 := (hSw.cell (p := ⟨b, o + 4, none⟩) (by simpa using hb)).trans c4
  have z0 := (hSw.cell (p := ⟨b2, o2, none⟩) (by simpa using hb2)).trans k0
  have z1 := (hSw.cell (p := ⟨b2, o2 + 1, none⟩) (by simpa using hb2)).trans k1
  have z2 := (hSw.cell (p := ⟨b2, o2 + 2, none⟩) (by simpa using hb2)).trans k2
  have z3 := (hSw.cell (p := ⟨b2, o2 + 3, none⟩) (by simpa using hb2)).trans k3
  have z4 := (hSw.cell (p := ⟨b2, o2 + 4, none⟩) (by simpa using hb2)).trans k4
  clear hSw
  (try dsimp only at hSw)
  go_simp
  try with_reducible rfl
 refine tkH 14 zq ?_
 refine tkH 15 zq ?_
 refine tkH 16 zq ?_
 refine tkJ 17 (v := ?v17) ?h17 zq ?r17
 case h17 =>
  intro wS hSw
  have y0 := (hSw.cell (p := ⟨b, o, none⟩) (by simpa using hb)).trans c0
  have y1 := (hSw.cell (p := ⟨b, o + 1, none⟩) (by simpa using hb)).trans c1
  have y2 := (hSw.cell (p := ⟨b, o + 2, none⟩) (by simpa using hb)).trans c2
  have y3 := (hSw.cell (p := ⟨b, o + 3, none⟩) (by simpa using hb)).trans c3
  have y4 := (hSw.cell (p := ⟨b, o + 4, none⟩) (by simpa using hb)).trans c4
  have z0 := (hSw.cell (p := ⟨b2, o2, none⟩) (by simpa using hb2)).trans k0
  have z1 := (hSw.cell (p := ⟨b2, o2 + 1, none⟩) (by simpa using hb2)).trans k1
  have z2 := (hSw.cell (p := ⟨b2, o2 + 2, none⟩) (by simpa using hb2)).trans k2
  have z3 := (hSw.cell (p := ⟨b2, o2 + 3, none⟩) (by simpa using hb2)).trans k3
  have z4 := (hSw.cell (p := ⟨b2, o2 + 4, none⟩) (by simpa using hb2)).trans k4
  clear hSw
  (try dsimp only at hSw)
  go_simp
  try with_reducible rfl
 refine tkH 18 zq ?_
 refine tkH 19 zq ?_
 refine tkH 20 zq ?_
 refine skH 21 zq ?_
 refine skH 22 zq ?_
 refine skH 23 zq ?_
 refine skH 24 zq ?_
 refine skH 25 zq ?_
 refine skH 26 zq ?_
 refine skH 27 zq ?_
 refine skH 28 zq ?_
 refine skH 29 zq ?_
 refine tkH 30 zq ?_
 refine tkH 31 zq ?_
 refine skH 32 zq ?_
 refine skH 33 zq ?_
 refine skH 34 zq ?_
 refine skH 35 zq ?_
 refine skH 36 zq ?_
 refine skH 37 zq ?_
 refine skH 38 zq ?_
 refine skH 39 zq ?_
 refine skH 40 zq ?_
 refine tkH 41 zq ?_
 refine tkH 42 zq ?_
 refine skH 43 zq ?_
 refine skH 44 zq ?_
 refine skH 45 zq ?_
 refine skH 46 zq ?_
 refine skH 47 zq ?_
 refine skH 48 zq ?_
 refine skH 49 zq ?_
 refine skH 50 zq ?_
 refine skH 51 zq ?_
 refine tkH 52 zq ?_
 refine tkH 53 zq ?_
 refine wpAnyH_done (by kernel_rfl) ?_ _
 refine NoPanic.normal ?_
 have HB := yh zq
 clear zq
 go_wp2_with fail
 go_ret
 exact ⟨rfl, uh HB⟩
theorem l3Same_2 (b o b2 o2 : Nat) (x y : DWrite) (a2 a2z : Option Addr) (d2 d2z : Nat) (w : World) (hA : w.cell? ⟨b, o, none⟩ = some (.int .i64 x.kind) ∧ w.cell? ⟨b, o + 1, none⟩ = some (.int .i64 x.id) ∧ w.cell? ⟨b, o + 2, none⟩ = some (.slice a2 x.vec.length d2) ∧ w.cell? ⟨b, o + 3, none⟩ = some (.int .i64 x.session) ∧ w.cell? ⟨b, o + 4, none⟩ = some (.int .i64 x.seq)) (hZ : w.cell? ⟨b2, o2, none⟩ = some (.int .i64 y.kind) ∧ w.cell? ⟨b2, o2 + 1, none⟩ = some (.int .i64 y.id) ∧ w.cell? ⟨b2, o2 + 2, none⟩ = some (.slice a2z y.vec.length d2z) ∧ w.cell? ⟨b2, o2 + 3, none⟩ = some (.int .i64 y.session) ∧ w.cell? ⟨b2, o2 + 4, none⟩ = some (.int .i64 y.seq)) (e0 : (x.kind == y.kind) = true) (e1 : (x.id == y.id) = true) (e2 : (x.session == y.session) = false) :
  Calls Tryz.prog 269 #[.pointer (some ⟨b, o, none⟩), .pointer (some ⟨b2, o2, none⟩)] w fun e w' => e = .returned (.bool false) ∧ Below w.heap.size w w' := by
 obtain ⟨c0, c1, c2, c3, c4⟩ := hA
 obtain ⟨k0, k1, k2, k3, k4⟩ := hZ
 have hb := World.block_lt_of_cell? _ _ c0
 have hb2 := World.block_lt_of_cell? _ _ k0
 go_enter Tryz.func269, Tryz.ntmps269
 go_wp2_with fail
 refine wp_region_noPanic ?_
 refine wp_region_held_drew (S := fun w' => Below w.heap.size w w') (by kernel_rfl) (Below.refl _ _).drew (fun zq => ?_)
 generalize w.drew = wD at zq ⊢
 refine tkH 0 zq ?_
 refine tkH 1 zq ?_
 refine tkH 2 zq ?_
 refine tkJ 3 (v := ?v3) ?h3 zq ?r3
 case h3 =>
  intro wS hSw
  have y0 := (hSw.cell (p := ⟨b, o, none⟩) (by simpa using hb)).trans c0
  have y1 := (hSw.cell (p := ⟨b, o + 1, none⟩) (by simpa using hb)).trans c1
  have y2 := (hSw.cell (p := ⟨b, o + 2, none⟩) (by simpa using hb)).trans c2
  have y3 := (hSw.cell (p := ⟨b, o + 3, none⟩) (by simpa using hb)).trans c3
  have y4 := (hSw.cell (p := ⟨b, o + 4, none⟩) (by simpa using hb)).trans c4
  have z0 := (hSw.cell (p := ⟨b2, o2, none⟩) (by simpa using hb2)).trans k0
  have z1 := (hSw.cell (p := ⟨b2, o2 + 1, none⟩) (by simpa using hb2)).trans k1
  have z2 := (hSw.cell (p := ⟨b2, o2 + 2, none⟩) (by simpa using hb2)).trans k2
  have z3 := (hSw.cell (p := ⟨b2, o2 + 3, none⟩) (by simpa using hb2)).trans k3
  have z4 := (hSw.cell (p := ⟨b2, o2 + 4, none⟩) (by simpa using hb2)).trans k4
  clear hSw
  (try dsimp only at hSw)
  go_simp
  try with_reducible rfl
 refine tkH 4 zq ?_
 refine tkH 5 zq ?_
 refine tkH 6 zq ?_
 refine tkJ 7 (v := ?v7) ?h7 zq ?r7
 case h7 =>
  intro wS hSw
  have y0 := (hSw.cell (p := ⟨b, o, none⟩) (by simpa using hb)).trans c0
  have y1 := (hSw.cell (p := ⟨b, o + 1, none⟩) (by simpa using hb)).trans c1
  have y2 := (hSw.cell (p := ⟨b, o + 2, none⟩) (by simpa using hb)).trans c2
  have y3 := (hSw.cell (p := ⟨b, o + 3, none⟩) (by simpa using hb)).trans c3
  have y4 := (hSw.cell (p := ⟨b, o + 4, none⟩) (by simpa using hb)).trans c4
  have z0 := (hSw.cell (p := ⟨b2, o2, none⟩) (by simpa using hb2)).trans k0
  have z1 := (hSw.cell (p := ⟨b2, o2 + 1, none⟩) (by simpa using hb2)).trans k1
  have z2 := (hSw.cell (p := ⟨b2, o2 + 2, none⟩) (by simpa using hb2)).trans k2
  have z3 := (hSw.cell (p := ⟨b2, o2 + 3, none⟩) (by simpa using hb2)).trans k3
  have z4 := (hSw.cell (p := ⟨b2, o2 + 4, none⟩) (by simpa using hb2)).trans k4
  clear hSw
  (try dsimp only at hSw)
  go_simp
  try with_reducible rfl
 refine tkH 8 zq ?_
 refine tkH 9 zq ?_
 refine tkH 10 zq ?_
 refine tkH 11 zq ?_
 refine tkH 12 zq ?_
 refine tkJ 13 (v := ?v13) ?h13 zq ?r13
 case h13 =>
  intro wS hSw
  have y0 := (hSw.cell (p := ⟨b, o, none⟩) (by simpa using hb)).trans c0
  have y1 := (hSw.cell (p := ⟨b, o + 1, none⟩) (by simpa using hb)).trans c1
  have y2 := (hSw.cell (p := ⟨b, o + 2, none⟩) (by simpa using hb)).trans c2
  have y3 := (hSw.cell (p := ⟨b, o + 3, none⟩) (by simpa using hb)).trans c3
  have y4 := (hSw.cell (p := ⟨b, o + 4, none⟩) (by simpa using hb)).trans c4
  have z0 := (hSw.cell (p := ⟨b2, o2, none⟩) (by simpa using hb2)).trans k0
  have z1 := (hSw.cell (p := ⟨b2, o2 + 1, none⟩) (by simpa using hb2)).trans k1
  have z2 := (hSw.cell (p := ⟨b2, o2 + 2, none⟩) (by simpa using hb2)).trans k2
  have z3 := (hSw.cell (p := ⟨b2, o2 + 3, none⟩) (by simpa using hb2)).trans k3
  have z4 := (hSw.cell (p := ⟨b2, o2 + 4, none⟩) (by simpa using hb2)).trans k4
  clear hSw
  (try dsimp only at hSw)
  go_simp
  try with_reducible rfl
 refine tkH 14 zq ?_
 refine tkH 15 zq ?_
 refine tkH 16 zq ?_
 refine tkJ 17 (v := ?v17) ?h17 zq ?r17
 case h17 =>
  intro wS hSw
  have y0 := (hSw.cell (p := ⟨b, o, none⟩) (by simpa using hb)).trans c0
  have y1 := (hSw.cell (p := ⟨b, o + 1, none⟩) (by simpa using hb)).trans c1
  have y2 := (hSw.cell (p := ⟨b, o + 2, none⟩) (by simpa using hb)).trans c2
  have y3 := (hSw.cell (p := ⟨b, o + 3, none⟩) (by simpa using hb)).trans c3
  have y4 := (hSw.cell (p := ⟨b, o + 4, none⟩) (by simpa using hb)).trans c4
  have z0 := (hSw.cell (p := ⟨b2, o2, none⟩) (by simpa using hb2)).trans k0
  have z1 := (hSw.cell (p := ⟨b2, o2 + 1, none⟩) (by simpa using hb2)).trans k1
  have z2 := (hSw.cell (p := ⟨b2, o2 + 2, none⟩) (by simpa using hb2)).trans k2
  have z3 := (hSw.cell (p := ⟨b2, o2 + 3, none⟩) (by simpa using hb2)).trans k3
  have z4 := (hSw.cell (p := ⟨b2, o2 + 4, none⟩) (by simpa using hb2)).trans k4
  clear hSw
  (try dsimp only at hSw)
  go_simp
  try with_reducible rfl
 refine tkH 18 zq ?_
 refine tkH 19 zq ?_
 refine tkH 20 zq ?_
 refine tkH 21 zq ?_
 refine tkH 22 zq ?_
 refine tkH 23 zq ?_
 refine tkJ 24 (v := ?v24) ?h24 zq ?r24
 case h24 =>
  intro wS hSw
  have y0 := (hSw.cell (p := ⟨b, o, none⟩) (by simpa using hb)).trans c0
  have y1 := (hSw.cell (p := ⟨b, o + 1, none⟩) (by simpa using hb)).trans c1
  have y2 := (hSw.cell (p := ⟨b, o + 2, none⟩) (by simpa using hb)).trans c2
  have y3 := (hSw.cell (p := ⟨b, o + 3, none⟩) (by simpa using hb)).trans c3
  have y4 := (hSw.cell (p := ⟨b, o + 4, none⟩) (by simpa using hb)).trans c4
  have z0 := (hSw.cell (p := ⟨b2, o2, none⟩) (by simpa using hb2)).trans k0
  have z1 := (hSw.cell (p := ⟨b2, o2 + 1, none⟩) (by simpa using hb2)).trans k1
  have z2 := (hSw.cell (p := ⟨b2, o2 + 2, none⟩) (by simpa using hb2)).trans k2
  have z3 := (hSw.cell (p := ⟨b2, o2 + 3, none⟩) (by simpa using hb2)).trans k3
  have z4 := (hSw.cell (p := ⟨b2, o2 + 4, none⟩) (by simpa using hb2)).trans k4
  clear hSw
  (try dsimp only at hSw)
  go_simp
  try with_reducible rfl
 refine tkH 25 zq ?_
 refine tkH 26 zq ?_
 refine tkH 27 zq ?_
 refine tkJ 28 (v := ?v28) ?h28 zq ?r28
 case h28 =>
  intro wS hSw
  have y0 := (hSw.cell (p := ⟨b, o, none⟩) (by simpa using hb)).trans c0
  have y1 := (hSw.cell (p := ⟨b, o + 1, none⟩) (by simpa using hb)).trans c1
  have y2 := (hSw.cell (p := ⟨b, o + 2, none⟩) (by simpa using hb)).trans c2
  have y3 := (hSw.cell (p := ⟨b, o + 3, none⟩) (by simpa using hb)).trans c3
  have y4 := (hSw.cell (p := ⟨b, o + 4, none⟩) (by simpa using hb)).trans c4
  have z0 := (hSw.cell (p := ⟨b2, o2, none⟩) (by simpa using hb2)).trans k0
  have z1 := (hSw.cell (p := ⟨b2, o2 + 1, none⟩) (by simpa using hb2)).trans k1
  have z2 := (hSw.cell (p := ⟨b2, o2 + 2, none⟩) (by simpa using hb2)).trans k2
  have z3 := (hSw.cell (p := ⟨b2, o2 + 3, none⟩) (by simpa using hb2)).trans k3
  have z4 := (hSw.cell (p := ⟨b2, o2 + 4, none⟩) (by simpa using hb2)).trans k4
  clear hSw
  (try dsimp only at hSw)
  go_simp
  try with_reducible rfl
 refine tkH 29 zq ?_
 refine tkH 30 zq ?_
 refine tkH 31 zq ?_
 refine skH 32 zq ?_
 refine skH 33 zq ?_
 refine skH 34 zq ?_
 refine skH 35 zq ?_
 refine skH 36 zq ?_
 refine skH 37 zq ?_
 refine skH 38 zq ?_
 refine skH 39 zq ?_
 refine skH 40 zq ?_
 refine tkH 41 zq ?_
 refine tkH 42 zq ?_
 refine skH 43 zq ?_
 refine skH 44 zq ?_
 refine skH 45 zq ?_
 refine skH 46 zq ?_
 refine skH 47 zq ?_
 refine skH 48 zq ?_
 refine skH 49 zq ?_
 refine skH 50 zq ?_
 refine skH 51 zq ?_
 refine tkH 52 zq ?_
 refine tkH 53 zq ?_
 refine wpAnyH_done (by kernel_rfl) ?_ _
 refine NoPanic.normal ?_
 have HB := yh zq
 clear zq
 go_wp2_with fail
 go_ret
 exact ⟨rfl, uh HB⟩
theorem l3Same_3 (b o b2 o2 : Nat) (x y : DWrite) (a2 a2z : Option Addr) (d2 d2z : Nat) (w : World) (hA : w.cell? ⟨b, o, none⟩ = some (.int .i64 x.kind) ∧ w.cell? ⟨b, o + 1, none⟩ = some (.int .i64 x.id) ∧ w.cell? ⟨b, o + 2, none⟩ = some (.slice a2 x.vec.length d2) ∧ w.cell? ⟨b, o + 3, none⟩ = some (.int .i64 x.session) ∧ w.cell? ⟨b, o + 4, none⟩ = some (.int .i64 x.seq)) (hZ : w.cell? ⟨b2, o2, none⟩ = some (.int .i64 y.kind) ∧ w.cell? ⟨b2, o2 + 1, none⟩ = some (.int .i64 y.id) ∧ w.cell? ⟨b2, o2 + 2, none⟩ = some (.slice a2z y.vec.length d2z) ∧ w.cell? ⟨b2, o2 + 3, none⟩ = some (.int .i64 y.session) ∧ w.cell? ⟨b2, o2 + 4, none⟩ = some (.int .i64 y.seq)) (e0 : (x.kind == y.kind) = true) (e1 : (x.id == y.id) = true) (e2 : (x.session == y.session) = true) (e3 : (x.seq == y.seq) = false) :
  Calls Tryz.prog 269 #[.pointer (some ⟨b, o, none⟩), .pointer (some ⟨b2, o2, none⟩)] w fun e w' => e = .returned (.bool false) ∧ Below w.heap.size w w' := by
 obtain ⟨c0, c1, c2, c3, c4⟩ := hA
 obtain ⟨k0, k1, k2, k3, k4⟩ := hZ
 have hb := World.block_lt_of_cell? _ _ c0
 have hb2 := World.block_lt_of_cell? _ _ k0
 go_enter Tryz.func269, Tryz.ntmps269
 go_wp2_with fail
 refine wp_region_noPanic ?_
 refine wp_region_held_drew (S := fun w' => Below w.heap.size w w') (by kernel_rfl) (Below.refl _ _).drew (fun zq => ?_)
 generalize w.drew = wD at zq ⊢
 refine tkH 0 zq ?_
 refine tkH 1 zq ?_
 refine tkH 2 zq ?_
 refine tkJ 3 (v := ?v3) ?h3 zq ?r3
 case h3 =>
  intro wS hSw
  have y0 := (hSw.cell (p := ⟨b, o, none⟩) (by simpa using hb)).trans c0
  have y1 := (hSw.cell (p := ⟨b, o + 1, none⟩) (by simpa using hb)).trans c1
  have y2 := (hSw.cell (p := ⟨b, o + 2, none⟩) (by simpa using hb)).trans c2
  have y3 := (hSw.cell (p := ⟨b, o + 3, none⟩) (by simpa using hb)).trans c3
  have y4 := (hSw.cell (p := ⟨b, o + 4, none⟩) (by simpa using hb)).trans c4
  have z0 := (hSw.cell (p := ⟨b2, o2, none⟩) (by simpa using hb2)).trans k0
  have z1 := (hSw.cell (p := ⟨b2, o2 + 1, none⟩) (by simpa using hb2)).trans k1
  have z2 := (hSw.cell (p := ⟨b2, o2 + 2, none⟩) (by simpa using hb2)).trans k2
  have z3 := (hSw.cell (p := ⟨b2, o2 + 3, none⟩) (by simpa using hb2)).trans k3
  have z4 := (hSw.cell (p := ⟨b2, o2 + 4, none⟩) (by simpa using hb2)).trans k4
  clear hSw
  (try dsimp only at hSw)
  go_simp
  try with_reducible rfl
 refine tkH 4 zq ?_
 refine tkH 5 zq ?_
 refine tkH 6 zq ?_
 refine tkJ 7 (v := ?v7) ?h7 zq ?r7
 case h7 =>
  intro wS hSw
  have y0 := (hSw.cell (p := ⟨b, o, none⟩) (by simpa using hb)).trans c0
  have y1 := (hSw.cell (p := ⟨b, o + 1, none⟩) (by simpa using hb)).trans c1
  have y2 := (hSw.cell (p := ⟨b, o + 2, none⟩) (by simpa using hb)).trans c2
  have y3 := (hSw.cell (p := ⟨b, o + 3, none⟩) (by simpa using hb)).trans c3
  have y4 := (hSw.cell (p := ⟨b, o + 4, none⟩) (by simpa using hb)).trans c4
  have z0 := (hSw.cell (p := ⟨b2, o2, none⟩) (by simpa using hb2)).trans k0
  have z1 := (hSw.cell (p := ⟨b2, o2 + 1, none⟩) (by simpa using hb2)).trans k1
  have z2 := (hSw.cell (p := ⟨b2, o2 + 2, none⟩) (by simpa using hb2)).trans k2
  have z3 := (hSw.cell (p := ⟨b2, o2 + 3, none⟩) (by simpa using hb2)).trans k3
  have z4 := (hSw.cell (p := ⟨b2, o2 + 4, none⟩) (by simpa using hb2)).trans k4
  clear hSw
  (try dsimp only at hSw)
  go_simp
  try with_reducible rfl
 refine tkH 8 zq ?_
 refine tkH 9 zq ?_
 refine tkH 10 zq ?_
 refine tkH 11 zq ?_
 refine tkH 12 zq ?_
 refine tkJ 13 (v := ?v13) ?h13 zq ?r13
 case h13 =>
  intro wS hSw
  have y0 := (hSw.cell (p := ⟨b, o, none⟩) (by simpa using hb)).trans c0
  have y1 := (hSw.cell (p := ⟨b, o + 1, none⟩) (by simpa using hb)).trans c1
  have y2 := (hSw.cell (p := ⟨b, o + 2, none⟩) (by simpa using hb)).trans c2
  have y3 := (hSw.cell (p := ⟨b, o + 3, none⟩) (by simpa using hb)).trans c3
  have y4 := (hSw.cell (p := ⟨b, o + 4, none⟩) (by simpa using hb)).trans c4
  have z0 := (hSw.cell (p := ⟨b2, o2, none⟩) (by simpa using hb2)).trans k0
  have z1 := (hSw.cell (p := ⟨b2, o2 + 1, none⟩) (by simpa using hb2)).trans k1
  have z2 := (hSw.cell (p := ⟨b2, o2 + 2, none⟩) (by simpa using hb2)).trans k2
  have z3 := (hSw.cell (p := ⟨b2, o2 + 3, none⟩) (by simpa using hb2)).trans k3
  have z4 := (hSw.cell (p := ⟨b2, o2 + 4, none⟩) (by simpa using hb2)).trans k4
  clear hSw
  (try dsimp only at hSw)
  go_simp
  try with_reducible rfl
 refine tkH 14 zq ?_
 refine tkH 15 zq ?_
 refine tkH 16 zq ?_
 refine tkJ 17 (v := ?v17) ?h17 zq ?r17
 case h17 =>
  intro wS hSw
  have y0 := (hSw.cell (p := ⟨b, o, none⟩) (by simpa using hb)).trans c0
  have y1 := (hSw.cell (p := ⟨b, o + 1, none⟩) (by simpa using hb)).trans c1
  have y2 := (hSw.cell (p := ⟨b, o + 2, none⟩) (by simpa using hb)).trans c2
  have y3 := (hSw.cell (p := ⟨b, o + 3, none⟩) (by simpa using hb)).trans c3
  have y4 := (hSw.cell (p := ⟨b, o + 4, none⟩) (by simpa using hb)).trans c4
  have z0 := (hSw.cell (p := ⟨b2, o2, none⟩) (by simpa using hb2)).trans k0
  have z1 := (hSw.cell (p := ⟨b2, o2 + 1, none⟩) (by simpa using hb2)).trans k1
  have z2 := (hSw.cell (p := ⟨b2, o2 + 2, none⟩) (by simpa using hb2)).trans k2
  have z3 := (hSw.cell (p := ⟨b2, o2 + 3, none⟩) (by simpa using hb2)).trans k3
  have z4 := (hSw.cell (p := ⟨b2, o2 + 4, none⟩) (by simpa using hb2)).trans k4
  clear hSw
  (try dsimp only at hSw)
  go_simp
  try with_reducible rfl
 refine tkH 18 zq ?_
 refine tkH 19 zq ?_
 refine tkH 20 zq ?_
 refine tkH 21 zq ?_
 refine tkH 22 zq ?_
 refine tkH 23 zq ?_
 refine tkJ 24 (v := ?v24) ?h24 zq ?r24
 case h24 =>
  intro wS hSw
  have y0 := (hSw.cell (p := ⟨b, o, none⟩) (by simpa using hb)).trans c0
  have y1 := (hSw.cell (p := ⟨b, o + 1, none⟩) (by simpa using hb)).trans c1
  have y2 := (hSw.cell (p := ⟨b, o + 2, none⟩) (by simpa using hb)).trans c2
  have y3 := (hSw.cell (p := ⟨b, o + 3, none⟩) (by simpa using hb)).trans c3
  have y4 := (hSw.cell (p := ⟨b, o + 4, none⟩) (by simpa using hb)).trans c4
  have z0 := (hSw.cell (p := ⟨b2, o2, none⟩) (by simpa using hb2)).trans k0
  have z1 := (hSw.cell (p := ⟨b2, o2 + 1, none⟩) (by simpa using hb2)).trans k1
  have z2 := (hSw.cell (p := ⟨b2, o2 + 2, none⟩) (by simpa using hb2)).trans k2
  have z3 := (hSw.cell (p := ⟨b2, o2 + 3, none⟩) (by simpa using hb2)).trans k3
  have z4 := (hSw.cell (p := ⟨b2, o2 + 4, none⟩) (by simpa using hb2)).trans k4
  clear hSw
  (try dsimp only at hSw)
  go_simp
  try with_reducible rfl
 refine tkH 25 zq ?_
 refine tkH 26 zq ?_
 refine tkH 27 zq ?_
 refine tkJ 28 (v := ?v28) ?h28 zq ?r28
 case h28 =>
  intro wS hSw
  have y0 := (hSw.cell (p := ⟨b, o, none⟩) (by simpa using hb)).trans c0
  have y1 := (hSw.cell (p := ⟨b, o + 1, none⟩) (by simpa using hb)).trans c1
  have y2 := (hSw.cell (p := ⟨b, o + 2, none⟩) (by simpa using hb)).trans c2
  have y3 := (hSw.cell (p := ⟨b, o + 3, none⟩) (by simpa using hb)).trans c3
  have y4 := (hSw.cell (p := ⟨b, o + 4, none⟩) (by simpa using hb)).trans c4
  have z0 := (hSw.cell (p := ⟨b2, o2, none⟩) (by simpa using hb2)).trans k0
  have z1 := (hSw.cell (p := ⟨b2, o2 + 1, none⟩) (by simpa using hb2)).trans k1
  have z2 := (hSw.cell (p := ⟨b2, o2 + 2, none⟩) (by simpa using hb2)).trans k2
  have z3 := (hSw.cell (p := ⟨b2, o2 + 3, none⟩) (by simpa using hb2)).trans k3
  have z4 := (hSw.cell (p := ⟨b2, o2 + 4, none⟩) (by simpa using hb2)).trans k4
  clear hSw
  (try dsimp only at hSw)
  go_simp
  try with_reducible rfl
 refine tkH 29 zq ?_
 refine tkH 30 zq ?_
 refine tkH 31 zq ?_
 refine tkH 32 zq ?_
 refine tkH 33 zq ?_
 refine tkH 34 zq ?_
 refine tkJ 35 (v := ?v35) ?h35 zq ?r35
 case h35 =>
  intro wS hSw
  have y0 := (hSw.cell (p := ⟨b, o, none⟩) (by simpa using hb)).trans c0
  have y1 := (hSw.cell (p := ⟨b, o + 1, none⟩) (by simpa using hb)).trans c1
  have y2 := (hSw.cell (p := ⟨b, o + 2, none⟩) (by simpa using hb)).trans c2
  have y3 := (hSw.cell (p := ⟨b, o + 3, none⟩) (by simpa using hb)).trans c3
  have y4 := (hSw.cell (p := ⟨b, o + 4, none⟩) (by simpa using hb)).trans c4
  have z0 := (hSw.cell (p := ⟨b2, o2, none⟩) (by simpa using hb2)).trans k0
  have z1 := (hSw.cell (p := ⟨b2, o2 + 1, none⟩) (by simpa using hb2)).trans k1
  have z2 := (hSw.cell (p := ⟨b2, o2 + 2, none⟩) (by simpa using hb2)).trans k2
  have z3 := (hSw.cell (p := ⟨b2, o2 + 3, none⟩) (by simpa using hb2)).trans k3
  have z4 := (hSw.cell (p := ⟨b2, o2 + 4, none⟩) (by simpa using hb2)).trans k4
  clear hSw
  (try dsimp only at hSw)
  go_simp
  try with_reducible rfl
 refine tkH 36 zq ?_
 refine tkH 37 zq ?_
 refine tkH 38 zq ?_
 refine tkJ 39 (v := ?v39) ?h39 zq ?r39
 case h39 =>
  intro wS hSw
  have y0 := (hSw.cell (p := ⟨b, o, none⟩) (by simpa using hb)).trans c0
  have y1 := (hSw.cell (p := ⟨b, o + 1, none⟩) (by simpa using hb)).trans c1
  have y2 := (hSw.cell (p := ⟨b, o + 2, none⟩) (by simpa using hb)).trans c2
  have y3 := (hSw.cell (p := ⟨b, o + 3, none⟩) (by simpa using hb)).trans c3
  have y4 := (hSw.cell (p := ⟨b, o + 4, none⟩) (by simpa using hb)).trans c4
  have z0 := (hSw.cell (p := ⟨b2, o2, none⟩) (by simpa using hb2)).trans k0
  have z1 := (hSw.cell (p := ⟨b2, o2 + 1, none⟩) (by simpa using hb2)).trans k1
  have z2 := (hSw.cell (p := ⟨b2, o2 + 2, none⟩) (by simpa using hb2)).trans k2
  have z3 := (hSw.cell (p := ⟨b2, o2 + 3, none⟩) (by simpa using hb2)).trans k3
  have z4 := (hSw.cell (p := ⟨b2, o2 + 4, none⟩) (by simpa using hb2)).trans k4
  clear hSw
  (try dsimp only at hSw)
  go_simp
  try with_reducible rfl
 refine tkH 40 zq ?_
 refine tkH 41 zq ?_
 refine tkH 42 zq ?_
 refine skH 43 zq ?_
 refine skH 44 zq ?_
 refine skH 45 zq ?_
 refine skH 46 zq ?_
 refine skH 47 zq ?_
 refine skH 48 zq ?_
 refine skH 49 zq ?_
 refine skH 50 zq ?_
 refine skH 51 zq ?_
 refine tkH 52 zq ?_
 refine tkH 53 zq ?_
 refine wpAnyH_done (by kernel_rfl) ?_ _
 refine NoPanic.normal ?_
 have HB := yh zq
 clear zq
 go_wp2_with fail
 go_ret
 exact ⟨rfl, uh HB⟩
theorem l3Same_4 (b o b2 o2 : Nat) (x y : DWrite) (a2 a2z : Option Addr) (d2 d2z : Nat) (w : World) (hA : w.cell? ⟨b, o, none⟩ = some (.int .i64 x.kind) ∧ w.cell? ⟨b, o + 1, none⟩ = some (.int .i64 x.id) ∧ w.cell? ⟨b, o + 2, none⟩ = some (.slice a2 x.vec.length d2) ∧ w.cell? ⟨b, o + 3, none⟩ = some (.int .i64 x.session) ∧ w.cell? ⟨b, o + 4, none⟩ = some (.int .i64 x.seq)) (hZ : w.cell? ⟨b2, o2, none⟩ = some (.int .i64 y.kind) ∧ w.cell? ⟨b2, o2 + 1, none⟩ = some (.int .i64 y.id) ∧ w.cell? ⟨b2, o2 + 2, none⟩ = some (.slice a2z y.vec.length d2z) ∧ w.cell? ⟨b2, o2 + 3, none⟩ = some (.int .i64 y.session) ∧ w.cell? ⟨b2, o2 + 4, none⟩ = some (.int .i64 y.seq)) (e0 : (x.kind == y.kind) = true) (e1 : (x.id == y.id) = true) (e2 : (x.session == y.session) = true) (e3 : (x.seq == y.seq) = true) (R : (Lay.sl Lay.int).Reads w [.slice a2 x.vec.length d2] x.vec) (Rz : (Lay.sl Lay.int).Reads w [.slice a2z y.vec.length d2z] y.vec) :
  Calls Tryz.prog 269 #[.pointer (some ⟨b, o, none⟩), .pointer (some ⟨b2, o2, none⟩)] w fun e w' => e = .returned (.bool (decide (x.vec = y.vec))) ∧ Below w.heap.size w w' := by
 obtain ⟨c0, c1, c2, c3, c4⟩ := hA
 obtain ⟨k0, k1, k2, k3, k4⟩ := hZ
 have hb := World.block_lt_of_cell? _ _ c0
 have hb2 := World.block_lt_of_cell? _ _ k0
 have HR := yh R
 have HRZ := yh Rz
 clear R Rz
 go_enter Tryz.func269, Tryz.ntmps269
 go_wp2_with fail
 refine wp_region_noPanic ?_
 refine wp_region_held_drew (S := fun w' => Below w.heap.size w w') (by kernel_rfl) (Below.refl _ _).drew (fun zq => ?_)
 generalize w.drew = wD at zq ⊢
 refine tkH 0 zq ?_
 refine tkH 1 zq ?_
 refine tkH 2 zq ?_
 refine tkJ 3 (v := ?v3) ?h3 zq ?r3
 case h3 =>
  intro wS hSw
  have y0 := (hSw.cell (p := ⟨b, o, none⟩) (by simpa using hb)).trans c0
  have y1 := (hSw.cell (p := ⟨b, o + 1, none⟩) (by simpa using hb)).trans c1
  have y2 := (hSw.cell (p := ⟨b, o + 2, none⟩) (by simpa using hb)).trans c2
  have y3 := (hSw.cell (p := ⟨b, o + 3, none⟩) (by simpa using hb)).trans c3
  have y4 := (hSw.cell (p := ⟨b, o + 4, none⟩) (by simpa using hb)).trans c4
  have z0 := (hSw.cell (p := ⟨b2, o2, none⟩) (by simpa using hb2)).trans k0
  have z1 := (hSw.cell (p := ⟨b2, o2 + 1, none⟩) (by simpa using hb2)).trans k1
  have z2 := (hSw.cell (p := ⟨b2, o2 + 2, none⟩) (by simpa using hb2)).trans k2
  have z3 := (hSw.cell (p := ⟨b2, o2 + 3, none⟩) (by simpa using hb2)).trans k3
  have z4 := (hSw.cell (p := ⟨b2, o2 + 4, none⟩) (by simpa using hb2)).trans k4
  clear hSw
  (try dsimp only at hSw)
  go_simp
  try with_reducible rfl
 refine tkH 4 zq ?_
 refine tkH 5 zq ?_
 refine tkH 6 zq ?_
 refine tkJ 7 (v := ?v7) ?h7 zq ?r7
 case h7 =>
  intro wS hSw
  have y0 := (hSw.cell (p := ⟨b, o, none⟩) (by simpa using hb)).trans c0
  have y1 := (hSw.cell (p := ⟨b, o + 1, none⟩) (by simpa using hb)).trans c1
  have y2 := (hSw.cell (p := ⟨b, o + 2, none⟩) (by simpa using hb)).trans c2
  have y3 := (hSw.cell (p := ⟨b, o + 3, none⟩) (by simpa using hb)).trans c3
  have y4 := (hSw.cell (p := ⟨b, o + 4, none⟩) (by simpa using hb)).trans c4
  have z0 := (hSw.cell (p := ⟨b2, o2, none⟩) (by simpa using hb2)).trans k0
  have z1 := (hSw.cell (p := ⟨b2, o2 + 1, none⟩) (by simpa using hb2)).trans k1
  have z2 := (hSw.cell (p := ⟨b2, o2 + 2, none⟩) (by simpa using hb2)).trans k2
  have z3 := (hSw.cell (p := ⟨b2, o2 + 3, none⟩) (by simpa using hb2)).trans k3
  have z4 := (hSw.cell (p := ⟨b2, o2 + 4, none⟩) (by simpa using hb2)).trans k4
  clear hSw
  (try dsimp only at hSw)
  go_simp
  try with_reducible rfl
 refine tkH 8 zq ?_
 refine tkH 9 zq ?_
 refine tkH 10 zq ?_
 refine tkH 11 zq ?_
 refine tkH 12 zq ?_
 refine tkJ 13 (v := ?v13) ?h13 zq ?r13
 case h13 =>
  intro wS hSw
  have y0 := (hSw.cell (p := ⟨b, o, none⟩) (by simpa using hb)).trans c0
  have y1 := (hSw.cell (p := ⟨b, o + 1, none⟩) (by simpa using hb)).trans c1
  have y2 := (hSw.cell (p := ⟨b, o + 2, none⟩) (by simpa using hb)).trans c2
  have y3 := (hSw.cell (p := ⟨b, o + 3, none⟩) (by simpa using hb)).trans c3
  have y4 := (hSw.cell (p := ⟨b, o + 4, none⟩) (by simpa using hb)).trans c4
  have z0 := (hSw.cell (p := ⟨b2, o2, none⟩) (by simpa using hb2)).trans k0
  have z1 := (hSw.cell (p := ⟨b2, o2 + 1, none⟩) (by simpa using hb2)).trans k1
  have z2 := (hSw.cell (p := ⟨b2, o2 + 2, none⟩) (by simpa using hb2)).trans k2
  have z3 := (hSw.cell (p := ⟨b2, o2 + 3, none⟩) (by simpa using hb2)).trans k3
  have z4 := (hSw.cell (p := ⟨b2, o2 + 4, none⟩) (by simpa using hb2)).trans k4
  clear hSw
  (try dsimp only at hSw)
  go_simp
  try with_reducible rfl
 refine tkH 14 zq ?_
 refine tkH 15 zq ?_
 refine tkH 16 zq ?_
 refine tkJ 17 (v := ?v17) ?h17 zq ?r17
 case h17 =>
  intro wS hSw
  have y0 := (hSw.cell (p := ⟨b, o, none⟩) (by simpa using hb)).trans c0
  have y1 := (hSw.cell (p := ⟨b, o + 1, none⟩) (by simpa using hb)).trans c1
  have y2 := (hSw.cell (p := ⟨b, o + 2, none⟩) (by simpa using hb)).trans c2
  have y3 := (hSw.cell (p := ⟨b, o + 3, none⟩) (by simpa using hb)).trans c3
  have y4 := (hSw.cell (p := ⟨b, o + 4, none⟩) (by simpa using hb)).trans c4
  have z0 := (hSw.cell (p := ⟨b2, o2, none⟩) (by simpa using hb2)).trans k0
  have z1 := (hSw.cell (p := ⟨b2, o2 + 1, none⟩) (by simpa using hb2)).trans k1
  have z2 := (hSw.cell (p := ⟨b2, o2 + 2, none⟩) (by simpa using hb2)).trans k2
  have z3 := (hSw.cell (p := ⟨b2, o2 + 3, none⟩) (by simpa using hb2)).trans k3
  have z4 := (hSw.cell (p := ⟨b2, o2 + 4, none⟩) (by simpa using hb2)).trans k4
  clear hSw
  (try dsimp only at hSw)
  go_simp
  try with_reducible rfl
 refine tkH 18 zq ?_
 refine tkH 19 zq ?_
 refine tkH 20 zq ?_
 refine tkH 21 zq ?_
 refine tkH 22 zq ?_
 refine tkH 23 zq ?_
 refine tkJ 24 (v := ?v24) ?h24 zq ?r24
 case h24 =>
  intro wS hSw
  have y0 := (hSw.cell (p := ⟨b, o, none⟩) (by simpa using hb)).trans c0
  have y1 := (hSw.cell (p := ⟨b, o + 1, none⟩) (by simpa using hb)).trans c1
  have y2 := (hSw.cell (p := ⟨b, o + 2, none⟩) (by simpa using hb)).trans c2
  have y3 := (hSw.cell (p := ⟨b, o + 3, none⟩) (by simpa using hb)).trans c3
  have y4 := (hSw.cell (p := ⟨b, o + 4, none⟩) (by simpa using hb)).trans c4
  have z0 := (hSw.cell (p := ⟨b2, o2, none⟩) (by simpa using hb2)).trans k0
  have z1 := (hSw.cell (p := ⟨b2, o2 + 1, none⟩) (by simpa using hb2)).trans k1
  have z2 := (hSw.cell (p := ⟨b2, o2 + 2, none⟩) (by simpa using hb2)).trans k2
  have z3 := (hSw.cell (p := ⟨b2, o2 + 3, none⟩) (by simpa using hb2)).trans k3
  have z4 := (hSw.cell (p := ⟨b2, o2 + 4, none⟩) (by simpa using hb2)).trans k4
  clear hSw
  (try dsimp only at hSw)
  go_simp
  try with_reducible rfl
 refine tkH 25 zq ?_
 refine tkH 26 zq ?_
 refine tkH 27 zq ?_
 refine tkJ 28 (v := ?v28) ?h28 zq ?r28
 case h28 =>
  intro wS hSw
  have y0 := (hSw.cell (p := ⟨b, o, none⟩) (by simpa using hb)).trans c0
  have y1 := (hSw.cell (p := ⟨b, o + 1, none⟩) (by simpa using hb)).trans c1
  have y2 := (hSw.cell (p := ⟨b, o + 2, none⟩) (by simpa using hb)).trans c2
  have y3 := (hSw.cell (p := ⟨b, o + 3, none⟩) (by simpa using hb)).trans c3
  have y4 := (hSw.cell (p := ⟨b, o + 4, none⟩) (by simpa using hb)).trans c4
  have z0 := (hSw.cell (p := ⟨b2, o2, none⟩) (by simpa using hb2)).trans k0
  have z1 := (hSw.cell (p := ⟨b2, o2 + 1, none⟩) (by simpa using hb2)).trans k1
  have z2 := (hSw.cell (p := ⟨b2, o2 + 2, none⟩) (by simpa using hb2)).trans k2
  have z3 := (hSw.cell (p := ⟨b2, o2 + 3, none⟩) (by simpa using hb2)).trans k3
  have z4 := (hSw.cell (p := ⟨b2, o2 + 4, none⟩) (by simpa using hb2)).trans k4
  clear hSw
  (try dsimp only at hSw)
  go_simp
  try with_reducible rfl
 refine tkH 29 zq ?_
 refine tkH 30 zq ?_
 refine tkH 31 zq ?_
 refine tkH 32 zq ?_
 refine tkH 33 zq ?_
 refine tkH 34 zq ?_
 refine tkJ 35 (v := ?v35) ?h35 zq ?r35
 case h35 =>
  intro wS hSw
  have y0 := (hSw.cell (p := ⟨b, o, none⟩) (by simpa using hb)).trans c0
  have y1 := (hSw.cell (p := ⟨b, o + 1, none⟩) (by simpa using hb)).trans c1
  have y2 := (hSw.cell (p := ⟨b, o + 2, none⟩) (by simpa using hb)).trans c2
  have y3 := (hSw.cell (p := ⟨b, o + 3, none⟩) (by simpa using hb)).trans c3
  have y4 := (hSw.cell (p := ⟨b, o + 4, none⟩) (by simpa using hb)).trans c4
  have z0 := (hSw.cell (p := ⟨b2, o2, none⟩) (by simpa using hb2)).trans k0
  have z1 := (hSw.cell (p := ⟨b2, o2 + 1, none⟩) (by simpa using hb2)).trans k1
  have z2 := (hSw.cell (p := ⟨b2, o2 + 2, none⟩) (by simpa using hb2)).trans k2
  have z3 := (hSw.cell (p := ⟨b2, o2 + 3, none⟩) (by simpa using hb2)).trans k3
  have z4 := (hSw.cell (p := ⟨b2, o2 + 4, none⟩) (by simpa using hb2)).trans k4
  clear hSw
  (try dsimp only at hSw)
  go_simp
  try with_reducible rfl
 refine tkH 36 zq ?_
 refine tkH 37 zq ?_
 refine tkH 38 zq ?_
 refine tkJ 39 (v := ?v39) ?h39 zq ?r39
 case h39 =>
  intro wS hSw
  have y0 := (hSw.cell (p := ⟨b, o, none⟩) (by simpa using hb)).trans c0
  have y1 := (hSw.cell (p := ⟨b, o + 1, none⟩) (by simpa using hb)).trans c1
  have y2 := (hSw.cell (p := ⟨b, o + 2, none⟩) (by simpa using hb)).trans c2
  have y3 := (hSw.cell (p := ⟨b, o + 3, none⟩) (by simpa using hb)).trans c3
  have y4 := (hSw.cell (p := ⟨b, o + 4, none⟩) (by simpa using hb)).trans c4
  have z0 := (hSw.cell (p := ⟨b2, o2, none⟩) (by simpa using hb2)).trans k0
  have z1 := (hSw.cell (p := ⟨b2, o2 + 1, none⟩) (by simpa using hb2)).trans k1
  have z2 := (hSw.cell (p := ⟨b2, o2 + 2, none⟩) (by simpa using hb2)).trans k2
  have z3 := (hSw.cell (p := ⟨b2, o2 + 3, none⟩) (by simpa using hb2)).trans k3
  have z4 := (hSw.cell (p := ⟨b2, o2 + 4, none⟩) (by simpa using hb2)).trans k4
  clear hSw
  (try dsimp only at hSw)
  go_simp
  try with_reducible rfl
 refine tkH 40 zq ?_
 refine tkH 41 zq ?_
 refine tkH 42 zq ?_
 refine tkH 43 zq ?_
 refine tkH 44 zq ?_
 refine tkH 45 zq ?_
 refine tkJ 46 (v := ?v46) ?h46 zq ?r46
 case h46 =>
  intro wS hSw
  have y0 := (hSw.cell (p := ⟨b, o, none⟩) (by simpa using hb)).trans c0
  have y1 := (hSw.cell (p := ⟨b, o + 1, none⟩) (by simpa using hb)).trans c1
  have y2 := (hSw.cell (p := ⟨b, o + 2, none⟩) (by simpa using hb)).trans c2
  have y3 := (hSw.cell (p := ⟨b, o + 3, none⟩) (by simpa using hb)).trans c3
  have y4 := (hSw.cell (p := ⟨b, o + 4, none⟩) (by simpa using hb)).trans c4
  have z0 := (hSw.cell (p := ⟨b2, o2, none⟩) (by simpa using hb2)).trans k0
  have z1 := (hSw.cell (p := ⟨b2, o2 + 1, none⟩) (by simpa using hb2)).trans k1
  have z2 := (hSw.cell (p := ⟨b2, o2 + 2, none⟩) (by simpa using hb2)).trans k2
  have z3 := (hSw.cell (p := ⟨b2, o2 + 3, none⟩) (by simpa using hb2)).trans k3
  have z4 := (hSw.cell (p := ⟨b2, o2 + 4, none⟩) (by simpa using hb2)).trans k4
  clear hSw
  (try dsimp only at hSw)
  go_simp
  try with_reducible rfl
 refine tkH 47 zq ?_
 refine tkH 48 zq ?_
 refine tkH 49 zq ?_
 refine tkJ 50 (v := ?v50) ?h50 zq ?r50
 case h50 =>
  intro wS hSw
  have y0 := (hSw.cell (p := ⟨b, o, none⟩) (by simpa using hb)).trans c0
  have y1 := (hSw.cell (p := ⟨b, o + 1, none⟩) (by simpa using hb)).trans c1
  have y2 := (hSw.cell (p := ⟨b, o + 2, none⟩) (by simpa using hb)).trans c2
  have y3 := (hSw.cell (p := ⟨b, o + 3, none⟩) (by simpa using hb)).trans c3
  have y4 := (hSw.cell (p := ⟨b, o + 4, none⟩) (by simpa using hb)).trans c4
  have z0 := (hSw.cell (p := ⟨b2, o2, none⟩) (by simpa using hb2)).trans k0
  have z1 := (hSw.cell (p := ⟨b2, o2 + 1, none⟩) (by simpa using hb2)).trans k1
  have z2 := (hSw.cell (p := ⟨b2, o2 + 2, none⟩) (by simpa using hb2)).trans k2
  have z3 := (hSw.cell (p := ⟨b2, o2 + 3, none⟩) (by simpa using hb2)).trans k3
  have z4 := (hSw.cell (p := ⟨b2, o2 + 4, none⟩) (by simpa using hb2)).trans k4
  clear hSw
  (try dsimp only at hSw)
  go_simp
  try with_reducible rfl
 refine rdH 51 (fun K hK => ?_)
 go_simp
 go_at_call 300
 refine (l1Same _ _ x.vec y.vec _ (Lay.ints_reads ((uh HR).later zq)) (Lay.ints_reads ((uh HRZ).later zq)) (uh HR).big).mono ?_
 rintro e w3 ⟨rfl, hbw⟩
 try go_wp2_with fail
 refine hK.out _ _ (zq.trans (hbw.mono zq.size)) (fun zq => ?_)
 clear hK K
 try simp only [Act.put, pz, py, px]
 refine tkH 52 zq ?_
 refine tkH 53 zq ?_
 refine wpAnyH_done (by kernel_rfl) ?_ _
 refine NoPanic.normal ?_
 have HB := yh zq
 clear zq
 go_wp2_with fail
 go_ret
 exact ⟨rfl, uh HB⟩
theorem l3Same (b o b2 o2 : Nat) (x y : DWrite) (a2 a2z : Option Addr) (d2 d2z : Nat) (w : World) (hA : w.cell? ⟨b, o, none⟩ = some (.int .i64 x.kind) ∧ w.cell? ⟨b, o + 1, none⟩ = some (.int .i64 x.id) ∧ w.cell? ⟨b, o + 2, none⟩ = some (.slice a2 x.vec.length d2) ∧ w.cell? ⟨b, o + 3, none⟩ = some (.int .i64 x.session) ∧ w.cell? ⟨b, o + 4, none⟩ = some (.int .i64 x.seq)) (hZ : w.cell? ⟨b2, o2, none⟩ = some (.int .i64 y.kind) ∧ w.cell? ⟨b2, o2 + 1, none⟩ = some (.int .i64 y.id) ∧ w.cell? ⟨b2, o2 + 2, none⟩ = some (.slice a2z y.vec.length d2z) ∧ w.cell? ⟨b2, o2 + 3, none⟩ = some (.int .i64 y.session) ∧ w.cell? ⟨b2, o2 + 4, none⟩ = some (.int .i64 y.seq)) (R : (Lay.sl Lay.int).Reads w [.slice a2 x.vec.length d2] x.vec) (Rz : (Lay.sl Lay.int).Reads w [.slice a2z y.vec.length d2z] y.vec) :
  Calls Tryz.prog 269 #[.pointer (some ⟨b, o, none⟩), .pointer (some ⟨b2, o2, none⟩)] w fun e w' => e = .returned (.bool (sameW x y)) ∧ Below w.heap.size w w' := by
 cases e0 : (x.kind == y.kind) with
 | false => rw [show sameW x y = false by simp [sameW, e0]]; exact l3Same_0 b o b2 o2 x y a2 a2z d2 d2z w hA hZ e0
 | true =>
  cases e1 : (x.id == y.id) with
  | false => rw [show sameW x y = false by simp [sameW, e1]]; exact l3Same_1 b o b2 o2 x y a2 a2z d2 d2z w hA hZ e0 e1
  | true =>
   cases e2 : (x.session == y.session) with
   | false => rw [show sameW x y = false by simp [sameW, e2]]; exact l3Same_2 b o b2 o2 x y a2 a2z d2 d2z w hA hZ e0 e1 e2
   | true =>
    cases e3 : (x.seq == y.seq) with
    | false => rw [show sameW x y = false by simp [sameW, e3]]; exact l3Same_3 b o b2 o2 x y a2 a2z d2 d2z w hA hZ e0 e1 e2 e3
    | true => rw [show sameW x y = decide (x.vec = y.vec) by simp [sameW, e0, e1, e2, e3]]; exact l3Same_4 b o b2 o2 x y a2 a2z d2 d2z w hA hZ e0 e1 e2 e3 R Rz
theorem l11Same_0 (b o b2 o2 : Nat) (x y : DMsg) (a a2 : Option Addr) (d d2 : Nat) (w : World) (hA : MsgAt w b o x (.slice a x.write.vec.length d)) (hZ : MsgAt w b2 o2 y (.slice a2 y.write.vec.length d2)) (R : (Lay.sl Lay.int).Reads w [.slice a x.write.vec.length d] x.write.vec) (Rz : (Lay.sl Lay.int).Reads w [.slice a2 y.write.vec.length d2] y.write.vec) (e0 : (x.kind == y.kind) = false) :
  Calls Tryz.prog 211 #[.pointer (some ⟨b, o, none⟩), .pointer (some ⟨b2, o2, none⟩)] w fun e w' => e = .returned (.bool (false)) ∧ Below w.heap.size w w' := by
 have L : Hid (∀ W, Below w.heap.size w W → Calls Tryz.prog 269 #[.pointer (some ⟨b, o + 5, none⟩), .pointer (some ⟨b2, o2 + 5, none⟩)] W fun e w' => e = .returned (.bool (sameW x.write y.write)) ∧ Below W.heap.size W w') := fun W hW => by
  obtain ⟨-, -, -, -, -, c5, c6, c7, c8, c9⟩ := hA.later hW
  obtain ⟨-, -, -, -, -, k5, k6, k7, k8, k9⟩ := hZ.later hW
  exact l3Same b (o + 5) b2 (o2 + 5) x.write y.write a a2 d d2 W ⟨c5, c6, c7, c8, c9⟩ ⟨k5, k6, k7, k8, k9⟩ (R.later hW) (Rz.later hW)
 obtain ⟨c0, c1, c2, c3, c4, -, -, -, -, -⟩ := hA
 obtain ⟨k0, k1, k2, k3, k4, -, -, -, -, -⟩ := hZ
 have hb := World.block_lt_of_cell? _ _ c0
 have hb2 := World.block_lt_of_cell? _ _ k0
 clear R Rz
 go_enter Tryz.func211, Tryz.ntmps211
 go_wp2_with fail
 clear L
 refine wp_region_noPanic ?_
 refine wp_region_held_drew (S := fun w' => Below w.heap.size w w') (by kernel_rfl) (Below.refl _ _).drew (fun zq => ?_)
 generalize w.drew = wD at zq ⊢
 refine tkH 0 zq ?_
 refine tkH 1 zq ?_
 refine tkH 2 zq ?_
 refine tkJ 3 (v := ?v3_4) ?h3_4 zq ?r3_4
 case h3_4 =>
  intro wS hSw
  have q := (hSw.cell (p := ⟨b, o, none⟩) hb).trans c0
  clear hSw
  (try dsimp only at hSw)
  go_simp
  try with_reducible rfl
 refine tkH 4 zq ?_
 refine tkH 5 zq ?_
 refine tkH 6 zq ?_
 refine tkJ 7 (v := ?v7_8) ?h7_8 zq ?r7_8
 case h7_8 =>
  intro wS hSw
  have q := (hSw.cell (p := ⟨b2, o2, none⟩) hb2).trans k0
  clear hSw
  (try dsimp only at hSw)
  go_simp
  try with_reducible rfl
 refine tkH 8 zq ?_
 refine tkH 9 zq ?_
 refine skH 10 zq ?_
 refine skH 11 zq ?_
 refine skH 12 zq ?_
 refine skH 13 zq ?_
 refine skH 14 zq ?_
 refine skH 15 zq ?_
 refine skH 16 zq ?_
 refine skH 17 zq ?_
 refine skH 18 zq ?_
 refine tkH 19 zq ?_
 refine tkH 20 zq ?_
 refine skH 21 zq ?_
 refine skH 22 zq ?_
 refine skH 23 zq ?_
 refine skH 24 zq ?_
 refine skH 25 zq ?_
 refine skH 26 zq ?_
 refine skH 27 zq ?_
 refine skH 28 zq ?_
 refine skH 29 zq ?_
 refine tkH 30 zq ?_
 refine tkH 31 zq ?_
 refine skH 32 zq ?_
 refine skH 33 zq ?_
 refine skH 34 zq ?_
 refine skH 35 zq ?_
 refine skH 36 zq ?_
 refine skH 37 zq ?_
 refine skH 38 zq ?_
 refine skH 39 zq ?_
 refine skH 40 zq ?_
 refine tkH 41 zq ?_
 refine tkH 42 zq ?_
 refine skH 43 zq ?_
 refine skH 44 zq ?_
 refine skH 45 zq ?_
 refine skH 46 zq ?_
 refine skH 47 zq ?_
 refine skH 48 zq ?_
 refine skH 49 zq ?_
 refine skH 50 zq ?_
 refine skH 51 zq ?_
 refine tkH 52 zq ?_
 refine tkH 53 zq ?_
 refine skH 54 zq ?_
 refine skH 55 zq ?_
 refine skH 56 zq ?_
 refine skH 57 zq ?_
 refine skH 58 zq ?_
 refine skH 59 zq ?_
 refine skH 60 zq ?_
 refine tkH 61 zq ?_
 refine tkH 62 zq ?_
 refine wpAnyH_done (by kernel_rfl) ?_ _
 refine NoPanic.normal ?_
 have HB9 := yh zq
 clear zq
 go_wp2_with fail
 go_ret
 exact ⟨rfl, uh HB9⟩
theorem l11Same_1 (b o b2 o2 : Nat) (x y : DMsg) (a a2 : Option Addr) (d d2 : Nat) (w : World) (hA : MsgAt w b o x (.slice a x.write.vec.length d)) (hZ : MsgAt w b2 o2 y (.slice a2 y.write.vec.length d2)) (R : (Lay.sl Lay.int).Reads w [.slice a x.write.vec.length d] x.write.vec) (Rz : (Lay.sl Lay.int).Reads w [.slice a2 y.write.vec.length d2] y.write.vec) (e0 : (x.kind == y.kind) = true) (e1 : (x.epoch == y.epoch) = false) :
  Calls Tryz.prog 211 #[.pointer (some ⟨b, o, none⟩), .pointer (some ⟨b2, o2, none⟩)] w fun e w' => e = .returned (.bool (false)) ∧ Below w.heap.size w w' := by
 have L : Hid (∀ W, Below w.heap.size w W → Calls Tryz.prog 269 #[.pointer (some ⟨b, o + 5, none⟩), .pointer (some ⟨b2, o2 + 5, none⟩)] W fun e w' => e = .returned (.bool (sameW x.write y.write)) ∧ Below W.heap.size W w') := fun W hW => by
  obtain ⟨-, -, -, -, -, c5, c6, c7, c8, c9⟩ := hA.later hW
  obtain ⟨-, -, -, -, -, k5, k6, k7, k8, k9⟩ := hZ.later hW
  exact l3Same b (o + 5) b2 (o2 + 5) x.write y.write a a2 d d2 W ⟨c5, c6, c7, c8, c9⟩ ⟨k5, k6, k7, k8, k9⟩ (R.later hW) (Rz.later hW)
 obtain ⟨c0, c1, c2, c3, c4, -, -, -, -, -⟩ := hA
 obtain ⟨k0, k1, k2, k3, k4, -, -, -, -, -⟩ := hZ
 have hb := World.block_lt_of_cell? _ _ c0
 have hb2 := World.block_lt_of_cell? _ _ k0
 clear R Rz
 go_enter Tryz.func211, Tryz.ntmps211
 go_wp2_with fail
 clear L
 refine wp_region_noPanic ?_
 refine wp_region_held_drew (S := fun w' => Below w.heap.size w w') (by kernel_rfl) (Below.refl _ _).drew (fun zq => ?_)
 generalize w.drew = wD at zq ⊢
 refine tkH 0 zq ?_
 refine tkH 1 zq ?_
 refine tkH 2 zq ?_
 refine tkJ 3 (v := ?v3_4) ?h3_4 zq ?r3_4
 case h3_4 =>
  intro wS hSw
  have q := (hSw.cell (p := ⟨b, o, none⟩) hb).trans c0
  clear hSw
  (try dsimp only at hSw)
  go_simp
  try with_reducible rfl
 refine tkH 4 zq ?_
 refine tkH 5 zq ?_
 refine tkH 6 zq ?_
 refine tkJ 7 (v := ?v7_8) ?h7_8 zq ?r7_8
 case h7_8 =>
  intro wS hSw
  have q := (hSw.cell (p := ⟨b2, o2, none⟩) hb2).trans k0
  clear hSw
  (try dsimp only at hSw)
  go_simp
  try with_reducible rfl
 refine tkH 8 zq ?_
 refine tkH 9 zq ?_
 refine tkH 10 zq ?_
 refine tkH 11 zq ?_
 refine tkH 12 zq ?_
 refine tkJ 13 (v := ?v13_14) ?h13_14 zq ?r13_14
 case h13_14 =>
  intro wS hSw
  have q := (hSw.cell (p := ⟨b, o + 1, none⟩) hb).trans c1
  clear hSw
  (try dsimp only at hSw)
  go_simp
  try with_reducible rfl
 refine tkH 14 zq ?_
 refine tkH 15 zq ?_
 refine tkH 16 zq ?_
 refine tkJ 17 (v := ?v17_18) ?h17_18 zq ?r17_18
 case h17_18 =>
  intro wS hSw
  have q := (hSw.cell (p := ⟨b2, o2 + 1, none⟩) hb2).trans k1
  clear hSw
  (try dsimp only at hSw)
  go_simp
  try with_reducible rfl
 refine tkH 18 zq ?_
 refine tkH 19 zq ?_
 refine tkH 20 zq ?_
 refine skH 21 zq ?_
 refine skH 22 zq ?_
 refine skH 23 zq ?_
 refine skH 24 zq ?_
 refine skH 25 zq ?_
 refine skH 26 zq ?_
 refine skH 27 zq ?_
 refine skH 28 zq ?_
 refine skH 29 zq ?_
 refine tkH 30 zq ?_
 refine tkH 31 zq ?_
 refine skH 32 zq ?_
 refine skH 33 zq ?_
 refine skH 34 zq ?_
 refine skH 35 zq ?_
 refine skH 36 zq ?_
 refine skH 37 zq ?_
 refine skH 38 zq ?_
 refine skH 39 zq ?_
 refine skH 40 zq ?_
 refine tkH 41 zq ?_
 refine tkH 42 zq ?_
 refine skH 43 zq ?_
 refine skH 44 zq ?_
 refine skH 45 zq ?_
 refine skH 46 zq ?_
 refine skH 47 zq ?_
 refine skH 48 zq ?_
 refine skH 49 zq ?_
 refine skH 50 zq ?_
 refine skH 51 zq ?_
 refine tkH 52 zq ?_
 refine tkH 53 zq ?_
 refine skH 54 zq ?_
 refine skH 55 zq ?_
 refine skH 56 zq ?_
 refine skH 57 zq ?_
 refine skH 58 zq ?_
 refine skH 59 zq ?_
 refine skH 60 zq ?_
 refine tkH 61 zq ?_
 refine tkH 62 zq ?_
 refine wpAnyH_done (by kernel_rfl) ?_ _
 refine NoPanic.normal ?_
 have HB9 := yh zq
 clear zq
 go_wp2_with fail
 go_ret
 exact ⟨rfl, uh HB9⟩
theorem l11Same_2 (b o b2 o2 : Nat) (x y : DMsg) (a a2 : Option Addr) (d d2 : Nat) (w : World) (hA : MsgAt w b o x (.slice a x.write.vec.length d)) (hZ : MsgAt w b2 o2 y (.slice a2 y.write.vec.length d2)) (R : (Lay.sl Lay.int).Reads w [.slice a x.write.vec.length d] x.write.vec) (Rz : (Lay.sl Lay.int).Reads w [.slice a2 y.write.vec.length d2] y.write.vec) (e0 : (x.kind == y.kind) = true) (e1 : (x.epoch == y.epoch) = true) (e2 : (x.src == y.src) = false) :
  Calls Tryz.prog 211 #[.pointer (some ⟨b, o, none⟩), .pointer (some ⟨b2, o2, none⟩)] w fun e w' => e = .returned (.bool (false)) ∧ Below w.heap.size w w' := by
 have L : Hid (∀ W, Below w.heap.size w W → Calls Tryz.prog 269 #[.pointer (some ⟨b, o + 5, none⟩), .pointer (some ⟨b2, o2 + 5, none⟩)] W fun e w' => e = .returned (.bool (sameW x.write y.write)) ∧ Below W.heap.size W w') := fun W hW => by
  obtain ⟨-, -, -, -, -, c5, c6, c7, c8, c9⟩ := hA.later hW
  obtain ⟨-, -, -, -, -, k5, k6, k7, k8, k9⟩ := hZ.later hW
  exact l3Same b (o + 5) b2 (o2 + 5) x.write y.write a a2 d d2 W ⟨c5, c6, c7, c8, c9⟩ ⟨k5, k6, k7, k8, k9⟩ (R.later hW) (Rz.later hW)
 obtain ⟨c0, c1, c2, c3, c4, -, -, -, -, -⟩ := hA
 obtain ⟨k0, k1, k2, k3, k4, -, -, -, -, -⟩ := hZ
 have hb := World.block_lt_of_cell? _ _ c0
 have hb2 := World.block_lt_of_cell? _ _ k0
 clear R Rz
 go_enter Tryz.func211, Tryz.ntmps211
 go_wp2_with fail
 clear L
 refine wp_region_noPanic ?_
 refine wp_region_held_drew (S := fun w' => Below w.heap.size w w') (by kernel_rfl) (Below.refl _ _).drew (fun zq => ?_)
 generalize w.drew = wD at zq ⊢
 refine tkH 0 zq ?_
 refine tkH 1 zq ?_
 refine tkH 2 zq ?_
 refine tkJ 3 (v := ?v3_4) ?h3_4 zq ?r3_4
 case h3_4 =>
  intro wS hSw
  have q := (hSw.cell (p := ⟨b, o, none⟩) hb).trans c0
  clear hSw
  (try dsimp only at hSw)
  go_simp
  try with_reducible rfl
 refine tkH 4 zq ?_
 refine tkH 5 zq ?_
 refine tkH 6 zq ?_
 refine tkJ 7 (v := ?v7_8) ?h7_8 zq ?r7_8
 case h7_8 =>
  intro wS hSw
  have q := (hSw.cell (p := ⟨b2, o2, none⟩) hb2).trans k0
  clear hSw
  (try dsimp only at hSw)
  go_simp
  try with_reducible rfl
 refine tkH 8 zq ?_
 refine tkH 9 zq ?_
 refine tkH 10 zq ?_
 refine tkH 11 zq ?_
 refine tkH 12 zq ?_
 refine tkJ 13 (v := ?v13_14) ?h13_14 zq ?r13_14
 case h13_14 =>
  intro wS hSw
  have q := (hSw.cell (p := ⟨b, o + 1, none⟩) hb).trans c1
  clear hSw
  (try dsimp only at hSw)
  go_simp
  try with_reducible rfl
 refine tkH 14 zq ?_
 refine tkH 15 zq ?_
 refine tkH 16 zq ?_
 refine tkJ 17 (v := ?v17_18) ?h17_18 zq ?r17_18
 case h17_18 =>
  intro wS hSw
  have q := (hSw.cell (p := ⟨b2, o2 + 1, none⟩) hb2).trans k1
  clear hSw
  (try dsimp only at hSw)
  go_simp
  try with_reducible rfl
 refine tkH 18 zq ?_
 refine tkH 19 zq ?_
 refine tkH 20 zq ?_
 refine tkH 21 zq ?_
 refine tkH 22 zq ?_
 refine tkH 23 zq ?_
 refine tkJ 24 (v := ?v24_25) ?h24_25 zq ?r24_25
 case h24_25 =>
  intro wS hSw
  have q := (hSw.cell (p := ⟨b, o + 2, none⟩) hb).trans c2
  clear hSw
  (try dsimp only at hSw)
  go_simp
  try with_reducible rfl
 refine tkH 25 zq ?_
 refine tkH 26 zq ?_
 refine tkH 27 zq ?_
 refine tkJ 28 (v := ?v28_29) ?h28_29 zq ?r28_29
 case h28_29 =>
  intro wS hSw
  have q := (hSw.cell (p := ⟨b2, o2 + 2, none⟩) hb2).trans k2
  clear hSw
  (try dsimp only at hSw)
  go_simp
  try with_reducible rfl
 refine tkH 29 zq ?_
 refine tkH 30 zq ?_
 refine tkH 31 zq ?_
 refine skH 32 zq ?_
 refine skH 33 zq ?_
 refine skH 34 zq ?_
 refine skH 35 zq ?_
 refine skH 36 zq ?_
 refine skH 37 zq ?_
 refine skH 38 zq ?_
 refine skH 39 zq ?_
 refine skH 40 zq ?_
 refine tkH 41 zq ?_
 refine tkH 42 zq ?_
 refine skH 43 zq ?_
 refine skH 44 zq ?_
 refine skH 45 zq ?_
 refine skH 46 zq ?_
 refine skH 47 zq ?_
 refine skH 48 zq ?_
 refine skH 49 zq ?_
 refine skH 50 zq ?_
 refine skH 51 zq ?_
 refine tkH 52 zq ?_
 refine tkH 53 zq ?_
 refine skH 54 zq ?_
 refine skH 55 zq ?_
 refine skH 56 zq ?_
 refine skH 57 zq ?_
 refine skH 58 zq ?_
 refine skH 59 zq ?_
 refine skH 60 zq ?_
 refine tkH 61 zq ?_
 refine tkH 62 zq ?_
 refine wpAnyH_done (by kernel_rfl) ?_ _
 refine NoPanic.normal ?_
 have HB9 := yh zq
 clear zq
 go_wp2_with fail
 go_ret
 exact ⟨rfl, uh HB9⟩
theorem l11Same_3 (b o b2 o2 : Nat) (x y : DMsg) (a a2 : Option Addr) (d d2 : Nat) (w : World) (hA : MsgAt w b o x (.slice a x.write.vec.length d)) (hZ : MsgAt w b2 o2 y (.slice a2 y.write.vec.length d2)) (R : (Lay.sl Lay.int).Reads w [.slice a x.write.vec.length d] x.write.vec) (Rz : (Lay.sl Lay.int).Reads w [.slice a2 y.write.vec.length d2] y.write.vec) (e0 : (x.kind == y.kind) = true) (e1 : (x.epoch == y.epoch) = true) (e2 : (x.src == y.src) = true) (e3 : (x.dst == y.dst) = false) :
  Calls Tryz.prog 211 #[.pointer (some ⟨b, o, none⟩), .pointer (some ⟨b2, o2, none⟩)] w fun e w' => e = .returned (.bool (false)) ∧ Below w.heap.size w w' := by
 have L : Hid (∀ W, Below w.heap.size w W → Calls Tryz.prog 269 #[.pointer (some ⟨b, o + 5, none⟩), .pointer (some ⟨b2, o2 + 5, none⟩)] W fun e w' => e = .returned (.bool (sameW x.write y.write)) ∧ Below W.heap.size W w') := fun W hW => by
  obtain ⟨-, -, -, -, -, c5, c6, c7, c8, c9⟩ := hA.later hW
  obtain ⟨-, -, -, -, -, k5, k6, k7, k8, k9⟩ := hZ.later hW
  exact l3Same b (o + 5) b2 (o2 + 5) x.write y.write a a2 d d2 W ⟨c5, c6, c7, c8, c9⟩ ⟨k5, k6, k7, k8, k9⟩ (R.later hW) (Rz.later hW)
 obtain ⟨c0, c1, c2, c3, c4, -, -, -, -, -⟩ := hA
 obtain ⟨k0, k1, k2, k3, k4, -, -, -, -, -⟩ := hZ
 have hb := World.block_lt_of_cell? _ _ c0
 have hb2 := World.block_lt_of_cell? _ _ k0
 clear R Rz
 go_enter Tryz.func211, Tryz.ntmps211
 go_wp2_with fail
 clear L
 refine wp_region_noPanic ?_
 refine wp_region_held_drew (S := fun w' => Below w.heap.size w w') (by kernel_rfl) (Below.refl _ _).drew (fun zq => ?_)
 generalize w.drew = wD at zq ⊢
 refine tkH 0 zq ?_
 refine tkH 1 zq ?_
 refine tkH 2 zq ?_
 refine tkJ 3 (v := ?v3_4) ?h3_4 zq ?r3_4
 case h3_4 =>
  intro wS hSw
  have q := (hSw.cell (p := ⟨b, o, none⟩) hb).trans c0
  clear hSw
  (try dsimp only at hSw)
  go_simp
  try with_reducible rfl
 refine tkH 4 zq ?_
 refine tkH 5 zq ?_
 refine tkH 6 zq ?_
 refine tkJ 7 (v := ?v7_8) ?h7_8 zq ?r7_8
 case h7_8 =>
  intro wS hSw
  have q := (hSw.cell (p := ⟨b2, o2, none⟩) hb2).trans k0
  clear hSw
  (try dsimp only at hSw)
  go_simp
  try with_reducible rfl
 refine tkH 8 zq ?_
 refine tkH 9 zq ?_
 refine tkH 10 zq ?_
 refine tkH 11 zq ?_
 refine tkH 12 zq ?_
 refine tkJ 13 (v := ?v13_14) ?h13_14 zq ?r13_14
 case h13_14 =>
  intro wS hSw
  have q := (hSw.cell (p := ⟨b, o + 1, none⟩) hb).trans c1
  clear hSw
  (try dsimp only at hSw)
  go_simp
  try with_reducible rfl
 refine tkH 14 zq ?_
 refine tkH 15 zq ?_
 refine tkH 16 zq ?_
 refine tkJ 17 (v := ?v17_18) ?h17_18 zq ?r17_18
 case h17_18 =>
  intro wS hSw
  have q := (hSw.cell (p := ⟨b2, o2 + 1, none⟩) hb2).trans k1
  clear hSw
  (try dsimp only at hSw)
  go_simp
  try with_reducible rfl
 refine tkH 18 zq ?_
 refine tkH 19 zq ?_
 refine tkH 20 zq ?_
 refine tkH 21 zq ?_
 refine tkH 22 zq ?_
 refine tkH 23 zq ?_
 refine tkJ 24 (v := ?v24_25) ?h24_25 zq ?r24_25
 case h24_25 =>
  intro wS hSw
  have q := (hSw.cell (p := ⟨b, o + 2, none⟩) hb).trans c2
  clear hSw
  (try dsimp only at hSw)
  go_simp
  try with_reducible rfl
 refine tkH 25 zq ?_
 refine tkH 26 zq ?_
 refine tkH 27 zq ?_
 refine tkJ 28 (v := ?v28_29) ?h28_29 zq ?r28_29
 case h28_29 =>
  intro wS hSw
  have q := (hSw.cell (p := ⟨b2, o2 + 2, none⟩) hb2).trans k2
  clear hSw
  (try dsimp only at hSw)
  go_simp
  try with_reducible rfl
 refine tkH 29 zq ?_
 refine tkH 30 zq ?_
 refine tkH 31 zq ?_
 refine tkH 32 zq ?_
 refine tkH 33 zq ?_
 refine tkH 34 zq ?_
 refine tkJ 35 (v := ?v35_36) ?h35_36 zq ?r35_36
 case h35_36 =>
  intro wS hSw
  have q := (hSw.cell (p := ⟨b, o + 3, none⟩) hb).trans c3
  clear hSw
  (try dsimp only at hSw)
  go_simp
  try with_reducible rfl
 refine tkH 36 zq ?_
 refine tkH 37 zq ?_
 refine tkH 38 zq ?_
 refine tkJ 39 (v := ?v39_40) ?h39_40 zq ?r39_40
 case h39_40 =>
  intro wS hSw
  have q := (hSw.cell (p := ⟨b2, o2 + 3, none⟩) hb2).trans k3
  clear hSw
  (try dsimp only at hSw)
  go_simp
  try with_reducible rfl
 refine tkH 40 zq ?_
 refine tkH 41 zq ?_
 refine tkH 42 zq ?_
 refine skH 43 zq ?_
 refine skH 44 zq ?_
 refine skH 45 zq ?_
 refine skH 46 zq ?_
 refine skH 47 zq ?_
 refine skH 48 zq ?_
 refine skH 49 zq ?_
 refine skH 50 zq ?_
 refine skH 51 zq ?_
 refine tkH 52 zq ?_
 refine tkH 53 zq ?_
 refine skH 54 zq ?_
 refine skH 55 zq ?_
 refine skH 56 zq ?_
 refine skH 57 zq ?_
 refine skH 58 zq ?_
 refine skH 59 zq ?_
 refine skH 60 zq ?_
 refine tkH 61 zq ?_
 refine tkH 62 zq ?_
 refine wpAnyH_done (by kernel_rfl) ?_ _
 refine NoPanic.normal ?_
 have HB9 := yh zq
 clear zq
 go_wp2_with fail
 go_ret
 exact ⟨rfl, uh HB9⟩
theorem l11Same_4 (b o b2 o2 : Nat) (x y : DMsg) (a a2 : Option Addr) (d d2 : Nat) (w : World) (hA : MsgAt w b o x (.slice a x.write.vec.length d)) (hZ : MsgAt w b2 o2 y (.slice a2 y.write.vec.length d2)) (R : (Lay.sl Lay.int).Reads w [.slice a x.write.vec.length d] x.write.vec) (Rz : (Lay.sl Lay.int).Reads w [.slice a2 y.write.vec.length d2] y.write.vec) (e0 : (x.kind == y.kind) = true) (e1 : (x.epoch == y.epoch) = true) (e2 : (x.src == y.src) = true) (e3 : (x.dst == y.dst) = true) (e4 : (x.index == y.index) = false) :
  Calls Tryz.prog 211 #[.pointer (some ⟨b, o, none⟩), .pointer (some ⟨b2, o2, none⟩)] w fun e w' => e = .returned (.bool (false)) ∧ Below w.heap.size w w' := by
 have L : Hid (∀ W, Below w.heap.size w W → Calls Tryz.prog 269 #[.pointer (some ⟨b, o + 5, none⟩), .pointer (some ⟨b2, o2 + 5, none⟩)] W fun e w' => e = .returned (.bool (sameW x.write y.write)) ∧ Below W.heap.size W w') := fun W hW => by
  obtain ⟨-, -, -, -, -, c5, c6, c7, c8, c9⟩ := hA.later hW
  obtain ⟨-, -, -, -, -, k5, k6, k7, k8, k9⟩ := hZ.later hW
  exact l3Same b (o + 5) b2 (o2 + 5) x.write y.write a a2 d d2 W ⟨c5, c6, c7, c8, c9⟩ ⟨k5, k6, k7, k8, k9⟩ (R.later hW) (Rz.later hW)
 obtain ⟨c0, c1, c2, c3, c4, -, -, -, -, -⟩ := hA
 obtain ⟨k0, k1, k2, k3, k4, -, -, -, -, -⟩ := hZ
 have hb := World.block_lt_of_cell? _ _ c0
 have hb2 := World.block_lt_of_cell? _ _ k0
 clear R Rz
 go_enter Tryz.func211, Tryz.ntmps211
 go_wp2_with fail
 clear L
 refine wp_region_noPanic ?_
 refine wp_region_held_drew (S := fun w' => Below w.heap.size w w') (by kernel_rfl) (Below.refl _ _).drew (fun zq => ?_)
 generalize w.drew = wD at zq ⊢
 refine tkH 0 zq ?_
 refine tkH 1 zq ?_
 refine tkH 2 zq ?_
 refine tkJ 3 (v := ?v3_4) ?h3_4 zq ?r3_4
 case h3_4 =>
  intro wS hSw
  have q := (hSw.cell (p := ⟨b, o, none⟩) hb).trans c0
  clear hSw
  (try dsimp only at hSw)
  go_simp
  try with_reducible rfl
 refine tkH 4 zq ?_
 refine tkH 5 zq ?_
 refine tkH 6 zq ?_
 refine tkJ 7 (v := ?v7_8) ?h7_8 zq ?r7_8
 case h7_8 =>
  intro wS hSw
  have q := (hSw.cell (p := ⟨b2, o2, none⟩) hb2).trans k0
  clear hSw
  (try dsimp only at hSw)
  go_simp
  try with_reducible rfl
 refine tkH 8 zq ?_
 refine tkH 9 zq ?_
 refine tkH 10 zq ?_
 refine tkH 11 zq ?_
 refine tkH 12 zq ?_
 refine tkJ 13 (v := ?v13_14) ?h13_14 zq ?r13_14
 case h13_14 =>
  intro wS hSw
  have q := (hSw.cell (p := ⟨b, o + 1, none⟩) hb).trans c1
  clear hSw
  (try dsimp only at hSw)
  go_simp
  try with_reducible rfl
 refine tkH 14 zq ?_
 refine tkH 15 zq ?_
 refine tkH 16 zq ?_
 refine tkJ 17 (v := ?v17_18) ?h17_18 zq ?r17_18
 case h17_18 =>
  intro wS hSw
  have q := (hSw.cell (p := ⟨b2, o2 + 1, none⟩) hb2).trans k1
  clear hSw
  (try dsimp only at hSw)
  go_simp
  try with_reducible rfl
 refine tkH 18 zq ?_
 refine tkH 19 zq ?_
 refine tkH 20 zq ?_
 refine tkH 21 zq ?_
 refine tkH 22 zq ?_
 refine tkH 23 zq ?_
 refine tkJ 24 (v := ?v24_25) ?h24_25 zq ?r24_25
 case h24_25 =>
  intro wS hSw
  have q := (hSw.cell (p := ⟨b, o + 2, none⟩) hb).trans c2
  clear hSw
  (try dsimp only at hSw)
  go_simp
  try with_reducible rfl
 refine tkH 25 zq ?_
 refine tkH 26 zq ?_
 refine tkH 27 zq ?_
 refine tkJ 28 (v := ?v28_29) ?h28_29 zq ?r28_29
 case h28_29 =>
  intro wS hSw
  have q := (hSw.cell (p := ⟨b2, o2 + 2, none⟩) hb2).trans k2
  clear hSw
  (try dsimp only at hSw)
  go_simp
  try with_reducible rfl
 refine tkH 29 zq ?_
 refine tkH 30 zq ?_
 refine tkH 31 zq ?_
 refine tkH 32 zq ?_
 refine tkH 33 zq ?_
 refine tkH 34 zq ?_
 refine tkJ 35 (v := ?v35_36) ?h35_36 zq ?r35_36
 case h35_36 =>
  intro wS hSw
  have q := (hSw.cell (p := ⟨b, o + 3, none⟩) hb).trans c3
  clear hSw
  (try dsimp only at hSw)
  go_simp
  try with_reducible rfl
 refine tkH 36 zq ?_
 refine tkH 37 zq ?_
 refine tkH 38 zq ?_
 refine tkJ 39 (v := ?v39_40) ?h39_40 zq ?r39_40
 case h39_40 =>
  intro wS hSw
  have q := (hSw.cell (p := ⟨b2, o2 + 3, none⟩) hb2).trans k3
  clear hSw
  (try dsimp only at hSw)
  go_simp
  try with_reducible rfl
 refine tkH 40 zq ?_
 refine tkH 41 zq ?_
 refine tkH 42 zq ?_
 refine tkH 43 zq ?_
 refine tkH 44 zq ?_
 refine tkH 45 zq ?_
 refine tkJ 46 (v := ?v46_47) ?h46_47 zq ?r46_47
 case h46_47 =>
  intro wS hSw
  have q := (hSw.cell (p := ⟨b, o + 4, none⟩) hb).trans c4
  clear hSw
  (try dsimp only at hSw)
  go_simp
  try with_reducible rfl
 refine tkH 47 zq ?_
 refine tkH 48 zq ?_
 refine tkH 49 zq ?_
 refine tkJ 50 (v := ?v50_51) ?h50_51 zq ?r50_51
 case h50_51 =>
  intro wS hSw
  have q := (hSw.cell (p := ⟨b2, o2 + 4, none⟩) hb2).trans k4
  clear hSw
  (try dsimp only at hSw)
  go_simp
  try with_reducible rfl
 refine tkH 51 zq ?_
 refine tkH 52 zq ?_
 refine tkH 53 zq ?_
 refine skH 54 zq ?_
 refine skH 55 zq ?_
 refine skH 56 zq ?_
 refine skH 57 zq ?_
 refine skH 58 zq ?_
 refine skH 59 zq ?_
 refine skH 60 zq ?_
 refine tkH 61 zq ?_
 refine tkH 62 zq ?_
 refine wpAnyH_done (by kernel_rfl) ?_ _
 refine NoPanic.normal ?_
 have HB9 := yh zq
 clear zq
 go_wp2_with fail
 go_ret
 exact ⟨rfl, uh HB9⟩
theorem l11Same_5 (b o b2 o2 : Nat) (x y : DMsg) (a a2 : Option Addr) (d d2 : Nat) (w : World) (hA : MsgAt w b o x (.slice a x.write.vec.length d)) (hZ : MsgAt w b2 o2 y (.slice a2 y.write.vec.length d2)) (R : (Lay.sl Lay.int).Reads w [.slice a x.write.vec.length d] x.write.vec) (Rz : (Lay.sl Lay.int).Reads w [.slice a2 y.write.vec.length d2] y.write.vec) (e0 : (x.kind == y.kind) = true) (e1 : (x.epoch == y.epoch) = true) (e2 : (x.src == y.src) = true) (e3 : (x.dst == y.dst) = true) (e4 : (x.index == y.index) = true) :
  Calls Tryz.prog 211 #[.pointer (some ⟨b, o, none⟩), .pointer (some ⟨b2, o2, none⟩)] w fun e w' => e = .returned (.bool (sameW x.write y.write)) ∧ Below w.heap.size w w' := by
 have L : Hid (∀ W, Below w.heap.size w W → Calls Tryz.prog 269 #[.pointer (some ⟨b, o + 5, none⟩), .pointer (some ⟨b2, o2 + 5, none⟩)] W fun e w' => e = .returned (.bool (sameW x.write y.write)) ∧ Below W.heap.size W w') := fun W hW => by
  obtain ⟨-, -, -, -, -, c5, c6, c7, c8, c9⟩ := hA.later hW
  obtain ⟨-, -, -, -, -, k5, k6, k7, k8, k9⟩ := hZ.later hW
  exact l3Same b (o + 5) b2 (o2 + 5) x.write y.write a a2 d d2 W ⟨c5, c6, c7, c8, c9⟩ ⟨k5, k6, k7, k8, k9⟩ (R.later hW) (Rz.later hW)
 obtain ⟨c0, c1, c2, c3, c4, -, -, -, -, -⟩ := hA
 obtain ⟨k0, k1, k2, k3, k4, -, -, -, -, -⟩ := hZ
 have hb := World.block_lt_of_cell? _ _ c0
 have hb2 := World.block_lt_of_cell? _ _ k0
 clear R Rz
 go_enter Tryz.func211, Tryz.ntmps211
 go_wp2_with fail
 refine wp_region_noPanic ?_
 refine wp_region_held_drew (S := fun w' => Below w.heap.size w w') (by kernel_rfl) (Below.refl _ _).drew (fun zq => ?_)
 generalize w.drew = wD at zq ⊢
 refine tkH 0 zq ?_
 refine tkH 1 zq ?_
 refine tkH 2 zq ?_
 refine tkJ 3 (v := ?v3_4) ?h3_4 zq ?r3_4
 case h3_4 =>
  intro wS hSw
  have q := (hSw.cell (p := ⟨b, o, none⟩) hb).trans c0
  clear hSw
  (try dsimp only at hSw)
  go_simp
  try with_reducible rfl
 refine tkH 4 zq ?_
 refine tkH 5 zq ?_
 refine tkH 6 zq ?_
 refine tkJ 7 (v := ?v7_8) ?h7_8 zq ?r7_8
 case h7_8 =>
  intro wS hSw
  have q := (hSw.cell (p := ⟨b2, o2, none⟩) hb2).trans k0
  clear hSw
  (try dsimp only at hSw)
  go_simp
  try with_reducible rfl
 refine tkH 8 zq ?_
 refine tkH 9 zq ?_
 refine tkH 10 zq ?_
 refine tkH 11 zq ?_
 refine tkH 12 zq ?_
 refine tkJ 13 (v := ?v13_14) ?h13_14 zq ?r13_14
 case h13_14 =>
  intro wS hSw
  have q := (hSw.cell (p := ⟨b, o + 1, none⟩) hb).trans c1
  clear hSw
  (try dsimp only at hSw)
  go_simp
  try with_reducible rfl
 refine tkH 14 zq ?_
 refine tkH 15 zq ?_
 refine tkH 16 zq ?_
 refine tkJ 17 (v := ?v17_18) ?h17_18 zq ?r17_18
 case h17_18 =>
  intro wS hSw
  have q := (hSw.cell (p := ⟨b2, o2 + 1, none⟩) hb2).trans k1
  clear hSw
  (try dsimp only at hSw)
  go_simp
  try with_reducible rfl
 refine tkH 18 zq ?_
 refine tkH 19 zq ?_
 refine tkH 20 zq ?_
 refine tkH 21 zq ?_
 refine tkH 22 zq ?_
 refine tkH 23 zq ?_
 refine tkJ 24 (v := ?v24_25) ?h24_25 zq ?r24_25
 case h24_25 =>
  intro wS hSw
  have q := (hSw.cell (p := ⟨b, o + 2, none⟩) hb).trans c2
  clear hSw
  (try dsimp only at hSw)
  go_simp
  try with_reducible rfl
 refine tkH 25 zq ?_
 refine tkH 26 zq ?_
 refine tkH 27 zq ?_
 refine tkJ 28 (v := ?v28_29) ?h28_29 zq ?r28_29
 case h28_29 =>
  intro wS hSw
  have q := (hSw.cell (p := ⟨b2, o2 + 2, none⟩) hb2).trans k2
  clear hSw
  (try dsimp only at hSw)
  go_simp
  try with_reducible rfl
 refine tkH 29 zq ?_
 refine tkH 30 zq ?_
 refine tkH 31 zq ?_
 refine tkH 32 zq ?_
 refine tkH 33 zq ?_
 refine tkH 34 zq ?_
 refine tkJ 35 (v := ?v35_36) ?h35_36 zq ?r35_36
 case h35_36 =>
  intro wS hSw
  have q := (hSw.cell (p := ⟨b, o + 3, none⟩) hb).trans c3
  clear hSw
  (try dsimp only at hSw)
  go_simp
  try with_reducible rfl
 refine tkH 36 zq ?_
 refine tkH 37 zq ?_
 refine tkH 38 zq ?_
 refine tkJ 39 (v := ?v39_40) ?h39_40 zq ?r39_40
 case h39_40 =>
  intro wS hSw
  have q := (hSw.cell (p := ⟨b2, o2 + 3, none⟩) hb2).trans k3
  clear hSw
  (try dsimp only at hSw)
  go_simp
  try with_reducible rfl
 refine tkH 40 zq ?_
 refine tkH 41 zq ?_
 refine tkH 42 zq ?_
 refine tkH 43 zq ?_
 refine tkH 44 zq ?_
 refine tkH 45 zq ?_
 refine tkJ 46 (v := ?v46_47) ?h46_47 zq ?r46_47
 case h46_47 =>
  intro wS hSw
  have q := (hSw.cell (p := ⟨b, o + 4, none⟩) hb).trans c4
  clear hSw
  (try dsimp only at hSw)
  go_simp
  try with_reducible rfl
 refine tkH 47 zq ?_
 refine tkH 48 zq ?_
 refine tkH 49 zq ?_
 refine tkJ 50 (v := ?v50_51) ?h50_51 zq ?r50_51
 case h50_51 =>
  intro wS hSw
  have q := (hSw.cell (p := ⟨b2, o2 + 4, none⟩) hb2).trans k4
  clear hSw
  (try dsimp only at hSw)
  go_simp
  try with_reducible rfl
 refine tkH 51 zq ?_
 refine tkH 52 zq ?_
 refine tkH 53 zq ?_
 refine tkH 54 zq ?_
 refine tkH 55 zq ?_
 refine tkH 56 zq ?_
 refine tkH 57 zq ?_
 refine tkH 58 zq ?_
 refine tkH 59 zq ?_
 refine rdH 60 (fun K hK => ?_)
 go_simp
 go_at_call 269
 refine (uh L _ zq).mono ?_
 rintro e w3 ⟨rfl, hbw⟩
 have hS3 := zq.trans (hbw.mono zq.size)
 clear hbw
 try go_wp2_with fail
 refine hK.out _ _ hS3 (fun zq => ?_)
 clear hK K
 try simp only [Act.put, pz, py, px]
 refine tkH 61 zq ?_
 refine tkH 62 zq ?_
 refine wpAnyH_done (by kernel_rfl) ?_ _
 refine NoPanic.normal ?_
 have HB9 := yh zq
 clear zq
 go_wp2_with fail
 go_ret
 exact ⟨rfl, uh HB9⟩
theorem l11SameC (b o b2 o2 : Nat) (x y : DMsg) (a a2 : Option Addr) (d d2 : Nat) (w : World) (hA : MsgAt w b o x (.slice a x.write.vec.length d)) (hZ : MsgAt w b2 o2 y (.slice a2 y.write.vec.length d2)) (R : (Lay.sl Lay.int).Reads w [.slice a x.write.vec.length d] x.write.vec) (Rz : (Lay.sl Lay.int).Reads w [.slice a2 y.write.vec.length d2] y.write.vec) :
  Calls Tryz.prog 211 #[.pointer (some ⟨b, o, none⟩), .pointer (some ⟨b2, o2, none⟩)] w fun e w' => e = .returned (.bool (sameM x y)) ∧ Below w.heap.size w w' := by
 cases e0 : (x.kind == y.kind)
 ·
  have e : sameM x y = false := by simp [sameM, e0]
  rw [e]
  exact l11Same_0 b o b2 o2 x y a a2 d d2 w hA hZ R Rz e0
 skip
 cases e1 : (x.epoch == y.epoch)
 ·
  have e : sameM x y = false := by simp [sameM, e1]
  rw [e]
  exact l11Same_1 b o b2 o2 x y a a2 d d2 w hA hZ R Rz e0 e1
 skip
 cases e2 : (x.src == y.src)
 ·
  have e : sameM x y = false := by simp [sameM, e2]
  rw [e]
  exact l11Same_2 b o b2 o2 x y a a2 d d2 w hA hZ R Rz e0 e1 e2
 skip
 cases e3 : (x.dst == y.dst)
 ·
  have e : sameM x y = false := by simp [sameM, e3]
  rw [e]
  exact l11Same_3 b o b2 o2 x y a a2 d d2 w hA hZ R Rz e0 e1 e2 e3
 skip
 cases e4 : (x.index == y.index)
 ·
  have e : sameM x y = false := by simp [sameM, e4]
  rw [e]
  exact l11Same_4 b o b2 o2 x y a a2 d d2 w hA hZ R Rz e0 e1 e2 e3 e4
 skip
 have e : sameM x y = sameW x.write y.write := by simp [sameM, e0, e1, e2, e3, e4]
 rw [e]
 exact l11Same_5 b o b2 o2 x y a a2 d d2 w hA hZ R Rz e0 e1 e2 e3 e4
theorem any_yes {xs : List DMsg} {y : DMsg} (k : Nat) (hk : k < xs.length) (h : sameM xs[k] y = true) : xs.any (fun z => sameM z y) = true := by
 rw [List.any_eq_true]
 exact ⟨xs[k], List.getElem_mem _, h⟩
theorem any_no {xs : List DMsg} {y : DMsg} (h : ∀ j (hj : j < xs.length), sameM xs[j] y = false) : xs.any (fun z => sameM z y) = false := by
 rw [List.any_eq_false]
 intro z hz
 obtain ⟨j, hj, rfl⟩ := List.getElem_of_mem hz
 rw [h j hj]
 simp
theorem l11SendC (v : Value) (xs : List DMsg) (b o : Nat) (a2 : Option Addr) (d2 : Nat) (x : DMsg) (w : World) (h : (Lay.sl Lay.tMsg).Reads w [v] xs) (hM : MsgAt w b o x (.slice a2 x.write.vec.length d2)) (R2 : (Lay.sl Lay.int).Reads w [.slice a2 x.write.vec.length d2] x.write.vec)
  (HWFX : (Lit.int .i64 x.kind).wf = true ∧ (Lit.int .i64 x.epoch).wf = true ∧ (Lit.int .i64 x.src).wf = true ∧ (Lit.int .i64 x.dst).wf = true ∧ (Lit.int .i64 x.index).wf = true ∧ (Lit.int .i64 x.write.kind).wf = true ∧ (Lit.int .i64 x.write.id).wf = true ∧ (Lit.int .i64 x.write.session).wf = true ∧ (Lit.int .i64 x.write.seq).wf = true) (hn : xs.length ≤ 40) (hv : ∀ x ∈ xs, x.write.vec.length ≤ 100000000) (hvx : x.write.vec.length ≤ 100000000) :
  Calls Tryz.prog 132 #[v, .pointer (some ⟨b, o, none⟩)] w fun e w' => ∃ (a : Option Addr) (n c : Nat), e = .returned (.tuple #[.slice a n c, .int .i64 (sendM xs x).code]) ∧ (Lay.sl Lay.tMsg).LiesIn w' [.slice a n c] (sendM xs x).msgs w.heap.size w'.heap.size ∧ Below w.heap.size w w' := by
 have HC := yh (mcopyC v xs w h (by omega) hv)
 obtain ⟨ao, cap, rfl⟩ := open_sl h
 have H := yh h
 have HM := yh hM
 have HRX := yh R2
 have HWF := yh HWFX
 have HN := yh hvx
 have hbl := World.block_lt_of_cell? _ _ hM.1
 simp only at hbl
 clear h hM R2 HWFX hv hvx
 go_enter Tryz.func132, Tryz.ntmps132
 go_wp2_with fail
 refine (uh HC).mono ?_
 rintro e w1 ⟨u3, rfl, ⟨rows, bls, hG1, hSB⟩, hb1⟩
 have HG1 := yh hG1
 have HSB := yh hSB
 have HB1 := yh hb1
 have hz1 := hb1.size
 have hu3 : ∃ a3 c3, u3 = .slice a3 xs.length c3 := own_shape hG1.own
 clear HC hG1 hSB hb1
 go_wp2_with fail
 go_loopw [7] (fun i wr => ∃ k : Nat, k ≤ xs.length ∧ i = .int .i64 k ∧ (∀ j (hj : j < xs.length), j < k → sameM xs[j] x = false) ∧ Below w1.heap.size w1 wr) (fun i _ => xs.length - (intOf i).toNat)
 case atStart => exact ⟨0, Nat.zero_le _, rfl, fun j _ hj => by omega, Below.refl _ _⟩
 case round =>
  obtain ⟨k, hk, rfl, hz, hB1⟩ := hrel
  have hB : Below w.heap.size w wr := (uh HB1).trans (hB1.mono hz1)
  by_cases hlt : k < xs.length
  ·
   obtain ⟨b2, off, rfl, hbl2⟩ := Lay.sl_addr (uh H) (by omega)
   obtain ⟨a, d, hM, R⟩ := msg_row ((uh H).later hB) hlt
   have HL := yh (l11SameC b2 (off + k * 10) b o xs[k] x a a2 d d2 wr hM ((uh HM).later hB) R ((uh HRX).later hB))
   have hbr : b2 < wr.heap.size := Nat.lt_of_lt_of_le hbl2 hB.size
   have hdl : decide ((k : Int) < (xs.length : Int)) = true := by simp; omega
   have HBW := yh hB
   have HBW1 := yh hB1
   have HAT : Hid (sameM xs[k] x = true → sendM xs x = ⟨0, xs⟩) := fun q => sendM_there (any_yes k hlt q)
   have HZ2 : Hid (sameM xs[k] x = false → ∀ j (hj : j < xs.length), j < k + 1 → sameM xs[j] x = false) := by
    intro h0 j hj hjk
    by_cases hjk2 : j < k
    ·
     exact hz j hj hjk2
    obtain rfl : j = k := by omega
    exact h0
   clear hz hM R hB hB1
   generalize sameM xs[k] x = f at *
   go_wp2_with fail
   refine (uh HL).mono ?_
   rintro e w2 ⟨rfl, hb⟩
   replace HBW := yh ((uh HBW).trans (hb.mono (uh HBW).size))
   replace HBW1 := yh ((uh HBW1).trans (hb.mono (uh HBW1).size))
   clear hb HL
   cases f
   ·
    have HZ3 := yh (uh HZ2 rfl)
    clear HZ2 HAT
    go_wp2_with fail
    go_roundw
    case rel => exact ⟨k + 1, by omega, by go_num, uh HZ3, uh HBW1⟩
    case measure => simp [intOf]; omega
   have HA := yh (uh HAT rfl)
   obtain ⟨a3, c3, rfl⟩ := hu3
   clear HZ2 HAT
   go_wp2_with fail
   refine bodyPost_ret (v := .tuple #[.slice a3 xs.length c3, .int .i64 0]) (by simp [results, Tryz.results132, go_sem]) rfl ?_
   refine ⟨a3, xs.length, c3, by rw [uh HA], ?_, uh HBW⟩
   rw [uh HA]
   exact ((uh HG1).later (uh HBW1)).toLies (by omega) (uh HSB)
  obtain rfl : k = xs.length := by omega
  have hdl : decide ((xs.length : Int) < (xs.length : Int)) = false := by simp
  have hno := any_no (fun j hj => hz j hj hj)
  clear hz
  by_cases h40 : 40 ≤ xs.length
  ·
   have HA := yh (sendM_full hno h40)
   have hd2 : decide ((40 : Int) ≤ (xs.length : Int)) = true := by simp; omega
   have HBW := yh hB
   clear hB hB1 hno
   go_wp2_with fail
   refine bodyPost_ret (v := .tuple #[.slice none 0 0, .int .i64 2]) (by simp [results, Tryz.results132, go_sem]) rfl ?_
   refine ⟨none, 0, 0, by rw [uh HA]; rfl, ?_, uh HBW⟩
   rw [uh HA]
   exact nil_own.lies
  have HA := yh (sendM_new hno (by omega))
  have hd2 : decide ((40 : Int) ≤ (xs.length : Int)) = false := by simp; omega
  have hG := (uh HG1).later hB1
  have hbr : b < wr.heap.size := Nat.lt_of_lt_of_le hbl hB.size
  obtain ⟨c0, c1, c2, c3, c4, c5, c6, c7, c8, c9⟩ := (uh HM).later hB
  have R2 := (uh HRX).later hB
  clear hno hB1 HG1 HB1 hbl
  have nb : Below wr.heap.size wr (wr.alloc (.cells #[.int .i64 x.kind, .int .i64 x.epoch, .int .i64 x.src, .int .i64 x.dst, .int .i64 x.index, .int .i64 x.write.kind, .int .i64 x.write.id, .slice a2 x.write.vec.length d2, .int .i64 x.write.session, .int .i64 x.write.seq] 89)) := (Below.refl _ _).alloc (Nat.le_refl _) _
  have bI : Box 0 #[.int .i64 x.kind, .int .i64 x.epoch, .int .i64 x.src, .int .i64 x.dst, .int .i64 x.index, .int .i64 x.write.kind, .int .i64 x.write.id, .slice a2 x.write.vec.length d2, .int .i64 x.write.session, .int .i64 x.write.seq] 89 (wr.alloc (.cells #[.int .i64 x.kind, .int .i64 x.epoch, .int .i64 x.src, .int .i64 x.dst, .int .i64 x.index, .int .i64 x.write.kind, .int .i64 x.write.id, .slice a2 x.write.vec.length d2, .int .i64 x.write.session, .int .i64 x.write.seq] 89)) wr.heap.size := newBox (Nat.zero_le _)
  have HRW := yh (Lay.ints_reads R2).wf
  have HL := yh (l1Ints _ x.write.vec _ ((Lay.ints_reads R2).later nb) (uh HN))
  have HG := yh (hG.later nb)
  have HB := yh (hB.trans (nb.mono hB.size))
  have HBI := yh bI
  have HZW : Hid (w.heap.size ≤ wr.heap.size) := hB.size
  have HOW : Hid (∀ c, u3.ownBlock = some c → c < wr.heap.size) := fun c hc => (hG.own.lt c hc).2
  have HSL : Hid (∀ c ∈ bls.flatten, c < wr.heap.size) := fun c hc => hG.sub_lt c hc
  clear R2 hG hB nb bI
  go_wp2_with fail
  clear c0 c1 c2 c3 c4 c5 c6 c7 c8 c9
  refine (uh HL).mono ?_
  generalize hW0 : wr.alloc (.cells #[.int .i64 x.kind, .int .i64 x.epoch, .int .i64 x.src, .int .i64 x.dst, .int .i64 x.index, .int .i64 x.write.kind, .int .i64 x.write.id, .slice a2 x.write.vec.length d2, .int .i64 x.write.session, .int .i64 x.write.seq] 89) = W0 at *
  clear hW0
  rintro e w2 ⟨v2, rfl, hO, hb⟩
  have hO2 := Lay.ownInts (uh HRW) (by have := uh HN; omega) hO
  obtain ⟨ao2, cp2, rfl⟩ := open_sl hO2.reads
  obtain ⟨bl2, ⟨hl2, -, -⟩, hr2⟩ := hO2
  have bI2 := (uh HBI).keep hb
  have hZ0 : wr.heap.size < W0.heap.size := (uh HBI).lt
  have z0 : w2.cell? ⟨wr.heap.size, 0, none⟩ = some (.int .i64 x.kind) := bI2.at 0 _ rfl
  have z1 : w2.cell? ⟨wr.heap.size, 1, none⟩ = some (.int .i64 x.epoch) := bI2.at 1 _ rfl
  have z2 : w2.cell? ⟨wr.heap.size, 2, none⟩ = some (.int .i64 x.src) := bI2.at 2 _ rfl
  have z3 : w2.cell? ⟨wr.heap.size, 3, none⟩ = some (.int .i64 x.dst) := bI2.at 3 _ rfl
  have z4 : w2.cell? ⟨wr.heap.size, 4, none⟩ = some (.int .i64 x.index) := bI2.at 4 _ rfl
  have z5 : w2.cell? ⟨wr.heap.size, 5, none⟩ = some (.int .i64 x.write.kind) := bI2.at 5 _ rfl
  have z6 : w2.cell? ⟨wr.heap.size, 6, none⟩ = some (.int .i64 x.write.id) := bI2.at 6 _ rfl
  have z7 : w2.cell? ⟨wr.heap.size, 7, none⟩ = some (.slice a2 x.write.vec.length d2) := bI2.at 7 _ rfl
  have z8 : w2.cell? ⟨wr.heap.size, 8, none⟩ = some (.int .i64 x.write.session) := bI2.at 8 _ rfl
  have z9 : w2.cell? ⟨wr.heap.size, 9, none⟩ = some (.int .i64 x.write.seq) := bI2.at 9 _ rfl
  have f2 := bI2.soft 7
  have l2 := bI2.lt
  have hE : Ext (fun c => c = wr.heap.size) w2 (w2.setCell ⟨wr.heap.size, 7, none⟩ (.slice ao2 x.write.vec.length cp2)) := (Ext.refl (fun c => c = wr.heap.size) w2).setCell ⟨wr.heap.size, 7, none⟩ _ rfl
  have hl3 : Lay.tMsg.lies (w2.setCell ⟨wr.heap.size, 7, none⟩ (.slice ao2 x.write.vec.length cp2)) [.int .i64 x.kind, .int .i64 x.epoch, .int .i64 x.src, .int .i64 x.dst, .int .i64 x.index, .int .i64 x.write.kind, .int .i64 x.write.id, .slice ao2 x.write.vec.length cp2, .int .i64 x.write.session, .int .i64 x.write.seq] x bl2 := lies_Msg.2 ⟨ao2, cp2, bl2, rfl, rfl, (uh HWF).1, (uh HWF).2.1, (uh HWF).2.2.1, (uh HWF).2.2.2.1, (uh HWF).2.2.2.2.1, (uh HWF).2.2.2.2.2.1, (uh HWF).2.2.2.2.2.2.1, (Lay.sl Lay.int).keep hl2 (fun c hc => hE.block c ((Lay.sl Lay.int).lt hl2 c hc) (by have := (hr2 c hc).1; omega)), (uh HWF).2.2.2.2.2.2.2.1, (uh HWF).2.2.2.2.2.2.2.2⟩
  have hG2 := (uh HG).later hb
  have hoff : ∀ c ∈ bl2, u3.ownBlock ≠ some c := fun c hc e => by have h1 := (hr2 c hc).1; have h2 := uh HOW c e; omega
  have HB3 : Hid (Below w.heap.size w (w2.setCell ⟨wr.heap.size, 7, none⟩ (.slice ao2 x.write.vec.length cp2))) := ((uh HB).trans (hb.mono (uh HB).size)).setCell (by simpa using uh HZW) _
  have hG3 : Grow Lay.tMsg (w2.setCell ⟨wr.heap.size, 7, none⟩ (.slice ao2 x.write.vec.length cp2)) w.heap.size 89 u3 rows (xs) bls := hG2.kept (by
   obtain ⟨h1, h2⟩ := hG2.own
   refine ⟨h1, ?_⟩
   rcases h2 with h2 | ⟨gb, cap', cur, hv, hg, hh, r⟩
   ·
    exact Or.inl h2
   ·
    exact Or.inr ⟨gb, cap', cur, hv, hg, (hE.block gb (lt_of_block hh) (by have := uh HOW gb (by rw [hv]; rfl); omega)).trans hh, r⟩) (fun c hc => hE.block c (hG2.sub_lt c hc) (fun e => by
   have := uh HSL c hc
   omega))
  have hZ3 : w.heap.size ≤ (w2.setCell ⟨wr.heap.size, 7, none⟩ (.slice ao2 x.write.vec.length cp2)).heap.size := (uh HB3).size
  have hK : xs.length + 1 ≤ 100000000 := by omega
  have y0 : (w2.setCell ⟨wr.heap.size, 7, none⟩ (.slice ao2 x.write.vec.length cp2)).cell? ⟨wr.heap.size, 0, none⟩ = some (.int .i64 x.kind) := (bI2.set 7 _).at 0 _ rfl
  have y1 : (w2.setCell ⟨wr.heap.size, 7, none⟩ (.slice ao2 x.write.vec.length cp2)).cell? ⟨wr.heap.size, 1, none⟩ = some (.int .i64 x.epoch) := (bI2.set 7 _).at 1 _ rfl
  have y2 : (w2.setCell ⟨wr.heap.size, 7, none⟩ (.slice ao2 x.write.vec.length cp2)).cell? ⟨wr.heap.size, 2, none⟩ = some (.int .i64 x.src) := (bI2.set 7 _).at 2 _ rfl
  have y3 : (w2.setCell ⟨wr.heap.size, 7, none⟩ (.slice ao2 x.write.vec.length cp2)).cell? ⟨wr.heap.size, 3, none⟩ = some (.int .i64 x.dst) := (bI2.set 7 _).at 3 _ rfl
  have y4 : (w2.setCell ⟨wr.heap.size, 7, none⟩ (.slice ao2 x.write.vec.length cp2)).cell? ⟨wr.heap.size, 4, none⟩ = some (.int .i64 x.index) := (bI2.set 7 _).at 4 _ rfl
  have y5 : (w2.setCell ⟨wr.heap.size, 7, none⟩ (.slice ao2 x.write.vec.length cp2)).cell? ⟨wr.heap.size, 5, none⟩ = some (.int .i64 x.write.kind) := (bI2.set 7 _).at 5 _ rfl
  have y6 : (w2.setCell ⟨wr.heap.size, 7, none⟩ (.slice ao2 x.write.vec.length cp2)).cell? ⟨wr.heap.size, 6, none⟩ = some (.int .i64 x.write.id) := (bI2.set 7 _).at 6 _ rfl
  have y7 : (w2.setCell ⟨wr.heap.size, 7, none⟩ (.slice ao2 x.write.vec.length cp2)).cell? ⟨wr.heap.size, 7, none⟩ = some (.slice ao2 x.write.vec.length cp2) := (bI2.set 7 _).at 7 _ rfl
  have y8 : (w2.setCell ⟨wr.heap.size, 7, none⟩ (.slice ao2 x.write.vec.length cp2)).cell? ⟨wr.heap.size, 8, none⟩ = some (.int .i64 x.write.session) := (bI2.set 7 _).at 8 _ rfl
  have y9 : (w2.setCell ⟨wr.heap.size, 7, none⟩ (.slice ao2 x.write.vec.length cp2)).cell? ⟨wr.heap.size, 9, none⟩ = some (.int .i64 x.write.seq) := (bI2.set 7 _).at 9 _ rfl
  have HSB5 : Hid (∀ c ∈ (bls ++ [bl2]).flatten, w.heap.size ≤ c) := by
   intro c hc
   rw [List.flatten_append] at hc
   rcases List.mem_append.1 hc with hc | hc
   ·
    exact uh HSB c hc
   have h1 := (hr2 c (by simpa using hc)).1
   have h2 := uh HZW
   omega
  clear z0 z1 z2 z3 z4 z5 z6 z8 z9 bI2 hE hG2 hl2 hO HG HL HB HBI HRW HN HWF hb hr2 hZ0
  go_upto_region 11 with fail
  generalize w2.setCell ⟨wr.heap.size, 7, none⟩ (.slice ao2 x.write.vec.length cp2) = W3 at *
  go_wp2_with (at_builtin; refine wpList_append_Msg hG3 hl3 hoff rfl _ _ rfl rfl rfl hK hZ3 ?_)
  intro g5 cap5 w5 hG5 hb5 hE5 hg5 hz5 hor5
  have HL5 := yh (hG5.toLies (by simp; omega) (uh HSB5))
  have HB5 := yh ((uh HB3).trans hb5)
  clear hG3 hl3 hoff hZ3 hK hG5 hb5 hE5 hg5 hz5 hor5 HB3 y0 y1 y2 y3 y4 y5 y6 y7 y8 y9 z7 f2 l2
  go_wp2_with fail
  refine bodyPost_ret (v := .tuple #[.slice (some ⟨g5, 0, none⟩) (xs.length + 1) cap5, .int .i64 0]) (by simp [results, Tryz.results132, go_sem]) rfl ?_
  refine ⟨_, _, _, by rw [uh HA], ?_, uh HB5⟩
  rw [uh HA]
  exact uh HL5
theorem sendM_code (xs : List DMsg) (x : DMsg) : -1000000000 ≤ (sendM xs x).code ∧ (sendM xs x).code ≤ 1000000000 := by
 unfold sendM
 split
 ·
  simp
 split
 ·
  simp [badNet]
 simp
theorem sentW_eq (x : DWorld) (m : DMsg) : sentW x m = if (sendM x.msgs m).code ≠ 0 then badWorld (sendM x.msgs m).code else ⟨0, true, withMsgs (nextW x) (sendM x.msgs m).msgs⟩ := by
 unfold sentW withMsgs
 rfl
theorem l12SendC (cs ms : List Value) (x : DWorld) (m : DMsg) (w : World) (h : Lay.tWorld.Reads w cs x) (hm : Lay.tMsg.Reads w ms m) (hok : WorldOK x) (hf : Fits x) (hvx : m.write.vec.length ≤ 100000000) :
  Calls Tryz.prog 65 #[.agg cs.toArray, .agg ms.toArray] w fun e w' => ∃ cs', e = .returned (.agg cs'.toArray) ∧ Lay.tWorldResult.LiesIn w' cs' (sentW x m) w.heap.size w'.heap.size ∧ Below w.heap.size w w' := by
 have HP := yh (sentW_eq x m)
 obtain ⟨a3, d3, a4, d4, a5, d5, a6, d6, rfl, -, -, -, -⟩ := open_World h
 obtain ⟨blm, hlm⟩ := hm
 obtain ⟨av, dv, bv, rfl, -, m0, m1, m2, m3, m4, m5, m6, lv, m8, m9⟩ := lies_Msg.1 hlm
 have RV : (Lay.sl Lay.int).Reads w [.slice av m.write.vec.length dv] m.write.vec := ⟨_, lv⟩
 have HWM : Hid ((Lit.int .i64 m.kind).wf = true ∧ (Lit.int .i64 m.epoch).wf = true ∧ (Lit.int .i64 m.src).wf = true ∧ (Lit.int .i64 m.dst).wf = true ∧ (Lit.int .i64 m.index).wf = true ∧ (Lit.int .i64 m.write.kind).wf = true ∧ (Lit.int .i64 m.write.id).wf = true ∧ (Lit.int .i64 m.write.session).wf = true ∧ (Lit.int .i64 m.write.seq).wf = true) := ⟨m0, m1, m2, m3, m4, m5, m6, m8, m9⟩
 have HBN : Hid (∀ b off, a4 = some ⟨b, off, none⟩ → 0 < x.nodes.length → b < w.heap.size) := fun b off e hp => by
  obtain ⟨_, _, _, _, _, _, _, _, hq, -, RN, -, -⟩ := open_World h
  simp only [List.cons.injEq, Value.slice.injEq, and_true, true_and] at hq
  obtain ⟨-, ⟨rfl, rfl⟩, -, -, -⟩ := hq
  obtain ⟨b', off', e', hb⟩ := Lay.sl_addr RN hp
  rw [e] at e'
  simp only [Option.some.injEq, Addr.mk.injEq, and_true] at e'
  obtain ⟨rfl, -⟩ := e'
  exact hb
 have nb : Below w.heap.size w (((w.alloc (.cells #[.int .i64 x.now, .int .i64 x.events, .int .i64 x.chain.epoch, .slice a3 x.chain.ids.length d3, .slice a4 x.nodes.length d4, .slice a5 x.msgs.length d5, .slice a6 x.history.length d6] 36)).alloc (.cells #[.int .i64 m.kind, .int .i64 m.epoch, .int .i64 m.src, .int .i64 m.dst, .int .i64 m.index, .int .i64 m.write.kind, .int .i64 m.write.id, .slice av m.write.vec.length dv, .int .i64 m.write.session, .int .i64 m.write.seq] 89)).alloc (.cells #[.int .i64 0, .bool false, .int .i64 0, .int .i64 0, .int .i64 0, .slice none 0 0, .slice none 0 0, .slice none 0 0, .slice none 0 0] 38)) := (((Below.refl _ _).alloc (Nat.le_refl _) _).alloc (by simp) _).alloc (by simp; omega) _
 have HX : Hid (Box 0 #[.int .i64 x.now, .int .i64 x.events, .int .i64 x.chain.epoch, .slice a3 x.chain.ids.length d3, .slice a4 x.nodes.length d4, .slice a5 x.msgs.length d5, .slice a6 x.history.length d6] 36 (((w.alloc (.cells #[.int .i64 x.now, .int .i64 x.events, .int .i64 x.chain.epoch, .slice a3 x.chain.ids.length d3, .slice a4 x.nodes.length d4, .slice a5 x.msgs.length d5, .slice a6 x.history.length d6] 36)).alloc (.cells #[.int .i64 m.kind, .int .i64 m.epoch, .int .i64 m.src, .int .i64 m.dst, .int .i64 m.index, .int .i64 m.write.kind, .int .i64 m.write.id, .slice av m.write.vec.length dv, .int .i64 m.write.session, .int .i64 m.write.seq] 89)).alloc (.cells #[.int .i64 0, .bool false, .int .i64 0, .int .i64 0, .int .i64 0, .slice none 0 0, .slice none 0 0, .slice none 0 0, .slice none 0 0] 38)) w.heap.size) := (((newBox (Nat.zero_le _)).grow _).grow _)
 have HE0 : Hid (Box 0 #[.int .i64 m.kind, .int .i64 m.epoch, .int .i64 m.src, .int .i64 m.dst, .int .i64 m.index, .int .i64 m.write.kind, .int .i64 m.write.id, .slice av m.write.vec.length dv, .int .i64 m.write.session, .int .i64 m.write.seq] 89 (((w.alloc (.cells #[.int .i64 x.now, .int .i64 x.events, .int .i64 x.chain.epoch, .slice a3 x.chain.ids.length d3, .slice a4 x.nodes.length d4, .slice a5 x.msgs.length d5, .slice a6 x.history.length d6] 36)).alloc (.cells #[.int .i64 m.kind, .int .i64 m.epoch, .int .i64 m.src, .int .i64 m.dst, .int .i64 m.index, .int .i64 m.write.kind, .int .i64 m.write.id, .slice av m.write.vec.length dv, .int .i64 m.write.session, .int .i64 m.write.seq] 89)).alloc (.cells #[.int .i64 0, .bool false, .int .i64 0, .int .i64 0, .int .i64 0, .slice none 0 0, .slice none 0 0, .slice none 0 0, .slice none 0 0] 38)) (w.heap.size + 1)) := ((newBoxAt (Nat.zero_le _) (by simp)).grow _)
 have HY : Hid (Box 0 #[.int .i64 0, .bool false, .int .i64 0, .int .i64 0, .int .i64 0, .slice none 0 0, .slice none 0 0, .slice none 0 0, .slice none 0 0] 38 (((w.alloc (.cells #[.int .i64 x.now, .int .i64 x.events, .int .i64 x.chain.epoch, .slice a3 x.chain.ids.length d3, .slice a4 x.nodes.length d4, .slice a5 x.msgs.length d5, .slice a6 x.history.length d6] 36)).alloc (.cells #[.int .i64 m.kind, .int .i64 m.epoch, .int .i64 m.src, .int .i64 m.dst, .int .i64 m.index, .int .i64 m.write.kind, .int .i64 m.write.id, .slice av m.write.vec.length dv, .int .i64 m.write.session, .int .i64 m.write.seq] 89)).alloc (.cells #[.int .i64 0, .bool false, .int .i64 0, .int .i64 0, .int .i64 0, .slice none 0 0, .slice none 0 0, .slice none 0 0, .slice none 0 0] 38)) (w.heap.size + 1 + 1)) := newBoxAt (Nat.zero_le _) (by simp)
 have hz0 : (((w.alloc (.cells #[.int .i64 x.now, .int .i64 x.events, .int .i64 x.chain.epoch, .slice a3 x.chain.ids.length d3, .slice a4 x.nodes.length d4, .slice a5 x.msgs.length d5, .slice a6 x.history.length d6] 36)).alloc (.cells #[.int .i64 m.kind, .int .i64 m.epoch, .int .i64 m.src, .int .i64 m.dst, .int .i64 m.index, .int .i64 m.write.kind, .int .i64 m.write.id, .slice av m.write.vec.length dv, .int .i64 m.write.session, .int .i64 m.write.seq] 89)).alloc (.cells #[.int .i64 0, .bool false, .int .i64 0, .int .i64 0, .int .i64 0, .slice none 0 0, .slice none 0 0, .slice none 0 0, .slice none 0 0] 38)).heap.size = w.heap.size + 3 := by simp
 have HR := yh (h.later nb)
 have HB := yh nb
 clear nb
 have HL := yh (l12NextC _ x _ (uh HR) hok hf)
 have HNM : Hid (x.msgs.length ≤ 40 ∧ ∀ y ∈ x.msgs, y.write.vec.length ≤ 100000000) := ⟨(netFault_zero hok.net).1, msgs_vec hok.net⟩
 have HVX := yh hvx
 have HRV := yh RV
 have HCB := yh (sendM_code x.msgs m)
 clear h HBN hlm blm lv RV m0 m1 m2 m3 m4 m5 m6 m8 m9 hok hf hvx
 generalize sentW x m = R at *
 go_enter Tryz.func65, Tryz.ntmps65
 go_upto_region 1 with fail
 generalize (((w.alloc (.cells #[.int .i64 x.now, .int .i64 x.events, .int .i64 x.chain.epoch, .slice a3 x.chain.ids.length d3, .slice a4 x.nodes.length d4, .slice a5 x.msgs.length d5, .slice a6 x.history.length d6] 36)).alloc (.cells #[.int .i64 m.kind, .int .i64 m.epoch, .int .i64 m.src, .int .i64 m.dst, .int .i64 m.index, .int .i64 m.write.kind, .int .i64 m.write.id, .slice av m.write.vec.length dv, .int .i64 m.write.session, .int .i64 m.write.seq] 89)).alloc (.cells #[.int .i64 0, .bool false, .int .i64 0, .int .i64 0, .int .i64 0, .slice none 0 0, .slice none 0 0, .slice none 0 0, .slice none 0 0] 38)) = W0 at *
 have z0 := Box.at (uh HX) 0 _ rfl
 have z1 := Box.at (uh HX) 1 _ rfl
 have z2 := Box.at (uh HX) 2 _ rfl
 have z3 := Box.at (uh HX) 3 _ rfl
 have z4 := Box.at (uh HX) 4 _ rfl
 have z5 := Box.at (uh HX) 5 _ rfl
 have z6 := Box.at (uh HX) 6 _ rfl
 simp only [ga, gb, gc] at z0 z1 z2 z3 z4 z5 z6
 have zl := (uh HX).lt
 go_wp2_with fail
 refine (uh HL).mono ?_
 rintro e W1 ⟨cs', rfl, O, hb⟩
 have hop := open_World O.reads
 dsimp only [nextW] at hop
 obtain ⟨a3w, d3w, a4w, d4w, a5w, d5w, a6w, d6w, rfl, -⟩ := hop
 have hz1 : W0.heap.size ≤ W1.heap.size := hb.size
 have nb : Below W1.heap.size W1 (W1.alloc (.cells #[.int .i64 x.now, .int .i64 (x.events + 1), .int .i64 x.chain.epoch, .slice a3w x.chain.ids.length d3w, .slice a4w x.nodes.length d4w, .slice a5w x.msgs.length d5w, .slice a6w x.history.length d6w] 36)) := (Below.refl _ _).alloc (Nat.le_refl _) _
 have HG : Hid (Box 0 #[.int .i64 x.now, .int .i64 (x.events + 1), .int .i64 x.chain.epoch, .slice a3w x.chain.ids.length d3w, .slice a4w x.nodes.length d4w, .slice a5w x.msgs.length d5w, .slice a6w x.history.length d6w] 36 (W1.alloc (.cells #[.int .i64 x.now, .int .i64 (x.events + 1), .int .i64 x.chain.epoch, .slice a3w x.chain.ids.length d3w, .slice a4w x.nodes.length d4w, .slice a5w x.msgs.length d5w, .slice a6w x.history.length d6w] 36)) W1.heap.size) := newBox (Nat.zero_le _)
 have HO := yh ((O.later nb).st (G := fun c => c < w.heap.size ∨ c < W0.heap.size ∨ c = W1.heap.size) (fun k hk => by omega))
 replace HX := yh (((uh HX).keep hb).keep nb)
 replace HR := yh (((uh HR).later hb).later nb)
 replace HY := yh (((uh HY).keep hb).keep nb)
 replace HB := yh ((uh HB).trans ((hb.trans (nb.mono hb.size)).mono (uh HB).size))
 have hz2 : W1.heap.size < (W1.alloc (.cells #[.int .i64 x.now, .int .i64 (x.events + 1), .int .i64 x.chain.epoch, .slice a3w x.chain.ids.length d3w, .slice a4w x.nodes.length d4w, .slice a5w x.msgs.length d5w, .slice a6w x.history.length d6w] 36)).heap.size := by simp
 have HE2 := yh (((uh HE0).keep hb).keep nb)
 clear nb O hb HL HE0
 clear z0 z1 z2 z3 z4 z5 z6 zl
 go_upto_region 2 with fail
 generalize W1.alloc (.cells #[.int .i64 x.now, .int .i64 (x.events + 1), .int .i64 x.chain.epoch, .slice a3w x.chain.ids.length d3w, .slice a4w x.nodes.length d4w, .slice a5w x.msgs.length d5w, .slice a6w x.history.length d6w] 36) = W2 at *
 have hg := uh HG
 have hop := open_World (x := nextW x) (uh HO).reads
 dsimp only [nextW] at hop
 obtain ⟨_, _, _, _, _, _, _, _, hq, -, -, RM, -⟩ := hop
 simp only [List.cons.injEq, Value.slice.injEq, and_true, true_and] at hq
 obtain ⟨-, -, ⟨rfl, rfl⟩, -⟩ := hq
 have HLS := yh (l11SendC _ x.msgs (w.heap.size + 1) 0 av dv m W2 RM (msgAt_box (uh HE2)) ((uh HRV).later (uh HB)) (uh HWM) (uh HNM).1 (uh HNM).2 (uh HVX))
 have y5 := Box.at hg 5 _ rfl
 simp only [ga, gb, gc] at y5
 have yl := hg.lt
 clear RM hg
 go_wp2_with fail
 refine (uh HLS).mono ?_
 rintro e w3 ⟨am, nm, cm, rfl, OM, hb3⟩
 clear HLS y5 yl
 replace HG := yh ((uh HG).keep hb3)
 replace HO := yh ((uh HO).later hb3)
 replace HY := yh ((uh HY).keep hb3)
 replace HB := yh ((uh HB).trans (hb3.mono (uh HB).size))
 have hz3 := hb3.size
 have HOM := yh OM
 clear OM hb3 HX HR HE2 HRV
 by_cases d2 : (sendM x.msgs m).code ≠ 0
 ·
  have hd2 : ((sendM x.msgs m).code != 0) = true := by simpa using d2
  replace HP := yh ((uh HP).trans (if_pos d2))
  clear d2 HG HO HOM
  go_wp2_with fail
  refine (l12BadCZ (sendM x.msgs m).code _).mono ?_
  rintro e wB ⟨rfl, hbB⟩
  have hyB := (uh HY).keep hbB
  have z0 := Box.at hyB 0 _ rfl
  have z1 := Box.at hyB 1 _ rfl
  have z2 := Box.at hyB 2 _ rfl
  have z3 := Box.at hyB 3 _ rfl
  have z4 := Box.at hyB 4 _ rfl
  have z5 := Box.at hyB 5 _ rfl
  have z6 := Box.at hyB 6 _ rfl
  have z7 := Box.at hyB 7 _ rfl
  have z8 := Box.at hyB 8 _ rfl
  simp only [ga, gb, gc] at z0 z1 z2 z3 z4 z5 z6 z7 z8
  have zf := Box.soft hyB
  have zl := hyB.lt
  have HB9 := yh (below_setAll ((uh HB).trans (hbB.mono (uh HB).size)) (w.heap.size + 1 + 1) 0 [.int .i64 (sendM x.msgs m).code, .bool false, .int .i64 0, .int .i64 0, .int .i64 0, .slice none 0 0, .slice none 0 0, .slice none 0 0, .slice none 0 0] (by omega))
  clear hyB hbB HY HB
  go_wp2_with fail
  refine bodyPost_ret (v := .agg #[.int .i64 (sendM x.msgs m).code, .bool false, .int .i64 0, .int .i64 0, .int .i64 0, .slice none 0 0, .slice none 0 0, .slice none 0 0, .slice none 0 0]) (by simp [results, Tryz.results65, go_sem, z0, z1, z2, z3, z4, z5, z6, z7, z8]) rfl ?_
  rw [uh HP]
  exact ⟨[.int .i64 (sendM x.msgs m).code, .bool false, .int .i64 0, .int .i64 0, .int .i64 0, .slice none 0 0, .slice none 0 0, .slice none 0 0, .slice none 0 0], rfl, (own_badW (uh HCB) (lo := _) (uh HB9).size).lies, uh HB9⟩
 have hd2 : ((sendM x.msgs m).code != 0) = false := by simpa using d2
 replace HP := yh ((uh HP).trans (if_neg d2))
 clear d2
 have hg := uh HG
 have y5 := Box.at hg 5 _ rfl
 simp only [ga, gb, gc] at y5
 have yl := hg.lt
 have yf := Box.soft hg
 have e1 : Ext (fun q => q = W1.heap.size) w3 (w3.setCell ⟨W1.heap.size, 5, none⟩ (.slice am nm cm)) := (Ext.refl _ _).setCell _ _ rfl
 have hg2 := Box.set hg 5 (.slice am nm cm)
 simp only [List.setIfInBounds_toArray, List.set_cons_zero, List.set_cons_succ] at hg2
 obtain ⟨bl, hl1, hl2⟩ := uh HOM
 have hO2 := (WSt.msgs (x := nextW x) (uh HO) hl1 (fun c hc => ⟨by have := hl2 c hc; omega, fun e => by have := hl2 c hc; omega⟩)).ext e1 (fun k h1 h2 h3 => h2 (Or.inr (Or.inr h3)))
 have HG2 := yh hg2
 have HO2 := yh hO2
 have HY2 := yh ((uh HY).ext e1 (by omega))
 have HB2 := yh ((uh HB).trans (e1.below (B := w.heap.size) (by omega) (fun c hc e => by omega)))
 clear hg hg2 e1 hO2 HG HO HY HB hl1 hl2 HOM
 go_upto_region 6 with fail
 generalize hW9 : w3.setCell ⟨W1.heap.size, 5, none⟩ (.slice am nm cm) = W9 at *
 clear hW9 y5 yl yf hd2
 have y0 := Box.at (uh HG2) 0 _ rfl
 have y1 := Box.at (uh HG2) 1 _ rfl
 have y2 := Box.at (uh HG2) 2 _ rfl
 have y3 := Box.at (uh HG2) 3 _ rfl
 have y4 := Box.at (uh HG2) 4 _ rfl
 have y5 := Box.at (uh HG2) 5 _ rfl
 have y6 := Box.at (uh HG2) 6 _ rfl
 simp only [ga, gb, gc] at y0 y1 y2 y3 y4 y5 y6
 have yl := (uh HG2).lt
 have r0 := Box.at (uh HY2) 0 _ rfl
 have r1 := Box.at (uh HY2) 1 _ rfl
 have r2 := Box.at (uh HY2) 2 _ rfl
 have r3 := Box.at (uh HY2) 3 _ rfl
 have r4 := Box.at (uh HY2) 4 _ rfl
 have r5 := Box.at (uh HY2) 5 _ rfl
 have r6 := Box.at (uh HY2) 6 _ rfl
 have r7 := Box.at (uh HY2) 7 _ rfl
 have r8 := Box.at (uh HY2) 8 _ rfl
 simp only [ga, gb, gc] at r0 r1 r2 r3 r4 r5 r6 r7 r8
 have rl := (uh HY2).lt
 have rf := Box.soft (uh HY2)
 have e9 : Ext (fun q => q = w.heap.size + 1 + 1) W9 (setAll W9 (w.heap.size + 1 + 1) 0 [.int .i64 0, .bool true, .int .i64 x.now, .int .i64 (x.events + 1), .int .i64 x.chain.epoch, .slice a3w x.chain.ids.length d3w, .slice a4w x.nodes.length d4w, .slice am nm cm, .slice a6w x.history.length d6w]) := ext_setAll _ (Ext.refl _ _) _ _ _ rfl
 have HO9 := yh (okR_lies (m := true) (((uh HO2).ext e9 (fun c h1 h2 h3 => h2 (Or.inr (Or.inl (by omega))))).liesIn (B := w.heap.size) (fun c hc => by omega)))
 have HB9 := yh (below_setAll (uh HB2) (w.heap.size + 1 + 1) 0 [.int .i64 0, .bool true, .int .i64 x.now, .int .i64 (x.events + 1), .int .i64 x.chain.epoch, .slice a3w x.chain.ids.length d3w, .slice a4w x.nodes.length d4w, .slice am nm cm, .slice a6w x.history.length d6w] (by omega))
 clear e9 HO2 HG2 HY2 HB2
 go_wp2_with fail
 refine bodyPost_ret (v := .agg #[.int .i64 0, .bool true, .int .i64 x.now, .int .i64 (x.events + 1), .int .i64 x.chain.epoch, .slice a3w x.chain.ids.length d3w, .slice a4w x.nodes.length d4w, .slice am nm cm, .slice a6w x.history.length d6w]) (by simp [results, Tryz.results65, go_sem, r0, r1, r2, r3, r4, r5, r6, r7, r8]) rfl ?_
 rw [uh HP]
 exact ⟨_, rfl, uh HO9, uh HB9⟩
theorem l12MemberC (a3 : Option Addr) (d3 b off d4 : Nat) (a5 : Option Addr) (d5 : Nat) (a6 : Option Addr) (d6 : Nat) (x : DWorld) (k xb : Nat) (w : World) (hX : Box 0 #[.int .i64 x.now, .int .i64 x.events, .int .i64 x.chain.epoch, .slice a3 x.chain.ids.length d3, .slice (some ⟨b, off, none⟩) x.nodes.length d4, .slice a5 x.msgs.length d5, .slice a6 x.history.length d6] 36 w xb) (h : Lay.tWorld.Reads w [.int .i64 x.now, .int .i64 x.events, .int .i64 x.chain.epoch, .slice a3 x.chain.ids.length d3, .slice (some ⟨b, off, none⟩) x.nodes.length d4, .slice a5 x.msgs.length d5, .slice a6 x.history.length d6] x) (hk : k < x.nodes.length) (hn5 : x.nodes.length ≤ 5) :
  Calls Tryz.prog 62 #[.pointer (some ⟨xb, 0, none⟩), .int .i64 ((k : Int) + 1)] w fun e w' => e = .returned (.bool (memberB x ((k : Int) + 1))) ∧ Below w.heap.size w w' := by
 have HP : Hid (memberB x ((k : Int) + 1) = (x.nodes[k].up && ((x.nodes[k].epoch == x.chain.epoch) && decide (0 ≤ placeC x.chain.ids ((k : Int) + 1))))) := by
  show memberB x ((k : Int) + 1) = _
  rw [memberB, nodeOf_at hk]
 obtain ⟨_, _, _, _, _, _, _, _, hq, RC, RN, -, -⟩ := open_World h
 simp only [List.cons.injEq, Value.slice.injEq, and_true, true_and] at hq
 obtain ⟨⟨rfl, rfl⟩, ⟨rfl, rfl⟩, -, -, -⟩ := hq
 obtain ⟨_, _, hq, RI⟩ := open_Chain RC
 simp only [List.cons.injEq, Value.slice.injEq, and_true, true_and] at hq
 obtain ⟨rfl, rfl⟩ := hq
 obtain ⟨row, hcl, hr⟩ := Lay.row_at RN hk
 obtain ⟨an, dn, rfl, -⟩ := open_Node hr
 have x1 : w.drew.cell? ⟨b, off + k * 7 + 1, none⟩ = some (.bool x.nodes[k].up) := hcl 1 (by decide)
 have x2 : w.drew.cell? ⟨b, off + k * 7 + 2, none⟩ = some (.int .i64 x.nodes[k].epoch) := hcl 2 (by decide)
 have z2 : w.drew.cell? ⟨xb, 2, none⟩ = some (.int .i64 x.chain.epoch) := Box.at hX 2 _ rfl
 have z3 : w.drew.cell? ⟨xb, 3, none⟩ = some (.slice a3 x.chain.ids.length d3) := Box.at hX 3 _ rfl
 have z4 := Box.at hX 4 _ rfl
 simp only [ga, gb, gc] at z4
 have zl := hX.lt
 have HL : Hid (Calls Tryz.prog 131 #[.pointer (some ⟨xb, 2, none⟩), .int .i64 ((k : Int) + 1)] w.drew fun e w' => e = .returned (.int .i64 (placeC x.chain.ids ((k : Int) + 1))) ∧ w' = w.drew) := l10AtO xb 2 a3 d3 x.chain ((k : Int) + 1) w.drew ⟨z2, z3⟩ (RI.drew 1)
 have HB : Hid (Below w.heap.size w w.drew) := (Below.refl _ _).drew
 have hw1 : IntKind.i64.wrap (k : Int) = (k : Int) := by
  rw [IntKind.wrap_i64]
  omega
 have hki : (k : Int) < (x.nodes.length : Int) := by omega
 have hki0 : (0 : Int) ≤ (k : Int) := by omega
 have hbl : b < w.heap.size := World.block_lt_of_cell? _ _ x1
 clear hX h RC RN RI hcl hr z3
 generalize memberB x ((k : Int) + 1) = r at *
 generalize x.nodes[k] = n at *
 generalize placeC x.chain.ids ((k : Int) + 1) = pp at *
 go_enter Tryz.func62, Tryz.ntmps62
 go_upto_region 2 with fail
 clear z4
 cases hup : n.up
 ·
  rw [hup] at x1 HP
  refine wp_region_noPanic ?_
  refine wp_region_held_drew (S := fun w' => w' = w.drew) (by kernel_rfl) rfl (fun zq => ?_)
  generalize w.drew = wD at zq x1 x2 z2 HL HB ⊢
  refine tkH 0 zq ?_
  refine tkH 1 zq ?_
  refine tkH 2 zq ?_
  refine tkJ 3 (v := ?va3) ?ha3 zq ?ra3
  case ha3 =>
   intro wS hSw
   subst hSw
   (try dsimp only at hSw)
   go_simp
   try with_reducible rfl
  refine tkH 4 zq ?_
  refine skH 5 zq ?_
  refine skH 6 zq ?_
  refine skH 7 zq ?_
  refine skH 8 zq ?_
  refine skH 9 zq ?_
  refine skH 10 zq ?_
  refine skH 11 zq ?_
  refine skH 12 zq ?_
  refine skH 13 zq ?_
  refine skH 14 zq ?_
  refine tkH 15 zq ?_
  refine tkH 16 zq ?_
  refine skH 17 zq ?_
  refine skH 18 zq ?_
  refine skH 19 zq ?_
  refine skH 20 zq ?_
  refine skH 21 zq ?_
  refine skH 22 zq ?_
  refine tkH 23 zq ?_
  refine tkH 24 zq ?_
  refine wpAnyH_done (by kernel_rfl) ?_ _
  refine NoPanic.normal ?_
  clear zq
  go_wp2_with fail
  go_ret
  exact ⟨by rw [uh HP]; rfl, uh HB⟩
 rw [hup] at x1 HP
 cases hep : (n.epoch == x.chain.epoch)
 ·
  rw [hep] at HP
  refine wp_region_noPanic ?_
  refine wp_region_held_drew (S := fun w' => w' = w.drew) (by kernel_rfl) rfl (fun zq => ?_)
  generalize w.drew = wD at zq x1 x2 z2 HL HB ⊢
  refine tkH 0 zq ?_
  refine tkH 1 zq ?_
  refine tkH 2 zq ?_
  refine tkJ 3 (v := ?vb3) ?hb3 zq ?rb3
  case hb3 =>
   intro wS hSw
   subst hSw
   (try dsimp only at hSw)
   go_simp
   try with_reducible rfl
  refine tkH 4 zq ?_
  refine tkH 5 zq ?_
  refine tkH 6 zq ?_
  refine tkH 7 zq ?_
  refine tkJ 8 (v := ?vb8) ?hb8 zq ?rb8
  case hb8 =>
   intro wS hSw
   subst hSw
   (try dsimp only at hSw)
   go_simp
   try with_reducible rfl
  refine tkH 9 zq ?_
  refine tkH 10 zq ?_
  refine tkH 11 zq ?_
  refine tkH 12 zq ?_
  refine tkJ 13 (v := ?vb13) ?hb13 zq ?rb13
  case hb13 =>
   intro wS hSw
   subst hSw
   (try dsimp only at hSw)
   go_simp
   try with_reducible rfl
  refine tkH 14 zq ?_
  refine tkH 15 zq ?_
  refine tkH 16 zq ?_
  refine skH 17 zq ?_
  refine skH 18 zq ?_
  refine skH 19 zq ?_
  refine skH 20 zq ?_
  refine skH 21 zq ?_
  refine skH 22 zq ?_
  refine tkH 23 zq ?_
  refine tkH 24 zq ?_
  refine wpAnyH_done (by kernel_rfl) ?_ _
  refine NoPanic.normal ?_
  clear zq
  go_wp2_with fail
  go_ret
  exact ⟨by rw [uh HP]; rfl, uh HB⟩
 rw [hep] at HP
 refine wp_region_noPanic ?_
 refine wp_region_held_drew (S := fun w' => w' = w.drew) (by kernel_rfl) rfl (fun zq => ?_)
 generalize w.drew = wD at zq x1 x2 z2 HL HB ⊢
 refine tkH 0 zq ?_
 refine tkH 1 zq ?_
 refine tkH 2 zq ?_
 refine tkJ 3 (v := ?vc3) ?hc3 zq ?rc3
 case hc3 =>
  intro wS hSw
  subst hSw
  (try dsimp only at hSw)
  go_simp
  try with_reducible rfl
 refine tkH 4 zq ?_
 refine tkH 5 zq ?_
 refine tkH 6 zq ?_
 refine tkH 7 zq ?_
 refine tkJ 8 (v := ?vc8) ?hc8 zq ?rc8
 case hc8 =>
  intro wS hSw
  subst hSw
  (try dsimp only at hSw)
  go_simp
  try with_reducible rfl
 refine tkH 9 zq ?_
 refine tkH 10 zq ?_
 refine tkH 11 zq ?_
 refine tkH 12 zq ?_
 refine tkJ 13 (v := ?vc13) ?hc13 zq ?rc13
 case hc13 =>
  intro wS hSw
  subst hSw
  (try dsimp only at hSw)
  go_simp
  try with_reducible rfl
 refine tkH 14 zq ?_
 refine tkH 15 zq ?_
 refine tkH 16 zq ?_
 refine tkH 17 zq ?_
 refine tkH 18 zq ?_
 refine tkH 19 zq ?_
 refine tkH 20 zq ?_
 refine rdH 21 (fun K hK => ?_)
 go_simp
 go_at_call 131
 refine (uh HL).mono ?_
 rintro e w2 ⟨rfl, rfl⟩
 try go_wp2_with fail
 refine hK.out _ _ rfl (fun zq => ?_)
 clear hK K
 try simp only [Act.put, pz, py, px]
 refine tkH 22 zq ?_
 refine tkH 23 zq ?_
 refine tkH 24 zq ?_
 refine wpAnyH_done (by kernel_rfl) ?_ _
 refine NoPanic.normal ?_
 clear zq
 go_wp2_with fail
 go_ret
 exact ⟨by rw [uh HP]; rfl, uh HB⟩
def memberW (x : DWorld) (id : Int) : Bool := decide (0 ≤ placeC x.chain.ids id) && ((nodeOf x id).up && (nodeOf x id).epoch == x.chain.epoch)
theorem memberW_eq (x : DWorld) (id : Int) : memberW x id = memberB x id := by
 unfold memberW memberB
 cases decide (0 ≤ placeC x.chain.ids id) <;> cases (nodeOf x id).up <;> simp
theorem isMemberC (cs : List Value) (x : DWorld) (id : Int) (w : World) (h : Lay.tWorld.Reads w cs x) (hi : ∀ z ∈ x.chain.ids, nodeIn x z = true) (hn5 : x.nodes.length ≤ 5) :
  Calls Tryz.prog 140 #[.agg cs.toArray, .int .i64 id] w fun e w' => e = .returned (.bool (memberW x id)) ∧ Below w.heap.size w w' := by
 obtain ⟨a3, d3, a4, d4, a5, d5, a6, d6, rfl, RC, RN, -, -⟩ := open_World h
 have nb : Below w.heap.size w (w.alloc (.cells #[.int .i64 x.now, .int .i64 x.events, .int .i64 x.chain.epoch, .slice a3 x.chain.ids.length d3, .slice a4 x.nodes.length d4, .slice a5 x.msgs.length d5, .slice a6 x.history.length d6] 36)) := (Below.refl _ _).alloc (Nat.le_refl _) _
 have HX : Hid (Box 0 #[.int .i64 x.now, .int .i64 x.events, .int .i64 x.chain.epoch, .slice a3 x.chain.ids.length d3, .slice a4 x.nodes.length d4, .slice a5 x.msgs.length d5, .slice a6 x.history.length d6] 36 (w.alloc (.cells #[.int .i64 x.now, .int .i64 x.events, .int .i64 x.chain.epoch, .slice a3 x.chain.ids.length d3, .slice a4 x.nodes.length d4, .slice a5 x.msgs.length d5, .slice a6 x.history.length d6] 36)) w.heap.size) := newBox (Nat.zero_le _)
 have HL := yh (isInChainC _ x.chain id _ (RC.later nb))
 have HRN := yh (RN.later nb)
 have HB := yh nb
 have HP : Hid (memberW x id = (decide (0 ≤ placeC x.chain.ids id) && ((nodeOf x id).up && (nodeOf x id).epoch == x.chain.epoch))) := rfl
 have HM : Hid (decide (0 ≤ placeC x.chain.ids id) = true → nodeIn x id = true) := fun q => hi id ((mem_place _ _).1 q)
 clear nb h RC RN hi
 generalize memberW x id = r at *
 generalize hq : decide (0 ≤ placeC x.chain.ids id) = q at *
 clear hq
 go_enter Tryz.func140, Tryz.ntmps140
 go_upto_region 1 with fail
 generalize w.alloc (.cells #[.int .i64 x.now, .int .i64 x.events, .int .i64 x.chain.epoch, .slice a3 x.chain.ids.length d3, .slice a4 x.nodes.length d4, .slice a5 x.msgs.length d5, .slice a6 x.history.length d6] 36) = w1 at *
 have z2 := Box.at (uh HX) 2 _ rfl
 have z3 := Box.at (uh HX) 3 _ rfl
 simp only [ga, gb, gc] at z2 z3
 have zl := (uh HX).lt
 go_wp2_with fail
 refine (uh HL).mono ?_
 rintro e w2 ⟨rfl, hb⟩
 replace HX := yh ((uh HX).keep hb)
 replace HRN := yh ((uh HRN).later hb)
 replace HB := yh ((uh HB).trans (hb.mono (uh HB).size))
 clear hb HL z2 z3 zl
 cases q
 ·
  go_wp2_with fail
  go_ret
  exact ⟨by rw [uh HP]; rfl, uh HB⟩
 obtain ⟨k, hk, rfl⟩ := nodeIn_at (uh HM rfl)
 rw [nodeOf_at hk] at HP
 obtain ⟨b, off, rfl, hbl⟩ := Lay.sl_addr (uh HRN) (by omega)
 obtain ⟨row, hcl, hr⟩ := Lay.row_at (uh HRN) hk
 obtain ⟨an, dn, rfl, -⟩ := open_Node hr
 have c0 : w2.cell? ⟨b, off + k * 7, none⟩ = some (.int .i64 (x.nodes[k]).id) := hcl 0 (by decide)
 have c1 : w2.cell? ⟨b, off + k * 7 + 1, none⟩ = some (.bool (x.nodes[k]).up) := hcl 1 (by decide)
 have c2 : w2.cell? ⟨b, off + k * 7 + 2, none⟩ = some (.int .i64 (x.nodes[k]).epoch) := hcl 2 (by decide)
 have c3 : w2.cell? ⟨b, off + k * 7 + 3, none⟩ = some (.int .i64 (x.nodes[k]).lease) := hcl 3 (by decide)
 have c4 : w2.cell? ⟨b, off + k * 7 + 4, none⟩ = some (.slice an (x.nodes[k]).writes.length dn) := hcl 4 (by decide)
 have c5 : w2.cell? ⟨b, off + k * 7 + 5, none⟩ = some (.int .i64 (x.nodes[k]).sure) := hcl 5 (by decide)
 have c6 : w2.cell? ⟨b, off + k * 7 + 6, none⟩ = some (.int .i64 (x.nodes[k]).clean) := hcl 6 (by decide)
 have hw1 : IntKind.i64.wrap (k : Int) = (k : Int) := by
  rw [IntKind.wrap_i64]
  omega
 have hki : (k : Int) < (x.nodes.length : Int) := by omega
 have z4 := Box.at (uh HX) 4 _ rfl
 have z2 := Box.at (uh HX) 2 _ rfl
 simp only [ga, gb, gc] at z4 z2
 have zl := (uh HX).lt
 clear hcl hr HRN HM HX
 generalize x.nodes[k] = n at *
 have nb : Below w2.heap.size w2 (w2.alloc (.cells #[.int .i64 n.id, .bool n.up, .int .i64 n.epoch, .int .i64 n.lease, .slice an n.writes.length dn, .int .i64 n.sure, .int .i64 n.clean] 84)) := (Below.refl _ _).alloc (Nat.le_refl _) _
 replace HB := yh ((uh HB).trans (nb.mono (uh HB).size))
 clear nb
 generalize hu : n.up = u at *
 clear hu
 generalize he : (n.epoch == x.chain.epoch) = v at *
 cases u
 ·
  go_wp2_with fail
  go_ret
  exact ⟨by rw [uh HP]; rfl, uh HB⟩
 cases v
 ·
  go_wp2_with fail
  go_ret
  exact ⟨by rw [uh HP]; rfl, uh HB⟩
 go_wp2_with fail
 go_ret
 exact ⟨by rw [uh HP]; rfl, uh HB⟩
theorem asked_zero {x : DWorld} {id : Int} (h : askedW x id = 0) : worldFault x = 0 ∧ nodeIn x id = true := by
 rw [askedW_eq] at h
 by_cases q : idFaultR x id ≠ 0
 ·
  rw [if_pos q] at h
  exact absurd h q
 exact idFault_zero (by simpa using q)
theorem asked_bd (x : DWorld) (id : Int) : -1000000000 ≤ askedW x id ∧ askedW x id ≤ 1000000000 := by
 have := idFault_bd x id
 rw [askedW_eq]
 split
 ·
  exact this
 split <;> omega
theorem place_nodup {ids : List Int} (hn : ids.Nodup) {i : Nat} (h : i < ids.length) : placeC ids ids[i] = (i : Int) :=
 placeC_at h rfl fun j hj e => List.pairwise_iff_getElem.1 hn j i (by omega) h hj e
theorem next_nodup {ids : List Int} (hn : ids.Nodup) {i : Nat} (h : i + 1 < ids.length) : nextC ids ids[i] 1 = ids[i + 1] := by
 rw [nextC, place_nodup hn (by omega), if_neg (by omega)]
 rw [show ((i : Int) + 1).toNat = i + 1 by omega]
 simp [List.getD, h]
theorem last_nodup {ids : List Int} (hn : ids.Nodup) {i : Nat} (h : i < ids.length) (hl : i + 1 = ids.length) : nextC ids ids[i] 1 = 0 := by
 rw [nextC, place_nodup hn h, if_pos (Or.inr (Or.inr (by omega)))]
theorem wown_msgs {W0 W : World} {lo g : Nat} {v3 v4 v5 v6 : Value} {y : DWorld} (h : WOwn W0 lo g [.int .i64 y.now, .int .i64 y.events, .int .i64 y.chain.epoch, v3, v4, v5, v6] y) (hb : Below W0.heap.size W0 W) (hg : g < W0.heap.size) (hlo : lo ≤ W0.heap.size) {a : Option Addr} {n d lo5 : Nat} {ms : List DMsg} (hm : (Lay.sl Lay.tMsg).OwnIn W [.slice a n d] ms lo5 W.heap.size) (hl5 : W0.heap.size ≤ lo5) :
  WOwn W lo g [.int .i64 y.now, .int .i64 y.events, .int .i64 y.chain.epoch, v3, v4, .slice a n d, v6] ⟨y.now, y.events, y.chain, y.nodes, ms, y.history⟩ := by
 obtain ⟨bl, O, hgb, hbl⟩ := h
 obtain ⟨a3, d3, a4, d4, a5, d5, a6, d6, g2, g4, g5, g6, hq, rfl, O2, O4, O5, O6, w0, w1⟩ := own_World O
 simp only [List.cons.injEq, and_true, true_and] at hq
 obtain ⟨rfl, rfl, rfl, rfl⟩ := hq
 have hnd := O.2.1
 obtain ⟨bm, Om, hbm⟩ := hm
 have hin : ∀ c, c ∈ g2 ++ (g4 ++ (g5 ++ g6)) → lo ≤ c ∧ c < W0.heap.size := hbl
 have hn : (g2 ++ (g4 ++ (bm ++ g6))).Nodup := by
  rw [List.nodup_append, List.nodup_append, List.nodup_append] at hnd ⊢
  obtain ⟨n2, ⟨n4, ⟨n5, n6, x56⟩, x4⟩, x2⟩ := hnd
  refine ⟨n2, ⟨n4, ⟨Om.2.1, n6, fun p hp c hc e => ?_⟩, fun p hp c hc e => ?_⟩, fun p hp c hc e => ?_⟩
  ·
   have h1 := hbm p hp
   have h2 := hin c (by simp [hc])
   omega
  ·
   rcases List.mem_append.1 hc with q | q
   ·
    have h1 := hbm c q
    have h2 := hin p (by simp [hp])
    omega
   exact x4 p hp c (by simp [q]) e
  rcases List.mem_append.1 hc with q | q
  ·
   exact x2 p hp c (by simp [q]) e
  rcases List.mem_append.1 q with q | q
  ·
   have h1 := hbm c q
   have h2 := hin p (by simp [hp])
   omega
  exact x2 p hp c (by simp [q]) e
 have hz := hb.size
 have hnn : n = ms.length := (Lay.Reads.cap ⟨bm, Om.1⟩).1
 subst hnn
 refine ⟨g2 ++ (g4 ++ (bm ++ g6)), mkOwn_World (x := ⟨y.now, y.events, y.chain, y.nodes, ms, y.history⟩) (O2.later hb) (O4.later hb) Om (O6.later hb) w0 w1 hn, fun q => ?_, fun c hc => ?_⟩
 ·
  rcases List.mem_append.1 q with q | q
  ·
   exact hgb (by simp [q])
  rcases List.mem_append.1 q with q | q
  ·
   exact hgb (by simp [q])
  rcases List.mem_append.1 q with q | q
  ·
   have := hbm g q; omega
  exact hgb (by simp [q])
 have hc2 : c ∈ g2 ++ (g4 ++ (g5 ++ g6)) ∨ c ∈ bm := by
  simp only [List.mem_append] at hc ⊢
  rcases hc with q | q | q | q
  ·
   exact Or.inl (Or.inl q)
  ·
   exact Or.inl (Or.inr (Or.inl q))
  ·
   exact Or.inr q
  exact Or.inl (Or.inr (Or.inr (Or.inr q)))
 rcases hc2 with q | q
 ·
  have := hin c q; omega
 have := hbm c q; omega
def ackM (y : DWorld) (id : Int) : DMsg := ⟨2, y.chain.epoch, id, nextC y.chain.ids id (-1), if nextC y.chain.ids id 1 = 0 then (nodeOf y id).sure else (nodeOf y id).clean, ⟨0, 0, [], 0, 0⟩⟩
def ackC (y : DWorld) (id : Int) : Int := if memberB y id = false then 10 else if nextC y.chain.ids id (-1) = 0 then 8 else (sendM y.msgs (ackM y id)).code
theorem sendM_bd (xs : List DMsg) (m : DMsg) : -1000000000 ≤ (sendM xs m).code ∧ (sendM xs m).code ≤ 1000000000 := by
 unfold sendM badNet
 split
 ·
  simp
 split <;> simp
theorem ackC_bd (y : DWorld) (id : Int) : -1000000000 ≤ ackC y id ∧ ackC y id ≤ 1000000000 := by
 have := sendM_bd y.msgs (ackM y id)
 unfold ackC
 split
 ·
  omega
 split
 ·
  omega
 exact this
theorem sentW_res (x : DWorld) (m : DMsg) : resW (sendM x.msgs m).code true (withMsgs (nextW x) (sendM x.msgs m).msgs) = sentW x m := by
 unfold resW sentW withMsgs
 by_cases h : (sendM x.msgs m).code = 0
 ·
  rw [if_pos h, if_neg (by simpa using h)]
 rw [if_neg h, if_pos (by simpa using h)]
theorem resW_bad {c : Int} (h : c ≠ 0) (mv : Bool) (z : DWorld) : resW c mv z = badWorld c := if_neg h
theorem ackW_eq (x : DWorld) (id : Int) : steppedR x (idFaultR x id) (ackC (nextW x) id) true (withMsgs (nextW x) (sendM x.msgs (ackM x id)).msgs) = ackWR x id := by
 rw [steppedR_eq, ackWR]
 by_cases h : askedW x id ≠ 0
 ·
  rw [if_pos h, if_pos h]
 rw [if_neg h, if_neg h]
 have e1 : ackC (nextW x) id = ackC x id := rfl
 rw [e1, ackC]
 by_cases h1 : memberB x id = false
 ·
  rw [if_pos h1, if_pos h1]; exact resW_bad (by decide) _ _
 rw [if_neg h1, if_neg h1]
 by_cases h2 : nextC x.chain.ids id (-1) = 0
 ·
  rw [if_pos h2, if_pos h2]; exact resW_bad (by decide) _ _
 rw [if_neg h2, if_neg h2]
 exact sentW_res x (ackM x id)
theorem next_other {c : DChain} (hk : ChainOK c) {id d : Int} (hd : d = 1 ∨ d = -1) (h : nextC c.ids id d ≠ 0) : nextC c.ids id d ∈ c.ids ∧ nextC c.ids id d ≠ id := by
 unfold nextC at h ⊢
 by_cases q : placeC c.ids id < 0 ∨ placeC c.ids id + d < 0 ∨ (c.ids.length : Int) ≤ placeC c.ids id + d
 ·
  rw [if_pos q] at h
  exact absurd rfl h
 rw [if_neg q]
 obtain ⟨k, hk1, e, hid, -⟩ := placeC_get (show 0 ≤ placeC c.ids id by omega)
 rw [e] at q ⊢
 have hj : ((k : Int) + d).toNat < c.ids.length := by omega
 have hne : ((k : Int) + d).toNat ≠ k := by omega
 generalize ((k : Int) + d).toNat = j at *
 have eg : c.ids.getD j 0 = c.ids[j] := by simp [List.getD, hj]
 rw [eg]
 refine ⟨List.getElem_mem hj, fun e2 => ?_⟩
 rw [← hid] at e2
 exact hne ((List.getElem_inj (h₀ := hj) (h₁ := hk1) hk.nodup).1 e2)
theorem member_in {x : DWorld} {id : Int} (h : memberB x id = true) : 0 ≤ placeC x.chain.ids id := by
 unfold memberB at h
 simp only [Bool.and_eq_true, decide_eq_true_eq] at h
 exact h.2.2
theorem member_bd {x : DWorld} (hc : chainFault x.chain = 0) {id : Int} (h : memberB x id = true) : 1 ≤ id ∧ id ≤ 5 := by
 obtain ⟨k, hk1, -, hid, -⟩ := placeC_get (member_in h)
 have := (chainFault_zero hc).ids x.chain.ids[k] (List.getElem_mem hk1)
 rw [hid] at this
 exact this
theorem next_bdC {x : DWorld} (hc : chainFault x.chain = 0) {id d : Int} (hd : d = 1 ∨ d = -1) (h : nextC x.chain.ids id d ≠ 0) : (1 ≤ nextC x.chain.ids id d ∧ nextC x.chain.ids id d ≤ 5) ∧ nextC x.chain.ids id d ≠ id := by
 obtain ⟨h1, h2⟩ := next_other (chainFault_zero hc) hd h
 exact ⟨(chainFault_zero hc).ids _ h1, h2⟩
theorem beside_of {x : DWorld} (hc : chainFault x.chain = 0) {id d : Int} (hp : 0 ≤ placeC x.chain.ids id) : besideR x.chain id d = if nextC x.chain.ids id d = 0 then ⟨8, 0⟩ else ⟨0, nextC x.chain.ids id d⟩ := by
 rw [besideR, if_pos hc, if_neg (by omega)]
theorem ack_ok {x : DWorld} {id : Int} (hc : chainFault x.chain = 0) (hm : memberB x id = true) (hx : nextC x.chain.ids id (-1) ≠ 0) (hn : nodeFault (nodeOf x id) = 0) : msgFault (ackM x id) = 0 := by
 have h1 := member_bd hc hm
 have h2 := next_bdC hc (Or.inr rfl) hx
 have h3 := nodeFault_zero hn
 have h4 := (chainFault_zero hc).epoch
 have hs := h3.sure
 have hl := h3.len
 have hcl := h3.clean
 have hi : 0 ≤ (ackM x id).index ∧ (ackM x id).index ≤ 40 := by
  show 0 ≤ (if nextC x.chain.ids id 1 = 0 then (nodeOf x id).sure else (nodeOf x id).clean) ∧ (if nextC x.chain.ids id 1 = 0 then (nodeOf x id).sure else (nodeOf x id).clean) ≤ 40
  split <;> omega
 unfold msgFault
 rw [if_neg, if_neg, if_pos]
 ·
  rfl
 ·
  show ¬ (¬ (1 ≤ x.chain.epoch ∧ x.chain.epoch ≤ 999) ∨ ¬ (1 ≤ id ∧ id ≤ 5) ∨ ¬ (1 ≤ nextC x.chain.ids id (-1) ∧ nextC x.chain.ids id (-1) ≤ 5) ∨ ¬ (0 ≤ (ackM x id).index ∧ (ackM x id).index ≤ 40) ∨ ((2 : Int) ≠ 2 ∧ (ackM x id).index = 0))
  omega
 show ¬ (¬ (1 ≤ (2 : Int) ∧ (2 : Int) ≤ 2) ∨ id = nextC x.chain.ids id (-1) ∨ ((2 : Int) = 2 ∧ ¬ noW ⟨0, 0, [], 0, 0⟩))
 have := h2.2
 have hz : noW ⟨0, 0, [], 0, 0⟩ := ⟨rfl, rfl, rfl, rfl, rfl⟩
 simp [hz]
 omega
theorem sendR_okW {xs : List DMsg} {m : DMsg} (h : netFault xs = 0) (hm : msgFault m = 0) : sendR xs m = sendM xs m := by rw [sendR, if_pos h, if_pos hm]
theorem sendM_fewW {xs : List DMsg} {m : DMsg} (h1 : xs.length ≤ 1000) (h2 : ∀ y ∈ xs, y.write.vec.length ≤ 1000) (hm : m.write.vec.length ≤ 1000) (hl : xs.length ≤ 40) : (sendM xs m).msgs.length ≤ 1000 ∧ ∀ y ∈ (sendM xs m).msgs, y.write.vec.length ≤ 1000 := by
 unfold sendM badNet
 split
 ·
  exact ⟨h1, h2⟩
 split
 ·
  exact ⟨by simp, fun y hy => by simp at hy⟩
 refine ⟨by simp; omega, fun y hy => ?_⟩
 rcases List.mem_append.1 hy with q | q
 ·
  exact h2 y q
 rw [List.mem_singleton.1 q]
 exact hm
theorem sentW_few {x : DWorld} {m : DMsg} (hF : FewW x) (hm : m.write.vec.length ≤ 1000) (hl : x.msgs.length ≤ 40) : Lay.tWorldResult.vcnt (sentW x m) ≤ 100000000 := by
 unfold sentW
 split
 ·
  exact badW_few _
 have hd := sendM_fewW hF.mlen hF.msgs hm hl
 exact few_vcnt ⟨hF.ids, hF.len, hF.nodes, hd.1, hd.2, hF.hist⟩
theorem ackWR_few {x : DWorld} {id : Int} (hs : Lay.tWorld.sz x ≤ 1048576) : Lay.tWorldResult.vcnt (ackWR x id) ≤ 100000000 := by
 unfold ackWR
 split
 ·
  exact badW_few _
 rename_i q
 obtain ⟨hwf, hin⟩ := asked_zero (by simpa using q)
 have hok := worldFault_zero hwf
 have hF := few_of_ok hok hs
 split
 ·
  exact badW_few _
 split
 ·
  exact badW_few _
 exact sentW_few hF (by simp) (netFault_zero hok.net).1
theorem int_partsS {w : World} {cs : List Value} {y : DIntResult} {lo hi : Nat} (h : Lay.tIntResult.OwnIn w cs y lo hi) : cs = [.int .i64 y.code, .int .i64 y.value] ∧ (Lit.int .i64 y.code).wf = true ∧ (Lit.int .i64 y.value).wf = true := by
 obtain ⟨bl, O, -⟩ := h
 obtain ⟨e, -, w0, w1⟩ := lies_IntResult.1 O.1
 exact ⟨e, w0, w1⟩
end Go.Proofs.YtoanimpijfijgaaGreat
