/-
  Texts of this proof in one: SpecInts, SpecSame, NodeKitP.
  Their conditions stand in their theorems.
-/
import Derived.Test.YtecagllmonckgaaGreatChecked
import Derived.Test.YtecagllmonckgaaGreatLi10
import Derived.BigQuiet
import Derived.Deep.QuietTactic
import Derived.WalkSmall
import Derived.Test.YtecagllmonckgaaGreatLi00
import Derived.Test.YtecagllmonckgaaGreatLi05
import Derived.Deep.RegionHeld3
import Derived.Test.YtecagllmonckgaaGreatLi08
set_option maxRecDepth 100000
set_option maxHeartbeats 4000000
namespace Go.Proofs.YtecagllmonckgaaGreat
open Go.RowKit
theorem gq {ps qs : List Int} {k : Nat} (h : ps.getD k 0 ≠ qs.getD k 0) : decide (ps = qs) = false := by
 simp only [decide_eq_false_iff_not]
 rintro rfl
 exact h rfl
theorem fH {ps qs : List Int} (hl : ps.length = qs.length) (h : ∀ j, j < ps.length → ps.getD j 0 = qs.getD j 0) : decide (ps = qs) = true := by
 simp only [decide_eq_true_eq]
 refine List.ext_getElem hl fun j h1 h2 => ?_
 have := h j h1
 simpa [List.getD, h1, h2] using this
theorem iX (b off cap b2 off2 cap2 : Nat) (ps qs : List Int) (w : World) (hl : ps.length = qs.length) (hn : ps.length ≤ 9223372036854775807) (hc : ∀ j, j < ps.length → w.cell? ⟨b, off + j, none⟩ = some (.int .i64 (ps.getD j 0)))
  (hc2 : ∀ j, j < ps.length → w.cell? ⟨b2, off2 + j, none⟩ = some (.int .i64 (qs.getD j 0))) :
  Calls Tryz.prog 155 #[.slice (some ⟨b, off, none⟩) ps.length cap, .slice (some ⟨b2, off2, none⟩) ps.length cap2] w fun e w' => e = .returned (.bool (decide (ps = qs))) ∧ Below w.heap.size w w' := by
 have HL := yh hl
 clear hl
 go_enter Tryz.func155, Tryz.ntmps155
 go_wp2
 go_loopw [5] (fun i wr => ∃ k : Nat, k ≤ ps.length ∧ i = .int .i64 k ∧ Below w.heap.size w wr ∧ ∀ j, j < k → ps.getD j 0 = qs.getD j 0) (fun i _ => ps.length - (intOf i).toNat)
 case atStart => exact ⟨0, Nat.zero_le _, rfl, Below.refl _ _, fun j hj => by omega⟩
 case round =>
  obtain ⟨k, hk, rfl, hB, hq⟩ := hrel
  by_cases hlt : k < ps.length
  ·
   have hcx : wr.cell? ⟨b, off + k, none⟩ = some (.int .i64 (ps.getD k 0)) := (hB.cell (World.block_lt_of_cell? _ _ (hc k hlt))).trans (hc k hlt)
   have hcy : wr.cell? ⟨b2, off2 + k, none⟩ = some (.int .i64 (qs.getD k 0)) := (hB.cell (World.block_lt_of_cell? _ _ (hc2 k hlt))).trans (hc2 k hlt)
   have HQ := yh hq
   have HB := yh hB
   clear hc hc2 hq hB
   by_cases he : ps.getD k 0 = qs.getD k 0
   ·
    have HE := yh he
    rw [← he] at hcy
    clear he
    generalize ps.getD k 0 = x at hcx hcy
    have hxx : (x != x) = false := by simp
    go_wp2
    go_quiet (fail)
    go_wp2
    go_roundw
    case rel =>
     refine ⟨k + 1, by omega, by go_num, below_drewN (uh HB) _, fun j hj => ?_⟩
     by_cases hjk : j < k
     ·
      exact uh HQ j hjk
     obtain rfl : j = k := by omega
     exact uh HE
    case measure => simp [intOf]; omega
   have HN := yh (gq he)
   have hxy : (ps.getD k 0 != qs.getD k 0) = true := by rw [bne_iff_ne]; exact he
   clear he
   generalize ps.getD k 0 = x at hcx hxy
   generalize qs.getD k 0 = y at hcy hxy
   go_wp2
   go_quiet (fail)
   go_wp2
   go_ret
   exact ⟨by rw [uh HN]; rfl, below_drewN (uh HB) _⟩
  obtain rfl : k = ps.length := by omega
  have HN := yh (fH (uh HL) hq)
  have HB := yh hB
  clear hc hc2 hq hB
  go_wp2
  go_ret
  exact ⟨by rw [uh HN]; rfl, uh HB⟩
theorem iR (ao ao2 : Option Addr) (n m cap cap2 : Nat) (w : World) (h : n ≠ m) :
  Calls Tryz.prog 155 #[.slice ao n cap, .slice ao2 m cap2] w fun e w' => e = .returned (.bool false) ∧ Below w.heap.size w w' := by
 have hd : ((n : Int) != (m : Int)) = true := by rw [bne_iff_ne]; omega
 go_enter Tryz.func155, Tryz.ntmps155
 go_wp2
 go_ret
 exact ⟨rfl, Below.refl _ _⟩
theorem gQ (ao ao2 : Option Addr) (cap cap2 : Nat) (w : World) :
  Calls Tryz.prog 155 #[.slice ao 0 cap, .slice ao2 0 cap2] w fun e w' => e = .returned (.bool true) ∧ Below w.heap.size w w' := by
 go_enter Tryz.func155, Tryz.ntmps155
 go_wp2
 refine wp_loop_rounds 1 ?_
 rw [rounds_succ]
 go_wp2
 go_ret
 exact ⟨rfl, Below.refl _ _⟩
theorem ma (v v2 : Value) (ps qs : List Int) (w : World) (h : bh w v ps) (h2 : bh w v2 qs) (hn : ps.length ≤ 9223372036854775807) :
  Calls Tryz.prog 155 #[v, v2] w fun e w' => e = .returned (.bool (decide (ps = qs))) ∧ Below w.heap.size w w' := by
 obtain ⟨ao, cap, rfl, hwf, hc⟩ := h
 obtain ⟨ao2, cap2, rfl, _, hc2⟩ := h2
 by_cases hl : ps.length = qs.length
 ·
  by_cases hp : 0 < ps.length
  ·
   obtain ⟨b, off, rfl, hc1⟩ := hc hp
   obtain ⟨b2, off2, rfl, hc3⟩ := hc2 (by omega)
   rw [← hl] at hc3 ⊢
   exact iX b off cap b2 off2 cap2 ps qs w hl hn hc1 hc3
  obtain rfl : ps = [] := List.eq_nil_of_length_eq_zero (by omega)
  obtain rfl : qs = [] := List.eq_nil_of_length_eq_zero (by simpa using hl.symm)
  exact gQ ao ao2 cap cap2 w
 rw [show decide (ps = qs) = false by simp only [decide_eq_false_iff_not]; rintro rfl; exact hl rfl]
 exact iR ao ao2 _ _ cap cap2 w hl
theorem jO (b o b2 o2 : Nat) (x y : ak) (a2 a2z : Option Addr) (d2 d2z : Nat) (w : World) (hA : w.cell? ⟨b, o, none⟩ = some (.int .i64 x.kind) ∧ w.cell? ⟨b, o + 1, none⟩ = some (.int .i64 x.id) ∧ w.cell? ⟨b, o + 2, none⟩ = some (.slice a2 x.vec.length d2) ∧ w.cell? ⟨b, o + 3, none⟩ = some (.int .i64 x.aa) ∧ w.cell? ⟨b, o + 4, none⟩ = some (.int .i64 x.seq)) (hZ : w.cell? ⟨b2, o2, none⟩ = some (.int .i64 y.kind) ∧ w.cell? ⟨b2, o2 + 1, none⟩ = some (.int .i64 y.id) ∧ w.cell? ⟨b2, o2 + 2, none⟩ = some (.slice a2z y.vec.length d2z) ∧ w.cell? ⟨b2, o2 + 3, none⟩ = some (.int .i64 y.aa) ∧ w.cell? ⟨b2, o2 + 4, none⟩ = some (.int .i64 y.seq)) (e0 : (x.kind == y.kind) = false) :
  Calls Tryz.prog 151 #[.pointer (some ⟨b, o, none⟩), .pointer (some ⟨b2, o2, none⟩)] w fun e w' => e = .returned (.bool false) ∧ Below w.heap.size w w' := by
 obtain ⟨c0, c1, c2, c3, c4⟩ := hA
 obtain ⟨k0, k1, k2, k3, k4⟩ := hZ
 have hb := World.block_lt_of_cell? _ _ c0
 have hb2 := World.block_lt_of_cell? _ _ k0
 go_enter Tryz.func151, Tryz.ntmps151
 go_wp2_with fail
 refine wZz (fun w' => Below w.heap.size w w') (Below.refl _ _).drew (fun zq => ?_)
 generalize w.drew = wD at zq ⊢
 refine tkH 0 zq ?_
 refine tkH 1 zq ?_
 refine tkH 2 zq ?_
 refine tkJ 3 (v := ?v3) ?h3 zq ?r3
 case h3 =>
  intro wS hSw
  have y0 := cZ hSw (by simpa using hb) c0
  have y1 := cZ hSw (by simpa using hb) c1
  have y2 := cZ hSw (by simpa using hb) c2
  have y3 := cZ hSw (by simpa using hb) c3
  have y4 := cZ hSw (by simpa using hb) c4
  have z0 := cZ hSw (by simpa using hb2) k0
  have z1 := cZ hSw (by simpa using hb2) k1
  have z2 := cZ hSw (by simpa using hb2) k2
  have z3 := cZ hSw (by simpa using hb2) k3
  have z4 := cZ hSw (by simpa using hb2) k4
  clear hSw
  exact fZ
 refine tkH 4 zq ?_
 refine tkH 5 zq ?_
 refine tkH 6 zq ?_
 refine tkJ 7 (v := ?v7) ?h7 zq ?r7
 case h7 =>
  intro wS hSw
  have y0 := cZ hSw (by simpa using hb) c0
  have y1 := cZ hSw (by simpa using hb) c1
  have y2 := cZ hSw (by simpa using hb) c2
  have y3 := cZ hSw (by simpa using hb) c3
  have y4 := cZ hSw (by simpa using hb) c4
  have z0 := cZ hSw (by simpa using hb2) k0
  have z1 := cZ hSw (by simpa using hb2) k1
  have z2 := cZ hSw (by simpa using hb2) k2
  have z3 := cZ hSw (by simpa using hb2) k3
  have z4 := cZ hSw (by simpa using hb2) k4
  clear hSw
  exact fZ
 refine tkH 8 zq ?_
 refine tkH 9 zq ?_
 refine skH 10 zq ?_
 refine skH 11 zq ?_
 refine skH 12 zq ?_
 refine skH 13 zq ?_
 refine skH 14 zq ?_
 refine skH 15 zq ?_
 refine skH 16 zq ?_
 refine skH 17 zq ?_
 refine skH 18 zq ?_
 refine tkH 19 zq ?_
 refine tkH 20 zq ?_
 refine skH 21 zq ?_
 refine skH 22 zq ?_
 refine skH 23 zq ?_
 refine skH 24 zq ?_
 refine skH 25 zq ?_
 refine skH 26 zq ?_
 refine skH 27 zq ?_
 refine skH 28 zq ?_
 refine skH 29 zq ?_
 refine tkH 30 zq ?_
 refine tkH 31 zq ?_
 refine skH 32 zq ?_
 refine skH 33 zq ?_
 refine skH 34 zq ?_
 refine skH 35 zq ?_
 refine skH 36 zq ?_
 refine skH 37 zq ?_
 refine skH 38 zq ?_
 refine skH 39 zq ?_
 refine skH 40 zq ?_
 refine tkH 41 zq ?_
 refine tkH 42 zq ?_
 refine skH 43 zq ?_
 refine skH 44 zq ?_
 refine skH 45 zq ?_
 refine skH 46 zq ?_
 refine skH 47 zq ?_
 refine skH 48 zq ?_
 refine skH 49 zq ?_
 refine skH 50 zq ?_
 refine skH 51 zq ?_
 refine tkH 52 zq ?_
 refine tkH 53 zq ?_
 refine dZ ?_
 have HB := yh zq
 clear zq
 go_wp2_with fail
 go_ret
 exact ⟨rfl, uh HB⟩
theorem j8 (b o b2 o2 : Nat) (x y : ak) (a2 a2z : Option Addr) (d2 d2z : Nat) (w : World) (hA : w.cell? ⟨b, o, none⟩ = some (.int .i64 x.kind) ∧ w.cell? ⟨b, o + 1, none⟩ = some (.int .i64 x.id) ∧ w.cell? ⟨b, o + 2, none⟩ = some (.slice a2 x.vec.length d2) ∧ w.cell? ⟨b, o + 3, none⟩ = some (.int .i64 x.aa) ∧ w.cell? ⟨b, o + 4, none⟩ = some (.int .i64 x.seq)) (hZ : w.cell? ⟨b2, o2, none⟩ = some (.int .i64 y.kind) ∧ w.cell? ⟨b2, o2 + 1, none⟩ = some (.int .i64 y.id) ∧ w.cell? ⟨b2, o2 + 2, none⟩ = some (.slice a2z y.vec.length d2z) ∧ w.cell? ⟨b2, o2 + 3, none⟩ = some (.int .i64 y.aa) ∧ w.cell? ⟨b2, o2 + 4, none⟩ = some (.int .i64 y.seq)) (e0 : (x.kind == y.kind) = true) (e1 : (x.id == y.id) = false) :
  Calls Tryz.prog 151 #[.pointer (some ⟨b, o, none⟩), .pointer (some ⟨b2, o2, none⟩)] w fun e w' => e = .returned (.bool false) ∧ Below w.heap.size w w' := by
 obtain ⟨c0, c1, c2, c3, c4⟩ := hA
 obtain ⟨k0, k1, k2, k3, k4⟩ := hZ
 have hb := World.block_lt_of_cell? _ _ c0
 have hb2 := World.block_lt_of_cell? _ _ k0
 go_enter Tryz.func151, Tryz.ntmps151
 go_wp2_with fail
 refine wZz (fun w' => Below w.heap.size w w') (Below.refl _ _).drew (fun zq => ?_)
 generalize w.drew = wD at zq ⊢
 refine tkH 0 zq ?_
 refine tkH 1 zq ?_
 refine tkH 2 zq ?_
 refine tkJ 3 (v := ?v3) ?h3 zq ?r3
 case h3 =>
  intro wS hSw
  have y0 := cZ hSw (by simpa using hb) c0
  have y1 := cZ hSw (by simpa using hb) c1
  have y2 := cZ hSw (by simpa using hb) c2
  have y3 := cZ hSw (by simpa using hb) c3
  have y4 := cZ hSw (by simpa using hb) c4
  have z0 := cZ hSw (by simpa using hb2) k0
  have z1 := cZ hSw (by simpa using hb2) k1
  have z2 := cZ hSw (by simpa using hb2) k2
  have z3 := cZ hSw (by simpa using hb2) k3
  have z4 := cZ hSw (by simpa using hb2) k4
  clear hSw
  exact fZ
 refine tkH 4 zq ?_
 refine tkH 5 zq ?_
 refine tkH 6 zq ?_
 refine tkJ 7 (v := ?v7) ?h7 zq ?r7
 case h7 =>
  intro wS hSw
  have y0 := cZ hSw (by simpa using hb) c0
  have y1 := cZ hSw (by simpa using hb) c1
  have y2 := cZ hSw (by simpa using hb) c2
  have y3 := cZ hSw (by simpa using hb) c3
  have y4 := cZ hSw (by simpa using hb) c4
  have z0 := cZ hSw (by simpa using hb2) k0
  have z1 := cZ hSw (by simpa using hb2) k1
  have z2 := cZ hSw (by simpa using hb2) k2
  have z3 := cZ hSw (by simpa using hb2) k3
  have z4 := cZ hSw (by simpa using hb2) k4
  clear hSw
  exact fZ
 refine tkH 8 zq ?_
 refine tkH 9 zq ?_
 refine tkH 10 zq ?_
 refine tkH 11 zq ?_
 refine tkH 12 zq ?_
 refine tkJ 13 (v := ?v13) ?h13 zq ?r13
 case h13 =>
  intro wS hSw
  have y0 := cZ hSw (by simpa using hb) c0
  have y1 := cZ hSw (by simpa using hb) c1
  have y2 := cZ hSw (by simpa using hb) c2
  have y3 := cZ hSw (by simpa using hb) c3
  have y4 := cZ hSw (by simpa using hb) c4
  have z0 := cZ hSw (by simpa using hb2) k0
  have z1 := cZ hSw (by simpa using hb2) k1
  have z2 := cZ hSw (by simpa using hb2) k2
  have z3 := cZ hSw (by simpa using hb2) k3
  have z4 := cZ hSw (by simpa using hb2) k4
  clear hSw
  exact fZ
 refine tkH 14 zq ?_
 refine tkH 15 zq ?_
 refine tkH 16 zq ?_
 refine tkJ 17 (v := ?v17) ?h17 zq ?r17
 case h17 =>
  intro wS hSw
  have y0 := cZ hSw (by simpa using hb) c0
  have y1 := cZ hSw (by simpa using hb) c1
  have y2 := cZ hSw (by simpa using hb) c2
  have y3 := cZ hSw (by simpa using hb) c3
  have y4 := cZ hSw (by simpa using hb) c4
  have z0 := cZ hSw (by simpa using hb2) k0
  have z1 := cZ hSw (by simpa using hb2) k1
  have z2 := cZ hSw (by simpa using hb2) k2
  have z3 := cZ hSw (by simpa using hb2) k3
  have z4 := cZ hSw (by simpa using hb2) k4
  clear hSw
  exact fZ
 refine tkH 18 zq ?_
 refine tkH 19 zq ?_
 refine tkH 20 zq ?_
 refine skH 21 zq ?_
 refine skH 22 zq ?_
 refine skH 23 zq ?_
 refine skH 24 zq ?_
 refine skH 25 zq ?_
 refine skH 26 zq ?_
 refine skH 27 zq ?_
 refine skH 28 zq ?_
 refine skH 29 zq ?_
 refine tkH 30 zq ?_
 refine tkH 31 zq ?_
 refine skH 32 zq ?_
 refine skH 33 zq ?_
 refine skH 34 zq ?_
 refine skH 35 zq ?_
 refine skH 36 zq ?_
 refine skH 37 zq ?_
 refine skH 38 zq ?_
 refine skH 39 zq ?_
 refine skH 40 zq ?_
 refine tkH 41 zq ?_
 refine tkH 42 zq ?_
 refine skH 43 zq ?_
 refine skH 44 zq ?_
 refine skH 45 zq ?_
 refine skH 46 zq ?_
 refine skH 47 zq ?_
 refine skH 48 zq ?_
 refine skH 49 zq ?_
 refine skH 50 zq ?_
 refine skH 51 zq ?_
 refine tkH 52 zq ?_
 refine tkH 53 zq ?_
 refine dZ ?_
 have HB := yh zq
 clear zq
 go_wp2_with fail
 go_ret
 exact ⟨rfl, uh HB⟩
theorem j0 (b o b2 o2 : Nat) (x y : ak) (a2 a2z : Option Addr) (d2 d2z : Nat) (w : World) (hA : w.cell? ⟨b, o, none⟩ = some (.int .i64 x.kind) ∧ w.cell? ⟨b, o + 1, none⟩ = some (.int .i64 x.id) ∧ w.cell? ⟨b, o + 2, none⟩ = some (.slice a2 x.vec.length d2) ∧ w.cell? ⟨b, o + 3, none⟩ = some (.int .i64 x.aa) ∧ w.cell? ⟨b, o + 4, none⟩ = some (.int .i64 x.seq)) (hZ : w.cell? ⟨b2, o2, none⟩ = some (.int .i64 y.kind) ∧ w.cell? ⟨b2, o2 + 1, none⟩ = some (.int .i64 y.id) ∧ w.cell? ⟨b2, o2 + 2, none⟩ = some (.slice a2z y.vec.length d2z) ∧ w.cell? ⟨b2, o2 + 3, none⟩ = some (.int .i64 y.aa) ∧ w.cell? ⟨b2, o2 + 4, none⟩ = some (.int .i64 y.seq)) (e0 : (x.kind == y.kind) = true) (e1 : (x.id == y.id) = true) (e2 : (x.aa == y.aa) = false) :
  Calls Tryz.prog 151 #[.pointer (some ⟨b, o, none⟩), .pointer (some ⟨b2, o2, none⟩)] w fun e w' => e = .returned (.bool false) ∧ Below w.heap.size w w' := by
 obtain ⟨c0, c1, c2, c3, c4⟩ := hA
 obtain ⟨k0, k1, k2, k3, k4⟩ := hZ
 have hb := World.block_lt_of_cell? _ _ c0
 have hb2 := World.block_lt_of_cell? _ _ k0
 go_enter Tryz.func151, Tryz.ntmps151
 go_wp2_with fail
 refine wZz (fun w' => Below w.heap.size w w') (Below.refl _ _).drew (fun zq => ?_)
 generalize w.drew = wD at zq ⊢
 refine tkH 0 zq ?_
 refine tkH 1 zq ?_
 refine tkH 2 zq ?_
 refine tkJ 3 (v := ?v3) ?h3 zq ?r3
 case h3 =>
  intro wS hSw
  have y0 := cZ hSw (by simpa using hb) c0
  have y1 := cZ hSw (by simpa using hb) c1
  have y2 := cZ hSw (by simpa using hb) c2
  have y3 := cZ hSw (by simpa using hb) c3
  have y4 := cZ hSw (by simpa using hb) c4
  have z0 := cZ hSw (by simpa using hb2) k0
  have z1 := cZ hSw (by simpa using hb2) k1
  have z2 := cZ hSw (by simpa using hb2) k2
  have z3 := cZ hSw (by simpa using hb2) k3
  have z4 := cZ hSw (by simpa using hb2) k4
  clear hSw
  exact fZ
 refine tkH 4 zq ?_
 refine tkH 5 zq ?_
 refine tkH 6 zq ?_
 refine tkJ 7 (v := ?v7) ?h7 zq ?r7
 case h7 =>
  intro wS hSw
  have y0 := cZ hSw (by simpa using hb) c0
  have y1 := cZ hSw (by simpa using hb) c1
  have y2 := cZ hSw (by simpa using hb) c2
  have y3 := cZ hSw (by simpa using hb) c3
  have y4 := cZ hSw (by simpa using hb) c4
  have z0 := cZ hSw (by simpa using hb2) k0
  have z1 := cZ hSw (by simpa using hb2) k1
  have z2 := cZ hSw (by simpa using hb2) k2
  have z3 := cZ hSw (by simpa using hb2) k3
  have z4 := cZ hSw (by simpa using hb2) k4
  clear hSw
  exact fZ
 refine tkH 8 zq ?_
 refine tkH 9 zq ?_
 refine tkH 10 zq ?_
 refine tkH 11 zq ?_
 refine tkH 12 zq ?_
 refine tkJ 13 (v := ?v13) ?h13 zq ?r13
 case h13 =>
  intro wS hSw
  have y0 := cZ hSw (by simpa using hb) c0
  have y1 := cZ hSw (by simpa using hb) c1
  have y2 := cZ hSw (by simpa using hb) c2
  have y3 := cZ hSw (by simpa using hb) c3
  have y4 := cZ hSw (by simpa using hb) c4
  have z0 := cZ hSw (by simpa using hb2) k0
  have z1 := cZ hSw (by simpa using hb2) k1
  have z2 := cZ hSw (by simpa using hb2) k2
  have z3 := cZ hSw (by simpa using hb2) k3
  have z4 := cZ hSw (by simpa using hb2) k4
  clear hSw
  exact fZ
 refine tkH 14 zq ?_
 refine tkH 15 zq ?_
 refine tkH 16 zq ?_
 refine tkJ 17 (v := ?v17) ?h17 zq ?r17
 case h17 =>
  intro wS hSw
  have y0 := cZ hSw (by simpa using hb) c0
  have y1 := cZ hSw (by simpa using hb) c1
  have y2 := cZ hSw (by simpa using hb) c2
  have y3 := cZ hSw (by simpa using hb) c3
  have y4 := cZ hSw (by simpa using hb) c4
  have z0 := cZ hSw (by simpa using hb2) k0
  have z1 := cZ hSw (by simpa using hb2) k1
  have z2 := cZ hSw (by simpa using hb2) k2
  have z3 := cZ hSw (by simpa using hb2) k3
  have z4 := cZ hSw (by simpa using hb2) k4
  clear hSw
  exact fZ
 refine tkH 18 zq ?_
 refine tkH 19 zq ?_
 refine tkH 20 zq ?_
 refine tkH 21 zq ?_
 refine tkH 22 zq ?_
 refine tkH 23 zq ?_
 refine tkJ 24 (v := ?v24) ?h24 zq ?r24
 case h24 =>
  intro wS hSw
  have y0 := cZ hSw (by simpa using hb) c0
  have y1 := cZ hSw (by simpa using hb) c1
  have y2 := cZ hSw (by simpa using hb) c2
  have y3 := cZ hSw (by simpa using hb) c3
  have y4 := cZ hSw (by simpa using hb) c4
  have z0 := cZ hSw (by simpa using hb2) k0
  have z1 := cZ hSw (by simpa using hb2) k1
  have z2 := cZ hSw (by simpa using hb2) k2
  have z3 := cZ hSw (by simpa using hb2) k3
  have z4 := cZ hSw (by simpa using hb2) k4
  clear hSw
  exact fZ
 refine tkH 25 zq ?_
 refine tkH 26 zq ?_
 refine tkH 27 zq ?_
 refine tkJ 28 (v := ?v28) ?h28 zq ?r28
 case h28 =>
  intro wS hSw
  have y0 := cZ hSw (by simpa using hb) c0
  have y1 := cZ hSw (by simpa using hb) c1
  have y2 := cZ hSw (by simpa using hb) c2
  have y3 := cZ hSw (by simpa using hb) c3
  have y4 := cZ hSw (by simpa using hb) c4
  have z0 := cZ hSw (by simpa using hb2) k0
  have z1 := cZ hSw (by simpa using hb2) k1
  have z2 := cZ hSw (by simpa using hb2) k2
  have z3 := cZ hSw (by simpa using hb2) k3
  have z4 := cZ hSw (by simpa using hb2) k4
  clear hSw
  exact fZ
 refine tkH 29 zq ?_
 refine tkH 30 zq ?_
 refine tkH 31 zq ?_
 refine skH 32 zq ?_
 refine skH 33 zq ?_
 refine skH 34 zq ?_
 refine skH 35 zq ?_
 refine skH 36 zq ?_
 refine skH 37 zq ?_
 refine skH 38 zq ?_
 refine skH 39 zq ?_
 refine skH 40 zq ?_
 refine tkH 41 zq ?_
 refine tkH 42 zq ?_
 refine skH 43 zq ?_
 refine skH 44 zq ?_
 refine skH 45 zq ?_
 refine skH 46 zq ?_
 refine skH 47 zq ?_
 refine skH 48 zq ?_
 refine skH 49 zq ?_
 refine skH 50 zq ?_
 refine skH 51 zq ?_
 refine tkH 52 zq ?_
 refine tkH 53 zq ?_
 refine dZ ?_
 have HB := yh zq
 clear zq
 go_wp2_with fail
 go_ret
 exact ⟨rfl, uh HB⟩
theorem kG (b o b2 o2 : Nat) (x y : ak) (a2 a2z : Option Addr) (d2 d2z : Nat) (w : World) (hA : w.cell? ⟨b, o, none⟩ = some (.int .i64 x.kind) ∧ w.cell? ⟨b, o + 1, none⟩ = some (.int .i64 x.id) ∧ w.cell? ⟨b, o + 2, none⟩ = some (.slice a2 x.vec.length d2) ∧ w.cell? ⟨b, o + 3, none⟩ = some (.int .i64 x.aa) ∧ w.cell? ⟨b, o + 4, none⟩ = some (.int .i64 x.seq)) (hZ : w.cell? ⟨b2, o2, none⟩ = some (.int .i64 y.kind) ∧ w.cell? ⟨b2, o2 + 1, none⟩ = some (.int .i64 y.id) ∧ w.cell? ⟨b2, o2 + 2, none⟩ = some (.slice a2z y.vec.length d2z) ∧ w.cell? ⟨b2, o2 + 3, none⟩ = some (.int .i64 y.aa) ∧ w.cell? ⟨b2, o2 + 4, none⟩ = some (.int .i64 y.seq)) (e0 : (x.kind == y.kind) = true) (e1 : (x.id == y.id) = true) (e2 : (x.aa == y.aa) = true) (e3 : (x.seq == y.seq) = false) :
  Calls Tryz.prog 151 #[.pointer (some ⟨b, o, none⟩), .pointer (some ⟨b2, o2, none⟩)] w fun e w' => e = .returned (.bool false) ∧ Below w.heap.size w w' := by
 obtain ⟨c0, c1, c2, c3, c4⟩ := hA
 obtain ⟨k0, k1, k2, k3, k4⟩ := hZ
 have hb := World.block_lt_of_cell? _ _ c0
 have hb2 := World.block_lt_of_cell? _ _ k0
 go_enter Tryz.func151, Tryz.ntmps151
 go_wp2_with fail
 refine wZz (fun w' => Below w.heap.size w w') (Below.refl _ _).drew (fun zq => ?_)
 generalize w.drew = wD at zq ⊢
 refine tkH 0 zq ?_
 refine tkH 1 zq ?_
 refine tkH 2 zq ?_
 refine tkJ 3 (v := ?v3) ?h3 zq ?r3
 case h3 =>
  intro wS hSw
  have y0 := cZ hSw (by simpa using hb) c0
  have y1 := cZ hSw (by simpa using hb) c1
  have y2 := cZ hSw (by simpa using hb) c2
  have y3 := cZ hSw (by simpa using hb) c3
  have y4 := cZ hSw (by simpa using hb) c4
  have z0 := cZ hSw (by simpa using hb2) k0
  have z1 := cZ hSw (by simpa using hb2) k1
  have z2 := cZ hSw (by simpa using hb2) k2
  have z3 := cZ hSw (by simpa using hb2) k3
  have z4 := cZ hSw (by simpa using hb2) k4
  clear hSw
  exact fZ
 refine tkH 4 zq ?_
 refine tkH 5 zq ?_
 refine tkH 6 zq ?_
 refine tkJ 7 (v := ?v7) ?h7 zq ?r7
 case h7 =>
  intro wS hSw
  have y0 := cZ hSw (by simpa using hb) c0
  have y1 := cZ hSw (by simpa using hb) c1
  have y2 := cZ hSw (by simpa using hb) c2
  have y3 := cZ hSw (by simpa using hb) c3
  have y4 := cZ hSw (by simpa using hb) c4
  have z0 := cZ hSw (by simpa using hb2) k0
  have z1 := cZ hSw (by simpa using hb2) k1
  have z2 := cZ hSw (by simpa using hb2) k2
  have z3 := cZ hSw (by simpa using hb2) k3
  have z4 := cZ hSw (by simpa using hb2) k4
  clear hSw
  exact fZ
 refine tkH 8 zq ?_
 refine tkH 9 zq ?_
 refine tkH 10 zq ?_
 refine tkH 11 zq ?_
 refine tkH 12 zq ?_
 refine tkJ 13 (v := ?v13) ?h13 zq ?r13
 case h13 =>
  intro wS hSw
  have y0 := cZ hSw (by simpa using hb) c0
  have y1 := cZ hSw (by simpa using hb) c1
  have y2 := cZ hSw (by simpa using hb) c2
  have y3 := cZ hSw (by simpa using hb) c3
  have y4 := cZ hSw (by simpa using hb) c4
  have z0 := cZ hSw (by simpa using hb2) k0
  have z1 := cZ hSw (by simpa using hb2) k1
  have z2 := cZ hSw (by simpa using hb2) k2
  have z3 := cZ hSw (by simpa using hb2) k3
  have z4 := cZ hSw (by simpa using hb2) k4
  clear hSw
  exact fZ
 refine tkH 14 zq ?_
 refine tkH 15 zq ?_
 refine tkH 16 zq ?_
 refine tkJ 17 (v := ?v17) ?h17 zq ?r17
 case h17 =>
  intro wS hSw
  have y0 := cZ hSw (by simpa using hb) c0
  have y1 := cZ hSw (by simpa using hb) c1
  have y2 := cZ hSw (by simpa using hb) c2
  have y3 := cZ hSw (by simpa using hb) c3
  have y4 := cZ hSw (by simpa using hb) c4
  have z0 := cZ hSw (by simpa using hb2) k0
  have z1 := cZ hSw (by simpa using hb2) k1
  have z2 := cZ hSw (by simpa using hb2) k2
  have z3 := cZ hSw (by simpa using hb2) k3
  have z4 := cZ hSw (by simpa using hb2) k4
  clear hSw
  exact fZ
 refine tkH 18 zq ?_
 refine tkH 19 zq ?_
 refine tkH 20 zq ?_
 refine tkH 21 zq ?_
 refine tkH 22 zq ?_
 refine tkH 23 zq ?_
 refine tkJ 24 (v := ?v24) ?h24 zq ?r24
 case h24 =>
  intro wS hSw
  have y0 := cZ hSw (by simpa using hb) c0
  have y1 := cZ hSw (by simpa using hb) c1
  have y2 := cZ hSw (by simpa using hb) c2
  have y3 := cZ hSw (by simpa using hb) c3
  have y4 := cZ hSw (by simpa using hb) c4
  have z0 := cZ hSw (by simpa using hb2) k0
  have z1 := cZ hSw (by simpa using hb2) k1
  have z2 := cZ hSw (by simpa using hb2) k2
  have z3 := cZ hSw (by simpa using hb2) k3
  have z4 := cZ hSw (by simpa using hb2) k4
  clear hSw
  exact fZ
 refine tkH 25 zq ?_
 refine tkH 26 zq ?_
 refine tkH 27 zq ?_
 refine tkJ 28 (v := ?v28) ?h28 zq ?r28
 case h28 =>
  intro wS hSw
  have y0 := cZ hSw (by simpa using hb) c0
  have y1 := cZ hSw (by simpa using hb) c1
  have y2 := cZ hSw (by simpa using hb) c2
  have y3 := cZ hSw (by simpa using hb) c3
  have y4 := cZ hSw (by simpa using hb) c4
  have z0 := cZ hSw (by simpa using hb2) k0
  have z1 := cZ hSw (by simpa using hb2) k1
  have z2 := cZ hSw (by simpa using hb2) k2
  have z3 := cZ hSw (by simpa using hb2) k3
  have z4 := cZ hSw (by simpa using hb2) k4
  clear hSw
  exact fZ
 refine tkH 29 zq ?_
 refine tkH 30 zq ?_
 refine tkH 31 zq ?_
 refine tkH 32 zq ?_
 refine tkH 33 zq ?_
 refine tkH 34 zq ?_
 refine tkJ 35 (v := ?v35) ?h35 zq ?r35
 case h35 =>
  intro wS hSw
  have y0 := cZ hSw (by simpa using hb) c0
  have y1 := cZ hSw (by simpa using hb) c1
  have y2 := cZ hSw (by simpa using hb) c2
  have y3 := cZ hSw (by simpa using hb) c3
  have y4 := cZ hSw (by simpa using hb) c4
  have z0 := cZ hSw (by simpa using hb2) k0
  have z1 := cZ hSw (by simpa using hb2) k1
  have z2 := cZ hSw (by simpa using hb2) k2
  have z3 := cZ hSw (by simpa using hb2) k3
  have z4 := cZ hSw (by simpa using hb2) k4
  clear hSw
  exact fZ
 refine tkH 36 zq ?_
 refine tkH 37 zq ?_
 refine tkH 38 zq ?_
 refine tkJ 39 (v := ?v39) ?h39 zq ?r39
 case h39 =>
  intro wS hSw
  have y0 := cZ hSw (by simpa using hb) c0
  have y1 := cZ hSw (by simpa using hb) c1
  have y2 := cZ hSw (by simpa using hb) c2
  have y3 := cZ hSw (by simpa using hb) c3
  have y4 := cZ hSw (by simpa using hb) c4
  have z0 := cZ hSw (by simpa using hb2) k0
  have z1 := cZ hSw (by simpa using hb2) k1
  have z2 := cZ hSw (by simpa using hb2) k2
  have z3 := cZ hSw (by simpa using hb2) k3
  have z4 := cZ hSw (by simpa using hb2) k4
  clear hSw
  exact fZ
 refine tkH 40 zq ?_
 refine tkH 41 zq ?_
 refine tkH 42 zq ?_
 refine skH 43 zq ?_
 refine skH 44 zq ?_
 refine skH 45 zq ?_
 refine skH 46 zq ?_
 refine skH 47 zq ?_
 refine skH 48 zq ?_
 refine skH 49 zq ?_
 refine skH 50 zq ?_
 refine skH 51 zq ?_
 refine tkH 52 zq ?_
 refine tkH 53 zq ?_
 refine dZ ?_
 have HB := yh zq
 clear zq
 go_wp2_with fail
 go_ret
 exact ⟨rfl, uh HB⟩
theorem jV (b o b2 o2 : Nat) (x y : ak) (a2 a2z : Option Addr) (d2 d2z : Nat) (w : World) (hA : w.cell? ⟨b, o, none⟩ = some (.int .i64 x.kind) ∧ w.cell? ⟨b, o + 1, none⟩ = some (.int .i64 x.id) ∧ w.cell? ⟨b, o + 2, none⟩ = some (.slice a2 x.vec.length d2) ∧ w.cell? ⟨b, o + 3, none⟩ = some (.int .i64 x.aa) ∧ w.cell? ⟨b, o + 4, none⟩ = some (.int .i64 x.seq)) (hZ : w.cell? ⟨b2, o2, none⟩ = some (.int .i64 y.kind) ∧ w.cell? ⟨b2, o2 + 1, none⟩ = some (.int .i64 y.id) ∧ w.cell? ⟨b2, o2 + 2, none⟩ = some (.slice a2z y.vec.length d2z) ∧ w.cell? ⟨b2, o2 + 3, none⟩ = some (.int .i64 y.aa) ∧ w.cell? ⟨b2, o2 + 4, none⟩ = some (.int .i64 y.seq)) (e0 : (x.kind == y.kind) = true) (e1 : (x.id == y.id) = true) (e2 : (x.aa == y.aa) = true) (e3 : (x.seq == y.seq) = true) (R : (ad.sl ad.int).Reads w [.slice a2 x.vec.length d2] x.vec) (Rz : (ad.sl ad.int).Reads w [.slice a2z y.vec.length d2z] y.vec) :
  Calls Tryz.prog 151 #[.pointer (some ⟨b, o, none⟩), .pointer (some ⟨b2, o2, none⟩)] w fun e w' => e = .returned (.bool (decide (x.vec = y.vec))) ∧ Below w.heap.size w w' := by
 obtain ⟨c0, c1, c2, c3, c4⟩ := hA
 obtain ⟨k0, k1, k2, k3, k4⟩ := hZ
 have hb := World.block_lt_of_cell? _ _ c0
 have hb2 := World.block_lt_of_cell? _ _ k0
 have HR := yh R
 have HRZ := yh Rz
 clear R Rz
 go_enter Tryz.func151, Tryz.ntmps151
 go_wp2_with fail
 refine wZz (fun w' => Below w.heap.size w w') (Below.refl _ _).drew (fun zq => ?_)
 generalize w.drew = wD at zq ⊢
 refine tkH 0 zq ?_
 refine tkH 1 zq ?_
 refine tkH 2 zq ?_
 refine tkJ 3 (v := ?v3) ?h3 zq ?r3
 case h3 =>
  intro wS hSw
  have y0 := cZ hSw (by simpa using hb) c0
  have y1 := cZ hSw (by simpa using hb) c1
  have y2 := cZ hSw (by simpa using hb) c2
  have y3 := cZ hSw (by simpa using hb) c3
  have y4 := cZ hSw (by simpa using hb) c4
  have z0 := cZ hSw (by simpa using hb2) k0
  have z1 := cZ hSw (by simpa using hb2) k1
  have z2 := cZ hSw (by simpa using hb2) k2
  have z3 := cZ hSw (by simpa using hb2) k3
  have z4 := cZ hSw (by simpa using hb2) k4
  clear hSw
  exact fZ
 refine tkH 4 zq ?_
 refine tkH 5 zq ?_
 refine tkH 6 zq ?_
 refine tkJ 7 (v := ?v7) ?h7 zq ?r7
 case h7 =>
  intro wS hSw
  have y0 := cZ hSw (by simpa using hb) c0
  have y1 := cZ hSw (by simpa using hb) c1
  have y2 := cZ hSw (by simpa using hb) c2
  have y3 := cZ hSw (by simpa using hb) c3
  have y4 := cZ hSw (by simpa using hb) c4
  have z0 := cZ hSw (by simpa using hb2) k0
  have z1 := cZ hSw (by simpa using hb2) k1
  have z2 := cZ hSw (by simpa using hb2) k2
  have z3 := cZ hSw (by simpa using hb2) k3
  have z4 := cZ hSw (by simpa using hb2) k4
  clear hSw
  exact fZ
 refine tkH 8 zq ?_
 refine tkH 9 zq ?_
 refine tkH 10 zq ?_
 refine tkH 11 zq ?_
 refine tkH 12 zq ?_
 refine tkJ 13 (v := ?v13) ?h13 zq ?r13
 case h13 =>
  intro wS hSw
  have y0 := cZ hSw (by simpa using hb) c0
  have y1 := cZ hSw (by simpa using hb) c1
  have y2 := cZ hSw (by simpa using hb) c2
  have y3 := cZ hSw (by simpa using hb) c3
  have y4 := cZ hSw (by simpa using hb) c4
  have z0 := cZ hSw (by simpa using hb2) k0
  have z1 := cZ hSw (by simpa using hb2) k1
  have z2 := cZ hSw (by simpa using hb2) k2
  have z3 := cZ hSw (by simpa using hb2) k3
  have z4 := cZ hSw (by simpa using hb2) k4
  clear hSw
  exact fZ
 refine tkH 14 zq ?_
 refine tkH 15 zq ?_
 refine tkH 16 zq ?_
 refine tkJ 17 (v := ?v17) ?h17 zq ?r17
 case h17 =>
  intro wS hSw
  have y0 := cZ hSw (by simpa using hb) c0
  have y1 := cZ hSw (by simpa using hb) c1
  have y2 := cZ hSw (by simpa using hb) c2
  have y3 := cZ hSw (by simpa using hb) c3
  have y4 := cZ hSw (by simpa using hb) c4
  have z0 := cZ hSw (by simpa using hb2) k0
  have z1 := cZ hSw (by simpa using hb2) k1
  have z2 := cZ hSw (by simpa using hb2) k2
  have z3 := cZ hSw (by simpa using hb2) k3
  have z4 := cZ hSw (by simpa using hb2) k4
  clear hSw
  exact fZ
 refine tkH 18 zq ?_
 refine tkH 19 zq ?_
 refine tkH 20 zq ?_
 refine tkH 21 zq ?_
 refine tkH 22 zq ?_
 refine tkH 23 zq ?_
 refine tkJ 24 (v := ?v24) ?h24 zq ?r24
 case h24 =>
  intro wS hSw
  have y0 := cZ hSw (by simpa using hb) c0
  have y1 := cZ hSw (by simpa using hb) c1
  have y2 := cZ hSw (by simpa using hb) c2
  have y3 := cZ hSw (by simpa using hb) c3
  have y4 := cZ hSw (by simpa using hb) c4
  have z0 := cZ hSw (by simpa using hb2) k0
  have z1 := cZ hSw (by simpa using hb2) k1
  have z2 := cZ hSw (by simpa using hb2) k2
  have z3 := cZ hSw (by simpa using hb2) k3
  have z4 := cZ hSw (by simpa using hb2) k4
  clear hSw
  exact fZ
 refine tkH 25 zq ?_
 refine tkH 26 zq ?_
 refine tkH 27 zq ?_
 refine tkJ 28 (v := ?v28) ?h28 zq ?r28
 case h28 =>
  intro wS hSw
  have y0 := cZ hSw (by simpa using hb) c0
  have y1 := cZ hSw (by simpa using hb) c1
  have y2 := cZ hSw (by simpa using hb) c2
  have y3 := cZ hSw (by simpa using hb) c3
  have y4 := cZ hSw (by simpa using hb) c4
  have z0 := cZ hSw (by simpa using hb2) k0
  have z1 := cZ hSw (by simpa using hb2) k1
  have z2 := cZ hSw (by simpa using hb2) k2
  have z3 := cZ hSw (by simpa using hb2) k3
  have z4 := cZ hSw (by simpa using hb2) k4
  clear hSw
  exact fZ
 refine tkH 29 zq ?_
 refine tkH 30 zq ?_
 refine tkH 31 zq ?_
 refine tkH 32 zq ?_
 refine tkH 33 zq ?_
 refine tkH 34 zq ?_
 refine tkJ 35 (v := ?v35) ?h35 zq ?r35
 case h35 =>
  intro wS hSw
  have y0 := cZ hSw (by simpa using hb) c0
  have y1 := cZ hSw (by simpa using hb) c1
  have y2 := cZ hSw (by simpa using hb) c2
  have y3 := cZ hSw (by simpa using hb) c3
  have y4 := cZ hSw (by simpa using hb) c4
  have z0 := cZ hSw (by simpa using hb2) k0
  have z1 := cZ hSw (by simpa using hb2) k1
  have z2 := cZ hSw (by simpa using hb2) k2
  have z3 := cZ hSw (by simpa using hb2) k3
  have z4 := cZ hSw (by simpa using hb2) k4
  clear hSw
  exact fZ
 refine tkH 36 zq ?_
 refine tkH 37 zq ?_
 refine tkH 38 zq ?_
 refine tkJ 39 (v := ?v39) ?h39 zq ?r39
 case h39 =>
  intro wS hSw
  have y0 := cZ hSw (by simpa using hb) c0
  have y1 := cZ hSw (by simpa using hb) c1
  have y2 := cZ hSw (by simpa using hb) c2
  have y3 := cZ hSw (by simpa using hb) c3
  have y4 := cZ hSw (by simpa using hb) c4
  have z0 := cZ hSw (by simpa using hb2) k0
  have z1 := cZ hSw (by simpa using hb2) k1
  have z2 := cZ hSw (by simpa using hb2) k2
  have z3 := cZ hSw (by simpa using hb2) k3
  have z4 := cZ hSw (by simpa using hb2) k4
  clear hSw
  exact fZ
 refine tkH 40 zq ?_
 refine tkH 41 zq ?_
 refine tkH 42 zq ?_
 refine tkH 43 zq ?_
 refine tkH 44 zq ?_
 refine tkH 45 zq ?_
 refine tkJ 46 (v := ?v46) ?h46 zq ?r46
 case h46 =>
  intro wS hSw
  have y0 := cZ hSw (by simpa using hb) c0
  have y1 := cZ hSw (by simpa using hb) c1
  have y2 := cZ hSw (by simpa using hb) c2
  have y3 := cZ hSw (by simpa using hb) c3
  have y4 := cZ hSw (by simpa using hb) c4
  have z0 := cZ hSw (by simpa using hb2) k0
  have z1 := cZ hSw (by simpa using hb2) k1
  have z2 := cZ hSw (by simpa using hb2) k2
  have z3 := cZ hSw (by simpa using hb2) k3
  have z4 := cZ hSw (by simpa using hb2) k4
  clear hSw
  exact fZ
 refine tkH 47 zq ?_
 refine tkH 48 zq ?_
 refine tkH 49 zq ?_
 refine tkJ 50 (v := ?v50) ?h50 zq ?r50
 case h50 =>
  intro wS hSw
  have y0 := cZ hSw (by simpa using hb) c0
  have y1 := cZ hSw (by simpa using hb) c1
  have y2 := cZ hSw (by simpa using hb) c2
  have y3 := cZ hSw (by simpa using hb) c3
  have y4 := cZ hSw (by simpa using hb) c4
  have z0 := cZ hSw (by simpa using hb2) k0
  have z1 := cZ hSw (by simpa using hb2) k1
  have z2 := cZ hSw (by simpa using hb2) k2
  have z3 := cZ hSw (by simpa using hb2) k3
  have z4 := cZ hSw (by simpa using hb2) k4
  clear hSw
  exact fZ
 refine rdH 51 (fun K hK => ?_)
 go_simp
 go_at_call 155
 refine (ma _ _ x.vec y.vec _ (ad.bd ((uh HR).af zq)) (ad.bd ((uh HRZ).af zq)) (uh HR).cK).mono ?_
 rintro e w3 ⟨rfl, hbw⟩
 try go_wp2_with fail
 refine hK.out _ _ (zq.trans (hbw.mono zq.size)) (fun zq => ?_)
 clear hK K
 try simp only [Act.put, pz, py, px]
 refine tkH 52 zq ?_
 refine tkH 53 zq ?_
 refine dZ ?_
 have HB := yh zq
 clear zq
 go_wp2_with fail
 go_ret
 exact ⟨rfl, uh HB⟩
theorem mc (b o b2 o2 : Nat) (x y : ak) (a2 a2z : Option Addr) (d2 d2z : Nat) (w : World) (hA : w.cell? ⟨b, o, none⟩ = some (.int .i64 x.kind) ∧ w.cell? ⟨b, o + 1, none⟩ = some (.int .i64 x.id) ∧ w.cell? ⟨b, o + 2, none⟩ = some (.slice a2 x.vec.length d2) ∧ w.cell? ⟨b, o + 3, none⟩ = some (.int .i64 x.aa) ∧ w.cell? ⟨b, o + 4, none⟩ = some (.int .i64 x.seq)) (hZ : w.cell? ⟨b2, o2, none⟩ = some (.int .i64 y.kind) ∧ w.cell? ⟨b2, o2 + 1, none⟩ = some (.int .i64 y.id) ∧ w.cell? ⟨b2, o2 + 2, none⟩ = some (.slice a2z y.vec.length d2z) ∧ w.cell? ⟨b2, o2 + 3, none⟩ = some (.int .i64 y.aa) ∧ w.cell? ⟨b2, o2 + 4, none⟩ = some (.int .i64 y.seq)) (R : (ad.sl ad.int).Reads w [.slice a2 x.vec.length d2] x.vec) (Rz : (ad.sl ad.int).Reads w [.slice a2z y.vec.length d2z] y.vec) :
  Calls Tryz.prog 151 #[.pointer (some ⟨b, o, none⟩), .pointer (some ⟨b2, o2, none⟩)] w fun e w' => e = .returned (.bool (aU x y)) ∧ Below w.heap.size w w' := by
 cases e0 : (x.kind == y.kind) with
 | false => rw [show aU x y = false by simp [aU, e0]]; exact jO b o b2 o2 x y a2 a2z d2 d2z w hA hZ e0
 | true =>
  cases e1 : (x.id == y.id) with
  | false => rw [show aU x y = false by simp [aU, e1]]; exact j8 b o b2 o2 x y a2 a2z d2 d2z w hA hZ e0 e1
  | true =>
   cases e2 : (x.aa == y.aa) with
   | false => rw [show aU x y = false by simp [aU, e2]]; exact j0 b o b2 o2 x y a2 a2z d2 d2z w hA hZ e0 e1 e2
   | true =>
    cases e3 : (x.seq == y.seq) with
    | false => rw [show aU x y = false by simp [aU, e3]]; exact kG b o b2 o2 x y a2 a2z d2 d2z w hA hZ e0 e1 e2 e3
    | true => rw [show aU x y = decide (x.vec = y.vec) by simp [aU, e0, e1, e2, e3]]; exact jV b o b2 o2 x y a2 a2z d2 d2z w hA hZ e0 e1 e2 e3 R Rz
theorem gz (b off cap b2 off2 cap2 : Nat) (xs ys : List ak) (w : World) (hl : xs.length = ys.length) (h : (ad.sl ad.ag).Reads w [.slice (some ⟨b, off, none⟩) xs.length cap] xs) (h2 : (ad.sl ad.ag).Reads w [.slice (some ⟨b2, off2, none⟩) ys.length cap2] ys) (hbl : b < w.heap.size) (hbl2 : b2 < w.heap.size) :
  Calls Tryz.prog 86 #[.slice (some ⟨b, off, none⟩) xs.length cap, .slice (some ⟨b2, off2, none⟩) xs.length cap2] w fun e w' => e = .returned (.bool (bj xs ys)) ∧ Below w.heap.size w w' := by
 have hbig := h.cK
 have H := yh h
 have H2 := yh h2
 have HL := yh hl
 clear h h2 hl
 go_enter Tryz.func86, Tryz.ntmps86
 go_wp2_with fail
 go_loopw [5] (fun i wr => ∃ k : Nat, k ≤ xs.length ∧ i = .int .i64 k ∧ (∀ j (h1 : j < xs.length) (h2 : j < ys.length), j < k → aU xs[j] ys[j] = true) ∧ Below w.heap.size w wr) (fun i _ => xs.length - (intOf i).toNat)
 case atStart => exact ⟨0, Nat.zero_le _, rfl, fun j _ _ hj => by omega, Below.refl _ _⟩
 case round =>
  obtain ⟨k, hk, rfl, hq, hB⟩ := hrel
  by_cases hlt : k < xs.length
  ·
   have hlt2 : k < ys.length := by have := uh HL; omega
   obtain ⟨row, hc, hr⟩ := ad.aR (uh H) hlt
   obtain ⟨rowz, hcz, hrz⟩ := ad.aR (uh H2) hlt2
   obtain ⟨a2, d2, rfl, R⟩ := aI hr
   obtain ⟨a2z, d2z, rfl, Rz⟩ := aI hrz
   have c0 : w.cell? ⟨b, off + k * 5, none⟩ = some (.int .i64 (xs[k]).kind) := ((Below.refl w.heap.size w).cell (p := ⟨b, off + k * 5, none⟩) hbl).trans (hc 0 (by decide))
   have c1 : w.cell? ⟨b, off + k * 5 + 1, none⟩ = some (.int .i64 (xs[k]).id) := ((Below.refl w.heap.size w).cell (p := ⟨b, off + k * 5 + 1, none⟩) hbl).trans (hc 1 (by decide))
   have c2 : w.cell? ⟨b, off + k * 5 + 2, none⟩ = some (.slice a2 (xs[k]).vec.length d2) := ((Below.refl w.heap.size w).cell (p := ⟨b, off + k * 5 + 2, none⟩) hbl).trans (hc 2 (by decide))
   have c3 : w.cell? ⟨b, off + k * 5 + 3, none⟩ = some (.int .i64 (xs[k]).aa) := ((Below.refl w.heap.size w).cell (p := ⟨b, off + k * 5 + 3, none⟩) hbl).trans (hc 3 (by decide))
   have c4 : w.cell? ⟨b, off + k * 5 + 4, none⟩ = some (.int .i64 (xs[k]).seq) := ((Below.refl w.heap.size w).cell (p := ⟨b, off + k * 5 + 4, none⟩) hbl).trans (hc 4 (by decide))
   have c0z : w.cell? ⟨b2, off2 + k * 5, none⟩ = some (.int .i64 (ys[k]).kind) := ((Below.refl w.heap.size w).cell (p := ⟨b2, off2 + k * 5, none⟩) hbl2).trans (hcz 0 (by decide))
   have c1z : w.cell? ⟨b2, off2 + k * 5 + 1, none⟩ = some (.int .i64 (ys[k]).id) := ((Below.refl w.heap.size w).cell (p := ⟨b2, off2 + k * 5 + 1, none⟩) hbl2).trans (hcz 1 (by decide))
   have c2z : w.cell? ⟨b2, off2 + k * 5 + 2, none⟩ = some (.slice a2z (ys[k]).vec.length d2z) := ((Below.refl w.heap.size w).cell (p := ⟨b2, off2 + k * 5 + 2, none⟩) hbl2).trans (hcz 2 (by decide))
   have c3z : w.cell? ⟨b2, off2 + k * 5 + 3, none⟩ = some (.int .i64 (ys[k]).aa) := ((Below.refl w.heap.size w).cell (p := ⟨b2, off2 + k * 5 + 3, none⟩) hbl2).trans (hcz 3 (by decide))
   have c4z : w.cell? ⟨b2, off2 + k * 5 + 4, none⟩ = some (.int .i64 (ys[k]).seq) := ((Below.refl w.heap.size w).cell (p := ⟨b2, off2 + k * 5 + 4, none⟩) hbl2).trans (hcz 4 (by decide))
   have HQ := yh hq
   have HB := yh hB
   have HX : Hid (aU xs[k] ys[k] = false → bj xs ys = false) := gf k hlt hlt2
   have HY : Hid (aU xs[k] ys[k] = true → ∀ j (h1 : j < xs.length) (h2 : j < ys.length), j < k + 1 → aU xs[j] ys[j] = true) := by
    intro h j h1 h2 hj
    by_cases hjk : j < k
    ·
     exact uh HQ j h1 h2 hjk
    obtain rfl : j = k := by omega
    exact h
   clear hq hB hr hrz hc hcz HQ
   generalize hx : xs[k] = x at *
   generalize hy : ys[k] = y at *
   clear hx hy
   have L : Hid (∀ W, Below w.heap.size w W → Calls Tryz.prog 151 #[.pointer (some ⟨b, off + k * 5, none⟩), .pointer (some ⟨b2, off2 + k * 5, none⟩)] W fun e w' => e = .returned (.bool (aU x y)) ∧ Below W.heap.size W w') := fun W hW =>
    mc b (off + k * 5) b2 (off2 + k * 5) x y a2 a2z d2 d2z W ⟨bJ hW c0, bJ hW c1, bJ hW c2, bJ hW c3, bJ hW c4⟩ ⟨bJ hW c0z, bJ hW c1z, bJ hW c2z, bJ hW c3z, bJ hW c4z⟩ (R.af hW) (Rz.af hW)
   clear R Rz c0 c1 c2 c3 c4 c0z c1z c2z c3z c4z
   have i1 : (0 : Int) ≤ (k : Int) := by omega
   have i2 : (k : Int) < (xs.length : Int) := by omega
   cases hs : aU x y with
   | true =>
    have HZ := yh (uh HY hs)
    rw [hs] at L
    clear hs HX HY
    go_wp2_with fail
    refine wZz (fun w' => Below w.heap.size w w') (uh HB).drew (fun zq => ?_)
    generalize wr.drew = wD at zq ⊢
    refine tkH 0 zq ?_
    refine tkH 1 zq ?_
    refine tkH 2 zq ?_
    refine tkH 3 zq ?_
    refine tkH 4 zq ?_
    refine tkH 5 zq ?_
    refine rdH 6 (fun K hK => ?_)
    go_simp
    go_at_call 151
    refine (uh L _ zq).mono ?_
    rintro e w3 ⟨rfl, hbw⟩
    try go_wp2_with fail
    refine hK.out _ _ (zq.trans (hbw.mono zq.size)) (fun zq => ?_)
    clear hK K
    try simp only [Act.put, pz, py, px]
    refine tkH 7 zq ?_
    refine dZ ?_
    have HB3 := yh zq
    clear zq HB L
    go_wp2_with fail
    go_roundw
    case rel => exact ⟨k + 1, by omega, by go_num, uh HZ, uh HB3⟩
    case measure => simp [intOf]; omega
   | false =>
    have HZ := yh (uh HX hs)
    rw [hs] at L
    clear hs HX HY
    go_wp2_with fail
    refine wZz (fun w' => Below w.heap.size w w') (uh HB).drew (fun zq => ?_)
    generalize wr.drew = wD at zq ⊢
    refine tkH 0 zq ?_
    refine tkH 1 zq ?_
    refine tkH 2 zq ?_
    refine tkH 3 zq ?_
    refine tkH 4 zq ?_
    refine tkH 5 zq ?_
    refine rdH 6 (fun K hK => ?_)
    go_simp
    go_at_call 151
    refine (uh L _ zq).mono ?_
    rintro e w3 ⟨rfl, hbw⟩
    try go_wp2_with fail
    refine hK.out _ _ (zq.trans (hbw.mono zq.size)) (fun zq => ?_)
    clear hK K
    try simp only [Act.put, pz, py, px]
    refine tkH 7 zq ?_
    refine dZ ?_
    have HB3 := yh zq
    clear zq HB L
    go_wp2_with fail
    go_ret
    exact ⟨by rw [uh HZ]; rfl, uh HB3⟩
  have HZ := yh (eY (uh HL) fun j h1 h2 => hq j h1 h2 (by omega))
  have HB := yh hB
  clear hq hB
  go_wp2_with fail
  go_ret
  exact ⟨by rw [uh HZ]; rfl, uh HB⟩
theorem gx (ao ao2 : Option Addr) (n m cap cap2 : Nat) (w : World) (h : n ≠ m) :
  Calls Tryz.prog 86 #[.slice ao n cap, .slice ao2 m cap2] w fun e w' => e = .returned (.bool false) ∧ Below w.heap.size w w' := by
 have hd : ((n : Int) != (m : Int)) = true := by rw [bne_iff_ne]; omega
 go_enter Tryz.func86, Tryz.ntmps86
 go_wp2_with fail
 go_ret
 exact ⟨rfl, Below.refl _ _⟩
theorem fA (ao ao2 : Option Addr) (cap cap2 : Nat) (w : World) :
  Calls Tryz.prog 86 #[.slice ao 0 cap, .slice ao2 0 cap2] w fun e w' => e = .returned (.bool true) ∧ Below w.heap.size w w' := by
 go_enter Tryz.func86, Tryz.ntmps86
 go_wp2_with fail
 refine wp_loop_rounds 1 ?_
 rw [rounds_succ]
 go_wp2_with fail
 go_ret
 exact ⟨rfl, Below.refl _ _⟩
theorem kc (v v2 : Value) (xs ys : List ak) (w : World) (h : (ad.sl ad.ag).Reads w [v] xs) (h2 : (ad.sl ad.ag).Reads w [v2] ys) :
  Calls Tryz.prog 86 #[v, v2] w fun e w' => e = .returned (.bool (bj xs ys)) ∧ Below w.heap.size w w' := by
 obtain ⟨ao, cap, rfl⟩ := aB h
 obtain ⟨ao2, cap2, rfl⟩ := aB h2
 by_cases hl : xs.length = ys.length
 ·
  by_cases hp : 0 < xs.length
  ·
   obtain ⟨b, off, rfl, hbl⟩ := ad.aD h hp
   obtain ⟨b2, off2, rfl, hbl2⟩ := ad.aD h2 (by omega)
   rw [← hl]
   exact gz b off cap b2 off2 cap2 xs ys w hl h (by rw [← hl] at h2 ⊢; exact h2) hbl hbl2
  obtain rfl : xs = [] := List.eq_nil_of_length_eq_zero (by omega)
  obtain rfl : ys = [] := List.eq_nil_of_length_eq_zero (by simpa using hl.symm)
  exact fA ao ao2 cap cap2 w
 rw [fo hl]
 exact gx ao ao2 _ _ cap cap2 w hl
theorem lD {α : Type} {A : ad α} {w : World} {xs : List α} {b off cap n lo hi : Nat} (h : (ad.sl A).a0 w [.slice (some ⟨b, off, none⟩) n cap] xs lo hi) (k : Nat) (hk : k ≤ xs.length) : (ad.sl A).a0 w [.slice (some ⟨b, off, none⟩) k cap] (xs.take k) lo hi := by
 have hl : (xs.take k).length = k := by rw [List.length_take]; omega
 obtain ⟨bl, ⟨⟨ao, cap', he, ⟨h1, h2⟩, hor⟩, hnd, hfz⟩, hr⟩ := h
 simp only [List.cons.injEq, Value.slice.injEq, and_true] at he
 obtain ⟨rfl, rfl, rfl⟩ := he
 rcases hor with ⟨rfl, -⟩ | ⟨b', off', rows, bls, he, hb, rfl, n1, n2, hj⟩
 ·
  obtain rfl : k = 0 := by simpa using hk
  exact ⟨[], ⟨⟨_, _, rfl, ⟨by simp, by simp⟩, Or.inl ⟨rfl, rfl⟩⟩, by simp, by simp⟩, by simp⟩
 simp only [Option.some.injEq, Addr.mk.injEq, and_true] at he
 obtain ⟨rfl, rfl⟩ := he
 have hsub : ∀ c ∈ b :: (bls.take k).flatten, c ∈ b :: bls.flatten := by
  intro c hc
  rcases List.mem_cons.1 hc with rfl | hc
  ·
   simp
  obtain ⟨l, h3, h4⟩ := List.mem_flatten.1 hc
  exact List.mem_cons_of_mem _ (List.mem_flatten.2 ⟨l, List.mem_of_mem_take h3, h4⟩)
 refine ⟨b :: (bls.take k).flatten, ⟨⟨_, _, by rw [hl], ⟨by omega, by omega⟩, Or.inr ⟨b, off, rows.take k, bls.take k, rfl, hb, rfl, by simp [n1], by simp [n2], fun j q1 q2 q3 => ?_⟩⟩, ?_, fun c hc => hfz c (hsub c hc)⟩, fun c hc => hr c (hsub c hc)⟩
 ·
  simp only [List.getElem_take]
  rw [List.length_take] at q1 q2 q3
  exact hj j (by omega) (by omega) (by omega)
 refine List.Nodup.sublist ?_ hnd
 refine List.Sublist.cons_cons _ ?_
 conv => rhs; rw [← List.take_append_drop k bls]
 rw [List.flatten_append]
 exact List.sublist_append_left _ _
theorem dM {α : Type} {A : ad α} {w : World} {xs : List α} {a : Option Addr} {cap n lo hi : Nat} (h : (ad.sl A).ca w [.slice a n cap] xs lo hi) (k : Nat) (hk : k ≤ xs.length) : (ad.sl A).ca w [.slice a k cap] (xs.take k) lo hi := by
 have hl : (xs.take k).length = k := by rw [List.length_take]; omega
 obtain ⟨bl, ⟨ao, cap', he, ⟨h1, h2⟩, hor⟩, hr⟩ := h
 simp only [List.cons.injEq, Value.slice.injEq, and_true] at he
 obtain ⟨rfl, rfl, rfl⟩ := he
 rcases hor with ⟨rfl, -⟩ | ⟨b', off', rows, bls, rfl, hb, rfl, n1, n2, hj⟩
 ·
  obtain rfl : k = 0 := by simpa using hk
  exact ⟨[], ⟨_, _, rfl, ⟨by simp, by simp⟩, Or.inl ⟨rfl, rfl⟩⟩, by simp⟩
 refine ⟨b' :: (bls.take k).flatten, ⟨_, _, by rw [hl], ⟨by omega, by omega⟩, Or.inr ⟨b', off', rows.take k, bls.take k, rfl, hb, rfl, by simp [n1], by simp [n2], fun j q1 q2 q3 => ?_⟩⟩, fun c hc => hr c ?_⟩
 ·
  simp only [List.getElem_take]
  rw [List.length_take] at q1 q2 q3
  exact hj j (by omega) (by omega) (by omega)
 rcases List.mem_cons.1 hc with rfl | hc
 ·
  simp
 obtain ⟨l, h3, h4⟩ := List.mem_flatten.1 hc
 exact List.mem_cons_of_mem _ (List.mem_flatten.2 ⟨l, List.mem_of_mem_take h3, h4⟩)
end Go.Proofs.YtecagllmonckgaaGreat
