/-
  Texts of this proof in one: MkWriteS, MkNodeS, MkMsgS, MkHitS, MkEntryS, MkWorld, MkWorldResult, AsErr, WrBox, InB, InC, Fault, WrFault, WrZero, ApplyPlain, SessPlain, TickMap, ToldPlain, ImplRefuse, ErrCond, LawXHearWorld, LayIntResult.
  Their conditions stand in their theorems.
-/
import Derived.Test.YtomphbenbnnfgaaGreatDoorHw03
import Derived.Test.YtomphbenbnnfgaaGreatDoorHw00
import Derived.Test.YtomphbenbnnfgaaGreatDoorChecked
import Derived.Test.YtomphbenbnnfgaaGreatDoorHw01
import Derived.LaidEql
import Derived.Stop.Asserts
import Derived.RowKitTokens
import Derived.BigQuiet
import Derived.Deep.QuietTactic
import Derived.WalkSmall
import Derived.Maps.OwnSet
import Derived.DeepKeys4
import Derived.Deep.RegionHeld3
import Derived.Test.YtomphbenbnnfgaaGreatDoorHw02
import Derived.Deep.CutRange
set_option maxRecDepth 100000
set_option maxHeartbeats 4000000
namespace Go.Proofs.YtomphbenbnnfgaaGreatDoor
open Go.RowKit
theorem ly (b off cap : Nat) (xs : List au) (k : Int) (w : World) (h : (ab.sl ab.ai).Reads w [.slice (some ⟨b, off, none⟩) (cz ab.ai.cg ab.ai.dP k xs).length cap] (cz ab.ai.cg ab.ai.dP k xs)) (hbl : b < w.heap.size) (hk : 0 ≤ k) (hk2 : k + (ax ab.ai.cg xs : Nat) ≤ 1000000000) :
  Calls Tryz.prog 167 #[.slice (some ⟨b, off, none⟩) xs.length cap, .int .i64 k] w fun e w' => e = .returned (.int .i64 (k + (ax ab.ai.cg xs : Nat))) ∧ Below w.heap.size w w' := by
 have hbig := h.ez
 rw [bz] at hbig
 have H := yh h
 clear h
 go_enter Tryz.func167, Tryz.ntmps167
 go_wp2_with fail
 go_loopw [1, 5] (fun kk i wr => ∃ (j : Nat) (kj : Int), j ≤ xs.length ∧ i = .int .i64 j ∧ kj = k + (ax ab.ai.cg (xs.take j) : Nat) ∧ kk = .int .i64 kj ∧ Below w.heap.size w wr) (fun _ i _ => xs.length - (intOf i).toNat)
 case atStart => exact ⟨0, k, Nat.zero_le _, rfl, by simp [ax], rfl, Below.refl _ _⟩
 case round =>
  obtain ⟨j, kj, hj, rfl, hkj, rfl, hB⟩ := hrel
  by_cases hlt : j < xs.length
  ·
   have hj2 : j < (cz ab.ai.cg ab.ai.dP k xs).length := by rw [bz]; exact hlt
   obtain ⟨row, hc, hr⟩ := ab.bF (uh H) hj2
   rw [fT _ _ _ _ _ hlt hj2, ← hkj, lX] at hr
   have HT := yh (ab.cw (f := ab.ai.cg) hlt)
   have hle := ab.bW (f := ab.ai.cg) (xs := xs) (k := j + 1)
   rw [uh HT] at hle
   clear hj2
   generalize hx : xs[j] = x at *
   clear hx
   have hcn := mm x
   have hb1 : 0 ≤ kj := by omega
   have hb2 : kj + (ab.ai.cg x : Int) ≤ 1000000000 := by omega
   have HK := yh hkj
   clear hkj hle
   replace hr := hr.later hB
   obtain ⟨a2, d2, rfl, R2⟩ := bg hr
   clear hr
   generalize hn : (⟨kj, kj + 1, (ab.sl ab.int).cQ (kj + 1 + 1) x.vec, kj + 1 + 1 + ((ab.sl ab.int).al x.vec : Nat), kj + 1 + 1 + ((ab.sl ab.int).al x.vec : Nat) + 1⟩ : au).vec.length = n1 at *
   clear hn
   have c0 : wr.cell? ⟨b, off + j * 5, none⟩ = some (.int .i64 (kj)) := (hB.cell (p := ⟨b, off + j * 5, none⟩) hbl).trans (hc 0 (by decide))
   have e0 : ((kj : Int) != (kj : Int)) = false := by simp
   have c1 : wr.cell? ⟨b, off + j * 5 + 1, none⟩ = some (.int .i64 (kj + 1)) := (hB.cell (p := ⟨b, off + j * 5 + 1, none⟩) hbl).trans (hc 1 (by decide))
   have e1 : ((kj + 1 : Int) != (kj + 1 : Int)) = false := by simp
   have c2 : wr.cell? ⟨b, off + j * 5 + 2, none⟩ = some (.slice a2 n1 d2) := (hB.cell (p := ⟨b, off + j * 5 + 2, none⟩) hbl).trans (hc 2 (by decide))
   have c3 : wr.cell? ⟨b, off + j * 5 + 3, none⟩ = some (.int .i64 (kj + 1 + 1 + ((ab.sl ab.int).al x.vec : Nat))) := (hB.cell (p := ⟨b, off + j * 5 + 3, none⟩) hbl).trans (hc 3 (by decide))
   have e3 : ((kj + 1 + 1 + ((ab.sl ab.int).al x.vec : Nat) : Int) != (kj + 1 + 1 + ((ab.sl ab.int).al x.vec : Nat) : Int)) = false := by simp
   have c4 : wr.cell? ⟨b, off + j * 5 + 4, none⟩ = some (.int .i64 (kj + 1 + 1 + ((ab.sl ab.int).al x.vec : Nat) + 1)) := (hB.cell (p := ⟨b, off + j * 5 + 4, none⟩) hbl).trans (hc 4 (by decide))
   have e4 : ((kj + 1 + 1 + ((ab.sl ab.int).al x.vec : Nat) + 1 : Int) != (kj + 1 + 1 + ((ab.sl ab.int).al x.vec : Nat) + 1 : Int)) = false := by simp
   have HB := yh hB
   clear hB hc
   go_wp2_with fail
   refine (eN _ x.vec (kj + 1 + 1) _ R2 (by omega) (by omega)).mono ?_
   rintro e w2 ⟨rfl, hb⟩
   have l1 : b < wr.heap.size := Nat.lt_of_lt_of_le hbl (uh HB).size
   replace c3 := (hb.cell (p := ⟨b, off + j * 5 + 3, none⟩) l1).trans c3
   replace c4 := (hb.cell (p := ⟨b, off + j * 5 + 4, none⟩) l1).trans c4
   replace HB := bZ HB hb
   clear hb R2 l1 c0 c1 c2
   have hq : decide (kj + 1 + 1 + ((ab.sl ab.int).al x.vec : Int) < 0) = false := by simp; omega
   go_wp2_with fail
   go_roundw
   case rel => exact ⟨j + 1, _, by omega, by go_num, (by rw [uh HT, hcn]; have := uh HK; omega), rfl, uh HB⟩
   case measure => simp [intOf]; omega
  obtain rfl : j = xs.length := by omega
  rw [List.take_length] at hkj
  have HK := yh hkj
  have HB := yh hB
  clear hB hkj
  go_wp2_with fail
  go_ret
  exact ⟨by rw [← uh HK]; rfl, uh HB⟩
theorem kb (ao : Option Addr) (cap : Nat) (k : Int) (w : World) :
  Calls Tryz.prog 167 #[.slice ao 0 cap, .int .i64 k] w fun e w' => e = .returned (.int .i64 k) ∧ w' = w := by
 go_enter Tryz.func167, Tryz.ntmps167
 go_wp2_with fail
 refine wp_loop_rounds 1 ?_
 rw [rounds_succ]
 go_wp2_with fail
 go_ret
 exact ⟨rfl, rfl⟩
theorem nQ (v : Value) (xs : List au) (k : Int) (w : World) (h : (ab.sl ab.ai).Reads w [v] ((ab.sl ab.ai).cQ k xs)) (hk : 0 ≤ k) (hk2 : k + (ab.sl ab.ai).al xs ≤ 1000000000) :
  Calls Tryz.prog 167 #[v, .int .i64 k] w fun e w' => e = .returned (.int .i64 (k + (ab.sl ab.ai).al xs)) ∧ Below w.heap.size w w' := by
 rw [pP] at h
 obtain ⟨ao, cap, rfl⟩ := aI h
 by_cases hp : 0 < xs.length
 ·
  obtain ⟨b, off, rfl, hbl⟩ := ab.aR h (by rw [bz]; exact hp)
  have L := ly b off cap xs k w h hbl hk hk2
  rw [bz]
  exact L
 obtain rfl : xs = [] := List.eq_nil_of_length_eq_zero (by omega)
 refine (kb ao cap k w).mono ?_
 rintro e w' ⟨rfl, rfl⟩
 exact ⟨by rw [jA]; simp [ax], Below.refl _ _⟩
theorem mU (b off cap : Nat) (xs : List aS) (k : Int) (w : World) (h : (ab.sl ab.aA).Reads w [.slice (some ⟨b, off, none⟩) (cz ab.aA.cg ab.aA.dP k xs).length cap] (cz ab.aA.cg ab.aA.dP k xs)) (hbl : b < w.heap.size) (hk : 0 ≤ k) (hk2 : k + (ax ab.aA.cg xs : Nat) ≤ 1000000000) :
  Calls Tryz.prog 113 #[.slice (some ⟨b, off, none⟩) xs.length cap, .int .i64 k] w fun e w' => e = .returned (.int .i64 (k + (ax ab.aA.cg xs : Nat))) ∧ Below w.heap.size w w' := by
 have hbig := h.ez
 rw [bz] at hbig
 have H := yh h
 clear h
 go_enter Tryz.func113, Tryz.ntmps113
 go_wp2_with fail
 go_loopw [1, 5] (fun kk i wr => ∃ (j : Nat) (kj : Int), j ≤ xs.length ∧ i = .int .i64 j ∧ kj = k + (ax ab.aA.cg (xs.take j) : Nat) ∧ kk = .int .i64 kj ∧ Below w.heap.size w wr) (fun _ i _ => xs.length - (intOf i).toNat)
 case atStart => exact ⟨0, k, Nat.zero_le _, rfl, by simp [ax], rfl, Below.refl _ _⟩
 case round =>
  obtain ⟨j, kj, hj, rfl, hkj, rfl, hB⟩ := hrel
  by_cases hlt : j < xs.length
  ·
   have hj2 : j < (cz ab.aA.cg ab.aA.dP k xs).length := by rw [bz]; exact hlt
   obtain ⟨row, hc, hr⟩ := ab.bF (uh H) hj2
   rw [fT _ _ _ _ _ hlt hj2, ← hkj, nO] at hr
   have HT := yh (ab.cw (f := ab.aA.cg) hlt)
   have hle := ab.bW (f := ab.aA.cg) (xs := xs) (k := j + 1)
   rw [uh HT] at hle
   clear hj2
   generalize hx : xs[j] = x at *
   clear hx
   have hcn := oV x
   have hb1 : 0 ≤ kj := by omega
   have hb2 : kj + (ab.aA.cg x : Int) ≤ 1000000000 := by omega
   have HK := yh hkj
   clear hkj hle
   replace hr := hr.later hB
   obtain ⟨a4, d4, rfl, R4⟩ := bt hr
   clear hr
   generalize hn4 : (⟨kj, ((kj + 1).tmod 3 == 0), kj + 1 + 1, kj + 1 + 1 + 1, (ab.sl ab.ai).cQ (kj + 1 + 1 + 1 + 1) x.writes, kj + 1 + 1 + 1 + 1 + ((ab.sl ab.ai).al x.writes : Nat), kj + 1 + 1 + 1 + 1 + ((ab.sl ab.ai).al x.writes : Nat) + 1⟩ : aS).writes.length = n4 at *
   clear hn4
   have c0 : wr.cell? ⟨b, off + j * 7, none⟩ = some (.int .i64 (kj)) := (hB.cell (p := ⟨b, off + j * 7, none⟩) hbl).trans (hc 0 (by decide))
   have e0 : ((kj : Int) != (kj : Int)) = false := by simp
   have c1 : wr.cell? ⟨b, off + j * 7 + 1, none⟩ = some (.bool ((kj + 1) % 3 == 0)) := by rw [← Int.tmod_eq_emod_of_nonneg (show (0 : Int) ≤ kj + 1 by omega)]; exact (hB.cell (p := ⟨b, off + j * 7 + 1, none⟩) hbl).trans (hc 1 (by decide))
   have e1 : (((kj + 1) % 3 == 0) != ((kj + 1) % 3 == 0)) = false := by simp
   have c2 : wr.cell? ⟨b, off + j * 7 + 2, none⟩ = some (.int .i64 (kj + 1 + 1)) := (hB.cell (p := ⟨b, off + j * 7 + 2, none⟩) hbl).trans (hc 2 (by decide))
   have e2 : ((kj + 1 + 1 : Int) != (kj + 1 + 1 : Int)) = false := by simp
   have c3 : wr.cell? ⟨b, off + j * 7 + 3, none⟩ = some (.int .i64 (kj + 1 + 1 + 1)) := (hB.cell (p := ⟨b, off + j * 7 + 3, none⟩) hbl).trans (hc 3 (by decide))
   have e3 : ((kj + 1 + 1 + 1 : Int) != (kj + 1 + 1 + 1 : Int)) = false := by simp
   have c4 : wr.cell? ⟨b, off + j * 7 + 4, none⟩ = some (.slice a4 n4 d4) := (hB.cell (p := ⟨b, off + j * 7 + 4, none⟩) hbl).trans (hc 4 (by decide))
   have c5 : wr.cell? ⟨b, off + j * 7 + 5, none⟩ = some (.int .i64 (kj + 1 + 1 + 1 + 1 + ((ab.sl ab.ai).al x.writes : Nat))) := (hB.cell (p := ⟨b, off + j * 7 + 5, none⟩) hbl).trans (hc 5 (by decide))
   have e5 : ((kj + 1 + 1 + 1 + 1 + ((ab.sl ab.ai).al x.writes : Nat) : Int) != (kj + 1 + 1 + 1 + 1 + ((ab.sl ab.ai).al x.writes : Nat) : Int)) = false := by simp
   have c6 : wr.cell? ⟨b, off + j * 7 + 6, none⟩ = some (.int .i64 (kj + 1 + 1 + 1 + 1 + ((ab.sl ab.ai).al x.writes : Nat) + 1)) := (hB.cell (p := ⟨b, off + j * 7 + 6, none⟩) hbl).trans (hc 6 (by decide))
   have e6 : ((kj + 1 + 1 + 1 + 1 + ((ab.sl ab.ai).al x.writes : Nat) + 1 : Int) != (kj + 1 + 1 + 1 + 1 + ((ab.sl ab.ai).al x.writes : Nat) + 1 : Int)) = false := by simp
   have l1 : b < wr.heap.size := Nat.lt_of_lt_of_le hbl hB.size
   have HB := yh hB
   clear hB hc
   have P4 := yh R4
   clear R4
   go_wp2_with fail
   refine (nQ _ x.writes (kj + 1 + 1 + 1 + 1) _ (uh P4) (by omega) (by omega)).mono ?_
   rintro e u0 ⟨rfl, hb⟩
   replace c5 := (hb.cell (p := ⟨b, off + j * 7 + 5, none⟩) l1).trans c5
   replace c6 := (hb.cell (p := ⟨b, off + j * 7 + 6, none⟩) l1).trans c6
   replace HB := bZ HB hb
   replace l1 := Nat.lt_of_lt_of_le l1 hb.size
   clear hb P4 c4
   have hq : decide (kj + 1 + 1 + 1 + 1 + ((ab.sl ab.ai).al x.writes : Int) < 0) = false := by simp; omega
   go_wp2_with fail
   go_roundw
   case rel => exact ⟨j + 1, _, by omega, by go_num, (by rw [uh HT, hcn]; have := uh HK; omega), rfl, uh HB⟩
   case measure => simp [intOf]; omega
  obtain rfl : j = xs.length := by omega
  rw [List.take_length] at hkj
  have HK := yh hkj
  have HB := yh hB
  clear hB hkj
  go_wp2_with fail
  go_ret
  exact ⟨by rw [← uh HK]; rfl, uh HB⟩
theorem lD (ao : Option Addr) (cap : Nat) (k : Int) (w : World) :
  Calls Tryz.prog 113 #[.slice ao 0 cap, .int .i64 k] w fun e w' => e = .returned (.int .i64 k) ∧ w' = w := by
 go_enter Tryz.func113, Tryz.ntmps113
 go_wp2_with fail
 refine wp_loop_rounds 1 ?_
 rw [rounds_succ]
 go_wp2_with fail
 go_ret
 exact ⟨rfl, rfl⟩
theorem qx (v : Value) (xs : List aS) (k : Int) (w : World) (h : (ab.sl ab.aA).Reads w [v] ((ab.sl ab.aA).cQ k xs)) (hk : 0 ≤ k) (hk2 : k + (ab.sl ab.aA).al xs ≤ 1000000000) :
  Calls Tryz.prog 113 #[v, .int .i64 k] w fun e w' => e = .returned (.int .i64 (k + (ab.sl ab.aA).al xs)) ∧ Below w.heap.size w w' := by
 rw [rk] at h
 obtain ⟨ao, cap, rfl⟩ := aI h
 by_cases hp : 0 < xs.length
 ·
  obtain ⟨b, off, rfl, hbl⟩ := ab.aR h (by rw [bz]; exact hp)
  have L := mU b off cap xs k w h hbl hk hk2
  rw [bz]
  exact L
 obtain rfl : xs = [] := List.eq_nil_of_length_eq_zero (by omega)
 refine (lD ao cap k w).mono ?_
 rintro e w' ⟨rfl, rfl⟩
 exact ⟨by rw [kr]; simp [ax], Below.refl _ _⟩
theorem nT (b off cap : Nat) (xs : List bu) (k : Int) (w : World) (h : (ab.sl ab.aP).Reads w [.slice (some ⟨b, off, none⟩) (cz ab.aP.cg ab.aP.dP k xs).length cap] (cz ab.aP.cg ab.aP.dP k xs)) (hbl : b < w.heap.size) (hk : 0 ≤ k) (hk2 : k + (ax ab.aP.cg xs : Nat) ≤ 1000000000) :
  Calls Tryz.prog 114 #[.slice (some ⟨b, off, none⟩) xs.length cap, .int .i64 k] w fun e w' => e = .returned (.int .i64 (k + (ax ab.aP.cg xs : Nat))) ∧ Below w.heap.size w w' := by
 have hbig := h.ez
 rw [bz] at hbig
 have H := yh h
 clear h
 go_enter Tryz.func114, Tryz.ntmps114
 go_wp2_with fail
 go_loopw [1, 5] (fun kk i wr => ∃ (j : Nat) (kj : Int), j ≤ xs.length ∧ i = .int .i64 j ∧ kj = k + (ax ab.aP.cg (xs.take j) : Nat) ∧ kk = .int .i64 kj ∧ Below w.heap.size w wr) (fun _ i _ => xs.length - (intOf i).toNat)
 case atStart => exact ⟨0, k, Nat.zero_le _, rfl, by simp [ax], rfl, Below.refl _ _⟩
 case round =>
  obtain ⟨j, kj, hj, rfl, hkj, rfl, hB⟩ := hrel
  by_cases hlt : j < xs.length
  ·
   have hj2 : j < (cz ab.aP.cg ab.aP.dP k xs).length := by rw [bz]; exact hlt
   obtain ⟨row, hc, hr⟩ := ab.bF (uh H) hj2
   rw [fT _ _ _ _ _ hlt hj2, ← hkj, qR] at hr
   have HT := yh (ab.cw (f := ab.aP.cg) hlt)
   have hle := ab.bW (f := ab.aP.cg) (xs := xs) (k := j + 1)
   rw [uh HT] at hle
   clear hj2
   generalize hx : xs[j] = x at *
   clear hx
   have hcn := qM x
   have hb1 : 0 ≤ kj := by omega
   have hb2 : kj + (ab.aP.cg x : Int) ≤ 1000000000 := by omega
   have HK := yh hkj
   clear hkj hle
   replace hr := hr.later hB
   obtain ⟨a7, d7, rfl, RW⟩ := cE hr
   obtain ⟨_, _, e9, R7⟩ := bg RW
   simp only [List.cons.injEq, Value.slice.injEq, true_and, and_true] at e9
   obtain ⟨rfl, rfl⟩ := e9
   clear hr RW
   generalize hn : (⟨kj, kj + 1, kj + 1 + 1, kj + 1 + 1 + 1, kj + 1 + 1 + 1 + 1, ⟨kj + 1 + 1 + 1 + 1 + 1, kj + 1 + 1 + 1 + 1 + 1 + 1, (ab.sl ab.int).cQ (kj + 1 + 1 + 1 + 1 + 1 + 1 + 1) x.write.vec, kj + 1 + 1 + 1 + 1 + 1 + 1 + 1 + ((ab.sl ab.int).al x.write.vec : Nat), kj + 1 + 1 + 1 + 1 + 1 + 1 + 1 + ((ab.sl ab.int).al x.write.vec : Nat) + 1⟩⟩ : bu).write.vec.length = n1 at *
   clear hn
   have c0 : wr.cell? ⟨b, off + j * 10, none⟩ = some (.int .i64 (kj)) := (hB.cell (p := ⟨b, off + j * 10, none⟩) hbl).trans (hc 0 (by decide))
   have e0 : ((kj : Int) != (kj : Int)) = false := by simp
   have c1 : wr.cell? ⟨b, off + j * 10 + 1, none⟩ = some (.int .i64 (kj + 1)) := (hB.cell (p := ⟨b, off + j * 10 + 1, none⟩) hbl).trans (hc 1 (by decide))
   have e1 : ((kj + 1 : Int) != (kj + 1 : Int)) = false := by simp
   have c2 : wr.cell? ⟨b, off + j * 10 + 2, none⟩ = some (.int .i64 (kj + 1 + 1)) := (hB.cell (p := ⟨b, off + j * 10 + 2, none⟩) hbl).trans (hc 2 (by decide))
   have e2 : ((kj + 1 + 1 : Int) != (kj + 1 + 1 : Int)) = false := by simp
   have c3 : wr.cell? ⟨b, off + j * 10 + 3, none⟩ = some (.int .i64 (kj + 1 + 1 + 1)) := (hB.cell (p := ⟨b, off + j * 10 + 3, none⟩) hbl).trans (hc 3 (by decide))
   have e3 : ((kj + 1 + 1 + 1 : Int) != (kj + 1 + 1 + 1 : Int)) = false := by simp
   have c4 : wr.cell? ⟨b, off + j * 10 + 4, none⟩ = some (.int .i64 (kj + 1 + 1 + 1 + 1)) := (hB.cell (p := ⟨b, off + j * 10 + 4, none⟩) hbl).trans (hc 4 (by decide))
   have e4 : ((kj + 1 + 1 + 1 + 1 : Int) != (kj + 1 + 1 + 1 + 1 : Int)) = false := by simp
   have c5 : wr.cell? ⟨b, off + j * 10 + 5, none⟩ = some (.int .i64 (kj + 1 + 1 + 1 + 1 + 1)) := (hB.cell (p := ⟨b, off + j * 10 + 5, none⟩) hbl).trans (hc 5 (by decide))
   have e5 : ((kj + 1 + 1 + 1 + 1 + 1 : Int) != (kj + 1 + 1 + 1 + 1 + 1 : Int)) = false := by simp
   have c6 : wr.cell? ⟨b, off + j * 10 + 6, none⟩ = some (.int .i64 (kj + 1 + 1 + 1 + 1 + 1 + 1)) := (hB.cell (p := ⟨b, off + j * 10 + 6, none⟩) hbl).trans (hc 6 (by decide))
   have e6 : ((kj + 1 + 1 + 1 + 1 + 1 + 1 : Int) != (kj + 1 + 1 + 1 + 1 + 1 + 1 : Int)) = false := by simp
   have c7 : wr.cell? ⟨b, off + j * 10 + 7, none⟩ = some (.slice a7 n1 d7) := (hB.cell (p := ⟨b, off + j * 10 + 7, none⟩) hbl).trans (hc 7 (by decide))
   have c8 : wr.cell? ⟨b, off + j * 10 + 8, none⟩ = some (.int .i64 (kj + 1 + 1 + 1 + 1 + 1 + 1 + 1 + ((ab.sl ab.int).al x.write.vec : Nat))) := (hB.cell (p := ⟨b, off + j * 10 + 8, none⟩) hbl).trans (hc 8 (by decide))
   have e8 : ((kj + 1 + 1 + 1 + 1 + 1 + 1 + 1 + ((ab.sl ab.int).al x.write.vec : Nat) : Int) != (kj + 1 + 1 + 1 + 1 + 1 + 1 + 1 + ((ab.sl ab.int).al x.write.vec : Nat) : Int)) = false := by simp
   have c9 : wr.cell? ⟨b, off + j * 10 + 9, none⟩ = some (.int .i64 (kj + 1 + 1 + 1 + 1 + 1 + 1 + 1 + ((ab.sl ab.int).al x.write.vec : Nat) + 1)) := (hB.cell (p := ⟨b, off + j * 10 + 9, none⟩) hbl).trans (hc 9 (by decide))
   have e9 : ((kj + 1 + 1 + 1 + 1 + 1 + 1 + 1 + ((ab.sl ab.int).al x.write.vec : Nat) + 1 : Int) != (kj + 1 + 1 + 1 + 1 + 1 + 1 + 1 + ((ab.sl ab.int).al x.write.vec : Nat) + 1 : Int)) = false := by simp
   have HB := yh hB
   clear hB hc
   go_wp2_with fail
   refine (eN _ x.write.vec (kj + 1 + 1 + 1 + 1 + 1 + 1 + 1) _ R7 (by omega) (by omega)).mono ?_
   rintro e w2 ⟨rfl, hb⟩
   have l1 : b < wr.heap.size := Nat.lt_of_lt_of_le hbl (uh HB).size
   replace c8 := (hb.cell (p := ⟨b, off + j * 10 + 8, none⟩) l1).trans c8
   replace c9 := (hb.cell (p := ⟨b, off + j * 10 + 9, none⟩) l1).trans c9
   replace HB := bZ HB hb
   clear hb R7 l1 c0 c1 c2 c3 c4 c5 c6 c7
   have hq : decide (kj + 1 + 1 + 1 + 1 + 1 + 1 + 1 + ((ab.sl ab.int).al x.write.vec : Int) < 0) = false := by simp; omega
   go_wp2_with fail
   go_roundw
   case rel => exact ⟨j + 1, _, by omega, by go_num, (by rw [uh HT, hcn]; have := uh HK; omega), rfl, uh HB⟩
   case measure => simp [intOf]; omega
  obtain rfl : j = xs.length := by omega
  rw [List.take_length] at hkj
  have HK := yh hkj
  have HB := yh hB
  clear hB hkj
  go_wp2_with fail
  go_ret
  exact ⟨by rw [← uh HK]; rfl, uh HB⟩
theorem np (ao : Option Addr) (cap : Nat) (k : Int) (w : World) :
  Calls Tryz.prog 114 #[.slice ao 0 cap, .int .i64 k] w fun e w' => e = .returned (.int .i64 k) ∧ w' = w := by
 go_enter Tryz.func114, Tryz.ntmps114
 go_wp2_with fail
 refine wp_loop_rounds 1 ?_
 rw [rounds_succ]
 go_wp2_with fail
 go_ret
 exact ⟨rfl, rfl⟩
theorem rZ (v : Value) (xs : List bu) (k : Int) (w : World) (h : (ab.sl ab.aP).Reads w [v] ((ab.sl ab.aP).cQ k xs)) (hk : 0 ≤ k) (hk2 : k + (ab.sl ab.aP).al xs ≤ 1000000000) :
  Calls Tryz.prog 114 #[v, .int .i64 k] w fun e w' => e = .returned (.int .i64 (k + (ab.sl ab.aP).al xs)) ∧ Below w.heap.size w w' := by
 rw [tN] at h
 obtain ⟨ao, cap, rfl⟩ := aI h
 by_cases hp : 0 < xs.length
 ·
  obtain ⟨b, off, rfl, hbl⟩ := ab.aR h (by rw [bz]; exact hp)
  have L := nT b off cap xs k w h hbl hk hk2
  rw [bz]
  exact L
 obtain rfl : xs = [] := List.eq_nil_of_length_eq_zero (by omega)
 refine (np ao cap k w).mono ?_
 rintro e w' ⟨rfl, rfl⟩
 exact ⟨by rw [mo]; simp [ax], Below.refl _ _⟩
theorem nR (b off cap : Nat) (xs : List eL) (k : Int) (w : World) (h : (ab.sl ab.bk).Reads w [.slice (some ⟨b, off, none⟩) (cz ab.bk.cg ab.bk.dP k xs).length cap] (cz ab.bk.cg ab.bk.dP k xs)) (hbl : b < w.heap.size) (hk : 0 ≤ k) (hk2 : k + (ax ab.bk.cg xs : Nat) ≤ 1000000000) :
  Calls Tryz.prog 168 #[.slice (some ⟨b, off, none⟩) xs.length cap, .int .i64 k] w fun e w' => e = .returned (.int .i64 (k + (ax ab.bk.cg xs : Nat))) ∧ Below w.heap.size w w' := by
 have hbig := h.ez
 rw [bz] at hbig
 have H := yh h
 clear h
 go_enter Tryz.func168, Tryz.ntmps168
 go_wp2_with fail
 go_loopw [1, 5] (fun kk i wr => ∃ (j : Nat) (kj : Int), j ≤ xs.length ∧ i = .int .i64 j ∧ kj = k + (ax ab.bk.cg (xs.take j) : Nat) ∧ kk = .int .i64 kj ∧ Below w.heap.size w wr) (fun _ i _ => xs.length - (intOf i).toNat)
 case atStart => exact ⟨0, k, Nat.zero_le _, rfl, by simp [ax], rfl, Below.refl _ _⟩
 case round =>
  obtain ⟨j, kj, hj, rfl, hkj, rfl, hB⟩ := hrel
  by_cases hlt : j < xs.length
  ·
   have hj2 : j < (cz ab.bk.cg ab.bk.dP k xs).length := by rw [bz]; exact hlt
   obtain ⟨row, hc, hr⟩ := ab.bF (uh H) hj2
   rw [fT _ _ _ _ _ hlt hj2, ← hkj, qK] at hr
   have HT := yh (ab.cw (f := ab.bk.cg) hlt)
   have hle := ab.bW (f := ab.bk.cg) (xs := xs) (k := j + 1)
   rw [uh HT] at hle
   clear hj2
   generalize hx : xs[j] = x at *
   clear hx
   have hcn := qW x
   have hb1 : 0 ≤ kj := by omega
   have hb2 : kj + (ab.bk.cg x : Int) ≤ 1000000000 := by omega
   have HK := yh hkj
   clear hkj hle
   replace hr := hr.later hB
   obtain ⟨blo, hlo⟩ := hr
   obtain ⟨rfl, -⟩ := db.1 hlo
   clear hlo
   have c0 : wr.cell? ⟨b, off + j * 2, none⟩ = some (.int .i64 (kj)) := (hB.cell (p := ⟨b, off + j * 2, none⟩) hbl).trans (hc 0 (by decide))
   have e0 : ((kj : Int) != (kj : Int)) = false := by simp
   have c1 : wr.cell? ⟨b, off + j * 2 + 1, none⟩ = some (.int .i64 (kj + 1)) := (hB.cell (p := ⟨b, off + j * 2 + 1, none⟩) hbl).trans (hc 1 (by decide))
   have e1 : ((kj + 1 : Int) != (kj + 1 : Int)) = false := by simp
   have HB := yh hB
   clear hB hc
   go_wp2_with fail
   go_roundw
   case rel => exact ⟨j + 1, _, by omega, by go_num, (by rw [uh HT, hcn]; have := uh HK; omega), rfl, uh HB⟩
   case measure => simp [intOf]; omega
  obtain rfl : j = xs.length := by omega
  rw [List.take_length] at hkj
  have HK := yh hkj
  have HB := yh hB
  clear hB hkj
  go_wp2_with fail
  go_ret
  exact ⟨by rw [← uh HK]; rfl, uh HB⟩
theorem mQ (ao : Option Addr) (cap : Nat) (k : Int) (w : World) :
  Calls Tryz.prog 168 #[.slice ao 0 cap, .int .i64 k] w fun e w' => e = .returned (.int .i64 k) ∧ w' = w := by
 go_enter Tryz.func168, Tryz.ntmps168
 go_wp2_with fail
 refine wp_loop_rounds 1 ?_
 rw [rounds_succ]
 go_wp2_with fail
 go_ret
 exact ⟨rfl, rfl⟩
theorem sn (v : Value) (xs : List eL) (k : Int) (w : World) (h : (ab.sl ab.bk).Reads w [v] ((ab.sl ab.bk).cQ k xs)) (hk : 0 ≤ k) (hk2 : k + (ab.sl ab.bk).al xs ≤ 1000000000) :
  Calls Tryz.prog 168 #[v, .int .i64 k] w fun e w' => e = .returned (.int .i64 (k + (ab.sl ab.bk).al xs)) ∧ Below w.heap.size w w' := by
 rw [uc] at h
 obtain ⟨ao, cap, rfl⟩ := aI h
 by_cases hp : 0 < xs.length
 ·
  obtain ⟨b, off, rfl, hbl⟩ := ab.aR h (by rw [bz]; exact hp)
  have L := nR b off cap xs k w h hbl hk hk2
  rw [bz]
  exact L
 obtain rfl : xs = [] := List.eq_nil_of_length_eq_zero (by omega)
 refine (mQ ao cap k w).mono ?_
 rintro e w' ⟨rfl, rfl⟩
 exact ⟨by rw [my]; simp [ax], Below.refl _ _⟩
theorem lA (b off cap : Nat) (xs : List cj) (k : Int) (w : World) (h : (ab.sl ab.az).Reads w [.slice (some ⟨b, off, none⟩) (cz ab.az.cg ab.az.dP k xs).length cap] (cz ab.az.cg ab.az.dP k xs)) (hbl : b < w.heap.size) (hk : 0 ≤ k) (hk2 : k + (ax ab.az.cg xs : Nat) ≤ 1000000000) :
  Calls Tryz.prog 115 #[.slice (some ⟨b, off, none⟩) xs.length cap, .int .i64 k] w fun e w' => e = .returned (.int .i64 (k + (ax ab.az.cg xs : Nat))) ∧ Below w.heap.size w w' := by
 have hbig := h.ez
 rw [bz] at hbig
 have H := yh h
 clear h
 go_enter Tryz.func115, Tryz.ntmps115
 go_wp2_with fail
 go_loopw [1, 5] (fun kk i wr => ∃ (j : Nat) (kj : Int), j ≤ xs.length ∧ i = .int .i64 j ∧ kj = k + (ax ab.az.cg (xs.take j) : Nat) ∧ kk = .int .i64 kj ∧ Below w.heap.size w wr) (fun _ i _ => xs.length - (intOf i).toNat)
 case atStart => exact ⟨0, k, Nat.zero_le _, rfl, by simp [ax], rfl, Below.refl _ _⟩
 case round =>
  obtain ⟨j, kj, hj, rfl, hkj, rfl, hB⟩ := hrel
  by_cases hlt : j < xs.length
  ·
   have hj2 : j < (cz ab.az.cg ab.az.dP k xs).length := by rw [bz]; exact hlt
   obtain ⟨row, hc, hr⟩ := ab.bF (uh H) hj2
   rw [fT _ _ _ _ _ hlt hj2, ← hkj, mC] at hr
   have HT := yh (ab.cw (f := ab.az.cg) hlt)
   have hle := ab.bW (f := ab.az.cg) (xs := xs) (k := j + 1)
   rw [uh HT] at hle
   clear hj2
   generalize hx : xs[j] = x at *
   clear hx
   have hcn := mf x
   have hb1 : 0 ≤ kj := by omega
   have hb2 : kj + (ab.az.cg x : Int) ≤ 1000000000 := by omega
   have HK := yh hkj
   clear hkj hle
   replace hr := hr.later hB
   obtain ⟨a4, d4, a9, d9, a10, d10, rfl, R4, R9, R10⟩ := cA hr
   clear hr
   generalize hn4 : (⟨kj, kj + 1, kj + 1 + 1, kj + 1 + 1 + 1, (ab.sl ab.int).cQ (kj + 1 + 1 + 1 + 1) x.query, kj + 1 + 1 + 1 + 1 + ((ab.sl ab.int).al x.query : Nat), kj + 1 + 1 + 1 + 1 + ((ab.sl ab.int).al x.query : Nat) + 1, kj + 1 + 1 + 1 + 1 + ((ab.sl ab.int).al x.query : Nat) + 1 + 1, kj + 1 + 1 + 1 + 1 + ((ab.sl ab.int).al x.query : Nat) + 1 + 1 + 1, (ab.sl ab.int).cQ (kj + 1 + 1 + 1 + 1 + ((ab.sl ab.int).al x.query : Nat) + 1 + 1 + 1 + 1) x.vec, (ab.sl ab.bk).cQ (kj + 1 + 1 + 1 + 1 + ((ab.sl ab.int).al x.query : Nat) + 1 + 1 + 1 + 1 + ((ab.sl ab.int).al x.vec : Nat)) x.aW⟩ : cj).query.length = n4 at *
   generalize hn9 : (⟨kj, kj + 1, kj + 1 + 1, kj + 1 + 1 + 1, (ab.sl ab.int).cQ (kj + 1 + 1 + 1 + 1) x.query, kj + 1 + 1 + 1 + 1 + ((ab.sl ab.int).al x.query : Nat), kj + 1 + 1 + 1 + 1 + ((ab.sl ab.int).al x.query : Nat) + 1, kj + 1 + 1 + 1 + 1 + ((ab.sl ab.int).al x.query : Nat) + 1 + 1, kj + 1 + 1 + 1 + 1 + ((ab.sl ab.int).al x.query : Nat) + 1 + 1 + 1, (ab.sl ab.int).cQ (kj + 1 + 1 + 1 + 1 + ((ab.sl ab.int).al x.query : Nat) + 1 + 1 + 1 + 1) x.vec, (ab.sl ab.bk).cQ (kj + 1 + 1 + 1 + 1 + ((ab.sl ab.int).al x.query : Nat) + 1 + 1 + 1 + 1 + ((ab.sl ab.int).al x.vec : Nat)) x.aW⟩ : cj).vec.length = n9 at *
   generalize hn10 : (⟨kj, kj + 1, kj + 1 + 1, kj + 1 + 1 + 1, (ab.sl ab.int).cQ (kj + 1 + 1 + 1 + 1) x.query, kj + 1 + 1 + 1 + 1 + ((ab.sl ab.int).al x.query : Nat), kj + 1 + 1 + 1 + 1 + ((ab.sl ab.int).al x.query : Nat) + 1, kj + 1 + 1 + 1 + 1 + ((ab.sl ab.int).al x.query : Nat) + 1 + 1, kj + 1 + 1 + 1 + 1 + ((ab.sl ab.int).al x.query : Nat) + 1 + 1 + 1, (ab.sl ab.int).cQ (kj + 1 + 1 + 1 + 1 + ((ab.sl ab.int).al x.query : Nat) + 1 + 1 + 1 + 1) x.vec, (ab.sl ab.bk).cQ (kj + 1 + 1 + 1 + 1 + ((ab.sl ab.int).al x.query : Nat) + 1 + 1 + 1 + 1 + ((ab.sl ab.int).al x.vec : Nat)) x.aW⟩ : cj).aW.length = n10 at *
   clear hn4 hn9 hn10
   have c0 : wr.cell? ⟨b, off + j * 11, none⟩ = some (.int .i64 (kj)) := (hB.cell (p := ⟨b, off + j * 11, none⟩) hbl).trans (hc 0 (by decide))
   have e0 : ((kj : Int) != (kj : Int)) = false := by simp
   have c1 : wr.cell? ⟨b, off + j * 11 + 1, none⟩ = some (.int .i64 (kj + 1)) := (hB.cell (p := ⟨b, off + j * 11 + 1, none⟩) hbl).trans (hc 1 (by decide))
   have e1 : ((kj + 1 : Int) != (kj + 1 : Int)) = false := by simp
   have c2 : wr.cell? ⟨b, off + j * 11 + 2, none⟩ = some (.int .i64 (kj + 1 + 1)) := (hB.cell (p := ⟨b, off + j * 11 + 2, none⟩) hbl).trans (hc 2 (by decide))
   have e2 : ((kj + 1 + 1 : Int) != (kj + 1 + 1 : Int)) = false := by simp
   have c3 : wr.cell? ⟨b, off + j * 11 + 3, none⟩ = some (.int .i64 (kj + 1 + 1 + 1)) := (hB.cell (p := ⟨b, off + j * 11 + 3, none⟩) hbl).trans (hc 3 (by decide))
   have e3 : ((kj + 1 + 1 + 1 : Int) != (kj + 1 + 1 + 1 : Int)) = false := by simp
   have c4 : wr.cell? ⟨b, off + j * 11 + 4, none⟩ = some (.slice a4 n4 d4) := (hB.cell (p := ⟨b, off + j * 11 + 4, none⟩) hbl).trans (hc 4 (by decide))
   have c5 : wr.cell? ⟨b, off + j * 11 + 5, none⟩ = some (.int .i64 (kj + 1 + 1 + 1 + 1 + ((ab.sl ab.int).al x.query : Nat))) := (hB.cell (p := ⟨b, off + j * 11 + 5, none⟩) hbl).trans (hc 5 (by decide))
   have e5 : ((kj + 1 + 1 + 1 + 1 + ((ab.sl ab.int).al x.query : Nat) : Int) != (kj + 1 + 1 + 1 + 1 + ((ab.sl ab.int).al x.query : Nat) : Int)) = false := by simp
   have c6 : wr.cell? ⟨b, off + j * 11 + 6, none⟩ = some (.int .i64 (kj + 1 + 1 + 1 + 1 + ((ab.sl ab.int).al x.query : Nat) + 1)) := (hB.cell (p := ⟨b, off + j * 11 + 6, none⟩) hbl).trans (hc 6 (by decide))
   have e6 : ((kj + 1 + 1 + 1 + 1 + ((ab.sl ab.int).al x.query : Nat) + 1 : Int) != (kj + 1 + 1 + 1 + 1 + ((ab.sl ab.int).al x.query : Nat) + 1 : Int)) = false := by simp
   have c7 : wr.cell? ⟨b, off + j * 11 + 7, none⟩ = some (.int .i64 (kj + 1 + 1 + 1 + 1 + ((ab.sl ab.int).al x.query : Nat) + 1 + 1)) := (hB.cell (p := ⟨b, off + j * 11 + 7, none⟩) hbl).trans (hc 7 (by decide))
   have e7 : ((kj + 1 + 1 + 1 + 1 + ((ab.sl ab.int).al x.query : Nat) + 1 + 1 : Int) != (kj + 1 + 1 + 1 + 1 + ((ab.sl ab.int).al x.query : Nat) + 1 + 1 : Int)) = false := by simp
   have c8 : wr.cell? ⟨b, off + j * 11 + 8, none⟩ = some (.int .i64 (kj + 1 + 1 + 1 + 1 + ((ab.sl ab.int).al x.query : Nat) + 1 + 1 + 1)) := (hB.cell (p := ⟨b, off + j * 11 + 8, none⟩) hbl).trans (hc 8 (by decide))
   have e8 : ((kj + 1 + 1 + 1 + 1 + ((ab.sl ab.int).al x.query : Nat) + 1 + 1 + 1 : Int) != (kj + 1 + 1 + 1 + 1 + ((ab.sl ab.int).al x.query : Nat) + 1 + 1 + 1 : Int)) = false := by simp
   have c9 : wr.cell? ⟨b, off + j * 11 + 9, none⟩ = some (.slice a9 n9 d9) := (hB.cell (p := ⟨b, off + j * 11 + 9, none⟩) hbl).trans (hc 9 (by decide))
   have c10 : wr.cell? ⟨b, off + j * 11 + 10, none⟩ = some (.slice a10 n10 d10) := (hB.cell (p := ⟨b, off + j * 11 + 10, none⟩) hbl).trans (hc 10 (by decide))
   have l1 : b < wr.heap.size := Nat.lt_of_lt_of_le hbl hB.size
   have HB := yh hB
   clear hB hc
   have P4 := yh R4
   clear R4
   have P9 := yh R9
   clear R9
   have P10 := yh R10
   clear R10
   go_wp2_with fail
   refine (eN _ x.query (kj + 1 + 1 + 1 + 1) _ (uh P4) (by omega) (by omega)).mono ?_
   rintro e u0 ⟨rfl, hb⟩
   replace c5 := (hb.cell (p := ⟨b, off + j * 11 + 5, none⟩) l1).trans c5
   replace c6 := (hb.cell (p := ⟨b, off + j * 11 + 6, none⟩) l1).trans c6
   replace c7 := (hb.cell (p := ⟨b, off + j * 11 + 7, none⟩) l1).trans c7
   replace c8 := (hb.cell (p := ⟨b, off + j * 11 + 8, none⟩) l1).trans c8
   replace c9 := (hb.cell (p := ⟨b, off + j * 11 + 9, none⟩) l1).trans c9
   replace c10 := (hb.cell (p := ⟨b, off + j * 11 + 10, none⟩) l1).trans c10
   replace P9 := yh ((uh P9).later hb)
   replace P10 := yh ((uh P10).later hb)
   replace HB := bZ HB hb
   replace l1 := Nat.lt_of_lt_of_le l1 hb.size
   clear hb P4 c4
   have hq : decide (kj + 1 + 1 + 1 + 1 + ((ab.sl ab.int).al x.query : Int) < 0) = false := by simp; omega
   go_wp2_with fail
   refine (eN _ x.vec (kj + 1 + 1 + 1 + 1 + ((ab.sl ab.int).al x.query : Nat) + 1 + 1 + 1 + 1) _ (uh P9) (by omega) (by omega)).mono ?_
   rintro e u1 ⟨rfl, hb⟩
   replace c10 := (hb.cell (p := ⟨b, off + j * 11 + 10, none⟩) l1).trans c10
   replace P10 := yh ((uh P10).later hb)
   replace HB := bZ HB hb
   replace l1 := Nat.lt_of_lt_of_le l1 hb.size
   clear hb P9 c9
   have hq : decide (kj + 1 + 1 + 1 + 1 + ((ab.sl ab.int).al x.query : Nat) + 1 + 1 + 1 + 1 + ((ab.sl ab.int).al x.vec : Int) < 0) = false := by simp; omega
   go_wp2_with fail
   refine (sn _ x.aW (kj + 1 + 1 + 1 + 1 + ((ab.sl ab.int).al x.query : Nat) + 1 + 1 + 1 + 1 + ((ab.sl ab.int).al x.vec : Nat)) _ (uh P10) (by omega) (by omega)).mono ?_
   rintro e u2 ⟨rfl, hb⟩
   replace HB := bZ HB hb
   replace l1 := Nat.lt_of_lt_of_le l1 hb.size
   clear hb P10 c10
   have hq : decide (kj + 1 + 1 + 1 + 1 + ((ab.sl ab.int).al x.query : Nat) + 1 + 1 + 1 + 1 + ((ab.sl ab.int).al x.vec : Nat) + ((ab.sl ab.bk).al x.aW : Int) < 0) = false := by simp; omega
   go_wp2_with fail
   go_roundw
   case rel => exact ⟨j + 1, _, by omega, by go_num, (by rw [uh HT, hcn]; have := uh HK; omega), rfl, uh HB⟩
   case measure => simp [intOf]; omega
  obtain rfl : j = xs.length := by omega
  rw [List.take_length] at hkj
  have HK := yh hkj
  have HB := yh hB
  clear hB hkj
  go_wp2_with fail
  go_ret
  exact ⟨by rw [← uh HK]; rfl, uh HB⟩
theorem kN (ao : Option Addr) (cap : Nat) (k : Int) (w : World) :
  Calls Tryz.prog 115 #[.slice ao 0 cap, .int .i64 k] w fun e w' => e = .returned (.int .i64 k) ∧ w' = w := by
 go_enter Tryz.func115, Tryz.ntmps115
 go_wp2_with fail
 refine wp_loop_rounds 1 ?_
 rw [rounds_succ]
 go_wp2_with fail
 go_ret
 exact ⟨rfl, rfl⟩
theorem oo (v : Value) (xs : List cj) (k : Int) (w : World) (h : (ab.sl ab.az).Reads w [v] ((ab.sl ab.az).cQ k xs)) (hk : 0 ≤ k) (hk2 : k + (ab.sl ab.az).al xs ≤ 1000000000) :
  Calls Tryz.prog 115 #[v, .int .i64 k] w fun e w' => e = .returned (.int .i64 (k + (ab.sl ab.az).al xs)) ∧ Below w.heap.size w w' := by
 rw [pY] at h
 obtain ⟨ao, cap, rfl⟩ := aI h
 by_cases hp : 0 < xs.length
 ·
  obtain ⟨b, off, rfl, hbl⟩ := ab.aR h (by rw [bz]; exact hp)
  have L := lA b off cap xs k w h hbl hk hk2
  rw [bz]
  exact L
 obtain rfl : xs = [] := List.eq_nil_of_length_eq_zero (by omega)
 refine (kN ao cap k w).mono ?_
 rintro e w' ⟨rfl, rfl⟩
 exact ⟨by rw [jo]; simp [ax], Below.refl _ _⟩
theorem pJ (cs : List Value) (x : ay) (k : Int) (w : World) (h : ab.aH.Reads w cs (ab.aH.cQ k x)) (hk : 0 ≤ k) (hk2 : k + ab.aH.al x ≤ 1000000000) :
  Calls Tryz.prog 57 #[.agg cs.toArray, .int .i64 k] w fun e w' => e = .returned (.int .i64 (k + ab.aH.al x)) ∧ Below w.heap.size w w' := by
 rw [mM] at h
 rw [fa] at hk2
 have HV := yh (fa x)
 obtain ⟨a3, d3, a4, d4, a5, d5, a6, d6, rfl, R2, R4, R5, R6⟩ := aN h
 clear h
 generalize hn3 : (⟨x.now, x.events, ab.aF.cQ (k) x.chain, (ab.sl ab.aA).cQ (k + (ab.aF.al x.chain : Int)) x.nodes, (ab.sl ab.aP).cQ (k + (ab.aF.al x.chain : Int) + ((ab.sl ab.aA).al x.nodes : Int)) x.msgs, (ab.sl ab.az).cQ (k + (ab.aF.al x.chain : Int) + ((ab.sl ab.aA).al x.nodes : Int) + ((ab.sl ab.aP).al x.msgs : Int)) x.af⟩ : ay).chain.ids.length = n3 at *
 generalize hn4 : (⟨x.now, x.events, ab.aF.cQ (k) x.chain, (ab.sl ab.aA).cQ (k + (ab.aF.al x.chain : Int)) x.nodes, (ab.sl ab.aP).cQ (k + (ab.aF.al x.chain : Int) + ((ab.sl ab.aA).al x.nodes : Int)) x.msgs, (ab.sl ab.az).cQ (k + (ab.aF.al x.chain : Int) + ((ab.sl ab.aA).al x.nodes : Int) + ((ab.sl ab.aP).al x.msgs : Int)) x.af⟩ : ay).nodes.length = n4 at *
 generalize hn5 : (⟨x.now, x.events, ab.aF.cQ (k) x.chain, (ab.sl ab.aA).cQ (k + (ab.aF.al x.chain : Int)) x.nodes, (ab.sl ab.aP).cQ (k + (ab.aF.al x.chain : Int) + ((ab.sl ab.aA).al x.nodes : Int)) x.msgs, (ab.sl ab.az).cQ (k + (ab.aF.al x.chain : Int) + ((ab.sl ab.aA).al x.nodes : Int) + ((ab.sl ab.aP).al x.msgs : Int)) x.af⟩ : ay).msgs.length = n5 at *
 generalize hn6 : (⟨x.now, x.events, ab.aF.cQ (k) x.chain, (ab.sl ab.aA).cQ (k + (ab.aF.al x.chain : Int)) x.nodes, (ab.sl ab.aP).cQ (k + (ab.aF.al x.chain : Int) + ((ab.sl ab.aA).al x.nodes : Int)) x.msgs, (ab.sl ab.az).cQ (k + (ab.aF.al x.chain : Int) + ((ab.sl ab.aA).al x.nodes : Int) + ((ab.sl ab.aP).al x.msgs : Int)) x.af⟩ : ay).af.length = n6 at *
 clear hn3 hn4 hn5 hn6
 generalize hn2 : (⟨x.now, x.events, ab.aF.cQ (k) x.chain, (ab.sl ab.aA).cQ (k + (ab.aF.al x.chain : Int)) x.nodes, (ab.sl ab.aP).cQ (k + (ab.aF.al x.chain : Int) + ((ab.sl ab.aA).al x.nodes : Int)) x.msgs, (ab.sl ab.az).cQ (k + (ab.aF.al x.chain : Int) + ((ab.sl ab.aA).al x.nodes : Int) + ((ab.sl ab.aP).al x.msgs : Int)) x.af⟩ : ay).chain.ae = n2 at *
 clear hn2
 have HB0 : Below w.heap.size w (w.alloc (.cells #[.int .i64 x.now, .int .i64 x.events, .int .i64 n2, .slice a3 n3 d3, .slice a4 n4 d4, .slice a5 n5 d5, .slice a6 n6 d6] 39)) := (Below.refl _ _).alloc (Nat.le_refl _) _
 have bA : ag w.heap.size #[.int .i64 x.now, .int .i64 x.events, .int .i64 n2, .slice a3 n3 d3, .slice a4 n4 d4, .slice a5 n5 d5, .slice a6 n6 d6] 39 (w.alloc (.cells #[.int .i64 x.now, .int .i64 x.events, .int .i64 n2, .slice a3 n3 d3, .slice a4 n4 d4, .slice a5 n5 d5, .slice a6 n6 d6] 39)) w.heap.size := aC (Nat.le_refl _)
 go_enter Tryz.func57, Tryz.ntmps57
 go_wp2_with fail
 generalize w.alloc (.cells #[.int .i64 x.now, .int .i64 x.events, .int .i64 n2, .slice a3 n3 d3, .slice a4 n4 d4, .slice a5 n5 d5, .slice a6 n6 d6] 39) = W0 at *
 replace R2 := R2.later HB0
 replace R4 := R4.later HB0
 replace R5 := R5.later HB0
 replace R6 := R6.later HB0
 refine (pE _ x.chain (k) _ R2 (by omega) (by omega)).mono ?_
 rintro e w1 ⟨rfl, hb⟩
 replace HB0 := HB0.trans (hb.mono HB0.size)
 replace bA := bA.aj hb
 replace R4 := R4.later hb
 have p4 := bA.at 4 _ rfl
 replace R5 := R5.later hb
 have p5 := bA.at 5 _ rfl
 replace R6 := R6.later hb
 have p6 := bA.at 6 _ rfl
 have HA := yh bA
 have HX := yh HB0
 clear bA HB0 hb R2
 have P4 := yh R4
 clear R4
 have P5 := yh R5
 clear R5
 have P6 := yh R6
 clear R6
 have hq : decide (k + (ab.aF.al x.chain : Int) < 0) = false := by simp; omega
 go_wp2_with fail
 clear hq
 have bA := uh HA
 have HB0 := uh HX
 clear HA HX
 have R4 := uh P4
 clear P4
 have R5 := uh P5
 clear P5
 have R6 := uh P6
 clear P6
 clear p4
 clear p5
 clear p6
 refine (qx _ x.nodes (k + (ab.aF.al x.chain : Int)) _ R4 (by omega) (by omega)).mono ?_
 rintro e w2 ⟨rfl, hb⟩
 replace HB0 := HB0.trans (hb.mono HB0.size)
 replace bA := bA.aj hb
 replace R5 := R5.later hb
 have p5 := bA.at 5 _ rfl
 replace R6 := R6.later hb
 have p6 := bA.at 6 _ rfl
 have HA := yh bA
 have HX := yh HB0
 clear bA HB0 hb R4
 have P5 := yh R5
 clear R5
 have P6 := yh R6
 clear R6
 have hq : decide (k + (ab.aF.al x.chain : Int) + ((ab.sl ab.aA).al x.nodes : Int) < 0) = false := by simp; omega
 go_wp2_with fail
 clear hq
 have bA := uh HA
 have HB0 := uh HX
 clear HA HX
 have R5 := uh P5
 clear P5
 have R6 := uh P6
 clear P6
 clear p5
 clear p6
 refine (rZ _ x.msgs (k + (ab.aF.al x.chain : Int) + ((ab.sl ab.aA).al x.nodes : Int)) _ R5 (by omega) (by omega)).mono ?_
 rintro e w3 ⟨rfl, hb⟩
 replace HB0 := HB0.trans (hb.mono HB0.size)
 replace bA := bA.aj hb
 replace R6 := R6.later hb
 have p6 := bA.at 6 _ rfl
 have HA := yh bA
 have HX := yh HB0
 clear bA HB0 hb R5
 have P6 := yh R6
 clear R6
 have hq : decide (k + (ab.aF.al x.chain : Int) + ((ab.sl ab.aA).al x.nodes : Int) + ((ab.sl ab.aP).al x.msgs : Int) < 0) = false := by simp; omega
 go_wp2_with fail
 clear hq
 have bA := uh HA
 have HB0 := uh HX
 clear HA HX
 have R6 := uh P6
 clear P6
 clear p6
 refine (oo _ x.af (k + (ab.aF.al x.chain : Int) + ((ab.sl ab.aA).al x.nodes : Int) + ((ab.sl ab.aP).al x.msgs : Int)) _ R6 (by omega) (by omega)).mono ?_
 rintro e w4 ⟨rfl, hb⟩
 replace HB0 := HB0.trans (hb.mono HB0.size)
 replace bA := bA.aj hb
 have HA := yh bA
 have HX := yh HB0
 clear bA HB0 hb R6
 have hq : decide (k + (ab.aF.al x.chain : Int) + ((ab.sl ab.aA).al x.nodes : Int) + ((ab.sl ab.aP).al x.msgs : Int) + ((ab.sl ab.az).al x.af : Int) < 0) = false := by simp; omega
 go_wp2_with fail
 clear hq
 go_ret
 refine ⟨?_, uh HX⟩
 rw [show k + (ab.aH.al x : Int) = k + (ab.aF.al x.chain : Int) + ((ab.sl ab.aA).al x.nodes : Int) + ((ab.sl ab.aP).al x.msgs : Int) + ((ab.sl ab.az).al x.af : Int) by rw [uh HV]; omega]
 rfl
theorem fG (cs : List Value) (x : bd) (k : Int) (w : World) (h : ab.aD.Reads w cs (ab.aD.cQ k x)) (hk : 0 ≤ k) (hk2 : k + ab.aD.al x ≤ 1000000000) :
  Calls Tryz.prog 19 #[.agg cs.toArray, .int .i64 k] w fun e w' => e = .returned (.int .i64 (k + ab.aD.al x)) ∧ Below w.heap.size w w' := by
 rw [gi] at h
 rw [dm] at hk2
 have HV := yh (dm x)
 obtain ⟨a5, d5, a6, d6, a7, d7, a8, d8, rfl, R2⟩ := cr h
 clear h
 generalize hn5 : (⟨x.code, x.bL, ab.aH.cQ (k) x.world⟩ : bd).world.chain.ids.length = n5 at *
 generalize hn6 : (⟨x.code, x.bL, ab.aH.cQ (k) x.world⟩ : bd).world.nodes.length = n6 at *
 generalize hn7 : (⟨x.code, x.bL, ab.aH.cQ (k) x.world⟩ : bd).world.msgs.length = n7 at *
 generalize hn8 : (⟨x.code, x.bL, ab.aH.cQ (k) x.world⟩ : bd).world.af.length = n8 at *
 clear hn5 hn6 hn7 hn8
 generalize hn2 : (⟨x.code, x.bL, ab.aH.cQ (k) x.world⟩ : bd).world.now = n2 at *
 generalize hn3 : (⟨x.code, x.bL, ab.aH.cQ (k) x.world⟩ : bd).world.events = n3 at *
 generalize hn4 : (⟨x.code, x.bL, ab.aH.cQ (k) x.world⟩ : bd).world.chain.ae = n4 at *
 clear hn2 hn3 hn4
 have HB0 : Below w.heap.size w (w.alloc (.cells #[.int .i64 x.code, .bool x.bL, .int .i64 n2, .int .i64 n3, .int .i64 n4, .slice a5 n5 d5, .slice a6 n6 d6, .slice a7 n7 d7, .slice a8 n8 d8] 41)) := (Below.refl _ _).alloc (Nat.le_refl _) _
 have bA : ag w.heap.size #[.int .i64 x.code, .bool x.bL, .int .i64 n2, .int .i64 n3, .int .i64 n4, .slice a5 n5 d5, .slice a6 n6 d6, .slice a7 n7 d7, .slice a8 n8 d8] 41 (w.alloc (.cells #[.int .i64 x.code, .bool x.bL, .int .i64 n2, .int .i64 n3, .int .i64 n4, .slice a5 n5 d5, .slice a6 n6 d6, .slice a7 n7 d7, .slice a8 n8 d8] 41)) w.heap.size := aC (Nat.le_refl _)
 go_enter Tryz.func19, Tryz.ntmps19
 go_wp2_with fail
 generalize w.alloc (.cells #[.int .i64 x.code, .bool x.bL, .int .i64 n2, .int .i64 n3, .int .i64 n4, .slice a5 n5 d5, .slice a6 n6 d6, .slice a7 n7 d7, .slice a8 n8 d8] 41) = W0 at *
 replace R2 := R2.later HB0
 refine (pJ _ x.world (k) _ R2 (by omega) (by omega)).mono ?_
 rintro e w1 ⟨rfl, hb⟩
 replace HB0 := HB0.trans (hb.mono HB0.size)
 replace bA := bA.aj hb
 have HA := yh bA
 have HX := yh HB0
 clear bA HB0 hb R2
 have hq : decide (k + (ab.aH.al x.world : Int) < 0) = false := by simp; omega
 go_wp2_with fail
 clear hq
 go_ret
 refine ⟨?_, uh HX⟩
 rw [show k + (ab.aD.al x : Int) = k + (ab.aH.al x.world : Int) by rw [uh HV]]
 rfl
end Go.Proofs.YtomphbenbnnfgaaGreatDoor

namespace Go.Proofs.YtomphbenbnnfgaaGreatDoor
open Go.RowKit Go.Extern.Stop Go.Stop Go.Extern
def nn (w : World) : Prop := w.cell? ⟨1, 0, none⟩ = some (.iface 304 (.agg #[.pointer (some ⟨2, 277, none⟩)]))
theorem wW (t : Addr) (w : World) : (ReflectliteValue.unpack (.iface 287 (.pointer (some t)))).run Tryz.prog w
  = .ok (.agg #[.pointer (some ⟨2, 287, none⟩), .pointer (some ⟨w.heap.size, 0, none⟩), .int .u64 150]) (w.alloc (.cells #[.pointer (some t)] 287)) := by kernel_rfl
theorem sC (a : Addr) (w : World) : (ReflectliteValue.methodAny (ReflectliteValue.valueError "reflectlite.Value.Type" 0) (fun t _ _ _ => ReflectliteType.toType t) #[.agg #[.pointer (some ⟨2, 287, none⟩), .pointer (some a), .int .u64 150]]).run Tryz.prog w
  = .ok (.iface 304 (.agg #[.pointer (some ⟨2, 287, none⟩)])) w := by kernel_rfl
theorem qZ (h : Value) (w : World) : (Go.method 452 304 (.agg #[h]) "Kind").run Tryz.prog w = .ok (258, h) w := by kernel_rfl
theorem qD (w : World) : ((ReflectliteType.abiMethod fun t => (fun a : Nat => Value.int IntKind.u8 (a : Int)) <$> Rtype.kind t) #[.pointer (some ⟨2, 287, none⟩)]).run Tryz.prog w = .ok (.int .u8 22) w := by kernel_rfl
theorem qE (w : World) : ((ReflectliteType.abiMethod fun t => (fun a : Nat => Value.int IntKind.u8 (a : Int)) <$> Rtype.kind t) #[.pointer (some ⟨2, 285, none⟩)]).run Tryz.prog w = .ok (.int .u8 25) w := by kernel_rfl
theorem vC (z : Sem Value) (f : TypeId → Addr → Nat → Nat → Sem Value) (v : Value) :
  ReflectliteValue.method z f #[v] = (do match ← ReflectliteValue.parts v with | none => z | some (t, a, fl) => f t a fl (fl % 32)) := rfl
theorem ov (a : Addr) (w : World) : (ReflectliteValue.parts (.agg #[.pointer (some ⟨2, 287, none⟩), .pointer (some a), .int .u64 150])).run Tryz.prog w = .ok (some (287, a, 150)) w := by kernel_rfl
theorem qX (a p : Addr) (W : World) (ha : W.cell? a = some (.pointer (some p))) :
  (ReflectliteValue.method (ReflectliteValue.valueError "reflectlite.Value.IsNil" 0) ReflectliteValue.isNil #[.agg #[.pointer (some ⟨2, 287, none⟩), .pointer (some a), .int .u64 150]]).run Tryz.prog W = .ok (.bool false) W := by
 rw [vC]
 simp only [Sem.run_bind, ov, Result.andThen]
 simp [ReflectliteValue.isNil, loadVar, isAgg, underlying, Tryz.underlying287, ha, Result.andThen]
theorem qy (h : Value) (w : World) : (Go.method 452 304 (.agg #[h]) "Elem").run Tryz.prog w = .ok (271, .agg #[h]) w := by kernel_rfl
theorem qV (h : Value) (w : World) : (Go.method 452 304 (.agg #[h]) "Implements").run Tryz.prog w = .ok (272, .agg #[h]) w := by kernel_rfl
theorem ma (h : Value) (w : World) : (Go.method 452 304 (.agg #[h]) "AssignableTo").run Tryz.prog w = .ok (269, .agg #[h]) w := by kernel_rfl
theorem qQ (w : World) : (ReflectliteType.method ReflectliteType.elem #[.agg #[.pointer (some ⟨2, 287, none⟩)]]).run Tryz.prog w = .ok (.iface 304 (.agg #[.pointer (some ⟨2, 285, none⟩)])) w := by kernel_rfl
theorem s9 (w : World) : (ReflectliteType.relation "Implements" ReflectliteType.implements_ #[.agg #[.pointer (some ⟨2, 285, none⟩)], .iface 304 (.agg #[.pointer (some ⟨2, 277, none⟩)])]).run Tryz.prog w = .ok (.bool true) w := by kernel_rfl
theorem uK (v : Value) (w : World) : (ReflectliteType.typeOf #[.iface 285 v]).run Tryz.prog w = .ok (.iface 304 (.agg #[.pointer (some ⟨2, 285, none⟩)])) w := by kernel_rfl
theorem uL (v : Value) (w : World) : (ReflectliteType.typeOf #[.iface 318 v]).run Tryz.prog w = .ok (.iface 304 (.agg #[.pointer (some ⟨2, 318, none⟩)])) w := by kernel_rfl
theorem wC (w : World) : (ReflectliteType.relation "AssignableTo" ReflectliteType.assignableTo #[.agg #[.pointer (some ⟨2, 285, none⟩)], .iface 304 (.agg #[.pointer (some ⟨2, 285, none⟩)])]).run Tryz.prog w = .ok (.bool true) w := by kernel_rfl
theorem vZ (w : World) : (ReflectliteType.relation "AssignableTo" ReflectliteType.assignableTo #[.agg #[.pointer (some ⟨2, 318, none⟩)], .iface 304 (.agg #[.pointer (some ⟨2, 285, none⟩)])]).run Tryz.prog w = .ok (.bool false) w := by kernel_rfl
theorem wY (x y : Int) (w : World) : (ReflectliteValue.unpack (.iface 285 (.agg #[.int .i64 x, .int .i64 y]))).run Tryz.prog w
  = .ok (.agg #[.pointer (some ⟨2, 285, none⟩), .pointer (some ⟨w.heap.size, 0, none⟩), .int .u64 153]) (w.alloc (.cells #[.int .i64 x, .int .i64 y] 285)) := by kernel_rfl
theorem tz (w : World) : (Rtype.elem? 287).run Tryz.prog w = .ok (some 285) w := by kernel_rfl
theorem asMk (p : Addr) (w : World) : (ReflectliteValue.mk 285 p ReflectliteValue.flagAddr).run Tryz.prog w = .ok (.agg #[.pointer (some ⟨2, 285, none⟩), .pointer (some p), .int .u64 409]) w := by kernel_rfl
theorem uJ (a p : Addr) (W : World) (ha : W.cell? a = some (.pointer (some p))) :
  (ReflectliteValue.method (ReflectliteValue.valueError "reflectlite.Value.Elem" 0) ReflectliteValue.elem #[.agg #[.pointer (some ⟨2, 287, none⟩), .pointer (some a), .int .u64 150]]).run Tryz.prog W
   = .ok (.agg #[.pointer (some ⟨2, 285, none⟩), .pointer (some p), .int .u64 409]) W := by
 rw [vC]
 simp only [Sem.run_bind, ov, Result.andThen]
 simp [ReflectliteValue.elem, loadVar, isAgg, underlying, Tryz.underlying287, ha, Result.andThen, tz, asMk]
theorem wP (v x : Value) : ReflectliteValue.set #[v, x] = (do
  let (some (dst, a, fl), some (src, b, _)) := (← ReflectliteValue.parts v, ← ReflectliteValue.parts x)
   | unsupported (.noEntry "extern/(internal/reflectlite.Value).Set.zeroValue")
  if fl / ReflectliteValue.flagAddr % 2 == 0 then unsupported (.noEntry "extern/(internal/reflectlite.Value).Set.unaddressable")
  let val ← loadVar src b
  if ← Rtype.directlyAssignable dst src then storeVar dst a val
  else if ← Rtype.implements dst src then
   if (← Rtype.kind src) == 20 then
    match val with
    | .nilIface => unsupported (.noEntry "extern/reflectlite: a nil value of one interface type handed on as a value of another")
    | _ => storeVar dst a val
   else storeVar dst a (.iface src val)
  else panicString ("reflectlite.Set: value of type " ++ (← Rtype.spelt src) ++ " is not assignable to type " ++ (← Rtype.spelt dst))
  pure (.tuple #[])) := rfl
theorem tm (a : Addr) (w : World) : (ReflectliteValue.parts (.agg #[.pointer (some ⟨2, 285, none⟩), .pointer (some a), .int .u64 409])).run Tryz.prog w = .ok (some (285, a, 409)) w := by kernel_rfl
theorem sE (a : Addr) (w : World) : (ReflectliteValue.parts (.agg #[.pointer (some ⟨2, 285, none⟩), .pointer (some a), .int .u64 153])).run Tryz.prog w = .ok (some (285, a, 153)) w := by kernel_rfl
theorem tk (w : World) : (Rtype.directlyAssignable 285 285).run Tryz.prog w = .ok true w := by kernel_rfl
end Go.Proofs.YtomphbenbnnfgaaGreatDoor

namespace Go.Proofs.YtomphbenbnnfgaaGreatDoor
open Go.RowKit
theorem fB (v lo hi : Int) (w : World) :
  Calls Tryz.prog 58 #[.int .i64 v, .int .i64 lo, .int .i64 hi] w fun e w' => e = .returned (.bool (decide (lo ≤ v) && decide (v ≤ hi))) ∧ w' = w := by
 by_cases h1 : lo ≤ v
 ·
  have d1 : decide (lo ≤ v) = true := by simpa using h1
  rw [d1]
  cases d2 : decide (v ≤ hi) <;>
  ·
   go_enter Tryz.func58, Tryz.ntmps58
   go_wp2_with fail
   go_ret
   exact ⟨rfl, rfl⟩
 have d1 : decide (lo ≤ v) = false := by simpa using h1
 rw [d1]
 go_enter Tryz.func58, Tryz.ntmps58
 go_wp2_with fail
 go_ret
 exact ⟨rfl, rfl⟩
theorem vx (x : Int) (w : World) : Calls Tryz.prog 89 #[.int .i64 x] w fun e w' => e = .returned (.bool (decide (1 ≤ x) && decide (x ≤ 999))) ∧ w' = w := by
 go_enter Tryz.func89, Tryz.ntmps89
 go_wp2_with fail
 refine (fB x 1 999 _).mono ?_
 rintro e w1 ⟨rfl, rfl⟩
 go_wp2_with fail
 go_ret
 exact ⟨rfl, rfl⟩
theorem fK (x : Int) (w : World) : Calls Tryz.prog 90 #[.int .i64 x] w fun e w' => e = .returned (.bool (decide (1 ≤ x) && decide (x ≤ 9))) ∧ w' = w := by
 go_enter Tryz.func90, Tryz.ntmps90
 go_wp2_with fail
 refine (fB x 1 9 _).mono ?_
 rintro e w1 ⟨rfl, rfl⟩
 go_wp2_with fail
 go_ret
 exact ⟨rfl, rfl⟩
theorem lx (ao : Option Addr) (n cap : Nat) (w : World) (h : n ≠ 3) :
  Calls Tryz.prog 218 #[.slice ao n cap] w fun e w' => e = .returned (.int .i64 1) ∧ w' = w := by
 have h3 : ((n : Int) != 3) = true := by rw [bne_iff_ne]; omega
 go_enter Tryz.func218, Tryz.ntmps218
 go_wp2
 go_ret
 exact ⟨rfl, rfl⟩
theorem jQ (b off cap : Nat) (zs : List Int) (w : World) (h : zs.length = 3) (hc : ∀ j, j < 3 → w.cell? ⟨b, off + j, none⟩ = some (.int .i64 (zs.getD j 0))) :
  Calls Tryz.prog 218 #[.slice (some ⟨b, off, none⟩) 3 cap] w fun e w' => e = .returned (.int .i64 (bE zs)) ∧ w' = w := by
 go_enter Tryz.func218, Tryz.ntmps218
 go_wp2
 go_loop [10] (fun i => ∃ k : Nat, k ≤ 3 ∧ i = .int .i64 k ∧ ∀ j, j < k → eI (zs.getD j 0) = true) (fun i => 3 - (intOf i).toNat)
 case atStart => exact ⟨0, Nat.zero_le _, rfl, fun j hj => by omega⟩
 case round =>
  obtain ⟨k, hk, rfl, hg⟩ := hrel
  have HG : Hid (∀ j, j < k → eI (zs.getD j 0) = true) := hg
  have HL : Hid (zs.length = 3) := h
  clear hg h
  by_cases hlt : k < 3
  ·
   have hcx : w.cell? ⟨b, off + k, none⟩ = some (.int .i64 (zs.getD k 0)) := hc k hlt
   obtain ⟨z, hz⟩ : ∃ z, z = zs.getD k 0 := ⟨_, rfl⟩
   rw [← hz] at hcx
   have HZ : Hid (z = zs.getD k 0) := hz
   clear hz hc
   cases hp : eI z with
   | true =>
    have hb := ie hp
    have HP : Hid (eI z = true) := hp
    clear hp
    obtain ⟨hb1, hb2⟩ := hb
    go_wp2
    go_round
    case rel =>
     refine ⟨k + 1, by omega, by go_num, fun j hj => ?_⟩
     by_cases hjk : j < k
     ·
      exact HG.out j hjk
     rw [show j = k by omega, ← HZ.out]; exact HP.out
    case measure => simp [intOf]; omega
   | false =>
    have HV : Hid (bE zs = 3) := iE HL.out k hlt (by rw [← HZ.out]; exact hp)
    have hb := jq hp
    clear hp
    rcases hb with hb | hb
    ·
     go_wp2
     go_ret
     exact ⟨by rw [HV.out]; rfl, rfl⟩
    have hb1 : -1000 ≤ z := by omega
    have hd : decide (z ≤ 1000) = false := by simp; omega
    go_wp2
    go_ret
    exact ⟨by rw [HV.out]; rfl, rfl⟩
  have HV : Hid (bE zs = 0) := jJ HL.out (fun j hj => HG.out j (by omega))
  go_wp2
  go_ret
  exact ⟨by rw [HV.out]; rfl, rfl⟩
theorem j9 (ao : Option Addr) (n cap : Nat) (w : World) (h : n ≠ 3) :
  Calls Tryz.prog 91 #[.slice ao n cap] w fun e w' => e = .returned (.int .i64 1) ∧ w' = w := by
 have h3 : ((n : Int) != 3) = true := by rw [bne_iff_ne]; omega
 go_enter Tryz.func91, Tryz.ntmps91
 go_wp2
 go_ret
 exact ⟨rfl, rfl⟩
theorem jl (b off cap : Nat) (zs : List Int) (w : World) (h : zs.length = 3) (hc : ∀ j, j < 3 → w.cell? ⟨b, off + j, none⟩ = some (.int .i64 (zs.getD j 0))) :
  Calls Tryz.prog 91 #[.slice (some ⟨b, off, none⟩) 3 cap] w fun e w' => e = .returned (.int .i64 (bE zs)) ∧ w' = w := by
 go_enter Tryz.func91, Tryz.ntmps91
 go_wp2
 go_loop [3] (fun i => ∃ k : Nat, k ≤ 3 ∧ i = .int .i64 k ∧ ∀ j, j < k → eI (zs.getD j 0) = true) (fun i => 3 - (intOf i).toNat)
 case atStart => exact ⟨0, Nat.zero_le _, rfl, fun j hj => by omega⟩
 case round =>
  obtain ⟨k, hk, rfl, hg⟩ := hrel
  have HG : Hid (∀ j, j < k → eI (zs.getD j 0) = true) := hg
  have HL : Hid (zs.length = 3) := h
  clear hg h
  by_cases hlt : k < 3
  ·
   have hcx : w.cell? ⟨b, off + k, none⟩ = some (.int .i64 (zs.getD k 0)) := hc k hlt
   obtain ⟨z, hz⟩ : ∃ z, z = zs.getD k 0 := ⟨_, rfl⟩
   rw [← hz] at hcx
   have HZ : Hid (z = zs.getD k 0) := hz
   clear hz hc
   cases hp : eI z with
   | true =>
    have hb := ie hp
    have HP : Hid (eI z = true) := hp
    clear hp
    obtain ⟨hb1, hb2⟩ := hb
    go_wp2
    go_round
    case rel =>
     refine ⟨k + 1, by omega, by go_num, fun j hj => ?_⟩
     by_cases hjk : j < k
     ·
      exact HG.out j hjk
     rw [show j = k by omega, ← HZ.out]; exact HP.out
    case measure => simp [intOf]; omega
   | false =>
    have HV : Hid (bE zs = 3) := iE HL.out k hlt (by rw [← HZ.out]; exact hp)
    have hb := jq hp
    clear hp
    rcases hb with hb | hb
    ·
     go_wp2
     go_ret
     exact ⟨by rw [HV.out]; rfl, rfl⟩
    have hb1 : -1000 ≤ z := by omega
    have hd : decide (z ≤ 1000) = false := by simp; omega
    go_wp2
    go_ret
    exact ⟨by rw [HV.out]; rfl, rfl⟩
  have HV : Hid (bE zs = 0) := jJ HL.out (fun j hj => HG.out j (by omega))
  go_wp2
  go_ret
  exact ⟨by rw [HV.out]; rfl, rfl⟩
theorem lQ (v : Value) (zs : List Int) (w : World) (h : ct w v zs) :
  Calls Tryz.prog 218 #[v] w fun e w' => e = .returned (.int .i64 (bE zs)) ∧ w' = w := by
 obtain ⟨ao, cap, rfl, hwf, hc⟩ := h
 by_cases h3 : zs.length = 3
 ·
  obtain ⟨b, off, rfl, hc1⟩ := hc (by omega)
  rw [h3] at hc1 ⊢
  exact jQ b off cap zs w h3 hc1
 rw [iH h3]
 exact lx ao zs.length cap w h3
theorem pw (v : Value) (zs : List Int) (w : World) (h : ct w v zs) :
  Calls Tryz.prog 91 #[v] w fun e w' => e = .returned (.int .i64 (bE zs)) ∧ w' = w := by
 obtain ⟨ao, cap, rfl, hwf, hc⟩ := h
 by_cases h3 : zs.length = 3
 ·
  obtain ⟨b, off, rfl, hc1⟩ := hc (by omega)
  rw [h3] at hc1 ⊢
  exact jl b off cap zs w h3 hc1
 rw [iH h3]
 exact j9 ao zs.length cap w h3
def eA (k : Int) (n : Nat) : Bool := (decide (1 ≤ k) && decide (k ≤ 2)) && !(k == 2 && decide (0 < (n : Int)))
def dM (i s q : Int) : Bool := (decide (1 ≤ i) && decide (i ≤ 999)) && ((decide (1 ≤ s) && decide (s ≤ 9)) && (decide (1 ≤ q) && decide (q ≤ 999)))
def aQ (k i : Int) (zs : List Int) (s q : Int) : Int :=
 if eA k zs.length then (if dM i s q then (if k = 1 then bE zs else 0) else 3) else 1
def tB (w : World) (b o : Nat) (k i : Int) (v : Value) (s q : Int) : Prop :=
 w.cell? ⟨b, o, none⟩ = some (.int .i64 k) ∧ w.cell? ⟨b, o + 1, none⟩ = some (.int .i64 i) ∧ w.cell? ⟨b, o + 2, none⟩ = some v ∧ w.cell? ⟨b, o + 3, none⟩ = some (.int .i64 s) ∧ w.cell? ⟨b, o + 4, none⟩ = some (.int .i64 q)
theorem oa (b o : Nat) (k i : Int) (v : Value) (s q : Int) (zs : List Int) (w : World) (hc : tB w b o k i v s q) (h : ct w v zs) :
  Calls Tryz.prog 35 #[.pointer (some ⟨b, o, none⟩)] w fun e w' => e = .returned (.int .i64 (aQ k i zs s q)) ∧ w' = w := by
 have hv : ∃ a c, v = .slice a zs.length c := by obtain ⟨a, c, h, -⟩ := h; exact ⟨a, c, h⟩
 obtain ⟨av, cv, rfl⟩ := hv
 obtain ⟨c0, c1, c2, c3, c4⟩ := hc
 have HH := yh h
 clear h
 generalize hF : aQ k i zs s q = F
 have HF := yh hF
 clear hF
 cases d1 : (decide (1 ≤ k) && decide (k ≤ 2)) with
 | false =>
  have hE : F = 1 := by rw [← uh HF, aQ, eA, d1]; rfl
  subst hE
  go_enter Tryz.func35, Tryz.ntmps35
  go_wp2_with fail
  refine (fB k 1 2 _).mono ?_
  rintro e w1 ⟨rfl, rfl⟩
  rw [d1]
  go_wp2_with fail
  go_ret
  exact ⟨rfl, rfl⟩
 | true =>
  have hk : k = 1 ∨ k = 2 := by
   simp only [Bool.and_eq_true, decide_eq_true_eq] at d1
   omega
  clear d1
  rcases hk with rfl | rfl
  ·
   have hK : eA 1 zs.length = true := rfl
   cases dI : (decide (1 ≤ i) && decide (i ≤ 999)) with
   | false =>
    have hE : F = 3 := by rw [← uh HF, aQ, hK, if_pos rfl, dM, dI]; rfl
    subst hE
    go_enter Tryz.func35, Tryz.ntmps35
    go_wp2_with fail
    refine (fB 1 1 2 _).mono ?_
    rintro e w1 ⟨rfl, rfl⟩
    go_wp2_with fail
    refine (vx i _).mono ?_
    rintro e w1 ⟨rfl, rfl⟩
    rw [dI]
    go_wp2_with fail
    go_ret
    exact ⟨rfl, rfl⟩
   | true =>
    cases dS : (decide (1 ≤ s) && decide (s ≤ 9)) with
    | false =>
     have hE : F = 3 := by rw [← uh HF, aQ, hK, if_pos rfl, dM, dI, dS]; rfl
     subst hE
     go_enter Tryz.func35, Tryz.ntmps35
     go_wp2_with fail
     refine (fB 1 1 2 _).mono ?_
     rintro e w1 ⟨rfl, rfl⟩
     go_wp2_with fail
     refine (vx i _).mono ?_
     rintro e w1 ⟨rfl, rfl⟩
     rw [dI]
     go_wp2_with fail
     refine (fK s _).mono ?_
     rintro e w1 ⟨rfl, rfl⟩
     rw [dS]
     go_wp2_with fail
     go_ret
     exact ⟨rfl, rfl⟩
    | true =>
     cases dQ : (decide (1 ≤ q) && decide (q ≤ 999)) with
     | false =>
      have hE : F = 3 := by rw [← uh HF, aQ, hK, if_pos rfl, dM, dI, dS, dQ]; rfl
      subst hE
      go_enter Tryz.func35, Tryz.ntmps35
      go_wp2_with fail
      refine (fB 1 1 2 _).mono ?_
      rintro e w1 ⟨rfl, rfl⟩
      go_wp2_with fail
      refine (vx i _).mono ?_
      rintro e w1 ⟨rfl, rfl⟩
      rw [dI]
      go_wp2_with fail
      refine (fK s _).mono ?_
      rintro e w1 ⟨rfl, rfl⟩
      rw [dS]
      go_wp2_with fail
      refine (fB q 1 999 _).mono ?_
      rintro e w1 ⟨rfl, rfl⟩
      rw [dQ]
      go_wp2_with fail
      go_ret
      exact ⟨rfl, rfl⟩
     | true =>
      have hE : F = bE zs := by rw [← uh HF, aQ, hK, if_pos rfl, dM, dI, dS, dQ]; rfl
      subst hE
      go_enter Tryz.func35, Tryz.ntmps35
      go_wp2_with fail
      refine (fB 1 1 2 _).mono ?_
      rintro e w1 ⟨rfl, rfl⟩
      go_wp2_with fail
      refine (vx i _).mono ?_
      rintro e w1 ⟨rfl, rfl⟩
      rw [dI]
      go_wp2_with fail
      refine (fK s _).mono ?_
      rintro e w1 ⟨rfl, rfl⟩
      rw [dS]
      go_wp2_with fail
      refine (fB q 1 999 _).mono ?_
      rintro e w1 ⟨rfl, rfl⟩
      rw [dQ]
      go_wp2_with fail
      refine (pw _ zs _ (uh HH)).mono ?_
      rintro e w1 ⟨rfl, rfl⟩
      go_wp2_with fail
      go_ret
      exact ⟨rfl, rfl⟩
  by_cases hz : zs.length = 0
  ·
   obtain rfl : zs = [] := List.eq_nil_of_length_eq_zero hz
   have hK : eA 2 ([] : List Int).length = true := rfl
   simp only [List.length_nil] at c2 hK
   clear hz
   cases dI : (decide (1 ≤ i) && decide (i ≤ 999)) with
   | false =>
    have hE : F = 3 := by rw [← uh HF, aQ, show eA 2 ([] : List Int).length = true from rfl, if_pos rfl, dM, dI]; rfl
    subst hE
    go_enter Tryz.func35, Tryz.ntmps35
    go_wp2_with fail
    refine (fB 2 1 2 _).mono ?_
    rintro e w1 ⟨rfl, rfl⟩
    go_wp2_with fail
    refine (vx i _).mono ?_
    rintro e w1 ⟨rfl, rfl⟩
    rw [dI]
    go_wp2_with fail
    go_ret
    exact ⟨rfl, rfl⟩
   | true =>
    cases dS : (decide (1 ≤ s) && decide (s ≤ 9)) with
    | false =>
     have hE : F = 3 := by rw [← uh HF, aQ, show eA 2 ([] : List Int).length = true from rfl, if_pos rfl, dM, dI, dS]; rfl
     subst hE
     go_enter Tryz.func35, Tryz.ntmps35
     go_wp2_with fail
     refine (fB 2 1 2 _).mono ?_
     rintro e w1 ⟨rfl, rfl⟩
     go_wp2_with fail
     refine (vx i _).mono ?_
     rintro e w1 ⟨rfl, rfl⟩
     rw [dI]
     go_wp2_with fail
     refine (fK s _).mono ?_
     rintro e w1 ⟨rfl, rfl⟩
     rw [dS]
     go_wp2_with fail
     go_ret
     exact ⟨rfl, rfl⟩
    | true =>
     cases dQ : (decide (1 ≤ q) && decide (q ≤ 999)) with
     | false =>
      have hE : F = 3 := by rw [← uh HF, aQ, show eA 2 ([] : List Int).length = true from rfl, if_pos rfl, dM, dI, dS, dQ]; rfl
      subst hE
      go_enter Tryz.func35, Tryz.ntmps35
      go_wp2_with fail
      refine (fB 2 1 2 _).mono ?_
      rintro e w1 ⟨rfl, rfl⟩
      go_wp2_with fail
      refine (vx i _).mono ?_
      rintro e w1 ⟨rfl, rfl⟩
      rw [dI]
      go_wp2_with fail
      refine (fK s _).mono ?_
      rintro e w1 ⟨rfl, rfl⟩
      rw [dS]
      go_wp2_with fail
      refine (fB q 1 999 _).mono ?_
      rintro e w1 ⟨rfl, rfl⟩
      rw [dQ]
      go_wp2_with fail
      go_ret
      exact ⟨rfl, rfl⟩
     | true =>
      have hE : F = 0 := by rw [← uh HF, aQ, show eA 2 ([] : List Int).length = true from rfl, if_pos rfl, dM, dI, dS, dQ]; rfl
      subst hE
      go_enter Tryz.func35, Tryz.ntmps35
      go_wp2_with fail
      refine (fB 2 1 2 _).mono ?_
      rintro e w1 ⟨rfl, rfl⟩
      go_wp2_with fail
      refine (vx i _).mono ?_
      rintro e w1 ⟨rfl, rfl⟩
      rw [dI]
      go_wp2_with fail
      refine (fK s _).mono ?_
      rintro e w1 ⟨rfl, rfl⟩
      rw [dS]
      go_wp2_with fail
      refine (fB q 1 999 _).mono ?_
      rintro e w1 ⟨rfl, rfl⟩
      rw [dQ]
      go_wp2_with fail
      go_ret
      exact ⟨rfl, rfl⟩
  have hE : F = 1 := by
   have : eA 2 zs.length = false := by simp [eA]; omega
   rw [← uh HF, aQ, this]; rfl
  subst hE
  obtain ⟨m, hm⟩ : ∃ m, zs.length = m + 1 := ⟨zs.length - 1, by omega⟩
  rw [hm] at c2
  clear hz hm
  go_enter Tryz.func35, Tryz.ntmps35
  go_wp2_with fail
  refine (fB 2 1 2 _).mono ?_
  rintro e w1 ⟨rfl, rfl⟩
  go_wp2_with fail
  go_ret
  exact ⟨rfl, rfl⟩
theorem cf {k i s q : Int} {zs : List Int} (h : aQ k i zs s q = 0) : (1 ≤ i ∧ i ≤ 999) ∧ (1 ≤ s ∧ s ≤ 9) ∧ (1 ≤ q ∧ q ≤ 999) ∧ ((k = 1 ∧ bE zs = 0) ∨ (k = 2 ∧ zs = [])) := by
 unfold aQ at h
 split at h
 ·
  next hk =>
  split at h
  ·
   next hb =>
   simp only [eA, Bool.and_eq_true, decide_eq_true_eq, Bool.not_eq_true', Bool.and_eq_false_iff] at hk
   simp only [dM, Bool.and_eq_true, decide_eq_true_eq] at hb
   refine ⟨hb.1, hb.2.1, hb.2.2, ?_⟩
   by_cases h1 : k = 1
   ·
    rw [if_pos h1] at h
    exact Or.inl ⟨h1, h⟩
   have h2 : k = 2 := by omega
   refine Or.inr ⟨h2, ?_⟩
   rcases hk.2 with h3 | h3
   ·
    simp [h2] at h3
   simp at h3
   exact h3
  omega
 omega
def wF (x : au) : Int := aQ x.kind x.id x.vec x.aa x.seq
def cG : List au → Int
 | [] => 0
 | x :: xs => if wF x = 0 then cG xs else wF x
def aM (ws : List au) : Int := if 200 < ws.length then 2 else cG ws
theorem iZ (ws : List au) (k : Nat) (h : k < ws.length) (hz : ∀ j (hj : j < ws.length), j < k → wF ws[j] = 0) (hn : wF ws[k] ≠ 0) : cG ws = wF ws[k] := by
 induction ws generalizing k with
 | nil => simp at h
 | cons x xs ih =>
  match k with
  | 0 => rw [cG, if_neg (by simpa using hn)]; rfl
  | k + 1 =>
   have h0 : wF x = 0 := hz 0 (by simp) (by omega)
   rw [cG, if_pos h0]
   exact ih k (by simpa using h) (fun j hj hjk => hz (j + 1) (by simpa using hj) (by omega)) (by simpa using hn)
theorem fm (ws : List au) (hz : ∀ j (hj : j < ws.length), wF ws[j] = 0) : cG ws = 0 := by
 induction ws with
 | nil => rfl
 | cons x xs ih =>
  have h0 : wF x = 0 := hz 0 (by simp)
  rw [cG, if_pos h0]
  exact ih fun j hj => hz (j + 1) (by simpa using hj)
theorem jF {ws : List au} (h : cG ws = 0) : ∀ x ∈ ws, wF x = 0 := by
 induction ws with
 | nil => simp
 | cons x xs ih =>
  rw [cG] at h
  by_cases h0 : wF x = 0
  ·
   rw [if_pos h0] at h
   intro y hy
   rcases List.mem_cons.1 hy with rfl | hy
   ·
    exact h0
   exact ih h y hy
  rw [if_neg h0] at h; exact absurd h h0
theorem dK {ws : List au} (h : aM ws = 0) : ws.length ≤ 200 ∧ ∀ x ∈ ws, wF x = 0 := by
 unfold aM at h
 by_cases hn : 200 < ws.length
 ·
  rw [if_pos hn] at h; cases h
 rw [if_neg hn] at h; exact ⟨by omega, jF h⟩
theorem iG (x : au) : 0 ≤ wF x ∧ wF x ≤ 3 := by
 have hv := lL x.vec
 unfold wF aQ
 split
 ·
  split
  ·
   split
   ·
    exact hv
   decide
  decide
 decide
theorem wX (x : au) : (Lit.int .i64 (wF x)).wf = true := aK (by have := iG x; omega)
theorem oR (ws : List au) : 0 ≤ cG ws ∧ cG ws ≤ 3 := by
 induction ws with
 | nil => decide
 | cons x xs ih =>
  rw [cG]
  split
  ·
   exact ih
  exact iG x
def aT (ws : List au) (s : Int) : Int := ws.foldl (fun n x => if x.aa = s then max n x.seq else n) 0
def cU (s q : Int) : Nat → List au → Nat
 | _, [] => 0
 | n, x :: xs => if x.aa = s ∧ x.seq = q then n + 1 else cU s q (n + 1) xs
def bV (ws : List au) (s q : Int) : Nat := cU s q 0 ws
def dy : List au → List au → Bool
 | _, [] => true
 | pre, x :: xs => decide (aT pre x.aa < x.seq) && dy (pre ++ [x]) xs
def gI (ws : List au) (s : Int) : Int := if aM ws = 0 then (if 1 ≤ s ∧ s ≤ 9 then 0 else 3) else aM ws
theorem j0 (ws : List au) (x : au) (s : Int) : aT (ws ++ [x]) s = if x.aa = s then max (aT ws s) x.seq else aT ws s := by
 simp [aT]
theorem kF (ws : List au) (k : Nat) (h : k < ws.length) (s : Int) : aT (ws.take (k + 1)) s = if ws[k].aa = s then max (aT (ws.take k) s) ws[k].seq else aT (ws.take k) s := by
 rw [List.take_succ_eq_append_getElem h, j0]
theorem ib (s q : Int) (x : au) : ∀ (ws : List au) (n : Nat), cU s q n (ws ++ [x]) = if cU s q n ws = 0 then (if x.aa = s ∧ x.seq = q then n + ws.length + 1 else 0) else cU s q n ws
 | [], n => by simp [cU]
 | y :: ws, n => by
  rw [List.cons_append, cU, cU]
  by_cases h : y.aa = s ∧ y.seq = q
  ·
   rw [if_pos h, if_pos h, if_neg (by omega)]
  rw [if_neg h, if_neg h, ib s q x ws (n + 1)]
  simp only [List.length_cons]
  rw [show n + 1 + ws.length + 1 = n + (ws.length + 1) + 1 by omega]
theorem kT (ws : List au) (x : au) (s q : Int) : bV (ws ++ [x]) s q = if bV ws s q = 0 then (if x.aa = s ∧ x.seq = q then ws.length + 1 else 0) else bV ws s q := by
 have := ib s q x ws 0
 rw [Nat.zero_add] at this
 exact this
theorem kS (ws : List au) (s q : Int) : bV ws s q ≤ ws.length := by
 have : ∀ (ws : List au) (n : Nat), cU s q n ws ≤ n + ws.length := by
  intro ws
  induction ws with
  | nil => intro n; simp [cU]
  | cons x xs ih =>
   intro n
   rw [cU]
   split
   ·
    simp only [List.length_cons]; omega
   have := ih (n + 1)
   simp only [List.length_cons]
   omega
 have := this ws 0
 rw [Nat.zero_add] at this
 exact this
theorem jB (s q : Int) : ∀ (ws : List au) (n k : Nat) (h : k < ws.length), (∀ j (hj : j < ws.length), j < k → ¬ (ws[j].aa = s ∧ ws[j].seq = q)) → (ws[k].aa = s ∧ ws[k].seq = q) → cU s q n ws = n + k + 1
 | [], _, _, h, _, _ => by simp at h
 | x :: xs, n, 0, _, _, hk => by rw [cU, if_pos (by simpa using hk)]
 | x :: xs, n, k + 1, h, hn, hk => by
  have h0 := hn 0 (by simp) (by omega)
  rw [cU, if_neg (by simpa using h0), jB s q xs (n + 1) k (by simpa using h) (fun j hj hjk => by have := hn (j + 1) (by simpa using hj) (by omega); simpa using this) (by simpa using hk)]
  omega
theorem um {s q : Int} {ws : List au} {k : Nat} (h : k < ws.length) (hn : ∀ j (hj : j < ws.length), j < k → ¬ (ws[j].aa = s ∧ ws[j].seq = q)) (hk : ws[k].aa = s ∧ ws[k].seq = q) : bV ws s q = k + 1 := by
 have := jB s q ws 0 k h hn hk
 rw [Nat.zero_add] at this
 exact this
theorem pB {s q : Int} {ws : List au} (hn : ∀ j (hj : j < ws.length), ¬ (ws[j].aa = s ∧ ws[j].seq = q)) : bV ws s q = 0 := by
 have : ∀ (ws : List au) (n : Nat), (∀ j (hj : j < ws.length), ¬ (ws[j].aa = s ∧ ws[j].seq = q)) → cU s q n ws = 0 := by
  intro ws
  induction ws with
  | nil => intro n _; rfl
  | cons x xs ih =>
   intro n hn
   have h0 := hn 0 (by simp)
   rw [cU, if_neg (by simpa using h0)]
   exact ih (n + 1) fun j hj => by have := hn (j + 1) (by simpa using hj); simpa using this
 exact this ws 0 hn
theorem kB : ∀ (ws pre : List au) (k : Nat) (h : k < ws.length), (ws[k]).seq ≤ aT (pre ++ ws.take k) (ws[k]).aa → dy pre ws = false
 | [], _, _, h, _ => by simp at h
 | x :: xs, pre, 0, _, hk => by
  have : ¬ (aT pre x.aa < x.seq) := by simpa using hk
  simp [dy, this]
 | x :: xs, pre, k + 1, h, hk => by
  rw [dy, kB xs (pre ++ [x]) k (by simpa using h) (by simpa using hk), Bool.and_false]
theorem jk : ∀ (ws pre : List au), (∀ k (h : k < ws.length), aT (pre ++ ws.take k) (ws[k]).aa < (ws[k]).seq) → dy pre ws = true
 | [], _, _ => rfl
 | x :: xs, pre, h => by
  have h0 := h 0 (by simp)
  rw [dy, jk xs (pre ++ [x]) fun k hk => by have := h (k + 1) (by simpa using hk); simpa using this]
  simpa using h0
def jM (ws : List au) : Bool := decide (aM ws = 0) && dy [] ws
theorem jX {x : au} (h : wF x = 0) : 1 ≤ x.aa ∧ x.aa ≤ 9 ∧ 1 ≤ x.seq ∧ x.seq ≤ 999 := by
 obtain ⟨-, h1, h2, -⟩ := cf h
 exact ⟨h1.1, h1.2, h2.1, h2.2⟩
end Go.Proofs.YtomphbenbnnfgaaGreatDoor

namespace Go.Proofs.YtomphbenbnnfgaaGreatDoor
open Go.RowKit Go.Maps
def tick (s q : Int) : Value := .agg #[.int .i64 s, .int .i64 q]
theorem sS : laidOutB Tryz.prog = true := by kernel_rfl
theorem qS : (139 : TypeId) < Tryz.prog.types.size := of_decide_eq_true (by kernel_rfl)
theorem ug : (match Tryz.prog.underlying 139 with | some (.array _ _) | some (.struct _) => true | _ => false) = true := by kernel_rfl
theorem jg : Keyed Tryz.prog 139 := Keyed.of_law (deep_law_laid sS (m := 2) (by omega) qS (by kernel_rfl) ug)
theorem jV {s q : Int} (hs : (Lit.int .i64 s).wf = true) (hq : (Lit.int .i64 q).wf = true) : keyOf Tryz.prog 139 (tick s q) = some (.string (keyBytes [.int .i64 s, .int .i64 q])) := by
 have hk : Tryz.prog.keyType 139 = true := by kernel_rfl
 have hc : Tryz.prog.cellsOf 139 = 2 := by kernel_rfl
 have hc1 : Tryz.prog.cellsOf 2 = 1 := by kernel_rfl
 have hf : (tick s q).formed Tryz.prog 139 = true := by simp [tick, Value.formed, Tryz.underlying139, hc]
 obtain ⟨m, hm⟩ : ∃ m, Tryz.prog.types.size = m + 1 := ⟨_, (Nat.succ_pred_eq_of_pos (Nat.lt_of_le_of_lt (Nat.zero_le _) qS)).symm⟩
 unfold keyOf
 simp only [Tryz.underlying139]
 rw [if_pos (by rw [hk, hf]; rfl), hm]
 unfold Program.keyLits
 simp only [Tryz.underlying139, tick, Value.cells]
 simp [hc, hc1, Program.keyLits, Tryz.underlying2, hs, hq]
theorem td (w : World) : (zeroValue 2).run Tryz.prog w = .ok (.int .i64 0) w := by kernel_rfl
def ew (w : World) (b n : Nat) (f : Int → Int → Nat) : Prop := ∃ D : DataW Unit, w.ownsMap Tryz.prog 139 (plainElem Tryz.prog 2) b n D ∧
 ∀ s q, (Lit.int .i64 s).wf = true → (Lit.int .i64 q).wf = true → Maps.has D (.string (keyBytes [.int .i64 s, .int .i64 q])) = decide (f s q ≠ 0) ∧ D.atKey (.string (keyBytes [.int .i64 s, .int .i64 q])) (.lit (.int .i64 0)) = .lit (.int .i64 (f s q))
theorem ew.ext {S : Nat → Prop} {w w' : World} {b n : Nat} {f : Int → Int → Nat} (h : ew w b n f) (e : Ext S w w') (hb : ¬ S b) : ew w' b n f := by
 obtain ⟨D, h, r⟩ := h
 have hlt := World.ownsMap.lt h
 obtain ⟨es, clock, hb', r'⟩ := h
 exact ⟨D, ⟨es, clock, (e.block b hlt hb).trans hb', r'⟩, r⟩
theorem ew.lt {w : World} {b n : Nat} {f : Int → Int → Nat} (h : ew w b n f) : b < w.heap.size := by
 obtain ⟨D, h, -⟩ := h
 exact World.ownsMap.lt h
theorem ew.mono {w : World} {b n n' : Nat} {f : Int → Int → Nat} (h : ew w b n f) (hn : n ≤ n') : ew w b n' f := by
 obtain ⟨D, h, r⟩ := h
 exact ⟨D, World.ownsMap.mono h hn, r⟩
theorem ew.congr {w : World} {b n : Nat} {f g : Int → Int → Nat} (h : ew w b n f) (e : ∀ s q, f s q = g s q) : ew w b n g := by
 obtain ⟨D, h, r⟩ := h
 exact ⟨D, h, fun s q hs hq => by rw [← e]; exact r s q hs hq⟩
theorem ew.look {w : World} {b n : Nat} {f : Int → Int → Nat} (h : ew w b n f) {s q : Int} (hs : (Lit.int .i64 s).wf = true) (hq : (Lit.int .i64 q).wf = true) :
  (Instr.lookup 134 (.map (some b)) (tick s q) true).run Tryz.prog w = .ok (.tuple #[.int .i64 (f s q), .bool (decide (f s q ≠ 0))]) w := by
 obtain ⟨D, h, r⟩ := h
 obtain ⟨r1, r2⟩ := r s q hs hq
 obtain ⟨v, ps, hrun, hv⟩ := World.ownsMap.look_ok h jg Tryz.underlying134 (td w) (plainElem_int Tryz.underlying2 (by decide)) (jV hs hq)
 rw [r2] at hv
 obtain ⟨c, rfl, hc, -⟩ := plainElem_int_inv Tryz.underlying2 hv
 rw [r1] at hrun
 simp only [Prod.mk.injEq, DataW.lit.injEq, Lit.int.injEq, true_and] at hc
 rw [hc.1]
 exact hrun
theorem ew.put {w : World} {b n : Nat} {f : Int → Int → Nat} (h : ew w b n f) (hn : n < 100000) {s q : Int} (hs : (Lit.int .i64 s).wf = true) (hq : (Lit.int .i64 q).wf = true) {m : Nat} (hm : m ≠ 0) (hw : (Lit.int .i64 (m : Int)).wf = true) :
  ∃ w', (Instr.mapUpdate 134 (.map (some b)) (tick s q) (.int .i64 m)).run Tryz.prog w = .ok () w' ∧ ew w' b (n + 1) (fun s' q' => if s' = s ∧ q' = q then m else f s' q') ∧ Ext (fun c => c = b) w w' := by
 obtain ⟨D, h, r⟩ := h
 obtain ⟨w', h1, h2, h3⟩ := World.ownsMap.store h jg Tryz.underlying134 (by unfold maxLen; omega) (jV hs hq) (plainElem_int Tryz.underlying2 hw)
 refine ⟨w', h1, ⟨_, h2, fun s' q' hs' hq' => ?_⟩, ?_⟩
 ·
  have hk : WideAt.IsKeyLit (.string (keyBytes [.int .i64 s, .int .i64 q])) := trivial
  by_cases e : s' = s ∧ q' = q
  ·
   obtain ⟨rfl, rfl⟩ := e
   rw [Maps.has_put_same (World.ownsMap.isMap h) hk, Maps.atKey_put_same (World.ownsMap.isMap h) hk]
   simp [hm]
  have hne : Lit.string (keyBytes [.int .i64 s', .int .i64 q']) ≠ Lit.string (keyBytes [.int .i64 s, .int .i64 q]) := by
   intro e2
   have k1 := jV hs' hq'
   rw [e2] at k1
   have k2 := jg.inj k1 (jV hs hq)
   simp only [tick, Value.agg.injEq, Array.mk.injEq, List.cons.injEq, Value.int.injEq, true_and, and_true] at k2
   exact e k2
  rw [Maps.has_put_other hne, Maps.atKey_put_other hne]
  simp only [if_neg e]
  exact r s' q' hs' hq'
 have g := h3.grown
 obtain ⟨es, clock, es', clock', hb, rfl⟩ := h3
 exact ⟨rfl, rfl, rfl, by simp [ChangeMaps.setBlock], fun k hk hn => g.block k hk (fun e => hn (by simpa using e))⟩
theorem rP (w : World) : ew (w.alloc (.map #[] 0)) w.heap.size 0 (fun _ _ => 0) := ⟨.map [], World.ownsMap_made w _ _ _, fun _ _ _ _ => ⟨rfl, rfl⟩⟩
end Go.Proofs.YtomphbenbnnfgaaGreatDoor

namespace Go.Proofs.YtomphbenbnnfgaaGreatDoor
open Go.RowKit
def fh (v : Value) (mb : Nat) (f : Int → Int) : Array Value := #[v, .map (some mb), .int .i64 (f 0), .int .i64 (f 1), .int .i64 (f 2), .int .i64 (f 3), .int .i64 (f 4), .int .i64 (f 5), .int .i64 (f 6), .int .i64 (f 7), .int .i64 (f 8), .int .i64 (f 9)]
theorem eX (v : Value) (mb : Nat) (f : Int → Int) (i : Nat) (h : i < 10) : (fh v mb f)[2 + i]? = some (.int .i64 (f i)) := by
 match i, h with
 | 0, _ => rfl
 | 1, _ => rfl
 | 2, _ => rfl
 | 3, _ => rfl
 | 4, _ => rfl
 | 5, _ => rfl
 | 6, _ => rfl
 | 7, _ => rfl
 | 8, _ => rfl
 | 9, _ => rfl
theorem pU (v : Value) (mb : Nat) (f : Int → Int) (i : Nat) (h : i < 10) (z : Int) : (fh v mb f).setIfInBounds (2 + i) (.int .i64 z) = fh v mb (fun j => if j = i then z else f j) := by
 match i, h with
 | 0, _ => rfl
 | 1, _ => rfl
 | 2, _ => rfl
 | 3, _ => rfl
 | 4, _ => rfl
 | 5, _ => rfl
 | 6, _ => rfl
 | 7, _ => rfl
 | 8, _ => rfl
 | 9, _ => rfl
theorem cR {w w' : World} {b : Nat} (h : w'.heap[b]? = w.heap[b]?) (o : Nat) : w'.frozen? ⟨b, o, none⟩ = w.frozen? ⟨b, o, none⟩ := by
 unfold World.frozen?
 simp only [h]
structure dD (w : World) (p mb N n : Nat) (ws : List au) (f : Int → Int) (g : Int → Int → Nat) (v : Value) (rows : List (List Value)) (bls : List (List Nat)) : Prop where
 lt : mb < p
 box : ag 0 (fh v mb f) 137 w p
 grow : ck ab.ai w (p + 1) 44 v rows ws bls
 sub : ∀ b ∈ bls.flatten, p + 1 ≤ b ∧ ∀ o, w.frozen? ⟨b, o, none⟩ = false
 nd : bls.flatten.Nodup
 seen : ew w mb n g
 wL : ∀ b ∈ bls.flatten, b < N
 sB : ∀ b, v.ownBlock = some b → b < N
 pN : p < N
namespace dD
variable {w w' : World} {p mb N n : Nat} {ws : List au} {f : Int → Int} {g : Int → Int → Nat} {v : Value} {rows : List (List Value)} {bls : List (List Nat)}
theorem kept (h : dD w p mb N n ws f g v rows bls) {S : Nat → Prop} (e : Ext S w w') (hS : ∀ c, mb ≤ c → c < w.heap.size → ¬ S c) : dD w' p mb N n ws f g v rows bls := by
 have hs : ∀ b ∈ bls.flatten, w'.heap[b]? = w.heap[b]? := fun b hb => e.block b (h.grow.sub_lt b hb) (hS b (by have := (h.sub b hb).1; have := h.lt; omega) (h.grow.sub_lt b hb))
 refine ⟨h.lt, h.box.ext e (hS p (Nat.le_of_lt h.lt) h.box.lt), h.grow.kept ?_ hs, fun b hm => ⟨(h.sub b hm).1, fun o => (cR (hs b hm) o).trans ((h.sub b hm).2 o)⟩, h.nd, h.seen.ext e (hS mb (Nat.le_refl _) h.seen.lt), h.wL, h.sB, h.pN⟩
 obtain ⟨h1, h2⟩ := h.grow.own
 refine ⟨h1, ?_⟩
 rcases h2 with h2 | ⟨gb, cap, cur, hv, hg, hh, r⟩
 ·
  exact Or.inl h2
 exact Or.inr ⟨gb, cap, cur, hv, hg, (e.block gb (lt_of_block hh) (hS gb (by have := h.lt; omega) (lt_of_block hh))).trans hh, r⟩
theorem later (h : dD w p mb N n ws f g v rows bls) (hb : Below w.heap.size w w') : dD w' p mb N n ws f g v rows bls := h.kept (ak hb (fun _ => False)) (fun _ _ _ e => e)
theorem raise (h : dD w p mb N n ws f g v rows bls) {N' : Nat} (hN : N ≤ N') : dD w p mb N' n ws f g v rows bls :=
 ⟨h.lt, h.box, h.grow, h.sub, h.nd, h.seen, fun b hb => Nat.lt_of_lt_of_le (h.wL b hb) hN, fun b hb => Nat.lt_of_lt_of_le (h.sB b hb) hN, Nat.lt_of_lt_of_le h.pN hN⟩
theorem top (h : dD w p mb N n ws f g v rows bls) : dD w p mb w.heap.size n ws f g v rows bls :=
 ⟨h.lt, h.box, h.grow, h.sub, h.nd, h.seen, fun b hb => h.grow.sub_lt b hb, fun b hb => (h.grow.own.lt b hb).2, h.box.lt⟩
theorem own (h : dD w p mb N n ws f g v rows bls) (hn : ws.length ≤ 9223372036854775807) : (ab.sl ab.ai).aL w [v] ws (p + 1) w.heap.size := h.grow.vz hn h.nd h.sub
theorem added (h : dD w p mb N n ws f g v rows bls) {v' : Value} {rows' : List (List Value)} {ws' : List au} {bls' : List (List Nat)} (hG : ck ab.ai w' (p + 1) 44 v' rows' ws' bls') (hE : Ext (fun q => v.ownBlock = some q) w w') (hs : ∀ b ∈ bls'.flatten, p + 1 ≤ b ∧ ∀ o, w'.frozen? ⟨b, o, none⟩ = false) (hnd : bls'.flatten.Nodup) :
  dD (w'.setCell ⟨p, 0, none⟩ v') p mb (w'.setCell ⟨p, 0, none⟩ v').heap.size n ws' f g v' rows' bls' := by
 have hb : ag 0 (fh v mb f) 137 w' p := h.box.ext hE (fun e => by have := (h.grow.own.lt p e).1; omega)
 have hb2 : ag 0 (fh v' mb f) 137 (w'.setCell ⟨p, 0, none⟩ v') p := hb.set 0 v'
 have e2 : Ext (fun c => c = p) w' (w'.setCell ⟨p, 0, none⟩ v') := (Ext.refl (fun c => c = p) w').setCell ⟨p, 0, none⟩ v' rfl
 have hk : ∀ b ∈ bls'.flatten, (w'.setCell ⟨p, 0, none⟩ v').heap[b]? = w'.heap[b]? := fun b hb => e2.block b (hG.sub_lt b hb) (by have := (hs b hb).1; omega)
 have hG2 : ck ab.ai (w'.setCell ⟨p, 0, none⟩ v') (p + 1) 44 v' rows' ws' bls' := hG.kept (iD (a := ⟨p, 0, none⟩) hG.own (by simp) v') hk
 refine ⟨h.lt, hb2, hG2, fun b hm => ⟨(hs b hm).1, fun o => (cR (hk b hm) o).trans ((hs b hm).2 o)⟩, hnd, ?_, fun b hm => hG2.sub_lt b hm, fun b hm => (hG2.own.lt b hm).2, hb2.lt⟩
 exact (h.seen.ext hE (fun e => by have := (h.grow.own.lt mb e).1; have := h.lt; omega)).ext e2 (by have := h.lt; omega)
theorem marked (h : dD w p mb N n ws f g v rows bls) {n' : Nat} {g' : Int → Int → Nat} (hE : Ext (fun c => c = mb) w w') (hT : ew w' mb n' g') : dD w' p mb N n' ws f g' v rows bls := by
 have hs : ∀ b ∈ bls.flatten, w'.heap[b]? = w.heap[b]? := fun b hb => hE.block b (h.grow.sub_lt b hb) (by have := (h.sub b hb).1; have := h.lt; omega)
 refine ⟨h.lt, h.box.ext hE (by have := h.lt; omega), h.grow.kept ?_ hs, fun b hm => ⟨(h.sub b hm).1, fun o => (cR (hs b hm) o).trans ((h.sub b hm).2 o)⟩, h.nd, hT, h.wL, h.sB, h.pN⟩
 obtain ⟨h1, h2⟩ := h.grow.own
 refine ⟨h1, ?_⟩
 rcases h2 with h2 | ⟨gb, cap, cur, hv, hg, hh, r⟩
 ·
  exact Or.inl h2
 exact Or.inr ⟨gb, cap, cur, hv, hg, (hE.block gb (lt_of_block hh) (by have := h.lt; omega)).trans hh, r⟩
theorem th (h : dD w p mb N n ws f g v rows bls) (i : Nat) (hi : i < 10) (z : Int) : dD (w.setCell ⟨p, 2 + i, none⟩ (.int .i64 z)) p mb N n ws (fun j => if j = i then z else f j) g v rows bls := by
 have e2 : Ext (fun c => c = p) w (w.setCell ⟨p, 2 + i, none⟩ (.int .i64 z)) := (Ext.refl (fun c => c = p) w).setCell ⟨p, 2 + i, none⟩ _ rfl
 have hs : ∀ b ∈ bls.flatten, (w.setCell ⟨p, 2 + i, none⟩ (.int .i64 z)).heap[b]? = w.heap[b]? := fun b hb => e2.block b (h.grow.sub_lt b hb) (by have := (h.sub b hb).1; omega)
 refine ⟨h.lt, ?_, h.grow.kept (iD (a := ⟨p, 2 + i, none⟩) h.grow.own (by simp) _) hs, fun b hm => ⟨(h.sub b hm).1, fun o => (cR (hs b hm) o).trans ((h.sub b hm).2 o)⟩, h.nd, h.seen.ext e2 (by have := h.lt; omega), h.wL, h.sB, h.pN⟩
 rw [← pU v mb f i hi z]
 exact h.box.set (2 + i) _
theorem same (h : dD w p mb N n ws f g v rows bls) {n' : Nat} {f' : Int → Int} {g' : Int → Int → Nat} (hn : n ≤ n') (hf : ∀ j, f j = f' j) (hg : ∀ s q, g s q = g' s q) : dD w p mb N n' ws f' g' v rows bls := by
 rw [funext hf] at h
 exact ⟨h.lt, h.box, h.grow, h.sub, h.nd, (h.seen.mono hn).congr hg, h.wL, h.sB, h.pN⟩
end dD
abbrev Told (w : World) (p mb N : Nat) (ws : List au) (v : Value) (rows : List (List Value)) (bls : List (List Nat)) : Prop := dD w p mb N ws.length ws (aT ws) (fun s q => bV ws s q) v rows bls
theorem tS (w : World) : Told ((w.alloc (.map #[] 0)).alloc (.cells (fh (.slice none 0 0) w.heap.size (aT [])) 137)) (w.heap.size + 1) w.heap.size ((w.alloc (.map #[] 0)).alloc (.cells (fh (.slice none 0 0) w.heap.size (aT [])) 137)).heap.size [] (.slice none 0 0) [] [] := by
 have e : (w.alloc (.map #[] 0)).heap.size = w.heap.size + 1 := by simp
 have b : ag 0 (fh (.slice none 0 0) w.heap.size (aT [])) 137 ((w.alloc (.map #[] 0)).alloc (.cells (fh (.slice none 0 0) w.heap.size (aT [])) 137)) (w.alloc (.map #[] 0)).heap.size := aC (Nat.zero_le _)
 rw [e] at b
 refine ⟨by omega, b, ck.nil ⟨by simp, Or.inl ⟨rfl, rfl⟩⟩, by simp, by simp, ?_, by simp, by simp [Value.ownBlock], b.lt⟩
 exact (rP w).ext (ak ((Below.refl _ _).alloc (Nat.le_refl _) _) (fun _ => False)) (fun h => h)
def sR (ea : Addr) (w : World) : Prop := w.cell? ⟨0, 0, none⟩ = some (.iface 318 (.pointer (some ea)))
def ja (ea : Addr) (ws : List au) (x : au) : Value := if x.seq < aT ws x.aa then .iface 285 (.agg #[.int .i64 x.seq, .int .i64 (aT ws x.aa)]) else if 200 ≤ ws.length then .iface 318 (.pointer (some ea)) else .nilIface
theorem tg {w : World} {p mb N : Nat} {ws : List au} {v : Value} {rows : List (List Value)} {bls : List (List Nat)} (h : Told w p mb N ws v rows bls) (x : au) (a2 : Option Addr) (d2 : Nat) (hf : wF x = 0) (ea : Addr) (he : sR ea w) :
  Calls Tryz.prog 222 #[.pointer (some ⟨p, 0, none⟩), .agg #[.int .i64 x.kind, .int .i64 x.id, .slice a2 x.vec.length d2, .int .i64 x.aa, .int .i64 x.seq]] w fun e w' => e = .returned (ja ea ws x) ∧ Below w.heap.size w w' := by
 have nb : Below w.heap.size w (w.alloc (.cells #[.int .i64 x.kind, .int .i64 x.id, .slice a2 x.vec.length d2, .int .i64 x.aa, .int .i64 x.seq] 44)) := (Below.refl _ _).alloc (Nat.le_refl _) _
 have hQ0 : ag 0 #[.int .i64 x.kind, .int .i64 x.id, .slice a2 x.vec.length d2, .int .i64 x.aa, .int .i64 x.seq] 44 (w.alloc (.cells #[.int .i64 x.kind, .int .i64 x.id, .slice a2 x.vec.length d2, .int .i64 x.aa, .int .i64 x.seq] 44)) w.heap.size := aC (Nat.zero_le _)
 have hT0 := h.later nb
 have hE0 := (nb.cell (p := ⟨0, 0, none⟩) (World.block_lt_of_cell? _ _ he)).trans he
 have HB := yh nb.drew
 obtain ⟨b1, b9, q1, q9⟩ := jX hf
 have hs9 : x.aa.toNat < 10 := by omega
 have hsi : (x.aa.toNat : Int) = x.aa := by omega
 have i1 : (0 : Int) ≤ x.aa := by omega
 have i2 : x.aa < 10 := by omega
 have hpw := h.box.lt
 have hvf : ∃ ao cap, v = .slice ao ws.length cap := by
  rcases h.grow.form with ⟨rfl, rfl⟩ | ⟨g, cap, rfl, -⟩
  ·
   exact ⟨_, _, rfl⟩
  exact ⟨_, _, rfl⟩
 obtain ⟨ao, cap, rfl⟩ := hvf
 clear nb h he hf
 go_enter Tryz.func222, Tryz.ntmps222
 go_wp2_with fail
 generalize w.alloc (.cells #[.int .i64 x.kind, .int .i64 x.id, .slice a2 x.vec.length d2, .int .i64 x.aa, .int .i64 x.seq] 44) = W0 at *
 refine wZz (fun w' => w' = W0.drew) rfl (fun zq => ?_)
 refine tkH 0 zq ?_
 refine tkH 1 zq ?_
 refine tkJ 2 (v := ?vr2) ?hr2 zq ?rr2
 case hr2 =>
  intro wS hSw
  have y3 : wS.cell? ⟨w.heap.size, 3, none⟩ = some (.int .i64 x.aa) := by rw [hSw]; exact hQ0.at 3 _ rfl
  have zl : wS.cell? ⟨p, 2 + x.aa.toNat, none⟩ = some (.int .i64 (aT ws x.aa)) := by
   have := hT0.box.at _ _ (eX _ mb (aT ws) x.aa.toNat hs9)
   rw [hsi] at this
   rw [hSw]; exact this
  clear hSw
  exact fZ
 refine tkH 3 zq ?_
 refine tkH 4 zq ?_
 refine tkH 5 zq ?_
 refine tkJ 6 (v := ?vr6) ?hr6 zq ?rr6
 case hr6 =>
  intro wS hSw
  have y3 : wS.cell? ⟨w.heap.size, 3, none⟩ = some (.int .i64 x.aa) := by rw [hSw]; exact hQ0.at 3 _ rfl
  have zl : wS.cell? ⟨p, 2 + x.aa.toNat, none⟩ = some (.int .i64 (aT ws x.aa)) := by
   have := hT0.box.at _ _ (eX _ mb (aT ws) x.aa.toNat hs9)
   rw [hsi] at this
   rw [hSw]; exact this
  clear hSw
  exact fZ
 refine tkH 7 zq ?_
 refine dZ ?_
 clear zq
 have y4 : W0.drew.cell? ⟨w.heap.size, 4, none⟩ = some (.int .i64 x.seq) := hQ0.at 4 _ rfl
 have z0 : W0.drew.cell? ⟨p, 0, none⟩ = some (.slice ao ws.length cap) := hT0.box.at 0 _ rfl
 have hE1 : W0.drew.cell? ⟨0, 0, none⟩ = some (.iface 318 (.pointer (some ea))) := hE0
 generalize W0.drew = W2 at *
 clear hQ0 hT0 hE0
 by_cases c1 : x.seq < aT ws x.aa
 ·
  have hd : decide (x.seq < aT ws x.aa) = true := by simpa using c1
  have HV : Hid (ja ea ws x = .iface 285 (.agg #[.int .i64 x.seq, .int .i64 (aT ws x.aa)])) := if_pos c1
  clear c1 hsi
  go_wp2_with fail
  go_ret
  exact ⟨by rw [uh HV]; first | done | rfl, uh HB⟩
 ·
  have hd : decide (x.seq < aT ws x.aa) = false := by simpa using c1
  by_cases c2 : 200 ≤ ws.length
  ·
   have hd2 : decide ((200 : Int) ≤ (ws.length : Int)) = true := by simp; omega
   have HV : Hid (ja ea ws x = .iface 318 (.pointer (some ea))) := by show ja ea ws x = _; rw [ja, if_neg c1, if_pos c2]
   clear c1 c2 hsi
   go_wp2_with fail
   go_ret
   exact ⟨by rw [uh HV]; first | done | rfl, uh HB⟩
  ·
   have hd2 : decide ((200 : Int) ≤ (ws.length : Int)) = false := by simp; omega
   have HV : Hid (ja ea ws x = .nilIface) := by show ja ea ws x = _; rw [ja, if_neg c1, if_neg c2]
   clear c1 c2 hsi
   go_wp2_with fail
   go_ret
   exact ⟨by rw [uh HV]; first | done | rfl, uh HB⟩
def iK (w : World) : Prop := nn w ∧ ∃ ea, sR ea w
theorem nn.later {w w' : World} (h : nn w) (hb : Below w.heap.size w w') : nn w' := (hb.cell (p := ⟨1, 0, none⟩) (World.block_lt_of_cell? _ _ h)).trans h
theorem sR.later {ea : Addr} {w w' : World} (h : sR ea w) (hb : Below w.heap.size w w') : sR ea w' := (hb.cell (p := ⟨0, 0, none⟩) (World.block_lt_of_cell? _ _ h)).trans h
theorem iK.later {w w' : World} (h : iK w) (hb : Below w.heap.size w w') : iK w' := ⟨h.1.later hb, h.2.elim fun ea he => ⟨ea, he.later hb⟩⟩
theorem ka (u0 : List Value) (x0 : ay) (x1 : Int) (y : bd) (w : World) (A0 : ab.aH.Reads w u0 x0) (NS : ab.aH.sz x0 ≤ 1048576) (ht : iK w)
  (hS : ∀ (W : World) (u0 : List Value), iK W → ab.aH.Reads W u0 x0 → Calls Tryz.prog 20 #[.agg u0.toArray, .int .i64 x1] W fun e w' => ∃ cs, e = .returned (.agg cs.toArray) ∧ ab.aD.Reads w' cs y ∧ Below W.heap.size W w')
  (hI : ∀ (W : World) (u0 : List Value), iK W → ab.aH.Reads W u0 x0 → Calls Tryz.prog 21 #[.agg u0.toArray, .int .i64 x1] W fun e w' => ∃ cs, e = .returned (.agg cs.toArray) ∧ ab.aD.aL w' cs y W.heap.size w'.heap.size ∧ Below W.heap.size W w') (hc : ab.aD.al y ≤ 100000000) :
  Calls Tryz.prog 4 #[.agg u0.toArray, .int .i64 x1] w fun e w' => e = .returned (.bool true) ∧ Below w.heap.size w w' := by
 obtain ⟨a3p0, d3p0, a4p0, d4p0, a5p0, d5p0, a6p0, d6p0, rfl, -, -, -, -⟩ := aN A0
 have HS := yh hS
 have HI := yh hI
 clear hS hI
 have HA0 := yh A0.dY
 clear A0
 have N0 : ab.aH.sz x0 ≤ 1048576 := by omega
 have HN0 := yh N0
 clear N0
 have HC := yh hc
 clear hc
 have HNS := yh NS
 clear NS
 have HT := yh ht
 clear ht
 have HB := yh (Below.refl w.heap.size w)
 go_enter Tryz.func4, Tryz.ntmps4
 go_wp2_with fail
 have nb : Below w.heap.size w (w.alloc (.cells #[.int .i64 x0.now, .int .i64 x0.events, .int .i64 x0.chain.ae, .slice a3p0 x0.chain.ids.length d3p0, .slice a4p0 x0.nodes.length d4p0, .slice a5p0 x0.msgs.length d5p0, .slice a6p0 x0.af.length d6p0] 29)) := (Below.refl w.heap.size w).alloc (Nat.le_refl _) _
 have P0 : Hid (ag w.heap.size #[.int .i64 x0.now, .int .i64 x0.events, .int .i64 x0.chain.ae, .slice a3p0 x0.chain.ids.length d3p0, .slice a4p0 x0.nodes.length d4p0, .slice a5p0 x0.msgs.length d5p0, .slice a6p0 x0.af.length d6p0] 29 (w.alloc (.cells #[.int .i64 x0.now, .int .i64 x0.events, .int .i64 x0.chain.ae, .slice a3p0 x0.chain.ids.length d3p0, .slice a4p0 x0.nodes.length d4p0, .slice a5p0 x0.msgs.length d5p0, .slice a6p0 x0.af.length d6p0] 29)) (w.heap.size)) := bb (by omega) (by simp)
 generalize haw1 : (w.alloc (.cells #[.int .i64 x0.now, .int .i64 x0.events, .int .i64 x0.chain.ae, .slice a3p0 x0.chain.ids.length d3p0, .slice a4p0 x0.nodes.length d4p0, .slice a5p0 x0.msgs.length d5p0, .slice a6p0 x0.af.length d6p0] 29)) = w1 at *
 have Gw1 : w.heap.size + 1 ≤ w1.heap.size := by rw [← haw1]; simp
 clear haw1
 replace HA0 := yh ((uh HA0).later nb)
 have Zw1 : w.heap.size ≤ w1.heap.size := nb.size
 replace HB := yh ((uh HB).trans (nb.mono (by omega)))
 clear nb
 have hns := uh HNS
 refine (pb _ x0 (1048576) w1 (uh HA0).reads (by omega)).mono ?_
 rintro e w2 ⟨rfl, hb⟩
 replace HA0 := yh ((uh HA0).later hb)
 replace P0 := yh ((uh P0).aj hb)
 have Zw2 : w1.heap.size ≤ w2.heap.size := hb.size
 replace HB := yh ((uh HB).trans (hb.mono (by omega)))
 clear hb
 rw [cx (by omega)]
 have hq0 : decide (((1048576 - ab.aH.sz x0 : Nat) : Int) < 0) = false := by simp
 clear hns
 have l0P0 := (uh P0).at 0 _ rfl
 have l1P0 := (uh P0).at 1 _ rfl
 have l2P0 := (uh P0).at 2 _ rfl
 have l3P0 := (uh P0).at 3 _ rfl
 have l4P0 := (uh P0).at 4 _ rfl
 have l5P0 := (uh P0).at 5 _ rfl
 have l6P0 := (uh P0).at 6 _ rfl
 have ltP0 : w.heap.size < w2.heap.size := by omega
 simp only [ga, gb, gc] at l0P0 l1P0 l2P0 l3P0 l4P0 l5P0 l6P0
 go_wp2_with fail
 clear l0P0 l1P0 l2P0 l3P0 l4P0 l5P0 l6P0 ltP0
 clear hq0
 refine (iv _ x0 w2 (uh HA0).reads (uh HN0)).mono ?_
 rintro e w3 ⟨vc0, rfl, O, hb⟩
 replace HA0 := yh ((uh HA0).later hb)
 replace P0 := yh ((uh P0).aj hb)
 have Zw3 : w2.heap.size ≤ w3.heap.size := hb.size
 replace HB := yh ((uh HB).trans (hb.mono (by omega)))
 clear hb
 obtain ⟨a3c0, d3c0, a4c0, d4c0, a5c0, d5c0, a6c0, d6c0, rfl, -, -, -, -⟩ := aN O.reads
 have Hc0 := yh O
 clear O
 have l0P0 := (uh P0).at 0 _ rfl
 have l1P0 := (uh P0).at 1 _ rfl
 have l2P0 := (uh P0).at 2 _ rfl
 have l3P0 := (uh P0).at 3 _ rfl
 have l4P0 := (uh P0).at 4 _ rfl
 have l5P0 := (uh P0).at 5 _ rfl
 have l6P0 := (uh P0).at 6 _ rfl
 have ltP0 : w.heap.size < w3.heap.size := by omega
 simp only [ga, gb, gc] at l0P0 l1P0 l2P0 l3P0 l4P0 l5P0 l6P0
 go_wp2_with fail
 clear l0P0 l1P0 l2P0 l3P0 l4P0 l5P0 l6P0 ltP0
 refine (uh HS w3 _ ((uh HT).later (uh HB)) (uh Hc0).reads).mono ?_
 rintro e w4 ⟨cs, rfl, O, hb⟩
 replace HA0 := yh ((uh HA0).later hb)
 replace P0 := yh ((uh P0).aj hb)
 replace Hc0 := yh ((uh Hc0).later hb)
 have Zw4 : w3.heap.size ≤ w4.heap.size := hb.size
 replace HB := yh ((uh HB).trans (hb.mono (by omega)))
 clear hb
 obtain ⟨a5W, d5W, a6W, d6W, a7W, d7W, a8W, d8W, rfl, -⟩ := cr O
 have HW := yh O.dY
 clear O
 have nb : Below w4.heap.size w4 (w4.alloc (.cells #[.int .i64 y.code, .bool y.bL, .int .i64 y.world.now, .int .i64 y.world.events, .int .i64 y.world.chain.ae, .slice a5W y.world.chain.ids.length d5W, .slice a6W y.world.nodes.length d6W, .slice a7W y.world.msgs.length d7W, .slice a8W y.world.af.length d8W] 41)) := (Below.refl _ _).alloc (Nat.le_refl _) _
 have YW : Hid (ag w4.heap.size #[.int .i64 y.code, .bool y.bL, .int .i64 y.world.now, .int .i64 y.world.events, .int .i64 y.world.chain.ae, .slice a5W y.world.chain.ids.length d5W, .slice a6W y.world.nodes.length d6W, .slice a7W y.world.msgs.length d7W, .slice a8W y.world.af.length d8W] 41 (w4.alloc (.cells #[.int .i64 y.code, .bool y.bL, .int .i64 y.world.now, .int .i64 y.world.events, .int .i64 y.world.chain.ae, .slice a5W y.world.chain.ids.length d5W, .slice a6W y.world.nodes.length d6W, .slice a7W y.world.msgs.length d7W, .slice a8W y.world.af.length d8W] 41)) w4.heap.size) := aC (Nat.le_refl _)
 clear Hc0
 have l0P0 := (uh P0).at 0 _ rfl
 have l1P0 := (uh P0).at 1 _ rfl
 have l2P0 := (uh P0).at 2 _ rfl
 have l3P0 := (uh P0).at 3 _ rfl
 have l4P0 := (uh P0).at 4 _ rfl
 have l5P0 := (uh P0).at 5 _ rfl
 have l6P0 := (uh P0).at 6 _ rfl
 have ltP0 : w.heap.size < w4.heap.size := by omega
 simp only [ga, gb, gc] at l0P0 l1P0 l2P0 l3P0 l4P0 l5P0 l6P0
 go_wp2_with fail
 clear l0P0 l1P0 l2P0 l3P0 l4P0 l5P0 l6P0 ltP0
 generalize haw5 : w4.alloc (.cells #[.int .i64 y.code, .bool y.bL, .int .i64 y.world.now, .int .i64 y.world.events, .int .i64 y.world.chain.ae, .slice a5W y.world.chain.ids.length d5W, .slice a6W y.world.nodes.length d6W, .slice a7W y.world.msgs.length d7W, .slice a8W y.world.af.length d8W] 41) = w5 at *
 have Gw5 : w4.heap.size < w5.heap.size := by rw [← haw5]; simp
 clear haw5
 replace HA0 := yh ((uh HA0).later nb)
 replace P0 := yh ((uh P0).aj nb)
 replace HW := yh ((uh HW).later nb)
 have Zw5 : w4.heap.size ≤ w5.heap.size := nb.size
 replace HB := yh ((uh HB).trans (nb.mono (by omega)))
 clear nb
 refine (iv _ x0 w5 (uh HA0).reads (uh HN0)).mono ?_
 rintro e w6 ⟨vx0, rfl, O, hb⟩
 replace HA0 := yh ((uh HA0).later hb)
 replace P0 := yh ((uh P0).aj hb)
 replace HW := yh ((uh HW).later hb)
 replace YW := yh ((uh YW).aj hb)
 have Zw6 : w5.heap.size ≤ w6.heap.size := hb.size
 replace HB := yh ((uh HB).trans (hb.mono (by omega)))
 clear hb
 obtain ⟨a3x0, d3x0, a4x0, d4x0, a5x0, d5x0, a6x0, d6x0, rfl, -, -, -, -⟩ := aN O.reads
 have Hx0 := yh O
 clear O
 have nb : Below w6.heap.size w6 (w6.alloc (.cells #[.int .i64 x0.now, .int .i64 x0.events, .int .i64 x0.chain.ae, .slice a3x0 x0.chain.ids.length d3x0, .slice a4x0 x0.nodes.length d4x0, .slice a5x0 x0.msgs.length d5x0, .slice a6x0 x0.af.length d6x0] 39)) := (Below.refl _ _).alloc (Nat.le_refl _) _
 have X0 : Hid (ag w6.heap.size #[.int .i64 x0.now, .int .i64 x0.events, .int .i64 x0.chain.ae, .slice a3x0 x0.chain.ids.length d3x0, .slice a4x0 x0.nodes.length d4x0, .slice a5x0 x0.msgs.length d5x0, .slice a6x0 x0.af.length d6x0] 39 (w6.alloc (.cells #[.int .i64 x0.now, .int .i64 x0.events, .int .i64 x0.chain.ae, .slice a3x0 x0.chain.ids.length d3x0, .slice a4x0 x0.nodes.length d4x0, .slice a5x0 x0.msgs.length d5x0, .slice a6x0 x0.af.length d6x0] 39)) w6.heap.size) := aC (Nat.le_refl _)
 have l0P0 := (uh P0).at 0 _ rfl
 have l1P0 := (uh P0).at 1 _ rfl
 have l2P0 := (uh P0).at 2 _ rfl
 have l3P0 := (uh P0).at 3 _ rfl
 have l4P0 := (uh P0).at 4 _ rfl
 have l5P0 := (uh P0).at 5 _ rfl
 have l6P0 := (uh P0).at 6 _ rfl
 have ltP0 : w.heap.size < w6.heap.size := by omega
 have l0YW := (uh YW).at 0 _ rfl
 have l1YW := (uh YW).at 1 _ rfl
 have l2YW := (uh YW).at 2 _ rfl
 have l3YW := (uh YW).at 3 _ rfl
 have l4YW := (uh YW).at 4 _ rfl
 have l5YW := (uh YW).at 5 _ rfl
 have l6YW := (uh YW).at 6 _ rfl
 have l7YW := (uh YW).at 7 _ rfl
 have l8YW := (uh YW).at 8 _ rfl
 have ltYW : w4.heap.size < w6.heap.size := by omega
 simp only [ga, gb, gc] at l0P0 l1P0 l2P0 l3P0 l4P0 l5P0 l6P0 l0YW l1YW l2YW l3YW l4YW l5YW l6YW l7YW l8YW
 go_wp2_with fail
 clear l0P0 l1P0 l2P0 l3P0 l4P0 l5P0 l6P0 ltP0 l0YW l1YW l2YW l3YW l4YW l5YW l6YW l7YW l8YW ltYW
 generalize haw7 : w6.alloc (.cells #[.int .i64 x0.now, .int .i64 x0.events, .int .i64 x0.chain.ae, .slice a3x0 x0.chain.ids.length d3x0, .slice a4x0 x0.nodes.length d4x0, .slice a5x0 x0.msgs.length d5x0, .slice a6x0 x0.af.length d6x0] 39) = w7 at *
 have Gw7 : w6.heap.size < w7.heap.size := by rw [← haw7]; simp
 clear haw7
 replace HA0 := yh ((uh HA0).later nb)
 replace P0 := yh ((uh P0).aj nb)
 replace HW := yh ((uh HW).later nb)
 replace YW := yh ((uh YW).aj nb)
 replace Hx0 := yh ((uh Hx0).later nb)
 have Zw7 : w6.heap.size ≤ w7.heap.size := nb.size
 replace HB := yh ((uh HB).trans (nb.mono (by omega)))
 clear nb
 refine (uh HI w7 _ ((uh HT).later (uh HB)) (uh Hx0).reads).mono ?_
 rintro e w8 ⟨cs, rfl, O, hb⟩
 replace HA0 := yh ((uh HA0).later hb)
 replace P0 := yh ((uh P0).aj hb)
 replace HW := yh ((uh HW).later hb)
 replace YW := yh ((uh YW).aj hb)
 replace Hx0 := yh ((uh Hx0).later hb)
 replace X0 := yh ((uh X0).aj hb)
 have Zw8 : w7.heap.size ≤ w8.heap.size := hb.size
 replace HB := yh ((uh HB).trans (hb.mono (by omega)))
 clear hb
 obtain ⟨a5G, d5G, a6G, d6G, a7G, d7G, a8G, d8G, rfl, -⟩ := cr O.reads
 have HG := yh O
 clear O
 have nb : Below w8.heap.size w8 (w8.alloc (.cells #[.int .i64 y.code, .bool y.bL, .int .i64 y.world.now, .int .i64 y.world.events, .int .i64 y.world.chain.ae, .slice a5G y.world.chain.ids.length d5G, .slice a6G y.world.nodes.length d6G, .slice a7G y.world.msgs.length d7G, .slice a8G y.world.af.length d8G] 41)) := (Below.refl _ _).alloc (Nat.le_refl _) _
 have YG : Hid (ag w8.heap.size #[.int .i64 y.code, .bool y.bL, .int .i64 y.world.now, .int .i64 y.world.events, .int .i64 y.world.chain.ae, .slice a5G y.world.chain.ids.length d5G, .slice a6G y.world.nodes.length d6G, .slice a7G y.world.msgs.length d7G, .slice a8G y.world.af.length d8G] 41 (w8.alloc (.cells #[.int .i64 y.code, .bool y.bL, .int .i64 y.world.now, .int .i64 y.world.events, .int .i64 y.world.chain.ae, .slice a5G y.world.chain.ids.length d5G, .slice a6G y.world.nodes.length d6G, .slice a7G y.world.msgs.length d7G, .slice a8G y.world.af.length d8G] 41)) w8.heap.size) := aC (Nat.le_refl _)
 have l0P0 := (uh P0).at 0 _ rfl
 have l1P0 := (uh P0).at 1 _ rfl
 have l2P0 := (uh P0).at 2 _ rfl
 have l3P0 := (uh P0).at 3 _ rfl
 have l4P0 := (uh P0).at 4 _ rfl
 have l5P0 := (uh P0).at 5 _ rfl
 have l6P0 := (uh P0).at 6 _ rfl
 have ltP0 : w.heap.size < w8.heap.size := by omega
 have l0YW := (uh YW).at 0 _ rfl
 have l1YW := (uh YW).at 1 _ rfl
 have l2YW := (uh YW).at 2 _ rfl
 have l3YW := (uh YW).at 3 _ rfl
 have l4YW := (uh YW).at 4 _ rfl
 have l5YW := (uh YW).at 5 _ rfl
 have l6YW := (uh YW).at 6 _ rfl
 have l7YW := (uh YW).at 7 _ rfl
 have l8YW := (uh YW).at 8 _ rfl
 have ltYW : w4.heap.size < w8.heap.size := by omega
 have l0X0 := (uh X0).at 0 _ rfl
 have l1X0 := (uh X0).at 1 _ rfl
 have l2X0 := (uh X0).at 2 _ rfl
 have l3X0 := (uh X0).at 3 _ rfl
 have l4X0 := (uh X0).at 4 _ rfl
 have l5X0 := (uh X0).at 5 _ rfl
 have l6X0 := (uh X0).at 6 _ rfl
 have ltX0 : w6.heap.size < w8.heap.size := by omega
 simp only [ga, gb, gc] at l0P0 l1P0 l2P0 l3P0 l4P0 l5P0 l6P0 l0YW l1YW l2YW l3YW l4YW l5YW l6YW l7YW l8YW l0X0 l1X0 l2X0 l3X0 l4X0 l5X0 l6X0
 go_wp2_with fail
 clear l0P0 l1P0 l2P0 l3P0 l4P0 l5P0 l6P0 ltP0 l0YW l1YW l2YW l3YW l4YW l5YW l6YW l7YW l8YW ltYW l0X0 l1X0 l2X0 l3X0 l4X0 l5X0 l6X0 ltX0
 generalize haw9 : w8.alloc (.cells #[.int .i64 y.code, .bool y.bL, .int .i64 y.world.now, .int .i64 y.world.events, .int .i64 y.world.chain.ae, .slice a5G y.world.chain.ids.length d5G, .slice a6G y.world.nodes.length d6G, .slice a7G y.world.msgs.length d7G, .slice a8G y.world.af.length d8G] 41) = w9 at *
 have Gw9 : w8.heap.size < w9.heap.size := by rw [← haw9]; simp
 clear haw9
 replace HA0 := yh ((uh HA0).later nb)
 replace P0 := yh ((uh P0).aj nb)
 replace HW := yh ((uh HW).later nb)
 replace YW := yh ((uh YW).aj nb)
 replace Hx0 := yh ((uh Hx0).later nb)
 replace X0 := yh ((uh X0).aj nb)
 replace HG := yh ((uh HG).later nb)
 have Zw9 : w8.heap.size ≤ w9.heap.size := nb.size
 replace HB := yh ((uh HB).trans (nb.mono (by omega)))
 clear nb
 refine (eZ _ _ y w9 (uh HG).reads (uh HW).reads).mono ?_
 rintro e w10 ⟨rfl, hb⟩
 replace HA0 := yh ((uh HA0).later hb)
 replace P0 := yh ((uh P0).aj hb)
 replace HW := yh ((uh HW).later hb)
 replace YW := yh ((uh YW).aj hb)
 replace Hx0 := yh ((uh Hx0).later hb)
 replace X0 := yh ((uh X0).aj hb)
 replace HG := yh ((uh HG).later hb)
 replace YG := yh ((uh YG).aj hb)
 have Zw10 : w9.heap.size ≤ w10.heap.size := hb.size
 replace HB := yh ((uh HB).trans (hb.mono (by omega)))
 clear hb
 have l0P0 := (uh P0).at 0 _ rfl
 have l1P0 := (uh P0).at 1 _ rfl
 have l2P0 := (uh P0).at 2 _ rfl
 have l3P0 := (uh P0).at 3 _ rfl
 have l4P0 := (uh P0).at 4 _ rfl
 have l5P0 := (uh P0).at 5 _ rfl
 have l6P0 := (uh P0).at 6 _ rfl
 have ltP0 : w.heap.size < w10.heap.size := by omega
 have l0YW := (uh YW).at 0 _ rfl
 have l1YW := (uh YW).at 1 _ rfl
 have l2YW := (uh YW).at 2 _ rfl
 have l3YW := (uh YW).at 3 _ rfl
 have l4YW := (uh YW).at 4 _ rfl
 have l5YW := (uh YW).at 5 _ rfl
 have l6YW := (uh YW).at 6 _ rfl
 have l7YW := (uh YW).at 7 _ rfl
 have l8YW := (uh YW).at 8 _ rfl
 have ltYW : w4.heap.size < w10.heap.size := by omega
 have l0X0 := (uh X0).at 0 _ rfl
 have l1X0 := (uh X0).at 1 _ rfl
 have l2X0 := (uh X0).at 2 _ rfl
 have l3X0 := (uh X0).at 3 _ rfl
 have l4X0 := (uh X0).at 4 _ rfl
 have l5X0 := (uh X0).at 5 _ rfl
 have l6X0 := (uh X0).at 6 _ rfl
 have ltX0 : w6.heap.size < w10.heap.size := by omega
 have l0YG := (uh YG).at 0 _ rfl
 have l1YG := (uh YG).at 1 _ rfl
 have l2YG := (uh YG).at 2 _ rfl
 have l3YG := (uh YG).at 3 _ rfl
 have l4YG := (uh YG).at 4 _ rfl
 have l5YG := (uh YG).at 5 _ rfl
 have l6YG := (uh YG).at 6 _ rfl
 have l7YG := (uh YG).at 7 _ rfl
 have l8YG := (uh YG).at 8 _ rfl
 have ltYG : w8.heap.size < w10.heap.size := by omega
 simp only [ga, gb, gc] at l0P0 l1P0 l2P0 l3P0 l4P0 l5P0 l6P0 l0YW l1YW l2YW l3YW l4YW l5YW l6YW l7YW l8YW l0X0 l1X0 l2X0 l3X0 l4X0 l5X0 l6X0 l0YG l1YG l2YG l3YG l4YG l5YG l6YG l7YG l8YG
 go_wp2_with fail
 clear l0P0 l1P0 l2P0 l3P0 l4P0 l5P0 l6P0 ltP0 l0YW l1YW l2YW l3YW l4YW l5YW l6YW l7YW l8YW ltYW l0X0 l1X0 l2X0 l3X0 l4X0 l5X0 l6X0 ltX0 l0YG l1YG l2YG l3YG l4YG l5YG l6YG l7YG l8YG ltYG
 have l0P0 := (uh P0).at 0 _ rfl
 have l1P0 := (uh P0).at 1 _ rfl
 have l2P0 := (uh P0).at 2 _ rfl
 have l3P0 := (uh P0).at 3 _ rfl
 have l4P0 := (uh P0).at 4 _ rfl
 have l5P0 := (uh P0).at 5 _ rfl
 have l6P0 := (uh P0).at 6 _ rfl
 have ltP0 : w.heap.size < w10.heap.size := by omega
 have l0X0 := (uh X0).at 0 _ rfl
 have l1X0 := (uh X0).at 1 _ rfl
 have l2X0 := (uh X0).at 2 _ rfl
 have l3X0 := (uh X0).at 3 _ rfl
 have l4X0 := (uh X0).at 4 _ rfl
 have l5X0 := (uh X0).at 5 _ rfl
 have l6X0 := (uh X0).at 6 _ rfl
 have ltX0 : w6.heap.size < w10.heap.size := by omega
 simp only [ga, gb, gc] at l0P0 l1P0 l2P0 l3P0 l4P0 l5P0 l6P0 l0X0 l1X0 l2X0 l3X0 l4X0 l5X0 l6X0
 refine wZz (fun w' => Below w10.heap.size w10 w') (Below.refl _ _).drew (fun zq => ?_)
 generalize w10.drew = wD at zq ⊢
 refine tkJ 0 (v := ?vs00) ?hs00 zq ?rs00
 case hs00 =>
  intro wS hSw
  have y0P0 := cZ hSw ltP0 l0P0
  have y1P0 := cZ hSw ltP0 l1P0
  have y2P0 := cZ hSw ltP0 l2P0
  have y3P0 := cZ hSw ltP0 l3P0
  have y4P0 := cZ hSw ltP0 l4P0
  have y5P0 := cZ hSw ltP0 l5P0
  have y6P0 := cZ hSw ltP0 l6P0
  have y0X0 := cZ hSw ltX0 l0X0
  have y1X0 := cZ hSw ltX0 l1X0
  have y2X0 := cZ hSw ltX0 l2X0
  have y3X0 := cZ hSw ltX0 l3X0
  have y4X0 := cZ hSw ltX0 l4X0
  have y5X0 := cZ hSw ltX0 l5X0
  have y6X0 := cZ hSw ltX0 l6X0
  clear hSw
  exact fZ
 refine tkJ 1 (v := ?vs01) ?hs01 zq ?rs01
 case hs01 =>
  intro wS hSw
  have y0P0 := cZ hSw ltP0 l0P0
  have y1P0 := cZ hSw ltP0 l1P0
  have y2P0 := cZ hSw ltP0 l2P0
  have y3P0 := cZ hSw ltP0 l3P0
  have y4P0 := cZ hSw ltP0 l4P0
  have y5P0 := cZ hSw ltP0 l5P0
  have y6P0 := cZ hSw ltP0 l6P0
  have y0X0 := cZ hSw ltX0 l0X0
  have y1X0 := cZ hSw ltX0 l1X0
  have y2X0 := cZ hSw ltX0 l2X0
  have y3X0 := cZ hSw ltX0 l3X0
  have y4X0 := cZ hSw ltX0 l4X0
  have y5X0 := cZ hSw ltX0 l5X0
  have y6X0 := cZ hSw ltX0 l6X0
  clear hSw
  exact fZ
 refine rdH 2 (fun K hK => ?_)
 go_simp
 go_at_call 10
 refine (iv _ x0 _ ((uh HA0).reads.later zq) (uh HN0)).mono ?_
 rintro e wT ⟨vT, rfl, OT, hbw⟩
 have RT := OT.reads
 obtain ⟨a3T, d3T, a4T, d4T, a5T, d5T, a6T, d6T, rfl, -, -, -, -⟩ := aN RT
 try go_wp2_with fail
 refine hK.out _ _ (zq.trans (hbw.mono zq.size)) (fun zq => ?_)
 clear hK K
 try simp only [Act.put, pz, py, px]
 refine rdH 3 (fun K hK => ?_)
 go_simp
 go_at_call 14
 refine (oQ _ _ x0 _ ((uh Hx0).reads.later zq) RT).mono ?_
 rintro e wU0 ⟨rfl, hbw⟩
 try go_wp2_with fail
 refine hK.out _ _ (zq.trans (hbw.mono zq.size)) (fun zq => ?_)
 clear hK K
 try simp only [Act.put, pz, py, px]
 refine tkH 4 zq ?_
 refine dZ ?_
 clear l0P0 l1P0 l2P0 l3P0 l4P0 l5P0 l6P0 ltP0 l0X0 l1X0 l2X0 l3X0 l4X0 l5X0 l6X0 ltX0 OT RT
 have hb : Below w10.heap.size w10 wU0 := zq
 clear zq hbw
 replace HA0 := yh ((uh HA0).later hb)
 replace P0 := yh ((uh P0).aj hb)
 replace HW := yh ((uh HW).later hb)
 replace YW := yh ((uh YW).aj hb)
 replace Hx0 := yh ((uh Hx0).later hb)
 replace X0 := yh ((uh X0).aj hb)
 replace HG := yh ((uh HG).later hb)
 replace YG := yh ((uh YG).aj hb)
 have ZwU0 : w10.heap.size ≤ wU0.heap.size := hb.size
 replace HB := yh ((uh HB).trans (hb.mono (by omega)))
 clear hb
 have l0P0 := (uh P0).at 0 _ rfl
 have l1P0 := (uh P0).at 1 _ rfl
 have l2P0 := (uh P0).at 2 _ rfl
 have l3P0 := (uh P0).at 3 _ rfl
 have l4P0 := (uh P0).at 4 _ rfl
 have l5P0 := (uh P0).at 5 _ rfl
 have l6P0 := (uh P0).at 6 _ rfl
 have ltP0 : w.heap.size < wU0.heap.size := by omega
 have l0YW := (uh YW).at 0 _ rfl
 have l1YW := (uh YW).at 1 _ rfl
 have l2YW := (uh YW).at 2 _ rfl
 have l3YW := (uh YW).at 3 _ rfl
 have l4YW := (uh YW).at 4 _ rfl
 have l5YW := (uh YW).at 5 _ rfl
 have l6YW := (uh YW).at 6 _ rfl
 have l7YW := (uh YW).at 7 _ rfl
 have l8YW := (uh YW).at 8 _ rfl
 have ltYW : w4.heap.size < wU0.heap.size := by omega
 have l0X0 := (uh X0).at 0 _ rfl
 have l1X0 := (uh X0).at 1 _ rfl
 have l2X0 := (uh X0).at 2 _ rfl
 have l3X0 := (uh X0).at 3 _ rfl
 have l4X0 := (uh X0).at 4 _ rfl
 have l5X0 := (uh X0).at 5 _ rfl
 have l6X0 := (uh X0).at 6 _ rfl
 have ltX0 : w6.heap.size < wU0.heap.size := by omega
 have l0YG := (uh YG).at 0 _ rfl
 have l1YG := (uh YG).at 1 _ rfl
 have l2YG := (uh YG).at 2 _ rfl
 have l3YG := (uh YG).at 3 _ rfl
 have l4YG := (uh YG).at 4 _ rfl
 have l5YG := (uh YG).at 5 _ rfl
 have l6YG := (uh YG).at 6 _ rfl
 have l7YG := (uh YG).at 7 _ rfl
 have l8YG := (uh YG).at 8 _ rfl
 have ltYG : w8.heap.size < wU0.heap.size := by omega
 simp only [ga, gb, gc] at l0P0 l1P0 l2P0 l3P0 l4P0 l5P0 l6P0 l0YW l1YW l2YW l3YW l4YW l5YW l6YW l7YW l8YW l0X0 l1X0 l2X0 l3X0 l4X0 l5X0 l6X0 l0YG l1YG l2YG l3YG l4YG l5YG l6YG l7YG l8YG
 go_wp2_with fail
 clear l0P0 l1P0 l2P0 l3P0 l4P0 l5P0 l6P0 ltP0 l0YW l1YW l2YW l3YW l4YW l5YW l6YW l7YW l8YW ltYW l0X0 l1X0 l2X0 l3X0 l4X0 l5X0 l6X0 ltX0 l0YG l1YG l2YG l3YG l4YG l5YG l6YG l7YG l8YG ltYG
 obtain ⟨bl, O, hbl⟩ := uh Hx0
 clear Hx0
 have HCx0 := rY (A := ab.aH) (fx (bq bQ (bq bQ (bq (fx (bq bQ (fE bQ))) (bq (fE (fx (bq bQ (bq tn (bq bQ (bq bQ (bq (fE (fx (bq bQ (bq bQ (bq (fE bQ) (bq bQ bQ)))))) (bq bQ bQ)))))))) (bq (fE (fx (bq bQ (bq bQ (bq bQ (bq bQ (bq bQ (fx (bq bQ (bq bQ (bq (fE bQ) (bq bQ bQ)))))))))))) (fE (fx (bq bQ (bq bQ (bq bQ (bq bQ (bq (fE bQ) (bq bQ (bq bQ (bq bQ (bq bQ (bq (fE bQ) (fE (fx (bq bQ bQ))))))))))))))))))))) (uh HN0) (by omega)
 refine (j8 _ x0 bl (1) wU0 O (by omega) (by omega)).mono ?_
 rintro e w12 ⟨rfl, -, E⟩
 replace E := E.mono (S' := within w5.heap.size w6.heap.size) fun b _ hb => hbl b hb
 clear hbl O
 have zlo : w.heap.size ≤ w5.heap.size ∧ w6.heap.size ≤ wU0.heap.size := by omega
 replace HA0 := yh ((uh HA0).ext E (fo (by omega)))
 replace P0 := yh ((uh P0).ext E (fun q => by simp only [within] at q; omega))
 replace HW := yh ((uh HW).ext E (fo (by omega)))
 replace YW := yh ((uh YW).ext E (fun q => by simp only [within] at q; omega))
 replace X0 := yh ((uh X0).ext E (fun q => by simp only [within] at q; omega))
 replace HG := yh ((uh HG).ext E (fo (by omega)))
 replace YG := yh ((uh YG).ext E (fun q => by simp only [within] at q; omega))
 have Zw12 : wU0.heap.size ≤ w12.heap.size := E.size
 replace HB := yh ((uh HB).trans (E.below (by omega) (fun k h q => by simp only [within] at q; omega)))
 clear E
 clear zlo
 obtain ⟨mk, hmk⟩ : ∃ mk : Int, mk = 1 + (ab.aH.al x0 : Int) := ⟨_, rfl⟩
 rw [← hmk]
 have hm3 : decide (mk < 0) = false := decide_eq_false (by omega)
 clear hmk HCx0
 have l0P0 := (uh P0).at 0 _ rfl
 have l1P0 := (uh P0).at 1 _ rfl
 have l2P0 := (uh P0).at 2 _ rfl
 have l3P0 := (uh P0).at 3 _ rfl
 have l4P0 := (uh P0).at 4 _ rfl
 have l5P0 := (uh P0).at 5 _ rfl
 have l6P0 := (uh P0).at 6 _ rfl
 have ltP0 : w.heap.size < w12.heap.size := by omega
 have l0YW := (uh YW).at 0 _ rfl
 have l1YW := (uh YW).at 1 _ rfl
 have l2YW := (uh YW).at 2 _ rfl
 have l3YW := (uh YW).at 3 _ rfl
 have l4YW := (uh YW).at 4 _ rfl
 have l5YW := (uh YW).at 5 _ rfl
 have l6YW := (uh YW).at 6 _ rfl
 have l7YW := (uh YW).at 7 _ rfl
 have l8YW := (uh YW).at 8 _ rfl
 have ltYW : w4.heap.size < w12.heap.size := by omega
 have l0X0 := (uh X0).at 0 _ rfl
 have l1X0 := (uh X0).at 1 _ rfl
 have l2X0 := (uh X0).at 2 _ rfl
 have l3X0 := (uh X0).at 3 _ rfl
 have l4X0 := (uh X0).at 4 _ rfl
 have l5X0 := (uh X0).at 5 _ rfl
 have l6X0 := (uh X0).at 6 _ rfl
 have ltX0 : w6.heap.size < w12.heap.size := by omega
 have l0YG := (uh YG).at 0 _ rfl
 have l1YG := (uh YG).at 1 _ rfl
 have l2YG := (uh YG).at 2 _ rfl
 have l3YG := (uh YG).at 3 _ rfl
 have l4YG := (uh YG).at 4 _ rfl
 have l5YG := (uh YG).at 5 _ rfl
 have l6YG := (uh YG).at 6 _ rfl
 have l7YG := (uh YG).at 7 _ rfl
 have l8YG := (uh YG).at 8 _ rfl
 have ltYG : w8.heap.size < w12.heap.size := by omega
 simp only [ga, gb, gc] at l0P0 l1P0 l2P0 l3P0 l4P0 l5P0 l6P0 l0YW l1YW l2YW l3YW l4YW l5YW l6YW l7YW l8YW l0X0 l1X0 l2X0 l3X0 l4X0 l5X0 l6X0 l0YG l1YG l2YG l3YG l4YG l5YG l6YG l7YG l8YG
 go_wp2_with fail
 clear l0P0 l1P0 l2P0 l3P0 l4P0 l5P0 l6P0 ltP0 l0YW l1YW l2YW l3YW l4YW l5YW l6YW l7YW l8YW ltYW l0X0 l1X0 l2X0 l3X0 l4X0 l5X0 l6X0 ltX0 l0YG l1YG l2YG l3YG l4YG l5YG l6YG l7YG l8YG ltYG
 refine (eZ _ _ y w12 (uh HG).reads (uh HW).reads).mono ?_
 rintro e w13 ⟨rfl, hb⟩
 replace HA0 := yh ((uh HA0).later hb)
 replace P0 := yh ((uh P0).aj hb)
 replace HW := yh ((uh HW).later hb)
 replace YW := yh ((uh YW).aj hb)
 replace X0 := yh ((uh X0).aj hb)
 replace HG := yh ((uh HG).later hb)
 replace YG := yh ((uh YG).aj hb)
 have Zw13 : w12.heap.size ≤ w13.heap.size := hb.size
 replace HB := yh ((uh HB).trans (hb.mono (by omega)))
 clear hb
 clear hm3
 have l0P0 := (uh P0).at 0 _ rfl
 have l1P0 := (uh P0).at 1 _ rfl
 have l2P0 := (uh P0).at 2 _ rfl
 have l3P0 := (uh P0).at 3 _ rfl
 have l4P0 := (uh P0).at 4 _ rfl
 have l5P0 := (uh P0).at 5 _ rfl
 have l6P0 := (uh P0).at 6 _ rfl
 have ltP0 : w.heap.size < w13.heap.size := by omega
 have l0YW := (uh YW).at 0 _ rfl
 have l1YW := (uh YW).at 1 _ rfl
 have l2YW := (uh YW).at 2 _ rfl
 have l3YW := (uh YW).at 3 _ rfl
 have l4YW := (uh YW).at 4 _ rfl
 have l5YW := (uh YW).at 5 _ rfl
 have l6YW := (uh YW).at 6 _ rfl
 have l7YW := (uh YW).at 7 _ rfl
 have l8YW := (uh YW).at 8 _ rfl
 have ltYW : w4.heap.size < w13.heap.size := by omega
 have l0X0 := (uh X0).at 0 _ rfl
 have l1X0 := (uh X0).at 1 _ rfl
 have l2X0 := (uh X0).at 2 _ rfl
 have l3X0 := (uh X0).at 3 _ rfl
 have l4X0 := (uh X0).at 4 _ rfl
 have l5X0 := (uh X0).at 5 _ rfl
 have l6X0 := (uh X0).at 6 _ rfl
 have ltX0 : w6.heap.size < w13.heap.size := by omega
 have l0YG := (uh YG).at 0 _ rfl
 have l1YG := (uh YG).at 1 _ rfl
 have l2YG := (uh YG).at 2 _ rfl
 have l3YG := (uh YG).at 3 _ rfl
 have l4YG := (uh YG).at 4 _ rfl
 have l5YG := (uh YG).at 5 _ rfl
 have l6YG := (uh YG).at 6 _ rfl
 have l7YG := (uh YG).at 7 _ rfl
 have l8YG := (uh YG).at 8 _ rfl
 have ltYG : w8.heap.size < w13.heap.size := by omega
 simp only [ga, gb, gc] at l0P0 l1P0 l2P0 l3P0 l4P0 l5P0 l6P0 l0YW l1YW l2YW l3YW l4YW l5YW l6YW l7YW l8YW l0X0 l1X0 l2X0 l3X0 l4X0 l5X0 l6X0 l0YG l1YG l2YG l3YG l4YG l5YG l6YG l7YG l8YG
 go_wp2_with fail
 clear l0P0 l1P0 l2P0 l3P0 l4P0 l5P0 l6P0 ltP0 l0YW l1YW l2YW l3YW l4YW l5YW l6YW l7YW l8YW ltYW l0X0 l1X0 l2X0 l3X0 l4X0 l5X0 l6X0 ltX0 l0YG l1YG l2YG l3YG l4YG l5YG l6YG l7YG l8YG ltYG
 obtain ⟨bl, O, hbl⟩ := uh HG
 clear HG
 have hcy := uh HC
 refine (jf _ y bl 1 w13 O (by omega) (by omega)).mono ?_
 rintro e w14 ⟨rfl, O2, E⟩
 replace E := E.mono (S' := within w7.heap.size w8.heap.size) fun b _ hb => hbl b hb
 have HG : Hid (ab.aD.aL w14 _ (ab.aD.cQ 1 y) w7.heap.size w8.heap.size) := ⟨bl, O2, hbl⟩
 clear hbl O O2
 have zlo : w.heap.size ≤ w7.heap.size ∧ w8.heap.size ≤ w13.heap.size := by omega
 replace HA0 := yh ((uh HA0).ext E (fo (by omega)))
 replace P0 := yh ((uh P0).ext E (fun q => by simp only [within] at q; omega))
 replace HW := yh ((uh HW).ext E (fo (by omega)))
 replace YW := yh ((uh YW).ext E (fun q => by simp only [within] at q; omega))
 replace X0 := yh ((uh X0).ext E (fun q => by simp only [within] at q; omega))
 replace YG := yh ((uh YG).ext E (fun q => by simp only [within] at q; omega))
 have Zw14 : w13.heap.size ≤ w14.heap.size := E.size
 replace HB := yh ((uh HB).trans (E.below (by omega) (fun k h q => by simp only [within] at q; omega)))
 clear E
 clear zlo
 have hq0 : decide (1 + (ab.aD.al y : Int) < 0) = false := decide_eq_false (by omega)
 have hq1 : ((1 + (ab.aD.al y : Int)) != (1 + (ab.aD.al y : Int))) = false := by simp
 clear hcy
 have l0P0 := (uh P0).at 0 _ rfl
 have l1P0 := (uh P0).at 1 _ rfl
 have l2P0 := (uh P0).at 2 _ rfl
 have l3P0 := (uh P0).at 3 _ rfl
 have l4P0 := (uh P0).at 4 _ rfl
 have l5P0 := (uh P0).at 5 _ rfl
 have l6P0 := (uh P0).at 6 _ rfl
 have ltP0 : w.heap.size < w14.heap.size := by omega
 have l0YW := (uh YW).at 0 _ rfl
 have l1YW := (uh YW).at 1 _ rfl
 have l2YW := (uh YW).at 2 _ rfl
 have l3YW := (uh YW).at 3 _ rfl
 have l4YW := (uh YW).at 4 _ rfl
 have l5YW := (uh YW).at 5 _ rfl
 have l6YW := (uh YW).at 6 _ rfl
 have l7YW := (uh YW).at 7 _ rfl
 have l8YW := (uh YW).at 8 _ rfl
 have ltYW : w4.heap.size < w14.heap.size := by omega
 have l0X0 := (uh X0).at 0 _ rfl
 have l1X0 := (uh X0).at 1 _ rfl
 have l2X0 := (uh X0).at 2 _ rfl
 have l3X0 := (uh X0).at 3 _ rfl
 have l4X0 := (uh X0).at 4 _ rfl
 have l5X0 := (uh X0).at 5 _ rfl
 have l6X0 := (uh X0).at 6 _ rfl
 have ltX0 : w6.heap.size < w14.heap.size := by omega
 have l0YG := (uh YG).at 0 _ rfl
 have l1YG := (uh YG).at 1 _ rfl
 have l2YG := (uh YG).at 2 _ rfl
 have l3YG := (uh YG).at 3 _ rfl
 have l4YG := (uh YG).at 4 _ rfl
 have l5YG := (uh YG).at 5 _ rfl
 have l6YG := (uh YG).at 6 _ rfl
 have l7YG := (uh YG).at 7 _ rfl
 have l8YG := (uh YG).at 8 _ rfl
 have ltYG : w8.heap.size < w14.heap.size := by omega
 simp only [ga, gb, gc] at l0P0 l1P0 l2P0 l3P0 l4P0 l5P0 l6P0 l0YW l1YW l2YW l3YW l4YW l5YW l6YW l7YW l8YW l0X0 l1X0 l2X0 l3X0 l4X0 l5X0 l6X0 l0YG l1YG l2YG l3YG l4YG l5YG l6YG l7YG l8YG
 go_wp2_with fail
 clear l0P0 l1P0 l2P0 l3P0 l4P0 l5P0 l6P0 ltP0 l0YW l1YW l2YW l3YW l4YW l5YW l6YW l7YW l8YW ltYW l0X0 l1X0 l2X0 l3X0 l4X0 l5X0 l6X0 ltX0 l0YG l1YG l2YG l3YG l4YG l5YG l6YG l7YG l8YG ltYG
 refine (fG _ y 1 w14 (uh HG).reads (by omega) (by have := uh HC; omega)).mono ?_
 rintro e w15 ⟨rfl, hb⟩
 replace HA0 := yh ((uh HA0).later hb)
 replace P0 := yh ((uh P0).aj hb)
 replace HW := yh ((uh HW).later hb)
 replace YW := yh ((uh YW).aj hb)
 replace X0 := yh ((uh X0).aj hb)
 replace YG := yh ((uh YG).aj hb)
 replace HG := yh ((uh HG).later hb)
 have Zw15 : w14.heap.size ≤ w15.heap.size := hb.size
 replace HB := yh ((uh HB).trans (hb.mono (by omega)))
 clear hb
 have l0P0 := (uh P0).at 0 _ rfl
 have l1P0 := (uh P0).at 1 _ rfl
 have l2P0 := (uh P0).at 2 _ rfl
 have l3P0 := (uh P0).at 3 _ rfl
 have l4P0 := (uh P0).at 4 _ rfl
 have l5P0 := (uh P0).at 5 _ rfl
 have l6P0 := (uh P0).at 6 _ rfl
 have ltP0 : w.heap.size < w15.heap.size := by omega
 have l0YW := (uh YW).at 0 _ rfl
 have l1YW := (uh YW).at 1 _ rfl
 have l2YW := (uh YW).at 2 _ rfl
 have l3YW := (uh YW).at 3 _ rfl
 have l4YW := (uh YW).at 4 _ rfl
 have l5YW := (uh YW).at 5 _ rfl
 have l6YW := (uh YW).at 6 _ rfl
 have l7YW := (uh YW).at 7 _ rfl
 have l8YW := (uh YW).at 8 _ rfl
 have ltYW : w4.heap.size < w15.heap.size := by omega
 have l0X0 := (uh X0).at 0 _ rfl
 have l1X0 := (uh X0).at 1 _ rfl
 have l2X0 := (uh X0).at 2 _ rfl
 have l3X0 := (uh X0).at 3 _ rfl
 have l4X0 := (uh X0).at 4 _ rfl
 have l5X0 := (uh X0).at 5 _ rfl
 have l6X0 := (uh X0).at 6 _ rfl
 have ltX0 : w6.heap.size < w15.heap.size := by omega
 have l0YG := (uh YG).at 0 _ rfl
 have l1YG := (uh YG).at 1 _ rfl
 have l2YG := (uh YG).at 2 _ rfl
 have l3YG := (uh YG).at 3 _ rfl
 have l4YG := (uh YG).at 4 _ rfl
 have l5YG := (uh YG).at 5 _ rfl
 have l6YG := (uh YG).at 6 _ rfl
 have l7YG := (uh YG).at 7 _ rfl
 have l8YG := (uh YG).at 8 _ rfl
 have ltYG : w8.heap.size < w15.heap.size := by omega
 simp only [ga, gb, gc] at l0P0 l1P0 l2P0 l3P0 l4P0 l5P0 l6P0 l0YW l1YW l2YW l3YW l4YW l5YW l6YW l7YW l8YW l0X0 l1X0 l2X0 l3X0 l4X0 l5X0 l6X0 l0YG l1YG l2YG l3YG l4YG l5YG l6YG l7YG l8YG
 go_wp2_with fail
 clear l0P0 l1P0 l2P0 l3P0 l4P0 l5P0 l6P0 ltP0 l0YW l1YW l2YW l3YW l4YW l5YW l6YW l7YW l8YW ltYW l0X0 l1X0 l2X0 l3X0 l4X0 l5X0 l6X0 ltX0 l0YG l1YG l2YG l3YG l4YG l5YG l6YG l7YG l8YG ltYG
 refine (iv _ x0 w15 (uh HA0).reads (uh HN0)).mono ?_
 rintro e w16 ⟨vf0, rfl, O, hb⟩
 replace HA0 := yh ((uh HA0).later hb)
 replace P0 := yh ((uh P0).aj hb)
 replace HW := yh ((uh HW).later hb)
 replace YW := yh ((uh YW).aj hb)
 replace X0 := yh ((uh X0).aj hb)
 replace YG := yh ((uh YG).aj hb)
 replace HG := yh ((uh HG).later hb)
 have Zw16 : w15.heap.size ≤ w16.heap.size := hb.size
 replace HB := yh ((uh HB).trans (hb.mono (by omega)))
 clear hb
 obtain ⟨a3f0, d3f0, a4f0, d4f0, a5f0, d5f0, a6f0, d6f0, rfl, -, -, -, -⟩ := aN O.reads
 have Hf0 := yh O
 clear O
 have l0P0 := (uh P0).at 0 _ rfl
 have l1P0 := (uh P0).at 1 _ rfl
 have l2P0 := (uh P0).at 2 _ rfl
 have l3P0 := (uh P0).at 3 _ rfl
 have l4P0 := (uh P0).at 4 _ rfl
 have l5P0 := (uh P0).at 5 _ rfl
 have l6P0 := (uh P0).at 6 _ rfl
 have ltP0 : w.heap.size < w16.heap.size := by omega
 have l0YW := (uh YW).at 0 _ rfl
 have l1YW := (uh YW).at 1 _ rfl
 have l2YW := (uh YW).at 2 _ rfl
 have l3YW := (uh YW).at 3 _ rfl
 have l4YW := (uh YW).at 4 _ rfl
 have l5YW := (uh YW).at 5 _ rfl
 have l6YW := (uh YW).at 6 _ rfl
 have l7YW := (uh YW).at 7 _ rfl
 have l8YW := (uh YW).at 8 _ rfl
 have ltYW : w4.heap.size < w16.heap.size := by omega
 have l0X0 := (uh X0).at 0 _ rfl
 have l1X0 := (uh X0).at 1 _ rfl
 have l2X0 := (uh X0).at 2 _ rfl
 have l3X0 := (uh X0).at 3 _ rfl
 have l4X0 := (uh X0).at 4 _ rfl
 have l5X0 := (uh X0).at 5 _ rfl
 have l6X0 := (uh X0).at 6 _ rfl
 have ltX0 : w6.heap.size < w16.heap.size := by omega
 have l0YG := (uh YG).at 0 _ rfl
 have l1YG := (uh YG).at 1 _ rfl
 have l2YG := (uh YG).at 2 _ rfl
 have l3YG := (uh YG).at 3 _ rfl
 have l4YG := (uh YG).at 4 _ rfl
 have l5YG := (uh YG).at 5 _ rfl
 have l6YG := (uh YG).at 6 _ rfl
 have l7YG := (uh YG).at 7 _ rfl
 have l8YG := (uh YG).at 8 _ rfl
 have ltYG : w8.heap.size < w16.heap.size := by omega
 simp only [ga, gb, gc] at l0P0 l1P0 l2P0 l3P0 l4P0 l5P0 l6P0 l0YW l1YW l2YW l3YW l4YW l5YW l6YW l7YW l8YW l0X0 l1X0 l2X0 l3X0 l4X0 l5X0 l6X0 l0YG l1YG l2YG l3YG l4YG l5YG l6YG l7YG l8YG
 go_wp2_with fail
 clear l0P0 l1P0 l2P0 l3P0 l4P0 l5P0 l6P0 ltP0 l0YW l1YW l2YW l3YW l4YW l5YW l6YW l7YW l8YW ltYW l0X0 l1X0 l2X0 l3X0 l4X0 l5X0 l6X0 ltX0 l0YG l1YG l2YG l3YG l4YG l5YG l6YG l7YG l8YG ltYG
 refine (uh HI w16 _ ((uh HT).later (uh HB)) (uh Hf0).reads).mono ?_
 rintro e w17 ⟨cs, rfl, O, hb⟩
 replace HA0 := yh ((uh HA0).later hb)
 replace P0 := yh ((uh P0).aj hb)
 replace HW := yh ((uh HW).later hb)
 replace YW := yh ((uh YW).aj hb)
 replace X0 := yh ((uh X0).aj hb)
 replace YG := yh ((uh YG).aj hb)
 replace HG := yh ((uh HG).later hb)
 replace Hf0 := yh ((uh Hf0).later hb)
 have Zw17 : w16.heap.size ≤ w17.heap.size := hb.size
 replace HB := yh ((uh HB).trans (hb.mono (by omega)))
 clear hb
 obtain ⟨a5K, d5K, a6K, d6K, a7K, d7K, a8K, d8K, rfl, -⟩ := cr O.reads
 have HK := yh O
 clear O
 have nb : Below w17.heap.size w17 (w17.alloc (.cells #[.int .i64 y.code, .bool y.bL, .int .i64 y.world.now, .int .i64 y.world.events, .int .i64 y.world.chain.ae, .slice a5K y.world.chain.ids.length d5K, .slice a6K y.world.nodes.length d6K, .slice a7K y.world.msgs.length d7K, .slice a8K y.world.af.length d8K] 41)) := (Below.refl _ _).alloc (Nat.le_refl _) _
 have YK : Hid (ag w17.heap.size #[.int .i64 y.code, .bool y.bL, .int .i64 y.world.now, .int .i64 y.world.events, .int .i64 y.world.chain.ae, .slice a5K y.world.chain.ids.length d5K, .slice a6K y.world.nodes.length d6K, .slice a7K y.world.msgs.length d7K, .slice a8K y.world.af.length d8K] 41 (w17.alloc (.cells #[.int .i64 y.code, .bool y.bL, .int .i64 y.world.now, .int .i64 y.world.events, .int .i64 y.world.chain.ae, .slice a5K y.world.chain.ids.length d5K, .slice a6K y.world.nodes.length d6K, .slice a7K y.world.msgs.length d7K, .slice a8K y.world.af.length d8K] 41)) w17.heap.size) := aC (Nat.le_refl _)
 clear Hf0
 have l0P0 := (uh P0).at 0 _ rfl
 have l1P0 := (uh P0).at 1 _ rfl
 have l2P0 := (uh P0).at 2 _ rfl
 have l3P0 := (uh P0).at 3 _ rfl
 have l4P0 := (uh P0).at 4 _ rfl
 have l5P0 := (uh P0).at 5 _ rfl
 have l6P0 := (uh P0).at 6 _ rfl
 have ltP0 : w.heap.size < w17.heap.size := by omega
 have l0YW := (uh YW).at 0 _ rfl
 have l1YW := (uh YW).at 1 _ rfl
 have l2YW := (uh YW).at 2 _ rfl
 have l3YW := (uh YW).at 3 _ rfl
 have l4YW := (uh YW).at 4 _ rfl
 have l5YW := (uh YW).at 5 _ rfl
 have l6YW := (uh YW).at 6 _ rfl
 have l7YW := (uh YW).at 7 _ rfl
 have l8YW := (uh YW).at 8 _ rfl
 have ltYW : w4.heap.size < w17.heap.size := by omega
 have l0X0 := (uh X0).at 0 _ rfl
 have l1X0 := (uh X0).at 1 _ rfl
 have l2X0 := (uh X0).at 2 _ rfl
 have l3X0 := (uh X0).at 3 _ rfl
 have l4X0 := (uh X0).at 4 _ rfl
 have l5X0 := (uh X0).at 5 _ rfl
 have l6X0 := (uh X0).at 6 _ rfl
 have ltX0 : w6.heap.size < w17.heap.size := by omega
 have l0YG := (uh YG).at 0 _ rfl
 have l1YG := (uh YG).at 1 _ rfl
 have l2YG := (uh YG).at 2 _ rfl
 have l3YG := (uh YG).at 3 _ rfl
 have l4YG := (uh YG).at 4 _ rfl
 have l5YG := (uh YG).at 5 _ rfl
 have l6YG := (uh YG).at 6 _ rfl
 have l7YG := (uh YG).at 7 _ rfl
 have l8YG := (uh YG).at 8 _ rfl
 have ltYG : w8.heap.size < w17.heap.size := by omega
 simp only [ga, gb, gc] at l0P0 l1P0 l2P0 l3P0 l4P0 l5P0 l6P0 l0YW l1YW l2YW l3YW l4YW l5YW l6YW l7YW l8YW l0X0 l1X0 l2X0 l3X0 l4X0 l5X0 l6X0 l0YG l1YG l2YG l3YG l4YG l5YG l6YG l7YG l8YG
 go_wp2_with fail
 clear l0P0 l1P0 l2P0 l3P0 l4P0 l5P0 l6P0 ltP0 l0YW l1YW l2YW l3YW l4YW l5YW l6YW l7YW l8YW ltYW l0X0 l1X0 l2X0 l3X0 l4X0 l5X0 l6X0 ltX0 l0YG l1YG l2YG l3YG l4YG l5YG l6YG l7YG l8YG ltYG
 generalize haw18 : w17.alloc (.cells #[.int .i64 y.code, .bool y.bL, .int .i64 y.world.now, .int .i64 y.world.events, .int .i64 y.world.chain.ae, .slice a5K y.world.chain.ids.length d5K, .slice a6K y.world.nodes.length d6K, .slice a7K y.world.msgs.length d7K, .slice a8K y.world.af.length d8K] 41) = w18 at *
 have Gw18 : w17.heap.size < w18.heap.size := by rw [← haw18]; simp
 clear haw18
 replace HA0 := yh ((uh HA0).later nb)
 replace P0 := yh ((uh P0).aj nb)
 replace HW := yh ((uh HW).later nb)
 replace YW := yh ((uh YW).aj nb)
 replace X0 := yh ((uh X0).aj nb)
 replace YG := yh ((uh YG).aj nb)
 replace HG := yh ((uh HG).later nb)
 replace HK := yh ((uh HK).later nb)
 have Zw18 : w17.heap.size ≤ w18.heap.size := nb.size
 replace HB := yh ((uh HB).trans (nb.mono (by omega)))
 clear nb
 refine (eZ _ _ y w18 (uh HK).reads (uh HW).reads).mono ?_
 rintro e w19 ⟨rfl, hb⟩
 replace HA0 := yh ((uh HA0).later hb)
 replace P0 := yh ((uh P0).aj hb)
 replace HW := yh ((uh HW).later hb)
 replace YW := yh ((uh YW).aj hb)
 replace X0 := yh ((uh X0).aj hb)
 replace YG := yh ((uh YG).aj hb)
 replace HG := yh ((uh HG).later hb)
 replace HK := yh ((uh HK).later hb)
 replace YK := yh ((uh YK).aj hb)
 have Zw19 : w18.heap.size ≤ w19.heap.size := hb.size
 replace HB := yh ((uh HB).trans (hb.mono (by omega)))
 clear hb
 clear HK
 clear YK
 have l0P0 := (uh P0).at 0 _ rfl
 have l1P0 := (uh P0).at 1 _ rfl
 have l2P0 := (uh P0).at 2 _ rfl
 have l3P0 := (uh P0).at 3 _ rfl
 have l4P0 := (uh P0).at 4 _ rfl
 have l5P0 := (uh P0).at 5 _ rfl
 have l6P0 := (uh P0).at 6 _ rfl
 have ltP0 : w.heap.size < w19.heap.size := by omega
 have l0YW := (uh YW).at 0 _ rfl
 have l1YW := (uh YW).at 1 _ rfl
 have l2YW := (uh YW).at 2 _ rfl
 have l3YW := (uh YW).at 3 _ rfl
 have l4YW := (uh YW).at 4 _ rfl
 have l5YW := (uh YW).at 5 _ rfl
 have l6YW := (uh YW).at 6 _ rfl
 have l7YW := (uh YW).at 7 _ rfl
 have l8YW := (uh YW).at 8 _ rfl
 have ltYW : w4.heap.size < w19.heap.size := by omega
 have l0X0 := (uh X0).at 0 _ rfl
 have l1X0 := (uh X0).at 1 _ rfl
 have l2X0 := (uh X0).at 2 _ rfl
 have l3X0 := (uh X0).at 3 _ rfl
 have l4X0 := (uh X0).at 4 _ rfl
 have l5X0 := (uh X0).at 5 _ rfl
 have l6X0 := (uh X0).at 6 _ rfl
 have ltX0 : w6.heap.size < w19.heap.size := by omega
 have l0YG := (uh YG).at 0 _ rfl
 have l1YG := (uh YG).at 1 _ rfl
 have l2YG := (uh YG).at 2 _ rfl
 have l3YG := (uh YG).at 3 _ rfl
 have l4YG := (uh YG).at 4 _ rfl
 have l5YG := (uh YG).at 5 _ rfl
 have l6YG := (uh YG).at 6 _ rfl
 have l7YG := (uh YG).at 7 _ rfl
 have l8YG := (uh YG).at 8 _ rfl
 have ltYG : w8.heap.size < w19.heap.size := by omega
 simp only [ga, gb, gc] at l0P0 l1P0 l2P0 l3P0 l4P0 l5P0 l6P0 l0YW l1YW l2YW l3YW l4YW l5YW l6YW l7YW l8YW l0X0 l1X0 l2X0 l3X0 l4X0 l5X0 l6X0 l0YG l1YG l2YG l3YG l4YG l5YG l6YG l7YG l8YG
 go_wp2_with fail
 clear l0P0 l1P0 l2P0 l3P0 l4P0 l5P0 l6P0 ltP0 l0YW l1YW l2YW l3YW l4YW l5YW l6YW l7YW l8YW ltYW l0X0 l1X0 l2X0 l3X0 l4X0 l5X0 l6X0 ltX0 l0YG l1YG l2YG l3YG l4YG l5YG l6YG l7YG l8YG ltYG
 refine (fG _ y 1 w19 (uh HG).reads (by omega) (by have := uh HC; omega)).mono ?_
 rintro e w20 ⟨rfl, hb⟩
 replace HA0 := yh ((uh HA0).later hb)
 replace P0 := yh ((uh P0).aj hb)
 replace HW := yh ((uh HW).later hb)
 replace YW := yh ((uh YW).aj hb)
 replace X0 := yh ((uh X0).aj hb)
 replace YG := yh ((uh YG).aj hb)
 replace HG := yh ((uh HG).later hb)
 have Zw20 : w19.heap.size ≤ w20.heap.size := hb.size
 replace HB := yh ((uh HB).trans (hb.mono (by omega)))
 clear hb
 have l0P0 := (uh P0).at 0 _ rfl
 have l1P0 := (uh P0).at 1 _ rfl
 have l2P0 := (uh P0).at 2 _ rfl
 have l3P0 := (uh P0).at 3 _ rfl
 have l4P0 := (uh P0).at 4 _ rfl
 have l5P0 := (uh P0).at 5 _ rfl
 have l6P0 := (uh P0).at 6 _ rfl
 have ltP0 : w.heap.size < w20.heap.size := by omega
 have l0YW := (uh YW).at 0 _ rfl
 have l1YW := (uh YW).at 1 _ rfl
 have l2YW := (uh YW).at 2 _ rfl
 have l3YW := (uh YW).at 3 _ rfl
 have l4YW := (uh YW).at 4 _ rfl
 have l5YW := (uh YW).at 5 _ rfl
 have l6YW := (uh YW).at 6 _ rfl
 have l7YW := (uh YW).at 7 _ rfl
 have l8YW := (uh YW).at 8 _ rfl
 have ltYW : w4.heap.size < w20.heap.size := by omega
 have l0X0 := (uh X0).at 0 _ rfl
 have l1X0 := (uh X0).at 1 _ rfl
 have l2X0 := (uh X0).at 2 _ rfl
 have l3X0 := (uh X0).at 3 _ rfl
 have l4X0 := (uh X0).at 4 _ rfl
 have l5X0 := (uh X0).at 5 _ rfl
 have l6X0 := (uh X0).at 6 _ rfl
 have ltX0 : w6.heap.size < w20.heap.size := by omega
 have l0YG := (uh YG).at 0 _ rfl
 have l1YG := (uh YG).at 1 _ rfl
 have l2YG := (uh YG).at 2 _ rfl
 have l3YG := (uh YG).at 3 _ rfl
 have l4YG := (uh YG).at 4 _ rfl
 have l5YG := (uh YG).at 5 _ rfl
 have l6YG := (uh YG).at 6 _ rfl
 have l7YG := (uh YG).at 7 _ rfl
 have l8YG := (uh YG).at 8 _ rfl
 have ltYG : w8.heap.size < w20.heap.size := by omega
 simp only [ga, gb, gc] at l0P0 l1P0 l2P0 l3P0 l4P0 l5P0 l6P0 l0YW l1YW l2YW l3YW l4YW l5YW l6YW l7YW l8YW l0X0 l1X0 l2X0 l3X0 l4X0 l5X0 l6X0 l0YG l1YG l2YG l3YG l4YG l5YG l6YG l7YG l8YG
 go_wp2_with fail
 clear l0P0 l1P0 l2P0 l3P0 l4P0 l5P0 l6P0 ltP0 l0YW l1YW l2YW l3YW l4YW l5YW l6YW l7YW l8YW ltYW l0X0 l1X0 l2X0 l3X0 l4X0 l5X0 l6X0 ltX0 l0YG l1YG l2YG l3YG l4YG l5YG l6YG l7YG l8YG ltYG
 go_ret
 exact ⟨rfl, uh HB⟩
theorem iR (u0 : List Value) (x0 : ay) (x1 : Int) (w : World) (A0 : ab.aH.Reads w u0 x0) (NS : 1048576 < ab.aH.sz x0) :
  Calls Tryz.prog 4 #[.agg u0.toArray, .int .i64 x1] w fun e w' => e = .returned (.bool true) ∧ Below w.heap.size w w' := by
 obtain ⟨a3p0, d3p0, a4p0, d4p0, a5p0, d5p0, a6p0, d6p0, rfl, -, -, -, -⟩ := aN A0
 have HA0 := yh A0.dY
 clear A0
 have HB := yh (Below.refl w.heap.size w)
 go_enter Tryz.func4, Tryz.ntmps4
 go_wp2_with fail
 have nb : Below w.heap.size w (w.alloc (.cells #[.int .i64 x0.now, .int .i64 x0.events, .int .i64 x0.chain.ae, .slice a3p0 x0.chain.ids.length d3p0, .slice a4p0 x0.nodes.length d4p0, .slice a5p0 x0.msgs.length d5p0, .slice a6p0 x0.af.length d6p0] 29)) := (Below.refl w.heap.size w).alloc (Nat.le_refl _) _
 have P0 : Hid (ag w.heap.size #[.int .i64 x0.now, .int .i64 x0.events, .int .i64 x0.chain.ae, .slice a3p0 x0.chain.ids.length d3p0, .slice a4p0 x0.nodes.length d4p0, .slice a5p0 x0.msgs.length d5p0, .slice a6p0 x0.af.length d6p0] 29 (w.alloc (.cells #[.int .i64 x0.now, .int .i64 x0.events, .int .i64 x0.chain.ae, .slice a3p0 x0.chain.ids.length d3p0, .slice a4p0 x0.nodes.length d4p0, .slice a5p0 x0.msgs.length d5p0, .slice a6p0 x0.af.length d6p0] 29)) (w.heap.size)) := bb (by omega) (by simp)
 generalize haw1 : (w.alloc (.cells #[.int .i64 x0.now, .int .i64 x0.events, .int .i64 x0.chain.ae, .slice a3p0 x0.chain.ids.length d3p0, .slice a4p0 x0.nodes.length d4p0, .slice a5p0 x0.msgs.length d5p0, .slice a6p0 x0.af.length d6p0] 29)) = w1 at *
 have Gw1 : w.heap.size + 1 ≤ w1.heap.size := by rw [← haw1]; simp
 clear haw1
 replace HA0 := yh ((uh HA0).later nb)
 have Zw1 : w.heap.size ≤ w1.heap.size := nb.size
 replace HB := yh ((uh HB).trans (nb.mono (by omega)))
 clear nb
 refine (pb _ x0 (1048576) w1 (uh HA0).reads (by omega)).mono ?_
 rintro e w2 ⟨rfl, hb⟩
 replace HA0 := yh ((uh HA0).later hb)
 replace P0 := yh ((uh P0).aj hb)
 have Zw2 : w1.heap.size ≤ w2.heap.size := hb.size
 replace HB := yh ((uh HB).trans (hb.mono (by omega)))
 clear hb
 rw [bj (by omega)]
 go_wp2_with fail
 go_ret
 exact ⟨rfl, uh HB⟩
structure dW where
 code : Int
 value : Int
def ab.dx : ab dW := ab.via (ab.pair ab.int ab.int) (fun x => (x.code, x.value)) (fun p => ⟨p.1, p.2⟩)
theorem fk {w : World} {cs : List Value} {x : dW} {bl : List Nat} : ab.dx.bD w cs x bl ↔ cs = [.int .i64 x.code, .int .i64 x.value] ∧ bl = [] ∧ (Lit.int .i64 x.code).wf = true ∧ (Lit.int .i64 x.value).wf = true := by
 constructor
 ·
  intro h
  obtain ⟨c0_, r0_, e0_, s0_, rfl, rfl, h0, h1⟩ := h
  obtain ⟨rfl, w0, rfl⟩ := h0
  obtain ⟨rfl, w1, rfl⟩ := h1
  exact ⟨by simp, by simp, w0, w1⟩
 rintro ⟨rfl, hbl, w0, w1⟩
 rw [hbl]
 exact ⟨[.int .i64 x.code], [.int .i64 x.value], [], [], rfl, by simp, ⟨rfl, w0, rfl⟩, ⟨rfl, w1, rfl⟩⟩
end Go.Proofs.YtomphbenbnnfgaaGreatDoor
