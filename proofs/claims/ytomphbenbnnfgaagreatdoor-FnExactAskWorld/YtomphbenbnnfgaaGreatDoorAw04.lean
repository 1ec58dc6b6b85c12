/-
  Texts of this proof in one: MkChain, MkWriteS, MkNodeS, MkMsgS, MkHitS, MkEntryS, MkWorld, MkWorldResult, AsErr, WrBox, InB, InC, Fault, WrFault, WrZero, ApplyPlain, SessPlain, TickMap, ToldPlain, ImplRefuse, ErrCond.
  Their conditions stand in their theorems.
-/
import Derived.Test.YtomphbenbnnfgaaGreatDoorAw03
import Derived.Test.YtomphbenbnnfgaaGreatDoorAw00
import Derived.Test.YtomphbenbnnfgaaGreatDoorChecked
import Derived.Test.YtomphbenbnnfgaaGreatDoorAw01
import Derived.LaidEql
import Derived.Stop.Asserts
import Derived.RowKitTokens
import Derived.BigQuiet
import Derived.Deep.QuietTactic
import Derived.WalkSmall
import Derived.Maps.OwnSet
import Derived.DeepKeys4
import Derived.Deep.RegionHeld3
set_option maxRecDepth 100000
set_option maxHeartbeats 4000000
namespace Go.Proofs.YtomphbenbnnfgaaGreatDoor
open Go.RowKit
theorem pn (cs : List Value) (x : bQ) (k : Int) (w : World) (h : ab.aH.Reads w cs (ab.aH.cF k x)) (hk : 0 ≤ k) (hk2 : k + ab.aH.ak x ≤ 1000000000) :
  Calls Tryz.prog 112 #[.agg cs.toArray, .int .i64 k] w fun e w' => e = .returned (.int .i64 (k + ab.aH.ak x)) ∧ Below w.heap.size w w' := by
 rw [lD] at h
 rw [fg] at hk2
 have HV := yh (fg x)
 obtain ⟨a1, d1, rfl, R1⟩ := cb h
 clear h
 generalize hn1 : (⟨x.ae, (ab.sl ab.int).cF (k) x.ids⟩ : bQ).ids.length = n1 at *
 clear hn1
 have HB0 : Below w.heap.size w (w.alloc (.cells #[.int .i64 x.ae, .slice a1 n1 d1] 34)) := (Below.refl _ _).alloc (Nat.le_refl _) _
 have bA : aA w.heap.size #[.int .i64 x.ae, .slice a1 n1 d1] 34 (w.alloc (.cells #[.int .i64 x.ae, .slice a1 n1 d1] 34)) w.heap.size := aD (Nat.le_refl _)
 go_enter Tryz.func112, Tryz.ntmps112
 go_wp2_with fail
 generalize w.alloc (.cells #[.int .i64 x.ae, .slice a1 n1 d1] 34) = W0 at *
 replace R1 := R1.later HB0
 refine (eI _ x.ids (k) _ R1 (by omega) (by omega)).mono ?_
 rintro e w1 ⟨rfl, hb⟩
 replace HB0 := HB0.trans (hb.mono HB0.size)
 replace bA := bA.ai hb
 have HA := yh bA
 have HX := yh HB0
 clear bA HB0 hb R1
 have hq : decide (k + ((ab.sl ab.int).ak x.ids : Int) < 0) = false := by simp; omega
 go_wp2_with fail
 clear hq
 go_ret
 refine ⟨?_, uh HX⟩
 rw [show k + (ab.aH.ak x : Int) = k + ((ab.sl ab.int).ak x.ids : Int) by rw [uh HV]]
 rfl
theorem kT (b off cap : Nat) (xs : List aj) (k : Int) (w : World) (h : (ab.sl ab.ag).Reads w [.slice (some ⟨b, off, none⟩) (cq ab.ag.bV ab.ag.dN k xs).length cap] (cq ab.ag.bV ab.ag.dN k xs)) (hbl : b < w.heap.size) (hk : 0 ≤ k) (hk2 : k + (al ab.ag.bV xs : Nat) ≤ 1000000000) :
  Calls Tryz.prog 167 #[.slice (some ⟨b, off, none⟩) xs.length cap, .int .i64 k] w fun e w' => e = .returned (.int .i64 (k + (al ab.ag.bV xs : Nat))) ∧ Below w.heap.size w w' := by
 have hbig := h.et
 rw [bu] at hbig
 have H := yh h
 clear h
 go_enter Tryz.func167, Tryz.ntmps167
 go_wp2_with fail
 go_loopw [1, 5] (fun kk i wr => ∃ (j : Nat) (kj : Int), j ≤ xs.length ∧ i = .int .i64 j ∧ kj = k + (al ab.ag.bV (xs.take j) : Nat) ∧ kk = .int .i64 kj ∧ Below w.heap.size w wr) (fun _ i _ => xs.length - (intOf i).toNat)
 case atStart => exact ⟨0, k, Nat.zero_le _, rfl, by simp [al], rfl, Below.refl _ _⟩
 case round =>
  obtain ⟨j, kj, hj, rfl, hkj, rfl, hB⟩ := hrel
  by_cases hlt : j < xs.length
  ·
   have hj2 : j < (cq ab.ag.bV ab.ag.dN k xs).length := by rw [bu]; exact hlt
   obtain ⟨row, hc, hr⟩ := ab.bE (uh H) hj2
   rw [fE _ _ _ _ _ hlt hj2, ← hkj, lz] at hr
   have HT := yh (ab.cj (f := ab.ag.bV) hlt)
   have hle := ab.bM (f := ab.ag.bV) (xs := xs) (k := j + 1)
   rw [uh HT] at hle
   clear hj2
   generalize hx : xs[j] = x at *
   clear hx
   have hcn := lI x
   have hb1 : 0 ≤ kj := by omega
   have hb2 : kj + (ab.ag.bV x : Int) ≤ 1000000000 := by omega
   have HK := yh hkj
   clear hkj hle
   replace hr := hr.later hB
   obtain ⟨a2, d2, rfl, R2⟩ := aM hr
   clear hr
   generalize hn : (⟨kj, kj + 1, (ab.sl ab.int).cF (kj + 1 + 1) x.vec, kj + 1 + 1 + ((ab.sl ab.int).ak x.vec : Nat), kj + 1 + 1 + ((ab.sl ab.int).ak x.vec : Nat) + 1⟩ : aj).vec.length = n1 at *
   clear hn
   have c0 : wr.cell? ⟨b, off + j * 5, none⟩ = some (.int .i64 (kj)) := (hB.cell (p := ⟨b, off + j * 5, none⟩) hbl).trans (hc 0 (by decide))
   have e0 : ((kj : Int) != (kj : Int)) = false := by simp
   have c1 : wr.cell? ⟨b, off + j * 5 + 1, none⟩ = some (.int .i64 (kj + 1)) := (hB.cell (p := ⟨b, off + j * 5 + 1, none⟩) hbl).trans (hc 1 (by decide))
   have e1 : ((kj + 1 : Int) != (kj + 1 : Int)) = false := by simp
   have c2 : wr.cell? ⟨b, off + j * 5 + 2, none⟩ = some (.slice a2 n1 d2) := (hB.cell (p := ⟨b, off + j * 5 + 2, none⟩) hbl).trans (hc 2 (by decide))
   have c3 : wr.cell? ⟨b, off + j * 5 + 3, none⟩ = some (.int .i64 (kj + 1 + 1 + ((ab.sl ab.int).ak x.vec : Nat))) := (hB.cell (p := ⟨b, off + j * 5 + 3, none⟩) hbl).trans (hc 3 (by decide))
   have e3 : ((kj + 1 + 1 + ((ab.sl ab.int).ak x.vec : Nat) : Int) != (kj + 1 + 1 + ((ab.sl ab.int).ak x.vec : Nat) : Int)) = false := by simp
   have c4 : wr.cell? ⟨b, off + j * 5 + 4, none⟩ = some (.int .i64 (kj + 1 + 1 + ((ab.sl ab.int).ak x.vec : Nat) + 1)) := (hB.cell (p := ⟨b, off + j * 5 + 4, none⟩) hbl).trans (hc 4 (by decide))
   have e4 : ((kj + 1 + 1 + ((ab.sl ab.int).ak x.vec : Nat) + 1 : Int) != (kj + 1 + 1 + ((ab.sl ab.int).ak x.vec : Nat) + 1 : Int)) = false := by simp
   have HB := yh hB
   clear hB hc
   go_wp2_with fail
   refine (eI _ x.vec (kj + 1 + 1) _ R2 (by omega) (by omega)).mono ?_
   rintro e w2 ⟨rfl, hb⟩
   have l1 : b < wr.heap.size := Nat.lt_of_lt_of_le hbl (uh HB).size
   replace c3 := (hb.cell (p := ⟨b, off + j * 5 + 3, none⟩) l1).trans c3
   replace c4 := (hb.cell (p := ⟨b, off + j * 5 + 4, none⟩) l1).trans c4
   replace HB := bZ HB hb
   clear hb R2 l1 c0 c1 c2
   have hq : decide (kj + 1 + 1 + ((ab.sl ab.int).ak x.vec : Int) < 0) = false := by simp; omega
   go_wp2_with fail
   go_roundw
   case rel => exact ⟨j + 1, _, by omega, by go_num, (by rw [uh HT, hcn]; have := uh HK; omega), rfl, uh HB⟩
   case measure => simp [intOf]; omega
  obtain rfl : j = xs.length := by omega
  rw [List.take_length] at hkj
  have HK := yh hkj
  have HB := yh hB
  clear hB hkj
  go_wp2_with fail
  go_ret
  exact ⟨by rw [← uh HK]; rfl, uh HB⟩
theorem jU (ao : Option Addr) (cap : Nat) (k : Int) (w : World) :
  Calls Tryz.prog 167 #[.slice ao 0 cap, .int .i64 k] w fun e w' => e = .returned (.int .i64 k) ∧ w' = w := by
 go_enter Tryz.func167, Tryz.ntmps167
 go_wp2_with fail
 refine wp_loop_rounds 1 ?_
 rw [rounds_succ]
 go_wp2_with fail
 go_ret
 exact ⟨rfl, rfl⟩
theorem nW (v : Value) (xs : List aj) (k : Int) (w : World) (h : (ab.sl ab.ag).Reads w [v] ((ab.sl ab.ag).cF k xs)) (hk : 0 ≤ k) (hk2 : k + (ab.sl ab.ag).ak xs ≤ 1000000000) :
  Calls Tryz.prog 167 #[v, .int .i64 k] w fun e w' => e = .returned (.int .i64 (k + (ab.sl ab.ag).ak xs)) ∧ Below w.heap.size w w' := by
 rw [pq] at h
 obtain ⟨ao, cap, rfl⟩ := aI h
 by_cases hp : 0 < xs.length
 ·
  obtain ⟨b, off, rfl, hbl⟩ := ab.aS h (by rw [bu]; exact hp)
  have L := kT b off cap xs k w h hbl hk hk2
  rw [bu]
  exact L
 obtain rfl : xs = [] := List.eq_nil_of_length_eq_zero (by omega)
 refine (jU ao cap k w).mono ?_
 rintro e w' ⟨rfl, rfl⟩
 exact ⟨by rw [jg]; simp [al], Below.refl _ _⟩
theorem lY (b off cap : Nat) (xs : List aV) (k : Int) (w : World) (h : (ab.sl ab.ax).Reads w [.slice (some ⟨b, off, none⟩) (cq ab.ax.bV ab.ax.dN k xs).length cap] (cq ab.ax.bV ab.ax.dN k xs)) (hbl : b < w.heap.size) (hk : 0 ≤ k) (hk2 : k + (al ab.ax.bV xs : Nat) ≤ 1000000000) :
  Calls Tryz.prog 113 #[.slice (some ⟨b, off, none⟩) xs.length cap, .int .i64 k] w fun e w' => e = .returned (.int .i64 (k + (al ab.ax.bV xs : Nat))) ∧ Below w.heap.size w w' := by
 have hbig := h.et
 rw [bu] at hbig
 have H := yh h
 clear h
 go_enter Tryz.func113, Tryz.ntmps113
 go_wp2_with fail
 go_loopw [1, 5] (fun kk i wr => ∃ (j : Nat) (kj : Int), j ≤ xs.length ∧ i = .int .i64 j ∧ kj = k + (al ab.ax.bV (xs.take j) : Nat) ∧ kk = .int .i64 kj ∧ Below w.heap.size w wr) (fun _ i _ => xs.length - (intOf i).toNat)
 case atStart => exact ⟨0, k, Nat.zero_le _, rfl, by simp [al], rfl, Below.refl _ _⟩
 case round =>
  obtain ⟨j, kj, hj, rfl, hkj, rfl, hB⟩ := hrel
  by_cases hlt : j < xs.length
  ·
   have hj2 : j < (cq ab.ax.bV ab.ax.dN k xs).length := by rw [bu]; exact hlt
   obtain ⟨row, hc, hr⟩ := ab.bE (uh H) hj2
   rw [fE _ _ _ _ _ hlt hj2, ← hkj, nq] at hr
   have HT := yh (ab.cj (f := ab.ax.bV) hlt)
   have hle := ab.bM (f := ab.ax.bV) (xs := xs) (k := j + 1)
   rw [uh HT] at hle
   clear hj2
   generalize hx : xs[j] = x at *
   clear hx
   have hcn := nh x
   have hb1 : 0 ≤ kj := by omega
   have hb2 : kj + (ab.ax.bV x : Int) ≤ 1000000000 := by omega
   have HK := yh hkj
   clear hkj hle
   replace hr := hr.later hB
   obtain ⟨a4, d4, rfl, R4⟩ := bG hr
   clear hr
   generalize hn4 : (⟨kj, ((kj + 1).tmod 3 == 0), kj + 1 + 1, kj + 1 + 1 + 1, (ab.sl ab.ag).cF (kj + 1 + 1 + 1 + 1) x.writes, kj + 1 + 1 + 1 + 1 + ((ab.sl ab.ag).ak x.writes : Nat), kj + 1 + 1 + 1 + 1 + ((ab.sl ab.ag).ak x.writes : Nat) + 1⟩ : aV).writes.length = n4 at *
   clear hn4
   have c0 : wr.cell? ⟨b, off + j * 7, none⟩ = some (.int .i64 (kj)) := (hB.cell (p := ⟨b, off + j * 7, none⟩) hbl).trans (hc 0 (by decide))
   have e0 : ((kj : Int) != (kj : Int)) = false := by simp
   have c1 : wr.cell? ⟨b, off + j * 7 + 1, none⟩ = some (.bool ((kj + 1) % 3 == 0)) := by rw [← Int.tmod_eq_emod_of_nonneg (show (0 : Int) ≤ kj + 1 by omega)]; exact (hB.cell (p := ⟨b, off + j * 7 + 1, none⟩) hbl).trans (hc 1 (by decide))
   have e1 : (((kj + 1) % 3 == 0) != ((kj + 1) % 3 == 0)) = false := by simp
   have c2 : wr.cell? ⟨b, off + j * 7 + 2, none⟩ = some (.int .i64 (kj + 1 + 1)) := (hB.cell (p := ⟨b, off + j * 7 + 2, none⟩) hbl).trans (hc 2 (by decide))
   have e2 : ((kj + 1 + 1 : Int) != (kj + 1 + 1 : Int)) = false := by simp
   have c3 : wr.cell? ⟨b, off + j * 7 + 3, none⟩ = some (.int .i64 (kj + 1 + 1 + 1)) := (hB.cell (p := ⟨b, off + j * 7 + 3, none⟩) hbl).trans (hc 3 (by decide))
   have e3 : ((kj + 1 + 1 + 1 : Int) != (kj + 1 + 1 + 1 : Int)) = false := by simp
   have c4 : wr.cell? ⟨b, off + j * 7 + 4, none⟩ = some (.slice a4 n4 d4) := (hB.cell (p := ⟨b, off + j * 7 + 4, none⟩) hbl).trans (hc 4 (by decide))
   have c5 : wr.cell? ⟨b, off + j * 7 + 5, none⟩ = some (.int .i64 (kj + 1 + 1 + 1 + 1 + ((ab.sl ab.ag).ak x.writes : Nat))) := (hB.cell (p := ⟨b, off + j * 7 + 5, none⟩) hbl).trans (hc 5 (by decide))
   have e5 : ((kj + 1 + 1 + 1 + 1 + ((ab.sl ab.ag).ak x.writes : Nat) : Int) != (kj + 1 + 1 + 1 + 1 + ((ab.sl ab.ag).ak x.writes : Nat) : Int)) = false := by simp
   have c6 : wr.cell? ⟨b, off + j * 7 + 6, none⟩ = some (.int .i64 (kj + 1 + 1 + 1 + 1 + ((ab.sl ab.ag).ak x.writes : Nat) + 1)) := (hB.cell (p := ⟨b, off + j * 7 + 6, none⟩) hbl).trans (hc 6 (by decide))
   have e6 : ((kj + 1 + 1 + 1 + 1 + ((ab.sl ab.ag).ak x.writes : Nat) + 1 : Int) != (kj + 1 + 1 + 1 + 1 + ((ab.sl ab.ag).ak x.writes : Nat) + 1 : Int)) = false := by simp
   have l1 : b < wr.heap.size := Nat.lt_of_lt_of_le hbl hB.size
   have HB := yh hB
   clear hB hc
   have P4 := yh R4
   clear R4
   go_wp2_with fail
   refine (nW _ x.writes (kj + 1 + 1 + 1 + 1) _ (uh P4) (by omega) (by omega)).mono ?_
   rintro e u0 ⟨rfl, hb⟩
   replace c5 := (hb.cell (p := ⟨b, off + j * 7 + 5, none⟩) l1).trans c5
   replace c6 := (hb.cell (p := ⟨b, off + j * 7 + 6, none⟩) l1).trans c6
   replace HB := bZ HB hb
   replace l1 := Nat.lt_of_lt_of_le l1 hb.size
   clear hb P4 c4
   have hq : decide (kj + 1 + 1 + 1 + 1 + ((ab.sl ab.ag).ak x.writes : Int) < 0) = false := by simp; omega
   go_wp2_with fail
   go_roundw
   case rel => exact ⟨j + 1, _, by omega, by go_num, (by rw [uh HT, hcn]; have := uh HK; omega), rfl, uh HB⟩
   case measure => simp [intOf]; omega
  obtain rfl : j = xs.length := by omega
  rw [List.take_length] at hkj
  have HK := yh hkj
  have HB := yh hB
  clear hB hkj
  go_wp2_with fail
  go_ret
  exact ⟨by rw [← uh HK]; rfl, uh HB⟩
theorem kM (ao : Option Addr) (cap : Nat) (k : Int) (w : World) :
  Calls Tryz.prog 113 #[.slice ao 0 cap, .int .i64 k] w fun e w' => e = .returned (.int .i64 k) ∧ w' = w := by
 go_enter Tryz.func113, Tryz.ntmps113
 go_wp2_with fail
 refine wp_loop_rounds 1 ?_
 rw [rounds_succ]
 go_wp2_with fail
 go_ret
 exact ⟨rfl, rfl⟩
theorem oH (v : Value) (xs : List aV) (k : Int) (w : World) (h : (ab.sl ab.ax).Reads w [v] ((ab.sl ab.ax).cF k xs)) (hk : 0 ≤ k) (hk2 : k + (ab.sl ab.ax).ak xs ≤ 1000000000) :
  Calls Tryz.prog 113 #[v, .int .i64 k] w fun e w' => e = .returned (.int .i64 (k + (ab.sl ab.ax).ak xs)) ∧ Below w.heap.size w w' := by
 rw [qL] at h
 obtain ⟨ao, cap, rfl⟩ := aI h
 by_cases hp : 0 < xs.length
 ·
  obtain ⟨b, off, rfl, hbl⟩ := ab.aS h (by rw [bu]; exact hp)
  have L := lY b off cap xs k w h hbl hk hk2
  rw [bu]
  exact L
 obtain rfl : xs = [] := List.eq_nil_of_length_eq_zero (by omega)
 refine (kM ao cap k w).mono ?_
 rintro e w' ⟨rfl, rfl⟩
 exact ⟨by rw [kt]; simp [al], Below.refl _ _⟩
theorem m7 (b off cap : Nat) (xs : List bP) (k : Int) (w : World) (h : (ab.sl ab.aQ).Reads w [.slice (some ⟨b, off, none⟩) (cq ab.aQ.bV ab.aQ.dN k xs).length cap] (cq ab.aQ.bV ab.aQ.dN k xs)) (hbl : b < w.heap.size) (hk : 0 ≤ k) (hk2 : k + (al ab.aQ.bV xs : Nat) ≤ 1000000000) :
  Calls Tryz.prog 114 #[.slice (some ⟨b, off, none⟩) xs.length cap, .int .i64 k] w fun e w' => e = .returned (.int .i64 (k + (al ab.aQ.bV xs : Nat))) ∧ Below w.heap.size w w' := by
 have hbig := h.et
 rw [bu] at hbig
 have H := yh h
 clear h
 go_enter Tryz.func114, Tryz.ntmps114
 go_wp2_with fail
 go_loopw [1, 5] (fun kk i wr => ∃ (j : Nat) (kj : Int), j ≤ xs.length ∧ i = .int .i64 j ∧ kj = k + (al ab.aQ.bV (xs.take j) : Nat) ∧ kk = .int .i64 kj ∧ Below w.heap.size w wr) (fun _ i _ => xs.length - (intOf i).toNat)
 case atStart => exact ⟨0, k, Nat.zero_le _, rfl, by simp [al], rfl, Below.refl _ _⟩
 case round =>
  obtain ⟨j, kj, hj, rfl, hkj, rfl, hB⟩ := hrel
  by_cases hlt : j < xs.length
  ·
   have hj2 : j < (cq ab.aQ.bV ab.aQ.dN k xs).length := by rw [bu]; exact hlt
   obtain ⟨row, hc, hr⟩ := ab.bE (uh H) hj2
   rw [fE _ _ _ _ _ hlt hj2, ← hkj, pF] at hr
   have HT := yh (ab.cj (f := ab.aQ.bV) hlt)
   have hle := ab.bM (f := ab.aQ.bV) (xs := xs) (k := j + 1)
   rw [uh HT] at hle
   clear hj2
   generalize hx : xs[j] = x at *
   clear hx
   have hcn := pW x
   have hb1 : 0 ≤ kj := by omega
   have hb2 : kj + (ab.aQ.bV x : Int) ≤ 1000000000 := by omega
   have HK := yh hkj
   clear hkj hle
   replace hr := hr.later hB
   obtain ⟨a7, d7, rfl, RW⟩ := cN hr
   obtain ⟨_, _, e9, R7⟩ := aM RW
   simp only [List.cons.injEq, Value.slice.injEq, true_and, and_true] at e9
   obtain ⟨rfl, rfl⟩ := e9
   clear hr RW
   generalize hn : (⟨kj, kj + 1, kj + 1 + 1, kj + 1 + 1 + 1, kj + 1 + 1 + 1 + 1, ⟨kj + 1 + 1 + 1 + 1 + 1, kj + 1 + 1 + 1 + 1 + 1 + 1, (ab.sl ab.int).cF (kj + 1 + 1 + 1 + 1 + 1 + 1 + 1) x.write.vec, kj + 1 + 1 + 1 + 1 + 1 + 1 + 1 + ((ab.sl ab.int).ak x.write.vec : Nat), kj + 1 + 1 + 1 + 1 + 1 + 1 + 1 + ((ab.sl ab.int).ak x.write.vec : Nat) + 1⟩⟩ : bP).write.vec.length = n1 at *
   clear hn
   have c0 : wr.cell? ⟨b, off + j * 10, none⟩ = some (.int .i64 (kj)) := (hB.cell (p := ⟨b, off + j * 10, none⟩) hbl).trans (hc 0 (by decide))
   have e0 : ((kj : Int) != (kj : Int)) = false := by simp
   have c1 : wr.cell? ⟨b, off + j * 10 + 1, none⟩ = some (.int .i64 (kj + 1)) := (hB.cell (p := ⟨b, off + j * 10 + 1, none⟩) hbl).trans (hc 1 (by decide))
   have e1 : ((kj + 1 : Int) != (kj + 1 : Int)) = false := by simp
   have c2 : wr.cell? ⟨b, off + j * 10 + 2, none⟩ = some (.int .i64 (kj + 1 + 1)) := (hB.cell (p := ⟨b, off + j * 10 + 2, none⟩) hbl).trans (hc 2 (by decide))
   have e2 : ((kj + 1 + 1 : Int) != (kj + 1 + 1 : Int)) = false := by simp
   have c3 : wr.cell? ⟨b, off + j * 10 + 3, none⟩ = some (.int .i64 (kj + 1 + 1 + 1)) := (hB.cell (p := ⟨b, off + j * 10 + 3, none⟩) hbl).trans (hc 3 (by decide))
   have e3 : ((kj + 1 + 1 + 1 : Int) != (kj + 1 + 1 + 1 : Int)) = false := by simp
   have c4 : wr.cell? ⟨b, off + j * 10 + 4, none⟩ = some (.int .i64 (kj + 1 + 1 + 1 + 1)) := (hB.cell (p := ⟨b, off + j * 10 + 4, none⟩) hbl).trans (hc 4 (by decide))
   have e4 : ((kj + 1 + 1 + 1 + 1 : Int) != (kj + 1 + 1 + 1 + 1 : Int)) = false := by simp
   have c5 : wr.cell? ⟨b, off + j * 10 + 5, none⟩ = some (.int .i64 (kj + 1 + 1 + 1 + 1 + 1)) := (hB.cell (p := ⟨b, off + j * 10 + 5, none⟩) hbl).trans (hc 5 (by decide))
   have e5 : ((kj + 1 + 1 + 1 + 1 + 1 : Int) != (kj + 1 + 1 + 1 + 1 + 1 : Int)) = false := by simp
   have c6 : wr.cell? ⟨b, off + j * 10 + 6, none⟩ = some (.int .i64 (kj + 1 + 1 + 1 + 1 + 1 + 1)) := (hB.cell (p := ⟨b, off + j * 10 + 6, none⟩) hbl).trans (hc 6 (by decide))
   have e6 : ((kj + 1 + 1 + 1 + 1 + 1 + 1 : Int) != (kj + 1 + 1 + 1 + 1 + 1 + 1 : Int)) = false := by simp
   have c7 : wr.cell? ⟨b, off + j * 10 + 7, none⟩ = some (.slice a7 n1 d7) := (hB.cell (p := ⟨b, off + j * 10 + 7, none⟩) hbl).trans (hc 7 (by decide))
   have c8 : wr.cell? ⟨b, off + j * 10 + 8, none⟩ = some (.int .i64 (kj + 1 + 1 + 1 + 1 + 1 + 1 + 1 + ((ab.sl ab.int).ak x.write.vec : Nat))) := (hB.cell (p := ⟨b, off + j * 10 + 8, none⟩) hbl).trans (hc 8 (by decide))
   have e8 : ((kj + 1 + 1 + 1 + 1 + 1 + 1 + 1 + ((ab.sl ab.int).ak x.write.vec : Nat) : Int) != (kj + 1 + 1 + 1 + 1 + 1 + 1 + 1 + ((ab.sl ab.int).ak x.write.vec : Nat) : Int)) = false := by simp
   have c9 : wr.cell? ⟨b, off + j * 10 + 9, none⟩ = some (.int .i64 (kj + 1 + 1 + 1 + 1 + 1 + 1 + 1 + ((ab.sl ab.int).ak x.write.vec : Nat) + 1)) := (hB.cell (p := ⟨b, off + j * 10 + 9, none⟩) hbl).trans (hc 9 (by decide))
   have e9 : ((kj + 1 + 1 + 1 + 1 + 1 + 1 + 1 + ((ab.sl ab.int).ak x.write.vec : Nat) + 1 : Int) != (kj + 1 + 1 + 1 + 1 + 1 + 1 + 1 + ((ab.sl ab.int).ak x.write.vec : Nat) + 1 : Int)) = false := by simp
   have HB := yh hB
   clear hB hc
   go_wp2_with fail
   refine (eI _ x.write.vec (kj + 1 + 1 + 1 + 1 + 1 + 1 + 1) _ R7 (by omega) (by omega)).mono ?_
   rintro e w2 ⟨rfl, hb⟩
   have l1 : b < wr.heap.size := Nat.lt_of_lt_of_le hbl (uh HB).size
   replace c8 := (hb.cell (p := ⟨b, off + j * 10 + 8, none⟩) l1).trans c8
   replace c9 := (hb.cell (p := ⟨b, off + j * 10 + 9, none⟩) l1).trans c9
   replace HB := bZ HB hb
   clear hb R7 l1 c0 c1 c2 c3 c4 c5 c6 c7
   have hq : decide (kj + 1 + 1 + 1 + 1 + 1 + 1 + 1 + ((ab.sl ab.int).ak x.write.vec : Int) < 0) = false := by simp; omega
   go_wp2_with fail
   go_roundw
   case rel => exact ⟨j + 1, _, by omega, by go_num, (by rw [uh HT, hcn]; have := uh HK; omega), rfl, uh HB⟩
   case measure => simp [intOf]; omega
  obtain rfl : j = xs.length := by omega
  rw [List.take_length] at hkj
  have HK := yh hkj
  have HB := yh hB
  clear hB hkj
  go_wp2_with fail
  go_ret
  exact ⟨by rw [← uh HK]; rfl, uh HB⟩
theorem mu (ao : Option Addr) (cap : Nat) (k : Int) (w : World) :
  Calls Tryz.prog 114 #[.slice ao 0 cap, .int .i64 k] w fun e w' => e = .returned (.int .i64 k) ∧ w' = w := by
 go_enter Tryz.func114, Tryz.ntmps114
 go_wp2_with fail
 refine wp_loop_rounds 1 ?_
 rw [rounds_succ]
 go_wp2_with fail
 go_ret
 exact ⟨rfl, rfl⟩
theorem qC (v : Value) (xs : List bP) (k : Int) (w : World) (h : (ab.sl ab.aQ).Reads w [v] ((ab.sl ab.aQ).cF k xs)) (hk : 0 ≤ k) (hk2 : k + (ab.sl ab.aQ).ak xs ≤ 1000000000) :
  Calls Tryz.prog 114 #[v, .int .i64 k] w fun e w' => e = .returned (.int .i64 (k + (ab.sl ab.aQ).ak xs)) ∧ Below w.heap.size w w' := by
 rw [sb] at h
 obtain ⟨ao, cap, rfl⟩ := aI h
 by_cases hp : 0 < xs.length
 ·
  obtain ⟨b, off, rfl, hbl⟩ := ab.aS h (by rw [bu]; exact hp)
  have L := m7 b off cap xs k w h hbl hk hk2
  rw [bu]
  exact L
 obtain rfl : xs = [] := List.eq_nil_of_length_eq_zero (by omega)
 refine (mu ao cap k w).mono ?_
 rintro e w' ⟨rfl, rfl⟩
 exact ⟨by rw [lb]; simp [al], Below.refl _ _⟩
theorem m8 (b off cap : Nat) (xs : List eG) (k : Int) (w : World) (h : (ab.sl ab.bq).Reads w [.slice (some ⟨b, off, none⟩) (cq ab.bq.bV ab.bq.dN k xs).length cap] (cq ab.bq.bV ab.bq.dN k xs)) (hbl : b < w.heap.size) (hk : 0 ≤ k) (hk2 : k + (al ab.bq.bV xs : Nat) ≤ 1000000000) :
  Calls Tryz.prog 168 #[.slice (some ⟨b, off, none⟩) xs.length cap, .int .i64 k] w fun e w' => e = .returned (.int .i64 (k + (al ab.bq.bV xs : Nat))) ∧ Below w.heap.size w w' := by
 have hbig := h.et
 rw [bu] at hbig
 have H := yh h
 clear h
 go_enter Tryz.func168, Tryz.ntmps168
 go_wp2_with fail
 go_loopw [1, 5] (fun kk i wr => ∃ (j : Nat) (kj : Int), j ≤ xs.length ∧ i = .int .i64 j ∧ kj = k + (al ab.bq.bV (xs.take j) : Nat) ∧ kk = .int .i64 kj ∧ Below w.heap.size w wr) (fun _ i _ => xs.length - (intOf i).toNat)
 case atStart => exact ⟨0, k, Nat.zero_le _, rfl, by simp [al], rfl, Below.refl _ _⟩
 case round =>
  obtain ⟨j, kj, hj, rfl, hkj, rfl, hB⟩ := hrel
  by_cases hlt : j < xs.length
  ·
   have hj2 : j < (cq ab.bq.bV ab.bq.dN k xs).length := by rw [bu]; exact hlt
   obtain ⟨row, hc, hr⟩ := ab.bE (uh H) hj2
   rw [fE _ _ _ _ _ hlt hj2, ← hkj, pD] at hr
   have HT := yh (ab.cj (f := ab.bq.bV) hlt)
   have hle := ab.bM (f := ab.bq.bV) (xs := xs) (k := j + 1)
   rw [uh HT] at hle
   clear hj2
   generalize hx : xs[j] = x at *
   clear hx
   have hcn := pS x
   have hb1 : 0 ≤ kj := by omega
   have hb2 : kj + (ab.bq.bV x : Int) ≤ 1000000000 := by omega
   have HK := yh hkj
   clear hkj hle
   replace hr := hr.later hB
   obtain ⟨blo, hlo⟩ := hr
   obtain ⟨rfl, -⟩ := cS.1 hlo
   clear hlo
   have c0 : wr.cell? ⟨b, off + j * 2, none⟩ = some (.int .i64 (kj)) := (hB.cell (p := ⟨b, off + j * 2, none⟩) hbl).trans (hc 0 (by decide))
   have e0 : ((kj : Int) != (kj : Int)) = false := by simp
   have c1 : wr.cell? ⟨b, off + j * 2 + 1, none⟩ = some (.int .i64 (kj + 1)) := (hB.cell (p := ⟨b, off + j * 2 + 1, none⟩) hbl).trans (hc 1 (by decide))
   have e1 : ((kj + 1 : Int) != (kj + 1 : Int)) = false := by simp
   have HB := yh hB
   clear hB hc
   go_wp2_with fail
   go_roundw
   case rel => exact ⟨j + 1, _, by omega, by go_num, (by rw [uh HT, hcn]; have := uh HK; omega), rfl, uh HB⟩
   case measure => simp [intOf]; omega
  obtain rfl : j = xs.length := by omega
  rw [List.take_length] at hkj
  have HK := yh hkj
  have HB := yh hB
  clear hB hkj
  go_wp2_with fail
  go_ret
  exact ⟨by rw [← uh HK]; rfl, uh HB⟩
theorem mM (ao : Option Addr) (cap : Nat) (k : Int) (w : World) :
  Calls Tryz.prog 168 #[.slice ao 0 cap, .int .i64 k] w fun e w' => e = .returned (.int .i64 k) ∧ w' = w := by
 go_enter Tryz.func168, Tryz.ntmps168
 go_wp2_with fail
 refine wp_loop_rounds 1 ?_
 rw [rounds_succ]
 go_wp2_with fail
 go_ret
 exact ⟨rfl, rfl⟩
theorem qg (v : Value) (xs : List eG) (k : Int) (w : World) (h : (ab.sl ab.bq).Reads w [v] ((ab.sl ab.bq).cF k xs)) (hk : 0 ≤ k) (hk2 : k + (ab.sl ab.bq).ak xs ≤ 1000000000) :
  Calls Tryz.prog 168 #[v, .int .i64 k] w fun e w' => e = .returned (.int .i64 (k + (ab.sl ab.bq).ak xs)) ∧ Below w.heap.size w w' := by
 rw [sj] at h
 obtain ⟨ao, cap, rfl⟩ := aI h
 by_cases hp : 0 < xs.length
 ·
  obtain ⟨b, off, rfl, hbl⟩ := ab.aS h (by rw [bu]; exact hp)
  have L := m8 b off cap xs k w h hbl hk hk2
  rw [bu]
  exact L
 obtain rfl : xs = [] := List.eq_nil_of_length_eq_zero (by omega)
 refine (mM ao cap k w).mono ?_
 rintro e w' ⟨rfl, rfl⟩
 exact ⟨by rw [lL]; simp [al], Below.refl _ _⟩
theorem kZ (b off cap : Nat) (xs : List bj) (k : Int) (w : World) (h : (ab.sl ab.ar).Reads w [.slice (some ⟨b, off, none⟩) (cq ab.ar.bV ab.ar.dN k xs).length cap] (cq ab.ar.bV ab.ar.dN k xs)) (hbl : b < w.heap.size) (hk : 0 ≤ k) (hk2 : k + (al ab.ar.bV xs : Nat) ≤ 1000000000) :
  Calls Tryz.prog 115 #[.slice (some ⟨b, off, none⟩) xs.length cap, .int .i64 k] w fun e w' => e = .returned (.int .i64 (k + (al ab.ar.bV xs : Nat))) ∧ Below w.heap.size w w' := by
 have hbig := h.et
 rw [bu] at hbig
 have H := yh h
 clear h
 go_enter Tryz.func115, Tryz.ntmps115
 go_wp2_with fail
 go_loopw [1, 5] (fun kk i wr => ∃ (j : Nat) (kj : Int), j ≤ xs.length ∧ i = .int .i64 j ∧ kj = k + (al ab.ar.bV (xs.take j) : Nat) ∧ kk = .int .i64 kj ∧ Below w.heap.size w wr) (fun _ i _ => xs.length - (intOf i).toNat)
 case atStart => exact ⟨0, k, Nat.zero_le _, rfl, by simp [al], rfl, Below.refl _ _⟩
 case round =>
  obtain ⟨j, kj, hj, rfl, hkj, rfl, hB⟩ := hrel
  by_cases hlt : j < xs.length
  ·
   have hj2 : j < (cq ab.ar.bV ab.ar.dN k xs).length := by rw [bu]; exact hlt
   obtain ⟨row, hc, hr⟩ := ab.bE (uh H) hj2
   rw [fE _ _ _ _ _ hlt hj2, ← hkj, lF] at hr
   have HT := yh (ab.cj (f := ab.ar.bV) hlt)
   have hle := ab.bM (f := ab.ar.bV) (xs := xs) (k := j + 1)
   rw [uh HT] at hle
   clear hj2
   generalize hx : xs[j] = x at *
   clear hx
   have hcn := lX x
   have hb1 : 0 ≤ kj := by omega
   have hb2 : kj + (ab.ar.bV x : Int) ≤ 1000000000 := by omega
   have HK := yh hkj
   clear hkj hle
   replace hr := hr.later hB
   obtain ⟨a4, d4, a9, d9, a10, d10, rfl, R4, R9, R10⟩ := cd hr
   clear hr
   generalize hn4 : (⟨kj, kj + 1, kj + 1 + 1, kj + 1 + 1 + 1, (ab.sl ab.int).cF (kj + 1 + 1 + 1 + 1) x.query, kj + 1 + 1 + 1 + 1 + ((ab.sl ab.int).ak x.query : Nat), kj + 1 + 1 + 1 + 1 + ((ab.sl ab.int).ak x.query : Nat) + 1, kj + 1 + 1 + 1 + 1 + ((ab.sl ab.int).ak x.query : Nat) + 1 + 1, kj + 1 + 1 + 1 + 1 + ((ab.sl ab.int).ak x.query : Nat) + 1 + 1 + 1, (ab.sl ab.int).cF (kj + 1 + 1 + 1 + 1 + ((ab.sl ab.int).ak x.query : Nat) + 1 + 1 + 1 + 1) x.vec, (ab.sl ab.bq).cF (kj + 1 + 1 + 1 + 1 + ((ab.sl ab.int).ak x.query : Nat) + 1 + 1 + 1 + 1 + ((ab.sl ab.int).ak x.vec : Nat)) x.aY⟩ : bj).query.length = n4 at *
   generalize hn9 : (⟨kj, kj + 1, kj + 1 + 1, kj + 1 + 1 + 1, (ab.sl ab.int).cF (kj + 1 + 1 + 1 + 1) x.query, kj + 1 + 1 + 1 + 1 + ((ab.sl ab.int).ak x.query : Nat), kj + 1 + 1 + 1 + 1 + ((ab.sl ab.int).ak x.query : Nat) + 1, kj + 1 + 1 + 1 + 1 + ((ab.sl ab.int).ak x.query : Nat) + 1 + 1, kj + 1 + 1 + 1 + 1 + ((ab.sl ab.int).ak x.query : Nat) + 1 + 1 + 1, (ab.sl ab.int).cF (kj + 1 + 1 + 1 + 1 + ((ab.sl ab.int).ak x.query : Nat) + 1 + 1 + 1 + 1) x.vec, (ab.sl ab.bq).cF (kj + 1 + 1 + 1 + 1 + ((ab.sl ab.int).ak x.query : Nat) + 1 + 1 + 1 + 1 + ((ab.sl ab.int).ak x.vec : Nat)) x.aY⟩ : bj).vec.length = n9 at *
   generalize hn10 : (⟨kj, kj + 1, kj + 1 + 1, kj + 1 + 1 + 1, (ab.sl ab.int).cF (kj + 1 + 1 + 1 + 1) x.query, kj + 1 + 1 + 1 + 1 + ((ab.sl ab.int).ak x.query : Nat), kj + 1 + 1 + 1 + 1 + ((ab.sl ab.int).ak x.query : Nat) + 1, kj + 1 + 1 + 1 + 1 + ((ab.sl ab.int).ak x.query : Nat) + 1 + 1, kj + 1 + 1 + 1 + 1 + ((ab.sl ab.int).ak x.query : Nat) + 1 + 1 + 1, (ab.sl ab.int).cF (kj + 1 + 1 + 1 + 1 + ((ab.sl ab.int).ak x.query : Nat) + 1 + 1 + 1 + 1) x.vec, (ab.sl ab.bq).cF (kj + 1 + 1 + 1 + 1 + ((ab.sl ab.int).ak x.query : Nat) + 1 + 1 + 1 + 1 + ((ab.sl ab.int).ak x.vec : Nat)) x.aY⟩ : bj).aY.length = n10 at *
   clear hn4 hn9 hn10
   have c0 : wr.cell? ⟨b, off + j * 11, none⟩ = some (.int .i64 (kj)) := (hB.cell (p := ⟨b, off + j * 11, none⟩) hbl).trans (hc 0 (by decide))
   have e0 : ((kj : Int) != (kj : Int)) = false := by simp
   have c1 : wr.cell? ⟨b, off + j * 11 + 1, none⟩ = some (.int .i64 (kj + 1)) := (hB.cell (p := ⟨b, off + j * 11 + 1, none⟩) hbl).trans (hc 1 (by decide))
   have e1 : ((kj + 1 : Int) != (kj + 1 : Int)) = false := by simp
   have c2 : wr.cell? ⟨b, off + j * 11 + 2, none⟩ = some (.int .i64 (kj + 1 + 1)) := (hB.cell (p := ⟨b, off + j * 11 + 2, none⟩) hbl).trans (hc 2 (by decide))
   have e2 : ((kj + 1 + 1 : Int) != (kj + 1 + 1 : Int)) = false := by simp
   have c3 : wr.cell? ⟨b, off + j * 11 + 3, none⟩ = some (.int .i64 (kj + 1 + 1 + 1)) := (hB.cell (p := ⟨b, off + j * 11 + 3, none⟩) hbl).trans (hc 3 (by decide))
   have e3 : ((kj + 1 + 1 + 1 : Int) != (kj + 1 + 1 + 1 : Int)) = false := by simp
   have c4 : wr.cell? ⟨b, off + j * 11 + 4, none⟩ = some (.slice a4 n4 d4) := (hB.cell (p := ⟨b, off + j * 11 + 4, none⟩) hbl).trans (hc 4 (by decide))
   have c5 : wr.cell? ⟨b, off + j * 11 + 5, none⟩ = some (.int .i64 (kj + 1 + 1 + 1 + 1 + ((ab.sl ab.int).ak x.query : Nat))) := (hB.cell (p := ⟨b, off + j * 11 + 5, none⟩) hbl).trans (hc 5 (by decide))
   have e5 : ((kj + 1 + 1 + 1 + 1 + ((ab.sl ab.int).ak x.query : Nat) : Int) != (kj + 1 + 1 + 1 + 1 + ((ab.sl ab.int).ak x.query : Nat) : Int)) = false := by simp
   have c6 : wr.cell? ⟨b, off + j * 11 + 6, none⟩ = some (.int .i64 (kj + 1 + 1 + 1 + 1 + ((ab.sl ab.int).ak x.query : Nat) + 1)) := (hB.cell (p := ⟨b, off + j * 11 + 6, none⟩) hbl).trans (hc 6 (by decide))
   have e6 : ((kj + 1 + 1 + 1 + 1 + ((ab.sl ab.int).ak x.query : Nat) + 1 : Int) != (kj + 1 + 1 + 1 + 1 + ((ab.sl ab.int).ak x.query : Nat) + 1 : Int)) = false := by simp
   have c7 : wr.cell? ⟨b, off + j * 11 + 7, none⟩ = some (.int .i64 (kj + 1 + 1 + 1 + 1 + ((ab.sl ab.int).ak x.query : Nat) + 1 + 1)) := (hB.cell (p := ⟨b, off + j * 11 + 7, none⟩) hbl).trans (hc 7 (by decide))
   have e7 : ((kj + 1 + 1 + 1 + 1 + ((ab.sl ab.int).ak x.query : Nat) + 1 + 1 : Int) != (kj + 1 + 1 + 1 + 1 + ((ab.sl ab.int).ak x.query : Nat) + 1 + 1 : Int)) = false := by simp
   have c8 : wr.cell? ⟨b, off + j * 11 + 8, none⟩ = some (.int .i64 (kj + 1 + 1 + 1 + 1 + ((ab.sl ab.int).ak x.query : Nat) + 1 + 1 + 1)) := (hB.cell (p := ⟨b, off + j * 11 + 8, none⟩) hbl).trans (hc 8 (by decide))
   have e8 : ((kj + 1 + 1 + 1 + 1 + ((ab.sl ab.int).ak x.query : Nat) + 1 + 1 + 1 : Int) != (kj + 1 + 1 + 1 + 1 + ((ab.sl ab.int).ak x.query : Nat) + 1 + 1 + 1 : Int)) = false := by simp
   have c9 : wr.cell? ⟨b, off + j * 11 + 9, none⟩ = some (.slice a9 n9 d9) := (hB.cell (p := ⟨b, off + j * 11 + 9, none⟩) hbl).trans (hc 9 (by decide))
   have c10 : wr.cell? ⟨b, off + j * 11 + 10, none⟩ = some (.slice a10 n10 d10) := (hB.cell (p := ⟨b, off + j * 11 + 10, none⟩) hbl).trans (hc 10 (by decide))
   have l1 : b < wr.heap.size := Nat.lt_of_lt_of_le hbl hB.size
   have HB := yh hB
   clear hB hc
   have P4 := yh R4
   clear R4
   have P9 := yh R9
   clear R9
   have P10 := yh R10
   clear R10
   go_wp2_with fail
   refine (eI _ x.query (kj + 1 + 1 + 1 + 1) _ (uh P4) (by omega) (by omega)).mono ?_
   rintro e u0 ⟨rfl, hb⟩
   replace c5 := (hb.cell (p := ⟨b, off + j * 11 + 5, none⟩) l1).trans c5
   replace c6 := (hb.cell (p := ⟨b, off + j * 11 + 6, none⟩) l1).trans c6
   replace c7 := (hb.cell (p := ⟨b, off + j * 11 + 7, none⟩) l1).trans c7
   replace c8 := (hb.cell (p := ⟨b, off + j * 11 + 8, none⟩) l1).trans c8
   replace c9 := (hb.cell (p := ⟨b, off + j * 11 + 9, none⟩) l1).trans c9
   replace c10 := (hb.cell (p := ⟨b, off + j * 11 + 10, none⟩) l1).trans c10
   replace P9 := yh ((uh P9).later hb)
   replace P10 := yh ((uh P10).later hb)
   replace HB := bZ HB hb
   replace l1 := Nat.lt_of_lt_of_le l1 hb.size
   clear hb P4 c4
   have hq : decide (kj + 1 + 1 + 1 + 1 + ((ab.sl ab.int).ak x.query : Int) < 0) = false := by simp; omega
   go_wp2_with fail
   refine (eI _ x.vec (kj + 1 + 1 + 1 + 1 + ((ab.sl ab.int).ak x.query : Nat) + 1 + 1 + 1 + 1) _ (uh P9) (by omega) (by omega)).mono ?_
   rintro e u1 ⟨rfl, hb⟩
   replace c10 := (hb.cell (p := ⟨b, off + j * 11 + 10, none⟩) l1).trans c10
   replace P10 := yh ((uh P10).later hb)
   replace HB := bZ HB hb
   replace l1 := Nat.lt_of_lt_of_le l1 hb.size
   clear hb P9 c9
   have hq : decide (kj + 1 + 1 + 1 + 1 + ((ab.sl ab.int).ak x.query : Nat) + 1 + 1 + 1 + 1 + ((ab.sl ab.int).ak x.vec : Int) < 0) = false := by simp; omega
   go_wp2_with fail
   refine (qg _ x.aY (kj + 1 + 1 + 1 + 1 + ((ab.sl ab.int).ak x.query : Nat) + 1 + 1 + 1 + 1 + ((ab.sl ab.int).ak x.vec : Nat)) _ (uh P10) (by omega) (by omega)).mono ?_
   rintro e u2 ⟨rfl, hb⟩
   replace HB := bZ HB hb
   replace l1 := Nat.lt_of_lt_of_le l1 hb.size
   clear hb P10 c10
   have hq : decide (kj + 1 + 1 + 1 + 1 + ((ab.sl ab.int).ak x.query : Nat) + 1 + 1 + 1 + 1 + ((ab.sl ab.int).ak x.vec : Nat) + ((ab.sl ab.bq).ak x.aY : Int) < 0) = false := by simp; omega
   go_wp2_with fail
   go_roundw
   case rel => exact ⟨j + 1, _, by omega, by go_num, (by rw [uh HT, hcn]; have := uh HK; omega), rfl, uh HB⟩
   case measure => simp [intOf]; omega
  obtain rfl : j = xs.length := by omega
  rw [List.take_length] at hkj
  have HK := yh hkj
  have HB := yh hB
  clear hB hkj
  go_wp2_with fail
  go_ret
  exact ⟨by rw [← uh HK]; rfl, uh HB⟩
theorem jW (ao : Option Addr) (cap : Nat) (k : Int) (w : World) :
  Calls Tryz.prog 115 #[.slice ao 0 cap, .int .i64 k] w fun e w' => e = .returned (.int .i64 k) ∧ w' = w := by
 go_enter Tryz.func115, Tryz.ntmps115
 go_wp2_with fail
 refine wp_loop_rounds 1 ?_
 rw [rounds_succ]
 go_wp2_with fail
 go_ret
 exact ⟨rfl, rfl⟩
theorem nD (v : Value) (xs : List bj) (k : Int) (w : World) (h : (ab.sl ab.ar).Reads w [v] ((ab.sl ab.ar).cF k xs)) (hk : 0 ≤ k) (hk2 : k + (ab.sl ab.ar).ak xs ≤ 1000000000) :
  Calls Tryz.prog 115 #[v, .int .i64 k] w fun e w' => e = .returned (.int .i64 (k + (ab.sl ab.ar).ak xs)) ∧ Below w.heap.size w w' := by
 rw [pf] at h
 obtain ⟨ao, cap, rfl⟩ := aI h
 by_cases hp : 0 < xs.length
 ·
  obtain ⟨b, off, rfl, hbl⟩ := ab.aS h (by rw [bu]; exact hp)
  have L := kZ b off cap xs k w h hbl hk hk2
  rw [bu]
  exact L
 obtain rfl : xs = [] := List.eq_nil_of_length_eq_zero (by omega)
 refine (jW ao cap k w).mono ?_
 rintro e w' ⟨rfl, rfl⟩
 exact ⟨by rw [jh]; simp [al], Below.refl _ _⟩
theorem oc (cs : List Value) (x : ay) (k : Int) (w : World) (h : ab.aF.Reads w cs (ab.aF.cF k x)) (hk : 0 ≤ k) (hk2 : k + ab.aF.ak x ≤ 1000000000) :
  Calls Tryz.prog 57 #[.agg cs.toArray, .int .i64 k] w fun e w' => e = .returned (.int .i64 (k + ab.aF.ak x)) ∧ Below w.heap.size w w' := by
 rw [lE] at h
 rw [fe] at hk2
 have HV := yh (fe x)
 obtain ⟨a3, d3, a4, d4, a5, d5, a6, d6, rfl, R2, R4, R5, R6⟩ := aK h
 clear h
 generalize hn3 : (⟨x.now, x.events, ab.aH.cF (k) x.chain, (ab.sl ab.ax).cF (k + (ab.aH.ak x.chain : Int)) x.nodes, (ab.sl ab.aQ).cF (k + (ab.aH.ak x.chain : Int) + ((ab.sl ab.ax).ak x.nodes : Int)) x.msgs, (ab.sl ab.ar).cF (k + (ab.aH.ak x.chain : Int) + ((ab.sl ab.ax).ak x.nodes : Int) + ((ab.sl ab.aQ).ak x.msgs : Int)) x.af⟩ : ay).chain.ids.length = n3 at *
 generalize hn4 : (⟨x.now, x.events, ab.aH.cF (k) x.chain, (ab.sl ab.ax).cF (k + (ab.aH.ak x.chain : Int)) x.nodes, (ab.sl ab.aQ).cF (k + (ab.aH.ak x.chain : Int) + ((ab.sl ab.ax).ak x.nodes : Int)) x.msgs, (ab.sl ab.ar).cF (k + (ab.aH.ak x.chain : Int) + ((ab.sl ab.ax).ak x.nodes : Int) + ((ab.sl ab.aQ).ak x.msgs : Int)) x.af⟩ : ay).nodes.length = n4 at *
 generalize hn5 : (⟨x.now, x.events, ab.aH.cF (k) x.chain, (ab.sl ab.ax).cF (k + (ab.aH.ak x.chain : Int)) x.nodes, (ab.sl ab.aQ).cF (k + (ab.aH.ak x.chain : Int) + ((ab.sl ab.ax).ak x.nodes : Int)) x.msgs, (ab.sl ab.ar).cF (k + (ab.aH.ak x.chain : Int) + ((ab.sl ab.ax).ak x.nodes : Int) + ((ab.sl ab.aQ).ak x.msgs : Int)) x.af⟩ : ay).msgs.length = n5 at *
 generalize hn6 : (⟨x.now, x.events, ab.aH.cF (k) x.chain, (ab.sl ab.ax).cF (k + (ab.aH.ak x.chain : Int)) x.nodes, (ab.sl ab.aQ).cF (k + (ab.aH.ak x.chain : Int) + ((ab.sl ab.ax).ak x.nodes : Int)) x.msgs, (ab.sl ab.ar).cF (k + (ab.aH.ak x.chain : Int) + ((ab.sl ab.ax).ak x.nodes : Int) + ((ab.sl ab.aQ).ak x.msgs : Int)) x.af⟩ : ay).af.length = n6 at *
 clear hn3 hn4 hn5 hn6
 generalize hn2 : (⟨x.now, x.events, ab.aH.cF (k) x.chain, (ab.sl ab.ax).cF (k + (ab.aH.ak x.chain : Int)) x.nodes, (ab.sl ab.aQ).cF (k + (ab.aH.ak x.chain : Int) + ((ab.sl ab.ax).ak x.nodes : Int)) x.msgs, (ab.sl ab.ar).cF (k + (ab.aH.ak x.chain : Int) + ((ab.sl ab.ax).ak x.nodes : Int) + ((ab.sl ab.aQ).ak x.msgs : Int)) x.af⟩ : ay).chain.ae = n2 at *
 clear hn2
 have HB0 : Below w.heap.size w (w.alloc (.cells #[.int .i64 x.now, .int .i64 x.events, .int .i64 n2, .slice a3 n3 d3, .slice a4 n4 d4, .slice a5 n5 d5, .slice a6 n6 d6] 39)) := (Below.refl _ _).alloc (Nat.le_refl _) _
 have bA : aA w.heap.size #[.int .i64 x.now, .int .i64 x.events, .int .i64 n2, .slice a3 n3 d3, .slice a4 n4 d4, .slice a5 n5 d5, .slice a6 n6 d6] 39 (w.alloc (.cells #[.int .i64 x.now, .int .i64 x.events, .int .i64 n2, .slice a3 n3 d3, .slice a4 n4 d4, .slice a5 n5 d5, .slice a6 n6 d6] 39)) w.heap.size := aD (Nat.le_refl _)
 go_enter Tryz.func57, Tryz.ntmps57
 go_wp2_with fail
 generalize w.alloc (.cells #[.int .i64 x.now, .int .i64 x.events, .int .i64 n2, .slice a3 n3 d3, .slice a4 n4 d4, .slice a5 n5 d5, .slice a6 n6 d6] 39) = W0 at *
 replace R2 := R2.later HB0
 replace R4 := R4.later HB0
 replace R5 := R5.later HB0
 replace R6 := R6.later HB0
 refine (pn _ x.chain (k) _ R2 (by omega) (by omega)).mono ?_
 rintro e w1 ⟨rfl, hb⟩
 replace HB0 := HB0.trans (hb.mono HB0.size)
 replace bA := bA.ai hb
 replace R4 := R4.later hb
 have p4 := bA.at 4 _ rfl
 replace R5 := R5.later hb
 have p5 := bA.at 5 _ rfl
 replace R6 := R6.later hb
 have p6 := bA.at 6 _ rfl
 have HA := yh bA
 have HX := yh HB0
 clear bA HB0 hb R2
 have P4 := yh R4
 clear R4
 have P5 := yh R5
 clear R5
 have P6 := yh R6
 clear R6
 have hq : decide (k + (ab.aH.ak x.chain : Int) < 0) = false := by simp; omega
 go_wp2_with fail
 clear hq
 have bA := uh HA
 have HB0 := uh HX
 clear HA HX
 have R4 := uh P4
 clear P4
 have R5 := uh P5
 clear P5
 have R6 := uh P6
 clear P6
 clear p4
 clear p5
 clear p6
 refine (oH _ x.nodes (k + (ab.aH.ak x.chain : Int)) _ R4 (by omega) (by omega)).mono ?_
 rintro e w2 ⟨rfl, hb⟩
 replace HB0 := HB0.trans (hb.mono HB0.size)
 replace bA := bA.ai hb
 replace R5 := R5.later hb
 have p5 := bA.at 5 _ rfl
 replace R6 := R6.later hb
 have p6 := bA.at 6 _ rfl
 have HA := yh bA
 have HX := yh HB0
 clear bA HB0 hb R4
 have P5 := yh R5
 clear R5
 have P6 := yh R6
 clear R6
 have hq : decide (k + (ab.aH.ak x.chain : Int) + ((ab.sl ab.ax).ak x.nodes : Int) < 0) = false := by simp; omega
 go_wp2_with fail
 clear hq
 have bA := uh HA
 have HB0 := uh HX
 clear HA HX
 have R5 := uh P5
 clear P5
 have R6 := uh P6
 clear P6
 clear p5
 clear p6
 refine (qC _ x.msgs (k + (ab.aH.ak x.chain : Int) + ((ab.sl ab.ax).ak x.nodes : Int)) _ R5 (by omega) (by omega)).mono ?_
 rintro e w3 ⟨rfl, hb⟩
 replace HB0 := HB0.trans (hb.mono HB0.size)
 replace bA := bA.ai hb
 replace R6 := R6.later hb
 have p6 := bA.at 6 _ rfl
 have HA := yh bA
 have HX := yh HB0
 clear bA HB0 hb R5
 have P6 := yh R6
 clear R6
 have hq : decide (k + (ab.aH.ak x.chain : Int) + ((ab.sl ab.ax).ak x.nodes : Int) + ((ab.sl ab.aQ).ak x.msgs : Int) < 0) = false := by simp; omega
 go_wp2_with fail
 clear hq
 have bA := uh HA
 have HB0 := uh HX
 clear HA HX
 have R6 := uh P6
 clear P6
 clear p6
 refine (nD _ x.af (k + (ab.aH.ak x.chain : Int) + ((ab.sl ab.ax).ak x.nodes : Int) + ((ab.sl ab.aQ).ak x.msgs : Int)) _ R6 (by omega) (by omega)).mono ?_
 rintro e w4 ⟨rfl, hb⟩
 replace HB0 := HB0.trans (hb.mono HB0.size)
 replace bA := bA.ai hb
 have HA := yh bA
 have HX := yh HB0
 clear bA HB0 hb R6
 have hq : decide (k + (ab.aH.ak x.chain : Int) + ((ab.sl ab.ax).ak x.nodes : Int) + ((ab.sl ab.aQ).ak x.msgs : Int) + ((ab.sl ab.ar).ak x.af : Int) < 0) = false := by simp; omega
 go_wp2_with fail
 clear hq
 go_ret
 refine ⟨?_, uh HX⟩
 rw [show k + (ab.aF.ak x : Int) = k + (ab.aH.ak x.chain : Int) + ((ab.sl ab.ax).ak x.nodes : Int) + ((ab.sl ab.aQ).ak x.msgs : Int) + ((ab.sl ab.ar).ak x.af : Int) by rw [uh HV]; omega]
 rfl
theorem fL (cs : List Value) (x : bk) (k : Int) (w : World) (h : ab.aE.Reads w cs (ab.aE.cF k x)) (hk : 0 ≤ k) (hk2 : k + ab.aE.ak x ≤ 1000000000) :
  Calls Tryz.prog 19 #[.agg cs.toArray, .int .i64 k] w fun e w' => e = .returned (.int .i64 (k + ab.aE.ak x)) ∧ Below w.heap.size w w' := by
 rw [fU] at h
 rw [dc] at hk2
 have HV := yh (dc x)
 obtain ⟨a5, d5, a6, d6, a7, d7, a8, d8, rfl, R2⟩ := br h
 clear h
 generalize hn5 : (⟨x.code, x.aZ, ab.aF.cF (k) x.world⟩ : bk).world.chain.ids.length = n5 at *
 generalize hn6 : (⟨x.code, x.aZ, ab.aF.cF (k) x.world⟩ : bk).world.nodes.length = n6 at *
 generalize hn7 : (⟨x.code, x.aZ, ab.aF.cF (k) x.world⟩ : bk).world.msgs.length = n7 at *
 generalize hn8 : (⟨x.code, x.aZ, ab.aF.cF (k) x.world⟩ : bk).world.af.length = n8 at *
 clear hn5 hn6 hn7 hn8
 generalize hn2 : (⟨x.code, x.aZ, ab.aF.cF (k) x.world⟩ : bk).world.now = n2 at *
 generalize hn3 : (⟨x.code, x.aZ, ab.aF.cF (k) x.world⟩ : bk).world.events = n3 at *
 generalize hn4 : (⟨x.code, x.aZ, ab.aF.cF (k) x.world⟩ : bk).world.chain.ae = n4 at *
 clear hn2 hn3 hn4
 have HB0 : Below w.heap.size w (w.alloc (.cells #[.int .i64 x.code, .bool x.aZ, .int .i64 n2, .int .i64 n3, .int .i64 n4, .slice a5 n5 d5, .slice a6 n6 d6, .slice a7 n7 d7, .slice a8 n8 d8] 41)) := (Below.refl _ _).alloc (Nat.le_refl _) _
 have bA : aA w.heap.size #[.int .i64 x.code, .bool x.aZ, .int .i64 n2, .int .i64 n3, .int .i64 n4, .slice a5 n5 d5, .slice a6 n6 d6, .slice a7 n7 d7, .slice a8 n8 d8] 41 (w.alloc (.cells #[.int .i64 x.code, .bool x.aZ, .int .i64 n2, .int .i64 n3, .int .i64 n4, .slice a5 n5 d5, .slice a6 n6 d6, .slice a7 n7 d7, .slice a8 n8 d8] 41)) w.heap.size := aD (Nat.le_refl _)
 go_enter Tryz.func19, Tryz.ntmps19
 go_wp2_with fail
 generalize w.alloc (.cells #[.int .i64 x.code, .bool x.aZ, .int .i64 n2, .int .i64 n3, .int .i64 n4, .slice a5 n5 d5, .slice a6 n6 d6, .slice a7 n7 d7, .slice a8 n8 d8] 41) = W0 at *
 replace R2 := R2.later HB0
 refine (oc _ x.world (k) _ R2 (by omega) (by omega)).mono ?_
 rintro e w1 ⟨rfl, hb⟩
 replace HB0 := HB0.trans (hb.mono HB0.size)
 replace bA := bA.ai hb
 have HA := yh bA
 have HX := yh HB0
 clear bA HB0 hb R2
 have hq : decide (k + (ab.aF.ak x.world : Int) < 0) = false := by simp; omega
 go_wp2_with fail
 clear hq
 go_ret
 refine ⟨?_, uh HX⟩
 rw [show k + (ab.aE.ak x : Int) = k + (ab.aF.ak x.world : Int) by rw [uh HV]]
 rfl
end Go.Proofs.YtomphbenbnnfgaaGreatDoor

namespace Go.Proofs.YtomphbenbnnfgaaGreatDoor
open Go.RowKit Go.Extern.Stop Go.Stop Go.Extern
def mf (w : World) : Prop := w.cell? ⟨1, 0, none⟩ = some (.iface 304 (.agg #[.pointer (some ⟨2, 277, none⟩)]))
theorem vM (t : Addr) (w : World) : (ReflectliteValue.unpack (.iface 287 (.pointer (some t)))).run Tryz.prog w
  = .ok (.agg #[.pointer (some ⟨2, 287, none⟩), .pointer (some ⟨w.heap.size, 0, none⟩), .int .u64 150]) (w.alloc (.cells #[.pointer (some t)] 287)) := by kernel_rfl
theorem rE (a : Addr) (w : World) : (ReflectliteValue.methodAny (ReflectliteValue.valueError "reflectlite.Value.Type" 0) (fun t _ _ _ => ReflectliteType.toType t) #[.agg #[.pointer (some ⟨2, 287, none⟩), .pointer (some a), .int .u64 150]]).run Tryz.prog w
  = .ok (.iface 304 (.agg #[.pointer (some ⟨2, 287, none⟩)])) w := by kernel_rfl
theorem pX (h : Value) (w : World) : (Go.method 452 304 (.agg #[h]) "Kind").run Tryz.prog w = .ok (258, h) w := by kernel_rfl
theorem pR (w : World) : ((ReflectliteType.abiMethod fun t => (fun a : Nat => Value.int IntKind.u8 (a : Int)) <$> Rtype.kind t) #[.pointer (some ⟨2, 287, none⟩)]).run Tryz.prog w = .ok (.int .u8 22) w := by kernel_rfl
theorem pK (w : World) : ((ReflectliteType.abiMethod fun t => (fun a : Nat => Value.int IntKind.u8 (a : Int)) <$> Rtype.kind t) #[.pointer (some ⟨2, 285, none⟩)]).run Tryz.prog w = .ok (.int .u8 25) w := by kernel_rfl
theorem uL (z : Sem Value) (f : TypeId → Addr → Nat → Nat → Sem Value) (v : Value) :
  ReflectliteValue.method z f #[v] = (do match ← ReflectliteValue.parts v with | none => z | some (t, a, fl) => f t a fl (fl % 32)) := rfl
theorem mW (a : Addr) (w : World) : (ReflectliteValue.parts (.agg #[.pointer (some ⟨2, 287, none⟩), .pointer (some a), .int .u64 150])).run Tryz.prog w = .ok (some (287, a, 150)) w := by kernel_rfl
theorem pH (a p : Addr) (W : World) (ha : W.cell? a = some (.pointer (some p))) :
  (ReflectliteValue.method (ReflectliteValue.valueError "reflectlite.Value.IsNil" 0) ReflectliteValue.isNil #[.agg #[.pointer (some ⟨2, 287, none⟩), .pointer (some a), .int .u64 150]]).run Tryz.prog W = .ok (.bool false) W := by
 rw [uL]
 simp only [Sem.run_bind, mW, Result.andThen]
 simp [ReflectliteValue.isNil, loadVar, isAgg, underlying, Tryz.underlying287, ha, Result.andThen]
theorem pT (h : Value) (w : World) : (Go.method 452 304 (.agg #[h]) "Elem").run Tryz.prog w = .ok (271, .agg #[h]) w := by kernel_rfl
theorem pG (h : Value) (w : World) : (Go.method 452 304 (.agg #[h]) "Implements").run Tryz.prog w = .ok (272, .agg #[h]) w := by kernel_rfl
theorem la (h : Value) (w : World) : (Go.method 452 304 (.agg #[h]) "AssignableTo").run Tryz.prog w = .ok (269, .agg #[h]) w := by kernel_rfl
theorem pL (w : World) : (ReflectliteType.method ReflectliteType.elem #[.agg #[.pointer (some ⟨2, 287, none⟩)]]).run Tryz.prog w = .ok (.iface 304 (.agg #[.pointer (some ⟨2, 285, none⟩)])) w := by kernel_rfl
theorem sC (w : World) : (ReflectliteType.relation "Implements" ReflectliteType.implements_ #[.agg #[.pointer (some ⟨2, 285, none⟩)], .iface 304 (.agg #[.pointer (some ⟨2, 277, none⟩)])]).run Tryz.prog w = .ok (.bool true) w := by kernel_rfl
theorem tu (v : Value) (w : World) : (ReflectliteType.typeOf #[.iface 285 v]).run Tryz.prog w = .ok (.iface 304 (.agg #[.pointer (some ⟨2, 285, none⟩)])) w := by kernel_rfl
theorem tv (v : Value) (w : World) : (ReflectliteType.typeOf #[.iface 318 v]).run Tryz.prog w = .ok (.iface 304 (.agg #[.pointer (some ⟨2, 318, none⟩)])) w := by kernel_rfl
theorem vw (w : World) : (ReflectliteType.relation "AssignableTo" ReflectliteType.assignableTo #[.agg #[.pointer (some ⟨2, 285, none⟩)], .iface 304 (.agg #[.pointer (some ⟨2, 285, none⟩)])]).run Tryz.prog w = .ok (.bool true) w := by kernel_rfl
theorem va (w : World) : (ReflectliteType.relation "AssignableTo" ReflectliteType.assignableTo #[.agg #[.pointer (some ⟨2, 318, none⟩)], .iface 304 (.agg #[.pointer (some ⟨2, 285, none⟩)])]).run Tryz.prog w = .ok (.bool false) w := by kernel_rfl
theorem vI (x y : Int) (w : World) : (ReflectliteValue.unpack (.iface 285 (.agg #[.int .i64 x, .int .i64 y]))).run Tryz.prog w
  = .ok (.agg #[.pointer (some ⟨2, 285, none⟩), .pointer (some ⟨w.heap.size, 0, none⟩), .int .u64 153]) (w.alloc (.cells #[.int .i64 x, .int .i64 y] 285)) := by kernel_rfl
theorem tq (w : World) : (Rtype.elem? 287).run Tryz.prog w = .ok (some 285) w := by kernel_rfl
theorem asMk (p : Addr) (w : World) : (ReflectliteValue.mk 285 p ReflectliteValue.flagAddr).run Tryz.prog w = .ok (.agg #[.pointer (some ⟨2, 285, none⟩), .pointer (some p), .int .u64 409]) w := by kernel_rfl
theorem uj (a p : Addr) (W : World) (ha : W.cell? a = some (.pointer (some p))) :
  (ReflectliteValue.method (ReflectliteValue.valueError "reflectlite.Value.Elem" 0) ReflectliteValue.elem #[.agg #[.pointer (some ⟨2, 287, none⟩), .pointer (some a), .int .u64 150]]).run Tryz.prog W
   = .ok (.agg #[.pointer (some ⟨2, 285, none⟩), .pointer (some p), .int .u64 409]) W := by
 rw [uL]
 simp only [Sem.run_bind, mW, Result.andThen]
 simp [ReflectliteValue.elem, loadVar, isAgg, underlying, Tryz.underlying287, ha, Result.andThen, tq, asMk]
theorem vA (v x : Value) : ReflectliteValue.set #[v, x] = (do
  let (some (dst, a, fl), some (src, b, _)) := (← ReflectliteValue.parts v, ← ReflectliteValue.parts x)
   | unsupported (.noEntry "extern/(internal/reflectlite.Value).Set.zeroValue")
  if fl / ReflectliteValue.flagAddr % 2 == 0 then unsupported (.noEntry "extern/(internal/reflectlite.Value).Set.unaddressable")
  let val ← loadVar src b
  if ← Rtype.directlyAssignable dst src then storeVar dst a val
  else if ← Rtype.implements dst src then
   if (← Rtype.kind src) == 20 then
    match val with
    | .nilIface => unsupported (.noEntry "extern/reflectlite: a nil value of one interface type handed on as a value of another")
    | _ => storeVar dst a val
   else storeVar dst a (.iface src val)
  else panicString ("reflectlite.Set: value of type " ++ (← Rtype.spelt src) ++ " is not assignable to type " ++ (← Rtype.spelt dst))
  pure (.tuple #[])) := rfl
theorem sA (a : Addr) (w : World) : (ReflectliteValue.parts (.agg #[.pointer (some ⟨2, 285, none⟩), .pointer (some a), .int .u64 409])).run Tryz.prog w = .ok (some (285, a, 409)) w := by kernel_rfl
theorem sQ (a : Addr) (w : World) : (ReflectliteValue.parts (.agg #[.pointer (some ⟨2, 285, none⟩), .pointer (some a), .int .u64 153])).run Tryz.prog w = .ok (some (285, a, 153)) w := by kernel_rfl
theorem s8 (w : World) : (Rtype.directlyAssignable 285 285).run Tryz.prog w = .ok true w := by kernel_rfl
end Go.Proofs.YtomphbenbnnfgaaGreatDoor

namespace Go.Proofs.YtomphbenbnnfgaaGreatDoor
open Go.RowKit
theorem fu (v lo hi : Int) (w : World) :
  Calls Tryz.prog 58 #[.int .i64 v, .int .i64 lo, .int .i64 hi] w fun e w' => e = .returned (.bool (decide (lo ≤ v) && decide (v ≤ hi))) ∧ w' = w := by
 by_cases h1 : lo ≤ v
 ·
  have d1 : decide (lo ≤ v) = true := by simpa using h1
  rw [d1]
  cases d2 : decide (v ≤ hi) <;>
  ·
   go_enter Tryz.func58, Tryz.ntmps58
   go_wp2_with fail
   go_ret
   exact ⟨rfl, rfl⟩
 have d1 : decide (lo ≤ v) = false := by simpa using h1
 rw [d1]
 go_enter Tryz.func58, Tryz.ntmps58
 go_wp2_with fail
 go_ret
 exact ⟨rfl, rfl⟩
theorem uH (x : Int) (w : World) : Calls Tryz.prog 89 #[.int .i64 x] w fun e w' => e = .returned (.bool (decide (1 ≤ x) && decide (x ≤ 999))) ∧ w' = w := by
 go_enter Tryz.func89, Tryz.ntmps89
 go_wp2_with fail
 refine (fu x 1 999 _).mono ?_
 rintro e w1 ⟨rfl, rfl⟩
 go_wp2_with fail
 go_ret
 exact ⟨rfl, rfl⟩
theorem fv (x : Int) (w : World) : Calls Tryz.prog 90 #[.int .i64 x] w fun e w' => e = .returned (.bool (decide (1 ≤ x) && decide (x ≤ 9))) ∧ w' = w := by
 go_enter Tryz.func90, Tryz.ntmps90
 go_wp2_with fail
 refine (fu x 1 9 _).mono ?_
 rintro e w1 ⟨rfl, rfl⟩
 go_wp2_with fail
 go_ret
 exact ⟨rfl, rfl⟩
theorem kR (ao : Option Addr) (n cap : Nat) (w : World) (h : n ≠ 3) :
  Calls Tryz.prog 218 #[.slice ao n cap] w fun e w' => e = .returned (.int .i64 1) ∧ w' = w := by
 have h3 : ((n : Int) != 3) = true := by rw [bne_iff_ne]; omega
 go_enter Tryz.func218, Tryz.ntmps218
 go_wp2
 go_ret
 exact ⟨rfl, rfl⟩
theorem jt (b off cap : Nat) (zs : List Int) (w : World) (h : zs.length = 3) (hc : ∀ j, j < 3 → w.cell? ⟨b, off + j, none⟩ = some (.int .i64 (zs.getD j 0))) :
  Calls Tryz.prog 218 #[.slice (some ⟨b, off, none⟩) 3 cap] w fun e w' => e = .returned (.int .i64 (bD zs)) ∧ w' = w := by
 go_enter Tryz.func218, Tryz.ntmps218
 go_wp2
 go_loop [10] (fun i => ∃ k : Nat, k ≤ 3 ∧ i = .int .i64 k ∧ ∀ j, j < k → eF (zs.getD j 0) = true) (fun i => 3 - (intOf i).toNat)
 case atStart => exact ⟨0, Nat.zero_le _, rfl, fun j hj => by omega⟩
 case round =>
  obtain ⟨k, hk, rfl, hg⟩ := hrel
  have HG : Hid (∀ j, j < k → eF (zs.getD j 0) = true) := hg
  have HL : Hid (zs.length = 3) := h
  clear hg h
  by_cases hlt : k < 3
  ·
   have hcx : w.cell? ⟨b, off + k, none⟩ = some (.int .i64 (zs.getD k 0)) := hc k hlt
   obtain ⟨z, hz⟩ : ∃ z, z = zs.getD k 0 := ⟨_, rfl⟩
   rw [← hz] at hcx
   have HZ : Hid (z = zs.getD k 0) := hz
   clear hz hc
   cases hp : eF z with
   | true =>
    have hb := gL hp
    have HP : Hid (eF z = true) := hp
    clear hp
    obtain ⟨hb1, hb2⟩ := hb
    go_wp2
    go_round
    case rel =>
     refine ⟨k + 1, by omega, by go_num, fun j hj => ?_⟩
     by_cases hjk : j < k
     ·
      exact HG.out j hjk
     rw [show j = k by omega, ← HZ.out]; exact HP.out
    case measure => simp [intOf]; omega
   | false =>
    have HV : Hid (bD zs = 3) := hD HL.out k hlt (by rw [← HZ.out]; exact hp)
    have hb := jd hp
    clear hp
    rcases hb with hb | hb
    ·
     go_wp2
     go_ret
     exact ⟨by rw [HV.out]; rfl, rfl⟩
    have hb1 : -1000 ≤ z := by omega
    have hd : decide (z ≤ 1000) = false := by simp; omega
    go_wp2
    go_ret
    exact ⟨by rw [HV.out]; rfl, rfl⟩
  have HV : Hid (bD zs = 0) := iU HL.out (fun j hj => HG.out j (by omega))
  go_wp2
  go_ret
  exact ⟨by rw [HV.out]; rfl, rfl⟩
theorem kc (ao : Option Addr) (n cap : Nat) (w : World) (h : n ≠ 3) :
  Calls Tryz.prog 91 #[.slice ao n cap] w fun e w' => e = .returned (.int .i64 1) ∧ w' = w := by
 have h3 : ((n : Int) != 3) = true := by rw [bne_iff_ne]; omega
 go_enter Tryz.func91, Tryz.ntmps91
 go_wp2
 go_ret
 exact ⟨rfl, rfl⟩
theorem iD (b off cap : Nat) (zs : List Int) (w : World) (h : zs.length = 3) (hc : ∀ j, j < 3 → w.cell? ⟨b, off + j, none⟩ = some (.int .i64 (zs.getD j 0))) :
  Calls Tryz.prog 91 #[.slice (some ⟨b, off, none⟩) 3 cap] w fun e w' => e = .returned (.int .i64 (bD zs)) ∧ w' = w := by
 go_enter Tryz.func91, Tryz.ntmps91
 go_wp2
 go_loop [3] (fun i => ∃ k : Nat, k ≤ 3 ∧ i = .int .i64 k ∧ ∀ j, j < k → eF (zs.getD j 0) = true) (fun i => 3 - (intOf i).toNat)
 case atStart => exact ⟨0, Nat.zero_le _, rfl, fun j hj => by omega⟩
 case round =>
  obtain ⟨k, hk, rfl, hg⟩ := hrel
  have HG : Hid (∀ j, j < k → eF (zs.getD j 0) = true) := hg
  have HL : Hid (zs.length = 3) := h
  clear hg h
  by_cases hlt : k < 3
  ·
   have hcx : w.cell? ⟨b, off + k, none⟩ = some (.int .i64 (zs.getD k 0)) := hc k hlt
   obtain ⟨z, hz⟩ : ∃ z, z = zs.getD k 0 := ⟨_, rfl⟩
   rw [← hz] at hcx
   have HZ : Hid (z = zs.getD k 0) := hz
   clear hz hc
   cases hp : eF z with
   | true =>
    have hb := gL hp
    have HP : Hid (eF z = true) := hp
    clear hp
    obtain ⟨hb1, hb2⟩ := hb
    go_wp2
    go_round
    case rel =>
     refine ⟨k + 1, by omega, by go_num, fun j hj => ?_⟩
     by_cases hjk : j < k
     ·
      exact HG.out j hjk
     rw [show j = k by omega, ← HZ.out]; exact HP.out
    case measure => simp [intOf]; omega
   | false =>
    have HV : Hid (bD zs = 3) := hD HL.out k hlt (by rw [← HZ.out]; exact hp)
    have hb := jd hp
    clear hp
    rcases hb with hb | hb
    ·
     go_wp2
     go_ret
     exact ⟨by rw [HV.out]; rfl, rfl⟩
    have hb1 : -1000 ≤ z := by omega
    have hd : decide (z ≤ 1000) = false := by simp; omega
    go_wp2
    go_ret
    exact ⟨by rw [HV.out]; rfl, rfl⟩
  have HV : Hid (bD zs = 0) := iU HL.out (fun j hj => HG.out j (by omega))
  go_wp2
  go_ret
  exact ⟨by rw [HV.out]; rfl, rfl⟩
theorem k8 (v : Value) (zs : List Int) (w : World) (h : cf w v zs) :
  Calls Tryz.prog 218 #[v] w fun e w' => e = .returned (.int .i64 (bD zs)) ∧ w' = w := by
 obtain ⟨ao, cap, rfl, hwf, hc⟩ := h
 by_cases h3 : zs.length = 3
 ·
  obtain ⟨b, off, rfl, hc1⟩ := hc (by omega)
  rw [h3] at hc1 ⊢
  exact jt b off cap zs w h3 hc1
 rw [ir h3]
 exact kR ao zs.length cap w h3
theorem pe (v : Value) (zs : List Int) (w : World) (h : cf w v zs) :
  Calls Tryz.prog 91 #[v] w fun e w' => e = .returned (.int .i64 (bD zs)) ∧ w' = w := by
 obtain ⟨ao, cap, rfl, hwf, hc⟩ := h
 by_cases h3 : zs.length = 3
 ·
  obtain ⟨b, off, rfl, hc1⟩ := hc (by omega)
  rw [h3] at hc1 ⊢
  exact iD b off cap zs w h3 hc1
 rw [ir h3]
 exact kc ao zs.length cap w h3
def eu (k : Int) (n : Nat) : Bool := (decide (1 ≤ k) && decide (k ≤ 2)) && !(k == 2 && decide (0 < (n : Int)))
def dL (i s q : Int) : Bool := (decide (1 ≤ i) && decide (i ≤ 999)) && ((decide (1 ≤ s) && decide (s ≤ 9)) && (decide (1 ≤ q) && decide (q ≤ 999)))
def aC (k i : Int) (zs : List Int) (s q : Int) : Int :=
 if eu k zs.length then (if dL i s q then (if k = 1 then bD zs else 0) else 3) else 1
def uD (w : World) (b : Nat) (k i : Int) (v : Value) (s q : Int) : Prop :=
 w.cell? ⟨b, 0, none⟩ = some (.int .i64 k) ∧ w.cell? ⟨b, 1, none⟩ = some (.int .i64 i) ∧ w.cell? ⟨b, 2, none⟩ = some v ∧ w.cell? ⟨b, 3, none⟩ = some (.int .i64 s) ∧ w.cell? ⟨b, 4, none⟩ = some (.int .i64 q)
def ti (w : World) (b o : Nat) (k i : Int) (v : Value) (s q : Int) : Prop :=
 w.cell? ⟨b, o, none⟩ = some (.int .i64 k) ∧ w.cell? ⟨b, o + 1, none⟩ = some (.int .i64 i) ∧ w.cell? ⟨b, o + 2, none⟩ = some v ∧ w.cell? ⟨b, o + 3, none⟩ = some (.int .i64 s) ∧ w.cell? ⟨b, o + 4, none⟩ = some (.int .i64 q)
theorem jG (b o : Nat) (k i : Int) (v : Value) (s q : Int) (zs : List Int) (w : World) (hc : ti w b o k i v s q) (h : cf w v zs) :
  Calls Tryz.prog 35 #[.pointer (some ⟨b, o, none⟩)] w fun e w' => e = .returned (.int .i64 (aC k i zs s q)) ∧ w' = w := by
 have hv : ∃ a c, v = .slice a zs.length c := by obtain ⟨a, c, h, -⟩ := h; exact ⟨a, c, h⟩
 obtain ⟨av, cv, rfl⟩ := hv
 obtain ⟨c0, c1, c2, c3, c4⟩ := hc
 have HH := yh h
 clear h
 generalize hF : aC k i zs s q = F
 have HF := yh hF
 clear hF
 cases d1 : (decide (1 ≤ k) && decide (k ≤ 2)) with
 | false =>
  have hE : F = 1 := by rw [← uh HF, aC, eu, d1]; rfl
  subst hE
  go_enter Tryz.func35, Tryz.ntmps35
  go_wp2_with fail
  refine (fu k 1 2 _).mono ?_
  rintro e w1 ⟨rfl, rfl⟩
  rw [d1]
  go_wp2_with fail
  go_ret
  exact ⟨rfl, rfl⟩
 | true =>
  have hk : k = 1 ∨ k = 2 := by
   simp only [Bool.and_eq_true, decide_eq_true_eq] at d1
   omega
  clear d1
  rcases hk with rfl | rfl
  ·
   have hK : eu 1 zs.length = true := rfl
   cases dI : (decide (1 ≤ i) && decide (i ≤ 999)) with
   | false =>
    have hE : F = 3 := by rw [← uh HF, aC, hK, if_pos rfl, dL, dI]; rfl
    subst hE
    go_enter Tryz.func35, Tryz.ntmps35
    go_wp2_with fail
    refine (fu 1 1 2 _).mono ?_
    rintro e w1 ⟨rfl, rfl⟩
    go_wp2_with fail
    refine (uH i _).mono ?_
    rintro e w1 ⟨rfl, rfl⟩
    rw [dI]
    go_wp2_with fail
    go_ret
    exact ⟨rfl, rfl⟩
   | true =>
    cases dS : (decide (1 ≤ s) && decide (s ≤ 9)) with
    | false =>
     have hE : F = 3 := by rw [← uh HF, aC, hK, if_pos rfl, dL, dI, dS]; rfl
     subst hE
     go_enter Tryz.func35, Tryz.ntmps35
     go_wp2_with fail
     refine (fu 1 1 2 _).mono ?_
     rintro e w1 ⟨rfl, rfl⟩
     go_wp2_with fail
     refine (uH i _).mono ?_
     rintro e w1 ⟨rfl, rfl⟩
     rw [dI]
     go_wp2_with fail
     refine (fv s _).mono ?_
     rintro e w1 ⟨rfl, rfl⟩
     rw [dS]
     go_wp2_with fail
     go_ret
     exact ⟨rfl, rfl⟩
    | true =>
     cases dQ : (decide (1 ≤ q) && decide (q ≤ 999)) with
     | false =>
      have hE : F = 3 := by rw [← uh HF, aC, hK, if_pos rfl, dL, dI, dS, dQ]; rfl
      subst hE
      go_enter Tryz.func35, Tryz.ntmps35
      go_wp2_with fail
      refine (fu 1 1 2 _).mono ?_
      rintro e w1 ⟨rfl, rfl⟩
      go_wp2_with fail
      refine (uH i _).mono ?_
      rintro e w1 ⟨rfl, rfl⟩
      rw [dI]
      go_wp2_with fail
      refine (fv s _).mono ?_
      rintro e w1 ⟨rfl, rfl⟩
      rw [dS]
      go_wp2_with fail
      refine (fu q 1 999 _).mono ?_
      rintro e w1 ⟨rfl, rfl⟩
      rw [dQ]
      go_wp2_with fail
      go_ret
      exact ⟨rfl, rfl⟩
     | true =>
      have hE : F = bD zs := by rw [← uh HF, aC, hK, if_pos rfl, dL, dI, dS, dQ]; rfl
      subst hE
      go_enter Tryz.func35, Tryz.ntmps35
      go_wp2_with fail
      refine (fu 1 1 2 _).mono ?_
      rintro e w1 ⟨rfl, rfl⟩
      go_wp2_with fail
      refine (uH i _).mono ?_
      rintro e w1 ⟨rfl, rfl⟩
      rw [dI]
      go_wp2_with fail
      refine (fv s _).mono ?_
      rintro e w1 ⟨rfl, rfl⟩
      rw [dS]
      go_wp2_with fail
      refine (fu q 1 999 _).mono ?_
      rintro e w1 ⟨rfl, rfl⟩
      rw [dQ]
      go_wp2_with fail
      refine (pe _ zs _ (uh HH)).mono ?_
      rintro e w1 ⟨rfl, rfl⟩
      go_wp2_with fail
      go_ret
      exact ⟨rfl, rfl⟩
  by_cases hz : zs.length = 0
  ·
   obtain rfl : zs = [] := List.eq_nil_of_length_eq_zero hz
   have hK : eu 2 ([] : List Int).length = true := rfl
   simp only [List.length_nil] at c2 hK
   clear hz
   cases dI : (decide (1 ≤ i) && decide (i ≤ 999)) with
   | false =>
    have hE : F = 3 := by rw [← uh HF, aC, show eu 2 ([] : List Int).length = true from rfl, if_pos rfl, dL, dI]; rfl
    subst hE
    go_enter Tryz.func35, Tryz.ntmps35
    go_wp2_with fail
    refine (fu 2 1 2 _).mono ?_
    rintro e w1 ⟨rfl, rfl⟩
    go_wp2_with fail
    refine (uH i _).mono ?_
    rintro e w1 ⟨rfl, rfl⟩
    rw [dI]
    go_wp2_with fail
    go_ret
    exact ⟨rfl, rfl⟩
   | true =>
    cases dS : (decide (1 ≤ s) && decide (s ≤ 9)) with
    | false =>
     have hE : F = 3 := by rw [← uh HF, aC, show eu 2 ([] : List Int).length = true from rfl, if_pos rfl, dL, dI, dS]; rfl
     subst hE
     go_enter Tryz.func35, Tryz.ntmps35
     go_wp2_with fail
     refine (fu 2 1 2 _).mono ?_
     rintro e w1 ⟨rfl, rfl⟩
     go_wp2_with fail
     refine (uH i _).mono ?_
     rintro e w1 ⟨rfl, rfl⟩
     rw [dI]
     go_wp2_with fail
     refine (fv s _).mono ?_
     rintro e w1 ⟨rfl, rfl⟩
     rw [dS]
     go_wp2_with fail
     go_ret
     exact ⟨rfl, rfl⟩
    | true =>
     cases dQ : (decide (1 ≤ q) && decide (q ≤ 999)) with
     | false =>
      have hE : F = 3 := by rw [← uh HF, aC, show eu 2 ([] : List Int).length = true from rfl, if_pos rfl, dL, dI, dS, dQ]; rfl
      subst hE
      go_enter Tryz.func35, Tryz.ntmps35
      go_wp2_with fail
      refine (fu 2 1 2 _).mono ?_
      rintro e w1 ⟨rfl, rfl⟩
      go_wp2_with fail
      refine (uH i _).mono ?_
      rintro e w1 ⟨rfl, rfl⟩
      rw [dI]
      go_wp2_with fail
      refine (fv s _).mono ?_
      rintro e w1 ⟨rfl, rfl⟩
      rw [dS]
      go_wp2_with fail
      refine (fu q 1 999 _).mono ?_
      rintro e w1 ⟨rfl, rfl⟩
      rw [dQ]
      go_wp2_with fail
      go_ret
      exact ⟨rfl, rfl⟩
     | true =>
      have hE : F = 0 := by rw [← uh HF, aC, show eu 2 ([] : List Int).length = true from rfl, if_pos rfl, dL, dI, dS, dQ]; rfl
      subst hE
      go_enter Tryz.func35, Tryz.ntmps35
      go_wp2_with fail
      refine (fu 2 1 2 _).mono ?_
      rintro e w1 ⟨rfl, rfl⟩
      go_wp2_with fail
      refine (uH i _).mono ?_
      rintro e w1 ⟨rfl, rfl⟩
      rw [dI]
      go_wp2_with fail
      refine (fv s _).mono ?_
      rintro e w1 ⟨rfl, rfl⟩
      rw [dS]
      go_wp2_with fail
      refine (fu q 1 999 _).mono ?_
      rintro e w1 ⟨rfl, rfl⟩
      rw [dQ]
      go_wp2_with fail
      go_ret
      exact ⟨rfl, rfl⟩
  have hE : F = 1 := by
   have : eu 2 zs.length = false := by simp [eu]; omega
   rw [← uh HF, aC, this]; rfl
  subst hE
  obtain ⟨m, hm⟩ : ∃ m, zs.length = m + 1 := ⟨zs.length - 1, by omega⟩
  rw [hm] at c2
  clear hz hm
  go_enter Tryz.func35, Tryz.ntmps35
  go_wp2_with fail
  refine (fu 2 1 2 _).mono ?_
  rintro e w1 ⟨rfl, rfl⟩
  go_wp2_with fail
  go_ret
  exact ⟨rfl, rfl⟩
theorem tF (b : Nat) (k i : Int) (v : Value) (s q : Int) (zs : List Int) (w : World) (hc : uD w b k i v s q) (h : cf w v zs) :
  Calls Tryz.prog 35 #[.pointer (some ⟨b, 0, none⟩)] w fun e w' => e = .returned (.int .i64 (aC k i zs s q)) ∧ w' = w :=
 jG b 0 k i v s q zs w hc h
theorem bW {k i s q : Int} {zs : List Int} (h : aC k i zs s q = 0) : (1 ≤ i ∧ i ≤ 999) ∧ (1 ≤ s ∧ s ≤ 9) ∧ (1 ≤ q ∧ q ≤ 999) ∧ ((k = 1 ∧ bD zs = 0) ∨ (k = 2 ∧ zs = [])) := by
 unfold aC at h
 split at h
 ·
  next hk =>
  split at h
  ·
   next hb =>
   simp only [eu, Bool.and_eq_true, decide_eq_true_eq, Bool.not_eq_true', Bool.and_eq_false_iff] at hk
   simp only [dL, Bool.and_eq_true, decide_eq_true_eq] at hb
   refine ⟨hb.1, hb.2.1, hb.2.2, ?_⟩
   by_cases h1 : k = 1
   ·
    rw [if_pos h1] at h
    exact Or.inl ⟨h1, h⟩
   have h2 : k = 2 := by omega
   refine Or.inr ⟨h2, ?_⟩
   rcases hk.2 with h3 | h3
   ·
    simp [h2] at h3
   simp at h3
   exact h3
  omega
 omega
def wF (x : aj) : Int := aC x.kind x.id x.vec x.aa x.seq
def cx : List aj → Int
 | [] => 0
 | x :: xs => if wF x = 0 then cx xs else wF x
def aR (ws : List aj) : Int := if 200 < ws.length then 2 else cx ws
theorem iB (ws : List aj) (k : Nat) (h : k < ws.length) (hz : ∀ j (hj : j < ws.length), j < k → wF ws[j] = 0) (hn : wF ws[k] ≠ 0) : cx ws = wF ws[k] := by
 induction ws generalizing k with
 | nil => simp at h
 | cons x xs ih =>
  match k with
  | 0 => rw [cx, if_neg (by simpa using hn)]; rfl
  | k + 1 =>
   have h0 : wF x = 0 := hz 0 (by simp) (by omega)
   rw [cx, if_pos h0]
   exact ih k (by simpa using h) (fun j hj hjk => hz (j + 1) (by simpa using hj) (by omega)) (by simpa using hn)
theorem eX (ws : List aj) (hz : ∀ j (hj : j < ws.length), wF ws[j] = 0) : cx ws = 0 := by
 induction ws with
 | nil => rfl
 | cons x xs ih =>
  have h0 : wF x = 0 := hz 0 (by simp)
  rw [cx, if_pos h0]
  exact ih fun j hj => hz (j + 1) (by simpa using hj)
theorem iW {ws : List aj} (h : cx ws = 0) : ∀ x ∈ ws, wF x = 0 := by
 induction ws with
 | nil => simp
 | cons x xs ih =>
  rw [cx] at h
  by_cases h0 : wF x = 0
  ·
   rw [if_pos h0] at h
   intro y hy
   rcases List.mem_cons.1 hy with rfl | hy
   ·
    exact h0
   exact ih h y hy
  rw [if_neg h0] at h; exact absurd h h0
theorem ei {ws : List aj} (h : aR ws = 0) : ws.length ≤ 200 ∧ ∀ x ∈ ws, wF x = 0 := by
 unfold aR at h
 by_cases hn : 200 < ws.length
 ·
  rw [if_pos hn] at h; cases h
 rw [if_neg hn] at h; exact ⟨by omega, iW h⟩
theorem fo (x : aj) : 0 ≤ wF x ∧ wF x ≤ 3 := by
 have hv := kL x.vec
 unfold wF aC
 split
 ·
  split
  ·
   split
   ·
    exact hv
   decide
  decide
 decide
theorem vN (x : aj) : (Lit.int .i64 (wF x)).wf = true := aP (by have := fo x; omega)
theorem iS (ws : List aj) : 0 ≤ cx ws ∧ cx ws ≤ 3 := by
 induction ws with
 | nil => decide
 | cons x xs ih =>
  rw [cx]
  split
  ·
   exact ih
  exact fo x
def aT (ws : List aj) (s : Int) : Int := ws.foldl (fun n x => if x.aa = s then max n x.seq else n) 0
def cO (s q : Int) : Nat → List aj → Nat
 | _, [] => 0
 | n, x :: xs => if x.aa = s ∧ x.seq = q then n + 1 else cO s q (n + 1) xs
def ck (ws : List aj) (s q : Int) : Nat := cO s q 0 ws
def dk : List aj → List aj → Bool
 | _, [] => true
 | pre, x :: xs => decide (aT pre x.aa < x.seq) && dk (pre ++ [x]) xs
theorem ke (ws : List aj) (x : aj) (s : Int) : aT (ws ++ [x]) s = if x.aa = s then max (aT ws s) x.seq else aT ws s := by
 simp [aT]
theorem jY (ws : List aj) (k : Nat) (h : k < ws.length) (s : Int) : aT (ws.take (k + 1)) s = if ws[k].aa = s then max (aT (ws.take k) s) ws[k].seq else aT (ws.take k) s := by
 rw [List.take_succ_eq_append_getElem h, ke]
theorem gJ (s q : Int) (x : aj) : ∀ (ws : List aj) (n : Nat), cO s q n (ws ++ [x]) = if cO s q n ws = 0 then (if x.aa = s ∧ x.seq = q then n + ws.length + 1 else 0) else cO s q n ws
 | [], n => by simp [cO]
 | y :: ws, n => by
  rw [List.cons_append, cO, cO]
  by_cases h : y.aa = s ∧ y.seq = q
  ·
   rw [if_pos h, if_pos h, if_neg (by omega)]
  rw [if_neg h, if_neg h, gJ s q x ws (n + 1)]
  simp only [List.length_cons]
  rw [show n + 1 + ws.length + 1 = n + (ws.length + 1) + 1 by omega]
theorem jM (ws : List aj) (x : aj) (s q : Int) : ck (ws ++ [x]) s q = if ck ws s q = 0 then (if x.aa = s ∧ x.seq = q then ws.length + 1 else 0) else ck ws s q := by
 have := gJ s q x ws 0
 rw [Nat.zero_add] at this
 exact this
theorem nJ (ws : List aj) (s q : Int) : ck ws s q ≤ ws.length := by
 have : ∀ (ws : List aj) (n : Nat), cO s q n ws ≤ n + ws.length := by
  intro ws
  induction ws with
  | nil => intro n; simp [cO]
  | cons x xs ih =>
   intro n
   rw [cO]
   split
   ·
    simp only [List.length_cons]; omega
   have := ih (n + 1)
   simp only [List.length_cons]
   omega
 have := this ws 0
 rw [Nat.zero_add] at this
 exact this
theorem je (s q : Int) : ∀ (ws : List aj) (n k : Nat) (h : k < ws.length), (∀ j (hj : j < ws.length), j < k → ¬ (ws[j].aa = s ∧ ws[j].seq = q)) → (ws[k].aa = s ∧ ws[k].seq = q) → cO s q n ws = n + k + 1
 | [], _, _, h, _, _ => by simp at h
 | x :: xs, n, 0, _, _, hk => by rw [cO, if_pos (by simpa using hk)]
 | x :: xs, n, k + 1, h, hn, hk => by
  have h0 := hn 0 (by simp) (by omega)
  rw [cO, if_neg (by simpa using h0), je s q xs (n + 1) k (by simpa using h) (fun j hj hjk => by have := hn (j + 1) (by simpa using hj) (by omega); simpa using this) (by simpa using hk)]
  omega
theorem rQ {s q : Int} {ws : List aj} {k : Nat} (h : k < ws.length) (hn : ∀ j (hj : j < ws.length), j < k → ¬ (ws[j].aa = s ∧ ws[j].seq = q)) (hk : ws[k].aa = s ∧ ws[k].seq = q) : ck ws s q = k + 1 := by
 have := je s q ws 0 k h hn hk
 rw [Nat.zero_add] at this
 exact this
theorem ou {s q : Int} {ws : List aj} (hn : ∀ j (hj : j < ws.length), ¬ (ws[j].aa = s ∧ ws[j].seq = q)) : ck ws s q = 0 := by
 have : ∀ (ws : List aj) (n : Nat), (∀ j (hj : j < ws.length), ¬ (ws[j].aa = s ∧ ws[j].seq = q)) → cO s q n ws = 0 := by
  intro ws
  induction ws with
  | nil => intro n _; rfl
  | cons x xs ih =>
   intro n hn
   have h0 := hn 0 (by simp)
   rw [cO, if_neg (by simpa using h0)]
   exact ih (n + 1) fun j hj => by have := hn (j + 1) (by simpa using hj); simpa using this
 exact this ws 0 hn
theorem kh : ∀ (ws pre : List aj) (k : Nat) (h : k < ws.length), (ws[k]).seq ≤ aT (pre ++ ws.take k) (ws[k]).aa → dk pre ws = false
 | [], _, _, h, _ => by simp at h
 | x :: xs, pre, 0, _, hk => by
  have : ¬ (aT pre x.aa < x.seq) := by simpa using hk
  simp [dk, this]
 | x :: xs, pre, k + 1, h, hk => by
  rw [dk, kh xs (pre ++ [x]) k (by simpa using h) (by simpa using hk), Bool.and_false]
theorem iM : ∀ (ws pre : List aj), (∀ k (h : k < ws.length), aT (pre ++ ws.take k) (ws[k]).aa < (ws[k]).seq) → dk pre ws = true
 | [], _, _ => rfl
 | x :: xs, pre, h => by
  have h0 := h 0 (by simp)
  rw [dk, iM xs (pre ++ [x]) fun k hk => by have := h (k + 1) (by simpa using hk); simpa using this]
  simpa using h0
def jn (ws : List aj) : Bool := decide (aR ws = 0) && dk [] ws
theorem jZ {x : aj} (h : wF x = 0) : 1 ≤ x.aa ∧ x.aa ≤ 9 ∧ 1 ≤ x.seq ∧ x.seq ≤ 999 := by
 obtain ⟨-, h1, h2, -⟩ := bW h
 exact ⟨h1.1, h1.2, h2.1, h2.2⟩
end Go.Proofs.YtomphbenbnnfgaaGreatDoor

namespace Go.Proofs.YtomphbenbnnfgaaGreatDoor
open Go.RowKit Go.Maps
def tick (s q : Int) : Value := .agg #[.int .i64 s, .int .i64 q]
theorem sZ : laidOutB Tryz.prog = true := by kernel_rfl
theorem pt : (139 : TypeId) < Tryz.prog.types.size := of_decide_eq_true (by kernel_rfl)
theorem rU : (match Tryz.prog.underlying 139 with | some (.array _ _) | some (.struct _) => true | _ => false) = true := by kernel_rfl
theorem iC : Keyed Tryz.prog 139 := Keyed.of_law (deep_law_laid sZ (m := 2) (by omega) pt (by kernel_rfl) rU)
theorem jA {s q : Int} (hs : (Lit.int .i64 s).wf = true) (hq : (Lit.int .i64 q).wf = true) : keyOf Tryz.prog 139 (tick s q) = some (.string (keyBytes [.int .i64 s, .int .i64 q])) := by
 have hk : Tryz.prog.keyType 139 = true := by kernel_rfl
 have hc : Tryz.prog.cellsOf 139 = 2 := by kernel_rfl
 have hc1 : Tryz.prog.cellsOf 2 = 1 := by kernel_rfl
 have hf : (tick s q).formed Tryz.prog 139 = true := by simp [tick, Value.formed, Tryz.underlying139, hc]
 obtain ⟨m, hm⟩ : ∃ m, Tryz.prog.types.size = m + 1 := ⟨_, (Nat.succ_pred_eq_of_pos (Nat.lt_of_le_of_lt (Nat.zero_le _) pt)).symm⟩
 unfold keyOf
 simp only [Tryz.underlying139]
 rw [if_pos (by rw [hk, hf]; rfl), hm]
 unfold Program.keyLits
 simp only [Tryz.underlying139, tick, Value.cells]
 simp [hc, hc1, Program.keyLits, Tryz.underlying2, hs, hq]
theorem rA (w : World) : (zeroValue 2).run Tryz.prog w = .ok (.int .i64 0) w := by kernel_rfl
def ef (w : World) (b n : Nat) (f : Int → Int → Nat) : Prop := ∃ D : DataW Unit, w.ownsMap Tryz.prog 139 (plainElem Tryz.prog 2) b n D ∧
 ∀ s q, (Lit.int .i64 s).wf = true → (Lit.int .i64 q).wf = true → Maps.has D (.string (keyBytes [.int .i64 s, .int .i64 q])) = decide (f s q ≠ 0) ∧ D.atKey (.string (keyBytes [.int .i64 s, .int .i64 q])) (.lit (.int .i64 0)) = .lit (.int .i64 (f s q))
theorem ef.ext {S : Nat → Prop} {w w' : World} {b n : Nat} {f : Int → Int → Nat} (h : ef w b n f) (e : Ext S w w') (hb : ¬ S b) : ef w' b n f := by
 obtain ⟨D, h, r⟩ := h
 have hlt := World.ownsMap.lt h
 obtain ⟨es, clock, hb', r'⟩ := h
 exact ⟨D, ⟨es, clock, (e.block b hlt hb).trans hb', r'⟩, r⟩
theorem ef.lt {w : World} {b n : Nat} {f : Int → Int → Nat} (h : ef w b n f) : b < w.heap.size := by
 obtain ⟨D, h, -⟩ := h
 exact World.ownsMap.lt h
theorem ef.mono {w : World} {b n n' : Nat} {f : Int → Int → Nat} (h : ef w b n f) (hn : n ≤ n') : ef w b n' f := by
 obtain ⟨D, h, r⟩ := h
 exact ⟨D, World.ownsMap.mono h hn, r⟩
theorem ef.congr {w : World} {b n : Nat} {f g : Int → Int → Nat} (h : ef w b n f) (e : ∀ s q, f s q = g s q) : ef w b n g := by
 obtain ⟨D, h, r⟩ := h
 exact ⟨D, h, fun s q hs hq => by rw [← e]; exact r s q hs hq⟩
theorem ef.look {w : World} {b n : Nat} {f : Int → Int → Nat} (h : ef w b n f) {s q : Int} (hs : (Lit.int .i64 s).wf = true) (hq : (Lit.int .i64 q).wf = true) :
  (Instr.lookup 134 (.map (some b)) (tick s q) true).run Tryz.prog w = .ok (.tuple #[.int .i64 (f s q), .bool (decide (f s q ≠ 0))]) w := by
 obtain ⟨D, h, r⟩ := h
 obtain ⟨r1, r2⟩ := r s q hs hq
 obtain ⟨v, ps, hrun, hv⟩ := World.ownsMap.look_ok h iC Tryz.underlying134 (rA w) (plainElem_int Tryz.underlying2 (by decide)) (jA hs hq)
 rw [r2] at hv
 obtain ⟨c, rfl, hc, -⟩ := plainElem_int_inv Tryz.underlying2 hv
 rw [r1] at hrun
 simp only [Prod.mk.injEq, DataW.lit.injEq, Lit.int.injEq, true_and] at hc
 rw [hc.1]
 exact hrun
theorem ef.put {w : World} {b n : Nat} {f : Int → Int → Nat} (h : ef w b n f) (hn : n < 100000) {s q : Int} (hs : (Lit.int .i64 s).wf = true) (hq : (Lit.int .i64 q).wf = true) {m : Nat} (hm : m ≠ 0) (hw : (Lit.int .i64 (m : Int)).wf = true) :
  ∃ w', (Instr.mapUpdate 134 (.map (some b)) (tick s q) (.int .i64 m)).run Tryz.prog w = .ok () w' ∧ ef w' b (n + 1) (fun s' q' => if s' = s ∧ q' = q then m else f s' q') ∧ Ext (fun c => c = b) w w' := by
 obtain ⟨D, h, r⟩ := h
 obtain ⟨w', h1, h2, h3⟩ := World.ownsMap.store h iC Tryz.underlying134 (by unfold maxLen; omega) (jA hs hq) (plainElem_int Tryz.underlying2 hw)
 refine ⟨w', h1, ⟨_, h2, fun s' q' hs' hq' => ?_⟩, ?_⟩
 ·
  have hk : WideAt.IsKeyLit (.string (keyBytes [.int .i64 s, .int .i64 q])) := trivial
  by_cases e : s' = s ∧ q' = q
  ·
   obtain ⟨rfl, rfl⟩ := e
   rw [Maps.has_put_same (World.ownsMap.isMap h) hk, Maps.atKey_put_same (World.ownsMap.isMap h) hk]
   simp [hm]
  have hne : Lit.string (keyBytes [.int .i64 s', .int .i64 q']) ≠ Lit.string (keyBytes [.int .i64 s, .int .i64 q]) := by
   intro e2
   have k1 := jA hs' hq'
   rw [e2] at k1
   have k2 := iC.inj k1 (jA hs hq)
   simp only [tick, Value.agg.injEq, Array.mk.injEq, List.cons.injEq, Value.int.injEq, true_and, and_true] at k2
   exact e k2
  rw [Maps.has_put_other hne, Maps.atKey_put_other hne]
  simp only [if_neg e]
  exact r s' q' hs' hq'
 have g := h3.grown
 obtain ⟨es, clock, es', clock', hb, rfl⟩ := h3
 exact ⟨rfl, rfl, rfl, by simp [ChangeMaps.setBlock], fun k hk hn => g.block k hk (fun e => hn (by simpa using e))⟩
theorem qV (w : World) : ef (w.alloc (.map #[] 0)) w.heap.size 0 (fun _ _ => 0) := ⟨.map [], World.ownsMap_made w _ _ _, fun _ _ _ _ => ⟨rfl, rfl⟩⟩
end Go.Proofs.YtomphbenbnnfgaaGreatDoor

namespace Go.Proofs.YtomphbenbnnfgaaGreatDoor
open Go.RowKit
def eU (v : Value) (mb : Nat) (f : Int → Int) : Array Value := #[v, .map (some mb), .int .i64 (f 0), .int .i64 (f 1), .int .i64 (f 2), .int .i64 (f 3), .int .i64 (f 4), .int .i64 (f 5), .int .i64 (f 6), .int .i64 (f 7), .int .i64 (f 8), .int .i64 (f 9)]
theorem eS (v : Value) (mb : Nat) (f : Int → Int) (i : Nat) (h : i < 10) : (eU v mb f)[2 + i]? = some (.int .i64 (f i)) := by
 match i, h with
 | 0, _ => rfl
 | 1, _ => rfl
 | 2, _ => rfl
 | 3, _ => rfl
 | 4, _ => rfl
 | 5, _ => rfl
 | 6, _ => rfl
 | 7, _ => rfl
 | 8, _ => rfl
 | 9, _ => rfl
theorem oM (v : Value) (mb : Nat) (f : Int → Int) (i : Nat) (h : i < 10) (z : Int) : (eU v mb f).setIfInBounds (2 + i) (.int .i64 z) = eU v mb (fun j => if j = i then z else f j) := by
 match i, h with
 | 0, _ => rfl
 | 1, _ => rfl
 | 2, _ => rfl
 | 3, _ => rfl
 | 4, _ => rfl
 | 5, _ => rfl
 | 6, _ => rfl
 | 7, _ => rfl
 | 8, _ => rfl
 | 9, _ => rfl
theorem cL {w w' : World} {b : Nat} (h : w'.heap[b]? = w.heap[b]?) (o : Nat) : w'.frozen? ⟨b, o, none⟩ = w.frozen? ⟨b, o, none⟩ := by
 unfold World.frozen?
 simp only [h]
structure dC (w : World) (p mb N n : Nat) (ws : List aj) (f : Int → Int) (g : Int → Int → Nat) (v : Value) (rows : List (List Value)) (bls : List (List Nat)) : Prop where
 lt : mb < p
 box : aA 0 (eU v mb f) 137 w p
 grow : bU ab.ag w (p + 1) 44 v rows ws bls
 sub : ∀ b ∈ bls.flatten, p + 1 ≤ b ∧ ∀ o, w.frozen? ⟨b, o, none⟩ = false
 nd : bls.flatten.Nodup
 seen : ef w mb n g
 vy : ∀ b ∈ bls.flatten, b < N
 pZ : ∀ b, v.ownBlock = some b → b < N
 pN : p < N
namespace dC
variable {w w' : World} {p mb N n : Nat} {ws : List aj} {f : Int → Int} {g : Int → Int → Nat} {v : Value} {rows : List (List Value)} {bls : List (List Nat)}
theorem kept (h : dC w p mb N n ws f g v rows bls) {S : Nat → Prop} (e : Ext S w w') (hS : ∀ c, mb ≤ c → c < w.heap.size → ¬ S c) : dC w' p mb N n ws f g v rows bls := by
 have hs : ∀ b ∈ bls.flatten, w'.heap[b]? = w.heap[b]? := fun b hb => e.block b (h.grow.sub_lt b hb) (hS b (by have := (h.sub b hb).1; have := h.lt; omega) (h.grow.sub_lt b hb))
 refine ⟨h.lt, h.box.ext e (hS p (Nat.le_of_lt h.lt) h.box.lt), h.grow.kept ?_ hs, fun b hm => ⟨(h.sub b hm).1, fun o => (cL (hs b hm) o).trans ((h.sub b hm).2 o)⟩, h.nd, h.seen.ext e (hS mb (Nat.le_refl _) h.seen.lt), h.vy, h.pZ, h.pN⟩
 obtain ⟨h1, h2⟩ := h.grow.own
 refine ⟨h1, ?_⟩
 rcases h2 with h2 | ⟨gb, cap, cur, hv, hg, hh, r⟩
 ·
  exact Or.inl h2
 exact Or.inr ⟨gb, cap, cur, hv, hg, (e.block gb (lt_of_block hh) (hS gb (by have := h.lt; omega) (lt_of_block hh))).trans hh, r⟩
theorem later (h : dC w p mb N n ws f g v rows bls) (hb : Below w.heap.size w w') : dC w' p mb N n ws f g v rows bls := h.kept (az hb (fun _ => False)) (fun _ _ _ e => e)
theorem raise (h : dC w p mb N n ws f g v rows bls) {N' : Nat} (hN : N ≤ N') : dC w p mb N' n ws f g v rows bls :=
 ⟨h.lt, h.box, h.grow, h.sub, h.nd, h.seen, fun b hb => Nat.lt_of_lt_of_le (h.vy b hb) hN, fun b hb => Nat.lt_of_lt_of_le (h.pZ b hb) hN, Nat.lt_of_lt_of_le h.pN hN⟩
theorem top (h : dC w p mb N n ws f g v rows bls) : dC w p mb w.heap.size n ws f g v rows bls :=
 ⟨h.lt, h.box, h.grow, h.sub, h.nd, h.seen, fun b hb => h.grow.sub_lt b hb, fun b hb => (h.grow.own.lt b hb).2, h.box.lt⟩
theorem own (h : dC w p mb N n ws f g v rows bls) (hn : ws.length ≤ 9223372036854775807) : (ab.sl ab.ag).aN w [v] ws (p + 1) w.heap.size := h.grow.uI hn h.nd h.sub
theorem added (h : dC w p mb N n ws f g v rows bls) {v' : Value} {rows' : List (List Value)} {ws' : List aj} {bls' : List (List Nat)} (hG : bU ab.ag w' (p + 1) 44 v' rows' ws' bls') (hE : Ext (fun q => v.ownBlock = some q) w w') (hs : ∀ b ∈ bls'.flatten, p + 1 ≤ b ∧ ∀ o, w'.frozen? ⟨b, o, none⟩ = false) (hnd : bls'.flatten.Nodup) :
  dC (w'.setCell ⟨p, 0, none⟩ v') p mb (w'.setCell ⟨p, 0, none⟩ v').heap.size n ws' f g v' rows' bls' := by
 have hb : aA 0 (eU v mb f) 137 w' p := h.box.ext hE (fun e => by have := (h.grow.own.lt p e).1; omega)
 have hb2 : aA 0 (eU v' mb f) 137 (w'.setCell ⟨p, 0, none⟩ v') p := hb.set 0 v'
 have e2 : Ext (fun c => c = p) w' (w'.setCell ⟨p, 0, none⟩ v') := (Ext.refl (fun c => c = p) w').setCell ⟨p, 0, none⟩ v' rfl
 have hk : ∀ b ∈ bls'.flatten, (w'.setCell ⟨p, 0, none⟩ v').heap[b]? = w'.heap[b]? := fun b hb => e2.block b (hG.sub_lt b hb) (by have := (hs b hb).1; omega)
 have hG2 : bU ab.ag (w'.setCell ⟨p, 0, none⟩ v') (p + 1) 44 v' rows' ws' bls' := hG.kept (ik (a := ⟨p, 0, none⟩) hG.own (by simp) v') hk
 refine ⟨h.lt, hb2, hG2, fun b hm => ⟨(hs b hm).1, fun o => (cL (hk b hm) o).trans ((hs b hm).2 o)⟩, hnd, ?_, fun b hm => hG2.sub_lt b hm, fun b hm => (hG2.own.lt b hm).2, hb2.lt⟩
 exact (h.seen.ext hE (fun e => by have := (h.grow.own.lt mb e).1; have := h.lt; omega)).ext e2 (by have := h.lt; omega)
theorem marked (h : dC w p mb N n ws f g v rows bls) {n' : Nat} {g' : Int → Int → Nat} (hE : Ext (fun c => c = mb) w w') (hT : ef w' mb n' g') : dC w' p mb N n' ws f g' v rows bls := by
 have hs : ∀ b ∈ bls.flatten, w'.heap[b]? = w.heap[b]? := fun b hb => hE.block b (h.grow.sub_lt b hb) (by have := (h.sub b hb).1; have := h.lt; omega)
 refine ⟨h.lt, h.box.ext hE (by have := h.lt; omega), h.grow.kept ?_ hs, fun b hm => ⟨(h.sub b hm).1, fun o => (cL (hs b hm) o).trans ((h.sub b hm).2 o)⟩, h.nd, hT, h.vy, h.pZ, h.pN⟩
 obtain ⟨h1, h2⟩ := h.grow.own
 refine ⟨h1, ?_⟩
 rcases h2 with h2 | ⟨gb, cap, cur, hv, hg, hh, r⟩
 ·
  exact Or.inl h2
 exact Or.inr ⟨gb, cap, cur, hv, hg, (hE.block gb (lt_of_block hh) (by have := h.lt; omega)).trans hh, r⟩
theorem sm (h : dC w p mb N n ws f g v rows bls) (i : Nat) (hi : i < 10) (z : Int) : dC (w.setCell ⟨p, 2 + i, none⟩ (.int .i64 z)) p mb N n ws (fun j => if j = i then z else f j) g v rows bls := by
 have e2 : Ext (fun c => c = p) w (w.setCell ⟨p, 2 + i, none⟩ (.int .i64 z)) := (Ext.refl (fun c => c = p) w).setCell ⟨p, 2 + i, none⟩ _ rfl
 have hs : ∀ b ∈ bls.flatten, (w.setCell ⟨p, 2 + i, none⟩ (.int .i64 z)).heap[b]? = w.heap[b]? := fun b hb => e2.block b (h.grow.sub_lt b hb) (by have := (h.sub b hb).1; omega)
 refine ⟨h.lt, ?_, h.grow.kept (ik (a := ⟨p, 2 + i, none⟩) h.grow.own (by simp) _) hs, fun b hm => ⟨(h.sub b hm).1, fun o => (cL (hs b hm) o).trans ((h.sub b hm).2 o)⟩, h.nd, h.seen.ext e2 (by have := h.lt; omega), h.vy, h.pZ, h.pN⟩
 rw [← oM v mb f i hi z]
 exact h.box.set (2 + i) _
theorem same (h : dC w p mb N n ws f g v rows bls) {n' : Nat} {f' : Int → Int} {g' : Int → Int → Nat} (hn : n ≤ n') (hf : ∀ j, f j = f' j) (hg : ∀ s q, g s q = g' s q) : dC w p mb N n' ws f' g' v rows bls := by
 rw [funext hf] at h
 exact ⟨h.lt, h.box, h.grow, h.sub, h.nd, (h.seen.mono hn).congr hg, h.vy, h.pZ, h.pN⟩
end dC
abbrev Told (w : World) (p mb N : Nat) (ws : List aj) (v : Value) (rows : List (List Value)) (bls : List (List Nat)) : Prop := dC w p mb N ws.length ws (aT ws) (fun s q => ck ws s q) v rows bls
theorem si (w : World) : Told ((w.alloc (.map #[] 0)).alloc (.cells (eU (.slice none 0 0) w.heap.size (aT [])) 137)) (w.heap.size + 1) w.heap.size ((w.alloc (.map #[] 0)).alloc (.cells (eU (.slice none 0 0) w.heap.size (aT [])) 137)).heap.size [] (.slice none 0 0) [] [] := by
 have e : (w.alloc (.map #[] 0)).heap.size = w.heap.size + 1 := by simp
 have b : aA 0 (eU (.slice none 0 0) w.heap.size (aT [])) 137 ((w.alloc (.map #[] 0)).alloc (.cells (eU (.slice none 0 0) w.heap.size (aT [])) 137)) (w.alloc (.map #[] 0)).heap.size := aD (Nat.zero_le _)
 rw [e] at b
 refine ⟨by omega, b, bU.nil ⟨by simp, Or.inl ⟨rfl, rfl⟩⟩, by simp, by simp, ?_, by simp, by simp [Value.ownBlock], b.lt⟩
 exact (qV w).ext (az ((Below.refl _ _).alloc (Nat.le_refl _) _) (fun _ => False)) (fun h => h)
def ta (ea : Addr) (w : World) : Prop := w.cell? ⟨0, 0, none⟩ = some (.iface 318 (.pointer (some ea)))
def iG (ea : Addr) (ws : List aj) (x : aj) : Value := if x.seq < aT ws x.aa then .iface 285 (.agg #[.int .i64 x.seq, .int .i64 (aT ws x.aa)]) else if 200 ≤ ws.length then .iface 318 (.pointer (some ea)) else .nilIface
theorem rR {w : World} {p mb N : Nat} {ws : List aj} {v : Value} {rows : List (List Value)} {bls : List (List Nat)} (h : Told w p mb N ws v rows bls) (x : aj) (a2 : Option Addr) (d2 : Nat) (hf : wF x = 0) (ea : Addr) (he : ta ea w) :
  Calls Tryz.prog 222 #[.pointer (some ⟨p, 0, none⟩), .agg #[.int .i64 x.kind, .int .i64 x.id, .slice a2 x.vec.length d2, .int .i64 x.aa, .int .i64 x.seq]] w fun e w' => e = .returned (iG ea ws x) ∧ Below w.heap.size w w' := by
 have nb : Below w.heap.size w (w.alloc (.cells #[.int .i64 x.kind, .int .i64 x.id, .slice a2 x.vec.length d2, .int .i64 x.aa, .int .i64 x.seq] 44)) := (Below.refl _ _).alloc (Nat.le_refl _) _
 have hQ0 : aA 0 #[.int .i64 x.kind, .int .i64 x.id, .slice a2 x.vec.length d2, .int .i64 x.aa, .int .i64 x.seq] 44 (w.alloc (.cells #[.int .i64 x.kind, .int .i64 x.id, .slice a2 x.vec.length d2, .int .i64 x.aa, .int .i64 x.seq] 44)) w.heap.size := aD (Nat.zero_le _)
 have hT0 := h.later nb
 have hE0 := (nb.cell (p := ⟨0, 0, none⟩) (World.block_lt_of_cell? _ _ he)).trans he
 have HB := yh nb.drew
 obtain ⟨b1, b9, q1, q9⟩ := jZ hf
 have hs9 : x.aa.toNat < 10 := by omega
 have hsi : (x.aa.toNat : Int) = x.aa := by omega
 have i1 : (0 : Int) ≤ x.aa := by omega
 have i2 : x.aa < 10 := by omega
 have hpw := h.box.lt
 have hvf : ∃ ao cap, v = .slice ao ws.length cap := by
  rcases h.grow.form with ⟨rfl, rfl⟩ | ⟨g, cap, rfl, -⟩
  ·
   exact ⟨_, _, rfl⟩
  exact ⟨_, _, rfl⟩
 obtain ⟨ao, cap, rfl⟩ := hvf
 clear nb h he hf
 go_enter Tryz.func222, Tryz.ntmps222
 go_wp2_with fail
 generalize w.alloc (.cells #[.int .i64 x.kind, .int .i64 x.id, .slice a2 x.vec.length d2, .int .i64 x.aa, .int .i64 x.seq] 44) = W0 at *
 refine wZz (fun w' => w' = W0.drew) rfl (fun zq => ?_)
 refine tkH 0 zq ?_
 refine tkH 1 zq ?_
 refine tkJ 2 (v := ?vr2) ?hr2 zq ?rr2
 case hr2 =>
  intro wS hSw
  have y3 : wS.cell? ⟨w.heap.size, 3, none⟩ = some (.int .i64 x.aa) := by rw [hSw]; exact hQ0.at 3 _ rfl
  have zl : wS.cell? ⟨p, 2 + x.aa.toNat, none⟩ = some (.int .i64 (aT ws x.aa)) := by
   have := hT0.box.at _ _ (eS _ mb (aT ws) x.aa.toNat hs9)
   rw [hsi] at this
   rw [hSw]; exact this
  clear hSw
  exact fZ
 refine tkH 3 zq ?_
 refine tkH 4 zq ?_
 refine tkH 5 zq ?_
 refine tkJ 6 (v := ?vr6) ?hr6 zq ?rr6
 case hr6 =>
  intro wS hSw
  have y3 : wS.cell? ⟨w.heap.size, 3, none⟩ = some (.int .i64 x.aa) := by rw [hSw]; exact hQ0.at 3 _ rfl
  have zl : wS.cell? ⟨p, 2 + x.aa.toNat, none⟩ = some (.int .i64 (aT ws x.aa)) := by
   have := hT0.box.at _ _ (eS _ mb (aT ws) x.aa.toNat hs9)
   rw [hsi] at this
   rw [hSw]; exact this
  clear hSw
  exact fZ
 refine tkH 7 zq ?_
 refine dZ ?_
 clear zq
 have y4 : W0.drew.cell? ⟨w.heap.size, 4, none⟩ = some (.int .i64 x.seq) := hQ0.at 4 _ rfl
 have z0 : W0.drew.cell? ⟨p, 0, none⟩ = some (.slice ao ws.length cap) := hT0.box.at 0 _ rfl
 have hE1 : W0.drew.cell? ⟨0, 0, none⟩ = some (.iface 318 (.pointer (some ea))) := hE0
 generalize W0.drew = W2 at *
 clear hQ0 hT0 hE0
 by_cases c1 : x.seq < aT ws x.aa
 ·
  have hd : decide (x.seq < aT ws x.aa) = true := by simpa using c1
  have HV : Hid (iG ea ws x = .iface 285 (.agg #[.int .i64 x.seq, .int .i64 (aT ws x.aa)])) := if_pos c1
  clear c1 hsi
  go_wp2_with fail
  go_ret
  exact ⟨by rw [uh HV]; first | done | rfl, uh HB⟩
 ·
  have hd : decide (x.seq < aT ws x.aa) = false := by simpa using c1
  by_cases c2 : 200 ≤ ws.length
  ·
   have hd2 : decide ((200 : Int) ≤ (ws.length : Int)) = true := by simp; omega
   have HV : Hid (iG ea ws x = .iface 318 (.pointer (some ea))) := by show iG ea ws x = _; rw [iG, if_neg c1, if_pos c2]
   clear c1 c2 hsi
   go_wp2_with fail
   go_ret
   exact ⟨by rw [uh HV]; first | done | rfl, uh HB⟩
  ·
   have hd2 : decide ((200 : Int) ≤ (ws.length : Int)) = false := by simp; omega
   have HV : Hid (iG ea ws x = .nilIface) := by show iG ea ws x = _; rw [iG, if_neg c1, if_neg c2]
   clear c1 c2 hsi
   go_wp2_with fail
   go_ret
   exact ⟨by rw [uh HV]; first | done | rfl, uh HB⟩
def ix (w : World) : Prop := mf w ∧ ∃ ea, ta ea w
theorem mf.later {w w' : World} (h : mf w) (hb : Below w.heap.size w w') : mf w' := (hb.cell (p := ⟨1, 0, none⟩) (World.block_lt_of_cell? _ _ h)).trans h
theorem ta.later {ea : Addr} {w w' : World} (h : ta ea w) (hb : Below w.heap.size w w') : ta ea w' := (hb.cell (p := ⟨0, 0, none⟩) (World.block_lt_of_cell? _ _ h)).trans h
theorem ix.later {w w' : World} (h : ix w) (hb : Below w.heap.size w w') : ix w' := ⟨h.1.later hb, h.2.elim fun ea he => ⟨ea, he.later hb⟩⟩
end Go.Proofs.YtomphbenbnnfgaaGreatDoor
