/-
  Texts of this proof in one: LayLog, Info, Ints, LayInt, SzInt64S, SzLog, ToLog, EqLog, LawXLogFault.
  Their conditions stand in their theorems.
-/
import Derived.Test.YtipomhpimmnchaaFq01
import Derived.Test.YtipomhpimmnchaaChecked
import Derived.WalkKit
import Derived.BigQuiet
import Derived.Deep.QuietTactic
import Derived.WalkSmall
import Derived.Deep.RegionHeld3
import Derived.Deep.CutRange

namespace Go.Proofs.Ytipomhpimmnchaa
open Go.RowKit

structure DLog where
  sure : List Int
  loose : List Int

def Lay.tLog : Lay DLog := Lay.via (Lay.pair (Lay.sl Lay.int) (Lay.sl Lay.int)) (fun x => (x.sure, x.loose)) (fun p => ⟨p.1, p.2⟩)

theorem lies_Log {w : World} {cs : List Value} {x : DLog} {bl : List Nat} : Lay.tLog.lies w cs x bl ↔ ∃ (a0 : Option Addr) (d0 : Nat) (b0 : List Nat) (a1 : Option Addr) (d1 : Nat) (b1 : List Nat), cs = [.slice a0 x.sure.length d0, .slice a1 x.loose.length d1] ∧ bl = b0 ++ b1 ∧ (Lay.sl Lay.int).lies w [.slice a0 x.sure.length d0] x.sure b0 ∧ (Lay.sl Lay.int).lies w [.slice a1 x.loose.length d1] x.loose b1 := by
  constructor
  · intro h
    obtain ⟨c0_, r0_, e0_, s0_, rfl, rfl, h0, h1⟩ := h
    have k0 := h0
    obtain ⟨a0, d0, rfl, -⟩ := k0
    have k1 := h1
    obtain ⟨a1, d1, rfl, -⟩ := k1
    exact ⟨a0, d0, e0_, a1, d1, s0_, by simp, by simp, h0, h1⟩
  · rintro ⟨a0, d0, b0, a1, d1, b1, rfl, hbl, l0, l1⟩
    rw [hbl]
    exact ⟨[.slice a0 x.sure.length d0], [.slice a1 x.loose.length d1], b0, b1, rfl, by simp, l0, l1⟩

theorem open_Log {w : World} {cs : List Value} {x : DLog} (h : Lay.tLog.Reads w cs x) : ∃ (a0 : Option Addr) (d0 : Nat) (a1 : Option Addr) (d1 : Nat), cs = [.slice a0 x.sure.length d0, .slice a1 x.loose.length d1] ∧ (Lay.sl Lay.int).Reads w [.slice a0 x.sure.length d0] x.sure ∧ (Lay.sl Lay.int).Reads w [.slice a1 x.loose.length d1] x.loose := by
  obtain ⟨bl, h⟩ := h
  obtain ⟨a0, d0, b0, a1, d1, b1, rfl, -, l0, l1⟩ := lies_Log.1 h
  exact ⟨a0, d0, a1, d1, rfl, ⟨_, l0⟩, ⟨_, l1⟩⟩

end Go.Proofs.Ytipomhpimmnchaa

namespace Go.Proofs.Ytipomhpimmnchaa

theorem info2 : (Try.prog.info? 2).map (fun i => (i.zero, i.size, i.bytes)) = some (some (.int .i64 0), 1, 8) := by kernel_rfl

end Go.Proofs.Ytipomhpimmnchaa

namespace Go.Proofs.Ytipomhpimmnchaa
open Go.RowKit

set_option maxHeartbeats 400000 in
theorem toInts_pos (b off cap : Nat) (zs : List Int) (w : World) (hn : zs.length ≤ 1048576) (hc : ∀ j, j < zs.length → w.cell? ⟨b, off + j, none⟩ = some (.int .i64 (zs.getD j 0))) :
    Calls Try.prog 21 #[.slice (some ⟨b, off, none⟩) zs.length cap] w fun e w' => e = .returned (.slice (some ⟨w.heap.size, 0, none⟩) zs.length zs.length) ∧
      w'.ownsRow w.heap.size 2 1 (.slice (some ⟨w.heap.size, 0, none⟩) zs.length zs.length) zs.length (zs.map (Value.int .i64)) ∧ Below w.heap.size w w' := by
  obtain ⟨i0, hi, hz0, hz1, hz2⟩ := info_parts info2
  go_enter Try.func21, Try.ntmps21
  go_wp2_with (at_make; refine wpList_make_full _ rfl _ _ 24 rfl w.heap.size 2 i0 (.int .i64 0) 1 Try.underlying24 hi hz0 hz1 _ _ _ _ zs.length rfl rfl rfl rfl ?c1 ?c2 ?c3 ?_)
  case c1 => rw [hz2]; omega
  case c2 => unfold maxLen; omega
  case c3 => exact Nat.le_refl _
  intro w1 hown1 hgrow1
  have hB1 : Below w.heap.size w w1 := (Below.refl _ _).grown hgrow1 (Nat.le_refl _) (by simp)
  rw [toList_madeCells_one] at hown1
  clear hgrow1 hi hz0 hz1 hz2
  go_wp2
  go_loopw [4] (fun i wr => ∃ k : Nat, k ≤ zs.length ∧ i = .int .i64 k ∧ wr.ownsRow w.heap.size 2 1 (.slice (some ⟨w.heap.size, 0, none⟩) zs.length zs.length) zs.length ((zs.take k).map (Value.int .i64) ++ List.replicate (zs.length - k) (Value.int .i64 0)) ∧ Below w.heap.size w wr)
    (fun i _ => zs.length - (intOf i).toNat)
  case atStart => exact ⟨0, Nat.zero_le _, rfl, by simpa using hown1, hB1⟩
  case round =>
    obtain ⟨k, hk, rfl, hown, hB⟩ := hrel
    clear hown1 hB1
    by_cases hlt : k < zs.length
    · have hcx : wr.cell? ⟨b, off + k, none⟩ = some (.int .i64 (zs.getD k 0)) := (hB.cell (World.block_lt_of_cell? _ _ (hc k hlt))).trans (hc k hlt)
      have hcd : ∃ u, wr.cell? ⟨w.heap.size, k, none⟩ = some u := by
        rw [hown.cellAt k (by omega)]
        exact ⟨_, List.getElem?_eq_getElem (by simp; omega)⟩
      obtain ⟨u, hcd⟩ := hcd
      have hfz := hown.frozenAt k
      have hst := hown.stored k (.int .i64 (zs.getD k 0))
      rw [set_fill zs k hlt] at hst
      have R := hst.1
      have hB2 : Below w.heap.size w (wr.setCell ⟨w.heap.size, k, none⟩ (.int .i64 (zs.getD k 0))) := hB.setCell (by simp) _
      clear hst hown hB
      go_wp2
      go_roundw
      case rel => exact ⟨k + 1, by omega, by go_num, by simpa [hlt] using R, by simpa [hlt] using hB2⟩
      case measure => simp [intOf]; omega
    · have hk2 : k = zs.length := by omega
      go_wp2
      go_ret
      subst hk2
      exact ⟨rfl, by simpa using hown, hB⟩

set_option maxHeartbeats 400000 in
theorem toInts_zero (ao : Option Addr) (cap : Nat) (w : World) :
    Calls Try.prog 21 #[.slice ao 0 cap] w fun e w' => e = .returned (.slice (some ⟨w.heap.size, 0, none⟩) 0 0) ∧
      w'.ownsRow w.heap.size 2 1 (.slice (some ⟨w.heap.size, 0, none⟩) 0 0) 0 [] ∧ Below w.heap.size w w' := by
  obtain ⟨i0, hi, hz0, hz1, hz2⟩ := info_parts info2
  go_enter Try.func21, Try.ntmps21
  go_wp2_with (at_make; refine wpList_make_full _ rfl _ _ 24 rfl w.heap.size 2 i0 (.int .i64 0) 1 Try.underlying24 hi hz0 hz1 _ _ _ _ 0 rfl rfl rfl rfl ?c1 ?c2 ?c3 ?_)
  case c1 => rw [hz2]; omega
  case c2 => unfold maxLen; omega
  case c3 => exact Nat.le_refl _
  intro w1 hown1 hgrow1
  have hB1 : Below w.heap.size w w1 := (Below.refl _ _).grown hgrow1 (Nat.le_refl _) (by simp)
  clear hgrow1 hi hz0 hz1 hz2
  rw [toList_madeCells_one] at hown1
  go_wp2
  refine wp_loop_rounds 1 ?_
  rw [rounds_succ]
  go_wp2
  go_ret
  exact ⟨rfl, by simpa using hown1, hB1⟩

/-- toInt64S: a new slice of the same numbers. -/
theorem toInts (v : Value) (zs : List Int) (w : World) (h : IsInts w v zs) (hn : zs.length ≤ 1048576) :
    Calls Try.prog 21 #[v] w fun e w' => ∃ v', e = .returned v' ∧ v' = .slice (some ⟨w.heap.size, 0, none⟩) zs.length zs.length ∧
      w'.ownsRow w.heap.size 2 1 v' zs.length (zs.map (Value.int .i64)) ∧ IsInts w' v' zs ∧ Below w.heap.size w w' := by
  obtain ⟨ao, cap, rfl, hwf, hc⟩ := h
  by_cases hp : 0 < zs.length
  · obtain ⟨b, off, rfl, hc1⟩ := hc hp
    refine (toInts_pos b off cap zs w hn hc1).mono ?_
    rintro e w' ⟨rfl, ho, hb⟩
    exact ⟨_, rfl, rfl, ho, isInts_owned hwf ho, hb⟩
  · have hz : zs = [] := List.eq_nil_of_length_eq_zero (by omega)
    subst hz
    refine (toInts_zero ao cap w).mono ?_
    rintro e w' ⟨rfl, ho, hb⟩
    exact ⟨_, rfl, rfl, ho, isInts_owned hwf ho, hb⟩

set_option maxHeartbeats 400000 in
theorem eqInts_pos (b off cap b2 off2 cap2 : Nat) (zs : List Int) (w : World) (hn : zs.length ≤ 9223372036854775807) (hc : ∀ j, j < zs.length → w.cell? ⟨b, off + j, none⟩ = some (.int .i64 (zs.getD j 0)))
    (hc2 : ∀ j, j < zs.length → w.cell? ⟨b2, off2 + j, none⟩ = some (.int .i64 (zs.getD j 0))) :
    Calls Try.prog 24 #[.slice (some ⟨b, off, none⟩) zs.length cap, .slice (some ⟨b2, off2, none⟩) zs.length cap2] w fun e w' => e = .returned (.bool true) ∧ Below w.heap.size w w' := by
  go_enter Try.func24, Try.ntmps24
  go_wp2
  go_loopw [5] (fun i wr => ∃ k : Nat, k ≤ zs.length ∧ i = .int .i64 k ∧ Below w.heap.size w wr) (fun i _ => zs.length - (intOf i).toNat)
  case atStart => exact ⟨0, Nat.zero_le _, rfl, Below.refl _ _⟩
  case round =>
    obtain ⟨k, hk, rfl, hB⟩ := hrel
    by_cases hlt : k < zs.length
    · have hcx : wr.cell? ⟨b, off + k, none⟩ = some (.int .i64 (zs.getD k 0)) := (hB.cell (World.block_lt_of_cell? _ _ (hc k hlt))).trans (hc k hlt)
      have hcy : wr.cell? ⟨b2, off2 + k, none⟩ = some (.int .i64 (zs.getD k 0)) := (hB.cell (World.block_lt_of_cell? _ _ (hc2 k hlt))).trans (hc2 k hlt)
      clear hc hc2
      go_wp2
      go_quiet (fail)
      go_wp2
      go_roundw
      case rel => exact ⟨k + 1, by omega, by go_num, below_drewN hB _⟩
      case measure => simp [intOf]; omega
    · go_wp2
      go_ret
      exact ⟨rfl, hB⟩

set_option maxHeartbeats 400000 in
theorem eqInts_zero (ao ao2 : Option Addr) (cap cap2 : Nat) (w : World) :
    Calls Try.prog 24 #[.slice ao 0 cap, .slice ao2 0 cap2] w fun e w' => e = .returned (.bool true) ∧ Below w.heap.size w w' := by
  go_enter Try.func24, Try.ntmps24
  go_wp2
  refine wp_loop_rounds 1 ?_
  rw [rounds_succ]
  go_wp2
  go_ret
  exact ⟨rfl, Below.refl _ _⟩

/-- eqInt64S: two slices of the same numbers are the same. -/
theorem eqIntsBig (v v2 : Value) (zs : List Int) (w : World) (h : IsInts w v zs) (h2 : IsInts w v2 zs) (hn : zs.length ≤ 9223372036854775807) :
    Calls Try.prog 24 #[v, v2] w fun e w' => e = .returned (.bool true) ∧ Below w.heap.size w w' := by
  obtain ⟨ao, cap, rfl, hwf, hc⟩ := h
  obtain ⟨ao2, cap2, rfl, _, hc2⟩ := h2
  by_cases hp : 0 < zs.length
  · obtain ⟨b, off, rfl, hc1⟩ := hc hp
    obtain ⟨b2, off2, rfl, hc3⟩ := hc2 hp
    exact eqInts_pos b off cap b2 off2 cap2 zs w hn hc1 hc3
  · have hz : zs = [] := List.eq_nil_of_length_eq_zero (by omega)
    subst hz
    exact eqInts_zero ao ao2 cap cap2 w
theorem eqInts (v v2 : Value) (zs : List Int) (w : World) (h : IsInts w v zs) (h2 : IsInts w v2 zs) (hn : zs.length ≤ 1048576) :
    Calls Try.prog 24 #[v, v2] w fun e w' => e = .returned (.bool true) ∧ Below w.heap.size w w' := eqIntsBig v v2 zs w h h2 (by omega)

end Go.Proofs.Ytipomhpimmnchaa

namespace Go.Proofs.Ytipomhpimmnchaa
open Go.RowKit

theorem sz_ints (zs : List Int) : (Lay.sl Lay.int).sz zs = zs.length := by
  show zs.length + cntAll (fun _ => 0) zs = zs.length
  have : cntAll (fun _ : Int => 0) zs = 0 := by induction zs with
    | nil => rfl
    | cons z zs ih => simpa [cntAll] using ih
  omega

theorem to_Int64S (v : Value) (zs : List Int) (w : World) (h : (Lay.sl Lay.int).Reads w [v] zs) (hn : (Lay.sl Lay.int).sz zs ≤ 1048576) :
    Calls Try.prog 21 #[v] w fun e w' => ∃ v', e = .returned v' ∧ (Lay.sl Lay.int).OwnIn w' [v'] zs w.heap.size w'.heap.size ∧ Below w.heap.size w w' := by
  rw [sz_ints] at hn
  have hi := Lay.ints_reads h
  refine (toInts v zs w hi hn).mono ?_
  rintro e w' ⟨v', rfl, -, ho, -, hb⟩
  exact ⟨v', rfl, Lay.ownInts hi.wf (by omega) ho, hb⟩

theorem eq_Int64S (v v2 : Value) (zs : List Int) (w : World) (h : (Lay.sl Lay.int).Reads w [v] zs) (h2 : (Lay.sl Lay.int).Reads w [v2] zs) :
    Calls Try.prog 24 #[v, v2] w fun e w' => e = .returned (.bool true) ∧ Below w.heap.size w w' :=
  eqIntsBig v v2 zs w (Lay.ints_reads h) (Lay.ints_reads h2) h.big

end Go.Proofs.Ytipomhpimmnchaa

namespace Go.Proofs.Ytipomhpimmnchaa
open Go.RowKit

set_option maxHeartbeats 400000 in
theorem sz_Int64S (v : Value) (zs : List Int) (l : Nat) (w : World) (h : (Lay.sl Lay.int).Reads w [v] zs) (hl : l ≤ 1048576) :
    Calls Try.prog 61 #[v, .int .i64 l] w fun e w' => e = .returned (.int .i64 (szR l ((Lay.sl Lay.int).sz zs))) ∧ Below w.heap.size w w' := by
  have hb := h.big
  obtain ⟨ao, cap, rfl⟩ := open_sl h
  rw [sz_ints]
  generalize zs.length = n at *
  clear h
  by_cases hn : n ≤ l
  · rw [szR_ok hn]
    have e1 : (l : Int) - (n : Int) = ((l - n : Nat) : Int) := by omega
    have e2 : decide (((l - n : Nat) : Int) < 0) = false := by simp
    go_enter Try.func61, Try.ntmps61
    go_wp2_with fail
    go_ret
    exact ⟨rfl, Below.refl _ _⟩
  · rw [szR_many (by omega)]
    have e2 : decide ((l : Int) - (n : Int) < 0) = true := by simp; omega
    go_enter Try.func61, Try.ntmps61
    go_wp2_with fail
    go_ret
    exact ⟨rfl, Below.refl _ _⟩

end Go.Proofs.Ytipomhpimmnchaa

namespace Go.Proofs.Ytipomhpimmnchaa
open Go.RowKit

theorem szsum_Log (x : DLog) : Lay.tLog.sz x = (Lay.sl Lay.int).sz x.sure + (Lay.sl Lay.int).sz x.loose := by
  show (Lay.sl Lay.int).sz x.sure + ((Lay.sl Lay.int).sz x.loose) = (Lay.sl Lay.int).sz x.sure + (Lay.sl Lay.int).sz x.loose
  omega
set_option maxRecDepth 10000 in
set_option maxHeartbeats 1000000 in
theorem sz_Log (cs : List Value) (x : DLog) (l : Nat) (w : World) (h : Lay.tLog.Reads w cs x) (hl : l ≤ 1048576) :
    Calls Try.prog 28 #[.agg cs.toArray, .int .i64 l] w fun e w' => e = .returned (.int .i64 (szR l (Lay.tLog.sz x))) ∧ Below w.heap.size w w' := by
  obtain ⟨a0, d0, a1, d1, rfl, R0, R1⟩ := open_Log h
  clear h
  have HB0 : Below w.heap.size w (w.alloc (.cells #[.slice a0 x.sure.length d0, .slice a1 x.loose.length d1] 45)) := (Below.refl _ _).alloc (Nat.le_refl _) _
  have bA : Box w.heap.size #[.slice a0 x.sure.length d0, .slice a1 x.loose.length d1] 45 (w.alloc (.cells #[.slice a0 x.sure.length d0, .slice a1 x.loose.length d1] 45)) w.heap.size := newBox (Nat.le_refl _)
  have HV := hide (szsum_Log x)
  go_enter Try.func28, Try.ntmps28
  go_wp2_with fail
  generalize w.alloc (.cells #[.slice a0 x.sure.length d0, .slice a1 x.loose.length d1] 45) = W0 at *
  replace R0 := R0.later HB0
  replace R1 := R1.later HB0
  refine (sz_Int64S _ x.sure (l) _ R0 (by omega)).mono ?_
  rintro e w1 ⟨rfl, hb⟩
  replace HB0 := HB0.trans (hb.mono HB0.size)
  replace bA := bA.keep hb
  replace R1 := R1.later hb
  clear hb R0
  by_cases hs0 : (Lay.sl Lay.int).sz x.sure ≤ l
  · rw [szR_ok hs0]
    have hq : decide (((l - (Lay.sl Lay.int).sz x.sure : Nat) : Int) < 0) = false := by simp
    have p1 := bA.at 1 _ rfl
    have HX := hide HB0
    have HA := hide bA
    clear HB0 bA
    have P1 := hide R1
    clear R1
    go_wp2_with fail
    clear hq
    have HB0 := unhide HX
    have bA := unhide HA
    clear HX HA
    have R1 := unhide P1
    clear P1
    clear p1
    refine (sz_Int64S _ x.loose (l - (Lay.sl Lay.int).sz x.sure) _ R1 (by omega)).mono ?_
    rintro e w2 ⟨rfl, hb⟩
    replace HB0 := HB0.trans (hb.mono HB0.size)
    replace bA := bA.keep hb
    clear hb R1
    by_cases hs1 : (Lay.sl Lay.int).sz x.loose ≤ l - (Lay.sl Lay.int).sz x.sure
    · rw [szR_ok hs1]
      have hq : decide (((l - (Lay.sl Lay.int).sz x.sure - (Lay.sl Lay.int).sz x.loose : Nat) : Int) < 0) = false := by simp
      have HX := hide HB0
      have HA := hide bA
      clear HB0 bA
      go_wp2_with fail
      clear hq
      go_ret
      refine ⟨?_, unhide HX⟩
      rw [unhide HV, szR_ok (by omega), show l - ((Lay.sl Lay.int).sz x.sure + (Lay.sl Lay.int).sz x.loose) = l - (Lay.sl Lay.int).sz x.sure - (Lay.sl Lay.int).sz x.loose by omega]
      rfl
    · rw [szR_many (by omega)]
      have HX := hide HB0
      clear HB0 bA
      go_wp2_with fail
      go_ret
      refine ⟨?_, unhide HX⟩
      rw [unhide HV, szR_many (by omega)]
      rfl
  · rw [szR_many (by omega)]
    have HX := hide HB0
    clear HB0 bA
    go_wp2_with fail
    go_ret
    refine ⟨?_, unhide HX⟩
    rw [unhide HV, szR_many (by omega)]
    rfl

end Go.Proofs.Ytipomhpimmnchaa

namespace Go.Proofs.Ytipomhpimmnchaa
open Go.RowKit

set_option maxRecDepth 10000 in
set_option maxHeartbeats 2000000 in
theorem to_Log (cs : List Value) (x : DLog) (w : World) (h : Lay.tLog.Reads w cs x) (hn : Lay.tLog.sz x ≤ 1048576) :
    Calls Try.prog 30 #[.agg cs.toArray] w fun e w' => ∃ cs', e = .returned (.agg cs'.toArray) ∧ Lay.tLog.OwnIn w' cs' x w.heap.size w'.heap.size ∧ Below w.heap.size w w' := by
  obtain ⟨a0, d0, a1, d1, rfl, R0, R1⟩ := open_Log h
  clear h
  rw [szsum_Log] at hn
  have HB0 : Below w.heap.size w (((w.alloc (.cells #[.slice a0 x.sure.length d0, .slice a1 x.loose.length d1] 45)).alloc (.cells #[.slice none 0 0, .slice none 0 0] 48)).alloc (.cells #[.slice none 0 0, .slice none 0 0] 48)) := (((Below.refl _ _).alloc (Nat.le_refl _) _).alloc (by simp) _).alloc (by simp; omega) _
  have bA : Box w.heap.size #[.slice a0 x.sure.length d0, .slice a1 x.loose.length d1] 45 (((w.alloc (.cells #[.slice a0 x.sure.length d0, .slice a1 x.loose.length d1] 45)).alloc (.cells #[.slice none 0 0, .slice none 0 0] 48)).alloc (.cells #[.slice none 0 0, .slice none 0 0] 48)) w.heap.size := ((newBox (Nat.le_refl _)).grow _).grow _
  have bR : Box w.heap.size #[.slice none 0 0, .slice none 0 0] 48 (((w.alloc (.cells #[.slice a0 x.sure.length d0, .slice a1 x.loose.length d1] 45)).alloc (.cells #[.slice none 0 0, .slice none 0 0] 48)).alloc (.cells #[.slice none 0 0, .slice none 0 0] 48)) (w.heap.size + 1) := (newBoxAt (by omega) (by simp)).grow _
  have bX : Box w.heap.size #[.slice none 0 0, .slice none 0 0] 48 (((w.alloc (.cells #[.slice a0 x.sure.length d0, .slice a1 x.loose.length d1] 45)).alloc (.cells #[.slice none 0 0, .slice none 0 0] 48)).alloc (.cells #[.slice none 0 0, .slice none 0 0] 48)) (w.heap.size + 2) := newBoxAt (by omega) (by simp)
  have hz0 : w.heap.size + 3 ≤ (((w.alloc (.cells #[.slice a0 x.sure.length d0, .slice a1 x.loose.length d1] 45)).alloc (.cells #[.slice none 0 0, .slice none 0 0] 48)).alloc (.cells #[.slice none 0 0, .slice none 0 0] 48)).heap.size := by simp
  go_enter Try.func30, Try.ntmps30
  go_wp2_with fail
  generalize ((w.alloc (.cells #[.slice a0 x.sure.length d0, .slice a1 x.loose.length d1] 45)).alloc (.cells #[.slice none 0 0, .slice none 0 0] 48)).alloc (.cells #[.slice none 0 0, .slice none 0 0] 48) = W0 at *
  replace R0 := R0.liesIn.later HB0
  replace R1 := R1.liesIn.later HB0
  refine (to_Int64S _ x.sure W0 R0.reads (by omega)).mono ?_
  rintro e w1 ⟨v0, rfl, O0, hb⟩
  have Z0 : W0.heap.size ≤ w1.heap.size := hb.size
  replace HB0 := HB0.trans (hb.mono HB0.size)
  replace bA := bA.keep hb
  replace bR := bR.keep hb
  replace bX := bX.keep hb
  replace R1 := R1.later hb
  clear hb R0
  obtain ⟨a0z, d0z, rfl⟩ := open_sl O0.reads
  have p1 := bA.at 1 _ rfl
  have q0 := bX.at 0 _ rfl
  have qf := bX.soft
  have ql := bX.lt
  have pl := bA.lt
  simp only [List.getElem_toArray, List.getElem_cons_zero, List.getElem_cons_succ] at p1 q0
  have hA := hide bA
  have hR := hide bR
  have hX := hide bX
  have hB := hide HB0
  clear bA bR bX HB0
  have hO0 := hide O0
  clear O0
  have hR1 := hide R1
  clear R1
  go_wp2_with fail
  clear p1 q0 qf ql pl
  have E : Ext (fun q => q = w.heap.size + 2) w1 (w1.setCell ⟨w.heap.size + 2, 0, none⟩ (.slice a0z x.sure.length d0z)) := ext_setL (Ext.refl _ _) (w.heap.size + 2) [(0, .slice a0z x.sure.length d0z)] rfl
  have bX : Box w.heap.size #[.slice a0z x.sure.length d0z, .slice none 0 0] 48 (w1.setCell ⟨w.heap.size + 2, 0, none⟩ (.slice a0z x.sure.length d0z)) (w.heap.size + 2) := (unhide hX).set 0 (.slice a0z x.sure.length d0z)
  have bA := (unhide hA).ext E (by omega)
  have bR := (unhide hR).ext E (by omega)
  have HB0 : Below w.heap.size w (w1.setCell ⟨w.heap.size + 2, 0, none⟩ (.slice a0z x.sure.length d0z)) := (unhide hB).trans (E.below (unhide hB).size (fun k h1 h2 => by omega))
  have O0 := (unhide hO0).ext E (fun k h1 h2 h3 => by omega)
  have R1 := (unhide hR1).ext E (fun k h1 h2 h3 => by omega)
  have Y0 : w1.heap.size ≤ (w1.setCell ⟨w.heap.size + 2, 0, none⟩ (.slice a0z x.sure.length d0z)).heap.size := E.size
  clear hA hR hX hB hO0 hR1 E
  generalize (w1.setCell ⟨w.heap.size + 2, 0, none⟩ (.slice a0z x.sure.length d0z)) = W1 at *
  refine (to_Int64S _ x.loose W1 R1.reads (by omega)).mono ?_
  rintro e w2 ⟨v1, rfl, O1, hb⟩
  have Z1 : W1.heap.size ≤ w2.heap.size := hb.size
  replace HB0 := HB0.trans (hb.mono HB0.size)
  replace bA := bA.keep hb
  replace bR := bR.keep hb
  replace bX := bX.keep hb
  replace O0 := O0.later hb
  clear hb R1
  obtain ⟨a1z, d1z, rfl⟩ := open_sl O1.reads
  have q0 := bX.at 0 _ rfl
  have q1 := bX.at 1 _ rfl
  have qf := bX.soft
  have ql := bX.lt
  have pl := bA.lt
  have r0 := bR.at 0 _ rfl
  have r1 := bR.at 1 _ rfl
  have rf := bR.soft
  have rl := bR.lt
  simp only [List.getElem_toArray, List.getElem_cons_zero, List.getElem_cons_succ] at q0 q1 r0 r1
  have hA := hide bA
  have hR := hide bR
  have hX := hide bX
  have hB := hide HB0
  clear bA bR bX HB0
  have hO0 := hide O0
  clear O0
  have hO1 := hide O1
  clear O1
  go_wp2_with fail
  refine bodyPost_ret (v := .agg #[.slice a0z x.sure.length d0z, .slice a1z x.loose.length d1z]) (by simp [results, Try.results30, go_sem, r0, r1]) rfl ?_
  have E : Ext (fun q => q = w.heap.size + 2 ∨ q = w.heap.size + 1) w2 _ := ext_setL (ext_setL (Ext.refl _ _) (w.heap.size + 2) [(1, .slice a1z x.loose.length d1z)] (Or.inl rfl)) (w.heap.size + 1) [(0, .slice a0z x.sure.length d0z), (1, .slice a1z x.loose.length d1z)] (Or.inr rfl)
  have own : Lay.tLog.OwnIn _ [.slice a0z x.sure.length d0z, .slice a1z x.loose.length d1z] x W0.heap.size w2.heap.size := (Lay.ownIn_pair ((unhide hO0).ext E (fun k h1 h2 h3 => by omega)) ((unhide hO1).ext E (fun k h1 h2 h3 => by omega)) (by omega) (by omega) (by omega))
  have hsz := E.size
  have told := Lay.toldOwn (w := w) own (by omega) (by omega) ((unhide hB).trans (E.below (unhide hB).size (fun k h1 h2 => by omega)))
  exact told

end Go.Proofs.Ytipomhpimmnchaa

namespace Go.Proofs.Ytipomhpimmnchaa
open Go.RowKit

set_option maxRecDepth 10000 in
set_option maxHeartbeats 1000000 in
theorem eq_Log (cs cs2 : List Value) (x : DLog) (w : World) (h : Lay.tLog.Reads w cs x) (h2 : Lay.tLog.Reads w cs2 x) :
    Calls Try.prog 32 #[.agg cs.toArray, .agg cs2.toArray] w fun e w' => e = .returned (.bool true) ∧ Below w.heap.size w w' := by
  obtain ⟨a0, d0, a1, d1, rfl, R0, R1⟩ := open_Log h
  obtain ⟨a0z, d0z, a1z, d1z, rfl, R0z, R1z⟩ := open_Log h2
  clear h h2
  have HB0 : Below w.heap.size w ((w.alloc (.cells #[.slice a0 x.sure.length d0, .slice a1 x.loose.length d1] 48)).alloc (.cells #[.slice a0z x.sure.length d0z, .slice a1z x.loose.length d1z] 48)) := ((Below.refl _ _).alloc (Nat.le_refl _) _).alloc (by simp) _
  have bA : Box w.heap.size #[.slice a0 x.sure.length d0, .slice a1 x.loose.length d1] 48 ((w.alloc (.cells #[.slice a0 x.sure.length d0, .slice a1 x.loose.length d1] 48)).alloc (.cells #[.slice a0z x.sure.length d0z, .slice a1z x.loose.length d1z] 48)) w.heap.size := (newBox (Nat.le_refl _)).grow _
  have bC : Box w.heap.size #[.slice a0z x.sure.length d0z, .slice a1z x.loose.length d1z] 48 ((w.alloc (.cells #[.slice a0 x.sure.length d0, .slice a1 x.loose.length d1] 48)).alloc (.cells #[.slice a0z x.sure.length d0z, .slice a1z x.loose.length d1z] 48)) (w.heap.size + 1) := newBoxAt (by omega) (by simp)
  go_enter Try.func32, Try.ntmps32
  go_wp2_with fail
  generalize (w.alloc (.cells #[.slice a0 x.sure.length d0, .slice a1 x.loose.length d1] 48)).alloc (.cells #[.slice a0z x.sure.length d0z, .slice a1z x.loose.length d1z] 48) = W0 at *
  replace R0 := R0.later HB0
  replace R0z := R0z.later HB0
  replace R1 := R1.later HB0
  replace R1z := R1z.later HB0
  refine (eq_Int64S _ _ x.sure _ R0 R0z).mono ?_
  rintro e w1 ⟨rfl, hb⟩
  replace bA := bA.keep hb
  replace bC := bC.keep hb
  replace HB0 := HB0.trans (hb.mono HB0.size)
  replace R1 := R1.later hb
  replace R1z := R1z.later hb
  have p1 := bA.at 1 _ rfl
  have q1 := bC.at 1 _ rfl
  clear hb
  have HB := hide HB0
  have HA := hide bA
  have HC := hide bC
  clear HB0 bA bC
  have S1 := hide R1
  have S1z := hide R1z
  clear R1 R1z
  go_wp2_with fail
  have HB0 := unhide HB
  have bA := unhide HA
  have bC := unhide HC
  clear HB HA HC
  clear p1 q1
  have R1 := unhide S1
  have R1z := unhide S1z
  clear S1 S1z
  refine (eq_Int64S _ _ x.loose _ R1 R1z).mono ?_
  rintro e w2 ⟨rfl, hb⟩
  replace bA := bA.keep hb
  replace bC := bC.keep hb
  replace HB0 := HB0.trans (hb.mono HB0.size)
  clear hb
  have HB := hide HB0
  have HA := hide bA
  have HC := hide bC
  clear HB0 bA bC
  go_wp2_with fail
  go_ret
  exact ⟨rfl, unhide HB⟩

end Go.Proofs.Ytipomhpimmnchaa

namespace Go.Proofs.Ytipomhpimmnchaa
open Go.RowKit

set_option maxRecDepth 100000 in
set_option maxHeartbeats 4000000 in
theorem lawx_LogFault (u0 : List Value) (x0 : DLog) (y : Int) (w : World) (A0 : Lay.tLog.Reads w u0 x0) (NS : Lay.tLog.sz x0 ≤ 1048576)
    (hS : ∀ (W : World) (u0 : List Value), Lay.tLog.Reads W u0 x0 → Calls Try.prog 29 #[.agg u0.toArray] W fun e w' => e = .returned (.int .i64 y) ∧ Below W.heap.size W w')
    (hI : ∀ (W : World) (u0 : List Value), Lay.tLog.Reads W u0 x0 → Calls Try.prog 31 #[.agg u0.toArray] W fun e w' => e = .returned (.int .i64 y) ∧ Below W.heap.size W w') :
    Calls Try.prog 5 #[.agg u0.toArray] w fun e w' => e = .returned (.bool true) ∧ Below w.heap.size w w' := by
  obtain ⟨a0p0, d0p0, a1p0, d1p0, rfl, -, -⟩ := open_Log A0
  have HS := hide hS
  have HI := hide hI
  clear hS hI
  have HA0 := hide A0.liesIn
  clear A0
  have N0 : Lay.tLog.sz x0 ≤ 1048576 := by omega
  have HN0 := hide N0
  clear N0
  have HNS := hide NS
  clear NS
  have HB := hide (Below.refl w.heap.size w)
  go_enter Try.func5, Try.ntmps5
  go_wp2_with fail
  have nb : Below w.heap.size w (w.alloc (.cells #[.slice a0p0 x0.sure.length d0p0, .slice a1p0 x0.loose.length d1p0] 45)) := (Below.refl w.heap.size w).alloc (Nat.le_refl _) _
  have P0 : Hid (Box w.heap.size #[.slice a0p0 x0.sure.length d0p0, .slice a1p0 x0.loose.length d1p0] 45 (w.alloc (.cells #[.slice a0p0 x0.sure.length d0p0, .slice a1p0 x0.loose.length d1p0] 45)) (w.heap.size)) := newBoxAt (by omega) (by simp)
  generalize haw1 : (w.alloc (.cells #[.slice a0p0 x0.sure.length d0p0, .slice a1p0 x0.loose.length d1p0] 45)) = w1 at *
  have Gw1 : w.heap.size + 1 ≤ w1.heap.size := by rw [← haw1]; simp
  clear haw1
  replace HA0 := hide ((unhide HA0).later nb)
  have Zw1 : w.heap.size ≤ w1.heap.size := nb.size
  replace HB := hide ((unhide HB).trans (nb.mono (by omega)))
  clear nb
  have hns := unhide HNS
  refine (sz_Log _ x0 (1048576) w1 (unhide HA0).reads (by omega)).mono ?_
  rintro e w2 ⟨rfl, hb⟩
  replace HA0 := hide ((unhide HA0).later hb)
  replace P0 := hide ((unhide P0).keep hb)
  have Zw2 : w1.heap.size ≤ w2.heap.size := hb.size
  replace HB := hide ((unhide HB).trans (hb.mono (by omega)))
  clear hb
  rw [szR_ok (by omega)]
  have hq0 : decide (((1048576 - Lay.tLog.sz x0 : Nat) : Int) < 0) = false := by simp
  clear hns
  have l0P0 := (unhide P0).at 0 _ rfl
  have l1P0 := (unhide P0).at 1 _ rfl
  have ltP0 : w.heap.size < w2.heap.size := by omega
  simp only [List.getElem_toArray, List.getElem_cons_zero, List.getElem_cons_succ] at l0P0 l1P0
  go_wp2_with fail
  clear l0P0 l1P0 ltP0
  clear hq0
  refine (to_Log _ x0 w2 (unhide HA0).reads (unhide HN0)).mono ?_
  rintro e w3 ⟨vc0, rfl, O, hb⟩
  replace HA0 := hide ((unhide HA0).later hb)
  replace P0 := hide ((unhide P0).keep hb)
  have Zw3 : w2.heap.size ≤ w3.heap.size := hb.size
  replace HB := hide ((unhide HB).trans (hb.mono (by omega)))
  clear hb
  obtain ⟨a0c0, d0c0, a1c0, d1c0, rfl, -, -⟩ := open_Log O.reads
  have Hc0 := hide O
  clear O
  have l0P0 := (unhide P0).at 0 _ rfl
  have l1P0 := (unhide P0).at 1 _ rfl
  have ltP0 : w.heap.size < w3.heap.size := by omega
  simp only [List.getElem_toArray, List.getElem_cons_zero, List.getElem_cons_succ] at l0P0 l1P0
  go_wp2_with fail
  clear l0P0 l1P0 ltP0
  refine (unhide HS w3 _ (unhide Hc0).reads).mono ?_
  rintro e w4 ⟨rfl, hb⟩
  replace HA0 := hide ((unhide HA0).later hb)
  replace P0 := hide ((unhide P0).keep hb)
  replace Hc0 := hide ((unhide Hc0).later hb)
  have Zw4 : w3.heap.size ≤ w4.heap.size := hb.size
  replace HB := hide ((unhide HB).trans (hb.mono (by omega)))
  clear hb
  clear Hc0
  have l0P0 := (unhide P0).at 0 _ rfl
  have l1P0 := (unhide P0).at 1 _ rfl
  have ltP0 : w.heap.size < w4.heap.size := by omega
  simp only [List.getElem_toArray, List.getElem_cons_zero, List.getElem_cons_succ] at l0P0 l1P0
  go_wp2_with fail
  clear l0P0 l1P0 ltP0
  refine (to_Log _ x0 w4 (unhide HA0).reads (unhide HN0)).mono ?_
  rintro e w5 ⟨vx0, rfl, O, hb⟩
  replace HA0 := hide ((unhide HA0).later hb)
  replace P0 := hide ((unhide P0).keep hb)
  have Zw5 : w4.heap.size ≤ w5.heap.size := hb.size
  replace HB := hide ((unhide HB).trans (hb.mono (by omega)))
  clear hb
  obtain ⟨a0x0, d0x0, a1x0, d1x0, rfl, -, -⟩ := open_Log O.reads
  have Hx0 := hide O
  clear O
  have nb : Below w5.heap.size w5 (w5.alloc (.cells #[.slice a0x0 x0.sure.length d0x0, .slice a1x0 x0.loose.length d1x0] 48)) := (Below.refl _ _).alloc (Nat.le_refl _) _
  have X0 : Hid (Box w5.heap.size #[.slice a0x0 x0.sure.length d0x0, .slice a1x0 x0.loose.length d1x0] 48 (w5.alloc (.cells #[.slice a0x0 x0.sure.length d0x0, .slice a1x0 x0.loose.length d1x0] 48)) w5.heap.size) := newBox (Nat.le_refl _)
  have l0P0 := (unhide P0).at 0 _ rfl
  have l1P0 := (unhide P0).at 1 _ rfl
  have ltP0 : w.heap.size < w5.heap.size := by omega
  simp only [List.getElem_toArray, List.getElem_cons_zero, List.getElem_cons_succ] at l0P0 l1P0
  go_wp2_with fail
  clear l0P0 l1P0 ltP0
  generalize haw6 : w5.alloc (.cells #[.slice a0x0 x0.sure.length d0x0, .slice a1x0 x0.loose.length d1x0] 48) = w6 at *
  have Gw6 : w5.heap.size < w6.heap.size := by rw [← haw6]; simp
  clear haw6
  replace HA0 := hide ((unhide HA0).later nb)
  replace P0 := hide ((unhide P0).keep nb)
  replace Hx0 := hide ((unhide Hx0).later nb)
  have Zw6 : w5.heap.size ≤ w6.heap.size := nb.size
  replace HB := hide ((unhide HB).trans (nb.mono (by omega)))
  clear nb
  refine (unhide HI w6 _ (unhide Hx0).reads).mono ?_
  rintro e w7 ⟨rfl, hb⟩
  replace HA0 := hide ((unhide HA0).later hb)
  replace P0 := hide ((unhide P0).keep hb)
  replace Hx0 := hide ((unhide Hx0).later hb)
  replace X0 := hide ((unhide X0).keep hb)
  have Zw7 : w6.heap.size ≤ w7.heap.size := hb.size
  replace HB := hide ((unhide HB).trans (hb.mono (by omega)))
  clear hb
  have hne : (y != y) = false := by simp
  have l0P0 := (unhide P0).at 0 _ rfl
  have l1P0 := (unhide P0).at 1 _ rfl
  have ltP0 : w.heap.size < w7.heap.size := by omega
  have l0X0 := (unhide X0).at 0 _ rfl
  have l1X0 := (unhide X0).at 1 _ rfl
  have ltX0 : w5.heap.size < w7.heap.size := by omega
  simp only [List.getElem_toArray, List.getElem_cons_zero, List.getElem_cons_succ] at l0P0 l1P0 l0X0 l1X0
  go_wp2_with fail
  clear l0P0 l1P0 ltP0 l0X0 l1X0 ltX0
  have l0P0 := (unhide P0).at 0 _ rfl
  have l1P0 := (unhide P0).at 1 _ rfl
  have ltP0 : w.heap.size < w7.heap.size := by omega
  have l0X0 := (unhide X0).at 0 _ rfl
  have l1X0 := (unhide X0).at 1 _ rfl
  have ltX0 : w5.heap.size < w7.heap.size := by omega
  simp only [List.getElem_toArray, List.getElem_cons_zero, List.getElem_cons_succ] at l0P0 l1P0 l0X0 l1X0
  refine wp_region_noPanic ?_
  refine wp_region_held_drew (S := fun w' => Below w7.heap.size w7 w') (by kernel_rfl) (Below.refl _ _).drew (fun hHeld => ?_)
  generalize w7.drew = wD at hHeld ⊢
  refine wpAnyH_take (i := 0) (oi := { dst := some 22, op := Go.Op.load 48 (Go.Operand.tmp 5), type := 48, pos := "exact.go:3497", after := #[], guard := none }) (v := ?vs00) rfl (by kernel_rfl) (by kernel_rfl) (by kernel_rfl) (fun _ _ _ h => h) (Or.inl ⟨by rfl, ?hs00⟩) hHeld ?rs00
  case hs00 =>
    intro wS hSw
    have y0P0 := (hSw.cell (p := ⟨w.heap.size, 0, none⟩) ltP0).trans l0P0
    have y1P0 := (hSw.cell (p := ⟨w.heap.size, 1, none⟩) ltP0).trans l1P0
    have y0X0 := (hSw.cell (p := ⟨w5.heap.size, 0, none⟩) ltX0).trans l0X0
    have y1X0 := (hSw.cell (p := ⟨w5.heap.size, 1, none⟩) ltX0).trans l1X0
    clear hSw
    (try dsimp only at hSw)
    go_simp
    try with_reducible rfl
  case rs00 =>
  simp only [Act.put, List.setIfInBounds_toArray, List.set_cons_zero, List.set_cons_succ]
  refine wpAnyH_take (i := 1) (oi := { dst := some 23, op := Go.Op.load 45 (Go.Operand.tmp 1), type := 45, pos := "exact.go:3497", after := #[], guard := none }) (v := ?vs01) rfl (by kernel_rfl) (by kernel_rfl) (by kernel_rfl) (fun _ _ _ h => h) (Or.inl ⟨by rfl, ?hs01⟩) hHeld ?rs01
  case hs01 =>
    intro wS hSw
    have y0P0 := (hSw.cell (p := ⟨w.heap.size, 0, none⟩) ltP0).trans l0P0
    have y1P0 := (hSw.cell (p := ⟨w.heap.size, 1, none⟩) ltP0).trans l1P0
    have y0X0 := (hSw.cell (p := ⟨w5.heap.size, 0, none⟩) ltX0).trans l0X0
    have y1X0 := (hSw.cell (p := ⟨w5.heap.size, 1, none⟩) ltX0).trans l1X0
    clear hSw
    (try dsimp only at hSw)
    go_simp
    try with_reducible rfl
  case rs01 =>
  simp only [Act.put, List.setIfInBounds_toArray, List.set_cons_zero, List.set_cons_succ]
  refine wpAnyH_ready (rs := [2]) (by kernel_rfl) (by simp) ?_
  refine AllReadyH.cons (o := { dst := some 24, op := Go.Op.call { callee := Go.Callee.value (Go.Operand.func 30), args := #[Go.Operand.tmp 23], argTypes := #[45] }, type := 48, pos := "exact.go:3497", after := #[{ on := 1, ground := Go.Ground.data }], guard := none }) rfl (fun K hK => ?_) AllReadyH.nil
  go_simp
  go_at_call 30
  refine (to_Log _ x0 _ ((unhide HA0).reads.later hHeld) (unhide HN0)).mono ?_
  rintro e wT ⟨vT, rfl, OT, hbw⟩
  have RT := OT.reads
  obtain ⟨a0T, d0T, a1T, d1T, rfl, -, -⟩ := open_Log RT
  try go_wp2_with fail
  refine hK.out _ _ (hHeld.trans (hbw.mono hHeld.size)) (fun hHeld => ?_)
  clear hK K
  try simp only [Act.put, List.setIfInBounds_toArray, List.set_cons_zero, List.set_cons_succ]
  refine wpAnyH_ready (rs := [3]) (by kernel_rfl) (by simp) ?_
  refine AllReadyH.cons (o := { dst := some 25, op := Go.Op.call { callee := Go.Callee.value (Go.Operand.func 32), args := #[Go.Operand.tmp 22, Go.Operand.tmp 24], argTypes := #[48, 48] }, type := 4, pos := "exact.go:3497", after := #[{ on := 0, ground := Go.Ground.data }, { on := 2, ground := Go.Ground.data }, { on := 2, ground := Go.Ground.chain }], guard := none }) rfl (fun K hK => ?_) AllReadyH.nil
  go_simp
  go_at_call 32
  refine (eq_Log _ _ x0 _ ((unhide Hx0).reads.later hHeld) RT).mono ?_
  rintro e wU ⟨rfl, hbw⟩
  try go_wp2_with fail
  refine hK.out _ _ (hHeld.trans (hbw.mono hHeld.size)) (fun hHeld => ?_)
  clear hK K
  try simp only [Act.put, List.setIfInBounds_toArray, List.set_cons_zero, List.set_cons_succ]
  refine wpAnyH_take (i := 4) (oi := { dst := some 26, op := Go.Op.unOp Go.UnOp.not 4 (Go.Operand.tmp 25), type := 4, pos := "exact.go:3497", after := #[{ on := 3, ground := Go.Ground.data }], guard := none }) (v := ?vs04) rfl (by kernel_rfl) (by kernel_rfl) (by kernel_rfl) (fun _ _ _ h => h) (Or.inl ⟨by rfl, ?hs04⟩) hHeld ?rs04
  case hs04 =>
    intro wS hSw
    (try dsimp only at hSw)
    go_simp
    try with_reducible rfl
  case rs04 =>
  simp only [Act.put, List.setIfInBounds_toArray, List.set_cons_zero, List.set_cons_succ]
  refine wpAnyH_done (by kernel_rfl) ?_ _
  refine NoPanic.normal ?_
  clear l0P0 l1P0 ltP0 l0X0 l1X0 ltX0 OT RT
  have hb : Below w7.heap.size w7 wU := hHeld
  clear hHeld hbw
  replace HA0 := hide ((unhide HA0).later hb)
  replace P0 := hide ((unhide P0).keep hb)
  replace Hx0 := hide ((unhide Hx0).later hb)
  replace X0 := hide ((unhide X0).keep hb)
  have ZwU : w7.heap.size ≤ wU.heap.size := hb.size
  replace HB := hide ((unhide HB).trans (hb.mono (by omega)))
  clear hb
  have l0P0 := (unhide P0).at 0 _ rfl
  have l1P0 := (unhide P0).at 1 _ rfl
  have ltP0 : w.heap.size < wU.heap.size := by omega
  have l0X0 := (unhide X0).at 0 _ rfl
  have l1X0 := (unhide X0).at 1 _ rfl
  have ltX0 : w5.heap.size < wU.heap.size := by omega
  simp only [List.getElem_toArray, List.getElem_cons_zero, List.getElem_cons_succ] at l0P0 l1P0 l0X0 l1X0
  go_wp2_with fail
  clear l0P0 l1P0 ltP0 l0X0 l1X0 ltX0
  go_ret
  exact ⟨rfl, unhide HB⟩


set_option maxRecDepth 10000 in
set_option maxHeartbeats 1000000 in
theorem lawover_LogFault (u0 : List Value) (x0 : DLog) (w : World) (A0 : Lay.tLog.Reads w u0 x0) (NS : 1048576 < Lay.tLog.sz x0) :
    Calls Try.prog 5 #[.agg u0.toArray] w fun e w' => e = .returned (.bool true) ∧ Below w.heap.size w w' := by
  obtain ⟨a0p0, d0p0, a1p0, d1p0, rfl, -, -⟩ := open_Log A0
  have HA0 := hide A0.liesIn
  clear A0
  have HB := hide (Below.refl w.heap.size w)
  go_enter Try.func5, Try.ntmps5
  go_wp2_with fail
  have nb : Below w.heap.size w (w.alloc (.cells #[.slice a0p0 x0.sure.length d0p0, .slice a1p0 x0.loose.length d1p0] 45)) := (Below.refl w.heap.size w).alloc (Nat.le_refl _) _
  have P0 : Hid (Box w.heap.size #[.slice a0p0 x0.sure.length d0p0, .slice a1p0 x0.loose.length d1p0] 45 (w.alloc (.cells #[.slice a0p0 x0.sure.length d0p0, .slice a1p0 x0.loose.length d1p0] 45)) (w.heap.size)) := newBoxAt (by omega) (by simp)
  generalize haw1 : (w.alloc (.cells #[.slice a0p0 x0.sure.length d0p0, .slice a1p0 x0.loose.length d1p0] 45)) = w1 at *
  have Gw1 : w.heap.size + 1 ≤ w1.heap.size := by rw [← haw1]; simp
  clear haw1
  replace HA0 := hide ((unhide HA0).later nb)
  have Zw1 : w.heap.size ≤ w1.heap.size := nb.size
  replace HB := hide ((unhide HB).trans (nb.mono (by omega)))
  clear nb
  refine (sz_Log _ x0 (1048576) w1 (unhide HA0).reads (by omega)).mono ?_
  rintro e w2 ⟨rfl, hb⟩
  replace HA0 := hide ((unhide HA0).later hb)
  replace P0 := hide ((unhide P0).keep hb)
  have Zw2 : w1.heap.size ≤ w2.heap.size := hb.size
  replace HB := hide ((unhide HB).trans (hb.mono (by omega)))
  clear hb
  rw [szR_many (by omega)]
  go_wp2_with fail
  go_ret
  exact ⟨rfl, unhide HB⟩

end Go.Proofs.Ytipomhpimmnchaa
