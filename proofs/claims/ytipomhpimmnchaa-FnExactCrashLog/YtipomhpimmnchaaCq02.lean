/-
  Texts of this proof in one: LayLog, Info, Ints, LayInt, SzInt64S, SzLog, ToLog, EqLog, OwnLog, LayMark, MaLog, LayLogResult, EqLogResult, OwnLogResult, MaLogResult, MkLog, MkLogResult.
  Their conditions stand in their theorems.
-/
import Derived.Test.YtipomhpimmnchaaCq01
import Derived.Test.YtipomhpimmnchaaChecked
import Derived.WalkKit
import Derived.BigQuiet
import Derived.Deep.QuietTactic
import Derived.WalkSmall

namespace Go.Proofs.Ytipomhpimmnchaa
open Go.RowKit

structure DLog where
  sure : List Int
  loose : List Int

def Lay.tLog : Lay DLog := Lay.via (Lay.pair (Lay.sl Lay.int) (Lay.sl Lay.int)) (fun x => (x.sure, x.loose)) (fun p => ⟨p.1, p.2⟩)

theorem lies_Log {w : World} {cs : List Value} {x : DLog} {bl : List Nat} : Lay.tLog.lies w cs x bl ↔ ∃ (a0 : Option Addr) (d0 : Nat) (b0 : List Nat) (a1 : Option Addr) (d1 : Nat) (b1 : List Nat), cs = [.slice a0 x.sure.length d0, .slice a1 x.loose.length d1] ∧ bl = b0 ++ b1 ∧ (Lay.sl Lay.int).lies w [.slice a0 x.sure.length d0] x.sure b0 ∧ (Lay.sl Lay.int).lies w [.slice a1 x.loose.length d1] x.loose b1 := by
  constructor
  · intro h
    obtain ⟨c0_, r0_, e0_, s0_, rfl, rfl, h0, h1⟩ := h
    have k0 := h0
    obtain ⟨a0, d0, rfl, -⟩ := k0
    have k1 := h1
    obtain ⟨a1, d1, rfl, -⟩ := k1
    exact ⟨a0, d0, e0_, a1, d1, s0_, by simp, by simp, h0, h1⟩
  · rintro ⟨a0, d0, b0, a1, d1, b1, rfl, hbl, l0, l1⟩
    rw [hbl]
    exact ⟨[.slice a0 x.sure.length d0], [.slice a1 x.loose.length d1], b0, b1, rfl, by simp, l0, l1⟩

theorem open_Log {w : World} {cs : List Value} {x : DLog} (h : Lay.tLog.Reads w cs x) : ∃ (a0 : Option Addr) (d0 : Nat) (a1 : Option Addr) (d1 : Nat), cs = [.slice a0 x.sure.length d0, .slice a1 x.loose.length d1] ∧ (Lay.sl Lay.int).Reads w [.slice a0 x.sure.length d0] x.sure ∧ (Lay.sl Lay.int).Reads w [.slice a1 x.loose.length d1] x.loose := by
  obtain ⟨bl, h⟩ := h
  obtain ⟨a0, d0, b0, a1, d1, b1, rfl, -, l0, l1⟩ := lies_Log.1 h
  exact ⟨a0, d0, a1, d1, rfl, ⟨_, l0⟩, ⟨_, l1⟩⟩

end Go.Proofs.Ytipomhpimmnchaa

namespace Go.Proofs.Ytipomhpimmnchaa

theorem info2 : (Try.prog.info? 2).map (fun i => (i.zero, i.size, i.bytes)) = some (some (.int .i64 0), 1, 8) := by kernel_rfl

end Go.Proofs.Ytipomhpimmnchaa

namespace Go.Proofs.Ytipomhpimmnchaa
open Go.RowKit

set_option maxHeartbeats 400000 in
theorem toInts_pos (b off cap : Nat) (zs : List Int) (w : World) (hn : zs.length ≤ 1048576) (hc : ∀ j, j < zs.length → w.cell? ⟨b, off + j, none⟩ = some (.int .i64 (zs.getD j 0))) :
    Calls Try.prog 21 #[.slice (some ⟨b, off, none⟩) zs.length cap] w fun e w' => e = .returned (.slice (some ⟨w.heap.size, 0, none⟩) zs.length zs.length) ∧
      w'.ownsRow w.heap.size 2 1 (.slice (some ⟨w.heap.size, 0, none⟩) zs.length zs.length) zs.length (zs.map (Value.int .i64)) ∧ Below w.heap.size w w' := by
  obtain ⟨i0, hi, hz0, hz1, hz2⟩ := info_parts info2
  go_enter Try.func21, Try.ntmps21
  go_wp2_with (at_make; refine wpList_make_full _ rfl _ _ 24 rfl w.heap.size 2 i0 (.int .i64 0) 1 Try.underlying24 hi hz0 hz1 _ _ _ _ zs.length rfl rfl rfl rfl ?c1 ?c2 ?c3 ?_)
  case c1 => rw [hz2]; omega
  case c2 => unfold maxLen; omega
  case c3 => exact Nat.le_refl _
  intro w1 hown1 hgrow1
  have hB1 : Below w.heap.size w w1 := (Below.refl _ _).grown hgrow1 (Nat.le_refl _) (by simp)
  rw [toList_madeCells_one] at hown1
  clear hgrow1 hi hz0 hz1 hz2
  go_wp2
  go_loopw [4] (fun i wr => ∃ k : Nat, k ≤ zs.length ∧ i = .int .i64 k ∧ wr.ownsRow w.heap.size 2 1 (.slice (some ⟨w.heap.size, 0, none⟩) zs.length zs.length) zs.length ((zs.take k).map (Value.int .i64) ++ List.replicate (zs.length - k) (Value.int .i64 0)) ∧ Below w.heap.size w wr)
    (fun i _ => zs.length - (intOf i).toNat)
  case atStart => exact ⟨0, Nat.zero_le _, rfl, by simpa using hown1, hB1⟩
  case round =>
    obtain ⟨k, hk, rfl, hown, hB⟩ := hrel
    clear hown1 hB1
    by_cases hlt : k < zs.length
    · have hcx : wr.cell? ⟨b, off + k, none⟩ = some (.int .i64 (zs.getD k 0)) := (hB.cell (World.block_lt_of_cell? _ _ (hc k hlt))).trans (hc k hlt)
      have hcd : ∃ u, wr.cell? ⟨w.heap.size, k, none⟩ = some u := by
        rw [hown.cellAt k (by omega)]
        exact ⟨_, List.getElem?_eq_getElem (by simp; omega)⟩
      obtain ⟨u, hcd⟩ := hcd
      have hfz := hown.frozenAt k
      have hst := hown.stored k (.int .i64 (zs.getD k 0))
      rw [set_fill zs k hlt] at hst
      have R := hst.1
      have hB2 : Below w.heap.size w (wr.setCell ⟨w.heap.size, k, none⟩ (.int .i64 (zs.getD k 0))) := hB.setCell (by simp) _
      clear hst hown hB
      go_wp2
      go_roundw
      case rel => exact ⟨k + 1, by omega, by go_num, by simpa [hlt] using R, by simpa [hlt] using hB2⟩
      case measure => simp [intOf]; omega
    · have hk2 : k = zs.length := by omega
      go_wp2
      go_ret
      subst hk2
      exact ⟨rfl, by simpa using hown, hB⟩

set_option maxHeartbeats 400000 in
theorem toInts_zero (ao : Option Addr) (cap : Nat) (w : World) :
    Calls Try.prog 21 #[.slice ao 0 cap] w fun e w' => e = .returned (.slice (some ⟨w.heap.size, 0, none⟩) 0 0) ∧
      w'.ownsRow w.heap.size 2 1 (.slice (some ⟨w.heap.size, 0, none⟩) 0 0) 0 [] ∧ Below w.heap.size w w' := by
  obtain ⟨i0, hi, hz0, hz1, hz2⟩ := info_parts info2
  go_enter Try.func21, Try.ntmps21
  go_wp2_with (at_make; refine wpList_make_full _ rfl _ _ 24 rfl w.heap.size 2 i0 (.int .i64 0) 1 Try.underlying24 hi hz0 hz1 _ _ _ _ 0 rfl rfl rfl rfl ?c1 ?c2 ?c3 ?_)
  case c1 => rw [hz2]; omega
  case c2 => unfold maxLen; omega
  case c3 => exact Nat.le_refl _
  intro w1 hown1 hgrow1
  have hB1 : Below w.heap.size w w1 := (Below.refl _ _).grown hgrow1 (Nat.le_refl _) (by simp)
  clear hgrow1 hi hz0 hz1 hz2
  rw [toList_madeCells_one] at hown1
  go_wp2
  refine wp_loop_rounds 1 ?_
  rw [rounds_succ]
  go_wp2
  go_ret
  exact ⟨rfl, by simpa using hown1, hB1⟩

/-- toInt64S: a new slice of the same numbers. -/
theorem toInts (v : Value) (zs : List Int) (w : World) (h : IsInts w v zs) (hn : zs.length ≤ 1048576) :
    Calls Try.prog 21 #[v] w fun e w' => ∃ v', e = .returned v' ∧ v' = .slice (some ⟨w.heap.size, 0, none⟩) zs.length zs.length ∧
      w'.ownsRow w.heap.size 2 1 v' zs.length (zs.map (Value.int .i64)) ∧ IsInts w' v' zs ∧ Below w.heap.size w w' := by
  obtain ⟨ao, cap, rfl, hwf, hc⟩ := h
  by_cases hp : 0 < zs.length
  · obtain ⟨b, off, rfl, hc1⟩ := hc hp
    refine (toInts_pos b off cap zs w hn hc1).mono ?_
    rintro e w' ⟨rfl, ho, hb⟩
    exact ⟨_, rfl, rfl, ho, isInts_owned hwf ho, hb⟩
  · have hz : zs = [] := List.eq_nil_of_length_eq_zero (by omega)
    subst hz
    refine (toInts_zero ao cap w).mono ?_
    rintro e w' ⟨rfl, ho, hb⟩
    exact ⟨_, rfl, rfl, ho, isInts_owned hwf ho, hb⟩

set_option maxHeartbeats 400000 in
theorem eqInts_pos (b off cap b2 off2 cap2 : Nat) (zs : List Int) (w : World) (hn : zs.length ≤ 9223372036854775807) (hc : ∀ j, j < zs.length → w.cell? ⟨b, off + j, none⟩ = some (.int .i64 (zs.getD j 0)))
    (hc2 : ∀ j, j < zs.length → w.cell? ⟨b2, off2 + j, none⟩ = some (.int .i64 (zs.getD j 0))) :
    Calls Try.prog 24 #[.slice (some ⟨b, off, none⟩) zs.length cap, .slice (some ⟨b2, off2, none⟩) zs.length cap2] w fun e w' => e = .returned (.bool true) ∧ Below w.heap.size w w' := by
  go_enter Try.func24, Try.ntmps24
  go_wp2
  go_loopw [5] (fun i wr => ∃ k : Nat, k ≤ zs.length ∧ i = .int .i64 k ∧ Below w.heap.size w wr) (fun i _ => zs.length - (intOf i).toNat)
  case atStart => exact ⟨0, Nat.zero_le _, rfl, Below.refl _ _⟩
  case round =>
    obtain ⟨k, hk, rfl, hB⟩ := hrel
    by_cases hlt : k < zs.length
    · have hcx : wr.cell? ⟨b, off + k, none⟩ = some (.int .i64 (zs.getD k 0)) := (hB.cell (World.block_lt_of_cell? _ _ (hc k hlt))).trans (hc k hlt)
      have hcy : wr.cell? ⟨b2, off2 + k, none⟩ = some (.int .i64 (zs.getD k 0)) := (hB.cell (World.block_lt_of_cell? _ _ (hc2 k hlt))).trans (hc2 k hlt)
      clear hc hc2
      go_wp2
      go_quiet (fail)
      go_wp2
      go_roundw
      case rel => exact ⟨k + 1, by omega, by go_num, below_drewN hB _⟩
      case measure => simp [intOf]; omega
    · go_wp2
      go_ret
      exact ⟨rfl, hB⟩

set_option maxHeartbeats 400000 in
theorem eqInts_zero (ao ao2 : Option Addr) (cap cap2 : Nat) (w : World) :
    Calls Try.prog 24 #[.slice ao 0 cap, .slice ao2 0 cap2] w fun e w' => e = .returned (.bool true) ∧ Below w.heap.size w w' := by
  go_enter Try.func24, Try.ntmps24
  go_wp2
  refine wp_loop_rounds 1 ?_
  rw [rounds_succ]
  go_wp2
  go_ret
  exact ⟨rfl, Below.refl _ _⟩

/-- eqInt64S: two slices of the same numbers are the same. -/
theorem eqIntsBig (v v2 : Value) (zs : List Int) (w : World) (h : IsInts w v zs) (h2 : IsInts w v2 zs) (hn : zs.length ≤ 9223372036854775807) :
    Calls Try.prog 24 #[v, v2] w fun e w' => e = .returned (.bool true) ∧ Below w.heap.size w w' := by
  obtain ⟨ao, cap, rfl, hwf, hc⟩ := h
  obtain ⟨ao2, cap2, rfl, _, hc2⟩ := h2
  by_cases hp : 0 < zs.length
  · obtain ⟨b, off, rfl, hc1⟩ := hc hp
    obtain ⟨b2, off2, rfl, hc3⟩ := hc2 hp
    exact eqInts_pos b off cap b2 off2 cap2 zs w hn hc1 hc3
  · have hz : zs = [] := List.eq_nil_of_length_eq_zero (by omega)
    subst hz
    exact eqInts_zero ao ao2 cap cap2 w
theorem eqInts (v v2 : Value) (zs : List Int) (w : World) (h : IsInts w v zs) (h2 : IsInts w v2 zs) (hn : zs.length ≤ 1048576) :
    Calls Try.prog 24 #[v, v2] w fun e w' => e = .returned (.bool true) ∧ Below w.heap.size w w' := eqIntsBig v v2 zs w h h2 (by omega)

end Go.Proofs.Ytipomhpimmnchaa

namespace Go.Proofs.Ytipomhpimmnchaa
open Go.RowKit

theorem sz_ints (zs : List Int) : (Lay.sl Lay.int).sz zs = zs.length := by
  show zs.length + cntAll (fun _ => 0) zs = zs.length
  have : cntAll (fun _ : Int => 0) zs = 0 := by induction zs with
    | nil => rfl
    | cons z zs ih => simpa [cntAll] using ih
  omega

theorem to_Int64S (v : Value) (zs : List Int) (w : World) (h : (Lay.sl Lay.int).Reads w [v] zs) (hn : (Lay.sl Lay.int).sz zs ≤ 1048576) :
    Calls Try.prog 21 #[v] w fun e w' => ∃ v', e = .returned v' ∧ (Lay.sl Lay.int).OwnIn w' [v'] zs w.heap.size w'.heap.size ∧ Below w.heap.size w w' := by
  rw [sz_ints] at hn
  have hi := Lay.ints_reads h
  refine (toInts v zs w hi hn).mono ?_
  rintro e w' ⟨v', rfl, -, ho, -, hb⟩
  exact ⟨v', rfl, Lay.ownInts hi.wf (by omega) ho, hb⟩

theorem eq_Int64S (v v2 : Value) (zs : List Int) (w : World) (h : (Lay.sl Lay.int).Reads w [v] zs) (h2 : (Lay.sl Lay.int).Reads w [v2] zs) :
    Calls Try.prog 24 #[v, v2] w fun e w' => e = .returned (.bool true) ∧ Below w.heap.size w w' :=
  eqIntsBig v v2 zs w (Lay.ints_reads h) (Lay.ints_reads h2) h.big

end Go.Proofs.Ytipomhpimmnchaa

namespace Go.Proofs.Ytipomhpimmnchaa
open Go.RowKit

set_option maxHeartbeats 400000 in
theorem sz_Int64S (v : Value) (zs : List Int) (l : Nat) (w : World) (h : (Lay.sl Lay.int).Reads w [v] zs) (hl : l ≤ 1048576) :
    Calls Try.prog 61 #[v, .int .i64 l] w fun e w' => e = .returned (.int .i64 (szR l ((Lay.sl Lay.int).sz zs))) ∧ Below w.heap.size w w' := by
  have hb := h.big
  obtain ⟨ao, cap, rfl⟩ := open_sl h
  rw [sz_ints]
  generalize zs.length = n at *
  clear h
  by_cases hn : n ≤ l
  · rw [szR_ok hn]
    have e1 : (l : Int) - (n : Int) = ((l - n : Nat) : Int) := by omega
    have e2 : decide (((l - n : Nat) : Int) < 0) = false := by simp
    go_enter Try.func61, Try.ntmps61
    go_wp2_with fail
    go_ret
    exact ⟨rfl, Below.refl _ _⟩
  · rw [szR_many (by omega)]
    have e2 : decide ((l : Int) - (n : Int) < 0) = true := by simp; omega
    go_enter Try.func61, Try.ntmps61
    go_wp2_with fail
    go_ret
    exact ⟨rfl, Below.refl _ _⟩

end Go.Proofs.Ytipomhpimmnchaa

namespace Go.Proofs.Ytipomhpimmnchaa
open Go.RowKit

theorem szsum_Log (x : DLog) : Lay.tLog.sz x = (Lay.sl Lay.int).sz x.sure + (Lay.sl Lay.int).sz x.loose := by
  show (Lay.sl Lay.int).sz x.sure + ((Lay.sl Lay.int).sz x.loose) = (Lay.sl Lay.int).sz x.sure + (Lay.sl Lay.int).sz x.loose
  omega
set_option maxRecDepth 10000 in
set_option maxHeartbeats 1000000 in
theorem sz_Log (cs : List Value) (x : DLog) (l : Nat) (w : World) (h : Lay.tLog.Reads w cs x) (hl : l ≤ 1048576) :
    Calls Try.prog 28 #[.agg cs.toArray, .int .i64 l] w fun e w' => e = .returned (.int .i64 (szR l (Lay.tLog.sz x))) ∧ Below w.heap.size w w' := by
  obtain ⟨a0, d0, a1, d1, rfl, R0, R1⟩ := open_Log h
  clear h
  have HB0 : Below w.heap.size w (w.alloc (.cells #[.slice a0 x.sure.length d0, .slice a1 x.loose.length d1] 45)) := (Below.refl _ _).alloc (Nat.le_refl _) _
  have bA : Box w.heap.size #[.slice a0 x.sure.length d0, .slice a1 x.loose.length d1] 45 (w.alloc (.cells #[.slice a0 x.sure.length d0, .slice a1 x.loose.length d1] 45)) w.heap.size := newBox (Nat.le_refl _)
  have HV := hide (szsum_Log x)
  go_enter Try.func28, Try.ntmps28
  go_wp2_with fail
  generalize w.alloc (.cells #[.slice a0 x.sure.length d0, .slice a1 x.loose.length d1] 45) = W0 at *
  replace R0 := R0.later HB0
  replace R1 := R1.later HB0
  refine (sz_Int64S _ x.sure (l) _ R0 (by omega)).mono ?_
  rintro e w1 ⟨rfl, hb⟩
  replace HB0 := HB0.trans (hb.mono HB0.size)
  replace bA := bA.keep hb
  replace R1 := R1.later hb
  clear hb R0
  by_cases hs0 : (Lay.sl Lay.int).sz x.sure ≤ l
  · rw [szR_ok hs0]
    have hq : decide (((l - (Lay.sl Lay.int).sz x.sure : Nat) : Int) < 0) = false := by simp
    have p1 := bA.at 1 _ rfl
    have HX := hide HB0
    have HA := hide bA
    clear HB0 bA
    have P1 := hide R1
    clear R1
    go_wp2_with fail
    clear hq
    have HB0 := unhide HX
    have bA := unhide HA
    clear HX HA
    have R1 := unhide P1
    clear P1
    clear p1
    refine (sz_Int64S _ x.loose (l - (Lay.sl Lay.int).sz x.sure) _ R1 (by omega)).mono ?_
    rintro e w2 ⟨rfl, hb⟩
    replace HB0 := HB0.trans (hb.mono HB0.size)
    replace bA := bA.keep hb
    clear hb R1
    by_cases hs1 : (Lay.sl Lay.int).sz x.loose ≤ l - (Lay.sl Lay.int).sz x.sure
    · rw [szR_ok hs1]
      have hq : decide (((l - (Lay.sl Lay.int).sz x.sure - (Lay.sl Lay.int).sz x.loose : Nat) : Int) < 0) = false := by simp
      have HX := hide HB0
      have HA := hide bA
      clear HB0 bA
      go_wp2_with fail
      clear hq
      go_ret
      refine ⟨?_, unhide HX⟩
      rw [unhide HV, szR_ok (by omega), show l - ((Lay.sl Lay.int).sz x.sure + (Lay.sl Lay.int).sz x.loose) = l - (Lay.sl Lay.int).sz x.sure - (Lay.sl Lay.int).sz x.loose by omega]
      rfl
    · rw [szR_many (by omega)]
      have HX := hide HB0
      clear HB0 bA
      go_wp2_with fail
      go_ret
      refine ⟨?_, unhide HX⟩
      rw [unhide HV, szR_many (by omega)]
      rfl
  · rw [szR_many (by omega)]
    have HX := hide HB0
    clear HB0 bA
    go_wp2_with fail
    go_ret
    refine ⟨?_, unhide HX⟩
    rw [unhide HV, szR_many (by omega)]
    rfl

end Go.Proofs.Ytipomhpimmnchaa

namespace Go.Proofs.Ytipomhpimmnchaa
open Go.RowKit

set_option maxRecDepth 10000 in
set_option maxHeartbeats 2000000 in
theorem to_Log (cs : List Value) (x : DLog) (w : World) (h : Lay.tLog.Reads w cs x) (hn : Lay.tLog.sz x ≤ 1048576) :
    Calls Try.prog 30 #[.agg cs.toArray] w fun e w' => ∃ cs', e = .returned (.agg cs'.toArray) ∧ Lay.tLog.OwnIn w' cs' x w.heap.size w'.heap.size ∧ Below w.heap.size w w' := by
  obtain ⟨a0, d0, a1, d1, rfl, R0, R1⟩ := open_Log h
  clear h
  rw [szsum_Log] at hn
  have HB0 : Below w.heap.size w (((w.alloc (.cells #[.slice a0 x.sure.length d0, .slice a1 x.loose.length d1] 45)).alloc (.cells #[.slice none 0 0, .slice none 0 0] 48)).alloc (.cells #[.slice none 0 0, .slice none 0 0] 48)) := (((Below.refl _ _).alloc (Nat.le_refl _) _).alloc (by simp) _).alloc (by simp; omega) _
  have bA : Box w.heap.size #[.slice a0 x.sure.length d0, .slice a1 x.loose.length d1] 45 (((w.alloc (.cells #[.slice a0 x.sure.length d0, .slice a1 x.loose.length d1] 45)).alloc (.cells #[.slice none 0 0, .slice none 0 0] 48)).alloc (.cells #[.slice none 0 0, .slice none 0 0] 48)) w.heap.size := ((newBox (Nat.le_refl _)).grow _).grow _
  have bR : Box w.heap.size #[.slice none 0 0, .slice none 0 0] 48 (((w.alloc (.cells #[.slice a0 x.sure.length d0, .slice a1 x.loose.length d1] 45)).alloc (.cells #[.slice none 0 0, .slice none 0 0] 48)).alloc (.cells #[.slice none 0 0, .slice none 0 0] 48)) (w.heap.size + 1) := (newBoxAt (by omega) (by simp)).grow _
  have bX : Box w.heap.size #[.slice none 0 0, .slice none 0 0] 48 (((w.alloc (.cells #[.slice a0 x.sure.length d0, .slice a1 x.loose.length d1] 45)).alloc (.cells #[.slice none 0 0, .slice none 0 0] 48)).alloc (.cells #[.slice none 0 0, .slice none 0 0] 48)) (w.heap.size + 2) := newBoxAt (by omega) (by simp)
  have hz0 : w.heap.size + 3 ≤ (((w.alloc (.cells #[.slice a0 x.sure.length d0, .slice a1 x.loose.length d1] 45)).alloc (.cells #[.slice none 0 0, .slice none 0 0] 48)).alloc (.cells #[.slice none 0 0, .slice none 0 0] 48)).heap.size := by simp
  go_enter Try.func30, Try.ntmps30
  go_wp2_with fail
  generalize ((w.alloc (.cells #[.slice a0 x.sure.length d0, .slice a1 x.loose.length d1] 45)).alloc (.cells #[.slice none 0 0, .slice none 0 0] 48)).alloc (.cells #[.slice none 0 0, .slice none 0 0] 48) = W0 at *
  replace R0 := R0.liesIn.later HB0
  replace R1 := R1.liesIn.later HB0
  refine (to_Int64S _ x.sure W0 R0.reads (by omega)).mono ?_
  rintro e w1 ⟨v0, rfl, O0, hb⟩
  have Z0 : W0.heap.size ≤ w1.heap.size := hb.size
  replace HB0 := HB0.trans (hb.mono HB0.size)
  replace bA := bA.keep hb
  replace bR := bR.keep hb
  replace bX := bX.keep hb
  replace R1 := R1.later hb
  clear hb R0
  obtain ⟨a0z, d0z, rfl⟩ := open_sl O0.reads
  have p1 := bA.at 1 _ rfl
  have q0 := bX.at 0 _ rfl
  have qf := bX.soft
  have ql := bX.lt
  have pl := bA.lt
  simp only [List.getElem_toArray, List.getElem_cons_zero, List.getElem_cons_succ] at p1 q0
  have hA := hide bA
  have hR := hide bR
  have hX := hide bX
  have hB := hide HB0
  clear bA bR bX HB0
  have hO0 := hide O0
  clear O0
  have hR1 := hide R1
  clear R1
  go_wp2_with fail
  clear p1 q0 qf ql pl
  have E : Ext (fun q => q = w.heap.size + 2) w1 (w1.setCell ⟨w.heap.size + 2, 0, none⟩ (.slice a0z x.sure.length d0z)) := ext_setL (Ext.refl _ _) (w.heap.size + 2) [(0, .slice a0z x.sure.length d0z)] rfl
  have bX : Box w.heap.size #[.slice a0z x.sure.length d0z, .slice none 0 0] 48 (w1.setCell ⟨w.heap.size + 2, 0, none⟩ (.slice a0z x.sure.length d0z)) (w.heap.size + 2) := (unhide hX).set 0 (.slice a0z x.sure.length d0z)
  have bA := (unhide hA).ext E (by omega)
  have bR := (unhide hR).ext E (by omega)
  have HB0 : Below w.heap.size w (w1.setCell ⟨w.heap.size + 2, 0, none⟩ (.slice a0z x.sure.length d0z)) := (unhide hB).trans (E.below (unhide hB).size (fun k h1 h2 => by omega))
  have O0 := (unhide hO0).ext E (fun k h1 h2 h3 => by omega)
  have R1 := (unhide hR1).ext E (fun k h1 h2 h3 => by omega)
  have Y0 : w1.heap.size ≤ (w1.setCell ⟨w.heap.size + 2, 0, none⟩ (.slice a0z x.sure.length d0z)).heap.size := E.size
  clear hA hR hX hB hO0 hR1 E
  generalize (w1.setCell ⟨w.heap.size + 2, 0, none⟩ (.slice a0z x.sure.length d0z)) = W1 at *
  refine (to_Int64S _ x.loose W1 R1.reads (by omega)).mono ?_
  rintro e w2 ⟨v1, rfl, O1, hb⟩
  have Z1 : W1.heap.size ≤ w2.heap.size := hb.size
  replace HB0 := HB0.trans (hb.mono HB0.size)
  replace bA := bA.keep hb
  replace bR := bR.keep hb
  replace bX := bX.keep hb
  replace O0 := O0.later hb
  clear hb R1
  obtain ⟨a1z, d1z, rfl⟩ := open_sl O1.reads
  have q0 := bX.at 0 _ rfl
  have q1 := bX.at 1 _ rfl
  have qf := bX.soft
  have ql := bX.lt
  have pl := bA.lt
  have r0 := bR.at 0 _ rfl
  have r1 := bR.at 1 _ rfl
  have rf := bR.soft
  have rl := bR.lt
  simp only [List.getElem_toArray, List.getElem_cons_zero, List.getElem_cons_succ] at q0 q1 r0 r1
  have hA := hide bA
  have hR := hide bR
  have hX := hide bX
  have hB := hide HB0
  clear bA bR bX HB0
  have hO0 := hide O0
  clear O0
  have hO1 := hide O1
  clear O1
  go_wp2_with fail
  refine bodyPost_ret (v := .agg #[.slice a0z x.sure.length d0z, .slice a1z x.loose.length d1z]) (by simp [results, Try.results30, go_sem, r0, r1]) rfl ?_
  have E : Ext (fun q => q = w.heap.size + 2 ∨ q = w.heap.size + 1) w2 _ := ext_setL (ext_setL (Ext.refl _ _) (w.heap.size + 2) [(1, .slice a1z x.loose.length d1z)] (Or.inl rfl)) (w.heap.size + 1) [(0, .slice a0z x.sure.length d0z), (1, .slice a1z x.loose.length d1z)] (Or.inr rfl)
  have own : Lay.tLog.OwnIn _ [.slice a0z x.sure.length d0z, .slice a1z x.loose.length d1z] x W0.heap.size w2.heap.size := (Lay.ownIn_pair ((unhide hO0).ext E (fun k h1 h2 h3 => by omega)) ((unhide hO1).ext E (fun k h1 h2 h3 => by omega)) (by omega) (by omega) (by omega))
  have hsz := E.size
  have told := Lay.toldOwn (w := w) own (by omega) (by omega) ((unhide hB).trans (E.below (unhide hB).size (fun k h1 h2 => by omega)))
  exact told

end Go.Proofs.Ytipomhpimmnchaa

namespace Go.Proofs.Ytipomhpimmnchaa
open Go.RowKit

set_option maxRecDepth 10000 in
set_option maxHeartbeats 1000000 in
theorem eq_Log (cs cs2 : List Value) (x : DLog) (w : World) (h : Lay.tLog.Reads w cs x) (h2 : Lay.tLog.Reads w cs2 x) :
    Calls Try.prog 32 #[.agg cs.toArray, .agg cs2.toArray] w fun e w' => e = .returned (.bool true) ∧ Below w.heap.size w w' := by
  obtain ⟨a0, d0, a1, d1, rfl, R0, R1⟩ := open_Log h
  obtain ⟨a0z, d0z, a1z, d1z, rfl, R0z, R1z⟩ := open_Log h2
  clear h h2
  have HB0 : Below w.heap.size w ((w.alloc (.cells #[.slice a0 x.sure.length d0, .slice a1 x.loose.length d1] 48)).alloc (.cells #[.slice a0z x.sure.length d0z, .slice a1z x.loose.length d1z] 48)) := ((Below.refl _ _).alloc (Nat.le_refl _) _).alloc (by simp) _
  have bA : Box w.heap.size #[.slice a0 x.sure.length d0, .slice a1 x.loose.length d1] 48 ((w.alloc (.cells #[.slice a0 x.sure.length d0, .slice a1 x.loose.length d1] 48)).alloc (.cells #[.slice a0z x.sure.length d0z, .slice a1z x.loose.length d1z] 48)) w.heap.size := (newBox (Nat.le_refl _)).grow _
  have bC : Box w.heap.size #[.slice a0z x.sure.length d0z, .slice a1z x.loose.length d1z] 48 ((w.alloc (.cells #[.slice a0 x.sure.length d0, .slice a1 x.loose.length d1] 48)).alloc (.cells #[.slice a0z x.sure.length d0z, .slice a1z x.loose.length d1z] 48)) (w.heap.size + 1) := newBoxAt (by omega) (by simp)
  go_enter Try.func32, Try.ntmps32
  go_wp2_with fail
  generalize (w.alloc (.cells #[.slice a0 x.sure.length d0, .slice a1 x.loose.length d1] 48)).alloc (.cells #[.slice a0z x.sure.length d0z, .slice a1z x.loose.length d1z] 48) = W0 at *
  replace R0 := R0.later HB0
  replace R0z := R0z.later HB0
  replace R1 := R1.later HB0
  replace R1z := R1z.later HB0
  refine (eq_Int64S _ _ x.sure _ R0 R0z).mono ?_
  rintro e w1 ⟨rfl, hb⟩
  replace bA := bA.keep hb
  replace bC := bC.keep hb
  replace HB0 := HB0.trans (hb.mono HB0.size)
  replace R1 := R1.later hb
  replace R1z := R1z.later hb
  have p1 := bA.at 1 _ rfl
  have q1 := bC.at 1 _ rfl
  clear hb
  have HB := hide HB0
  have HA := hide bA
  have HC := hide bC
  clear HB0 bA bC
  have S1 := hide R1
  have S1z := hide R1z
  clear R1 R1z
  go_wp2_with fail
  have HB0 := unhide HB
  have bA := unhide HA
  have bC := unhide HC
  clear HB HA HC
  clear p1 q1
  have R1 := unhide S1
  have R1z := unhide S1z
  clear S1 S1z
  refine (eq_Int64S _ _ x.loose _ R1 R1z).mono ?_
  rintro e w2 ⟨rfl, hb⟩
  replace bA := bA.keep hb
  replace bC := bC.keep hb
  replace HB0 := HB0.trans (hb.mono HB0.size)
  clear hb
  have HB := hide HB0
  have HA := hide bA
  have HC := hide bC
  clear HB0 bA bC
  go_wp2_with fail
  go_ret
  exact ⟨rfl, unhide HB⟩

end Go.Proofs.Ytipomhpimmnchaa

namespace Go.Proofs.Ytipomhpimmnchaa
open Go.RowKit

theorem vcnt_Log (x : DLog) : Lay.tLog.vcnt x = (Lay.sl Lay.int).vcnt x.sure + (Lay.sl Lay.int).vcnt x.loose := by
  show (Lay.sl Lay.int).vcnt x.sure + ((Lay.sl Lay.int).vcnt x.loose) = (Lay.sl Lay.int).vcnt x.sure + (Lay.sl Lay.int).vcnt x.loose
  omega
theorem mkv_Log (k : Int) (x : DLog) : Lay.tLog.mkv k x = ⟨(Lay.sl Lay.int).mkv (k) x.sure, (Lay.sl Lay.int).mkv (k + ((Lay.sl Lay.int).vcnt x.sure : Int)) x.loose⟩ := by
  simp [Lay.tLog, Lay.via, Lay.pair]
theorem own_Log {w : World} {cs : List Value} {x : DLog} {bl : List Nat} (h : Lay.tLog.Own w cs x bl) : ∃ (a0 : Option Addr) (d0 : Nat) (a1 : Option Addr) (d1 : Nat) (g0 : List Nat) (g1 : List Nat), cs = [.slice a0 x.sure.length d0, .slice a1 x.loose.length d1] ∧ bl = g0 ++ g1 ∧ (Lay.sl Lay.int).Own w [.slice a0 x.sure.length d0] x.sure g0 ∧ (Lay.sl Lay.int).Own w [.slice a1 x.loose.length d1] x.loose g1 := by
  obtain ⟨hl, hn, hf⟩ := h
  obtain ⟨a0, d0, b0, a1, d1, b1, rfl, hbl, l0, l1⟩ := lies_Log.1 hl
  rw [hbl] at hn hf
  simp only [List.nodup_append, List.mem_append] at hn hf
  exact ⟨a0, d0, a1, d1, b0, b1, rfl, hbl, ⟨l0, by simp_all, fun b hb => hf b (by simp_all)⟩, ⟨l1, by simp_all, fun b hb => hf b (by simp_all)⟩⟩
theorem mkOwn_Log {w : World} {x : DLog} {c0 : List Value} {c1 : List Value} {g0 : List Nat} {g1 : List Nat} (O0 : (Lay.sl Lay.int).Own w c0 x.sure g0) (O1 : (Lay.sl Lay.int).Own w c1 x.loose g1) (hn : (g0 ++ g1).Nodup) : Lay.tLog.Own w (c0 ++ c1) x (g0 ++ g1) := by
  refine ⟨⟨c0, c1, g0, g1, rfl, by simp, O0.1, O1.1⟩, hn, ?_⟩
  intro b hb o
  simp only [List.mem_append] at hb
  rcases hb with hb | hb
  · exact O0.2.2 b hb o
  · exact O1.2.2 b hb o

end Go.Proofs.Ytipomhpimmnchaa

namespace Go.Proofs.Ytipomhpimmnchaa
open Go.RowKit

theorem cnt_ints (zs : List Int) : (Lay.sl Lay.int).cnt zs = zs.length := by
  show cntAll (fun _ => 1) zs = zs.length
  induction zs with
  | nil => rfl
  | cons z zs ih => simp [cntAll, ih]; omega
theorem vcnt_ints (zs : List Int) : (Lay.sl Lay.int).vcnt zs = zs.length := cnt_ints zs
theorem mkAll_len {α : Type} (cnt : α → Nat) (mk : Int → α → α) (k : Int) (xs : List α) : (mkAll cnt mk k xs).length = xs.length := by
  induction xs generalizing k with
  | nil => rfl
  | cons x xs ih => simp [mkAll, ih]
theorem mk_ints_at (k : Int) (zs : List Int) (j : Nat) (h : j < zs.length) : ((Lay.sl Lay.int).mkv k zs).getD j 0 = k + j := by
  show (mkAll (fun _ => 1) (fun k _ => k) k zs).getD j 0 = k + j
  induction zs generalizing k j with
  | nil => simp at h
  | cons z zs ih =>
    match j with
    | 0 => simp [mkAll]
    | j + 1 =>
      have := ih (k + 1) j (by simpa using h)
      simp only [mkAll, List.getD_cons_succ]
      rw [show ((1 : Nat) : Int) = 1 from rfl, this]
      omega
theorem mk_ints_len (k : Int) (zs : List Int) : ((Lay.sl Lay.int).mkv k zs).length = zs.length := mkAll_len _ _ _ _
theorem mk_ints_wf (k : Int) (zs : List Int) (hk : 0 ≤ k) (hk2 : k + zs.length ≤ 1000000000) : ∀ z ∈ (Lay.sl Lay.int).mkv k zs, (Lit.int .i64 z).wf = true := by
  intro z hz
  obtain ⟨j, hj, rfl⟩ := List.mem_iff_getElem.1 hz
  have hj' := hj
  rw [mk_ints_len] at hj'
  have := mk_ints_at k zs j hj'
  have e : ((Lay.sl Lay.int).mkv k zs)[j] = k + j := by simpa [List.getD, hj] using this
  rw [e]
  exact wf_of_bd (by omega)

set_option maxHeartbeats 400000 in
theorem markI_pos (b off cap : Nat) (zs : List Int) (k : Int) (w : World) (hk : 0 ≤ k) (hk2 : k + zs.length ≤ 1000000000) (hc : ∀ j, j < zs.length → w.cell? ⟨b, off + j, none⟩ = some (.int .i64 (zs.getD j 0)))
    (hf : ∀ o, w.frozen? ⟨b, o, none⟩ = false) :
    Calls Try.prog 25 #[.slice (some ⟨b, off, none⟩) zs.length cap, .int .i64 k] w fun e w' => e = .returned (.int .i64 (k + zs.length)) ∧
      (∀ j, j < zs.length → w'.cell? ⟨b, off + j, none⟩ = some (.int .i64 (k + j))) ∧ (∀ o, w'.frozen? ⟨b, o, none⟩ = false) ∧ (∀ o, (o < off ∨ off + zs.length ≤ o) → w'.cell? ⟨b, o, none⟩ = w.cell? ⟨b, o, none⟩) ∧ Ext (fun q => q = b) w w' := by
  go_enter Try.func25, Try.ntmps25
  go_wp2
  go_loopw [1, 5] (fun kk i wr => ∃ j : Nat, j ≤ zs.length ∧ i = .int .i64 j ∧ kk = .int .i64 (k + j) ∧ (∀ m, m < j → wr.cell? ⟨b, off + m, none⟩ = some (.int .i64 (k + m))) ∧ (∀ o, wr.frozen? ⟨b, o, none⟩ = false) ∧ (∀ o, (o < off ∨ off + j ≤ o) → wr.cell? ⟨b, o, none⟩ = w.cell? ⟨b, o, none⟩) ∧ Ext (fun q => q = b) w wr)
    (fun _ i _ => zs.length - (intOf i).toNat)
  case atStart => exact ⟨0, Nat.zero_le _, rfl, by simp, fun m hm => by omega, hf, fun _ _ => rfl, Ext.refl _ _⟩
  case round =>
    obtain ⟨j, hj, rfl, rfl, hm, hfz, ho, hx⟩ := hrel
    by_cases hlt : j < zs.length
    · have hcd : wr.cell? ⟨b, off + j, none⟩ = some (.int .i64 (zs.getD j 0)) := (ho (off + j) (by omega)).trans (hc j hlt)
      have hfj := hfz (off + j)
      have HM : Hid (∀ m, m < j + 1 → (wr.setCell ⟨b, off + j, none⟩ (.int .i64 (k + j))).cell? ⟨b, off + m, none⟩ = some (.int .i64 (k + m))) := by
        intro m hm1
        by_cases e : m = j
        · subst e
          exact World.cell?_setCell_same _ _ _ hcd
        · rw [World.cell?_setCell_other _ _ _ _ (fun q => by have := congrArg Addr.off q; simp only at this; omega)]
          exact hm m (by omega)
      have HF : Hid (∀ o, (wr.setCell ⟨b, off + j, none⟩ (.int .i64 (k + j))).frozen? ⟨b, o, none⟩ = false) := fun o => by simpa using hfz o
      have HO : Hid (∀ o, (o < off ∨ off + (j + 1) ≤ o) → (wr.setCell ⟨b, off + j, none⟩ (.int .i64 (k + j))).cell? ⟨b, o, none⟩ = w.cell? ⟨b, o, none⟩) := by
        intro o hoo
        rw [World.cell?_setCell_other _ _ _ _ (fun q => by have := congrArg Addr.off q; simp only at this; omega)]
        exact ho o (by omega)
      have HX := hide (hx.setCell ⟨b, off + j, none⟩ (.int .i64 (k + j)) rfl)
      clear hm hfz ho hx hc hf
      go_wp2
      go_roundw
      case rel => exact ⟨j + 1, by omega, by go_num, by go_num, unhide HM, unhide HF, unhide HO, unhide HX⟩
      case measure => simp [intOf]; omega
    · obtain rfl : j = zs.length := by omega
      have HM := hide hm
      have HF := hide hfz
      have HO := hide ho
      have HX := hide hx
      clear hm hfz ho hx hc hf
      go_wp2
      go_ret
      exact ⟨rfl, unhide HM, unhide HF, unhide HO, unhide HX⟩

theorem markI_zero (ao : Option Addr) (cap : Nat) (k : Int) (w : World) :
    Calls Try.prog 25 #[.slice ao 0 cap, .int .i64 k] w fun e w' => e = .returned (.int .i64 k) ∧ w' = w := by
  go_enter Try.func25, Try.ntmps25
  go_wp2
  refine wp_loop_rounds 1 ?_
  rw [rounds_succ]
  go_wp2
  go_ret
  exact ⟨rfl, rfl⟩

/-- markInt64S. -/
theorem mark_Int64S (v : Value) (zs : List Int) (bl : List Nat) (k : Int) (w : World) (h : (Lay.sl Lay.int).Own w [v] zs bl) (hk : 0 ≤ k) (hk2 : k + (Lay.sl Lay.int).vcnt zs ≤ 1000000000) :
    Calls Try.prog 25 #[v, .int .i64 k] w fun e w' => e = .returned (.int .i64 (k + (Lay.sl Lay.int).vcnt zs)) ∧ (Lay.sl Lay.int).Own w' [v] ((Lay.sl Lay.int).mkv k zs) bl ∧ Ext (fun q => q ∈ bl) w w' := by
  obtain ⟨hl, hn, hf⟩ := h
  rw [vcnt_ints] at hk2 ⊢
  rcases Lay.lies_ints.1 hl with ⟨ao, cap, rfl, hbig, hwf, ⟨rfl, rfl⟩ | ⟨b, off, rfl, hb, rfl, hc⟩⟩
  · refine (markI_zero ao cap k w).mono ?_
    rintro e w' ⟨rfl, rfl⟩
    exact ⟨by simp, ⟨hl, hn, hf⟩, Ext.refl _ _⟩
  · refine (markI_pos b off cap zs k w hk hk2 hc (hf b (by simp))).mono ?_
    rintro e w' ⟨rfl, hm, hfz, -, hx⟩
    refine ⟨rfl, ⟨Lay.lies_ints.2 ⟨_, cap, by rw [mk_ints_len], by rw [mk_ints_len]; exact hbig, mk_ints_wf k zs hk hk2, Or.inr ⟨b, off, rfl, Nat.lt_of_lt_of_le hb hx.size, rfl, fun j hj => ?_⟩⟩, hn, ?_⟩, hx.mono fun q _ e => by simp [e]⟩
    · rw [mk_ints_len] at hj
      rw [hm j hj, mk_ints_at k zs j hj]
    · intro b' hb' o
      obtain rfl : b' = b := by simpa using hb'
      exact hfz o

set_option maxHeartbeats 400000 in
theorem heldI_pos (b off cap n : Nat) (k : Int) (w : World) (hk : 0 ≤ k) (hk2 : k + n ≤ 1000000000) (hc : ∀ j, j < n → w.cell? ⟨b, off + j, none⟩ = some (.int .i64 (k + j))) :
    Calls Try.prog 56 #[.slice (some ⟨b, off, none⟩) n cap, .int .i64 k] w fun e w' => e = .returned (.int .i64 (k + n)) ∧ w' = w := by
  go_enter Try.func56, Try.ntmps56
  go_wp2
  go_loop [1, 5] (fun kk i => ∃ j : Nat, j ≤ n ∧ i = .int .i64 j ∧ kk = .int .i64 (k + j)) (fun _ i => n - (intOf i).toNat)
  case atStart => exact ⟨0, Nat.zero_le _, rfl, by simp⟩
  case round =>
    obtain ⟨j, hj, rfl, rfl⟩ := hrel
    by_cases hlt : j < n
    · have hcx := hc j hlt
      have hne : ((k + (j : Int)) != (k + (j : Int))) = false := by simp
      clear hc
      go_wp2
      go_round
      case rel => exact ⟨j + 1, by omega, by go_num, by go_num⟩
      case measure => simp [intOf]; omega
    · obtain rfl : j = n := by omega
      clear hc
      go_wp2
      go_ret
      exact ⟨rfl, rfl⟩
theorem heldI_zero (ao : Option Addr) (cap : Nat) (k : Int) (w : World) :
    Calls Try.prog 56 #[.slice ao 0 cap, .int .i64 k] w fun e w' => e = .returned (.int .i64 k) ∧ w' = w := by
  go_enter Try.func56, Try.ntmps56
  go_wp2
  refine wp_loop_rounds 1 ?_
  rw [rounds_succ]
  go_wp2
  go_ret
  exact ⟨rfl, rfl⟩
/-- heldInt64S. -/
theorem held_Int64S (v : Value) (zs : List Int) (k : Int) (w : World) (h : (Lay.sl Lay.int).Reads w [v] ((Lay.sl Lay.int).mkv k zs)) (hk : 0 ≤ k) (hk2 : k + (Lay.sl Lay.int).vcnt zs ≤ 1000000000) :
    Calls Try.prog 56 #[v, .int .i64 k] w fun e w' => e = .returned (.int .i64 (k + (Lay.sl Lay.int).vcnt zs)) ∧ Below w.heap.size w w' := by
  rw [vcnt_ints] at hk2 ⊢
  obtain ⟨ao, cap, rfl, hwf, hc⟩ := Lay.ints_reads h
  rw [mk_ints_len] at hc ⊢
  by_cases hp : 0 < zs.length
  · obtain ⟨b, off, rfl, hc1⟩ := hc hp
    refine (heldI_pos b off cap zs.length k w hk hk2 fun j hj => by rw [hc1 j hj, mk_ints_at k zs j hj]).mono ?_
    rintro e w' ⟨rfl, rfl⟩
    exact ⟨rfl, Below.refl _ _⟩
  · have e0 : zs.length = 0 := by omega
    rw [e0]
    refine (heldI_zero ao cap k w).mono ?_
    rintro e w' ⟨rfl, rfl⟩
    exact ⟨by simp, Below.refl _ _⟩

end Go.Proofs.Ytipomhpimmnchaa

namespace Go.Proofs.Ytipomhpimmnchaa
open Go.RowKit

set_option maxRecDepth 10000 in
set_option maxHeartbeats 1000000 in
theorem mark_Log (cs : List Value) (x : DLog) (bl : List Nat) (k : Int) (w : World) (h : Lay.tLog.Own w cs x bl) (hk : 0 ≤ k) (hk2 : k + Lay.tLog.vcnt x ≤ 1000000000) :
    Calls Try.prog 39 #[.agg cs.toArray, .int .i64 k] w fun e w' => e = .returned (.int .i64 (k + Lay.tLog.vcnt x)) ∧ Lay.tLog.Own w' cs (Lay.tLog.mkv k x) bl ∧ Ext (fun q => q ∈ bl) w w' := by
  have hlt := h.lt
  have hnd := h.2.1
  rw [vcnt_Log] at hk2
  obtain ⟨a0, d0, a1, d1, g0, g1, rfl, hbl, O0, O1⟩ := own_Log h
  clear h
  have HB0 : Below w.heap.size w (w.alloc (.cells #[.slice a0 x.sure.length d0, .slice a1 x.loose.length d1] 48)) := (Below.refl _ _).alloc (Nat.le_refl _) _
  have bA : Box w.heap.size #[.slice a0 x.sure.length d0, .slice a1 x.loose.length d1] 48 (w.alloc (.cells #[.slice a0 x.sure.length d0, .slice a1 x.loose.length d1] 48)) w.heap.size := newBox (Nat.le_refl _)
  have HN := hide hnd
  have HV := hide (vcnt_Log x)
  have HM := hide (mkv_Log k x)
  clear hnd
  go_enter Try.func39, Try.ntmps39
  go_wp2_with fail
  generalize w.alloc (.cells #[.slice a0 x.sure.length d0, .slice a1 x.loose.length d1] 48) = W0 at *
  replace O0 := O0.later HB0
  replace O1 := O1.later HB0
  have hsz := HB0.size
  have EX : Ext (fun q => q ∈ bl) w W0 := ext_of_below HB0 _
  have hs0 := bA.lt
  refine (mark_Int64S _ x.sure g0 (k) _ O0 (by omega) (by omega)).mono ?_
  rintro e w1 ⟨rfl, Q0, E0⟩
  replace O1 := O1.ext E0 (fun b hb hb2 => by subst hbl; exact absurd rfl ((by have := unhide HN; simp_all [List.nodup_append] : ∀ p ∈ g0, ∀ q ∈ g1, p ≠ q) b hb2 b hb))
  replace EX := EX.trans (E0.mono fun b _ hb => by rw [hbl]; simp [hb])
  replace bA := bA.ext E0 (fun hm => by have := hlt w.heap.size (by rw [hbl]; simp [hm]); omega)
  clear E0
  have p1 := bA.at 1 _ rfl
  have HA := hide bA
  have HX := hide EX
  have HL := hide hlt
  have HBL := hide hbl
  clear bA EX hlt hbl
  have P0 := hide Q0
  clear Q0
  have P1 := hide O1
  clear O1
  clear O0
  go_wp2_with fail
  have bA := unhide HA
  have EX := unhide HX
  have hlt := unhide HL
  have hbl := unhide HBL
  clear HA HX HL HBL
  have Q0 := unhide P0
  clear P0
  have O1 := unhide P1
  clear P1
  clear p1
  refine (mark_Int64S _ x.loose g1 (k + ((Lay.sl Lay.int).vcnt x.sure : Int)) _ O1 (by omega) (by omega)).mono ?_
  rintro e w2 ⟨rfl, Q1, E1⟩
  replace Q0 := Q0.ext E1 (fun b hb hb2 => by subst hbl; exact absurd rfl ((by have := unhide HN; simp_all [List.nodup_append] : ∀ p ∈ g0, ∀ q ∈ g1, p ≠ q) b hb b hb2))
  replace EX := EX.trans (E1.mono fun b _ hb => by rw [hbl]; simp [hb])
  replace bA := bA.ext E1 (fun hm => by have := hlt w.heap.size (by rw [hbl]; simp [hm]); omega)
  clear E1
  have HA := hide bA
  have HX := hide EX
  have HL := hide hlt
  have HBL := hide hbl
  clear bA EX hlt hbl
  have P0 := hide Q0
  clear Q0
  have P1 := hide Q1
  clear Q1
  clear O1
  go_wp2_with fail
  go_ret
  refine ⟨?_, ?_, unhide HX⟩
  · rw [show k + (Lay.tLog.vcnt x : Int) = k + ((Lay.sl Lay.int).vcnt x.sure : Int) + ((Lay.sl Lay.int).vcnt x.loose : Int) by rw [unhide HV]; omega]
    rfl
  · have e := unhide HBL
    subst e
    rw [unhide HM]
    exact mkOwn_Log (x := ⟨(Lay.sl Lay.int).mkv (k) x.sure, (Lay.sl Lay.int).mkv (k + ((Lay.sl Lay.int).vcnt x.sure : Int)) x.loose⟩) (unhide P0) (unhide P1) (unhide HN)

end Go.Proofs.Ytipomhpimmnchaa

namespace Go.Proofs.Ytipomhpimmnchaa
open Go.RowKit

structure DLogResult where
  code : Int
  count : Int
  log : DLog

def Lay.tLogResult : Lay DLogResult := Lay.via (Lay.pair Lay.int (Lay.pair Lay.int Lay.tLog)) (fun x => (x.code, x.count, x.log)) (fun p => ⟨p.1, p.2.1, p.2.2⟩)

theorem lies_LogResult {w : World} {cs : List Value} {x : DLogResult} {bl : List Nat} : Lay.tLogResult.lies w cs x bl ↔ ∃ (a2 : Option Addr) (d2 : Nat) (b2 : List Nat) (a3 : Option Addr) (d3 : Nat) (b3 : List Nat), cs = [.int .i64 x.code, .int .i64 x.count, .slice a2 x.log.sure.length d2, .slice a3 x.log.loose.length d3] ∧ bl = b2 ++ b3 ∧ (Lit.int .i64 x.code).wf = true ∧ (Lit.int .i64 x.count).wf = true ∧ (Lay.sl Lay.int).lies w [.slice a2 x.log.sure.length d2] x.log.sure b2 ∧ (Lay.sl Lay.int).lies w [.slice a3 x.log.loose.length d3] x.log.loose b3 := by
  constructor
  · intro h
    obtain ⟨c0_, r0_, e0_, s0_, rfl, rfl, h0, ⟨c1_, r1_, e1_, s1_, rfl, rfl, h1, h2⟩⟩ := h
    obtain ⟨rfl, w0, rfl⟩ := h0
    obtain ⟨rfl, w1, rfl⟩ := h1
    obtain ⟨a2, d2, q2, a3, d3, q3, rfl, hq2, l2, l3⟩ := lies_Log.1 h2
    exact ⟨a2, d2, q2, a3, d3, q3, by simp, by simp [hq2], w0, w1, l2, l3⟩
  · rintro ⟨a2, d2, b2, a3, d3, b3, rfl, hbl, w0, w1, l2, l3⟩
    rw [hbl]
    exact ⟨[.int .i64 x.code], [.int .i64 x.count] ++ [.slice a2 x.log.sure.length d2, .slice a3 x.log.loose.length d3], [], [] ++ (b2 ++ b3), rfl, by simp, ⟨rfl, w0, rfl⟩, ⟨[.int .i64 x.count], [.slice a2 x.log.sure.length d2, .slice a3 x.log.loose.length d3], [], b2 ++ b3, rfl, by simp, ⟨rfl, w1, rfl⟩, lies_Log.2 ⟨a2, d2, b2, a3, d3, b3, rfl, rfl, l2, l3⟩⟩⟩

theorem open_LogResult {w : World} {cs : List Value} {x : DLogResult} (h : Lay.tLogResult.Reads w cs x) : ∃ (a2 : Option Addr) (d2 : Nat) (a3 : Option Addr) (d3 : Nat), cs = [.int .i64 x.code, .int .i64 x.count, .slice a2 x.log.sure.length d2, .slice a3 x.log.loose.length d3] ∧ Lay.tLog.Reads w [.slice a2 x.log.sure.length d2, .slice a3 x.log.loose.length d3] x.log := by
  obtain ⟨bl, h⟩ := h
  obtain ⟨a2, d2, b2, a3, d3, b3, rfl, -, w0, w1, l2, l3⟩ := lies_LogResult.1 h
  exact ⟨a2, d2, a3, d3, rfl, ⟨_, lies_Log.2 ⟨a2, d2, _, a3, d3, _, rfl, rfl, l2, l3⟩⟩⟩

end Go.Proofs.Ytipomhpimmnchaa

namespace Go.Proofs.Ytipomhpimmnchaa
open Go.RowKit

set_option maxRecDepth 10000 in
set_option maxHeartbeats 1000000 in
theorem eq_LogResult (cs cs2 : List Value) (x : DLogResult) (w : World) (h : Lay.tLogResult.Reads w cs x) (h2 : Lay.tLogResult.Reads w cs2 x) :
    Calls Try.prog 37 #[.agg cs.toArray, .agg cs2.toArray] w fun e w' => e = .returned (.bool true) ∧ Below w.heap.size w w' := by
  obtain ⟨a2, d2, a3, d3, rfl, R2⟩ := open_LogResult h
  obtain ⟨a2z, d2z, a3z, d3z, rfl, R2z⟩ := open_LogResult h2
  clear h h2
  have e0 : (x.code != x.code) = false := by simp
  have e1 : (x.count != x.count) = false := by simp
  have HB0 : Below w.heap.size w ((w.alloc (.cells #[.int .i64 x.code, .int .i64 x.count, .slice a2 x.log.sure.length d2, .slice a3 x.log.loose.length d3] 56)).alloc (.cells #[.int .i64 x.code, .int .i64 x.count, .slice a2z x.log.sure.length d2z, .slice a3z x.log.loose.length d3z] 56)) := ((Below.refl _ _).alloc (Nat.le_refl _) _).alloc (by simp) _
  have bA : Box w.heap.size #[.int .i64 x.code, .int .i64 x.count, .slice a2 x.log.sure.length d2, .slice a3 x.log.loose.length d3] 56 ((w.alloc (.cells #[.int .i64 x.code, .int .i64 x.count, .slice a2 x.log.sure.length d2, .slice a3 x.log.loose.length d3] 56)).alloc (.cells #[.int .i64 x.code, .int .i64 x.count, .slice a2z x.log.sure.length d2z, .slice a3z x.log.loose.length d3z] 56)) w.heap.size := (newBox (Nat.le_refl _)).grow _
  have bC : Box w.heap.size #[.int .i64 x.code, .int .i64 x.count, .slice a2z x.log.sure.length d2z, .slice a3z x.log.loose.length d3z] 56 ((w.alloc (.cells #[.int .i64 x.code, .int .i64 x.count, .slice a2 x.log.sure.length d2, .slice a3 x.log.loose.length d3] 56)).alloc (.cells #[.int .i64 x.code, .int .i64 x.count, .slice a2z x.log.sure.length d2z, .slice a3z x.log.loose.length d3z] 56)) (w.heap.size + 1) := newBoxAt (by omega) (by simp)
  go_enter Try.func37, Try.ntmps37
  go_wp2_with fail
  generalize (w.alloc (.cells #[.int .i64 x.code, .int .i64 x.count, .slice a2 x.log.sure.length d2, .slice a3 x.log.loose.length d3] 56)).alloc (.cells #[.int .i64 x.code, .int .i64 x.count, .slice a2z x.log.sure.length d2z, .slice a3z x.log.loose.length d3z] 56) = W0 at *
  replace R2 := R2.later HB0
  replace R2z := R2z.later HB0
  refine (eq_Log _ _ x.log _ R2 R2z).mono ?_
  rintro e w1 ⟨rfl, hb⟩
  replace bA := bA.keep hb
  replace bC := bC.keep hb
  replace HB0 := HB0.trans (hb.mono HB0.size)
  clear hb
  have HB := hide HB0
  have HA := hide bA
  have HC := hide bC
  clear HB0 bA bC
  go_wp2_with fail
  go_ret
  exact ⟨rfl, unhide HB⟩

end Go.Proofs.Ytipomhpimmnchaa

namespace Go.Proofs.Ytipomhpimmnchaa
open Go.RowKit

theorem vcnt_LogResult (x : DLogResult) : Lay.tLogResult.vcnt x = Lay.tLog.vcnt x.log := by
  show 0 + (0 + (Lay.tLog.vcnt x.log)) = Lay.tLog.vcnt x.log
  omega
theorem mkv_LogResult (k : Int) (x : DLogResult) : Lay.tLogResult.mkv k x = ⟨x.code, x.count, Lay.tLog.mkv (k) x.log⟩ := by
  simp [Lay.tLogResult, Lay.via, Lay.pair, Lay.int]
theorem own_LogResult {w : World} {cs : List Value} {x : DLogResult} {bl : List Nat} (h : Lay.tLogResult.Own w cs x bl) : ∃ (a2 : Option Addr) (d2 : Nat) (a3 : Option Addr) (d3 : Nat) (g2 : List Nat), cs = [.int .i64 x.code, .int .i64 x.count, .slice a2 x.log.sure.length d2, .slice a3 x.log.loose.length d3] ∧ bl = g2 ∧ Lay.tLog.Own w [.slice a2 x.log.sure.length d2, .slice a3 x.log.loose.length d3] x.log g2 ∧ (Lit.int .i64 x.code).wf = true ∧ (Lit.int .i64 x.count).wf = true := by
  obtain ⟨hl, hn, hf⟩ := h
  obtain ⟨a2, d2, b2, a3, d3, b3, rfl, hbl, w0, w1, l2, l3⟩ := lies_LogResult.1 hl
  rw [hbl] at hn hf
  simp only [List.nodup_append, List.mem_append] at hn hf
  exact ⟨a2, d2, a3, d3, (b2 ++ b3), rfl, by first | exact hbl | (rw [hbl]; simp only [List.append_assoc]), ⟨lies_Log.2 ⟨a2, d2, b2, a3, d3, b3, rfl, rfl, l2, l3⟩, by simp_all [List.nodup_append], fun b hb => hf b (by simp_all)⟩, w0, w1⟩
theorem mkOwn_LogResult {w : World} {x : DLogResult} {c2 : List Value} {g2 : List Nat} (O2 : Lay.tLog.Own w c2 x.log g2) (v0 : (Lit.int .i64 x.code).wf = true) (v1 : (Lit.int .i64 x.count).wf = true) (hn : (g2).Nodup) : Lay.tLogResult.Own w ([.int .i64 x.code] ++ ([.int .i64 x.count] ++ c2)) x (g2) := by
  refine ⟨⟨[.int .i64 x.code], [.int .i64 x.count] ++ c2, [], [] ++ g2, rfl, by simp, ⟨rfl, v0, rfl⟩, ⟨[.int .i64 x.count], c2, [], g2, rfl, rfl, ⟨rfl, v1, rfl⟩, O2.1⟩⟩, hn, ?_⟩
  intro b hb o
  exact O2.2.2 b hb o

end Go.Proofs.Ytipomhpimmnchaa

namespace Go.Proofs.Ytipomhpimmnchaa
open Go.RowKit

set_option maxRecDepth 10000 in
set_option maxHeartbeats 1000000 in
theorem mark_LogResult (cs : List Value) (x : DLogResult) (bl : List Nat) (k : Int) (w : World) (h : Lay.tLogResult.Own w cs x bl) (hk : 0 ≤ k) (hk2 : k + Lay.tLogResult.vcnt x ≤ 1000000000) :
    Calls Try.prog 41 #[.agg cs.toArray, .int .i64 k] w fun e w' => e = .returned (.int .i64 (k + Lay.tLogResult.vcnt x)) ∧ Lay.tLogResult.Own w' cs (Lay.tLogResult.mkv k x) bl ∧ Ext (fun q => q ∈ bl) w w' := by
  have hlt := h.lt
  have hnd := h.2.1
  rw [vcnt_LogResult] at hk2
  obtain ⟨a2, d2, a3, d3, g2, rfl, hbl, O2, v0, v1⟩ := own_LogResult h
  clear h
  have HB0 : Below w.heap.size w (w.alloc (.cells #[.int .i64 x.code, .int .i64 x.count, .slice a2 x.log.sure.length d2, .slice a3 x.log.loose.length d3] 56)) := (Below.refl _ _).alloc (Nat.le_refl _) _
  have bA : Box w.heap.size #[.int .i64 x.code, .int .i64 x.count, .slice a2 x.log.sure.length d2, .slice a3 x.log.loose.length d3] 56 (w.alloc (.cells #[.int .i64 x.code, .int .i64 x.count, .slice a2 x.log.sure.length d2, .slice a3 x.log.loose.length d3] 56)) w.heap.size := newBox (Nat.le_refl _)
  have HN := hide hnd
  have HV := hide (vcnt_LogResult x)
  have HM := hide (mkv_LogResult k x)
  clear hnd
  go_enter Try.func41, Try.ntmps41
  go_wp2_with fail
  generalize w.alloc (.cells #[.int .i64 x.code, .int .i64 x.count, .slice a2 x.log.sure.length d2, .slice a3 x.log.loose.length d3] 56) = W0 at *
  replace O2 := O2.later HB0
  have hsz := HB0.size
  have EX : Ext (fun q => q ∈ bl) w W0 := ext_of_below HB0 _
  have hs0 := bA.lt
  refine (mark_Log _ x.log g2 (k) _ O2 (by omega) (by omega)).mono ?_
  rintro e w1 ⟨rfl, Q2, E2⟩
  replace EX := EX.trans (E2.mono fun b _ hb => by rw [hbl]; simp [hb])
  replace bA := bA.ext E2 (fun hm => by have := hlt w.heap.size (by rw [hbl]; simp [hm]); omega)
  clear E2
  have HA := hide bA
  have HX := hide EX
  have HL := hide hlt
  have HBL := hide hbl
  clear bA EX hlt hbl
  have P2 := hide Q2
  clear Q2
  clear O2
  go_wp2_with fail
  go_ret
  refine ⟨?_, ?_, unhide HX⟩
  · rw [show k + (Lay.tLogResult.vcnt x : Int) = k + (Lay.tLog.vcnt x.log : Int) by rw [unhide HV]]
    rfl
  · have e := unhide HBL
    subst e
    rw [unhide HM]
    exact mkOwn_LogResult (x := ⟨x.code, x.count, Lay.tLog.mkv (k) x.log⟩) (unhide P2) v0 v1 (unhide HN)

end Go.Proofs.Ytipomhpimmnchaa

namespace Go.Proofs.Ytipomhpimmnchaa
open Go.RowKit

set_option maxRecDepth 10000 in
set_option maxHeartbeats 1000000 in
theorem held_Log (cs : List Value) (x : DLog) (k : Int) (w : World) (h : Lay.tLog.Reads w cs (Lay.tLog.mkv k x)) (hk : 0 ≤ k) (hk2 : k + Lay.tLog.vcnt x ≤ 1000000000) :
    Calls Try.prog 70 #[.agg cs.toArray, .int .i64 k] w fun e w' => e = .returned (.int .i64 (k + Lay.tLog.vcnt x)) ∧ Below w.heap.size w w' := by
  rw [mkv_Log] at h
  rw [vcnt_Log] at hk2
  have HV := hide (vcnt_Log x)
  obtain ⟨a0, d0, a1, d1, rfl, R0, R1⟩ := open_Log h
  clear h
  generalize hn0 : (⟨(Lay.sl Lay.int).mkv (k) x.sure, (Lay.sl Lay.int).mkv (k + ((Lay.sl Lay.int).vcnt x.sure : Int)) x.loose⟩ : DLog).sure.length = n0 at *
  generalize hn1 : (⟨(Lay.sl Lay.int).mkv (k) x.sure, (Lay.sl Lay.int).mkv (k + ((Lay.sl Lay.int).vcnt x.sure : Int)) x.loose⟩ : DLog).loose.length = n1 at *
  clear hn0 hn1
  have HB0 : Below w.heap.size w (w.alloc (.cells #[.slice a0 n0 d0, .slice a1 n1 d1] 48)) := (Below.refl _ _).alloc (Nat.le_refl _) _
  have bA : Box w.heap.size #[.slice a0 n0 d0, .slice a1 n1 d1] 48 (w.alloc (.cells #[.slice a0 n0 d0, .slice a1 n1 d1] 48)) w.heap.size := newBox (Nat.le_refl _)
  go_enter Try.func70, Try.ntmps70
  go_wp2_with fail
  generalize w.alloc (.cells #[.slice a0 n0 d0, .slice a1 n1 d1] 48) = W0 at *
  replace R0 := R0.later HB0
  replace R1 := R1.later HB0
  refine (held_Int64S _ x.sure (k) _ R0 (by omega) (by omega)).mono ?_
  rintro e w1 ⟨rfl, hb⟩
  replace HB0 := HB0.trans (hb.mono HB0.size)
  replace bA := bA.keep hb
  replace R1 := R1.later hb
  have p1 := bA.at 1 _ rfl
  have HA := hide bA
  have HX := hide HB0
  clear bA HB0 hb R0
  have P1 := hide R1
  clear R1
  have hq : decide (k + ((Lay.sl Lay.int).vcnt x.sure : Int) < 0) = false := by simp; omega
  go_wp2_with fail
  clear hq
  have bA := unhide HA
  have HB0 := unhide HX
  clear HA HX
  have R1 := unhide P1
  clear P1
  clear p1
  refine (held_Int64S _ x.loose (k + ((Lay.sl Lay.int).vcnt x.sure : Int)) _ R1 (by omega) (by omega)).mono ?_
  rintro e w2 ⟨rfl, hb⟩
  replace HB0 := HB0.trans (hb.mono HB0.size)
  replace bA := bA.keep hb
  have HA := hide bA
  have HX := hide HB0
  clear bA HB0 hb R1
  have hq : decide (k + ((Lay.sl Lay.int).vcnt x.sure : Int) + ((Lay.sl Lay.int).vcnt x.loose : Int) < 0) = false := by simp; omega
  go_wp2_with fail
  clear hq
  go_ret
  refine ⟨?_, unhide HX⟩
  rw [show k + (Lay.tLog.vcnt x : Int) = k + ((Lay.sl Lay.int).vcnt x.sure : Int) + ((Lay.sl Lay.int).vcnt x.loose : Int) by rw [unhide HV]; omega]
  rfl

end Go.Proofs.Ytipomhpimmnchaa

namespace Go.Proofs.Ytipomhpimmnchaa
open Go.RowKit

set_option maxRecDepth 10000 in
set_option maxHeartbeats 1000000 in
theorem held_LogResult (cs : List Value) (x : DLogResult) (k : Int) (w : World) (h : Lay.tLogResult.Reads w cs (Lay.tLogResult.mkv k x)) (hk : 0 ≤ k) (hk2 : k + Lay.tLogResult.vcnt x ≤ 1000000000) :
    Calls Try.prog 42 #[.agg cs.toArray, .int .i64 k] w fun e w' => e = .returned (.int .i64 (k + Lay.tLogResult.vcnt x)) ∧ Below w.heap.size w w' := by
  rw [mkv_LogResult] at h
  rw [vcnt_LogResult] at hk2
  have HV := hide (vcnt_LogResult x)
  obtain ⟨a2, d2, a3, d3, rfl, R2⟩ := open_LogResult h
  clear h
  generalize hn2 : (⟨x.code, x.count, Lay.tLog.mkv (k) x.log⟩ : DLogResult).log.sure.length = n2 at *
  generalize hn3 : (⟨x.code, x.count, Lay.tLog.mkv (k) x.log⟩ : DLogResult).log.loose.length = n3 at *
  clear hn2 hn3
  have HB0 : Below w.heap.size w (w.alloc (.cells #[.int .i64 x.code, .int .i64 x.count, .slice a2 n2 d2, .slice a3 n3 d3] 56)) := (Below.refl _ _).alloc (Nat.le_refl _) _
  have bA : Box w.heap.size #[.int .i64 x.code, .int .i64 x.count, .slice a2 n2 d2, .slice a3 n3 d3] 56 (w.alloc (.cells #[.int .i64 x.code, .int .i64 x.count, .slice a2 n2 d2, .slice a3 n3 d3] 56)) w.heap.size := newBox (Nat.le_refl _)
  go_enter Try.func42, Try.ntmps42
  go_wp2_with fail
  generalize w.alloc (.cells #[.int .i64 x.code, .int .i64 x.count, .slice a2 n2 d2, .slice a3 n3 d3] 56) = W0 at *
  replace R2 := R2.later HB0
  refine (held_Log _ x.log (k) _ R2 (by omega) (by omega)).mono ?_
  rintro e w1 ⟨rfl, hb⟩
  replace HB0 := HB0.trans (hb.mono HB0.size)
  replace bA := bA.keep hb
  have HA := hide bA
  have HX := hide HB0
  clear bA HB0 hb R2
  have hq : decide (k + (Lay.tLog.vcnt x.log : Int) < 0) = false := by simp; omega
  go_wp2_with fail
  clear hq
  go_ret
  refine ⟨?_, unhide HX⟩
  rw [show k + (Lay.tLogResult.vcnt x : Int) = k + (Lay.tLog.vcnt x.log : Int) by rw [unhide HV]]
  rfl

end Go.Proofs.Ytipomhpimmnchaa
