/-
  Texts of this proof in one: LayChain, Info, Ints, LayInt, SzInt64S, SzChain, ToChain, EqChain, OwnChain, LayMark, MaChain, LayChainResult, EqChainResult, OwnChainResult, MaChainResult, MkChain, MkChainResult.
  Their conditions stand in their theorems.
-/
import Derived.Test.YtceoaphcjnfphaaCc01
import Derived.Test.YtceoaphcjnfphaaChecked
import Derived.WalkKit
import Derived.BigQuiet
import Derived.Deep.QuietTactic
import Derived.WalkSmall

namespace Go.Proofs.Ytceoaphcjnfphaa
open Go.RowKit

structure DChain where
  epoch : Int
  ids : List Int

def Lay.tChain : Lay DChain := Lay.via (Lay.pair Lay.int (Lay.sl Lay.int)) (fun x => (x.epoch, x.ids)) (fun p => ⟨p.1, p.2⟩)

theorem lies_Chain {w : World} {cs : List Value} {x : DChain} {bl : List Nat} : Lay.tChain.lies w cs x bl ↔ ∃ (a1 : Option Addr) (d1 : Nat) (b1 : List Nat), cs = [.int .i64 x.epoch, .slice a1 x.ids.length d1] ∧ bl = b1 ∧ (Lit.int .i64 x.epoch).wf = true ∧ (Lay.sl Lay.int).lies w [.slice a1 x.ids.length d1] x.ids b1 := by
  constructor
  · intro h
    obtain ⟨c0_, r0_, e0_, s0_, rfl, rfl, h0, h1⟩ := h
    obtain ⟨rfl, w0, rfl⟩ := h0
    have k1 := h1
    obtain ⟨a1, d1, rfl, -⟩ := k1
    exact ⟨a1, d1, s0_, by simp, by simp, w0, h1⟩
  · rintro ⟨a1, d1, b1, rfl, hbl, w0, l1⟩
    rw [hbl]
    exact ⟨[.int .i64 x.epoch], [.slice a1 x.ids.length d1], [], b1, rfl, by simp, ⟨rfl, w0, rfl⟩, l1⟩

theorem open_Chain {w : World} {cs : List Value} {x : DChain} (h : Lay.tChain.Reads w cs x) : ∃ (a1 : Option Addr) (d1 : Nat), cs = [.int .i64 x.epoch, .slice a1 x.ids.length d1] ∧ (Lay.sl Lay.int).Reads w [.slice a1 x.ids.length d1] x.ids := by
  obtain ⟨bl, h⟩ := h
  obtain ⟨a1, d1, b1, rfl, -, w0, l1⟩ := lies_Chain.1 h
  exact ⟨a1, d1, rfl, ⟨_, l1⟩⟩

end Go.Proofs.Ytceoaphcjnfphaa

namespace Go.Proofs.Ytceoaphcjnfphaa

theorem info2 : (Try.prog.info? 2).map (fun i => (i.zero, i.size, i.bytes)) = some (some (.int .i64 0), 1, 8) := by kernel_rfl

end Go.Proofs.Ytceoaphcjnfphaa

namespace Go.Proofs.Ytceoaphcjnfphaa
open Go.RowKit

set_option maxHeartbeats 400000 in
theorem toInts_pos (b off cap : Nat) (zs : List Int) (w : World) (hn : zs.length ≤ 1048576) (hc : ∀ j, j < zs.length → w.cell? ⟨b, off + j, none⟩ = some (.int .i64 (zs.getD j 0))) :
    Calls Try.prog 31 #[.slice (some ⟨b, off, none⟩) zs.length cap] w fun e w' => e = .returned (.slice (some ⟨w.heap.size, 0, none⟩) zs.length zs.length) ∧
      w'.ownsRow w.heap.size 2 1 (.slice (some ⟨w.heap.size, 0, none⟩) zs.length zs.length) zs.length (zs.map (Value.int .i64)) ∧ Below w.heap.size w w' := by
  obtain ⟨i0, hi, hz0, hz1, hz2⟩ := info_parts info2
  go_enter Try.func31, Try.ntmps31
  go_wp2_with (at_make; refine wpList_make_full _ rfl _ _ 22 rfl w.heap.size 2 i0 (.int .i64 0) 1 Try.underlying22 hi hz0 hz1 _ _ _ _ zs.length rfl rfl rfl rfl ?c1 ?c2 ?c3 ?_)
  case c1 => rw [hz2]; omega
  case c2 => unfold maxLen; omega
  case c3 => exact Nat.le_refl _
  intro w1 hown1 hgrow1
  have hB1 : Below w.heap.size w w1 := (Below.refl _ _).grown hgrow1 (Nat.le_refl _) (by simp)
  rw [toList_madeCells_one] at hown1
  clear hgrow1 hi hz0 hz1 hz2
  go_wp2
  go_loopw [4] (fun i wr => ∃ k : Nat, k ≤ zs.length ∧ i = .int .i64 k ∧ wr.ownsRow w.heap.size 2 1 (.slice (some ⟨w.heap.size, 0, none⟩) zs.length zs.length) zs.length ((zs.take k).map (Value.int .i64) ++ List.replicate (zs.length - k) (Value.int .i64 0)) ∧ Below w.heap.size w wr)
    (fun i _ => zs.length - (intOf i).toNat)
  case atStart => exact ⟨0, Nat.zero_le _, rfl, by simpa using hown1, hB1⟩
  case round =>
    obtain ⟨k, hk, rfl, hown, hB⟩ := hrel
    clear hown1 hB1
    by_cases hlt : k < zs.length
    · have hcx : wr.cell? ⟨b, off + k, none⟩ = some (.int .i64 (zs.getD k 0)) := (hB.cell (World.block_lt_of_cell? _ _ (hc k hlt))).trans (hc k hlt)
      have hcd : ∃ u, wr.cell? ⟨w.heap.size, k, none⟩ = some u := by
        rw [hown.cellAt k (by omega)]
        exact ⟨_, List.getElem?_eq_getElem (by simp; omega)⟩
      obtain ⟨u, hcd⟩ := hcd
      have hfz := hown.frozenAt k
      have hst := hown.stored k (.int .i64 (zs.getD k 0))
      rw [set_fill zs k hlt] at hst
      have R := hst.1
      have hB2 : Below w.heap.size w (wr.setCell ⟨w.heap.size, k, none⟩ (.int .i64 (zs.getD k 0))) := hB.setCell (by simp) _
      clear hst hown hB
      go_wp2
      go_roundw
      case rel => exact ⟨k + 1, by omega, by go_num, by simpa [hlt] using R, by simpa [hlt] using hB2⟩
      case measure => simp [intOf]; omega
    · have hk2 : k = zs.length := by omega
      go_wp2
      go_ret
      subst hk2
      exact ⟨rfl, by simpa using hown, hB⟩

set_option maxHeartbeats 400000 in
theorem toInts_zero (ao : Option Addr) (cap : Nat) (w : World) :
    Calls Try.prog 31 #[.slice ao 0 cap] w fun e w' => e = .returned (.slice (some ⟨w.heap.size, 0, none⟩) 0 0) ∧
      w'.ownsRow w.heap.size 2 1 (.slice (some ⟨w.heap.size, 0, none⟩) 0 0) 0 [] ∧ Below w.heap.size w w' := by
  obtain ⟨i0, hi, hz0, hz1, hz2⟩ := info_parts info2
  go_enter Try.func31, Try.ntmps31
  go_wp2_with (at_make; refine wpList_make_full _ rfl _ _ 22 rfl w.heap.size 2 i0 (.int .i64 0) 1 Try.underlying22 hi hz0 hz1 _ _ _ _ 0 rfl rfl rfl rfl ?c1 ?c2 ?c3 ?_)
  case c1 => rw [hz2]; omega
  case c2 => unfold maxLen; omega
  case c3 => exact Nat.le_refl _
  intro w1 hown1 hgrow1
  have hB1 : Below w.heap.size w w1 := (Below.refl _ _).grown hgrow1 (Nat.le_refl _) (by simp)
  clear hgrow1 hi hz0 hz1 hz2
  rw [toList_madeCells_one] at hown1
  go_wp2
  refine wp_loop_rounds 1 ?_
  rw [rounds_succ]
  go_wp2
  go_ret
  exact ⟨rfl, by simpa using hown1, hB1⟩

/-- toInt64S: a new slice of the same numbers. -/
theorem toInts (v : Value) (zs : List Int) (w : World) (h : IsInts w v zs) (hn : zs.length ≤ 1048576) :
    Calls Try.prog 31 #[v] w fun e w' => ∃ v', e = .returned v' ∧ v' = .slice (some ⟨w.heap.size, 0, none⟩) zs.length zs.length ∧
      w'.ownsRow w.heap.size 2 1 v' zs.length (zs.map (Value.int .i64)) ∧ IsInts w' v' zs ∧ Below w.heap.size w w' := by
  obtain ⟨ao, cap, rfl, hwf, hc⟩ := h
  by_cases hp : 0 < zs.length
  · obtain ⟨b, off, rfl, hc1⟩ := hc hp
    refine (toInts_pos b off cap zs w hn hc1).mono ?_
    rintro e w' ⟨rfl, ho, hb⟩
    exact ⟨_, rfl, rfl, ho, isInts_owned hwf ho, hb⟩
  · have hz : zs = [] := List.eq_nil_of_length_eq_zero (by omega)
    subst hz
    refine (toInts_zero ao cap w).mono ?_
    rintro e w' ⟨rfl, ho, hb⟩
    exact ⟨_, rfl, rfl, ho, isInts_owned hwf ho, hb⟩

set_option maxHeartbeats 400000 in
theorem eqInts_pos (b off cap b2 off2 cap2 : Nat) (zs : List Int) (w : World) (hn : zs.length ≤ 9223372036854775807) (hc : ∀ j, j < zs.length → w.cell? ⟨b, off + j, none⟩ = some (.int .i64 (zs.getD j 0)))
    (hc2 : ∀ j, j < zs.length → w.cell? ⟨b2, off2 + j, none⟩ = some (.int .i64 (zs.getD j 0))) :
    Calls Try.prog 34 #[.slice (some ⟨b, off, none⟩) zs.length cap, .slice (some ⟨b2, off2, none⟩) zs.length cap2] w fun e w' => e = .returned (.bool true) ∧ Below w.heap.size w w' := by
  go_enter Try.func34, Try.ntmps34
  go_wp2
  go_loopw [5] (fun i wr => ∃ k : Nat, k ≤ zs.length ∧ i = .int .i64 k ∧ Below w.heap.size w wr) (fun i _ => zs.length - (intOf i).toNat)
  case atStart => exact ⟨0, Nat.zero_le _, rfl, Below.refl _ _⟩
  case round =>
    obtain ⟨k, hk, rfl, hB⟩ := hrel
    by_cases hlt : k < zs.length
    · have hcx : wr.cell? ⟨b, off + k, none⟩ = some (.int .i64 (zs.getD k 0)) := (hB.cell (World.block_lt_of_cell? _ _ (hc k hlt))).trans (hc k hlt)
      have hcy : wr.cell? ⟨b2, off2 + k, none⟩ = some (.int .i64 (zs.getD k 0)) := (hB.cell (World.block_lt_of_cell? _ _ (hc2 k hlt))).trans (hc2 k hlt)
      clear hc hc2
      go_wp2
      go_quiet (fail)
      go_wp2
      go_roundw
      case rel => exact ⟨k + 1, by omega, by go_num, below_drewN hB _⟩
      case measure => simp [intOf]; omega
    · go_wp2
      go_ret
      exact ⟨rfl, hB⟩

set_option maxHeartbeats 400000 in
theorem eqInts_zero (ao ao2 : Option Addr) (cap cap2 : Nat) (w : World) :
    Calls Try.prog 34 #[.slice ao 0 cap, .slice ao2 0 cap2] w fun e w' => e = .returned (.bool true) ∧ Below w.heap.size w w' := by
  go_enter Try.func34, Try.ntmps34
  go_wp2
  refine wp_loop_rounds 1 ?_
  rw [rounds_succ]
  go_wp2
  go_ret
  exact ⟨rfl, Below.refl _ _⟩

/-- eqInt64S: two slices of the same numbers are the same. -/
theorem eqIntsBig (v v2 : Value) (zs : List Int) (w : World) (h : IsInts w v zs) (h2 : IsInts w v2 zs) (hn : zs.length ≤ 9223372036854775807) :
    Calls Try.prog 34 #[v, v2] w fun e w' => e = .returned (.bool true) ∧ Below w.heap.size w w' := by
  obtain ⟨ao, cap, rfl, hwf, hc⟩ := h
  obtain ⟨ao2, cap2, rfl, _, hc2⟩ := h2
  by_cases hp : 0 < zs.length
  · obtain ⟨b, off, rfl, hc1⟩ := hc hp
    obtain ⟨b2, off2, rfl, hc3⟩ := hc2 hp
    exact eqInts_pos b off cap b2 off2 cap2 zs w hn hc1 hc3
  · have hz : zs = [] := List.eq_nil_of_length_eq_zero (by omega)
    subst hz
    exact eqInts_zero ao ao2 cap cap2 w
theorem eqInts (v v2 : Value) (zs : List Int) (w : World) (h : IsInts w v zs) (h2 : IsInts w v2 zs) (hn : zs.length ≤ 1048576) :
    Calls Try.prog 34 #[v, v2] w fun e w' => e = .returned (.bool true) ∧ Below w.heap.size w w' := eqIntsBig v v2 zs w h h2 (by omega)

end Go.Proofs.Ytceoaphcjnfphaa

namespace Go.Proofs.Ytceoaphcjnfphaa
open Go.RowKit

theorem sz_ints (zs : List Int) : (Lay.sl Lay.int).sz zs = zs.length := by
  show zs.length + cntAll (fun _ => 0) zs = zs.length
  have : cntAll (fun _ : Int => 0) zs = 0 := by induction zs with
    | nil => rfl
    | cons z zs ih => simpa [cntAll] using ih
  omega

theorem to_Int64S (v : Value) (zs : List Int) (w : World) (h : (Lay.sl Lay.int).Reads w [v] zs) (hn : (Lay.sl Lay.int).sz zs ≤ 1048576) :
    Calls Try.prog 31 #[v] w fun e w' => ∃ v', e = .returned v' ∧ (Lay.sl Lay.int).OwnIn w' [v'] zs w.heap.size w'.heap.size ∧ Below w.heap.size w w' := by
  rw [sz_ints] at hn
  have hi := Lay.ints_reads h
  refine (toInts v zs w hi hn).mono ?_
  rintro e w' ⟨v', rfl, -, ho, -, hb⟩
  exact ⟨v', rfl, Lay.ownInts hi.wf (by omega) ho, hb⟩

theorem eq_Int64S (v v2 : Value) (zs : List Int) (w : World) (h : (Lay.sl Lay.int).Reads w [v] zs) (h2 : (Lay.sl Lay.int).Reads w [v2] zs) :
    Calls Try.prog 34 #[v, v2] w fun e w' => e = .returned (.bool true) ∧ Below w.heap.size w w' :=
  eqIntsBig v v2 zs w (Lay.ints_reads h) (Lay.ints_reads h2) h.big

end Go.Proofs.Ytceoaphcjnfphaa

namespace Go.Proofs.Ytceoaphcjnfphaa
open Go.RowKit

set_option maxHeartbeats 400000 in
theorem sz_Int64S (v : Value) (zs : List Int) (l : Nat) (w : World) (h : (Lay.sl Lay.int).Reads w [v] zs) (hl : l ≤ 1048576) :
    Calls Try.prog 29 #[v, .int .i64 l] w fun e w' => e = .returned (.int .i64 (szR l ((Lay.sl Lay.int).sz zs))) ∧ Below w.heap.size w w' := by
  have hb := h.big
  obtain ⟨ao, cap, rfl⟩ := open_sl h
  rw [sz_ints]
  generalize zs.length = n at *
  clear h
  by_cases hn : n ≤ l
  · rw [szR_ok hn]
    have e1 : (l : Int) - (n : Int) = ((l - n : Nat) : Int) := by omega
    have e2 : decide (((l - n : Nat) : Int) < 0) = false := by simp
    go_enter Try.func29, Try.ntmps29
    go_wp2_with fail
    go_ret
    exact ⟨rfl, Below.refl _ _⟩
  · rw [szR_many (by omega)]
    have e2 : decide ((l : Int) - (n : Int) < 0) = true := by simp; omega
    go_enter Try.func29, Try.ntmps29
    go_wp2_with fail
    go_ret
    exact ⟨rfl, Below.refl _ _⟩

end Go.Proofs.Ytceoaphcjnfphaa

namespace Go.Proofs.Ytceoaphcjnfphaa
open Go.RowKit

theorem szsum_Chain (x : DChain) : Lay.tChain.sz x = (Lay.sl Lay.int).sz x.ids := by
  show 0 + ((Lay.sl Lay.int).sz x.ids) = (Lay.sl Lay.int).sz x.ids
  omega
set_option maxRecDepth 10000 in
set_option maxHeartbeats 1000000 in
theorem sz_Chain (cs : List Value) (x : DChain) (l : Nat) (w : World) (h : Lay.tChain.Reads w cs x) (hl : l ≤ 1048576) :
    Calls Try.prog 9 #[.agg cs.toArray, .int .i64 l] w fun e w' => e = .returned (.int .i64 (szR l (Lay.tChain.sz x))) ∧ Below w.heap.size w w' := by
  obtain ⟨a1, d1, rfl, R1⟩ := open_Chain h
  clear h
  have HB0 : Below w.heap.size w (w.alloc (.cells #[.int .i64 x.epoch, .slice a1 x.ids.length d1] 24)) := (Below.refl _ _).alloc (Nat.le_refl _) _
  have bA : Box w.heap.size #[.int .i64 x.epoch, .slice a1 x.ids.length d1] 24 (w.alloc (.cells #[.int .i64 x.epoch, .slice a1 x.ids.length d1] 24)) w.heap.size := newBox (Nat.le_refl _)
  have HV := hide (szsum_Chain x)
  go_enter Try.func9, Try.ntmps9
  go_wp2_with fail
  generalize w.alloc (.cells #[.int .i64 x.epoch, .slice a1 x.ids.length d1] 24) = W0 at *
  replace R1 := R1.later HB0
  refine (sz_Int64S _ x.ids (l) _ R1 (by omega)).mono ?_
  rintro e w1 ⟨rfl, hb⟩
  replace HB0 := HB0.trans (hb.mono HB0.size)
  replace bA := bA.keep hb
  clear hb R1
  by_cases hs0 : (Lay.sl Lay.int).sz x.ids ≤ l
  · rw [szR_ok hs0]
    have hq : decide (((l - (Lay.sl Lay.int).sz x.ids : Nat) : Int) < 0) = false := by simp
    have HX := hide HB0
    have HA := hide bA
    clear HB0 bA
    go_wp2_with fail
    clear hq
    go_ret
    refine ⟨?_, unhide HX⟩
    rw [unhide HV, szR_ok (by omega), show l - ((Lay.sl Lay.int).sz x.ids) = l - (Lay.sl Lay.int).sz x.ids by omega]
    rfl
  · rw [szR_many (by omega)]
    have HX := hide HB0
    clear HB0 bA
    go_wp2_with fail
    go_ret
    refine ⟨?_, unhide HX⟩
    rw [unhide HV, szR_many (by omega)]
    rfl

end Go.Proofs.Ytceoaphcjnfphaa

namespace Go.Proofs.Ytceoaphcjnfphaa
open Go.RowKit

set_option maxRecDepth 10000 in
set_option maxHeartbeats 2000000 in
theorem to_Chain (cs : List Value) (x : DChain) (w : World) (h : Lay.tChain.Reads w cs x) (hn : Lay.tChain.sz x ≤ 1048576) :
    Calls Try.prog 11 #[.agg cs.toArray] w fun e w' => ∃ cs', e = .returned (.agg cs'.toArray) ∧ Lay.tChain.OwnIn w' cs' x w.heap.size w'.heap.size ∧ Below w.heap.size w w' := by
  have h0 := h
  obtain ⟨bl, hl⟩ := h0
  obtain ⟨-, -, -, -, -, f0, -⟩ := lies_Chain.1 hl
  clear hl
  obtain ⟨a1, d1, rfl, R1⟩ := open_Chain h
  clear h
  rw [szsum_Chain] at hn
  have HF := hide f0
  clear f0
  have HB0 : Below w.heap.size w (((w.alloc (.cells #[.int .i64 x.epoch, .slice a1 x.ids.length d1] 24)).alloc (.cells #[.int .i64 0, .slice none 0 0] 27)).alloc (.cells #[.int .i64 x.epoch, .slice none 0 0] 27)) := (((Below.refl _ _).alloc (Nat.le_refl _) _).alloc (by simp) _).alloc (by simp; omega) _
  have bA : Box w.heap.size #[.int .i64 x.epoch, .slice a1 x.ids.length d1] 24 (((w.alloc (.cells #[.int .i64 x.epoch, .slice a1 x.ids.length d1] 24)).alloc (.cells #[.int .i64 0, .slice none 0 0] 27)).alloc (.cells #[.int .i64 x.epoch, .slice none 0 0] 27)) w.heap.size := ((newBox (Nat.le_refl _)).grow _).grow _
  have bR : Box w.heap.size #[.int .i64 0, .slice none 0 0] 27 (((w.alloc (.cells #[.int .i64 x.epoch, .slice a1 x.ids.length d1] 24)).alloc (.cells #[.int .i64 0, .slice none 0 0] 27)).alloc (.cells #[.int .i64 x.epoch, .slice none 0 0] 27)) (w.heap.size + 1) := (newBoxAt (by omega) (by simp)).grow _
  have bX : Box w.heap.size #[.int .i64 x.epoch, .slice none 0 0] 27 (((w.alloc (.cells #[.int .i64 x.epoch, .slice a1 x.ids.length d1] 24)).alloc (.cells #[.int .i64 0, .slice none 0 0] 27)).alloc (.cells #[.int .i64 x.epoch, .slice none 0 0] 27)) (w.heap.size + 2) := newBoxAt (by omega) (by simp)
  have hz0 : w.heap.size + 3 ≤ (((w.alloc (.cells #[.int .i64 x.epoch, .slice a1 x.ids.length d1] 24)).alloc (.cells #[.int .i64 0, .slice none 0 0] 27)).alloc (.cells #[.int .i64 x.epoch, .slice none 0 0] 27)).heap.size := by simp
  go_enter Try.func11, Try.ntmps11
  go_wp2_with fail
  generalize ((w.alloc (.cells #[.int .i64 x.epoch, .slice a1 x.ids.length d1] 24)).alloc (.cells #[.int .i64 0, .slice none 0 0] 27)).alloc (.cells #[.int .i64 x.epoch, .slice none 0 0] 27) = W0 at *
  replace R1 := R1.later HB0
  refine (to_Int64S _ x.ids W0 R1 (by omega)).mono ?_
  rintro e w1 ⟨v1, rfl, O1, hb⟩
  have Z0 : W0.heap.size ≤ w1.heap.size := hb.size
  replace HB0 := HB0.trans (hb.mono HB0.size)
  replace bA := bA.keep hb
  replace bR := bR.keep hb
  replace bX := bX.keep hb
  clear hb R1
  obtain ⟨a1z, d1z, rfl⟩ := open_sl O1.reads
  have q0 := bX.at 0 _ rfl
  have q1 := bX.at 1 _ rfl
  have qf := bX.soft
  have ql := bX.lt
  have pl := bA.lt
  have r0 := bR.at 0 _ rfl
  have r1 := bR.at 1 _ rfl
  have rf := bR.soft
  have rl := bR.lt
  simp only [List.getElem_toArray, List.getElem_cons_zero, List.getElem_cons_succ] at q0 q1 r0 r1
  have hA := hide bA
  have hR := hide bR
  have hX := hide bX
  have hB := hide HB0
  clear bA bR bX HB0
  have hO1 := hide O1
  clear O1
  go_wp2_with fail
  refine bodyPost_ret (v := .agg #[.int .i64 x.epoch, .slice a1z x.ids.length d1z]) (by simp [results, Try.results11, go_sem, r0, r1]) rfl ?_
  have E : Ext (fun q => q = w.heap.size + 2 ∨ q = w.heap.size + 1) w1 _ := ext_setL (ext_setL (Ext.refl _ _) (w.heap.size + 2) [(1, .slice a1z x.ids.length d1z)] (Or.inl rfl)) (w.heap.size + 1) [(0, .int .i64 x.epoch), (1, .slice a1z x.ids.length d1z)] (Or.inr rfl)
  obtain f0 := unhide HF
  have own : Lay.tChain.OwnIn _ [.int .i64 x.epoch, .slice a1z x.ids.length d1z] x w.heap.size w1.heap.size := (Lay.ownIn_pair (Lay.ownIn_int (lo := w.heap.size) (hi := w.heap.size) f0) ((unhide hO1).ext E (fun k h1 h2 h3 => by omega)) (by omega) (by omega) (by omega))
  have hsz := E.size
  have told := Lay.toldOwn (w := w) own (by omega) (by omega) ((unhide hB).trans (E.below (unhide hB).size (fun k h1 h2 => by omega)))
  exact told

end Go.Proofs.Ytceoaphcjnfphaa

namespace Go.Proofs.Ytceoaphcjnfphaa
open Go.RowKit

set_option maxRecDepth 10000 in
set_option maxHeartbeats 1000000 in
theorem eq_Chain (cs cs2 : List Value) (x : DChain) (w : World) (h : Lay.tChain.Reads w cs x) (h2 : Lay.tChain.Reads w cs2 x) :
    Calls Try.prog 13 #[.agg cs.toArray, .agg cs2.toArray] w fun e w' => e = .returned (.bool true) ∧ Below w.heap.size w w' := by
  obtain ⟨a1, d1, rfl, R1⟩ := open_Chain h
  obtain ⟨a1z, d1z, rfl, R1z⟩ := open_Chain h2
  clear h h2
  have e0 : (x.epoch != x.epoch) = false := by simp
  have HB0 : Below w.heap.size w ((w.alloc (.cells #[.int .i64 x.epoch, .slice a1 x.ids.length d1] 27)).alloc (.cells #[.int .i64 x.epoch, .slice a1z x.ids.length d1z] 27)) := ((Below.refl _ _).alloc (Nat.le_refl _) _).alloc (by simp) _
  have bA : Box w.heap.size #[.int .i64 x.epoch, .slice a1 x.ids.length d1] 27 ((w.alloc (.cells #[.int .i64 x.epoch, .slice a1 x.ids.length d1] 27)).alloc (.cells #[.int .i64 x.epoch, .slice a1z x.ids.length d1z] 27)) w.heap.size := (newBox (Nat.le_refl _)).grow _
  have bC : Box w.heap.size #[.int .i64 x.epoch, .slice a1z x.ids.length d1z] 27 ((w.alloc (.cells #[.int .i64 x.epoch, .slice a1 x.ids.length d1] 27)).alloc (.cells #[.int .i64 x.epoch, .slice a1z x.ids.length d1z] 27)) (w.heap.size + 1) := newBoxAt (by omega) (by simp)
  go_enter Try.func13, Try.ntmps13
  go_wp2_with fail
  generalize (w.alloc (.cells #[.int .i64 x.epoch, .slice a1 x.ids.length d1] 27)).alloc (.cells #[.int .i64 x.epoch, .slice a1z x.ids.length d1z] 27) = W0 at *
  replace R1 := R1.later HB0
  replace R1z := R1z.later HB0
  refine (eq_Int64S _ _ x.ids _ R1 R1z).mono ?_
  rintro e w1 ⟨rfl, hb⟩
  replace bA := bA.keep hb
  replace bC := bC.keep hb
  replace HB0 := HB0.trans (hb.mono HB0.size)
  clear hb
  have HB := hide HB0
  have HA := hide bA
  have HC := hide bC
  clear HB0 bA bC
  go_wp2_with fail
  go_ret
  exact ⟨rfl, unhide HB⟩

end Go.Proofs.Ytceoaphcjnfphaa

namespace Go.Proofs.Ytceoaphcjnfphaa
open Go.RowKit

theorem vcnt_Chain (x : DChain) : Lay.tChain.vcnt x = (Lay.sl Lay.int).vcnt x.ids := by
  show 0 + ((Lay.sl Lay.int).vcnt x.ids) = (Lay.sl Lay.int).vcnt x.ids
  omega
theorem mkv_Chain (k : Int) (x : DChain) : Lay.tChain.mkv k x = ⟨x.epoch, (Lay.sl Lay.int).mkv (k) x.ids⟩ := by
  simp [Lay.tChain, Lay.via, Lay.pair, Lay.int]
theorem own_Chain {w : World} {cs : List Value} {x : DChain} {bl : List Nat} (h : Lay.tChain.Own w cs x bl) : ∃ (a1 : Option Addr) (d1 : Nat) (g1 : List Nat), cs = [.int .i64 x.epoch, .slice a1 x.ids.length d1] ∧ bl = g1 ∧ (Lay.sl Lay.int).Own w [.slice a1 x.ids.length d1] x.ids g1 ∧ (Lit.int .i64 x.epoch).wf = true := by
  obtain ⟨hl, hn, hf⟩ := h
  obtain ⟨a1, d1, b1, rfl, hbl, w0, l1⟩ := lies_Chain.1 hl
  rw [hbl] at hn hf
  exact ⟨a1, d1, b1, rfl, hbl, ⟨l1, hn, hf⟩, w0⟩
theorem mkOwn_Chain {w : World} {x : DChain} {c1 : List Value} {g1 : List Nat} (O1 : (Lay.sl Lay.int).Own w c1 x.ids g1) (v0 : (Lit.int .i64 x.epoch).wf = true) (hn : (g1).Nodup) : Lay.tChain.Own w ([.int .i64 x.epoch] ++ c1) x (g1) := by
  refine ⟨⟨[.int .i64 x.epoch], c1, [], g1, rfl, by simp, ⟨rfl, v0, rfl⟩, O1.1⟩, hn, ?_⟩
  intro b hb o
  exact O1.2.2 b hb o

end Go.Proofs.Ytceoaphcjnfphaa

namespace Go.Proofs.Ytceoaphcjnfphaa
open Go.RowKit

theorem cnt_ints (zs : List Int) : (Lay.sl Lay.int).cnt zs = zs.length := by
  show cntAll (fun _ => 1) zs = zs.length
  induction zs with
  | nil => rfl
  | cons z zs ih => simp [cntAll, ih]; omega
theorem vcnt_ints (zs : List Int) : (Lay.sl Lay.int).vcnt zs = zs.length := cnt_ints zs
theorem mkAll_len {α : Type} (cnt : α → Nat) (mk : Int → α → α) (k : Int) (xs : List α) : (mkAll cnt mk k xs).length = xs.length := by
  induction xs generalizing k with
  | nil => rfl
  | cons x xs ih => simp [mkAll, ih]
theorem mk_ints_at (k : Int) (zs : List Int) (j : Nat) (h : j < zs.length) : ((Lay.sl Lay.int).mkv k zs).getD j 0 = k + j := by
  show (mkAll (fun _ => 1) (fun k _ => k) k zs).getD j 0 = k + j
  induction zs generalizing k j with
  | nil => simp at h
  | cons z zs ih =>
    match j with
    | 0 => simp [mkAll]
    | j + 1 =>
      have := ih (k + 1) j (by simpa using h)
      simp only [mkAll, List.getD_cons_succ]
      rw [show ((1 : Nat) : Int) = 1 from rfl, this]
      omega
theorem mk_ints_len (k : Int) (zs : List Int) : ((Lay.sl Lay.int).mkv k zs).length = zs.length := mkAll_len _ _ _ _
theorem mk_ints_wf (k : Int) (zs : List Int) (hk : 0 ≤ k) (hk2 : k + zs.length ≤ 1000000000) : ∀ z ∈ (Lay.sl Lay.int).mkv k zs, (Lit.int .i64 z).wf = true := by
  intro z hz
  obtain ⟨j, hj, rfl⟩ := List.mem_iff_getElem.1 hz
  have hj' := hj
  rw [mk_ints_len] at hj'
  have := mk_ints_at k zs j hj'
  have e : ((Lay.sl Lay.int).mkv k zs)[j] = k + j := by simpa [List.getD, hj] using this
  rw [e]
  exact wf_of_bd (by omega)

set_option maxHeartbeats 400000 in
theorem markI_pos (b off cap : Nat) (zs : List Int) (k : Int) (w : World) (hk : 0 ≤ k) (hk2 : k + zs.length ≤ 1000000000) (hc : ∀ j, j < zs.length → w.cell? ⟨b, off + j, none⟩ = some (.int .i64 (zs.getD j 0)))
    (hf : ∀ o, w.frozen? ⟨b, o, none⟩ = false) :
    Calls Try.prog 46 #[.slice (some ⟨b, off, none⟩) zs.length cap, .int .i64 k] w fun e w' => e = .returned (.int .i64 (k + zs.length)) ∧
      (∀ j, j < zs.length → w'.cell? ⟨b, off + j, none⟩ = some (.int .i64 (k + j))) ∧ (∀ o, w'.frozen? ⟨b, o, none⟩ = false) ∧ (∀ o, (o < off ∨ off + zs.length ≤ o) → w'.cell? ⟨b, o, none⟩ = w.cell? ⟨b, o, none⟩) ∧ Ext (fun q => q = b) w w' := by
  go_enter Try.func46, Try.ntmps46
  go_wp2
  go_loopw [1, 5] (fun kk i wr => ∃ j : Nat, j ≤ zs.length ∧ i = .int .i64 j ∧ kk = .int .i64 (k + j) ∧ (∀ m, m < j → wr.cell? ⟨b, off + m, none⟩ = some (.int .i64 (k + m))) ∧ (∀ o, wr.frozen? ⟨b, o, none⟩ = false) ∧ (∀ o, (o < off ∨ off + j ≤ o) → wr.cell? ⟨b, o, none⟩ = w.cell? ⟨b, o, none⟩) ∧ Ext (fun q => q = b) w wr)
    (fun _ i _ => zs.length - (intOf i).toNat)
  case atStart => exact ⟨0, Nat.zero_le _, rfl, by simp, fun m hm => by omega, hf, fun _ _ => rfl, Ext.refl _ _⟩
  case round =>
    obtain ⟨j, hj, rfl, rfl, hm, hfz, ho, hx⟩ := hrel
    by_cases hlt : j < zs.length
    · have hcd : wr.cell? ⟨b, off + j, none⟩ = some (.int .i64 (zs.getD j 0)) := (ho (off + j) (by omega)).trans (hc j hlt)
      have hfj := hfz (off + j)
      have HM : Hid (∀ m, m < j + 1 → (wr.setCell ⟨b, off + j, none⟩ (.int .i64 (k + j))).cell? ⟨b, off + m, none⟩ = some (.int .i64 (k + m))) := by
        intro m hm1
        by_cases e : m = j
        · subst e
          exact World.cell?_setCell_same _ _ _ hcd
        · rw [World.cell?_setCell_other _ _ _ _ (fun q => by have := congrArg Addr.off q; simp only at this; omega)]
          exact hm m (by omega)
      have HF : Hid (∀ o, (wr.setCell ⟨b, off + j, none⟩ (.int .i64 (k + j))).frozen? ⟨b, o, none⟩ = false) := fun o => by simpa using hfz o
      have HO : Hid (∀ o, (o < off ∨ off + (j + 1) ≤ o) → (wr.setCell ⟨b, off + j, none⟩ (.int .i64 (k + j))).cell? ⟨b, o, none⟩ = w.cell? ⟨b, o, none⟩) := by
        intro o hoo
        rw [World.cell?_setCell_other _ _ _ _ (fun q => by have := congrArg Addr.off q; simp only at this; omega)]
        exact ho o (by omega)
      have HX := hide (hx.setCell ⟨b, off + j, none⟩ (.int .i64 (k + j)) rfl)
      clear hm hfz ho hx hc hf
      go_wp2
      go_roundw
      case rel => exact ⟨j + 1, by omega, by go_num, by go_num, unhide HM, unhide HF, unhide HO, unhide HX⟩
      case measure => simp [intOf]; omega
    · obtain rfl : j = zs.length := by omega
      have HM := hide hm
      have HF := hide hfz
      have HO := hide ho
      have HX := hide hx
      clear hm hfz ho hx hc hf
      go_wp2
      go_ret
      exact ⟨rfl, unhide HM, unhide HF, unhide HO, unhide HX⟩

theorem markI_zero (ao : Option Addr) (cap : Nat) (k : Int) (w : World) :
    Calls Try.prog 46 #[.slice ao 0 cap, .int .i64 k] w fun e w' => e = .returned (.int .i64 k) ∧ w' = w := by
  go_enter Try.func46, Try.ntmps46
  go_wp2
  refine wp_loop_rounds 1 ?_
  rw [rounds_succ]
  go_wp2
  go_ret
  exact ⟨rfl, rfl⟩

/-- markInt64S. -/
theorem mark_Int64S (v : Value) (zs : List Int) (bl : List Nat) (k : Int) (w : World) (h : (Lay.sl Lay.int).Own w [v] zs bl) (hk : 0 ≤ k) (hk2 : k + (Lay.sl Lay.int).vcnt zs ≤ 1000000000) :
    Calls Try.prog 46 #[v, .int .i64 k] w fun e w' => e = .returned (.int .i64 (k + (Lay.sl Lay.int).vcnt zs)) ∧ (Lay.sl Lay.int).Own w' [v] ((Lay.sl Lay.int).mkv k zs) bl ∧ Ext (fun q => q ∈ bl) w w' := by
  obtain ⟨hl, hn, hf⟩ := h
  rw [vcnt_ints] at hk2 ⊢
  rcases Lay.lies_ints.1 hl with ⟨ao, cap, rfl, hbig, hwf, ⟨rfl, rfl⟩ | ⟨b, off, rfl, hb, rfl, hc⟩⟩
  · refine (markI_zero ao cap k w).mono ?_
    rintro e w' ⟨rfl, rfl⟩
    exact ⟨by simp, ⟨hl, hn, hf⟩, Ext.refl _ _⟩
  · refine (markI_pos b off cap zs k w hk hk2 hc (hf b (by simp))).mono ?_
    rintro e w' ⟨rfl, hm, hfz, -, hx⟩
    refine ⟨rfl, ⟨Lay.lies_ints.2 ⟨_, cap, by rw [mk_ints_len], by rw [mk_ints_len]; exact hbig, mk_ints_wf k zs hk hk2, Or.inr ⟨b, off, rfl, Nat.lt_of_lt_of_le hb hx.size, rfl, fun j hj => ?_⟩⟩, hn, ?_⟩, hx.mono fun q _ e => by simp [e]⟩
    · rw [mk_ints_len] at hj
      rw [hm j hj, mk_ints_at k zs j hj]
    · intro b' hb' o
      obtain rfl : b' = b := by simpa using hb'
      exact hfz o

set_option maxHeartbeats 400000 in
theorem heldI_pos (b off cap n : Nat) (k : Int) (w : World) (hk : 0 ≤ k) (hk2 : k + n ≤ 1000000000) (hc : ∀ j, j < n → w.cell? ⟨b, off + j, none⟩ = some (.int .i64 (k + j))) :
    Calls Try.prog 52 #[.slice (some ⟨b, off, none⟩) n cap, .int .i64 k] w fun e w' => e = .returned (.int .i64 (k + n)) ∧ w' = w := by
  go_enter Try.func52, Try.ntmps52
  go_wp2
  go_loop [1, 5] (fun kk i => ∃ j : Nat, j ≤ n ∧ i = .int .i64 j ∧ kk = .int .i64 (k + j)) (fun _ i => n - (intOf i).toNat)
  case atStart => exact ⟨0, Nat.zero_le _, rfl, by simp⟩
  case round =>
    obtain ⟨j, hj, rfl, rfl⟩ := hrel
    by_cases hlt : j < n
    · have hcx := hc j hlt
      have hne : ((k + (j : Int)) != (k + (j : Int))) = false := by simp
      clear hc
      go_wp2
      go_round
      case rel => exact ⟨j + 1, by omega, by go_num, by go_num⟩
      case measure => simp [intOf]; omega
    · obtain rfl : j = n := by omega
      clear hc
      go_wp2
      go_ret
      exact ⟨rfl, rfl⟩
theorem heldI_zero (ao : Option Addr) (cap : Nat) (k : Int) (w : World) :
    Calls Try.prog 52 #[.slice ao 0 cap, .int .i64 k] w fun e w' => e = .returned (.int .i64 k) ∧ w' = w := by
  go_enter Try.func52, Try.ntmps52
  go_wp2
  refine wp_loop_rounds 1 ?_
  rw [rounds_succ]
  go_wp2
  go_ret
  exact ⟨rfl, rfl⟩
/-- heldInt64S. -/
theorem held_Int64S (v : Value) (zs : List Int) (k : Int) (w : World) (h : (Lay.sl Lay.int).Reads w [v] ((Lay.sl Lay.int).mkv k zs)) (hk : 0 ≤ k) (hk2 : k + (Lay.sl Lay.int).vcnt zs ≤ 1000000000) :
    Calls Try.prog 52 #[v, .int .i64 k] w fun e w' => e = .returned (.int .i64 (k + (Lay.sl Lay.int).vcnt zs)) ∧ Below w.heap.size w w' := by
  rw [vcnt_ints] at hk2 ⊢
  obtain ⟨ao, cap, rfl, hwf, hc⟩ := Lay.ints_reads h
  rw [mk_ints_len] at hc ⊢
  by_cases hp : 0 < zs.length
  · obtain ⟨b, off, rfl, hc1⟩ := hc hp
    refine (heldI_pos b off cap zs.length k w hk hk2 fun j hj => by rw [hc1 j hj, mk_ints_at k zs j hj]).mono ?_
    rintro e w' ⟨rfl, rfl⟩
    exact ⟨rfl, Below.refl _ _⟩
  · have e0 : zs.length = 0 := by omega
    rw [e0]
    refine (heldI_zero ao cap k w).mono ?_
    rintro e w' ⟨rfl, rfl⟩
    exact ⟨by simp, Below.refl _ _⟩

end Go.Proofs.Ytceoaphcjnfphaa

namespace Go.Proofs.Ytceoaphcjnfphaa
open Go.RowKit

set_option maxRecDepth 10000 in
set_option maxHeartbeats 1000000 in
theorem mark_Chain (cs : List Value) (x : DChain) (bl : List Nat) (k : Int) (w : World) (h : Lay.tChain.Own w cs x bl) (hk : 0 ≤ k) (hk2 : k + Lay.tChain.vcnt x ≤ 1000000000) :
    Calls Try.prog 26 #[.agg cs.toArray, .int .i64 k] w fun e w' => e = .returned (.int .i64 (k + Lay.tChain.vcnt x)) ∧ Lay.tChain.Own w' cs (Lay.tChain.mkv k x) bl ∧ Ext (fun q => q ∈ bl) w w' := by
  have hlt := h.lt
  have hnd := h.2.1
  rw [vcnt_Chain] at hk2
  obtain ⟨a1, d1, g1, rfl, hbl, O1, v0⟩ := own_Chain h
  clear h
  have HB0 : Below w.heap.size w (w.alloc (.cells #[.int .i64 x.epoch, .slice a1 x.ids.length d1] 27)) := (Below.refl _ _).alloc (Nat.le_refl _) _
  have bA : Box w.heap.size #[.int .i64 x.epoch, .slice a1 x.ids.length d1] 27 (w.alloc (.cells #[.int .i64 x.epoch, .slice a1 x.ids.length d1] 27)) w.heap.size := newBox (Nat.le_refl _)
  have HN := hide hnd
  have HV := hide (vcnt_Chain x)
  have HM := hide (mkv_Chain k x)
  clear hnd
  go_enter Try.func26, Try.ntmps26
  go_wp2_with fail
  generalize w.alloc (.cells #[.int .i64 x.epoch, .slice a1 x.ids.length d1] 27) = W0 at *
  replace O1 := O1.later HB0
  have hsz := HB0.size
  have EX : Ext (fun q => q ∈ bl) w W0 := ext_of_below HB0 _
  have hs0 := bA.lt
  refine (mark_Int64S _ x.ids g1 (k) _ O1 (by omega) (by omega)).mono ?_
  rintro e w1 ⟨rfl, Q1, E1⟩
  replace EX := EX.trans (E1.mono fun b _ hb => by rw [hbl]; simp [hb])
  replace bA := bA.ext E1 (fun hm => by have := hlt w.heap.size (by rw [hbl]; simp [hm]); omega)
  clear E1
  have HA := hide bA
  have HX := hide EX
  have HL := hide hlt
  have HBL := hide hbl
  clear bA EX hlt hbl
  have P1 := hide Q1
  clear Q1
  clear O1
  go_wp2_with fail
  go_ret
  refine ⟨?_, ?_, unhide HX⟩
  · rw [show k + (Lay.tChain.vcnt x : Int) = k + ((Lay.sl Lay.int).vcnt x.ids : Int) by rw [unhide HV]]
    rfl
  · have e := unhide HBL
    subst e
    rw [unhide HM]
    exact mkOwn_Chain (x := ⟨x.epoch, (Lay.sl Lay.int).mkv (k) x.ids⟩) (unhide P1) v0 (unhide HN)

end Go.Proofs.Ytceoaphcjnfphaa

namespace Go.Proofs.Ytceoaphcjnfphaa
open Go.RowKit

structure DChainResult where
  code : Int
  chain : DChain

def Lay.tChainResult : Lay DChainResult := Lay.via (Lay.pair Lay.int Lay.tChain) (fun x => (x.code, x.chain)) (fun p => ⟨p.1, p.2⟩)

theorem lies_ChainResult {w : World} {cs : List Value} {x : DChainResult} {bl : List Nat} : Lay.tChainResult.lies w cs x bl ↔ ∃ (a2 : Option Addr) (d2 : Nat) (b2 : List Nat), cs = [.int .i64 x.code, .int .i64 x.chain.epoch, .slice a2 x.chain.ids.length d2] ∧ bl = b2 ∧ (Lit.int .i64 x.code).wf = true ∧ (Lit.int .i64 x.chain.epoch).wf = true ∧ (Lay.sl Lay.int).lies w [.slice a2 x.chain.ids.length d2] x.chain.ids b2 := by
  constructor
  · intro h
    obtain ⟨c0_, r0_, e0_, s0_, rfl, rfl, h0, h1⟩ := h
    obtain ⟨rfl, w0, rfl⟩ := h0
    obtain ⟨a2, d2, q2, rfl, hq1, w1, l2⟩ := lies_Chain.1 h1
    exact ⟨a2, d2, q2, by simp, by simp [hq1], w0, w1, l2⟩
  · rintro ⟨a2, d2, b2, rfl, hbl, w0, w1, l2⟩
    rw [hbl]
    exact ⟨[.int .i64 x.code], [.int .i64 x.chain.epoch, .slice a2 x.chain.ids.length d2], [], b2, rfl, by simp, ⟨rfl, w0, rfl⟩, lies_Chain.2 ⟨a2, d2, b2, rfl, rfl, w1, l2⟩⟩

theorem open_ChainResult {w : World} {cs : List Value} {x : DChainResult} (h : Lay.tChainResult.Reads w cs x) : ∃ (a2 : Option Addr) (d2 : Nat), cs = [.int .i64 x.code, .int .i64 x.chain.epoch, .slice a2 x.chain.ids.length d2] ∧ Lay.tChain.Reads w [.int .i64 x.chain.epoch, .slice a2 x.chain.ids.length d2] x.chain := by
  obtain ⟨bl, h⟩ := h
  obtain ⟨a2, d2, b2, rfl, -, w0, w1, l2⟩ := lies_ChainResult.1 h
  exact ⟨a2, d2, rfl, ⟨_, lies_Chain.2 ⟨a2, d2, _, rfl, rfl, w1, l2⟩⟩⟩

end Go.Proofs.Ytceoaphcjnfphaa

namespace Go.Proofs.Ytceoaphcjnfphaa
open Go.RowKit

set_option maxRecDepth 10000 in
set_option maxHeartbeats 1000000 in
theorem eq_ChainResult (cs cs2 : List Value) (x : DChainResult) (w : World) (h : Lay.tChainResult.Reads w cs x) (h2 : Lay.tChainResult.Reads w cs2 x) :
    Calls Try.prog 16 #[.agg cs.toArray, .agg cs2.toArray] w fun e w' => e = .returned (.bool true) ∧ Below w.heap.size w w' := by
  obtain ⟨a2, d2, rfl, R1⟩ := open_ChainResult h
  obtain ⟨a2z, d2z, rfl, R1z⟩ := open_ChainResult h2
  clear h h2
  have e0 : (x.code != x.code) = false := by simp
  have e1 : (x.chain.epoch != x.chain.epoch) = false := by simp
  have HB0 : Below w.heap.size w ((w.alloc (.cells #[.int .i64 x.code, .int .i64 x.chain.epoch, .slice a2 x.chain.ids.length d2] 32)).alloc (.cells #[.int .i64 x.code, .int .i64 x.chain.epoch, .slice a2z x.chain.ids.length d2z] 32)) := ((Below.refl _ _).alloc (Nat.le_refl _) _).alloc (by simp) _
  have bA : Box w.heap.size #[.int .i64 x.code, .int .i64 x.chain.epoch, .slice a2 x.chain.ids.length d2] 32 ((w.alloc (.cells #[.int .i64 x.code, .int .i64 x.chain.epoch, .slice a2 x.chain.ids.length d2] 32)).alloc (.cells #[.int .i64 x.code, .int .i64 x.chain.epoch, .slice a2z x.chain.ids.length d2z] 32)) w.heap.size := (newBox (Nat.le_refl _)).grow _
  have bC : Box w.heap.size #[.int .i64 x.code, .int .i64 x.chain.epoch, .slice a2z x.chain.ids.length d2z] 32 ((w.alloc (.cells #[.int .i64 x.code, .int .i64 x.chain.epoch, .slice a2 x.chain.ids.length d2] 32)).alloc (.cells #[.int .i64 x.code, .int .i64 x.chain.epoch, .slice a2z x.chain.ids.length d2z] 32)) (w.heap.size + 1) := newBoxAt (by omega) (by simp)
  go_enter Try.func16, Try.ntmps16
  go_wp2_with fail
  generalize (w.alloc (.cells #[.int .i64 x.code, .int .i64 x.chain.epoch, .slice a2 x.chain.ids.length d2] 32)).alloc (.cells #[.int .i64 x.code, .int .i64 x.chain.epoch, .slice a2z x.chain.ids.length d2z] 32) = W0 at *
  replace R1 := R1.later HB0
  replace R1z := R1z.later HB0
  refine (eq_Chain _ _ x.chain _ R1 R1z).mono ?_
  rintro e w1 ⟨rfl, hb⟩
  replace bA := bA.keep hb
  replace bC := bC.keep hb
  replace HB0 := HB0.trans (hb.mono HB0.size)
  clear hb
  have HB := hide HB0
  have HA := hide bA
  have HC := hide bC
  clear HB0 bA bC
  go_wp2_with fail
  go_ret
  exact ⟨rfl, unhide HB⟩

end Go.Proofs.Ytceoaphcjnfphaa

namespace Go.Proofs.Ytceoaphcjnfphaa
open Go.RowKit

theorem vcnt_ChainResult (x : DChainResult) : Lay.tChainResult.vcnt x = Lay.tChain.vcnt x.chain := by
  show 0 + (Lay.tChain.vcnt x.chain) = Lay.tChain.vcnt x.chain
  omega
theorem mkv_ChainResult (k : Int) (x : DChainResult) : Lay.tChainResult.mkv k x = ⟨x.code, Lay.tChain.mkv (k) x.chain⟩ := by
  simp [Lay.tChainResult, Lay.via, Lay.pair, Lay.int]
theorem own_ChainResult {w : World} {cs : List Value} {x : DChainResult} {bl : List Nat} (h : Lay.tChainResult.Own w cs x bl) : ∃ (a2 : Option Addr) (d2 : Nat) (g1 : List Nat), cs = [.int .i64 x.code, .int .i64 x.chain.epoch, .slice a2 x.chain.ids.length d2] ∧ bl = g1 ∧ Lay.tChain.Own w [.int .i64 x.chain.epoch, .slice a2 x.chain.ids.length d2] x.chain g1 ∧ (Lit.int .i64 x.code).wf = true := by
  obtain ⟨hl, hn, hf⟩ := h
  obtain ⟨a2, d2, b2, rfl, hbl, w0, w1, l2⟩ := lies_ChainResult.1 hl
  rw [hbl] at hn hf
  exact ⟨a2, d2, b2, rfl, hbl, ⟨lies_Chain.2 ⟨a2, d2, b2, rfl, rfl, w1, l2⟩, hn, hf⟩, w0⟩
theorem mkOwn_ChainResult {w : World} {x : DChainResult} {c1 : List Value} {g1 : List Nat} (O1 : Lay.tChain.Own w c1 x.chain g1) (v0 : (Lit.int .i64 x.code).wf = true) (hn : (g1).Nodup) : Lay.tChainResult.Own w ([.int .i64 x.code] ++ c1) x (g1) := by
  refine ⟨⟨[.int .i64 x.code], c1, [], g1, rfl, by simp, ⟨rfl, v0, rfl⟩, O1.1⟩, hn, ?_⟩
  intro b hb o
  exact O1.2.2 b hb o

end Go.Proofs.Ytceoaphcjnfphaa

namespace Go.Proofs.Ytceoaphcjnfphaa
open Go.RowKit

set_option maxRecDepth 10000 in
set_option maxHeartbeats 1000000 in
theorem mark_ChainResult (cs : List Value) (x : DChainResult) (bl : List Nat) (k : Int) (w : World) (h : Lay.tChainResult.Own w cs x bl) (hk : 0 ≤ k) (hk2 : k + Lay.tChainResult.vcnt x ≤ 1000000000) :
    Calls Try.prog 17 #[.agg cs.toArray, .int .i64 k] w fun e w' => e = .returned (.int .i64 (k + Lay.tChainResult.vcnt x)) ∧ Lay.tChainResult.Own w' cs (Lay.tChainResult.mkv k x) bl ∧ Ext (fun q => q ∈ bl) w w' := by
  have hlt := h.lt
  have hnd := h.2.1
  rw [vcnt_ChainResult] at hk2
  obtain ⟨a2, d2, g1, rfl, hbl, O1, v0⟩ := own_ChainResult h
  clear h
  have HB0 : Below w.heap.size w (w.alloc (.cells #[.int .i64 x.code, .int .i64 x.chain.epoch, .slice a2 x.chain.ids.length d2] 32)) := (Below.refl _ _).alloc (Nat.le_refl _) _
  have bA : Box w.heap.size #[.int .i64 x.code, .int .i64 x.chain.epoch, .slice a2 x.chain.ids.length d2] 32 (w.alloc (.cells #[.int .i64 x.code, .int .i64 x.chain.epoch, .slice a2 x.chain.ids.length d2] 32)) w.heap.size := newBox (Nat.le_refl _)
  have HN := hide hnd
  have HV := hide (vcnt_ChainResult x)
  have HM := hide (mkv_ChainResult k x)
  clear hnd
  go_enter Try.func17, Try.ntmps17
  go_wp2_with fail
  generalize w.alloc (.cells #[.int .i64 x.code, .int .i64 x.chain.epoch, .slice a2 x.chain.ids.length d2] 32) = W0 at *
  replace O1 := O1.later HB0
  have hsz := HB0.size
  have EX : Ext (fun q => q ∈ bl) w W0 := ext_of_below HB0 _
  have hs0 := bA.lt
  refine (mark_Chain _ x.chain g1 (k) _ O1 (by omega) (by omega)).mono ?_
  rintro e w1 ⟨rfl, Q1, E1⟩
  replace EX := EX.trans (E1.mono fun b _ hb => by rw [hbl]; simp [hb])
  replace bA := bA.ext E1 (fun hm => by have := hlt w.heap.size (by rw [hbl]; simp [hm]); omega)
  clear E1
  have HA := hide bA
  have HX := hide EX
  have HL := hide hlt
  have HBL := hide hbl
  clear bA EX hlt hbl
  have P1 := hide Q1
  clear Q1
  clear O1
  go_wp2_with fail
  go_ret
  refine ⟨?_, ?_, unhide HX⟩
  · rw [show k + (Lay.tChainResult.vcnt x : Int) = k + (Lay.tChain.vcnt x.chain : Int) by rw [unhide HV]]
    rfl
  · have e := unhide HBL
    subst e
    rw [unhide HM]
    exact mkOwn_ChainResult (x := ⟨x.code, Lay.tChain.mkv (k) x.chain⟩) (unhide P1) v0 (unhide HN)

end Go.Proofs.Ytceoaphcjnfphaa

namespace Go.Proofs.Ytceoaphcjnfphaa
open Go.RowKit

set_option maxRecDepth 10000 in
set_option maxHeartbeats 1000000 in
theorem held_Chain (cs : List Value) (x : DChain) (k : Int) (w : World) (h : Lay.tChain.Reads w cs (Lay.tChain.mkv k x)) (hk : 0 ≤ k) (hk2 : k + Lay.tChain.vcnt x ≤ 1000000000) :
    Calls Try.prog 38 #[.agg cs.toArray, .int .i64 k] w fun e w' => e = .returned (.int .i64 (k + Lay.tChain.vcnt x)) ∧ Below w.heap.size w w' := by
  rw [mkv_Chain] at h
  rw [vcnt_Chain] at hk2
  have HV := hide (vcnt_Chain x)
  obtain ⟨a1, d1, rfl, R1⟩ := open_Chain h
  clear h
  generalize hn1 : (⟨x.epoch, (Lay.sl Lay.int).mkv (k) x.ids⟩ : DChain).ids.length = n1 at *
  clear hn1
  have HB0 : Below w.heap.size w (w.alloc (.cells #[.int .i64 x.epoch, .slice a1 n1 d1] 27)) := (Below.refl _ _).alloc (Nat.le_refl _) _
  have bA : Box w.heap.size #[.int .i64 x.epoch, .slice a1 n1 d1] 27 (w.alloc (.cells #[.int .i64 x.epoch, .slice a1 n1 d1] 27)) w.heap.size := newBox (Nat.le_refl _)
  go_enter Try.func38, Try.ntmps38
  go_wp2_with fail
  generalize w.alloc (.cells #[.int .i64 x.epoch, .slice a1 n1 d1] 27) = W0 at *
  replace R1 := R1.later HB0
  refine (held_Int64S _ x.ids (k) _ R1 (by omega) (by omega)).mono ?_
  rintro e w1 ⟨rfl, hb⟩
  replace HB0 := HB0.trans (hb.mono HB0.size)
  replace bA := bA.keep hb
  have HA := hide bA
  have HX := hide HB0
  clear bA HB0 hb R1
  have hq : decide (k + ((Lay.sl Lay.int).vcnt x.ids : Int) < 0) = false := by simp; omega
  go_wp2_with fail
  clear hq
  go_ret
  refine ⟨?_, unhide HX⟩
  rw [show k + (Lay.tChain.vcnt x : Int) = k + ((Lay.sl Lay.int).vcnt x.ids : Int) by rw [unhide HV]]
  rfl

end Go.Proofs.Ytceoaphcjnfphaa

namespace Go.Proofs.Ytceoaphcjnfphaa
open Go.RowKit

set_option maxRecDepth 10000 in
set_option maxHeartbeats 1000000 in
theorem held_ChainResult (cs : List Value) (x : DChainResult) (k : Int) (w : World) (h : Lay.tChainResult.Reads w cs (Lay.tChainResult.mkv k x)) (hk : 0 ≤ k) (hk2 : k + Lay.tChainResult.vcnt x ≤ 1000000000) :
    Calls Try.prog 18 #[.agg cs.toArray, .int .i64 k] w fun e w' => e = .returned (.int .i64 (k + Lay.tChainResult.vcnt x)) ∧ Below w.heap.size w w' := by
  rw [mkv_ChainResult] at h
  rw [vcnt_ChainResult] at hk2
  have HV := hide (vcnt_ChainResult x)
  obtain ⟨a2, d2, rfl, R1⟩ := open_ChainResult h
  clear h
  generalize hn2 : (⟨x.code, Lay.tChain.mkv (k) x.chain⟩ : DChainResult).chain.ids.length = n2 at *
  clear hn2
  generalize hn1 : (⟨x.code, Lay.tChain.mkv (k) x.chain⟩ : DChainResult).chain.epoch = n1 at *
  clear hn1
  have HB0 : Below w.heap.size w (w.alloc (.cells #[.int .i64 x.code, .int .i64 n1, .slice a2 n2 d2] 32)) := (Below.refl _ _).alloc (Nat.le_refl _) _
  have bA : Box w.heap.size #[.int .i64 x.code, .int .i64 n1, .slice a2 n2 d2] 32 (w.alloc (.cells #[.int .i64 x.code, .int .i64 n1, .slice a2 n2 d2] 32)) w.heap.size := newBox (Nat.le_refl _)
  go_enter Try.func18, Try.ntmps18
  go_wp2_with fail
  generalize w.alloc (.cells #[.int .i64 x.code, .int .i64 n1, .slice a2 n2 d2] 32) = W0 at *
  replace R1 := R1.later HB0
  refine (held_Chain _ x.chain (k) _ R1 (by omega) (by omega)).mono ?_
  rintro e w1 ⟨rfl, hb⟩
  replace HB0 := HB0.trans (hb.mono HB0.size)
  replace bA := bA.keep hb
  have HA := hide bA
  have HX := hide HB0
  clear bA HB0 hb R1
  have hq : decide (k + (Lay.tChain.vcnt x.chain : Int) < 0) = false := by simp; omega
  go_wp2_with fail
  clear hq
  go_ret
  refine ⟨?_, unhide HX⟩
  rw [show k + (Lay.tChainResult.vcnt x : Int) = k + (Lay.tChain.vcnt x.chain : Int) by rw [unhide HV]]
  rfl

end Go.Proofs.Ytceoaphcjnfphaa
