/-
  Texts of this proof in one: Ints, LayInt, SzInt64S, SzChain, SzWrite, SzWriteS, SzNode, SzNodeS, SzMsg, SzMsgS, SzHit, SzHitS, SzEntry, SzEntryS, SzWorld, ToChain, ToWrite.
  Their conditions stand in their theorems.
-/
import Derived.Test.YtecagllmonckgaaGreatChecked
import Derived.Test.YtecagllmonckgaaGreatOv01
import Derived.BigQuiet
import Derived.Deep.QuietTactic
import Derived.WalkSmall
import Derived.Test.YtecagllmonckgaaGreatOv00
set_option maxRecDepth 100000
set_option maxHeartbeats 4000000
namespace Go.Proofs.YtecagllmonckgaaGreat
open Go.RowKit
theorem hZ (b off cap : Nat) (zs : List Int) (w : World) (hn : zs.length ≤ 1048576) (hc : ∀ j, j < zs.length → w.cell? ⟨b, off + j, none⟩ = some (.int .i64 (zs.getD j 0))) :
  Calls Tryz.prog 21 #[.slice (some ⟨b, off, none⟩) zs.length cap] w fun e w' => e = .returned (.slice (some ⟨w.heap.size, 0, none⟩) zs.length zs.length) ∧
   w'.ownsRow w.heap.size 2 1 (.slice (some ⟨w.heap.size, 0, none⟩) zs.length zs.length) zs.length (zs.map (Value.int .i64)) ∧ Below w.heap.size w w' := by
 obtain ⟨i0, hi, hz0, hz1, hz2⟩ := info_parts kJ
 go_enter Tryz.func21, Tryz.ntmps21
 go_wp2_with (at_make; refine wpList_make_full _ rfl _ _ 22 rfl w.heap.size 2 i0 (.int .i64 0) 1 Tryz.underlying22 hi hz0 hz1 _ _ _ _ zs.length rfl rfl rfl rfl ?c1 ?c2 ?c3 ?_)
 case c1 => rw [hz2]; omega
 case c2 => unfold maxLen; omega
 case c3 => exact Nat.le_refl _
 intro w1 hown1 hgrow1
 have hB1 : Below w.heap.size w w1 := (Below.refl _ _).grown hgrow1 (Nat.le_refl _) (by simp)
 rw [toList_madeCells_one] at hown1
 clear hgrow1 hi hz0 hz1 hz2
 go_wp2
 go_loopw [4] (fun i wr => ∃ k : Nat, k ≤ zs.length ∧ i = .int .i64 k ∧ wr.ownsRow w.heap.size 2 1 (.slice (some ⟨w.heap.size, 0, none⟩) zs.length zs.length) zs.length ((zs.take k).map (Value.int .i64) ++ List.replicate (zs.length - k) (Value.int .i64 0)) ∧ Below w.heap.size w wr)
  (fun i _ => zs.length - (intOf i).toNat)
 case atStart => exact ⟨0, Nat.zero_le _, rfl, by simpa using hown1, hB1⟩
 case round =>
  obtain ⟨k, hk, rfl, hown, hB⟩ := hrel
  clear hown1 hB1
  by_cases hlt : k < zs.length
  ·
   have hcx : wr.cell? ⟨b, off + k, none⟩ = some (.int .i64 (zs.getD k 0)) := (hB.cell (World.block_lt_of_cell? _ _ (hc k hlt))).trans (hc k hlt)
   have hcd : ∃ u, wr.cell? ⟨w.heap.size, k, none⟩ = some u := by
    rw [hown.cellAt k (by omega)]
    exact ⟨_, List.getElem?_eq_getElem (by simp; omega)⟩
   obtain ⟨u, hcd⟩ := hcd
   have hfz := hown.frozenAt k
   have hst := hown.stored k (.int .i64 (zs.getD k 0))
   rw [j4 zs k hlt] at hst
   have R := hst.1
   have hB2 : Below w.heap.size w (wr.setCell ⟨w.heap.size, k, none⟩ (.int .i64 (zs.getD k 0))) := hB.setCell (by simp) _
   clear hst hown hB
   go_wp2
   go_roundw
   case rel => exact ⟨k + 1, by omega, by go_num, by simpa [hlt] using R, by simpa [hlt] using hB2⟩
   case measure => simp [intOf]; omega
  have hk2 : k = zs.length := by omega
  go_wp2
  go_ret
  subst hk2
  exact ⟨rfl, by simpa using hown, hB⟩
theorem gQ (ao : Option Addr) (cap : Nat) (w : World) :
  Calls Tryz.prog 21 #[.slice ao 0 cap] w fun e w' => e = .returned (.slice (some ⟨w.heap.size, 0, none⟩) 0 0) ∧
   w'.ownsRow w.heap.size 2 1 (.slice (some ⟨w.heap.size, 0, none⟩) 0 0) 0 [] ∧ Below w.heap.size w w' := by
 obtain ⟨i0, hi, hz0, hz1, hz2⟩ := info_parts kJ
 go_enter Tryz.func21, Tryz.ntmps21
 go_wp2_with (at_make; refine wpList_make_full _ rfl _ _ 22 rfl w.heap.size 2 i0 (.int .i64 0) 1 Tryz.underlying22 hi hz0 hz1 _ _ _ _ 0 rfl rfl rfl rfl ?c1 ?c2 ?c3 ?_)
 case c1 => rw [hz2]; omega
 case c2 => unfold maxLen; omega
 case c3 => exact Nat.le_refl _
 intro w1 hown1 hgrow1
 have hB1 : Below w.heap.size w w1 := (Below.refl _ _).grown hgrow1 (Nat.le_refl _) (by simp)
 clear hgrow1 hi hz0 hz1 hz2
 rw [toList_madeCells_one] at hown1
 go_wp2
 refine wp_loop_rounds 1 ?_
 rw [rounds_succ]
 go_wp2
 go_ret
 exact ⟨rfl, by simpa using hown1, hB1⟩
theorem kP (v : Value) (zs : List Int) (w : World) (h : bh w v zs) (hn : zs.length ≤ 1048576) :
  Calls Tryz.prog 21 #[v] w fun e w' => ∃ v', e = .returned v' ∧ v' = .slice (some ⟨w.heap.size, 0, none⟩) zs.length zs.length ∧
   w'.ownsRow w.heap.size 2 1 v' zs.length (zs.map (Value.int .i64)) ∧ bh w' v' zs ∧ Below w.heap.size w w' := by
 obtain ⟨ao, cap, rfl, hwf, hc⟩ := h
 by_cases hp : 0 < zs.length
 ·
  obtain ⟨b, off, rfl, hc1⟩ := hc hp
  refine (hZ b off cap zs w hn hc1).mono ?_
  rintro e w' ⟨rfl, ho, hb⟩
  exact ⟨_, rfl, rfl, ho, dE hwf ho, hb⟩
 have hz : zs = [] := List.eq_nil_of_length_eq_zero (by omega)
 subst hz
 refine (gQ ao cap w).mono ?_
 rintro e w' ⟨rfl, ho, hb⟩
 exact ⟨_, rfl, rfl, ho, dE hwf ho, hb⟩
theorem iw (b off cap b2 off2 cap2 : Nat) (zs : List Int) (w : World) (hn : zs.length ≤ 9223372036854775807) (hc : ∀ j, j < zs.length → w.cell? ⟨b, off + j, none⟩ = some (.int .i64 (zs.getD j 0)))
  (hc2 : ∀ j, j < zs.length → w.cell? ⟨b2, off2 + j, none⟩ = some (.int .i64 (zs.getD j 0))) :
  Calls Tryz.prog 23 #[.slice (some ⟨b, off, none⟩) zs.length cap, .slice (some ⟨b2, off2, none⟩) zs.length cap2] w fun e w' => e = .returned (.bool true) ∧ Below w.heap.size w w' := by
 go_enter Tryz.func23, Tryz.ntmps23
 go_wp2
 go_loopw [5] (fun i wr => ∃ k : Nat, k ≤ zs.length ∧ i = .int .i64 k ∧ Below w.heap.size w wr) (fun i _ => zs.length - (intOf i).toNat)
 case atStart => exact ⟨0, Nat.zero_le _, rfl, Below.refl _ _⟩
 case round =>
  obtain ⟨k, hk, rfl, hB⟩ := hrel
  by_cases hlt : k < zs.length
  ·
   have hcx : wr.cell? ⟨b, off + k, none⟩ = some (.int .i64 (zs.getD k 0)) := (hB.cell (World.block_lt_of_cell? _ _ (hc k hlt))).trans (hc k hlt)
   have hcy : wr.cell? ⟨b2, off2 + k, none⟩ = some (.int .i64 (zs.getD k 0)) := (hB.cell (World.block_lt_of_cell? _ _ (hc2 k hlt))).trans (hc2 k hlt)
   clear hc hc2
   go_wp2
   go_quiet (fail)
   go_wp2
   go_roundw
   case rel => exact ⟨k + 1, by omega, by go_num, below_drewN hB _⟩
   case measure => simp [intOf]; omega
  go_wp2
  go_ret
  exact ⟨rfl, hB⟩
theorem gI (ao ao2 : Option Addr) (cap cap2 : Nat) (w : World) :
  Calls Tryz.prog 23 #[.slice ao 0 cap, .slice ao2 0 cap2] w fun e w' => e = .returned (.bool true) ∧ Below w.heap.size w w' := by
 go_enter Tryz.func23, Tryz.ntmps23
 go_wp2
 refine wp_loop_rounds 1 ?_
 rw [rounds_succ]
 go_wp2
 go_ret
 exact ⟨rfl, Below.refl _ _⟩
theorem ji (v v2 : Value) (zs : List Int) (w : World) (h : bh w v zs) (h2 : bh w v2 zs) (hn : zs.length ≤ 9223372036854775807) :
  Calls Tryz.prog 23 #[v, v2] w fun e w' => e = .returned (.bool true) ∧ Below w.heap.size w w' := by
 obtain ⟨ao, cap, rfl, hwf, hc⟩ := h
 obtain ⟨ao2, cap2, rfl, _, hc2⟩ := h2
 by_cases hp : 0 < zs.length
 ·
  obtain ⟨b, off, rfl, hc1⟩ := hc hp
  obtain ⟨b2, off2, rfl, hc3⟩ := hc2 hp
  exact iw b off cap b2 off2 cap2 zs w hn hc1 hc3
 have hz : zs = [] := List.eq_nil_of_length_eq_zero (by omega)
 subst hz
 exact gI ao ao2 cap cap2 w
theorem iE (zs : List Int) : (ad.sl ad.int).sz zs = zs.length := by
 show zs.length + aL (fun _ => 0) zs = zs.length
 have : aL (fun _ : Int => 0) zs = 0 := by induction zs with
  | nil => rfl
  | cons z zs ih => simpa [aL] using ih
 omega
theorem da (v : Value) (zs : List Int) (w : World) (h : (ad.sl ad.int).Reads w [v] zs) (hn : (ad.sl ad.int).sz zs ≤ 1048576) :
  Calls Tryz.prog 21 #[v] w fun e w' => ∃ v', e = .returned v' ∧ (ad.sl ad.int).aU w' [v'] zs w.heap.size w'.heap.size ∧ Below w.heap.size w w' := by
 rw [iE] at hn
 have hi := ad.bp h
 refine (kP v zs w hi hn).mono ?_
 rintro e w' ⟨v', rfl, -, ho, -, hb⟩
 exact ⟨v', rfl, ad.iH hi.wf (by omega) ho, hb⟩
theorem dc (v v2 : Value) (zs : List Int) (w : World) (h : (ad.sl ad.int).Reads w [v] zs) (h2 : (ad.sl ad.int).Reads w [v2] zs) :
  Calls Tryz.prog 23 #[v, v2] w fun e w' => e = .returned (.bool true) ∧ Below w.heap.size w w' :=
 ji v v2 zs w (ad.bp h) (ad.bp h2) h.cS
theorem df (v : Value) (zs : List Int) (l : Nat) (w : World) (h : (ad.sl ad.int).Reads w [v] zs) (hl : l ≤ 1048576) :
  Calls Tryz.prog 97 #[v, .int .i64 l] w fun e w' => e = .returned (.int .i64 (fX l ((ad.sl ad.int).sz zs))) ∧ Below w.heap.size w w' := by
 have hb := h.cS
 obtain ⟨ao, cap, rfl⟩ := aC h
 rw [iE]
 generalize zs.length = n at *
 clear h
 by_cases hn : n ≤ l
 ·
  rw [aY hn]
  have e1 : (l : Int) - (n : Int) = ((l - n : Nat) : Int) := by omega
  have e2 : decide (((l - n : Nat) : Int) < 0) = false := by simp
  go_enter Tryz.func97, Tryz.ntmps97
  go_wp2_with fail
  go_ret
  exact ⟨rfl, Below.refl _ _⟩
 rw [aD (by omega)]
 have e2 : decide ((l : Int) - (n : Int) < 0) = true := by simp; omega
 go_enter Tryz.func97, Tryz.ntmps97
 go_wp2_with fail
 go_ret
 exact ⟨rfl, Below.refl _ _⟩
theorem dV (x : a8) : ad.aV.sz x = (ad.sl ad.int).sz x.ids := by
 show 0 + ((ad.sl ad.int).sz x.ids) = (ad.sl ad.int).sz x.ids
 omega
theorem jA (cs : List Value) (x : a8) (l : Nat) (w : World) (h : ad.aV.Reads w cs x) (hl : l ≤ 1048576) :
  Calls Tryz.prog 41 #[.agg cs.toArray, .int .i64 l] w fun e w' => e = .returned (.int .i64 (fX l (ad.aV.sz x))) ∧ Below w.heap.size w w' := by
 obtain ⟨a1, d1, rfl, R1⟩ := br h
 clear h
 have HB0 : Below w.heap.size w (w.alloc (.cells #[.int .i64 x.ab, .slice a1 x.ids.length d1] 24)) := (Below.refl _ _).alloc (Nat.le_refl _) _
 have bA : aA w.heap.size #[.int .i64 x.ab, .slice a1 x.ids.length d1] 24 (w.alloc (.cells #[.int .i64 x.ab, .slice a1 x.ids.length d1] 24)) w.heap.size := aM (Nat.le_refl _)
 have HV := yh (dV x)
 go_enter Tryz.func41, Tryz.ntmps41
 go_wp2_with fail
 generalize w.alloc (.cells #[.int .i64 x.ab, .slice a1 x.ids.length d1] 24) = W0 at *
 replace R1 := R1.ae HB0
 refine (df _ x.ids (l) _ R1 (by omega)).mono ?_
 rintro e w1 ⟨rfl, hb⟩
 replace HB0 := HB0.trans (hb.mono HB0.size)
 replace bA := bA.al hb
 clear hb R1
 by_cases hs0 : (ad.sl ad.int).sz x.ids ≤ l
 ·
  rw [aY hs0]
  have hq : decide (((l - (ad.sl ad.int).sz x.ids : Nat) : Int) < 0) = false := by simp
  have HX := yh HB0
  have HA := yh bA
  clear HB0 bA
  go_wp2_with fail
  clear hq
  go_ret
  refine ⟨?_, uh HX⟩
  rw [uh HV, aY (by omega), show l - ((ad.sl ad.int).sz x.ids) = l - (ad.sl ad.int).sz x.ids by omega]
  rfl
 rw [aD (by omega)]
 have HX := yh HB0
 clear HB0 bA
 go_wp2_with fail
 go_ret
 refine ⟨?_, uh HX⟩
 rw [uh HV, aD (by omega)]
 rfl
theorem dW (x : aj) : ad.ag.sz x = (ad.sl ad.int).sz x.vec := by
 show 0 + (0 + ((ad.sl ad.int).sz x.vec + (0 + (0)))) = (ad.sl ad.int).sz x.vec
 omega
theorem gG (cs : List Value) (x : aj) (l : Nat) (w : World) (h : ad.ag.Reads w cs x) (hl : l ≤ 1048576) :
  Calls Tryz.prog 165 #[.agg cs.toArray, .int .i64 l] w fun e w' => e = .returned (.int .i64 (fX l (ad.ag.sz x))) ∧ Below w.heap.size w w' := by
 obtain ⟨a2, d2, rfl, R2⟩ := aP h
 clear h
 have HB0 : Below w.heap.size w (w.alloc (.cells #[.int .i64 x.kind, .int .i64 x.id, .slice a2 x.vec.length d2, .int .i64 x.aa, .int .i64 x.seq] 132)) := (Below.refl _ _).alloc (Nat.le_refl _) _
 have bA : aA w.heap.size #[.int .i64 x.kind, .int .i64 x.id, .slice a2 x.vec.length d2, .int .i64 x.aa, .int .i64 x.seq] 132 (w.alloc (.cells #[.int .i64 x.kind, .int .i64 x.id, .slice a2 x.vec.length d2, .int .i64 x.aa, .int .i64 x.seq] 132)) w.heap.size := aM (Nat.le_refl _)
 have HV := yh (dW x)
 go_enter Tryz.func165, Tryz.ntmps165
 go_wp2_with fail
 generalize w.alloc (.cells #[.int .i64 x.kind, .int .i64 x.id, .slice a2 x.vec.length d2, .int .i64 x.aa, .int .i64 x.seq] 132) = W0 at *
 replace R2 := R2.ae HB0
 refine (df _ x.vec (l) _ R2 (by omega)).mono ?_
 rintro e w1 ⟨rfl, hb⟩
 replace HB0 := HB0.trans (hb.mono HB0.size)
 replace bA := bA.al hb
 clear hb R2
 by_cases hs0 : (ad.sl ad.int).sz x.vec ≤ l
 ·
  rw [aY hs0]
  have hq : decide (((l - (ad.sl ad.int).sz x.vec : Nat) : Int) < 0) = false := by simp
  have HX := yh HB0
  have HA := yh bA
  clear HB0 bA
  go_wp2_with fail
  clear hq
  go_ret
  refine ⟨?_, uh HX⟩
  rw [uh HV, aY (by omega), show l - ((ad.sl ad.int).sz x.vec) = l - (ad.sl ad.int).sz x.vec by omega]
  rfl
 rw [aD (by omega)]
 have HX := yh HB0
 clear HB0 bA
 go_wp2_with fail
 go_ret
 refine ⟨?_, uh HX⟩
 rw [uh HV, aD (by omega)]
 rfl
theorem iO (v : Value) (xs : List aj) (l : Nat) (w : World) (h : (ad.sl ad.ag).Reads w [v] xs) (hl : l ≤ 1048576) :
  Calls Tryz.prog 164 #[v, .int .i64 l] w fun e w' => e = .returned (.int .i64 (fX l ((ad.sl ad.ag).sz xs))) ∧ Below w.heap.size w w' := by
 have hbig := h.cS
 obtain ⟨ao, cap, rfl⟩ := aC h
 have HV : Hid ((ad.sl ad.ag).sz xs = xs.length + aL ad.ag.sz xs) := rfl
 by_cases hn : xs.length ≤ l
 ·
  have e1 : (l : Int) - (xs.length : Int) = ((l - xs.length : Nat) : Int) := by omega
  have e2 : decide (((l - xs.length : Nat) : Int) < 0) = false := by simp
  by_cases hp : 0 < xs.length
  ·
   obtain ⟨b, off, rfl, hbl⟩ := ad.aJ h hp
   have H := yh h
   clear h
   go_enter Tryz.func164, Tryz.ntmps164
   go_wp2_with fail
   go_loopw [1, 5] (fun lf i wr => ∃ k s : Nat, k ≤ xs.length ∧ i = .int .i64 k ∧ s = aL ad.ag.sz (xs.take k) ∧ xs.length + s ≤ l ∧ lf = .int .i64 ((l - (xs.length + s) : Nat) : Int) ∧ Below w.heap.size w wr) (fun _ i _ => xs.length - (intOf i).toNat)
   case atStart => exact ⟨0, 0, Nat.zero_le _, rfl, rfl, by omega, by simp, Below.refl _ _⟩
   case round =>
    obtain ⟨k, s, hk, rfl, hs, hsl, rfl, hB⟩ := hrel
    have HS := yh hs
    clear hs e1 e2
    by_cases hlt : k < xs.length
    ·
     obtain ⟨row, hc, hr⟩ := ad.aW (uh H) hlt
     replace hr := hr.ae hB
     have hr2 := hr
     obtain ⟨a2, d2, rfl, -⟩ := aP hr2
     have c0 : wr.cell? ⟨b, off + k * 5, none⟩ = some (.int .i64 (xs[k]).kind) := (hB.cell (p := ⟨b, off + k * 5, none⟩) hbl).trans (hc 0 (by decide))
     have c1 : wr.cell? ⟨b, off + k * 5 + 1, none⟩ = some (.int .i64 (xs[k]).id) := (hB.cell (p := ⟨b, off + k * 5 + 1, none⟩) hbl).trans (hc 1 (by decide))
     have c2 : wr.cell? ⟨b, off + k * 5 + 2, none⟩ = some (.slice a2 (xs[k]).vec.length d2) := (hB.cell (p := ⟨b, off + k * 5 + 2, none⟩) hbl).trans (hc 2 (by decide))
     have c3 : wr.cell? ⟨b, off + k * 5 + 3, none⟩ = some (.int .i64 (xs[k]).aa) := (hB.cell (p := ⟨b, off + k * 5 + 3, none⟩) hbl).trans (hc 3 (by decide))
     have c4 : wr.cell? ⟨b, off + k * 5 + 4, none⟩ = some (.int .i64 (xs[k]).seq) := (hB.cell (p := ⟨b, off + k * 5 + 4, none⟩) hbl).trans (hc 4 (by decide))
     have HB := yh hB
     have HR := yh hr
     have HT := yh (ad.cC (f := ad.ag.sz) hlt)
     have HL := yh (ad.b8 (f := ad.ag.sz) (xs := xs) (k := k + 1))
     clear hB hr hc
     generalize hxk : xs[k] = x at *
     clear hxk
     go_wp2_with fail
     refine (gG _ x (l - (xs.length + s)) wr (uh HR) (by omega)).mono ?_
     rintro e w2 ⟨rfl, hb⟩
     replace HB := bZ HB hb
     clear hb HR c0 c1 c2 c3 c4
     have ht := uh HT
     rw [← uh HS] at ht
     have hle := uh HL
     rw [ht] at hle
     have HQ := yh ht
     by_cases hq : xs.length + s + ad.ag.sz x ≤ l
     ·
      rw [aY (by omega)]
      have e3 : l - (xs.length + s) - ad.ag.sz x = l - (xs.length + (s + ad.ag.sz x)) := by omega
      rw [e3]
      have e4 : decide (((l - (xs.length + (s + ad.ag.sz x)) : Nat) : Int) < 0) = false := by simp
      clear ht hle e3
      generalize hz : s + ad.ag.sz x = s2 at *
      have hs2 : xs.length + s2 ≤ l := by omega
      clear hz hq
      go_wp2_with fail
      go_roundw
      case rel => exact ⟨k + 1, s2, by omega, by go_num, (uh HQ).symm, hs2, rfl, uh HB⟩
      case measure => simp [intOf]; omega
     rw [aD (by omega)]
     have HN : Hid (l < xs.length + aL ad.ag.sz xs) := by
      show l < xs.length + aL ad.ag.sz xs
      omega
     clear ht hle
     go_wp2_with fail
     go_ret
     refine ⟨?_, uh HB⟩
     rw [uh HV, aD (uh HN)]
     rfl
    obtain rfl : k = xs.length := by omega
    have HE : Hid (s = aL ad.ag.sz xs) := by
     have := uh HS
     rw [List.take_length] at this
     exact this
    have HB := yh hB
    clear hB HS
    go_wp2_with fail
    go_ret
    refine ⟨?_, uh HB⟩
    rw [uh HV, ← uh HE, aY hsl]
    rfl
  obtain rfl : xs = [] := List.eq_nil_of_length_eq_zero (by omega)
  clear h hp
  rw [uh HV]
  simp only [List.length_nil, aL, Nat.add_zero, Nat.sub_zero] at *
  rw [aY (Nat.zero_le _)]
  have e3 : decide ((l : Int) < 0) = false := by simp
  go_enter Tryz.func164, Tryz.ntmps164
  go_wp2_with fail
  refine wp_loop_rounds 1 ?_
  rw [rounds_succ]
  go_wp2_with fail
  go_ret
  exact ⟨by simp, Below.refl _ _⟩
 have HN : Hid (fX l ((ad.sl ad.ag).sz xs) = -1) := aD (by rw [uh HV]; omega)
 rw [uh HN]
 have e2 : decide ((l : Int) - (xs.length : Int) < 0) = true := by simp; omega
 clear h HV HN
 generalize xs.length = n at *
 go_enter Tryz.func164, Tryz.ntmps164
 go_wp2_with fail
 go_ret
 exact ⟨rfl, Below.refl _ _⟩
theorem eL (x : bw) : ad.aN.sz x = (ad.sl ad.ag).sz x.writes := by
 show 0 + (0 + (0 + (0 + ((ad.sl ad.ag).sz x.writes + (0 + (0)))))) = (ad.sl ad.ag).sz x.writes
 omega
theorem kt (cs : List Value) (x : bw) (l : Nat) (w : World) (h : ad.aN.Reads w cs x) (hl : l ≤ 1048576) :
  Calls Tryz.prog 98 #[.agg cs.toArray, .int .i64 l] w fun e w' => e = .returned (.int .i64 (fX l (ad.aN.sz x))) ∧ Below w.heap.size w w' := by
 obtain ⟨a4, d4, rfl, R4⟩ := bd h
 clear h
 have HB0 : Below w.heap.size w (w.alloc (.cells #[.int .i64 x.id, .bool x.up, .int .i64 x.ab, .int .i64 x.ar, .slice a4 x.writes.length d4, .int .i64 x.sure, .int .i64 x.clean] 129)) := (Below.refl _ _).alloc (Nat.le_refl _) _
 have bA : aA w.heap.size #[.int .i64 x.id, .bool x.up, .int .i64 x.ab, .int .i64 x.ar, .slice a4 x.writes.length d4, .int .i64 x.sure, .int .i64 x.clean] 129 (w.alloc (.cells #[.int .i64 x.id, .bool x.up, .int .i64 x.ab, .int .i64 x.ar, .slice a4 x.writes.length d4, .int .i64 x.sure, .int .i64 x.clean] 129)) w.heap.size := aM (Nat.le_refl _)
 have HV := yh (eL x)
 go_enter Tryz.func98, Tryz.ntmps98
 go_wp2_with fail
 generalize w.alloc (.cells #[.int .i64 x.id, .bool x.up, .int .i64 x.ab, .int .i64 x.ar, .slice a4 x.writes.length d4, .int .i64 x.sure, .int .i64 x.clean] 129) = W0 at *
 replace R4 := R4.ae HB0
 refine (iO _ x.writes (l) _ R4 (by omega)).mono ?_
 rintro e w1 ⟨rfl, hb⟩
 replace HB0 := HB0.trans (hb.mono HB0.size)
 replace bA := bA.al hb
 clear hb R4
 by_cases hs0 : (ad.sl ad.ag).sz x.writes ≤ l
 ·
  rw [aY hs0]
  have hq : decide (((l - (ad.sl ad.ag).sz x.writes : Nat) : Int) < 0) = false := by simp
  have HX := yh HB0
  have HA := yh bA
  clear HB0 bA
  go_wp2_with fail
  clear hq
  go_ret
  refine ⟨?_, uh HX⟩
  rw [uh HV, aY (by omega), show l - ((ad.sl ad.ag).sz x.writes) = l - (ad.sl ad.ag).sz x.writes by omega]
  rfl
 rw [aD (by omega)]
 have HX := yh HB0
 clear HB0 bA
 go_wp2_with fail
 go_ret
 refine ⟨?_, uh HX⟩
 rw [uh HV, aD (by omega)]
 rfl
theorem jv (v : Value) (xs : List bw) (l : Nat) (w : World) (h : (ad.sl ad.aN).Reads w [v] xs) (hl : l ≤ 1048576) :
  Calls Tryz.prog 42 #[v, .int .i64 l] w fun e w' => e = .returned (.int .i64 (fX l ((ad.sl ad.aN).sz xs))) ∧ Below w.heap.size w w' := by
 have hbig := h.cS
 obtain ⟨ao, cap, rfl⟩ := aC h
 have HV : Hid ((ad.sl ad.aN).sz xs = xs.length + aL ad.aN.sz xs) := rfl
 by_cases hn : xs.length ≤ l
 ·
  have e1 : (l : Int) - (xs.length : Int) = ((l - xs.length : Nat) : Int) := by omega
  have e2 : decide (((l - xs.length : Nat) : Int) < 0) = false := by simp
  by_cases hp : 0 < xs.length
  ·
   obtain ⟨b, off, rfl, hbl⟩ := ad.aJ h hp
   have H := yh h
   clear h
   go_enter Tryz.func42, Tryz.ntmps42
   go_wp2_with fail
   go_loopw [1, 5] (fun lf i wr => ∃ k s : Nat, k ≤ xs.length ∧ i = .int .i64 k ∧ s = aL ad.aN.sz (xs.take k) ∧ xs.length + s ≤ l ∧ lf = .int .i64 ((l - (xs.length + s) : Nat) : Int) ∧ Below w.heap.size w wr) (fun _ i _ => xs.length - (intOf i).toNat)
   case atStart => exact ⟨0, 0, Nat.zero_le _, rfl, rfl, by omega, by simp, Below.refl _ _⟩
   case round =>
    obtain ⟨k, s, hk, rfl, hs, hsl, rfl, hB⟩ := hrel
    have HS := yh hs
    clear hs e1 e2
    by_cases hlt : k < xs.length
    ·
     obtain ⟨row, hc, hr⟩ := ad.aW (uh H) hlt
     replace hr := hr.ae hB
     have hr2 := hr
     obtain ⟨a4, d4, rfl, -⟩ := bd hr2
     have c0 : wr.cell? ⟨b, off + k * 7, none⟩ = some (.int .i64 (xs[k]).id) := (hB.cell (p := ⟨b, off + k * 7, none⟩) hbl).trans (hc 0 (by decide))
     have c1 : wr.cell? ⟨b, off + k * 7 + 1, none⟩ = some (.bool (xs[k]).up) := (hB.cell (p := ⟨b, off + k * 7 + 1, none⟩) hbl).trans (hc 1 (by decide))
     have c2 : wr.cell? ⟨b, off + k * 7 + 2, none⟩ = some (.int .i64 (xs[k]).ab) := (hB.cell (p := ⟨b, off + k * 7 + 2, none⟩) hbl).trans (hc 2 (by decide))
     have c3 : wr.cell? ⟨b, off + k * 7 + 3, none⟩ = some (.int .i64 (xs[k]).ar) := (hB.cell (p := ⟨b, off + k * 7 + 3, none⟩) hbl).trans (hc 3 (by decide))
     have c4 : wr.cell? ⟨b, off + k * 7 + 4, none⟩ = some (.slice a4 (xs[k]).writes.length d4) := (hB.cell (p := ⟨b, off + k * 7 + 4, none⟩) hbl).trans (hc 4 (by decide))
     have c5 : wr.cell? ⟨b, off + k * 7 + 5, none⟩ = some (.int .i64 (xs[k]).sure) := (hB.cell (p := ⟨b, off + k * 7 + 5, none⟩) hbl).trans (hc 5 (by decide))
     have c6 : wr.cell? ⟨b, off + k * 7 + 6, none⟩ = some (.int .i64 (xs[k]).clean) := (hB.cell (p := ⟨b, off + k * 7 + 6, none⟩) hbl).trans (hc 6 (by decide))
     have HB := yh hB
     have HR := yh hr
     have HT := yh (ad.cC (f := ad.aN.sz) hlt)
     have HL := yh (ad.b8 (f := ad.aN.sz) (xs := xs) (k := k + 1))
     clear hB hr hc
     generalize hxk : xs[k] = x at *
     clear hxk
     go_wp2_with fail
     refine (kt _ x (l - (xs.length + s)) wr (uh HR) (by omega)).mono ?_
     rintro e w2 ⟨rfl, hb⟩
     replace HB := bZ HB hb
     clear hb HR c0 c1 c2 c3 c4 c5 c6
     have ht := uh HT
     rw [← uh HS] at ht
     have hle := uh HL
     rw [ht] at hle
     have HQ := yh ht
     by_cases hq : xs.length + s + ad.aN.sz x ≤ l
     ·
      rw [aY (by omega)]
      have e3 : l - (xs.length + s) - ad.aN.sz x = l - (xs.length + (s + ad.aN.sz x)) := by omega
      rw [e3]
      have e4 : decide (((l - (xs.length + (s + ad.aN.sz x)) : Nat) : Int) < 0) = false := by simp
      clear ht hle e3
      generalize hz : s + ad.aN.sz x = s2 at *
      have hs2 : xs.length + s2 ≤ l := by omega
      clear hz hq
      go_wp2_with fail
      go_roundw
      case rel => exact ⟨k + 1, s2, by omega, by go_num, (uh HQ).symm, hs2, rfl, uh HB⟩
      case measure => simp [intOf]; omega
     rw [aD (by omega)]
     have HN : Hid (l < xs.length + aL ad.aN.sz xs) := by
      show l < xs.length + aL ad.aN.sz xs
      omega
     clear ht hle
     go_wp2_with fail
     go_ret
     refine ⟨?_, uh HB⟩
     rw [uh HV, aD (uh HN)]
     rfl
    obtain rfl : k = xs.length := by omega
    have HE : Hid (s = aL ad.aN.sz xs) := by
     have := uh HS
     rw [List.take_length] at this
     exact this
    have HB := yh hB
    clear hB HS
    go_wp2_with fail
    go_ret
    refine ⟨?_, uh HB⟩
    rw [uh HV, ← uh HE, aY hsl]
    rfl
  obtain rfl : xs = [] := List.eq_nil_of_length_eq_zero (by omega)
  clear h hp
  rw [uh HV]
  simp only [List.length_nil, aL, Nat.add_zero, Nat.sub_zero] at *
  rw [aY (Nat.zero_le _)]
  have e3 : decide ((l : Int) < 0) = false := by simp
  go_enter Tryz.func42, Tryz.ntmps42
  go_wp2_with fail
  refine wp_loop_rounds 1 ?_
  rw [rounds_succ]
  go_wp2_with fail
  go_ret
  exact ⟨by simp, Below.refl _ _⟩
 have HN : Hid (fX l ((ad.sl ad.aN).sz xs) = -1) := aD (by rw [uh HV]; omega)
 rw [uh HN]
 have e2 : decide ((l : Int) - (xs.length : Int) < 0) = true := by simp; omega
 clear h HV HN
 generalize xs.length = n at *
 go_enter Tryz.func42, Tryz.ntmps42
 go_wp2_with fail
 go_ret
 exact ⟨rfl, Below.refl _ _⟩
theorem fH (x : bk) : ad.bg.sz x = ad.ag.sz x.write := by
 show 0 + (0 + (0 + (0 + (0 + (ad.ag.sz x.write))))) = ad.ag.sz x.write
 omega
theorem kO (cs : List Value) (x : bk) (l : Nat) (w : World) (h : ad.bg.Reads w cs x) (hl : l ≤ 1048576) :
  Calls Tryz.prog 99 #[.agg cs.toArray, .int .i64 l] w fun e w' => e = .returned (.int .i64 (fX l (ad.bg.sz x))) ∧ Below w.heap.size w w' := by
 obtain ⟨a7, d7, rfl, R5⟩ := bz h
 clear h
 have HB0 : Below w.heap.size w (w.alloc (.cells #[.int .i64 x.kind, .int .i64 x.ab, .int .i64 x.src, .int .i64 x.dst, .int .i64 x.index, .int .i64 x.write.kind, .int .i64 x.write.id, .slice a7 x.write.vec.length d7, .int .i64 x.write.aa, .int .i64 x.write.seq] 134)) := (Below.refl _ _).alloc (Nat.le_refl _) _
 have bA : aA w.heap.size #[.int .i64 x.kind, .int .i64 x.ab, .int .i64 x.src, .int .i64 x.dst, .int .i64 x.index, .int .i64 x.write.kind, .int .i64 x.write.id, .slice a7 x.write.vec.length d7, .int .i64 x.write.aa, .int .i64 x.write.seq] 134 (w.alloc (.cells #[.int .i64 x.kind, .int .i64 x.ab, .int .i64 x.src, .int .i64 x.dst, .int .i64 x.index, .int .i64 x.write.kind, .int .i64 x.write.id, .slice a7 x.write.vec.length d7, .int .i64 x.write.aa, .int .i64 x.write.seq] 134)) w.heap.size := aM (Nat.le_refl _)
 have HV := yh (fH x)
 go_enter Tryz.func99, Tryz.ntmps99
 go_wp2_with fail
 generalize w.alloc (.cells #[.int .i64 x.kind, .int .i64 x.ab, .int .i64 x.src, .int .i64 x.dst, .int .i64 x.index, .int .i64 x.write.kind, .int .i64 x.write.id, .slice a7 x.write.vec.length d7, .int .i64 x.write.aa, .int .i64 x.write.seq] 134) = W0 at *
 replace R5 := R5.ae HB0
 refine (gG _ x.write (l) _ R5 (by omega)).mono ?_
 rintro e w1 ⟨rfl, hb⟩
 replace HB0 := HB0.trans (hb.mono HB0.size)
 replace bA := bA.al hb
 clear hb R5
 by_cases hs0 : ad.ag.sz x.write ≤ l
 ·
  rw [aY hs0]
  have hq : decide (((l - ad.ag.sz x.write : Nat) : Int) < 0) = false := by simp
  have HX := yh HB0
  have HA := yh bA
  clear HB0 bA
  go_wp2_with fail
  clear hq
  go_ret
  refine ⟨?_, uh HX⟩
  rw [uh HV, aY (by omega), show l - (ad.ag.sz x.write) = l - ad.ag.sz x.write by omega]
  rfl
 rw [aD (by omega)]
 have HX := yh HB0
 clear HB0 bA
 go_wp2_with fail
 go_ret
 refine ⟨?_, uh HX⟩
 rw [uh HV, aD (by omega)]
 rfl
theorem kq (v : Value) (xs : List bk) (l : Nat) (w : World) (h : (ad.sl ad.bg).Reads w [v] xs) (hl : l ≤ 1048576) :
  Calls Tryz.prog 43 #[v, .int .i64 l] w fun e w' => e = .returned (.int .i64 (fX l ((ad.sl ad.bg).sz xs))) ∧ Below w.heap.size w w' := by
 have hbig := h.cS
 obtain ⟨ao, cap, rfl⟩ := aC h
 have HV : Hid ((ad.sl ad.bg).sz xs = xs.length + aL ad.bg.sz xs) := rfl
 by_cases hn : xs.length ≤ l
 ·
  have e1 : (l : Int) - (xs.length : Int) = ((l - xs.length : Nat) : Int) := by omega
  have e2 : decide (((l - xs.length : Nat) : Int) < 0) = false := by simp
  by_cases hp : 0 < xs.length
  ·
   obtain ⟨b, off, rfl, hbl⟩ := ad.aJ h hp
   have H := yh h
   clear h
   go_enter Tryz.func43, Tryz.ntmps43
   go_wp2_with fail
   go_loopw [1, 5] (fun lf i wr => ∃ k s : Nat, k ≤ xs.length ∧ i = .int .i64 k ∧ s = aL ad.bg.sz (xs.take k) ∧ xs.length + s ≤ l ∧ lf = .int .i64 ((l - (xs.length + s) : Nat) : Int) ∧ Below w.heap.size w wr) (fun _ i _ => xs.length - (intOf i).toNat)
   case atStart => exact ⟨0, 0, Nat.zero_le _, rfl, rfl, by omega, by simp, Below.refl _ _⟩
   case round =>
    obtain ⟨k, s, hk, rfl, hs, hsl, rfl, hB⟩ := hrel
    have HS := yh hs
    clear hs e1 e2
    by_cases hlt : k < xs.length
    ·
     obtain ⟨row, hc, hr⟩ := ad.aW (uh H) hlt
     replace hr := hr.ae hB
     have hr2 := hr
     obtain ⟨a7, d7, rfl, -⟩ := bz hr2
     have c0 : wr.cell? ⟨b, off + k * 10, none⟩ = some (.int .i64 (xs[k]).kind) := (hB.cell (p := ⟨b, off + k * 10, none⟩) hbl).trans (hc 0 (by decide))
     have c1 : wr.cell? ⟨b, off + k * 10 + 1, none⟩ = some (.int .i64 (xs[k]).ab) := (hB.cell (p := ⟨b, off + k * 10 + 1, none⟩) hbl).trans (hc 1 (by decide))
     have c2 : wr.cell? ⟨b, off + k * 10 + 2, none⟩ = some (.int .i64 (xs[k]).src) := (hB.cell (p := ⟨b, off + k * 10 + 2, none⟩) hbl).trans (hc 2 (by decide))
     have c3 : wr.cell? ⟨b, off + k * 10 + 3, none⟩ = some (.int .i64 (xs[k]).dst) := (hB.cell (p := ⟨b, off + k * 10 + 3, none⟩) hbl).trans (hc 3 (by decide))
     have c4 : wr.cell? ⟨b, off + k * 10 + 4, none⟩ = some (.int .i64 (xs[k]).index) := (hB.cell (p := ⟨b, off + k * 10 + 4, none⟩) hbl).trans (hc 4 (by decide))
     have c5 : wr.cell? ⟨b, off + k * 10 + 5, none⟩ = some (.int .i64 (xs[k]).write.kind) := (hB.cell (p := ⟨b, off + k * 10 + 5, none⟩) hbl).trans (hc 5 (by decide))
     have c6 : wr.cell? ⟨b, off + k * 10 + 6, none⟩ = some (.int .i64 (xs[k]).write.id) := (hB.cell (p := ⟨b, off + k * 10 + 6, none⟩) hbl).trans (hc 6 (by decide))
     have c7 : wr.cell? ⟨b, off + k * 10 + 7, none⟩ = some (.slice a7 (xs[k]).write.vec.length d7) := (hB.cell (p := ⟨b, off + k * 10 + 7, none⟩) hbl).trans (hc 7 (by decide))
     have c8 : wr.cell? ⟨b, off + k * 10 + 8, none⟩ = some (.int .i64 (xs[k]).write.aa) := (hB.cell (p := ⟨b, off + k * 10 + 8, none⟩) hbl).trans (hc 8 (by decide))
     have c9 : wr.cell? ⟨b, off + k * 10 + 9, none⟩ = some (.int .i64 (xs[k]).write.seq) := (hB.cell (p := ⟨b, off + k * 10 + 9, none⟩) hbl).trans (hc 9 (by decide))
     have HB := yh hB
     have HR := yh hr
     have HT := yh (ad.cC (f := ad.bg.sz) hlt)
     have HL := yh (ad.b8 (f := ad.bg.sz) (xs := xs) (k := k + 1))
     clear hB hr hc
     generalize hxk : xs[k] = x at *
     clear hxk
     go_wp2_with fail
     refine (kO _ x (l - (xs.length + s)) wr (uh HR) (by omega)).mono ?_
     rintro e w2 ⟨rfl, hb⟩
     replace HB := bZ HB hb
     clear hb HR c0 c1 c2 c3 c4 c5 c6 c7 c8 c9
     have ht := uh HT
     rw [← uh HS] at ht
     have hle := uh HL
     rw [ht] at hle
     have HQ := yh ht
     by_cases hq : xs.length + s + ad.bg.sz x ≤ l
     ·
      rw [aY (by omega)]
      have e3 : l - (xs.length + s) - ad.bg.sz x = l - (xs.length + (s + ad.bg.sz x)) := by omega
      rw [e3]
      have e4 : decide (((l - (xs.length + (s + ad.bg.sz x)) : Nat) : Int) < 0) = false := by simp
      clear ht hle e3
      generalize hz : s + ad.bg.sz x = s2 at *
      have hs2 : xs.length + s2 ≤ l := by omega
      clear hz hq
      go_wp2_with fail
      go_roundw
      case rel => exact ⟨k + 1, s2, by omega, by go_num, (uh HQ).symm, hs2, rfl, uh HB⟩
      case measure => simp [intOf]; omega
     rw [aD (by omega)]
     have HN : Hid (l < xs.length + aL ad.bg.sz xs) := by
      show l < xs.length + aL ad.bg.sz xs
      omega
     clear ht hle
     go_wp2_with fail
     go_ret
     refine ⟨?_, uh HB⟩
     rw [uh HV, aD (uh HN)]
     rfl
    obtain rfl : k = xs.length := by omega
    have HE : Hid (s = aL ad.bg.sz xs) := by
     have := uh HS
     rw [List.take_length] at this
     exact this
    have HB := yh hB
    clear hB HS
    go_wp2_with fail
    go_ret
    refine ⟨?_, uh HB⟩
    rw [uh HV, ← uh HE, aY hsl]
    rfl
  obtain rfl : xs = [] := List.eq_nil_of_length_eq_zero (by omega)
  clear h hp
  rw [uh HV]
  simp only [List.length_nil, aL, Nat.add_zero, Nat.sub_zero] at *
  rw [aY (Nat.zero_le _)]
  have e3 : decide ((l : Int) < 0) = false := by simp
  go_enter Tryz.func43, Tryz.ntmps43
  go_wp2_with fail
  refine wp_loop_rounds 1 ?_
  rw [rounds_succ]
  go_wp2_with fail
  go_ret
  exact ⟨by simp, Below.refl _ _⟩
 have HN : Hid (fX l ((ad.sl ad.bg).sz xs) = -1) := aD (by rw [uh HV]; omega)
 rw [uh HN]
 have e2 : decide ((l : Int) - (xs.length : Int) < 0) = true := by simp; omega
 clear h HV HN
 generalize xs.length = n at *
 go_enter Tryz.func43, Tryz.ntmps43
 go_wp2_with fail
 go_ret
 exact ⟨rfl, Below.refl _ _⟩
theorem jf (x : fW) : ad.bU.sz x = 0 := by
 show 0 + (0) = 0
 omega
theorem kv (v : Value) (xs : List fW) (l : Nat) (w : World) (h : (ad.sl ad.bU).Reads w [v] xs) (hl : l ≤ 1048576) :
  Calls Tryz.prog 166 #[v, .int .i64 l] w fun e w' => e = .returned (.int .i64 (fX l ((ad.sl ad.bU).sz xs))) ∧ Below w.heap.size w w' := by
 have hbig := h.cS
 obtain ⟨ao, cap, rfl⟩ := aC h
 have HV : Hid ((ad.sl ad.bU).sz xs = xs.length + aL ad.bU.sz xs) := rfl
 have e0 : aL ad.bU.sz xs = 0 := by
  clear h hbig HV
  induction xs with
  | nil => rfl
  | cons x xs ih => rw [aL, ih, jf]
 rw [uh HV, e0, Nat.add_zero]
 generalize xs.length = n at *
 clear h HV e0
 by_cases hn : n ≤ l
 ·
  rw [aY hn]
  have e1 : (l : Int) - (n : Int) = ((l - n : Nat) : Int) := by omega
  have e2 : decide (((l - n : Nat) : Int) < 0) = false := by simp
  go_enter Tryz.func166, Tryz.ntmps166
  go_wp2_with fail
  go_ret
  exact ⟨rfl, Below.refl _ _⟩
 rw [aD (by omega)]
 have e2 : decide ((l : Int) - (n : Int) < 0) = true := by simp; omega
 go_enter Tryz.func166, Tryz.ntmps166
 go_wp2_with fail
 go_ret
 exact ⟨rfl, Below.refl _ _⟩
theorem dY (x : bx) : ad.aI.sz x = (ad.sl ad.int).sz x.query + (ad.sl ad.int).sz x.vec + (ad.sl ad.bU).sz x.aQ := by
 show 0 + (0 + (0 + (0 + ((ad.sl ad.int).sz x.query + (0 + (0 + (0 + (0 + ((ad.sl ad.int).sz x.vec + ((ad.sl ad.bU).sz x.aQ)))))))))) = (ad.sl ad.int).sz x.query + (ad.sl ad.int).sz x.vec + (ad.sl ad.bU).sz x.aQ
 omega
theorem jN (cs : List Value) (x : bx) (l : Nat) (w : World) (h : ad.aI.Reads w cs x) (hl : l ≤ 1048576) :
  Calls Tryz.prog 100 #[.agg cs.toArray, .int .i64 l] w fun e w' => e = .returned (.int .i64 (fX l (ad.aI.sz x))) ∧ Below w.heap.size w w' := by
 obtain ⟨a4, d4, a9, d9, a10, d10, rfl, R4, R9, R10⟩ := a0 h
 clear h
 have HB0 : Below w.heap.size w (w.alloc (.cells #[.int .i64 x.kind, .int .i64 x.aa, .int .i64 x.seq, .int .i64 x.id, .slice a4 x.query.length d4, .int .i64 x.k, .int .i64 x.start, .int .i64 x.fin, .int .i64 x.place, .slice a9 x.vec.length d9, .slice a10 x.aQ.length d10] 138)) := (Below.refl _ _).alloc (Nat.le_refl _) _
 have bA : aA w.heap.size #[.int .i64 x.kind, .int .i64 x.aa, .int .i64 x.seq, .int .i64 x.id, .slice a4 x.query.length d4, .int .i64 x.k, .int .i64 x.start, .int .i64 x.fin, .int .i64 x.place, .slice a9 x.vec.length d9, .slice a10 x.aQ.length d10] 138 (w.alloc (.cells #[.int .i64 x.kind, .int .i64 x.aa, .int .i64 x.seq, .int .i64 x.id, .slice a4 x.query.length d4, .int .i64 x.k, .int .i64 x.start, .int .i64 x.fin, .int .i64 x.place, .slice a9 x.vec.length d9, .slice a10 x.aQ.length d10] 138)) w.heap.size := aM (Nat.le_refl _)
 have HV := yh (dY x)
 go_enter Tryz.func100, Tryz.ntmps100
 go_wp2_with fail
 generalize w.alloc (.cells #[.int .i64 x.kind, .int .i64 x.aa, .int .i64 x.seq, .int .i64 x.id, .slice a4 x.query.length d4, .int .i64 x.k, .int .i64 x.start, .int .i64 x.fin, .int .i64 x.place, .slice a9 x.vec.length d9, .slice a10 x.aQ.length d10] 138) = W0 at *
 replace R4 := R4.ae HB0
 replace R9 := R9.ae HB0
 replace R10 := R10.ae HB0
 refine (df _ x.query (l) _ R4 (by omega)).mono ?_
 rintro e w1 ⟨rfl, hb⟩
 replace HB0 := HB0.trans (hb.mono HB0.size)
 replace bA := bA.al hb
 replace R9 := R9.ae hb
 replace R10 := R10.ae hb
 clear hb R4
 by_cases hs0 : (ad.sl ad.int).sz x.query ≤ l
 ·
  rw [aY hs0]
  have hq : decide (((l - (ad.sl ad.int).sz x.query : Nat) : Int) < 0) = false := by simp
  have p9 := bA.at 9 _ rfl
  have p10 := bA.at 10 _ rfl
  have HX := yh HB0
  have HA := yh bA
  clear HB0 bA
  have P9 := yh R9
  clear R9
  have P10 := yh R10
  clear R10
  go_wp2_with fail
  clear hq
  have HB0 := uh HX
  have bA := uh HA
  clear HX HA
  have R9 := uh P9
  clear P9
  have R10 := uh P10
  clear P10
  clear p9
  clear p10
  refine (df _ x.vec (l - (ad.sl ad.int).sz x.query) _ R9 (by omega)).mono ?_
  rintro e w2 ⟨rfl, hb⟩
  replace HB0 := HB0.trans (hb.mono HB0.size)
  replace bA := bA.al hb
  replace R10 := R10.ae hb
  clear hb R9
  by_cases hs1 : (ad.sl ad.int).sz x.vec ≤ l - (ad.sl ad.int).sz x.query
  ·
   rw [aY hs1]
   have hq : decide (((l - (ad.sl ad.int).sz x.query - (ad.sl ad.int).sz x.vec : Nat) : Int) < 0) = false := by simp
   have p10 := bA.at 10 _ rfl
   have HX := yh HB0
   have HA := yh bA
   clear HB0 bA
   have P10 := yh R10
   clear R10
   go_wp2_with fail
   clear hq
   have HB0 := uh HX
   have bA := uh HA
   clear HX HA
   have R10 := uh P10
   clear P10
   clear p10
   refine (kv _ x.aQ (l - (ad.sl ad.int).sz x.query - (ad.sl ad.int).sz x.vec) _ R10 (by omega)).mono ?_
   rintro e w3 ⟨rfl, hb⟩
   replace HB0 := HB0.trans (hb.mono HB0.size)
   replace bA := bA.al hb
   clear hb R10
   by_cases hs2 : (ad.sl ad.bU).sz x.aQ ≤ l - (ad.sl ad.int).sz x.query - (ad.sl ad.int).sz x.vec
   ·
    rw [aY hs2]
    have hq : decide (((l - (ad.sl ad.int).sz x.query - (ad.sl ad.int).sz x.vec - (ad.sl ad.bU).sz x.aQ : Nat) : Int) < 0) = false := by simp
    have HX := yh HB0
    have HA := yh bA
    clear HB0 bA
    go_wp2_with fail
    clear hq
    go_ret
    refine ⟨?_, uh HX⟩
    rw [uh HV, aY (by omega), show l - ((ad.sl ad.int).sz x.query + (ad.sl ad.int).sz x.vec + (ad.sl ad.bU).sz x.aQ) = l - (ad.sl ad.int).sz x.query - (ad.sl ad.int).sz x.vec - (ad.sl ad.bU).sz x.aQ by omega]
    rfl
   rw [aD (by omega)]
   have HX := yh HB0
   clear HB0 bA
   go_wp2_with fail
   go_ret
   refine ⟨?_, uh HX⟩
   rw [uh HV, aD (by omega)]
   rfl
  rw [aD (by omega)]
  have HX := yh HB0
  clear HB0 bA
  go_wp2_with fail
  go_ret
  refine ⟨?_, uh HX⟩
  rw [uh HV, aD (by omega)]
  rfl
 rw [aD (by omega)]
 have HX := yh HB0
 clear HB0 bA
 go_wp2_with fail
 go_ret
 refine ⟨?_, uh HX⟩
 rw [uh HV, aD (by omega)]
 rfl
theorem iW (v : Value) (xs : List bx) (l : Nat) (w : World) (h : (ad.sl ad.aI).Reads w [v] xs) (hl : l ≤ 1048576) :
  Calls Tryz.prog 44 #[v, .int .i64 l] w fun e w' => e = .returned (.int .i64 (fX l ((ad.sl ad.aI).sz xs))) ∧ Below w.heap.size w w' := by
 have hbig := h.cS
 obtain ⟨ao, cap, rfl⟩ := aC h
 have HV : Hid ((ad.sl ad.aI).sz xs = xs.length + aL ad.aI.sz xs) := rfl
 by_cases hn : xs.length ≤ l
 ·
  have e1 : (l : Int) - (xs.length : Int) = ((l - xs.length : Nat) : Int) := by omega
  have e2 : decide (((l - xs.length : Nat) : Int) < 0) = false := by simp
  by_cases hp : 0 < xs.length
  ·
   obtain ⟨b, off, rfl, hbl⟩ := ad.aJ h hp
   have H := yh h
   clear h
   go_enter Tryz.func44, Tryz.ntmps44
   go_wp2_with fail
   go_loopw [1, 5] (fun lf i wr => ∃ k s : Nat, k ≤ xs.length ∧ i = .int .i64 k ∧ s = aL ad.aI.sz (xs.take k) ∧ xs.length + s ≤ l ∧ lf = .int .i64 ((l - (xs.length + s) : Nat) : Int) ∧ Below w.heap.size w wr) (fun _ i _ => xs.length - (intOf i).toNat)
   case atStart => exact ⟨0, 0, Nat.zero_le _, rfl, rfl, by omega, by simp, Below.refl _ _⟩
   case round =>
    obtain ⟨k, s, hk, rfl, hs, hsl, rfl, hB⟩ := hrel
    have HS := yh hs
    clear hs e1 e2
    by_cases hlt : k < xs.length
    ·
     obtain ⟨row, hc, hr⟩ := ad.aW (uh H) hlt
     replace hr := hr.ae hB
     have hr2 := hr
     obtain ⟨a4, d4, a9, d9, a10, d10, rfl, -, -, -⟩ := a0 hr2
     have c0 : wr.cell? ⟨b, off + k * 11, none⟩ = some (.int .i64 (xs[k]).kind) := (hB.cell (p := ⟨b, off + k * 11, none⟩) hbl).trans (hc 0 (by decide))
     have c1 : wr.cell? ⟨b, off + k * 11 + 1, none⟩ = some (.int .i64 (xs[k]).aa) := (hB.cell (p := ⟨b, off + k * 11 + 1, none⟩) hbl).trans (hc 1 (by decide))
     have c2 : wr.cell? ⟨b, off + k * 11 + 2, none⟩ = some (.int .i64 (xs[k]).seq) := (hB.cell (p := ⟨b, off + k * 11 + 2, none⟩) hbl).trans (hc 2 (by decide))
     have c3 : wr.cell? ⟨b, off + k * 11 + 3, none⟩ = some (.int .i64 (xs[k]).id) := (hB.cell (p := ⟨b, off + k * 11 + 3, none⟩) hbl).trans (hc 3 (by decide))
     have c4 : wr.cell? ⟨b, off + k * 11 + 4, none⟩ = some (.slice a4 (xs[k]).query.length d4) := (hB.cell (p := ⟨b, off + k * 11 + 4, none⟩) hbl).trans (hc 4 (by decide))
     have c5 : wr.cell? ⟨b, off + k * 11 + 5, none⟩ = some (.int .i64 (xs[k]).k) := (hB.cell (p := ⟨b, off + k * 11 + 5, none⟩) hbl).trans (hc 5 (by decide))
     have c6 : wr.cell? ⟨b, off + k * 11 + 6, none⟩ = some (.int .i64 (xs[k]).start) := (hB.cell (p := ⟨b, off + k * 11 + 6, none⟩) hbl).trans (hc 6 (by decide))
     have c7 : wr.cell? ⟨b, off + k * 11 + 7, none⟩ = some (.int .i64 (xs[k]).fin) := (hB.cell (p := ⟨b, off + k * 11 + 7, none⟩) hbl).trans (hc 7 (by decide))
     have c8 : wr.cell? ⟨b, off + k * 11 + 8, none⟩ = some (.int .i64 (xs[k]).place) := (hB.cell (p := ⟨b, off + k * 11 + 8, none⟩) hbl).trans (hc 8 (by decide))
     have c9 : wr.cell? ⟨b, off + k * 11 + 9, none⟩ = some (.slice a9 (xs[k]).vec.length d9) := (hB.cell (p := ⟨b, off + k * 11 + 9, none⟩) hbl).trans (hc 9 (by decide))
     have c10 : wr.cell? ⟨b, off + k * 11 + 10, none⟩ = some (.slice a10 (xs[k]).aQ.length d10) := (hB.cell (p := ⟨b, off + k * 11 + 10, none⟩) hbl).trans (hc 10 (by decide))
     have HB := yh hB
     have HR := yh hr
     have HT := yh (ad.cC (f := ad.aI.sz) hlt)
     have HL := yh (ad.b8 (f := ad.aI.sz) (xs := xs) (k := k + 1))
     clear hB hr hc
     generalize hxk : xs[k] = x at *
     clear hxk
     go_wp2_with fail
     refine (jN _ x (l - (xs.length + s)) wr (uh HR) (by omega)).mono ?_
     rintro e w2 ⟨rfl, hb⟩
     replace HB := bZ HB hb
     clear hb HR c0 c1 c2 c3 c4 c5 c6 c7 c8 c9 c10
     have ht := uh HT
     rw [← uh HS] at ht
     have hle := uh HL
     rw [ht] at hle
     have HQ := yh ht
     by_cases hq : xs.length + s + ad.aI.sz x ≤ l
     ·
      rw [aY (by omega)]
      have e3 : l - (xs.length + s) - ad.aI.sz x = l - (xs.length + (s + ad.aI.sz x)) := by omega
      rw [e3]
      have e4 : decide (((l - (xs.length + (s + ad.aI.sz x)) : Nat) : Int) < 0) = false := by simp
      clear ht hle e3
      generalize hz : s + ad.aI.sz x = s2 at *
      have hs2 : xs.length + s2 ≤ l := by omega
      clear hz hq
      go_wp2_with fail
      go_roundw
      case rel => exact ⟨k + 1, s2, by omega, by go_num, (uh HQ).symm, hs2, rfl, uh HB⟩
      case measure => simp [intOf]; omega
     rw [aD (by omega)]
     have HN : Hid (l < xs.length + aL ad.aI.sz xs) := by
      show l < xs.length + aL ad.aI.sz xs
      omega
     clear ht hle
     go_wp2_with fail
     go_ret
     refine ⟨?_, uh HB⟩
     rw [uh HV, aD (uh HN)]
     rfl
    obtain rfl : k = xs.length := by omega
    have HE : Hid (s = aL ad.aI.sz xs) := by
     have := uh HS
     rw [List.take_length] at this
     exact this
    have HB := yh hB
    clear hB HS
    go_wp2_with fail
    go_ret
    refine ⟨?_, uh HB⟩
    rw [uh HV, ← uh HE, aY hsl]
    rfl
  obtain rfl : xs = [] := List.eq_nil_of_length_eq_zero (by omega)
  clear h hp
  rw [uh HV]
  simp only [List.length_nil, aL, Nat.add_zero, Nat.sub_zero] at *
  rw [aY (Nat.zero_le _)]
  have e3 : decide ((l : Int) < 0) = false := by simp
  go_enter Tryz.func44, Tryz.ntmps44
  go_wp2_with fail
  refine wp_loop_rounds 1 ?_
  rw [rounds_succ]
  go_wp2_with fail
  go_ret
  exact ⟨by simp, Below.refl _ _⟩
 have HN : Hid (fX l ((ad.sl ad.aI).sz xs) = -1) := aD (by rw [uh HV]; omega)
 rw [uh HN]
 have e2 : decide ((l : Int) - (xs.length : Int) < 0) = true := by simp; omega
 clear h HV HN
 generalize xs.length = n at *
 go_enter Tryz.func44, Tryz.ntmps44
 go_wp2_with fail
 go_ret
 exact ⟨rfl, Below.refl _ _⟩
theorem eo (x : aX) : ad.aZ.sz x = ad.aV.sz x.chain + (ad.sl ad.aN).sz x.nodes + (ad.sl ad.bg).sz x.msgs + (ad.sl ad.aI).sz x.af := by
 show 0 + (0 + (ad.aV.sz x.chain + ((ad.sl ad.aN).sz x.nodes + ((ad.sl ad.bg).sz x.msgs + ((ad.sl ad.aI).sz x.af))))) = ad.aV.sz x.chain + (ad.sl ad.aN).sz x.nodes + (ad.sl ad.bg).sz x.msgs + (ad.sl ad.aI).sz x.af
 omega
theorem gl (cs : List Value) (x : aX) (l : Nat) (w : World) (h : ad.aZ.Reads w cs x) (hl : l ≤ 1048576) :
  Calls Tryz.prog 11 #[.agg cs.toArray, .int .i64 l] w fun e w' => e = .returned (.int .i64 (fX l (ad.aZ.sz x))) ∧ Below w.heap.size w w' := by
 obtain ⟨a3, d3, a4, d4, a5, d5, a6, d6, rfl, R2, R4, R5, R6⟩ := aH h
 clear h
 have HB0 : Below w.heap.size w (w.alloc (.cells #[.int .i64 x.now, .int .i64 x.events, .int .i64 x.chain.ab, .slice a3 x.chain.ids.length d3, .slice a4 x.nodes.length d4, .slice a5 x.msgs.length d5, .slice a6 x.af.length d6] 29)) := (Below.refl _ _).alloc (Nat.le_refl _) _
 have bA : aA w.heap.size #[.int .i64 x.now, .int .i64 x.events, .int .i64 x.chain.ab, .slice a3 x.chain.ids.length d3, .slice a4 x.nodes.length d4, .slice a5 x.msgs.length d5, .slice a6 x.af.length d6] 29 (w.alloc (.cells #[.int .i64 x.now, .int .i64 x.events, .int .i64 x.chain.ab, .slice a3 x.chain.ids.length d3, .slice a4 x.nodes.length d4, .slice a5 x.msgs.length d5, .slice a6 x.af.length d6] 29)) w.heap.size := aM (Nat.le_refl _)
 have HV := yh (eo x)
 go_enter Tryz.func11, Tryz.ntmps11
 go_wp2_with fail
 generalize w.alloc (.cells #[.int .i64 x.now, .int .i64 x.events, .int .i64 x.chain.ab, .slice a3 x.chain.ids.length d3, .slice a4 x.nodes.length d4, .slice a5 x.msgs.length d5, .slice a6 x.af.length d6] 29) = W0 at *
 replace R2 := R2.ae HB0
 replace R4 := R4.ae HB0
 replace R5 := R5.ae HB0
 replace R6 := R6.ae HB0
 refine (jA _ x.chain (l) _ R2 (by omega)).mono ?_
 rintro e w1 ⟨rfl, hb⟩
 replace HB0 := HB0.trans (hb.mono HB0.size)
 replace bA := bA.al hb
 replace R4 := R4.ae hb
 replace R5 := R5.ae hb
 replace R6 := R6.ae hb
 clear hb R2
 by_cases hs0 : ad.aV.sz x.chain ≤ l
 ·
  rw [aY hs0]
  have hq : decide (((l - ad.aV.sz x.chain : Nat) : Int) < 0) = false := by simp
  have p4 := bA.at 4 _ rfl
  have p5 := bA.at 5 _ rfl
  have p6 := bA.at 6 _ rfl
  have HX := yh HB0
  have HA := yh bA
  clear HB0 bA
  have P4 := yh R4
  clear R4
  have P5 := yh R5
  clear R5
  have P6 := yh R6
  clear R6
  go_wp2_with fail
  clear hq
  have HB0 := uh HX
  have bA := uh HA
  clear HX HA
  have R4 := uh P4
  clear P4
  have R5 := uh P5
  clear P5
  have R6 := uh P6
  clear P6
  clear p4
  clear p5
  clear p6
  refine (jv _ x.nodes (l - ad.aV.sz x.chain) _ R4 (by omega)).mono ?_
  rintro e w2 ⟨rfl, hb⟩
  replace HB0 := HB0.trans (hb.mono HB0.size)
  replace bA := bA.al hb
  replace R5 := R5.ae hb
  replace R6 := R6.ae hb
  clear hb R4
  by_cases hs1 : (ad.sl ad.aN).sz x.nodes ≤ l - ad.aV.sz x.chain
  ·
   rw [aY hs1]
   have hq : decide (((l - ad.aV.sz x.chain - (ad.sl ad.aN).sz x.nodes : Nat) : Int) < 0) = false := by simp
   have p5 := bA.at 5 _ rfl
   have p6 := bA.at 6 _ rfl
   have HX := yh HB0
   have HA := yh bA
   clear HB0 bA
   have P5 := yh R5
   clear R5
   have P6 := yh R6
   clear R6
   go_wp2_with fail
   clear hq
   have HB0 := uh HX
   have bA := uh HA
   clear HX HA
   have R5 := uh P5
   clear P5
   have R6 := uh P6
   clear P6
   clear p5
   clear p6
   refine (kq _ x.msgs (l - ad.aV.sz x.chain - (ad.sl ad.aN).sz x.nodes) _ R5 (by omega)).mono ?_
   rintro e w3 ⟨rfl, hb⟩
   replace HB0 := HB0.trans (hb.mono HB0.size)
   replace bA := bA.al hb
   replace R6 := R6.ae hb
   clear hb R5
   by_cases hs2 : (ad.sl ad.bg).sz x.msgs ≤ l - ad.aV.sz x.chain - (ad.sl ad.aN).sz x.nodes
   ·
    rw [aY hs2]
    have hq : decide (((l - ad.aV.sz x.chain - (ad.sl ad.aN).sz x.nodes - (ad.sl ad.bg).sz x.msgs : Nat) : Int) < 0) = false := by simp
    have p6 := bA.at 6 _ rfl
    have HX := yh HB0
    have HA := yh bA
    clear HB0 bA
    have P6 := yh R6
    clear R6
    go_wp2_with fail
    clear hq
    have HB0 := uh HX
    have bA := uh HA
    clear HX HA
    have R6 := uh P6
    clear P6
    clear p6
    refine (iW _ x.af (l - ad.aV.sz x.chain - (ad.sl ad.aN).sz x.nodes - (ad.sl ad.bg).sz x.msgs) _ R6 (by omega)).mono ?_
    rintro e w4 ⟨rfl, hb⟩
    replace HB0 := HB0.trans (hb.mono HB0.size)
    replace bA := bA.al hb
    clear hb R6
    by_cases hs3 : (ad.sl ad.aI).sz x.af ≤ l - ad.aV.sz x.chain - (ad.sl ad.aN).sz x.nodes - (ad.sl ad.bg).sz x.msgs
    ·
     rw [aY hs3]
     have hq : decide (((l - ad.aV.sz x.chain - (ad.sl ad.aN).sz x.nodes - (ad.sl ad.bg).sz x.msgs - (ad.sl ad.aI).sz x.af : Nat) : Int) < 0) = false := by simp
     have HX := yh HB0
     have HA := yh bA
     clear HB0 bA
     go_wp2_with fail
     clear hq
     go_ret
     refine ⟨?_, uh HX⟩
     rw [uh HV, aY (by omega), show l - (ad.aV.sz x.chain + (ad.sl ad.aN).sz x.nodes + (ad.sl ad.bg).sz x.msgs + (ad.sl ad.aI).sz x.af) = l - ad.aV.sz x.chain - (ad.sl ad.aN).sz x.nodes - (ad.sl ad.bg).sz x.msgs - (ad.sl ad.aI).sz x.af by omega]
     rfl
    rw [aD (by omega)]
    have HX := yh HB0
    clear HB0 bA
    go_wp2_with fail
    go_ret
    refine ⟨?_, uh HX⟩
    rw [uh HV, aD (by omega)]
    rfl
   rw [aD (by omega)]
   have HX := yh HB0
   clear HB0 bA
   go_wp2_with fail
   go_ret
   refine ⟨?_, uh HX⟩
   rw [uh HV, aD (by omega)]
   rfl
  rw [aD (by omega)]
  have HX := yh HB0
  clear HB0 bA
  go_wp2_with fail
  go_ret
  refine ⟨?_, uh HX⟩
  rw [uh HV, aD (by omega)]
  rfl
 rw [aD (by omega)]
 have HX := yh HB0
 clear HB0 bA
 go_wp2_with fail
 go_ret
 refine ⟨?_, uh HX⟩
 rw [uh HV, aD (by omega)]
 rfl
theorem jF (cs : List Value) (x : a8) (w : World) (h : ad.aV.Reads w cs x) (hn : ad.aV.sz x ≤ 1048576) :
  Calls Tryz.prog 53 #[.agg cs.toArray] w fun e w' => ∃ cs', e = .returned (.agg cs'.toArray) ∧ ad.aV.aU w' cs' x w.heap.size w'.heap.size ∧ Below w.heap.size w w' := by
 have h0 := h
 obtain ⟨bl, hl⟩ := h0
 obtain ⟨-, -, -, -, -, f0, -⟩ := ct.1 hl
 clear hl
 obtain ⟨a1, d1, rfl, R1⟩ := br h
 clear h
 rw [dV] at hn
 have HF := yh f0
 clear f0
 have HB0 : Below w.heap.size w (((w.alloc (.cells #[.int .i64 x.ab, .slice a1 x.ids.length d1] 24)).alloc (.cells #[.int .i64 0, .slice none 0 0] 32)).alloc (.cells #[.int .i64 x.ab, .slice none 0 0] 32)) := (((Below.refl _ _).alloc (Nat.le_refl _) _).alloc (by simp) _).alloc (by simp; omega) _
 have bA : aA w.heap.size #[.int .i64 x.ab, .slice a1 x.ids.length d1] 24 (((w.alloc (.cells #[.int .i64 x.ab, .slice a1 x.ids.length d1] 24)).alloc (.cells #[.int .i64 0, .slice none 0 0] 32)).alloc (.cells #[.int .i64 x.ab, .slice none 0 0] 32)) w.heap.size := ((aM (Nat.le_refl _)).grow _).grow _
 have bR : aA w.heap.size #[.int .i64 0, .slice none 0 0] 32 (((w.alloc (.cells #[.int .i64 x.ab, .slice a1 x.ids.length d1] 24)).alloc (.cells #[.int .i64 0, .slice none 0 0] 32)).alloc (.cells #[.int .i64 x.ab, .slice none 0 0] 32)) (w.heap.size + 1) := (aT (by omega) (by simp)).grow _
 have bX : aA w.heap.size #[.int .i64 x.ab, .slice none 0 0] 32 (((w.alloc (.cells #[.int .i64 x.ab, .slice a1 x.ids.length d1] 24)).alloc (.cells #[.int .i64 0, .slice none 0 0] 32)).alloc (.cells #[.int .i64 x.ab, .slice none 0 0] 32)) (w.heap.size + 2) := aT (by omega) (by simp)
 have hz0 : w.heap.size + 3 ≤ (((w.alloc (.cells #[.int .i64 x.ab, .slice a1 x.ids.length d1] 24)).alloc (.cells #[.int .i64 0, .slice none 0 0] 32)).alloc (.cells #[.int .i64 x.ab, .slice none 0 0] 32)).heap.size := by simp
 go_enter Tryz.func53, Tryz.ntmps53
 go_wp2_with fail
 generalize ((w.alloc (.cells #[.int .i64 x.ab, .slice a1 x.ids.length d1] 24)).alloc (.cells #[.int .i64 0, .slice none 0 0] 32)).alloc (.cells #[.int .i64 x.ab, .slice none 0 0] 32) = W0 at *
 replace R1 := R1.ae HB0
 refine (da _ x.ids W0 R1 (by omega)).mono ?_
 rintro e w1 ⟨v1, rfl, O1, hb⟩
 have Z0 : W0.heap.size ≤ w1.heap.size := hb.size
 replace HB0 := HB0.trans (hb.mono HB0.size)
 replace bA := bA.al hb
 replace bR := bR.al hb
 replace bX := bX.al hb
 clear hb R1
 obtain ⟨a1z, d1z, rfl⟩ := aC O1.reads
 have q0 := bX.at 0 _ rfl
 have q1 := bX.at 1 _ rfl
 have qf := bX.soft
 have ql := bX.lt
 have pl := bA.lt
 have r0 := bR.at 0 _ rfl
 have r1 := bR.at 1 _ rfl
 have rf := bR.soft
 have rl := bR.lt
 simp only [ga, gb, gc] at q0 q1 r0 r1
 have hA := yh bA
 have hR := yh bR
 have hX := yh bX
 have hB := yh HB0
 clear bA bR bX HB0
 have hO1 := yh O1
 clear O1
 go_wp2_with fail
 refine bodyPost_ret (v := .agg #[.int .i64 x.ab, .slice a1z x.ids.length d1z]) (by simp [results, Tryz.results53, go_sem, r0, r1]) rfl ?_
 have E : Ext (fun q => q = w.heap.size + 2 ∨ q = w.heap.size + 1) w1 _ := bn (bn (Ext.refl _ _) (w.heap.size + 2) [(1, .slice a1z x.ids.length d1z)] (Or.inl rfl)) (w.heap.size + 1) [(0, .int .i64 x.ab), (1, .slice a1z x.ids.length d1z)] (Or.inr rfl)
 obtain f0 := uh HF
 have own : ad.aV.aU _ [.int .i64 x.ab, .slice a1z x.ids.length d1z] x w.heap.size w1.heap.size := (ad.aw (ad.aK (lo := w.heap.size) (hi := w.heap.size) f0) ((uh hO1).ext E (fun k h1 h2 h3 => by omega)) (by omega) (by omega) (by omega))
 have hsz := E.size
 have told := ad.dd (w := w) own (by omega) (by omega) ((uh hB).trans (E.below (uh hB).size (fun k h1 h2 => by omega)))
 exact told
theorem gA (cs : List Value) (x : aj) (w : World) (h : ad.ag.Reads w cs x) (hn : ad.ag.sz x ≤ 1048576) :
  Calls Tryz.prog 174 #[.agg cs.toArray] w fun e w' => ∃ cs', e = .returned (.agg cs'.toArray) ∧ ad.ag.aU w' cs' x w.heap.size w'.heap.size ∧ Below w.heap.size w w' := by
 have h0 := h
 obtain ⟨bl, hl⟩ := h0
 obtain ⟨-, -, -, -, -, f0, f1, -, f3, f4⟩ := bH.1 hl
 clear hl
 obtain ⟨a2, d2, rfl, R2⟩ := aP h
 clear h
 rw [dW] at hn
 have HF := yh (And.intro f0 (And.intro f1 (And.intro f3 (f4))))
 clear f0 f1 f3 f4
 have HB0 : Below w.heap.size w (((w.alloc (.cells #[.int .i64 x.kind, .int .i64 x.id, .slice a2 x.vec.length d2, .int .i64 x.aa, .int .i64 x.seq] 132)).alloc (.cells #[.int .i64 0, .int .i64 0, .slice none 0 0, .int .i64 0, .int .i64 0] 142)).alloc (.cells #[.int .i64 x.kind, .int .i64 x.id, .slice none 0 0, .int .i64 0, .int .i64 0] 142)) := (((Below.refl _ _).alloc (Nat.le_refl _) _).alloc (by simp) _).alloc (by simp; omega) _
 have bA : aA w.heap.size #[.int .i64 x.kind, .int .i64 x.id, .slice a2 x.vec.length d2, .int .i64 x.aa, .int .i64 x.seq] 132 (((w.alloc (.cells #[.int .i64 x.kind, .int .i64 x.id, .slice a2 x.vec.length d2, .int .i64 x.aa, .int .i64 x.seq] 132)).alloc (.cells #[.int .i64 0, .int .i64 0, .slice none 0 0, .int .i64 0, .int .i64 0] 142)).alloc (.cells #[.int .i64 x.kind, .int .i64 x.id, .slice none 0 0, .int .i64 0, .int .i64 0] 142)) w.heap.size := ((aM (Nat.le_refl _)).grow _).grow _
 have bR : aA w.heap.size #[.int .i64 0, .int .i64 0, .slice none 0 0, .int .i64 0, .int .i64 0] 142 (((w.alloc (.cells #[.int .i64 x.kind, .int .i64 x.id, .slice a2 x.vec.length d2, .int .i64 x.aa, .int .i64 x.seq] 132)).alloc (.cells #[.int .i64 0, .int .i64 0, .slice none 0 0, .int .i64 0, .int .i64 0] 142)).alloc (.cells #[.int .i64 x.kind, .int .i64 x.id, .slice none 0 0, .int .i64 0, .int .i64 0] 142)) (w.heap.size + 1) := (aT (by omega) (by simp)).grow _
 have bX : aA w.heap.size #[.int .i64 x.kind, .int .i64 x.id, .slice none 0 0, .int .i64 0, .int .i64 0] 142 (((w.alloc (.cells #[.int .i64 x.kind, .int .i64 x.id, .slice a2 x.vec.length d2, .int .i64 x.aa, .int .i64 x.seq] 132)).alloc (.cells #[.int .i64 0, .int .i64 0, .slice none 0 0, .int .i64 0, .int .i64 0] 142)).alloc (.cells #[.int .i64 x.kind, .int .i64 x.id, .slice none 0 0, .int .i64 0, .int .i64 0] 142)) (w.heap.size + 2) := aT (by omega) (by simp)
 have hz0 : w.heap.size + 3 ≤ (((w.alloc (.cells #[.int .i64 x.kind, .int .i64 x.id, .slice a2 x.vec.length d2, .int .i64 x.aa, .int .i64 x.seq] 132)).alloc (.cells #[.int .i64 0, .int .i64 0, .slice none 0 0, .int .i64 0, .int .i64 0] 142)).alloc (.cells #[.int .i64 x.kind, .int .i64 x.id, .slice none 0 0, .int .i64 0, .int .i64 0] 142)).heap.size := by simp
 go_enter Tryz.func174, Tryz.ntmps174
 go_wp2_with fail
 generalize ((w.alloc (.cells #[.int .i64 x.kind, .int .i64 x.id, .slice a2 x.vec.length d2, .int .i64 x.aa, .int .i64 x.seq] 132)).alloc (.cells #[.int .i64 0, .int .i64 0, .slice none 0 0, .int .i64 0, .int .i64 0] 142)).alloc (.cells #[.int .i64 x.kind, .int .i64 x.id, .slice none 0 0, .int .i64 0, .int .i64 0] 142) = W0 at *
 replace R2 := R2.ae HB0
 refine (da _ x.vec W0 R2 (by omega)).mono ?_
 rintro e w1 ⟨v2, rfl, O2, hb⟩
 have Z0 : W0.heap.size ≤ w1.heap.size := hb.size
 replace HB0 := HB0.trans (hb.mono HB0.size)
 replace bA := bA.al hb
 replace bR := bR.al hb
 replace bX := bX.al hb
 clear hb R2
 obtain ⟨a2z, d2z, rfl⟩ := aC O2.reads
 have p3 := bA.at 3 _ rfl
 have p4 := bA.at 4 _ rfl
 have q0 := bX.at 0 _ rfl
 have q1 := bX.at 1 _ rfl
 have q2 := bX.at 2 _ rfl
 have q3 := bX.at 3 _ rfl
 have q4 := bX.at 4 _ rfl
 have qf := bX.soft
 have ql := bX.lt
 have pl := bA.lt
 have r0 := bR.at 0 _ rfl
 have r1 := bR.at 1 _ rfl
 have r2 := bR.at 2 _ rfl
 have r3 := bR.at 3 _ rfl
 have r4 := bR.at 4 _ rfl
 have rf := bR.soft
 have rl := bR.lt
 simp only [ga, gb, gc] at p3 p4 q0 q1 q2 q3 q4 r0 r1 r2 r3 r4
 have hA := yh bA
 have hR := yh bR
 have hX := yh bX
 have hB := yh HB0
 clear bA bR bX HB0
 have hO2 := yh O2
 clear O2
 go_wp2_with fail
 refine bodyPost_ret (v := .agg #[.int .i64 x.kind, .int .i64 x.id, .slice a2z x.vec.length d2z, .int .i64 x.aa, .int .i64 x.seq]) (by simp [results, Tryz.results174, go_sem, r0, r1, r2, r3, r4]) rfl ?_
 have E : Ext (fun q => q = w.heap.size + 2 ∨ q = w.heap.size + 1) w1 _ := bn (bn (Ext.refl _ _) (w.heap.size + 2) [(2, .slice a2z x.vec.length d2z), (3, .int .i64 x.aa), (4, .int .i64 x.seq)] (Or.inl rfl)) (w.heap.size + 1) [(0, .int .i64 x.kind), (1, .int .i64 x.id), (2, .slice a2z x.vec.length d2z), (3, .int .i64 x.aa), (4, .int .i64 x.seq)] (Or.inr rfl)
 obtain ⟨f0, f1, f3, f4⟩ := uh HF
 have own : ad.ag.aU _ [.int .i64 x.kind, .int .i64 x.id, .slice a2z x.vec.length d2z, .int .i64 x.aa, .int .i64 x.seq] x w.heap.size w1.heap.size := (ad.aw (ad.aK (lo := w.heap.size) (hi := w.heap.size) f0) (ad.aw (ad.aK (lo := w.heap.size) (hi := w.heap.size) f1) (ad.aw ((uh hO2).ext E (fun k h1 h2 h3 => by omega)) (ad.aw (ad.aK (lo := w1.heap.size) (hi := w1.heap.size) f3) (ad.aK (lo := w1.heap.size) (hi := w1.heap.size) f4) (by omega) (by omega) (by omega)) (by omega) (by omega) (by omega)) (by omega) (by omega) (by omega)) (by omega) (by omega) (by omega))
 have hsz := E.size
 have told := ad.dd (w := w) own (by omega) (by omega) ((uh hB).trans (E.below (uh hB).size (fun k h1 h2 => by omega)))
 exact told
end Go.Proofs.YtecagllmonckgaaGreat
