/-
  Texts of this proof in one: SzWrite, SzWriteS, SzNode, SzNodeS, SzMsg, SzMsgS, SzHit, SzHitS, SzEntry, SzEntryS, SzWorld, ToChain, ToWrite, ToWriteS, ToNode.
  Their conditions stand in their theorems.
-/
import Derived.Test.YtecagllmonckgaaGreatChecked
import Derived.Test.YtecagllmonckgaaGreatLi01
import Derived.Test.YtecagllmonckgaaGreatLi00
import Derived.WalkKit
set_option maxRecDepth 100000
set_option maxHeartbeats 4000000
namespace Go.Proofs.YtecagllmonckgaaGreat
open Go.RowKit
theorem eD (x : ak) : ad.ag.sz x = (ad.sl ad.int).sz x.vec := by
 show 0 + (0 + ((ad.sl ad.int).sz x.vec + (0 + (0)))) = (ad.sl ad.int).sz x.vec
 omega
theorem ia (cs : List Value) (x : ak) (l : Nat) (w : World) (h : ad.ag.Reads w cs x) (hl : l ≤ 1048576) :
  Calls Tryz.prog 165 #[.agg cs.toArray, .int .i64 l] w fun e w' => e = .returned (.int .i64 (gD l (ad.ag.sz x))) ∧ Below w.heap.size w w' := by
 obtain ⟨a2, d2, rfl, R2⟩ := aI h
 clear h
 have HB0 : Below w.heap.size w (w.alloc (.cells #[.int .i64 x.kind, .int .i64 x.id, .slice a2 x.vec.length d2, .int .i64 x.aa, .int .i64 x.seq] 132)) := (Below.refl _ _).alloc (Nat.le_refl _) _
 have bA : ar w.heap.size #[.int .i64 x.kind, .int .i64 x.id, .slice a2 x.vec.length d2, .int .i64 x.aa, .int .i64 x.seq] 132 (w.alloc (.cells #[.int .i64 x.kind, .int .i64 x.id, .slice a2 x.vec.length d2, .int .i64 x.aa, .int .i64 x.seq] 132)) w.heap.size := aM (Nat.le_refl _)
 have HV := yh (eD x)
 go_enter Tryz.func165, Tryz.ntmps165
 go_wp2_with fail
 generalize w.alloc (.cells #[.int .i64 x.kind, .int .i64 x.id, .slice a2 x.vec.length d2, .int .i64 x.aa, .int .i64 x.seq] 132) = W0 at *
 replace R2 := R2.af HB0
 refine (di _ x.vec (l) _ R2 (by omega)).mono ?_
 rintro e w1 ⟨rfl, hb⟩
 replace HB0 := HB0.trans (hb.mono HB0.size)
 replace bA := bA.au hb
 clear hb R2
 by_cases hs0 : (ad.sl ad.int).sz x.vec ≤ l
 ·
  rw [bb hs0]
  have hq : decide (((l - (ad.sl ad.int).sz x.vec : Nat) : Int) < 0) = false := by simp
  have HX := yh HB0
  have HA := yh bA
  clear HB0 bA
  go_wp2_with fail
  clear hq
  go_ret
  refine ⟨?_, uh HX⟩
  rw [uh HV, bb (by omega), show l - ((ad.sl ad.int).sz x.vec) = l - (ad.sl ad.int).sz x.vec by omega]
  rfl
 rw [aE (by omega)]
 have HX := yh HB0
 clear HB0 bA
 go_wp2_with fail
 go_ret
 refine ⟨?_, uh HX⟩
 rw [uh HV, aE (by omega)]
 rfl
theorem jt (v : Value) (xs : List ak) (l : Nat) (w : World) (h : (ad.sl ad.ag).Reads w [v] xs) (hl : l ≤ 1048576) :
  Calls Tryz.prog 164 #[v, .int .i64 l] w fun e w' => e = .returned (.int .i64 (gD l ((ad.sl ad.ag).sz xs))) ∧ Below w.heap.size w w' := by
 have hbig := h.cK
 obtain ⟨ao, cap, rfl⟩ := aB h
 have HV : Hid ((ad.sl ad.ag).sz xs = xs.length + aO ad.ag.sz xs) := rfl
 by_cases hn : xs.length ≤ l
 ·
  have e1 : (l : Int) - (xs.length : Int) = ((l - xs.length : Nat) : Int) := by omega
  have e2 : decide (((l - xs.length : Nat) : Int) < 0) = false := by simp
  by_cases hp : 0 < xs.length
  ·
   obtain ⟨b, off, rfl, hbl⟩ := ad.aD h hp
   have H := yh h
   clear h
   go_enter Tryz.func164, Tryz.ntmps164
   go_wp2_with fail
   go_loopw [1, 5] (fun lf i wr => ∃ k s : Nat, k ≤ xs.length ∧ i = .int .i64 k ∧ s = aO ad.ag.sz (xs.take k) ∧ xs.length + s ≤ l ∧ lf = .int .i64 ((l - (xs.length + s) : Nat) : Int) ∧ Below w.heap.size w wr) (fun _ i _ => xs.length - (intOf i).toNat)
   case atStart => exact ⟨0, 0, Nat.zero_le _, rfl, rfl, by omega, by simp, Below.refl _ _⟩
   case round =>
    obtain ⟨k, s, hk, rfl, hs, hsl, rfl, hB⟩ := hrel
    have HS := yh hs
    clear hs e1 e2
    by_cases hlt : k < xs.length
    ·
     obtain ⟨row, hc, hr⟩ := ad.aR (uh H) hlt
     replace hr := hr.af hB
     have hr2 := hr
     obtain ⟨a2, d2, rfl, -⟩ := aI hr2
     have c0 : wr.cell? ⟨b, off + k * 5, none⟩ = some (.int .i64 (xs[k]).kind) := (hB.cell (p := ⟨b, off + k * 5, none⟩) hbl).trans (hc 0 (by decide))
     have c1 : wr.cell? ⟨b, off + k * 5 + 1, none⟩ = some (.int .i64 (xs[k]).id) := (hB.cell (p := ⟨b, off + k * 5 + 1, none⟩) hbl).trans (hc 1 (by decide))
     have c2 : wr.cell? ⟨b, off + k * 5 + 2, none⟩ = some (.slice a2 (xs[k]).vec.length d2) := (hB.cell (p := ⟨b, off + k * 5 + 2, none⟩) hbl).trans (hc 2 (by decide))
     have c3 : wr.cell? ⟨b, off + k * 5 + 3, none⟩ = some (.int .i64 (xs[k]).aa) := (hB.cell (p := ⟨b, off + k * 5 + 3, none⟩) hbl).trans (hc 3 (by decide))
     have c4 : wr.cell? ⟨b, off + k * 5 + 4, none⟩ = some (.int .i64 (xs[k]).seq) := (hB.cell (p := ⟨b, off + k * 5 + 4, none⟩) hbl).trans (hc 4 (by decide))
     have HB := yh hB
     have HR := yh hr
     have HT := yh (ad.cD (f := ad.ag.sz) hlt)
     have HL := yh (ad.cd (f := ad.ag.sz) (xs := xs) (k := k + 1))
     clear hB hr hc
     generalize hxk : xs[k] = x at *
     clear hxk
     go_wp2_with fail
     refine (ia _ x (l - (xs.length + s)) wr (uh HR) (by omega)).mono ?_
     rintro e w2 ⟨rfl, hb⟩
     replace HB := bZ HB hb
     clear hb HR c0 c1 c2 c3 c4
     have ht := uh HT
     rw [← uh HS] at ht
     have hle := uh HL
     rw [ht] at hle
     have HQ := yh ht
     by_cases hq : xs.length + s + ad.ag.sz x ≤ l
     ·
      rw [bb (by omega)]
      have e3 : l - (xs.length + s) - ad.ag.sz x = l - (xs.length + (s + ad.ag.sz x)) := by omega
      rw [e3]
      have e4 : decide (((l - (xs.length + (s + ad.ag.sz x)) : Nat) : Int) < 0) = false := by simp
      clear ht hle e3
      generalize hz : s + ad.ag.sz x = s2 at *
      have hs2 : xs.length + s2 ≤ l := by omega
      clear hz hq
      go_wp2_with fail
      go_roundw
      case rel => exact ⟨k + 1, s2, by omega, by go_num, (uh HQ).symm, hs2, rfl, uh HB⟩
      case measure => simp [intOf]; omega
     rw [aE (by omega)]
     have HN : Hid (l < xs.length + aO ad.ag.sz xs) := by
      show l < xs.length + aO ad.ag.sz xs
      omega
     clear ht hle
     go_wp2_with fail
     go_ret
     refine ⟨?_, uh HB⟩
     rw [uh HV, aE (uh HN)]
     rfl
    obtain rfl : k = xs.length := by omega
    have HE : Hid (s = aO ad.ag.sz xs) := by
     have := uh HS
     rw [List.take_length] at this
     exact this
    have HB := yh hB
    clear hB HS
    go_wp2_with fail
    go_ret
    refine ⟨?_, uh HB⟩
    rw [uh HV, ← uh HE, bb hsl]
    rfl
  obtain rfl : xs = [] := List.eq_nil_of_length_eq_zero (by omega)
  clear h hp
  rw [uh HV]
  simp only [List.length_nil, aO, Nat.add_zero, Nat.sub_zero] at *
  rw [bb (Nat.zero_le _)]
  have e3 : decide ((l : Int) < 0) = false := by simp
  go_enter Tryz.func164, Tryz.ntmps164
  go_wp2_with fail
  refine wp_loop_rounds 1 ?_
  rw [rounds_succ]
  go_wp2_with fail
  go_ret
  exact ⟨by simp, Below.refl _ _⟩
 have HN : Hid (gD l ((ad.sl ad.ag).sz xs) = -1) := aE (by rw [uh HV]; omega)
 rw [uh HN]
 have e2 : decide ((l : Int) - (xs.length : Int) < 0) = true := by simp; omega
 clear h HV HN
 generalize xs.length = n at *
 go_enter Tryz.func164, Tryz.ntmps164
 go_wp2_with fail
 go_ret
 exact ⟨rfl, Below.refl _ _⟩
theorem eR (x : bn) : ad.aP.sz x = (ad.sl ad.ag).sz x.writes := by
 show 0 + (0 + (0 + (0 + ((ad.sl ad.ag).sz x.writes + (0 + (0)))))) = (ad.sl ad.ag).sz x.writes
 omega
theorem ld (cs : List Value) (x : bn) (l : Nat) (w : World) (h : ad.aP.Reads w cs x) (hl : l ≤ 1048576) :
  Calls Tryz.prog 98 #[.agg cs.toArray, .int .i64 l] w fun e w' => e = .returned (.int .i64 (gD l (ad.aP.sz x))) ∧ Below w.heap.size w w' := by
 obtain ⟨a4, d4, rfl, R4⟩ := aQ h
 clear h
 have HB0 : Below w.heap.size w (w.alloc (.cells #[.int .i64 x.id, .bool x.up, .int .i64 x.ab, .int .i64 x.ai, .slice a4 x.writes.length d4, .int .i64 x.sure, .int .i64 x.clean] 129)) := (Below.refl _ _).alloc (Nat.le_refl _) _
 have bA : ar w.heap.size #[.int .i64 x.id, .bool x.up, .int .i64 x.ab, .int .i64 x.ai, .slice a4 x.writes.length d4, .int .i64 x.sure, .int .i64 x.clean] 129 (w.alloc (.cells #[.int .i64 x.id, .bool x.up, .int .i64 x.ab, .int .i64 x.ai, .slice a4 x.writes.length d4, .int .i64 x.sure, .int .i64 x.clean] 129)) w.heap.size := aM (Nat.le_refl _)
 have HV := yh (eR x)
 go_enter Tryz.func98, Tryz.ntmps98
 go_wp2_with fail
 generalize w.alloc (.cells #[.int .i64 x.id, .bool x.up, .int .i64 x.ab, .int .i64 x.ai, .slice a4 x.writes.length d4, .int .i64 x.sure, .int .i64 x.clean] 129) = W0 at *
 replace R4 := R4.af HB0
 refine (jt _ x.writes (l) _ R4 (by omega)).mono ?_
 rintro e w1 ⟨rfl, hb⟩
 replace HB0 := HB0.trans (hb.mono HB0.size)
 replace bA := bA.au hb
 clear hb R4
 by_cases hs0 : (ad.sl ad.ag).sz x.writes ≤ l
 ·
  rw [bb hs0]
  have hq : decide (((l - (ad.sl ad.ag).sz x.writes : Nat) : Int) < 0) = false := by simp
  have HX := yh HB0
  have HA := yh bA
  clear HB0 bA
  go_wp2_with fail
  clear hq
  go_ret
  refine ⟨?_, uh HX⟩
  rw [uh HV, bb (by omega), show l - ((ad.sl ad.ag).sz x.writes) = l - (ad.sl ad.ag).sz x.writes by omega]
  rfl
 rw [aE (by omega)]
 have HX := yh HB0
 clear HB0 bA
 go_wp2_with fail
 go_ret
 refine ⟨?_, uh HX⟩
 rw [uh HV, aE (by omega)]
 rfl
theorem kF (v : Value) (xs : List bn) (l : Nat) (w : World) (h : (ad.sl ad.aP).Reads w [v] xs) (hl : l ≤ 1048576) :
  Calls Tryz.prog 42 #[v, .int .i64 l] w fun e w' => e = .returned (.int .i64 (gD l ((ad.sl ad.aP).sz xs))) ∧ Below w.heap.size w w' := by
 have hbig := h.cK
 obtain ⟨ao, cap, rfl⟩ := aB h
 have HV : Hid ((ad.sl ad.aP).sz xs = xs.length + aO ad.aP.sz xs) := rfl
 by_cases hn : xs.length ≤ l
 ·
  have e1 : (l : Int) - (xs.length : Int) = ((l - xs.length : Nat) : Int) := by omega
  have e2 : decide (((l - xs.length : Nat) : Int) < 0) = false := by simp
  by_cases hp : 0 < xs.length
  ·
   obtain ⟨b, off, rfl, hbl⟩ := ad.aD h hp
   have H := yh h
   clear h
   go_enter Tryz.func42, Tryz.ntmps42
   go_wp2_with fail
   go_loopw [1, 5] (fun lf i wr => ∃ k s : Nat, k ≤ xs.length ∧ i = .int .i64 k ∧ s = aO ad.aP.sz (xs.take k) ∧ xs.length + s ≤ l ∧ lf = .int .i64 ((l - (xs.length + s) : Nat) : Int) ∧ Below w.heap.size w wr) (fun _ i _ => xs.length - (intOf i).toNat)
   case atStart => exact ⟨0, 0, Nat.zero_le _, rfl, rfl, by omega, by simp, Below.refl _ _⟩
   case round =>
    obtain ⟨k, s, hk, rfl, hs, hsl, rfl, hB⟩ := hrel
    have HS := yh hs
    clear hs e1 e2
    by_cases hlt : k < xs.length
    ·
     obtain ⟨row, hc, hr⟩ := ad.aR (uh H) hlt
     replace hr := hr.af hB
     have hr2 := hr
     obtain ⟨a4, d4, rfl, -⟩ := aQ hr2
     have c0 : wr.cell? ⟨b, off + k * 7, none⟩ = some (.int .i64 (xs[k]).id) := (hB.cell (p := ⟨b, off + k * 7, none⟩) hbl).trans (hc 0 (by decide))
     have c1 : wr.cell? ⟨b, off + k * 7 + 1, none⟩ = some (.bool (xs[k]).up) := (hB.cell (p := ⟨b, off + k * 7 + 1, none⟩) hbl).trans (hc 1 (by decide))
     have c2 : wr.cell? ⟨b, off + k * 7 + 2, none⟩ = some (.int .i64 (xs[k]).ab) := (hB.cell (p := ⟨b, off + k * 7 + 2, none⟩) hbl).trans (hc 2 (by decide))
     have c3 : wr.cell? ⟨b, off + k * 7 + 3, none⟩ = some (.int .i64 (xs[k]).ai) := (hB.cell (p := ⟨b, off + k * 7 + 3, none⟩) hbl).trans (hc 3 (by decide))
     have c4 : wr.cell? ⟨b, off + k * 7 + 4, none⟩ = some (.slice a4 (xs[k]).writes.length d4) := (hB.cell (p := ⟨b, off + k * 7 + 4, none⟩) hbl).trans (hc 4 (by decide))
     have c5 : wr.cell? ⟨b, off + k * 7 + 5, none⟩ = some (.int .i64 (xs[k]).sure) := (hB.cell (p := ⟨b, off + k * 7 + 5, none⟩) hbl).trans (hc 5 (by decide))
     have c6 : wr.cell? ⟨b, off + k * 7 + 6, none⟩ = some (.int .i64 (xs[k]).clean) := (hB.cell (p := ⟨b, off + k * 7 + 6, none⟩) hbl).trans (hc 6 (by decide))
     have HB := yh hB
     have HR := yh hr
     have HT := yh (ad.cD (f := ad.aP.sz) hlt)
     have HL := yh (ad.cd (f := ad.aP.sz) (xs := xs) (k := k + 1))
     clear hB hr hc
     generalize hxk : xs[k] = x at *
     clear hxk
     go_wp2_with fail
     refine (ld _ x (l - (xs.length + s)) wr (uh HR) (by omega)).mono ?_
     rintro e w2 ⟨rfl, hb⟩
     replace HB := bZ HB hb
     clear hb HR c0 c1 c2 c3 c4 c5 c6
     have ht := uh HT
     rw [← uh HS] at ht
     have hle := uh HL
     rw [ht] at hle
     have HQ := yh ht
     by_cases hq : xs.length + s + ad.aP.sz x ≤ l
     ·
      rw [bb (by omega)]
      have e3 : l - (xs.length + s) - ad.aP.sz x = l - (xs.length + (s + ad.aP.sz x)) := by omega
      rw [e3]
      have e4 : decide (((l - (xs.length + (s + ad.aP.sz x)) : Nat) : Int) < 0) = false := by simp
      clear ht hle e3
      generalize hz : s + ad.aP.sz x = s2 at *
      have hs2 : xs.length + s2 ≤ l := by omega
      clear hz hq
      go_wp2_with fail
      go_roundw
      case rel => exact ⟨k + 1, s2, by omega, by go_num, (uh HQ).symm, hs2, rfl, uh HB⟩
      case measure => simp [intOf]; omega
     rw [aE (by omega)]
     have HN : Hid (l < xs.length + aO ad.aP.sz xs) := by
      show l < xs.length + aO ad.aP.sz xs
      omega
     clear ht hle
     go_wp2_with fail
     go_ret
     refine ⟨?_, uh HB⟩
     rw [uh HV, aE (uh HN)]
     rfl
    obtain rfl : k = xs.length := by omega
    have HE : Hid (s = aO ad.aP.sz xs) := by
     have := uh HS
     rw [List.take_length] at this
     exact this
    have HB := yh hB
    clear hB HS
    go_wp2_with fail
    go_ret
    refine ⟨?_, uh HB⟩
    rw [uh HV, ← uh HE, bb hsl]
    rfl
  obtain rfl : xs = [] := List.eq_nil_of_length_eq_zero (by omega)
  clear h hp
  rw [uh HV]
  simp only [List.length_nil, aO, Nat.add_zero, Nat.sub_zero] at *
  rw [bb (Nat.zero_le _)]
  have e3 : decide ((l : Int) < 0) = false := by simp
  go_enter Tryz.func42, Tryz.ntmps42
  go_wp2_with fail
  refine wp_loop_rounds 1 ?_
  rw [rounds_succ]
  go_wp2_with fail
  go_ret
  exact ⟨by simp, Below.refl _ _⟩
 have HN : Hid (gD l ((ad.sl ad.aP).sz xs) = -1) := aE (by rw [uh HV]; omega)
 rw [uh HN]
 have e2 : decide ((l : Int) - (xs.length : Int) < 0) = true := by simp; omega
 clear h HV HN
 generalize xs.length = n at *
 go_enter Tryz.func42, Tryz.ntmps42
 go_wp2_with fail
 go_ret
 exact ⟨rfl, Below.refl _ _⟩
theorem gh (x : bq) : ad.bm.sz x = ad.ag.sz x.write := by
 show 0 + (0 + (0 + (0 + (0 + (ad.ag.sz x.write))))) = ad.ag.sz x.write
 omega
theorem lK (cs : List Value) (x : bq) (l : Nat) (w : World) (h : ad.bm.Reads w cs x) (hl : l ≤ 1048576) :
  Calls Tryz.prog 99 #[.agg cs.toArray, .int .i64 l] w fun e w' => e = .returned (.int .i64 (gD l (ad.bm.sz x))) ∧ Below w.heap.size w w' := by
 obtain ⟨a7, d7, rfl, R5⟩ := bE h
 clear h
 have HB0 : Below w.heap.size w (w.alloc (.cells #[.int .i64 x.kind, .int .i64 x.ab, .int .i64 x.src, .int .i64 x.dst, .int .i64 x.index, .int .i64 x.write.kind, .int .i64 x.write.id, .slice a7 x.write.vec.length d7, .int .i64 x.write.aa, .int .i64 x.write.seq] 134)) := (Below.refl _ _).alloc (Nat.le_refl _) _
 have bA : ar w.heap.size #[.int .i64 x.kind, .int .i64 x.ab, .int .i64 x.src, .int .i64 x.dst, .int .i64 x.index, .int .i64 x.write.kind, .int .i64 x.write.id, .slice a7 x.write.vec.length d7, .int .i64 x.write.aa, .int .i64 x.write.seq] 134 (w.alloc (.cells #[.int .i64 x.kind, .int .i64 x.ab, .int .i64 x.src, .int .i64 x.dst, .int .i64 x.index, .int .i64 x.write.kind, .int .i64 x.write.id, .slice a7 x.write.vec.length d7, .int .i64 x.write.aa, .int .i64 x.write.seq] 134)) w.heap.size := aM (Nat.le_refl _)
 have HV := yh (gh x)
 go_enter Tryz.func99, Tryz.ntmps99
 go_wp2_with fail
 generalize w.alloc (.cells #[.int .i64 x.kind, .int .i64 x.ab, .int .i64 x.src, .int .i64 x.dst, .int .i64 x.index, .int .i64 x.write.kind, .int .i64 x.write.id, .slice a7 x.write.vec.length d7, .int .i64 x.write.aa, .int .i64 x.write.seq] 134) = W0 at *
 replace R5 := R5.af HB0
 refine (ia _ x.write (l) _ R5 (by omega)).mono ?_
 rintro e w1 ⟨rfl, hb⟩
 replace HB0 := HB0.trans (hb.mono HB0.size)
 replace bA := bA.au hb
 clear hb R5
 by_cases hs0 : ad.ag.sz x.write ≤ l
 ·
  rw [bb hs0]
  have hq : decide (((l - ad.ag.sz x.write : Nat) : Int) < 0) = false := by simp
  have HX := yh HB0
  have HA := yh bA
  clear HB0 bA
  go_wp2_with fail
  clear hq
  go_ret
  refine ⟨?_, uh HX⟩
  rw [uh HV, bb (by omega), show l - (ad.ag.sz x.write) = l - ad.ag.sz x.write by omega]
  rfl
 rw [aE (by omega)]
 have HX := yh HB0
 clear HB0 bA
 go_wp2_with fail
 go_ret
 refine ⟨?_, uh HX⟩
 rw [uh HV, aE (by omega)]
 rfl
theorem kR (v : Value) (xs : List bq) (l : Nat) (w : World) (h : (ad.sl ad.bm).Reads w [v] xs) (hl : l ≤ 1048576) :
  Calls Tryz.prog 43 #[v, .int .i64 l] w fun e w' => e = .returned (.int .i64 (gD l ((ad.sl ad.bm).sz xs))) ∧ Below w.heap.size w w' := by
 have hbig := h.cK
 obtain ⟨ao, cap, rfl⟩ := aB h
 have HV : Hid ((ad.sl ad.bm).sz xs = xs.length + aO ad.bm.sz xs) := rfl
 by_cases hn : xs.length ≤ l
 ·
  have e1 : (l : Int) - (xs.length : Int) = ((l - xs.length : Nat) : Int) := by omega
  have e2 : decide (((l - xs.length : Nat) : Int) < 0) = false := by simp
  by_cases hp : 0 < xs.length
  ·
   obtain ⟨b, off, rfl, hbl⟩ := ad.aD h hp
   have H := yh h
   clear h
   go_enter Tryz.func43, Tryz.ntmps43
   go_wp2_with fail
   go_loopw [1, 5] (fun lf i wr => ∃ k s : Nat, k ≤ xs.length ∧ i = .int .i64 k ∧ s = aO ad.bm.sz (xs.take k) ∧ xs.length + s ≤ l ∧ lf = .int .i64 ((l - (xs.length + s) : Nat) : Int) ∧ Below w.heap.size w wr) (fun _ i _ => xs.length - (intOf i).toNat)
   case atStart => exact ⟨0, 0, Nat.zero_le _, rfl, rfl, by omega, by simp, Below.refl _ _⟩
   case round =>
    obtain ⟨k, s, hk, rfl, hs, hsl, rfl, hB⟩ := hrel
    have HS := yh hs
    clear hs e1 e2
    by_cases hlt : k < xs.length
    ·
     obtain ⟨row, hc, hr⟩ := ad.aR (uh H) hlt
     replace hr := hr.af hB
     have hr2 := hr
     obtain ⟨a7, d7, rfl, -⟩ := bE hr2
     have c0 : wr.cell? ⟨b, off + k * 10, none⟩ = some (.int .i64 (xs[k]).kind) := (hB.cell (p := ⟨b, off + k * 10, none⟩) hbl).trans (hc 0 (by decide))
     have c1 : wr.cell? ⟨b, off + k * 10 + 1, none⟩ = some (.int .i64 (xs[k]).ab) := (hB.cell (p := ⟨b, off + k * 10 + 1, none⟩) hbl).trans (hc 1 (by decide))
     have c2 : wr.cell? ⟨b, off + k * 10 + 2, none⟩ = some (.int .i64 (xs[k]).src) := (hB.cell (p := ⟨b, off + k * 10 + 2, none⟩) hbl).trans (hc 2 (by decide))
     have c3 : wr.cell? ⟨b, off + k * 10 + 3, none⟩ = some (.int .i64 (xs[k]).dst) := (hB.cell (p := ⟨b, off + k * 10 + 3, none⟩) hbl).trans (hc 3 (by decide))
     have c4 : wr.cell? ⟨b, off + k * 10 + 4, none⟩ = some (.int .i64 (xs[k]).index) := (hB.cell (p := ⟨b, off + k * 10 + 4, none⟩) hbl).trans (hc 4 (by decide))
     have c5 : wr.cell? ⟨b, off + k * 10 + 5, none⟩ = some (.int .i64 (xs[k]).write.kind) := (hB.cell (p := ⟨b, off + k * 10 + 5, none⟩) hbl).trans (hc 5 (by decide))
     have c6 : wr.cell? ⟨b, off + k * 10 + 6, none⟩ = some (.int .i64 (xs[k]).write.id) := (hB.cell (p := ⟨b, off + k * 10 + 6, none⟩) hbl).trans (hc 6 (by decide))
     have c7 : wr.cell? ⟨b, off + k * 10 + 7, none⟩ = some (.slice a7 (xs[k]).write.vec.length d7) := (hB.cell (p := ⟨b, off + k * 10 + 7, none⟩) hbl).trans (hc 7 (by decide))
     have c8 : wr.cell? ⟨b, off + k * 10 + 8, none⟩ = some (.int .i64 (xs[k]).write.aa) := (hB.cell (p := ⟨b, off + k * 10 + 8, none⟩) hbl).trans (hc 8 (by decide))
     have c9 : wr.cell? ⟨b, off + k * 10 + 9, none⟩ = some (.int .i64 (xs[k]).write.seq) := (hB.cell (p := ⟨b, off + k * 10 + 9, none⟩) hbl).trans (hc 9 (by decide))
     have HB := yh hB
     have HR := yh hr
     have HT := yh (ad.cD (f := ad.bm.sz) hlt)
     have HL := yh (ad.cd (f := ad.bm.sz) (xs := xs) (k := k + 1))
     clear hB hr hc
     generalize hxk : xs[k] = x at *
     clear hxk
     go_wp2_with fail
     refine (lK _ x (l - (xs.length + s)) wr (uh HR) (by omega)).mono ?_
     rintro e w2 ⟨rfl, hb⟩
     replace HB := bZ HB hb
     clear hb HR c0 c1 c2 c3 c4 c5 c6 c7 c8 c9
     have ht := uh HT
     rw [← uh HS] at ht
     have hle := uh HL
     rw [ht] at hle
     have HQ := yh ht
     by_cases hq : xs.length + s + ad.bm.sz x ≤ l
     ·
      rw [bb (by omega)]
      have e3 : l - (xs.length + s) - ad.bm.sz x = l - (xs.length + (s + ad.bm.sz x)) := by omega
      rw [e3]
      have e4 : decide (((l - (xs.length + (s + ad.bm.sz x)) : Nat) : Int) < 0) = false := by simp
      clear ht hle e3
      generalize hz : s + ad.bm.sz x = s2 at *
      have hs2 : xs.length + s2 ≤ l := by omega
      clear hz hq
      go_wp2_with fail
      go_roundw
      case rel => exact ⟨k + 1, s2, by omega, by go_num, (uh HQ).symm, hs2, rfl, uh HB⟩
      case measure => simp [intOf]; omega
     rw [aE (by omega)]
     have HN : Hid (l < xs.length + aO ad.bm.sz xs) := by
      show l < xs.length + aO ad.bm.sz xs
      omega
     clear ht hle
     go_wp2_with fail
     go_ret
     refine ⟨?_, uh HB⟩
     rw [uh HV, aE (uh HN)]
     rfl
    obtain rfl : k = xs.length := by omega
    have HE : Hid (s = aO ad.bm.sz xs) := by
     have := uh HS
     rw [List.take_length] at this
     exact this
    have HB := yh hB
    clear hB HS
    go_wp2_with fail
    go_ret
    refine ⟨?_, uh HB⟩
    rw [uh HV, ← uh HE, bb hsl]
    rfl
  obtain rfl : xs = [] := List.eq_nil_of_length_eq_zero (by omega)
  clear h hp
  rw [uh HV]
  simp only [List.length_nil, aO, Nat.add_zero, Nat.sub_zero] at *
  rw [bb (Nat.zero_le _)]
  have e3 : decide ((l : Int) < 0) = false := by simp
  go_enter Tryz.func43, Tryz.ntmps43
  go_wp2_with fail
  refine wp_loop_rounds 1 ?_
  rw [rounds_succ]
  go_wp2_with fail
  go_ret
  exact ⟨by simp, Below.refl _ _⟩
 have HN : Hid (gD l ((ad.sl ad.bm).sz xs) = -1) := aE (by rw [uh HV]; omega)
 rw [uh HN]
 have e2 : decide ((l : Int) - (xs.length : Int) < 0) = true := by simp; omega
 clear h HV HN
 generalize xs.length = n at *
 go_enter Tryz.func43, Tryz.ntmps43
 go_wp2_with fail
 go_ret
 exact ⟨rfl, Below.refl _ _⟩
theorem jI (x : gk) : ad.b8.sz x = 0 := by
 show 0 + (0) = 0
 omega
theorem lx (v : Value) (xs : List gk) (l : Nat) (w : World) (h : (ad.sl ad.b8).Reads w [v] xs) (hl : l ≤ 1048576) :
  Calls Tryz.prog 166 #[v, .int .i64 l] w fun e w' => e = .returned (.int .i64 (gD l ((ad.sl ad.b8).sz xs))) ∧ Below w.heap.size w w' := by
 have hbig := h.cK
 obtain ⟨ao, cap, rfl⟩ := aB h
 have HV : Hid ((ad.sl ad.b8).sz xs = xs.length + aO ad.b8.sz xs) := rfl
 have e0 : aO ad.b8.sz xs = 0 := by
  clear h hbig HV
  induction xs with
  | nil => rfl
  | cons x xs ih => rw [aO, ih, jI]
 rw [uh HV, e0, Nat.add_zero]
 generalize xs.length = n at *
 clear h HV e0
 by_cases hn : n ≤ l
 ·
  rw [bb hn]
  have e1 : (l : Int) - (n : Int) = ((l - n : Nat) : Int) := by omega
  have e2 : decide (((l - n : Nat) : Int) < 0) = false := by simp
  go_enter Tryz.func166, Tryz.ntmps166
  go_wp2_with fail
  go_ret
  exact ⟨rfl, Below.refl _ _⟩
 rw [aE (by omega)]
 have e2 : decide ((l : Int) - (n : Int) < 0) = true := by simp; omega
 go_enter Tryz.func166, Tryz.ntmps166
 go_wp2_with fail
 go_ret
 exact ⟨rfl, Below.refl _ _⟩
theorem eB (x : bM) : ad.aJ.sz x = (ad.sl ad.int).sz x.query + (ad.sl ad.int).sz x.vec + (ad.sl ad.b8).sz x.aY := by
 show 0 + (0 + (0 + (0 + ((ad.sl ad.int).sz x.query + (0 + (0 + (0 + (0 + ((ad.sl ad.int).sz x.vec + ((ad.sl ad.b8).sz x.aY)))))))))) = (ad.sl ad.int).sz x.query + (ad.sl ad.int).sz x.vec + (ad.sl ad.b8).sz x.aY
 omega
theorem kf (cs : List Value) (x : bM) (l : Nat) (w : World) (h : ad.aJ.Reads w cs x) (hl : l ≤ 1048576) :
  Calls Tryz.prog 100 #[.agg cs.toArray, .int .i64 l] w fun e w' => e = .returned (.int .i64 (gD l (ad.aJ.sz x))) ∧ Below w.heap.size w w' := by
 obtain ⟨a4, d4, a9, d9, a10, d10, rfl, R4, R9, R10⟩ := bu h
 clear h
 have HB0 : Below w.heap.size w (w.alloc (.cells #[.int .i64 x.kind, .int .i64 x.aa, .int .i64 x.seq, .int .i64 x.id, .slice a4 x.query.length d4, .int .i64 x.k, .int .i64 x.start, .int .i64 x.fin, .int .i64 x.place, .slice a9 x.vec.length d9, .slice a10 x.aY.length d10] 138)) := (Below.refl _ _).alloc (Nat.le_refl _) _
 have bA : ar w.heap.size #[.int .i64 x.kind, .int .i64 x.aa, .int .i64 x.seq, .int .i64 x.id, .slice a4 x.query.length d4, .int .i64 x.k, .int .i64 x.start, .int .i64 x.fin, .int .i64 x.place, .slice a9 x.vec.length d9, .slice a10 x.aY.length d10] 138 (w.alloc (.cells #[.int .i64 x.kind, .int .i64 x.aa, .int .i64 x.seq, .int .i64 x.id, .slice a4 x.query.length d4, .int .i64 x.k, .int .i64 x.start, .int .i64 x.fin, .int .i64 x.place, .slice a9 x.vec.length d9, .slice a10 x.aY.length d10] 138)) w.heap.size := aM (Nat.le_refl _)
 have HV := yh (eB x)
 go_enter Tryz.func100, Tryz.ntmps100
 go_wp2_with fail
 generalize w.alloc (.cells #[.int .i64 x.kind, .int .i64 x.aa, .int .i64 x.seq, .int .i64 x.id, .slice a4 x.query.length d4, .int .i64 x.k, .int .i64 x.start, .int .i64 x.fin, .int .i64 x.place, .slice a9 x.vec.length d9, .slice a10 x.aY.length d10] 138) = W0 at *
 replace R4 := R4.af HB0
 replace R9 := R9.af HB0
 replace R10 := R10.af HB0
 refine (di _ x.query (l) _ R4 (by omega)).mono ?_
 rintro e w1 ⟨rfl, hb⟩
 replace HB0 := HB0.trans (hb.mono HB0.size)
 replace bA := bA.au hb
 replace R9 := R9.af hb
 replace R10 := R10.af hb
 clear hb R4
 by_cases hs0 : (ad.sl ad.int).sz x.query ≤ l
 ·
  rw [bb hs0]
  have hq : decide (((l - (ad.sl ad.int).sz x.query : Nat) : Int) < 0) = false := by simp
  have p9 := bA.at 9 _ rfl
  have p10 := bA.at 10 _ rfl
  have HX := yh HB0
  have HA := yh bA
  clear HB0 bA
  have P9 := yh R9
  clear R9
  have P10 := yh R10
  clear R10
  go_wp2_with fail
  clear hq
  have HB0 := uh HX
  have bA := uh HA
  clear HX HA
  have R9 := uh P9
  clear P9
  have R10 := uh P10
  clear P10
  clear p9
  clear p10
  refine (di _ x.vec (l - (ad.sl ad.int).sz x.query) _ R9 (by omega)).mono ?_
  rintro e w2 ⟨rfl, hb⟩
  replace HB0 := HB0.trans (hb.mono HB0.size)
  replace bA := bA.au hb
  replace R10 := R10.af hb
  clear hb R9
  by_cases hs1 : (ad.sl ad.int).sz x.vec ≤ l - (ad.sl ad.int).sz x.query
  ·
   rw [bb hs1]
   have hq : decide (((l - (ad.sl ad.int).sz x.query - (ad.sl ad.int).sz x.vec : Nat) : Int) < 0) = false := by simp
   have p10 := bA.at 10 _ rfl
   have HX := yh HB0
   have HA := yh bA
   clear HB0 bA
   have P10 := yh R10
   clear R10
   go_wp2_with fail
   clear hq
   have HB0 := uh HX
   have bA := uh HA
   clear HX HA
   have R10 := uh P10
   clear P10
   clear p10
   refine (lx _ x.aY (l - (ad.sl ad.int).sz x.query - (ad.sl ad.int).sz x.vec) _ R10 (by omega)).mono ?_
   rintro e w3 ⟨rfl, hb⟩
   replace HB0 := HB0.trans (hb.mono HB0.size)
   replace bA := bA.au hb
   clear hb R10
   by_cases hs2 : (ad.sl ad.b8).sz x.aY ≤ l - (ad.sl ad.int).sz x.query - (ad.sl ad.int).sz x.vec
   ·
    rw [bb hs2]
    have hq : decide (((l - (ad.sl ad.int).sz x.query - (ad.sl ad.int).sz x.vec - (ad.sl ad.b8).sz x.aY : Nat) : Int) < 0) = false := by simp
    have HX := yh HB0
    have HA := yh bA
    clear HB0 bA
    go_wp2_with fail
    clear hq
    go_ret
    refine ⟨?_, uh HX⟩
    rw [uh HV, bb (by omega), show l - ((ad.sl ad.int).sz x.query + (ad.sl ad.int).sz x.vec + (ad.sl ad.b8).sz x.aY) = l - (ad.sl ad.int).sz x.query - (ad.sl ad.int).sz x.vec - (ad.sl ad.b8).sz x.aY by omega]
    rfl
   rw [aE (by omega)]
   have HX := yh HB0
   clear HB0 bA
   go_wp2_with fail
   go_ret
   refine ⟨?_, uh HX⟩
   rw [uh HV, aE (by omega)]
   rfl
  rw [aE (by omega)]
  have HX := yh HB0
  clear HB0 bA
  go_wp2_with fail
  go_ret
  refine ⟨?_, uh HX⟩
  rw [uh HV, aE (by omega)]
  rfl
 rw [aE (by omega)]
 have HX := yh HB0
 clear HB0 bA
 go_wp2_with fail
 go_ret
 refine ⟨?_, uh HX⟩
 rw [uh HV, aE (by omega)]
 rfl
theorem jB (v : Value) (xs : List bM) (l : Nat) (w : World) (h : (ad.sl ad.aJ).Reads w [v] xs) (hl : l ≤ 1048576) :
  Calls Tryz.prog 44 #[v, .int .i64 l] w fun e w' => e = .returned (.int .i64 (gD l ((ad.sl ad.aJ).sz xs))) ∧ Below w.heap.size w w' := by
 have hbig := h.cK
 obtain ⟨ao, cap, rfl⟩ := aB h
 have HV : Hid ((ad.sl ad.aJ).sz xs = xs.length + aO ad.aJ.sz xs) := rfl
 by_cases hn : xs.length ≤ l
 ·
  have e1 : (l : Int) - (xs.length : Int) = ((l - xs.length : Nat) : Int) := by omega
  have e2 : decide (((l - xs.length : Nat) : Int) < 0) = false := by simp
  by_cases hp : 0 < xs.length
  ·
   obtain ⟨b, off, rfl, hbl⟩ := ad.aD h hp
   have H := yh h
   clear h
   go_enter Tryz.func44, Tryz.ntmps44
   go_wp2_with fail
   go_loopw [1, 5] (fun lf i wr => ∃ k s : Nat, k ≤ xs.length ∧ i = .int .i64 k ∧ s = aO ad.aJ.sz (xs.take k) ∧ xs.length + s ≤ l ∧ lf = .int .i64 ((l - (xs.length + s) : Nat) : Int) ∧ Below w.heap.size w wr) (fun _ i _ => xs.length - (intOf i).toNat)
   case atStart => exact ⟨0, 0, Nat.zero_le _, rfl, rfl, by omega, by simp, Below.refl _ _⟩
   case round =>
    obtain ⟨k, s, hk, rfl, hs, hsl, rfl, hB⟩ := hrel
    have HS := yh hs
    clear hs e1 e2
    by_cases hlt : k < xs.length
    ·
     obtain ⟨row, hc, hr⟩ := ad.aR (uh H) hlt
     replace hr := hr.af hB
     have hr2 := hr
     obtain ⟨a4, d4, a9, d9, a10, d10, rfl, -, -, -⟩ := bu hr2
     have c0 : wr.cell? ⟨b, off + k * 11, none⟩ = some (.int .i64 (xs[k]).kind) := (hB.cell (p := ⟨b, off + k * 11, none⟩) hbl).trans (hc 0 (by decide))
     have c1 : wr.cell? ⟨b, off + k * 11 + 1, none⟩ = some (.int .i64 (xs[k]).aa) := (hB.cell (p := ⟨b, off + k * 11 + 1, none⟩) hbl).trans (hc 1 (by decide))
     have c2 : wr.cell? ⟨b, off + k * 11 + 2, none⟩ = some (.int .i64 (xs[k]).seq) := (hB.cell (p := ⟨b, off + k * 11 + 2, none⟩) hbl).trans (hc 2 (by decide))
     have c3 : wr.cell? ⟨b, off + k * 11 + 3, none⟩ = some (.int .i64 (xs[k]).id) := (hB.cell (p := ⟨b, off + k * 11 + 3, none⟩) hbl).trans (hc 3 (by decide))
     have c4 : wr.cell? ⟨b, off + k * 11 + 4, none⟩ = some (.slice a4 (xs[k]).query.length d4) := (hB.cell (p := ⟨b, off + k * 11 + 4, none⟩) hbl).trans (hc 4 (by decide))
     have c5 : wr.cell? ⟨b, off + k * 11 + 5, none⟩ = some (.int .i64 (xs[k]).k) := (hB.cell (p := ⟨b, off + k * 11 + 5, none⟩) hbl).trans (hc 5 (by decide))
     have c6 : wr.cell? ⟨b, off + k * 11 + 6, none⟩ = some (.int .i64 (xs[k]).start) := (hB.cell (p := ⟨b, off + k * 11 + 6, none⟩) hbl).trans (hc 6 (by decide))
     have c7 : wr.cell? ⟨b, off + k * 11 + 7, none⟩ = some (.int .i64 (xs[k]).fin) := (hB.cell (p := ⟨b, off + k * 11 + 7, none⟩) hbl).trans (hc 7 (by decide))
     have c8 : wr.cell? ⟨b, off + k * 11 + 8, none⟩ = some (.int .i64 (xs[k]).place) := (hB.cell (p := ⟨b, off + k * 11 + 8, none⟩) hbl).trans (hc 8 (by decide))
     have c9 : wr.cell? ⟨b, off + k * 11 + 9, none⟩ = some (.slice a9 (xs[k]).vec.length d9) := (hB.cell (p := ⟨b, off + k * 11 + 9, none⟩) hbl).trans (hc 9 (by decide))
     have c10 : wr.cell? ⟨b, off + k * 11 + 10, none⟩ = some (.slice a10 (xs[k]).aY.length d10) := (hB.cell (p := ⟨b, off + k * 11 + 10, none⟩) hbl).trans (hc 10 (by decide))
     have HB := yh hB
     have HR := yh hr
     have HT := yh (ad.cD (f := ad.aJ.sz) hlt)
     have HL := yh (ad.cd (f := ad.aJ.sz) (xs := xs) (k := k + 1))
     clear hB hr hc
     generalize hxk : xs[k] = x at *
     clear hxk
     go_wp2_with fail
     refine (kf _ x (l - (xs.length + s)) wr (uh HR) (by omega)).mono ?_
     rintro e w2 ⟨rfl, hb⟩
     replace HB := bZ HB hb
     clear hb HR c0 c1 c2 c3 c4 c5 c6 c7 c8 c9 c10
     have ht := uh HT
     rw [← uh HS] at ht
     have hle := uh HL
     rw [ht] at hle
     have HQ := yh ht
     by_cases hq : xs.length + s + ad.aJ.sz x ≤ l
     ·
      rw [bb (by omega)]
      have e3 : l - (xs.length + s) - ad.aJ.sz x = l - (xs.length + (s + ad.aJ.sz x)) := by omega
      rw [e3]
      have e4 : decide (((l - (xs.length + (s + ad.aJ.sz x)) : Nat) : Int) < 0) = false := by simp
      clear ht hle e3
      generalize hz : s + ad.aJ.sz x = s2 at *
      have hs2 : xs.length + s2 ≤ l := by omega
      clear hz hq
      go_wp2_with fail
      go_roundw
      case rel => exact ⟨k + 1, s2, by omega, by go_num, (uh HQ).symm, hs2, rfl, uh HB⟩
      case measure => simp [intOf]; omega
     rw [aE (by omega)]
     have HN : Hid (l < xs.length + aO ad.aJ.sz xs) := by
      show l < xs.length + aO ad.aJ.sz xs
      omega
     clear ht hle
     go_wp2_with fail
     go_ret
     refine ⟨?_, uh HB⟩
     rw [uh HV, aE (uh HN)]
     rfl
    obtain rfl : k = xs.length := by omega
    have HE : Hid (s = aO ad.aJ.sz xs) := by
     have := uh HS
     rw [List.take_length] at this
     exact this
    have HB := yh hB
    clear hB HS
    go_wp2_with fail
    go_ret
    refine ⟨?_, uh HB⟩
    rw [uh HV, ← uh HE, bb hsl]
    rfl
  obtain rfl : xs = [] := List.eq_nil_of_length_eq_zero (by omega)
  clear h hp
  rw [uh HV]
  simp only [List.length_nil, aO, Nat.add_zero, Nat.sub_zero] at *
  rw [bb (Nat.zero_le _)]
  have e3 : decide ((l : Int) < 0) = false := by simp
  go_enter Tryz.func44, Tryz.ntmps44
  go_wp2_with fail
  refine wp_loop_rounds 1 ?_
  rw [rounds_succ]
  go_wp2_with fail
  go_ret
  exact ⟨by simp, Below.refl _ _⟩
 have HN : Hid (gD l ((ad.sl ad.aJ).sz xs) = -1) := aE (by rw [uh HV]; omega)
 rw [uh HN]
 have e2 : decide ((l : Int) - (xs.length : Int) < 0) = true := by simp; omega
 clear h HV HN
 generalize xs.length = n at *
 go_enter Tryz.func44, Tryz.ntmps44
 go_wp2_with fail
 go_ret
 exact ⟨rfl, Below.refl _ _⟩
theorem ej (x : aN) : ad.a8.sz x = ad.aZ.sz x.chain + (ad.sl ad.aP).sz x.nodes + (ad.sl ad.bm).sz x.msgs + (ad.sl ad.aJ).sz x.ae := by
 show 0 + (0 + (ad.aZ.sz x.chain + ((ad.sl ad.aP).sz x.nodes + ((ad.sl ad.bm).sz x.msgs + ((ad.sl ad.aJ).sz x.ae))))) = ad.aZ.sz x.chain + (ad.sl ad.aP).sz x.nodes + (ad.sl ad.bm).sz x.msgs + (ad.sl ad.aJ).sz x.ae
 omega
theorem ij (cs : List Value) (x : aN) (l : Nat) (w : World) (h : ad.a8.Reads w cs x) (hl : l ≤ 1048576) :
  Calls Tryz.prog 11 #[.agg cs.toArray, .int .i64 l] w fun e w' => e = .returned (.int .i64 (gD l (ad.a8.sz x))) ∧ Below w.heap.size w w' := by
 obtain ⟨a3, d3, a4, d4, a5, d5, a6, d6, rfl, R2, R4, R5, R6⟩ := aF h
 clear h
 have HB0 : Below w.heap.size w (w.alloc (.cells #[.int .i64 x.now, .int .i64 x.events, .int .i64 x.chain.ab, .slice a3 x.chain.ids.length d3, .slice a4 x.nodes.length d4, .slice a5 x.msgs.length d5, .slice a6 x.ae.length d6] 29)) := (Below.refl _ _).alloc (Nat.le_refl _) _
 have bA : ar w.heap.size #[.int .i64 x.now, .int .i64 x.events, .int .i64 x.chain.ab, .slice a3 x.chain.ids.length d3, .slice a4 x.nodes.length d4, .slice a5 x.msgs.length d5, .slice a6 x.ae.length d6] 29 (w.alloc (.cells #[.int .i64 x.now, .int .i64 x.events, .int .i64 x.chain.ab, .slice a3 x.chain.ids.length d3, .slice a4 x.nodes.length d4, .slice a5 x.msgs.length d5, .slice a6 x.ae.length d6] 29)) w.heap.size := aM (Nat.le_refl _)
 have HV := yh (ej x)
 go_enter Tryz.func11, Tryz.ntmps11
 go_wp2_with fail
 generalize w.alloc (.cells #[.int .i64 x.now, .int .i64 x.events, .int .i64 x.chain.ab, .slice a3 x.chain.ids.length d3, .slice a4 x.nodes.length d4, .slice a5 x.msgs.length d5, .slice a6 x.ae.length d6] 29) = W0 at *
 replace R2 := R2.af HB0
 replace R4 := R4.af HB0
 replace R5 := R5.af HB0
 replace R6 := R6.af HB0
 refine (kB _ x.chain (l) _ R2 (by omega)).mono ?_
 rintro e w1 ⟨rfl, hb⟩
 replace HB0 := HB0.trans (hb.mono HB0.size)
 replace bA := bA.au hb
 replace R4 := R4.af hb
 replace R5 := R5.af hb
 replace R6 := R6.af hb
 clear hb R2
 by_cases hs0 : ad.aZ.sz x.chain ≤ l
 ·
  rw [bb hs0]
  have hq : decide (((l - ad.aZ.sz x.chain : Nat) : Int) < 0) = false := by simp
  have p4 := bA.at 4 _ rfl
  have p5 := bA.at 5 _ rfl
  have p6 := bA.at 6 _ rfl
  have HX := yh HB0
  have HA := yh bA
  clear HB0 bA
  have P4 := yh R4
  clear R4
  have P5 := yh R5
  clear R5
  have P6 := yh R6
  clear R6
  go_wp2_with fail
  clear hq
  have HB0 := uh HX
  have bA := uh HA
  clear HX HA
  have R4 := uh P4
  clear P4
  have R5 := uh P5
  clear P5
  have R6 := uh P6
  clear P6
  clear p4
  clear p5
  clear p6
  refine (kF _ x.nodes (l - ad.aZ.sz x.chain) _ R4 (by omega)).mono ?_
  rintro e w2 ⟨rfl, hb⟩
  replace HB0 := HB0.trans (hb.mono HB0.size)
  replace bA := bA.au hb
  replace R5 := R5.af hb
  replace R6 := R6.af hb
  clear hb R4
  by_cases hs1 : (ad.sl ad.aP).sz x.nodes ≤ l - ad.aZ.sz x.chain
  ·
   rw [bb hs1]
   have hq : decide (((l - ad.aZ.sz x.chain - (ad.sl ad.aP).sz x.nodes : Nat) : Int) < 0) = false := by simp
   have p5 := bA.at 5 _ rfl
   have p6 := bA.at 6 _ rfl
   have HX := yh HB0
   have HA := yh bA
   clear HB0 bA
   have P5 := yh R5
   clear R5
   have P6 := yh R6
   clear R6
   go_wp2_with fail
   clear hq
   have HB0 := uh HX
   have bA := uh HA
   clear HX HA
   have R5 := uh P5
   clear P5
   have R6 := uh P6
   clear P6
   clear p5
   clear p6
   refine (kR _ x.msgs (l - ad.aZ.sz x.chain - (ad.sl ad.aP).sz x.nodes) _ R5 (by omega)).mono ?_
   rintro e w3 ⟨rfl, hb⟩
   replace HB0 := HB0.trans (hb.mono HB0.size)
   replace bA := bA.au hb
   replace R6 := R6.af hb
   clear hb R5
   by_cases hs2 : (ad.sl ad.bm).sz x.msgs ≤ l - ad.aZ.sz x.chain - (ad.sl ad.aP).sz x.nodes
   ·
    rw [bb hs2]
    have hq : decide (((l - ad.aZ.sz x.chain - (ad.sl ad.aP).sz x.nodes - (ad.sl ad.bm).sz x.msgs : Nat) : Int) < 0) = false := by simp
    have p6 := bA.at 6 _ rfl
    have HX := yh HB0
    have HA := yh bA
    clear HB0 bA
    have P6 := yh R6
    clear R6
    go_wp2_with fail
    clear hq
    have HB0 := uh HX
    have bA := uh HA
    clear HX HA
    have R6 := uh P6
    clear P6
    clear p6
    refine (jB _ x.ae (l - ad.aZ.sz x.chain - (ad.sl ad.aP).sz x.nodes - (ad.sl ad.bm).sz x.msgs) _ R6 (by omega)).mono ?_
    rintro e w4 ⟨rfl, hb⟩
    replace HB0 := HB0.trans (hb.mono HB0.size)
    replace bA := bA.au hb
    clear hb R6
    by_cases hs3 : (ad.sl ad.aJ).sz x.ae ≤ l - ad.aZ.sz x.chain - (ad.sl ad.aP).sz x.nodes - (ad.sl ad.bm).sz x.msgs
    ·
     rw [bb hs3]
     have hq : decide (((l - ad.aZ.sz x.chain - (ad.sl ad.aP).sz x.nodes - (ad.sl ad.bm).sz x.msgs - (ad.sl ad.aJ).sz x.ae : Nat) : Int) < 0) = false := by simp
     have HX := yh HB0
     have HA := yh bA
     clear HB0 bA
     go_wp2_with fail
     clear hq
     go_ret
     refine ⟨?_, uh HX⟩
     rw [uh HV, bb (by omega), show l - (ad.aZ.sz x.chain + (ad.sl ad.aP).sz x.nodes + (ad.sl ad.bm).sz x.msgs + (ad.sl ad.aJ).sz x.ae) = l - ad.aZ.sz x.chain - (ad.sl ad.aP).sz x.nodes - (ad.sl ad.bm).sz x.msgs - (ad.sl ad.aJ).sz x.ae by omega]
     rfl
    rw [aE (by omega)]
    have HX := yh HB0
    clear HB0 bA
    go_wp2_with fail
    go_ret
    refine ⟨?_, uh HX⟩
    rw [uh HV, aE (by omega)]
    rfl
   rw [aE (by omega)]
   have HX := yh HB0
   clear HB0 bA
   go_wp2_with fail
   go_ret
   refine ⟨?_, uh HX⟩
   rw [uh HV, aE (by omega)]
   rfl
  rw [aE (by omega)]
  have HX := yh HB0
  clear HB0 bA
  go_wp2_with fail
  go_ret
  refine ⟨?_, uh HX⟩
  rw [uh HV, aE (by omega)]
  rfl
 rw [aE (by omega)]
 have HX := yh HB0
 clear HB0 bA
 go_wp2_with fail
 go_ret
 refine ⟨?_, uh HX⟩
 rw [uh HV, aE (by omega)]
 rfl
theorem kz (cs : List Value) (x : bc) (w : World) (h : ad.aZ.Reads w cs x) (hn : ad.aZ.sz x ≤ 1048576) :
  Calls Tryz.prog 53 #[.agg cs.toArray] w fun e w' => ∃ cs', e = .returned (.agg cs'.toArray) ∧ ad.aZ.a0 w' cs' x w.heap.size w'.heap.size ∧ Below w.heap.size w w' := by
 have h0 := h
 obtain ⟨bl, hl⟩ := h0
 obtain ⟨-, -, -, -, -, f0, -⟩ := cx.1 hl
 clear hl
 obtain ⟨a1, d1, rfl, R1⟩ := ba h
 clear h
 rw [eA] at hn
 have HF := yh f0
 clear f0
 have HB0 : Below w.heap.size w (((w.alloc (.cells #[.int .i64 x.ab, .slice a1 x.ids.length d1] 24)).alloc (.cells #[.int .i64 0, .slice none 0 0] 32)).alloc (.cells #[.int .i64 x.ab, .slice none 0 0] 32)) := (((Below.refl _ _).alloc (Nat.le_refl _) _).alloc (by simp) _).alloc (by simp; omega) _
 have bA : ar w.heap.size #[.int .i64 x.ab, .slice a1 x.ids.length d1] 24 (((w.alloc (.cells #[.int .i64 x.ab, .slice a1 x.ids.length d1] 24)).alloc (.cells #[.int .i64 0, .slice none 0 0] 32)).alloc (.cells #[.int .i64 x.ab, .slice none 0 0] 32)) w.heap.size := ((aM (Nat.le_refl _)).grow _).grow _
 have bR : ar w.heap.size #[.int .i64 0, .slice none 0 0] 32 (((w.alloc (.cells #[.int .i64 x.ab, .slice a1 x.ids.length d1] 24)).alloc (.cells #[.int .i64 0, .slice none 0 0] 32)).alloc (.cells #[.int .i64 x.ab, .slice none 0 0] 32)) (w.heap.size + 1) := (aX (by omega) (by simp)).grow _
 have bX : ar w.heap.size #[.int .i64 x.ab, .slice none 0 0] 32 (((w.alloc (.cells #[.int .i64 x.ab, .slice a1 x.ids.length d1] 24)).alloc (.cells #[.int .i64 0, .slice none 0 0] 32)).alloc (.cells #[.int .i64 x.ab, .slice none 0 0] 32)) (w.heap.size + 2) := aX (by omega) (by simp)
 have hz0 : w.heap.size + 3 ≤ (((w.alloc (.cells #[.int .i64 x.ab, .slice a1 x.ids.length d1] 24)).alloc (.cells #[.int .i64 0, .slice none 0 0] 32)).alloc (.cells #[.int .i64 x.ab, .slice none 0 0] 32)).heap.size := by simp
 go_enter Tryz.func53, Tryz.ntmps53
 go_wp2_with fail
 generalize ((w.alloc (.cells #[.int .i64 x.ab, .slice a1 x.ids.length d1] 24)).alloc (.cells #[.int .i64 0, .slice none 0 0] 32)).alloc (.cells #[.int .i64 x.ab, .slice none 0 0] 32) = W0 at *
 replace R1 := R1.af HB0
 refine (dw _ x.ids W0 R1 (by omega)).mono ?_
 rintro e w1 ⟨v1, rfl, O1, hb⟩
 have Z0 : W0.heap.size ≤ w1.heap.size := hb.size
 replace HB0 := HB0.trans (hb.mono HB0.size)
 replace bA := bA.au hb
 replace bR := bR.au hb
 replace bX := bX.au hb
 clear hb R1
 obtain ⟨a1z, d1z, rfl⟩ := aB O1.reads
 have q0 := bX.at 0 _ rfl
 have q1 := bX.at 1 _ rfl
 have qf := bX.soft
 have ql := bX.lt
 have pl := bA.lt
 have r0 := bR.at 0 _ rfl
 have r1 := bR.at 1 _ rfl
 have rf := bR.soft
 have rl := bR.lt
 simp only [ga, gb, gc] at q0 q1 r0 r1
 have hA := yh bA
 have hR := yh bR
 have hX := yh bX
 have hB := yh HB0
 clear bA bR bX HB0
 have hO1 := yh O1
 clear O1
 go_wp2_with fail
 refine bodyPost_ret (v := .agg #[.int .i64 x.ab, .slice a1z x.ids.length d1z]) (by simp [results, Tryz.results53, go_sem, r0, r1]) rfl ?_
 have E : Ext (fun q => q = w.heap.size + 2 ∨ q = w.heap.size + 1) w1 _ := bp (bp (Ext.refl _ _) (w.heap.size + 2) [(1, .slice a1z x.ids.length d1z)] (Or.inl rfl)) (w.heap.size + 1) [(0, .int .i64 x.ab), (1, .slice a1z x.ids.length d1z)] (Or.inr rfl)
 obtain f0 := uh HF
 have own : ad.aZ.a0 _ [.int .i64 x.ab, .slice a1z x.ids.length d1z] x w.heap.size w1.heap.size := (ad.az (ad.aK (lo := w.heap.size) (hi := w.heap.size) f0) ((uh hO1).ext E (fun k h1 h2 h3 => by omega)) (by omega) (by omega) (by omega))
 have hsz := E.size
 have told := ad.dk (w := w) own (by omega) (by omega) ((uh hB).trans (E.below (uh hB).size (fun k h1 h2 => by omega)))
 exact told
theorem gU (cs : List Value) (x : ak) (w : World) (h : ad.ag.Reads w cs x) (hn : ad.ag.sz x ≤ 1048576) :
  Calls Tryz.prog 174 #[.agg cs.toArray] w fun e w' => ∃ cs', e = .returned (.agg cs'.toArray) ∧ ad.ag.a0 w' cs' x w.heap.size w'.heap.size ∧ Below w.heap.size w w' := by
 have h0 := h
 obtain ⟨bl, hl⟩ := h0
 obtain ⟨-, -, -, -, -, f0, f1, -, f3, f4⟩ := bN.1 hl
 clear hl
 obtain ⟨a2, d2, rfl, R2⟩ := aI h
 clear h
 rw [eD] at hn
 have HF := yh (And.intro f0 (And.intro f1 (And.intro f3 (f4))))
 clear f0 f1 f3 f4
 have HB0 : Below w.heap.size w (((w.alloc (.cells #[.int .i64 x.kind, .int .i64 x.id, .slice a2 x.vec.length d2, .int .i64 x.aa, .int .i64 x.seq] 132)).alloc (.cells #[.int .i64 0, .int .i64 0, .slice none 0 0, .int .i64 0, .int .i64 0] 142)).alloc (.cells #[.int .i64 x.kind, .int .i64 x.id, .slice none 0 0, .int .i64 0, .int .i64 0] 142)) := (((Below.refl _ _).alloc (Nat.le_refl _) _).alloc (by simp) _).alloc (by simp; omega) _
 have bA : ar w.heap.size #[.int .i64 x.kind, .int .i64 x.id, .slice a2 x.vec.length d2, .int .i64 x.aa, .int .i64 x.seq] 132 (((w.alloc (.cells #[.int .i64 x.kind, .int .i64 x.id, .slice a2 x.vec.length d2, .int .i64 x.aa, .int .i64 x.seq] 132)).alloc (.cells #[.int .i64 0, .int .i64 0, .slice none 0 0, .int .i64 0, .int .i64 0] 142)).alloc (.cells #[.int .i64 x.kind, .int .i64 x.id, .slice none 0 0, .int .i64 0, .int .i64 0] 142)) w.heap.size := ((aM (Nat.le_refl _)).grow _).grow _
 have bR : ar w.heap.size #[.int .i64 0, .int .i64 0, .slice none 0 0, .int .i64 0, .int .i64 0] 142 (((w.alloc (.cells #[.int .i64 x.kind, .int .i64 x.id, .slice a2 x.vec.length d2, .int .i64 x.aa, .int .i64 x.seq] 132)).alloc (.cells #[.int .i64 0, .int .i64 0, .slice none 0 0, .int .i64 0, .int .i64 0] 142)).alloc (.cells #[.int .i64 x.kind, .int .i64 x.id, .slice none 0 0, .int .i64 0, .int .i64 0] 142)) (w.heap.size + 1) := (aX (by omega) (by simp)).grow _
 have bX : ar w.heap.size #[.int .i64 x.kind, .int .i64 x.id, .slice none 0 0, .int .i64 0, .int .i64 0] 142 (((w.alloc (.cells #[.int .i64 x.kind, .int .i64 x.id, .slice a2 x.vec.length d2, .int .i64 x.aa, .int .i64 x.seq] 132)).alloc (.cells #[.int .i64 0, .int .i64 0, .slice none 0 0, .int .i64 0, .int .i64 0] 142)).alloc (.cells #[.int .i64 x.kind, .int .i64 x.id, .slice none 0 0, .int .i64 0, .int .i64 0] 142)) (w.heap.size + 2) := aX (by omega) (by simp)
 have hz0 : w.heap.size + 3 ≤ (((w.alloc (.cells #[.int .i64 x.kind, .int .i64 x.id, .slice a2 x.vec.length d2, .int .i64 x.aa, .int .i64 x.seq] 132)).alloc (.cells #[.int .i64 0, .int .i64 0, .slice none 0 0, .int .i64 0, .int .i64 0] 142)).alloc (.cells #[.int .i64 x.kind, .int .i64 x.id, .slice none 0 0, .int .i64 0, .int .i64 0] 142)).heap.size := by simp
 go_enter Tryz.func174, Tryz.ntmps174
 go_wp2_with fail
 generalize ((w.alloc (.cells #[.int .i64 x.kind, .int .i64 x.id, .slice a2 x.vec.length d2, .int .i64 x.aa, .int .i64 x.seq] 132)).alloc (.cells #[.int .i64 0, .int .i64 0, .slice none 0 0, .int .i64 0, .int .i64 0] 142)).alloc (.cells #[.int .i64 x.kind, .int .i64 x.id, .slice none 0 0, .int .i64 0, .int .i64 0] 142) = W0 at *
 replace R2 := R2.af HB0
 refine (dw _ x.vec W0 R2 (by omega)).mono ?_
 rintro e w1 ⟨v2, rfl, O2, hb⟩
 have Z0 : W0.heap.size ≤ w1.heap.size := hb.size
 replace HB0 := HB0.trans (hb.mono HB0.size)
 replace bA := bA.au hb
 replace bR := bR.au hb
 replace bX := bX.au hb
 clear hb R2
 obtain ⟨a2z, d2z, rfl⟩ := aB O2.reads
 have p3 := bA.at 3 _ rfl
 have p4 := bA.at 4 _ rfl
 have q0 := bX.at 0 _ rfl
 have q1 := bX.at 1 _ rfl
 have q2 := bX.at 2 _ rfl
 have q3 := bX.at 3 _ rfl
 have q4 := bX.at 4 _ rfl
 have qf := bX.soft
 have ql := bX.lt
 have pl := bA.lt
 have r0 := bR.at 0 _ rfl
 have r1 := bR.at 1 _ rfl
 have r2 := bR.at 2 _ rfl
 have r3 := bR.at 3 _ rfl
 have r4 := bR.at 4 _ rfl
 have rf := bR.soft
 have rl := bR.lt
 simp only [ga, gb, gc] at p3 p4 q0 q1 q2 q3 q4 r0 r1 r2 r3 r4
 have hA := yh bA
 have hR := yh bR
 have hX := yh bX
 have hB := yh HB0
 clear bA bR bX HB0
 have hO2 := yh O2
 clear O2
 go_wp2_with fail
 refine bodyPost_ret (v := .agg #[.int .i64 x.kind, .int .i64 x.id, .slice a2z x.vec.length d2z, .int .i64 x.aa, .int .i64 x.seq]) (by simp [results, Tryz.results174, go_sem, r0, r1, r2, r3, r4]) rfl ?_
 have E : Ext (fun q => q = w.heap.size + 2 ∨ q = w.heap.size + 1) w1 _ := bp (bp (Ext.refl _ _) (w.heap.size + 2) [(2, .slice a2z x.vec.length d2z), (3, .int .i64 x.aa), (4, .int .i64 x.seq)] (Or.inl rfl)) (w.heap.size + 1) [(0, .int .i64 x.kind), (1, .int .i64 x.id), (2, .slice a2z x.vec.length d2z), (3, .int .i64 x.aa), (4, .int .i64 x.seq)] (Or.inr rfl)
 obtain ⟨f0, f1, f3, f4⟩ := uh HF
 have own : ad.ag.a0 _ [.int .i64 x.kind, .int .i64 x.id, .slice a2z x.vec.length d2z, .int .i64 x.aa, .int .i64 x.seq] x w.heap.size w1.heap.size := (ad.az (ad.aK (lo := w.heap.size) (hi := w.heap.size) f0) (ad.az (ad.aK (lo := w.heap.size) (hi := w.heap.size) f1) (ad.az ((uh hO2).ext E (fun k h1 h2 h3 => by omega)) (ad.az (ad.aK (lo := w1.heap.size) (hi := w1.heap.size) f3) (ad.aK (lo := w1.heap.size) (hi := w1.heap.size) f4) (by omega) (by omega) (by omega)) (by omega) (by omega) (by omega)) (by omega) (by omega) (by omega)) (by omega) (by omega) (by omega))
 have hsz := E.size
 have told := ad.dk (w := w) own (by omega) (by omega) ((uh hB).trans (E.below (uh hB).size (fun k h1 h2 => by omega)))
 exact told
theorem jz : (Tryz.prog.info? 142).map (fun i => (i.zero, i.size, decide (i.bytes ≤ 1000))) = some (some (.agg #[.int .i64 0, .int .i64 0, .slice none 0 0, .int .i64 0, .int .i64 0]), 5, true) := by kernel_rfl
theorem jo (v : Value) (xs : List ak) (w : World) (h : (ad.sl ad.ag).Reads w [v] xs) (hn : (ad.sl ad.ag).sz xs ≤ 1048576) :
  Calls Tryz.prog 173 #[v] w fun e w' => ∃ v', e = .returned v' ∧ (ad.sl ad.ag).a0 w' [v'] xs w.heap.size w'.heap.size ∧ Below w.heap.size w w' := by
 have hbig := h.cK
 obtain ⟨ao, cap, rfl⟩ := aB h
 have hlen : xs.length ≤ 1048576 := Nat.le_trans ad.fp hn
 obtain ⟨i0, hi, hz0, hz1, hz2⟩ : ∃ i, Tryz.prog.info? 142 = some i ∧ i.zero = some (.agg #[.int .i64 0, .int .i64 0, .slice none 0 0, .int .i64 0, .int .i64 0]) ∧ i.size = 5 ∧ i.bytes ≤ 1000 := by
  have := jz
  cases hq : Tryz.prog.info? 142 with
  | none => rw [hq] at this; simp at this
  | some i =>
   rw [hq] at this
   simp only [Option.map_some, Option.some.injEq, Prod.mk.injEq, decide_eq_true_eq] at this
   exact ⟨i, rfl, this.1, this.2.1, this.2.2⟩
 have H := yh h
 have HN := yh hn
 clear h hn
 go_enter Tryz.func173, Tryz.ntmps173
 go_wp2_with (at_make; refine wpList_make_full _ rfl _ _ 77 rfl w.heap.size 142 i0 _ 5 Tryz.underlying77 hi hz0 hz1 _ _ _ _ xs.length rfl rfl rfl rfl ?c1 ?c2 ?c3 ?_)
 case c1 => have := Nat.mul_le_mul hz2 hlen; omega
 case c2 => unfold maxLen; omega
 case c3 => exact Nat.le_refl _
 intro w1 hown1 hgrow1
 have hB1 : Below w.heap.size w w1 := (Below.refl _ _).grown hgrow1 (Nat.le_refl _) (by simp)
 clear hgrow1 hi hz0 hz1 hz2
 have HO1 := yh hown1
 have HB1 := yh hB1
 clear hown1 hB1
 go_wp2_with fail
 go_loopw [4] (fun i wr => ∃ (k : Nat) (rows : List (List Value)) (Q : List Value) (hi : Nat), k ≤ xs.length ∧ i = .int .i64 k ∧ wr.ownsRow w.heap.size 142 5 (.slice (some ⟨w.heap.size, 0, none⟩) xs.length xs.length) xs.length (rows.flatten ++ Q) ∧ Q.length = (xs.length - k) * 5 ∧ ad.eI ad.ag wr rows (xs.take k) (w.heap.size + 1) hi ∧ hi ≤ wr.heap.size ∧ w.heap.size < hi ∧ Below w.heap.size w wr) (fun i _ => xs.length - (intOf i).toNat)
 case atStart =>
  have hl := ((uh HO1).lt w.heap.size rfl).2
  exact ⟨0, [], _, w1.heap.size, Nat.zero_le _, rfl, by simpa using uh HO1, by have := (uh HO1).1; simpa using this, ad.de, Nat.le_refl _, hl, uh HB1⟩
 case round =>
  obtain ⟨k, rows, Q, hi, hk, rfl, hown, hQ, hsub, hhi, hlo, hB⟩ := hrel
  clear HO1 HB1
  by_cases hlt : k < xs.length
  ·
   obtain ⟨b, off, rfl, hbl⟩ := ad.aD (uh H) (by omega)
   obtain ⟨row, hc, hr⟩ := ad.aR (uh H) hlt
   replace hr := hr.af hB
   have hr2 := hr
   obtain ⟨a2, d2, rfl, -⟩ := aI hr2
   have c0 : wr.cell? ⟨b, off + k * 5, none⟩ = some (.int .i64 (xs[k]).kind) := (hB.cell (p := ⟨b, off + k * 5, none⟩) hbl).trans (hc 0 (by decide))
   have c1 : wr.cell? ⟨b, off + k * 5 + 1, none⟩ = some (.int .i64 (xs[k]).id) := (hB.cell (p := ⟨b, off + k * 5 + 1, none⟩) hbl).trans (hc 1 (by decide))
   have c2 : wr.cell? ⟨b, off + k * 5 + 2, none⟩ = some (.slice a2 (xs[k]).vec.length d2) := (hB.cell (p := ⟨b, off + k * 5 + 2, none⟩) hbl).trans (hc 2 (by decide))
   have c3 : wr.cell? ⟨b, off + k * 5 + 3, none⟩ = some (.int .i64 (xs[k]).aa) := (hB.cell (p := ⟨b, off + k * 5 + 3, none⟩) hbl).trans (hc 3 (by decide))
   have c4 : wr.cell? ⟨b, off + k * 5 + 4, none⟩ = some (.int .i64 (xs[k]).seq) := (hB.cell (p := ⟨b, off + k * 5 + 4, none⟩) hbl).trans (hc 4 (by decide))
   have hrl : rows.flatten.length = k * 5 := by have := (ad.db hsub).1; rw [List.length_take, Nat.min_eq_left hk] at this; exact this
   have hsz := Nat.le_trans (ad.dV (A := ad.ag) hlt) (uh HN)
   have HT : Hid (xs.take (k + 1) = xs.take k ++ [xs[k]]) := List.take_succ_eq_append_getElem hlt
   have HB := yh hB
   have HR := yh hr
   have HO := yh hown
   have HS := yh hsub
   have HQ := yh hQ
   clear hB hr hc hown hsub hQ
   generalize hxk : xs[k] = x at *
   clear hxk
   go_wp2_with fail
   refine (gU _ x wr (uh HR) hsz).mono ?_
   rintro e w2 ⟨cs2, rfl, O, hb⟩
   have o2 := cM (uh HO) hb
   replace HS := yh (ad.cO (ad.bY (uh HS) (bf hb cT) (fun _ _ _ h => h)) O (by omega) (by omega) (Nat.le_trans hhi hb.size))
   have hb2 := (uh HB).trans (hb.mono (uh HB).size)
   have hz := hb.size
   have orr := O.reads
   obtain ⟨a2z, d2z, rfl, -⟩ := aI orr
   clear hb HR HB HO O c0 c1 c2 c3 c4
   have hQ := uh HQ
   have hl5 : (rows.flatten ++ Q).length = xs.length * 5 := o2.1
   obtain ⟨u0, g0⟩ : ∃ u, w2.cell? ⟨w.heap.size, k * 5, none⟩ = some u := by
    rw [o2.cellAt (k * 5) (by omega)]
    exact gZ (by omega)
   have t0 := o2.frozenAt (k * 5)
   obtain ⟨u1, g1⟩ : ∃ u, w2.cell? ⟨w.heap.size, k * 5 + 1, none⟩ = some u := by
    rw [o2.cellAt (k * 5 + 1) (by omega)]
    exact gZ (by omega)
   have t1 := o2.frozenAt (k * 5 + 1)
   obtain ⟨u2, g2⟩ : ∃ u, w2.cell? ⟨w.heap.size, k * 5 + 2, none⟩ = some u := by
    rw [o2.cellAt (k * 5 + 2) (by omega)]
    exact gZ (by omega)
   have t2 := o2.frozenAt (k * 5 + 2)
   obtain ⟨u3, g3⟩ : ∃ u, w2.cell? ⟨w.heap.size, k * 5 + 3, none⟩ = some u := by
    rw [o2.cellAt (k * 5 + 3) (by omega)]
    exact gZ (by omega)
   have t3 := o2.frozenAt (k * 5 + 3)
   obtain ⟨u4, g4⟩ : ∃ u, w2.cell? ⟨w.heap.size, k * 5 + 4, none⟩ = some u := by
    rw [o2.cellAt (k * 5 + 4) (by omega)]
    exact gZ (by omega)
   have t4 := o2.frozenAt (k * 5 + 4)
   have o3 := cz o2 (k * 5) [.int .i64 x.kind, .int .i64 x.id, .slice a2z x.vec.length d2z, .int .i64 x.aa, .int .i64 x.seq]
   rw [show k * 5 = rows.flatten.length from hrl.symm, cq _ _ _ (by rw [hQ]; simp; have : 1 * 5 ≤ (xs.length - k) * 5 := Nat.mul_le_mul_right _ (by omega); omega), hrl] at o3
   have E : Ext (fun q => q = w.heap.size) w2 (bg w2 w.heap.size (k * 5) [.int .i64 x.kind, .int .i64 x.id, .slice a2z x.vec.length d2z, .int .i64 x.aa, .int .i64 x.seq]) := cy _ (Ext.refl _ _) _ _ _ rfl
   replace HS := yh (ad.bY (uh HS) E (fun q h1 h2 h3 => by omega))
   have HB := yh (bD hb2 w.heap.size (k * 5) [.int .i64 x.kind, .int .i64 x.id, .slice a2z x.vec.length d2z, .int .i64 x.aa, .int .i64 x.seq] (Nat.le_refl _))
   have HZ : Hid ((bg w2 w.heap.size (k * 5) [.int .i64 x.kind, .int .i64 x.id, .slice a2z x.vec.length d2z, .int .i64 x.aa, .int .i64 x.seq]).heap.size = w2.heap.size) := cl _ _ _ _
   have HO : Hid ((bg w2 w.heap.size (k * 5) [.int .i64 x.kind, .int .i64 x.id, .slice a2z x.vec.length d2z, .int .i64 x.aa, .int .i64 x.seq]).ownsRow w.heap.size 142 5 (.slice (some ⟨w.heap.size, 0, none⟩) xs.length xs.length) xs.length ((rows ++ [([.int .i64 x.kind, .int .i64 x.id, .slice a2z x.vec.length d2z, .int .i64 x.aa, .int .i64 x.seq] : List Value)]).flatten ++ Q.drop 5)) := by
    show (bg w2 w.heap.size (k * 5) [.int .i64 x.kind, .int .i64 x.id, .slice a2z x.vec.length d2z, .int .i64 x.aa, .int .i64 x.seq]).ownsRow w.heap.size 142 5 (.slice (some ⟨w.heap.size, 0, none⟩) xs.length xs.length) xs.length ((rows ++ [([.int .i64 x.kind, .int .i64 x.id, .slice a2z x.vec.length d2z, .int .i64 x.aa, .int .i64 x.seq] : List Value)]).flatten ++ Q.drop 5)
    rw [List.flatten_append]
    simpa using o3
   have hl2 := (o2.lt w.heap.size rfl).2
   clear o3 o2 E hb2 hl5
   have hQ2 : Hid ((Q.drop 5).length = (xs.length - (k + 1)) * 5) := by
    show (Q.drop 5).length = (xs.length - (k + 1)) * 5
    rw [List.length_drop, hQ, show xs.length - k = xs.length - (k + 1) + 1 by omega, Nat.add_mul]
    omega
   clear hQ HQ
   go_wp2_with fail
   go_roundw
   case rel => exact ⟨k + 1, rows ++ [([.int .i64 x.kind, .int .i64 x.id, .slice a2z x.vec.length d2z, .int .i64 x.aa, .int .i64 x.seq] : List Value)], Q.drop 5, w2.heap.size, by omega, by go_num, uh HO, uh hQ2, (by rw [uh HT]; exact uh HS), Nat.le_of_eq (uh HZ).symm, by omega, uh HB⟩
   case measure => simp [intOf]; omega
  obtain rfl : k = xs.length := by omega
  have e0 : Q = [] := List.eq_nil_of_length_eq_zero (by rw [hQ]; simp)
  subst e0
  rw [List.append_nil] at hown
  rw [List.take_length] at hsub
  have HO := yh (ad.cL (A := ad.ag) hown hsub (by omega) hhi hbig)
  have HB := yh hB
  clear hown hsub hB
  go_wp2_with fail
  go_ret
  exact ⟨_, rfl, uh HO, uh HB⟩
theorem kV (cs : List Value) (x : bn) (w : World) (h : ad.aP.Reads w cs x) (hn : ad.aP.sz x ≤ 1048576) :
  Calls Tryz.prog 106 #[.agg cs.toArray] w fun e w' => ∃ cs', e = .returned (.agg cs'.toArray) ∧ ad.aP.a0 w' cs' x w.heap.size w'.heap.size ∧ Below w.heap.size w w' := by
 have h0 := h
 obtain ⟨bl, hl⟩ := h0
 obtain ⟨-, -, -, -, -, f0, f2, f3, -, f5, f6⟩ := fV.1 hl
 clear hl
 obtain ⟨a4, d4, rfl, R4⟩ := aQ h
 clear h
 rw [eR] at hn
 have HF := yh (And.intro f0 (And.intro f2 (And.intro f3 (And.intro f5 (f6)))))
 clear f0 f2 f3 f5 f6
 have HB0 : Below w.heap.size w (((w.alloc (.cells #[.int .i64 x.id, .bool x.up, .int .i64 x.ab, .int .i64 x.ai, .slice a4 x.writes.length d4, .int .i64 x.sure, .int .i64 x.clean] 129)).alloc (.cells #[.int .i64 0, .bool false, .int .i64 0, .int .i64 0, .slice none 0 0, .int .i64 0, .int .i64 0] 79)).alloc (.cells #[.int .i64 x.id, .bool x.up, .int .i64 x.ab, .int .i64 x.ai, .slice none 0 0, .int .i64 0, .int .i64 0] 79)) := (((Below.refl _ _).alloc (Nat.le_refl _) _).alloc (by simp) _).alloc (by simp; omega) _
 have bA : ar w.heap.size #[.int .i64 x.id, .bool x.up, .int .i64 x.ab, .int .i64 x.ai, .slice a4 x.writes.length d4, .int .i64 x.sure, .int .i64 x.clean] 129 (((w.alloc (.cells #[.int .i64 x.id, .bool x.up, .int .i64 x.ab, .int .i64 x.ai, .slice a4 x.writes.length d4, .int .i64 x.sure, .int .i64 x.clean] 129)).alloc (.cells #[.int .i64 0, .bool false, .int .i64 0, .int .i64 0, .slice none 0 0, .int .i64 0, .int .i64 0] 79)).alloc (.cells #[.int .i64 x.id, .bool x.up, .int .i64 x.ab, .int .i64 x.ai, .slice none 0 0, .int .i64 0, .int .i64 0] 79)) w.heap.size := ((aM (Nat.le_refl _)).grow _).grow _
 have bR : ar w.heap.size #[.int .i64 0, .bool false, .int .i64 0, .int .i64 0, .slice none 0 0, .int .i64 0, .int .i64 0] 79 (((w.alloc (.cells #[.int .i64 x.id, .bool x.up, .int .i64 x.ab, .int .i64 x.ai, .slice a4 x.writes.length d4, .int .i64 x.sure, .int .i64 x.clean] 129)).alloc (.cells #[.int .i64 0, .bool false, .int .i64 0, .int .i64 0, .slice none 0 0, .int .i64 0, .int .i64 0] 79)).alloc (.cells #[.int .i64 x.id, .bool x.up, .int .i64 x.ab, .int .i64 x.ai, .slice none 0 0, .int .i64 0, .int .i64 0] 79)) (w.heap.size + 1) := (aX (by omega) (by simp)).grow _
 have bX : ar w.heap.size #[.int .i64 x.id, .bool x.up, .int .i64 x.ab, .int .i64 x.ai, .slice none 0 0, .int .i64 0, .int .i64 0] 79 (((w.alloc (.cells #[.int .i64 x.id, .bool x.up, .int .i64 x.ab, .int .i64 x.ai, .slice a4 x.writes.length d4, .int .i64 x.sure, .int .i64 x.clean] 129)).alloc (.cells #[.int .i64 0, .bool false, .int .i64 0, .int .i64 0, .slice none 0 0, .int .i64 0, .int .i64 0] 79)).alloc (.cells #[.int .i64 x.id, .bool x.up, .int .i64 x.ab, .int .i64 x.ai, .slice none 0 0, .int .i64 0, .int .i64 0] 79)) (w.heap.size + 2) := aX (by omega) (by simp)
 have hz0 : w.heap.size + 3 ≤ (((w.alloc (.cells #[.int .i64 x.id, .bool x.up, .int .i64 x.ab, .int .i64 x.ai, .slice a4 x.writes.length d4, .int .i64 x.sure, .int .i64 x.clean] 129)).alloc (.cells #[.int .i64 0, .bool false, .int .i64 0, .int .i64 0, .slice none 0 0, .int .i64 0, .int .i64 0] 79)).alloc (.cells #[.int .i64 x.id, .bool x.up, .int .i64 x.ab, .int .i64 x.ai, .slice none 0 0, .int .i64 0, .int .i64 0] 79)).heap.size := by simp
 go_enter Tryz.func106, Tryz.ntmps106
 go_wp2_with fail
 generalize ((w.alloc (.cells #[.int .i64 x.id, .bool x.up, .int .i64 x.ab, .int .i64 x.ai, .slice a4 x.writes.length d4, .int .i64 x.sure, .int .i64 x.clean] 129)).alloc (.cells #[.int .i64 0, .bool false, .int .i64 0, .int .i64 0, .slice none 0 0, .int .i64 0, .int .i64 0] 79)).alloc (.cells #[.int .i64 x.id, .bool x.up, .int .i64 x.ab, .int .i64 x.ai, .slice none 0 0, .int .i64 0, .int .i64 0] 79) = W0 at *
 replace R4 := R4.af HB0
 refine (jo _ x.writes W0 R4 (by omega)).mono ?_
 rintro e w1 ⟨v4, rfl, O4, hb⟩
 have Z0 : W0.heap.size ≤ w1.heap.size := hb.size
 replace HB0 := HB0.trans (hb.mono HB0.size)
 replace bA := bA.au hb
 replace bR := bR.au hb
 replace bX := bX.au hb
 clear hb R4
 obtain ⟨a4z, d4z, rfl⟩ := aB O4.reads
 have p5 := bA.at 5 _ rfl
 have p6 := bA.at 6 _ rfl
 have q0 := bX.at 0 _ rfl
 have q1 := bX.at 1 _ rfl
 have q2 := bX.at 2 _ rfl
 have q3 := bX.at 3 _ rfl
 have q4 := bX.at 4 _ rfl
 have q5 := bX.at 5 _ rfl
 have q6 := bX.at 6 _ rfl
 have qf := bX.soft
 have ql := bX.lt
 have pl := bA.lt
 have r0 := bR.at 0 _ rfl
 have r1 := bR.at 1 _ rfl
 have r2 := bR.at 2 _ rfl
 have r3 := bR.at 3 _ rfl
 have r4 := bR.at 4 _ rfl
 have r5 := bR.at 5 _ rfl
 have r6 := bR.at 6 _ rfl
 have rf := bR.soft
 have rl := bR.lt
 simp only [ga, gb, gc] at p5 p6 q0 q1 q2 q3 q4 q5 q6 r0 r1 r2 r3 r4 r5 r6
 have hA := yh bA
 have hR := yh bR
 have hX := yh bX
 have hB := yh HB0
 clear bA bR bX HB0
 have hO4 := yh O4
 clear O4
 go_wp2_with fail
 refine bodyPost_ret (v := .agg #[.int .i64 x.id, .bool x.up, .int .i64 x.ab, .int .i64 x.ai, .slice a4z x.writes.length d4z, .int .i64 x.sure, .int .i64 x.clean]) (by simp [results, Tryz.results106, go_sem, r0, r1, r2, r3, r4, r5, r6]) rfl ?_
 have E : Ext (fun q => q = w.heap.size + 2 ∨ q = w.heap.size + 1) w1 _ := bp (bp (Ext.refl _ _) (w.heap.size + 2) [(4, .slice a4z x.writes.length d4z), (5, .int .i64 x.sure), (6, .int .i64 x.clean)] (Or.inl rfl)) (w.heap.size + 1) [(0, .int .i64 x.id), (1, .bool x.up), (2, .int .i64 x.ab), (3, .int .i64 x.ai), (4, .slice a4z x.writes.length d4z), (5, .int .i64 x.sure), (6, .int .i64 x.clean)] (Or.inr rfl)
 obtain ⟨f0, f2, f3, f5, f6⟩ := uh HF
 have own : ad.aP.a0 _ [.int .i64 x.id, .bool x.up, .int .i64 x.ab, .int .i64 x.ai, .slice a4z x.writes.length d4z, .int .i64 x.sure, .int .i64 x.clean] x w.heap.size w1.heap.size := (ad.az (ad.aK (lo := w.heap.size) (hi := w.heap.size) f0) (ad.az (ad.iZ (lo := w.heap.size) (hi := w.heap.size)) (ad.az (ad.aK (lo := w.heap.size) (hi := w.heap.size) f2) (ad.az (ad.aK (lo := w.heap.size) (hi := w.heap.size) f3) (ad.az ((uh hO4).ext E (fun k h1 h2 h3 => by omega)) (ad.az (ad.aK (lo := w1.heap.size) (hi := w1.heap.size) f5) (ad.aK (lo := w1.heap.size) (hi := w1.heap.size) f6) (by omega) (by omega) (by omega)) (by omega) (by omega) (by omega)) (by omega) (by omega) (by omega)) (by omega) (by omega) (by omega)) (by omega) (by omega) (by omega)) (by omega) (by omega) (by omega))
 have hsz := E.size
 have told := ad.dk (w := w) own (by omega) (by omega) ((uh hB).trans (E.below (uh hB).size (fun k h1 h2 => by omega)))
 exact told
end Go.Proofs.YtecagllmonckgaaGreat
