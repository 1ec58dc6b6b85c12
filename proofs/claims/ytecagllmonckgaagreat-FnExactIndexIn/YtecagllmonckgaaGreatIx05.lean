/-
  Texts of this proof in one: EqEntry, EqEntryS, EqWorld, LayIntResult, EqIntResult, LawXIndexIn, LayWorldResult, WrBox, InB, InC, Fault, WrFault, WrZero, ApplyPlain, SessPlain, LayWritesResult, SeqPlain, LayOnceResult, AppPlain, LayNodeResult.
  Their conditions stand in their theorems.
-/
import Derived.Test.YtecagllmonckgaaGreatChecked
import Derived.Test.YtecagllmonckgaaGreatIx01
import Derived.Test.YtecagllmonckgaaGreatIx02
import Derived.Test.YtecagllmonckgaaGreatIx04
import Derived.Test.YtecagllmonckgaaGreatIx00
import Derived.Deep.RegionHeld3
import Derived.Deep.CutRange
import Derived.BigQuiet
import Derived.Deep.QuietTactic
import Derived.WalkSmall
set_option maxRecDepth 100000
set_option maxHeartbeats 4000000
namespace Go.Proofs.YtecagllmonckgaaGreat
open Go.RowKit
theorem ks (cs cs2 : List Value) (x : bN) (w : World) (h : ad.aL.Reads w cs x) (h2 : ad.aL.Reads w cs2 x) :
  Calls Tryz.prog 133 #[.agg cs.toArray, .agg cs2.toArray] w fun e w' => e = .returned (.bool true) ∧ Below w.heap.size w w' := by
 obtain ⟨a4, d4, a9, d9, a10, d10, rfl, R4, R9, R10⟩ := bu h
 obtain ⟨a4z, d4z, a9z, d9z, a10z, d10z, rfl, R4z, R9z, R10z⟩ := bu h2
 clear h h2
 have e0 : (x.kind != x.kind) = false := by simp
 have e1 : (x.aa != x.aa) = false := by simp
 have e2 : (x.seq != x.seq) = false := by simp
 have e3 : (x.id != x.id) = false := by simp
 have e5 : (x.k != x.k) = false := by simp
 have e6 : (x.start != x.start) = false := by simp
 have e7 : (x.fin != x.fin) = false := by simp
 have e8 : (x.place != x.place) = false := by simp
 have HB0 : Below w.heap.size w ((w.alloc (.cells #[.int .i64 x.kind, .int .i64 x.aa, .int .i64 x.seq, .int .i64 x.id, .slice a4 x.query.length d4, .int .i64 x.k, .int .i64 x.start, .int .i64 x.fin, .int .i64 x.place, .slice a9 x.vec.length d9, .slice a10 x.aV.length d10] 85)).alloc (.cells #[.int .i64 x.kind, .int .i64 x.aa, .int .i64 x.seq, .int .i64 x.id, .slice a4z x.query.length d4z, .int .i64 x.k, .int .i64 x.start, .int .i64 x.fin, .int .i64 x.place, .slice a9z x.vec.length d9z, .slice a10z x.aV.length d10z] 85)) := ((Below.refl _ _).alloc (Nat.le_refl _) _).alloc (by simp) _
 have bA : al w.heap.size #[.int .i64 x.kind, .int .i64 x.aa, .int .i64 x.seq, .int .i64 x.id, .slice a4 x.query.length d4, .int .i64 x.k, .int .i64 x.start, .int .i64 x.fin, .int .i64 x.place, .slice a9 x.vec.length d9, .slice a10 x.aV.length d10] 85 ((w.alloc (.cells #[.int .i64 x.kind, .int .i64 x.aa, .int .i64 x.seq, .int .i64 x.id, .slice a4 x.query.length d4, .int .i64 x.k, .int .i64 x.start, .int .i64 x.fin, .int .i64 x.place, .slice a9 x.vec.length d9, .slice a10 x.aV.length d10] 85)).alloc (.cells #[.int .i64 x.kind, .int .i64 x.aa, .int .i64 x.seq, .int .i64 x.id, .slice a4z x.query.length d4z, .int .i64 x.k, .int .i64 x.start, .int .i64 x.fin, .int .i64 x.place, .slice a9z x.vec.length d9z, .slice a10z x.aV.length d10z] 85)) w.heap.size := (aK (Nat.le_refl _)).grow _
 have bC : al w.heap.size #[.int .i64 x.kind, .int .i64 x.aa, .int .i64 x.seq, .int .i64 x.id, .slice a4z x.query.length d4z, .int .i64 x.k, .int .i64 x.start, .int .i64 x.fin, .int .i64 x.place, .slice a9z x.vec.length d9z, .slice a10z x.aV.length d10z] 85 ((w.alloc (.cells #[.int .i64 x.kind, .int .i64 x.aa, .int .i64 x.seq, .int .i64 x.id, .slice a4 x.query.length d4, .int .i64 x.k, .int .i64 x.start, .int .i64 x.fin, .int .i64 x.place, .slice a9 x.vec.length d9, .slice a10 x.aV.length d10] 85)).alloc (.cells #[.int .i64 x.kind, .int .i64 x.aa, .int .i64 x.seq, .int .i64 x.id, .slice a4z x.query.length d4z, .int .i64 x.k, .int .i64 x.start, .int .i64 x.fin, .int .i64 x.place, .slice a9z x.vec.length d9z, .slice a10z x.aV.length d10z] 85)) (w.heap.size + 1) := aU (by omega) (by simp)
 go_enter Tryz.func133, Tryz.ntmps133
 go_wp2_with fail
 generalize (w.alloc (.cells #[.int .i64 x.kind, .int .i64 x.aa, .int .i64 x.seq, .int .i64 x.id, .slice a4 x.query.length d4, .int .i64 x.k, .int .i64 x.start, .int .i64 x.fin, .int .i64 x.place, .slice a9 x.vec.length d9, .slice a10 x.aV.length d10] 85)).alloc (.cells #[.int .i64 x.kind, .int .i64 x.aa, .int .i64 x.seq, .int .i64 x.id, .slice a4z x.query.length d4z, .int .i64 x.k, .int .i64 x.start, .int .i64 x.fin, .int .i64 x.place, .slice a9z x.vec.length d9z, .slice a10z x.aV.length d10z] 85) = W0 at *
 replace R4 := R4.af HB0
 replace R4z := R4z.af HB0
 replace R9 := R9.af HB0
 replace R9z := R9z.af HB0
 replace R10 := R10.af HB0
 replace R10z := R10z.af HB0
 refine (dt _ _ x.query _ R4 R4z).mono ?_
 rintro e w1 ⟨rfl, hb⟩
 replace bA := bA.ar hb
 replace bC := bC.ar hb
 replace HB0 := HB0.trans (hb.mono HB0.size)
 replace R9 := R9.af hb
 replace R9z := R9z.af hb
 replace R10 := R10.af hb
 replace R10z := R10z.af hb
 have p5 := bA.at 5 _ rfl
 have q5 := bC.at 5 _ rfl
 have p6 := bA.at 6 _ rfl
 have q6 := bC.at 6 _ rfl
 have p7 := bA.at 7 _ rfl
 have q7 := bC.at 7 _ rfl
 have p8 := bA.at 8 _ rfl
 have q8 := bC.at 8 _ rfl
 have p9 := bA.at 9 _ rfl
 have q9 := bC.at 9 _ rfl
 have p10 := bA.at 10 _ rfl
 have q10 := bC.at 10 _ rfl
 clear hb
 have HB := yh HB0
 have HA := yh bA
 have HC := yh bC
 clear HB0 bA bC
 have S9 := yh R9
 have S9z := yh R9z
 clear R9 R9z
 have S10 := yh R10
 have S10z := yh R10z
 clear R10 R10z
 go_wp2_with fail
 have HB0 := uh HB
 have bA := uh HA
 have bC := uh HC
 clear HB HA HC
 clear p5 q5
 clear p6 q6
 clear p7 q7
 clear p8 q8
 clear p9 q9
 clear p10 q10
 have R9 := uh S9
 have R9z := uh S9z
 clear S9 S9z
 have R10 := uh S10
 have R10z := uh S10z
 clear S10 S10z
 refine (dt _ _ x.vec _ R9 R9z).mono ?_
 rintro e w2 ⟨rfl, hb⟩
 replace bA := bA.ar hb
 replace bC := bC.ar hb
 replace HB0 := HB0.trans (hb.mono HB0.size)
 replace R10 := R10.af hb
 replace R10z := R10z.af hb
 have p10 := bA.at 10 _ rfl
 have q10 := bC.at 10 _ rfl
 clear hb
 have HB := yh HB0
 have HA := yh bA
 have HC := yh bC
 clear HB0 bA bC
 have S10 := yh R10
 have S10z := yh R10z
 clear R10 R10z
 go_wp2_with fail
 have HB0 := uh HB
 have bA := uh HA
 have bC := uh HC
 clear HB HA HC
 clear p10 q10
 have R10 := uh S10
 have R10z := uh S10z
 clear S10 S10z
 refine (lh _ _ x.aV _ R10 R10z).mono ?_
 rintro e w3 ⟨rfl, hb⟩
 replace bA := bA.ar hb
 replace bC := bC.ar hb
 replace HB0 := HB0.trans (hb.mono HB0.size)
 clear hb
 have HB := yh HB0
 have HA := yh bA
 have HC := yh bC
 clear HB0 bA bC
 go_wp2_with fail
 go_ret
 exact ⟨rfl, uh HB⟩
theorem jF (v v2 : Value) (xs : List bN) (w : World) (h : (ad.sl ad.aL).Reads w [v] xs) (h2 : (ad.sl ad.aL).Reads w [v2] xs) :
  Calls Tryz.prog 65 #[v, v2] w fun e w' => e = .returned (.bool true) ∧ Below w.heap.size w w' := by
 have hbig := h.db
 obtain ⟨ao, cap, rfl⟩ := aC h
 obtain ⟨ao2, cap2, rfl⟩ := aC h2
 by_cases hp : 0 < xs.length
 ·
  obtain ⟨b, off, rfl, hbl⟩ := ad.aI h hp
  obtain ⟨b2, off2, rfl, hbl2⟩ := ad.aI h2 hp
  have H := yh h
  have H2 := yh h2
  clear h h2
  go_enter Tryz.func65, Tryz.ntmps65
  go_wp2_with fail
  go_loopw [5] (fun i wr => ∃ k : Nat, k ≤ xs.length ∧ i = .int .i64 k ∧ Below w.heap.size w wr) (fun i _ => xs.length - (intOf i).toNat)
  case atStart => exact ⟨0, Nat.zero_le _, rfl, Below.refl _ _⟩
  case round =>
   obtain ⟨k, hk, rfl, hB⟩ := hrel
   by_cases hlt : k < xs.length
   ·
    obtain ⟨row, hc, hr⟩ := ad.aY (uh H) hlt
    obtain ⟨rowz, hcz, hrz⟩ := ad.aY (uh H2) hlt
    have hr2 := hr
    obtain ⟨a4, d4, a9, d9, a10, d10, rfl, -, -, -⟩ := bu hr2
    have hrz2 := hrz
    obtain ⟨a4z, d4z, a9z, d9z, a10z, d10z, rfl, -, -, -⟩ := bu hrz2
    have c0 : w.cell? ⟨b, off + k * 11, none⟩ = some (.int .i64 (xs[k]).kind) := ((Below.refl w.heap.size w).cell (p := ⟨b, off + k * 11, none⟩) hbl).trans (hc 0 (by decide))
    have c1 : w.cell? ⟨b, off + k * 11 + 1, none⟩ = some (.int .i64 (xs[k]).aa) := ((Below.refl w.heap.size w).cell (p := ⟨b, off + k * 11 + 1, none⟩) hbl).trans (hc 1 (by decide))
    have c2 : w.cell? ⟨b, off + k * 11 + 2, none⟩ = some (.int .i64 (xs[k]).seq) := ((Below.refl w.heap.size w).cell (p := ⟨b, off + k * 11 + 2, none⟩) hbl).trans (hc 2 (by decide))
    have c3 : w.cell? ⟨b, off + k * 11 + 3, none⟩ = some (.int .i64 (xs[k]).id) := ((Below.refl w.heap.size w).cell (p := ⟨b, off + k * 11 + 3, none⟩) hbl).trans (hc 3 (by decide))
    have c4 : w.cell? ⟨b, off + k * 11 + 4, none⟩ = some (.slice a4 (xs[k]).query.length d4) := ((Below.refl w.heap.size w).cell (p := ⟨b, off + k * 11 + 4, none⟩) hbl).trans (hc 4 (by decide))
    have c5 : w.cell? ⟨b, off + k * 11 + 5, none⟩ = some (.int .i64 (xs[k]).k) := ((Below.refl w.heap.size w).cell (p := ⟨b, off + k * 11 + 5, none⟩) hbl).trans (hc 5 (by decide))
    have c6 : w.cell? ⟨b, off + k * 11 + 6, none⟩ = some (.int .i64 (xs[k]).start) := ((Below.refl w.heap.size w).cell (p := ⟨b, off + k * 11 + 6, none⟩) hbl).trans (hc 6 (by decide))
    have c7 : w.cell? ⟨b, off + k * 11 + 7, none⟩ = some (.int .i64 (xs[k]).fin) := ((Below.refl w.heap.size w).cell (p := ⟨b, off + k * 11 + 7, none⟩) hbl).trans (hc 7 (by decide))
    have c8 : w.cell? ⟨b, off + k * 11 + 8, none⟩ = some (.int .i64 (xs[k]).place) := ((Below.refl w.heap.size w).cell (p := ⟨b, off + k * 11 + 8, none⟩) hbl).trans (hc 8 (by decide))
    have c9 : w.cell? ⟨b, off + k * 11 + 9, none⟩ = some (.slice a9 (xs[k]).vec.length d9) := ((Below.refl w.heap.size w).cell (p := ⟨b, off + k * 11 + 9, none⟩) hbl).trans (hc 9 (by decide))
    have c10 : w.cell? ⟨b, off + k * 11 + 10, none⟩ = some (.slice a10 (xs[k]).aV.length d10) := ((Below.refl w.heap.size w).cell (p := ⟨b, off + k * 11 + 10, none⟩) hbl).trans (hc 10 (by decide))
    have c0z : w.cell? ⟨b2, off2 + k * 11, none⟩ = some (.int .i64 (xs[k]).kind) := ((Below.refl w.heap.size w).cell (p := ⟨b2, off2 + k * 11, none⟩) hbl2).trans (hcz 0 (by decide))
    have c1z : w.cell? ⟨b2, off2 + k * 11 + 1, none⟩ = some (.int .i64 (xs[k]).aa) := ((Below.refl w.heap.size w).cell (p := ⟨b2, off2 + k * 11 + 1, none⟩) hbl2).trans (hcz 1 (by decide))
    have c2z : w.cell? ⟨b2, off2 + k * 11 + 2, none⟩ = some (.int .i64 (xs[k]).seq) := ((Below.refl w.heap.size w).cell (p := ⟨b2, off2 + k * 11 + 2, none⟩) hbl2).trans (hcz 2 (by decide))
    have c3z : w.cell? ⟨b2, off2 + k * 11 + 3, none⟩ = some (.int .i64 (xs[k]).id) := ((Below.refl w.heap.size w).cell (p := ⟨b2, off2 + k * 11 + 3, none⟩) hbl2).trans (hcz 3 (by decide))
    have c4z : w.cell? ⟨b2, off2 + k * 11 + 4, none⟩ = some (.slice a4z (xs[k]).query.length d4z) := ((Below.refl w.heap.size w).cell (p := ⟨b2, off2 + k * 11 + 4, none⟩) hbl2).trans (hcz 4 (by decide))
    have c5z : w.cell? ⟨b2, off2 + k * 11 + 5, none⟩ = some (.int .i64 (xs[k]).k) := ((Below.refl w.heap.size w).cell (p := ⟨b2, off2 + k * 11 + 5, none⟩) hbl2).trans (hcz 5 (by decide))
    have c6z : w.cell? ⟨b2, off2 + k * 11 + 6, none⟩ = some (.int .i64 (xs[k]).start) := ((Below.refl w.heap.size w).cell (p := ⟨b2, off2 + k * 11 + 6, none⟩) hbl2).trans (hcz 6 (by decide))
    have c7z : w.cell? ⟨b2, off2 + k * 11 + 7, none⟩ = some (.int .i64 (xs[k]).fin) := ((Below.refl w.heap.size w).cell (p := ⟨b2, off2 + k * 11 + 7, none⟩) hbl2).trans (hcz 7 (by decide))
    have c8z : w.cell? ⟨b2, off2 + k * 11 + 8, none⟩ = some (.int .i64 (xs[k]).place) := ((Below.refl w.heap.size w).cell (p := ⟨b2, off2 + k * 11 + 8, none⟩) hbl2).trans (hcz 8 (by decide))
    have c9z : w.cell? ⟨b2, off2 + k * 11 + 9, none⟩ = some (.slice a9z (xs[k]).vec.length d9z) := ((Below.refl w.heap.size w).cell (p := ⟨b2, off2 + k * 11 + 9, none⟩) hbl2).trans (hcz 9 (by decide))
    have c10z : w.cell? ⟨b2, off2 + k * 11 + 10, none⟩ = some (.slice a10z (xs[k]).aV.length d10z) := ((Below.refl w.heap.size w).cell (p := ⟨b2, off2 + k * 11 + 10, none⟩) hbl2).trans (hcz 10 (by decide))
    clear hc hcz
    have HR := yh hr
    have HRZ := yh hrz
    clear hr hrz
    have HB := yh hB
    clear hB
    generalize hxk : xs[k] = x at *
    clear hxk
    have i1 : (0 : Int) ≤ (k : Int) := by omega
    have i2 : (k : Int) < (xs.length : Int) := by omega
    go_wp2_with fail
    refine wZz (fun w' => Below w.heap.size w w') (uh HB).drew (fun zq => ?_)
    generalize wr.drew = wD at zq ⊢
    refine tkH 0 zq ?_
    refine tkH 1 zq ?_
    refine tkH 2 zq ?_
    refine tkJ 3 (v := ?v3) ?h3 zq ?r3
    case h3 =>
     intro wS hSw
     have y0 := cZ hSw hbl c0
     have y1 := cZ hSw hbl c1
     have y2 := cZ hSw hbl c2
     have y3 := cZ hSw hbl c3
     have y4 := cZ hSw hbl c4
     have y5 := cZ hSw hbl c5
     have y6 := cZ hSw hbl c6
     have y7 := cZ hSw hbl c7
     have y8 := cZ hSw hbl c8
     have y9 := cZ hSw hbl c9
     have y10 := cZ hSw hbl c10
     clear hSw
     exact fZ
    refine tkH 4 zq ?_
    refine tkH 5 zq ?_
    refine tkH 6 zq ?_
    refine tkJ 7 (v := ?v7) ?h7 zq ?r7
    case h7 =>
     intro wS hSw
     have y0z := cZ hSw hbl2 c0z
     have y1z := cZ hSw hbl2 c1z
     have y2z := cZ hSw hbl2 c2z
     have y3z := cZ hSw hbl2 c3z
     have y4z := cZ hSw hbl2 c4z
     have y5z := cZ hSw hbl2 c5z
     have y6z := cZ hSw hbl2 c6z
     have y7z := cZ hSw hbl2 c7z
     have y8z := cZ hSw hbl2 c8z
     have y9z := cZ hSw hbl2 c9z
     have y10z := cZ hSw hbl2 c10z
     clear hSw
     exact fZ
    refine rdH 8 (fun K hK => ?_)
    go_simp
    go_at_call 133
    refine (ks _ _ x _ ((uh HR).af zq) ((uh HRZ).af zq)).mono ?_
    rintro e w3 ⟨rfl, hbw⟩
    try go_wp2_with fail
    refine hK.out _ _ (zq.trans (hbw.mono zq.size)) (fun zq => ?_)
    clear hK K
    try simp only [Act.put, pz, py, px]
    refine tkH 9 zq ?_
    refine dZ ?_
    have HB3 := yh zq
    clear zq c0 c0z c1 c1z c2 c2z c3 c3z c4 c4z c5 c5z c6 c6z c7 c7z c8 c8z c9 c9z c10 c10z HB
    go_wp2_with fail
    go_roundw
    case rel => exact ⟨k + 1, by omega, by go_num, uh HB3⟩
    case measure => simp [intOf]; omega
   have HB := yh hB
   clear hB
   go_wp2_with fail
   go_ret
   exact ⟨rfl, uh HB⟩
 obtain rfl : xs = [] := List.eq_nil_of_length_eq_zero (by omega)
 clear h h2 hp
 simp only [List.length_nil] at *
 go_enter Tryz.func65, Tryz.ntmps65
 go_wp2_with fail
 refine wp_loop_rounds 1 ?_
 rw [rounds_succ]
 go_wp2_with fail
 go_ret
 exact ⟨rfl, Below.refl _ _⟩
theorem kr (cs cs2 : List Value) (x : aM) (w : World) (h : ad.aW.Reads w cs x) (h2 : ad.aW.Reads w cs2 x) :
  Calls Tryz.prog 16 #[.agg cs.toArray, .agg cs2.toArray] w fun e w' => e = .returned (.bool true) ∧ Below w.heap.size w w' := by
 obtain ⟨a3, d3, a4, d4, a5, d5, a6, d6, rfl, R2, R4, R5, R6⟩ := aE h
 obtain ⟨a3z, d3z, a4z, d4z, a5z, d5z, a6z, d6z, rfl, R2z, R4z, R5z, R6z⟩ := aE h2
 clear h h2
 have e0 : (x.now != x.now) = false := by simp
 have e1 : (x.events != x.events) = false := by simp
 have e2 : (x.chain.ab != x.chain.ab) = false := by simp
 have HB0 : Below w.heap.size w ((w.alloc (.cells #[.int .i64 x.now, .int .i64 x.events, .int .i64 x.chain.ab, .slice a3 x.chain.ids.length d3, .slice a4 x.nodes.length d4, .slice a5 x.msgs.length d5, .slice a6 x.ae.length d6] 37)).alloc (.cells #[.int .i64 x.now, .int .i64 x.events, .int .i64 x.chain.ab, .slice a3z x.chain.ids.length d3z, .slice a4z x.nodes.length d4z, .slice a5z x.msgs.length d5z, .slice a6z x.ae.length d6z] 37)) := ((Below.refl _ _).alloc (Nat.le_refl _) _).alloc (by simp) _
 have bA : al w.heap.size #[.int .i64 x.now, .int .i64 x.events, .int .i64 x.chain.ab, .slice a3 x.chain.ids.length d3, .slice a4 x.nodes.length d4, .slice a5 x.msgs.length d5, .slice a6 x.ae.length d6] 37 ((w.alloc (.cells #[.int .i64 x.now, .int .i64 x.events, .int .i64 x.chain.ab, .slice a3 x.chain.ids.length d3, .slice a4 x.nodes.length d4, .slice a5 x.msgs.length d5, .slice a6 x.ae.length d6] 37)).alloc (.cells #[.int .i64 x.now, .int .i64 x.events, .int .i64 x.chain.ab, .slice a3z x.chain.ids.length d3z, .slice a4z x.nodes.length d4z, .slice a5z x.msgs.length d5z, .slice a6z x.ae.length d6z] 37)) w.heap.size := (aK (Nat.le_refl _)).grow _
 have bC : al w.heap.size #[.int .i64 x.now, .int .i64 x.events, .int .i64 x.chain.ab, .slice a3z x.chain.ids.length d3z, .slice a4z x.nodes.length d4z, .slice a5z x.msgs.length d5z, .slice a6z x.ae.length d6z] 37 ((w.alloc (.cells #[.int .i64 x.now, .int .i64 x.events, .int .i64 x.chain.ab, .slice a3 x.chain.ids.length d3, .slice a4 x.nodes.length d4, .slice a5 x.msgs.length d5, .slice a6 x.ae.length d6] 37)).alloc (.cells #[.int .i64 x.now, .int .i64 x.events, .int .i64 x.chain.ab, .slice a3z x.chain.ids.length d3z, .slice a4z x.nodes.length d4z, .slice a5z x.msgs.length d5z, .slice a6z x.ae.length d6z] 37)) (w.heap.size + 1) := aU (by omega) (by simp)
 go_enter Tryz.func16, Tryz.ntmps16
 go_wp2_with fail
 generalize (w.alloc (.cells #[.int .i64 x.now, .int .i64 x.events, .int .i64 x.chain.ab, .slice a3 x.chain.ids.length d3, .slice a4 x.nodes.length d4, .slice a5 x.msgs.length d5, .slice a6 x.ae.length d6] 37)).alloc (.cells #[.int .i64 x.now, .int .i64 x.events, .int .i64 x.chain.ab, .slice a3z x.chain.ids.length d3z, .slice a4z x.nodes.length d4z, .slice a5z x.msgs.length d5z, .slice a6z x.ae.length d6z] 37) = W0 at *
 replace R2 := R2.af HB0
 replace R2z := R2z.af HB0
 replace R4 := R4.af HB0
 replace R4z := R4z.af HB0
 replace R5 := R5.af HB0
 replace R5z := R5z.af HB0
 replace R6 := R6.af HB0
 replace R6z := R6z.af HB0
 refine (jW _ _ x.chain _ R2 R2z).mono ?_
 rintro e w1 ⟨rfl, hb⟩
 replace bA := bA.ar hb
 replace bC := bC.ar hb
 replace HB0 := HB0.trans (hb.mono HB0.size)
 replace R4 := R4.af hb
 replace R4z := R4z.af hb
 replace R5 := R5.af hb
 replace R5z := R5z.af hb
 replace R6 := R6.af hb
 replace R6z := R6z.af hb
 have p4 := bA.at 4 _ rfl
 have q4 := bC.at 4 _ rfl
 have p5 := bA.at 5 _ rfl
 have q5 := bC.at 5 _ rfl
 have p6 := bA.at 6 _ rfl
 have q6 := bC.at 6 _ rfl
 clear hb
 have HB := yh HB0
 have HA := yh bA
 have HC := yh bC
 clear HB0 bA bC
 have S4 := yh R4
 have S4z := yh R4z
 clear R4 R4z
 have S5 := yh R5
 have S5z := yh R5z
 clear R5 R5z
 have S6 := yh R6
 have S6z := yh R6z
 clear R6 R6z
 go_wp2_with fail
 have HB0 := uh HB
 have bA := uh HA
 have bC := uh HC
 clear HB HA HC
 clear p4 q4
 clear p5 q5
 clear p6 q6
 have R4 := uh S4
 have R4z := uh S4z
 clear S4 S4z
 have R5 := uh S5
 have R5z := uh S5z
 clear S5 S5z
 have R6 := uh S6
 have R6z := uh S6z
 clear S6 S6z
 refine (kb _ _ x.nodes _ R4 R4z).mono ?_
 rintro e w2 ⟨rfl, hb⟩
 replace bA := bA.ar hb
 replace bC := bC.ar hb
 replace HB0 := HB0.trans (hb.mono HB0.size)
 replace R5 := R5.af hb
 replace R5z := R5z.af hb
 replace R6 := R6.af hb
 replace R6z := R6z.af hb
 have p5 := bA.at 5 _ rfl
 have q5 := bC.at 5 _ rfl
 have p6 := bA.at 6 _ rfl
 have q6 := bC.at 6 _ rfl
 clear hb
 have HB := yh HB0
 have HA := yh bA
 have HC := yh bC
 clear HB0 bA bC
 have S5 := yh R5
 have S5z := yh R5z
 clear R5 R5z
 have S6 := yh R6
 have S6z := yh R6z
 clear R6 R6z
 go_wp2_with fail
 have HB0 := uh HB
 have bA := uh HA
 have bC := uh HC
 clear HB HA HC
 clear p5 q5
 clear p6 q6
 have R5 := uh S5
 have R5z := uh S5z
 clear S5 S5z
 have R6 := uh S6
 have R6z := uh S6z
 clear S6 S6z
 refine (lv _ _ x.msgs _ R5 R5z).mono ?_
 rintro e w3 ⟨rfl, hb⟩
 replace bA := bA.ar hb
 replace bC := bC.ar hb
 replace HB0 := HB0.trans (hb.mono HB0.size)
 replace R6 := R6.af hb
 replace R6z := R6z.af hb
 have p6 := bA.at 6 _ rfl
 have q6 := bC.at 6 _ rfl
 clear hb
 have HB := yh HB0
 have HA := yh bA
 have HC := yh bC
 clear HB0 bA bC
 have S6 := yh R6
 have S6z := yh R6z
 clear R6 R6z
 go_wp2_with fail
 have HB0 := uh HB
 have bA := uh HA
 have bC := uh HC
 clear HB HA HC
 clear p6 q6
 have R6 := uh S6
 have R6z := uh S6z
 clear S6 S6z
 refine (jF _ _ x.ae _ R6 R6z).mono ?_
 rintro e w4 ⟨rfl, hb⟩
 replace bA := bA.ar hb
 replace bC := bC.ar hb
 replace HB0 := HB0.trans (hb.mono HB0.size)
 clear hb
 have HB := yh HB0
 have HA := yh bA
 have HC := yh bC
 clear HB0 bA bC
 go_wp2_with fail
 go_ret
 exact ⟨rfl, uh HB⟩
structure cc where
 code : Int
 value : Int
def ad.bB : ad cc := ad.via (ad.pair ad.int ad.int) (fun x => (x.code, x.value)) (fun p => ⟨p.1, p.2⟩)
theorem bD {w : World} {cs : List Value} {x : cc} {bl : List Nat} : ad.bB.br w cs x bl ↔ cs = [.int .i64 x.code, .int .i64 x.value] ∧ bl = [] ∧ (Lit.int .i64 x.code).wf = true ∧ (Lit.int .i64 x.value).wf = true := by
 constructor
 ·
  intro h
  obtain ⟨c0_, r0_, e0_, s0_, rfl, rfl, h0, h1⟩ := h
  obtain ⟨rfl, w0, rfl⟩ := h0
  obtain ⟨rfl, w1, rfl⟩ := h1
  exact ⟨by simp, by simp, w0, w1⟩
 rintro ⟨rfl, hbl, w0, w1⟩
 rw [hbl]
 exact ⟨[.int .i64 x.code], [.int .i64 x.value], [], [], rfl, by simp, ⟨rfl, w0, rfl⟩, ⟨rfl, w1, rfl⟩⟩
theorem gz (cs cs2 : List Value) (x : cc) (w : World) (h : ad.bB.Reads w cs x) (h2 : ad.bB.Reads w cs2 x) :
  Calls Tryz.prog 38 #[.agg cs.toArray, .agg cs2.toArray] w fun e w' => e = .returned (.bool true) ∧ Below w.heap.size w w' := by
 obtain ⟨bl, h⟩ := h
 obtain ⟨rfl, -⟩ := bD.1 h
 obtain ⟨bl2, h2⟩ := h2
 obtain ⟨rfl, -⟩ := bD.1 h2
 clear h h2
 have e0 : (x.code != x.code) = false := by simp
 have e1 : (x.value != x.value) = false := by simp
 have HB0 : Below w.heap.size w ((w.alloc (.cells #[.int .i64 x.code, .int .i64 x.value] 60)).alloc (.cells #[.int .i64 x.code, .int .i64 x.value] 60)) := ((Below.refl _ _).alloc (Nat.le_refl _) _).alloc (by simp) _
 go_enter Tryz.func38, Tryz.ntmps38
 go_wp2_with fail
 go_ret
 exact ⟨rfl, HB0⟩
theorem gx (u0 : List Value) (x0 : aM) (x1 : Int) (x2 : Int) (y : cc) (w : World) (A0 : ad.aW.Reads w u0 x0) (NS : ad.aW.sz x0 ≤ 1048576)
  (hS : ∀ (W : World) (u0 : List Value), ad.aW.Reads W u0 x0 → Calls Tryz.prog 39 #[.agg u0.toArray, .int .i64 x1, .int .i64 x2] W fun e w' => ∃ cs, e = .returned (.agg cs.toArray) ∧ ad.bB.Reads w' cs y ∧ Below W.heap.size W w')
  (hI : ∀ (W : World) (u0 : List Value), ad.aW.Reads W u0 x0 → Calls Tryz.prog 40 #[.agg u0.toArray, .int .i64 x1, .int .i64 x2] W fun e w' => ∃ cs, e = .returned (.agg cs.toArray) ∧ ad.bB.aT w' cs y W.heap.size w'.heap.size ∧ Below W.heap.size W w') :
  Calls Tryz.prog 10 #[.agg u0.toArray, .int .i64 x1, .int .i64 x2] w fun e w' => e = .returned (.bool true) ∧ Below w.heap.size w w' := by
 obtain ⟨a3p0, d3p0, a4p0, d4p0, a5p0, d5p0, a6p0, d6p0, rfl, -, -, -, -⟩ := aE A0
 have HS := yh hS
 have HI := yh hI
 clear hS hI
 have HA0 := yh A0.cm
 clear A0
 have N0 : ad.aW.sz x0 ≤ 1048576 := by omega
 have HN0 := yh N0
 clear N0
 have HNS := yh NS
 clear NS
 have HB := yh (Below.refl w.heap.size w)
 go_enter Tryz.func10, Tryz.ntmps10
 go_wp2_with fail
 have nb : Below w.heap.size w (w.alloc (.cells #[.int .i64 x0.now, .int .i64 x0.events, .int .i64 x0.chain.ab, .slice a3p0 x0.chain.ids.length d3p0, .slice a4p0 x0.nodes.length d4p0, .slice a5p0 x0.msgs.length d5p0, .slice a6p0 x0.ae.length d6p0] 29)) := (Below.refl w.heap.size w).alloc (Nat.le_refl _) _
 have P0 : Hid (al w.heap.size #[.int .i64 x0.now, .int .i64 x0.events, .int .i64 x0.chain.ab, .slice a3p0 x0.chain.ids.length d3p0, .slice a4p0 x0.nodes.length d4p0, .slice a5p0 x0.msgs.length d5p0, .slice a6p0 x0.ae.length d6p0] 29 (w.alloc (.cells #[.int .i64 x0.now, .int .i64 x0.events, .int .i64 x0.chain.ab, .slice a3p0 x0.chain.ids.length d3p0, .slice a4p0 x0.nodes.length d4p0, .slice a5p0 x0.msgs.length d5p0, .slice a6p0 x0.ae.length d6p0] 29)) (w.heap.size)) := aU (by omega) (by simp)
 generalize haw1 : (w.alloc (.cells #[.int .i64 x0.now, .int .i64 x0.events, .int .i64 x0.chain.ab, .slice a3p0 x0.chain.ids.length d3p0, .slice a4p0 x0.nodes.length d4p0, .slice a5p0 x0.msgs.length d5p0, .slice a6p0 x0.ae.length d6p0] 29)) = w1 at *
 have Gw1 : w.heap.size + 1 ≤ w1.heap.size := by rw [← haw1]; simp
 clear haw1
 replace HA0 := yh ((uh HA0).af nb)
 have Zw1 : w.heap.size ≤ w1.heap.size := nb.size
 replace HB := yh ((uh HB).trans (nb.mono (by omega)))
 clear nb
 have hns := uh HNS
 refine (gP _ x0 (1048576) w1 (uh HA0).reads (by omega)).mono ?_
 rintro e w2 ⟨rfl, hb⟩
 replace HA0 := yh ((uh HA0).af hb)
 replace P0 := yh ((uh P0).ar hb)
 have Zw2 : w1.heap.size ≤ w2.heap.size := hb.size
 replace HB := yh ((uh HB).trans (hb.mono (by omega)))
 clear hb
 rw [a8 (by omega)]
 have hq0 : decide (((1048576 - ad.aW.sz x0 : Nat) : Int) < 0) = false := by simp
 clear hns
 have l0P0 := (uh P0).at 0 _ rfl
 have l1P0 := (uh P0).at 1 _ rfl
 have l2P0 := (uh P0).at 2 _ rfl
 have l3P0 := (uh P0).at 3 _ rfl
 have l4P0 := (uh P0).at 4 _ rfl
 have l5P0 := (uh P0).at 5 _ rfl
 have l6P0 := (uh P0).at 6 _ rfl
 have ltP0 : w.heap.size < w2.heap.size := by omega
 simp only [ga, gb, gc] at l0P0 l1P0 l2P0 l3P0 l4P0 l5P0 l6P0
 go_wp2_with fail
 clear l0P0 l1P0 l2P0 l3P0 l4P0 l5P0 l6P0 ltP0
 clear hq0
 refine (fx _ x0 w2 (uh HA0).reads (uh HN0)).mono ?_
 rintro e w3 ⟨vc0, rfl, O, hb⟩
 replace HA0 := yh ((uh HA0).af hb)
 replace P0 := yh ((uh P0).ar hb)
 have Zw3 : w2.heap.size ≤ w3.heap.size := hb.size
 replace HB := yh ((uh HB).trans (hb.mono (by omega)))
 clear hb
 obtain ⟨a3c0, d3c0, a4c0, d4c0, a5c0, d5c0, a6c0, d6c0, rfl, -, -, -, -⟩ := aE O.reads
 have Hc0 := yh O
 clear O
 have l0P0 := (uh P0).at 0 _ rfl
 have l1P0 := (uh P0).at 1 _ rfl
 have l2P0 := (uh P0).at 2 _ rfl
 have l3P0 := (uh P0).at 3 _ rfl
 have l4P0 := (uh P0).at 4 _ rfl
 have l5P0 := (uh P0).at 5 _ rfl
 have l6P0 := (uh P0).at 6 _ rfl
 have ltP0 : w.heap.size < w3.heap.size := by omega
 simp only [ga, gb, gc] at l0P0 l1P0 l2P0 l3P0 l4P0 l5P0 l6P0
 go_wp2_with fail
 clear l0P0 l1P0 l2P0 l3P0 l4P0 l5P0 l6P0 ltP0
 refine (uh HS w3 _ (uh Hc0).reads).mono ?_
 rintro e w4 ⟨cs, rfl, O, hb⟩
 replace HA0 := yh ((uh HA0).af hb)
 replace P0 := yh ((uh P0).ar hb)
 replace Hc0 := yh ((uh Hc0).af hb)
 have Zw4 : w3.heap.size ≤ w4.heap.size := hb.size
 replace HB := yh ((uh HB).trans (hb.mono (by omega)))
 clear hb
 obtain ⟨bl, O⟩ := O
 obtain ⟨rfl, -⟩ := bD.1 O
 have HW := yh (ad.Reads.cm ⟨_, O⟩)
 clear O
 have nb : Below w4.heap.size w4 (w4.alloc (.cells #[.int .i64 y.code, .int .i64 y.value] 60)) := (Below.refl _ _).alloc (Nat.le_refl _) _
 have YW : Hid (al w4.heap.size #[.int .i64 y.code, .int .i64 y.value] 60 (w4.alloc (.cells #[.int .i64 y.code, .int .i64 y.value] 60)) w4.heap.size) := aK (Nat.le_refl _)
 clear Hc0
 have l0P0 := (uh P0).at 0 _ rfl
 have l1P0 := (uh P0).at 1 _ rfl
 have l2P0 := (uh P0).at 2 _ rfl
 have l3P0 := (uh P0).at 3 _ rfl
 have l4P0 := (uh P0).at 4 _ rfl
 have l5P0 := (uh P0).at 5 _ rfl
 have l6P0 := (uh P0).at 6 _ rfl
 have ltP0 : w.heap.size < w4.heap.size := by omega
 simp only [ga, gb, gc] at l0P0 l1P0 l2P0 l3P0 l4P0 l5P0 l6P0
 go_wp2_with fail
 clear l0P0 l1P0 l2P0 l3P0 l4P0 l5P0 l6P0 ltP0
 generalize haw5 : w4.alloc (.cells #[.int .i64 y.code, .int .i64 y.value] 60) = w5 at *
 have Gw5 : w4.heap.size < w5.heap.size := by rw [← haw5]; simp
 clear haw5
 replace HA0 := yh ((uh HA0).af nb)
 replace P0 := yh ((uh P0).ar nb)
 replace HW := yh ((uh HW).af nb)
 have Zw5 : w4.heap.size ≤ w5.heap.size := nb.size
 replace HB := yh ((uh HB).trans (nb.mono (by omega)))
 clear nb
 refine (fx _ x0 w5 (uh HA0).reads (uh HN0)).mono ?_
 rintro e w6 ⟨vx0, rfl, O, hb⟩
 replace HA0 := yh ((uh HA0).af hb)
 replace P0 := yh ((uh P0).ar hb)
 replace HW := yh ((uh HW).af hb)
 replace YW := yh ((uh YW).ar hb)
 have Zw6 : w5.heap.size ≤ w6.heap.size := hb.size
 replace HB := yh ((uh HB).trans (hb.mono (by omega)))
 clear hb
 obtain ⟨a3x0, d3x0, a4x0, d4x0, a5x0, d5x0, a6x0, d6x0, rfl, -, -, -, -⟩ := aE O.reads
 have Hx0 := yh O
 clear O
 have nb : Below w6.heap.size w6 (w6.alloc (.cells #[.int .i64 x0.now, .int .i64 x0.events, .int .i64 x0.chain.ab, .slice a3x0 x0.chain.ids.length d3x0, .slice a4x0 x0.nodes.length d4x0, .slice a5x0 x0.msgs.length d5x0, .slice a6x0 x0.ae.length d6x0] 37)) := (Below.refl _ _).alloc (Nat.le_refl _) _
 have X0 : Hid (al w6.heap.size #[.int .i64 x0.now, .int .i64 x0.events, .int .i64 x0.chain.ab, .slice a3x0 x0.chain.ids.length d3x0, .slice a4x0 x0.nodes.length d4x0, .slice a5x0 x0.msgs.length d5x0, .slice a6x0 x0.ae.length d6x0] 37 (w6.alloc (.cells #[.int .i64 x0.now, .int .i64 x0.events, .int .i64 x0.chain.ab, .slice a3x0 x0.chain.ids.length d3x0, .slice a4x0 x0.nodes.length d4x0, .slice a5x0 x0.msgs.length d5x0, .slice a6x0 x0.ae.length d6x0] 37)) w6.heap.size) := aK (Nat.le_refl _)
 have l0P0 := (uh P0).at 0 _ rfl
 have l1P0 := (uh P0).at 1 _ rfl
 have l2P0 := (uh P0).at 2 _ rfl
 have l3P0 := (uh P0).at 3 _ rfl
 have l4P0 := (uh P0).at 4 _ rfl
 have l5P0 := (uh P0).at 5 _ rfl
 have l6P0 := (uh P0).at 6 _ rfl
 have ltP0 : w.heap.size < w6.heap.size := by omega
 have l0YW := (uh YW).at 0 _ rfl
 have l1YW := (uh YW).at 1 _ rfl
 have ltYW : w4.heap.size < w6.heap.size := by omega
 simp only [ga, gb, gc] at l0P0 l1P0 l2P0 l3P0 l4P0 l5P0 l6P0 l0YW l1YW
 go_wp2_with fail
 clear l0P0 l1P0 l2P0 l3P0 l4P0 l5P0 l6P0 ltP0 l0YW l1YW ltYW
 generalize haw7 : w6.alloc (.cells #[.int .i64 x0.now, .int .i64 x0.events, .int .i64 x0.chain.ab, .slice a3x0 x0.chain.ids.length d3x0, .slice a4x0 x0.nodes.length d4x0, .slice a5x0 x0.msgs.length d5x0, .slice a6x0 x0.ae.length d6x0] 37) = w7 at *
 have Gw7 : w6.heap.size < w7.heap.size := by rw [← haw7]; simp
 clear haw7
 replace HA0 := yh ((uh HA0).af nb)
 replace P0 := yh ((uh P0).ar nb)
 replace HW := yh ((uh HW).af nb)
 replace YW := yh ((uh YW).ar nb)
 replace Hx0 := yh ((uh Hx0).af nb)
 have Zw7 : w6.heap.size ≤ w7.heap.size := nb.size
 replace HB := yh ((uh HB).trans (nb.mono (by omega)))
 clear nb
 refine (uh HI w7 _ (uh Hx0).reads).mono ?_
 rintro e w8 ⟨cs, rfl, O, hb⟩
 replace HA0 := yh ((uh HA0).af hb)
 replace P0 := yh ((uh P0).ar hb)
 replace HW := yh ((uh HW).af hb)
 replace YW := yh ((uh YW).ar hb)
 replace Hx0 := yh ((uh Hx0).af hb)
 replace X0 := yh ((uh X0).ar hb)
 have Zw8 : w7.heap.size ≤ w8.heap.size := hb.size
 replace HB := yh ((uh HB).trans (hb.mono (by omega)))
 clear hb
 obtain ⟨bl, O⟩ := O.reads
 obtain ⟨rfl, -⟩ := bD.1 O
 have HG := yh (ad.Reads.cm ⟨_, O⟩)
 clear O
 have nb : Below w8.heap.size w8 (w8.alloc (.cells #[.int .i64 y.code, .int .i64 y.value] 60)) := (Below.refl _ _).alloc (Nat.le_refl _) _
 have YG : Hid (al w8.heap.size #[.int .i64 y.code, .int .i64 y.value] 60 (w8.alloc (.cells #[.int .i64 y.code, .int .i64 y.value] 60)) w8.heap.size) := aK (Nat.le_refl _)
 have l0P0 := (uh P0).at 0 _ rfl
 have l1P0 := (uh P0).at 1 _ rfl
 have l2P0 := (uh P0).at 2 _ rfl
 have l3P0 := (uh P0).at 3 _ rfl
 have l4P0 := (uh P0).at 4 _ rfl
 have l5P0 := (uh P0).at 5 _ rfl
 have l6P0 := (uh P0).at 6 _ rfl
 have ltP0 : w.heap.size < w8.heap.size := by omega
 have l0YW := (uh YW).at 0 _ rfl
 have l1YW := (uh YW).at 1 _ rfl
 have ltYW : w4.heap.size < w8.heap.size := by omega
 have l0X0 := (uh X0).at 0 _ rfl
 have l1X0 := (uh X0).at 1 _ rfl
 have l2X0 := (uh X0).at 2 _ rfl
 have l3X0 := (uh X0).at 3 _ rfl
 have l4X0 := (uh X0).at 4 _ rfl
 have l5X0 := (uh X0).at 5 _ rfl
 have l6X0 := (uh X0).at 6 _ rfl
 have ltX0 : w6.heap.size < w8.heap.size := by omega
 simp only [ga, gb, gc] at l0P0 l1P0 l2P0 l3P0 l4P0 l5P0 l6P0 l0YW l1YW l0X0 l1X0 l2X0 l3X0 l4X0 l5X0 l6X0
 go_wp2_with fail
 clear l0P0 l1P0 l2P0 l3P0 l4P0 l5P0 l6P0 ltP0 l0YW l1YW ltYW l0X0 l1X0 l2X0 l3X0 l4X0 l5X0 l6X0 ltX0
 generalize haw9 : w8.alloc (.cells #[.int .i64 y.code, .int .i64 y.value] 60) = w9 at *
 have Gw9 : w8.heap.size < w9.heap.size := by rw [← haw9]; simp
 clear haw9
 replace HA0 := yh ((uh HA0).af nb)
 replace P0 := yh ((uh P0).ar nb)
 replace HW := yh ((uh HW).af nb)
 replace YW := yh ((uh YW).ar nb)
 replace Hx0 := yh ((uh Hx0).af nb)
 replace X0 := yh ((uh X0).ar nb)
 replace HG := yh ((uh HG).af nb)
 have Zw9 : w8.heap.size ≤ w9.heap.size := nb.size
 replace HB := yh ((uh HB).trans (nb.mono (by omega)))
 clear nb
 refine (gz _ _ y w9 (uh HG).reads (uh HW).reads).mono ?_
 rintro e w10 ⟨rfl, hb⟩
 replace HA0 := yh ((uh HA0).af hb)
 replace P0 := yh ((uh P0).ar hb)
 replace HW := yh ((uh HW).af hb)
 replace YW := yh ((uh YW).ar hb)
 replace Hx0 := yh ((uh Hx0).af hb)
 replace X0 := yh ((uh X0).ar hb)
 replace HG := yh ((uh HG).af hb)
 replace YG := yh ((uh YG).ar hb)
 have Zw10 : w9.heap.size ≤ w10.heap.size := hb.size
 replace HB := yh ((uh HB).trans (hb.mono (by omega)))
 clear hb
 have l0P0 := (uh P0).at 0 _ rfl
 have l1P0 := (uh P0).at 1 _ rfl
 have l2P0 := (uh P0).at 2 _ rfl
 have l3P0 := (uh P0).at 3 _ rfl
 have l4P0 := (uh P0).at 4 _ rfl
 have l5P0 := (uh P0).at 5 _ rfl
 have l6P0 := (uh P0).at 6 _ rfl
 have ltP0 : w.heap.size < w10.heap.size := by omega
 have l0YW := (uh YW).at 0 _ rfl
 have l1YW := (uh YW).at 1 _ rfl
 have ltYW : w4.heap.size < w10.heap.size := by omega
 have l0X0 := (uh X0).at 0 _ rfl
 have l1X0 := (uh X0).at 1 _ rfl
 have l2X0 := (uh X0).at 2 _ rfl
 have l3X0 := (uh X0).at 3 _ rfl
 have l4X0 := (uh X0).at 4 _ rfl
 have l5X0 := (uh X0).at 5 _ rfl
 have l6X0 := (uh X0).at 6 _ rfl
 have ltX0 : w6.heap.size < w10.heap.size := by omega
 have l0YG := (uh YG).at 0 _ rfl
 have l1YG := (uh YG).at 1 _ rfl
 have ltYG : w8.heap.size < w10.heap.size := by omega
 simp only [ga, gb, gc] at l0P0 l1P0 l2P0 l3P0 l4P0 l5P0 l6P0 l0YW l1YW l0X0 l1X0 l2X0 l3X0 l4X0 l5X0 l6X0 l0YG l1YG
 go_wp2_with fail
 clear l0P0 l1P0 l2P0 l3P0 l4P0 l5P0 l6P0 ltP0 l0YW l1YW ltYW l0X0 l1X0 l2X0 l3X0 l4X0 l5X0 l6X0 ltX0 l0YG l1YG ltYG
 have l0P0 := (uh P0).at 0 _ rfl
 have l1P0 := (uh P0).at 1 _ rfl
 have l2P0 := (uh P0).at 2 _ rfl
 have l3P0 := (uh P0).at 3 _ rfl
 have l4P0 := (uh P0).at 4 _ rfl
 have l5P0 := (uh P0).at 5 _ rfl
 have l6P0 := (uh P0).at 6 _ rfl
 have ltP0 : w.heap.size < w10.heap.size := by omega
 have l0X0 := (uh X0).at 0 _ rfl
 have l1X0 := (uh X0).at 1 _ rfl
 have l2X0 := (uh X0).at 2 _ rfl
 have l3X0 := (uh X0).at 3 _ rfl
 have l4X0 := (uh X0).at 4 _ rfl
 have l5X0 := (uh X0).at 5 _ rfl
 have l6X0 := (uh X0).at 6 _ rfl
 have ltX0 : w6.heap.size < w10.heap.size := by omega
 simp only [ga, gb, gc] at l0P0 l1P0 l2P0 l3P0 l4P0 l5P0 l6P0 l0X0 l1X0 l2X0 l3X0 l4X0 l5X0 l6X0
 refine wZz (fun w' => Below w10.heap.size w10 w') (Below.refl _ _).drew (fun zq => ?_)
 generalize w10.drew = wD at zq ⊢
 refine tkJ 0 (v := ?vs00) ?hs00 zq ?rs00
 case hs00 =>
  intro wS hSw
  have y0P0 := cZ hSw ltP0 l0P0
  have y1P0 := cZ hSw ltP0 l1P0
  have y2P0 := cZ hSw ltP0 l2P0
  have y3P0 := cZ hSw ltP0 l3P0
  have y4P0 := cZ hSw ltP0 l4P0
  have y5P0 := cZ hSw ltP0 l5P0
  have y6P0 := cZ hSw ltP0 l6P0
  have y0X0 := cZ hSw ltX0 l0X0
  have y1X0 := cZ hSw ltX0 l1X0
  have y2X0 := cZ hSw ltX0 l2X0
  have y3X0 := cZ hSw ltX0 l3X0
  have y4X0 := cZ hSw ltX0 l4X0
  have y5X0 := cZ hSw ltX0 l5X0
  have y6X0 := cZ hSw ltX0 l6X0
  clear hSw
  exact fZ
 refine tkJ 1 (v := ?vs01) ?hs01 zq ?rs01
 case hs01 =>
  intro wS hSw
  have y0P0 := cZ hSw ltP0 l0P0
  have y1P0 := cZ hSw ltP0 l1P0
  have y2P0 := cZ hSw ltP0 l2P0
  have y3P0 := cZ hSw ltP0 l3P0
  have y4P0 := cZ hSw ltP0 l4P0
  have y5P0 := cZ hSw ltP0 l5P0
  have y6P0 := cZ hSw ltP0 l6P0
  have y0X0 := cZ hSw ltX0 l0X0
  have y1X0 := cZ hSw ltX0 l1X0
  have y2X0 := cZ hSw ltX0 l2X0
  have y3X0 := cZ hSw ltX0 l3X0
  have y4X0 := cZ hSw ltX0 l4X0
  have y5X0 := cZ hSw ltX0 l5X0
  have y6X0 := cZ hSw ltX0 l6X0
  clear hSw
  exact fZ
 refine rdH 2 (fun K hK => ?_)
 go_simp
 go_at_call 13
 refine (fx _ x0 _ ((uh HA0).reads.af zq) (uh HN0)).mono ?_
 rintro e wT ⟨vT, rfl, OT, hbw⟩
 have RT := OT.reads
 obtain ⟨a3T, d3T, a4T, d4T, a5T, d5T, a6T, d6T, rfl, -, -, -, -⟩ := aE RT
 try go_wp2_with fail
 refine hK.out _ _ (zq.trans (hbw.mono zq.size)) (fun zq => ?_)
 clear hK K
 try simp only [Act.put, pz, py, px]
 refine rdH 3 (fun K hK => ?_)
 go_simp
 go_at_call 16
 refine (kr _ _ x0 _ ((uh Hx0).reads.af zq) RT).mono ?_
 rintro e wU0 ⟨rfl, hbw⟩
 try go_wp2_with fail
 refine hK.out _ _ (zq.trans (hbw.mono zq.size)) (fun zq => ?_)
 clear hK K
 try simp only [Act.put, pz, py, px]
 refine tkH 4 zq ?_
 refine dZ ?_
 clear l0P0 l1P0 l2P0 l3P0 l4P0 l5P0 l6P0 ltP0 l0X0 l1X0 l2X0 l3X0 l4X0 l5X0 l6X0 ltX0 OT RT
 have hb : Below w10.heap.size w10 wU0 := zq
 clear zq hbw
 replace HA0 := yh ((uh HA0).af hb)
 replace P0 := yh ((uh P0).ar hb)
 replace HW := yh ((uh HW).af hb)
 replace YW := yh ((uh YW).ar hb)
 replace Hx0 := yh ((uh Hx0).af hb)
 replace X0 := yh ((uh X0).ar hb)
 replace HG := yh ((uh HG).af hb)
 replace YG := yh ((uh YG).ar hb)
 have ZwU0 : w10.heap.size ≤ wU0.heap.size := hb.size
 replace HB := yh ((uh HB).trans (hb.mono (by omega)))
 clear hb
 have l0P0 := (uh P0).at 0 _ rfl
 have l1P0 := (uh P0).at 1 _ rfl
 have l2P0 := (uh P0).at 2 _ rfl
 have l3P0 := (uh P0).at 3 _ rfl
 have l4P0 := (uh P0).at 4 _ rfl
 have l5P0 := (uh P0).at 5 _ rfl
 have l6P0 := (uh P0).at 6 _ rfl
 have ltP0 : w.heap.size < wU0.heap.size := by omega
 have l0YW := (uh YW).at 0 _ rfl
 have l1YW := (uh YW).at 1 _ rfl
 have ltYW : w4.heap.size < wU0.heap.size := by omega
 have l0X0 := (uh X0).at 0 _ rfl
 have l1X0 := (uh X0).at 1 _ rfl
 have l2X0 := (uh X0).at 2 _ rfl
 have l3X0 := (uh X0).at 3 _ rfl
 have l4X0 := (uh X0).at 4 _ rfl
 have l5X0 := (uh X0).at 5 _ rfl
 have l6X0 := (uh X0).at 6 _ rfl
 have ltX0 : w6.heap.size < wU0.heap.size := by omega
 have l0YG := (uh YG).at 0 _ rfl
 have l1YG := (uh YG).at 1 _ rfl
 have ltYG : w8.heap.size < wU0.heap.size := by omega
 simp only [ga, gb, gc] at l0P0 l1P0 l2P0 l3P0 l4P0 l5P0 l6P0 l0YW l1YW l0X0 l1X0 l2X0 l3X0 l4X0 l5X0 l6X0 l0YG l1YG
 go_wp2_with fail
 clear l0P0 l1P0 l2P0 l3P0 l4P0 l5P0 l6P0 ltP0 l0YW l1YW ltYW l0X0 l1X0 l2X0 l3X0 l4X0 l5X0 l6X0 ltX0 l0YG l1YG ltYG
 go_ret
 exact ⟨rfl, uh HB⟩
theorem eN (u0 : List Value) (x0 : aM) (x1 : Int) (x2 : Int) (w : World) (A0 : ad.aW.Reads w u0 x0) (NS : 1048576 < ad.aW.sz x0) :
  Calls Tryz.prog 10 #[.agg u0.toArray, .int .i64 x1, .int .i64 x2] w fun e w' => e = .returned (.bool true) ∧ Below w.heap.size w w' := by
 obtain ⟨a3p0, d3p0, a4p0, d4p0, a5p0, d5p0, a6p0, d6p0, rfl, -, -, -, -⟩ := aE A0
 have HA0 := yh A0.cm
 clear A0
 have HB := yh (Below.refl w.heap.size w)
 go_enter Tryz.func10, Tryz.ntmps10
 go_wp2_with fail
 have nb : Below w.heap.size w (w.alloc (.cells #[.int .i64 x0.now, .int .i64 x0.events, .int .i64 x0.chain.ab, .slice a3p0 x0.chain.ids.length d3p0, .slice a4p0 x0.nodes.length d4p0, .slice a5p0 x0.msgs.length d5p0, .slice a6p0 x0.ae.length d6p0] 29)) := (Below.refl w.heap.size w).alloc (Nat.le_refl _) _
 have P0 : Hid (al w.heap.size #[.int .i64 x0.now, .int .i64 x0.events, .int .i64 x0.chain.ab, .slice a3p0 x0.chain.ids.length d3p0, .slice a4p0 x0.nodes.length d4p0, .slice a5p0 x0.msgs.length d5p0, .slice a6p0 x0.ae.length d6p0] 29 (w.alloc (.cells #[.int .i64 x0.now, .int .i64 x0.events, .int .i64 x0.chain.ab, .slice a3p0 x0.chain.ids.length d3p0, .slice a4p0 x0.nodes.length d4p0, .slice a5p0 x0.msgs.length d5p0, .slice a6p0 x0.ae.length d6p0] 29)) (w.heap.size)) := aU (by omega) (by simp)
 generalize haw1 : (w.alloc (.cells #[.int .i64 x0.now, .int .i64 x0.events, .int .i64 x0.chain.ab, .slice a3p0 x0.chain.ids.length d3p0, .slice a4p0 x0.nodes.length d4p0, .slice a5p0 x0.msgs.length d5p0, .slice a6p0 x0.ae.length d6p0] 29)) = w1 at *
 have Gw1 : w.heap.size + 1 ≤ w1.heap.size := by rw [← haw1]; simp
 clear haw1
 replace HA0 := yh ((uh HA0).af nb)
 have Zw1 : w.heap.size ≤ w1.heap.size := nb.size
 replace HB := yh ((uh HB).trans (nb.mono (by omega)))
 clear nb
 refine (gP _ x0 (1048576) w1 (uh HA0).reads (by omega)).mono ?_
 rintro e w2 ⟨rfl, hb⟩
 replace HA0 := yh ((uh HA0).af hb)
 replace P0 := yh ((uh P0).ar hb)
 have Zw2 : w1.heap.size ≤ w2.heap.size := hb.size
 replace HB := yh ((uh HB).trans (hb.mono (by omega)))
 clear hb
 rw [aF (by omega)]
 go_wp2_with fail
 go_ret
 exact ⟨rfl, uh HB⟩
theorem cP (v lo hi : Int) (w : World) :
  Calls Tryz.prog 102 #[.int .i64 v, .int .i64 lo, .int .i64 hi] w fun e w' => e = .returned (.bool (decide (lo ≤ v) && decide (v ≤ hi))) ∧ w' = w := by
 by_cases h1 : lo ≤ v
 ·
  have d1 : decide (lo ≤ v) = true := by simpa using h1
  rw [d1]
  cases d2 : decide (v ≤ hi) <;>
  ·
   go_enter Tryz.func102, Tryz.ntmps102
   go_wp2_with fail
   go_ret
   exact ⟨rfl, rfl⟩
 have d1 : decide (lo ≤ v) = false := by simpa using h1
 rw [d1]
 go_enter Tryz.func102, Tryz.ntmps102
 go_wp2_with fail
 go_ret
 exact ⟨rfl, rfl⟩
theorem lC (x : Int) (w : World) : Calls Tryz.prog 47 #[.int .i64 x] w fun e w' => e = .returned (.bool (decide (1 ≤ x) && decide (x ≤ 999))) ∧ w' = w := by
 go_enter Tryz.func47, Tryz.ntmps47
 go_wp2_with fail
 refine (cP x 1 999 _).mono ?_
 rintro e w1 ⟨rfl, rfl⟩
 go_wp2_with fail
 go_ret
 exact ⟨rfl, rfl⟩
theorem cU (x : Int) (w : World) : Calls Tryz.prog 274 #[.int .i64 x] w fun e w' => e = .returned (.bool (decide (1 ≤ x) && decide (x ≤ 9))) ∧ w' = w := by
 go_enter Tryz.func274, Tryz.ntmps274
 go_wp2_with fail
 refine (cP x 1 9 _).mono ?_
 rintro e w1 ⟨rfl, rfl⟩
 go_wp2_with fail
 go_ret
 exact ⟨rfl, rfl⟩
theorem fF (ao : Option Addr) (n cap : Nat) (w : World) (h : n ≠ 3) :
  Calls Tryz.prog 202 #[.slice ao n cap] w fun e w' => e = .returned (.int .i64 1) ∧ w' = w := by
 have h3 : ((n : Int) != 3) = true := by rw [bne_iff_ne]; omega
 go_enter Tryz.func202, Tryz.ntmps202
 go_wp2
 go_ret
 exact ⟨rfl, rfl⟩
theorem eJ (b off cap : Nat) (zs : List Int) (w : World) (h : zs.length = 3) (hc : ∀ j, j < 3 → w.cell? ⟨b, off + j, none⟩ = some (.int .i64 (zs.getD j 0))) :
  Calls Tryz.prog 202 #[.slice (some ⟨b, off, none⟩) 3 cap] w fun e w' => e = .returned (.int .i64 (aJ zs)) ∧ w' = w := by
 go_enter Tryz.func202, Tryz.ntmps202
 go_wp2
 go_loop [10] (fun i => ∃ k : Nat, k ≤ 3 ∧ i = .int .i64 k ∧ ∀ j, j < k → cw (zs.getD j 0) = true) (fun i => 3 - (intOf i).toNat)
 case atStart => exact ⟨0, Nat.zero_le _, rfl, fun j hj => by omega⟩
 case round =>
  obtain ⟨k, hk, rfl, hg⟩ := hrel
  have HG : Hid (∀ j, j < k → cw (zs.getD j 0) = true) := hg
  have HL : Hid (zs.length = 3) := h
  clear hg h
  by_cases hlt : k < 3
  ·
   have hcx : w.cell? ⟨b, off + k, none⟩ = some (.int .i64 (zs.getD k 0)) := hc k hlt
   obtain ⟨z, hz⟩ : ∃ z, z = zs.getD k 0 := ⟨_, rfl⟩
   rw [← hz] at hcx
   have HZ : Hid (z = zs.getD k 0) := hz
   clear hz hc
   cases hp : cw z with
   | true =>
    have hb := dE hp
    have HP : Hid (cw z = true) := hp
    clear hp
    obtain ⟨hb1, hb2⟩ := hb
    go_wp2
    go_round
    case rel =>
     refine ⟨k + 1, by omega, by go_num, fun j hj => ?_⟩
     by_cases hjk : j < k
     ·
      exact HG.out j hjk
     rw [show j = k by omega, ← HZ.out]; exact HP.out
    case measure => simp [intOf]; omega
   | false =>
    have HV : Hid (aJ zs = 3) := dU HL.out k hlt (by rw [← HZ.out]; exact hp)
    have hb := en hp
    clear hp
    rcases hb with hb | hb
    ·
     go_wp2
     go_ret
     exact ⟨by rw [HV.out]; rfl, rfl⟩
    have hb1 : -1000 ≤ z := by omega
    have hd : decide (z ≤ 1000) = false := by simp; omega
    go_wp2
    go_ret
    exact ⟨by rw [HV.out]; rfl, rfl⟩
  have HV : Hid (aJ zs = 0) := er HL.out (fun j hj => HG.out j (by omega))
  go_wp2
  go_ret
  exact ⟨by rw [HV.out]; rfl, rfl⟩
theorem fg (ao : Option Addr) (n cap : Nat) (w : World) (h : n ≠ 3) :
  Calls Tryz.prog 74 #[.slice ao n cap] w fun e w' => e = .returned (.int .i64 1) ∧ w' = w := by
 have h3 : ((n : Int) != 3) = true := by rw [bne_iff_ne]; omega
 go_enter Tryz.func74, Tryz.ntmps74
 go_wp2
 go_ret
 exact ⟨rfl, rfl⟩
theorem ea (b off cap : Nat) (zs : List Int) (w : World) (h : zs.length = 3) (hc : ∀ j, j < 3 → w.cell? ⟨b, off + j, none⟩ = some (.int .i64 (zs.getD j 0))) :
  Calls Tryz.prog 74 #[.slice (some ⟨b, off, none⟩) 3 cap] w fun e w' => e = .returned (.int .i64 (aJ zs)) ∧ w' = w := by
 go_enter Tryz.func74, Tryz.ntmps74
 go_wp2
 go_loop [3] (fun i => ∃ k : Nat, k ≤ 3 ∧ i = .int .i64 k ∧ ∀ j, j < k → cw (zs.getD j 0) = true) (fun i => 3 - (intOf i).toNat)
 case atStart => exact ⟨0, Nat.zero_le _, rfl, fun j hj => by omega⟩
 case round =>
  obtain ⟨k, hk, rfl, hg⟩ := hrel
  have HG : Hid (∀ j, j < k → cw (zs.getD j 0) = true) := hg
  have HL : Hid (zs.length = 3) := h
  clear hg h
  by_cases hlt : k < 3
  ·
   have hcx : w.cell? ⟨b, off + k, none⟩ = some (.int .i64 (zs.getD k 0)) := hc k hlt
   obtain ⟨z, hz⟩ : ∃ z, z = zs.getD k 0 := ⟨_, rfl⟩
   rw [← hz] at hcx
   have HZ : Hid (z = zs.getD k 0) := hz
   clear hz hc
   cases hp : cw z with
   | true =>
    have hb := dE hp
    have HP : Hid (cw z = true) := hp
    clear hp
    obtain ⟨hb1, hb2⟩ := hb
    go_wp2
    go_round
    case rel =>
     refine ⟨k + 1, by omega, by go_num, fun j hj => ?_⟩
     by_cases hjk : j < k
     ·
      exact HG.out j hjk
     rw [show j = k by omega, ← HZ.out]; exact HP.out
    case measure => simp [intOf]; omega
   | false =>
    have HV : Hid (aJ zs = 3) := dU HL.out k hlt (by rw [← HZ.out]; exact hp)
    have hb := en hp
    clear hp
    rcases hb with hb | hb
    ·
     go_wp2
     go_ret
     exact ⟨by rw [HV.out]; rfl, rfl⟩
    have hb1 : -1000 ≤ z := by omega
    have hd : decide (z ≤ 1000) = false := by simp; omega
    go_wp2
    go_ret
    exact ⟨by rw [HV.out]; rfl, rfl⟩
  have HV : Hid (aJ zs = 0) := er HL.out (fun j hj => HG.out j (by omega))
  go_wp2
  go_ret
  exact ⟨by rw [HV.out]; rfl, rfl⟩
theorem fY (v : Value) (zs : List Int) (w : World) (h : bh w v zs) :
  Calls Tryz.prog 202 #[v] w fun e w' => e = .returned (.int .i64 (aJ zs)) ∧ w' = w := by
 obtain ⟨ao, cap, rfl, hwf, hc⟩ := h
 by_cases h3 : zs.length = 3
 ·
  obtain ⟨b, off, rfl, hc1⟩ := hc (by omega)
  rw [h3] at hc1 ⊢
  exact eJ b off cap zs w h3 hc1
 rw [dN h3]
 exact fF ao zs.length cap w h3
theorem iL (v : Value) (zs : List Int) (w : World) (h : bh w v zs) :
  Calls Tryz.prog 74 #[v] w fun e w' => e = .returned (.int .i64 (aJ zs)) ∧ w' = w := by
 obtain ⟨ao, cap, rfl, hwf, hc⟩ := h
 by_cases h3 : zs.length = 3
 ·
  obtain ⟨b, off, rfl, hc1⟩ := hc (by omega)
  rw [h3] at hc1 ⊢
  exact ea b off cap zs w h3 hc1
 rw [dN h3]
 exact fg ao zs.length cap w h3
def cl (k : Int) (n : Nat) : Bool := (decide (1 ≤ k) && decide (k ≤ 2)) && !(k == 2 && decide (0 < (n : Int)))
def bT (i s q : Int) : Bool := (decide (1 ≤ i) && decide (i ≤ 999)) && ((decide (1 ≤ s) && decide (s ≤ 9)) && (decide (1 ≤ q) && decide (q ≤ 999)))
def ak (k i : Int) (zs : List Int) (s q : Int) : Int :=
 if cl k zs.length then (if bT i s q then (if k = 1 then aJ zs else 0) else 3) else 1
def ke (w : World) (b o : Nat) (k i : Int) (v : Value) (s q : Int) : Prop :=
 w.cell? ⟨b, o, none⟩ = some (.int .i64 k) ∧ w.cell? ⟨b, o + 1, none⟩ = some (.int .i64 i) ∧ w.cell? ⟨b, o + 2, none⟩ = some v ∧ w.cell? ⟨b, o + 3, none⟩ = some (.int .i64 s) ∧ w.cell? ⟨b, o + 4, none⟩ = some (.int .i64 q)
theorem im (b o : Nat) (k i : Int) (v : Value) (s q : Int) (zs : List Int) (w : World) (hc : ke w b o k i v s q) (h : bh w v zs) :
  Calls Tryz.prog 250 #[.pointer (some ⟨b, o, none⟩)] w fun e w' => e = .returned (.int .i64 (ak k i zs s q)) ∧ w' = w := by
 have hv : ∃ a c, v = .slice a zs.length c := by obtain ⟨a, c, h, -⟩ := h; exact ⟨a, c, h⟩
 obtain ⟨av, cv, rfl⟩ := hv
 obtain ⟨c0, c1, c2, c3, c4⟩ := hc
 have HH := yh h
 clear h
 generalize hF : ak k i zs s q = F
 have HF := yh hF
 clear hF
 cases d1 : (decide (1 ≤ k) && decide (k ≤ 2)) with
 | false =>
  have hE : F = 1 := by rw [← uh HF, ak, cl, d1]; rfl
  subst hE
  go_enter Tryz.func250, Tryz.ntmps250
  go_wp2_with fail
  refine (cP k 1 2 _).mono ?_
  rintro e w1 ⟨rfl, rfl⟩
  rw [d1]
  go_wp2_with fail
  go_ret
  exact ⟨rfl, rfl⟩
 | true =>
  have hk : k = 1 ∨ k = 2 := by
   simp only [Bool.and_eq_true, decide_eq_true_eq] at d1
   omega
  clear d1
  rcases hk with rfl | rfl
  ·
   have hK : cl 1 zs.length = true := rfl
   cases dI : (decide (1 ≤ i) && decide (i ≤ 999)) with
   | false =>
    have hE : F = 3 := by rw [← uh HF, ak, hK, if_pos rfl, bT, dI]; rfl
    subst hE
    go_enter Tryz.func250, Tryz.ntmps250
    go_wp2_with fail
    refine (cP 1 1 2 _).mono ?_
    rintro e w1 ⟨rfl, rfl⟩
    go_wp2_with fail
    refine (lC i _).mono ?_
    rintro e w1 ⟨rfl, rfl⟩
    rw [dI]
    go_wp2_with fail
    go_ret
    exact ⟨rfl, rfl⟩
   | true =>
    cases dS : (decide (1 ≤ s) && decide (s ≤ 9)) with
    | false =>
     have hE : F = 3 := by rw [← uh HF, ak, hK, if_pos rfl, bT, dI, dS]; rfl
     subst hE
     go_enter Tryz.func250, Tryz.ntmps250
     go_wp2_with fail
     refine (cP 1 1 2 _).mono ?_
     rintro e w1 ⟨rfl, rfl⟩
     go_wp2_with fail
     refine (lC i _).mono ?_
     rintro e w1 ⟨rfl, rfl⟩
     rw [dI]
     go_wp2_with fail
     refine (cU s _).mono ?_
     rintro e w1 ⟨rfl, rfl⟩
     rw [dS]
     go_wp2_with fail
     go_ret
     exact ⟨rfl, rfl⟩
    | true =>
     cases dQ : (decide (1 ≤ q) && decide (q ≤ 999)) with
     | false =>
      have hE : F = 3 := by rw [← uh HF, ak, hK, if_pos rfl, bT, dI, dS, dQ]; rfl
      subst hE
      go_enter Tryz.func250, Tryz.ntmps250
      go_wp2_with fail
      refine (cP 1 1 2 _).mono ?_
      rintro e w1 ⟨rfl, rfl⟩
      go_wp2_with fail
      refine (lC i _).mono ?_
      rintro e w1 ⟨rfl, rfl⟩
      rw [dI]
      go_wp2_with fail
      refine (cU s _).mono ?_
      rintro e w1 ⟨rfl, rfl⟩
      rw [dS]
      go_wp2_with fail
      refine (cP q 1 999 _).mono ?_
      rintro e w1 ⟨rfl, rfl⟩
      rw [dQ]
      go_wp2_with fail
      go_ret
      exact ⟨rfl, rfl⟩
     | true =>
      have hE : F = aJ zs := by rw [← uh HF, ak, hK, if_pos rfl, bT, dI, dS, dQ]; rfl
      subst hE
      go_enter Tryz.func250, Tryz.ntmps250
      go_wp2_with fail
      refine (cP 1 1 2 _).mono ?_
      rintro e w1 ⟨rfl, rfl⟩
      go_wp2_with fail
      refine (lC i _).mono ?_
      rintro e w1 ⟨rfl, rfl⟩
      rw [dI]
      go_wp2_with fail
      refine (cU s _).mono ?_
      rintro e w1 ⟨rfl, rfl⟩
      rw [dS]
      go_wp2_with fail
      refine (cP q 1 999 _).mono ?_
      rintro e w1 ⟨rfl, rfl⟩
      rw [dQ]
      go_wp2_with fail
      refine (iL _ zs _ (uh HH)).mono ?_
      rintro e w1 ⟨rfl, rfl⟩
      go_wp2_with fail
      go_ret
      exact ⟨rfl, rfl⟩
  by_cases hz : zs.length = 0
  ·
   obtain rfl : zs = [] := List.eq_nil_of_length_eq_zero hz
   have hK : cl 2 ([] : List Int).length = true := rfl
   simp only [List.length_nil] at c2 hK
   clear hz
   cases dI : (decide (1 ≤ i) && decide (i ≤ 999)) with
   | false =>
    have hE : F = 3 := by rw [← uh HF, ak, show cl 2 ([] : List Int).length = true from rfl, if_pos rfl, bT, dI]; rfl
    subst hE
    go_enter Tryz.func250, Tryz.ntmps250
    go_wp2_with fail
    refine (cP 2 1 2 _).mono ?_
    rintro e w1 ⟨rfl, rfl⟩
    go_wp2_with fail
    refine (lC i _).mono ?_
    rintro e w1 ⟨rfl, rfl⟩
    rw [dI]
    go_wp2_with fail
    go_ret
    exact ⟨rfl, rfl⟩
   | true =>
    cases dS : (decide (1 ≤ s) && decide (s ≤ 9)) with
    | false =>
     have hE : F = 3 := by rw [← uh HF, ak, show cl 2 ([] : List Int).length = true from rfl, if_pos rfl, bT, dI, dS]; rfl
     subst hE
     go_enter Tryz.func250, Tryz.ntmps250
     go_wp2_with fail
     refine (cP 2 1 2 _).mono ?_
     rintro e w1 ⟨rfl, rfl⟩
     go_wp2_with fail
     refine (lC i _).mono ?_
     rintro e w1 ⟨rfl, rfl⟩
     rw [dI]
     go_wp2_with fail
     refine (cU s _).mono ?_
     rintro e w1 ⟨rfl, rfl⟩
     rw [dS]
     go_wp2_with fail
     go_ret
     exact ⟨rfl, rfl⟩
    | true =>
     cases dQ : (decide (1 ≤ q) && decide (q ≤ 999)) with
     | false =>
      have hE : F = 3 := by rw [← uh HF, ak, show cl 2 ([] : List Int).length = true from rfl, if_pos rfl, bT, dI, dS, dQ]; rfl
      subst hE
      go_enter Tryz.func250, Tryz.ntmps250
      go_wp2_with fail
      refine (cP 2 1 2 _).mono ?_
      rintro e w1 ⟨rfl, rfl⟩
      go_wp2_with fail
      refine (lC i _).mono ?_
      rintro e w1 ⟨rfl, rfl⟩
      rw [dI]
      go_wp2_with fail
      refine (cU s _).mono ?_
      rintro e w1 ⟨rfl, rfl⟩
      rw [dS]
      go_wp2_with fail
      refine (cP q 1 999 _).mono ?_
      rintro e w1 ⟨rfl, rfl⟩
      rw [dQ]
      go_wp2_with fail
      go_ret
      exact ⟨rfl, rfl⟩
     | true =>
      have hE : F = 0 := by rw [← uh HF, ak, show cl 2 ([] : List Int).length = true from rfl, if_pos rfl, bT, dI, dS, dQ]; rfl
      subst hE
      go_enter Tryz.func250, Tryz.ntmps250
      go_wp2_with fail
      refine (cP 2 1 2 _).mono ?_
      rintro e w1 ⟨rfl, rfl⟩
      go_wp2_with fail
      refine (lC i _).mono ?_
      rintro e w1 ⟨rfl, rfl⟩
      rw [dI]
      go_wp2_with fail
      refine (cU s _).mono ?_
      rintro e w1 ⟨rfl, rfl⟩
      rw [dS]
      go_wp2_with fail
      refine (cP q 1 999 _).mono ?_
      rintro e w1 ⟨rfl, rfl⟩
      rw [dQ]
      go_wp2_with fail
      go_ret
      exact ⟨rfl, rfl⟩
  have hE : F = 1 := by
   have : cl 2 zs.length = false := by simp [cl]; omega
   rw [← uh HF, ak, this]; rfl
  subst hE
  obtain ⟨m, hm⟩ : ∃ m, zs.length = m + 1 := ⟨zs.length - 1, by omega⟩
  rw [hm] at c2
  clear hz hm
  go_enter Tryz.func250, Tryz.ntmps250
  go_wp2_with fail
  refine (cP 2 1 2 _).mono ?_
  rintro e w1 ⟨rfl, rfl⟩
  go_wp2_with fail
  go_ret
  exact ⟨rfl, rfl⟩
theorem cx {k i s q : Int} {zs : List Int} (h : ak k i zs s q = 0) : (1 ≤ i ∧ i ≤ 999) ∧ (1 ≤ s ∧ s ≤ 9) ∧ (1 ≤ q ∧ q ≤ 999) ∧ ((k = 1 ∧ aJ zs = 0) ∨ (k = 2 ∧ zs = [])) := by
 unfold ak at h
 split at h
 ·
  next hk =>
  split at h
  ·
   next hb =>
   simp only [cl, Bool.and_eq_true, decide_eq_true_eq, Bool.not_eq_true', Bool.and_eq_false_iff] at hk
   simp only [bT, Bool.and_eq_true, decide_eq_true_eq] at hb
   refine ⟨hb.1, hb.2.1, hb.2.2, ?_⟩
   by_cases h1 : k = 1
   ·
    rw [if_pos h1] at h
    exact Or.inl ⟨h1, h⟩
   have h2 : k = 2 := by omega
   refine Or.inr ⟨h2, ?_⟩
   rcases hk.2 with h3 | h3
   ·
    simp [h2] at h3
   simp at h3
   exact h3
  omega
 omega
def wF (x : ai) : Int := ak x.kind x.id x.vec x.aa x.seq
def ba : List ai → Int
 | [] => 0
 | x :: xs => if wF x = 0 then ba xs else wF x
def aD (ws : List ai) : Int := if 200 < ws.length then 2 else ba ws
theorem ef (ws : List ai) (k : Nat) (h : k < ws.length) (hz : ∀ j (hj : j < ws.length), j < k → wF ws[j] = 0) (hn : wF ws[k] ≠ 0) : ba ws = wF ws[k] := by
 induction ws generalizing k with
 | nil => simp at h
 | cons x xs ih =>
  match k with
  | 0 => rw [ba, if_neg (by simpa using hn)]; rfl
  | k + 1 =>
   have h0 : wF x = 0 := hz 0 (by simp) (by omega)
   rw [ba, if_pos h0]
   exact ih k (by simpa using h) (fun j hj hjk => hz (j + 1) (by simpa using hj) (by omega)) (by simpa using hn)
theorem cI (ws : List ai) (hz : ∀ j (hj : j < ws.length), wF ws[j] = 0) : ba ws = 0 := by
 induction ws with
 | nil => rfl
 | cons x xs ih =>
  have h0 : wF x = 0 := hz 0 (by simp)
  rw [ba, if_pos h0]
  exact ih fun j hj => hz (j + 1) (by simpa using hj)
theorem eI {ws : List ai} (h : ba ws = 0) : ∀ x ∈ ws, wF x = 0 := by
 induction ws with
 | nil => simp
 | cons x xs ih =>
  rw [ba] at h
  by_cases h0 : wF x = 0
  ·
   rw [if_pos h0] at h
   intro y hy
   rcases List.mem_cons.1 hy with rfl | hy
   ·
    exact h0
   exact ih h y hy
  rw [if_neg h0] at h; exact absurd h h0
theorem dH {ws : List ai} (h : aD ws = 0) : ws.length ≤ 200 ∧ ∀ x ∈ ws, wF x = 0 := by
 unfold aD at h
 by_cases hn : 200 < ws.length
 ·
  rw [if_pos hn] at h; cases h
 rw [if_neg hn] at h; exact ⟨by omega, eI h⟩
theorem gl (x : ai) : 0 ≤ wF x ∧ wF x ≤ 3 := by
 have hv := fK x.vec
 unfold wF ak
 split
 ·
  split
  ·
   split
   ·
    exact hv
   decide
  decide
 decide
theorem ia (ws : List ai) : 0 ≤ ba ws ∧ ba ws ≤ 3 := by
 induction ws with
 | nil => decide
 | cons x xs ih =>
  rw [ba]
  split
  ·
   exact ih
  exact gl x
def aB (ws : List ai) (s : Int) : Int := ws.foldl (fun n x => if x.aa = s then max n x.seq else n) 0
def bx (s q : Int) : Nat → List ai → Nat
 | _, [] => 0
 | n, x :: xs => if x.aa = s ∧ x.seq = q then n + 1 else bx s q (n + 1) xs
def bf (ws : List ai) (s q : Int) : Nat := bx s q 0 ws
def bK : List ai → List ai → Bool
 | _, [] => true
 | pre, x :: xs => decide (aB pre x.aa < x.seq) && bK (pre ++ [x]) xs
def dj (ws : List ai) (s : Int) : Int := if aD ws = 0 then (if 1 ≤ s ∧ s ≤ 9 then 0 else 3) else aD ws
theorem fb (ws : List ai) (x : ai) (s : Int) : aB (ws ++ [x]) s = if x.aa = s then max (aB ws s) x.seq else aB ws s := by
 simp [aB]
theorem fk (ws : List ai) (k : Nat) (h : k < ws.length) (s : Int) : aB (ws.take (k + 1)) s = if ws[k].aa = s then max (aB (ws.take k) s) ws[k].seq else aB (ws.take k) s := by
 rw [List.take_succ_eq_append_getElem h, fb]
theorem dC (s q : Int) (x : ai) : ∀ (ws : List ai) (n : Nat), bx s q n (ws ++ [x]) = if bx s q n ws = 0 then (if x.aa = s ∧ x.seq = q then n + ws.length + 1 else 0) else bx s q n ws
 | [], n => by simp [bx]
 | y :: ws, n => by
  rw [List.cons_append, bx, bx]
  by_cases h : y.aa = s ∧ y.seq = q
  ·
   rw [if_pos h, if_pos h, if_neg (by omega)]
  rw [if_neg h, if_neg h, dC s q x ws (n + 1)]
  simp only [List.length_cons]
  rw [show n + 1 + ws.length + 1 = n + (ws.length + 1) + 1 by omega]
theorem fu (ws : List ai) (x : ai) (s q : Int) : bf (ws ++ [x]) s q = if bf ws s q = 0 then (if x.aa = s ∧ x.seq = q then ws.length + 1 else 0) else bf ws s q := by
 have := dC s q x ws 0
 rw [Nat.zero_add] at this
 exact this
theorem gE (ws : List ai) (s q : Int) : bf ws s q ≤ ws.length := by
 have : ∀ (ws : List ai) (n : Nat), bx s q n ws ≤ n + ws.length := by
  intro ws
  induction ws with
  | nil => intro n; simp [bx]
  | cons x xs ih =>
   intro n
   rw [bx]
   split
   ·
    simp only [List.length_cons]; omega
   have := ih (n + 1)
   simp only [List.length_cons]
   omega
 have := this ws 0
 rw [Nat.zero_add] at this
 exact this
theorem eB (s q : Int) : ∀ (ws : List ai) (n k : Nat) (h : k < ws.length), (∀ j (hj : j < ws.length), j < k → ¬ (ws[j].aa = s ∧ ws[j].seq = q)) → (ws[k].aa = s ∧ ws[k].seq = q) → bx s q n ws = n + k + 1
 | [], _, _, h, _, _ => by simp at h
 | x :: xs, n, 0, _, _, hk => by rw [bx, if_pos (by simpa using hk)]
 | x :: xs, n, k + 1, h, hn, hk => by
  have h0 := hn 0 (by simp) (by omega)
  rw [bx, if_neg (by simpa using h0), eB s q xs (n + 1) k (by simpa using h) (fun j hj hjk => by have := hn (j + 1) (by simpa using hj) (by omega); simpa using this) (by simpa using hk)]
  omega
theorem jU {s q : Int} {ws : List ai} {k : Nat} (h : k < ws.length) (hn : ∀ j (hj : j < ws.length), j < k → ¬ (ws[j].aa = s ∧ ws[j].seq = q)) (hk : ws[k].aa = s ∧ ws[k].seq = q) : bf ws s q = k + 1 := by
 have := eB s q ws 0 k h hn hk
 rw [Nat.zero_add] at this
 exact this
theorem ff {s q : Int} {ws : List ai} (hn : ∀ j (hj : j < ws.length), ¬ (ws[j].aa = s ∧ ws[j].seq = q)) : bf ws s q = 0 := by
 have : ∀ (ws : List ai) (n : Nat), (∀ j (hj : j < ws.length), ¬ (ws[j].aa = s ∧ ws[j].seq = q)) → bx s q n ws = 0 := by
  intro ws
  induction ws with
  | nil => intro n _; rfl
  | cons x xs ih =>
   intro n hn
   have h0 := hn 0 (by simp)
   rw [bx, if_neg (by simpa using h0)]
   exact ih (n + 1) fun j hj => by have := hn (j + 1) (by simpa using hj); simpa using this
 exact this ws 0 hn
theorem fw : ∀ (ws pre : List ai) (k : Nat) (h : k < ws.length), (ws[k]).seq ≤ aB (pre ++ ws.take k) (ws[k]).aa → bK pre ws = false
 | [], _, _, h, _ => by simp at h
 | x :: xs, pre, 0, _, hk => by
  have : ¬ (aB pre x.aa < x.seq) := by simpa using hk
  simp [bK, this]
 | x :: xs, pre, k + 1, h, hk => by
  rw [bK, fw xs (pre ++ [x]) k (by simpa using h) (by simpa using hk), Bool.and_false]
theorem eb : ∀ (ws pre : List ai), (∀ k (h : k < ws.length), aB (pre ++ ws.take k) (ws[k]).aa < (ws[k]).seq) → bK pre ws = true
 | [], _, _ => rfl
 | x :: xs, pre, h => by
  have h0 := h 0 (by simp)
  rw [bK, eb xs (pre ++ [x]) fun k hk => by have := h (k + 1) (by simpa using hk); simpa using this]
  simpa using h0
def ei (ws : List ai) : Bool := decide (aD ws = 0) && bK [] ws
theorem iV {x : ai} (h : wF x = 0) : 1 ≤ x.aa ∧ x.aa ≤ 9 ∧ 1 ≤ x.seq ∧ x.seq ≤ 999 := by
 obtain ⟨-, h1, h2, -⟩ := cx h
 exact ⟨h1.1, h1.2, h2.1, h2.2⟩
def bG (ws : List ai) (s q : Int) : cc := if dj ws s = 0 then (if 1 ≤ q ∧ q ≤ 999 then (if bf ws s q = 0 then ⟨4, 0⟩ else ⟨0, bf ws s q⟩) else ⟨3, 0⟩) else ⟨dj ws s, 0⟩
theorem jx {ws : List ai} (s : Int) (h : aD ws ≠ 0) : dj ws s = aD ws := by rw [dj, if_neg h]
theorem eg {ws : List ai} {s : Int} (h : aD ws = 0) (hs : ¬ (1 ≤ s ∧ s ≤ 9)) : dj ws s = 3 := by rw [dj, if_pos h, if_neg hs]
theorem cQ {ws : List ai} {s : Int} (h : aD ws = 0) (hs : 1 ≤ s ∧ s ≤ 9) : dj ws s = 0 := by rw [dj, if_pos h, if_pos hs]
theorem dec9 {s : Int} (hs : 1 ≤ s ∧ s ≤ 9) : (decide (1 ≤ s) && decide (s ≤ 9)) = true := by simp [hs.1, hs.2]
theorem mi {s : Int} (hs : ¬ (1 ≤ s ∧ s ≤ 9)) : (decide (1 ≤ s) && decide (s ≤ 9)) = false := by
 rw [Bool.eq_false_iff]
 intro hb
 simp only [Bool.and_eq_true, decide_eq_true_eq] at hb
 exact hs hb
theorem lY {s : Int} (hs : 1 ≤ s ∧ s ≤ 999) : (decide (1 ≤ s) && decide (s ≤ 999)) = true := by simp [hs.1, hs.2]
theorem lu {s : Int} (hs : ¬ (1 ≤ s ∧ s ≤ 999)) : (decide (1 ≤ s) && decide (s ≤ 999)) = false := by
 rw [Bool.eq_false_iff]
 intro hb
 simp only [Bool.and_eq_true, decide_eq_true_eq] at hb
 exact hs hb
theorem di {w : World} {c z : Int} {lo hi : Nat} (hc : (Lit.int .i64 c).wf = true) (hz : (Lit.int .i64 z).wf = true) : ad.bB.aT w [.int .i64 c, .int .i64 z] ⟨c, z⟩ lo hi :=
 ⟨[], ⟨bD.2 ⟨rfl, rfl, hc, hz⟩, by simp, by simp⟩, by simp⟩
theorem l8 (ws : List ai) : (Lit.int .i64 (aD ws)).wf = true := by
 have : 0 ≤ aD ws ∧ aD ws ≤ 3 := by
  unfold aD
  split
  ·
   omega
  induction ws with
  | nil => simp [ba]
  | cons x xs ih =>
   rw [ba]
   split
   ·
    exact ih (by rename_i h _; simp only [List.length_cons] at h; omega)
   exact gl x
 exact bF (by omega)
end Go.Proofs.YtecagllmonckgaaGreat
