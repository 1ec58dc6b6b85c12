/-
  Texts of this proof in one: SzHitS, SzEntry, SzEntryS, SzWorld, ToChain, ToWrite, ToWriteS, ToNode, ToNodeS, ToMsg, ToMsgS, ToHit, ToHitS, ToEntry, ToEntryS.
  Their conditions stand in their theorems.
-/
import Derived.Test.YtecagllmonckgaaGreatChecked
import Derived.Test.YtecagllmonckgaaGreatFi01
import Derived.Test.YtecagllmonckgaaGreatFi00
import Derived.WalkKit
set_option maxRecDepth 100000
set_option maxHeartbeats 4000000
namespace Go.Proofs.YtecagllmonckgaaGreat
open Go.RowKit
theorem qK (v : Value) (xs : List dR) (l : Nat) (w : World) (h : (ab.sl ab.bb).Reads w [v] xs) (hl : l ≤ 1048576) :
  Calls Tryz.prog 166 #[v, .int .i64 l] w fun e w' => e = .returned (.int .i64 (kX l ((ab.sl ab.bb).sz xs))) ∧ Below w.heap.size w w' := by
 have hbig := h.dK
 obtain ⟨ao, cap, rfl⟩ := aE h
 have HV : Hid ((ab.sl ab.bb).sz xs = xs.length + al ab.bb.sz xs) := rfl
 have e0 : al ab.bb.sz xs = 0 := by
  clear h hbig HV
  induction xs with
  | nil => rfl
  | cons x xs ih => rw [al, ih, oW]
 rw [uh HV, e0, Nat.add_zero]
 generalize xs.length = n at *
 clear h HV e0
 by_cases hn : n ≤ l
 ·
  rw [bY hn]
  have e1 : (l : Int) - (n : Int) = ((l - n : Nat) : Int) := by omega
  have e2 : decide (((l - n : Nat) : Int) < 0) = false := by simp
  go_enter Tryz.func166, Tryz.ntmps166
  go_wp2_with fail
  go_ret
  exact ⟨rfl, Below.refl _ _⟩
 rw [ba (by omega)]
 have e2 : decide ((l : Int) - (n : Int) < 0) = true := by simp; omega
 go_enter Tryz.func166, Tryz.ntmps166
 go_wp2_with fail
 go_ret
 exact ⟨rfl, Below.refl _ _⟩
theorem ik (x : aZ) : ab.ar.sz x = (ab.sl ab.int).sz x.query + (ab.sl ab.int).sz x.vec + (ab.sl ab.bb).sz x.aN := by
 show 0 + (0 + (0 + (0 + ((ab.sl ab.int).sz x.query + (0 + (0 + (0 + (0 + ((ab.sl ab.int).sz x.vec + ((ab.sl ab.bb).sz x.aN)))))))))) = (ab.sl ab.int).sz x.query + (ab.sl ab.int).sz x.vec + (ab.sl ab.bb).sz x.aN
 omega
theorem pt (cs : List Value) (x : aZ) (l : Nat) (w : World) (h : ab.ar.Reads w cs x) (hl : l ≤ 1048576) :
  Calls Tryz.prog 100 #[.agg cs.toArray, .int .i64 l] w fun e w' => e = .returned (.int .i64 (kX l (ab.ar.sz x))) ∧ Below w.heap.size w w' := by
 obtain ⟨a4, d4, a9, d9, a10, d10, rfl, R4, R9, R10⟩ := bB h
 clear h
 have HB0 : Below w.heap.size w (w.alloc (.cells #[.int .i64 x.kind, .int .i64 x.aa, .int .i64 x.seq, .int .i64 x.id, .slice a4 x.query.length d4, .int .i64 x.k, .int .i64 x.start, .int .i64 x.fin, .int .i64 x.place, .slice a9 x.vec.length d9, .slice a10 x.aN.length d10] 138)) := (Below.refl _ _).alloc (Nat.le_refl _) _
 have bA : aj w.heap.size #[.int .i64 x.kind, .int .i64 x.aa, .int .i64 x.seq, .int .i64 x.id, .slice a4 x.query.length d4, .int .i64 x.k, .int .i64 x.start, .int .i64 x.fin, .int .i64 x.place, .slice a9 x.vec.length d9, .slice a10 x.aN.length d10] 138 (w.alloc (.cells #[.int .i64 x.kind, .int .i64 x.aa, .int .i64 x.seq, .int .i64 x.id, .slice a4 x.query.length d4, .int .i64 x.k, .int .i64 x.start, .int .i64 x.fin, .int .i64 x.place, .slice a9 x.vec.length d9, .slice a10 x.aN.length d10] 138)) w.heap.size := aH (Nat.le_refl _)
 have HV := yh (ik x)
 go_enter Tryz.func100, Tryz.ntmps100
 go_wp2_with fail
 generalize w.alloc (.cells #[.int .i64 x.kind, .int .i64 x.aa, .int .i64 x.seq, .int .i64 x.id, .slice a4 x.query.length d4, .int .i64 x.k, .int .i64 x.start, .int .i64 x.fin, .int .i64 x.place, .slice a9 x.vec.length d9, .slice a10 x.aN.length d10] 138) = W0 at *
 replace R4 := R4.ag HB0
 replace R9 := R9.ag HB0
 replace R10 := R10.ag HB0
 refine (fC _ x.query (l) _ R4 (by omega)).mono ?_
 rintro e w1 ⟨rfl, hb⟩
 replace HB0 := HB0.trans (hb.mono HB0.size)
 replace bA := bA.au hb
 replace R9 := R9.ag hb
 replace R10 := R10.ag hb
 clear hb R4
 by_cases hs0 : (ab.sl ab.int).sz x.query ≤ l
 ·
  rw [bY hs0]
  have hq : decide (((l - (ab.sl ab.int).sz x.query : Nat) : Int) < 0) = false := by simp
  have p9 := bA.at 9 _ rfl
  have p10 := bA.at 10 _ rfl
  have HX := yh HB0
  have HA := yh bA
  clear HB0 bA
  have P9 := yh R9
  clear R9
  have P10 := yh R10
  clear R10
  go_wp2_with fail
  clear hq
  have HB0 := uh HX
  have bA := uh HA
  clear HX HA
  have R9 := uh P9
  clear P9
  have R10 := uh P10
  clear P10
  clear p9
  clear p10
  refine (fC _ x.vec (l - (ab.sl ab.int).sz x.query) _ R9 (by omega)).mono ?_
  rintro e w2 ⟨rfl, hb⟩
  replace HB0 := HB0.trans (hb.mono HB0.size)
  replace bA := bA.au hb
  replace R10 := R10.ag hb
  clear hb R9
  by_cases hs1 : (ab.sl ab.int).sz x.vec ≤ l - (ab.sl ab.int).sz x.query
  ·
   rw [bY hs1]
   have hq : decide (((l - (ab.sl ab.int).sz x.query - (ab.sl ab.int).sz x.vec : Nat) : Int) < 0) = false := by simp
   have p10 := bA.at 10 _ rfl
   have HX := yh HB0
   have HA := yh bA
   clear HB0 bA
   have P10 := yh R10
   clear R10
   go_wp2_with fail
   clear hq
   have HB0 := uh HX
   have bA := uh HA
   clear HX HA
   have R10 := uh P10
   clear P10
   clear p10
   refine (qK _ x.aN (l - (ab.sl ab.int).sz x.query - (ab.sl ab.int).sz x.vec) _ R10 (by omega)).mono ?_
   rintro e w3 ⟨rfl, hb⟩
   replace HB0 := HB0.trans (hb.mono HB0.size)
   replace bA := bA.au hb
   clear hb R10
   by_cases hs2 : (ab.sl ab.bb).sz x.aN ≤ l - (ab.sl ab.int).sz x.query - (ab.sl ab.int).sz x.vec
   ·
    rw [bY hs2]
    have hq : decide (((l - (ab.sl ab.int).sz x.query - (ab.sl ab.int).sz x.vec - (ab.sl ab.bb).sz x.aN : Nat) : Int) < 0) = false := by simp
    have HX := yh HB0
    have HA := yh bA
    clear HB0 bA
    go_wp2_with fail
    clear hq
    go_ret
    refine ⟨?_, uh HX⟩
    rw [uh HV, bY (by omega), show l - ((ab.sl ab.int).sz x.query + (ab.sl ab.int).sz x.vec + (ab.sl ab.bb).sz x.aN) = l - (ab.sl ab.int).sz x.query - (ab.sl ab.int).sz x.vec - (ab.sl ab.bb).sz x.aN by omega]
    rfl
   rw [ba (by omega)]
   have HX := yh HB0
   clear HB0 bA
   go_wp2_with fail
   go_ret
   refine ⟨?_, uh HX⟩
   rw [uh HV, ba (by omega)]
   rfl
  rw [ba (by omega)]
  have HX := yh HB0
  clear HB0 bA
  go_wp2_with fail
  go_ret
  refine ⟨?_, uh HX⟩
  rw [uh HV, ba (by omega)]
  rfl
 rw [ba (by omega)]
 have HX := yh HB0
 clear HB0 bA
 go_wp2_with fail
 go_ret
 refine ⟨?_, uh HX⟩
 rw [uh HV, ba (by omega)]
 rfl
theorem oS (v : Value) (xs : List aZ) (l : Nat) (w : World) (h : (ab.sl ab.ar).Reads w [v] xs) (hl : l ≤ 1048576) :
  Calls Tryz.prog 44 #[v, .int .i64 l] w fun e w' => e = .returned (.int .i64 (kX l ((ab.sl ab.ar).sz xs))) ∧ Below w.heap.size w w' := by
 have hbig := h.dK
 obtain ⟨ao, cap, rfl⟩ := aE h
 have HV : Hid ((ab.sl ab.ar).sz xs = xs.length + al ab.ar.sz xs) := rfl
 by_cases hn : xs.length ≤ l
 ·
  have e1 : (l : Int) - (xs.length : Int) = ((l - xs.length : Nat) : Int) := by omega
  have e2 : decide (((l - xs.length : Nat) : Int) < 0) = false := by simp
  by_cases hp : 0 < xs.length
  ·
   obtain ⟨b, off, rfl, hbl⟩ := ab.aI h hp
   have H := yh h
   clear h
   go_enter Tryz.func44, Tryz.ntmps44
   go_wp2_with fail
   go_loopw [1, 5] (fun lf i wr => ∃ k s : Nat, k ≤ xs.length ∧ i = .int .i64 k ∧ s = al ab.ar.sz (xs.take k) ∧ xs.length + s ≤ l ∧ lf = .int .i64 ((l - (xs.length + s) : Nat) : Int) ∧ Below w.heap.size w wr) (fun _ i _ => xs.length - (intOf i).toNat)
   case atStart => exact ⟨0, 0, Nat.zero_le _, rfl, rfl, by omega, by simp, Below.refl _ _⟩
   case round =>
    obtain ⟨k, s, hk, rfl, hs, hsl, rfl, hB⟩ := hrel
    have HS := yh hs
    clear hs e1 e2
    by_cases hlt : k < xs.length
    ·
     obtain ⟨row, hc, hr⟩ := ab.bm (uh H) hlt
     replace hr := hr.ag hB
     have hr2 := hr
     obtain ⟨a4, d4, a9, d9, a10, d10, rfl, -, -, -⟩ := bB hr2
     have c0 : wr.cell? ⟨b, off + k * 11, none⟩ = some (.int .i64 (xs[k]).kind) := (hB.cell (p := ⟨b, off + k * 11, none⟩) hbl).trans (hc 0 (by decide))
     have c1 : wr.cell? ⟨b, off + k * 11 + 1, none⟩ = some (.int .i64 (xs[k]).aa) := (hB.cell (p := ⟨b, off + k * 11 + 1, none⟩) hbl).trans (hc 1 (by decide))
     have c2 : wr.cell? ⟨b, off + k * 11 + 2, none⟩ = some (.int .i64 (xs[k]).seq) := (hB.cell (p := ⟨b, off + k * 11 + 2, none⟩) hbl).trans (hc 2 (by decide))
     have c3 : wr.cell? ⟨b, off + k * 11 + 3, none⟩ = some (.int .i64 (xs[k]).id) := (hB.cell (p := ⟨b, off + k * 11 + 3, none⟩) hbl).trans (hc 3 (by decide))
     have c4 : wr.cell? ⟨b, off + k * 11 + 4, none⟩ = some (.slice a4 (xs[k]).query.length d4) := (hB.cell (p := ⟨b, off + k * 11 + 4, none⟩) hbl).trans (hc 4 (by decide))
     have c5 : wr.cell? ⟨b, off + k * 11 + 5, none⟩ = some (.int .i64 (xs[k]).k) := (hB.cell (p := ⟨b, off + k * 11 + 5, none⟩) hbl).trans (hc 5 (by decide))
     have c6 : wr.cell? ⟨b, off + k * 11 + 6, none⟩ = some (.int .i64 (xs[k]).start) := (hB.cell (p := ⟨b, off + k * 11 + 6, none⟩) hbl).trans (hc 6 (by decide))
     have c7 : wr.cell? ⟨b, off + k * 11 + 7, none⟩ = some (.int .i64 (xs[k]).fin) := (hB.cell (p := ⟨b, off + k * 11 + 7, none⟩) hbl).trans (hc 7 (by decide))
     have c8 : wr.cell? ⟨b, off + k * 11 + 8, none⟩ = some (.int .i64 (xs[k]).place) := (hB.cell (p := ⟨b, off + k * 11 + 8, none⟩) hbl).trans (hc 8 (by decide))
     have c9 : wr.cell? ⟨b, off + k * 11 + 9, none⟩ = some (.slice a9 (xs[k]).vec.length d9) := (hB.cell (p := ⟨b, off + k * 11 + 9, none⟩) hbl).trans (hc 9 (by decide))
     have c10 : wr.cell? ⟨b, off + k * 11 + 10, none⟩ = some (.slice a10 (xs[k]).aN.length d10) := (hB.cell (p := ⟨b, off + k * 11 + 10, none⟩) hbl).trans (hc 10 (by decide))
     have HB := yh hB
     have HR := yh hr
     have HT := yh (ab.bV (f := ab.ar.sz) hlt)
     have HL := yh (ab.bx (f := ab.ar.sz) (xs := xs) (k := k + 1))
     clear hB hr hc
     generalize hxk : xs[k] = x at *
     clear hxk
     go_wp2_with fail
     refine (pt _ x (l - (xs.length + s)) wr (uh HR) (by omega)).mono ?_
     rintro e w2 ⟨rfl, hb⟩
     replace HB := bZ HB hb
     clear hb HR c0 c1 c2 c3 c4 c5 c6 c7 c8 c9 c10
     have ht := uh HT
     rw [← uh HS] at ht
     have hle := uh HL
     rw [ht] at hle
     have HQ := yh ht
     by_cases hq : xs.length + s + ab.ar.sz x ≤ l
     ·
      rw [bY (by omega)]
      have e3 : l - (xs.length + s) - ab.ar.sz x = l - (xs.length + (s + ab.ar.sz x)) := by omega
      rw [e3]
      have e4 : decide (((l - (xs.length + (s + ab.ar.sz x)) : Nat) : Int) < 0) = false := by simp
      clear ht hle e3
      generalize hz : s + ab.ar.sz x = s2 at *
      have hs2 : xs.length + s2 ≤ l := by omega
      clear hz hq
      go_wp2_with fail
      go_roundw
      case rel => exact ⟨k + 1, s2, by omega, by go_num, (uh HQ).symm, hs2, rfl, uh HB⟩
      case measure => simp [intOf]; omega
     rw [ba (by omega)]
     have HN : Hid (l < xs.length + al ab.ar.sz xs) := by
      show l < xs.length + al ab.ar.sz xs
      omega
     clear ht hle
     go_wp2_with fail
     go_ret
     refine ⟨?_, uh HB⟩
     rw [uh HV, ba (uh HN)]
     rfl
    obtain rfl : k = xs.length := by omega
    have HE : Hid (s = al ab.ar.sz xs) := by
     have := uh HS
     rw [List.take_length] at this
     exact this
    have HB := yh hB
    clear hB HS
    go_wp2_with fail
    go_ret
    refine ⟨?_, uh HB⟩
    rw [uh HV, ← uh HE, bY hsl]
    rfl
  obtain rfl : xs = [] := List.eq_nil_of_length_eq_zero (by omega)
  clear h hp
  rw [uh HV]
  simp only [List.length_nil, al, Nat.add_zero, Nat.sub_zero] at *
  rw [bY (Nat.zero_le _)]
  have e3 : decide ((l : Int) < 0) = false := by simp
  go_enter Tryz.func44, Tryz.ntmps44
  go_wp2_with fail
  refine wp_loop_rounds 1 ?_
  rw [rounds_succ]
  go_wp2_with fail
  go_ret
  exact ⟨by simp, Below.refl _ _⟩
 have HN : Hid (kX l ((ab.sl ab.ar).sz xs) = -1) := ba (by rw [uh HV]; omega)
 rw [uh HN]
 have e2 : decide ((l : Int) - (xs.length : Int) < 0) = true := by simp; omega
 clear h HV HN
 generalize xs.length = n at *
 go_enter Tryz.func44, Tryz.ntmps44
 go_wp2_with fail
 go_ret
 exact ⟨rfl, Below.refl _ _⟩
theorem gR (x : ay) : ab.aC.sz x = ab.aD.sz x.chain + (ab.sl ab.ax).sz x.nodes + (ab.sl ab.aJ).sz x.msgs + (ab.sl ab.ar).sz x.ae := by
 show 0 + (0 + (ab.aD.sz x.chain + ((ab.sl ab.ax).sz x.nodes + ((ab.sl ab.aJ).sz x.msgs + ((ab.sl ab.ar).sz x.ae))))) = ab.aD.sz x.chain + (ab.sl ab.ax).sz x.nodes + (ab.sl ab.aJ).sz x.msgs + (ab.sl ab.ar).sz x.ae
 omega
theorem lW (cs : List Value) (x : ay) (l : Nat) (w : World) (h : ab.aC.Reads w cs x) (hl : l ≤ 1048576) :
  Calls Tryz.prog 11 #[.agg cs.toArray, .int .i64 l] w fun e w' => e = .returned (.int .i64 (kX l (ab.aC.sz x))) ∧ Below w.heap.size w w' := by
 obtain ⟨a3, d3, a4, d4, a5, d5, a6, d6, rfl, R2, R4, R5, R6⟩ := aG h
 clear h
 have HB0 : Below w.heap.size w (w.alloc (.cells #[.int .i64 x.now, .int .i64 x.events, .int .i64 x.chain.af, .slice a3 x.chain.ids.length d3, .slice a4 x.nodes.length d4, .slice a5 x.msgs.length d5, .slice a6 x.ae.length d6] 29)) := (Below.refl _ _).alloc (Nat.le_refl _) _
 have bA : aj w.heap.size #[.int .i64 x.now, .int .i64 x.events, .int .i64 x.chain.af, .slice a3 x.chain.ids.length d3, .slice a4 x.nodes.length d4, .slice a5 x.msgs.length d5, .slice a6 x.ae.length d6] 29 (w.alloc (.cells #[.int .i64 x.now, .int .i64 x.events, .int .i64 x.chain.af, .slice a3 x.chain.ids.length d3, .slice a4 x.nodes.length d4, .slice a5 x.msgs.length d5, .slice a6 x.ae.length d6] 29)) w.heap.size := aH (Nat.le_refl _)
 have HV := yh (gR x)
 go_enter Tryz.func11, Tryz.ntmps11
 go_wp2_with fail
 generalize w.alloc (.cells #[.int .i64 x.now, .int .i64 x.events, .int .i64 x.chain.af, .slice a3 x.chain.ids.length d3, .slice a4 x.nodes.length d4, .slice a5 x.msgs.length d5, .slice a6 x.ae.length d6] 29) = W0 at *
 replace R2 := R2.ag HB0
 replace R4 := R4.ag HB0
 replace R5 := R5.ag HB0
 replace R6 := R6.ag HB0
 refine (pw _ x.chain (l) _ R2 (by omega)).mono ?_
 rintro e w1 ⟨rfl, hb⟩
 replace HB0 := HB0.trans (hb.mono HB0.size)
 replace bA := bA.au hb
 replace R4 := R4.ag hb
 replace R5 := R5.ag hb
 replace R6 := R6.ag hb
 clear hb R2
 by_cases hs0 : ab.aD.sz x.chain ≤ l
 ·
  rw [bY hs0]
  have hq : decide (((l - ab.aD.sz x.chain : Nat) : Int) < 0) = false := by simp
  have p4 := bA.at 4 _ rfl
  have p5 := bA.at 5 _ rfl
  have p6 := bA.at 6 _ rfl
  have HX := yh HB0
  have HA := yh bA
  clear HB0 bA
  have P4 := yh R4
  clear R4
  have P5 := yh R5
  clear R5
  have P6 := yh R6
  clear R6
  go_wp2_with fail
  clear hq
  have HB0 := uh HX
  have bA := uh HA
  clear HX HA
  have R4 := uh P4
  clear P4
  have R5 := uh P5
  clear P5
  have R6 := uh P6
  clear P6
  clear p4
  clear p5
  clear p6
  refine (pD _ x.nodes (l - ab.aD.sz x.chain) _ R4 (by omega)).mono ?_
  rintro e w2 ⟨rfl, hb⟩
  replace HB0 := HB0.trans (hb.mono HB0.size)
  replace bA := bA.au hb
  replace R5 := R5.ag hb
  replace R6 := R6.ag hb
  clear hb R4
  by_cases hs1 : (ab.sl ab.ax).sz x.nodes ≤ l - ab.aD.sz x.chain
  ·
   rw [bY hs1]
   have hq : decide (((l - ab.aD.sz x.chain - (ab.sl ab.ax).sz x.nodes : Nat) : Int) < 0) = false := by simp
   have p5 := bA.at 5 _ rfl
   have p6 := bA.at 6 _ rfl
   have HX := yh HB0
   have HA := yh bA
   clear HB0 bA
   have P5 := yh R5
   clear R5
   have P6 := yh R6
   clear R6
   go_wp2_with fail
   clear hq
   have HB0 := uh HX
   have bA := uh HA
   clear HX HA
   have R5 := uh P5
   clear P5
   have R6 := uh P6
   clear P6
   clear p5
   clear p6
   refine (qO _ x.msgs (l - ab.aD.sz x.chain - (ab.sl ab.ax).sz x.nodes) _ R5 (by omega)).mono ?_
   rintro e w3 ⟨rfl, hb⟩
   replace HB0 := HB0.trans (hb.mono HB0.size)
   replace bA := bA.au hb
   replace R6 := R6.ag hb
   clear hb R5
   by_cases hs2 : (ab.sl ab.aJ).sz x.msgs ≤ l - ab.aD.sz x.chain - (ab.sl ab.ax).sz x.nodes
   ·
    rw [bY hs2]
    have hq : decide (((l - ab.aD.sz x.chain - (ab.sl ab.ax).sz x.nodes - (ab.sl ab.aJ).sz x.msgs : Nat) : Int) < 0) = false := by simp
    have p6 := bA.at 6 _ rfl
    have HX := yh HB0
    have HA := yh bA
    clear HB0 bA
    have P6 := yh R6
    clear R6
    go_wp2_with fail
    clear hq
    have HB0 := uh HX
    have bA := uh HA
    clear HX HA
    have R6 := uh P6
    clear P6
    clear p6
    refine (oS _ x.ae (l - ab.aD.sz x.chain - (ab.sl ab.ax).sz x.nodes - (ab.sl ab.aJ).sz x.msgs) _ R6 (by omega)).mono ?_
    rintro e w4 ⟨rfl, hb⟩
    replace HB0 := HB0.trans (hb.mono HB0.size)
    replace bA := bA.au hb
    clear hb R6
    by_cases hs3 : (ab.sl ab.ar).sz x.ae ≤ l - ab.aD.sz x.chain - (ab.sl ab.ax).sz x.nodes - (ab.sl ab.aJ).sz x.msgs
    ·
     rw [bY hs3]
     have hq : decide (((l - ab.aD.sz x.chain - (ab.sl ab.ax).sz x.nodes - (ab.sl ab.aJ).sz x.msgs - (ab.sl ab.ar).sz x.ae : Nat) : Int) < 0) = false := by simp
     have HX := yh HB0
     have HA := yh bA
     clear HB0 bA
     go_wp2_with fail
     clear hq
     go_ret
     refine ⟨?_, uh HX⟩
     rw [uh HV, bY (by omega), show l - (ab.aD.sz x.chain + (ab.sl ab.ax).sz x.nodes + (ab.sl ab.aJ).sz x.msgs + (ab.sl ab.ar).sz x.ae) = l - ab.aD.sz x.chain - (ab.sl ab.ax).sz x.nodes - (ab.sl ab.aJ).sz x.msgs - (ab.sl ab.ar).sz x.ae by omega]
     rfl
    rw [ba (by omega)]
    have HX := yh HB0
    clear HB0 bA
    go_wp2_with fail
    go_ret
    refine ⟨?_, uh HX⟩
    rw [uh HV, ba (by omega)]
    rfl
   rw [ba (by omega)]
   have HX := yh HB0
   clear HB0 bA
   go_wp2_with fail
   go_ret
   refine ⟨?_, uh HX⟩
   rw [uh HV, ba (by omega)]
   rfl
  rw [ba (by omega)]
  have HX := yh HB0
  clear HB0 bA
  go_wp2_with fail
  go_ret
  refine ⟨?_, uh HX⟩
  rw [uh HV, ba (by omega)]
  rfl
 rw [ba (by omega)]
 have HX := yh HB0
 clear HB0 bA
 go_wp2_with fail
 go_ret
 refine ⟨?_, uh HX⟩
 rw [uh HV, ba (by omega)]
 rfl
theorem qc (cs : List Value) (x : bH) (w : World) (h : ab.aD.Reads w cs x) (hn : ab.aD.sz x ≤ 1048576) :
  Calls Tryz.prog 53 #[.agg cs.toArray] w fun e w' => ∃ cs', e = .returned (.agg cs'.toArray) ∧ ab.aD.aQ w' cs' x w.heap.size w'.heap.size ∧ Below w.heap.size w w' := by
 have h0 := h
 obtain ⟨bl, hl⟩ := h0
 obtain ⟨-, -, -, -, -, f0, -⟩ := dp.1 hl
 clear hl
 obtain ⟨a1, d1, rfl, R1⟩ := bP h
 clear h
 rw [gW] at hn
 have HF := yh f0
 clear f0
 have HB0 : Below w.heap.size w (((w.alloc (.cells #[.int .i64 x.af, .slice a1 x.ids.length d1] 24)).alloc (.cells #[.int .i64 0, .slice none 0 0] 32)).alloc (.cells #[.int .i64 x.af, .slice none 0 0] 32)) := (((Below.refl _ _).alloc (Nat.le_refl _) _).alloc (by simp) _).alloc (by simp; omega) _
 have bA : aj w.heap.size #[.int .i64 x.af, .slice a1 x.ids.length d1] 24 (((w.alloc (.cells #[.int .i64 x.af, .slice a1 x.ids.length d1] 24)).alloc (.cells #[.int .i64 0, .slice none 0 0] 32)).alloc (.cells #[.int .i64 x.af, .slice none 0 0] 32)) w.heap.size := ((aH (Nat.le_refl _)).grow _).grow _
 have bR : aj w.heap.size #[.int .i64 0, .slice none 0 0] 32 (((w.alloc (.cells #[.int .i64 x.af, .slice a1 x.ids.length d1] 24)).alloc (.cells #[.int .i64 0, .slice none 0 0] 32)).alloc (.cells #[.int .i64 x.af, .slice none 0 0] 32)) (w.heap.size + 1) := (bg (by omega) (by simp)).grow _
 have bX : aj w.heap.size #[.int .i64 x.af, .slice none 0 0] 32 (((w.alloc (.cells #[.int .i64 x.af, .slice a1 x.ids.length d1] 24)).alloc (.cells #[.int .i64 0, .slice none 0 0] 32)).alloc (.cells #[.int .i64 x.af, .slice none 0 0] 32)) (w.heap.size + 2) := bg (by omega) (by simp)
 have hz0 : w.heap.size + 3 ≤ (((w.alloc (.cells #[.int .i64 x.af, .slice a1 x.ids.length d1] 24)).alloc (.cells #[.int .i64 0, .slice none 0 0] 32)).alloc (.cells #[.int .i64 x.af, .slice none 0 0] 32)).heap.size := by simp
 go_enter Tryz.func53, Tryz.ntmps53
 go_wp2_with fail
 generalize ((w.alloc (.cells #[.int .i64 x.af, .slice a1 x.ids.length d1] 24)).alloc (.cells #[.int .i64 0, .slice none 0 0] 32)).alloc (.cells #[.int .i64 x.af, .slice none 0 0] 32) = W0 at *
 replace R1 := R1.ag HB0
 refine (fA _ x.ids W0 R1 (by omega)).mono ?_
 rintro e w1 ⟨v1, rfl, O1, hb⟩
 have Z0 : W0.heap.size ≤ w1.heap.size := hb.size
 replace HB0 := HB0.trans (hb.mono HB0.size)
 replace bA := bA.au hb
 replace bR := bR.au hb
 replace bX := bX.au hb
 clear hb R1
 obtain ⟨a1z, d1z, rfl⟩ := aE O1.reads
 have q0 := bX.at 0 _ rfl
 have q1 := bX.at 1 _ rfl
 have qf := bX.soft
 have ql := bX.lt
 have pl := bA.lt
 have r0 := bR.at 0 _ rfl
 have r1 := bR.at 1 _ rfl
 have rf := bR.soft
 have rl := bR.lt
 simp only [ga, gb, gc] at q0 q1 r0 r1
 have hA := yh bA
 have hR := yh bR
 have hX := yh bX
 have hB := yh HB0
 clear bA bR bX HB0
 have hO1 := yh O1
 clear O1
 go_wp2_with fail
 refine bodyPost_ret (v := .agg #[.int .i64 x.af, .slice a1z x.ids.length d1z]) (by simp [results, Tryz.results53, go_sem, r0, r1]) rfl ?_
 have E : Ext (fun q => q = w.heap.size + 2 ∨ q = w.heap.size + 1) w1 _ := ck (ck (Ext.refl _ _) (w.heap.size + 2) [(1, .slice a1z x.ids.length d1z)] (Or.inl rfl)) (w.heap.size + 1) [(0, .int .i64 x.af), (1, .slice a1z x.ids.length d1z)] (Or.inr rfl)
 obtain f0 := uh HF
 have own : ab.aD.aQ _ [.int .i64 x.af, .slice a1z x.ids.length d1z] x w.heap.size w1.heap.size := (ab.aT (ab.br (lo := w.heap.size) (hi := w.heap.size) f0) ((uh hO1).ext E (fun k h1 h2 h3 => by omega)) (by omega) (by omega) (by omega))
 have hsz := E.size
 have told := ab.fE (w := w) own (by omega) (by omega) ((uh hB).trans (E.below (uh hB).size (fun k h1 h2 => by omega)))
 exact told
theorem lD (cs : List Value) (x : aA) (w : World) (h : ab.ai.Reads w cs x) (hn : ab.ai.sz x ≤ 1048576) :
  Calls Tryz.prog 174 #[.agg cs.toArray] w fun e w' => ∃ cs', e = .returned (.agg cs'.toArray) ∧ ab.ai.aQ w' cs' x w.heap.size w'.heap.size ∧ Below w.heap.size w w' := by
 have h0 := h
 obtain ⟨bl, hl⟩ := h0
 obtain ⟨-, -, -, -, -, f0, f1, -, f3, f4⟩ := cg.1 hl
 clear hl
 obtain ⟨a2, d2, rfl, R2⟩ := bk h
 clear h
 rw [gP] at hn
 have HF := yh (And.intro f0 (And.intro f1 (And.intro f3 (f4))))
 clear f0 f1 f3 f4
 have HB0 : Below w.heap.size w (((w.alloc (.cells #[.int .i64 x.kind, .int .i64 x.id, .slice a2 x.vec.length d2, .int .i64 x.aa, .int .i64 x.seq] 132)).alloc (.cells #[.int .i64 0, .int .i64 0, .slice none 0 0, .int .i64 0, .int .i64 0] 142)).alloc (.cells #[.int .i64 x.kind, .int .i64 x.id, .slice none 0 0, .int .i64 0, .int .i64 0] 142)) := (((Below.refl _ _).alloc (Nat.le_refl _) _).alloc (by simp) _).alloc (by simp; omega) _
 have bA : aj w.heap.size #[.int .i64 x.kind, .int .i64 x.id, .slice a2 x.vec.length d2, .int .i64 x.aa, .int .i64 x.seq] 132 (((w.alloc (.cells #[.int .i64 x.kind, .int .i64 x.id, .slice a2 x.vec.length d2, .int .i64 x.aa, .int .i64 x.seq] 132)).alloc (.cells #[.int .i64 0, .int .i64 0, .slice none 0 0, .int .i64 0, .int .i64 0] 142)).alloc (.cells #[.int .i64 x.kind, .int .i64 x.id, .slice none 0 0, .int .i64 0, .int .i64 0] 142)) w.heap.size := ((aH (Nat.le_refl _)).grow _).grow _
 have bR : aj w.heap.size #[.int .i64 0, .int .i64 0, .slice none 0 0, .int .i64 0, .int .i64 0] 142 (((w.alloc (.cells #[.int .i64 x.kind, .int .i64 x.id, .slice a2 x.vec.length d2, .int .i64 x.aa, .int .i64 x.seq] 132)).alloc (.cells #[.int .i64 0, .int .i64 0, .slice none 0 0, .int .i64 0, .int .i64 0] 142)).alloc (.cells #[.int .i64 x.kind, .int .i64 x.id, .slice none 0 0, .int .i64 0, .int .i64 0] 142)) (w.heap.size + 1) := (bg (by omega) (by simp)).grow _
 have bX : aj w.heap.size #[.int .i64 x.kind, .int .i64 x.id, .slice none 0 0, .int .i64 0, .int .i64 0] 142 (((w.alloc (.cells #[.int .i64 x.kind, .int .i64 x.id, .slice a2 x.vec.length d2, .int .i64 x.aa, .int .i64 x.seq] 132)).alloc (.cells #[.int .i64 0, .int .i64 0, .slice none 0 0, .int .i64 0, .int .i64 0] 142)).alloc (.cells #[.int .i64 x.kind, .int .i64 x.id, .slice none 0 0, .int .i64 0, .int .i64 0] 142)) (w.heap.size + 2) := bg (by omega) (by simp)
 have hz0 : w.heap.size + 3 ≤ (((w.alloc (.cells #[.int .i64 x.kind, .int .i64 x.id, .slice a2 x.vec.length d2, .int .i64 x.aa, .int .i64 x.seq] 132)).alloc (.cells #[.int .i64 0, .int .i64 0, .slice none 0 0, .int .i64 0, .int .i64 0] 142)).alloc (.cells #[.int .i64 x.kind, .int .i64 x.id, .slice none 0 0, .int .i64 0, .int .i64 0] 142)).heap.size := by simp
 go_enter Tryz.func174, Tryz.ntmps174
 go_wp2_with fail
 generalize ((w.alloc (.cells #[.int .i64 x.kind, .int .i64 x.id, .slice a2 x.vec.length d2, .int .i64 x.aa, .int .i64 x.seq] 132)).alloc (.cells #[.int .i64 0, .int .i64 0, .slice none 0 0, .int .i64 0, .int .i64 0] 142)).alloc (.cells #[.int .i64 x.kind, .int .i64 x.id, .slice none 0 0, .int .i64 0, .int .i64 0] 142) = W0 at *
 replace R2 := R2.ag HB0
 refine (fA _ x.vec W0 R2 (by omega)).mono ?_
 rintro e w1 ⟨v2, rfl, O2, hb⟩
 have Z0 : W0.heap.size ≤ w1.heap.size := hb.size
 replace HB0 := HB0.trans (hb.mono HB0.size)
 replace bA := bA.au hb
 replace bR := bR.au hb
 replace bX := bX.au hb
 clear hb R2
 obtain ⟨a2z, d2z, rfl⟩ := aE O2.reads
 have p3 := bA.at 3 _ rfl
 have p4 := bA.at 4 _ rfl
 have q0 := bX.at 0 _ rfl
 have q1 := bX.at 1 _ rfl
 have q2 := bX.at 2 _ rfl
 have q3 := bX.at 3 _ rfl
 have q4 := bX.at 4 _ rfl
 have qf := bX.soft
 have ql := bX.lt
 have pl := bA.lt
 have r0 := bR.at 0 _ rfl
 have r1 := bR.at 1 _ rfl
 have r2 := bR.at 2 _ rfl
 have r3 := bR.at 3 _ rfl
 have r4 := bR.at 4 _ rfl
 have rf := bR.soft
 have rl := bR.lt
 simp only [ga, gb, gc] at p3 p4 q0 q1 q2 q3 q4 r0 r1 r2 r3 r4
 have hA := yh bA
 have hR := yh bR
 have hX := yh bX
 have hB := yh HB0
 clear bA bR bX HB0
 have hO2 := yh O2
 clear O2
 go_wp2_with fail
 refine bodyPost_ret (v := .agg #[.int .i64 x.kind, .int .i64 x.id, .slice a2z x.vec.length d2z, .int .i64 x.aa, .int .i64 x.seq]) (by simp [results, Tryz.results174, go_sem, r0, r1, r2, r3, r4]) rfl ?_
 have E : Ext (fun q => q = w.heap.size + 2 ∨ q = w.heap.size + 1) w1 _ := ck (ck (Ext.refl _ _) (w.heap.size + 2) [(2, .slice a2z x.vec.length d2z), (3, .int .i64 x.aa), (4, .int .i64 x.seq)] (Or.inl rfl)) (w.heap.size + 1) [(0, .int .i64 x.kind), (1, .int .i64 x.id), (2, .slice a2z x.vec.length d2z), (3, .int .i64 x.aa), (4, .int .i64 x.seq)] (Or.inr rfl)
 obtain ⟨f0, f1, f3, f4⟩ := uh HF
 have own : ab.ai.aQ _ [.int .i64 x.kind, .int .i64 x.id, .slice a2z x.vec.length d2z, .int .i64 x.aa, .int .i64 x.seq] x w.heap.size w1.heap.size := (ab.aT (ab.br (lo := w.heap.size) (hi := w.heap.size) f0) (ab.aT (ab.br (lo := w.heap.size) (hi := w.heap.size) f1) (ab.aT ((uh hO2).ext E (fun k h1 h2 h3 => by omega)) (ab.aT (ab.br (lo := w1.heap.size) (hi := w1.heap.size) f3) (ab.br (lo := w1.heap.size) (hi := w1.heap.size) f4) (by omega) (by omega) (by omega)) (by omega) (by omega) (by omega)) (by omega) (by omega) (by omega)) (by omega) (by omega) (by omega))
 have hsz := E.size
 have told := ab.fE (w := w) own (by omega) (by omega) ((uh hB).trans (E.below (uh hB).size (fun k h1 h2 => by omega)))
 exact told
theorem oH : (Tryz.prog.info? 142).map (fun i => (i.zero, i.size, decide (i.bytes ≤ 1000))) = some (some (.agg #[.int .i64 0, .int .i64 0, .slice none 0 0, .int .i64 0, .int .i64 0]), 5, true) := by kernel_rfl
theorem ou (v : Value) (xs : List aA) (w : World) (h : (ab.sl ab.ai).Reads w [v] xs) (hn : (ab.sl ab.ai).sz xs ≤ 1048576) :
  Calls Tryz.prog 173 #[v] w fun e w' => ∃ v', e = .returned v' ∧ (ab.sl ab.ai).aQ w' [v'] xs w.heap.size w'.heap.size ∧ Below w.heap.size w w' := by
 have hbig := h.dK
 obtain ⟨ao, cap, rfl⟩ := aE h
 have hlen : xs.length ≤ 1048576 := Nat.le_trans ab.fv hn
 obtain ⟨i0, hi, hz0, hz1, hz2⟩ : ∃ i, Tryz.prog.info? 142 = some i ∧ i.zero = some (.agg #[.int .i64 0, .int .i64 0, .slice none 0 0, .int .i64 0, .int .i64 0]) ∧ i.size = 5 ∧ i.bytes ≤ 1000 := by
  have := oH
  cases hq : Tryz.prog.info? 142 with
  | none => rw [hq] at this; simp at this
  | some i =>
   rw [hq] at this
   simp only [Option.map_some, Option.some.injEq, Prod.mk.injEq, decide_eq_true_eq] at this
   exact ⟨i, rfl, this.1, this.2.1, this.2.2⟩
 have H := yh h
 have HN := yh hn
 clear h hn
 go_enter Tryz.func173, Tryz.ntmps173
 go_wp2_with (at_make; refine wpList_make_full _ rfl _ _ 77 rfl w.heap.size 142 i0 _ 5 Tryz.underlying77 hi hz0 hz1 _ _ _ _ xs.length rfl rfl rfl rfl ?c1 ?c2 ?c3 ?_)
 case c1 => have := Nat.mul_le_mul hz2 hlen; omega
 case c2 => unfold maxLen; omega
 case c3 => exact Nat.le_refl _
 intro w1 hown1 hgrow1
 have hB1 : Below w.heap.size w w1 := (Below.refl _ _).grown hgrow1 (Nat.le_refl _) (by simp)
 clear hgrow1 hi hz0 hz1 hz2
 have HO1 := yh hown1
 have HB1 := yh hB1
 clear hown1 hB1
 go_wp2_with fail
 go_loopw [4] (fun i wr => ∃ (k : Nat) (rows : List (List Value)) (Q : List Value) (hi : Nat), k ≤ xs.length ∧ i = .int .i64 k ∧ wr.ownsRow w.heap.size 142 5 (.slice (some ⟨w.heap.size, 0, none⟩) xs.length xs.length) xs.length (rows.flatten ++ Q) ∧ Q.length = (xs.length - k) * 5 ∧ ab.fo ab.ai wr rows (xs.take k) (w.heap.size + 1) hi ∧ hi ≤ wr.heap.size ∧ w.heap.size < hi ∧ Below w.heap.size w wr) (fun i _ => xs.length - (intOf i).toNat)
 case atStart =>
  have hl := ((uh HO1).lt w.heap.size rfl).2
  exact ⟨0, [], _, w1.heap.size, Nat.zero_le _, rfl, by simpa using uh HO1, by have := (uh HO1).1; simpa using this, ab.dC, Nat.le_refl _, hl, uh HB1⟩
 case round =>
  obtain ⟨k, rows, Q, hi, hk, rfl, hown, hQ, hsub, hhi, hlo, hB⟩ := hrel
  clear HO1 HB1
  by_cases hlt : k < xs.length
  ·
   obtain ⟨b, off, rfl, hbl⟩ := ab.aI (uh H) (by omega)
   obtain ⟨row, hc, hr⟩ := ab.bm (uh H) hlt
   replace hr := hr.ag hB
   have hr2 := hr
   obtain ⟨a2, d2, rfl, -⟩ := bk hr2
   have c0 : wr.cell? ⟨b, off + k * 5, none⟩ = some (.int .i64 (xs[k]).kind) := (hB.cell (p := ⟨b, off + k * 5, none⟩) hbl).trans (hc 0 (by decide))
   have c1 : wr.cell? ⟨b, off + k * 5 + 1, none⟩ = some (.int .i64 (xs[k]).id) := (hB.cell (p := ⟨b, off + k * 5 + 1, none⟩) hbl).trans (hc 1 (by decide))
   have c2 : wr.cell? ⟨b, off + k * 5 + 2, none⟩ = some (.slice a2 (xs[k]).vec.length d2) := (hB.cell (p := ⟨b, off + k * 5 + 2, none⟩) hbl).trans (hc 2 (by decide))
   have c3 : wr.cell? ⟨b, off + k * 5 + 3, none⟩ = some (.int .i64 (xs[k]).aa) := (hB.cell (p := ⟨b, off + k * 5 + 3, none⟩) hbl).trans (hc 3 (by decide))
   have c4 : wr.cell? ⟨b, off + k * 5 + 4, none⟩ = some (.int .i64 (xs[k]).seq) := (hB.cell (p := ⟨b, off + k * 5 + 4, none⟩) hbl).trans (hc 4 (by decide))
   have hrl : rows.flatten.length = k * 5 := by have := (ab.dB hsub).1; rw [List.length_take, Nat.min_eq_left hk] at this; exact this
   have hsz := Nat.le_trans (ab.fw (A := ab.ai) hlt) (uh HN)
   have HT : Hid (xs.take (k + 1) = xs.take k ++ [xs[k]]) := List.take_succ_eq_append_getElem hlt
   have HB := yh hB
   have HR := yh hr
   have HO := yh hown
   have HS := yh hsub
   have HQ := yh hQ
   clear hB hr hc hown hsub hQ
   generalize hxk : xs[k] = x at *
   clear hxk
   go_wp2_with fail
   refine (lD _ x wr (uh HR) hsz).mono ?_
   rintro e w2 ⟨cs2, rfl, O, hb⟩
   have o2 := cJ (uh HO) hb
   replace HS := yh (ab.da (ab.cf (uh HS) (aL hb cU) (fun _ _ _ h => h)) O (by omega) (by omega) (Nat.le_trans hhi hb.size))
   have hb2 := (uh HB).trans (hb.mono (uh HB).size)
   have hz := hb.size
   have orr := O.reads
   obtain ⟨a2z, d2z, rfl, -⟩ := bk orr
   clear hb HR HB HO O c0 c1 c2 c3 c4
   have hQ := uh HQ
   have hl5 : (rows.flatten ++ Q).length = xs.length * 5 := o2.1
   obtain ⟨u0, g0⟩ : ∃ u, w2.cell? ⟨w.heap.size, k * 5, none⟩ = some u := by
    rw [o2.cellAt (k * 5) (by omega)]
    exact gZ (by omega)
   have t0 := o2.frozenAt (k * 5)
   obtain ⟨u1, g1⟩ : ∃ u, w2.cell? ⟨w.heap.size, k * 5 + 1, none⟩ = some u := by
    rw [o2.cellAt (k * 5 + 1) (by omega)]
    exact gZ (by omega)
   have t1 := o2.frozenAt (k * 5 + 1)
   obtain ⟨u2, g2⟩ : ∃ u, w2.cell? ⟨w.heap.size, k * 5 + 2, none⟩ = some u := by
    rw [o2.cellAt (k * 5 + 2) (by omega)]
    exact gZ (by omega)
   have t2 := o2.frozenAt (k * 5 + 2)
   obtain ⟨u3, g3⟩ : ∃ u, w2.cell? ⟨w.heap.size, k * 5 + 3, none⟩ = some u := by
    rw [o2.cellAt (k * 5 + 3) (by omega)]
    exact gZ (by omega)
   have t3 := o2.frozenAt (k * 5 + 3)
   obtain ⟨u4, g4⟩ : ∃ u, w2.cell? ⟨w.heap.size, k * 5 + 4, none⟩ = some u := by
    rw [o2.cellAt (k * 5 + 4) (by omega)]
    exact gZ (by omega)
   have t4 := o2.frozenAt (k * 5 + 4)
   have o3 := cN o2 (k * 5) [.int .i64 x.kind, .int .i64 x.id, .slice a2z x.vec.length d2z, .int .i64 x.aa, .int .i64 x.seq]
   rw [show k * 5 = rows.flatten.length from hrl.symm, cF _ _ _ (by rw [hQ]; simp; have : 1 * 5 ≤ (xs.length - k) * 5 := Nat.mul_le_mul_right _ (by omega); omega), hrl] at o3
   have E : Ext (fun q => q = w.heap.size) w2 (aO w2 w.heap.size (k * 5) [.int .i64 x.kind, .int .i64 x.id, .slice a2z x.vec.length d2z, .int .i64 x.aa, .int .i64 x.seq]) := bD _ (Ext.refl _ _) _ _ _ rfl
   replace HS := yh (ab.cf (uh HS) E (fun q h1 h2 h3 => by omega))
   have HB := yh (aP hb2 w.heap.size (k * 5) [.int .i64 x.kind, .int .i64 x.id, .slice a2z x.vec.length d2z, .int .i64 x.aa, .int .i64 x.seq] (Nat.le_refl _))
   have HZ : Hid ((aO w2 w.heap.size (k * 5) [.int .i64 x.kind, .int .i64 x.id, .slice a2z x.vec.length d2z, .int .i64 x.aa, .int .i64 x.seq]).heap.size = w2.heap.size) := bF _ _ _ _
   have HO : Hid ((aO w2 w.heap.size (k * 5) [.int .i64 x.kind, .int .i64 x.id, .slice a2z x.vec.length d2z, .int .i64 x.aa, .int .i64 x.seq]).ownsRow w.heap.size 142 5 (.slice (some ⟨w.heap.size, 0, none⟩) xs.length xs.length) xs.length ((rows ++ [([.int .i64 x.kind, .int .i64 x.id, .slice a2z x.vec.length d2z, .int .i64 x.aa, .int .i64 x.seq] : List Value)]).flatten ++ Q.drop 5)) := by
    show (aO w2 w.heap.size (k * 5) [.int .i64 x.kind, .int .i64 x.id, .slice a2z x.vec.length d2z, .int .i64 x.aa, .int .i64 x.seq]).ownsRow w.heap.size 142 5 (.slice (some ⟨w.heap.size, 0, none⟩) xs.length xs.length) xs.length ((rows ++ [([.int .i64 x.kind, .int .i64 x.id, .slice a2z x.vec.length d2z, .int .i64 x.aa, .int .i64 x.seq] : List Value)]).flatten ++ Q.drop 5)
    rw [List.flatten_append]
    simpa using o3
   have hl2 := (o2.lt w.heap.size rfl).2
   clear o3 o2 E hb2 hl5
   have hQ2 : Hid ((Q.drop 5).length = (xs.length - (k + 1)) * 5) := by
    show (Q.drop 5).length = (xs.length - (k + 1)) * 5
    rw [List.length_drop, hQ, show xs.length - k = xs.length - (k + 1) + 1 by omega, Nat.add_mul]
    omega
   clear hQ HQ
   go_wp2_with fail
   go_roundw
   case rel => exact ⟨k + 1, rows ++ [([.int .i64 x.kind, .int .i64 x.id, .slice a2z x.vec.length d2z, .int .i64 x.aa, .int .i64 x.seq] : List Value)], Q.drop 5, w2.heap.size, by omega, by go_num, uh HO, uh hQ2, (by rw [uh HT]; exact uh HS), Nat.le_of_eq (uh HZ).symm, by omega, uh HB⟩
   case measure => simp [intOf]; omega
  obtain rfl : k = xs.length := by omega
  have e0 : Q = [] := List.eq_nil_of_length_eq_zero (by rw [hQ]; simp)
  subst e0
  rw [List.append_nil] at hown
  rw [List.take_length] at hsub
  have HO := yh (ab.dc (A := ab.ai) hown hsub (by omega) hhi hbig)
  have HB := yh hB
  clear hown hsub hB
  go_wp2_with fail
  go_ret
  exact ⟨_, rfl, uh HO, uh HB⟩
theorem qG (cs : List Value) (x : bz) (w : World) (h : ab.ax.Reads w cs x) (hn : ab.ax.sz x ≤ 1048576) :
  Calls Tryz.prog 106 #[.agg cs.toArray] w fun e w' => ∃ cs', e = .returned (.agg cs'.toArray) ∧ ab.ax.aQ w' cs' x w.heap.size w'.heap.size ∧ Below w.heap.size w w' := by
 have h0 := h
 obtain ⟨bl, hl⟩ := h0
 obtain ⟨-, -, -, -, -, f0, f2, f3, -, f5, f6⟩ := dd.1 hl
 clear hl
 obtain ⟨a4, d4, rfl, R4⟩ := bK h
 clear h
 rw [jn] at hn
 have HF := yh (And.intro f0 (And.intro f2 (And.intro f3 (And.intro f5 (f6)))))
 clear f0 f2 f3 f5 f6
 have HB0 : Below w.heap.size w (((w.alloc (.cells #[.int .i64 x.id, .bool x.up, .int .i64 x.af, .int .i64 x.az, .slice a4 x.writes.length d4, .int .i64 x.sure, .int .i64 x.clean] 129)).alloc (.cells #[.int .i64 0, .bool false, .int .i64 0, .int .i64 0, .slice none 0 0, .int .i64 0, .int .i64 0] 79)).alloc (.cells #[.int .i64 x.id, .bool x.up, .int .i64 x.af, .int .i64 x.az, .slice none 0 0, .int .i64 0, .int .i64 0] 79)) := (((Below.refl _ _).alloc (Nat.le_refl _) _).alloc (by simp) _).alloc (by simp; omega) _
 have bA : aj w.heap.size #[.int .i64 x.id, .bool x.up, .int .i64 x.af, .int .i64 x.az, .slice a4 x.writes.length d4, .int .i64 x.sure, .int .i64 x.clean] 129 (((w.alloc (.cells #[.int .i64 x.id, .bool x.up, .int .i64 x.af, .int .i64 x.az, .slice a4 x.writes.length d4, .int .i64 x.sure, .int .i64 x.clean] 129)).alloc (.cells #[.int .i64 0, .bool false, .int .i64 0, .int .i64 0, .slice none 0 0, .int .i64 0, .int .i64 0] 79)).alloc (.cells #[.int .i64 x.id, .bool x.up, .int .i64 x.af, .int .i64 x.az, .slice none 0 0, .int .i64 0, .int .i64 0] 79)) w.heap.size := ((aH (Nat.le_refl _)).grow _).grow _
 have bR : aj w.heap.size #[.int .i64 0, .bool false, .int .i64 0, .int .i64 0, .slice none 0 0, .int .i64 0, .int .i64 0] 79 (((w.alloc (.cells #[.int .i64 x.id, .bool x.up, .int .i64 x.af, .int .i64 x.az, .slice a4 x.writes.length d4, .int .i64 x.sure, .int .i64 x.clean] 129)).alloc (.cells #[.int .i64 0, .bool false, .int .i64 0, .int .i64 0, .slice none 0 0, .int .i64 0, .int .i64 0] 79)).alloc (.cells #[.int .i64 x.id, .bool x.up, .int .i64 x.af, .int .i64 x.az, .slice none 0 0, .int .i64 0, .int .i64 0] 79)) (w.heap.size + 1) := (bg (by omega) (by simp)).grow _
 have bX : aj w.heap.size #[.int .i64 x.id, .bool x.up, .int .i64 x.af, .int .i64 x.az, .slice none 0 0, .int .i64 0, .int .i64 0] 79 (((w.alloc (.cells #[.int .i64 x.id, .bool x.up, .int .i64 x.af, .int .i64 x.az, .slice a4 x.writes.length d4, .int .i64 x.sure, .int .i64 x.clean] 129)).alloc (.cells #[.int .i64 0, .bool false, .int .i64 0, .int .i64 0, .slice none 0 0, .int .i64 0, .int .i64 0] 79)).alloc (.cells #[.int .i64 x.id, .bool x.up, .int .i64 x.af, .int .i64 x.az, .slice none 0 0, .int .i64 0, .int .i64 0] 79)) (w.heap.size + 2) := bg (by omega) (by simp)
 have hz0 : w.heap.size + 3 ≤ (((w.alloc (.cells #[.int .i64 x.id, .bool x.up, .int .i64 x.af, .int .i64 x.az, .slice a4 x.writes.length d4, .int .i64 x.sure, .int .i64 x.clean] 129)).alloc (.cells #[.int .i64 0, .bool false, .int .i64 0, .int .i64 0, .slice none 0 0, .int .i64 0, .int .i64 0] 79)).alloc (.cells #[.int .i64 x.id, .bool x.up, .int .i64 x.af, .int .i64 x.az, .slice none 0 0, .int .i64 0, .int .i64 0] 79)).heap.size := by simp
 go_enter Tryz.func106, Tryz.ntmps106
 go_wp2_with fail
 generalize ((w.alloc (.cells #[.int .i64 x.id, .bool x.up, .int .i64 x.af, .int .i64 x.az, .slice a4 x.writes.length d4, .int .i64 x.sure, .int .i64 x.clean] 129)).alloc (.cells #[.int .i64 0, .bool false, .int .i64 0, .int .i64 0, .slice none 0 0, .int .i64 0, .int .i64 0] 79)).alloc (.cells #[.int .i64 x.id, .bool x.up, .int .i64 x.af, .int .i64 x.az, .slice none 0 0, .int .i64 0, .int .i64 0] 79) = W0 at *
 replace R4 := R4.ag HB0
 refine (ou _ x.writes W0 R4 (by omega)).mono ?_
 rintro e w1 ⟨v4, rfl, O4, hb⟩
 have Z0 : W0.heap.size ≤ w1.heap.size := hb.size
 replace HB0 := HB0.trans (hb.mono HB0.size)
 replace bA := bA.au hb
 replace bR := bR.au hb
 replace bX := bX.au hb
 clear hb R4
 obtain ⟨a4z, d4z, rfl⟩ := aE O4.reads
 have p5 := bA.at 5 _ rfl
 have p6 := bA.at 6 _ rfl
 have q0 := bX.at 0 _ rfl
 have q1 := bX.at 1 _ rfl
 have q2 := bX.at 2 _ rfl
 have q3 := bX.at 3 _ rfl
 have q4 := bX.at 4 _ rfl
 have q5 := bX.at 5 _ rfl
 have q6 := bX.at 6 _ rfl
 have qf := bX.soft
 have ql := bX.lt
 have pl := bA.lt
 have r0 := bR.at 0 _ rfl
 have r1 := bR.at 1 _ rfl
 have r2 := bR.at 2 _ rfl
 have r3 := bR.at 3 _ rfl
 have r4 := bR.at 4 _ rfl
 have r5 := bR.at 5 _ rfl
 have r6 := bR.at 6 _ rfl
 have rf := bR.soft
 have rl := bR.lt
 simp only [ga, gb, gc] at p5 p6 q0 q1 q2 q3 q4 q5 q6 r0 r1 r2 r3 r4 r5 r6
 have hA := yh bA
 have hR := yh bR
 have hX := yh bX
 have hB := yh HB0
 clear bA bR bX HB0
 have hO4 := yh O4
 clear O4
 go_wp2_with fail
 refine bodyPost_ret (v := .agg #[.int .i64 x.id, .bool x.up, .int .i64 x.af, .int .i64 x.az, .slice a4z x.writes.length d4z, .int .i64 x.sure, .int .i64 x.clean]) (by simp [results, Tryz.results106, go_sem, r0, r1, r2, r3, r4, r5, r6]) rfl ?_
 have E : Ext (fun q => q = w.heap.size + 2 ∨ q = w.heap.size + 1) w1 _ := ck (ck (Ext.refl _ _) (w.heap.size + 2) [(4, .slice a4z x.writes.length d4z), (5, .int .i64 x.sure), (6, .int .i64 x.clean)] (Or.inl rfl)) (w.heap.size + 1) [(0, .int .i64 x.id), (1, .bool x.up), (2, .int .i64 x.af), (3, .int .i64 x.az), (4, .slice a4z x.writes.length d4z), (5, .int .i64 x.sure), (6, .int .i64 x.clean)] (Or.inr rfl)
 obtain ⟨f0, f2, f3, f5, f6⟩ := uh HF
 have own : ab.ax.aQ _ [.int .i64 x.id, .bool x.up, .int .i64 x.af, .int .i64 x.az, .slice a4z x.writes.length d4z, .int .i64 x.sure, .int .i64 x.clean] x w.heap.size w1.heap.size := (ab.aT (ab.br (lo := w.heap.size) (hi := w.heap.size) f0) (ab.aT (ab.mZ (lo := w.heap.size) (hi := w.heap.size)) (ab.aT (ab.br (lo := w.heap.size) (hi := w.heap.size) f2) (ab.aT (ab.br (lo := w.heap.size) (hi := w.heap.size) f3) (ab.aT ((uh hO4).ext E (fun k h1 h2 h3 => by omega)) (ab.aT (ab.br (lo := w1.heap.size) (hi := w1.heap.size) f5) (ab.br (lo := w1.heap.size) (hi := w1.heap.size) f6) (by omega) (by omega) (by omega)) (by omega) (by omega) (by omega)) (by omega) (by omega) (by omega)) (by omega) (by omega) (by omega)) (by omega) (by omega) (by omega)) (by omega) (by omega) (by omega))
 have hsz := E.size
 have told := ab.fE (w := w) own (by omega) (by omega) ((uh hB).trans (E.below (uh hB).size (fun k h1 h2 => by omega)))
 exact told
theorem ph : (Tryz.prog.info? 79).map (fun i => (i.zero, i.size, decide (i.bytes ≤ 1000))) = some (some (.agg #[.int .i64 0, .bool false, .int .i64 0, .int .i64 0, .slice none 0 0, .int .i64 0, .int .i64 0]), 7, true) := by kernel_rfl
theorem qg (v : Value) (xs : List bz) (w : World) (h : (ab.sl ab.ax).Reads w [v] xs) (hn : (ab.sl ab.ax).sz xs ≤ 1048576) :
  Calls Tryz.prog 54 #[v] w fun e w' => ∃ v', e = .returned v' ∧ (ab.sl ab.ax).aQ w' [v'] xs w.heap.size w'.heap.size ∧ Below w.heap.size w w' := by
 have hbig := h.dK
 obtain ⟨ao, cap, rfl⟩ := aE h
 have hlen : xs.length ≤ 1048576 := Nat.le_trans ab.fv hn
 obtain ⟨i0, hi, hz0, hz1, hz2⟩ : ∃ i, Tryz.prog.info? 79 = some i ∧ i.zero = some (.agg #[.int .i64 0, .bool false, .int .i64 0, .int .i64 0, .slice none 0 0, .int .i64 0, .int .i64 0]) ∧ i.size = 7 ∧ i.bytes ≤ 1000 := by
  have := ph
  cases hq : Tryz.prog.info? 79 with
  | none => rw [hq] at this; simp at this
  | some i =>
   rw [hq] at this
   simp only [Option.map_some, Option.some.injEq, Prod.mk.injEq, decide_eq_true_eq] at this
   exact ⟨i, rfl, this.1, this.2.1, this.2.2⟩
 have H := yh h
 have HN := yh hn
 clear h hn
 go_enter Tryz.func54, Tryz.ntmps54
 go_wp2_with (at_make; refine wpList_make_full _ rfl _ _ 33 rfl w.heap.size 79 i0 _ 7 Tryz.underlying33 hi hz0 hz1 _ _ _ _ xs.length rfl rfl rfl rfl ?c1 ?c2 ?c3 ?_)
 case c1 => have := Nat.mul_le_mul hz2 hlen; omega
 case c2 => unfold maxLen; omega
 case c3 => exact Nat.le_refl _
 intro w1 hown1 hgrow1
 have hB1 : Below w.heap.size w w1 := (Below.refl _ _).grown hgrow1 (Nat.le_refl _) (by simp)
 clear hgrow1 hi hz0 hz1 hz2
 have HO1 := yh hown1
 have HB1 := yh hB1
 clear hown1 hB1
 go_wp2_with fail
 go_loopw [4] (fun i wr => ∃ (k : Nat) (rows : List (List Value)) (Q : List Value) (hi : Nat), k ≤ xs.length ∧ i = .int .i64 k ∧ wr.ownsRow w.heap.size 79 7 (.slice (some ⟨w.heap.size, 0, none⟩) xs.length xs.length) xs.length (rows.flatten ++ Q) ∧ Q.length = (xs.length - k) * 7 ∧ ab.fo ab.ax wr rows (xs.take k) (w.heap.size + 1) hi ∧ hi ≤ wr.heap.size ∧ w.heap.size < hi ∧ Below w.heap.size w wr) (fun i _ => xs.length - (intOf i).toNat)
 case atStart =>
  have hl := ((uh HO1).lt w.heap.size rfl).2
  exact ⟨0, [], _, w1.heap.size, Nat.zero_le _, rfl, by simpa using uh HO1, by have := (uh HO1).1; simpa using this, ab.dC, Nat.le_refl _, hl, uh HB1⟩
 case round =>
  obtain ⟨k, rows, Q, hi, hk, rfl, hown, hQ, hsub, hhi, hlo, hB⟩ := hrel
  clear HO1 HB1
  by_cases hlt : k < xs.length
  ·
   obtain ⟨b, off, rfl, hbl⟩ := ab.aI (uh H) (by omega)
   obtain ⟨row, hc, hr⟩ := ab.bm (uh H) hlt
   replace hr := hr.ag hB
   have hr2 := hr
   obtain ⟨a4, d4, rfl, -⟩ := bK hr2
   have c0 : wr.cell? ⟨b, off + k * 7, none⟩ = some (.int .i64 (xs[k]).id) := (hB.cell (p := ⟨b, off + k * 7, none⟩) hbl).trans (hc 0 (by decide))
   have c1 : wr.cell? ⟨b, off + k * 7 + 1, none⟩ = some (.bool (xs[k]).up) := (hB.cell (p := ⟨b, off + k * 7 + 1, none⟩) hbl).trans (hc 1 (by decide))
   have c2 : wr.cell? ⟨b, off + k * 7 + 2, none⟩ = some (.int .i64 (xs[k]).af) := (hB.cell (p := ⟨b, off + k * 7 + 2, none⟩) hbl).trans (hc 2 (by decide))
   have c3 : wr.cell? ⟨b, off + k * 7 + 3, none⟩ = some (.int .i64 (xs[k]).az) := (hB.cell (p := ⟨b, off + k * 7 + 3, none⟩) hbl).trans (hc 3 (by decide))
   have c4 : wr.cell? ⟨b, off + k * 7 + 4, none⟩ = some (.slice a4 (xs[k]).writes.length d4) := (hB.cell (p := ⟨b, off + k * 7 + 4, none⟩) hbl).trans (hc 4 (by decide))
   have c5 : wr.cell? ⟨b, off + k * 7 + 5, none⟩ = some (.int .i64 (xs[k]).sure) := (hB.cell (p := ⟨b, off + k * 7 + 5, none⟩) hbl).trans (hc 5 (by decide))
   have c6 : wr.cell? ⟨b, off + k * 7 + 6, none⟩ = some (.int .i64 (xs[k]).clean) := (hB.cell (p := ⟨b, off + k * 7 + 6, none⟩) hbl).trans (hc 6 (by decide))
   have hrl : rows.flatten.length = k * 7 := by have := (ab.dB hsub).1; rw [List.length_take, Nat.min_eq_left hk] at this; exact this
   have hsz := Nat.le_trans (ab.fw (A := ab.ax) hlt) (uh HN)
   have HT : Hid (xs.take (k + 1) = xs.take k ++ [xs[k]]) := List.take_succ_eq_append_getElem hlt
   have HB := yh hB
   have HR := yh hr
   have HO := yh hown
   have HS := yh hsub
   have HQ := yh hQ
   clear hB hr hc hown hsub hQ
   generalize hxk : xs[k] = x at *
   clear hxk
   go_wp2_with fail
   refine (qG _ x wr (uh HR) hsz).mono ?_
   rintro e w2 ⟨cs2, rfl, O, hb⟩
   have o2 := cJ (uh HO) hb
   replace HS := yh (ab.da (ab.cf (uh HS) (aL hb cU) (fun _ _ _ h => h)) O (by omega) (by omega) (Nat.le_trans hhi hb.size))
   have hb2 := (uh HB).trans (hb.mono (uh HB).size)
   have hz := hb.size
   have orr := O.reads
   obtain ⟨a4z, d4z, rfl, -⟩ := bK orr
   clear hb HR HB HO O c0 c1 c2 c3 c4 c5 c6
   have hQ := uh HQ
   have hl5 : (rows.flatten ++ Q).length = xs.length * 7 := o2.1
   obtain ⟨u0, g0⟩ : ∃ u, w2.cell? ⟨w.heap.size, k * 7, none⟩ = some u := by
    rw [o2.cellAt (k * 7) (by omega)]
    exact gZ (by omega)
   have t0 := o2.frozenAt (k * 7)
   obtain ⟨u1, g1⟩ : ∃ u, w2.cell? ⟨w.heap.size, k * 7 + 1, none⟩ = some u := by
    rw [o2.cellAt (k * 7 + 1) (by omega)]
    exact gZ (by omega)
   have t1 := o2.frozenAt (k * 7 + 1)
   obtain ⟨u2, g2⟩ : ∃ u, w2.cell? ⟨w.heap.size, k * 7 + 2, none⟩ = some u := by
    rw [o2.cellAt (k * 7 + 2) (by omega)]
    exact gZ (by omega)
   have t2 := o2.frozenAt (k * 7 + 2)
   obtain ⟨u3, g3⟩ : ∃ u, w2.cell? ⟨w.heap.size, k * 7 + 3, none⟩ = some u := by
    rw [o2.cellAt (k * 7 + 3) (by omega)]
    exact gZ (by omega)
   have t3 := o2.frozenAt (k * 7 + 3)
   obtain ⟨u4, g4⟩ : ∃ u, w2.cell? ⟨w.heap.size, k * 7 + 4, none⟩ = some u := by
    rw [o2.cellAt (k * 7 + 4) (by omega)]
    exact gZ (by omega)
   have t4 := o2.frozenAt (k * 7 + 4)
   obtain ⟨u5, g5⟩ : ∃ u, w2.cell? ⟨w.heap.size, k * 7 + 5, none⟩ = some u := by
    rw [o2.cellAt (k * 7 + 5) (by omega)]
    exact gZ (by omega)
   have t5 := o2.frozenAt (k * 7 + 5)
   obtain ⟨u6, g6⟩ : ∃ u, w2.cell? ⟨w.heap.size, k * 7 + 6, none⟩ = some u := by
    rw [o2.cellAt (k * 7 + 6) (by omega)]
    exact gZ (by omega)
   have t6 := o2.frozenAt (k * 7 + 6)
   have o3 := cN o2 (k * 7) [.int .i64 x.id, .bool x.up, .int .i64 x.af, .int .i64 x.az, .slice a4z x.writes.length d4z, .int .i64 x.sure, .int .i64 x.clean]
   rw [show k * 7 = rows.flatten.length from hrl.symm, cF _ _ _ (by rw [hQ]; simp; have : 1 * 7 ≤ (xs.length - k) * 7 := Nat.mul_le_mul_right _ (by omega); omega), hrl] at o3
   have E : Ext (fun q => q = w.heap.size) w2 (aO w2 w.heap.size (k * 7) [.int .i64 x.id, .bool x.up, .int .i64 x.af, .int .i64 x.az, .slice a4z x.writes.length d4z, .int .i64 x.sure, .int .i64 x.clean]) := bD _ (Ext.refl _ _) _ _ _ rfl
   replace HS := yh (ab.cf (uh HS) E (fun q h1 h2 h3 => by omega))
   have HB := yh (aP hb2 w.heap.size (k * 7) [.int .i64 x.id, .bool x.up, .int .i64 x.af, .int .i64 x.az, .slice a4z x.writes.length d4z, .int .i64 x.sure, .int .i64 x.clean] (Nat.le_refl _))
   have HZ : Hid ((aO w2 w.heap.size (k * 7) [.int .i64 x.id, .bool x.up, .int .i64 x.af, .int .i64 x.az, .slice a4z x.writes.length d4z, .int .i64 x.sure, .int .i64 x.clean]).heap.size = w2.heap.size) := bF _ _ _ _
   have HO : Hid ((aO w2 w.heap.size (k * 7) [.int .i64 x.id, .bool x.up, .int .i64 x.af, .int .i64 x.az, .slice a4z x.writes.length d4z, .int .i64 x.sure, .int .i64 x.clean]).ownsRow w.heap.size 79 7 (.slice (some ⟨w.heap.size, 0, none⟩) xs.length xs.length) xs.length ((rows ++ [([.int .i64 x.id, .bool x.up, .int .i64 x.af, .int .i64 x.az, .slice a4z x.writes.length d4z, .int .i64 x.sure, .int .i64 x.clean] : List Value)]).flatten ++ Q.drop 7)) := by
    show (aO w2 w.heap.size (k * 7) [.int .i64 x.id, .bool x.up, .int .i64 x.af, .int .i64 x.az, .slice a4z x.writes.length d4z, .int .i64 x.sure, .int .i64 x.clean]).ownsRow w.heap.size 79 7 (.slice (some ⟨w.heap.size, 0, none⟩) xs.length xs.length) xs.length ((rows ++ [([.int .i64 x.id, .bool x.up, .int .i64 x.af, .int .i64 x.az, .slice a4z x.writes.length d4z, .int .i64 x.sure, .int .i64 x.clean] : List Value)]).flatten ++ Q.drop 7)
    rw [List.flatten_append]
    simpa using o3
   have hl2 := (o2.lt w.heap.size rfl).2
   clear o3 o2 E hb2 hl5
   have hQ2 : Hid ((Q.drop 7).length = (xs.length - (k + 1)) * 7) := by
    show (Q.drop 7).length = (xs.length - (k + 1)) * 7
    rw [List.length_drop, hQ, show xs.length - k = xs.length - (k + 1) + 1 by omega, Nat.add_mul]
    omega
   clear hQ HQ
   go_wp2_with fail
   go_roundw
   case rel => exact ⟨k + 1, rows ++ [([.int .i64 x.id, .bool x.up, .int .i64 x.af, .int .i64 x.az, .slice a4z x.writes.length d4z, .int .i64 x.sure, .int .i64 x.clean] : List Value)], Q.drop 7, w2.heap.size, by omega, by go_num, uh HO, uh hQ2, (by rw [uh HT]; exact uh HS), Nat.le_of_eq (uh HZ).symm, by omega, uh HB⟩
   case measure => simp [intOf]; omega
  obtain rfl : k = xs.length := by omega
  have e0 : Q = [] := List.eq_nil_of_length_eq_zero (by rw [hQ]; simp)
  subst e0
  rw [List.append_nil] at hown
  rw [List.take_length] at hsub
  have HO := yh (ab.dc (A := ab.ax) hown hsub (by omega) hhi hbig)
  have HB := yh hB
  clear hown hsub hB
  go_wp2_with fail
  go_ret
  exact ⟨_, rfl, uh HO, uh HB⟩
theorem sc (cs : List Value) (x : bJ) (w : World) (h : ab.aJ.Reads w cs x) (hn : ab.aJ.sz x ≤ 1048576) :
  Calls Tryz.prog 107 #[.agg cs.toArray] w fun e w' => ∃ cs', e = .returned (.agg cs'.toArray) ∧ ab.aJ.aQ w' cs' x w.heap.size w'.heap.size ∧ Below w.heap.size w w' := by
 have h0 := h
 obtain ⟨bl, hl⟩ := h0
 obtain ⟨-, -, -, -, -, f0, f1, f2, f3, f4, f5, f6, -, f8, f9⟩ := dV.1 hl
 clear hl
 obtain ⟨a7, d7, rfl, R5⟩ := cx h
 clear h
 rw [jO] at hn
 have HF := yh (And.intro f0 (And.intro f1 (And.intro f2 (And.intro f3 (And.intro f4 (And.intro f5 (And.intro f6 (And.intro f8 (f9)))))))))
 clear f0 f1 f2 f3 f4 f5 f6 f8 f9
 have HB0 : Below w.heap.size w (((w.alloc (.cells #[.int .i64 x.kind, .int .i64 x.af, .int .i64 x.src, .int .i64 x.dst, .int .i64 x.index, .int .i64 x.write.kind, .int .i64 x.write.id, .slice a7 x.write.vec.length d7, .int .i64 x.write.aa, .int .i64 x.write.seq] 134)).alloc (.cells #[.int .i64 0, .int .i64 0, .int .i64 0, .int .i64 0, .int .i64 0, .int .i64 0, .int .i64 0, .slice none 0 0, .int .i64 0, .int .i64 0] 145)).alloc (.cells #[.int .i64 x.kind, .int .i64 x.af, .int .i64 x.src, .int .i64 x.dst, .int .i64 x.index, .int .i64 0, .int .i64 0, .slice none 0 0, .int .i64 0, .int .i64 0] 145)) := (((Below.refl _ _).alloc (Nat.le_refl _) _).alloc (by simp) _).alloc (by simp; omega) _
 have bA : aj w.heap.size #[.int .i64 x.kind, .int .i64 x.af, .int .i64 x.src, .int .i64 x.dst, .int .i64 x.index, .int .i64 x.write.kind, .int .i64 x.write.id, .slice a7 x.write.vec.length d7, .int .i64 x.write.aa, .int .i64 x.write.seq] 134 (((w.alloc (.cells #[.int .i64 x.kind, .int .i64 x.af, .int .i64 x.src, .int .i64 x.dst, .int .i64 x.index, .int .i64 x.write.kind, .int .i64 x.write.id, .slice a7 x.write.vec.length d7, .int .i64 x.write.aa, .int .i64 x.write.seq] 134)).alloc (.cells #[.int .i64 0, .int .i64 0, .int .i64 0, .int .i64 0, .int .i64 0, .int .i64 0, .int .i64 0, .slice none 0 0, .int .i64 0, .int .i64 0] 145)).alloc (.cells #[.int .i64 x.kind, .int .i64 x.af, .int .i64 x.src, .int .i64 x.dst, .int .i64 x.index, .int .i64 0, .int .i64 0, .slice none 0 0, .int .i64 0, .int .i64 0] 145)) w.heap.size := ((aH (Nat.le_refl _)).grow _).grow _
 have bR : aj w.heap.size #[.int .i64 0, .int .i64 0, .int .i64 0, .int .i64 0, .int .i64 0, .int .i64 0, .int .i64 0, .slice none 0 0, .int .i64 0, .int .i64 0] 145 (((w.alloc (.cells #[.int .i64 x.kind, .int .i64 x.af, .int .i64 x.src, .int .i64 x.dst, .int .i64 x.index, .int .i64 x.write.kind, .int .i64 x.write.id, .slice a7 x.write.vec.length d7, .int .i64 x.write.aa, .int .i64 x.write.seq] 134)).alloc (.cells #[.int .i64 0, .int .i64 0, .int .i64 0, .int .i64 0, .int .i64 0, .int .i64 0, .int .i64 0, .slice none 0 0, .int .i64 0, .int .i64 0] 145)).alloc (.cells #[.int .i64 x.kind, .int .i64 x.af, .int .i64 x.src, .int .i64 x.dst, .int .i64 x.index, .int .i64 0, .int .i64 0, .slice none 0 0, .int .i64 0, .int .i64 0] 145)) (w.heap.size + 1) := (bg (by omega) (by simp)).grow _
 have bX : aj w.heap.size #[.int .i64 x.kind, .int .i64 x.af, .int .i64 x.src, .int .i64 x.dst, .int .i64 x.index, .int .i64 0, .int .i64 0, .slice none 0 0, .int .i64 0, .int .i64 0] 145 (((w.alloc (.cells #[.int .i64 x.kind, .int .i64 x.af, .int .i64 x.src, .int .i64 x.dst, .int .i64 x.index, .int .i64 x.write.kind, .int .i64 x.write.id, .slice a7 x.write.vec.length d7, .int .i64 x.write.aa, .int .i64 x.write.seq] 134)).alloc (.cells #[.int .i64 0, .int .i64 0, .int .i64 0, .int .i64 0, .int .i64 0, .int .i64 0, .int .i64 0, .slice none 0 0, .int .i64 0, .int .i64 0] 145)).alloc (.cells #[.int .i64 x.kind, .int .i64 x.af, .int .i64 x.src, .int .i64 x.dst, .int .i64 x.index, .int .i64 0, .int .i64 0, .slice none 0 0, .int .i64 0, .int .i64 0] 145)) (w.heap.size + 2) := bg (by omega) (by simp)
 have hz0 : w.heap.size + 3 ≤ (((w.alloc (.cells #[.int .i64 x.kind, .int .i64 x.af, .int .i64 x.src, .int .i64 x.dst, .int .i64 x.index, .int .i64 x.write.kind, .int .i64 x.write.id, .slice a7 x.write.vec.length d7, .int .i64 x.write.aa, .int .i64 x.write.seq] 134)).alloc (.cells #[.int .i64 0, .int .i64 0, .int .i64 0, .int .i64 0, .int .i64 0, .int .i64 0, .int .i64 0, .slice none 0 0, .int .i64 0, .int .i64 0] 145)).alloc (.cells #[.int .i64 x.kind, .int .i64 x.af, .int .i64 x.src, .int .i64 x.dst, .int .i64 x.index, .int .i64 0, .int .i64 0, .slice none 0 0, .int .i64 0, .int .i64 0] 145)).heap.size := by simp
 go_enter Tryz.func107, Tryz.ntmps107
 go_wp2_with fail
 generalize ((w.alloc (.cells #[.int .i64 x.kind, .int .i64 x.af, .int .i64 x.src, .int .i64 x.dst, .int .i64 x.index, .int .i64 x.write.kind, .int .i64 x.write.id, .slice a7 x.write.vec.length d7, .int .i64 x.write.aa, .int .i64 x.write.seq] 134)).alloc (.cells #[.int .i64 0, .int .i64 0, .int .i64 0, .int .i64 0, .int .i64 0, .int .i64 0, .int .i64 0, .slice none 0 0, .int .i64 0, .int .i64 0] 145)).alloc (.cells #[.int .i64 x.kind, .int .i64 x.af, .int .i64 x.src, .int .i64 x.dst, .int .i64 x.index, .int .i64 0, .int .i64 0, .slice none 0 0, .int .i64 0, .int .i64 0] 145) = W0 at *
 replace R5 := R5.ag HB0
 refine (lD _ x.write W0 R5 (by omega)).mono ?_
 rintro e w1 ⟨v5, rfl, O5, hb⟩
 have Z0 : W0.heap.size ≤ w1.heap.size := hb.size
 replace HB0 := HB0.trans (hb.mono HB0.size)
 replace bA := bA.au hb
 replace bR := bR.au hb
 replace bX := bX.au hb
 clear hb R5
 obtain ⟨a7z, d7z, rfl, -⟩ := bk O5.reads
 have q0 := bX.at 0 _ rfl
 have q1 := bX.at 1 _ rfl
 have q2 := bX.at 2 _ rfl
 have q3 := bX.at 3 _ rfl
 have q4 := bX.at 4 _ rfl
 have q5 := bX.at 5 _ rfl
 have q6 := bX.at 6 _ rfl
 have q7 := bX.at 7 _ rfl
 have q8 := bX.at 8 _ rfl
 have q9 := bX.at 9 _ rfl
 have qf := bX.soft
 have ql := bX.lt
 have pl := bA.lt
 have r0 := bR.at 0 _ rfl
 have r1 := bR.at 1 _ rfl
 have r2 := bR.at 2 _ rfl
 have r3 := bR.at 3 _ rfl
 have r4 := bR.at 4 _ rfl
 have r5 := bR.at 5 _ rfl
 have r6 := bR.at 6 _ rfl
 have r7 := bR.at 7 _ rfl
 have r8 := bR.at 8 _ rfl
 have r9 := bR.at 9 _ rfl
 have rf := bR.soft
 have rl := bR.lt
 simp only [ga, gb, gc] at q0 q1 q2 q3 q4 q5 q6 q7 q8 q9 r0 r1 r2 r3 r4 r5 r6 r7 r8 r9
 have hA := yh bA
 have hR := yh bR
 have hX := yh bX
 have hB := yh HB0
 clear bA bR bX HB0
 have hO5 := yh O5
 clear O5
 go_wp2_with fail
 refine bodyPost_ret (v := .agg #[.int .i64 x.kind, .int .i64 x.af, .int .i64 x.src, .int .i64 x.dst, .int .i64 x.index, .int .i64 x.write.kind, .int .i64 x.write.id, .slice a7z x.write.vec.length d7z, .int .i64 x.write.aa, .int .i64 x.write.seq]) (by simp [results, Tryz.results107, go_sem, r0, r1, r2, r3, r4, r5, r6, r7, r8, r9]) rfl ?_
 have E : Ext (fun q => q = w.heap.size + 2 ∨ q = w.heap.size + 1) w1 _ := ck (ck (Ext.refl _ _) (w.heap.size + 2) [(5, .int .i64 x.write.kind), (6, .int .i64 x.write.id), (7, .slice a7z x.write.vec.length d7z), (8, .int .i64 x.write.aa), (9, .int .i64 x.write.seq)] (Or.inl rfl)) (w.heap.size + 1) [(0, .int .i64 x.kind), (1, .int .i64 x.af), (2, .int .i64 x.src), (3, .int .i64 x.dst), (4, .int .i64 x.index), (5, .int .i64 x.write.kind), (6, .int .i64 x.write.id), (7, .slice a7z x.write.vec.length d7z), (8, .int .i64 x.write.aa), (9, .int .i64 x.write.seq)] (Or.inr rfl)
 obtain ⟨f0, f1, f2, f3, f4, f5, f6, f8, f9⟩ := uh HF
 have own : ab.aJ.aQ _ [.int .i64 x.kind, .int .i64 x.af, .int .i64 x.src, .int .i64 x.dst, .int .i64 x.index, .int .i64 x.write.kind, .int .i64 x.write.id, .slice a7z x.write.vec.length d7z, .int .i64 x.write.aa, .int .i64 x.write.seq] x w.heap.size w1.heap.size := (ab.aT (ab.br (lo := w.heap.size) (hi := w.heap.size) f0) (ab.aT (ab.br (lo := w.heap.size) (hi := w.heap.size) f1) (ab.aT (ab.br (lo := w.heap.size) (hi := w.heap.size) f2) (ab.aT (ab.br (lo := w.heap.size) (hi := w.heap.size) f3) (ab.aT (ab.br (lo := w.heap.size) (hi := w.heap.size) f4) ((uh hO5).ext E (fun k h1 h2 h3 => by omega)) (by omega) (by omega) (by omega)) (by omega) (by omega) (by omega)) (by omega) (by omega) (by omega)) (by omega) (by omega) (by omega)) (by omega) (by omega) (by omega))
 have hsz := E.size
 have told := ab.fE (w := w) own (by omega) (by omega) ((uh hB).trans (E.below (uh hB).size (fun k h1 h2 => by omega)))
 exact told
theorem rq : (Tryz.prog.info? 145).map (fun i => (i.zero, i.size, decide (i.bytes ≤ 1000))) = some (some (.agg #[.int .i64 0, .int .i64 0, .int .i64 0, .int .i64 0, .int .i64 0, .int .i64 0, .int .i64 0, .slice none 0 0, .int .i64 0, .int .i64 0]), 10, true) := by kernel_rfl
theorem qY (v : Value) (xs : List bJ) (w : World) (h : (ab.sl ab.aJ).Reads w [v] xs) (hn : (ab.sl ab.aJ).sz xs ≤ 1048576) :
  Calls Tryz.prog 55 #[v] w fun e w' => ∃ v', e = .returned v' ∧ (ab.sl ab.aJ).aQ w' [v'] xs w.heap.size w'.heap.size ∧ Below w.heap.size w w' := by
 have hbig := h.dK
 obtain ⟨ao, cap, rfl⟩ := aE h
 have hlen : xs.length ≤ 1048576 := Nat.le_trans ab.fv hn
 obtain ⟨i0, hi, hz0, hz1, hz2⟩ : ∃ i, Tryz.prog.info? 145 = some i ∧ i.zero = some (.agg #[.int .i64 0, .int .i64 0, .int .i64 0, .int .i64 0, .int .i64 0, .int .i64 0, .int .i64 0, .slice none 0 0, .int .i64 0, .int .i64 0]) ∧ i.size = 10 ∧ i.bytes ≤ 1000 := by
  have := rq
  cases hq : Tryz.prog.info? 145 with
  | none => rw [hq] at this; simp at this
  | some i =>
   rw [hq] at this
   simp only [Option.map_some, Option.some.injEq, Prod.mk.injEq, decide_eq_true_eq] at this
   exact ⟨i, rfl, this.1, this.2.1, this.2.2⟩
 have H := yh h
 have HN := yh hn
 clear h hn
 go_enter Tryz.func55, Tryz.ntmps55
 go_wp2_with (at_make; refine wpList_make_full _ rfl _ _ 34 rfl w.heap.size 145 i0 _ 10 Tryz.underlying34 hi hz0 hz1 _ _ _ _ xs.length rfl rfl rfl rfl ?c1 ?c2 ?c3 ?_)
 case c1 => have := Nat.mul_le_mul hz2 hlen; omega
 case c2 => unfold maxLen; omega
 case c3 => exact Nat.le_refl _
 intro w1 hown1 hgrow1
 have hB1 : Below w.heap.size w w1 := (Below.refl _ _).grown hgrow1 (Nat.le_refl _) (by simp)
 clear hgrow1 hi hz0 hz1 hz2
 have HO1 := yh hown1
 have HB1 := yh hB1
 clear hown1 hB1
 go_wp2_with fail
 go_loopw [4] (fun i wr => ∃ (k : Nat) (rows : List (List Value)) (Q : List Value) (hi : Nat), k ≤ xs.length ∧ i = .int .i64 k ∧ wr.ownsRow w.heap.size 145 10 (.slice (some ⟨w.heap.size, 0, none⟩) xs.length xs.length) xs.length (rows.flatten ++ Q) ∧ Q.length = (xs.length - k) * 10 ∧ ab.fo ab.aJ wr rows (xs.take k) (w.heap.size + 1) hi ∧ hi ≤ wr.heap.size ∧ w.heap.size < hi ∧ Below w.heap.size w wr) (fun i _ => xs.length - (intOf i).toNat)
 case atStart =>
  have hl := ((uh HO1).lt w.heap.size rfl).2
  exact ⟨0, [], _, w1.heap.size, Nat.zero_le _, rfl, by simpa using uh HO1, by have := (uh HO1).1; simpa using this, ab.dC, Nat.le_refl _, hl, uh HB1⟩
 case round =>
  obtain ⟨k, rows, Q, hi, hk, rfl, hown, hQ, hsub, hhi, hlo, hB⟩ := hrel
  clear HO1 HB1
  by_cases hlt : k < xs.length
  ·
   obtain ⟨b, off, rfl, hbl⟩ := ab.aI (uh H) (by omega)
   obtain ⟨row, hc, hr⟩ := ab.bm (uh H) hlt
   replace hr := hr.ag hB
   have hr2 := hr
   obtain ⟨a7, d7, rfl, -⟩ := cx hr2
   have c0 : wr.cell? ⟨b, off + k * 10, none⟩ = some (.int .i64 (xs[k]).kind) := (hB.cell (p := ⟨b, off + k * 10, none⟩) hbl).trans (hc 0 (by decide))
   have c1 : wr.cell? ⟨b, off + k * 10 + 1, none⟩ = some (.int .i64 (xs[k]).af) := (hB.cell (p := ⟨b, off + k * 10 + 1, none⟩) hbl).trans (hc 1 (by decide))
   have c2 : wr.cell? ⟨b, off + k * 10 + 2, none⟩ = some (.int .i64 (xs[k]).src) := (hB.cell (p := ⟨b, off + k * 10 + 2, none⟩) hbl).trans (hc 2 (by decide))
   have c3 : wr.cell? ⟨b, off + k * 10 + 3, none⟩ = some (.int .i64 (xs[k]).dst) := (hB.cell (p := ⟨b, off + k * 10 + 3, none⟩) hbl).trans (hc 3 (by decide))
   have c4 : wr.cell? ⟨b, off + k * 10 + 4, none⟩ = some (.int .i64 (xs[k]).index) := (hB.cell (p := ⟨b, off + k * 10 + 4, none⟩) hbl).trans (hc 4 (by decide))
   have c5 : wr.cell? ⟨b, off + k * 10 + 5, none⟩ = some (.int .i64 (xs[k]).write.kind) := (hB.cell (p := ⟨b, off + k * 10 + 5, none⟩) hbl).trans (hc 5 (by decide))
   have c6 : wr.cell? ⟨b, off + k * 10 + 6, none⟩ = some (.int .i64 (xs[k]).write.id) := (hB.cell (p := ⟨b, off + k * 10 + 6, none⟩) hbl).trans (hc 6 (by decide))
   have c7 : wr.cell? ⟨b, off + k * 10 + 7, none⟩ = some (.slice a7 (xs[k]).write.vec.length d7) := (hB.cell (p := ⟨b, off + k * 10 + 7, none⟩) hbl).trans (hc 7 (by decide))
   have c8 : wr.cell? ⟨b, off + k * 10 + 8, none⟩ = some (.int .i64 (xs[k]).write.aa) := (hB.cell (p := ⟨b, off + k * 10 + 8, none⟩) hbl).trans (hc 8 (by decide))
   have c9 : wr.cell? ⟨b, off + k * 10 + 9, none⟩ = some (.int .i64 (xs[k]).write.seq) := (hB.cell (p := ⟨b, off + k * 10 + 9, none⟩) hbl).trans (hc 9 (by decide))
   have hrl : rows.flatten.length = k * 10 := by have := (ab.dB hsub).1; rw [List.length_take, Nat.min_eq_left hk] at this; exact this
   have hsz := Nat.le_trans (ab.fw (A := ab.aJ) hlt) (uh HN)
   have HT : Hid (xs.take (k + 1) = xs.take k ++ [xs[k]]) := List.take_succ_eq_append_getElem hlt
   have HB := yh hB
   have HR := yh hr
   have HO := yh hown
   have HS := yh hsub
   have HQ := yh hQ
   clear hB hr hc hown hsub hQ
   generalize hxk : xs[k] = x at *
   clear hxk
   go_wp2_with fail
   refine (sc _ x wr (uh HR) hsz).mono ?_
   rintro e w2 ⟨cs2, rfl, O, hb⟩
   have o2 := cJ (uh HO) hb
   replace HS := yh (ab.da (ab.cf (uh HS) (aL hb cU) (fun _ _ _ h => h)) O (by omega) (by omega) (Nat.le_trans hhi hb.size))
   have hb2 := (uh HB).trans (hb.mono (uh HB).size)
   have hz := hb.size
   have orr := O.reads
   obtain ⟨a7z, d7z, rfl, -⟩ := cx orr
   clear hb HR HB HO O c0 c1 c2 c3 c4 c5 c6 c7 c8 c9
   have hQ := uh HQ
   have hl5 : (rows.flatten ++ Q).length = xs.length * 10 := o2.1
   obtain ⟨u0, g0⟩ : ∃ u, w2.cell? ⟨w.heap.size, k * 10, none⟩ = some u := by
    rw [o2.cellAt (k * 10) (by omega)]
    exact gZ (by omega)
   have t0 := o2.frozenAt (k * 10)
   obtain ⟨u1, g1⟩ : ∃ u, w2.cell? ⟨w.heap.size, k * 10 + 1, none⟩ = some u := by
    rw [o2.cellAt (k * 10 + 1) (by omega)]
    exact gZ (by omega)
   have t1 := o2.frozenAt (k * 10 + 1)
   obtain ⟨u2, g2⟩ : ∃ u, w2.cell? ⟨w.heap.size, k * 10 + 2, none⟩ = some u := by
    rw [o2.cellAt (k * 10 + 2) (by omega)]
    exact gZ (by omega)
   have t2 := o2.frozenAt (k * 10 + 2)
   obtain ⟨u3, g3⟩ : ∃ u, w2.cell? ⟨w.heap.size, k * 10 + 3, none⟩ = some u := by
    rw [o2.cellAt (k * 10 + 3) (by omega)]
    exact gZ (by omega)
   have t3 := o2.frozenAt (k * 10 + 3)
   obtain ⟨u4, g4⟩ : ∃ u, w2.cell? ⟨w.heap.size, k * 10 + 4, none⟩ = some u := by
    rw [o2.cellAt (k * 10 + 4) (by omega)]
    exact gZ (by omega)
   have t4 := o2.frozenAt (k * 10 + 4)
   obtain ⟨u5, g5⟩ : ∃ u, w2.cell? ⟨w.heap.size, k * 10 + 5, none⟩ = some u := by
    rw [o2.cellAt (k * 10 + 5) (by omega)]
    exact gZ (by omega)
   have t5 := o2.frozenAt (k * 10 + 5)
   obtain ⟨u6, g6⟩ : ∃ u, w2.cell? ⟨w.heap.size, k * 10 + 6, none⟩ = some u := by
    rw [o2.cellAt (k * 10 + 6) (by omega)]
    exact gZ (by omega)
   have t6 := o2.frozenAt (k * 10 + 6)
   obtain ⟨u7, g7⟩ : ∃ u, w2.cell? ⟨w.heap.size, k * 10 + 7, none⟩ = some u := by
    rw [o2.cellAt (k * 10 + 7) (by omega)]
    exact gZ (by omega)
   have t7 := o2.frozenAt (k * 10 + 7)
   obtain ⟨u8, g8⟩ : ∃ u, w2.cell? ⟨w.heap.size, k * 10 + 8, none⟩ = some u := by
    rw [o2.cellAt (k * 10 + 8) (by omega)]
    exact gZ (by omega)
   have t8 := o2.frozenAt (k * 10 + 8)
   obtain ⟨u9, g9⟩ : ∃ u, w2.cell? ⟨w.heap.size, k * 10 + 9, none⟩ = some u := by
    rw [o2.cellAt (k * 10 + 9) (by omega)]
    exact gZ (by omega)
   have t9 := o2.frozenAt (k * 10 + 9)
   have o3 := cN o2 (k * 10) [.int .i64 x.kind, .int .i64 x.af, .int .i64 x.src, .int .i64 x.dst, .int .i64 x.index, .int .i64 x.write.kind, .int .i64 x.write.id, .slice a7z x.write.vec.length d7z, .int .i64 x.write.aa, .int .i64 x.write.seq]
   rw [show k * 10 = rows.flatten.length from hrl.symm, cF _ _ _ (by rw [hQ]; simp; have : 1 * 10 ≤ (xs.length - k) * 10 := Nat.mul_le_mul_right _ (by omega); omega), hrl] at o3
   have E : Ext (fun q => q = w.heap.size) w2 (aO w2 w.heap.size (k * 10) [.int .i64 x.kind, .int .i64 x.af, .int .i64 x.src, .int .i64 x.dst, .int .i64 x.index, .int .i64 x.write.kind, .int .i64 x.write.id, .slice a7z x.write.vec.length d7z, .int .i64 x.write.aa, .int .i64 x.write.seq]) := bD _ (Ext.refl _ _) _ _ _ rfl
   replace HS := yh (ab.cf (uh HS) E (fun q h1 h2 h3 => by omega))
   have HB := yh (aP hb2 w.heap.size (k * 10) [.int .i64 x.kind, .int .i64 x.af, .int .i64 x.src, .int .i64 x.dst, .int .i64 x.index, .int .i64 x.write.kind, .int .i64 x.write.id, .slice a7z x.write.vec.length d7z, .int .i64 x.write.aa, .int .i64 x.write.seq] (Nat.le_refl _))
   have HZ : Hid ((aO w2 w.heap.size (k * 10) [.int .i64 x.kind, .int .i64 x.af, .int .i64 x.src, .int .i64 x.dst, .int .i64 x.index, .int .i64 x.write.kind, .int .i64 x.write.id, .slice a7z x.write.vec.length d7z, .int .i64 x.write.aa, .int .i64 x.write.seq]).heap.size = w2.heap.size) := bF _ _ _ _
   have HO : Hid ((aO w2 w.heap.size (k * 10) [.int .i64 x.kind, .int .i64 x.af, .int .i64 x.src, .int .i64 x.dst, .int .i64 x.index, .int .i64 x.write.kind, .int .i64 x.write.id, .slice a7z x.write.vec.length d7z, .int .i64 x.write.aa, .int .i64 x.write.seq]).ownsRow w.heap.size 145 10 (.slice (some ⟨w.heap.size, 0, none⟩) xs.length xs.length) xs.length ((rows ++ [([.int .i64 x.kind, .int .i64 x.af, .int .i64 x.src, .int .i64 x.dst, .int .i64 x.index, .int .i64 x.write.kind, .int .i64 x.write.id, .slice a7z x.write.vec.length d7z, .int .i64 x.write.aa, .int .i64 x.write.seq] : List Value)]).flatten ++ Q.drop 10)) := by
    show (aO w2 w.heap.size (k * 10) [.int .i64 x.kind, .int .i64 x.af, .int .i64 x.src, .int .i64 x.dst, .int .i64 x.index, .int .i64 x.write.kind, .int .i64 x.write.id, .slice a7z x.write.vec.length d7z, .int .i64 x.write.aa, .int .i64 x.write.seq]).ownsRow w.heap.size 145 10 (.slice (some ⟨w.heap.size, 0, none⟩) xs.length xs.length) xs.length ((rows ++ [([.int .i64 x.kind, .int .i64 x.af, .int .i64 x.src, .int .i64 x.dst, .int .i64 x.index, .int .i64 x.write.kind, .int .i64 x.write.id, .slice a7z x.write.vec.length d7z, .int .i64 x.write.aa, .int .i64 x.write.seq] : List Value)]).flatten ++ Q.drop 10)
    rw [List.flatten_append]
    simpa using o3
   have hl2 := (o2.lt w.heap.size rfl).2
   clear o3 o2 E hb2 hl5
   have hQ2 : Hid ((Q.drop 10).length = (xs.length - (k + 1)) * 10) := by
    show (Q.drop 10).length = (xs.length - (k + 1)) * 10
    rw [List.length_drop, hQ, show xs.length - k = xs.length - (k + 1) + 1 by omega, Nat.add_mul]
    omega
   clear hQ HQ
   go_wp2_with fail
   go_roundw
   case rel => exact ⟨k + 1, rows ++ [([.int .i64 x.kind, .int .i64 x.af, .int .i64 x.src, .int .i64 x.dst, .int .i64 x.index, .int .i64 x.write.kind, .int .i64 x.write.id, .slice a7z x.write.vec.length d7z, .int .i64 x.write.aa, .int .i64 x.write.seq] : List Value)], Q.drop 10, w2.heap.size, by omega, by go_num, uh HO, uh hQ2, (by rw [uh HT]; exact uh HS), Nat.le_of_eq (uh HZ).symm, by omega, uh HB⟩
   case measure => simp [intOf]; omega
  obtain rfl : k = xs.length := by omega
  have e0 : Q = [] := List.eq_nil_of_length_eq_zero (by rw [hQ]; simp)
  subst e0
  rw [List.append_nil] at hown
  rw [List.take_length] at hsub
  have HO := yh (ab.dc (A := ab.aJ) hown hsub (by omega) hhi hbig)
  have HB := yh hB
  clear hown hsub hB
  go_wp2_with fail
  go_ret
  exact ⟨_, rfl, uh HO, uh HB⟩
theorem sC (cs : List Value) (x : dR) (w : World) (h : ab.bb.Reads w cs x) :
  Calls Tryz.prog 221 #[.agg cs.toArray] w fun e w' => ∃ cs', e = .returned (.agg cs'.toArray) ∧ ab.bb.aQ w' cs' x w.heap.size w'.heap.size ∧ Below w.heap.size w w' := by
 have h0 := h
 obtain ⟨bl, hl⟩ := h0
 obtain ⟨-, -, f0, f1⟩ := cB.1 hl
 clear hl
 obtain ⟨bl2, hl2⟩ := h
 obtain ⟨rfl, -⟩ := cB.1 hl2
 clear hl2
 have HF := yh (And.intro f0 (f1))
 clear f0 f1
 have HB : Hid (∀ o p q, Below w.heap.size w (((w.alloc o).alloc p).alloc q)) := fun o p q => (((Below.refl _ _).alloc (Nat.le_refl _) _).alloc (by simp) _).alloc (by simp; omega) _
 go_enter Tryz.func221, Tryz.ntmps221
 go_wp2
 refine bodyPost_ret (v := .agg #[.int .i64 x.id, .int .i64 x.score]) (by simp [results, Tryz.results221, go_sem]) rfl ?_
 obtain ⟨f0, f1⟩ := uh HF
 refine ⟨[.int .i64 x.id, .int .i64 x.score], rfl, ?_, uh HB _ _ _⟩
 have own : ∀ W : World, ab.bb.aQ W [.int .i64 x.id, .int .i64 x.score] x w.heap.size w.heap.size := fun W => (ab.aT (ab.br (lo := w.heap.size) (hi := w.heap.size) f0) (ab.br (lo := w.heap.size) (hi := w.heap.size) f1) (Nat.le_refl _) (Nat.le_refl _) (Nat.le_refl _))
 exact (own _).mono (Nat.le_refl _) (uh HB _ _ _).size
theorem rJ : (Tryz.prog.info? 150).map (fun i => (i.zero, i.size, decide (i.bytes ≤ 1000))) = some (some (.agg #[.int .i64 0, .int .i64 0]), 2, true) := by kernel_rfl
theorem rE (v : Value) (xs : List dR) (w : World) (h : (ab.sl ab.bb).Reads w [v] xs) (hn : (ab.sl ab.bb).sz xs ≤ 1048576) :
  Calls Tryz.prog 175 #[v] w fun e w' => ∃ v', e = .returned v' ∧ (ab.sl ab.bb).aQ w' [v'] xs w.heap.size w'.heap.size ∧ Below w.heap.size w w' := by
 have hbig := h.dK
 obtain ⟨ao, cap, rfl⟩ := aE h
 have hlen : xs.length ≤ 1048576 := Nat.le_trans ab.fv hn
 obtain ⟨i0, hi, hz0, hz1, hz2⟩ : ∃ i, Tryz.prog.info? 150 = some i ∧ i.zero = some (.agg #[.int .i64 0, .int .i64 0]) ∧ i.size = 2 ∧ i.bytes ≤ 1000 := by
  have := rJ
  cases hq : Tryz.prog.info? 150 with
  | none => rw [hq] at this; simp at this
  | some i =>
   rw [hq] at this
   simp only [Option.map_some, Option.some.injEq, Prod.mk.injEq, decide_eq_true_eq] at this
   exact ⟨i, rfl, this.1, this.2.1, this.2.2⟩
 have H := yh h
 have HN := yh hn
 clear h hn
 go_enter Tryz.func175, Tryz.ntmps175
 go_wp2_with (at_make; refine wpList_make_full _ rfl _ _ 31 rfl w.heap.size 150 i0 _ 2 Tryz.underlying31 hi hz0 hz1 _ _ _ _ xs.length rfl rfl rfl rfl ?c1 ?c2 ?c3 ?_)
 case c1 => have := Nat.mul_le_mul hz2 hlen; omega
 case c2 => unfold maxLen; omega
 case c3 => exact Nat.le_refl _
 intro w1 hown1 hgrow1
 have hB1 : Below w.heap.size w w1 := (Below.refl _ _).grown hgrow1 (Nat.le_refl _) (by simp)
 clear hgrow1 hi hz0 hz1 hz2
 have HO1 := yh hown1
 have HB1 := yh hB1
 clear hown1 hB1
 go_wp2_with fail
 go_loopw [4] (fun i wr => ∃ (k : Nat) (rows : List (List Value)) (Q : List Value) (hi : Nat), k ≤ xs.length ∧ i = .int .i64 k ∧ wr.ownsRow w.heap.size 150 2 (.slice (some ⟨w.heap.size, 0, none⟩) xs.length xs.length) xs.length (rows.flatten ++ Q) ∧ Q.length = (xs.length - k) * 2 ∧ ab.fo ab.bb wr rows (xs.take k) (w.heap.size + 1) hi ∧ hi ≤ wr.heap.size ∧ w.heap.size < hi ∧ Below w.heap.size w wr) (fun i _ => xs.length - (intOf i).toNat)
 case atStart =>
  have hl := ((uh HO1).lt w.heap.size rfl).2
  exact ⟨0, [], _, w1.heap.size, Nat.zero_le _, rfl, by simpa using uh HO1, by have := (uh HO1).1; simpa using this, ab.dC, Nat.le_refl _, hl, uh HB1⟩
 case round =>
  obtain ⟨k, rows, Q, hi, hk, rfl, hown, hQ, hsub, hhi, hlo, hB⟩ := hrel
  clear HO1 HB1
  by_cases hlt : k < xs.length
  ·
   obtain ⟨b, off, rfl, hbl⟩ := ab.aI (uh H) (by omega)
   obtain ⟨row, hc, hr⟩ := ab.bm (uh H) hlt
   replace hr := hr.ag hB
   have hr2 := hr
   obtain ⟨blo, hlo⟩ := hr2; obtain ⟨rfl, -⟩ := cB.1 hlo; clear hlo
   have c0 : wr.cell? ⟨b, off + k * 2, none⟩ = some (.int .i64 (xs[k]).id) := (hB.cell (p := ⟨b, off + k * 2, none⟩) hbl).trans (hc 0 (by decide))
   have c1 : wr.cell? ⟨b, off + k * 2 + 1, none⟩ = some (.int .i64 (xs[k]).score) := (hB.cell (p := ⟨b, off + k * 2 + 1, none⟩) hbl).trans (hc 1 (by decide))
   have hrl : rows.flatten.length = k * 2 := by have := (ab.dB hsub).1; rw [List.length_take, Nat.min_eq_left hk] at this; exact this
   have hsz := Nat.le_trans (ab.fw (A := ab.bb) hlt) (uh HN)
   have HT : Hid (xs.take (k + 1) = xs.take k ++ [xs[k]]) := List.take_succ_eq_append_getElem hlt
   have HB := yh hB
   have HR := yh hr
   have HO := yh hown
   have HS := yh hsub
   have HQ := yh hQ
   clear hB hr hc hown hsub hQ
   generalize hxk : xs[k] = x at *
   clear hxk
   go_wp2_with fail
   refine (sC _ x wr (uh HR)).mono ?_
   rintro e w2 ⟨cs2, rfl, O, hb⟩
   have o2 := cJ (uh HO) hb
   replace HS := yh (ab.da (ab.cf (uh HS) (aL hb cU) (fun _ _ _ h => h)) O (by omega) (by omega) (Nat.le_trans hhi hb.size))
   have hb2 := (uh HB).trans (hb.mono (uh HB).size)
   have hz := hb.size
   have orr := O.reads
   obtain ⟨bloz, hloz⟩ := orr; obtain ⟨rfl, -⟩ := cB.1 hloz; clear hloz
   clear hb HR HB HO O c0 c1
   have hQ := uh HQ
   have hl5 : (rows.flatten ++ Q).length = xs.length * 2 := o2.1
   obtain ⟨u0, g0⟩ : ∃ u, w2.cell? ⟨w.heap.size, k * 2, none⟩ = some u := by
    rw [o2.cellAt (k * 2) (by omega)]
    exact gZ (by omega)
   have t0 := o2.frozenAt (k * 2)
   obtain ⟨u1, g1⟩ : ∃ u, w2.cell? ⟨w.heap.size, k * 2 + 1, none⟩ = some u := by
    rw [o2.cellAt (k * 2 + 1) (by omega)]
    exact gZ (by omega)
   have t1 := o2.frozenAt (k * 2 + 1)
   have o3 := cN o2 (k * 2) [.int .i64 x.id, .int .i64 x.score]
   rw [show k * 2 = rows.flatten.length from hrl.symm, cF _ _ _ (by rw [hQ]; simp; have : 1 * 2 ≤ (xs.length - k) * 2 := Nat.mul_le_mul_right _ (by omega); omega), hrl] at o3
   have E : Ext (fun q => q = w.heap.size) w2 (aO w2 w.heap.size (k * 2) [.int .i64 x.id, .int .i64 x.score]) := bD _ (Ext.refl _ _) _ _ _ rfl
   replace HS := yh (ab.cf (uh HS) E (fun q h1 h2 h3 => by omega))
   have HB := yh (aP hb2 w.heap.size (k * 2) [.int .i64 x.id, .int .i64 x.score] (Nat.le_refl _))
   have HZ : Hid ((aO w2 w.heap.size (k * 2) [.int .i64 x.id, .int .i64 x.score]).heap.size = w2.heap.size) := bF _ _ _ _
   have HO : Hid ((aO w2 w.heap.size (k * 2) [.int .i64 x.id, .int .i64 x.score]).ownsRow w.heap.size 150 2 (.slice (some ⟨w.heap.size, 0, none⟩) xs.length xs.length) xs.length ((rows ++ [([.int .i64 x.id, .int .i64 x.score] : List Value)]).flatten ++ Q.drop 2)) := by
    show (aO w2 w.heap.size (k * 2) [.int .i64 x.id, .int .i64 x.score]).ownsRow w.heap.size 150 2 (.slice (some ⟨w.heap.size, 0, none⟩) xs.length xs.length) xs.length ((rows ++ [([.int .i64 x.id, .int .i64 x.score] : List Value)]).flatten ++ Q.drop 2)
    rw [List.flatten_append]
    simpa using o3
   have hl2 := (o2.lt w.heap.size rfl).2
   clear o3 o2 E hb2 hl5
   have hQ2 : Hid ((Q.drop 2).length = (xs.length - (k + 1)) * 2) := by
    show (Q.drop 2).length = (xs.length - (k + 1)) * 2
    rw [List.length_drop, hQ, show xs.length - k = xs.length - (k + 1) + 1 by omega, Nat.add_mul]
    omega
   clear hQ HQ
   go_wp2_with fail
   go_roundw
   case rel => exact ⟨k + 1, rows ++ [([.int .i64 x.id, .int .i64 x.score] : List Value)], Q.drop 2, w2.heap.size, by omega, by go_num, uh HO, uh hQ2, (by rw [uh HT]; exact uh HS), Nat.le_of_eq (uh HZ).symm, by omega, uh HB⟩
   case measure => simp [intOf]; omega
  obtain rfl : k = xs.length := by omega
  have e0 : Q = [] := List.eq_nil_of_length_eq_zero (by rw [hQ]; simp)
  subst e0
  rw [List.append_nil] at hown
  rw [List.take_length] at hsub
  have HO := yh (ab.dc (A := ab.bb) hown hsub (by omega) hhi hbig)
  have HB := yh hB
  clear hown hsub hB
  go_wp2_with fail
  go_ret
  exact ⟨_, rfl, uh HO, uh HB⟩
theorem pL (cs : List Value) (x : aZ) (w : World) (h : ab.ar.Reads w cs x) (hn : ab.ar.sz x ≤ 1048576) :
  Calls Tryz.prog 108 #[.agg cs.toArray] w fun e w' => ∃ cs', e = .returned (.agg cs'.toArray) ∧ ab.ar.aQ w' cs' x w.heap.size w'.heap.size ∧ Below w.heap.size w w' := by
 have h0 := h
 obtain ⟨bl, hl⟩ := h0
 obtain ⟨-, -, -, -, -, -, -, -, -, -, -, f0, f1, f2, f3, -, f5, f6, f7, f8, -, -⟩ := cO.1 hl
 clear hl
 obtain ⟨a4, d4, a9, d9, a10, d10, rfl, R4, R9, R10⟩ := bB h
 clear h
 rw [ik] at hn
 have HF := yh (And.intro f0 (And.intro f1 (And.intro f2 (And.intro f3 (And.intro f5 (And.intro f6 (And.intro f7 (f8))))))))
 clear f0 f1 f2 f3 f5 f6 f7 f8
 have HB0 : Below w.heap.size w (((w.alloc (.cells #[.int .i64 x.kind, .int .i64 x.aa, .int .i64 x.seq, .int .i64 x.id, .slice a4 x.query.length d4, .int .i64 x.k, .int .i64 x.start, .int .i64 x.fin, .int .i64 x.place, .slice a9 x.vec.length d9, .slice a10 x.aN.length d10] 138)).alloc (.cells #[.int .i64 0, .int .i64 0, .int .i64 0, .int .i64 0, .slice none 0 0, .int .i64 0, .int .i64 0, .int .i64 0, .int .i64 0, .slice none 0 0, .slice none 0 0] 85)).alloc (.cells #[.int .i64 x.kind, .int .i64 x.aa, .int .i64 x.seq, .int .i64 x.id, .slice none 0 0, .int .i64 0, .int .i64 0, .int .i64 0, .int .i64 0, .slice none 0 0, .slice none 0 0] 85)) := (((Below.refl _ _).alloc (Nat.le_refl _) _).alloc (by simp) _).alloc (by simp; omega) _
 have bA : aj w.heap.size #[.int .i64 x.kind, .int .i64 x.aa, .int .i64 x.seq, .int .i64 x.id, .slice a4 x.query.length d4, .int .i64 x.k, .int .i64 x.start, .int .i64 x.fin, .int .i64 x.place, .slice a9 x.vec.length d9, .slice a10 x.aN.length d10] 138 (((w.alloc (.cells #[.int .i64 x.kind, .int .i64 x.aa, .int .i64 x.seq, .int .i64 x.id, .slice a4 x.query.length d4, .int .i64 x.k, .int .i64 x.start, .int .i64 x.fin, .int .i64 x.place, .slice a9 x.vec.length d9, .slice a10 x.aN.length d10] 138)).alloc (.cells #[.int .i64 0, .int .i64 0, .int .i64 0, .int .i64 0, .slice none 0 0, .int .i64 0, .int .i64 0, .int .i64 0, .int .i64 0, .slice none 0 0, .slice none 0 0] 85)).alloc (.cells #[.int .i64 x.kind, .int .i64 x.aa, .int .i64 x.seq, .int .i64 x.id, .slice none 0 0, .int .i64 0, .int .i64 0, .int .i64 0, .int .i64 0, .slice none 0 0, .slice none 0 0] 85)) w.heap.size := ((aH (Nat.le_refl _)).grow _).grow _
 have bR : aj w.heap.size #[.int .i64 0, .int .i64 0, .int .i64 0, .int .i64 0, .slice none 0 0, .int .i64 0, .int .i64 0, .int .i64 0, .int .i64 0, .slice none 0 0, .slice none 0 0] 85 (((w.alloc (.cells #[.int .i64 x.kind, .int .i64 x.aa, .int .i64 x.seq, .int .i64 x.id, .slice a4 x.query.length d4, .int .i64 x.k, .int .i64 x.start, .int .i64 x.fin, .int .i64 x.place, .slice a9 x.vec.length d9, .slice a10 x.aN.length d10] 138)).alloc (.cells #[.int .i64 0, .int .i64 0, .int .i64 0, .int .i64 0, .slice none 0 0, .int .i64 0, .int .i64 0, .int .i64 0, .int .i64 0, .slice none 0 0, .slice none 0 0] 85)).alloc (.cells #[.int .i64 x.kind, .int .i64 x.aa, .int .i64 x.seq, .int .i64 x.id, .slice none 0 0, .int .i64 0, .int .i64 0, .int .i64 0, .int .i64 0, .slice none 0 0, .slice none 0 0] 85)) (w.heap.size + 1) := (bg (by omega) (by simp)).grow _
 have bX : aj w.heap.size #[.int .i64 x.kind, .int .i64 x.aa, .int .i64 x.seq, .int .i64 x.id, .slice none 0 0, .int .i64 0, .int .i64 0, .int .i64 0, .int .i64 0, .slice none 0 0, .slice none 0 0] 85 (((w.alloc (.cells #[.int .i64 x.kind, .int .i64 x.aa, .int .i64 x.seq, .int .i64 x.id, .slice a4 x.query.length d4, .int .i64 x.k, .int .i64 x.start, .int .i64 x.fin, .int .i64 x.place, .slice a9 x.vec.length d9, .slice a10 x.aN.length d10] 138)).alloc (.cells #[.int .i64 0, .int .i64 0, .int .i64 0, .int .i64 0, .slice none 0 0, .int .i64 0, .int .i64 0, .int .i64 0, .int .i64 0, .slice none 0 0, .slice none 0 0] 85)).alloc (.cells #[.int .i64 x.kind, .int .i64 x.aa, .int .i64 x.seq, .int .i64 x.id, .slice none 0 0, .int .i64 0, .int .i64 0, .int .i64 0, .int .i64 0, .slice none 0 0, .slice none 0 0] 85)) (w.heap.size + 2) := bg (by omega) (by simp)
 have hz0 : w.heap.size + 3 ≤ (((w.alloc (.cells #[.int .i64 x.kind, .int .i64 x.aa, .int .i64 x.seq, .int .i64 x.id, .slice a4 x.query.length d4, .int .i64 x.k, .int .i64 x.start, .int .i64 x.fin, .int .i64 x.place, .slice a9 x.vec.length d9, .slice a10 x.aN.length d10] 138)).alloc (.cells #[.int .i64 0, .int .i64 0, .int .i64 0, .int .i64 0, .slice none 0 0, .int .i64 0, .int .i64 0, .int .i64 0, .int .i64 0, .slice none 0 0, .slice none 0 0] 85)).alloc (.cells #[.int .i64 x.kind, .int .i64 x.aa, .int .i64 x.seq, .int .i64 x.id, .slice none 0 0, .int .i64 0, .int .i64 0, .int .i64 0, .int .i64 0, .slice none 0 0, .slice none 0 0] 85)).heap.size := by simp
 go_enter Tryz.func108, Tryz.ntmps108
 go_wp2_with fail
 generalize ((w.alloc (.cells #[.int .i64 x.kind, .int .i64 x.aa, .int .i64 x.seq, .int .i64 x.id, .slice a4 x.query.length d4, .int .i64 x.k, .int .i64 x.start, .int .i64 x.fin, .int .i64 x.place, .slice a9 x.vec.length d9, .slice a10 x.aN.length d10] 138)).alloc (.cells #[.int .i64 0, .int .i64 0, .int .i64 0, .int .i64 0, .slice none 0 0, .int .i64 0, .int .i64 0, .int .i64 0, .int .i64 0, .slice none 0 0, .slice none 0 0] 85)).alloc (.cells #[.int .i64 x.kind, .int .i64 x.aa, .int .i64 x.seq, .int .i64 x.id, .slice none 0 0, .int .i64 0, .int .i64 0, .int .i64 0, .int .i64 0, .slice none 0 0, .slice none 0 0] 85) = W0 at *
 replace R4 := R4.cX.ag HB0
 replace R9 := R9.cX.ag HB0
 replace R10 := R10.cX.ag HB0
 refine (fA _ x.query W0 R4.reads (by omega)).mono ?_
 rintro e w1 ⟨v4, rfl, O4, hb⟩
 have Z0 : W0.heap.size ≤ w1.heap.size := hb.size
 replace HB0 := HB0.trans (hb.mono HB0.size)
 replace bA := bA.au hb
 replace bR := bR.au hb
 replace bX := bX.au hb
 replace R9 := R9.ag hb
 replace R10 := R10.ag hb
 clear hb R4
 obtain ⟨a4z, d4z, rfl⟩ := aE O4.reads
 have p5 := bA.at 5 _ rfl
 have p6 := bA.at 6 _ rfl
 have p7 := bA.at 7 _ rfl
 have p8 := bA.at 8 _ rfl
 have p9 := bA.at 9 _ rfl
 have q4 := bX.at 4 _ rfl
 have q5 := bX.at 5 _ rfl
 have q6 := bX.at 6 _ rfl
 have q7 := bX.at 7 _ rfl
 have q8 := bX.at 8 _ rfl
 have qf := bX.soft
 have ql := bX.lt
 have pl := bA.lt
 simp only [ga, gb, gc] at p5 p6 p7 p8 p9 q4 q5 q6 q7 q8
 have hA := yh bA
 have hR := yh bR
 have hX := yh bX
 have hB := yh HB0
 clear bA bR bX HB0
 have hO4 := yh O4
 clear O4
 have hR9 := yh R9
 clear R9
 have hR10 := yh R10
 clear R10
 go_wp2_with fail
 clear p5 p6 p7 p8 p9 q4 q5 q6 q7 q8 qf ql pl
 have E : Ext (fun q => q = w.heap.size + 2) w1 (((((w1.setCell ⟨w.heap.size + 2, 4, none⟩ (.slice a4z x.query.length d4z)).setCell ⟨w.heap.size + 2, 5, none⟩ (.int .i64 x.k)).setCell ⟨w.heap.size + 2, 6, none⟩ (.int .i64 x.start)).setCell ⟨w.heap.size + 2, 7, none⟩ (.int .i64 x.fin)).setCell ⟨w.heap.size + 2, 8, none⟩ (.int .i64 x.place)) := ck (Ext.refl _ _) (w.heap.size + 2) [(4, .slice a4z x.query.length d4z), (5, .int .i64 x.k), (6, .int .i64 x.start), (7, .int .i64 x.fin), (8, .int .i64 x.place)] rfl
 have bX : aj w.heap.size #[.int .i64 x.kind, .int .i64 x.aa, .int .i64 x.seq, .int .i64 x.id, .slice a4z x.query.length d4z, .int .i64 x.k, .int .i64 x.start, .int .i64 x.fin, .int .i64 x.place, .slice none 0 0, .slice none 0 0] 85 (((((w1.setCell ⟨w.heap.size + 2, 4, none⟩ (.slice a4z x.query.length d4z)).setCell ⟨w.heap.size + 2, 5, none⟩ (.int .i64 x.k)).setCell ⟨w.heap.size + 2, 6, none⟩ (.int .i64 x.start)).setCell ⟨w.heap.size + 2, 7, none⟩ (.int .i64 x.fin)).setCell ⟨w.heap.size + 2, 8, none⟩ (.int .i64 x.place)) (w.heap.size + 2) := ((((((uh hX).set 4 (.slice a4z x.query.length d4z)).set 5 (.int .i64 x.k)).set 6 (.int .i64 x.start)).set 7 (.int .i64 x.fin)).set 8 (.int .i64 x.place))
 have bA := (uh hA).ext E (by omega)
 have bR := (uh hR).ext E (by omega)
 have HB0 : Below w.heap.size w (((((w1.setCell ⟨w.heap.size + 2, 4, none⟩ (.slice a4z x.query.length d4z)).setCell ⟨w.heap.size + 2, 5, none⟩ (.int .i64 x.k)).setCell ⟨w.heap.size + 2, 6, none⟩ (.int .i64 x.start)).setCell ⟨w.heap.size + 2, 7, none⟩ (.int .i64 x.fin)).setCell ⟨w.heap.size + 2, 8, none⟩ (.int .i64 x.place)) := (uh hB).trans (E.below (uh hB).size (fun k h1 h2 => by omega))
 have O4 := (uh hO4).ext E (fun k h1 h2 h3 => by omega)
 have R9 := (uh hR9).ext E (fun k h1 h2 h3 => by omega)
 have R10 := (uh hR10).ext E (fun k h1 h2 h3 => by omega)
 have Y0 : w1.heap.size ≤ (((((w1.setCell ⟨w.heap.size + 2, 4, none⟩ (.slice a4z x.query.length d4z)).setCell ⟨w.heap.size + 2, 5, none⟩ (.int .i64 x.k)).setCell ⟨w.heap.size + 2, 6, none⟩ (.int .i64 x.start)).setCell ⟨w.heap.size + 2, 7, none⟩ (.int .i64 x.fin)).setCell ⟨w.heap.size + 2, 8, none⟩ (.int .i64 x.place)).heap.size := E.size
 clear hA hR hX hB hO4 hR9 hR10 E
 generalize (((((w1.setCell ⟨w.heap.size + 2, 4, none⟩ (.slice a4z x.query.length d4z)).setCell ⟨w.heap.size + 2, 5, none⟩ (.int .i64 x.k)).setCell ⟨w.heap.size + 2, 6, none⟩ (.int .i64 x.start)).setCell ⟨w.heap.size + 2, 7, none⟩ (.int .i64 x.fin)).setCell ⟨w.heap.size + 2, 8, none⟩ (.int .i64 x.place)) = W1 at *
 refine (fA _ x.vec W1 R9.reads (by omega)).mono ?_
 rintro e w2 ⟨v9, rfl, O9, hb⟩
 have Z1 : W1.heap.size ≤ w2.heap.size := hb.size
 replace HB0 := HB0.trans (hb.mono HB0.size)
 replace bA := bA.au hb
 replace bR := bR.au hb
 replace bX := bX.au hb
 replace R10 := R10.ag hb
 replace O4 := O4.ag hb
 clear hb R9
 obtain ⟨a9z, d9z, rfl⟩ := aE O9.reads
 have p10 := bA.at 10 _ rfl
 have q9 := bX.at 9 _ rfl
 have qf := bX.soft
 have ql := bX.lt
 have pl := bA.lt
 simp only [ga, gb, gc] at p10 q9
 have hA := yh bA
 have hR := yh bR
 have hX := yh bX
 have hB := yh HB0
 clear bA bR bX HB0
 have hO4 := yh O4
 clear O4
 have hO9 := yh O9
 clear O9
 have hR10 := yh R10
 clear R10
 go_wp2_with fail
 clear p10 q9 qf ql pl
 have E : Ext (fun q => q = w.heap.size + 2) w2 (w2.setCell ⟨w.heap.size + 2, 9, none⟩ (.slice a9z x.vec.length d9z)) := ck (Ext.refl _ _) (w.heap.size + 2) [(9, .slice a9z x.vec.length d9z)] rfl
 have bX : aj w.heap.size #[.int .i64 x.kind, .int .i64 x.aa, .int .i64 x.seq, .int .i64 x.id, .slice a4z x.query.length d4z, .int .i64 x.k, .int .i64 x.start, .int .i64 x.fin, .int .i64 x.place, .slice a9z x.vec.length d9z, .slice none 0 0] 85 (w2.setCell ⟨w.heap.size + 2, 9, none⟩ (.slice a9z x.vec.length d9z)) (w.heap.size + 2) := (uh hX).set 9 (.slice a9z x.vec.length d9z)
 have bA := (uh hA).ext E (by omega)
 have bR := (uh hR).ext E (by omega)
 have HB0 : Below w.heap.size w (w2.setCell ⟨w.heap.size + 2, 9, none⟩ (.slice a9z x.vec.length d9z)) := (uh hB).trans (E.below (uh hB).size (fun k h1 h2 => by omega))
 have O4 := (uh hO4).ext E (fun k h1 h2 h3 => by omega)
 have O9 := (uh hO9).ext E (fun k h1 h2 h3 => by omega)
 have R10 := (uh hR10).ext E (fun k h1 h2 h3 => by omega)
 have Y1 : w2.heap.size ≤ (w2.setCell ⟨w.heap.size + 2, 9, none⟩ (.slice a9z x.vec.length d9z)).heap.size := E.size
 clear hA hR hX hB hO4 hO9 hR10 E
 generalize (w2.setCell ⟨w.heap.size + 2, 9, none⟩ (.slice a9z x.vec.length d9z)) = W2 at *
 refine (rE _ x.aN W2 R10.reads (by omega)).mono ?_
 rintro e w3 ⟨v10, rfl, O10, hb⟩
 have Z2 : W2.heap.size ≤ w3.heap.size := hb.size
 replace HB0 := HB0.trans (hb.mono HB0.size)
 replace bA := bA.au hb
 replace bR := bR.au hb
 replace bX := bX.au hb
 replace O4 := O4.ag hb
 replace O9 := O9.ag hb
 clear hb R10
 obtain ⟨a10z, d10z, rfl⟩ := aE O10.reads
 have q0 := bX.at 0 _ rfl
 have q1 := bX.at 1 _ rfl
 have q2 := bX.at 2 _ rfl
 have q3 := bX.at 3 _ rfl
 have q4 := bX.at 4 _ rfl
 have q5 := bX.at 5 _ rfl
 have q6 := bX.at 6 _ rfl
 have q7 := bX.at 7 _ rfl
 have q8 := bX.at 8 _ rfl
 have q9 := bX.at 9 _ rfl
 have q10 := bX.at 10 _ rfl
 have qf := bX.soft
 have ql := bX.lt
 have pl := bA.lt
 have r0 := bR.at 0 _ rfl
 have r1 := bR.at 1 _ rfl
 have r2 := bR.at 2 _ rfl
 have r3 := bR.at 3 _ rfl
 have r4 := bR.at 4 _ rfl
 have r5 := bR.at 5 _ rfl
 have r6 := bR.at 6 _ rfl
 have r7 := bR.at 7 _ rfl
 have r8 := bR.at 8 _ rfl
 have r9 := bR.at 9 _ rfl
 have r10 := bR.at 10 _ rfl
 have rf := bR.soft
 have rl := bR.lt
 simp only [ga, gb, gc] at q0 q1 q2 q3 q4 q5 q6 q7 q8 q9 q10 r0 r1 r2 r3 r4 r5 r6 r7 r8 r9 r10
 have hA := yh bA
 have hR := yh bR
 have hX := yh bX
 have hB := yh HB0
 clear bA bR bX HB0
 have hO4 := yh O4
 clear O4
 have hO9 := yh O9
 clear O9
 have hO10 := yh O10
 clear O10
 go_wp2_with fail
 refine bodyPost_ret (v := .agg #[.int .i64 x.kind, .int .i64 x.aa, .int .i64 x.seq, .int .i64 x.id, .slice a4z x.query.length d4z, .int .i64 x.k, .int .i64 x.start, .int .i64 x.fin, .int .i64 x.place, .slice a9z x.vec.length d9z, .slice a10z x.aN.length d10z]) (by simp [results, Tryz.results108, go_sem, r0, r1, r2, r3, r4, r5, r6, r7, r8, r9, r10]) rfl ?_
 have E : Ext (fun q => q = w.heap.size + 2 ∨ q = w.heap.size + 1) w3 _ := ck (ck (Ext.refl _ _) (w.heap.size + 2) [(10, .slice a10z x.aN.length d10z)] (Or.inl rfl)) (w.heap.size + 1) [(0, .int .i64 x.kind), (1, .int .i64 x.aa), (2, .int .i64 x.seq), (3, .int .i64 x.id), (4, .slice a4z x.query.length d4z), (5, .int .i64 x.k), (6, .int .i64 x.start), (7, .int .i64 x.fin), (8, .int .i64 x.place), (9, .slice a9z x.vec.length d9z), (10, .slice a10z x.aN.length d10z)] (Or.inr rfl)
 obtain ⟨f0, f1, f2, f3, f5, f6, f7, f8⟩ := uh HF
 have own : ab.ar.aQ _ [.int .i64 x.kind, .int .i64 x.aa, .int .i64 x.seq, .int .i64 x.id, .slice a4z x.query.length d4z, .int .i64 x.k, .int .i64 x.start, .int .i64 x.fin, .int .i64 x.place, .slice a9z x.vec.length d9z, .slice a10z x.aN.length d10z] x w.heap.size w3.heap.size := (ab.aT (ab.br (lo := w.heap.size) (hi := w.heap.size) f0) (ab.aT (ab.br (lo := w.heap.size) (hi := w.heap.size) f1) (ab.aT (ab.br (lo := w.heap.size) (hi := w.heap.size) f2) (ab.aT (ab.br (lo := w.heap.size) (hi := w.heap.size) f3) (ab.aT ((uh hO4).ext E (fun k h1 h2 h3 => by omega)) (ab.aT (ab.br (lo := w1.heap.size) (hi := w1.heap.size) f5) (ab.aT (ab.br (lo := w1.heap.size) (hi := w1.heap.size) f6) (ab.aT (ab.br (lo := w1.heap.size) (hi := w1.heap.size) f7) (ab.aT (ab.br (lo := w1.heap.size) (hi := w1.heap.size) f8) (ab.aT ((uh hO9).ext E (fun k h1 h2 h3 => by omega)) ((uh hO10).ext E (fun k h1 h2 h3 => by omega)) (by omega) (by omega) (by omega)) (by omega) (by omega) (by omega)) (by omega) (by omega) (by omega)) (by omega) (by omega) (by omega)) (by omega) (by omega) (by omega)) (by omega) (by omega) (by omega)) (by omega) (by omega) (by omega)) (by omega) (by omega) (by omega)) (by omega) (by omega) (by omega)) (by omega) (by omega) (by omega))
 have hsz := E.size
 have told := ab.fE (w := w) own (by omega) (by omega) ((uh hB).trans (E.below (uh hB).size (fun k h1 h2 => by omega)))
 exact told
theorem o7 : (Tryz.prog.info? 85).map (fun i => (i.zero, i.size, decide (i.bytes ≤ 1000))) = some (some (.agg #[.int .i64 0, .int .i64 0, .int .i64 0, .int .i64 0, .slice none 0 0, .int .i64 0, .int .i64 0, .int .i64 0, .int .i64 0, .slice none 0 0, .slice none 0 0]), 11, true) := by kernel_rfl
theorem oU (v : Value) (xs : List aZ) (w : World) (h : (ab.sl ab.ar).Reads w [v] xs) (hn : (ab.sl ab.ar).sz xs ≤ 1048576) :
  Calls Tryz.prog 56 #[v] w fun e w' => ∃ v', e = .returned v' ∧ (ab.sl ab.ar).aQ w' [v'] xs w.heap.size w'.heap.size ∧ Below w.heap.size w w' := by
 have hbig := h.dK
 obtain ⟨ao, cap, rfl⟩ := aE h
 have hlen : xs.length ≤ 1048576 := Nat.le_trans ab.fv hn
 obtain ⟨i0, hi, hz0, hz1, hz2⟩ : ∃ i, Tryz.prog.info? 85 = some i ∧ i.zero = some (.agg #[.int .i64 0, .int .i64 0, .int .i64 0, .int .i64 0, .slice none 0 0, .int .i64 0, .int .i64 0, .int .i64 0, .int .i64 0, .slice none 0 0, .slice none 0 0]) ∧ i.size = 11 ∧ i.bytes ≤ 1000 := by
  have := o7
  cases hq : Tryz.prog.info? 85 with
  | none => rw [hq] at this; simp at this
  | some i =>
   rw [hq] at this
   simp only [Option.map_some, Option.some.injEq, Prod.mk.injEq, decide_eq_true_eq] at this
   exact ⟨i, rfl, this.1, this.2.1, this.2.2⟩
 have H := yh h
 have HN := yh hn
 clear h hn
 go_enter Tryz.func56, Tryz.ntmps56
 go_wp2_with (at_make; refine wpList_make_full _ rfl _ _ 35 rfl w.heap.size 85 i0 _ 11 Tryz.underlying35 hi hz0 hz1 _ _ _ _ xs.length rfl rfl rfl rfl ?c1 ?c2 ?c3 ?_)
 case c1 => have := Nat.mul_le_mul hz2 hlen; omega
 case c2 => unfold maxLen; omega
 case c3 => exact Nat.le_refl _
 intro w1 hown1 hgrow1
 have hB1 : Below w.heap.size w w1 := (Below.refl _ _).grown hgrow1 (Nat.le_refl _) (by simp)
 clear hgrow1 hi hz0 hz1 hz2
 have HO1 := yh hown1
 have HB1 := yh hB1
 clear hown1 hB1
 go_wp2_with fail
 go_loopw [4] (fun i wr => ∃ (k : Nat) (rows : List (List Value)) (Q : List Value) (hi : Nat), k ≤ xs.length ∧ i = .int .i64 k ∧ wr.ownsRow w.heap.size 85 11 (.slice (some ⟨w.heap.size, 0, none⟩) xs.length xs.length) xs.length (rows.flatten ++ Q) ∧ Q.length = (xs.length - k) * 11 ∧ ab.fo ab.ar wr rows (xs.take k) (w.heap.size + 1) hi ∧ hi ≤ wr.heap.size ∧ w.heap.size < hi ∧ Below w.heap.size w wr) (fun i _ => xs.length - (intOf i).toNat)
 case atStart =>
  have hl := ((uh HO1).lt w.heap.size rfl).2
  exact ⟨0, [], _, w1.heap.size, Nat.zero_le _, rfl, by simpa using uh HO1, by have := (uh HO1).1; simpa using this, ab.dC, Nat.le_refl _, hl, uh HB1⟩
 case round =>
  obtain ⟨k, rows, Q, hi, hk, rfl, hown, hQ, hsub, hhi, hlo, hB⟩ := hrel
  clear HO1 HB1
  by_cases hlt : k < xs.length
  ·
   obtain ⟨b, off, rfl, hbl⟩ := ab.aI (uh H) (by omega)
   obtain ⟨row, hc, hr⟩ := ab.bm (uh H) hlt
   replace hr := hr.ag hB
   have hr2 := hr
   obtain ⟨a4, d4, a9, d9, a10, d10, rfl, -, -, -⟩ := bB hr2
   have c0 : wr.cell? ⟨b, off + k * 11, none⟩ = some (.int .i64 (xs[k]).kind) := (hB.cell (p := ⟨b, off + k * 11, none⟩) hbl).trans (hc 0 (by decide))
   have c1 : wr.cell? ⟨b, off + k * 11 + 1, none⟩ = some (.int .i64 (xs[k]).aa) := (hB.cell (p := ⟨b, off + k * 11 + 1, none⟩) hbl).trans (hc 1 (by decide))
   have c2 : wr.cell? ⟨b, off + k * 11 + 2, none⟩ = some (.int .i64 (xs[k]).seq) := (hB.cell (p := ⟨b, off + k * 11 + 2, none⟩) hbl).trans (hc 2 (by decide))
   have c3 : wr.cell? ⟨b, off + k * 11 + 3, none⟩ = some (.int .i64 (xs[k]).id) := (hB.cell (p := ⟨b, off + k * 11 + 3, none⟩) hbl).trans (hc 3 (by decide))
   have c4 : wr.cell? ⟨b, off + k * 11 + 4, none⟩ = some (.slice a4 (xs[k]).query.length d4) := (hB.cell (p := ⟨b, off + k * 11 + 4, none⟩) hbl).trans (hc 4 (by decide))
   have c5 : wr.cell? ⟨b, off + k * 11 + 5, none⟩ = some (.int .i64 (xs[k]).k) := (hB.cell (p := ⟨b, off + k * 11 + 5, none⟩) hbl).trans (hc 5 (by decide))
   have c6 : wr.cell? ⟨b, off + k * 11 + 6, none⟩ = some (.int .i64 (xs[k]).start) := (hB.cell (p := ⟨b, off + k * 11 + 6, none⟩) hbl).trans (hc 6 (by decide))
   have c7 : wr.cell? ⟨b, off + k * 11 + 7, none⟩ = some (.int .i64 (xs[k]).fin) := (hB.cell (p := ⟨b, off + k * 11 + 7, none⟩) hbl).trans (hc 7 (by decide))
   have c8 : wr.cell? ⟨b, off + k * 11 + 8, none⟩ = some (.int .i64 (xs[k]).place) := (hB.cell (p := ⟨b, off + k * 11 + 8, none⟩) hbl).trans (hc 8 (by decide))
   have c9 : wr.cell? ⟨b, off + k * 11 + 9, none⟩ = some (.slice a9 (xs[k]).vec.length d9) := (hB.cell (p := ⟨b, off + k * 11 + 9, none⟩) hbl).trans (hc 9 (by decide))
   have c10 : wr.cell? ⟨b, off + k * 11 + 10, none⟩ = some (.slice a10 (xs[k]).aN.length d10) := (hB.cell (p := ⟨b, off + k * 11 + 10, none⟩) hbl).trans (hc 10 (by decide))
   have hrl : rows.flatten.length = k * 11 := by have := (ab.dB hsub).1; rw [List.length_take, Nat.min_eq_left hk] at this; exact this
   have hsz := Nat.le_trans (ab.fw (A := ab.ar) hlt) (uh HN)
   have HT : Hid (xs.take (k + 1) = xs.take k ++ [xs[k]]) := List.take_succ_eq_append_getElem hlt
   have HB := yh hB
   have HR := yh hr
   have HO := yh hown
   have HS := yh hsub
   have HQ := yh hQ
   clear hB hr hc hown hsub hQ
   generalize hxk : xs[k] = x at *
   clear hxk
   go_wp2_with fail
   refine (pL _ x wr (uh HR) hsz).mono ?_
   rintro e w2 ⟨cs2, rfl, O, hb⟩
   have o2 := cJ (uh HO) hb
   replace HS := yh (ab.da (ab.cf (uh HS) (aL hb cU) (fun _ _ _ h => h)) O (by omega) (by omega) (Nat.le_trans hhi hb.size))
   have hb2 := (uh HB).trans (hb.mono (uh HB).size)
   have hz := hb.size
   have orr := O.reads
   obtain ⟨a4z, d4z, a9z, d9z, a10z, d10z, rfl, -, -, -⟩ := bB orr
   clear hb HR HB HO O c0 c1 c2 c3 c4 c5 c6 c7 c8 c9 c10
   have hQ := uh HQ
   have hl5 : (rows.flatten ++ Q).length = xs.length * 11 := o2.1
   obtain ⟨u0, g0⟩ : ∃ u, w2.cell? ⟨w.heap.size, k * 11, none⟩ = some u := by
    rw [o2.cellAt (k * 11) (by omega)]
    exact gZ (by omega)
   have t0 := o2.frozenAt (k * 11)
   obtain ⟨u1, g1⟩ : ∃ u, w2.cell? ⟨w.heap.size, k * 11 + 1, none⟩ = some u := by
    rw [o2.cellAt (k * 11 + 1) (by omega)]
    exact gZ (by omega)
   have t1 := o2.frozenAt (k * 11 + 1)
   obtain ⟨u2, g2⟩ : ∃ u, w2.cell? ⟨w.heap.size, k * 11 + 2, none⟩ = some u := by
    rw [o2.cellAt (k * 11 + 2) (by omega)]
    exact gZ (by omega)
   have t2 := o2.frozenAt (k * 11 + 2)
   obtain ⟨u3, g3⟩ : ∃ u, w2.cell? ⟨w.heap.size, k * 11 + 3, none⟩ = some u := by
    rw [o2.cellAt (k * 11 + 3) (by omega)]
    exact gZ (by omega)
   have t3 := o2.frozenAt (k * 11 + 3)
   obtain ⟨u4, g4⟩ : ∃ u, w2.cell? ⟨w.heap.size, k * 11 + 4, none⟩ = some u := by
    rw [o2.cellAt (k * 11 + 4) (by omega)]
    exact gZ (by omega)
   have t4 := o2.frozenAt (k * 11 + 4)
   obtain ⟨u5, g5⟩ : ∃ u, w2.cell? ⟨w.heap.size, k * 11 + 5, none⟩ = some u := by
    rw [o2.cellAt (k * 11 + 5) (by omega)]
    exact gZ (by omega)
   have t5 := o2.frozenAt (k * 11 + 5)
   obtain ⟨u6, g6⟩ : ∃ u, w2.cell? ⟨w.heap.size, k * 11 + 6, none⟩ = some u := by
    rw [o2.cellAt (k * 11 + 6) (by omega)]
    exact gZ (by omega)
   have t6 := o2.frozenAt (k * 11 + 6)
   obtain ⟨u7, g7⟩ : ∃ u, w2.cell? ⟨w.heap.size, k * 11 + 7, none⟩ = some u := by
    rw [o2.cellAt (k * 11 + 7) (by omega)]
    exact gZ (by omega)
   have t7 := o2.frozenAt (k * 11 + 7)
   obtain ⟨u8, g8⟩ : ∃ u, w2.cell? ⟨w.heap.size, k * 11 + 8, none⟩ = some u := by
    rw [o2.cellAt (k * 11 + 8) (by omega)]
    exact gZ (by omega)
   have t8 := o2.frozenAt (k * 11 + 8)
   obtain ⟨u9, g9⟩ : ∃ u, w2.cell? ⟨w.heap.size, k * 11 + 9, none⟩ = some u := by
    rw [o2.cellAt (k * 11 + 9) (by omega)]
    exact gZ (by omega)
   have t9 := o2.frozenAt (k * 11 + 9)
   obtain ⟨u10, g10⟩ : ∃ u, w2.cell? ⟨w.heap.size, k * 11 + 10, none⟩ = some u := by
    rw [o2.cellAt (k * 11 + 10) (by omega)]
    exact gZ (by omega)
   have t10 := o2.frozenAt (k * 11 + 10)
   have o3 := cN o2 (k * 11) [.int .i64 x.kind, .int .i64 x.aa, .int .i64 x.seq, .int .i64 x.id, .slice a4z x.query.length d4z, .int .i64 x.k, .int .i64 x.start, .int .i64 x.fin, .int .i64 x.place, .slice a9z x.vec.length d9z, .slice a10z x.aN.length d10z]
   rw [show k * 11 = rows.flatten.length from hrl.symm, cF _ _ _ (by rw [hQ]; simp; have : 1 * 11 ≤ (xs.length - k) * 11 := Nat.mul_le_mul_right _ (by omega); omega), hrl] at o3
   have E : Ext (fun q => q = w.heap.size) w2 (aO w2 w.heap.size (k * 11) [.int .i64 x.kind, .int .i64 x.aa, .int .i64 x.seq, .int .i64 x.id, .slice a4z x.query.length d4z, .int .i64 x.k, .int .i64 x.start, .int .i64 x.fin, .int .i64 x.place, .slice a9z x.vec.length d9z, .slice a10z x.aN.length d10z]) := bD _ (Ext.refl _ _) _ _ _ rfl
   replace HS := yh (ab.cf (uh HS) E (fun q h1 h2 h3 => by omega))
   have HB := yh (aP hb2 w.heap.size (k * 11) [.int .i64 x.kind, .int .i64 x.aa, .int .i64 x.seq, .int .i64 x.id, .slice a4z x.query.length d4z, .int .i64 x.k, .int .i64 x.start, .int .i64 x.fin, .int .i64 x.place, .slice a9z x.vec.length d9z, .slice a10z x.aN.length d10z] (Nat.le_refl _))
   have HZ : Hid ((aO w2 w.heap.size (k * 11) [.int .i64 x.kind, .int .i64 x.aa, .int .i64 x.seq, .int .i64 x.id, .slice a4z x.query.length d4z, .int .i64 x.k, .int .i64 x.start, .int .i64 x.fin, .int .i64 x.place, .slice a9z x.vec.length d9z, .slice a10z x.aN.length d10z]).heap.size = w2.heap.size) := bF _ _ _ _
   have HO : Hid ((aO w2 w.heap.size (k * 11) [.int .i64 x.kind, .int .i64 x.aa, .int .i64 x.seq, .int .i64 x.id, .slice a4z x.query.length d4z, .int .i64 x.k, .int .i64 x.start, .int .i64 x.fin, .int .i64 x.place, .slice a9z x.vec.length d9z, .slice a10z x.aN.length d10z]).ownsRow w.heap.size 85 11 (.slice (some ⟨w.heap.size, 0, none⟩) xs.length xs.length) xs.length ((rows ++ [([.int .i64 x.kind, .int .i64 x.aa, .int .i64 x.seq, .int .i64 x.id, .slice a4z x.query.length d4z, .int .i64 x.k, .int .i64 x.start, .int .i64 x.fin, .int .i64 x.place, .slice a9z x.vec.length d9z, .slice a10z x.aN.length d10z] : List Value)]).flatten ++ Q.drop 11)) := by
    show (aO w2 w.heap.size (k * 11) [.int .i64 x.kind, .int .i64 x.aa, .int .i64 x.seq, .int .i64 x.id, .slice a4z x.query.length d4z, .int .i64 x.k, .int .i64 x.start, .int .i64 x.fin, .int .i64 x.place, .slice a9z x.vec.length d9z, .slice a10z x.aN.length d10z]).ownsRow w.heap.size 85 11 (.slice (some ⟨w.heap.size, 0, none⟩) xs.length xs.length) xs.length ((rows ++ [([.int .i64 x.kind, .int .i64 x.aa, .int .i64 x.seq, .int .i64 x.id, .slice a4z x.query.length d4z, .int .i64 x.k, .int .i64 x.start, .int .i64 x.fin, .int .i64 x.place, .slice a9z x.vec.length d9z, .slice a10z x.aN.length d10z] : List Value)]).flatten ++ Q.drop 11)
    rw [List.flatten_append]
    simpa using o3
   have hl2 := (o2.lt w.heap.size rfl).2
   clear o3 o2 E hb2 hl5
   have hQ2 : Hid ((Q.drop 11).length = (xs.length - (k + 1)) * 11) := by
    show (Q.drop 11).length = (xs.length - (k + 1)) * 11
    rw [List.length_drop, hQ, show xs.length - k = xs.length - (k + 1) + 1 by omega, Nat.add_mul]
    omega
   clear hQ HQ
   go_wp2_with fail
   go_roundw
   case rel => exact ⟨k + 1, rows ++ [([.int .i64 x.kind, .int .i64 x.aa, .int .i64 x.seq, .int .i64 x.id, .slice a4z x.query.length d4z, .int .i64 x.k, .int .i64 x.start, .int .i64 x.fin, .int .i64 x.place, .slice a9z x.vec.length d9z, .slice a10z x.aN.length d10z] : List Value)], Q.drop 11, w2.heap.size, by omega, by go_num, uh HO, uh hQ2, (by rw [uh HT]; exact uh HS), Nat.le_of_eq (uh HZ).symm, by omega, uh HB⟩
   case measure => simp [intOf]; omega
  obtain rfl : k = xs.length := by omega
  have e0 : Q = [] := List.eq_nil_of_length_eq_zero (by rw [hQ]; simp)
  subst e0
  rw [List.append_nil] at hown
  rw [List.take_length] at hsub
  have HO := yh (ab.dc (A := ab.ar) hown hsub (by omega) hhi hbig)
  have HB := yh hB
  clear hown hsub hB
  go_wp2_with fail
  go_ret
  exact ⟨_, rfl, uh HO, uh HB⟩
end Go.Proofs.YtecagllmonckgaaGreat
