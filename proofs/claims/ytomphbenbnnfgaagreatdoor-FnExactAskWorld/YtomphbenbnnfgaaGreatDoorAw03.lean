/-
  Texts of this proof in one: EqMsgS, EqHit, EqHitS, EqEntry, EqEntryS, EqWorld, OwnWorld, OwnChain, LayMark, MaChain, OwnNode, MaWriteS, MaNodeS, OwnMsg, MaMsgS, OwnEntry, MaHitS, MaEntryS, MaWorld, MaWrite, LayWorldResult, EqWorldResult, OwnWorldResult, MaWorldResult.
  Their conditions stand in their theorems.
-/
import Derived.Test.YtomphbenbnnfgaaGreatDoorChecked
import Derived.Test.YtomphbenbnnfgaaGreatDoorAw01
import Derived.Test.YtomphbenbnnfgaaGreatDoorAw02
import Derived.Deep.RegionHeld3
import Derived.Test.YtomphbenbnnfgaaGreatDoorAw00
set_option maxRecDepth 100000
set_option maxHeartbeats 4000000
namespace Go.Proofs.YtomphbenbnnfgaaGreatDoor
open Go.RowKit
theorem uv (v v2 : Value) (xs : List bP) (w : World) (h : (ab.sl ab.aQ).Reads w [v] xs) (h2 : (ab.sl ab.aQ).Reads w [v2] xs) :
  Calls Tryz.prog 49 #[v, v2] w fun e w' => e = .returned (.bool true) ∧ Below w.heap.size w w' := by
 have hbig := h.et
 obtain ⟨ao, cap, rfl⟩ := aI h
 obtain ⟨ao2, cap2, rfl⟩ := aI h2
 by_cases hp : 0 < xs.length
 ·
  obtain ⟨b, off, rfl, hbl⟩ := ab.aS h hp
  obtain ⟨b2, off2, rfl, hbl2⟩ := ab.aS h2 hp
  have H := yh h
  have H2 := yh h2
  clear h h2
  go_enter Tryz.func49, Tryz.ntmps49
  go_wp2_with fail
  go_loopw [5] (fun i wr => ∃ k : Nat, k ≤ xs.length ∧ i = .int .i64 k ∧ Below w.heap.size w wr) (fun i _ => xs.length - (intOf i).toNat)
  case atStart => exact ⟨0, Nat.zero_le _, rfl, Below.refl _ _⟩
  case round =>
   obtain ⟨k, hk, rfl, hB⟩ := hrel
   by_cases hlt : k < xs.length
   ·
    obtain ⟨row, hc, hr⟩ := ab.bE (uh H) hlt
    obtain ⟨rowz, hcz, hrz⟩ := ab.bE (uh H2) hlt
    have hr2 := hr
    obtain ⟨a7, d7, rfl, -⟩ := cN hr2
    have hrz2 := hrz
    obtain ⟨a7z, d7z, rfl, -⟩ := cN hrz2
    have c0 : w.cell? ⟨b, off + k * 10, none⟩ = some (.int .i64 (xs[k]).kind) := ((Below.refl w.heap.size w).cell (p := ⟨b, off + k * 10, none⟩) hbl).trans (hc 0 (by decide))
    have c1 : w.cell? ⟨b, off + k * 10 + 1, none⟩ = some (.int .i64 (xs[k]).ae) := ((Below.refl w.heap.size w).cell (p := ⟨b, off + k * 10 + 1, none⟩) hbl).trans (hc 1 (by decide))
    have c2 : w.cell? ⟨b, off + k * 10 + 2, none⟩ = some (.int .i64 (xs[k]).src) := ((Below.refl w.heap.size w).cell (p := ⟨b, off + k * 10 + 2, none⟩) hbl).trans (hc 2 (by decide))
    have c3 : w.cell? ⟨b, off + k * 10 + 3, none⟩ = some (.int .i64 (xs[k]).dst) := ((Below.refl w.heap.size w).cell (p := ⟨b, off + k * 10 + 3, none⟩) hbl).trans (hc 3 (by decide))
    have c4 : w.cell? ⟨b, off + k * 10 + 4, none⟩ = some (.int .i64 (xs[k]).index) := ((Below.refl w.heap.size w).cell (p := ⟨b, off + k * 10 + 4, none⟩) hbl).trans (hc 4 (by decide))
    have c5 : w.cell? ⟨b, off + k * 10 + 5, none⟩ = some (.int .i64 (xs[k]).write.kind) := ((Below.refl w.heap.size w).cell (p := ⟨b, off + k * 10 + 5, none⟩) hbl).trans (hc 5 (by decide))
    have c6 : w.cell? ⟨b, off + k * 10 + 6, none⟩ = some (.int .i64 (xs[k]).write.id) := ((Below.refl w.heap.size w).cell (p := ⟨b, off + k * 10 + 6, none⟩) hbl).trans (hc 6 (by decide))
    have c7 : w.cell? ⟨b, off + k * 10 + 7, none⟩ = some (.slice a7 (xs[k]).write.vec.length d7) := ((Below.refl w.heap.size w).cell (p := ⟨b, off + k * 10 + 7, none⟩) hbl).trans (hc 7 (by decide))
    have c8 : w.cell? ⟨b, off + k * 10 + 8, none⟩ = some (.int .i64 (xs[k]).write.aa) := ((Below.refl w.heap.size w).cell (p := ⟨b, off + k * 10 + 8, none⟩) hbl).trans (hc 8 (by decide))
    have c9 : w.cell? ⟨b, off + k * 10 + 9, none⟩ = some (.int .i64 (xs[k]).write.seq) := ((Below.refl w.heap.size w).cell (p := ⟨b, off + k * 10 + 9, none⟩) hbl).trans (hc 9 (by decide))
    have c0z : w.cell? ⟨b2, off2 + k * 10, none⟩ = some (.int .i64 (xs[k]).kind) := ((Below.refl w.heap.size w).cell (p := ⟨b2, off2 + k * 10, none⟩) hbl2).trans (hcz 0 (by decide))
    have c1z : w.cell? ⟨b2, off2 + k * 10 + 1, none⟩ = some (.int .i64 (xs[k]).ae) := ((Below.refl w.heap.size w).cell (p := ⟨b2, off2 + k * 10 + 1, none⟩) hbl2).trans (hcz 1 (by decide))
    have c2z : w.cell? ⟨b2, off2 + k * 10 + 2, none⟩ = some (.int .i64 (xs[k]).src) := ((Below.refl w.heap.size w).cell (p := ⟨b2, off2 + k * 10 + 2, none⟩) hbl2).trans (hcz 2 (by decide))
    have c3z : w.cell? ⟨b2, off2 + k * 10 + 3, none⟩ = some (.int .i64 (xs[k]).dst) := ((Below.refl w.heap.size w).cell (p := ⟨b2, off2 + k * 10 + 3, none⟩) hbl2).trans (hcz 3 (by decide))
    have c4z : w.cell? ⟨b2, off2 + k * 10 + 4, none⟩ = some (.int .i64 (xs[k]).index) := ((Below.refl w.heap.size w).cell (p := ⟨b2, off2 + k * 10 + 4, none⟩) hbl2).trans (hcz 4 (by decide))
    have c5z : w.cell? ⟨b2, off2 + k * 10 + 5, none⟩ = some (.int .i64 (xs[k]).write.kind) := ((Below.refl w.heap.size w).cell (p := ⟨b2, off2 + k * 10 + 5, none⟩) hbl2).trans (hcz 5 (by decide))
    have c6z : w.cell? ⟨b2, off2 + k * 10 + 6, none⟩ = some (.int .i64 (xs[k]).write.id) := ((Below.refl w.heap.size w).cell (p := ⟨b2, off2 + k * 10 + 6, none⟩) hbl2).trans (hcz 6 (by decide))
    have c7z : w.cell? ⟨b2, off2 + k * 10 + 7, none⟩ = some (.slice a7z (xs[k]).write.vec.length d7z) := ((Below.refl w.heap.size w).cell (p := ⟨b2, off2 + k * 10 + 7, none⟩) hbl2).trans (hcz 7 (by decide))
    have c8z : w.cell? ⟨b2, off2 + k * 10 + 8, none⟩ = some (.int .i64 (xs[k]).write.aa) := ((Below.refl w.heap.size w).cell (p := ⟨b2, off2 + k * 10 + 8, none⟩) hbl2).trans (hcz 8 (by decide))
    have c9z : w.cell? ⟨b2, off2 + k * 10 + 9, none⟩ = some (.int .i64 (xs[k]).write.seq) := ((Below.refl w.heap.size w).cell (p := ⟨b2, off2 + k * 10 + 9, none⟩) hbl2).trans (hcz 9 (by decide))
    clear hc hcz
    have HR := yh hr
    have HRZ := yh hrz
    clear hr hrz
    have HB := yh hB
    clear hB
    generalize hxk : xs[k] = x at *
    clear hxk
    have i1 : (0 : Int) ≤ (k : Int) := by omega
    have i2 : (k : Int) < (xs.length : Int) := by omega
    go_wp2_with fail
    refine wZz (fun w' => Below w.heap.size w w') (uh HB).drew (fun zq => ?_)
    generalize wr.drew = wD at zq ⊢
    refine tkH 0 zq ?_
    refine tkH 1 zq ?_
    refine tkH 2 zq ?_
    refine tkJ 3 (v := ?v3) ?h3 zq ?r3
    case h3 =>
     intro wS hSw
     have y0 := cZ hSw hbl c0
     have y1 := cZ hSw hbl c1
     have y2 := cZ hSw hbl c2
     have y3 := cZ hSw hbl c3
     have y4 := cZ hSw hbl c4
     have y5 := cZ hSw hbl c5
     have y6 := cZ hSw hbl c6
     have y7 := cZ hSw hbl c7
     have y8 := cZ hSw hbl c8
     have y9 := cZ hSw hbl c9
     clear hSw
     exact fZ
    refine tkH 4 zq ?_
    refine tkH 5 zq ?_
    refine tkH 6 zq ?_
    refine tkJ 7 (v := ?v7) ?h7 zq ?r7
    case h7 =>
     intro wS hSw
     have y0z := cZ hSw hbl2 c0z
     have y1z := cZ hSw hbl2 c1z
     have y2z := cZ hSw hbl2 c2z
     have y3z := cZ hSw hbl2 c3z
     have y4z := cZ hSw hbl2 c4z
     have y5z := cZ hSw hbl2 c5z
     have y6z := cZ hSw hbl2 c6z
     have y7z := cZ hSw hbl2 c7z
     have y8z := cZ hSw hbl2 c8z
     have y9z := cZ hSw hbl2 c9z
     clear hSw
     exact fZ
    refine rdH 8 (fun K hK => ?_)
    go_simp
    go_at_call 108
    refine (uR _ _ x _ ((uh HR).later zq) ((uh HRZ).later zq)).mono ?_
    rintro e w3 ⟨rfl, hbw⟩
    try go_wp2_with fail
    refine hK.out _ _ (zq.trans (hbw.mono zq.size)) (fun zq => ?_)
    clear hK K
    try simp only [Act.put, pz, py, px]
    refine tkH 9 zq ?_
    refine dZ ?_
    have HB3 := yh zq
    clear zq c0 c0z c1 c1z c2 c2z c3 c3z c4 c4z c5 c5z c6 c6z c7 c7z c8 c8z c9 c9z HB
    go_wp2_with fail
    go_roundw
    case rel => exact ⟨k + 1, by omega, by go_num, uh HB3⟩
    case measure => simp [intOf]; omega
   have HB := yh hB
   clear hB
   go_wp2_with fail
   go_ret
   exact ⟨rfl, uh HB⟩
 obtain rfl : xs = [] := List.eq_nil_of_length_eq_zero (by omega)
 clear h h2 hp
 simp only [List.length_nil] at *
 go_enter Tryz.func49, Tryz.ntmps49
 go_wp2_with fail
 refine wp_loop_rounds 1 ?_
 rw [rounds_succ]
 go_wp2_with fail
 go_ret
 exact ⟨rfl, Below.refl _ _⟩
theorem vx (cs cs2 : List Value) (x : eG) (w : World) (h : ab.bq.Reads w cs x) (h2 : ab.bq.Reads w cs2 x) :
  Calls Tryz.prog 205 #[.agg cs.toArray, .agg cs2.toArray] w fun e w' => e = .returned (.bool true) ∧ Below w.heap.size w w' := by
 obtain ⟨bl, h⟩ := h
 obtain ⟨rfl, -⟩ := cS.1 h
 obtain ⟨bl2, h2⟩ := h2
 obtain ⟨rfl, -⟩ := cS.1 h2
 clear h h2
 have e0 : (x.id != x.id) = false := by simp
 have e1 : (x.score != x.score) = false := by simp
 have HB0 : Below w.heap.size w ((w.alloc (.cells #[.int .i64 x.id, .int .i64 x.score] 224)).alloc (.cells #[.int .i64 x.id, .int .i64 x.score] 224)) := ((Below.refl _ _).alloc (Nat.le_refl _) _).alloc (by simp) _
 go_enter Tryz.func205, Tryz.ntmps205
 go_wp2_with fail
 go_ret
 exact ⟨rfl, HB0⟩
theorem tT (v v2 : Value) (xs : List eG) (w : World) (h : (ab.sl ab.bq).Reads w [v] xs) (h2 : (ab.sl ab.bq).Reads w [v2] xs) :
  Calls Tryz.prog 165 #[v, v2] w fun e w' => e = .returned (.bool true) ∧ Below w.heap.size w w' := by
 have hbig := h.et
 obtain ⟨ao, cap, rfl⟩ := aI h
 obtain ⟨ao2, cap2, rfl⟩ := aI h2
 by_cases hp : 0 < xs.length
 ·
  obtain ⟨b, off, rfl, hbl⟩ := ab.aS h hp
  obtain ⟨b2, off2, rfl, hbl2⟩ := ab.aS h2 hp
  have H := yh h
  have H2 := yh h2
  clear h h2
  go_enter Tryz.func165, Tryz.ntmps165
  go_wp2_with fail
  go_loopw [5] (fun i wr => ∃ k : Nat, k ≤ xs.length ∧ i = .int .i64 k ∧ Below w.heap.size w wr) (fun i _ => xs.length - (intOf i).toNat)
  case atStart => exact ⟨0, Nat.zero_le _, rfl, Below.refl _ _⟩
  case round =>
   obtain ⟨k, hk, rfl, hB⟩ := hrel
   by_cases hlt : k < xs.length
   ·
    obtain ⟨row, hc, hr⟩ := ab.bE (uh H) hlt
    obtain ⟨rowz, hcz, hrz⟩ := ab.bE (uh H2) hlt
    have hr2 := hr
    obtain ⟨blo, hlo⟩ := hr2; obtain ⟨rfl, -⟩ := cS.1 hlo; clear hlo
    have hrz2 := hrz
    obtain ⟨bloz, hloz⟩ := hrz2; obtain ⟨rfl, -⟩ := cS.1 hloz; clear hloz
    have c0 : w.cell? ⟨b, off + k * 2, none⟩ = some (.int .i64 (xs[k]).id) := ((Below.refl w.heap.size w).cell (p := ⟨b, off + k * 2, none⟩) hbl).trans (hc 0 (by decide))
    have c1 : w.cell? ⟨b, off + k * 2 + 1, none⟩ = some (.int .i64 (xs[k]).score) := ((Below.refl w.heap.size w).cell (p := ⟨b, off + k * 2 + 1, none⟩) hbl).trans (hc 1 (by decide))
    have c0z : w.cell? ⟨b2, off2 + k * 2, none⟩ = some (.int .i64 (xs[k]).id) := ((Below.refl w.heap.size w).cell (p := ⟨b2, off2 + k * 2, none⟩) hbl2).trans (hcz 0 (by decide))
    have c1z : w.cell? ⟨b2, off2 + k * 2 + 1, none⟩ = some (.int .i64 (xs[k]).score) := ((Below.refl w.heap.size w).cell (p := ⟨b2, off2 + k * 2 + 1, none⟩) hbl2).trans (hcz 1 (by decide))
    clear hc hcz
    have HR := yh hr
    have HRZ := yh hrz
    clear hr hrz
    have HB := yh hB
    clear hB
    generalize hxk : xs[k] = x at *
    clear hxk
    have i1 : (0 : Int) ≤ (k : Int) := by omega
    have i2 : (k : Int) < (xs.length : Int) := by omega
    go_wp2_with fail
    refine wZz (fun w' => Below w.heap.size w w') (uh HB).drew (fun zq => ?_)
    generalize wr.drew = wD at zq ⊢
    refine tkH 0 zq ?_
    refine tkH 1 zq ?_
    refine tkH 2 zq ?_
    refine tkJ 3 (v := ?v3) ?h3 zq ?r3
    case h3 =>
     intro wS hSw
     have y0 := cZ hSw hbl c0
     have y1 := cZ hSw hbl c1
     clear hSw
     exact fZ
    refine tkH 4 zq ?_
    refine tkH 5 zq ?_
    refine tkH 6 zq ?_
    refine tkJ 7 (v := ?v7) ?h7 zq ?r7
    case h7 =>
     intro wS hSw
     have y0z := cZ hSw hbl2 c0z
     have y1z := cZ hSw hbl2 c1z
     clear hSw
     exact fZ
    refine rdH 8 (fun K hK => ?_)
    go_simp
    go_at_call 205
    refine (vx _ _ x _ ((uh HR).later zq) ((uh HRZ).later zq)).mono ?_
    rintro e w3 ⟨rfl, hbw⟩
    try go_wp2_with fail
    refine hK.out _ _ (zq.trans (hbw.mono zq.size)) (fun zq => ?_)
    clear hK K
    try simp only [Act.put, pz, py, px]
    refine tkH 9 zq ?_
    refine dZ ?_
    have HB3 := yh zq
    clear zq c0 c0z c1 c1z HB
    go_wp2_with fail
    go_roundw
    case rel => exact ⟨k + 1, by omega, by go_num, uh HB3⟩
    case measure => simp [intOf]; omega
   have HB := yh hB
   clear hB
   go_wp2_with fail
   go_ret
   exact ⟨rfl, uh HB⟩
 obtain rfl : xs = [] := List.eq_nil_of_length_eq_zero (by omega)
 clear h h2 hp
 simp only [List.length_nil] at *
 go_enter Tryz.func165, Tryz.ntmps165
 go_wp2_with fail
 refine wp_loop_rounds 1 ?_
 rw [rounds_succ]
 go_wp2_with fail
 go_ret
 exact ⟨rfl, Below.refl _ _⟩
theorem rY (cs cs2 : List Value) (x : bj) (w : World) (h : ab.ar.Reads w cs x) (h2 : ab.ar.Reads w cs2 x) :
  Calls Tryz.prog 109 #[.agg cs.toArray, .agg cs2.toArray] w fun e w' => e = .returned (.bool true) ∧ Below w.heap.size w w' := by
 obtain ⟨a4, d4, a9, d9, a10, d10, rfl, R4, R9, R10⟩ := cd h
 obtain ⟨a4z, d4z, a9z, d9z, a10z, d10z, rfl, R4z, R9z, R10z⟩ := cd h2
 clear h h2
 have e0 : (x.kind != x.kind) = false := by simp
 have e1 : (x.aa != x.aa) = false := by simp
 have e2 : (x.seq != x.seq) = false := by simp
 have e3 : (x.id != x.id) = false := by simp
 have e5 : (x.k != x.k) = false := by simp
 have e6 : (x.start != x.start) = false := by simp
 have e7 : (x.fin != x.fin) = false := by simp
 have e8 : (x.place != x.place) = false := by simp
 have HB0 : Below w.heap.size w ((w.alloc (.cells #[.int .i64 x.kind, .int .i64 x.aa, .int .i64 x.seq, .int .i64 x.id, .slice a4 x.query.length d4, .int .i64 x.k, .int .i64 x.start, .int .i64 x.fin, .int .i64 x.place, .slice a9 x.vec.length d9, .slice a10 x.aY.length d10] 89)).alloc (.cells #[.int .i64 x.kind, .int .i64 x.aa, .int .i64 x.seq, .int .i64 x.id, .slice a4z x.query.length d4z, .int .i64 x.k, .int .i64 x.start, .int .i64 x.fin, .int .i64 x.place, .slice a9z x.vec.length d9z, .slice a10z x.aY.length d10z] 89)) := ((Below.refl _ _).alloc (Nat.le_refl _) _).alloc (by simp) _
 have bA : aA w.heap.size #[.int .i64 x.kind, .int .i64 x.aa, .int .i64 x.seq, .int .i64 x.id, .slice a4 x.query.length d4, .int .i64 x.k, .int .i64 x.start, .int .i64 x.fin, .int .i64 x.place, .slice a9 x.vec.length d9, .slice a10 x.aY.length d10] 89 ((w.alloc (.cells #[.int .i64 x.kind, .int .i64 x.aa, .int .i64 x.seq, .int .i64 x.id, .slice a4 x.query.length d4, .int .i64 x.k, .int .i64 x.start, .int .i64 x.fin, .int .i64 x.place, .slice a9 x.vec.length d9, .slice a10 x.aY.length d10] 89)).alloc (.cells #[.int .i64 x.kind, .int .i64 x.aa, .int .i64 x.seq, .int .i64 x.id, .slice a4z x.query.length d4z, .int .i64 x.k, .int .i64 x.start, .int .i64 x.fin, .int .i64 x.place, .slice a9z x.vec.length d9z, .slice a10z x.aY.length d10z] 89)) w.heap.size := (aD (Nat.le_refl _)).grow _
 have bC : aA w.heap.size #[.int .i64 x.kind, .int .i64 x.aa, .int .i64 x.seq, .int .i64 x.id, .slice a4z x.query.length d4z, .int .i64 x.k, .int .i64 x.start, .int .i64 x.fin, .int .i64 x.place, .slice a9z x.vec.length d9z, .slice a10z x.aY.length d10z] 89 ((w.alloc (.cells #[.int .i64 x.kind, .int .i64 x.aa, .int .i64 x.seq, .int .i64 x.id, .slice a4 x.query.length d4, .int .i64 x.k, .int .i64 x.start, .int .i64 x.fin, .int .i64 x.place, .slice a9 x.vec.length d9, .slice a10 x.aY.length d10] 89)).alloc (.cells #[.int .i64 x.kind, .int .i64 x.aa, .int .i64 x.seq, .int .i64 x.id, .slice a4z x.query.length d4z, .int .i64 x.k, .int .i64 x.start, .int .i64 x.fin, .int .i64 x.place, .slice a9z x.vec.length d9z, .slice a10z x.aY.length d10z] 89)) (w.heap.size + 1) := bm (by omega) (by simp)
 go_enter Tryz.func109, Tryz.ntmps109
 go_wp2_with fail
 generalize (w.alloc (.cells #[.int .i64 x.kind, .int .i64 x.aa, .int .i64 x.seq, .int .i64 x.id, .slice a4 x.query.length d4, .int .i64 x.k, .int .i64 x.start, .int .i64 x.fin, .int .i64 x.place, .slice a9 x.vec.length d9, .slice a10 x.aY.length d10] 89)).alloc (.cells #[.int .i64 x.kind, .int .i64 x.aa, .int .i64 x.seq, .int .i64 x.id, .slice a4z x.query.length d4z, .int .i64 x.k, .int .i64 x.start, .int .i64 x.fin, .int .i64 x.place, .slice a9z x.vec.length d9z, .slice a10z x.aY.length d10z] 89) = W0 at *
 replace R4 := R4.later HB0
 replace R4z := R4z.later HB0
 replace R9 := R9.later HB0
 replace R9z := R9z.later HB0
 replace R10 := R10.later HB0
 replace R10z := R10z.later HB0
 refine (gC _ _ x.query _ R4 R4z).mono ?_
 rintro e w1 ⟨rfl, hb⟩
 replace bA := bA.ai hb
 replace bC := bC.ai hb
 replace HB0 := HB0.trans (hb.mono HB0.size)
 replace R9 := R9.later hb
 replace R9z := R9z.later hb
 replace R10 := R10.later hb
 replace R10z := R10z.later hb
 have p5 := bA.at 5 _ rfl
 have q5 := bC.at 5 _ rfl
 have p6 := bA.at 6 _ rfl
 have q6 := bC.at 6 _ rfl
 have p7 := bA.at 7 _ rfl
 have q7 := bC.at 7 _ rfl
 have p8 := bA.at 8 _ rfl
 have q8 := bC.at 8 _ rfl
 have p9 := bA.at 9 _ rfl
 have q9 := bC.at 9 _ rfl
 have p10 := bA.at 10 _ rfl
 have q10 := bC.at 10 _ rfl
 clear hb
 have HB := yh HB0
 have HA := yh bA
 have HC := yh bC
 clear HB0 bA bC
 have S9 := yh R9
 have S9z := yh R9z
 clear R9 R9z
 have S10 := yh R10
 have S10z := yh R10z
 clear R10 R10z
 go_wp2_with fail
 have HB0 := uh HB
 have bA := uh HA
 have bC := uh HC
 clear HB HA HC
 clear p5 q5
 clear p6 q6
 clear p7 q7
 clear p8 q8
 clear p9 q9
 clear p10 q10
 have R9 := uh S9
 have R9z := uh S9z
 clear S9 S9z
 have R10 := uh S10
 have R10z := uh S10z
 clear S10 S10z
 refine (gC _ _ x.vec _ R9 R9z).mono ?_
 rintro e w2 ⟨rfl, hb⟩
 replace bA := bA.ai hb
 replace bC := bC.ai hb
 replace HB0 := HB0.trans (hb.mono HB0.size)
 replace R10 := R10.later hb
 replace R10z := R10z.later hb
 have p10 := bA.at 10 _ rfl
 have q10 := bC.at 10 _ rfl
 clear hb
 have HB := yh HB0
 have HA := yh bA
 have HC := yh bC
 clear HB0 bA bC
 have S10 := yh R10
 have S10z := yh R10z
 clear R10 R10z
 go_wp2_with fail
 have HB0 := uh HB
 have bA := uh HA
 have bC := uh HC
 clear HB HA HC
 clear p10 q10
 have R10 := uh S10
 have R10z := uh S10z
 clear S10 S10z
 refine (tT _ _ x.aY _ R10 R10z).mono ?_
 rintro e w3 ⟨rfl, hb⟩
 replace bA := bA.ai hb
 replace bC := bC.ai hb
 replace HB0 := HB0.trans (hb.mono HB0.size)
 clear hb
 have HB := yh HB0
 have HA := yh bA
 have HC := yh bC
 clear HB0 bA bC
 go_wp2_with fail
 go_ret
 exact ⟨rfl, uh HB⟩
theorem qO (v v2 : Value) (xs : List bj) (w : World) (h : (ab.sl ab.ar).Reads w [v] xs) (h2 : (ab.sl ab.ar).Reads w [v2] xs) :
  Calls Tryz.prog 50 #[v, v2] w fun e w' => e = .returned (.bool true) ∧ Below w.heap.size w w' := by
 have hbig := h.et
 obtain ⟨ao, cap, rfl⟩ := aI h
 obtain ⟨ao2, cap2, rfl⟩ := aI h2
 by_cases hp : 0 < xs.length
 ·
  obtain ⟨b, off, rfl, hbl⟩ := ab.aS h hp
  obtain ⟨b2, off2, rfl, hbl2⟩ := ab.aS h2 hp
  have H := yh h
  have H2 := yh h2
  clear h h2
  go_enter Tryz.func50, Tryz.ntmps50
  go_wp2_with fail
  go_loopw [5] (fun i wr => ∃ k : Nat, k ≤ xs.length ∧ i = .int .i64 k ∧ Below w.heap.size w wr) (fun i _ => xs.length - (intOf i).toNat)
  case atStart => exact ⟨0, Nat.zero_le _, rfl, Below.refl _ _⟩
  case round =>
   obtain ⟨k, hk, rfl, hB⟩ := hrel
   by_cases hlt : k < xs.length
   ·
    obtain ⟨row, hc, hr⟩ := ab.bE (uh H) hlt
    obtain ⟨rowz, hcz, hrz⟩ := ab.bE (uh H2) hlt
    have hr2 := hr
    obtain ⟨a4, d4, a9, d9, a10, d10, rfl, -, -, -⟩ := cd hr2
    have hrz2 := hrz
    obtain ⟨a4z, d4z, a9z, d9z, a10z, d10z, rfl, -, -, -⟩ := cd hrz2
    have c0 : w.cell? ⟨b, off + k * 11, none⟩ = some (.int .i64 (xs[k]).kind) := ((Below.refl w.heap.size w).cell (p := ⟨b, off + k * 11, none⟩) hbl).trans (hc 0 (by decide))
    have c1 : w.cell? ⟨b, off + k * 11 + 1, none⟩ = some (.int .i64 (xs[k]).aa) := ((Below.refl w.heap.size w).cell (p := ⟨b, off + k * 11 + 1, none⟩) hbl).trans (hc 1 (by decide))
    have c2 : w.cell? ⟨b, off + k * 11 + 2, none⟩ = some (.int .i64 (xs[k]).seq) := ((Below.refl w.heap.size w).cell (p := ⟨b, off + k * 11 + 2, none⟩) hbl).trans (hc 2 (by decide))
    have c3 : w.cell? ⟨b, off + k * 11 + 3, none⟩ = some (.int .i64 (xs[k]).id) := ((Below.refl w.heap.size w).cell (p := ⟨b, off + k * 11 + 3, none⟩) hbl).trans (hc 3 (by decide))
    have c4 : w.cell? ⟨b, off + k * 11 + 4, none⟩ = some (.slice a4 (xs[k]).query.length d4) := ((Below.refl w.heap.size w).cell (p := ⟨b, off + k * 11 + 4, none⟩) hbl).trans (hc 4 (by decide))
    have c5 : w.cell? ⟨b, off + k * 11 + 5, none⟩ = some (.int .i64 (xs[k]).k) := ((Below.refl w.heap.size w).cell (p := ⟨b, off + k * 11 + 5, none⟩) hbl).trans (hc 5 (by decide))
    have c6 : w.cell? ⟨b, off + k * 11 + 6, none⟩ = some (.int .i64 (xs[k]).start) := ((Below.refl w.heap.size w).cell (p := ⟨b, off + k * 11 + 6, none⟩) hbl).trans (hc 6 (by decide))
    have c7 : w.cell? ⟨b, off + k * 11 + 7, none⟩ = some (.int .i64 (xs[k]).fin) := ((Below.refl w.heap.size w).cell (p := ⟨b, off + k * 11 + 7, none⟩) hbl).trans (hc 7 (by decide))
    have c8 : w.cell? ⟨b, off + k * 11 + 8, none⟩ = some (.int .i64 (xs[k]).place) := ((Below.refl w.heap.size w).cell (p := ⟨b, off + k * 11 + 8, none⟩) hbl).trans (hc 8 (by decide))
    have c9 : w.cell? ⟨b, off + k * 11 + 9, none⟩ = some (.slice a9 (xs[k]).vec.length d9) := ((Below.refl w.heap.size w).cell (p := ⟨b, off + k * 11 + 9, none⟩) hbl).trans (hc 9 (by decide))
    have c10 : w.cell? ⟨b, off + k * 11 + 10, none⟩ = some (.slice a10 (xs[k]).aY.length d10) := ((Below.refl w.heap.size w).cell (p := ⟨b, off + k * 11 + 10, none⟩) hbl).trans (hc 10 (by decide))
    have c0z : w.cell? ⟨b2, off2 + k * 11, none⟩ = some (.int .i64 (xs[k]).kind) := ((Below.refl w.heap.size w).cell (p := ⟨b2, off2 + k * 11, none⟩) hbl2).trans (hcz 0 (by decide))
    have c1z : w.cell? ⟨b2, off2 + k * 11 + 1, none⟩ = some (.int .i64 (xs[k]).aa) := ((Below.refl w.heap.size w).cell (p := ⟨b2, off2 + k * 11 + 1, none⟩) hbl2).trans (hcz 1 (by decide))
    have c2z : w.cell? ⟨b2, off2 + k * 11 + 2, none⟩ = some (.int .i64 (xs[k]).seq) := ((Below.refl w.heap.size w).cell (p := ⟨b2, off2 + k * 11 + 2, none⟩) hbl2).trans (hcz 2 (by decide))
    have c3z : w.cell? ⟨b2, off2 + k * 11 + 3, none⟩ = some (.int .i64 (xs[k]).id) := ((Below.refl w.heap.size w).cell (p := ⟨b2, off2 + k * 11 + 3, none⟩) hbl2).trans (hcz 3 (by decide))
    have c4z : w.cell? ⟨b2, off2 + k * 11 + 4, none⟩ = some (.slice a4z (xs[k]).query.length d4z) := ((Below.refl w.heap.size w).cell (p := ⟨b2, off2 + k * 11 + 4, none⟩) hbl2).trans (hcz 4 (by decide))
    have c5z : w.cell? ⟨b2, off2 + k * 11 + 5, none⟩ = some (.int .i64 (xs[k]).k) := ((Below.refl w.heap.size w).cell (p := ⟨b2, off2 + k * 11 + 5, none⟩) hbl2).trans (hcz 5 (by decide))
    have c6z : w.cell? ⟨b2, off2 + k * 11 + 6, none⟩ = some (.int .i64 (xs[k]).start) := ((Below.refl w.heap.size w).cell (p := ⟨b2, off2 + k * 11 + 6, none⟩) hbl2).trans (hcz 6 (by decide))
    have c7z : w.cell? ⟨b2, off2 + k * 11 + 7, none⟩ = some (.int .i64 (xs[k]).fin) := ((Below.refl w.heap.size w).cell (p := ⟨b2, off2 + k * 11 + 7, none⟩) hbl2).trans (hcz 7 (by decide))
    have c8z : w.cell? ⟨b2, off2 + k * 11 + 8, none⟩ = some (.int .i64 (xs[k]).place) := ((Below.refl w.heap.size w).cell (p := ⟨b2, off2 + k * 11 + 8, none⟩) hbl2).trans (hcz 8 (by decide))
    have c9z : w.cell? ⟨b2, off2 + k * 11 + 9, none⟩ = some (.slice a9z (xs[k]).vec.length d9z) := ((Below.refl w.heap.size w).cell (p := ⟨b2, off2 + k * 11 + 9, none⟩) hbl2).trans (hcz 9 (by decide))
    have c10z : w.cell? ⟨b2, off2 + k * 11 + 10, none⟩ = some (.slice a10z (xs[k]).aY.length d10z) := ((Below.refl w.heap.size w).cell (p := ⟨b2, off2 + k * 11 + 10, none⟩) hbl2).trans (hcz 10 (by decide))
    clear hc hcz
    have HR := yh hr
    have HRZ := yh hrz
    clear hr hrz
    have HB := yh hB
    clear hB
    generalize hxk : xs[k] = x at *
    clear hxk
    have i1 : (0 : Int) ≤ (k : Int) := by omega
    have i2 : (k : Int) < (xs.length : Int) := by omega
    go_wp2_with fail
    refine wZz (fun w' => Below w.heap.size w w') (uh HB).drew (fun zq => ?_)
    generalize wr.drew = wD at zq ⊢
    refine tkH 0 zq ?_
    refine tkH 1 zq ?_
    refine tkH 2 zq ?_
    refine tkJ 3 (v := ?v3) ?h3 zq ?r3
    case h3 =>
     intro wS hSw
     have y0 := cZ hSw hbl c0
     have y1 := cZ hSw hbl c1
     have y2 := cZ hSw hbl c2
     have y3 := cZ hSw hbl c3
     have y4 := cZ hSw hbl c4
     have y5 := cZ hSw hbl c5
     have y6 := cZ hSw hbl c6
     have y7 := cZ hSw hbl c7
     have y8 := cZ hSw hbl c8
     have y9 := cZ hSw hbl c9
     have y10 := cZ hSw hbl c10
     clear hSw
     exact fZ
    refine tkH 4 zq ?_
    refine tkH 5 zq ?_
    refine tkH 6 zq ?_
    refine tkJ 7 (v := ?v7) ?h7 zq ?r7
    case h7 =>
     intro wS hSw
     have y0z := cZ hSw hbl2 c0z
     have y1z := cZ hSw hbl2 c1z
     have y2z := cZ hSw hbl2 c2z
     have y3z := cZ hSw hbl2 c3z
     have y4z := cZ hSw hbl2 c4z
     have y5z := cZ hSw hbl2 c5z
     have y6z := cZ hSw hbl2 c6z
     have y7z := cZ hSw hbl2 c7z
     have y8z := cZ hSw hbl2 c8z
     have y9z := cZ hSw hbl2 c9z
     have y10z := cZ hSw hbl2 c10z
     clear hSw
     exact fZ
    refine rdH 8 (fun K hK => ?_)
    go_simp
    go_at_call 109
    refine (rY _ _ x _ ((uh HR).later zq) ((uh HRZ).later zq)).mono ?_
    rintro e w3 ⟨rfl, hbw⟩
    try go_wp2_with fail
    refine hK.out _ _ (zq.trans (hbw.mono zq.size)) (fun zq => ?_)
    clear hK K
    try simp only [Act.put, pz, py, px]
    refine tkH 9 zq ?_
    refine dZ ?_
    have HB3 := yh zq
    clear zq c0 c0z c1 c1z c2 c2z c3 c3z c4 c4z c5 c5z c6 c6z c7 c7z c8 c8z c9 c9z c10 c10z HB
    go_wp2_with fail
    go_roundw
    case rel => exact ⟨k + 1, by omega, by go_num, uh HB3⟩
    case measure => simp [intOf]; omega
   have HB := yh hB
   clear hB
   go_wp2_with fail
   go_ret
   exact ⟨rfl, uh HB⟩
 obtain rfl : xs = [] := List.eq_nil_of_length_eq_zero (by omega)
 clear h h2 hp
 simp only [List.length_nil] at *
 go_enter Tryz.func50, Tryz.ntmps50
 go_wp2_with fail
 refine wp_loop_rounds 1 ?_
 rw [rounds_succ]
 go_wp2_with fail
 go_ret
 exact ⟨rfl, Below.refl _ _⟩
theorem nX (cs cs2 : List Value) (x : ay) (w : World) (h : ab.aF.Reads w cs x) (h2 : ab.aF.Reads w cs2 x) :
  Calls Tryz.prog 14 #[.agg cs.toArray, .agg cs2.toArray] w fun e w' => e = .returned (.bool true) ∧ Below w.heap.size w w' := by
 obtain ⟨a3, d3, a4, d4, a5, d5, a6, d6, rfl, R2, R4, R5, R6⟩ := aK h
 obtain ⟨a3z, d3z, a4z, d4z, a5z, d5z, a6z, d6z, rfl, R2z, R4z, R5z, R6z⟩ := aK h2
 clear h h2
 have e0 : (x.now != x.now) = false := by simp
 have e1 : (x.events != x.events) = false := by simp
 have e2 : (x.chain.ae != x.chain.ae) = false := by simp
 have HB0 : Below w.heap.size w ((w.alloc (.cells #[.int .i64 x.now, .int .i64 x.events, .int .i64 x.chain.ae, .slice a3 x.chain.ids.length d3, .slice a4 x.nodes.length d4, .slice a5 x.msgs.length d5, .slice a6 x.af.length d6] 39)).alloc (.cells #[.int .i64 x.now, .int .i64 x.events, .int .i64 x.chain.ae, .slice a3z x.chain.ids.length d3z, .slice a4z x.nodes.length d4z, .slice a5z x.msgs.length d5z, .slice a6z x.af.length d6z] 39)) := ((Below.refl _ _).alloc (Nat.le_refl _) _).alloc (by simp) _
 have bA : aA w.heap.size #[.int .i64 x.now, .int .i64 x.events, .int .i64 x.chain.ae, .slice a3 x.chain.ids.length d3, .slice a4 x.nodes.length d4, .slice a5 x.msgs.length d5, .slice a6 x.af.length d6] 39 ((w.alloc (.cells #[.int .i64 x.now, .int .i64 x.events, .int .i64 x.chain.ae, .slice a3 x.chain.ids.length d3, .slice a4 x.nodes.length d4, .slice a5 x.msgs.length d5, .slice a6 x.af.length d6] 39)).alloc (.cells #[.int .i64 x.now, .int .i64 x.events, .int .i64 x.chain.ae, .slice a3z x.chain.ids.length d3z, .slice a4z x.nodes.length d4z, .slice a5z x.msgs.length d5z, .slice a6z x.af.length d6z] 39)) w.heap.size := (aD (Nat.le_refl _)).grow _
 have bC : aA w.heap.size #[.int .i64 x.now, .int .i64 x.events, .int .i64 x.chain.ae, .slice a3z x.chain.ids.length d3z, .slice a4z x.nodes.length d4z, .slice a5z x.msgs.length d5z, .slice a6z x.af.length d6z] 39 ((w.alloc (.cells #[.int .i64 x.now, .int .i64 x.events, .int .i64 x.chain.ae, .slice a3 x.chain.ids.length d3, .slice a4 x.nodes.length d4, .slice a5 x.msgs.length d5, .slice a6 x.af.length d6] 39)).alloc (.cells #[.int .i64 x.now, .int .i64 x.events, .int .i64 x.chain.ae, .slice a3z x.chain.ids.length d3z, .slice a4z x.nodes.length d4z, .slice a5z x.msgs.length d5z, .slice a6z x.af.length d6z] 39)) (w.heap.size + 1) := bm (by omega) (by simp)
 go_enter Tryz.func14, Tryz.ntmps14
 go_wp2_with fail
 generalize (w.alloc (.cells #[.int .i64 x.now, .int .i64 x.events, .int .i64 x.chain.ae, .slice a3 x.chain.ids.length d3, .slice a4 x.nodes.length d4, .slice a5 x.msgs.length d5, .slice a6 x.af.length d6] 39)).alloc (.cells #[.int .i64 x.now, .int .i64 x.events, .int .i64 x.chain.ae, .slice a3z x.chain.ids.length d3z, .slice a4z x.nodes.length d4z, .slice a5z x.msgs.length d5z, .slice a6z x.af.length d6z] 39) = W0 at *
 replace R2 := R2.later HB0
 replace R2z := R2z.later HB0
 replace R4 := R4.later HB0
 replace R4z := R4z.later HB0
 replace R5 := R5.later HB0
 replace R5z := R5z.later HB0
 replace R6 := R6.later HB0
 replace R6z := R6z.later HB0
 refine (sR _ _ x.chain _ R2 R2z).mono ?_
 rintro e w1 ⟨rfl, hb⟩
 replace bA := bA.ai hb
 replace bC := bC.ai hb
 replace HB0 := HB0.trans (hb.mono HB0.size)
 replace R4 := R4.later hb
 replace R4z := R4z.later hb
 replace R5 := R5.later hb
 replace R5z := R5z.later hb
 replace R6 := R6.later hb
 replace R6z := R6z.later hb
 have p4 := bA.at 4 _ rfl
 have q4 := bC.at 4 _ rfl
 have p5 := bA.at 5 _ rfl
 have q5 := bC.at 5 _ rfl
 have p6 := bA.at 6 _ rfl
 have q6 := bC.at 6 _ rfl
 clear hb
 have HB := yh HB0
 have HA := yh bA
 have HC := yh bC
 clear HB0 bA bC
 have S4 := yh R4
 have S4z := yh R4z
 clear R4 R4z
 have S5 := yh R5
 have S5z := yh R5z
 clear R5 R5z
 have S6 := yh R6
 have S6z := yh R6z
 clear R6 R6z
 go_wp2_with fail
 have HB0 := uh HB
 have bA := uh HA
 have bC := uh HC
 clear HB HA HC
 clear p4 q4
 clear p5 q5
 clear p6 q6
 have R4 := uh S4
 have R4z := uh S4z
 clear S4 S4z
 have R5 := uh S5
 have R5z := uh S5z
 clear S5 S5z
 have R6 := uh S6
 have R6z := uh S6z
 clear S6 S6z
 refine (rM _ _ x.nodes _ R4 R4z).mono ?_
 rintro e w2 ⟨rfl, hb⟩
 replace bA := bA.ai hb
 replace bC := bC.ai hb
 replace HB0 := HB0.trans (hb.mono HB0.size)
 replace R5 := R5.later hb
 replace R5z := R5z.later hb
 replace R6 := R6.later hb
 replace R6z := R6z.later hb
 have p5 := bA.at 5 _ rfl
 have q5 := bC.at 5 _ rfl
 have p6 := bA.at 6 _ rfl
 have q6 := bC.at 6 _ rfl
 clear hb
 have HB := yh HB0
 have HA := yh bA
 have HC := yh bC
 clear HB0 bA bC
 have S5 := yh R5
 have S5z := yh R5z
 clear R5 R5z
 have S6 := yh R6
 have S6z := yh R6z
 clear R6 R6z
 go_wp2_with fail
 have HB0 := uh HB
 have bA := uh HA
 have bC := uh HC
 clear HB HA HC
 clear p5 q5
 clear p6 q6
 have R5 := uh S5
 have R5z := uh S5z
 clear S5 S5z
 have R6 := uh S6
 have R6z := uh S6z
 clear S6 S6z
 refine (uv _ _ x.msgs _ R5 R5z).mono ?_
 rintro e w3 ⟨rfl, hb⟩
 replace bA := bA.ai hb
 replace bC := bC.ai hb
 replace HB0 := HB0.trans (hb.mono HB0.size)
 replace R6 := R6.later hb
 replace R6z := R6z.later hb
 have p6 := bA.at 6 _ rfl
 have q6 := bC.at 6 _ rfl
 clear hb
 have HB := yh HB0
 have HA := yh bA
 have HC := yh bC
 clear HB0 bA bC
 have S6 := yh R6
 have S6z := yh R6z
 clear R6 R6z
 go_wp2_with fail
 have HB0 := uh HB
 have bA := uh HA
 have bC := uh HC
 clear HB HA HC
 clear p6 q6
 have R6 := uh S6
 have R6z := uh S6z
 clear S6 S6z
 refine (qO _ _ x.af _ R6 R6z).mono ?_
 rintro e w4 ⟨rfl, hb⟩
 replace bA := bA.ai hb
 replace bC := bC.ai hb
 replace HB0 := HB0.trans (hb.mono HB0.size)
 clear hb
 have HB := yh HB0
 have HA := yh bA
 have HC := yh bC
 clear HB0 bA bC
 go_wp2_with fail
 go_ret
 exact ⟨rfl, uh HB⟩
theorem fe (x : ay) : ab.aF.ak x = ab.aH.ak x.chain + (ab.sl ab.ax).ak x.nodes + (ab.sl ab.aQ).ak x.msgs + (ab.sl ab.ar).ak x.af := by
 show 0 + (0 + (ab.aH.ak x.chain + ((ab.sl ab.ax).ak x.nodes + ((ab.sl ab.aQ).ak x.msgs + ((ab.sl ab.ar).ak x.af))))) = ab.aH.ak x.chain + (ab.sl ab.ax).ak x.nodes + (ab.sl ab.aQ).ak x.msgs + (ab.sl ab.ar).ak x.af
 omega
theorem lE (k : Int) (x : ay) : ab.aF.cF k x = ⟨x.now, x.events, ab.aH.cF (k) x.chain, (ab.sl ab.ax).cF (k + (ab.aH.ak x.chain : Int)) x.nodes, (ab.sl ab.aQ).cF (k + (ab.aH.ak x.chain : Int) + ((ab.sl ab.ax).ak x.nodes : Int)) x.msgs, (ab.sl ab.ar).cF (k + (ab.aH.ak x.chain : Int) + ((ab.sl ab.ax).ak x.nodes : Int) + ((ab.sl ab.aQ).ak x.msgs : Int)) x.af⟩ := by
 simp [ab.aF, ab.via, ab.pair, ab.int]
theorem gx {w : World} {cs : List Value} {x : ay} {bl : List Nat} (h : ab.aF.Own w cs x bl) : ∃ (a3 : Option Addr) (d3 : Nat) (a4 : Option Addr) (d4 : Nat) (a5 : Option Addr) (d5 : Nat) (a6 : Option Addr) (d6 : Nat) (g2 : List Nat) (g4 : List Nat) (g5 : List Nat) (g6 : List Nat), cs = [.int .i64 x.now, .int .i64 x.events, .int .i64 x.chain.ae, .slice a3 x.chain.ids.length d3, .slice a4 x.nodes.length d4, .slice a5 x.msgs.length d5, .slice a6 x.af.length d6] ∧ bl = g2 ++ (g4 ++ (g5 ++ g6)) ∧ ab.aH.Own w [.int .i64 x.chain.ae, .slice a3 x.chain.ids.length d3] x.chain g2 ∧ (ab.sl ab.ax).Own w [.slice a4 x.nodes.length d4] x.nodes g4 ∧ (ab.sl ab.aQ).Own w [.slice a5 x.msgs.length d5] x.msgs g5 ∧ (ab.sl ab.ar).Own w [.slice a6 x.af.length d6] x.af g6 ∧ (Lit.int .i64 x.now).wf = true ∧ (Lit.int .i64 x.events).wf = true := by
 obtain ⟨hl, hn, hf⟩ := h
 obtain ⟨a3, d3, b3, a4, d4, b4, a5, d5, b5, a6, d6, b6, rfl, hbl, w0, w1, w2, l3, l4, l5, l6⟩ := db.1 hl
 rw [hbl] at hn hf
 simp only [List.nodup_append, List.mem_append] at hn hf
 exact ⟨a3, d3, a4, d4, a5, d5, a6, d6, b3, b4, b5, b6, rfl, hbl, ⟨dF.2 ⟨a3, d3, b3, rfl, rfl, w2, l3⟩, by simp_all, fun b hb => hf b (by simp_all)⟩, ⟨l4, by simp_all, fun b hb => hf b (by simp_all)⟩, ⟨l5, by simp_all, fun b hb => hf b (by simp_all)⟩, ⟨l6, by simp_all, fun b hb => hf b (by simp_all)⟩, w0, w1⟩
theorem eE {w : World} {x : ay} {c2 : List Value} {c4 : List Value} {c5 : List Value} {c6 : List Value} {g2 : List Nat} {g4 : List Nat} {g5 : List Nat} {g6 : List Nat} (O2 : ab.aH.Own w c2 x.chain g2) (O4 : (ab.sl ab.ax).Own w c4 x.nodes g4) (O5 : (ab.sl ab.aQ).Own w c5 x.msgs g5) (O6 : (ab.sl ab.ar).Own w c6 x.af g6) (v0 : (Lit.int .i64 x.now).wf = true) (v1 : (Lit.int .i64 x.events).wf = true) (hn : (g2 ++ (g4 ++ (g5 ++ g6))).Nodup) : ab.aF.Own w ([.int .i64 x.now] ++ ([.int .i64 x.events] ++ (c2 ++ (c4 ++ (c5 ++ c6))))) x (g2 ++ (g4 ++ (g5 ++ g6))) := by
 refine ⟨⟨[.int .i64 x.now], [.int .i64 x.events] ++ (c2 ++ (c4 ++ (c5 ++ c6))), [], [] ++ (g2 ++ (g4 ++ (g5 ++ g6))), rfl, by simp, ⟨rfl, v0, rfl⟩, ⟨[.int .i64 x.events], c2 ++ (c4 ++ (c5 ++ c6)), [], g2 ++ (g4 ++ (g5 ++ g6)), rfl, rfl, ⟨rfl, v1, rfl⟩, ⟨c2, c4 ++ (c5 ++ c6), g2, g4 ++ (g5 ++ g6), rfl, rfl, O2.1, ⟨c4, c5 ++ c6, g4, g5 ++ g6, rfl, rfl, O4.1, ⟨c5, c6, g5, g6, rfl, rfl, O5.1, O6.1⟩⟩⟩⟩⟩, hn, ?_⟩
 intro b hb o
 simp only [List.mem_append] at hb
 rcases hb with hb | hb | hb | hb
 ·
  exact O2.2.2 b hb o
 ·
  exact O4.2.2 b hb o
 ·
  exact O5.2.2 b hb o
 exact O6.2.2 b hb o
theorem fg (x : bQ) : ab.aH.ak x = (ab.sl ab.int).ak x.ids := by
 show 0 + ((ab.sl ab.int).ak x.ids) = (ab.sl ab.int).ak x.ids
 omega
theorem lD (k : Int) (x : bQ) : ab.aH.cF k x = ⟨x.ae, (ab.sl ab.int).cF (k) x.ids⟩ := by
 simp [ab.aH, ab.via, ab.pair, ab.int]
theorem rm {w : World} {cs : List Value} {x : bQ} {bl : List Nat} (h : ab.aH.Own w cs x bl) : ∃ (a1 : Option Addr) (d1 : Nat) (g1 : List Nat), cs = [.int .i64 x.ae, .slice a1 x.ids.length d1] ∧ bl = g1 ∧ (ab.sl ab.int).Own w [.slice a1 x.ids.length d1] x.ids g1 ∧ (Lit.int .i64 x.ae).wf = true := by
 obtain ⟨hl, hn, hf⟩ := h
 obtain ⟨a1, d1, b1, rfl, hbl, w0, l1⟩ := dF.1 hl
 rw [hbl] at hn hf
 exact ⟨a1, d1, b1, rfl, hbl, ⟨l1, hn, hf⟩, w0⟩
theorem iZ {w : World} {x : bQ} {c1 : List Value} {g1 : List Nat} (O1 : (ab.sl ab.int).Own w c1 x.ids g1) (v0 : (Lit.int .i64 x.ae).wf = true) (hn : (g1).Nodup) : ab.aH.Own w ([.int .i64 x.ae] ++ c1) x (g1) := by
 refine ⟨⟨[.int .i64 x.ae], c1, [], g1, rfl, by simp, ⟨rfl, v0, rfl⟩, O1.1⟩, hn, ?_⟩
 intro b hb o
 exact O1.2.2 b hb o
theorem se (zs : List Int) : (ab.sl ab.int).bV zs = zs.length := by
 show al (fun _ => 1) zs = zs.length
 induction zs with
 | nil => rfl
 | cons z zs ih => simp [al, ih]; omega
theorem lr (zs : List Int) : (ab.sl ab.int).ak zs = zs.length := se zs
theorem qG {α : Type} (bV : α → Nat) (mk : Int → α → α) (k : Int) (xs : List α) : (cq bV mk k xs).length = xs.length := by
 induction xs generalizing k with
 | nil => rfl
 | cons x xs ih => simp [cq, ih]
theorem gQ (k : Int) (zs : List Int) (j : Nat) (h : j < zs.length) : ((ab.sl ab.int).cF k zs).getD j 0 = k + j := by
 show (cq (fun _ => 1) (fun k _ => k) k zs).getD j 0 = k + j
 induction zs generalizing k j with
 | nil => simp at h
 | cons z zs ih =>
  match j with
  | 0 => simp [cq]
  | j + 1 =>
   have := ih (k + 1) j (by simpa using h)
   simp only [cq, List.getD_cons_succ]
   rw [show ((1 : Nat) : Int) = 1 from rfl, this]
   omega
theorem eD (k : Int) (zs : List Int) : ((ab.sl ab.int).cF k zs).length = zs.length := qG _ _ _ _
theorem oU (k : Int) (zs : List Int) (hk : 0 ≤ k) (hk2 : k + zs.length ≤ 1000000000) : ∀ z ∈ (ab.sl ab.int).cF k zs, (Lit.int .i64 z).wf = true := by
 intro z hz
 obtain ⟨j, hj, rfl⟩ := List.mem_iff_getElem.1 hz
 have hj' := hj
 rw [eD] at hj'
 have := gQ k zs j hj'
 have e : ((ab.sl ab.int).cF k zs)[j] = k + j := by simpa [List.getD, hj] using this
 rw [e]
 exact aP (by omega)
theorem qm (b off cap : Nat) (zs : List Int) (k : Int) (w : World) (hk : 0 ≤ k) (hk2 : k + zs.length ≤ 1000000000) (hc : ∀ j, j < zs.length → w.cell? ⟨b, off + j, none⟩ = some (.int .i64 (zs.getD j 0)))
  (hf : ∀ o, w.frozen? ⟨b, o, none⟩ = false) :
  Calls Tryz.prog 56 #[.slice (some ⟨b, off, none⟩) zs.length cap, .int .i64 k] w fun e w' => e = .returned (.int .i64 (k + zs.length)) ∧
   (∀ j, j < zs.length → w'.cell? ⟨b, off + j, none⟩ = some (.int .i64 (k + j))) ∧ (∀ o, w'.frozen? ⟨b, o, none⟩ = false) ∧ (∀ o, (o < off ∨ off + zs.length ≤ o) → w'.cell? ⟨b, o, none⟩ = w.cell? ⟨b, o, none⟩) ∧ Ext (fun q => q = b) w w' := by
 go_enter Tryz.func56, Tryz.ntmps56
 go_wp2
 go_loopw [1, 5] (fun kk i wr => ∃ j : Nat, j ≤ zs.length ∧ i = .int .i64 j ∧ kk = .int .i64 (k + j) ∧ (∀ m, m < j → wr.cell? ⟨b, off + m, none⟩ = some (.int .i64 (k + m))) ∧ (∀ o, wr.frozen? ⟨b, o, none⟩ = false) ∧ (∀ o, (o < off ∨ off + j ≤ o) → wr.cell? ⟨b, o, none⟩ = w.cell? ⟨b, o, none⟩) ∧ Ext (fun q => q = b) w wr)
  (fun _ i _ => zs.length - (intOf i).toNat)
 case atStart => exact ⟨0, Nat.zero_le _, rfl, by simp, fun m hm => by omega, hf, fun _ _ => rfl, Ext.refl _ _⟩
 case round =>
  obtain ⟨j, hj, rfl, rfl, hm, hfz, ho, hx⟩ := hrel
  by_cases hlt : j < zs.length
  ·
   have hcd : wr.cell? ⟨b, off + j, none⟩ = some (.int .i64 (zs.getD j 0)) := (ho (off + j) (by omega)).trans (hc j hlt)
   have hfj := hfz (off + j)
   have HM : Hid (∀ m, m < j + 1 → (wr.setCell ⟨b, off + j, none⟩ (.int .i64 (k + j))).cell? ⟨b, off + m, none⟩ = some (.int .i64 (k + m))) := by
    intro m hm1
    by_cases e : m = j
    ·
     subst e
     exact World.cell?_setCell_same _ _ _ hcd
    rw [World.cell?_setCell_other _ _ _ _ (fun q => by have := congrArg Addr.off q; simp only at this; omega)]
    exact hm m (by omega)
   have HF : Hid (∀ o, (wr.setCell ⟨b, off + j, none⟩ (.int .i64 (k + j))).frozen? ⟨b, o, none⟩ = false) := fun o => by simpa using hfz o
   have HO : Hid (∀ o, (o < off ∨ off + (j + 1) ≤ o) → (wr.setCell ⟨b, off + j, none⟩ (.int .i64 (k + j))).cell? ⟨b, o, none⟩ = w.cell? ⟨b, o, none⟩) := by
    intro o hoo
    rw [World.cell?_setCell_other _ _ _ _ (fun q => by have := congrArg Addr.off q; simp only at this; omega)]
    exact ho o (by omega)
   have HX := yh (hx.setCell ⟨b, off + j, none⟩ (.int .i64 (k + j)) rfl)
   clear hm hfz ho hx hc hf
   go_wp2
   go_roundw
   case rel => exact ⟨j + 1, by omega, by go_num, by go_num, uh HM, uh HF, uh HO, uh HX⟩
   case measure => simp [intOf]; omega
  obtain rfl : j = zs.length := by omega
  have HM := yh hm
  have HF := yh hfz
  have HO := yh ho
  have HX := yh hx
  clear hm hfz ho hx hc hf
  go_wp2
  go_ret
  exact ⟨rfl, uh HM, uh HF, uh HO, uh HX⟩
theorem oa (ao : Option Addr) (cap : Nat) (k : Int) (w : World) :
  Calls Tryz.prog 56 #[.slice ao 0 cap, .int .i64 k] w fun e w' => e = .returned (.int .i64 k) ∧ w' = w := by
 go_enter Tryz.func56, Tryz.ntmps56
 go_wp2
 refine wp_loop_rounds 1 ?_
 rw [rounds_succ]
 go_wp2
 go_ret
 exact ⟨rfl, rfl⟩
theorem dU (v : Value) (zs : List Int) (bl : List Nat) (k : Int) (w : World) (h : (ab.sl ab.int).Own w [v] zs bl) (hk : 0 ≤ k) (hk2 : k + (ab.sl ab.int).ak zs ≤ 1000000000) :
  Calls Tryz.prog 56 #[v, .int .i64 k] w fun e w' => e = .returned (.int .i64 (k + (ab.sl ab.int).ak zs)) ∧ (ab.sl ab.int).Own w' [v] ((ab.sl ab.int).cF k zs) bl ∧ Ext (fun q => q ∈ bl) w w' := by
 obtain ⟨hl, hn, hf⟩ := h
 rw [lr] at hk2 ⊢
 rcases ab.dY.1 hl with ⟨ao, cap, rfl, hbig, hwf, ⟨rfl, rfl⟩ | ⟨b, off, rfl, hb, rfl, hc⟩⟩
 ·
  refine (oa ao cap k w).mono ?_
  rintro e w' ⟨rfl, rfl⟩
  exact ⟨by simp, ⟨hl, hn, hf⟩, Ext.refl _ _⟩
 refine (qm b off cap zs k w hk hk2 hc (hf b (by simp))).mono ?_
 rintro e w' ⟨rfl, hm, hfz, -, hx⟩
 refine ⟨rfl, ⟨ab.dY.2 ⟨_, cap, by rw [eD], by rw [eD]; exact hbig, oU k zs hk hk2, Or.inr ⟨b, off, rfl, Nat.lt_of_lt_of_le hb hx.size, rfl, fun j hj => ?_⟩⟩, hn, ?_⟩, hx.mono fun q _ e => by simp [e]⟩
 ·
  rw [eD] at hj
  rw [hm j hj, gQ k zs j hj]
 intro b' hb' o
 obtain rfl : b' = b := by simpa using hb'
 exact hfz o
theorem qn (b off cap n : Nat) (k : Int) (w : World) (hk : 0 ≤ k) (hk2 : k + n ≤ 1000000000) (hc : ∀ j, j < n → w.cell? ⟨b, off + j, none⟩ = some (.int .i64 (k + j))) :
  Calls Tryz.prog 166 #[.slice (some ⟨b, off, none⟩) n cap, .int .i64 k] w fun e w' => e = .returned (.int .i64 (k + n)) ∧ w' = w := by
 go_enter Tryz.func166, Tryz.ntmps166
 go_wp2
 go_loop [1, 5] (fun kk i => ∃ j : Nat, j ≤ n ∧ i = .int .i64 j ∧ kk = .int .i64 (k + j)) (fun _ i => n - (intOf i).toNat)
 case atStart => exact ⟨0, Nat.zero_le _, rfl, by simp⟩
 case round =>
  obtain ⟨j, hj, rfl, rfl⟩ := hrel
  by_cases hlt : j < n
  ·
   have hcx := hc j hlt
   have hne : ((k + (j : Int)) != (k + (j : Int))) = false := by simp
   clear hc
   go_wp2
   go_round
   case rel => exact ⟨j + 1, by omega, by go_num, by go_num⟩
   case measure => simp [intOf]; omega
  obtain rfl : j = n := by omega
  clear hc
  go_wp2
  go_ret
  exact ⟨rfl, rfl⟩
theorem oV (ao : Option Addr) (cap : Nat) (k : Int) (w : World) :
  Calls Tryz.prog 166 #[.slice ao 0 cap, .int .i64 k] w fun e w' => e = .returned (.int .i64 k) ∧ w' = w := by
 go_enter Tryz.func166, Tryz.ntmps166
 go_wp2
 refine wp_loop_rounds 1 ?_
 rw [rounds_succ]
 go_wp2
 go_ret
 exact ⟨rfl, rfl⟩
theorem eI (v : Value) (zs : List Int) (k : Int) (w : World) (h : (ab.sl ab.int).Reads w [v] ((ab.sl ab.int).cF k zs)) (hk : 0 ≤ k) (hk2 : k + (ab.sl ab.int).ak zs ≤ 1000000000) :
  Calls Tryz.prog 166 #[v, .int .i64 k] w fun e w' => e = .returned (.int .i64 (k + (ab.sl ab.int).ak zs)) ∧ Below w.heap.size w w' := by
 rw [lr] at hk2 ⊢
 obtain ⟨ao, cap, rfl, hwf, hc⟩ := ab.bc h
 rw [eD] at hc ⊢
 by_cases hp : 0 < zs.length
 ·
  obtain ⟨b, off, rfl, hc1⟩ := hc hp
  refine (qn b off cap zs.length k w hk hk2 fun j hj => by rw [hc1 j hj, gQ k zs j hj]).mono ?_
  rintro e w' ⟨rfl, rfl⟩
  exact ⟨rfl, Below.refl _ _⟩
 have e0 : zs.length = 0 := by omega
 rw [e0]
 refine (oV ao cap k w).mono ?_
 rintro e w' ⟨rfl, rfl⟩
 exact ⟨by simp, Below.refl _ _⟩
theorem oD (cs : List Value) (x : bQ) (bl : List Nat) (k : Int) (w : World) (h : ab.aH.Own w cs x bl) (hk : 0 ≤ k) (hk2 : k + ab.aH.ak x ≤ 1000000000) :
  Calls Tryz.prog 52 #[.agg cs.toArray, .int .i64 k] w fun e w' => e = .returned (.int .i64 (k + ab.aH.ak x)) ∧ ab.aH.Own w' cs (ab.aH.cF k x) bl ∧ Ext (fun q => q ∈ bl) w w' := by
 have hlt := h.lt
 have hnd := h.2.1
 rw [fg] at hk2
 obtain ⟨a1, d1, g1, rfl, hbl, O1, v0⟩ := rm h
 clear h
 have HB0 : Below w.heap.size w (w.alloc (.cells #[.int .i64 x.ae, .slice a1 x.ids.length d1] 34)) := (Below.refl _ _).alloc (Nat.le_refl _) _
 have bA : aA w.heap.size #[.int .i64 x.ae, .slice a1 x.ids.length d1] 34 (w.alloc (.cells #[.int .i64 x.ae, .slice a1 x.ids.length d1] 34)) w.heap.size := aD (Nat.le_refl _)
 have HN := yh hnd
 have HV := yh (fg x)
 have HM := yh (lD k x)
 clear hnd
 go_enter Tryz.func52, Tryz.ntmps52
 go_wp2_with fail
 generalize w.alloc (.cells #[.int .i64 x.ae, .slice a1 x.ids.length d1] 34) = W0 at *
 replace O1 := O1.later HB0
 have hsz := HB0.size
 have EX : Ext (fun q => q ∈ bl) w W0 := az HB0 _
 have hs0 := bA.lt
 refine (dU _ x.ids g1 (k) _ O1 (by omega) (by omega)).mono ?_
 rintro e w1 ⟨rfl, Q1, E1⟩
 replace EX := EX.trans (E1.mono fun b _ hb => by rw [hbl]; simp [hb])
 replace bA := bA.ext E1 (fun hm => by have := hlt w.heap.size (by rw [hbl]; simp [hm]); omega)
 clear E1
 have HA := yh bA
 have HX := yh EX
 have HL := yh hlt
 have HBL := yh hbl
 clear bA EX hlt hbl
 have P1 := yh Q1
 clear Q1
 clear O1
 go_wp2_with fail
 go_ret
 refine ⟨?_, ?_, uh HX⟩
 ·
  rw [show k + (ab.aH.ak x : Int) = k + ((ab.sl ab.int).ak x.ids : Int) by rw [uh HV]]
  rfl
 have e := uh HBL
 subst e
 rw [uh HM]
 exact iZ (x := ⟨x.ae, (ab.sl ab.int).cF (k) x.ids⟩) (uh P1) v0 (uh HN)
theorem tm {w : World} {cs : List Value} {x : aV} {bl : List Nat} (h : ab.ax.Own w cs x bl) : ∃ (a4 : Option Addr) (d4 : Nat) (g4 : List Nat), cs = [.int .i64 x.id, .bool x.up, .int .i64 x.ae, .int .i64 x.au, .slice a4 x.writes.length d4, .int .i64 x.sure, .int .i64 x.clean] ∧ bl = g4 ∧ (ab.sl ab.ag).Own w [.slice a4 x.writes.length d4] x.writes g4 ∧ (Lit.int .i64 x.id).wf = true ∧ (Lit.int .i64 x.ae).wf = true ∧ (Lit.int .i64 x.au).wf = true ∧ (Lit.int .i64 x.sure).wf = true ∧ (Lit.int .i64 x.clean).wf = true := by
 obtain ⟨hl, hn, hf⟩ := h
 obtain ⟨a4, d4, b4, rfl, hbl, w0, w2, w3, l4, w5, w6⟩ := cD.1 hl
 rw [hbl] at hn hf
 exact ⟨a4, d4, b4, rfl, hbl, ⟨l4, hn, hf⟩, w0, w2, w3, w5, w6⟩
theorem gP {w : World} {x : aV} {c4 : List Value} {g4 : List Nat} (O4 : (ab.sl ab.ag).Own w c4 x.writes g4) (v0 : (Lit.int .i64 x.id).wf = true) (v2 : (Lit.int .i64 x.ae).wf = true) (v3 : (Lit.int .i64 x.au).wf = true) (v5 : (Lit.int .i64 x.sure).wf = true) (v6 : (Lit.int .i64 x.clean).wf = true) (hn : (g4).Nodup) : ab.ax.Own w ([.int .i64 x.id] ++ ([.bool x.up] ++ ([.int .i64 x.ae] ++ ([.int .i64 x.au] ++ (c4 ++ ([.int .i64 x.sure] ++ ([.int .i64 x.clean]))))))) x (g4) := by
 refine ⟨⟨[.int .i64 x.id], [.bool x.up] ++ ([.int .i64 x.ae] ++ ([.int .i64 x.au] ++ (c4 ++ ([.int .i64 x.sure] ++ ([.int .i64 x.clean]))))), [], [] ++ ([] ++ ([] ++ (g4 ++ ([] ++ [])))), rfl, by simp, ⟨rfl, v0, rfl⟩, ⟨[.bool x.up], [.int .i64 x.ae] ++ ([.int .i64 x.au] ++ (c4 ++ ([.int .i64 x.sure] ++ ([.int .i64 x.clean])))), [], [] ++ ([] ++ (g4 ++ ([] ++ []))), rfl, rfl, ⟨rfl, rfl⟩, ⟨[.int .i64 x.ae], [.int .i64 x.au] ++ (c4 ++ ([.int .i64 x.sure] ++ ([.int .i64 x.clean]))), [], [] ++ (g4 ++ ([] ++ [])), rfl, rfl, ⟨rfl, v2, rfl⟩, ⟨[.int .i64 x.au], c4 ++ ([.int .i64 x.sure] ++ ([.int .i64 x.clean])), [], g4 ++ ([] ++ []), rfl, rfl, ⟨rfl, v3, rfl⟩, ⟨c4, [.int .i64 x.sure] ++ ([.int .i64 x.clean]), g4, [] ++ [], rfl, rfl, O4.1, ⟨[.int .i64 x.sure], [.int .i64 x.clean], [], [], rfl, rfl, ⟨rfl, v5, rfl⟩, ⟨rfl, v6, rfl⟩⟩⟩⟩⟩⟩⟩, hn, ?_⟩
 intro b hb o
 exact O4.2.2 b hb o
theorem lI (x : aj) : ab.ag.bV x = 4 + (ab.sl ab.int).ak x.vec := by
 show 1 + (1 + ((ab.sl ab.int).ak x.vec + (1 + (1)))) = 4 + (ab.sl ab.int).ak x.vec
 omega
theorem lz (k : Int) (x : aj) : ab.ag.dN k x = ⟨k, k + 1, (ab.sl ab.int).cF (k + 1 + 1) x.vec, k + 1 + 1 + ((ab.sl ab.int).ak x.vec : Nat), k + 1 + 1 + ((ab.sl ab.int).ak x.vec : Nat) + 1⟩ := rfl
theorem jg (xs : List aj) : (ab.sl ab.ag).ak xs = al ab.ag.bV xs := rfl
theorem pq (k : Int) (xs : List aj) : (ab.sl ab.ag).cF k xs = cq ab.ag.bV ab.ag.dN k xs := rfl
theorem kS (b off cap : Nat) (xs : List aj) (bl : List Nat) (k : Int) (w : World) (h : (ab.sl ab.ag).Own w [.slice (some ⟨b, off, none⟩) xs.length cap] xs bl) (hk : 0 ≤ k) (hk2 : k + (al ab.ag.bV xs : Nat) ≤ 1000000000) :
  Calls Tryz.prog 110 #[.slice (some ⟨b, off, none⟩) xs.length cap, .int .i64 k] w fun e w' => e = .returned (.int .i64 (k + (al ab.ag.bV xs : Nat))) ∧ (ab.sl ab.ag).Own w' [.slice (some ⟨b, off, none⟩) xs.length cap] (cq ab.ag.bV ab.ag.dN k xs) bl ∧ Ext (fun q => q ∈ bl) w w' := by
 have hbig := h.reads.et
 have H := yh h
 clear h
 go_enter Tryz.func110, Tryz.ntmps110
 go_wp2_with fail
 go_loopw [1, 5] (fun kk i wr => ∃ (j : Nat) (kj : Int), j ≤ xs.length ∧ i = .int .i64 j ∧ kj = k + (al ab.ag.bV (xs.take j) : Nat) ∧ kk = .int .i64 kj ∧ (ab.sl ab.ag).Own wr [.slice (some ⟨b, off, none⟩) xs.length cap] (cM ab.ag.bV ab.ag.dN k xs j) bl ∧ Ext (fun q => q ∈ bl) w wr) (fun _ i _ => xs.length - (intOf i).toNat)
 case atStart => exact ⟨0, k, Nat.zero_le _, rfl, by simp [al], rfl, by rw [eZ]; exact uh H, Ext.refl _ _⟩
 case round =>
  obtain ⟨j, kj, hj, rfl, hkj, rfl, hO, hX⟩ := hrel
  clear H
  by_cases hlt : j < xs.length
  ·
   have hj2 : j < (cM ab.ag.bV ab.ag.dN k xs j).length := by rw [fA _ _ _ _ _ hj]; exact hlt
   obtain ⟨row, blk, R, O, hbk, hin, hfin⟩ := ab.ic hO hj2
   rw [fG _ _ _ _ _ hlt] at O
   have HT := yh (ab.cj (f := ab.ag.bV) hlt)
   have hle := ab.bM (f := ab.ag.bV) (xs := xs) (k := j + 1)
   rw [uh HT] at hle
   have HM : Hid (∀ y, y = ab.ag.dN kj xs[j] → (cM ab.ag.bV ab.ag.dN k xs j).set j y = cM ab.ag.bV ab.ag.dN k xs (j + 1)) := fun y e => by rw [e, hkj]; exact fI _ _ _ _ _ hlt
   have HF := yh hfin
   have HX := yh hX
   have HI := yh hin
   clear hO hfin hX hin hj2
   generalize hx : xs[j] = x at *
   clear hx
   have hcn := lI x
   have HD := yh (lz kj x)
   have hb1 : 0 ≤ kj := by omega
   have hb2 : kj + (ab.ag.bV x : Int) ≤ 1000000000 := by omega
   have HK := yh hkj
   clear hkj hle
   have hnd := O.2.1
   obtain ⟨a2, d2, g2, rfl, hbl, O2, v0, v1, v3, v4⟩ := iI O
   clear O
   subst hbl
   have HN := yh hnd
   clear hnd
   have l1 : b < wr.heap.size := R.lt
   have c0 : wr.cell? ⟨b, off + j * 5, none⟩ = some (.int .i64 x.kind) := R.at 0 _ rfl
   have f0 : wr.frozen? ⟨b, off + j * 5, none⟩ = false := R.soft _
   have c1 : wr.cell? ⟨b, off + j * 5 + 1, none⟩ = some (.int .i64 x.id) := R.at 1 _ rfl
   have f1 : wr.frozen? ⟨b, off + j * 5 + 1, none⟩ = false := R.soft _
   have c2 : wr.cell? ⟨b, off + j * 5 + 2, none⟩ = some (.slice a2 x.vec.length d2) := R.at 2 _ rfl
   have R0_ : cU wr ((wr.setCell ⟨b, off + j * 5, none⟩ (.int .i64 kj)).setCell ⟨b, off + j * 5 + 1, none⟩ (.int .i64 (kj + 1))) b (off + j * 5) 5 [.int .i64 kj, .int .i64 (kj + 1), .slice a2 x.vec.length d2, .int .i64 x.aa, .int .i64 x.seq] blk := ((R.set 0 (.int .i64 kj) (by decide)).set 1 (.int .i64 (kj + 1)) (by decide))
   have E0_ : Ext (fun q => q = b) wr ((wr.setCell ⟨b, off + j * 5, none⟩ (.int .i64 kj)).setCell ⟨b, off + j * 5 + 1, none⟩ (.int .i64 (kj + 1))) := (((Ext.refl (fun q => q = b) _).setCell ⟨b, off + j * 5, none⟩ (.int .i64 kj) rfl).setCell ⟨b, off + j * 5 + 1, none⟩ (.int .i64 (kj + 1)) rfl)
   have O2_ := O2.ext E0_ (fun c hc e => hbk (e ▸ hc))
   clear O2
   have O2 := O2_
   clear O2_
   clear R E0_
   have R := R0_
   clear R0_
   have HR := yh R
   clear R
   go_wp2_with fail
   refine (dU _ x.vec blk (kj + 1 + 1) _ O2 (by omega) (by omega)).mono ?_
   rintro e w2 ⟨rfl, Q2, E2⟩
   have R := (uh HR).call E2 (fun _ h => h) hbk
   clear E2 O2 HR c0 c1 c2 f0 f1
   clear l1
   have l1 : b < w2.heap.size := R.lt
   have c3 : w2.cell? ⟨b, off + j * 5 + 3, none⟩ = some (.int .i64 x.aa) := R.at 3 _ rfl
   have f3 : w2.frozen? ⟨b, off + j * 5 + 3, none⟩ = false := R.soft _
   have c4 : w2.cell? ⟨b, off + j * 5 + 4, none⟩ = some (.int .i64 x.seq) := R.at 4 _ rfl
   have f4 : w2.frozen? ⟨b, off + j * 5 + 4, none⟩ = false := R.soft _
   have R1_ : cU wr ((w2.setCell ⟨b, off + j * 5 + 3, none⟩ (.int .i64 (kj + 1 + 1 + ((ab.sl ab.int).ak x.vec : Nat)))).setCell ⟨b, off + j * 5 + 4, none⟩ (.int .i64 (kj + 1 + 1 + ((ab.sl ab.int).ak x.vec : Nat) + 1))) b (off + j * 5) 5 [.int .i64 kj, .int .i64 (kj + 1), .slice a2 x.vec.length d2, .int .i64 (kj + 1 + 1 + ((ab.sl ab.int).ak x.vec : Nat)), .int .i64 (kj + 1 + 1 + ((ab.sl ab.int).ak x.vec : Nat) + 1)] blk := ((R.set 3 (.int .i64 (kj + 1 + 1 + ((ab.sl ab.int).ak x.vec : Nat))) (by decide)).set 4 (.int .i64 (kj + 1 + 1 + ((ab.sl ab.int).ak x.vec : Nat) + 1)) (by decide))
   have E1_ : Ext (fun q => q = b) w2 ((w2.setCell ⟨b, off + j * 5 + 3, none⟩ (.int .i64 (kj + 1 + 1 + ((ab.sl ab.int).ak x.vec : Nat)))).setCell ⟨b, off + j * 5 + 4, none⟩ (.int .i64 (kj + 1 + 1 + ((ab.sl ab.int).ak x.vec : Nat) + 1))) := (((Ext.refl (fun q => q = b) _).setCell ⟨b, off + j * 5 + 3, none⟩ (.int .i64 (kj + 1 + 1 + ((ab.sl ab.int).ak x.vec : Nat))) rfl).setCell ⟨b, off + j * 5 + 4, none⟩ (.int .i64 (kj + 1 + 1 + ((ab.sl ab.int).ak x.vec : Nat) + 1)) rfl)
   have Q2_ := Q2.ext E1_ (fun c hc e => hbk (e ▸ hc))
   clear Q2
   have Q2 := yh Q2_
   clear Q2_
   clear R E1_
   have R := R1_
   clear R1_
   have HR := yh R
   clear R
   have HQ := yh (uh Q2)
   clear Q2
   go_wp2_with fail
   go_roundw
   case rel =>
    refine ⟨j + 1, _, by omega, by go_num, ?_, rfl, ?_, ?_⟩
    ·
     rw [uh HT, hcn]
     have := uh HK
     omega
    ·
     rw [← uh HM _ (uh HD).symm]
     exact uh HF _ _ _ (uh HR) (dD (x := ⟨kj, kj + 1, (ab.sl ab.int).cF (kj + 1 + 1) x.vec, kj + 1 + 1 + ((ab.sl ab.int).ak x.vec : Nat), kj + 1 + 1 + ((ab.sl ab.int).ak x.vec : Nat) + 1⟩) (uh HQ) (show (Lit.int .i64 (kj)).wf = true from aP (by omega)) (show (Lit.int .i64 (kj + 1)).wf = true from aP (by omega)) (show (Lit.int .i64 (kj + 1 + 1 + ((ab.sl ab.int).ak x.vec : Nat))).wf = true from aP (by omega)) (show (Lit.int .i64 (kj + 1 + 1 + ((ab.sl ab.int).ak x.vec : Nat) + 1)).wf = true from aP (by omega)) (uh HN))
    exact (uh HX).trans ((uh HR).ext.mono fun q _ hq => uh HI q (by rcases hq with h | h; exact Or.inl h.symm; exact Or.inr h))
   case measure => simp [intOf]; omega
  obtain rfl : j = xs.length := by omega
  rw [fJ] at hO
  rw [List.take_length] at hkj
  have HK := yh hkj
  clear hkj
  have HO := yh hO
  have HX := yh hX
  clear hO hX
  go_wp2_with fail
  go_ret
  exact ⟨by rw [← uh HK]; rfl, uh HO, uh HX⟩
theorem jT (ao : Option Addr) (cap : Nat) (k : Int) (w : World) :
  Calls Tryz.prog 110 #[.slice ao 0 cap, .int .i64 k] w fun e w' => e = .returned (.int .i64 k) ∧ w' = w := by
 go_enter Tryz.func110, Tryz.ntmps110
 go_wp2_with fail
 refine wp_loop_rounds 1 ?_
 rw [rounds_succ]
 go_wp2_with fail
 go_ret
 exact ⟨rfl, rfl⟩
theorem nK (v : Value) (xs : List aj) (bl : List Nat) (k : Int) (w : World) (h : (ab.sl ab.ag).Own w [v] xs bl) (hk : 0 ≤ k) (hk2 : k + (ab.sl ab.ag).ak xs ≤ 1000000000) :
  Calls Tryz.prog 110 #[v, .int .i64 k] w fun e w' => e = .returned (.int .i64 (k + (ab.sl ab.ag).ak xs)) ∧ (ab.sl ab.ag).Own w' [v] ((ab.sl ab.ag).cF k xs) bl ∧ Ext (fun q => q ∈ bl) w w' := by
 obtain ⟨ao, cap, rfl⟩ := aI h.reads
 by_cases hp : 0 < xs.length
 ·
  obtain ⟨b, off, rfl, hbl⟩ := ab.aS h.reads hp
  exact kS b off cap xs bl k w h hk hk2
 obtain rfl : xs = [] := List.eq_nil_of_length_eq_zero (by omega)
 refine (jT ao cap k w).mono ?_
 rintro e w' ⟨rfl, rfl⟩
 exact ⟨by rw [jg]; simp [al], h, Ext.refl _ _⟩
theorem nh (x : aV) : ab.ax.bV x = 6 + (ab.sl ab.ag).ak x.writes := by
 show 1 + (1 + (1 + (1 + ((ab.sl ab.ag).ak x.writes + (1 + (1)))))) = 6 + (ab.sl ab.ag).ak x.writes
 omega
theorem nq (k : Int) (x : aV) : ab.ax.dN k x = ⟨k, ((k + 1).tmod 3 == 0), k + 1 + 1, k + 1 + 1 + 1, (ab.sl ab.ag).cF (k + 1 + 1 + 1 + 1) x.writes, k + 1 + 1 + 1 + 1 + ((ab.sl ab.ag).ak x.writes : Nat), k + 1 + 1 + 1 + 1 + ((ab.sl ab.ag).ak x.writes : Nat) + 1⟩ := rfl
theorem kt (xs : List aV) : (ab.sl ab.ax).ak xs = al ab.ax.bV xs := rfl
theorem qL (k : Int) (xs : List aV) : (ab.sl ab.ax).cF k xs = cq ab.ax.bV ab.ax.dN k xs := rfl
theorem mi (b off cap : Nat) (xs : List aV) (bl : List Nat) (k : Int) (w : World) (h : (ab.sl ab.ax).Own w [.slice (some ⟨b, off, none⟩) xs.length cap] xs bl) (hk : 0 ≤ k) (hk2 : k + (al ab.ax.bV xs : Nat) ≤ 1000000000) :
  Calls Tryz.prog 53 #[.slice (some ⟨b, off, none⟩) xs.length cap, .int .i64 k] w fun e w' => e = .returned (.int .i64 (k + (al ab.ax.bV xs : Nat))) ∧ (ab.sl ab.ax).Own w' [.slice (some ⟨b, off, none⟩) xs.length cap] (cq ab.ax.bV ab.ax.dN k xs) bl ∧ Ext (fun q => q ∈ bl) w w' := by
 have hbig := h.reads.et
 have H := yh h
 clear h
 go_enter Tryz.func53, Tryz.ntmps53
 go_wp2_with fail
 go_loopw [1, 5] (fun kk i wr => ∃ (j : Nat) (kj : Int), j ≤ xs.length ∧ i = .int .i64 j ∧ kj = k + (al ab.ax.bV (xs.take j) : Nat) ∧ kk = .int .i64 kj ∧ (ab.sl ab.ax).Own wr [.slice (some ⟨b, off, none⟩) xs.length cap] (cM ab.ax.bV ab.ax.dN k xs j) bl ∧ Ext (fun q => q ∈ bl) w wr) (fun _ i _ => xs.length - (intOf i).toNat)
 case atStart => exact ⟨0, k, Nat.zero_le _, rfl, by simp [al], rfl, by rw [eZ]; exact uh H, Ext.refl _ _⟩
 case round =>
  obtain ⟨j, kj, hj, rfl, hkj, rfl, hO, hX⟩ := hrel
  clear H
  by_cases hlt : j < xs.length
  ·
   have hj2 : j < (cM ab.ax.bV ab.ax.dN k xs j).length := by rw [fA _ _ _ _ _ hj]; exact hlt
   obtain ⟨row, blk, R, O, hbk, hin, hfin⟩ := ab.ic hO hj2
   rw [fG _ _ _ _ _ hlt] at O
   have HT := yh (ab.cj (f := ab.ax.bV) hlt)
   have hle := ab.bM (f := ab.ax.bV) (xs := xs) (k := j + 1)
   rw [uh HT] at hle
   have HM : Hid (∀ y, y = ab.ax.dN kj xs[j] → (cM ab.ax.bV ab.ax.dN k xs j).set j y = cM ab.ax.bV ab.ax.dN k xs (j + 1)) := fun y e => by rw [e, hkj]; exact fI _ _ _ _ _ hlt
   have HF := yh hfin
   have HX := yh hX
   have HI := yh hin
   clear hO hfin hX hin hj2
   generalize hx : xs[j] = x at *
   clear hx
   have hcn := nh x
   have HD0 := nq kj x
   have hb1 : 0 ≤ kj := by omega
   have hb2 : kj + (ab.ax.bV x : Int) ≤ 1000000000 := by omega
   have HK := yh hkj
   clear hkj hle
   rw [Int.tmod_eq_emod_of_nonneg (show (0 : Int) ≤ kj + 1 by omega)] at HD0
   have HD := yh HD0
   clear HD0
   have hnd := O.2.1
   obtain ⟨a4, d4, g4, rfl, hbl, O4, v0, v2, v3, v5, v6⟩ := tm O
   clear O
   have HN : Hid ((g4).Nodup) := by rw [hbl] at hnd; exact hnd
   have HBL := yh hbl
   have hm4 : ∀ c ∈ g4, c ∈ blk := fun c hc => by rw [hbl]; simp [hc]
   have HM4 := yh hm4
   have HB4 : Hid (b ∉ g4) := fun hc => hbk (hm4 b hc)
   clear hm4
   clear hnd hbl
   have P4 := yh O4
   clear O4
   have HR := yh R
   have l1 : b < wr.heap.size := R.lt
   clear R
   have c0 : wr.cell? ⟨b, off + j * 7, none⟩ = some (.int .i64 x.id) := (uh HR).at 0 _ rfl
   have f0 : wr.frozen? ⟨b, off + j * 7, none⟩ = false := (uh HR).soft _
   have c1 : wr.cell? ⟨b, off + j * 7 + 1, none⟩ = some (.bool x.up) := (uh HR).at 1 _ rfl
   have f1 : wr.frozen? ⟨b, off + j * 7 + 1, none⟩ = false := (uh HR).soft _
   have c2 : wr.cell? ⟨b, off + j * 7 + 2, none⟩ = some (.int .i64 x.ae) := (uh HR).at 2 _ rfl
   have f2 : wr.frozen? ⟨b, off + j * 7 + 2, none⟩ = false := (uh HR).soft _
   have c3 : wr.cell? ⟨b, off + j * 7 + 3, none⟩ = some (.int .i64 x.au) := (uh HR).at 3 _ rfl
   have f3 : wr.frozen? ⟨b, off + j * 7 + 3, none⟩ = false := (uh HR).soft _
   have c4 : wr.cell? ⟨b, off + j * 7 + 4, none⟩ = some (.slice a4 x.writes.length d4) := (uh HR).at 4 _ rfl
   have E0_ : Ext (fun q => q = b) wr ((((wr.setCell ⟨b, off + j * 7, none⟩ (.int .i64 kj)).setCell ⟨b, off + j * 7 + 1, none⟩ (.bool ((kj + 1) % 3 == 0))).setCell ⟨b, off + j * 7 + 2, none⟩ (.int .i64 (kj + 1 + 1))).setCell ⟨b, off + j * 7 + 3, none⟩ (.int .i64 (kj + 1 + 1 + 1))) := (((((Ext.refl (fun q => q = b) _).setCell ⟨b, off + j * 7, none⟩ (.int .i64 kj) rfl).setCell ⟨b, off + j * 7 + 1, none⟩ (.bool ((kj + 1) % 3 == 0)) rfl).setCell ⟨b, off + j * 7 + 2, none⟩ (.int .i64 (kj + 1 + 1)) rfl).setCell ⟨b, off + j * 7 + 3, none⟩ (.int .i64 (kj + 1 + 1 + 1)) rfl)
   have HR0_ : Hid (cU wr ((((wr.setCell ⟨b, off + j * 7, none⟩ (.int .i64 kj)).setCell ⟨b, off + j * 7 + 1, none⟩ (.bool ((kj + 1) % 3 == 0))).setCell ⟨b, off + j * 7 + 2, none⟩ (.int .i64 (kj + 1 + 1))).setCell ⟨b, off + j * 7 + 3, none⟩ (.int .i64 (kj + 1 + 1 + 1))) b (off + j * 7) 7 [.int .i64 kj, .bool ((kj + 1) % 3 == 0), .int .i64 (kj + 1 + 1), .int .i64 (kj + 1 + 1 + 1), .slice a4 x.writes.length d4, .int .i64 x.sure, .int .i64 x.clean] blk) := (((((uh HR).set 0 (.int .i64 kj) (by decide)).set 1 (.bool ((kj + 1) % 3 == 0)) (by decide)).set 2 (.int .i64 (kj + 1 + 1)) (by decide)).set 3 (.int .i64 (kj + 1 + 1 + 1)) (by decide))
   replace P4 := yh ((uh P4).ext E0_ (fun c hc e => uh HB4 (e ▸ hc)))
   clear HR E0_
   have HR := HR0_
   clear HR0_
   go_wp2_with fail
   refine (nK _ x.writes g4 (kj + 1 + 1 + 1 + 1) _ (uh P4) (by omega) (by omega)).mono ?_
   rintro e u0 ⟨rfl, Q, E2⟩
   replace HR := yh ((uh HR).call E2 (uh HM4) (uh HB4))
   clear P4
   have P4 := yh Q
   clear Q E2 l1 c0 f0 c1 f1 c2 f2 c3 f3 c4
   have l1 : b < u0.heap.size := (uh HR).lt
   have c5 : u0.cell? ⟨b, off + j * 7 + 5, none⟩ = some (.int .i64 x.sure) := (uh HR).at 5 _ rfl
   have f5 : u0.frozen? ⟨b, off + j * 7 + 5, none⟩ = false := (uh HR).soft _
   have c6 : u0.cell? ⟨b, off + j * 7 + 6, none⟩ = some (.int .i64 x.clean) := (uh HR).at 6 _ rfl
   have f6 : u0.frozen? ⟨b, off + j * 7 + 6, none⟩ = false := (uh HR).soft _
   have E1_ : Ext (fun q => q = b) u0 ((u0.setCell ⟨b, off + j * 7 + 5, none⟩ (.int .i64 (kj + 1 + 1 + 1 + 1 + ((ab.sl ab.ag).ak x.writes : Nat)))).setCell ⟨b, off + j * 7 + 6, none⟩ (.int .i64 (kj + 1 + 1 + 1 + 1 + ((ab.sl ab.ag).ak x.writes : Nat) + 1))) := (((Ext.refl (fun q => q = b) _).setCell ⟨b, off + j * 7 + 5, none⟩ (.int .i64 (kj + 1 + 1 + 1 + 1 + ((ab.sl ab.ag).ak x.writes : Nat))) rfl).setCell ⟨b, off + j * 7 + 6, none⟩ (.int .i64 (kj + 1 + 1 + 1 + 1 + ((ab.sl ab.ag).ak x.writes : Nat) + 1)) rfl)
   have HR1_ : Hid (cU wr ((u0.setCell ⟨b, off + j * 7 + 5, none⟩ (.int .i64 (kj + 1 + 1 + 1 + 1 + ((ab.sl ab.ag).ak x.writes : Nat)))).setCell ⟨b, off + j * 7 + 6, none⟩ (.int .i64 (kj + 1 + 1 + 1 + 1 + ((ab.sl ab.ag).ak x.writes : Nat) + 1))) b (off + j * 7) 7 [.int .i64 kj, .bool ((kj + 1) % 3 == 0), .int .i64 (kj + 1 + 1), .int .i64 (kj + 1 + 1 + 1), .slice a4 x.writes.length d4, .int .i64 (kj + 1 + 1 + 1 + 1 + ((ab.sl ab.ag).ak x.writes : Nat)), .int .i64 (kj + 1 + 1 + 1 + 1 + ((ab.sl ab.ag).ak x.writes : Nat) + 1)] blk) := (((uh HR).set 5 (.int .i64 (kj + 1 + 1 + 1 + 1 + ((ab.sl ab.ag).ak x.writes : Nat))) (by decide)).set 6 (.int .i64 (kj + 1 + 1 + 1 + 1 + ((ab.sl ab.ag).ak x.writes : Nat) + 1)) (by decide))
   replace P4 := yh ((uh P4).ext E1_ (fun c hc e => uh HB4 (e ▸ hc)))
   clear HR E1_
   have HR := HR1_
   clear HR1_
   go_wp2_with fail
   go_roundw
   case rel =>
    refine ⟨j + 1, _, by omega, by go_num, ?_, rfl, ?_, ?_⟩
    ·
     rw [uh HT, hcn]
     have := uh HK
     omega
    ·
     rw [← uh HM _ (uh HD).symm]
     exact uh HF _ _ _ (uh HR) (by rw [uh HBL]; exact gP (x := ⟨kj, ((kj + 1) % 3 == 0), kj + 1 + 1, kj + 1 + 1 + 1, (ab.sl ab.ag).cF (kj + 1 + 1 + 1 + 1) x.writes, kj + 1 + 1 + 1 + 1 + ((ab.sl ab.ag).ak x.writes : Nat), kj + 1 + 1 + 1 + 1 + ((ab.sl ab.ag).ak x.writes : Nat) + 1⟩) (uh P4) (show (Lit.int .i64 (kj)).wf = true from aP (by omega)) (show (Lit.int .i64 (kj + 1 + 1)).wf = true from aP (by omega)) (show (Lit.int .i64 (kj + 1 + 1 + 1)).wf = true from aP (by omega)) (show (Lit.int .i64 (kj + 1 + 1 + 1 + 1 + ((ab.sl ab.ag).ak x.writes : Nat))).wf = true from aP (by omega)) (show (Lit.int .i64 (kj + 1 + 1 + 1 + 1 + ((ab.sl ab.ag).ak x.writes : Nat) + 1)).wf = true from aP (by omega)) (uh HN))
    exact (uh HX).trans ((uh HR).ext.mono fun q _ hq => uh HI q (by rcases hq with h | h; exact Or.inl h.symm; exact Or.inr h))
   case measure => simp [intOf]; omega
  obtain rfl : j = xs.length := by omega
  rw [fJ] at hO
  rw [List.take_length] at hkj
  have HK := yh hkj
  clear hkj
  have HO := yh hO
  have HX := yh hX
  clear hO hX
  go_wp2_with fail
  go_ret
  exact ⟨by rw [← uh HK]; rfl, uh HO, uh HX⟩
theorem kE (ao : Option Addr) (cap : Nat) (k : Int) (w : World) :
  Calls Tryz.prog 53 #[.slice ao 0 cap, .int .i64 k] w fun e w' => e = .returned (.int .i64 k) ∧ w' = w := by
 go_enter Tryz.func53, Tryz.ntmps53
 go_wp2_with fail
 refine wp_loop_rounds 1 ?_
 rw [rounds_succ]
 go_wp2_with fail
 go_ret
 exact ⟨rfl, rfl⟩
theorem po (v : Value) (xs : List aV) (bl : List Nat) (k : Int) (w : World) (h : (ab.sl ab.ax).Own w [v] xs bl) (hk : 0 ≤ k) (hk2 : k + (ab.sl ab.ax).ak xs ≤ 1000000000) :
  Calls Tryz.prog 53 #[v, .int .i64 k] w fun e w' => e = .returned (.int .i64 (k + (ab.sl ab.ax).ak xs)) ∧ (ab.sl ab.ax).Own w' [v] ((ab.sl ab.ax).cF k xs) bl ∧ Ext (fun q => q ∈ bl) w w' := by
 obtain ⟨ao, cap, rfl⟩ := aI h.reads
 by_cases hp : 0 < xs.length
 ·
  obtain ⟨b, off, rfl, hbl⟩ := ab.aS h.reads hp
  exact mi b off cap xs bl k w h hk hk2
 obtain rfl : xs = [] := List.eq_nil_of_length_eq_zero (by omega)
 refine (kE ao cap k w).mono ?_
 rintro e w' ⟨rfl, rfl⟩
 exact ⟨by rw [kt]; simp [al], h, Ext.refl _ _⟩
theorem uC {w : World} {cs : List Value} {x : bP} {bl : List Nat} (h : ab.aQ.Own w cs x bl) : ∃ (a7 : Option Addr) (d7 : Nat) (g5 : List Nat), cs = [.int .i64 x.kind, .int .i64 x.ae, .int .i64 x.src, .int .i64 x.dst, .int .i64 x.index, .int .i64 x.write.kind, .int .i64 x.write.id, .slice a7 x.write.vec.length d7, .int .i64 x.write.aa, .int .i64 x.write.seq] ∧ bl = g5 ∧ ab.ag.Own w [.int .i64 x.write.kind, .int .i64 x.write.id, .slice a7 x.write.vec.length d7, .int .i64 x.write.aa, .int .i64 x.write.seq] x.write g5 ∧ (Lit.int .i64 x.kind).wf = true ∧ (Lit.int .i64 x.ae).wf = true ∧ (Lit.int .i64 x.src).wf = true ∧ (Lit.int .i64 x.dst).wf = true ∧ (Lit.int .i64 x.index).wf = true := by
 obtain ⟨hl, hn, hf⟩ := h
 obtain ⟨a7, d7, b7, rfl, hbl, w0, w1, w2, w3, w4, w5, w6, l7, w8, w9⟩ := eC.1 hl
 rw [hbl] at hn hf
 exact ⟨a7, d7, b7, rfl, hbl, ⟨ch.2 ⟨a7, d7, b7, rfl, rfl, w5, w6, l7, w8, w9⟩, hn, hf⟩, w0, w1, w2, w3, w4⟩
theorem lS {w : World} {x : bP} {c5 : List Value} {g5 : List Nat} (O5 : ab.ag.Own w c5 x.write g5) (v0 : (Lit.int .i64 x.kind).wf = true) (v1 : (Lit.int .i64 x.ae).wf = true) (v2 : (Lit.int .i64 x.src).wf = true) (v3 : (Lit.int .i64 x.dst).wf = true) (v4 : (Lit.int .i64 x.index).wf = true) (hn : (g5).Nodup) : ab.aQ.Own w ([.int .i64 x.kind] ++ ([.int .i64 x.ae] ++ ([.int .i64 x.src] ++ ([.int .i64 x.dst] ++ ([.int .i64 x.index] ++ c5))))) x (g5) := by
 refine ⟨⟨[.int .i64 x.kind], [.int .i64 x.ae] ++ ([.int .i64 x.src] ++ ([.int .i64 x.dst] ++ ([.int .i64 x.index] ++ c5))), [], [] ++ ([] ++ ([] ++ ([] ++ g5))), rfl, by simp, ⟨rfl, v0, rfl⟩, ⟨[.int .i64 x.ae], [.int .i64 x.src] ++ ([.int .i64 x.dst] ++ ([.int .i64 x.index] ++ c5)), [], [] ++ ([] ++ ([] ++ g5)), rfl, rfl, ⟨rfl, v1, rfl⟩, ⟨[.int .i64 x.src], [.int .i64 x.dst] ++ ([.int .i64 x.index] ++ c5), [], [] ++ ([] ++ g5), rfl, rfl, ⟨rfl, v2, rfl⟩, ⟨[.int .i64 x.dst], [.int .i64 x.index] ++ c5, [], [] ++ g5, rfl, rfl, ⟨rfl, v3, rfl⟩, ⟨[.int .i64 x.index], c5, [], g5, rfl, rfl, ⟨rfl, v4, rfl⟩, O5.1⟩⟩⟩⟩⟩, hn, ?_⟩
 intro b hb o
 exact O5.2.2 b hb o
theorem pW (x : bP) : ab.aQ.bV x = 9 + (ab.sl ab.int).ak x.write.vec := by
 show 1 + (1 + (1 + (1 + (1 + (1 + (1 + ((ab.sl ab.int).ak x.write.vec + (1 + (1))))))))) = 9 + (ab.sl ab.int).ak x.write.vec
 omega
theorem pF (k : Int) (x : bP) : ab.aQ.dN k x = ⟨k, k + 1, k + 1 + 1, k + 1 + 1 + 1, k + 1 + 1 + 1 + 1, ⟨k + 1 + 1 + 1 + 1 + 1, k + 1 + 1 + 1 + 1 + 1 + 1, (ab.sl ab.int).cF (k + 1 + 1 + 1 + 1 + 1 + 1 + 1) x.write.vec, k + 1 + 1 + 1 + 1 + 1 + 1 + 1 + ((ab.sl ab.int).ak x.write.vec : Nat), k + 1 + 1 + 1 + 1 + 1 + 1 + 1 + ((ab.sl ab.int).ak x.write.vec : Nat) + 1⟩⟩ := rfl
theorem lb (xs : List bP) : (ab.sl ab.aQ).ak xs = al ab.aQ.bV xs := rfl
theorem sb (k : Int) (xs : List bP) : (ab.sl ab.aQ).cF k xs = cq ab.aQ.bV ab.aQ.dN k xs := rfl
theorem mV (b off cap : Nat) (xs : List bP) (bl : List Nat) (k : Int) (w : World) (h : (ab.sl ab.aQ).Own w [.slice (some ⟨b, off, none⟩) xs.length cap] xs bl) (hk : 0 ≤ k) (hk2 : k + (al ab.aQ.bV xs : Nat) ≤ 1000000000) :
  Calls Tryz.prog 54 #[.slice (some ⟨b, off, none⟩) xs.length cap, .int .i64 k] w fun e w' => e = .returned (.int .i64 (k + (al ab.aQ.bV xs : Nat))) ∧ (ab.sl ab.aQ).Own w' [.slice (some ⟨b, off, none⟩) xs.length cap] (cq ab.aQ.bV ab.aQ.dN k xs) bl ∧ Ext (fun q => q ∈ bl) w w' := by
 have hbig := h.reads.et
 have H := yh h
 clear h
 go_enter Tryz.func54, Tryz.ntmps54
 go_wp2_with fail
 go_loopw [1, 5] (fun kk i wr => ∃ (j : Nat) (kj : Int), j ≤ xs.length ∧ i = .int .i64 j ∧ kj = k + (al ab.aQ.bV (xs.take j) : Nat) ∧ kk = .int .i64 kj ∧ (ab.sl ab.aQ).Own wr [.slice (some ⟨b, off, none⟩) xs.length cap] (cM ab.aQ.bV ab.aQ.dN k xs j) bl ∧ Ext (fun q => q ∈ bl) w wr) (fun _ i _ => xs.length - (intOf i).toNat)
 case atStart => exact ⟨0, k, Nat.zero_le _, rfl, by simp [al], rfl, by rw [eZ]; exact uh H, Ext.refl _ _⟩
 case round =>
  obtain ⟨j, kj, hj, rfl, hkj, rfl, hO, hX⟩ := hrel
  clear H
  by_cases hlt : j < xs.length
  ·
   have hj2 : j < (cM ab.aQ.bV ab.aQ.dN k xs j).length := by rw [fA _ _ _ _ _ hj]; exact hlt
   obtain ⟨row, blk, R, O, hbk, hin, hfin⟩ := ab.ic hO hj2
   rw [fG _ _ _ _ _ hlt] at O
   have HT := yh (ab.cj (f := ab.aQ.bV) hlt)
   have hle := ab.bM (f := ab.aQ.bV) (xs := xs) (k := j + 1)
   rw [uh HT] at hle
   have HM : Hid (∀ y, y = ab.aQ.dN kj xs[j] → (cM ab.aQ.bV ab.aQ.dN k xs j).set j y = cM ab.aQ.bV ab.aQ.dN k xs (j + 1)) := fun y e => by rw [e, hkj]; exact fI _ _ _ _ _ hlt
   have HF := yh hfin
   have HX := yh hX
   have HI := yh hin
   clear hO hfin hX hin hj2
   generalize hx : xs[j] = x at *
   clear hx
   have hcn := pW x
   have HD := yh (pF kj x)
   have hb1 : 0 ≤ kj := by omega
   have hb2 : kj + (ab.aQ.bV x : Int) ≤ 1000000000 := by omega
   have HK := yh hkj
   clear hkj hle
   have hnd := O.2.1
   obtain ⟨a7, d7, g7, rfl, hbl, OW, v0, v1, v2, v3, v4⟩ := uC O
   obtain ⟨_, _, _, e9, hbl9, O7, v5, v6, v8, v9⟩ := iI OW
   simp only [List.cons.injEq, Value.slice.injEq, true_and, and_true] at e9
   obtain ⟨rfl, rfl⟩ := e9
   clear O OW
   subst hbl9
   subst hbl
   have HN := yh hnd
   clear hnd
   have l1 : b < wr.heap.size := R.lt
   have c0 : wr.cell? ⟨b, off + j * 10, none⟩ = some (.int .i64 x.kind) := R.at 0 _ rfl
   have f0 : wr.frozen? ⟨b, off + j * 10, none⟩ = false := R.soft _
   have c1 : wr.cell? ⟨b, off + j * 10 + 1, none⟩ = some (.int .i64 x.ae) := R.at 1 _ rfl
   have f1 : wr.frozen? ⟨b, off + j * 10 + 1, none⟩ = false := R.soft _
   have c2 : wr.cell? ⟨b, off + j * 10 + 2, none⟩ = some (.int .i64 x.src) := R.at 2 _ rfl
   have f2 : wr.frozen? ⟨b, off + j * 10 + 2, none⟩ = false := R.soft _
   have c3 : wr.cell? ⟨b, off + j * 10 + 3, none⟩ = some (.int .i64 x.dst) := R.at 3 _ rfl
   have f3 : wr.frozen? ⟨b, off + j * 10 + 3, none⟩ = false := R.soft _
   have c4 : wr.cell? ⟨b, off + j * 10 + 4, none⟩ = some (.int .i64 x.index) := R.at 4 _ rfl
   have f4 : wr.frozen? ⟨b, off + j * 10 + 4, none⟩ = false := R.soft _
   have c5 : wr.cell? ⟨b, off + j * 10 + 5, none⟩ = some (.int .i64 x.write.kind) := R.at 5 _ rfl
   have f5 : wr.frozen? ⟨b, off + j * 10 + 5, none⟩ = false := R.soft _
   have c6 : wr.cell? ⟨b, off + j * 10 + 6, none⟩ = some (.int .i64 x.write.id) := R.at 6 _ rfl
   have f6 : wr.frozen? ⟨b, off + j * 10 + 6, none⟩ = false := R.soft _
   have c7 : wr.cell? ⟨b, off + j * 10 + 7, none⟩ = some (.slice a7 x.write.vec.length d7) := R.at 7 _ rfl
   have R0_ : cU wr (((((((wr.setCell ⟨b, off + j * 10, none⟩ (.int .i64 kj)).setCell ⟨b, off + j * 10 + 1, none⟩ (.int .i64 (kj + 1))).setCell ⟨b, off + j * 10 + 2, none⟩ (.int .i64 (kj + 1 + 1))).setCell ⟨b, off + j * 10 + 3, none⟩ (.int .i64 (kj + 1 + 1 + 1))).setCell ⟨b, off + j * 10 + 4, none⟩ (.int .i64 (kj + 1 + 1 + 1 + 1))).setCell ⟨b, off + j * 10 + 5, none⟩ (.int .i64 (kj + 1 + 1 + 1 + 1 + 1))).setCell ⟨b, off + j * 10 + 6, none⟩ (.int .i64 (kj + 1 + 1 + 1 + 1 + 1 + 1))) b (off + j * 10) 10 [.int .i64 kj, .int .i64 (kj + 1), .int .i64 (kj + 1 + 1), .int .i64 (kj + 1 + 1 + 1), .int .i64 (kj + 1 + 1 + 1 + 1), .int .i64 (kj + 1 + 1 + 1 + 1 + 1), .int .i64 (kj + 1 + 1 + 1 + 1 + 1 + 1), .slice a7 x.write.vec.length d7, .int .i64 x.write.aa, .int .i64 x.write.seq] blk := (((((((R.set 0 (.int .i64 kj) (by decide)).set 1 (.int .i64 (kj + 1)) (by decide)).set 2 (.int .i64 (kj + 1 + 1)) (by decide)).set 3 (.int .i64 (kj + 1 + 1 + 1)) (by decide)).set 4 (.int .i64 (kj + 1 + 1 + 1 + 1)) (by decide)).set 5 (.int .i64 (kj + 1 + 1 + 1 + 1 + 1)) (by decide)).set 6 (.int .i64 (kj + 1 + 1 + 1 + 1 + 1 + 1)) (by decide))
   have E0_ : Ext (fun q => q = b) wr (((((((wr.setCell ⟨b, off + j * 10, none⟩ (.int .i64 kj)).setCell ⟨b, off + j * 10 + 1, none⟩ (.int .i64 (kj + 1))).setCell ⟨b, off + j * 10 + 2, none⟩ (.int .i64 (kj + 1 + 1))).setCell ⟨b, off + j * 10 + 3, none⟩ (.int .i64 (kj + 1 + 1 + 1))).setCell ⟨b, off + j * 10 + 4, none⟩ (.int .i64 (kj + 1 + 1 + 1 + 1))).setCell ⟨b, off + j * 10 + 5, none⟩ (.int .i64 (kj + 1 + 1 + 1 + 1 + 1))).setCell ⟨b, off + j * 10 + 6, none⟩ (.int .i64 (kj + 1 + 1 + 1 + 1 + 1 + 1))) := ((((((((Ext.refl (fun q => q = b) _).setCell ⟨b, off + j * 10, none⟩ (.int .i64 kj) rfl).setCell ⟨b, off + j * 10 + 1, none⟩ (.int .i64 (kj + 1)) rfl).setCell ⟨b, off + j * 10 + 2, none⟩ (.int .i64 (kj + 1 + 1)) rfl).setCell ⟨b, off + j * 10 + 3, none⟩ (.int .i64 (kj + 1 + 1 + 1)) rfl).setCell ⟨b, off + j * 10 + 4, none⟩ (.int .i64 (kj + 1 + 1 + 1 + 1)) rfl).setCell ⟨b, off + j * 10 + 5, none⟩ (.int .i64 (kj + 1 + 1 + 1 + 1 + 1)) rfl).setCell ⟨b, off + j * 10 + 6, none⟩ (.int .i64 (kj + 1 + 1 + 1 + 1 + 1 + 1)) rfl)
   have O7_ := O7.ext E0_ (fun c hc e => hbk (e ▸ hc))
   clear O7
   have O7 := O7_
   clear O7_
   clear R E0_
   have R := R0_
   clear R0_
   have HR := yh R
   clear R
   go_wp2_with fail
   refine (dU _ x.write.vec blk (kj + 1 + 1 + 1 + 1 + 1 + 1 + 1) _ O7 (by omega) (by omega)).mono ?_
   rintro e w2 ⟨rfl, Q7, E2⟩
   have R := (uh HR).call E2 (fun _ h => h) hbk
   clear E2 O7 HR c0 c1 c2 c3 c4 c5 c6 c7 f0 f1 f2 f3 f4 f5 f6
   clear l1
   have l1 : b < w2.heap.size := R.lt
   have c8 : w2.cell? ⟨b, off + j * 10 + 8, none⟩ = some (.int .i64 x.write.aa) := R.at 8 _ rfl
   have f8 : w2.frozen? ⟨b, off + j * 10 + 8, none⟩ = false := R.soft _
   have c9 : w2.cell? ⟨b, off + j * 10 + 9, none⟩ = some (.int .i64 x.write.seq) := R.at 9 _ rfl
   have f9 : w2.frozen? ⟨b, off + j * 10 + 9, none⟩ = false := R.soft _
   have R1_ : cU wr ((w2.setCell ⟨b, off + j * 10 + 8, none⟩ (.int .i64 (kj + 1 + 1 + 1 + 1 + 1 + 1 + 1 + ((ab.sl ab.int).ak x.write.vec : Nat)))).setCell ⟨b, off + j * 10 + 9, none⟩ (.int .i64 (kj + 1 + 1 + 1 + 1 + 1 + 1 + 1 + ((ab.sl ab.int).ak x.write.vec : Nat) + 1))) b (off + j * 10) 10 [.int .i64 kj, .int .i64 (kj + 1), .int .i64 (kj + 1 + 1), .int .i64 (kj + 1 + 1 + 1), .int .i64 (kj + 1 + 1 + 1 + 1), .int .i64 (kj + 1 + 1 + 1 + 1 + 1), .int .i64 (kj + 1 + 1 + 1 + 1 + 1 + 1), .slice a7 x.write.vec.length d7, .int .i64 (kj + 1 + 1 + 1 + 1 + 1 + 1 + 1 + ((ab.sl ab.int).ak x.write.vec : Nat)), .int .i64 (kj + 1 + 1 + 1 + 1 + 1 + 1 + 1 + ((ab.sl ab.int).ak x.write.vec : Nat) + 1)] blk := ((R.set 8 (.int .i64 (kj + 1 + 1 + 1 + 1 + 1 + 1 + 1 + ((ab.sl ab.int).ak x.write.vec : Nat))) (by decide)).set 9 (.int .i64 (kj + 1 + 1 + 1 + 1 + 1 + 1 + 1 + ((ab.sl ab.int).ak x.write.vec : Nat) + 1)) (by decide))
   have E1_ : Ext (fun q => q = b) w2 ((w2.setCell ⟨b, off + j * 10 + 8, none⟩ (.int .i64 (kj + 1 + 1 + 1 + 1 + 1 + 1 + 1 + ((ab.sl ab.int).ak x.write.vec : Nat)))).setCell ⟨b, off + j * 10 + 9, none⟩ (.int .i64 (kj + 1 + 1 + 1 + 1 + 1 + 1 + 1 + ((ab.sl ab.int).ak x.write.vec : Nat) + 1))) := (((Ext.refl (fun q => q = b) _).setCell ⟨b, off + j * 10 + 8, none⟩ (.int .i64 (kj + 1 + 1 + 1 + 1 + 1 + 1 + 1 + ((ab.sl ab.int).ak x.write.vec : Nat))) rfl).setCell ⟨b, off + j * 10 + 9, none⟩ (.int .i64 (kj + 1 + 1 + 1 + 1 + 1 + 1 + 1 + ((ab.sl ab.int).ak x.write.vec : Nat) + 1)) rfl)
   have Q7_ := Q7.ext E1_ (fun c hc e => hbk (e ▸ hc))
   clear Q7
   have Q7 := yh Q7_
   clear Q7_
   clear R E1_
   have R := R1_
   clear R1_
   have HR := yh R
   clear R
   have HQ := yh (uh Q7)
   clear Q7
   go_wp2_with fail
   go_roundw
   case rel =>
    refine ⟨j + 1, _, by omega, by go_num, ?_, rfl, ?_, ?_⟩
    ·
     rw [uh HT, hcn]
     have := uh HK
     omega
    ·
     rw [← uh HM _ (uh HD).symm]
     exact uh HF _ _ _ (uh HR) (lS (x := ⟨kj, kj + 1, kj + 1 + 1, kj + 1 + 1 + 1, kj + 1 + 1 + 1 + 1, ⟨kj + 1 + 1 + 1 + 1 + 1, kj + 1 + 1 + 1 + 1 + 1 + 1, (ab.sl ab.int).cF (kj + 1 + 1 + 1 + 1 + 1 + 1 + 1) x.write.vec, kj + 1 + 1 + 1 + 1 + 1 + 1 + 1 + ((ab.sl ab.int).ak x.write.vec : Nat), kj + 1 + 1 + 1 + 1 + 1 + 1 + 1 + ((ab.sl ab.int).ak x.write.vec : Nat) + 1⟩⟩) (dD (x := ⟨kj + 1 + 1 + 1 + 1 + 1, kj + 1 + 1 + 1 + 1 + 1 + 1, (ab.sl ab.int).cF (kj + 1 + 1 + 1 + 1 + 1 + 1 + 1) x.write.vec, kj + 1 + 1 + 1 + 1 + 1 + 1 + 1 + ((ab.sl ab.int).ak x.write.vec : Nat), kj + 1 + 1 + 1 + 1 + 1 + 1 + 1 + ((ab.sl ab.int).ak x.write.vec : Nat) + 1⟩) (uh HQ) (show (Lit.int .i64 (kj + 1 + 1 + 1 + 1 + 1)).wf = true from aP (by omega)) (show (Lit.int .i64 (kj + 1 + 1 + 1 + 1 + 1 + 1)).wf = true from aP (by omega)) (show (Lit.int .i64 (kj + 1 + 1 + 1 + 1 + 1 + 1 + 1 + ((ab.sl ab.int).ak x.write.vec : Nat))).wf = true from aP (by omega)) (show (Lit.int .i64 (kj + 1 + 1 + 1 + 1 + 1 + 1 + 1 + ((ab.sl ab.int).ak x.write.vec : Nat) + 1)).wf = true from aP (by omega)) (uh HN)) (show (Lit.int .i64 (kj)).wf = true from aP (by omega)) (show (Lit.int .i64 (kj + 1)).wf = true from aP (by omega)) (show (Lit.int .i64 (kj + 1 + 1)).wf = true from aP (by omega)) (show (Lit.int .i64 (kj + 1 + 1 + 1)).wf = true from aP (by omega)) (show (Lit.int .i64 (kj + 1 + 1 + 1 + 1)).wf = true from aP (by omega)) (uh HN))
    exact (uh HX).trans ((uh HR).ext.mono fun q _ hq => uh HI q (by rcases hq with h | h; exact Or.inl h.symm; exact Or.inr h))
   case measure => simp [intOf]; omega
  obtain rfl : j = xs.length := by omega
  rw [fJ] at hO
  rw [List.take_length] at hkj
  have HK := yh hkj
  clear hkj
  have HO := yh hO
  have HX := yh hX
  clear hO hX
  go_wp2_with fail
  go_ret
  exact ⟨by rw [← uh HK]; rfl, uh HO, uh HX⟩
theorem mz (ao : Option Addr) (cap : Nat) (k : Int) (w : World) :
  Calls Tryz.prog 54 #[.slice ao 0 cap, .int .i64 k] w fun e w' => e = .returned (.int .i64 k) ∧ w' = w := by
 go_enter Tryz.func54, Tryz.ntmps54
 go_wp2_with fail
 refine wp_loop_rounds 1 ?_
 rw [rounds_succ]
 go_wp2_with fail
 go_ret
 exact ⟨rfl, rfl⟩
theorem qR (v : Value) (xs : List bP) (bl : List Nat) (k : Int) (w : World) (h : (ab.sl ab.aQ).Own w [v] xs bl) (hk : 0 ≤ k) (hk2 : k + (ab.sl ab.aQ).ak xs ≤ 1000000000) :
  Calls Tryz.prog 54 #[v, .int .i64 k] w fun e w' => e = .returned (.int .i64 (k + (ab.sl ab.aQ).ak xs)) ∧ (ab.sl ab.aQ).Own w' [v] ((ab.sl ab.aQ).cF k xs) bl ∧ Ext (fun q => q ∈ bl) w w' := by
 obtain ⟨ao, cap, rfl⟩ := aI h.reads
 by_cases hp : 0 < xs.length
 ·
  obtain ⟨b, off, rfl, hbl⟩ := ab.aS h.reads hp
  exact mV b off cap xs bl k w h hk hk2
 obtain rfl : xs = [] := List.eq_nil_of_length_eq_zero (by omega)
 refine (mz ao cap k w).mono ?_
 rintro e w' ⟨rfl, rfl⟩
 exact ⟨by rw [lb]; simp [al], h, Ext.refl _ _⟩
theorem qM {w : World} {cs : List Value} {x : bj} {bl : List Nat} (h : ab.ar.Own w cs x bl) : ∃ (a4 : Option Addr) (d4 : Nat) (a9 : Option Addr) (d9 : Nat) (a10 : Option Addr) (d10 : Nat) (g4 : List Nat) (g9 : List Nat) (g10 : List Nat), cs = [.int .i64 x.kind, .int .i64 x.aa, .int .i64 x.seq, .int .i64 x.id, .slice a4 x.query.length d4, .int .i64 x.k, .int .i64 x.start, .int .i64 x.fin, .int .i64 x.place, .slice a9 x.vec.length d9, .slice a10 x.aY.length d10] ∧ bl = g4 ++ (g9 ++ g10) ∧ (ab.sl ab.int).Own w [.slice a4 x.query.length d4] x.query g4 ∧ (ab.sl ab.int).Own w [.slice a9 x.vec.length d9] x.vec g9 ∧ (ab.sl ab.bq).Own w [.slice a10 x.aY.length d10] x.aY g10 ∧ (Lit.int .i64 x.kind).wf = true ∧ (Lit.int .i64 x.aa).wf = true ∧ (Lit.int .i64 x.seq).wf = true ∧ (Lit.int .i64 x.id).wf = true ∧ (Lit.int .i64 x.k).wf = true ∧ (Lit.int .i64 x.start).wf = true ∧ (Lit.int .i64 x.fin).wf = true ∧ (Lit.int .i64 x.place).wf = true := by
 obtain ⟨hl, hn, hf⟩ := h
 obtain ⟨a4, d4, b4, a9, d9, b9, a10, d10, b10, rfl, hbl, w0, w1, w2, w3, l4, w5, w6, w7, w8, l9, l10⟩ := dj.1 hl
 rw [hbl] at hn hf
 simp only [List.nodup_append, List.mem_append] at hn hf
 exact ⟨a4, d4, a9, d9, a10, d10, b4, b9, b10, rfl, hbl, ⟨l4, by simp_all, fun b hb => hf b (by simp_all)⟩, ⟨l9, by simp_all, fun b hb => hf b (by simp_all)⟩, ⟨l10, by simp_all, fun b hb => hf b (by simp_all)⟩, w0, w1, w2, w3, w5, w6, w7, w8⟩
theorem iX {w : World} {x : bj} {c4 : List Value} {c9 : List Value} {c10 : List Value} {g4 : List Nat} {g9 : List Nat} {g10 : List Nat} (O4 : (ab.sl ab.int).Own w c4 x.query g4) (O9 : (ab.sl ab.int).Own w c9 x.vec g9) (O10 : (ab.sl ab.bq).Own w c10 x.aY g10) (v0 : (Lit.int .i64 x.kind).wf = true) (v1 : (Lit.int .i64 x.aa).wf = true) (v2 : (Lit.int .i64 x.seq).wf = true) (v3 : (Lit.int .i64 x.id).wf = true) (v5 : (Lit.int .i64 x.k).wf = true) (v6 : (Lit.int .i64 x.start).wf = true) (v7 : (Lit.int .i64 x.fin).wf = true) (v8 : (Lit.int .i64 x.place).wf = true) (hn : (g4 ++ (g9 ++ g10)).Nodup) : ab.ar.Own w ([.int .i64 x.kind] ++ ([.int .i64 x.aa] ++ ([.int .i64 x.seq] ++ ([.int .i64 x.id] ++ (c4 ++ ([.int .i64 x.k] ++ ([.int .i64 x.start] ++ ([.int .i64 x.fin] ++ ([.int .i64 x.place] ++ (c9 ++ c10)))))))))) x (g4 ++ (g9 ++ g10)) := by
 refine ⟨⟨[.int .i64 x.kind], [.int .i64 x.aa] ++ ([.int .i64 x.seq] ++ ([.int .i64 x.id] ++ (c4 ++ ([.int .i64 x.k] ++ ([.int .i64 x.start] ++ ([.int .i64 x.fin] ++ ([.int .i64 x.place] ++ (c9 ++ c10)))))))), [], [] ++ ([] ++ ([] ++ (g4 ++ ([] ++ ([] ++ ([] ++ ([] ++ (g9 ++ g10)))))))), rfl, by simp, ⟨rfl, v0, rfl⟩, ⟨[.int .i64 x.aa], [.int .i64 x.seq] ++ ([.int .i64 x.id] ++ (c4 ++ ([.int .i64 x.k] ++ ([.int .i64 x.start] ++ ([.int .i64 x.fin] ++ ([.int .i64 x.place] ++ (c9 ++ c10))))))), [], [] ++ ([] ++ (g4 ++ ([] ++ ([] ++ ([] ++ ([] ++ (g9 ++ g10))))))), rfl, rfl, ⟨rfl, v1, rfl⟩, ⟨[.int .i64 x.seq], [.int .i64 x.id] ++ (c4 ++ ([.int .i64 x.k] ++ ([.int .i64 x.start] ++ ([.int .i64 x.fin] ++ ([.int .i64 x.place] ++ (c9 ++ c10)))))), [], [] ++ (g4 ++ ([] ++ ([] ++ ([] ++ ([] ++ (g9 ++ g10)))))), rfl, rfl, ⟨rfl, v2, rfl⟩, ⟨[.int .i64 x.id], c4 ++ ([.int .i64 x.k] ++ ([.int .i64 x.start] ++ ([.int .i64 x.fin] ++ ([.int .i64 x.place] ++ (c9 ++ c10))))), [], g4 ++ ([] ++ ([] ++ ([] ++ ([] ++ (g9 ++ g10))))), rfl, rfl, ⟨rfl, v3, rfl⟩, ⟨c4, [.int .i64 x.k] ++ ([.int .i64 x.start] ++ ([.int .i64 x.fin] ++ ([.int .i64 x.place] ++ (c9 ++ c10)))), g4, [] ++ ([] ++ ([] ++ ([] ++ (g9 ++ g10)))), rfl, rfl, O4.1, ⟨[.int .i64 x.k], [.int .i64 x.start] ++ ([.int .i64 x.fin] ++ ([.int .i64 x.place] ++ (c9 ++ c10))), [], [] ++ ([] ++ ([] ++ (g9 ++ g10))), rfl, rfl, ⟨rfl, v5, rfl⟩, ⟨[.int .i64 x.start], [.int .i64 x.fin] ++ ([.int .i64 x.place] ++ (c9 ++ c10)), [], [] ++ ([] ++ (g9 ++ g10)), rfl, rfl, ⟨rfl, v6, rfl⟩, ⟨[.int .i64 x.fin], [.int .i64 x.place] ++ (c9 ++ c10), [], [] ++ (g9 ++ g10), rfl, rfl, ⟨rfl, v7, rfl⟩, ⟨[.int .i64 x.place], c9 ++ c10, [], g9 ++ g10, rfl, rfl, ⟨rfl, v8, rfl⟩, ⟨c9, c10, g9, g10, rfl, rfl, O9.1, O10.1⟩⟩⟩⟩⟩⟩⟩⟩⟩⟩, hn, ?_⟩
 intro b hb o
 simp only [List.mem_append] at hb
 rcases hb with hb | hb | hb
 ·
  exact O4.2.2 b hb o
 ·
  exact O9.2.2 b hb o
 exact O10.2.2 b hb o
theorem pS (x : eG) : ab.bq.bV x = 2 := by
 show 1 + (1) = 2
 omega
theorem pD (k : Int) (x : eG) : ab.bq.dN k x = ⟨k, k + 1⟩ := rfl
theorem lL (xs : List eG) : (ab.sl ab.bq).ak xs = al ab.bq.bV xs := rfl
theorem sj (k : Int) (xs : List eG) : (ab.sl ab.bq).cF k xs = cq ab.bq.bV ab.bq.dN k xs := rfl
theorem nM (b off cap : Nat) (xs : List eG) (bl : List Nat) (k : Int) (w : World) (h : (ab.sl ab.bq).Own w [.slice (some ⟨b, off, none⟩) xs.length cap] xs bl) (hk : 0 ≤ k) (hk2 : k + (al ab.bq.bV xs : Nat) ≤ 1000000000) :
  Calls Tryz.prog 111 #[.slice (some ⟨b, off, none⟩) xs.length cap, .int .i64 k] w fun e w' => e = .returned (.int .i64 (k + (al ab.bq.bV xs : Nat))) ∧ (ab.sl ab.bq).Own w' [.slice (some ⟨b, off, none⟩) xs.length cap] (cq ab.bq.bV ab.bq.dN k xs) bl ∧ Ext (fun q => q ∈ bl) w w' := by
 have hbig := h.reads.et
 have H := yh h
 clear h
 go_enter Tryz.func111, Tryz.ntmps111
 go_wp2_with fail
 go_loopw [1, 5] (fun kk i wr => ∃ (j : Nat) (kj : Int), j ≤ xs.length ∧ i = .int .i64 j ∧ kj = k + (al ab.bq.bV (xs.take j) : Nat) ∧ kk = .int .i64 kj ∧ (ab.sl ab.bq).Own wr [.slice (some ⟨b, off, none⟩) xs.length cap] (cM ab.bq.bV ab.bq.dN k xs j) bl ∧ Ext (fun q => q ∈ bl) w wr) (fun _ i _ => xs.length - (intOf i).toNat)
 case atStart => exact ⟨0, k, Nat.zero_le _, rfl, by simp [al], rfl, by rw [eZ]; exact uh H, Ext.refl _ _⟩
 case round =>
  obtain ⟨j, kj, hj, rfl, hkj, rfl, hO, hX⟩ := hrel
  clear H
  by_cases hlt : j < xs.length
  ·
   have hj2 : j < (cM ab.bq.bV ab.bq.dN k xs j).length := by rw [fA _ _ _ _ _ hj]; exact hlt
   obtain ⟨row, blk, R, O, hbk, hin, hfin⟩ := ab.ic hO hj2
   rw [fG _ _ _ _ _ hlt] at O
   have HT := yh (ab.cj (f := ab.bq.bV) hlt)
   have hle := ab.bM (f := ab.bq.bV) (xs := xs) (k := j + 1)
   rw [uh HT] at hle
   have HM : Hid (∀ y, y = ab.bq.dN kj xs[j] → (cM ab.bq.bV ab.bq.dN k xs j).set j y = cM ab.bq.bV ab.bq.dN k xs (j + 1)) := fun y e => by rw [e, hkj]; exact fI _ _ _ _ _ hlt
   have HF := yh hfin
   have HX := yh hX
   have HI := yh hin
   clear hO hfin hX hin hj2
   generalize hx : xs[j] = x at *
   clear hx
   have hcn := pS x
   have HD := yh (pD kj x)
   have hb1 : 0 ≤ kj := by omega
   have hb2 : kj + (ab.bq.bV x : Int) ≤ 1000000000 := by omega
   have HK := yh hkj
   clear hkj hle
   have hbl0 : blk = [] := by have := (cS.1 O.1).2.1; exact this
   obtain ⟨rfl, -, -⟩ := cS.1 O.1
   clear O
   have l1 : b < wr.heap.size := R.lt
   have c0 : wr.cell? ⟨b, off + j * 2, none⟩ = some (.int .i64 x.id) := R.at 0 _ rfl
   have f0 : wr.frozen? ⟨b, off + j * 2, none⟩ = false := R.soft _
   have c1 : wr.cell? ⟨b, off + j * 2 + 1, none⟩ = some (.int .i64 x.score) := R.at 1 _ rfl
   have f1 : wr.frozen? ⟨b, off + j * 2 + 1, none⟩ = false := R.soft _
   have R0_ : cU wr ((wr.setCell ⟨b, off + j * 2, none⟩ (.int .i64 kj)).setCell ⟨b, off + j * 2 + 1, none⟩ (.int .i64 (kj + 1))) b (off + j * 2) 2 [.int .i64 kj, .int .i64 (kj + 1)] blk := ((R.set 0 (.int .i64 kj) (by decide)).set 1 (.int .i64 (kj + 1)) (by decide))
   have E0_ : Ext (fun q => q = b) wr ((wr.setCell ⟨b, off + j * 2, none⟩ (.int .i64 kj)).setCell ⟨b, off + j * 2 + 1, none⟩ (.int .i64 (kj + 1))) := (((Ext.refl (fun q => q = b) _).setCell ⟨b, off + j * 2, none⟩ (.int .i64 kj) rfl).setCell ⟨b, off + j * 2 + 1, none⟩ (.int .i64 (kj + 1)) rfl)
   clear R E0_
   have R := R0_
   clear R0_
   have HR := yh R
   clear R
   go_wp2_with fail
   go_roundw
   case rel =>
    refine ⟨j + 1, _, by omega, by go_num, ?_, rfl, ?_, ?_⟩
    ·
     rw [uh HT, hcn]
     have := uh HK
     omega
    ·
     rw [← uh HM _ (uh HD).symm]
     exact uh HF _ _ _ (uh HR) ⟨cS.2 ⟨rfl, hbl0, (show (Lit.int .i64 (kj)).wf = true from aP (by omega)), (show (Lit.int .i64 (kj + 1)).wf = true from aP (by omega))⟩, by rw [hbl0]; exact List.nodup_nil, by rw [hbl0]; simp⟩
    exact (uh HX).trans ((uh HR).ext.mono fun q _ hq => uh HI q (by rcases hq with h | h; exact Or.inl h.symm; exact Or.inr h))
   case measure => simp [intOf]; omega
  obtain rfl : j = xs.length := by omega
  rw [fJ] at hO
  rw [List.take_length] at hkj
  have HK := yh hkj
  clear hkj
  have HO := yh hO
  have HX := yh hX
  clear hO hX
  go_wp2_with fail
  go_ret
  exact ⟨by rw [← uh HK]; rfl, uh HO, uh HX⟩
theorem mJ (ao : Option Addr) (cap : Nat) (k : Int) (w : World) :
  Calls Tryz.prog 111 #[.slice ao 0 cap, .int .i64 k] w fun e w' => e = .returned (.int .i64 k) ∧ w' = w := by
 go_enter Tryz.func111, Tryz.ntmps111
 go_wp2_with fail
 refine wp_loop_rounds 1 ?_
 rw [rounds_succ]
 go_wp2_with fail
 go_ret
 exact ⟨rfl, rfl⟩
theorem qQ (v : Value) (xs : List eG) (bl : List Nat) (k : Int) (w : World) (h : (ab.sl ab.bq).Own w [v] xs bl) (hk : 0 ≤ k) (hk2 : k + (ab.sl ab.bq).ak xs ≤ 1000000000) :
  Calls Tryz.prog 111 #[v, .int .i64 k] w fun e w' => e = .returned (.int .i64 (k + (ab.sl ab.bq).ak xs)) ∧ (ab.sl ab.bq).Own w' [v] ((ab.sl ab.bq).cF k xs) bl ∧ Ext (fun q => q ∈ bl) w w' := by
 obtain ⟨ao, cap, rfl⟩ := aI h.reads
 by_cases hp : 0 < xs.length
 ·
  obtain ⟨b, off, rfl, hbl⟩ := ab.aS h.reads hp
  exact nM b off cap xs bl k w h hk hk2
 obtain rfl : xs = [] := List.eq_nil_of_length_eq_zero (by omega)
 refine (mJ ao cap k w).mono ?_
 rintro e w' ⟨rfl, rfl⟩
 exact ⟨by rw [lL]; simp [al], h, Ext.refl _ _⟩
theorem lX (x : bj) : ab.ar.bV x = 8 + (ab.sl ab.int).ak x.query + (ab.sl ab.int).ak x.vec + (ab.sl ab.bq).ak x.aY := by
 show 1 + (1 + (1 + (1 + ((ab.sl ab.int).ak x.query + (1 + (1 + (1 + (1 + ((ab.sl ab.int).ak x.vec + ((ab.sl ab.bq).ak x.aY)))))))))) = 8 + (ab.sl ab.int).ak x.query + (ab.sl ab.int).ak x.vec + (ab.sl ab.bq).ak x.aY
 omega
theorem lF (k : Int) (x : bj) : ab.ar.dN k x = ⟨k, k + 1, k + 1 + 1, k + 1 + 1 + 1, (ab.sl ab.int).cF (k + 1 + 1 + 1 + 1) x.query, k + 1 + 1 + 1 + 1 + ((ab.sl ab.int).ak x.query : Nat), k + 1 + 1 + 1 + 1 + ((ab.sl ab.int).ak x.query : Nat) + 1, k + 1 + 1 + 1 + 1 + ((ab.sl ab.int).ak x.query : Nat) + 1 + 1, k + 1 + 1 + 1 + 1 + ((ab.sl ab.int).ak x.query : Nat) + 1 + 1 + 1, (ab.sl ab.int).cF (k + 1 + 1 + 1 + 1 + ((ab.sl ab.int).ak x.query : Nat) + 1 + 1 + 1 + 1) x.vec, (ab.sl ab.bq).cF (k + 1 + 1 + 1 + 1 + ((ab.sl ab.int).ak x.query : Nat) + 1 + 1 + 1 + 1 + ((ab.sl ab.int).ak x.vec : Nat)) x.aY⟩ := rfl
theorem jh (xs : List bj) : (ab.sl ab.ar).ak xs = al ab.ar.bV xs := rfl
theorem pf (k : Int) (xs : List bj) : (ab.sl ab.ar).cF k xs = cq ab.ar.bV ab.ar.dN k xs := rfl
theorem kW (b off cap : Nat) (xs : List bj) (bl : List Nat) (k : Int) (w : World) (h : (ab.sl ab.ar).Own w [.slice (some ⟨b, off, none⟩) xs.length cap] xs bl) (hk : 0 ≤ k) (hk2 : k + (al ab.ar.bV xs : Nat) ≤ 1000000000) :
  Calls Tryz.prog 55 #[.slice (some ⟨b, off, none⟩) xs.length cap, .int .i64 k] w fun e w' => e = .returned (.int .i64 (k + (al ab.ar.bV xs : Nat))) ∧ (ab.sl ab.ar).Own w' [.slice (some ⟨b, off, none⟩) xs.length cap] (cq ab.ar.bV ab.ar.dN k xs) bl ∧ Ext (fun q => q ∈ bl) w w' := by
 have hbig := h.reads.et
 have H := yh h
 clear h
 go_enter Tryz.func55, Tryz.ntmps55
 go_wp2_with fail
 go_loopw [1, 5] (fun kk i wr => ∃ (j : Nat) (kj : Int), j ≤ xs.length ∧ i = .int .i64 j ∧ kj = k + (al ab.ar.bV (xs.take j) : Nat) ∧ kk = .int .i64 kj ∧ (ab.sl ab.ar).Own wr [.slice (some ⟨b, off, none⟩) xs.length cap] (cM ab.ar.bV ab.ar.dN k xs j) bl ∧ Ext (fun q => q ∈ bl) w wr) (fun _ i _ => xs.length - (intOf i).toNat)
 case atStart => exact ⟨0, k, Nat.zero_le _, rfl, by simp [al], rfl, by rw [eZ]; exact uh H, Ext.refl _ _⟩
 case round =>
  obtain ⟨j, kj, hj, rfl, hkj, rfl, hO, hX⟩ := hrel
  clear H
  by_cases hlt : j < xs.length
  ·
   have hj2 : j < (cM ab.ar.bV ab.ar.dN k xs j).length := by rw [fA _ _ _ _ _ hj]; exact hlt
   obtain ⟨row, blk, R, O, hbk, hin, hfin⟩ := ab.ic hO hj2
   rw [fG _ _ _ _ _ hlt] at O
   have HT := yh (ab.cj (f := ab.ar.bV) hlt)
   have hle := ab.bM (f := ab.ar.bV) (xs := xs) (k := j + 1)
   rw [uh HT] at hle
   have HM : Hid (∀ y, y = ab.ar.dN kj xs[j] → (cM ab.ar.bV ab.ar.dN k xs j).set j y = cM ab.ar.bV ab.ar.dN k xs (j + 1)) := fun y e => by rw [e, hkj]; exact fI _ _ _ _ _ hlt
   have HF := yh hfin
   have HX := yh hX
   have HI := yh hin
   clear hO hfin hX hin hj2
   generalize hx : xs[j] = x at *
   clear hx
   have hcn := lX x
   have HD0 := lF kj x
   have hb1 : 0 ≤ kj := by omega
   have hb2 : kj + (ab.ar.bV x : Int) ≤ 1000000000 := by omega
   have HK := yh hkj
   clear hkj hle
   have HD := yh HD0
   clear HD0
   have hnd := O.2.1
   obtain ⟨a4, d4, a9, d9, a10, d10, g4, g9, g10, rfl, hbl, O4, O9, O10, v0, v1, v2, v3, v5, v6, v7, v8⟩ := qM O
   clear O
   have HN : Hid ((g4 ++ (g9 ++ g10)).Nodup) := by rw [hbl] at hnd; exact hnd
   have HBL := yh hbl
   have hm4 : ∀ c ∈ g4, c ∈ blk := fun c hc => by rw [hbl]; simp [hc]
   have HM4 := yh hm4
   have HB4 : Hid (b ∉ g4) := fun hc => hbk (hm4 b hc)
   clear hm4
   have hm9 : ∀ c ∈ g9, c ∈ blk := fun c hc => by rw [hbl]; simp [hc]
   have HM9 := yh hm9
   have HB9 : Hid (b ∉ g9) := fun hc => hbk (hm9 b hc)
   clear hm9
   have hm10 : ∀ c ∈ g10, c ∈ blk := fun c hc => by rw [hbl]; simp [hc]
   have HM10 := yh hm10
   have HB10 : Hid (b ∉ g10) := fun hc => hbk (hm10 b hc)
   clear hm10
   have HJ4_9 : Hid (∀ c ∈ g4, c ∉ g9) := fun c h1 h2 => (List.nodup_append.1 (uh HN)).2.2 c h1 c (List.mem_append_left _ h2) rfl
   have HJ4_10 : Hid (∀ c ∈ g4, c ∉ g10) := fun c h1 h2 => (List.nodup_append.1 (uh HN)).2.2 c h1 c (List.mem_append_right _ h2) rfl
   have HJ9_10 : Hid (∀ c ∈ g9, c ∉ g10) := fun c h1 h2 => (List.nodup_append.1 (List.nodup_append.1 (uh HN)).2.1).2.2 c h1 c h2 rfl
   clear hnd hbl
   have P4 := yh O4
   clear O4
   have P9 := yh O9
   clear O9
   have P10 := yh O10
   clear O10
   have HR := yh R
   have l1 : b < wr.heap.size := R.lt
   clear R
   have c0 : wr.cell? ⟨b, off + j * 11, none⟩ = some (.int .i64 x.kind) := (uh HR).at 0 _ rfl
   have f0 : wr.frozen? ⟨b, off + j * 11, none⟩ = false := (uh HR).soft _
   have c1 : wr.cell? ⟨b, off + j * 11 + 1, none⟩ = some (.int .i64 x.aa) := (uh HR).at 1 _ rfl
   have f1 : wr.frozen? ⟨b, off + j * 11 + 1, none⟩ = false := (uh HR).soft _
   have c2 : wr.cell? ⟨b, off + j * 11 + 2, none⟩ = some (.int .i64 x.seq) := (uh HR).at 2 _ rfl
   have f2 : wr.frozen? ⟨b, off + j * 11 + 2, none⟩ = false := (uh HR).soft _
   have c3 : wr.cell? ⟨b, off + j * 11 + 3, none⟩ = some (.int .i64 x.id) := (uh HR).at 3 _ rfl
   have f3 : wr.frozen? ⟨b, off + j * 11 + 3, none⟩ = false := (uh HR).soft _
   have c4 : wr.cell? ⟨b, off + j * 11 + 4, none⟩ = some (.slice a4 x.query.length d4) := (uh HR).at 4 _ rfl
   have E0_ : Ext (fun q => q = b) wr ((((wr.setCell ⟨b, off + j * 11, none⟩ (.int .i64 kj)).setCell ⟨b, off + j * 11 + 1, none⟩ (.int .i64 (kj + 1))).setCell ⟨b, off + j * 11 + 2, none⟩ (.int .i64 (kj + 1 + 1))).setCell ⟨b, off + j * 11 + 3, none⟩ (.int .i64 (kj + 1 + 1 + 1))) := (((((Ext.refl (fun q => q = b) _).setCell ⟨b, off + j * 11, none⟩ (.int .i64 kj) rfl).setCell ⟨b, off + j * 11 + 1, none⟩ (.int .i64 (kj + 1)) rfl).setCell ⟨b, off + j * 11 + 2, none⟩ (.int .i64 (kj + 1 + 1)) rfl).setCell ⟨b, off + j * 11 + 3, none⟩ (.int .i64 (kj + 1 + 1 + 1)) rfl)
   have HR0_ : Hid (cU wr ((((wr.setCell ⟨b, off + j * 11, none⟩ (.int .i64 kj)).setCell ⟨b, off + j * 11 + 1, none⟩ (.int .i64 (kj + 1))).setCell ⟨b, off + j * 11 + 2, none⟩ (.int .i64 (kj + 1 + 1))).setCell ⟨b, off + j * 11 + 3, none⟩ (.int .i64 (kj + 1 + 1 + 1))) b (off + j * 11) 11 [.int .i64 kj, .int .i64 (kj + 1), .int .i64 (kj + 1 + 1), .int .i64 (kj + 1 + 1 + 1), .slice a4 x.query.length d4, .int .i64 x.k, .int .i64 x.start, .int .i64 x.fin, .int .i64 x.place, .slice a9 x.vec.length d9, .slice a10 x.aY.length d10] blk) := (((((uh HR).set 0 (.int .i64 kj) (by decide)).set 1 (.int .i64 (kj + 1)) (by decide)).set 2 (.int .i64 (kj + 1 + 1)) (by decide)).set 3 (.int .i64 (kj + 1 + 1 + 1)) (by decide))
   replace P4 := yh ((uh P4).ext E0_ (fun c hc e => uh HB4 (e ▸ hc)))
   replace P9 := yh ((uh P9).ext E0_ (fun c hc e => uh HB9 (e ▸ hc)))
   replace P10 := yh ((uh P10).ext E0_ (fun c hc e => uh HB10 (e ▸ hc)))
   clear HR E0_
   have HR := HR0_
   clear HR0_
   go_wp2_with fail
   refine (dU _ x.query g4 (kj + 1 + 1 + 1 + 1) _ (uh P4) (by omega) (by omega)).mono ?_
   rintro e u0 ⟨rfl, Q, E2⟩
   replace HR := yh ((uh HR).call E2 (uh HM4) (uh HB4))
   replace P9 := yh ((uh P9).ext E2 (fun c hc h2 => uh HJ4_9 c h2 hc))
   replace P10 := yh ((uh P10).ext E2 (fun c hc h2 => uh HJ4_10 c h2 hc))
   clear P4
   have P4 := yh Q
   clear Q E2 l1 c0 f0 c1 f1 c2 f2 c3 f3 c4
   have l1 : b < u0.heap.size := (uh HR).lt
   have c5 : u0.cell? ⟨b, off + j * 11 + 5, none⟩ = some (.int .i64 x.k) := (uh HR).at 5 _ rfl
   have f5 : u0.frozen? ⟨b, off + j * 11 + 5, none⟩ = false := (uh HR).soft _
   have c6 : u0.cell? ⟨b, off + j * 11 + 6, none⟩ = some (.int .i64 x.start) := (uh HR).at 6 _ rfl
   have f6 : u0.frozen? ⟨b, off + j * 11 + 6, none⟩ = false := (uh HR).soft _
   have c7 : u0.cell? ⟨b, off + j * 11 + 7, none⟩ = some (.int .i64 x.fin) := (uh HR).at 7 _ rfl
   have f7 : u0.frozen? ⟨b, off + j * 11 + 7, none⟩ = false := (uh HR).soft _
   have c8 : u0.cell? ⟨b, off + j * 11 + 8, none⟩ = some (.int .i64 x.place) := (uh HR).at 8 _ rfl
   have f8 : u0.frozen? ⟨b, off + j * 11 + 8, none⟩ = false := (uh HR).soft _
   have c9 : u0.cell? ⟨b, off + j * 11 + 9, none⟩ = some (.slice a9 x.vec.length d9) := (uh HR).at 9 _ rfl
   have E1_ : Ext (fun q => q = b) u0 ((((u0.setCell ⟨b, off + j * 11 + 5, none⟩ (.int .i64 (kj + 1 + 1 + 1 + 1 + ((ab.sl ab.int).ak x.query : Nat)))).setCell ⟨b, off + j * 11 + 6, none⟩ (.int .i64 (kj + 1 + 1 + 1 + 1 + ((ab.sl ab.int).ak x.query : Nat) + 1))).setCell ⟨b, off + j * 11 + 7, none⟩ (.int .i64 (kj + 1 + 1 + 1 + 1 + ((ab.sl ab.int).ak x.query : Nat) + 1 + 1))).setCell ⟨b, off + j * 11 + 8, none⟩ (.int .i64 (kj + 1 + 1 + 1 + 1 + ((ab.sl ab.int).ak x.query : Nat) + 1 + 1 + 1))) := (((((Ext.refl (fun q => q = b) _).setCell ⟨b, off + j * 11 + 5, none⟩ (.int .i64 (kj + 1 + 1 + 1 + 1 + ((ab.sl ab.int).ak x.query : Nat))) rfl).setCell ⟨b, off + j * 11 + 6, none⟩ (.int .i64 (kj + 1 + 1 + 1 + 1 + ((ab.sl ab.int).ak x.query : Nat) + 1)) rfl).setCell ⟨b, off + j * 11 + 7, none⟩ (.int .i64 (kj + 1 + 1 + 1 + 1 + ((ab.sl ab.int).ak x.query : Nat) + 1 + 1)) rfl).setCell ⟨b, off + j * 11 + 8, none⟩ (.int .i64 (kj + 1 + 1 + 1 + 1 + ((ab.sl ab.int).ak x.query : Nat) + 1 + 1 + 1)) rfl)
   have HR1_ : Hid (cU wr ((((u0.setCell ⟨b, off + j * 11 + 5, none⟩ (.int .i64 (kj + 1 + 1 + 1 + 1 + ((ab.sl ab.int).ak x.query : Nat)))).setCell ⟨b, off + j * 11 + 6, none⟩ (.int .i64 (kj + 1 + 1 + 1 + 1 + ((ab.sl ab.int).ak x.query : Nat) + 1))).setCell ⟨b, off + j * 11 + 7, none⟩ (.int .i64 (kj + 1 + 1 + 1 + 1 + ((ab.sl ab.int).ak x.query : Nat) + 1 + 1))).setCell ⟨b, off + j * 11 + 8, none⟩ (.int .i64 (kj + 1 + 1 + 1 + 1 + ((ab.sl ab.int).ak x.query : Nat) + 1 + 1 + 1))) b (off + j * 11) 11 [.int .i64 kj, .int .i64 (kj + 1), .int .i64 (kj + 1 + 1), .int .i64 (kj + 1 + 1 + 1), .slice a4 x.query.length d4, .int .i64 (kj + 1 + 1 + 1 + 1 + ((ab.sl ab.int).ak x.query : Nat)), .int .i64 (kj + 1 + 1 + 1 + 1 + ((ab.sl ab.int).ak x.query : Nat) + 1), .int .i64 (kj + 1 + 1 + 1 + 1 + ((ab.sl ab.int).ak x.query : Nat) + 1 + 1), .int .i64 (kj + 1 + 1 + 1 + 1 + ((ab.sl ab.int).ak x.query : Nat) + 1 + 1 + 1), .slice a9 x.vec.length d9, .slice a10 x.aY.length d10] blk) := (((((uh HR).set 5 (.int .i64 (kj + 1 + 1 + 1 + 1 + ((ab.sl ab.int).ak x.query : Nat))) (by decide)).set 6 (.int .i64 (kj + 1 + 1 + 1 + 1 + ((ab.sl ab.int).ak x.query : Nat) + 1)) (by decide)).set 7 (.int .i64 (kj + 1 + 1 + 1 + 1 + ((ab.sl ab.int).ak x.query : Nat) + 1 + 1)) (by decide)).set 8 (.int .i64 (kj + 1 + 1 + 1 + 1 + ((ab.sl ab.int).ak x.query : Nat) + 1 + 1 + 1)) (by decide))
   replace P4 := yh ((uh P4).ext E1_ (fun c hc e => uh HB4 (e ▸ hc)))
   replace P9 := yh ((uh P9).ext E1_ (fun c hc e => uh HB9 (e ▸ hc)))
   replace P10 := yh ((uh P10).ext E1_ (fun c hc e => uh HB10 (e ▸ hc)))
   clear HR E1_
   have HR := HR1_
   clear HR1_
   go_wp2_with fail
   refine (dU _ x.vec g9 (kj + 1 + 1 + 1 + 1 + ((ab.sl ab.int).ak x.query : Nat) + 1 + 1 + 1 + 1) _ (uh P9) (by omega) (by omega)).mono ?_
   rintro e u1 ⟨rfl, Q, E2⟩
   replace HR := yh ((uh HR).call E2 (uh HM9) (uh HB9))
   replace P4 := yh ((uh P4).ext E2 (fun c hc h2 => uh HJ4_9 c hc h2))
   replace P10 := yh ((uh P10).ext E2 (fun c hc h2 => uh HJ9_10 c h2 hc))
   clear P9
   have P9 := yh Q
   clear Q E2 l1 c5 f5 c6 f6 c7 f7 c8 f8 c9
   have l1 : b < u1.heap.size := (uh HR).lt
   have c10 : u1.cell? ⟨b, off + j * 11 + 10, none⟩ = some (.slice a10 x.aY.length d10) := (uh HR).at 10 _ rfl
   go_wp2_with fail
   refine (qQ _ x.aY g10 (kj + 1 + 1 + 1 + 1 + ((ab.sl ab.int).ak x.query : Nat) + 1 + 1 + 1 + 1 + ((ab.sl ab.int).ak x.vec : Nat)) _ (uh P10) (by omega) (by omega)).mono ?_
   rintro e u2 ⟨rfl, Q, E2⟩
   replace HR := yh ((uh HR).call E2 (uh HM10) (uh HB10))
   replace P4 := yh ((uh P4).ext E2 (fun c hc h2 => uh HJ4_10 c hc h2))
   replace P9 := yh ((uh P9).ext E2 (fun c hc h2 => uh HJ9_10 c hc h2))
   clear P10
   have P10 := yh Q
   clear Q E2 l1 c10
   have l1 : b < u2.heap.size := (uh HR).lt
   go_wp2_with fail
   go_roundw
   case rel =>
    refine ⟨j + 1, _, by omega, by go_num, ?_, rfl, ?_, ?_⟩
    ·
     rw [uh HT, hcn]
     have := uh HK
     omega
    ·
     rw [← uh HM _ (uh HD).symm]
     exact uh HF _ _ _ (uh HR) (by rw [uh HBL]; exact iX (x := ⟨kj, kj + 1, kj + 1 + 1, kj + 1 + 1 + 1, (ab.sl ab.int).cF (kj + 1 + 1 + 1 + 1) x.query, kj + 1 + 1 + 1 + 1 + ((ab.sl ab.int).ak x.query : Nat), kj + 1 + 1 + 1 + 1 + ((ab.sl ab.int).ak x.query : Nat) + 1, kj + 1 + 1 + 1 + 1 + ((ab.sl ab.int).ak x.query : Nat) + 1 + 1, kj + 1 + 1 + 1 + 1 + ((ab.sl ab.int).ak x.query : Nat) + 1 + 1 + 1, (ab.sl ab.int).cF (kj + 1 + 1 + 1 + 1 + ((ab.sl ab.int).ak x.query : Nat) + 1 + 1 + 1 + 1) x.vec, (ab.sl ab.bq).cF (kj + 1 + 1 + 1 + 1 + ((ab.sl ab.int).ak x.query : Nat) + 1 + 1 + 1 + 1 + ((ab.sl ab.int).ak x.vec : Nat)) x.aY⟩) (uh P4) (uh P9) (uh P10) (show (Lit.int .i64 (kj)).wf = true from aP (by omega)) (show (Lit.int .i64 (kj + 1)).wf = true from aP (by omega)) (show (Lit.int .i64 (kj + 1 + 1)).wf = true from aP (by omega)) (show (Lit.int .i64 (kj + 1 + 1 + 1)).wf = true from aP (by omega)) (show (Lit.int .i64 (kj + 1 + 1 + 1 + 1 + ((ab.sl ab.int).ak x.query : Nat))).wf = true from aP (by omega)) (show (Lit.int .i64 (kj + 1 + 1 + 1 + 1 + ((ab.sl ab.int).ak x.query : Nat) + 1)).wf = true from aP (by omega)) (show (Lit.int .i64 (kj + 1 + 1 + 1 + 1 + ((ab.sl ab.int).ak x.query : Nat) + 1 + 1)).wf = true from aP (by omega)) (show (Lit.int .i64 (kj + 1 + 1 + 1 + 1 + ((ab.sl ab.int).ak x.query : Nat) + 1 + 1 + 1)).wf = true from aP (by omega)) (uh HN))
    exact (uh HX).trans ((uh HR).ext.mono fun q _ hq => uh HI q (by rcases hq with h | h; exact Or.inl h.symm; exact Or.inr h))
   case measure => simp [intOf]; omega
  obtain rfl : j = xs.length := by omega
  rw [fJ] at hO
  rw [List.take_length] at hkj
  have HK := yh hkj
  clear hkj
  have HO := yh hO
  have HX := yh hX
  clear hO hX
  go_wp2_with fail
  go_ret
  exact ⟨by rw [← uh HK]; rfl, uh HO, uh HX⟩
theorem jX (ao : Option Addr) (cap : Nat) (k : Int) (w : World) :
  Calls Tryz.prog 55 #[.slice ao 0 cap, .int .i64 k] w fun e w' => e = .returned (.int .i64 k) ∧ w' = w := by
 go_enter Tryz.func55, Tryz.ntmps55
 go_wp2_with fail
 refine wp_loop_rounds 1 ?_
 rw [rounds_succ]
 go_wp2_with fail
 go_ret
 exact ⟨rfl, rfl⟩
theorem m4 (v : Value) (xs : List bj) (bl : List Nat) (k : Int) (w : World) (h : (ab.sl ab.ar).Own w [v] xs bl) (hk : 0 ≤ k) (hk2 : k + (ab.sl ab.ar).ak xs ≤ 1000000000) :
  Calls Tryz.prog 55 #[v, .int .i64 k] w fun e w' => e = .returned (.int .i64 (k + (ab.sl ab.ar).ak xs)) ∧ (ab.sl ab.ar).Own w' [v] ((ab.sl ab.ar).cF k xs) bl ∧ Ext (fun q => q ∈ bl) w w' := by
 obtain ⟨ao, cap, rfl⟩ := aI h.reads
 by_cases hp : 0 < xs.length
 ·
  obtain ⟨b, off, rfl, hbl⟩ := ab.aS h.reads hp
  exact kW b off cap xs bl k w h hk hk2
 obtain rfl : xs = [] := List.eq_nil_of_length_eq_zero (by omega)
 refine (jX ao cap k w).mono ?_
 rintro e w' ⟨rfl, rfl⟩
 exact ⟨by rw [jh]; simp [al], h, Ext.refl _ _⟩
theorem jB (cs : List Value) (x : ay) (bl : List Nat) (k : Int) (w : World) (h : ab.aF.Own w cs x bl) (hk : 0 ≤ k) (hk2 : k + ab.aF.ak x ≤ 1000000000) :
  Calls Tryz.prog 16 #[.agg cs.toArray, .int .i64 k] w fun e w' => e = .returned (.int .i64 (k + ab.aF.ak x)) ∧ ab.aF.Own w' cs (ab.aF.cF k x) bl ∧ Ext (fun q => q ∈ bl) w w' := by
 have hlt := h.lt
 have hnd := h.2.1
 rw [fe] at hk2
 obtain ⟨a3, d3, a4, d4, a5, d5, a6, d6, g2, g4, g5, g6, rfl, hbl, O2, O4, O5, O6, v0, v1⟩ := gx h
 clear h
 have HB0 : Below w.heap.size w (w.alloc (.cells #[.int .i64 x.now, .int .i64 x.events, .int .i64 x.chain.ae, .slice a3 x.chain.ids.length d3, .slice a4 x.nodes.length d4, .slice a5 x.msgs.length d5, .slice a6 x.af.length d6] 39)) := (Below.refl _ _).alloc (Nat.le_refl _) _
 have bA : aA w.heap.size #[.int .i64 x.now, .int .i64 x.events, .int .i64 x.chain.ae, .slice a3 x.chain.ids.length d3, .slice a4 x.nodes.length d4, .slice a5 x.msgs.length d5, .slice a6 x.af.length d6] 39 (w.alloc (.cells #[.int .i64 x.now, .int .i64 x.events, .int .i64 x.chain.ae, .slice a3 x.chain.ids.length d3, .slice a4 x.nodes.length d4, .slice a5 x.msgs.length d5, .slice a6 x.af.length d6] 39)) w.heap.size := aD (Nat.le_refl _)
 have HN := yh hnd
 have HV := yh (fe x)
 have HM := yh (lE k x)
 clear hnd
 go_enter Tryz.func16, Tryz.ntmps16
 go_wp2_with fail
 generalize w.alloc (.cells #[.int .i64 x.now, .int .i64 x.events, .int .i64 x.chain.ae, .slice a3 x.chain.ids.length d3, .slice a4 x.nodes.length d4, .slice a5 x.msgs.length d5, .slice a6 x.af.length d6] 39) = W0 at *
 replace O2 := O2.later HB0
 replace O4 := O4.later HB0
 replace O5 := O5.later HB0
 replace O6 := O6.later HB0
 have hsz := HB0.size
 have EX : Ext (fun q => q ∈ bl) w W0 := az HB0 _
 have hs0 := bA.lt
 refine (oD _ x.chain g2 (k) _ O2 (by omega) (by omega)).mono ?_
 rintro e w1 ⟨rfl, Q2, E2⟩
 replace O4 := O4.ext E2 (fun b hb hb2 => by subst hbl; exact absurd rfl ((by have := uh HN; simp_all [List.nodup_append] : ∀ p ∈ g2, ∀ q ∈ g4, p ≠ q) b hb2 b hb))
 replace O5 := O5.ext E2 (fun b hb hb2 => by subst hbl; exact absurd rfl ((by have := uh HN; simp_all [List.nodup_append] : ∀ p ∈ g2, ∀ q ∈ g5, p ≠ q) b hb2 b hb))
 replace O6 := O6.ext E2 (fun b hb hb2 => by subst hbl; exact absurd rfl ((by have := uh HN; simp_all [List.nodup_append] : ∀ p ∈ g2, ∀ q ∈ g6, p ≠ q) b hb2 b hb))
 replace EX := EX.trans (E2.mono fun b _ hb => by rw [hbl]; simp [hb])
 replace bA := bA.ext E2 (fun hm => by have := hlt w.heap.size (by rw [hbl]; simp [hm]); omega)
 clear E2
 have p4 := bA.at 4 _ rfl
 have p5 := bA.at 5 _ rfl
 have p6 := bA.at 6 _ rfl
 have HA := yh bA
 have HX := yh EX
 have HL := yh hlt
 have HBL := yh hbl
 clear bA EX hlt hbl
 have P2 := yh Q2
 clear Q2
 have P4 := yh O4
 clear O4
 have P5 := yh O5
 clear O5
 have P6 := yh O6
 clear O6
 clear O2
 go_wp2_with fail
 have bA := uh HA
 have EX := uh HX
 have hlt := uh HL
 have hbl := uh HBL
 clear HA HX HL HBL
 have Q2 := uh P2
 clear P2
 have O4 := uh P4
 clear P4
 have O5 := uh P5
 clear P5
 have O6 := uh P6
 clear P6
 clear p4
 clear p5
 clear p6
 refine (po _ x.nodes g4 (k + (ab.aH.ak x.chain : Int)) _ O4 (by omega) (by omega)).mono ?_
 rintro e w2 ⟨rfl, Q4, E4⟩
 replace Q2 := Q2.ext E4 (fun b hb hb2 => by subst hbl; exact absurd rfl ((by have := uh HN; simp_all [List.nodup_append] : ∀ p ∈ g2, ∀ q ∈ g4, p ≠ q) b hb b hb2))
 replace O5 := O5.ext E4 (fun b hb hb2 => by subst hbl; exact absurd rfl ((by have := uh HN; simp_all [List.nodup_append] : ∀ p ∈ g4, ∀ q ∈ g5, p ≠ q) b hb2 b hb))
 replace O6 := O6.ext E4 (fun b hb hb2 => by subst hbl; exact absurd rfl ((by have := uh HN; simp_all [List.nodup_append] : ∀ p ∈ g4, ∀ q ∈ g6, p ≠ q) b hb2 b hb))
 replace EX := EX.trans (E4.mono fun b _ hb => by rw [hbl]; simp [hb])
 replace bA := bA.ext E4 (fun hm => by have := hlt w.heap.size (by rw [hbl]; simp [hm]); omega)
 clear E4
 have p5 := bA.at 5 _ rfl
 have p6 := bA.at 6 _ rfl
 have HA := yh bA
 have HX := yh EX
 have HL := yh hlt
 have HBL := yh hbl
 clear bA EX hlt hbl
 have P2 := yh Q2
 clear Q2
 have P4 := yh Q4
 clear Q4
 have P5 := yh O5
 clear O5
 have P6 := yh O6
 clear O6
 clear O4
 go_wp2_with fail
 have bA := uh HA
 have EX := uh HX
 have hlt := uh HL
 have hbl := uh HBL
 clear HA HX HL HBL
 have Q2 := uh P2
 clear P2
 have Q4 := uh P4
 clear P4
 have O5 := uh P5
 clear P5
 have O6 := uh P6
 clear P6
 clear p5
 clear p6
 refine (qR _ x.msgs g5 (k + (ab.aH.ak x.chain : Int) + ((ab.sl ab.ax).ak x.nodes : Int)) _ O5 (by omega) (by omega)).mono ?_
 rintro e w3 ⟨rfl, Q5, E5⟩
 replace Q2 := Q2.ext E5 (fun b hb hb2 => by subst hbl; exact absurd rfl ((by have := uh HN; simp_all [List.nodup_append] : ∀ p ∈ g2, ∀ q ∈ g5, p ≠ q) b hb b hb2))
 replace Q4 := Q4.ext E5 (fun b hb hb2 => by subst hbl; exact absurd rfl ((by have := uh HN; simp_all [List.nodup_append] : ∀ p ∈ g4, ∀ q ∈ g5, p ≠ q) b hb b hb2))
 replace O6 := O6.ext E5 (fun b hb hb2 => by subst hbl; exact absurd rfl ((by have := uh HN; simp_all [List.nodup_append] : ∀ p ∈ g5, ∀ q ∈ g6, p ≠ q) b hb2 b hb))
 replace EX := EX.trans (E5.mono fun b _ hb => by rw [hbl]; simp [hb])
 replace bA := bA.ext E5 (fun hm => by have := hlt w.heap.size (by rw [hbl]; simp [hm]); omega)
 clear E5
 have p6 := bA.at 6 _ rfl
 have HA := yh bA
 have HX := yh EX
 have HL := yh hlt
 have HBL := yh hbl
 clear bA EX hlt hbl
 have P2 := yh Q2
 clear Q2
 have P4 := yh Q4
 clear Q4
 have P5 := yh Q5
 clear Q5
 have P6 := yh O6
 clear O6
 clear O5
 go_wp2_with fail
 have bA := uh HA
 have EX := uh HX
 have hlt := uh HL
 have hbl := uh HBL
 clear HA HX HL HBL
 have Q2 := uh P2
 clear P2
 have Q4 := uh P4
 clear P4
 have Q5 := uh P5
 clear P5
 have O6 := uh P6
 clear P6
 clear p6
 refine (m4 _ x.af g6 (k + (ab.aH.ak x.chain : Int) + ((ab.sl ab.ax).ak x.nodes : Int) + ((ab.sl ab.aQ).ak x.msgs : Int)) _ O6 (by omega) (by omega)).mono ?_
 rintro e w4 ⟨rfl, Q6, E6⟩
 replace Q2 := Q2.ext E6 (fun b hb hb2 => by subst hbl; exact absurd rfl ((by have := uh HN; simp_all [List.nodup_append] : ∀ p ∈ g2, ∀ q ∈ g6, p ≠ q) b hb b hb2))
 replace Q4 := Q4.ext E6 (fun b hb hb2 => by subst hbl; exact absurd rfl ((by have := uh HN; simp_all [List.nodup_append] : ∀ p ∈ g4, ∀ q ∈ g6, p ≠ q) b hb b hb2))
 replace Q5 := Q5.ext E6 (fun b hb hb2 => by subst hbl; exact absurd rfl ((by have := uh HN; simp_all [List.nodup_append] : ∀ p ∈ g5, ∀ q ∈ g6, p ≠ q) b hb b hb2))
 replace EX := EX.trans (E6.mono fun b _ hb => by rw [hbl]; simp [hb])
 replace bA := bA.ext E6 (fun hm => by have := hlt w.heap.size (by rw [hbl]; simp [hm]); omega)
 clear E6
 have HA := yh bA
 have HX := yh EX
 have HL := yh hlt
 have HBL := yh hbl
 clear bA EX hlt hbl
 have P2 := yh Q2
 clear Q2
 have P4 := yh Q4
 clear Q4
 have P5 := yh Q5
 clear Q5
 have P6 := yh Q6
 clear Q6
 clear O6
 go_wp2_with fail
 go_ret
 refine ⟨?_, ?_, uh HX⟩
 ·
  rw [show k + (ab.aF.ak x : Int) = k + (ab.aH.ak x.chain : Int) + ((ab.sl ab.ax).ak x.nodes : Int) + ((ab.sl ab.aQ).ak x.msgs : Int) + ((ab.sl ab.ar).ak x.af : Int) by rw [uh HV]; omega]
  rfl
 have e := uh HBL
 subst e
 rw [uh HM]
 exact eE (x := ⟨x.now, x.events, ab.aH.cF (k) x.chain, (ab.sl ab.ax).cF (k + (ab.aH.ak x.chain : Int)) x.nodes, (ab.sl ab.aQ).cF (k + (ab.aH.ak x.chain : Int) + ((ab.sl ab.ax).ak x.nodes : Int)) x.msgs, (ab.sl ab.ar).cF (k + (ab.aH.ak x.chain : Int) + ((ab.sl ab.ax).ak x.nodes : Int) + ((ab.sl ab.aQ).ak x.msgs : Int)) x.af⟩) (uh P2) (uh P4) (uh P5) (uh P6) v0 v1 (uh HN)
theorem oQ (cs : List Value) (x : aj) (bl : List Nat) (k : Int) (w : World) (h : ab.ag.Own w cs x bl) (hk : 0 ≤ k) (hk2 : k + ab.ag.ak x ≤ 1000000000) :
  Calls Tryz.prog 17 #[.agg cs.toArray, .int .i64 k] w fun e w' => e = .returned (.int .i64 (k + ab.ag.ak x)) ∧ ab.ag.Own w' cs (ab.ag.cF k x) bl ∧ Ext (fun q => q ∈ bl) w w' := by
 have hlt := h.lt
 have hnd := h.2.1
 rw [jO] at hk2
 obtain ⟨a2, d2, g2, rfl, hbl, O2, v0, v1, v3, v4⟩ := iI h
 clear h
 have HB0 : Below w.heap.size w (w.alloc (.cells #[.int .i64 x.kind, .int .i64 x.id, .slice a2 x.vec.length d2, .int .i64 x.aa, .int .i64 x.seq] 44)) := (Below.refl _ _).alloc (Nat.le_refl _) _
 have bA : aA w.heap.size #[.int .i64 x.kind, .int .i64 x.id, .slice a2 x.vec.length d2, .int .i64 x.aa, .int .i64 x.seq] 44 (w.alloc (.cells #[.int .i64 x.kind, .int .i64 x.id, .slice a2 x.vec.length d2, .int .i64 x.aa, .int .i64 x.seq] 44)) w.heap.size := aD (Nat.le_refl _)
 have HN := yh hnd
 have HV := yh (jO x)
 have HM := yh (qz k x)
 clear hnd
 go_enter Tryz.func17, Tryz.ntmps17
 go_wp2_with fail
 generalize w.alloc (.cells #[.int .i64 x.kind, .int .i64 x.id, .slice a2 x.vec.length d2, .int .i64 x.aa, .int .i64 x.seq] 44) = W0 at *
 replace O2 := O2.later HB0
 have hsz := HB0.size
 have EX : Ext (fun q => q ∈ bl) w W0 := az HB0 _
 have hs0 := bA.lt
 refine (dU _ x.vec g2 (k) _ O2 (by omega) (by omega)).mono ?_
 rintro e w1 ⟨rfl, Q2, E2⟩
 replace EX := EX.trans (E2.mono fun b _ hb => by rw [hbl]; simp [hb])
 replace bA := bA.ext E2 (fun hm => by have := hlt w.heap.size (by rw [hbl]; simp [hm]); omega)
 clear E2
 have HA := yh bA
 have HX := yh EX
 have HL := yh hlt
 have HBL := yh hbl
 clear bA EX hlt hbl
 have P2 := yh Q2
 clear Q2
 clear O2
 go_wp2_with fail
 go_ret
 refine ⟨?_, ?_, uh HX⟩
 ·
  rw [show k + (ab.ag.ak x : Int) = k + ((ab.sl ab.int).ak x.vec : Int) by rw [uh HV]]
  rfl
 have e := uh HBL
 subst e
 rw [uh HM]
 exact dD (x := ⟨x.kind, x.id, (ab.sl ab.int).cF (k) x.vec, x.aa, x.seq⟩) (uh P2) v0 v1 v3 v4 (uh HN)
structure bk where
 code : Int
 aZ : Bool
 world : ay
def ab.aE : ab bk := ab.via (ab.pair ab.int (ab.pair ab.bool ab.aF)) (fun x => (x.code, x.aZ, x.world)) (fun p => ⟨p.1, p.2.1, p.2.2⟩)
theorem fz {w : World} {cs : List Value} {x : bk} {bl : List Nat} : ab.aE.bg w cs x bl ↔ ∃ (a5 : Option Addr) (d5 : Nat) (b5 : List Nat) (a6 : Option Addr) (d6 : Nat) (b6 : List Nat) (a7 : Option Addr) (d7 : Nat) (b7 : List Nat) (a8 : Option Addr) (d8 : Nat) (b8 : List Nat), cs = [.int .i64 x.code, .bool x.aZ, .int .i64 x.world.now, .int .i64 x.world.events, .int .i64 x.world.chain.ae, .slice a5 x.world.chain.ids.length d5, .slice a6 x.world.nodes.length d6, .slice a7 x.world.msgs.length d7, .slice a8 x.world.af.length d8] ∧ bl = b5 ++ (b6 ++ (b7 ++ b8)) ∧ (Lit.int .i64 x.code).wf = true ∧ (Lit.int .i64 x.world.now).wf = true ∧ (Lit.int .i64 x.world.events).wf = true ∧ (Lit.int .i64 x.world.chain.ae).wf = true ∧ (ab.sl ab.int).bg w [.slice a5 x.world.chain.ids.length d5] x.world.chain.ids b5 ∧ (ab.sl ab.ax).bg w [.slice a6 x.world.nodes.length d6] x.world.nodes b6 ∧ (ab.sl ab.aQ).bg w [.slice a7 x.world.msgs.length d7] x.world.msgs b7 ∧ (ab.sl ab.ar).bg w [.slice a8 x.world.af.length d8] x.world.af b8 := by
 constructor
 ·
  intro h
  obtain ⟨c0_, r0_, e0_, s0_, rfl, rfl, h0, ⟨c1_, r1_, e1_, s1_, rfl, rfl, h1, h2⟩⟩ := h
  obtain ⟨rfl, w0, rfl⟩ := h0
  obtain ⟨rfl, rfl⟩ := h1
  obtain ⟨a5, d5, q5, a6, d6, q6, a7, d7, q7, a8, d8, q8, rfl, hq2, w2, w3, w4, l5, l6, l7, l8⟩ := db.1 h2
  exact ⟨a5, d5, q5, a6, d6, q6, a7, d7, q7, a8, d8, q8, by simp, by simp [hq2], w0, w2, w3, w4, l5, l6, l7, l8⟩
 rintro ⟨a5, d5, b5, a6, d6, b6, a7, d7, b7, a8, d8, b8, rfl, hbl, w0, w2, w3, w4, l5, l6, l7, l8⟩
 rw [hbl]
 exact ⟨[.int .i64 x.code], [.bool x.aZ] ++ [.int .i64 x.world.now, .int .i64 x.world.events, .int .i64 x.world.chain.ae, .slice a5 x.world.chain.ids.length d5, .slice a6 x.world.nodes.length d6, .slice a7 x.world.msgs.length d7, .slice a8 x.world.af.length d8], [], [] ++ (b5 ++ (b6 ++ (b7 ++ b8))), rfl, by simp, ⟨rfl, w0, rfl⟩, ⟨[.bool x.aZ], [.int .i64 x.world.now, .int .i64 x.world.events, .int .i64 x.world.chain.ae, .slice a5 x.world.chain.ids.length d5, .slice a6 x.world.nodes.length d6, .slice a7 x.world.msgs.length d7, .slice a8 x.world.af.length d8], [], b5 ++ (b6 ++ (b7 ++ b8)), rfl, by simp, ⟨rfl, rfl⟩, db.2 ⟨a5, d5, b5, a6, d6, b6, a7, d7, b7, a8, d8, b8, rfl, rfl, w2, w3, w4, l5, l6, l7, l8⟩⟩⟩
theorem br {w : World} {cs : List Value} {x : bk} (h : ab.aE.Reads w cs x) : ∃ (a5 : Option Addr) (d5 : Nat) (a6 : Option Addr) (d6 : Nat) (a7 : Option Addr) (d7 : Nat) (a8 : Option Addr) (d8 : Nat), cs = [.int .i64 x.code, .bool x.aZ, .int .i64 x.world.now, .int .i64 x.world.events, .int .i64 x.world.chain.ae, .slice a5 x.world.chain.ids.length d5, .slice a6 x.world.nodes.length d6, .slice a7 x.world.msgs.length d7, .slice a8 x.world.af.length d8] ∧ ab.aF.Reads w [.int .i64 x.world.now, .int .i64 x.world.events, .int .i64 x.world.chain.ae, .slice a5 x.world.chain.ids.length d5, .slice a6 x.world.nodes.length d6, .slice a7 x.world.msgs.length d7, .slice a8 x.world.af.length d8] x.world := by
 obtain ⟨bl, h⟩ := h
 obtain ⟨a5, d5, b5, a6, d6, b6, a7, d7, b7, a8, d8, b8, rfl, -, w0, w2, w3, w4, l5, l6, l7, l8⟩ := fz.1 h
 exact ⟨a5, d5, a6, d6, a7, d7, a8, d8, rfl, ⟨_, db.2 ⟨a5, d5, _, a6, d6, _, a7, d7, _, a8, d8, _, rfl, rfl, w2, w3, w4, l5, l6, l7, l8⟩⟩⟩
theorem eW (cs cs2 : List Value) (x : bk) (w : World) (h : ab.aE.Reads w cs x) (h2 : ab.aE.Reads w cs2 x) :
  Calls Tryz.prog 13 #[.agg cs.toArray, .agg cs2.toArray] w fun e w' => e = .returned (.bool true) ∧ Below w.heap.size w w' := by
 obtain ⟨a5, d5, a6, d6, a7, d7, a8, d8, rfl, R2⟩ := br h
 obtain ⟨a5z, d5z, a6z, d6z, a7z, d7z, a8z, d8z, rfl, R2z⟩ := br h2
 clear h h2
 have e0 : (x.code != x.code) = false := by simp
 have e1 : (x.aZ != x.aZ) = false := by simp
 have e2 : (x.world.now != x.world.now) = false := by simp
 have e3 : (x.world.events != x.world.events) = false := by simp
 have e4 : (x.world.chain.ae != x.world.chain.ae) = false := by simp
 have HB0 : Below w.heap.size w ((w.alloc (.cells #[.int .i64 x.code, .bool x.aZ, .int .i64 x.world.now, .int .i64 x.world.events, .int .i64 x.world.chain.ae, .slice a5 x.world.chain.ids.length d5, .slice a6 x.world.nodes.length d6, .slice a7 x.world.msgs.length d7, .slice a8 x.world.af.length d8] 41)).alloc (.cells #[.int .i64 x.code, .bool x.aZ, .int .i64 x.world.now, .int .i64 x.world.events, .int .i64 x.world.chain.ae, .slice a5z x.world.chain.ids.length d5z, .slice a6z x.world.nodes.length d6z, .slice a7z x.world.msgs.length d7z, .slice a8z x.world.af.length d8z] 41)) := ((Below.refl _ _).alloc (Nat.le_refl _) _).alloc (by simp) _
 have bA : aA w.heap.size #[.int .i64 x.code, .bool x.aZ, .int .i64 x.world.now, .int .i64 x.world.events, .int .i64 x.world.chain.ae, .slice a5 x.world.chain.ids.length d5, .slice a6 x.world.nodes.length d6, .slice a7 x.world.msgs.length d7, .slice a8 x.world.af.length d8] 41 ((w.alloc (.cells #[.int .i64 x.code, .bool x.aZ, .int .i64 x.world.now, .int .i64 x.world.events, .int .i64 x.world.chain.ae, .slice a5 x.world.chain.ids.length d5, .slice a6 x.world.nodes.length d6, .slice a7 x.world.msgs.length d7, .slice a8 x.world.af.length d8] 41)).alloc (.cells #[.int .i64 x.code, .bool x.aZ, .int .i64 x.world.now, .int .i64 x.world.events, .int .i64 x.world.chain.ae, .slice a5z x.world.chain.ids.length d5z, .slice a6z x.world.nodes.length d6z, .slice a7z x.world.msgs.length d7z, .slice a8z x.world.af.length d8z] 41)) w.heap.size := (aD (Nat.le_refl _)).grow _
 have bC : aA w.heap.size #[.int .i64 x.code, .bool x.aZ, .int .i64 x.world.now, .int .i64 x.world.events, .int .i64 x.world.chain.ae, .slice a5z x.world.chain.ids.length d5z, .slice a6z x.world.nodes.length d6z, .slice a7z x.world.msgs.length d7z, .slice a8z x.world.af.length d8z] 41 ((w.alloc (.cells #[.int .i64 x.code, .bool x.aZ, .int .i64 x.world.now, .int .i64 x.world.events, .int .i64 x.world.chain.ae, .slice a5 x.world.chain.ids.length d5, .slice a6 x.world.nodes.length d6, .slice a7 x.world.msgs.length d7, .slice a8 x.world.af.length d8] 41)).alloc (.cells #[.int .i64 x.code, .bool x.aZ, .int .i64 x.world.now, .int .i64 x.world.events, .int .i64 x.world.chain.ae, .slice a5z x.world.chain.ids.length d5z, .slice a6z x.world.nodes.length d6z, .slice a7z x.world.msgs.length d7z, .slice a8z x.world.af.length d8z] 41)) (w.heap.size + 1) := bm (by omega) (by simp)
 go_enter Tryz.func13, Tryz.ntmps13
 go_wp2_with fail
 generalize (w.alloc (.cells #[.int .i64 x.code, .bool x.aZ, .int .i64 x.world.now, .int .i64 x.world.events, .int .i64 x.world.chain.ae, .slice a5 x.world.chain.ids.length d5, .slice a6 x.world.nodes.length d6, .slice a7 x.world.msgs.length d7, .slice a8 x.world.af.length d8] 41)).alloc (.cells #[.int .i64 x.code, .bool x.aZ, .int .i64 x.world.now, .int .i64 x.world.events, .int .i64 x.world.chain.ae, .slice a5z x.world.chain.ids.length d5z, .slice a6z x.world.nodes.length d6z, .slice a7z x.world.msgs.length d7z, .slice a8z x.world.af.length d8z] 41) = W0 at *
 replace R2 := R2.later HB0
 replace R2z := R2z.later HB0
 refine (nX _ _ x.world _ R2 R2z).mono ?_
 rintro e w1 ⟨rfl, hb⟩
 replace bA := bA.ai hb
 replace bC := bC.ai hb
 replace HB0 := HB0.trans (hb.mono HB0.size)
 clear hb
 have HB := yh HB0
 have HA := yh bA
 have HC := yh bC
 clear HB0 bA bC
 go_wp2_with fail
 go_ret
 exact ⟨rfl, uh HB⟩
theorem dc (x : bk) : ab.aE.ak x = ab.aF.ak x.world := by
 show 0 + (0 + (ab.aF.ak x.world)) = ab.aF.ak x.world
 omega
theorem fU (k : Int) (x : bk) : ab.aE.cF k x = ⟨x.code, x.aZ, ab.aF.cF (k) x.world⟩ := by
 simp [ab.aE, ab.via, ab.pair, ab.int, ab.bool]
theorem ju {w : World} {cs : List Value} {x : bk} {bl : List Nat} (h : ab.aE.Own w cs x bl) : ∃ (a5 : Option Addr) (d5 : Nat) (a6 : Option Addr) (d6 : Nat) (a7 : Option Addr) (d7 : Nat) (a8 : Option Addr) (d8 : Nat) (g2 : List Nat), cs = [.int .i64 x.code, .bool x.aZ, .int .i64 x.world.now, .int .i64 x.world.events, .int .i64 x.world.chain.ae, .slice a5 x.world.chain.ids.length d5, .slice a6 x.world.nodes.length d6, .slice a7 x.world.msgs.length d7, .slice a8 x.world.af.length d8] ∧ bl = g2 ∧ ab.aF.Own w [.int .i64 x.world.now, .int .i64 x.world.events, .int .i64 x.world.chain.ae, .slice a5 x.world.chain.ids.length d5, .slice a6 x.world.nodes.length d6, .slice a7 x.world.msgs.length d7, .slice a8 x.world.af.length d8] x.world g2 ∧ (Lit.int .i64 x.code).wf = true := by
 obtain ⟨hl, hn, hf⟩ := h
 obtain ⟨a5, d5, b5, a6, d6, b6, a7, d7, b7, a8, d8, b8, rfl, hbl, w0, w2, w3, w4, l5, l6, l7, l8⟩ := fz.1 hl
 rw [hbl] at hn hf
 simp only [List.nodup_append, List.mem_append] at hn hf
 exact ⟨a5, d5, a6, d6, a7, d7, a8, d8, (b5 ++ (b6 ++ (b7 ++ b8))), rfl, by first | exact hbl | (rw [hbl]; simp only [List.append_assoc]), ⟨db.2 ⟨a5, d5, b5, a6, d6, b6, a7, d7, b7, a8, d8, b8, rfl, rfl, w2, w3, w4, l5, l6, l7, l8⟩, by simp_all [List.nodup_append], fun b hb => hf b (by simp_all)⟩, w0⟩
theorem ed {w : World} {x : bk} {c2 : List Value} {g2 : List Nat} (O2 : ab.aF.Own w c2 x.world g2) (v0 : (Lit.int .i64 x.code).wf = true) (hn : (g2).Nodup) : ab.aE.Own w ([.int .i64 x.code] ++ ([.bool x.aZ] ++ c2)) x (g2) := by
 refine ⟨⟨[.int .i64 x.code], [.bool x.aZ] ++ c2, [], [] ++ g2, rfl, by simp, ⟨rfl, v0, rfl⟩, ⟨[.bool x.aZ], c2, [], g2, rfl, rfl, ⟨rfl, rfl⟩, O2.1⟩⟩, hn, ?_⟩
 intro b hb o
 exact O2.2.2 b hb o
theorem iz (cs : List Value) (x : bk) (bl : List Nat) (k : Int) (w : World) (h : ab.aE.Own w cs x bl) (hk : 0 ≤ k) (hk2 : k + ab.aE.ak x ≤ 1000000000) :
  Calls Tryz.prog 18 #[.agg cs.toArray, .int .i64 k] w fun e w' => e = .returned (.int .i64 (k + ab.aE.ak x)) ∧ ab.aE.Own w' cs (ab.aE.cF k x) bl ∧ Ext (fun q => q ∈ bl) w w' := by
 have hlt := h.lt
 have hnd := h.2.1
 rw [dc] at hk2
 obtain ⟨a5, d5, a6, d6, a7, d7, a8, d8, g2, rfl, hbl, O2, v0⟩ := ju h
 clear h
 have HB0 : Below w.heap.size w (w.alloc (.cells #[.int .i64 x.code, .bool x.aZ, .int .i64 x.world.now, .int .i64 x.world.events, .int .i64 x.world.chain.ae, .slice a5 x.world.chain.ids.length d5, .slice a6 x.world.nodes.length d6, .slice a7 x.world.msgs.length d7, .slice a8 x.world.af.length d8] 41)) := (Below.refl _ _).alloc (Nat.le_refl _) _
 have bA : aA w.heap.size #[.int .i64 x.code, .bool x.aZ, .int .i64 x.world.now, .int .i64 x.world.events, .int .i64 x.world.chain.ae, .slice a5 x.world.chain.ids.length d5, .slice a6 x.world.nodes.length d6, .slice a7 x.world.msgs.length d7, .slice a8 x.world.af.length d8] 41 (w.alloc (.cells #[.int .i64 x.code, .bool x.aZ, .int .i64 x.world.now, .int .i64 x.world.events, .int .i64 x.world.chain.ae, .slice a5 x.world.chain.ids.length d5, .slice a6 x.world.nodes.length d6, .slice a7 x.world.msgs.length d7, .slice a8 x.world.af.length d8] 41)) w.heap.size := aD (Nat.le_refl _)
 have HN := yh hnd
 have HV := yh (dc x)
 have HM := yh (fU k x)
 clear hnd
 go_enter Tryz.func18, Tryz.ntmps18
 go_wp2_with fail
 generalize w.alloc (.cells #[.int .i64 x.code, .bool x.aZ, .int .i64 x.world.now, .int .i64 x.world.events, .int .i64 x.world.chain.ae, .slice a5 x.world.chain.ids.length d5, .slice a6 x.world.nodes.length d6, .slice a7 x.world.msgs.length d7, .slice a8 x.world.af.length d8] 41) = W0 at *
 replace O2 := O2.later HB0
 have hsz := HB0.size
 have EX : Ext (fun q => q ∈ bl) w W0 := az HB0 _
 have hs0 := bA.lt
 refine (jB _ x.world g2 (k) _ O2 (by omega) (by omega)).mono ?_
 rintro e w1 ⟨rfl, Q2, E2⟩
 replace EX := EX.trans (E2.mono fun b _ hb => by rw [hbl]; simp [hb])
 replace bA := bA.ext E2 (fun hm => by have := hlt w.heap.size (by rw [hbl]; simp [hm]); omega)
 clear E2
 have HA := yh bA
 have HX := yh EX
 have HL := yh hlt
 have HBL := yh hbl
 clear bA EX hlt hbl
 have P2 := yh Q2
 clear Q2
 clear O2
 go_wp2_with fail
 go_ret
 refine ⟨?_, ?_, uh HX⟩
 ·
  rw [show k + (ab.aE.ak x : Int) = k + (ab.aF.ak x.world : Int) by rw [uh HV]]
  rfl
 have e := uh HBL
 subst e
 rw [uh HM]
 exact ed (x := ⟨x.code, x.aZ, ab.aF.cF (k) x.world⟩) (uh P2) v0 (uh HN)
end Go.Proofs.YtomphbenbnnfgaaGreatDoor
