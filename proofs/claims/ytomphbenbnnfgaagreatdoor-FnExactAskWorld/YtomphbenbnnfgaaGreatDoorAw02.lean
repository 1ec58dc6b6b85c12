/-
  Texts of this proof in one: ToChain, ToWrite, ToWriteS, ToNode, ToNodeS, ToMsg, ToMsgS, ToHit, ToHitS, ToEntry, ToEntryS, ToWorld, EqChain, EqWrite, EqWriteS, EqNode, EqNodeS, EqMsg.
  Their conditions stand in their theorems.
-/
import Derived.Test.YtomphbenbnnfgaaGreatDoorChecked
import Derived.Test.YtomphbenbnnfgaaGreatDoorAw01
import Derived.Test.YtomphbenbnnfgaaGreatDoorAw00
import Derived.WalkKit
import Derived.Deep.RegionHeld3
set_option maxRecDepth 100000
set_option maxHeartbeats 4000000
namespace Go.Proofs.YtomphbenbnnfgaaGreatDoor
open Go.RowKit
theorem s7 (cs : List Value) (x : bQ) (w : World) (h : ab.aH.Reads w cs x) (hn : ab.aH.sz x ≤ 1048576) :
  Calls Tryz.prog 40 #[.agg cs.toArray] w fun e w' => ∃ cs', e = .returned (.agg cs'.toArray) ∧ ab.aH.aN w' cs' x w.heap.size w'.heap.size ∧ Below w.heap.size w w' := by
 have h0 := h
 obtain ⟨bl, hl⟩ := h0
 obtain ⟨-, -, -, -, -, f0, -⟩ := dF.1 hl
 clear hl
 obtain ⟨a1, d1, rfl, R1⟩ := cb h
 clear h
 rw [jc] at hn
 have HF := yh f0
 clear f0
 have HB0 : Below w.heap.size w (((w.alloc (.cells #[.int .i64 x.ae, .slice a1 x.ids.length d1] 24)).alloc (.cells #[.int .i64 0, .slice none 0 0] 34)).alloc (.cells #[.int .i64 x.ae, .slice none 0 0] 34)) := (((Below.refl _ _).alloc (Nat.le_refl _) _).alloc (by simp) _).alloc (by simp; omega) _
 have bA : aA w.heap.size #[.int .i64 x.ae, .slice a1 x.ids.length d1] 24 (((w.alloc (.cells #[.int .i64 x.ae, .slice a1 x.ids.length d1] 24)).alloc (.cells #[.int .i64 0, .slice none 0 0] 34)).alloc (.cells #[.int .i64 x.ae, .slice none 0 0] 34)) w.heap.size := ((aD (Nat.le_refl _)).grow _).grow _
 have bR : aA w.heap.size #[.int .i64 0, .slice none 0 0] 34 (((w.alloc (.cells #[.int .i64 x.ae, .slice a1 x.ids.length d1] 24)).alloc (.cells #[.int .i64 0, .slice none 0 0] 34)).alloc (.cells #[.int .i64 x.ae, .slice none 0 0] 34)) (w.heap.size + 1) := (bm (by omega) (by simp)).grow _
 have bX : aA w.heap.size #[.int .i64 x.ae, .slice none 0 0] 34 (((w.alloc (.cells #[.int .i64 x.ae, .slice a1 x.ids.length d1] 24)).alloc (.cells #[.int .i64 0, .slice none 0 0] 34)).alloc (.cells #[.int .i64 x.ae, .slice none 0 0] 34)) (w.heap.size + 2) := bm (by omega) (by simp)
 have hz0 : w.heap.size + 3 ≤ (((w.alloc (.cells #[.int .i64 x.ae, .slice a1 x.ids.length d1] 24)).alloc (.cells #[.int .i64 0, .slice none 0 0] 34)).alloc (.cells #[.int .i64 x.ae, .slice none 0 0] 34)).heap.size := by simp
 go_enter Tryz.func40, Tryz.ntmps40
 go_wp2_with fail
 generalize ((w.alloc (.cells #[.int .i64 x.ae, .slice a1 x.ids.length d1] 24)).alloc (.cells #[.int .i64 0, .slice none 0 0] 34)).alloc (.cells #[.int .i64 x.ae, .slice none 0 0] 34) = W0 at *
 replace R1 := R1.later HB0
 refine (gz _ x.ids W0 R1 (by omega)).mono ?_
 rintro e w1 ⟨v1, rfl, O1, hb⟩
 have Z0 : W0.heap.size ≤ w1.heap.size := hb.size
 replace HB0 := HB0.trans (hb.mono HB0.size)
 replace bA := bA.ai hb
 replace bR := bR.ai hb
 replace bX := bX.ai hb
 clear hb R1
 obtain ⟨a1z, d1z, rfl⟩ := aI O1.reads
 have q0 := bX.at 0 _ rfl
 have q1 := bX.at 1 _ rfl
 have qf := bX.soft
 have ql := bX.lt
 have pl := bA.lt
 have r0 := bR.at 0 _ rfl
 have r1 := bR.at 1 _ rfl
 have rf := bR.soft
 have rl := bR.lt
 simp only [ga, gb, gc] at q0 q1 r0 r1
 have hA := yh bA
 have hR := yh bR
 have hX := yh bX
 have hB := yh HB0
 clear bA bR bX HB0
 have hO1 := yh O1
 clear O1
 go_wp2_with fail
 refine bodyPost_ret (v := .agg #[.int .i64 x.ae, .slice a1z x.ids.length d1z]) (by simp [results, Tryz.results40, go_sem, r0, r1]) rfl ?_
 have E : Ext (fun q => q = w.heap.size + 2 ∨ q = w.heap.size + 1) w1 _ := cH (cH (Ext.refl _ _) (w.heap.size + 2) [(1, .slice a1z x.ids.length d1z)] (Or.inl rfl)) (w.heap.size + 1) [(0, .int .i64 x.ae), (1, .slice a1z x.ids.length d1z)] (Or.inr rfl)
 obtain f0 := uh HF
 have own : ab.aH.aN _ [.int .i64 x.ae, .slice a1z x.ids.length d1z] x w.heap.size w1.heap.size := (ab.ba (ab.bJ (lo := w.heap.size) (hi := w.heap.size) f0) ((uh hO1).ext E (fun k h1 h2 h3 => by omega)) (by omega) (by omega) (by omega))
 have hsz := E.size
 have told := ab.gA (w := w) own (by omega) (by omega) ((uh hB).trans (E.below (uh hB).size (fun k h1 h2 => by omega)))
 exact told
theorem dP (cs : List Value) (x : aj) (w : World) (h : ab.ag.Reads w cs x) (hn : ab.ag.sz x ≤ 1048576) :
  Calls Tryz.prog 11 #[.agg cs.toArray] w fun e w' => ∃ cs', e = .returned (.agg cs'.toArray) ∧ ab.ag.aN w' cs' x w.heap.size w'.heap.size ∧ Below w.heap.size w w' := by
 have h0 := h
 obtain ⟨bl, hl⟩ := h0
 obtain ⟨-, -, -, -, -, f0, f1, -, f3, f4⟩ := ch.1 hl
 clear hl
 obtain ⟨a2, d2, rfl, R2⟩ := aM h
 clear h
 rw [jm] at hn
 have HF := yh (And.intro f0 (And.intro f1 (And.intro f3 (f4))))
 clear f0 f1 f3 f4
 have HB0 : Below w.heap.size w (((w.alloc (.cells #[.int .i64 x.kind, .int .i64 x.id, .slice a2 x.vec.length d2, .int .i64 x.aa, .int .i64 x.seq] 31)).alloc (.cells #[.int .i64 0, .int .i64 0, .slice none 0 0, .int .i64 0, .int .i64 0] 44)).alloc (.cells #[.int .i64 x.kind, .int .i64 x.id, .slice none 0 0, .int .i64 0, .int .i64 0] 44)) := (((Below.refl _ _).alloc (Nat.le_refl _) _).alloc (by simp) _).alloc (by simp; omega) _
 have bA : aA w.heap.size #[.int .i64 x.kind, .int .i64 x.id, .slice a2 x.vec.length d2, .int .i64 x.aa, .int .i64 x.seq] 31 (((w.alloc (.cells #[.int .i64 x.kind, .int .i64 x.id, .slice a2 x.vec.length d2, .int .i64 x.aa, .int .i64 x.seq] 31)).alloc (.cells #[.int .i64 0, .int .i64 0, .slice none 0 0, .int .i64 0, .int .i64 0] 44)).alloc (.cells #[.int .i64 x.kind, .int .i64 x.id, .slice none 0 0, .int .i64 0, .int .i64 0] 44)) w.heap.size := ((aD (Nat.le_refl _)).grow _).grow _
 have bR : aA w.heap.size #[.int .i64 0, .int .i64 0, .slice none 0 0, .int .i64 0, .int .i64 0] 44 (((w.alloc (.cells #[.int .i64 x.kind, .int .i64 x.id, .slice a2 x.vec.length d2, .int .i64 x.aa, .int .i64 x.seq] 31)).alloc (.cells #[.int .i64 0, .int .i64 0, .slice none 0 0, .int .i64 0, .int .i64 0] 44)).alloc (.cells #[.int .i64 x.kind, .int .i64 x.id, .slice none 0 0, .int .i64 0, .int .i64 0] 44)) (w.heap.size + 1) := (bm (by omega) (by simp)).grow _
 have bX : aA w.heap.size #[.int .i64 x.kind, .int .i64 x.id, .slice none 0 0, .int .i64 0, .int .i64 0] 44 (((w.alloc (.cells #[.int .i64 x.kind, .int .i64 x.id, .slice a2 x.vec.length d2, .int .i64 x.aa, .int .i64 x.seq] 31)).alloc (.cells #[.int .i64 0, .int .i64 0, .slice none 0 0, .int .i64 0, .int .i64 0] 44)).alloc (.cells #[.int .i64 x.kind, .int .i64 x.id, .slice none 0 0, .int .i64 0, .int .i64 0] 44)) (w.heap.size + 2) := bm (by omega) (by simp)
 have hz0 : w.heap.size + 3 ≤ (((w.alloc (.cells #[.int .i64 x.kind, .int .i64 x.id, .slice a2 x.vec.length d2, .int .i64 x.aa, .int .i64 x.seq] 31)).alloc (.cells #[.int .i64 0, .int .i64 0, .slice none 0 0, .int .i64 0, .int .i64 0] 44)).alloc (.cells #[.int .i64 x.kind, .int .i64 x.id, .slice none 0 0, .int .i64 0, .int .i64 0] 44)).heap.size := by simp
 go_enter Tryz.func11, Tryz.ntmps11
 go_wp2_with fail
 generalize ((w.alloc (.cells #[.int .i64 x.kind, .int .i64 x.id, .slice a2 x.vec.length d2, .int .i64 x.aa, .int .i64 x.seq] 31)).alloc (.cells #[.int .i64 0, .int .i64 0, .slice none 0 0, .int .i64 0, .int .i64 0] 44)).alloc (.cells #[.int .i64 x.kind, .int .i64 x.id, .slice none 0 0, .int .i64 0, .int .i64 0] 44) = W0 at *
 replace R2 := R2.later HB0
 refine (gz _ x.vec W0 R2 (by omega)).mono ?_
 rintro e w1 ⟨v2, rfl, O2, hb⟩
 have Z0 : W0.heap.size ≤ w1.heap.size := hb.size
 replace HB0 := HB0.trans (hb.mono HB0.size)
 replace bA := bA.ai hb
 replace bR := bR.ai hb
 replace bX := bX.ai hb
 clear hb R2
 obtain ⟨a2z, d2z, rfl⟩ := aI O2.reads
 have p3 := bA.at 3 _ rfl
 have p4 := bA.at 4 _ rfl
 have q0 := bX.at 0 _ rfl
 have q1 := bX.at 1 _ rfl
 have q2 := bX.at 2 _ rfl
 have q3 := bX.at 3 _ rfl
 have q4 := bX.at 4 _ rfl
 have qf := bX.soft
 have ql := bX.lt
 have pl := bA.lt
 have r0 := bR.at 0 _ rfl
 have r1 := bR.at 1 _ rfl
 have r2 := bR.at 2 _ rfl
 have r3 := bR.at 3 _ rfl
 have r4 := bR.at 4 _ rfl
 have rf := bR.soft
 have rl := bR.lt
 simp only [ga, gb, gc] at p3 p4 q0 q1 q2 q3 q4 r0 r1 r2 r3 r4
 have hA := yh bA
 have hR := yh bR
 have hX := yh bX
 have hB := yh HB0
 clear bA bR bX HB0
 have hO2 := yh O2
 clear O2
 go_wp2_with fail
 refine bodyPost_ret (v := .agg #[.int .i64 x.kind, .int .i64 x.id, .slice a2z x.vec.length d2z, .int .i64 x.aa, .int .i64 x.seq]) (by simp [results, Tryz.results11, go_sem, r0, r1, r2, r3, r4]) rfl ?_
 have E : Ext (fun q => q = w.heap.size + 2 ∨ q = w.heap.size + 1) w1 _ := cH (cH (Ext.refl _ _) (w.heap.size + 2) [(2, .slice a2z x.vec.length d2z), (3, .int .i64 x.aa), (4, .int .i64 x.seq)] (Or.inl rfl)) (w.heap.size + 1) [(0, .int .i64 x.kind), (1, .int .i64 x.id), (2, .slice a2z x.vec.length d2z), (3, .int .i64 x.aa), (4, .int .i64 x.seq)] (Or.inr rfl)
 obtain ⟨f0, f1, f3, f4⟩ := uh HF
 have own : ab.ag.aN _ [.int .i64 x.kind, .int .i64 x.id, .slice a2z x.vec.length d2z, .int .i64 x.aa, .int .i64 x.seq] x w.heap.size w1.heap.size := (ab.ba (ab.bJ (lo := w.heap.size) (hi := w.heap.size) f0) (ab.ba (ab.bJ (lo := w.heap.size) (hi := w.heap.size) f1) (ab.ba ((uh hO2).ext E (fun k h1 h2 h3 => by omega)) (ab.ba (ab.bJ (lo := w1.heap.size) (hi := w1.heap.size) f3) (ab.bJ (lo := w1.heap.size) (hi := w1.heap.size) f4) (by omega) (by omega) (by omega)) (by omega) (by omega) (by omega)) (by omega) (by omega) (by omega)) (by omega) (by omega) (by omega))
 have hsz := E.size
 have told := ab.gA (w := w) own (by omega) (by omega) ((uh hB).trans (E.below (uh hB).size (fun k h1 h2 => by omega)))
 exact told
theorem ra : (Tryz.prog.info? 44).map (fun i => (i.zero, i.size, decide (i.bytes ≤ 1000))) = some (some (.agg #[.int .i64 0, .int .i64 0, .slice none 0 0, .int .i64 0, .int .i64 0]), 5, true) := by kernel_rfl
theorem rr (v : Value) (xs : List aj) (w : World) (h : (ab.sl ab.ag).Reads w [v] xs) (hn : (ab.sl ab.ag).sz xs ≤ 1048576) :
  Calls Tryz.prog 155 #[v] w fun e w' => ∃ v', e = .returned v' ∧ (ab.sl ab.ag).aN w' [v'] xs w.heap.size w'.heap.size ∧ Below w.heap.size w w' := by
 have hbig := h.et
 obtain ⟨ao, cap, rfl⟩ := aI h
 have hlen : xs.length ≤ 1048576 := Nat.le_trans ab.fX hn
 obtain ⟨i0, hi, hz0, hz1, hz2⟩ : ∃ i, Tryz.prog.info? 44 = some i ∧ i.zero = some (.agg #[.int .i64 0, .int .i64 0, .slice none 0 0, .int .i64 0, .int .i64 0]) ∧ i.size = 5 ∧ i.bytes ≤ 1000 := by
  have := ra
  cases hq : Tryz.prog.info? 44 with
  | none => rw [hq] at this; simp at this
  | some i =>
   rw [hq] at this
   simp only [Option.map_some, Option.some.injEq, Prod.mk.injEq, decide_eq_true_eq] at this
   exact ⟨i, rfl, this.1, this.2.1, this.2.2⟩
 have H := yh h
 have HN := yh hn
 clear h hn
 go_enter Tryz.func155, Tryz.ntmps155
 go_wp2_with (at_make; refine wpList_make_full _ rfl _ _ 61 rfl w.heap.size 44 i0 _ 5 Tryz.underlying61 hi hz0 hz1 _ _ _ _ xs.length rfl rfl rfl rfl ?c1 ?c2 ?c3 ?_)
 case c1 => have := Nat.mul_le_mul hz2 hlen; omega
 case c2 => unfold maxLen; omega
 case c3 => exact Nat.le_refl _
 intro w1 hown1 hgrow1
 have hB1 : Below w.heap.size w w1 := (Below.refl _ _).grown hgrow1 (Nat.le_refl _) (by simp)
 clear hgrow1 hi hz0 hz1 hz2
 have HO1 := yh hown1
 have HB1 := yh hB1
 clear hown1 hB1
 go_wp2_with fail
 go_loopw [4] (fun i wr => ∃ (k : Nat) (rows : List (List Value)) (Q : List Value) (hi : Nat), k ≤ xs.length ∧ i = .int .i64 k ∧ wr.ownsRow w.heap.size 44 5 (.slice (some ⟨w.heap.size, 0, none⟩) xs.length xs.length) xs.length (rows.flatten ++ Q) ∧ Q.length = (xs.length - k) * 5 ∧ ab.gj ab.ag wr rows (xs.take k) (w.heap.size + 1) hi ∧ hi ≤ wr.heap.size ∧ w.heap.size < hi ∧ Below w.heap.size w wr) (fun i _ => xs.length - (intOf i).toNat)
 case atStart =>
  have hl := ((uh HO1).lt w.heap.size rfl).2
  exact ⟨0, [], _, w1.heap.size, Nat.zero_le _, rfl, by simpa using uh HO1, by have := (uh HO1).1; simpa using this, ab.ek, Nat.le_refl _, hl, uh HB1⟩
 case round =>
  obtain ⟨k, rows, Q, hi, hk, rfl, hown, hQ, hsub, hhi, hlo, hB⟩ := hrel
  clear HO1 HB1
  by_cases hlt : k < xs.length
  ·
   obtain ⟨b, off, rfl, hbl⟩ := ab.aS (uh H) (by omega)
   obtain ⟨row, hc, hr⟩ := ab.bE (uh H) hlt
   replace hr := hr.later hB
   have hr2 := hr
   obtain ⟨a2, d2, rfl, -⟩ := aM hr2
   have c0 : wr.cell? ⟨b, off + k * 5, none⟩ = some (.int .i64 (xs[k]).kind) := (hB.cell (p := ⟨b, off + k * 5, none⟩) hbl).trans (hc 0 (by decide))
   have c1 : wr.cell? ⟨b, off + k * 5 + 1, none⟩ = some (.int .i64 (xs[k]).id) := (hB.cell (p := ⟨b, off + k * 5 + 1, none⟩) hbl).trans (hc 1 (by decide))
   have c2 : wr.cell? ⟨b, off + k * 5 + 2, none⟩ = some (.slice a2 (xs[k]).vec.length d2) := (hB.cell (p := ⟨b, off + k * 5 + 2, none⟩) hbl).trans (hc 2 (by decide))
   have c3 : wr.cell? ⟨b, off + k * 5 + 3, none⟩ = some (.int .i64 (xs[k]).aa) := (hB.cell (p := ⟨b, off + k * 5 + 3, none⟩) hbl).trans (hc 3 (by decide))
   have c4 : wr.cell? ⟨b, off + k * 5 + 4, none⟩ = some (.int .i64 (xs[k]).seq) := (hB.cell (p := ⟨b, off + k * 5 + 4, none⟩) hbl).trans (hc 4 (by decide))
   have hrl : rows.flatten.length = k * 5 := by have := (ab.eh hsub).1; rw [List.length_take, Nat.min_eq_left hk] at this; exact this
   have hsz := Nat.le_trans (ab.gv (A := ab.ag) hlt) (uh HN)
   have HT : Hid (xs.take (k + 1) = xs.take k ++ [xs[k]]) := List.take_succ_eq_append_getElem hlt
   have HB := yh hB
   have HR := yh hr
   have HO := yh hown
   have HS := yh hsub
   have HQ := yh hQ
   clear hB hr hc hown hsub hQ
   generalize hxk : xs[k] = x at *
   clear hxk
   go_wp2_with fail
   refine (dP _ x wr (uh HR) hsz).mono ?_
   rintro e w2 ⟨cs2, rfl, O, hb⟩
   have o2 := de (uh HO) hb
   replace HS := yh (ab.dK (ab.cC (uh HS) (az hb dz) (fun _ _ _ h => h)) O (by omega) (by omega) (Nat.le_trans hhi hb.size))
   have hb2 := (uh HB).trans (hb.mono (uh HB).size)
   have hz := hb.size
   have orr := O.reads
   obtain ⟨a2z, d2z, rfl, -⟩ := aM orr
   clear hb HR HB HO O c0 c1 c2 c3 c4
   have hQ := uh HQ
   have hl5 : (rows.flatten ++ Q).length = xs.length * 5 := o2.1
   obtain ⟨u0, g0⟩ : ∃ u, w2.cell? ⟨w.heap.size, k * 5, none⟩ = some u := by
    rw [o2.cellAt (k * 5) (by omega)]
    exact gZ (by omega)
   have t0 := o2.frozenAt (k * 5)
   obtain ⟨u1, g1⟩ : ∃ u, w2.cell? ⟨w.heap.size, k * 5 + 1, none⟩ = some u := by
    rw [o2.cellAt (k * 5 + 1) (by omega)]
    exact gZ (by omega)
   have t1 := o2.frozenAt (k * 5 + 1)
   obtain ⟨u2, g2⟩ : ∃ u, w2.cell? ⟨w.heap.size, k * 5 + 2, none⟩ = some u := by
    rw [o2.cellAt (k * 5 + 2) (by omega)]
    exact gZ (by omega)
   have t2 := o2.frozenAt (k * 5 + 2)
   obtain ⟨u3, g3⟩ : ∃ u, w2.cell? ⟨w.heap.size, k * 5 + 3, none⟩ = some u := by
    rw [o2.cellAt (k * 5 + 3) (by omega)]
    exact gZ (by omega)
   have t3 := o2.frozenAt (k * 5 + 3)
   obtain ⟨u4, g4⟩ : ∃ u, w2.cell? ⟨w.heap.size, k * 5 + 4, none⟩ = some u := by
    rw [o2.cellAt (k * 5 + 4) (by omega)]
    exact gZ (by omega)
   have t4 := o2.frozenAt (k * 5 + 4)
   have o3 := di o2 (k * 5) [.int .i64 x.kind, .int .i64 x.id, .slice a2z x.vec.length d2z, .int .i64 x.aa, .int .i64 x.seq]
   rw [show k * 5 = rows.flatten.length from hrl.symm, cY _ _ _ (by rw [hQ]; simp; have : 1 * 5 ≤ (xs.length - k) * 5 := Nat.mul_le_mul_right _ (by omega); omega), hrl] at o3
   have E : Ext (fun q => q = w.heap.size) w2 (aG w2 w.heap.size (k * 5) [.int .i64 x.kind, .int .i64 x.id, .slice a2z x.vec.length d2z, .int .i64 x.aa, .int .i64 x.seq]) := bb _ (Ext.refl _ _) _ _ _ rfl
   replace HS := yh (ab.cC (uh HS) E (fun q h1 h2 h3 => by omega))
   have HB := yh (aB hb2 w.heap.size (k * 5) [.int .i64 x.kind, .int .i64 x.id, .slice a2z x.vec.length d2z, .int .i64 x.aa, .int .i64 x.seq] (Nat.le_refl _))
   have HZ : Hid ((aG w2 w.heap.size (k * 5) [.int .i64 x.kind, .int .i64 x.id, .slice a2z x.vec.length d2z, .int .i64 x.aa, .int .i64 x.seq]).heap.size = w2.heap.size) := bL _ _ _ _
   have HO : Hid ((aG w2 w.heap.size (k * 5) [.int .i64 x.kind, .int .i64 x.id, .slice a2z x.vec.length d2z, .int .i64 x.aa, .int .i64 x.seq]).ownsRow w.heap.size 44 5 (.slice (some ⟨w.heap.size, 0, none⟩) xs.length xs.length) xs.length ((rows ++ [([.int .i64 x.kind, .int .i64 x.id, .slice a2z x.vec.length d2z, .int .i64 x.aa, .int .i64 x.seq] : List Value)]).flatten ++ Q.drop 5)) := by
    show (aG w2 w.heap.size (k * 5) [.int .i64 x.kind, .int .i64 x.id, .slice a2z x.vec.length d2z, .int .i64 x.aa, .int .i64 x.seq]).ownsRow w.heap.size 44 5 (.slice (some ⟨w.heap.size, 0, none⟩) xs.length xs.length) xs.length ((rows ++ [([.int .i64 x.kind, .int .i64 x.id, .slice a2z x.vec.length d2z, .int .i64 x.aa, .int .i64 x.seq] : List Value)]).flatten ++ Q.drop 5)
    rw [List.flatten_append]
    simpa using o3
   have hl2 := (o2.lt w.heap.size rfl).2
   clear o3 o2 E hb2 hl5
   have hQ2 : Hid ((Q.drop 5).length = (xs.length - (k + 1)) * 5) := by
    show (Q.drop 5).length = (xs.length - (k + 1)) * 5
    rw [List.length_drop, hQ, show xs.length - k = xs.length - (k + 1) + 1 by omega, Nat.add_mul]
    omega
   clear hQ HQ
   go_wp2_with fail
   go_roundw
   case rel => exact ⟨k + 1, rows ++ [([.int .i64 x.kind, .int .i64 x.id, .slice a2z x.vec.length d2z, .int .i64 x.aa, .int .i64 x.seq] : List Value)], Q.drop 5, w2.heap.size, by omega, by go_num, uh HO, uh hQ2, (by rw [uh HT]; exact uh HS), Nat.le_of_eq (uh HZ).symm, by omega, uh HB⟩
   case measure => simp [intOf]; omega
  obtain rfl : k = xs.length := by omega
  have e0 : Q = [] := List.eq_nil_of_length_eq_zero (by rw [hQ]; simp)
  subst e0
  rw [List.append_nil] at hown
  rw [List.take_length] at hsub
  have HO := yh (ab.dJ (A := ab.ag) hown hsub (by omega) hhi hbig)
  have HB := yh hB
  clear hown hsub hB
  go_wp2_with fail
  go_ret
  exact ⟨_, rfl, uh HO, uh HB⟩
theorem tP (cs : List Value) (x : aV) (w : World) (h : ab.ax.Reads w cs x) (hn : ab.ax.sz x ≤ 1048576) :
  Calls Tryz.prog 95 #[.agg cs.toArray] w fun e w' => ∃ cs', e = .returned (.agg cs'.toArray) ∧ ab.ax.aN w' cs' x w.heap.size w'.heap.size ∧ Below w.heap.size w w' := by
 have h0 := h
 obtain ⟨bl, hl⟩ := h0
 obtain ⟨-, -, -, -, -, f0, f2, f3, -, f5, f6⟩ := cD.1 hl
 clear hl
 obtain ⟨a4, d4, rfl, R4⟩ := bG h
 clear h
 rw [kB] at hn
 have HF := yh (And.intro f0 (And.intro f2 (And.intro f3 (And.intro f5 (f6)))))
 clear f0 f2 f3 f5 f6
 have HB0 : Below w.heap.size w (((w.alloc (.cells #[.int .i64 x.id, .bool x.up, .int .i64 x.ae, .int .i64 x.au, .slice a4 x.writes.length d4, .int .i64 x.sure, .int .i64 x.clean] 143)).alloc (.cells #[.int .i64 0, .bool false, .int .i64 0, .int .i64 0, .slice none 0 0, .int .i64 0, .int .i64 0] 63)).alloc (.cells #[.int .i64 x.id, .bool x.up, .int .i64 x.ae, .int .i64 x.au, .slice none 0 0, .int .i64 0, .int .i64 0] 63)) := (((Below.refl _ _).alloc (Nat.le_refl _) _).alloc (by simp) _).alloc (by simp; omega) _
 have bA : aA w.heap.size #[.int .i64 x.id, .bool x.up, .int .i64 x.ae, .int .i64 x.au, .slice a4 x.writes.length d4, .int .i64 x.sure, .int .i64 x.clean] 143 (((w.alloc (.cells #[.int .i64 x.id, .bool x.up, .int .i64 x.ae, .int .i64 x.au, .slice a4 x.writes.length d4, .int .i64 x.sure, .int .i64 x.clean] 143)).alloc (.cells #[.int .i64 0, .bool false, .int .i64 0, .int .i64 0, .slice none 0 0, .int .i64 0, .int .i64 0] 63)).alloc (.cells #[.int .i64 x.id, .bool x.up, .int .i64 x.ae, .int .i64 x.au, .slice none 0 0, .int .i64 0, .int .i64 0] 63)) w.heap.size := ((aD (Nat.le_refl _)).grow _).grow _
 have bR : aA w.heap.size #[.int .i64 0, .bool false, .int .i64 0, .int .i64 0, .slice none 0 0, .int .i64 0, .int .i64 0] 63 (((w.alloc (.cells #[.int .i64 x.id, .bool x.up, .int .i64 x.ae, .int .i64 x.au, .slice a4 x.writes.length d4, .int .i64 x.sure, .int .i64 x.clean] 143)).alloc (.cells #[.int .i64 0, .bool false, .int .i64 0, .int .i64 0, .slice none 0 0, .int .i64 0, .int .i64 0] 63)).alloc (.cells #[.int .i64 x.id, .bool x.up, .int .i64 x.ae, .int .i64 x.au, .slice none 0 0, .int .i64 0, .int .i64 0] 63)) (w.heap.size + 1) := (bm (by omega) (by simp)).grow _
 have bX : aA w.heap.size #[.int .i64 x.id, .bool x.up, .int .i64 x.ae, .int .i64 x.au, .slice none 0 0, .int .i64 0, .int .i64 0] 63 (((w.alloc (.cells #[.int .i64 x.id, .bool x.up, .int .i64 x.ae, .int .i64 x.au, .slice a4 x.writes.length d4, .int .i64 x.sure, .int .i64 x.clean] 143)).alloc (.cells #[.int .i64 0, .bool false, .int .i64 0, .int .i64 0, .slice none 0 0, .int .i64 0, .int .i64 0] 63)).alloc (.cells #[.int .i64 x.id, .bool x.up, .int .i64 x.ae, .int .i64 x.au, .slice none 0 0, .int .i64 0, .int .i64 0] 63)) (w.heap.size + 2) := bm (by omega) (by simp)
 have hz0 : w.heap.size + 3 ≤ (((w.alloc (.cells #[.int .i64 x.id, .bool x.up, .int .i64 x.ae, .int .i64 x.au, .slice a4 x.writes.length d4, .int .i64 x.sure, .int .i64 x.clean] 143)).alloc (.cells #[.int .i64 0, .bool false, .int .i64 0, .int .i64 0, .slice none 0 0, .int .i64 0, .int .i64 0] 63)).alloc (.cells #[.int .i64 x.id, .bool x.up, .int .i64 x.ae, .int .i64 x.au, .slice none 0 0, .int .i64 0, .int .i64 0] 63)).heap.size := by simp
 go_enter Tryz.func95, Tryz.ntmps95
 go_wp2_with fail
 generalize ((w.alloc (.cells #[.int .i64 x.id, .bool x.up, .int .i64 x.ae, .int .i64 x.au, .slice a4 x.writes.length d4, .int .i64 x.sure, .int .i64 x.clean] 143)).alloc (.cells #[.int .i64 0, .bool false, .int .i64 0, .int .i64 0, .slice none 0 0, .int .i64 0, .int .i64 0] 63)).alloc (.cells #[.int .i64 x.id, .bool x.up, .int .i64 x.ae, .int .i64 x.au, .slice none 0 0, .int .i64 0, .int .i64 0] 63) = W0 at *
 replace R4 := R4.later HB0
 refine (rr _ x.writes W0 R4 (by omega)).mono ?_
 rintro e w1 ⟨v4, rfl, O4, hb⟩
 have Z0 : W0.heap.size ≤ w1.heap.size := hb.size
 replace HB0 := HB0.trans (hb.mono HB0.size)
 replace bA := bA.ai hb
 replace bR := bR.ai hb
 replace bX := bX.ai hb
 clear hb R4
 obtain ⟨a4z, d4z, rfl⟩ := aI O4.reads
 have p5 := bA.at 5 _ rfl
 have p6 := bA.at 6 _ rfl
 have q0 := bX.at 0 _ rfl
 have q1 := bX.at 1 _ rfl
 have q2 := bX.at 2 _ rfl
 have q3 := bX.at 3 _ rfl
 have q4 := bX.at 4 _ rfl
 have q5 := bX.at 5 _ rfl
 have q6 := bX.at 6 _ rfl
 have qf := bX.soft
 have ql := bX.lt
 have pl := bA.lt
 have r0 := bR.at 0 _ rfl
 have r1 := bR.at 1 _ rfl
 have r2 := bR.at 2 _ rfl
 have r3 := bR.at 3 _ rfl
 have r4 := bR.at 4 _ rfl
 have r5 := bR.at 5 _ rfl
 have r6 := bR.at 6 _ rfl
 have rf := bR.soft
 have rl := bR.lt
 simp only [ga, gb, gc] at p5 p6 q0 q1 q2 q3 q4 q5 q6 r0 r1 r2 r3 r4 r5 r6
 have hA := yh bA
 have hR := yh bR
 have hX := yh bX
 have hB := yh HB0
 clear bA bR bX HB0
 have hO4 := yh O4
 clear O4
 go_wp2_with fail
 refine bodyPost_ret (v := .agg #[.int .i64 x.id, .bool x.up, .int .i64 x.ae, .int .i64 x.au, .slice a4z x.writes.length d4z, .int .i64 x.sure, .int .i64 x.clean]) (by simp [results, Tryz.results95, go_sem, r0, r1, r2, r3, r4, r5, r6]) rfl ?_
 have E : Ext (fun q => q = w.heap.size + 2 ∨ q = w.heap.size + 1) w1 _ := cH (cH (Ext.refl _ _) (w.heap.size + 2) [(4, .slice a4z x.writes.length d4z), (5, .int .i64 x.sure), (6, .int .i64 x.clean)] (Or.inl rfl)) (w.heap.size + 1) [(0, .int .i64 x.id), (1, .bool x.up), (2, .int .i64 x.ae), (3, .int .i64 x.au), (4, .slice a4z x.writes.length d4z), (5, .int .i64 x.sure), (6, .int .i64 x.clean)] (Or.inr rfl)
 obtain ⟨f0, f2, f3, f5, f6⟩ := uh HF
 have own : ab.ax.aN _ [.int .i64 x.id, .bool x.up, .int .i64 x.ae, .int .i64 x.au, .slice a4z x.writes.length d4z, .int .i64 x.sure, .int .i64 x.clean] x w.heap.size w1.heap.size := (ab.ba (ab.bJ (lo := w.heap.size) (hi := w.heap.size) f0) (ab.ba (ab.pk (lo := w.heap.size) (hi := w.heap.size)) (ab.ba (ab.bJ (lo := w.heap.size) (hi := w.heap.size) f2) (ab.ba (ab.bJ (lo := w.heap.size) (hi := w.heap.size) f3) (ab.ba ((uh hO4).ext E (fun k h1 h2 h3 => by omega)) (ab.ba (ab.bJ (lo := w1.heap.size) (hi := w1.heap.size) f5) (ab.bJ (lo := w1.heap.size) (hi := w1.heap.size) f6) (by omega) (by omega) (by omega)) (by omega) (by omega) (by omega)) (by omega) (by omega) (by omega)) (by omega) (by omega) (by omega)) (by omega) (by omega) (by omega)) (by omega) (by omega) (by omega))
 have hsz := E.size
 have told := ab.gA (w := w) own (by omega) (by omega) ((uh hB).trans (E.below (uh hB).size (fun k h1 h2 => by omega)))
 exact told
theorem sv : (Tryz.prog.info? 63).map (fun i => (i.zero, i.size, decide (i.bytes ≤ 1000))) = some (some (.agg #[.int .i64 0, .bool false, .int .i64 0, .int .i64 0, .slice none 0 0, .int .i64 0, .int .i64 0]), 7, true) := by kernel_rfl
theorem tj (v : Value) (xs : List aV) (w : World) (h : (ab.sl ab.ax).Reads w [v] xs) (hn : (ab.sl ab.ax).sz xs ≤ 1048576) :
  Calls Tryz.prog 41 #[v] w fun e w' => ∃ v', e = .returned v' ∧ (ab.sl ab.ax).aN w' [v'] xs w.heap.size w'.heap.size ∧ Below w.heap.size w w' := by
 have hbig := h.et
 obtain ⟨ao, cap, rfl⟩ := aI h
 have hlen : xs.length ≤ 1048576 := Nat.le_trans ab.fX hn
 obtain ⟨i0, hi, hz0, hz1, hz2⟩ : ∃ i, Tryz.prog.info? 63 = some i ∧ i.zero = some (.agg #[.int .i64 0, .bool false, .int .i64 0, .int .i64 0, .slice none 0 0, .int .i64 0, .int .i64 0]) ∧ i.size = 7 ∧ i.bytes ≤ 1000 := by
  have := sv
  cases hq : Tryz.prog.info? 63 with
  | none => rw [hq] at this; simp at this
  | some i =>
   rw [hq] at this
   simp only [Option.map_some, Option.some.injEq, Prod.mk.injEq, decide_eq_true_eq] at this
   exact ⟨i, rfl, this.1, this.2.1, this.2.2⟩
 have H := yh h
 have HN := yh hn
 clear h hn
 go_enter Tryz.func41, Tryz.ntmps41
 go_wp2_with (at_make; refine wpList_make_full _ rfl _ _ 35 rfl w.heap.size 63 i0 _ 7 Tryz.underlying35 hi hz0 hz1 _ _ _ _ xs.length rfl rfl rfl rfl ?c1 ?c2 ?c3 ?_)
 case c1 => have := Nat.mul_le_mul hz2 hlen; omega
 case c2 => unfold maxLen; omega
 case c3 => exact Nat.le_refl _
 intro w1 hown1 hgrow1
 have hB1 : Below w.heap.size w w1 := (Below.refl _ _).grown hgrow1 (Nat.le_refl _) (by simp)
 clear hgrow1 hi hz0 hz1 hz2
 have HO1 := yh hown1
 have HB1 := yh hB1
 clear hown1 hB1
 go_wp2_with fail
 go_loopw [4] (fun i wr => ∃ (k : Nat) (rows : List (List Value)) (Q : List Value) (hi : Nat), k ≤ xs.length ∧ i = .int .i64 k ∧ wr.ownsRow w.heap.size 63 7 (.slice (some ⟨w.heap.size, 0, none⟩) xs.length xs.length) xs.length (rows.flatten ++ Q) ∧ Q.length = (xs.length - k) * 7 ∧ ab.gj ab.ax wr rows (xs.take k) (w.heap.size + 1) hi ∧ hi ≤ wr.heap.size ∧ w.heap.size < hi ∧ Below w.heap.size w wr) (fun i _ => xs.length - (intOf i).toNat)
 case atStart =>
  have hl := ((uh HO1).lt w.heap.size rfl).2
  exact ⟨0, [], _, w1.heap.size, Nat.zero_le _, rfl, by simpa using uh HO1, by have := (uh HO1).1; simpa using this, ab.ek, Nat.le_refl _, hl, uh HB1⟩
 case round =>
  obtain ⟨k, rows, Q, hi, hk, rfl, hown, hQ, hsub, hhi, hlo, hB⟩ := hrel
  clear HO1 HB1
  by_cases hlt : k < xs.length
  ·
   obtain ⟨b, off, rfl, hbl⟩ := ab.aS (uh H) (by omega)
   obtain ⟨row, hc, hr⟩ := ab.bE (uh H) hlt
   replace hr := hr.later hB
   have hr2 := hr
   obtain ⟨a4, d4, rfl, -⟩ := bG hr2
   have c0 : wr.cell? ⟨b, off + k * 7, none⟩ = some (.int .i64 (xs[k]).id) := (hB.cell (p := ⟨b, off + k * 7, none⟩) hbl).trans (hc 0 (by decide))
   have c1 : wr.cell? ⟨b, off + k * 7 + 1, none⟩ = some (.bool (xs[k]).up) := (hB.cell (p := ⟨b, off + k * 7 + 1, none⟩) hbl).trans (hc 1 (by decide))
   have c2 : wr.cell? ⟨b, off + k * 7 + 2, none⟩ = some (.int .i64 (xs[k]).ae) := (hB.cell (p := ⟨b, off + k * 7 + 2, none⟩) hbl).trans (hc 2 (by decide))
   have c3 : wr.cell? ⟨b, off + k * 7 + 3, none⟩ = some (.int .i64 (xs[k]).au) := (hB.cell (p := ⟨b, off + k * 7 + 3, none⟩) hbl).trans (hc 3 (by decide))
   have c4 : wr.cell? ⟨b, off + k * 7 + 4, none⟩ = some (.slice a4 (xs[k]).writes.length d4) := (hB.cell (p := ⟨b, off + k * 7 + 4, none⟩) hbl).trans (hc 4 (by decide))
   have c5 : wr.cell? ⟨b, off + k * 7 + 5, none⟩ = some (.int .i64 (xs[k]).sure) := (hB.cell (p := ⟨b, off + k * 7 + 5, none⟩) hbl).trans (hc 5 (by decide))
   have c6 : wr.cell? ⟨b, off + k * 7 + 6, none⟩ = some (.int .i64 (xs[k]).clean) := (hB.cell (p := ⟨b, off + k * 7 + 6, none⟩) hbl).trans (hc 6 (by decide))
   have hrl : rows.flatten.length = k * 7 := by have := (ab.eh hsub).1; rw [List.length_take, Nat.min_eq_left hk] at this; exact this
   have hsz := Nat.le_trans (ab.gv (A := ab.ax) hlt) (uh HN)
   have HT : Hid (xs.take (k + 1) = xs.take k ++ [xs[k]]) := List.take_succ_eq_append_getElem hlt
   have HB := yh hB
   have HR := yh hr
   have HO := yh hown
   have HS := yh hsub
   have HQ := yh hQ
   clear hB hr hc hown hsub hQ
   generalize hxk : xs[k] = x at *
   clear hxk
   go_wp2_with fail
   refine (tP _ x wr (uh HR) hsz).mono ?_
   rintro e w2 ⟨cs2, rfl, O, hb⟩
   have o2 := de (uh HO) hb
   replace HS := yh (ab.dK (ab.cC (uh HS) (az hb dz) (fun _ _ _ h => h)) O (by omega) (by omega) (Nat.le_trans hhi hb.size))
   have hb2 := (uh HB).trans (hb.mono (uh HB).size)
   have hz := hb.size
   have orr := O.reads
   obtain ⟨a4z, d4z, rfl, -⟩ := bG orr
   clear hb HR HB HO O c0 c1 c2 c3 c4 c5 c6
   have hQ := uh HQ
   have hl5 : (rows.flatten ++ Q).length = xs.length * 7 := o2.1
   obtain ⟨u0, g0⟩ : ∃ u, w2.cell? ⟨w.heap.size, k * 7, none⟩ = some u := by
    rw [o2.cellAt (k * 7) (by omega)]
    exact gZ (by omega)
   have t0 := o2.frozenAt (k * 7)
   obtain ⟨u1, g1⟩ : ∃ u, w2.cell? ⟨w.heap.size, k * 7 + 1, none⟩ = some u := by
    rw [o2.cellAt (k * 7 + 1) (by omega)]
    exact gZ (by omega)
   have t1 := o2.frozenAt (k * 7 + 1)
   obtain ⟨u2, g2⟩ : ∃ u, w2.cell? ⟨w.heap.size, k * 7 + 2, none⟩ = some u := by
    rw [o2.cellAt (k * 7 + 2) (by omega)]
    exact gZ (by omega)
   have t2 := o2.frozenAt (k * 7 + 2)
   obtain ⟨u3, g3⟩ : ∃ u, w2.cell? ⟨w.heap.size, k * 7 + 3, none⟩ = some u := by
    rw [o2.cellAt (k * 7 + 3) (by omega)]
    exact gZ (by omega)
   have t3 := o2.frozenAt (k * 7 + 3)
   obtain ⟨u4, g4⟩ : ∃ u, w2.cell? ⟨w.heap.size, k * 7 + 4, none⟩ = some u := by
    rw [o2.cellAt (k * 7 + 4) (by omega)]
    exact gZ (by omega)
   have t4 := o2.frozenAt (k * 7 + 4)
   obtain ⟨u5, g5⟩ : ∃ u, w2.cell? ⟨w.heap.size, k * 7 + 5, none⟩ = some u := by
    rw [o2.cellAt (k * 7 + 5) (by omega)]
    exact gZ (by omega)
   have t5 := o2.frozenAt (k * 7 + 5)
   obtain ⟨u6, g6⟩ : ∃ u, w2.cell? ⟨w.heap.size, k * 7 + 6, none⟩ = some u := by
    rw [o2.cellAt (k * 7 + 6) (by omega)]
    exact gZ (by omega)
   have t6 := o2.frozenAt (k * 7 + 6)
   have o3 := di o2 (k * 7) [.int .i64 x.id, .bool x.up, .int .i64 x.ae, .int .i64 x.au, .slice a4z x.writes.length d4z, .int .i64 x.sure, .int .i64 x.clean]
   rw [show k * 7 = rows.flatten.length from hrl.symm, cY _ _ _ (by rw [hQ]; simp; have : 1 * 7 ≤ (xs.length - k) * 7 := Nat.mul_le_mul_right _ (by omega); omega), hrl] at o3
   have E : Ext (fun q => q = w.heap.size) w2 (aG w2 w.heap.size (k * 7) [.int .i64 x.id, .bool x.up, .int .i64 x.ae, .int .i64 x.au, .slice a4z x.writes.length d4z, .int .i64 x.sure, .int .i64 x.clean]) := bb _ (Ext.refl _ _) _ _ _ rfl
   replace HS := yh (ab.cC (uh HS) E (fun q h1 h2 h3 => by omega))
   have HB := yh (aB hb2 w.heap.size (k * 7) [.int .i64 x.id, .bool x.up, .int .i64 x.ae, .int .i64 x.au, .slice a4z x.writes.length d4z, .int .i64 x.sure, .int .i64 x.clean] (Nat.le_refl _))
   have HZ : Hid ((aG w2 w.heap.size (k * 7) [.int .i64 x.id, .bool x.up, .int .i64 x.ae, .int .i64 x.au, .slice a4z x.writes.length d4z, .int .i64 x.sure, .int .i64 x.clean]).heap.size = w2.heap.size) := bL _ _ _ _
   have HO : Hid ((aG w2 w.heap.size (k * 7) [.int .i64 x.id, .bool x.up, .int .i64 x.ae, .int .i64 x.au, .slice a4z x.writes.length d4z, .int .i64 x.sure, .int .i64 x.clean]).ownsRow w.heap.size 63 7 (.slice (some ⟨w.heap.size, 0, none⟩) xs.length xs.length) xs.length ((rows ++ [([.int .i64 x.id, .bool x.up, .int .i64 x.ae, .int .i64 x.au, .slice a4z x.writes.length d4z, .int .i64 x.sure, .int .i64 x.clean] : List Value)]).flatten ++ Q.drop 7)) := by
    show (aG w2 w.heap.size (k * 7) [.int .i64 x.id, .bool x.up, .int .i64 x.ae, .int .i64 x.au, .slice a4z x.writes.length d4z, .int .i64 x.sure, .int .i64 x.clean]).ownsRow w.heap.size 63 7 (.slice (some ⟨w.heap.size, 0, none⟩) xs.length xs.length) xs.length ((rows ++ [([.int .i64 x.id, .bool x.up, .int .i64 x.ae, .int .i64 x.au, .slice a4z x.writes.length d4z, .int .i64 x.sure, .int .i64 x.clean] : List Value)]).flatten ++ Q.drop 7)
    rw [List.flatten_append]
    simpa using o3
   have hl2 := (o2.lt w.heap.size rfl).2
   clear o3 o2 E hb2 hl5
   have hQ2 : Hid ((Q.drop 7).length = (xs.length - (k + 1)) * 7) := by
    show (Q.drop 7).length = (xs.length - (k + 1)) * 7
    rw [List.length_drop, hQ, show xs.length - k = xs.length - (k + 1) + 1 by omega, Nat.add_mul]
    omega
   clear hQ HQ
   go_wp2_with fail
   go_roundw
   case rel => exact ⟨k + 1, rows ++ [([.int .i64 x.id, .bool x.up, .int .i64 x.ae, .int .i64 x.au, .slice a4z x.writes.length d4z, .int .i64 x.sure, .int .i64 x.clean] : List Value)], Q.drop 7, w2.heap.size, by omega, by go_num, uh HO, uh hQ2, (by rw [uh HT]; exact uh HS), Nat.le_of_eq (uh HZ).symm, by omega, uh HB⟩
   case measure => simp [intOf]; omega
  obtain rfl : k = xs.length := by omega
  have e0 : Q = [] := List.eq_nil_of_length_eq_zero (by rw [hQ]; simp)
  subst e0
  rw [List.append_nil] at hown
  rw [List.take_length] at hsub
  have HO := yh (ab.dJ (A := ab.ax) hown hsub (by omega) hhi hbig)
  have HB := yh hB
  clear hown hsub hB
  go_wp2_with fail
  go_ret
  exact ⟨_, rfl, uh HO, uh HB⟩
theorem vn (cs : List Value) (x : bP) (w : World) (h : ab.aQ.Reads w cs x) (hn : ab.aQ.sz x ≤ 1048576) :
  Calls Tryz.prog 96 #[.agg cs.toArray] w fun e w' => ∃ cs', e = .returned (.agg cs'.toArray) ∧ ab.aQ.aN w' cs' x w.heap.size w'.heap.size ∧ Below w.heap.size w w' := by
 have h0 := h
 obtain ⟨bl, hl⟩ := h0
 obtain ⟨-, -, -, -, -, f0, f1, f2, f3, f4, f5, f6, -, f8, f9⟩ := eC.1 hl
 clear hl
 obtain ⟨a7, d7, rfl, R5⟩ := cN h
 clear h
 rw [ld] at hn
 have HF := yh (And.intro f0 (And.intro f1 (And.intro f2 (And.intro f3 (And.intro f4 (And.intro f5 (And.intro f6 (And.intro f8 (f9)))))))))
 clear f0 f1 f2 f3 f4 f5 f6 f8 f9
 have HB0 : Below w.heap.size w (((w.alloc (.cells #[.int .i64 x.kind, .int .i64 x.ae, .int .i64 x.src, .int .i64 x.dst, .int .i64 x.index, .int .i64 x.write.kind, .int .i64 x.write.id, .slice a7 x.write.vec.length d7, .int .i64 x.write.aa, .int .i64 x.write.seq] 146)).alloc (.cells #[.int .i64 0, .int .i64 0, .int .i64 0, .int .i64 0, .int .i64 0, .int .i64 0, .int .i64 0, .slice none 0 0, .int .i64 0, .int .i64 0] 60)).alloc (.cells #[.int .i64 x.kind, .int .i64 x.ae, .int .i64 x.src, .int .i64 x.dst, .int .i64 x.index, .int .i64 0, .int .i64 0, .slice none 0 0, .int .i64 0, .int .i64 0] 60)) := (((Below.refl _ _).alloc (Nat.le_refl _) _).alloc (by simp) _).alloc (by simp; omega) _
 have bA : aA w.heap.size #[.int .i64 x.kind, .int .i64 x.ae, .int .i64 x.src, .int .i64 x.dst, .int .i64 x.index, .int .i64 x.write.kind, .int .i64 x.write.id, .slice a7 x.write.vec.length d7, .int .i64 x.write.aa, .int .i64 x.write.seq] 146 (((w.alloc (.cells #[.int .i64 x.kind, .int .i64 x.ae, .int .i64 x.src, .int .i64 x.dst, .int .i64 x.index, .int .i64 x.write.kind, .int .i64 x.write.id, .slice a7 x.write.vec.length d7, .int .i64 x.write.aa, .int .i64 x.write.seq] 146)).alloc (.cells #[.int .i64 0, .int .i64 0, .int .i64 0, .int .i64 0, .int .i64 0, .int .i64 0, .int .i64 0, .slice none 0 0, .int .i64 0, .int .i64 0] 60)).alloc (.cells #[.int .i64 x.kind, .int .i64 x.ae, .int .i64 x.src, .int .i64 x.dst, .int .i64 x.index, .int .i64 0, .int .i64 0, .slice none 0 0, .int .i64 0, .int .i64 0] 60)) w.heap.size := ((aD (Nat.le_refl _)).grow _).grow _
 have bR : aA w.heap.size #[.int .i64 0, .int .i64 0, .int .i64 0, .int .i64 0, .int .i64 0, .int .i64 0, .int .i64 0, .slice none 0 0, .int .i64 0, .int .i64 0] 60 (((w.alloc (.cells #[.int .i64 x.kind, .int .i64 x.ae, .int .i64 x.src, .int .i64 x.dst, .int .i64 x.index, .int .i64 x.write.kind, .int .i64 x.write.id, .slice a7 x.write.vec.length d7, .int .i64 x.write.aa, .int .i64 x.write.seq] 146)).alloc (.cells #[.int .i64 0, .int .i64 0, .int .i64 0, .int .i64 0, .int .i64 0, .int .i64 0, .int .i64 0, .slice none 0 0, .int .i64 0, .int .i64 0] 60)).alloc (.cells #[.int .i64 x.kind, .int .i64 x.ae, .int .i64 x.src, .int .i64 x.dst, .int .i64 x.index, .int .i64 0, .int .i64 0, .slice none 0 0, .int .i64 0, .int .i64 0] 60)) (w.heap.size + 1) := (bm (by omega) (by simp)).grow _
 have bX : aA w.heap.size #[.int .i64 x.kind, .int .i64 x.ae, .int .i64 x.src, .int .i64 x.dst, .int .i64 x.index, .int .i64 0, .int .i64 0, .slice none 0 0, .int .i64 0, .int .i64 0] 60 (((w.alloc (.cells #[.int .i64 x.kind, .int .i64 x.ae, .int .i64 x.src, .int .i64 x.dst, .int .i64 x.index, .int .i64 x.write.kind, .int .i64 x.write.id, .slice a7 x.write.vec.length d7, .int .i64 x.write.aa, .int .i64 x.write.seq] 146)).alloc (.cells #[.int .i64 0, .int .i64 0, .int .i64 0, .int .i64 0, .int .i64 0, .int .i64 0, .int .i64 0, .slice none 0 0, .int .i64 0, .int .i64 0] 60)).alloc (.cells #[.int .i64 x.kind, .int .i64 x.ae, .int .i64 x.src, .int .i64 x.dst, .int .i64 x.index, .int .i64 0, .int .i64 0, .slice none 0 0, .int .i64 0, .int .i64 0] 60)) (w.heap.size + 2) := bm (by omega) (by simp)
 have hz0 : w.heap.size + 3 ≤ (((w.alloc (.cells #[.int .i64 x.kind, .int .i64 x.ae, .int .i64 x.src, .int .i64 x.dst, .int .i64 x.index, .int .i64 x.write.kind, .int .i64 x.write.id, .slice a7 x.write.vec.length d7, .int .i64 x.write.aa, .int .i64 x.write.seq] 146)).alloc (.cells #[.int .i64 0, .int .i64 0, .int .i64 0, .int .i64 0, .int .i64 0, .int .i64 0, .int .i64 0, .slice none 0 0, .int .i64 0, .int .i64 0] 60)).alloc (.cells #[.int .i64 x.kind, .int .i64 x.ae, .int .i64 x.src, .int .i64 x.dst, .int .i64 x.index, .int .i64 0, .int .i64 0, .slice none 0 0, .int .i64 0, .int .i64 0] 60)).heap.size := by simp
 go_enter Tryz.func96, Tryz.ntmps96
 go_wp2_with fail
 generalize ((w.alloc (.cells #[.int .i64 x.kind, .int .i64 x.ae, .int .i64 x.src, .int .i64 x.dst, .int .i64 x.index, .int .i64 x.write.kind, .int .i64 x.write.id, .slice a7 x.write.vec.length d7, .int .i64 x.write.aa, .int .i64 x.write.seq] 146)).alloc (.cells #[.int .i64 0, .int .i64 0, .int .i64 0, .int .i64 0, .int .i64 0, .int .i64 0, .int .i64 0, .slice none 0 0, .int .i64 0, .int .i64 0] 60)).alloc (.cells #[.int .i64 x.kind, .int .i64 x.ae, .int .i64 x.src, .int .i64 x.dst, .int .i64 x.index, .int .i64 0, .int .i64 0, .slice none 0 0, .int .i64 0, .int .i64 0] 60) = W0 at *
 replace R5 := R5.later HB0
 refine (dP _ x.write W0 R5 (by omega)).mono ?_
 rintro e w1 ⟨v5, rfl, O5, hb⟩
 have Z0 : W0.heap.size ≤ w1.heap.size := hb.size
 replace HB0 := HB0.trans (hb.mono HB0.size)
 replace bA := bA.ai hb
 replace bR := bR.ai hb
 replace bX := bX.ai hb
 clear hb R5
 obtain ⟨a7z, d7z, rfl, -⟩ := aM O5.reads
 have q0 := bX.at 0 _ rfl
 have q1 := bX.at 1 _ rfl
 have q2 := bX.at 2 _ rfl
 have q3 := bX.at 3 _ rfl
 have q4 := bX.at 4 _ rfl
 have q5 := bX.at 5 _ rfl
 have q6 := bX.at 6 _ rfl
 have q7 := bX.at 7 _ rfl
 have q8 := bX.at 8 _ rfl
 have q9 := bX.at 9 _ rfl
 have qf := bX.soft
 have ql := bX.lt
 have pl := bA.lt
 have r0 := bR.at 0 _ rfl
 have r1 := bR.at 1 _ rfl
 have r2 := bR.at 2 _ rfl
 have r3 := bR.at 3 _ rfl
 have r4 := bR.at 4 _ rfl
 have r5 := bR.at 5 _ rfl
 have r6 := bR.at 6 _ rfl
 have r7 := bR.at 7 _ rfl
 have r8 := bR.at 8 _ rfl
 have r9 := bR.at 9 _ rfl
 have rf := bR.soft
 have rl := bR.lt
 simp only [ga, gb, gc] at q0 q1 q2 q3 q4 q5 q6 q7 q8 q9 r0 r1 r2 r3 r4 r5 r6 r7 r8 r9
 have hA := yh bA
 have hR := yh bR
 have hX := yh bX
 have hB := yh HB0
 clear bA bR bX HB0
 have hO5 := yh O5
 clear O5
 go_wp2_with fail
 refine bodyPost_ret (v := .agg #[.int .i64 x.kind, .int .i64 x.ae, .int .i64 x.src, .int .i64 x.dst, .int .i64 x.index, .int .i64 x.write.kind, .int .i64 x.write.id, .slice a7z x.write.vec.length d7z, .int .i64 x.write.aa, .int .i64 x.write.seq]) (by simp [results, Tryz.results96, go_sem, r0, r1, r2, r3, r4, r5, r6, r7, r8, r9]) rfl ?_
 have E : Ext (fun q => q = w.heap.size + 2 ∨ q = w.heap.size + 1) w1 _ := cH (cH (Ext.refl _ _) (w.heap.size + 2) [(5, .int .i64 x.write.kind), (6, .int .i64 x.write.id), (7, .slice a7z x.write.vec.length d7z), (8, .int .i64 x.write.aa), (9, .int .i64 x.write.seq)] (Or.inl rfl)) (w.heap.size + 1) [(0, .int .i64 x.kind), (1, .int .i64 x.ae), (2, .int .i64 x.src), (3, .int .i64 x.dst), (4, .int .i64 x.index), (5, .int .i64 x.write.kind), (6, .int .i64 x.write.id), (7, .slice a7z x.write.vec.length d7z), (8, .int .i64 x.write.aa), (9, .int .i64 x.write.seq)] (Or.inr rfl)
 obtain ⟨f0, f1, f2, f3, f4, f5, f6, f8, f9⟩ := uh HF
 have own : ab.aQ.aN _ [.int .i64 x.kind, .int .i64 x.ae, .int .i64 x.src, .int .i64 x.dst, .int .i64 x.index, .int .i64 x.write.kind, .int .i64 x.write.id, .slice a7z x.write.vec.length d7z, .int .i64 x.write.aa, .int .i64 x.write.seq] x w.heap.size w1.heap.size := (ab.ba (ab.bJ (lo := w.heap.size) (hi := w.heap.size) f0) (ab.ba (ab.bJ (lo := w.heap.size) (hi := w.heap.size) f1) (ab.ba (ab.bJ (lo := w.heap.size) (hi := w.heap.size) f2) (ab.ba (ab.bJ (lo := w.heap.size) (hi := w.heap.size) f3) (ab.ba (ab.bJ (lo := w.heap.size) (hi := w.heap.size) f4) ((uh hO5).ext E (fun k h1 h2 h3 => by omega)) (by omega) (by omega) (by omega)) (by omega) (by omega) (by omega)) (by omega) (by omega) (by omega)) (by omega) (by omega) (by omega)) (by omega) (by omega) (by omega))
 have hsz := E.size
 have told := ab.gA (w := w) own (by omega) (by omega) ((uh hB).trans (E.below (uh hB).size (fun k h1 h2 => by omega)))
 exact told
theorem ux : (Tryz.prog.info? 60).map (fun i => (i.zero, i.size, decide (i.bytes ≤ 1000))) = some (some (.agg #[.int .i64 0, .int .i64 0, .int .i64 0, .int .i64 0, .int .i64 0, .int .i64 0, .int .i64 0, .slice none 0 0, .int .i64 0, .int .i64 0]), 10, true) := by kernel_rfl
theorem tK (v : Value) (xs : List bP) (w : World) (h : (ab.sl ab.aQ).Reads w [v] xs) (hn : (ab.sl ab.aQ).sz xs ≤ 1048576) :
  Calls Tryz.prog 42 #[v] w fun e w' => ∃ v', e = .returned v' ∧ (ab.sl ab.aQ).aN w' [v'] xs w.heap.size w'.heap.size ∧ Below w.heap.size w w' := by
 have hbig := h.et
 obtain ⟨ao, cap, rfl⟩ := aI h
 have hlen : xs.length ≤ 1048576 := Nat.le_trans ab.fX hn
 obtain ⟨i0, hi, hz0, hz1, hz2⟩ : ∃ i, Tryz.prog.info? 60 = some i ∧ i.zero = some (.agg #[.int .i64 0, .int .i64 0, .int .i64 0, .int .i64 0, .int .i64 0, .int .i64 0, .int .i64 0, .slice none 0 0, .int .i64 0, .int .i64 0]) ∧ i.size = 10 ∧ i.bytes ≤ 1000 := by
  have := ux
  cases hq : Tryz.prog.info? 60 with
  | none => rw [hq] at this; simp at this
  | some i =>
   rw [hq] at this
   simp only [Option.map_some, Option.some.injEq, Prod.mk.injEq, decide_eq_true_eq] at this
   exact ⟨i, rfl, this.1, this.2.1, this.2.2⟩
 have H := yh h
 have HN := yh hn
 clear h hn
 go_enter Tryz.func42, Tryz.ntmps42
 go_wp2_with (at_make; refine wpList_make_full _ rfl _ _ 36 rfl w.heap.size 60 i0 _ 10 Tryz.underlying36 hi hz0 hz1 _ _ _ _ xs.length rfl rfl rfl rfl ?c1 ?c2 ?c3 ?_)
 case c1 => have := Nat.mul_le_mul hz2 hlen; omega
 case c2 => unfold maxLen; omega
 case c3 => exact Nat.le_refl _
 intro w1 hown1 hgrow1
 have hB1 : Below w.heap.size w w1 := (Below.refl _ _).grown hgrow1 (Nat.le_refl _) (by simp)
 clear hgrow1 hi hz0 hz1 hz2
 have HO1 := yh hown1
 have HB1 := yh hB1
 clear hown1 hB1
 go_wp2_with fail
 go_loopw [4] (fun i wr => ∃ (k : Nat) (rows : List (List Value)) (Q : List Value) (hi : Nat), k ≤ xs.length ∧ i = .int .i64 k ∧ wr.ownsRow w.heap.size 60 10 (.slice (some ⟨w.heap.size, 0, none⟩) xs.length xs.length) xs.length (rows.flatten ++ Q) ∧ Q.length = (xs.length - k) * 10 ∧ ab.gj ab.aQ wr rows (xs.take k) (w.heap.size + 1) hi ∧ hi ≤ wr.heap.size ∧ w.heap.size < hi ∧ Below w.heap.size w wr) (fun i _ => xs.length - (intOf i).toNat)
 case atStart =>
  have hl := ((uh HO1).lt w.heap.size rfl).2
  exact ⟨0, [], _, w1.heap.size, Nat.zero_le _, rfl, by simpa using uh HO1, by have := (uh HO1).1; simpa using this, ab.ek, Nat.le_refl _, hl, uh HB1⟩
 case round =>
  obtain ⟨k, rows, Q, hi, hk, rfl, hown, hQ, hsub, hhi, hlo, hB⟩ := hrel
  clear HO1 HB1
  by_cases hlt : k < xs.length
  ·
   obtain ⟨b, off, rfl, hbl⟩ := ab.aS (uh H) (by omega)
   obtain ⟨row, hc, hr⟩ := ab.bE (uh H) hlt
   replace hr := hr.later hB
   have hr2 := hr
   obtain ⟨a7, d7, rfl, -⟩ := cN hr2
   have c0 : wr.cell? ⟨b, off + k * 10, none⟩ = some (.int .i64 (xs[k]).kind) := (hB.cell (p := ⟨b, off + k * 10, none⟩) hbl).trans (hc 0 (by decide))
   have c1 : wr.cell? ⟨b, off + k * 10 + 1, none⟩ = some (.int .i64 (xs[k]).ae) := (hB.cell (p := ⟨b, off + k * 10 + 1, none⟩) hbl).trans (hc 1 (by decide))
   have c2 : wr.cell? ⟨b, off + k * 10 + 2, none⟩ = some (.int .i64 (xs[k]).src) := (hB.cell (p := ⟨b, off + k * 10 + 2, none⟩) hbl).trans (hc 2 (by decide))
   have c3 : wr.cell? ⟨b, off + k * 10 + 3, none⟩ = some (.int .i64 (xs[k]).dst) := (hB.cell (p := ⟨b, off + k * 10 + 3, none⟩) hbl).trans (hc 3 (by decide))
   have c4 : wr.cell? ⟨b, off + k * 10 + 4, none⟩ = some (.int .i64 (xs[k]).index) := (hB.cell (p := ⟨b, off + k * 10 + 4, none⟩) hbl).trans (hc 4 (by decide))
   have c5 : wr.cell? ⟨b, off + k * 10 + 5, none⟩ = some (.int .i64 (xs[k]).write.kind) := (hB.cell (p := ⟨b, off + k * 10 + 5, none⟩) hbl).trans (hc 5 (by decide))
   have c6 : wr.cell? ⟨b, off + k * 10 + 6, none⟩ = some (.int .i64 (xs[k]).write.id) := (hB.cell (p := ⟨b, off + k * 10 + 6, none⟩) hbl).trans (hc 6 (by decide))
   have c7 : wr.cell? ⟨b, off + k * 10 + 7, none⟩ = some (.slice a7 (xs[k]).write.vec.length d7) := (hB.cell (p := ⟨b, off + k * 10 + 7, none⟩) hbl).trans (hc 7 (by decide))
   have c8 : wr.cell? ⟨b, off + k * 10 + 8, none⟩ = some (.int .i64 (xs[k]).write.aa) := (hB.cell (p := ⟨b, off + k * 10 + 8, none⟩) hbl).trans (hc 8 (by decide))
   have c9 : wr.cell? ⟨b, off + k * 10 + 9, none⟩ = some (.int .i64 (xs[k]).write.seq) := (hB.cell (p := ⟨b, off + k * 10 + 9, none⟩) hbl).trans (hc 9 (by decide))
   have hrl : rows.flatten.length = k * 10 := by have := (ab.eh hsub).1; rw [List.length_take, Nat.min_eq_left hk] at this; exact this
   have hsz := Nat.le_trans (ab.gv (A := ab.aQ) hlt) (uh HN)
   have HT : Hid (xs.take (k + 1) = xs.take k ++ [xs[k]]) := List.take_succ_eq_append_getElem hlt
   have HB := yh hB
   have HR := yh hr
   have HO := yh hown
   have HS := yh hsub
   have HQ := yh hQ
   clear hB hr hc hown hsub hQ
   generalize hxk : xs[k] = x at *
   clear hxk
   go_wp2_with fail
   refine (vn _ x wr (uh HR) hsz).mono ?_
   rintro e w2 ⟨cs2, rfl, O, hb⟩
   have o2 := de (uh HO) hb
   replace HS := yh (ab.dK (ab.cC (uh HS) (az hb dz) (fun _ _ _ h => h)) O (by omega) (by omega) (Nat.le_trans hhi hb.size))
   have hb2 := (uh HB).trans (hb.mono (uh HB).size)
   have hz := hb.size
   have orr := O.reads
   obtain ⟨a7z, d7z, rfl, -⟩ := cN orr
   clear hb HR HB HO O c0 c1 c2 c3 c4 c5 c6 c7 c8 c9
   have hQ := uh HQ
   have hl5 : (rows.flatten ++ Q).length = xs.length * 10 := o2.1
   obtain ⟨u0, g0⟩ : ∃ u, w2.cell? ⟨w.heap.size, k * 10, none⟩ = some u := by
    rw [o2.cellAt (k * 10) (by omega)]
    exact gZ (by omega)
   have t0 := o2.frozenAt (k * 10)
   obtain ⟨u1, g1⟩ : ∃ u, w2.cell? ⟨w.heap.size, k * 10 + 1, none⟩ = some u := by
    rw [o2.cellAt (k * 10 + 1) (by omega)]
    exact gZ (by omega)
   have t1 := o2.frozenAt (k * 10 + 1)
   obtain ⟨u2, g2⟩ : ∃ u, w2.cell? ⟨w.heap.size, k * 10 + 2, none⟩ = some u := by
    rw [o2.cellAt (k * 10 + 2) (by omega)]
    exact gZ (by omega)
   have t2 := o2.frozenAt (k * 10 + 2)
   obtain ⟨u3, g3⟩ : ∃ u, w2.cell? ⟨w.heap.size, k * 10 + 3, none⟩ = some u := by
    rw [o2.cellAt (k * 10 + 3) (by omega)]
    exact gZ (by omega)
   have t3 := o2.frozenAt (k * 10 + 3)
   obtain ⟨u4, g4⟩ : ∃ u, w2.cell? ⟨w.heap.size, k * 10 + 4, none⟩ = some u := by
    rw [o2.cellAt (k * 10 + 4) (by omega)]
    exact gZ (by omega)
   have t4 := o2.frozenAt (k * 10 + 4)
   obtain ⟨u5, g5⟩ : ∃ u, w2.cell? ⟨w.heap.size, k * 10 + 5, none⟩ = some u := by
    rw [o2.cellAt (k * 10 + 5) (by omega)]
    exact gZ (by omega)
   have t5 := o2.frozenAt (k * 10 + 5)
   obtain ⟨u6, g6⟩ : ∃ u, w2.cell? ⟨w.heap.size, k * 10 + 6, none⟩ = some u := by
    rw [o2.cellAt (k * 10 + 6) (by omega)]
    exact gZ (by omega)
   have t6 := o2.frozenAt (k * 10 + 6)
   obtain ⟨u7, g7⟩ : ∃ u, w2.cell? ⟨w.heap.size, k * 10 + 7, none⟩ = some u := by
    rw [o2.cellAt (k * 10 + 7) (by omega)]
    exact gZ (by omega)
   have t7 := o2.frozenAt (k * 10 + 7)
   obtain ⟨u8, g8⟩ : ∃ u, w2.cell? ⟨w.heap.size, k * 10 + 8, none⟩ = some u := by
    rw [o2.cellAt (k * 10 + 8) (by omega)]
    exact gZ (by omega)
   have t8 := o2.frozenAt (k * 10 + 8)
   obtain ⟨u9, g9⟩ : ∃ u, w2.cell? ⟨w.heap.size, k * 10 + 9, none⟩ = some u := by
    rw [o2.cellAt (k * 10 + 9) (by omega)]
    exact gZ (by omega)
   have t9 := o2.frozenAt (k * 10 + 9)
   have o3 := di o2 (k * 10) [.int .i64 x.kind, .int .i64 x.ae, .int .i64 x.src, .int .i64 x.dst, .int .i64 x.index, .int .i64 x.write.kind, .int .i64 x.write.id, .slice a7z x.write.vec.length d7z, .int .i64 x.write.aa, .int .i64 x.write.seq]
   rw [show k * 10 = rows.flatten.length from hrl.symm, cY _ _ _ (by rw [hQ]; simp; have : 1 * 10 ≤ (xs.length - k) * 10 := Nat.mul_le_mul_right _ (by omega); omega), hrl] at o3
   have E : Ext (fun q => q = w.heap.size) w2 (aG w2 w.heap.size (k * 10) [.int .i64 x.kind, .int .i64 x.ae, .int .i64 x.src, .int .i64 x.dst, .int .i64 x.index, .int .i64 x.write.kind, .int .i64 x.write.id, .slice a7z x.write.vec.length d7z, .int .i64 x.write.aa, .int .i64 x.write.seq]) := bb _ (Ext.refl _ _) _ _ _ rfl
   replace HS := yh (ab.cC (uh HS) E (fun q h1 h2 h3 => by omega))
   have HB := yh (aB hb2 w.heap.size (k * 10) [.int .i64 x.kind, .int .i64 x.ae, .int .i64 x.src, .int .i64 x.dst, .int .i64 x.index, .int .i64 x.write.kind, .int .i64 x.write.id, .slice a7z x.write.vec.length d7z, .int .i64 x.write.aa, .int .i64 x.write.seq] (Nat.le_refl _))
   have HZ : Hid ((aG w2 w.heap.size (k * 10) [.int .i64 x.kind, .int .i64 x.ae, .int .i64 x.src, .int .i64 x.dst, .int .i64 x.index, .int .i64 x.write.kind, .int .i64 x.write.id, .slice a7z x.write.vec.length d7z, .int .i64 x.write.aa, .int .i64 x.write.seq]).heap.size = w2.heap.size) := bL _ _ _ _
   have HO : Hid ((aG w2 w.heap.size (k * 10) [.int .i64 x.kind, .int .i64 x.ae, .int .i64 x.src, .int .i64 x.dst, .int .i64 x.index, .int .i64 x.write.kind, .int .i64 x.write.id, .slice a7z x.write.vec.length d7z, .int .i64 x.write.aa, .int .i64 x.write.seq]).ownsRow w.heap.size 60 10 (.slice (some ⟨w.heap.size, 0, none⟩) xs.length xs.length) xs.length ((rows ++ [([.int .i64 x.kind, .int .i64 x.ae, .int .i64 x.src, .int .i64 x.dst, .int .i64 x.index, .int .i64 x.write.kind, .int .i64 x.write.id, .slice a7z x.write.vec.length d7z, .int .i64 x.write.aa, .int .i64 x.write.seq] : List Value)]).flatten ++ Q.drop 10)) := by
    show (aG w2 w.heap.size (k * 10) [.int .i64 x.kind, .int .i64 x.ae, .int .i64 x.src, .int .i64 x.dst, .int .i64 x.index, .int .i64 x.write.kind, .int .i64 x.write.id, .slice a7z x.write.vec.length d7z, .int .i64 x.write.aa, .int .i64 x.write.seq]).ownsRow w.heap.size 60 10 (.slice (some ⟨w.heap.size, 0, none⟩) xs.length xs.length) xs.length ((rows ++ [([.int .i64 x.kind, .int .i64 x.ae, .int .i64 x.src, .int .i64 x.dst, .int .i64 x.index, .int .i64 x.write.kind, .int .i64 x.write.id, .slice a7z x.write.vec.length d7z, .int .i64 x.write.aa, .int .i64 x.write.seq] : List Value)]).flatten ++ Q.drop 10)
    rw [List.flatten_append]
    simpa using o3
   have hl2 := (o2.lt w.heap.size rfl).2
   clear o3 o2 E hb2 hl5
   have hQ2 : Hid ((Q.drop 10).length = (xs.length - (k + 1)) * 10) := by
    show (Q.drop 10).length = (xs.length - (k + 1)) * 10
    rw [List.length_drop, hQ, show xs.length - k = xs.length - (k + 1) + 1 by omega, Nat.add_mul]
    omega
   clear hQ HQ
   go_wp2_with fail
   go_roundw
   case rel => exact ⟨k + 1, rows ++ [([.int .i64 x.kind, .int .i64 x.ae, .int .i64 x.src, .int .i64 x.dst, .int .i64 x.index, .int .i64 x.write.kind, .int .i64 x.write.id, .slice a7z x.write.vec.length d7z, .int .i64 x.write.aa, .int .i64 x.write.seq] : List Value)], Q.drop 10, w2.heap.size, by omega, by go_num, uh HO, uh hQ2, (by rw [uh HT]; exact uh HS), Nat.le_of_eq (uh HZ).symm, by omega, uh HB⟩
   case measure => simp [intOf]; omega
  obtain rfl : k = xs.length := by omega
  have e0 : Q = [] := List.eq_nil_of_length_eq_zero (by rw [hQ]; simp)
  subst e0
  rw [List.append_nil] at hown
  rw [List.take_length] at hsub
  have HO := yh (ab.dJ (A := ab.aQ) hown hsub (by omega) hhi hbig)
  have HB := yh hB
  clear hown hsub hB
  go_wp2_with fail
  go_ret
  exact ⟨_, rfl, uh HO, uh HB⟩
theorem uN (cs : List Value) (x : eG) (w : World) (h : ab.bq.Reads w cs x) :
  Calls Tryz.prog 196 #[.agg cs.toArray] w fun e w' => ∃ cs', e = .returned (.agg cs'.toArray) ∧ ab.bq.aN w' cs' x w.heap.size w'.heap.size ∧ Below w.heap.size w w' := by
 have h0 := h
 obtain ⟨bl, hl⟩ := h0
 obtain ⟨-, -, f0, f1⟩ := cS.1 hl
 clear hl
 obtain ⟨bl2, hl2⟩ := h
 obtain ⟨rfl, -⟩ := cS.1 hl2
 clear hl2
 have HF := yh (And.intro f0 (f1))
 clear f0 f1
 have HB : Hid (∀ o p q, Below w.heap.size w (((w.alloc o).alloc p).alloc q)) := fun o p q => (((Below.refl _ _).alloc (Nat.le_refl _) _).alloc (by simp) _).alloc (by simp; omega) _
 go_enter Tryz.func196, Tryz.ntmps196
 go_wp2
 refine bodyPost_ret (v := .agg #[.int .i64 x.id, .int .i64 x.score]) (by simp [results, Tryz.results196, go_sem]) rfl ?_
 obtain ⟨f0, f1⟩ := uh HF
 refine ⟨[.int .i64 x.id, .int .i64 x.score], rfl, ?_, uh HB _ _ _⟩
 have own : ∀ W : World, ab.bq.aN W [.int .i64 x.id, .int .i64 x.score] x w.heap.size w.heap.size := fun W => (ab.ba (ab.bJ (lo := w.heap.size) (hi := w.heap.size) f0) (ab.bJ (lo := w.heap.size) (hi := w.heap.size) f1) (Nat.le_refl _) (Nat.le_refl _) (Nat.le_refl _))
 exact (own _).mono (Nat.le_refl _) (uh HB _ _ _).size
theorem tz : (Tryz.prog.info? 224).map (fun i => (i.zero, i.size, decide (i.bytes ≤ 1000))) = some (some (.agg #[.int .i64 0, .int .i64 0]), 2, true) := by kernel_rfl
theorem um (v : Value) (xs : List eG) (w : World) (h : (ab.sl ab.bq).Reads w [v] xs) (hn : (ab.sl ab.bq).sz xs ≤ 1048576) :
  Calls Tryz.prog 156 #[v] w fun e w' => ∃ v', e = .returned v' ∧ (ab.sl ab.bq).aN w' [v'] xs w.heap.size w'.heap.size ∧ Below w.heap.size w w' := by
 have hbig := h.et
 obtain ⟨ao, cap, rfl⟩ := aI h
 have hlen : xs.length ≤ 1048576 := Nat.le_trans ab.fX hn
 obtain ⟨i0, hi, hz0, hz1, hz2⟩ : ∃ i, Tryz.prog.info? 224 = some i ∧ i.zero = some (.agg #[.int .i64 0, .int .i64 0]) ∧ i.size = 2 ∧ i.bytes ≤ 1000 := by
  have := tz
  cases hq : Tryz.prog.info? 224 with
  | none => rw [hq] at this; simp at this
  | some i =>
   rw [hq] at this
   simp only [Option.map_some, Option.some.injEq, Prod.mk.injEq, decide_eq_true_eq] at this
   exact ⟨i, rfl, this.1, this.2.1, this.2.2⟩
 have H := yh h
 have HN := yh hn
 clear h hn
 go_enter Tryz.func156, Tryz.ntmps156
 go_wp2_with (at_make; refine wpList_make_full _ rfl _ _ 87 rfl w.heap.size 224 i0 _ 2 Tryz.underlying87 hi hz0 hz1 _ _ _ _ xs.length rfl rfl rfl rfl ?c1 ?c2 ?c3 ?_)
 case c1 => have := Nat.mul_le_mul hz2 hlen; omega
 case c2 => unfold maxLen; omega
 case c3 => exact Nat.le_refl _
 intro w1 hown1 hgrow1
 have hB1 : Below w.heap.size w w1 := (Below.refl _ _).grown hgrow1 (Nat.le_refl _) (by simp)
 clear hgrow1 hi hz0 hz1 hz2
 have HO1 := yh hown1
 have HB1 := yh hB1
 clear hown1 hB1
 go_wp2_with fail
 go_loopw [4] (fun i wr => ∃ (k : Nat) (rows : List (List Value)) (Q : List Value) (hi : Nat), k ≤ xs.length ∧ i = .int .i64 k ∧ wr.ownsRow w.heap.size 224 2 (.slice (some ⟨w.heap.size, 0, none⟩) xs.length xs.length) xs.length (rows.flatten ++ Q) ∧ Q.length = (xs.length - k) * 2 ∧ ab.gj ab.bq wr rows (xs.take k) (w.heap.size + 1) hi ∧ hi ≤ wr.heap.size ∧ w.heap.size < hi ∧ Below w.heap.size w wr) (fun i _ => xs.length - (intOf i).toNat)
 case atStart =>
  have hl := ((uh HO1).lt w.heap.size rfl).2
  exact ⟨0, [], _, w1.heap.size, Nat.zero_le _, rfl, by simpa using uh HO1, by have := (uh HO1).1; simpa using this, ab.ek, Nat.le_refl _, hl, uh HB1⟩
 case round =>
  obtain ⟨k, rows, Q, hi, hk, rfl, hown, hQ, hsub, hhi, hlo, hB⟩ := hrel
  clear HO1 HB1
  by_cases hlt : k < xs.length
  ·
   obtain ⟨b, off, rfl, hbl⟩ := ab.aS (uh H) (by omega)
   obtain ⟨row, hc, hr⟩ := ab.bE (uh H) hlt
   replace hr := hr.later hB
   have hr2 := hr
   obtain ⟨blo, hlo⟩ := hr2; obtain ⟨rfl, -⟩ := cS.1 hlo; clear hlo
   have c0 : wr.cell? ⟨b, off + k * 2, none⟩ = some (.int .i64 (xs[k]).id) := (hB.cell (p := ⟨b, off + k * 2, none⟩) hbl).trans (hc 0 (by decide))
   have c1 : wr.cell? ⟨b, off + k * 2 + 1, none⟩ = some (.int .i64 (xs[k]).score) := (hB.cell (p := ⟨b, off + k * 2 + 1, none⟩) hbl).trans (hc 1 (by decide))
   have hrl : rows.flatten.length = k * 2 := by have := (ab.eh hsub).1; rw [List.length_take, Nat.min_eq_left hk] at this; exact this
   have hsz := Nat.le_trans (ab.gv (A := ab.bq) hlt) (uh HN)
   have HT : Hid (xs.take (k + 1) = xs.take k ++ [xs[k]]) := List.take_succ_eq_append_getElem hlt
   have HB := yh hB
   have HR := yh hr
   have HO := yh hown
   have HS := yh hsub
   have HQ := yh hQ
   clear hB hr hc hown hsub hQ
   generalize hxk : xs[k] = x at *
   clear hxk
   go_wp2_with fail
   refine (uN _ x wr (uh HR)).mono ?_
   rintro e w2 ⟨cs2, rfl, O, hb⟩
   have o2 := de (uh HO) hb
   replace HS := yh (ab.dK (ab.cC (uh HS) (az hb dz) (fun _ _ _ h => h)) O (by omega) (by omega) (Nat.le_trans hhi hb.size))
   have hb2 := (uh HB).trans (hb.mono (uh HB).size)
   have hz := hb.size
   have orr := O.reads
   obtain ⟨bloz, hloz⟩ := orr; obtain ⟨rfl, -⟩ := cS.1 hloz; clear hloz
   clear hb HR HB HO O c0 c1
   have hQ := uh HQ
   have hl5 : (rows.flatten ++ Q).length = xs.length * 2 := o2.1
   obtain ⟨u0, g0⟩ : ∃ u, w2.cell? ⟨w.heap.size, k * 2, none⟩ = some u := by
    rw [o2.cellAt (k * 2) (by omega)]
    exact gZ (by omega)
   have t0 := o2.frozenAt (k * 2)
   obtain ⟨u1, g1⟩ : ∃ u, w2.cell? ⟨w.heap.size, k * 2 + 1, none⟩ = some u := by
    rw [o2.cellAt (k * 2 + 1) (by omega)]
    exact gZ (by omega)
   have t1 := o2.frozenAt (k * 2 + 1)
   have o3 := di o2 (k * 2) [.int .i64 x.id, .int .i64 x.score]
   rw [show k * 2 = rows.flatten.length from hrl.symm, cY _ _ _ (by rw [hQ]; simp; have : 1 * 2 ≤ (xs.length - k) * 2 := Nat.mul_le_mul_right _ (by omega); omega), hrl] at o3
   have E : Ext (fun q => q = w.heap.size) w2 (aG w2 w.heap.size (k * 2) [.int .i64 x.id, .int .i64 x.score]) := bb _ (Ext.refl _ _) _ _ _ rfl
   replace HS := yh (ab.cC (uh HS) E (fun q h1 h2 h3 => by omega))
   have HB := yh (aB hb2 w.heap.size (k * 2) [.int .i64 x.id, .int .i64 x.score] (Nat.le_refl _))
   have HZ : Hid ((aG w2 w.heap.size (k * 2) [.int .i64 x.id, .int .i64 x.score]).heap.size = w2.heap.size) := bL _ _ _ _
   have HO : Hid ((aG w2 w.heap.size (k * 2) [.int .i64 x.id, .int .i64 x.score]).ownsRow w.heap.size 224 2 (.slice (some ⟨w.heap.size, 0, none⟩) xs.length xs.length) xs.length ((rows ++ [([.int .i64 x.id, .int .i64 x.score] : List Value)]).flatten ++ Q.drop 2)) := by
    show (aG w2 w.heap.size (k * 2) [.int .i64 x.id, .int .i64 x.score]).ownsRow w.heap.size 224 2 (.slice (some ⟨w.heap.size, 0, none⟩) xs.length xs.length) xs.length ((rows ++ [([.int .i64 x.id, .int .i64 x.score] : List Value)]).flatten ++ Q.drop 2)
    rw [List.flatten_append]
    simpa using o3
   have hl2 := (o2.lt w.heap.size rfl).2
   clear o3 o2 E hb2 hl5
   have hQ2 : Hid ((Q.drop 2).length = (xs.length - (k + 1)) * 2) := by
    show (Q.drop 2).length = (xs.length - (k + 1)) * 2
    rw [List.length_drop, hQ, show xs.length - k = xs.length - (k + 1) + 1 by omega, Nat.add_mul]
    omega
   clear hQ HQ
   go_wp2_with fail
   go_roundw
   case rel => exact ⟨k + 1, rows ++ [([.int .i64 x.id, .int .i64 x.score] : List Value)], Q.drop 2, w2.heap.size, by omega, by go_num, uh HO, uh hQ2, (by rw [uh HT]; exact uh HS), Nat.le_of_eq (uh HZ).symm, by omega, uh HB⟩
   case measure => simp [intOf]; omega
  obtain rfl : k = xs.length := by omega
  have e0 : Q = [] := List.eq_nil_of_length_eq_zero (by rw [hQ]; simp)
  subst e0
  rw [List.append_nil] at hown
  rw [List.take_length] at hsub
  have HO := yh (ab.dJ (A := ab.bq) hown hsub (by omega) hhi hbig)
  have HB := yh hB
  clear hown hsub hB
  go_wp2_with fail
  go_ret
  exact ⟨_, rfl, uh HO, uh HB⟩
theorem rv (cs : List Value) (x : bj) (w : World) (h : ab.ar.Reads w cs x) (hn : ab.ar.sz x ≤ 1048576) :
  Calls Tryz.prog 97 #[.agg cs.toArray] w fun e w' => ∃ cs', e = .returned (.agg cs'.toArray) ∧ ab.ar.aN w' cs' x w.heap.size w'.heap.size ∧ Below w.heap.size w w' := by
 have h0 := h
 obtain ⟨bl, hl⟩ := h0
 obtain ⟨-, -, -, -, -, -, -, -, -, -, -, f0, f1, f2, f3, -, f5, f6, f7, f8, -, -⟩ := dj.1 hl
 clear hl
 obtain ⟨a4, d4, a9, d9, a10, d10, rfl, R4, R9, R10⟩ := cd h
 clear h
 rw [iQ] at hn
 have HF := yh (And.intro f0 (And.intro f1 (And.intro f2 (And.intro f3 (And.intro f5 (And.intro f6 (And.intro f7 (f8))))))))
 clear f0 f1 f2 f3 f5 f6 f7 f8
 have HB0 : Below w.heap.size w (((w.alloc (.cells #[.int .i64 x.kind, .int .i64 x.aa, .int .i64 x.seq, .int .i64 x.id, .slice a4 x.query.length d4, .int .i64 x.k, .int .i64 x.start, .int .i64 x.fin, .int .i64 x.place, .slice a9 x.vec.length d9, .slice a10 x.aY.length d10] 150)).alloc (.cells #[.int .i64 0, .int .i64 0, .int .i64 0, .int .i64 0, .slice none 0 0, .int .i64 0, .int .i64 0, .int .i64 0, .int .i64 0, .slice none 0 0, .slice none 0 0] 89)).alloc (.cells #[.int .i64 x.kind, .int .i64 x.aa, .int .i64 x.seq, .int .i64 x.id, .slice none 0 0, .int .i64 0, .int .i64 0, .int .i64 0, .int .i64 0, .slice none 0 0, .slice none 0 0] 89)) := (((Below.refl _ _).alloc (Nat.le_refl _) _).alloc (by simp) _).alloc (by simp; omega) _
 have bA : aA w.heap.size #[.int .i64 x.kind, .int .i64 x.aa, .int .i64 x.seq, .int .i64 x.id, .slice a4 x.query.length d4, .int .i64 x.k, .int .i64 x.start, .int .i64 x.fin, .int .i64 x.place, .slice a9 x.vec.length d9, .slice a10 x.aY.length d10] 150 (((w.alloc (.cells #[.int .i64 x.kind, .int .i64 x.aa, .int .i64 x.seq, .int .i64 x.id, .slice a4 x.query.length d4, .int .i64 x.k, .int .i64 x.start, .int .i64 x.fin, .int .i64 x.place, .slice a9 x.vec.length d9, .slice a10 x.aY.length d10] 150)).alloc (.cells #[.int .i64 0, .int .i64 0, .int .i64 0, .int .i64 0, .slice none 0 0, .int .i64 0, .int .i64 0, .int .i64 0, .int .i64 0, .slice none 0 0, .slice none 0 0] 89)).alloc (.cells #[.int .i64 x.kind, .int .i64 x.aa, .int .i64 x.seq, .int .i64 x.id, .slice none 0 0, .int .i64 0, .int .i64 0, .int .i64 0, .int .i64 0, .slice none 0 0, .slice none 0 0] 89)) w.heap.size := ((aD (Nat.le_refl _)).grow _).grow _
 have bR : aA w.heap.size #[.int .i64 0, .int .i64 0, .int .i64 0, .int .i64 0, .slice none 0 0, .int .i64 0, .int .i64 0, .int .i64 0, .int .i64 0, .slice none 0 0, .slice none 0 0] 89 (((w.alloc (.cells #[.int .i64 x.kind, .int .i64 x.aa, .int .i64 x.seq, .int .i64 x.id, .slice a4 x.query.length d4, .int .i64 x.k, .int .i64 x.start, .int .i64 x.fin, .int .i64 x.place, .slice a9 x.vec.length d9, .slice a10 x.aY.length d10] 150)).alloc (.cells #[.int .i64 0, .int .i64 0, .int .i64 0, .int .i64 0, .slice none 0 0, .int .i64 0, .int .i64 0, .int .i64 0, .int .i64 0, .slice none 0 0, .slice none 0 0] 89)).alloc (.cells #[.int .i64 x.kind, .int .i64 x.aa, .int .i64 x.seq, .int .i64 x.id, .slice none 0 0, .int .i64 0, .int .i64 0, .int .i64 0, .int .i64 0, .slice none 0 0, .slice none 0 0] 89)) (w.heap.size + 1) := (bm (by omega) (by simp)).grow _
 have bX : aA w.heap.size #[.int .i64 x.kind, .int .i64 x.aa, .int .i64 x.seq, .int .i64 x.id, .slice none 0 0, .int .i64 0, .int .i64 0, .int .i64 0, .int .i64 0, .slice none 0 0, .slice none 0 0] 89 (((w.alloc (.cells #[.int .i64 x.kind, .int .i64 x.aa, .int .i64 x.seq, .int .i64 x.id, .slice a4 x.query.length d4, .int .i64 x.k, .int .i64 x.start, .int .i64 x.fin, .int .i64 x.place, .slice a9 x.vec.length d9, .slice a10 x.aY.length d10] 150)).alloc (.cells #[.int .i64 0, .int .i64 0, .int .i64 0, .int .i64 0, .slice none 0 0, .int .i64 0, .int .i64 0, .int .i64 0, .int .i64 0, .slice none 0 0, .slice none 0 0] 89)).alloc (.cells #[.int .i64 x.kind, .int .i64 x.aa, .int .i64 x.seq, .int .i64 x.id, .slice none 0 0, .int .i64 0, .int .i64 0, .int .i64 0, .int .i64 0, .slice none 0 0, .slice none 0 0] 89)) (w.heap.size + 2) := bm (by omega) (by simp)
 have hz0 : w.heap.size + 3 ≤ (((w.alloc (.cells #[.int .i64 x.kind, .int .i64 x.aa, .int .i64 x.seq, .int .i64 x.id, .slice a4 x.query.length d4, .int .i64 x.k, .int .i64 x.start, .int .i64 x.fin, .int .i64 x.place, .slice a9 x.vec.length d9, .slice a10 x.aY.length d10] 150)).alloc (.cells #[.int .i64 0, .int .i64 0, .int .i64 0, .int .i64 0, .slice none 0 0, .int .i64 0, .int .i64 0, .int .i64 0, .int .i64 0, .slice none 0 0, .slice none 0 0] 89)).alloc (.cells #[.int .i64 x.kind, .int .i64 x.aa, .int .i64 x.seq, .int .i64 x.id, .slice none 0 0, .int .i64 0, .int .i64 0, .int .i64 0, .int .i64 0, .slice none 0 0, .slice none 0 0] 89)).heap.size := by simp
 go_enter Tryz.func97, Tryz.ntmps97
 go_wp2_with fail
 generalize ((w.alloc (.cells #[.int .i64 x.kind, .int .i64 x.aa, .int .i64 x.seq, .int .i64 x.id, .slice a4 x.query.length d4, .int .i64 x.k, .int .i64 x.start, .int .i64 x.fin, .int .i64 x.place, .slice a9 x.vec.length d9, .slice a10 x.aY.length d10] 150)).alloc (.cells #[.int .i64 0, .int .i64 0, .int .i64 0, .int .i64 0, .slice none 0 0, .int .i64 0, .int .i64 0, .int .i64 0, .int .i64 0, .slice none 0 0, .slice none 0 0] 89)).alloc (.cells #[.int .i64 x.kind, .int .i64 x.aa, .int .i64 x.seq, .int .i64 x.id, .slice none 0 0, .int .i64 0, .int .i64 0, .int .i64 0, .int .i64 0, .slice none 0 0, .slice none 0 0] 89) = W0 at *
 replace R4 := R4.dd.later HB0
 replace R9 := R9.dd.later HB0
 replace R10 := R10.dd.later HB0
 refine (gz _ x.query W0 R4.reads (by omega)).mono ?_
 rintro e w1 ⟨v4, rfl, O4, hb⟩
 have Z0 : W0.heap.size ≤ w1.heap.size := hb.size
 replace HB0 := HB0.trans (hb.mono HB0.size)
 replace bA := bA.ai hb
 replace bR := bR.ai hb
 replace bX := bX.ai hb
 replace R9 := R9.later hb
 replace R10 := R10.later hb
 clear hb R4
 obtain ⟨a4z, d4z, rfl⟩ := aI O4.reads
 have p5 := bA.at 5 _ rfl
 have p6 := bA.at 6 _ rfl
 have p7 := bA.at 7 _ rfl
 have p8 := bA.at 8 _ rfl
 have p9 := bA.at 9 _ rfl
 have q4 := bX.at 4 _ rfl
 have q5 := bX.at 5 _ rfl
 have q6 := bX.at 6 _ rfl
 have q7 := bX.at 7 _ rfl
 have q8 := bX.at 8 _ rfl
 have qf := bX.soft
 have ql := bX.lt
 have pl := bA.lt
 simp only [ga, gb, gc] at p5 p6 p7 p8 p9 q4 q5 q6 q7 q8
 have hA := yh bA
 have hR := yh bR
 have hX := yh bX
 have hB := yh HB0
 clear bA bR bX HB0
 have hO4 := yh O4
 clear O4
 have hR9 := yh R9
 clear R9
 have hR10 := yh R10
 clear R10
 go_wp2_with fail
 clear p5 p6 p7 p8 p9 q4 q5 q6 q7 q8 qf ql pl
 have E : Ext (fun q => q = w.heap.size + 2) w1 (((((w1.setCell ⟨w.heap.size + 2, 4, none⟩ (.slice a4z x.query.length d4z)).setCell ⟨w.heap.size + 2, 5, none⟩ (.int .i64 x.k)).setCell ⟨w.heap.size + 2, 6, none⟩ (.int .i64 x.start)).setCell ⟨w.heap.size + 2, 7, none⟩ (.int .i64 x.fin)).setCell ⟨w.heap.size + 2, 8, none⟩ (.int .i64 x.place)) := cH (Ext.refl _ _) (w.heap.size + 2) [(4, .slice a4z x.query.length d4z), (5, .int .i64 x.k), (6, .int .i64 x.start), (7, .int .i64 x.fin), (8, .int .i64 x.place)] rfl
 have bX : aA w.heap.size #[.int .i64 x.kind, .int .i64 x.aa, .int .i64 x.seq, .int .i64 x.id, .slice a4z x.query.length d4z, .int .i64 x.k, .int .i64 x.start, .int .i64 x.fin, .int .i64 x.place, .slice none 0 0, .slice none 0 0] 89 (((((w1.setCell ⟨w.heap.size + 2, 4, none⟩ (.slice a4z x.query.length d4z)).setCell ⟨w.heap.size + 2, 5, none⟩ (.int .i64 x.k)).setCell ⟨w.heap.size + 2, 6, none⟩ (.int .i64 x.start)).setCell ⟨w.heap.size + 2, 7, none⟩ (.int .i64 x.fin)).setCell ⟨w.heap.size + 2, 8, none⟩ (.int .i64 x.place)) (w.heap.size + 2) := ((((((uh hX).set 4 (.slice a4z x.query.length d4z)).set 5 (.int .i64 x.k)).set 6 (.int .i64 x.start)).set 7 (.int .i64 x.fin)).set 8 (.int .i64 x.place))
 have bA := (uh hA).ext E (by omega)
 have bR := (uh hR).ext E (by omega)
 have HB0 : Below w.heap.size w (((((w1.setCell ⟨w.heap.size + 2, 4, none⟩ (.slice a4z x.query.length d4z)).setCell ⟨w.heap.size + 2, 5, none⟩ (.int .i64 x.k)).setCell ⟨w.heap.size + 2, 6, none⟩ (.int .i64 x.start)).setCell ⟨w.heap.size + 2, 7, none⟩ (.int .i64 x.fin)).setCell ⟨w.heap.size + 2, 8, none⟩ (.int .i64 x.place)) := (uh hB).trans (E.below (uh hB).size (fun k h1 h2 => by omega))
 have O4 := (uh hO4).ext E (fun k h1 h2 h3 => by omega)
 have R9 := (uh hR9).ext E (fun k h1 h2 h3 => by omega)
 have R10 := (uh hR10).ext E (fun k h1 h2 h3 => by omega)
 have Y0 : w1.heap.size ≤ (((((w1.setCell ⟨w.heap.size + 2, 4, none⟩ (.slice a4z x.query.length d4z)).setCell ⟨w.heap.size + 2, 5, none⟩ (.int .i64 x.k)).setCell ⟨w.heap.size + 2, 6, none⟩ (.int .i64 x.start)).setCell ⟨w.heap.size + 2, 7, none⟩ (.int .i64 x.fin)).setCell ⟨w.heap.size + 2, 8, none⟩ (.int .i64 x.place)).heap.size := E.size
 clear hA hR hX hB hO4 hR9 hR10 E
 generalize (((((w1.setCell ⟨w.heap.size + 2, 4, none⟩ (.slice a4z x.query.length d4z)).setCell ⟨w.heap.size + 2, 5, none⟩ (.int .i64 x.k)).setCell ⟨w.heap.size + 2, 6, none⟩ (.int .i64 x.start)).setCell ⟨w.heap.size + 2, 7, none⟩ (.int .i64 x.fin)).setCell ⟨w.heap.size + 2, 8, none⟩ (.int .i64 x.place)) = W1 at *
 refine (gz _ x.vec W1 R9.reads (by omega)).mono ?_
 rintro e w2 ⟨v9, rfl, O9, hb⟩
 have Z1 : W1.heap.size ≤ w2.heap.size := hb.size
 replace HB0 := HB0.trans (hb.mono HB0.size)
 replace bA := bA.ai hb
 replace bR := bR.ai hb
 replace bX := bX.ai hb
 replace R10 := R10.later hb
 replace O4 := O4.later hb
 clear hb R9
 obtain ⟨a9z, d9z, rfl⟩ := aI O9.reads
 have p10 := bA.at 10 _ rfl
 have q9 := bX.at 9 _ rfl
 have qf := bX.soft
 have ql := bX.lt
 have pl := bA.lt
 simp only [ga, gb, gc] at p10 q9
 have hA := yh bA
 have hR := yh bR
 have hX := yh bX
 have hB := yh HB0
 clear bA bR bX HB0
 have hO4 := yh O4
 clear O4
 have hO9 := yh O9
 clear O9
 have hR10 := yh R10
 clear R10
 go_wp2_with fail
 clear p10 q9 qf ql pl
 have E : Ext (fun q => q = w.heap.size + 2) w2 (w2.setCell ⟨w.heap.size + 2, 9, none⟩ (.slice a9z x.vec.length d9z)) := cH (Ext.refl _ _) (w.heap.size + 2) [(9, .slice a9z x.vec.length d9z)] rfl
 have bX : aA w.heap.size #[.int .i64 x.kind, .int .i64 x.aa, .int .i64 x.seq, .int .i64 x.id, .slice a4z x.query.length d4z, .int .i64 x.k, .int .i64 x.start, .int .i64 x.fin, .int .i64 x.place, .slice a9z x.vec.length d9z, .slice none 0 0] 89 (w2.setCell ⟨w.heap.size + 2, 9, none⟩ (.slice a9z x.vec.length d9z)) (w.heap.size + 2) := (uh hX).set 9 (.slice a9z x.vec.length d9z)
 have bA := (uh hA).ext E (by omega)
 have bR := (uh hR).ext E (by omega)
 have HB0 : Below w.heap.size w (w2.setCell ⟨w.heap.size + 2, 9, none⟩ (.slice a9z x.vec.length d9z)) := (uh hB).trans (E.below (uh hB).size (fun k h1 h2 => by omega))
 have O4 := (uh hO4).ext E (fun k h1 h2 h3 => by omega)
 have O9 := (uh hO9).ext E (fun k h1 h2 h3 => by omega)
 have R10 := (uh hR10).ext E (fun k h1 h2 h3 => by omega)
 have Y1 : w2.heap.size ≤ (w2.setCell ⟨w.heap.size + 2, 9, none⟩ (.slice a9z x.vec.length d9z)).heap.size := E.size
 clear hA hR hX hB hO4 hO9 hR10 E
 generalize (w2.setCell ⟨w.heap.size + 2, 9, none⟩ (.slice a9z x.vec.length d9z)) = W2 at *
 refine (um _ x.aY W2 R10.reads (by omega)).mono ?_
 rintro e w3 ⟨v10, rfl, O10, hb⟩
 have Z2 : W2.heap.size ≤ w3.heap.size := hb.size
 replace HB0 := HB0.trans (hb.mono HB0.size)
 replace bA := bA.ai hb
 replace bR := bR.ai hb
 replace bX := bX.ai hb
 replace O4 := O4.later hb
 replace O9 := O9.later hb
 clear hb R10
 obtain ⟨a10z, d10z, rfl⟩ := aI O10.reads
 have q0 := bX.at 0 _ rfl
 have q1 := bX.at 1 _ rfl
 have q2 := bX.at 2 _ rfl
 have q3 := bX.at 3 _ rfl
 have q4 := bX.at 4 _ rfl
 have q5 := bX.at 5 _ rfl
 have q6 := bX.at 6 _ rfl
 have q7 := bX.at 7 _ rfl
 have q8 := bX.at 8 _ rfl
 have q9 := bX.at 9 _ rfl
 have q10 := bX.at 10 _ rfl
 have qf := bX.soft
 have ql := bX.lt
 have pl := bA.lt
 have r0 := bR.at 0 _ rfl
 have r1 := bR.at 1 _ rfl
 have r2 := bR.at 2 _ rfl
 have r3 := bR.at 3 _ rfl
 have r4 := bR.at 4 _ rfl
 have r5 := bR.at 5 _ rfl
 have r6 := bR.at 6 _ rfl
 have r7 := bR.at 7 _ rfl
 have r8 := bR.at 8 _ rfl
 have r9 := bR.at 9 _ rfl
 have r10 := bR.at 10 _ rfl
 have rf := bR.soft
 have rl := bR.lt
 simp only [ga, gb, gc] at q0 q1 q2 q3 q4 q5 q6 q7 q8 q9 q10 r0 r1 r2 r3 r4 r5 r6 r7 r8 r9 r10
 have hA := yh bA
 have hR := yh bR
 have hX := yh bX
 have hB := yh HB0
 clear bA bR bX HB0
 have hO4 := yh O4
 clear O4
 have hO9 := yh O9
 clear O9
 have hO10 := yh O10
 clear O10
 go_wp2_with fail
 refine bodyPost_ret (v := .agg #[.int .i64 x.kind, .int .i64 x.aa, .int .i64 x.seq, .int .i64 x.id, .slice a4z x.query.length d4z, .int .i64 x.k, .int .i64 x.start, .int .i64 x.fin, .int .i64 x.place, .slice a9z x.vec.length d9z, .slice a10z x.aY.length d10z]) (by simp [results, Tryz.results97, go_sem, r0, r1, r2, r3, r4, r5, r6, r7, r8, r9, r10]) rfl ?_
 have E : Ext (fun q => q = w.heap.size + 2 ∨ q = w.heap.size + 1) w3 _ := cH (cH (Ext.refl _ _) (w.heap.size + 2) [(10, .slice a10z x.aY.length d10z)] (Or.inl rfl)) (w.heap.size + 1) [(0, .int .i64 x.kind), (1, .int .i64 x.aa), (2, .int .i64 x.seq), (3, .int .i64 x.id), (4, .slice a4z x.query.length d4z), (5, .int .i64 x.k), (6, .int .i64 x.start), (7, .int .i64 x.fin), (8, .int .i64 x.place), (9, .slice a9z x.vec.length d9z), (10, .slice a10z x.aY.length d10z)] (Or.inr rfl)
 obtain ⟨f0, f1, f2, f3, f5, f6, f7, f8⟩ := uh HF
 have own : ab.ar.aN _ [.int .i64 x.kind, .int .i64 x.aa, .int .i64 x.seq, .int .i64 x.id, .slice a4z x.query.length d4z, .int .i64 x.k, .int .i64 x.start, .int .i64 x.fin, .int .i64 x.place, .slice a9z x.vec.length d9z, .slice a10z x.aY.length d10z] x w.heap.size w3.heap.size := (ab.ba (ab.bJ (lo := w.heap.size) (hi := w.heap.size) f0) (ab.ba (ab.bJ (lo := w.heap.size) (hi := w.heap.size) f1) (ab.ba (ab.bJ (lo := w.heap.size) (hi := w.heap.size) f2) (ab.ba (ab.bJ (lo := w.heap.size) (hi := w.heap.size) f3) (ab.ba ((uh hO4).ext E (fun k h1 h2 h3 => by omega)) (ab.ba (ab.bJ (lo := w1.heap.size) (hi := w1.heap.size) f5) (ab.ba (ab.bJ (lo := w1.heap.size) (hi := w1.heap.size) f6) (ab.ba (ab.bJ (lo := w1.heap.size) (hi := w1.heap.size) f7) (ab.ba (ab.bJ (lo := w1.heap.size) (hi := w1.heap.size) f8) (ab.ba ((uh hO9).ext E (fun k h1 h2 h3 => by omega)) ((uh hO10).ext E (fun k h1 h2 h3 => by omega)) (by omega) (by omega) (by omega)) (by omega) (by omega) (by omega)) (by omega) (by omega) (by omega)) (by omega) (by omega) (by omega)) (by omega) (by omega) (by omega)) (by omega) (by omega) (by omega)) (by omega) (by omega) (by omega)) (by omega) (by omega) (by omega)) (by omega) (by omega) (by omega)) (by omega) (by omega) (by omega))
 have hsz := E.size
 have told := ab.gA (w := w) own (by omega) (by omega) ((uh hB).trans (E.below (uh hB).size (fun k h1 h2 => by omega)))
 exact told
theorem rk : (Tryz.prog.info? 89).map (fun i => (i.zero, i.size, decide (i.bytes ≤ 1000))) = some (some (.agg #[.int .i64 0, .int .i64 0, .int .i64 0, .int .i64 0, .slice none 0 0, .int .i64 0, .int .i64 0, .int .i64 0, .int .i64 0, .slice none 0 0, .slice none 0 0]), 11, true) := by kernel_rfl
theorem rq (v : Value) (xs : List bj) (w : World) (h : (ab.sl ab.ar).Reads w [v] xs) (hn : (ab.sl ab.ar).sz xs ≤ 1048576) :
  Calls Tryz.prog 43 #[v] w fun e w' => ∃ v', e = .returned v' ∧ (ab.sl ab.ar).aN w' [v'] xs w.heap.size w'.heap.size ∧ Below w.heap.size w w' := by
 have hbig := h.et
 obtain ⟨ao, cap, rfl⟩ := aI h
 have hlen : xs.length ≤ 1048576 := Nat.le_trans ab.fX hn
 obtain ⟨i0, hi, hz0, hz1, hz2⟩ : ∃ i, Tryz.prog.info? 89 = some i ∧ i.zero = some (.agg #[.int .i64 0, .int .i64 0, .int .i64 0, .int .i64 0, .slice none 0 0, .int .i64 0, .int .i64 0, .int .i64 0, .int .i64 0, .slice none 0 0, .slice none 0 0]) ∧ i.size = 11 ∧ i.bytes ≤ 1000 := by
  have := rk
  cases hq : Tryz.prog.info? 89 with
  | none => rw [hq] at this; simp at this
  | some i =>
   rw [hq] at this
   simp only [Option.map_some, Option.some.injEq, Prod.mk.injEq, decide_eq_true_eq] at this
   exact ⟨i, rfl, this.1, this.2.1, this.2.2⟩
 have H := yh h
 have HN := yh hn
 clear h hn
 go_enter Tryz.func43, Tryz.ntmps43
 go_wp2_with (at_make; refine wpList_make_full _ rfl _ _ 37 rfl w.heap.size 89 i0 _ 11 Tryz.underlying37 hi hz0 hz1 _ _ _ _ xs.length rfl rfl rfl rfl ?c1 ?c2 ?c3 ?_)
 case c1 => have := Nat.mul_le_mul hz2 hlen; omega
 case c2 => unfold maxLen; omega
 case c3 => exact Nat.le_refl _
 intro w1 hown1 hgrow1
 have hB1 : Below w.heap.size w w1 := (Below.refl _ _).grown hgrow1 (Nat.le_refl _) (by simp)
 clear hgrow1 hi hz0 hz1 hz2
 have HO1 := yh hown1
 have HB1 := yh hB1
 clear hown1 hB1
 go_wp2_with fail
 go_loopw [4] (fun i wr => ∃ (k : Nat) (rows : List (List Value)) (Q : List Value) (hi : Nat), k ≤ xs.length ∧ i = .int .i64 k ∧ wr.ownsRow w.heap.size 89 11 (.slice (some ⟨w.heap.size, 0, none⟩) xs.length xs.length) xs.length (rows.flatten ++ Q) ∧ Q.length = (xs.length - k) * 11 ∧ ab.gj ab.ar wr rows (xs.take k) (w.heap.size + 1) hi ∧ hi ≤ wr.heap.size ∧ w.heap.size < hi ∧ Below w.heap.size w wr) (fun i _ => xs.length - (intOf i).toNat)
 case atStart =>
  have hl := ((uh HO1).lt w.heap.size rfl).2
  exact ⟨0, [], _, w1.heap.size, Nat.zero_le _, rfl, by simpa using uh HO1, by have := (uh HO1).1; simpa using this, ab.ek, Nat.le_refl _, hl, uh HB1⟩
 case round =>
  obtain ⟨k, rows, Q, hi, hk, rfl, hown, hQ, hsub, hhi, hlo, hB⟩ := hrel
  clear HO1 HB1
  by_cases hlt : k < xs.length
  ·
   obtain ⟨b, off, rfl, hbl⟩ := ab.aS (uh H) (by omega)
   obtain ⟨row, hc, hr⟩ := ab.bE (uh H) hlt
   replace hr := hr.later hB
   have hr2 := hr
   obtain ⟨a4, d4, a9, d9, a10, d10, rfl, -, -, -⟩ := cd hr2
   have c0 : wr.cell? ⟨b, off + k * 11, none⟩ = some (.int .i64 (xs[k]).kind) := (hB.cell (p := ⟨b, off + k * 11, none⟩) hbl).trans (hc 0 (by decide))
   have c1 : wr.cell? ⟨b, off + k * 11 + 1, none⟩ = some (.int .i64 (xs[k]).aa) := (hB.cell (p := ⟨b, off + k * 11 + 1, none⟩) hbl).trans (hc 1 (by decide))
   have c2 : wr.cell? ⟨b, off + k * 11 + 2, none⟩ = some (.int .i64 (xs[k]).seq) := (hB.cell (p := ⟨b, off + k * 11 + 2, none⟩) hbl).trans (hc 2 (by decide))
   have c3 : wr.cell? ⟨b, off + k * 11 + 3, none⟩ = some (.int .i64 (xs[k]).id) := (hB.cell (p := ⟨b, off + k * 11 + 3, none⟩) hbl).trans (hc 3 (by decide))
   have c4 : wr.cell? ⟨b, off + k * 11 + 4, none⟩ = some (.slice a4 (xs[k]).query.length d4) := (hB.cell (p := ⟨b, off + k * 11 + 4, none⟩) hbl).trans (hc 4 (by decide))
   have c5 : wr.cell? ⟨b, off + k * 11 + 5, none⟩ = some (.int .i64 (xs[k]).k) := (hB.cell (p := ⟨b, off + k * 11 + 5, none⟩) hbl).trans (hc 5 (by decide))
   have c6 : wr.cell? ⟨b, off + k * 11 + 6, none⟩ = some (.int .i64 (xs[k]).start) := (hB.cell (p := ⟨b, off + k * 11 + 6, none⟩) hbl).trans (hc 6 (by decide))
   have c7 : wr.cell? ⟨b, off + k * 11 + 7, none⟩ = some (.int .i64 (xs[k]).fin) := (hB.cell (p := ⟨b, off + k * 11 + 7, none⟩) hbl).trans (hc 7 (by decide))
   have c8 : wr.cell? ⟨b, off + k * 11 + 8, none⟩ = some (.int .i64 (xs[k]).place) := (hB.cell (p := ⟨b, off + k * 11 + 8, none⟩) hbl).trans (hc 8 (by decide))
   have c9 : wr.cell? ⟨b, off + k * 11 + 9, none⟩ = some (.slice a9 (xs[k]).vec.length d9) := (hB.cell (p := ⟨b, off + k * 11 + 9, none⟩) hbl).trans (hc 9 (by decide))
   have c10 : wr.cell? ⟨b, off + k * 11 + 10, none⟩ = some (.slice a10 (xs[k]).aY.length d10) := (hB.cell (p := ⟨b, off + k * 11 + 10, none⟩) hbl).trans (hc 10 (by decide))
   have hrl : rows.flatten.length = k * 11 := by have := (ab.eh hsub).1; rw [List.length_take, Nat.min_eq_left hk] at this; exact this
   have hsz := Nat.le_trans (ab.gv (A := ab.ar) hlt) (uh HN)
   have HT : Hid (xs.take (k + 1) = xs.take k ++ [xs[k]]) := List.take_succ_eq_append_getElem hlt
   have HB := yh hB
   have HR := yh hr
   have HO := yh hown
   have HS := yh hsub
   have HQ := yh hQ
   clear hB hr hc hown hsub hQ
   generalize hxk : xs[k] = x at *
   clear hxk
   go_wp2_with fail
   refine (rv _ x wr (uh HR) hsz).mono ?_
   rintro e w2 ⟨cs2, rfl, O, hb⟩
   have o2 := de (uh HO) hb
   replace HS := yh (ab.dK (ab.cC (uh HS) (az hb dz) (fun _ _ _ h => h)) O (by omega) (by omega) (Nat.le_trans hhi hb.size))
   have hb2 := (uh HB).trans (hb.mono (uh HB).size)
   have hz := hb.size
   have orr := O.reads
   obtain ⟨a4z, d4z, a9z, d9z, a10z, d10z, rfl, -, -, -⟩ := cd orr
   clear hb HR HB HO O c0 c1 c2 c3 c4 c5 c6 c7 c8 c9 c10
   have hQ := uh HQ
   have hl5 : (rows.flatten ++ Q).length = xs.length * 11 := o2.1
   obtain ⟨u0, g0⟩ : ∃ u, w2.cell? ⟨w.heap.size, k * 11, none⟩ = some u := by
    rw [o2.cellAt (k * 11) (by omega)]
    exact gZ (by omega)
   have t0 := o2.frozenAt (k * 11)
   obtain ⟨u1, g1⟩ : ∃ u, w2.cell? ⟨w.heap.size, k * 11 + 1, none⟩ = some u := by
    rw [o2.cellAt (k * 11 + 1) (by omega)]
    exact gZ (by omega)
   have t1 := o2.frozenAt (k * 11 + 1)
   obtain ⟨u2, g2⟩ : ∃ u, w2.cell? ⟨w.heap.size, k * 11 + 2, none⟩ = some u := by
    rw [o2.cellAt (k * 11 + 2) (by omega)]
    exact gZ (by omega)
   have t2 := o2.frozenAt (k * 11 + 2)
   obtain ⟨u3, g3⟩ : ∃ u, w2.cell? ⟨w.heap.size, k * 11 + 3, none⟩ = some u := by
    rw [o2.cellAt (k * 11 + 3) (by omega)]
    exact gZ (by omega)
   have t3 := o2.frozenAt (k * 11 + 3)
   obtain ⟨u4, g4⟩ : ∃ u, w2.cell? ⟨w.heap.size, k * 11 + 4, none⟩ = some u := by
    rw [o2.cellAt (k * 11 + 4) (by omega)]
    exact gZ (by omega)
   have t4 := o2.frozenAt (k * 11 + 4)
   obtain ⟨u5, g5⟩ : ∃ u, w2.cell? ⟨w.heap.size, k * 11 + 5, none⟩ = some u := by
    rw [o2.cellAt (k * 11 + 5) (by omega)]
    exact gZ (by omega)
   have t5 := o2.frozenAt (k * 11 + 5)
   obtain ⟨u6, g6⟩ : ∃ u, w2.cell? ⟨w.heap.size, k * 11 + 6, none⟩ = some u := by
    rw [o2.cellAt (k * 11 + 6) (by omega)]
    exact gZ (by omega)
   have t6 := o2.frozenAt (k * 11 + 6)
   obtain ⟨u7, g7⟩ : ∃ u, w2.cell? ⟨w.heap.size, k * 11 + 7, none⟩ = some u := by
    rw [o2.cellAt (k * 11 + 7) (by omega)]
    exact gZ (by omega)
   have t7 := o2.frozenAt (k * 11 + 7)
   obtain ⟨u8, g8⟩ : ∃ u, w2.cell? ⟨w.heap.size, k * 11 + 8, none⟩ = some u := by
    rw [o2.cellAt (k * 11 + 8) (by omega)]
    exact gZ (by omega)
   have t8 := o2.frozenAt (k * 11 + 8)
   obtain ⟨u9, g9⟩ : ∃ u, w2.cell? ⟨w.heap.size, k * 11 + 9, none⟩ = some u := by
    rw [o2.cellAt (k * 11 + 9) (by omega)]
    exact gZ (by omega)
   have t9 := o2.frozenAt (k * 11 + 9)
   obtain ⟨u10, g10⟩ : ∃ u, w2.cell? ⟨w.heap.size, k * 11 + 10, none⟩ = some u := by
    rw [o2.cellAt (k * 11 + 10) (by omega)]
    exact gZ (by omega)
   have t10 := o2.frozenAt (k * 11 + 10)
   have o3 := di o2 (k * 11) [.int .i64 x.kind, .int .i64 x.aa, .int .i64 x.seq, .int .i64 x.id, .slice a4z x.query.length d4z, .int .i64 x.k, .int .i64 x.start, .int .i64 x.fin, .int .i64 x.place, .slice a9z x.vec.length d9z, .slice a10z x.aY.length d10z]
   rw [show k * 11 = rows.flatten.length from hrl.symm, cY _ _ _ (by rw [hQ]; simp; have : 1 * 11 ≤ (xs.length - k) * 11 := Nat.mul_le_mul_right _ (by omega); omega), hrl] at o3
   have E : Ext (fun q => q = w.heap.size) w2 (aG w2 w.heap.size (k * 11) [.int .i64 x.kind, .int .i64 x.aa, .int .i64 x.seq, .int .i64 x.id, .slice a4z x.query.length d4z, .int .i64 x.k, .int .i64 x.start, .int .i64 x.fin, .int .i64 x.place, .slice a9z x.vec.length d9z, .slice a10z x.aY.length d10z]) := bb _ (Ext.refl _ _) _ _ _ rfl
   replace HS := yh (ab.cC (uh HS) E (fun q h1 h2 h3 => by omega))
   have HB := yh (aB hb2 w.heap.size (k * 11) [.int .i64 x.kind, .int .i64 x.aa, .int .i64 x.seq, .int .i64 x.id, .slice a4z x.query.length d4z, .int .i64 x.k, .int .i64 x.start, .int .i64 x.fin, .int .i64 x.place, .slice a9z x.vec.length d9z, .slice a10z x.aY.length d10z] (Nat.le_refl _))
   have HZ : Hid ((aG w2 w.heap.size (k * 11) [.int .i64 x.kind, .int .i64 x.aa, .int .i64 x.seq, .int .i64 x.id, .slice a4z x.query.length d4z, .int .i64 x.k, .int .i64 x.start, .int .i64 x.fin, .int .i64 x.place, .slice a9z x.vec.length d9z, .slice a10z x.aY.length d10z]).heap.size = w2.heap.size) := bL _ _ _ _
   have HO : Hid ((aG w2 w.heap.size (k * 11) [.int .i64 x.kind, .int .i64 x.aa, .int .i64 x.seq, .int .i64 x.id, .slice a4z x.query.length d4z, .int .i64 x.k, .int .i64 x.start, .int .i64 x.fin, .int .i64 x.place, .slice a9z x.vec.length d9z, .slice a10z x.aY.length d10z]).ownsRow w.heap.size 89 11 (.slice (some ⟨w.heap.size, 0, none⟩) xs.length xs.length) xs.length ((rows ++ [([.int .i64 x.kind, .int .i64 x.aa, .int .i64 x.seq, .int .i64 x.id, .slice a4z x.query.length d4z, .int .i64 x.k, .int .i64 x.start, .int .i64 x.fin, .int .i64 x.place, .slice a9z x.vec.length d9z, .slice a10z x.aY.length d10z] : List Value)]).flatten ++ Q.drop 11)) := by
    show (aG w2 w.heap.size (k * 11) [.int .i64 x.kind, .int .i64 x.aa, .int .i64 x.seq, .int .i64 x.id, .slice a4z x.query.length d4z, .int .i64 x.k, .int .i64 x.start, .int .i64 x.fin, .int .i64 x.place, .slice a9z x.vec.length d9z, .slice a10z x.aY.length d10z]).ownsRow w.heap.size 89 11 (.slice (some ⟨w.heap.size, 0, none⟩) xs.length xs.length) xs.length ((rows ++ [([.int .i64 x.kind, .int .i64 x.aa, .int .i64 x.seq, .int .i64 x.id, .slice a4z x.query.length d4z, .int .i64 x.k, .int .i64 x.start, .int .i64 x.fin, .int .i64 x.place, .slice a9z x.vec.length d9z, .slice a10z x.aY.length d10z] : List Value)]).flatten ++ Q.drop 11)
    rw [List.flatten_append]
    simpa using o3
   have hl2 := (o2.lt w.heap.size rfl).2
   clear o3 o2 E hb2 hl5
   have hQ2 : Hid ((Q.drop 11).length = (xs.length - (k + 1)) * 11) := by
    show (Q.drop 11).length = (xs.length - (k + 1)) * 11
    rw [List.length_drop, hQ, show xs.length - k = xs.length - (k + 1) + 1 by omega, Nat.add_mul]
    omega
   clear hQ HQ
   go_wp2_with fail
   go_roundw
   case rel => exact ⟨k + 1, rows ++ [([.int .i64 x.kind, .int .i64 x.aa, .int .i64 x.seq, .int .i64 x.id, .slice a4z x.query.length d4z, .int .i64 x.k, .int .i64 x.start, .int .i64 x.fin, .int .i64 x.place, .slice a9z x.vec.length d9z, .slice a10z x.aY.length d10z] : List Value)], Q.drop 11, w2.heap.size, by omega, by go_num, uh HO, uh hQ2, (by rw [uh HT]; exact uh HS), Nat.le_of_eq (uh HZ).symm, by omega, uh HB⟩
   case measure => simp [intOf]; omega
  obtain rfl : k = xs.length := by omega
  have e0 : Q = [] := List.eq_nil_of_length_eq_zero (by rw [hQ]; simp)
  subst e0
  rw [List.append_nil] at hown
  rw [List.take_length] at hsub
  have HO := yh (ab.dJ (A := ab.ar) hown hsub (by omega) hhi hbig)
  have HB := yh hB
  clear hown hsub hB
  go_wp2_with fail
  go_ret
  exact ⟨_, rfl, uh HO, uh HB⟩
theorem fw (cs : List Value) (x : ay) (w : World) (h : ab.aF.Reads w cs x) (hn : ab.aF.sz x ≤ 1048576) :
  Calls Tryz.prog 10 #[.agg cs.toArray] w fun e w' => ∃ cs', e = .returned (.agg cs'.toArray) ∧ ab.aF.aN w' cs' x w.heap.size w'.heap.size ∧ Below w.heap.size w w' := by
 have h0 := h
 obtain ⟨bl, hl⟩ := h0
 obtain ⟨-, -, -, -, -, -, -, -, -, -, -, -, -, -, f0, f1, f2, -, -, -, -⟩ := db.1 hl
 clear hl
 obtain ⟨a3, d3, a4, d4, a5, d5, a6, d6, rfl, R2, R4, R5, R6⟩ := aK h
 clear h
 rw [iY] at hn
 have HF := yh (And.intro f0 (And.intro f1 (f2)))
 clear f0 f1 f2
 have HB0 : Below w.heap.size w (((w.alloc (.cells #[.int .i64 x.now, .int .i64 x.events, .int .i64 x.chain.ae, .slice a3 x.chain.ids.length d3, .slice a4 x.nodes.length d4, .slice a5 x.msgs.length d5, .slice a6 x.af.length d6] 29)).alloc (.cells #[.int .i64 0, .int .i64 0, .int .i64 0, .slice none 0 0, .slice none 0 0, .slice none 0 0, .slice none 0 0] 39)).alloc (.cells #[.int .i64 x.now, .int .i64 x.events, .int .i64 0, .slice none 0 0, .slice none 0 0, .slice none 0 0, .slice none 0 0] 39)) := (((Below.refl _ _).alloc (Nat.le_refl _) _).alloc (by simp) _).alloc (by simp; omega) _
 have bA : aA w.heap.size #[.int .i64 x.now, .int .i64 x.events, .int .i64 x.chain.ae, .slice a3 x.chain.ids.length d3, .slice a4 x.nodes.length d4, .slice a5 x.msgs.length d5, .slice a6 x.af.length d6] 29 (((w.alloc (.cells #[.int .i64 x.now, .int .i64 x.events, .int .i64 x.chain.ae, .slice a3 x.chain.ids.length d3, .slice a4 x.nodes.length d4, .slice a5 x.msgs.length d5, .slice a6 x.af.length d6] 29)).alloc (.cells #[.int .i64 0, .int .i64 0, .int .i64 0, .slice none 0 0, .slice none 0 0, .slice none 0 0, .slice none 0 0] 39)).alloc (.cells #[.int .i64 x.now, .int .i64 x.events, .int .i64 0, .slice none 0 0, .slice none 0 0, .slice none 0 0, .slice none 0 0] 39)) w.heap.size := ((aD (Nat.le_refl _)).grow _).grow _
 have bR : aA w.heap.size #[.int .i64 0, .int .i64 0, .int .i64 0, .slice none 0 0, .slice none 0 0, .slice none 0 0, .slice none 0 0] 39 (((w.alloc (.cells #[.int .i64 x.now, .int .i64 x.events, .int .i64 x.chain.ae, .slice a3 x.chain.ids.length d3, .slice a4 x.nodes.length d4, .slice a5 x.msgs.length d5, .slice a6 x.af.length d6] 29)).alloc (.cells #[.int .i64 0, .int .i64 0, .int .i64 0, .slice none 0 0, .slice none 0 0, .slice none 0 0, .slice none 0 0] 39)).alloc (.cells #[.int .i64 x.now, .int .i64 x.events, .int .i64 0, .slice none 0 0, .slice none 0 0, .slice none 0 0, .slice none 0 0] 39)) (w.heap.size + 1) := (bm (by omega) (by simp)).grow _
 have bX : aA w.heap.size #[.int .i64 x.now, .int .i64 x.events, .int .i64 0, .slice none 0 0, .slice none 0 0, .slice none 0 0, .slice none 0 0] 39 (((w.alloc (.cells #[.int .i64 x.now, .int .i64 x.events, .int .i64 x.chain.ae, .slice a3 x.chain.ids.length d3, .slice a4 x.nodes.length d4, .slice a5 x.msgs.length d5, .slice a6 x.af.length d6] 29)).alloc (.cells #[.int .i64 0, .int .i64 0, .int .i64 0, .slice none 0 0, .slice none 0 0, .slice none 0 0, .slice none 0 0] 39)).alloc (.cells #[.int .i64 x.now, .int .i64 x.events, .int .i64 0, .slice none 0 0, .slice none 0 0, .slice none 0 0, .slice none 0 0] 39)) (w.heap.size + 2) := bm (by omega) (by simp)
 have hz0 : w.heap.size + 3 ≤ (((w.alloc (.cells #[.int .i64 x.now, .int .i64 x.events, .int .i64 x.chain.ae, .slice a3 x.chain.ids.length d3, .slice a4 x.nodes.length d4, .slice a5 x.msgs.length d5, .slice a6 x.af.length d6] 29)).alloc (.cells #[.int .i64 0, .int .i64 0, .int .i64 0, .slice none 0 0, .slice none 0 0, .slice none 0 0, .slice none 0 0] 39)).alloc (.cells #[.int .i64 x.now, .int .i64 x.events, .int .i64 0, .slice none 0 0, .slice none 0 0, .slice none 0 0, .slice none 0 0] 39)).heap.size := by simp
 go_enter Tryz.func10, Tryz.ntmps10
 go_wp2_with fail
 generalize ((w.alloc (.cells #[.int .i64 x.now, .int .i64 x.events, .int .i64 x.chain.ae, .slice a3 x.chain.ids.length d3, .slice a4 x.nodes.length d4, .slice a5 x.msgs.length d5, .slice a6 x.af.length d6] 29)).alloc (.cells #[.int .i64 0, .int .i64 0, .int .i64 0, .slice none 0 0, .slice none 0 0, .slice none 0 0, .slice none 0 0] 39)).alloc (.cells #[.int .i64 x.now, .int .i64 x.events, .int .i64 0, .slice none 0 0, .slice none 0 0, .slice none 0 0, .slice none 0 0] 39) = W0 at *
 replace R2 := R2.dd.later HB0
 replace R4 := R4.dd.later HB0
 replace R5 := R5.dd.later HB0
 replace R6 := R6.dd.later HB0
 refine (s7 _ x.chain W0 R2.reads (by omega)).mono ?_
 rintro e w1 ⟨v2, rfl, O2, hb⟩
 have Z0 : W0.heap.size ≤ w1.heap.size := hb.size
 replace HB0 := HB0.trans (hb.mono HB0.size)
 replace bA := bA.ai hb
 replace bR := bR.ai hb
 replace bX := bX.ai hb
 replace R4 := R4.later hb
 replace R5 := R5.later hb
 replace R6 := R6.later hb
 clear hb R2
 obtain ⟨a3z, d3z, rfl, -⟩ := cb O2.reads
 have p4 := bA.at 4 _ rfl
 have q2 := bX.at 2 _ rfl
 have q3 := bX.at 3 _ rfl
 have qf := bX.soft
 have ql := bX.lt
 have pl := bA.lt
 simp only [ga, gb, gc] at p4 q2 q3
 have hA := yh bA
 have hR := yh bR
 have hX := yh bX
 have hB := yh HB0
 clear bA bR bX HB0
 have hO2 := yh O2
 clear O2
 have hR4 := yh R4
 clear R4
 have hR5 := yh R5
 clear R5
 have hR6 := yh R6
 clear R6
 go_wp2_with fail
 clear p4 q2 q3 qf ql pl
 have E : Ext (fun q => q = w.heap.size + 2) w1 ((w1.setCell ⟨w.heap.size + 2, 2, none⟩ (.int .i64 x.chain.ae)).setCell ⟨w.heap.size + 2, 3, none⟩ (.slice a3z x.chain.ids.length d3z)) := cH (Ext.refl _ _) (w.heap.size + 2) [(2, .int .i64 x.chain.ae), (3, .slice a3z x.chain.ids.length d3z)] rfl
 have bX : aA w.heap.size #[.int .i64 x.now, .int .i64 x.events, .int .i64 x.chain.ae, .slice a3z x.chain.ids.length d3z, .slice none 0 0, .slice none 0 0, .slice none 0 0] 39 ((w1.setCell ⟨w.heap.size + 2, 2, none⟩ (.int .i64 x.chain.ae)).setCell ⟨w.heap.size + 2, 3, none⟩ (.slice a3z x.chain.ids.length d3z)) (w.heap.size + 2) := (((uh hX).set 2 (.int .i64 x.chain.ae)).set 3 (.slice a3z x.chain.ids.length d3z))
 have bA := (uh hA).ext E (by omega)
 have bR := (uh hR).ext E (by omega)
 have HB0 : Below w.heap.size w ((w1.setCell ⟨w.heap.size + 2, 2, none⟩ (.int .i64 x.chain.ae)).setCell ⟨w.heap.size + 2, 3, none⟩ (.slice a3z x.chain.ids.length d3z)) := (uh hB).trans (E.below (uh hB).size (fun k h1 h2 => by omega))
 have O2 := (uh hO2).ext E (fun k h1 h2 h3 => by omega)
 have R4 := (uh hR4).ext E (fun k h1 h2 h3 => by omega)
 have R5 := (uh hR5).ext E (fun k h1 h2 h3 => by omega)
 have R6 := (uh hR6).ext E (fun k h1 h2 h3 => by omega)
 have Y0 : w1.heap.size ≤ ((w1.setCell ⟨w.heap.size + 2, 2, none⟩ (.int .i64 x.chain.ae)).setCell ⟨w.heap.size + 2, 3, none⟩ (.slice a3z x.chain.ids.length d3z)).heap.size := E.size
 clear hA hR hX hB hO2 hR4 hR5 hR6 E
 generalize ((w1.setCell ⟨w.heap.size + 2, 2, none⟩ (.int .i64 x.chain.ae)).setCell ⟨w.heap.size + 2, 3, none⟩ (.slice a3z x.chain.ids.length d3z)) = W1 at *
 refine (tj _ x.nodes W1 R4.reads (by omega)).mono ?_
 rintro e w2 ⟨v4, rfl, O4, hb⟩
 have Z1 : W1.heap.size ≤ w2.heap.size := hb.size
 replace HB0 := HB0.trans (hb.mono HB0.size)
 replace bA := bA.ai hb
 replace bR := bR.ai hb
 replace bX := bX.ai hb
 replace R5 := R5.later hb
 replace R6 := R6.later hb
 replace O2 := O2.later hb
 clear hb R4
 obtain ⟨a4z, d4z, rfl⟩ := aI O4.reads
 have p5 := bA.at 5 _ rfl
 have q4 := bX.at 4 _ rfl
 have qf := bX.soft
 have ql := bX.lt
 have pl := bA.lt
 simp only [ga, gb, gc] at p5 q4
 have hA := yh bA
 have hR := yh bR
 have hX := yh bX
 have hB := yh HB0
 clear bA bR bX HB0
 have hO2 := yh O2
 clear O2
 have hO4 := yh O4
 clear O4
 have hR5 := yh R5
 clear R5
 have hR6 := yh R6
 clear R6
 go_wp2_with fail
 clear p5 q4 qf ql pl
 have E : Ext (fun q => q = w.heap.size + 2) w2 (w2.setCell ⟨w.heap.size + 2, 4, none⟩ (.slice a4z x.nodes.length d4z)) := cH (Ext.refl _ _) (w.heap.size + 2) [(4, .slice a4z x.nodes.length d4z)] rfl
 have bX : aA w.heap.size #[.int .i64 x.now, .int .i64 x.events, .int .i64 x.chain.ae, .slice a3z x.chain.ids.length d3z, .slice a4z x.nodes.length d4z, .slice none 0 0, .slice none 0 0] 39 (w2.setCell ⟨w.heap.size + 2, 4, none⟩ (.slice a4z x.nodes.length d4z)) (w.heap.size + 2) := (uh hX).set 4 (.slice a4z x.nodes.length d4z)
 have bA := (uh hA).ext E (by omega)
 have bR := (uh hR).ext E (by omega)
 have HB0 : Below w.heap.size w (w2.setCell ⟨w.heap.size + 2, 4, none⟩ (.slice a4z x.nodes.length d4z)) := (uh hB).trans (E.below (uh hB).size (fun k h1 h2 => by omega))
 have O2 := (uh hO2).ext E (fun k h1 h2 h3 => by omega)
 have O4 := (uh hO4).ext E (fun k h1 h2 h3 => by omega)
 have R5 := (uh hR5).ext E (fun k h1 h2 h3 => by omega)
 have R6 := (uh hR6).ext E (fun k h1 h2 h3 => by omega)
 have Y1 : w2.heap.size ≤ (w2.setCell ⟨w.heap.size + 2, 4, none⟩ (.slice a4z x.nodes.length d4z)).heap.size := E.size
 clear hA hR hX hB hO2 hO4 hR5 hR6 E
 generalize (w2.setCell ⟨w.heap.size + 2, 4, none⟩ (.slice a4z x.nodes.length d4z)) = W2 at *
 refine (tK _ x.msgs W2 R5.reads (by omega)).mono ?_
 rintro e w3 ⟨v5, rfl, O5, hb⟩
 have Z2 : W2.heap.size ≤ w3.heap.size := hb.size
 replace HB0 := HB0.trans (hb.mono HB0.size)
 replace bA := bA.ai hb
 replace bR := bR.ai hb
 replace bX := bX.ai hb
 replace R6 := R6.later hb
 replace O2 := O2.later hb
 replace O4 := O4.later hb
 clear hb R5
 obtain ⟨a5z, d5z, rfl⟩ := aI O5.reads
 have p6 := bA.at 6 _ rfl
 have q5 := bX.at 5 _ rfl
 have qf := bX.soft
 have ql := bX.lt
 have pl := bA.lt
 simp only [ga, gb, gc] at p6 q5
 have hA := yh bA
 have hR := yh bR
 have hX := yh bX
 have hB := yh HB0
 clear bA bR bX HB0
 have hO2 := yh O2
 clear O2
 have hO4 := yh O4
 clear O4
 have hO5 := yh O5
 clear O5
 have hR6 := yh R6
 clear R6
 go_wp2_with fail
 clear p6 q5 qf ql pl
 have E : Ext (fun q => q = w.heap.size + 2) w3 (w3.setCell ⟨w.heap.size + 2, 5, none⟩ (.slice a5z x.msgs.length d5z)) := cH (Ext.refl _ _) (w.heap.size + 2) [(5, .slice a5z x.msgs.length d5z)] rfl
 have bX : aA w.heap.size #[.int .i64 x.now, .int .i64 x.events, .int .i64 x.chain.ae, .slice a3z x.chain.ids.length d3z, .slice a4z x.nodes.length d4z, .slice a5z x.msgs.length d5z, .slice none 0 0] 39 (w3.setCell ⟨w.heap.size + 2, 5, none⟩ (.slice a5z x.msgs.length d5z)) (w.heap.size + 2) := (uh hX).set 5 (.slice a5z x.msgs.length d5z)
 have bA := (uh hA).ext E (by omega)
 have bR := (uh hR).ext E (by omega)
 have HB0 : Below w.heap.size w (w3.setCell ⟨w.heap.size + 2, 5, none⟩ (.slice a5z x.msgs.length d5z)) := (uh hB).trans (E.below (uh hB).size (fun k h1 h2 => by omega))
 have O2 := (uh hO2).ext E (fun k h1 h2 h3 => by omega)
 have O4 := (uh hO4).ext E (fun k h1 h2 h3 => by omega)
 have O5 := (uh hO5).ext E (fun k h1 h2 h3 => by omega)
 have R6 := (uh hR6).ext E (fun k h1 h2 h3 => by omega)
 have Y2 : w3.heap.size ≤ (w3.setCell ⟨w.heap.size + 2, 5, none⟩ (.slice a5z x.msgs.length d5z)).heap.size := E.size
 clear hA hR hX hB hO2 hO4 hO5 hR6 E
 generalize (w3.setCell ⟨w.heap.size + 2, 5, none⟩ (.slice a5z x.msgs.length d5z)) = W3 at *
 refine (rq _ x.af W3 R6.reads (by omega)).mono ?_
 rintro e w4 ⟨v6, rfl, O6, hb⟩
 have Z3 : W3.heap.size ≤ w4.heap.size := hb.size
 replace HB0 := HB0.trans (hb.mono HB0.size)
 replace bA := bA.ai hb
 replace bR := bR.ai hb
 replace bX := bX.ai hb
 replace O2 := O2.later hb
 replace O4 := O4.later hb
 replace O5 := O5.later hb
 clear hb R6
 obtain ⟨a6z, d6z, rfl⟩ := aI O6.reads
 have q0 := bX.at 0 _ rfl
 have q1 := bX.at 1 _ rfl
 have q2 := bX.at 2 _ rfl
 have q3 := bX.at 3 _ rfl
 have q4 := bX.at 4 _ rfl
 have q5 := bX.at 5 _ rfl
 have q6 := bX.at 6 _ rfl
 have qf := bX.soft
 have ql := bX.lt
 have pl := bA.lt
 have r0 := bR.at 0 _ rfl
 have r1 := bR.at 1 _ rfl
 have r2 := bR.at 2 _ rfl
 have r3 := bR.at 3 _ rfl
 have r4 := bR.at 4 _ rfl
 have r5 := bR.at 5 _ rfl
 have r6 := bR.at 6 _ rfl
 have rf := bR.soft
 have rl := bR.lt
 simp only [ga, gb, gc] at q0 q1 q2 q3 q4 q5 q6 r0 r1 r2 r3 r4 r5 r6
 have hA := yh bA
 have hR := yh bR
 have hX := yh bX
 have hB := yh HB0
 clear bA bR bX HB0
 have hO2 := yh O2
 clear O2
 have hO4 := yh O4
 clear O4
 have hO5 := yh O5
 clear O5
 have hO6 := yh O6
 clear O6
 go_wp2_with fail
 refine bodyPost_ret (v := .agg #[.int .i64 x.now, .int .i64 x.events, .int .i64 x.chain.ae, .slice a3z x.chain.ids.length d3z, .slice a4z x.nodes.length d4z, .slice a5z x.msgs.length d5z, .slice a6z x.af.length d6z]) (by simp [results, Tryz.results10, go_sem, r0, r1, r2, r3, r4, r5, r6]) rfl ?_
 have E : Ext (fun q => q = w.heap.size + 2 ∨ q = w.heap.size + 1) w4 _ := cH (cH (Ext.refl _ _) (w.heap.size + 2) [(6, .slice a6z x.af.length d6z)] (Or.inl rfl)) (w.heap.size + 1) [(0, .int .i64 x.now), (1, .int .i64 x.events), (2, .int .i64 x.chain.ae), (3, .slice a3z x.chain.ids.length d3z), (4, .slice a4z x.nodes.length d4z), (5, .slice a5z x.msgs.length d5z), (6, .slice a6z x.af.length d6z)] (Or.inr rfl)
 obtain ⟨f0, f1, f2⟩ := uh HF
 have own : ab.aF.aN _ [.int .i64 x.now, .int .i64 x.events, .int .i64 x.chain.ae, .slice a3z x.chain.ids.length d3z, .slice a4z x.nodes.length d4z, .slice a5z x.msgs.length d5z, .slice a6z x.af.length d6z] x w.heap.size w4.heap.size := (ab.ba (ab.bJ (lo := w.heap.size) (hi := w.heap.size) f0) (ab.ba (ab.bJ (lo := w.heap.size) (hi := w.heap.size) f1) (ab.ba ((uh hO2).ext E (fun k h1 h2 h3 => by omega)) (ab.ba ((uh hO4).ext E (fun k h1 h2 h3 => by omega)) (ab.ba ((uh hO5).ext E (fun k h1 h2 h3 => by omega)) ((uh hO6).ext E (fun k h1 h2 h3 => by omega)) (by omega) (by omega) (by omega)) (by omega) (by omega) (by omega)) (by omega) (by omega) (by omega)) (by omega) (by omega) (by omega)) (by omega) (by omega) (by omega))
 have hsz := E.size
 have told := ab.gA (w := w) own (by omega) (by omega) ((uh hB).trans (E.below (uh hB).size (fun k h1 h2 => by omega)))
 exact told
theorem sR (cs cs2 : List Value) (x : bQ) (w : World) (h : ab.aH.Reads w cs x) (h2 : ab.aH.Reads w cs2 x) :
  Calls Tryz.prog 47 #[.agg cs.toArray, .agg cs2.toArray] w fun e w' => e = .returned (.bool true) ∧ Below w.heap.size w w' := by
 obtain ⟨a1, d1, rfl, R1⟩ := cb h
 obtain ⟨a1z, d1z, rfl, R1z⟩ := cb h2
 clear h h2
 have e0 : (x.ae != x.ae) = false := by simp
 have HB0 : Below w.heap.size w ((w.alloc (.cells #[.int .i64 x.ae, .slice a1 x.ids.length d1] 34)).alloc (.cells #[.int .i64 x.ae, .slice a1z x.ids.length d1z] 34)) := ((Below.refl _ _).alloc (Nat.le_refl _) _).alloc (by simp) _
 have bA : aA w.heap.size #[.int .i64 x.ae, .slice a1 x.ids.length d1] 34 ((w.alloc (.cells #[.int .i64 x.ae, .slice a1 x.ids.length d1] 34)).alloc (.cells #[.int .i64 x.ae, .slice a1z x.ids.length d1z] 34)) w.heap.size := (aD (Nat.le_refl _)).grow _
 have bC : aA w.heap.size #[.int .i64 x.ae, .slice a1z x.ids.length d1z] 34 ((w.alloc (.cells #[.int .i64 x.ae, .slice a1 x.ids.length d1] 34)).alloc (.cells #[.int .i64 x.ae, .slice a1z x.ids.length d1z] 34)) (w.heap.size + 1) := bm (by omega) (by simp)
 go_enter Tryz.func47, Tryz.ntmps47
 go_wp2_with fail
 generalize (w.alloc (.cells #[.int .i64 x.ae, .slice a1 x.ids.length d1] 34)).alloc (.cells #[.int .i64 x.ae, .slice a1z x.ids.length d1z] 34) = W0 at *
 replace R1 := R1.later HB0
 replace R1z := R1z.later HB0
 refine (gC _ _ x.ids _ R1 R1z).mono ?_
 rintro e w1 ⟨rfl, hb⟩
 replace bA := bA.ai hb
 replace bC := bC.ai hb
 replace HB0 := HB0.trans (hb.mono HB0.size)
 clear hb
 have HB := yh HB0
 have HA := yh bA
 have HC := yh bC
 clear HB0 bA bC
 go_wp2_with fail
 go_ret
 exact ⟨rfl, uh HB⟩
theorem jL (cs cs2 : List Value) (x : aj) (w : World) (h : ab.ag.Reads w cs x) (h2 : ab.ag.Reads w cs2 x) :
  Calls Tryz.prog 15 #[.agg cs.toArray, .agg cs2.toArray] w fun e w' => e = .returned (.bool true) ∧ Below w.heap.size w w' := by
 obtain ⟨a2, d2, rfl, R2⟩ := aM h
 obtain ⟨a2z, d2z, rfl, R2z⟩ := aM h2
 clear h h2
 have e0 : (x.kind != x.kind) = false := by simp
 have e1 : (x.id != x.id) = false := by simp
 have e3 : (x.aa != x.aa) = false := by simp
 have e4 : (x.seq != x.seq) = false := by simp
 have HB0 : Below w.heap.size w ((w.alloc (.cells #[.int .i64 x.kind, .int .i64 x.id, .slice a2 x.vec.length d2, .int .i64 x.aa, .int .i64 x.seq] 44)).alloc (.cells #[.int .i64 x.kind, .int .i64 x.id, .slice a2z x.vec.length d2z, .int .i64 x.aa, .int .i64 x.seq] 44)) := ((Below.refl _ _).alloc (Nat.le_refl _) _).alloc (by simp) _
 have bA : aA w.heap.size #[.int .i64 x.kind, .int .i64 x.id, .slice a2 x.vec.length d2, .int .i64 x.aa, .int .i64 x.seq] 44 ((w.alloc (.cells #[.int .i64 x.kind, .int .i64 x.id, .slice a2 x.vec.length d2, .int .i64 x.aa, .int .i64 x.seq] 44)).alloc (.cells #[.int .i64 x.kind, .int .i64 x.id, .slice a2z x.vec.length d2z, .int .i64 x.aa, .int .i64 x.seq] 44)) w.heap.size := (aD (Nat.le_refl _)).grow _
 have bC : aA w.heap.size #[.int .i64 x.kind, .int .i64 x.id, .slice a2z x.vec.length d2z, .int .i64 x.aa, .int .i64 x.seq] 44 ((w.alloc (.cells #[.int .i64 x.kind, .int .i64 x.id, .slice a2 x.vec.length d2, .int .i64 x.aa, .int .i64 x.seq] 44)).alloc (.cells #[.int .i64 x.kind, .int .i64 x.id, .slice a2z x.vec.length d2z, .int .i64 x.aa, .int .i64 x.seq] 44)) (w.heap.size + 1) := bm (by omega) (by simp)
 go_enter Tryz.func15, Tryz.ntmps15
 go_wp2_with fail
 generalize (w.alloc (.cells #[.int .i64 x.kind, .int .i64 x.id, .slice a2 x.vec.length d2, .int .i64 x.aa, .int .i64 x.seq] 44)).alloc (.cells #[.int .i64 x.kind, .int .i64 x.id, .slice a2z x.vec.length d2z, .int .i64 x.aa, .int .i64 x.seq] 44) = W0 at *
 replace R2 := R2.later HB0
 replace R2z := R2z.later HB0
 refine (gC _ _ x.vec _ R2 R2z).mono ?_
 rintro e w1 ⟨rfl, hb⟩
 replace bA := bA.ai hb
 replace bC := bC.ai hb
 replace HB0 := HB0.trans (hb.mono HB0.size)
 have p3 := bA.at 3 _ rfl
 have q3 := bC.at 3 _ rfl
 have p4 := bA.at 4 _ rfl
 have q4 := bC.at 4 _ rfl
 clear hb
 have HB := yh HB0
 have HA := yh bA
 have HC := yh bC
 clear HB0 bA bC
 go_wp2_with fail
 go_ret
 exact ⟨rfl, uh HB⟩
theorem qY (v v2 : Value) (xs : List aj) (w : World) (h : (ab.sl ab.ag).Reads w [v] xs) (h2 : (ab.sl ab.ag).Reads w [v2] xs) :
  Calls Tryz.prog 164 #[v, v2] w fun e w' => e = .returned (.bool true) ∧ Below w.heap.size w w' := by
 have hbig := h.et
 obtain ⟨ao, cap, rfl⟩ := aI h
 obtain ⟨ao2, cap2, rfl⟩ := aI h2
 by_cases hp : 0 < xs.length
 ·
  obtain ⟨b, off, rfl, hbl⟩ := ab.aS h hp
  obtain ⟨b2, off2, rfl, hbl2⟩ := ab.aS h2 hp
  have H := yh h
  have H2 := yh h2
  clear h h2
  go_enter Tryz.func164, Tryz.ntmps164
  go_wp2_with fail
  go_loopw [5] (fun i wr => ∃ k : Nat, k ≤ xs.length ∧ i = .int .i64 k ∧ Below w.heap.size w wr) (fun i _ => xs.length - (intOf i).toNat)
  case atStart => exact ⟨0, Nat.zero_le _, rfl, Below.refl _ _⟩
  case round =>
   obtain ⟨k, hk, rfl, hB⟩ := hrel
   by_cases hlt : k < xs.length
   ·
    obtain ⟨row, hc, hr⟩ := ab.bE (uh H) hlt
    obtain ⟨rowz, hcz, hrz⟩ := ab.bE (uh H2) hlt
    have hr2 := hr
    obtain ⟨a2, d2, rfl, -⟩ := aM hr2
    have hrz2 := hrz
    obtain ⟨a2z, d2z, rfl, -⟩ := aM hrz2
    have c0 : w.cell? ⟨b, off + k * 5, none⟩ = some (.int .i64 (xs[k]).kind) := ((Below.refl w.heap.size w).cell (p := ⟨b, off + k * 5, none⟩) hbl).trans (hc 0 (by decide))
    have c1 : w.cell? ⟨b, off + k * 5 + 1, none⟩ = some (.int .i64 (xs[k]).id) := ((Below.refl w.heap.size w).cell (p := ⟨b, off + k * 5 + 1, none⟩) hbl).trans (hc 1 (by decide))
    have c2 : w.cell? ⟨b, off + k * 5 + 2, none⟩ = some (.slice a2 (xs[k]).vec.length d2) := ((Below.refl w.heap.size w).cell (p := ⟨b, off + k * 5 + 2, none⟩) hbl).trans (hc 2 (by decide))
    have c3 : w.cell? ⟨b, off + k * 5 + 3, none⟩ = some (.int .i64 (xs[k]).aa) := ((Below.refl w.heap.size w).cell (p := ⟨b, off + k * 5 + 3, none⟩) hbl).trans (hc 3 (by decide))
    have c4 : w.cell? ⟨b, off + k * 5 + 4, none⟩ = some (.int .i64 (xs[k]).seq) := ((Below.refl w.heap.size w).cell (p := ⟨b, off + k * 5 + 4, none⟩) hbl).trans (hc 4 (by decide))
    have c0z : w.cell? ⟨b2, off2 + k * 5, none⟩ = some (.int .i64 (xs[k]).kind) := ((Below.refl w.heap.size w).cell (p := ⟨b2, off2 + k * 5, none⟩) hbl2).trans (hcz 0 (by decide))
    have c1z : w.cell? ⟨b2, off2 + k * 5 + 1, none⟩ = some (.int .i64 (xs[k]).id) := ((Below.refl w.heap.size w).cell (p := ⟨b2, off2 + k * 5 + 1, none⟩) hbl2).trans (hcz 1 (by decide))
    have c2z : w.cell? ⟨b2, off2 + k * 5 + 2, none⟩ = some (.slice a2z (xs[k]).vec.length d2z) := ((Below.refl w.heap.size w).cell (p := ⟨b2, off2 + k * 5 + 2, none⟩) hbl2).trans (hcz 2 (by decide))
    have c3z : w.cell? ⟨b2, off2 + k * 5 + 3, none⟩ = some (.int .i64 (xs[k]).aa) := ((Below.refl w.heap.size w).cell (p := ⟨b2, off2 + k * 5 + 3, none⟩) hbl2).trans (hcz 3 (by decide))
    have c4z : w.cell? ⟨b2, off2 + k * 5 + 4, none⟩ = some (.int .i64 (xs[k]).seq) := ((Below.refl w.heap.size w).cell (p := ⟨b2, off2 + k * 5 + 4, none⟩) hbl2).trans (hcz 4 (by decide))
    clear hc hcz
    have HR := yh hr
    have HRZ := yh hrz
    clear hr hrz
    have HB := yh hB
    clear hB
    generalize hxk : xs[k] = x at *
    clear hxk
    have i1 : (0 : Int) ≤ (k : Int) := by omega
    have i2 : (k : Int) < (xs.length : Int) := by omega
    go_wp2_with fail
    refine wZz (fun w' => Below w.heap.size w w') (uh HB).drew (fun zq => ?_)
    generalize wr.drew = wD at zq ⊢
    refine tkH 0 zq ?_
    refine tkH 1 zq ?_
    refine tkH 2 zq ?_
    refine tkJ 3 (v := ?v3) ?h3 zq ?r3
    case h3 =>
     intro wS hSw
     have y0 := cZ hSw hbl c0
     have y1 := cZ hSw hbl c1
     have y2 := cZ hSw hbl c2
     have y3 := cZ hSw hbl c3
     have y4 := cZ hSw hbl c4
     clear hSw
     exact fZ
    refine tkH 4 zq ?_
    refine tkH 5 zq ?_
    refine tkH 6 zq ?_
    refine tkJ 7 (v := ?v7) ?h7 zq ?r7
    case h7 =>
     intro wS hSw
     have y0z := cZ hSw hbl2 c0z
     have y1z := cZ hSw hbl2 c1z
     have y2z := cZ hSw hbl2 c2z
     have y3z := cZ hSw hbl2 c3z
     have y4z := cZ hSw hbl2 c4z
     clear hSw
     exact fZ
    refine rdH 8 (fun K hK => ?_)
    go_simp
    go_at_call 15
    refine (jL _ _ x _ ((uh HR).later zq) ((uh HRZ).later zq)).mono ?_
    rintro e w3 ⟨rfl, hbw⟩
    try go_wp2_with fail
    refine hK.out _ _ (zq.trans (hbw.mono zq.size)) (fun zq => ?_)
    clear hK K
    try simp only [Act.put, pz, py, px]
    refine tkH 9 zq ?_
    refine dZ ?_
    have HB3 := yh zq
    clear zq c0 c0z c1 c1z c2 c2z c3 c3z c4 c4z HB
    go_wp2_with fail
    go_roundw
    case rel => exact ⟨k + 1, by omega, by go_num, uh HB3⟩
    case measure => simp [intOf]; omega
   have HB := yh hB
   clear hB
   go_wp2_with fail
   go_ret
   exact ⟨rfl, uh HB⟩
 obtain rfl : xs = [] := List.eq_nil_of_length_eq_zero (by omega)
 clear h h2 hp
 simp only [List.length_nil] at *
 go_enter Tryz.func164, Tryz.ntmps164
 go_wp2_with fail
 refine wp_loop_rounds 1 ?_
 rw [rounds_succ]
 go_wp2_with fail
 go_ret
 exact ⟨rfl, Below.refl _ _⟩
theorem ui (cs cs2 : List Value) (x : aV) (w : World) (h : ab.ax.Reads w cs x) (h2 : ab.ax.Reads w cs2 x) :
  Calls Tryz.prog 107 #[.agg cs.toArray, .agg cs2.toArray] w fun e w' => e = .returned (.bool true) ∧ Below w.heap.size w w' := by
 obtain ⟨a4, d4, rfl, R4⟩ := bG h
 obtain ⟨a4z, d4z, rfl, R4z⟩ := bG h2
 clear h h2
 have e0 : (x.id != x.id) = false := by simp
 have e1 : (x.up != x.up) = false := by simp
 have e2 : (x.ae != x.ae) = false := by simp
 have e3 : (x.au != x.au) = false := by simp
 have e5 : (x.sure != x.sure) = false := by simp
 have e6 : (x.clean != x.clean) = false := by simp
 have HB0 : Below w.heap.size w ((w.alloc (.cells #[.int .i64 x.id, .bool x.up, .int .i64 x.ae, .int .i64 x.au, .slice a4 x.writes.length d4, .int .i64 x.sure, .int .i64 x.clean] 63)).alloc (.cells #[.int .i64 x.id, .bool x.up, .int .i64 x.ae, .int .i64 x.au, .slice a4z x.writes.length d4z, .int .i64 x.sure, .int .i64 x.clean] 63)) := ((Below.refl _ _).alloc (Nat.le_refl _) _).alloc (by simp) _
 have bA : aA w.heap.size #[.int .i64 x.id, .bool x.up, .int .i64 x.ae, .int .i64 x.au, .slice a4 x.writes.length d4, .int .i64 x.sure, .int .i64 x.clean] 63 ((w.alloc (.cells #[.int .i64 x.id, .bool x.up, .int .i64 x.ae, .int .i64 x.au, .slice a4 x.writes.length d4, .int .i64 x.sure, .int .i64 x.clean] 63)).alloc (.cells #[.int .i64 x.id, .bool x.up, .int .i64 x.ae, .int .i64 x.au, .slice a4z x.writes.length d4z, .int .i64 x.sure, .int .i64 x.clean] 63)) w.heap.size := (aD (Nat.le_refl _)).grow _
 have bC : aA w.heap.size #[.int .i64 x.id, .bool x.up, .int .i64 x.ae, .int .i64 x.au, .slice a4z x.writes.length d4z, .int .i64 x.sure, .int .i64 x.clean] 63 ((w.alloc (.cells #[.int .i64 x.id, .bool x.up, .int .i64 x.ae, .int .i64 x.au, .slice a4 x.writes.length d4, .int .i64 x.sure, .int .i64 x.clean] 63)).alloc (.cells #[.int .i64 x.id, .bool x.up, .int .i64 x.ae, .int .i64 x.au, .slice a4z x.writes.length d4z, .int .i64 x.sure, .int .i64 x.clean] 63)) (w.heap.size + 1) := bm (by omega) (by simp)
 go_enter Tryz.func107, Tryz.ntmps107
 go_wp2_with fail
 generalize (w.alloc (.cells #[.int .i64 x.id, .bool x.up, .int .i64 x.ae, .int .i64 x.au, .slice a4 x.writes.length d4, .int .i64 x.sure, .int .i64 x.clean] 63)).alloc (.cells #[.int .i64 x.id, .bool x.up, .int .i64 x.ae, .int .i64 x.au, .slice a4z x.writes.length d4z, .int .i64 x.sure, .int .i64 x.clean] 63) = W0 at *
 replace R4 := R4.later HB0
 replace R4z := R4z.later HB0
 refine (qY _ _ x.writes _ R4 R4z).mono ?_
 rintro e w1 ⟨rfl, hb⟩
 replace bA := bA.ai hb
 replace bC := bC.ai hb
 replace HB0 := HB0.trans (hb.mono HB0.size)
 have p5 := bA.at 5 _ rfl
 have q5 := bC.at 5 _ rfl
 have p6 := bA.at 6 _ rfl
 have q6 := bC.at 6 _ rfl
 clear hb
 have HB := yh HB0
 have HA := yh bA
 have HC := yh bC
 clear HB0 bA bC
 go_wp2_with fail
 go_ret
 exact ⟨rfl, uh HB⟩
theorem rM (v v2 : Value) (xs : List aV) (w : World) (h : (ab.sl ab.ax).Reads w [v] xs) (h2 : (ab.sl ab.ax).Reads w [v2] xs) :
  Calls Tryz.prog 48 #[v, v2] w fun e w' => e = .returned (.bool true) ∧ Below w.heap.size w w' := by
 have hbig := h.et
 obtain ⟨ao, cap, rfl⟩ := aI h
 obtain ⟨ao2, cap2, rfl⟩ := aI h2
 by_cases hp : 0 < xs.length
 ·
  obtain ⟨b, off, rfl, hbl⟩ := ab.aS h hp
  obtain ⟨b2, off2, rfl, hbl2⟩ := ab.aS h2 hp
  have H := yh h
  have H2 := yh h2
  clear h h2
  go_enter Tryz.func48, Tryz.ntmps48
  go_wp2_with fail
  go_loopw [5] (fun i wr => ∃ k : Nat, k ≤ xs.length ∧ i = .int .i64 k ∧ Below w.heap.size w wr) (fun i _ => xs.length - (intOf i).toNat)
  case atStart => exact ⟨0, Nat.zero_le _, rfl, Below.refl _ _⟩
  case round =>
   obtain ⟨k, hk, rfl, hB⟩ := hrel
   by_cases hlt : k < xs.length
   ·
    obtain ⟨row, hc, hr⟩ := ab.bE (uh H) hlt
    obtain ⟨rowz, hcz, hrz⟩ := ab.bE (uh H2) hlt
    have hr2 := hr
    obtain ⟨a4, d4, rfl, -⟩ := bG hr2
    have hrz2 := hrz
    obtain ⟨a4z, d4z, rfl, -⟩ := bG hrz2
    have c0 : w.cell? ⟨b, off + k * 7, none⟩ = some (.int .i64 (xs[k]).id) := ((Below.refl w.heap.size w).cell (p := ⟨b, off + k * 7, none⟩) hbl).trans (hc 0 (by decide))
    have c1 : w.cell? ⟨b, off + k * 7 + 1, none⟩ = some (.bool (xs[k]).up) := ((Below.refl w.heap.size w).cell (p := ⟨b, off + k * 7 + 1, none⟩) hbl).trans (hc 1 (by decide))
    have c2 : w.cell? ⟨b, off + k * 7 + 2, none⟩ = some (.int .i64 (xs[k]).ae) := ((Below.refl w.heap.size w).cell (p := ⟨b, off + k * 7 + 2, none⟩) hbl).trans (hc 2 (by decide))
    have c3 : w.cell? ⟨b, off + k * 7 + 3, none⟩ = some (.int .i64 (xs[k]).au) := ((Below.refl w.heap.size w).cell (p := ⟨b, off + k * 7 + 3, none⟩) hbl).trans (hc 3 (by decide))
    have c4 : w.cell? ⟨b, off + k * 7 + 4, none⟩ = some (.slice a4 (xs[k]).writes.length d4) := ((Below.refl w.heap.size w).cell (p := ⟨b, off + k * 7 + 4, none⟩) hbl).trans (hc 4 (by decide))
    have c5 : w.cell? ⟨b, off + k * 7 + 5, none⟩ = some (.int .i64 (xs[k]).sure) := ((Below.refl w.heap.size w).cell (p := ⟨b, off + k * 7 + 5, none⟩) hbl).trans (hc 5 (by decide))
    have c6 : w.cell? ⟨b, off + k * 7 + 6, none⟩ = some (.int .i64 (xs[k]).clean) := ((Below.refl w.heap.size w).cell (p := ⟨b, off + k * 7 + 6, none⟩) hbl).trans (hc 6 (by decide))
    have c0z : w.cell? ⟨b2, off2 + k * 7, none⟩ = some (.int .i64 (xs[k]).id) := ((Below.refl w.heap.size w).cell (p := ⟨b2, off2 + k * 7, none⟩) hbl2).trans (hcz 0 (by decide))
    have c1z : w.cell? ⟨b2, off2 + k * 7 + 1, none⟩ = some (.bool (xs[k]).up) := ((Below.refl w.heap.size w).cell (p := ⟨b2, off2 + k * 7 + 1, none⟩) hbl2).trans (hcz 1 (by decide))
    have c2z : w.cell? ⟨b2, off2 + k * 7 + 2, none⟩ = some (.int .i64 (xs[k]).ae) := ((Below.refl w.heap.size w).cell (p := ⟨b2, off2 + k * 7 + 2, none⟩) hbl2).trans (hcz 2 (by decide))
    have c3z : w.cell? ⟨b2, off2 + k * 7 + 3, none⟩ = some (.int .i64 (xs[k]).au) := ((Below.refl w.heap.size w).cell (p := ⟨b2, off2 + k * 7 + 3, none⟩) hbl2).trans (hcz 3 (by decide))
    have c4z : w.cell? ⟨b2, off2 + k * 7 + 4, none⟩ = some (.slice a4z (xs[k]).writes.length d4z) := ((Below.refl w.heap.size w).cell (p := ⟨b2, off2 + k * 7 + 4, none⟩) hbl2).trans (hcz 4 (by decide))
    have c5z : w.cell? ⟨b2, off2 + k * 7 + 5, none⟩ = some (.int .i64 (xs[k]).sure) := ((Below.refl w.heap.size w).cell (p := ⟨b2, off2 + k * 7 + 5, none⟩) hbl2).trans (hcz 5 (by decide))
    have c6z : w.cell? ⟨b2, off2 + k * 7 + 6, none⟩ = some (.int .i64 (xs[k]).clean) := ((Below.refl w.heap.size w).cell (p := ⟨b2, off2 + k * 7 + 6, none⟩) hbl2).trans (hcz 6 (by decide))
    clear hc hcz
    have HR := yh hr
    have HRZ := yh hrz
    clear hr hrz
    have HB := yh hB
    clear hB
    generalize hxk : xs[k] = x at *
    clear hxk
    have i1 : (0 : Int) ≤ (k : Int) := by omega
    have i2 : (k : Int) < (xs.length : Int) := by omega
    go_wp2_with fail
    refine wZz (fun w' => Below w.heap.size w w') (uh HB).drew (fun zq => ?_)
    generalize wr.drew = wD at zq ⊢
    refine tkH 0 zq ?_
    refine tkH 1 zq ?_
    refine tkH 2 zq ?_
    refine tkJ 3 (v := ?v3) ?h3 zq ?r3
    case h3 =>
     intro wS hSw
     have y0 := cZ hSw hbl c0
     have y1 := cZ hSw hbl c1
     have y2 := cZ hSw hbl c2
     have y3 := cZ hSw hbl c3
     have y4 := cZ hSw hbl c4
     have y5 := cZ hSw hbl c5
     have y6 := cZ hSw hbl c6
     clear hSw
     exact fZ
    refine tkH 4 zq ?_
    refine tkH 5 zq ?_
    refine tkH 6 zq ?_
    refine tkJ 7 (v := ?v7) ?h7 zq ?r7
    case h7 =>
     intro wS hSw
     have y0z := cZ hSw hbl2 c0z
     have y1z := cZ hSw hbl2 c1z
     have y2z := cZ hSw hbl2 c2z
     have y3z := cZ hSw hbl2 c3z
     have y4z := cZ hSw hbl2 c4z
     have y5z := cZ hSw hbl2 c5z
     have y6z := cZ hSw hbl2 c6z
     clear hSw
     exact fZ
    refine rdH 8 (fun K hK => ?_)
    go_simp
    go_at_call 107
    refine (ui _ _ x _ ((uh HR).later zq) ((uh HRZ).later zq)).mono ?_
    rintro e w3 ⟨rfl, hbw⟩
    try go_wp2_with fail
    refine hK.out _ _ (zq.trans (hbw.mono zq.size)) (fun zq => ?_)
    clear hK K
    try simp only [Act.put, pz, py, px]
    refine tkH 9 zq ?_
    refine dZ ?_
    have HB3 := yh zq
    clear zq c0 c0z c1 c1z c2 c2z c3 c3z c4 c4z c5 c5z c6 c6z HB
    go_wp2_with fail
    go_roundw
    case rel => exact ⟨k + 1, by omega, by go_num, uh HB3⟩
    case measure => simp [intOf]; omega
   have HB := yh hB
   clear hB
   go_wp2_with fail
   go_ret
   exact ⟨rfl, uh HB⟩
 obtain rfl : xs = [] := List.eq_nil_of_length_eq_zero (by omega)
 clear h h2 hp
 simp only [List.length_nil] at *
 go_enter Tryz.func48, Tryz.ntmps48
 go_wp2_with fail
 refine wp_loop_rounds 1 ?_
 rw [rounds_succ]
 go_wp2_with fail
 go_ret
 exact ⟨rfl, Below.refl _ _⟩
theorem uR (cs cs2 : List Value) (x : bP) (w : World) (h : ab.aQ.Reads w cs x) (h2 : ab.aQ.Reads w cs2 x) :
  Calls Tryz.prog 108 #[.agg cs.toArray, .agg cs2.toArray] w fun e w' => e = .returned (.bool true) ∧ Below w.heap.size w w' := by
 obtain ⟨a7, d7, rfl, R5⟩ := cN h
 obtain ⟨a7z, d7z, rfl, R5z⟩ := cN h2
 clear h h2
 have e0 : (x.kind != x.kind) = false := by simp
 have e1 : (x.ae != x.ae) = false := by simp
 have e2 : (x.src != x.src) = false := by simp
 have e3 : (x.dst != x.dst) = false := by simp
 have e4 : (x.index != x.index) = false := by simp
 have e5 : (x.write.kind != x.write.kind) = false := by simp
 have e6 : (x.write.id != x.write.id) = false := by simp
 have e8 : (x.write.aa != x.write.aa) = false := by simp
 have e9 : (x.write.seq != x.write.seq) = false := by simp
 have HB0 : Below w.heap.size w ((w.alloc (.cells #[.int .i64 x.kind, .int .i64 x.ae, .int .i64 x.src, .int .i64 x.dst, .int .i64 x.index, .int .i64 x.write.kind, .int .i64 x.write.id, .slice a7 x.write.vec.length d7, .int .i64 x.write.aa, .int .i64 x.write.seq] 60)).alloc (.cells #[.int .i64 x.kind, .int .i64 x.ae, .int .i64 x.src, .int .i64 x.dst, .int .i64 x.index, .int .i64 x.write.kind, .int .i64 x.write.id, .slice a7z x.write.vec.length d7z, .int .i64 x.write.aa, .int .i64 x.write.seq] 60)) := ((Below.refl _ _).alloc (Nat.le_refl _) _).alloc (by simp) _
 have bA : aA w.heap.size #[.int .i64 x.kind, .int .i64 x.ae, .int .i64 x.src, .int .i64 x.dst, .int .i64 x.index, .int .i64 x.write.kind, .int .i64 x.write.id, .slice a7 x.write.vec.length d7, .int .i64 x.write.aa, .int .i64 x.write.seq] 60 ((w.alloc (.cells #[.int .i64 x.kind, .int .i64 x.ae, .int .i64 x.src, .int .i64 x.dst, .int .i64 x.index, .int .i64 x.write.kind, .int .i64 x.write.id, .slice a7 x.write.vec.length d7, .int .i64 x.write.aa, .int .i64 x.write.seq] 60)).alloc (.cells #[.int .i64 x.kind, .int .i64 x.ae, .int .i64 x.src, .int .i64 x.dst, .int .i64 x.index, .int .i64 x.write.kind, .int .i64 x.write.id, .slice a7z x.write.vec.length d7z, .int .i64 x.write.aa, .int .i64 x.write.seq] 60)) w.heap.size := (aD (Nat.le_refl _)).grow _
 have bC : aA w.heap.size #[.int .i64 x.kind, .int .i64 x.ae, .int .i64 x.src, .int .i64 x.dst, .int .i64 x.index, .int .i64 x.write.kind, .int .i64 x.write.id, .slice a7z x.write.vec.length d7z, .int .i64 x.write.aa, .int .i64 x.write.seq] 60 ((w.alloc (.cells #[.int .i64 x.kind, .int .i64 x.ae, .int .i64 x.src, .int .i64 x.dst, .int .i64 x.index, .int .i64 x.write.kind, .int .i64 x.write.id, .slice a7 x.write.vec.length d7, .int .i64 x.write.aa, .int .i64 x.write.seq] 60)).alloc (.cells #[.int .i64 x.kind, .int .i64 x.ae, .int .i64 x.src, .int .i64 x.dst, .int .i64 x.index, .int .i64 x.write.kind, .int .i64 x.write.id, .slice a7z x.write.vec.length d7z, .int .i64 x.write.aa, .int .i64 x.write.seq] 60)) (w.heap.size + 1) := bm (by omega) (by simp)
 go_enter Tryz.func108, Tryz.ntmps108
 go_wp2_with fail
 generalize (w.alloc (.cells #[.int .i64 x.kind, .int .i64 x.ae, .int .i64 x.src, .int .i64 x.dst, .int .i64 x.index, .int .i64 x.write.kind, .int .i64 x.write.id, .slice a7 x.write.vec.length d7, .int .i64 x.write.aa, .int .i64 x.write.seq] 60)).alloc (.cells #[.int .i64 x.kind, .int .i64 x.ae, .int .i64 x.src, .int .i64 x.dst, .int .i64 x.index, .int .i64 x.write.kind, .int .i64 x.write.id, .slice a7z x.write.vec.length d7z, .int .i64 x.write.aa, .int .i64 x.write.seq] 60) = W0 at *
 replace R5 := R5.later HB0
 replace R5z := R5z.later HB0
 refine (jL _ _ x.write _ R5 R5z).mono ?_
 rintro e w1 ⟨rfl, hb⟩
 replace bA := bA.ai hb
 replace bC := bC.ai hb
 replace HB0 := HB0.trans (hb.mono HB0.size)
 clear hb
 have HB := yh HB0
 have HA := yh bA
 have HC := yh bC
 clear HB0 bA bC
 go_wp2_with fail
 go_ret
 exact ⟨rfl, uh HB⟩
end Go.Proofs.YtomphbenbnnfgaaGreatDoor
