/-
  Texts of this proof in one: ToNodeS, ToMsg, ToMsgS, ToHit, ToHitS, ToEntry, ToEntryS.
  Their conditions stand in their theorems.
-/
import Derived.Test.YtecagllmonckgaaGreatChecked
import Derived.Test.YtecagllmonckgaaGreatLi01
import Derived.Test.YtecagllmonckgaaGreatLi02
import Derived.WalkKit
import Derived.Test.YtecagllmonckgaaGreatLi00
set_option maxRecDepth 100000
set_option maxHeartbeats 4000000
namespace Go.Proofs.YtecagllmonckgaaGreat
open Go.RowKit
theorem kh : (Tryz.prog.info? 79).map (fun i => (i.zero, i.size, decide (i.bytes ≤ 1000))) = some (some (.agg #[.int .i64 0, .bool false, .int .i64 0, .int .i64 0, .slice none 0 0, .int .i64 0, .int .i64 0]), 7, true) := by kernel_rfl
theorem kt (v : Value) (xs : List bn) (w : World) (h : (ad.sl ad.aP).Reads w [v] xs) (hn : (ad.sl ad.aP).sz xs ≤ 1048576) :
  Calls Tryz.prog 54 #[v] w fun e w' => ∃ v', e = .returned v' ∧ (ad.sl ad.aP).a0 w' [v'] xs w.heap.size w'.heap.size ∧ Below w.heap.size w w' := by
 have hbig := h.cK
 obtain ⟨ao, cap, rfl⟩ := aB h
 have hlen : xs.length ≤ 1048576 := Nat.le_trans ad.fp hn
 obtain ⟨i0, hi, hz0, hz1, hz2⟩ : ∃ i, Tryz.prog.info? 79 = some i ∧ i.zero = some (.agg #[.int .i64 0, .bool false, .int .i64 0, .int .i64 0, .slice none 0 0, .int .i64 0, .int .i64 0]) ∧ i.size = 7 ∧ i.bytes ≤ 1000 := by
  have := kh
  cases hq : Tryz.prog.info? 79 with
  | none => rw [hq] at this; simp at this
  | some i =>
   rw [hq] at this
   simp only [Option.map_some, Option.some.injEq, Prod.mk.injEq, decide_eq_true_eq] at this
   exact ⟨i, rfl, this.1, this.2.1, this.2.2⟩
 have H := yh h
 have HN := yh hn
 clear h hn
 go_enter Tryz.func54, Tryz.ntmps54
 go_wp2_with (at_make; refine wpList_make_full _ rfl _ _ 33 rfl w.heap.size 79 i0 _ 7 Tryz.underlying33 hi hz0 hz1 _ _ _ _ xs.length rfl rfl rfl rfl ?c1 ?c2 ?c3 ?_)
 case c1 => have := Nat.mul_le_mul hz2 hlen; omega
 case c2 => unfold maxLen; omega
 case c3 => exact Nat.le_refl _
 intro w1 hown1 hgrow1
 have hB1 : Below w.heap.size w w1 := (Below.refl _ _).grown hgrow1 (Nat.le_refl _) (by simp)
 clear hgrow1 hi hz0 hz1 hz2
 have HO1 := yh hown1
 have HB1 := yh hB1
 clear hown1 hB1
 go_wp2_with fail
 go_loopw [4] (fun i wr => ∃ (k : Nat) (rows : List (List Value)) (Q : List Value) (hi : Nat), k ≤ xs.length ∧ i = .int .i64 k ∧ wr.ownsRow w.heap.size 79 7 (.slice (some ⟨w.heap.size, 0, none⟩) xs.length xs.length) xs.length (rows.flatten ++ Q) ∧ Q.length = (xs.length - k) * 7 ∧ ad.eI ad.aP wr rows (xs.take k) (w.heap.size + 1) hi ∧ hi ≤ wr.heap.size ∧ w.heap.size < hi ∧ Below w.heap.size w wr) (fun i _ => xs.length - (intOf i).toNat)
 case atStart =>
  have hl := ((uh HO1).lt w.heap.size rfl).2
  exact ⟨0, [], _, w1.heap.size, Nat.zero_le _, rfl, by simpa using uh HO1, by have := (uh HO1).1; simpa using this, ad.de, Nat.le_refl _, hl, uh HB1⟩
 case round =>
  obtain ⟨k, rows, Q, hi, hk, rfl, hown, hQ, hsub, hhi, hlo, hB⟩ := hrel
  clear HO1 HB1
  by_cases hlt : k < xs.length
  ·
   obtain ⟨b, off, rfl, hbl⟩ := ad.aD (uh H) (by omega)
   obtain ⟨row, hc, hr⟩ := ad.aR (uh H) hlt
   replace hr := hr.af hB
   have hr2 := hr
   obtain ⟨a4, d4, rfl, -⟩ := aQ hr2
   have c0 : wr.cell? ⟨b, off + k * 7, none⟩ = some (.int .i64 (xs[k]).id) := (hB.cell (p := ⟨b, off + k * 7, none⟩) hbl).trans (hc 0 (by decide))
   have c1 : wr.cell? ⟨b, off + k * 7 + 1, none⟩ = some (.bool (xs[k]).up) := (hB.cell (p := ⟨b, off + k * 7 + 1, none⟩) hbl).trans (hc 1 (by decide))
   have c2 : wr.cell? ⟨b, off + k * 7 + 2, none⟩ = some (.int .i64 (xs[k]).ab) := (hB.cell (p := ⟨b, off + k * 7 + 2, none⟩) hbl).trans (hc 2 (by decide))
   have c3 : wr.cell? ⟨b, off + k * 7 + 3, none⟩ = some (.int .i64 (xs[k]).ai) := (hB.cell (p := ⟨b, off + k * 7 + 3, none⟩) hbl).trans (hc 3 (by decide))
   have c4 : wr.cell? ⟨b, off + k * 7 + 4, none⟩ = some (.slice a4 (xs[k]).writes.length d4) := (hB.cell (p := ⟨b, off + k * 7 + 4, none⟩) hbl).trans (hc 4 (by decide))
   have c5 : wr.cell? ⟨b, off + k * 7 + 5, none⟩ = some (.int .i64 (xs[k]).sure) := (hB.cell (p := ⟨b, off + k * 7 + 5, none⟩) hbl).trans (hc 5 (by decide))
   have c6 : wr.cell? ⟨b, off + k * 7 + 6, none⟩ = some (.int .i64 (xs[k]).clean) := (hB.cell (p := ⟨b, off + k * 7 + 6, none⟩) hbl).trans (hc 6 (by decide))
   have hrl : rows.flatten.length = k * 7 := by have := (ad.db hsub).1; rw [List.length_take, Nat.min_eq_left hk] at this; exact this
   have hsz := Nat.le_trans (ad.dV (A := ad.aP) hlt) (uh HN)
   have HT : Hid (xs.take (k + 1) = xs.take k ++ [xs[k]]) := List.take_succ_eq_append_getElem hlt
   have HB := yh hB
   have HR := yh hr
   have HO := yh hown
   have HS := yh hsub
   have HQ := yh hQ
   clear hB hr hc hown hsub hQ
   generalize hxk : xs[k] = x at *
   clear hxk
   go_wp2_with fail
   refine (kV _ x wr (uh HR) hsz).mono ?_
   rintro e w2 ⟨cs2, rfl, O, hb⟩
   have o2 := cM (uh HO) hb
   replace HS := yh (ad.cO (ad.bY (uh HS) (bf hb cT) (fun _ _ _ h => h)) O (by omega) (by omega) (Nat.le_trans hhi hb.size))
   have hb2 := (uh HB).trans (hb.mono (uh HB).size)
   have hz := hb.size
   have orr := O.reads
   obtain ⟨a4z, d4z, rfl, -⟩ := aQ orr
   clear hb HR HB HO O c0 c1 c2 c3 c4 c5 c6
   have hQ := uh HQ
   have hl5 : (rows.flatten ++ Q).length = xs.length * 7 := o2.1
   obtain ⟨u0, g0⟩ : ∃ u, w2.cell? ⟨w.heap.size, k * 7, none⟩ = some u := by
    rw [o2.cellAt (k * 7) (by omega)]
    exact gZ (by omega)
   have t0 := o2.frozenAt (k * 7)
   obtain ⟨u1, g1⟩ : ∃ u, w2.cell? ⟨w.heap.size, k * 7 + 1, none⟩ = some u := by
    rw [o2.cellAt (k * 7 + 1) (by omega)]
    exact gZ (by omega)
   have t1 := o2.frozenAt (k * 7 + 1)
   obtain ⟨u2, g2⟩ : ∃ u, w2.cell? ⟨w.heap.size, k * 7 + 2, none⟩ = some u := by
    rw [o2.cellAt (k * 7 + 2) (by omega)]
    exact gZ (by omega)
   have t2 := o2.frozenAt (k * 7 + 2)
   obtain ⟨u3, g3⟩ : ∃ u, w2.cell? ⟨w.heap.size, k * 7 + 3, none⟩ = some u := by
    rw [o2.cellAt (k * 7 + 3) (by omega)]
    exact gZ (by omega)
   have t3 := o2.frozenAt (k * 7 + 3)
   obtain ⟨u4, g4⟩ : ∃ u, w2.cell? ⟨w.heap.size, k * 7 + 4, none⟩ = some u := by
    rw [o2.cellAt (k * 7 + 4) (by omega)]
    exact gZ (by omega)
   have t4 := o2.frozenAt (k * 7 + 4)
   obtain ⟨u5, g5⟩ : ∃ u, w2.cell? ⟨w.heap.size, k * 7 + 5, none⟩ = some u := by
    rw [o2.cellAt (k * 7 + 5) (by omega)]
    exact gZ (by omega)
   have t5 := o2.frozenAt (k * 7 + 5)
   obtain ⟨u6, g6⟩ : ∃ u, w2.cell? ⟨w.heap.size, k * 7 + 6, none⟩ = some u := by
    rw [o2.cellAt (k * 7 + 6) (by omega)]
    exact gZ (by omega)
   have t6 := o2.frozenAt (k * 7 + 6)
   have o3 := cz o2 (k * 7) [.int .i64 x.id, .bool x.up, .int .i64 x.ab, .int .i64 x.ai, .slice a4z x.writes.length d4z, .int .i64 x.sure, .int .i64 x.clean]
   rw [show k * 7 = rows.flatten.length from hrl.symm, cq _ _ _ (by rw [hQ]; simp; have : 1 * 7 ≤ (xs.length - k) * 7 := Nat.mul_le_mul_right _ (by omega); omega), hrl] at o3
   have E : Ext (fun q => q = w.heap.size) w2 (bg w2 w.heap.size (k * 7) [.int .i64 x.id, .bool x.up, .int .i64 x.ab, .int .i64 x.ai, .slice a4z x.writes.length d4z, .int .i64 x.sure, .int .i64 x.clean]) := cy _ (Ext.refl _ _) _ _ _ rfl
   replace HS := yh (ad.bY (uh HS) E (fun q h1 h2 h3 => by omega))
   have HB := yh (bD hb2 w.heap.size (k * 7) [.int .i64 x.id, .bool x.up, .int .i64 x.ab, .int .i64 x.ai, .slice a4z x.writes.length d4z, .int .i64 x.sure, .int .i64 x.clean] (Nat.le_refl _))
   have HZ : Hid ((bg w2 w.heap.size (k * 7) [.int .i64 x.id, .bool x.up, .int .i64 x.ab, .int .i64 x.ai, .slice a4z x.writes.length d4z, .int .i64 x.sure, .int .i64 x.clean]).heap.size = w2.heap.size) := cl _ _ _ _
   have HO : Hid ((bg w2 w.heap.size (k * 7) [.int .i64 x.id, .bool x.up, .int .i64 x.ab, .int .i64 x.ai, .slice a4z x.writes.length d4z, .int .i64 x.sure, .int .i64 x.clean]).ownsRow w.heap.size 79 7 (.slice (some ⟨w.heap.size, 0, none⟩) xs.length xs.length) xs.length ((rows ++ [([.int .i64 x.id, .bool x.up, .int .i64 x.ab, .int .i64 x.ai, .slice a4z x.writes.length d4z, .int .i64 x.sure, .int .i64 x.clean] : List Value)]).flatten ++ Q.drop 7)) := by
    show (bg w2 w.heap.size (k * 7) [.int .i64 x.id, .bool x.up, .int .i64 x.ab, .int .i64 x.ai, .slice a4z x.writes.length d4z, .int .i64 x.sure, .int .i64 x.clean]).ownsRow w.heap.size 79 7 (.slice (some ⟨w.heap.size, 0, none⟩) xs.length xs.length) xs.length ((rows ++ [([.int .i64 x.id, .bool x.up, .int .i64 x.ab, .int .i64 x.ai, .slice a4z x.writes.length d4z, .int .i64 x.sure, .int .i64 x.clean] : List Value)]).flatten ++ Q.drop 7)
    rw [List.flatten_append]
    simpa using o3
   have hl2 := (o2.lt w.heap.size rfl).2
   clear o3 o2 E hb2 hl5
   have hQ2 : Hid ((Q.drop 7).length = (xs.length - (k + 1)) * 7) := by
    show (Q.drop 7).length = (xs.length - (k + 1)) * 7
    rw [List.length_drop, hQ, show xs.length - k = xs.length - (k + 1) + 1 by omega, Nat.add_mul]
    omega
   clear hQ HQ
   go_wp2_with fail
   go_roundw
   case rel => exact ⟨k + 1, rows ++ [([.int .i64 x.id, .bool x.up, .int .i64 x.ab, .int .i64 x.ai, .slice a4z x.writes.length d4z, .int .i64 x.sure, .int .i64 x.clean] : List Value)], Q.drop 7, w2.heap.size, by omega, by go_num, uh HO, uh hQ2, (by rw [uh HT]; exact uh HS), Nat.le_of_eq (uh HZ).symm, by omega, uh HB⟩
   case measure => simp [intOf]; omega
  obtain rfl : k = xs.length := by omega
  have e0 : Q = [] := List.eq_nil_of_length_eq_zero (by rw [hQ]; simp)
  subst e0
  rw [List.append_nil] at hown
  rw [List.take_length] at hsub
  have HO := yh (ad.cL (A := ad.aP) hown hsub (by omega) hhi hbig)
  have HB := yh hB
  clear hown hsub hB
  go_wp2_with fail
  go_ret
  exact ⟨_, rfl, uh HO, uh HB⟩
theorem lX (cs : List Value) (x : bq) (w : World) (h : ad.bm.Reads w cs x) (hn : ad.bm.sz x ≤ 1048576) :
  Calls Tryz.prog 107 #[.agg cs.toArray] w fun e w' => ∃ cs', e = .returned (.agg cs'.toArray) ∧ ad.bm.a0 w' cs' x w.heap.size w'.heap.size ∧ Below w.heap.size w w' := by
 have h0 := h
 obtain ⟨bl, hl⟩ := h0
 obtain ⟨-, -, -, -, -, f0, f1, f2, f3, f4, f5, f6, -, f8, f9⟩ := gG.1 hl
 clear hl
 obtain ⟨a7, d7, rfl, R5⟩ := bE h
 clear h
 rw [gh] at hn
 have HF := yh (And.intro f0 (And.intro f1 (And.intro f2 (And.intro f3 (And.intro f4 (And.intro f5 (And.intro f6 (And.intro f8 (f9)))))))))
 clear f0 f1 f2 f3 f4 f5 f6 f8 f9
 have HB0 : Below w.heap.size w (((w.alloc (.cells #[.int .i64 x.kind, .int .i64 x.ab, .int .i64 x.src, .int .i64 x.dst, .int .i64 x.index, .int .i64 x.write.kind, .int .i64 x.write.id, .slice a7 x.write.vec.length d7, .int .i64 x.write.aa, .int .i64 x.write.seq] 134)).alloc (.cells #[.int .i64 0, .int .i64 0, .int .i64 0, .int .i64 0, .int .i64 0, .int .i64 0, .int .i64 0, .slice none 0 0, .int .i64 0, .int .i64 0] 145)).alloc (.cells #[.int .i64 x.kind, .int .i64 x.ab, .int .i64 x.src, .int .i64 x.dst, .int .i64 x.index, .int .i64 0, .int .i64 0, .slice none 0 0, .int .i64 0, .int .i64 0] 145)) := (((Below.refl _ _).alloc (Nat.le_refl _) _).alloc (by simp) _).alloc (by simp; omega) _
 have bA : ar w.heap.size #[.int .i64 x.kind, .int .i64 x.ab, .int .i64 x.src, .int .i64 x.dst, .int .i64 x.index, .int .i64 x.write.kind, .int .i64 x.write.id, .slice a7 x.write.vec.length d7, .int .i64 x.write.aa, .int .i64 x.write.seq] 134 (((w.alloc (.cells #[.int .i64 x.kind, .int .i64 x.ab, .int .i64 x.src, .int .i64 x.dst, .int .i64 x.index, .int .i64 x.write.kind, .int .i64 x.write.id, .slice a7 x.write.vec.length d7, .int .i64 x.write.aa, .int .i64 x.write.seq] 134)).alloc (.cells #[.int .i64 0, .int .i64 0, .int .i64 0, .int .i64 0, .int .i64 0, .int .i64 0, .int .i64 0, .slice none 0 0, .int .i64 0, .int .i64 0] 145)).alloc (.cells #[.int .i64 x.kind, .int .i64 x.ab, .int .i64 x.src, .int .i64 x.dst, .int .i64 x.index, .int .i64 0, .int .i64 0, .slice none 0 0, .int .i64 0, .int .i64 0] 145)) w.heap.size := ((aM (Nat.le_refl _)).grow _).grow _
 have bR : ar w.heap.size #[.int .i64 0, .int .i64 0, .int .i64 0, .int .i64 0, .int .i64 0, .int .i64 0, .int .i64 0, .slice none 0 0, .int .i64 0, .int .i64 0] 145 (((w.alloc (.cells #[.int .i64 x.kind, .int .i64 x.ab, .int .i64 x.src, .int .i64 x.dst, .int .i64 x.index, .int .i64 x.write.kind, .int .i64 x.write.id, .slice a7 x.write.vec.length d7, .int .i64 x.write.aa, .int .i64 x.write.seq] 134)).alloc (.cells #[.int .i64 0, .int .i64 0, .int .i64 0, .int .i64 0, .int .i64 0, .int .i64 0, .int .i64 0, .slice none 0 0, .int .i64 0, .int .i64 0] 145)).alloc (.cells #[.int .i64 x.kind, .int .i64 x.ab, .int .i64 x.src, .int .i64 x.dst, .int .i64 x.index, .int .i64 0, .int .i64 0, .slice none 0 0, .int .i64 0, .int .i64 0] 145)) (w.heap.size + 1) := (aX (by omega) (by simp)).grow _
 have bX : ar w.heap.size #[.int .i64 x.kind, .int .i64 x.ab, .int .i64 x.src, .int .i64 x.dst, .int .i64 x.index, .int .i64 0, .int .i64 0, .slice none 0 0, .int .i64 0, .int .i64 0] 145 (((w.alloc (.cells #[.int .i64 x.kind, .int .i64 x.ab, .int .i64 x.src, .int .i64 x.dst, .int .i64 x.index, .int .i64 x.write.kind, .int .i64 x.write.id, .slice a7 x.write.vec.length d7, .int .i64 x.write.aa, .int .i64 x.write.seq] 134)).alloc (.cells #[.int .i64 0, .int .i64 0, .int .i64 0, .int .i64 0, .int .i64 0, .int .i64 0, .int .i64 0, .slice none 0 0, .int .i64 0, .int .i64 0] 145)).alloc (.cells #[.int .i64 x.kind, .int .i64 x.ab, .int .i64 x.src, .int .i64 x.dst, .int .i64 x.index, .int .i64 0, .int .i64 0, .slice none 0 0, .int .i64 0, .int .i64 0] 145)) (w.heap.size + 2) := aX (by omega) (by simp)
 have hz0 : w.heap.size + 3 ≤ (((w.alloc (.cells #[.int .i64 x.kind, .int .i64 x.ab, .int .i64 x.src, .int .i64 x.dst, .int .i64 x.index, .int .i64 x.write.kind, .int .i64 x.write.id, .slice a7 x.write.vec.length d7, .int .i64 x.write.aa, .int .i64 x.write.seq] 134)).alloc (.cells #[.int .i64 0, .int .i64 0, .int .i64 0, .int .i64 0, .int .i64 0, .int .i64 0, .int .i64 0, .slice none 0 0, .int .i64 0, .int .i64 0] 145)).alloc (.cells #[.int .i64 x.kind, .int .i64 x.ab, .int .i64 x.src, .int .i64 x.dst, .int .i64 x.index, .int .i64 0, .int .i64 0, .slice none 0 0, .int .i64 0, .int .i64 0] 145)).heap.size := by simp
 go_enter Tryz.func107, Tryz.ntmps107
 go_wp2_with fail
 generalize ((w.alloc (.cells #[.int .i64 x.kind, .int .i64 x.ab, .int .i64 x.src, .int .i64 x.dst, .int .i64 x.index, .int .i64 x.write.kind, .int .i64 x.write.id, .slice a7 x.write.vec.length d7, .int .i64 x.write.aa, .int .i64 x.write.seq] 134)).alloc (.cells #[.int .i64 0, .int .i64 0, .int .i64 0, .int .i64 0, .int .i64 0, .int .i64 0, .int .i64 0, .slice none 0 0, .int .i64 0, .int .i64 0] 145)).alloc (.cells #[.int .i64 x.kind, .int .i64 x.ab, .int .i64 x.src, .int .i64 x.dst, .int .i64 x.index, .int .i64 0, .int .i64 0, .slice none 0 0, .int .i64 0, .int .i64 0] 145) = W0 at *
 replace R5 := R5.af HB0
 refine (gU _ x.write W0 R5 (by omega)).mono ?_
 rintro e w1 ⟨v5, rfl, O5, hb⟩
 have Z0 : W0.heap.size ≤ w1.heap.size := hb.size
 replace HB0 := HB0.trans (hb.mono HB0.size)
 replace bA := bA.au hb
 replace bR := bR.au hb
 replace bX := bX.au hb
 clear hb R5
 obtain ⟨a7z, d7z, rfl, -⟩ := aI O5.reads
 have q0 := bX.at 0 _ rfl
 have q1 := bX.at 1 _ rfl
 have q2 := bX.at 2 _ rfl
 have q3 := bX.at 3 _ rfl
 have q4 := bX.at 4 _ rfl
 have q5 := bX.at 5 _ rfl
 have q6 := bX.at 6 _ rfl
 have q7 := bX.at 7 _ rfl
 have q8 := bX.at 8 _ rfl
 have q9 := bX.at 9 _ rfl
 have qf := bX.soft
 have ql := bX.lt
 have pl := bA.lt
 have r0 := bR.at 0 _ rfl
 have r1 := bR.at 1 _ rfl
 have r2 := bR.at 2 _ rfl
 have r3 := bR.at 3 _ rfl
 have r4 := bR.at 4 _ rfl
 have r5 := bR.at 5 _ rfl
 have r6 := bR.at 6 _ rfl
 have r7 := bR.at 7 _ rfl
 have r8 := bR.at 8 _ rfl
 have r9 := bR.at 9 _ rfl
 have rf := bR.soft
 have rl := bR.lt
 simp only [ga, gb, gc] at q0 q1 q2 q3 q4 q5 q6 q7 q8 q9 r0 r1 r2 r3 r4 r5 r6 r7 r8 r9
 have hA := yh bA
 have hR := yh bR
 have hX := yh bX
 have hB := yh HB0
 clear bA bR bX HB0
 have hO5 := yh O5
 clear O5
 go_wp2_with fail
 refine bodyPost_ret (v := .agg #[.int .i64 x.kind, .int .i64 x.ab, .int .i64 x.src, .int .i64 x.dst, .int .i64 x.index, .int .i64 x.write.kind, .int .i64 x.write.id, .slice a7z x.write.vec.length d7z, .int .i64 x.write.aa, .int .i64 x.write.seq]) (by simp [results, Tryz.results107, go_sem, r0, r1, r2, r3, r4, r5, r6, r7, r8, r9]) rfl ?_
 have E : Ext (fun q => q = w.heap.size + 2 ∨ q = w.heap.size + 1) w1 _ := bp (bp (Ext.refl _ _) (w.heap.size + 2) [(5, .int .i64 x.write.kind), (6, .int .i64 x.write.id), (7, .slice a7z x.write.vec.length d7z), (8, .int .i64 x.write.aa), (9, .int .i64 x.write.seq)] (Or.inl rfl)) (w.heap.size + 1) [(0, .int .i64 x.kind), (1, .int .i64 x.ab), (2, .int .i64 x.src), (3, .int .i64 x.dst), (4, .int .i64 x.index), (5, .int .i64 x.write.kind), (6, .int .i64 x.write.id), (7, .slice a7z x.write.vec.length d7z), (8, .int .i64 x.write.aa), (9, .int .i64 x.write.seq)] (Or.inr rfl)
 obtain ⟨f0, f1, f2, f3, f4, f5, f6, f8, f9⟩ := uh HF
 have own : ad.bm.a0 _ [.int .i64 x.kind, .int .i64 x.ab, .int .i64 x.src, .int .i64 x.dst, .int .i64 x.index, .int .i64 x.write.kind, .int .i64 x.write.id, .slice a7z x.write.vec.length d7z, .int .i64 x.write.aa, .int .i64 x.write.seq] x w.heap.size w1.heap.size := (ad.az (ad.aK (lo := w.heap.size) (hi := w.heap.size) f0) (ad.az (ad.aK (lo := w.heap.size) (hi := w.heap.size) f1) (ad.az (ad.aK (lo := w.heap.size) (hi := w.heap.size) f2) (ad.az (ad.aK (lo := w.heap.size) (hi := w.heap.size) f3) (ad.az (ad.aK (lo := w.heap.size) (hi := w.heap.size) f4) ((uh hO5).ext E (fun k h1 h2 h3 => by omega)) (by omega) (by omega) (by omega)) (by omega) (by omega) (by omega)) (by omega) (by omega) (by omega)) (by omega) (by omega) (by omega)) (by omega) (by omega) (by omega))
 have hsz := E.size
 have told := ad.dk (w := w) own (by omega) (by omega) ((uh hB).trans (E.below (uh hB).size (fun k h1 h2 => by omega)))
 exact told
theorem kO : (Tryz.prog.info? 145).map (fun i => (i.zero, i.size, decide (i.bytes ≤ 1000))) = some (some (.agg #[.int .i64 0, .int .i64 0, .int .i64 0, .int .i64 0, .int .i64 0, .int .i64 0, .int .i64 0, .slice none 0 0, .int .i64 0, .int .i64 0]), 10, true) := by kernel_rfl
theorem k8 (v : Value) (xs : List bq) (w : World) (h : (ad.sl ad.bm).Reads w [v] xs) (hn : (ad.sl ad.bm).sz xs ≤ 1048576) :
  Calls Tryz.prog 55 #[v] w fun e w' => ∃ v', e = .returned v' ∧ (ad.sl ad.bm).a0 w' [v'] xs w.heap.size w'.heap.size ∧ Below w.heap.size w w' := by
 have hbig := h.cK
 obtain ⟨ao, cap, rfl⟩ := aB h
 have hlen : xs.length ≤ 1048576 := Nat.le_trans ad.fp hn
 obtain ⟨i0, hi, hz0, hz1, hz2⟩ : ∃ i, Tryz.prog.info? 145 = some i ∧ i.zero = some (.agg #[.int .i64 0, .int .i64 0, .int .i64 0, .int .i64 0, .int .i64 0, .int .i64 0, .int .i64 0, .slice none 0 0, .int .i64 0, .int .i64 0]) ∧ i.size = 10 ∧ i.bytes ≤ 1000 := by
  have := kO
  cases hq : Tryz.prog.info? 145 with
  | none => rw [hq] at this; simp at this
  | some i =>
   rw [hq] at this
   simp only [Option.map_some, Option.some.injEq, Prod.mk.injEq, decide_eq_true_eq] at this
   exact ⟨i, rfl, this.1, this.2.1, this.2.2⟩
 have H := yh h
 have HN := yh hn
 clear h hn
 go_enter Tryz.func55, Tryz.ntmps55
 go_wp2_with (at_make; refine wpList_make_full _ rfl _ _ 34 rfl w.heap.size 145 i0 _ 10 Tryz.underlying34 hi hz0 hz1 _ _ _ _ xs.length rfl rfl rfl rfl ?c1 ?c2 ?c3 ?_)
 case c1 => have := Nat.mul_le_mul hz2 hlen; omega
 case c2 => unfold maxLen; omega
 case c3 => exact Nat.le_refl _
 intro w1 hown1 hgrow1
 have hB1 : Below w.heap.size w w1 := (Below.refl _ _).grown hgrow1 (Nat.le_refl _) (by simp)
 clear hgrow1 hi hz0 hz1 hz2
 have HO1 := yh hown1
 have HB1 := yh hB1
 clear hown1 hB1
 go_wp2_with fail
 go_loopw [4] (fun i wr => ∃ (k : Nat) (rows : List (List Value)) (Q : List Value) (hi : Nat), k ≤ xs.length ∧ i = .int .i64 k ∧ wr.ownsRow w.heap.size 145 10 (.slice (some ⟨w.heap.size, 0, none⟩) xs.length xs.length) xs.length (rows.flatten ++ Q) ∧ Q.length = (xs.length - k) * 10 ∧ ad.eI ad.bm wr rows (xs.take k) (w.heap.size + 1) hi ∧ hi ≤ wr.heap.size ∧ w.heap.size < hi ∧ Below w.heap.size w wr) (fun i _ => xs.length - (intOf i).toNat)
 case atStart =>
  have hl := ((uh HO1).lt w.heap.size rfl).2
  exact ⟨0, [], _, w1.heap.size, Nat.zero_le _, rfl, by simpa using uh HO1, by have := (uh HO1).1; simpa using this, ad.de, Nat.le_refl _, hl, uh HB1⟩
 case round =>
  obtain ⟨k, rows, Q, hi, hk, rfl, hown, hQ, hsub, hhi, hlo, hB⟩ := hrel
  clear HO1 HB1
  by_cases hlt : k < xs.length
  ·
   obtain ⟨b, off, rfl, hbl⟩ := ad.aD (uh H) (by omega)
   obtain ⟨row, hc, hr⟩ := ad.aR (uh H) hlt
   replace hr := hr.af hB
   have hr2 := hr
   obtain ⟨a7, d7, rfl, -⟩ := bE hr2
   have c0 : wr.cell? ⟨b, off + k * 10, none⟩ = some (.int .i64 (xs[k]).kind) := (hB.cell (p := ⟨b, off + k * 10, none⟩) hbl).trans (hc 0 (by decide))
   have c1 : wr.cell? ⟨b, off + k * 10 + 1, none⟩ = some (.int .i64 (xs[k]).ab) := (hB.cell (p := ⟨b, off + k * 10 + 1, none⟩) hbl).trans (hc 1 (by decide))
   have c2 : wr.cell? ⟨b, off + k * 10 + 2, none⟩ = some (.int .i64 (xs[k]).src) := (hB.cell (p := ⟨b, off + k * 10 + 2, none⟩) hbl).trans (hc 2 (by decide))
   have c3 : wr.cell? ⟨b, off + k * 10 + 3, none⟩ = some (.int .i64 (xs[k]).dst) := (hB.cell (p := ⟨b, off + k * 10 + 3, none⟩) hbl).trans (hc 3 (by decide))
   have c4 : wr.cell? ⟨b, off + k * 10 + 4, none⟩ = some (.int .i64 (xs[k]).index) := (hB.cell (p := ⟨b, off + k * 10 + 4, none⟩) hbl).trans (hc 4 (by decide))
   have c5 : wr.cell? ⟨b, off + k * 10 + 5, none⟩ = some (.int .i64 (xs[k]).write.kind) := (hB.cell (p := ⟨b, off + k * 10 + 5, none⟩) hbl).trans (hc 5 (by decide))
   have c6 : wr.cell? ⟨b, off + k * 10 + 6, none⟩ = some (.int .i64 (xs[k]).write.id) := (hB.cell (p := ⟨b, off + k * 10 + 6, none⟩) hbl).trans (hc 6 (by decide))
   have c7 : wr.cell? ⟨b, off + k * 10 + 7, none⟩ = some (.slice a7 (xs[k]).write.vec.length d7) := (hB.cell (p := ⟨b, off + k * 10 + 7, none⟩) hbl).trans (hc 7 (by decide))
   have c8 : wr.cell? ⟨b, off + k * 10 + 8, none⟩ = some (.int .i64 (xs[k]).write.aa) := (hB.cell (p := ⟨b, off + k * 10 + 8, none⟩) hbl).trans (hc 8 (by decide))
   have c9 : wr.cell? ⟨b, off + k * 10 + 9, none⟩ = some (.int .i64 (xs[k]).write.seq) := (hB.cell (p := ⟨b, off + k * 10 + 9, none⟩) hbl).trans (hc 9 (by decide))
   have hrl : rows.flatten.length = k * 10 := by have := (ad.db hsub).1; rw [List.length_take, Nat.min_eq_left hk] at this; exact this
   have hsz := Nat.le_trans (ad.dV (A := ad.bm) hlt) (uh HN)
   have HT : Hid (xs.take (k + 1) = xs.take k ++ [xs[k]]) := List.take_succ_eq_append_getElem hlt
   have HB := yh hB
   have HR := yh hr
   have HO := yh hown
   have HS := yh hsub
   have HQ := yh hQ
   clear hB hr hc hown hsub hQ
   generalize hxk : xs[k] = x at *
   clear hxk
   go_wp2_with fail
   refine (lX _ x wr (uh HR) hsz).mono ?_
   rintro e w2 ⟨cs2, rfl, O, hb⟩
   have o2 := cM (uh HO) hb
   replace HS := yh (ad.cO (ad.bY (uh HS) (bf hb cT) (fun _ _ _ h => h)) O (by omega) (by omega) (Nat.le_trans hhi hb.size))
   have hb2 := (uh HB).trans (hb.mono (uh HB).size)
   have hz := hb.size
   have orr := O.reads
   obtain ⟨a7z, d7z, rfl, -⟩ := bE orr
   clear hb HR HB HO O c0 c1 c2 c3 c4 c5 c6 c7 c8 c9
   have hQ := uh HQ
   have hl5 : (rows.flatten ++ Q).length = xs.length * 10 := o2.1
   obtain ⟨u0, g0⟩ : ∃ u, w2.cell? ⟨w.heap.size, k * 10, none⟩ = some u := by
    rw [o2.cellAt (k * 10) (by omega)]
    exact gZ (by omega)
   have t0 := o2.frozenAt (k * 10)
   obtain ⟨u1, g1⟩ : ∃ u, w2.cell? ⟨w.heap.size, k * 10 + 1, none⟩ = some u := by
    rw [o2.cellAt (k * 10 + 1) (by omega)]
    exact gZ (by omega)
   have t1 := o2.frozenAt (k * 10 + 1)
   obtain ⟨u2, g2⟩ : ∃ u, w2.cell? ⟨w.heap.size, k * 10 + 2, none⟩ = some u := by
    rw [o2.cellAt (k * 10 + 2) (by omega)]
    exact gZ (by omega)
   have t2 := o2.frozenAt (k * 10 + 2)
   obtain ⟨u3, g3⟩ : ∃ u, w2.cell? ⟨w.heap.size, k * 10 + 3, none⟩ = some u := by
    rw [o2.cellAt (k * 10 + 3) (by omega)]
    exact gZ (by omega)
   have t3 := o2.frozenAt (k * 10 + 3)
   obtain ⟨u4, g4⟩ : ∃ u, w2.cell? ⟨w.heap.size, k * 10 + 4, none⟩ = some u := by
    rw [o2.cellAt (k * 10 + 4) (by omega)]
    exact gZ (by omega)
   have t4 := o2.frozenAt (k * 10 + 4)
   obtain ⟨u5, g5⟩ : ∃ u, w2.cell? ⟨w.heap.size, k * 10 + 5, none⟩ = some u := by
    rw [o2.cellAt (k * 10 + 5) (by omega)]
    exact gZ (by omega)
   have t5 := o2.frozenAt (k * 10 + 5)
   obtain ⟨u6, g6⟩ : ∃ u, w2.cell? ⟨w.heap.size, k * 10 + 6, none⟩ = some u := by
    rw [o2.cellAt (k * 10 + 6) (by omega)]
    exact gZ (by omega)
   have t6 := o2.frozenAt (k * 10 + 6)
   obtain ⟨u7, g7⟩ : ∃ u, w2.cell? ⟨w.heap.size, k * 10 + 7, none⟩ = some u := by
    rw [o2.cellAt (k * 10 + 7) (by omega)]
    exact gZ (by omega)
   have t7 := o2.frozenAt (k * 10 + 7)
   obtain ⟨u8, g8⟩ : ∃ u, w2.cell? ⟨w.heap.size, k * 10 + 8, none⟩ = some u := by
    rw [o2.cellAt (k * 10 + 8) (by omega)]
    exact gZ (by omega)
   have t8 := o2.frozenAt (k * 10 + 8)
   obtain ⟨u9, g9⟩ : ∃ u, w2.cell? ⟨w.heap.size, k * 10 + 9, none⟩ = some u := by
    rw [o2.cellAt (k * 10 + 9) (by omega)]
    exact gZ (by omega)
   have t9 := o2.frozenAt (k * 10 + 9)
   have o3 := cz o2 (k * 10) [.int .i64 x.kind, .int .i64 x.ab, .int .i64 x.src, .int .i64 x.dst, .int .i64 x.index, .int .i64 x.write.kind, .int .i64 x.write.id, .slice a7z x.write.vec.length d7z, .int .i64 x.write.aa, .int .i64 x.write.seq]
   rw [show k * 10 = rows.flatten.length from hrl.symm, cq _ _ _ (by rw [hQ]; simp; have : 1 * 10 ≤ (xs.length - k) * 10 := Nat.mul_le_mul_right _ (by omega); omega), hrl] at o3
   have E : Ext (fun q => q = w.heap.size) w2 (bg w2 w.heap.size (k * 10) [.int .i64 x.kind, .int .i64 x.ab, .int .i64 x.src, .int .i64 x.dst, .int .i64 x.index, .int .i64 x.write.kind, .int .i64 x.write.id, .slice a7z x.write.vec.length d7z, .int .i64 x.write.aa, .int .i64 x.write.seq]) := cy _ (Ext.refl _ _) _ _ _ rfl
   replace HS := yh (ad.bY (uh HS) E (fun q h1 h2 h3 => by omega))
   have HB := yh (bD hb2 w.heap.size (k * 10) [.int .i64 x.kind, .int .i64 x.ab, .int .i64 x.src, .int .i64 x.dst, .int .i64 x.index, .int .i64 x.write.kind, .int .i64 x.write.id, .slice a7z x.write.vec.length d7z, .int .i64 x.write.aa, .int .i64 x.write.seq] (Nat.le_refl _))
   have HZ : Hid ((bg w2 w.heap.size (k * 10) [.int .i64 x.kind, .int .i64 x.ab, .int .i64 x.src, .int .i64 x.dst, .int .i64 x.index, .int .i64 x.write.kind, .int .i64 x.write.id, .slice a7z x.write.vec.length d7z, .int .i64 x.write.aa, .int .i64 x.write.seq]).heap.size = w2.heap.size) := cl _ _ _ _
   have HO : Hid ((bg w2 w.heap.size (k * 10) [.int .i64 x.kind, .int .i64 x.ab, .int .i64 x.src, .int .i64 x.dst, .int .i64 x.index, .int .i64 x.write.kind, .int .i64 x.write.id, .slice a7z x.write.vec.length d7z, .int .i64 x.write.aa, .int .i64 x.write.seq]).ownsRow w.heap.size 145 10 (.slice (some ⟨w.heap.size, 0, none⟩) xs.length xs.length) xs.length ((rows ++ [([.int .i64 x.kind, .int .i64 x.ab, .int .i64 x.src, .int .i64 x.dst, .int .i64 x.index, .int .i64 x.write.kind, .int .i64 x.write.id, .slice a7z x.write.vec.length d7z, .int .i64 x.write.aa, .int .i64 x.write.seq] : List Value)]).flatten ++ Q.drop 10)) := by
    show (bg w2 w.heap.size (k * 10) [.int .i64 x.kind, .int .i64 x.ab, .int .i64 x.src, .int .i64 x.dst, .int .i64 x.index, .int .i64 x.write.kind, .int .i64 x.write.id, .slice a7z x.write.vec.length d7z, .int .i64 x.write.aa, .int .i64 x.write.seq]).ownsRow w.heap.size 145 10 (.slice (some ⟨w.heap.size, 0, none⟩) xs.length xs.length) xs.length ((rows ++ [([.int .i64 x.kind, .int .i64 x.ab, .int .i64 x.src, .int .i64 x.dst, .int .i64 x.index, .int .i64 x.write.kind, .int .i64 x.write.id, .slice a7z x.write.vec.length d7z, .int .i64 x.write.aa, .int .i64 x.write.seq] : List Value)]).flatten ++ Q.drop 10)
    rw [List.flatten_append]
    simpa using o3
   have hl2 := (o2.lt w.heap.size rfl).2
   clear o3 o2 E hb2 hl5
   have hQ2 : Hid ((Q.drop 10).length = (xs.length - (k + 1)) * 10) := by
    show (Q.drop 10).length = (xs.length - (k + 1)) * 10
    rw [List.length_drop, hQ, show xs.length - k = xs.length - (k + 1) + 1 by omega, Nat.add_mul]
    omega
   clear hQ HQ
   go_wp2_with fail
   go_roundw
   case rel => exact ⟨k + 1, rows ++ [([.int .i64 x.kind, .int .i64 x.ab, .int .i64 x.src, .int .i64 x.dst, .int .i64 x.index, .int .i64 x.write.kind, .int .i64 x.write.id, .slice a7z x.write.vec.length d7z, .int .i64 x.write.aa, .int .i64 x.write.seq] : List Value)], Q.drop 10, w2.heap.size, by omega, by go_num, uh HO, uh hQ2, (by rw [uh HT]; exact uh HS), Nat.le_of_eq (uh HZ).symm, by omega, uh HB⟩
   case measure => simp [intOf]; omega
  obtain rfl : k = xs.length := by omega
  have e0 : Q = [] := List.eq_nil_of_length_eq_zero (by rw [hQ]; simp)
  subst e0
  rw [List.append_nil] at hown
  rw [List.take_length] at hsub
  have HO := yh (ad.cL (A := ad.bm) hown hsub (by omega) hhi hbig)
  have HB := yh hB
  clear hown hsub hB
  go_wp2_with fail
  go_ret
  exact ⟨_, rfl, uh HO, uh HB⟩
theorem lS (cs : List Value) (x : gk) (w : World) (h : ad.b8.Reads w cs x) :
  Calls Tryz.prog 221 #[.agg cs.toArray] w fun e w' => ∃ cs', e = .returned (.agg cs'.toArray) ∧ ad.b8.a0 w' cs' x w.heap.size w'.heap.size ∧ Below w.heap.size w w' := by
 have h0 := h
 obtain ⟨bl, hl⟩ := h0
 obtain ⟨-, -, f0, f1⟩ := cm.1 hl
 clear hl
 obtain ⟨bl2, hl2⟩ := h
 obtain ⟨rfl, -⟩ := cm.1 hl2
 clear hl2
 have HF := yh (And.intro f0 (f1))
 clear f0 f1
 have HB : Hid (∀ o p q, Below w.heap.size w (((w.alloc o).alloc p).alloc q)) := fun o p q => (((Below.refl _ _).alloc (Nat.le_refl _) _).alloc (by simp) _).alloc (by simp; omega) _
 go_enter Tryz.func221, Tryz.ntmps221
 go_wp2
 refine bodyPost_ret (v := .agg #[.int .i64 x.id, .int .i64 x.score]) (by simp [results, Tryz.results221, go_sem]) rfl ?_
 obtain ⟨f0, f1⟩ := uh HF
 refine ⟨[.int .i64 x.id, .int .i64 x.score], rfl, ?_, uh HB _ _ _⟩
 have own : ∀ W : World, ad.b8.a0 W [.int .i64 x.id, .int .i64 x.score] x w.heap.size w.heap.size := fun W => (ad.az (ad.aK (lo := w.heap.size) (hi := w.heap.size) f0) (ad.aK (lo := w.heap.size) (hi := w.heap.size) f1) (Nat.le_refl _) (Nat.le_refl _) (Nat.le_refl _))
 exact (own _).mono (Nat.le_refl _) (uh HB _ _ _).size
theorem kP : (Tryz.prog.info? 150).map (fun i => (i.zero, i.size, decide (i.bytes ≤ 1000))) = some (some (.agg #[.int .i64 0, .int .i64 0]), 2, true) := by kernel_rfl
theorem kU (v : Value) (xs : List gk) (w : World) (h : (ad.sl ad.b8).Reads w [v] xs) (hn : (ad.sl ad.b8).sz xs ≤ 1048576) :
  Calls Tryz.prog 175 #[v] w fun e w' => ∃ v', e = .returned v' ∧ (ad.sl ad.b8).a0 w' [v'] xs w.heap.size w'.heap.size ∧ Below w.heap.size w w' := by
 have hbig := h.cK
 obtain ⟨ao, cap, rfl⟩ := aB h
 have hlen : xs.length ≤ 1048576 := Nat.le_trans ad.fp hn
 obtain ⟨i0, hi, hz0, hz1, hz2⟩ : ∃ i, Tryz.prog.info? 150 = some i ∧ i.zero = some (.agg #[.int .i64 0, .int .i64 0]) ∧ i.size = 2 ∧ i.bytes ≤ 1000 := by
  have := kP
  cases hq : Tryz.prog.info? 150 with
  | none => rw [hq] at this; simp at this
  | some i =>
   rw [hq] at this
   simp only [Option.map_some, Option.some.injEq, Prod.mk.injEq, decide_eq_true_eq] at this
   exact ⟨i, rfl, this.1, this.2.1, this.2.2⟩
 have H := yh h
 have HN := yh hn
 clear h hn
 go_enter Tryz.func175, Tryz.ntmps175
 go_wp2_with (at_make; refine wpList_make_full _ rfl _ _ 31 rfl w.heap.size 150 i0 _ 2 Tryz.underlying31 hi hz0 hz1 _ _ _ _ xs.length rfl rfl rfl rfl ?c1 ?c2 ?c3 ?_)
 case c1 => have := Nat.mul_le_mul hz2 hlen; omega
 case c2 => unfold maxLen; omega
 case c3 => exact Nat.le_refl _
 intro w1 hown1 hgrow1
 have hB1 : Below w.heap.size w w1 := (Below.refl _ _).grown hgrow1 (Nat.le_refl _) (by simp)
 clear hgrow1 hi hz0 hz1 hz2
 have HO1 := yh hown1
 have HB1 := yh hB1
 clear hown1 hB1
 go_wp2_with fail
 go_loopw [4] (fun i wr => ∃ (k : Nat) (rows : List (List Value)) (Q : List Value) (hi : Nat), k ≤ xs.length ∧ i = .int .i64 k ∧ wr.ownsRow w.heap.size 150 2 (.slice (some ⟨w.heap.size, 0, none⟩) xs.length xs.length) xs.length (rows.flatten ++ Q) ∧ Q.length = (xs.length - k) * 2 ∧ ad.eI ad.b8 wr rows (xs.take k) (w.heap.size + 1) hi ∧ hi ≤ wr.heap.size ∧ w.heap.size < hi ∧ Below w.heap.size w wr) (fun i _ => xs.length - (intOf i).toNat)
 case atStart =>
  have hl := ((uh HO1).lt w.heap.size rfl).2
  exact ⟨0, [], _, w1.heap.size, Nat.zero_le _, rfl, by simpa using uh HO1, by have := (uh HO1).1; simpa using this, ad.de, Nat.le_refl _, hl, uh HB1⟩
 case round =>
  obtain ⟨k, rows, Q, hi, hk, rfl, hown, hQ, hsub, hhi, hlo, hB⟩ := hrel
  clear HO1 HB1
  by_cases hlt : k < xs.length
  ·
   obtain ⟨b, off, rfl, hbl⟩ := ad.aD (uh H) (by omega)
   obtain ⟨row, hc, hr⟩ := ad.aR (uh H) hlt
   replace hr := hr.af hB
   have hr2 := hr
   obtain ⟨blo, hlo⟩ := hr2; obtain ⟨rfl, -⟩ := cm.1 hlo; clear hlo
   have c0 : wr.cell? ⟨b, off + k * 2, none⟩ = some (.int .i64 (xs[k]).id) := (hB.cell (p := ⟨b, off + k * 2, none⟩) hbl).trans (hc 0 (by decide))
   have c1 : wr.cell? ⟨b, off + k * 2 + 1, none⟩ = some (.int .i64 (xs[k]).score) := (hB.cell (p := ⟨b, off + k * 2 + 1, none⟩) hbl).trans (hc 1 (by decide))
   have hrl : rows.flatten.length = k * 2 := by have := (ad.db hsub).1; rw [List.length_take, Nat.min_eq_left hk] at this; exact this
   have hsz := Nat.le_trans (ad.dV (A := ad.b8) hlt) (uh HN)
   have HT : Hid (xs.take (k + 1) = xs.take k ++ [xs[k]]) := List.take_succ_eq_append_getElem hlt
   have HB := yh hB
   have HR := yh hr
   have HO := yh hown
   have HS := yh hsub
   have HQ := yh hQ
   clear hB hr hc hown hsub hQ
   generalize hxk : xs[k] = x at *
   clear hxk
   go_wp2_with fail
   refine (lS _ x wr (uh HR)).mono ?_
   rintro e w2 ⟨cs2, rfl, O, hb⟩
   have o2 := cM (uh HO) hb
   replace HS := yh (ad.cO (ad.bY (uh HS) (bf hb cT) (fun _ _ _ h => h)) O (by omega) (by omega) (Nat.le_trans hhi hb.size))
   have hb2 := (uh HB).trans (hb.mono (uh HB).size)
   have hz := hb.size
   have orr := O.reads
   obtain ⟨bloz, hloz⟩ := orr; obtain ⟨rfl, -⟩ := cm.1 hloz; clear hloz
   clear hb HR HB HO O c0 c1
   have hQ := uh HQ
   have hl5 : (rows.flatten ++ Q).length = xs.length * 2 := o2.1
   obtain ⟨u0, g0⟩ : ∃ u, w2.cell? ⟨w.heap.size, k * 2, none⟩ = some u := by
    rw [o2.cellAt (k * 2) (by omega)]
    exact gZ (by omega)
   have t0 := o2.frozenAt (k * 2)
   obtain ⟨u1, g1⟩ : ∃ u, w2.cell? ⟨w.heap.size, k * 2 + 1, none⟩ = some u := by
    rw [o2.cellAt (k * 2 + 1) (by omega)]
    exact gZ (by omega)
   have t1 := o2.frozenAt (k * 2 + 1)
   have o3 := cz o2 (k * 2) [.int .i64 x.id, .int .i64 x.score]
   rw [show k * 2 = rows.flatten.length from hrl.symm, cq _ _ _ (by rw [hQ]; simp; have : 1 * 2 ≤ (xs.length - k) * 2 := Nat.mul_le_mul_right _ (by omega); omega), hrl] at o3
   have E : Ext (fun q => q = w.heap.size) w2 (bg w2 w.heap.size (k * 2) [.int .i64 x.id, .int .i64 x.score]) := cy _ (Ext.refl _ _) _ _ _ rfl
   replace HS := yh (ad.bY (uh HS) E (fun q h1 h2 h3 => by omega))
   have HB := yh (bD hb2 w.heap.size (k * 2) [.int .i64 x.id, .int .i64 x.score] (Nat.le_refl _))
   have HZ : Hid ((bg w2 w.heap.size (k * 2) [.int .i64 x.id, .int .i64 x.score]).heap.size = w2.heap.size) := cl _ _ _ _
   have HO : Hid ((bg w2 w.heap.size (k * 2) [.int .i64 x.id, .int .i64 x.score]).ownsRow w.heap.size 150 2 (.slice (some ⟨w.heap.size, 0, none⟩) xs.length xs.length) xs.length ((rows ++ [([.int .i64 x.id, .int .i64 x.score] : List Value)]).flatten ++ Q.drop 2)) := by
    show (bg w2 w.heap.size (k * 2) [.int .i64 x.id, .int .i64 x.score]).ownsRow w.heap.size 150 2 (.slice (some ⟨w.heap.size, 0, none⟩) xs.length xs.length) xs.length ((rows ++ [([.int .i64 x.id, .int .i64 x.score] : List Value)]).flatten ++ Q.drop 2)
    rw [List.flatten_append]
    simpa using o3
   have hl2 := (o2.lt w.heap.size rfl).2
   clear o3 o2 E hb2 hl5
   have hQ2 : Hid ((Q.drop 2).length = (xs.length - (k + 1)) * 2) := by
    show (Q.drop 2).length = (xs.length - (k + 1)) * 2
    rw [List.length_drop, hQ, show xs.length - k = xs.length - (k + 1) + 1 by omega, Nat.add_mul]
    omega
   clear hQ HQ
   go_wp2_with fail
   go_roundw
   case rel => exact ⟨k + 1, rows ++ [([.int .i64 x.id, .int .i64 x.score] : List Value)], Q.drop 2, w2.heap.size, by omega, by go_num, uh HO, uh hQ2, (by rw [uh HT]; exact uh HS), Nat.le_of_eq (uh HZ).symm, by omega, uh HB⟩
   case measure => simp [intOf]; omega
  obtain rfl : k = xs.length := by omega
  have e0 : Q = [] := List.eq_nil_of_length_eq_zero (by rw [hQ]; simp)
  subst e0
  rw [List.append_nil] at hown
  rw [List.take_length] at hsub
  have HO := yh (ad.cL (A := ad.b8) hown hsub (by omega) hhi hbig)
  have HB := yh hB
  clear hown hsub hB
  go_wp2_with fail
  go_ret
  exact ⟨_, rfl, uh HO, uh HB⟩
theorem kE (cs : List Value) (x : bM) (w : World) (h : ad.aJ.Reads w cs x) (hn : ad.aJ.sz x ≤ 1048576) :
  Calls Tryz.prog 108 #[.agg cs.toArray] w fun e w' => ∃ cs', e = .returned (.agg cs'.toArray) ∧ ad.aJ.a0 w' cs' x w.heap.size w'.heap.size ∧ Below w.heap.size w w' := by
 have h0 := h
 obtain ⟨bl, hl⟩ := h0
 obtain ⟨-, -, -, -, -, -, -, -, -, -, -, f0, f1, f2, f3, -, f5, f6, f7, f8, -, -⟩ := fe.1 hl
 clear hl
 obtain ⟨a4, d4, a9, d9, a10, d10, rfl, R4, R9, R10⟩ := bu h
 clear h
 rw [eB] at hn
 have HF := yh (And.intro f0 (And.intro f1 (And.intro f2 (And.intro f3 (And.intro f5 (And.intro f6 (And.intro f7 (f8))))))))
 clear f0 f1 f2 f3 f5 f6 f7 f8
 have HB0 : Below w.heap.size w (((w.alloc (.cells #[.int .i64 x.kind, .int .i64 x.aa, .int .i64 x.seq, .int .i64 x.id, .slice a4 x.query.length d4, .int .i64 x.k, .int .i64 x.start, .int .i64 x.fin, .int .i64 x.place, .slice a9 x.vec.length d9, .slice a10 x.aY.length d10] 138)).alloc (.cells #[.int .i64 0, .int .i64 0, .int .i64 0, .int .i64 0, .slice none 0 0, .int .i64 0, .int .i64 0, .int .i64 0, .int .i64 0, .slice none 0 0, .slice none 0 0] 85)).alloc (.cells #[.int .i64 x.kind, .int .i64 x.aa, .int .i64 x.seq, .int .i64 x.id, .slice none 0 0, .int .i64 0, .int .i64 0, .int .i64 0, .int .i64 0, .slice none 0 0, .slice none 0 0] 85)) := (((Below.refl _ _).alloc (Nat.le_refl _) _).alloc (by simp) _).alloc (by simp; omega) _
 have bA : ar w.heap.size #[.int .i64 x.kind, .int .i64 x.aa, .int .i64 x.seq, .int .i64 x.id, .slice a4 x.query.length d4, .int .i64 x.k, .int .i64 x.start, .int .i64 x.fin, .int .i64 x.place, .slice a9 x.vec.length d9, .slice a10 x.aY.length d10] 138 (((w.alloc (.cells #[.int .i64 x.kind, .int .i64 x.aa, .int .i64 x.seq, .int .i64 x.id, .slice a4 x.query.length d4, .int .i64 x.k, .int .i64 x.start, .int .i64 x.fin, .int .i64 x.place, .slice a9 x.vec.length d9, .slice a10 x.aY.length d10] 138)).alloc (.cells #[.int .i64 0, .int .i64 0, .int .i64 0, .int .i64 0, .slice none 0 0, .int .i64 0, .int .i64 0, .int .i64 0, .int .i64 0, .slice none 0 0, .slice none 0 0] 85)).alloc (.cells #[.int .i64 x.kind, .int .i64 x.aa, .int .i64 x.seq, .int .i64 x.id, .slice none 0 0, .int .i64 0, .int .i64 0, .int .i64 0, .int .i64 0, .slice none 0 0, .slice none 0 0] 85)) w.heap.size := ((aM (Nat.le_refl _)).grow _).grow _
 have bR : ar w.heap.size #[.int .i64 0, .int .i64 0, .int .i64 0, .int .i64 0, .slice none 0 0, .int .i64 0, .int .i64 0, .int .i64 0, .int .i64 0, .slice none 0 0, .slice none 0 0] 85 (((w.alloc (.cells #[.int .i64 x.kind, .int .i64 x.aa, .int .i64 x.seq, .int .i64 x.id, .slice a4 x.query.length d4, .int .i64 x.k, .int .i64 x.start, .int .i64 x.fin, .int .i64 x.place, .slice a9 x.vec.length d9, .slice a10 x.aY.length d10] 138)).alloc (.cells #[.int .i64 0, .int .i64 0, .int .i64 0, .int .i64 0, .slice none 0 0, .int .i64 0, .int .i64 0, .int .i64 0, .int .i64 0, .slice none 0 0, .slice none 0 0] 85)).alloc (.cells #[.int .i64 x.kind, .int .i64 x.aa, .int .i64 x.seq, .int .i64 x.id, .slice none 0 0, .int .i64 0, .int .i64 0, .int .i64 0, .int .i64 0, .slice none 0 0, .slice none 0 0] 85)) (w.heap.size + 1) := (aX (by omega) (by simp)).grow _
 have bX : ar w.heap.size #[.int .i64 x.kind, .int .i64 x.aa, .int .i64 x.seq, .int .i64 x.id, .slice none 0 0, .int .i64 0, .int .i64 0, .int .i64 0, .int .i64 0, .slice none 0 0, .slice none 0 0] 85 (((w.alloc (.cells #[.int .i64 x.kind, .int .i64 x.aa, .int .i64 x.seq, .int .i64 x.id, .slice a4 x.query.length d4, .int .i64 x.k, .int .i64 x.start, .int .i64 x.fin, .int .i64 x.place, .slice a9 x.vec.length d9, .slice a10 x.aY.length d10] 138)).alloc (.cells #[.int .i64 0, .int .i64 0, .int .i64 0, .int .i64 0, .slice none 0 0, .int .i64 0, .int .i64 0, .int .i64 0, .int .i64 0, .slice none 0 0, .slice none 0 0] 85)).alloc (.cells #[.int .i64 x.kind, .int .i64 x.aa, .int .i64 x.seq, .int .i64 x.id, .slice none 0 0, .int .i64 0, .int .i64 0, .int .i64 0, .int .i64 0, .slice none 0 0, .slice none 0 0] 85)) (w.heap.size + 2) := aX (by omega) (by simp)
 have hz0 : w.heap.size + 3 ≤ (((w.alloc (.cells #[.int .i64 x.kind, .int .i64 x.aa, .int .i64 x.seq, .int .i64 x.id, .slice a4 x.query.length d4, .int .i64 x.k, .int .i64 x.start, .int .i64 x.fin, .int .i64 x.place, .slice a9 x.vec.length d9, .slice a10 x.aY.length d10] 138)).alloc (.cells #[.int .i64 0, .int .i64 0, .int .i64 0, .int .i64 0, .slice none 0 0, .int .i64 0, .int .i64 0, .int .i64 0, .int .i64 0, .slice none 0 0, .slice none 0 0] 85)).alloc (.cells #[.int .i64 x.kind, .int .i64 x.aa, .int .i64 x.seq, .int .i64 x.id, .slice none 0 0, .int .i64 0, .int .i64 0, .int .i64 0, .int .i64 0, .slice none 0 0, .slice none 0 0] 85)).heap.size := by simp
 go_enter Tryz.func108, Tryz.ntmps108
 go_wp2_with fail
 generalize ((w.alloc (.cells #[.int .i64 x.kind, .int .i64 x.aa, .int .i64 x.seq, .int .i64 x.id, .slice a4 x.query.length d4, .int .i64 x.k, .int .i64 x.start, .int .i64 x.fin, .int .i64 x.place, .slice a9 x.vec.length d9, .slice a10 x.aY.length d10] 138)).alloc (.cells #[.int .i64 0, .int .i64 0, .int .i64 0, .int .i64 0, .slice none 0 0, .int .i64 0, .int .i64 0, .int .i64 0, .int .i64 0, .slice none 0 0, .slice none 0 0] 85)).alloc (.cells #[.int .i64 x.kind, .int .i64 x.aa, .int .i64 x.seq, .int .i64 x.id, .slice none 0 0, .int .i64 0, .int .i64 0, .int .i64 0, .int .i64 0, .slice none 0 0, .slice none 0 0] 85) = W0 at *
 replace R4 := R4.cA.af HB0
 replace R9 := R9.cA.af HB0
 replace R10 := R10.cA.af HB0
 refine (dw _ x.query W0 R4.reads (by omega)).mono ?_
 rintro e w1 ⟨v4, rfl, O4, hb⟩
 have Z0 : W0.heap.size ≤ w1.heap.size := hb.size
 replace HB0 := HB0.trans (hb.mono HB0.size)
 replace bA := bA.au hb
 replace bR := bR.au hb
 replace bX := bX.au hb
 replace R9 := R9.af hb
 replace R10 := R10.af hb
 clear hb R4
 obtain ⟨a4z, d4z, rfl⟩ := aB O4.reads
 have p5 := bA.at 5 _ rfl
 have p6 := bA.at 6 _ rfl
 have p7 := bA.at 7 _ rfl
 have p8 := bA.at 8 _ rfl
 have p9 := bA.at 9 _ rfl
 have q4 := bX.at 4 _ rfl
 have q5 := bX.at 5 _ rfl
 have q6 := bX.at 6 _ rfl
 have q7 := bX.at 7 _ rfl
 have q8 := bX.at 8 _ rfl
 have qf := bX.soft
 have ql := bX.lt
 have pl := bA.lt
 simp only [ga, gb, gc] at p5 p6 p7 p8 p9 q4 q5 q6 q7 q8
 have hA := yh bA
 have hR := yh bR
 have hX := yh bX
 have hB := yh HB0
 clear bA bR bX HB0
 have hO4 := yh O4
 clear O4
 have hR9 := yh R9
 clear R9
 have hR10 := yh R10
 clear R10
 go_wp2_with fail
 clear p5 p6 p7 p8 p9 q4 q5 q6 q7 q8 qf ql pl
 have E : Ext (fun q => q = w.heap.size + 2) w1 (((((w1.setCell ⟨w.heap.size + 2, 4, none⟩ (.slice a4z x.query.length d4z)).setCell ⟨w.heap.size + 2, 5, none⟩ (.int .i64 x.k)).setCell ⟨w.heap.size + 2, 6, none⟩ (.int .i64 x.start)).setCell ⟨w.heap.size + 2, 7, none⟩ (.int .i64 x.fin)).setCell ⟨w.heap.size + 2, 8, none⟩ (.int .i64 x.place)) := bp (Ext.refl _ _) (w.heap.size + 2) [(4, .slice a4z x.query.length d4z), (5, .int .i64 x.k), (6, .int .i64 x.start), (7, .int .i64 x.fin), (8, .int .i64 x.place)] rfl
 have bX : ar w.heap.size #[.int .i64 x.kind, .int .i64 x.aa, .int .i64 x.seq, .int .i64 x.id, .slice a4z x.query.length d4z, .int .i64 x.k, .int .i64 x.start, .int .i64 x.fin, .int .i64 x.place, .slice none 0 0, .slice none 0 0] 85 (((((w1.setCell ⟨w.heap.size + 2, 4, none⟩ (.slice a4z x.query.length d4z)).setCell ⟨w.heap.size + 2, 5, none⟩ (.int .i64 x.k)).setCell ⟨w.heap.size + 2, 6, none⟩ (.int .i64 x.start)).setCell ⟨w.heap.size + 2, 7, none⟩ (.int .i64 x.fin)).setCell ⟨w.heap.size + 2, 8, none⟩ (.int .i64 x.place)) (w.heap.size + 2) := ((((((uh hX).set 4 (.slice a4z x.query.length d4z)).set 5 (.int .i64 x.k)).set 6 (.int .i64 x.start)).set 7 (.int .i64 x.fin)).set 8 (.int .i64 x.place))
 have bA := (uh hA).ext E (by omega)
 have bR := (uh hR).ext E (by omega)
 have HB0 : Below w.heap.size w (((((w1.setCell ⟨w.heap.size + 2, 4, none⟩ (.slice a4z x.query.length d4z)).setCell ⟨w.heap.size + 2, 5, none⟩ (.int .i64 x.k)).setCell ⟨w.heap.size + 2, 6, none⟩ (.int .i64 x.start)).setCell ⟨w.heap.size + 2, 7, none⟩ (.int .i64 x.fin)).setCell ⟨w.heap.size + 2, 8, none⟩ (.int .i64 x.place)) := (uh hB).trans (E.below (uh hB).size (fun k h1 h2 => by omega))
 have O4 := (uh hO4).ext E (fun k h1 h2 h3 => by omega)
 have R9 := (uh hR9).ext E (fun k h1 h2 h3 => by omega)
 have R10 := (uh hR10).ext E (fun k h1 h2 h3 => by omega)
 have Y0 : w1.heap.size ≤ (((((w1.setCell ⟨w.heap.size + 2, 4, none⟩ (.slice a4z x.query.length d4z)).setCell ⟨w.heap.size + 2, 5, none⟩ (.int .i64 x.k)).setCell ⟨w.heap.size + 2, 6, none⟩ (.int .i64 x.start)).setCell ⟨w.heap.size + 2, 7, none⟩ (.int .i64 x.fin)).setCell ⟨w.heap.size + 2, 8, none⟩ (.int .i64 x.place)).heap.size := E.size
 clear hA hR hX hB hO4 hR9 hR10 E
 generalize (((((w1.setCell ⟨w.heap.size + 2, 4, none⟩ (.slice a4z x.query.length d4z)).setCell ⟨w.heap.size + 2, 5, none⟩ (.int .i64 x.k)).setCell ⟨w.heap.size + 2, 6, none⟩ (.int .i64 x.start)).setCell ⟨w.heap.size + 2, 7, none⟩ (.int .i64 x.fin)).setCell ⟨w.heap.size + 2, 8, none⟩ (.int .i64 x.place)) = W1 at *
 refine (dw _ x.vec W1 R9.reads (by omega)).mono ?_
 rintro e w2 ⟨v9, rfl, O9, hb⟩
 have Z1 : W1.heap.size ≤ w2.heap.size := hb.size
 replace HB0 := HB0.trans (hb.mono HB0.size)
 replace bA := bA.au hb
 replace bR := bR.au hb
 replace bX := bX.au hb
 replace R10 := R10.af hb
 replace O4 := O4.af hb
 clear hb R9
 obtain ⟨a9z, d9z, rfl⟩ := aB O9.reads
 have p10 := bA.at 10 _ rfl
 have q9 := bX.at 9 _ rfl
 have qf := bX.soft
 have ql := bX.lt
 have pl := bA.lt
 simp only [ga, gb, gc] at p10 q9
 have hA := yh bA
 have hR := yh bR
 have hX := yh bX
 have hB := yh HB0
 clear bA bR bX HB0
 have hO4 := yh O4
 clear O4
 have hO9 := yh O9
 clear O9
 have hR10 := yh R10
 clear R10
 go_wp2_with fail
 clear p10 q9 qf ql pl
 have E : Ext (fun q => q = w.heap.size + 2) w2 (w2.setCell ⟨w.heap.size + 2, 9, none⟩ (.slice a9z x.vec.length d9z)) := bp (Ext.refl _ _) (w.heap.size + 2) [(9, .slice a9z x.vec.length d9z)] rfl
 have bX : ar w.heap.size #[.int .i64 x.kind, .int .i64 x.aa, .int .i64 x.seq, .int .i64 x.id, .slice a4z x.query.length d4z, .int .i64 x.k, .int .i64 x.start, .int .i64 x.fin, .int .i64 x.place, .slice a9z x.vec.length d9z, .slice none 0 0] 85 (w2.setCell ⟨w.heap.size + 2, 9, none⟩ (.slice a9z x.vec.length d9z)) (w.heap.size + 2) := (uh hX).set 9 (.slice a9z x.vec.length d9z)
 have bA := (uh hA).ext E (by omega)
 have bR := (uh hR).ext E (by omega)
 have HB0 : Below w.heap.size w (w2.setCell ⟨w.heap.size + 2, 9, none⟩ (.slice a9z x.vec.length d9z)) := (uh hB).trans (E.below (uh hB).size (fun k h1 h2 => by omega))
 have O4 := (uh hO4).ext E (fun k h1 h2 h3 => by omega)
 have O9 := (uh hO9).ext E (fun k h1 h2 h3 => by omega)
 have R10 := (uh hR10).ext E (fun k h1 h2 h3 => by omega)
 have Y1 : w2.heap.size ≤ (w2.setCell ⟨w.heap.size + 2, 9, none⟩ (.slice a9z x.vec.length d9z)).heap.size := E.size
 clear hA hR hX hB hO4 hO9 hR10 E
 generalize (w2.setCell ⟨w.heap.size + 2, 9, none⟩ (.slice a9z x.vec.length d9z)) = W2 at *
 refine (kU _ x.aY W2 R10.reads (by omega)).mono ?_
 rintro e w3 ⟨v10, rfl, O10, hb⟩
 have Z2 : W2.heap.size ≤ w3.heap.size := hb.size
 replace HB0 := HB0.trans (hb.mono HB0.size)
 replace bA := bA.au hb
 replace bR := bR.au hb
 replace bX := bX.au hb
 replace O4 := O4.af hb
 replace O9 := O9.af hb
 clear hb R10
 obtain ⟨a10z, d10z, rfl⟩ := aB O10.reads
 have q0 := bX.at 0 _ rfl
 have q1 := bX.at 1 _ rfl
 have q2 := bX.at 2 _ rfl
 have q3 := bX.at 3 _ rfl
 have q4 := bX.at 4 _ rfl
 have q5 := bX.at 5 _ rfl
 have q6 := bX.at 6 _ rfl
 have q7 := bX.at 7 _ rfl
 have q8 := bX.at 8 _ rfl
 have q9 := bX.at 9 _ rfl
 have q10 := bX.at 10 _ rfl
 have qf := bX.soft
 have ql := bX.lt
 have pl := bA.lt
 have r0 := bR.at 0 _ rfl
 have r1 := bR.at 1 _ rfl
 have r2 := bR.at 2 _ rfl
 have r3 := bR.at 3 _ rfl
 have r4 := bR.at 4 _ rfl
 have r5 := bR.at 5 _ rfl
 have r6 := bR.at 6 _ rfl
 have r7 := bR.at 7 _ rfl
 have r8 := bR.at 8 _ rfl
 have r9 := bR.at 9 _ rfl
 have r10 := bR.at 10 _ rfl
 have rf := bR.soft
 have rl := bR.lt
 simp only [ga, gb, gc] at q0 q1 q2 q3 q4 q5 q6 q7 q8 q9 q10 r0 r1 r2 r3 r4 r5 r6 r7 r8 r9 r10
 have hA := yh bA
 have hR := yh bR
 have hX := yh bX
 have hB := yh HB0
 clear bA bR bX HB0
 have hO4 := yh O4
 clear O4
 have hO9 := yh O9
 clear O9
 have hO10 := yh O10
 clear O10
 go_wp2_with fail
 refine bodyPost_ret (v := .agg #[.int .i64 x.kind, .int .i64 x.aa, .int .i64 x.seq, .int .i64 x.id, .slice a4z x.query.length d4z, .int .i64 x.k, .int .i64 x.start, .int .i64 x.fin, .int .i64 x.place, .slice a9z x.vec.length d9z, .slice a10z x.aY.length d10z]) (by simp [results, Tryz.results108, go_sem, r0, r1, r2, r3, r4, r5, r6, r7, r8, r9, r10]) rfl ?_
 have E : Ext (fun q => q = w.heap.size + 2 ∨ q = w.heap.size + 1) w3 _ := bp (bp (Ext.refl _ _) (w.heap.size + 2) [(10, .slice a10z x.aY.length d10z)] (Or.inl rfl)) (w.heap.size + 1) [(0, .int .i64 x.kind), (1, .int .i64 x.aa), (2, .int .i64 x.seq), (3, .int .i64 x.id), (4, .slice a4z x.query.length d4z), (5, .int .i64 x.k), (6, .int .i64 x.start), (7, .int .i64 x.fin), (8, .int .i64 x.place), (9, .slice a9z x.vec.length d9z), (10, .slice a10z x.aY.length d10z)] (Or.inr rfl)
 obtain ⟨f0, f1, f2, f3, f5, f6, f7, f8⟩ := uh HF
 have own : ad.aJ.a0 _ [.int .i64 x.kind, .int .i64 x.aa, .int .i64 x.seq, .int .i64 x.id, .slice a4z x.query.length d4z, .int .i64 x.k, .int .i64 x.start, .int .i64 x.fin, .int .i64 x.place, .slice a9z x.vec.length d9z, .slice a10z x.aY.length d10z] x w.heap.size w3.heap.size := (ad.az (ad.aK (lo := w.heap.size) (hi := w.heap.size) f0) (ad.az (ad.aK (lo := w.heap.size) (hi := w.heap.size) f1) (ad.az (ad.aK (lo := w.heap.size) (hi := w.heap.size) f2) (ad.az (ad.aK (lo := w.heap.size) (hi := w.heap.size) f3) (ad.az ((uh hO4).ext E (fun k h1 h2 h3 => by omega)) (ad.az (ad.aK (lo := w1.heap.size) (hi := w1.heap.size) f5) (ad.az (ad.aK (lo := w1.heap.size) (hi := w1.heap.size) f6) (ad.az (ad.aK (lo := w1.heap.size) (hi := w1.heap.size) f7) (ad.az (ad.aK (lo := w1.heap.size) (hi := w1.heap.size) f8) (ad.az ((uh hO9).ext E (fun k h1 h2 h3 => by omega)) ((uh hO10).ext E (fun k h1 h2 h3 => by omega)) (by omega) (by omega) (by omega)) (by omega) (by omega) (by omega)) (by omega) (by omega) (by omega)) (by omega) (by omega) (by omega)) (by omega) (by omega) (by omega)) (by omega) (by omega) (by omega)) (by omega) (by omega) (by omega)) (by omega) (by omega) (by omega)) (by omega) (by omega) (by omega)) (by omega) (by omega) (by omega))
 have hsz := E.size
 have told := ad.dk (w := w) own (by omega) (by omega) ((uh hB).trans (E.below (uh hB).size (fun k h1 h2 => by omega)))
 exact told
theorem jw : (Tryz.prog.info? 85).map (fun i => (i.zero, i.size, decide (i.bytes ≤ 1000))) = some (some (.agg #[.int .i64 0, .int .i64 0, .int .i64 0, .int .i64 0, .slice none 0 0, .int .i64 0, .int .i64 0, .int .i64 0, .int .i64 0, .slice none 0 0, .slice none 0 0]), 11, true) := by kernel_rfl
theorem jm (v : Value) (xs : List bM) (w : World) (h : (ad.sl ad.aJ).Reads w [v] xs) (hn : (ad.sl ad.aJ).sz xs ≤ 1048576) :
  Calls Tryz.prog 56 #[v] w fun e w' => ∃ v', e = .returned v' ∧ (ad.sl ad.aJ).a0 w' [v'] xs w.heap.size w'.heap.size ∧ Below w.heap.size w w' := by
 have hbig := h.cK
 obtain ⟨ao, cap, rfl⟩ := aB h
 have hlen : xs.length ≤ 1048576 := Nat.le_trans ad.fp hn
 obtain ⟨i0, hi, hz0, hz1, hz2⟩ : ∃ i, Tryz.prog.info? 85 = some i ∧ i.zero = some (.agg #[.int .i64 0, .int .i64 0, .int .i64 0, .int .i64 0, .slice none 0 0, .int .i64 0, .int .i64 0, .int .i64 0, .int .i64 0, .slice none 0 0, .slice none 0 0]) ∧ i.size = 11 ∧ i.bytes ≤ 1000 := by
  have := jw
  cases hq : Tryz.prog.info? 85 with
  | none => rw [hq] at this; simp at this
  | some i =>
   rw [hq] at this
   simp only [Option.map_some, Option.some.injEq, Prod.mk.injEq, decide_eq_true_eq] at this
   exact ⟨i, rfl, this.1, this.2.1, this.2.2⟩
 have H := yh h
 have HN := yh hn
 clear h hn
 go_enter Tryz.func56, Tryz.ntmps56
 go_wp2_with (at_make; refine wpList_make_full _ rfl _ _ 35 rfl w.heap.size 85 i0 _ 11 Tryz.underlying35 hi hz0 hz1 _ _ _ _ xs.length rfl rfl rfl rfl ?c1 ?c2 ?c3 ?_)
 case c1 => have := Nat.mul_le_mul hz2 hlen; omega
 case c2 => unfold maxLen; omega
 case c3 => exact Nat.le_refl _
 intro w1 hown1 hgrow1
 have hB1 : Below w.heap.size w w1 := (Below.refl _ _).grown hgrow1 (Nat.le_refl _) (by simp)
 clear hgrow1 hi hz0 hz1 hz2
 have HO1 := yh hown1
 have HB1 := yh hB1
 clear hown1 hB1
 go_wp2_with fail
 go_loopw [4] (fun i wr => ∃ (k : Nat) (rows : List (List Value)) (Q : List Value) (hi : Nat), k ≤ xs.length ∧ i = .int .i64 k ∧ wr.ownsRow w.heap.size 85 11 (.slice (some ⟨w.heap.size, 0, none⟩) xs.length xs.length) xs.length (rows.flatten ++ Q) ∧ Q.length = (xs.length - k) * 11 ∧ ad.eI ad.aJ wr rows (xs.take k) (w.heap.size + 1) hi ∧ hi ≤ wr.heap.size ∧ w.heap.size < hi ∧ Below w.heap.size w wr) (fun i _ => xs.length - (intOf i).toNat)
 case atStart =>
  have hl := ((uh HO1).lt w.heap.size rfl).2
  exact ⟨0, [], _, w1.heap.size, Nat.zero_le _, rfl, by simpa using uh HO1, by have := (uh HO1).1; simpa using this, ad.de, Nat.le_refl _, hl, uh HB1⟩
 case round =>
  obtain ⟨k, rows, Q, hi, hk, rfl, hown, hQ, hsub, hhi, hlo, hB⟩ := hrel
  clear HO1 HB1
  by_cases hlt : k < xs.length
  ·
   obtain ⟨b, off, rfl, hbl⟩ := ad.aD (uh H) (by omega)
   obtain ⟨row, hc, hr⟩ := ad.aR (uh H) hlt
   replace hr := hr.af hB
   have hr2 := hr
   obtain ⟨a4, d4, a9, d9, a10, d10, rfl, -, -, -⟩ := bu hr2
   have c0 : wr.cell? ⟨b, off + k * 11, none⟩ = some (.int .i64 (xs[k]).kind) := (hB.cell (p := ⟨b, off + k * 11, none⟩) hbl).trans (hc 0 (by decide))
   have c1 : wr.cell? ⟨b, off + k * 11 + 1, none⟩ = some (.int .i64 (xs[k]).aa) := (hB.cell (p := ⟨b, off + k * 11 + 1, none⟩) hbl).trans (hc 1 (by decide))
   have c2 : wr.cell? ⟨b, off + k * 11 + 2, none⟩ = some (.int .i64 (xs[k]).seq) := (hB.cell (p := ⟨b, off + k * 11 + 2, none⟩) hbl).trans (hc 2 (by decide))
   have c3 : wr.cell? ⟨b, off + k * 11 + 3, none⟩ = some (.int .i64 (xs[k]).id) := (hB.cell (p := ⟨b, off + k * 11 + 3, none⟩) hbl).trans (hc 3 (by decide))
   have c4 : wr.cell? ⟨b, off + k * 11 + 4, none⟩ = some (.slice a4 (xs[k]).query.length d4) := (hB.cell (p := ⟨b, off + k * 11 + 4, none⟩) hbl).trans (hc 4 (by decide))
   have c5 : wr.cell? ⟨b, off + k * 11 + 5, none⟩ = some (.int .i64 (xs[k]).k) := (hB.cell (p := ⟨b, off + k * 11 + 5, none⟩) hbl).trans (hc 5 (by decide))
   have c6 : wr.cell? ⟨b, off + k * 11 + 6, none⟩ = some (.int .i64 (xs[k]).start) := (hB.cell (p := ⟨b, off + k * 11 + 6, none⟩) hbl).trans (hc 6 (by decide))
   have c7 : wr.cell? ⟨b, off + k * 11 + 7, none⟩ = some (.int .i64 (xs[k]).fin) := (hB.cell (p := ⟨b, off + k * 11 + 7, none⟩) hbl).trans (hc 7 (by decide))
   have c8 : wr.cell? ⟨b, off + k * 11 + 8, none⟩ = some (.int .i64 (xs[k]).place) := (hB.cell (p := ⟨b, off + k * 11 + 8, none⟩) hbl).trans (hc 8 (by decide))
   have c9 : wr.cell? ⟨b, off + k * 11 + 9, none⟩ = some (.slice a9 (xs[k]).vec.length d9) := (hB.cell (p := ⟨b, off + k * 11 + 9, none⟩) hbl).trans (hc 9 (by decide))
   have c10 : wr.cell? ⟨b, off + k * 11 + 10, none⟩ = some (.slice a10 (xs[k]).aY.length d10) := (hB.cell (p := ⟨b, off + k * 11 + 10, none⟩) hbl).trans (hc 10 (by decide))
   have hrl : rows.flatten.length = k * 11 := by have := (ad.db hsub).1; rw [List.length_take, Nat.min_eq_left hk] at this; exact this
   have hsz := Nat.le_trans (ad.dV (A := ad.aJ) hlt) (uh HN)
   have HT : Hid (xs.take (k + 1) = xs.take k ++ [xs[k]]) := List.take_succ_eq_append_getElem hlt
   have HB := yh hB
   have HR := yh hr
   have HO := yh hown
   have HS := yh hsub
   have HQ := yh hQ
   clear hB hr hc hown hsub hQ
   generalize hxk : xs[k] = x at *
   clear hxk
   go_wp2_with fail
   refine (kE _ x wr (uh HR) hsz).mono ?_
   rintro e w2 ⟨cs2, rfl, O, hb⟩
   have o2 := cM (uh HO) hb
   replace HS := yh (ad.cO (ad.bY (uh HS) (bf hb cT) (fun _ _ _ h => h)) O (by omega) (by omega) (Nat.le_trans hhi hb.size))
   have hb2 := (uh HB).trans (hb.mono (uh HB).size)
   have hz := hb.size
   have orr := O.reads
   obtain ⟨a4z, d4z, a9z, d9z, a10z, d10z, rfl, -, -, -⟩ := bu orr
   clear hb HR HB HO O c0 c1 c2 c3 c4 c5 c6 c7 c8 c9 c10
   have hQ := uh HQ
   have hl5 : (rows.flatten ++ Q).length = xs.length * 11 := o2.1
   obtain ⟨u0, g0⟩ : ∃ u, w2.cell? ⟨w.heap.size, k * 11, none⟩ = some u := by
    rw [o2.cellAt (k * 11) (by omega)]
    exact gZ (by omega)
   have t0 := o2.frozenAt (k * 11)
   obtain ⟨u1, g1⟩ : ∃ u, w2.cell? ⟨w.heap.size, k * 11 + 1, none⟩ = some u := by
    rw [o2.cellAt (k * 11 + 1) (by omega)]
    exact gZ (by omega)
   have t1 := o2.frozenAt (k * 11 + 1)
   obtain ⟨u2, g2⟩ : ∃ u, w2.cell? ⟨w.heap.size, k * 11 + 2, none⟩ = some u := by
    rw [o2.cellAt (k * 11 + 2) (by omega)]
    exact gZ (by omega)
   have t2 := o2.frozenAt (k * 11 + 2)
   obtain ⟨u3, g3⟩ : ∃ u, w2.cell? ⟨w.heap.size, k * 11 + 3, none⟩ = some u := by
    rw [o2.cellAt (k * 11 + 3) (by omega)]
    exact gZ (by omega)
   have t3 := o2.frozenAt (k * 11 + 3)
   obtain ⟨u4, g4⟩ : ∃ u, w2.cell? ⟨w.heap.size, k * 11 + 4, none⟩ = some u := by
    rw [o2.cellAt (k * 11 + 4) (by omega)]
    exact gZ (by omega)
   have t4 := o2.frozenAt (k * 11 + 4)
   obtain ⟨u5, g5⟩ : ∃ u, w2.cell? ⟨w.heap.size, k * 11 + 5, none⟩ = some u := by
    rw [o2.cellAt (k * 11 + 5) (by omega)]
    exact gZ (by omega)
   have t5 := o2.frozenAt (k * 11 + 5)
   obtain ⟨u6, g6⟩ : ∃ u, w2.cell? ⟨w.heap.size, k * 11 + 6, none⟩ = some u := by
    rw [o2.cellAt (k * 11 + 6) (by omega)]
    exact gZ (by omega)
   have t6 := o2.frozenAt (k * 11 + 6)
   obtain ⟨u7, g7⟩ : ∃ u, w2.cell? ⟨w.heap.size, k * 11 + 7, none⟩ = some u := by
    rw [o2.cellAt (k * 11 + 7) (by omega)]
    exact gZ (by omega)
   have t7 := o2.frozenAt (k * 11 + 7)
   obtain ⟨u8, g8⟩ : ∃ u, w2.cell? ⟨w.heap.size, k * 11 + 8, none⟩ = some u := by
    rw [o2.cellAt (k * 11 + 8) (by omega)]
    exact gZ (by omega)
   have t8 := o2.frozenAt (k * 11 + 8)
   obtain ⟨u9, g9⟩ : ∃ u, w2.cell? ⟨w.heap.size, k * 11 + 9, none⟩ = some u := by
    rw [o2.cellAt (k * 11 + 9) (by omega)]
    exact gZ (by omega)
   have t9 := o2.frozenAt (k * 11 + 9)
   obtain ⟨u10, g10⟩ : ∃ u, w2.cell? ⟨w.heap.size, k * 11 + 10, none⟩ = some u := by
    rw [o2.cellAt (k * 11 + 10) (by omega)]
    exact gZ (by omega)
   have t10 := o2.frozenAt (k * 11 + 10)
   have o3 := cz o2 (k * 11) [.int .i64 x.kind, .int .i64 x.aa, .int .i64 x.seq, .int .i64 x.id, .slice a4z x.query.length d4z, .int .i64 x.k, .int .i64 x.start, .int .i64 x.fin, .int .i64 x.place, .slice a9z x.vec.length d9z, .slice a10z x.aY.length d10z]
   rw [show k * 11 = rows.flatten.length from hrl.symm, cq _ _ _ (by rw [hQ]; simp; have : 1 * 11 ≤ (xs.length - k) * 11 := Nat.mul_le_mul_right _ (by omega); omega), hrl] at o3
   have E : Ext (fun q => q = w.heap.size) w2 (bg w2 w.heap.size (k * 11) [.int .i64 x.kind, .int .i64 x.aa, .int .i64 x.seq, .int .i64 x.id, .slice a4z x.query.length d4z, .int .i64 x.k, .int .i64 x.start, .int .i64 x.fin, .int .i64 x.place, .slice a9z x.vec.length d9z, .slice a10z x.aY.length d10z]) := cy _ (Ext.refl _ _) _ _ _ rfl
   replace HS := yh (ad.bY (uh HS) E (fun q h1 h2 h3 => by omega))
   have HB := yh (bD hb2 w.heap.size (k * 11) [.int .i64 x.kind, .int .i64 x.aa, .int .i64 x.seq, .int .i64 x.id, .slice a4z x.query.length d4z, .int .i64 x.k, .int .i64 x.start, .int .i64 x.fin, .int .i64 x.place, .slice a9z x.vec.length d9z, .slice a10z x.aY.length d10z] (Nat.le_refl _))
   have HZ : Hid ((bg w2 w.heap.size (k * 11) [.int .i64 x.kind, .int .i64 x.aa, .int .i64 x.seq, .int .i64 x.id, .slice a4z x.query.length d4z, .int .i64 x.k, .int .i64 x.start, .int .i64 x.fin, .int .i64 x.place, .slice a9z x.vec.length d9z, .slice a10z x.aY.length d10z]).heap.size = w2.heap.size) := cl _ _ _ _
   have HO : Hid ((bg w2 w.heap.size (k * 11) [.int .i64 x.kind, .int .i64 x.aa, .int .i64 x.seq, .int .i64 x.id, .slice a4z x.query.length d4z, .int .i64 x.k, .int .i64 x.start, .int .i64 x.fin, .int .i64 x.place, .slice a9z x.vec.length d9z, .slice a10z x.aY.length d10z]).ownsRow w.heap.size 85 11 (.slice (some ⟨w.heap.size, 0, none⟩) xs.length xs.length) xs.length ((rows ++ [([.int .i64 x.kind, .int .i64 x.aa, .int .i64 x.seq, .int .i64 x.id, .slice a4z x.query.length d4z, .int .i64 x.k, .int .i64 x.start, .int .i64 x.fin, .int .i64 x.place, .slice a9z x.vec.length d9z, .slice a10z x.aY.length d10z] : List Value)]).flatten ++ Q.drop 11)) := by
    show (bg w2 w.heap.size (k * 11) [.int .i64 x.kind, .int .i64 x.aa, .int .i64 x.seq, .int .i64 x.id, .slice a4z x.query.length d4z, .int .i64 x.k, .int .i64 x.start, .int .i64 x.fin, .int .i64 x.place, .slice a9z x.vec.length d9z, .slice a10z x.aY.length d10z]).ownsRow w.heap.size 85 11 (.slice (some ⟨w.heap.size, 0, none⟩) xs.length xs.length) xs.length ((rows ++ [([.int .i64 x.kind, .int .i64 x.aa, .int .i64 x.seq, .int .i64 x.id, .slice a4z x.query.length d4z, .int .i64 x.k, .int .i64 x.start, .int .i64 x.fin, .int .i64 x.place, .slice a9z x.vec.length d9z, .slice a10z x.aY.length d10z] : List Value)]).flatten ++ Q.drop 11)
    rw [List.flatten_append]
    simpa using o3
   have hl2 := (o2.lt w.heap.size rfl).2
   clear o3 o2 E hb2 hl5
   have hQ2 : Hid ((Q.drop 11).length = (xs.length - (k + 1)) * 11) := by
    show (Q.drop 11).length = (xs.length - (k + 1)) * 11
    rw [List.length_drop, hQ, show xs.length - k = xs.length - (k + 1) + 1 by omega, Nat.add_mul]
    omega
   clear hQ HQ
   go_wp2_with fail
   go_roundw
   case rel => exact ⟨k + 1, rows ++ [([.int .i64 x.kind, .int .i64 x.aa, .int .i64 x.seq, .int .i64 x.id, .slice a4z x.query.length d4z, .int .i64 x.k, .int .i64 x.start, .int .i64 x.fin, .int .i64 x.place, .slice a9z x.vec.length d9z, .slice a10z x.aY.length d10z] : List Value)], Q.drop 11, w2.heap.size, by omega, by go_num, uh HO, uh hQ2, (by rw [uh HT]; exact uh HS), Nat.le_of_eq (uh HZ).symm, by omega, uh HB⟩
   case measure => simp [intOf]; omega
  obtain rfl : k = xs.length := by omega
  have e0 : Q = [] := List.eq_nil_of_length_eq_zero (by rw [hQ]; simp)
  subst e0
  rw [List.append_nil] at hown
  rw [List.take_length] at hsub
  have HO := yh (ad.cL (A := ad.aJ) hown hsub (by omega) hhi hbig)
  have HB := yh hB
  clear hown hsub hB
  go_wp2_with fail
  go_ret
  exact ⟨_, rfl, uh HO, uh HB⟩
end Go.Proofs.YtecagllmonckgaaGreat
