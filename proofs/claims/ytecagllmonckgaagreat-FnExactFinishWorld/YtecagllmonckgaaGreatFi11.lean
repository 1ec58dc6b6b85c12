/-
  Texts of this proof in one: CopyHs, ImplCopiedM, ImplWC, ImplDone, ImplStepped, FacePlain, SpecWA, SpecWNext, NodeFew, WorldFew, NetFew, DropPlain, LosePlain, SpecAsk13, ToldPlainW, OpenHit, OpenEntry, OpenChain.
  Their conditions stand in their theorems.
-/
import Derived.Test.YtecagllmonckgaaGreatChecked
import Derived.Test.YtecagllmonckgaaGreatFi01
import Derived.Test.YtecagllmonckgaaGreatFi04
import Derived.Test.YtecagllmonckgaaGreatFi10
import Derived.WalkKit
import Derived.Deep.CutRange
import Derived.Test.YtecagllmonckgaaGreatFi00
import Derived.Test.YtecagllmonckgaaGreatFi03
import Derived.Test.YtecagllmonckgaaGreatFi06
import Derived.Defers
import Derived.Recover
import Derived.Laws.Pointers
import Derived.Test.YtecagllmonckgaaGreatFi08
import Derived.Test.YtecagllmonckgaaGreatFi07
import Derived.Test.YtecagllmonckgaaGreatFi09
set_option maxRecDepth 100000
set_option maxHeartbeats 4000000
namespace Go.Proofs.YtecagllmonckgaaGreat
open Go.RowKit
theorem qq {w : World} {cs : List Value} {x : aZ} (h : ab.ar.Reads w cs x) : (Lit.int .i64 x.kind).wf = true ∧ (Lit.int .i64 x.aa).wf = true ∧ (Lit.int .i64 x.seq).wf = true ∧ (Lit.int .i64 x.id).wf = true ∧ (Lit.int .i64 x.k).wf = true ∧ (Lit.int .i64 x.start).wf = true ∧ (Lit.int .i64 x.fin).wf = true ∧ (Lit.int .i64 x.place).wf = true := by
 obtain ⟨bl, h⟩ := h
 obtain ⟨_, _, _, _, _, _, _, _, _, -, -, w0, w1, w2, w3, -, w5, w6, w7, w8, -, -⟩ := cO.1 h
 exact ⟨w0, w1, w2, w3, w5, w6, w7, w8⟩
theorem mH {w : World} {x : aZ} {v u s : Value} {l0 h0 l1 h1 l2 h2 : Nat} (p : (ab.sl ab.int).aQ w [v] x.query l0 h0) (q : (ab.sl ab.int).aQ w [u] x.vec l1 h1) (r : (ab.sl ab.bb).aQ w [s] x.aN l2 h2) (e1 : h0 ≤ l1) (e2 : h1 ≤ l2) (e3 : l0 ≤ l1) (e4 : l1 ≤ l2) (e5 : h1 ≤ h2) (e6 : h0 ≤ h2) (hw : (Lit.int .i64 x.kind).wf = true ∧ (Lit.int .i64 x.aa).wf = true ∧ (Lit.int .i64 x.seq).wf = true ∧ (Lit.int .i64 x.id).wf = true ∧ (Lit.int .i64 x.k).wf = true ∧ (Lit.int .i64 x.start).wf = true ∧ (Lit.int .i64 x.fin).wf = true ∧ (Lit.int .i64 x.place).wf = true) :
  ab.ar.aQ w [.int .i64 x.kind, .int .i64 x.aa, .int .i64 x.seq, .int .i64 x.id, v, .int .i64 x.k, .int .i64 x.start, .int .i64 x.fin, .int .i64 x.place, u, s] x l0 h2 := by
 obtain ⟨b1, O1, i1⟩ := p
 obtain ⟨b2, O2, i2⟩ := q
 obtain ⟨b3, O3, i3⟩ := r
 obtain ⟨w0, w1, w2, w3, w5, w6, w7, w8⟩ := hw
 refine ⟨b1 ++ (b2 ++ b3), fj O1 O2 O3 w0 w1 w2 w3 w5 w6 w7 w8 ?_, ?_⟩
 ·
  rw [List.nodup_append, List.nodup_append]
  refine ⟨O1.2.1, ⟨O2.2.1, O3.2.1, fun a ha c hc e => ?_⟩, fun a ha c hc e => ?_⟩
  ·
   have := i2 a ha; have := i3 c hc; omega
  have := i1 a ha
  rcases List.mem_append.1 hc with hc | hc
  ·
   have := i2 c hc; omega
  have := i3 c hc; omega
 intro a ha
 rcases List.mem_append.1 ha with ha | ha
 ·
  have := i1 a ha; omega
 rcases List.mem_append.1 ha with ha | ha
 ·
  have := i2 a ha; omega
 have := i3 a ha; omega
theorem mP : (Tryz.prog.info? 85).map (fun i => (i.zero, i.size, decide (i.bytes ≤ 1000))) = some (some (.agg #[.int .i64 0, .int .i64 0, .int .i64 0, .int .i64 0, .slice none 0 0, .int .i64 0, .int .i64 0, .int .i64 0, .int .i64 0, .slice none 0 0, .slice none 0 0]), 11, true) := by kernel_rfl
theorem iN (v : Value) (xs : List aZ) (w : World) (h : (ab.sl ab.ar).Reads w [v] xs) (hlen : xs.length ≤ 1000000) (hv : ∀ x ∈ xs, x.query.length ≤ 10000000 ∧ x.vec.length ≤ 10000000 ∧ x.aN.length ≤ 10000000) :
  Calls Tryz.prog 224 #[v] w fun e w' => ∃ (g : Nat), e = .returned (.slice (some ⟨g, 0, none⟩) xs.length xs.length) ∧ (ab.sl ab.ar).aQ w' [.slice (some ⟨g, 0, none⟩) xs.length xs.length] xs w.heap.size w'.heap.size ∧ Below w.heap.size w w' := by
 have hbig := h.dK
 obtain ⟨ao, cap, rfl⟩ := aE h
 obtain ⟨i0, hi, hz0, hz1, hz2⟩ : ∃ i, Tryz.prog.info? 85 = some i ∧ i.zero = some (.agg #[.int .i64 0, .int .i64 0, .int .i64 0, .int .i64 0, .slice none 0 0, .int .i64 0, .int .i64 0, .int .i64 0, .int .i64 0, .slice none 0 0, .slice none 0 0]) ∧ i.size = 11 ∧ i.bytes ≤ 1000 := by
  have := mP
  cases hq : Tryz.prog.info? 85 with
  | none => rw [hq] at this; simp at this
  | some i =>
   rw [hq] at this
   simp only [Option.map_some, Option.some.injEq, Prod.mk.injEq, decide_eq_true_eq] at this
   exact ⟨i, rfl, this.1, this.2.1, this.2.2⟩
 have H := yh h
 have HN := yh hv
 clear h hv
 go_enter Tryz.func224, Tryz.ntmps224
 go_wp2_with (at_make; refine wpList_make_full _ rfl _ _ 35 rfl w.heap.size 85 i0 _ 11 Tryz.underlying35 hi hz0 hz1 _ _ _ _ xs.length rfl rfl rfl rfl ?c1 ?c2 ?c3 ?_)
 case c1 => have := Nat.mul_le_mul hz2 hlen; omega
 case c2 => unfold maxLen; omega
 case c3 => exact Nat.le_refl _
 intro w1 hown1 hgrow1
 have hB1 : Below w.heap.size w w1 := (Below.refl _ _).grown hgrow1 (Nat.le_refl _) (by simp)
 clear hgrow1 hi hz0 hz1 hz2
 have HO1 := yh hown1
 have HB1 := yh hB1
 clear hown1 hB1
 go_wp2_with fail
 go_loopw [11] (fun i wr => ∃ (k : Nat) (rows : List (List Value)) (Q : List Value) (hi : Nat), k ≤ xs.length ∧ i = .int .i64 k ∧ wr.ownsRow w.heap.size 85 11 (.slice (some ⟨w.heap.size, 0, none⟩) xs.length xs.length) xs.length (rows.flatten ++ Q) ∧ Q.length = (xs.length - k) * 11 ∧ ab.fo ab.ar wr rows (xs.take k) (w.heap.size + 1) hi ∧ hi ≤ wr.heap.size ∧ w.heap.size < hi ∧ Below w.heap.size w wr) (fun i _ => xs.length - (intOf i).toNat)
 case atStart =>
  have hl := ((uh HO1).lt w.heap.size rfl).2
  exact ⟨0, [], _, w1.heap.size, Nat.zero_le _, rfl, by simpa using uh HO1, by have := (uh HO1).1; simpa using this, ab.dC, Nat.le_refl _, hl, uh HB1⟩
 case round =>
  obtain ⟨k, rows, Q, hi, hk, rfl, hown, hQ, hsub, hhi, hlo, hB⟩ := hrel
  clear HO1 HB1
  by_cases hlt : k < xs.length
  ·
   obtain ⟨b, off, rfl, hbl⟩ := ab.aI (uh H) (by omega)
   obtain ⟨row, hc, hr⟩ := ab.bm (uh H) hlt
   replace hr := hr.ag hB
   have hr2 := hr
   obtain ⟨aq, dq, av, dv, ah, dh, rfl, R0, R1, R2⟩ := bB hr2
   have c0 : wr.cell? ⟨b, off + k * 11, none⟩ = some (.int .i64 (xs[k]).kind) := (hB.cell (p := ⟨b, off + k * 11, none⟩) hbl).trans (hc 0 (by decide))
   have c1 : wr.cell? ⟨b, off + k * 11 + 1, none⟩ = some (.int .i64 (xs[k]).aa) := (hB.cell (p := ⟨b, off + k * 11 + 1, none⟩) hbl).trans (hc 1 (by decide))
   have c2 : wr.cell? ⟨b, off + k * 11 + 2, none⟩ = some (.int .i64 (xs[k]).seq) := (hB.cell (p := ⟨b, off + k * 11 + 2, none⟩) hbl).trans (hc 2 (by decide))
   have c3 : wr.cell? ⟨b, off + k * 11 + 3, none⟩ = some (.int .i64 (xs[k]).id) := (hB.cell (p := ⟨b, off + k * 11 + 3, none⟩) hbl).trans (hc 3 (by decide))
   have c4 : wr.cell? ⟨b, off + k * 11 + 4, none⟩ = some (.slice aq (xs[k]).query.length dq) := (hB.cell (p := ⟨b, off + k * 11 + 4, none⟩) hbl).trans (hc 4 (by decide))
   have c5 : wr.cell? ⟨b, off + k * 11 + 5, none⟩ = some (.int .i64 (xs[k]).k) := (hB.cell (p := ⟨b, off + k * 11 + 5, none⟩) hbl).trans (hc 5 (by decide))
   have c6 : wr.cell? ⟨b, off + k * 11 + 6, none⟩ = some (.int .i64 (xs[k]).start) := (hB.cell (p := ⟨b, off + k * 11 + 6, none⟩) hbl).trans (hc 6 (by decide))
   have c7 : wr.cell? ⟨b, off + k * 11 + 7, none⟩ = some (.int .i64 (xs[k]).fin) := (hB.cell (p := ⟨b, off + k * 11 + 7, none⟩) hbl).trans (hc 7 (by decide))
   have c8 : wr.cell? ⟨b, off + k * 11 + 8, none⟩ = some (.int .i64 (xs[k]).place) := (hB.cell (p := ⟨b, off + k * 11 + 8, none⟩) hbl).trans (hc 8 (by decide))
   have c9 : wr.cell? ⟨b, off + k * 11 + 9, none⟩ = some (.slice av (xs[k]).vec.length dv) := (hB.cell (p := ⟨b, off + k * 11 + 9, none⟩) hbl).trans (hc 9 (by decide))
   have c10 : wr.cell? ⟨b, off + k * 11 + 10, none⟩ = some (.slice ah (xs[k]).aN.length dh) := (hB.cell (p := ⟨b, off + k * 11 + 10, none⟩) hbl).trans (hc 10 (by decide))
   have hrl : rows.flatten.length = k * 11 := by have := (ab.dB hsub).1; rw [List.length_take, Nat.min_eq_left hk] at this; exact this
   have hvl := uh HN xs[k] (List.getElem_mem hlt)
   have HT : Hid (xs.take (k + 1) = xs.take k ++ [xs[k]]) := List.take_succ_eq_append_getElem hlt
   have HB := yh hB
   have HO := yh hown
   have HS := yh hsub
   have HQ := yh hQ
   have HWF := yh (qq hr)
   have HVL := yh hvl
   have HR0 := yh R0
   have HR1 := yh R1
   have HR2 := yh R2
   clear hB hr hc hown hsub hQ hr2 hvl R0 R1 R2
   generalize hxk : xs[k] = x at *
   clear hxk
   have hbr : b < wr.heap.size := Nat.lt_of_lt_of_le hbl (uh HB).size
   have nb : Below wr.heap.size wr (wr.alloc (.cells #[.int .i64 x.kind, .int .i64 x.aa, .int .i64 x.seq, .int .i64 x.id, .slice aq x.query.length dq, .int .i64 x.k, .int .i64 x.start, .int .i64 x.fin, .int .i64 x.place, .slice av x.vec.length dv, .slice ah x.aN.length dh] 85)) := (Below.refl _ _).alloc (Nat.le_refl _) _
   have HX : Hid (aj 0 #[.int .i64 x.kind, .int .i64 x.aa, .int .i64 x.seq, .int .i64 x.id, .slice aq x.query.length dq, .int .i64 x.k, .int .i64 x.start, .int .i64 x.fin, .int .i64 x.place, .slice av x.vec.length dv, .slice ah x.aN.length dh] 85 (wr.alloc (.cells #[.int .i64 x.kind, .int .i64 x.aa, .int .i64 x.seq, .int .i64 x.id, .slice aq x.query.length dq, .int .i64 x.k, .int .i64 x.start, .int .i64 x.fin, .int .i64 x.place, .slice av x.vec.length dv, .slice ah x.aN.length dh] 85)) wr.heap.size) := aH (Nat.zero_le _)
   have hz0 : (wr.alloc (.cells #[.int .i64 x.kind, .int .i64 x.aa, .int .i64 x.seq, .int .i64 x.id, .slice aq x.query.length dq, .int .i64 x.k, .int .i64 x.start, .int .i64 x.fin, .int .i64 x.place, .slice av x.vec.length dv, .slice ah x.aN.length dh] 85)).heap.size = wr.heap.size + 1 := by simp
   have HV := yh nb
   clear nb
   go_upto_region 5 with fail
   generalize wr.alloc (.cells #[.int .i64 x.kind, .int .i64 x.aa, .int .i64 x.seq, .int .i64 x.id, .slice aq x.query.length dq, .int .i64 x.k, .int .i64 x.start, .int .i64 x.fin, .int .i64 x.place, .slice av x.vec.length dv, .slice ah x.aN.length dh] 85) = W0 at *
   clear c0 c1 c2 c3 c4 c5 c6 c7 c8 c9 c10
   have hx := uh HX
   have y4 := aj.at hx 4 _ rfl
   have yf := aj.soft hx
   have yl := hx.lt
   simp only [ga, gb, gc] at y4
   have HC := yh (jj _ x.query W0 ((uh HR0).ag (uh HV)) (uh HVL).1)
   clear hx
   go_wp2_with fail
   refine (uh HC).mono ?_
   rintro e v1 ⟨p1, n1, q1, rfl, ⟨O, rfl⟩, hb⟩
   have hz1 : W0.heap.size ≤ v1.heap.size := hb.size
   have hx := (uh HX).au hb
   clear y4 yf yl
   have y4 := aj.at hx 4 _ rfl
   have yf := aj.soft hx
   have yl := hx.lt
   simp only [ga, gb, gc] at y4
   have hv := (uh HV).trans (hb.mono (uh HV).size)
   replace HV := yh (hv.setCell (p := ⟨wr.heap.size, 4, none⟩) (Nat.le_refl _) (.slice p1 x.query.length q1))
   have hx2 := aj.set hx 4 (.slice p1 x.query.length q1)
   simp only [List.setIfInBounds_toArray, List.set_cons_zero, List.set_cons_succ] at hx2
   replace HX := yh hx2
   have e1 : Ext (fun q => q = wr.heap.size) v1 (v1.setCell ⟨wr.heap.size, 4, none⟩ (.slice p1 x.query.length q1)) := (Ext.refl _ _).setCell _ _ rfl
   have P0 := yh (O.ext e1 (fun q h1 h2 h3 => by omega))
   have hz1' : (v1.setCell ⟨wr.heap.size, 4, none⟩ (.slice p1 x.query.length q1)).heap.size = v1.heap.size := by simp
   clear hx hx2 e1 hv O hb HC
   go_upto_region 6 with fail
   generalize hW : v1.setCell ⟨wr.heap.size, 4, none⟩ (.slice p1 x.query.length q1) = W1 at *
   clear hW y4 yf yl
   have hx := uh HX
   have y9 := aj.at hx 9 _ rfl
   have yf := aj.soft hx
   have yl := hx.lt
   simp only [ga, gb, gc] at y9
   have HC := yh (jj _ x.vec W1 ((uh HR1).ag (uh HV)) (uh HVL).2.1)
   clear hx
   go_wp2_with fail
   refine (uh HC).mono ?_
   rintro e v2 ⟨p2, n2, q2, rfl, ⟨O, rfl⟩, hb⟩
   have hz2 : W1.heap.size ≤ v2.heap.size := hb.size
   have hx := (uh HX).au hb
   clear y9 yf yl
   have y9 := aj.at hx 9 _ rfl
   have yf := aj.soft hx
   have yl := hx.lt
   simp only [ga, gb, gc] at y9
   have hv := (uh HV).trans (hb.mono (uh HV).size)
   replace HV := yh (hv.setCell (p := ⟨wr.heap.size, 9, none⟩) (Nat.le_refl _) (.slice p2 x.vec.length q2))
   have hx2 := aj.set hx 9 (.slice p2 x.vec.length q2)
   simp only [List.setIfInBounds_toArray, List.set_cons_zero, List.set_cons_succ] at hx2
   replace HX := yh hx2
   have e2 : Ext (fun q => q = wr.heap.size) v2 (v2.setCell ⟨wr.heap.size, 9, none⟩ (.slice p2 x.vec.length q2)) := (Ext.refl _ _).setCell _ _ rfl
   replace P0 := yh (((uh P0).ag hb).ext e2 (fun q h1 h2 h3 => by omega))
   have P1 := yh (O.ext e2 (fun q h1 h2 h3 => by omega))
   have hz2' : (v2.setCell ⟨wr.heap.size, 9, none⟩ (.slice p2 x.vec.length q2)).heap.size = v2.heap.size := by simp
   clear hx hx2 e2 hv O hb HC
   go_upto_region 7 with fail
   generalize hW : v2.setCell ⟨wr.heap.size, 9, none⟩ (.slice p2 x.vec.length q2) = W2 at *
   clear hW y9 yf yl
   have hx := uh HX
   have y10 := aj.at hx 10 _ rfl
   have yf := aj.soft hx
   have yl := hx.lt
   simp only [ga, gb, gc] at y10
   have HC := yh (rZ _ x.aN W2 ((uh HR2).ag (uh HV)) (uh HVL).2.2)
   clear hx
   go_wp2_with fail
   refine (uh HC).mono ?_
   rintro e v3 ⟨p3, q3, rfl, O, hb⟩
   have hz3 : W2.heap.size ≤ v3.heap.size := hb.size
   have hx := (uh HX).au hb
   clear y10 yf yl
   have y10 := aj.at hx 10 _ rfl
   have yf := aj.soft hx
   have yl := hx.lt
   simp only [ga, gb, gc] at y10
   have hv := (uh HV).trans (hb.mono (uh HV).size)
   replace HV := yh (hv.setCell (p := ⟨wr.heap.size, 10, none⟩) (Nat.le_refl _) (.slice p3 x.aN.length q3))
   have hx2 := aj.set hx 10 (.slice p3 x.aN.length q3)
   simp only [List.setIfInBounds_toArray, List.set_cons_zero, List.set_cons_succ] at hx2
   replace HX := yh hx2
   have e3 : Ext (fun q => q = wr.heap.size) v3 (v3.setCell ⟨wr.heap.size, 10, none⟩ (.slice p3 x.aN.length q3)) := (Ext.refl _ _).setCell _ _ rfl
   replace P0 := yh (((uh P0).ag hb).ext e3 (fun q h1 h2 h3 => by omega))
   replace P1 := yh (((uh P1).ag hb).ext e3 (fun q h1 h2 h3 => by omega))
   have P2 := yh (O.ext e3 (fun q h1 h2 h3 => by omega))
   have hz3' : (v3.setCell ⟨wr.heap.size, 10, none⟩ (.slice p3 x.aN.length q3)).heap.size = v3.heap.size := by simp
   clear hx hx2 e3 hv O hb HC
   go_upto_region 8 with fail
   generalize hW : v3.setCell ⟨wr.heap.size, 10, none⟩ (.slice p3 x.aN.length q3) = W3 at *
   clear hW y10 yf yl
   have hx := uh HX
   have y0 := aj.at hx 0 _ rfl
   have y1 := aj.at hx 1 _ rfl
   have y2 := aj.at hx 2 _ rfl
   have y3 := aj.at hx 3 _ rfl
   have y4 := aj.at hx 4 _ rfl
   have y5 := aj.at hx 5 _ rfl
   have y6 := aj.at hx 6 _ rfl
   have y7 := aj.at hx 7 _ rfl
   have y8 := aj.at hx 8 _ rfl
   have y9 := aj.at hx 9 _ rfl
   have y10 := aj.at hx 10 _ rfl
   simp only [ga, gb, gc] at y0 y1 y2 y3 y4 y5 y6 y7 y8 y9 y10
   have yl := hx.lt
   clear hx
   have hb3 : Below wr.heap.size wr W3 := uh HV
   have o2 := cJ (uh HO) hb3
   have O := mH (uh P0) (uh P1) (uh P2) (by omega) (by omega) (by omega) (by omega) (by omega) (by omega) (uh HWF)
   replace HS := yh (ab.da (ab.cf (uh HS) (aL hb3 cU) (fun _ _ _ h => h)) O (by omega) (by omega) (by omega))
   have hb2 := (uh HB).trans (hb3.mono (uh HB).size)
   have hxw : w.heap.size < wr.heap.size := by omega
   have hwz := hb3.size
   clear HB HO O HV hb3 P0 P1 P2
   have hQ := uh HQ
   have hl5 : (rows.flatten ++ Q).length = xs.length * 11 := o2.1
   obtain ⟨u0, g0⟩ : ∃ u, W3.cell? ⟨w.heap.size, k * 11, none⟩ = some u := by
    rw [o2.cellAt (k * 11) (by omega)]
    exact gZ (by omega)
   have t0 := o2.frozenAt (k * 11)
   obtain ⟨u1, g1⟩ : ∃ u, W3.cell? ⟨w.heap.size, k * 11 + 1, none⟩ = some u := by
    rw [o2.cellAt (k * 11 + 1) (by omega)]
    exact gZ (by omega)
   have t1 := o2.frozenAt (k * 11 + 1)
   obtain ⟨u2, g2⟩ : ∃ u, W3.cell? ⟨w.heap.size, k * 11 + 2, none⟩ = some u := by
    rw [o2.cellAt (k * 11 + 2) (by omega)]
    exact gZ (by omega)
   have t2 := o2.frozenAt (k * 11 + 2)
   obtain ⟨u3, g3⟩ : ∃ u, W3.cell? ⟨w.heap.size, k * 11 + 3, none⟩ = some u := by
    rw [o2.cellAt (k * 11 + 3) (by omega)]
    exact gZ (by omega)
   have t3 := o2.frozenAt (k * 11 + 3)
   obtain ⟨u4, g4⟩ : ∃ u, W3.cell? ⟨w.heap.size, k * 11 + 4, none⟩ = some u := by
    rw [o2.cellAt (k * 11 + 4) (by omega)]
    exact gZ (by omega)
   have t4 := o2.frozenAt (k * 11 + 4)
   obtain ⟨u5, g5⟩ : ∃ u, W3.cell? ⟨w.heap.size, k * 11 + 5, none⟩ = some u := by
    rw [o2.cellAt (k * 11 + 5) (by omega)]
    exact gZ (by omega)
   have t5 := o2.frozenAt (k * 11 + 5)
   obtain ⟨u6, g6⟩ : ∃ u, W3.cell? ⟨w.heap.size, k * 11 + 6, none⟩ = some u := by
    rw [o2.cellAt (k * 11 + 6) (by omega)]
    exact gZ (by omega)
   have t6 := o2.frozenAt (k * 11 + 6)
   obtain ⟨u7, g7⟩ : ∃ u, W3.cell? ⟨w.heap.size, k * 11 + 7, none⟩ = some u := by
    rw [o2.cellAt (k * 11 + 7) (by omega)]
    exact gZ (by omega)
   have t7 := o2.frozenAt (k * 11 + 7)
   obtain ⟨u8, g8⟩ : ∃ u, W3.cell? ⟨w.heap.size, k * 11 + 8, none⟩ = some u := by
    rw [o2.cellAt (k * 11 + 8) (by omega)]
    exact gZ (by omega)
   have t8 := o2.frozenAt (k * 11 + 8)
   obtain ⟨u9, g9⟩ : ∃ u, W3.cell? ⟨w.heap.size, k * 11 + 9, none⟩ = some u := by
    rw [o2.cellAt (k * 11 + 9) (by omega)]
    exact gZ (by omega)
   have t9 := o2.frozenAt (k * 11 + 9)
   obtain ⟨u10, g10⟩ : ∃ u, W3.cell? ⟨w.heap.size, k * 11 + 10, none⟩ = some u := by
    rw [o2.cellAt (k * 11 + 10) (by omega)]
    exact gZ (by omega)
   have t10 := o2.frozenAt (k * 11 + 10)
   have o3 := cN o2 (k * 11) [.int .i64 x.kind, .int .i64 x.aa, .int .i64 x.seq, .int .i64 x.id, .slice p1 x.query.length q1, .int .i64 x.k, .int .i64 x.start, .int .i64 x.fin, .int .i64 x.place, .slice p2 x.vec.length q2, .slice p3 x.aN.length q3]
   rw [show k * 11 = rows.flatten.length from hrl.symm, cF _ _ _ (by rw [hQ]; simp; have : 1 * 11 ≤ (xs.length - k) * 11 := Nat.mul_le_mul_right _ (by omega); omega), hrl] at o3
   have E : Ext (fun q => q = w.heap.size) W3 (aO W3 w.heap.size (k * 11) [.int .i64 x.kind, .int .i64 x.aa, .int .i64 x.seq, .int .i64 x.id, .slice p1 x.query.length q1, .int .i64 x.k, .int .i64 x.start, .int .i64 x.fin, .int .i64 x.place, .slice p2 x.vec.length q2, .slice p3 x.aN.length q3]) := bD _ (Ext.refl _ _) _ _ _ rfl
   replace HS := yh (ab.cf (uh HS) E (fun q h1 h2 h3 => by omega))
   have HB := yh (aP hb2 w.heap.size (k * 11) [.int .i64 x.kind, .int .i64 x.aa, .int .i64 x.seq, .int .i64 x.id, .slice p1 x.query.length q1, .int .i64 x.k, .int .i64 x.start, .int .i64 x.fin, .int .i64 x.place, .slice p2 x.vec.length q2, .slice p3 x.aN.length q3] (Nat.le_refl _))
   have HZ : Hid ((aO W3 w.heap.size (k * 11) [.int .i64 x.kind, .int .i64 x.aa, .int .i64 x.seq, .int .i64 x.id, .slice p1 x.query.length q1, .int .i64 x.k, .int .i64 x.start, .int .i64 x.fin, .int .i64 x.place, .slice p2 x.vec.length q2, .slice p3 x.aN.length q3]).heap.size = v3.heap.size) := (bF _ _ _ _).trans hz3'
   have HO : Hid ((aO W3 w.heap.size (k * 11) [.int .i64 x.kind, .int .i64 x.aa, .int .i64 x.seq, .int .i64 x.id, .slice p1 x.query.length q1, .int .i64 x.k, .int .i64 x.start, .int .i64 x.fin, .int .i64 x.place, .slice p2 x.vec.length q2, .slice p3 x.aN.length q3]).ownsRow w.heap.size 85 11 (.slice (some ⟨w.heap.size, 0, none⟩) xs.length xs.length) xs.length ((rows ++ [([.int .i64 x.kind, .int .i64 x.aa, .int .i64 x.seq, .int .i64 x.id, .slice p1 x.query.length q1, .int .i64 x.k, .int .i64 x.start, .int .i64 x.fin, .int .i64 x.place, .slice p2 x.vec.length q2, .slice p3 x.aN.length q3] : List Value)]).flatten ++ Q.drop 11)) := by
    show (aO W3 w.heap.size (k * 11) [.int .i64 x.kind, .int .i64 x.aa, .int .i64 x.seq, .int .i64 x.id, .slice p1 x.query.length q1, .int .i64 x.k, .int .i64 x.start, .int .i64 x.fin, .int .i64 x.place, .slice p2 x.vec.length q2, .slice p3 x.aN.length q3]).ownsRow w.heap.size 85 11 (.slice (some ⟨w.heap.size, 0, none⟩) xs.length xs.length) xs.length ((rows ++ [([.int .i64 x.kind, .int .i64 x.aa, .int .i64 x.seq, .int .i64 x.id, .slice p1 x.query.length q1, .int .i64 x.k, .int .i64 x.start, .int .i64 x.fin, .int .i64 x.place, .slice p2 x.vec.length q2, .slice p3 x.aN.length q3] : List Value)]).flatten ++ Q.drop 11)
    rw [List.flatten_append]
    simpa using o3
   have hl2 := (o2.lt w.heap.size rfl).2
   clear o3 o2 E hb2 hl5
   have hQ2 : Hid ((Q.drop 11).length = (xs.length - (k + 1)) * 11) := by
    show (Q.drop 11).length = (xs.length - (k + 1)) * 11
    rw [List.length_drop, hQ, show xs.length - k = xs.length - (k + 1) + 1 by omega, Nat.add_mul]
    omega
   have HW2 : Hid (w.heap.size < v3.heap.size) := by show w.heap.size < v3.heap.size; omega
   clear hQ HQ hz0 HX hz1 hz1' hz2 hz2' hz3 hz3'
   go_wp2_with fail
   go_roundw
   case rel => exact ⟨k + 1, rows ++ [([.int .i64 x.kind, .int .i64 x.aa, .int .i64 x.seq, .int .i64 x.id, .slice p1 x.query.length q1, .int .i64 x.k, .int .i64 x.start, .int .i64 x.fin, .int .i64 x.place, .slice p2 x.vec.length q2, .slice p3 x.aN.length q3] : List Value)], Q.drop 11, v3.heap.size, by omega, by go_num, uh HO, uh hQ2, (by rw [uh HT]; exact uh HS), Nat.le_of_eq (uh HZ).symm, uh HW2, uh HB⟩
   case measure => simp [intOf]; omega
  obtain rfl : k = xs.length := by omega
  have e0 : Q = [] := List.eq_nil_of_length_eq_zero (by rw [hQ]; simp)
  subst e0
  rw [List.append_nil] at hown
  rw [List.take_length] at hsub
  have HO := yh (ab.dc (A := ab.ar) hown hsub (by omega) hhi hbig)
  have HB := yh hB
  clear hown hsub hB
  go_wp2_with fail
  go_ret
  exact ⟨_, rfl, uh HO, uh HB⟩
theorem pv : (Tryz.prog.info? 145).map (fun i => (i.zero, i.size, decide (i.bytes ≤ 1000))) = some (some (.agg #[.int .i64 0, .int .i64 0, .int .i64 0, .int .i64 0, .int .i64 0, .int .i64 0, .int .i64 0, .slice none 0 0, .int .i64 0, .int .i64 0]), 10, true) := by kernel_rfl
theorem sE {w : World} {cs : List Value} {x : bJ} (h : ab.aJ.Reads w cs x) : (Lit.int .i64 x.kind).wf = true ∧ (Lit.int .i64 x.af).wf = true ∧ (Lit.int .i64 x.src).wf = true ∧ (Lit.int .i64 x.dst).wf = true ∧ (Lit.int .i64 x.index).wf = true ∧ (Lit.int .i64 x.write.kind).wf = true ∧ (Lit.int .i64 x.write.id).wf = true ∧ (Lit.int .i64 x.write.aa).wf = true ∧ (Lit.int .i64 x.write.seq).wf = true := by
 obtain ⟨bl, h⟩ := h
 obtain ⟨a7, d7, b7, -, -, w0, w1, w2, w3, w4, w5, w6, -, w8, w9⟩ := dV.1 h
 exact ⟨w0, w1, w2, w3, w4, w5, w6, w8, w9⟩
theorem qv {w : World} {x : bJ} {v : Value} {lo hi : Nat} (h : (ab.sl ab.int).aQ w [v] x.write.vec lo hi) (hw : (Lit.int .i64 x.kind).wf = true ∧ (Lit.int .i64 x.af).wf = true ∧ (Lit.int .i64 x.src).wf = true ∧ (Lit.int .i64 x.dst).wf = true ∧ (Lit.int .i64 x.index).wf = true ∧ (Lit.int .i64 x.write.kind).wf = true ∧ (Lit.int .i64 x.write.id).wf = true ∧ (Lit.int .i64 x.write.aa).wf = true ∧ (Lit.int .i64 x.write.seq).wf = true) : ab.aJ.aQ w [.int .i64 x.kind, .int .i64 x.af, .int .i64 x.src, .int .i64 x.dst, .int .i64 x.index, .int .i64 x.write.kind, .int .i64 x.write.id, v, .int .i64 x.write.aa, .int .i64 x.write.seq] x lo hi := by
 obtain ⟨bl, O, i⟩ := h
 obtain ⟨w0, w1, w2, w3, w4, w5, w6, w8, w9⟩ := hw
 exact ⟨bl, kg (dz O w5 w6 w8 w9 O.2.1) w0 w1 w2 w3 w4 O.2.1, i⟩
theorem vecM {w : World} {x : bJ} {a : Option Addr} {d : Nat} (h : ab.aJ.Reads w [.int .i64 x.kind, .int .i64 x.af, .int .i64 x.src, .int .i64 x.dst, .int .i64 x.index, .int .i64 x.write.kind, .int .i64 x.write.id, .slice a x.write.vec.length d, .int .i64 x.write.aa, .int .i64 x.write.seq] x) : (ab.sl ab.int).Reads w [.slice a x.write.vec.length d] x.write.vec := by
 obtain ⟨bl, h⟩ := h
 obtain ⟨a7, d7, b7, e, -, -, -, -, -, -, -, -, l, -⟩ := dV.1 h
 simp only [List.cons.injEq, Value.slice.injEq, and_true, true_and] at e
 obtain ⟨rfl, rfl⟩ := e
 exact ⟨b7, l⟩
theorem nn (cs : List Value) (x : bJ) (w : World) (h : ab.aJ.Reads w cs x) (hn : x.write.vec.length ≤ 10000000) :
  Calls Tryz.prog 255 #[.agg cs.toArray] w fun e w' => ∃ a3 c3, e = .returned (.agg #[.int .i64 x.kind, .int .i64 x.af, .int .i64 x.src, .int .i64 x.dst, .int .i64 x.index, .int .i64 x.write.kind, .int .i64 x.write.id, .slice a3 x.write.vec.length c3, .int .i64 x.write.aa, .int .i64 x.write.seq]) ∧ ab.aJ.aQ w' [.int .i64 x.kind, .int .i64 x.af, .int .i64 x.src, .int .i64 x.dst, .int .i64 x.index, .int .i64 x.write.kind, .int .i64 x.write.id, .slice a3 x.write.vec.length c3, .int .i64 x.write.aa, .int .i64 x.write.seq] x (w.heap.size + 2) w'.heap.size ∧ Below w.heap.size w w' := by
 have HV := yh (sE h)
 obtain ⟨a, d, rfl, -⟩ := cx h
 have HR0 := yh (vecM h)
 clear h
 have nb1 : Below w.heap.size w (w.alloc (.cells #[.int .i64 x.kind, .int .i64 x.af, .int .i64 x.src, .int .i64 x.dst, .int .i64 x.index, .int .i64 x.write.kind, .int .i64 x.write.id, .slice a x.write.vec.length d, .int .i64 x.write.aa, .int .i64 x.write.seq] 145)) := (Below.refl _ _).alloc (Nat.le_refl _) _
 have x1 : aj 0 #[.int .i64 x.kind, .int .i64 x.af, .int .i64 x.src, .int .i64 x.dst, .int .i64 x.index, .int .i64 x.write.kind, .int .i64 x.write.id, .slice a x.write.vec.length d, .int .i64 x.write.aa, .int .i64 x.write.seq] 145 (w.alloc (.cells #[.int .i64 x.kind, .int .i64 x.af, .int .i64 x.src, .int .i64 x.dst, .int .i64 x.index, .int .i64 x.write.kind, .int .i64 x.write.id, .slice a x.write.vec.length d, .int .i64 x.write.aa, .int .i64 x.write.seq] 145)) w.heap.size := aH (Nat.zero_le _)
 have s1 : (w.alloc (.cells #[.int .i64 x.kind, .int .i64 x.af, .int .i64 x.src, .int .i64 x.dst, .int .i64 x.index, .int .i64 x.write.kind, .int .i64 x.write.id, .slice a x.write.vec.length d, .int .i64 x.write.aa, .int .i64 x.write.seq] 145)).heap.size = w.heap.size + 1 := by simp
 have r1 := (uh HR0).ag nb1
 generalize hA1 : w.alloc (.cells #[.int .i64 x.kind, .int .i64 x.af, .int .i64 x.src, .int .i64 x.dst, .int .i64 x.index, .int .i64 x.write.kind, .int .i64 x.write.id, .slice a x.write.vec.length d, .int .i64 x.write.aa, .int .i64 x.write.seq] 145) = A1 at *
 have nb2 : Below A1.heap.size A1 (A1.alloc (.cells #[.int .i64 0, .int .i64 0, .int .i64 0, .int .i64 0, .int .i64 0, .int .i64 0, .int .i64 0, .slice none 0 0, .int .i64 0, .int .i64 0] 145)) := (Below.refl _ _).alloc (Nat.le_refl _) _
 have x2 : aj 0 #[.int .i64 0, .int .i64 0, .int .i64 0, .int .i64 0, .int .i64 0, .int .i64 0, .int .i64 0, .slice none 0 0, .int .i64 0, .int .i64 0] 145 (A1.alloc (.cells #[.int .i64 0, .int .i64 0, .int .i64 0, .int .i64 0, .int .i64 0, .int .i64 0, .int .i64 0, .slice none 0 0, .int .i64 0, .int .i64 0] 145)) A1.heap.size := aH (Nat.zero_le _)
 have s2 : (A1.alloc (.cells #[.int .i64 0, .int .i64 0, .int .i64 0, .int .i64 0, .int .i64 0, .int .i64 0, .int .i64 0, .slice none 0 0, .int .i64 0, .int .i64 0] 145)).heap.size = A1.heap.size + 1 := by simp
 replace x1 := x1.au nb2
 have r2 := r1.ag nb2
 have B2 : Below w.heap.size w (A1.alloc (.cells #[.int .i64 0, .int .i64 0, .int .i64 0, .int .i64 0, .int .i64 0, .int .i64 0, .int .i64 0, .slice none 0 0, .int .i64 0, .int .i64 0] 145)) := nb1.trans (nb2.mono (by omega))
 rw [s1] at x2 s2
 have HB := yh B2
 have HX1 := yh x1
 have HX2 := yh x2
 have HR := yh r2
 have HS := yh s2
 subst hA1
 clear nb1 nb2 x1 x2 r1 r2 B2 s1 s2 HR0
 go_enter Tryz.func255, Tryz.ntmps255
 go_upto_region 1 with fail
 generalize (w.alloc (.cells #[.int .i64 x.kind, .int .i64 x.af, .int .i64 x.src, .int .i64 x.dst, .int .i64 x.index, .int .i64 x.write.kind, .int .i64 x.write.id, .slice a x.write.vec.length d, .int .i64 x.write.aa, .int .i64 x.write.seq] 145)).alloc (.cells #[.int .i64 0, .int .i64 0, .int .i64 0, .int .i64 0, .int .i64 0, .int .i64 0, .int .i64 0, .slice none 0 0, .int .i64 0, .int .i64 0] 145) = W1 at *
 have HL := yh (jj _ x.write.vec W1 (uh HR) hn)
 have y7 : W1.cell? ⟨w.heap.size, 7, none⟩ = some (.slice a x.write.vec.length d) := (uh HX1).at 7 _ rfl
 go_wp2_with fail
 refine (uh HL).mono ?_
 rintro e W2 ⟨a3, n3, c3, rfl, ⟨O, hn3⟩, hb⟩
 subst hn3
 have hx1 := (uh HX1).au hb
 have hx2 := (uh HX2).au hb
 have hB2 := (uh HB).trans (hb.mono (uh HB).size)
 have hs2 := uh HS
 have hz2 := hb.size
 clear HX1 HX2 HB HR HS HL y7 hb
 have y0 : W2.cell? ⟨w.heap.size, 0, none⟩ = some (.int .i64 x.kind) := (hx1).at 0 _ rfl
 have y1 : W2.cell? ⟨w.heap.size, 1, none⟩ = some (.int .i64 x.af) := (hx1).at 1 _ rfl
 have y2 : W2.cell? ⟨w.heap.size, 2, none⟩ = some (.int .i64 x.src) := (hx1).at 2 _ rfl
 have y3 : W2.cell? ⟨w.heap.size, 3, none⟩ = some (.int .i64 x.dst) := (hx1).at 3 _ rfl
 have y4 : W2.cell? ⟨w.heap.size, 4, none⟩ = some (.int .i64 x.index) := (hx1).at 4 _ rfl
 have y5 : W2.cell? ⟨w.heap.size, 5, none⟩ = some (.int .i64 x.write.kind) := (hx1).at 5 _ rfl
 have y6 : W2.cell? ⟨w.heap.size, 6, none⟩ = some (.int .i64 x.write.id) := (hx1).at 6 _ rfl
 have y7 : W2.cell? ⟨w.heap.size, 7, none⟩ = some (.slice a x.write.vec.length d) := (hx1).at 7 _ rfl
 have y8 : W2.cell? ⟨w.heap.size, 8, none⟩ = some (.int .i64 x.write.aa) := (hx1).at 8 _ rfl
 have y9 : W2.cell? ⟨w.heap.size, 9, none⟩ = some (.int .i64 x.write.seq) := (hx1).at 9 _ rfl
 have yf := hx1.soft
 have yl := hx1.lt
 have v0 : W2.cell? ⟨w.heap.size + 1, 0, none⟩ = some (.int .i64 0) := (hx2).at 0 _ rfl
 have v1 : W2.cell? ⟨w.heap.size + 1, 1, none⟩ = some (.int .i64 0) := (hx2).at 1 _ rfl
 have v2 : W2.cell? ⟨w.heap.size + 1, 2, none⟩ = some (.int .i64 0) := (hx2).at 2 _ rfl
 have v3 : W2.cell? ⟨w.heap.size + 1, 3, none⟩ = some (.int .i64 0) := (hx2).at 3 _ rfl
 have v4 : W2.cell? ⟨w.heap.size + 1, 4, none⟩ = some (.int .i64 0) := (hx2).at 4 _ rfl
 have v5 : W2.cell? ⟨w.heap.size + 1, 5, none⟩ = some (.int .i64 0) := (hx2).at 5 _ rfl
 have v6 : W2.cell? ⟨w.heap.size + 1, 6, none⟩ = some (.int .i64 0) := (hx2).at 6 _ rfl
 have v7 : W2.cell? ⟨w.heap.size + 1, 7, none⟩ = some (.slice none 0 0) := (hx2).at 7 _ rfl
 have v8 : W2.cell? ⟨w.heap.size + 1, 8, none⟩ = some (.int .i64 0) := (hx2).at 8 _ rfl
 have v9 : W2.cell? ⟨w.heap.size + 1, 9, none⟩ = some (.int .i64 0) := (hx2).at 9 _ rfl
 have vf := hx2.soft
 have vl := hx2.lt
 have E1 : Ext (fun q => q = w.heap.size) W2 (W2.setCell ⟨w.heap.size, 7, none⟩ (.slice a3 x.write.vec.length c3)) := (Ext.refl (fun q => q = w.heap.size) _).setCell ⟨w.heap.size, 7, none⟩ _ rfl
 have B3 : Below w.heap.size w (W2.setCell ⟨w.heap.size, 7, none⟩ (.slice a3 x.write.vec.length c3)) := hB2.setCell (by simp) _
 have O3 := O.ext E1 (fun q h1 h2 h3 => by omega)
 have O4 := nr (s := w.heap.size + 1) (vs := [.int .i64 x.kind, .int .i64 x.af, .int .i64 x.src, .int .i64 x.dst, .int .i64 x.index, .int .i64 x.write.kind, .int .i64 x.write.id, .slice a3 x.write.vec.length c3, .int .i64 x.write.aa, .int .i64 x.write.seq]) O3 (by omega)
 have HO := yh (qv O4 (uh HV))
 have HB4 := yh (aP B3 (w.heap.size + 1) 0 [.int .i64 x.kind, .int .i64 x.af, .int .i64 x.src, .int .i64 x.dst, .int .i64 x.index, .int .i64 x.write.kind, .int .i64 x.write.id, .slice a3 x.write.vec.length c3, .int .i64 x.write.aa, .int .i64 x.write.seq] (by omega))
 have HZ : Hid ((aO (W2.setCell ⟨w.heap.size, 7, none⟩ (.slice a3 x.write.vec.length c3)) (w.heap.size + 1) 0 [.int .i64 x.kind, .int .i64 x.af, .int .i64 x.src, .int .i64 x.dst, .int .i64 x.index, .int .i64 x.write.kind, .int .i64 x.write.id, .slice a3 x.write.vec.length c3, .int .i64 x.write.aa, .int .i64 x.write.seq]).heap.size = W2.heap.size) := by
  refine (bF _ _ _ _).trans ?_
  simp
 have hq : W1.heap.size = w.heap.size + 2 := by omega
 have HQ := yh hq
 clear O O3 O4 E1 B3 hB2 HV hq hx1 hx2 hs2
 go_wp2_with fail
 refine bodyPost_ret (v := .agg #[.int .i64 x.kind, .int .i64 x.af, .int .i64 x.src, .int .i64 x.dst, .int .i64 x.index, .int .i64 x.write.kind, .int .i64 x.write.id, .slice a3 x.write.vec.length c3, .int .i64 x.write.aa, .int .i64 x.write.seq]) (by simp [results, Tryz.results255, go_sem, v0, v1, v2, v3, v4, v5, v6, v7, v8, v9]) rfl ?_
 refine ⟨a3, c3, rfl, ?_, uh HB4⟩
 have h9 := uh HO
 rw [uh HQ] at h9
 exact h9.mono (Nat.le_refl _) (Nat.le_of_eq (uh HZ).symm)
def nL (w w' : World) (g : Nat) (xs : List bJ) : Prop := g = w.heap.size ∧ ∃ (rows : List (List Value)) (hi : Nat), w'.ownsRow w.heap.size 145 10 (.slice (some ⟨g, 0, none⟩) xs.length xs.length) xs.length rows.flatten ∧ ab.fo ab.aJ w' rows xs (w.heap.size + 1) hi ∧ hi ≤ w'.heap.size ∧ w.heap.size < hi
theorem lU (v : Value) (xs : List bJ) (w : World) (h : (ab.sl ab.aJ).Reads w [v] xs) (hlen : xs.length ≤ 1000000) (hv : ∀ x ∈ xs, x.write.vec.length ≤ 10000000) :
  Calls Tryz.prog 223 #[v] w fun e w' => ∃ (g : Nat), e = .returned (.slice (some ⟨g, 0, none⟩) xs.length xs.length) ∧ (ab.sl ab.aJ).aQ w' [.slice (some ⟨g, 0, none⟩) xs.length xs.length] xs w.heap.size w'.heap.size ∧ Below w.heap.size w w' ∧ nL w w' g xs := by
 have hbig := h.dK
 obtain ⟨ao, cap, rfl⟩ := aE h
 obtain ⟨i0, hi, hz0, hz1, hz2⟩ : ∃ i, Tryz.prog.info? 145 = some i ∧ i.zero = some (.agg #[.int .i64 0, .int .i64 0, .int .i64 0, .int .i64 0, .int .i64 0, .int .i64 0, .int .i64 0, .slice none 0 0, .int .i64 0, .int .i64 0]) ∧ i.size = 10 ∧ i.bytes ≤ 1000 := by
  have := pv
  cases hq : Tryz.prog.info? 145 with
  | none => rw [hq] at this; simp at this
  | some i =>
   rw [hq] at this
   simp only [Option.map_some, Option.some.injEq, Prod.mk.injEq, decide_eq_true_eq] at this
   exact ⟨i, rfl, this.1, this.2.1, this.2.2⟩
 have H := yh h
 have HN := yh hv
 clear h hv
 go_enter Tryz.func223, Tryz.ntmps223
 go_wp2_with (at_make; refine wpList_make_full _ rfl _ _ 34 rfl w.heap.size 145 i0 _ 10 Tryz.underlying34 hi hz0 hz1 _ _ _ _ xs.length rfl rfl rfl rfl ?c1 ?c2 ?c3 ?_)
 case c1 => have := Nat.mul_le_mul hz2 hlen; omega
 case c2 => unfold maxLen; omega
 case c3 => exact Nat.le_refl _
 intro w1 hown1 hgrow1
 have hB1 : Below w.heap.size w w1 := (Below.refl _ _).grown hgrow1 (Nat.le_refl _) (by simp)
 clear hgrow1 hi hz0 hz1 hz2
 have HO1 := yh hown1
 have HB1 := yh hB1
 clear hown1 hB1
 go_wp2_with fail
 go_loopw [11] (fun i wr => ∃ (k : Nat) (rows : List (List Value)) (Q : List Value) (hi : Nat), k ≤ xs.length ∧ i = .int .i64 k ∧ wr.ownsRow w.heap.size 145 10 (.slice (some ⟨w.heap.size, 0, none⟩) xs.length xs.length) xs.length (rows.flatten ++ Q) ∧ Q.length = (xs.length - k) * 10 ∧ ab.fo ab.aJ wr rows (xs.take k) (w.heap.size + 1) hi ∧ hi ≤ wr.heap.size ∧ w.heap.size < hi ∧ Below w.heap.size w wr) (fun i _ => xs.length - (intOf i).toNat)
 case atStart =>
  have hl := ((uh HO1).lt w.heap.size rfl).2
  exact ⟨0, [], _, w1.heap.size, Nat.zero_le _, rfl, by simpa using uh HO1, by have := (uh HO1).1; simpa using this, ab.dC, Nat.le_refl _, hl, uh HB1⟩
 case round =>
  obtain ⟨k, rows, Q, hi, hk, rfl, hown, hQ, hsub, hhi, hlo, hB⟩ := hrel
  clear HO1 HB1
  by_cases hlt : k < xs.length
  ·
   obtain ⟨b, off, rfl, hbl⟩ := ab.aI (uh H) (by omega)
   obtain ⟨row, hc, hr⟩ := ab.bm (uh H) hlt
   replace hr := hr.ag hB
   have hr2 := hr
   obtain ⟨a, d, rfl, -⟩ := cx hr2
   have c0 : wr.cell? ⟨b, off + k * 10, none⟩ = some (.int .i64 (xs[k]).kind) := (hB.cell (p := ⟨b, off + k * 10, none⟩) hbl).trans (hc 0 (by decide))
   have c1 : wr.cell? ⟨b, off + k * 10 + 1, none⟩ = some (.int .i64 (xs[k]).af) := (hB.cell (p := ⟨b, off + k * 10 + 1, none⟩) hbl).trans (hc 1 (by decide))
   have c2 : wr.cell? ⟨b, off + k * 10 + 2, none⟩ = some (.int .i64 (xs[k]).src) := (hB.cell (p := ⟨b, off + k * 10 + 2, none⟩) hbl).trans (hc 2 (by decide))
   have c3 : wr.cell? ⟨b, off + k * 10 + 3, none⟩ = some (.int .i64 (xs[k]).dst) := (hB.cell (p := ⟨b, off + k * 10 + 3, none⟩) hbl).trans (hc 3 (by decide))
   have c4 : wr.cell? ⟨b, off + k * 10 + 4, none⟩ = some (.int .i64 (xs[k]).index) := (hB.cell (p := ⟨b, off + k * 10 + 4, none⟩) hbl).trans (hc 4 (by decide))
   have c5 : wr.cell? ⟨b, off + k * 10 + 5, none⟩ = some (.int .i64 (xs[k]).write.kind) := (hB.cell (p := ⟨b, off + k * 10 + 5, none⟩) hbl).trans (hc 5 (by decide))
   have c6 : wr.cell? ⟨b, off + k * 10 + 6, none⟩ = some (.int .i64 (xs[k]).write.id) := (hB.cell (p := ⟨b, off + k * 10 + 6, none⟩) hbl).trans (hc 6 (by decide))
   have c7 : wr.cell? ⟨b, off + k * 10 + 7, none⟩ = some (.slice a (xs[k]).write.vec.length d) := (hB.cell (p := ⟨b, off + k * 10 + 7, none⟩) hbl).trans (hc 7 (by decide))
   have c8 : wr.cell? ⟨b, off + k * 10 + 8, none⟩ = some (.int .i64 (xs[k]).write.aa) := (hB.cell (p := ⟨b, off + k * 10 + 8, none⟩) hbl).trans (hc 8 (by decide))
   have c9 : wr.cell? ⟨b, off + k * 10 + 9, none⟩ = some (.int .i64 (xs[k]).write.seq) := (hB.cell (p := ⟨b, off + k * 10 + 9, none⟩) hbl).trans (hc 9 (by decide))
   have hrl : rows.flatten.length = k * 10 := by have := (ab.dB hsub).1; rw [List.length_take, Nat.min_eq_left hk] at this; exact this
   have hvl := uh HN xs[k] (List.getElem_mem hlt)
   have HT : Hid (xs.take (k + 1) = xs.take k ++ [xs[k]]) := List.take_succ_eq_append_getElem hlt
   have HB := yh hB
   have HO := yh hown
   have HS := yh hsub
   have HQ := yh hQ
   have HRM := yh hr
   clear hB hr hc hown hsub hQ hr2
   generalize hxk : xs[k] = x at *
   clear hxk
   have hbr : b < wr.heap.size := Nat.lt_of_lt_of_le hbl (uh HB).size
   have nb : Below wr.heap.size wr (wr.alloc (.cells #[.int .i64 x.kind, .int .i64 x.af, .int .i64 x.src, .int .i64 x.dst, .int .i64 x.index, .int .i64 x.write.kind, .int .i64 x.write.id, .slice a x.write.vec.length d, .int .i64 x.write.aa, .int .i64 x.write.seq] 145)) := (Below.refl _ _).alloc (Nat.le_refl _) _
   have hz0 : (wr.alloc (.cells #[.int .i64 x.kind, .int .i64 x.af, .int .i64 x.src, .int .i64 x.dst, .int .i64 x.index, .int .i64 x.write.kind, .int .i64 x.write.id, .slice a x.write.vec.length d, .int .i64 x.write.aa, .int .i64 x.write.seq] 145)).heap.size = wr.heap.size + 1 := by simp
   have HL := yh (nn _ x _ ((uh HRM).ag nb) hvl)
   have HNB := yh nb
   have HZ0 := yh hz0
   clear nb hz0 HRM
   go_wp2_with fail
   clear c0 c1 c2 c3 c4 c5 c6 c7 c8 c9
   refine (uh HL).mono ?_
   generalize hW0 : wr.alloc (.cells #[.int .i64 x.kind, .int .i64 x.af, .int .i64 x.src, .int .i64 x.dst, .int .i64 x.index, .int .i64 x.write.kind, .int .i64 x.write.id, .slice a x.write.vec.length d, .int .i64 x.write.aa, .int .i64 x.write.seq] 145) = W0 at *
   clear hW0
   rintro e w2 ⟨a3, c3, rfl, O, hb⟩
   have hz0 := uh HZ0
   have hz2 : W0.heap.size ≤ w2.heap.size := hb.size
   have hb3 : Below wr.heap.size wr w2 := (uh HNB).trans (hb.mono (uh HNB).size)
   have o2 := cJ (uh HO) hb3
   replace HS := yh (ab.da (ab.cf (uh HS) (aL hb3 cU) (fun _ _ _ h => h)) O (by omega) (by omega) (by omega))
   have hb2 := (uh HB).trans (hb3.mono (uh HB).size)
   have hxw : w.heap.size < wr.heap.size := by omega
   clear hb HB HO O HNB HL hb3 HZ0
   have hQ := uh HQ
   have hl5 : (rows.flatten ++ Q).length = xs.length * 10 := o2.1
   obtain ⟨u0, g0⟩ : ∃ u, w2.cell? ⟨w.heap.size, k * 10, none⟩ = some u := by
    rw [o2.cellAt (k * 10) (by omega)]
    exact gZ (by omega)
   have t0 := o2.frozenAt (k * 10)
   obtain ⟨u1, g1⟩ : ∃ u, w2.cell? ⟨w.heap.size, k * 10 + 1, none⟩ = some u := by
    rw [o2.cellAt (k * 10 + 1) (by omega)]
    exact gZ (by omega)
   have t1 := o2.frozenAt (k * 10 + 1)
   obtain ⟨u2, g2⟩ : ∃ u, w2.cell? ⟨w.heap.size, k * 10 + 2, none⟩ = some u := by
    rw [o2.cellAt (k * 10 + 2) (by omega)]
    exact gZ (by omega)
   have t2 := o2.frozenAt (k * 10 + 2)
   obtain ⟨u3, g3⟩ : ∃ u, w2.cell? ⟨w.heap.size, k * 10 + 3, none⟩ = some u := by
    rw [o2.cellAt (k * 10 + 3) (by omega)]
    exact gZ (by omega)
   have t3 := o2.frozenAt (k * 10 + 3)
   obtain ⟨u4, g4⟩ : ∃ u, w2.cell? ⟨w.heap.size, k * 10 + 4, none⟩ = some u := by
    rw [o2.cellAt (k * 10 + 4) (by omega)]
    exact gZ (by omega)
   have t4 := o2.frozenAt (k * 10 + 4)
   obtain ⟨u5, g5⟩ : ∃ u, w2.cell? ⟨w.heap.size, k * 10 + 5, none⟩ = some u := by
    rw [o2.cellAt (k * 10 + 5) (by omega)]
    exact gZ (by omega)
   have t5 := o2.frozenAt (k * 10 + 5)
   obtain ⟨u6, g6⟩ : ∃ u, w2.cell? ⟨w.heap.size, k * 10 + 6, none⟩ = some u := by
    rw [o2.cellAt (k * 10 + 6) (by omega)]
    exact gZ (by omega)
   have t6 := o2.frozenAt (k * 10 + 6)
   obtain ⟨u7, g7⟩ : ∃ u, w2.cell? ⟨w.heap.size, k * 10 + 7, none⟩ = some u := by
    rw [o2.cellAt (k * 10 + 7) (by omega)]
    exact gZ (by omega)
   have t7 := o2.frozenAt (k * 10 + 7)
   obtain ⟨u8, g8⟩ : ∃ u, w2.cell? ⟨w.heap.size, k * 10 + 8, none⟩ = some u := by
    rw [o2.cellAt (k * 10 + 8) (by omega)]
    exact gZ (by omega)
   have t8 := o2.frozenAt (k * 10 + 8)
   obtain ⟨u9, g9⟩ : ∃ u, w2.cell? ⟨w.heap.size, k * 10 + 9, none⟩ = some u := by
    rw [o2.cellAt (k * 10 + 9) (by omega)]
    exact gZ (by omega)
   have t9 := o2.frozenAt (k * 10 + 9)
   have o3 := cN o2 (k * 10) [.int .i64 x.kind, .int .i64 x.af, .int .i64 x.src, .int .i64 x.dst, .int .i64 x.index, .int .i64 x.write.kind, .int .i64 x.write.id, .slice a3 x.write.vec.length c3, .int .i64 x.write.aa, .int .i64 x.write.seq]
   rw [show k * 10 = rows.flatten.length from hrl.symm, cF _ _ _ (by rw [hQ]; simp; have : 1 * 10 ≤ (xs.length - k) * 10 := Nat.mul_le_mul_right _ (by omega); omega), hrl] at o3
   have E : Ext (fun q => q = w.heap.size) w2 (aO w2 w.heap.size (k * 10) [.int .i64 x.kind, .int .i64 x.af, .int .i64 x.src, .int .i64 x.dst, .int .i64 x.index, .int .i64 x.write.kind, .int .i64 x.write.id, .slice a3 x.write.vec.length c3, .int .i64 x.write.aa, .int .i64 x.write.seq]) := bD _ (Ext.refl _ _) _ _ _ rfl
   replace HS := yh (ab.cf (uh HS) E (fun q h1 h2 h3 => by omega))
   have HB := yh (aP hb2 w.heap.size (k * 10) [.int .i64 x.kind, .int .i64 x.af, .int .i64 x.src, .int .i64 x.dst, .int .i64 x.index, .int .i64 x.write.kind, .int .i64 x.write.id, .slice a3 x.write.vec.length c3, .int .i64 x.write.aa, .int .i64 x.write.seq] (Nat.le_refl _))
   have HZ : Hid ((aO w2 w.heap.size (k * 10) [.int .i64 x.kind, .int .i64 x.af, .int .i64 x.src, .int .i64 x.dst, .int .i64 x.index, .int .i64 x.write.kind, .int .i64 x.write.id, .slice a3 x.write.vec.length c3, .int .i64 x.write.aa, .int .i64 x.write.seq]).heap.size = w2.heap.size) := bF _ _ _ _
   have HO : Hid ((aO w2 w.heap.size (k * 10) [.int .i64 x.kind, .int .i64 x.af, .int .i64 x.src, .int .i64 x.dst, .int .i64 x.index, .int .i64 x.write.kind, .int .i64 x.write.id, .slice a3 x.write.vec.length c3, .int .i64 x.write.aa, .int .i64 x.write.seq]).ownsRow w.heap.size 145 10 (.slice (some ⟨w.heap.size, 0, none⟩) xs.length xs.length) xs.length ((rows ++ [([.int .i64 x.kind, .int .i64 x.af, .int .i64 x.src, .int .i64 x.dst, .int .i64 x.index, .int .i64 x.write.kind, .int .i64 x.write.id, .slice a3 x.write.vec.length c3, .int .i64 x.write.aa, .int .i64 x.write.seq] : List Value)]).flatten ++ Q.drop 10)) := by
    show (aO w2 w.heap.size (k * 10) [.int .i64 x.kind, .int .i64 x.af, .int .i64 x.src, .int .i64 x.dst, .int .i64 x.index, .int .i64 x.write.kind, .int .i64 x.write.id, .slice a3 x.write.vec.length c3, .int .i64 x.write.aa, .int .i64 x.write.seq]).ownsRow w.heap.size 145 10 (.slice (some ⟨w.heap.size, 0, none⟩) xs.length xs.length) xs.length ((rows ++ [([.int .i64 x.kind, .int .i64 x.af, .int .i64 x.src, .int .i64 x.dst, .int .i64 x.index, .int .i64 x.write.kind, .int .i64 x.write.id, .slice a3 x.write.vec.length c3, .int .i64 x.write.aa, .int .i64 x.write.seq] : List Value)]).flatten ++ Q.drop 10)
    rw [List.flatten_append]
    simpa using o3
   have hl2 := (o2.lt w.heap.size rfl).2
   clear o3 o2 E hb2 hl5
   have hQ2 : Hid ((Q.drop 10).length = (xs.length - (k + 1)) * 10) := by
    show (Q.drop 10).length = (xs.length - (k + 1)) * 10
    rw [List.length_drop, hQ, show xs.length - k = xs.length - (k + 1) + 1 by omega, Nat.add_mul]
    omega
   have HW2 : Hid (w.heap.size < w2.heap.size) := hl2
   clear hQ HQ hz2 hz0
   go_wp2_with fail
   go_roundw
   case rel => exact ⟨k + 1, rows ++ [([.int .i64 x.kind, .int .i64 x.af, .int .i64 x.src, .int .i64 x.dst, .int .i64 x.index, .int .i64 x.write.kind, .int .i64 x.write.id, .slice a3 x.write.vec.length c3, .int .i64 x.write.aa, .int .i64 x.write.seq] : List Value)], Q.drop 10, w2.heap.size, by omega, by go_num, uh HO, uh hQ2, (by rw [uh HT]; exact uh HS), Nat.le_of_eq (uh HZ).symm, uh HW2, uh HB⟩
   case measure => simp [intOf]; omega
  obtain rfl : k = xs.length := by omega
  have e0 : Q = [] := List.eq_nil_of_length_eq_zero (by rw [hQ]; simp)
  subst e0
  rw [List.append_nil] at hown
  rw [List.take_length] at hsub
  have HK : Hid (nL w wr w.heap.size xs) := ⟨rfl, rows, hi, hown, hsub, hhi, hlo⟩
  have HO := yh (ab.dc (A := ab.aJ) hown hsub (by omega) hhi hbig)
  have HB := yh hB
  clear hown hsub hB
  go_wp2_with fail
  go_ret
  exact ⟨_, rfl, uh HO, uh HB, uh HK⟩
theorem kU (cs : List Value) (x : ay) (w : World) (h : ab.aC.Reads w cs x) (hok : db x) (hf : Fits x) :
  Calls Tryz.prog 176 #[.agg cs.toArray] w fun e w' => ∃ (v3 v4 v5 v6 : Value), e = .returned (.agg #[.int .i64 x.now, .int .i64 x.events, .int .i64 x.chain.af, v3, v4, v5, v6]) ∧ ab.aC.aQ w' [.int .i64 x.now, .int .i64 x.events, .int .i64 x.chain.af, v3, v4, v5, v6] x (w.heap.size + 2) w'.heap.size ∧ Below w.heap.size w w' := by
 have HWF := yh (iC h)
 obtain ⟨a3, d3, a4, d4, a5, d5, a6, d6, rfl, RC, RN, RM, RE⟩ := aG h
 obtain ⟨_, _, hq, RI⟩ := bP RC
 simp only [List.cons.injEq, Value.slice.injEq, and_true, true_and] at hq
 obtain ⟨rfl, rfl⟩ := hq
 have nb1 : Below w.heap.size w (w.alloc (.cells #[.int .i64 x.now, .int .i64 x.events, .int .i64 x.chain.af, .slice a3 x.chain.ids.length d3, .slice a4 x.nodes.length d4, .slice a5 x.msgs.length d5, .slice a6 x.ae.length d6] 37)) := (Below.refl _ _).alloc (Nat.le_refl _) _
 have HV : Hid (Below w.heap.size w ((w.alloc (.cells #[.int .i64 x.now, .int .i64 x.events, .int .i64 x.chain.af, .slice a3 x.chain.ids.length d3, .slice a4 x.nodes.length d4, .slice a5 x.msgs.length d5, .slice a6 x.ae.length d6] 37)).alloc (.cells #[.int .i64 0, .int .i64 0, .int .i64 0, .slice none 0 0, .slice none 0 0, .slice none 0 0, .slice none 0 0] 37))) := nb1.alloc (by simp) _
 have HX : Hid (aj 0 #[.int .i64 x.now, .int .i64 x.events, .int .i64 x.chain.af, .slice a3 x.chain.ids.length d3, .slice a4 x.nodes.length d4, .slice a5 x.msgs.length d5, .slice a6 x.ae.length d6] 37 ((w.alloc (.cells #[.int .i64 x.now, .int .i64 x.events, .int .i64 x.chain.af, .slice a3 x.chain.ids.length d3, .slice a4 x.nodes.length d4, .slice a5 x.msgs.length d5, .slice a6 x.ae.length d6] 37)).alloc (.cells #[.int .i64 0, .int .i64 0, .int .i64 0, .slice none 0 0, .slice none 0 0, .slice none 0 0, .slice none 0 0] 37)) w.heap.size) := (aH (Nat.zero_le _)).grow _
 have HY : Hid (aj 0 #[.int .i64 0, .int .i64 0, .int .i64 0, .slice none 0 0, .slice none 0 0, .slice none 0 0, .slice none 0 0] 37 ((w.alloc (.cells #[.int .i64 x.now, .int .i64 x.events, .int .i64 x.chain.af, .slice a3 x.chain.ids.length d3, .slice a4 x.nodes.length d4, .slice a5 x.msgs.length d5, .slice a6 x.ae.length d6] 37)).alloc (.cells #[.int .i64 0, .int .i64 0, .int .i64 0, .slice none 0 0, .slice none 0 0, .slice none 0 0, .slice none 0 0] 37)) (w.heap.size + 1)) := bg (Nat.zero_le _) (by simp)
 have hz0 : ((w.alloc (.cells #[.int .i64 x.now, .int .i64 x.events, .int .i64 x.chain.af, .slice a3 x.chain.ids.length d3, .slice a4 x.nodes.length d4, .slice a5 x.msgs.length d5, .slice a6 x.ae.length d6] 37)).alloc (.cells #[.int .i64 0, .int .i64 0, .int .i64 0, .slice none 0 0, .slice none 0 0, .slice none 0 0, .slice none 0 0] 37)).heap.size = w.heap.size + 2 := by simp
 have HI := yh RI
 have HN := yh RN
 have HM := yh RM
 have HE := yh RE
 have HOK := yh hok
 have HF := yh hf
 clear nb1 h RC RN RM RE RI hok hf
 go_enter Tryz.func176, Tryz.ntmps176
 go_upto_region 1 with fail
 generalize (w.alloc (.cells #[.int .i64 x.now, .int .i64 x.events, .int .i64 x.chain.af, .slice a3 x.chain.ids.length d3, .slice a4 x.nodes.length d4, .slice a5 x.msgs.length d5, .slice a6 x.ae.length d6] 37)).alloc (.cells #[.int .i64 0, .int .i64 0, .int .i64 0, .slice none 0 0, .slice none 0 0, .slice none 0 0, .slice none 0 0] 37) = W0 at *
 have hx := uh HX
 have y3 := aj.at hx 3 _ rfl
 have yl := hx.lt
 simp only [ga, gb, gc] at y3
 have HC := yh (jj _ x.chain.ids W0 ((uh HI).ag (uh HV)) (by have := (cE (uh HOK).chain).len; omega))
 clear hx
 go_wp2_with fail
 refine (uh HC).mono ?_
 rintro e v1 ⟨p3, n3, q3, rfl, ⟨O, rfl⟩, hb⟩
 have hz1 : W0.heap.size ≤ v1.heap.size := hb.size
 have hx := (uh HX).au hb
 replace HY := yh (((uh HY).au hb).other ⟨w.heap.size, 3, none⟩ (.slice p3 x.chain.ids.length q3) (by simp))
 clear y3 yl
 have y3 := aj.at hx 3 _ rfl
 have yf := aj.soft hx
 have yl := hx.lt
 simp only [ga, gb, gc] at y3
 have hv := (uh HV).trans (hb.mono (uh HV).size)
 replace HV := yh (hv.setCell (p := ⟨w.heap.size, 3, none⟩) (Nat.le_refl _) (.slice p3 x.chain.ids.length q3))
 have hx2 := aj.set hx 3 (.slice p3 x.chain.ids.length q3)
 simp only [List.setIfInBounds_toArray, List.set_cons_zero, List.set_cons_succ] at hx2
 replace HX := yh hx2
 have e1 : Ext (fun q => q = w.heap.size) v1 (v1.setCell ⟨w.heap.size, 3, none⟩ (.slice p3 x.chain.ids.length q3)) := (Ext.refl _ _).setCell _ _ rfl
 have P0 := yh (O.ext e1 (fun q h1 h2 h3 => by omega))
 have hz1' : (v1.setCell ⟨w.heap.size, 3, none⟩ (.slice p3 x.chain.ids.length q3)).heap.size = v1.heap.size := by simp
 clear hx hx2 e1 hv O hb HC
 go_upto_region 2 with fail
 generalize hW : v1.setCell ⟨w.heap.size, 3, none⟩ (.slice p3 x.chain.ids.length q3) = W1 at *
 clear hW y3 yf yl
 have hx := uh HX
 have y4 := aj.at hx 4 _ rfl
 have yl := hx.lt
 simp only [ga, gb, gc] at y4
 have HC := yh (kG _ x.nodes W1 ((uh HN).ag (uh HV)) (by have := (uh HOK).some; omega) (fun y hy => by obtain ⟨j, hj, rfl⟩ := List.getElem_of_mem hy; exact ln ((uh HOK).nodes j hj).1))
 clear hx
 go_wp2_with fail
 refine (uh HC).mono ?_
 rintro e v2 ⟨g4, rfl, O, hb⟩
 have hz2 : W1.heap.size ≤ v2.heap.size := hb.size
 have hx := (uh HX).au hb
 replace HY := yh (((uh HY).au hb).other ⟨w.heap.size, 4, none⟩ (.slice (some ⟨g4, 0, none⟩) x.nodes.length x.nodes.length) (by simp))
 clear y4 yl
 have y4 := aj.at hx 4 _ rfl
 have yf := aj.soft hx
 have yl := hx.lt
 simp only [ga, gb, gc] at y4
 have hv := (uh HV).trans (hb.mono (uh HV).size)
 replace HV := yh (hv.setCell (p := ⟨w.heap.size, 4, none⟩) (Nat.le_refl _) (.slice (some ⟨g4, 0, none⟩) x.nodes.length x.nodes.length))
 have hx2 := aj.set hx 4 (.slice (some ⟨g4, 0, none⟩) x.nodes.length x.nodes.length)
 simp only [List.setIfInBounds_toArray, List.set_cons_zero, List.set_cons_succ] at hx2
 replace HX := yh hx2
 have e2 : Ext (fun q => q = w.heap.size) v2 (v2.setCell ⟨w.heap.size, 4, none⟩ (.slice (some ⟨g4, 0, none⟩) x.nodes.length x.nodes.length)) := (Ext.refl _ _).setCell _ _ rfl
 replace P0 := yh (((uh P0).ag hb).ext e2 (fun q h1 h2 h3 => by omega))
 have P1 := yh (O.ext e2 (fun q h1 h2 h3 => by omega))
 have hz2' : (v2.setCell ⟨w.heap.size, 4, none⟩ (.slice (some ⟨g4, 0, none⟩) x.nodes.length x.nodes.length)).heap.size = v2.heap.size := by simp
 clear hx hx2 e2 hv O hb HC
 go_upto_region 3 with fail
 generalize hW : v2.setCell ⟨w.heap.size, 4, none⟩ (.slice (some ⟨g4, 0, none⟩) x.nodes.length x.nodes.length) = W2 at *
 clear hW y4 yf yl
 have hx := uh HX
 have y5 := aj.at hx 5 _ rfl
 have yl := hx.lt
 simp only [ga, gb, gc] at y5
 have HC := yh (lU _ x.msgs W2 ((uh HM).ag (uh HV)) (by have := (cR (uh HOK).sG).1; omega) (fun y hy => nB ((cR (uh HOK).sG).2 y hy)))
 clear hx
 go_wp2_with fail
 refine (uh HC).mono ?_
 rintro e v3 ⟨g5, rfl, O, hb, -⟩
 have hz3 : W2.heap.size ≤ v3.heap.size := hb.size
 have hx := (uh HX).au hb
 replace HY := yh (((uh HY).au hb).other ⟨w.heap.size, 5, none⟩ (.slice (some ⟨g5, 0, none⟩) x.msgs.length x.msgs.length) (by simp))
 clear y5 yl
 have y5 := aj.at hx 5 _ rfl
 have yf := aj.soft hx
 have yl := hx.lt
 simp only [ga, gb, gc] at y5
 have hv := (uh HV).trans (hb.mono (uh HV).size)
 replace HV := yh (hv.setCell (p := ⟨w.heap.size, 5, none⟩) (Nat.le_refl _) (.slice (some ⟨g5, 0, none⟩) x.msgs.length x.msgs.length))
 have hx2 := aj.set hx 5 (.slice (some ⟨g5, 0, none⟩) x.msgs.length x.msgs.length)
 simp only [List.setIfInBounds_toArray, List.set_cons_zero, List.set_cons_succ] at hx2
 replace HX := yh hx2
 have e3 : Ext (fun q => q = w.heap.size) v3 (v3.setCell ⟨w.heap.size, 5, none⟩ (.slice (some ⟨g5, 0, none⟩) x.msgs.length x.msgs.length)) := (Ext.refl _ _).setCell _ _ rfl
 replace P0 := yh (((uh P0).ag hb).ext e3 (fun q h1 h2 h3 => by omega))
 replace P1 := yh (((uh P1).ag hb).ext e3 (fun q h1 h2 h3 => by omega))
 have P2 := yh (O.ext e3 (fun q h1 h2 h3 => by omega))
 have hz3' : (v3.setCell ⟨w.heap.size, 5, none⟩ (.slice (some ⟨g5, 0, none⟩) x.msgs.length x.msgs.length)).heap.size = v3.heap.size := by simp
 clear hx hx2 e3 hv O hb HC
 go_upto_region 4 with fail
 generalize hW : v3.setCell ⟨w.heap.size, 5, none⟩ (.slice (some ⟨g5, 0, none⟩) x.msgs.length x.msgs.length) = W3 at *
 clear hW y5 yf yl
 have hx := uh HX
 have y6 := aj.at hx 6 _ rfl
 have yl := hx.lt
 simp only [ga, gb, gc] at y6
 have HC := yh (iN _ x.ae W3 ((uh HE).ag (uh HV)) (by have := (uh HOK).few; omega) (uh HF))
 clear hx
 go_wp2_with fail
 refine (uh HC).mono ?_
 rintro e v4 ⟨g6, rfl, O, hb⟩
 have hz4 : W3.heap.size ≤ v4.heap.size := hb.size
 have hx := (uh HX).au hb
 replace HY := yh (((uh HY).au hb).other ⟨w.heap.size, 6, none⟩ (.slice (some ⟨g6, 0, none⟩) x.ae.length x.ae.length) (by simp))
 clear y6 yl
 have y6 := aj.at hx 6 _ rfl
 have yf := aj.soft hx
 have yl := hx.lt
 simp only [ga, gb, gc] at y6
 have hv := (uh HV).trans (hb.mono (uh HV).size)
 replace HV := yh (hv.setCell (p := ⟨w.heap.size, 6, none⟩) (Nat.le_refl _) (.slice (some ⟨g6, 0, none⟩) x.ae.length x.ae.length))
 have hx2 := aj.set hx 6 (.slice (some ⟨g6, 0, none⟩) x.ae.length x.ae.length)
 simp only [List.setIfInBounds_toArray, List.set_cons_zero, List.set_cons_succ] at hx2
 replace HX := yh hx2
 have e4 : Ext (fun q => q = w.heap.size) v4 (v4.setCell ⟨w.heap.size, 6, none⟩ (.slice (some ⟨g6, 0, none⟩) x.ae.length x.ae.length)) := (Ext.refl _ _).setCell _ _ rfl
 replace P0 := yh (((uh P0).ag hb).ext e4 (fun q h1 h2 h3 => by omega))
 replace P1 := yh (((uh P1).ag hb).ext e4 (fun q h1 h2 h3 => by omega))
 replace P2 := yh (((uh P2).ag hb).ext e4 (fun q h1 h2 h3 => by omega))
 have P3 := yh (O.ext e4 (fun q h1 h2 h3 => by omega))
 have hz4' : (v4.setCell ⟨w.heap.size, 6, none⟩ (.slice (some ⟨g6, 0, none⟩) x.ae.length x.ae.length)).heap.size = v4.heap.size := by simp
 clear hx hx2 e4 hv O hb HC
 go_upto_region 5 with fail
 generalize hW : v4.setCell ⟨w.heap.size, 6, none⟩ (.slice (some ⟨g6, 0, none⟩) x.ae.length x.ae.length) = W4 at *
 clear hW y6 yf yl
 have hx := uh HX
 have hy := uh HY
 have y0 := aj.at hx 0 _ rfl
 have y1 := aj.at hx 1 _ rfl
 have y2 := aj.at hx 2 _ rfl
 have y3 := aj.at hx 3 _ rfl
 have y4 := aj.at hx 4 _ rfl
 have y5 := aj.at hx 5 _ rfl
 have y6 := aj.at hx 6 _ rfl
 have u0 := aj.at hy 0 _ rfl
 have u1 := aj.at hy 1 _ rfl
 have u2 := aj.at hy 2 _ rfl
 have u3 := aj.at hy 3 _ rfl
 have u4 := aj.at hy 4 _ rfl
 have u5 := aj.at hy 5 _ rfl
 have u6 := aj.at hy 6 _ rfl
 simp only [ga, gb, gc] at y0 u0 y1 u1 y2 u2 y3 u3 y4 u4 y5 u5 y6 u6
 have yl := hx.lt
 have uf := aj.soft hy
 have ul := hy.lt
 have O := iR (uh P0) (uh P1) (uh P2) (uh P3) (by omega) (by omega) (by omega) (by omega) (by omega) (by omega) (by omega) (uh HWF)
 have e9 : Ext (fun q => q = w.heap.size + 1) W4 (aO W4 (w.heap.size + 1) 0 [.int .i64 x.now, .int .i64 x.events, .int .i64 x.chain.af, .slice p3 x.chain.ids.length q3, .slice (some ⟨g4, 0, none⟩) x.nodes.length x.nodes.length, .slice (some ⟨g5, 0, none⟩) x.msgs.length x.msgs.length, .slice (some ⟨g6, 0, none⟩) x.ae.length x.ae.length]) := bD _ (Ext.refl _ _) _ _ _ rfl
 have HO : Hid (ab.aC.aQ (aO W4 (w.heap.size + 1) 0 [.int .i64 x.now, .int .i64 x.events, .int .i64 x.chain.af, .slice p3 x.chain.ids.length q3, .slice (some ⟨g4, 0, none⟩) x.nodes.length x.nodes.length, .slice (some ⟨g5, 0, none⟩) x.msgs.length x.msgs.length, .slice (some ⟨g6, 0, none⟩) x.ae.length x.ae.length]) [.int .i64 x.now, .int .i64 x.events, .int .i64 x.chain.af, .slice p3 x.chain.ids.length q3, .slice (some ⟨g4, 0, none⟩) x.nodes.length x.nodes.length, .slice (some ⟨g5, 0, none⟩) x.msgs.length x.msgs.length, .slice (some ⟨g6, 0, none⟩) x.ae.length x.ae.length] x (w.heap.size + 2) W4.heap.size) := (O.ext e9 (fun q h1 h2 h3 => by omega)).mono (by omega) (by omega)
 have HB := yh (aP (uh HV) (w.heap.size + 1) 0 [.int .i64 x.now, .int .i64 x.events, .int .i64 x.chain.af, .slice p3 x.chain.ids.length q3, .slice (some ⟨g4, 0, none⟩) x.nodes.length x.nodes.length, .slice (some ⟨g5, 0, none⟩) x.msgs.length x.msgs.length, .slice (some ⟨g6, 0, none⟩) x.ae.length x.ae.length] (by omega))
 have hzz : Hid ((aO W4 (w.heap.size + 1) 0 [.int .i64 x.now, .int .i64 x.events, .int .i64 x.chain.af, .slice p3 x.chain.ids.length q3, .slice (some ⟨g4, 0, none⟩) x.nodes.length x.nodes.length, .slice (some ⟨g5, 0, none⟩) x.msgs.length x.msgs.length, .slice (some ⟨g6, 0, none⟩) x.ae.length x.ae.length]).heap.size = W4.heap.size) := bF _ _ _ _
 clear hx hy O e9 P0 P1 P2 P3 HX HY HV HOK HF HI HN HM HE
 go_wp2_with fail
 refine bodyPost_ret (v := .agg #[.int .i64 x.now, .int .i64 x.events, .int .i64 x.chain.af, .slice p3 x.chain.ids.length q3, .slice (some ⟨g4, 0, none⟩) x.nodes.length x.nodes.length, .slice (some ⟨g5, 0, none⟩) x.msgs.length x.msgs.length, .slice (some ⟨g6, 0, none⟩) x.ae.length x.ae.length]) (by simp [results, Tryz.results176, go_sem, u0, u1, u2, u3, u4, u5, u6]) rfl ?_
 exact ⟨_, _, _, _, rfl, (uh HO).mono (by omega) (Nat.le_of_eq (uh hzz).symm), uh HB⟩
theorem ri (N : Nat) (cap : Array Value) (cs : List Value) (x : ay) (c : Int) (mv : Bool) (z : ay) (w : World) (hfa : ∀ (a : Array Value) (W : World), (callFunc N (a ++ cap)).run Tryz.prog W = .ok (.enter N (a ++ cap)) W) (h : ab.aC.Reads w cs x) (hok : db x) (hf : Fits x) (hc : -1000000000 ≤ c ∧ c ≤ 1000000000)
  (hstep : ∀ W, Below w.heap.size w W → nP w.heap.size N cap (cC x) c mv z W) :
  Calls Tryz.prog 112 #[.agg cs.toArray, .func (.func N) #[] cap] w fun e w' => ∃ cs', e = .returned (.agg cs'.toArray) ∧ ab.aB.aQ w' cs' (kv c mv z) w.heap.size w'.heap.size ∧ Below w.heap.size w w' := by
 obtain ⟨a3, d3, a4, d4, a5, d5, a6, d6, rfl, -, -, -, -⟩ := aG h
 have nb1 : Below w.heap.size w (w.alloc (.cells #[.int .i64 x.now, .int .i64 x.events, .int .i64 x.chain.af, .slice a3 x.chain.ids.length d3, .slice a4 x.nodes.length d4, .slice a5 x.msgs.length d5, .slice a6 x.ae.length d6] 37)) := (Below.refl _ _).alloc (Nat.le_refl _) _
 have HB : Hid (Below w.heap.size w ((w.alloc (.cells #[.int .i64 x.now, .int .i64 x.events, .int .i64 x.chain.af, .slice a3 x.chain.ids.length d3, .slice a4 x.nodes.length d4, .slice a5 x.msgs.length d5, .slice a6 x.ae.length d6] 37)).alloc (.cells #[.int .i64 0, .bool false, .int .i64 0, .int .i64 0, .int .i64 0, .slice none 0 0, .slice none 0 0, .slice none 0 0, .slice none 0 0] 53))) := nb1.alloc (by simp) _
 have HX : Hid (aj 0 #[.int .i64 x.now, .int .i64 x.events, .int .i64 x.chain.af, .slice a3 x.chain.ids.length d3, .slice a4 x.nodes.length d4, .slice a5 x.msgs.length d5, .slice a6 x.ae.length d6] 37 ((w.alloc (.cells #[.int .i64 x.now, .int .i64 x.events, .int .i64 x.chain.af, .slice a3 x.chain.ids.length d3, .slice a4 x.nodes.length d4, .slice a5 x.msgs.length d5, .slice a6 x.ae.length d6] 37)).alloc (.cells #[.int .i64 0, .bool false, .int .i64 0, .int .i64 0, .int .i64 0, .slice none 0 0, .slice none 0 0, .slice none 0 0, .slice none 0 0] 53)) w.heap.size) := (aH (Nat.zero_le _)).grow _
 have HY : Hid (aj 0 #[.int .i64 0, .bool false, .int .i64 0, .int .i64 0, .int .i64 0, .slice none 0 0, .slice none 0 0, .slice none 0 0, .slice none 0 0] 53 ((w.alloc (.cells #[.int .i64 x.now, .int .i64 x.events, .int .i64 x.chain.af, .slice a3 x.chain.ids.length d3, .slice a4 x.nodes.length d4, .slice a5 x.msgs.length d5, .slice a6 x.ae.length d6] 37)).alloc (.cells #[.int .i64 0, .bool false, .int .i64 0, .int .i64 0, .int .i64 0, .slice none 0 0, .slice none 0 0, .slice none 0 0, .slice none 0 0] 53)) (w.heap.size + 1)) := bg (Nat.zero_le _) (by simp)
 have hz0 : ((w.alloc (.cells #[.int .i64 x.now, .int .i64 x.events, .int .i64 x.chain.af, .slice a3 x.chain.ids.length d3, .slice a4 x.nodes.length d4, .slice a5 x.msgs.length d5, .slice a6 x.ae.length d6] 37)).alloc (.cells #[.int .i64 0, .bool false, .int .i64 0, .int .i64 0, .int .i64 0, .slice none 0 0, .slice none 0 0, .slice none 0 0, .slice none 0 0] 53)).heap.size = w.heap.size + 2 := by simp
 have HR := yh (h.ag (uh HB))
 have HOK := yh hok
 have HF := yh hf
 have HST := yh hstep
 have HCB := yh hc
 clear nb1 h hok hf hstep hc
 go_enter Tryz.func112, Tryz.ntmps112
 go_upto_region 1 with fail
 generalize (w.alloc (.cells #[.int .i64 x.now, .int .i64 x.events, .int .i64 x.chain.af, .slice a3 x.chain.ids.length d3, .slice a4 x.nodes.length d4, .slice a5 x.msgs.length d5, .slice a6 x.ae.length d6] 37)).alloc (.cells #[.int .i64 0, .bool false, .int .i64 0, .int .i64 0, .int .i64 0, .slice none 0 0, .slice none 0 0, .slice none 0 0, .slice none 0 0] 53) = W0 at *
 have z0 := aj.at (uh HX) 0 _ rfl
 have z1 := aj.at (uh HX) 1 _ rfl
 have z2 := aj.at (uh HX) 2 _ rfl
 have z3 := aj.at (uh HX) 3 _ rfl
 have z4 := aj.at (uh HX) 4 _ rfl
 have z5 := aj.at (uh HX) 5 _ rfl
 have z6 := aj.at (uh HX) 6 _ rfl
 simp only [ga, gb, gc] at z0 z1 z2 z3 z4 z5 z6
 go_wp2_with fail
 refine (kU _ x W0 (uh HR) (uh HOK) (uh HF)).mono ?_
 rintro e W1 ⟨v3, v4, v5, v6, rfl, O, hb⟩
 obtain ⟨a3w, d3w, a4w, d4w, a5w, d5w, a6w, d6w, hq, -⟩ := aG O.reads
 simp only [List.cons.injEq, and_true, true_and] at hq
 obtain ⟨rfl, rfl, rfl, rfl⟩ := hq
 have hz1 : W0.heap.size ≤ W1.heap.size := hb.size
 replace HY := yh ((uh HY).au hb)
 replace HB := bZ HB hb
 have hO := pa (g := W1.heap.size) (O.mono (Nat.le_add_right _ 2) (Nat.le_refl _)) (Nat.le_refl _) (Nat.le_refl _)
 clear hb O HX HR HF z0 z1 z2 z3 z4 z5 z6
 have nb : Below W1.heap.size W1 (W1.alloc (.cells #[.int .i64 x.now, .int .i64 x.events, .int .i64 x.chain.af, .slice a3w x.chain.ids.length d3w, .slice a4w x.nodes.length d4w, .slice a5w x.msgs.length d5w, .slice a6w x.ae.length d6w] 37)) := (Below.refl _ _).alloc (Nat.le_refl _) _
 have HG : Hid (aj 0 #[.int .i64 x.now, .int .i64 x.events, .int .i64 x.chain.af, .slice a3w x.chain.ids.length d3w, .slice a4w x.nodes.length d4w, .slice a5w x.msgs.length d5w, .slice a6w x.ae.length d6w] 37 (W1.alloc (.cells #[.int .i64 x.now, .int .i64 x.events, .int .i64 x.chain.af, .slice a3w x.chain.ids.length d3w, .slice a4w x.nodes.length d4w, .slice a5w x.msgs.length d5w, .slice a6w x.ae.length d6w] 37)) W1.heap.size) := aH (Nat.zero_le _)
 have HO := yh (hO.ag nb)
 replace HY := yh ((uh HY).au nb)
 replace HB := bZ HB nb
 have hz2 : (W1.alloc (.cells #[.int .i64 x.now, .int .i64 x.events, .int .i64 x.chain.af, .slice a3w x.chain.ids.length d3w, .slice a4w x.nodes.length d4w, .slice a5w x.msgs.length d5w, .slice a6w x.ae.length d6w] 37)).heap.size = W1.heap.size + 1 := by simp
 clear nb hO
 go_upto_region 2 with fail
 generalize W1.alloc (.cells #[.int .i64 x.now, .int .i64 x.events, .int .i64 x.chain.af, .slice a3w x.chain.ids.length d3w, .slice a4w x.nodes.length d4w, .slice a5w x.msgs.length d5w, .slice a6w x.ae.length d6w] 37) = W2 at *
 have hg := uh HG
 have y1 := aj.at hg 1 _ rfl
 have yf := aj.soft hg
 have yl := hg.lt
 simp only [ga, gb, gc] at y1
 have hxe := (uh HOK).events
 have hg2 := aj.set hg 1 (.int .i64 (x.events + 1))
 simp only [List.setIfInBounds_toArray, List.set_cons_zero, List.set_cons_succ] at hg2
 have e1 : Ext (fun q => q = W1.heap.size) W2 (W2.setCell ⟨W1.heap.size, 1, none⟩ (.int .i64 (x.events + 1))) := (Ext.refl _ _).setCell _ _ rfl
 have hO2 := oZ ((uh HO).ext e1 (fun k h1 h2 h3 => h3)) (by omega)
 replace HG := yh hg2
 replace HO := yh hO2
 replace HY := yh ((uh HY).other ⟨W1.heap.size, 1, none⟩ (.int .i64 (x.events + 1)) (by simp; omega))
 replace HB := yh ((uh HB).setCell (p := ⟨W1.heap.size, 1, none⟩) (by simp; omega) (.int .i64 (x.events + 1)))
 have hz3 : (W2.setCell ⟨W1.heap.size, 1, none⟩ (.int .i64 (x.events + 1))).heap.size = W2.heap.size := by simp
 clear hg hg2 e1 hO2
 go_upto_region 3 with fail
 generalize hW : W2.setCell ⟨W1.heap.size, 1, none⟩ (.int .i64 (x.events + 1)) = W3 at *
 clear hW y1 yf yl hxe
 have HC := yh (uh HST W3 (uh HB) W1.heap.size (w.heap.size + 2) _ _ _ _ (by omega) (uh HG) (by omega) (by have := uh HO; rw [hz0] at this; exact this))
 clear HST HO HG
 go_wp2_with fail
 refine (uh HC).mono ?_
 rintro e W4 ⟨m, rfl, hm, he⟩
 replace HY := yh ((uh HY).ext he (by omega))
 replace HB := yh ((uh HB).trans ((kF he (by omega)).mono (by omega)))
 have hz4 := he.size
 clear HC he
 by_cases d1 : c = 0
 ·
  obtain ⟨rfl, u3, u4, u5, u6, hg, hO⟩ := hm d1
  obtain ⟨a3u, d3u, a4u, d4u, a5u, d5u, a6u, d6u, hq, -⟩ := aG hO.reads
  simp only [List.cons.injEq, and_true, true_and] at hq
  obtain ⟨rfl, rfl, rfl, rfl⟩ := hq
  subst d1
  have HRS : Hid (kv 0 m z = ⟨0, m, z⟩) := if_pos rfl
  have y0 := aj.at hg 0 _ rfl
  have y1 := aj.at hg 1 _ rfl
  have y2 := aj.at hg 2 _ rfl
  have y3 := aj.at hg 3 _ rfl
  have y4 := aj.at hg 4 _ rfl
  have y5 := aj.at hg 5 _ rfl
  have y6 := aj.at hg 6 _ rfl
  have hy := uh HY
  have r0 := aj.at hy 0 _ rfl
  have r1 := aj.at hy 1 _ rfl
  have r2 := aj.at hy 2 _ rfl
  have r3 := aj.at hy 3 _ rfl
  have r4 := aj.at hy 4 _ rfl
  have r5 := aj.at hy 5 _ rfl
  have r6 := aj.at hy 6 _ rfl
  have r7 := aj.at hy 7 _ rfl
  have r8 := aj.at hy 8 _ rfl
  simp only [ga, gb, gc] at y0 y1 y2 y3 y4 y5 y6 r0 r1 r2 r3 r4 r5 r6 r7 r8
  have yl := hg.lt
  have rf := aj.soft hy
  have rl := hy.lt
  have e9 : Ext (fun q => q = w.heap.size + 1) W4 (aO W4 (w.heap.size + 1) 0 [.int .i64 0, .bool m, .int .i64 z.now, .int .i64 z.events, .int .i64 z.chain.af, .slice a3u z.chain.ids.length d3u, .slice a4u z.nodes.length d4u, .slice a5u z.msgs.length d5u, .slice a6u z.ae.length d6u]) := bD _ (Ext.refl _ _) _ _ _ rfl
  have HO := yh (rA (m := m) ((hO.ext e9 (fun k h1 h2 h3 => by omega)).sL))
  have HB2 := yh (aP (uh HB) (w.heap.size + 1) 0 [.int .i64 0, .bool m, .int .i64 z.now, .int .i64 z.events, .int .i64 z.chain.af, .slice a3u z.chain.ids.length d3u, .slice a4u z.nodes.length d4u, .slice a5u z.msgs.length d5u, .slice a6u z.ae.length d6u] (by omega))
  clear hg hy hO e9 HY HB hm
  go_wp2_with fail
  refine bodyPost_ret (v := .agg #[.int .i64 0, .bool m, .int .i64 z.now, .int .i64 z.events, .int .i64 z.chain.af, .slice a3u z.chain.ids.length d3u, .slice a4u z.nodes.length d4u, .slice a5u z.msgs.length d5u, .slice a6u z.ae.length d6u]) (by simp [results, Tryz.results112, go_sem, r0, r1, r2, r3, r4, r5, r6, r7, r8]) rfl ?_
  rw [uh HRS]
  exact ⟨_, rfl, (uh HO).mono (by omega) (Nat.le_refl _), uh HB2⟩
 have hd : (c != 0) = true := by simpa using d1
 have HRS : Hid (kv c mv z = bO c) := if_neg d1
 clear hm d1
 have hy := uh HY
 have r0 := aj.at hy 0 _ rfl
 have r1 := aj.at hy 1 _ rfl
 have r2 := aj.at hy 2 _ rfl
 have r3 := aj.at hy 3 _ rfl
 have r4 := aj.at hy 4 _ rfl
 have r5 := aj.at hy 5 _ rfl
 have r6 := aj.at hy 6 _ rfl
 have r7 := aj.at hy 7 _ rfl
 have r8 := aj.at hy 8 _ rfl
 simp only [ga, gb, gc] at r0 r1 r2 r3 r4 r5 r6 r7 r8
 have rf := aj.soft hy
 have rl := hy.lt
 have HB2 := yh (aP (uh HB) (w.heap.size + 1) 0 [.int .i64 c, .bool false, .int .i64 0, .int .i64 0, .int .i64 0, .slice none 0 0, .slice none 0 0, .slice none 0 0, .slice none 0 0] (by omega))
 clear hy HY HB
 go_wp2_with fail
 refine bodyPost_ret (v := .agg #[.int .i64 c, .bool false, .int .i64 0, .int .i64 0, .int .i64 0, .slice none 0 0, .slice none 0 0, .slice none 0 0, .slice none 0 0]) (by simp [results, Tryz.results112, go_sem, r0, r1, r2, r3, r4, r5, r6, r7, r8]) rfl ?_
 rw [uh HRS]
 exact ⟨_, rfl, ei (uh HCB) (uh HB2).size, uh HB2⟩
theorem eN {lo : Nat} {T : TypeId} {W : World} {s : Nat} {c0 c1 c2 c3 c4 c5 c6 c7 c8 : Value} (h : aj lo #[c0, c1, c2, c3, c4, c5, c6, c7, c8] T W s) (v0 v1 v2 v3 v4 v5 v6 v7 v8 : Value) : aj lo #[v0, v1, v2, v3, v4, v5, v6, v7, v8] T (aO W s 0 [v0, v1, v2, v3, v4, v5, v6, v7, v8]) s := by
 have q := (aj.set (aj.set (aj.set (aj.set (aj.set (aj.set (aj.set (aj.set (aj.set h 0 v0) 1 v1) 2 v2) 3 v3) 4 v4) 5 v5) 6 v6) 7 v7) 8 v8)
 simp only [List.setIfInBounds_toArray, List.set_cons_zero, List.set_cons_succ] at q
 exact q
theorem nD (p q s : Nat) (c : Int) (w : World) (hx : aj 0 #[.int .i64 c, .bool false, .int .i64 0, .int .i64 0, .int .i64 0, .slice none 0 0, .slice none 0 0, .slice none 0 0, .slice none 0 0] 53 w p) (hc : c ≠ 0) :
  CallsD Tryz.prog 111 #[.pointer (some ⟨p, 0, none⟩), .pointer (some ⟨q, 0, none⟩), .pointer (some ⟨s, 0, none⟩)] .returning w fun e u' w' => u' = .returning ∧ (e = .returned (.tuple #[]) ∧ w' = w) := by
 have r0 := aj.at hx 0 _ rfl
 simp only [List.getElem_toArray, List.getElem_cons_zero] at r0
 have hd : (c == 0) = false := by simpa using hc
 have rl := hx.lt
 clear hx hc
 refine CallsD.mono (R := fun e u' w' => u' = .returning ∧ (e = .returned (.tuple #[]) ∧ w' = w)) ?_ (fun _ _ _ q => q)
 go_enter_d Tryz.func111, Tryz.ntmps111
 go_wp2_with fail
 go_end0
 exact ⟨rfl, rfl⟩
theorem su (p q s N : Nat) (cap : Array Value) (a3 : Option Addr) (d3 : Nat) (a4 : Option Addr) (d4 : Nat) (a5 : Option Addr) (d5 : Nat) (a6 : Option Addr) (d6 : Nat) (x : ay) (c : Int) (mv : Bool) (z : ay) (w : World) (hx : aj 0 #[.int .i64 0, .bool false, .int .i64 0, .int .i64 0, .int .i64 0, .slice none 0 0, .slice none 0 0, .slice none 0 0, .slice none 0 0] 53 w p) (hw : aj 0 #[.int .i64 x.now, .int .i64 x.events, .int .i64 x.chain.af, .slice a3 x.chain.ids.length d3, .slice a4 x.nodes.length d4, .slice a5 x.msgs.length d5, .slice a6 x.ae.length d6] 37 w q) (hs : aj 0 #[.func (.func N) #[] cap] 94 w s)
  (hfa : ∀ (a : Array Value) (W : World), (callFunc N (a ++ cap)).run Tryz.prog W = .ok (.enter N (a ++ cap)) W) (h : ab.aC.Reads w [.int .i64 x.now, .int .i64 x.events, .int .i64 x.chain.af, .slice a3 x.chain.ids.length d3, .slice a4 x.nodes.length d4, .slice a5 x.msgs.length d5, .slice a6 x.ae.length d6] x) (hok : db x) (hf : Fits x) (hc : -1000000000 ≤ c ∧ c ≤ 1000000000) (hstep : ∀ W, Below w.heap.size w W → nP w.heap.size N cap (cC x) c mv z W) :
  CallsD Tryz.prog 111 #[.pointer (some ⟨p, 0, none⟩), .pointer (some ⟨q, 0, none⟩), .pointer (some ⟨s, 0, none⟩)] .returning w fun e u' w' => u' = .returning ∧ (e = .returned (.tuple #[]) ∧ ∃ cs w1 lo, w' = aO w1 p 0 cs ∧ cs.length = 9 ∧ aj 0 #[.int .i64 0, .bool false, .int .i64 0, .int .i64 0, .int .i64 0, .slice none 0 0, .slice none 0 0, .slice none 0 0, .slice none 0 0] 53 w1 p ∧ ab.aB.aQ w1 cs (kv c mv z) lo w1.heap.size ∧ w.heap.size ≤ lo ∧ Below w.heap.size w w1) := by
 have HL := yh (ri N cap _ x c mv z w hfa h hok hf hc hstep)
 have HX := yh hx
 have z0 := aj.at hw 0 _ rfl
 have z1 := aj.at hw 1 _ rfl
 have z2 := aj.at hw 2 _ rfl
 have z3 := aj.at hw 3 _ rfl
 have z4 := aj.at hw 4 _ rfl
 have z5 := aj.at hw 5 _ rfl
 have z6 := aj.at hw 6 _ rfl
 simp only [ga, gb, gc] at z0 z1 z2 z3 z4 z5 z6
 have s0 := aj.at hs 0 _ rfl
 have r0 := aj.at hx 0 _ rfl
 simp only [List.getElem_toArray, List.getElem_cons_zero] at s0 r0
 have zl := hw.lt
 have sl := hs.lt
 have rl := hx.lt
 clear hx hw hs h hok hf hstep hfa
 generalize kv c mv z = y at *
 go_enter_d Tryz.func111, Tryz.ntmps111
 go_wp2_with fail
 refine (uh HL).mono ?_
 rintro e w1 ⟨cs, rfl, O, hb⟩
 obtain ⟨a5, d5, a6, d6, a7, d7, a8, d8, rfl, -⟩ := bQ O.reads
 have hx := (uh HX).au hb
 have HX1 := yh hx
 clear r0
 have r0 := aj.at hx 0 _ rfl
 have r1 := aj.at hx 1 _ rfl
 have r2 := aj.at hx 2 _ rfl
 have r3 := aj.at hx 3 _ rfl
 have r4 := aj.at hx 4 _ rfl
 have r5 := aj.at hx 5 _ rfl
 have r6 := aj.at hx 6 _ rfl
 have r7 := aj.at hx 7 _ rfl
 have r8 := aj.at hx 8 _ rfl
 simp only [ga, gb, gc] at r0 r1 r2 r3 r4 r5 r6 r7 r8
 have rf := aj.soft hx
 have HO := yh O
 have HB := yh hb
 have rl1 := hx.lt
 clear hx O hb HL HX s0 zl sl rl z0 z1 z2 z3 z4 z5 z6
 go_wp2_with fail
 go_end0
 exact ⟨rfl, [.int .i64 y.code, .bool y.bt, .int .i64 y.world.now, .int .i64 y.world.events, .int .i64 y.world.chain.af, .slice a5 y.world.chain.ids.length d5, .slice a6 y.world.nodes.length d6, .slice a7 y.world.msgs.length d7, .slice a8 y.world.ae.length d8], w1, w.heap.size, rfl, rfl, uh HX1, uh HO, Nat.le_refl _, uh HB⟩
def cV (x : ay) (wrong c : Int) (mv : Bool) (z : ay) : a0 := if wrong ≠ 0 then bO wrong else if 9999 ≤ x.events then bO 2 else kv c mv z
theorem qa (N : Nat) (cap : Array Value) (cs : List Value) (x : ay) (wrong c : Int) (mv : Bool) (z : ay) (w : World) (hfa : ∀ (a : Array Value) (W : World), (callFunc N (a ++ cap)).run Tryz.prog W = .ok (.enter N (a ++ cap)) W) (h : ab.aC.Reads w cs x) (hok : wrong = 0 → db x) (hf : Fits x) (hc : -1000000000 ≤ c ∧ c ≤ 1000000000) (hwr : -1000000000 ≤ wrong ∧ wrong ≤ 1000000000)
  (hstep : wrong = 0 → ∀ W, Below w.heap.size w W → nP w.heap.size N cap (cC x) c mv z W) :
  Calls Tryz.prog 58 #[.agg cs.toArray, .int .i64 wrong, .func (.func N) #[] cap] w fun e w' => ∃ cs', e = .returned (.agg cs'.toArray) ∧ ab.aB.aQ w' cs' (cV x wrong c mv z) w.heap.size w'.heap.size ∧ Below w.heap.size w w' := by
 have hmf : ∀ (fn : Fn) (first cap : Array Value) (w : World), (Instr.makeFunc fn first cap).run Tryz.prog w = .ok (.func fn first cap) w := fun _ _ _ _ => rfl
 obtain ⟨a3, d3, a4, d4, a5, d5, a6, d6, rfl, -, -, -, -⟩ := aG h
 have nb : Below w.heap.size w (((w.alloc (.cells #[.int .i64 x.now, .int .i64 x.events, .int .i64 x.chain.af, .slice a3 x.chain.ids.length d3, .slice a4 x.nodes.length d4, .slice a5 x.msgs.length d5, .slice a6 x.ae.length d6] 37)).alloc (.cells #[.func (.func N) #[] cap] 94)).alloc (.cells #[.int .i64 0, .bool false, .int .i64 0, .int .i64 0, .int .i64 0, .slice none 0 0, .slice none 0 0, .slice none 0 0, .slice none 0 0] 53)) := (((Below.refl _ _).alloc (Nat.le_refl _) _).alloc (by simp) _).alloc (by simp; omega) _
 have HX : Hid (aj 0 #[.int .i64 x.now, .int .i64 x.events, .int .i64 x.chain.af, .slice a3 x.chain.ids.length d3, .slice a4 x.nodes.length d4, .slice a5 x.msgs.length d5, .slice a6 x.ae.length d6] 37 (((w.alloc (.cells #[.int .i64 x.now, .int .i64 x.events, .int .i64 x.chain.af, .slice a3 x.chain.ids.length d3, .slice a4 x.nodes.length d4, .slice a5 x.msgs.length d5, .slice a6 x.ae.length d6] 37)).alloc (.cells #[.func (.func N) #[] cap] 94)).alloc (.cells #[.int .i64 0, .bool false, .int .i64 0, .int .i64 0, .int .i64 0, .slice none 0 0, .slice none 0 0, .slice none 0 0, .slice none 0 0] 53)) w.heap.size) := ((aH (Nat.zero_le _)).grow _).grow _
 have HS : Hid (aj 0 #[.func (.func N) #[] cap] 94 (((w.alloc (.cells #[.int .i64 x.now, .int .i64 x.events, .int .i64 x.chain.af, .slice a3 x.chain.ids.length d3, .slice a4 x.nodes.length d4, .slice a5 x.msgs.length d5, .slice a6 x.ae.length d6] 37)).alloc (.cells #[.func (.func N) #[] cap] 94)).alloc (.cells #[.int .i64 0, .bool false, .int .i64 0, .int .i64 0, .int .i64 0, .slice none 0 0, .slice none 0 0, .slice none 0 0, .slice none 0 0] 53)) (w.heap.size + 1)) := (bg (Nat.zero_le _) (by simp)).grow _
 have HY : Hid (aj 0 #[.int .i64 0, .bool false, .int .i64 0, .int .i64 0, .int .i64 0, .slice none 0 0, .slice none 0 0, .slice none 0 0, .slice none 0 0] 53 (((w.alloc (.cells #[.int .i64 x.now, .int .i64 x.events, .int .i64 x.chain.af, .slice a3 x.chain.ids.length d3, .slice a4 x.nodes.length d4, .slice a5 x.msgs.length d5, .slice a6 x.ae.length d6] 37)).alloc (.cells #[.func (.func N) #[] cap] 94)).alloc (.cells #[.int .i64 0, .bool false, .int .i64 0, .int .i64 0, .int .i64 0, .slice none 0 0, .slice none 0 0, .slice none 0 0, .slice none 0 0] 53)) (w.heap.size + 1 + 1)) := bg (Nat.zero_le _) (by simp)
 have hz0 : (((w.alloc (.cells #[.int .i64 x.now, .int .i64 x.events, .int .i64 x.chain.af, .slice a3 x.chain.ids.length d3, .slice a4 x.nodes.length d4, .slice a5 x.msgs.length d5, .slice a6 x.ae.length d6] 37)).alloc (.cells #[.func (.func N) #[] cap] 94)).alloc (.cells #[.int .i64 0, .bool false, .int .i64 0, .int .i64 0, .int .i64 0, .slice none 0 0, .slice none 0 0, .slice none 0 0, .slice none 0 0] 53)).heap.size = w.heap.size + 3 := by simp
 have HR := yh (h.ag nb)
 have HRD := h
 have HB := yh nb
 clear nb h
 have HWR := yh hwr
 by_cases hw : wrong ≠ 0
 ·
  have hd : (wrong != 0) = true := by simpa using hw
  have HRS : Hid (cV x wrong c mv z = bO wrong) := if_pos hw
  have HW := yh hw
  clear hok hstep hfa hf hc hwr hw
  go_enter_defers Tryz.func58, Tryz.ntmps58
  go_upto_region 1 with fail
  generalize ((w.alloc (.cells #[.int .i64 x.now, .int .i64 x.events, .int .i64 x.chain.af, .slice a3 x.chain.ids.length d3, .slice a4 x.nodes.length d4, .slice a5 x.msgs.length d5, .slice a6 x.ae.length d6] 37)).alloc (.cells #[.func (.func N) #[] cap] 94)).alloc (.cells #[.int .i64 0, .bool false, .int .i64 0, .int .i64 0, .int .i64 0, .slice none 0 0, .slice none 0 0, .slice none 0 0, .slice none 0 0] 53) = W0 at *
  have hy := uh HY
  have r0 := aj.at hy 0 _ rfl
  have r1 := aj.at hy 1 _ rfl
  have r2 := aj.at hy 2 _ rfl
  have r3 := aj.at hy 3 _ rfl
  have r4 := aj.at hy 4 _ rfl
  have r5 := aj.at hy 5 _ rfl
  have r6 := aj.at hy 6 _ rfl
  have r7 := aj.at hy 7 _ rfl
  have r8 := aj.at hy 8 _ rfl
  simp only [ga, gb, gc] at r0 r1 r2 r3 r4 r5 r6 r7 r8
  have rf := aj.soft hy
  have rl := hy.lt
  have hy2 := eN hy (.int .i64 wrong) (.bool false) (.int .i64 0) (.int .i64 0) (.int .i64 0) (.slice none 0 0) (.slice none 0 0) (.slice none 0 0) (.slice none 0 0)
  have HQ := yh (nD (w.heap.size + 1 + 1) w.heap.size (w.heap.size + 1) wrong _ hy2 (uh HW))
  have HY2 := yh hy2
  have HB2 := yh (aP (uh HB) (w.heap.size + 1 + 1) 0 [.int .i64 wrong, .bool false, .int .i64 0, .int .i64 0, .int .i64 0, .slice none 0 0, .slice none 0 0, .slice none 0 0, .slice none 0 0] (by omega))
  clear hy hy2 HY HB
  go_wp2_with fail
  refine leaves_cons (f := 111) (args := #[.pointer (some ⟨w.heap.size + 1 + 1, 0, none⟩), .pointer (some ⟨w.heap.size, 0, none⟩), .pointer (some ⟨w.heap.size + 1, 0, none⟩)]) (by simp) (by simp [go_sem]) ?_
  refine (uh HQ).mono ?_
  rintro e u' w2 ⟨rfl, rfl, rfl⟩
  have hy2 := uh HY2
  clear r0 r1 r2 r3 r4 r5 r6 r7 r8 rf rl
  have r0 := aj.at hy2 0 _ rfl
  have r1 := aj.at hy2 1 _ rfl
  have r2 := aj.at hy2 2 _ rfl
  have r3 := aj.at hy2 3 _ rfl
  have r4 := aj.at hy2 4 _ rfl
  have r5 := aj.at hy2 5 _ rfl
  have r6 := aj.at hy2 6 _ rfl
  have r7 := aj.at hy2 7 _ rfl
  have r8 := aj.at hy2 8 _ rfl
  simp only [ga, gb, gc] at r0 r1 r2 r3 r4 r5 r6 r7 r8
  refine ⟨.agg #[.int .i64 wrong, .bool false, .int .i64 0, .int .i64 0, .int .i64 0, .slice none 0 0, .slice none 0 0, .slice none 0 0, .slice none 0 0], ?_, ?_⟩
  ·
   simp [results, Tryz.results58, go_sem, r0, r1, r2, r3, r4, r5, r6, r7, r8]
  rw [uh HRS]
  exact ⟨[.int .i64 wrong, .bool false, .int .i64 0, .int .i64 0, .int .i64 0, .slice none 0 0, .slice none 0 0, .slice none 0 0, .slice none 0 0], rfl, ei (uh HWR) (uh HB2).size, uh HB2⟩
 have hw0 : wrong = 0 := by simpa using hw
 subst hw0
 by_cases he : 9999 ≤ x.events
 ·
  have hd : decide (9999 ≤ x.events) = true := by simpa using he
  have HRS : Hid (cV x 0 c mv z = bO 2) := by show cV x 0 c mv z = _; rw [cV, if_neg (by simp), if_pos he]
  clear hok hstep hfa hf hc hwr hw he
  go_enter_defers Tryz.func58, Tryz.ntmps58
  go_upto_region 1 with fail
  generalize ((w.alloc (.cells #[.int .i64 x.now, .int .i64 x.events, .int .i64 x.chain.af, .slice a3 x.chain.ids.length d3, .slice a4 x.nodes.length d4, .slice a5 x.msgs.length d5, .slice a6 x.ae.length d6] 37)).alloc (.cells #[.func (.func N) #[] cap] 94)).alloc (.cells #[.int .i64 0, .bool false, .int .i64 0, .int .i64 0, .int .i64 0, .slice none 0 0, .slice none 0 0, .slice none 0 0, .slice none 0 0] 53) = W0 at *
  have hx1 := aj.at (uh HX) 1 _ rfl
  simp only [ga, gb, gc] at hx1
  have hxl := (uh HX).lt
  have hy := uh HY
  have r0 := aj.at hy 0 _ rfl
  have r1 := aj.at hy 1 _ rfl
  have r2 := aj.at hy 2 _ rfl
  have r3 := aj.at hy 3 _ rfl
  have r4 := aj.at hy 4 _ rfl
  have r5 := aj.at hy 5 _ rfl
  have r6 := aj.at hy 6 _ rfl
  have r7 := aj.at hy 7 _ rfl
  have r8 := aj.at hy 8 _ rfl
  simp only [ga, gb, gc] at r0 r1 r2 r3 r4 r5 r6 r7 r8
  have rf := aj.soft hy
  have rl := hy.lt
  have hy2 := eN hy (.int .i64 2) (.bool false) (.int .i64 0) (.int .i64 0) (.int .i64 0) (.slice none 0 0) (.slice none 0 0) (.slice none 0 0) (.slice none 0 0)
  have HQ := yh (nD (w.heap.size + 1 + 1) w.heap.size (w.heap.size + 1) 2 _ hy2 (by decide))
  have HY2 := yh hy2
  have HB2 := yh (aP (uh HB) (w.heap.size + 1 + 1) 0 [.int .i64 2, .bool false, .int .i64 0, .int .i64 0, .int .i64 0, .slice none 0 0, .slice none 0 0, .slice none 0 0, .slice none 0 0] (by omega))
  clear hy hy2 HY HB
  go_wp2_with fail
  refine leaves_cons (f := 111) (args := #[.pointer (some ⟨w.heap.size + 1 + 1, 0, none⟩), .pointer (some ⟨w.heap.size, 0, none⟩), .pointer (some ⟨w.heap.size + 1, 0, none⟩)]) (by simp) (by simp [go_sem]) ?_
  refine (uh HQ).mono ?_
  rintro e u' w2 ⟨rfl, rfl, rfl⟩
  have hy2 := uh HY2
  clear r0 r1 r2 r3 r4 r5 r6 r7 r8 rf rl
  have r0 := aj.at hy2 0 _ rfl
  have r1 := aj.at hy2 1 _ rfl
  have r2 := aj.at hy2 2 _ rfl
  have r3 := aj.at hy2 3 _ rfl
  have r4 := aj.at hy2 4 _ rfl
  have r5 := aj.at hy2 5 _ rfl
  have r6 := aj.at hy2 6 _ rfl
  have r7 := aj.at hy2 7 _ rfl
  have r8 := aj.at hy2 8 _ rfl
  simp only [ga, gb, gc] at r0 r1 r2 r3 r4 r5 r6 r7 r8
  refine ⟨.agg #[.int .i64 2, .bool false, .int .i64 0, .int .i64 0, .int .i64 0, .slice none 0 0, .slice none 0 0, .slice none 0 0, .slice none 0 0], ?_, ?_⟩
  ·
   simp [results, Tryz.results58, go_sem, r0, r1, r2, r3, r4, r5, r6, r7, r8]
  rw [uh HRS]
  exact ⟨[.int .i64 2, .bool false, .int .i64 0, .int .i64 0, .int .i64 0, .slice none 0 0, .slice none 0 0, .slice none 0 0, .slice none 0 0], rfl, ei (by decide) (uh HB2).size, uh HB2⟩
 have hd : decide (9999 ≤ x.events) = false := by simpa using he
 have HRS : Hid (cV x 0 c mv z = kv c mv z) := by show cV x 0 c mv z = _; rw [cV, if_neg (by simp), if_neg he]
 have HOK := yh (hok rfl)
 have HST := yh (hstep rfl)
 have HFA := yh hfa
 have HF := yh hf
 have HC := yh hc
 clear hok hstep hfa hf hc hwr hw he
 go_enter_defers Tryz.func58, Tryz.ntmps58
 go_upto_region 1 with fail
 generalize ((w.alloc (.cells #[.int .i64 x.now, .int .i64 x.events, .int .i64 x.chain.af, .slice a3 x.chain.ids.length d3, .slice a4 x.nodes.length d4, .slice a5 x.msgs.length d5, .slice a6 x.ae.length d6] 37)).alloc (.cells #[.func (.func N) #[] cap] 94)).alloc (.cells #[.int .i64 0, .bool false, .int .i64 0, .int .i64 0, .int .i64 0, .slice none 0 0, .slice none 0 0, .slice none 0 0, .slice none 0 0] 53) = W0 at *
 have hx1 := aj.at (uh HX) 1 _ rfl
 simp only [ga, gb, gc] at hx1
 have hxl := (uh HX).lt
 have hy := uh HY
 have r0 := aj.at hy 0 _ rfl
 have r1 := aj.at hy 1 _ rfl
 have r2 := aj.at hy 2 _ rfl
 have r3 := aj.at hy 3 _ rfl
 have r4 := aj.at hy 4 _ rfl
 have r5 := aj.at hy 5 _ rfl
 have r6 := aj.at hy 6 _ rfl
 have r7 := aj.at hy 7 _ rfl
 have r8 := aj.at hy 8 _ rfl
 simp only [ga, gb, gc] at r0 r1 r2 r3 r4 r5 r6 r7 r8
 have rf := aj.soft hy
 have rl := hy.lt
 have hy2 := eN hy (.int .i64 0) (.bool false) (.int .i64 0) (.int .i64 0) (.int .i64 0) (.slice none 0 0) (.slice none 0 0) (.slice none 0 0) (.slice none 0 0)
 have e1 : Ext (fun q => q = w.heap.size + 1 + 1) W0 (aO W0 (w.heap.size + 1 + 1) 0 [.int .i64 0, .bool false, .int .i64 0, .int .i64 0, .int .i64 0, .slice none 0 0, .slice none 0 0, .slice none 0 0, .slice none 0 0]) := bD _ (Ext.refl _ _) _ _ _ rfl
 have hb2 := aP (uh HB) (w.heap.size + 1 + 1) 0 [.int .i64 0, .bool false, .int .i64 0, .int .i64 0, .int .i64 0, .slice none 0 0, .slice none 0 0, .slice none 0 0, .slice none 0 0] (by omega)
 have HR2 := yh (((uh HR).cX.mono (Nat.le_refl _) (Nat.le_refl _)).reads)
 have HQ := yh (su (w.heap.size + 1 + 1) w.heap.size (w.heap.size + 1) N cap a3 d3 a4 d4 a5 d5 a6 d6 x c mv z _ hy2 ((uh HX).ext e1 (by omega)) ((uh HS).ext e1 (by omega)) (uh HFA) (HRD.ag hb2) (uh HOK) (uh HF) (uh HC) (fun W hW g lo v3 v4 v5 v6 hL => uh HST W (hb2.trans (hW.mono hb2.size)) g lo v3 v4 v5 v6 (Nat.le_trans hb2.size hL)))
 have HB2 := yh hb2
 clear hy hy2 HY HB HR HR2 HX HS HST e1 hb2 HRD
 go_wp2_with fail
 refine leaves_cons (f := 111) (args := #[.pointer (some ⟨w.heap.size + 1 + 1, 0, none⟩), .pointer (some ⟨w.heap.size, 0, none⟩), .pointer (some ⟨w.heap.size + 1, 0, none⟩)]) (by simp) (by simp [go_sem]) ?_
 refine (uh HQ).mono ?_
 rintro e u' w2 ⟨rfl, rfl, cs, w1, lo, rfl, hl, hx, O, hlo, hb⟩
 obtain ⟨a5r, d5r, a6r, d6r, a7r, d7r, a8r, d8r, rfl, -⟩ := bQ O.reads
 rw [uh HRS]
 generalize kv c mv z = y at *
 have hy2 := eN hx (.int .i64 y.code) (.bool y.bt) (.int .i64 y.world.now) (.int .i64 y.world.events) (.int .i64 y.world.chain.af) (.slice a5r y.world.chain.ids.length d5r) (.slice a6r y.world.nodes.length d6r) (.slice a7r y.world.msgs.length d7r) (.slice a8r y.world.ae.length d8r)
 clear r0 r1 r2 r3 r4 r5 r6 r7 r8 rf rl
 have r0 := aj.at hy2 0 _ rfl
 have r1 := aj.at hy2 1 _ rfl
 have r2 := aj.at hy2 2 _ rfl
 have r3 := aj.at hy2 3 _ rfl
 have r4 := aj.at hy2 4 _ rfl
 have r5 := aj.at hy2 5 _ rfl
 have r6 := aj.at hy2 6 _ rfl
 have r7 := aj.at hy2 7 _ rfl
 have r8 := aj.at hy2 8 _ rfl
 simp only [ga, gb, gc] at r0 r1 r2 r3 r4 r5 r6 r7 r8
 have e2 : Ext (fun q => q = w.heap.size + 1 + 1) w1 (aO w1 (w.heap.size + 1 + 1) 0 [.int .i64 y.code, .bool y.bt, .int .i64 y.world.now, .int .i64 y.world.events, .int .i64 y.world.chain.af, .slice a5r y.world.chain.ids.length d5r, .slice a6r y.world.nodes.length d6r, .slice a7r y.world.msgs.length d7r, .slice a8r y.world.ae.length d8r]) := bD _ (Ext.refl _ _) _ _ _ rfl
 have hsz := (uh HB2).size
 have hO := (O.ext e2 (fun q h1 h2 h3 => by have := bF W0 (w.heap.size + 1 + 1) 0 [.int .i64 0, .bool false, .int .i64 0, .int .i64 0, .int .i64 0, .slice none 0 0, .slice none 0 0, .slice none 0 0, .slice none 0 0]; omega))
 refine ⟨.agg #[.int .i64 y.code, .bool y.bt, .int .i64 y.world.now, .int .i64 y.world.events, .int .i64 y.world.chain.af, .slice a5r y.world.chain.ids.length d5r, .slice a6r y.world.nodes.length d6r, .slice a7r y.world.msgs.length d7r, .slice a8r y.world.ae.length d8r], ?_, ?_⟩
 ·
  simp [results, Tryz.results58, go_sem, r0, r1, r2, r3, r4, r5, r6, r7, r8]
 exact ⟨[.int .i64 y.code, .bool y.bt, .int .i64 y.world.now, .int .i64 y.world.events, .int .i64 y.world.chain.af, .slice a5r y.world.chain.ids.length d5r, .slice a6r y.world.nodes.length d6r, .slice a7r y.world.msgs.length d7r, .slice a8r y.world.ae.length d8r], rfl, hO.mono (by omega) (Nat.le_of_eq (bF _ _ _ _).symm), aP ((uh HB2).trans (hb.mono hsz)) (w.heap.size + 1 + 1) 0 [.int .i64 y.code, .bool y.bt, .int .i64 y.world.now, .int .i64 y.world.events, .int .i64 y.world.chain.af, .slice a5r y.world.chain.ids.length d5r, .slice a6r y.world.nodes.length d6r, .slice a7r y.world.msgs.length d7r, .slice a8r y.world.ae.length d8r] (by omega)⟩
theorem nY {x : ay} {id : Int} (h : cj x id = true) : ∃ k, ∃ _ : k < x.nodes.length, id = (k : Int) + 1 := by
 simp only [cj, Bool.and_eq_true, decide_eq_true_eq] at h
 exact ⟨(id - 1).toNat, by omega, by omega⟩
theorem jW {x : ay} {k : Nat} (hk : k < x.nodes.length) : kE x ((k : Int) + 1) = x.nodes[k] := by
 have : ((k : Int) + 1 - 1).toNat = k := by omega
 rw [kE, this]
 simp [List.getD, hk]
theorem gn (c : Int) (w : World) :
  Calls Tryz.prog 80 #[.int .i64 c] w fun e w' => e = .returned (.agg #[.int .i64 c, .bool false, .int .i64 0, .int .i64 0, .int .i64 0, .slice none 0 0, .slice none 0 0, .slice none 0 0, .slice none 0 0]) ∧ Below w.heap.size w w' := by
 have HB : Hid (∀ o, Below w.heap.size w (w.alloc o)) := fun o => (Below.refl _ _).alloc (Nat.le_refl _) o
 go_enter Tryz.func80, Tryz.ntmps80
 go_wp2_with fail
 refine bodyPost_ret (v := .agg #[.int .i64 c, .bool false, .int .i64 0, .int .i64 0, .int .i64 0, .slice none 0 0, .slice none 0 0, .slice none 0 0, .slice none 0 0]) (by simp [results, Tryz.results80, go_sem]) rfl ?_
 exact ⟨rfl, uh HB _⟩
theorem qe (cs : List Value) (x : ay) (w : World) (h : ab.aC.Reads w cs x) (hok : db x) (hf : Fits x) :
  Calls Tryz.prog 50 #[.agg cs.toArray] w fun e w' => ∃ cs', e = .returned (.agg cs'.toArray) ∧ dA w' w.heap.size w'.heap.size cs' (cC x) ∧ Below w.heap.size w w' := by
 obtain ⟨a3, d3, a4, d4, a5, d5, a6, d6, rfl, -, -, -, -⟩ := aG h
 have nb : Below w.heap.size w ((w.alloc (.cells #[.int .i64 x.now, .int .i64 x.events, .int .i64 x.chain.af, .slice a3 x.chain.ids.length d3, .slice a4 x.nodes.length d4, .slice a5 x.msgs.length d5, .slice a6 x.ae.length d6] 37)).alloc (.cells #[.int .i64 0, .int .i64 0, .int .i64 0, .slice none 0 0, .slice none 0 0, .slice none 0 0, .slice none 0 0] 37)) := ((Below.refl _ _).alloc (Nat.le_refl _) _).alloc (by simp) _
 have HX : Hid (aj 0 #[.int .i64 x.now, .int .i64 x.events, .int .i64 x.chain.af, .slice a3 x.chain.ids.length d3, .slice a4 x.nodes.length d4, .slice a5 x.msgs.length d5, .slice a6 x.ae.length d6] 37 ((w.alloc (.cells #[.int .i64 x.now, .int .i64 x.events, .int .i64 x.chain.af, .slice a3 x.chain.ids.length d3, .slice a4 x.nodes.length d4, .slice a5 x.msgs.length d5, .slice a6 x.ae.length d6] 37)).alloc (.cells #[.int .i64 0, .int .i64 0, .int .i64 0, .slice none 0 0, .slice none 0 0, .slice none 0 0, .slice none 0 0] 37)) w.heap.size) := (aH (Nat.zero_le _)).grow _
 have HY : Hid (aj 0 #[.int .i64 0, .int .i64 0, .int .i64 0, .slice none 0 0, .slice none 0 0, .slice none 0 0, .slice none 0 0] 37 ((w.alloc (.cells #[.int .i64 x.now, .int .i64 x.events, .int .i64 x.chain.af, .slice a3 x.chain.ids.length d3, .slice a4 x.nodes.length d4, .slice a5 x.msgs.length d5, .slice a6 x.ae.length d6] 37)).alloc (.cells #[.int .i64 0, .int .i64 0, .int .i64 0, .slice none 0 0, .slice none 0 0, .slice none 0 0, .slice none 0 0] 37)) (w.heap.size + 1)) := bg (Nat.zero_le _) (by simp)
 have hz0 : ((w.alloc (.cells #[.int .i64 x.now, .int .i64 x.events, .int .i64 x.chain.af, .slice a3 x.chain.ids.length d3, .slice a4 x.nodes.length d4, .slice a5 x.msgs.length d5, .slice a6 x.ae.length d6] 37)).alloc (.cells #[.int .i64 0, .int .i64 0, .int .i64 0, .slice none 0 0, .slice none 0 0, .slice none 0 0, .slice none 0 0] 37)).heap.size = w.heap.size + 2 := by simp
 have HL := yh (pC _ x _ (h.ag nb) hok hf)
 have HB := yh nb
 have HEV := yh hok.events
 clear nb h hok hf
 go_enter Tryz.func50, Tryz.ntmps50
 go_upto_region 1 with fail
 generalize ((w.alloc (.cells #[.int .i64 x.now, .int .i64 x.events, .int .i64 x.chain.af, .slice a3 x.chain.ids.length d3, .slice a4 x.nodes.length d4, .slice a5 x.msgs.length d5, .slice a6 x.ae.length d6] 37)).alloc (.cells #[.int .i64 0, .int .i64 0, .int .i64 0, .slice none 0 0, .slice none 0 0, .slice none 0 0, .slice none 0 0] 37)) = W0 at *
 have z0 := aj.at (uh HX) 0 _ rfl
 have z1 := aj.at (uh HX) 1 _ rfl
 have z2 := aj.at (uh HX) 2 _ rfl
 have z3 := aj.at (uh HX) 3 _ rfl
 have z4 := aj.at (uh HX) 4 _ rfl
 have z5 := aj.at (uh HX) 5 _ rfl
 have z6 := aj.at (uh HX) 6 _ rfl
 simp only [ga, gb, gc] at z0 z1 z2 z3 z4 z5 z6
 have zl := (uh HX).lt
 go_wp2_with fail
 refine (uh HL).mono ?_
 rintro e W1 ⟨cs', rfl, O, hb⟩
 obtain ⟨a3w, d3w, a4w, d4w, a5w, d5w, a6w, d6w, rfl, -⟩ := aG O.reads
 have hz1 : W0.heap.size ≤ W1.heap.size := hb.size
 have nb : Below W1.heap.size W1 (W1.alloc (.cells #[.int .i64 x.now, .int .i64 x.events, .int .i64 x.chain.af, .slice a3w x.chain.ids.length d3w, .slice a4w x.nodes.length d4w, .slice a5w x.msgs.length d5w, .slice a6w x.ae.length d6w] 37)) := (Below.refl _ _).alloc (Nat.le_refl _) _
 have HG : Hid (aj 0 #[.int .i64 x.now, .int .i64 x.events, .int .i64 x.chain.af, .slice a3w x.chain.ids.length d3w, .slice a4w x.nodes.length d4w, .slice a5w x.msgs.length d5w, .slice a6w x.ae.length d6w] 37 (W1.alloc (.cells #[.int .i64 x.now, .int .i64 x.events, .int .i64 x.chain.af, .slice a3w x.chain.ids.length d3w, .slice a4w x.nodes.length d4w, .slice a5w x.msgs.length d5w, .slice a6w x.ae.length d6w] 37)) W1.heap.size) := aH (Nat.zero_le _)
 have HO := yh (O.ag nb)
 replace HY := yh (((uh HY).au hb).au nb)
 replace HX := yh (((uh HX).au hb).au nb)
 replace HB := yh ((uh HB).trans ((hb.trans (nb.mono hb.size)).mono (uh HB).size))
 have hz2 : W1.heap.size < (W1.alloc (.cells #[.int .i64 x.now, .int .i64 x.events, .int .i64 x.chain.af, .slice a3w x.chain.ids.length d3w, .slice a4w x.nodes.length d4w, .slice a5w x.msgs.length d5w, .slice a6w x.ae.length d6w] 37)).heap.size := by simp
 clear nb O hb HL z0 z1 z2 z3 z4 z5 z6 zl
 go_upto_region 2 with fail
 generalize W1.alloc (.cells #[.int .i64 x.now, .int .i64 x.events, .int .i64 x.chain.af, .slice a3w x.chain.ids.length d3w, .slice a4w x.nodes.length d4w, .slice a5w x.msgs.length d5w, .slice a6w x.ae.length d6w] 37) = W2 at *
 have hx := uh HX
 have hg := uh HG
 have z1 := aj.at hx 1 _ rfl
 have y1 := aj.at hg 1 _ rfl
 simp only [ga, gb, gc] at z1 y1
 have zl := hx.lt
 have yl := hg.lt
 have yf := aj.soft hg
 have hev := uh HEV
 have hg2 := aj.set hg 1 (.int .i64 (x.events + 1))
 simp only [List.setIfInBounds_toArray, List.set_cons_zero, List.set_cons_succ] at hg2
 have e1 : Ext (fun q => q = W1.heap.size) W2 (W2.setCell ⟨W1.heap.size, 1, none⟩ (.int .i64 (x.events + 1))) := (Ext.refl _ _).setCell _ _ rfl
 have hO2 := ((uh HO).ext e1 (fun k h1 h2 h3 => by omega)).count x.now (x.events + 1) (iC (uh HO).reads).1 (aR (by omega))
 replace HG := yh hg2
 replace HO := yh hO2
 replace HY := yh ((uh HY).ext e1 (by omega))
 replace HB := yh ((uh HB).setCell (p := ⟨W1.heap.size, 1, none⟩) (by simp; omega) (.int .i64 (x.events + 1)))
 have hz3 : W2.heap.size ≤ (W2.setCell ⟨W1.heap.size, 1, none⟩ (.int .i64 (x.events + 1))).heap.size := by simp
 clear hx hg hg2 e1 hO2 HX
 go_upto_region 3 with fail
 generalize hW : W2.setCell ⟨W1.heap.size, 1, none⟩ (.int .i64 (x.events + 1)) = W3 at *
 clear hW y1 yf yl z1 zl hev
 have y0 := aj.at (uh HG) 0 _ rfl
 have y1 := aj.at (uh HG) 1 _ rfl
 have y2 := aj.at (uh HG) 2 _ rfl
 have y3 := aj.at (uh HG) 3 _ rfl
 have y4 := aj.at (uh HG) 4 _ rfl
 have y5 := aj.at (uh HG) 5 _ rfl
 have y6 := aj.at (uh HG) 6 _ rfl
 simp only [ga, gb, gc] at y0 y1 y2 y3 y4 y5 y6
 have yl := (uh HG).lt
 have r0 := aj.at (uh HY) 0 _ rfl
 have r1 := aj.at (uh HY) 1 _ rfl
 have r2 := aj.at (uh HY) 2 _ rfl
 have r3 := aj.at (uh HY) 3 _ rfl
 have r4 := aj.at (uh HY) 4 _ rfl
 have r5 := aj.at (uh HY) 5 _ rfl
 have r6 := aj.at (uh HY) 6 _ rfl
 simp only [ga, gb, gc] at r0 r1 r2 r3 r4 r5 r6
 have rl := (uh HY).lt
 have rf := aj.soft (uh HY)
 have e9 : Ext (fun q => q = w.heap.size + 1) W3 (aO W3 (w.heap.size + 1) 0 [.int .i64 x.now, .int .i64 (x.events + 1), .int .i64 x.chain.af, .slice a3w x.chain.ids.length d3w, .slice a4w x.nodes.length d4w, .slice a5w x.msgs.length d5w, .slice a6w x.ae.length d6w]) := bD _ (Ext.refl _ _) _ _ _ rfl
 have HO9 := yh (((uh HO).ext e9 (fun k h1 h2 h3 => by omega)).mono (show w.heap.size ≤ W0.heap.size by omega) (show W1.heap.size ≤ (aO W3 (w.heap.size + 1) 0 [.int .i64 x.now, .int .i64 (x.events + 1), .int .i64 x.chain.af, .slice a3w x.chain.ids.length d3w, .slice a4w x.nodes.length d4w, .slice a5w x.msgs.length d5w, .slice a6w x.ae.length d6w]).heap.size by rw [bF]; omega))
 have HB9 := yh (aP (uh HB) (w.heap.size + 1) 0 [.int .i64 x.now, .int .i64 (x.events + 1), .int .i64 x.chain.af, .slice a3w x.chain.ids.length d3w, .slice a4w x.nodes.length d4w, .slice a5w x.msgs.length d5w, .slice a6w x.ae.length d6w] (by omega))
 clear e9 HO HG HY HB HEV
 go_wp2_with fail
 refine bodyPost_ret (v := .agg #[.int .i64 x.now, .int .i64 (x.events + 1), .int .i64 x.chain.af, .slice a3w x.chain.ids.length d3w, .slice a4w x.nodes.length d4w, .slice a5w x.msgs.length d5w, .slice a6w x.ae.length d6w]) (by simp [results, Tryz.results50, go_sem, r0, r1, r2, r3, r4, r5, r6]) rfl ?_
 exact ⟨_, rfl, uh HO9, uh HB9⟩
theorem mr {ws : List aA} (h : ∀ x ∈ ws, wF x = 0) : al ab.ai.bG ws ≤ 10 * ws.length := by
 induction ws with
 | nil => simp [al]
 | cons x xs ih =>
  have h1 := ih fun y hy => h y (List.mem_cons_of_mem _ hy)
  have h2 : x.vec.length ≤ 3 := by
   obtain ⟨-, -, -, hk⟩ := ca (h x (by simp))
   rcases hk with ⟨-, hv⟩ | ⟨-, hv⟩
   ·
    have := (cA hv).1; omega
   rw [hv]; simp
  have h3 : ab.ai.bG x = x.vec.length + 4 := by
   have e : al ab.int.bG x.vec = x.vec.length := by
    generalize x.vec = l
    induction l with
    | nil => rfl
    | cons y ys ihy => simp only [al, List.length_cons, ihy]; show 1 + ys.length = _; omega
   show 1 + (1 + (al ab.int.bG x.vec + (1 + 1))) = _
   omega
  simp only [al, List.length_cons]
  omega
theorem gj (l : List Int) : al ab.int.bG l = l.length := by
 induction l with
 | nil => rfl
 | cons y ys ih => simp only [al, List.length_cons, ih]; show 1 + ys.length = _; omega
structure sP (y : ay) : Prop where
 ids : y.chain.ids.length ≤ 1000
 len : y.nodes.length ≤ 1000
 nodes : ∀ n ∈ y.nodes, n.writes.length ≤ 1000 ∧ ∀ v ∈ n.writes, wF v = 0
 sO : y.msgs.length ≤ 1000
 msgs : ∀ m ∈ y.msgs, m.write.vec.length ≤ 1000
 sM : al ab.ar.bG y.ae ≤ 20000000
theorem oG {ns : List bz} (h : ∀ n ∈ ns, n.writes.length ≤ 1000 ∧ ∀ v ∈ n.writes, wF v = 0) : al ab.ax.bG ns ≤ 10006 * ns.length := by
 induction ns with
 | nil => simp [al]
 | cons n ns ih =>
  have h1 := ih fun m hm => h m (List.mem_cons_of_mem _ hm)
  obtain ⟨h2, h3⟩ := h n (by simp)
  have h4 := mr h3
  have h5 : ab.ax.bG n = al ab.ai.bG n.writes + 6 := by
   show 1 + (1 + (1 + (1 + (al ab.ai.bG n.writes + (1 + 1))))) = _
   omega
  simp only [al, List.length_cons]
  omega
theorem qh {x : bJ} (h : aF x = 0) : x.write.vec.length ≤ 3 := by
 unfold aF at h
 split at h
 ·
  simp at h
 rename_i h1
 split at h
 ·
  simp at h
 split at h
 ·
  rename_i h3
  have h4 : kW x.write := Decidable.byContradiction fun q => h1 (Or.inr (Or.inr ⟨h3, q⟩))
  have := h4.2.2.2.2
  omega
 obtain ⟨-, -, -, hk⟩ := ca h
 rcases hk with ⟨-, hv⟩ | ⟨-, hv⟩
 ·
  have := (cA hv).1; omega
 rw [hv]; simp
theorem qp {ms : List bJ} (h : ∀ m ∈ ms, m.write.vec.length ≤ 1000) : al ab.aJ.bG ms ≤ 1009 * ms.length := by
 induction ms with
 | nil => simp [al]
 | cons m ms ih =>
  have h1 := ih fun q hq => h q (List.mem_cons_of_mem _ hq)
  have h2 := h m (by simp)
  have h5 : ab.aJ.bG m = m.write.vec.length + 9 := by
   show 1 + (1 + (1 + (1 + (1 + (1 + (1 + (al ab.int.bG m.write.vec + (1 + 1)))))))) = _
   rw [gj]
   omega
  simp only [al, List.length_cons]
  omega
theorem pc (hs : List dR) : al ab.bb.bG hs = 2 * hs.length := by
 induction hs with
 | nil => rfl
 | cons y ys ih => simp only [al, List.length_cons, ih]; show 1 + 1 + 2 * ys.length = _; omega
theorem lk (es : List aZ) : al ab.ar.bG es ≤ 8 * es.length + 2 * al ab.ar.sz es := by
 induction es with
 | nil => simp [al]
 | cons e es ih =>
  have h1 : ab.ar.bG e = 8 + e.query.length + e.vec.length + 2 * e.aN.length := by
   show 1 + (1 + (1 + (1 + (al ab.int.bG e.query + (1 + (1 + (1 + (1 + (al ab.int.bG e.vec + al ab.bb.bG e.aN))))))))) = _
   rw [gj, gj, pc]
   omega
  have h2 : e.query.length + e.vec.length + e.aN.length ≤ ab.ar.sz e := by
   show _ ≤ 0 + (0 + (0 + (0 + ((e.query.length + al ab.int.sz e.query) + (0 + (0 + (0 + (0 + ((e.vec.length + al ab.int.sz e.vec) + (e.aN.length + al ab.bb.sz e.aN))))))))))
   omega
  simp only [al, List.length_cons]
  omega
theorem oE {x : ay} (h : db x) (hs : ab.aC.sz x ≤ 1048576) : sP x := by
 have hx : ab.aC.sz x = 0 + (0 + ((0 + (x.chain.ids.length + al ab.int.sz x.chain.ids)) + ((x.nodes.length + al ab.ax.sz x.nodes) + ((x.msgs.length + al ab.aJ.sz x.msgs) + (x.ae.length + al ab.ar.sz x.ae))))) := rfl
 have h1 := (cE h.chain).len
 have h2 := lk x.ae
 refine ⟨by omega, by have := h.some; omega, fun n hn => ?_, by have := (cR h.sG).1; omega, fun m hm => ?_, by omega⟩
 ·
  obtain ⟨k, hk, rfl⟩ := List.getElem_of_mem hn
  have hok := cD (h.nodes k hk).1
  exact ⟨by have := hok.len; omega, hok.ws⟩
 have := qh ((cR h.sG).2 m hm)
 omega
theorem k8 {y : a0} (h : sP y.world) : ab.aB.ak y ≤ 100000000 := by
 rw [cI, ef, ek]
 show al ab.int.bG y.world.chain.ids + al ab.ax.bG y.world.nodes + al ab.aJ.bG y.world.msgs + al ab.ar.bG y.world.ae ≤ 100000000
 rw [gj]
 have h1 := oG h.nodes
 have h2 := qp h.msgs
 have h3 := h.ids
 have h4 := h.len
 have h5 := h.sO
 have h6 := h.sM
 omega
theorem fX (c : Int) : ab.aB.ak (bO c) ≤ 100000000 := k8 ⟨by simp [bO, eb, nC], by simp [bO, eb], by simp [bO, eb], by simp [bO, eb], by simp [bO, eb], by simp [bO, eb, al]⟩
def cr (x : ay) : Int := if aW x ≠ 0 then aW x else if 9999 ≤ x.events then 2 else 0
theorem m7 (x : ay) : -1000000000 ≤ cr x ∧ cr x ≤ 1000000000 := by
 have := nR x
 unfold cr
 split
 ·
  omega
 split <;> omega
theorem iT {x : ay} (h : cr x = 0) : aW x = 0 := by
 unfold cr at h
 split at h
 ·
  rename_i q; exact absurd h q
 rename_i q; simpa using q
theorem ky (x : ay) (c : Int) (mv : Bool) (z : ay) : cV x (aW x) c mv z = if cr x ≠ 0 then bO (cr x) else kv c mv z := by
 unfold cV cr
 by_cases h1 : aW x ≠ 0
 ·
  rw [if_pos h1, if_pos h1, if_pos h1]
 rw [if_neg h1, if_neg h1]
 by_cases h2 : 9999 ≤ x.events
 ·
  rw [if_pos h2, if_pos h2, if_pos (show ((2 : Int) ≠ 0) by omega)]
 rw [if_neg h2, if_neg h2, if_neg (show ¬ ((0 : Int) ≠ 0) by omega)]
theorem oh (a3 : Option Addr) (d3 : Nat) (a4 : Option Addr) (d4 : Nat) (a5 : Option Addr) (d5 : Nat) (a6 : Option Addr) (d6 : Nat) (x : ay) (xb : Nat) (w : World) (hX : aj 0 #[.int .i64 x.now, .int .i64 x.events, .int .i64 x.chain.af, .slice a3 x.chain.ids.length d3, .slice a4 x.nodes.length d4, .slice a5 x.msgs.length d5, .slice a6 x.ae.length d6] 37 w xb) (h : ab.aC.Reads w [.int .i64 x.now, .int .i64 x.events, .int .i64 x.chain.af, .slice a3 x.chain.ids.length d3, .slice a4 x.nodes.length d4, .slice a5 x.msgs.length d5, .slice a6 x.ae.length d6] x) :
  Calls Tryz.prog 79 #[.pointer (some ⟨xb, 0, none⟩)] w fun e w' => e = .returned (.int .i64 (cr x)) ∧ Below w.heap.size w w' := by
 have HX := yh hX
 have HP : Hid (cr x = if aW x ≠ 0 then aW x else if 9999 ≤ x.events then 2 else 0) := rfl
 have HL := yh (oY a3 d3 a4 d4 a5 d5 a6 d6 x xb w hX h)
 clear hX h
 generalize cr x = r at *
 go_enter Tryz.func79, Tryz.ntmps79
 go_wp2_with fail
 refine (uh HL).mono ?_
 rintro e w2 ⟨rfl, hb⟩
 have hx := (uh HX).au hb
 have HB := yh hb
 clear hb HL HX
 by_cases d1 : aW x ≠ 0
 ·
  have hd : (aW x != 0) = true := by simpa using d1
  replace HP := yh ((uh HP).trans (if_pos d1))
  clear d1 hx
  generalize aW x = c at *
  go_wp2_with fail
  go_ret
  exact ⟨by rw [uh HP]; rfl, uh HB⟩
 replace HP := yh ((uh HP).trans (if_neg d1))
 have hd : aW x = 0 := by simpa using d1
 clear d1
 rw [hd]
 clear hd
 have z1 := aj.at hx 1 _ rfl
 simp only [ga, gb, gc] at z1
 have xl := hx.lt
 clear hx
 by_cases he : 9999 ≤ x.events
 ·
  have hd : decide (9999 ≤ x.events) = true := by simpa using he
  replace HP := yh ((uh HP).trans (if_pos he))
  clear he
  go_wp2_with fail
  go_ret
  exact ⟨by rw [uh HP]; rfl, uh HB⟩
 have hd : decide (9999 ≤ x.events) = false := by simpa using he
 replace HP := yh ((uh HP).trans (if_neg he))
 clear he
 go_wp2_with fail
 go_ret
 exact ⟨by rw [uh HP]; rfl, uh HB⟩
def fg (es : List aZ) (s q : Int) : Nat := es.findIdx (cH s q)
def dG (es : List aZ) (s q : Int) : Int := if fg es s q < es.length then (fg es s q : Int) else -1
theorem pK {es : List aZ} {s q : Int} {k : Nat} (hk : k < es.length) (h : cH s q es[k] = true) (hb : ∀ j (hj : j < k), cH s q es[j] = false) : fg es s q = k := by
 unfold fg
 rw [List.findIdx_eq hk]
 exact ⟨h, fun j hj => by simpa using hb j hj⟩
theorem mh {es : List aZ} {s q : Int} {k : Nat} (hk : k < es.length) (h : cH s q es[k] = true) (hb : ∀ j (hj : j < es.length), j < k → cH s q es[j] = false) : dG es s q = (k : Int) := by
 rw [dG, pK hk h (fun j hj => hb j (by omega) hj), if_pos hk]
theorem iP {es : List aZ} {s q : Int} (hb : ∀ j (hj : j < es.length), cH s q es[j] = false) : dG es s q = -1 := by
 rw [dG, if_neg]
 unfold fg
 intro h
 obtain ⟨e, he, h2⟩ := List.findIdx_lt_length.1 h
 obtain ⟨j, hj, rfl⟩ := List.getElem_of_mem he
 rw [hb j hj] at h2
 exact absurd h2 (by decide)
theorem fN {es : List aZ} {s q : Int} (h : 0 ≤ dG es s q) : ∃ (k : Nat) (_ : k < es.length), dG es s q = (k : Int) ∧ fg es s q = k := by
 unfold dG at h ⊢
 by_cases c : fg es s q < es.length
 ·
  rw [if_pos c]
  exact ⟨_, c, rfl, rfl⟩
 rw [if_neg c] at h
 omega
theorem fT {s q : Int} {e : aZ} (h : (e.kind == 1) = false) : cH s q e = false := by simp [cH, h]
theorem gf {s q : Int} {e : aZ} (h : (e.aa == s) = false) : cH s q e = false := by simp [cH, h]
theorem gk {s q : Int} {e : aZ} (h : (e.seq == q) = false) : cH s q e = false := by simp [cH, h]
theorem je {s q : Int} {e : aZ} (h : (e.kind == 1) = true) (h2 : (e.aa == s) = true) (h3 : (e.seq == q) = true) : cH s q e = true := by simp [cH, h, h2, h3]
theorem oQ : eX ab.bb 242 := by
 intro H enc W base spare held fuel cs x h
 obtain ⟨xs, n, _, _, hlen, hl, hfi⟩ := DataW.trod_struct Tryz.underlying242 h
 rw [show Tryz.prog.cellsOf 242 = 2 by kernel_rfl] at hlen
 match cs, hlen with
 | [c0, c1], _ =>
 match xs, hl with
 | [y0, y1], _ =>
 have z0 : Tryz.prog.cellsOf 2 = 1 := by kernel_rfl
 have f0 : DataW.trod enc Tryz.prog W base spare held n 2 (([c0, c1].drop 0).take (Tryz.prog.cellsOf 2)) = some y0 := hfi 0 _ rfl
 rw [z0] at f0
 obtain ⟨d0, r0⟩ := (bc Tryz.underlying2) enc W base spare held n _ _ f0
 have f1 : DataW.trod enc Tryz.prog W base spare held n 2 (([c0, c1].drop 1).take (Tryz.prog.cellsOf 2)) = some y1 := hfi 1 _ rfl
 rw [z0] at f1
 obtain ⟨d1, r1⟩ := (bc Tryz.underlying2) enc W base spare held n _ _ f1
 exact ⟨⟨d0, d1⟩, (aU r0 r1)⟩
theorem lg : eX ab.ar 138 := by
 intro H enc W base spare held fuel cs x h
 obtain ⟨xs, n, _, _, hlen, hl, hfi⟩ := DataW.trod_struct Tryz.underlying138 h
 rw [show Tryz.prog.cellsOf 138 = 11 by kernel_rfl] at hlen
 match cs, hlen with
 | [c0, c1, c2, c3, c4, c5, c6, c7, c8, c9, c10], _ =>
 match xs, hl with
 | [y0, y1, y2, y3, y4, y5, y6, y7, y8, y9, y10], _ =>
 have z0 : Tryz.prog.cellsOf 2 = 1 := by kernel_rfl
 have z1 : Tryz.prog.cellsOf 22 = 1 := by kernel_rfl
 have z2 : Tryz.prog.cellsOf 136 = 1 := by kernel_rfl
 have f0 : DataW.trod enc Tryz.prog W base spare held n 2 (([c0, c1, c2, c3, c4, c5, c6, c7, c8, c9, c10].drop 0).take (Tryz.prog.cellsOf 2)) = some y0 := hfi 0 _ rfl
 rw [z0] at f0
 obtain ⟨d0, r0⟩ := (bc Tryz.underlying2) enc W base spare held n _ _ f0
 have f1 : DataW.trod enc Tryz.prog W base spare held n 2 (([c0, c1, c2, c3, c4, c5, c6, c7, c8, c9, c10].drop 1).take (Tryz.prog.cellsOf 2)) = some y1 := hfi 1 _ rfl
 rw [z0] at f1
 obtain ⟨d1, r1⟩ := (bc Tryz.underlying2) enc W base spare held n _ _ f1
 have f2 : DataW.trod enc Tryz.prog W base spare held n 2 (([c0, c1, c2, c3, c4, c5, c6, c7, c8, c9, c10].drop 2).take (Tryz.prog.cellsOf 2)) = some y2 := hfi 2 _ rfl
 rw [z0] at f2
 obtain ⟨d2, r2⟩ := (bc Tryz.underlying2) enc W base spare held n _ _ f2
 have f3 : DataW.trod enc Tryz.prog W base spare held n 2 (([c0, c1, c2, c3, c4, c5, c6, c7, c8, c9, c10].drop 3).take (Tryz.prog.cellsOf 2)) = some y3 := hfi 3 _ rfl
 rw [z0] at f3
 obtain ⟨d3, r3⟩ := (bc Tryz.underlying2) enc W base spare held n _ _ f3
 have f4 : DataW.trod enc Tryz.prog W base spare held n 22 (([c0, c1, c2, c3, c4, c5, c6, c7, c8, c9, c10].drop 4).take (Tryz.prog.cellsOf 22)) = some y4 := hfi 4 _ rfl
 rw [z1] at f4
 obtain ⟨d4, r4⟩ := (dE Tryz.underlying22 (by kernel_rfl) (by decide) (bc Tryz.underlying2)) enc W base spare held n _ _ f4
 have f5 : DataW.trod enc Tryz.prog W base spare held n 2 (([c0, c1, c2, c3, c4, c5, c6, c7, c8, c9, c10].drop 5).take (Tryz.prog.cellsOf 2)) = some y5 := hfi 5 _ rfl
 rw [z0] at f5
 obtain ⟨d5, r5⟩ := (bc Tryz.underlying2) enc W base spare held n _ _ f5
 have f6 : DataW.trod enc Tryz.prog W base spare held n 2 (([c0, c1, c2, c3, c4, c5, c6, c7, c8, c9, c10].drop 6).take (Tryz.prog.cellsOf 2)) = some y6 := hfi 6 _ rfl
 rw [z0] at f6
 obtain ⟨d6, r6⟩ := (bc Tryz.underlying2) enc W base spare held n _ _ f6
 have f7 : DataW.trod enc Tryz.prog W base spare held n 2 (([c0, c1, c2, c3, c4, c5, c6, c7, c8, c9, c10].drop 7).take (Tryz.prog.cellsOf 2)) = some y7 := hfi 7 _ rfl
 rw [z0] at f7
 obtain ⟨d7, r7⟩ := (bc Tryz.underlying2) enc W base spare held n _ _ f7
 have f8 : DataW.trod enc Tryz.prog W base spare held n 2 (([c0, c1, c2, c3, c4, c5, c6, c7, c8, c9, c10].drop 8).take (Tryz.prog.cellsOf 2)) = some y8 := hfi 8 _ rfl
 rw [z0] at f8
 obtain ⟨d8, r8⟩ := (bc Tryz.underlying2) enc W base spare held n _ _ f8
 have f9 : DataW.trod enc Tryz.prog W base spare held n 22 (([c0, c1, c2, c3, c4, c5, c6, c7, c8, c9, c10].drop 9).take (Tryz.prog.cellsOf 22)) = some y9 := hfi 9 _ rfl
 rw [z1] at f9
 obtain ⟨d9, r9⟩ := (dE Tryz.underlying22 (by kernel_rfl) (by decide) (bc Tryz.underlying2)) enc W base spare held n _ _ f9
 have f10 : DataW.trod enc Tryz.prog W base spare held n 136 (([c0, c1, c2, c3, c4, c5, c6, c7, c8, c9, c10].drop 10).take (Tryz.prog.cellsOf 136)) = some y10 := hfi 10 _ rfl
 rw [z2] at f10
 obtain ⟨d10, r10⟩ := (dE Tryz.underlying136 (by kernel_rfl) (by decide) oQ) enc W base spare held n _ _ f10
 exact ⟨⟨d0, d1, d2, d3, d4, d5, d6, d7, d8, d9, d10⟩, (aU r0 (aU r1 (aU r2 (aU r3 (aU r4 (aU r5 (aU r6 (aU r7 (aU r8 (aU r9 r10))))))))))⟩
theorem lT : eX ab.aD 24 := by
 intro H enc W base spare held fuel cs x h
 obtain ⟨xs, n, _, _, hlen, hl, hfi⟩ := DataW.trod_struct Tryz.underlying24 h
 rw [show Tryz.prog.cellsOf 24 = 2 by kernel_rfl] at hlen
 match cs, hlen with
 | [c0, c1], _ =>
 match xs, hl with
 | [y0, y1], _ =>
 have z0 : Tryz.prog.cellsOf 2 = 1 := by kernel_rfl
 have z1 : Tryz.prog.cellsOf 22 = 1 := by kernel_rfl
 have f0 : DataW.trod enc Tryz.prog W base spare held n 2 (([c0, c1].drop 0).take (Tryz.prog.cellsOf 2)) = some y0 := hfi 0 _ rfl
 rw [z0] at f0
 obtain ⟨d0, r0⟩ := (bc Tryz.underlying2) enc W base spare held n _ _ f0
 have f1 : DataW.trod enc Tryz.prog W base spare held n 22 (([c0, c1].drop 1).take (Tryz.prog.cellsOf 22)) = some y1 := hfi 1 _ rfl
 rw [z1] at f1
 obtain ⟨d1, r1⟩ := (dE Tryz.underlying22 (by kernel_rfl) (by decide) (bc Tryz.underlying2)) enc W base spare held n _ _ f1
 exact ⟨⟨d0, d1⟩, (aU r0 r1)⟩
end Go.Proofs.YtecagllmonckgaaGreat
