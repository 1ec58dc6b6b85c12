/-
  Texts of this proof in one: CopyNs, AppHit, LayMore, AppHitsL, LayPart, CloneH, CopyHs, ImplCopiedM, ImplWC, ImplDone, ImplStepped, FacePlain, WorldFew, NetFew, DropPlain, LosePlain, ToldPlainW, ImplMember, ChainsPlain, AskedPlain, WorldMsgs, SendPlain, HearPlain, AskPlain.
  Their conditions stand in their theorems.
-/
import Derived.Test.YtomphbenbnnfgaaGreatDoorChecked
import Derived.Test.YtomphbenbnnfgaaGreatDoorAw01
import Derived.Test.YtomphbenbnnfgaaGreatDoorAw03
import Derived.Test.YtomphbenbnnfgaaGreatDoorAw07
import Derived.WalkKit
import Derived.Deep.CutRange
import Derived.Test.YtomphbenbnnfgaaGreatDoorAw00
import Derived.Test.YtomphbenbnnfgaaGreatDoorAw05
import Derived.Maps.AppendAt
import Derived.Test.YtomphbenbnnfgaaGreatDoorAw06
import Derived.Defers
import Derived.Recover
import Derived.Laws.Pointers
set_option maxRecDepth 100000
set_option maxHeartbeats 4000000
namespace Go.Proofs.YtomphbenbnnfgaaGreatDoor
open Go.RowKit
theorem tN {w : World} {cs : List Value} {x : aV} (h : ab.ax.Reads w cs x) : (Lit.int .i64 x.id).wf = true ∧ (Lit.int .i64 x.ae).wf = true ∧ (Lit.int .i64 x.au).wf = true ∧ (Lit.int .i64 x.sure).wf = true ∧ (Lit.int .i64 x.clean).wf = true := by
 obtain ⟨bl, h⟩ := h
 obtain ⟨_, _, _, -, -, w0, w2, w3, -, w5, w6⟩ := cD.1 h
 exact ⟨w0, w2, w3, w5, w6⟩
theorem qj {w : World} {x : aV} {v : Value} {lo hi : Nat} (h : (ab.sl ab.ag).aN w [v] x.writes lo hi) (hw : (Lit.int .i64 x.id).wf = true ∧ (Lit.int .i64 x.ae).wf = true ∧ (Lit.int .i64 x.au).wf = true ∧ (Lit.int .i64 x.sure).wf = true ∧ (Lit.int .i64 x.clean).wf = true) :
  ab.ax.aN w [.int .i64 x.id, .bool x.up, .int .i64 x.ae, .int .i64 x.au, v, .int .i64 x.sure, .int .i64 x.clean] x lo hi := by
 obtain ⟨bl, O, i⟩ := h
 obtain ⟨w0, w2, w3, w5, w6⟩ := hw
 exact ⟨bl, gP O w0 w2 w3 w5 w6 O.2.1, i⟩
theorem qi : (Tryz.prog.info? 63).map (fun i => (i.zero, i.size, decide (i.bytes ≤ 1000))) = some (some (.agg #[.int .i64 0, .bool false, .int .i64 0, .int .i64 0, .slice none 0 0, .int .i64 0, .int .i64 0]), 7, true) := by kernel_rfl
theorem mL (v : Value) (xs : List aV) (w : World) (h : (ab.sl ab.ax).Reads w [v] xs) (hlen : xs.length ≤ 1000000) (hv : ∀ x ∈ xs, x.writes.length ≤ 1000000 ∧ ∀ y ∈ x.writes, y.vec.length ≤ 10000000) :
  Calls Tryz.prog 198 #[v] w fun e w' => ∃ (g : Nat), e = .returned (.slice (some ⟨g, 0, none⟩) xs.length xs.length) ∧ (ab.sl ab.ax).aN w' [.slice (some ⟨g, 0, none⟩) xs.length xs.length] xs w.heap.size w'.heap.size ∧ Below w.heap.size w w' := by
 have hbig := h.et
 obtain ⟨ao, cap, rfl⟩ := aI h
 obtain ⟨i0, hi, hz0, hz1, hz2⟩ : ∃ i, Tryz.prog.info? 63 = some i ∧ i.zero = some (.agg #[.int .i64 0, .bool false, .int .i64 0, .int .i64 0, .slice none 0 0, .int .i64 0, .int .i64 0]) ∧ i.size = 7 ∧ i.bytes ≤ 1000 := by
  have := qi
  cases hq : Tryz.prog.info? 63 with
  | none => rw [hq] at this; simp at this
  | some i =>
   rw [hq] at this
   simp only [Option.map_some, Option.some.injEq, Prod.mk.injEq, decide_eq_true_eq] at this
   exact ⟨i, rfl, this.1, this.2.1, this.2.2⟩
 have H := yh h
 have HN := yh hv
 clear h hv
 go_enter Tryz.func198, Tryz.ntmps198
 go_wp2_with (at_make; refine wpList_make_full _ rfl _ _ 35 rfl w.heap.size 63 i0 _ 7 Tryz.underlying35 hi hz0 hz1 _ _ _ _ xs.length rfl rfl rfl rfl ?c1 ?c2 ?c3 ?_)
 case c1 => have := Nat.mul_le_mul hz2 hlen; omega
 case c2 => unfold maxLen; omega
 case c3 => exact Nat.le_refl _
 intro w1 hown1 hgrow1
 have hB1 : Below w.heap.size w w1 := (Below.refl _ _).grown hgrow1 (Nat.le_refl _) (by simp)
 clear hgrow1 hi hz0 hz1 hz2
 have HO1 := yh hown1
 have HB1 := yh hB1
 clear hown1 hB1
 go_wp2_with fail
 go_loopw [11] (fun i wr => ∃ (k : Nat) (rows : List (List Value)) (Q : List Value) (hi : Nat), k ≤ xs.length ∧ i = .int .i64 k ∧ wr.ownsRow w.heap.size 63 7 (.slice (some ⟨w.heap.size, 0, none⟩) xs.length xs.length) xs.length (rows.flatten ++ Q) ∧ Q.length = (xs.length - k) * 7 ∧ ab.gj ab.ax wr rows (xs.take k) (w.heap.size + 1) hi ∧ hi ≤ wr.heap.size ∧ w.heap.size < hi ∧ Below w.heap.size w wr) (fun i _ => xs.length - (intOf i).toNat)
 case atStart =>
  have hl := ((uh HO1).lt w.heap.size rfl).2
  exact ⟨0, [], _, w1.heap.size, Nat.zero_le _, rfl, by simpa using uh HO1, by have := (uh HO1).1; simpa using this, ab.ek, Nat.le_refl _, hl, uh HB1⟩
 case round =>
  obtain ⟨k, rows, Q, hi, hk, rfl, hown, hQ, hsub, hhi, hlo, hB⟩ := hrel
  clear HO1 HB1
  by_cases hlt : k < xs.length
  ·
   obtain ⟨b, off, rfl, hbl⟩ := ab.aS (uh H) (by omega)
   obtain ⟨row, hc, hr⟩ := ab.bE (uh H) hlt
   replace hr := hr.later hB
   have hr2 := hr
   obtain ⟨a4, d4, rfl, R0⟩ := bG hr2
   have c0 : wr.cell? ⟨b, off + k * 7, none⟩ = some (.int .i64 (xs[k]).id) := (hB.cell (p := ⟨b, off + k * 7, none⟩) hbl).trans (hc 0 (by decide))
   have c1 : wr.cell? ⟨b, off + k * 7 + 1, none⟩ = some (.bool (xs[k]).up) := (hB.cell (p := ⟨b, off + k * 7 + 1, none⟩) hbl).trans (hc 1 (by decide))
   have c2 : wr.cell? ⟨b, off + k * 7 + 2, none⟩ = some (.int .i64 (xs[k]).ae) := (hB.cell (p := ⟨b, off + k * 7 + 2, none⟩) hbl).trans (hc 2 (by decide))
   have c3 : wr.cell? ⟨b, off + k * 7 + 3, none⟩ = some (.int .i64 (xs[k]).au) := (hB.cell (p := ⟨b, off + k * 7 + 3, none⟩) hbl).trans (hc 3 (by decide))
   have c4 : wr.cell? ⟨b, off + k * 7 + 4, none⟩ = some (.slice a4 (xs[k]).writes.length d4) := (hB.cell (p := ⟨b, off + k * 7 + 4, none⟩) hbl).trans (hc 4 (by decide))
   have c5 : wr.cell? ⟨b, off + k * 7 + 5, none⟩ = some (.int .i64 (xs[k]).sure) := (hB.cell (p := ⟨b, off + k * 7 + 5, none⟩) hbl).trans (hc 5 (by decide))
   have c6 : wr.cell? ⟨b, off + k * 7 + 6, none⟩ = some (.int .i64 (xs[k]).clean) := (hB.cell (p := ⟨b, off + k * 7 + 6, none⟩) hbl).trans (hc 6 (by decide))
   have hrl : rows.flatten.length = k * 7 := by have := (ab.eh hsub).1; rw [List.length_take, Nat.min_eq_left hk] at this; exact this
   have hvl := uh HN xs[k] (List.getElem_mem hlt)
   have HT : Hid (xs.take (k + 1) = xs.take k ++ [xs[k]]) := List.take_succ_eq_append_getElem hlt
   have HB := yh hB
   have HO := yh hown
   have HS := yh hsub
   have HQ := yh hQ
   have HWF := yh (tN hr)
   have HVL := yh hvl
   have HR0 := yh R0
   clear hB hr hc hown hsub hQ hr2 hvl R0
   generalize hxk : xs[k] = x at *
   clear hxk
   have hbr : b < wr.heap.size := Nat.lt_of_lt_of_le hbl (uh HB).size
   have nb : Below wr.heap.size wr (wr.alloc (.cells #[.int .i64 x.id, .bool x.up, .int .i64 x.ae, .int .i64 x.au, .slice a4 x.writes.length d4, .int .i64 x.sure, .int .i64 x.clean] 63)) := (Below.refl _ _).alloc (Nat.le_refl _) _
   have HX : Hid (aA 0 #[.int .i64 x.id, .bool x.up, .int .i64 x.ae, .int .i64 x.au, .slice a4 x.writes.length d4, .int .i64 x.sure, .int .i64 x.clean] 63 (wr.alloc (.cells #[.int .i64 x.id, .bool x.up, .int .i64 x.ae, .int .i64 x.au, .slice a4 x.writes.length d4, .int .i64 x.sure, .int .i64 x.clean] 63)) wr.heap.size) := aD (Nat.zero_le _)
   have hz0 : (wr.alloc (.cells #[.int .i64 x.id, .bool x.up, .int .i64 x.ae, .int .i64 x.au, .slice a4 x.writes.length d4, .int .i64 x.sure, .int .i64 x.clean] 63)).heap.size = wr.heap.size + 1 := by simp
   have HV := yh nb
   clear nb
   go_upto_region 5 with fail
   generalize wr.alloc (.cells #[.int .i64 x.id, .bool x.up, .int .i64 x.ae, .int .i64 x.au, .slice a4 x.writes.length d4, .int .i64 x.sure, .int .i64 x.clean] 63) = W0 at *
   clear c0 c1 c2 c3 c4 c5 c6
   have hx := uh HX
   have y4 := aA.at hx 4 _ rfl
   have yf := aA.soft hx
   have yl := hx.lt
   simp only [ga, gb, gc] at y4
   have HC := yh (pw _ x.writes W0 ((uh HR0).later (uh HV)) (uh HVL).1 (uh HVL).2)
   clear hx
   go_wp2_with fail
   refine (uh HC).mono ?_
   rintro e v1 ⟨gw, rfl, O, hb⟩
   have hz1 : W0.heap.size ≤ v1.heap.size := hb.size
   have hx := (uh HX).ai hb
   clear y4 yf yl
   have y4 := aA.at hx 4 _ rfl
   have yf := aA.soft hx
   have yl := hx.lt
   simp only [ga, gb, gc] at y4
   have hv := (uh HV).trans (hb.mono (uh HV).size)
   replace HV := yh (hv.setCell (p := ⟨wr.heap.size, 4, none⟩) (Nat.le_refl _) (.slice (some ⟨gw, 0, none⟩) x.writes.length x.writes.length))
   have hx2 := aA.set hx 4 (.slice (some ⟨gw, 0, none⟩) x.writes.length x.writes.length)
   simp only [List.setIfInBounds_toArray, List.set_cons_zero, List.set_cons_succ] at hx2
   replace HX := yh hx2
   have e1 : Ext (fun q => q = wr.heap.size) v1 (v1.setCell ⟨wr.heap.size, 4, none⟩ (.slice (some ⟨gw, 0, none⟩) x.writes.length x.writes.length)) := (Ext.refl _ _).setCell _ _ rfl
   have P0 := yh (O.ext e1 (fun q h1 h2 h3 => by omega))
   have hz1' : (v1.setCell ⟨wr.heap.size, 4, none⟩ (.slice (some ⟨gw, 0, none⟩) x.writes.length x.writes.length)).heap.size = v1.heap.size := by simp
   clear hx hx2 e1 hv O hb HC
   go_upto_region 6 with fail
   generalize hW : v1.setCell ⟨wr.heap.size, 4, none⟩ (.slice (some ⟨gw, 0, none⟩) x.writes.length x.writes.length) = W1 at *
   clear hW y4 yf yl
   have hx := uh HX
   obtain ⟨y0, y1, y2, y3, y4, y5, y6⟩ := aZ7 hx
   have yl := hx.lt
   clear hx
   have hb3 : Below wr.heap.size wr W1 := uh HV
   have o2 := de (uh HO) hb3
   have O := qj (uh P0) (uh HWF)
   replace HS := yh (ab.dK (ab.cC (uh HS) (az hb3 dz) (fun _ _ _ h => h)) O (by omega) (by omega) (by omega))
   have hb2 := (uh HB).trans (hb3.mono (uh HB).size)
   have hxw : w.heap.size < wr.heap.size := by omega
   have hwz := hb3.size
   clear HB HO O HV hb3 P0
   have hQ := uh HQ
   have hl5 : (rows.flatten ++ Q).length = xs.length * 7 := o2.1
   obtain ⟨u0, g0⟩ : ∃ u, W1.cell? ⟨w.heap.size, k * 7, none⟩ = some u := by
    rw [o2.cellAt (k * 7) (by omega)]
    exact gZ (by omega)
   have t0 := o2.frozenAt (k * 7)
   obtain ⟨u1, g1⟩ : ∃ u, W1.cell? ⟨w.heap.size, k * 7 + 1, none⟩ = some u := by
    rw [o2.cellAt (k * 7 + 1) (by omega)]
    exact gZ (by omega)
   have t1 := o2.frozenAt (k * 7 + 1)
   obtain ⟨u2, g2⟩ : ∃ u, W1.cell? ⟨w.heap.size, k * 7 + 2, none⟩ = some u := by
    rw [o2.cellAt (k * 7 + 2) (by omega)]
    exact gZ (by omega)
   have t2 := o2.frozenAt (k * 7 + 2)
   obtain ⟨u3, g3⟩ : ∃ u, W1.cell? ⟨w.heap.size, k * 7 + 3, none⟩ = some u := by
    rw [o2.cellAt (k * 7 + 3) (by omega)]
    exact gZ (by omega)
   have t3 := o2.frozenAt (k * 7 + 3)
   obtain ⟨u4, g4⟩ : ∃ u, W1.cell? ⟨w.heap.size, k * 7 + 4, none⟩ = some u := by
    rw [o2.cellAt (k * 7 + 4) (by omega)]
    exact gZ (by omega)
   have t4 := o2.frozenAt (k * 7 + 4)
   obtain ⟨u5, g5⟩ : ∃ u, W1.cell? ⟨w.heap.size, k * 7 + 5, none⟩ = some u := by
    rw [o2.cellAt (k * 7 + 5) (by omega)]
    exact gZ (by omega)
   have t5 := o2.frozenAt (k * 7 + 5)
   obtain ⟨u6, g6⟩ : ∃ u, W1.cell? ⟨w.heap.size, k * 7 + 6, none⟩ = some u := by
    rw [o2.cellAt (k * 7 + 6) (by omega)]
    exact gZ (by omega)
   have t6 := o2.frozenAt (k * 7 + 6)
   have o3 := di o2 (k * 7) [.int .i64 x.id, .bool x.up, .int .i64 x.ae, .int .i64 x.au, .slice (some ⟨gw, 0, none⟩) x.writes.length x.writes.length, .int .i64 x.sure, .int .i64 x.clean]
   rw [show k * 7 = rows.flatten.length from hrl.symm, cY _ _ _ (by rw [hQ]; simp; have : 1 * 7 ≤ (xs.length - k) * 7 := Nat.mul_le_mul_right _ (by omega); omega), hrl] at o3
   have E : Ext (fun q => q = w.heap.size) W1 (aG W1 w.heap.size (k * 7) [.int .i64 x.id, .bool x.up, .int .i64 x.ae, .int .i64 x.au, .slice (some ⟨gw, 0, none⟩) x.writes.length x.writes.length, .int .i64 x.sure, .int .i64 x.clean]) := bb _ (Ext.refl _ _) _ _ _ rfl
   replace HS := yh (ab.cC (uh HS) E (fun q h1 h2 h3 => by omega))
   have HB := yh (aB hb2 w.heap.size (k * 7) [.int .i64 x.id, .bool x.up, .int .i64 x.ae, .int .i64 x.au, .slice (some ⟨gw, 0, none⟩) x.writes.length x.writes.length, .int .i64 x.sure, .int .i64 x.clean] (Nat.le_refl _))
   have HZ : Hid ((aG W1 w.heap.size (k * 7) [.int .i64 x.id, .bool x.up, .int .i64 x.ae, .int .i64 x.au, .slice (some ⟨gw, 0, none⟩) x.writes.length x.writes.length, .int .i64 x.sure, .int .i64 x.clean]).heap.size = v1.heap.size) := (bL _ _ _ _).trans hz1'
   have HO : Hid ((aG W1 w.heap.size (k * 7) [.int .i64 x.id, .bool x.up, .int .i64 x.ae, .int .i64 x.au, .slice (some ⟨gw, 0, none⟩) x.writes.length x.writes.length, .int .i64 x.sure, .int .i64 x.clean]).ownsRow w.heap.size 63 7 (.slice (some ⟨w.heap.size, 0, none⟩) xs.length xs.length) xs.length ((rows ++ [([.int .i64 x.id, .bool x.up, .int .i64 x.ae, .int .i64 x.au, .slice (some ⟨gw, 0, none⟩) x.writes.length x.writes.length, .int .i64 x.sure, .int .i64 x.clean] : List Value)]).flatten ++ Q.drop 7)) := by
    show (aG W1 w.heap.size (k * 7) [.int .i64 x.id, .bool x.up, .int .i64 x.ae, .int .i64 x.au, .slice (some ⟨gw, 0, none⟩) x.writes.length x.writes.length, .int .i64 x.sure, .int .i64 x.clean]).ownsRow w.heap.size 63 7 (.slice (some ⟨w.heap.size, 0, none⟩) xs.length xs.length) xs.length ((rows ++ [([.int .i64 x.id, .bool x.up, .int .i64 x.ae, .int .i64 x.au, .slice (some ⟨gw, 0, none⟩) x.writes.length x.writes.length, .int .i64 x.sure, .int .i64 x.clean] : List Value)]).flatten ++ Q.drop 7)
    rw [List.flatten_append]
    simpa using o3
   have hl2 := (o2.lt w.heap.size rfl).2
   clear o3 o2 E hb2 hl5
   have hQ2 : Hid ((Q.drop 7).length = (xs.length - (k + 1)) * 7) := by
    show (Q.drop 7).length = (xs.length - (k + 1)) * 7
    rw [List.length_drop, hQ, show xs.length - k = xs.length - (k + 1) + 1 by omega, Nat.add_mul]
    omega
   have HW2 : Hid (w.heap.size < v1.heap.size) := by show w.heap.size < v1.heap.size; omega
   clear hQ HQ hz0 HX hz1 hz1'
   go_wp2_with fail
   go_roundw
   case rel => exact ⟨k + 1, rows ++ [([.int .i64 x.id, .bool x.up, .int .i64 x.ae, .int .i64 x.au, .slice (some ⟨gw, 0, none⟩) x.writes.length x.writes.length, .int .i64 x.sure, .int .i64 x.clean] : List Value)], Q.drop 7, v1.heap.size, by omega, by go_num, uh HO, uh hQ2, (by rw [uh HT]; exact uh HS), Nat.le_of_eq (uh HZ).symm, uh HW2, uh HB⟩
   case measure => simp [intOf]; omega
  obtain rfl : k = xs.length := by omega
  have e0 : Q = [] := List.eq_nil_of_length_eq_zero (by rw [hQ]; simp)
  subst e0
  rw [List.append_nil] at hown
  rw [List.take_length] at hsub
  have HO := yh (ab.dJ (A := ab.ax) hown hsub (by omega) hhi hbig)
  have HB := yh hB
  clear hown hsub hB
  go_wp2_with fail
  go_ret
  exact ⟨_, rfl, uh HO, uh HB⟩
theorem oj : (Tryz.prog.info? 224).map (fun i => (i.zero, i.size, i.bytes)) = some (some (.agg #[.int .i64 0, .int .i64 0]), 2, 16) := by kernel_rfl
theorem tU {w : World} {row : List Value} {x : eG} {bl : List Nat} (h : ab.bq.bg w row x bl) : (∀ u ∈ row, u.oneCell' = true) ∧ row.length = 1 * 2 := by
 obtain ⟨rfl, -⟩ := cS.1 h
 simp [Value.oneCell']
theorem iw {P : Program} (t ty e : TypeId) (i : TypeInfo) (ht : P.underlying t = some (.slice e)) (hi : P.info? e = some i) (bo : Option Addr) (n cap c : Nat) (hn : n ≤ cap) (w : World) :
  (Builtin.append_ #[t, t] ty #[.slice bo n cap, .slice none 0 c]).run P w = (Builtin.append_ #[t, t] ty #[.slice bo n cap, .slice (some ⟨0, 0, none⟩) 0 c]).run P w := by
 simp [Builtin.append_, run_underlying ht, sizeOf, typeInfo, hi, Builtin.lenOf, hn, Builtin.firstCells, loadCells, loadCellsFrom]
theorem lH {n : Nat} : ∀ {rows : List (List Value)}, (∀ r ∈ rows, r.length = n) → rows.flatten.length = rows.length * n
 | [], _ => by simp
 | r :: rows, h => by
  rw [List.flatten_cons, List.length_append, h r (by simp), lH (fun q hq => h q (List.mem_cons_of_mem _ hq)), List.length_cons, Nat.add_mul]
  omega
theorem tg (b off j : Nat) : (⟨b, off, none⟩ : Addr).add j = ⟨b, off + j, none⟩ := by unfold Addr.add; split <;> simp_all
theorem qE {α : Type} {A : ab α} {w : World} {b off : Nat} {ys : List α} {rows : List (List Value)} {bls : List (List Nat)} (hn : 0 < A.n) (h : A.Rows w b off ys rows bls) :
  rows.flatten.length = ys.length * A.n ∧ ∀ j u, rows.flatten[j]? = some u → w.cell? ((⟨b, off, none⟩ : Addr).add j) = some u := by
 obtain ⟨h1, h2, h3⟩ := h
 have hl : ∀ r ∈ rows, r.length = A.n := fun r hr => by
  obtain ⟨j, hj, rfl⟩ := List.getElem_of_mem hr
  exact A.len (h3 j (by omega) hj (by omega)).2
 have hf := lH hl
 refine ⟨by rw [hf, h1], fun j u hu => ?_⟩
 have hj : j < rows.flatten.length := by
  rcases Nat.lt_or_ge j rows.flatten.length with hq | hq
  ·
   exact hq
  rw [List.getElem?_eq_none hq] at hu; simp at hu
 have hm : j % A.n < A.n := Nat.mod_lt _ hn
 have hd : j / A.n < rows.length := by
  rw [hf] at hj
  exact Nat.div_lt_of_lt_mul (by rw [Nat.mul_comm]; exact hj)
 have hjm : j / A.n * A.n + j % A.n = j := by rw [Nat.mul_comm]; exact Nat.div_add_mod j A.n
 have e1 := ab.jz hl (j / A.n) (j % A.n) hd hm
 rw [hjm, hu] at e1
 have e2 := (h3 (j / A.n) (by omega) hd (by omega)).1 (j % A.n) hm
 rw [tg, ← hjm, ← Nat.add_assoc, e2, ← e1]
theorem bU.more {α : Type} {A : ab α} {P : Program} {w : World} {base e : Nat} {v : Value} {rows : List (List Value)} {xs : List α} {bls : List (List Nat)} (hG : bU A w base e v rows xs bls)
  (hone : ∀ {w : World} {row : List Value} {x : α} {bl : List Nat}, A.bg w row x bl → ∀ u ∈ row, u.oneCell' = true) (hn0 : 0 < A.n)
  (t ty : TypeId) (i : TypeInfo) (z : Value) (bytes : Nat) (ht : P.underlying t = some (.slice e)) (hi : P.info? e = some i) (hz : i.zero = some z) (hsize : i.size = A.n) (hby : i.bytes = bytes) (hzs : z.cells.size = A.n)
  {X : Value} {ys : List α} (hX : (ab.sl A).cr w [X] ys 0 base) (hn : xs.length + ys.length ≤ 100000000) (hbytes : bytes ≤ 1000) (hbase : base ≤ w.heap.size) :
  ∃ v' w' rows' bls', (Builtin.append_ #[t, t] ty #[v, X]).run P w = .ok v' w' ∧ bU A w' base e v' rows' (xs ++ ys) bls' ∧ w.grownBy w' v.ownBlock ∧ (v'.ownBlock = v.ownBlock ∨ v'.ownBlock = some w.heap.size) := by
 have hml : xs.length + ys.length ≤ maxLen := by unfold maxLen; omega
 have hbb : (xs.length + ys.length) * bytes ≤ 140737488355328 := by have := Nat.mul_le_mul hn hbytes; omega
 have hown := hG.own
 obtain ⟨bl, ⟨ao, cap, hv, hcap, hcase⟩, hlt⟩ := hX
 obtain rfl : X = .slice ao ys.length cap := by simpa using hv
 rcases hcase with ⟨rfl, rfl⟩ | ⟨b, off, rowsY, blsY, rfl, hb, rfl, hR⟩
 ·
  have key : ∃ v' w', (Builtin.append_ #[t, t] ty #[v, .slice ao 0 cap]).run P w = .ok v' w' ∧ w'.ownsRow base e A.n v' (xs.length + 0) (rows.flatten ++ []) ∧ w.grownBy w' v.ownBlock ∧ (v'.ownBlock = v.ownBlock ∨ v'.ownBlock = some w.heap.size) := by
   cases ao with
   | none =>
    obtain ⟨v', w', r1, r2, r3, -, r5⟩ := run_append_own_at (P := P) w base t ty e i z A.n bytes ht hi hz hsize hby hzs hn0 v xs.length rows.flatten hown ⟨0, 0, none⟩ 0 cap [] (by simp) (by simp) (by simp) hml hbb hbase
    refine ⟨v', w', ?_, r2, r3, r5⟩
    rcases hown.2 with ⟨rfl, h0⟩ | ⟨g, cp, cur, rfl, _, _, hle, _⟩
    ·
     exact (iw _ _ _ i ht hi none 0 0 cap (Nat.le_refl _) w).trans r1
    exact (iw _ _ _ i ht hi _ _ cp cap hle w).trans r1
   | some ad =>
    obtain ⟨v', w', r1, r2, r3, -, r5⟩ := run_append_own_at (P := P) w base t ty e i z A.n bytes ht hi hz hsize hby hzs hn0 v xs.length rows.flatten hown ad 0 cap [] (by simp) (by simp) (by simp) hml hbb hbase
    exact ⟨v', w', r1, r2, r3, r5⟩
  obtain ⟨v', w', r1, r2, r3, r5⟩ := key
  refine ⟨v', w', rows, bls, r1, ?_, r3, r5⟩
  rw [List.append_nil] at r2 ⊢
  have hk : ∀ b ∈ bls.flatten, w'.heap[b]? = w.heap[b]? := fun b hm => r3.block b (hG.sub_lt b hm) (fun e => hG.off b hm e.symm)
  refine ⟨r2, hG.eH, hG.gp, fun j h1 h2 h3 => A.ai (hG.bg j h1 h2 h3) fun b hb => hk b (List.mem_flatten.2 ⟨_, List.getElem_mem _, hb⟩), fun b hm e => ?_⟩
  rcases r5 with r5 | r5
  ·
   exact hG.off b hm (r5.symm.trans e)
  rw [r5] at e
  have := hG.sub_lt b hm
  have := Option.some.inj e
  omega
 obtain ⟨hfl, hnews⟩ := qE hn0 hR
 have hR2 := hR
 obtain ⟨q1, q2, q3⟩ := hR2
 obtain ⟨v', w', r1, r2, r3, -, r5⟩ := run_append_own_at (P := P) w base t ty e i z A.n bytes ht hi hz hsize hby hzs hn0 v xs.length rows.flatten hown ⟨b, off, none⟩ ys.length cap rowsY.flatten hfl hnews (fun u hu => by
  obtain ⟨r, hr, hur⟩ := List.mem_flatten.1 hu
  obtain ⟨j, hj, rfl⟩ := List.getElem_of_mem hr
  exact hone (q3 j (by omega) hj (by omega)).2 u hur) hml hbb hbase
 have hkX : ∀ c ∈ blsY.flatten, c < base := fun c hc => (hlt c (List.mem_cons_of_mem _ hc)).2
 have hk : ∀ b ∈ bls.flatten, w'.heap[b]? = w.heap[b]? := fun b hm => r3.block b (hG.sub_lt b hm) (fun e => hG.off b hm e.symm)
 have hk2 : ∀ c ∈ blsY.flatten, w'.heap[c]? = w.heap[c]? := fun c hm => r3.block c (by have := hkX c hm; omega) (fun e => by
  have := (hown.lt c e.symm).1
  have := hkX c hm
  omega)
 refine ⟨v', w', rows ++ rowsY, bls ++ blsY, r1, ⟨?_, by simp [hG.eH, q1], by simp [hG.gp, q2], fun j h1 h2 h3 => ?_, ?_⟩, r3, r5⟩
 ·
  rw [List.flatten_append, List.length_append]
  exact r2
 ·
  by_cases hj : j < xs.length
  ·
   have ee := hG.bg j hj (by have := hG.eH; omega) (by have := hG.gp; omega)
   rw [List.getElem_append_left (by have := hG.eH; omega), List.getElem_append_left hj, List.getElem_append_left (by have := hG.gp; omega)]
   exact A.ai ee fun b hm => hk b (List.mem_flatten.2 ⟨_, List.getElem_mem _, hm⟩)
  have n1 := hG.eH
  have n2 := hG.gp
  have n3 : j - xs.length < ys.length := by simp at h1; omega
  rw [List.getElem_append_right (by omega), List.getElem_append_right (by omega), List.getElem_append_right (by omega)]
  have ee := (q3 (j - xs.length) n3 (by omega) (by omega)).2
  simp only [n1, n2]
  exact A.ai ee fun b hm => hk2 b (List.mem_flatten.2 ⟨_, List.getElem_mem _, hm⟩)
 intro c hm ee
 rw [List.flatten_append] at hm
 rcases r5 with r5 | r5
 ·
  rcases List.mem_append.1 hm with hm | hm
  ·
   exact hG.off c hm (r5.symm.trans ee)
  have := (hown.lt c (r5.symm.trans ee)).1
  have := hkX c hm
  omega
 rw [r5] at ee
 have := Option.some.inj ee
 rcases List.mem_append.1 hm with hm | hm
 ·
  have := hG.sub_lt c hm
  omega
 have := hkX c hm
 omega
theorem iP {w : World} {base : Nat} {v : Value} {rows : List (List Value)} {xs : List eG} {bls : List (List Nat)} (hG : bU ab.bq w base 224 v rows xs bls) {X : Value} {ys : List eG} (hX : (ab.sl ab.bq).cr w [X] ys 0 base) (hn : xs.length + ys.length ≤ 100000000) (hbase : base ≤ w.heap.size) (ty : TypeId) :
  ∃ v' w' rows' bls', (Builtin.append_ #[87, 87] ty #[v, X]).run Tryz.prog w = .ok v' w' ∧ bU ab.bq w' base 224 v' rows' (xs ++ ys) bls' ∧ w.grownBy w' v.ownBlock ∧ (v'.ownBlock = v.ownBlock ∨ v'.ownBlock = some w.heap.size) := by
 obtain ⟨i0, hi0, hz0, hz1, hz2⟩ := info_parts oj
 exact hG.more (fun h => (tU h).1) (by decide) 87 ty i0 _ 16 Tryz.underlying87 hi0 hz0 hz1 hz2 rfl hX hn (by omega) hbase
theorem eK {w : World} {base : Nat} {v : Value} {rows : List (List Value)} {xs : List eG} {bls : List (List Nat)} (hG : bU ab.bq w base 224 v rows xs bls) {X : Value} {ys : List eG} (hX : (ab.sl ab.bq).cr w [X] ys 0 base) {ops : Array Oper} {rest : List Oper} {o : Oper} {a : Act} {Q : Exit → Act → World → Prop} (hgd : o.guard = none) (s y : Operand)
  (ho : o.op = .call { callee := .builtin .append, args := #[s, y], argTypes := #[87, 87] }) (hs : a.eval s = v) (hy : a.eval y = X) (hn : xs.length + ys.length ≤ 100000000) (hbase : base ≤ w.heap.size)
  (h : ∀ a' m' cap' w' rows' bls', bU ab.bq w' base 224 (.slice a' m' cap') rows' (xs ++ ys) bls' → Below base w w' → m' = xs.length + ys.length → w.heap.size ≤ w'.heap.size → wpList Tryz.prog ops Q rest (a.put o.dst (.slice a' m' cap')) w') :
  wpList Tryz.prog ops Q (o :: rest) a w := by
 refine wpList_plain hgd fun K hK => ?_
 obtain ⟨v', w', rows', bls', hr, h2, h3, h4⟩ := iP hG hX hn hbase o.type
 unfold Oper.wp execOp
 simp only [ho, resolve, invoke, builtin, Sem.run_bind, Sem.run_pure, Result.andThen_ok, List.map_toArray, List.map_cons, List.map_nil, hs, hy, hr]
 have hbw : Below base w w' := (Below.refl _ _).grown h3 hbase (fun j hj => (hG.own.lt j hj).1)
 rcases h2.form with ⟨rfl, h0⟩ | ⟨g, cap, rfl, hg, hgl, hcap⟩
 ·
  refine hK _ _ (h _ _ _ w' rows' bls' h2 hbw ?_ hbw.size)
  have : (xs ++ ys).length = 0 := by rw [h0]; rfl
  rw [List.length_append] at this
  omega
 exact hK _ _ (h _ _ _ w' rows' bls' h2 hbw (by rw [List.length_append]) hbw.size)
theorem vp {w : World} {row : List Value} {x : eG} {bl : List Nat} (h : ab.bq.bg w row x bl) : bl = [] := by
 obtain ⟨rfl, -⟩ := (cS.1 h).2
 rfl
theorem qB {w : World} {base T : Nat} {v : Value} {rows : List (List Value)} {xs : List eG} {bls : List (List Nat)} (h : bU ab.bq w base T v rows xs bls) : bls.flatten = [] := by
 rw [List.flatten_eq_nil_iff]
 intro l hl
 obtain ⟨j, hj, rfl⟩ := List.getElem_of_mem hl
 have n1 := h.gp
 have n2 := h.eH
 exact vp (h.bg j (by omega) (by omega) hj)
theorem oI (d : Nat) (w : World) : Calls Tryz.prog 221 #[.slice none 0 d] w fun e w' => e = .returned (.slice none 0 0) ∧ Below w.heap.size w w' := by
 have hnil : ∀ w : World, (binOp .eql 87 (.slice none 0 d) (.slice none 0 0)).run Tryz.prog w = .ok (.bool true) w := fun _ => by kernel_rfl
 go_enter Tryz.func221, Tryz.ntmps221
 go_wp2_with fail
 go_ret
 exact ⟨rfl, Below.refl _ _⟩
theorem uX (v : Value) (zs : List eG) (w : World) (h : (ab.sl ab.bq).Reads w [v] zs) (hn : zs.length ≤ 10000000) :
  Calls Tryz.prog 221 #[v] w fun e w' => ∃ a c, e = .returned (.slice a zs.length c) ∧ (ab.sl ab.bq).aN w' [.slice a zs.length c] zs w.heap.size w'.heap.size ∧ Below w.heap.size w w' := by
 obtain ⟨ao, cap, rfl⟩ := aI h
 cases ao with
 | none =>
  have h0 : zs = [] := by
   by_cases hp : 0 < zs.length
   ·
    obtain ⟨b, off, e, -⟩ := ab.aS h hp
    cases e
   exact List.eq_nil_of_length_eq_zero (by omega)
  subst h0
  refine (oI cap w).mono ?_
  rintro e w' ⟨rfl, hb⟩
  exact ⟨none, 0, rfl, fO, hb⟩
 | some ad =>
  have nb : Below w.heap.size w (w.alloc (.cells #[] 224)) := (Below.refl _ _).alloc (Nat.le_refl _) _
  have O : (w.alloc (.cells #[] 224)).ownsRow w.heap.size 224 2 (.slice (some ⟨w.heap.size, 0, none⟩) 0 0) 0 [] := World.ownsRow_lit w _ 0 (Nat.le_refl _) (by unfold maxLen; omega) rfl
  have G : bU ab.bq (w.alloc (.cells #[] 224)) w.heap.size 224 (.slice (some ⟨w.heap.size, 0, none⟩) 0 0) [] [] [] := bU.nil O
  have h1 := h.dd.later nb
  have HB := yh nb
  have HN := yh hn
  have hnil : ∀ w : World, (binOp .eql 87 (.slice (some ad) zs.length cap) (.slice none 0 0)).run Tryz.prog w = .ok (.bool false) w := fun _ => by kernel_rfl
  clear nb h O
  go_enter Tryz.func221, Tryz.ntmps221
  go_wp2_with (at_builtin; refine eK G h1 rfl _ _ rfl rfl rfl ?hn1 ?hn2 ?_)
  case hn1 => have := uh HN; simp; omega
  case hn2 => simp
  rintro a' m' cap' w' rows' bls' G2 hb hm -
  obtain rfl : m' = zs.length := by simpa using hm
  have hfl := qB G2
  have HO : Hid ((ab.sl ab.bq).aN w' [.slice a' zs.length cap'] zs w.heap.size w'.heap.size) := G2.uI (by have := uh HN; omega) (by rw [hfl]; simp) (by rw [hfl]; simp)
  have HB2 := yh ((uh HB).trans (hb.mono (Nat.le_refl _)))
  clear G h1 hb HB G2 hfl hm
  go_wp2_with fail
  go_ret
  exact ⟨a', cap', rfl, uh HO, uh HB2⟩
theorem sy {w : World} {cs : List Value} {x : bj} (h : ab.ar.Reads w cs x) : (Lit.int .i64 x.kind).wf = true ∧ (Lit.int .i64 x.aa).wf = true ∧ (Lit.int .i64 x.seq).wf = true ∧ (Lit.int .i64 x.id).wf = true ∧ (Lit.int .i64 x.k).wf = true ∧ (Lit.int .i64 x.start).wf = true ∧ (Lit.int .i64 x.fin).wf = true ∧ (Lit.int .i64 x.place).wf = true := by
 obtain ⟨bl, h⟩ := h
 obtain ⟨_, _, _, _, _, _, _, _, _, -, -, w0, w1, w2, w3, -, w5, w6, w7, w8, -, -⟩ := dj.1 h
 exact ⟨w0, w1, w2, w3, w5, w6, w7, w8⟩
theorem oL {w : World} {x : bj} {v u s : Value} {l0 h0 l1 h1 l2 h2 : Nat} (p : (ab.sl ab.int).aN w [v] x.query l0 h0) (q : (ab.sl ab.int).aN w [u] x.vec l1 h1) (r : (ab.sl ab.bq).aN w [s] x.aY l2 h2) (e1 : h0 ≤ l1) (e2 : h1 ≤ l2) (e3 : l0 ≤ l1) (e4 : l1 ≤ l2) (e5 : h1 ≤ h2) (e6 : h0 ≤ h2) (hw : (Lit.int .i64 x.kind).wf = true ∧ (Lit.int .i64 x.aa).wf = true ∧ (Lit.int .i64 x.seq).wf = true ∧ (Lit.int .i64 x.id).wf = true ∧ (Lit.int .i64 x.k).wf = true ∧ (Lit.int .i64 x.start).wf = true ∧ (Lit.int .i64 x.fin).wf = true ∧ (Lit.int .i64 x.place).wf = true) :
  ab.ar.aN w [.int .i64 x.kind, .int .i64 x.aa, .int .i64 x.seq, .int .i64 x.id, v, .int .i64 x.k, .int .i64 x.start, .int .i64 x.fin, .int .i64 x.place, u, s] x l0 h2 := by
 obtain ⟨b1, O1, i1⟩ := p
 obtain ⟨b2, O2, i2⟩ := q
 obtain ⟨b3, O3, i3⟩ := r
 obtain ⟨w0, w1, w2, w3, w5, w6, w7, w8⟩ := hw
 refine ⟨b1 ++ (b2 ++ b3), iX O1 O2 O3 w0 w1 w2 w3 w5 w6 w7 w8 ?_, ?_⟩
 ·
  rw [List.nodup_append, List.nodup_append]
  refine ⟨O1.2.1, ⟨O2.2.1, O3.2.1, fun a ha c hc e => ?_⟩, fun a ha c hc e => ?_⟩
  ·
   have := i2 a ha; have := i3 c hc; omega
  have := i1 a ha
  rcases List.mem_append.1 hc with hc | hc
  ·
   have := i2 c hc; omega
  have := i3 c hc; omega
 intro a ha
 rcases List.mem_append.1 ha with ha | ha
 ·
  have := i1 a ha; omega
 rcases List.mem_append.1 ha with ha | ha
 ·
  have := i2 a ha; omega
 have := i3 a ha; omega
theorem oz : (Tryz.prog.info? 89).map (fun i => (i.zero, i.size, decide (i.bytes ≤ 1000))) = some (some (.agg #[.int .i64 0, .int .i64 0, .int .i64 0, .int .i64 0, .slice none 0 0, .int .i64 0, .int .i64 0, .int .i64 0, .int .i64 0, .slice none 0 0, .slice none 0 0]), 11, true) := by kernel_rfl
theorem jR (v : Value) (xs : List bj) (w : World) (h : (ab.sl ab.ar).Reads w [v] xs) (hlen : xs.length ≤ 1000000) (hv : ∀ x ∈ xs, x.query.length ≤ 10000000 ∧ x.vec.length ≤ 10000000 ∧ x.aY.length ≤ 10000000) :
  Calls Tryz.prog 200 #[v] w fun e w' => ∃ (g : Nat), e = .returned (.slice (some ⟨g, 0, none⟩) xs.length xs.length) ∧ (ab.sl ab.ar).aN w' [.slice (some ⟨g, 0, none⟩) xs.length xs.length] xs w.heap.size w'.heap.size ∧ Below w.heap.size w w' := by
 have hbig := h.et
 obtain ⟨ao, cap, rfl⟩ := aI h
 obtain ⟨i0, hi, hz0, hz1, hz2⟩ : ∃ i, Tryz.prog.info? 89 = some i ∧ i.zero = some (.agg #[.int .i64 0, .int .i64 0, .int .i64 0, .int .i64 0, .slice none 0 0, .int .i64 0, .int .i64 0, .int .i64 0, .int .i64 0, .slice none 0 0, .slice none 0 0]) ∧ i.size = 11 ∧ i.bytes ≤ 1000 := by
  have := oz
  cases hq : Tryz.prog.info? 89 with
  | none => rw [hq] at this; simp at this
  | some i =>
   rw [hq] at this
   simp only [Option.map_some, Option.some.injEq, Prod.mk.injEq, decide_eq_true_eq] at this
   exact ⟨i, rfl, this.1, this.2.1, this.2.2⟩
 have H := yh h
 have HN := yh hv
 clear h hv
 go_enter Tryz.func200, Tryz.ntmps200
 go_wp2_with (at_make; refine wpList_make_full _ rfl _ _ 37 rfl w.heap.size 89 i0 _ 11 Tryz.underlying37 hi hz0 hz1 _ _ _ _ xs.length rfl rfl rfl rfl ?c1 ?c2 ?c3 ?_)
 case c1 => have := Nat.mul_le_mul hz2 hlen; omega
 case c2 => unfold maxLen; omega
 case c3 => exact Nat.le_refl _
 intro w1 hown1 hgrow1
 have hB1 : Below w.heap.size w w1 := (Below.refl _ _).grown hgrow1 (Nat.le_refl _) (by simp)
 clear hgrow1 hi hz0 hz1 hz2
 have HO1 := yh hown1
 have HB1 := yh hB1
 clear hown1 hB1
 go_wp2_with fail
 go_loopw [11] (fun i wr => ∃ (k : Nat) (rows : List (List Value)) (Q : List Value) (hi : Nat), k ≤ xs.length ∧ i = .int .i64 k ∧ wr.ownsRow w.heap.size 89 11 (.slice (some ⟨w.heap.size, 0, none⟩) xs.length xs.length) xs.length (rows.flatten ++ Q) ∧ Q.length = (xs.length - k) * 11 ∧ ab.gj ab.ar wr rows (xs.take k) (w.heap.size + 1) hi ∧ hi ≤ wr.heap.size ∧ w.heap.size < hi ∧ Below w.heap.size w wr) (fun i _ => xs.length - (intOf i).toNat)
 case atStart =>
  have hl := ((uh HO1).lt w.heap.size rfl).2
  exact ⟨0, [], _, w1.heap.size, Nat.zero_le _, rfl, by simpa using uh HO1, by have := (uh HO1).1; simpa using this, ab.ek, Nat.le_refl _, hl, uh HB1⟩
 case round =>
  obtain ⟨k, rows, Q, hi, hk, rfl, hown, hQ, hsub, hhi, hlo, hB⟩ := hrel
  clear HO1 HB1
  by_cases hlt : k < xs.length
  ·
   obtain ⟨b, off, rfl, hbl⟩ := ab.aS (uh H) (by omega)
   obtain ⟨row, hc, hr⟩ := ab.bE (uh H) hlt
   replace hr := hr.later hB
   have hr2 := hr
   obtain ⟨aq, dq, av, dv, ah, dh, rfl, R0, R1, R2⟩ := cd hr2
   have c0 : wr.cell? ⟨b, off + k * 11, none⟩ = some (.int .i64 (xs[k]).kind) := (hB.cell (p := ⟨b, off + k * 11, none⟩) hbl).trans (hc 0 (by decide))
   have c1 : wr.cell? ⟨b, off + k * 11 + 1, none⟩ = some (.int .i64 (xs[k]).aa) := (hB.cell (p := ⟨b, off + k * 11 + 1, none⟩) hbl).trans (hc 1 (by decide))
   have c2 : wr.cell? ⟨b, off + k * 11 + 2, none⟩ = some (.int .i64 (xs[k]).seq) := (hB.cell (p := ⟨b, off + k * 11 + 2, none⟩) hbl).trans (hc 2 (by decide))
   have c3 : wr.cell? ⟨b, off + k * 11 + 3, none⟩ = some (.int .i64 (xs[k]).id) := (hB.cell (p := ⟨b, off + k * 11 + 3, none⟩) hbl).trans (hc 3 (by decide))
   have c4 : wr.cell? ⟨b, off + k * 11 + 4, none⟩ = some (.slice aq (xs[k]).query.length dq) := (hB.cell (p := ⟨b, off + k * 11 + 4, none⟩) hbl).trans (hc 4 (by decide))
   have c5 : wr.cell? ⟨b, off + k * 11 + 5, none⟩ = some (.int .i64 (xs[k]).k) := (hB.cell (p := ⟨b, off + k * 11 + 5, none⟩) hbl).trans (hc 5 (by decide))
   have c6 : wr.cell? ⟨b, off + k * 11 + 6, none⟩ = some (.int .i64 (xs[k]).start) := (hB.cell (p := ⟨b, off + k * 11 + 6, none⟩) hbl).trans (hc 6 (by decide))
   have c7 : wr.cell? ⟨b, off + k * 11 + 7, none⟩ = some (.int .i64 (xs[k]).fin) := (hB.cell (p := ⟨b, off + k * 11 + 7, none⟩) hbl).trans (hc 7 (by decide))
   have c8 : wr.cell? ⟨b, off + k * 11 + 8, none⟩ = some (.int .i64 (xs[k]).place) := (hB.cell (p := ⟨b, off + k * 11 + 8, none⟩) hbl).trans (hc 8 (by decide))
   have c9 : wr.cell? ⟨b, off + k * 11 + 9, none⟩ = some (.slice av (xs[k]).vec.length dv) := (hB.cell (p := ⟨b, off + k * 11 + 9, none⟩) hbl).trans (hc 9 (by decide))
   have c10 : wr.cell? ⟨b, off + k * 11 + 10, none⟩ = some (.slice ah (xs[k]).aY.length dh) := (hB.cell (p := ⟨b, off + k * 11 + 10, none⟩) hbl).trans (hc 10 (by decide))
   have hrl : rows.flatten.length = k * 11 := by have := (ab.eh hsub).1; rw [List.length_take, Nat.min_eq_left hk] at this; exact this
   have hvl := uh HN xs[k] (List.getElem_mem hlt)
   have HT : Hid (xs.take (k + 1) = xs.take k ++ [xs[k]]) := List.take_succ_eq_append_getElem hlt
   have HB := yh hB
   have HO := yh hown
   have HS := yh hsub
   have HQ := yh hQ
   have HWF := yh (sy hr)
   have HVL := yh hvl
   have HR0 := yh R0
   have HR1 := yh R1
   have HR2 := yh R2
   clear hB hr hc hown hsub hQ hr2 hvl R0 R1 R2
   generalize hxk : xs[k] = x at *
   clear hxk
   have hbr : b < wr.heap.size := Nat.lt_of_lt_of_le hbl (uh HB).size
   have nb : Below wr.heap.size wr (wr.alloc (.cells #[.int .i64 x.kind, .int .i64 x.aa, .int .i64 x.seq, .int .i64 x.id, .slice aq x.query.length dq, .int .i64 x.k, .int .i64 x.start, .int .i64 x.fin, .int .i64 x.place, .slice av x.vec.length dv, .slice ah x.aY.length dh] 89)) := (Below.refl _ _).alloc (Nat.le_refl _) _
   have HX : Hid (aA 0 #[.int .i64 x.kind, .int .i64 x.aa, .int .i64 x.seq, .int .i64 x.id, .slice aq x.query.length dq, .int .i64 x.k, .int .i64 x.start, .int .i64 x.fin, .int .i64 x.place, .slice av x.vec.length dv, .slice ah x.aY.length dh] 89 (wr.alloc (.cells #[.int .i64 x.kind, .int .i64 x.aa, .int .i64 x.seq, .int .i64 x.id, .slice aq x.query.length dq, .int .i64 x.k, .int .i64 x.start, .int .i64 x.fin, .int .i64 x.place, .slice av x.vec.length dv, .slice ah x.aY.length dh] 89)) wr.heap.size) := aD (Nat.zero_le _)
   have hz0 : (wr.alloc (.cells #[.int .i64 x.kind, .int .i64 x.aa, .int .i64 x.seq, .int .i64 x.id, .slice aq x.query.length dq, .int .i64 x.k, .int .i64 x.start, .int .i64 x.fin, .int .i64 x.place, .slice av x.vec.length dv, .slice ah x.aY.length dh] 89)).heap.size = wr.heap.size + 1 := by simp
   have HV := yh nb
   clear nb
   go_upto_region 5 with fail
   generalize wr.alloc (.cells #[.int .i64 x.kind, .int .i64 x.aa, .int .i64 x.seq, .int .i64 x.id, .slice aq x.query.length dq, .int .i64 x.k, .int .i64 x.start, .int .i64 x.fin, .int .i64 x.place, .slice av x.vec.length dv, .slice ah x.aY.length dh] 89) = W0 at *
   clear c0 c1 c2 c3 c4 c5 c6 c7 c8 c9 c10
   have hx := uh HX
   have y4 := aA.at hx 4 _ rfl
   have yf := aA.soft hx
   have yl := hx.lt
   simp only [ga, gb, gc] at y4
   have HC := yh (kq _ x.query W0 ((uh HR0).later (uh HV)) (uh HVL).1)
   clear hx
   go_wp2_with fail
   refine (uh HC).mono ?_
   rintro e v1 ⟨p1, n1, q1, rfl, ⟨O, rfl⟩, hb⟩
   have hz1 : W0.heap.size ≤ v1.heap.size := hb.size
   have hx := (uh HX).ai hb
   clear y4 yf yl
   have y4 := aA.at hx 4 _ rfl
   have yf := aA.soft hx
   have yl := hx.lt
   simp only [ga, gb, gc] at y4
   have hv := (uh HV).trans (hb.mono (uh HV).size)
   replace HV := yh (hv.setCell (p := ⟨wr.heap.size, 4, none⟩) (Nat.le_refl _) (.slice p1 x.query.length q1))
   have hx2 := aA.set hx 4 (.slice p1 x.query.length q1)
   simp only [List.setIfInBounds_toArray, List.set_cons_zero, List.set_cons_succ] at hx2
   replace HX := yh hx2
   have e1 : Ext (fun q => q = wr.heap.size) v1 (v1.setCell ⟨wr.heap.size, 4, none⟩ (.slice p1 x.query.length q1)) := (Ext.refl _ _).setCell _ _ rfl
   have P0 := yh (O.ext e1 (fun q h1 h2 h3 => by omega))
   have hz1' : (v1.setCell ⟨wr.heap.size, 4, none⟩ (.slice p1 x.query.length q1)).heap.size = v1.heap.size := by simp
   clear hx hx2 e1 hv O hb HC
   go_upto_region 6 with fail
   generalize hW : v1.setCell ⟨wr.heap.size, 4, none⟩ (.slice p1 x.query.length q1) = W1 at *
   clear hW y4 yf yl
   have hx := uh HX
   have y9 := aA.at hx 9 _ rfl
   have yf := aA.soft hx
   have yl := hx.lt
   simp only [ga, gb, gc] at y9
   have HC := yh (kq _ x.vec W1 ((uh HR1).later (uh HV)) (uh HVL).2.1)
   clear hx
   go_wp2_with fail
   refine (uh HC).mono ?_
   rintro e v2 ⟨p2, n2, q2, rfl, ⟨O, rfl⟩, hb⟩
   have hz2 : W1.heap.size ≤ v2.heap.size := hb.size
   have hx := (uh HX).ai hb
   clear y9 yf yl
   have y9 := aA.at hx 9 _ rfl
   have yf := aA.soft hx
   have yl := hx.lt
   simp only [ga, gb, gc] at y9
   have hv := (uh HV).trans (hb.mono (uh HV).size)
   replace HV := yh (hv.setCell (p := ⟨wr.heap.size, 9, none⟩) (Nat.le_refl _) (.slice p2 x.vec.length q2))
   have hx2 := aA.set hx 9 (.slice p2 x.vec.length q2)
   simp only [List.setIfInBounds_toArray, List.set_cons_zero, List.set_cons_succ] at hx2
   replace HX := yh hx2
   have e2 : Ext (fun q => q = wr.heap.size) v2 (v2.setCell ⟨wr.heap.size, 9, none⟩ (.slice p2 x.vec.length q2)) := (Ext.refl _ _).setCell _ _ rfl
   replace P0 := yh (((uh P0).later hb).ext e2 (fun q h1 h2 h3 => by omega))
   have P1 := yh (O.ext e2 (fun q h1 h2 h3 => by omega))
   have hz2' : (v2.setCell ⟨wr.heap.size, 9, none⟩ (.slice p2 x.vec.length q2)).heap.size = v2.heap.size := by simp
   clear hx hx2 e2 hv O hb HC
   go_upto_region 7 with fail
   generalize hW : v2.setCell ⟨wr.heap.size, 9, none⟩ (.slice p2 x.vec.length q2) = W2 at *
   clear hW y9 yf yl
   have hx := uh HX
   have y10 := aA.at hx 10 _ rfl
   have yf := aA.soft hx
   have yl := hx.lt
   simp only [ga, gb, gc] at y10
   have HC := yh (uX _ x.aY W2 ((uh HR2).later (uh HV)) (uh HVL).2.2)
   clear hx
   go_wp2_with fail
   refine (uh HC).mono ?_
   rintro e v3 ⟨p3, q3, rfl, O, hb⟩
   have hz3 : W2.heap.size ≤ v3.heap.size := hb.size
   have hx := (uh HX).ai hb
   clear y10 yf yl
   have y10 := aA.at hx 10 _ rfl
   have yf := aA.soft hx
   have yl := hx.lt
   simp only [ga, gb, gc] at y10
   have hv := (uh HV).trans (hb.mono (uh HV).size)
   replace HV := yh (hv.setCell (p := ⟨wr.heap.size, 10, none⟩) (Nat.le_refl _) (.slice p3 x.aY.length q3))
   have hx2 := aA.set hx 10 (.slice p3 x.aY.length q3)
   simp only [List.setIfInBounds_toArray, List.set_cons_zero, List.set_cons_succ] at hx2
   replace HX := yh hx2
   have e3 : Ext (fun q => q = wr.heap.size) v3 (v3.setCell ⟨wr.heap.size, 10, none⟩ (.slice p3 x.aY.length q3)) := (Ext.refl _ _).setCell _ _ rfl
   replace P0 := yh (((uh P0).later hb).ext e3 (fun q h1 h2 h3 => by omega))
   replace P1 := yh (((uh P1).later hb).ext e3 (fun q h1 h2 h3 => by omega))
   have P2 := yh (O.ext e3 (fun q h1 h2 h3 => by omega))
   have hz3' : (v3.setCell ⟨wr.heap.size, 10, none⟩ (.slice p3 x.aY.length q3)).heap.size = v3.heap.size := by simp
   clear hx hx2 e3 hv O hb HC
   go_upto_region 8 with fail
   generalize hW : v3.setCell ⟨wr.heap.size, 10, none⟩ (.slice p3 x.aY.length q3) = W3 at *
   clear hW y10 yf yl
   have hx := uh HX
   obtain ⟨y0, y1, y2, y3, y4, y5, y6, y7, y8, y9, y10⟩ := aZ11 hx
   have yl := hx.lt
   clear hx
   have hb3 : Below wr.heap.size wr W3 := uh HV
   have o2 := de (uh HO) hb3
   have O := oL (uh P0) (uh P1) (uh P2) (by omega) (by omega) (by omega) (by omega) (by omega) (by omega) (uh HWF)
   replace HS := yh (ab.dK (ab.cC (uh HS) (az hb3 dz) (fun _ _ _ h => h)) O (by omega) (by omega) (by omega))
   have hb2 := (uh HB).trans (hb3.mono (uh HB).size)
   have hxw : w.heap.size < wr.heap.size := by omega
   have hwz := hb3.size
   clear HB HO O HV hb3 P0 P1 P2
   have hQ := uh HQ
   have hl5 : (rows.flatten ++ Q).length = xs.length * 11 := o2.1
   obtain ⟨u0, g0⟩ : ∃ u, W3.cell? ⟨w.heap.size, k * 11, none⟩ = some u := by
    rw [o2.cellAt (k * 11) (by omega)]
    exact gZ (by omega)
   have t0 := o2.frozenAt (k * 11)
   obtain ⟨u1, g1⟩ : ∃ u, W3.cell? ⟨w.heap.size, k * 11 + 1, none⟩ = some u := by
    rw [o2.cellAt (k * 11 + 1) (by omega)]
    exact gZ (by omega)
   have t1 := o2.frozenAt (k * 11 + 1)
   obtain ⟨u2, g2⟩ : ∃ u, W3.cell? ⟨w.heap.size, k * 11 + 2, none⟩ = some u := by
    rw [o2.cellAt (k * 11 + 2) (by omega)]
    exact gZ (by omega)
   have t2 := o2.frozenAt (k * 11 + 2)
   obtain ⟨u3, g3⟩ : ∃ u, W3.cell? ⟨w.heap.size, k * 11 + 3, none⟩ = some u := by
    rw [o2.cellAt (k * 11 + 3) (by omega)]
    exact gZ (by omega)
   have t3 := o2.frozenAt (k * 11 + 3)
   obtain ⟨u4, g4⟩ : ∃ u, W3.cell? ⟨w.heap.size, k * 11 + 4, none⟩ = some u := by
    rw [o2.cellAt (k * 11 + 4) (by omega)]
    exact gZ (by omega)
   have t4 := o2.frozenAt (k * 11 + 4)
   obtain ⟨u5, g5⟩ : ∃ u, W3.cell? ⟨w.heap.size, k * 11 + 5, none⟩ = some u := by
    rw [o2.cellAt (k * 11 + 5) (by omega)]
    exact gZ (by omega)
   have t5 := o2.frozenAt (k * 11 + 5)
   obtain ⟨u6, g6⟩ : ∃ u, W3.cell? ⟨w.heap.size, k * 11 + 6, none⟩ = some u := by
    rw [o2.cellAt (k * 11 + 6) (by omega)]
    exact gZ (by omega)
   have t6 := o2.frozenAt (k * 11 + 6)
   obtain ⟨u7, g7⟩ : ∃ u, W3.cell? ⟨w.heap.size, k * 11 + 7, none⟩ = some u := by
    rw [o2.cellAt (k * 11 + 7) (by omega)]
    exact gZ (by omega)
   have t7 := o2.frozenAt (k * 11 + 7)
   obtain ⟨u8, g8⟩ : ∃ u, W3.cell? ⟨w.heap.size, k * 11 + 8, none⟩ = some u := by
    rw [o2.cellAt (k * 11 + 8) (by omega)]
    exact gZ (by omega)
   have t8 := o2.frozenAt (k * 11 + 8)
   obtain ⟨u9, g9⟩ : ∃ u, W3.cell? ⟨w.heap.size, k * 11 + 9, none⟩ = some u := by
    rw [o2.cellAt (k * 11 + 9) (by omega)]
    exact gZ (by omega)
   have t9 := o2.frozenAt (k * 11 + 9)
   obtain ⟨u10, g10⟩ : ∃ u, W3.cell? ⟨w.heap.size, k * 11 + 10, none⟩ = some u := by
    rw [o2.cellAt (k * 11 + 10) (by omega)]
    exact gZ (by omega)
   have t10 := o2.frozenAt (k * 11 + 10)
   have o3 := di o2 (k * 11) [.int .i64 x.kind, .int .i64 x.aa, .int .i64 x.seq, .int .i64 x.id, .slice p1 x.query.length q1, .int .i64 x.k, .int .i64 x.start, .int .i64 x.fin, .int .i64 x.place, .slice p2 x.vec.length q2, .slice p3 x.aY.length q3]
   rw [show k * 11 = rows.flatten.length from hrl.symm, cY _ _ _ (by rw [hQ]; simp; have : 1 * 11 ≤ (xs.length - k) * 11 := Nat.mul_le_mul_right _ (by omega); omega), hrl] at o3
   have E : Ext (fun q => q = w.heap.size) W3 (aG W3 w.heap.size (k * 11) [.int .i64 x.kind, .int .i64 x.aa, .int .i64 x.seq, .int .i64 x.id, .slice p1 x.query.length q1, .int .i64 x.k, .int .i64 x.start, .int .i64 x.fin, .int .i64 x.place, .slice p2 x.vec.length q2, .slice p3 x.aY.length q3]) := bb _ (Ext.refl _ _) _ _ _ rfl
   replace HS := yh (ab.cC (uh HS) E (fun q h1 h2 h3 => by omega))
   have HB := yh (aB hb2 w.heap.size (k * 11) [.int .i64 x.kind, .int .i64 x.aa, .int .i64 x.seq, .int .i64 x.id, .slice p1 x.query.length q1, .int .i64 x.k, .int .i64 x.start, .int .i64 x.fin, .int .i64 x.place, .slice p2 x.vec.length q2, .slice p3 x.aY.length q3] (Nat.le_refl _))
   have HZ : Hid ((aG W3 w.heap.size (k * 11) [.int .i64 x.kind, .int .i64 x.aa, .int .i64 x.seq, .int .i64 x.id, .slice p1 x.query.length q1, .int .i64 x.k, .int .i64 x.start, .int .i64 x.fin, .int .i64 x.place, .slice p2 x.vec.length q2, .slice p3 x.aY.length q3]).heap.size = v3.heap.size) := (bL _ _ _ _).trans hz3'
   have HO : Hid ((aG W3 w.heap.size (k * 11) [.int .i64 x.kind, .int .i64 x.aa, .int .i64 x.seq, .int .i64 x.id, .slice p1 x.query.length q1, .int .i64 x.k, .int .i64 x.start, .int .i64 x.fin, .int .i64 x.place, .slice p2 x.vec.length q2, .slice p3 x.aY.length q3]).ownsRow w.heap.size 89 11 (.slice (some ⟨w.heap.size, 0, none⟩) xs.length xs.length) xs.length ((rows ++ [([.int .i64 x.kind, .int .i64 x.aa, .int .i64 x.seq, .int .i64 x.id, .slice p1 x.query.length q1, .int .i64 x.k, .int .i64 x.start, .int .i64 x.fin, .int .i64 x.place, .slice p2 x.vec.length q2, .slice p3 x.aY.length q3] : List Value)]).flatten ++ Q.drop 11)) := by
    show (aG W3 w.heap.size (k * 11) [.int .i64 x.kind, .int .i64 x.aa, .int .i64 x.seq, .int .i64 x.id, .slice p1 x.query.length q1, .int .i64 x.k, .int .i64 x.start, .int .i64 x.fin, .int .i64 x.place, .slice p2 x.vec.length q2, .slice p3 x.aY.length q3]).ownsRow w.heap.size 89 11 (.slice (some ⟨w.heap.size, 0, none⟩) xs.length xs.length) xs.length ((rows ++ [([.int .i64 x.kind, .int .i64 x.aa, .int .i64 x.seq, .int .i64 x.id, .slice p1 x.query.length q1, .int .i64 x.k, .int .i64 x.start, .int .i64 x.fin, .int .i64 x.place, .slice p2 x.vec.length q2, .slice p3 x.aY.length q3] : List Value)]).flatten ++ Q.drop 11)
    rw [List.flatten_append]
    simpa using o3
   have hl2 := (o2.lt w.heap.size rfl).2
   clear o3 o2 E hb2 hl5
   have hQ2 : Hid ((Q.drop 11).length = (xs.length - (k + 1)) * 11) := by
    show (Q.drop 11).length = (xs.length - (k + 1)) * 11
    rw [List.length_drop, hQ, show xs.length - k = xs.length - (k + 1) + 1 by omega, Nat.add_mul]
    omega
   have HW2 : Hid (w.heap.size < v3.heap.size) := by show w.heap.size < v3.heap.size; omega
   clear hQ HQ hz0 HX hz1 hz1' hz2 hz2' hz3 hz3'
   go_wp2_with fail
   go_roundw
   case rel => exact ⟨k + 1, rows ++ [([.int .i64 x.kind, .int .i64 x.aa, .int .i64 x.seq, .int .i64 x.id, .slice p1 x.query.length q1, .int .i64 x.k, .int .i64 x.start, .int .i64 x.fin, .int .i64 x.place, .slice p2 x.vec.length q2, .slice p3 x.aY.length q3] : List Value)], Q.drop 11, v3.heap.size, by omega, by go_num, uh HO, uh hQ2, (by rw [uh HT]; exact uh HS), Nat.le_of_eq (uh HZ).symm, uh HW2, uh HB⟩
   case measure => simp [intOf]; omega
  obtain rfl : k = xs.length := by omega
  have e0 : Q = [] := List.eq_nil_of_length_eq_zero (by rw [hQ]; simp)
  subst e0
  rw [List.append_nil] at hown
  rw [List.take_length] at hsub
  have HO := yh (ab.dJ (A := ab.ar) hown hsub (by omega) hhi hbig)
  have HB := yh hB
  clear hown hsub hB
  go_wp2_with fail
  go_ret
  exact ⟨_, rfl, uh HO, uh HB⟩
theorem sE : (Tryz.prog.info? 60).map (fun i => (i.zero, i.size, decide (i.bytes ≤ 1000))) = some (some (.agg #[.int .i64 0, .int .i64 0, .int .i64 0, .int .i64 0, .int .i64 0, .int .i64 0, .int .i64 0, .slice none 0 0, .int .i64 0, .int .i64 0]), 10, true) := by kernel_rfl
theorem vh {w : World} {cs : List Value} {x : bP} (h : ab.aQ.Reads w cs x) : (Lit.int .i64 x.kind).wf = true ∧ (Lit.int .i64 x.ae).wf = true ∧ (Lit.int .i64 x.src).wf = true ∧ (Lit.int .i64 x.dst).wf = true ∧ (Lit.int .i64 x.index).wf = true ∧ (Lit.int .i64 x.write.kind).wf = true ∧ (Lit.int .i64 x.write.id).wf = true ∧ (Lit.int .i64 x.write.aa).wf = true ∧ (Lit.int .i64 x.write.seq).wf = true := by
 obtain ⟨bl, h⟩ := h
 obtain ⟨a7, d7, b7, -, -, w0, w1, w2, w3, w4, w5, w6, -, w8, w9⟩ := eC.1 h
 exact ⟨w0, w1, w2, w3, w4, w5, w6, w8, w9⟩
theorem tr {w : World} {x : bP} {v : Value} {lo hi : Nat} (h : (ab.sl ab.int).aN w [v] x.write.vec lo hi) (hw : (Lit.int .i64 x.kind).wf = true ∧ (Lit.int .i64 x.ae).wf = true ∧ (Lit.int .i64 x.src).wf = true ∧ (Lit.int .i64 x.dst).wf = true ∧ (Lit.int .i64 x.index).wf = true ∧ (Lit.int .i64 x.write.kind).wf = true ∧ (Lit.int .i64 x.write.id).wf = true ∧ (Lit.int .i64 x.write.aa).wf = true ∧ (Lit.int .i64 x.write.seq).wf = true) : ab.aQ.aN w [.int .i64 x.kind, .int .i64 x.ae, .int .i64 x.src, .int .i64 x.dst, .int .i64 x.index, .int .i64 x.write.kind, .int .i64 x.write.id, v, .int .i64 x.write.aa, .int .i64 x.write.seq] x lo hi := by
 obtain ⟨bl, O, i⟩ := h
 obtain ⟨w0, w1, w2, w3, w4, w5, w6, w8, w9⟩ := hw
 exact ⟨bl, lS (dD O w5 w6 w8 w9 O.2.1) w0 w1 w2 w3 w4 O.2.1, i⟩
theorem vecM {w : World} {x : bP} {a : Option Addr} {d : Nat} (h : ab.aQ.Reads w [.int .i64 x.kind, .int .i64 x.ae, .int .i64 x.src, .int .i64 x.dst, .int .i64 x.index, .int .i64 x.write.kind, .int .i64 x.write.id, .slice a x.write.vec.length d, .int .i64 x.write.aa, .int .i64 x.write.seq] x) : (ab.sl ab.int).Reads w [.slice a x.write.vec.length d] x.write.vec := by
 obtain ⟨bl, h⟩ := h
 obtain ⟨a7, d7, b7, e, -, -, -, -, -, -, -, -, l, -⟩ := eC.1 h
 simp only [List.cons.injEq, Value.slice.injEq, and_true, true_and] at e
 obtain ⟨rfl, rfl⟩ := e
 exact ⟨b7, l⟩
theorem nY (cs : List Value) (x : bP) (w : World) (h : ab.aQ.Reads w cs x) (hn : x.write.vec.length ≤ 10000000) :
  Calls Tryz.prog 220 #[.agg cs.toArray] w fun e w' => ∃ a3 c3, e = .returned (.agg #[.int .i64 x.kind, .int .i64 x.ae, .int .i64 x.src, .int .i64 x.dst, .int .i64 x.index, .int .i64 x.write.kind, .int .i64 x.write.id, .slice a3 x.write.vec.length c3, .int .i64 x.write.aa, .int .i64 x.write.seq]) ∧ ab.aQ.aN w' [.int .i64 x.kind, .int .i64 x.ae, .int .i64 x.src, .int .i64 x.dst, .int .i64 x.index, .int .i64 x.write.kind, .int .i64 x.write.id, .slice a3 x.write.vec.length c3, .int .i64 x.write.aa, .int .i64 x.write.seq] x (w.heap.size + 2) w'.heap.size ∧ Below w.heap.size w w' := by
 have HV := yh (vh h)
 obtain ⟨a, d, rfl, -⟩ := cN h
 have HR0 := yh (vecM h)
 clear h
 have nb1 : Below w.heap.size w (w.alloc (.cells #[.int .i64 x.kind, .int .i64 x.ae, .int .i64 x.src, .int .i64 x.dst, .int .i64 x.index, .int .i64 x.write.kind, .int .i64 x.write.id, .slice a x.write.vec.length d, .int .i64 x.write.aa, .int .i64 x.write.seq] 60)) := (Below.refl _ _).alloc (Nat.le_refl _) _
 have x1 : aA 0 #[.int .i64 x.kind, .int .i64 x.ae, .int .i64 x.src, .int .i64 x.dst, .int .i64 x.index, .int .i64 x.write.kind, .int .i64 x.write.id, .slice a x.write.vec.length d, .int .i64 x.write.aa, .int .i64 x.write.seq] 60 (w.alloc (.cells #[.int .i64 x.kind, .int .i64 x.ae, .int .i64 x.src, .int .i64 x.dst, .int .i64 x.index, .int .i64 x.write.kind, .int .i64 x.write.id, .slice a x.write.vec.length d, .int .i64 x.write.aa, .int .i64 x.write.seq] 60)) w.heap.size := aD (Nat.zero_le _)
 have s1 : (w.alloc (.cells #[.int .i64 x.kind, .int .i64 x.ae, .int .i64 x.src, .int .i64 x.dst, .int .i64 x.index, .int .i64 x.write.kind, .int .i64 x.write.id, .slice a x.write.vec.length d, .int .i64 x.write.aa, .int .i64 x.write.seq] 60)).heap.size = w.heap.size + 1 := by simp
 have r1 := (uh HR0).later nb1
 generalize hA1 : w.alloc (.cells #[.int .i64 x.kind, .int .i64 x.ae, .int .i64 x.src, .int .i64 x.dst, .int .i64 x.index, .int .i64 x.write.kind, .int .i64 x.write.id, .slice a x.write.vec.length d, .int .i64 x.write.aa, .int .i64 x.write.seq] 60) = A1 at *
 have nb2 : Below A1.heap.size A1 (A1.alloc (.cells #[.int .i64 0, .int .i64 0, .int .i64 0, .int .i64 0, .int .i64 0, .int .i64 0, .int .i64 0, .slice none 0 0, .int .i64 0, .int .i64 0] 60)) := (Below.refl _ _).alloc (Nat.le_refl _) _
 have x2 : aA 0 #[.int .i64 0, .int .i64 0, .int .i64 0, .int .i64 0, .int .i64 0, .int .i64 0, .int .i64 0, .slice none 0 0, .int .i64 0, .int .i64 0] 60 (A1.alloc (.cells #[.int .i64 0, .int .i64 0, .int .i64 0, .int .i64 0, .int .i64 0, .int .i64 0, .int .i64 0, .slice none 0 0, .int .i64 0, .int .i64 0] 60)) A1.heap.size := aD (Nat.zero_le _)
 have s2 : (A1.alloc (.cells #[.int .i64 0, .int .i64 0, .int .i64 0, .int .i64 0, .int .i64 0, .int .i64 0, .int .i64 0, .slice none 0 0, .int .i64 0, .int .i64 0] 60)).heap.size = A1.heap.size + 1 := by simp
 replace x1 := x1.ai nb2
 have r2 := r1.later nb2
 have B2 : Below w.heap.size w (A1.alloc (.cells #[.int .i64 0, .int .i64 0, .int .i64 0, .int .i64 0, .int .i64 0, .int .i64 0, .int .i64 0, .slice none 0 0, .int .i64 0, .int .i64 0] 60)) := nb1.trans (nb2.mono (by omega))
 rw [s1] at x2 s2
 have HB := yh B2
 have HX1 := yh x1
 have HX2 := yh x2
 have HR := yh r2
 have HS := yh s2
 subst hA1
 clear nb1 nb2 x1 x2 r1 r2 B2 s1 s2 HR0
 go_enter Tryz.func220, Tryz.ntmps220
 go_upto_region 1 with fail
 generalize (w.alloc (.cells #[.int .i64 x.kind, .int .i64 x.ae, .int .i64 x.src, .int .i64 x.dst, .int .i64 x.index, .int .i64 x.write.kind, .int .i64 x.write.id, .slice a x.write.vec.length d, .int .i64 x.write.aa, .int .i64 x.write.seq] 60)).alloc (.cells #[.int .i64 0, .int .i64 0, .int .i64 0, .int .i64 0, .int .i64 0, .int .i64 0, .int .i64 0, .slice none 0 0, .int .i64 0, .int .i64 0] 60) = W1 at *
 have HL := yh (kq _ x.write.vec W1 (uh HR) hn)
 have y7 : W1.cell? ⟨w.heap.size, 7, none⟩ = some (.slice a x.write.vec.length d) := (uh HX1).at 7 _ rfl
 go_wp2_with fail
 refine (uh HL).mono ?_
 rintro e W2 ⟨a3, n3, c3, rfl, ⟨O, hn3⟩, hb⟩
 subst hn3
 have hx1 := (uh HX1).ai hb
 have hx2 := (uh HX2).ai hb
 have hB2 := (uh HB).trans (hb.mono (uh HB).size)
 have hs2 := uh HS
 have hz2 := hb.size
 clear HX1 HX2 HB HR HS HL y7 hb
 have y0 : W2.cell? ⟨w.heap.size, 0, none⟩ = some (.int .i64 x.kind) := (hx1).at 0 _ rfl
 have y1 : W2.cell? ⟨w.heap.size, 1, none⟩ = some (.int .i64 x.ae) := (hx1).at 1 _ rfl
 have y2 : W2.cell? ⟨w.heap.size, 2, none⟩ = some (.int .i64 x.src) := (hx1).at 2 _ rfl
 have y3 : W2.cell? ⟨w.heap.size, 3, none⟩ = some (.int .i64 x.dst) := (hx1).at 3 _ rfl
 have y4 : W2.cell? ⟨w.heap.size, 4, none⟩ = some (.int .i64 x.index) := (hx1).at 4 _ rfl
 have y5 : W2.cell? ⟨w.heap.size, 5, none⟩ = some (.int .i64 x.write.kind) := (hx1).at 5 _ rfl
 have y6 : W2.cell? ⟨w.heap.size, 6, none⟩ = some (.int .i64 x.write.id) := (hx1).at 6 _ rfl
 have y7 : W2.cell? ⟨w.heap.size, 7, none⟩ = some (.slice a x.write.vec.length d) := (hx1).at 7 _ rfl
 have y8 : W2.cell? ⟨w.heap.size, 8, none⟩ = some (.int .i64 x.write.aa) := (hx1).at 8 _ rfl
 have y9 : W2.cell? ⟨w.heap.size, 9, none⟩ = some (.int .i64 x.write.seq) := (hx1).at 9 _ rfl
 have yf := hx1.soft
 have yl := hx1.lt
 have v0 : W2.cell? ⟨w.heap.size + 1, 0, none⟩ = some (.int .i64 0) := (hx2).at 0 _ rfl
 have v1 : W2.cell? ⟨w.heap.size + 1, 1, none⟩ = some (.int .i64 0) := (hx2).at 1 _ rfl
 have v2 : W2.cell? ⟨w.heap.size + 1, 2, none⟩ = some (.int .i64 0) := (hx2).at 2 _ rfl
 have v3 : W2.cell? ⟨w.heap.size + 1, 3, none⟩ = some (.int .i64 0) := (hx2).at 3 _ rfl
 have v4 : W2.cell? ⟨w.heap.size + 1, 4, none⟩ = some (.int .i64 0) := (hx2).at 4 _ rfl
 have v5 : W2.cell? ⟨w.heap.size + 1, 5, none⟩ = some (.int .i64 0) := (hx2).at 5 _ rfl
 have v6 : W2.cell? ⟨w.heap.size + 1, 6, none⟩ = some (.int .i64 0) := (hx2).at 6 _ rfl
 have v7 : W2.cell? ⟨w.heap.size + 1, 7, none⟩ = some (.slice none 0 0) := (hx2).at 7 _ rfl
 have v8 : W2.cell? ⟨w.heap.size + 1, 8, none⟩ = some (.int .i64 0) := (hx2).at 8 _ rfl
 have v9 : W2.cell? ⟨w.heap.size + 1, 9, none⟩ = some (.int .i64 0) := (hx2).at 9 _ rfl
 have vf := hx2.soft
 have vl := hx2.lt
 have E1 : Ext (fun q => q = w.heap.size) W2 (W2.setCell ⟨w.heap.size, 7, none⟩ (.slice a3 x.write.vec.length c3)) := (Ext.refl (fun q => q = w.heap.size) _).setCell ⟨w.heap.size, 7, none⟩ _ rfl
 have B3 : Below w.heap.size w (W2.setCell ⟨w.heap.size, 7, none⟩ (.slice a3 x.write.vec.length c3)) := hB2.setCell (by simp) _
 have O3 := O.ext E1 (fun q h1 h2 h3 => by omega)
 have O4 := gK (s := w.heap.size + 1) (vs := [.int .i64 x.kind, .int .i64 x.ae, .int .i64 x.src, .int .i64 x.dst, .int .i64 x.index, .int .i64 x.write.kind, .int .i64 x.write.id, .slice a3 x.write.vec.length c3, .int .i64 x.write.aa, .int .i64 x.write.seq]) O3 (by omega)
 have HO := yh (tr O4 (uh HV))
 have HB4 := yh (aB B3 (w.heap.size + 1) 0 [.int .i64 x.kind, .int .i64 x.ae, .int .i64 x.src, .int .i64 x.dst, .int .i64 x.index, .int .i64 x.write.kind, .int .i64 x.write.id, .slice a3 x.write.vec.length c3, .int .i64 x.write.aa, .int .i64 x.write.seq] (by omega))
 have HZ : Hid ((aG (W2.setCell ⟨w.heap.size, 7, none⟩ (.slice a3 x.write.vec.length c3)) (w.heap.size + 1) 0 [.int .i64 x.kind, .int .i64 x.ae, .int .i64 x.src, .int .i64 x.dst, .int .i64 x.index, .int .i64 x.write.kind, .int .i64 x.write.id, .slice a3 x.write.vec.length c3, .int .i64 x.write.aa, .int .i64 x.write.seq]).heap.size = W2.heap.size) := by
  refine (bL _ _ _ _).trans ?_
  simp
 have hq : W1.heap.size = w.heap.size + 2 := by omega
 have HQ := yh hq
 clear O O3 O4 E1 B3 hB2 HV hq hx1 hx2 hs2
 go_wp2_with fail
 refine bodyPost_ret (v := .agg #[.int .i64 x.kind, .int .i64 x.ae, .int .i64 x.src, .int .i64 x.dst, .int .i64 x.index, .int .i64 x.write.kind, .int .i64 x.write.id, .slice a3 x.write.vec.length c3, .int .i64 x.write.aa, .int .i64 x.write.seq]) (by simp [results, Tryz.results220, go_sem, v0, v1, v2, v3, v4, v5, v6, v7, v8, v9]) rfl ?_
 refine ⟨a3, c3, rfl, ?_, uh HB4⟩
 have h9 := uh HO
 rw [uh HQ] at h9
 exact h9.mono (Nat.le_refl _) (Nat.le_of_eq (uh HZ).symm)
def pM (w w' : World) (g : Nat) (xs : List bP) : Prop := g = w.heap.size ∧ ∃ (rows : List (List Value)) (hi : Nat), w'.ownsRow w.heap.size 60 10 (.slice (some ⟨g, 0, none⟩) xs.length xs.length) xs.length rows.flatten ∧ ab.gj ab.aQ w' rows xs (w.heap.size + 1) hi ∧ hi ≤ w'.heap.size ∧ w.heap.size < hi
theorem nF (v : Value) (xs : List bP) (w : World) (h : (ab.sl ab.aQ).Reads w [v] xs) (hlen : xs.length ≤ 1000000) (hv : ∀ x ∈ xs, x.write.vec.length ≤ 10000000) :
  Calls Tryz.prog 199 #[v] w fun e w' => ∃ (g : Nat), e = .returned (.slice (some ⟨g, 0, none⟩) xs.length xs.length) ∧ (ab.sl ab.aQ).aN w' [.slice (some ⟨g, 0, none⟩) xs.length xs.length] xs w.heap.size w'.heap.size ∧ Below w.heap.size w w' ∧ pM w w' g xs := by
 have hbig := h.et
 obtain ⟨ao, cap, rfl⟩ := aI h
 obtain ⟨i0, hi, hz0, hz1, hz2⟩ : ∃ i, Tryz.prog.info? 60 = some i ∧ i.zero = some (.agg #[.int .i64 0, .int .i64 0, .int .i64 0, .int .i64 0, .int .i64 0, .int .i64 0, .int .i64 0, .slice none 0 0, .int .i64 0, .int .i64 0]) ∧ i.size = 10 ∧ i.bytes ≤ 1000 := by
  have := sE
  cases hq : Tryz.prog.info? 60 with
  | none => rw [hq] at this; simp at this
  | some i =>
   rw [hq] at this
   simp only [Option.map_some, Option.some.injEq, Prod.mk.injEq, decide_eq_true_eq] at this
   exact ⟨i, rfl, this.1, this.2.1, this.2.2⟩
 have H := yh h
 have HN := yh hv
 clear h hv
 go_enter Tryz.func199, Tryz.ntmps199
 go_wp2_with (at_make; refine wpList_make_full _ rfl _ _ 36 rfl w.heap.size 60 i0 _ 10 Tryz.underlying36 hi hz0 hz1 _ _ _ _ xs.length rfl rfl rfl rfl ?c1 ?c2 ?c3 ?_)
 case c1 => have := Nat.mul_le_mul hz2 hlen; omega
 case c2 => unfold maxLen; omega
 case c3 => exact Nat.le_refl _
 intro w1 hown1 hgrow1
 have hB1 : Below w.heap.size w w1 := (Below.refl _ _).grown hgrow1 (Nat.le_refl _) (by simp)
 clear hgrow1 hi hz0 hz1 hz2
 have HO1 := yh hown1
 have HB1 := yh hB1
 clear hown1 hB1
 go_wp2_with fail
 go_loopw [11] (fun i wr => ∃ (k : Nat) (rows : List (List Value)) (Q : List Value) (hi : Nat), k ≤ xs.length ∧ i = .int .i64 k ∧ wr.ownsRow w.heap.size 60 10 (.slice (some ⟨w.heap.size, 0, none⟩) xs.length xs.length) xs.length (rows.flatten ++ Q) ∧ Q.length = (xs.length - k) * 10 ∧ ab.gj ab.aQ wr rows (xs.take k) (w.heap.size + 1) hi ∧ hi ≤ wr.heap.size ∧ w.heap.size < hi ∧ Below w.heap.size w wr) (fun i _ => xs.length - (intOf i).toNat)
 case atStart =>
  have hl := ((uh HO1).lt w.heap.size rfl).2
  exact ⟨0, [], _, w1.heap.size, Nat.zero_le _, rfl, by simpa using uh HO1, by have := (uh HO1).1; simpa using this, ab.ek, Nat.le_refl _, hl, uh HB1⟩
 case round =>
  obtain ⟨k, rows, Q, hi, hk, rfl, hown, hQ, hsub, hhi, hlo, hB⟩ := hrel
  clear HO1 HB1
  by_cases hlt : k < xs.length
  ·
   obtain ⟨b, off, rfl, hbl⟩ := ab.aS (uh H) (by omega)
   obtain ⟨row, hc, hr⟩ := ab.bE (uh H) hlt
   replace hr := hr.later hB
   have hr2 := hr
   obtain ⟨a, d, rfl, -⟩ := cN hr2
   have c0 : wr.cell? ⟨b, off + k * 10, none⟩ = some (.int .i64 (xs[k]).kind) := (hB.cell (p := ⟨b, off + k * 10, none⟩) hbl).trans (hc 0 (by decide))
   have c1 : wr.cell? ⟨b, off + k * 10 + 1, none⟩ = some (.int .i64 (xs[k]).ae) := (hB.cell (p := ⟨b, off + k * 10 + 1, none⟩) hbl).trans (hc 1 (by decide))
   have c2 : wr.cell? ⟨b, off + k * 10 + 2, none⟩ = some (.int .i64 (xs[k]).src) := (hB.cell (p := ⟨b, off + k * 10 + 2, none⟩) hbl).trans (hc 2 (by decide))
   have c3 : wr.cell? ⟨b, off + k * 10 + 3, none⟩ = some (.int .i64 (xs[k]).dst) := (hB.cell (p := ⟨b, off + k * 10 + 3, none⟩) hbl).trans (hc 3 (by decide))
   have c4 : wr.cell? ⟨b, off + k * 10 + 4, none⟩ = some (.int .i64 (xs[k]).index) := (hB.cell (p := ⟨b, off + k * 10 + 4, none⟩) hbl).trans (hc 4 (by decide))
   have c5 : wr.cell? ⟨b, off + k * 10 + 5, none⟩ = some (.int .i64 (xs[k]).write.kind) := (hB.cell (p := ⟨b, off + k * 10 + 5, none⟩) hbl).trans (hc 5 (by decide))
   have c6 : wr.cell? ⟨b, off + k * 10 + 6, none⟩ = some (.int .i64 (xs[k]).write.id) := (hB.cell (p := ⟨b, off + k * 10 + 6, none⟩) hbl).trans (hc 6 (by decide))
   have c7 : wr.cell? ⟨b, off + k * 10 + 7, none⟩ = some (.slice a (xs[k]).write.vec.length d) := (hB.cell (p := ⟨b, off + k * 10 + 7, none⟩) hbl).trans (hc 7 (by decide))
   have c8 : wr.cell? ⟨b, off + k * 10 + 8, none⟩ = some (.int .i64 (xs[k]).write.aa) := (hB.cell (p := ⟨b, off + k * 10 + 8, none⟩) hbl).trans (hc 8 (by decide))
   have c9 : wr.cell? ⟨b, off + k * 10 + 9, none⟩ = some (.int .i64 (xs[k]).write.seq) := (hB.cell (p := ⟨b, off + k * 10 + 9, none⟩) hbl).trans (hc 9 (by decide))
   have hrl : rows.flatten.length = k * 10 := by have := (ab.eh hsub).1; rw [List.length_take, Nat.min_eq_left hk] at this; exact this
   have hvl := uh HN xs[k] (List.getElem_mem hlt)
   have HT : Hid (xs.take (k + 1) = xs.take k ++ [xs[k]]) := List.take_succ_eq_append_getElem hlt
   have HB := yh hB
   have HO := yh hown
   have HS := yh hsub
   have HQ := yh hQ
   have HRM := yh hr
   clear hB hr hc hown hsub hQ hr2
   generalize hxk : xs[k] = x at *
   clear hxk
   have hbr : b < wr.heap.size := Nat.lt_of_lt_of_le hbl (uh HB).size
   have nb : Below wr.heap.size wr (wr.alloc (.cells #[.int .i64 x.kind, .int .i64 x.ae, .int .i64 x.src, .int .i64 x.dst, .int .i64 x.index, .int .i64 x.write.kind, .int .i64 x.write.id, .slice a x.write.vec.length d, .int .i64 x.write.aa, .int .i64 x.write.seq] 60)) := (Below.refl _ _).alloc (Nat.le_refl _) _
   have hz0 : (wr.alloc (.cells #[.int .i64 x.kind, .int .i64 x.ae, .int .i64 x.src, .int .i64 x.dst, .int .i64 x.index, .int .i64 x.write.kind, .int .i64 x.write.id, .slice a x.write.vec.length d, .int .i64 x.write.aa, .int .i64 x.write.seq] 60)).heap.size = wr.heap.size + 1 := by simp
   have HL := yh (nY _ x _ ((uh HRM).later nb) hvl)
   have HNB := yh nb
   have HZ0 := yh hz0
   clear nb hz0 HRM
   go_wp2_with fail
   clear c0 c1 c2 c3 c4 c5 c6 c7 c8 c9
   refine (uh HL).mono ?_
   generalize hW0 : wr.alloc (.cells #[.int .i64 x.kind, .int .i64 x.ae, .int .i64 x.src, .int .i64 x.dst, .int .i64 x.index, .int .i64 x.write.kind, .int .i64 x.write.id, .slice a x.write.vec.length d, .int .i64 x.write.aa, .int .i64 x.write.seq] 60) = W0 at *
   clear hW0
   rintro e w2 ⟨a3, c3, rfl, O, hb⟩
   have hz0 := uh HZ0
   have hz2 : W0.heap.size ≤ w2.heap.size := hb.size
   have hb3 : Below wr.heap.size wr w2 := (uh HNB).trans (hb.mono (uh HNB).size)
   have o2 := de (uh HO) hb3
   replace HS := yh (ab.dK (ab.cC (uh HS) (az hb3 dz) (fun _ _ _ h => h)) O (by omega) (by omega) (by omega))
   have hb2 := (uh HB).trans (hb3.mono (uh HB).size)
   have hxw : w.heap.size < wr.heap.size := by omega
   clear hb HB HO O HNB HL hb3 HZ0
   have hQ := uh HQ
   have hl5 : (rows.flatten ++ Q).length = xs.length * 10 := o2.1
   obtain ⟨u0, g0⟩ : ∃ u, w2.cell? ⟨w.heap.size, k * 10, none⟩ = some u := by
    rw [o2.cellAt (k * 10) (by omega)]
    exact gZ (by omega)
   have t0 := o2.frozenAt (k * 10)
   obtain ⟨u1, g1⟩ : ∃ u, w2.cell? ⟨w.heap.size, k * 10 + 1, none⟩ = some u := by
    rw [o2.cellAt (k * 10 + 1) (by omega)]
    exact gZ (by omega)
   have t1 := o2.frozenAt (k * 10 + 1)
   obtain ⟨u2, g2⟩ : ∃ u, w2.cell? ⟨w.heap.size, k * 10 + 2, none⟩ = some u := by
    rw [o2.cellAt (k * 10 + 2) (by omega)]
    exact gZ (by omega)
   have t2 := o2.frozenAt (k * 10 + 2)
   obtain ⟨u3, g3⟩ : ∃ u, w2.cell? ⟨w.heap.size, k * 10 + 3, none⟩ = some u := by
    rw [o2.cellAt (k * 10 + 3) (by omega)]
    exact gZ (by omega)
   have t3 := o2.frozenAt (k * 10 + 3)
   obtain ⟨u4, g4⟩ : ∃ u, w2.cell? ⟨w.heap.size, k * 10 + 4, none⟩ = some u := by
    rw [o2.cellAt (k * 10 + 4) (by omega)]
    exact gZ (by omega)
   have t4 := o2.frozenAt (k * 10 + 4)
   obtain ⟨u5, g5⟩ : ∃ u, w2.cell? ⟨w.heap.size, k * 10 + 5, none⟩ = some u := by
    rw [o2.cellAt (k * 10 + 5) (by omega)]
    exact gZ (by omega)
   have t5 := o2.frozenAt (k * 10 + 5)
   obtain ⟨u6, g6⟩ : ∃ u, w2.cell? ⟨w.heap.size, k * 10 + 6, none⟩ = some u := by
    rw [o2.cellAt (k * 10 + 6) (by omega)]
    exact gZ (by omega)
   have t6 := o2.frozenAt (k * 10 + 6)
   obtain ⟨u7, g7⟩ : ∃ u, w2.cell? ⟨w.heap.size, k * 10 + 7, none⟩ = some u := by
    rw [o2.cellAt (k * 10 + 7) (by omega)]
    exact gZ (by omega)
   have t7 := o2.frozenAt (k * 10 + 7)
   obtain ⟨u8, g8⟩ : ∃ u, w2.cell? ⟨w.heap.size, k * 10 + 8, none⟩ = some u := by
    rw [o2.cellAt (k * 10 + 8) (by omega)]
    exact gZ (by omega)
   have t8 := o2.frozenAt (k * 10 + 8)
   obtain ⟨u9, g9⟩ : ∃ u, w2.cell? ⟨w.heap.size, k * 10 + 9, none⟩ = some u := by
    rw [o2.cellAt (k * 10 + 9) (by omega)]
    exact gZ (by omega)
   have t9 := o2.frozenAt (k * 10 + 9)
   have o3 := di o2 (k * 10) [.int .i64 x.kind, .int .i64 x.ae, .int .i64 x.src, .int .i64 x.dst, .int .i64 x.index, .int .i64 x.write.kind, .int .i64 x.write.id, .slice a3 x.write.vec.length c3, .int .i64 x.write.aa, .int .i64 x.write.seq]
   rw [show k * 10 = rows.flatten.length from hrl.symm, cY _ _ _ (by rw [hQ]; simp; have : 1 * 10 ≤ (xs.length - k) * 10 := Nat.mul_le_mul_right _ (by omega); omega), hrl] at o3
   have E : Ext (fun q => q = w.heap.size) w2 (aG w2 w.heap.size (k * 10) [.int .i64 x.kind, .int .i64 x.ae, .int .i64 x.src, .int .i64 x.dst, .int .i64 x.index, .int .i64 x.write.kind, .int .i64 x.write.id, .slice a3 x.write.vec.length c3, .int .i64 x.write.aa, .int .i64 x.write.seq]) := bb _ (Ext.refl _ _) _ _ _ rfl
   replace HS := yh (ab.cC (uh HS) E (fun q h1 h2 h3 => by omega))
   have HB := yh (aB hb2 w.heap.size (k * 10) [.int .i64 x.kind, .int .i64 x.ae, .int .i64 x.src, .int .i64 x.dst, .int .i64 x.index, .int .i64 x.write.kind, .int .i64 x.write.id, .slice a3 x.write.vec.length c3, .int .i64 x.write.aa, .int .i64 x.write.seq] (Nat.le_refl _))
   have HZ : Hid ((aG w2 w.heap.size (k * 10) [.int .i64 x.kind, .int .i64 x.ae, .int .i64 x.src, .int .i64 x.dst, .int .i64 x.index, .int .i64 x.write.kind, .int .i64 x.write.id, .slice a3 x.write.vec.length c3, .int .i64 x.write.aa, .int .i64 x.write.seq]).heap.size = w2.heap.size) := bL _ _ _ _
   have HO : Hid ((aG w2 w.heap.size (k * 10) [.int .i64 x.kind, .int .i64 x.ae, .int .i64 x.src, .int .i64 x.dst, .int .i64 x.index, .int .i64 x.write.kind, .int .i64 x.write.id, .slice a3 x.write.vec.length c3, .int .i64 x.write.aa, .int .i64 x.write.seq]).ownsRow w.heap.size 60 10 (.slice (some ⟨w.heap.size, 0, none⟩) xs.length xs.length) xs.length ((rows ++ [([.int .i64 x.kind, .int .i64 x.ae, .int .i64 x.src, .int .i64 x.dst, .int .i64 x.index, .int .i64 x.write.kind, .int .i64 x.write.id, .slice a3 x.write.vec.length c3, .int .i64 x.write.aa, .int .i64 x.write.seq] : List Value)]).flatten ++ Q.drop 10)) := by
    show (aG w2 w.heap.size (k * 10) [.int .i64 x.kind, .int .i64 x.ae, .int .i64 x.src, .int .i64 x.dst, .int .i64 x.index, .int .i64 x.write.kind, .int .i64 x.write.id, .slice a3 x.write.vec.length c3, .int .i64 x.write.aa, .int .i64 x.write.seq]).ownsRow w.heap.size 60 10 (.slice (some ⟨w.heap.size, 0, none⟩) xs.length xs.length) xs.length ((rows ++ [([.int .i64 x.kind, .int .i64 x.ae, .int .i64 x.src, .int .i64 x.dst, .int .i64 x.index, .int .i64 x.write.kind, .int .i64 x.write.id, .slice a3 x.write.vec.length c3, .int .i64 x.write.aa, .int .i64 x.write.seq] : List Value)]).flatten ++ Q.drop 10)
    rw [List.flatten_append]
    simpa using o3
   have hl2 := (o2.lt w.heap.size rfl).2
   clear o3 o2 E hb2 hl5
   have hQ2 : Hid ((Q.drop 10).length = (xs.length - (k + 1)) * 10) := by
    show (Q.drop 10).length = (xs.length - (k + 1)) * 10
    rw [List.length_drop, hQ, show xs.length - k = xs.length - (k + 1) + 1 by omega, Nat.add_mul]
    omega
   have HW2 : Hid (w.heap.size < w2.heap.size) := hl2
   clear hQ HQ hz2 hz0
   go_wp2_with fail
   go_roundw
   case rel => exact ⟨k + 1, rows ++ [([.int .i64 x.kind, .int .i64 x.ae, .int .i64 x.src, .int .i64 x.dst, .int .i64 x.index, .int .i64 x.write.kind, .int .i64 x.write.id, .slice a3 x.write.vec.length c3, .int .i64 x.write.aa, .int .i64 x.write.seq] : List Value)], Q.drop 10, w2.heap.size, by omega, by go_num, uh HO, uh hQ2, (by rw [uh HT]; exact uh HS), Nat.le_of_eq (uh HZ).symm, uh HW2, uh HB⟩
   case measure => simp [intOf]; omega
  obtain rfl : k = xs.length := by omega
  have e0 : Q = [] := List.eq_nil_of_length_eq_zero (by rw [hQ]; simp)
  subst e0
  rw [List.append_nil] at hown
  rw [List.take_length] at hsub
  have HK : Hid (pM w wr w.heap.size xs) := ⟨rfl, rows, hi, hown, hsub, hhi, hlo⟩
  have HO := yh (ab.dJ (A := ab.aQ) hown hsub (by omega) hhi hbig)
  have HB := yh hB
  clear hown hsub hB
  go_wp2_with fail
  go_ret
  exact ⟨_, rfl, uh HO, uh HB, uh HK⟩
theorem mr (cs : List Value) (x : ay) (w : World) (h : ab.aF.Reads w cs x) (hok : ej x) (hf : Fits x) :
  Calls Tryz.prog 157 #[.agg cs.toArray] w fun e w' => ∃ (v3 v4 v5 v6 : Value), e = .returned (.agg #[.int .i64 x.now, .int .i64 x.events, .int .i64 x.chain.ae, v3, v4, v5, v6]) ∧ ab.aF.aN w' [.int .i64 x.now, .int .i64 x.events, .int .i64 x.chain.ae, v3, v4, v5, v6] x (w.heap.size + 2) w'.heap.size ∧ Below w.heap.size w w' ∧ ∃ g6 : Nat, v6 = .slice (some ⟨g6, 0, none⟩) x.af.length x.af.length := by
 have HWF := yh (jD h)
 obtain ⟨a3, d3, a4, d4, a5, d5, a6, d6, rfl, RC, RN, RM, RE⟩ := aK h
 obtain ⟨_, _, hq, RI⟩ := cb RC
 simp only [List.cons.injEq, Value.slice.injEq, and_true, true_and] at hq
 obtain ⟨rfl, rfl⟩ := hq
 have nb1 : Below w.heap.size w (w.alloc (.cells #[.int .i64 x.now, .int .i64 x.events, .int .i64 x.chain.ae, .slice a3 x.chain.ids.length d3, .slice a4 x.nodes.length d4, .slice a5 x.msgs.length d5, .slice a6 x.af.length d6] 39)) := (Below.refl _ _).alloc (Nat.le_refl _) _
 have HV : Hid (Below w.heap.size w ((w.alloc (.cells #[.int .i64 x.now, .int .i64 x.events, .int .i64 x.chain.ae, .slice a3 x.chain.ids.length d3, .slice a4 x.nodes.length d4, .slice a5 x.msgs.length d5, .slice a6 x.af.length d6] 39)).alloc (.cells #[.int .i64 0, .int .i64 0, .int .i64 0, .slice none 0 0, .slice none 0 0, .slice none 0 0, .slice none 0 0] 39))) := nb1.alloc (by simp) _
 have HX : Hid (aA 0 #[.int .i64 x.now, .int .i64 x.events, .int .i64 x.chain.ae, .slice a3 x.chain.ids.length d3, .slice a4 x.nodes.length d4, .slice a5 x.msgs.length d5, .slice a6 x.af.length d6] 39 ((w.alloc (.cells #[.int .i64 x.now, .int .i64 x.events, .int .i64 x.chain.ae, .slice a3 x.chain.ids.length d3, .slice a4 x.nodes.length d4, .slice a5 x.msgs.length d5, .slice a6 x.af.length d6] 39)).alloc (.cells #[.int .i64 0, .int .i64 0, .int .i64 0, .slice none 0 0, .slice none 0 0, .slice none 0 0, .slice none 0 0] 39)) w.heap.size) := (aD (Nat.zero_le _)).grow _
 have HY : Hid (aA 0 #[.int .i64 0, .int .i64 0, .int .i64 0, .slice none 0 0, .slice none 0 0, .slice none 0 0, .slice none 0 0] 39 ((w.alloc (.cells #[.int .i64 x.now, .int .i64 x.events, .int .i64 x.chain.ae, .slice a3 x.chain.ids.length d3, .slice a4 x.nodes.length d4, .slice a5 x.msgs.length d5, .slice a6 x.af.length d6] 39)).alloc (.cells #[.int .i64 0, .int .i64 0, .int .i64 0, .slice none 0 0, .slice none 0 0, .slice none 0 0, .slice none 0 0] 39)) (w.heap.size + 1)) := bm (Nat.zero_le _) (by simp)
 have hz0 : ((w.alloc (.cells #[.int .i64 x.now, .int .i64 x.events, .int .i64 x.chain.ae, .slice a3 x.chain.ids.length d3, .slice a4 x.nodes.length d4, .slice a5 x.msgs.length d5, .slice a6 x.af.length d6] 39)).alloc (.cells #[.int .i64 0, .int .i64 0, .int .i64 0, .slice none 0 0, .slice none 0 0, .slice none 0 0, .slice none 0 0] 39)).heap.size = w.heap.size + 2 := by simp
 have HI := yh RI
 have HN := yh RN
 have HM := yh RM
 have HE := yh RE
 have HOK := yh hok
 have HF := yh hf
 clear nb1 h RC RN RM RE RI hok hf
 go_enter Tryz.func157, Tryz.ntmps157
 go_upto_region 1 with fail
 generalize (w.alloc (.cells #[.int .i64 x.now, .int .i64 x.events, .int .i64 x.chain.ae, .slice a3 x.chain.ids.length d3, .slice a4 x.nodes.length d4, .slice a5 x.msgs.length d5, .slice a6 x.af.length d6] 39)).alloc (.cells #[.int .i64 0, .int .i64 0, .int .i64 0, .slice none 0 0, .slice none 0 0, .slice none 0 0, .slice none 0 0] 39) = W0 at *
 have hx := uh HX
 have y3 := aA.at hx 3 _ rfl
 have yl := hx.lt
 simp only [ga, gb, gc] at y3
 have HC := yh (kq _ x.chain.ids W0 ((uh HI).later (uh HV)) (by have := (cB (uh HOK).chain).len; omega))
 clear hx
 go_wp2_with fail
 refine (uh HC).mono ?_
 rintro e v1 ⟨p3, n3, q3, rfl, ⟨O, rfl⟩, hb⟩
 have hz1 : W0.heap.size ≤ v1.heap.size := hb.size
 have hx := (uh HX).ai hb
 replace HY := yh (((uh HY).ai hb).other ⟨w.heap.size, 3, none⟩ (.slice p3 x.chain.ids.length q3) (by simp))
 clear y3 yl
 have y3 := aA.at hx 3 _ rfl
 have yf := aA.soft hx
 have yl := hx.lt
 simp only [ga, gb, gc] at y3
 have hv := (uh HV).trans (hb.mono (uh HV).size)
 replace HV := yh (hv.setCell (p := ⟨w.heap.size, 3, none⟩) (Nat.le_refl _) (.slice p3 x.chain.ids.length q3))
 have hx2 := aA.set hx 3 (.slice p3 x.chain.ids.length q3)
 simp only [List.setIfInBounds_toArray, List.set_cons_zero, List.set_cons_succ] at hx2
 replace HX := yh hx2
 have e1 : Ext (fun q => q = w.heap.size) v1 (v1.setCell ⟨w.heap.size, 3, none⟩ (.slice p3 x.chain.ids.length q3)) := (Ext.refl _ _).setCell _ _ rfl
 have P0 := yh (O.ext e1 (fun q h1 h2 h3 => by omega))
 have hz1' : (v1.setCell ⟨w.heap.size, 3, none⟩ (.slice p3 x.chain.ids.length q3)).heap.size = v1.heap.size := by simp
 clear hx hx2 e1 hv O hb HC
 go_upto_region 2 with fail
 generalize hW : v1.setCell ⟨w.heap.size, 3, none⟩ (.slice p3 x.chain.ids.length q3) = W1 at *
 clear hW y3 yf yl
 have hx := uh HX
 have y4 := aA.at hx 4 _ rfl
 have yl := hx.lt
 simp only [ga, gb, gc] at y4
 have HC := yh (mL _ x.nodes W1 ((uh HN).later (uh HV)) (by have := (uh HOK).some; omega) (fun y hy => by obtain ⟨j, hj, rfl⟩ := List.getElem_of_mem hy; exact ni ((uh HOK).nodes j hj).1))
 clear hx
 go_wp2_with fail
 refine (uh HC).mono ?_
 rintro e v2 ⟨g4, rfl, O, hb⟩
 have hz2 : W1.heap.size ≤ v2.heap.size := hb.size
 have hx := (uh HX).ai hb
 replace HY := yh (((uh HY).ai hb).other ⟨w.heap.size, 4, none⟩ (.slice (some ⟨g4, 0, none⟩) x.nodes.length x.nodes.length) (by simp))
 clear y4 yl
 have y4 := aA.at hx 4 _ rfl
 have yf := aA.soft hx
 have yl := hx.lt
 simp only [ga, gb, gc] at y4
 have hv := (uh HV).trans (hb.mono (uh HV).size)
 replace HV := yh (hv.setCell (p := ⟨w.heap.size, 4, none⟩) (Nat.le_refl _) (.slice (some ⟨g4, 0, none⟩) x.nodes.length x.nodes.length))
 have hx2 := aA.set hx 4 (.slice (some ⟨g4, 0, none⟩) x.nodes.length x.nodes.length)
 simp only [List.setIfInBounds_toArray, List.set_cons_zero, List.set_cons_succ] at hx2
 replace HX := yh hx2
 have e2 : Ext (fun q => q = w.heap.size) v2 (v2.setCell ⟨w.heap.size, 4, none⟩ (.slice (some ⟨g4, 0, none⟩) x.nodes.length x.nodes.length)) := (Ext.refl _ _).setCell _ _ rfl
 replace P0 := yh (((uh P0).later hb).ext e2 (fun q h1 h2 h3 => by omega))
 have P1 := yh (O.ext e2 (fun q h1 h2 h3 => by omega))
 have hz2' : (v2.setCell ⟨w.heap.size, 4, none⟩ (.slice (some ⟨g4, 0, none⟩) x.nodes.length x.nodes.length)).heap.size = v2.heap.size := by simp
 clear hx hx2 e2 hv O hb HC
 go_upto_region 3 with fail
 generalize hW : v2.setCell ⟨w.heap.size, 4, none⟩ (.slice (some ⟨g4, 0, none⟩) x.nodes.length x.nodes.length) = W2 at *
 clear hW y4 yf yl
 have hx := uh HX
 have y5 := aA.at hx 5 _ rfl
 have yl := hx.lt
 simp only [ga, gb, gc] at y5
 have HC := yh (nF _ x.msgs W2 ((uh HM).later (uh HV)) (by have := (dx (uh HOK).vz).1; omega) (fun y hy => oA ((dx (uh HOK).vz).2 y hy)))
 clear hx
 go_wp2_with fail
 refine (uh HC).mono ?_
 rintro e v3 ⟨g5, rfl, O, hb, -⟩
 have hz3 : W2.heap.size ≤ v3.heap.size := hb.size
 have hx := (uh HX).ai hb
 replace HY := yh (((uh HY).ai hb).other ⟨w.heap.size, 5, none⟩ (.slice (some ⟨g5, 0, none⟩) x.msgs.length x.msgs.length) (by simp))
 clear y5 yl
 have y5 := aA.at hx 5 _ rfl
 have yf := aA.soft hx
 have yl := hx.lt
 simp only [ga, gb, gc] at y5
 have hv := (uh HV).trans (hb.mono (uh HV).size)
 replace HV := yh (hv.setCell (p := ⟨w.heap.size, 5, none⟩) (Nat.le_refl _) (.slice (some ⟨g5, 0, none⟩) x.msgs.length x.msgs.length))
 have hx2 := aA.set hx 5 (.slice (some ⟨g5, 0, none⟩) x.msgs.length x.msgs.length)
 simp only [List.setIfInBounds_toArray, List.set_cons_zero, List.set_cons_succ] at hx2
 replace HX := yh hx2
 have e3 : Ext (fun q => q = w.heap.size) v3 (v3.setCell ⟨w.heap.size, 5, none⟩ (.slice (some ⟨g5, 0, none⟩) x.msgs.length x.msgs.length)) := (Ext.refl _ _).setCell _ _ rfl
 replace P0 := yh (((uh P0).later hb).ext e3 (fun q h1 h2 h3 => by omega))
 replace P1 := yh (((uh P1).later hb).ext e3 (fun q h1 h2 h3 => by omega))
 have P2 := yh (O.ext e3 (fun q h1 h2 h3 => by omega))
 have hz3' : (v3.setCell ⟨w.heap.size, 5, none⟩ (.slice (some ⟨g5, 0, none⟩) x.msgs.length x.msgs.length)).heap.size = v3.heap.size := by simp
 clear hx hx2 e3 hv O hb HC
 go_upto_region 4 with fail
 generalize hW : v3.setCell ⟨w.heap.size, 5, none⟩ (.slice (some ⟨g5, 0, none⟩) x.msgs.length x.msgs.length) = W3 at *
 clear hW y5 yf yl
 have hx := uh HX
 have y6 := aA.at hx 6 _ rfl
 have yl := hx.lt
 simp only [ga, gb, gc] at y6
 have HC := yh (jR _ x.af W3 ((uh HE).later (uh HV)) (by have := (uh HOK).uQ; omega) (uh HF))
 clear hx
 go_wp2_with fail
 refine (uh HC).mono ?_
 rintro e v4 ⟨g6, rfl, O, hb⟩
 have hz4 : W3.heap.size ≤ v4.heap.size := hb.size
 have hx := (uh HX).ai hb
 replace HY := yh (((uh HY).ai hb).other ⟨w.heap.size, 6, none⟩ (.slice (some ⟨g6, 0, none⟩) x.af.length x.af.length) (by simp))
 clear y6 yl
 have y6 := aA.at hx 6 _ rfl
 have yf := aA.soft hx
 have yl := hx.lt
 simp only [ga, gb, gc] at y6
 have hv := (uh HV).trans (hb.mono (uh HV).size)
 replace HV := yh (hv.setCell (p := ⟨w.heap.size, 6, none⟩) (Nat.le_refl _) (.slice (some ⟨g6, 0, none⟩) x.af.length x.af.length))
 have hx2 := aA.set hx 6 (.slice (some ⟨g6, 0, none⟩) x.af.length x.af.length)
 simp only [List.setIfInBounds_toArray, List.set_cons_zero, List.set_cons_succ] at hx2
 replace HX := yh hx2
 have e4 : Ext (fun q => q = w.heap.size) v4 (v4.setCell ⟨w.heap.size, 6, none⟩ (.slice (some ⟨g6, 0, none⟩) x.af.length x.af.length)) := (Ext.refl _ _).setCell _ _ rfl
 replace P0 := yh (((uh P0).later hb).ext e4 (fun q h1 h2 h3 => by omega))
 replace P1 := yh (((uh P1).later hb).ext e4 (fun q h1 h2 h3 => by omega))
 replace P2 := yh (((uh P2).later hb).ext e4 (fun q h1 h2 h3 => by omega))
 have P3 := yh (O.ext e4 (fun q h1 h2 h3 => by omega))
 have hz4' : (v4.setCell ⟨w.heap.size, 6, none⟩ (.slice (some ⟨g6, 0, none⟩) x.af.length x.af.length)).heap.size = v4.heap.size := by simp
 clear hx hx2 e4 hv O hb HC
 go_upto_region 5 with fail
 generalize hW : v4.setCell ⟨w.heap.size, 6, none⟩ (.slice (some ⟨g6, 0, none⟩) x.af.length x.af.length) = W4 at *
 clear hW y6 yf yl
 have hx := uh HX
 have hy := uh HY
 obtain ⟨y0, y1, y2, y3, y4, y5, y6⟩ := aZ7 hx
 obtain ⟨u0, u1, u2, u3, u4, u5, u6⟩ := aZ7 hy
 have yl := hx.lt
 have uf := aA.soft hy
 have ul := hy.lt
 have O := kx (uh P0) (uh P1) (uh P2) (uh P3) (by omega) (by omega) (by omega) (by omega) (by omega) (by omega) (by omega) (uh HWF)
 have e9 : Ext (fun q => q = w.heap.size + 1) W4 (aG W4 (w.heap.size + 1) 0 [.int .i64 x.now, .int .i64 x.events, .int .i64 x.chain.ae, .slice p3 x.chain.ids.length q3, .slice (some ⟨g4, 0, none⟩) x.nodes.length x.nodes.length, .slice (some ⟨g5, 0, none⟩) x.msgs.length x.msgs.length, .slice (some ⟨g6, 0, none⟩) x.af.length x.af.length]) := bb _ (Ext.refl _ _) _ _ _ rfl
 have HO : Hid (ab.aF.aN (aG W4 (w.heap.size + 1) 0 [.int .i64 x.now, .int .i64 x.events, .int .i64 x.chain.ae, .slice p3 x.chain.ids.length q3, .slice (some ⟨g4, 0, none⟩) x.nodes.length x.nodes.length, .slice (some ⟨g5, 0, none⟩) x.msgs.length x.msgs.length, .slice (some ⟨g6, 0, none⟩) x.af.length x.af.length]) [.int .i64 x.now, .int .i64 x.events, .int .i64 x.chain.ae, .slice p3 x.chain.ids.length q3, .slice (some ⟨g4, 0, none⟩) x.nodes.length x.nodes.length, .slice (some ⟨g5, 0, none⟩) x.msgs.length x.msgs.length, .slice (some ⟨g6, 0, none⟩) x.af.length x.af.length] x (w.heap.size + 2) W4.heap.size) := (O.ext e9 (fun q h1 h2 h3 => by omega)).mono (by omega) (by omega)
 have HB := yh (aB (uh HV) (w.heap.size + 1) 0 [.int .i64 x.now, .int .i64 x.events, .int .i64 x.chain.ae, .slice p3 x.chain.ids.length q3, .slice (some ⟨g4, 0, none⟩) x.nodes.length x.nodes.length, .slice (some ⟨g5, 0, none⟩) x.msgs.length x.msgs.length, .slice (some ⟨g6, 0, none⟩) x.af.length x.af.length] (by omega))
 have hzz : Hid ((aG W4 (w.heap.size + 1) 0 [.int .i64 x.now, .int .i64 x.events, .int .i64 x.chain.ae, .slice p3 x.chain.ids.length q3, .slice (some ⟨g4, 0, none⟩) x.nodes.length x.nodes.length, .slice (some ⟨g5, 0, none⟩) x.msgs.length x.msgs.length, .slice (some ⟨g6, 0, none⟩) x.af.length x.af.length]).heap.size = W4.heap.size) := bL _ _ _ _
 clear hx hy O e9 P0 P1 P2 P3 HX HY HV HOK HF HI HN HM HE
 go_wp2_with fail
 refine bodyPost_ret (v := .agg #[.int .i64 x.now, .int .i64 x.events, .int .i64 x.chain.ae, .slice p3 x.chain.ids.length q3, .slice (some ⟨g4, 0, none⟩) x.nodes.length x.nodes.length, .slice (some ⟨g5, 0, none⟩) x.msgs.length x.msgs.length, .slice (some ⟨g6, 0, none⟩) x.af.length x.af.length]) (by simp [results, Tryz.results157, go_sem, u0, u1, u2, u3, u4, u5, u6]) rfl ?_
 exact ⟨_, _, _, _, rfl, (uh HO).mono (by omega) (Nat.le_of_eq (uh hzz).symm), uh HB, _, rfl⟩
theorem uk (N : Nat) (cap : Array Value) (cs : List Value) (x : ay) (c : Int) (mv : Bool) (z : ay) (w : World) (hfa : ∀ (a : Array Value) (W : World), (callFunc N (a ++ cap)).run Tryz.prog W = .ok (.enter N (a ++ cap)) W) (h : ab.aF.Reads w cs x) (hok : ej x) (hf : Fits x) (hc : -1000000000 ≤ c ∧ c ≤ 1000000000)
  (hstep : ∀ W, Below w.heap.size w W → pr w.heap.size N cap (cI x) c mv z W) :
  Calls Tryz.prog 99 #[.agg cs.toArray, .func (.func N) #[] cap] w fun e w' => ∃ cs', e = .returned (.agg cs'.toArray) ∧ ab.aE.aN w' cs' (ij c mv z) w.heap.size w'.heap.size ∧ Below w.heap.size w w' := by
 obtain ⟨a3, d3, a4, d4, a5, d5, a6, d6, rfl, -, -, -, -⟩ := aK h
 have nb1 : Below w.heap.size w (w.alloc (.cells #[.int .i64 x.now, .int .i64 x.events, .int .i64 x.chain.ae, .slice a3 x.chain.ids.length d3, .slice a4 x.nodes.length d4, .slice a5 x.msgs.length d5, .slice a6 x.af.length d6] 39)) := (Below.refl _ _).alloc (Nat.le_refl _) _
 have HB : Hid (Below w.heap.size w ((w.alloc (.cells #[.int .i64 x.now, .int .i64 x.events, .int .i64 x.chain.ae, .slice a3 x.chain.ids.length d3, .slice a4 x.nodes.length d4, .slice a5 x.msgs.length d5, .slice a6 x.af.length d6] 39)).alloc (.cells #[.int .i64 0, .bool false, .int .i64 0, .int .i64 0, .int .i64 0, .slice none 0 0, .slice none 0 0, .slice none 0 0, .slice none 0 0] 41))) := nb1.alloc (by simp) _
 have HX : Hid (aA 0 #[.int .i64 x.now, .int .i64 x.events, .int .i64 x.chain.ae, .slice a3 x.chain.ids.length d3, .slice a4 x.nodes.length d4, .slice a5 x.msgs.length d5, .slice a6 x.af.length d6] 39 ((w.alloc (.cells #[.int .i64 x.now, .int .i64 x.events, .int .i64 x.chain.ae, .slice a3 x.chain.ids.length d3, .slice a4 x.nodes.length d4, .slice a5 x.msgs.length d5, .slice a6 x.af.length d6] 39)).alloc (.cells #[.int .i64 0, .bool false, .int .i64 0, .int .i64 0, .int .i64 0, .slice none 0 0, .slice none 0 0, .slice none 0 0, .slice none 0 0] 41)) w.heap.size) := (aD (Nat.zero_le _)).grow _
 have HY : Hid (aA 0 #[.int .i64 0, .bool false, .int .i64 0, .int .i64 0, .int .i64 0, .slice none 0 0, .slice none 0 0, .slice none 0 0, .slice none 0 0] 41 ((w.alloc (.cells #[.int .i64 x.now, .int .i64 x.events, .int .i64 x.chain.ae, .slice a3 x.chain.ids.length d3, .slice a4 x.nodes.length d4, .slice a5 x.msgs.length d5, .slice a6 x.af.length d6] 39)).alloc (.cells #[.int .i64 0, .bool false, .int .i64 0, .int .i64 0, .int .i64 0, .slice none 0 0, .slice none 0 0, .slice none 0 0, .slice none 0 0] 41)) (w.heap.size + 1)) := bm (Nat.zero_le _) (by simp)
 have hz0 : ((w.alloc (.cells #[.int .i64 x.now, .int .i64 x.events, .int .i64 x.chain.ae, .slice a3 x.chain.ids.length d3, .slice a4 x.nodes.length d4, .slice a5 x.msgs.length d5, .slice a6 x.af.length d6] 39)).alloc (.cells #[.int .i64 0, .bool false, .int .i64 0, .int .i64 0, .int .i64 0, .slice none 0 0, .slice none 0 0, .slice none 0 0, .slice none 0 0] 41)).heap.size = w.heap.size + 2 := by simp
 have HR := yh (h.later (uh HB))
 have HOK := yh hok
 have HF := yh hf
 have HST := yh hstep
 have HCB := yh hc
 clear nb1 h hok hf hstep hc
 go_enter Tryz.func99, Tryz.ntmps99
 go_upto_region 1 with fail
 generalize (w.alloc (.cells #[.int .i64 x.now, .int .i64 x.events, .int .i64 x.chain.ae, .slice a3 x.chain.ids.length d3, .slice a4 x.nodes.length d4, .slice a5 x.msgs.length d5, .slice a6 x.af.length d6] 39)).alloc (.cells #[.int .i64 0, .bool false, .int .i64 0, .int .i64 0, .int .i64 0, .slice none 0 0, .slice none 0 0, .slice none 0 0, .slice none 0 0] 41) = W0 at *
 obtain ⟨z0, z1, z2, z3, z4, z5, z6⟩ := aZ7 (uh HX)
 go_wp2_with fail
 refine (mr _ x W0 (uh HR) (uh HOK) (uh HF)).mono ?_
 rintro e W1 ⟨v3, v4, v5, v6, rfl, O, hb, HCAP⟩
 obtain ⟨a3w, d3w, a4w, d4w, a5w, d5w, a6w, d6w, hq, -⟩ := aK O.reads
 simp only [List.cons.injEq, and_true, true_and] at hq
 obtain ⟨rfl, rfl, rfl, rfl⟩ := hq
 have hz1 : W0.heap.size ≤ W1.heap.size := hb.size
 replace HY := yh ((uh HY).ai hb)
 replace HB := bZ HB hb
 have hO := sJ (g := W1.heap.size) (O.mono (Nat.le_add_right _ 2) (Nat.le_refl _)) (Nat.le_refl _) (Nat.le_refl _)
 replace HCAP := yh HCAP
 clear hb O HX HR HF z0 z1 z2 z3 z4 z5 z6
 have nb : Below W1.heap.size W1 (W1.alloc (.cells #[.int .i64 x.now, .int .i64 x.events, .int .i64 x.chain.ae, .slice a3w x.chain.ids.length d3w, .slice a4w x.nodes.length d4w, .slice a5w x.msgs.length d5w, .slice a6w x.af.length d6w] 39)) := (Below.refl _ _).alloc (Nat.le_refl _) _
 have HG : Hid (aA 0 #[.int .i64 x.now, .int .i64 x.events, .int .i64 x.chain.ae, .slice a3w x.chain.ids.length d3w, .slice a4w x.nodes.length d4w, .slice a5w x.msgs.length d5w, .slice a6w x.af.length d6w] 39 (W1.alloc (.cells #[.int .i64 x.now, .int .i64 x.events, .int .i64 x.chain.ae, .slice a3w x.chain.ids.length d3w, .slice a4w x.nodes.length d4w, .slice a5w x.msgs.length d5w, .slice a6w x.af.length d6w] 39)) W1.heap.size) := aD (Nat.zero_le _)
 have HO := yh (hO.later nb)
 replace HY := yh ((uh HY).ai nb)
 replace HB := bZ HB nb
 have hz2 : (W1.alloc (.cells #[.int .i64 x.now, .int .i64 x.events, .int .i64 x.chain.ae, .slice a3w x.chain.ids.length d3w, .slice a4w x.nodes.length d4w, .slice a5w x.msgs.length d5w, .slice a6w x.af.length d6w] 39)).heap.size = W1.heap.size + 1 := by simp
 clear nb hO
 go_upto_region 2 with fail
 generalize W1.alloc (.cells #[.int .i64 x.now, .int .i64 x.events, .int .i64 x.chain.ae, .slice a3w x.chain.ids.length d3w, .slice a4w x.nodes.length d4w, .slice a5w x.msgs.length d5w, .slice a6w x.af.length d6w] 39) = W2 at *
 have hg := uh HG
 have y1 := aA.at hg 1 _ rfl
 have yf := aA.soft hg
 have yl := hg.lt
 simp only [ga, gb, gc] at y1
 have hxe := (uh HOK).events
 have hg2 := aA.set hg 1 (.int .i64 (x.events + 1))
 simp only [List.setIfInBounds_toArray, List.set_cons_zero, List.set_cons_succ] at hg2
 have e1 : Ext (fun q => q = W1.heap.size) W2 (W2.setCell ⟨W1.heap.size, 1, none⟩ (.int .i64 (x.events + 1))) := (Ext.refl _ _).setCell _ _ rfl
 have hO2 := qA ((uh HO).ext e1 (fun k h1 h2 h3 => h3)) (by omega)
 replace HG := yh hg2
 replace HO := yh hO2
 replace HY := yh ((uh HY).other ⟨W1.heap.size, 1, none⟩ (.int .i64 (x.events + 1)) (by simp; omega))
 replace HB := yh ((uh HB).setCell (p := ⟨W1.heap.size, 1, none⟩) (by simp; omega) (.int .i64 (x.events + 1)))
 have hz3 : (W2.setCell ⟨W1.heap.size, 1, none⟩ (.int .i64 (x.events + 1))).heap.size = W2.heap.size := by simp
 clear hg hg2 e1 hO2
 go_upto_region 3 with fail
 generalize hW : W2.setCell ⟨W1.heap.size, 1, none⟩ (.int .i64 (x.events + 1)) = W3 at *
 clear hW y1 yf yl hxe
 have HC := yh (uh HST W3 (uh HB) W1.heap.size (w.heap.size + 2) _ _ _ _ (by omega) (uh HG) (by omega) (by have := uh HO; rw [hz0] at this; exact this) (uh HCAP))
 clear HST HO HG HCAP
 go_wp2_with fail
 refine (uh HC).mono ?_
 rintro e W4 ⟨m, rfl, hm, he⟩
 replace HY := yh ((uh HY).ext he (by omega))
 replace HB := yh ((uh HB).trans ((mD he (by omega)).mono (by omega)))
 have hz4 := he.size
 clear HC he
 by_cases d1 : c = 0
 ·
  obtain ⟨rfl, u3, u4, u5, u6, hg, hO⟩ := hm d1
  obtain ⟨a3u, d3u, a4u, d4u, a5u, d5u, a6u, d6u, hq, -⟩ := aK hO.reads
  simp only [List.cons.injEq, and_true, true_and] at hq
  obtain ⟨rfl, rfl, rfl, rfl⟩ := hq
  subst d1
  have HRS : Hid (ij 0 m z = ⟨0, m, z⟩) := if_pos rfl
  have y0 := aA.at hg 0 _ rfl
  have y1 := aA.at hg 1 _ rfl
  have y2 := aA.at hg 2 _ rfl
  have y3 := aA.at hg 3 _ rfl
  have y4 := aA.at hg 4 _ rfl
  have y5 := aA.at hg 5 _ rfl
  have y6 := aA.at hg 6 _ rfl
  have hy := uh HY
  have r0 := aA.at hy 0 _ rfl
  have r1 := aA.at hy 1 _ rfl
  have r2 := aA.at hy 2 _ rfl
  have r3 := aA.at hy 3 _ rfl
  have r4 := aA.at hy 4 _ rfl
  have r5 := aA.at hy 5 _ rfl
  have r6 := aA.at hy 6 _ rfl
  have r7 := aA.at hy 7 _ rfl
  have r8 := aA.at hy 8 _ rfl
  simp only [ga, gb, gc] at y0 y1 y2 y3 y4 y5 y6 r0 r1 r2 r3 r4 r5 r6 r7 r8
  have yl := hg.lt
  have rf := aA.soft hy
  have rl := hy.lt
  have e9 : Ext (fun q => q = w.heap.size + 1) W4 (aG W4 (w.heap.size + 1) 0 [.int .i64 0, .bool m, .int .i64 z.now, .int .i64 z.events, .int .i64 z.chain.ae, .slice a3u z.chain.ids.length d3u, .slice a4u z.nodes.length d4u, .slice a5u z.msgs.length d5u, .slice a6u z.af.length d6u]) := bb _ (Ext.refl _ _) _ _ _ rfl
  have HO := yh (tQ (m := m) ((hO.ext e9 (fun k h1 h2 h3 => by omega)).vK))
  have HB2 := yh (aB (uh HB) (w.heap.size + 1) 0 [.int .i64 0, .bool m, .int .i64 z.now, .int .i64 z.events, .int .i64 z.chain.ae, .slice a3u z.chain.ids.length d3u, .slice a4u z.nodes.length d4u, .slice a5u z.msgs.length d5u, .slice a6u z.af.length d6u] (by omega))
  clear hg hy hO e9 HY HB hm
  go_wp2_with fail
  refine bodyPost_ret (v := .agg #[.int .i64 0, .bool m, .int .i64 z.now, .int .i64 z.events, .int .i64 z.chain.ae, .slice a3u z.chain.ids.length d3u, .slice a4u z.nodes.length d4u, .slice a5u z.msgs.length d5u, .slice a6u z.af.length d6u]) (by simp [results, Tryz.results99, go_sem, r0, r1, r2, r3, r4, r5, r6, r7, r8]) rfl ?_
  rw [uh HRS]
  exact ⟨_, rfl, (uh HO).mono (by omega) (Nat.le_refl _), uh HB2⟩
 have hd : (c != 0) = true := by simpa using d1
 have HRS : Hid (ij c mv z = cm c) := if_neg d1
 clear hm d1
 have hy := uh HY
 obtain ⟨r0, r1, r2, r3, r4, r5, r6, r7, r8⟩ := aZ9 hy
 have rf := aA.soft hy
 have rl := hy.lt
 have HB2 := yh (aB (uh HB) (w.heap.size + 1) 0 [.int .i64 c, .bool false, .int .i64 0, .int .i64 0, .int .i64 0, .slice none 0 0, .slice none 0 0, .slice none 0 0, .slice none 0 0] (by omega))
 clear hy HY HB
 go_wp2_with fail
 refine bodyPost_ret (v := .agg #[.int .i64 c, .bool false, .int .i64 0, .int .i64 0, .int .i64 0, .slice none 0 0, .slice none 0 0, .slice none 0 0, .slice none 0 0]) (by simp [results, Tryz.results99, go_sem, r0, r1, r2, r3, r4, r5, r6, r7, r8]) rfl ?_
 rw [uh HRS]
 exact ⟨_, rfl, eo (uh HCB) (uh HB2).size, uh HB2⟩
theorem fK {lo : Nat} {T : TypeId} {W : World} {s : Nat} {c0 c1 c2 c3 c4 c5 c6 c7 c8 : Value} (h : aA lo #[c0, c1, c2, c3, c4, c5, c6, c7, c8] T W s) (v0 v1 v2 v3 v4 v5 v6 v7 v8 : Value) : aA lo #[v0, v1, v2, v3, v4, v5, v6, v7, v8] T (aG W s 0 [v0, v1, v2, v3, v4, v5, v6, v7, v8]) s := by
 have q := (aA.set (aA.set (aA.set (aA.set (aA.set (aA.set (aA.set (aA.set (aA.set h 0 v0) 1 v1) 2 v2) 3 v3) 4 v4) 5 v5) 6 v6) 7 v7) 8 v8)
 simp only [List.setIfInBounds_toArray, List.set_cons_zero, List.set_cons_succ] at q
 exact q
theorem pQ (p q s : Nat) (c : Int) (w : World) (hx : aA 0 #[.int .i64 c, .bool false, .int .i64 0, .int .i64 0, .int .i64 0, .slice none 0 0, .slice none 0 0, .slice none 0 0, .slice none 0 0] 41 w p) (hc : c ≠ 0) :
  CallsD Tryz.prog 98 #[.pointer (some ⟨p, 0, none⟩), .pointer (some ⟨q, 0, none⟩), .pointer (some ⟨s, 0, none⟩)] .returning w fun e u' w' => u' = .returning ∧ (e = .returned (.tuple #[]) ∧ w' = w) := by
 have r0 := aA.at hx 0 _ rfl
 simp only [List.getElem_toArray, List.getElem_cons_zero] at r0
 have hd : (c == 0) = false := by simpa using hc
 have rl := hx.lt
 clear hx hc
 refine CallsD.mono (R := fun e u' w' => u' = .returning ∧ (e = .returned (.tuple #[]) ∧ w' = w)) ?_ (fun _ _ _ q => q)
 go_enter_d Tryz.func98, Tryz.ntmps98
 go_wp2_with fail
 go_end0
 exact ⟨rfl, rfl⟩
theorem vc (p q s N : Nat) (cap : Array Value) (a3 : Option Addr) (d3 : Nat) (a4 : Option Addr) (d4 : Nat) (a5 : Option Addr) (d5 : Nat) (a6 : Option Addr) (d6 : Nat) (x : ay) (c : Int) (mv : Bool) (z : ay) (w : World) (hx : aA 0 #[.int .i64 0, .bool false, .int .i64 0, .int .i64 0, .int .i64 0, .slice none 0 0, .slice none 0 0, .slice none 0 0, .slice none 0 0] 41 w p) (hw : aA 0 #[.int .i64 x.now, .int .i64 x.events, .int .i64 x.chain.ae, .slice a3 x.chain.ids.length d3, .slice a4 x.nodes.length d4, .slice a5 x.msgs.length d5, .slice a6 x.af.length d6] 39 w q) (hs : aA 0 #[.func (.func N) #[] cap] 97 w s)
  (hfa : ∀ (a : Array Value) (W : World), (callFunc N (a ++ cap)).run Tryz.prog W = .ok (.enter N (a ++ cap)) W) (h : ab.aF.Reads w [.int .i64 x.now, .int .i64 x.events, .int .i64 x.chain.ae, .slice a3 x.chain.ids.length d3, .slice a4 x.nodes.length d4, .slice a5 x.msgs.length d5, .slice a6 x.af.length d6] x) (hok : ej x) (hf : Fits x) (hc : -1000000000 ≤ c ∧ c ≤ 1000000000) (hstep : ∀ W, Below w.heap.size w W → pr w.heap.size N cap (cI x) c mv z W) :
  CallsD Tryz.prog 98 #[.pointer (some ⟨p, 0, none⟩), .pointer (some ⟨q, 0, none⟩), .pointer (some ⟨s, 0, none⟩)] .returning w fun e u' w' => u' = .returning ∧ (e = .returned (.tuple #[]) ∧ ∃ cs w1 lo, w' = aG w1 p 0 cs ∧ cs.length = 9 ∧ aA 0 #[.int .i64 0, .bool false, .int .i64 0, .int .i64 0, .int .i64 0, .slice none 0 0, .slice none 0 0, .slice none 0 0, .slice none 0 0] 41 w1 p ∧ ab.aE.aN w1 cs (ij c mv z) lo w1.heap.size ∧ w.heap.size ≤ lo ∧ Below w.heap.size w w1) := by
 have HL := yh (uk N cap _ x c mv z w hfa h hok hf hc hstep)
 have HX := yh hx
 obtain ⟨z0, z1, z2, z3, z4, z5, z6⟩ := aZ7 hw
 have s0 := aA.at hs 0 _ rfl
 have r0 := aA.at hx 0 _ rfl
 simp only [List.getElem_toArray, List.getElem_cons_zero] at s0 r0
 have zl := hw.lt
 have sl := hs.lt
 have rl := hx.lt
 clear hx hw hs h hok hf hstep hfa
 generalize ij c mv z = y at *
 go_enter_d Tryz.func98, Tryz.ntmps98
 go_wp2_with fail
 refine (uh HL).mono ?_
 rintro e w1 ⟨cs, rfl, O, hb⟩
 obtain ⟨a5, d5, a6, d6, a7, d7, a8, d8, rfl, -⟩ := br O.reads
 have hx := (uh HX).ai hb
 have HX1 := yh hx
 clear r0
 obtain ⟨r0, r1, r2, r3, r4, r5, r6, r7, r8⟩ := aZ9 hx
 have rf := aA.soft hx
 have HO := yh O
 have HB := yh hb
 have rl1 := hx.lt
 clear hx O hb HL HX s0 zl sl rl z0 z1 z2 z3 z4 z5 z6
 go_wp2_with fail
 go_end0
 exact ⟨rfl, [.int .i64 y.code, .bool y.aZ, .int .i64 y.world.now, .int .i64 y.world.events, .int .i64 y.world.chain.ae, .slice a5 y.world.chain.ids.length d5, .slice a6 y.world.nodes.length d6, .slice a7 y.world.msgs.length d7, .slice a8 y.world.af.length d8], w1, w.heap.size, rfl, rfl, uh HX1, uh HO, Nat.le_refl _, uh HB⟩
def dm (x : ay) (wrong c : Int) (mv : Bool) (z : ay) : bk := if wrong ≠ 0 then cm wrong else if 9999 ≤ x.events then cm 2 else ij c mv z
theorem nc (N : Nat) (cap : Array Value) (cs : List Value) (x : ay) (wrong c : Int) (mv : Bool) (z : ay) (w : World) (hfa : ∀ (a : Array Value) (W : World), (callFunc N (a ++ cap)).run Tryz.prog W = .ok (.enter N (a ++ cap)) W) (h : ab.aF.Reads w cs x) (hok : wrong = 0 → ej x) (hf : Fits x) (hc : -1000000000 ≤ c ∧ c ≤ 1000000000) (hwr : -1000000000 ≤ wrong ∧ wrong ≤ 1000000000)
  (hstep : wrong = 0 → ∀ W, Below w.heap.size w W → pr w.heap.size N cap (cI x) c mv z W) :
  Calls Tryz.prog 45 #[.agg cs.toArray, .int .i64 wrong, .func (.func N) #[] cap] w fun e w' => ∃ cs', e = .returned (.agg cs'.toArray) ∧ ab.aE.aN w' cs' (dm x wrong c mv z) w.heap.size w'.heap.size ∧ Below w.heap.size w w' := by
 have hmf : ∀ (fn : Fn) (first cap : Array Value) (w : World), (Instr.makeFunc fn first cap).run Tryz.prog w = .ok (.func fn first cap) w := fun _ _ _ _ => rfl
 obtain ⟨a3, d3, a4, d4, a5, d5, a6, d6, rfl, -, -, -, -⟩ := aK h
 have nb : Below w.heap.size w (((w.alloc (.cells #[.int .i64 x.now, .int .i64 x.events, .int .i64 x.chain.ae, .slice a3 x.chain.ids.length d3, .slice a4 x.nodes.length d4, .slice a5 x.msgs.length d5, .slice a6 x.af.length d6] 39)).alloc (.cells #[.func (.func N) #[] cap] 97)).alloc (.cells #[.int .i64 0, .bool false, .int .i64 0, .int .i64 0, .int .i64 0, .slice none 0 0, .slice none 0 0, .slice none 0 0, .slice none 0 0] 41)) := (((Below.refl _ _).alloc (Nat.le_refl _) _).alloc (by simp) _).alloc (by simp; omega) _
 have HX : Hid (aA 0 #[.int .i64 x.now, .int .i64 x.events, .int .i64 x.chain.ae, .slice a3 x.chain.ids.length d3, .slice a4 x.nodes.length d4, .slice a5 x.msgs.length d5, .slice a6 x.af.length d6] 39 (((w.alloc (.cells #[.int .i64 x.now, .int .i64 x.events, .int .i64 x.chain.ae, .slice a3 x.chain.ids.length d3, .slice a4 x.nodes.length d4, .slice a5 x.msgs.length d5, .slice a6 x.af.length d6] 39)).alloc (.cells #[.func (.func N) #[] cap] 97)).alloc (.cells #[.int .i64 0, .bool false, .int .i64 0, .int .i64 0, .int .i64 0, .slice none 0 0, .slice none 0 0, .slice none 0 0, .slice none 0 0] 41)) w.heap.size) := ((aD (Nat.zero_le _)).grow _).grow _
 have HS : Hid (aA 0 #[.func (.func N) #[] cap] 97 (((w.alloc (.cells #[.int .i64 x.now, .int .i64 x.events, .int .i64 x.chain.ae, .slice a3 x.chain.ids.length d3, .slice a4 x.nodes.length d4, .slice a5 x.msgs.length d5, .slice a6 x.af.length d6] 39)).alloc (.cells #[.func (.func N) #[] cap] 97)).alloc (.cells #[.int .i64 0, .bool false, .int .i64 0, .int .i64 0, .int .i64 0, .slice none 0 0, .slice none 0 0, .slice none 0 0, .slice none 0 0] 41)) (w.heap.size + 1)) := (bm (Nat.zero_le _) (by simp)).grow _
 have HY : Hid (aA 0 #[.int .i64 0, .bool false, .int .i64 0, .int .i64 0, .int .i64 0, .slice none 0 0, .slice none 0 0, .slice none 0 0, .slice none 0 0] 41 (((w.alloc (.cells #[.int .i64 x.now, .int .i64 x.events, .int .i64 x.chain.ae, .slice a3 x.chain.ids.length d3, .slice a4 x.nodes.length d4, .slice a5 x.msgs.length d5, .slice a6 x.af.length d6] 39)).alloc (.cells #[.func (.func N) #[] cap] 97)).alloc (.cells #[.int .i64 0, .bool false, .int .i64 0, .int .i64 0, .int .i64 0, .slice none 0 0, .slice none 0 0, .slice none 0 0, .slice none 0 0] 41)) (w.heap.size + 1 + 1)) := bm (Nat.zero_le _) (by simp)
 have hz0 : (((w.alloc (.cells #[.int .i64 x.now, .int .i64 x.events, .int .i64 x.chain.ae, .slice a3 x.chain.ids.length d3, .slice a4 x.nodes.length d4, .slice a5 x.msgs.length d5, .slice a6 x.af.length d6] 39)).alloc (.cells #[.func (.func N) #[] cap] 97)).alloc (.cells #[.int .i64 0, .bool false, .int .i64 0, .int .i64 0, .int .i64 0, .slice none 0 0, .slice none 0 0, .slice none 0 0, .slice none 0 0] 41)).heap.size = w.heap.size + 3 := by simp
 have HR := yh (h.later nb)
 have HRD := h
 have HB := yh nb
 clear nb h
 have HWR := yh hwr
 by_cases hw : wrong ≠ 0
 ·
  have hd : (wrong != 0) = true := by simpa using hw
  have HRS : Hid (dm x wrong c mv z = cm wrong) := if_pos hw
  have HW := yh hw
  clear hok hstep hfa hf hc hwr hw
  go_enter_defers Tryz.func45, Tryz.ntmps45
  go_upto_region 1 with fail
  generalize ((w.alloc (.cells #[.int .i64 x.now, .int .i64 x.events, .int .i64 x.chain.ae, .slice a3 x.chain.ids.length d3, .slice a4 x.nodes.length d4, .slice a5 x.msgs.length d5, .slice a6 x.af.length d6] 39)).alloc (.cells #[.func (.func N) #[] cap] 97)).alloc (.cells #[.int .i64 0, .bool false, .int .i64 0, .int .i64 0, .int .i64 0, .slice none 0 0, .slice none 0 0, .slice none 0 0, .slice none 0 0] 41) = W0 at *
  have hy := uh HY
  obtain ⟨r0, r1, r2, r3, r4, r5, r6, r7, r8⟩ := aZ9 hy
  have rf := aA.soft hy
  have rl := hy.lt
  have hy2 := fK hy (.int .i64 wrong) (.bool false) (.int .i64 0) (.int .i64 0) (.int .i64 0) (.slice none 0 0) (.slice none 0 0) (.slice none 0 0) (.slice none 0 0)
  have HQ := yh (pQ (w.heap.size + 1 + 1) w.heap.size (w.heap.size + 1) wrong _ hy2 (uh HW))
  have HY2 := yh hy2
  have HB2 := yh (aB (uh HB) (w.heap.size + 1 + 1) 0 [.int .i64 wrong, .bool false, .int .i64 0, .int .i64 0, .int .i64 0, .slice none 0 0, .slice none 0 0, .slice none 0 0, .slice none 0 0] (by omega))
  clear hy hy2 HY HB
  go_wp2_with fail
  refine leaves_cons (f := 98) (args := #[.pointer (some ⟨w.heap.size + 1 + 1, 0, none⟩), .pointer (some ⟨w.heap.size, 0, none⟩), .pointer (some ⟨w.heap.size + 1, 0, none⟩)]) (by simp) (by simp [go_sem]) ?_
  refine (uh HQ).mono ?_
  rintro e u' w2 ⟨rfl, rfl, rfl⟩
  have hy2 := uh HY2
  clear r0 r1 r2 r3 r4 r5 r6 r7 r8 rf rl
  obtain ⟨r0, r1, r2, r3, r4, r5, r6, r7, r8⟩ := aZ9 hy2
  refine ⟨.agg #[.int .i64 wrong, .bool false, .int .i64 0, .int .i64 0, .int .i64 0, .slice none 0 0, .slice none 0 0, .slice none 0 0, .slice none 0 0], ?_, ?_⟩
  ·
   simp [results, Tryz.results45, go_sem, r0, r1, r2, r3, r4, r5, r6, r7, r8]
  rw [uh HRS]
  exact ⟨[.int .i64 wrong, .bool false, .int .i64 0, .int .i64 0, .int .i64 0, .slice none 0 0, .slice none 0 0, .slice none 0 0, .slice none 0 0], rfl, eo (uh HWR) (uh HB2).size, uh HB2⟩
 have hw0 : wrong = 0 := by simpa using hw
 subst hw0
 by_cases he : 9999 ≤ x.events
 ·
  have hd : decide (9999 ≤ x.events) = true := by simpa using he
  have HRS : Hid (dm x 0 c mv z = cm 2) := by show dm x 0 c mv z = _; rw [dm, if_neg (by simp), if_pos he]
  clear hok hstep hfa hf hc hwr hw he
  go_enter_defers Tryz.func45, Tryz.ntmps45
  go_upto_region 1 with fail
  generalize ((w.alloc (.cells #[.int .i64 x.now, .int .i64 x.events, .int .i64 x.chain.ae, .slice a3 x.chain.ids.length d3, .slice a4 x.nodes.length d4, .slice a5 x.msgs.length d5, .slice a6 x.af.length d6] 39)).alloc (.cells #[.func (.func N) #[] cap] 97)).alloc (.cells #[.int .i64 0, .bool false, .int .i64 0, .int .i64 0, .int .i64 0, .slice none 0 0, .slice none 0 0, .slice none 0 0, .slice none 0 0] 41) = W0 at *
  have hx1 := aA.at (uh HX) 1 _ rfl
  simp only [ga, gb, gc] at hx1
  have hxl := (uh HX).lt
  have hy := uh HY
  obtain ⟨r0, r1, r2, r3, r4, r5, r6, r7, r8⟩ := aZ9 hy
  have rf := aA.soft hy
  have rl := hy.lt
  have hy2 := fK hy (.int .i64 2) (.bool false) (.int .i64 0) (.int .i64 0) (.int .i64 0) (.slice none 0 0) (.slice none 0 0) (.slice none 0 0) (.slice none 0 0)
  have HQ := yh (pQ (w.heap.size + 1 + 1) w.heap.size (w.heap.size + 1) 2 _ hy2 (by decide))
  have HY2 := yh hy2
  have HB2 := yh (aB (uh HB) (w.heap.size + 1 + 1) 0 [.int .i64 2, .bool false, .int .i64 0, .int .i64 0, .int .i64 0, .slice none 0 0, .slice none 0 0, .slice none 0 0, .slice none 0 0] (by omega))
  clear hy hy2 HY HB
  go_wp2_with fail
  refine leaves_cons (f := 98) (args := #[.pointer (some ⟨w.heap.size + 1 + 1, 0, none⟩), .pointer (some ⟨w.heap.size, 0, none⟩), .pointer (some ⟨w.heap.size + 1, 0, none⟩)]) (by simp) (by simp [go_sem]) ?_
  refine (uh HQ).mono ?_
  rintro e u' w2 ⟨rfl, rfl, rfl⟩
  have hy2 := uh HY2
  clear r0 r1 r2 r3 r4 r5 r6 r7 r8 rf rl
  obtain ⟨r0, r1, r2, r3, r4, r5, r6, r7, r8⟩ := aZ9 hy2
  refine ⟨.agg #[.int .i64 2, .bool false, .int .i64 0, .int .i64 0, .int .i64 0, .slice none 0 0, .slice none 0 0, .slice none 0 0, .slice none 0 0], ?_, ?_⟩
  ·
   simp [results, Tryz.results45, go_sem, r0, r1, r2, r3, r4, r5, r6, r7, r8]
  rw [uh HRS]
  exact ⟨[.int .i64 2, .bool false, .int .i64 0, .int .i64 0, .int .i64 0, .slice none 0 0, .slice none 0 0, .slice none 0 0, .slice none 0 0], rfl, eo (by decide) (uh HB2).size, uh HB2⟩
 have hd : decide (9999 ≤ x.events) = false := by simpa using he
 have HRS : Hid (dm x 0 c mv z = ij c mv z) := by show dm x 0 c mv z = _; rw [dm, if_neg (by simp), if_neg he]
 have HOK := yh (hok rfl)
 have HST := yh (hstep rfl)
 have HFA := yh hfa
 have HF := yh hf
 have HC := yh hc
 clear hok hstep hfa hf hc hwr hw he
 go_enter_defers Tryz.func45, Tryz.ntmps45
 go_upto_region 1 with fail
 generalize ((w.alloc (.cells #[.int .i64 x.now, .int .i64 x.events, .int .i64 x.chain.ae, .slice a3 x.chain.ids.length d3, .slice a4 x.nodes.length d4, .slice a5 x.msgs.length d5, .slice a6 x.af.length d6] 39)).alloc (.cells #[.func (.func N) #[] cap] 97)).alloc (.cells #[.int .i64 0, .bool false, .int .i64 0, .int .i64 0, .int .i64 0, .slice none 0 0, .slice none 0 0, .slice none 0 0, .slice none 0 0] 41) = W0 at *
 have hx1 := aA.at (uh HX) 1 _ rfl
 simp only [ga, gb, gc] at hx1
 have hxl := (uh HX).lt
 have hy := uh HY
 obtain ⟨r0, r1, r2, r3, r4, r5, r6, r7, r8⟩ := aZ9 hy
 have rf := aA.soft hy
 have rl := hy.lt
 have hy2 := fK hy (.int .i64 0) (.bool false) (.int .i64 0) (.int .i64 0) (.int .i64 0) (.slice none 0 0) (.slice none 0 0) (.slice none 0 0) (.slice none 0 0)
 have e1 : Ext (fun q => q = w.heap.size + 1 + 1) W0 (aG W0 (w.heap.size + 1 + 1) 0 [.int .i64 0, .bool false, .int .i64 0, .int .i64 0, .int .i64 0, .slice none 0 0, .slice none 0 0, .slice none 0 0, .slice none 0 0]) := bb _ (Ext.refl _ _) _ _ _ rfl
 have hb2 := aB (uh HB) (w.heap.size + 1 + 1) 0 [.int .i64 0, .bool false, .int .i64 0, .int .i64 0, .int .i64 0, .slice none 0 0, .slice none 0 0, .slice none 0 0, .slice none 0 0] (by omega)
 have HR2 := yh (((uh HR).dd.mono (Nat.le_refl _) (Nat.le_refl _)).reads)
 have HQ := yh (vc (w.heap.size + 1 + 1) w.heap.size (w.heap.size + 1) N cap a3 d3 a4 d4 a5 d5 a6 d6 x c mv z _ hy2 ((uh HX).ext e1 (by omega)) ((uh HS).ext e1 (by omega)) (uh HFA) (HRD.later hb2) (uh HOK) (uh HF) (uh HC) (fun W hW g lo v3 v4 v5 v6 hL => uh HST W (hb2.trans (hW.mono hb2.size)) g lo v3 v4 v5 v6 (Nat.le_trans hb2.size hL)))
 have HB2 := yh hb2
 clear hy hy2 HY HB HR HR2 HX HS HST e1 hb2 HRD
 go_wp2_with fail
 refine leaves_cons (f := 98) (args := #[.pointer (some ⟨w.heap.size + 1 + 1, 0, none⟩), .pointer (some ⟨w.heap.size, 0, none⟩), .pointer (some ⟨w.heap.size + 1, 0, none⟩)]) (by simp) (by simp [go_sem]) ?_
 refine (uh HQ).mono ?_
 rintro e u' w2 ⟨rfl, rfl, cs, w1, lo, rfl, hl, hx, O, hlo, hb⟩
 obtain ⟨a5r, d5r, a6r, d6r, a7r, d7r, a8r, d8r, rfl, -⟩ := br O.reads
 rw [uh HRS]
 generalize ij c mv z = y at *
 have hy2 := fK hx (.int .i64 y.code) (.bool y.aZ) (.int .i64 y.world.now) (.int .i64 y.world.events) (.int .i64 y.world.chain.ae) (.slice a5r y.world.chain.ids.length d5r) (.slice a6r y.world.nodes.length d6r) (.slice a7r y.world.msgs.length d7r) (.slice a8r y.world.af.length d8r)
 clear r0 r1 r2 r3 r4 r5 r6 r7 r8 rf rl
 obtain ⟨r0, r1, r2, r3, r4, r5, r6, r7, r8⟩ := aZ9 hy2
 have e2 : Ext (fun q => q = w.heap.size + 1 + 1) w1 (aG w1 (w.heap.size + 1 + 1) 0 [.int .i64 y.code, .bool y.aZ, .int .i64 y.world.now, .int .i64 y.world.events, .int .i64 y.world.chain.ae, .slice a5r y.world.chain.ids.length d5r, .slice a6r y.world.nodes.length d6r, .slice a7r y.world.msgs.length d7r, .slice a8r y.world.af.length d8r]) := bb _ (Ext.refl _ _) _ _ _ rfl
 have hsz := (uh HB2).size
 have hO := (O.ext e2 (fun q h1 h2 h3 => by have := bL W0 (w.heap.size + 1 + 1) 0 [.int .i64 0, .bool false, .int .i64 0, .int .i64 0, .int .i64 0, .slice none 0 0, .slice none 0 0, .slice none 0 0, .slice none 0 0]; omega))
 refine ⟨.agg #[.int .i64 y.code, .bool y.aZ, .int .i64 y.world.now, .int .i64 y.world.events, .int .i64 y.world.chain.ae, .slice a5r y.world.chain.ids.length d5r, .slice a6r y.world.nodes.length d6r, .slice a7r y.world.msgs.length d7r, .slice a8r y.world.af.length d8r], ?_, ?_⟩
 ·
  simp [results, Tryz.results45, go_sem, r0, r1, r2, r3, r4, r5, r6, r7, r8]
 exact ⟨[.int .i64 y.code, .bool y.aZ, .int .i64 y.world.now, .int .i64 y.world.events, .int .i64 y.world.chain.ae, .slice a5r y.world.chain.ids.length d5r, .slice a6r y.world.nodes.length d6r, .slice a7r y.world.msgs.length d7r, .slice a8r y.world.af.length d8r], rfl, hO.mono (by omega) (Nat.le_of_eq (bL _ _ _ _).symm), aB ((uh HB2).trans (hb.mono hsz)) (w.heap.size + 1 + 1) 0 [.int .i64 y.code, .bool y.aZ, .int .i64 y.world.now, .int .i64 y.world.events, .int .i64 y.world.chain.ae, .slice a5r y.world.chain.ids.length d5r, .slice a6r y.world.nodes.length d6r, .slice a7r y.world.msgs.length d7r, .slice a8r y.world.af.length d8r] (by omega)⟩
theorem lx {x : ay} {id : Int} (h : cz x id = true) : ∃ k, ∃ _ : k < x.nodes.length, id = (k : Int) + 1 := by
 simp only [cz, Bool.and_eq_true, decide_eq_true_eq] at h
 exact ⟨(id - 1).toNat, by omega, by omega⟩
theorem dH {x : ay} {k : Nat} (hk : k < x.nodes.length) : ct x ((k : Int) + 1) = x.nodes[k] := by
 have : ((k : Int) + 1 - 1).toNat = k := by omega
 rw [ct, this]
 simp [List.getD, hk]
theorem iv (l : List Int) : al ab.int.bV l = l.length := by
 induction l with
 | nil => rfl
 | cons y ys ih => simp only [al, List.length_cons, ih]; show 1 + ys.length = _; omega
structure mx (y : ay) : Prop where
 ids : y.chain.ids.length ≤ 1000
 len : y.nodes.length ≤ 1000
 nodes : ∀ n ∈ y.nodes, n.writes.length ≤ 1000 ∧ ∀ v ∈ n.writes, wF v = 0
 ua : y.msgs.length ≤ 1000
 msgs : ∀ m ∈ y.msgs, m.write.vec.length ≤ 1000
 oq : al ab.ar.bV y.af ≤ 20000000
theorem qu {ns : List aV} (h : ∀ n ∈ ns, n.writes.length ≤ 1000 ∧ ∀ v ∈ n.writes, wF v = 0) : al ab.ax.bV ns ≤ 10006 * ns.length := by
 induction ns with
 | nil => simp [al]
 | cons n ns ih =>
  have h1 := ih fun m hm => h m (List.mem_cons_of_mem _ hm)
  obtain ⟨h2, h3⟩ := h n (by simp)
  have h4 := nL h3
  have h5 : ab.ax.bV n = al ab.ag.bV n.writes + 6 := by
   show 1 + (1 + (1 + (1 + (al ab.ag.bV n.writes + (1 + 1))))) = _
   omega
  simp only [al, List.length_cons]
  omega
theorem sN {x : bP} (h : aL x = 0) : x.write.vec.length ≤ 3 := by
 unfold aL at h
 split at h
 ·
  simp at h
 rename_i h1
 split at h
 ·
  simp at h
 split at h
 ·
  rename_i h3
  have h4 : mQ x.write := Decidable.byContradiction fun q => h1 (Or.inr (Or.inr ⟨h3, q⟩))
  have := h4.2.2.2.2
  omega
 obtain ⟨-, -, -, hk⟩ := bW h
 rcases hk with ⟨-, hv⟩ | ⟨-, hv⟩
 ·
  have := (cy hv).1; omega
 rw [hv]; simp
theorem s9 {ms : List bP} (h : ∀ m ∈ ms, m.write.vec.length ≤ 1000) : al ab.aQ.bV ms ≤ 1009 * ms.length := by
 induction ms with
 | nil => simp [al]
 | cons m ms ih =>
  have h1 := ih fun q hq => h q (List.mem_cons_of_mem _ hq)
  have h2 := h m (by simp)
  have h5 : ab.aQ.bV m = m.write.vec.length + 9 := by
   show 1 + (1 + (1 + (1 + (1 + (1 + (1 + (al ab.int.bV m.write.vec + (1 + 1)))))))) = _
   rw [iv]
   omega
  simp only [al, List.length_cons]
  omega
theorem tl (hs : List eG) : al ab.bq.bV hs = 2 * hs.length := by
 induction hs with
 | nil => rfl
 | cons y ys ih => simp only [al, List.length_cons, ih]; show 1 + 1 + 2 * ys.length = _; omega
theorem iT (es : List bj) : al ab.ar.bV es ≤ 8 * es.length + 2 * al ab.ar.sz es := by
 induction es with
 | nil => simp [al]
 | cons e es ih =>
  have h1 : ab.ar.bV e = 8 + e.query.length + e.vec.length + 2 * e.aY.length := by
   show 1 + (1 + (1 + (1 + (al ab.int.bV e.query + (1 + (1 + (1 + (1 + (al ab.int.bV e.vec + al ab.bq.bV e.aY))))))))) = _
   rw [iv, iv, tl]
   omega
  have h2 : e.query.length + e.vec.length + e.aY.length ≤ ab.ar.sz e := by
   show _ ≤ 0 + (0 + (0 + (0 + ((e.query.length + al ab.int.sz e.query) + (0 + (0 + (0 + (0 + ((e.vec.length + al ab.int.sz e.vec) + (e.aY.length + al ab.bq.sz e.aY))))))))))
   omega
  simp only [al, List.length_cons]
  omega
theorem qW {x : ay} (h : ej x) (hs : ab.aF.sz x ≤ 1048576) : mx x := by
 have hx : ab.aF.sz x = 0 + (0 + ((0 + (x.chain.ids.length + al ab.int.sz x.chain.ids)) + ((x.nodes.length + al ab.ax.sz x.nodes) + ((x.msgs.length + al ab.aQ.sz x.msgs) + (x.af.length + al ab.ar.sz x.af))))) := rfl
 have h1 := (cB h.chain).len
 have h2 := iT x.af
 refine ⟨by omega, by have := h.some; omega, fun n hn => ?_, by have := (dx h.vz).1; omega, fun m hm => ?_, by omega⟩
 ·
  obtain ⟨k, hk, rfl⟩ := List.getElem_of_mem hn
  have hok := cR (h.nodes k hk).1
  exact ⟨by have := hok.len; omega, hok.ws⟩
 have := sN ((dx h.vz).2 m hm)
 omega
theorem jI {y : bk} (h : mx y.world) : ab.aE.ak y ≤ 100000000 := by
 rw [dc, fe, fg]
 show al ab.int.bV y.world.chain.ids + al ab.ax.bV y.world.nodes + al ab.aQ.bV y.world.msgs + al ab.ar.bV y.world.af ≤ 100000000
 rw [iv]
 have h1 := qu h.nodes
 have h2 := s9 h.msgs
 have h3 := h.ids
 have h4 := h.len
 have h5 := h.ua
 have h6 := h.oq
 omega
theorem fH (c : Int) : ab.aE.ak (cm c) ≤ 100000000 := jI ⟨by simp [cm, eP, pY], by simp [cm, eP], by simp [cm, eP], by simp [cm, eP], by simp [cm, eP], by simp [cm, eP, al]⟩
theorem sX {x : ay} (h : mx x) : mx (cI x) := ⟨h.ids, h.len, h.nodes, h.ua, h.msgs, h.oq⟩
theorem sI {y : ay} {k : Nat} {n : aV} (h : mx y) (hn : n.writes.length ≤ 1000 ∧ ∀ v ∈ n.writes, wF v = 0) : mx (gX y k n) := by
 refine ⟨h.ids, by show (y.nodes.set k n).length ≤ 1000; simpa using h.len, fun m hm => ?_, h.ua, h.msgs, h.oq⟩
 rcases List.mem_or_eq_of_mem_set hm with q | rfl
 ·
  exact h.nodes m q
 exact hn
theorem tZ {y : ay} {n : aV} (h : mx y) (hn : n.writes.length ≤ 1000 ∧ ∀ v ∈ n.writes, wF v = 0) : mx (dA y n) := sI (k := (n.id - 1).toNat) h hn
theorem qP {x : ay} (h : mx x) (id : Int) : (ct x id).writes.length ≤ 1000 ∧ ∀ v ∈ (ct x id).writes, wF v = 0 := by
 by_cases hk : (id - 1).toNat < x.nodes.length
 ·
  have e : ct x id = x.nodes[(id - 1).toNat] := by
   unfold ct
   generalize (id - 1).toNat = j at *
   simp [List.getD, hk]
  rw [e]
  exact h.nodes _ (List.getElem_mem hk)
 have e : ct x id = iy := by
  unfold ct
  generalize (id - 1).toNat = j at *
  simp [List.getD, List.getElem?_eq_none (by omega : x.nodes.length ≤ j)]
 rw [e]
 exact ⟨by simp [iy], fun v hv => by simp [iy] at hv⟩
def lP (es : List bj) (s q : Int) : Nat := es.findIdx (cA s q)
def df (es : List bj) (s q : Int) : Int := if lP es s q < es.length then (lP es s q : Int) else -1
theorem rK {es : List bj} {s q : Int} {k : Nat} (hk : k < es.length) (h : cA s q es[k] = true) (hb : ∀ j (hj : j < k), cA s q es[j] = false) : lP es s q = k := by
 unfold lP
 rw [List.findIdx_eq hk]
 exact ⟨h, fun j hj => by simpa using hb j hj⟩
theorem nG {es : List bj} {s q : Int} {k : Nat} (hk : k < es.length) (h : cA s q es[k] = true) (hb : ∀ j (hj : j < es.length), j < k → cA s q es[j] = false) : df es s q = (k : Int) := by
 rw [df, rK hk h (fun j hj => hb j (by omega) hj), if_pos hk]
theorem gO {es : List bj} {s q : Int} (hb : ∀ j (hj : j < es.length), cA s q es[j] = false) : df es s q = -1 := by
 rw [df, if_neg]
 unfold lP
 intro h
 obtain ⟨e, he, h2⟩ := List.findIdx_lt_length.1 h
 obtain ⟨j, hj, rfl⟩ := List.getElem_of_mem he
 rw [hb j hj] at h2
 exact absurd h2 (by decide)
theorem lQ (es : List bj) (s q : Int) : decide (0 ≤ df es s q) = es.any (cA s q) := by
 by_cases h : es.any (cA s q) = true
 ·
  rw [h]
  obtain ⟨e, he, h2⟩ := List.any_eq_true.1 h
  have := List.findIdx_lt_length.2 ⟨e, he, h2⟩
  rw [df, if_pos (show lP es s q < es.length from this)]
  simp
 have h1 : es.any (cA s q) = false := by simpa using h
 rw [h1]
 have : df es s q = -1 := gO (fun j hj => by
  have := List.any_eq_false.1 h1 es[j] (List.getElem_mem hj)
  simpa using this)
 rw [this]
 rfl
theorem hJ {s q : Int} {e : bj} (h : (e.kind == 1) = false) : cA s q e = false := by simp [cA, h]
theorem hZ {s q : Int} {e : bj} (h : (e.aa == s) = false) : cA s q e = false := by simp [cA, h]
theorem ie {s q : Int} {e : bj} (h : (e.seq == q) = false) : cA s q e = false := by simp [cA, h]
theorem jN {s q : Int} {e : bj} (h : (e.kind == 1) = true) (h2 : (e.aa == s) = true) (h3 : (e.seq == q) = true) : cA s q e = true := by simp [cA, h, h2, h3]
def il (x : ay) (id : Int) : Bool := decide (0 ≤ bK x.chain.ids id) && ((ct x id).up && (ct x id).ae == x.chain.ae)
theorem oK (x : ay) (id : Int) : il x id = cT x id := by
 unfold il cT
 cases decide (0 ≤ bK x.chain.ids id) <;> cases (ct x id).up <;> simp
theorem qS (cs : List Value) (x : ay) (id : Int) (w : World) (h : ab.aF.Reads w cs x) (hi : ∀ z ∈ x.chain.ids, cz x z = true) (hn5 : x.nodes.length ≤ 5) :
  Calls Tryz.prog 103 #[.agg cs.toArray, .int .i64 id] w fun e w' => e = .returned (.bool (il x id)) ∧ Below w.heap.size w w' := by
 obtain ⟨a3, d3, a4, d4, a5, d5, a6, d6, rfl, RC, RN, -, -⟩ := aK h
 have nb : Below w.heap.size w (w.alloc (.cells #[.int .i64 x.now, .int .i64 x.events, .int .i64 x.chain.ae, .slice a3 x.chain.ids.length d3, .slice a4 x.nodes.length d4, .slice a5 x.msgs.length d5, .slice a6 x.af.length d6] 39)) := (Below.refl _ _).alloc (Nat.le_refl _) _
 have HX : Hid (aA 0 #[.int .i64 x.now, .int .i64 x.events, .int .i64 x.chain.ae, .slice a3 x.chain.ids.length d3, .slice a4 x.nodes.length d4, .slice a5 x.msgs.length d5, .slice a6 x.af.length d6] 39 (w.alloc (.cells #[.int .i64 x.now, .int .i64 x.events, .int .i64 x.chain.ae, .slice a3 x.chain.ids.length d3, .slice a4 x.nodes.length d4, .slice a5 x.msgs.length d5, .slice a6 x.af.length d6] 39)) w.heap.size) := aD (Nat.zero_le _)
 have HL := yh (j4 _ x.chain id _ (RC.later nb))
 have HRN := yh (RN.later nb)
 have HB := yh nb
 have HP : Hid (il x id = (decide (0 ≤ bK x.chain.ids id) && ((ct x id).up && (ct x id).ae == x.chain.ae))) := rfl
 have HM : Hid (decide (0 ≤ bK x.chain.ids id) = true → cz x id = true) := fun q => hi id ((ly _ _).1 q)
 clear nb h RC RN hi
 generalize il x id = r at *
 generalize hq : decide (0 ≤ bK x.chain.ids id) = q at *
 clear hq
 go_enter Tryz.func103, Tryz.ntmps103
 go_upto_region 1 with fail
 generalize w.alloc (.cells #[.int .i64 x.now, .int .i64 x.events, .int .i64 x.chain.ae, .slice a3 x.chain.ids.length d3, .slice a4 x.nodes.length d4, .slice a5 x.msgs.length d5, .slice a6 x.af.length d6] 39) = w1 at *
 have z2 := aA.at (uh HX) 2 _ rfl
 have z3 := aA.at (uh HX) 3 _ rfl
 simp only [ga, gb, gc] at z2 z3
 have zl := (uh HX).lt
 go_wp2_with fail
 refine (uh HL).mono ?_
 rintro e w2 ⟨rfl, hb⟩
 replace HX := yh ((uh HX).ai hb)
 replace HRN := yh ((uh HRN).later hb)
 replace HB := bZ HB hb
 clear hb HL z2 z3 zl
 cases q
 ·
  go_wp2_with fail
  go_ret
  exact ⟨by rw [uh HP]; rfl, uh HB⟩
 obtain ⟨k, hk, rfl⟩ := lx (uh HM rfl)
 rw [dH hk] at HP
 obtain ⟨b, off, rfl, hbl⟩ := ab.aS (uh HRN) (by omega)
 obtain ⟨row, hcl, hr⟩ := ab.bE (uh HRN) hk
 obtain ⟨an, dn, rfl, -⟩ := bG hr
 have c0 : w2.cell? ⟨b, off + k * 7, none⟩ = some (.int .i64 (x.nodes[k]).id) := hcl 0 (by decide)
 have c1 : w2.cell? ⟨b, off + k * 7 + 1, none⟩ = some (.bool (x.nodes[k]).up) := hcl 1 (by decide)
 have c2 : w2.cell? ⟨b, off + k * 7 + 2, none⟩ = some (.int .i64 (x.nodes[k]).ae) := hcl 2 (by decide)
 have c3 : w2.cell? ⟨b, off + k * 7 + 3, none⟩ = some (.int .i64 (x.nodes[k]).au) := hcl 3 (by decide)
 have c4 : w2.cell? ⟨b, off + k * 7 + 4, none⟩ = some (.slice an (x.nodes[k]).writes.length dn) := hcl 4 (by decide)
 have c5 : w2.cell? ⟨b, off + k * 7 + 5, none⟩ = some (.int .i64 (x.nodes[k]).sure) := hcl 5 (by decide)
 have c6 : w2.cell? ⟨b, off + k * 7 + 6, none⟩ = some (.int .i64 (x.nodes[k]).clean) := hcl 6 (by decide)
 have hw1 : IntKind.i64.wrap (k : Int) = (k : Int) := by
  rw [IntKind.wrap_i64]
  omega
 have hki : (k : Int) < (x.nodes.length : Int) := by omega
 have z4 := aA.at (uh HX) 4 _ rfl
 have z2 := aA.at (uh HX) 2 _ rfl
 simp only [ga, gb, gc] at z4 z2
 have zl := (uh HX).lt
 clear hcl hr HRN HM HX
 generalize x.nodes[k] = n at *
 have nb : Below w2.heap.size w2 (w2.alloc (.cells #[.int .i64 n.id, .bool n.up, .int .i64 n.ae, .int .i64 n.au, .slice an n.writes.length dn, .int .i64 n.sure, .int .i64 n.clean] 63)) := (Below.refl _ _).alloc (Nat.le_refl _) _
 replace HB := bZ HB nb
 clear nb
 generalize hu : n.up = u at *
 clear hu
 generalize he : (n.ae == x.chain.ae) = v at *
 cases u
 ·
  go_wp2_with fail
  go_ret
  exact ⟨by rw [uh HP]; rfl, uh HB⟩
 cases v
 ·
  go_wp2_with fail
  go_ret
  exact ⟨by rw [uh HP]; rfl, uh HB⟩
 go_wp2_with fail
 go_ret
 exact ⟨by rw [uh HP]; rfl, uh HB⟩
theorem gN {y : ay} {id : Int} (h : cT y id = true) : (ct y id).up = true := by
 unfold cT at h
 simp only [Bool.and_eq_true] at h
 exact h.1
def eA (y : ay) : Int := y.chain.ids.getD 0 0
def ft (y : ay) (v : aj) : ay := if y.af.any (cA v.aa v.seq) = true then y else ov y (cP v y.events)
def ec (y : ay) (v : aj) : Int := if y.af.any (cA v.aa v.seq) = true then 0 else if 60 ≤ y.af.length then 2 else 0
def fh (y : ay) (v : aj) : Int :=
 if wF v ≠ 0 then wF v
 else if cT y (eA y) = false then 10
 else if (dp (ct y (eA y)) v).code ≠ 0 then (dp (ct y (eA y)) v).code
 else ec y v
def kV (y : ay) (v : aj) : ay := ft (dA y (dp (ct y (eA y)) v).node) v
theorem mq {n : aV} {v : aj} (hn : aJ n = 0) (hu : n.up = true) : (dp n v).code = (takeN n v).1 ∧ ((dp n v).code = 0 → (dp n v).node = (takeN n v).2) := by
 unfold dp takeN cV
 rw [if_pos hn, if_pos hu, if_pos rfl]
 by_cases c : (bF n.writes v).code = 0
 ·
  rw [if_pos c, if_pos c]
  by_cases c2 : 40 < (bF n.writes v).writes.length
  ·
   rw [if_pos c2, if_pos c2]; simp [fp]
  rw [if_neg c2, if_neg c2]; simp
 rw [if_neg c, if_neg c]
 simp [fp, c]
theorem gU {y : ay} (hi : ∀ z ∈ y.chain.ids, cz y z = true) (hl : 1 ≤ y.chain.ids.length) : ∃ (k : Nat) (_ : k < y.nodes.length), eA y = (k : Int) + 1 := by
 have e : eA y = y.chain.ids[0] := by
  simp [eA, List.getD, show 0 < y.chain.ids.length by omega]
 have h2 := hi _ (List.getElem_mem (show 0 < y.chain.ids.length by omega))
 rw [← e] at h2
 exact lx h2
theorem qb (y : ay) (n : aV) (v : aj) : ec (dA y n) v = ec y v := rfl
theorem rN (y : ay) (v : aj) : -1000000000 ≤ ec y v ∧ ec y v ≤ 1000000000 := by
 unfold ec
 split
 ·
  omega
 split <;> omega
theorem sB (ws : List aj) (v : aj) : -1000000000 ≤ (bF ws v).code ∧ (bF ws v).code ≤ 1000000000 := by
 have h1 : 0 ≤ aR ws ∧ aR ws ≤ 3 := by
  unfold aR
  split
  ·
   omega
  exact iS ws
 have h2 := fo v
 unfold bF
 split
 ·
  split
  ·
   split
   ·
    split
    ·
     show (-1000000000 : Int) ≤ 7 ∧ (7 : Int) ≤ 1000000000; omega
    split
    ·
     show (-1000000000 : Int) ≤ 2 ∧ (2 : Int) ≤ 1000000000; omega
    show (-1000000000 : Int) ≤ 0 ∧ (0 : Int) ≤ 1000000000; omega
   show (-1000000000 : Int) ≤ 0 ∧ (0 : Int) ≤ 1000000000; omega
  show -1000000000 ≤ wF v ∧ wF v ≤ 1000000000; omega
 show -1000000000 ≤ aR ws ∧ aR ws ≤ 1000000000; omega
theorem nQ (n : aV) (v : aj) : -1000000000 ≤ (takeN n v).1 ∧ (takeN n v).1 ≤ 1000000000 := by
 have h := sB n.writes v
 unfold takeN
 split
 ·
  split
  ·
   show (-1000000000 : Int) ≤ 2 ∧ (2 : Int) ≤ 1000000000; omega
  show (-1000000000 : Int) ≤ 0 ∧ (0 : Int) ≤ 1000000000; omega
 exact h
theorem tJ (x : ay) (v : aj) : dm x (aW x) (fh (cI x) v) true (kV (cI x) v) = ib x v := by
 unfold dm ib
 by_cases h : aW x ≠ 0
 ·
  rw [if_pos h, if_pos h]
 rw [if_neg h, if_neg h]
 have hok := cW (by simpa using h : aW x = 0)
 obtain ⟨k, hk, hh⟩ := gU hok.ids (by have := (cB hok.chain).len; omega)
 have hh' : x.chain.ids.getD 0 0 = (k : Int) + 1 := hh
 by_cases h1 : 9999 ≤ x.events
 ·
  rw [if_pos h1, if_pos h1]
 rw [if_neg h1, if_neg h1]
 have e0 : eA (cI x) = x.chain.ids.getD 0 0 := rfl
 unfold fh
 by_cases h2 : wF v ≠ 0
 ·
  rw [if_pos h2, if_pos h2, ij, if_neg h2]
 rw [if_neg h2, if_neg h2, e0]
 have e1 : cT (cI x) (x.chain.ids.getD 0 0) = cT x (x.chain.ids.getD 0 0) := rfl
 rw [e1]
 by_cases h3 : cT x (x.chain.ids.getD 0 0) = false
 ·
  rw [if_pos h3, if_pos h3, ij, if_neg (by decide)]
 rw [if_neg h3, if_neg h3]
 have h3' : cT x (x.chain.ids.getD 0 0) = true := by simpa using h3
 have e2 : ct (cI x) (x.chain.ids.getD 0 0) = ct x (x.chain.ids.getD 0 0) := rfl
 rw [e2]
 have hup := gN h3'
 have hnf : aJ (ct x (x.chain.ids.getD 0 0)) = 0 := by
  rw [hh', dH hk]
  exact (hok.nodes k hk).1
 obtain ⟨t1, t2⟩ := mq (v := v) hnf hup
 rw [t1]
 by_cases h4 : (takeN (ct x (x.chain.ids.getD 0 0)) v).1 ≠ 0
 ·
  rw [if_pos h4, if_pos h4, ij, if_neg h4]
 rw [if_neg h4, if_neg h4]
 have t3 := t2 (by rw [t1]; simpa using h4)
 unfold ec kV ft
 rw [e0, e2, t3]
 have e3 : (cI x).af = x.af := rfl
 have e4 : (dA (cI x) (takeN (ct x (x.chain.ids.getD 0 0)) v).2).af = x.af := rfl
 rw [e3, e4]
 by_cases h5 : x.af.any (cA v.aa v.seq) = true
 ·
  rw [if_pos h5, if_pos h5, if_pos h5, ij, if_pos rfl]
 rw [if_neg h5, if_neg h5, if_neg h5]
 by_cases h6 : 60 ≤ x.af.length
 ·
  rw [if_pos h6, if_pos h6, ij, if_neg (by decide)]
 rw [if_neg h6, if_neg h6, ij, if_pos rfl]
 rfl
end Go.Proofs.YtomphbenbnnfgaaGreatDoor
