/-
  Texts of this proof in one: CopyNs, LayPart, CloneH, CopyHs, ImplCopiedM, ImplWC, ImplDone.
  Their conditions stand in their theorems.
-/
import Derived.Test.YtoanimpijfijgaaGreatChecked
import Derived.Test.YtoanimpijfijgaaGreatFi01
import Derived.Test.YtoanimpijfijgaaGreatFi04
import Derived.Test.YtoanimpijfijgaaGreatFi11
import Derived.WalkKit
import Derived.Deep.CutRange
import Derived.Test.YtoanimpijfijgaaGreatFi00
import Derived.Test.YtoanimpijfijgaaGreatFi07
import Derived.Test.YtoanimpijfijgaaGreatFi06
set_option maxRecDepth 100000
set_option maxHeartbeats 4000000
namespace Go.Proofs.YtoanimpijfijgaaGreat
open Go.RowKit
theorem wf_Node {w : World} {cs : List Value} {x : DNode} (h : Lay.tNode.Reads w cs x) : (Lit.int .i64 x.id).wf = true ∧ (Lit.int .i64 x.epoch).wf = true ∧ (Lit.int .i64 x.lease).wf = true ∧ (Lit.int .i64 x.sure).wf = true ∧ (Lit.int .i64 x.clean).wf = true := by
 obtain ⟨bl, h⟩ := h
 obtain ⟨_, _, _, -, -, w0, w2, w3, -, w5, w6⟩ := lies_Node.1 h
 exact ⟨w0, w2, w3, w5, w6⟩
theorem own_nodeC {w : World} {x : DNode} {v : Value} {lo hi : Nat} (h : (Lay.sl Lay.tWrite).OwnIn w [v] x.writes lo hi) (hw : (Lit.int .i64 x.id).wf = true ∧ (Lit.int .i64 x.epoch).wf = true ∧ (Lit.int .i64 x.lease).wf = true ∧ (Lit.int .i64 x.sure).wf = true ∧ (Lit.int .i64 x.clean).wf = true) :
  Lay.tNode.OwnIn w [.int .i64 x.id, .bool x.up, .int .i64 x.epoch, .int .i64 x.lease, v, .int .i64 x.sure, .int .i64 x.clean] x lo hi := by
 obtain ⟨bl, O, i⟩ := h
 obtain ⟨w0, w2, w3, w5, w6⟩ := hw
 exact ⟨bl, mkOwn_Node O w0 w2 w3 w5 w6 O.2.1, i⟩
theorem infoNodeC : (Tryz.prog.info? 84).map (fun i => (i.zero, i.size, decide (i.bytes ≤ 1000))) = some (some (.agg #[.int .i64 0, .bool false, .int .i64 0, .int .i64 0, .slice none 0 0, .int .i64 0, .int .i64 0]), 7, true) := by kernel_rfl
theorem copiedNodesC (v : Value) (xs : List DNode) (w : World) (h : (Lay.sl Lay.tNode).Reads w [v] xs) (hlen : xs.length ≤ 1000000) (hv : ∀ x ∈ xs, x.writes.length ≤ 1000000 ∧ ∀ y ∈ x.writes, y.vec.length ≤ 10000000) :
  Calls Tryz.prog 271 #[v] w fun e w' => ∃ (g : Nat), e = .returned (.slice (some ⟨g, 0, none⟩) xs.length xs.length) ∧ (Lay.sl Lay.tNode).OwnIn w' [.slice (some ⟨g, 0, none⟩) xs.length xs.length] xs w.heap.size w'.heap.size ∧ Below w.heap.size w w' := by
 have hbig := h.big
 obtain ⟨ao, cap, rfl⟩ := open_sl h
 obtain ⟨i0, hi, hz0, hz1, hz2⟩ : ∃ i, Tryz.prog.info? 84 = some i ∧ i.zero = some (.agg #[.int .i64 0, .bool false, .int .i64 0, .int .i64 0, .slice none 0 0, .int .i64 0, .int .i64 0]) ∧ i.size = 7 ∧ i.bytes ≤ 1000 := by
  have := infoNodeC
  cases hq : Tryz.prog.info? 84 with
  | none => rw [hq] at this; simp at this
  | some i =>
   rw [hq] at this
   simp only [Option.map_some, Option.some.injEq, Prod.mk.injEq, decide_eq_true_eq] at this
   exact ⟨i, rfl, this.1, this.2.1, this.2.2⟩
 have H := yh h
 have HN := yh hv
 clear h hv
 go_enter Tryz.func271, Tryz.ntmps271
 go_wp2_with (at_make; refine wpList_make_full _ rfl _ _ 32 rfl w.heap.size 84 i0 _ 7 Tryz.underlying32 hi hz0 hz1 _ _ _ _ xs.length rfl rfl rfl rfl ?c1 ?c2 ?c3 ?_)
 case c1 => have := Nat.mul_le_mul hz2 hlen; omega
 case c2 => unfold maxLen; omega
 case c3 => exact Nat.le_refl _
 intro w1 hown1 hgrow1
 have hB1 : Below w.heap.size w w1 := (Below.refl _ _).grown hgrow1 (Nat.le_refl _) (by simp)
 clear hgrow1 hi hz0 hz1 hz2
 have HO1 := yh hown1
 have HB1 := yh hB1
 clear hown1 hB1
 go_wp2_with fail
 go_loopw [11] (fun i wr => ∃ (k : Nat) (rows : List (List Value)) (Q : List Value) (hi : Nat), k ≤ xs.length ∧ i = .int .i64 k ∧ wr.ownsRow w.heap.size 84 7 (.slice (some ⟨w.heap.size, 0, none⟩) xs.length xs.length) xs.length (rows.flatten ++ Q) ∧ Q.length = (xs.length - k) * 7 ∧ Lay.Subs Lay.tNode wr rows (xs.take k) (w.heap.size + 1) hi ∧ hi ≤ wr.heap.size ∧ w.heap.size < hi ∧ Below w.heap.size w wr) (fun i _ => xs.length - (intOf i).toNat)
 case atStart =>
  have hl := ((uh HO1).lt w.heap.size rfl).2
  exact ⟨0, [], _, w1.heap.size, Nat.zero_le _, rfl, by simpa using uh HO1, by have := (uh HO1).1; simpa using this, Lay.subs_nil, Nat.le_refl _, hl, uh HB1⟩
 case round =>
  obtain ⟨k, rows, Q, hi, hk, rfl, hown, hQ, hsub, hhi, hlo, hB⟩ := hrel
  clear HO1 HB1
  by_cases hlt : k < xs.length
  ·
   obtain ⟨b, off, rfl, hbl⟩ := Lay.sl_addr (uh H) (by omega)
   obtain ⟨row, hc, hr⟩ := Lay.row_at (uh H) hlt
   replace hr := hr.later hB
   have hr2 := hr
   obtain ⟨a4, d4, rfl, R0⟩ := open_Node hr2
   have c0 : wr.cell? ⟨b, off + k * 7, none⟩ = some (.int .i64 (xs[k]).id) := (hB.cell (p := ⟨b, off + k * 7, none⟩) hbl).trans (hc 0 (by decide))
   have c1 : wr.cell? ⟨b, off + k * 7 + 1, none⟩ = some (.bool (xs[k]).up) := (hB.cell (p := ⟨b, off + k * 7 + 1, none⟩) hbl).trans (hc 1 (by decide))
   have c2 : wr.cell? ⟨b, off + k * 7 + 2, none⟩ = some (.int .i64 (xs[k]).epoch) := (hB.cell (p := ⟨b, off + k * 7 + 2, none⟩) hbl).trans (hc 2 (by decide))
   have c3 : wr.cell? ⟨b, off + k * 7 + 3, none⟩ = some (.int .i64 (xs[k]).lease) := (hB.cell (p := ⟨b, off + k * 7 + 3, none⟩) hbl).trans (hc 3 (by decide))
   have c4 : wr.cell? ⟨b, off + k * 7 + 4, none⟩ = some (.slice a4 (xs[k]).writes.length d4) := (hB.cell (p := ⟨b, off + k * 7 + 4, none⟩) hbl).trans (hc 4 (by decide))
   have c5 : wr.cell? ⟨b, off + k * 7 + 5, none⟩ = some (.int .i64 (xs[k]).sure) := (hB.cell (p := ⟨b, off + k * 7 + 5, none⟩) hbl).trans (hc 5 (by decide))
   have c6 : wr.cell? ⟨b, off + k * 7 + 6, none⟩ = some (.int .i64 (xs[k]).clean) := (hB.cell (p := ⟨b, off + k * 7 + 6, none⟩) hbl).trans (hc 6 (by decide))
   have hrl : rows.flatten.length = k * 7 := by have := (Lay.subs_len hsub).1; rw [List.length_take, Nat.min_eq_left hk] at this; exact this
   have hvl := uh HN xs[k] (List.getElem_mem hlt)
   have HT : Hid (xs.take (k + 1) = xs.take k ++ [xs[k]]) := List.take_succ_eq_append_getElem hlt
   have HB := yh hB
   have HO := yh hown
   have HS := yh hsub
   have HQ := yh hQ
   have HWF := yh (wf_Node hr)
   have HVL := yh hvl
   have HR0 := yh R0
   clear hB hr hc hown hsub hQ hr2 hvl R0
   generalize hxk : xs[k] = x at *
   clear hxk
   have hbr : b < wr.heap.size := Nat.lt_of_lt_of_le hbl (uh HB).size
   have nb : Below wr.heap.size wr (wr.alloc (.cells #[.int .i64 x.id, .bool x.up, .int .i64 x.epoch, .int .i64 x.lease, .slice a4 x.writes.length d4, .int .i64 x.sure, .int .i64 x.clean] 84)) := (Below.refl _ _).alloc (Nat.le_refl _) _
   have HX : Hid (Box 0 #[.int .i64 x.id, .bool x.up, .int .i64 x.epoch, .int .i64 x.lease, .slice a4 x.writes.length d4, .int .i64 x.sure, .int .i64 x.clean] 84 (wr.alloc (.cells #[.int .i64 x.id, .bool x.up, .int .i64 x.epoch, .int .i64 x.lease, .slice a4 x.writes.length d4, .int .i64 x.sure, .int .i64 x.clean] 84)) wr.heap.size) := newBox (Nat.zero_le _)
   have hz0 : (wr.alloc (.cells #[.int .i64 x.id, .bool x.up, .int .i64 x.epoch, .int .i64 x.lease, .slice a4 x.writes.length d4, .int .i64 x.sure, .int .i64 x.clean] 84)).heap.size = wr.heap.size + 1 := by simp
   have HV := yh nb
   clear nb
   go_upto_region 5 with fail
   generalize wr.alloc (.cells #[.int .i64 x.id, .bool x.up, .int .i64 x.epoch, .int .i64 x.lease, .slice a4 x.writes.length d4, .int .i64 x.sure, .int .i64 x.clean] 84) = W0 at *
   clear c0 c1 c2 c3 c4 c5 c6
   have hx := uh HX
   have y4 := Box.at hx 4 _ rfl
   have yf := Box.soft hx
   have yl := hx.lt
   simp only [ga, gb, gc] at y4
   have HC := yh (copiedC _ x.writes W0 ((uh HR0).later (uh HV)) (uh HVL).1 (uh HVL).2)
   clear hx
   go_wp2_with fail
   refine (uh HC).mono ?_
   rintro e v1 ⟨gw, rfl, O, hb⟩
   have hz1 : W0.heap.size ≤ v1.heap.size := hb.size
   have hx := (uh HX).keep hb
   clear y4 yf yl
   have y4 := Box.at hx 4 _ rfl
   have yf := Box.soft hx
   have yl := hx.lt
   simp only [ga, gb, gc] at y4
   have hv := (uh HV).trans (hb.mono (uh HV).size)
   replace HV := yh (hv.setCell (p := ⟨wr.heap.size, 4, none⟩) (Nat.le_refl _) (.slice (some ⟨gw, 0, none⟩) x.writes.length x.writes.length))
   have hx2 := Box.set hx 4 (.slice (some ⟨gw, 0, none⟩) x.writes.length x.writes.length)
   simp only [List.setIfInBounds_toArray, List.set_cons_zero, List.set_cons_succ] at hx2
   replace HX := yh hx2
   have e1 : Ext (fun q => q = wr.heap.size) v1 (v1.setCell ⟨wr.heap.size, 4, none⟩ (.slice (some ⟨gw, 0, none⟩) x.writes.length x.writes.length)) := (Ext.refl _ _).setCell _ _ rfl
   have P0 := yh (O.ext e1 (fun q h1 h2 h3 => by omega))
   have hz1' : (v1.setCell ⟨wr.heap.size, 4, none⟩ (.slice (some ⟨gw, 0, none⟩) x.writes.length x.writes.length)).heap.size = v1.heap.size := by simp
   clear hx hx2 e1 hv O hb HC
   go_upto_region 6 with fail
   generalize hW : v1.setCell ⟨wr.heap.size, 4, none⟩ (.slice (some ⟨gw, 0, none⟩) x.writes.length x.writes.length) = W1 at *
   clear hW y4 yf yl
   have hx := uh HX
   have y0 := Box.at hx 0 _ rfl
   have y1 := Box.at hx 1 _ rfl
   have y2 := Box.at hx 2 _ rfl
   have y3 := Box.at hx 3 _ rfl
   have y4 := Box.at hx 4 _ rfl
   have y5 := Box.at hx 5 _ rfl
   have y6 := Box.at hx 6 _ rfl
   simp only [ga, gb, gc] at y0 y1 y2 y3 y4 y5 y6
   have yl := hx.lt
   clear hx
   have hb3 : Below wr.heap.size wr W1 := uh HV
   have o2 := own_below (uh HO) hb3
   have O := own_nodeC (uh P0) (uh HWF)
   replace HS := yh (Lay.subs_snoc (Lay.subs_ext (uh HS) (ext_of_below hb3 nowhere) (fun _ _ _ h => h)) O (by omega) (by omega) (by omega))
   have hb2 := (uh HB).trans (hb3.mono (uh HB).size)
   have hxw : w.heap.size < wr.heap.size := by omega
   have hwz := hb3.size
   clear HB HO O HV hb3 P0
   have hQ := uh HQ
   have hl5 : (rows.flatten ++ Q).length = xs.length * 7 := o2.1
   obtain ⟨u0, g0⟩ : ∃ u, W1.cell? ⟨w.heap.size, k * 7, none⟩ = some u := by
    rw [o2.cellAt (k * 7) (by omega)]
    exact ⟨_, List.getElem?_eq_getElem (by omega)⟩
   have t0 := o2.frozenAt (k * 7)
   obtain ⟨u1, g1⟩ : ∃ u, W1.cell? ⟨w.heap.size, k * 7 + 1, none⟩ = some u := by
    rw [o2.cellAt (k * 7 + 1) (by omega)]
    exact ⟨_, List.getElem?_eq_getElem (by omega)⟩
   have t1 := o2.frozenAt (k * 7 + 1)
   obtain ⟨u2, g2⟩ : ∃ u, W1.cell? ⟨w.heap.size, k * 7 + 2, none⟩ = some u := by
    rw [o2.cellAt (k * 7 + 2) (by omega)]
    exact ⟨_, List.getElem?_eq_getElem (by omega)⟩
   have t2 := o2.frozenAt (k * 7 + 2)
   obtain ⟨u3, g3⟩ : ∃ u, W1.cell? ⟨w.heap.size, k * 7 + 3, none⟩ = some u := by
    rw [o2.cellAt (k * 7 + 3) (by omega)]
    exact ⟨_, List.getElem?_eq_getElem (by omega)⟩
   have t3 := o2.frozenAt (k * 7 + 3)
   obtain ⟨u4, g4⟩ : ∃ u, W1.cell? ⟨w.heap.size, k * 7 + 4, none⟩ = some u := by
    rw [o2.cellAt (k * 7 + 4) (by omega)]
    exact ⟨_, List.getElem?_eq_getElem (by omega)⟩
   have t4 := o2.frozenAt (k * 7 + 4)
   obtain ⟨u5, g5⟩ : ∃ u, W1.cell? ⟨w.heap.size, k * 7 + 5, none⟩ = some u := by
    rw [o2.cellAt (k * 7 + 5) (by omega)]
    exact ⟨_, List.getElem?_eq_getElem (by omega)⟩
   have t5 := o2.frozenAt (k * 7 + 5)
   obtain ⟨u6, g6⟩ : ∃ u, W1.cell? ⟨w.heap.size, k * 7 + 6, none⟩ = some u := by
    rw [o2.cellAt (k * 7 + 6) (by omega)]
    exact ⟨_, List.getElem?_eq_getElem (by omega)⟩
   have t6 := o2.frozenAt (k * 7 + 6)
   have o3 := own_setAll o2 (k * 7) [.int .i64 x.id, .bool x.up, .int .i64 x.epoch, .int .i64 x.lease, .slice (some ⟨gw, 0, none⟩) x.writes.length x.writes.length, .int .i64 x.sure, .int .i64 x.clean]
   rw [show k * 7 = rows.flatten.length from hrl.symm, setFrom_app _ _ _ (by rw [hQ]; simp; have : 1 * 7 ≤ (xs.length - k) * 7 := Nat.mul_le_mul_right _ (by omega); omega), hrl] at o3
   have E : Ext (fun q => q = w.heap.size) W1 (setAll W1 w.heap.size (k * 7) [.int .i64 x.id, .bool x.up, .int .i64 x.epoch, .int .i64 x.lease, .slice (some ⟨gw, 0, none⟩) x.writes.length x.writes.length, .int .i64 x.sure, .int .i64 x.clean]) := ext_setAll _ (Ext.refl _ _) _ _ _ rfl
   replace HS := yh (Lay.subs_ext (uh HS) E (fun q h1 h2 h3 => by omega))
   have HB := yh (below_setAll hb2 w.heap.size (k * 7) [.int .i64 x.id, .bool x.up, .int .i64 x.epoch, .int .i64 x.lease, .slice (some ⟨gw, 0, none⟩) x.writes.length x.writes.length, .int .i64 x.sure, .int .i64 x.clean] (Nat.le_refl _))
   have HZ : Hid ((setAll W1 w.heap.size (k * 7) [.int .i64 x.id, .bool x.up, .int .i64 x.epoch, .int .i64 x.lease, .slice (some ⟨gw, 0, none⟩) x.writes.length x.writes.length, .int .i64 x.sure, .int .i64 x.clean]).heap.size = v1.heap.size) := (size_setAll _ _ _ _).trans hz1'
   have HO : Hid ((setAll W1 w.heap.size (k * 7) [.int .i64 x.id, .bool x.up, .int .i64 x.epoch, .int .i64 x.lease, .slice (some ⟨gw, 0, none⟩) x.writes.length x.writes.length, .int .i64 x.sure, .int .i64 x.clean]).ownsRow w.heap.size 84 7 (.slice (some ⟨w.heap.size, 0, none⟩) xs.length xs.length) xs.length ((rows ++ [([.int .i64 x.id, .bool x.up, .int .i64 x.epoch, .int .i64 x.lease, .slice (some ⟨gw, 0, none⟩) x.writes.length x.writes.length, .int .i64 x.sure, .int .i64 x.clean] : List Value)]).flatten ++ Q.drop 7)) := by
    show (setAll W1 w.heap.size (k * 7) [.int .i64 x.id, .bool x.up, .int .i64 x.epoch, .int .i64 x.lease, .slice (some ⟨gw, 0, none⟩) x.writes.length x.writes.length, .int .i64 x.sure, .int .i64 x.clean]).ownsRow w.heap.size 84 7 (.slice (some ⟨w.heap.size, 0, none⟩) xs.length xs.length) xs.length ((rows ++ [([.int .i64 x.id, .bool x.up, .int .i64 x.epoch, .int .i64 x.lease, .slice (some ⟨gw, 0, none⟩) x.writes.length x.writes.length, .int .i64 x.sure, .int .i64 x.clean] : List Value)]).flatten ++ Q.drop 7)
    rw [List.flatten_append]
    simpa using o3
   have hl2 := (o2.lt w.heap.size rfl).2
   clear o3 o2 E hb2 hl5
   have hQ2 : Hid ((Q.drop 7).length = (xs.length - (k + 1)) * 7) := by
    show (Q.drop 7).length = (xs.length - (k + 1)) * 7
    rw [List.length_drop, hQ, show xs.length - k = xs.length - (k + 1) + 1 by omega, Nat.add_mul]
    omega
   have HW2 : Hid (w.heap.size < v1.heap.size) := by show w.heap.size < v1.heap.size; omega
   clear hQ HQ hz0 HX hz1 hz1'
   go_wp2_with fail
   go_roundw
   case rel => exact ⟨k + 1, rows ++ [([.int .i64 x.id, .bool x.up, .int .i64 x.epoch, .int .i64 x.lease, .slice (some ⟨gw, 0, none⟩) x.writes.length x.writes.length, .int .i64 x.sure, .int .i64 x.clean] : List Value)], Q.drop 7, v1.heap.size, by omega, by go_num, uh HO, uh hQ2, (by rw [uh HT]; exact uh HS), Nat.le_of_eq (uh HZ).symm, uh HW2, uh HB⟩
   case measure => simp [intOf]; omega
  obtain rfl : k = xs.length := by omega
  have e0 : Q = [] := List.eq_nil_of_length_eq_zero (by rw [hQ]; simp)
  subst e0
  rw [List.append_nil] at hown
  rw [List.take_length] at hsub
  have HO := yh (Lay.subs_done (A := Lay.tNode) hown hsub (by omega) hhi hbig)
  have HB := yh hB
  clear hown hsub hB
  go_wp2_with fail
  go_ret
  exact ⟨_, rfl, uh HO, uh HB⟩
theorem hit_bl {w : World} {row : List Value} {x : DHit} {bl : List Nat} (h : Lay.tHit.lies w row x bl) : bl = [] := by
 obtain ⟨rfl, -⟩ := (lies_Hit.1 h).2
 rfl
theorem hits_flat {w : World} {base T : Nat} {v : Value} {rows : List (List Value)} {xs : List DHit} {bls : List (List Nat)} (h : Grow Lay.tHit w base T v rows xs bls) : bls.flatten = [] := by
 rw [List.flatten_eq_nil_iff]
 intro l hl
 obtain ⟨j, hj, rfl⟩ := List.getElem_of_mem hl
 have n1 := h.nbls
 have n2 := h.nrows
 exact hit_bl (h.lies j (by omega) (by omega) hj)
theorem cloneH_nil (d : Nat) (w : World) : Calls Tryz.prog 183 #[.slice none 0 d] w fun e w' => e = .returned (.slice none 0 0) ∧ Below w.heap.size w w' := by
 have hnil : ∀ w : World, (binOp .eql 53 (.slice none 0 d) (.slice none 0 0)).run Tryz.prog w = .ok (.bool true) w := fun _ => by kernel_rfl
 go_enter Tryz.func183, Tryz.ntmps183
 go_wp2_with fail
 go_ret
 exact ⟨rfl, Below.refl _ _⟩
theorem cloneH (v : Value) (zs : List DHit) (w : World) (h : (Lay.sl Lay.tHit).Reads w [v] zs) (hn : zs.length ≤ 10000000) :
  Calls Tryz.prog 183 #[v] w fun e w' => ∃ a c, e = .returned (.slice a zs.length c) ∧ (Lay.sl Lay.tHit).OwnIn w' [.slice a zs.length c] zs w.heap.size w'.heap.size ∧ Below w.heap.size w w' := by
 obtain ⟨ao, cap, rfl⟩ := open_sl h
 cases ao with
 | none =>
  have h0 : zs = [] := by
   by_cases hp : 0 < zs.length
   ·
    obtain ⟨b, off, e, -⟩ := Lay.sl_addr h hp
    cases e
   exact List.eq_nil_of_length_eq_zero (by omega)
  subst h0
  refine (cloneH_nil cap w).mono ?_
  rintro e w' ⟨rfl, hb⟩
  exact ⟨none, 0, rfl, nil_own, hb⟩
 | some ad =>
  have nb : Below w.heap.size w (w.alloc (.cells #[] 196)) := (Below.refl _ _).alloc (Nat.le_refl _) _
  have O : (w.alloc (.cells #[] 196)).ownsRow w.heap.size 196 2 (.slice (some ⟨w.heap.size, 0, none⟩) 0 0) 0 [] := World.ownsRow_lit w _ 0 (Nat.le_refl _) (by unfold maxLen; omega) rfl
  have G : Grow Lay.tHit (w.alloc (.cells #[] 196)) w.heap.size 196 (.slice (some ⟨w.heap.size, 0, none⟩) 0 0) [] [] [] := Grow.nil O
  have h1 := h.liesIn.later nb
  have HB := yh nb
  have HN := yh hn
  have hnil : ∀ w : World, (binOp .eql 53 (.slice (some ad) zs.length cap) (.slice none 0 0)).run Tryz.prog w = .ok (.bool false) w := fun _ => by kernel_rfl
  clear nb h O
  go_enter Tryz.func183, Tryz.ntmps183
  go_wp2_with (at_builtin; refine wpList_append_hitsL G h1 rfl _ _ rfl rfl rfl ?hn1 ?hn2 ?_)
  case hn1 => have := uh HN; simp; omega
  case hn2 => simp
  rintro a' m' cap' w' rows' bls' G2 hb hm -
  obtain rfl : m' = zs.length := by simpa using hm
  have hfl := hits_flat G2
  have HO : Hid ((Lay.sl Lay.tHit).OwnIn w' [.slice a' zs.length cap'] zs w.heap.size w'.heap.size) := G2.toOwn (by have := uh HN; omega) (by rw [hfl]; simp) (by rw [hfl]; simp)
  have HB2 := yh ((uh HB).trans (hb.mono (Nat.le_refl _)))
  clear G h1 hb HB G2 hfl hm
  go_wp2_with fail
  go_ret
  exact ⟨a', cap', rfl, uh HO, uh HB2⟩
theorem wf_Entry {w : World} {cs : List Value} {x : DEntry} (h : Lay.tEntry.Reads w cs x) : (Lit.int .i64 x.kind).wf = true ∧ (Lit.int .i64 x.session).wf = true ∧ (Lit.int .i64 x.seq).wf = true ∧ (Lit.int .i64 x.id).wf = true ∧ (Lit.int .i64 x.k).wf = true ∧ (Lit.int .i64 x.start).wf = true ∧ (Lit.int .i64 x.fin).wf = true ∧ (Lit.int .i64 x.place).wf = true := by
 obtain ⟨bl, h⟩ := h
 obtain ⟨_, _, _, _, _, _, _, _, _, -, -, w0, w1, w2, w3, -, w5, w6, w7, w8, -, -⟩ := lies_Entry.1 h
 exact ⟨w0, w1, w2, w3, w5, w6, w7, w8⟩
theorem own_entryC {w : World} {x : DEntry} {v u s : Value} {l0 h0 l1 h1 l2 h2 : Nat} (p : (Lay.sl Lay.int).OwnIn w [v] x.query l0 h0) (q : (Lay.sl Lay.int).OwnIn w [u] x.vec l1 h1) (r : (Lay.sl Lay.tHit).OwnIn w [s] x.hits l2 h2) (e1 : h0 ≤ l1) (e2 : h1 ≤ l2) (e3 : l0 ≤ l1) (e4 : l1 ≤ l2) (e5 : h1 ≤ h2) (e6 : h0 ≤ h2) (hw : (Lit.int .i64 x.kind).wf = true ∧ (Lit.int .i64 x.session).wf = true ∧ (Lit.int .i64 x.seq).wf = true ∧ (Lit.int .i64 x.id).wf = true ∧ (Lit.int .i64 x.k).wf = true ∧ (Lit.int .i64 x.start).wf = true ∧ (Lit.int .i64 x.fin).wf = true ∧ (Lit.int .i64 x.place).wf = true) :
  Lay.tEntry.OwnIn w [.int .i64 x.kind, .int .i64 x.session, .int .i64 x.seq, .int .i64 x.id, v, .int .i64 x.k, .int .i64 x.start, .int .i64 x.fin, .int .i64 x.place, u, s] x l0 h2 := by
 obtain ⟨b1, O1, i1⟩ := p
 obtain ⟨b2, O2, i2⟩ := q
 obtain ⟨b3, O3, i3⟩ := r
 obtain ⟨w0, w1, w2, w3, w5, w6, w7, w8⟩ := hw
 refine ⟨b1 ++ (b2 ++ b3), mkOwn_Entry O1 O2 O3 w0 w1 w2 w3 w5 w6 w7 w8 ?_, ?_⟩
 ·
  rw [List.nodup_append, List.nodup_append]
  refine ⟨O1.2.1, ⟨O2.2.1, O3.2.1, fun a ha c hc e => ?_⟩, fun a ha c hc e => ?_⟩
  ·
   have := i2 a ha; have := i3 c hc; omega
  have := i1 a ha
  rcases List.mem_append.1 hc with hc | hc
  ·
   have := i2 c hc; omega
  have := i3 c hc; omega
 intro a ha
 rcases List.mem_append.1 ha with ha | ha
 ·
  have := i1 a ha; omega
 rcases List.mem_append.1 ha with ha | ha
 ·
  have := i2 a ha; omega
 have := i3 a ha; omega
theorem infoEntryC : (Tryz.prog.info? 127).map (fun i => (i.zero, i.size, decide (i.bytes ≤ 1000))) = some (some (.agg #[.int .i64 0, .int .i64 0, .int .i64 0, .int .i64 0, .slice none 0 0, .int .i64 0, .int .i64 0, .int .i64 0, .int .i64 0, .slice none 0 0, .slice none 0 0]), 11, true) := by kernel_rfl
theorem copiedHistoryC (v : Value) (xs : List DEntry) (w : World) (h : (Lay.sl Lay.tEntry).Reads w [v] xs) (hlen : xs.length ≤ 1000000) (hv : ∀ x ∈ xs, x.query.length ≤ 10000000 ∧ x.vec.length ≤ 10000000 ∧ x.hits.length ≤ 10000000) :
  Calls Tryz.prog 273 #[v] w fun e w' => ∃ (g : Nat), e = .returned (.slice (some ⟨g, 0, none⟩) xs.length xs.length) ∧ (Lay.sl Lay.tEntry).OwnIn w' [.slice (some ⟨g, 0, none⟩) xs.length xs.length] xs w.heap.size w'.heap.size ∧ Below w.heap.size w w' := by
 have hbig := h.big
 obtain ⟨ao, cap, rfl⟩ := open_sl h
 obtain ⟨i0, hi, hz0, hz1, hz2⟩ : ∃ i, Tryz.prog.info? 127 = some i ∧ i.zero = some (.agg #[.int .i64 0, .int .i64 0, .int .i64 0, .int .i64 0, .slice none 0 0, .int .i64 0, .int .i64 0, .int .i64 0, .int .i64 0, .slice none 0 0, .slice none 0 0]) ∧ i.size = 11 ∧ i.bytes ≤ 1000 := by
  have := infoEntryC
  cases hq : Tryz.prog.info? 127 with
  | none => rw [hq] at this; simp at this
  | some i =>
   rw [hq] at this
   simp only [Option.map_some, Option.some.injEq, Prod.mk.injEq, decide_eq_true_eq] at this
   exact ⟨i, rfl, this.1, this.2.1, this.2.2⟩
 have H := yh h
 have HN := yh hv
 clear h hv
 go_enter Tryz.func273, Tryz.ntmps273
 go_wp2_with (at_make; refine wpList_make_full _ rfl _ _ 34 rfl w.heap.size 127 i0 _ 11 Tryz.underlying34 hi hz0 hz1 _ _ _ _ xs.length rfl rfl rfl rfl ?c1 ?c2 ?c3 ?_)
 case c1 => have := Nat.mul_le_mul hz2 hlen; omega
 case c2 => unfold maxLen; omega
 case c3 => exact Nat.le_refl _
 intro w1 hown1 hgrow1
 have hB1 : Below w.heap.size w w1 := (Below.refl _ _).grown hgrow1 (Nat.le_refl _) (by simp)
 clear hgrow1 hi hz0 hz1 hz2
 have HO1 := yh hown1
 have HB1 := yh hB1
 clear hown1 hB1
 go_wp2_with fail
 go_loopw [11] (fun i wr => ∃ (k : Nat) (rows : List (List Value)) (Q : List Value) (hi : Nat), k ≤ xs.length ∧ i = .int .i64 k ∧ wr.ownsRow w.heap.size 127 11 (.slice (some ⟨w.heap.size, 0, none⟩) xs.length xs.length) xs.length (rows.flatten ++ Q) ∧ Q.length = (xs.length - k) * 11 ∧ Lay.Subs Lay.tEntry wr rows (xs.take k) (w.heap.size + 1) hi ∧ hi ≤ wr.heap.size ∧ w.heap.size < hi ∧ Below w.heap.size w wr) (fun i _ => xs.length - (intOf i).toNat)
 case atStart =>
  have hl := ((uh HO1).lt w.heap.size rfl).2
  exact ⟨0, [], _, w1.heap.size, Nat.zero_le _, rfl, by simpa using uh HO1, by have := (uh HO1).1; simpa using this, Lay.subs_nil, Nat.le_refl _, hl, uh HB1⟩
 case round =>
  obtain ⟨k, rows, Q, hi, hk, rfl, hown, hQ, hsub, hhi, hlo, hB⟩ := hrel
  clear HO1 HB1
  by_cases hlt : k < xs.length
  ·
   obtain ⟨b, off, rfl, hbl⟩ := Lay.sl_addr (uh H) (by omega)
   obtain ⟨row, hc, hr⟩ := Lay.row_at (uh H) hlt
   replace hr := hr.later hB
   have hr2 := hr
   obtain ⟨aq, dq, av, dv, ah, dh, rfl, R0, R1, R2⟩ := open_Entry hr2
   have c0 : wr.cell? ⟨b, off + k * 11, none⟩ = some (.int .i64 (xs[k]).kind) := (hB.cell (p := ⟨b, off + k * 11, none⟩) hbl).trans (hc 0 (by decide))
   have c1 : wr.cell? ⟨b, off + k * 11 + 1, none⟩ = some (.int .i64 (xs[k]).session) := (hB.cell (p := ⟨b, off + k * 11 + 1, none⟩) hbl).trans (hc 1 (by decide))
   have c2 : wr.cell? ⟨b, off + k * 11 + 2, none⟩ = some (.int .i64 (xs[k]).seq) := (hB.cell (p := ⟨b, off + k * 11 + 2, none⟩) hbl).trans (hc 2 (by decide))
   have c3 : wr.cell? ⟨b, off + k * 11 + 3, none⟩ = some (.int .i64 (xs[k]).id) := (hB.cell (p := ⟨b, off + k * 11 + 3, none⟩) hbl).trans (hc 3 (by decide))
   have c4 : wr.cell? ⟨b, off + k * 11 + 4, none⟩ = some (.slice aq (xs[k]).query.length dq) := (hB.cell (p := ⟨b, off + k * 11 + 4, none⟩) hbl).trans (hc 4 (by decide))
   have c5 : wr.cell? ⟨b, off + k * 11 + 5, none⟩ = some (.int .i64 (xs[k]).k) := (hB.cell (p := ⟨b, off + k * 11 + 5, none⟩) hbl).trans (hc 5 (by decide))
   have c6 : wr.cell? ⟨b, off + k * 11 + 6, none⟩ = some (.int .i64 (xs[k]).start) := (hB.cell (p := ⟨b, off + k * 11 + 6, none⟩) hbl).trans (hc 6 (by decide))
   have c7 : wr.cell? ⟨b, off + k * 11 + 7, none⟩ = some (.int .i64 (xs[k]).fin) := (hB.cell (p := ⟨b, off + k * 11 + 7, none⟩) hbl).trans (hc 7 (by decide))
   have c8 : wr.cell? ⟨b, off + k * 11 + 8, none⟩ = some (.int .i64 (xs[k]).place) := (hB.cell (p := ⟨b, off + k * 11 + 8, none⟩) hbl).trans (hc 8 (by decide))
   have c9 : wr.cell? ⟨b, off + k * 11 + 9, none⟩ = some (.slice av (xs[k]).vec.length dv) := (hB.cell (p := ⟨b, off + k * 11 + 9, none⟩) hbl).trans (hc 9 (by decide))
   have c10 : wr.cell? ⟨b, off + k * 11 + 10, none⟩ = some (.slice ah (xs[k]).hits.length dh) := (hB.cell (p := ⟨b, off + k * 11 + 10, none⟩) hbl).trans (hc 10 (by decide))
   have hrl : rows.flatten.length = k * 11 := by have := (Lay.subs_len hsub).1; rw [List.length_take, Nat.min_eq_left hk] at this; exact this
   have hvl := uh HN xs[k] (List.getElem_mem hlt)
   have HT : Hid (xs.take (k + 1) = xs.take k ++ [xs[k]]) := List.take_succ_eq_append_getElem hlt
   have HB := yh hB
   have HO := yh hown
   have HS := yh hsub
   have HQ := yh hQ
   have HWF := yh (wf_Entry hr)
   have HVL := yh hvl
   have HR0 := yh R0
   have HR1 := yh R1
   have HR2 := yh R2
   clear hB hr hc hown hsub hQ hr2 hvl R0 R1 R2
   generalize hxk : xs[k] = x at *
   clear hxk
   have hbr : b < wr.heap.size := Nat.lt_of_lt_of_le hbl (uh HB).size
   have nb : Below wr.heap.size wr (wr.alloc (.cells #[.int .i64 x.kind, .int .i64 x.session, .int .i64 x.seq, .int .i64 x.id, .slice aq x.query.length dq, .int .i64 x.k, .int .i64 x.start, .int .i64 x.fin, .int .i64 x.place, .slice av x.vec.length dv, .slice ah x.hits.length dh] 127)) := (Below.refl _ _).alloc (Nat.le_refl _) _
   have HX : Hid (Box 0 #[.int .i64 x.kind, .int .i64 x.session, .int .i64 x.seq, .int .i64 x.id, .slice aq x.query.length dq, .int .i64 x.k, .int .i64 x.start, .int .i64 x.fin, .int .i64 x.place, .slice av x.vec.length dv, .slice ah x.hits.length dh] 127 (wr.alloc (.cells #[.int .i64 x.kind, .int .i64 x.session, .int .i64 x.seq, .int .i64 x.id, .slice aq x.query.length dq, .int .i64 x.k, .int .i64 x.start, .int .i64 x.fin, .int .i64 x.place, .slice av x.vec.length dv, .slice ah x.hits.length dh] 127)) wr.heap.size) := newBox (Nat.zero_le _)
   have hz0 : (wr.alloc (.cells #[.int .i64 x.kind, .int .i64 x.session, .int .i64 x.seq, .int .i64 x.id, .slice aq x.query.length dq, .int .i64 x.k, .int .i64 x.start, .int .i64 x.fin, .int .i64 x.place, .slice av x.vec.length dv, .slice ah x.hits.length dh] 127)).heap.size = wr.heap.size + 1 := by simp
   have HV := yh nb
   clear nb
   go_upto_region 5 with fail
   generalize wr.alloc (.cells #[.int .i64 x.kind, .int .i64 x.session, .int .i64 x.seq, .int .i64 x.id, .slice aq x.query.length dq, .int .i64 x.k, .int .i64 x.start, .int .i64 x.fin, .int .i64 x.place, .slice av x.vec.length dv, .slice ah x.hits.length dh] 127) = W0 at *
   clear c0 c1 c2 c3 c4 c5 c6 c7 c8 c9 c10
   have hx := uh HX
   have y4 := Box.at hx 4 _ rfl
   have yf := Box.soft hx
   have yl := hx.lt
   simp only [ga, gb, gc] at y4
   have HC := yh (cloneC _ x.query W0 ((uh HR0).later (uh HV)) (uh HVL).1)
   clear hx
   go_wp2_with fail
   refine (uh HC).mono ?_
   rintro e v1 ⟨p1, n1, q1, rfl, ⟨O, rfl⟩, hb⟩
   have hz1 : W0.heap.size ≤ v1.heap.size := hb.size
   have hx := (uh HX).keep hb
   clear y4 yf yl
   have y4 := Box.at hx 4 _ rfl
   have yf := Box.soft hx
   have yl := hx.lt
   simp only [ga, gb, gc] at y4
   have hv := (uh HV).trans (hb.mono (uh HV).size)
   replace HV := yh (hv.setCell (p := ⟨wr.heap.size, 4, none⟩) (Nat.le_refl _) (.slice p1 x.query.length q1))
   have hx2 := Box.set hx 4 (.slice p1 x.query.length q1)
   simp only [List.setIfInBounds_toArray, List.set_cons_zero, List.set_cons_succ] at hx2
   replace HX := yh hx2
   have e1 : Ext (fun q => q = wr.heap.size) v1 (v1.setCell ⟨wr.heap.size, 4, none⟩ (.slice p1 x.query.length q1)) := (Ext.refl _ _).setCell _ _ rfl
   have P0 := yh (O.ext e1 (fun q h1 h2 h3 => by omega))
   have hz1' : (v1.setCell ⟨wr.heap.size, 4, none⟩ (.slice p1 x.query.length q1)).heap.size = v1.heap.size := by simp
   clear hx hx2 e1 hv O hb HC
   go_upto_region 6 with fail
   generalize hW : v1.setCell ⟨wr.heap.size, 4, none⟩ (.slice p1 x.query.length q1) = W1 at *
   clear hW y4 yf yl
   have hx := uh HX
   have y9 := Box.at hx 9 _ rfl
   have yf := Box.soft hx
   have yl := hx.lt
   simp only [ga, gb, gc] at y9
   have HC := yh (cloneC _ x.vec W1 ((uh HR1).later (uh HV)) (uh HVL).2.1)
   clear hx
   go_wp2_with fail
   refine (uh HC).mono ?_
   rintro e v2 ⟨p2, n2, q2, rfl, ⟨O, rfl⟩, hb⟩
   have hz2 : W1.heap.size ≤ v2.heap.size := hb.size
   have hx := (uh HX).keep hb
   clear y9 yf yl
   have y9 := Box.at hx 9 _ rfl
   have yf := Box.soft hx
   have yl := hx.lt
   simp only [ga, gb, gc] at y9
   have hv := (uh HV).trans (hb.mono (uh HV).size)
   replace HV := yh (hv.setCell (p := ⟨wr.heap.size, 9, none⟩) (Nat.le_refl _) (.slice p2 x.vec.length q2))
   have hx2 := Box.set hx 9 (.slice p2 x.vec.length q2)
   simp only [List.setIfInBounds_toArray, List.set_cons_zero, List.set_cons_succ] at hx2
   replace HX := yh hx2
   have e2 : Ext (fun q => q = wr.heap.size) v2 (v2.setCell ⟨wr.heap.size, 9, none⟩ (.slice p2 x.vec.length q2)) := (Ext.refl _ _).setCell _ _ rfl
   replace P0 := yh (((uh P0).later hb).ext e2 (fun q h1 h2 h3 => by omega))
   have P1 := yh (O.ext e2 (fun q h1 h2 h3 => by omega))
   have hz2' : (v2.setCell ⟨wr.heap.size, 9, none⟩ (.slice p2 x.vec.length q2)).heap.size = v2.heap.size := by simp
   clear hx hx2 e2 hv O hb HC
   go_upto_region 7 with fail
   generalize hW : v2.setCell ⟨wr.heap.size, 9, none⟩ (.slice p2 x.vec.length q2) = W2 at *
   clear hW y9 yf yl
   have hx := uh HX
   have y10 := Box.at hx 10 _ rfl
   have yf := Box.soft hx
   have yl := hx.lt
   simp only [ga, gb, gc] at y10
   have HC := yh (cloneH _ x.hits W2 ((uh HR2).later (uh HV)) (uh HVL).2.2)
   clear hx
   go_wp2_with fail
   refine (uh HC).mono ?_
   rintro e v3 ⟨p3, q3, rfl, O, hb⟩
   have hz3 : W2.heap.size ≤ v3.heap.size := hb.size
   have hx := (uh HX).keep hb
   clear y10 yf yl
   have y10 := Box.at hx 10 _ rfl
   have yf := Box.soft hx
   have yl := hx.lt
   simp only [ga, gb, gc] at y10
   have hv := (uh HV).trans (hb.mono (uh HV).size)
   replace HV := yh (hv.setCell (p := ⟨wr.heap.size, 10, none⟩) (Nat.le_refl _) (.slice p3 x.hits.length q3))
   have hx2 := Box.set hx 10 (.slice p3 x.hits.length q3)
   simp only [List.setIfInBounds_toArray, List.set_cons_zero, List.set_cons_succ] at hx2
   replace HX := yh hx2
   have e3 : Ext (fun q => q = wr.heap.size) v3 (v3.setCell ⟨wr.heap.size, 10, none⟩ (.slice p3 x.hits.length q3)) := (Ext.refl _ _).setCell _ _ rfl
   replace P0 := yh (((uh P0).later hb).ext e3 (fun q h1 h2 h3 => by omega))
   replace P1 := yh (((uh P1).later hb).ext e3 (fun q h1 h2 h3 => by omega))
   have P2 := yh (O.ext e3 (fun q h1 h2 h3 => by omega))
   have hz3' : (v3.setCell ⟨wr.heap.size, 10, none⟩ (.slice p3 x.hits.length q3)).heap.size = v3.heap.size := by simp
   clear hx hx2 e3 hv O hb HC
   go_upto_region 8 with fail
   generalize hW : v3.setCell ⟨wr.heap.size, 10, none⟩ (.slice p3 x.hits.length q3) = W3 at *
   clear hW y10 yf yl
   have hx := uh HX
   have y0 := Box.at hx 0 _ rfl
   have y1 := Box.at hx 1 _ rfl
   have y2 := Box.at hx 2 _ rfl
   have y3 := Box.at hx 3 _ rfl
   have y4 := Box.at hx 4 _ rfl
   have y5 := Box.at hx 5 _ rfl
   have y6 := Box.at hx 6 _ rfl
   have y7 := Box.at hx 7 _ rfl
   have y8 := Box.at hx 8 _ rfl
   have y9 := Box.at hx 9 _ rfl
   have y10 := Box.at hx 10 _ rfl
   simp only [ga, gb, gc] at y0 y1 y2 y3 y4 y5 y6 y7 y8 y9 y10
   have yl := hx.lt
   clear hx
   have hb3 : Below wr.heap.size wr W3 := uh HV
   have o2 := own_below (uh HO) hb3
   have O := own_entryC (uh P0) (uh P1) (uh P2) (by omega) (by omega) (by omega) (by omega) (by omega) (by omega) (uh HWF)
   replace HS := yh (Lay.subs_snoc (Lay.subs_ext (uh HS) (ext_of_below hb3 nowhere) (fun _ _ _ h => h)) O (by omega) (by omega) (by omega))
   have hb2 := (uh HB).trans (hb3.mono (uh HB).size)
   have hxw : w.heap.size < wr.heap.size := by omega
   have hwz := hb3.size
   clear HB HO O HV hb3 P0 P1 P2
   have hQ := uh HQ
   have hl5 : (rows.flatten ++ Q).length = xs.length * 11 := o2.1
   obtain ⟨u0, g0⟩ : ∃ u, W3.cell? ⟨w.heap.size, k * 11, none⟩ = some u := by
    rw [o2.cellAt (k * 11) (by omega)]
    exact ⟨_, List.getElem?_eq_getElem (by omega)⟩
   have t0 := o2.frozenAt (k * 11)
   obtain ⟨u1, g1⟩ : ∃ u, W3.cell? ⟨w.heap.size, k * 11 + 1, none⟩ = some u := by
    rw [o2.cellAt (k * 11 + 1) (by omega)]
    exact ⟨_, List.getElem?_eq_getElem (by omega)⟩
   have t1 := o2.frozenAt (k * 11 + 1)
   obtain ⟨u2, g2⟩ : ∃ u, W3.cell? ⟨w.heap.size, k * 11 + 2, none⟩ = some u := by
    rw [o2.cellAt (k * 11 + 2) (by omega)]
    exact ⟨_, List.getElem?_eq_getElem (by omega)⟩
   have t2 := o2.frozenAt (k * 11 + 2)
   obtain ⟨u3, g3⟩ : ∃ u, W3.cell? ⟨w.heap.size, k * 11 + 3, none⟩ = some u := by
    rw [o2.cellAt (k * 11 + 3) (by omega)]
    exact ⟨_, List.getElem?_eq_getElem (by omega)⟩
   have t3 := o2.frozenAt (k * 11 + 3)
   obtain ⟨u4, g4⟩ : ∃ u, W3.cell? ⟨w.heap.size, k * 11 + 4, none⟩ = some u := by
    rw [o2.cellAt (k * 11 + 4) (by omega)]
    exact ⟨_, List.getElem?_eq_getElem (by omega)⟩
   have t4 := o2.frozenAt (k * 11 + 4)
   obtain ⟨u5, g5⟩ : ∃ u, W3.cell? ⟨w.heap.size, k * 11 + 5, none⟩ = some u := by
    rw [o2.cellAt (k * 11 + 5) (by omega)]
    exact ⟨_, List.getElem?_eq_getElem (by omega)⟩
   have t5 := o2.frozenAt (k * 11 + 5)
   obtain ⟨u6, g6⟩ : ∃ u, W3.cell? ⟨w.heap.size, k * 11 + 6, none⟩ = some u := by
    rw [o2.cellAt (k * 11 + 6) (by omega)]
    exact ⟨_, List.getElem?_eq_getElem (by omega)⟩
   have t6 := o2.frozenAt (k * 11 + 6)
   obtain ⟨u7, g7⟩ : ∃ u, W3.cell? ⟨w.heap.size, k * 11 + 7, none⟩ = some u := by
    rw [o2.cellAt (k * 11 + 7) (by omega)]
    exact ⟨_, List.getElem?_eq_getElem (by omega)⟩
   have t7 := o2.frozenAt (k * 11 + 7)
   obtain ⟨u8, g8⟩ : ∃ u, W3.cell? ⟨w.heap.size, k * 11 + 8, none⟩ = some u := by
    rw [o2.cellAt (k * 11 + 8) (by omega)]
    exact ⟨_, List.getElem?_eq_getElem (by omega)⟩
   have t8 := o2.frozenAt (k * 11 + 8)
   obtain ⟨u9, g9⟩ : ∃ u, W3.cell? ⟨w.heap.size, k * 11 + 9, none⟩ = some u := by
    rw [o2.cellAt (k * 11 + 9) (by omega)]
    exact ⟨_, List.getElem?_eq_getElem (by omega)⟩
   have t9 := o2.frozenAt (k * 11 + 9)
   obtain ⟨u10, g10⟩ : ∃ u, W3.cell? ⟨w.heap.size, k * 11 + 10, none⟩ = some u := by
    rw [o2.cellAt (k * 11 + 10) (by omega)]
    exact ⟨_, List.getElem?_eq_getElem (by omega)⟩
   have t10 := o2.frozenAt (k * 11 + 10)
   have o3 := own_setAll o2 (k * 11) [.int .i64 x.kind, .int .i64 x.session, .int .i64 x.seq, .int .i64 x.id, .slice p1 x.query.length q1, .int .i64 x.k, .int .i64 x.start, .int .i64 x.fin, .int .i64 x.place, .slice p2 x.vec.length q2, .slice p3 x.hits.length q3]
   rw [show k * 11 = rows.flatten.length from hrl.symm, setFrom_app _ _ _ (by rw [hQ]; simp; have : 1 * 11 ≤ (xs.length - k) * 11 := Nat.mul_le_mul_right _ (by omega); omega), hrl] at o3
   have E : Ext (fun q => q = w.heap.size) W3 (setAll W3 w.heap.size (k * 11) [.int .i64 x.kind, .int .i64 x.session, .int .i64 x.seq, .int .i64 x.id, .slice p1 x.query.length q1, .int .i64 x.k, .int .i64 x.start, .int .i64 x.fin, .int .i64 x.place, .slice p2 x.vec.length q2, .slice p3 x.hits.length q3]) := ext_setAll _ (Ext.refl _ _) _ _ _ rfl
   replace HS := yh (Lay.subs_ext (uh HS) E (fun q h1 h2 h3 => by omega))
   have HB := yh (below_setAll hb2 w.heap.size (k * 11) [.int .i64 x.kind, .int .i64 x.session, .int .i64 x.seq, .int .i64 x.id, .slice p1 x.query.length q1, .int .i64 x.k, .int .i64 x.start, .int .i64 x.fin, .int .i64 x.place, .slice p2 x.vec.length q2, .slice p3 x.hits.length q3] (Nat.le_refl _))
   have HZ : Hid ((setAll W3 w.heap.size (k * 11) [.int .i64 x.kind, .int .i64 x.session, .int .i64 x.seq, .int .i64 x.id, .slice p1 x.query.length q1, .int .i64 x.k, .int .i64 x.start, .int .i64 x.fin, .int .i64 x.place, .slice p2 x.vec.length q2, .slice p3 x.hits.length q3]).heap.size = v3.heap.size) := (size_setAll _ _ _ _).trans hz3'
   have HO : Hid ((setAll W3 w.heap.size (k * 11) [.int .i64 x.kind, .int .i64 x.session, .int .i64 x.seq, .int .i64 x.id, .slice p1 x.query.length q1, .int .i64 x.k, .int .i64 x.start, .int .i64 x.fin, .int .i64 x.place, .slice p2 x.vec.length q2, .slice p3 x.hits.length q3]).ownsRow w.heap.size 127 11 (.slice (some ⟨w.heap.size, 0, none⟩) xs.length xs.length) xs.length ((rows ++ [([.int .i64 x.kind, .int .i64 x.session, .int .i64 x.seq, .int .i64 x.id, .slice p1 x.query.length q1, .int .i64 x.k, .int .i64 x.start, .int .i64 x.fin, .int .i64 x.place, .slice p2 x.vec.length q2, .slice p3 x.hits.length q3] : List Value)]).flatten ++ Q.drop 11)) := by
    show (setAll W3 w.heap.size (k * 11) [.int .i64 x.kind, .int .i64 x.session, .int .i64 x.seq, .int .i64 x.id, .slice p1 x.query.length q1, .int .i64 x.k, .int .i64 x.start, .int .i64 x.fin, .int .i64 x.place, .slice p2 x.vec.length q2, .slice p3 x.hits.length q3]).ownsRow w.heap.size 127 11 (.slice (some ⟨w.heap.size, 0, none⟩) xs.length xs.length) xs.length ((rows ++ [([.int .i64 x.kind, .int .i64 x.session, .int .i64 x.seq, .int .i64 x.id, .slice p1 x.query.length q1, .int .i64 x.k, .int .i64 x.start, .int .i64 x.fin, .int .i64 x.place, .slice p2 x.vec.length q2, .slice p3 x.hits.length q3] : List Value)]).flatten ++ Q.drop 11)
    rw [List.flatten_append]
    simpa using o3
   have hl2 := (o2.lt w.heap.size rfl).2
   clear o3 o2 E hb2 hl5
   have hQ2 : Hid ((Q.drop 11).length = (xs.length - (k + 1)) * 11) := by
    show (Q.drop 11).length = (xs.length - (k + 1)) * 11
    rw [List.length_drop, hQ, show xs.length - k = xs.length - (k + 1) + 1 by omega, Nat.add_mul]
    omega
   have HW2 : Hid (w.heap.size < v3.heap.size) := by show w.heap.size < v3.heap.size; omega
   clear hQ HQ hz0 HX hz1 hz1' hz2 hz2' hz3 hz3'
   go_wp2_with fail
   go_roundw
   case rel => exact ⟨k + 1, rows ++ [([.int .i64 x.kind, .int .i64 x.session, .int .i64 x.seq, .int .i64 x.id, .slice p1 x.query.length q1, .int .i64 x.k, .int .i64 x.start, .int .i64 x.fin, .int .i64 x.place, .slice p2 x.vec.length q2, .slice p3 x.hits.length q3] : List Value)], Q.drop 11, v3.heap.size, by omega, by go_num, uh HO, uh hQ2, (by rw [uh HT]; exact uh HS), Nat.le_of_eq (uh HZ).symm, uh HW2, uh HB⟩
   case measure => simp [intOf]; omega
  obtain rfl : k = xs.length := by omega
  have e0 : Q = [] := List.eq_nil_of_length_eq_zero (by rw [hQ]; simp)
  subst e0
  rw [List.append_nil] at hown
  rw [List.take_length] at hsub
  have HO := yh (Lay.subs_done (A := Lay.tEntry) hown hsub (by omega) hhi hbig)
  have HB := yh hB
  clear hown hsub hB
  go_wp2_with fail
  go_ret
  exact ⟨_, rfl, uh HO, uh HB⟩
theorem infoMsgC : (Tryz.prog.info? 89).map (fun i => (i.zero, i.size, decide (i.bytes ≤ 1000))) = some (some (.agg #[.int .i64 0, .int .i64 0, .int .i64 0, .int .i64 0, .int .i64 0, .int .i64 0, .int .i64 0, .slice none 0 0, .int .i64 0, .int .i64 0]), 10, true) := by kernel_rfl
theorem wf_Msg {w : World} {cs : List Value} {x : DMsg} (h : Lay.tMsg.Reads w cs x) : (Lit.int .i64 x.kind).wf = true ∧ (Lit.int .i64 x.epoch).wf = true ∧ (Lit.int .i64 x.src).wf = true ∧ (Lit.int .i64 x.dst).wf = true ∧ (Lit.int .i64 x.index).wf = true ∧ (Lit.int .i64 x.write.kind).wf = true ∧ (Lit.int .i64 x.write.id).wf = true ∧ (Lit.int .i64 x.write.session).wf = true ∧ (Lit.int .i64 x.write.seq).wf = true := by
 obtain ⟨bl, h⟩ := h
 obtain ⟨a7, d7, b7, -, -, w0, w1, w2, w3, w4, w5, w6, -, w8, w9⟩ := lies_Msg.1 h
 exact ⟨w0, w1, w2, w3, w4, w5, w6, w8, w9⟩
theorem own_msgC {w : World} {x : DMsg} {v : Value} {lo hi : Nat} (h : (Lay.sl Lay.int).OwnIn w [v] x.write.vec lo hi) (hw : (Lit.int .i64 x.kind).wf = true ∧ (Lit.int .i64 x.epoch).wf = true ∧ (Lit.int .i64 x.src).wf = true ∧ (Lit.int .i64 x.dst).wf = true ∧ (Lit.int .i64 x.index).wf = true ∧ (Lit.int .i64 x.write.kind).wf = true ∧ (Lit.int .i64 x.write.id).wf = true ∧ (Lit.int .i64 x.write.session).wf = true ∧ (Lit.int .i64 x.write.seq).wf = true) : Lay.tMsg.OwnIn w [.int .i64 x.kind, .int .i64 x.epoch, .int .i64 x.src, .int .i64 x.dst, .int .i64 x.index, .int .i64 x.write.kind, .int .i64 x.write.id, v, .int .i64 x.write.session, .int .i64 x.write.seq] x lo hi := by
 obtain ⟨bl, O, i⟩ := h
 obtain ⟨w0, w1, w2, w3, w4, w5, w6, w8, w9⟩ := hw
 exact ⟨bl, mkOwn_Msg (mkOwn_Write O w5 w6 w8 w9 O.2.1) w0 w1 w2 w3 w4 O.2.1, i⟩
theorem vecM {w : World} {x : DMsg} {a : Option Addr} {d : Nat} (h : Lay.tMsg.Reads w [.int .i64 x.kind, .int .i64 x.epoch, .int .i64 x.src, .int .i64 x.dst, .int .i64 x.index, .int .i64 x.write.kind, .int .i64 x.write.id, .slice a x.write.vec.length d, .int .i64 x.write.session, .int .i64 x.write.seq] x) : (Lay.sl Lay.int).Reads w [.slice a x.write.vec.length d] x.write.vec := by
 obtain ⟨bl, h⟩ := h
 obtain ⟨a7, d7, b7, e, -, -, -, -, -, -, -, -, l, -⟩ := lies_Msg.1 h
 simp only [List.cons.injEq, Value.slice.injEq, and_true, true_and] at e
 obtain ⟨rfl, rfl⟩ := e
 exact ⟨b7, l⟩
theorem copiedMsgC (cs : List Value) (x : DMsg) (w : World) (h : Lay.tMsg.Reads w cs x) (hn : x.write.vec.length ≤ 10000000) :
  Calls Tryz.prog 301 #[.agg cs.toArray] w fun e w' => ∃ a3 c3, e = .returned (.agg #[.int .i64 x.kind, .int .i64 x.epoch, .int .i64 x.src, .int .i64 x.dst, .int .i64 x.index, .int .i64 x.write.kind, .int .i64 x.write.id, .slice a3 x.write.vec.length c3, .int .i64 x.write.session, .int .i64 x.write.seq]) ∧ Lay.tMsg.OwnIn w' [.int .i64 x.kind, .int .i64 x.epoch, .int .i64 x.src, .int .i64 x.dst, .int .i64 x.index, .int .i64 x.write.kind, .int .i64 x.write.id, .slice a3 x.write.vec.length c3, .int .i64 x.write.session, .int .i64 x.write.seq] x (w.heap.size + 2) w'.heap.size ∧ Below w.heap.size w w' := by
 have HV := yh (wf_Msg h)
 obtain ⟨a, d, rfl, -⟩ := open_Msg h
 have HR0 := yh (vecM h)
 clear h
 have nb1 : Below w.heap.size w (w.alloc (.cells #[.int .i64 x.kind, .int .i64 x.epoch, .int .i64 x.src, .int .i64 x.dst, .int .i64 x.index, .int .i64 x.write.kind, .int .i64 x.write.id, .slice a x.write.vec.length d, .int .i64 x.write.session, .int .i64 x.write.seq] 89)) := (Below.refl _ _).alloc (Nat.le_refl _) _
 have x1 : Box 0 #[.int .i64 x.kind, .int .i64 x.epoch, .int .i64 x.src, .int .i64 x.dst, .int .i64 x.index, .int .i64 x.write.kind, .int .i64 x.write.id, .slice a x.write.vec.length d, .int .i64 x.write.session, .int .i64 x.write.seq] 89 (w.alloc (.cells #[.int .i64 x.kind, .int .i64 x.epoch, .int .i64 x.src, .int .i64 x.dst, .int .i64 x.index, .int .i64 x.write.kind, .int .i64 x.write.id, .slice a x.write.vec.length d, .int .i64 x.write.session, .int .i64 x.write.seq] 89)) w.heap.size := newBox (Nat.zero_le _)
 have s1 : (w.alloc (.cells #[.int .i64 x.kind, .int .i64 x.epoch, .int .i64 x.src, .int .i64 x.dst, .int .i64 x.index, .int .i64 x.write.kind, .int .i64 x.write.id, .slice a x.write.vec.length d, .int .i64 x.write.session, .int .i64 x.write.seq] 89)).heap.size = w.heap.size + 1 := by simp
 have r1 := (uh HR0).later nb1
 generalize hA1 : w.alloc (.cells #[.int .i64 x.kind, .int .i64 x.epoch, .int .i64 x.src, .int .i64 x.dst, .int .i64 x.index, .int .i64 x.write.kind, .int .i64 x.write.id, .slice a x.write.vec.length d, .int .i64 x.write.session, .int .i64 x.write.seq] 89) = A1 at *
 have nb2 : Below A1.heap.size A1 (A1.alloc (.cells #[.int .i64 0, .int .i64 0, .int .i64 0, .int .i64 0, .int .i64 0, .int .i64 0, .int .i64 0, .slice none 0 0, .int .i64 0, .int .i64 0] 89)) := (Below.refl _ _).alloc (Nat.le_refl _) _
 have x2 : Box 0 #[.int .i64 0, .int .i64 0, .int .i64 0, .int .i64 0, .int .i64 0, .int .i64 0, .int .i64 0, .slice none 0 0, .int .i64 0, .int .i64 0] 89 (A1.alloc (.cells #[.int .i64 0, .int .i64 0, .int .i64 0, .int .i64 0, .int .i64 0, .int .i64 0, .int .i64 0, .slice none 0 0, .int .i64 0, .int .i64 0] 89)) A1.heap.size := newBox (Nat.zero_le _)
 have s2 : (A1.alloc (.cells #[.int .i64 0, .int .i64 0, .int .i64 0, .int .i64 0, .int .i64 0, .int .i64 0, .int .i64 0, .slice none 0 0, .int .i64 0, .int .i64 0] 89)).heap.size = A1.heap.size + 1 := by simp
 replace x1 := x1.keep nb2
 have r2 := r1.later nb2
 have B2 : Below w.heap.size w (A1.alloc (.cells #[.int .i64 0, .int .i64 0, .int .i64 0, .int .i64 0, .int .i64 0, .int .i64 0, .int .i64 0, .slice none 0 0, .int .i64 0, .int .i64 0] 89)) := nb1.trans (nb2.mono (by omega))
 rw [s1] at x2 s2
 have HB := yh B2
 have HX1 := yh x1
 have HX2 := yh x2
 have HR := yh r2
 have HS := yh s2
 subst hA1
 clear nb1 nb2 x1 x2 r1 r2 B2 s1 s2 HR0
 go_enter Tryz.func301, Tryz.ntmps301
 go_upto_region 1 with fail
 generalize (w.alloc (.cells #[.int .i64 x.kind, .int .i64 x.epoch, .int .i64 x.src, .int .i64 x.dst, .int .i64 x.index, .int .i64 x.write.kind, .int .i64 x.write.id, .slice a x.write.vec.length d, .int .i64 x.write.session, .int .i64 x.write.seq] 89)).alloc (.cells #[.int .i64 0, .int .i64 0, .int .i64 0, .int .i64 0, .int .i64 0, .int .i64 0, .int .i64 0, .slice none 0 0, .int .i64 0, .int .i64 0] 89) = W1 at *
 have HL := yh (cloneC _ x.write.vec W1 (uh HR) hn)
 have y7 : W1.cell? ⟨w.heap.size, 7, none⟩ = some (.slice a x.write.vec.length d) := (uh HX1).at 7 _ rfl
 go_wp2_with fail
 refine (uh HL).mono ?_
 rintro e W2 ⟨a3, n3, c3, rfl, ⟨O, hn3⟩, hb⟩
 subst hn3
 have hx1 := (uh HX1).keep hb
 have hx2 := (uh HX2).keep hb
 have hB2 := (uh HB).trans (hb.mono (uh HB).size)
 have hs2 := uh HS
 have hz2 := hb.size
 clear HX1 HX2 HB HR HS HL y7 hb
 have y0 : W2.cell? ⟨w.heap.size, 0, none⟩ = some (.int .i64 x.kind) := (hx1).at 0 _ rfl
 have y1 : W2.cell? ⟨w.heap.size, 1, none⟩ = some (.int .i64 x.epoch) := (hx1).at 1 _ rfl
 have y2 : W2.cell? ⟨w.heap.size, 2, none⟩ = some (.int .i64 x.src) := (hx1).at 2 _ rfl
 have y3 : W2.cell? ⟨w.heap.size, 3, none⟩ = some (.int .i64 x.dst) := (hx1).at 3 _ rfl
 have y4 : W2.cell? ⟨w.heap.size, 4, none⟩ = some (.int .i64 x.index) := (hx1).at 4 _ rfl
 have y5 : W2.cell? ⟨w.heap.size, 5, none⟩ = some (.int .i64 x.write.kind) := (hx1).at 5 _ rfl
 have y6 : W2.cell? ⟨w.heap.size, 6, none⟩ = some (.int .i64 x.write.id) := (hx1).at 6 _ rfl
 have y7 : W2.cell? ⟨w.heap.size, 7, none⟩ = some (.slice a x.write.vec.length d) := (hx1).at 7 _ rfl
 have y8 : W2.cell? ⟨w.heap.size, 8, none⟩ = some (.int .i64 x.write.session) := (hx1).at 8 _ rfl
 have y9 : W2.cell? ⟨w.heap.size, 9, none⟩ = some (.int .i64 x.write.seq) := (hx1).at 9 _ rfl
 have yf := hx1.soft
 have yl := hx1.lt
 have v0 : W2.cell? ⟨w.heap.size + 1, 0, none⟩ = some (.int .i64 0) := (hx2).at 0 _ rfl
 have v1 : W2.cell? ⟨w.heap.size + 1, 1, none⟩ = some (.int .i64 0) := (hx2).at 1 _ rfl
 have v2 : W2.cell? ⟨w.heap.size + 1, 2, none⟩ = some (.int .i64 0) := (hx2).at 2 _ rfl
 have v3 : W2.cell? ⟨w.heap.size + 1, 3, none⟩ = some (.int .i64 0) := (hx2).at 3 _ rfl
 have v4 : W2.cell? ⟨w.heap.size + 1, 4, none⟩ = some (.int .i64 0) := (hx2).at 4 _ rfl
 have v5 : W2.cell? ⟨w.heap.size + 1, 5, none⟩ = some (.int .i64 0) := (hx2).at 5 _ rfl
 have v6 : W2.cell? ⟨w.heap.size + 1, 6, none⟩ = some (.int .i64 0) := (hx2).at 6 _ rfl
 have v7 : W2.cell? ⟨w.heap.size + 1, 7, none⟩ = some (.slice none 0 0) := (hx2).at 7 _ rfl
 have v8 : W2.cell? ⟨w.heap.size + 1, 8, none⟩ = some (.int .i64 0) := (hx2).at 8 _ rfl
 have v9 : W2.cell? ⟨w.heap.size + 1, 9, none⟩ = some (.int .i64 0) := (hx2).at 9 _ rfl
 have vf := hx2.soft
 have vl := hx2.lt
 have E1 : Ext (fun q => q = w.heap.size) W2 (W2.setCell ⟨w.heap.size, 7, none⟩ (.slice a3 x.write.vec.length c3)) := (Ext.refl (fun q => q = w.heap.size) _).setCell ⟨w.heap.size, 7, none⟩ _ rfl
 have B3 : Below w.heap.size w (W2.setCell ⟨w.heap.size, 7, none⟩ (.slice a3 x.write.vec.length c3)) := hB2.setCell (by simp) _
 have O3 := O.ext E1 (fun q h1 h2 h3 => by omega)
 have O4 := own_store' (s := w.heap.size + 1) (vs := [.int .i64 x.kind, .int .i64 x.epoch, .int .i64 x.src, .int .i64 x.dst, .int .i64 x.index, .int .i64 x.write.kind, .int .i64 x.write.id, .slice a3 x.write.vec.length c3, .int .i64 x.write.session, .int .i64 x.write.seq]) O3 (by omega)
 have HO := yh (own_msgC O4 (uh HV))
 have HB4 := yh (below_setAll B3 (w.heap.size + 1) 0 [.int .i64 x.kind, .int .i64 x.epoch, .int .i64 x.src, .int .i64 x.dst, .int .i64 x.index, .int .i64 x.write.kind, .int .i64 x.write.id, .slice a3 x.write.vec.length c3, .int .i64 x.write.session, .int .i64 x.write.seq] (by omega))
 have HZ : Hid ((setAll (W2.setCell ⟨w.heap.size, 7, none⟩ (.slice a3 x.write.vec.length c3)) (w.heap.size + 1) 0 [.int .i64 x.kind, .int .i64 x.epoch, .int .i64 x.src, .int .i64 x.dst, .int .i64 x.index, .int .i64 x.write.kind, .int .i64 x.write.id, .slice a3 x.write.vec.length c3, .int .i64 x.write.session, .int .i64 x.write.seq]).heap.size = W2.heap.size) := by
  refine (size_setAll _ _ _ _).trans ?_
  simp
 have hq : W1.heap.size = w.heap.size + 2 := by omega
 have HQ := yh hq
 clear O O3 O4 E1 B3 hB2 HV hq hx1 hx2 hs2
 go_wp2_with fail
 refine bodyPost_ret (v := .agg #[.int .i64 x.kind, .int .i64 x.epoch, .int .i64 x.src, .int .i64 x.dst, .int .i64 x.index, .int .i64 x.write.kind, .int .i64 x.write.id, .slice a3 x.write.vec.length c3, .int .i64 x.write.session, .int .i64 x.write.seq]) (by simp [results, Tryz.results301, go_sem, v0, v1, v2, v3, v4, v5, v6, v7, v8, v9]) rfl ?_
 refine ⟨a3, c3, rfl, ?_, uh HB4⟩
 have h9 := uh HO
 rw [uh HQ] at h9
 exact h9.mono (Nat.le_refl _) (Nat.le_of_eq (uh HZ).symm)
def CopyKit (w w' : World) (g : Nat) (xs : List DMsg) : Prop := g = w.heap.size ∧ ∃ (rows : List (List Value)) (hi : Nat), w'.ownsRow w.heap.size 89 10 (.slice (some ⟨g, 0, none⟩) xs.length xs.length) xs.length rows.flatten ∧ Lay.Subs Lay.tMsg w' rows xs (w.heap.size + 1) hi ∧ hi ≤ w'.heap.size ∧ w.heap.size < hi
theorem copiedMsgsC (v : Value) (xs : List DMsg) (w : World) (h : (Lay.sl Lay.tMsg).Reads w [v] xs) (hlen : xs.length ≤ 1000000) (hv : ∀ x ∈ xs, x.write.vec.length ≤ 10000000) :
  Calls Tryz.prog 272 #[v] w fun e w' => ∃ (g : Nat), e = .returned (.slice (some ⟨g, 0, none⟩) xs.length xs.length) ∧ (Lay.sl Lay.tMsg).OwnIn w' [.slice (some ⟨g, 0, none⟩) xs.length xs.length] xs w.heap.size w'.heap.size ∧ Below w.heap.size w w' ∧ CopyKit w w' g xs := by
 have hbig := h.big
 obtain ⟨ao, cap, rfl⟩ := open_sl h
 obtain ⟨i0, hi, hz0, hz1, hz2⟩ : ∃ i, Tryz.prog.info? 89 = some i ∧ i.zero = some (.agg #[.int .i64 0, .int .i64 0, .int .i64 0, .int .i64 0, .int .i64 0, .int .i64 0, .int .i64 0, .slice none 0 0, .int .i64 0, .int .i64 0]) ∧ i.size = 10 ∧ i.bytes ≤ 1000 := by
  have := infoMsgC
  cases hq : Tryz.prog.info? 89 with
  | none => rw [hq] at this; simp at this
  | some i =>
   rw [hq] at this
   simp only [Option.map_some, Option.some.injEq, Prod.mk.injEq, decide_eq_true_eq] at this
   exact ⟨i, rfl, this.1, this.2.1, this.2.2⟩
 have H := yh h
 have HN := yh hv
 clear h hv
 go_enter Tryz.func272, Tryz.ntmps272
 go_wp2_with (at_make; refine wpList_make_full _ rfl _ _ 33 rfl w.heap.size 89 i0 _ 10 Tryz.underlying33 hi hz0 hz1 _ _ _ _ xs.length rfl rfl rfl rfl ?c1 ?c2 ?c3 ?_)
 case c1 => have := Nat.mul_le_mul hz2 hlen; omega
 case c2 => unfold maxLen; omega
 case c3 => exact Nat.le_refl _
 intro w1 hown1 hgrow1
 have hB1 : Below w.heap.size w w1 := (Below.refl _ _).grown hgrow1 (Nat.le_refl _) (by simp)
 clear hgrow1 hi hz0 hz1 hz2
 have HO1 := yh hown1
 have HB1 := yh hB1
 clear hown1 hB1
 go_wp2_with fail
 go_loopw [11] (fun i wr => ∃ (k : Nat) (rows : List (List Value)) (Q : List Value) (hi : Nat), k ≤ xs.length ∧ i = .int .i64 k ∧ wr.ownsRow w.heap.size 89 10 (.slice (some ⟨w.heap.size, 0, none⟩) xs.length xs.length) xs.length (rows.flatten ++ Q) ∧ Q.length = (xs.length - k) * 10 ∧ Lay.Subs Lay.tMsg wr rows (xs.take k) (w.heap.size + 1) hi ∧ hi ≤ wr.heap.size ∧ w.heap.size < hi ∧ Below w.heap.size w wr) (fun i _ => xs.length - (intOf i).toNat)
 case atStart =>
  have hl := ((uh HO1).lt w.heap.size rfl).2
  exact ⟨0, [], _, w1.heap.size, Nat.zero_le _, rfl, by simpa using uh HO1, by have := (uh HO1).1; simpa using this, Lay.subs_nil, Nat.le_refl _, hl, uh HB1⟩
 case round =>
  obtain ⟨k, rows, Q, hi, hk, rfl, hown, hQ, hsub, hhi, hlo, hB⟩ := hrel
  clear HO1 HB1
  by_cases hlt : k < xs.length
  ·
   obtain ⟨b, off, rfl, hbl⟩ := Lay.sl_addr (uh H) (by omega)
   obtain ⟨row, hc, hr⟩ := Lay.row_at (uh H) hlt
   replace hr := hr.later hB
   have hr2 := hr
   obtain ⟨a, d, rfl, -⟩ := open_Msg hr2
   have c0 : wr.cell? ⟨b, off + k * 10, none⟩ = some (.int .i64 (xs[k]).kind) := (hB.cell (p := ⟨b, off + k * 10, none⟩) hbl).trans (hc 0 (by decide))
   have c1 : wr.cell? ⟨b, off + k * 10 + 1, none⟩ = some (.int .i64 (xs[k]).epoch) := (hB.cell (p := ⟨b, off + k * 10 + 1, none⟩) hbl).trans (hc 1 (by decide))
   have c2 : wr.cell? ⟨b, off + k * 10 + 2, none⟩ = some (.int .i64 (xs[k]).src) := (hB.cell (p := ⟨b, off + k * 10 + 2, none⟩) hbl).trans (hc 2 (by decide))
   have c3 : wr.cell? ⟨b, off + k * 10 + 3, none⟩ = some (.int .i64 (xs[k]).dst) := (hB.cell (p := ⟨b, off + k * 10 + 3, none⟩) hbl).trans (hc 3 (by decide))
   have c4 : wr.cell? ⟨b, off + k * 10 + 4, none⟩ = some (.int .i64 (xs[k]).index) := (hB.cell (p := ⟨b, off + k * 10 + 4, none⟩) hbl).trans (hc 4 (by decide))
   have c5 : wr.cell? ⟨b, off + k * 10 + 5, none⟩ = some (.int .i64 (xs[k]).write.kind) := (hB.cell (p := ⟨b, off + k * 10 + 5, none⟩) hbl).trans (hc 5 (by decide))
   have c6 : wr.cell? ⟨b, off + k * 10 + 6, none⟩ = some (.int .i64 (xs[k]).write.id) := (hB.cell (p := ⟨b, off + k * 10 + 6, none⟩) hbl).trans (hc 6 (by decide))
   have c7 : wr.cell? ⟨b, off + k * 10 + 7, none⟩ = some (.slice a (xs[k]).write.vec.length d) := (hB.cell (p := ⟨b, off + k * 10 + 7, none⟩) hbl).trans (hc 7 (by decide))
   have c8 : wr.cell? ⟨b, off + k * 10 + 8, none⟩ = some (.int .i64 (xs[k]).write.session) := (hB.cell (p := ⟨b, off + k * 10 + 8, none⟩) hbl).trans (hc 8 (by decide))
   have c9 : wr.cell? ⟨b, off + k * 10 + 9, none⟩ = some (.int .i64 (xs[k]).write.seq) := (hB.cell (p := ⟨b, off + k * 10 + 9, none⟩) hbl).trans (hc 9 (by decide))
   have hrl : rows.flatten.length = k * 10 := by have := (Lay.subs_len hsub).1; rw [List.length_take, Nat.min_eq_left hk] at this; exact this
   have hvl := uh HN xs[k] (List.getElem_mem hlt)
   have HT : Hid (xs.take (k + 1) = xs.take k ++ [xs[k]]) := List.take_succ_eq_append_getElem hlt
   have HB := yh hB
   have HO := yh hown
   have HS := yh hsub
   have HQ := yh hQ
   have HRM := yh hr
   clear hB hr hc hown hsub hQ hr2
   generalize hxk : xs[k] = x at *
   clear hxk
   have hbr : b < wr.heap.size := Nat.lt_of_lt_of_le hbl (uh HB).size
   have nb : Below wr.heap.size wr (wr.alloc (.cells #[.int .i64 x.kind, .int .i64 x.epoch, .int .i64 x.src, .int .i64 x.dst, .int .i64 x.index, .int .i64 x.write.kind, .int .i64 x.write.id, .slice a x.write.vec.length d, .int .i64 x.write.session, .int .i64 x.write.seq] 89)) := (Below.refl _ _).alloc (Nat.le_refl _) _
   have hz0 : (wr.alloc (.cells #[.int .i64 x.kind, .int .i64 x.epoch, .int .i64 x.src, .int .i64 x.dst, .int .i64 x.index, .int .i64 x.write.kind, .int .i64 x.write.id, .slice a x.write.vec.length d, .int .i64 x.write.session, .int .i64 x.write.seq] 89)).heap.size = wr.heap.size + 1 := by simp
   have HL := yh (copiedMsgC _ x _ ((uh HRM).later nb) hvl)
   have HNB := yh nb
   have HZ0 := yh hz0
   clear nb hz0 HRM
   go_wp2_with fail
   clear c0 c1 c2 c3 c4 c5 c6 c7 c8 c9
   refine (uh HL).mono ?_
   generalize hW0 : wr.alloc (.cells #[.int .i64 x.kind, .int .i64 x.epoch, .int .i64 x.src, .int .i64 x.dst, .int .i64 x.index, .int .i64 x.write.kind, .int .i64 x.write.id, .slice a x.write.vec.length d, .int .i64 x.write.session, .int .i64 x.write.seq] 89) = W0 at *
   clear hW0
   rintro e w2 ⟨a3, c3, rfl, O, hb⟩
   have hz0 := uh HZ0
   have hz2 : W0.heap.size ≤ w2.heap.size := hb.size
   have hb3 : Below wr.heap.size wr w2 := (uh HNB).trans (hb.mono (uh HNB).size)
   have o2 := own_below (uh HO) hb3
   replace HS := yh (Lay.subs_snoc (Lay.subs_ext (uh HS) (ext_of_below hb3 nowhere) (fun _ _ _ h => h)) O (by omega) (by omega) (by omega))
   have hb2 := (uh HB).trans (hb3.mono (uh HB).size)
   have hxw : w.heap.size < wr.heap.size := by omega
   clear hb HB HO O HNB HL hb3 HZ0
   have hQ := uh HQ
   have hl5 : (rows.flatten ++ Q).length = xs.length * 10 := o2.1
   obtain ⟨u0, g0⟩ : ∃ u, w2.cell? ⟨w.heap.size, k * 10, none⟩ = some u := by
    rw [o2.cellAt (k * 10) (by omega)]
    exact ⟨_, List.getElem?_eq_getElem (by omega)⟩
   have t0 := o2.frozenAt (k * 10)
   obtain ⟨u1, g1⟩ : ∃ u, w2.cell? ⟨w.heap.size, k * 10 + 1, none⟩ = some u := by
    rw [o2.cellAt (k * 10 + 1) (by omega)]
    exact ⟨_, List.getElem?_eq_getElem (by omega)⟩
   have t1 := o2.frozenAt (k * 10 + 1)
   obtain ⟨u2, g2⟩ : ∃ u, w2.cell? ⟨w.heap.size, k * 10 + 2, none⟩ = some u := by
    rw [o2.cellAt (k * 10 + 2) (by omega)]
    exact ⟨_, List.getElem?_eq_getElem (by omega)⟩
   have t2 := o2.frozenAt (k * 10 + 2)
   obtain ⟨u3, g3⟩ : ∃ u, w2.cell? ⟨w.heap.size, k * 10 + 3, none⟩ = some u := by
    rw [o2.cellAt (k * 10 + 3) (by omega)]
    exact ⟨_, List.getElem?_eq_getElem (by omega)⟩
   have t3 := o2.frozenAt (k * 10 + 3)
   obtain ⟨u4, g4⟩ : ∃ u, w2.cell? ⟨w.heap.size, k * 10 + 4, none⟩ = some u := by
    rw [o2.cellAt (k * 10 + 4) (by omega)]
    exact ⟨_, List.getElem?_eq_getElem (by omega)⟩
   have t4 := o2.frozenAt (k * 10 + 4)
   obtain ⟨u5, g5⟩ : ∃ u, w2.cell? ⟨w.heap.size, k * 10 + 5, none⟩ = some u := by
    rw [o2.cellAt (k * 10 + 5) (by omega)]
    exact ⟨_, List.getElem?_eq_getElem (by omega)⟩
   have t5 := o2.frozenAt (k * 10 + 5)
   obtain ⟨u6, g6⟩ : ∃ u, w2.cell? ⟨w.heap.size, k * 10 + 6, none⟩ = some u := by
    rw [o2.cellAt (k * 10 + 6) (by omega)]
    exact ⟨_, List.getElem?_eq_getElem (by omega)⟩
   have t6 := o2.frozenAt (k * 10 + 6)
   obtain ⟨u7, g7⟩ : ∃ u, w2.cell? ⟨w.heap.size, k * 10 + 7, none⟩ = some u := by
    rw [o2.cellAt (k * 10 + 7) (by omega)]
    exact ⟨_, List.getElem?_eq_getElem (by omega)⟩
   have t7 := o2.frozenAt (k * 10 + 7)
   obtain ⟨u8, g8⟩ : ∃ u, w2.cell? ⟨w.heap.size, k * 10 + 8, none⟩ = some u := by
    rw [o2.cellAt (k * 10 + 8) (by omega)]
    exact ⟨_, List.getElem?_eq_getElem (by omega)⟩
   have t8 := o2.frozenAt (k * 10 + 8)
   obtain ⟨u9, g9⟩ : ∃ u, w2.cell? ⟨w.heap.size, k * 10 + 9, none⟩ = some u := by
    rw [o2.cellAt (k * 10 + 9) (by omega)]
    exact ⟨_, List.getElem?_eq_getElem (by omega)⟩
   have t9 := o2.frozenAt (k * 10 + 9)
   have o3 := own_setAll o2 (k * 10) [.int .i64 x.kind, .int .i64 x.epoch, .int .i64 x.src, .int .i64 x.dst, .int .i64 x.index, .int .i64 x.write.kind, .int .i64 x.write.id, .slice a3 x.write.vec.length c3, .int .i64 x.write.session, .int .i64 x.write.seq]
   rw [show k * 10 = rows.flatten.length from hrl.symm, setFrom_app _ _ _ (by rw [hQ]; simp; have : 1 * 10 ≤ (xs.length - k) * 10 := Nat.mul_le_mul_right _ (by omega); omega), hrl] at o3
   have E : Ext (fun q => q = w.heap.size) w2 (setAll w2 w.heap.size (k * 10) [.int .i64 x.kind, .int .i64 x.epoch, .int .i64 x.src, .int .i64 x.dst, .int .i64 x.index, .int .i64 x.write.kind, .int .i64 x.write.id, .slice a3 x.write.vec.length c3, .int .i64 x.write.session, .int .i64 x.write.seq]) := ext_setAll _ (Ext.refl _ _) _ _ _ rfl
   replace HS := yh (Lay.subs_ext (uh HS) E (fun q h1 h2 h3 => by omega))
   have HB := yh (below_setAll hb2 w.heap.size (k * 10) [.int .i64 x.kind, .int .i64 x.epoch, .int .i64 x.src, .int .i64 x.dst, .int .i64 x.index, .int .i64 x.write.kind, .int .i64 x.write.id, .slice a3 x.write.vec.length c3, .int .i64 x.write.session, .int .i64 x.write.seq] (Nat.le_refl _))
   have HZ : Hid ((setAll w2 w.heap.size (k * 10) [.int .i64 x.kind, .int .i64 x.epoch, .int .i64 x.src, .int .i64 x.dst, .int .i64 x.index, .int .i64 x.write.kind, .int .i64 x.write.id, .slice a3 x.write.vec.length c3, .int .i64 x.write.session, .int .i64 x.write.seq]).heap.size = w2.heap.size) := size_setAll _ _ _ _
   have HO : Hid ((setAll w2 w.heap.size (k * 10) [.int .i64 x.kind, .int .i64 x.epoch, .int .i64 x.src, .int .i64 x.dst, .int .i64 x.index, .int .i64 x.write.kind, .int .i64 x.write.id, .slice a3 x.write.vec.length c3, .int .i64 x.write.session, .int .i64 x.write.seq]).ownsRow w.heap.size 89 10 (.slice (some ⟨w.heap.size, 0, none⟩) xs.length xs.length) xs.length ((rows ++ [([.int .i64 x.kind, .int .i64 x.epoch, .int .i64 x.src, .int .i64 x.dst, .int .i64 x.index, .int .i64 x.write.kind, .int .i64 x.write.id, .slice a3 x.write.vec.length c3, .int .i64 x.write.session, .int .i64 x.write.seq] : List Value)]).flatten ++ Q.drop 10)) := by
    show (setAll w2 w.heap.size (k * 10) [.int .i64 x.kind, .int .i64 x.epoch, .int .i64 x.src, .int .i64 x.dst, .int .i64 x.index, .int .i64 x.write.kind, .int .i64 x.write.id, .slice a3 x.write.vec.length c3, .int .i64 x.write.session, .int .i64 x.write.seq]).ownsRow w.heap.size 89 10 (.slice (some ⟨w.heap.size, 0, none⟩) xs.length xs.length) xs.length ((rows ++ [([.int .i64 x.kind, .int .i64 x.epoch, .int .i64 x.src, .int .i64 x.dst, .int .i64 x.index, .int .i64 x.write.kind, .int .i64 x.write.id, .slice a3 x.write.vec.length c3, .int .i64 x.write.session, .int .i64 x.write.seq] : List Value)]).flatten ++ Q.drop 10)
    rw [List.flatten_append]
    simpa using o3
   have hl2 := (o2.lt w.heap.size rfl).2
   clear o3 o2 E hb2 hl5
   have hQ2 : Hid ((Q.drop 10).length = (xs.length - (k + 1)) * 10) := by
    show (Q.drop 10).length = (xs.length - (k + 1)) * 10
    rw [List.length_drop, hQ, show xs.length - k = xs.length - (k + 1) + 1 by omega, Nat.add_mul]
    omega
   have HW2 : Hid (w.heap.size < w2.heap.size) := hl2
   clear hQ HQ hz2 hz0
   go_wp2_with fail
   go_roundw
   case rel => exact ⟨k + 1, rows ++ [([.int .i64 x.kind, .int .i64 x.epoch, .int .i64 x.src, .int .i64 x.dst, .int .i64 x.index, .int .i64 x.write.kind, .int .i64 x.write.id, .slice a3 x.write.vec.length c3, .int .i64 x.write.session, .int .i64 x.write.seq] : List Value)], Q.drop 10, w2.heap.size, by omega, by go_num, uh HO, uh hQ2, (by rw [uh HT]; exact uh HS), Nat.le_of_eq (uh HZ).symm, uh HW2, uh HB⟩
   case measure => simp [intOf]; omega
  obtain rfl : k = xs.length := by omega
  have e0 : Q = [] := List.eq_nil_of_length_eq_zero (by rw [hQ]; simp)
  subst e0
  rw [List.append_nil] at hown
  rw [List.take_length] at hsub
  have HK : Hid (CopyKit w wr w.heap.size xs) := ⟨rfl, rows, hi, hown, hsub, hhi, hlo⟩
  have HO := yh (Lay.subs_done (A := Lay.tMsg) hown hsub (by omega) hhi hbig)
  have HB := yh hB
  clear hown hsub hB
  go_wp2_with fail
  go_ret
  exact ⟨_, rfl, uh HO, uh HB, uh HK⟩
theorem copiedWorldC (cs : List Value) (x : DWorld) (w : World) (h : Lay.tWorld.Reads w cs x) (hok : WorldOK x) (hf : Fits x) :
  Calls Tryz.prog 215 #[.agg cs.toArray] w fun e w' => ∃ (v3 v4 v5 v6 : Value), e = .returned (.agg #[.int .i64 x.now, .int .i64 x.events, .int .i64 x.chain.epoch, v3, v4, v5, v6]) ∧ Lay.tWorld.OwnIn w' [.int .i64 x.now, .int .i64 x.events, .int .i64 x.chain.epoch, v3, v4, v5, v6] x (w.heap.size + 2) w'.heap.size ∧ Below w.heap.size w w' := by
 have HWF := yh (wf_World h)
 obtain ⟨a3, d3, a4, d4, a5, d5, a6, d6, rfl, RC, RN, RM, RE⟩ := open_World h
 obtain ⟨_, _, hq, RI⟩ := open_Chain RC
 simp only [List.cons.injEq, Value.slice.injEq, and_true, true_and] at hq
 obtain ⟨rfl, rfl⟩ := hq
 have nb1 : Below w.heap.size w (w.alloc (.cells #[.int .i64 x.now, .int .i64 x.events, .int .i64 x.chain.epoch, .slice a3 x.chain.ids.length d3, .slice a4 x.nodes.length d4, .slice a5 x.msgs.length d5, .slice a6 x.history.length d6] 36)) := (Below.refl _ _).alloc (Nat.le_refl _) _
 have HV : Hid (Below w.heap.size w ((w.alloc (.cells #[.int .i64 x.now, .int .i64 x.events, .int .i64 x.chain.epoch, .slice a3 x.chain.ids.length d3, .slice a4 x.nodes.length d4, .slice a5 x.msgs.length d5, .slice a6 x.history.length d6] 36)).alloc (.cells #[.int .i64 0, .int .i64 0, .int .i64 0, .slice none 0 0, .slice none 0 0, .slice none 0 0, .slice none 0 0] 36))) := nb1.alloc (by simp) _
 have HX : Hid (Box 0 #[.int .i64 x.now, .int .i64 x.events, .int .i64 x.chain.epoch, .slice a3 x.chain.ids.length d3, .slice a4 x.nodes.length d4, .slice a5 x.msgs.length d5, .slice a6 x.history.length d6] 36 ((w.alloc (.cells #[.int .i64 x.now, .int .i64 x.events, .int .i64 x.chain.epoch, .slice a3 x.chain.ids.length d3, .slice a4 x.nodes.length d4, .slice a5 x.msgs.length d5, .slice a6 x.history.length d6] 36)).alloc (.cells #[.int .i64 0, .int .i64 0, .int .i64 0, .slice none 0 0, .slice none 0 0, .slice none 0 0, .slice none 0 0] 36)) w.heap.size) := (newBox (Nat.zero_le _)).grow _
 have HY : Hid (Box 0 #[.int .i64 0, .int .i64 0, .int .i64 0, .slice none 0 0, .slice none 0 0, .slice none 0 0, .slice none 0 0] 36 ((w.alloc (.cells #[.int .i64 x.now, .int .i64 x.events, .int .i64 x.chain.epoch, .slice a3 x.chain.ids.length d3, .slice a4 x.nodes.length d4, .slice a5 x.msgs.length d5, .slice a6 x.history.length d6] 36)).alloc (.cells #[.int .i64 0, .int .i64 0, .int .i64 0, .slice none 0 0, .slice none 0 0, .slice none 0 0, .slice none 0 0] 36)) (w.heap.size + 1)) := newBoxAt (Nat.zero_le _) (by simp)
 have hz0 : ((w.alloc (.cells #[.int .i64 x.now, .int .i64 x.events, .int .i64 x.chain.epoch, .slice a3 x.chain.ids.length d3, .slice a4 x.nodes.length d4, .slice a5 x.msgs.length d5, .slice a6 x.history.length d6] 36)).alloc (.cells #[.int .i64 0, .int .i64 0, .int .i64 0, .slice none 0 0, .slice none 0 0, .slice none 0 0, .slice none 0 0] 36)).heap.size = w.heap.size + 2 := by simp
 have HI := yh RI
 have HN := yh RN
 have HM := yh RM
 have HE := yh RE
 have HOK := yh hok
 have HF := yh hf
 clear nb1 h RC RN RM RE RI hok hf
 go_enter Tryz.func215, Tryz.ntmps215
 go_upto_region 1 with fail
 generalize (w.alloc (.cells #[.int .i64 x.now, .int .i64 x.events, .int .i64 x.chain.epoch, .slice a3 x.chain.ids.length d3, .slice a4 x.nodes.length d4, .slice a5 x.msgs.length d5, .slice a6 x.history.length d6] 36)).alloc (.cells #[.int .i64 0, .int .i64 0, .int .i64 0, .slice none 0 0, .slice none 0 0, .slice none 0 0, .slice none 0 0] 36) = W0 at *
 have hx := uh HX
 have y3 := Box.at hx 3 _ rfl
 have yl := hx.lt
 simp only [ga, gb, gc] at y3
 have HC := yh (cloneC _ x.chain.ids W0 ((uh HI).later (uh HV)) (by have := (chainFault_zero (uh HOK).chain).len; omega))
 clear hx
 go_wp2_with fail
 refine (uh HC).mono ?_
 rintro e v1 ⟨p3, n3, q3, rfl, ⟨O, rfl⟩, hb⟩
 have hz1 : W0.heap.size ≤ v1.heap.size := hb.size
 have hx := (uh HX).keep hb
 replace HY := yh (((uh HY).keep hb).other ⟨w.heap.size, 3, none⟩ (.slice p3 x.chain.ids.length q3) (by simp))
 clear y3 yl
 have y3 := Box.at hx 3 _ rfl
 have yf := Box.soft hx
 have yl := hx.lt
 simp only [ga, gb, gc] at y3
 have hv := (uh HV).trans (hb.mono (uh HV).size)
 replace HV := yh (hv.setCell (p := ⟨w.heap.size, 3, none⟩) (Nat.le_refl _) (.slice p3 x.chain.ids.length q3))
 have hx2 := Box.set hx 3 (.slice p3 x.chain.ids.length q3)
 simp only [List.setIfInBounds_toArray, List.set_cons_zero, List.set_cons_succ] at hx2
 replace HX := yh hx2
 have e1 : Ext (fun q => q = w.heap.size) v1 (v1.setCell ⟨w.heap.size, 3, none⟩ (.slice p3 x.chain.ids.length q3)) := (Ext.refl _ _).setCell _ _ rfl
 have P0 := yh (O.ext e1 (fun q h1 h2 h3 => by omega))
 have hz1' : (v1.setCell ⟨w.heap.size, 3, none⟩ (.slice p3 x.chain.ids.length q3)).heap.size = v1.heap.size := by simp
 clear hx hx2 e1 hv O hb HC
 go_upto_region 2 with fail
 generalize hW : v1.setCell ⟨w.heap.size, 3, none⟩ (.slice p3 x.chain.ids.length q3) = W1 at *
 clear hW y3 yf yl
 have hx := uh HX
 have y4 := Box.at hx 4 _ rfl
 have yl := hx.lt
 simp only [ga, gb, gc] at y4
 have HC := yh (copiedNodesC _ x.nodes W1 ((uh HN).later (uh HV)) (by have := (uh HOK).some; omega) (fun y hy => by obtain ⟨j, hj, rfl⟩ := List.getElem_of_mem hy; exact node_bounds ((uh HOK).nodes j hj).1))
 clear hx
 go_wp2_with fail
 refine (uh HC).mono ?_
 rintro e v2 ⟨g4, rfl, O, hb⟩
 have hz2 : W1.heap.size ≤ v2.heap.size := hb.size
 have hx := (uh HX).keep hb
 replace HY := yh (((uh HY).keep hb).other ⟨w.heap.size, 4, none⟩ (.slice (some ⟨g4, 0, none⟩) x.nodes.length x.nodes.length) (by simp))
 clear y4 yl
 have y4 := Box.at hx 4 _ rfl
 have yf := Box.soft hx
 have yl := hx.lt
 simp only [ga, gb, gc] at y4
 have hv := (uh HV).trans (hb.mono (uh HV).size)
 replace HV := yh (hv.setCell (p := ⟨w.heap.size, 4, none⟩) (Nat.le_refl _) (.slice (some ⟨g4, 0, none⟩) x.nodes.length x.nodes.length))
 have hx2 := Box.set hx 4 (.slice (some ⟨g4, 0, none⟩) x.nodes.length x.nodes.length)
 simp only [List.setIfInBounds_toArray, List.set_cons_zero, List.set_cons_succ] at hx2
 replace HX := yh hx2
 have e2 : Ext (fun q => q = w.heap.size) v2 (v2.setCell ⟨w.heap.size, 4, none⟩ (.slice (some ⟨g4, 0, none⟩) x.nodes.length x.nodes.length)) := (Ext.refl _ _).setCell _ _ rfl
 replace P0 := yh (((uh P0).later hb).ext e2 (fun q h1 h2 h3 => by omega))
 have P1 := yh (O.ext e2 (fun q h1 h2 h3 => by omega))
 have hz2' : (v2.setCell ⟨w.heap.size, 4, none⟩ (.slice (some ⟨g4, 0, none⟩) x.nodes.length x.nodes.length)).heap.size = v2.heap.size := by simp
 clear hx hx2 e2 hv O hb HC
 go_upto_region 3 with fail
 generalize hW : v2.setCell ⟨w.heap.size, 4, none⟩ (.slice (some ⟨g4, 0, none⟩) x.nodes.length x.nodes.length) = W2 at *
 clear hW y4 yf yl
 have hx := uh HX
 have y5 := Box.at hx 5 _ rfl
 have yl := hx.lt
 simp only [ga, gb, gc] at y5
 have HC := yh (copiedMsgsC _ x.msgs W2 ((uh HM).later (uh HV)) (by have := (netFault_zero (uh HOK).net).1; omega) (fun y hy => msg_bounds ((netFault_zero (uh HOK).net).2 y hy)))
 clear hx
 go_wp2_with fail
 refine (uh HC).mono ?_
 rintro e v3 ⟨g5, rfl, O, hb, -⟩
 have hz3 : W2.heap.size ≤ v3.heap.size := hb.size
 have hx := (uh HX).keep hb
 replace HY := yh (((uh HY).keep hb).other ⟨w.heap.size, 5, none⟩ (.slice (some ⟨g5, 0, none⟩) x.msgs.length x.msgs.length) (by simp))
 clear y5 yl
 have y5 := Box.at hx 5 _ rfl
 have yf := Box.soft hx
 have yl := hx.lt
 simp only [ga, gb, gc] at y5
 have hv := (uh HV).trans (hb.mono (uh HV).size)
 replace HV := yh (hv.setCell (p := ⟨w.heap.size, 5, none⟩) (Nat.le_refl _) (.slice (some ⟨g5, 0, none⟩) x.msgs.length x.msgs.length))
 have hx2 := Box.set hx 5 (.slice (some ⟨g5, 0, none⟩) x.msgs.length x.msgs.length)
 simp only [List.setIfInBounds_toArray, List.set_cons_zero, List.set_cons_succ] at hx2
 replace HX := yh hx2
 have e3 : Ext (fun q => q = w.heap.size) v3 (v3.setCell ⟨w.heap.size, 5, none⟩ (.slice (some ⟨g5, 0, none⟩) x.msgs.length x.msgs.length)) := (Ext.refl _ _).setCell _ _ rfl
 replace P0 := yh (((uh P0).later hb).ext e3 (fun q h1 h2 h3 => by omega))
 replace P1 := yh (((uh P1).later hb).ext e3 (fun q h1 h2 h3 => by omega))
 have P2 := yh (O.ext e3 (fun q h1 h2 h3 => by omega))
 have hz3' : (v3.setCell ⟨w.heap.size, 5, none⟩ (.slice (some ⟨g5, 0, none⟩) x.msgs.length x.msgs.length)).heap.size = v3.heap.size := by simp
 clear hx hx2 e3 hv O hb HC
 go_upto_region 4 with fail
 generalize hW : v3.setCell ⟨w.heap.size, 5, none⟩ (.slice (some ⟨g5, 0, none⟩) x.msgs.length x.msgs.length) = W3 at *
 clear hW y5 yf yl
 have hx := uh HX
 have y6 := Box.at hx 6 _ rfl
 have yl := hx.lt
 simp only [ga, gb, gc] at y6
 have HC := yh (copiedHistoryC _ x.history W3 ((uh HE).later (uh HV)) (by have := (uh HOK).few; omega) (uh HF))
 clear hx
 go_wp2_with fail
 refine (uh HC).mono ?_
 rintro e v4 ⟨g6, rfl, O, hb⟩
 have hz4 : W3.heap.size ≤ v4.heap.size := hb.size
 have hx := (uh HX).keep hb
 replace HY := yh (((uh HY).keep hb).other ⟨w.heap.size, 6, none⟩ (.slice (some ⟨g6, 0, none⟩) x.history.length x.history.length) (by simp))
 clear y6 yl
 have y6 := Box.at hx 6 _ rfl
 have yf := Box.soft hx
 have yl := hx.lt
 simp only [ga, gb, gc] at y6
 have hv := (uh HV).trans (hb.mono (uh HV).size)
 replace HV := yh (hv.setCell (p := ⟨w.heap.size, 6, none⟩) (Nat.le_refl _) (.slice (some ⟨g6, 0, none⟩) x.history.length x.history.length))
 have hx2 := Box.set hx 6 (.slice (some ⟨g6, 0, none⟩) x.history.length x.history.length)
 simp only [List.setIfInBounds_toArray, List.set_cons_zero, List.set_cons_succ] at hx2
 replace HX := yh hx2
 have e4 : Ext (fun q => q = w.heap.size) v4 (v4.setCell ⟨w.heap.size, 6, none⟩ (.slice (some ⟨g6, 0, none⟩) x.history.length x.history.length)) := (Ext.refl _ _).setCell _ _ rfl
 replace P0 := yh (((uh P0).later hb).ext e4 (fun q h1 h2 h3 => by omega))
 replace P1 := yh (((uh P1).later hb).ext e4 (fun q h1 h2 h3 => by omega))
 replace P2 := yh (((uh P2).later hb).ext e4 (fun q h1 h2 h3 => by omega))
 have P3 := yh (O.ext e4 (fun q h1 h2 h3 => by omega))
 have hz4' : (v4.setCell ⟨w.heap.size, 6, none⟩ (.slice (some ⟨g6, 0, none⟩) x.history.length x.history.length)).heap.size = v4.heap.size := by simp
 clear hx hx2 e4 hv O hb HC
 go_upto_region 5 with fail
 generalize hW : v4.setCell ⟨w.heap.size, 6, none⟩ (.slice (some ⟨g6, 0, none⟩) x.history.length x.history.length) = W4 at *
 clear hW y6 yf yl
 have hx := uh HX
 have hy := uh HY
 have y0 := Box.at hx 0 _ rfl
 have y1 := Box.at hx 1 _ rfl
 have y2 := Box.at hx 2 _ rfl
 have y3 := Box.at hx 3 _ rfl
 have y4 := Box.at hx 4 _ rfl
 have y5 := Box.at hx 5 _ rfl
 have y6 := Box.at hx 6 _ rfl
 have u0 := Box.at hy 0 _ rfl
 have u1 := Box.at hy 1 _ rfl
 have u2 := Box.at hy 2 _ rfl
 have u3 := Box.at hy 3 _ rfl
 have u4 := Box.at hy 4 _ rfl
 have u5 := Box.at hy 5 _ rfl
 have u6 := Box.at hy 6 _ rfl
 simp only [ga, gb, gc] at y0 u0 y1 u1 y2 u2 y3 u3 y4 u4 y5 u5 y6 u6
 have yl := hx.lt
 have uf := Box.soft hy
 have ul := hy.lt
 have O := own_worldC (uh P0) (uh P1) (uh P2) (uh P3) (by omega) (by omega) (by omega) (by omega) (by omega) (by omega) (by omega) (uh HWF)
 have e9 : Ext (fun q => q = w.heap.size + 1) W4 (setAll W4 (w.heap.size + 1) 0 [.int .i64 x.now, .int .i64 x.events, .int .i64 x.chain.epoch, .slice p3 x.chain.ids.length q3, .slice (some ⟨g4, 0, none⟩) x.nodes.length x.nodes.length, .slice (some ⟨g5, 0, none⟩) x.msgs.length x.msgs.length, .slice (some ⟨g6, 0, none⟩) x.history.length x.history.length]) := ext_setAll _ (Ext.refl _ _) _ _ _ rfl
 have HO : Hid (Lay.tWorld.OwnIn (setAll W4 (w.heap.size + 1) 0 [.int .i64 x.now, .int .i64 x.events, .int .i64 x.chain.epoch, .slice p3 x.chain.ids.length q3, .slice (some ⟨g4, 0, none⟩) x.nodes.length x.nodes.length, .slice (some ⟨g5, 0, none⟩) x.msgs.length x.msgs.length, .slice (some ⟨g6, 0, none⟩) x.history.length x.history.length]) [.int .i64 x.now, .int .i64 x.events, .int .i64 x.chain.epoch, .slice p3 x.chain.ids.length q3, .slice (some ⟨g4, 0, none⟩) x.nodes.length x.nodes.length, .slice (some ⟨g5, 0, none⟩) x.msgs.length x.msgs.length, .slice (some ⟨g6, 0, none⟩) x.history.length x.history.length] x (w.heap.size + 2) W4.heap.size) := (O.ext e9 (fun q h1 h2 h3 => by omega)).mono (by omega) (by omega)
 have HB := yh (below_setAll (uh HV) (w.heap.size + 1) 0 [.int .i64 x.now, .int .i64 x.events, .int .i64 x.chain.epoch, .slice p3 x.chain.ids.length q3, .slice (some ⟨g4, 0, none⟩) x.nodes.length x.nodes.length, .slice (some ⟨g5, 0, none⟩) x.msgs.length x.msgs.length, .slice (some ⟨g6, 0, none⟩) x.history.length x.history.length] (by omega))
 have hzz : Hid ((setAll W4 (w.heap.size + 1) 0 [.int .i64 x.now, .int .i64 x.events, .int .i64 x.chain.epoch, .slice p3 x.chain.ids.length q3, .slice (some ⟨g4, 0, none⟩) x.nodes.length x.nodes.length, .slice (some ⟨g5, 0, none⟩) x.msgs.length x.msgs.length, .slice (some ⟨g6, 0, none⟩) x.history.length x.history.length]).heap.size = W4.heap.size) := size_setAll _ _ _ _
 clear hx hy O e9 P0 P1 P2 P3 HX HY HV HOK HF HI HN HM HE
 go_wp2_with fail
 refine bodyPost_ret (v := .agg #[.int .i64 x.now, .int .i64 x.events, .int .i64 x.chain.epoch, .slice p3 x.chain.ids.length q3, .slice (some ⟨g4, 0, none⟩) x.nodes.length x.nodes.length, .slice (some ⟨g5, 0, none⟩) x.msgs.length x.msgs.length, .slice (some ⟨g6, 0, none⟩) x.history.length x.history.length]) (by simp [results, Tryz.results215, go_sem, u0, u1, u2, u3, u4, u5, u6]) rfl ?_
 exact ⟨_, _, _, _, rfl, (uh HO).mono (by omega) (Nat.le_of_eq (uh hzz).symm), uh HB⟩
theorem doneInC (N : Nat) (cap : Array Value) (cs : List Value) (x : DWorld) (c : Int) (mv : Bool) (z : DWorld) (w : World) (hfa : ∀ (a : Array Value) (W : World), (callFunc N (a ++ cap)).run Tryz.prog W = .ok (.enter N (a ++ cap)) W) (h : Lay.tWorld.Reads w cs x) (hok : WorldOK x) (hf : Fits x) (hc : -1000000000 ≤ c ∧ c ≤ 1000000000)
  (hstep : ∀ W, Below w.heap.size w W → StepC w.heap.size N cap (nextW x) c mv z W) :
  Calls Tryz.prog 137 #[.agg cs.toArray, .func (.func N) #[] cap] w fun e w' => ∃ cs', e = .returned (.agg cs'.toArray) ∧ Lay.tWorldResult.OwnIn w' cs' (resW c mv z) w.heap.size w'.heap.size ∧ Below w.heap.size w w' := by
 obtain ⟨a3, d3, a4, d4, a5, d5, a6, d6, rfl, -, -, -, -⟩ := open_World h
 have nb1 : Below w.heap.size w (w.alloc (.cells #[.int .i64 x.now, .int .i64 x.events, .int .i64 x.chain.epoch, .slice a3 x.chain.ids.length d3, .slice a4 x.nodes.length d4, .slice a5 x.msgs.length d5, .slice a6 x.history.length d6] 36)) := (Below.refl _ _).alloc (Nat.le_refl _) _
 have HB : Hid (Below w.heap.size w ((w.alloc (.cells #[.int .i64 x.now, .int .i64 x.events, .int .i64 x.chain.epoch, .slice a3 x.chain.ids.length d3, .slice a4 x.nodes.length d4, .slice a5 x.msgs.length d5, .slice a6 x.history.length d6] 36)).alloc (.cells #[.int .i64 0, .bool false, .int .i64 0, .int .i64 0, .int .i64 0, .slice none 0 0, .slice none 0 0, .slice none 0 0, .slice none 0 0] 38))) := nb1.alloc (by simp) _
 have HX : Hid (Box 0 #[.int .i64 x.now, .int .i64 x.events, .int .i64 x.chain.epoch, .slice a3 x.chain.ids.length d3, .slice a4 x.nodes.length d4, .slice a5 x.msgs.length d5, .slice a6 x.history.length d6] 36 ((w.alloc (.cells #[.int .i64 x.now, .int .i64 x.events, .int .i64 x.chain.epoch, .slice a3 x.chain.ids.length d3, .slice a4 x.nodes.length d4, .slice a5 x.msgs.length d5, .slice a6 x.history.length d6] 36)).alloc (.cells #[.int .i64 0, .bool false, .int .i64 0, .int .i64 0, .int .i64 0, .slice none 0 0, .slice none 0 0, .slice none 0 0, .slice none 0 0] 38)) w.heap.size) := (newBox (Nat.zero_le _)).grow _
 have HY : Hid (Box 0 #[.int .i64 0, .bool false, .int .i64 0, .int .i64 0, .int .i64 0, .slice none 0 0, .slice none 0 0, .slice none 0 0, .slice none 0 0] 38 ((w.alloc (.cells #[.int .i64 x.now, .int .i64 x.events, .int .i64 x.chain.epoch, .slice a3 x.chain.ids.length d3, .slice a4 x.nodes.length d4, .slice a5 x.msgs.length d5, .slice a6 x.history.length d6] 36)).alloc (.cells #[.int .i64 0, .bool false, .int .i64 0, .int .i64 0, .int .i64 0, .slice none 0 0, .slice none 0 0, .slice none 0 0, .slice none 0 0] 38)) (w.heap.size + 1)) := newBoxAt (Nat.zero_le _) (by simp)
 have hz0 : ((w.alloc (.cells #[.int .i64 x.now, .int .i64 x.events, .int .i64 x.chain.epoch, .slice a3 x.chain.ids.length d3, .slice a4 x.nodes.length d4, .slice a5 x.msgs.length d5, .slice a6 x.history.length d6] 36)).alloc (.cells #[.int .i64 0, .bool false, .int .i64 0, .int .i64 0, .int .i64 0, .slice none 0 0, .slice none 0 0, .slice none 0 0, .slice none 0 0] 38)).heap.size = w.heap.size + 2 := by simp
 have HR := yh (h.later (uh HB))
 have HOK := yh hok
 have HF := yh hf
 have HST := yh hstep
 have HCB := yh hc
 clear nb1 h hok hf hstep hc
 go_enter Tryz.func137, Tryz.ntmps137
 go_upto_region 1 with fail
 generalize (w.alloc (.cells #[.int .i64 x.now, .int .i64 x.events, .int .i64 x.chain.epoch, .slice a3 x.chain.ids.length d3, .slice a4 x.nodes.length d4, .slice a5 x.msgs.length d5, .slice a6 x.history.length d6] 36)).alloc (.cells #[.int .i64 0, .bool false, .int .i64 0, .int .i64 0, .int .i64 0, .slice none 0 0, .slice none 0 0, .slice none 0 0, .slice none 0 0] 38) = W0 at *
 have z0 := Box.at (uh HX) 0 _ rfl
 have z1 := Box.at (uh HX) 1 _ rfl
 have z2 := Box.at (uh HX) 2 _ rfl
 have z3 := Box.at (uh HX) 3 _ rfl
 have z4 := Box.at (uh HX) 4 _ rfl
 have z5 := Box.at (uh HX) 5 _ rfl
 have z6 := Box.at (uh HX) 6 _ rfl
 simp only [ga, gb, gc] at z0 z1 z2 z3 z4 z5 z6
 go_wp2_with fail
 refine (copiedWorldC _ x W0 (uh HR) (uh HOK) (uh HF)).mono ?_
 rintro e W1 ⟨v3, v4, v5, v6, rfl, O, hb⟩
 obtain ⟨a3w, d3w, a4w, d4w, a5w, d5w, a6w, d6w, hq, -⟩ := open_World O.reads
 simp only [List.cons.injEq, and_true, true_and] at hq
 obtain ⟨rfl, rfl, rfl, rfl⟩ := hq
 have hz1 : W0.heap.size ≤ W1.heap.size := hb.size
 replace HY := yh ((uh HY).keep hb)
 replace HB := yh ((uh HB).trans (hb.mono (uh HB).size))
 have hO := wown_new (g := W1.heap.size) (O.mono (Nat.le_add_right _ 2) (Nat.le_refl _)) (Nat.le_refl _) (Nat.le_refl _)
 clear hb O HX HR HF z0 z1 z2 z3 z4 z5 z6
 have nb : Below W1.heap.size W1 (W1.alloc (.cells #[.int .i64 x.now, .int .i64 x.events, .int .i64 x.chain.epoch, .slice a3w x.chain.ids.length d3w, .slice a4w x.nodes.length d4w, .slice a5w x.msgs.length d5w, .slice a6w x.history.length d6w] 36)) := (Below.refl _ _).alloc (Nat.le_refl _) _
 have HG : Hid (Box 0 #[.int .i64 x.now, .int .i64 x.events, .int .i64 x.chain.epoch, .slice a3w x.chain.ids.length d3w, .slice a4w x.nodes.length d4w, .slice a5w x.msgs.length d5w, .slice a6w x.history.length d6w] 36 (W1.alloc (.cells #[.int .i64 x.now, .int .i64 x.events, .int .i64 x.chain.epoch, .slice a3w x.chain.ids.length d3w, .slice a4w x.nodes.length d4w, .slice a5w x.msgs.length d5w, .slice a6w x.history.length d6w] 36)) W1.heap.size) := newBox (Nat.zero_le _)
 have HO := yh (hO.later nb)
 replace HY := yh ((uh HY).keep nb)
 replace HB := yh ((uh HB).trans (nb.mono (uh HB).size))
 have hz2 : (W1.alloc (.cells #[.int .i64 x.now, .int .i64 x.events, .int .i64 x.chain.epoch, .slice a3w x.chain.ids.length d3w, .slice a4w x.nodes.length d4w, .slice a5w x.msgs.length d5w, .slice a6w x.history.length d6w] 36)).heap.size = W1.heap.size + 1 := by simp
 clear nb hO
 go_upto_region 2 with fail
 generalize W1.alloc (.cells #[.int .i64 x.now, .int .i64 x.events, .int .i64 x.chain.epoch, .slice a3w x.chain.ids.length d3w, .slice a4w x.nodes.length d4w, .slice a5w x.msgs.length d5w, .slice a6w x.history.length d6w] 36) = W2 at *
 have hg := uh HG
 have y1 := Box.at hg 1 _ rfl
 have yf := Box.soft hg
 have yl := hg.lt
 simp only [ga, gb, gc] at y1
 have hxe := (uh HOK).events
 have hg2 := Box.set hg 1 (.int .i64 (x.events + 1))
 simp only [List.setIfInBounds_toArray, List.set_cons_zero, List.set_cons_succ] at hg2
 have e1 : Ext (fun q => q = W1.heap.size) W2 (W2.setCell ⟨W1.heap.size, 1, none⟩ (.int .i64 (x.events + 1))) := (Ext.refl _ _).setCell _ _ rfl
 have hO2 := own_nextW ((uh HO).ext e1 (fun k h1 h2 h3 => h3)) (by omega)
 replace HG := yh hg2
 replace HO := yh hO2
 replace HY := yh ((uh HY).other ⟨W1.heap.size, 1, none⟩ (.int .i64 (x.events + 1)) (by simp; omega))
 replace HB := yh ((uh HB).setCell (p := ⟨W1.heap.size, 1, none⟩) (by simp; omega) (.int .i64 (x.events + 1)))
 have hz3 : (W2.setCell ⟨W1.heap.size, 1, none⟩ (.int .i64 (x.events + 1))).heap.size = W2.heap.size := by simp
 clear hg hg2 e1 hO2
 go_upto_region 3 with fail
 generalize hW : W2.setCell ⟨W1.heap.size, 1, none⟩ (.int .i64 (x.events + 1)) = W3 at *
 clear hW y1 yf yl hxe
 have HC := yh (uh HST W3 (uh HB) W1.heap.size (w.heap.size + 2) _ _ _ _ (by omega) (uh HG) (by omega) (by have := uh HO; rw [hz0] at this; exact this))
 clear HST HO HG
 go_wp2_with fail
 refine (uh HC).mono ?_
 rintro e W4 ⟨m, rfl, hm, he⟩
 replace HY := yh ((uh HY).ext he (by omega))
 replace HB := yh ((uh HB).trans ((below_of_ext he (by omega)).mono (by omega)))
 have hz4 := he.size
 clear HC he
 by_cases d1 : c = 0
 ·
  obtain ⟨rfl, u3, u4, u5, u6, hg, hO⟩ := hm d1
  obtain ⟨a3u, d3u, a4u, d4u, a5u, d5u, a6u, d6u, hq, -⟩ := open_World hO.reads
  simp only [List.cons.injEq, and_true, true_and] at hq
  obtain ⟨rfl, rfl, rfl, rfl⟩ := hq
  subst d1
  have HRS : Hid (resW 0 m z = ⟨0, m, z⟩) := if_pos rfl
  have y0 := Box.at hg 0 _ rfl
  have y1 := Box.at hg 1 _ rfl
  have y2 := Box.at hg 2 _ rfl
  have y3 := Box.at hg 3 _ rfl
  have y4 := Box.at hg 4 _ rfl
  have y5 := Box.at hg 5 _ rfl
  have y6 := Box.at hg 6 _ rfl
  have hy := uh HY
  have r0 := Box.at hy 0 _ rfl
  have r1 := Box.at hy 1 _ rfl
  have r2 := Box.at hy 2 _ rfl
  have r3 := Box.at hy 3 _ rfl
  have r4 := Box.at hy 4 _ rfl
  have r5 := Box.at hy 5 _ rfl
  have r6 := Box.at hy 6 _ rfl
  have r7 := Box.at hy 7 _ rfl
  have r8 := Box.at hy 8 _ rfl
  simp only [ga, gb, gc] at y0 y1 y2 y3 y4 y5 y6 r0 r1 r2 r3 r4 r5 r6 r7 r8
  have yl := hg.lt
  have rf := Box.soft hy
  have rl := hy.lt
  have e9 : Ext (fun q => q = w.heap.size + 1) W4 (setAll W4 (w.heap.size + 1) 0 [.int .i64 0, .bool m, .int .i64 z.now, .int .i64 z.events, .int .i64 z.chain.epoch, .slice a3u z.chain.ids.length d3u, .slice a4u z.nodes.length d4u, .slice a5u z.msgs.length d5u, .slice a6u z.history.length d6u]) := ext_setAll _ (Ext.refl _ _) _ _ _ rfl
  have HO := yh (own_okW (m := m) ((hO.ext e9 (fun k h1 h2 h3 => by omega)).ownIn))
  have HB2 := yh (below_setAll (uh HB) (w.heap.size + 1) 0 [.int .i64 0, .bool m, .int .i64 z.now, .int .i64 z.events, .int .i64 z.chain.epoch, .slice a3u z.chain.ids.length d3u, .slice a4u z.nodes.length d4u, .slice a5u z.msgs.length d5u, .slice a6u z.history.length d6u] (by omega))
  clear hg hy hO e9 HY HB hm
  go_wp2_with fail
  refine bodyPost_ret (v := .agg #[.int .i64 0, .bool m, .int .i64 z.now, .int .i64 z.events, .int .i64 z.chain.epoch, .slice a3u z.chain.ids.length d3u, .slice a4u z.nodes.length d4u, .slice a5u z.msgs.length d5u, .slice a6u z.history.length d6u]) (by simp [results, Tryz.results137, go_sem, r0, r1, r2, r3, r4, r5, r6, r7, r8]) rfl ?_
  rw [uh HRS]
  exact ⟨_, rfl, (uh HO).mono (by omega) (Nat.le_refl _), uh HB2⟩
 have hd : (c != 0) = true := by simpa using d1
 have HRS : Hid (resW c mv z = badWorld c) := if_neg d1
 clear hm d1
 have hy := uh HY
 have r0 := Box.at hy 0 _ rfl
 have r1 := Box.at hy 1 _ rfl
 have r2 := Box.at hy 2 _ rfl
 have r3 := Box.at hy 3 _ rfl
 have r4 := Box.at hy 4 _ rfl
 have r5 := Box.at hy 5 _ rfl
 have r6 := Box.at hy 6 _ rfl
 have r7 := Box.at hy 7 _ rfl
 have r8 := Box.at hy 8 _ rfl
 simp only [ga, gb, gc] at r0 r1 r2 r3 r4 r5 r6 r7 r8
 have rf := Box.soft hy
 have rl := hy.lt
 have HB2 := yh (below_setAll (uh HB) (w.heap.size + 1) 0 [.int .i64 c, .bool false, .int .i64 0, .int .i64 0, .int .i64 0, .slice none 0 0, .slice none 0 0, .slice none 0 0, .slice none 0 0] (by omega))
 clear hy HY HB
 go_wp2_with fail
 refine bodyPost_ret (v := .agg #[.int .i64 c, .bool false, .int .i64 0, .int .i64 0, .int .i64 0, .slice none 0 0, .slice none 0 0, .slice none 0 0, .slice none 0 0]) (by simp [results, Tryz.results137, go_sem, r0, r1, r2, r3, r4, r5, r6, r7, r8]) rfl ?_
 rw [uh HRS]
 exact ⟨_, rfl, own_badW (uh HCB) (uh HB2).size, uh HB2⟩
end Go.Proofs.YtoanimpijfijgaaGreat
