/-
  Texts of this proof in one: ImplCopiedM, ImplSent, MsgConcat, ImplLost, ImplDropF, NetFew, LawDropM.
  Their conditions stand in their theorems.
-/
import Derived.Test.YtkmfkaljdngigaaChecked
import Derived.Test.YtkmfkaljdngigaaDm01
import Derived.Test.YtkmfkaljdngigaaDm02
import Derived.Test.YtkmfkaljdngigaaDm03
import Derived.Test.YtkmfkaljdngigaaDm07
import Derived.WalkKit
import Derived.Deep.CutRange
import Derived.Test.YtkmfkaljdngigaaDm06
import Derived.Lib.AppendZerosOnto
import Derived.BigQuiet
import Derived.Deep.QuietTactic
import Derived.WalkSmall
import Derived.Deep.RegionHeld3

namespace Go.Proofs.Ytkmfkaljdngigaa
open Go.RowKit

theorem infoMsgC : (Try.prog.info? 31).map (fun i => (i.zero, i.size, decide (i.bytes ≤ 1000))) = some (some (.agg #[.int .i64 0, .int .i64 0, .int .i64 0, .int .i64 0, .int .i64 0, .int .i64 0, .int .i64 0, .slice none 0 0, .int .i64 0, .int .i64 0]), 10, true) := by kernel_rfl
theorem wf_Msg {w : World} {cs : List Value} {x : DMsg} (h : Lay.tMsg.Reads w cs x) : (Lit.int .i64 x.kind).wf = true ∧ (Lit.int .i64 x.epoch).wf = true ∧ (Lit.int .i64 x.src).wf = true ∧ (Lit.int .i64 x.dst).wf = true ∧ (Lit.int .i64 x.index).wf = true ∧ (Lit.int .i64 x.write.kind).wf = true ∧ (Lit.int .i64 x.write.id).wf = true ∧ (Lit.int .i64 x.write.session).wf = true ∧ (Lit.int .i64 x.write.seq).wf = true := by
  obtain ⟨bl, h⟩ := h
  obtain ⟨a7, d7, b7, -, -, w0, w1, w2, w3, w4, w5, w6, -, w8, w9⟩ := lies_Msg.1 h
  exact ⟨w0, w1, w2, w3, w4, w5, w6, w8, w9⟩
theorem own_msgC {w : World} {x : DMsg} {v : Value} {lo hi : Nat} (h : (Lay.sl Lay.int).OwnIn w [v] x.write.vec lo hi) (hw : (Lit.int .i64 x.kind).wf = true ∧ (Lit.int .i64 x.epoch).wf = true ∧ (Lit.int .i64 x.src).wf = true ∧ (Lit.int .i64 x.dst).wf = true ∧ (Lit.int .i64 x.index).wf = true ∧ (Lit.int .i64 x.write.kind).wf = true ∧ (Lit.int .i64 x.write.id).wf = true ∧ (Lit.int .i64 x.write.session).wf = true ∧ (Lit.int .i64 x.write.seq).wf = true) : Lay.tMsg.OwnIn w [.int .i64 x.kind, .int .i64 x.epoch, .int .i64 x.src, .int .i64 x.dst, .int .i64 x.index, .int .i64 x.write.kind, .int .i64 x.write.id, v, .int .i64 x.write.session, .int .i64 x.write.seq] x lo hi := by
  obtain ⟨bl, O, i⟩ := h
  obtain ⟨w0, w1, w2, w3, w4, w5, w6, w8, w9⟩ := hw
  exact ⟨bl, mkOwn_Msg (mkOwn_Write O w5 w6 w8 w9 O.2.1) w0 w1 w2 w3 w4 O.2.1, i⟩
theorem vecM {w : World} {x : DMsg} {a : Option Addr} {d : Nat} (h : Lay.tMsg.Reads w [.int .i64 x.kind, .int .i64 x.epoch, .int .i64 x.src, .int .i64 x.dst, .int .i64 x.index, .int .i64 x.write.kind, .int .i64 x.write.id, .slice a x.write.vec.length d, .int .i64 x.write.session, .int .i64 x.write.seq] x) : (Lay.sl Lay.int).Reads w [.slice a x.write.vec.length d] x.write.vec := by
  obtain ⟨bl, h⟩ := h
  obtain ⟨a7, d7, b7, e, -, -, -, -, -, -, -, -, l, -⟩ := lies_Msg.1 h
  simp only [List.cons.injEq, Value.slice.injEq, and_true, true_and] at e
  obtain ⟨rfl, rfl⟩ := e
  exact ⟨b7, l⟩
set_option maxRecDepth 10000 in
set_option maxHeartbeats 2000000 in
theorem copiedMsgC (cs : List Value) (x : DMsg) (w : World) (h : Lay.tMsg.Reads w cs x) (hn : x.write.vec.length ≤ 10000000) :
    Calls Try.prog 74 #[.agg cs.toArray] w fun e w' => ∃ a3 c3, e = .returned (.agg #[.int .i64 x.kind, .int .i64 x.epoch, .int .i64 x.src, .int .i64 x.dst, .int .i64 x.index, .int .i64 x.write.kind, .int .i64 x.write.id, .slice a3 x.write.vec.length c3, .int .i64 x.write.session, .int .i64 x.write.seq]) ∧ Lay.tMsg.OwnIn w' [.int .i64 x.kind, .int .i64 x.epoch, .int .i64 x.src, .int .i64 x.dst, .int .i64 x.index, .int .i64 x.write.kind, .int .i64 x.write.id, .slice a3 x.write.vec.length c3, .int .i64 x.write.session, .int .i64 x.write.seq] x (w.heap.size + 2) w'.heap.size ∧ Below w.heap.size w w' := by
  have HV := hide (wf_Msg h)
  obtain ⟨a, d, rfl, -⟩ := open_Msg h
  have HR0 := hide (vecM h)
  clear h
  have nb1 : Below w.heap.size w (w.alloc (.cells #[.int .i64 x.kind, .int .i64 x.epoch, .int .i64 x.src, .int .i64 x.dst, .int .i64 x.index, .int .i64 x.write.kind, .int .i64 x.write.id, .slice a x.write.vec.length d, .int .i64 x.write.session, .int .i64 x.write.seq] 31)) := (Below.refl _ _).alloc (Nat.le_refl _) _
  have x1 : Box 0 #[.int .i64 x.kind, .int .i64 x.epoch, .int .i64 x.src, .int .i64 x.dst, .int .i64 x.index, .int .i64 x.write.kind, .int .i64 x.write.id, .slice a x.write.vec.length d, .int .i64 x.write.session, .int .i64 x.write.seq] 31 (w.alloc (.cells #[.int .i64 x.kind, .int .i64 x.epoch, .int .i64 x.src, .int .i64 x.dst, .int .i64 x.index, .int .i64 x.write.kind, .int .i64 x.write.id, .slice a x.write.vec.length d, .int .i64 x.write.session, .int .i64 x.write.seq] 31)) w.heap.size := newBox (Nat.zero_le _)
  have s1 : (w.alloc (.cells #[.int .i64 x.kind, .int .i64 x.epoch, .int .i64 x.src, .int .i64 x.dst, .int .i64 x.index, .int .i64 x.write.kind, .int .i64 x.write.id, .slice a x.write.vec.length d, .int .i64 x.write.session, .int .i64 x.write.seq] 31)).heap.size = w.heap.size + 1 := by simp
  have r1 := (unhide HR0).later nb1
  generalize hA1 : w.alloc (.cells #[.int .i64 x.kind, .int .i64 x.epoch, .int .i64 x.src, .int .i64 x.dst, .int .i64 x.index, .int .i64 x.write.kind, .int .i64 x.write.id, .slice a x.write.vec.length d, .int .i64 x.write.session, .int .i64 x.write.seq] 31) = A1 at *
  have nb2 : Below A1.heap.size A1 (A1.alloc (.cells #[.int .i64 0, .int .i64 0, .int .i64 0, .int .i64 0, .int .i64 0, .int .i64 0, .int .i64 0, .slice none 0 0, .int .i64 0, .int .i64 0] 31)) := (Below.refl _ _).alloc (Nat.le_refl _) _
  have x2 : Box 0 #[.int .i64 0, .int .i64 0, .int .i64 0, .int .i64 0, .int .i64 0, .int .i64 0, .int .i64 0, .slice none 0 0, .int .i64 0, .int .i64 0] 31 (A1.alloc (.cells #[.int .i64 0, .int .i64 0, .int .i64 0, .int .i64 0, .int .i64 0, .int .i64 0, .int .i64 0, .slice none 0 0, .int .i64 0, .int .i64 0] 31)) A1.heap.size := newBox (Nat.zero_le _)
  have s2 : (A1.alloc (.cells #[.int .i64 0, .int .i64 0, .int .i64 0, .int .i64 0, .int .i64 0, .int .i64 0, .int .i64 0, .slice none 0 0, .int .i64 0, .int .i64 0] 31)).heap.size = A1.heap.size + 1 := by simp
  replace x1 := x1.keep nb2
  have r2 := r1.later nb2
  have B2 : Below w.heap.size w (A1.alloc (.cells #[.int .i64 0, .int .i64 0, .int .i64 0, .int .i64 0, .int .i64 0, .int .i64 0, .int .i64 0, .slice none 0 0, .int .i64 0, .int .i64 0] 31)) := nb1.trans (nb2.mono (by omega))
  rw [s1] at x2 s2
  have HB := hide B2
  have HX1 := hide x1
  have HX2 := hide x2
  have HR := hide r2
  have HS := hide s2
  subst hA1
  clear nb1 nb2 x1 x2 r1 r2 B2 s1 s2 HR0
  go_enter Try.func74, Try.ntmps74
  go_upto_region 1 with fail
  generalize (w.alloc (.cells #[.int .i64 x.kind, .int .i64 x.epoch, .int .i64 x.src, .int .i64 x.dst, .int .i64 x.index, .int .i64 x.write.kind, .int .i64 x.write.id, .slice a x.write.vec.length d, .int .i64 x.write.session, .int .i64 x.write.seq] 31)).alloc (.cells #[.int .i64 0, .int .i64 0, .int .i64 0, .int .i64 0, .int .i64 0, .int .i64 0, .int .i64 0, .slice none 0 0, .int .i64 0, .int .i64 0] 31) = W1 at *
  have HL := hide (cloneC _ x.write.vec W1 (unhide HR) hn)
  have y7 : W1.cell? ⟨w.heap.size, 7, none⟩ = some (.slice a x.write.vec.length d) := (unhide HX1).at 7 _ rfl
  go_wp2_with fail
  refine (unhide HL).mono ?_
  rintro e W2 ⟨a3, n3, c3, rfl, ⟨O, hn3⟩, hb⟩
  subst hn3
  have hx1 := (unhide HX1).keep hb
  have hx2 := (unhide HX2).keep hb
  have hB2 := (unhide HB).trans (hb.mono (unhide HB).size)
  have hs2 := unhide HS
  have hz2 := hb.size
  clear HX1 HX2 HB HR HS HL y7 hb
  have y0 : W2.cell? ⟨w.heap.size, 0, none⟩ = some (.int .i64 x.kind) := (hx1).at 0 _ rfl
  have y1 : W2.cell? ⟨w.heap.size, 1, none⟩ = some (.int .i64 x.epoch) := (hx1).at 1 _ rfl
  have y2 : W2.cell? ⟨w.heap.size, 2, none⟩ = some (.int .i64 x.src) := (hx1).at 2 _ rfl
  have y3 : W2.cell? ⟨w.heap.size, 3, none⟩ = some (.int .i64 x.dst) := (hx1).at 3 _ rfl
  have y4 : W2.cell? ⟨w.heap.size, 4, none⟩ = some (.int .i64 x.index) := (hx1).at 4 _ rfl
  have y5 : W2.cell? ⟨w.heap.size, 5, none⟩ = some (.int .i64 x.write.kind) := (hx1).at 5 _ rfl
  have y6 : W2.cell? ⟨w.heap.size, 6, none⟩ = some (.int .i64 x.write.id) := (hx1).at 6 _ rfl
  have y7 : W2.cell? ⟨w.heap.size, 7, none⟩ = some (.slice a x.write.vec.length d) := (hx1).at 7 _ rfl
  have y8 : W2.cell? ⟨w.heap.size, 8, none⟩ = some (.int .i64 x.write.session) := (hx1).at 8 _ rfl
  have y9 : W2.cell? ⟨w.heap.size, 9, none⟩ = some (.int .i64 x.write.seq) := (hx1).at 9 _ rfl
  have yf := hx1.soft
  have yl := hx1.lt
  have v0 : W2.cell? ⟨w.heap.size + 1, 0, none⟩ = some (.int .i64 0) := (hx2).at 0 _ rfl
  have v1 : W2.cell? ⟨w.heap.size + 1, 1, none⟩ = some (.int .i64 0) := (hx2).at 1 _ rfl
  have v2 : W2.cell? ⟨w.heap.size + 1, 2, none⟩ = some (.int .i64 0) := (hx2).at 2 _ rfl
  have v3 : W2.cell? ⟨w.heap.size + 1, 3, none⟩ = some (.int .i64 0) := (hx2).at 3 _ rfl
  have v4 : W2.cell? ⟨w.heap.size + 1, 4, none⟩ = some (.int .i64 0) := (hx2).at 4 _ rfl
  have v5 : W2.cell? ⟨w.heap.size + 1, 5, none⟩ = some (.int .i64 0) := (hx2).at 5 _ rfl
  have v6 : W2.cell? ⟨w.heap.size + 1, 6, none⟩ = some (.int .i64 0) := (hx2).at 6 _ rfl
  have v7 : W2.cell? ⟨w.heap.size + 1, 7, none⟩ = some (.slice none 0 0) := (hx2).at 7 _ rfl
  have v8 : W2.cell? ⟨w.heap.size + 1, 8, none⟩ = some (.int .i64 0) := (hx2).at 8 _ rfl
  have v9 : W2.cell? ⟨w.heap.size + 1, 9, none⟩ = some (.int .i64 0) := (hx2).at 9 _ rfl
  have vf := hx2.soft
  have vl := hx2.lt
  have E1 : Ext (fun q => q = w.heap.size) W2 (W2.setCell ⟨w.heap.size, 7, none⟩ (.slice a3 x.write.vec.length c3)) := (Ext.refl (fun q => q = w.heap.size) _).setCell ⟨w.heap.size, 7, none⟩ _ rfl
  have B3 : Below w.heap.size w (W2.setCell ⟨w.heap.size, 7, none⟩ (.slice a3 x.write.vec.length c3)) := hB2.setCell (by simp) _
  have O3 := O.ext E1 (fun q h1 h2 h3 => by omega)
  have O4 := own_store' (s := w.heap.size + 1) (vs := [.int .i64 x.kind, .int .i64 x.epoch, .int .i64 x.src, .int .i64 x.dst, .int .i64 x.index, .int .i64 x.write.kind, .int .i64 x.write.id, .slice a3 x.write.vec.length c3, .int .i64 x.write.session, .int .i64 x.write.seq]) O3 (by omega)
  have HO := hide (own_msgC O4 (unhide HV))
  have HB4 := hide (below_setAll B3 (w.heap.size + 1) 0 [.int .i64 x.kind, .int .i64 x.epoch, .int .i64 x.src, .int .i64 x.dst, .int .i64 x.index, .int .i64 x.write.kind, .int .i64 x.write.id, .slice a3 x.write.vec.length c3, .int .i64 x.write.session, .int .i64 x.write.seq] (by omega))
  have HZ : Hid ((setAll (W2.setCell ⟨w.heap.size, 7, none⟩ (.slice a3 x.write.vec.length c3)) (w.heap.size + 1) 0 [.int .i64 x.kind, .int .i64 x.epoch, .int .i64 x.src, .int .i64 x.dst, .int .i64 x.index, .int .i64 x.write.kind, .int .i64 x.write.id, .slice a3 x.write.vec.length c3, .int .i64 x.write.session, .int .i64 x.write.seq]).heap.size = W2.heap.size) := by
    refine (size_setAll _ _ _ _).trans ?_
    simp
  have hq : W1.heap.size = w.heap.size + 2 := by omega
  have HQ := hide hq
  clear O O3 O4 E1 B3 hB2 HV hq hx1 hx2 hs2
  go_wp2_with fail
  refine bodyPost_ret (v := .agg #[.int .i64 x.kind, .int .i64 x.epoch, .int .i64 x.src, .int .i64 x.dst, .int .i64 x.index, .int .i64 x.write.kind, .int .i64 x.write.id, .slice a3 x.write.vec.length c3, .int .i64 x.write.session, .int .i64 x.write.seq]) (by simp [results, Try.results74, go_sem, v0, v1, v2, v3, v4, v5, v6, v7, v8, v9]) rfl ?_
  refine ⟨a3, c3, rfl, ?_, unhide HB4⟩
  have h9 := unhide HO
  rw [unhide HQ] at h9
  exact h9.mono (Nat.le_refl _) (Nat.le_of_eq (unhide HZ).symm)
/-- What the copy of a list is: rows of the call's own, each message in memory of its own. -/
def CopyKit (w w' : World) (g : Nat) (xs : List DMsg) : Prop := g = w.heap.size ∧ ∃ (rows : List (List Value)) (hi : Nat), w'.ownsRow w.heap.size 31 10 (.slice (some ⟨g, 0, none⟩) xs.length xs.length) xs.length rows.flatten ∧ Lay.Subs Lay.tMsg w' rows xs (w.heap.size + 1) hi ∧ hi ≤ w'.heap.size ∧ w.heap.size < hi
set_option maxRecDepth 10000 in
set_option maxHeartbeats 4000000 in
theorem copiedMsgsC (v : Value) (xs : List DMsg) (w : World) (h : (Lay.sl Lay.tMsg).Reads w [v] xs) (hlen : xs.length ≤ 1000000) (hv : ∀ x ∈ xs, x.write.vec.length ≤ 10000000) :
    Calls Try.prog 70 #[v] w fun e w' => ∃ (g : Nat), e = .returned (.slice (some ⟨g, 0, none⟩) xs.length xs.length) ∧ (Lay.sl Lay.tMsg).OwnIn w' [.slice (some ⟨g, 0, none⟩) xs.length xs.length] xs w.heap.size w'.heap.size ∧ Below w.heap.size w w' ∧ CopyKit w w' g xs := by
  have hbig := h.big
  obtain ⟨ao, cap, rfl⟩ := open_sl h
  obtain ⟨i0, hi, hz0, hz1, hz2⟩ : ∃ i, Try.prog.info? 31 = some i ∧ i.zero = some (.agg #[.int .i64 0, .int .i64 0, .int .i64 0, .int .i64 0, .int .i64 0, .int .i64 0, .int .i64 0, .slice none 0 0, .int .i64 0, .int .i64 0]) ∧ i.size = 10 ∧ i.bytes ≤ 1000 := by
    have := infoMsgC
    cases hq : Try.prog.info? 31 with
    | none => rw [hq] at this; simp at this
    | some i =>
      rw [hq] at this
      simp only [Option.map_some, Option.some.injEq, Prod.mk.injEq, decide_eq_true_eq] at this
      exact ⟨i, rfl, this.1, this.2.1, this.2.2⟩
  have H := hide h
  have HN := hide hv
  clear h hv
  go_enter Try.func70, Try.ntmps70
  go_wp2_with (at_make; refine wpList_make_full _ rfl _ _ 38 rfl w.heap.size 31 i0 _ 10 Try.underlying38 hi hz0 hz1 _ _ _ _ xs.length rfl rfl rfl rfl ?c1 ?c2 ?c3 ?_)
  case c1 => have := Nat.mul_le_mul hz2 hlen; omega
  case c2 => unfold maxLen; omega
  case c3 => exact Nat.le_refl _
  intro w1 hown1 hgrow1
  have hB1 : Below w.heap.size w w1 := (Below.refl _ _).grown hgrow1 (Nat.le_refl _) (by simp)
  clear hgrow1 hi hz0 hz1 hz2
  have HO1 := hide hown1
  have HB1 := hide hB1
  clear hown1 hB1
  go_wp2_with fail
  go_loopw [11] (fun i wr => ∃ (k : Nat) (rows : List (List Value)) (Q : List Value) (hi : Nat), k ≤ xs.length ∧ i = .int .i64 k ∧ wr.ownsRow w.heap.size 31 10 (.slice (some ⟨w.heap.size, 0, none⟩) xs.length xs.length) xs.length (rows.flatten ++ Q) ∧ Q.length = (xs.length - k) * 10 ∧ Lay.Subs Lay.tMsg wr rows (xs.take k) (w.heap.size + 1) hi ∧ hi ≤ wr.heap.size ∧ w.heap.size < hi ∧ Below w.heap.size w wr) (fun i _ => xs.length - (intOf i).toNat)
  case atStart =>
    have hl := ((unhide HO1).lt w.heap.size rfl).2
    exact ⟨0, [], _, w1.heap.size, Nat.zero_le _, rfl, by simpa using unhide HO1, by have := (unhide HO1).1; simpa using this, Lay.subs_nil, Nat.le_refl _, hl, unhide HB1⟩
  case round =>
    obtain ⟨k, rows, Q, hi, hk, rfl, hown, hQ, hsub, hhi, hlo, hB⟩ := hrel
    clear HO1 HB1
    by_cases hlt : k < xs.length
    · obtain ⟨b, off, rfl, hbl⟩ := Lay.sl_addr (unhide H) (by omega)
      obtain ⟨row, hc, hr⟩ := Lay.row_at (unhide H) hlt
      replace hr := hr.later hB
      have hr2 := hr
      obtain ⟨a, d, rfl, -⟩ := open_Msg hr2
      have c0 : wr.cell? ⟨b, off + k * 10, none⟩ = some (.int .i64 (xs[k]).kind) := (hB.cell (p := ⟨b, off + k * 10, none⟩) hbl).trans (hc 0 (by decide))
      have c1 : wr.cell? ⟨b, off + k * 10 + 1, none⟩ = some (.int .i64 (xs[k]).epoch) := (hB.cell (p := ⟨b, off + k * 10 + 1, none⟩) hbl).trans (hc 1 (by decide))
      have c2 : wr.cell? ⟨b, off + k * 10 + 2, none⟩ = some (.int .i64 (xs[k]).src) := (hB.cell (p := ⟨b, off + k * 10 + 2, none⟩) hbl).trans (hc 2 (by decide))
      have c3 : wr.cell? ⟨b, off + k * 10 + 3, none⟩ = some (.int .i64 (xs[k]).dst) := (hB.cell (p := ⟨b, off + k * 10 + 3, none⟩) hbl).trans (hc 3 (by decide))
      have c4 : wr.cell? ⟨b, off + k * 10 + 4, none⟩ = some (.int .i64 (xs[k]).index) := (hB.cell (p := ⟨b, off + k * 10 + 4, none⟩) hbl).trans (hc 4 (by decide))
      have c5 : wr.cell? ⟨b, off + k * 10 + 5, none⟩ = some (.int .i64 (xs[k]).write.kind) := (hB.cell (p := ⟨b, off + k * 10 + 5, none⟩) hbl).trans (hc 5 (by decide))
      have c6 : wr.cell? ⟨b, off + k * 10 + 6, none⟩ = some (.int .i64 (xs[k]).write.id) := (hB.cell (p := ⟨b, off + k * 10 + 6, none⟩) hbl).trans (hc 6 (by decide))
      have c7 : wr.cell? ⟨b, off + k * 10 + 7, none⟩ = some (.slice a (xs[k]).write.vec.length d) := (hB.cell (p := ⟨b, off + k * 10 + 7, none⟩) hbl).trans (hc 7 (by decide))
      have c8 : wr.cell? ⟨b, off + k * 10 + 8, none⟩ = some (.int .i64 (xs[k]).write.session) := (hB.cell (p := ⟨b, off + k * 10 + 8, none⟩) hbl).trans (hc 8 (by decide))
      have c9 : wr.cell? ⟨b, off + k * 10 + 9, none⟩ = some (.int .i64 (xs[k]).write.seq) := (hB.cell (p := ⟨b, off + k * 10 + 9, none⟩) hbl).trans (hc 9 (by decide))
      have hrl : rows.flatten.length = k * 10 := by have := (Lay.subs_len hsub).1; rw [List.length_take, Nat.min_eq_left hk] at this; exact this
      have hvl := unhide HN xs[k] (List.getElem_mem hlt)
      have HT : Hid (xs.take (k + 1) = xs.take k ++ [xs[k]]) := List.take_succ_eq_append_getElem hlt
      have HB := hide hB
      have HO := hide hown
      have HS := hide hsub
      have HQ := hide hQ
      have HRM := hide hr
      clear hB hr hc hown hsub hQ hr2
      generalize hxk : xs[k] = x at *
      clear hxk
      have hbr : b < wr.heap.size := Nat.lt_of_lt_of_le hbl (unhide HB).size
      have nb : Below wr.heap.size wr (wr.alloc (.cells #[.int .i64 x.kind, .int .i64 x.epoch, .int .i64 x.src, .int .i64 x.dst, .int .i64 x.index, .int .i64 x.write.kind, .int .i64 x.write.id, .slice a x.write.vec.length d, .int .i64 x.write.session, .int .i64 x.write.seq] 31)) := (Below.refl _ _).alloc (Nat.le_refl _) _
      have hz0 : (wr.alloc (.cells #[.int .i64 x.kind, .int .i64 x.epoch, .int .i64 x.src, .int .i64 x.dst, .int .i64 x.index, .int .i64 x.write.kind, .int .i64 x.write.id, .slice a x.write.vec.length d, .int .i64 x.write.session, .int .i64 x.write.seq] 31)).heap.size = wr.heap.size + 1 := by simp
      have HL := hide (copiedMsgC _ x _ ((unhide HRM).later nb) hvl)
      have HNB := hide nb
      have HZ0 := hide hz0
      clear nb hz0 HRM
      go_wp2_with fail
      clear c0 c1 c2 c3 c4 c5 c6 c7 c8 c9
      refine (unhide HL).mono ?_
      generalize hW0 : wr.alloc (.cells #[.int .i64 x.kind, .int .i64 x.epoch, .int .i64 x.src, .int .i64 x.dst, .int .i64 x.index, .int .i64 x.write.kind, .int .i64 x.write.id, .slice a x.write.vec.length d, .int .i64 x.write.session, .int .i64 x.write.seq] 31) = W0 at *
      clear hW0
      rintro e w2 ⟨a3, c3, rfl, O, hb⟩
      have hz0 := unhide HZ0
      have hz2 : W0.heap.size ≤ w2.heap.size := hb.size
      have hb3 : Below wr.heap.size wr w2 := (unhide HNB).trans (hb.mono (unhide HNB).size)
      have o2 := own_below (unhide HO) hb3
      replace HS := hide (Lay.subs_snoc (Lay.subs_ext (unhide HS) (ext_of_below hb3 nowhere) (fun _ _ _ h => h)) O (by omega) (by omega) (by omega))
      have hb2 := (unhide HB).trans (hb3.mono (unhide HB).size)
      have hxw : w.heap.size < wr.heap.size := by omega
      clear hb HB HO O HNB HL hb3 HZ0
      have hQ := unhide HQ
      have hl5 : (rows.flatten ++ Q).length = xs.length * 10 := o2.1
      obtain ⟨u0, g0⟩ : ∃ u, w2.cell? ⟨w.heap.size, k * 10, none⟩ = some u := by
        rw [o2.cellAt (k * 10) (by omega)]
        exact ⟨_, List.getElem?_eq_getElem (by omega)⟩
      have t0 := o2.frozenAt (k * 10)
      obtain ⟨u1, g1⟩ : ∃ u, w2.cell? ⟨w.heap.size, k * 10 + 1, none⟩ = some u := by
        rw [o2.cellAt (k * 10 + 1) (by omega)]
        exact ⟨_, List.getElem?_eq_getElem (by omega)⟩
      have t1 := o2.frozenAt (k * 10 + 1)
      obtain ⟨u2, g2⟩ : ∃ u, w2.cell? ⟨w.heap.size, k * 10 + 2, none⟩ = some u := by
        rw [o2.cellAt (k * 10 + 2) (by omega)]
        exact ⟨_, List.getElem?_eq_getElem (by omega)⟩
      have t2 := o2.frozenAt (k * 10 + 2)
      obtain ⟨u3, g3⟩ : ∃ u, w2.cell? ⟨w.heap.size, k * 10 + 3, none⟩ = some u := by
        rw [o2.cellAt (k * 10 + 3) (by omega)]
        exact ⟨_, List.getElem?_eq_getElem (by omega)⟩
      have t3 := o2.frozenAt (k * 10 + 3)
      obtain ⟨u4, g4⟩ : ∃ u, w2.cell? ⟨w.heap.size, k * 10 + 4, none⟩ = some u := by
        rw [o2.cellAt (k * 10 + 4) (by omega)]
        exact ⟨_, List.getElem?_eq_getElem (by omega)⟩
      have t4 := o2.frozenAt (k * 10 + 4)
      obtain ⟨u5, g5⟩ : ∃ u, w2.cell? ⟨w.heap.size, k * 10 + 5, none⟩ = some u := by
        rw [o2.cellAt (k * 10 + 5) (by omega)]
        exact ⟨_, List.getElem?_eq_getElem (by omega)⟩
      have t5 := o2.frozenAt (k * 10 + 5)
      obtain ⟨u6, g6⟩ : ∃ u, w2.cell? ⟨w.heap.size, k * 10 + 6, none⟩ = some u := by
        rw [o2.cellAt (k * 10 + 6) (by omega)]
        exact ⟨_, List.getElem?_eq_getElem (by omega)⟩
      have t6 := o2.frozenAt (k * 10 + 6)
      obtain ⟨u7, g7⟩ : ∃ u, w2.cell? ⟨w.heap.size, k * 10 + 7, none⟩ = some u := by
        rw [o2.cellAt (k * 10 + 7) (by omega)]
        exact ⟨_, List.getElem?_eq_getElem (by omega)⟩
      have t7 := o2.frozenAt (k * 10 + 7)
      obtain ⟨u8, g8⟩ : ∃ u, w2.cell? ⟨w.heap.size, k * 10 + 8, none⟩ = some u := by
        rw [o2.cellAt (k * 10 + 8) (by omega)]
        exact ⟨_, List.getElem?_eq_getElem (by omega)⟩
      have t8 := o2.frozenAt (k * 10 + 8)
      obtain ⟨u9, g9⟩ : ∃ u, w2.cell? ⟨w.heap.size, k * 10 + 9, none⟩ = some u := by
        rw [o2.cellAt (k * 10 + 9) (by omega)]
        exact ⟨_, List.getElem?_eq_getElem (by omega)⟩
      have t9 := o2.frozenAt (k * 10 + 9)
      have o3 := own_setAll o2 (k * 10) [.int .i64 x.kind, .int .i64 x.epoch, .int .i64 x.src, .int .i64 x.dst, .int .i64 x.index, .int .i64 x.write.kind, .int .i64 x.write.id, .slice a3 x.write.vec.length c3, .int .i64 x.write.session, .int .i64 x.write.seq]
      rw [show k * 10 = rows.flatten.length from hrl.symm, setFrom_app _ _ _ (by rw [hQ]; simp; have : 1 * 10 ≤ (xs.length - k) * 10 := Nat.mul_le_mul_right _ (by omega); omega), hrl] at o3
      have E : Ext (fun q => q = w.heap.size) w2 (setAll w2 w.heap.size (k * 10) [.int .i64 x.kind, .int .i64 x.epoch, .int .i64 x.src, .int .i64 x.dst, .int .i64 x.index, .int .i64 x.write.kind, .int .i64 x.write.id, .slice a3 x.write.vec.length c3, .int .i64 x.write.session, .int .i64 x.write.seq]) := ext_setAll _ (Ext.refl _ _) _ _ _ rfl
      replace HS := hide (Lay.subs_ext (unhide HS) E (fun q h1 h2 h3 => by omega))
      have HB := hide (below_setAll hb2 w.heap.size (k * 10) [.int .i64 x.kind, .int .i64 x.epoch, .int .i64 x.src, .int .i64 x.dst, .int .i64 x.index, .int .i64 x.write.kind, .int .i64 x.write.id, .slice a3 x.write.vec.length c3, .int .i64 x.write.session, .int .i64 x.write.seq] (Nat.le_refl _))
      have HZ : Hid ((setAll w2 w.heap.size (k * 10) [.int .i64 x.kind, .int .i64 x.epoch, .int .i64 x.src, .int .i64 x.dst, .int .i64 x.index, .int .i64 x.write.kind, .int .i64 x.write.id, .slice a3 x.write.vec.length c3, .int .i64 x.write.session, .int .i64 x.write.seq]).heap.size = w2.heap.size) := size_setAll _ _ _ _
      have HO : Hid ((setAll w2 w.heap.size (k * 10) [.int .i64 x.kind, .int .i64 x.epoch, .int .i64 x.src, .int .i64 x.dst, .int .i64 x.index, .int .i64 x.write.kind, .int .i64 x.write.id, .slice a3 x.write.vec.length c3, .int .i64 x.write.session, .int .i64 x.write.seq]).ownsRow w.heap.size 31 10 (.slice (some ⟨w.heap.size, 0, none⟩) xs.length xs.length) xs.length ((rows ++ [([.int .i64 x.kind, .int .i64 x.epoch, .int .i64 x.src, .int .i64 x.dst, .int .i64 x.index, .int .i64 x.write.kind, .int .i64 x.write.id, .slice a3 x.write.vec.length c3, .int .i64 x.write.session, .int .i64 x.write.seq] : List Value)]).flatten ++ Q.drop 10)) := by
        show (setAll w2 w.heap.size (k * 10) [.int .i64 x.kind, .int .i64 x.epoch, .int .i64 x.src, .int .i64 x.dst, .int .i64 x.index, .int .i64 x.write.kind, .int .i64 x.write.id, .slice a3 x.write.vec.length c3, .int .i64 x.write.session, .int .i64 x.write.seq]).ownsRow w.heap.size 31 10 (.slice (some ⟨w.heap.size, 0, none⟩) xs.length xs.length) xs.length ((rows ++ [([.int .i64 x.kind, .int .i64 x.epoch, .int .i64 x.src, .int .i64 x.dst, .int .i64 x.index, .int .i64 x.write.kind, .int .i64 x.write.id, .slice a3 x.write.vec.length c3, .int .i64 x.write.session, .int .i64 x.write.seq] : List Value)]).flatten ++ Q.drop 10)
        rw [List.flatten_append]
        simpa using o3
      have hl2 := (o2.lt w.heap.size rfl).2
      clear o3 o2 E hb2 hl5
      have hQ2 : Hid ((Q.drop 10).length = (xs.length - (k + 1)) * 10) := by
        show (Q.drop 10).length = (xs.length - (k + 1)) * 10
        rw [List.length_drop, hQ, show xs.length - k = xs.length - (k + 1) + 1 by omega, Nat.add_mul]
        omega
      have HW2 : Hid (w.heap.size < w2.heap.size) := hl2
      clear hQ HQ hz2 hz0
      go_wp2_with fail
      go_roundw
      case rel => exact ⟨k + 1, rows ++ [([.int .i64 x.kind, .int .i64 x.epoch, .int .i64 x.src, .int .i64 x.dst, .int .i64 x.index, .int .i64 x.write.kind, .int .i64 x.write.id, .slice a3 x.write.vec.length c3, .int .i64 x.write.session, .int .i64 x.write.seq] : List Value)], Q.drop 10, w2.heap.size, by omega, by go_num, unhide HO, unhide hQ2, (by rw [unhide HT]; exact unhide HS), Nat.le_of_eq (unhide HZ).symm, unhide HW2, unhide HB⟩
      case measure => simp [intOf]; omega
    · obtain rfl : k = xs.length := by omega
      have e0 : Q = [] := List.eq_nil_of_length_eq_zero (by rw [hQ]; simp)
      subst e0
      rw [List.append_nil] at hown
      rw [List.take_length] at hsub
      have HK : Hid (CopyKit w wr w.heap.size xs) := ⟨rfl, rows, hi, hown, hsub, hhi, hlo⟩
      have HO := hide (Lay.subs_done (A := Lay.tMsg) hown hsub (by omega) hhi hbig)
      have HB := hide hB
      clear hown hsub hB
      go_wp2_with fail
      go_ret
      exact ⟨_, rfl, unhide HO, unhide HB, unhide HK⟩
end Go.Proofs.Ytkmfkaljdngigaa

namespace Go.Proofs.Ytkmfkaljdngigaa
open Go.RowKit

/-- How work on messages ends: the messages in new memory, or a panic with the code. -/
def SentE (c : Int) (ms : List DMsg) (w w' : World) (e : Ending) : Prop :=
  (c = 0 → ∃ v', e = .returned v' ∧ (Lay.sl Lay.tMsg).OwnIn w' [v'] ms w.heap.size w'.heap.size) ∧ (c ≠ 0 → e = .panicked (wrongP c))
theorem sentE_bad {c : Int} {ms : List DMsg} {w w' : World} (h : c ≠ 0) : SentE c ms w w' (.panicked (wrongP c)) := ⟨fun q => absurd q h, fun _ => rfl⟩
theorem sentE_ok {ms : List DMsg} {w w' : World} {v : Value} (h : (Lay.sl Lay.tMsg).OwnIn w' [v] ms w.heap.size w'.heap.size) : SentE 0 ms w w' (.returned v) := ⟨fun _ => ⟨v, rfl, h⟩, fun q => absurd rfl q⟩
theorem msg_vecS {x : DMsg} (h : msgFault x = 0) : x.write.vec.length ≤ 10000000 := by
  unfold msgFault at h
  split at h
  · simp at h
  · rename_i h1
    split at h
    · simp at h
    · split at h
      · rename_i h3
        have h4 : noW x.write := Decidable.byContradiction fun q => h1 (Or.inr (Or.inr ⟨h3, q⟩))
        have := h4.2.2.2.2
        omega
      · obtain ⟨-, -, -, hk⟩ := writeFault_zero h
        rcases hk with ⟨-, hv⟩ | ⟨-, hv⟩
        · have := (vecFault_zero hv).1; omega
        · rw [hv]; simp
theorem msgs_vecS {xs : List DMsg} (h : netFault xs = 0) : ∀ x ∈ xs, x.write.vec.length ≤ 10000000 := fun x hx => msg_vecS ((netFault_zero h).2 x hx)
theorem grow_of_kit {w W W2 : World} {g : Nat} {xs : List DMsg} (h : CopyKit w W g xs) (hb : Below W.heap.size W W2) : ∃ rows bls, Grow Lay.tMsg W2 w.heap.size 31 (.slice (some ⟨g, 0, none⟩) xs.length xs.length) rows xs bls ∧ bls.flatten.Nodup ∧ g = w.heap.size ∧ ∀ b ∈ bls.flatten, w.heap.size < b ∧ b < W.heap.size ∧ ∀ o, W2.frozen? ⟨b, o, none⟩ = false := by
  obtain ⟨hg, rows, hi, own, sub, hhi, hlo⟩ := h
  obtain ⟨bls, h1, h2, h3, h4, h5, h6⟩ := Lay.subs_ext sub (ext_of_below hb nowhere) (fun _ _ _ q => q)
  refine ⟨rows, bls, ⟨own_below own hb, h1, h2, h3, fun b hm e => ?_⟩, h4, hg, fun b hm => ⟨by have := h5 b hm; omega, by have := h5 b hm; omega, h6 b hm⟩⟩
  have e1 : g = b := by simpa [Value.ownBlock] using e
  have := h5 b hm
  omega
theorem own_snocM {w1 w' : World} {base T : Nat} {v v' : Value} {rows : List (List Value)} {xs : List DMsg} {bls : List (List Nat)} {row : List Value} {x : DMsg} {bl : List Nat} {M : Nat} (hG : Grow Lay.tMsg w' base T v' (rows ++ [row]) (xs ++ [x]) (bls ++ [bl])) (e : Ext (fun q => v.ownBlock = some q) w1 w') (hnd : bls.flatten.Nodup)
    (hs : ∀ b ∈ bls.flatten, base ≤ b ∧ b < M ∧ b < w1.heap.size ∧ v.ownBlock ≠ some b ∧ ∀ o, w1.frozen? ⟨b, o, none⟩ = false) (O : Lay.tMsg.Own w1 row x bl) (hbl : ∀ b ∈ bl, base ≤ b ∧ M ≤ b ∧ v.ownBlock ≠ some b) (hn : (xs ++ [x]).length ≤ 9223372036854775807) : (Lay.sl Lay.tMsg).OwnIn w' [v'] (xs ++ [x]) base w'.heap.size := by
  refine hG.toOwn hn ?_ ?_
  · rw [List.flatten_append, List.nodup_append]
    refine ⟨hnd, by simpa using O.2.1, fun a ha b hb e => ?_⟩
    have := hs a ha
    have := hbl b (by simpa using hb)
    omega
  · intro b hb
    rw [List.flatten_append] at hb
    rcases List.mem_append.1 hb with hm | hm
    · obtain ⟨q1, q2, q3, q4, q5⟩ := hs b hm
      exact ⟨q1, fun o => (frozen_of_heap (e.block b q3 q4) o).trans (q5 o)⟩
    · have hm2 : b ∈ bl := by simpa using hm
      obtain ⟨q1, q2, q3⟩ := hbl b hm2
      exact ⟨q1, fun o => (frozen_of_heap (e.block b (Lay.tMsg.lt O.1 b hm2) q3) o).trans (O.2.2 b hm2 o)⟩
set_option maxRecDepth 10000 in
set_option maxHeartbeats 4000000 in
theorem sentC (v : Value) (xs : List DMsg) (cs : List Value) (x : DMsg) (w : World) (h : (Lay.sl Lay.tMsg).Reads w [v] xs) (hx : Lay.tMsg.Reads w cs x) :
    Calls Try.prog 43 #[v, .agg cs.toArray] w fun e w' => SentE (sendR xs x).code (sendR xs x).msgs w w' e ∧ Below w.heap.size w w' := by
  have hmf : ∀ (fn : Fn) (first cap : Array Value) (w : World), (Instr.makeFunc fn first cap).run Try.prog w = .ok (.func fn first cap) w := fun _ _ _ _ => rfl
  obtain ⟨ao, cap, rfl⟩ := open_sl h
  obtain ⟨a, d, rfl, -⟩ := open_Msg hx
  have nb : Below w.heap.size w (w.alloc (.cells #[.int .i64 x.kind, .int .i64 x.epoch, .int .i64 x.src, .int .i64 x.dst, .int .i64 x.index, .int .i64 x.write.kind, .int .i64 x.write.id, .slice a x.write.vec.length d, .int .i64 x.write.session, .int .i64 x.write.seq] 31)) := (Below.refl _ _).alloc (Nat.le_refl _) _
  have hz1 : (w.alloc (.cells #[.int .i64 x.kind, .int .i64 x.epoch, .int .i64 x.src, .int .i64 x.dst, .int .i64 x.index, .int .i64 x.write.kind, .int .i64 x.write.id, .slice a x.write.vec.length d, .int .i64 x.write.session, .int .i64 x.write.seq] 31)).heap.size = w.heap.size + 1 := by simp
  have HR := hide (h.later nb)
  have HRX := hide (hx.later nb)
  have HB := hide nb
  have HX : Hid (Box 0 #[.int .i64 x.kind, .int .i64 x.epoch, .int .i64 x.src, .int .i64 x.dst, .int .i64 x.index, .int .i64 x.write.kind, .int .i64 x.write.id, .slice a x.write.vec.length d, .int .i64 x.write.session, .int .i64 x.write.seq] 31 (w.alloc (.cells #[.int .i64 x.kind, .int .i64 x.epoch, .int .i64 x.src, .int .i64 x.dst, .int .i64 x.index, .int .i64 x.write.kind, .int .i64 x.write.id, .slice a x.write.vec.length d, .int .i64 x.write.session, .int .i64 x.write.seq] 31)) w.heap.size) := newBox (Nat.zero_le _)
  have HZ1 := hide hz1
  clear h hx nb hz1
  go_enter Try.func43, Try.ntmps43
  go_upto_region 1 with fail
  generalize w.alloc (.cells #[.int .i64 x.kind, .int .i64 x.epoch, .int .i64 x.src, .int .i64 x.dst, .int .i64 x.index, .int .i64 x.write.kind, .int .i64 x.write.id, .slice a x.write.vec.length d, .int .i64 x.write.session, .int .i64 x.write.seq] 31) = W1 at *
  have HL := hide (mustBeNetC _ xs W1 (unhide HR))
  go_wp2_with fail
  refine (unhide HL).mono ?_
  rintro e W2 ⟨he, hb⟩
  replace HB := hide ((unhide HB).trans (hb.mono (unhide HB).size))
  replace HR := hide ((unhide HR).later hb)
  replace HRX := hide ((unhide HRX).later hb)
  replace HX := hide ((unhide HX).keep hb)
  have hw2 : w.heap.size + 1 ≤ W2.heap.size := by have := hb.size; have := unhide HZ1; omega
  have HW2 := hide hw2
  clear hb HL hw2 HZ1
  by_cases hf : netFault xs = 0
  case neg =>
    rw [wrongE_bad hf] at he
    subst he
    have HF := hide (sendR_net (x := x) hf)
    have HG := hide hf
    clear hf
    go_wp2_with fail
    exact ⟨rfl, by rw [unhide HF]; exact sentE_bad (unhide HG), unhide HB⟩
  case pos =>
  rw [wrongE_ok hf] at he
  subst he
  have HF := hide hf
  have hlen := (netFault_zero hf).1
  clear hf
  have c0 : W2.cell? ⟨w.heap.size, 0, none⟩ = some (.int .i64 x.kind) := (unhide HX).at 0 _ rfl
  have c1 : W2.cell? ⟨w.heap.size, 1, none⟩ = some (.int .i64 x.epoch) := (unhide HX).at 1 _ rfl
  have c2 : W2.cell? ⟨w.heap.size, 2, none⟩ = some (.int .i64 x.src) := (unhide HX).at 2 _ rfl
  have c3 : W2.cell? ⟨w.heap.size, 3, none⟩ = some (.int .i64 x.dst) := (unhide HX).at 3 _ rfl
  have c4 : W2.cell? ⟨w.heap.size, 4, none⟩ = some (.int .i64 x.index) := (unhide HX).at 4 _ rfl
  have c5 : W2.cell? ⟨w.heap.size, 5, none⟩ = some (.int .i64 x.write.kind) := (unhide HX).at 5 _ rfl
  have c6 : W2.cell? ⟨w.heap.size, 6, none⟩ = some (.int .i64 x.write.id) := (unhide HX).at 6 _ rfl
  have c7 : W2.cell? ⟨w.heap.size, 7, none⟩ = some (.slice a x.write.vec.length d) := (unhide HX).at 7 _ rfl
  have c8 : W2.cell? ⟨w.heap.size, 8, none⟩ = some (.int .i64 x.write.session) := (unhide HX).at 8 _ rfl
  have c9 : W2.cell? ⟨w.heap.size, 9, none⟩ = some (.int .i64 x.write.seq) := (unhide HX).at 9 _ rfl
  have HL := hide (mustBeMsgC _ x W2 (unhide HRX))
  go_wp2_with fail
  clear c0 c1 c2 c3 c4 c5 c6 c7 c8 c9
  refine (unhide HL).mono ?_
  rintro e W3 ⟨he, hb⟩
  replace HB := hide ((unhide HB).trans (hb.mono (unhide HB).size))
  replace HR := hide ((unhide HR).later hb)
  replace HRX := hide ((unhide HRX).later hb)
  replace HX := hide ((unhide HX).keep hb)
  replace HW2 := hide (Nat.le_trans (unhide HW2) hb.size)
  clear hb HL
  by_cases hm : msgFault x = 0
  case neg =>
    rw [wrongE_bad hm] at he
    subst he
    replace HF := hide (sendR_msg (x := x) (unhide HF) hm)
    have HG := hide hm
    clear hm
    go_wp2_with fail
    exact ⟨rfl, by rw [unhide HF]; exact sentE_bad (unhide HG), unhide HB⟩
  case pos =>
  rw [wrongE_ok hm] at he
  subst he
  have HSR := hide (sendR_ok (unhide HF) hm)
  have hmv := msg_vecS hm
  clear hm
  have HL := hide (copiedMsgsC _ xs W3 (unhide HR) (by omega) (msgs_vecS (unhide HF)))
  have HMV := hide hmv
  clear hmv HF
  go_wp2_with fail
  refine (unhide HL).mono ?_
  rintro e W4 ⟨g, rfl, O, hb, hk⟩
  have HO := hide O
  have HK := hide hk
  have hg : g = W3.heap.size := hk.1
  have hw3 := unhide HW2
  replace HB := hide ((unhide HB).trans (hb.mono (unhide HB).size))
  replace HRX := hide ((unhide HRX).later hb)
  replace HX := hide ((unhide HX).keep hb)
  have HW3 := hide hw3
  have HG := hide hg
  clear hb HL O hk HR hw3 hg HW2
  have HL := hide (containsFuncM _ a d xs x w.heap.size W4 (unhide HO).reads (unhide HRX) (unhide HX))
  go_wp2_with fail
  refine (unhide HL).mono ?_
  rintro e W5 ⟨rfl, hb⟩
  have HB45 := hide hb
  replace HB := hide ((unhide HB).trans (hb.mono (unhide HB).size))
  replace HRX := hide ((unhide HRX).later hb)
  replace HX := hide ((unhide HX).keep hb)
  clear HL hb
  cases hany : xs.any (fun y => sameM y x)
  case true =>
    have HS := hide ((unhide HSR).trans (sendM_there hany))
    have HO5 := hide ((unhide HO).later (unhide HB45))
    have HZ := hide (unhide HB45).size
    clear hany HSR
    go_wp2_with fail
    go_ret
    refine ⟨?_, unhide HB⟩
    rw [unhide HS]
    exact sentE_ok ((unhide HO5).mono (by have := unhide HW3; omega) (unhide HZ))
  case false =>
  by_cases hfull : xs.length < 40
  case neg =>
    have HS := hide ((unhide HSR).trans (sendM_full hany (by omega)))
    have hd : decide ((xs.length : Int) < 40) = false := by simp; omega
    clear hany HSR
    go_wp2_with fail
    refine (mustF 2 _).mono ?_
    rintro e w9 ⟨rfl, h9⟩
    subst w9
    go_wp2_with fail
    exact ⟨rfl, by rw [unhide HS]; exact sentE_bad (by decide), unhide HB⟩
  case pos =>
  have HS := hide ((unhide HSR).trans (sendM_new hany hfull))
  have hd : decide ((xs.length : Int) < 40) = true := by simp; omega
  clear hany HSR
  go_wp2_with fail
  refine (mustT 2 _).mono ?_
  rintro e w9 ⟨rfl, h9⟩
  subst w9
  clear hd
  have c0 : W5.cell? ⟨w.heap.size, 0, none⟩ = some (.int .i64 x.kind) := (unhide HX).at 0 _ rfl
  have c1 : W5.cell? ⟨w.heap.size, 1, none⟩ = some (.int .i64 x.epoch) := (unhide HX).at 1 _ rfl
  have c2 : W5.cell? ⟨w.heap.size, 2, none⟩ = some (.int .i64 x.src) := (unhide HX).at 2 _ rfl
  have c3 : W5.cell? ⟨w.heap.size, 3, none⟩ = some (.int .i64 x.dst) := (unhide HX).at 3 _ rfl
  have c4 : W5.cell? ⟨w.heap.size, 4, none⟩ = some (.int .i64 x.index) := (unhide HX).at 4 _ rfl
  have c5 : W5.cell? ⟨w.heap.size, 5, none⟩ = some (.int .i64 x.write.kind) := (unhide HX).at 5 _ rfl
  have c6 : W5.cell? ⟨w.heap.size, 6, none⟩ = some (.int .i64 x.write.id) := (unhide HX).at 6 _ rfl
  have c7 : W5.cell? ⟨w.heap.size, 7, none⟩ = some (.slice a x.write.vec.length d) := (unhide HX).at 7 _ rfl
  have c8 : W5.cell? ⟨w.heap.size, 8, none⟩ = some (.int .i64 x.write.session) := (unhide HX).at 8 _ rfl
  have c9 : W5.cell? ⟨w.heap.size, 9, none⟩ = some (.int .i64 x.write.seq) := (unhide HX).at 9 _ rfl
  have HL := hide (copiedMsgC _ x W5 (unhide HRX) (unhide HMV))
  go_wp2_with fail
  clear c0 c1 c2 c3 c4 c5 c6 c7 c8 c9
  refine (unhide HL).mono ?_
  rintro e W6 ⟨a3, c3, rfl, O, hb⟩
  have hkb := (unhide HB45).trans (hb.mono (unhide HB45).size)
  obtain ⟨rows, bls, hG, hnd, -, hsub⟩ := grow_of_kit (unhide HK) hkb
  obtain ⟨bl, OM, hbl⟩ := O
  replace HB := hide ((unhide HB).trans (hb.mono (unhide HB).size))
  have hgl : ∀ q, (Value.slice (some ⟨g, 0, none⟩) xs.length xs.length).ownBlock = some q → q = W3.heap.size := fun q hq => by
    have : g = q := by simpa [Value.ownBlock] using hq
    rw [← this]; exact unhide HG
  have s45 := (unhide HB45).size
  have s56 := hb.size
  have hgw : W3.heap.size < W4.heap.size := by
    have := ((unhide HK).2)
    obtain ⟨_, _, _, _, q1, q2⟩ := this
    omega
  have hoff : ∀ b ∈ bl, (Value.slice (some ⟨g, 0, none⟩) xs.length xs.length).ownBlock ≠ some b := fun b hm e => by
    have h1 := hgl b e
    have h2 := hbl b hm
    omega
  have HSB : Hid (∀ b ∈ bls.flatten, W3.heap.size ≤ b ∧ b < W4.heap.size ∧ b < W6.heap.size ∧ (Value.slice (some ⟨g, 0, none⟩) xs.length xs.length).ownBlock ≠ some b ∧ ∀ o, W6.frozen? ⟨b, o, none⟩ = false) := fun b hm => by
    obtain ⟨q1, q2, q3⟩ := hsub b hm
    refine ⟨by omega, q2, by omega, fun e => ?_, q3⟩
    have := hgl b e
    omega
  have HBL : Hid (∀ b ∈ bl, W3.heap.size ≤ b ∧ W4.heap.size ≤ b ∧ (Value.slice (some ⟨g, 0, none⟩) xs.length xs.length).ownBlock ≠ some b) := fun b hm => ⟨by have := hbl b hm; omega, by have := hbl b hm; omega, hoff b hm⟩
  have HND := hide hnd
  have HOM := hide OM
  have hl := OM.1
  have hbase : W3.heap.size ≤ W6.heap.size := by omega
  have hn1 : xs.length + 1 ≤ 100000000 := by omega
  clear hb HL hkb hsub hbl hgl OM hnd HK HO HB45 HRX HX HMV s45 s56 hgw
  go_wp2_with (at_builtin; refine wpList_append_Msg hG hl hoff rfl _ _ rfl rfl rfl hn1 hbase ?_)
  rintro g2 cap2 W7 hG7 hb7 e7 - h67 -
  have HO7 := hide (own_snocM hG7 e7 (unhide HND) (unhide HSB) (unhide HOM) (unhide HBL) (by simp; omega))
  replace HB := hide ((unhide HB).trans (hb7.mono (by have := unhide HW3; omega)))
  clear hG7 hb7 e7 h67 HND HSB HOM HBL hG hl hoff
  go_wp2_with fail
  go_ret
  refine ⟨?_, unhide HB⟩
  rw [unhide HS]
  exact sentE_ok ((unhide HO7).mono (by have := unhide HW3; omega) (Nat.le_refl _))
end Go.Proofs.Ytkmfkaljdngigaa

namespace Go.Proofs.Ytkmfkaljdngigaa
open Go.RowKit

theorem run_append_zeros_nilM (w : World) (k : Nat) (h0 : 0 < k) (hbig : k ≤ 100000000) (ty : TypeId) :
    ∃ G w1, (Builtin.append_ #[38, 3] ty #[.slice none 0 0, .int .i64 k]).run Try.prog w = .ok (.slice (some ⟨w.heap.size, 0, none⟩) k G) w1 ∧ k ≤ G ∧
      w1.ownsRow w.heap.size 31 10 (.slice (some ⟨w.heap.size, 0, none⟩) 0 G) 0 [] ∧ Below w.heap.size w w1 := by
  obtain ⟨i0, hi, hz0, hz1, hz2⟩ := info_parts infoAppMsg
  have hr := Lib.run_append_nil_zeros w 38 3 ty 31 i0 _ .i64 .i64 Try.underlying38 Try.underlying3 hi hz0 k h0 (by omega) (by omega) (by rw [hz2]; omega)
  have hge := grownCap_ge w k 0 31
  have hle := grownCap_le_maxLen w k 0 31 (by unfold maxLen; omega)
  generalize grownCap w k 0 31 = G at *
  have hzl : ∀ q, (Builtin.zeroCells (Value.agg #[.int .i64 0, .int .i64 0, .int .i64 0, .int .i64 0, .int .i64 0, .int .i64 0, .int .i64 0, .slice none 0 0, .int .i64 0, .int .i64 0]).cells q).size = q * 10 := fun q => by rw [size_zeroCells]; rfl
  refine ⟨G, _, hr, hge, ⟨rfl, .inr ⟨w.heap.size, G, _, rfl, Nat.le_refl _, heap_alloc_new w.drew _, Nat.zero_le _, hle, ?_, by simp⟩⟩, ?_⟩
  · rw [Array.size_append, hzl, hzl]
    omega
  · exact ((Below.refl _ _).drew).alloc (Nat.le_refl _) _

set_option maxRecDepth 100000 in
set_option maxHeartbeats 400000 in
theorem implGrowM (n : Nat) (w : World) (hn : n ≤ 100000000) :
    Calls Try.prog 87 #[.slice none 0 0, .int .i64 n] w fun e w' => ∃ r, e = .returned r ∧ w'.ownsRow w.heap.size 31 10 r 0 [] ∧ Below w.heap.size w w' := by
  have hneg : ¬ ((n : Int) < 0) := by omega
  by_cases h0 : n = 0
  · subst h0
    go_enter Try.func87, Try.ntmps87
    go_wp2_with fail
    go_ret
    exact ⟨_, rfl, World.ownsRow_nil _ _ _ _, Below.refl _ _⟩
  · obtain ⟨G, w1, hr, hG, O1, B1⟩ := run_append_zeros_nilM w n (by omega) hn 38
    have HO := hide O1
    have HB := hide B1
    have hpos : decide ((0 : Int) < (n : Int)) = true := by simp; omega
    clear O1 B1
    go_enter Try.func87, Try.ntmps87
    go_wp2_with (at_builtin; refine Lib.wpList_append_run _ rfl _ _ _ _ rfl _ _ rfl rfl _ _ hr ?_)
    go_ret
    exact ⟨_, rfl, unhide HO, unhide HB⟩

set_option maxRecDepth 100000 in
set_option maxHeartbeats 1000000 in
theorem implConcatM (vb : Nat) (u v : Value) (a b : List DMsg) (w : World) (k0 : w.cell? ⟨vb, 0, none⟩ = some u) (k1 : w.cell? ⟨vb, 1, none⟩ = some v) (ha : (Lay.sl Lay.tMsg).Reads w [u] a) (hb : (Lay.sl Lay.tMsg).Reads w [v] b) (hna : a.length ≤ 1000) (hnb : b.length ≤ 1000) :
    Calls Try.prog 76 #[.slice (some ⟨vb, 0, none⟩) 2 2] w fun e w' => ∃ r, e = .returned r ∧ (∃ rows bls, Grow Lay.tMsg w' w.heap.size 31 r rows (a ++ b) bls) ∧ Below w.heap.size w w' := by
  have HA := hide ha.liesIn
  have HBv := hide hb.liesIn
  obtain ⟨au, cu, rfl⟩ := open_sl ha
  obtain ⟨av, cv, rfl⟩ := open_sl hb
  have HVB := hide (World.block_lt_of_cell? _ _ k1)
  have HK1 := hide k1
  have hn1 : ¬ ((a.length : Int) < 0) := by omega
  have hn2 : ¬ ((a.length : Int) + (b.length : Int) < 0) := by omega
  clear ha hb
  go_enter Try.func76, Try.ntmps76
  go_wp2_with fail
  refine wp_loop_rounds 3 ?_
  rw [rounds_succ]
  go_wp2_with fail
  rw [rounds_succ]
  go_wp2_with fail
  rw [rounds_succ]
  go_wp2_with fail
  have e1 : (a.length : Int) + (b.length : Int) = ((a.length + b.length : Nat) : Int) := by omega
  rw [e1]
  refine (implGrowM (a.length + b.length) _ (by omega)).mono ?_
  rintro e w1 ⟨r, rfl, O1, B1⟩
  obtain ⟨a1, c1, rfl⟩ := own_shape O1
  have hvb := unhide HVB
  replace k0 : w1.cell? ⟨vb, 0, none⟩ = some _ := (B1.cell (p := ⟨vb, 0, none⟩) hvb).trans k0
  replace k1 : w1.cell? ⟨vb, 1, none⟩ = some _ := (B1.cell (p := ⟨vb, 1, none⟩) hvb).trans k1
  have I1 := (unhide HA).later B1
  have G1 : Grow Lay.tMsg w1 w.heap.size 31 (.slice a1 0 c1) [] [] [] := Grow.nil O1
  have HB1 := hide B1
  have hs1 := B1.size
  have hna1 : ([] : List DMsg).length + a.length ≤ 100000000 := by simp; omega
  clear B1 e1 O1
  go_wp2_with fail
  refine wp_loop_rounds 3 ?_
  rw [rounds_succ]
  go_wp2_with (at_builtin; refine wpList_append_msgs G1 I1 rfl _ _ rfl rfl rfl hna1 hs1 ?_)
  intro a2 m2 c2 w2 rows2 bls2 G2 B12 hm2 _
  have B2 : Below w.heap.size w w2 := (unhide HB1).trans B12
  have k2 : w2.cell? ⟨vb, 1, none⟩ = some (.slice av b.length cv) := (B2.cell (p := ⟨vb, 1, none⟩) hvb).trans (unhide HK1)
  have I2 := (unhide HBv).later B2
  have hs2 := B2.size
  have HB2 := hide B2
  have hnb2 : ([] ++ a).length + b.length ≤ 100000000 := by simp; omega
  clear G1 I1 B12 k0 k1 B2 hs1 HB1 hm2
  go_wp2_with fail
  rw [rounds_succ]
  go_wp2_with (at_builtin; refine wpList_append_msgs G2 I2 rfl _ _ rfl rfl rfl hnb2 hs2 ?_)
  intro a3 m3 c3 w3 rows3 bls3 G3 B23 hm3 _
  have HG3 := hide G3
  have HB3 := hide ((unhide HB2).trans B23)
  clear G2 I2 k2 B23 G3 HB2 hm3
  go_wp2_with fail
  rw [rounds_succ]
  go_wp2_with fail
  go_ret
  exact ⟨_, rfl, ⟨rows3, bls3, unhide HG3⟩, unhide HB3⟩

end Go.Proofs.Ytkmfkaljdngigaa

namespace Go.Proofs.Ytkmfkaljdngigaa
open Go.RowKit

theorem dropMR_out2 {xs : List DMsg} {z : Int} (h : netFault xs = 0) (h2 : (decide (0 ≤ z) && decide (z < (xs.length : Int))) = false) : dropMR xs z = badNet 3 := by
  rw [dropMR, if_pos h, if_neg]
  intro q
  simp at h2
  omega
set_option maxRecDepth 10000 in
set_option maxHeartbeats 2000000 in
theorem lostC (v : Value) (xs : List DMsg) (z : Int) (w : World) (h : (Lay.sl Lay.tMsg).Reads w [v] xs) :
    Calls Try.prog 50 #[v, .int .i64 z] w fun e w' => SentE (dropMR xs z).code (dropMR xs z).msgs w w' e ∧ Below w.heap.size w w' := by
  obtain ⟨ao, cap, rfl⟩ := open_sl h
  have HL := hide (mustBeNetC _ xs w h)
  have H := hide h
  clear h
  go_enter Try.func50, Try.ntmps50
  go_wp2_with fail
  refine (unhide HL).mono ?_
  rintro e W ⟨he, hb⟩
  replace H := hide ((unhide H).later hb)
  have HB := hide hb
  clear hb HL
  by_cases hf : netFault xs = 0
  case neg =>
    rw [wrongE_bad hf] at he
    subst he
    have HF := hide (dropMR_net (z := z) hf)
    have HG := hide hf
    clear hf
    go_wp2_with fail
    exact ⟨rfl, by rw [unhide HF]; exact sentE_bad (unhide HG), unhide HB⟩
  case pos =>
  rw [wrongE_ok hf] at he
  subst he
  have HNF := hide hf
  have hlen := (netFault_zero hf).1
  clear hf
  cases d1 : decide (0 ≤ z)
  case false =>
    have HV := hide (dropMR_out2 (z := z) (unhide HNF) (by rw [d1]; rfl))
    go_wp2_with fail
    refine (mustF 3 _).mono ?_
    rintro e w9 ⟨rfl, h9⟩
    subst w9
    go_wp2_with fail
    exact ⟨rfl, by rw [unhide HV]; exact sentE_bad (by decide), unhide HB⟩
  case true =>
  cases d2 : decide (z < (xs.length : Int))
  case false =>
    have HV := hide (dropMR_out2 (z := z) (unhide HNF) (by rw [d1, d2]; rfl))
    go_wp2_with fail
    refine (mustF 3 _).mono ?_
    rintro e w9 ⟨rfl, h9⟩
    subst w9
    go_wp2_with fail
    exact ⟨rfl, by rw [unhide HV]; exact sentE_bad (by decide), unhide HB⟩
  case true =>
  go_wp2_with fail
  refine (mustT 3 _).mono ?_
  rintro e w9 ⟨rfl, h9⟩
  subst w9
  obtain ⟨k, rfl⟩ : ∃ k : Nat, z = k := ⟨z.toNat, by simp at d1; omega⟩
  have hk : k < xs.length := by simp at d2; omega
  clear d1 d2
  have HV := hide (dropMR_in (unhide HNF) hk)
  obtain ⟨b, off, rfl, hbl⟩ := Lay.sl_addr (unhide H) (by omega)
  have hcap : xs.length ≤ cap := (Lay.Reads.cap (unhide H)).2
  have hkc : k ≤ cap := by omega
  have HLI := hide (unhide H).liesIn
  have HU := hide (lies_take (unhide HLI) k (by omega))
  have HVS : Hid (∀ y ∈ xs.take k ++ xs.drop (k + 1), y.write.vec.length ≤ 10000000) := fun y hy => msgs_vecS (unhide HNF) y (by
    rcases List.mem_append.1 hy with hy | hy
    · exact List.mem_of_mem_take hy
    · exact List.mem_of_mem_drop hy)
  have HWW : Hid (w.heap.size ≤ W.heap.size) := (unhide HB).size
  by_cases hcp : cap = k + 1
  · subst hcp
    have HVV : Hid ((Lay.sl Lay.tMsg).LiesIn W [.slice (some ⟨b, off, none⟩) 0 0] (xs.drop (k + 1)) 0 W.heap.size) := by
      have e0 : xs.drop (k + 1) = [] := List.drop_eq_nil_of_le (by omega)
      show (Lay.sl Lay.tMsg).LiesIn W [.slice (some ⟨b, off, none⟩) 0 0] (xs.drop (k + 1)) 0 W.heap.size
      rw [e0]
      exact lies_none
    go_upto_region 3 with fail
    refine wp_region_noPanic ?_
    refine wp_region_held_drew (S := fun w' => Below W.heap.size W w') (by kernel_rfl) (Below.refl _ _).drew (fun hHeld => ?_)
    generalize W.drew = wD at hHeld ⊢
    refine wpAnyH_take (i := 0) (oi := { dst := some 16, op := Go.Op.move (Go.Operand.tmp 0), type := 38, pos := "l11_net.go:118", after := #[], guard := none }) (v := ?vp0) rfl (by kernel_rfl) (by kernel_rfl) (by kernel_rfl) (fun _ _ _ h => h) (Or.inl ⟨by rfl, ?hp0⟩) hHeld ?rp0
    case hp0 =>
      intro wS hSw
      (try dsimp only at hSw)
      go_simp
      try with_reducible rfl
    case rp0 =>
    simp only [Act.put, List.setIfInBounds_toArray, List.set_cons_zero, List.set_cons_succ]
    refine wpAnyH_take (i := 1) (oi := { dst := some 17, op := Go.Op.move (Go.Operand.tmp 1), type := 2, pos := "l11_net.go:118", after := #[], guard := none }) (v := ?vp1) rfl (by kernel_rfl) (by kernel_rfl) (by kernel_rfl) (fun _ _ _ h => h) (Or.inl ⟨by rfl, ?hp1⟩) hHeld ?rp1
    case hp1 =>
      intro wS hSw
      (try dsimp only at hSw)
      go_simp
      try with_reducible rfl
    case rp1 =>
    simp only [Act.put, List.setIfInBounds_toArray, List.set_cons_zero, List.set_cons_succ]
    refine wpAnyH_take (i := 2) (oi := { dst := some 18, op := Go.Op.slice 38 (Go.Operand.tmp 16) none (some (Go.Operand.tmp 17)) none, type := 38, pos := "l11_net.go:118", after := #[{ on := 0, ground := Go.Ground.data }, { on := 1, ground := Go.Ground.data }], guard := none }) (v := ?vp2) rfl (by kernel_rfl) (by kernel_rfl) (by kernel_rfl) (fun _ _ _ h => h) (Or.inl ⟨by rfl, ?hp2⟩) hHeld ?rp2
    case hp2 =>
      intro wS hSw
      clear hSw
      have q1 : (k : Int) ≤ (k : Int) + 1 := by omega
      (try dsimp only at hSw)
      go_simp
      try with_reducible rfl
    case rp2 =>
    simp only [Act.put, List.setIfInBounds_toArray, List.set_cons_zero, List.set_cons_succ]
    refine wpAnyH_take (i := 3) (oi := { dst := some 19, op := Go.Op.move (Go.Operand.tmp 0), type := 38, pos := "l11_net.go:118", after := #[], guard := none }) (v := ?vp3) rfl (by kernel_rfl) (by kernel_rfl) (by kernel_rfl) (fun _ _ _ h => h) (Or.inl ⟨by rfl, ?hp3⟩) hHeld ?rp3
    case hp3 =>
      intro wS hSw
      (try dsimp only at hSw)
      go_simp
      try with_reducible rfl
    case rp3 =>
    simp only [Act.put, List.setIfInBounds_toArray, List.set_cons_zero, List.set_cons_succ]
    refine wpAnyH_take (i := 4) (oi := { dst := some 20, op := Go.Op.move (Go.Operand.tmp 1), type := 2, pos := "l11_net.go:118", after := #[], guard := none }) (v := ?vp4) rfl (by kernel_rfl) (by kernel_rfl) (by kernel_rfl) (fun _ _ _ h => h) (Or.inl ⟨by rfl, ?hp4⟩) hHeld ?rp4
    case hp4 =>
      intro wS hSw
      (try dsimp only at hSw)
      go_simp
      try with_reducible rfl
    case rp4 =>
    simp only [Act.put, List.setIfInBounds_toArray, List.set_cons_zero, List.set_cons_succ]
    refine wpAnyH_take (i := 5) (oi := { dst := some 21, op := Go.Op.binOp Go.BinOp.add 2 (Go.Operand.tmp 20) (Go.Operand.const (Go.Value.int Go.IntKind.i64 1)) 2, type := 2, pos := "l11_net.go:118", after := #[{ on := 4, ground := Go.Ground.data }], guard := none }) (v := ?vp5) rfl (by kernel_rfl) (by kernel_rfl) (by kernel_rfl) (fun _ _ _ h => h) (Or.inl ⟨by rfl, ?hp5⟩) hHeld ?rp5
    case hp5 =>
      intro wS hSw
      clear hSw
      have q0 : IntKind.i64.wrap ((k : Int) + 1) = (k : Int) + 1 := by rw [IntKind.wrap_i64]; omega
      have q1 : (0 : Int) ≤ (k : Int) + 1 := by omega
      have q2 : (k : Int) + 1 ≤ (xs.length : Int) := by omega
      have q3 : ((k : Int) + 1).toNat = k + 1 := by omega
      have q4 : xs.length - (k + 1) = 0 := by omega
      (try dsimp only at hSw)
      go_simp
      try with_reducible rfl
    case rp5 =>
    simp only [Act.put, List.setIfInBounds_toArray, List.set_cons_zero, List.set_cons_succ]
    refine wpAnyH_take (i := 6) (oi := { dst := some 22, op := Go.Op.slice 38 (Go.Operand.tmp 19) (some (Go.Operand.tmp 21)) none none, type := 38, pos := "l11_net.go:118", after := #[{ on := 3, ground := Go.Ground.data }, { on := 5, ground := Go.Ground.data }], guard := none }) (v := ?vp6) rfl (by kernel_rfl) (by kernel_rfl) (by kernel_rfl) (fun _ _ _ h => h) (Or.inl ⟨by rfl, ?hp6⟩) hHeld ?rp6
    case hp6 =>
      intro wS hSw
      clear hSw
      have q0 : IntKind.i64.wrap ((k : Int) + 1) = (k : Int) + 1 := by rw [IntKind.wrap_i64]; omega
      have q1 : (0 : Int) ≤ (k : Int) + 1 := by omega
      have q2 : (k : Int) + 1 ≤ (xs.length : Int) := by omega
      have q3 : ((k : Int) + 1).toNat = k + 1 := by omega
      have q4 : xs.length - (k + 1) = 0 := by omega
      (try dsimp only at hSw)
      go_simp
      try with_reducible rfl
    case rp6 =>
    simp only [Act.put, List.setIfInBounds_toArray, List.set_cons_zero, List.set_cons_succ]
    refine wpAnyH_ready (rs := [7]) (by kernel_rfl) (by simp) ?_
    refine AllReadyH.cons (o := { dst := some 23, op := Go.Op.buildSlice 104 2 #[(0, Go.Operand.tmp 18), (1, Go.Operand.tmp 22)], type := 104, pos := "l11_net.go:118", after := #[{ on := 2, ground := Go.Ground.data }, { on := 6, ground := Go.Ground.data }], guard := none }) rfl (fun K hK => ?_) AllReadyH.nil
    have b7 : Box 0 #[.slice (some ⟨b, off, none⟩) k (k + 1), .slice (some ⟨b, off, none⟩) 0 0] 38 (wD.alloc (.cells #[.slice (some ⟨b, off, none⟩) k (k + 1), .slice (some ⟨b, off, none⟩) 0 0] 38)) wD.heap.size := newBox (Nat.zero_le _)
    have nb7 : Below wD.heap.size wD (wD.alloc (.cells #[.slice (some ⟨b, off, none⟩) k (k + 1), .slice (some ⟨b, off, none⟩) 0 0] 38)) := (Below.refl _ _).alloc (Nat.le_refl _) _
    have hS7 := hHeld.trans (nb7.mono hHeld.size)
    go_simp
    try go_wp2_with fail
    refine hK.out _ _ hS7 (fun hHeld => ?_)
    clear hK K
    try simp only [Act.put, List.setIfInBounds_toArray, List.set_cons_zero, List.set_cons_succ]
    refine wpAnyH_ready (rs := [8]) (by kernel_rfl) (by simp) ?_
    refine AllReadyH.cons (o := { dst := some 24, op := Go.Op.call { callee := Go.Callee.value (Go.Operand.func 76), args := #[Go.Operand.tmp 23], argTypes := #[104] }, type := 38, pos := "l11_net.go:118", after := #[{ on := 7, ground := Go.Ground.data }], guard := none }) rfl (fun K hK => ?_) AllReadyH.nil
    go_simp
    go_at_call 76
    refine (implConcatM wD.heap.size (.slice (some ⟨b, off, none⟩) k (k + 1)) (.slice (some ⟨b, off, none⟩) 0 0) (xs.take k) (xs.drop (k + 1)) _ (b7.at 0 _ rfl) (b7.at 1 _ rfl) ((unhide HU).later hS7).reads ((unhide HVV).later hS7).reads (by simp; omega) (by simp; omega)).mono ?_
    rintro e w8 ⟨r8, rfl, ⟨rows8, bls8, G8⟩, hb8⟩
    have hS8 := hS7.trans (hb8.mono hS7.size)
    try go_wp2_with fail
    refine hK.out _ _ hS8 (fun hHeld => ?_)
    clear hK K
    try simp only [Act.put, List.setIfInBounds_toArray, List.set_cons_zero, List.set_cons_succ]
    refine wpAnyH_ready (rs := [9]) (by kernel_rfl) (by simp) ?_
    refine AllReadyH.cons (o := { dst := some 25, op := Go.Op.call { callee := Go.Callee.value (Go.Operand.func 70), args := #[Go.Operand.tmp 24], argTypes := #[38] }, type := 38, pos := "l11_net.go:118", after := #[{ on := 8, ground := Go.Ground.data }, { on := 8, ground := Go.Ground.chain }], guard := none }) rfl (fun K hK => ?_) AllReadyH.nil
    go_simp
    go_at_call 70
    refine (copiedMsgsC _ (xs.take k ++ xs.drop (k + 1)) w8 (G8.toReads (by simp; omega)) (by simp; omega) (unhide HVS)).mono ?_
    rintro e w9 ⟨g9, rfl, O9, hb9, -⟩
    generalize xs.take k ++ xs.drop (k + 1) = ms at *
    have hS9 := hS8.trans (hb9.mono hS8.size)
    have HO9 := hide O9
    have HZ9 := hide hS8.size
    clear O9 G8
    try go_wp2_with fail
    refine hK.out _ _ hS9 (fun hHeld => ?_)
    clear hK K
    try simp only [Act.put, List.setIfInBounds_toArray, List.set_cons_zero, List.set_cons_succ]
    refine wpAnyH_take (i := 10) (oi := { dst := some 4, op := Go.Op.assign (Go.Operand.tmp 25), type := 38, pos := "l11_net.go:118", after := #[{ on := 9, ground := Go.Ground.data }, { on := 9, ground := Go.Ground.chain }, { on := 0, ground := Go.Ground.phase }, { on := 1, ground := Go.Ground.phase }, { on := 2, ground := Go.Ground.phase }, { on := 3, ground := Go.Ground.phase }, { on := 4, ground := Go.Ground.phase }, { on := 5, ground := Go.Ground.phase }, { on := 6, ground := Go.Ground.phase }, { on := 7, ground := Go.Ground.phase }, { on := 8, ground := Go.Ground.phase }, { on := 9, ground := Go.Ground.phase }], guard := none }) (v := ?vp10) rfl (by kernel_rfl) (by kernel_rfl) (by kernel_rfl) (fun _ _ _ h => h) (Or.inl ⟨by rfl, ?hp10⟩) hHeld ?rp10
    case hp10 =>
      intro wS hSw
      (try dsimp only at hSw)
      go_simp
      try with_reducible rfl
    case rp10 =>
    simp only [Act.put, List.setIfInBounds_toArray, List.set_cons_zero, List.set_cons_succ]
    refine wpAnyH_done (by kernel_rfl) ?_ _
    refine NoPanic.normal ?_
    replace HB := hide ((unhide HB).trans (hHeld.mono (unhide HB).size))
    clear hHeld hS7 hS8 hS9 hb8 hb9 b7 nb7
    go_wp2_with fail
    go_ret
    refine ⟨?_, unhide HB⟩
    rw [unhide HV]
    exact sentE_ok ((unhide HO9).mono (Nat.le_trans (unhide HWW) (unhide HZ9)) (Nat.le_refl _))
  · have hcl : k + 1 < cap := by omega
    have HVV := hide (lies_drop (unhide HLI) (k + 1) (cap - (k + 1)) (by omega) (by omega))
    go_upto_region 3 with fail
    refine wp_region_noPanic ?_
    refine wp_region_held_drew (S := fun w' => Below W.heap.size W w') (by kernel_rfl) (Below.refl _ _).drew (fun hHeld => ?_)
    generalize W.drew = wD at hHeld ⊢
    refine wpAnyH_take (i := 0) (oi := { dst := some 16, op := Go.Op.move (Go.Operand.tmp 0), type := 38, pos := "l11_net.go:118", after := #[], guard := none }) (v := ?vq0) rfl (by kernel_rfl) (by kernel_rfl) (by kernel_rfl) (fun _ _ _ h => h) (Or.inl ⟨by rfl, ?hq0⟩) hHeld ?rq0
    case hq0 =>
      intro wS hSw
      (try dsimp only at hSw)
      go_simp
      try with_reducible rfl
    case rq0 =>
    simp only [Act.put, List.setIfInBounds_toArray, List.set_cons_zero, List.set_cons_succ]
    refine wpAnyH_take (i := 1) (oi := { dst := some 17, op := Go.Op.move (Go.Operand.tmp 1), type := 2, pos := "l11_net.go:118", after := #[], guard := none }) (v := ?vq1) rfl (by kernel_rfl) (by kernel_rfl) (by kernel_rfl) (fun _ _ _ h => h) (Or.inl ⟨by rfl, ?hq1⟩) hHeld ?rq1
    case hq1 =>
      intro wS hSw
      (try dsimp only at hSw)
      go_simp
      try with_reducible rfl
    case rq1 =>
    simp only [Act.put, List.setIfInBounds_toArray, List.set_cons_zero, List.set_cons_succ]
    refine wpAnyH_take (i := 2) (oi := { dst := some 18, op := Go.Op.slice 38 (Go.Operand.tmp 16) none (some (Go.Operand.tmp 17)) none, type := 38, pos := "l11_net.go:118", after := #[{ on := 0, ground := Go.Ground.data }, { on := 1, ground := Go.Ground.data }], guard := none }) (v := ?vq2) rfl (by kernel_rfl) (by kernel_rfl) (by kernel_rfl) (fun _ _ _ h => h) (Or.inl ⟨by rfl, ?hq2⟩) hHeld ?rq2
    case hq2 =>
      intro wS hSw
      clear hSw
      have q1 : (k : Int) ≤ (cap : Int) := by omega
      (try dsimp only at hSw)
      go_simp
      try with_reducible rfl
    case rq2 =>
    simp only [Act.put, List.setIfInBounds_toArray, List.set_cons_zero, List.set_cons_succ]
    refine wpAnyH_take (i := 3) (oi := { dst := some 19, op := Go.Op.move (Go.Operand.tmp 0), type := 38, pos := "l11_net.go:118", after := #[], guard := none }) (v := ?vq3) rfl (by kernel_rfl) (by kernel_rfl) (by kernel_rfl) (fun _ _ _ h => h) (Or.inl ⟨by rfl, ?hq3⟩) hHeld ?rq3
    case hq3 =>
      intro wS hSw
      (try dsimp only at hSw)
      go_simp
      try with_reducible rfl
    case rq3 =>
    simp only [Act.put, List.setIfInBounds_toArray, List.set_cons_zero, List.set_cons_succ]
    refine wpAnyH_take (i := 4) (oi := { dst := some 20, op := Go.Op.move (Go.Operand.tmp 1), type := 2, pos := "l11_net.go:118", after := #[], guard := none }) (v := ?vq4) rfl (by kernel_rfl) (by kernel_rfl) (by kernel_rfl) (fun _ _ _ h => h) (Or.inl ⟨by rfl, ?hq4⟩) hHeld ?rq4
    case hq4 =>
      intro wS hSw
      (try dsimp only at hSw)
      go_simp
      try with_reducible rfl
    case rq4 =>
    simp only [Act.put, List.setIfInBounds_toArray, List.set_cons_zero, List.set_cons_succ]
    refine wpAnyH_take (i := 5) (oi := { dst := some 21, op := Go.Op.binOp Go.BinOp.add 2 (Go.Operand.tmp 20) (Go.Operand.const (Go.Value.int Go.IntKind.i64 1)) 2, type := 2, pos := "l11_net.go:118", after := #[{ on := 4, ground := Go.Ground.data }], guard := none }) (v := ?vq5) rfl (by kernel_rfl) (by kernel_rfl) (by kernel_rfl) (fun _ _ _ h => h) (Or.inl ⟨by rfl, ?hq5⟩) hHeld ?rq5
    case hq5 =>
      intro wS hSw
      clear hSw
      have q0 : IntKind.i64.wrap ((k : Int) + 1) = (k : Int) + 1 := by rw [IntKind.wrap_i64]; omega
      have q1 : (0 : Int) ≤ (k : Int) + 1 := by omega
      have q2 : (k : Int) + 1 ≤ (xs.length : Int) := by omega
      have q3 : ((k : Int) + 1).toNat = k + 1 := by omega
      (try dsimp only at hSw)
      go_simp
      try with_reducible rfl
    case rq5 =>
    simp only [Act.put, List.setIfInBounds_toArray, List.set_cons_zero, List.set_cons_succ]
    refine wpAnyH_take (i := 6) (oi := { dst := some 22, op := Go.Op.slice 38 (Go.Operand.tmp 19) (some (Go.Operand.tmp 21)) none none, type := 38, pos := "l11_net.go:118", after := #[{ on := 3, ground := Go.Ground.data }, { on := 5, ground := Go.Ground.data }], guard := none }) (v := ?vq6) rfl (by kernel_rfl) (by kernel_rfl) (by kernel_rfl) (fun _ _ _ h => h) (Or.inl ⟨by rfl, ?hq6⟩) hHeld ?rq6
    case hq6 =>
      intro wS hSw
      clear hSw
      have q0 : IntKind.i64.wrap ((k : Int) + 1) = (k : Int) + 1 := by rw [IntKind.wrap_i64]; omega
      have q1 : (0 : Int) ≤ (k : Int) + 1 := by omega
      have q2 : (k : Int) + 1 ≤ (xs.length : Int) := by omega
      have q3 : ((k : Int) + 1).toNat = k + 1 := by omega
      (try dsimp only at hSw)
      go_simp
      try with_reducible rfl
    case rq6 =>
    simp only [Act.put, List.setIfInBounds_toArray, List.set_cons_zero, List.set_cons_succ]
    refine wpAnyH_ready (rs := [7]) (by kernel_rfl) (by simp) ?_
    refine AllReadyH.cons (o := { dst := some 23, op := Go.Op.buildSlice 104 2 #[(0, Go.Operand.tmp 18), (1, Go.Operand.tmp 22)], type := 104, pos := "l11_net.go:118", after := #[{ on := 2, ground := Go.Ground.data }, { on := 6, ground := Go.Ground.data }], guard := none }) rfl (fun K hK => ?_) AllReadyH.nil
    have b7 : Box 0 #[.slice (some ⟨b, off, none⟩) k cap, .slice (some ⟨b, off + (k + 1) * 10, none⟩) (xs.length - (k + 1)) (cap - (k + 1))] 38 (wD.alloc (.cells #[.slice (some ⟨b, off, none⟩) k cap, .slice (some ⟨b, off + (k + 1) * 10, none⟩) (xs.length - (k + 1)) (cap - (k + 1))] 38)) wD.heap.size := newBox (Nat.zero_le _)
    have nb7 : Below wD.heap.size wD (wD.alloc (.cells #[.slice (some ⟨b, off, none⟩) k cap, .slice (some ⟨b, off + (k + 1) * 10, none⟩) (xs.length - (k + 1)) (cap - (k + 1))] 38)) := (Below.refl _ _).alloc (Nat.le_refl _) _
    have hS7 := hHeld.trans (nb7.mono hHeld.size)
    go_simp
    try go_wp2_with fail
    refine hK.out _ _ hS7 (fun hHeld => ?_)
    clear hK K
    try simp only [Act.put, List.setIfInBounds_toArray, List.set_cons_zero, List.set_cons_succ]
    refine wpAnyH_ready (rs := [8]) (by kernel_rfl) (by simp) ?_
    refine AllReadyH.cons (o := { dst := some 24, op := Go.Op.call { callee := Go.Callee.value (Go.Operand.func 76), args := #[Go.Operand.tmp 23], argTypes := #[104] }, type := 38, pos := "l11_net.go:118", after := #[{ on := 7, ground := Go.Ground.data }], guard := none }) rfl (fun K hK => ?_) AllReadyH.nil
    go_simp
    go_at_call 76
    refine (implConcatM wD.heap.size (.slice (some ⟨b, off, none⟩) k cap) (.slice (some ⟨b, off + (k + 1) * 10, none⟩) (xs.length - (k + 1)) (cap - (k + 1))) (xs.take k) (xs.drop (k + 1)) _ (b7.at 0 _ rfl) (b7.at 1 _ rfl) ((unhide HU).later hS7).reads ((unhide HVV).later hS7).reads (by simp; omega) (by simp; omega)).mono ?_
    rintro e w8 ⟨r8, rfl, ⟨rows8, bls8, G8⟩, hb8⟩
    have hS8 := hS7.trans (hb8.mono hS7.size)
    try go_wp2_with fail
    refine hK.out _ _ hS8 (fun hHeld => ?_)
    clear hK K
    try simp only [Act.put, List.setIfInBounds_toArray, List.set_cons_zero, List.set_cons_succ]
    refine wpAnyH_ready (rs := [9]) (by kernel_rfl) (by simp) ?_
    refine AllReadyH.cons (o := { dst := some 25, op := Go.Op.call { callee := Go.Callee.value (Go.Operand.func 70), args := #[Go.Operand.tmp 24], argTypes := #[38] }, type := 38, pos := "l11_net.go:118", after := #[{ on := 8, ground := Go.Ground.data }, { on := 8, ground := Go.Ground.chain }], guard := none }) rfl (fun K hK => ?_) AllReadyH.nil
    go_simp
    go_at_call 70
    refine (copiedMsgsC _ (xs.take k ++ xs.drop (k + 1)) w8 (G8.toReads (by simp; omega)) (by simp; omega) (unhide HVS)).mono ?_
    rintro e w9 ⟨g9, rfl, O9, hb9, -⟩
    generalize xs.take k ++ xs.drop (k + 1) = ms at *
    have hS9 := hS8.trans (hb9.mono hS8.size)
    have HO9 := hide O9
    have HZ9 := hide hS8.size
    clear O9 G8
    try go_wp2_with fail
    refine hK.out _ _ hS9 (fun hHeld => ?_)
    clear hK K
    try simp only [Act.put, List.setIfInBounds_toArray, List.set_cons_zero, List.set_cons_succ]
    refine wpAnyH_take (i := 10) (oi := { dst := some 4, op := Go.Op.assign (Go.Operand.tmp 25), type := 38, pos := "l11_net.go:118", after := #[{ on := 9, ground := Go.Ground.data }, { on := 9, ground := Go.Ground.chain }, { on := 0, ground := Go.Ground.phase }, { on := 1, ground := Go.Ground.phase }, { on := 2, ground := Go.Ground.phase }, { on := 3, ground := Go.Ground.phase }, { on := 4, ground := Go.Ground.phase }, { on := 5, ground := Go.Ground.phase }, { on := 6, ground := Go.Ground.phase }, { on := 7, ground := Go.Ground.phase }, { on := 8, ground := Go.Ground.phase }, { on := 9, ground := Go.Ground.phase }], guard := none }) (v := ?vq10) rfl (by kernel_rfl) (by kernel_rfl) (by kernel_rfl) (fun _ _ _ h => h) (Or.inl ⟨by rfl, ?hq10⟩) hHeld ?rq10
    case hq10 =>
      intro wS hSw
      (try dsimp only at hSw)
      go_simp
      try with_reducible rfl
    case rq10 =>
    simp only [Act.put, List.setIfInBounds_toArray, List.set_cons_zero, List.set_cons_succ]
    refine wpAnyH_done (by kernel_rfl) ?_ _
    refine NoPanic.normal ?_
    replace HB := hide ((unhide HB).trans (hHeld.mono (unhide HB).size))
    clear hHeld hS7 hS8 hS9 hb8 hb9 b7 nb7
    go_wp2_with fail
    go_ret
    refine ⟨?_, unhide HB⟩
    rw [unhide HV]
    exact sentE_ok ((unhide HO9).mono (Nat.le_trans (unhide HWW) (unhide HZ9)) (Nat.le_refl _))
end Go.Proofs.Ytkmfkaljdngigaa

namespace Go.Proofs.Ytkmfkaljdngigaa
open Go.RowKit

theorem drop_bad {xs : List DMsg} {z : Int} (h : (dropMR xs z).code ≠ 0) : dropMR xs z = badNet (dropMR xs z).code := by
  unfold dropMR at h ⊢
  split
  · rename_i q
    rw [if_pos q] at h
    split
    · rename_i q2; rw [if_pos q2] at h; exact absurd rfl h
    · rfl
  · rfl
theorem drop_vals (xs : List DMsg) (z : Int) : 0 ≤ (dropMR xs z).code ∧ (dropMR xs z).code ≤ 6 := by
  have h1 := netFault_vals xs
  unfold dropMR
  split
  · split
    · exact ⟨by show (0 : Int) ≤ 0; omega, by show (0 : Int) ≤ 6; omega⟩
    · decide
  · exact h1
set_option maxRecDepth 10000 in
theorem dropWork (v : Value) (xs : List DMsg) (z : Int) (g g2 : Nat) (w : World) (h : (Lay.sl Lay.tMsg).Reads w [v] xs)  (hx : Box 0 #[v] 38 w g) (hx2 : Box 0 #[.int .i64 z] 2 w g2) :
    Calls Try.prog 49 #[.pointer (some ⟨g, 0, none⟩), .pointer (some ⟨g2, 0, none⟩)] w fun e w' => SentE (dropMR xs z).code (dropMR xs z).msgs w w' e ∧ Below w.heap.size w w' := by
  have HL := hide (lostC v xs z w h)
  obtain ⟨ao, cap, rfl⟩ := open_sl h
  have z0 : w.cell? ⟨g, 0, none⟩ = some (.slice ao xs.length cap) := hx.at 0 _ rfl
  have c0 : w.cell? ⟨g2, 0, none⟩ = some (.int .i64 z) := hx2.at 0 _ rfl
  clear hx h hx2 
  go_enter Try.func49, Try.ntmps49
  go_wp2_with fail
  refine (unhide HL).mono ?_
  rintro e W2 ⟨he, hb⟩
  have HB := hide hb
  have HE := hide he
  clear hb HL z0 he
  by_cases hf : (dropMR xs z).code = 0
  · obtain ⟨v2, rfl, O⟩ := (unhide HE).1 hf
    have HO := hide O
    have HF := hide hf
    clear hf HE O
    go_wp2_with fail
    go_ret
    exact ⟨by rw [unhide HF]; exact sentE_ok (unhide HO), unhide HB⟩
  · obtain rfl := (unhide HE).2 hf
    have HF := hide hf
    clear hf HE
    go_wp2_with fail
    exact ⟨rfl, sentE_bad (unhide HF), unhide HB⟩
set_option maxRecDepth 10000 in
set_option maxHeartbeats 2000000 in
theorem implDropMsg (v : Value) (xs : List DMsg) (z : Int) (w : World) (h : (Lay.sl Lay.tMsg).Reads w [v] xs)  :
    Calls Try.prog 26 #[v, .int .i64 z] w fun e w' => ∃ cs, e = .returned (.agg cs.toArray) ∧ Lay.tNetResult.OwnIn w' cs (dropMR xs z) w.heap.size w'.heap.size ∧ Below w.heap.size w w' := by
  have hmf : ∀ (fn : Fn) (first cap : Array Value) (w : World), (Instr.makeFunc fn first cap).run Try.prog w = .ok (.func fn first cap) w := fun _ _ _ _ => rfl
  obtain ⟨ao, cap, rfl⟩ := open_sl h
  have nb1 : Below w.heap.size w (w.alloc (.cells #[.slice ao xs.length cap] 38)) := (Below.refl _ _).alloc (Nat.le_refl _) _
  have x1 : Box 0 #[.slice ao xs.length cap] 38 (w.alloc (.cells #[.slice ao xs.length cap] 38)) w.heap.size := newBox (Nat.zero_le _)
  have s1 : (w.alloc (.cells #[.slice ao xs.length cap] 38)).heap.size = w.heap.size + 1 := by simp
  have R1 := h.later nb1
  generalize hA1 : w.alloc (.cells #[.slice ao xs.length cap] 38) = A1 at *
  have nb2 : Below A1.heap.size A1 (A1.alloc (.cells #[.int .i64 z] 2)) := (Below.refl _ _).alloc (Nat.le_refl _) _
  have x2 : Box 0 #[.int .i64 z] 2 (A1.alloc (.cells #[.int .i64 z] 2)) A1.heap.size := newBox (Nat.zero_le _)
  have s2 : (A1.alloc (.cells #[.int .i64 z] 2)).heap.size = A1.heap.size + 1 := by simp
  replace x1 := x1.keep nb2
  have R2 := R1.later nb2
  generalize hA2 : A1.alloc (.cells #[.int .i64 z] 2) = A2 at *
  have nb3 : Below A2.heap.size A2 (A2.alloc (.cells #[.int .i64 0, .slice none 0 0] 43)) := (Below.refl _ _).alloc (Nat.le_refl _) _
  have x3 : Box 0 #[.int .i64 0, .slice none 0 0] 43 (A2.alloc (.cells #[.int .i64 0, .slice none 0 0] 43)) A2.heap.size := newBox (Nat.zero_le _)
  have s3 : (A2.alloc (.cells #[.int .i64 0, .slice none 0 0] 43)).heap.size = A2.heap.size + 1 := by simp
  replace x1 := x1.keep nb3
  replace x2 := x2.keep nb3
  have R3 := R2.later nb3
  have B3 : Below w.heap.size w (A2.alloc (.cells #[.int .i64 0, .slice none 0 0] 43)) := (nb1.trans (nb2.mono (by omega))).trans (nb3.mono (by omega))
  have HB := hide B3
  rw [s2, s1] at s3 x3
  rw [s1] at x2
  have HX1 := hide x1
  have HX2 := hide x2
  have HX3 := hide x3
  have HR := hide R3
  subst hA2
  subst hA1
  clear nb1 nb2 nb3 x1 x2 x3 R1 R2 R3 B3 s1 s2 h  
  go_enter Try.func26, Try.ntmps26
  go_upto_region 1 with fail
  generalize ((w.alloc (.cells #[.slice ao xs.length cap] 38)).alloc (.cells #[.int .i64 z] 2)).alloc (.cells #[.int .i64 0, .slice none 0 0] 43) = W1 at *
  have nb : Below W1.heap.size W1 (W1.alloc (.cells #[.int .i64 0] 2)) := (Below.refl _ _).alloc (Nat.le_refl _) _
  have HW := hide (dropWork _ xs z w.heap.size (w.heap.size + 1) _ ((unhide HR).later nb)  ((unhide HX1).keep nb) ((unhide HX2).keep nb))
  have hz : (W1.alloc (.cells #[.int .i64 0] 2)).heap.size = W1.heap.size + 1 := by simp
  have HZ := hide hz
  have HS := hide s3
  clear nb hz s3
  by_cases hf : (dropMR xs z).code = 0
  · have HL := hide (faced_ok_msgs 49 #[.pointer (some ⟨w.heap.size, 0, none⟩), .pointer (some ⟨w.heap.size + 1, 0, none⟩)] W1 (fun v w' => (Lay.sl Lay.tMsg).OwnIn w' [v] (dropMR xs z).msgs (W1.heap.size + 1) w'.heap.size) (fun _ => by rfl) ((unhide HW).mono (by
      rintro e w' ⟨he, hb⟩
      obtain ⟨v2, he2, O⟩ := he.1 hf
      rw [unhide HZ] at hb O
      exact ⟨v2, he2, O, hb⟩)))
    have HF : Hid (dropMR xs z = ⟨0, (dropMR xs z).msgs⟩) := by
      show dropMR xs z = _
      rw [← hf]
    clear hf HW
    go_wp2_with fail
    refine (unhide HL).mono ?_
    rintro e W2 ⟨v, W3, rfl, O, hW, hb, -⟩
    obtain ⟨a9, d9, rfl⟩ := open_sl O.reads
    have hE : Ext (fun q => q = W1.heap.size) W3 W2 := by rw [hW]; exact (Ext.refl (fun q => q = W1.heap.size) _).setCell ⟨W1.heap.size, 0, none⟩ _ rfl
    have hsz : W3.heap.size = W2.heap.size := by rw [hW]; simp
    have hs3 := unhide HS
    have O2 := O.ext hE (fun q h1 h2 h3 => by omega)
    rw [hsz] at O2
    replace HX3 := hide ((unhide HX3).keep hb)
    replace HB := hide ((unhide HB).trans (hb.mono (unhide HB).size))
    clear hE hsz O hW
    generalize (dropMR xs z).msgs = ms at *
    have z0 : W2.cell? ⟨w.heap.size + 1 + 1, 0, none⟩ = some (.int .i64 0) := (unhide HX3).at 0 _ rfl
    have z1 : W2.cell? ⟨w.heap.size + 1 + 1, 1, none⟩ = some (.slice none 0 0) := (unhide HX3).at 1 _ rfl
    have ff := (unhide HX3).soft
    have l0 := (unhide HX3).lt
    have HB2 := hide (below_setAll (unhide HB) (w.heap.size + 1 + 1) 0 [.int .i64 0, .slice a9 ms.length d9] (by omega))
    have HO2 := hide (own_store' (s := w.heap.size + 1 + 1) (vs := [.int .i64 0, .slice a9 ms.length d9]) O2 (by omega))
    have HZ2 : Hid ((setAll W2 (w.heap.size + 1 + 1) 0 [.int .i64 0, .slice a9 ms.length d9]).heap.size = W2.heap.size) := size_setAll _ _ _ _
    have HLE : Hid (w.heap.size ≤ W1.heap.size + 1) := by show w.heap.size ≤ W1.heap.size + 1; omega
    clear hb HL HX1 HX2 HX3 HR HB HZ HS O2 hs3
    go_wp2_with fail
    refine bodyPost_ret (v := .agg #[.int .i64 0, .slice a9 ms.length d9]) (by simp [results, Try.results26, go_sem, z0, z1]) rfl ?_
    rw [unhide HF]
    exact ⟨[_, _], rfl, own_netR (by decide) ((unhide HO2).mono (unhide HLE) (Nat.le_of_eq (unhide HZ2).symm)), unhide HB2⟩
  · have HL := hide (faced_bad_msgs 49 #[.pointer (some ⟨w.heap.size, 0, none⟩), .pointer (some ⟨w.heap.size + 1, 0, none⟩)] (dropMR xs z).code W1 (fun _ => by rfl) ((unhide HW).mono (by
      rintro e w' ⟨he, hb⟩
      rw [unhide HZ] at hb
      exact ⟨he.2 hf, hb⟩)))
    have HF := hide (drop_bad hf)
    have hv := drop_vals xs z
    clear hf HW HZ HS
    go_wp2_with fail
    refine (unhide HL).mono ?_
    rintro e W2 ⟨rfl, hb⟩
    replace HX3 := hide ((unhide HX3).keep hb)
    replace HB := hide ((unhide HB).trans (hb.mono (unhide HB).size))
    generalize (dropMR xs z).code = f at *
    have z0 : W2.cell? ⟨w.heap.size + 1 + 1, 0, none⟩ = some (.int .i64 0) := (unhide HX3).at 0 _ rfl
    have z1 : W2.cell? ⟨w.heap.size + 1 + 1, 1, none⟩ = some (.slice none 0 0) := (unhide HX3).at 1 _ rfl
    have ff := (unhide HX3).soft
    have l0 := (unhide HX3).lt
    have HB2 := hide (below_setAll (unhide HB) (w.heap.size + 1 + 1) 0 [.int .i64 f, .slice none 0 0] (by omega))
    clear hb HL HX1 HX2 HX3 HR HB
    go_wp2_with fail
    refine bodyPost_ret (v := .agg #[.int .i64 f, .slice none 0 0]) (by simp [results, Try.results26, go_sem, z0, z1]) rfl ?_
    rw [unhide HF]
    exact ⟨[_, _], rfl, own_badNet (by omega), unhide HB2⟩
end Go.Proofs.Ytkmfkaljdngigaa

namespace Go.Proofs.Ytkmfkaljdngigaa
open Go.RowKit

theorem msg_vec3 {x : DMsg} (h : msgFault x = 0) : x.write.vec.length ≤ 3 := by
  unfold msgFault at h
  split at h
  · simp at h
  · rename_i h1
    split at h
    · simp at h
    · split at h
      · rename_i h3
        have h4 : noW x.write := Decidable.byContradiction fun q => h1 (Or.inr (Or.inr ⟨h3, q⟩))
        have := h4.2.2.2.2
        omega
      · obtain ⟨-, -, -, hk⟩ := writeFault_zero h
        rcases hk with ⟨-, hv⟩ | ⟨-, hv⟩
        · have := (vecFault_zero hv).1; omega
        · rw [hv]; simp
theorem msgs_few {xs : List DMsg} (h : ∀ x ∈ xs, msgFault x = 0) : cntAll Lay.tMsg.cnt xs ≤ 20 * xs.length := by
  induction xs with
  | nil => simp [cntAll]
  | cons x xs ih =>
    have h1 := ih fun y hy => h y (List.mem_cons_of_mem _ hy)
    have h2 := msg_vec3 (h x (by simp))
    have h3 : Lay.tMsg.cnt x = x.write.vec.length + 9 := by
      have e : cntAll Lay.int.cnt x.write.vec = x.write.vec.length := by
        generalize x.write.vec = l
        induction l with
        | nil => rfl
        | cons y ys ihy => simp only [cntAll, List.length_cons, ihy]; show 1 + ys.length = _; omega
      show 1 + (1 + (1 + (1 + (1 + (1 + (1 + (cntAll Lay.int.cnt x.write.vec + (1 + 1)))))))) = _
      omega
    simp only [cntAll, List.length_cons]
    omega
theorem net_few (y : DNetResult) (h : ∀ x ∈ y.msgs, msgFault x = 0) (hl : y.msgs.length ≤ 1000) : Lay.tNetResult.vcnt y ≤ 100000000 := by
  rw [vcnt_NetResult]
  show cntAll Lay.tMsg.cnt y.msgs ≤ 100000000
  have := msgs_few h
  omega
theorem badNet_few (c : Int) : Lay.tNetResult.vcnt (badNet c) ≤ 100000000 := net_few _ (fun x hx => by cases hx) (by simp [badNet])
theorem sendR_few (xs : List DMsg) (x : DMsg) : Lay.tNetResult.vcnt (sendR xs x) ≤ 100000000 := by
  by_cases h1 : netFault xs = 0
  · obtain ⟨hl, hall⟩ := netFault_zero h1
    by_cases h2 : msgFault x = 0
    · rw [sendR_ok h1 h2]
      unfold sendM
      split
      · exact net_few _ hall (by simp only; omega)
      · split
        · exact badNet_few _
        · refine net_few _ (fun y hy => ?_) (by simp; omega)
          rcases List.mem_append.1 hy with hy | hy
          · exact hall y hy
          · rw [List.mem_singleton.1 hy]; exact h2
    · rw [sendR_msg h1 h2]; exact badNet_few _
  · rw [sendR_net h1]; exact badNet_few _
theorem dropMR_few (xs : List DMsg) (z : Int) : Lay.tNetResult.vcnt (dropMR xs z) ≤ 100000000 := by
  unfold dropMR
  split
  · rename_i h1
    obtain ⟨hl, hall⟩ := netFault_zero h1
    split
    · refine net_few _ (fun y hy => ?_) (by simp; omega)
      rcases List.mem_append.1 hy with hy | hy
      · exact hall y (List.mem_of_mem_take hy)
      · exact hall y (List.mem_of_mem_drop hy)
    · exact badNet_few _
  · exact badNet_few _
end Go.Proofs.Ytkmfkaljdngigaa

namespace Go.Proofs.Ytkmfkaljdngigaa
open Go.RowKit

theorem lawDropMsg (v : Value) (xs : List DMsg) (z : Int) (w : World) (h : (Lay.sl Lay.tMsg).Reads w [v] xs) :
    Calls Try.prog 6 #[v, .int .i64 z] w fun e w' => e = .returned (.bool true) ∧ Below w.heap.size w w' := by
  by_cases hn : (Lay.sl Lay.tMsg).sz xs ≤ 1048576
  · exact lawx_DropMsg v xs z (dropMR xs z) w h hn (fun W a ha => (specDropMsg a xs z W ha).mono (by rintro e w' ⟨cs, h1, h2, h3⟩; exact ⟨cs, h1, h2.reads, h3⟩)) (fun W a ha => implDropMsg a xs z W ha) (dropMR_few xs z)
  · exact lawover_DropMsg v xs z w h (by omega)

end Go.Proofs.Ytkmfkaljdngigaa
