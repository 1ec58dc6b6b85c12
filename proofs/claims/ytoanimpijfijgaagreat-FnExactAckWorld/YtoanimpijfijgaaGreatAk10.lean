/-
  Texts of this proof in one: ImplCopiedM, ImplWC, ImplDone, ImplStepped, FacePlain, SpecWA, SpecWNext, NodeFew, WorldFew, NetFew, DropPlain, LosePlain, SpecInts.
  Their conditions stand in their theorems.
-/
import Derived.Test.YtoanimpijfijgaaGreatChecked
import Derived.Test.YtoanimpijfijgaaGreatAk01
import Derived.Test.YtoanimpijfijgaaGreatAk03
import Derived.Test.YtoanimpijfijgaaGreatAk09
import Derived.WalkKit
import Derived.Deep.CutRange
import Derived.Test.YtoanimpijfijgaaGreatAk00
import Derived.Test.YtoanimpijfijgaaGreatAk05
import Derived.Defers
import Derived.Recover
import Derived.Laws.Pointers
import Derived.Test.YtoanimpijfijgaaGreatAk07
import Derived.Test.YtoanimpijfijgaaGreatAk06
import Derived.Test.YtoanimpijfijgaaGreatAk04
import Derived.BigQuiet
import Derived.Deep.QuietTactic
import Derived.WalkSmall
set_option maxRecDepth 100000
set_option maxHeartbeats 4000000
namespace Go.Proofs.YtoanimpijfijgaaGreat
open Go.RowKit
theorem infoMsgC : (Tryz.prog.info? 89).map (fun i => (i.zero, i.size, decide (i.bytes ≤ 1000))) = some (some (.agg #[.int .i64 0, .int .i64 0, .int .i64 0, .int .i64 0, .int .i64 0, .int .i64 0, .int .i64 0, .slice none 0 0, .int .i64 0, .int .i64 0]), 10, true) := by kernel_rfl
theorem wf_Msg {w : World} {cs : List Value} {x : DMsg} (h : Lay.tMsg.Reads w cs x) : (Lit.int .i64 x.kind).wf = true ∧ (Lit.int .i64 x.epoch).wf = true ∧ (Lit.int .i64 x.src).wf = true ∧ (Lit.int .i64 x.dst).wf = true ∧ (Lit.int .i64 x.index).wf = true ∧ (Lit.int .i64 x.write.kind).wf = true ∧ (Lit.int .i64 x.write.id).wf = true ∧ (Lit.int .i64 x.write.session).wf = true ∧ (Lit.int .i64 x.write.seq).wf = true := by
 obtain ⟨bl, h⟩ := h
 obtain ⟨a7, d7, b7, -, -, w0, w1, w2, w3, w4, w5, w6, -, w8, w9⟩ := lies_Msg.1 h
 exact ⟨w0, w1, w2, w3, w4, w5, w6, w8, w9⟩
theorem own_msgC {w : World} {x : DMsg} {v : Value} {lo hi : Nat} (h : (Lay.sl Lay.int).OwnIn w [v] x.write.vec lo hi) (hw : (Lit.int .i64 x.kind).wf = true ∧ (Lit.int .i64 x.epoch).wf = true ∧ (Lit.int .i64 x.src).wf = true ∧ (Lit.int .i64 x.dst).wf = true ∧ (Lit.int .i64 x.index).wf = true ∧ (Lit.int .i64 x.write.kind).wf = true ∧ (Lit.int .i64 x.write.id).wf = true ∧ (Lit.int .i64 x.write.session).wf = true ∧ (Lit.int .i64 x.write.seq).wf = true) : Lay.tMsg.OwnIn w [.int .i64 x.kind, .int .i64 x.epoch, .int .i64 x.src, .int .i64 x.dst, .int .i64 x.index, .int .i64 x.write.kind, .int .i64 x.write.id, v, .int .i64 x.write.session, .int .i64 x.write.seq] x lo hi := by
 obtain ⟨bl, O, i⟩ := h
 obtain ⟨w0, w1, w2, w3, w4, w5, w6, w8, w9⟩ := hw
 exact ⟨bl, mkOwn_Msg (mkOwn_Write O w5 w6 w8 w9 O.2.1) w0 w1 w2 w3 w4 O.2.1, i⟩
theorem vecM {w : World} {x : DMsg} {a : Option Addr} {d : Nat} (h : Lay.tMsg.Reads w [.int .i64 x.kind, .int .i64 x.epoch, .int .i64 x.src, .int .i64 x.dst, .int .i64 x.index, .int .i64 x.write.kind, .int .i64 x.write.id, .slice a x.write.vec.length d, .int .i64 x.write.session, .int .i64 x.write.seq] x) : (Lay.sl Lay.int).Reads w [.slice a x.write.vec.length d] x.write.vec := by
 obtain ⟨bl, h⟩ := h
 obtain ⟨a7, d7, b7, e, -, -, -, -, -, -, -, -, l, -⟩ := lies_Msg.1 h
 simp only [List.cons.injEq, Value.slice.injEq, and_true, true_and] at e
 obtain ⟨rfl, rfl⟩ := e
 exact ⟨b7, l⟩
theorem copiedMsgC (cs : List Value) (x : DMsg) (w : World) (h : Lay.tMsg.Reads w cs x) (hn : x.write.vec.length ≤ 10000000) :
  Calls Tryz.prog 301 #[.agg cs.toArray] w fun e w' => ∃ a3 c3, e = .returned (.agg #[.int .i64 x.kind, .int .i64 x.epoch, .int .i64 x.src, .int .i64 x.dst, .int .i64 x.index, .int .i64 x.write.kind, .int .i64 x.write.id, .slice a3 x.write.vec.length c3, .int .i64 x.write.session, .int .i64 x.write.seq]) ∧ Lay.tMsg.OwnIn w' [.int .i64 x.kind, .int .i64 x.epoch, .int .i64 x.src, .int .i64 x.dst, .int .i64 x.index, .int .i64 x.write.kind, .int .i64 x.write.id, .slice a3 x.write.vec.length c3, .int .i64 x.write.session, .int .i64 x.write.seq] x (w.heap.size + 2) w'.heap.size ∧ Below w.heap.size w w' := by
 have HV := yh (wf_Msg h)
 obtain ⟨a, d, rfl, -⟩ := open_Msg h
 have HR0 := yh (vecM h)
 clear h
 have nb1 : Below w.heap.size w (w.alloc (.cells #[.int .i64 x.kind, .int .i64 x.epoch, .int .i64 x.src, .int .i64 x.dst, .int .i64 x.index, .int .i64 x.write.kind, .int .i64 x.write.id, .slice a x.write.vec.length d, .int .i64 x.write.session, .int .i64 x.write.seq] 89)) := (Below.refl _ _).alloc (Nat.le_refl _) _
 have x1 : Box 0 #[.int .i64 x.kind, .int .i64 x.epoch, .int .i64 x.src, .int .i64 x.dst, .int .i64 x.index, .int .i64 x.write.kind, .int .i64 x.write.id, .slice a x.write.vec.length d, .int .i64 x.write.session, .int .i64 x.write.seq] 89 (w.alloc (.cells #[.int .i64 x.kind, .int .i64 x.epoch, .int .i64 x.src, .int .i64 x.dst, .int .i64 x.index, .int .i64 x.write.kind, .int .i64 x.write.id, .slice a x.write.vec.length d, .int .i64 x.write.session, .int .i64 x.write.seq] 89)) w.heap.size := newBox (Nat.zero_le _)
 have s1 : (w.alloc (.cells #[.int .i64 x.kind, .int .i64 x.epoch, .int .i64 x.src, .int .i64 x.dst, .int .i64 x.index, .int .i64 x.write.kind, .int .i64 x.write.id, .slice a x.write.vec.length d, .int .i64 x.write.session, .int .i64 x.write.seq] 89)).heap.size = w.heap.size + 1 := by simp
 have r1 := (uh HR0).later nb1
 generalize hA1 : w.alloc (.cells #[.int .i64 x.kind, .int .i64 x.epoch, .int .i64 x.src, .int .i64 x.dst, .int .i64 x.index, .int .i64 x.write.kind, .int .i64 x.write.id, .slice a x.write.vec.length d, .int .i64 x.write.session, .int .i64 x.write.seq] 89) = A1 at *
 have nb2 : Below A1.heap.size A1 (A1.alloc (.cells #[.int .i64 0, .int .i64 0, .int .i64 0, .int .i64 0, .int .i64 0, .int .i64 0, .int .i64 0, .slice none 0 0, .int .i64 0, .int .i64 0] 89)) := (Below.refl _ _).alloc (Nat.le_refl _) _
 have x2 : Box 0 #[.int .i64 0, .int .i64 0, .int .i64 0, .int .i64 0, .int .i64 0, .int .i64 0, .int .i64 0, .slice none 0 0, .int .i64 0, .int .i64 0] 89 (A1.alloc (.cells #[.int .i64 0, .int .i64 0, .int .i64 0, .int .i64 0, .int .i64 0, .int .i64 0, .int .i64 0, .slice none 0 0, .int .i64 0, .int .i64 0] 89)) A1.heap.size := newBox (Nat.zero_le _)
 have s2 : (A1.alloc (.cells #[.int .i64 0, .int .i64 0, .int .i64 0, .int .i64 0, .int .i64 0, .int .i64 0, .int .i64 0, .slice none 0 0, .int .i64 0, .int .i64 0] 89)).heap.size = A1.heap.size + 1 := by simp
 replace x1 := x1.keep nb2
 have r2 := r1.later nb2
 have B2 : Below w.heap.size w (A1.alloc (.cells #[.int .i64 0, .int .i64 0, .int .i64 0, .int .i64 0, .int .i64 0, .int .i64 0, .int .i64 0, .slice none 0 0, .int .i64 0, .int .i64 0] 89)) := nb1.trans (nb2.mono (by omega))
 rw [s1] at x2 s2
 have HB := yh B2
 have HX1 := yh x1
 have HX2 := yh x2
 have HR := yh r2
 have HS := yh s2
 subst hA1
 clear nb1 nb2 x1 x2 r1 r2 B2 s1 s2 HR0
 go_enter Tryz.func301, Tryz.ntmps301
 go_upto_region 1 with fail
 generalize (w.alloc (.cells #[.int .i64 x.kind, .int .i64 x.epoch, .int .i64 x.src, .int .i64 x.dst, .int .i64 x.index, .int .i64 x.write.kind, .int .i64 x.write.id, .slice a x.write.vec.length d, .int .i64 x.write.session, .int .i64 x.write.seq] 89)).alloc (.cells #[.int .i64 0, .int .i64 0, .int .i64 0, .int .i64 0, .int .i64 0, .int .i64 0, .int .i64 0, .slice none 0 0, .int .i64 0, .int .i64 0] 89) = W1 at *
 have HL := yh (cloneC _ x.write.vec W1 (uh HR) hn)
 have y7 : W1.cell? ⟨w.heap.size, 7, none⟩ = some (.slice a x.write.vec.length d) := (uh HX1).at 7 _ rfl
 go_wp2_with fail
 refine (uh HL).mono ?_
 rintro e W2 ⟨a3, n3, c3, rfl, ⟨O, hn3⟩, hb⟩
 subst hn3
 have hx1 := (uh HX1).keep hb
 have hx2 := (uh HX2).keep hb
 have hB2 := (uh HB).trans (hb.mono (uh HB).size)
 have hs2 := uh HS
 have hz2 := hb.size
 clear HX1 HX2 HB HR HS HL y7 hb
 have y0 : W2.cell? ⟨w.heap.size, 0, none⟩ = some (.int .i64 x.kind) := (hx1).at 0 _ rfl
 have y1 : W2.cell? ⟨w.heap.size, 1, none⟩ = some (.int .i64 x.epoch) := (hx1).at 1 _ rfl
 have y2 : W2.cell? ⟨w.heap.size, 2, none⟩ = some (.int .i64 x.src) := (hx1).at 2 _ rfl
 have y3 : W2.cell? ⟨w.heap.size, 3, none⟩ = some (.int .i64 x.dst) := (hx1).at 3 _ rfl
 have y4 : W2.cell? ⟨w.heap.size, 4, none⟩ = some (.int .i64 x.index) := (hx1).at 4 _ rfl
 have y5 : W2.cell? ⟨w.heap.size, 5, none⟩ = some (.int .i64 x.write.kind) := (hx1).at 5 _ rfl
 have y6 : W2.cell? ⟨w.heap.size, 6, none⟩ = some (.int .i64 x.write.id) := (hx1).at 6 _ rfl
 have y7 : W2.cell? ⟨w.heap.size, 7, none⟩ = some (.slice a x.write.vec.length d) := (hx1).at 7 _ rfl
 have y8 : W2.cell? ⟨w.heap.size, 8, none⟩ = some (.int .i64 x.write.session) := (hx1).at 8 _ rfl
 have y9 : W2.cell? ⟨w.heap.size, 9, none⟩ = some (.int .i64 x.write.seq) := (hx1).at 9 _ rfl
 have yf := hx1.soft
 have yl := hx1.lt
 have v0 : W2.cell? ⟨w.heap.size + 1, 0, none⟩ = some (.int .i64 0) := (hx2).at 0 _ rfl
 have v1 : W2.cell? ⟨w.heap.size + 1, 1, none⟩ = some (.int .i64 0) := (hx2).at 1 _ rfl
 have v2 : W2.cell? ⟨w.heap.size + 1, 2, none⟩ = some (.int .i64 0) := (hx2).at 2 _ rfl
 have v3 : W2.cell? ⟨w.heap.size + 1, 3, none⟩ = some (.int .i64 0) := (hx2).at 3 _ rfl
 have v4 : W2.cell? ⟨w.heap.size + 1, 4, none⟩ = some (.int .i64 0) := (hx2).at 4 _ rfl
 have v5 : W2.cell? ⟨w.heap.size + 1, 5, none⟩ = some (.int .i64 0) := (hx2).at 5 _ rfl
 have v6 : W2.cell? ⟨w.heap.size + 1, 6, none⟩ = some (.int .i64 0) := (hx2).at 6 _ rfl
 have v7 : W2.cell? ⟨w.heap.size + 1, 7, none⟩ = some (.slice none 0 0) := (hx2).at 7 _ rfl
 have v8 : W2.cell? ⟨w.heap.size + 1, 8, none⟩ = some (.int .i64 0) := (hx2).at 8 _ rfl
 have v9 : W2.cell? ⟨w.heap.size + 1, 9, none⟩ = some (.int .i64 0) := (hx2).at 9 _ rfl
 have vf := hx2.soft
 have vl := hx2.lt
 have E1 : Ext (fun q => q = w.heap.size) W2 (W2.setCell ⟨w.heap.size, 7, none⟩ (.slice a3 x.write.vec.length c3)) := (Ext.refl (fun q => q = w.heap.size) _).setCell ⟨w.heap.size, 7, none⟩ _ rfl
 have B3 : Below w.heap.size w (W2.setCell ⟨w.heap.size, 7, none⟩ (.slice a3 x.write.vec.length c3)) := hB2.setCell (by simp) _
 have O3 := O.ext E1 (fun q h1 h2 h3 => by omega)
 have O4 := own_store' (s := w.heap.size + 1) (vs := [.int .i64 x.kind, .int .i64 x.epoch, .int .i64 x.src, .int .i64 x.dst, .int .i64 x.index, .int .i64 x.write.kind, .int .i64 x.write.id, .slice a3 x.write.vec.length c3, .int .i64 x.write.session, .int .i64 x.write.seq]) O3 (by omega)
 have HO := yh (own_msgC O4 (uh HV))
 have HB4 := yh (below_setAll B3 (w.heap.size + 1) 0 [.int .i64 x.kind, .int .i64 x.epoch, .int .i64 x.src, .int .i64 x.dst, .int .i64 x.index, .int .i64 x.write.kind, .int .i64 x.write.id, .slice a3 x.write.vec.length c3, .int .i64 x.write.session, .int .i64 x.write.seq] (by omega))
 have HZ : Hid ((setAll (W2.setCell ⟨w.heap.size, 7, none⟩ (.slice a3 x.write.vec.length c3)) (w.heap.size + 1) 0 [.int .i64 x.kind, .int .i64 x.epoch, .int .i64 x.src, .int .i64 x.dst, .int .i64 x.index, .int .i64 x.write.kind, .int .i64 x.write.id, .slice a3 x.write.vec.length c3, .int .i64 x.write.session, .int .i64 x.write.seq]).heap.size = W2.heap.size) := by
  refine (size_setAll _ _ _ _).trans ?_
  simp
 have hq : W1.heap.size = w.heap.size + 2 := by omega
 have HQ := yh hq
 clear O O3 O4 E1 B3 hB2 HV hq hx1 hx2 hs2
 go_wp2_with fail
 refine bodyPost_ret (v := .agg #[.int .i64 x.kind, .int .i64 x.epoch, .int .i64 x.src, .int .i64 x.dst, .int .i64 x.index, .int .i64 x.write.kind, .int .i64 x.write.id, .slice a3 x.write.vec.length c3, .int .i64 x.write.session, .int .i64 x.write.seq]) (by simp [results, Tryz.results301, go_sem, v0, v1, v2, v3, v4, v5, v6, v7, v8, v9]) rfl ?_
 refine ⟨a3, c3, rfl, ?_, uh HB4⟩
 have h9 := uh HO
 rw [uh HQ] at h9
 exact h9.mono (Nat.le_refl _) (Nat.le_of_eq (uh HZ).symm)
def CopyKit (w w' : World) (g : Nat) (xs : List DMsg) : Prop := g = w.heap.size ∧ ∃ (rows : List (List Value)) (hi : Nat), w'.ownsRow w.heap.size 89 10 (.slice (some ⟨g, 0, none⟩) xs.length xs.length) xs.length rows.flatten ∧ Lay.Subs Lay.tMsg w' rows xs (w.heap.size + 1) hi ∧ hi ≤ w'.heap.size ∧ w.heap.size < hi
theorem copiedMsgsC (v : Value) (xs : List DMsg) (w : World) (h : (Lay.sl Lay.tMsg).Reads w [v] xs) (hlen : xs.length ≤ 1000000) (hv : ∀ x ∈ xs, x.write.vec.length ≤ 10000000) :
  Calls Tryz.prog 272 #[v] w fun e w' => ∃ (g : Nat), e = .returned (.slice (some ⟨g, 0, none⟩) xs.length xs.length) ∧ (Lay.sl Lay.tMsg).OwnIn w' [.slice (some ⟨g, 0, none⟩) xs.length xs.length] xs w.heap.size w'.heap.size ∧ Below w.heap.size w w' ∧ CopyKit w w' g xs := by
 have hbig := h.big
 obtain ⟨ao, cap, rfl⟩ := open_sl h
 obtain ⟨i0, hi, hz0, hz1, hz2⟩ : ∃ i, Tryz.prog.info? 89 = some i ∧ i.zero = some (.agg #[.int .i64 0, .int .i64 0, .int .i64 0, .int .i64 0, .int .i64 0, .int .i64 0, .int .i64 0, .slice none 0 0, .int .i64 0, .int .i64 0]) ∧ i.size = 10 ∧ i.bytes ≤ 1000 := by
  have := infoMsgC
  cases hq : Tryz.prog.info? 89 with
  | none => rw [hq] at this; simp at this
  | some i =>
   rw [hq] at this
   simp only [Option.map_some, Option.some.injEq, Prod.mk.injEq, decide_eq_true_eq] at this
   exact ⟨i, rfl, this.1, this.2.1, this.2.2⟩
 have H := yh h
 have HN := yh hv
 clear h hv
 go_enter Tryz.func272, Tryz.ntmps272
 go_wp2_with (at_make; refine wpList_make_full _ rfl _ _ 33 rfl w.heap.size 89 i0 _ 10 Tryz.underlying33 hi hz0 hz1 _ _ _ _ xs.length rfl rfl rfl rfl ?c1 ?c2 ?c3 ?_)
 case c1 => have := Nat.mul_le_mul hz2 hlen; omega
 case c2 => unfold maxLen; omega
 case c3 => exact Nat.le_refl _
 intro w1 hown1 hgrow1
 have hB1 : Below w.heap.size w w1 := (Below.refl _ _).grown hgrow1 (Nat.le_refl _) (by simp)
 clear hgrow1 hi hz0 hz1 hz2
 have HO1 := yh hown1
 have HB1 := yh hB1
 clear hown1 hB1
 go_wp2_with fail
 go_loopw [11] (fun i wr => ∃ (k : Nat) (rows : List (List Value)) (Q : List Value) (hi : Nat), k ≤ xs.length ∧ i = .int .i64 k ∧ wr.ownsRow w.heap.size 89 10 (.slice (some ⟨w.heap.size, 0, none⟩) xs.length xs.length) xs.length (rows.flatten ++ Q) ∧ Q.length = (xs.length - k) * 10 ∧ Lay.Subs Lay.tMsg wr rows (xs.take k) (w.heap.size + 1) hi ∧ hi ≤ wr.heap.size ∧ w.heap.size < hi ∧ Below w.heap.size w wr) (fun i _ => xs.length - (intOf i).toNat)
 case atStart =>
  have hl := ((uh HO1).lt w.heap.size rfl).2
  exact ⟨0, [], _, w1.heap.size, Nat.zero_le _, rfl, by simpa using uh HO1, by have := (uh HO1).1; simpa using this, Lay.subs_nil, Nat.le_refl _, hl, uh HB1⟩
 case round =>
  obtain ⟨k, rows, Q, hi, hk, rfl, hown, hQ, hsub, hhi, hlo, hB⟩ := hrel
  clear HO1 HB1
  by_cases hlt : k < xs.length
  ·
   obtain ⟨b, off, rfl, hbl⟩ := Lay.sl_addr (uh H) (by omega)
   obtain ⟨row, hc, hr⟩ := Lay.row_at (uh H) hlt
   replace hr := hr.later hB
   have hr2 := hr
   obtain ⟨a, d, rfl, -⟩ := open_Msg hr2
   have c0 : wr.cell? ⟨b, off + k * 10, none⟩ = some (.int .i64 (xs[k]).kind) := (hB.cell (p := ⟨b, off + k * 10, none⟩) hbl).trans (hc 0 (by decide))
   have c1 : wr.cell? ⟨b, off + k * 10 + 1, none⟩ = some (.int .i64 (xs[k]).epoch) := (hB.cell (p := ⟨b, off + k * 10 + 1, none⟩) hbl).trans (hc 1 (by decide))
   have c2 : wr.cell? ⟨b, off + k * 10 + 2, none⟩ = some (.int .i64 (xs[k]).src) := (hB.cell (p := ⟨b, off + k * 10 + 2, none⟩) hbl).trans (hc 2 (by decide))
   have c3 : wr.cell? ⟨b, off + k * 10 + 3, none⟩ = some (.int .i64 (xs[k]).dst) := (hB.cell (p := ⟨b, off + k * 10 + 3, none⟩) hbl).trans (hc 3 (by decide))
   have c4 : wr.cell? ⟨b, off + k * 10 + 4, none⟩ = some (.int .i64 (xs[k]).index) := (hB.cell (p := ⟨b, off + k * 10 + 4, none⟩) hbl).trans (hc 4 (by decide))
   have c5 : wr.cell? ⟨b, off + k * 10 + 5, none⟩ = some (.int .i64 (xs[k]).write.kind) := (hB.cell (p := ⟨b, off + k * 10 + 5, none⟩) hbl).trans (hc 5 (by decide))
   have c6 : wr.cell? ⟨b, off + k * 10 + 6, none⟩ = some (.int .i64 (xs[k]).write.id) := (hB.cell (p := ⟨b, off + k * 10 + 6, none⟩) hbl).trans (hc 6 (by decide))
   have c7 : wr.cell? ⟨b, off + k * 10 + 7, none⟩ = some (.slice a (xs[k]).write.vec.length d) := (hB.cell (p := ⟨b, off + k * 10 + 7, none⟩) hbl).trans (hc 7 (by decide))
   have c8 : wr.cell? ⟨b, off + k * 10 + 8, none⟩ = some (.int .i64 (xs[k]).write.session) := (hB.cell (p := ⟨b, off + k * 10 + 8, none⟩) hbl).trans (hc 8 (by decide))
   have c9 : wr.cell? ⟨b, off + k * 10 + 9, none⟩ = some (.int .i64 (xs[k]).write.seq) := (hB.cell (p := ⟨b, off + k * 10 + 9, none⟩) hbl).trans (hc 9 (by decide))
   have hrl : rows.flatten.length = k * 10 := by have := (Lay.subs_len hsub).1; rw [List.length_take, Nat.min_eq_left hk] at this; exact this
   have hvl := uh HN xs[k] (List.getElem_mem hlt)
   have HT : Hid (xs.take (k + 1) = xs.take k ++ [xs[k]]) := List.take_succ_eq_append_getElem hlt
   have HB := yh hB
   have HO := yh hown
   have HS := yh hsub
   have HQ := yh hQ
   have HRM := yh hr
   clear hB hr hc hown hsub hQ hr2
   generalize hxk : xs[k] = x at *
   clear hxk
   have hbr : b < wr.heap.size := Nat.lt_of_lt_of_le hbl (uh HB).size
   have nb : Below wr.heap.size wr (wr.alloc (.cells #[.int .i64 x.kind, .int .i64 x.epoch, .int .i64 x.src, .int .i64 x.dst, .int .i64 x.index, .int .i64 x.write.kind, .int .i64 x.write.id, .slice a x.write.vec.length d, .int .i64 x.write.session, .int .i64 x.write.seq] 89)) := (Below.refl _ _).alloc (Nat.le_refl _) _
   have hz0 : (wr.alloc (.cells #[.int .i64 x.kind, .int .i64 x.epoch, .int .i64 x.src, .int .i64 x.dst, .int .i64 x.index, .int .i64 x.write.kind, .int .i64 x.write.id, .slice a x.write.vec.length d, .int .i64 x.write.session, .int .i64 x.write.seq] 89)).heap.size = wr.heap.size + 1 := by simp
   have HL := yh (copiedMsgC _ x _ ((uh HRM).later nb) hvl)
   have HNB := yh nb
   have HZ0 := yh hz0
   clear nb hz0 HRM
   go_wp2_with fail
   clear c0 c1 c2 c3 c4 c5 c6 c7 c8 c9
   refine (uh HL).mono ?_
   generalize hW0 : wr.alloc (.cells #[.int .i64 x.kind, .int .i64 x.epoch, .int .i64 x.src, .int .i64 x.dst, .int .i64 x.index, .int .i64 x.write.kind, .int .i64 x.write.id, .slice a x.write.vec.length d, .int .i64 x.write.session, .int .i64 x.write.seq] 89) = W0 at *
   clear hW0
   rintro e w2 ⟨a3, c3, rfl, O, hb⟩
   have hz0 := uh HZ0
   have hz2 : W0.heap.size ≤ w2.heap.size := hb.size
   have hb3 : Below wr.heap.size wr w2 := (uh HNB).trans (hb.mono (uh HNB).size)
   have o2 := own_below (uh HO) hb3
   replace HS := yh (Lay.subs_snoc (Lay.subs_ext (uh HS) (ext_of_below hb3 nowhere) (fun _ _ _ h => h)) O (by omega) (by omega) (by omega))
   have hb2 := (uh HB).trans (hb3.mono (uh HB).size)
   have hxw : w.heap.size < wr.heap.size := by omega
   clear hb HB HO O HNB HL hb3 HZ0
   have hQ := uh HQ
   have hl5 : (rows.flatten ++ Q).length = xs.length * 10 := o2.1
   obtain ⟨u0, g0⟩ : ∃ u, w2.cell? ⟨w.heap.size, k * 10, none⟩ = some u := by
    rw [o2.cellAt (k * 10) (by omega)]
    exact ⟨_, List.getElem?_eq_getElem (by omega)⟩
   have t0 := o2.frozenAt (k * 10)
   obtain ⟨u1, g1⟩ : ∃ u, w2.cell? ⟨w.heap.size, k * 10 + 1, none⟩ = some u := by
    rw [o2.cellAt (k * 10 + 1) (by omega)]
    exact ⟨_, List.getElem?_eq_getElem (by omega)⟩
   have t1 := o2.frozenAt (k * 10 + 1)
   obtain ⟨u2, g2⟩ : ∃ u, w2.cell? ⟨w.heap.size, k * 10 + 2, none⟩ = some u := by
    rw [o2.cellAt (k * 10 + 2) (by omega)]
    exact ⟨_, List.getElem?_eq_getElem (by omega)⟩
   have t2 := o2.frozenAt (k * 10 + 2)
   obtain ⟨u3, g3⟩ : ∃ u, w2.cell? ⟨w.heap.size, k * 10 + 3, none⟩ = some u := by
    rw [o2.cellAt (k * 10 + 3) (by omega)]
    exact ⟨_, List.getElem?_eq_getElem (by omega)⟩
   have t3 := o2.frozenAt (k * 10 + 3)
   obtain ⟨u4, g4⟩ : ∃ u, w2.cell? ⟨w.heap.size, k * 10 + 4, none⟩ = some u := by
    rw [o2.cellAt (k * 10 + 4) (by omega)]
    exact ⟨_, List.getElem?_eq_getElem (by omega)⟩
   have t4 := o2.frozenAt (k * 10 + 4)
   obtain ⟨u5, g5⟩ : ∃ u, w2.cell? ⟨w.heap.size, k * 10 + 5, none⟩ = some u := by
    rw [o2.cellAt (k * 10 + 5) (by omega)]
    exact ⟨_, List.getElem?_eq_getElem (by omega)⟩
   have t5 := o2.frozenAt (k * 10 + 5)
   obtain ⟨u6, g6⟩ : ∃ u, w2.cell? ⟨w.heap.size, k * 10 + 6, none⟩ = some u := by
    rw [o2.cellAt (k * 10 + 6) (by omega)]
    exact ⟨_, List.getElem?_eq_getElem (by omega)⟩
   have t6 := o2.frozenAt (k * 10 + 6)
   obtain ⟨u7, g7⟩ : ∃ u, w2.cell? ⟨w.heap.size, k * 10 + 7, none⟩ = some u := by
    rw [o2.cellAt (k * 10 + 7) (by omega)]
    exact ⟨_, List.getElem?_eq_getElem (by omega)⟩
   have t7 := o2.frozenAt (k * 10 + 7)
   obtain ⟨u8, g8⟩ : ∃ u, w2.cell? ⟨w.heap.size, k * 10 + 8, none⟩ = some u := by
    rw [o2.cellAt (k * 10 + 8) (by omega)]
    exact ⟨_, List.getElem?_eq_getElem (by omega)⟩
   have t8 := o2.frozenAt (k * 10 + 8)
   obtain ⟨u9, g9⟩ : ∃ u, w2.cell? ⟨w.heap.size, k * 10 + 9, none⟩ = some u := by
    rw [o2.cellAt (k * 10 + 9) (by omega)]
    exact ⟨_, List.getElem?_eq_getElem (by omega)⟩
   have t9 := o2.frozenAt (k * 10 + 9)
   have o3 := own_setAll o2 (k * 10) [.int .i64 x.kind, .int .i64 x.epoch, .int .i64 x.src, .int .i64 x.dst, .int .i64 x.index, .int .i64 x.write.kind, .int .i64 x.write.id, .slice a3 x.write.vec.length c3, .int .i64 x.write.session, .int .i64 x.write.seq]
   rw [show k * 10 = rows.flatten.length from hrl.symm, setFrom_app _ _ _ (by rw [hQ]; simp; have : 1 * 10 ≤ (xs.length - k) * 10 := Nat.mul_le_mul_right _ (by omega); omega), hrl] at o3
   have E : Ext (fun q => q = w.heap.size) w2 (setAll w2 w.heap.size (k * 10) [.int .i64 x.kind, .int .i64 x.epoch, .int .i64 x.src, .int .i64 x.dst, .int .i64 x.index, .int .i64 x.write.kind, .int .i64 x.write.id, .slice a3 x.write.vec.length c3, .int .i64 x.write.session, .int .i64 x.write.seq]) := ext_setAll _ (Ext.refl _ _) _ _ _ rfl
   replace HS := yh (Lay.subs_ext (uh HS) E (fun q h1 h2 h3 => by omega))
   have HB := yh (below_setAll hb2 w.heap.size (k * 10) [.int .i64 x.kind, .int .i64 x.epoch, .int .i64 x.src, .int .i64 x.dst, .int .i64 x.index, .int .i64 x.write.kind, .int .i64 x.write.id, .slice a3 x.write.vec.length c3, .int .i64 x.write.session, .int .i64 x.write.seq] (Nat.le_refl _))
   have HZ : Hid ((setAll w2 w.heap.size (k * 10) [.int .i64 x.kind, .int .i64 x.epoch, .int .i64 x.src, .int .i64 x.dst, .int .i64 x.index, .int .i64 x.write.kind, .int .i64 x.write.id, .slice a3 x.write.vec.length c3, .int .i64 x.write.session, .int .i64 x.write.seq]).heap.size = w2.heap.size) := size_setAll _ _ _ _
   have HO : Hid ((setAll w2 w.heap.size (k * 10) [.int .i64 x.kind, .int .i64 x.epoch, .int .i64 x.src, .int .i64 x.dst, .int .i64 x.index, .int .i64 x.write.kind, .int .i64 x.write.id, .slice a3 x.write.vec.length c3, .int .i64 x.write.session, .int .i64 x.write.seq]).ownsRow w.heap.size 89 10 (.slice (some ⟨w.heap.size, 0, none⟩) xs.length xs.length) xs.length ((rows ++ [([.int .i64 x.kind, .int .i64 x.epoch, .int .i64 x.src, .int .i64 x.dst, .int .i64 x.index, .int .i64 x.write.kind, .int .i64 x.write.id, .slice a3 x.write.vec.length c3, .int .i64 x.write.session, .int .i64 x.write.seq] : List Value)]).flatten ++ Q.drop 10)) := by
    show (setAll w2 w.heap.size (k * 10) [.int .i64 x.kind, .int .i64 x.epoch, .int .i64 x.src, .int .i64 x.dst, .int .i64 x.index, .int .i64 x.write.kind, .int .i64 x.write.id, .slice a3 x.write.vec.length c3, .int .i64 x.write.session, .int .i64 x.write.seq]).ownsRow w.heap.size 89 10 (.slice (some ⟨w.heap.size, 0, none⟩) xs.length xs.length) xs.length ((rows ++ [([.int .i64 x.kind, .int .i64 x.epoch, .int .i64 x.src, .int .i64 x.dst, .int .i64 x.index, .int .i64 x.write.kind, .int .i64 x.write.id, .slice a3 x.write.vec.length c3, .int .i64 x.write.session, .int .i64 x.write.seq] : List Value)]).flatten ++ Q.drop 10)
    rw [List.flatten_append]
    simpa using o3
   have hl2 := (o2.lt w.heap.size rfl).2
   clear o3 o2 E hb2 hl5
   have hQ2 : Hid ((Q.drop 10).length = (xs.length - (k + 1)) * 10) := by
    show (Q.drop 10).length = (xs.length - (k + 1)) * 10
    rw [List.length_drop, hQ, show xs.length - k = xs.length - (k + 1) + 1 by omega, Nat.add_mul]
    omega
   have HW2 : Hid (w.heap.size < w2.heap.size) := hl2
   clear hQ HQ hz2 hz0
   go_wp2_with fail
   go_roundw
   case rel => exact ⟨k + 1, rows ++ [([.int .i64 x.kind, .int .i64 x.epoch, .int .i64 x.src, .int .i64 x.dst, .int .i64 x.index, .int .i64 x.write.kind, .int .i64 x.write.id, .slice a3 x.write.vec.length c3, .int .i64 x.write.session, .int .i64 x.write.seq] : List Value)], Q.drop 10, w2.heap.size, by omega, by go_num, uh HO, uh hQ2, (by rw [uh HT]; exact uh HS), Nat.le_of_eq (uh HZ).symm, uh HW2, uh HB⟩
   case measure => simp [intOf]; omega
  obtain rfl : k = xs.length := by omega
  have e0 : Q = [] := List.eq_nil_of_length_eq_zero (by rw [hQ]; simp)
  subst e0
  rw [List.append_nil] at hown
  rw [List.take_length] at hsub
  have HK : Hid (CopyKit w wr w.heap.size xs) := ⟨rfl, rows, hi, hown, hsub, hhi, hlo⟩
  have HO := yh (Lay.subs_done (A := Lay.tMsg) hown hsub (by omega) hhi hbig)
  have HB := yh hB
  clear hown hsub hB
  go_wp2_with fail
  go_ret
  exact ⟨_, rfl, uh HO, uh HB, uh HK⟩
theorem copiedWorldC (cs : List Value) (x : DWorld) (w : World) (h : Lay.tWorld.Reads w cs x) (hok : WorldOK x) (hf : Fits x) :
  Calls Tryz.prog 215 #[.agg cs.toArray] w fun e w' => ∃ (v3 v4 v5 v6 : Value), e = .returned (.agg #[.int .i64 x.now, .int .i64 x.events, .int .i64 x.chain.epoch, v3, v4, v5, v6]) ∧ Lay.tWorld.OwnIn w' [.int .i64 x.now, .int .i64 x.events, .int .i64 x.chain.epoch, v3, v4, v5, v6] x (w.heap.size + 2) w'.heap.size ∧ Below w.heap.size w w' := by
 have HWF := yh (wf_World h)
 obtain ⟨a3, d3, a4, d4, a5, d5, a6, d6, rfl, RC, RN, RM, RE⟩ := open_World h
 obtain ⟨_, _, hq, RI⟩ := open_Chain RC
 simp only [List.cons.injEq, Value.slice.injEq, and_true, true_and] at hq
 obtain ⟨rfl, rfl⟩ := hq
 have nb1 : Below w.heap.size w (w.alloc (.cells #[.int .i64 x.now, .int .i64 x.events, .int .i64 x.chain.epoch, .slice a3 x.chain.ids.length d3, .slice a4 x.nodes.length d4, .slice a5 x.msgs.length d5, .slice a6 x.history.length d6] 36)) := (Below.refl _ _).alloc (Nat.le_refl _) _
 have HV : Hid (Below w.heap.size w ((w.alloc (.cells #[.int .i64 x.now, .int .i64 x.events, .int .i64 x.chain.epoch, .slice a3 x.chain.ids.length d3, .slice a4 x.nodes.length d4, .slice a5 x.msgs.length d5, .slice a6 x.history.length d6] 36)).alloc (.cells #[.int .i64 0, .int .i64 0, .int .i64 0, .slice none 0 0, .slice none 0 0, .slice none 0 0, .slice none 0 0] 36))) := nb1.alloc (by simp) _
 have HX : Hid (Box 0 #[.int .i64 x.now, .int .i64 x.events, .int .i64 x.chain.epoch, .slice a3 x.chain.ids.length d3, .slice a4 x.nodes.length d4, .slice a5 x.msgs.length d5, .slice a6 x.history.length d6] 36 ((w.alloc (.cells #[.int .i64 x.now, .int .i64 x.events, .int .i64 x.chain.epoch, .slice a3 x.chain.ids.length d3, .slice a4 x.nodes.length d4, .slice a5 x.msgs.length d5, .slice a6 x.history.length d6] 36)).alloc (.cells #[.int .i64 0, .int .i64 0, .int .i64 0, .slice none 0 0, .slice none 0 0, .slice none 0 0, .slice none 0 0] 36)) w.heap.size) := (newBox (Nat.zero_le _)).grow _
 have HY : Hid (Box 0 #[.int .i64 0, .int .i64 0, .int .i64 0, .slice none 0 0, .slice none 0 0, .slice none 0 0, .slice none 0 0] 36 ((w.alloc (.cells #[.int .i64 x.now, .int .i64 x.events, .int .i64 x.chain.epoch, .slice a3 x.chain.ids.length d3, .slice a4 x.nodes.length d4, .slice a5 x.msgs.length d5, .slice a6 x.history.length d6] 36)).alloc (.cells #[.int .i64 0, .int .i64 0, .int .i64 0, .slice none 0 0, .slice none 0 0, .slice none 0 0, .slice none 0 0] 36)) (w.heap.size + 1)) := newBoxAt (Nat.zero_le _) (by simp)
 have hz0 : ((w.alloc (.cells #[.int .i64 x.now, .int .i64 x.events, .int .i64 x.chain.epoch, .slice a3 x.chain.ids.length d3, .slice a4 x.nodes.length d4, .slice a5 x.msgs.length d5, .slice a6 x.history.length d6] 36)).alloc (.cells #[.int .i64 0, .int .i64 0, .int .i64 0, .slice none 0 0, .slice none 0 0, .slice none 0 0, .slice none 0 0] 36)).heap.size = w.heap.size + 2 := by simp
 have HI := yh RI
 have HN := yh RN
 have HM := yh RM
 have HE := yh RE
 have HOK := yh hok
 have HF := yh hf
 clear nb1 h RC RN RM RE RI hok hf
 go_enter Tryz.func215, Tryz.ntmps215
 go_upto_region 1 with fail
 generalize (w.alloc (.cells #[.int .i64 x.now, .int .i64 x.events, .int .i64 x.chain.epoch, .slice a3 x.chain.ids.length d3, .slice a4 x.nodes.length d4, .slice a5 x.msgs.length d5, .slice a6 x.history.length d6] 36)).alloc (.cells #[.int .i64 0, .int .i64 0, .int .i64 0, .slice none 0 0, .slice none 0 0, .slice none 0 0, .slice none 0 0] 36) = W0 at *
 have hx := uh HX
 have y3 := Box.at hx 3 _ rfl
 have yl := hx.lt
 simp only [ga, gb, gc] at y3
 have HC := yh (cloneC _ x.chain.ids W0 ((uh HI).later (uh HV)) (by have := (chainFault_zero (uh HOK).chain).len; omega))
 clear hx
 go_wp2_with fail
 refine (uh HC).mono ?_
 rintro e v1 ⟨p3, n3, q3, rfl, ⟨O, rfl⟩, hb⟩
 have hz1 : W0.heap.size ≤ v1.heap.size := hb.size
 have hx := (uh HX).keep hb
 replace HY := yh (((uh HY).keep hb).other ⟨w.heap.size, 3, none⟩ (.slice p3 x.chain.ids.length q3) (by simp))
 clear y3 yl
 have y3 := Box.at hx 3 _ rfl
 have yf := Box.soft hx
 have yl := hx.lt
 simp only [ga, gb, gc] at y3
 have hv := (uh HV).trans (hb.mono (uh HV).size)
 replace HV := yh (hv.setCell (p := ⟨w.heap.size, 3, none⟩) (Nat.le_refl _) (.slice p3 x.chain.ids.length q3))
 have hx2 := Box.set hx 3 (.slice p3 x.chain.ids.length q3)
 simp only [List.setIfInBounds_toArray, List.set_cons_zero, List.set_cons_succ] at hx2
 replace HX := yh hx2
 have e1 : Ext (fun q => q = w.heap.size) v1 (v1.setCell ⟨w.heap.size, 3, none⟩ (.slice p3 x.chain.ids.length q3)) := (Ext.refl _ _).setCell _ _ rfl
 have P0 := yh (O.ext e1 (fun q h1 h2 h3 => by omega))
 have hz1' : (v1.setCell ⟨w.heap.size, 3, none⟩ (.slice p3 x.chain.ids.length q3)).heap.size = v1.heap.size := by simp
 clear hx hx2 e1 hv O hb HC
 go_upto_region 2 with fail
 generalize hW : v1.setCell ⟨w.heap.size, 3, none⟩ (.slice p3 x.chain.ids.length q3) = W1 at *
 clear hW y3 yf yl
 have hx := uh HX
 have y4 := Box.at hx 4 _ rfl
 have yl := hx.lt
 simp only [ga, gb, gc] at y4
 have HC := yh (copiedNodesC _ x.nodes W1 ((uh HN).later (uh HV)) (by have := (uh HOK).some; omega) (fun y hy => by obtain ⟨j, hj, rfl⟩ := List.getElem_of_mem hy; exact node_bounds ((uh HOK).nodes j hj).1))
 clear hx
 go_wp2_with fail
 refine (uh HC).mono ?_
 rintro e v2 ⟨g4, rfl, O, hb⟩
 have hz2 : W1.heap.size ≤ v2.heap.size := hb.size
 have hx := (uh HX).keep hb
 replace HY := yh (((uh HY).keep hb).other ⟨w.heap.size, 4, none⟩ (.slice (some ⟨g4, 0, none⟩) x.nodes.length x.nodes.length) (by simp))
 clear y4 yl
 have y4 := Box.at hx 4 _ rfl
 have yf := Box.soft hx
 have yl := hx.lt
 simp only [ga, gb, gc] at y4
 have hv := (uh HV).trans (hb.mono (uh HV).size)
 replace HV := yh (hv.setCell (p := ⟨w.heap.size, 4, none⟩) (Nat.le_refl _) (.slice (some ⟨g4, 0, none⟩) x.nodes.length x.nodes.length))
 have hx2 := Box.set hx 4 (.slice (some ⟨g4, 0, none⟩) x.nodes.length x.nodes.length)
 simp only [List.setIfInBounds_toArray, List.set_cons_zero, List.set_cons_succ] at hx2
 replace HX := yh hx2
 have e2 : Ext (fun q => q = w.heap.size) v2 (v2.setCell ⟨w.heap.size, 4, none⟩ (.slice (some ⟨g4, 0, none⟩) x.nodes.length x.nodes.length)) := (Ext.refl _ _).setCell _ _ rfl
 replace P0 := yh (((uh P0).later hb).ext e2 (fun q h1 h2 h3 => by omega))
 have P1 := yh (O.ext e2 (fun q h1 h2 h3 => by omega))
 have hz2' : (v2.setCell ⟨w.heap.size, 4, none⟩ (.slice (some ⟨g4, 0, none⟩) x.nodes.length x.nodes.length)).heap.size = v2.heap.size := by simp
 clear hx hx2 e2 hv O hb HC
 go_upto_region 3 with fail
 generalize hW : v2.setCell ⟨w.heap.size, 4, none⟩ (.slice (some ⟨g4, 0, none⟩) x.nodes.length x.nodes.length) = W2 at *
 clear hW y4 yf yl
 have hx := uh HX
 have y5 := Box.at hx 5 _ rfl
 have yl := hx.lt
 simp only [ga, gb, gc] at y5
 have HC := yh (copiedMsgsC _ x.msgs W2 ((uh HM).later (uh HV)) (by have := (netFault_zero (uh HOK).net).1; omega) (fun y hy => msg_bounds ((netFault_zero (uh HOK).net).2 y hy)))
 clear hx
 go_wp2_with fail
 refine (uh HC).mono ?_
 rintro e v3 ⟨g5, rfl, O, hb, -⟩
 have hz3 : W2.heap.size ≤ v3.heap.size := hb.size
 have hx := (uh HX).keep hb
 replace HY := yh (((uh HY).keep hb).other ⟨w.heap.size, 5, none⟩ (.slice (some ⟨g5, 0, none⟩) x.msgs.length x.msgs.length) (by simp))
 clear y5 yl
 have y5 := Box.at hx 5 _ rfl
 have yf := Box.soft hx
 have yl := hx.lt
 simp only [ga, gb, gc] at y5
 have hv := (uh HV).trans (hb.mono (uh HV).size)
 replace HV := yh (hv.setCell (p := ⟨w.heap.size, 5, none⟩) (Nat.le_refl _) (.slice (some ⟨g5, 0, none⟩) x.msgs.length x.msgs.length))
 have hx2 := Box.set hx 5 (.slice (some ⟨g5, 0, none⟩) x.msgs.length x.msgs.length)
 simp only [List.setIfInBounds_toArray, List.set_cons_zero, List.set_cons_succ] at hx2
 replace HX := yh hx2
 have e3 : Ext (fun q => q = w.heap.size) v3 (v3.setCell ⟨w.heap.size, 5, none⟩ (.slice (some ⟨g5, 0, none⟩) x.msgs.length x.msgs.length)) := (Ext.refl _ _).setCell _ _ rfl
 replace P0 := yh (((uh P0).later hb).ext e3 (fun q h1 h2 h3 => by omega))
 replace P1 := yh (((uh P1).later hb).ext e3 (fun q h1 h2 h3 => by omega))
 have P2 := yh (O.ext e3 (fun q h1 h2 h3 => by omega))
 have hz3' : (v3.setCell ⟨w.heap.size, 5, none⟩ (.slice (some ⟨g5, 0, none⟩) x.msgs.length x.msgs.length)).heap.size = v3.heap.size := by simp
 clear hx hx2 e3 hv O hb HC
 go_upto_region 4 with fail
 generalize hW : v3.setCell ⟨w.heap.size, 5, none⟩ (.slice (some ⟨g5, 0, none⟩) x.msgs.length x.msgs.length) = W3 at *
 clear hW y5 yf yl
 have hx := uh HX
 have y6 := Box.at hx 6 _ rfl
 have yl := hx.lt
 simp only [ga, gb, gc] at y6
 have HC := yh (copiedHistoryC _ x.history W3 ((uh HE).later (uh HV)) (by have := (uh HOK).few; omega) (uh HF))
 clear hx
 go_wp2_with fail
 refine (uh HC).mono ?_
 rintro e v4 ⟨g6, rfl, O, hb⟩
 have hz4 : W3.heap.size ≤ v4.heap.size := hb.size
 have hx := (uh HX).keep hb
 replace HY := yh (((uh HY).keep hb).other ⟨w.heap.size, 6, none⟩ (.slice (some ⟨g6, 0, none⟩) x.history.length x.history.length) (by simp))
 clear y6 yl
 have y6 := Box.at hx 6 _ rfl
 have yf := Box.soft hx
 have yl := hx.lt
 simp only [ga, gb, gc] at y6
 have hv := (uh HV).trans (hb.mono (uh HV).size)
 replace HV := yh (hv.setCell (p := ⟨w.heap.size, 6, none⟩) (Nat.le_refl _) (.slice (some ⟨g6, 0, none⟩) x.history.length x.history.length))
 have hx2 := Box.set hx 6 (.slice (some ⟨g6, 0, none⟩) x.history.length x.history.length)
 simp only [List.setIfInBounds_toArray, List.set_cons_zero, List.set_cons_succ] at hx2
 replace HX := yh hx2
 have e4 : Ext (fun q => q = w.heap.size) v4 (v4.setCell ⟨w.heap.size, 6, none⟩ (.slice (some ⟨g6, 0, none⟩) x.history.length x.history.length)) := (Ext.refl _ _).setCell _ _ rfl
 replace P0 := yh (((uh P0).later hb).ext e4 (fun q h1 h2 h3 => by omega))
 replace P1 := yh (((uh P1).later hb).ext e4 (fun q h1 h2 h3 => by omega))
 replace P2 := yh (((uh P2).later hb).ext e4 (fun q h1 h2 h3 => by omega))
 have P3 := yh (O.ext e4 (fun q h1 h2 h3 => by omega))
 have hz4' : (v4.setCell ⟨w.heap.size, 6, none⟩ (.slice (some ⟨g6, 0, none⟩) x.history.length x.history.length)).heap.size = v4.heap.size := by simp
 clear hx hx2 e4 hv O hb HC
 go_upto_region 5 with fail
 generalize hW : v4.setCell ⟨w.heap.size, 6, none⟩ (.slice (some ⟨g6, 0, none⟩) x.history.length x.history.length) = W4 at *
 clear hW y6 yf yl
 have hx := uh HX
 have hy := uh HY
 have y0 := Box.at hx 0 _ rfl
 have y1 := Box.at hx 1 _ rfl
 have y2 := Box.at hx 2 _ rfl
 have y3 := Box.at hx 3 _ rfl
 have y4 := Box.at hx 4 _ rfl
 have y5 := Box.at hx 5 _ rfl
 have y6 := Box.at hx 6 _ rfl
 have u0 := Box.at hy 0 _ rfl
 have u1 := Box.at hy 1 _ rfl
 have u2 := Box.at hy 2 _ rfl
 have u3 := Box.at hy 3 _ rfl
 have u4 := Box.at hy 4 _ rfl
 have u5 := Box.at hy 5 _ rfl
 have u6 := Box.at hy 6 _ rfl
 simp only [ga, gb, gc] at y0 u0 y1 u1 y2 u2 y3 u3 y4 u4 y5 u5 y6 u6
 have yl := hx.lt
 have uf := Box.soft hy
 have ul := hy.lt
 have O := own_worldC (uh P0) (uh P1) (uh P2) (uh P3) (by omega) (by omega) (by omega) (by omega) (by omega) (by omega) (by omega) (uh HWF)
 have e9 : Ext (fun q => q = w.heap.size + 1) W4 (setAll W4 (w.heap.size + 1) 0 [.int .i64 x.now, .int .i64 x.events, .int .i64 x.chain.epoch, .slice p3 x.chain.ids.length q3, .slice (some ⟨g4, 0, none⟩) x.nodes.length x.nodes.length, .slice (some ⟨g5, 0, none⟩) x.msgs.length x.msgs.length, .slice (some ⟨g6, 0, none⟩) x.history.length x.history.length]) := ext_setAll _ (Ext.refl _ _) _ _ _ rfl
 have HO : Hid (Lay.tWorld.OwnIn (setAll W4 (w.heap.size + 1) 0 [.int .i64 x.now, .int .i64 x.events, .int .i64 x.chain.epoch, .slice p3 x.chain.ids.length q3, .slice (some ⟨g4, 0, none⟩) x.nodes.length x.nodes.length, .slice (some ⟨g5, 0, none⟩) x.msgs.length x.msgs.length, .slice (some ⟨g6, 0, none⟩) x.history.length x.history.length]) [.int .i64 x.now, .int .i64 x.events, .int .i64 x.chain.epoch, .slice p3 x.chain.ids.length q3, .slice (some ⟨g4, 0, none⟩) x.nodes.length x.nodes.length, .slice (some ⟨g5, 0, none⟩) x.msgs.length x.msgs.length, .slice (some ⟨g6, 0, none⟩) x.history.length x.history.length] x (w.heap.size + 2) W4.heap.size) := (O.ext e9 (fun q h1 h2 h3 => by omega)).mono (by omega) (by omega)
 have HB := yh (below_setAll (uh HV) (w.heap.size + 1) 0 [.int .i64 x.now, .int .i64 x.events, .int .i64 x.chain.epoch, .slice p3 x.chain.ids.length q3, .slice (some ⟨g4, 0, none⟩) x.nodes.length x.nodes.length, .slice (some ⟨g5, 0, none⟩) x.msgs.length x.msgs.length, .slice (some ⟨g6, 0, none⟩) x.history.length x.history.length] (by omega))
 have hzz : Hid ((setAll W4 (w.heap.size + 1) 0 [.int .i64 x.now, .int .i64 x.events, .int .i64 x.chain.epoch, .slice p3 x.chain.ids.length q3, .slice (some ⟨g4, 0, none⟩) x.nodes.length x.nodes.length, .slice (some ⟨g5, 0, none⟩) x.msgs.length x.msgs.length, .slice (some ⟨g6, 0, none⟩) x.history.length x.history.length]).heap.size = W4.heap.size) := size_setAll _ _ _ _
 clear hx hy O e9 P0 P1 P2 P3 HX HY HV HOK HF HI HN HM HE
 go_wp2_with fail
 refine bodyPost_ret (v := .agg #[.int .i64 x.now, .int .i64 x.events, .int .i64 x.chain.epoch, .slice p3 x.chain.ids.length q3, .slice (some ⟨g4, 0, none⟩) x.nodes.length x.nodes.length, .slice (some ⟨g5, 0, none⟩) x.msgs.length x.msgs.length, .slice (some ⟨g6, 0, none⟩) x.history.length x.history.length]) (by simp [results, Tryz.results215, go_sem, u0, u1, u2, u3, u4, u5, u6]) rfl ?_
 exact ⟨_, _, _, _, rfl, (uh HO).mono (by omega) (Nat.le_of_eq (uh hzz).symm), uh HB⟩
def idFaultR (x : DWorld) (id : Int) : Int := if worldFault x ≠ 0 then worldFault x else if nodeIn x id = false then 4 else 0
theorem idFaultC (cs : List Value) (x : DWorld) (id : Int) (w : World) (h : Lay.tWorld.Reads w cs x) :
  Calls Tryz.prog 71 #[.agg cs.toArray, .int .i64 id] w fun e w' => e = .returned (.int .i64 (idFaultR x id)) ∧ Below w.heap.size w w' := by
 obtain ⟨a3, d3, a4, d4, a5, d5, a6, d6, rfl, -, -, -, -⟩ := open_World h
 have nb : Below w.heap.size w (w.alloc (.cells #[.int .i64 x.now, .int .i64 x.events, .int .i64 x.chain.epoch, .slice a3 x.chain.ids.length d3, .slice a4 x.nodes.length d4, .slice a5 x.msgs.length d5, .slice a6 x.history.length d6] 36)) := (Below.refl _ _).alloc (Nat.le_refl _) _
 have HX : Hid (Box 0 #[.int .i64 x.now, .int .i64 x.events, .int .i64 x.chain.epoch, .slice a3 x.chain.ids.length d3, .slice a4 x.nodes.length d4, .slice a5 x.msgs.length d5, .slice a6 x.history.length d6] 36 (w.alloc (.cells #[.int .i64 x.now, .int .i64 x.events, .int .i64 x.chain.epoch, .slice a3 x.chain.ids.length d3, .slice a4 x.nodes.length d4, .slice a5 x.msgs.length d5, .slice a6 x.history.length d6] 36)) w.heap.size) := newBox (Nat.zero_le _)
 have HR := yh (h.later nb)
 have HP : Hid (idFaultR x id = if worldFault x ≠ 0 then worldFault x else if nodeIn x id = false then 4 else 0) := rfl
 have HB := yh nb
 clear nb h
 generalize idFaultR x id = r at *
 go_enter Tryz.func71, Tryz.ntmps71
 go_upto_region 1 with fail
 generalize w.alloc (.cells #[.int .i64 x.now, .int .i64 x.events, .int .i64 x.chain.epoch, .slice a3 x.chain.ids.length d3, .slice a4 x.nodes.length d4, .slice a5 x.msgs.length d5, .slice a6 x.history.length d6] 36) = w1 at *
 have z0 := Box.at (uh HX) 0 _ rfl
 have z1 := Box.at (uh HX) 1 _ rfl
 have z2 := Box.at (uh HX) 2 _ rfl
 have z3 := Box.at (uh HX) 3 _ rfl
 have z4 := Box.at (uh HX) 4 _ rfl
 have z5 := Box.at (uh HX) 5 _ rfl
 have z6 := Box.at (uh HX) 6 _ rfl
 simp only [ga, gb, gc] at z0 z1 z2 z3 z4 z5 z6
 go_wp2_with fail
 refine (implWorldFault _ x w1 (uh HR)).mono ?_
 rintro e w2 ⟨rfl, hb⟩
 clear z0 z1 z2 z3 z4 z5 z6
 replace HX := yh ((uh HX).keep hb)
 replace HR := yh ((uh HR).later hb)
 replace HB := yh ((uh HB).trans (hb.mono (uh HB).size))
 clear hb
 have z0 := Box.at (uh HX) 0 _ rfl
 have z1 := Box.at (uh HX) 1 _ rfl
 have z2 := Box.at (uh HX) 2 _ rfl
 have z3 := Box.at (uh HX) 3 _ rfl
 have z4 := Box.at (uh HX) 4 _ rfl
 have z5 := Box.at (uh HX) 5 _ rfl
 have z6 := Box.at (uh HX) 6 _ rfl
 simp only [ga, gb, gc] at z0 z1 z2 z3 z4 z5 z6
 by_cases d1 : worldFault x ≠ 0
 ·
  have hd : (worldFault x != 0) = true := by simpa using d1
  replace HP := yh ((uh HP).trans (if_pos d1))
  clear d1
  generalize worldFault x = c at *
  go_wp2_with fail
  go_ret
  exact ⟨by rw [uh HP]; rfl, uh HB⟩
 replace HP := yh ((uh HP).trans (if_neg d1))
 have hd : worldFault x = 0 := by simpa using d1
 clear d1
 rw [hd]
 clear hd
 go_wp2_with fail
 refine (hasNodeC _ x id w2 (uh HR)).mono ?_
 rintro e w3 ⟨rfl, hb⟩
 replace HB := yh ((uh HB).trans (hb.mono (uh HB).size))
 clear hb z0 z1 z2 z3 z4 z5 z6
 generalize nodeIn x id = q at *
 cases q
 ·
  replace HP := yh ((uh HP).trans (if_pos rfl))
  go_wp2_with fail
  go_ret
  exact ⟨by rw [uh HP]; rfl, uh HB⟩
 replace HP := yh ((uh HP).trans (if_neg (by simp)))
 go_wp2_with fail
 go_ret
 exact ⟨by rw [uh HP]; rfl, uh HB⟩
theorem doneInC (N : Nat) (cap : Array Value) (cs : List Value) (x : DWorld) (c : Int) (mv : Bool) (z : DWorld) (w : World) (hfa : ∀ (a : Array Value) (W : World), (callFunc N (a ++ cap)).run Tryz.prog W = .ok (.enter N (a ++ cap)) W) (h : Lay.tWorld.Reads w cs x) (hok : WorldOK x) (hf : Fits x) (hc : -1000000000 ≤ c ∧ c ≤ 1000000000)
  (hstep : ∀ W, Below w.heap.size w W → StepC w.heap.size N cap (nextW x) c mv z W) :
  Calls Tryz.prog 137 #[.agg cs.toArray, .func (.func N) #[] cap] w fun e w' => ∃ cs', e = .returned (.agg cs'.toArray) ∧ Lay.tWorldResult.OwnIn w' cs' (resW c mv z) w.heap.size w'.heap.size ∧ Below w.heap.size w w' := by
 obtain ⟨a3, d3, a4, d4, a5, d5, a6, d6, rfl, -, -, -, -⟩ := open_World h
 have nb1 : Below w.heap.size w (w.alloc (.cells #[.int .i64 x.now, .int .i64 x.events, .int .i64 x.chain.epoch, .slice a3 x.chain.ids.length d3, .slice a4 x.nodes.length d4, .slice a5 x.msgs.length d5, .slice a6 x.history.length d6] 36)) := (Below.refl _ _).alloc (Nat.le_refl _) _
 have HB : Hid (Below w.heap.size w ((w.alloc (.cells #[.int .i64 x.now, .int .i64 x.events, .int .i64 x.chain.epoch, .slice a3 x.chain.ids.length d3, .slice a4 x.nodes.length d4, .slice a5 x.msgs.length d5, .slice a6 x.history.length d6] 36)).alloc (.cells #[.int .i64 0, .bool false, .int .i64 0, .int .i64 0, .int .i64 0, .slice none 0 0, .slice none 0 0, .slice none 0 0, .slice none 0 0] 38))) := nb1.alloc (by simp) _
 have HX : Hid (Box 0 #[.int .i64 x.now, .int .i64 x.events, .int .i64 x.chain.epoch, .slice a3 x.chain.ids.length d3, .slice a4 x.nodes.length d4, .slice a5 x.msgs.length d5, .slice a6 x.history.length d6] 36 ((w.alloc (.cells #[.int .i64 x.now, .int .i64 x.events, .int .i64 x.chain.epoch, .slice a3 x.chain.ids.length d3, .slice a4 x.nodes.length d4, .slice a5 x.msgs.length d5, .slice a6 x.history.length d6] 36)).alloc (.cells #[.int .i64 0, .bool false, .int .i64 0, .int .i64 0, .int .i64 0, .slice none 0 0, .slice none 0 0, .slice none 0 0, .slice none 0 0] 38)) w.heap.size) := (newBox (Nat.zero_le _)).grow _
 have HY : Hid (Box 0 #[.int .i64 0, .bool false, .int .i64 0, .int .i64 0, .int .i64 0, .slice none 0 0, .slice none 0 0, .slice none 0 0, .slice none 0 0] 38 ((w.alloc (.cells #[.int .i64 x.now, .int .i64 x.events, .int .i64 x.chain.epoch, .slice a3 x.chain.ids.length d3, .slice a4 x.nodes.length d4, .slice a5 x.msgs.length d5, .slice a6 x.history.length d6] 36)).alloc (.cells #[.int .i64 0, .bool false, .int .i64 0, .int .i64 0, .int .i64 0, .slice none 0 0, .slice none 0 0, .slice none 0 0, .slice none 0 0] 38)) (w.heap.size + 1)) := newBoxAt (Nat.zero_le _) (by simp)
 have hz0 : ((w.alloc (.cells #[.int .i64 x.now, .int .i64 x.events, .int .i64 x.chain.epoch, .slice a3 x.chain.ids.length d3, .slice a4 x.nodes.length d4, .slice a5 x.msgs.length d5, .slice a6 x.history.length d6] 36)).alloc (.cells #[.int .i64 0, .bool false, .int .i64 0, .int .i64 0, .int .i64 0, .slice none 0 0, .slice none 0 0, .slice none 0 0, .slice none 0 0] 38)).heap.size = w.heap.size + 2 := by simp
 have HR := yh (h.later (uh HB))
 have HOK := yh hok
 have HF := yh hf
 have HST := yh hstep
 have HCB := yh hc
 clear nb1 h hok hf hstep hc
 go_enter Tryz.func137, Tryz.ntmps137
 go_upto_region 1 with fail
 generalize (w.alloc (.cells #[.int .i64 x.now, .int .i64 x.events, .int .i64 x.chain.epoch, .slice a3 x.chain.ids.length d3, .slice a4 x.nodes.length d4, .slice a5 x.msgs.length d5, .slice a6 x.history.length d6] 36)).alloc (.cells #[.int .i64 0, .bool false, .int .i64 0, .int .i64 0, .int .i64 0, .slice none 0 0, .slice none 0 0, .slice none 0 0, .slice none 0 0] 38) = W0 at *
 have z0 := Box.at (uh HX) 0 _ rfl
 have z1 := Box.at (uh HX) 1 _ rfl
 have z2 := Box.at (uh HX) 2 _ rfl
 have z3 := Box.at (uh HX) 3 _ rfl
 have z4 := Box.at (uh HX) 4 _ rfl
 have z5 := Box.at (uh HX) 5 _ rfl
 have z6 := Box.at (uh HX) 6 _ rfl
 simp only [ga, gb, gc] at z0 z1 z2 z3 z4 z5 z6
 go_wp2_with fail
 refine (copiedWorldC _ x W0 (uh HR) (uh HOK) (uh HF)).mono ?_
 rintro e W1 ⟨v3, v4, v5, v6, rfl, O, hb⟩
 obtain ⟨a3w, d3w, a4w, d4w, a5w, d5w, a6w, d6w, hq, -⟩ := open_World O.reads
 simp only [List.cons.injEq, and_true, true_and] at hq
 obtain ⟨rfl, rfl, rfl, rfl⟩ := hq
 have hz1 : W0.heap.size ≤ W1.heap.size := hb.size
 replace HY := yh ((uh HY).keep hb)
 replace HB := yh ((uh HB).trans (hb.mono (uh HB).size))
 have hO := wown_new (g := W1.heap.size) (O.mono (Nat.le_add_right _ 2) (Nat.le_refl _)) (Nat.le_refl _) (Nat.le_refl _)
 clear hb O HX HR HF z0 z1 z2 z3 z4 z5 z6
 have nb : Below W1.heap.size W1 (W1.alloc (.cells #[.int .i64 x.now, .int .i64 x.events, .int .i64 x.chain.epoch, .slice a3w x.chain.ids.length d3w, .slice a4w x.nodes.length d4w, .slice a5w x.msgs.length d5w, .slice a6w x.history.length d6w] 36)) := (Below.refl _ _).alloc (Nat.le_refl _) _
 have HG : Hid (Box 0 #[.int .i64 x.now, .int .i64 x.events, .int .i64 x.chain.epoch, .slice a3w x.chain.ids.length d3w, .slice a4w x.nodes.length d4w, .slice a5w x.msgs.length d5w, .slice a6w x.history.length d6w] 36 (W1.alloc (.cells #[.int .i64 x.now, .int .i64 x.events, .int .i64 x.chain.epoch, .slice a3w x.chain.ids.length d3w, .slice a4w x.nodes.length d4w, .slice a5w x.msgs.length d5w, .slice a6w x.history.length d6w] 36)) W1.heap.size) := newBox (Nat.zero_le _)
 have HO := yh (hO.later nb)
 replace HY := yh ((uh HY).keep nb)
 replace HB := yh ((uh HB).trans (nb.mono (uh HB).size))
 have hz2 : (W1.alloc (.cells #[.int .i64 x.now, .int .i64 x.events, .int .i64 x.chain.epoch, .slice a3w x.chain.ids.length d3w, .slice a4w x.nodes.length d4w, .slice a5w x.msgs.length d5w, .slice a6w x.history.length d6w] 36)).heap.size = W1.heap.size + 1 := by simp
 clear nb hO
 go_upto_region 2 with fail
 generalize W1.alloc (.cells #[.int .i64 x.now, .int .i64 x.events, .int .i64 x.chain.epoch, .slice a3w x.chain.ids.length d3w, .slice a4w x.nodes.length d4w, .slice a5w x.msgs.length d5w, .slice a6w x.history.length d6w] 36) = W2 at *
 have hg := uh HG
 have y1 := Box.at hg 1 _ rfl
 have yf := Box.soft hg
 have yl := hg.lt
 simp only [ga, gb, gc] at y1
 have hxe := (uh HOK).events
 have hg2 := Box.set hg 1 (.int .i64 (x.events + 1))
 simp only [List.setIfInBounds_toArray, List.set_cons_zero, List.set_cons_succ] at hg2
 have e1 : Ext (fun q => q = W1.heap.size) W2 (W2.setCell ⟨W1.heap.size, 1, none⟩ (.int .i64 (x.events + 1))) := (Ext.refl _ _).setCell _ _ rfl
 have hO2 := own_nextW ((uh HO).ext e1 (fun k h1 h2 h3 => h3)) (by omega)
 replace HG := yh hg2
 replace HO := yh hO2
 replace HY := yh ((uh HY).other ⟨W1.heap.size, 1, none⟩ (.int .i64 (x.events + 1)) (by simp; omega))
 replace HB := yh ((uh HB).setCell (p := ⟨W1.heap.size, 1, none⟩) (by simp; omega) (.int .i64 (x.events + 1)))
 have hz3 : (W2.setCell ⟨W1.heap.size, 1, none⟩ (.int .i64 (x.events + 1))).heap.size = W2.heap.size := by simp
 clear hg hg2 e1 hO2
 go_upto_region 3 with fail
 generalize hW : W2.setCell ⟨W1.heap.size, 1, none⟩ (.int .i64 (x.events + 1)) = W3 at *
 clear hW y1 yf yl hxe
 have HC := yh (uh HST W3 (uh HB) W1.heap.size (w.heap.size + 2) _ _ _ _ (by omega) (uh HG) (by omega) (by have := uh HO; rw [hz0] at this; exact this))
 clear HST HO HG
 go_wp2_with fail
 refine (uh HC).mono ?_
 rintro e W4 ⟨m, rfl, hm, he⟩
 replace HY := yh ((uh HY).ext he (by omega))
 replace HB := yh ((uh HB).trans ((below_of_ext he (by omega)).mono (by omega)))
 have hz4 := he.size
 clear HC he
 by_cases d1 : c = 0
 ·
  obtain ⟨rfl, u3, u4, u5, u6, hg, hO⟩ := hm d1
  obtain ⟨a3u, d3u, a4u, d4u, a5u, d5u, a6u, d6u, hq, -⟩ := open_World hO.reads
  simp only [List.cons.injEq, and_true, true_and] at hq
  obtain ⟨rfl, rfl, rfl, rfl⟩ := hq
  subst d1
  have HRS : Hid (resW 0 m z = ⟨0, m, z⟩) := if_pos rfl
  have y0 := Box.at hg 0 _ rfl
  have y1 := Box.at hg 1 _ rfl
  have y2 := Box.at hg 2 _ rfl
  have y3 := Box.at hg 3 _ rfl
  have y4 := Box.at hg 4 _ rfl
  have y5 := Box.at hg 5 _ rfl
  have y6 := Box.at hg 6 _ rfl
  have hy := uh HY
  have r0 := Box.at hy 0 _ rfl
  have r1 := Box.at hy 1 _ rfl
  have r2 := Box.at hy 2 _ rfl
  have r3 := Box.at hy 3 _ rfl
  have r4 := Box.at hy 4 _ rfl
  have r5 := Box.at hy 5 _ rfl
  have r6 := Box.at hy 6 _ rfl
  have r7 := Box.at hy 7 _ rfl
  have r8 := Box.at hy 8 _ rfl
  simp only [ga, gb, gc] at y0 y1 y2 y3 y4 y5 y6 r0 r1 r2 r3 r4 r5 r6 r7 r8
  have yl := hg.lt
  have rf := Box.soft hy
  have rl := hy.lt
  have e9 : Ext (fun q => q = w.heap.size + 1) W4 (setAll W4 (w.heap.size + 1) 0 [.int .i64 0, .bool m, .int .i64 z.now, .int .i64 z.events, .int .i64 z.chain.epoch, .slice a3u z.chain.ids.length d3u, .slice a4u z.nodes.length d4u, .slice a5u z.msgs.length d5u, .slice a6u z.history.length d6u]) := ext_setAll _ (Ext.refl _ _) _ _ _ rfl
  have HO := yh (own_okW (m := m) ((hO.ext e9 (fun k h1 h2 h3 => by omega)).ownIn))
  have HB2 := yh (below_setAll (uh HB) (w.heap.size + 1) 0 [.int .i64 0, .bool m, .int .i64 z.now, .int .i64 z.events, .int .i64 z.chain.epoch, .slice a3u z.chain.ids.length d3u, .slice a4u z.nodes.length d4u, .slice a5u z.msgs.length d5u, .slice a6u z.history.length d6u] (by omega))
  clear hg hy hO e9 HY HB hm
  go_wp2_with fail
  refine bodyPost_ret (v := .agg #[.int .i64 0, .bool m, .int .i64 z.now, .int .i64 z.events, .int .i64 z.chain.epoch, .slice a3u z.chain.ids.length d3u, .slice a4u z.nodes.length d4u, .slice a5u z.msgs.length d5u, .slice a6u z.history.length d6u]) (by simp [results, Tryz.results137, go_sem, r0, r1, r2, r3, r4, r5, r6, r7, r8]) rfl ?_
  rw [uh HRS]
  exact ⟨_, rfl, (uh HO).mono (by omega) (Nat.le_refl _), uh HB2⟩
 have hd : (c != 0) = true := by simpa using d1
 have HRS : Hid (resW c mv z = badWorld c) := if_neg d1
 clear hm d1
 have hy := uh HY
 have r0 := Box.at hy 0 _ rfl
 have r1 := Box.at hy 1 _ rfl
 have r2 := Box.at hy 2 _ rfl
 have r3 := Box.at hy 3 _ rfl
 have r4 := Box.at hy 4 _ rfl
 have r5 := Box.at hy 5 _ rfl
 have r6 := Box.at hy 6 _ rfl
 have r7 := Box.at hy 7 _ rfl
 have r8 := Box.at hy 8 _ rfl
 simp only [ga, gb, gc] at r0 r1 r2 r3 r4 r5 r6 r7 r8
 have rf := Box.soft hy
 have rl := hy.lt
 have HB2 := yh (below_setAll (uh HB) (w.heap.size + 1) 0 [.int .i64 c, .bool false, .int .i64 0, .int .i64 0, .int .i64 0, .slice none 0 0, .slice none 0 0, .slice none 0 0, .slice none 0 0] (by omega))
 clear hy HY HB
 go_wp2_with fail
 refine bodyPost_ret (v := .agg #[.int .i64 c, .bool false, .int .i64 0, .int .i64 0, .int .i64 0, .slice none 0 0, .slice none 0 0, .slice none 0 0, .slice none 0 0]) (by simp [results, Tryz.results137, go_sem, r0, r1, r2, r3, r4, r5, r6, r7, r8]) rfl ?_
 rw [uh HRS]
 exact ⟨_, rfl, own_badW (uh HCB) (uh HB2).size, uh HB2⟩
theorem box_set9W {lo : Nat} {T : TypeId} {W : World} {s : Nat} {c0 c1 c2 c3 c4 c5 c6 c7 c8 : Value} (h : Box lo #[c0, c1, c2, c3, c4, c5, c6, c7, c8] T W s) (v0 v1 v2 v3 v4 v5 v6 v7 v8 : Value) : Box lo #[v0, v1, v2, v3, v4, v5, v6, v7, v8] T (setAll W s 0 [v0, v1, v2, v3, v4, v5, v6, v7, v8]) s := by
 have q := (Box.set (Box.set (Box.set (Box.set (Box.set (Box.set (Box.set (Box.set (Box.set h 0 v0) 1 v1) 2 v2) 3 v3) 4 v4) 5 v5) 6 v6) 7 v7) 8 v8)
 simp only [List.setIfInBounds_toArray, List.set_cons_zero, List.set_cons_succ] at q
 exact q
theorem put_bad (p q s : Nat) (c : Int) (w : World) (hx : Box 0 #[.int .i64 c, .bool false, .int .i64 0, .int .i64 0, .int .i64 0, .slice none 0 0, .slice none 0 0, .slice none 0 0, .slice none 0 0] 38 w p) (hc : c ≠ 0) :
  CallsD Tryz.prog 136 #[.pointer (some ⟨p, 0, none⟩), .pointer (some ⟨q, 0, none⟩), .pointer (some ⟨s, 0, none⟩)] .returning w fun e u' w' => u' = .returning ∧ (e = .returned (.tuple #[]) ∧ w' = w) := by
 have r0 := Box.at hx 0 _ rfl
 simp only [List.getElem_toArray, List.getElem_cons_zero] at r0
 have hd : (c == 0) = false := by simpa using hc
 have rl := hx.lt
 clear hx hc
 refine CallsD.mono (R := fun e u' w' => u' = .returning ∧ (e = .returned (.tuple #[]) ∧ w' = w)) ?_ (fun _ _ _ q => q)
 go_enter_d Tryz.func136, Tryz.ntmps136
 go_wp2_with fail
 go_end0
 exact ⟨rfl, rfl⟩
theorem put_ok (p q s N : Nat) (cap : Array Value) (a3 : Option Addr) (d3 : Nat) (a4 : Option Addr) (d4 : Nat) (a5 : Option Addr) (d5 : Nat) (a6 : Option Addr) (d6 : Nat) (x : DWorld) (c : Int) (mv : Bool) (z : DWorld) (w : World) (hx : Box 0 #[.int .i64 0, .bool false, .int .i64 0, .int .i64 0, .int .i64 0, .slice none 0 0, .slice none 0 0, .slice none 0 0, .slice none 0 0] 38 w p) (hw : Box 0 #[.int .i64 x.now, .int .i64 x.events, .int .i64 x.chain.epoch, .slice a3 x.chain.ids.length d3, .slice a4 x.nodes.length d4, .slice a5 x.msgs.length d5, .slice a6 x.history.length d6] 36 w q) (hs : Box 0 #[.func (.func N) #[] cap] 96 w s)
  (hfa : ∀ (a : Array Value) (W : World), (callFunc N (a ++ cap)).run Tryz.prog W = .ok (.enter N (a ++ cap)) W) (h : Lay.tWorld.Reads w [.int .i64 x.now, .int .i64 x.events, .int .i64 x.chain.epoch, .slice a3 x.chain.ids.length d3, .slice a4 x.nodes.length d4, .slice a5 x.msgs.length d5, .slice a6 x.history.length d6] x) (hok : WorldOK x) (hf : Fits x) (hc : -1000000000 ≤ c ∧ c ≤ 1000000000) (hstep : ∀ W, Below w.heap.size w W → StepC w.heap.size N cap (nextW x) c mv z W) :
  CallsD Tryz.prog 136 #[.pointer (some ⟨p, 0, none⟩), .pointer (some ⟨q, 0, none⟩), .pointer (some ⟨s, 0, none⟩)] .returning w fun e u' w' => u' = .returning ∧ (e = .returned (.tuple #[]) ∧ ∃ cs w1 lo, w' = setAll w1 p 0 cs ∧ cs.length = 9 ∧ Box 0 #[.int .i64 0, .bool false, .int .i64 0, .int .i64 0, .int .i64 0, .slice none 0 0, .slice none 0 0, .slice none 0 0, .slice none 0 0] 38 w1 p ∧ Lay.tWorldResult.OwnIn w1 cs (resW c mv z) lo w1.heap.size ∧ w.heap.size ≤ lo ∧ Below w.heap.size w w1) := by
 have HL := yh (doneInC N cap _ x c mv z w hfa h hok hf hc hstep)
 have HX := yh hx
 have z0 := Box.at hw 0 _ rfl
 have z1 := Box.at hw 1 _ rfl
 have z2 := Box.at hw 2 _ rfl
 have z3 := Box.at hw 3 _ rfl
 have z4 := Box.at hw 4 _ rfl
 have z5 := Box.at hw 5 _ rfl
 have z6 := Box.at hw 6 _ rfl
 simp only [ga, gb, gc] at z0 z1 z2 z3 z4 z5 z6
 have s0 := Box.at hs 0 _ rfl
 have r0 := Box.at hx 0 _ rfl
 simp only [List.getElem_toArray, List.getElem_cons_zero] at s0 r0
 have zl := hw.lt
 have sl := hs.lt
 have rl := hx.lt
 clear hx hw hs h hok hf hstep hfa
 generalize resW c mv z = y at *
 go_enter_d Tryz.func136, Tryz.ntmps136
 go_wp2_with fail
 refine (uh HL).mono ?_
 rintro e w1 ⟨cs, rfl, O, hb⟩
 obtain ⟨a5, d5, a6, d6, a7, d7, a8, d8, rfl, -⟩ := open_WorldResult O.reads
 have hx := (uh HX).keep hb
 have HX1 := yh hx
 clear r0
 have r0 := Box.at hx 0 _ rfl
 have r1 := Box.at hx 1 _ rfl
 have r2 := Box.at hx 2 _ rfl
 have r3 := Box.at hx 3 _ rfl
 have r4 := Box.at hx 4 _ rfl
 have r5 := Box.at hx 5 _ rfl
 have r6 := Box.at hx 6 _ rfl
 have r7 := Box.at hx 7 _ rfl
 have r8 := Box.at hx 8 _ rfl
 simp only [ga, gb, gc] at r0 r1 r2 r3 r4 r5 r6 r7 r8
 have rf := Box.soft hx
 have HO := yh O
 have HB := yh hb
 have rl1 := hx.lt
 clear hx O hb HL HX s0 zl sl rl z0 z1 z2 z3 z4 z5 z6
 go_wp2_with fail
 go_end0
 exact ⟨rfl, [.int .i64 y.code, .bool y.moved, .int .i64 y.world.now, .int .i64 y.world.events, .int .i64 y.world.chain.epoch, .slice a5 y.world.chain.ids.length d5, .slice a6 y.world.nodes.length d6, .slice a7 y.world.msgs.length d7, .slice a8 y.world.history.length d8], w1, w.heap.size, rfl, rfl, uh HX1, uh HO, Nat.le_refl _, uh HB⟩
def steppedR (x : DWorld) (wrong c : Int) (mv : Bool) (z : DWorld) : DWorldResult := if wrong ≠ 0 then badWorld wrong else if 9999 ≤ x.events then badWorld 2 else resW c mv z
theorem steppedC (N : Nat) (cap : Array Value) (cs : List Value) (x : DWorld) (wrong c : Int) (mv : Bool) (z : DWorld) (w : World) (hfa : ∀ (a : Array Value) (W : World), (callFunc N (a ++ cap)).run Tryz.prog W = .ok (.enter N (a ++ cap)) W) (h : Lay.tWorld.Reads w cs x) (hok : wrong = 0 → WorldOK x) (hf : Fits x) (hc : -1000000000 ≤ c ∧ c ≤ 1000000000) (hwr : -1000000000 ≤ wrong ∧ wrong ≤ 1000000000)
  (hstep : wrong = 0 → ∀ W, Below w.heap.size w W → StepC w.heap.size N cap (nextW x) c mv z W) :
  Calls Tryz.prog 70 #[.agg cs.toArray, .int .i64 wrong, .func (.func N) #[] cap] w fun e w' => ∃ cs', e = .returned (.agg cs'.toArray) ∧ Lay.tWorldResult.OwnIn w' cs' (steppedR x wrong c mv z) w.heap.size w'.heap.size ∧ Below w.heap.size w w' := by
 have hmf : ∀ (fn : Fn) (first cap : Array Value) (w : World), (Instr.makeFunc fn first cap).run Tryz.prog w = .ok (.func fn first cap) w := fun _ _ _ _ => rfl
 obtain ⟨a3, d3, a4, d4, a5, d5, a6, d6, rfl, -, -, -, -⟩ := open_World h
 have nb : Below w.heap.size w (((w.alloc (.cells #[.int .i64 x.now, .int .i64 x.events, .int .i64 x.chain.epoch, .slice a3 x.chain.ids.length d3, .slice a4 x.nodes.length d4, .slice a5 x.msgs.length d5, .slice a6 x.history.length d6] 36)).alloc (.cells #[.func (.func N) #[] cap] 96)).alloc (.cells #[.int .i64 0, .bool false, .int .i64 0, .int .i64 0, .int .i64 0, .slice none 0 0, .slice none 0 0, .slice none 0 0, .slice none 0 0] 38)) := (((Below.refl _ _).alloc (Nat.le_refl _) _).alloc (by simp) _).alloc (by simp; omega) _
 have HX : Hid (Box 0 #[.int .i64 x.now, .int .i64 x.events, .int .i64 x.chain.epoch, .slice a3 x.chain.ids.length d3, .slice a4 x.nodes.length d4, .slice a5 x.msgs.length d5, .slice a6 x.history.length d6] 36 (((w.alloc (.cells #[.int .i64 x.now, .int .i64 x.events, .int .i64 x.chain.epoch, .slice a3 x.chain.ids.length d3, .slice a4 x.nodes.length d4, .slice a5 x.msgs.length d5, .slice a6 x.history.length d6] 36)).alloc (.cells #[.func (.func N) #[] cap] 96)).alloc (.cells #[.int .i64 0, .bool false, .int .i64 0, .int .i64 0, .int .i64 0, .slice none 0 0, .slice none 0 0, .slice none 0 0, .slice none 0 0] 38)) w.heap.size) := ((newBox (Nat.zero_le _)).grow _).grow _
 have HS : Hid (Box 0 #[.func (.func N) #[] cap] 96 (((w.alloc (.cells #[.int .i64 x.now, .int .i64 x.events, .int .i64 x.chain.epoch, .slice a3 x.chain.ids.length d3, .slice a4 x.nodes.length d4, .slice a5 x.msgs.length d5, .slice a6 x.history.length d6] 36)).alloc (.cells #[.func (.func N) #[] cap] 96)).alloc (.cells #[.int .i64 0, .bool false, .int .i64 0, .int .i64 0, .int .i64 0, .slice none 0 0, .slice none 0 0, .slice none 0 0, .slice none 0 0] 38)) (w.heap.size + 1)) := (newBoxAt (Nat.zero_le _) (by simp)).grow _
 have HY : Hid (Box 0 #[.int .i64 0, .bool false, .int .i64 0, .int .i64 0, .int .i64 0, .slice none 0 0, .slice none 0 0, .slice none 0 0, .slice none 0 0] 38 (((w.alloc (.cells #[.int .i64 x.now, .int .i64 x.events, .int .i64 x.chain.epoch, .slice a3 x.chain.ids.length d3, .slice a4 x.nodes.length d4, .slice a5 x.msgs.length d5, .slice a6 x.history.length d6] 36)).alloc (.cells #[.func (.func N) #[] cap] 96)).alloc (.cells #[.int .i64 0, .bool false, .int .i64 0, .int .i64 0, .int .i64 0, .slice none 0 0, .slice none 0 0, .slice none 0 0, .slice none 0 0] 38)) (w.heap.size + 1 + 1)) := newBoxAt (Nat.zero_le _) (by simp)
 have hz0 : (((w.alloc (.cells #[.int .i64 x.now, .int .i64 x.events, .int .i64 x.chain.epoch, .slice a3 x.chain.ids.length d3, .slice a4 x.nodes.length d4, .slice a5 x.msgs.length d5, .slice a6 x.history.length d6] 36)).alloc (.cells #[.func (.func N) #[] cap] 96)).alloc (.cells #[.int .i64 0, .bool false, .int .i64 0, .int .i64 0, .int .i64 0, .slice none 0 0, .slice none 0 0, .slice none 0 0, .slice none 0 0] 38)).heap.size = w.heap.size + 3 := by simp
 have HR := yh (h.later nb)
 have HRD := h
 have HB := yh nb
 clear nb h
 have HWR := yh hwr
 by_cases hw : wrong ≠ 0
 ·
  have hd : (wrong != 0) = true := by simpa using hw
  have HRS : Hid (steppedR x wrong c mv z = badWorld wrong) := if_pos hw
  have HW := yh hw
  clear hok hstep hfa hf hc hwr hw
  go_enter_defers Tryz.func70, Tryz.ntmps70
  go_upto_region 1 with fail
  generalize ((w.alloc (.cells #[.int .i64 x.now, .int .i64 x.events, .int .i64 x.chain.epoch, .slice a3 x.chain.ids.length d3, .slice a4 x.nodes.length d4, .slice a5 x.msgs.length d5, .slice a6 x.history.length d6] 36)).alloc (.cells #[.func (.func N) #[] cap] 96)).alloc (.cells #[.int .i64 0, .bool false, .int .i64 0, .int .i64 0, .int .i64 0, .slice none 0 0, .slice none 0 0, .slice none 0 0, .slice none 0 0] 38) = W0 at *
  have hy := uh HY
  have r0 := Box.at hy 0 _ rfl
  have r1 := Box.at hy 1 _ rfl
  have r2 := Box.at hy 2 _ rfl
  have r3 := Box.at hy 3 _ rfl
  have r4 := Box.at hy 4 _ rfl
  have r5 := Box.at hy 5 _ rfl
  have r6 := Box.at hy 6 _ rfl
  have r7 := Box.at hy 7 _ rfl
  have r8 := Box.at hy 8 _ rfl
  simp only [ga, gb, gc] at r0 r1 r2 r3 r4 r5 r6 r7 r8
  have rf := Box.soft hy
  have rl := hy.lt
  have hy2 := box_set9W hy (.int .i64 wrong) (.bool false) (.int .i64 0) (.int .i64 0) (.int .i64 0) (.slice none 0 0) (.slice none 0 0) (.slice none 0 0) (.slice none 0 0)
  have HQ := yh (put_bad (w.heap.size + 1 + 1) w.heap.size (w.heap.size + 1) wrong _ hy2 (uh HW))
  have HY2 := yh hy2
  have HB2 := yh (below_setAll (uh HB) (w.heap.size + 1 + 1) 0 [.int .i64 wrong, .bool false, .int .i64 0, .int .i64 0, .int .i64 0, .slice none 0 0, .slice none 0 0, .slice none 0 0, .slice none 0 0] (by omega))
  clear hy hy2 HY HB
  go_wp2_with fail
  refine leaves_cons (f := 136) (args := #[.pointer (some ⟨w.heap.size + 1 + 1, 0, none⟩), .pointer (some ⟨w.heap.size, 0, none⟩), .pointer (some ⟨w.heap.size + 1, 0, none⟩)]) (by simp) (by simp [go_sem]) ?_
  refine (uh HQ).mono ?_
  rintro e u' w2 ⟨rfl, rfl, rfl⟩
  have hy2 := uh HY2
  clear r0 r1 r2 r3 r4 r5 r6 r7 r8 rf rl
  have r0 := Box.at hy2 0 _ rfl
  have r1 := Box.at hy2 1 _ rfl
  have r2 := Box.at hy2 2 _ rfl
  have r3 := Box.at hy2 3 _ rfl
  have r4 := Box.at hy2 4 _ rfl
  have r5 := Box.at hy2 5 _ rfl
  have r6 := Box.at hy2 6 _ rfl
  have r7 := Box.at hy2 7 _ rfl
  have r8 := Box.at hy2 8 _ rfl
  simp only [ga, gb, gc] at r0 r1 r2 r3 r4 r5 r6 r7 r8
  refine ⟨.agg #[.int .i64 wrong, .bool false, .int .i64 0, .int .i64 0, .int .i64 0, .slice none 0 0, .slice none 0 0, .slice none 0 0, .slice none 0 0], ?_, ?_⟩
  ·
   simp [results, Tryz.results70, go_sem, r0, r1, r2, r3, r4, r5, r6, r7, r8]
  rw [uh HRS]
  exact ⟨[.int .i64 wrong, .bool false, .int .i64 0, .int .i64 0, .int .i64 0, .slice none 0 0, .slice none 0 0, .slice none 0 0, .slice none 0 0], rfl, own_badW (uh HWR) (uh HB2).size, uh HB2⟩
 have hw0 : wrong = 0 := by simpa using hw
 subst hw0
 by_cases he : 9999 ≤ x.events
 ·
  have hd : decide (9999 ≤ x.events) = true := by simpa using he
  have HRS : Hid (steppedR x 0 c mv z = badWorld 2) := by show steppedR x 0 c mv z = _; rw [steppedR, if_neg (by simp), if_pos he]
  clear hok hstep hfa hf hc hwr hw he
  go_enter_defers Tryz.func70, Tryz.ntmps70
  go_upto_region 1 with fail
  generalize ((w.alloc (.cells #[.int .i64 x.now, .int .i64 x.events, .int .i64 x.chain.epoch, .slice a3 x.chain.ids.length d3, .slice a4 x.nodes.length d4, .slice a5 x.msgs.length d5, .slice a6 x.history.length d6] 36)).alloc (.cells #[.func (.func N) #[] cap] 96)).alloc (.cells #[.int .i64 0, .bool false, .int .i64 0, .int .i64 0, .int .i64 0, .slice none 0 0, .slice none 0 0, .slice none 0 0, .slice none 0 0] 38) = W0 at *
  have hx1 := Box.at (uh HX) 1 _ rfl
  simp only [ga, gb, gc] at hx1
  have hxl := (uh HX).lt
  have hy := uh HY
  have r0 := Box.at hy 0 _ rfl
  have r1 := Box.at hy 1 _ rfl
  have r2 := Box.at hy 2 _ rfl
  have r3 := Box.at hy 3 _ rfl
  have r4 := Box.at hy 4 _ rfl
  have r5 := Box.at hy 5 _ rfl
  have r6 := Box.at hy 6 _ rfl
  have r7 := Box.at hy 7 _ rfl
  have r8 := Box.at hy 8 _ rfl
  simp only [ga, gb, gc] at r0 r1 r2 r3 r4 r5 r6 r7 r8
  have rf := Box.soft hy
  have rl := hy.lt
  have hy2 := box_set9W hy (.int .i64 2) (.bool false) (.int .i64 0) (.int .i64 0) (.int .i64 0) (.slice none 0 0) (.slice none 0 0) (.slice none 0 0) (.slice none 0 0)
  have HQ := yh (put_bad (w.heap.size + 1 + 1) w.heap.size (w.heap.size + 1) 2 _ hy2 (by decide))
  have HY2 := yh hy2
  have HB2 := yh (below_setAll (uh HB) (w.heap.size + 1 + 1) 0 [.int .i64 2, .bool false, .int .i64 0, .int .i64 0, .int .i64 0, .slice none 0 0, .slice none 0 0, .slice none 0 0, .slice none 0 0] (by omega))
  clear hy hy2 HY HB
  go_wp2_with fail
  refine leaves_cons (f := 136) (args := #[.pointer (some ⟨w.heap.size + 1 + 1, 0, none⟩), .pointer (some ⟨w.heap.size, 0, none⟩), .pointer (some ⟨w.heap.size + 1, 0, none⟩)]) (by simp) (by simp [go_sem]) ?_
  refine (uh HQ).mono ?_
  rintro e u' w2 ⟨rfl, rfl, rfl⟩
  have hy2 := uh HY2
  clear r0 r1 r2 r3 r4 r5 r6 r7 r8 rf rl
  have r0 := Box.at hy2 0 _ rfl
  have r1 := Box.at hy2 1 _ rfl
  have r2 := Box.at hy2 2 _ rfl
  have r3 := Box.at hy2 3 _ rfl
  have r4 := Box.at hy2 4 _ rfl
  have r5 := Box.at hy2 5 _ rfl
  have r6 := Box.at hy2 6 _ rfl
  have r7 := Box.at hy2 7 _ rfl
  have r8 := Box.at hy2 8 _ rfl
  simp only [ga, gb, gc] at r0 r1 r2 r3 r4 r5 r6 r7 r8
  refine ⟨.agg #[.int .i64 2, .bool false, .int .i64 0, .int .i64 0, .int .i64 0, .slice none 0 0, .slice none 0 0, .slice none 0 0, .slice none 0 0], ?_, ?_⟩
  ·
   simp [results, Tryz.results70, go_sem, r0, r1, r2, r3, r4, r5, r6, r7, r8]
  rw [uh HRS]
  exact ⟨[.int .i64 2, .bool false, .int .i64 0, .int .i64 0, .int .i64 0, .slice none 0 0, .slice none 0 0, .slice none 0 0, .slice none 0 0], rfl, own_badW (by decide) (uh HB2).size, uh HB2⟩
 have hd : decide (9999 ≤ x.events) = false := by simpa using he
 have HRS : Hid (steppedR x 0 c mv z = resW c mv z) := by show steppedR x 0 c mv z = _; rw [steppedR, if_neg (by simp), if_neg he]
 have HOK := yh (hok rfl)
 have HST := yh (hstep rfl)
 have HFA := yh hfa
 have HF := yh hf
 have HC := yh hc
 clear hok hstep hfa hf hc hwr hw he
 go_enter_defers Tryz.func70, Tryz.ntmps70
 go_upto_region 1 with fail
 generalize ((w.alloc (.cells #[.int .i64 x.now, .int .i64 x.events, .int .i64 x.chain.epoch, .slice a3 x.chain.ids.length d3, .slice a4 x.nodes.length d4, .slice a5 x.msgs.length d5, .slice a6 x.history.length d6] 36)).alloc (.cells #[.func (.func N) #[] cap] 96)).alloc (.cells #[.int .i64 0, .bool false, .int .i64 0, .int .i64 0, .int .i64 0, .slice none 0 0, .slice none 0 0, .slice none 0 0, .slice none 0 0] 38) = W0 at *
 have hx1 := Box.at (uh HX) 1 _ rfl
 simp only [ga, gb, gc] at hx1
 have hxl := (uh HX).lt
 have hy := uh HY
 have r0 := Box.at hy 0 _ rfl
 have r1 := Box.at hy 1 _ rfl
 have r2 := Box.at hy 2 _ rfl
 have r3 := Box.at hy 3 _ rfl
 have r4 := Box.at hy 4 _ rfl
 have r5 := Box.at hy 5 _ rfl
 have r6 := Box.at hy 6 _ rfl
 have r7 := Box.at hy 7 _ rfl
 have r8 := Box.at hy 8 _ rfl
 simp only [ga, gb, gc] at r0 r1 r2 r3 r4 r5 r6 r7 r8
 have rf := Box.soft hy
 have rl := hy.lt
 have hy2 := box_set9W hy (.int .i64 0) (.bool false) (.int .i64 0) (.int .i64 0) (.int .i64 0) (.slice none 0 0) (.slice none 0 0) (.slice none 0 0) (.slice none 0 0)
 have e1 : Ext (fun q => q = w.heap.size + 1 + 1) W0 (setAll W0 (w.heap.size + 1 + 1) 0 [.int .i64 0, .bool false, .int .i64 0, .int .i64 0, .int .i64 0, .slice none 0 0, .slice none 0 0, .slice none 0 0, .slice none 0 0]) := ext_setAll _ (Ext.refl _ _) _ _ _ rfl
 have hb2 := below_setAll (uh HB) (w.heap.size + 1 + 1) 0 [.int .i64 0, .bool false, .int .i64 0, .int .i64 0, .int .i64 0, .slice none 0 0, .slice none 0 0, .slice none 0 0, .slice none 0 0] (by omega)
 have HR2 := yh (((uh HR).liesIn.mono (Nat.le_refl _) (Nat.le_refl _)).reads)
 have HQ := yh (put_ok (w.heap.size + 1 + 1) w.heap.size (w.heap.size + 1) N cap a3 d3 a4 d4 a5 d5 a6 d6 x c mv z _ hy2 ((uh HX).ext e1 (by omega)) ((uh HS).ext e1 (by omega)) (uh HFA) (HRD.later hb2) (uh HOK) (uh HF) (uh HC) (fun W hW g lo v3 v4 v5 v6 hL => uh HST W (hb2.trans (hW.mono hb2.size)) g lo v3 v4 v5 v6 (Nat.le_trans hb2.size hL)))
 have HB2 := yh hb2
 clear hy hy2 HY HB HR HR2 HX HS HST e1 hb2 HRD
 go_wp2_with fail
 refine leaves_cons (f := 136) (args := #[.pointer (some ⟨w.heap.size + 1 + 1, 0, none⟩), .pointer (some ⟨w.heap.size, 0, none⟩), .pointer (some ⟨w.heap.size + 1, 0, none⟩)]) (by simp) (by simp [go_sem]) ?_
 refine (uh HQ).mono ?_
 rintro e u' w2 ⟨rfl, rfl, cs, w1, lo, rfl, hl, hx, O, hlo, hb⟩
 obtain ⟨a5r, d5r, a6r, d6r, a7r, d7r, a8r, d8r, rfl, -⟩ := open_WorldResult O.reads
 rw [uh HRS]
 generalize resW c mv z = y at *
 have hy2 := box_set9W hx (.int .i64 y.code) (.bool y.moved) (.int .i64 y.world.now) (.int .i64 y.world.events) (.int .i64 y.world.chain.epoch) (.slice a5r y.world.chain.ids.length d5r) (.slice a6r y.world.nodes.length d6r) (.slice a7r y.world.msgs.length d7r) (.slice a8r y.world.history.length d8r)
 clear r0 r1 r2 r3 r4 r5 r6 r7 r8 rf rl
 have r0 := Box.at hy2 0 _ rfl
 have r1 := Box.at hy2 1 _ rfl
 have r2 := Box.at hy2 2 _ rfl
 have r3 := Box.at hy2 3 _ rfl
 have r4 := Box.at hy2 4 _ rfl
 have r5 := Box.at hy2 5 _ rfl
 have r6 := Box.at hy2 6 _ rfl
 have r7 := Box.at hy2 7 _ rfl
 have r8 := Box.at hy2 8 _ rfl
 simp only [ga, gb, gc] at r0 r1 r2 r3 r4 r5 r6 r7 r8
 have e2 : Ext (fun q => q = w.heap.size + 1 + 1) w1 (setAll w1 (w.heap.size + 1 + 1) 0 [.int .i64 y.code, .bool y.moved, .int .i64 y.world.now, .int .i64 y.world.events, .int .i64 y.world.chain.epoch, .slice a5r y.world.chain.ids.length d5r, .slice a6r y.world.nodes.length d6r, .slice a7r y.world.msgs.length d7r, .slice a8r y.world.history.length d8r]) := ext_setAll _ (Ext.refl _ _) _ _ _ rfl
 have hsz := (uh HB2).size
 have hO := (O.ext e2 (fun q h1 h2 h3 => by have := size_setAll W0 (w.heap.size + 1 + 1) 0 [.int .i64 0, .bool false, .int .i64 0, .int .i64 0, .int .i64 0, .slice none 0 0, .slice none 0 0, .slice none 0 0, .slice none 0 0]; omega))
 refine ⟨.agg #[.int .i64 y.code, .bool y.moved, .int .i64 y.world.now, .int .i64 y.world.events, .int .i64 y.world.chain.epoch, .slice a5r y.world.chain.ids.length d5r, .slice a6r y.world.nodes.length d6r, .slice a7r y.world.msgs.length d7r, .slice a8r y.world.history.length d8r], ?_, ?_⟩
 ·
  simp [results, Tryz.results70, go_sem, r0, r1, r2, r3, r4, r5, r6, r7, r8]
 exact ⟨[.int .i64 y.code, .bool y.moved, .int .i64 y.world.now, .int .i64 y.world.events, .int .i64 y.world.chain.epoch, .slice a5r y.world.chain.ids.length d5r, .slice a6r y.world.nodes.length d6r, .slice a7r y.world.msgs.length d7r, .slice a8r y.world.history.length d8r], rfl, hO.mono (by omega) (Nat.le_of_eq (size_setAll _ _ _ _).symm), below_setAll ((uh HB2).trans (hb.mono hsz)) (w.heap.size + 1 + 1) 0 [.int .i64 y.code, .bool y.moved, .int .i64 y.world.now, .int .i64 y.world.events, .int .i64 y.world.chain.epoch, .slice a5r y.world.chain.ids.length d5r, .slice a6r y.world.nodes.length d6r, .slice a7r y.world.msgs.length d7r, .slice a8r y.world.history.length d8r] (by omega)⟩
theorem idFault_zero {x : DWorld} {id : Int} (h : idFaultR x id = 0) : worldFault x = 0 ∧ nodeIn x id = true := by
 unfold idFaultR at h
 split at h
 ·
  rename_i q; exact absurd h q
 rename_i q
 split at h
 ·
  simp at h
 rename_i q2
 exact ⟨by simpa using q, by simpa using q2⟩
theorem idFault_bd (x : DWorld) (id : Int) : -1000000000 ≤ idFaultR x id ∧ idFaultR x id ≤ 1000000000 := by
 have := wf_vals x
 unfold idFaultR
 split
 ·
  omega
 split <;> omega
theorem nodeIn_at {x : DWorld} {id : Int} (h : nodeIn x id = true) : ∃ k, ∃ _ : k < x.nodes.length, id = (k : Int) + 1 := by
 simp only [nodeIn, Bool.and_eq_true, decide_eq_true_eq] at h
 exact ⟨(id - 1).toNat, by omega, by omega⟩
theorem nodeOf_at {x : DWorld} {k : Nat} (hk : k < x.nodes.length) : nodeOf x ((k : Int) + 1) = x.nodes[k] := by
 have : ((k : Int) + 1 - 1).toNat = k := by omega
 rw [nodeOf, this]
 simp [List.getD, hk]
theorem askedW_eq (x : DWorld) (id : Int) : askedW x id = if idFaultR x id ≠ 0 then idFaultR x id else if 9999 ≤ x.events then 2 else 0 := by
 unfold askedW idFaultR
 by_cases h1 : worldFault x ≠ 0
 ·
  rw [if_pos h1, if_pos h1, if_pos h1]
 rw [if_neg h1, if_neg h1]
 by_cases h2 : nodeIn x id = false
 ·
  rw [if_pos h2, if_pos h2, if_pos (show ((4 : Int) ≠ 0) by omega)]
 rw [if_neg h2, if_neg h2, if_neg (show ¬ ((0 : Int) ≠ 0) by omega)]
theorem steppedR_eq (x : DWorld) (id c : Int) (mv : Bool) (z : DWorld) : steppedR x (idFaultR x id) c mv z = if askedW x id ≠ 0 then badWorld (askedW x id) else resW c mv z := by
 rw [askedW_eq, steppedR]
 by_cases h1 : idFaultR x id ≠ 0
 ·
  rw [if_pos h1, if_pos h1, if_pos h1]
 rw [if_neg h1, if_neg h1]
 by_cases h2 : 9999 ≤ x.events
 ·
  rw [if_pos h2, if_pos h2, if_pos (show ((2 : Int) ≠ 0) by omega)]
 rw [if_neg h2, if_neg h2, if_neg (show ¬ ((0 : Int) ≠ 0) by omega)]
theorem l12BadCZ (c : Int) (w : World) :
  Calls Tryz.prog 61 #[.int .i64 c] w fun e w' => e = .returned (.agg #[.int .i64 c, .bool false, .int .i64 0, .int .i64 0, .int .i64 0, .slice none 0 0, .slice none 0 0, .slice none 0 0, .slice none 0 0]) ∧ Below w.heap.size w w' := by
 have HB : Hid (∀ o, Below w.heap.size w (w.alloc o)) := fun o => (Below.refl _ _).alloc (Nat.le_refl _) o
 go_enter Tryz.func61, Tryz.ntmps61
 go_wp2_with fail
 refine bodyPost_ret (v := .agg #[.int .i64 c, .bool false, .int .i64 0, .int .i64 0, .int .i64 0, .slice none 0 0, .slice none 0 0, .slice none 0 0, .slice none 0 0]) (by simp [results, Tryz.results61, go_sem]) rfl ?_
 exact ⟨rfl, uh HB _⟩
theorem l12AskedC (a3 : Option Addr) (d3 : Nat) (a4 : Option Addr) (d4 : Nat) (a5 : Option Addr) (d5 : Nat) (a6 : Option Addr) (d6 : Nat) (x : DWorld) (id : Int) (xb : Nat) (w : World) (hX : Box 0 #[.int .i64 x.now, .int .i64 x.events, .int .i64 x.chain.epoch, .slice a3 x.chain.ids.length d3, .slice a4 x.nodes.length d4, .slice a5 x.msgs.length d5, .slice a6 x.history.length d6] 36 w xb) (h : Lay.tWorld.Reads w [.int .i64 x.now, .int .i64 x.events, .int .i64 x.chain.epoch, .slice a3 x.chain.ids.length d3, .slice a4 x.nodes.length d4, .slice a5 x.msgs.length d5, .slice a6 x.history.length d6] x) :
  Calls Tryz.prog 60 #[.pointer (some ⟨xb, 0, none⟩), .int .i64 id] w fun e w' => e = .returned (.int .i64 (askedW x id)) ∧ Below w.heap.size w w' := by
 have HX := yh hX
 have HP : Hid (askedW x id = if worldFault x ≠ 0 then worldFault x else if nodeIn x id = false then 4 else if 9999 ≤ x.events then 2 else 0) := rfl
 have HL := yh (l12FaultC a3 d3 a4 d4 a5 d5 a6 d6 x xb w hX h)
 clear hX h
 generalize askedW x id = r at *
 go_enter Tryz.func60, Tryz.ntmps60
 go_wp2_with fail
 refine (uh HL).mono ?_
 rintro e w2 ⟨rfl, hb⟩
 have hx := (uh HX).keep hb
 have HB := yh hb
 clear hb HL HX
 by_cases d1 : worldFault x ≠ 0
 ·
  have hd : (worldFault x != 0) = true := by simpa using d1
  replace HP := yh ((uh HP).trans (if_pos d1))
  clear d1 hx
  generalize worldFault x = c at *
  go_wp2_with fail
  go_ret
  exact ⟨by rw [uh HP]; rfl, uh HB⟩
 replace HP := yh ((uh HP).trans (if_neg d1))
 have hd : worldFault x = 0 := by simpa using d1
 clear d1
 rw [hd]
 clear hd
 have HL := yh (l12NodeC a3 d3 a4 d4 a5 d5 a6 d6 x id xb w2 hx)
 have z1 := Box.at hx 1 _ rfl
 simp only [ga, gb, gc] at z1
 have xl := hx.lt
 clear hx
 go_wp2_with fail
 refine (uh HL).mono ?_
 rintro e w3 ⟨rfl, h3⟩
 subst w3
 clear HL
 generalize nodeIn x id = q at *
 cases q
 ·
  replace HP := yh ((uh HP).trans (if_pos rfl))
  go_wp2_with fail
  go_ret
  exact ⟨by rw [uh HP]; rfl, uh HB⟩
 replace HP := yh ((uh HP).trans (if_neg (by simp)))
 by_cases he : 9999 ≤ x.events
 ·
  have hd : decide (9999 ≤ x.events) = true := by simpa using he
  replace HP := yh ((uh HP).trans (if_pos he))
  clear he
  go_wp2_with fail
  go_ret
  exact ⟨by rw [uh HP]; rfl, uh HB⟩
 have hd : decide (9999 ≤ x.events) = false := by simpa using he
 replace HP := yh ((uh HP).trans (if_neg he))
 clear he
 go_wp2_with fail
 go_ret
 exact ⟨by rw [uh HP]; rfl, uh HB⟩
theorem l12NextC (cs : List Value) (x : DWorld) (w : World) (h : Lay.tWorld.Reads w cs x) (hok : WorldOK x) (hf : Fits x) :
  Calls Tryz.prog 84 #[.agg cs.toArray] w fun e w' => ∃ cs', e = .returned (.agg cs'.toArray) ∧ WNew w' w.heap.size w'.heap.size cs' (nextW x) ∧ Below w.heap.size w w' := by
 obtain ⟨a3, d3, a4, d4, a5, d5, a6, d6, rfl, -, -, -, -⟩ := open_World h
 have nb : Below w.heap.size w ((w.alloc (.cells #[.int .i64 x.now, .int .i64 x.events, .int .i64 x.chain.epoch, .slice a3 x.chain.ids.length d3, .slice a4 x.nodes.length d4, .slice a5 x.msgs.length d5, .slice a6 x.history.length d6] 36)).alloc (.cells #[.int .i64 0, .int .i64 0, .int .i64 0, .slice none 0 0, .slice none 0 0, .slice none 0 0, .slice none 0 0] 36)) := ((Below.refl _ _).alloc (Nat.le_refl _) _).alloc (by simp) _
 have HX : Hid (Box 0 #[.int .i64 x.now, .int .i64 x.events, .int .i64 x.chain.epoch, .slice a3 x.chain.ids.length d3, .slice a4 x.nodes.length d4, .slice a5 x.msgs.length d5, .slice a6 x.history.length d6] 36 ((w.alloc (.cells #[.int .i64 x.now, .int .i64 x.events, .int .i64 x.chain.epoch, .slice a3 x.chain.ids.length d3, .slice a4 x.nodes.length d4, .slice a5 x.msgs.length d5, .slice a6 x.history.length d6] 36)).alloc (.cells #[.int .i64 0, .int .i64 0, .int .i64 0, .slice none 0 0, .slice none 0 0, .slice none 0 0, .slice none 0 0] 36)) w.heap.size) := (newBox (Nat.zero_le _)).grow _
 have HY : Hid (Box 0 #[.int .i64 0, .int .i64 0, .int .i64 0, .slice none 0 0, .slice none 0 0, .slice none 0 0, .slice none 0 0] 36 ((w.alloc (.cells #[.int .i64 x.now, .int .i64 x.events, .int .i64 x.chain.epoch, .slice a3 x.chain.ids.length d3, .slice a4 x.nodes.length d4, .slice a5 x.msgs.length d5, .slice a6 x.history.length d6] 36)).alloc (.cells #[.int .i64 0, .int .i64 0, .int .i64 0, .slice none 0 0, .slice none 0 0, .slice none 0 0, .slice none 0 0] 36)) (w.heap.size + 1)) := newBoxAt (Nat.zero_le _) (by simp)
 have hz0 : ((w.alloc (.cells #[.int .i64 x.now, .int .i64 x.events, .int .i64 x.chain.epoch, .slice a3 x.chain.ids.length d3, .slice a4 x.nodes.length d4, .slice a5 x.msgs.length d5, .slice a6 x.history.length d6] 36)).alloc (.cells #[.int .i64 0, .int .i64 0, .int .i64 0, .slice none 0 0, .slice none 0 0, .slice none 0 0, .slice none 0 0] 36)).heap.size = w.heap.size + 2 := by simp
 have HL := yh (l12CopyC _ x _ (h.later nb) hok hf)
 have HB := yh nb
 have HEV := yh hok.events
 clear nb h hok hf
 go_enter Tryz.func84, Tryz.ntmps84
 go_upto_region 1 with fail
 generalize ((w.alloc (.cells #[.int .i64 x.now, .int .i64 x.events, .int .i64 x.chain.epoch, .slice a3 x.chain.ids.length d3, .slice a4 x.nodes.length d4, .slice a5 x.msgs.length d5, .slice a6 x.history.length d6] 36)).alloc (.cells #[.int .i64 0, .int .i64 0, .int .i64 0, .slice none 0 0, .slice none 0 0, .slice none 0 0, .slice none 0 0] 36)) = W0 at *
 have z0 := Box.at (uh HX) 0 _ rfl
 have z1 := Box.at (uh HX) 1 _ rfl
 have z2 := Box.at (uh HX) 2 _ rfl
 have z3 := Box.at (uh HX) 3 _ rfl
 have z4 := Box.at (uh HX) 4 _ rfl
 have z5 := Box.at (uh HX) 5 _ rfl
 have z6 := Box.at (uh HX) 6 _ rfl
 simp only [ga, gb, gc] at z0 z1 z2 z3 z4 z5 z6
 have zl := (uh HX).lt
 go_wp2_with fail
 refine (uh HL).mono ?_
 rintro e W1 ⟨cs', rfl, O, hb⟩
 obtain ⟨a3w, d3w, a4w, d4w, a5w, d5w, a6w, d6w, rfl, -⟩ := open_World O.reads
 have hz1 : W0.heap.size ≤ W1.heap.size := hb.size
 have nb : Below W1.heap.size W1 (W1.alloc (.cells #[.int .i64 x.now, .int .i64 x.events, .int .i64 x.chain.epoch, .slice a3w x.chain.ids.length d3w, .slice a4w x.nodes.length d4w, .slice a5w x.msgs.length d5w, .slice a6w x.history.length d6w] 36)) := (Below.refl _ _).alloc (Nat.le_refl _) _
 have HG : Hid (Box 0 #[.int .i64 x.now, .int .i64 x.events, .int .i64 x.chain.epoch, .slice a3w x.chain.ids.length d3w, .slice a4w x.nodes.length d4w, .slice a5w x.msgs.length d5w, .slice a6w x.history.length d6w] 36 (W1.alloc (.cells #[.int .i64 x.now, .int .i64 x.events, .int .i64 x.chain.epoch, .slice a3w x.chain.ids.length d3w, .slice a4w x.nodes.length d4w, .slice a5w x.msgs.length d5w, .slice a6w x.history.length d6w] 36)) W1.heap.size) := newBox (Nat.zero_le _)
 have HO := yh (O.later nb)
 replace HY := yh (((uh HY).keep hb).keep nb)
 replace HX := yh (((uh HX).keep hb).keep nb)
 replace HB := yh ((uh HB).trans ((hb.trans (nb.mono hb.size)).mono (uh HB).size))
 have hz2 : W1.heap.size < (W1.alloc (.cells #[.int .i64 x.now, .int .i64 x.events, .int .i64 x.chain.epoch, .slice a3w x.chain.ids.length d3w, .slice a4w x.nodes.length d4w, .slice a5w x.msgs.length d5w, .slice a6w x.history.length d6w] 36)).heap.size := by simp
 clear nb O hb HL z0 z1 z2 z3 z4 z5 z6 zl
 go_upto_region 2 with fail
 generalize W1.alloc (.cells #[.int .i64 x.now, .int .i64 x.events, .int .i64 x.chain.epoch, .slice a3w x.chain.ids.length d3w, .slice a4w x.nodes.length d4w, .slice a5w x.msgs.length d5w, .slice a6w x.history.length d6w] 36) = W2 at *
 have hx := uh HX
 have hg := uh HG
 have z1 := Box.at hx 1 _ rfl
 have y1 := Box.at hg 1 _ rfl
 simp only [ga, gb, gc] at z1 y1
 have zl := hx.lt
 have yl := hg.lt
 have yf := Box.soft hg
 have hev := uh HEV
 have hg2 := Box.set hg 1 (.int .i64 (x.events + 1))
 simp only [List.setIfInBounds_toArray, List.set_cons_zero, List.set_cons_succ] at hg2
 have e1 : Ext (fun q => q = W1.heap.size) W2 (W2.setCell ⟨W1.heap.size, 1, none⟩ (.int .i64 (x.events + 1))) := (Ext.refl _ _).setCell _ _ rfl
 have hO2 := ((uh HO).ext e1 (fun k h1 h2 h3 => by omega)).count x.now (x.events + 1) (wf_World (uh HO).reads).1 (wf_of_bd (by omega))
 replace HG := yh hg2
 replace HO := yh hO2
 replace HY := yh ((uh HY).ext e1 (by omega))
 replace HB := yh ((uh HB).setCell (p := ⟨W1.heap.size, 1, none⟩) (by simp; omega) (.int .i64 (x.events + 1)))
 have hz3 : W2.heap.size ≤ (W2.setCell ⟨W1.heap.size, 1, none⟩ (.int .i64 (x.events + 1))).heap.size := by simp
 clear hx hg hg2 e1 hO2 HX
 go_upto_region 3 with fail
 generalize hW : W2.setCell ⟨W1.heap.size, 1, none⟩ (.int .i64 (x.events + 1)) = W3 at *
 clear hW y1 yf yl z1 zl hev
 have y0 := Box.at (uh HG) 0 _ rfl
 have y1 := Box.at (uh HG) 1 _ rfl
 have y2 := Box.at (uh HG) 2 _ rfl
 have y3 := Box.at (uh HG) 3 _ rfl
 have y4 := Box.at (uh HG) 4 _ rfl
 have y5 := Box.at (uh HG) 5 _ rfl
 have y6 := Box.at (uh HG) 6 _ rfl
 simp only [ga, gb, gc] at y0 y1 y2 y3 y4 y5 y6
 have yl := (uh HG).lt
 have r0 := Box.at (uh HY) 0 _ rfl
 have r1 := Box.at (uh HY) 1 _ rfl
 have r2 := Box.at (uh HY) 2 _ rfl
 have r3 := Box.at (uh HY) 3 _ rfl
 have r4 := Box.at (uh HY) 4 _ rfl
 have r5 := Box.at (uh HY) 5 _ rfl
 have r6 := Box.at (uh HY) 6 _ rfl
 simp only [ga, gb, gc] at r0 r1 r2 r3 r4 r5 r6
 have rl := (uh HY).lt
 have rf := Box.soft (uh HY)
 have e9 : Ext (fun q => q = w.heap.size + 1) W3 (setAll W3 (w.heap.size + 1) 0 [.int .i64 x.now, .int .i64 (x.events + 1), .int .i64 x.chain.epoch, .slice a3w x.chain.ids.length d3w, .slice a4w x.nodes.length d4w, .slice a5w x.msgs.length d5w, .slice a6w x.history.length d6w]) := ext_setAll _ (Ext.refl _ _) _ _ _ rfl
 have HO9 := yh (((uh HO).ext e9 (fun k h1 h2 h3 => by omega)).mono (show w.heap.size ≤ W0.heap.size by omega) (show W1.heap.size ≤ (setAll W3 (w.heap.size + 1) 0 [.int .i64 x.now, .int .i64 (x.events + 1), .int .i64 x.chain.epoch, .slice a3w x.chain.ids.length d3w, .slice a4w x.nodes.length d4w, .slice a5w x.msgs.length d5w, .slice a6w x.history.length d6w]).heap.size by rw [size_setAll]; omega))
 have HB9 := yh (below_setAll (uh HB) (w.heap.size + 1) 0 [.int .i64 x.now, .int .i64 (x.events + 1), .int .i64 x.chain.epoch, .slice a3w x.chain.ids.length d3w, .slice a4w x.nodes.length d4w, .slice a5w x.msgs.length d5w, .slice a6w x.history.length d6w] (by omega))
 clear e9 HO HG HY HB HEV
 go_wp2_with fail
 refine bodyPost_ret (v := .agg #[.int .i64 x.now, .int .i64 (x.events + 1), .int .i64 x.chain.epoch, .slice a3w x.chain.ids.length d3w, .slice a4w x.nodes.length d4w, .slice a5w x.msgs.length d5w, .slice a6w x.history.length d6w]) (by simp [results, Tryz.results84, go_sem, r0, r1, r2, r3, r4, r5, r6]) rfl ?_
 exact ⟨_, rfl, uh HO9, uh HB9⟩
theorem writes_few9 {ws : List DWrite} (h : ∀ x ∈ ws, wF x = 0) : cntAll Lay.tWrite.cnt ws ≤ 10 * ws.length := by
 induction ws with
 | nil => simp [cntAll]
 | cons x xs ih =>
  have h1 := ih fun y hy => h y (List.mem_cons_of_mem _ hy)
  have h2 : x.vec.length ≤ 3 := by
   obtain ⟨-, -, -, hk⟩ := writeFault_zero (h x (by simp))
   rcases hk with ⟨-, hv⟩ | ⟨-, hv⟩
   ·
    have := (vecFault_zero hv).1; omega
   rw [hv]; simp
  have h3 : Lay.tWrite.cnt x = x.vec.length + 4 := by
   have e : cntAll Lay.int.cnt x.vec = x.vec.length := by
    generalize x.vec = l
    induction l with
    | nil => rfl
    | cons y ys ihy => simp only [cntAll, List.length_cons, ihy]; show 1 + ys.length = _; omega
   show 1 + (1 + (cntAll Lay.int.cnt x.vec + (1 + 1))) = _
   omega
  simp only [cntAll, List.length_cons]
  omega
theorem ints_cnt (l : List Int) : cntAll Lay.int.cnt l = l.length := by
 induction l with
 | nil => rfl
 | cons y ys ih => simp only [cntAll, List.length_cons, ih]; show 1 + ys.length = _; omega
structure FewW (y : DWorld) : Prop where
 ids : y.chain.ids.length ≤ 1000
 len : y.nodes.length ≤ 1000
 nodes : ∀ n ∈ y.nodes, n.writes.length ≤ 1000 ∧ ∀ v ∈ n.writes, wF v = 0
 mlen : y.msgs.length ≤ 1000
 msgs : ∀ m ∈ y.msgs, m.write.vec.length ≤ 1000
 hist : cntAll Lay.tEntry.cnt y.history ≤ 20000000
theorem nodes_cnt {ns : List DNode} (h : ∀ n ∈ ns, n.writes.length ≤ 1000 ∧ ∀ v ∈ n.writes, wF v = 0) : cntAll Lay.tNode.cnt ns ≤ 10006 * ns.length := by
 induction ns with
 | nil => simp [cntAll]
 | cons n ns ih =>
  have h1 := ih fun m hm => h m (List.mem_cons_of_mem _ hm)
  obtain ⟨h2, h3⟩ := h n (by simp)
  have h4 := writes_few9 h3
  have h5 : Lay.tNode.cnt n = cntAll Lay.tWrite.cnt n.writes + 6 := by
   show 1 + (1 + (1 + (1 + (cntAll Lay.tWrite.cnt n.writes + (1 + 1))))) = _
   omega
  simp only [cntAll, List.length_cons]
  omega
theorem msg_vec9 {x : DMsg} (h : msgFault x = 0) : x.write.vec.length ≤ 3 := by
 unfold msgFault at h
 split at h
 ·
  simp at h
 rename_i h1
 split at h
 ·
  simp at h
 split at h
 ·
  rename_i h3
  have h4 : noW x.write := Decidable.byContradiction fun q => h1 (Or.inr (Or.inr ⟨h3, q⟩))
  have := h4.2.2.2.2
  omega
 obtain ⟨-, -, -, hk⟩ := writeFault_zero h
 rcases hk with ⟨-, hv⟩ | ⟨-, hv⟩
 ·
  have := (vecFault_zero hv).1; omega
 rw [hv]; simp
theorem msgs_cnt {ms : List DMsg} (h : ∀ m ∈ ms, m.write.vec.length ≤ 1000) : cntAll Lay.tMsg.cnt ms ≤ 1009 * ms.length := by
 induction ms with
 | nil => simp [cntAll]
 | cons m ms ih =>
  have h1 := ih fun q hq => h q (List.mem_cons_of_mem _ hq)
  have h2 := h m (by simp)
  have h5 : Lay.tMsg.cnt m = m.write.vec.length + 9 := by
   show 1 + (1 + (1 + (1 + (1 + (1 + (1 + (cntAll Lay.int.cnt m.write.vec + (1 + 1)))))))) = _
   rw [ints_cnt]
   omega
  simp only [cntAll, List.length_cons]
  omega
theorem hits_cnt (hs : List DHit) : cntAll Lay.tHit.cnt hs = 2 * hs.length := by
 induction hs with
 | nil => rfl
 | cons y ys ih => simp only [cntAll, List.length_cons, ih]; show 1 + 1 + 2 * ys.length = _; omega
theorem entries_cnt (es : List DEntry) : cntAll Lay.tEntry.cnt es ≤ 8 * es.length + 2 * cntAll Lay.tEntry.sz es := by
 induction es with
 | nil => simp [cntAll]
 | cons e es ih =>
  have h1 : Lay.tEntry.cnt e = 8 + e.query.length + e.vec.length + 2 * e.hits.length := by
   show 1 + (1 + (1 + (1 + (cntAll Lay.int.cnt e.query + (1 + (1 + (1 + (1 + (cntAll Lay.int.cnt e.vec + cntAll Lay.tHit.cnt e.hits))))))))) = _
   rw [ints_cnt, ints_cnt, hits_cnt]
   omega
  have h2 : e.query.length + e.vec.length + e.hits.length ≤ Lay.tEntry.sz e := by
   show _ ≤ 0 + (0 + (0 + (0 + ((e.query.length + cntAll Lay.int.sz e.query) + (0 + (0 + (0 + (0 + ((e.vec.length + cntAll Lay.int.sz e.vec) + (e.hits.length + cntAll Lay.tHit.sz e.hits))))))))))
   omega
  simp only [cntAll, List.length_cons]
  omega
theorem few_of_ok {x : DWorld} (h : WorldOK x) (hs : Lay.tWorld.sz x ≤ 1048576) : FewW x := by
 have hx : Lay.tWorld.sz x = 0 + (0 + ((0 + (x.chain.ids.length + cntAll Lay.int.sz x.chain.ids)) + ((x.nodes.length + cntAll Lay.tNode.sz x.nodes) + ((x.msgs.length + cntAll Lay.tMsg.sz x.msgs) + (x.history.length + cntAll Lay.tEntry.sz x.history))))) := rfl
 have h1 := (chainFault_zero h.chain).len
 have h2 := entries_cnt x.history
 refine ⟨by omega, by have := h.some; omega, fun n hn => ?_, by have := (netFault_zero h.net).1; omega, fun m hm => ?_, by omega⟩
 ·
  obtain ⟨k, hk, rfl⟩ := List.getElem_of_mem hn
  have hok := nodeFault_zero (h.nodes k hk).1
  exact ⟨by have := hok.len; omega, hok.ws⟩
 have := msg_vec9 ((netFault_zero h.net).2 m hm)
 omega
theorem few_vcnt {y : DWorldResult} (h : FewW y.world) : Lay.tWorldResult.vcnt y ≤ 100000000 := by
 rw [vcnt_WorldResult, vcnt_World, vcnt_Chain]
 show cntAll Lay.int.cnt y.world.chain.ids + cntAll Lay.tNode.cnt y.world.nodes + cntAll Lay.tMsg.cnt y.world.msgs + cntAll Lay.tEntry.cnt y.world.history ≤ 100000000
 rw [ints_cnt]
 have h1 := nodes_cnt h.nodes
 have h2 := msgs_cnt h.msgs
 have h3 := h.ids
 have h4 := h.len
 have h5 := h.mlen
 have h6 := h.hist
 omega
theorem badW_few (c : Int) : Lay.tWorldResult.vcnt (badWorld c) ≤ 100000000 := few_vcnt ⟨by simp [badWorld, noWorld, noChain], by simp [badWorld, noWorld], by simp [badWorld, noWorld], by simp [badWorld, noWorld], by simp [badWorld, noWorld], by simp [badWorld, noWorld, cntAll]⟩
def withMsgs (y : DWorld) (ms : List DMsg) : DWorld := ⟨y.now, y.events, y.chain, y.nodes, ms, y.history⟩
theorem ne_at_l1Same {ps qs : List Int} {k : Nat} (h : ps.getD k 0 ≠ qs.getD k 0) : decide (ps = qs) = false := by
 simp only [decide_eq_false_iff_not]
 rintro rfl
 exact h rfl
theorem eq_all_l1Same {ps qs : List Int} (hl : ps.length = qs.length) (h : ∀ j, j < ps.length → ps.getD j 0 = qs.getD j 0) : decide (ps = qs) = true := by
 simp only [decide_eq_true_eq]
 refine List.ext_getElem hl fun j h1 h2 => ?_
 have := h j h1
 simpa [List.getD, h1, h2] using this
theorem l1Same_pos (b off cap b2 off2 cap2 : Nat) (ps qs : List Int) (w : World) (hl : ps.length = qs.length) (hn : ps.length ≤ 9223372036854775807) (hc : ∀ j, j < ps.length → w.cell? ⟨b, off + j, none⟩ = some (.int .i64 (ps.getD j 0)))
  (hc2 : ∀ j, j < ps.length → w.cell? ⟨b2, off2 + j, none⟩ = some (.int .i64 (qs.getD j 0))) :
  Calls Tryz.prog 300 #[.slice (some ⟨b, off, none⟩) ps.length cap, .slice (some ⟨b2, off2, none⟩) ps.length cap2] w fun e w' => e = .returned (.bool (decide (ps = qs))) ∧ Below w.heap.size w w' := by
 have HL := yh hl
 clear hl
 go_enter Tryz.func300, Tryz.ntmps300
 go_wp2
 go_loopw [5] (fun i wr => ∃ k : Nat, k ≤ ps.length ∧ i = .int .i64 k ∧ Below w.heap.size w wr ∧ ∀ j, j < k → ps.getD j 0 = qs.getD j 0) (fun i _ => ps.length - (intOf i).toNat)
 case atStart => exact ⟨0, Nat.zero_le _, rfl, Below.refl _ _, fun j hj => by omega⟩
 case round =>
  obtain ⟨k, hk, rfl, hB, hq⟩ := hrel
  by_cases hlt : k < ps.length
  ·
   have hcx : wr.cell? ⟨b, off + k, none⟩ = some (.int .i64 (ps.getD k 0)) := (hB.cell (World.block_lt_of_cell? _ _ (hc k hlt))).trans (hc k hlt)
   have hcy : wr.cell? ⟨b2, off2 + k, none⟩ = some (.int .i64 (qs.getD k 0)) := (hB.cell (World.block_lt_of_cell? _ _ (hc2 k hlt))).trans (hc2 k hlt)
   have HQ := yh hq
   have HB := yh hB
   clear hc hc2 hq hB
   by_cases he : ps.getD k 0 = qs.getD k 0
   ·
    have HE := yh he
    rw [← he] at hcy
    clear he
    generalize ps.getD k 0 = x at hcx hcy
    have hxx : (x != x) = false := by simp
    go_wp2
    go_quiet (fail)
    go_wp2
    go_roundw
    case rel =>
     refine ⟨k + 1, by omega, by go_num, below_drewN (uh HB) _, fun j hj => ?_⟩
     by_cases hjk : j < k
     ·
      exact uh HQ j hjk
     obtain rfl : j = k := by omega
     exact uh HE
    case measure => simp [intOf]; omega
   have HN := yh (ne_at_l1Same he)
   have hxy : (ps.getD k 0 != qs.getD k 0) = true := by rw [bne_iff_ne]; exact he
   clear he
   generalize ps.getD k 0 = x at hcx hxy
   generalize qs.getD k 0 = y at hcy hxy
   go_wp2
   go_quiet (fail)
   go_wp2
   go_ret
   exact ⟨by rw [uh HN]; rfl, below_drewN (uh HB) _⟩
  obtain rfl : k = ps.length := by omega
  have HN := yh (eq_all_l1Same (uh HL) hq)
  have HB := yh hB
  clear hc hc2 hq hB
  go_wp2
  go_ret
  exact ⟨by rw [uh HN]; rfl, uh HB⟩
theorem l1Same_len (ao ao2 : Option Addr) (n m cap cap2 : Nat) (w : World) (h : n ≠ m) :
  Calls Tryz.prog 300 #[.slice ao n cap, .slice ao2 m cap2] w fun e w' => e = .returned (.bool false) ∧ Below w.heap.size w w' := by
 have hd : ((n : Int) != (m : Int)) = true := by rw [bne_iff_ne]; omega
 go_enter Tryz.func300, Tryz.ntmps300
 go_wp2
 go_ret
 exact ⟨rfl, Below.refl _ _⟩
theorem l1Same_zero (ao ao2 : Option Addr) (cap cap2 : Nat) (w : World) :
  Calls Tryz.prog 300 #[.slice ao 0 cap, .slice ao2 0 cap2] w fun e w' => e = .returned (.bool true) ∧ Below w.heap.size w w' := by
 go_enter Tryz.func300, Tryz.ntmps300
 go_wp2
 refine wp_loop_rounds 1 ?_
 rw [rounds_succ]
 go_wp2
 go_ret
 exact ⟨rfl, Below.refl _ _⟩
theorem l1Same (v v2 : Value) (ps qs : List Int) (w : World) (h : IsInts w v ps) (h2 : IsInts w v2 qs) (hn : ps.length ≤ 9223372036854775807) :
  Calls Tryz.prog 300 #[v, v2] w fun e w' => e = .returned (.bool (decide (ps = qs))) ∧ Below w.heap.size w w' := by
 obtain ⟨ao, cap, rfl, hwf, hc⟩ := h
 obtain ⟨ao2, cap2, rfl, _, hc2⟩ := h2
 by_cases hl : ps.length = qs.length
 ·
  by_cases hp : 0 < ps.length
  ·
   obtain ⟨b, off, rfl, hc1⟩ := hc hp
   obtain ⟨b2, off2, rfl, hc3⟩ := hc2 (by omega)
   rw [← hl] at hc3 ⊢
   exact l1Same_pos b off cap b2 off2 cap2 ps qs w hl hn hc1 hc3
  obtain rfl : ps = [] := List.eq_nil_of_length_eq_zero (by omega)
  obtain rfl : qs = [] := List.eq_nil_of_length_eq_zero (by simpa using hl.symm)
  exact l1Same_zero ao ao2 cap cap2 w
 rw [show decide (ps = qs) = false by simp only [decide_eq_false_iff_not]; rintro rfl; exact hl rfl]
 exact l1Same_len ao ao2 _ _ cap cap2 w hl
end Go.Proofs.YtoanimpijfijgaaGreat
