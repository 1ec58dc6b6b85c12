/-
  Texts of this proof in one: CloneH, CopyHs, ImplCopiedM, ImplWC, ImplDone, ImplStepped, FacePlain, SpecWA, SpecWNext, SpecWPut, AskedPlain, SpecSyncN.
  Their conditions stand in their theorems.
-/
import Derived.Test.YtdnhmoppineegaaGreatSw06
import Derived.Test.YtdnhmoppineegaaGreatSw04
import Derived.Test.YtdnhmoppineegaaGreatSw13
import Derived.Test.YtdnhmoppineegaaGreatChecked
import Derived.Test.YtdnhmoppineegaaGreatSw01
import Derived.Test.YtdnhmoppineegaaGreatSw03
import Derived.WalkKit
import Derived.Deep.CutRange
import Derived.Defers
import Derived.Recover
import Derived.Laws.Pointers
import Derived.Test.YtdnhmoppineegaaGreatSw12
import Derived.Test.YtdnhmoppineegaaGreatSw08
import Derived.Test.YtdnhmoppineegaaGreatSw05

namespace Go.Proofs.YtdnhmoppineegaaGreat
open Go.RowKit

theorem hit_bl {w : World} {row : List Value} {x : DHit} {bl : List Nat} (h : Lay.tHit.lies w row x bl) : bl = [] := by
  obtain ⟨rfl, -⟩ := (lies_Hit.1 h).2
  rfl
theorem hits_flat {w : World} {base T : Nat} {v : Value} {rows : List (List Value)} {xs : List DHit} {bls : List (List Nat)} (h : Grow Lay.tHit w base T v rows xs bls) : bls.flatten = [] := by
  rw [List.flatten_eq_nil_iff]
  intro l hl
  obtain ⟨j, hj, rfl⟩ := List.getElem_of_mem hl
  have n1 := h.nbls
  have n2 := h.nrows
  exact hit_bl (h.lies j (by omega) (by omega) hj)
set_option maxRecDepth 10000 in
set_option maxHeartbeats 2000000 in
theorem cloneH_nil (d : Nat) (w : World) : Calls Tryz.prog 239 #[.slice none 0 d] w fun e w' => e = .returned (.slice none 0 0) ∧ Below w.heap.size w w' := by
  have hnil : ∀ w : World, (binOp .eql 128 (.slice none 0 d) (.slice none 0 0)).run Tryz.prog w = .ok (.bool true) w := fun _ => by kernel_rfl
  go_enter Tryz.func239, Tryz.ntmps239
  go_wp2_with fail
  go_ret
  exact ⟨rfl, Below.refl _ _⟩
set_option maxRecDepth 10000 in
set_option maxHeartbeats 2000000 in
theorem cloneH (v : Value) (zs : List DHit) (w : World) (h : (Lay.sl Lay.tHit).Reads w [v] zs) (hn : zs.length ≤ 10000000) :
    Calls Tryz.prog 239 #[v] w fun e w' => ∃ a c, e = .returned (.slice a zs.length c) ∧ (Lay.sl Lay.tHit).OwnIn w' [.slice a zs.length c] zs w.heap.size w'.heap.size ∧ Below w.heap.size w w' := by
  obtain ⟨ao, cap, rfl⟩ := open_sl h
  cases ao with
  | none =>
    have h0 : zs = [] := by
      by_cases hp : 0 < zs.length
      · obtain ⟨b, off, e, -⟩ := Lay.sl_addr h hp
        cases e
      · exact List.eq_nil_of_length_eq_zero (by omega)
    subst h0
    refine (cloneH_nil cap w).mono ?_
    rintro e w' ⟨rfl, hb⟩
    exact ⟨none, 0, rfl, nil_own, hb⟩
  | some ad =>
    have nb : Below w.heap.size w (w.alloc (.cells #[] 190)) := (Below.refl _ _).alloc (Nat.le_refl _) _
    have O : (w.alloc (.cells #[] 190)).ownsRow w.heap.size 190 2 (.slice (some ⟨w.heap.size, 0, none⟩) 0 0) 0 [] := World.ownsRow_lit w _ 0 (Nat.le_refl _) (by unfold maxLen; omega) rfl
    have G : Grow Lay.tHit (w.alloc (.cells #[] 190)) w.heap.size 190 (.slice (some ⟨w.heap.size, 0, none⟩) 0 0) [] [] [] := Grow.nil O
    have h1 := h.liesIn.later nb
    have HB := hide nb
    have HN := hide hn
    have hnil : ∀ w : World, (binOp .eql 128 (.slice (some ad) zs.length cap) (.slice none 0 0)).run Tryz.prog w = .ok (.bool false) w := fun _ => by kernel_rfl
    clear nb h O
    go_enter Tryz.func239, Tryz.ntmps239
    go_wp2_with (at_builtin; refine wpList_append_hitsL G h1 rfl _ _ rfl rfl rfl ?hn1 ?hn2 ?_)
    case hn1 => have := unhide HN; simp; omega
    case hn2 => simp
    rintro a' m' cap' w' rows' bls' G2 hb hm -
    obtain rfl : m' = zs.length := by simpa using hm
    have hfl := hits_flat G2
    have HO : Hid ((Lay.sl Lay.tHit).OwnIn w' [.slice a' zs.length cap'] zs w.heap.size w'.heap.size) := G2.toOwn (by have := unhide HN; omega) (by rw [hfl]; simp) (by rw [hfl]; simp)
    have HB2 := hide ((unhide HB).trans (hb.mono (Nat.le_refl _)))
    clear G h1 hb HB G2 hfl hm
    go_wp2_with fail
    go_ret
    exact ⟨a', cap', rfl, unhide HO, unhide HB2⟩
end Go.Proofs.YtdnhmoppineegaaGreat

namespace Go.Proofs.YtdnhmoppineegaaGreat
open Go.RowKit

theorem wf_Entry {w : World} {cs : List Value} {x : DEntry} (h : Lay.tEntry.Reads w cs x) : (Lit.int .i64 x.kind).wf = true ∧ (Lit.int .i64 x.session).wf = true ∧ (Lit.int .i64 x.seq).wf = true ∧ (Lit.int .i64 x.id).wf = true ∧ (Lit.int .i64 x.k).wf = true ∧ (Lit.int .i64 x.start).wf = true ∧ (Lit.int .i64 x.fin).wf = true ∧ (Lit.int .i64 x.place).wf = true := by
  obtain ⟨bl, h⟩ := h
  obtain ⟨_, _, _, _, _, _, _, _, _, -, -, w0, w1, w2, w3, -, w5, w6, w7, w8, -, -⟩ := lies_Entry.1 h
  exact ⟨w0, w1, w2, w3, w5, w6, w7, w8⟩
theorem own_entryC {w : World} {x : DEntry} {v u s : Value} {l0 h0 l1 h1 l2 h2 : Nat} (p : (Lay.sl Lay.int).OwnIn w [v] x.query l0 h0) (q : (Lay.sl Lay.int).OwnIn w [u] x.vec l1 h1) (r : (Lay.sl Lay.tHit).OwnIn w [s] x.hits l2 h2) (e1 : h0 ≤ l1) (e2 : h1 ≤ l2) (e3 : l0 ≤ l1) (e4 : l1 ≤ l2) (e5 : h1 ≤ h2) (e6 : h0 ≤ h2) (hw : (Lit.int .i64 x.kind).wf = true ∧ (Lit.int .i64 x.session).wf = true ∧ (Lit.int .i64 x.seq).wf = true ∧ (Lit.int .i64 x.id).wf = true ∧ (Lit.int .i64 x.k).wf = true ∧ (Lit.int .i64 x.start).wf = true ∧ (Lit.int .i64 x.fin).wf = true ∧ (Lit.int .i64 x.place).wf = true) :
    Lay.tEntry.OwnIn w [.int .i64 x.kind, .int .i64 x.session, .int .i64 x.seq, .int .i64 x.id, v, .int .i64 x.k, .int .i64 x.start, .int .i64 x.fin, .int .i64 x.place, u, s] x l0 h2 := by
  obtain ⟨b1, O1, i1⟩ := p
  obtain ⟨b2, O2, i2⟩ := q
  obtain ⟨b3, O3, i3⟩ := r
  obtain ⟨w0, w1, w2, w3, w5, w6, w7, w8⟩ := hw
  refine ⟨b1 ++ (b2 ++ b3), mkOwn_Entry O1 O2 O3 w0 w1 w2 w3 w5 w6 w7 w8 ?_, ?_⟩
  · rw [List.nodup_append, List.nodup_append]
    refine ⟨O1.2.1, ⟨O2.2.1, O3.2.1, fun a ha c hc e => ?_⟩, fun a ha c hc e => ?_⟩
    · have := i2 a ha; have := i3 c hc; omega
    · have := i1 a ha
      rcases List.mem_append.1 hc with hc | hc
      · have := i2 c hc; omega
      · have := i3 c hc; omega
  · intro a ha
    rcases List.mem_append.1 ha with ha | ha
    · have := i1 a ha; omega
    · rcases List.mem_append.1 ha with ha | ha
      · have := i2 a ha; omega
      · have := i3 a ha; omega
theorem infoEntryC : (Tryz.prog.info? 130).map (fun i => (i.zero, i.size, decide (i.bytes ≤ 1000))) = some (some (.agg #[.int .i64 0, .int .i64 0, .int .i64 0, .int .i64 0, .slice none 0 0, .int .i64 0, .int .i64 0, .int .i64 0, .int .i64 0, .slice none 0 0, .slice none 0 0]), 11, true) := by kernel_rfl
set_option maxRecDepth 100000 in
set_option maxHeartbeats 4000000 in
theorem copiedHistoryC (v : Value) (xs : List DEntry) (w : World) (h : (Lay.sl Lay.tEntry).Reads w [v] xs) (hlen : xs.length ≤ 1000000) (hv : ∀ x ∈ xs, x.query.length ≤ 10000000 ∧ x.vec.length ≤ 10000000 ∧ x.hits.length ≤ 10000000) :
    Calls Tryz.prog 219 #[v] w fun e w' => ∃ (g : Nat), e = .returned (.slice (some ⟨g, 0, none⟩) xs.length xs.length) ∧ (Lay.sl Lay.tEntry).OwnIn w' [.slice (some ⟨g, 0, none⟩) xs.length xs.length] xs w.heap.size w'.heap.size ∧ Below w.heap.size w w' := by
  have hbig := h.big
  obtain ⟨ao, cap, rfl⟩ := open_sl h
  obtain ⟨i0, hi, hz0, hz1, hz2⟩ : ∃ i, Tryz.prog.info? 130 = some i ∧ i.zero = some (.agg #[.int .i64 0, .int .i64 0, .int .i64 0, .int .i64 0, .slice none 0 0, .int .i64 0, .int .i64 0, .int .i64 0, .int .i64 0, .slice none 0 0, .slice none 0 0]) ∧ i.size = 11 ∧ i.bytes ≤ 1000 := by
    have := infoEntryC
    cases hq : Tryz.prog.info? 130 with
    | none => rw [hq] at this; simp at this
    | some i =>
      rw [hq] at this
      simp only [Option.map_some, Option.some.injEq, Prod.mk.injEq, decide_eq_true_eq] at this
      exact ⟨i, rfl, this.1, this.2.1, this.2.2⟩
  have H := hide h
  have HN := hide hv
  clear h hv
  go_enter Tryz.func219, Tryz.ntmps219
  go_wp2_with (at_make; refine wpList_make_full _ rfl _ _ 34 rfl w.heap.size 130 i0 _ 11 Tryz.underlying34 hi hz0 hz1 _ _ _ _ xs.length rfl rfl rfl rfl ?c1 ?c2 ?c3 ?_)
  case c1 => have := Nat.mul_le_mul hz2 hlen; omega
  case c2 => unfold maxLen; omega
  case c3 => exact Nat.le_refl _
  intro w1 hown1 hgrow1
  have hB1 : Below w.heap.size w w1 := (Below.refl _ _).grown hgrow1 (Nat.le_refl _) (by simp)
  clear hgrow1 hi hz0 hz1 hz2
  have HO1 := hide hown1
  have HB1 := hide hB1
  clear hown1 hB1
  go_wp2_with fail
  go_loopw [11] (fun i wr => ∃ (k : Nat) (rows : List (List Value)) (Q : List Value) (hi : Nat), k ≤ xs.length ∧ i = .int .i64 k ∧ wr.ownsRow w.heap.size 130 11 (.slice (some ⟨w.heap.size, 0, none⟩) xs.length xs.length) xs.length (rows.flatten ++ Q) ∧ Q.length = (xs.length - k) * 11 ∧ Lay.Subs Lay.tEntry wr rows (xs.take k) (w.heap.size + 1) hi ∧ hi ≤ wr.heap.size ∧ w.heap.size < hi ∧ Below w.heap.size w wr) (fun i _ => xs.length - (intOf i).toNat)
  case atStart =>
    have hl := ((unhide HO1).lt w.heap.size rfl).2
    exact ⟨0, [], _, w1.heap.size, Nat.zero_le _, rfl, by simpa using unhide HO1, by have := (unhide HO1).1; simpa using this, Lay.subs_nil, Nat.le_refl _, hl, unhide HB1⟩
  case round =>
    obtain ⟨k, rows, Q, hi, hk, rfl, hown, hQ, hsub, hhi, hlo, hB⟩ := hrel
    clear HO1 HB1
    by_cases hlt : k < xs.length
    · obtain ⟨b, off, rfl, hbl⟩ := Lay.sl_addr (unhide H) (by omega)
      obtain ⟨row, hc, hr⟩ := Lay.row_at (unhide H) hlt
      replace hr := hr.later hB
      have hr2 := hr
      obtain ⟨aq, dq, av, dv, ah, dh, rfl, R0, R1, R2⟩ := open_Entry hr2
      have c0 : wr.cell? ⟨b, off + k * 11, none⟩ = some (.int .i64 (xs[k]).kind) := (hB.cell (p := ⟨b, off + k * 11, none⟩) hbl).trans (hc 0 (by decide))
      have c1 : wr.cell? ⟨b, off + k * 11 + 1, none⟩ = some (.int .i64 (xs[k]).session) := (hB.cell (p := ⟨b, off + k * 11 + 1, none⟩) hbl).trans (hc 1 (by decide))
      have c2 : wr.cell? ⟨b, off + k * 11 + 2, none⟩ = some (.int .i64 (xs[k]).seq) := (hB.cell (p := ⟨b, off + k * 11 + 2, none⟩) hbl).trans (hc 2 (by decide))
      have c3 : wr.cell? ⟨b, off + k * 11 + 3, none⟩ = some (.int .i64 (xs[k]).id) := (hB.cell (p := ⟨b, off + k * 11 + 3, none⟩) hbl).trans (hc 3 (by decide))
      have c4 : wr.cell? ⟨b, off + k * 11 + 4, none⟩ = some (.slice aq (xs[k]).query.length dq) := (hB.cell (p := ⟨b, off + k * 11 + 4, none⟩) hbl).trans (hc 4 (by decide))
      have c5 : wr.cell? ⟨b, off + k * 11 + 5, none⟩ = some (.int .i64 (xs[k]).k) := (hB.cell (p := ⟨b, off + k * 11 + 5, none⟩) hbl).trans (hc 5 (by decide))
      have c6 : wr.cell? ⟨b, off + k * 11 + 6, none⟩ = some (.int .i64 (xs[k]).start) := (hB.cell (p := ⟨b, off + k * 11 + 6, none⟩) hbl).trans (hc 6 (by decide))
      have c7 : wr.cell? ⟨b, off + k * 11 + 7, none⟩ = some (.int .i64 (xs[k]).fin) := (hB.cell (p := ⟨b, off + k * 11 + 7, none⟩) hbl).trans (hc 7 (by decide))
      have c8 : wr.cell? ⟨b, off + k * 11 + 8, none⟩ = some (.int .i64 (xs[k]).place) := (hB.cell (p := ⟨b, off + k * 11 + 8, none⟩) hbl).trans (hc 8 (by decide))
      have c9 : wr.cell? ⟨b, off + k * 11 + 9, none⟩ = some (.slice av (xs[k]).vec.length dv) := (hB.cell (p := ⟨b, off + k * 11 + 9, none⟩) hbl).trans (hc 9 (by decide))
      have c10 : wr.cell? ⟨b, off + k * 11 + 10, none⟩ = some (.slice ah (xs[k]).hits.length dh) := (hB.cell (p := ⟨b, off + k * 11 + 10, none⟩) hbl).trans (hc 10 (by decide))
      have hrl : rows.flatten.length = k * 11 := by have := (Lay.subs_len hsub).1; rw [List.length_take, Nat.min_eq_left hk] at this; exact this
      have hvl := unhide HN xs[k] (List.getElem_mem hlt)
      have HT : Hid (xs.take (k + 1) = xs.take k ++ [xs[k]]) := List.take_succ_eq_append_getElem hlt
      have HB := hide hB
      have HO := hide hown
      have HS := hide hsub
      have HQ := hide hQ
      have HWF := hide (wf_Entry hr)
      have HVL := hide hvl
      have HR0 := hide R0
      have HR1 := hide R1
      have HR2 := hide R2
      clear hB hr hc hown hsub hQ hr2 hvl R0 R1 R2
      generalize hxk : xs[k] = x at *
      clear hxk
      have hbr : b < wr.heap.size := Nat.lt_of_lt_of_le hbl (unhide HB).size
      have nb : Below wr.heap.size wr (wr.alloc (.cells #[.int .i64 x.kind, .int .i64 x.session, .int .i64 x.seq, .int .i64 x.id, .slice aq x.query.length dq, .int .i64 x.k, .int .i64 x.start, .int .i64 x.fin, .int .i64 x.place, .slice av x.vec.length dv, .slice ah x.hits.length dh] 130)) := (Below.refl _ _).alloc (Nat.le_refl _) _
      have HX : Hid (Box 0 #[.int .i64 x.kind, .int .i64 x.session, .int .i64 x.seq, .int .i64 x.id, .slice aq x.query.length dq, .int .i64 x.k, .int .i64 x.start, .int .i64 x.fin, .int .i64 x.place, .slice av x.vec.length dv, .slice ah x.hits.length dh] 130 (wr.alloc (.cells #[.int .i64 x.kind, .int .i64 x.session, .int .i64 x.seq, .int .i64 x.id, .slice aq x.query.length dq, .int .i64 x.k, .int .i64 x.start, .int .i64 x.fin, .int .i64 x.place, .slice av x.vec.length dv, .slice ah x.hits.length dh] 130)) wr.heap.size) := newBox (Nat.zero_le _)
      have hz0 : (wr.alloc (.cells #[.int .i64 x.kind, .int .i64 x.session, .int .i64 x.seq, .int .i64 x.id, .slice aq x.query.length dq, .int .i64 x.k, .int .i64 x.start, .int .i64 x.fin, .int .i64 x.place, .slice av x.vec.length dv, .slice ah x.hits.length dh] 130)).heap.size = wr.heap.size + 1 := by simp
      have HV := hide nb
      clear nb
      go_upto_region 5 with fail
      generalize wr.alloc (.cells #[.int .i64 x.kind, .int .i64 x.session, .int .i64 x.seq, .int .i64 x.id, .slice aq x.query.length dq, .int .i64 x.k, .int .i64 x.start, .int .i64 x.fin, .int .i64 x.place, .slice av x.vec.length dv, .slice ah x.hits.length dh] 130) = W0 at *
      clear c0 c1 c2 c3 c4 c5 c6 c7 c8 c9 c10
      have hx := unhide HX
      have y4 := Box.at hx 4 _ rfl
      have yf := Box.soft hx
      have yl := hx.lt
      simp only [List.getElem_toArray, List.getElem_cons_zero, List.getElem_cons_succ] at y4
      have HC := hide (cloneC _ x.query W0 ((unhide HR0).later (unhide HV)) (unhide HVL).1)
      clear hx
      go_wp2_with fail
      refine (unhide HC).mono ?_
      rintro e v1 ⟨p1, n1, q1, rfl, ⟨O, rfl⟩, hb⟩
      have hz1 : W0.heap.size ≤ v1.heap.size := hb.size
      have hx := (unhide HX).keep hb
      clear y4 yf yl
      have y4 := Box.at hx 4 _ rfl
      have yf := Box.soft hx
      have yl := hx.lt
      simp only [List.getElem_toArray, List.getElem_cons_zero, List.getElem_cons_succ] at y4
      have hv := (unhide HV).trans (hb.mono (unhide HV).size)
      replace HV := hide (hv.setCell (p := ⟨wr.heap.size, 4, none⟩) (Nat.le_refl _) (.slice p1 x.query.length q1))
      have hx2 := Box.set hx 4 (.slice p1 x.query.length q1)
      simp only [List.setIfInBounds_toArray, List.set_cons_zero, List.set_cons_succ] at hx2
      replace HX := hide hx2
      have e1 : Ext (fun q => q = wr.heap.size) v1 (v1.setCell ⟨wr.heap.size, 4, none⟩ (.slice p1 x.query.length q1)) := (Ext.refl _ _).setCell _ _ rfl
      have P0 := hide (O.ext e1 (fun q h1 h2 h3 => by omega))
      have hz1' : (v1.setCell ⟨wr.heap.size, 4, none⟩ (.slice p1 x.query.length q1)).heap.size = v1.heap.size := by simp
      clear hx hx2 e1 hv O hb HC
      go_upto_region 6 with fail
      generalize hW : v1.setCell ⟨wr.heap.size, 4, none⟩ (.slice p1 x.query.length q1) = W1 at *
      clear hW y4 yf yl
      have hx := unhide HX
      have y9 := Box.at hx 9 _ rfl
      have yf := Box.soft hx
      have yl := hx.lt
      simp only [List.getElem_toArray, List.getElem_cons_zero, List.getElem_cons_succ] at y9
      have HC := hide (cloneC _ x.vec W1 ((unhide HR1).later (unhide HV)) (unhide HVL).2.1)
      clear hx
      go_wp2_with fail
      refine (unhide HC).mono ?_
      rintro e v2 ⟨p2, n2, q2, rfl, ⟨O, rfl⟩, hb⟩
      have hz2 : W1.heap.size ≤ v2.heap.size := hb.size
      have hx := (unhide HX).keep hb
      clear y9 yf yl
      have y9 := Box.at hx 9 _ rfl
      have yf := Box.soft hx
      have yl := hx.lt
      simp only [List.getElem_toArray, List.getElem_cons_zero, List.getElem_cons_succ] at y9
      have hv := (unhide HV).trans (hb.mono (unhide HV).size)
      replace HV := hide (hv.setCell (p := ⟨wr.heap.size, 9, none⟩) (Nat.le_refl _) (.slice p2 x.vec.length q2))
      have hx2 := Box.set hx 9 (.slice p2 x.vec.length q2)
      simp only [List.setIfInBounds_toArray, List.set_cons_zero, List.set_cons_succ] at hx2
      replace HX := hide hx2
      have e2 : Ext (fun q => q = wr.heap.size) v2 (v2.setCell ⟨wr.heap.size, 9, none⟩ (.slice p2 x.vec.length q2)) := (Ext.refl _ _).setCell _ _ rfl
      replace P0 := hide (((unhide P0).later hb).ext e2 (fun q h1 h2 h3 => by omega))
      have P1 := hide (O.ext e2 (fun q h1 h2 h3 => by omega))
      have hz2' : (v2.setCell ⟨wr.heap.size, 9, none⟩ (.slice p2 x.vec.length q2)).heap.size = v2.heap.size := by simp
      clear hx hx2 e2 hv O hb HC
      go_upto_region 7 with fail
      generalize hW : v2.setCell ⟨wr.heap.size, 9, none⟩ (.slice p2 x.vec.length q2) = W2 at *
      clear hW y9 yf yl
      have hx := unhide HX
      have y10 := Box.at hx 10 _ rfl
      have yf := Box.soft hx
      have yl := hx.lt
      simp only [List.getElem_toArray, List.getElem_cons_zero, List.getElem_cons_succ] at y10
      have HC := hide (cloneH _ x.hits W2 ((unhide HR2).later (unhide HV)) (unhide HVL).2.2)
      clear hx
      go_wp2_with fail
      refine (unhide HC).mono ?_
      rintro e v3 ⟨p3, q3, rfl, O, hb⟩
      have hz3 : W2.heap.size ≤ v3.heap.size := hb.size
      have hx := (unhide HX).keep hb
      clear y10 yf yl
      have y10 := Box.at hx 10 _ rfl
      have yf := Box.soft hx
      have yl := hx.lt
      simp only [List.getElem_toArray, List.getElem_cons_zero, List.getElem_cons_succ] at y10
      have hv := (unhide HV).trans (hb.mono (unhide HV).size)
      replace HV := hide (hv.setCell (p := ⟨wr.heap.size, 10, none⟩) (Nat.le_refl _) (.slice p3 x.hits.length q3))
      have hx2 := Box.set hx 10 (.slice p3 x.hits.length q3)
      simp only [List.setIfInBounds_toArray, List.set_cons_zero, List.set_cons_succ] at hx2
      replace HX := hide hx2
      have e3 : Ext (fun q => q = wr.heap.size) v3 (v3.setCell ⟨wr.heap.size, 10, none⟩ (.slice p3 x.hits.length q3)) := (Ext.refl _ _).setCell _ _ rfl
      replace P0 := hide (((unhide P0).later hb).ext e3 (fun q h1 h2 h3 => by omega))
      replace P1 := hide (((unhide P1).later hb).ext e3 (fun q h1 h2 h3 => by omega))
      have P2 := hide (O.ext e3 (fun q h1 h2 h3 => by omega))
      have hz3' : (v3.setCell ⟨wr.heap.size, 10, none⟩ (.slice p3 x.hits.length q3)).heap.size = v3.heap.size := by simp
      clear hx hx2 e3 hv O hb HC
      go_upto_region 8 with fail
      generalize hW : v3.setCell ⟨wr.heap.size, 10, none⟩ (.slice p3 x.hits.length q3) = W3 at *
      clear hW y10 yf yl
      have hx := unhide HX
      have y0 := Box.at hx 0 _ rfl
      have y1 := Box.at hx 1 _ rfl
      have y2 := Box.at hx 2 _ rfl
      have y3 := Box.at hx 3 _ rfl
      have y4 := Box.at hx 4 _ rfl
      have y5 := Box.at hx 5 _ rfl
      have y6 := Box.at hx 6 _ rfl
      have y7 := Box.at hx 7 _ rfl
      have y8 := Box.at hx 8 _ rfl
      have y9 := Box.at hx 9 _ rfl
      have y10 := Box.at hx 10 _ rfl
      simp only [List.getElem_toArray, List.getElem_cons_zero, List.getElem_cons_succ] at y0 y1 y2 y3 y4 y5 y6 y7 y8 y9 y10
      have yl := hx.lt
      clear hx
      have hb3 : Below wr.heap.size wr W3 := unhide HV
      have o2 := own_below (unhide HO) hb3
      have O := own_entryC (unhide P0) (unhide P1) (unhide P2) (by omega) (by omega) (by omega) (by omega) (by omega) (by omega) (unhide HWF)
      replace HS := hide (Lay.subs_snoc (Lay.subs_ext (unhide HS) (ext_of_below hb3 nowhere) (fun _ _ _ h => h)) O (by omega) (by omega) (by omega))
      have hb2 := (unhide HB).trans (hb3.mono (unhide HB).size)
      have hxw : w.heap.size < wr.heap.size := by omega
      have hwz := hb3.size
      clear HB HO O HV hb3 P0 P1 P2
      have hQ := unhide HQ
      have hl5 : (rows.flatten ++ Q).length = xs.length * 11 := o2.1
      obtain ⟨u0, g0⟩ : ∃ u, W3.cell? ⟨w.heap.size, k * 11, none⟩ = some u := by
        rw [o2.cellAt (k * 11) (by omega)]
        exact ⟨_, List.getElem?_eq_getElem (by omega)⟩
      have t0 := o2.frozenAt (k * 11)
      obtain ⟨u1, g1⟩ : ∃ u, W3.cell? ⟨w.heap.size, k * 11 + 1, none⟩ = some u := by
        rw [o2.cellAt (k * 11 + 1) (by omega)]
        exact ⟨_, List.getElem?_eq_getElem (by omega)⟩
      have t1 := o2.frozenAt (k * 11 + 1)
      obtain ⟨u2, g2⟩ : ∃ u, W3.cell? ⟨w.heap.size, k * 11 + 2, none⟩ = some u := by
        rw [o2.cellAt (k * 11 + 2) (by omega)]
        exact ⟨_, List.getElem?_eq_getElem (by omega)⟩
      have t2 := o2.frozenAt (k * 11 + 2)
      obtain ⟨u3, g3⟩ : ∃ u, W3.cell? ⟨w.heap.size, k * 11 + 3, none⟩ = some u := by
        rw [o2.cellAt (k * 11 + 3) (by omega)]
        exact ⟨_, List.getElem?_eq_getElem (by omega)⟩
      have t3 := o2.frozenAt (k * 11 + 3)
      obtain ⟨u4, g4⟩ : ∃ u, W3.cell? ⟨w.heap.size, k * 11 + 4, none⟩ = some u := by
        rw [o2.cellAt (k * 11 + 4) (by omega)]
        exact ⟨_, List.getElem?_eq_getElem (by omega)⟩
      have t4 := o2.frozenAt (k * 11 + 4)
      obtain ⟨u5, g5⟩ : ∃ u, W3.cell? ⟨w.heap.size, k * 11 + 5, none⟩ = some u := by
        rw [o2.cellAt (k * 11 + 5) (by omega)]
        exact ⟨_, List.getElem?_eq_getElem (by omega)⟩
      have t5 := o2.frozenAt (k * 11 + 5)
      obtain ⟨u6, g6⟩ : ∃ u, W3.cell? ⟨w.heap.size, k * 11 + 6, none⟩ = some u := by
        rw [o2.cellAt (k * 11 + 6) (by omega)]
        exact ⟨_, List.getElem?_eq_getElem (by omega)⟩
      have t6 := o2.frozenAt (k * 11 + 6)
      obtain ⟨u7, g7⟩ : ∃ u, W3.cell? ⟨w.heap.size, k * 11 + 7, none⟩ = some u := by
        rw [o2.cellAt (k * 11 + 7) (by omega)]
        exact ⟨_, List.getElem?_eq_getElem (by omega)⟩
      have t7 := o2.frozenAt (k * 11 + 7)
      obtain ⟨u8, g8⟩ : ∃ u, W3.cell? ⟨w.heap.size, k * 11 + 8, none⟩ = some u := by
        rw [o2.cellAt (k * 11 + 8) (by omega)]
        exact ⟨_, List.getElem?_eq_getElem (by omega)⟩
      have t8 := o2.frozenAt (k * 11 + 8)
      obtain ⟨u9, g9⟩ : ∃ u, W3.cell? ⟨w.heap.size, k * 11 + 9, none⟩ = some u := by
        rw [o2.cellAt (k * 11 + 9) (by omega)]
        exact ⟨_, List.getElem?_eq_getElem (by omega)⟩
      have t9 := o2.frozenAt (k * 11 + 9)
      obtain ⟨u10, g10⟩ : ∃ u, W3.cell? ⟨w.heap.size, k * 11 + 10, none⟩ = some u := by
        rw [o2.cellAt (k * 11 + 10) (by omega)]
        exact ⟨_, List.getElem?_eq_getElem (by omega)⟩
      have t10 := o2.frozenAt (k * 11 + 10)
      have o3 := own_setAll o2 (k * 11) [.int .i64 x.kind, .int .i64 x.session, .int .i64 x.seq, .int .i64 x.id, .slice p1 x.query.length q1, .int .i64 x.k, .int .i64 x.start, .int .i64 x.fin, .int .i64 x.place, .slice p2 x.vec.length q2, .slice p3 x.hits.length q3]
      rw [show k * 11 = rows.flatten.length from hrl.symm, setFrom_app _ _ _ (by rw [hQ]; simp; have : 1 * 11 ≤ (xs.length - k) * 11 := Nat.mul_le_mul_right _ (by omega); omega), hrl] at o3
      have E : Ext (fun q => q = w.heap.size) W3 (setAll W3 w.heap.size (k * 11) [.int .i64 x.kind, .int .i64 x.session, .int .i64 x.seq, .int .i64 x.id, .slice p1 x.query.length q1, .int .i64 x.k, .int .i64 x.start, .int .i64 x.fin, .int .i64 x.place, .slice p2 x.vec.length q2, .slice p3 x.hits.length q3]) := ext_setAll _ (Ext.refl _ _) _ _ _ rfl
      replace HS := hide (Lay.subs_ext (unhide HS) E (fun q h1 h2 h3 => by omega))
      have HB := hide (below_setAll hb2 w.heap.size (k * 11) [.int .i64 x.kind, .int .i64 x.session, .int .i64 x.seq, .int .i64 x.id, .slice p1 x.query.length q1, .int .i64 x.k, .int .i64 x.start, .int .i64 x.fin, .int .i64 x.place, .slice p2 x.vec.length q2, .slice p3 x.hits.length q3] (Nat.le_refl _))
      have HZ : Hid ((setAll W3 w.heap.size (k * 11) [.int .i64 x.kind, .int .i64 x.session, .int .i64 x.seq, .int .i64 x.id, .slice p1 x.query.length q1, .int .i64 x.k, .int .i64 x.start, .int .i64 x.fin, .int .i64 x.place, .slice p2 x.vec.length q2, .slice p3 x.hits.length q3]).heap.size = v3.heap.size) := (size_setAll _ _ _ _).trans hz3'
      have HO : Hid ((setAll W3 w.heap.size (k * 11) [.int .i64 x.kind, .int .i64 x.session, .int .i64 x.seq, .int .i64 x.id, .slice p1 x.query.length q1, .int .i64 x.k, .int .i64 x.start, .int .i64 x.fin, .int .i64 x.place, .slice p2 x.vec.length q2, .slice p3 x.hits.length q3]).ownsRow w.heap.size 130 11 (.slice (some ⟨w.heap.size, 0, none⟩) xs.length xs.length) xs.length ((rows ++ [([.int .i64 x.kind, .int .i64 x.session, .int .i64 x.seq, .int .i64 x.id, .slice p1 x.query.length q1, .int .i64 x.k, .int .i64 x.start, .int .i64 x.fin, .int .i64 x.place, .slice p2 x.vec.length q2, .slice p3 x.hits.length q3] : List Value)]).flatten ++ Q.drop 11)) := by
        show (setAll W3 w.heap.size (k * 11) [.int .i64 x.kind, .int .i64 x.session, .int .i64 x.seq, .int .i64 x.id, .slice p1 x.query.length q1, .int .i64 x.k, .int .i64 x.start, .int .i64 x.fin, .int .i64 x.place, .slice p2 x.vec.length q2, .slice p3 x.hits.length q3]).ownsRow w.heap.size 130 11 (.slice (some ⟨w.heap.size, 0, none⟩) xs.length xs.length) xs.length ((rows ++ [([.int .i64 x.kind, .int .i64 x.session, .int .i64 x.seq, .int .i64 x.id, .slice p1 x.query.length q1, .int .i64 x.k, .int .i64 x.start, .int .i64 x.fin, .int .i64 x.place, .slice p2 x.vec.length q2, .slice p3 x.hits.length q3] : List Value)]).flatten ++ Q.drop 11)
        rw [List.flatten_append]
        simpa using o3
      have hl2 := (o2.lt w.heap.size rfl).2
      clear o3 o2 E hb2 hl5
      have hQ2 : Hid ((Q.drop 11).length = (xs.length - (k + 1)) * 11) := by
        show (Q.drop 11).length = (xs.length - (k + 1)) * 11
        rw [List.length_drop, hQ, show xs.length - k = xs.length - (k + 1) + 1 by omega, Nat.add_mul]
        omega
      have HW2 : Hid (w.heap.size < v3.heap.size) := by show w.heap.size < v3.heap.size; omega
      clear hQ HQ hz0 HX hz1 hz1' hz2 hz2' hz3 hz3'
      go_wp2_with fail
      go_roundw
      case rel => exact ⟨k + 1, rows ++ [([.int .i64 x.kind, .int .i64 x.session, .int .i64 x.seq, .int .i64 x.id, .slice p1 x.query.length q1, .int .i64 x.k, .int .i64 x.start, .int .i64 x.fin, .int .i64 x.place, .slice p2 x.vec.length q2, .slice p3 x.hits.length q3] : List Value)], Q.drop 11, v3.heap.size, by omega, by go_num, unhide HO, unhide hQ2, (by rw [unhide HT]; exact unhide HS), Nat.le_of_eq (unhide HZ).symm, unhide HW2, unhide HB⟩
      case measure => simp [intOf]; omega
    · obtain rfl : k = xs.length := by omega
      have e0 : Q = [] := List.eq_nil_of_length_eq_zero (by rw [hQ]; simp)
      subst e0
      rw [List.append_nil] at hown
      rw [List.take_length] at hsub
      have HO := hide (Lay.subs_done (A := Lay.tEntry) hown hsub (by omega) hhi hbig)
      have HB := hide hB
      clear hown hsub hB
      go_wp2_with fail
      go_ret
      exact ⟨_, rfl, unhide HO, unhide HB⟩
end Go.Proofs.YtdnhmoppineegaaGreat

namespace Go.Proofs.YtdnhmoppineegaaGreat
open Go.RowKit

theorem infoMsgC : (Tryz.prog.info? 96).map (fun i => (i.zero, i.size, decide (i.bytes ≤ 1000))) = some (some (.agg #[.int .i64 0, .int .i64 0, .int .i64 0, .int .i64 0, .int .i64 0, .int .i64 0, .int .i64 0, .slice none 0 0, .int .i64 0, .int .i64 0]), 10, true) := by kernel_rfl
theorem wf_Msg {w : World} {cs : List Value} {x : DMsg} (h : Lay.tMsg.Reads w cs x) : (Lit.int .i64 x.kind).wf = true ∧ (Lit.int .i64 x.epoch).wf = true ∧ (Lit.int .i64 x.src).wf = true ∧ (Lit.int .i64 x.dst).wf = true ∧ (Lit.int .i64 x.index).wf = true ∧ (Lit.int .i64 x.write.kind).wf = true ∧ (Lit.int .i64 x.write.id).wf = true ∧ (Lit.int .i64 x.write.session).wf = true ∧ (Lit.int .i64 x.write.seq).wf = true := by
  obtain ⟨bl, h⟩ := h
  obtain ⟨a7, d7, b7, -, -, w0, w1, w2, w3, w4, w5, w6, -, w8, w9⟩ := lies_Msg.1 h
  exact ⟨w0, w1, w2, w3, w4, w5, w6, w8, w9⟩
theorem own_msgC {w : World} {x : DMsg} {v : Value} {lo hi : Nat} (h : (Lay.sl Lay.int).OwnIn w [v] x.write.vec lo hi) (hw : (Lit.int .i64 x.kind).wf = true ∧ (Lit.int .i64 x.epoch).wf = true ∧ (Lit.int .i64 x.src).wf = true ∧ (Lit.int .i64 x.dst).wf = true ∧ (Lit.int .i64 x.index).wf = true ∧ (Lit.int .i64 x.write.kind).wf = true ∧ (Lit.int .i64 x.write.id).wf = true ∧ (Lit.int .i64 x.write.session).wf = true ∧ (Lit.int .i64 x.write.seq).wf = true) : Lay.tMsg.OwnIn w [.int .i64 x.kind, .int .i64 x.epoch, .int .i64 x.src, .int .i64 x.dst, .int .i64 x.index, .int .i64 x.write.kind, .int .i64 x.write.id, v, .int .i64 x.write.session, .int .i64 x.write.seq] x lo hi := by
  obtain ⟨bl, O, i⟩ := h
  obtain ⟨w0, w1, w2, w3, w4, w5, w6, w8, w9⟩ := hw
  exact ⟨bl, mkOwn_Msg (mkOwn_Write O w5 w6 w8 w9 O.2.1) w0 w1 w2 w3 w4 O.2.1, i⟩
theorem vecM {w : World} {x : DMsg} {a : Option Addr} {d : Nat} (h : Lay.tMsg.Reads w [.int .i64 x.kind, .int .i64 x.epoch, .int .i64 x.src, .int .i64 x.dst, .int .i64 x.index, .int .i64 x.write.kind, .int .i64 x.write.id, .slice a x.write.vec.length d, .int .i64 x.write.session, .int .i64 x.write.seq] x) : (Lay.sl Lay.int).Reads w [.slice a x.write.vec.length d] x.write.vec := by
  obtain ⟨bl, h⟩ := h
  obtain ⟨a7, d7, b7, e, -, -, -, -, -, -, -, -, l, -⟩ := lies_Msg.1 h
  simp only [List.cons.injEq, Value.slice.injEq, and_true, true_and] at e
  obtain ⟨rfl, rfl⟩ := e
  exact ⟨b7, l⟩
set_option maxRecDepth 10000 in
set_option maxHeartbeats 2000000 in
theorem copiedMsgC (cs : List Value) (x : DMsg) (w : World) (h : Lay.tMsg.Reads w cs x) (hn : x.write.vec.length ≤ 10000000) :
    Calls Tryz.prog 238 #[.agg cs.toArray] w fun e w' => ∃ a3 c3, e = .returned (.agg #[.int .i64 x.kind, .int .i64 x.epoch, .int .i64 x.src, .int .i64 x.dst, .int .i64 x.index, .int .i64 x.write.kind, .int .i64 x.write.id, .slice a3 x.write.vec.length c3, .int .i64 x.write.session, .int .i64 x.write.seq]) ∧ Lay.tMsg.OwnIn w' [.int .i64 x.kind, .int .i64 x.epoch, .int .i64 x.src, .int .i64 x.dst, .int .i64 x.index, .int .i64 x.write.kind, .int .i64 x.write.id, .slice a3 x.write.vec.length c3, .int .i64 x.write.session, .int .i64 x.write.seq] x (w.heap.size + 2) w'.heap.size ∧ Below w.heap.size w w' := by
  have HV := hide (wf_Msg h)
  obtain ⟨a, d, rfl, -⟩ := open_Msg h
  have HR0 := hide (vecM h)
  clear h
  have nb1 : Below w.heap.size w (w.alloc (.cells #[.int .i64 x.kind, .int .i64 x.epoch, .int .i64 x.src, .int .i64 x.dst, .int .i64 x.index, .int .i64 x.write.kind, .int .i64 x.write.id, .slice a x.write.vec.length d, .int .i64 x.write.session, .int .i64 x.write.seq] 96)) := (Below.refl _ _).alloc (Nat.le_refl _) _
  have x1 : Box 0 #[.int .i64 x.kind, .int .i64 x.epoch, .int .i64 x.src, .int .i64 x.dst, .int .i64 x.index, .int .i64 x.write.kind, .int .i64 x.write.id, .slice a x.write.vec.length d, .int .i64 x.write.session, .int .i64 x.write.seq] 96 (w.alloc (.cells #[.int .i64 x.kind, .int .i64 x.epoch, .int .i64 x.src, .int .i64 x.dst, .int .i64 x.index, .int .i64 x.write.kind, .int .i64 x.write.id, .slice a x.write.vec.length d, .int .i64 x.write.session, .int .i64 x.write.seq] 96)) w.heap.size := newBox (Nat.zero_le _)
  have s1 : (w.alloc (.cells #[.int .i64 x.kind, .int .i64 x.epoch, .int .i64 x.src, .int .i64 x.dst, .int .i64 x.index, .int .i64 x.write.kind, .int .i64 x.write.id, .slice a x.write.vec.length d, .int .i64 x.write.session, .int .i64 x.write.seq] 96)).heap.size = w.heap.size + 1 := by simp
  have r1 := (unhide HR0).later nb1
  generalize hA1 : w.alloc (.cells #[.int .i64 x.kind, .int .i64 x.epoch, .int .i64 x.src, .int .i64 x.dst, .int .i64 x.index, .int .i64 x.write.kind, .int .i64 x.write.id, .slice a x.write.vec.length d, .int .i64 x.write.session, .int .i64 x.write.seq] 96) = A1 at *
  have nb2 : Below A1.heap.size A1 (A1.alloc (.cells #[.int .i64 0, .int .i64 0, .int .i64 0, .int .i64 0, .int .i64 0, .int .i64 0, .int .i64 0, .slice none 0 0, .int .i64 0, .int .i64 0] 96)) := (Below.refl _ _).alloc (Nat.le_refl _) _
  have x2 : Box 0 #[.int .i64 0, .int .i64 0, .int .i64 0, .int .i64 0, .int .i64 0, .int .i64 0, .int .i64 0, .slice none 0 0, .int .i64 0, .int .i64 0] 96 (A1.alloc (.cells #[.int .i64 0, .int .i64 0, .int .i64 0, .int .i64 0, .int .i64 0, .int .i64 0, .int .i64 0, .slice none 0 0, .int .i64 0, .int .i64 0] 96)) A1.heap.size := newBox (Nat.zero_le _)
  have s2 : (A1.alloc (.cells #[.int .i64 0, .int .i64 0, .int .i64 0, .int .i64 0, .int .i64 0, .int .i64 0, .int .i64 0, .slice none 0 0, .int .i64 0, .int .i64 0] 96)).heap.size = A1.heap.size + 1 := by simp
  replace x1 := x1.keep nb2
  have r2 := r1.later nb2
  have B2 : Below w.heap.size w (A1.alloc (.cells #[.int .i64 0, .int .i64 0, .int .i64 0, .int .i64 0, .int .i64 0, .int .i64 0, .int .i64 0, .slice none 0 0, .int .i64 0, .int .i64 0] 96)) := nb1.trans (nb2.mono (by omega))
  rw [s1] at x2 s2
  have HB := hide B2
  have HX1 := hide x1
  have HX2 := hide x2
  have HR := hide r2
  have HS := hide s2
  subst hA1
  clear nb1 nb2 x1 x2 r1 r2 B2 s1 s2 HR0
  go_enter Tryz.func238, Tryz.ntmps238
  go_upto_region 1 with fail
  generalize (w.alloc (.cells #[.int .i64 x.kind, .int .i64 x.epoch, .int .i64 x.src, .int .i64 x.dst, .int .i64 x.index, .int .i64 x.write.kind, .int .i64 x.write.id, .slice a x.write.vec.length d, .int .i64 x.write.session, .int .i64 x.write.seq] 96)).alloc (.cells #[.int .i64 0, .int .i64 0, .int .i64 0, .int .i64 0, .int .i64 0, .int .i64 0, .int .i64 0, .slice none 0 0, .int .i64 0, .int .i64 0] 96) = W1 at *
  have HL := hide (cloneC _ x.write.vec W1 (unhide HR) hn)
  have y7 : W1.cell? ⟨w.heap.size, 7, none⟩ = some (.slice a x.write.vec.length d) := (unhide HX1).at 7 _ rfl
  go_wp2_with fail
  refine (unhide HL).mono ?_
  rintro e W2 ⟨a3, n3, c3, rfl, ⟨O, hn3⟩, hb⟩
  subst hn3
  have hx1 := (unhide HX1).keep hb
  have hx2 := (unhide HX2).keep hb
  have hB2 := (unhide HB).trans (hb.mono (unhide HB).size)
  have hs2 := unhide HS
  have hz2 := hb.size
  clear HX1 HX2 HB HR HS HL y7 hb
  have y0 : W2.cell? ⟨w.heap.size, 0, none⟩ = some (.int .i64 x.kind) := (hx1).at 0 _ rfl
  have y1 : W2.cell? ⟨w.heap.size, 1, none⟩ = some (.int .i64 x.epoch) := (hx1).at 1 _ rfl
  have y2 : W2.cell? ⟨w.heap.size, 2, none⟩ = some (.int .i64 x.src) := (hx1).at 2 _ rfl
  have y3 : W2.cell? ⟨w.heap.size, 3, none⟩ = some (.int .i64 x.dst) := (hx1).at 3 _ rfl
  have y4 : W2.cell? ⟨w.heap.size, 4, none⟩ = some (.int .i64 x.index) := (hx1).at 4 _ rfl
  have y5 : W2.cell? ⟨w.heap.size, 5, none⟩ = some (.int .i64 x.write.kind) := (hx1).at 5 _ rfl
  have y6 : W2.cell? ⟨w.heap.size, 6, none⟩ = some (.int .i64 x.write.id) := (hx1).at 6 _ rfl
  have y7 : W2.cell? ⟨w.heap.size, 7, none⟩ = some (.slice a x.write.vec.length d) := (hx1).at 7 _ rfl
  have y8 : W2.cell? ⟨w.heap.size, 8, none⟩ = some (.int .i64 x.write.session) := (hx1).at 8 _ rfl
  have y9 : W2.cell? ⟨w.heap.size, 9, none⟩ = some (.int .i64 x.write.seq) := (hx1).at 9 _ rfl
  have yf := hx1.soft
  have yl := hx1.lt
  have v0 : W2.cell? ⟨w.heap.size + 1, 0, none⟩ = some (.int .i64 0) := (hx2).at 0 _ rfl
  have v1 : W2.cell? ⟨w.heap.size + 1, 1, none⟩ = some (.int .i64 0) := (hx2).at 1 _ rfl
  have v2 : W2.cell? ⟨w.heap.size + 1, 2, none⟩ = some (.int .i64 0) := (hx2).at 2 _ rfl
  have v3 : W2.cell? ⟨w.heap.size + 1, 3, none⟩ = some (.int .i64 0) := (hx2).at 3 _ rfl
  have v4 : W2.cell? ⟨w.heap.size + 1, 4, none⟩ = some (.int .i64 0) := (hx2).at 4 _ rfl
  have v5 : W2.cell? ⟨w.heap.size + 1, 5, none⟩ = some (.int .i64 0) := (hx2).at 5 _ rfl
  have v6 : W2.cell? ⟨w.heap.size + 1, 6, none⟩ = some (.int .i64 0) := (hx2).at 6 _ rfl
  have v7 : W2.cell? ⟨w.heap.size + 1, 7, none⟩ = some (.slice none 0 0) := (hx2).at 7 _ rfl
  have v8 : W2.cell? ⟨w.heap.size + 1, 8, none⟩ = some (.int .i64 0) := (hx2).at 8 _ rfl
  have v9 : W2.cell? ⟨w.heap.size + 1, 9, none⟩ = some (.int .i64 0) := (hx2).at 9 _ rfl
  have vf := hx2.soft
  have vl := hx2.lt
  have E1 : Ext (fun q => q = w.heap.size) W2 (W2.setCell ⟨w.heap.size, 7, none⟩ (.slice a3 x.write.vec.length c3)) := (Ext.refl (fun q => q = w.heap.size) _).setCell ⟨w.heap.size, 7, none⟩ _ rfl
  have B3 : Below w.heap.size w (W2.setCell ⟨w.heap.size, 7, none⟩ (.slice a3 x.write.vec.length c3)) := hB2.setCell (by simp) _
  have O3 := O.ext E1 (fun q h1 h2 h3 => by omega)
  have O4 := own_store' (s := w.heap.size + 1) (vs := [.int .i64 x.kind, .int .i64 x.epoch, .int .i64 x.src, .int .i64 x.dst, .int .i64 x.index, .int .i64 x.write.kind, .int .i64 x.write.id, .slice a3 x.write.vec.length c3, .int .i64 x.write.session, .int .i64 x.write.seq]) O3 (by omega)
  have HO := hide (own_msgC O4 (unhide HV))
  have HB4 := hide (below_setAll B3 (w.heap.size + 1) 0 [.int .i64 x.kind, .int .i64 x.epoch, .int .i64 x.src, .int .i64 x.dst, .int .i64 x.index, .int .i64 x.write.kind, .int .i64 x.write.id, .slice a3 x.write.vec.length c3, .int .i64 x.write.session, .int .i64 x.write.seq] (by omega))
  have HZ : Hid ((setAll (W2.setCell ⟨w.heap.size, 7, none⟩ (.slice a3 x.write.vec.length c3)) (w.heap.size + 1) 0 [.int .i64 x.kind, .int .i64 x.epoch, .int .i64 x.src, .int .i64 x.dst, .int .i64 x.index, .int .i64 x.write.kind, .int .i64 x.write.id, .slice a3 x.write.vec.length c3, .int .i64 x.write.session, .int .i64 x.write.seq]).heap.size = W2.heap.size) := by
    refine (size_setAll _ _ _ _).trans ?_
    simp
  have hq : W1.heap.size = w.heap.size + 2 := by omega
  have HQ := hide hq
  clear O O3 O4 E1 B3 hB2 HV hq hx1 hx2 hs2
  go_wp2_with fail
  refine bodyPost_ret (v := .agg #[.int .i64 x.kind, .int .i64 x.epoch, .int .i64 x.src, .int .i64 x.dst, .int .i64 x.index, .int .i64 x.write.kind, .int .i64 x.write.id, .slice a3 x.write.vec.length c3, .int .i64 x.write.session, .int .i64 x.write.seq]) (by simp [results, Tryz.results238, go_sem, v0, v1, v2, v3, v4, v5, v6, v7, v8, v9]) rfl ?_
  refine ⟨a3, c3, rfl, ?_, unhide HB4⟩
  have h9 := unhide HO
  rw [unhide HQ] at h9
  exact h9.mono (Nat.le_refl _) (Nat.le_of_eq (unhide HZ).symm)
/-- What the copy of a list is: rows of the call's own, each message in memory of its own. -/
def CopyKit (w w' : World) (g : Nat) (xs : List DMsg) : Prop := g = w.heap.size ∧ ∃ (rows : List (List Value)) (hi : Nat), w'.ownsRow w.heap.size 96 10 (.slice (some ⟨g, 0, none⟩) xs.length xs.length) xs.length rows.flatten ∧ Lay.Subs Lay.tMsg w' rows xs (w.heap.size + 1) hi ∧ hi ≤ w'.heap.size ∧ w.heap.size < hi
set_option maxRecDepth 10000 in
set_option maxHeartbeats 4000000 in
theorem copiedMsgsC (v : Value) (xs : List DMsg) (w : World) (h : (Lay.sl Lay.tMsg).Reads w [v] xs) (hlen : xs.length ≤ 1000000) (hv : ∀ x ∈ xs, x.write.vec.length ≤ 10000000) :
    Calls Tryz.prog 218 #[v] w fun e w' => ∃ (g : Nat), e = .returned (.slice (some ⟨g, 0, none⟩) xs.length xs.length) ∧ (Lay.sl Lay.tMsg).OwnIn w' [.slice (some ⟨g, 0, none⟩) xs.length xs.length] xs w.heap.size w'.heap.size ∧ Below w.heap.size w w' ∧ CopyKit w w' g xs := by
  have hbig := h.big
  obtain ⟨ao, cap, rfl⟩ := open_sl h
  obtain ⟨i0, hi, hz0, hz1, hz2⟩ : ∃ i, Tryz.prog.info? 96 = some i ∧ i.zero = some (.agg #[.int .i64 0, .int .i64 0, .int .i64 0, .int .i64 0, .int .i64 0, .int .i64 0, .int .i64 0, .slice none 0 0, .int .i64 0, .int .i64 0]) ∧ i.size = 10 ∧ i.bytes ≤ 1000 := by
    have := infoMsgC
    cases hq : Tryz.prog.info? 96 with
    | none => rw [hq] at this; simp at this
    | some i =>
      rw [hq] at this
      simp only [Option.map_some, Option.some.injEq, Prod.mk.injEq, decide_eq_true_eq] at this
      exact ⟨i, rfl, this.1, this.2.1, this.2.2⟩
  have H := hide h
  have HN := hide hv
  clear h hv
  go_enter Tryz.func218, Tryz.ntmps218
  go_wp2_with (at_make; refine wpList_make_full _ rfl _ _ 33 rfl w.heap.size 96 i0 _ 10 Tryz.underlying33 hi hz0 hz1 _ _ _ _ xs.length rfl rfl rfl rfl ?c1 ?c2 ?c3 ?_)
  case c1 => have := Nat.mul_le_mul hz2 hlen; omega
  case c2 => unfold maxLen; omega
  case c3 => exact Nat.le_refl _
  intro w1 hown1 hgrow1
  have hB1 : Below w.heap.size w w1 := (Below.refl _ _).grown hgrow1 (Nat.le_refl _) (by simp)
  clear hgrow1 hi hz0 hz1 hz2
  have HO1 := hide hown1
  have HB1 := hide hB1
  clear hown1 hB1
  go_wp2_with fail
  go_loopw [11] (fun i wr => ∃ (k : Nat) (rows : List (List Value)) (Q : List Value) (hi : Nat), k ≤ xs.length ∧ i = .int .i64 k ∧ wr.ownsRow w.heap.size 96 10 (.slice (some ⟨w.heap.size, 0, none⟩) xs.length xs.length) xs.length (rows.flatten ++ Q) ∧ Q.length = (xs.length - k) * 10 ∧ Lay.Subs Lay.tMsg wr rows (xs.take k) (w.heap.size + 1) hi ∧ hi ≤ wr.heap.size ∧ w.heap.size < hi ∧ Below w.heap.size w wr) (fun i _ => xs.length - (intOf i).toNat)
  case atStart =>
    have hl := ((unhide HO1).lt w.heap.size rfl).2
    exact ⟨0, [], _, w1.heap.size, Nat.zero_le _, rfl, by simpa using unhide HO1, by have := (unhide HO1).1; simpa using this, Lay.subs_nil, Nat.le_refl _, hl, unhide HB1⟩
  case round =>
    obtain ⟨k, rows, Q, hi, hk, rfl, hown, hQ, hsub, hhi, hlo, hB⟩ := hrel
    clear HO1 HB1
    by_cases hlt : k < xs.length
    · obtain ⟨b, off, rfl, hbl⟩ := Lay.sl_addr (unhide H) (by omega)
      obtain ⟨row, hc, hr⟩ := Lay.row_at (unhide H) hlt
      replace hr := hr.later hB
      have hr2 := hr
      obtain ⟨a, d, rfl, -⟩ := open_Msg hr2
      have c0 : wr.cell? ⟨b, off + k * 10, none⟩ = some (.int .i64 (xs[k]).kind) := (hB.cell (p := ⟨b, off + k * 10, none⟩) hbl).trans (hc 0 (by decide))
      have c1 : wr.cell? ⟨b, off + k * 10 + 1, none⟩ = some (.int .i64 (xs[k]).epoch) := (hB.cell (p := ⟨b, off + k * 10 + 1, none⟩) hbl).trans (hc 1 (by decide))
      have c2 : wr.cell? ⟨b, off + k * 10 + 2, none⟩ = some (.int .i64 (xs[k]).src) := (hB.cell (p := ⟨b, off + k * 10 + 2, none⟩) hbl).trans (hc 2 (by decide))
      have c3 : wr.cell? ⟨b, off + k * 10 + 3, none⟩ = some (.int .i64 (xs[k]).dst) := (hB.cell (p := ⟨b, off + k * 10 + 3, none⟩) hbl).trans (hc 3 (by decide))
      have c4 : wr.cell? ⟨b, off + k * 10 + 4, none⟩ = some (.int .i64 (xs[k]).index) := (hB.cell (p := ⟨b, off + k * 10 + 4, none⟩) hbl).trans (hc 4 (by decide))
      have c5 : wr.cell? ⟨b, off + k * 10 + 5, none⟩ = some (.int .i64 (xs[k]).write.kind) := (hB.cell (p := ⟨b, off + k * 10 + 5, none⟩) hbl).trans (hc 5 (by decide))
      have c6 : wr.cell? ⟨b, off + k * 10 + 6, none⟩ = some (.int .i64 (xs[k]).write.id) := (hB.cell (p := ⟨b, off + k * 10 + 6, none⟩) hbl).trans (hc 6 (by decide))
      have c7 : wr.cell? ⟨b, off + k * 10 + 7, none⟩ = some (.slice a (xs[k]).write.vec.length d) := (hB.cell (p := ⟨b, off + k * 10 + 7, none⟩) hbl).trans (hc 7 (by decide))
      have c8 : wr.cell? ⟨b, off + k * 10 + 8, none⟩ = some (.int .i64 (xs[k]).write.session) := (hB.cell (p := ⟨b, off + k * 10 + 8, none⟩) hbl).trans (hc 8 (by decide))
      have c9 : wr.cell? ⟨b, off + k * 10 + 9, none⟩ = some (.int .i64 (xs[k]).write.seq) := (hB.cell (p := ⟨b, off + k * 10 + 9, none⟩) hbl).trans (hc 9 (by decide))
      have hrl : rows.flatten.length = k * 10 := by have := (Lay.subs_len hsub).1; rw [List.length_take, Nat.min_eq_left hk] at this; exact this
      have hvl := unhide HN xs[k] (List.getElem_mem hlt)
      have HT : Hid (xs.take (k + 1) = xs.take k ++ [xs[k]]) := List.take_succ_eq_append_getElem hlt
      have HB := hide hB
      have HO := hide hown
      have HS := hide hsub
      have HQ := hide hQ
      have HRM := hide hr
      clear hB hr hc hown hsub hQ hr2
      generalize hxk : xs[k] = x at *
      clear hxk
      have hbr : b < wr.heap.size := Nat.lt_of_lt_of_le hbl (unhide HB).size
      have nb : Below wr.heap.size wr (wr.alloc (.cells #[.int .i64 x.kind, .int .i64 x.epoch, .int .i64 x.src, .int .i64 x.dst, .int .i64 x.index, .int .i64 x.write.kind, .int .i64 x.write.id, .slice a x.write.vec.length d, .int .i64 x.write.session, .int .i64 x.write.seq] 96)) := (Below.refl _ _).alloc (Nat.le_refl _) _
      have hz0 : (wr.alloc (.cells #[.int .i64 x.kind, .int .i64 x.epoch, .int .i64 x.src, .int .i64 x.dst, .int .i64 x.index, .int .i64 x.write.kind, .int .i64 x.write.id, .slice a x.write.vec.length d, .int .i64 x.write.session, .int .i64 x.write.seq] 96)).heap.size = wr.heap.size + 1 := by simp
      have HL := hide (copiedMsgC _ x _ ((unhide HRM).later nb) hvl)
      have HNB := hide nb
      have HZ0 := hide hz0
      clear nb hz0 HRM
      go_wp2_with fail
      clear c0 c1 c2 c3 c4 c5 c6 c7 c8 c9
      refine (unhide HL).mono ?_
      generalize hW0 : wr.alloc (.cells #[.int .i64 x.kind, .int .i64 x.epoch, .int .i64 x.src, .int .i64 x.dst, .int .i64 x.index, .int .i64 x.write.kind, .int .i64 x.write.id, .slice a x.write.vec.length d, .int .i64 x.write.session, .int .i64 x.write.seq] 96) = W0 at *
      clear hW0
      rintro e w2 ⟨a3, c3, rfl, O, hb⟩
      have hz0 := unhide HZ0
      have hz2 : W0.heap.size ≤ w2.heap.size := hb.size
      have hb3 : Below wr.heap.size wr w2 := (unhide HNB).trans (hb.mono (unhide HNB).size)
      have o2 := own_below (unhide HO) hb3
      replace HS := hide (Lay.subs_snoc (Lay.subs_ext (unhide HS) (ext_of_below hb3 nowhere) (fun _ _ _ h => h)) O (by omega) (by omega) (by omega))
      have hb2 := (unhide HB).trans (hb3.mono (unhide HB).size)
      have hxw : w.heap.size < wr.heap.size := by omega
      clear hb HB HO O HNB HL hb3 HZ0
      have hQ := unhide HQ
      have hl5 : (rows.flatten ++ Q).length = xs.length * 10 := o2.1
      obtain ⟨u0, g0⟩ : ∃ u, w2.cell? ⟨w.heap.size, k * 10, none⟩ = some u := by
        rw [o2.cellAt (k * 10) (by omega)]
        exact ⟨_, List.getElem?_eq_getElem (by omega)⟩
      have t0 := o2.frozenAt (k * 10)
      obtain ⟨u1, g1⟩ : ∃ u, w2.cell? ⟨w.heap.size, k * 10 + 1, none⟩ = some u := by
        rw [o2.cellAt (k * 10 + 1) (by omega)]
        exact ⟨_, List.getElem?_eq_getElem (by omega)⟩
      have t1 := o2.frozenAt (k * 10 + 1)
      obtain ⟨u2, g2⟩ : ∃ u, w2.cell? ⟨w.heap.size, k * 10 + 2, none⟩ = some u := by
        rw [o2.cellAt (k * 10 + 2) (by omega)]
        exact ⟨_, List.getElem?_eq_getElem (by omega)⟩
      have t2 := o2.frozenAt (k * 10 + 2)
      obtain ⟨u3, g3⟩ : ∃ u, w2.cell? ⟨w.heap.size, k * 10 + 3, none⟩ = some u := by
        rw [o2.cellAt (k * 10 + 3) (by omega)]
        exact ⟨_, List.getElem?_eq_getElem (by omega)⟩
      have t3 := o2.frozenAt (k * 10 + 3)
      obtain ⟨u4, g4⟩ : ∃ u, w2.cell? ⟨w.heap.size, k * 10 + 4, none⟩ = some u := by
        rw [o2.cellAt (k * 10 + 4) (by omega)]
        exact ⟨_, List.getElem?_eq_getElem (by omega)⟩
      have t4 := o2.frozenAt (k * 10 + 4)
      obtain ⟨u5, g5⟩ : ∃ u, w2.cell? ⟨w.heap.size, k * 10 + 5, none⟩ = some u := by
        rw [o2.cellAt (k * 10 + 5) (by omega)]
        exact ⟨_, List.getElem?_eq_getElem (by omega)⟩
      have t5 := o2.frozenAt (k * 10 + 5)
      obtain ⟨u6, g6⟩ : ∃ u, w2.cell? ⟨w.heap.size, k * 10 + 6, none⟩ = some u := by
        rw [o2.cellAt (k * 10 + 6) (by omega)]
        exact ⟨_, List.getElem?_eq_getElem (by omega)⟩
      have t6 := o2.frozenAt (k * 10 + 6)
      obtain ⟨u7, g7⟩ : ∃ u, w2.cell? ⟨w.heap.size, k * 10 + 7, none⟩ = some u := by
        rw [o2.cellAt (k * 10 + 7) (by omega)]
        exact ⟨_, List.getElem?_eq_getElem (by omega)⟩
      have t7 := o2.frozenAt (k * 10 + 7)
      obtain ⟨u8, g8⟩ : ∃ u, w2.cell? ⟨w.heap.size, k * 10 + 8, none⟩ = some u := by
        rw [o2.cellAt (k * 10 + 8) (by omega)]
        exact ⟨_, List.getElem?_eq_getElem (by omega)⟩
      have t8 := o2.frozenAt (k * 10 + 8)
      obtain ⟨u9, g9⟩ : ∃ u, w2.cell? ⟨w.heap.size, k * 10 + 9, none⟩ = some u := by
        rw [o2.cellAt (k * 10 + 9) (by omega)]
        exact ⟨_, List.getElem?_eq_getElem (by omega)⟩
      have t9 := o2.frozenAt (k * 10 + 9)
      have o3 := own_setAll o2 (k * 10) [.int .i64 x.kind, .int .i64 x.epoch, .int .i64 x.src, .int .i64 x.dst, .int .i64 x.index, .int .i64 x.write.kind, .int .i64 x.write.id, .slice a3 x.write.vec.length c3, .int .i64 x.write.session, .int .i64 x.write.seq]
      rw [show k * 10 = rows.flatten.length from hrl.symm, setFrom_app _ _ _ (by rw [hQ]; simp; have : 1 * 10 ≤ (xs.length - k) * 10 := Nat.mul_le_mul_right _ (by omega); omega), hrl] at o3
      have E : Ext (fun q => q = w.heap.size) w2 (setAll w2 w.heap.size (k * 10) [.int .i64 x.kind, .int .i64 x.epoch, .int .i64 x.src, .int .i64 x.dst, .int .i64 x.index, .int .i64 x.write.kind, .int .i64 x.write.id, .slice a3 x.write.vec.length c3, .int .i64 x.write.session, .int .i64 x.write.seq]) := ext_setAll _ (Ext.refl _ _) _ _ _ rfl
      replace HS := hide (Lay.subs_ext (unhide HS) E (fun q h1 h2 h3 => by omega))
      have HB := hide (below_setAll hb2 w.heap.size (k * 10) [.int .i64 x.kind, .int .i64 x.epoch, .int .i64 x.src, .int .i64 x.dst, .int .i64 x.index, .int .i64 x.write.kind, .int .i64 x.write.id, .slice a3 x.write.vec.length c3, .int .i64 x.write.session, .int .i64 x.write.seq] (Nat.le_refl _))
      have HZ : Hid ((setAll w2 w.heap.size (k * 10) [.int .i64 x.kind, .int .i64 x.epoch, .int .i64 x.src, .int .i64 x.dst, .int .i64 x.index, .int .i64 x.write.kind, .int .i64 x.write.id, .slice a3 x.write.vec.length c3, .int .i64 x.write.session, .int .i64 x.write.seq]).heap.size = w2.heap.size) := size_setAll _ _ _ _
      have HO : Hid ((setAll w2 w.heap.size (k * 10) [.int .i64 x.kind, .int .i64 x.epoch, .int .i64 x.src, .int .i64 x.dst, .int .i64 x.index, .int .i64 x.write.kind, .int .i64 x.write.id, .slice a3 x.write.vec.length c3, .int .i64 x.write.session, .int .i64 x.write.seq]).ownsRow w.heap.size 96 10 (.slice (some ⟨w.heap.size, 0, none⟩) xs.length xs.length) xs.length ((rows ++ [([.int .i64 x.kind, .int .i64 x.epoch, .int .i64 x.src, .int .i64 x.dst, .int .i64 x.index, .int .i64 x.write.kind, .int .i64 x.write.id, .slice a3 x.write.vec.length c3, .int .i64 x.write.session, .int .i64 x.write.seq] : List Value)]).flatten ++ Q.drop 10)) := by
        show (setAll w2 w.heap.size (k * 10) [.int .i64 x.kind, .int .i64 x.epoch, .int .i64 x.src, .int .i64 x.dst, .int .i64 x.index, .int .i64 x.write.kind, .int .i64 x.write.id, .slice a3 x.write.vec.length c3, .int .i64 x.write.session, .int .i64 x.write.seq]).ownsRow w.heap.size 96 10 (.slice (some ⟨w.heap.size, 0, none⟩) xs.length xs.length) xs.length ((rows ++ [([.int .i64 x.kind, .int .i64 x.epoch, .int .i64 x.src, .int .i64 x.dst, .int .i64 x.index, .int .i64 x.write.kind, .int .i64 x.write.id, .slice a3 x.write.vec.length c3, .int .i64 x.write.session, .int .i64 x.write.seq] : List Value)]).flatten ++ Q.drop 10)
        rw [List.flatten_append]
        simpa using o3
      have hl2 := (o2.lt w.heap.size rfl).2
      clear o3 o2 E hb2 hl5
      have hQ2 : Hid ((Q.drop 10).length = (xs.length - (k + 1)) * 10) := by
        show (Q.drop 10).length = (xs.length - (k + 1)) * 10
        rw [List.length_drop, hQ, show xs.length - k = xs.length - (k + 1) + 1 by omega, Nat.add_mul]
        omega
      have HW2 : Hid (w.heap.size < w2.heap.size) := hl2
      clear hQ HQ hz2 hz0
      go_wp2_with fail
      go_roundw
      case rel => exact ⟨k + 1, rows ++ [([.int .i64 x.kind, .int .i64 x.epoch, .int .i64 x.src, .int .i64 x.dst, .int .i64 x.index, .int .i64 x.write.kind, .int .i64 x.write.id, .slice a3 x.write.vec.length c3, .int .i64 x.write.session, .int .i64 x.write.seq] : List Value)], Q.drop 10, w2.heap.size, by omega, by go_num, unhide HO, unhide hQ2, (by rw [unhide HT]; exact unhide HS), Nat.le_of_eq (unhide HZ).symm, unhide HW2, unhide HB⟩
      case measure => simp [intOf]; omega
    · obtain rfl : k = xs.length := by omega
      have e0 : Q = [] := List.eq_nil_of_length_eq_zero (by rw [hQ]; simp)
      subst e0
      rw [List.append_nil] at hown
      rw [List.take_length] at hsub
      have HK : Hid (CopyKit w wr w.heap.size xs) := ⟨rfl, rows, hi, hown, hsub, hhi, hlo⟩
      have HO := hide (Lay.subs_done (A := Lay.tMsg) hown hsub (by omega) hhi hbig)
      have HB := hide hB
      clear hown hsub hB
      go_wp2_with fail
      go_ret
      exact ⟨_, rfl, unhide HO, unhide HB, unhide HK⟩
end Go.Proofs.YtdnhmoppineegaaGreat

namespace Go.Proofs.YtdnhmoppineegaaGreat
open Go.RowKit

set_option maxRecDepth 100000 in
set_option maxHeartbeats 4000000 in
theorem copiedWorldC (cs : List Value) (x : DWorld) (w : World) (h : Lay.tWorld.Reads w cs x) (hok : WorldOK x) (hf : Fits x) :
    Calls Tryz.prog 173 #[.agg cs.toArray] w fun e w' => ∃ (v3 v4 v5 v6 : Value), e = .returned (.agg #[.int .i64 x.now, .int .i64 x.events, .int .i64 x.chain.epoch, v3, v4, v5, v6]) ∧ Lay.tWorld.OwnIn w' [.int .i64 x.now, .int .i64 x.events, .int .i64 x.chain.epoch, v3, v4, v5, v6] x (w.heap.size + 2) w'.heap.size ∧ Below w.heap.size w w' := by
  have HWF := hide (wf_World h)
  obtain ⟨a3, d3, a4, d4, a5, d5, a6, d6, rfl, RC, RN, RM, RE⟩ := open_World h
  obtain ⟨_, _, hq, RI⟩ := open_Chain RC
  simp only [List.cons.injEq, Value.slice.injEq, and_true, true_and] at hq
  obtain ⟨rfl, rfl⟩ := hq
  have nb1 : Below w.heap.size w (w.alloc (.cells #[.int .i64 x.now, .int .i64 x.events, .int .i64 x.chain.epoch, .slice a3 x.chain.ids.length d3, .slice a4 x.nodes.length d4, .slice a5 x.msgs.length d5, .slice a6 x.history.length d6] 36)) := (Below.refl _ _).alloc (Nat.le_refl _) _
  have HV : Hid (Below w.heap.size w ((w.alloc (.cells #[.int .i64 x.now, .int .i64 x.events, .int .i64 x.chain.epoch, .slice a3 x.chain.ids.length d3, .slice a4 x.nodes.length d4, .slice a5 x.msgs.length d5, .slice a6 x.history.length d6] 36)).alloc (.cells #[.int .i64 0, .int .i64 0, .int .i64 0, .slice none 0 0, .slice none 0 0, .slice none 0 0, .slice none 0 0] 36))) := nb1.alloc (by simp) _
  have HX : Hid (Box 0 #[.int .i64 x.now, .int .i64 x.events, .int .i64 x.chain.epoch, .slice a3 x.chain.ids.length d3, .slice a4 x.nodes.length d4, .slice a5 x.msgs.length d5, .slice a6 x.history.length d6] 36 ((w.alloc (.cells #[.int .i64 x.now, .int .i64 x.events, .int .i64 x.chain.epoch, .slice a3 x.chain.ids.length d3, .slice a4 x.nodes.length d4, .slice a5 x.msgs.length d5, .slice a6 x.history.length d6] 36)).alloc (.cells #[.int .i64 0, .int .i64 0, .int .i64 0, .slice none 0 0, .slice none 0 0, .slice none 0 0, .slice none 0 0] 36)) w.heap.size) := (newBox (Nat.zero_le _)).grow _
  have HY : Hid (Box 0 #[.int .i64 0, .int .i64 0, .int .i64 0, .slice none 0 0, .slice none 0 0, .slice none 0 0, .slice none 0 0] 36 ((w.alloc (.cells #[.int .i64 x.now, .int .i64 x.events, .int .i64 x.chain.epoch, .slice a3 x.chain.ids.length d3, .slice a4 x.nodes.length d4, .slice a5 x.msgs.length d5, .slice a6 x.history.length d6] 36)).alloc (.cells #[.int .i64 0, .int .i64 0, .int .i64 0, .slice none 0 0, .slice none 0 0, .slice none 0 0, .slice none 0 0] 36)) (w.heap.size + 1)) := newBoxAt (Nat.zero_le _) (by simp)
  have hz0 : ((w.alloc (.cells #[.int .i64 x.now, .int .i64 x.events, .int .i64 x.chain.epoch, .slice a3 x.chain.ids.length d3, .slice a4 x.nodes.length d4, .slice a5 x.msgs.length d5, .slice a6 x.history.length d6] 36)).alloc (.cells #[.int .i64 0, .int .i64 0, .int .i64 0, .slice none 0 0, .slice none 0 0, .slice none 0 0, .slice none 0 0] 36)).heap.size = w.heap.size + 2 := by simp
  have HI := hide RI
  have HN := hide RN
  have HM := hide RM
  have HE := hide RE
  have HOK := hide hok
  have HF := hide hf
  clear nb1 h RC RN RM RE RI hok hf
  go_enter Tryz.func173, Tryz.ntmps173
  go_upto_region 1 with fail
  generalize (w.alloc (.cells #[.int .i64 x.now, .int .i64 x.events, .int .i64 x.chain.epoch, .slice a3 x.chain.ids.length d3, .slice a4 x.nodes.length d4, .slice a5 x.msgs.length d5, .slice a6 x.history.length d6] 36)).alloc (.cells #[.int .i64 0, .int .i64 0, .int .i64 0, .slice none 0 0, .slice none 0 0, .slice none 0 0, .slice none 0 0] 36) = W0 at *
  have hx := unhide HX
  have y3 := Box.at hx 3 _ rfl
  have yl := hx.lt
  simp only [List.getElem_toArray, List.getElem_cons_zero, List.getElem_cons_succ] at y3
  have HC := hide (cloneC _ x.chain.ids W0 ((unhide HI).later (unhide HV)) (by have := (chainFault_zero (unhide HOK).chain).len; omega))
  clear hx
  go_wp2_with fail
  refine (unhide HC).mono ?_
  rintro e v1 ⟨p3, n3, q3, rfl, ⟨O, rfl⟩, hb⟩
  have hz1 : W0.heap.size ≤ v1.heap.size := hb.size
  have hx := (unhide HX).keep hb
  replace HY := hide (((unhide HY).keep hb).other ⟨w.heap.size, 3, none⟩ (.slice p3 x.chain.ids.length q3) (by simp))
  clear y3 yl
  have y3 := Box.at hx 3 _ rfl
  have yf := Box.soft hx
  have yl := hx.lt
  simp only [List.getElem_toArray, List.getElem_cons_zero, List.getElem_cons_succ] at y3
  have hv := (unhide HV).trans (hb.mono (unhide HV).size)
  replace HV := hide (hv.setCell (p := ⟨w.heap.size, 3, none⟩) (Nat.le_refl _) (.slice p3 x.chain.ids.length q3))
  have hx2 := Box.set hx 3 (.slice p3 x.chain.ids.length q3)
  simp only [List.setIfInBounds_toArray, List.set_cons_zero, List.set_cons_succ] at hx2
  replace HX := hide hx2
  have e1 : Ext (fun q => q = w.heap.size) v1 (v1.setCell ⟨w.heap.size, 3, none⟩ (.slice p3 x.chain.ids.length q3)) := (Ext.refl _ _).setCell _ _ rfl
  have P0 := hide (O.ext e1 (fun q h1 h2 h3 => by omega))
  have hz1' : (v1.setCell ⟨w.heap.size, 3, none⟩ (.slice p3 x.chain.ids.length q3)).heap.size = v1.heap.size := by simp
  clear hx hx2 e1 hv O hb HC
  go_upto_region 2 with fail
  generalize hW : v1.setCell ⟨w.heap.size, 3, none⟩ (.slice p3 x.chain.ids.length q3) = W1 at *
  clear hW y3 yf yl
  have hx := unhide HX
  have y4 := Box.at hx 4 _ rfl
  have yl := hx.lt
  simp only [List.getElem_toArray, List.getElem_cons_zero, List.getElem_cons_succ] at y4
  have HC := hide (copiedNodesC _ x.nodes W1 ((unhide HN).later (unhide HV)) (by have := (unhide HOK).some; omega) (fun y hy => by obtain ⟨j, hj, rfl⟩ := List.getElem_of_mem hy; exact node_bounds ((unhide HOK).nodes j hj).1))
  clear hx
  go_wp2_with fail
  refine (unhide HC).mono ?_
  rintro e v2 ⟨g4, rfl, O, hb⟩
  have hz2 : W1.heap.size ≤ v2.heap.size := hb.size
  have hx := (unhide HX).keep hb
  replace HY := hide (((unhide HY).keep hb).other ⟨w.heap.size, 4, none⟩ (.slice (some ⟨g4, 0, none⟩) x.nodes.length x.nodes.length) (by simp))
  clear y4 yl
  have y4 := Box.at hx 4 _ rfl
  have yf := Box.soft hx
  have yl := hx.lt
  simp only [List.getElem_toArray, List.getElem_cons_zero, List.getElem_cons_succ] at y4
  have hv := (unhide HV).trans (hb.mono (unhide HV).size)
  replace HV := hide (hv.setCell (p := ⟨w.heap.size, 4, none⟩) (Nat.le_refl _) (.slice (some ⟨g4, 0, none⟩) x.nodes.length x.nodes.length))
  have hx2 := Box.set hx 4 (.slice (some ⟨g4, 0, none⟩) x.nodes.length x.nodes.length)
  simp only [List.setIfInBounds_toArray, List.set_cons_zero, List.set_cons_succ] at hx2
  replace HX := hide hx2
  have e2 : Ext (fun q => q = w.heap.size) v2 (v2.setCell ⟨w.heap.size, 4, none⟩ (.slice (some ⟨g4, 0, none⟩) x.nodes.length x.nodes.length)) := (Ext.refl _ _).setCell _ _ rfl
  replace P0 := hide (((unhide P0).later hb).ext e2 (fun q h1 h2 h3 => by omega))
  have P1 := hide (O.ext e2 (fun q h1 h2 h3 => by omega))
  have hz2' : (v2.setCell ⟨w.heap.size, 4, none⟩ (.slice (some ⟨g4, 0, none⟩) x.nodes.length x.nodes.length)).heap.size = v2.heap.size := by simp
  clear hx hx2 e2 hv O hb HC
  go_upto_region 3 with fail
  generalize hW : v2.setCell ⟨w.heap.size, 4, none⟩ (.slice (some ⟨g4, 0, none⟩) x.nodes.length x.nodes.length) = W2 at *
  clear hW y4 yf yl
  have hx := unhide HX
  have y5 := Box.at hx 5 _ rfl
  have yl := hx.lt
  simp only [List.getElem_toArray, List.getElem_cons_zero, List.getElem_cons_succ] at y5
  have HC := hide (copiedMsgsC _ x.msgs W2 ((unhide HM).later (unhide HV)) (by have := (netFault_zero (unhide HOK).net).1; omega) (fun y hy => msg_bounds ((netFault_zero (unhide HOK).net).2 y hy)))
  clear hx
  go_wp2_with fail
  refine (unhide HC).mono ?_
  rintro e v3 ⟨g5, rfl, O, hb, -⟩
  have hz3 : W2.heap.size ≤ v3.heap.size := hb.size
  have hx := (unhide HX).keep hb
  replace HY := hide (((unhide HY).keep hb).other ⟨w.heap.size, 5, none⟩ (.slice (some ⟨g5, 0, none⟩) x.msgs.length x.msgs.length) (by simp))
  clear y5 yl
  have y5 := Box.at hx 5 _ rfl
  have yf := Box.soft hx
  have yl := hx.lt
  simp only [List.getElem_toArray, List.getElem_cons_zero, List.getElem_cons_succ] at y5
  have hv := (unhide HV).trans (hb.mono (unhide HV).size)
  replace HV := hide (hv.setCell (p := ⟨w.heap.size, 5, none⟩) (Nat.le_refl _) (.slice (some ⟨g5, 0, none⟩) x.msgs.length x.msgs.length))
  have hx2 := Box.set hx 5 (.slice (some ⟨g5, 0, none⟩) x.msgs.length x.msgs.length)
  simp only [List.setIfInBounds_toArray, List.set_cons_zero, List.set_cons_succ] at hx2
  replace HX := hide hx2
  have e3 : Ext (fun q => q = w.heap.size) v3 (v3.setCell ⟨w.heap.size, 5, none⟩ (.slice (some ⟨g5, 0, none⟩) x.msgs.length x.msgs.length)) := (Ext.refl _ _).setCell _ _ rfl
  replace P0 := hide (((unhide P0).later hb).ext e3 (fun q h1 h2 h3 => by omega))
  replace P1 := hide (((unhide P1).later hb).ext e3 (fun q h1 h2 h3 => by omega))
  have P2 := hide (O.ext e3 (fun q h1 h2 h3 => by omega))
  have hz3' : (v3.setCell ⟨w.heap.size, 5, none⟩ (.slice (some ⟨g5, 0, none⟩) x.msgs.length x.msgs.length)).heap.size = v3.heap.size := by simp
  clear hx hx2 e3 hv O hb HC
  go_upto_region 4 with fail
  generalize hW : v3.setCell ⟨w.heap.size, 5, none⟩ (.slice (some ⟨g5, 0, none⟩) x.msgs.length x.msgs.length) = W3 at *
  clear hW y5 yf yl
  have hx := unhide HX
  have y6 := Box.at hx 6 _ rfl
  have yl := hx.lt
  simp only [List.getElem_toArray, List.getElem_cons_zero, List.getElem_cons_succ] at y6
  have HC := hide (copiedHistoryC _ x.history W3 ((unhide HE).later (unhide HV)) (by have := (unhide HOK).few; omega) (unhide HF))
  clear hx
  go_wp2_with fail
  refine (unhide HC).mono ?_
  rintro e v4 ⟨g6, rfl, O, hb⟩
  have hz4 : W3.heap.size ≤ v4.heap.size := hb.size
  have hx := (unhide HX).keep hb
  replace HY := hide (((unhide HY).keep hb).other ⟨w.heap.size, 6, none⟩ (.slice (some ⟨g6, 0, none⟩) x.history.length x.history.length) (by simp))
  clear y6 yl
  have y6 := Box.at hx 6 _ rfl
  have yf := Box.soft hx
  have yl := hx.lt
  simp only [List.getElem_toArray, List.getElem_cons_zero, List.getElem_cons_succ] at y6
  have hv := (unhide HV).trans (hb.mono (unhide HV).size)
  replace HV := hide (hv.setCell (p := ⟨w.heap.size, 6, none⟩) (Nat.le_refl _) (.slice (some ⟨g6, 0, none⟩) x.history.length x.history.length))
  have hx2 := Box.set hx 6 (.slice (some ⟨g6, 0, none⟩) x.history.length x.history.length)
  simp only [List.setIfInBounds_toArray, List.set_cons_zero, List.set_cons_succ] at hx2
  replace HX := hide hx2
  have e4 : Ext (fun q => q = w.heap.size) v4 (v4.setCell ⟨w.heap.size, 6, none⟩ (.slice (some ⟨g6, 0, none⟩) x.history.length x.history.length)) := (Ext.refl _ _).setCell _ _ rfl
  replace P0 := hide (((unhide P0).later hb).ext e4 (fun q h1 h2 h3 => by omega))
  replace P1 := hide (((unhide P1).later hb).ext e4 (fun q h1 h2 h3 => by omega))
  replace P2 := hide (((unhide P2).later hb).ext e4 (fun q h1 h2 h3 => by omega))
  have P3 := hide (O.ext e4 (fun q h1 h2 h3 => by omega))
  have hz4' : (v4.setCell ⟨w.heap.size, 6, none⟩ (.slice (some ⟨g6, 0, none⟩) x.history.length x.history.length)).heap.size = v4.heap.size := by simp
  clear hx hx2 e4 hv O hb HC
  go_upto_region 5 with fail
  generalize hW : v4.setCell ⟨w.heap.size, 6, none⟩ (.slice (some ⟨g6, 0, none⟩) x.history.length x.history.length) = W4 at *
  clear hW y6 yf yl
  have hx := unhide HX
  have hy := unhide HY
  have y0 := Box.at hx 0 _ rfl
  have y1 := Box.at hx 1 _ rfl
  have y2 := Box.at hx 2 _ rfl
  have y3 := Box.at hx 3 _ rfl
  have y4 := Box.at hx 4 _ rfl
  have y5 := Box.at hx 5 _ rfl
  have y6 := Box.at hx 6 _ rfl
  have u0 := Box.at hy 0 _ rfl
  have u1 := Box.at hy 1 _ rfl
  have u2 := Box.at hy 2 _ rfl
  have u3 := Box.at hy 3 _ rfl
  have u4 := Box.at hy 4 _ rfl
  have u5 := Box.at hy 5 _ rfl
  have u6 := Box.at hy 6 _ rfl
  simp only [List.getElem_toArray, List.getElem_cons_zero, List.getElem_cons_succ] at y0 u0 y1 u1 y2 u2 y3 u3 y4 u4 y5 u5 y6 u6
  have yl := hx.lt
  have uf := Box.soft hy
  have ul := hy.lt
  have O := own_worldC (unhide P0) (unhide P1) (unhide P2) (unhide P3) (by omega) (by omega) (by omega) (by omega) (by omega) (by omega) (by omega) (unhide HWF)
  have e9 : Ext (fun q => q = w.heap.size + 1) W4 (setAll W4 (w.heap.size + 1) 0 [.int .i64 x.now, .int .i64 x.events, .int .i64 x.chain.epoch, .slice p3 x.chain.ids.length q3, .slice (some ⟨g4, 0, none⟩) x.nodes.length x.nodes.length, .slice (some ⟨g5, 0, none⟩) x.msgs.length x.msgs.length, .slice (some ⟨g6, 0, none⟩) x.history.length x.history.length]) := ext_setAll _ (Ext.refl _ _) _ _ _ rfl
  have HO : Hid (Lay.tWorld.OwnIn (setAll W4 (w.heap.size + 1) 0 [.int .i64 x.now, .int .i64 x.events, .int .i64 x.chain.epoch, .slice p3 x.chain.ids.length q3, .slice (some ⟨g4, 0, none⟩) x.nodes.length x.nodes.length, .slice (some ⟨g5, 0, none⟩) x.msgs.length x.msgs.length, .slice (some ⟨g6, 0, none⟩) x.history.length x.history.length]) [.int .i64 x.now, .int .i64 x.events, .int .i64 x.chain.epoch, .slice p3 x.chain.ids.length q3, .slice (some ⟨g4, 0, none⟩) x.nodes.length x.nodes.length, .slice (some ⟨g5, 0, none⟩) x.msgs.length x.msgs.length, .slice (some ⟨g6, 0, none⟩) x.history.length x.history.length] x (w.heap.size + 2) W4.heap.size) := (O.ext e9 (fun q h1 h2 h3 => by omega)).mono (by omega) (by omega)
  have HB := hide (below_setAll (unhide HV) (w.heap.size + 1) 0 [.int .i64 x.now, .int .i64 x.events, .int .i64 x.chain.epoch, .slice p3 x.chain.ids.length q3, .slice (some ⟨g4, 0, none⟩) x.nodes.length x.nodes.length, .slice (some ⟨g5, 0, none⟩) x.msgs.length x.msgs.length, .slice (some ⟨g6, 0, none⟩) x.history.length x.history.length] (by omega))
  have hzz : Hid ((setAll W4 (w.heap.size + 1) 0 [.int .i64 x.now, .int .i64 x.events, .int .i64 x.chain.epoch, .slice p3 x.chain.ids.length q3, .slice (some ⟨g4, 0, none⟩) x.nodes.length x.nodes.length, .slice (some ⟨g5, 0, none⟩) x.msgs.length x.msgs.length, .slice (some ⟨g6, 0, none⟩) x.history.length x.history.length]).heap.size = W4.heap.size) := size_setAll _ _ _ _
  clear hx hy O e9 P0 P1 P2 P3 HX HY HV HOK HF HI HN HM HE
  go_wp2_with fail
  refine bodyPost_ret (v := .agg #[.int .i64 x.now, .int .i64 x.events, .int .i64 x.chain.epoch, .slice p3 x.chain.ids.length q3, .slice (some ⟨g4, 0, none⟩) x.nodes.length x.nodes.length, .slice (some ⟨g5, 0, none⟩) x.msgs.length x.msgs.length, .slice (some ⟨g6, 0, none⟩) x.history.length x.history.length]) (by simp [results, Tryz.results173, go_sem, u0, u1, u2, u3, u4, u5, u6]) rfl ?_
  exact ⟨_, _, _, _, rfl, (unhide HO).mono (by omega) (Nat.le_of_eq (unhide hzz).symm), unhide HB⟩
end Go.Proofs.YtdnhmoppineegaaGreat

namespace Go.Proofs.YtdnhmoppineegaaGreat
open Go.RowKit

def idFaultR (x : DWorld) (id : Int) : Int := if worldFault x ≠ 0 then worldFault x else if nodeIn x id = false then 4 else 0
set_option maxRecDepth 10000 in
set_option maxHeartbeats 2000000 in
theorem idFaultC (cs : List Value) (x : DWorld) (id : Int) (w : World) (h : Lay.tWorld.Reads w cs x) :
    Calls Tryz.prog 57 #[.agg cs.toArray, .int .i64 id] w fun e w' => e = .returned (.int .i64 (idFaultR x id)) ∧ Below w.heap.size w w' := by
  obtain ⟨a3, d3, a4, d4, a5, d5, a6, d6, rfl, -, -, -, -⟩ := open_World h
  have nb : Below w.heap.size w (w.alloc (.cells #[.int .i64 x.now, .int .i64 x.events, .int .i64 x.chain.epoch, .slice a3 x.chain.ids.length d3, .slice a4 x.nodes.length d4, .slice a5 x.msgs.length d5, .slice a6 x.history.length d6] 36)) := (Below.refl _ _).alloc (Nat.le_refl _) _
  have HX : Hid (Box 0 #[.int .i64 x.now, .int .i64 x.events, .int .i64 x.chain.epoch, .slice a3 x.chain.ids.length d3, .slice a4 x.nodes.length d4, .slice a5 x.msgs.length d5, .slice a6 x.history.length d6] 36 (w.alloc (.cells #[.int .i64 x.now, .int .i64 x.events, .int .i64 x.chain.epoch, .slice a3 x.chain.ids.length d3, .slice a4 x.nodes.length d4, .slice a5 x.msgs.length d5, .slice a6 x.history.length d6] 36)) w.heap.size) := newBox (Nat.zero_le _)
  have HR := hide (h.later nb)
  have HP : Hid (idFaultR x id = if worldFault x ≠ 0 then worldFault x else if nodeIn x id = false then 4 else 0) := rfl
  have HB := hide nb
  clear nb h
  generalize idFaultR x id = r at *
  go_enter Tryz.func57, Tryz.ntmps57
  go_upto_region 1 with fail
  generalize w.alloc (.cells #[.int .i64 x.now, .int .i64 x.events, .int .i64 x.chain.epoch, .slice a3 x.chain.ids.length d3, .slice a4 x.nodes.length d4, .slice a5 x.msgs.length d5, .slice a6 x.history.length d6] 36) = w1 at *
  have z0 := Box.at (unhide HX) 0 _ rfl
  have z1 := Box.at (unhide HX) 1 _ rfl
  have z2 := Box.at (unhide HX) 2 _ rfl
  have z3 := Box.at (unhide HX) 3 _ rfl
  have z4 := Box.at (unhide HX) 4 _ rfl
  have z5 := Box.at (unhide HX) 5 _ rfl
  have z6 := Box.at (unhide HX) 6 _ rfl
  simp only [List.getElem_toArray, List.getElem_cons_zero, List.getElem_cons_succ] at z0 z1 z2 z3 z4 z5 z6
  go_wp2_with fail
  refine (implWorldFault _ x w1 (unhide HR)).mono ?_
  rintro e w2 ⟨rfl, hb⟩
  clear z0 z1 z2 z3 z4 z5 z6
  replace HX := hide ((unhide HX).keep hb)
  replace HR := hide ((unhide HR).later hb)
  replace HB := hide ((unhide HB).trans (hb.mono (unhide HB).size))
  clear hb
  have z0 := Box.at (unhide HX) 0 _ rfl
  have z1 := Box.at (unhide HX) 1 _ rfl
  have z2 := Box.at (unhide HX) 2 _ rfl
  have z3 := Box.at (unhide HX) 3 _ rfl
  have z4 := Box.at (unhide HX) 4 _ rfl
  have z5 := Box.at (unhide HX) 5 _ rfl
  have z6 := Box.at (unhide HX) 6 _ rfl
  simp only [List.getElem_toArray, List.getElem_cons_zero, List.getElem_cons_succ] at z0 z1 z2 z3 z4 z5 z6
  by_cases d1 : worldFault x ≠ 0
  · have hd : (worldFault x != 0) = true := by simpa using d1
    replace HP := hide ((unhide HP).trans (if_pos d1))
    clear d1
    generalize worldFault x = c at *
    go_wp2_with fail
    go_ret
    exact ⟨by rw [unhide HP]; rfl, unhide HB⟩
  · replace HP := hide ((unhide HP).trans (if_neg d1))
    have hd : worldFault x = 0 := by simpa using d1
    clear d1
    rw [hd]
    clear hd
    go_wp2_with fail
    refine (hasNodeC _ x id w2 (unhide HR)).mono ?_
    rintro e w3 ⟨rfl, hb⟩
    replace HB := hide ((unhide HB).trans (hb.mono (unhide HB).size))
    clear hb z0 z1 z2 z3 z4 z5 z6
    generalize nodeIn x id = q at *
    cases q
    · replace HP := hide ((unhide HP).trans (if_pos rfl))
      go_wp2_with fail
      go_ret
      exact ⟨by rw [unhide HP]; rfl, unhide HB⟩
    · replace HP := hide ((unhide HP).trans (if_neg (by simp)))
      go_wp2_with fail
      go_ret
      exact ⟨by rw [unhide HP]; rfl, unhide HB⟩
set_option maxRecDepth 100000 in
set_option maxHeartbeats 4000000 in
theorem doneInC (N : Nat) (cap : Array Value) (cs : List Value) (x : DWorld) (c : Int) (mv : Bool) (z : DWorld) (w : World) (hfa : ∀ (a : Array Value) (W : World), (callFunc N (a ++ cap)).run Tryz.prog W = .ok (.enter N (a ++ cap)) W) (h : Lay.tWorld.Reads w cs x) (hok : WorldOK x) (hf : Fits x) (hc : -1000000000 ≤ c ∧ c ≤ 1000000000)
    (hstep : ∀ W, Below w.heap.size w W → StepC w.heap.size N cap (nextW x) c mv z W) :
    Calls Tryz.prog 106 #[.agg cs.toArray, .func (.func N) #[] cap] w fun e w' => ∃ cs', e = .returned (.agg cs'.toArray) ∧ Lay.tWorldResult.OwnIn w' cs' (resW c mv z) w.heap.size w'.heap.size ∧ Below w.heap.size w w' := by
  obtain ⟨a3, d3, a4, d4, a5, d5, a6, d6, rfl, -, -, -, -⟩ := open_World h
  have nb1 : Below w.heap.size w (w.alloc (.cells #[.int .i64 x.now, .int .i64 x.events, .int .i64 x.chain.epoch, .slice a3 x.chain.ids.length d3, .slice a4 x.nodes.length d4, .slice a5 x.msgs.length d5, .slice a6 x.history.length d6] 36)) := (Below.refl _ _).alloc (Nat.le_refl _) _
  have HB : Hid (Below w.heap.size w ((w.alloc (.cells #[.int .i64 x.now, .int .i64 x.events, .int .i64 x.chain.epoch, .slice a3 x.chain.ids.length d3, .slice a4 x.nodes.length d4, .slice a5 x.msgs.length d5, .slice a6 x.history.length d6] 36)).alloc (.cells #[.int .i64 0, .bool false, .int .i64 0, .int .i64 0, .int .i64 0, .slice none 0 0, .slice none 0 0, .slice none 0 0, .slice none 0 0] 38))) := nb1.alloc (by simp) _
  have HX : Hid (Box 0 #[.int .i64 x.now, .int .i64 x.events, .int .i64 x.chain.epoch, .slice a3 x.chain.ids.length d3, .slice a4 x.nodes.length d4, .slice a5 x.msgs.length d5, .slice a6 x.history.length d6] 36 ((w.alloc (.cells #[.int .i64 x.now, .int .i64 x.events, .int .i64 x.chain.epoch, .slice a3 x.chain.ids.length d3, .slice a4 x.nodes.length d4, .slice a5 x.msgs.length d5, .slice a6 x.history.length d6] 36)).alloc (.cells #[.int .i64 0, .bool false, .int .i64 0, .int .i64 0, .int .i64 0, .slice none 0 0, .slice none 0 0, .slice none 0 0, .slice none 0 0] 38)) w.heap.size) := (newBox (Nat.zero_le _)).grow _
  have HY : Hid (Box 0 #[.int .i64 0, .bool false, .int .i64 0, .int .i64 0, .int .i64 0, .slice none 0 0, .slice none 0 0, .slice none 0 0, .slice none 0 0] 38 ((w.alloc (.cells #[.int .i64 x.now, .int .i64 x.events, .int .i64 x.chain.epoch, .slice a3 x.chain.ids.length d3, .slice a4 x.nodes.length d4, .slice a5 x.msgs.length d5, .slice a6 x.history.length d6] 36)).alloc (.cells #[.int .i64 0, .bool false, .int .i64 0, .int .i64 0, .int .i64 0, .slice none 0 0, .slice none 0 0, .slice none 0 0, .slice none 0 0] 38)) (w.heap.size + 1)) := newBoxAt (Nat.zero_le _) (by simp)
  have hz0 : ((w.alloc (.cells #[.int .i64 x.now, .int .i64 x.events, .int .i64 x.chain.epoch, .slice a3 x.chain.ids.length d3, .slice a4 x.nodes.length d4, .slice a5 x.msgs.length d5, .slice a6 x.history.length d6] 36)).alloc (.cells #[.int .i64 0, .bool false, .int .i64 0, .int .i64 0, .int .i64 0, .slice none 0 0, .slice none 0 0, .slice none 0 0, .slice none 0 0] 38)).heap.size = w.heap.size + 2 := by simp
  have HR := hide (h.later (unhide HB))
  have HOK := hide hok
  have HF := hide hf
  have HST := hide hstep
  have HCB := hide hc
  clear nb1 h hok hf hstep hc
  go_enter Tryz.func106, Tryz.ntmps106
  go_upto_region 1 with fail
  generalize (w.alloc (.cells #[.int .i64 x.now, .int .i64 x.events, .int .i64 x.chain.epoch, .slice a3 x.chain.ids.length d3, .slice a4 x.nodes.length d4, .slice a5 x.msgs.length d5, .slice a6 x.history.length d6] 36)).alloc (.cells #[.int .i64 0, .bool false, .int .i64 0, .int .i64 0, .int .i64 0, .slice none 0 0, .slice none 0 0, .slice none 0 0, .slice none 0 0] 38) = W0 at *
  have z0 := Box.at (unhide HX) 0 _ rfl
  have z1 := Box.at (unhide HX) 1 _ rfl
  have z2 := Box.at (unhide HX) 2 _ rfl
  have z3 := Box.at (unhide HX) 3 _ rfl
  have z4 := Box.at (unhide HX) 4 _ rfl
  have z5 := Box.at (unhide HX) 5 _ rfl
  have z6 := Box.at (unhide HX) 6 _ rfl
  simp only [List.getElem_toArray, List.getElem_cons_zero, List.getElem_cons_succ] at z0 z1 z2 z3 z4 z5 z6
  go_wp2_with fail
  refine (copiedWorldC _ x W0 (unhide HR) (unhide HOK) (unhide HF)).mono ?_
  rintro e W1 ⟨v3, v4, v5, v6, rfl, O, hb⟩
  obtain ⟨a3w, d3w, a4w, d4w, a5w, d5w, a6w, d6w, hq, -⟩ := open_World O.reads
  simp only [List.cons.injEq, and_true, true_and] at hq
  obtain ⟨rfl, rfl, rfl, rfl⟩ := hq
  have hz1 : W0.heap.size ≤ W1.heap.size := hb.size
  replace HY := hide ((unhide HY).keep hb)
  replace HB := hide ((unhide HB).trans (hb.mono (unhide HB).size))
  have hO := wown_new (g := W1.heap.size) (O.mono (Nat.le_add_right _ 2) (Nat.le_refl _)) (Nat.le_refl _) (Nat.le_refl _)
  clear hb O HX HR HF z0 z1 z2 z3 z4 z5 z6
  have nb : Below W1.heap.size W1 (W1.alloc (.cells #[.int .i64 x.now, .int .i64 x.events, .int .i64 x.chain.epoch, .slice a3w x.chain.ids.length d3w, .slice a4w x.nodes.length d4w, .slice a5w x.msgs.length d5w, .slice a6w x.history.length d6w] 36)) := (Below.refl _ _).alloc (Nat.le_refl _) _
  have HG : Hid (Box 0 #[.int .i64 x.now, .int .i64 x.events, .int .i64 x.chain.epoch, .slice a3w x.chain.ids.length d3w, .slice a4w x.nodes.length d4w, .slice a5w x.msgs.length d5w, .slice a6w x.history.length d6w] 36 (W1.alloc (.cells #[.int .i64 x.now, .int .i64 x.events, .int .i64 x.chain.epoch, .slice a3w x.chain.ids.length d3w, .slice a4w x.nodes.length d4w, .slice a5w x.msgs.length d5w, .slice a6w x.history.length d6w] 36)) W1.heap.size) := newBox (Nat.zero_le _)
  have HO := hide (hO.later nb)
  replace HY := hide ((unhide HY).keep nb)
  replace HB := hide ((unhide HB).trans (nb.mono (unhide HB).size))
  have hz2 : (W1.alloc (.cells #[.int .i64 x.now, .int .i64 x.events, .int .i64 x.chain.epoch, .slice a3w x.chain.ids.length d3w, .slice a4w x.nodes.length d4w, .slice a5w x.msgs.length d5w, .slice a6w x.history.length d6w] 36)).heap.size = W1.heap.size + 1 := by simp
  clear nb hO
  go_upto_region 2 with fail
  generalize W1.alloc (.cells #[.int .i64 x.now, .int .i64 x.events, .int .i64 x.chain.epoch, .slice a3w x.chain.ids.length d3w, .slice a4w x.nodes.length d4w, .slice a5w x.msgs.length d5w, .slice a6w x.history.length d6w] 36) = W2 at *
  have hg := unhide HG
  have y1 := Box.at hg 1 _ rfl
  have yf := Box.soft hg
  have yl := hg.lt
  simp only [List.getElem_toArray, List.getElem_cons_zero, List.getElem_cons_succ] at y1
  have hxe := (unhide HOK).events
  have hg2 := Box.set hg 1 (.int .i64 (x.events + 1))
  simp only [List.setIfInBounds_toArray, List.set_cons_zero, List.set_cons_succ] at hg2
  have e1 : Ext (fun q => q = W1.heap.size) W2 (W2.setCell ⟨W1.heap.size, 1, none⟩ (.int .i64 (x.events + 1))) := (Ext.refl _ _).setCell _ _ rfl
  have hO2 := own_nextW ((unhide HO).ext e1 (fun k h1 h2 h3 => h3)) (by omega)
  replace HG := hide hg2
  replace HO := hide hO2
  replace HY := hide ((unhide HY).other ⟨W1.heap.size, 1, none⟩ (.int .i64 (x.events + 1)) (by simp; omega))
  replace HB := hide ((unhide HB).setCell (p := ⟨W1.heap.size, 1, none⟩) (by simp; omega) (.int .i64 (x.events + 1)))
  have hz3 : (W2.setCell ⟨W1.heap.size, 1, none⟩ (.int .i64 (x.events + 1))).heap.size = W2.heap.size := by simp
  clear hg hg2 e1 hO2
  go_upto_region 3 with fail
  generalize hW : W2.setCell ⟨W1.heap.size, 1, none⟩ (.int .i64 (x.events + 1)) = W3 at *
  clear hW y1 yf yl hxe
  have HC := hide (unhide HST W3 (unhide HB) W1.heap.size (w.heap.size + 2) _ _ _ _ (by omega) (unhide HG) (by omega) (by have := unhide HO; rw [hz0] at this; exact this))
  clear HST HO HG
  go_wp2_with fail
  refine (unhide HC).mono ?_
  rintro e W4 ⟨m, rfl, hm, he⟩
  replace HY := hide ((unhide HY).ext he (by omega))
  replace HB := hide ((unhide HB).trans ((below_of_ext he (by omega)).mono (by omega)))
  have hz4 := he.size
  clear HC he
  by_cases d1 : c = 0
  · obtain ⟨rfl, u3, u4, u5, u6, hg, hO⟩ := hm d1
    obtain ⟨a3u, d3u, a4u, d4u, a5u, d5u, a6u, d6u, hq, -⟩ := open_World hO.reads
    simp only [List.cons.injEq, and_true, true_and] at hq
    obtain ⟨rfl, rfl, rfl, rfl⟩ := hq
    subst d1
    have HRS : Hid (resW 0 m z = ⟨0, m, z⟩) := if_pos rfl
    have y0 := Box.at hg 0 _ rfl
    have y1 := Box.at hg 1 _ rfl
    have y2 := Box.at hg 2 _ rfl
    have y3 := Box.at hg 3 _ rfl
    have y4 := Box.at hg 4 _ rfl
    have y5 := Box.at hg 5 _ rfl
    have y6 := Box.at hg 6 _ rfl
    have hy := unhide HY
    have r0 := Box.at hy 0 _ rfl
    have r1 := Box.at hy 1 _ rfl
    have r2 := Box.at hy 2 _ rfl
    have r3 := Box.at hy 3 _ rfl
    have r4 := Box.at hy 4 _ rfl
    have r5 := Box.at hy 5 _ rfl
    have r6 := Box.at hy 6 _ rfl
    have r7 := Box.at hy 7 _ rfl
    have r8 := Box.at hy 8 _ rfl
    simp only [List.getElem_toArray, List.getElem_cons_zero, List.getElem_cons_succ] at y0 y1 y2 y3 y4 y5 y6 r0 r1 r2 r3 r4 r5 r6 r7 r8
    have yl := hg.lt
    have rf := Box.soft hy
    have rl := hy.lt
    have e9 : Ext (fun q => q = w.heap.size + 1) W4 (setAll W4 (w.heap.size + 1) 0 [.int .i64 0, .bool m, .int .i64 z.now, .int .i64 z.events, .int .i64 z.chain.epoch, .slice a3u z.chain.ids.length d3u, .slice a4u z.nodes.length d4u, .slice a5u z.msgs.length d5u, .slice a6u z.history.length d6u]) := ext_setAll _ (Ext.refl _ _) _ _ _ rfl
    have HO := hide (own_okW (m := m) ((hO.ext e9 (fun k h1 h2 h3 => by omega)).ownIn))
    have HB2 := hide (below_setAll (unhide HB) (w.heap.size + 1) 0 [.int .i64 0, .bool m, .int .i64 z.now, .int .i64 z.events, .int .i64 z.chain.epoch, .slice a3u z.chain.ids.length d3u, .slice a4u z.nodes.length d4u, .slice a5u z.msgs.length d5u, .slice a6u z.history.length d6u] (by omega))
    clear hg hy hO e9 HY HB hm
    go_wp2_with fail
    refine bodyPost_ret (v := .agg #[.int .i64 0, .bool m, .int .i64 z.now, .int .i64 z.events, .int .i64 z.chain.epoch, .slice a3u z.chain.ids.length d3u, .slice a4u z.nodes.length d4u, .slice a5u z.msgs.length d5u, .slice a6u z.history.length d6u]) (by simp [results, Tryz.results106, go_sem, r0, r1, r2, r3, r4, r5, r6, r7, r8]) rfl ?_
    rw [unhide HRS]
    exact ⟨_, rfl, (unhide HO).mono (by omega) (Nat.le_refl _), unhide HB2⟩
  · have hd : (c != 0) = true := by simpa using d1
    have HRS : Hid (resW c mv z = badWorld c) := if_neg d1
    clear hm d1
    have hy := unhide HY
    have r0 := Box.at hy 0 _ rfl
    have r1 := Box.at hy 1 _ rfl
    have r2 := Box.at hy 2 _ rfl
    have r3 := Box.at hy 3 _ rfl
    have r4 := Box.at hy 4 _ rfl
    have r5 := Box.at hy 5 _ rfl
    have r6 := Box.at hy 6 _ rfl
    have r7 := Box.at hy 7 _ rfl
    have r8 := Box.at hy 8 _ rfl
    simp only [List.getElem_toArray, List.getElem_cons_zero, List.getElem_cons_succ] at r0 r1 r2 r3 r4 r5 r6 r7 r8
    have rf := Box.soft hy
    have rl := hy.lt
    have HB2 := hide (below_setAll (unhide HB) (w.heap.size + 1) 0 [.int .i64 c, .bool false, .int .i64 0, .int .i64 0, .int .i64 0, .slice none 0 0, .slice none 0 0, .slice none 0 0, .slice none 0 0] (by omega))
    clear hy HY HB
    go_wp2_with fail
    refine bodyPost_ret (v := .agg #[.int .i64 c, .bool false, .int .i64 0, .int .i64 0, .int .i64 0, .slice none 0 0, .slice none 0 0, .slice none 0 0, .slice none 0 0]) (by simp [results, Tryz.results106, go_sem, r0, r1, r2, r3, r4, r5, r6, r7, r8]) rfl ?_
    rw [unhide HRS]
    exact ⟨_, rfl, own_badW (unhide HCB) (unhide HB2).size, unhide HB2⟩
end Go.Proofs.YtdnhmoppineegaaGreat

namespace Go.Proofs.YtdnhmoppineegaaGreat
open Go.RowKit

theorem box_set9W {lo : Nat} {T : TypeId} {W : World} {s : Nat} {c0 c1 c2 c3 c4 c5 c6 c7 c8 : Value} (h : Box lo #[c0, c1, c2, c3, c4, c5, c6, c7, c8] T W s) (v0 v1 v2 v3 v4 v5 v6 v7 v8 : Value) : Box lo #[v0, v1, v2, v3, v4, v5, v6, v7, v8] T (setAll W s 0 [v0, v1, v2, v3, v4, v5, v6, v7, v8]) s := by
  have q := (Box.set (Box.set (Box.set (Box.set (Box.set (Box.set (Box.set (Box.set (Box.set h 0 v0) 1 v1) 2 v2) 3 v3) 4 v4) 5 v5) 6 v6) 7 v7) 8 v8)
  simp only [List.setIfInBounds_toArray, List.set_cons_zero, List.set_cons_succ] at q
  exact q
set_option maxRecDepth 10000 in
set_option maxHeartbeats 2000000 in
theorem put_bad (p q s : Nat) (c : Int) (w : World) (hx : Box 0 #[.int .i64 c, .bool false, .int .i64 0, .int .i64 0, .int .i64 0, .slice none 0 0, .slice none 0 0, .slice none 0 0, .slice none 0 0] 38 w p) (hc : c ≠ 0) :
    CallsD Tryz.prog 105 #[.pointer (some ⟨p, 0, none⟩), .pointer (some ⟨q, 0, none⟩), .pointer (some ⟨s, 0, none⟩)] .returning w fun e u' w' => u' = .returning ∧ (e = .returned (.tuple #[]) ∧ w' = w) := by
  have r0 := Box.at hx 0 _ rfl
  simp only [List.getElem_toArray, List.getElem_cons_zero] at r0
  have hd : (c == 0) = false := by simpa using hc
  have rl := hx.lt
  clear hx hc
  refine CallsD.mono (R := fun e u' w' => u' = .returning ∧ (e = .returned (.tuple #[]) ∧ w' = w)) ?_ (fun _ _ _ q => q)
  go_enter_d Tryz.func105, Tryz.ntmps105
  go_wp2_with fail
  go_end0
  exact ⟨rfl, rfl⟩
set_option maxRecDepth 100000 in
set_option maxHeartbeats 4000000 in
theorem put_ok (p q s N : Nat) (cap : Array Value) (a3 : Option Addr) (d3 : Nat) (a4 : Option Addr) (d4 : Nat) (a5 : Option Addr) (d5 : Nat) (a6 : Option Addr) (d6 : Nat) (x : DWorld) (c : Int) (mv : Bool) (z : DWorld) (w : World) (hx : Box 0 #[.int .i64 0, .bool false, .int .i64 0, .int .i64 0, .int .i64 0, .slice none 0 0, .slice none 0 0, .slice none 0 0, .slice none 0 0] 38 w p) (hw : Box 0 #[.int .i64 x.now, .int .i64 x.events, .int .i64 x.chain.epoch, .slice a3 x.chain.ids.length d3, .slice a4 x.nodes.length d4, .slice a5 x.msgs.length d5, .slice a6 x.history.length d6] 36 w q) (hs : Box 0 #[.func (.func N) #[] cap] 74 w s)
    (hfa : ∀ (a : Array Value) (W : World), (callFunc N (a ++ cap)).run Tryz.prog W = .ok (.enter N (a ++ cap)) W) (h : Lay.tWorld.Reads w [.int .i64 x.now, .int .i64 x.events, .int .i64 x.chain.epoch, .slice a3 x.chain.ids.length d3, .slice a4 x.nodes.length d4, .slice a5 x.msgs.length d5, .slice a6 x.history.length d6] x) (hok : WorldOK x) (hf : Fits x) (hc : -1000000000 ≤ c ∧ c ≤ 1000000000) (hstep : ∀ W, Below w.heap.size w W → StepC w.heap.size N cap (nextW x) c mv z W) :
    CallsD Tryz.prog 105 #[.pointer (some ⟨p, 0, none⟩), .pointer (some ⟨q, 0, none⟩), .pointer (some ⟨s, 0, none⟩)] .returning w fun e u' w' => u' = .returning ∧ (e = .returned (.tuple #[]) ∧ ∃ cs w1 lo, w' = setAll w1 p 0 cs ∧ cs.length = 9 ∧ Box 0 #[.int .i64 0, .bool false, .int .i64 0, .int .i64 0, .int .i64 0, .slice none 0 0, .slice none 0 0, .slice none 0 0, .slice none 0 0] 38 w1 p ∧ Lay.tWorldResult.OwnIn w1 cs (resW c mv z) lo w1.heap.size ∧ w.heap.size ≤ lo ∧ Below w.heap.size w w1) := by
  have HL := hide (doneInC N cap _ x c mv z w hfa h hok hf hc hstep)
  have HX := hide hx
  have z0 := Box.at hw 0 _ rfl
  have z1 := Box.at hw 1 _ rfl
  have z2 := Box.at hw 2 _ rfl
  have z3 := Box.at hw 3 _ rfl
  have z4 := Box.at hw 4 _ rfl
  have z5 := Box.at hw 5 _ rfl
  have z6 := Box.at hw 6 _ rfl
  simp only [List.getElem_toArray, List.getElem_cons_zero, List.getElem_cons_succ] at z0 z1 z2 z3 z4 z5 z6
  have s0 := Box.at hs 0 _ rfl
  have r0 := Box.at hx 0 _ rfl
  simp only [List.getElem_toArray, List.getElem_cons_zero] at s0 r0
  have zl := hw.lt
  have sl := hs.lt
  have rl := hx.lt
  clear hx hw hs h hok hf hstep hfa
  generalize resW c mv z = y at *
  go_enter_d Tryz.func105, Tryz.ntmps105
  go_wp2_with fail
  refine (unhide HL).mono ?_
  rintro e w1 ⟨cs, rfl, O, hb⟩
  obtain ⟨a5, d5, a6, d6, a7, d7, a8, d8, rfl, -⟩ := open_WorldResult O.reads
  have hx := (unhide HX).keep hb
  have HX1 := hide hx
  clear r0
  have r0 := Box.at hx 0 _ rfl
  have r1 := Box.at hx 1 _ rfl
  have r2 := Box.at hx 2 _ rfl
  have r3 := Box.at hx 3 _ rfl
  have r4 := Box.at hx 4 _ rfl
  have r5 := Box.at hx 5 _ rfl
  have r6 := Box.at hx 6 _ rfl
  have r7 := Box.at hx 7 _ rfl
  have r8 := Box.at hx 8 _ rfl
  simp only [List.getElem_toArray, List.getElem_cons_zero, List.getElem_cons_succ] at r0 r1 r2 r3 r4 r5 r6 r7 r8
  have rf := Box.soft hx
  have HO := hide O
  have HB := hide hb
  have rl1 := hx.lt
  clear hx O hb HL HX s0 zl sl rl z0 z1 z2 z3 z4 z5 z6
  go_wp2_with fail
  go_end0
  exact ⟨rfl, [.int .i64 y.code, .bool y.moved, .int .i64 y.world.now, .int .i64 y.world.events, .int .i64 y.world.chain.epoch, .slice a5 y.world.chain.ids.length d5, .slice a6 y.world.nodes.length d6, .slice a7 y.world.msgs.length d7, .slice a8 y.world.history.length d8], w1, w.heap.size, rfl, rfl, unhide HX1, unhide HO, Nat.le_refl _, unhide HB⟩
def steppedR (x : DWorld) (wrong c : Int) (mv : Bool) (z : DWorld) : DWorldResult := if wrong ≠ 0 then badWorld wrong else if 9999 ≤ x.events then badWorld 2 else resW c mv z
set_option maxRecDepth 100000 in
set_option maxHeartbeats 4000000 in
theorem steppedC (N : Nat) (cap : Array Value) (cs : List Value) (x : DWorld) (wrong c : Int) (mv : Bool) (z : DWorld) (w : World) (hfa : ∀ (a : Array Value) (W : World), (callFunc N (a ++ cap)).run Tryz.prog W = .ok (.enter N (a ++ cap)) W) (h : Lay.tWorld.Reads w cs x) (hok : wrong = 0 → WorldOK x) (hf : Fits x) (hc : -1000000000 ≤ c ∧ c ≤ 1000000000) (hwr : -1000000000 ≤ wrong ∧ wrong ≤ 1000000000)
    (hstep : wrong = 0 → ∀ W, Below w.heap.size w W → StepC w.heap.size N cap (nextW x) c mv z W) :
    Calls Tryz.prog 56 #[.agg cs.toArray, .int .i64 wrong, .func (.func N) #[] cap] w fun e w' => ∃ cs', e = .returned (.agg cs'.toArray) ∧ Lay.tWorldResult.OwnIn w' cs' (steppedR x wrong c mv z) w.heap.size w'.heap.size ∧ Below w.heap.size w w' := by
  have hmf : ∀ (fn : Fn) (first cap : Array Value) (w : World), (Instr.makeFunc fn first cap).run Tryz.prog w = .ok (.func fn first cap) w := fun _ _ _ _ => rfl
  obtain ⟨a3, d3, a4, d4, a5, d5, a6, d6, rfl, -, -, -, -⟩ := open_World h
  have nb : Below w.heap.size w (((w.alloc (.cells #[.int .i64 x.now, .int .i64 x.events, .int .i64 x.chain.epoch, .slice a3 x.chain.ids.length d3, .slice a4 x.nodes.length d4, .slice a5 x.msgs.length d5, .slice a6 x.history.length d6] 36)).alloc (.cells #[.func (.func N) #[] cap] 74)).alloc (.cells #[.int .i64 0, .bool false, .int .i64 0, .int .i64 0, .int .i64 0, .slice none 0 0, .slice none 0 0, .slice none 0 0, .slice none 0 0] 38)) := (((Below.refl _ _).alloc (Nat.le_refl _) _).alloc (by simp) _).alloc (by simp; omega) _
  have HX : Hid (Box 0 #[.int .i64 x.now, .int .i64 x.events, .int .i64 x.chain.epoch, .slice a3 x.chain.ids.length d3, .slice a4 x.nodes.length d4, .slice a5 x.msgs.length d5, .slice a6 x.history.length d6] 36 (((w.alloc (.cells #[.int .i64 x.now, .int .i64 x.events, .int .i64 x.chain.epoch, .slice a3 x.chain.ids.length d3, .slice a4 x.nodes.length d4, .slice a5 x.msgs.length d5, .slice a6 x.history.length d6] 36)).alloc (.cells #[.func (.func N) #[] cap] 74)).alloc (.cells #[.int .i64 0, .bool false, .int .i64 0, .int .i64 0, .int .i64 0, .slice none 0 0, .slice none 0 0, .slice none 0 0, .slice none 0 0] 38)) w.heap.size) := ((newBox (Nat.zero_le _)).grow _).grow _
  have HS : Hid (Box 0 #[.func (.func N) #[] cap] 74 (((w.alloc (.cells #[.int .i64 x.now, .int .i64 x.events, .int .i64 x.chain.epoch, .slice a3 x.chain.ids.length d3, .slice a4 x.nodes.length d4, .slice a5 x.msgs.length d5, .slice a6 x.history.length d6] 36)).alloc (.cells #[.func (.func N) #[] cap] 74)).alloc (.cells #[.int .i64 0, .bool false, .int .i64 0, .int .i64 0, .int .i64 0, .slice none 0 0, .slice none 0 0, .slice none 0 0, .slice none 0 0] 38)) (w.heap.size + 1)) := (newBoxAt (Nat.zero_le _) (by simp)).grow _
  have HY : Hid (Box 0 #[.int .i64 0, .bool false, .int .i64 0, .int .i64 0, .int .i64 0, .slice none 0 0, .slice none 0 0, .slice none 0 0, .slice none 0 0] 38 (((w.alloc (.cells #[.int .i64 x.now, .int .i64 x.events, .int .i64 x.chain.epoch, .slice a3 x.chain.ids.length d3, .slice a4 x.nodes.length d4, .slice a5 x.msgs.length d5, .slice a6 x.history.length d6] 36)).alloc (.cells #[.func (.func N) #[] cap] 74)).alloc (.cells #[.int .i64 0, .bool false, .int .i64 0, .int .i64 0, .int .i64 0, .slice none 0 0, .slice none 0 0, .slice none 0 0, .slice none 0 0] 38)) (w.heap.size + 1 + 1)) := newBoxAt (Nat.zero_le _) (by simp)
  have hz0 : (((w.alloc (.cells #[.int .i64 x.now, .int .i64 x.events, .int .i64 x.chain.epoch, .slice a3 x.chain.ids.length d3, .slice a4 x.nodes.length d4, .slice a5 x.msgs.length d5, .slice a6 x.history.length d6] 36)).alloc (.cells #[.func (.func N) #[] cap] 74)).alloc (.cells #[.int .i64 0, .bool false, .int .i64 0, .int .i64 0, .int .i64 0, .slice none 0 0, .slice none 0 0, .slice none 0 0, .slice none 0 0] 38)).heap.size = w.heap.size + 3 := by simp
  have HR := hide (h.later nb)
  have HRD := h
  have HB := hide nb
  clear nb h
  have HWR := hide hwr
  by_cases hw : wrong ≠ 0
  · have hd : (wrong != 0) = true := by simpa using hw
    have HRS : Hid (steppedR x wrong c mv z = badWorld wrong) := if_pos hw
    have HW := hide hw
    clear hok hstep hfa hf hc hwr hw
    go_enter_defers Tryz.func56, Tryz.ntmps56
    go_upto_region 1 with fail
    generalize ((w.alloc (.cells #[.int .i64 x.now, .int .i64 x.events, .int .i64 x.chain.epoch, .slice a3 x.chain.ids.length d3, .slice a4 x.nodes.length d4, .slice a5 x.msgs.length d5, .slice a6 x.history.length d6] 36)).alloc (.cells #[.func (.func N) #[] cap] 74)).alloc (.cells #[.int .i64 0, .bool false, .int .i64 0, .int .i64 0, .int .i64 0, .slice none 0 0, .slice none 0 0, .slice none 0 0, .slice none 0 0] 38) = W0 at *
    have hy := unhide HY
    have r0 := Box.at hy 0 _ rfl
    have r1 := Box.at hy 1 _ rfl
    have r2 := Box.at hy 2 _ rfl
    have r3 := Box.at hy 3 _ rfl
    have r4 := Box.at hy 4 _ rfl
    have r5 := Box.at hy 5 _ rfl
    have r6 := Box.at hy 6 _ rfl
    have r7 := Box.at hy 7 _ rfl
    have r8 := Box.at hy 8 _ rfl
    simp only [List.getElem_toArray, List.getElem_cons_zero, List.getElem_cons_succ] at r0 r1 r2 r3 r4 r5 r6 r7 r8
    have rf := Box.soft hy
    have rl := hy.lt
    have hy2 := box_set9W hy (.int .i64 wrong) (.bool false) (.int .i64 0) (.int .i64 0) (.int .i64 0) (.slice none 0 0) (.slice none 0 0) (.slice none 0 0) (.slice none 0 0)
    have HQ := hide (put_bad (w.heap.size + 1 + 1) w.heap.size (w.heap.size + 1) wrong _ hy2 (unhide HW))
    have HY2 := hide hy2
    have HB2 := hide (below_setAll (unhide HB) (w.heap.size + 1 + 1) 0 [.int .i64 wrong, .bool false, .int .i64 0, .int .i64 0, .int .i64 0, .slice none 0 0, .slice none 0 0, .slice none 0 0, .slice none 0 0] (by omega))
    clear hy hy2 HY HB
    go_wp2_with fail
    refine leaves_cons (f := 105) (args := #[.pointer (some ⟨w.heap.size + 1 + 1, 0, none⟩), .pointer (some ⟨w.heap.size, 0, none⟩), .pointer (some ⟨w.heap.size + 1, 0, none⟩)]) (by simp) (by simp [go_sem]) ?_
    refine (unhide HQ).mono ?_
    rintro e u' w2 ⟨rfl, rfl, rfl⟩
    have hy2 := unhide HY2
    clear r0 r1 r2 r3 r4 r5 r6 r7 r8 rf rl
    have r0 := Box.at hy2 0 _ rfl
    have r1 := Box.at hy2 1 _ rfl
    have r2 := Box.at hy2 2 _ rfl
    have r3 := Box.at hy2 3 _ rfl
    have r4 := Box.at hy2 4 _ rfl
    have r5 := Box.at hy2 5 _ rfl
    have r6 := Box.at hy2 6 _ rfl
    have r7 := Box.at hy2 7 _ rfl
    have r8 := Box.at hy2 8 _ rfl
    simp only [List.getElem_toArray, List.getElem_cons_zero, List.getElem_cons_succ] at r0 r1 r2 r3 r4 r5 r6 r7 r8
    refine ⟨.agg #[.int .i64 wrong, .bool false, .int .i64 0, .int .i64 0, .int .i64 0, .slice none 0 0, .slice none 0 0, .slice none 0 0, .slice none 0 0], ?_, ?_⟩
    · simp [results, Tryz.results56, go_sem, r0, r1, r2, r3, r4, r5, r6, r7, r8]
    · rw [unhide HRS]
      exact ⟨[.int .i64 wrong, .bool false, .int .i64 0, .int .i64 0, .int .i64 0, .slice none 0 0, .slice none 0 0, .slice none 0 0, .slice none 0 0], rfl, own_badW (unhide HWR) (unhide HB2).size, unhide HB2⟩
  · have hw0 : wrong = 0 := by simpa using hw
    subst hw0
    by_cases he : 9999 ≤ x.events
    · have hd : decide (9999 ≤ x.events) = true := by simpa using he
      have HRS : Hid (steppedR x 0 c mv z = badWorld 2) := by show steppedR x 0 c mv z = _; rw [steppedR, if_neg (by simp), if_pos he]
      clear hok hstep hfa hf hc hwr hw he
      go_enter_defers Tryz.func56, Tryz.ntmps56
      go_upto_region 1 with fail
      generalize ((w.alloc (.cells #[.int .i64 x.now, .int .i64 x.events, .int .i64 x.chain.epoch, .slice a3 x.chain.ids.length d3, .slice a4 x.nodes.length d4, .slice a5 x.msgs.length d5, .slice a6 x.history.length d6] 36)).alloc (.cells #[.func (.func N) #[] cap] 74)).alloc (.cells #[.int .i64 0, .bool false, .int .i64 0, .int .i64 0, .int .i64 0, .slice none 0 0, .slice none 0 0, .slice none 0 0, .slice none 0 0] 38) = W0 at *
      have hx1 := Box.at (unhide HX) 1 _ rfl
      simp only [List.getElem_toArray, List.getElem_cons_zero, List.getElem_cons_succ] at hx1
      have hxl := (unhide HX).lt
      have hy := unhide HY
      have r0 := Box.at hy 0 _ rfl
      have r1 := Box.at hy 1 _ rfl
      have r2 := Box.at hy 2 _ rfl
      have r3 := Box.at hy 3 _ rfl
      have r4 := Box.at hy 4 _ rfl
      have r5 := Box.at hy 5 _ rfl
      have r6 := Box.at hy 6 _ rfl
      have r7 := Box.at hy 7 _ rfl
      have r8 := Box.at hy 8 _ rfl
      simp only [List.getElem_toArray, List.getElem_cons_zero, List.getElem_cons_succ] at r0 r1 r2 r3 r4 r5 r6 r7 r8
      have rf := Box.soft hy
      have rl := hy.lt
      have hy2 := box_set9W hy (.int .i64 2) (.bool false) (.int .i64 0) (.int .i64 0) (.int .i64 0) (.slice none 0 0) (.slice none 0 0) (.slice none 0 0) (.slice none 0 0)
      have HQ := hide (put_bad (w.heap.size + 1 + 1) w.heap.size (w.heap.size + 1) 2 _ hy2 (by decide))
      have HY2 := hide hy2
      have HB2 := hide (below_setAll (unhide HB) (w.heap.size + 1 + 1) 0 [.int .i64 2, .bool false, .int .i64 0, .int .i64 0, .int .i64 0, .slice none 0 0, .slice none 0 0, .slice none 0 0, .slice none 0 0] (by omega))
      clear hy hy2 HY HB
      go_wp2_with fail
      refine leaves_cons (f := 105) (args := #[.pointer (some ⟨w.heap.size + 1 + 1, 0, none⟩), .pointer (some ⟨w.heap.size, 0, none⟩), .pointer (some ⟨w.heap.size + 1, 0, none⟩)]) (by simp) (by simp [go_sem]) ?_
      refine (unhide HQ).mono ?_
      rintro e u' w2 ⟨rfl, rfl, rfl⟩
      have hy2 := unhide HY2
      clear r0 r1 r2 r3 r4 r5 r6 r7 r8 rf rl
      have r0 := Box.at hy2 0 _ rfl
      have r1 := Box.at hy2 1 _ rfl
      have r2 := Box.at hy2 2 _ rfl
      have r3 := Box.at hy2 3 _ rfl
      have r4 := Box.at hy2 4 _ rfl
      have r5 := Box.at hy2 5 _ rfl
      have r6 := Box.at hy2 6 _ rfl
      have r7 := Box.at hy2 7 _ rfl
      have r8 := Box.at hy2 8 _ rfl
      simp only [List.getElem_toArray, List.getElem_cons_zero, List.getElem_cons_succ] at r0 r1 r2 r3 r4 r5 r6 r7 r8
      refine ⟨.agg #[.int .i64 2, .bool false, .int .i64 0, .int .i64 0, .int .i64 0, .slice none 0 0, .slice none 0 0, .slice none 0 0, .slice none 0 0], ?_, ?_⟩
      · simp [results, Tryz.results56, go_sem, r0, r1, r2, r3, r4, r5, r6, r7, r8]
      · rw [unhide HRS]
        exact ⟨[.int .i64 2, .bool false, .int .i64 0, .int .i64 0, .int .i64 0, .slice none 0 0, .slice none 0 0, .slice none 0 0, .slice none 0 0], rfl, own_badW (by decide) (unhide HB2).size, unhide HB2⟩
    · have hd : decide (9999 ≤ x.events) = false := by simpa using he
      have HRS : Hid (steppedR x 0 c mv z = resW c mv z) := by show steppedR x 0 c mv z = _; rw [steppedR, if_neg (by simp), if_neg he]
      have HOK := hide (hok rfl)
      have HST := hide (hstep rfl)
      have HFA := hide hfa
      have HF := hide hf
      have HC := hide hc
      clear hok hstep hfa hf hc hwr hw he
      go_enter_defers Tryz.func56, Tryz.ntmps56
      go_upto_region 1 with fail
      generalize ((w.alloc (.cells #[.int .i64 x.now, .int .i64 x.events, .int .i64 x.chain.epoch, .slice a3 x.chain.ids.length d3, .slice a4 x.nodes.length d4, .slice a5 x.msgs.length d5, .slice a6 x.history.length d6] 36)).alloc (.cells #[.func (.func N) #[] cap] 74)).alloc (.cells #[.int .i64 0, .bool false, .int .i64 0, .int .i64 0, .int .i64 0, .slice none 0 0, .slice none 0 0, .slice none 0 0, .slice none 0 0] 38) = W0 at *
      have hx1 := Box.at (unhide HX) 1 _ rfl
      simp only [List.getElem_toArray, List.getElem_cons_zero, List.getElem_cons_succ] at hx1
      have hxl := (unhide HX).lt
      have hy := unhide HY
      have r0 := Box.at hy 0 _ rfl
      have r1 := Box.at hy 1 _ rfl
      have r2 := Box.at hy 2 _ rfl
      have r3 := Box.at hy 3 _ rfl
      have r4 := Box.at hy 4 _ rfl
      have r5 := Box.at hy 5 _ rfl
      have r6 := Box.at hy 6 _ rfl
      have r7 := Box.at hy 7 _ rfl
      have r8 := Box.at hy 8 _ rfl
      simp only [List.getElem_toArray, List.getElem_cons_zero, List.getElem_cons_succ] at r0 r1 r2 r3 r4 r5 r6 r7 r8
      have rf := Box.soft hy
      have rl := hy.lt
      have hy2 := box_set9W hy (.int .i64 0) (.bool false) (.int .i64 0) (.int .i64 0) (.int .i64 0) (.slice none 0 0) (.slice none 0 0) (.slice none 0 0) (.slice none 0 0)
      have e1 : Ext (fun q => q = w.heap.size + 1 + 1) W0 (setAll W0 (w.heap.size + 1 + 1) 0 [.int .i64 0, .bool false, .int .i64 0, .int .i64 0, .int .i64 0, .slice none 0 0, .slice none 0 0, .slice none 0 0, .slice none 0 0]) := ext_setAll _ (Ext.refl _ _) _ _ _ rfl
      have hb2 := below_setAll (unhide HB) (w.heap.size + 1 + 1) 0 [.int .i64 0, .bool false, .int .i64 0, .int .i64 0, .int .i64 0, .slice none 0 0, .slice none 0 0, .slice none 0 0, .slice none 0 0] (by omega)
      have HR2 := hide (((unhide HR).liesIn.mono (Nat.le_refl _) (Nat.le_refl _)).reads)
      have HQ := hide (put_ok (w.heap.size + 1 + 1) w.heap.size (w.heap.size + 1) N cap a3 d3 a4 d4 a5 d5 a6 d6 x c mv z _ hy2 ((unhide HX).ext e1 (by omega)) ((unhide HS).ext e1 (by omega)) (unhide HFA) (HRD.later hb2) (unhide HOK) (unhide HF) (unhide HC) (fun W hW g lo v3 v4 v5 v6 hL => unhide HST W (hb2.trans (hW.mono hb2.size)) g lo v3 v4 v5 v6 (Nat.le_trans hb2.size hL)))
      have HB2 := hide hb2
      clear hy hy2 HY HB HR HR2 HX HS HST e1 hb2 HRD
      go_wp2_with fail
      refine leaves_cons (f := 105) (args := #[.pointer (some ⟨w.heap.size + 1 + 1, 0, none⟩), .pointer (some ⟨w.heap.size, 0, none⟩), .pointer (some ⟨w.heap.size + 1, 0, none⟩)]) (by simp) (by simp [go_sem]) ?_
      refine (unhide HQ).mono ?_
      rintro e u' w2 ⟨rfl, rfl, cs, w1, lo, rfl, hl, hx, O, hlo, hb⟩
      obtain ⟨a5r, d5r, a6r, d6r, a7r, d7r, a8r, d8r, rfl, -⟩ := open_WorldResult O.reads
      rw [unhide HRS]
      generalize resW c mv z = y at *
      have hy2 := box_set9W hx (.int .i64 y.code) (.bool y.moved) (.int .i64 y.world.now) (.int .i64 y.world.events) (.int .i64 y.world.chain.epoch) (.slice a5r y.world.chain.ids.length d5r) (.slice a6r y.world.nodes.length d6r) (.slice a7r y.world.msgs.length d7r) (.slice a8r y.world.history.length d8r)
      clear r0 r1 r2 r3 r4 r5 r6 r7 r8 rf rl
      have r0 := Box.at hy2 0 _ rfl
      have r1 := Box.at hy2 1 _ rfl
      have r2 := Box.at hy2 2 _ rfl
      have r3 := Box.at hy2 3 _ rfl
      have r4 := Box.at hy2 4 _ rfl
      have r5 := Box.at hy2 5 _ rfl
      have r6 := Box.at hy2 6 _ rfl
      have r7 := Box.at hy2 7 _ rfl
      have r8 := Box.at hy2 8 _ rfl
      simp only [List.getElem_toArray, List.getElem_cons_zero, List.getElem_cons_succ] at r0 r1 r2 r3 r4 r5 r6 r7 r8
      have e2 : Ext (fun q => q = w.heap.size + 1 + 1) w1 (setAll w1 (w.heap.size + 1 + 1) 0 [.int .i64 y.code, .bool y.moved, .int .i64 y.world.now, .int .i64 y.world.events, .int .i64 y.world.chain.epoch, .slice a5r y.world.chain.ids.length d5r, .slice a6r y.world.nodes.length d6r, .slice a7r y.world.msgs.length d7r, .slice a8r y.world.history.length d8r]) := ext_setAll _ (Ext.refl _ _) _ _ _ rfl
      have hsz := (unhide HB2).size
      have hO := (O.ext e2 (fun q h1 h2 h3 => by have := size_setAll W0 (w.heap.size + 1 + 1) 0 [.int .i64 0, .bool false, .int .i64 0, .int .i64 0, .int .i64 0, .slice none 0 0, .slice none 0 0, .slice none 0 0, .slice none 0 0]; omega))
      refine ⟨.agg #[.int .i64 y.code, .bool y.moved, .int .i64 y.world.now, .int .i64 y.world.events, .int .i64 y.world.chain.epoch, .slice a5r y.world.chain.ids.length d5r, .slice a6r y.world.nodes.length d6r, .slice a7r y.world.msgs.length d7r, .slice a8r y.world.history.length d8r], ?_, ?_⟩
      · simp [results, Tryz.results56, go_sem, r0, r1, r2, r3, r4, r5, r6, r7, r8]
      · exact ⟨[.int .i64 y.code, .bool y.moved, .int .i64 y.world.now, .int .i64 y.world.events, .int .i64 y.world.chain.epoch, .slice a5r y.world.chain.ids.length d5r, .slice a6r y.world.nodes.length d6r, .slice a7r y.world.msgs.length d7r, .slice a8r y.world.history.length d8r], rfl, hO.mono (by omega) (Nat.le_of_eq (size_setAll _ _ _ _).symm), below_setAll ((unhide HB2).trans (hb.mono hsz)) (w.heap.size + 1 + 1) 0 [.int .i64 y.code, .bool y.moved, .int .i64 y.world.now, .int .i64 y.world.events, .int .i64 y.world.chain.epoch, .slice a5r y.world.chain.ids.length d5r, .slice a6r y.world.nodes.length d6r, .slice a7r y.world.msgs.length d7r, .slice a8r y.world.history.length d8r] (by omega)⟩
end Go.Proofs.YtdnhmoppineegaaGreat

namespace Go.Proofs.YtdnhmoppineegaaGreat
open Go.RowKit

theorem idFault_zero {x : DWorld} {id : Int} (h : idFaultR x id = 0) : worldFault x = 0 ∧ nodeIn x id = true := by
  unfold idFaultR at h
  split at h
  · rename_i q; exact absurd h q
  · rename_i q
    split at h
    · simp at h
    · rename_i q2
      exact ⟨by simpa using q, by simpa using q2⟩
theorem idFault_bd (x : DWorld) (id : Int) : -1000000000 ≤ idFaultR x id ∧ idFaultR x id ≤ 1000000000 := by
  have := wf_vals x
  unfold idFaultR
  split
  · omega
  · split <;> omega
theorem nodeIn_at {x : DWorld} {id : Int} (h : nodeIn x id = true) : ∃ k, ∃ _ : k < x.nodes.length, id = (k : Int) + 1 := by
  simp only [nodeIn, Bool.and_eq_true, decide_eq_true_eq] at h
  exact ⟨(id - 1).toNat, by omega, by omega⟩
theorem nodeOf_at {x : DWorld} {k : Nat} (hk : k < x.nodes.length) : nodeOf x ((k : Int) + 1) = x.nodes[k] := by
  have : ((k : Int) + 1 - 1).toNat = k := by omega
  rw [nodeOf, this]
  simp [List.getD, hk]
theorem askedW_eq (x : DWorld) (id : Int) : askedW x id = if idFaultR x id ≠ 0 then idFaultR x id else if 9999 ≤ x.events then 2 else 0 := by
  unfold askedW idFaultR
  by_cases h1 : worldFault x ≠ 0
  · rw [if_pos h1, if_pos h1, if_pos h1]
  · rw [if_neg h1, if_neg h1]
    by_cases h2 : nodeIn x id = false
    · rw [if_pos h2, if_pos h2, if_pos (show ((4 : Int) ≠ 0) by omega)]
    · rw [if_neg h2, if_neg h2, if_neg (show ¬ ((0 : Int) ≠ 0) by omega)]
theorem steppedR_eq (x : DWorld) (id c : Int) (mv : Bool) (z : DWorld) : steppedR x (idFaultR x id) c mv z = if askedW x id ≠ 0 then badWorld (askedW x id) else resW c mv z := by
  rw [askedW_eq, steppedR]
  by_cases h1 : idFaultR x id ≠ 0
  · rw [if_pos h1, if_pos h1, if_pos h1]
  · rw [if_neg h1, if_neg h1]
    by_cases h2 : 9999 ≤ x.events
    · rw [if_pos h2, if_pos h2, if_pos (show ((2 : Int) ≠ 0) by omega)]
    · rw [if_neg h2, if_neg h2, if_neg (show ¬ ((0 : Int) ≠ 0) by omega)]
theorem putWR_eq (x : DWorld) (r : DNodeResult) : resW r.code true (putNode (nextW x) r.node) = putWR x r := by
  rw [resW, putWR]
  by_cases h : r.code = 0
  · rw [if_pos h, if_neg (by simpa using h)]
  · rw [if_neg h, if_pos h]
theorem askedN_bdW (x : DNode) : -1000000000 ≤ askedN x ∧ askedN x ≤ 1000000000 := by
  have := nodeFault_vals x
  unfold askedN
  split
  · split <;> omega
  · omega
theorem syncR_bd (x : DNode) : -1000000000 ≤ (syncR x).code ∧ (syncR x).code ≤ 1000000000 := by
  have := askedN_bdW x
  unfold syncR
  split
  · simp
  · exact this
theorem crashR_bd (x : DNode) (k : Int) : -1000000000 ≤ (crashR x k).code ∧ (crashR x k).code ≤ 1000000000 := by
  have := askedN_bdW x
  unfold crashR
  split
  · split
    · simp
    · simp [badNode]
  · exact this
theorem syncR_id {n : DNode} {i : Int} (_ : nodeFault n = 0) (h : n.id = i) : (syncR n).code = 0 → (syncR n).node.id = i := by
  intro h0
  unfold syncR at h0 ⊢
  split
  · exact h
  · rename_i q
    rw [if_neg q] at h0
    exact absurd h0 q
theorem crashR_id {n : DNode} {i : Int} (_ : nodeFault n = 0) (h : n.id = i) (k : Int) : (crashR n k).code = 0 → (crashR n k).node.id = i := by
  intro h0
  unfold crashR at h0 ⊢
  split
  · rename_i q
    rw [if_pos q] at h0
    split
    · exact h
    · rename_i q2
      rw [if_neg q2] at h0
      simp [badNode] at h0
  · rename_i q
    rw [if_neg q] at h0
    exact absurd h0 q
theorem syncW_eq (x : DWorld) (id : Int) : steppedR x (idFaultR x id) (syncR (nodeOf x id)).code true (putNode (nextW x) (syncR (nodeOf x id)).node) = syncWR x id := by
  rw [steppedR_eq, putWR_eq, syncWR]
theorem crashW_eq (x : DWorld) (id kept : Int) : steppedR x (idFaultR x id) (crashR (nodeOf x id) kept).code true (putNode (nextW x) (crashR (nodeOf x id) kept).node) = crashWR x id kept := by
  rw [steppedR_eq, putWR_eq, crashWR]
end Go.Proofs.YtdnhmoppineegaaGreat

namespace Go.Proofs.YtdnhmoppineegaaGreat
open Go.RowKit

set_option maxRecDepth 10000 in
set_option maxHeartbeats 2000000 in
theorem l12BadCZ (c : Int) (w : World) :
    Calls Tryz.prog 49 #[.int .i64 c] w fun e w' => e = .returned (.agg #[.int .i64 c, .bool false, .int .i64 0, .int .i64 0, .int .i64 0, .slice none 0 0, .slice none 0 0, .slice none 0 0, .slice none 0 0]) ∧ Below w.heap.size w w' := by
  have HB : Hid (∀ o, Below w.heap.size w (w.alloc o)) := fun o => (Below.refl _ _).alloc (Nat.le_refl _) o
  go_enter Tryz.func49, Tryz.ntmps49
  go_wp2_with fail
  refine bodyPost_ret (v := .agg #[.int .i64 c, .bool false, .int .i64 0, .int .i64 0, .int .i64 0, .slice none 0 0, .slice none 0 0, .slice none 0 0, .slice none 0 0]) (by simp [results, Tryz.results49, go_sem]) rfl ?_
  exact ⟨rfl, unhide HB _⟩
set_option maxRecDepth 100000 in
set_option maxHeartbeats 4000000 in
theorem l12AskedC (a3 : Option Addr) (d3 : Nat) (a4 : Option Addr) (d4 : Nat) (a5 : Option Addr) (d5 : Nat) (a6 : Option Addr) (d6 : Nat) (x : DWorld) (id : Int) (xb : Nat) (w : World) (hX : Box 0 #[.int .i64 x.now, .int .i64 x.events, .int .i64 x.chain.epoch, .slice a3 x.chain.ids.length d3, .slice a4 x.nodes.length d4, .slice a5 x.msgs.length d5, .slice a6 x.history.length d6] 36 w xb) (h : Lay.tWorld.Reads w [.int .i64 x.now, .int .i64 x.events, .int .i64 x.chain.epoch, .slice a3 x.chain.ids.length d3, .slice a4 x.nodes.length d4, .slice a5 x.msgs.length d5, .slice a6 x.history.length d6] x) :
    Calls Tryz.prog 48 #[.pointer (some ⟨xb, 0, none⟩), .int .i64 id] w fun e w' => e = .returned (.int .i64 (askedW x id)) ∧ Below w.heap.size w w' := by
  have HX := hide hX
  have HP : Hid (askedW x id = if worldFault x ≠ 0 then worldFault x else if nodeIn x id = false then 4 else if 9999 ≤ x.events then 2 else 0) := rfl
  have HL := hide (l12FaultC a3 d3 a4 d4 a5 d5 a6 d6 x xb w hX h)
  clear hX h
  generalize askedW x id = r at *
  go_enter Tryz.func48, Tryz.ntmps48
  go_wp2_with fail
  refine (unhide HL).mono ?_
  rintro e w2 ⟨rfl, hb⟩
  have hx := (unhide HX).keep hb
  have HB := hide hb
  clear hb HL HX
  by_cases d1 : worldFault x ≠ 0
  · have hd : (worldFault x != 0) = true := by simpa using d1
    replace HP := hide ((unhide HP).trans (if_pos d1))
    clear d1 hx
    generalize worldFault x = c at *
    go_wp2_with fail
    go_ret
    exact ⟨by rw [unhide HP]; rfl, unhide HB⟩
  · replace HP := hide ((unhide HP).trans (if_neg d1))
    have hd : worldFault x = 0 := by simpa using d1
    clear d1
    rw [hd]
    clear hd
    have HL := hide (l12NodeC a3 d3 a4 d4 a5 d5 a6 d6 x id xb w2 hx)
    have z1 := Box.at hx 1 _ rfl
    simp only [List.getElem_toArray, List.getElem_cons_zero, List.getElem_cons_succ] at z1
    have xl := hx.lt
    clear hx
    go_wp2_with fail
    refine (unhide HL).mono ?_
    rintro e w3 ⟨rfl, h3⟩
    subst w3
    clear HL
    generalize nodeIn x id = q at *
    cases q
    · replace HP := hide ((unhide HP).trans (if_pos rfl))
      go_wp2_with fail
      go_ret
      exact ⟨by rw [unhide HP]; rfl, unhide HB⟩
    · replace HP := hide ((unhide HP).trans (if_neg (by simp)))
      by_cases he : 9999 ≤ x.events
      · have hd : decide (9999 ≤ x.events) = true := by simpa using he
        replace HP := hide ((unhide HP).trans (if_pos he))
        clear he
        go_wp2_with fail
        go_ret
        exact ⟨by rw [unhide HP]; rfl, unhide HB⟩
      · have hd : decide (9999 ≤ x.events) = false := by simpa using he
        replace HP := hide ((unhide HP).trans (if_neg he))
        clear he
        go_wp2_with fail
        go_ret
        exact ⟨by rw [unhide HP]; rfl, unhide HB⟩
end Go.Proofs.YtdnhmoppineegaaGreat

namespace Go.Proofs.YtdnhmoppineegaaGreat
open Go.RowKit

set_option maxRecDepth 100000 in
set_option maxHeartbeats 2000000 in
theorem l12NextC (cs : List Value) (x : DWorld) (w : World) (h : Lay.tWorld.Reads w cs x) (hok : WorldOK x) (hf : Fits x) :
    Calls Tryz.prog 70 #[.agg cs.toArray] w fun e w' => ∃ cs', e = .returned (.agg cs'.toArray) ∧ WNew w' w.heap.size w'.heap.size cs' (nextW x) ∧ Below w.heap.size w w' := by
  obtain ⟨a3, d3, a4, d4, a5, d5, a6, d6, rfl, -, -, -, -⟩ := open_World h
  have nb : Below w.heap.size w ((w.alloc (.cells #[.int .i64 x.now, .int .i64 x.events, .int .i64 x.chain.epoch, .slice a3 x.chain.ids.length d3, .slice a4 x.nodes.length d4, .slice a5 x.msgs.length d5, .slice a6 x.history.length d6] 36)).alloc (.cells #[.int .i64 0, .int .i64 0, .int .i64 0, .slice none 0 0, .slice none 0 0, .slice none 0 0, .slice none 0 0] 36)) := ((Below.refl _ _).alloc (Nat.le_refl _) _).alloc (by simp) _
  have HX : Hid (Box 0 #[.int .i64 x.now, .int .i64 x.events, .int .i64 x.chain.epoch, .slice a3 x.chain.ids.length d3, .slice a4 x.nodes.length d4, .slice a5 x.msgs.length d5, .slice a6 x.history.length d6] 36 ((w.alloc (.cells #[.int .i64 x.now, .int .i64 x.events, .int .i64 x.chain.epoch, .slice a3 x.chain.ids.length d3, .slice a4 x.nodes.length d4, .slice a5 x.msgs.length d5, .slice a6 x.history.length d6] 36)).alloc (.cells #[.int .i64 0, .int .i64 0, .int .i64 0, .slice none 0 0, .slice none 0 0, .slice none 0 0, .slice none 0 0] 36)) w.heap.size) := (newBox (Nat.zero_le _)).grow _
  have HY : Hid (Box 0 #[.int .i64 0, .int .i64 0, .int .i64 0, .slice none 0 0, .slice none 0 0, .slice none 0 0, .slice none 0 0] 36 ((w.alloc (.cells #[.int .i64 x.now, .int .i64 x.events, .int .i64 x.chain.epoch, .slice a3 x.chain.ids.length d3, .slice a4 x.nodes.length d4, .slice a5 x.msgs.length d5, .slice a6 x.history.length d6] 36)).alloc (.cells #[.int .i64 0, .int .i64 0, .int .i64 0, .slice none 0 0, .slice none 0 0, .slice none 0 0, .slice none 0 0] 36)) (w.heap.size + 1)) := newBoxAt (Nat.zero_le _) (by simp)
  have hz0 : ((w.alloc (.cells #[.int .i64 x.now, .int .i64 x.events, .int .i64 x.chain.epoch, .slice a3 x.chain.ids.length d3, .slice a4 x.nodes.length d4, .slice a5 x.msgs.length d5, .slice a6 x.history.length d6] 36)).alloc (.cells #[.int .i64 0, .int .i64 0, .int .i64 0, .slice none 0 0, .slice none 0 0, .slice none 0 0, .slice none 0 0] 36)).heap.size = w.heap.size + 2 := by simp
  have HL := hide (l12CopyC _ x _ (h.later nb) hok hf)
  have HB := hide nb
  have HEV := hide hok.events
  clear nb h hok hf
  go_enter Tryz.func70, Tryz.ntmps70
  go_upto_region 1 with fail
  generalize ((w.alloc (.cells #[.int .i64 x.now, .int .i64 x.events, .int .i64 x.chain.epoch, .slice a3 x.chain.ids.length d3, .slice a4 x.nodes.length d4, .slice a5 x.msgs.length d5, .slice a6 x.history.length d6] 36)).alloc (.cells #[.int .i64 0, .int .i64 0, .int .i64 0, .slice none 0 0, .slice none 0 0, .slice none 0 0, .slice none 0 0] 36)) = W0 at *
  have z0 := Box.at (unhide HX) 0 _ rfl
  have z1 := Box.at (unhide HX) 1 _ rfl
  have z2 := Box.at (unhide HX) 2 _ rfl
  have z3 := Box.at (unhide HX) 3 _ rfl
  have z4 := Box.at (unhide HX) 4 _ rfl
  have z5 := Box.at (unhide HX) 5 _ rfl
  have z6 := Box.at (unhide HX) 6 _ rfl
  simp only [List.getElem_toArray, List.getElem_cons_zero, List.getElem_cons_succ] at z0 z1 z2 z3 z4 z5 z6
  have zl := (unhide HX).lt
  go_wp2_with fail
  refine (unhide HL).mono ?_
  rintro e W1 ⟨cs', rfl, O, hb⟩
  obtain ⟨a3w, d3w, a4w, d4w, a5w, d5w, a6w, d6w, rfl, -⟩ := open_World O.reads
  have hz1 : W0.heap.size ≤ W1.heap.size := hb.size
  have nb : Below W1.heap.size W1 (W1.alloc (.cells #[.int .i64 x.now, .int .i64 x.events, .int .i64 x.chain.epoch, .slice a3w x.chain.ids.length d3w, .slice a4w x.nodes.length d4w, .slice a5w x.msgs.length d5w, .slice a6w x.history.length d6w] 36)) := (Below.refl _ _).alloc (Nat.le_refl _) _
  have HG : Hid (Box 0 #[.int .i64 x.now, .int .i64 x.events, .int .i64 x.chain.epoch, .slice a3w x.chain.ids.length d3w, .slice a4w x.nodes.length d4w, .slice a5w x.msgs.length d5w, .slice a6w x.history.length d6w] 36 (W1.alloc (.cells #[.int .i64 x.now, .int .i64 x.events, .int .i64 x.chain.epoch, .slice a3w x.chain.ids.length d3w, .slice a4w x.nodes.length d4w, .slice a5w x.msgs.length d5w, .slice a6w x.history.length d6w] 36)) W1.heap.size) := newBox (Nat.zero_le _)
  have HO := hide (O.later nb)
  replace HY := hide (((unhide HY).keep hb).keep nb)
  replace HX := hide (((unhide HX).keep hb).keep nb)
  replace HB := hide ((unhide HB).trans ((hb.trans (nb.mono hb.size)).mono (unhide HB).size))
  have hz2 : W1.heap.size < (W1.alloc (.cells #[.int .i64 x.now, .int .i64 x.events, .int .i64 x.chain.epoch, .slice a3w x.chain.ids.length d3w, .slice a4w x.nodes.length d4w, .slice a5w x.msgs.length d5w, .slice a6w x.history.length d6w] 36)).heap.size := by simp
  clear nb O hb HL z0 z1 z2 z3 z4 z5 z6 zl
  go_upto_region 2 with fail
  generalize W1.alloc (.cells #[.int .i64 x.now, .int .i64 x.events, .int .i64 x.chain.epoch, .slice a3w x.chain.ids.length d3w, .slice a4w x.nodes.length d4w, .slice a5w x.msgs.length d5w, .slice a6w x.history.length d6w] 36) = W2 at *
  have hx := unhide HX
  have hg := unhide HG
  have z1 := Box.at hx 1 _ rfl
  have y1 := Box.at hg 1 _ rfl
  simp only [List.getElem_toArray, List.getElem_cons_zero, List.getElem_cons_succ] at z1 y1
  have zl := hx.lt
  have yl := hg.lt
  have yf := Box.soft hg
  have hev := unhide HEV
  have hg2 := Box.set hg 1 (.int .i64 (x.events + 1))
  simp only [List.setIfInBounds_toArray, List.set_cons_zero, List.set_cons_succ] at hg2
  have e1 : Ext (fun q => q = W1.heap.size) W2 (W2.setCell ⟨W1.heap.size, 1, none⟩ (.int .i64 (x.events + 1))) := (Ext.refl _ _).setCell _ _ rfl
  have hO2 := ((unhide HO).ext e1 (fun k h1 h2 h3 => by omega)).count x.now (x.events + 1) (wf_World (unhide HO).reads).1 (wf_of_bd (by omega))
  replace HG := hide hg2
  replace HO := hide hO2
  replace HY := hide ((unhide HY).ext e1 (by omega))
  replace HB := hide ((unhide HB).setCell (p := ⟨W1.heap.size, 1, none⟩) (by simp; omega) (.int .i64 (x.events + 1)))
  have hz3 : W2.heap.size ≤ (W2.setCell ⟨W1.heap.size, 1, none⟩ (.int .i64 (x.events + 1))).heap.size := by simp
  clear hx hg hg2 e1 hO2 HX
  go_upto_region 3 with fail
  generalize hW : W2.setCell ⟨W1.heap.size, 1, none⟩ (.int .i64 (x.events + 1)) = W3 at *
  clear hW y1 yf yl z1 zl hev
  have y0 := Box.at (unhide HG) 0 _ rfl
  have y1 := Box.at (unhide HG) 1 _ rfl
  have y2 := Box.at (unhide HG) 2 _ rfl
  have y3 := Box.at (unhide HG) 3 _ rfl
  have y4 := Box.at (unhide HG) 4 _ rfl
  have y5 := Box.at (unhide HG) 5 _ rfl
  have y6 := Box.at (unhide HG) 6 _ rfl
  simp only [List.getElem_toArray, List.getElem_cons_zero, List.getElem_cons_succ] at y0 y1 y2 y3 y4 y5 y6
  have yl := (unhide HG).lt
  have r0 := Box.at (unhide HY) 0 _ rfl
  have r1 := Box.at (unhide HY) 1 _ rfl
  have r2 := Box.at (unhide HY) 2 _ rfl
  have r3 := Box.at (unhide HY) 3 _ rfl
  have r4 := Box.at (unhide HY) 4 _ rfl
  have r5 := Box.at (unhide HY) 5 _ rfl
  have r6 := Box.at (unhide HY) 6 _ rfl
  simp only [List.getElem_toArray, List.getElem_cons_zero, List.getElem_cons_succ] at r0 r1 r2 r3 r4 r5 r6
  have rl := (unhide HY).lt
  have rf := Box.soft (unhide HY)
  have e9 : Ext (fun q => q = w.heap.size + 1) W3 (setAll W3 (w.heap.size + 1) 0 [.int .i64 x.now, .int .i64 (x.events + 1), .int .i64 x.chain.epoch, .slice a3w x.chain.ids.length d3w, .slice a4w x.nodes.length d4w, .slice a5w x.msgs.length d5w, .slice a6w x.history.length d6w]) := ext_setAll _ (Ext.refl _ _) _ _ _ rfl
  have HO9 := hide (((unhide HO).ext e9 (fun k h1 h2 h3 => by omega)).mono (show w.heap.size ≤ W0.heap.size by omega) (show W1.heap.size ≤ (setAll W3 (w.heap.size + 1) 0 [.int .i64 x.now, .int .i64 (x.events + 1), .int .i64 x.chain.epoch, .slice a3w x.chain.ids.length d3w, .slice a4w x.nodes.length d4w, .slice a5w x.msgs.length d5w, .slice a6w x.history.length d6w]).heap.size by rw [size_setAll]; omega))
  have HB9 := hide (below_setAll (unhide HB) (w.heap.size + 1) 0 [.int .i64 x.now, .int .i64 (x.events + 1), .int .i64 x.chain.epoch, .slice a3w x.chain.ids.length d3w, .slice a4w x.nodes.length d4w, .slice a5w x.msgs.length d5w, .slice a6w x.history.length d6w] (by omega))
  clear e9 HO HG HY HB HEV
  go_wp2_with fail
  refine bodyPost_ret (v := .agg #[.int .i64 x.now, .int .i64 (x.events + 1), .int .i64 x.chain.epoch, .slice a3w x.chain.ids.length d3w, .slice a4w x.nodes.length d4w, .slice a5w x.msgs.length d5w, .slice a6w x.history.length d6w]) (by simp [results, Tryz.results70, go_sem, r0, r1, r2, r3, r4, r5, r6]) rfl ?_
  exact ⟨_, rfl, unhide HO9, unhide HB9⟩
end Go.Proofs.YtdnhmoppineegaaGreat

namespace Go.Proofs.YtdnhmoppineegaaGreat
open Go.RowKit

set_option maxRecDepth 100000 in
set_option maxHeartbeats 2000000 in
theorem l12PutC (cs rs : List Value) (x : DWorld) (r : DNodeResult) (k lo0 : Nat) (w : World) (h : Lay.tWorld.Reads w cs x) (hr : Lay.tNodeResult.LiesIn w rs r lo0 w.heap.size) (hlo : lo0 ≤ w.heap.size) (hok : WorldOK x) (hf : Fits x) (hk : k < x.nodes.length) (hc : -1000000000 ≤ r.code ∧ r.code ≤ 1000000000) (hid : r.code = 0 → r.node.id = (k : Int) + 1) :
    Calls Tryz.prog 50 #[.agg cs.toArray, .agg rs.toArray] w fun e w' => ∃ cs', e = .returned (.agg cs'.toArray) ∧ Lay.tWorldResult.LiesIn w' cs' (putWR x r) lo0 w'.heap.size ∧ Below w.heap.size w w' := by
  obtain ⟨a3, d3, a4, d4, a5, d5, a6, d6, rfl, -, -, -, -⟩ := open_World h
  obtain ⟨bl, hl, hbl⟩ := hr
  obtain ⟨an, dn, bn, rfl, rfl, k0, k1, k2, k3, k4, k5, k6, k7⟩ := lies_NodeResult.1 hl
  have HP : Hid (putWR x r = if r.code ≠ 0 then badWorld r.code else ⟨0, true, putNode (nextW x) r.node⟩) := rfl
  have HBN : Hid (∀ b off, a4 = some ⟨b, off, none⟩ → 0 < x.nodes.length → b < w.heap.size) := fun b off e hp => by
    obtain ⟨_, _, _, _, _, _, _, _, hq, -, RN, -, -⟩ := open_World h
    simp only [List.cons.injEq, Value.slice.injEq, and_true, true_and] at hq
    obtain ⟨-, ⟨rfl, rfl⟩, -, -, -⟩ := hq
    obtain ⟨b', off', e', hb⟩ := Lay.sl_addr RN hp
    rw [e] at e'
    simp only [Option.some.injEq, Addr.mk.injEq, and_true] at e'
    obtain ⟨rfl, -⟩ := e'
    exact hb
  have nb : Below w.heap.size w (((w.alloc (.cells #[.int .i64 x.now, .int .i64 x.events, .int .i64 x.chain.epoch, .slice a3 x.chain.ids.length d3, .slice a4 x.nodes.length d4, .slice a5 x.msgs.length d5, .slice a6 x.history.length d6] 36)).alloc (.cells #[.int .i64 r.code, .int .i64 r.place, .int .i64 r.node.id, .bool r.node.up, .int .i64 r.node.epoch, .int .i64 r.node.lease, .slice an r.node.writes.length dn, .int .i64 r.node.sure, .int .i64 r.node.clean] 65)).alloc (.cells #[.int .i64 0, .bool false, .int .i64 0, .int .i64 0, .int .i64 0, .slice none 0 0, .slice none 0 0, .slice none 0 0, .slice none 0 0] 38)) := (((Below.refl _ _).alloc (Nat.le_refl _) _).alloc (by simp) _).alloc (by simp; omega) _
  have HX : Hid (Box 0 #[.int .i64 x.now, .int .i64 x.events, .int .i64 x.chain.epoch, .slice a3 x.chain.ids.length d3, .slice a4 x.nodes.length d4, .slice a5 x.msgs.length d5, .slice a6 x.history.length d6] 36 (((w.alloc (.cells #[.int .i64 x.now, .int .i64 x.events, .int .i64 x.chain.epoch, .slice a3 x.chain.ids.length d3, .slice a4 x.nodes.length d4, .slice a5 x.msgs.length d5, .slice a6 x.history.length d6] 36)).alloc (.cells #[.int .i64 r.code, .int .i64 r.place, .int .i64 r.node.id, .bool r.node.up, .int .i64 r.node.epoch, .int .i64 r.node.lease, .slice an r.node.writes.length dn, .int .i64 r.node.sure, .int .i64 r.node.clean] 65)).alloc (.cells #[.int .i64 0, .bool false, .int .i64 0, .int .i64 0, .int .i64 0, .slice none 0 0, .slice none 0 0, .slice none 0 0, .slice none 0 0] 38)) w.heap.size) := (((newBox (Nat.zero_le _)).grow _).grow _)
  have HE0 : Hid (Box 0 #[.int .i64 r.code, .int .i64 r.place, .int .i64 r.node.id, .bool r.node.up, .int .i64 r.node.epoch, .int .i64 r.node.lease, .slice an r.node.writes.length dn, .int .i64 r.node.sure, .int .i64 r.node.clean] 65 (((w.alloc (.cells #[.int .i64 x.now, .int .i64 x.events, .int .i64 x.chain.epoch, .slice a3 x.chain.ids.length d3, .slice a4 x.nodes.length d4, .slice a5 x.msgs.length d5, .slice a6 x.history.length d6] 36)).alloc (.cells #[.int .i64 r.code, .int .i64 r.place, .int .i64 r.node.id, .bool r.node.up, .int .i64 r.node.epoch, .int .i64 r.node.lease, .slice an r.node.writes.length dn, .int .i64 r.node.sure, .int .i64 r.node.clean] 65)).alloc (.cells #[.int .i64 0, .bool false, .int .i64 0, .int .i64 0, .int .i64 0, .slice none 0 0, .slice none 0 0, .slice none 0 0, .slice none 0 0] 38)) (w.heap.size + 1)) := ((newBoxAt (Nat.zero_le _) (by simp)).grow _)
  have HY : Hid (Box 0 #[.int .i64 0, .bool false, .int .i64 0, .int .i64 0, .int .i64 0, .slice none 0 0, .slice none 0 0, .slice none 0 0, .slice none 0 0] 38 (((w.alloc (.cells #[.int .i64 x.now, .int .i64 x.events, .int .i64 x.chain.epoch, .slice a3 x.chain.ids.length d3, .slice a4 x.nodes.length d4, .slice a5 x.msgs.length d5, .slice a6 x.history.length d6] 36)).alloc (.cells #[.int .i64 r.code, .int .i64 r.place, .int .i64 r.node.id, .bool r.node.up, .int .i64 r.node.epoch, .int .i64 r.node.lease, .slice an r.node.writes.length dn, .int .i64 r.node.sure, .int .i64 r.node.clean] 65)).alloc (.cells #[.int .i64 0, .bool false, .int .i64 0, .int .i64 0, .int .i64 0, .slice none 0 0, .slice none 0 0, .slice none 0 0, .slice none 0 0] 38)) (w.heap.size + 1 + 1)) := newBoxAt (Nat.zero_le _) (by simp)
  have hz0 : (((w.alloc (.cells #[.int .i64 x.now, .int .i64 x.events, .int .i64 x.chain.epoch, .slice a3 x.chain.ids.length d3, .slice a4 x.nodes.length d4, .slice a5 x.msgs.length d5, .slice a6 x.history.length d6] 36)).alloc (.cells #[.int .i64 r.code, .int .i64 r.place, .int .i64 r.node.id, .bool r.node.up, .int .i64 r.node.epoch, .int .i64 r.node.lease, .slice an r.node.writes.length dn, .int .i64 r.node.sure, .int .i64 r.node.clean] 65)).alloc (.cells #[.int .i64 0, .bool false, .int .i64 0, .int .i64 0, .int .i64 0, .slice none 0 0, .slice none 0 0, .slice none 0 0, .slice none 0 0] 38)).heap.size = w.heap.size + 3 := by simp
  have HR := hide (h.later nb)
  have HB := hide nb
  clear nb
  have HL := hide (l12NextC _ x _ (unhide HR) hok hf)
  have HNL : Hid (∃ bn, Lay.tNode.lies w [.int .i64 r.node.id, .bool r.node.up, .int .i64 r.node.epoch, .int .i64 r.node.lease, .slice an r.node.writes.length dn, .int .i64 r.node.sure, .int .i64 r.node.clean] r.node bn ∧ ∀ c ∈ bn, lo0 ≤ c ∧ c < w.heap.size) := ⟨_, lies_Node.2 ⟨an, dn, _, rfl, rfl, k2, k3, k4, k5, k6, k7⟩, hbl⟩
  have HN5 := hide hok.some
  have HC := hide hc
  clear h hok hf hc hl hbl k0 k1 k2 k3 k4 k5 k6 k7
  generalize putWR x r = R at *
  go_enter Tryz.func50, Tryz.ntmps50
  go_upto_region 1 with fail
  generalize (((w.alloc (.cells #[.int .i64 x.now, .int .i64 x.events, .int .i64 x.chain.epoch, .slice a3 x.chain.ids.length d3, .slice a4 x.nodes.length d4, .slice a5 x.msgs.length d5, .slice a6 x.history.length d6] 36)).alloc (.cells #[.int .i64 r.code, .int .i64 r.place, .int .i64 r.node.id, .bool r.node.up, .int .i64 r.node.epoch, .int .i64 r.node.lease, .slice an r.node.writes.length dn, .int .i64 r.node.sure, .int .i64 r.node.clean] 65)).alloc (.cells #[.int .i64 0, .bool false, .int .i64 0, .int .i64 0, .int .i64 0, .slice none 0 0, .slice none 0 0, .slice none 0 0, .slice none 0 0] 38)) = W0 at *
  have n0 := Box.at (unhide HE0) 0 _ rfl
  simp only [List.getElem_toArray, List.getElem_cons_zero] at n0
  have nl := (unhide HE0).lt
  by_cases d1 : r.code ≠ 0
  · have hd : (r.code != 0) = true := by simpa using d1
    replace HP := hide ((unhide HP).trans (if_pos d1))
    clear d1 HL HNL HE0 hid
    go_wp2_with fail
    refine (l12BadCZ (r.code) _).mono ?_
    rintro e wB ⟨rfl, hbB⟩
    have hyB := (unhide HY).keep hbB
    have z0 := Box.at hyB 0 _ rfl
    have z1 := Box.at hyB 1 _ rfl
    have z2 := Box.at hyB 2 _ rfl
    have z3 := Box.at hyB 3 _ rfl
    have z4 := Box.at hyB 4 _ rfl
    have z5 := Box.at hyB 5 _ rfl
    have z6 := Box.at hyB 6 _ rfl
    have z7 := Box.at hyB 7 _ rfl
    have z8 := Box.at hyB 8 _ rfl
    simp only [List.getElem_toArray, List.getElem_cons_zero, List.getElem_cons_succ] at z0 z1 z2 z3 z4 z5 z6 z7 z8
    have zf := Box.soft hyB
    have zl := hyB.lt
    have HB9 := hide (below_setAll ((unhide HB).trans (hbB.mono (unhide HB).size)) (w.heap.size + 1 + 1) 0 [.int .i64 r.code, .bool false, .int .i64 0, .int .i64 0, .int .i64 0, .slice none 0 0, .slice none 0 0, .slice none 0 0, .slice none 0 0] (by omega))
    clear hyB hbB HY HB
    go_wp2_with fail
    refine bodyPost_ret (v := .agg #[.int .i64 r.code, .bool false, .int .i64 0, .int .i64 0, .int .i64 0, .slice none 0 0, .slice none 0 0, .slice none 0 0, .slice none 0 0]) (by simp [results, Tryz.results50, go_sem, z0, z1, z2, z3, z4, z5, z6, z7, z8]) rfl ?_
    rw [unhide HP]
    exact ⟨[.int .i64 r.code, .bool false, .int .i64 0, .int .i64 0, .int .i64 0, .slice none 0 0, .slice none 0 0, .slice none 0 0, .slice none 0 0], rfl, (own_badW (unhide HC) (lo := _) (Nat.le_trans hlo (unhide HB9).size)).lies, unhide HB9⟩
  · have d0 : r.code = 0 := by simpa using d1
    have hd : (r.code != 0) = false := by simpa using d0
    replace HP := hide ((unhide HP).trans (if_neg d1))
    have hid := hid d0
    clear d1
    rw [putNode_eq hid] at HP
    have HID := hide hid
    clear d0
    have z0 := Box.at (unhide HX) 0 _ rfl
    have z1 := Box.at (unhide HX) 1 _ rfl
    have z2 := Box.at (unhide HX) 2 _ rfl
    have z3 := Box.at (unhide HX) 3 _ rfl
    have z4 := Box.at (unhide HX) 4 _ rfl
    have z5 := Box.at (unhide HX) 5 _ rfl
    have z6 := Box.at (unhide HX) 6 _ rfl
    simp only [List.getElem_toArray, List.getElem_cons_zero, List.getElem_cons_succ] at z0 z1 z2 z3 z4 z5 z6
    have zl := (unhide HX).lt
    go_wp2_with fail
    clear hd n0 nl
    refine (unhide HL).mono ?_
    rintro e W1 ⟨cs', rfl, O, hb⟩
    have hop := open_World O.reads
    dsimp only [nextW] at hop
    obtain ⟨a3w, d3w, a4w, d4w, a5w, d5w, a6w, d6w, rfl, -⟩ := hop
    have hz1 : W0.heap.size ≤ W1.heap.size := hb.size
    have nb : Below W1.heap.size W1 (W1.alloc (.cells #[.int .i64 x.now, .int .i64 (x.events + 1), .int .i64 x.chain.epoch, .slice a3w x.chain.ids.length d3w, .slice a4w x.nodes.length d4w, .slice a5w x.msgs.length d5w, .slice a6w x.history.length d6w] 36)) := (Below.refl _ _).alloc (Nat.le_refl _) _
    have HG : Hid (Box 0 #[.int .i64 x.now, .int .i64 (x.events + 1), .int .i64 x.chain.epoch, .slice a3w x.chain.ids.length d3w, .slice a4w x.nodes.length d4w, .slice a5w x.msgs.length d5w, .slice a6w x.history.length d6w] 36 (W1.alloc (.cells #[.int .i64 x.now, .int .i64 (x.events + 1), .int .i64 x.chain.epoch, .slice a3w x.chain.ids.length d3w, .slice a4w x.nodes.length d4w, .slice a5w x.msgs.length d5w, .slice a6w x.history.length d6w] 36)) W1.heap.size) := newBox (Nat.zero_le _)
    have HO := hide ((O.later nb).st (G := fun c => c < lo0 ∨ (w.heap.size ≤ c ∧ c < W0.heap.size) ∨ c = W1.heap.size) (fun k hk => by omega))
    replace HY := hide (((unhide HY).keep hb).keep nb)
    replace HE0 := hide (((unhide HE0).keep hb).keep nb)
    replace HB := hide ((unhide HB).trans ((hb.trans (nb.mono hb.size)).mono (unhide HB).size))
    have HNL2 : Hid (∃ bn, Lay.tNode.lies (W1.alloc (.cells #[.int .i64 x.now, .int .i64 (x.events + 1), .int .i64 x.chain.epoch, .slice a3w x.chain.ids.length d3w, .slice a4w x.nodes.length d4w, .slice a5w x.msgs.length d5w, .slice a6w x.history.length d6w] 36)) [.int .i64 r.node.id, .bool r.node.up, .int .i64 r.node.epoch, .int .i64 r.node.lease, .slice an r.node.writes.length dn, .int .i64 r.node.sure, .int .i64 r.node.clean] r.node bn ∧ ∀ c ∈ bn, lo0 ≤ c ∧ c < w.heap.size) := by
      obtain ⟨bn, hln, hbn⟩ := unhide HNL
      exact ⟨bn, Lay.tNode.keep hln (fun c hc => (unhide HB).block c (hbn c hc).2), hbn⟩
    have hz2 : W1.heap.size < (W1.alloc (.cells #[.int .i64 x.now, .int .i64 (x.events + 1), .int .i64 x.chain.epoch, .slice a3w x.chain.ids.length d3w, .slice a4w x.nodes.length d4w, .slice a5w x.msgs.length d5w, .slice a6w x.history.length d6w] 36)).heap.size := by simp
    clear nb O hb HL HNL z0 z1 z2 z3 z4 z5 z6 zl HX
    go_upto_region 4 with fail
    generalize W1.alloc (.cells #[.int .i64 x.now, .int .i64 (x.events + 1), .int .i64 x.chain.epoch, .slice a3w x.chain.ids.length d3w, .slice a4w x.nodes.length d4w, .slice a5w x.msgs.length d5w, .slice a6w x.history.length d6w] 36) = W2 at *
    have hg := unhide HG
    have hk' : k < (nextW x).nodes.length := hk
    obtain ⟨b, off, d4, row0, e4, hb1, hb2, hb3, hbG, hR0, -, -, hput⟩ := wst_put (y := nextW x) (unhide HO) hk'
    simp only [Value.slice.injEq] at e4
    obtain ⟨rfl, -, rfl⟩ := e4
    have y4 := Box.at hg 4 _ rfl
    have hh := unhide HE0
    have nn0 := Box.at hh 2 _ rfl
    have nn1 := Box.at hh 3 _ rfl
    have nn2 := Box.at hh 4 _ rfl
    have nn3 := Box.at hh 5 _ rfl
    have nn4 := Box.at hh 6 _ rfl
    have nn5 := Box.at hh 7 _ rfl
    have nn6 := Box.at hh 8 _ rfl
    simp only [List.getElem_toArray, List.getElem_cons_zero, List.getElem_cons_succ] at y4 nn0 nn1 nn2 nn3 nn4 nn5 nn6
    have yl := hg.lt
    have nl := hh.lt
    rw [unhide HID] at nn0
    have hw1 : IntKind.i64.wrap (k : Int) = (k : Int) := by
      have := unhide HN5
      rw [IntKind.wrap_i64]
      omega
    have hki : (k : Int) < (x.nodes.length : Int) := by omega
    have hki0 : (0 : Int) ≤ (k : Int) := by omega
    have hrl := hR0.len
    match row0, hrl with
    | [t0, t1, t2, t3, t4, t5, t6], _ =>
    have q0 : W2.cell? ⟨b, off + k * 7, none⟩ = some t0 := hR0.cells 0 (by decide)
    have q1 : W2.cell? ⟨b, off + k * 7 + 1, none⟩ = some t1 := hR0.cells 1 (by decide)
    have q2 : W2.cell? ⟨b, off + k * 7 + 2, none⟩ = some t2 := hR0.cells 2 (by decide)
    have q3 : W2.cell? ⟨b, off + k * 7 + 3, none⟩ = some t3 := hR0.cells 3 (by decide)
    have q4 : W2.cell? ⟨b, off + k * 7 + 4, none⟩ = some t4 := hR0.cells 4 (by decide)
    have q5 : W2.cell? ⟨b, off + k * 7 + 5, none⟩ = some t5 := hR0.cells 5 (by decide)
    have q6 : W2.cell? ⟨b, off + k * 7 + 6, none⟩ = some t6 := hR0.cells 6 (by decide)
    have s0 := hR0.soft (off + k * 7)
    have s1 := hR0.soft (off + k * 7 + 1)
    have s2 := hR0.soft (off + k * 7 + 2)
    have s3 := hR0.soft (off + k * 7 + 3)
    have s4 := hR0.soft (off + k * 7 + 4)
    have s5 := hR0.soft (off + k * 7 + 5)
    have s6 := hR0.soft (off + k * 7 + 6)
    have hR7 := hR0.set7 (.int .i64 ((k : Int) + 1)) (.bool r.node.up) (.int .i64 r.node.epoch) (.int .i64 r.node.lease) (.slice an r.node.writes.length dn) (.int .i64 r.node.sure) (.int .i64 r.node.clean)
    have hE7 : Ext (fun c => c = b) W2 (((((((W2.setCell ⟨b, off + k * 7, none⟩ (.int .i64 ((k : Int) + 1))).setCell ⟨b, off + k * 7 + 1, none⟩ (.bool r.node.up)).setCell ⟨b, off + k * 7 + 2, none⟩ (.int .i64 r.node.epoch)).setCell ⟨b, off + k * 7 + 3, none⟩ (.int .i64 r.node.lease)).setCell ⟨b, off + k * 7 + 4, none⟩ (.slice an r.node.writes.length dn)).setCell ⟨b, off + k * 7 + 5, none⟩ (.int .i64 r.node.sure)).setCell ⟨b, off + k * 7 + 6, none⟩ (.int .i64 r.node.clean)) := hR7.ext.mono (fun c _ e => by rcases e with e | e; exact e; cases e)
    obtain ⟨bn, hln, hbn⟩ := unhide HNL2
    rw [unhide HID] at hln
    have hO3 := hput _ _ r.node bn (Lay.tNode.keep hln (fun c hc => hE7.block c (by have := hbn c hc; omega) (fun e => by have := hbn c hc; omega))) (fun c hc => ⟨fun e => by have := hbn c hc; omega, fun e => by have := hbn c hc; omega⟩) hR7
    have hbg : b ≠ W1.heap.size := fun e => hbG (Or.inr (Or.inr e))
    have HO3 := hide hO3
    have HG3 := hide (hg.ext hE7 (fun e => hbg e.symm))
    have HY3 := hide ((unhide HY).ext hE7 (by omega))
    have HB3 := hide ((unhide HB).trans (hE7.below (B := w.heap.size) (by omega) (fun c hc e => by omega)))
    have HZ3 : Hid (W2.heap.size ≤ (((((((W2.setCell ⟨b, off + k * 7, none⟩ (.int .i64 ((k : Int) + 1))).setCell ⟨b, off + k * 7 + 1, none⟩ (.bool r.node.up)).setCell ⟨b, off + k * 7 + 2, none⟩ (.int .i64 r.node.epoch)).setCell ⟨b, off + k * 7 + 3, none⟩ (.int .i64 r.node.lease)).setCell ⟨b, off + k * 7 + 4, none⟩ (.slice an r.node.writes.length dn)).setCell ⟨b, off + k * 7 + 5, none⟩ (.int .i64 r.node.sure)).setCell ⟨b, off + k * 7 + 6, none⟩ (.int .i64 r.node.clean)).heap.size) := hE7.size
    clear hg hput hR0 hR7 hE7 hO3 HO HG HY HB HNL2 HE0 hh hln hbn hid HN5 hbG hk' hrl HC HID HR
    go_upto_region 5 with fail
    generalize (((((((W2.setCell ⟨b, off + k * 7, none⟩ (.int .i64 ((k : Int) + 1))).setCell ⟨b, off + k * 7 + 1, none⟩ (.bool r.node.up)).setCell ⟨b, off + k * 7 + 2, none⟩ (.int .i64 r.node.epoch)).setCell ⟨b, off + k * 7 + 3, none⟩ (.int .i64 r.node.lease)).setCell ⟨b, off + k * 7 + 4, none⟩ (.slice an r.node.writes.length dn)).setCell ⟨b, off + k * 7 + 5, none⟩ (.int .i64 r.node.sure)).setCell ⟨b, off + k * 7 + 6, none⟩ (.int .i64 r.node.clean)) = W3 at *
    have hz3 := unhide HZ3
    clear y4 yl nn0 nn1 nn2 nn3 nn4 nn5 nn6 nl q0 q1 q2 q3 q4 q5 q6 s0 s1 s2 s3 s4 s5 s6 hw1
    have y0 := Box.at (unhide HG3) 0 _ rfl
    have y1 := Box.at (unhide HG3) 1 _ rfl
    have y2 := Box.at (unhide HG3) 2 _ rfl
    have y3 := Box.at (unhide HG3) 3 _ rfl
    have y4 := Box.at (unhide HG3) 4 _ rfl
    have y5 := Box.at (unhide HG3) 5 _ rfl
    have y6 := Box.at (unhide HG3) 6 _ rfl
    simp only [List.getElem_toArray, List.getElem_cons_zero, List.getElem_cons_succ] at y0 y1 y2 y3 y4 y5 y6
    have yl := (unhide HG3).lt
    have r0 := Box.at (unhide HY3) 0 _ rfl
    have r1 := Box.at (unhide HY3) 1 _ rfl
    have r2 := Box.at (unhide HY3) 2 _ rfl
    have r3 := Box.at (unhide HY3) 3 _ rfl
    have r4 := Box.at (unhide HY3) 4 _ rfl
    have r5 := Box.at (unhide HY3) 5 _ rfl
    have r6 := Box.at (unhide HY3) 6 _ rfl
    have r7 := Box.at (unhide HY3) 7 _ rfl
    have r8 := Box.at (unhide HY3) 8 _ rfl
    simp only [List.getElem_toArray, List.getElem_cons_zero, List.getElem_cons_succ] at r0 r1 r2 r3 r4 r5 r6 r7 r8
    have rl := (unhide HY3).lt
    have rf := Box.soft (unhide HY3)
    have e9 : Ext (fun q => q = w.heap.size + 1 + 1) W3 (setAll W3 (w.heap.size + 1 + 1) 0 [.int .i64 0, .bool true, .int .i64 x.now, .int .i64 (x.events + 1), .int .i64 x.chain.epoch, .slice a3w x.chain.ids.length d3w, .slice (some ⟨b, off, none⟩) x.nodes.length d4w, .slice a5w x.msgs.length d5w, .slice a6w x.history.length d6w]) := ext_setAll _ (Ext.refl _ _) _ _ _ rfl
    have HO9 := hide (okR_lies (m := true) (((unhide HO3).ext e9 (fun c h1 h2 h3 => h2 (Or.inr (Or.inl (by omega))))).liesIn (B := lo0) (fun c hc => by omega)))
    have HB9 := hide (below_setAll (unhide HB3) (w.heap.size + 1 + 1) 0 [.int .i64 0, .bool true, .int .i64 x.now, .int .i64 (x.events + 1), .int .i64 x.chain.epoch, .slice a3w x.chain.ids.length d3w, .slice (some ⟨b, off, none⟩) x.nodes.length d4w, .slice a5w x.msgs.length d5w, .slice a6w x.history.length d6w] (by omega))
    clear e9 HO3 HG3 HY3 HB3
    go_wp2_with fail
    refine bodyPost_ret (v := .agg #[.int .i64 0, .bool true, .int .i64 x.now, .int .i64 (x.events + 1), .int .i64 x.chain.epoch, .slice a3w x.chain.ids.length d3w, .slice (some ⟨b, off, none⟩) x.nodes.length d4w, .slice a5w x.msgs.length d5w, .slice a6w x.history.length d6w]) (by simp [results, Tryz.results50, go_sem, r0, r1, r2, r3, r4, r5, r6, r7, r8]) rfl ?_
    rw [unhide HP]
    exact ⟨_, rfl, unhide HO9, unhide HB9⟩
end Go.Proofs.YtdnhmoppineegaaGreat

namespace Go.Proofs.YtdnhmoppineegaaGreat
open Go.RowKit

theorem asked_zero {x : DWorld} {id : Int} (h : askedW x id = 0) : worldFault x = 0 ∧ nodeIn x id = true := by
  rw [askedW_eq] at h
  by_cases q : idFaultR x id ≠ 0
  · rw [if_pos q] at h
    exact absurd h q
  · exact idFault_zero (by simpa using q)
theorem asked_bd (x : DWorld) (id : Int) : -1000000000 ≤ askedW x id ∧ askedW x id ≤ 1000000000 := by
  have := idFault_bd x id
  rw [askedW_eq]
  split
  · exact this
  · split <;> omega
end Go.Proofs.YtdnhmoppineegaaGreat

namespace Go.Proofs.YtdnhmoppineegaaGreat
open Go.RowKit

set_option maxRecDepth 10000 in
set_option maxHeartbeats 4000000 in
theorem specSyncNode (cs : List Value) (x : DNode) (w : World) (h : Lay.tNode.Reads w cs x) :
    Calls Tryz.prog 51 #[.agg cs.toArray] w fun e w' => ∃ cs, e = .returned (.agg cs.toArray) ∧ Lay.tNodeResult.LiesIn w' cs (syncR x) w.heap.size w'.heap.size ∧ Below w.heap.size w w' := by
  have hN := h
  obtain ⟨a4, d4, rfl, R4⟩ := open_Node h
  have nb : Below w.heap.size w ((w.alloc (.cells #[.int .i64 x.id, .bool x.up, .int .i64 x.epoch, .int .i64 x.lease, .slice a4 x.writes.length d4, .int .i64 x.sure, .int .i64 x.clean] 63)).alloc (.cells #[.int .i64 0, .int .i64 0, .int .i64 0, .bool false, .int .i64 0, .int .i64 0, .slice none 0 0, .int .i64 0, .int .i64 0] 65)) := ((Below.refl _ _).alloc (Nat.le_refl _) _).alloc (by simp) _
  have bX : Box 0 #[.int .i64 x.id, .bool x.up, .int .i64 x.epoch, .int .i64 x.lease, .slice a4 x.writes.length d4, .int .i64 x.sure, .int .i64 x.clean] 63 ((w.alloc (.cells #[.int .i64 x.id, .bool x.up, .int .i64 x.epoch, .int .i64 x.lease, .slice a4 x.writes.length d4, .int .i64 x.sure, .int .i64 x.clean] 63)).alloc (.cells #[.int .i64 0, .int .i64 0, .int .i64 0, .bool false, .int .i64 0, .int .i64 0, .slice none 0 0, .int .i64 0, .int .i64 0] 65)) w.heap.size := (newBox (Nat.zero_le _)).grow _
  have bR : Box 0 #[.int .i64 0, .int .i64 0, .int .i64 0, .bool false, .int .i64 0, .int .i64 0, .slice none 0 0, .int .i64 0, .int .i64 0] 65 ((w.alloc (.cells #[.int .i64 x.id, .bool x.up, .int .i64 x.epoch, .int .i64 x.lease, .slice a4 x.writes.length d4, .int .i64 x.sure, .int .i64 x.clean] 63)).alloc (.cells #[.int .i64 0, .int .i64 0, .int .i64 0, .bool false, .int .i64 0, .int .i64 0, .slice none 0 0, .int .i64 0, .int .i64 0] 65)) (w.heap.size + 1) := newBoxAt (Nat.zero_le _) (by simp)
  have HL := hide (l9AskedC w.heap.size a4 d4 x _ bX (R4.later nb))
  have HN := hide (hN.later nb)
  have HX0 := hide bX
  have HR0 := hide bR
  have HB0 := hide nb
  clear h hN nb bX bR R4
  go_enter Tryz.func51, Tryz.ntmps51
  go_wp2_with fail
  generalize (w.alloc (.cells #[.int .i64 x.id, .bool x.up, .int .i64 x.epoch, .int .i64 x.lease, .slice a4 x.writes.length d4, .int .i64 x.sure, .int .i64 x.clean] 63)).alloc (.cells #[.int .i64 0, .int .i64 0, .int .i64 0, .bool false, .int .i64 0, .int .i64 0, .slice none 0 0, .int .i64 0, .int .i64 0] 65) = W0 at *
  refine (unhide HL).mono ?_
  rintro e w1 ⟨rfl, hb⟩
  have HX := hide ((unhide HX0).keep hb)
  have HR := hide ((unhide HR0).keep hb)
  have HB1 := hide ((unhide HB0).trans (hb.mono (unhide HB0).size))
  replace HN := hide ((unhide HN).later hb)
  clear hb HL HX0 HR0 HB0
  by_cases hf : askedN x = 0
  · rw [hf]
    have hok := (askedN_zero hf).1
    have HA := hide hf
    have HOK := hide hok
    clear hf
    have x0 := Box.at (unhide HX) 0 _ rfl
    have x1 := Box.at (unhide HX) 1 _ rfl
    have x2 := Box.at (unhide HX) 2 _ rfl
    have x3 := Box.at (unhide HX) 3 _ rfl
    have x4 := Box.at (unhide HX) 4 _ rfl
    have x5 := Box.at (unhide HX) 5 _ rfl
    have x6 := Box.at (unhide HX) 6 _ rfl
    simp only [List.getElem_toArray, List.getElem_cons_zero, List.getElem_cons_succ] at x0 x1 x2 x3 x4 x5 x6
    have xl := (unhide HX).lt
    have HC := hide (ncopyC _ x w1 (unhide HN) (by have := hok.len; omega) (node_vecs9 hok))
    clear hok HN
    go_wp2_with fail
    clear x0 x1 x2 x3 x4 x5 x6 xl
    refine (unhide HC).mono ?_
    rintro e w2 ⟨a6, d6, rfl, O, hb⟩
    have hrl : w.heap.size + 1 < w1.heap.size := (unhide HR).lt
    have bX2 := (unhide HX).keep hb
    have bR2 := (unhide HR).keep hb
    have HBw := hide ((unhide HB1).trans (hb.mono (unhide HB1).size))
    have HOw := hide O
    have hz2 := hb.size
    clear hb O HC HX HR HB1
    have y4 := Box.at bX2 4 _ rfl
    simp only [List.getElem_toArray, List.getElem_cons_zero, List.getElem_cons_succ] at y4
    have z0 := Box.at bR2 0 _ rfl
    have z1 := Box.at bR2 1 _ rfl
    have z2 := Box.at bR2 2 _ rfl
    have z3 := Box.at bR2 3 _ rfl
    have z4 := Box.at bR2 4 _ rfl
    have z5 := Box.at bR2 5 _ rfl
    have z6 := Box.at bR2 6 _ rfl
    have z7 := Box.at bR2 7 _ rfl
    have z8 := Box.at bR2 8 _ rfl
    simp only [List.getElem_toArray, List.getElem_cons_zero, List.getElem_cons_succ] at z0 z1 z2 z3 z4 z5 z6 z7 z8
    have ff := Box.soft bR2
    have l0 := Box.lt bR2
    have yl := bX2.lt
    clear bX2
    have hne : w.heap.size + 1 < w2.heap.size := by omega
    have bF : Box 0 #[.int .i64 0, .int .i64 (x.writes.length : Int), .int .i64 x.id, .bool x.up, .int .i64 x.epoch, .int .i64 x.lease, .slice a6 x.writes.length d6, .int .i64 (x.writes.length : Int), .int .i64 x.clean] 65 ((((((((((w2.setCell ⟨w.heap.size + 1, 0, none⟩ (.int .i64 0)).setCell ⟨w.heap.size + 1, 1, none⟩ (.int .i64 (x.writes.length : Int))).setCell ⟨w.heap.size + 1, 2, none⟩ (.int .i64 x.id)).setCell ⟨w.heap.size + 1, 3, none⟩ (.bool x.up)).setCell ⟨w.heap.size + 1, 4, none⟩ (.int .i64 x.epoch)).setCell ⟨w.heap.size + 1, 5, none⟩ (.int .i64 x.lease)).setCell ⟨w.heap.size + 1, 6, none⟩ (.slice a6 x.writes.length d6)).setCell ⟨w.heap.size + 1, 7, none⟩ (.int .i64 (x.writes.length : Int))).setCell ⟨w.heap.size + 1, 8, none⟩ (.int .i64 x.clean)).alloc (.cells #[.int .i64 x.id, .bool x.up, .int .i64 x.epoch, .int .i64 x.lease, .slice a6 x.writes.length d6, .int .i64 (x.writes.length : Int), .int .i64 x.clean] 63)) (w.heap.size + 1) := Box.grow (box_set9 bR2 (.int .i64 0) (.int .i64 (x.writes.length : Int)) (.int .i64 x.id) (.bool x.up) (.int .i64 x.epoch) (.int .i64 x.lease) (.slice a6 x.writes.length d6) (.int .i64 (x.writes.length : Int)) (.int .i64 x.clean)) _
    have HK := hide bF
    clear bF
    have HBF : Hid (Below w.heap.size w ((((((((((w2.setCell ⟨w.heap.size + 1, 0, none⟩ (.int .i64 0)).setCell ⟨w.heap.size + 1, 1, none⟩ (.int .i64 (x.writes.length : Int))).setCell ⟨w.heap.size + 1, 2, none⟩ (.int .i64 x.id)).setCell ⟨w.heap.size + 1, 3, none⟩ (.bool x.up)).setCell ⟨w.heap.size + 1, 4, none⟩ (.int .i64 x.epoch)).setCell ⟨w.heap.size + 1, 5, none⟩ (.int .i64 x.lease)).setCell ⟨w.heap.size + 1, 6, none⟩ (.slice a6 x.writes.length d6)).setCell ⟨w.heap.size + 1, 7, none⟩ (.int .i64 (x.writes.length : Int))).setCell ⟨w.heap.size + 1, 8, none⟩ (.int .i64 x.clean)).alloc (.cells #[.int .i64 x.id, .bool x.up, .int .i64 x.epoch, .int .i64 x.lease, .slice a6 x.writes.length d6, .int .i64 (x.writes.length : Int), .int .i64 x.clean] 63))) := (below_setAll (unhide HBw) (w.heap.size + 1) 0 [.int .i64 0, .int .i64 (x.writes.length : Int), .int .i64 x.id, .bool x.up, .int .i64 x.epoch, .int .i64 x.lease, .slice a6 x.writes.length d6, .int .i64 (x.writes.length : Int), .int .i64 x.clean] (by omega)).alloc (by have := (below_setAll (unhide HBw) (w.heap.size + 1) 0 [.int .i64 0, .int .i64 (x.writes.length : Int), .int .i64 x.id, .bool x.up, .int .i64 x.epoch, .int .i64 x.lease, .slice a6 x.writes.length d6, .int .i64 (x.writes.length : Int), .int .i64 x.clean] (by omega)).size; exact this) _
    have HOF : Hid ((Lay.sl Lay.tWrite).LiesIn ((((((((((w2.setCell ⟨w.heap.size + 1, 0, none⟩ (.int .i64 0)).setCell ⟨w.heap.size + 1, 1, none⟩ (.int .i64 (x.writes.length : Int))).setCell ⟨w.heap.size + 1, 2, none⟩ (.int .i64 x.id)).setCell ⟨w.heap.size + 1, 3, none⟩ (.bool x.up)).setCell ⟨w.heap.size + 1, 4, none⟩ (.int .i64 x.epoch)).setCell ⟨w.heap.size + 1, 5, none⟩ (.int .i64 x.lease)).setCell ⟨w.heap.size + 1, 6, none⟩ (.slice a6 x.writes.length d6)).setCell ⟨w.heap.size + 1, 7, none⟩ (.int .i64 (x.writes.length : Int))).setCell ⟨w.heap.size + 1, 8, none⟩ (.int .i64 x.clean)).alloc (.cells #[.int .i64 x.id, .bool x.up, .int .i64 x.epoch, .int .i64 x.lease, .slice a6 x.writes.length d6, .int .i64 (x.writes.length : Int), .int .i64 x.clean] 63)) [.slice a6 x.writes.length d6] (x.writes) w1.heap.size w2.heap.size) := (lies_store' (s := w.heap.size + 1) (vs := [.int .i64 0, .int .i64 (x.writes.length : Int), .int .i64 x.id, .bool x.up, .int .i64 x.epoch, .int .i64 x.lease, .slice a6 x.writes.length d6, .int .i64 (x.writes.length : Int), .int .i64 x.clean]) (unhide HOw) (by omega)).later ((Below.refl _ _).alloc (Nat.le_refl _) _)
    have HZF : Hid (w2.heap.size ≤ ((((((((((w2.setCell ⟨w.heap.size + 1, 0, none⟩ (.int .i64 0)).setCell ⟨w.heap.size + 1, 1, none⟩ (.int .i64 (x.writes.length : Int))).setCell ⟨w.heap.size + 1, 2, none⟩ (.int .i64 x.id)).setCell ⟨w.heap.size + 1, 3, none⟩ (.bool x.up)).setCell ⟨w.heap.size + 1, 4, none⟩ (.int .i64 x.epoch)).setCell ⟨w.heap.size + 1, 5, none⟩ (.int .i64 x.lease)).setCell ⟨w.heap.size + 1, 6, none⟩ (.slice a6 x.writes.length d6)).setCell ⟨w.heap.size + 1, 7, none⟩ (.int .i64 (x.writes.length : Int))).setCell ⟨w.heap.size + 1, 8, none⟩ (.int .i64 x.clean)).alloc (.cells #[.int .i64 x.id, .bool x.up, .int .i64 x.epoch, .int .i64 x.lease, .slice a6 x.writes.length d6, .int .i64 (x.writes.length : Int), .int .i64 x.clean] 63)).heap.size) := by show w2.heap.size ≤ _; simp
    clear bR2
    go_wp2_with fail
    have bF := unhide HK
    have k0 := Box.at bF 0 _ rfl
    have k1 := Box.at bF 1 _ rfl
    have k2 := Box.at bF 2 _ rfl
    have k3 := Box.at bF 3 _ rfl
    have k4 := Box.at bF 4 _ rfl
    have k5 := Box.at bF 5 _ rfl
    have k6 := Box.at bF 6 _ rfl
    have k7 := Box.at bF 7 _ rfl
    have k8 := Box.at bF 8 _ rfl
    simp only [List.getElem_toArray, List.getElem_cons_zero, List.getElem_cons_succ] at k0 k1 k2 k3 k4 k5 k6 k7 k8
    refine bodyPost_ret (v := .agg #[.int .i64 0, .int .i64 (x.writes.length : Int), .int .i64 x.id, .bool x.up, .int .i64 x.epoch, .int .i64 x.lease, .slice a6 x.writes.length d6, .int .i64 (x.writes.length : Int), .int .i64 x.clean]) (by simp [results, Tryz.results51, go_sem, k0, k1, k2, k3, k4, k5, k6, k7, k8]) rfl ?_
    rw [syncR, if_pos (unhide HA)]
    obtain ⟨i1, i2, i3, i4, -, -, i7, i8, -⟩ := unhide HOK
    refine ⟨[.int .i64 0, .int .i64 (x.writes.length : Int), .int .i64 x.id, .bool x.up, .int .i64 x.epoch, .int .i64 x.lease, .slice a6 x.writes.length d6, .int .i64 (x.writes.length : Int), .int .i64 x.clean], rfl, ?_, unhide HBF⟩
    exact lies_nodeR (x := ⟨x.id, x.up, x.epoch, x.lease, x.writes, (x.writes.length : Int), x.clean⟩) (c := 0) (n := (x.writes.length : Int)) (by omega) (by omega) ((unhide HOF).mono (by omega) (unhide HZF)) (by simp only; omega) (by simp only; omega) (by simp only; omega) (by simp only; omega) (by simp only; omega)
  · have hd : (askedN x != 0) = true := by simpa using hf
    have HY := hide (syncR_bad (x := x) hf)
    have HW := hide (askedN_bd x)
    clear hf
    generalize askedN x = c at *
    have bR := (unhide HR)
    have z0 := Box.at bR 0 _ rfl
    have z1 := Box.at bR 1 _ rfl
    have z2 := Box.at bR 2 _ rfl
    have z3 := Box.at bR 3 _ rfl
    have z4 := Box.at bR 4 _ rfl
    have z5 := Box.at bR 5 _ rfl
    have z6 := Box.at bR 6 _ rfl
    have z7 := Box.at bR 7 _ rfl
    have z8 := Box.at bR 8 _ rfl
    simp only [List.getElem_toArray, List.getElem_cons_zero, List.getElem_cons_succ] at z0 z1 z2 z3 z4 z5 z6 z7 z8
    have ff := Box.soft bR
    have l0 := Box.lt bR
    clear bR
    go_wp2_with fail
    refine bodyPost_ret (v := .agg #[.int .i64 c, .int .i64 0, .int .i64 0, .bool false, .int .i64 0, .int .i64 0, .slice none 0 0, .int .i64 0, .int .i64 0]) (by simp [results, Tryz.results51, go_sem, z0, z1, z2, z3, z4, z5, z6, z7, z8]) rfl ?_
    rw [unhide HY]
    have hB9 := below_setAll (unhide HB1) (w.heap.size + 1) 0 [.int .i64 c, .int .i64 0, .int .i64 0, .bool false, .int .i64 0, .int .i64 0, .slice none 0 0, .int .i64 0, .int .i64 0] (by omega)
    exact ⟨[.int .i64 c, .int .i64 0, .int .i64 0, .bool false, .int .i64 0, .int .i64 0, .slice none 0 0, .int .i64 0, .int .i64 0], rfl, (own_badNode (unhide HW)).lies, hB9⟩

end Go.Proofs.YtdnhmoppineegaaGreat
