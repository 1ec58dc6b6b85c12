/-
  Texts of this proof in one: AppInts, ImplClone, StoreKit, CloneC, ImplCopied, ImplNodeOf, ImplNodeM, OwnNode, OwnNodeResult, NodeKit, ImplDirty, LawDirtyN, OpenWrite, OpenNode.
  Their conditions stand in their theorems.
-/
import Derived.Test.YtbogjepkdcknfaaNd01
import Derived.Test.YtbogjepkdcknfaaNd04
import Derived.Maps.AppendAt
import Derived.Test.YtbogjepkdcknfaaChecked
import Derived.BigQuiet
import Derived.Deep.QuietTactic
import Derived.WalkSmall
import Derived.WalkKit
import Derived.Deep.RegionHeld3
import Derived.Test.YtbogjepkdcknfaaNd02

namespace Go.Proofs.Ytbogjepkdcknfaa
open Go.RowKit

theorem append_noneI {P : Program} (t ty e : TypeId) (i : TypeInfo) (ht : P.underlying t = some (.slice e)) (hi : P.info? e = some i) (bo : Option Addr) (n cap c : Nat) (hn : n ≤ cap) (w : World) :
    (Builtin.append_ #[t, t] ty #[.slice bo n cap, .slice none 0 c]).run P w = (Builtin.append_ #[t, t] ty #[.slice bo n cap, .slice (some ⟨0, 0, none⟩) 0 c]).run P w := by
  simp [Builtin.append_, run_underlying ht, sizeOf, typeInfo, hi, Builtin.lenOf, hn, Builtin.firstCells, loadCells, loadCellsFrom]

theorem IsInts.news {w : World} {b off cap : Nat} {zs : List Int} (h : IsInts w (.slice (some ⟨b, off, none⟩) zs.length cap) zs) (hp : 0 < zs.length) : ∀ j u, (zs.map (Value.int .i64))[j]? = some u → w.cell? ((⟨b, off, none⟩ : Addr).add j) = some u := by
  intro j u hu
  obtain ⟨ao, cp, hv, hwf, hc⟩ := h
  obtain ⟨b', off', hao, hc1⟩ := hc hp
  simp only [Value.slice.injEq] at hv
  obtain ⟨rfl, -, -⟩ := hv
  simp only [Option.some.injEq, Addr.mk.injEq, and_true] at hao
  obtain ⟨rfl, rfl⟩ := hao
  have hj : j < zs.length := by
    have := (List.getElem?_eq_some_iff.1 hu).1
    simpa using this
  rw [Addr.add_lit, hc1 j hj]
  simp [hj] at hu
  simp [List.getD, hj, hu]

theorem run_append_ints {w : World} (base ty : Nat) (v : Value) (n : Nat) (xs : List Value) (hown : w.ownsRow base 2 1 v n xs) (x : Value) (ks : List Int) (hx : IsInts w x ks)
    (hn : n + ks.length ≤ 100000000) (hbase : base ≤ w.heap.size) :
    ∃ v' w', (Builtin.append_ #[79, 79] ty #[v, x]).run Try.prog w = .ok v' w' ∧ w'.ownsRow base 2 1 v' (n + ks.length) (xs ++ ks.map (Value.int .i64)) ∧ w.grownBy w' v.ownBlock := by
  obtain ⟨i0, hi, hz0, hz1, hz2⟩ := info_parts info2
  have hml : n + ks.length ≤ maxLen := by unfold maxLen; omega
  by_cases hp : 0 < ks.length
  · have hx' := hx
    obtain ⟨ao, cap, rfl, hwf, hc⟩ := hx'
    obtain ⟨b, off, rfl, hc1⟩ := hc hp
    obtain ⟨v', w', r1, r2, r3, -, -⟩ := run_append_own_at (P := Try.prog) w base 79 ty 2 i0 _ 1 8 Try.underlying79 hi hz0 hz1 hz2 rfl (by omega) v n xs hown ⟨b, off, none⟩ ks.length cap (ks.map (Value.int .i64)) (by simp) (hx.news hp) (by simp [Value.oneCell']) hml (by omega) hbase
    exact ⟨v', w', r1, r2, r3⟩
  · obtain rfl : ks = [] := List.eq_nil_of_length_eq_zero (by omega)
    obtain ⟨ao, cap, rfl, hwf, hc⟩ := hx
    cases ao with
    | none =>
      obtain ⟨v', w', r1, r2, r3, -, -⟩ := run_append_own_at (P := Try.prog) w base 79 ty 2 i0 _ 1 8 Try.underlying79 hi hz0 hz1 hz2 rfl (by omega) v n xs hown ⟨0, 0, none⟩ 0 cap [] rfl (by simp) (by simp) hml (by simp at hn; omega) hbase
      refine ⟨v', w', ?_, r2, r3⟩
      rcases hown.2 with ⟨rfl, h0⟩ | ⟨g, cp, cur, rfl, _, _, hle, _⟩
      · exact (append_noneI _ _ _ i0 Try.underlying79 hi none 0 0 cap (Nat.le_refl _) w).trans r1
      · exact (append_noneI _ _ _ i0 Try.underlying79 hi _ n cp cap hle w).trans r1
    | some ad =>
      obtain ⟨v', w', r1, r2, r3, -, -⟩ := run_append_own_at (P := Try.prog) w base 79 ty 2 i0 _ 1 8 Try.underlying79 hi hz0 hz1 hz2 rfl (by omega) v n xs hown ad 0 cap [] rfl (by simp) (by simp) hml (by simp at hn; omega) hbase
      exact ⟨v', w', r1, r2, r3⟩

/-- The same at an operation of a plain region. -/
theorem wpList_append_ints {w : World} {base : Nat} {v : Value} {n : Nat} {xs : List Value} (hown : w.ownsRow base 2 1 v n xs) {X : Value} {ks : List Int} (hx : IsInts w X ks)
    {ops : Array Oper} {rest : List Oper} {o : Oper} {a : Act} {Q : Exit → Act → World → Prop} (hgd : o.guard = none) (s x : Operand)
    (ho : o.op = .call { callee := .builtin .append, args := #[s, x], argTypes := #[79, 79] }) (hv : a.eval s = v) (hX : a.eval x = X)
    (hn : n + ks.length ≤ 100000000) (hbase : base ≤ w.heap.size)
    (h : ∀ v' w', w'.ownsRow base 2 1 v' (n + ks.length) (xs ++ ks.map (Value.int .i64)) → w.grownBy w' v.ownBlock → Below base w w' → wpList Try.prog ops Q rest (a.put o.dst v') w') :
    wpList Try.prog ops Q (o :: rest) a w := by
  refine wpList_plain hgd fun K hK => ?_
  obtain ⟨v', w', hr, h2, h3⟩ := run_append_ints base o.type v n xs hown X ks hx hn hbase
  unfold Oper.wp execOp
  simp only [ho, resolve, invoke, builtin, Sem.run_bind, Sem.run_pure, Result.andThen_ok, List.map_toArray, List.map_cons, List.map_nil, hv, hX, hr]
  exact hK _ _ (h v' w' h2 h3 ((Below.refl _ _).grown h3 hbase (fun j hj => (hown.lt j hj).1)))

end Go.Proofs.Ytbogjepkdcknfaa

namespace Go.Proofs.Ytbogjepkdcknfaa
open Go.RowKit

set_option maxHeartbeats 400000 in
theorem slClone (ad : Addr) (cap : Nat) (zs : List Int) (w : World) (h : IsInts w (.slice (some ad) zs.length cap) zs) (hn : zs.length ≤ 100000000) :
    Calls Try.prog 93 #[.slice (some ad) zs.length cap] w fun e w' => ∃ v', e = .returned v' ∧ w'.ownsRow w.heap.size 2 1 v' zs.length (zs.map (Value.int .i64)) ∧ Below w.heap.size w w' := by
  have nb : Below w.heap.size w (w.alloc (.cells #[] 2)) := (Below.refl _ _).alloc (Nat.le_refl _) _
  have O : (w.alloc (.cells #[] 2)).ownsRow w.heap.size 2 1 (.slice (some ⟨w.heap.size, 0, none⟩) 0 0) 0 [] := World.ownsRow_lit w _ 0 (Nat.le_refl _) (by unfold maxLen; omega) rfl
  have h1 := h.later nb
  have HB := hide nb
  have hnil : ∀ w : World, (binOp .eql 79 (.slice (some ad) zs.length cap) (.slice none 0 0)).run Try.prog w = .ok (.bool false) w := fun _ => by kernel_rfl
  clear nb h
  go_enter Try.func93, Try.ntmps93
  go_wp2_with (at_builtin; refine wpList_append_ints O h1 rfl _ _ rfl rfl rfl (by omega) (by simp) ?_)
  rintro v' w' O2 - hb
  have HB2 := hide ((unhide HB).trans hb)
  clear O h1 hb HB
  go_wp2_with fail
  go_ret
  exact ⟨v', rfl, by simpa using O2, unhide HB2⟩

end Go.Proofs.Ytbogjepkdcknfaa

namespace Go.Proofs.Ytbogjepkdcknfaa
open Go.RowKit

theorem lies_store {α : Type} {A : Lay α} {w w4 : World} {cs vs : List Value} {y : α} {lo hi : Nat} (h : A.LiesIn w4 cs y lo hi) (hlo : w.heap.size < lo) (hhi : hi ≤ w4.heap.size) :
    A.LiesIn (setAll w4 w.heap.size 0 vs) cs y w.heap.size (setAll w4 w.heap.size 0 vs).heap.size := by
  rw [size_setAll]
  exact (h.ext (ext_setAll (fun q => q = w.heap.size) (Ext.refl _ _) _ _ _ rfl) (fun q h1 h2 h3 => by omega)).mono (by omega) hhi
theorem own_store {α : Type} {A : Lay α} {w w4 : World} {cs vs : List Value} {y : α} {lo hi : Nat} (h : A.OwnIn w4 cs y lo hi) (hlo : w.heap.size < lo) (hhi : hi ≤ w4.heap.size) :
    A.OwnIn (setAll w4 w.heap.size 0 vs) cs y w.heap.size (setAll w4 w.heap.size 0 vs).heap.size := by
  rw [size_setAll]
  exact (h.ext (ext_setAll (fun q => q = w.heap.size) (Ext.refl _ _) _ _ _ rfl) (fun q h1 h2 h3 => by omega)).mono (by omega) hhi

/-- The block s alone may turn, and it is none of those that the answer lies in. -/
theorem lies_store' {α : Type} {A : Lay α} {w4 : World} {s : Nat} {cs vs : List Value} {y : α} {lo hi : Nat} (h : A.LiesIn w4 cs y lo hi) (hs : s < lo) : A.LiesIn (setAll w4 s 0 vs) cs y lo hi :=
  h.ext (ext_setAll (fun q => q = s) (Ext.refl _ _) _ _ _ rfl) (fun q h1 h2 h3 => by omega)
theorem own_store' {α : Type} {A : Lay α} {w4 : World} {s : Nat} {cs vs : List Value} {y : α} {lo hi : Nat} (h : A.OwnIn w4 cs y lo hi) (hs : s < lo) : A.OwnIn (setAll w4 s 0 vs) cs y lo hi :=
  h.ext (ext_setAll (fun q => q = s) (Ext.refl _ _) _ _ _ rfl) (fun q h1 h2 h3 => by omega)

theorem nil_own {α : Type} {A : Lay α} {w : World} {lo hi : Nat} : (Lay.sl A).OwnIn w [.slice none 0 0] [] lo hi := ⟨[], ⟨⟨none, 0, rfl, by simp, Or.inl ⟨rfl, rfl⟩⟩, by simp, by simp⟩, by simp⟩

end Go.Proofs.Ytbogjepkdcknfaa

namespace Go.Proofs.Ytbogjepkdcknfaa
open Go.RowKit

set_option maxHeartbeats 400000 in
theorem clone_nil (d : Nat) (w : World) : Calls Try.prog 93 #[.slice none 0 d] w fun e w' => e = .returned (.slice none 0 0) ∧ Below w.heap.size w w' := by
  have hnil : ∀ w : World, (binOp .eql 79 (.slice none 0 d) (.slice none 0 0)).run Try.prog w = .ok (.bool true) w := fun _ => by kernel_rfl
  have HB : Hid (∀ o, Below w.heap.size w (w.alloc o)) := fun o => (Below.refl _ _).alloc (Nat.le_refl _) o
  go_enter Try.func93, Try.ntmps93
  go_wp2_with fail
  go_ret
  exact ⟨rfl, Below.refl _ _⟩
theorem cloneC (v : Value) (zs : List Int) (w : World) (h : (Lay.sl Lay.int).Reads w [v] zs) (hn : zs.length ≤ 10000000) :
    Calls Try.prog 93 #[v] w fun e w' => ∃ a n c, e = .returned (.slice a n c) ∧ ((Lay.sl Lay.int).OwnIn w' [.slice a n c] zs w.heap.size w'.heap.size ∧ n = zs.length) ∧ Below w.heap.size w w' := by
  obtain ⟨ao, cap, rfl⟩ := open_sl h
  cases ao with
  | none =>
    have h0 : zs = [] := by
      by_cases hp : 0 < zs.length
      · obtain ⟨b, off, e, -⟩ := Lay.sl_addr h hp
        cases e
      · exact List.eq_nil_of_length_eq_zero (by omega)
    subst h0
    refine (clone_nil cap w).mono ?_
    rintro e w' ⟨rfl, hb⟩
    exact ⟨none, 0, 0, rfl, ⟨nil_own, rfl⟩, hb⟩
  | some ad =>
    refine (slClone ad cap zs w (Lay.ints_reads h) (by omega)).mono ?_
    rintro e w' ⟨v', rfl, O, hb⟩
    have hO := Lay.ownInts (Lay.ints_reads h).wf (by omega) O
    obtain ⟨a3, c3, rfl⟩ := open_sl hO.reads
    exact ⟨a3, _, c3, rfl, ⟨hO, rfl⟩, hb⟩

end Go.Proofs.Ytbogjepkdcknfaa

namespace Go.Proofs.Ytbogjepkdcknfaa
open Go.RowKit

theorem infoWriteC : (Try.prog.info? 83).map (fun i => (i.zero, i.size, decide (i.bytes ≤ 1000))) = some (some (.agg #[.int .i64 0, .int .i64 0, .slice none 0 0, .int .i64 0, .int .i64 0]), 5, true) := by kernel_rfl
theorem own_writeC {w : World} {x : DWrite} {v : Value} {lo hi : Nat} (h : (Lay.sl Lay.int).OwnIn w [v] x.vec lo hi) (v0 : (Lit.int .i64 x.kind).wf = true) (v1 : (Lit.int .i64 x.id).wf = true) (v3 : (Lit.int .i64 x.session).wf = true) (v4 : (Lit.int .i64 x.seq).wf = true) : Lay.tWrite.OwnIn w [.int .i64 x.kind, .int .i64 x.id, v, .int .i64 x.session, .int .i64 x.seq] x lo hi := by
  obtain ⟨bl, O, i⟩ := h
  exact ⟨bl, mkOwn_Write O v0 v1 v3 v4 O.2.1, i⟩
set_option maxRecDepth 10000 in
set_option maxHeartbeats 4000000 in
theorem copiedC (v : Value) (xs : List DWrite) (w : World) (h : (Lay.sl Lay.tWrite).Reads w [v] xs) (hlen : xs.length ≤ 1000000) (hv : ∀ x ∈ xs, x.vec.length ≤ 10000000) :
    Calls Try.prog 77 #[v] w fun e w' => ∃ (g : Nat), e = .returned (.slice (some ⟨g, 0, none⟩) xs.length xs.length) ∧ (Lay.sl Lay.tWrite).OwnIn w' [.slice (some ⟨g, 0, none⟩) xs.length xs.length] xs w.heap.size w'.heap.size ∧ Below w.heap.size w w' := by
  have hbig := h.big
  obtain ⟨ao, cap, rfl⟩ := open_sl h
  obtain ⟨i0, hi, hz0, hz1, hz2⟩ : ∃ i, Try.prog.info? 83 = some i ∧ i.zero = some (.agg #[.int .i64 0, .int .i64 0, .slice none 0 0, .int .i64 0, .int .i64 0]) ∧ i.size = 5 ∧ i.bytes ≤ 1000 := by
    have := infoWriteC
    cases hq : Try.prog.info? 83 with
    | none => rw [hq] at this; simp at this
    | some i =>
      rw [hq] at this
      simp only [Option.map_some, Option.some.injEq, Prod.mk.injEq, decide_eq_true_eq] at this
      exact ⟨i, rfl, this.1, this.2.1, this.2.2⟩
  have H := hide h
  have HN := hide hv
  clear h hv
  go_enter Try.func77, Try.ntmps77
  go_wp2_with (at_make; refine wpList_make_full _ rfl _ _ 27 rfl w.heap.size 83 i0 _ 5 Try.underlying27 hi hz0 hz1 _ _ _ _ xs.length rfl rfl rfl rfl ?c1 ?c2 ?c3 ?_)
  case c1 => have := Nat.mul_le_mul hz2 hlen; omega
  case c2 => unfold maxLen; omega
  case c3 => exact Nat.le_refl _
  intro w1 hown1 hgrow1
  have hB1 : Below w.heap.size w w1 := (Below.refl _ _).grown hgrow1 (Nat.le_refl _) (by simp)
  clear hgrow1 hi hz0 hz1 hz2
  have HO1 := hide hown1
  have HB1 := hide hB1
  clear hown1 hB1
  go_wp2_with fail
  go_loopw [11] (fun i wr => ∃ (k : Nat) (rows : List (List Value)) (Q : List Value) (hi : Nat), k ≤ xs.length ∧ i = .int .i64 k ∧ wr.ownsRow w.heap.size 83 5 (.slice (some ⟨w.heap.size, 0, none⟩) xs.length xs.length) xs.length (rows.flatten ++ Q) ∧ Q.length = (xs.length - k) * 5 ∧ Lay.Subs Lay.tWrite wr rows (xs.take k) (w.heap.size + 1) hi ∧ hi ≤ wr.heap.size ∧ w.heap.size < hi ∧ Below w.heap.size w wr) (fun i _ => xs.length - (intOf i).toNat)
  case atStart =>
    have hl := ((unhide HO1).lt w.heap.size rfl).2
    exact ⟨0, [], _, w1.heap.size, Nat.zero_le _, rfl, by simpa using unhide HO1, by have := (unhide HO1).1; simpa using this, Lay.subs_nil, Nat.le_refl _, hl, unhide HB1⟩
  case round =>
    obtain ⟨k, rows, Q, hi, hk, rfl, hown, hQ, hsub, hhi, hlo, hB⟩ := hrel
    clear HO1 HB1
    by_cases hlt : k < xs.length
    · obtain ⟨b, off, rfl, hbl⟩ := Lay.sl_addr (unhide H) (by omega)
      obtain ⟨row, hc, hr⟩ := Lay.row_at (unhide H) hlt
      replace hr := hr.later hB
      have hr2 := hr
      obtain ⟨a2, d2, rfl, R2⟩ := open_Write hr2
      obtain ⟨v0, v1, v3, v4⟩ : (Lit.int .i64 (xs[k]).kind).wf = true ∧ (Lit.int .i64 (xs[k]).id).wf = true ∧ (Lit.int .i64 (xs[k]).session).wf = true ∧ (Lit.int .i64 (xs[k]).seq).wf = true := by
        obtain ⟨bl9, hl9⟩ := hr
        obtain ⟨a9, d9, b9, -, -, f0, f1, -, f3, f4⟩ := lies_Write.1 hl9
        exact ⟨f0, f1, f3, f4⟩
      have c0 : wr.cell? ⟨b, off + k * 5, none⟩ = some (.int .i64 (xs[k]).kind) := (hB.cell (p := ⟨b, off + k * 5, none⟩) hbl).trans (hc 0 (by decide))
      have c1 : wr.cell? ⟨b, off + k * 5 + 1, none⟩ = some (.int .i64 (xs[k]).id) := (hB.cell (p := ⟨b, off + k * 5 + 1, none⟩) hbl).trans (hc 1 (by decide))
      have c2 : wr.cell? ⟨b, off + k * 5 + 2, none⟩ = some (.slice a2 (xs[k]).vec.length d2) := (hB.cell (p := ⟨b, off + k * 5 + 2, none⟩) hbl).trans (hc 2 (by decide))
      have c3' : wr.cell? ⟨b, off + k * 5 + 3, none⟩ = some (.int .i64 (xs[k]).session) := (hB.cell (p := ⟨b, off + k * 5 + 3, none⟩) hbl).trans (hc 3 (by decide))
      have c4 : wr.cell? ⟨b, off + k * 5 + 4, none⟩ = some (.int .i64 (xs[k]).seq) := (hB.cell (p := ⟨b, off + k * 5 + 4, none⟩) hbl).trans (hc 4 (by decide))
      have hrl : rows.flatten.length = k * 5 := by have := (Lay.subs_len hsub).1; rw [List.length_take, Nat.min_eq_left hk] at this; exact this
      have hvl := unhide HN xs[k] (List.getElem_mem hlt)
      have HT : Hid (xs.take (k + 1) = xs.take k ++ [xs[k]]) := List.take_succ_eq_append_getElem hlt
      have HB := hide hB
      have HO := hide hown
      have HS := hide hsub
      have HQ := hide hQ
      have HV := hide (And.intro v0 (And.intro v1 (And.intro v3 v4)))
      clear hB hr hc hown hsub hQ v0 v1 v3 v4
      generalize hxk : xs[k] = x at *
      clear hxk
      have hbr : b < wr.heap.size := Nat.lt_of_lt_of_le hbl (unhide HB).size
      have nb : Below wr.heap.size wr (wr.alloc (.cells #[.int .i64 x.kind, .int .i64 x.id, .slice a2 x.vec.length d2, .int .i64 x.session, .int .i64 x.seq] 83)) := (Below.refl _ _).alloc (Nat.le_refl _) _
      have bT : Box wr.heap.size #[.int .i64 x.kind, .int .i64 x.id, .slice a2 x.vec.length d2, .int .i64 x.session, .int .i64 x.seq] 83 (wr.alloc (.cells #[.int .i64 x.kind, .int .i64 x.id, .slice a2 x.vec.length d2, .int .i64 x.session, .int .i64 x.seq] 83)) wr.heap.size := newBox (Nat.le_refl _)
      have HL := hide (cloneC _ x.vec _ (R2.later nb) hvl)
      have HNB := hide nb
      have HBT := hide bT
      clear R2 nb bT
      go_wp2_with fail
      clear c0 c1 c2 c3' c4
      refine (unhide HL).mono ?_
      generalize hW0 : wr.alloc (.cells #[.int .i64 x.kind, .int .i64 x.id, .slice a2 x.vec.length d2, .int .i64 x.session, .int .i64 x.seq] 83) = W0 at *
      have hz0 : W0.heap.size = wr.heap.size + 1 := by rw [← hW0]; simp
      clear hW0
      rintro e w2 ⟨a3, n3, c3, rfl, ⟨O, hn3⟩, hb⟩
      subst hn3
      have hbt := (unhide HBT).keep hb
      have y0 := hbt.at 0 _ rfl
      have y1 := hbt.at 1 _ rfl
      have y2 := hbt.at 2 _ rfl
      have y3 := hbt.at 3 _ rfl
      have y4 := hbt.at 4 _ rfl
      have yf := hbt.soft
      have yl := hbt.lt
      simp only [List.getElem_toArray, List.getElem_cons_zero, List.getElem_cons_succ] at y0 y1 y2 y3 y4
      have hnb2 := (unhide HNB).trans (hb.mono (unhide HNB).size)
      have hz2 : W0.heap.size ≤ w2.heap.size := hb.size
      have e3 : Ext (fun q => q = wr.heap.size) w2 (w2.setCell ⟨wr.heap.size, 2, none⟩ (.slice a3 x.vec.length c3)) := (Ext.refl (fun q => q = wr.heap.size) _).setCell ⟨wr.heap.size, 2, none⟩ _ rfl
      have hb3 : Below wr.heap.size wr (w2.setCell ⟨wr.heap.size, 2, none⟩ (.slice a3 x.vec.length c3)) := hnb2.setCell (by simp) _
      have o2 := own_below (unhide HO) hb3
      have o1 := own_below (unhide HO) hnb2
      have ow : Lay.tWrite.OwnIn (w2.setCell ⟨wr.heap.size, 2, none⟩ (.slice a3 x.vec.length c3)) [.int .i64 x.kind, .int .i64 x.id, .slice a3 x.vec.length c3, .int .i64 x.session, .int .i64 x.seq] x W0.heap.size w2.heap.size := own_writeC (O.ext e3 (fun q h1 h2 h3 => by omega)) (unhide HV).1 (unhide HV).2.1 (unhide HV).2.2.1 (unhide HV).2.2.2
      replace HS := hide (Lay.subs_snoc (Lay.subs_ext (unhide HS) (ext_of_below hb3 nowhere) (fun _ _ _ h => h)) ow (by omega) (by omega) (by omega))
      have hb2 := (unhide HB).trans (hb3.mono (unhide HB).size)
      have hz3 : (w2.setCell ⟨wr.heap.size, 2, none⟩ (.slice a3 x.vec.length c3)).heap.size = w2.heap.size := by simp
      have hxw : w.heap.size < wr.heap.size := by omega
      clear hb HB HO O HV HNB HBT HL hnb2 e3 hb3 ow hbt
      have hQ := unhide HQ
      have hl5 : (rows.flatten ++ Q).length = xs.length * 5 := o2.1
      obtain ⟨u0, g0⟩ : ∃ u, w2.cell? ⟨w.heap.size, k * 5, none⟩ = some u := by
        rw [o1.cellAt (k * 5) (by omega)]
        exact ⟨_, List.getElem?_eq_getElem (by omega)⟩
      have t0 := o1.frozenAt (k * 5)
      obtain ⟨u1, g1⟩ : ∃ u, w2.cell? ⟨w.heap.size, k * 5 + 1, none⟩ = some u := by
        rw [o1.cellAt (k * 5 + 1) (by omega)]
        exact ⟨_, List.getElem?_eq_getElem (by omega)⟩
      have t1 := o1.frozenAt (k * 5 + 1)
      obtain ⟨u2, g2⟩ : ∃ u, w2.cell? ⟨w.heap.size, k * 5 + 2, none⟩ = some u := by
        rw [o1.cellAt (k * 5 + 2) (by omega)]
        exact ⟨_, List.getElem?_eq_getElem (by omega)⟩
      have t2 := o1.frozenAt (k * 5 + 2)
      obtain ⟨u3, g3⟩ : ∃ u, w2.cell? ⟨w.heap.size, k * 5 + 3, none⟩ = some u := by
        rw [o1.cellAt (k * 5 + 3) (by omega)]
        exact ⟨_, List.getElem?_eq_getElem (by omega)⟩
      have t3 := o1.frozenAt (k * 5 + 3)
      obtain ⟨u4, g4⟩ : ∃ u, w2.cell? ⟨w.heap.size, k * 5 + 4, none⟩ = some u := by
        rw [o1.cellAt (k * 5 + 4) (by omega)]
        exact ⟨_, List.getElem?_eq_getElem (by omega)⟩
      have t4 := o1.frozenAt (k * 5 + 4)
      have o3 := own_setAll o2 (k * 5) [.int .i64 x.kind, .int .i64 x.id, .slice a3 x.vec.length c3, .int .i64 x.session, .int .i64 x.seq]
      rw [show k * 5 = rows.flatten.length from hrl.symm, setFrom_app _ _ _ (by rw [hQ]; simp; have : 1 * 5 ≤ (xs.length - k) * 5 := Nat.mul_le_mul_right _ (by omega); omega), hrl] at o3
      have E : Ext (fun q => q = w.heap.size) (w2.setCell ⟨wr.heap.size, 2, none⟩ (.slice a3 x.vec.length c3)) (setAll (w2.setCell ⟨wr.heap.size, 2, none⟩ (.slice a3 x.vec.length c3)) w.heap.size (k * 5) [.int .i64 x.kind, .int .i64 x.id, .slice a3 x.vec.length c3, .int .i64 x.session, .int .i64 x.seq]) := ext_setAll _ (Ext.refl _ _) _ _ _ rfl
      replace HS := hide (Lay.subs_ext (unhide HS) E (fun q h1 h2 h3 => by omega))
      have HB := hide (below_setAll hb2 w.heap.size (k * 5) [.int .i64 x.kind, .int .i64 x.id, .slice a3 x.vec.length c3, .int .i64 x.session, .int .i64 x.seq] (Nat.le_refl _))
      have HZ : Hid ((setAll (w2.setCell ⟨wr.heap.size, 2, none⟩ (.slice a3 x.vec.length c3)) w.heap.size (k * 5) [.int .i64 x.kind, .int .i64 x.id, .slice a3 x.vec.length c3, .int .i64 x.session, .int .i64 x.seq]).heap.size = w2.heap.size) := (size_setAll _ _ _ _).trans hz3
      have HO : Hid ((setAll (w2.setCell ⟨wr.heap.size, 2, none⟩ (.slice a3 x.vec.length c3)) w.heap.size (k * 5) [.int .i64 x.kind, .int .i64 x.id, .slice a3 x.vec.length c3, .int .i64 x.session, .int .i64 x.seq]).ownsRow w.heap.size 83 5 (.slice (some ⟨w.heap.size, 0, none⟩) xs.length xs.length) xs.length ((rows ++ [([.int .i64 x.kind, .int .i64 x.id, .slice a3 x.vec.length c3, .int .i64 x.session, .int .i64 x.seq] : List Value)]).flatten ++ Q.drop 5)) := by
        show (setAll (w2.setCell ⟨wr.heap.size, 2, none⟩ (.slice a3 x.vec.length c3)) w.heap.size (k * 5) [.int .i64 x.kind, .int .i64 x.id, .slice a3 x.vec.length c3, .int .i64 x.session, .int .i64 x.seq]).ownsRow w.heap.size 83 5 (.slice (some ⟨w.heap.size, 0, none⟩) xs.length xs.length) xs.length ((rows ++ [([.int .i64 x.kind, .int .i64 x.id, .slice a3 x.vec.length c3, .int .i64 x.session, .int .i64 x.seq] : List Value)]).flatten ++ Q.drop 5)
        rw [List.flatten_append]
        simpa using o3
      have hl2 := (o1.lt w.heap.size rfl).2
      clear o3 o2 o1 E hb2 hl5
      have hQ2 : Hid ((Q.drop 5).length = (xs.length - (k + 1)) * 5) := by
        show (Q.drop 5).length = (xs.length - (k + 1)) * 5
        rw [List.length_drop, hQ, show xs.length - k = xs.length - (k + 1) + 1 by omega, Nat.add_mul]
        omega
      have HW2 : Hid (w.heap.size < w2.heap.size) := hl2
      clear hQ HQ hz3 hz2 hz0
      go_wp2_with fail
      go_roundw
      case rel => exact ⟨k + 1, rows ++ [([.int .i64 x.kind, .int .i64 x.id, .slice a3 x.vec.length c3, .int .i64 x.session, .int .i64 x.seq] : List Value)], Q.drop 5, w2.heap.size, by omega, by go_num, unhide HO, unhide hQ2, (by rw [unhide HT]; exact unhide HS), Nat.le_of_eq (unhide HZ).symm, unhide HW2, unhide HB⟩
      case measure => simp [intOf]; omega
    · obtain rfl : k = xs.length := by omega
      have e0 : Q = [] := List.eq_nil_of_length_eq_zero (by rw [hQ]; simp)
      subst e0
      rw [List.append_nil] at hown
      rw [List.take_length] at hsub
      have HO := hide (Lay.subs_done (A := Lay.tWrite) hown hsub (by omega) hhi hbig)
      have HB := hide hB
      clear hown hsub hB
      go_wp2_with fail
      go_ret
      exact ⟨_, rfl, unhide HO, unhide HB⟩

end Go.Proofs.Ytbogjepkdcknfaa

namespace Go.Proofs.Ytbogjepkdcknfaa
open Go.RowKit

/-- A node that is pointed at: its writes are v, and so many of them are sure. -/
def HeldAt (w : World) (g : Nat) (v : Value) (x : DNode) : Prop := Box 0 #[v, .int .i64 x.sure, .int .i64 x.id, .bool x.up, .int .i64 x.epoch, .int .i64 x.lease, .int .i64 x.clean] 65 w g
theorem HeldAt.keep {w w' : World} {g : Nat} {v : Value} {x : DNode} (h : HeldAt w g v x) (hb : Below w.heap.size w w') : HeldAt w' g v x := Box.keep h hb
theorem HeldAt.lt {w : World} {g : Nat} {v : Value} {x : DNode} (h : HeldAt w g v x) : g < w.heap.size := Box.lt h
theorem node_vecs {x : DNode} (h : NodeOK x) : ∀ y ∈ x.writes, y.vec.length ≤ 10000000 := fun y hy => by
  obtain ⟨-, -, -, hk⟩ := writeFault_zero (h.ws y hy)
  rcases hk with ⟨-, hv⟩ | ⟨-, hv⟩
  · have := (vecFault_zero hv).1; omega
  · rw [hv]; simp

set_option maxRecDepth 10000 in
set_option maxHeartbeats 1000000 in
theorem nodeOf_bad (cs : List Value) (x : DNode) (w : World) (h : Lay.tNode.Reads w cs x) (hf : nodeFault x ≠ 0) :
    Calls Try.prog 59 #[.agg cs.toArray] w fun e w' => e = .returned (.tuple #[.pointer none, .int .i64 (nodeFault x)]) ∧ Below w.heap.size w w' := by
  have hN := h
  obtain ⟨a4, d4, rfl, R4⟩ := open_Node h
  have nb : Below w.heap.size w (w.alloc (.cells #[.int .i64 x.id, .bool x.up, .int .i64 x.epoch, .int .i64 x.lease, .slice a4 x.writes.length d4, .int .i64 x.sure, .int .i64 x.clean] 29)) := (Below.refl _ _).alloc (Nat.le_refl _) _
  have bX : Box w.heap.size #[.int .i64 x.id, .bool x.up, .int .i64 x.epoch, .int .i64 x.lease, .slice a4 x.writes.length d4, .int .i64 x.sure, .int .i64 x.clean] 29 (w.alloc (.cells #[.int .i64 x.id, .bool x.up, .int .i64 x.epoch, .int .i64 x.lease, .slice a4 x.writes.length d4, .int .i64 x.sure, .int .i64 x.clean] 29)) w.heap.size := newBox (Nat.le_refl _)
  have HL := hide (implNodeFault _ x _ (hN.later nb))
  have HB := hide nb
  have hd : (nodeFault x != 0) = true := by simpa using hf
  clear h hN nb bX R4 hf
  generalize nodeFault x = c at *
  go_enter Try.func59, Try.ntmps59
  go_wp2_with fail
  refine (unhide HL).mono ?_
  rintro e w1 ⟨rfl, hb⟩
  have HB1 := hide ((unhide HB).trans (hb.mono (unhide HB).size))
  clear hb HL HB
  go_wp2_with fail
  refine bodyPost_ret (v := .tuple #[.pointer none, .int .i64 c]) (by simp [results, Try.results59, go_sem]) rfl ?_
  exact ⟨rfl, unhide HB1⟩

set_option maxRecDepth 10000 in
set_option maxHeartbeats 2000000 in
theorem nodeOf_ok (cs : List Value) (x : DNode) (w : World) (h : Lay.tNode.Reads w cs x) (hf : nodeFault x = 0) :
    Calls Try.prog 59 #[.agg cs.toArray] w fun e w' => ∃ g gw, e = .returned (.tuple #[.pointer (some ⟨g, 0, none⟩), .int .i64 0]) ∧ HeldAt w' g (.slice (some ⟨gw, 0, none⟩) x.writes.length x.writes.length) x ∧ (Lay.sl Lay.tWrite).OwnIn w' [.slice (some ⟨gw, 0, none⟩) x.writes.length x.writes.length] x.writes (g + 1) w'.heap.size ∧ w.heap.size ≤ g ∧ Below w.heap.size w w' := by
  have hN := h
  obtain ⟨a4, d4, rfl, R4⟩ := open_Node h
  have nb : Below w.heap.size w (w.alloc (.cells #[.int .i64 x.id, .bool x.up, .int .i64 x.epoch, .int .i64 x.lease, .slice a4 x.writes.length d4, .int .i64 x.sure, .int .i64 x.clean] 29)) := (Below.refl _ _).alloc (Nat.le_refl _) _
  have bX : Box w.heap.size #[.int .i64 x.id, .bool x.up, .int .i64 x.epoch, .int .i64 x.lease, .slice a4 x.writes.length d4, .int .i64 x.sure, .int .i64 x.clean] 29 (w.alloc (.cells #[.int .i64 x.id, .bool x.up, .int .i64 x.epoch, .int .i64 x.lease, .slice a4 x.writes.length d4, .int .i64 x.sure, .int .i64 x.clean] 29)) w.heap.size := newBox (Nat.le_refl _)
  have hok := nodeFault_zero hf
  have HL := hide (implNodeFault _ x _ (hN.later nb))
  rw [hf] at HL
  have hlen := hok.len
  have HV := hide (node_vecs hok)
  have HB := hide nb
  have HX := hide bX
  have HR := hide (R4.later nb)
  clear h hN nb bX R4 hf hok
  go_enter Try.func59, Try.ntmps59
  go_wp2_with fail
  generalize w.alloc (.cells #[.int .i64 x.id, .bool x.up, .int .i64 x.epoch, .int .i64 x.lease, .slice a4 x.writes.length d4, .int .i64 x.sure, .int .i64 x.clean] 29) = W0 at *
  refine (unhide HL).mono ?_
  rintro e w1 ⟨rfl, hb⟩
  have bX1 := (unhide HX).keep hb
  have HB1 := hide ((unhide HB).trans (hb.mono (unhide HB).size))
  have HR1 := hide ((unhide HR).later hb)
  have x0 := bX1.at 0 _ rfl
  have x1 := bX1.at 1 _ rfl
  have x2 := bX1.at 2 _ rfl
  have x3 := bX1.at 3 _ rfl
  have x4 := bX1.at 4 _ rfl
  have x5 := bX1.at 5 _ rfl
  have x6 := bX1.at 6 _ rfl
  simp only [List.getElem_toArray, List.getElem_cons_zero, List.getElem_cons_succ] at x0 x1 x2 x3 x4 x5 x6
  have xl := bX1.lt
  have hgs := (unhide HB1).size
  have nb2 : Below w1.heap.size w1 (w1.alloc (.cells #[.slice none 0 0, .int .i64 0, .int .i64 x.id, .bool x.up, .int .i64 x.epoch, .int .i64 x.lease, .int .i64 x.clean] 65)) := (Below.refl _ _).alloc (Nat.le_refl _) _
  have bH : Box 0 #[.slice none 0 0, .int .i64 0, .int .i64 x.id, .bool x.up, .int .i64 x.epoch, .int .i64 x.lease, .int .i64 x.clean] 65 (w1.alloc (.cells #[.slice none 0 0, .int .i64 0, .int .i64 x.id, .bool x.up, .int .i64 x.epoch, .int .i64 x.lease, .int .i64 x.clean] 65)) w1.heap.size := newBox (Nat.zero_le _)
  have HC := hide (copiedC _ x.writes _ ((unhide HR1).later nb2) (by omega) (unhide HV))
  have HX2 := hide (bX1.keep nb2)
  have HB2 := hide ((unhide HB1).trans (nb2.mono (unhide HB1).size))
  have HH := hide bH
  have hz2 : (w1.alloc (.cells #[.slice none 0 0, .int .i64 0, .int .i64 x.id, .bool x.up, .int .i64 x.epoch, .int .i64 x.lease, .int .i64 x.clean] 65)).heap.size = w1.heap.size + 1 := by simp
  have HZ2 : Hid (w1.heap.size + 1 ≤ (w1.alloc (.cells #[.slice none 0 0, .int .i64 0, .int .i64 x.id, .bool x.up, .int .i64 x.epoch, .int .i64 x.lease, .int .i64 x.clean] 65)).heap.size) := Nat.le_of_eq hz2.symm
  clear hb HL HB HX HR HR1 bX1 nb2 bH HB1 hz2
  go_wp2_with fail
  clear x0 x1 x2 x3 x4 x5 x6 xl
  refine (unhide HC).mono ?_
  generalize w1.alloc (.cells #[.slice none 0 0, .int .i64 0, .int .i64 x.id, .bool x.up, .int .i64 x.epoch, .int .i64 x.lease, .int .i64 x.clean] 65) = W2 at *
  rintro e w3 ⟨gw, rfl, O, hb⟩
  have bX3 := (unhide HX2).keep hb
  have bH3 := (unhide HH).keep hb
  have x5 := bX3.at 5 _ rfl
  have y0 := bH3.at 0 _ rfl
  have y1 := bH3.at 1 _ rfl
  have yf := bH3.soft
  have yl := bH3.lt
  have xl := bX3.lt
  have hxy : w.heap.size ≠ w1.heap.size := by
    have h1 := (unhide HX2).lt
    intro e
    have q1 := (unhide HX2).2
    have q2 := (unhide HH).2
    rw [e, q2] at q1
    simp at q1
  have hwlt : w.heap.size < w1.heap.size := by omega
  simp only [List.getElem_toArray, List.getElem_cons_zero, List.getElem_cons_succ] at x5 y0 y1
  have HF3 : Hid (HeldAt ((w3.setCell ⟨w1.heap.size, 0, none⟩ (.slice (some ⟨gw, 0, none⟩) x.writes.length x.writes.length)).setCell ⟨w1.heap.size, 1, none⟩ (.int .i64 x.sure)) w1.heap.size (.slice (some ⟨gw, 0, none⟩) x.writes.length x.writes.length) x) := (bH3.set 0 (.slice (some ⟨gw, 0, none⟩) x.writes.length x.writes.length)).set 1 (.int .i64 x.sure)
  have hzb := unhide HZ2
  have E : Ext (fun q => q = w1.heap.size) w3 ((w3.setCell ⟨w1.heap.size, 0, none⟩ (.slice (some ⟨gw, 0, none⟩) x.writes.length x.writes.length)).setCell ⟨w1.heap.size, 1, none⟩ (.int .i64 x.sure)) := ((Ext.refl (fun q => q = w1.heap.size) _).setCell ⟨w1.heap.size, 0, none⟩ _ rfl).setCell ⟨w1.heap.size, 1, none⟩ _ rfl
  have HO3 := hide ((O.ext E (fun q h1 h2 h3 => by omega)).mono (lo' := w1.heap.size + 1) (hi' := ((w3.setCell ⟨w1.heap.size, 0, none⟩ (.slice (some ⟨gw, 0, none⟩) x.writes.length x.writes.length)).setCell ⟨w1.heap.size, 1, none⟩ (.int .i64 x.sure)).heap.size) hzb (by simp))
  have HB3 : Hid (Below w.heap.size w ((w3.setCell ⟨w1.heap.size, 0, none⟩ (.slice (some ⟨gw, 0, none⟩) x.writes.length x.writes.length)).setCell ⟨w1.heap.size, 1, none⟩ (.int .i64 x.sure))) := (((unhide HB2).trans (hb.mono (unhide HB2).size)).setCell (by simpa using hgs) _).setCell (by simpa using hgs) _
  clear hb O bX3 bH3 E HC HX2 HH HB2 HZ2
  go_wp2_with fail
  refine bodyPost_ret (v := .tuple #[.pointer (some ⟨w1.heap.size, 0, none⟩), .int .i64 0]) (by simp [results, Try.results59, go_sem]) rfl ?_
  exact ⟨w1.heap.size, gw, rfl, unhide HF3, unhide HO3, hgs, unhide HB3⟩

set_option maxRecDepth 10000 in
set_option maxHeartbeats 1000000 in
theorem upNode_bad (cs : List Value) (x : DNode) (w : World) (h : Lay.tNode.Reads w cs x) (hf : askedN x ≠ 0) :
    Calls Try.prog 46 #[.agg cs.toArray] w fun e w' => e = .returned (.tuple #[.pointer none, .int .i64 (askedN x)]) ∧ Below w.heap.size w w' := by
  have hN := h
  obtain ⟨a4, d4, rfl, R4⟩ := open_Node h
  have nb : Below w.heap.size w (w.alloc (.cells #[.int .i64 x.id, .bool x.up, .int .i64 x.epoch, .int .i64 x.lease, .slice a4 x.writes.length d4, .int .i64 x.sure, .int .i64 x.clean] 29)) := (Below.refl _ _).alloc (Nat.le_refl _) _
  have bX : Box w.heap.size #[.int .i64 x.id, .bool x.up, .int .i64 x.epoch, .int .i64 x.lease, .slice a4 x.writes.length d4, .int .i64 x.sure, .int .i64 x.clean] 29 (w.alloc (.cells #[.int .i64 x.id, .bool x.up, .int .i64 x.epoch, .int .i64 x.lease, .slice a4 x.writes.length d4, .int .i64 x.sure, .int .i64 x.clean] 29)) w.heap.size := newBox (Nat.le_refl _)
  by_cases hn : nodeFault x = 0
  · have HL := hide (nodeOf_ok _ x _ (hN.later nb) hn)
    have ha : askedN x = 10 ∧ x.up = false := by
      unfold askedN at hf ⊢
      rw [if_pos hn] at hf ⊢
      cases hu : x.up
      · exact ⟨by simp, rfl⟩
      · rw [hu] at hf; simp at hf
    have HU := hide ha.2
    rw [ha.1]
    have HB := hide nb
    clear h hN nb bX R4 hf hn ha
    go_enter Try.func46, Try.ntmps46
    go_wp2_with fail
    refine (unhide HL).mono ?_
    rintro e w1 ⟨g, gw, rfl, hH, -, -, hb⟩
    have y3 := Box.at hH 3 _ rfl
    have yl := hH.lt
    simp only [List.getElem_toArray, List.getElem_cons_zero, List.getElem_cons_succ] at y3
    rw [unhide HU] at y3
    have HB1 := hide ((unhide HB).trans (hb.mono (unhide HB).size))
    clear hb HL HB hH
    go_wp2_with fail
    refine bodyPost_ret (v := .tuple #[.pointer none, .int .i64 10]) (by simp [results, Try.results46, go_sem]) rfl ?_
    exact ⟨rfl, unhide HB1⟩
  · have HL := hide (nodeOf_bad _ x _ (hN.later nb) hn)
    have ha : askedN x = nodeFault x := by rw [askedN, if_neg hn]
    rw [ha]
    have HB := hide nb
    have hd : (nodeFault x == 0) = false := by simpa using hn
    clear h hN nb bX R4 hf hn ha
    generalize nodeFault x = c at *
    go_enter Try.func46, Try.ntmps46
    go_wp2_with fail
    refine (unhide HL).mono ?_
    rintro e w1 ⟨rfl, hb⟩
    have HB1 := hide ((unhide HB).trans (hb.mono (unhide HB).size))
    clear hb HL HB
    go_wp2_with fail
    refine bodyPost_ret (v := .tuple #[.pointer none, .int .i64 c]) (by simp [results, Try.results46, go_sem]) rfl ?_
    exact ⟨rfl, unhide HB1⟩

set_option maxRecDepth 10000 in
set_option maxHeartbeats 1000000 in
theorem upNode_ok (cs : List Value) (x : DNode) (w : World) (h : Lay.tNode.Reads w cs x) (hf : askedN x = 0) :
    Calls Try.prog 46 #[.agg cs.toArray] w fun e w' => ∃ g gw, e = .returned (.tuple #[.pointer (some ⟨g, 0, none⟩), .int .i64 0]) ∧ HeldAt w' g (.slice (some ⟨gw, 0, none⟩) x.writes.length x.writes.length) x ∧ (Lay.sl Lay.tWrite).OwnIn w' [.slice (some ⟨gw, 0, none⟩) x.writes.length x.writes.length] x.writes (g + 1) w'.heap.size ∧ w.heap.size ≤ g ∧ Below w.heap.size w w' := by
  obtain ⟨hok, hu⟩ := askedN_zero hf
  have HU := hide hu
  clear hu
  have hN := h
  obtain ⟨a4, d4, rfl, R4⟩ := open_Node h
  have nb : Below w.heap.size w (w.alloc (.cells #[.int .i64 x.id, .bool x.up, .int .i64 x.epoch, .int .i64 x.lease, .slice a4 x.writes.length d4, .int .i64 x.sure, .int .i64 x.clean] 29)) := (Below.refl _ _).alloc (Nat.le_refl _) _
  have bX : Box w.heap.size #[.int .i64 x.id, .bool x.up, .int .i64 x.epoch, .int .i64 x.lease, .slice a4 x.writes.length d4, .int .i64 x.sure, .int .i64 x.clean] 29 (w.alloc (.cells #[.int .i64 x.id, .bool x.up, .int .i64 x.epoch, .int .i64 x.lease, .slice a4 x.writes.length d4, .int .i64 x.sure, .int .i64 x.clean] 29)) w.heap.size := newBox (Nat.le_refl _)
  have HL := hide (nodeOf_ok _ x _ (hN.later nb) hok.fault)
  have HB := hide nb
  clear h hN nb bX R4 hf hok
  go_enter Try.func46, Try.ntmps46
  go_wp2_with fail
  refine (unhide HL).mono ?_
  rintro e w1 ⟨g, gw, rfl, hH, O, hg, hb⟩
  have y3 := Box.at hH 3 _ rfl
  have yl := hH.lt
  simp only [List.getElem_toArray, List.getElem_cons_zero, List.getElem_cons_succ] at y3
  rw [unhide HU] at y3
  have HB1 := hide ((unhide HB).trans (hb.mono (unhide HB).size))
  have HH := hide hH
  have HO := hide O
  have HG := hide (Nat.le_trans (unhide HB).size hg)
  clear hb HL HB hH O hg
  go_wp2_with fail
  refine bodyPost_ret (v := .tuple #[.pointer (some ⟨g, 0, none⟩), .int .i64 0]) (by simp [results, Try.results46, go_sem]) rfl ?_
  exact ⟨g, gw, rfl, unhide HH, unhide HO, unhide HG, unhide HB1⟩

end Go.Proofs.Ytbogjepkdcknfaa

namespace Go.Proofs.Ytbogjepkdcknfaa
open Go.RowKit

theorem learn_val (a b i : Int) : (if a < (if b < i then b else i) then (if b < i then b else i) else a) = max a (min i b) := by
  by_cases h : b < i
  · rw [if_pos h]; split <;> omega
  · rw [if_neg h]; split <;> omega
theorem countC (g : Nat) (a : Option Addr) (n c : Nat) (x : DNode) (w : World) (h : HeldAt w g (.slice a n c) x) :
    Calls Try.prog 48 #[.pointer (some ⟨g, 0, none⟩)] w fun e w' => e = .returned (.int .i64 (n : Int)) ∧ w' = w := by
  have y0 := Box.at h 0 _ rfl
  simp only [List.getElem_toArray, List.getElem_cons_zero] at y0
  have yl := h.lt
  clear h
  go_enter Try.func48, Try.ntmps48
  go_wp2_with fail
  go_ret
  exact ⟨rfl, rfl⟩
set_option maxRecDepth 10000 in
set_option maxHeartbeats 1000000 in
theorem looseC (g : Nat) (a : Option Addr) (n c : Nat) (x : DNode) (w : World) (h : HeldAt w g (.slice a n c) x) (hs : 0 ≤ x.sure ∧ x.sure ≤ n) (hn : n ≤ 1000) :
    Calls Try.prog 56 #[.pointer (some ⟨g, 0, none⟩)] w fun e w' => e = .returned (.int .i64 ((n : Int) - x.sure)) ∧ Below w.heap.size w w' := by
  have hHD : HeldAt w.drew g (.slice a n c) x := h
  go_enter Try.func56, Try.ntmps56
  go_wp2_with fail
  refine wp_region_noPanic ?_
  refine wp_region_held_drew (S := fun w' => w' = w.drew) (by kernel_rfl) rfl (fun hHeld => ?_)
  refine wpAnyH_take (i := 0) (oi := { dst := some 3, op := Go.Op.move (Go.Operand.tmp 0), type := 88, pos := "l09_node.go:37", after := #[], guard := none }) (v := ?vo0) rfl (by kernel_rfl) (by kernel_rfl) (by kernel_rfl) (fun _ _ _ h => h) (Or.inl ⟨by rfl, ?ho0⟩) hHeld ?ro0
  case ho0 =>
    intro wS hSw
    (try dsimp only at hSw)
    go_simp
    try with_reducible rfl
  case ro0 =>
  simp only [Act.put, List.setIfInBounds_toArray, List.set_cons_zero, List.set_cons_succ]
  refine wpAnyH_take (i := 2) (oi := { dst := some 5, op := Go.Op.move (Go.Operand.tmp 0), type := 88, pos := "l09_node.go:37", after := #[], guard := none }) (v := ?vo2) rfl (by kernel_rfl) (by kernel_rfl) (by kernel_rfl) (fun _ _ _ h => h) (Or.inl ⟨by rfl, ?ho2⟩) hHeld ?ro2
  case ho2 =>
    intro wS hSw
    (try dsimp only at hSw)
    go_simp
    try with_reducible rfl
  case ro2 =>
  simp only [Act.put, List.setIfInBounds_toArray, List.set_cons_zero, List.set_cons_succ]
  refine wpAnyH_take (i := 3) (oi := { dst := some 6, op := Go.Op.nilCheck (Go.Operand.tmp 5), type := 0, pos := "l09_node.go:37", after := #[{ on := 2, ground := Go.Ground.data }], guard := none }) (v := ?vo3) rfl (by kernel_rfl) (by kernel_rfl) (by kernel_rfl) (fun _ _ _ h => h) (Or.inl ⟨by rfl, ?ho3⟩) hHeld ?ro3
  case ho3 =>
    intro wS hSw
    (try dsimp only at hSw)
    go_simp
    try with_reducible rfl
  case ro3 =>
  simp only [Act.put, List.setIfInBounds_toArray, List.set_cons_zero, List.set_cons_succ]
  refine wpAnyH_take (i := 4) (oi := { dst := some 7, op := Go.Op.fieldAddr 63 (Go.Operand.tmp 6) 1, type := 0, pos := "l09_node.go:37", after := #[{ on := 3, ground := Go.Ground.data }], guard := none }) (v := ?vo4) rfl (by kernel_rfl) (by kernel_rfl) (by kernel_rfl) (fun _ _ _ h => h) (Or.inl ⟨by rfl, ?ho4⟩) hHeld ?ro4
  case ho4 =>
    intro wS hSw
    (try dsimp only at hSw)
    go_simp
    try with_reducible rfl
  case ro4 =>
  simp only [Act.put, List.setIfInBounds_toArray, List.set_cons_zero, List.set_cons_succ]
  refine wpAnyH_take (i := 5) (oi := { dst := some 8, op := Go.Op.load 2 (Go.Operand.tmp 7), type := 2, pos := "l09_node.go:37", after := #[{ on := 4, ground := Go.Ground.data }], guard := none }) (v := ?vo5) rfl (by kernel_rfl) (by kernel_rfl) (by kernel_rfl) (fun _ _ _ h => h) (Or.inl ⟨by rfl, ?ho5⟩) hHeld ?ro5
  case ho5 =>
    intro wS hSw
    have y1 : wS.cell? ⟨g, 1, none⟩ = some (.int .i64 x.sure) := by rw [hSw]; exact Box.at hHD 1 _ rfl
    clear hSw
    (try dsimp only at hSw)
    go_simp
    try with_reducible rfl
  case ro5 =>
  simp only [Act.put, List.setIfInBounds_toArray, List.set_cons_zero, List.set_cons_succ]
  refine wpAnyH_ready (rs := [1]) (by kernel_rfl) (by simp) ?_
  refine AllReadyH.cons (o := { dst := some 4, op := Go.Op.call { callee := Go.Callee.value (Go.Operand.func 48), args := #[Go.Operand.tmp 3], argTypes := #[88] }, type := 2, pos := "l09_node.go:37", after := #[{ on := 0, ground := Go.Ground.data }], guard := none }) rfl (fun K hK => ?_) AllReadyH.nil
  go_simp
  go_at_call 48
  refine (countC g a n c x _ hHD).mono ?_
  rintro e w3 ⟨rfl, rfl⟩
  try go_wp2_with fail
  refine hK.out _ _ rfl (fun hHeld => ?_)
  clear hK K
  try simp only [Act.put, List.setIfInBounds_toArray, List.set_cons_zero, List.set_cons_succ]
  refine wpAnyH_take (i := 6) (oi := { dst := some 9, op := Go.Op.binOp Go.BinOp.sub 2 (Go.Operand.tmp 4) (Go.Operand.tmp 8) 2, type := 2, pos := "l09_node.go:37", after := #[{ on := 1, ground := Go.Ground.data }, { on := 5, ground := Go.Ground.data }], guard := none }) (v := ?vo6) rfl (by kernel_rfl) (by kernel_rfl) (by kernel_rfl) (fun _ _ _ h => h) (Or.inl ⟨by rfl, ?ho6⟩) hHeld ?ro6
  case ho6 =>
    intro wS hSw
    (try dsimp only at hSw)
    go_simp
    try with_reducible rfl
  case ro6 =>
  simp only [Act.put, List.setIfInBounds_toArray, List.set_cons_zero, List.set_cons_succ]
  refine wpAnyH_take (i := 7) (oi := { dst := some 2, op := Go.Op.assign (Go.Operand.tmp 9), type := 2, pos := "l09_node.go:37", after := #[{ on := 6, ground := Go.Ground.data }, { on := 1, ground := Go.Ground.chain }, { on := 0, ground := Go.Ground.phase }, { on := 1, ground := Go.Ground.phase }, { on := 2, ground := Go.Ground.phase }, { on := 3, ground := Go.Ground.phase }, { on := 4, ground := Go.Ground.phase }, { on := 5, ground := Go.Ground.phase }, { on := 6, ground := Go.Ground.phase }], guard := none }) (v := ?vo7) rfl (by kernel_rfl) (by kernel_rfl) (by kernel_rfl) (fun _ _ _ h => h) (Or.inl ⟨by rfl, ?ho7⟩) hHeld ?ro7
  case ho7 =>
    intro wS hSw
    (try dsimp only at hSw)
    go_simp
    try with_reducible rfl
  case ro7 =>
  simp only [Act.put, List.setIfInBounds_toArray, List.set_cons_zero, List.set_cons_succ]
  refine wpAnyH_done (by kernel_rfl) ?_ _
  refine NoPanic.normal ?_
  clear hHeld
  have hwr : IntKind.i64.wrap ((n : Int) - x.sure) = (n : Int) - x.sure := (by rw [IntKind.wrap_i64]; omega)
  go_wp2_with fail
  go_ret
  simp only [hwr]
  exact ⟨rfl, (Below.refl _ _).drew⟩
set_option maxRecDepth 10000 in
set_option maxHeartbeats 1000000 in
theorem syncC (g : Nat) (a : Option Addr) (n c : Nat) (x : DNode) (w : World) (h : HeldAt w g (.slice a n c) x) :
    Calls Try.prog 47 #[.pointer (some ⟨g, 0, none⟩)] w fun e w' => e = .returned (.tuple #[]) ∧ HeldAt w' g (.slice a n c) ⟨x.id, x.up, x.epoch, x.lease, x.writes, (n : Int), x.clean⟩ ∧ Ext (fun q => q = g) w w' := by
  have L := hide (countC g a n c x w h)
  have y1 := Box.at h 1 _ rfl
  simp only [List.getElem_toArray, List.getElem_cons_zero, List.getElem_cons_succ] at y1
  have yf := Box.soft h
  have yl := h.lt
  have HH : Hid (HeldAt (w.setCell ⟨g, 1, none⟩ (.int .i64 (n : Int))) g (.slice a n c) ⟨x.id, x.up, x.epoch, x.lease, x.writes, (n : Int), x.clean⟩) := Box.set h 1 (.int .i64 (n : Int))
  have HE : Hid (Ext (fun q => q = g) w (w.setCell ⟨g, 1, none⟩ (.int .i64 (n : Int)))) := (Ext.refl (fun q => q = g) _).setCell ⟨g, 1, none⟩ _ rfl
  clear h
  go_enter Try.func47, Try.ntmps47
  go_wp2_with fail
  refine (unhide L).mono ?_
  rintro e w1 ⟨rfl, h1⟩
  subst w1
  go_wp2_with fail
  refine bodyPost_end (v := .tuple #[]) (by simp [results, Try.results47, go_sem]) rfl ?_
  exact ⟨rfl, unhide HH, unhide HE⟩
set_option maxRecDepth 10000 in
set_option maxHeartbeats 2000000 in
theorem toldC (g : Nat) (a : Option Addr) (n c : Nat) (x : DNode) (w : World) (h : HeldAt w g (.slice a n c) x) :
    Calls Try.prog 49 #[.pointer (some ⟨g, 0, none⟩)] w fun e w' => e = .returned (.agg #[.int .i64 x.id, .bool x.up, .int .i64 x.epoch, .int .i64 x.lease, .slice a n c, .int .i64 x.sure, .int .i64 x.clean]) ∧ Below w.heap.size w w' := by
  have k0 := Box.at h 0 _ rfl
  have k1 := Box.at h 1 _ rfl
  have k2 := Box.at h 2 _ rfl
  have k3 := Box.at h 3 _ rfl
  have k4 := Box.at h 4 _ rfl
  have k5 := Box.at h 5 _ rfl
  have k6 := Box.at h 6 _ rfl
  simp only [List.getElem_toArray, List.getElem_cons_zero, List.getElem_cons_succ] at k0 k1 k2 k3 k4 k5 k6
  have hgl := h.lt
  have HB0 := hide ((Below.refl w.heap.size w).alloc (Nat.le_refl _) (.cells #[.int .i64 0, .bool false, .int .i64 0, .int .i64 0, .slice none 0 0, .int .i64 0, .int .i64 0] 29))
  have hRD : Box 0 #[.int .i64 0, .bool false, .int .i64 0, .int .i64 0, .slice none 0 0, .int .i64 0, .int .i64 0] 29 (w.alloc (.cells #[.int .i64 0, .bool false, .int .i64 0, .int .i64 0, .slice none 0 0, .int .i64 0, .int .i64 0] 29)).drew w.heap.size := (newBox (Nat.zero_le _)).drew
  clear h
  go_enter Try.func49, Try.ntmps49
  go_wp2_with fail
  generalize w.alloc (.cells #[.int .i64 0, .bool false, .int .i64 0, .int .i64 0, .slice none 0 0, .int .i64 0, .int .i64 0] 29) = W0 at *
  refine wp_region_noPanic ?_
  refine wp_region_held_drew (S := fun w' => Below w.heap.size w w') (by kernel_rfl) (unhide HB0).drew (fun hHeld => ?_)
  generalize W0.drew = wD at hHeld hRD ⊢
  refine wpAnyH_take (i := 0) (oi := { dst := some 3, op := Go.Op.move (Go.Operand.tmp 0), type := 59, pos := "l09_node.go:148", after := #[], guard := none }) (v := ?vt0) rfl (by kernel_rfl) (by kernel_rfl) (by kernel_rfl) (fun _ _ _ h => h) (Or.inl ⟨by rfl, ?ht0⟩) hHeld ?rt0
  case ht0 =>
    intro wS hSw
    (try dsimp only at hSw)
    go_simp
    try with_reducible rfl
  case rt0 =>
  simp only [Act.put, List.setIfInBounds_toArray, List.set_cons_zero, List.set_cons_succ]
  refine wpAnyH_take (i := 1) (oi := { dst := some 4, op := Go.Op.nilCheck (Go.Operand.tmp 3), type := 0, pos := "l09_node.go:148", after := #[{ on := 0, ground := Go.Ground.data }], guard := none }) (v := ?vt1) rfl (by kernel_rfl) (by kernel_rfl) (by kernel_rfl) (fun _ _ _ h => h) (Or.inl ⟨by rfl, ?ht1⟩) hHeld ?rt1
  case ht1 =>
    intro wS hSw
    (try dsimp only at hSw)
    go_simp
    try with_reducible rfl
  case rt1 =>
  simp only [Act.put, List.setIfInBounds_toArray, List.set_cons_zero, List.set_cons_succ]
  refine wpAnyH_take (i := 2) (oi := { dst := some 5, op := Go.Op.fieldAddr 65 (Go.Operand.tmp 4) 1, type := 0, pos := "l09_node.go:148", after := #[{ on := 1, ground := Go.Ground.data }], guard := none }) (v := ?vt2) rfl (by kernel_rfl) (by kernel_rfl) (by kernel_rfl) (fun _ _ _ h => h) (Or.inl ⟨by rfl, ?ht2⟩) hHeld ?rt2
  case ht2 =>
    intro wS hSw
    (try dsimp only at hSw)
    go_simp
    try with_reducible rfl
  case rt2 =>
  simp only [Act.put, List.setIfInBounds_toArray, List.set_cons_zero, List.set_cons_succ]
  refine wpAnyH_take (i := 3) (oi := { dst := some 6, op := Go.Op.load 2 (Go.Operand.tmp 5), type := 2, pos := "l09_node.go:148", after := #[{ on := 2, ground := Go.Ground.data }], guard := none }) (v := ?vt3) rfl (by kernel_rfl) (by kernel_rfl) (by kernel_rfl) (fun _ _ _ h => h) (Or.inl ⟨by rfl, ?ht3⟩) hHeld ?rt3
  case ht3 =>
    intro wS hSw
    have y2 : wS.cell? ⟨g, 2, none⟩ = some (.int .i64 x.id) := (hSw.cell (p := ⟨g, 2, none⟩) hgl).trans k2
    clear hSw
    (try dsimp only at hSw)
    go_simp
    try with_reducible rfl
  case rt3 =>
  simp only [Act.put, List.setIfInBounds_toArray, List.set_cons_zero, List.set_cons_succ]
  refine wpAnyH_take (i := 4) (oi := { dst := some 7, op := Go.Op.move (Go.Operand.tmp 0), type := 59, pos := "l09_node.go:148", after := #[], guard := none }) (v := ?vt4) rfl (by kernel_rfl) (by kernel_rfl) (by kernel_rfl) (fun _ _ _ h => h) (Or.inl ⟨by rfl, ?ht4⟩) hHeld ?rt4
  case ht4 =>
    intro wS hSw
    (try dsimp only at hSw)
    go_simp
    try with_reducible rfl
  case rt4 =>
  simp only [Act.put, List.setIfInBounds_toArray, List.set_cons_zero, List.set_cons_succ]
  refine wpAnyH_take (i := 5) (oi := { dst := some 8, op := Go.Op.nilCheck (Go.Operand.tmp 7), type := 0, pos := "l09_node.go:148", after := #[{ on := 4, ground := Go.Ground.data }], guard := none }) (v := ?vt5) rfl (by kernel_rfl) (by kernel_rfl) (by kernel_rfl) (fun _ _ _ h => h) (Or.inl ⟨by rfl, ?ht5⟩) hHeld ?rt5
  case ht5 =>
    intro wS hSw
    (try dsimp only at hSw)
    go_simp
    try with_reducible rfl
  case rt5 =>
  simp only [Act.put, List.setIfInBounds_toArray, List.set_cons_zero, List.set_cons_succ]
  refine wpAnyH_take (i := 6) (oi := { dst := some 9, op := Go.Op.fieldAddr 65 (Go.Operand.tmp 8) 2, type := 0, pos := "l09_node.go:148", after := #[{ on := 5, ground := Go.Ground.data }], guard := none }) (v := ?vt6) rfl (by kernel_rfl) (by kernel_rfl) (by kernel_rfl) (fun _ _ _ h => h) (Or.inl ⟨by rfl, ?ht6⟩) hHeld ?rt6
  case ht6 =>
    intro wS hSw
    (try dsimp only at hSw)
    go_simp
    try with_reducible rfl
  case rt6 =>
  simp only [Act.put, List.setIfInBounds_toArray, List.set_cons_zero, List.set_cons_succ]
  refine wpAnyH_take (i := 7) (oi := { dst := some 10, op := Go.Op.load 4 (Go.Operand.tmp 9), type := 4, pos := "l09_node.go:148", after := #[{ on := 6, ground := Go.Ground.data }], guard := none }) (v := ?vt7) rfl (by kernel_rfl) (by kernel_rfl) (by kernel_rfl) (fun _ _ _ h => h) (Or.inl ⟨by rfl, ?ht7⟩) hHeld ?rt7
  case ht7 =>
    intro wS hSw
    have y3 : wS.cell? ⟨g, 3, none⟩ = some (.bool x.up) := (hSw.cell (p := ⟨g, 3, none⟩) hgl).trans k3
    clear hSw
    (try dsimp only at hSw)
    go_simp
    try with_reducible rfl
  case rt7 =>
  simp only [Act.put, List.setIfInBounds_toArray, List.set_cons_zero, List.set_cons_succ]
  refine wpAnyH_take (i := 8) (oi := { dst := some 11, op := Go.Op.move (Go.Operand.tmp 0), type := 59, pos := "l09_node.go:148", after := #[], guard := none }) (v := ?vt8) rfl (by kernel_rfl) (by kernel_rfl) (by kernel_rfl) (fun _ _ _ h => h) (Or.inl ⟨by rfl, ?ht8⟩) hHeld ?rt8
  case ht8 =>
    intro wS hSw
    (try dsimp only at hSw)
    go_simp
    try with_reducible rfl
  case rt8 =>
  simp only [Act.put, List.setIfInBounds_toArray, List.set_cons_zero, List.set_cons_succ]
  refine wpAnyH_take (i := 9) (oi := { dst := some 12, op := Go.Op.nilCheck (Go.Operand.tmp 11), type := 0, pos := "l09_node.go:148", after := #[{ on := 8, ground := Go.Ground.data }], guard := none }) (v := ?vt9) rfl (by kernel_rfl) (by kernel_rfl) (by kernel_rfl) (fun _ _ _ h => h) (Or.inl ⟨by rfl, ?ht9⟩) hHeld ?rt9
  case ht9 =>
    intro wS hSw
    (try dsimp only at hSw)
    go_simp
    try with_reducible rfl
  case rt9 =>
  simp only [Act.put, List.setIfInBounds_toArray, List.set_cons_zero, List.set_cons_succ]
  refine wpAnyH_take (i := 10) (oi := { dst := some 13, op := Go.Op.fieldAddr 65 (Go.Operand.tmp 12) 3, type := 0, pos := "l09_node.go:148", after := #[{ on := 9, ground := Go.Ground.data }], guard := none }) (v := ?vt10) rfl (by kernel_rfl) (by kernel_rfl) (by kernel_rfl) (fun _ _ _ h => h) (Or.inl ⟨by rfl, ?ht10⟩) hHeld ?rt10
  case ht10 =>
    intro wS hSw
    (try dsimp only at hSw)
    go_simp
    try with_reducible rfl
  case rt10 =>
  simp only [Act.put, List.setIfInBounds_toArray, List.set_cons_zero, List.set_cons_succ]
  refine wpAnyH_take (i := 11) (oi := { dst := some 14, op := Go.Op.load 2 (Go.Operand.tmp 13), type := 2, pos := "l09_node.go:148", after := #[{ on := 10, ground := Go.Ground.data }], guard := none }) (v := ?vt11) rfl (by kernel_rfl) (by kernel_rfl) (by kernel_rfl) (fun _ _ _ h => h) (Or.inl ⟨by rfl, ?ht11⟩) hHeld ?rt11
  case ht11 =>
    intro wS hSw
    have y4 : wS.cell? ⟨g, 4, none⟩ = some (.int .i64 x.epoch) := (hSw.cell (p := ⟨g, 4, none⟩) hgl).trans k4
    clear hSw
    (try dsimp only at hSw)
    go_simp
    try with_reducible rfl
  case rt11 =>
  simp only [Act.put, List.setIfInBounds_toArray, List.set_cons_zero, List.set_cons_succ]
  refine wpAnyH_take (i := 12) (oi := { dst := some 15, op := Go.Op.move (Go.Operand.tmp 0), type := 59, pos := "l09_node.go:148", after := #[], guard := none }) (v := ?vt12) rfl (by kernel_rfl) (by kernel_rfl) (by kernel_rfl) (fun _ _ _ h => h) (Or.inl ⟨by rfl, ?ht12⟩) hHeld ?rt12
  case ht12 =>
    intro wS hSw
    (try dsimp only at hSw)
    go_simp
    try with_reducible rfl
  case rt12 =>
  simp only [Act.put, List.setIfInBounds_toArray, List.set_cons_zero, List.set_cons_succ]
  refine wpAnyH_take (i := 13) (oi := { dst := some 16, op := Go.Op.nilCheck (Go.Operand.tmp 15), type := 0, pos := "l09_node.go:148", after := #[{ on := 12, ground := Go.Ground.data }], guard := none }) (v := ?vt13) rfl (by kernel_rfl) (by kernel_rfl) (by kernel_rfl) (fun _ _ _ h => h) (Or.inl ⟨by rfl, ?ht13⟩) hHeld ?rt13
  case ht13 =>
    intro wS hSw
    (try dsimp only at hSw)
    go_simp
    try with_reducible rfl
  case rt13 =>
  simp only [Act.put, List.setIfInBounds_toArray, List.set_cons_zero, List.set_cons_succ]
  refine wpAnyH_take (i := 14) (oi := { dst := some 17, op := Go.Op.fieldAddr 65 (Go.Operand.tmp 16) 4, type := 0, pos := "l09_node.go:148", after := #[{ on := 13, ground := Go.Ground.data }], guard := none }) (v := ?vt14) rfl (by kernel_rfl) (by kernel_rfl) (by kernel_rfl) (fun _ _ _ h => h) (Or.inl ⟨by rfl, ?ht14⟩) hHeld ?rt14
  case ht14 =>
    intro wS hSw
    (try dsimp only at hSw)
    go_simp
    try with_reducible rfl
  case rt14 =>
  simp only [Act.put, List.setIfInBounds_toArray, List.set_cons_zero, List.set_cons_succ]
  refine wpAnyH_take (i := 15) (oi := { dst := some 18, op := Go.Op.load 2 (Go.Operand.tmp 17), type := 2, pos := "l09_node.go:148", after := #[{ on := 14, ground := Go.Ground.data }], guard := none }) (v := ?vt15) rfl (by kernel_rfl) (by kernel_rfl) (by kernel_rfl) (fun _ _ _ h => h) (Or.inl ⟨by rfl, ?ht15⟩) hHeld ?rt15
  case ht15 =>
    intro wS hSw
    have y5 : wS.cell? ⟨g, 5, none⟩ = some (.int .i64 x.lease) := (hSw.cell (p := ⟨g, 5, none⟩) hgl).trans k5
    clear hSw
    (try dsimp only at hSw)
    go_simp
    try with_reducible rfl
  case rt15 =>
  simp only [Act.put, List.setIfInBounds_toArray, List.set_cons_zero, List.set_cons_succ]
  refine wpAnyH_take (i := 16) (oi := { dst := some 19, op := Go.Op.move (Go.Operand.tmp 0), type := 59, pos := "l09_node.go:148", after := #[], guard := none }) (v := ?vt16) rfl (by kernel_rfl) (by kernel_rfl) (by kernel_rfl) (fun _ _ _ h => h) (Or.inl ⟨by rfl, ?ht16⟩) hHeld ?rt16
  case ht16 =>
    intro wS hSw
    (try dsimp only at hSw)
    go_simp
    try with_reducible rfl
  case rt16 =>
  simp only [Act.put, List.setIfInBounds_toArray, List.set_cons_zero, List.set_cons_succ]
  refine wpAnyH_take (i := 17) (oi := { dst := some 20, op := Go.Op.nilCheck (Go.Operand.tmp 19), type := 0, pos := "l09_node.go:148", after := #[{ on := 16, ground := Go.Ground.data }], guard := none }) (v := ?vt17) rfl (by kernel_rfl) (by kernel_rfl) (by kernel_rfl) (fun _ _ _ h => h) (Or.inl ⟨by rfl, ?ht17⟩) hHeld ?rt17
  case ht17 =>
    intro wS hSw
    (try dsimp only at hSw)
    go_simp
    try with_reducible rfl
  case rt17 =>
  simp only [Act.put, List.setIfInBounds_toArray, List.set_cons_zero, List.set_cons_succ]
  refine wpAnyH_take (i := 18) (oi := { dst := some 21, op := Go.Op.fieldAddr 65 (Go.Operand.tmp 20) 0, type := 0, pos := "l09_node.go:148", after := #[{ on := 17, ground := Go.Ground.data }], guard := none }) (v := ?vt18) rfl (by kernel_rfl) (by kernel_rfl) (by kernel_rfl) (fun _ _ _ h => h) (Or.inl ⟨by rfl, ?ht18⟩) hHeld ?rt18
  case ht18 =>
    intro wS hSw
    (try dsimp only at hSw)
    go_simp
    try with_reducible rfl
  case rt18 =>
  simp only [Act.put, List.setIfInBounds_toArray, List.set_cons_zero, List.set_cons_succ]
  refine wpAnyH_take (i := 19) (oi := { dst := some 22, op := Go.Op.fieldAddr 63 (Go.Operand.tmp 21) 0, type := 0, pos := "l09_node.go:148", after := #[{ on := 18, ground := Go.Ground.data }], guard := none }) (v := ?vt19) rfl (by kernel_rfl) (by kernel_rfl) (by kernel_rfl) (fun _ _ _ h => h) (Or.inl ⟨by rfl, ?ht19⟩) hHeld ?rt19
  case ht19 =>
    intro wS hSw
    (try dsimp only at hSw)
    go_simp
    try with_reducible rfl
  case rt19 =>
  simp only [Act.put, List.setIfInBounds_toArray, List.set_cons_zero, List.set_cons_succ]
  refine wpAnyH_take (i := 20) (oi := { dst := some 23, op := Go.Op.load 27 (Go.Operand.tmp 22), type := 27, pos := "l09_node.go:148", after := #[{ on := 19, ground := Go.Ground.data }], guard := none }) (v := ?vt20) rfl (by kernel_rfl) (by kernel_rfl) (by kernel_rfl) (fun _ _ _ h => h) (Or.inl ⟨by rfl, ?ht20⟩) hHeld ?rt20
  case ht20 =>
    intro wS hSw
    have y0 : wS.cell? ⟨g, 0, none⟩ = some (.slice a n c) := (hSw.cell (p := ⟨g, 0, none⟩) hgl).trans k0
    clear hSw
    (try dsimp only at hSw)
    go_simp
    try with_reducible rfl
  case rt20 =>
  simp only [Act.put, List.setIfInBounds_toArray, List.set_cons_zero, List.set_cons_succ]
  refine wpAnyH_take (i := 21) (oi := { dst := some 24, op := Go.Op.move (Go.Operand.tmp 0), type := 59, pos := "l09_node.go:148", after := #[], guard := none }) (v := ?vt21) rfl (by kernel_rfl) (by kernel_rfl) (by kernel_rfl) (fun _ _ _ h => h) (Or.inl ⟨by rfl, ?ht21⟩) hHeld ?rt21
  case ht21 =>
    intro wS hSw
    (try dsimp only at hSw)
    go_simp
    try with_reducible rfl
  case rt21 =>
  simp only [Act.put, List.setIfInBounds_toArray, List.set_cons_zero, List.set_cons_succ]
  refine wpAnyH_take (i := 22) (oi := { dst := some 25, op := Go.Op.nilCheck (Go.Operand.tmp 24), type := 0, pos := "l09_node.go:148", after := #[{ on := 21, ground := Go.Ground.data }], guard := none }) (v := ?vt22) rfl (by kernel_rfl) (by kernel_rfl) (by kernel_rfl) (fun _ _ _ h => h) (Or.inl ⟨by rfl, ?ht22⟩) hHeld ?rt22
  case ht22 =>
    intro wS hSw
    (try dsimp only at hSw)
    go_simp
    try with_reducible rfl
  case rt22 =>
  simp only [Act.put, List.setIfInBounds_toArray, List.set_cons_zero, List.set_cons_succ]
  refine wpAnyH_take (i := 23) (oi := { dst := some 26, op := Go.Op.fieldAddr 65 (Go.Operand.tmp 25) 0, type := 0, pos := "l09_node.go:148", after := #[{ on := 22, ground := Go.Ground.data }], guard := none }) (v := ?vt23) rfl (by kernel_rfl) (by kernel_rfl) (by kernel_rfl) (fun _ _ _ h => h) (Or.inl ⟨by rfl, ?ht23⟩) hHeld ?rt23
  case ht23 =>
    intro wS hSw
    (try dsimp only at hSw)
    go_simp
    try with_reducible rfl
  case rt23 =>
  simp only [Act.put, List.setIfInBounds_toArray, List.set_cons_zero, List.set_cons_succ]
  refine wpAnyH_take (i := 24) (oi := { dst := some 27, op := Go.Op.fieldAddr 63 (Go.Operand.tmp 26) 1, type := 0, pos := "l09_node.go:148", after := #[{ on := 23, ground := Go.Ground.data }], guard := none }) (v := ?vt24) rfl (by kernel_rfl) (by kernel_rfl) (by kernel_rfl) (fun _ _ _ h => h) (Or.inl ⟨by rfl, ?ht24⟩) hHeld ?rt24
  case ht24 =>
    intro wS hSw
    (try dsimp only at hSw)
    go_simp
    try with_reducible rfl
  case rt24 =>
  simp only [Act.put, List.setIfInBounds_toArray, List.set_cons_zero, List.set_cons_succ]
  refine wpAnyH_take (i := 25) (oi := { dst := some 28, op := Go.Op.load 2 (Go.Operand.tmp 27), type := 2, pos := "l09_node.go:148", after := #[{ on := 24, ground := Go.Ground.data }], guard := none }) (v := ?vt25) rfl (by kernel_rfl) (by kernel_rfl) (by kernel_rfl) (fun _ _ _ h => h) (Or.inl ⟨by rfl, ?ht25⟩) hHeld ?rt25
  case ht25 =>
    intro wS hSw
    have y1 : wS.cell? ⟨g, 1, none⟩ = some (.int .i64 x.sure) := (hSw.cell (p := ⟨g, 1, none⟩) hgl).trans k1
    clear hSw
    (try dsimp only at hSw)
    go_simp
    try with_reducible rfl
  case rt25 =>
  simp only [Act.put, List.setIfInBounds_toArray, List.set_cons_zero, List.set_cons_succ]
  refine wpAnyH_take (i := 26) (oi := { dst := some 29, op := Go.Op.move (Go.Operand.tmp 0), type := 59, pos := "l09_node.go:148", after := #[], guard := none }) (v := ?vt26) rfl (by kernel_rfl) (by kernel_rfl) (by kernel_rfl) (fun _ _ _ h => h) (Or.inl ⟨by rfl, ?ht26⟩) hHeld ?rt26
  case ht26 =>
    intro wS hSw
    (try dsimp only at hSw)
    go_simp
    try with_reducible rfl
  case rt26 =>
  simp only [Act.put, List.setIfInBounds_toArray, List.set_cons_zero, List.set_cons_succ]
  refine wpAnyH_take (i := 27) (oi := { dst := some 30, op := Go.Op.nilCheck (Go.Operand.tmp 29), type := 0, pos := "l09_node.go:148", after := #[{ on := 26, ground := Go.Ground.data }], guard := none }) (v := ?vt27) rfl (by kernel_rfl) (by kernel_rfl) (by kernel_rfl) (fun _ _ _ h => h) (Or.inl ⟨by rfl, ?ht27⟩) hHeld ?rt27
  case ht27 =>
    intro wS hSw
    (try dsimp only at hSw)
    go_simp
    try with_reducible rfl
  case rt27 =>
  simp only [Act.put, List.setIfInBounds_toArray, List.set_cons_zero, List.set_cons_succ]
  refine wpAnyH_take (i := 28) (oi := { dst := some 31, op := Go.Op.fieldAddr 65 (Go.Operand.tmp 30) 5, type := 0, pos := "l09_node.go:148", after := #[{ on := 27, ground := Go.Ground.data }], guard := none }) (v := ?vt28) rfl (by kernel_rfl) (by kernel_rfl) (by kernel_rfl) (fun _ _ _ h => h) (Or.inl ⟨by rfl, ?ht28⟩) hHeld ?rt28
  case ht28 =>
    intro wS hSw
    (try dsimp only at hSw)
    go_simp
    try with_reducible rfl
  case rt28 =>
  simp only [Act.put, List.setIfInBounds_toArray, List.set_cons_zero, List.set_cons_succ]
  refine wpAnyH_take (i := 29) (oi := { dst := some 32, op := Go.Op.load 2 (Go.Operand.tmp 31), type := 2, pos := "l09_node.go:148", after := #[{ on := 28, ground := Go.Ground.data }], guard := none }) (v := ?vt29) rfl (by kernel_rfl) (by kernel_rfl) (by kernel_rfl) (fun _ _ _ h => h) (Or.inl ⟨by rfl, ?ht29⟩) hHeld ?rt29
  case ht29 =>
    intro wS hSw
    have y6 : wS.cell? ⟨g, 6, none⟩ = some (.int .i64 x.clean) := (hSw.cell (p := ⟨g, 6, none⟩) hgl).trans k6
    clear hSw
    (try dsimp only at hSw)
    go_simp
    try with_reducible rfl
  case rt29 =>
  simp only [Act.put, List.setIfInBounds_toArray, List.set_cons_zero, List.set_cons_succ]
  refine wpAnyH_take (i := 30) (oi := { dst := some 33, op := Go.Op.build 29 #[(0, Go.Operand.tmp 6), (1, Go.Operand.tmp 10), (2, Go.Operand.tmp 14), (3, Go.Operand.tmp 18), (4, Go.Operand.tmp 23), (5, Go.Operand.tmp 28), (6, Go.Operand.tmp 32)], type := 29, pos := "l09_node.go:148", after := #[{ on := 3, ground := Go.Ground.data }, { on := 7, ground := Go.Ground.data }, { on := 11, ground := Go.Ground.data }, { on := 15, ground := Go.Ground.data }, { on := 20, ground := Go.Ground.data }, { on := 25, ground := Go.Ground.data }, { on := 29, ground := Go.Ground.data }], guard := none }) (v := ?vt30) rfl (by kernel_rfl) (by kernel_rfl) (by kernel_rfl) (fun _ _ _ h => h) (Or.inl ⟨by rfl, ?ht30⟩) hHeld ?rt30
  case ht30 =>
    intro wS hSw
    (try dsimp only at hSw)
    go_simp
    try with_reducible rfl
  case rt30 =>
  simp only [Act.put, List.setIfInBounds_toArray, List.set_cons_zero, List.set_cons_succ]
  refine wpAnyH_ready (rs := [31]) (by kernel_rfl) (by simp) ?_
  refine AllReadyH.cons (o := { dst := none, op := Go.Op.store 29 (Go.Operand.tmp 2) (Go.Operand.tmp 33), type := 0, pos := "l09_node.go:148", after := #[{ on := 30, ground := Go.Ground.data }, { on := 0, ground := Go.Ground.phase }, { on := 1, ground := Go.Ground.phase }, { on := 2, ground := Go.Ground.phase }, { on := 3, ground := Go.Ground.phase }, { on := 4, ground := Go.Ground.phase }, { on := 5, ground := Go.Ground.phase }, { on := 6, ground := Go.Ground.phase }, { on := 7, ground := Go.Ground.phase }, { on := 8, ground := Go.Ground.phase }, { on := 9, ground := Go.Ground.phase }, { on := 10, ground := Go.Ground.phase }, { on := 11, ground := Go.Ground.phase }, { on := 12, ground := Go.Ground.phase }, { on := 13, ground := Go.Ground.phase }, { on := 14, ground := Go.Ground.phase }, { on := 15, ground := Go.Ground.phase }, { on := 16, ground := Go.Ground.phase }, { on := 17, ground := Go.Ground.phase }, { on := 18, ground := Go.Ground.phase }, { on := 19, ground := Go.Ground.phase }, { on := 20, ground := Go.Ground.phase }, { on := 21, ground := Go.Ground.phase }, { on := 22, ground := Go.Ground.phase }, { on := 23, ground := Go.Ground.phase }, { on := 24, ground := Go.Ground.phase }, { on := 25, ground := Go.Ground.phase }, { on := 26, ground := Go.Ground.phase }, { on := 27, ground := Go.Ground.phase }, { on := 28, ground := Go.Ground.phase }, { on := 29, ground := Go.Ground.phase }, { on := 30, ground := Go.Ground.phase }], guard := none }) rfl (fun K hK => ?_) AllReadyH.nil
  have z0 := Box.at hRD 0 _ rfl
  have z1 := Box.at hRD 1 _ rfl
  have z2 := Box.at hRD 2 _ rfl
  have z3 := Box.at hRD 3 _ rfl
  have z4 := Box.at hRD 4 _ rfl
  have z5 := Box.at hRD 5 _ rfl
  have z6 := Box.at hRD 6 _ rfl
  simp only [List.getElem_toArray, List.getElem_cons_zero, List.getElem_cons_succ] at z0 z1 z2 z3 z4 z5 z6
  have ff := Box.soft hRD
  have l0 := Box.lt hRD
  go_simp
  try go_wp2_with fail
  refine hK.out _ _ (below_setAll hHeld w.heap.size 0 [.int .i64 x.id, .bool x.up, .int .i64 x.epoch, .int .i64 x.lease, .slice a n c, .int .i64 x.sure, .int .i64 x.clean] (Nat.le_refl _)) (fun hHeld => ?_)
  clear hK K
  try simp only [Act.put, List.setIfInBounds_toArray, List.set_cons_zero, List.set_cons_succ]
  refine wpAnyH_done (by kernel_rfl) ?_ _
  refine NoPanic.normal ?_
  have HB9 := hide (hHeld)
  clear hHeld
  go_wp2_with fail
  refine bodyPost_ret (v := .agg #[.int .i64 x.id, .bool x.up, .int .i64 x.epoch, .int .i64 x.lease, .slice a n c, .int .i64 x.sure, .int .i64 x.clean]) (by simp [results, Try.results49, go_sem, z0, z1, z2, z3, z4, z5, z6]) rfl ?_
  exact ⟨rfl, unhide HB9⟩
set_option maxRecDepth 10000 in
set_option maxHeartbeats 2000000 in
theorem learnC (g : Nat) (a : Option Addr) (n c : Nat) (x : DNode) (i : Int) (w : World) (h : HeldAt w g (.slice a n c) x) :
    Calls Try.prog 54 #[.pointer (some ⟨g, 0, none⟩), .int .i64 i] w fun e w' => e = .returned (.tuple #[]) ∧ HeldAt w' g (.slice a n c) ⟨x.id, x.up, x.epoch, x.lease, x.writes, x.sure, max x.clean (min i x.sure)⟩ ∧ Ext (fun q => q = g) w w' := by
  have hHD : HeldAt w.drew g (.slice a n c) x := h
  have k0 := Box.at hHD 0 _ rfl
  have k1 := Box.at hHD 1 _ rfl
  have k6 := Box.at hHD 6 _ rfl
  have kf := Box.soft hHD
  have kl := Box.lt hHD
  simp only [List.getElem_toArray, List.getElem_cons_zero, List.getElem_cons_succ] at k0 k1 k6
  clear h
  go_enter Try.func54, Try.ntmps54
  go_wp2_with fail
  refine wp_region_noPanic ?_
  refine wp_region_held_drew (S := fun w' => Ext (fun q => q = g) w w') (by kernel_rfl) ((Ext.refl _ _).drew 1) (fun hHeld => ?_)
  generalize w.drew = wD at hHeld k0 k1 k6 kf kl hHD ⊢
  refine wpAnyH_take (i := 0) (oi := { dst := some 4, op := Go.Op.move (Go.Operand.tmp 0), type := 59, pos := "l09_node.go:162", after := #[], guard := none }) (v := ?vl0_1) rfl (by kernel_rfl) (by kernel_rfl) (by kernel_rfl) (fun _ _ _ h => h) (Or.inl ⟨by rfl, ?hl0_1⟩) hHeld ?rl0_1
  case hl0_1 =>
    intro wS hSw
    (try dsimp only at hSw)
    go_simp
    try with_reducible rfl
  case rl0_1 =>
  simp only [Act.put, List.setIfInBounds_toArray, List.set_cons_zero, List.set_cons_succ]
  refine wpAnyH_take (i := 1) (oi := { dst := some 5, op := Go.Op.move (Go.Operand.tmp 0), type := 59, pos := "l09_node.go:162", after := #[], guard := none }) (v := ?vl1_2) rfl (by kernel_rfl) (by kernel_rfl) (by kernel_rfl) (fun _ _ _ h => h) (Or.inl ⟨by rfl, ?hl1_2⟩) hHeld ?rl1_2
  case hl1_2 =>
    intro wS hSw
    (try dsimp only at hSw)
    go_simp
    try with_reducible rfl
  case rl1_2 =>
  simp only [Act.put, List.setIfInBounds_toArray, List.set_cons_zero, List.set_cons_succ]
  refine wpAnyH_take (i := 2) (oi := { dst := some 6, op := Go.Op.nilCheck (Go.Operand.tmp 5), type := 0, pos := "l09_node.go:162", after := #[{ on := 1, ground := Go.Ground.data }], guard := none }) (v := ?vl2_3) rfl (by kernel_rfl) (by kernel_rfl) (by kernel_rfl) (fun _ _ _ h => h) (Or.inl ⟨by rfl, ?hl2_3⟩) hHeld ?rl2_3
  case hl2_3 =>
    intro wS hSw
    (try dsimp only at hSw)
    go_simp
    try with_reducible rfl
  case rl2_3 =>
  simp only [Act.put, List.setIfInBounds_toArray, List.set_cons_zero, List.set_cons_succ]
  refine wpAnyH_take (i := 3) (oi := { dst := some 7, op := Go.Op.fieldAddr 65 (Go.Operand.tmp 6) 5, type := 0, pos := "l09_node.go:162", after := #[{ on := 2, ground := Go.Ground.data }], guard := none }) (v := ?vl3_4) rfl (by kernel_rfl) (by kernel_rfl) (by kernel_rfl) (fun _ _ _ h => h) (Or.inl ⟨by rfl, ?hl3_4⟩) hHeld ?rl3_4
  case hl3_4 =>
    intro wS hSw
    (try dsimp only at hSw)
    go_simp
    try with_reducible rfl
  case rl3_4 =>
  simp only [Act.put, List.setIfInBounds_toArray, List.set_cons_zero, List.set_cons_succ]
  refine wpAnyH_take (i := 5) (oi := { dst := some 9, op := Go.Op.move (Go.Operand.tmp 1), type := 2, pos := "l09_node.go:162", after := #[], guard := none }) (v := ?vl5_5) rfl (by kernel_rfl) (by kernel_rfl) (by kernel_rfl) (fun _ _ _ h => h) (Or.inl ⟨by rfl, ?hl5_5⟩) hHeld ?rl5_5
  case hl5_5 =>
    intro wS hSw
    (try dsimp only at hSw)
    go_simp
    try with_reducible rfl
  case rl5_5 =>
  simp only [Act.put, List.setIfInBounds_toArray, List.set_cons_zero, List.set_cons_succ]
  refine wpAnyH_take (i := 6) (oi := { dst := some 10, op := Go.Op.move (Go.Operand.tmp 0), type := 59, pos := "l09_node.go:162", after := #[], guard := none }) (v := ?vl6_6) rfl (by kernel_rfl) (by kernel_rfl) (by kernel_rfl) (fun _ _ _ h => h) (Or.inl ⟨by rfl, ?hl6_6⟩) hHeld ?rl6_6
  case hl6_6 =>
    intro wS hSw
    (try dsimp only at hSw)
    go_simp
    try with_reducible rfl
  case rl6_6 =>
  simp only [Act.put, List.setIfInBounds_toArray, List.set_cons_zero, List.set_cons_succ]
  refine wpAnyH_take (i := 7) (oi := { dst := some 11, op := Go.Op.nilCheck (Go.Operand.tmp 10), type := 0, pos := "l09_node.go:162", after := #[{ on := 6, ground := Go.Ground.data }], guard := none }) (v := ?vl7_7) rfl (by kernel_rfl) (by kernel_rfl) (by kernel_rfl) (fun _ _ _ h => h) (Or.inl ⟨by rfl, ?hl7_7⟩) hHeld ?rl7_7
  case hl7_7 =>
    intro wS hSw
    (try dsimp only at hSw)
    go_simp
    try with_reducible rfl
  case rl7_7 =>
  simp only [Act.put, List.setIfInBounds_toArray, List.set_cons_zero, List.set_cons_succ]
  refine wpAnyH_take (i := 8) (oi := { dst := some 12, op := Go.Op.fieldAddr 65 (Go.Operand.tmp 11) 0, type := 0, pos := "l09_node.go:162", after := #[{ on := 7, ground := Go.Ground.data }], guard := none }) (v := ?vl8_8) rfl (by kernel_rfl) (by kernel_rfl) (by kernel_rfl) (fun _ _ _ h => h) (Or.inl ⟨by rfl, ?hl8_8⟩) hHeld ?rl8_8
  case hl8_8 =>
    intro wS hSw
    (try dsimp only at hSw)
    go_simp
    try with_reducible rfl
  case rl8_8 =>
  simp only [Act.put, List.setIfInBounds_toArray, List.set_cons_zero, List.set_cons_succ]
  refine wpAnyH_take (i := 9) (oi := { dst := some 13, op := Go.Op.fieldAddr 63 (Go.Operand.tmp 12) 1, type := 0, pos := "l09_node.go:162", after := #[{ on := 8, ground := Go.Ground.data }], guard := none }) (v := ?vl9_9) rfl (by kernel_rfl) (by kernel_rfl) (by kernel_rfl) (fun _ _ _ h => h) (Or.inl ⟨by rfl, ?hl9_9⟩) hHeld ?rl9_9
  case hl9_9 =>
    intro wS hSw
    (try dsimp only at hSw)
    go_simp
    try with_reducible rfl
  case rl9_9 =>
  simp only [Act.put, List.setIfInBounds_toArray, List.set_cons_zero, List.set_cons_succ]
  refine wpAnyH_ready (rs := [4, 10]) (by kernel_rfl) (by simp) ?_
  refine AllReadyH.cons (o := { dst := some 8, op := Go.Op.load 2 (Go.Operand.tmp 7), type := 2, pos := "l09_node.go:162", after := #[{ on := 3, ground := Go.Ground.data }], guard := none }) rfl (fun K hK => ?ol4_10) (AllReadyH.cons (o := { dst := some 14, op := Go.Op.load 2 (Go.Operand.tmp 13), type := 2, pos := "l09_node.go:162", after := #[{ on := 9, ground := Go.Ground.data }], guard := none }) rfl (fun K hK => ?ol10_10) (AllReadyH.nil))
  case ol4_10 =>
    go_simp
    refine hK.out _ _ hHeld (fun hHeld => ?_)
    clear hK K
    try simp only [Act.put, List.setIfInBounds_toArray, List.set_cons_zero, List.set_cons_succ]
    refine wpAnyH_ready (rs := [10]) (by kernel_rfl) (by simp) ?_
    refine AllReadyH.cons (o := { dst := some 14, op := Go.Op.load 2 (Go.Operand.tmp 13), type := 2, pos := "l09_node.go:162", after := #[{ on := 9, ground := Go.Ground.data }], guard := none }) rfl (fun K hK => ?_) AllReadyH.nil
    go_simp
    refine hK.out _ _ hHeld (fun hHeld => ?_)
    clear hK K
    try simp only [Act.put, List.setIfInBounds_toArray, List.set_cons_zero, List.set_cons_succ]
    refine wpAnyH_take (i := 11) (oi := { dst := some 15, op := Go.Op.call { callee := Go.Callee.builtin Go.Builtin.min, args := #[Go.Operand.tmp 9, Go.Operand.tmp 14], argTypes := #[2, 2] }, type := 2, pos := "l09_node.go:162", after := #[{ on := 5, ground := Go.Ground.data }, { on := 10, ground := Go.Ground.data }], guard := none }) (v := ?vl11_11) rfl (by kernel_rfl) (by kernel_rfl) (by kernel_rfl) (fun _ _ _ h => h) (Or.inl ⟨by rfl, ?hl11_11⟩) hHeld ?rl11_11
    case hl11_11 =>
      intro wS hSw
      (try dsimp only at hSw)
      go_simp
      try with_reducible rfl
    case rl11_11 =>
    simp only [Act.put, List.setIfInBounds_toArray, List.set_cons_zero, List.set_cons_succ]
    refine wpAnyH_take (i := 12) (oi := { dst := some 16, op := Go.Op.call { callee := Go.Callee.builtin Go.Builtin.max, args := #[Go.Operand.tmp 8, Go.Operand.tmp 15], argTypes := #[2, 2] }, type := 2, pos := "l09_node.go:162", after := #[{ on := 4, ground := Go.Ground.data }, { on := 11, ground := Go.Ground.data }], guard := none }) (v := ?vl12_12) rfl (by kernel_rfl) (by kernel_rfl) (by kernel_rfl) (fun _ _ _ h => h) (Or.inl ⟨by rfl, ?hl12_12⟩) hHeld ?rl12_12
    case hl12_12 =>
      intro wS hSw
      (try dsimp only at hSw)
      go_simp
      try with_reducible rfl
    case rl12_12 =>
    simp only [Act.put, List.setIfInBounds_toArray, List.set_cons_zero, List.set_cons_succ]
    refine wpAnyH_take (i := 13) (oi := { dst := some 17, op := Go.Op.nilCheck (Go.Operand.tmp 4), type := 0, pos := "l09_node.go:162", after := #[{ on := 0, ground := Go.Ground.data }, { on := 0, ground := Go.Ground.phase }, { on := 1, ground := Go.Ground.phase }, { on := 2, ground := Go.Ground.phase }, { on := 3, ground := Go.Ground.phase }, { on := 4, ground := Go.Ground.phase }, { on := 5, ground := Go.Ground.phase }, { on := 6, ground := Go.Ground.phase }, { on := 7, ground := Go.Ground.phase }, { on := 8, ground := Go.Ground.phase }, { on := 9, ground := Go.Ground.phase }, { on := 10, ground := Go.Ground.phase }, { on := 11, ground := Go.Ground.phase }, { on := 12, ground := Go.Ground.phase }], guard := none }) (v := ?vl13_13) rfl (by kernel_rfl) (by kernel_rfl) (by kernel_rfl) (fun _ _ _ h => h) (Or.inl ⟨by rfl, ?hl13_13⟩) hHeld ?rl13_13
    case hl13_13 =>
      intro wS hSw
      (try dsimp only at hSw)
      go_simp
      try with_reducible rfl
    case rl13_13 =>
    simp only [Act.put, List.setIfInBounds_toArray, List.set_cons_zero, List.set_cons_succ]
    refine wpAnyH_take (i := 14) (oi := { dst := some 18, op := Go.Op.fieldAddr 65 (Go.Operand.tmp 17) 5, type := 0, pos := "l09_node.go:162", after := #[{ on := 13, ground := Go.Ground.data }, { on := 0, ground := Go.Ground.phase }, { on := 1, ground := Go.Ground.phase }, { on := 2, ground := Go.Ground.phase }, { on := 3, ground := Go.Ground.phase }, { on := 4, ground := Go.Ground.phase }, { on := 5, ground := Go.Ground.phase }, { on := 6, ground := Go.Ground.phase }, { on := 7, ground := Go.Ground.phase }, { on := 8, ground := Go.Ground.phase }, { on := 9, ground := Go.Ground.phase }, { on := 10, ground := Go.Ground.phase }, { on := 11, ground := Go.Ground.phase }, { on := 12, ground := Go.Ground.phase }], guard := none }) (v := ?vl14_14) rfl (by kernel_rfl) (by kernel_rfl) (by kernel_rfl) (fun _ _ _ h => h) (Or.inl ⟨by rfl, ?hl14_14⟩) hHeld ?rl14_14
    case hl14_14 =>
      intro wS hSw
      (try dsimp only at hSw)
      go_simp
      try with_reducible rfl
    case rl14_14 =>
    simp only [Act.put, List.setIfInBounds_toArray, List.set_cons_zero, List.set_cons_succ]
    refine wpAnyH_ready (rs := [15]) (by kernel_rfl) (by simp) ?_
    refine AllReadyH.cons (o := { dst := none, op := Go.Op.store 2 (Go.Operand.tmp 18) (Go.Operand.tmp 16), type := 0, pos := "l09_node.go:162", after := #[{ on := 14, ground := Go.Ground.data }, { on := 12, ground := Go.Ground.data }, { on := 0, ground := Go.Ground.phase }, { on := 1, ground := Go.Ground.phase }, { on := 2, ground := Go.Ground.phase }, { on := 3, ground := Go.Ground.phase }, { on := 4, ground := Go.Ground.phase }, { on := 5, ground := Go.Ground.phase }, { on := 6, ground := Go.Ground.phase }, { on := 7, ground := Go.Ground.phase }, { on := 8, ground := Go.Ground.phase }, { on := 9, ground := Go.Ground.phase }, { on := 10, ground := Go.Ground.phase }, { on := 11, ground := Go.Ground.phase }, { on := 12, ground := Go.Ground.phase }], guard := none }) rfl (fun K hK => ?_) AllReadyH.nil
    go_simp
    refine hK.out _ _ (hHeld.setCell ⟨g, 6, none⟩ _ rfl) (fun hHeld => ?_)
    clear hK K
    try simp only [Act.put, List.setIfInBounds_toArray, List.set_cons_zero, List.set_cons_succ]
    refine wpAnyH_done (by kernel_rfl) ?_ _
    refine NoPanic.normal ?_
    have HE := hide hHeld
    have HH := hide (Box.set hHD 6 (.int .i64 (max x.clean (min i x.sure))))
    clear hHeld hHD
    rw [learn_val] at HE ⊢
    generalize (if x.sure < i then x.sure else i) = mn
    go_wp2_with fail
    refine bodyPost_end (v := .tuple #[]) (by simp [results, Try.results54, go_sem]) rfl ?_
    exact ⟨rfl, unhide HH, unhide HE⟩
  case ol10_10 =>
    go_simp
    refine hK.out _ _ hHeld (fun hHeld => ?_)
    clear hK K
    try simp only [Act.put, List.setIfInBounds_toArray, List.set_cons_zero, List.set_cons_succ]
    refine wpAnyH_take (i := 11) (oi := { dst := some 15, op := Go.Op.call { callee := Go.Callee.builtin Go.Builtin.min, args := #[Go.Operand.tmp 9, Go.Operand.tmp 14], argTypes := #[2, 2] }, type := 2, pos := "l09_node.go:162", after := #[{ on := 5, ground := Go.Ground.data }, { on := 10, ground := Go.Ground.data }], guard := none }) (v := ?vl11_15) rfl (by kernel_rfl) (by kernel_rfl) (by kernel_rfl) (fun _ _ _ h => h) (Or.inl ⟨by rfl, ?hl11_15⟩) hHeld ?rl11_15
    case hl11_15 =>
      intro wS hSw
      (try dsimp only at hSw)
      go_simp
      try with_reducible rfl
    case rl11_15 =>
    simp only [Act.put, List.setIfInBounds_toArray, List.set_cons_zero, List.set_cons_succ]
    refine wpAnyH_ready (rs := [4]) (by kernel_rfl) (by simp) ?_
    refine AllReadyH.cons (o := { dst := some 8, op := Go.Op.load 2 (Go.Operand.tmp 7), type := 2, pos := "l09_node.go:162", after := #[{ on := 3, ground := Go.Ground.data }], guard := none }) rfl (fun K hK => ?_) AllReadyH.nil
    go_simp
    refine hK.out _ _ hHeld (fun hHeld => ?_)
    clear hK K
    try simp only [Act.put, List.setIfInBounds_toArray, List.set_cons_zero, List.set_cons_succ]
    refine wpAnyH_take (i := 12) (oi := { dst := some 16, op := Go.Op.call { callee := Go.Callee.builtin Go.Builtin.max, args := #[Go.Operand.tmp 8, Go.Operand.tmp 15], argTypes := #[2, 2] }, type := 2, pos := "l09_node.go:162", after := #[{ on := 4, ground := Go.Ground.data }, { on := 11, ground := Go.Ground.data }], guard := none }) (v := ?vl12_16) rfl (by kernel_rfl) (by kernel_rfl) (by kernel_rfl) (fun _ _ _ h => h) (Or.inl ⟨by rfl, ?hl12_16⟩) hHeld ?rl12_16
    case hl12_16 =>
      intro wS hSw
      (try dsimp only at hSw)
      go_simp
      try with_reducible rfl
    case rl12_16 =>
    simp only [Act.put, List.setIfInBounds_toArray, List.set_cons_zero, List.set_cons_succ]
    refine wpAnyH_take (i := 13) (oi := { dst := some 17, op := Go.Op.nilCheck (Go.Operand.tmp 4), type := 0, pos := "l09_node.go:162", after := #[{ on := 0, ground := Go.Ground.data }, { on := 0, ground := Go.Ground.phase }, { on := 1, ground := Go.Ground.phase }, { on := 2, ground := Go.Ground.phase }, { on := 3, ground := Go.Ground.phase }, { on := 4, ground := Go.Ground.phase }, { on := 5, ground := Go.Ground.phase }, { on := 6, ground := Go.Ground.phase }, { on := 7, ground := Go.Ground.phase }, { on := 8, ground := Go.Ground.phase }, { on := 9, ground := Go.Ground.phase }, { on := 10, ground := Go.Ground.phase }, { on := 11, ground := Go.Ground.phase }, { on := 12, ground := Go.Ground.phase }], guard := none }) (v := ?vl13_17) rfl (by kernel_rfl) (by kernel_rfl) (by kernel_rfl) (fun _ _ _ h => h) (Or.inl ⟨by rfl, ?hl13_17⟩) hHeld ?rl13_17
    case hl13_17 =>
      intro wS hSw
      (try dsimp only at hSw)
      go_simp
      try with_reducible rfl
    case rl13_17 =>
    simp only [Act.put, List.setIfInBounds_toArray, List.set_cons_zero, List.set_cons_succ]
    refine wpAnyH_take (i := 14) (oi := { dst := some 18, op := Go.Op.fieldAddr 65 (Go.Operand.tmp 17) 5, type := 0, pos := "l09_node.go:162", after := #[{ on := 13, ground := Go.Ground.data }, { on := 0, ground := Go.Ground.phase }, { on := 1, ground := Go.Ground.phase }, { on := 2, ground := Go.Ground.phase }, { on := 3, ground := Go.Ground.phase }, { on := 4, ground := Go.Ground.phase }, { on := 5, ground := Go.Ground.phase }, { on := 6, ground := Go.Ground.phase }, { on := 7, ground := Go.Ground.phase }, { on := 8, ground := Go.Ground.phase }, { on := 9, ground := Go.Ground.phase }, { on := 10, ground := Go.Ground.phase }, { on := 11, ground := Go.Ground.phase }, { on := 12, ground := Go.Ground.phase }], guard := none }) (v := ?vl14_18) rfl (by kernel_rfl) (by kernel_rfl) (by kernel_rfl) (fun _ _ _ h => h) (Or.inl ⟨by rfl, ?hl14_18⟩) hHeld ?rl14_18
    case hl14_18 =>
      intro wS hSw
      (try dsimp only at hSw)
      go_simp
      try with_reducible rfl
    case rl14_18 =>
    simp only [Act.put, List.setIfInBounds_toArray, List.set_cons_zero, List.set_cons_succ]
    refine wpAnyH_ready (rs := [15]) (by kernel_rfl) (by simp) ?_
    refine AllReadyH.cons (o := { dst := none, op := Go.Op.store 2 (Go.Operand.tmp 18) (Go.Operand.tmp 16), type := 0, pos := "l09_node.go:162", after := #[{ on := 14, ground := Go.Ground.data }, { on := 12, ground := Go.Ground.data }, { on := 0, ground := Go.Ground.phase }, { on := 1, ground := Go.Ground.phase }, { on := 2, ground := Go.Ground.phase }, { on := 3, ground := Go.Ground.phase }, { on := 4, ground := Go.Ground.phase }, { on := 5, ground := Go.Ground.phase }, { on := 6, ground := Go.Ground.phase }, { on := 7, ground := Go.Ground.phase }, { on := 8, ground := Go.Ground.phase }, { on := 9, ground := Go.Ground.phase }, { on := 10, ground := Go.Ground.phase }, { on := 11, ground := Go.Ground.phase }, { on := 12, ground := Go.Ground.phase }], guard := none }) rfl (fun K hK => ?_) AllReadyH.nil
    go_simp
    refine hK.out _ _ (hHeld.setCell ⟨g, 6, none⟩ _ rfl) (fun hHeld => ?_)
    clear hK K
    try simp only [Act.put, List.setIfInBounds_toArray, List.set_cons_zero, List.set_cons_succ]
    refine wpAnyH_done (by kernel_rfl) ?_ _
    refine NoPanic.normal ?_
    have HE := hide hHeld
    have HH := hide (Box.set hHD 6 (.int .i64 (max x.clean (min i x.sure))))
    clear hHeld hHD
    rw [learn_val] at HE ⊢
    generalize (if x.sure < i then x.sure else i) = mn
    go_wp2_with fail
    refine bodyPost_end (v := .tuple #[]) (by simp [results, Try.results54, go_sem]) rfl ?_
    exact ⟨rfl, unhide HH, unhide HE⟩
set_option maxRecDepth 10000 in
set_option maxHeartbeats 2000000 in
theorem tearC (g gw n s k t : Nat) (x : DNode) (w : World) (h : HeldAt w g (.slice (some ⟨gw, 0, none⟩) n n) ⟨x.id, x.up, x.epoch, x.lease, x.writes, (s : Int), x.clean⟩) (h1 : t ≤ s + k) (h2 : s + k ≤ t) (hk : t ≤ n) (hn : n ≤ 1000) :
    Calls Try.prog 76 #[.pointer (some ⟨g, 0, none⟩), .int .i64 (k : Int)] w fun e w' => e = .returned (.tuple #[]) ∧ HeldAt w' g (.slice (some ⟨gw, 0, none⟩) t n) ⟨x.id, x.up, x.epoch, x.lease, x.writes, (t : Int), x.clean⟩ ∧ Ext (fun q => q = g) w w' := by
  have hHD : HeldAt w.drew g (.slice (some ⟨gw, 0, none⟩) n n) ⟨x.id, x.up, x.epoch, x.lease, x.writes, (s : Int), x.clean⟩ := h
  have k0 := Box.at hHD 0 _ rfl
  have k1 := Box.at hHD 1 _ rfl
  have k6 := Box.at hHD 6 _ rfl
  have kf := Box.soft hHD
  have kl := Box.lt hHD
  simp only [List.getElem_toArray, List.getElem_cons_zero, List.getElem_cons_succ] at k0 k1 k6
  clear h
  go_enter Try.func76, Try.ntmps76
  go_wp2_with fail
  refine wp_region_noPanic ?_
  refine wp_region_held_drew (S := fun w' => Ext (fun q => q = g) w w') (by kernel_rfl) ((Ext.refl _ _).drew 1) (fun hHeld => ?_)
  generalize w.drew = wD at hHeld k0 k1 k6 kf kl hHD ⊢
  refine wpAnyH_take (i := 0) (oi := { dst := some 4, op := Go.Op.move (Go.Operand.tmp 0), type := 88, pos := "l09_node.go:60", after := #[], guard := none }) (v := ?vr0_1) rfl (by kernel_rfl) (by kernel_rfl) (by kernel_rfl) (fun _ _ _ h => h) (Or.inl ⟨by rfl, ?hr0_1⟩) hHeld ?rr0_1
  case hr0_1 =>
    intro wS hSw
    (try dsimp only at hSw)
    go_simp
    try with_reducible rfl
  case rr0_1 =>
  simp only [Act.put, List.setIfInBounds_toArray, List.set_cons_zero, List.set_cons_succ]
  refine wpAnyH_take (i := 1) (oi := { dst := some 5, op := Go.Op.move (Go.Operand.tmp 0), type := 88, pos := "l09_node.go:60", after := #[], guard := none }) (v := ?vr1_2) rfl (by kernel_rfl) (by kernel_rfl) (by kernel_rfl) (fun _ _ _ h => h) (Or.inl ⟨by rfl, ?hr1_2⟩) hHeld ?rr1_2
  case hr1_2 =>
    intro wS hSw
    (try dsimp only at hSw)
    go_simp
    try with_reducible rfl
  case rr1_2 =>
  simp only [Act.put, List.setIfInBounds_toArray, List.set_cons_zero, List.set_cons_succ]
  refine wpAnyH_take (i := 2) (oi := { dst := some 6, op := Go.Op.nilCheck (Go.Operand.tmp 5), type := 0, pos := "l09_node.go:60", after := #[{ on := 1, ground := Go.Ground.data }], guard := none }) (v := ?vr2_3) rfl (by kernel_rfl) (by kernel_rfl) (by kernel_rfl) (fun _ _ _ h => h) (Or.inl ⟨by rfl, ?hr2_3⟩) hHeld ?rr2_3
  case hr2_3 =>
    intro wS hSw
    (try dsimp only at hSw)
    go_simp
    try with_reducible rfl
  case rr2_3 =>
  simp only [Act.put, List.setIfInBounds_toArray, List.set_cons_zero, List.set_cons_succ]
  refine wpAnyH_take (i := 3) (oi := { dst := some 7, op := Go.Op.fieldAddr 63 (Go.Operand.tmp 6) 0, type := 0, pos := "l09_node.go:60", after := #[{ on := 2, ground := Go.Ground.data }], guard := none }) (v := ?vr3_4) rfl (by kernel_rfl) (by kernel_rfl) (by kernel_rfl) (fun _ _ _ h => h) (Or.inl ⟨by rfl, ?hr3_4⟩) hHeld ?rr3_4
  case hr3_4 =>
    intro wS hSw
    (try dsimp only at hSw)
    go_simp
    try with_reducible rfl
  case rr3_4 =>
  simp only [Act.put, List.setIfInBounds_toArray, List.set_cons_zero, List.set_cons_succ]
  refine wpAnyH_take (i := 5) (oi := { dst := some 9, op := Go.Op.move (Go.Operand.tmp 0), type := 88, pos := "l09_node.go:60", after := #[], guard := none }) (v := ?vr5_5) rfl (by kernel_rfl) (by kernel_rfl) (by kernel_rfl) (fun _ _ _ h => h) (Or.inl ⟨by rfl, ?hr5_5⟩) hHeld ?rr5_5
  case hr5_5 =>
    intro wS hSw
    (try dsimp only at hSw)
    go_simp
    try with_reducible rfl
  case rr5_5 =>
  simp only [Act.put, List.setIfInBounds_toArray, List.set_cons_zero, List.set_cons_succ]
  refine wpAnyH_take (i := 6) (oi := { dst := some 10, op := Go.Op.nilCheck (Go.Operand.tmp 9), type := 0, pos := "l09_node.go:60", after := #[{ on := 5, ground := Go.Ground.data }], guard := none }) (v := ?vr6_6) rfl (by kernel_rfl) (by kernel_rfl) (by kernel_rfl) (fun _ _ _ h => h) (Or.inl ⟨by rfl, ?hr6_6⟩) hHeld ?rr6_6
  case hr6_6 =>
    intro wS hSw
    (try dsimp only at hSw)
    go_simp
    try with_reducible rfl
  case rr6_6 =>
  simp only [Act.put, List.setIfInBounds_toArray, List.set_cons_zero, List.set_cons_succ]
  refine wpAnyH_take (i := 7) (oi := { dst := some 11, op := Go.Op.fieldAddr 63 (Go.Operand.tmp 10) 1, type := 0, pos := "l09_node.go:60", after := #[{ on := 6, ground := Go.Ground.data }], guard := none }) (v := ?vr7_7) rfl (by kernel_rfl) (by kernel_rfl) (by kernel_rfl) (fun _ _ _ h => h) (Or.inl ⟨by rfl, ?hr7_7⟩) hHeld ?rr7_7
  case hr7_7 =>
    intro wS hSw
    (try dsimp only at hSw)
    go_simp
    try with_reducible rfl
  case rr7_7 =>
  simp only [Act.put, List.setIfInBounds_toArray, List.set_cons_zero, List.set_cons_succ]
  refine wpAnyH_take (i := 9) (oi := { dst := some 13, op := Go.Op.move (Go.Operand.tmp 1), type := 2, pos := "l09_node.go:60", after := #[], guard := none }) (v := ?vr9_8) rfl (by kernel_rfl) (by kernel_rfl) (by kernel_rfl) (fun _ _ _ h => h) (Or.inl ⟨by rfl, ?hr9_8⟩) hHeld ?rr9_8
  case hr9_8 =>
    intro wS hSw
    (try dsimp only at hSw)
    go_simp
    try with_reducible rfl
  case rr9_8 =>
  simp only [Act.put, List.setIfInBounds_toArray, List.set_cons_zero, List.set_cons_succ]
  refine wpAnyH_ready (rs := [4, 8]) (by kernel_rfl) (by simp) ?_
  refine AllReadyH.cons (o := { dst := some 8, op := Go.Op.load 27 (Go.Operand.tmp 7), type := 27, pos := "l09_node.go:60", after := #[{ on := 3, ground := Go.Ground.data }], guard := none }) rfl (fun K hK => ?or4_9) (AllReadyH.cons (o := { dst := some 12, op := Go.Op.load 2 (Go.Operand.tmp 11), type := 2, pos := "l09_node.go:60", after := #[{ on := 7, ground := Go.Ground.data }], guard := none }) rfl (fun K hK => ?or8_9) (AllReadyH.nil))
  case or4_9 =>
    go_simp
    refine hK.out _ _ hHeld (fun hHeld => ?_)
    clear hK K
    try simp only [Act.put, List.setIfInBounds_toArray, List.set_cons_zero, List.set_cons_succ]
    refine wpAnyH_ready (rs := [8]) (by kernel_rfl) (by simp) ?_
    refine AllReadyH.cons (o := { dst := some 12, op := Go.Op.load 2 (Go.Operand.tmp 11), type := 2, pos := "l09_node.go:60", after := #[{ on := 7, ground := Go.Ground.data }], guard := none }) rfl (fun K hK => ?_) AllReadyH.nil
    go_simp
    refine hK.out _ _ hHeld (fun hHeld => ?_)
    clear hK K
    try simp only [Act.put, List.setIfInBounds_toArray, List.set_cons_zero, List.set_cons_succ]
    refine wpAnyH_take (i := 10) (oi := { dst := some 14, op := Go.Op.binOp Go.BinOp.add 2 (Go.Operand.tmp 12) (Go.Operand.tmp 13) 2, type := 2, pos := "l09_node.go:60", after := #[{ on := 8, ground := Go.Ground.data }, { on := 9, ground := Go.Ground.data }], guard := none }) (v := ?vr10_10) rfl (by kernel_rfl) (by kernel_rfl) (by kernel_rfl) (fun _ _ _ h => h) (Or.inl ⟨by rfl, ?hr10_10⟩) hHeld ?rr10_10
    case hr10_10 =>
      intro wS hSw
      have hst : (s : Int) + (k : Int) = (t : Int) := by omega
      have hwr : IntKind.i64.wrap (t : Int) = (t : Int) := by rw [IntKind.wrap_i64]; omega
      (try dsimp only at hSw)
      go_simp
      try with_reducible rfl
    case rr10_10 =>
    simp only [Act.put, List.setIfInBounds_toArray, List.set_cons_zero, List.set_cons_succ]
    refine wpAnyH_take (i := 11) (oi := { dst := some 15, op := Go.Op.slice 27 (Go.Operand.tmp 8) none (some (Go.Operand.tmp 14)) none, type := 27, pos := "l09_node.go:60", after := #[{ on := 4, ground := Go.Ground.data }, { on := 10, ground := Go.Ground.data }], guard := none }) (v := ?vr11_11) rfl (by kernel_rfl) (by kernel_rfl) (by kernel_rfl) (fun _ _ _ h => h) (Or.inl ⟨by rfl, ?hr11_11⟩) hHeld ?rr11_11
    case hr11_11 =>
      intro wS hSw
      have hst : (s : Int) + (k : Int) = (t : Int) := by omega
      have hwr : IntKind.i64.wrap (t : Int) = (t : Int) := by rw [IntKind.wrap_i64]; omega
      (try dsimp only at hSw)
      go_simp
      try with_reducible rfl
    case rr11_11 =>
    simp only [Act.put, List.setIfInBounds_toArray, List.set_cons_zero, List.set_cons_succ]
    refine wpAnyH_take (i := 12) (oi := { dst := some 16, op := Go.Op.nilCheck (Go.Operand.tmp 4), type := 0, pos := "l09_node.go:60", after := #[{ on := 0, ground := Go.Ground.data }, { on := 0, ground := Go.Ground.phase }, { on := 1, ground := Go.Ground.phase }, { on := 2, ground := Go.Ground.phase }, { on := 3, ground := Go.Ground.phase }, { on := 4, ground := Go.Ground.phase }, { on := 5, ground := Go.Ground.phase }, { on := 6, ground := Go.Ground.phase }, { on := 7, ground := Go.Ground.phase }, { on := 8, ground := Go.Ground.phase }, { on := 9, ground := Go.Ground.phase }, { on := 10, ground := Go.Ground.phase }, { on := 11, ground := Go.Ground.phase }], guard := none }) (v := ?vr12_12) rfl (by kernel_rfl) (by kernel_rfl) (by kernel_rfl) (fun _ _ _ h => h) (Or.inl ⟨by rfl, ?hr12_12⟩) hHeld ?rr12_12
    case hr12_12 =>
      intro wS hSw
      (try dsimp only at hSw)
      go_simp
      try with_reducible rfl
    case rr12_12 =>
    simp only [Act.put, List.setIfInBounds_toArray, List.set_cons_zero, List.set_cons_succ]
    refine wpAnyH_take (i := 13) (oi := { dst := some 17, op := Go.Op.fieldAddr 63 (Go.Operand.tmp 16) 0, type := 0, pos := "l09_node.go:60", after := #[{ on := 12, ground := Go.Ground.data }, { on := 0, ground := Go.Ground.phase }, { on := 1, ground := Go.Ground.phase }, { on := 2, ground := Go.Ground.phase }, { on := 3, ground := Go.Ground.phase }, { on := 4, ground := Go.Ground.phase }, { on := 5, ground := Go.Ground.phase }, { on := 6, ground := Go.Ground.phase }, { on := 7, ground := Go.Ground.phase }, { on := 8, ground := Go.Ground.phase }, { on := 9, ground := Go.Ground.phase }, { on := 10, ground := Go.Ground.phase }, { on := 11, ground := Go.Ground.phase }], guard := none }) (v := ?vr13_13) rfl (by kernel_rfl) (by kernel_rfl) (by kernel_rfl) (fun _ _ _ h => h) (Or.inl ⟨by rfl, ?hr13_13⟩) hHeld ?rr13_13
    case hr13_13 =>
      intro wS hSw
      (try dsimp only at hSw)
      go_simp
      try with_reducible rfl
    case rr13_13 =>
    simp only [Act.put, List.setIfInBounds_toArray, List.set_cons_zero, List.set_cons_succ]
    refine wpAnyH_ready (rs := [14]) (by kernel_rfl) (by simp) ?_
    refine AllReadyH.cons (o := { dst := none, op := Go.Op.store 27 (Go.Operand.tmp 17) (Go.Operand.tmp 15), type := 0, pos := "l09_node.go:60", after := #[{ on := 13, ground := Go.Ground.data }, { on := 11, ground := Go.Ground.data }, { on := 0, ground := Go.Ground.phase }, { on := 1, ground := Go.Ground.phase }, { on := 2, ground := Go.Ground.phase }, { on := 3, ground := Go.Ground.phase }, { on := 4, ground := Go.Ground.phase }, { on := 5, ground := Go.Ground.phase }, { on := 6, ground := Go.Ground.phase }, { on := 7, ground := Go.Ground.phase }, { on := 8, ground := Go.Ground.phase }, { on := 9, ground := Go.Ground.phase }, { on := 10, ground := Go.Ground.phase }, { on := 11, ground := Go.Ground.phase }], guard := none }) rfl (fun K hK => ?_) AllReadyH.nil
    go_simp
    refine hK.out _ _ (hHeld.setCell ⟨g, 0, none⟩ _ rfl) (fun hHeld => ?_)
    clear hK K
    try simp only [Act.put, List.setIfInBounds_toArray, List.set_cons_zero, List.set_cons_succ]
    refine wpAnyH_done (by kernel_rfl) ?_ _
    refine NoPanic.normal ?_
    have HE := hide hHeld
    have HL := hide (syncC g (some ⟨gw, 0, none⟩) t n ⟨x.id, x.up, x.epoch, x.lease, x.writes, (s : Int), x.clean⟩ (wD.setCell ⟨g, 0, none⟩ (.slice (some ⟨gw, 0, none⟩) t n)) (Box.set hHD 0 (.slice (some ⟨gw, 0, none⟩) t n)))
    clear hHeld hHD k0 k1 k6 kf kl
    go_wp2_with fail
    refine (unhide HL).mono ?_
    rintro e w3 ⟨rfl, hH3, hE3⟩
    have HE3 := hide ((unhide HE).trans hE3)
    have HH3 := hide hH3
    clear hH3 hE3 HL HE
    go_wp2_with fail
    refine bodyPost_end (v := .tuple #[]) (by simp [results, Try.results76, go_sem]) rfl ?_
    exact ⟨rfl, unhide HH3, unhide HE3⟩
  case or8_9 =>
    go_simp
    refine hK.out _ _ hHeld (fun hHeld => ?_)
    clear hK K
    try simp only [Act.put, List.setIfInBounds_toArray, List.set_cons_zero, List.set_cons_succ]
    refine wpAnyH_take (i := 10) (oi := { dst := some 14, op := Go.Op.binOp Go.BinOp.add 2 (Go.Operand.tmp 12) (Go.Operand.tmp 13) 2, type := 2, pos := "l09_node.go:60", after := #[{ on := 8, ground := Go.Ground.data }, { on := 9, ground := Go.Ground.data }], guard := none }) (v := ?vr10_14) rfl (by kernel_rfl) (by kernel_rfl) (by kernel_rfl) (fun _ _ _ h => h) (Or.inl ⟨by rfl, ?hr10_14⟩) hHeld ?rr10_14
    case hr10_14 =>
      intro wS hSw
      have hst : (s : Int) + (k : Int) = (t : Int) := by omega
      have hwr : IntKind.i64.wrap (t : Int) = (t : Int) := by rw [IntKind.wrap_i64]; omega
      (try dsimp only at hSw)
      go_simp
      try with_reducible rfl
    case rr10_14 =>
    simp only [Act.put, List.setIfInBounds_toArray, List.set_cons_zero, List.set_cons_succ]
    refine wpAnyH_ready (rs := [4]) (by kernel_rfl) (by simp) ?_
    refine AllReadyH.cons (o := { dst := some 8, op := Go.Op.load 27 (Go.Operand.tmp 7), type := 27, pos := "l09_node.go:60", after := #[{ on := 3, ground := Go.Ground.data }], guard := none }) rfl (fun K hK => ?_) AllReadyH.nil
    go_simp
    refine hK.out _ _ hHeld (fun hHeld => ?_)
    clear hK K
    try simp only [Act.put, List.setIfInBounds_toArray, List.set_cons_zero, List.set_cons_succ]
    refine wpAnyH_take (i := 11) (oi := { dst := some 15, op := Go.Op.slice 27 (Go.Operand.tmp 8) none (some (Go.Operand.tmp 14)) none, type := 27, pos := "l09_node.go:60", after := #[{ on := 4, ground := Go.Ground.data }, { on := 10, ground := Go.Ground.data }], guard := none }) (v := ?vr11_15) rfl (by kernel_rfl) (by kernel_rfl) (by kernel_rfl) (fun _ _ _ h => h) (Or.inl ⟨by rfl, ?hr11_15⟩) hHeld ?rr11_15
    case hr11_15 =>
      intro wS hSw
      have hst : (s : Int) + (k : Int) = (t : Int) := by omega
      have hwr : IntKind.i64.wrap (t : Int) = (t : Int) := by rw [IntKind.wrap_i64]; omega
      (try dsimp only at hSw)
      go_simp
      try with_reducible rfl
    case rr11_15 =>
    simp only [Act.put, List.setIfInBounds_toArray, List.set_cons_zero, List.set_cons_succ]
    refine wpAnyH_take (i := 12) (oi := { dst := some 16, op := Go.Op.nilCheck (Go.Operand.tmp 4), type := 0, pos := "l09_node.go:60", after := #[{ on := 0, ground := Go.Ground.data }, { on := 0, ground := Go.Ground.phase }, { on := 1, ground := Go.Ground.phase }, { on := 2, ground := Go.Ground.phase }, { on := 3, ground := Go.Ground.phase }, { on := 4, ground := Go.Ground.phase }, { on := 5, ground := Go.Ground.phase }, { on := 6, ground := Go.Ground.phase }, { on := 7, ground := Go.Ground.phase }, { on := 8, ground := Go.Ground.phase }, { on := 9, ground := Go.Ground.phase }, { on := 10, ground := Go.Ground.phase }, { on := 11, ground := Go.Ground.phase }], guard := none }) (v := ?vr12_16) rfl (by kernel_rfl) (by kernel_rfl) (by kernel_rfl) (fun _ _ _ h => h) (Or.inl ⟨by rfl, ?hr12_16⟩) hHeld ?rr12_16
    case hr12_16 =>
      intro wS hSw
      (try dsimp only at hSw)
      go_simp
      try with_reducible rfl
    case rr12_16 =>
    simp only [Act.put, List.setIfInBounds_toArray, List.set_cons_zero, List.set_cons_succ]
    refine wpAnyH_take (i := 13) (oi := { dst := some 17, op := Go.Op.fieldAddr 63 (Go.Operand.tmp 16) 0, type := 0, pos := "l09_node.go:60", after := #[{ on := 12, ground := Go.Ground.data }, { on := 0, ground := Go.Ground.phase }, { on := 1, ground := Go.Ground.phase }, { on := 2, ground := Go.Ground.phase }, { on := 3, ground := Go.Ground.phase }, { on := 4, ground := Go.Ground.phase }, { on := 5, ground := Go.Ground.phase }, { on := 6, ground := Go.Ground.phase }, { on := 7, ground := Go.Ground.phase }, { on := 8, ground := Go.Ground.phase }, { on := 9, ground := Go.Ground.phase }, { on := 10, ground := Go.Ground.phase }, { on := 11, ground := Go.Ground.phase }], guard := none }) (v := ?vr13_17) rfl (by kernel_rfl) (by kernel_rfl) (by kernel_rfl) (fun _ _ _ h => h) (Or.inl ⟨by rfl, ?hr13_17⟩) hHeld ?rr13_17
    case hr13_17 =>
      intro wS hSw
      (try dsimp only at hSw)
      go_simp
      try with_reducible rfl
    case rr13_17 =>
    simp only [Act.put, List.setIfInBounds_toArray, List.set_cons_zero, List.set_cons_succ]
    refine wpAnyH_ready (rs := [14]) (by kernel_rfl) (by simp) ?_
    refine AllReadyH.cons (o := { dst := none, op := Go.Op.store 27 (Go.Operand.tmp 17) (Go.Operand.tmp 15), type := 0, pos := "l09_node.go:60", after := #[{ on := 13, ground := Go.Ground.data }, { on := 11, ground := Go.Ground.data }, { on := 0, ground := Go.Ground.phase }, { on := 1, ground := Go.Ground.phase }, { on := 2, ground := Go.Ground.phase }, { on := 3, ground := Go.Ground.phase }, { on := 4, ground := Go.Ground.phase }, { on := 5, ground := Go.Ground.phase }, { on := 6, ground := Go.Ground.phase }, { on := 7, ground := Go.Ground.phase }, { on := 8, ground := Go.Ground.phase }, { on := 9, ground := Go.Ground.phase }, { on := 10, ground := Go.Ground.phase }, { on := 11, ground := Go.Ground.phase }], guard := none }) rfl (fun K hK => ?_) AllReadyH.nil
    go_simp
    refine hK.out _ _ (hHeld.setCell ⟨g, 0, none⟩ _ rfl) (fun hHeld => ?_)
    clear hK K
    try simp only [Act.put, List.setIfInBounds_toArray, List.set_cons_zero, List.set_cons_succ]
    refine wpAnyH_done (by kernel_rfl) ?_ _
    refine NoPanic.normal ?_
    have HE := hide hHeld
    have HL := hide (syncC g (some ⟨gw, 0, none⟩) t n ⟨x.id, x.up, x.epoch, x.lease, x.writes, (s : Int), x.clean⟩ (wD.setCell ⟨g, 0, none⟩ (.slice (some ⟨gw, 0, none⟩) t n)) (Box.set hHD 0 (.slice (some ⟨gw, 0, none⟩) t n)))
    clear hHeld hHD k0 k1 k6 kf kl
    go_wp2_with fail
    refine (unhide HL).mono ?_
    rintro e w3 ⟨rfl, hH3, hE3⟩
    have HE3 := hide ((unhide HE).trans hE3)
    have HH3 := hide hH3
    clear hH3 hE3 HL HE
    go_wp2_with fail
    refine bodyPost_end (v := .tuple #[]) (by simp [results, Try.results76, go_sem]) rfl ?_
    exact ⟨rfl, unhide HH3, unhide HE3⟩
set_option maxRecDepth 10000 in
set_option maxHeartbeats 2000000 in
theorem crashC (g gw n s k t : Nat) (x : DNode) (w : World) (h : HeldAt w g (.slice (some ⟨gw, 0, none⟩) n n) ⟨x.id, x.up, x.epoch, x.lease, x.writes, (s : Int), x.clean⟩) (h1 : t ≤ s + k) (h2 : s + k ≤ t) (hk : t ≤ n) (hn : n ≤ 1000) :
    Calls Try.prog 57 #[.pointer (some ⟨g, 0, none⟩), .int .i64 (k : Int)] w fun e w' => e = .returned (.tuple #[]) ∧ HeldAt w' g (.slice (some ⟨gw, 0, none⟩) t n) ⟨x.id, false, x.epoch, 0, x.writes, (t : Int), 0⟩ ∧ Ext (fun q => q = g) w w' := by
  have HL := hide (tearC g gw n s k t x w h h1 h2 hk hn)
  clear h
  go_enter Try.func57, Try.ntmps57
  go_wp2_with fail
  refine (unhide HL).mono ?_
  rintro e w3 ⟨rfl, hH3, hE3⟩
  have k3 := Box.at hH3 3 _ rfl
  have k5 := Box.at hH3 5 _ rfl
  have k6 := Box.at hH3 6 _ rfl
  have kf := Box.soft hH3
  have kl := Box.lt hH3
  simp only [List.getElem_toArray, List.getElem_cons_zero, List.getElem_cons_succ] at k3 k5 k6
  have HH9 : Hid (HeldAt (((w3.setCell ⟨g, 3, none⟩ (.bool false)).setCell ⟨g, 6, none⟩ (.int .i64 0)).setCell ⟨g, 5, none⟩ (.int .i64 0)) g (.slice (some ⟨gw, 0, none⟩) t n) ⟨x.id, false, x.epoch, 0, x.writes, (t : Int), 0⟩) := ((Box.set hH3 3 (.bool false)).set 6 (.int .i64 0)).set 5 (.int .i64 0)
  have HE9 : Hid (Ext (fun q => q = g) w (((w3.setCell ⟨g, 3, none⟩ (.bool false)).setCell ⟨g, 6, none⟩ (.int .i64 0)).setCell ⟨g, 5, none⟩ (.int .i64 0))) := ((hE3.setCell ⟨g, 3, none⟩ _ rfl).setCell ⟨g, 6, none⟩ _ rfl).setCell ⟨g, 5, none⟩ _ rfl
  clear hH3 hE3 HL
  go_wp2_with fail
  refine bodyPost_end (v := .tuple #[]) (by simp [results, Try.results57, go_sem]) rfl ?_
  exact ⟨rfl, unhide HH9, unhide HE9⟩
end Go.Proofs.Ytbogjepkdcknfaa

namespace Go.Proofs.Ytbogjepkdcknfaa
open Go.RowKit

theorem vcnt_Node (x : DNode) : Lay.tNode.vcnt x = (Lay.sl Lay.tWrite).vcnt x.writes := by
  show 0 + (0 + (0 + (0 + ((Lay.sl Lay.tWrite).vcnt x.writes + (0 + (0)))))) = (Lay.sl Lay.tWrite).vcnt x.writes
  omega
theorem mkv_Node (k : Int) (x : DNode) : Lay.tNode.mkv k x = ⟨x.id, x.up, x.epoch, x.lease, (Lay.sl Lay.tWrite).mkv (k) x.writes, x.sure, x.clean⟩ := by
  simp [Lay.tNode, Lay.via, Lay.pair, Lay.int, Lay.bool]
theorem own_Node {w : World} {cs : List Value} {x : DNode} {bl : List Nat} (h : Lay.tNode.Own w cs x bl) : ∃ (a4 : Option Addr) (d4 : Nat) (g4 : List Nat), cs = [.int .i64 x.id, .bool x.up, .int .i64 x.epoch, .int .i64 x.lease, .slice a4 x.writes.length d4, .int .i64 x.sure, .int .i64 x.clean] ∧ bl = g4 ∧ (Lay.sl Lay.tWrite).Own w [.slice a4 x.writes.length d4] x.writes g4 ∧ (Lit.int .i64 x.id).wf = true ∧ (Lit.int .i64 x.epoch).wf = true ∧ (Lit.int .i64 x.lease).wf = true ∧ (Lit.int .i64 x.sure).wf = true ∧ (Lit.int .i64 x.clean).wf = true := by
  obtain ⟨hl, hn, hf⟩ := h
  obtain ⟨a4, d4, b4, rfl, hbl, w0, w2, w3, l4, w5, w6⟩ := lies_Node.1 hl
  rw [hbl] at hn hf
  exact ⟨a4, d4, b4, rfl, hbl, ⟨l4, hn, hf⟩, w0, w2, w3, w5, w6⟩
theorem mkOwn_Node {w : World} {x : DNode} {c4 : List Value} {g4 : List Nat} (O4 : (Lay.sl Lay.tWrite).Own w c4 x.writes g4) (v0 : (Lit.int .i64 x.id).wf = true) (v2 : (Lit.int .i64 x.epoch).wf = true) (v3 : (Lit.int .i64 x.lease).wf = true) (v5 : (Lit.int .i64 x.sure).wf = true) (v6 : (Lit.int .i64 x.clean).wf = true) (hn : (g4).Nodup) : Lay.tNode.Own w ([.int .i64 x.id] ++ ([.bool x.up] ++ ([.int .i64 x.epoch] ++ ([.int .i64 x.lease] ++ (c4 ++ ([.int .i64 x.sure] ++ ([.int .i64 x.clean]))))))) x (g4) := by
  refine ⟨⟨[.int .i64 x.id], [.bool x.up] ++ ([.int .i64 x.epoch] ++ ([.int .i64 x.lease] ++ (c4 ++ ([.int .i64 x.sure] ++ ([.int .i64 x.clean]))))), [], [] ++ ([] ++ ([] ++ (g4 ++ ([] ++ [])))), rfl, by simp, ⟨rfl, v0, rfl⟩, ⟨[.bool x.up], [.int .i64 x.epoch] ++ ([.int .i64 x.lease] ++ (c4 ++ ([.int .i64 x.sure] ++ ([.int .i64 x.clean])))), [], [] ++ ([] ++ (g4 ++ ([] ++ []))), rfl, rfl, ⟨rfl, rfl⟩, ⟨[.int .i64 x.epoch], [.int .i64 x.lease] ++ (c4 ++ ([.int .i64 x.sure] ++ ([.int .i64 x.clean]))), [], [] ++ (g4 ++ ([] ++ [])), rfl, rfl, ⟨rfl, v2, rfl⟩, ⟨[.int .i64 x.lease], c4 ++ ([.int .i64 x.sure] ++ ([.int .i64 x.clean])), [], g4 ++ ([] ++ []), rfl, rfl, ⟨rfl, v3, rfl⟩, ⟨c4, [.int .i64 x.sure] ++ ([.int .i64 x.clean]), g4, [] ++ [], rfl, rfl, O4.1, ⟨[.int .i64 x.sure], [.int .i64 x.clean], [], [], rfl, rfl, ⟨rfl, v5, rfl⟩, ⟨rfl, v6, rfl⟩⟩⟩⟩⟩⟩⟩, hn, ?_⟩
  intro b hb o
  exact O4.2.2 b hb o

end Go.Proofs.Ytbogjepkdcknfaa

namespace Go.Proofs.Ytbogjepkdcknfaa
open Go.RowKit

theorem vcnt_NodeResult (x : DNodeResult) : Lay.tNodeResult.vcnt x = Lay.tNode.vcnt x.node := by
  show 0 + (0 + (Lay.tNode.vcnt x.node)) = Lay.tNode.vcnt x.node
  omega
theorem mkv_NodeResult (k : Int) (x : DNodeResult) : Lay.tNodeResult.mkv k x = ⟨x.code, x.place, Lay.tNode.mkv (k) x.node⟩ := by
  simp [Lay.tNodeResult, Lay.via, Lay.pair, Lay.int]
theorem own_NodeResult {w : World} {cs : List Value} {x : DNodeResult} {bl : List Nat} (h : Lay.tNodeResult.Own w cs x bl) : ∃ (a6 : Option Addr) (d6 : Nat) (g2 : List Nat), cs = [.int .i64 x.code, .int .i64 x.place, .int .i64 x.node.id, .bool x.node.up, .int .i64 x.node.epoch, .int .i64 x.node.lease, .slice a6 x.node.writes.length d6, .int .i64 x.node.sure, .int .i64 x.node.clean] ∧ bl = g2 ∧ Lay.tNode.Own w [.int .i64 x.node.id, .bool x.node.up, .int .i64 x.node.epoch, .int .i64 x.node.lease, .slice a6 x.node.writes.length d6, .int .i64 x.node.sure, .int .i64 x.node.clean] x.node g2 ∧ (Lit.int .i64 x.code).wf = true ∧ (Lit.int .i64 x.place).wf = true := by
  obtain ⟨hl, hn, hf⟩ := h
  obtain ⟨a6, d6, b6, rfl, hbl, w0, w1, w2, w4, w5, l6, w7, w8⟩ := lies_NodeResult.1 hl
  rw [hbl] at hn hf
  exact ⟨a6, d6, b6, rfl, hbl, ⟨lies_Node.2 ⟨a6, d6, b6, rfl, rfl, w2, w4, w5, l6, w7, w8⟩, hn, hf⟩, w0, w1⟩
theorem mkOwn_NodeResult {w : World} {x : DNodeResult} {c2 : List Value} {g2 : List Nat} (O2 : Lay.tNode.Own w c2 x.node g2) (v0 : (Lit.int .i64 x.code).wf = true) (v1 : (Lit.int .i64 x.place).wf = true) (hn : (g2).Nodup) : Lay.tNodeResult.Own w ([.int .i64 x.code] ++ ([.int .i64 x.place] ++ c2)) x (g2) := by
  refine ⟨⟨[.int .i64 x.code], [.int .i64 x.place] ++ c2, [], [] ++ g2, rfl, by simp, ⟨rfl, v0, rfl⟩, ⟨[.int .i64 x.place], c2, [], g2, rfl, rfl, ⟨rfl, v1, rfl⟩, O2.1⟩⟩, hn, ?_⟩
  intro b hb o
  exact O2.2.2 b hb o

end Go.Proofs.Ytbogjepkdcknfaa

namespace Go.Proofs.Ytbogjepkdcknfaa
open Go.RowKit


theorem own_nodeR {w : World} {c n : Int} {v : Value} {x : DNode} {lo hi : Nat} (hc : -1000000000 ≤ c ∧ c ≤ 1000000000) (hn : -1000000000 ≤ n ∧ n ≤ 1000000000) (h : (Lay.sl Lay.tWrite).OwnIn w [v] x.writes lo hi)
    (b0 : -1000000000 ≤ x.id ∧ x.id ≤ 1000000000) (b2 : -1000000000 ≤ x.epoch ∧ x.epoch ≤ 1000000000) (b3 : -1000000000 ≤ x.lease ∧ x.lease ≤ 1000000000) (b5 : -1000000000 ≤ x.sure ∧ x.sure ≤ 1000000000) (b6 : -1000000000 ≤ x.clean ∧ x.clean ≤ 1000000000) :
    Lay.tNodeResult.OwnIn w [.int .i64 c, .int .i64 n, .int .i64 x.id, .bool x.up, .int .i64 x.epoch, .int .i64 x.lease, v, .int .i64 x.sure, .int .i64 x.clean] ⟨c, n, x⟩ lo hi := by
  obtain ⟨bl, O, i⟩ := h
  exact ⟨bl, mkOwn_NodeResult (x := ⟨c, n, x⟩) (mkOwn_Node O (wf_of_bd b0) (wf_of_bd b2) (wf_of_bd b3) (wf_of_bd b5) (wf_of_bd b6) O.2.1) (wf_of_bd hc) (wf_of_bd hn) O.2.1, i⟩
theorem lies_nodeR {w : World} {c n : Int} {a : Option Addr} {m d : Nat} {x : DNode} {lo hi : Nat} (hc : -1000000000 ≤ c ∧ c ≤ 1000000000) (hn : -1000000000 ≤ n ∧ n ≤ 1000000000) (h : (Lay.sl Lay.tWrite).LiesIn w [.slice a m d] x.writes lo hi)
    (b0 : -1000000000 ≤ x.id ∧ x.id ≤ 1000000000) (b2 : -1000000000 ≤ x.epoch ∧ x.epoch ≤ 1000000000) (b3 : -1000000000 ≤ x.lease ∧ x.lease ≤ 1000000000) (b5 : -1000000000 ≤ x.sure ∧ x.sure ≤ 1000000000) (b6 : -1000000000 ≤ x.clean ∧ x.clean ≤ 1000000000) :
    Lay.tNodeResult.LiesIn w [.int .i64 c, .int .i64 n, .int .i64 x.id, .bool x.up, .int .i64 x.epoch, .int .i64 x.lease, .slice a m d, .int .i64 x.sure, .int .i64 x.clean] ⟨c, n, x⟩ lo hi := by
  obtain ⟨bl, l, i⟩ := h
  have hm : m = x.writes.length := (Lay.Reads.cap ⟨bl, l⟩).1
  subst hm
  exact ⟨bl, lies_NodeResult.2 ⟨a, d, bl, rfl, rfl, wf_of_bd hc, wf_of_bd hn, wf_of_bd b0, wf_of_bd b2, wf_of_bd b3, l, wf_of_bd b5, wf_of_bd b6⟩, i⟩
theorem own_badNode {w : World} {c : Int} {lo hi : Nat} (hc : -1000000000 ≤ c ∧ c ≤ 1000000000) : Lay.tNodeResult.OwnIn w [.int .i64 c, .int .i64 0, .int .i64 0, .bool false, .int .i64 0, .int .i64 0, .slice none 0 0, .int .i64 0, .int .i64 0] (badNode c) lo hi :=
  own_nodeR (x := noNode) hc (by decide) nil_own (by decide) (by decide) (by decide) (by decide) (by decide)
theorem askedN_bd (x : DNode) : -1000000000 ≤ askedN x ∧ askedN x ≤ 1000000000 := by
  have := nodeFault_vals x
  unfold askedN
  split
  · split <;> omega
  · omega
theorem sl_take_own {α : Type} {A : Lay α} {w : World} {xs : List α} {b off cap n lo hi : Nat} (h : (Lay.sl A).OwnIn w [.slice (some ⟨b, off, none⟩) n cap] xs lo hi) (k : Nat) (hk : k ≤ xs.length) : (Lay.sl A).OwnIn w [.slice (some ⟨b, off, none⟩) k cap] (xs.take k) lo hi := by
  have hl : (xs.take k).length = k := by rw [List.length_take]; omega
  obtain ⟨bl, ⟨⟨ao, cap', he, ⟨h1, h2⟩, hor⟩, hnd, hfz⟩, hr⟩ := h
  simp only [List.cons.injEq, Value.slice.injEq, and_true] at he
  obtain ⟨rfl, rfl, rfl⟩ := he
  rcases hor with ⟨rfl, -⟩ | ⟨b', off', rows, bls, he, hb, rfl, n1, n2, hj⟩
  · obtain rfl : k = 0 := by simpa using hk
    exact ⟨[], ⟨⟨_, _, rfl, ⟨by simp, by simp⟩, Or.inl ⟨rfl, rfl⟩⟩, by simp, by simp⟩, by simp⟩
  · simp only [Option.some.injEq, Addr.mk.injEq, and_true] at he
    obtain ⟨rfl, rfl⟩ := he
    have hsub : ∀ c ∈ b :: (bls.take k).flatten, c ∈ b :: bls.flatten := by
      intro c hc
      rcases List.mem_cons.1 hc with rfl | hc
      · simp
      · obtain ⟨l, h3, h4⟩ := List.mem_flatten.1 hc
        exact List.mem_cons_of_mem _ (List.mem_flatten.2 ⟨l, List.mem_of_mem_take h3, h4⟩)
    refine ⟨b :: (bls.take k).flatten, ⟨⟨_, _, by rw [hl], ⟨by omega, by omega⟩, Or.inr ⟨b, off, rows.take k, bls.take k, rfl, hb, rfl, by simp [n1], by simp [n2], fun j q1 q2 q3 => ?_⟩⟩, ?_, fun c hc => hfz c (hsub c hc)⟩, fun c hc => hr c (hsub c hc)⟩
    · simp only [List.getElem_take]
      rw [List.length_take] at q1 q2 q3
      exact hj j (by omega) (by omega) (by omega)
    · refine List.Nodup.sublist ?_ hnd
      refine List.Sublist.cons_cons _ ?_
      conv => rhs; rw [← List.take_append_drop k bls]
      rw [List.flatten_append]
      exact List.sublist_append_left _ _
theorem box_set7 {lo : Nat} {T : TypeId} {W : World} {s : Nat} {c0 c1 c2 c3 c4 c5 c6 : Value} (h : Box lo #[c0, c1, c2, c3, c4, c5, c6] T W s) (v0 v1 v2 v3 v4 v5 v6 : Value) : Box lo #[v0, v1, v2, v3, v4, v5, v6] T (((((((W.setCell ⟨s, 0, none⟩ v0).setCell ⟨s, 1, none⟩ v1).setCell ⟨s, 2, none⟩ v2).setCell ⟨s, 3, none⟩ v3).setCell ⟨s, 4, none⟩ v4).setCell ⟨s, 5, none⟩ v5).setCell ⟨s, 6, none⟩ v6) s := by
  have q := (Box.set (Box.set (Box.set (Box.set (Box.set (Box.set (Box.set h 0 v0) 1 v1) 2 v2) 3 v3) 4 v4) 5 v5) 6 v6)
  simp only [List.setIfInBounds_toArray, List.set_cons_zero, List.set_cons_succ] at q
  exact q
theorem box_set9 {lo : Nat} {T : TypeId} {W : World} {s : Nat} {c0 c1 c2 c3 c4 c5 c6 c7 c8 : Value} (h : Box lo #[c0, c1, c2, c3, c4, c5, c6, c7, c8] T W s) (v0 v1 v2 v3 v4 v5 v6 v7 v8 : Value) : Box lo #[v0, v1, v2, v3, v4, v5, v6, v7, v8] T (((((((((W.setCell ⟨s, 0, none⟩ v0).setCell ⟨s, 1, none⟩ v1).setCell ⟨s, 2, none⟩ v2).setCell ⟨s, 3, none⟩ v3).setCell ⟨s, 4, none⟩ v4).setCell ⟨s, 5, none⟩ v5).setCell ⟨s, 6, none⟩ v6).setCell ⟨s, 7, none⟩ v7).setCell ⟨s, 8, none⟩ v8) s := by
  have q := (Box.set (Box.set (Box.set (Box.set (Box.set (Box.set (Box.set (Box.set (Box.set h 0 v0) 1 v1) 2 v2) 3 v3) 4 v4) 5 v5) 6 v6) 7 v7) 8 v8)
  simp only [List.setIfInBounds_toArray, List.set_cons_zero, List.set_cons_succ] at q
  exact q
theorem sl_take_lies {α : Type} {A : Lay α} {w : World} {xs : List α} {a : Option Addr} {cap n lo hi : Nat} (h : (Lay.sl A).LiesIn w [.slice a n cap] xs lo hi) (k : Nat) (hk : k ≤ xs.length) : (Lay.sl A).LiesIn w [.slice a k cap] (xs.take k) lo hi := by
  have hl : (xs.take k).length = k := by rw [List.length_take]; omega
  obtain ⟨bl, ⟨ao, cap', he, ⟨h1, h2⟩, hor⟩, hr⟩ := h
  simp only [List.cons.injEq, Value.slice.injEq, and_true] at he
  obtain ⟨rfl, rfl, rfl⟩ := he
  rcases hor with ⟨rfl, -⟩ | ⟨b', off', rows, bls, rfl, hb, rfl, n1, n2, hj⟩
  · obtain rfl : k = 0 := by simpa using hk
    exact ⟨[], ⟨_, _, rfl, ⟨by simp, by simp⟩, Or.inl ⟨rfl, rfl⟩⟩, by simp⟩
  · refine ⟨b' :: (bls.take k).flatten, ⟨_, _, by rw [hl], ⟨by omega, by omega⟩, Or.inr ⟨b', off', rows.take k, bls.take k, rfl, hb, rfl, by simp [n1], by simp [n2], fun j q1 q2 q3 => ?_⟩⟩, fun c hc => hr c ?_⟩
    · simp only [List.getElem_take]
      rw [List.length_take] at q1 q2 q3
      exact hj j (by omega) (by omega) (by omega)
    · rcases List.mem_cons.1 hc with rfl | hc
      · simp
      · obtain ⟨l, h3, h4⟩ := List.mem_flatten.1 hc
        exact List.mem_cons_of_mem _ (List.mem_flatten.2 ⟨l, List.mem_of_mem_take h3, h4⟩)
end Go.Proofs.Ytbogjepkdcknfaa

namespace Go.Proofs.Ytbogjepkdcknfaa
open Go.RowKit

theorem sl_drop_reads {α : Type} {A : Lay α} {w : World} {xs : List α} {b off cap n : Nat} (h : (Lay.sl A).Reads w [.slice (some ⟨b, off, none⟩) n cap] xs) (k : Nat) (hk : k ≤ n) : (Lay.sl A).Reads w [.slice (some ⟨b, off + k * A.n, none⟩) (n - k) (cap - k)] (xs.drop k) := by
  obtain ⟨bl, ao, cap', he, ⟨h1, h2⟩, hor⟩ := h
  simp only [List.cons.injEq, Value.slice.injEq, and_true] at he
  obtain ⟨rfl, rfl, rfl⟩ := he
  have hl : (xs.drop k).length = xs.length - k := List.length_drop
  rcases hor with ⟨rfl, -⟩ | ⟨b', off', rows, bls, he, hb, rfl, n1, n2, hj⟩
  · obtain rfl : k = 0 := by simpa using hk
    exact ⟨[], _, _, rfl, ⟨by simp, by simp⟩, Or.inl ⟨by simp, rfl⟩⟩
  · simp only [Option.some.injEq, Addr.mk.injEq, and_true] at he
    obtain ⟨rfl, rfl⟩ := he
    refine ⟨b :: (bls.drop k).flatten, _, _, by rw [hl], ⟨by omega, by omega⟩, Or.inr ⟨b, off + k * A.n, rows.drop k, bls.drop k, rfl, hb, rfl, by simp [n1], by simp [n2], fun j q1 q2 q3 => ?_⟩⟩
    simp only [List.getElem_drop]
    rw [List.length_drop] at q1 q2 q3
    have := hj (k + j) (by omega) (by omega) (by omega)
    refine ⟨fun m hm => ?_, this.2⟩
    rw [← this.1 m hm, Nat.add_mul, Nat.add_assoc off]

set_option maxRecDepth 10000 in
set_option maxHeartbeats 1000000 in
theorem dirty1C (row : List Value) (y : DWrite) (bi : Nat) (id : Int) (w : World) (h : Lay.tWrite.Reads w row y) (hi : w.cell? ⟨bi, 0, none⟩ = some (.int .i64 id)) :
    Calls Try.prog 79 #[.agg row.toArray, .pointer (some ⟨bi, 0, none⟩)] w fun e w' => e = .returned (.bool (y.id == id)) ∧ Below w.heap.size w w' := by
  obtain ⟨a2, d2, rfl, -⟩ := open_Write h
  have hlt := World.block_lt_of_cell? _ _ hi
  have HB := hide ((Below.refl w.heap.size w).alloc (Nat.le_refl _) (.cells #[.int .i64 y.kind, .int .i64 y.id, .slice a2 y.vec.length d2, .int .i64 y.session, .int .i64 y.seq] 83))
  clear h
  go_enter Try.func79, Try.ntmps79
  go_wp2_with fail
  go_ret
  exact ⟨rfl, unhide HB⟩

theorem any_at {ws : List DWrite} {id : Int} (k : Nat) (hk : k < ws.length) (h : (ws[k].id == id) = true) : (ws.any fun y => y.id == id) = true := by
  rw [List.any_eq_true]
  exact ⟨ws[k], List.getElem_mem _, h⟩
theorem any_none {ws : List DWrite} {id : Int} (h : ∀ j (hj : j < ws.length), (ws[j].id == id) = false) : (ws.any fun y => y.id == id) = false := by
  rw [List.any_eq_false]
  intro y hy
  obtain ⟨j, hj, rfl⟩ := List.getElem_of_mem hy
  rw [h j hj]
  simp

set_option maxRecDepth 100000 in
set_option maxHeartbeats 2000000 in
theorem indexC (v : Value) (ws : List DWrite) (bi : Nat) (id : Int) (w : World) (h : (Lay.sl Lay.tWrite).Reads w [v] ws) (hn : ws.length ≤ 1000) (hi : w.cell? ⟨bi, 0, none⟩ = some (.int .i64 id)) :
    Calls Try.prog 94 #[v, .func (.func 79) #[] #[.pointer (some ⟨bi, 0, none⟩)]] w fun e w' => ∃ n : Int, e = .returned (.int .i64 n) ∧ decide (0 ≤ n) = (ws.any fun y => y.id == id) ∧ Below w.heap.size w w' := by
  obtain ⟨ao, cap, rfl⟩ := open_sl h
  have H := hide h
  have hil := World.block_lt_of_cell? _ _ hi
  have HI := hide hi
  clear h hi
  go_enter Try.func94, Try.ntmps94
  go_wp2_with fail
  go_loopw [8] (fun i wr => ∃ k : Nat, k ≤ ws.length ∧ i = .int .i64 k ∧ (∀ j (hj : j < ws.length), j < k → (ws[j].id == id) = false) ∧ Below w.heap.size w wr) (fun i _ => ws.length - (intOf i).toNat)
  case atStart => exact ⟨0, Nat.zero_le _, rfl, fun j _ hj => by omega, Below.refl _ _⟩
  case round =>
    obtain ⟨k, hk, rfl, hz, hB⟩ := hrel
    by_cases hlt : k < ws.length
    · obtain ⟨b, off, rfl, hbl⟩ := Lay.sl_addr (unhide H) (by omega)
      obtain ⟨row, hc, hr⟩ := Lay.row_at (unhide H) hlt
      replace hr := hr.later hB
      have hr2 := hr
      obtain ⟨a2, d2, rfl, -⟩ := open_Write hr2
      have c0 : wr.cell? ⟨b, off + k * 5, none⟩ = some (.int .i64 (ws[k]).kind) := (hB.cell (p := ⟨b, off + k * 5, none⟩) hbl).trans (hc 0 (by decide))
      have c1 : wr.cell? ⟨b, off + k * 5 + 1, none⟩ = some (.int .i64 (ws[k]).id) := (hB.cell (p := ⟨b, off + k * 5 + 1, none⟩) hbl).trans (hc 1 (by decide))
      have c2 : wr.cell? ⟨b, off + k * 5 + 2, none⟩ = some (.slice a2 (ws[k]).vec.length d2) := (hB.cell (p := ⟨b, off + k * 5 + 2, none⟩) hbl).trans (hc 2 (by decide))
      have c3 : wr.cell? ⟨b, off + k * 5 + 3, none⟩ = some (.int .i64 (ws[k]).session) := (hB.cell (p := ⟨b, off + k * 5 + 3, none⟩) hbl).trans (hc 3 (by decide))
      have c4 : wr.cell? ⟨b, off + k * 5 + 4, none⟩ = some (.int .i64 (ws[k]).seq) := (hB.cell (p := ⟨b, off + k * 5 + 4, none⟩) hbl).trans (hc 4 (by decide))
      have HZ := hide hz
      have HAN : Hid ((ws[k].id == id) = true → (ws.any fun y => y.id == id) = true) := fun q => any_at k hlt q
      have HZ2 : Hid ((ws[k].id == id) = false → ∀ j (hj : j < ws.length), j < k + 1 → (ws[j].id == id) = false) := by
        intro h0 j hj hjk
        by_cases hjk2 : j < k
        · exact unhide HZ j hj hjk2
        · obtain rfl : j = k := by omega
          exact h0
      clear hc hz HZ hr2
      generalize hx : ws[k] = y at *
      clear hx
      have hbr : b < wr.heap.size := Nat.lt_of_lt_of_le hbl hB.size
      have HL := hide (dirty1C _ y bi id wr hr ((hB.cell (p := ⟨bi, 0, none⟩) hil).trans (unhide HI)))
      have HB := hide hB
      clear hr hB
      go_wp2_with fail
      refine (unhide HL).mono ?_
      rintro e w2 ⟨rfl, hb⟩
      have HB2 := hide ((unhide HB).trans (hb.mono (unhide HB).size))
      clear hb HL HB
      cases hq : (y.id == id)
      · have HZ3 := hide (unhide HZ2 hq)
        clear hq HZ2 HAN c0 c1 c2 c3 c4
        go_wp2_with fail
        go_roundw
        case rel => exact ⟨k + 1, by omega, by go_num, unhide HZ3, unhide HB2⟩
        case measure => simp [intOf]; omega
      · have HA := hide (unhide HAN hq)
        clear hq HZ2 HAN c0 c1 c2 c3 c4
        go_wp2_with fail
        go_ret
        exact ⟨(k : Int), rfl, by rw [unhide HA]; simp, unhide HB2⟩
    · obtain rfl : k = ws.length := by omega
      have HA := hide (any_none (fun j hj => hz j hj hj))
      have HB := hide hB
      clear hB hz
      go_wp2_with fail
      go_ret
      exact ⟨-1, rfl, by rw [unhide HA]; rfl, unhide HB⟩

set_option maxRecDepth 10000 in
set_option maxHeartbeats 1000000 in
theorem containsC (v : Value) (ws : List DWrite) (bi : Nat) (id : Int) (w : World) (h : (Lay.sl Lay.tWrite).Reads w [v] ws) (hn : ws.length ≤ 1000) (hi : w.cell? ⟨bi, 0, none⟩ = some (.int .i64 id)) :
    Calls Try.prog 78 #[v, .func (.func 79) #[] #[.pointer (some ⟨bi, 0, none⟩)]] w fun e w' => e = .returned (.bool (ws.any fun y => y.id == id)) ∧ Below w.heap.size w w' := by
  have HL := hide (indexC v ws bi id w h hn hi)
  obtain ⟨ao, cap, rfl⟩ := open_sl h
  clear h hi
  go_enter Try.func78, Try.ntmps78
  go_wp2_with fail
  refine (unhide HL).mono ?_
  rintro e w1 ⟨n, rfl, hq, hb⟩
  have HB := hide hb
  have HQ := hide hq
  clear hb hq HL
  cases hd : decide (0 ≤ n)
  · have HQ2 : Hid ((ws.any fun y => y.id == id) = false) := (unhide HQ).symm.trans hd
    go_wp2_with fail
    go_ret
    exact ⟨by rw [unhide HQ2]; rfl, unhide HB⟩
  · have HQ2 : Hid ((ws.any fun y => y.id == id) = true) := (unhide HQ).symm.trans hd
    go_wp2_with fail
    go_ret
    exact ⟨by rw [unhide HQ2]; rfl, unhide HB⟩

set_option maxRecDepth 10000 in
set_option maxHeartbeats 2000000 in
theorem isDirtyC (g gw c : Nat) (x : DNode) (id : Int) (w : World) (h : HeldAt w g (.slice (some ⟨gw, 0, none⟩) x.writes.length x.writes.length) ⟨x.id, x.up, x.epoch, x.lease, x.writes, x.sure, (c : Int)⟩) (R : (Lay.sl Lay.tWrite).Reads w [.slice (some ⟨gw, 0, none⟩) x.writes.length x.writes.length] x.writes) (hn : x.writes.length ≤ 40) (hc : c ≤ x.writes.length) :
    Calls Try.prog 60 #[.pointer (some ⟨g, 0, none⟩), .int .i64 id] w fun e w' => e = .returned (.bool ((x.writes.drop c).any fun y => y.id == id)) ∧ Below w.heap.size w w' := by
  have nb : Below w.heap.size w (w.alloc (.cells #[.int .i64 id] 2)) := (Below.refl _ _).alloc (Nat.le_refl _) _
  have k0 := Box.at h 0 _ rfl
  have k6 := Box.at h 6 _ rfl
  simp only [List.getElem_toArray, List.getElem_cons_zero, List.getElem_cons_succ] at k0 k6
  have hgl := h.lt
  have hiD : (w.alloc (.cells #[.int .i64 id] 2)).drew.cell? ⟨w.heap.size, 0, none⟩ = some (.int .i64 id) := (newBox (lo := 0) (Nat.zero_le _)).drew.at 0 _ rfl
  have hRD : (Lay.sl Lay.tWrite).Reads (w.alloc (.cells #[.int .i64 id] 2)).drew [.slice (some ⟨gw, 0, none⟩) x.writes.length x.writes.length] x.writes := (R.later nb).later (Below.refl _ _).drew
  have HNB := hide nb
  clear h R nb
  go_enter Try.func60, Try.ntmps60
  go_wp2_with fail
  generalize w.alloc (.cells #[.int .i64 id] 2) = W0 at *
  by_cases hcn : c = x.writes.length
  · have HAN : Hid (((x.writes.drop c).any fun y => y.id == id) = false) := by show ((x.writes.drop c).any fun y => y.id == id) = false; rw [hcn, List.drop_length]; rfl
    have hcc : c ≤ x.writes.length := by omega
    have hcd : x.writes.length ≤ c := by omega
    clear hcn
    refine wp_region_noPanic ?_
    refine wp_region_held_drew (S := fun w' => Below w.heap.size w w') (by kernel_rfl) (unhide HNB).drew (fun hHeld => ?_)
    generalize W0.drew = wD at hHeld hiD hRD ⊢
    refine wpAnyH_take (i := 0) (oi := { dst := some 5, op := Go.Op.move (Go.Operand.tmp 0), type := 59, pos := "l09_node.go:173", after := #[], guard := none }) (v := ?va0) rfl (by kernel_rfl) (by kernel_rfl) (by kernel_rfl) (fun _ _ _ h => h) (Or.inl ⟨by rfl, ?ha0⟩) hHeld ?ra0
    case ha0 =>
      intro wS hSw
      (try dsimp only at hSw)
      go_simp
      try with_reducible rfl
    case ra0 =>
    simp only [Act.put, List.setIfInBounds_toArray, List.set_cons_zero, List.set_cons_succ]
    refine wpAnyH_take (i := 1) (oi := { dst := some 6, op := Go.Op.nilCheck (Go.Operand.tmp 5), type := 0, pos := "l09_node.go:173", after := #[{ on := 0, ground := Go.Ground.data }], guard := none }) (v := ?va1) rfl (by kernel_rfl) (by kernel_rfl) (by kernel_rfl) (fun _ _ _ h => h) (Or.inl ⟨by rfl, ?ha1⟩) hHeld ?ra1
    case ha1 =>
      intro wS hSw
      (try dsimp only at hSw)
      go_simp
      try with_reducible rfl
    case ra1 =>
    simp only [Act.put, List.setIfInBounds_toArray, List.set_cons_zero, List.set_cons_succ]
    refine wpAnyH_take (i := 2) (oi := { dst := some 7, op := Go.Op.fieldAddr 65 (Go.Operand.tmp 6) 0, type := 0, pos := "l09_node.go:173", after := #[{ on := 1, ground := Go.Ground.data }], guard := none }) (v := ?va2) rfl (by kernel_rfl) (by kernel_rfl) (by kernel_rfl) (fun _ _ _ h => h) (Or.inl ⟨by rfl, ?ha2⟩) hHeld ?ra2
    case ha2 =>
      intro wS hSw
      (try dsimp only at hSw)
      go_simp
      try with_reducible rfl
    case ra2 =>
    simp only [Act.put, List.setIfInBounds_toArray, List.set_cons_zero, List.set_cons_succ]
    refine wpAnyH_take (i := 3) (oi := { dst := some 8, op := Go.Op.fieldAddr 63 (Go.Operand.tmp 7) 0, type := 0, pos := "l09_node.go:173", after := #[{ on := 2, ground := Go.Ground.data }], guard := none }) (v := ?va3) rfl (by kernel_rfl) (by kernel_rfl) (by kernel_rfl) (fun _ _ _ h => h) (Or.inl ⟨by rfl, ?ha3⟩) hHeld ?ra3
    case ha3 =>
      intro wS hSw
      (try dsimp only at hSw)
      go_simp
      try with_reducible rfl
    case ra3 =>
    simp only [Act.put, List.setIfInBounds_toArray, List.set_cons_zero, List.set_cons_succ]
    refine wpAnyH_take (i := 4) (oi := { dst := some 9, op := Go.Op.load 27 (Go.Operand.tmp 8), type := 27, pos := "l09_node.go:173", after := #[{ on := 3, ground := Go.Ground.data }], guard := none }) (v := ?va4) rfl (by kernel_rfl) (by kernel_rfl) (by kernel_rfl) (fun _ _ _ h => h) (Or.inl ⟨by rfl, ?ha4⟩) hHeld ?ra4
    case ha4 =>
      intro wS hSw
      have y0 : wS.cell? ⟨g, 0, none⟩ = some (.slice (some ⟨gw, 0, none⟩) x.writes.length x.writes.length) := (hSw.cell (p := ⟨g, 0, none⟩) hgl).trans k0
      clear hSw
      (try dsimp only at hSw)
      go_simp
      try with_reducible rfl
    case ra4 =>
    simp only [Act.put, List.setIfInBounds_toArray, List.set_cons_zero, List.set_cons_succ]
    refine wpAnyH_take (i := 5) (oi := { dst := some 10, op := Go.Op.move (Go.Operand.tmp 0), type := 59, pos := "l09_node.go:173", after := #[], guard := none }) (v := ?va5) rfl (by kernel_rfl) (by kernel_rfl) (by kernel_rfl) (fun _ _ _ h => h) (Or.inl ⟨by rfl, ?ha5⟩) hHeld ?ra5
    case ha5 =>
      intro wS hSw
      (try dsimp only at hSw)
      go_simp
      try with_reducible rfl
    case ra5 =>
    simp only [Act.put, List.setIfInBounds_toArray, List.set_cons_zero, List.set_cons_succ]
    refine wpAnyH_take (i := 6) (oi := { dst := some 11, op := Go.Op.nilCheck (Go.Operand.tmp 10), type := 0, pos := "l09_node.go:173", after := #[{ on := 5, ground := Go.Ground.data }], guard := none }) (v := ?va6) rfl (by kernel_rfl) (by kernel_rfl) (by kernel_rfl) (fun _ _ _ h => h) (Or.inl ⟨by rfl, ?ha6⟩) hHeld ?ra6
    case ha6 =>
      intro wS hSw
      (try dsimp only at hSw)
      go_simp
      try with_reducible rfl
    case ra6 =>
    simp only [Act.put, List.setIfInBounds_toArray, List.set_cons_zero, List.set_cons_succ]
    refine wpAnyH_take (i := 7) (oi := { dst := some 12, op := Go.Op.fieldAddr 65 (Go.Operand.tmp 11) 5, type := 0, pos := "l09_node.go:173", after := #[{ on := 6, ground := Go.Ground.data }], guard := none }) (v := ?va7) rfl (by kernel_rfl) (by kernel_rfl) (by kernel_rfl) (fun _ _ _ h => h) (Or.inl ⟨by rfl, ?ha7⟩) hHeld ?ra7
    case ha7 =>
      intro wS hSw
      (try dsimp only at hSw)
      go_simp
      try with_reducible rfl
    case ra7 =>
    simp only [Act.put, List.setIfInBounds_toArray, List.set_cons_zero, List.set_cons_succ]
    refine wpAnyH_take (i := 8) (oi := { dst := some 13, op := Go.Op.load 2 (Go.Operand.tmp 12), type := 2, pos := "l09_node.go:173", after := #[{ on := 7, ground := Go.Ground.data }], guard := none }) (v := ?va8) rfl (by kernel_rfl) (by kernel_rfl) (by kernel_rfl) (fun _ _ _ h => h) (Or.inl ⟨by rfl, ?ha8⟩) hHeld ?ra8
    case ha8 =>
      intro wS hSw
      have y6 : wS.cell? ⟨g, 6, none⟩ = some (.int .i64 (c : Int)) := (hSw.cell (p := ⟨g, 6, none⟩) hgl).trans k6
      clear hSw
      (try dsimp only at hSw)
      go_simp
      try with_reducible rfl
    case ra8 =>
    simp only [Act.put, List.setIfInBounds_toArray, List.set_cons_zero, List.set_cons_succ]
    refine wpAnyH_take (i := 9) (oi := { dst := some 14, op := Go.Op.slice 27 (Go.Operand.tmp 9) (some (Go.Operand.tmp 13)) none none, type := 27, pos := "l09_node.go:173", after := #[{ on := 4, ground := Go.Ground.data }, { on := 8, ground := Go.Ground.data }], guard := none }) (v := ?va9) rfl (by kernel_rfl) (by kernel_rfl) (by kernel_rfl) (fun _ _ _ h => h) (Or.inl ⟨by rfl, ?ha9⟩) hHeld ?ra9
    case ha9 =>
      intro wS hSw
      (try dsimp only at hSw)
      go_simp
      try with_reducible rfl
    case ra9 =>
    simp only [Act.put, List.setIfInBounds_toArray, List.set_cons_zero, List.set_cons_succ]
    refine wpAnyH_take (i := 10) (oi := { dst := some 15, op := Go.Op.makeFunc (Go.Fn.func 79) #[] #[Go.Operand.tmp 3], type := 91, pos := "l09_node.go:173", after := #[], guard := none }) (v := ?va10) rfl (by kernel_rfl) (by kernel_rfl) (by kernel_rfl) (fun _ _ _ h => h) (Or.inl ⟨by rfl, ?ha10⟩) hHeld ?ra10
    case ha10 =>
      intro wS hSw
      (try dsimp only at hSw)
      go_simp
      try with_reducible rfl
    case ra10 =>
    simp only [Act.put, List.setIfInBounds_toArray, List.set_cons_zero, List.set_cons_succ]
    refine wpAnyH_ready (rs := [11]) (by kernel_rfl) (by simp) ?_
    refine AllReadyH.cons (o := { dst := some 16, op := Go.Op.call { callee := Go.Callee.value (Go.Operand.func 78), args := #[Go.Operand.tmp 14, Go.Operand.tmp 15], argTypes := #[27, 91] }, type := 4, pos := "l09_node.go:173", after := #[{ on := 9, ground := Go.Ground.data }, { on := 10, ground := Go.Ground.data }], guard := none }) rfl (fun K hK => ?_) AllReadyH.nil
    go_simp
    go_at_call 78
    refine (containsC (.slice _ 0 0) [] w.heap.size id _ ⟨[], _, _, rfl, by simp, Or.inl ⟨rfl, rfl⟩⟩ (by simp) hiD).mono ?_
    rintro e w3 ⟨rfl, hbw⟩
    try go_wp2_with fail
    refine hK.out _ _ (hHeld.trans (hbw.mono hHeld.size)) (fun hHeld => ?_)
    clear hK K
    try simp only [Act.put, List.setIfInBounds_toArray, List.set_cons_zero, List.set_cons_succ]
    refine wpAnyH_take (i := 12) (oi := { dst := some 4, op := Go.Op.assign (Go.Operand.tmp 16), type := 4, pos := "l09_node.go:173", after := #[{ on := 11, ground := Go.Ground.data }, { on := 11, ground := Go.Ground.chain }, { on := 0, ground := Go.Ground.phase }, { on := 1, ground := Go.Ground.phase }, { on := 2, ground := Go.Ground.phase }, { on := 3, ground := Go.Ground.phase }, { on := 4, ground := Go.Ground.phase }, { on := 5, ground := Go.Ground.phase }, { on := 6, ground := Go.Ground.phase }, { on := 7, ground := Go.Ground.phase }, { on := 8, ground := Go.Ground.phase }, { on := 9, ground := Go.Ground.phase }, { on := 10, ground := Go.Ground.phase }, { on := 11, ground := Go.Ground.phase }], guard := none }) (v := ?va12) rfl (by kernel_rfl) (by kernel_rfl) (by kernel_rfl) (fun _ _ _ h => h) (Or.inl ⟨by rfl, ?ha12⟩) hHeld ?ra12
    case ha12 =>
      intro wS hSw
      (try dsimp only at hSw)
      go_simp
      try with_reducible rfl
    case ra12 =>
    simp only [Act.put, List.setIfInBounds_toArray, List.set_cons_zero, List.set_cons_succ]
    refine wpAnyH_done (by kernel_rfl) ?_ _
    refine NoPanic.normal ?_
    have HB9 := hide hHeld
    clear hHeld
    go_wp2_with fail
    go_ret
    exact ⟨by rw [unhide HAN]; rfl, unhide HB9⟩
  · have hcl : c < x.writes.length := by omega
    have hne : (x.writes.length = c) = False := by simp; omega
    clear hcn
    refine wp_region_noPanic ?_
    refine wp_region_held_drew (S := fun w' => Below w.heap.size w w') (by kernel_rfl) (unhide HNB).drew (fun hHeld => ?_)
    generalize W0.drew = wD at hHeld hiD hRD ⊢
    refine wpAnyH_take (i := 0) (oi := { dst := some 5, op := Go.Op.move (Go.Operand.tmp 0), type := 59, pos := "l09_node.go:173", after := #[], guard := none }) (v := ?vb0) rfl (by kernel_rfl) (by kernel_rfl) (by kernel_rfl) (fun _ _ _ h => h) (Or.inl ⟨by rfl, ?hb0⟩) hHeld ?rb0
    case hb0 =>
      intro wS hSw
      (try dsimp only at hSw)
      go_simp
      try with_reducible rfl
    case rb0 =>
    simp only [Act.put, List.setIfInBounds_toArray, List.set_cons_zero, List.set_cons_succ]
    refine wpAnyH_take (i := 1) (oi := { dst := some 6, op := Go.Op.nilCheck (Go.Operand.tmp 5), type := 0, pos := "l09_node.go:173", after := #[{ on := 0, ground := Go.Ground.data }], guard := none }) (v := ?vb1) rfl (by kernel_rfl) (by kernel_rfl) (by kernel_rfl) (fun _ _ _ h => h) (Or.inl ⟨by rfl, ?hb1⟩) hHeld ?rb1
    case hb1 =>
      intro wS hSw
      (try dsimp only at hSw)
      go_simp
      try with_reducible rfl
    case rb1 =>
    simp only [Act.put, List.setIfInBounds_toArray, List.set_cons_zero, List.set_cons_succ]
    refine wpAnyH_take (i := 2) (oi := { dst := some 7, op := Go.Op.fieldAddr 65 (Go.Operand.tmp 6) 0, type := 0, pos := "l09_node.go:173", after := #[{ on := 1, ground := Go.Ground.data }], guard := none }) (v := ?vb2) rfl (by kernel_rfl) (by kernel_rfl) (by kernel_rfl) (fun _ _ _ h => h) (Or.inl ⟨by rfl, ?hb2⟩) hHeld ?rb2
    case hb2 =>
      intro wS hSw
      (try dsimp only at hSw)
      go_simp
      try with_reducible rfl
    case rb2 =>
    simp only [Act.put, List.setIfInBounds_toArray, List.set_cons_zero, List.set_cons_succ]
    refine wpAnyH_take (i := 3) (oi := { dst := some 8, op := Go.Op.fieldAddr 63 (Go.Operand.tmp 7) 0, type := 0, pos := "l09_node.go:173", after := #[{ on := 2, ground := Go.Ground.data }], guard := none }) (v := ?vb3) rfl (by kernel_rfl) (by kernel_rfl) (by kernel_rfl) (fun _ _ _ h => h) (Or.inl ⟨by rfl, ?hb3⟩) hHeld ?rb3
    case hb3 =>
      intro wS hSw
      (try dsimp only at hSw)
      go_simp
      try with_reducible rfl
    case rb3 =>
    simp only [Act.put, List.setIfInBounds_toArray, List.set_cons_zero, List.set_cons_succ]
    refine wpAnyH_take (i := 4) (oi := { dst := some 9, op := Go.Op.load 27 (Go.Operand.tmp 8), type := 27, pos := "l09_node.go:173", after := #[{ on := 3, ground := Go.Ground.data }], guard := none }) (v := ?vb4) rfl (by kernel_rfl) (by kernel_rfl) (by kernel_rfl) (fun _ _ _ h => h) (Or.inl ⟨by rfl, ?hb4⟩) hHeld ?rb4
    case hb4 =>
      intro wS hSw
      have y0 : wS.cell? ⟨g, 0, none⟩ = some (.slice (some ⟨gw, 0, none⟩) x.writes.length x.writes.length) := (hSw.cell (p := ⟨g, 0, none⟩) hgl).trans k0
      clear hSw
      (try dsimp only at hSw)
      go_simp
      try with_reducible rfl
    case rb4 =>
    simp only [Act.put, List.setIfInBounds_toArray, List.set_cons_zero, List.set_cons_succ]
    refine wpAnyH_take (i := 5) (oi := { dst := some 10, op := Go.Op.move (Go.Operand.tmp 0), type := 59, pos := "l09_node.go:173", after := #[], guard := none }) (v := ?vb5) rfl (by kernel_rfl) (by kernel_rfl) (by kernel_rfl) (fun _ _ _ h => h) (Or.inl ⟨by rfl, ?hb5⟩) hHeld ?rb5
    case hb5 =>
      intro wS hSw
      (try dsimp only at hSw)
      go_simp
      try with_reducible rfl
    case rb5 =>
    simp only [Act.put, List.setIfInBounds_toArray, List.set_cons_zero, List.set_cons_succ]
    refine wpAnyH_take (i := 6) (oi := { dst := some 11, op := Go.Op.nilCheck (Go.Operand.tmp 10), type := 0, pos := "l09_node.go:173", after := #[{ on := 5, ground := Go.Ground.data }], guard := none }) (v := ?vb6) rfl (by kernel_rfl) (by kernel_rfl) (by kernel_rfl) (fun _ _ _ h => h) (Or.inl ⟨by rfl, ?hb6⟩) hHeld ?rb6
    case hb6 =>
      intro wS hSw
      (try dsimp only at hSw)
      go_simp
      try with_reducible rfl
    case rb6 =>
    simp only [Act.put, List.setIfInBounds_toArray, List.set_cons_zero, List.set_cons_succ]
    refine wpAnyH_take (i := 7) (oi := { dst := some 12, op := Go.Op.fieldAddr 65 (Go.Operand.tmp 11) 5, type := 0, pos := "l09_node.go:173", after := #[{ on := 6, ground := Go.Ground.data }], guard := none }) (v := ?vb7) rfl (by kernel_rfl) (by kernel_rfl) (by kernel_rfl) (fun _ _ _ h => h) (Or.inl ⟨by rfl, ?hb7⟩) hHeld ?rb7
    case hb7 =>
      intro wS hSw
      (try dsimp only at hSw)
      go_simp
      try with_reducible rfl
    case rb7 =>
    simp only [Act.put, List.setIfInBounds_toArray, List.set_cons_zero, List.set_cons_succ]
    refine wpAnyH_take (i := 8) (oi := { dst := some 13, op := Go.Op.load 2 (Go.Operand.tmp 12), type := 2, pos := "l09_node.go:173", after := #[{ on := 7, ground := Go.Ground.data }], guard := none }) (v := ?vb8) rfl (by kernel_rfl) (by kernel_rfl) (by kernel_rfl) (fun _ _ _ h => h) (Or.inl ⟨by rfl, ?hb8⟩) hHeld ?rb8
    case hb8 =>
      intro wS hSw
      have y6 : wS.cell? ⟨g, 6, none⟩ = some (.int .i64 (c : Int)) := (hSw.cell (p := ⟨g, 6, none⟩) hgl).trans k6
      clear hSw
      (try dsimp only at hSw)
      go_simp
      try with_reducible rfl
    case rb8 =>
    simp only [Act.put, List.setIfInBounds_toArray, List.set_cons_zero, List.set_cons_succ]
    refine wpAnyH_take (i := 9) (oi := { dst := some 14, op := Go.Op.slice 27 (Go.Operand.tmp 9) (some (Go.Operand.tmp 13)) none none, type := 27, pos := "l09_node.go:173", after := #[{ on := 4, ground := Go.Ground.data }, { on := 8, ground := Go.Ground.data }], guard := none }) (v := ?vb9) rfl (by kernel_rfl) (by kernel_rfl) (by kernel_rfl) (fun _ _ _ h => h) (Or.inl ⟨by rfl, ?hb9⟩) hHeld ?rb9
    case hb9 =>
      intro wS hSw
      (try dsimp only at hSw)
      go_simp
      try with_reducible rfl
    case rb9 =>
    simp only [Act.put, List.setIfInBounds_toArray, List.set_cons_zero, List.set_cons_succ]
    refine wpAnyH_take (i := 10) (oi := { dst := some 15, op := Go.Op.makeFunc (Go.Fn.func 79) #[] #[Go.Operand.tmp 3], type := 91, pos := "l09_node.go:173", after := #[], guard := none }) (v := ?vb10) rfl (by kernel_rfl) (by kernel_rfl) (by kernel_rfl) (fun _ _ _ h => h) (Or.inl ⟨by rfl, ?hb10⟩) hHeld ?rb10
    case hb10 =>
      intro wS hSw
      (try dsimp only at hSw)
      go_simp
      try with_reducible rfl
    case rb10 =>
    simp only [Act.put, List.setIfInBounds_toArray, List.set_cons_zero, List.set_cons_succ]
    refine wpAnyH_ready (rs := [11]) (by kernel_rfl) (by simp) ?_
    refine AllReadyH.cons (o := { dst := some 16, op := Go.Op.call { callee := Go.Callee.value (Go.Operand.func 78), args := #[Go.Operand.tmp 14, Go.Operand.tmp 15], argTypes := #[27, 91] }, type := 4, pos := "l09_node.go:173", after := #[{ on := 9, ground := Go.Ground.data }, { on := 10, ground := Go.Ground.data }], guard := none }) rfl (fun K hK => ?_) AllReadyH.nil
    go_simp
    go_at_call 78
    refine (containsC (.slice (some ⟨gw, c * 5, none⟩) (x.writes.length - c) (x.writes.length - c)) (x.writes.drop c) w.heap.size id _ (by have := sl_drop_reads hRD c (by omega); rw [Nat.zero_add] at this; exact this) (by rw [List.length_drop]; omega) hiD).mono ?_
    rintro e w3 ⟨rfl, hbw⟩
    try go_wp2_with fail
    refine hK.out _ _ (hHeld.trans (hbw.mono hHeld.size)) (fun hHeld => ?_)
    clear hK K
    try simp only [Act.put, List.setIfInBounds_toArray, List.set_cons_zero, List.set_cons_succ]
    refine wpAnyH_take (i := 12) (oi := { dst := some 4, op := Go.Op.assign (Go.Operand.tmp 16), type := 4, pos := "l09_node.go:173", after := #[{ on := 11, ground := Go.Ground.data }, { on := 11, ground := Go.Ground.chain }, { on := 0, ground := Go.Ground.phase }, { on := 1, ground := Go.Ground.phase }, { on := 2, ground := Go.Ground.phase }, { on := 3, ground := Go.Ground.phase }, { on := 4, ground := Go.Ground.phase }, { on := 5, ground := Go.Ground.phase }, { on := 6, ground := Go.Ground.phase }, { on := 7, ground := Go.Ground.phase }, { on := 8, ground := Go.Ground.phase }, { on := 9, ground := Go.Ground.phase }, { on := 10, ground := Go.Ground.phase }, { on := 11, ground := Go.Ground.phase }], guard := none }) (v := ?vb12) rfl (by kernel_rfl) (by kernel_rfl) (by kernel_rfl) (fun _ _ _ h => h) (Or.inl ⟨by rfl, ?hb12⟩) hHeld ?rb12
    case hb12 =>
      intro wS hSw
      (try dsimp only at hSw)
      go_simp
      try with_reducible rfl
    case rb12 =>
    simp only [Act.put, List.setIfInBounds_toArray, List.set_cons_zero, List.set_cons_succ]
    refine wpAnyH_done (by kernel_rfl) ?_ _
    refine NoPanic.normal ?_
    have HB9 := hide hHeld
    clear hHeld
    go_wp2_with fail
    go_ret
    exact ⟨rfl, unhide HB9⟩

set_option maxRecDepth 10000 in
set_option maxHeartbeats 1000000 in
/-- DirtyIn of the program. -/
theorem implDirtyIn (cs : List Value) (x : DNode) (id : Int) (w : World) (h : Lay.tNode.Reads w cs x) :
    Calls Try.prog 28 #[.agg cs.toArray, .int .i64 id] w fun e w' => e = .returned (.bool (dirtyR x id)) ∧ Below w.heap.size w w' := by
  have hN := h
  obtain ⟨a4, d4, rfl, R4⟩ := open_Node h
  have nb : Below w.heap.size w (w.alloc (.cells #[.int .i64 x.id, .bool x.up, .int .i64 x.epoch, .int .i64 x.lease, .slice a4 x.writes.length d4, .int .i64 x.sure, .int .i64 x.clean] 29)) := (Below.refl _ _).alloc (Nat.le_refl _) _
  by_cases hf : nodeFault x = 0
  · have hok := nodeFault_zero hf
    have HL := hide (nodeOf_ok _ x _ (hN.later nb) hf)
    have HE : Hid (dirtyR x id = dirtyB x id) := by show dirtyR x id = _; rw [dirtyR, decide_eq_true hf]; rfl
    have HOK := hide hok
    have HB := hide nb
    clear hN nb R4 hf hok h
    go_enter Try.func28, Try.ntmps28
    go_wp2_with fail
    refine (unhide HL).mono ?_
    rintro e w1 ⟨g, gw, rfl, hH, O, hg, hb⟩
    have hcl := (unhide HOK).clean
    have hsr := (unhide HOK).sure
    have hln := (unhide HOK).len
    obtain ⟨c, hc⟩ : ∃ c : Nat, x.clean = (c : Int) := ⟨x.clean.toNat, by omega⟩
    have hH' : HeldAt w1 g (.slice (some ⟨gw, 0, none⟩) x.writes.length x.writes.length) ⟨x.id, x.up, x.epoch, x.lease, x.writes, x.sure, (c : Int)⟩ := by rw [← hc]; exact hH
    have HD := hide (isDirtyC g gw c x id w1 hH' O.reads (by omega) (by omega))
    have HB1 := hide ((unhide HB).trans (hb.mono (unhide HB).size))
    have HC : Hid (dirtyB x id = ((x.writes.drop c).any fun y => y.id == id)) := by show dirtyB x id = _; rw [dirtyB, hc, Int.toNat_natCast]
    clear hb HL HB hH O hg hc hH' hcl hsr hln
    go_wp2_with fail
    refine (unhide HD).mono ?_
    rintro e w2 ⟨rfl, hb⟩
    have HB2 := hide ((unhide HB1).trans (hb.mono (unhide HB1).size))
    clear hb HD HB1
    generalize ((x.writes.drop c).any fun y => y.id == id) = bb at *
    go_wp2_with fail
    go_ret
    exact ⟨by rw [unhide HE, unhide HC]; rfl, unhide HB2⟩
  · have HL := hide (nodeOf_bad _ x _ (hN.later nb) hf)
    have HE : Hid (dirtyR x id = false) := by show dirtyR x id = _; rw [dirtyR, decide_eq_false hf]; rfl
    have HB := hide nb
    have hd : (nodeFault x == 0) = false := by simpa using hf
    clear hN nb R4 hf h
    generalize nodeFault x = c at *
    go_enter Try.func28, Try.ntmps28
    go_wp2_with fail
    refine (unhide HL).mono ?_
    rintro e w1 ⟨rfl, hb⟩
    have HB1 := hide ((unhide HB).trans (hb.mono (unhide HB).size))
    clear hb HL HB
    go_wp2_with fail
    go_ret
    exact ⟨by rw [unhide HE]; rfl, unhide HB1⟩
end Go.Proofs.Ytbogjepkdcknfaa

namespace Go.Proofs.Ytbogjepkdcknfaa
open Go.RowKit

theorem lawDirtyIn (cs : List Value) (x : DNode) (i : Int) (w : World) (h : Lay.tNode.Reads w cs x) :
    Calls Try.prog 8 #[.agg cs.toArray, .int .i64 i] w fun e w' => e = .returned (.bool true) ∧ Below w.heap.size w w' := by
  by_cases hn : Lay.tNode.sz x ≤ 1048576
  · exact lawx_DirtyIn cs x i (dirtyR x i) w h hn (fun W a ha => specDirtyIn a x i W ha) (fun W a ha => implDirtyIn a x i W ha)
  · exact lawover_DirtyIn cs x i w h (by omega)

end Go.Proofs.Ytbogjepkdcknfaa

namespace Go.Proofs.Ytbogjepkdcknfaa
open Go.RowKit

set_option maxRecDepth 10000 in
theorem opens_Write : Opens Lay.tWrite 81 := by
  intro H enc W base spare held fuel cs x h
  obtain ⟨xs, n, _, _, hlen, hl, hfi⟩ := DataW.trod_struct Try.underlying81 h
  rw [show Try.prog.cellsOf 81 = 5 by kernel_rfl] at hlen
  match cs, hlen with
  | [c0, c1, c2, c3, c4], _ =>
  match xs, hl with
  | [y0, y1, y2, y3, y4], _ =>
  have z0 : Try.prog.cellsOf 2 = 1 := by kernel_rfl
  have z1 : Try.prog.cellsOf 79 = 1 := by kernel_rfl
  have f0 : DataW.trod enc Try.prog W base spare held n 2 (([c0, c1, c2, c3, c4].drop 0).take (Try.prog.cellsOf 2)) = some y0 := hfi 0 _ rfl
  rw [z0] at f0
  obtain ⟨d0, r0⟩ := (opens_int Try.underlying2) enc W base spare held n _ _ f0
  have f1 : DataW.trod enc Try.prog W base spare held n 2 (([c0, c1, c2, c3, c4].drop 1).take (Try.prog.cellsOf 2)) = some y1 := hfi 1 _ rfl
  rw [z0] at f1
  obtain ⟨d1, r1⟩ := (opens_int Try.underlying2) enc W base spare held n _ _ f1
  have f2 : DataW.trod enc Try.prog W base spare held n 79 (([c0, c1, c2, c3, c4].drop 2).take (Try.prog.cellsOf 79)) = some y2 := hfi 2 _ rfl
  rw [z1] at f2
  obtain ⟨d2, r2⟩ := (opens_sl Try.underlying79 (by kernel_rfl) (by decide) (opens_int Try.underlying2)) enc W base spare held n _ _ f2
  have f3 : DataW.trod enc Try.prog W base spare held n 2 (([c0, c1, c2, c3, c4].drop 3).take (Try.prog.cellsOf 2)) = some y3 := hfi 3 _ rfl
  rw [z0] at f3
  obtain ⟨d3, r3⟩ := (opens_int Try.underlying2) enc W base spare held n _ _ f3
  have f4 : DataW.trod enc Try.prog W base spare held n 2 (([c0, c1, c2, c3, c4].drop 4).take (Try.prog.cellsOf 2)) = some y4 := hfi 4 _ rfl
  rw [z0] at f4
  obtain ⟨d4, r4⟩ := (opens_int Try.underlying2) enc W base spare held n _ _ f4
  exact ⟨⟨d0, d1, d2, d3, d4⟩, (reads_pair r0 (reads_pair r1 (reads_pair r2 (reads_pair r3 r4))))⟩

end Go.Proofs.Ytbogjepkdcknfaa

namespace Go.Proofs.Ytbogjepkdcknfaa
open Go.RowKit

set_option maxRecDepth 10000 in
theorem opens_Node : Opens Lay.tNode 24 := by
  intro H enc W base spare held fuel cs x h
  obtain ⟨xs, n, _, _, hlen, hl, hfi⟩ := DataW.trod_struct Try.underlying24 h
  rw [show Try.prog.cellsOf 24 = 7 by kernel_rfl] at hlen
  match cs, hlen with
  | [c0, c1, c2, c3, c4, c5, c6], _ =>
  match xs, hl with
  | [y0, y1, y2, y3, y4, y5, y6], _ =>
  have z0 : Try.prog.cellsOf 2 = 1 := by kernel_rfl
  have z1 : Try.prog.cellsOf 4 = 1 := by kernel_rfl
  have z2 : Try.prog.cellsOf 22 = 1 := by kernel_rfl
  have f0 : DataW.trod enc Try.prog W base spare held n 2 (([c0, c1, c2, c3, c4, c5, c6].drop 0).take (Try.prog.cellsOf 2)) = some y0 := hfi 0 _ rfl
  rw [z0] at f0
  obtain ⟨d0, r0⟩ := (opens_int Try.underlying2) enc W base spare held n _ _ f0
  have f1 : DataW.trod enc Try.prog W base spare held n 4 (([c0, c1, c2, c3, c4, c5, c6].drop 1).take (Try.prog.cellsOf 4)) = some y1 := hfi 1 _ rfl
  rw [z1] at f1
  obtain ⟨d1, r1⟩ := (opens_bool Try.underlying4) enc W base spare held n _ _ f1
  have f2 : DataW.trod enc Try.prog W base spare held n 2 (([c0, c1, c2, c3, c4, c5, c6].drop 2).take (Try.prog.cellsOf 2)) = some y2 := hfi 2 _ rfl
  rw [z0] at f2
  obtain ⟨d2, r2⟩ := (opens_int Try.underlying2) enc W base spare held n _ _ f2
  have f3 : DataW.trod enc Try.prog W base spare held n 2 (([c0, c1, c2, c3, c4, c5, c6].drop 3).take (Try.prog.cellsOf 2)) = some y3 := hfi 3 _ rfl
  rw [z0] at f3
  obtain ⟨d3, r3⟩ := (opens_int Try.underlying2) enc W base spare held n _ _ f3
  have f4 : DataW.trod enc Try.prog W base spare held n 22 (([c0, c1, c2, c3, c4, c5, c6].drop 4).take (Try.prog.cellsOf 22)) = some y4 := hfi 4 _ rfl
  rw [z2] at f4
  obtain ⟨d4, r4⟩ := (opens_sl Try.underlying22 (by kernel_rfl) (by decide) opens_Write) enc W base spare held n _ _ f4
  have f5 : DataW.trod enc Try.prog W base spare held n 2 (([c0, c1, c2, c3, c4, c5, c6].drop 5).take (Try.prog.cellsOf 2)) = some y5 := hfi 5 _ rfl
  rw [z0] at f5
  obtain ⟨d5, r5⟩ := (opens_int Try.underlying2) enc W base spare held n _ _ f5
  have f6 : DataW.trod enc Try.prog W base spare held n 2 (([c0, c1, c2, c3, c4, c5, c6].drop 6).take (Try.prog.cellsOf 2)) = some y6 := hfi 6 _ rfl
  rw [z0] at f6
  obtain ⟨d6, r6⟩ := (opens_int Try.underlying2) enc W base spare held n _ _ f6
  exact ⟨⟨d0, d1, d2, d3, d4, d5, d6⟩, (reads_pair r0 (reads_pair r1 (reads_pair r2 (reads_pair r3 (reads_pair r4 (reads_pair r5 r6))))))⟩

end Go.Proofs.Ytbogjepkdcknfaa
