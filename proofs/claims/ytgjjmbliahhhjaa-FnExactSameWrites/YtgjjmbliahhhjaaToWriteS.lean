/-
  toWriteS of laws/exact.go: a copy is new memory.
  Condition: its lists are together at most 1048576 long.
-/
import Derived.Test.YtgjjmbliahhhjaaChecked
import Derived.Test.YtgjjmbliahhhjaaLayRow
import Derived.Test.YtgjjmbliahhhjaaLayWrite
import Derived.Test.YtgjjmbliahhhjaaToWrite
import Derived.WalkKit
namespace Go.Proofs.Ytgjjmbliahhhjaa
open Go.RowKit

theorem infoWrite : (Try.prog.info? 27).map (fun i => (i.zero, i.size, decide (i.bytes ≤ 1000))) = some (some (.agg #[.int .i64 0, .int .i64 0, .slice none 0 0, .int .i64 0, .int .i64 0]), 5, true) := by kernel_rfl
set_option maxRecDepth 10000 in
set_option maxHeartbeats 2000000 in
theorem to_WriteS (v : Value) (xs : List DWrite) (w : World) (h : (Lay.sl Lay.tWrite).Reads w [v] xs) (hn : (Lay.sl Lay.tWrite).sz xs ≤ 1048576) :
    Calls Try.prog 28 #[v] w fun e w' => ∃ v', e = .returned v' ∧ (Lay.sl Lay.tWrite).OwnIn w' [v'] xs w.heap.size w'.heap.size ∧ Below w.heap.size w w' := by
  have hbig := h.big
  obtain ⟨ao, cap, rfl⟩ := open_sl h
  have hlen : xs.length ≤ 1048576 := Nat.le_trans Lay.sz_len hn
  obtain ⟨i0, hi, hz0, hz1, hz2⟩ : ∃ i, Try.prog.info? 27 = some i ∧ i.zero = some (.agg #[.int .i64 0, .int .i64 0, .slice none 0 0, .int .i64 0, .int .i64 0]) ∧ i.size = 5 ∧ i.bytes ≤ 1000 := by
    have := infoWrite
    cases hq : Try.prog.info? 27 with
    | none => rw [hq] at this; simp at this
    | some i =>
      rw [hq] at this
      simp only [Option.map_some, Option.some.injEq, Prod.mk.injEq, decide_eq_true_eq] at this
      exact ⟨i, rfl, this.1, this.2.1, this.2.2⟩
  have H := hide h
  have HN := hide hn
  clear h hn
  go_enter Try.func28, Try.ntmps28
  go_wp2_with (at_make; refine wpList_make_full _ rfl _ _ 49 rfl w.heap.size 27 i0 _ 5 Try.underlying49 hi hz0 hz1 _ _ _ _ xs.length rfl rfl rfl rfl ?c1 ?c2 ?c3 ?_)
  case c1 => have := Nat.mul_le_mul hz2 hlen; omega
  case c2 => unfold maxLen; omega
  case c3 => exact Nat.le_refl _
  intro w1 hown1 hgrow1
  have hB1 : Below w.heap.size w w1 := (Below.refl _ _).grown hgrow1 (Nat.le_refl _) (by simp)
  clear hgrow1 hi hz0 hz1 hz2
  have HO1 := hide hown1
  have HB1 := hide hB1
  clear hown1 hB1
  go_wp2_with fail
  go_loopw [4] (fun i wr => ∃ (k : Nat) (rows : List (List Value)) (Q : List Value) (hi : Nat), k ≤ xs.length ∧ i = .int .i64 k ∧ wr.ownsRow w.heap.size 27 5 (.slice (some ⟨w.heap.size, 0, none⟩) xs.length xs.length) xs.length (rows.flatten ++ Q) ∧ Q.length = (xs.length - k) * 5 ∧ Lay.Subs Lay.tWrite wr rows (xs.take k) (w.heap.size + 1) hi ∧ hi ≤ wr.heap.size ∧ w.heap.size < hi ∧ Below w.heap.size w wr) (fun i _ => xs.length - (intOf i).toNat)
  case atStart =>
    have hl := ((unhide HO1).lt w.heap.size rfl).2
    exact ⟨0, [], _, w1.heap.size, Nat.zero_le _, rfl, by simpa using unhide HO1, by have := (unhide HO1).1; simpa using this, Lay.subs_nil, Nat.le_refl _, hl, unhide HB1⟩
  case round =>
    obtain ⟨k, rows, Q, hi, hk, rfl, hown, hQ, hsub, hhi, hlo, hB⟩ := hrel
    clear HO1 HB1
    by_cases hlt : k < xs.length
    · obtain ⟨b, off, rfl, hbl⟩ := Lay.sl_addr (unhide H) (by omega)
      obtain ⟨row, hc, hr⟩ := Lay.row_at (unhide H) hlt
      replace hr := hr.later hB
      have hr2 := hr
      obtain ⟨a2, d2, rfl, -⟩ := open_Write hr2
      have c0 : wr.cell? ⟨b, off + k * 5, none⟩ = some (.int .i64 (xs[k]).kind) := (hB.cell (p := ⟨b, off + k * 5, none⟩) hbl).trans (hc 0 (by decide))
      have c1 : wr.cell? ⟨b, off + k * 5 + 1, none⟩ = some (.int .i64 (xs[k]).id) := (hB.cell (p := ⟨b, off + k * 5 + 1, none⟩) hbl).trans (hc 1 (by decide))
      have c2 : wr.cell? ⟨b, off + k * 5 + 2, none⟩ = some (.slice a2 (xs[k]).vec.length d2) := (hB.cell (p := ⟨b, off + k * 5 + 2, none⟩) hbl).trans (hc 2 (by decide))
      have c3 : wr.cell? ⟨b, off + k * 5 + 3, none⟩ = some (.int .i64 (xs[k]).session) := (hB.cell (p := ⟨b, off + k * 5 + 3, none⟩) hbl).trans (hc 3 (by decide))
      have c4 : wr.cell? ⟨b, off + k * 5 + 4, none⟩ = some (.int .i64 (xs[k]).seq) := (hB.cell (p := ⟨b, off + k * 5 + 4, none⟩) hbl).trans (hc 4 (by decide))
      have hrl : rows.flatten.length = k * 5 := by have := (Lay.subs_len hsub).1; rw [List.length_take, Nat.min_eq_left hk] at this; exact this
      have hsz := Nat.le_trans (Lay.sz_elem (A := Lay.tWrite) hlt) (unhide HN)
      have HT : Hid (xs.take (k + 1) = xs.take k ++ [xs[k]]) := List.take_succ_eq_append_getElem hlt
      have HB := hide hB
      have HR := hide hr
      have HO := hide hown
      have HS := hide hsub
      have HQ := hide hQ
      clear hB hr hc hown hsub hQ
      generalize hxk : xs[k] = x at *
      clear hxk
      go_wp2_with fail
      refine (to_Write _ x wr (unhide HR) hsz).mono ?_
      rintro e w2 ⟨cs2, rfl, O, hb⟩
      have o2 := own_below (unhide HO) hb
      replace HS := hide (Lay.subs_snoc (Lay.subs_ext (unhide HS) (ext_of_below hb nowhere) (fun _ _ _ h => h)) O (by omega) (by omega) (Nat.le_trans hhi hb.size))
      have hb2 := (unhide HB).trans (hb.mono (unhide HB).size)
      have hz := hb.size
      have orr := O.reads
      obtain ⟨a2z, d2z, rfl, -⟩ := open_Write orr
      clear hb HR HB HO O c0 c1 c2 c3 c4
      have hQ := unhide HQ
      have hl5 : (rows.flatten ++ Q).length = xs.length * 5 := o2.1
      obtain ⟨u0, g0⟩ : ∃ u, w2.cell? ⟨w.heap.size, k * 5, none⟩ = some u := by
        rw [o2.cellAt (k * 5) (by omega)]
        exact ⟨_, List.getElem?_eq_getElem (by omega)⟩
      have t0 := o2.frozenAt (k * 5)
      obtain ⟨u1, g1⟩ : ∃ u, w2.cell? ⟨w.heap.size, k * 5 + 1, none⟩ = some u := by
        rw [o2.cellAt (k * 5 + 1) (by omega)]
        exact ⟨_, List.getElem?_eq_getElem (by omega)⟩
      have t1 := o2.frozenAt (k * 5 + 1)
      obtain ⟨u2, g2⟩ : ∃ u, w2.cell? ⟨w.heap.size, k * 5 + 2, none⟩ = some u := by
        rw [o2.cellAt (k * 5 + 2) (by omega)]
        exact ⟨_, List.getElem?_eq_getElem (by omega)⟩
      have t2 := o2.frozenAt (k * 5 + 2)
      obtain ⟨u3, g3⟩ : ∃ u, w2.cell? ⟨w.heap.size, k * 5 + 3, none⟩ = some u := by
        rw [o2.cellAt (k * 5 + 3) (by omega)]
        exact ⟨_, List.getElem?_eq_getElem (by omega)⟩
      have t3 := o2.frozenAt (k * 5 + 3)
      obtain ⟨u4, g4⟩ : ∃ u, w2.cell? ⟨w.heap.size, k * 5 + 4, none⟩ = some u := by
        rw [o2.cellAt (k * 5 + 4) (by omega)]
        exact ⟨_, List.getElem?_eq_getElem (by omega)⟩
      have t4 := o2.frozenAt (k * 5 + 4)
      have o3 := own_setAll o2 (k * 5) [.int .i64 x.kind, .int .i64 x.id, .slice a2z x.vec.length d2z, .int .i64 x.session, .int .i64 x.seq]
      rw [show k * 5 = rows.flatten.length from hrl.symm, setFrom_app _ _ _ (by rw [hQ]; simp; have : 1 * 5 ≤ (xs.length - k) * 5 := Nat.mul_le_mul_right _ (by omega); omega), hrl] at o3
      have E : Ext (fun q => q = w.heap.size) w2 (setAll w2 w.heap.size (k * 5) [.int .i64 x.kind, .int .i64 x.id, .slice a2z x.vec.length d2z, .int .i64 x.session, .int .i64 x.seq]) := ext_setAll _ (Ext.refl _ _) _ _ _ rfl
      replace HS := hide (Lay.subs_ext (unhide HS) E (fun q h1 h2 h3 => by omega))
      have HB := hide (below_setAll hb2 w.heap.size (k * 5) [.int .i64 x.kind, .int .i64 x.id, .slice a2z x.vec.length d2z, .int .i64 x.session, .int .i64 x.seq] (Nat.le_refl _))
      have HZ : Hid ((setAll w2 w.heap.size (k * 5) [.int .i64 x.kind, .int .i64 x.id, .slice a2z x.vec.length d2z, .int .i64 x.session, .int .i64 x.seq]).heap.size = w2.heap.size) := size_setAll _ _ _ _
      have HO : Hid ((setAll w2 w.heap.size (k * 5) [.int .i64 x.kind, .int .i64 x.id, .slice a2z x.vec.length d2z, .int .i64 x.session, .int .i64 x.seq]).ownsRow w.heap.size 27 5 (.slice (some ⟨w.heap.size, 0, none⟩) xs.length xs.length) xs.length ((rows ++ [([.int .i64 x.kind, .int .i64 x.id, .slice a2z x.vec.length d2z, .int .i64 x.session, .int .i64 x.seq] : List Value)]).flatten ++ Q.drop 5)) := by
        show (setAll w2 w.heap.size (k * 5) [.int .i64 x.kind, .int .i64 x.id, .slice a2z x.vec.length d2z, .int .i64 x.session, .int .i64 x.seq]).ownsRow w.heap.size 27 5 (.slice (some ⟨w.heap.size, 0, none⟩) xs.length xs.length) xs.length ((rows ++ [([.int .i64 x.kind, .int .i64 x.id, .slice a2z x.vec.length d2z, .int .i64 x.session, .int .i64 x.seq] : List Value)]).flatten ++ Q.drop 5)
        rw [List.flatten_append]
        simpa using o3
      have hl2 := (o2.lt w.heap.size rfl).2
      clear o3 o2 E hb2 hl5
      have hQ2 : Hid ((Q.drop 5).length = (xs.length - (k + 1)) * 5) := by
        show (Q.drop 5).length = (xs.length - (k + 1)) * 5
        rw [List.length_drop, hQ, show xs.length - k = xs.length - (k + 1) + 1 by omega, Nat.add_mul]
        omega
      clear hQ HQ
      go_wp2_with fail
      go_roundw
      case rel => exact ⟨k + 1, rows ++ [([.int .i64 x.kind, .int .i64 x.id, .slice a2z x.vec.length d2z, .int .i64 x.session, .int .i64 x.seq] : List Value)], Q.drop 5, w2.heap.size, by omega, by go_num, unhide HO, unhide hQ2, (by rw [unhide HT]; exact unhide HS), Nat.le_of_eq (unhide HZ).symm, by omega, unhide HB⟩
      case measure => simp [intOf]; omega
    · obtain rfl : k = xs.length := by omega
      have e0 : Q = [] := List.eq_nil_of_length_eq_zero (by rw [hQ]; simp)
      subst e0
      rw [List.append_nil] at hown
      rw [List.take_length] at hsub
      have HO := hide (Lay.subs_done (A := Lay.tWrite) hown hsub (by omega) hhi hbig)
      have HB := hide hB
      clear hown hsub hB
      go_wp2_with fail
      go_ret
      exact ⟨_, rfl, unhide HO, unhide HB⟩

end Go.Proofs.Ytgjjmbliahhhjaa
