/-
  The model's l4Set at every list: an item put, or gone, in new memory; nothing old is written.
  Condition: at most 1000000 items, each with at most 100000000 numbers.
-/
import Derived.Test.YtkodenmpadehjabSpecSet
namespace Go.Proofs.Ytkodenmpadehjab
open Go.RowKit

set_option maxRecDepth 100000 in
set_option maxHeartbeats 1000000 in
theorem specSet_zero (ao : Option Addr) (cap : Nat) (nw : DItem) (a2 : Option Addr) (d2 : Nat) (has : Bool) (w : World) (hv : (Lay.sl Lay.int).Reads w [.slice a2 nw.vec.length d2] nw.vec) (hw : (Lit.int .i64 nw.id).wf = true) (hx2 : nw.vec.length ≤ 100000000) :
    Calls Try.prog 43 #[.slice ao 0 cap, .int .i64 nw.id, .slice a2 nw.vec.length d2, .bool has] w fun e w' => ∃ v', e = .returned v' ∧ (∃ rows bls, Grow Lay.tItem w' w.heap.size 33 v' rows (setM [] nw has) bls ∧ ∀ c ∈ bls.flatten, w.heap.size ≤ c) ∧ Below w.heap.size w w' := by
  obtain ⟨blN, hlN⟩ := hv
  have hN : Lay.tItem.lies w [.int .i64 nw.id, .slice a2 nw.vec.length d2] nw blN := lies_Item.2 ⟨a2, d2, blN, rfl, rfl, hw, hlN⟩
  have hNl : ∀ c ∈ blN, c < w.heap.size := Lay.tItem.lt hN
  have nb : Below w.heap.size w (w.alloc (.cells #[] 33)) := (Below.refl w.heap.size w).alloc (Nat.le_refl _) (.cells #[] 33)
  have G0 : Grow Lay.tItem (w.alloc (.cells #[] 33)) w.heap.size 33 (.slice (some ⟨w.heap.size, 0, none⟩) 0 0) [] [] [] := Grow.nil (World.ownsRow_lit w #[] 0 (Nat.le_refl _) (Nat.zero_le _) rfl)
  have hLN := Lay.tItem.keep hN fun c hc => nb.block c (hNl c hc)
  have hoff : ∀ c ∈ blN, (Value.slice (some ⟨w.heap.size, 0, none⟩) 0 0).ownBlock ≠ some c := fun c hc e => by have h1 := hNl c hc; simp [Value.ownBlock] at e; omega
  have HZ : Hid (w.heap.size ≤ (w.alloc (.cells #[] 33)).heap.size) := nb.size
  have HB0 := hide nb
  cases has with
  | false =>
    have HL := hide (specCopyG _ [] _ (G0.toReads (by simp)) (by simp) (by simp))
    clear G0 hLN hoff hN hNl hlN nb
    go_enter Try.func43, Try.ntmps43
    go_wp2_with fail
    refine wp_loop_rounds 1 ?_
    rw [rounds_succ]
    go_wp2_with fail
    refine (unhide HL).mono ?_
    rintro e w6 ⟨v6, rfl, hR6, hb6⟩
    have HB6 := hide ((unhide HB0).trans (hb6.mono (unhide HB0).size))
    obtain ⟨rows6, bls6, hG6, hs6⟩ := hR6
    have HR6 : Hid (∃ rows bls, Grow Lay.tItem w6 w.heap.size 33 v6 rows _ bls ∧ ∀ c ∈ bls.flatten, w.heap.size ≤ c) := ⟨rows6, bls6, hG6.lower (unhide HB0).size, fun c hc => Nat.le_trans (unhide HB0).size (hs6 c hc)⟩
    clear hb6 hG6 hs6
    go_wp2_with fail
    go_ret
    exact ⟨_, rfl, unhide HR6, unhide HB6⟩
  | true =>
    clear hN hNl hlN nb
    go_enter Try.func43, Try.ntmps43
    go_wp2_with fail
    refine wp_loop_rounds 1 ?_
    rw [rounds_succ]
    generalize hW : w.alloc (.cells #[] 33) = W1 at *
    have hsz : w.heap.size < W1.heap.size := by rw [← hW]; simp
    clear hW
    go_wp2_with (at_builtin; refine wpList_append_Item G0 hLN hoff rfl _ _ rfl rfl rfl (by simp) (unhide HZ) ?_)
    rintro g5 cp5 w5 hG5 hb5 hE5 hl5 hz5 hor
    have hR := hG5.toReads (by simp)
    have HL := hide (specCopyG _ ([] ++ [nw]) w5 hR (by simp) (by intro y hy; rw [List.mem_singleton.1 hy]; exact hx2))
    have HB5 := hide ((unhide HB0).trans hb5)
    clear G0 hoff hLN hG5 hb5 hE5 hor HZ hR hz5
    go_wp2_with fail
    refine (unhide HL).mono ?_
    rintro e w6 ⟨v6, rfl, hR6, hb6⟩
    have HB6 := hide ((unhide HB5).trans (hb6.mono (unhide HB5).size))
    obtain ⟨rows6, bls6, hG6, hs6⟩ := hR6
    have HR6 : Hid (∃ rows bls, Grow Lay.tItem w6 w.heap.size 33 v6 rows _ bls ∧ ∀ c ∈ bls.flatten, w.heap.size ≤ c) := ⟨rows6, bls6, hG6.lower (unhide HB5).size, fun c hc => Nat.le_trans (unhide HB5).size (hs6 c hc)⟩
    clear hb6 hG6 hs6
    go_wp2_with fail
    go_ret
    exact ⟨_, rfl, unhide HR6, unhide HB6⟩

theorem specSetG (v : Value) (xs : List DItem) (id : Int) (vec : List Int) (vv : Value) (has : Bool) (w : World) (h : (Lay.sl Lay.tItem).Reads w [v] xs) (hv : (Lay.sl Lay.int).Reads w [vv] vec) (hw : (Lit.int .i64 id).wf = true)
    (hn : xs.length ≤ 1000000) (hx : ∀ x ∈ xs, x.vec.length ≤ 100000000) (hx2 : vec.length ≤ 100000000) :
    Calls Try.prog 43 #[v, .int .i64 id, vv, .bool has] w fun e w' => ∃ v', e = .returned v' ∧ (∃ rows bls, Grow Lay.tItem w' w.heap.size 33 v' rows (setM xs ⟨id, vec⟩ has) bls ∧ ∀ c ∈ bls.flatten, w.heap.size ≤ c) ∧ Below w.heap.size w w' := by
  obtain ⟨ao, cap, rfl⟩ := open_sl h
  obtain ⟨ao2, cap2, rfl⟩ := open_sl hv
  by_cases hp : 0 < xs.length
  · obtain ⟨b, off, rfl, hbl⟩ := Lay.sl_addr h hp
    exact specSet_pos b off cap xs ⟨id, vec⟩ ao2 cap2 has w h hv hw hbl hn hx hx2
  · obtain rfl : xs = [] := List.eq_nil_of_length_eq_zero (by omega)
    exact specSet_zero ao cap ⟨id, vec⟩ ao2 cap2 has w hv hw hx2

/-- l4Set of the model. -/
theorem specSet (v : Value) (xs : List DItem) (id : Int) (vec : List Int) (vv : Value) (has : Bool) (w : World) (h : (Lay.sl Lay.tItem).Reads w [v] xs) (hv : (Lay.sl Lay.int).Reads w [vv] vec) (hw : (Lit.int .i64 id).wf = true)
    (hn : xs.length ≤ 1000000) (hx : ∀ x ∈ xs, x.vec.length ≤ 100000000) (hx2 : vec.length ≤ 100000000) :
    Calls Try.prog 43 #[v, .int .i64 id, vv, .bool has] w fun e w' => ∃ v', e = .returned v' ∧ (Lay.sl Lay.tItem).LiesIn w' [v'] (setM xs ⟨id, vec⟩ has) w.heap.size w'.heap.size ∧ Below w.heap.size w w' := by
  refine (specSetG v xs id vec vv has w h hv hw hn hx hx2).mono ?_
  rintro e w' ⟨v', rfl, ⟨rows, bls, hG, hs⟩, hb⟩
  have hl := setM_size xs ⟨id, vec⟩ has
  exact ⟨v', rfl, hG.toLies (by omega) hs, hb⟩

end Go.Proofs.Ytkodenmpadehjab
