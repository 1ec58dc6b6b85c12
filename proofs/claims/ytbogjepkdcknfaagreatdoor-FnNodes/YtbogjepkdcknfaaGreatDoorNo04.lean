/-
  Texts of this proof in one: SpecNCopy, SpecNCopyG, SpecNCrashG, DrawN9, DrawB9, DrawCl9, DrawTk9, SamePlain, OncePlain, NodesPlain, Big, TickMap, ToldPlain.
  Their conditions stand in their theorems.
-/
import Derived.Test.YtbogjepkdcknfaaGreatDoorNo02
import Derived.Test.YtbogjepkdcknfaaGreatDoorNo03
import Derived.Test.YtbogjepkdcknfaaGreatDoorNo01
import Derived.Deep.RegionHeld3
import Derived.Test.YtbogjepkdcknfaaGreatDoorChecked
import Derived.Maps.OwnSet
import Derived.DeepKeys4

namespace Go.Proofs.YtbogjepkdcknfaaGreatDoor
open Go.RowKit

theorem node_vecs9 {x : DNode} (h : NodeOK x) : ∀ y ∈ x.writes, y.vec.length ≤ 100000000 := fun y hy => by
  obtain ⟨-, -, -, hk⟩ := writeFault_zero (h.ws y hy)
  rcases hk with ⟨-, hv⟩ | ⟨-, hv⟩
  · have := (vecFault_zero hv).1; omega
  · rw [hv]; simp
set_option maxRecDepth 10000 in
set_option maxHeartbeats 2000000 in
theorem ncopyC (cs : List Value) (x : DNode) (w : World) (h : Lay.tNode.Reads w cs x) (hn : x.writes.length ≤ 1000000) (hv : ∀ y ∈ x.writes, y.vec.length ≤ 100000000) :
    Calls Tryz.prog 24 #[.agg cs.toArray] w fun e w' => ∃ a6 d6, e = .returned (.agg #[.int .i64 x.id, .bool x.up, .int .i64 x.epoch, .int .i64 x.lease, .slice a6 x.writes.length d6, .int .i64 x.sure, .int .i64 x.clean]) ∧ (Lay.sl Lay.tWrite).LiesIn w' [.slice a6 x.writes.length d6] x.writes w.heap.size w'.heap.size ∧ Below w.heap.size w w' := by
  obtain ⟨a4, d4, rfl, R4⟩ := open_Node h
  have nb : Below w.heap.size w ((w.alloc (.cells #[.int .i64 x.id, .bool x.up, .int .i64 x.epoch, .int .i64 x.lease, .slice a4 x.writes.length d4, .int .i64 x.sure, .int .i64 x.clean] 26)).alloc (.cells #[.int .i64 0, .bool false, .int .i64 0, .int .i64 0, .slice none 0 0, .int .i64 0, .int .i64 0] 26)) := ((Below.refl _ _).alloc (Nat.le_refl _) _).alloc (by simp) _
  have bX : Box 0 #[.int .i64 x.id, .bool x.up, .int .i64 x.epoch, .int .i64 x.lease, .slice a4 x.writes.length d4, .int .i64 x.sure, .int .i64 x.clean] 26 ((w.alloc (.cells #[.int .i64 x.id, .bool x.up, .int .i64 x.epoch, .int .i64 x.lease, .slice a4 x.writes.length d4, .int .i64 x.sure, .int .i64 x.clean] 26)).alloc (.cells #[.int .i64 0, .bool false, .int .i64 0, .int .i64 0, .slice none 0 0, .int .i64 0, .int .i64 0] 26)) w.heap.size := (newBox (Nat.zero_le _)).grow _
  have bR : Box 0 #[.int .i64 0, .bool false, .int .i64 0, .int .i64 0, .slice none 0 0, .int .i64 0, .int .i64 0] 26 ((w.alloc (.cells #[.int .i64 x.id, .bool x.up, .int .i64 x.epoch, .int .i64 x.lease, .slice a4 x.writes.length d4, .int .i64 x.sure, .int .i64 x.clean] 26)).alloc (.cells #[.int .i64 0, .bool false, .int .i64 0, .int .i64 0, .slice none 0 0, .int .i64 0, .int .i64 0] 26)) (w.heap.size + 1) := newBoxAt (Nat.zero_le _) (by simp)
  have HL := hide (wcopyC _ x.writes _ (R4.later nb) (by omega) hv)
  have HX := hide bX
  have HR := hide bR
  have HB := hide nb
  clear h nb bX bR R4 hv
  go_enter Tryz.func24, Tryz.ntmps24
  go_wp2_with fail
  generalize (w.alloc (.cells #[.int .i64 x.id, .bool x.up, .int .i64 x.epoch, .int .i64 x.lease, .slice a4 x.writes.length d4, .int .i64 x.sure, .int .i64 x.clean] 26)).alloc (.cells #[.int .i64 0, .bool false, .int .i64 0, .int .i64 0, .slice none 0 0, .int .i64 0, .int .i64 0] 26) = W0 at *
  refine (unhide HL).mono ?_
  rintro e w1 ⟨v6, rfl, ⟨rows, bls, hG, hS⟩, hb⟩
  have hl := hG.toLies (by omega) hS
  obtain ⟨a6, d6, rfl⟩ := open_sl hl.reads
  have bX1 := (unhide HX).keep hb
  have bR1 := (unhide HR).keep hb
  have hlo := (unhide HR).lt
  have y0 := Box.at bX1 0 _ rfl
  have y1 := Box.at bX1 1 _ rfl
  have y2 := Box.at bX1 2 _ rfl
  have y3 := Box.at bX1 3 _ rfl
  have y4 := Box.at bX1 4 _ rfl
  have y5 := Box.at bX1 5 _ rfl
  have y6 := Box.at bX1 6 _ rfl
  simp only [List.getElem_toArray, List.getElem_cons_zero, List.getElem_cons_succ] at y0 y1 y2 y3 y4 y5 y6
  have z0 := Box.at bR1 0 _ rfl
  have z1 := Box.at bR1 1 _ rfl
  have z2 := Box.at bR1 2 _ rfl
  have z3 := Box.at bR1 3 _ rfl
  have z4 := Box.at bR1 4 _ rfl
  have z5 := Box.at bR1 5 _ rfl
  have z6 := Box.at bR1 6 _ rfl
  simp only [List.getElem_toArray, List.getElem_cons_zero, List.getElem_cons_succ] at z0 z1 z2 z3 z4 z5 z6
  have yf := Box.soft bX1
  have yl := Box.lt bX1
  have ff := Box.soft bR1
  have l0 := Box.lt bR1
  have HB1 := hide ((unhide HB).trans (hb.mono (unhide HB).size))
  have HO1 := hide hl
  clear hb hG hS hl bX1 bR1 HL HX HR HB
  go_wp2_with fail
  refine bodyPost_ret (v := .agg #[.int .i64 x.id, .bool x.up, .int .i64 x.epoch, .int .i64 x.lease, .slice a6 x.writes.length d6, .int .i64 x.sure, .int .i64 x.clean]) (by simp [results, Tryz.results24, go_sem, z0, z1, z2, z3, z4, z5, z6]) rfl ?_
  have hB8 : Below w.heap.size w (w1.setCell ⟨w.heap.size, 4, none⟩ (.slice a6 x.writes.length d6)) := (unhide HB1).setCell (by simp) _
  have hB9 := below_setAll hB8 (w.heap.size + 1) 0 [.int .i64 x.id, .bool x.up, .int .i64 x.epoch, .int .i64 x.lease, .slice a6 x.writes.length d6, .int .i64 x.sure, .int .i64 x.clean] (by omega)
  have e1 : Ext (fun q => q = w.heap.size) w1 (w1.setCell ⟨w.heap.size, 4, none⟩ (.slice a6 x.writes.length d6)) := (Ext.refl (fun q => q = w.heap.size) _).setCell ⟨w.heap.size, 4, none⟩ _ rfl
  have o1 := (unhide HO1).ext e1 (fun q h1 h2 h3 => by omega)
  have o2 := lies_store' (s := w.heap.size + 1) (vs := [.int .i64 x.id, .bool x.up, .int .i64 x.epoch, .int .i64 x.lease, .slice a6 x.writes.length d6, .int .i64 x.sure, .int .i64 x.clean]) o1 (by omega)
  have hz := size_setAll (w1.setCell ⟨w.heap.size, 4, none⟩ (.slice a6 x.writes.length d6)) (w.heap.size + 1) 0 [.int .i64 x.id, .bool x.up, .int .i64 x.epoch, .int .i64 x.lease, .slice a6 x.writes.length d6, .int .i64 x.sure, .int .i64 x.clean]
  refine ⟨a6, d6, rfl, o2.mono (by omega) ?_, hB9⟩
  refine Nat.le_trans ?_ (Nat.le_of_eq hz.symm)
  simp
end Go.Proofs.YtbogjepkdcknfaaGreatDoor

namespace Go.Proofs.YtbogjepkdcknfaaGreatDoor
open Go.RowKit

theorem grown_set9 (w : World) (b o : Nat) (u : Value) : w.grownBy (w.setCell ⟨b, o, none⟩ u) (some b) :=
  ⟨rfl, rfl, rfl, by simp, fun k _ hk => heap_setCell_other w ⟨b, o, none⟩ k u (fun e => hk (by rw [e]))⟩
theorem grow_setAll {α : Type} {A : Lay α} {w : World} {base T : Nat} {v : Value} {rows : List (List Value)} {xs : List α} {bls : List (List Nat)} (h : Grow A w base T v rows xs bls) (s i : Nat) (vs : List Value) (hs : s < base) (hb : ∀ c ∈ bls.flatten, base ≤ c) : Grow A (setAll w s i vs) base T v rows xs bls := by
  induction vs generalizing w i with
  | nil => exact h
  | cons u us ih => exact ih (h.grown (grown_set9 w s i u) hs hb) (i + 1)
theorem flat_take {rows : List (List Value)} {n : Nat} (h : ∀ r ∈ rows, r.length = n) (k : Nat) : (rows.take k).flatten = rows.flatten.take (k * n) := by
  induction rows generalizing k with
  | nil => simp
  | cons r rs ih =>
    match k with
    | 0 => simp
    | k + 1 =>
      have hr := h r (by simp)
      rw [List.take_succ_cons, List.flatten_cons, List.flatten_cons, ih (fun q hq => h q (List.mem_cons_of_mem _ hq)) k, List.take_append, hr, show (k + 1) * n - n = k * n by rw [Nat.add_mul]; omega]
      congr 1
      rw [List.take_of_length_le]
      rw [hr, Nat.add_mul]
      omega
theorem grow_take {α : Type} {A : Lay α} {w : World} {base T : Nat} {a : Option Addr} {cap n : Nat} {rows : List (List Value)} {xs : List α} {bls : List (List Nat)} (h : Grow A w base T (.slice a n cap) rows xs bls) (k : Nat) (hk : k ≤ xs.length) : Grow A w base T (.slice a k cap) (rows.take k) (xs.take k) (bls.take k) := by
  have hl : (xs.take k).length = k := by rw [List.length_take]; omega
  have hn := h.nrows
  have hm := h.nbls
  have hrl := h.row_len
  have hsub : ∀ b ∈ (bls.take k).flatten, b ∈ bls.flatten := fun b hb => by
    obtain ⟨l, h3, h4⟩ := List.mem_flatten.1 hb
    exact List.mem_flatten.2 ⟨l, List.mem_of_mem_take h3, h4⟩
  refine ⟨?_, by simp [hn], by simp [hm], fun j q1 q2 q3 => ?_, fun b hb e => h.off b (hsub b hb) (by cases a <;> exact e)⟩
  · rw [hl, flat_take hrl]
    obtain ⟨h1, h2⟩ := h.own
    refine ⟨by rw [List.length_take, h1, Nat.min_eq_left (Nat.mul_le_mul_right _ hk)], ?_⟩
    rcases h2 with ⟨he, h0⟩ | ⟨g, cp, cu, he, hg, hh, hc, hcm, hsz, htk⟩
    · simp only [Value.slice.injEq] at he
      obtain ⟨rfl, rfl, rfl⟩ := he
      obtain rfl : k = 0 := by omega
      exact Or.inl ⟨rfl, rfl⟩
    · simp only [Value.slice.injEq] at he
      obtain ⟨rfl, rfl, rfl⟩ := he
      refine Or.inr ⟨g, _, cu, rfl, hg, hh, by omega, hcm, hsz, ?_⟩
      rw [← htk, List.take_take, Nat.min_eq_left (Nat.mul_le_mul_right _ hk)]
  · simp only [List.getElem_take]
    rw [List.length_take] at q1 q2 q3
    exact h.lies j (by omega) (by omega) (by omega)

set_option maxRecDepth 10000 in
set_option maxHeartbeats 2000000 in
theorem ncopyG (cs : List Value) (x : DNode) (w : World) (h : Lay.tNode.Reads w cs x) (hn : x.writes.length ≤ 1000000) (hv : ∀ y ∈ x.writes, y.vec.length ≤ 100000000) :
    Calls Tryz.prog 24 #[.agg cs.toArray] w fun e w' => ∃ a6 d6 rows bls, e = .returned (.agg #[.int .i64 x.id, .bool x.up, .int .i64 x.epoch, .int .i64 x.lease, .slice a6 x.writes.length d6, .int .i64 x.sure, .int .i64 x.clean]) ∧ Grow Lay.tWrite w' w.heap.size 29 (.slice a6 x.writes.length d6) rows x.writes bls ∧ (∀ c ∈ bls.flatten, w.heap.size ≤ c) ∧ Below w.heap.size w w' := by
  obtain ⟨a4, d4, rfl, R4⟩ := open_Node h
  have nb : Below w.heap.size w ((w.alloc (.cells #[.int .i64 x.id, .bool x.up, .int .i64 x.epoch, .int .i64 x.lease, .slice a4 x.writes.length d4, .int .i64 x.sure, .int .i64 x.clean] 26)).alloc (.cells #[.int .i64 0, .bool false, .int .i64 0, .int .i64 0, .slice none 0 0, .int .i64 0, .int .i64 0] 26)) := ((Below.refl _ _).alloc (Nat.le_refl _) _).alloc (by simp) _
  have bX : Box 0 #[.int .i64 x.id, .bool x.up, .int .i64 x.epoch, .int .i64 x.lease, .slice a4 x.writes.length d4, .int .i64 x.sure, .int .i64 x.clean] 26 ((w.alloc (.cells #[.int .i64 x.id, .bool x.up, .int .i64 x.epoch, .int .i64 x.lease, .slice a4 x.writes.length d4, .int .i64 x.sure, .int .i64 x.clean] 26)).alloc (.cells #[.int .i64 0, .bool false, .int .i64 0, .int .i64 0, .slice none 0 0, .int .i64 0, .int .i64 0] 26)) w.heap.size := (newBox (Nat.zero_le _)).grow _
  have bR : Box 0 #[.int .i64 0, .bool false, .int .i64 0, .int .i64 0, .slice none 0 0, .int .i64 0, .int .i64 0] 26 ((w.alloc (.cells #[.int .i64 x.id, .bool x.up, .int .i64 x.epoch, .int .i64 x.lease, .slice a4 x.writes.length d4, .int .i64 x.sure, .int .i64 x.clean] 26)).alloc (.cells #[.int .i64 0, .bool false, .int .i64 0, .int .i64 0, .slice none 0 0, .int .i64 0, .int .i64 0] 26)) (w.heap.size + 1) := newBoxAt (Nat.zero_le _) (by simp)
  have HL := hide (wcopyC _ x.writes _ (R4.later nb) (by omega) hv)
  have HX := hide bX
  have HR := hide bR
  have HB := hide nb
  clear h nb bX bR R4 hv
  go_enter Tryz.func24, Tryz.ntmps24
  go_wp2_with fail
  generalize (w.alloc (.cells #[.int .i64 x.id, .bool x.up, .int .i64 x.epoch, .int .i64 x.lease, .slice a4 x.writes.length d4, .int .i64 x.sure, .int .i64 x.clean] 26)).alloc (.cells #[.int .i64 0, .bool false, .int .i64 0, .int .i64 0, .slice none 0 0, .int .i64 0, .int .i64 0] 26) = W0 at *
  refine (unhide HL).mono ?_
  rintro e w1 ⟨v6, rfl, ⟨rows, bls, hG, hS⟩, hb⟩
  have hl := hG.toLies (by omega) hS
  obtain ⟨a6, d6, rfl⟩ := open_sl hl.reads
  have bX1 := (unhide HX).keep hb
  have bR1 := (unhide HR).keep hb
  have hlo := (unhide HR).lt
  have y0 := Box.at bX1 0 _ rfl
  have y1 := Box.at bX1 1 _ rfl
  have y2 := Box.at bX1 2 _ rfl
  have y3 := Box.at bX1 3 _ rfl
  have y4 := Box.at bX1 4 _ rfl
  have y5 := Box.at bX1 5 _ rfl
  have y6 := Box.at bX1 6 _ rfl
  simp only [List.getElem_toArray, List.getElem_cons_zero, List.getElem_cons_succ] at y0 y1 y2 y3 y4 y5 y6
  have z0 := Box.at bR1 0 _ rfl
  have z1 := Box.at bR1 1 _ rfl
  have z2 := Box.at bR1 2 _ rfl
  have z3 := Box.at bR1 3 _ rfl
  have z4 := Box.at bR1 4 _ rfl
  have z5 := Box.at bR1 5 _ rfl
  have z6 := Box.at bR1 6 _ rfl
  simp only [List.getElem_toArray, List.getElem_cons_zero, List.getElem_cons_succ] at z0 z1 z2 z3 z4 z5 z6
  have yf := Box.soft bX1
  have yl := Box.lt bX1
  have ff := Box.soft bR1
  have l0 := Box.lt bR1
  have HB1 := hide ((unhide HB).trans (hb.mono (unhide HB).size))
  have HO1 := hide hG
  have HS1 := hide hS
  have HZ0 := hide hb.size
  clear hb hG hS hl bX1 bR1 HL HX HR HB
  go_wp2_with fail
  refine bodyPost_ret (v := .agg #[.int .i64 x.id, .bool x.up, .int .i64 x.epoch, .int .i64 x.lease, .slice a6 x.writes.length d6, .int .i64 x.sure, .int .i64 x.clean]) (by simp [results, Tryz.results24, go_sem, z0, z1, z2, z3, z4, z5, z6]) rfl ?_
  have hB8 : Below w.heap.size w (w1.setCell ⟨w.heap.size, 4, none⟩ (.slice a6 x.writes.length d6)) := (unhide HB1).setCell (by simp) _
  have hB9 := below_setAll hB8 (w.heap.size + 1) 0 [.int .i64 x.id, .bool x.up, .int .i64 x.epoch, .int .i64 x.lease, .slice a6 x.writes.length d6, .int .i64 x.sure, .int .i64 x.clean] (by omega)
  have g1 := (unhide HO1).grown (grown_set9 w1 w.heap.size 4 (.slice a6 x.writes.length d6)) (by omega) (unhide HS1)
  have g2 := grow_setAll g1 (w.heap.size + 1) 0 [.int .i64 x.id, .bool x.up, .int .i64 x.epoch, .int .i64 x.lease, .slice a6 x.writes.length d6, .int .i64 x.sure, .int .i64 x.clean] (by omega) (unhide HS1)
  exact ⟨a6, d6, rows, bls, rfl, g2.lower (by omega), fun c hc => by have := unhide HS1 c hc; omega, hB9⟩
end Go.Proofs.YtbogjepkdcknfaaGreatDoor

namespace Go.Proofs.YtbogjepkdcknfaaGreatDoor
open Go.RowKit

set_option maxRecDepth 10000 in
set_option maxHeartbeats 4000000 in
theorem ncrashG (cs : List Value) (x : DNode) (k t : Nat) (w : World) (h : Lay.tNode.Reads w cs x) (hn : x.writes.length ≤ 1000) (hv : ∀ y ∈ x.writes, y.vec.length ≤ 100000000) (_hs : 0 ≤ x.sure) (hkt : x.sure + (k : Int) = (t : Int)) (ht : t ≤ x.writes.length) :
    Calls Tryz.prog 62 #[.agg cs.toArray, .int .i64 (k : Int)] w fun e w' => ∃ a6 d6 rows bls, e = .returned (.agg #[.int .i64 x.id, .bool false, .int .i64 x.epoch, .int .i64 0, .slice a6 t d6, .int .i64 (t : Int), .int .i64 0]) ∧ Grow Lay.tWrite w' w.heap.size 29 (.slice a6 t d6) rows (x.writes.take t) bls ∧ (∀ c ∈ bls.flatten, w.heap.size ≤ c) ∧ Below w.heap.size w w' := by
  have hN := h
  obtain ⟨a4, d4, rfl, R4⟩ := open_Node h
  have nb : Below w.heap.size w ((w.alloc (.cells #[.int .i64 x.id, .bool x.up, .int .i64 x.epoch, .int .i64 x.lease, .slice a4 x.writes.length d4, .int .i64 x.sure, .int .i64 x.clean] 26)).alloc (.cells #[.int .i64 0, .bool false, .int .i64 0, .int .i64 0, .slice none 0 0, .int .i64 0, .int .i64 0] 26)) := ((Below.refl _ _).alloc (Nat.le_refl _) _).alloc (by simp) _
  have bX : Box 0 #[.int .i64 x.id, .bool x.up, .int .i64 x.epoch, .int .i64 x.lease, .slice a4 x.writes.length d4, .int .i64 x.sure, .int .i64 x.clean] 26 ((w.alloc (.cells #[.int .i64 x.id, .bool x.up, .int .i64 x.epoch, .int .i64 x.lease, .slice a4 x.writes.length d4, .int .i64 x.sure, .int .i64 x.clean] 26)).alloc (.cells #[.int .i64 0, .bool false, .int .i64 0, .int .i64 0, .slice none 0 0, .int .i64 0, .int .i64 0] 26)) w.heap.size := (newBox (Nat.zero_le _)).grow _
  have bR : Box 0 #[.int .i64 0, .bool false, .int .i64 0, .int .i64 0, .slice none 0 0, .int .i64 0, .int .i64 0] 26 ((w.alloc (.cells #[.int .i64 x.id, .bool x.up, .int .i64 x.epoch, .int .i64 x.lease, .slice a4 x.writes.length d4, .int .i64 x.sure, .int .i64 x.clean] 26)).alloc (.cells #[.int .i64 0, .bool false, .int .i64 0, .int .i64 0, .slice none 0 0, .int .i64 0, .int .i64 0] 26)) (w.heap.size + 1) := newBoxAt (Nat.zero_le _) (by simp)
  have HL := hide (ncopyG _ x _ (hN.later nb) (by omega) hv)
  have HX := hide bX
  have HR := hide bR
  have HB := hide nb
  have HKT := hide hkt
  clear h hN nb bX bR R4 hv hkt
  go_enter Tryz.func62, Tryz.ntmps62
  go_wp2_with fail
  generalize (w.alloc (.cells #[.int .i64 x.id, .bool x.up, .int .i64 x.epoch, .int .i64 x.lease, .slice a4 x.writes.length d4, .int .i64 x.sure, .int .i64 x.clean] 26)).alloc (.cells #[.int .i64 0, .bool false, .int .i64 0, .int .i64 0, .slice none 0 0, .int .i64 0, .int .i64 0] 26) = W0 at *
  refine (unhide HL).mono ?_
  rintro e w2 ⟨a6, d6, rows, bls, rfl, O, hS, hb⟩
  have hrl : w.heap.size + 1 < W0.heap.size := (unhide HR).lt
  have hz2 := hb.size
  have hkt := unhide HKT
  have hcap : x.writes.length ≤ d6 := (O.toReads (by omega)).cap.2
  have htd : t ≤ d6 := by omega
  have bX2 := (unhide HX).keep hb
  have bR2 := (unhide HR).keep hb
  have HBw := hide ((unhide HB).trans (hb.mono (unhide HB).size))
  have HOw := hide (grow_take O t ht)
  have HS2 : Hid (∀ c ∈ (bls.take t).flatten, W0.heap.size ≤ c) := fun c hc => by
    obtain ⟨l, h3, h4⟩ := List.mem_flatten.1 hc
    exact hS c (List.mem_flatten.2 ⟨l, List.mem_of_mem_take h3, h4⟩)
  have y5 := Box.at bX2 5 _ rfl
  simp only [List.getElem_toArray, List.getElem_cons_zero, List.getElem_cons_succ] at y5
  have z0 := Box.at bR2 0 _ rfl
  have z1 := Box.at bR2 1 _ rfl
  have z2 := Box.at bR2 2 _ rfl
  have z3 := Box.at bR2 3 _ rfl
  have z4 := Box.at bR2 4 _ rfl
  have z5 := Box.at bR2 5 _ rfl
  have z6 := Box.at bR2 6 _ rfl
  simp only [List.getElem_toArray, List.getElem_cons_zero, List.getElem_cons_succ] at z0 z1 z2 z3 z4 z5 z6
  have ff := Box.soft bR2
  have l0 := Box.lt bR2
  have yl := bX2.lt
  clear bX2 O hS hb HL HX HR HB HKT
  have hne : w.heap.size + 1 < w2.heap.size := by omega
  have bF : Box 0 #[.int .i64 x.id, .bool false, .int .i64 x.epoch, .int .i64 0, .slice a6 t d6, .int .i64 (t : Int), .int .i64 0] 26 ((((((((w2.setCell ⟨w.heap.size + 1, 0, none⟩ (.int .i64 x.id)).setCell ⟨w.heap.size + 1, 1, none⟩ (.bool false)).setCell ⟨w.heap.size + 1, 2, none⟩ (.int .i64 x.epoch)).setCell ⟨w.heap.size + 1, 3, none⟩ (.int .i64 0)).setCell ⟨w.heap.size + 1, 4, none⟩ (.slice a6 t d6)).setCell ⟨w.heap.size + 1, 5, none⟩ (.int .i64 (t : Int))).setCell ⟨w.heap.size + 1, 6, none⟩ (.int .i64 0)).alloc (.cells #[.int .i64 x.id, .bool false, .int .i64 x.epoch, .int .i64 0, .slice a6 t d6, .int .i64 (t : Int), .int .i64 0] 26)) (w.heap.size + 1) := Box.grow (box_set7 bR2 (.int .i64 x.id) (.bool false) (.int .i64 x.epoch) (.int .i64 0) (.slice a6 t d6) (.int .i64 (t : Int)) (.int .i64 0)) _
  have k_0 := Box.at bF 0 _ rfl
  have k_1 := Box.at bF 1 _ rfl
  have k_2 := Box.at bF 2 _ rfl
  have k_3 := Box.at bF 3 _ rfl
  have k_4 := Box.at bF 4 _ rfl
  have k_5 := Box.at bF 5 _ rfl
  have k_6 := Box.at bF 6 _ rfl
  simp only [List.getElem_toArray, List.getElem_cons_zero, List.getElem_cons_succ] at k_0 k_1 k_2 k_3 k_4 k_5 k_6
  have HBF : Hid (Below w.heap.size w ((((((((w2.setCell ⟨w.heap.size + 1, 0, none⟩ (.int .i64 x.id)).setCell ⟨w.heap.size + 1, 1, none⟩ (.bool false)).setCell ⟨w.heap.size + 1, 2, none⟩ (.int .i64 x.epoch)).setCell ⟨w.heap.size + 1, 3, none⟩ (.int .i64 0)).setCell ⟨w.heap.size + 1, 4, none⟩ (.slice a6 t d6)).setCell ⟨w.heap.size + 1, 5, none⟩ (.int .i64 (t : Int))).setCell ⟨w.heap.size + 1, 6, none⟩ (.int .i64 0)).alloc (.cells #[.int .i64 x.id, .bool false, .int .i64 x.epoch, .int .i64 0, .slice a6 t d6, .int .i64 (t : Int), .int .i64 0] 26))) := (below_setAll (unhide HBw) (w.heap.size + 1) 0 [.int .i64 x.id, .bool false, .int .i64 x.epoch, .int .i64 0, .slice a6 t d6, .int .i64 (t : Int), .int .i64 0] (by omega)).alloc (by have := (below_setAll (unhide HBw) (w.heap.size + 1) 0 [.int .i64 x.id, .bool false, .int .i64 x.epoch, .int .i64 0, .slice a6 t d6, .int .i64 (t : Int), .int .i64 0] (by omega)).size; exact this) _
  have HOF : Hid (Grow Lay.tWrite ((((((((w2.setCell ⟨w.heap.size + 1, 0, none⟩ (.int .i64 x.id)).setCell ⟨w.heap.size + 1, 1, none⟩ (.bool false)).setCell ⟨w.heap.size + 1, 2, none⟩ (.int .i64 x.epoch)).setCell ⟨w.heap.size + 1, 3, none⟩ (.int .i64 0)).setCell ⟨w.heap.size + 1, 4, none⟩ (.slice a6 t d6)).setCell ⟨w.heap.size + 1, 5, none⟩ (.int .i64 (t : Int))).setCell ⟨w.heap.size + 1, 6, none⟩ (.int .i64 0)).alloc (.cells #[.int .i64 x.id, .bool false, .int .i64 x.epoch, .int .i64 0, .slice a6 t d6, .int .i64 (t : Int), .int .i64 0] 26)) W0.heap.size 29 (.slice a6 t d6) (rows.take t) (x.writes.take t) (bls.take t)) := (grow_setAll (unhide HOw) (w.heap.size + 1) 0 [.int .i64 x.id, .bool false, .int .i64 x.epoch, .int .i64 0, .slice a6 t d6, .int .i64 (t : Int), .int .i64 0] (by omega) (unhide HS2)).later ((Below.refl _ _).alloc (Nat.le_refl _) _)
  clear bR2 bF
  go_wp2_with fail
  refine bodyPost_ret (v := .agg #[.int .i64 x.id, .bool false, .int .i64 x.epoch, .int .i64 0, .slice a6 t d6, .int .i64 (t : Int), .int .i64 0]) (by simp [results, Tryz.results62, go_sem, k_0, k_1, k_2, k_3, k_4, k_5, k_6]) rfl ?_
  exact ⟨a6, d6, _, _, rfl, (unhide HOF).lower (by omega), fun c hc => by have := unhide HS2 c hc; omega, unhide HBF⟩

end Go.Proofs.YtbogjepkdcknfaaGreatDoor

namespace Go.Proofs.YtbogjepkdcknfaaGreatDoor
open Go.RowKit

/-- Numbers that are no trouble. -/
structure BdN (x : DNode) : Prop where
  b0 : -1000000000 ≤ x.id ∧ x.id ≤ 1000000000
  b2 : -1000000000 ≤ x.epoch ∧ x.epoch ≤ 1000000000
  b3 : -1000000000 ≤ x.lease ∧ x.lease ≤ 1000000000
  b5 : -1000000000 ≤ x.sure ∧ x.sure ≤ 1000000000
  b6 : -1000000000 ≤ x.clean ∧ x.clean ≤ 1000000000
theorem node_reads {w : World} {a : Option Addr} {d : Nat} {x : DNode} (hb : BdN x) (h : (Lay.sl Lay.tWrite).Reads w [.slice a x.writes.length d] x.writes) : Lay.tNode.Reads w [.int .i64 x.id, .bool x.up, .int .i64 x.epoch, .int .i64 x.lease, .slice a x.writes.length d, .int .i64 x.sure, .int .i64 x.clean] x := by
  obtain ⟨bl, l⟩ := h
  exact ⟨bl, lies_Node.2 ⟨a, d, bl, rfl, rfl, wf_of_bd hb.b0, wf_of_bd hb.b2, wf_of_bd hb.b3, l, wf_of_bd hb.b5, wf_of_bd hb.b6⟩⟩
/-- A node of the draw's own; the source has gone on. -/
def NodePost (K M b m : Nat) (cv : Value) (w : World) (e : Ending) (w' : World) : Prop :=
  ∃ (a : Option Addr) (d : Nat) (x : DNode) (rows : List (List Value)) (bls : List (List Nat)) (m' : Nat), e = .returned (.agg #[.int .i64 x.id, .bool x.up, .int .i64 x.epoch, .int .i64 x.lease, .slice a x.writes.length d, .int .i64 x.sure, .int .i64 x.clean]) ∧ Grow Lay.tWrite w' (w.heap.size + 1) 29 (.slice a x.writes.length d) rows x.writes bls ∧ (∀ c ∈ bls.flatten, w.heap.size + 1 ≤ c) ∧
    x.writes.length ≤ K ∧ BdN x ∧ SrcAt w' b cv m' ∧ m' ≤ m + M ∧ IsCode b w' cv ∧ w.grownBy w' (some b)
theorem grow_ext {α : Type} {A : Lay α} {S : Nat → Prop} {w w' : World} {base T : Nat} {v : Value} {rows : List (List Value)} {xs : List α} {bls : List (List Nat)} (h : Grow A w base T v rows xs bls) (e : Ext S w w') (hs : ∀ q, base ≤ q → q < w.heap.size → ¬ S q) (hb : ∀ c ∈ bls.flatten, base ≤ c) : Grow A w' base T v rows xs bls := by
  refine h.kept ?_ (fun c hc => e.block c (h.sub_lt c hc) (hs c (hb c hc) (h.sub_lt c hc)))
  obtain ⟨h1, h2⟩ := h.own
  refine ⟨h1, ?_⟩
  rcases h2 with h2 | ⟨g, cap, cu, hv, hg, hh, r⟩
  · exact Or.inl h2
  · exact Or.inr ⟨g, cap, cu, hv, hg, (e.block g (lt_of_block hh) (hs g hg (lt_of_block hh))).trans hh, r⟩
theorem grow_extP {α : Type} {A : Lay α} {S : Nat → Prop} {w w' : World} {base T : Nat} {v : Value} {rows : List (List Value)} {xs : List α} {bls : List (List Nat)} (h : Grow A w base T v rows xs bls) (e : Ext S w w') (h1 : ∀ c ∈ bls.flatten, ¬ S c) (h2 : ∀ g, v.ownBlock = some g → ¬ S g) : Grow A w' base T v rows xs bls := by
  refine h.kept ?_ (fun c hc => e.block c (h.sub_lt c hc) (h1 c hc))
  obtain ⟨q1, q2⟩ := h.own
  refine ⟨q1, ?_⟩
  rcases q2 with q2 | ⟨g, cap, cu, hv, hg, hh, r⟩
  · exact Or.inl q2
  · exact Or.inr ⟨g, cap, cu, hv, hg, (e.block g (lt_of_block hh) (h2 g (by rw [hv]; rfl))).trans hh, r⟩
/-- Where a row and what hangs on it lies. -/
def GrowIn (v : Value) (bls : List (List Nat)) (lo hi : Nat) : Prop := (∀ c ∈ bls.flatten, lo ≤ c ∧ c < hi) ∧ ∀ g, v.ownBlock = some g → lo ≤ g ∧ g < hi
theorem grow_in {α : Type} {A : Lay α} {w : World} {base T : Nat} {v : Value} {rows : List (List Value)} {xs : List α} {bls : List (List Nat)} (h : Grow A w base T v rows xs bls) (hb : ∀ c ∈ bls.flatten, base ≤ c) : GrowIn v bls base w.heap.size :=
  ⟨fun c hc => ⟨hb c hc, h.sub_lt c hc⟩, fun g hg => h.own.lt g hg⟩
theorem grow_extI {α : Type} {A : Lay α} {S : Nat → Prop} {w w' : World} {base T lo hi : Nat} {v : Value} {rows : List (List Value)} {xs : List α} {bls : List (List Nat)} (h : Grow A w base T v rows xs bls) (e : Ext S w w') (i : GrowIn v bls lo hi) (hs : ∀ q, lo ≤ q → q < hi → ¬ S q) : Grow A w' base T v rows xs bls :=
  grow_extP h e (fun c hc => hs c (i.1 c hc).1 (i.1 c hc).2) (fun g hg => hs g (i.2 g hg).1 (i.2 g hg).2)
theorem closeN {K M b m m' : Nat} {cv : Value} {w w3 F : World} {a : Option Addr} {d : Nat} {x : DNode} {rows : List (List Value)} {bls : List (List Nat)} (hE : Ext (fun q => q = b ∨ w.heap.size ≤ q) w w3) (hS : SrcAt w3 b cv m') (hC : IsCode b w3 cv) (hb : b < w.heap.size) (hm : m' ≤ m + M) (hF : Ext (fun q => q = w.heap.size) w3 F)
    (hG : Grow Lay.tWrite w3 (w.heap.size + 1) 29 (.slice a x.writes.length d) rows x.writes bls) (hs : ∀ c ∈ bls.flatten, w.heap.size + 1 ≤ c) (hl : x.writes.length ≤ K) (hx : BdN x) : NodePost K M b m cv w (.returned (.agg #[.int .i64 x.id, .bool x.up, .int .i64 x.epoch, .int .i64 x.lease, .slice a x.writes.length d, .int .i64 x.sure, .int .i64 x.clean])) F := by
  have hz := hE.size
  refine ⟨a, d, x, rows, bls, m', rfl, grow_ext hG hF (fun q h1 _ e => by omega) hs, hs, hl, hx, hS.extW hF (fun e => by omega), hm, hC.extW (by omega) hF (fun k hk e => by omega), ?_⟩
  exact ⟨hF.os.trans hE.os, hF.tape.trans hE.tape, hF.output.trans hE.output, Nat.le_trans hE.size hF.size, fun i hi hn => (hF.block i (by omega) (fun e => by omega)).trans (hE.block i hi (fun e => by
      rcases e with e | e
      · exact hn (by rw [e])
      · omega))⟩

set_option maxRecDepth 100000 in
set_option maxHeartbeats 4000000 in
theorem drawRight9 (b m : Nat) (cv : Value) (w : World) (hs : SrcAt w b cv m) (hc : IsCode b w cv) (hm : m ≤ 1000) :
    Calls Tryz.prog 39 #[.pointer (some ⟨b, 0, none⟩)] w (NodePost 20 2000 b m cv w) := by
  have hbw0 := hs.lt
  have nb : Below w.heap.size w (w.alloc (.cells #[.int .i64 0, .bool false, .int .i64 0, .int .i64 0, .slice none 0 0, .int .i64 0, .int .i64 0] 26)) := (Below.refl _ _).alloc (Nat.le_refl _) _
  have bR : Box 0 #[.int .i64 0, .bool false, .int .i64 0, .int .i64 0, .slice none 0 0, .int .i64 0, .int .i64 0] 26 (w.alloc (.cells #[.int .i64 0, .bool false, .int .i64 0, .int .i64 0, .slice none 0 0, .int .i64 0, .int .i64 0] 26)) w.heap.size := newBox (Nat.zero_le _)
  have L1 := hide (next b m cv 4 _ (hs.onW nb) (hc.onW (Nat.le_of_lt hbw0) nb) (by omega) (by omega) (by omega))
  have HE0 := hide (ext_of_below nb (fun q => q = b ∨ w.heap.size ≤ q))
  have HR0 := hide bR
  clear nb bR hs hc
  go_enter Tryz.func39, Tryz.ntmps39
  go_wp2_with fail
  generalize w.alloc (.cells #[.int .i64 0, .bool false, .int .i64 0, .int .i64 0, .slice none 0 0, .int .i64 0, .int .i64 0] 26) = W0 at *
  refine (unhide L1).mono ?_
  rintro e w1 ⟨r1, rfl, hr1, s1, c1, g1⟩
  have HE1 := hide ((unhide HE0).trans ((ext_grown g1).mono fun k _ h => Or.inl h))
  have HR1 := hide ((unhide HR0).ext (ext_grown g1) (by omega))
  have L2 := hide (next b (m + 1) cv 4 _ s1 c1 (by omega) (by omega) (by omega))
  clear L1 HE0 HR0 s1 c1 g1
  go_wp2_with fail
  refine (unhide L2).mono ?_
  rintro e w2 ⟨r2, rfl, hr2, s2, c2, g2⟩
  have HE2 := hide ((unhide HE1).trans ((ext_grown g2).mono fun k _ h => Or.inl h))
  have HR2 := hide ((unhide HR1).ext (ext_grown g2) (by omega))
  have L3 := hide (next b (m + 1 + 1) cv 20 _ s2 c2 (by omega) (by omega) (by omega))
  clear L2 HE1 HR1 s2 c2 g2
  go_wp2_with fail
  refine (unhide L3).mono ?_
  rintro e w3 ⟨r3, rfl, hr3, s3, c3, g3⟩
  have HE3 := hide ((unhide HE2).trans ((ext_grown g3).mono fun k _ h => Or.inl h))
  have HR3 := hide ((unhide HR2).ext (ext_grown g3) (by omega))
  have L4 := hide (drawRightR b (m + 1 + 1 + 1) 9 cv _ s3 c3 (by omega) (by omega) (by omega))
  clear L3 HE2 HR2 s3 c3 g3
  go_wp2_with fail
  refine (unhide L4).mono ?_
  rintro e w4 ⟨v4, rows, xs, bls, m4, rfl, hG, hS4, hlen, hq, s4, hm4, c4, g4⟩
  have hall : ∀ y ∈ xs, wF y = 0 := fun y hy => (hq y hy).1
  have hR4 := hG.toReads (by omega)
  obtain ⟨a4, d4, rfl⟩ := open_sl hR4
  have HV : Hid (∀ y ∈ xs, y.vec.length ≤ 100000000) := fun y hy => by
    obtain ⟨-, -, -, hk⟩ := writeFault_zero (hall y hy)
    rcases hk with ⟨-, hv⟩ | ⟨-, hv⟩
    · have := (vecFault_zero hv).1; omega
    · rw [hv]; simp
  have hz0 : w.heap.size < w3.heap.size := (unhide HR3).lt
  have hz3 : w3.heap.size ≤ w4.heap.size := g4.size
  have nb5 : Below w4.heap.size w4 (w4.alloc (.cells #[.int .i64 (1 + (r1 : Int)), .bool true, .int .i64 (r2 : Int), .int .i64 (r3 : Int), .slice a4 xs.length d4, .int .i64 0, .int .i64 0] 26)) := (Below.refl _ _).alloc (Nat.le_refl _) _
  have hU5 : Box 0 #[.int .i64 (1 + (r1 : Int)), .bool true, .int .i64 (r2 : Int), .int .i64 (r3 : Int), .slice a4 xs.length d4, .int .i64 0, .int .i64 0] 26 (w4.alloc (.cells #[.int .i64 (1 + (r1 : Int)), .bool true, .int .i64 (r2 : Int), .int .i64 (r3 : Int), .slice a4 xs.length d4, .int .i64 0, .int .i64 0] 26)) w4.heap.size := newBox (Nat.zero_le _)
  have HE5 := hide (((unhide HE3).trans ((ext_grown g4).mono fun k _ h => Or.inl h)).trans (ext_of_below nb5 _))
  have HR5 := hide (((unhide HR3).ext (ext_grown g4) (by omega)).keep nb5)
  have HG5 := hide (hG.later nb5)
  have HS5 := hide hS4
  have HI := hide (grow_in hG hS4)
  have s5 : SrcAt (w4.alloc (.cells #[.int .i64 (1 + (r1 : Int)), .bool true, .int .i64 (r2 : Int), .int .i64 (r3 : Int), .slice a4 xs.length d4, .int .i64 0, .int .i64 0] 26)) b cv m4 := s4.onW nb5
  have c5 : IsCode b (w4.alloc (.cells #[.int .i64 (1 + (r1 : Int)), .bool true, .int .i64 (r2 : Int), .int .i64 (r3 : Int), .slice a4 xs.length d4, .int .i64 0, .int .i64 0] 26)) cv := c4.onW (by omega) nb5
  have L5 := hide (next b m4 cv ((xs.length : Int) + 1) _ s5 c5 (by omega) (by omega) (by omega))
  have HU5 := hide hU5
  have hz5 : w4.heap.size < (w4.alloc (.cells #[.int .i64 (1 + (r1 : Int)), .bool true, .int .i64 (r2 : Int), .int .i64 (r3 : Int), .slice a4 xs.length d4, .int .i64 0, .int .i64 0] 26)).heap.size := by simp
  clear L4 HE3 HR3 s4 c4 g4 hG hS4 hq hall hR4 nb5 hU5 s5 c5
  go_wp2_with fail
  generalize w4.alloc (.cells #[.int .i64 (1 + (r1 : Int)), .bool true, .int .i64 (r2 : Int), .int .i64 (r3 : Int), .slice a4 xs.length d4, .int .i64 0, .int .i64 0] 26) = W5 at *
  refine (unhide L5).mono ?_
  rintro e w5 ⟨r5, rfl, hr5, s5, c5, g5⟩
  have hU6 := (unhide HU5).ext (ext_grown g5) (by omega)
  have HE6 := hide ((unhide HE5).trans ((ext_grown g5).mono fun k _ h => Or.inl h))
  have HR6 := hide ((unhide HR5).ext (ext_grown g5) (by omega))
  have HG6 := hide (grow_extI (unhide HG5) (ext_grown g5) (unhide HI) (fun q h1 _ e => by omega))
  have HS6 := hide s5
  have HC6 := hide c5
  have hz6 : W5.heap.size ≤ w5.heap.size := g5.size
  have u5 := Box.at hU6 5 _ rfl
  have u6 := Box.at hU6 6 _ rfl
  simp only [List.getElem_toArray, List.getElem_cons_zero, List.getElem_cons_succ] at u5 u6
  have uf := Box.soft hU6
  have ul := Box.lt hU6
  have hU7 : Box 0 #[.int .i64 (1 + (r1 : Int)), .bool true, .int .i64 (r2 : Int), .int .i64 (r3 : Int), .slice a4 xs.length d4, .int .i64 (r5 : Int), .int .i64 0] 26 (w5.setCell ⟨w4.heap.size, 5, none⟩ (.int .i64 (r5 : Int))) w4.heap.size := Box.set hU6 5 (.int .i64 (r5 : Int))
  have e7 : Ext (fun q => q = w4.heap.size) w5 (w5.setCell ⟨w4.heap.size, 5, none⟩ (.int .i64 (r5 : Int))) := (Ext.refl (fun q => q = w4.heap.size) _).setCell ⟨w4.heap.size, 5, none⟩ _ rfl
  have L6 := hide (next b (m4 + 1) cv ((r5 : Int) + 1) _ (s5.extW e7 (fun e => by omega)) (c5.extW (by omega) e7 (fun k hk e => by omega)) (by omega) (by omega) (by omega))
  have HU7 := hide hU7
  have HE7 := hide ((unhide HE6).trans (e7.mono fun k _ h => Or.inr (by omega)))
  have HR7 := hide ((unhide HR6).ext e7 (by omega))
  have HG7 := hide (grow_extI (unhide HG6) e7 (unhide HI) (fun q _ h2 e => by omega))
  clear L5 HE5 HR5 HG5 HU5 hU6 hU7 e7 s5 c5 g5 HE6 HR6 HG6 HS6 HC6
  go_wp2_with fail
  clear u5 u6 uf ul
  generalize w5.setCell ⟨w4.heap.size, 5, none⟩ (.int .i64 (r5 : Int)) = W6 at *
  refine (unhide L6).mono ?_
  rintro e w6 ⟨r6, rfl, hr6, s6, c6, g6⟩
  have hU8 := (unhide HU7).ext (ext_grown g6) (by omega)
  have HE8 := hide ((unhide HE7).trans ((ext_grown g6).mono fun k _ h => Or.inl h))
  have HR8 := hide ((unhide HR7).ext (ext_grown g6) (by omega))
  have HG8 := hide (grow_extI (unhide HG7) (ext_grown g6) (unhide HI) (fun q h1 _ e => by omega))
  have u6 := Box.at hU8 6 _ rfl
  simp only [List.getElem_toArray, List.getElem_cons_zero, List.getElem_cons_succ] at u6
  have uf := Box.soft hU8
  have ul := Box.lt hU8
  have hU9 : Box 0 #[.int .i64 (1 + (r1 : Int)), .bool true, .int .i64 (r2 : Int), .int .i64 (r3 : Int), .slice a4 xs.length d4, .int .i64 (r5 : Int), .int .i64 (r6 : Int)] 26 (w6.setCell ⟨w4.heap.size, 6, none⟩ (.int .i64 (r6 : Int))) w4.heap.size := Box.set hU8 6 (.int .i64 (r6 : Int))
  have e9 : Ext (fun q => q = w4.heap.size) w6 (w6.setCell ⟨w4.heap.size, 6, none⟩ (.int .i64 (r6 : Int))) := (Ext.refl (fun q => q = w4.heap.size) _).setCell ⟨w4.heap.size, 6, none⟩ _ rfl
  have L7 := hide (chance5 b (m4 + 1 + 1) cv _ (s6.extW e9 (fun e => by omega)) (c6.extW (by omega) e9 (fun k hk e => by omega)) (by omega) 8 (by omega) (by omega))
  have HU9 := hide hU9
  have HE9 := hide ((unhide HE8).trans (e9.mono fun k _ h => Or.inr (by omega)))
  have HR9 := hide ((unhide HR8).ext e9 (by omega))
  have HG9 := hide (grow_extI (unhide HG8) e9 (unhide HI) (fun q _ h2 e => by omega))
  clear L6 HE7 HR7 HG7 HU7 hU8 hU9 e9 s6 c6 g6 HE8 HR8 HG8
  go_wp2_with fail
  clear u6 uf ul
  generalize w6.setCell ⟨w4.heap.size, 6, none⟩ (.int .i64 (r6 : Int)) = W7 at *
  refine (unhide L7).mono ?_
  rintro e w7 ⟨q7, rfl, s7, c7, g7⟩
  have hU := (unhide HU9).ext (ext_grown g7) (by omega)
  have HE := hide ((unhide HE9).trans ((ext_grown g7).mono fun k _ h => Or.inl h))
  have bR := (unhide HR9).ext (ext_grown g7) (by omega)
  have HG := hide (grow_extI (unhide HG9) (ext_grown g7) (unhide HI) (fun q h1 _ e => by omega))
  have HSx := hide s7
  have HCx := hide c7
  have HBX : Hid (BdN ⟨1 + (r1 : Int), true, (r2 : Int), (r3 : Int), xs, (r5 : Int), (r6 : Int)⟩) := ⟨by simp only; omega, by simp only; omega, by simp only; omega, by simp only; omega, by simp only; omega⟩
  have u0 := Box.at hU 0 _ rfl
  have u1 := Box.at hU 1 _ rfl
  have u2 := Box.at hU 2 _ rfl
  have u3 := Box.at hU 3 _ rfl
  have u4 := Box.at hU 4 _ rfl
  have u5 := Box.at hU 5 _ rfl
  have u6 := Box.at hU 6 _ rfl
  simp only [List.getElem_toArray, List.getElem_cons_zero, List.getElem_cons_succ] at u0 u1 u2 u3 u4 u5 u6
  have z0 := Box.at bR 0 _ rfl
  have z1 := Box.at bR 1 _ rfl
  have z2 := Box.at bR 2 _ rfl
  have z3 := Box.at bR 3 _ rfl
  have z4 := Box.at bR 4 _ rfl
  have z5 := Box.at bR 5 _ rfl
  have z6 := Box.at bR 6 _ rfl
  simp only [List.getElem_toArray, List.getElem_cons_zero, List.getElem_cons_succ] at z0 z1 z2 z3 z4 z5 z6
  have ff := Box.soft bR
  have l0 := Box.lt bR
  have ul := Box.lt hU
  clear L7 HE9 HR9 HG9 HU9 s7 c7 g7
  cases q7
  · have hF : Ext (fun q => q = w.heap.size) w7 (setAll w7 w.heap.size 0 [.int .i64 (1 + (r1 : Int)), .bool true, .int .i64 (r2 : Int), .int .i64 (r3 : Int), .slice a4 xs.length d4, .int .i64 (r5 : Int), .int .i64 (r6 : Int)]) := ext_setAll (fun q => q = w.heap.size) (Ext.refl _ _) w.heap.size 0 _ rfl
    have HP := hide (closeN (K := 20) (M := 2000) (x := ⟨1 + (r1 : Int), true, (r2 : Int), (r3 : Int), xs, (r5 : Int), (r6 : Int)⟩) (b := b) (m := m) (unhide HE) (unhide HSx) (unhide HCx) hbw0 (by omega) hF ((unhide HG).lower (by omega)) (fun c hc => by have := unhide HS5 c hc; omega) (by simp only; omega) (unhide HBX))
    clear hF bR hU
    go_wp2_with fail
    refine bodyPost_ret (v := .agg #[.int .i64 (1 + (r1 : Int)), .bool true, .int .i64 (r2 : Int), .int .i64 (r3 : Int), .slice a4 xs.length d4, .int .i64 (r5 : Int), .int .i64 (r6 : Int)]) (by simp [results, Tryz.results39, go_sem, z0, z1, z2, z3, z4, z5, z6]) rfl ?_
    exact unhide HP
  · have hrd : Lay.tNode.Reads w7 [.int .i64 (1 + (r1 : Int)), .bool true, .int .i64 (r2 : Int), .int .i64 (r3 : Int), .slice a4 xs.length d4, .int .i64 (r5 : Int), .int .i64 (r6 : Int)] (⟨1 + (r1 : Int), true, (r2 : Int), (r3 : Int), xs, (r5 : Int), (r6 : Int)⟩ : DNode) := node_reads (x := ⟨1 + (r1 : Int), true, (r2 : Int), (r3 : Int), xs, (r5 : Int), (r6 : Int)⟩) (unhide HBX) ((unhide HG).toReads (by omega))
    have L8 := hide (ncrashG _ (⟨1 + (r1 : Int), true, (r2 : Int), (r3 : Int), xs, (r5 : Int), (r6 : Int)⟩ : DNode) 0 r5 w7 hrd (by simp only; omega) (unhide HV) (by simp only; omega) (by simp) (by simp only; omega))
    have HRb := hide bR
    have hz7 := (unhide HE).size
    clear bR hrd
    go_wp2_with fail
    clear u0 u1 u2 u3 u4 u5 u6 z0 z1 z2 z3 z4 z5 z6 ff l0 ul hU
    refine (unhide L8).mono ?_
    rintro e w8 ⟨a6, d6, rows8, bls8, rfl, hG8, hS8, hb8⟩
    have bR := (unhide HRb).keep hb8
    have hl7 := (unhide HRb).lt
    have z0 := Box.at bR 0 _ rfl
    have z1 := Box.at bR 1 _ rfl
    have z2 := Box.at bR 2 _ rfl
    have z3 := Box.at bR 3 _ rfl
    have z4 := Box.at bR 4 _ rfl
    have z5 := Box.at bR 5 _ rfl
    have z6 := Box.at bR 6 _ rfl
    simp only [List.getElem_toArray, List.getElem_cons_zero, List.getElem_cons_succ] at z0 z1 z2 z3 z4 z5 z6
    have ff := Box.soft bR
    have l0 := Box.lt bR
    have hF : Ext (fun q => q = w.heap.size) w8 (setAll w8 w.heap.size 0 [.int .i64 (1 + (r1 : Int)), .bool false, .int .i64 (r2 : Int), .int .i64 0, .slice a6 r5 d6, .int .i64 (r5 : Int), .int .i64 0]) := ext_setAll (fun q => q = w.heap.size) (Ext.refl _ _) w.heap.size 0 _ rfl
    have hxl : (xs.take r5).length = r5 := by rw [List.length_take]; omega
    have hG9 : Grow Lay.tWrite w8 (w.heap.size + 1) 29 (.slice a6 (xs.take r5).length d6) rows8 (xs.take r5) bls8 := by rw [hxl]; exact hG8.lower (by omega)
    have hP := closeN (K := 20) (M := 2000) (x := ⟨1 + (r1 : Int), false, (r2 : Int), 0, xs.take r5, (r5 : Int), 0⟩) (a := a6) (d := d6) (b := b) (m := m) ((unhide HE).trans (ext_of_below hb8 _)) ((unhide HSx).onW hb8) ((unhide HCx).onW (by omega) hb8) hbw0 (by omega) hF hG9 (fun c hc => by have := hS8 c hc; omega) (by simp only; omega) ⟨by simp only; omega, by simp only; omega, by simp only; omega, by simp only; omega, by simp only; omega⟩
    simp only [hxl] at hP
    have HP := hide hP
    clear hF bR hG8 hS8 hb8 hG9 hP L8 HRb
    go_wp2_with fail
    refine bodyPost_ret (v := .agg #[.int .i64 (1 + (r1 : Int)), .bool false, .int .i64 (r2 : Int), .int .i64 0, .slice a6 r5 d6, .int .i64 (r5 : Int), .int .i64 0]) (by simp [results, Tryz.results39, go_sem, z0, z1, z2, z3, z4, z5, z6]) rfl ?_
    exact unhide HP
end Go.Proofs.YtbogjepkdcknfaaGreatDoor

namespace Go.Proofs.YtbogjepkdcknfaaGreatDoor
open Go.RowKit

set_option maxRecDepth 100000 in
set_option maxHeartbeats 4000000 in
theorem drawBent9 (b m : Nat) (cv : Value) (w : World) (hs : SrcAt w b cv m) (hc : IsCode b w cv) (hm : m ≤ 1000) :
    Calls Tryz.prog 14 #[.pointer (some ⟨b, 0, none⟩)] w (NodePost 21 3000 b m cv w) := by
  have hbw0 := hs.lt
  have nb : Below w.heap.size w (w.alloc (.cells #[.int .i64 0, .bool false, .int .i64 0, .int .i64 0, .slice none 0 0, .int .i64 0, .int .i64 0] 26)) := (Below.refl _ _).alloc (Nat.le_refl _) _
  have bR : Box 0 #[.int .i64 0, .bool false, .int .i64 0, .int .i64 0, .slice none 0 0, .int .i64 0, .int .i64 0] 26 (w.alloc (.cells #[.int .i64 0, .bool false, .int .i64 0, .int .i64 0, .slice none 0 0, .int .i64 0, .int .i64 0] 26)) w.heap.size := newBox (Nat.zero_le _)
  have L1 := hide (drawRight9 b m cv _ (hs.onW nb) (hc.onW (Nat.le_of_lt hbw0) nb) hm)
  have HE0 := hide (ext_of_below nb (fun q => q = b ∨ w.heap.size ≤ q))
  have HR0 := hide bR
  have hz0 : w.heap.size < (w.alloc (.cells #[.int .i64 0, .bool false, .int .i64 0, .int .i64 0, .slice none 0 0, .int .i64 0, .int .i64 0] 26)).heap.size := by simp
  clear nb bR hs hc
  go_enter Tryz.func14, Tryz.ntmps14
  go_wp2_with fail
  generalize w.alloc (.cells #[.int .i64 0, .bool false, .int .i64 0, .int .i64 0, .slice none 0 0, .int .i64 0, .int .i64 0] 26) = W0 at *
  refine (unhide L1).mono ?_
  rintro e w1 ⟨a4, d4, x, rows, bls, m1, rfl, hG, hS1, hlen, hbd, s1, hm1, c1, g1⟩
  have HI := hide (grow_in hG hS1)
  have nb1 : Below w1.heap.size w1 (w1.alloc (.cells #[.int .i64 x.id, .bool x.up, .int .i64 x.epoch, .int .i64 x.lease, .slice a4 x.writes.length d4, .int .i64 x.sure, .int .i64 x.clean] 26)) := (Below.refl _ _).alloc (Nat.le_refl _) _
  have bN : Box 0 #[.int .i64 x.id, .bool x.up, .int .i64 x.epoch, .int .i64 x.lease, .slice a4 x.writes.length d4, .int .i64 x.sure, .int .i64 x.clean] 26 (w1.alloc (.cells #[.int .i64 x.id, .bool x.up, .int .i64 x.epoch, .int .i64 x.lease, .slice a4 x.writes.length d4, .int .i64 x.sure, .int .i64 x.clean] 26)) w1.heap.size := newBox (Nat.zero_le _)
  have hz1 : W0.heap.size ≤ w1.heap.size := g1.size
  have HE1 := hide (((unhide HE0).trans ((ext_grown g1).mono fun k _ h => Or.inl h)).trans (ext_of_below nb1 _))
  have HR1 := hide (((unhide HR0).ext (ext_grown g1) (by omega)).keep nb1)
  have HG1 := hide (hG.later nb1)
  have L2 := hide (next b m1 cv 16 _ (s1.onW nb1) (c1.onW (by omega) nb1) (by omega) (by omega) (by omega))
  have HN1 := hide bN
  have hz2 : w1.heap.size < (w1.alloc (.cells #[.int .i64 x.id, .bool x.up, .int .i64 x.epoch, .int .i64 x.lease, .slice a4 x.writes.length d4, .int .i64 x.sure, .int .i64 x.clean] 26)).heap.size := by simp
  clear L1 HE0 HR0 hG hS1 s1 c1 g1 nb1 bN
  go_wp2_with fail
  generalize w1.alloc (.cells #[.int .i64 x.id, .bool x.up, .int .i64 x.epoch, .int .i64 x.lease, .slice a4 x.writes.length d4, .int .i64 x.sure, .int .i64 x.clean] 26) = W1 at *
  refine (unhide L2).mono ?_
  rintro e w2 ⟨q, rfl, hq, s2, c2, g2⟩
  have hz22 : W1.heap.size ≤ w2.heap.size := g2.size
  have HE := hide ((unhide HE1).trans ((ext_grown g2).mono fun k _ h => Or.inl h))
  have HR := hide ((unhide HR1).ext (ext_grown g2) (by omega))
  have HN := hide ((unhide HN1).ext (ext_grown g2) (by omega))
  have HG := hide (grow_extI (unhide HG1) (ext_grown g2) (unhide HI) (fun q h1 _ e => by omega))
  have HS := hide s2
  have HC := hide c2
  clear L2 HE1 HR1 HG1 HN1 s2 c2 g2
  rcases (show q = 0 ∨ q = 1 ∨ q = 2 ∨ q = 3 ∨ q = 4 ∨ q = 5 ∨ 6 ≤ q by omega) with rfl | rfl | rfl | rfl | rfl | rfl | h6
  · have nb3 : Below w2.heap.size w2 (w2.alloc (.cells #[.int .i64 0, .int .i64 5, .int .i64 6] 2)) := (Below.refl _ _).alloc (Nat.le_refl _) _
    have L3 := hide (pick b (m1 + 1) w2.heap.size cv [0, 5, 6] _ ((unhide HS).onW nb3) ((unhide HC).onW (by omega) nb3) (by omega) (by simp) (by simp) (heap_alloc_new w2 _) (by omega))
    have HE3 := hide ((unhide HE).trans (ext_of_below nb3 _))
    have HR3 := hide ((unhide HR).keep nb3)
    have HN3 := hide ((unhide HN).keep nb3)
    have HG3 := hide ((unhide HG).later nb3)
    have hz3 : w2.heap.size < (w2.alloc (.cells #[.int .i64 0, .int .i64 5, .int .i64 6] 2)).heap.size := by simp
    clear nb3 HE HR HN HG HS HC
    go_wp2_with fail
    generalize w2.alloc (.cells #[.int .i64 0, .int .i64 5, .int .i64 6] 2) = W3 at *
    refine (unhide L3).mono ?_
    rintro e w3 ⟨p, rfl, hp, s3, c3, g3⟩
    have hpb : -1 ≤ p ∧ p ≤ 1000 := by
      simp only [List.mem_cons, List.not_mem_nil, or_false] at hp
      omega
    have hz4 := g3.size
    have hN := (unhide HN3).ext (ext_grown g3) (by omega)
    have e4 : Ext (fun q => q = w1.heap.size) w3 (w3.setCell ⟨w1.heap.size, 0, none⟩ (.int .i64 p)) := (Ext.refl (fun q => q = w1.heap.size) _).setCell ⟨w1.heap.size, 0, none⟩ _ rfl
    have HN : Hid (Box 0 #[.int .i64 p, .bool x.up, .int .i64 x.epoch, .int .i64 x.lease, .slice a4 x.writes.length d4, .int .i64 x.sure, .int .i64 x.clean] 26 (w3.setCell ⟨w1.heap.size, 0, none⟩ (.int .i64 p)) w1.heap.size) := Box.set hN 0 (.int .i64 p)
    have HE := hide (((unhide HE3).trans ((ext_grown g3).mono fun k _ h => Or.inl h)).trans (e4.mono fun k _ h => Or.inr (by omega)))
    have HR := hide (((unhide HR3).ext (ext_grown g3) (by omega)).ext e4 (by omega))
    have HG := hide (grow_extI (grow_extI (unhide HG3) (ext_grown g3) (unhide HI) (fun q h1 _ e => by omega)) e4 (unhide HI) (fun q _ h2 e => by omega))
    have HS := hide (s3.extW e4 (fun e => by omega))
    have HC := hide (c3.extW (by omega) e4 (fun k hk e => by omega))
    have u0 := Box.at hN 0 _ rfl
    simp only [List.getElem_toArray, List.getElem_cons_zero] at u0
    have uf := Box.soft hN
    have ul := Box.lt hN
    clear hN e4 s3 c3 g3 L3 HE3 HR3 HN3 HG3 hp
    go_upto_region 15 with fail
    clear u0 uf ul
    generalize w3.setCell ⟨w1.heap.size, 0, none⟩ (.int .i64 p) = W4 at *
    have bN := unhide HN
    have bR := unhide HR
    have u0 := Box.at bN 0 _ rfl
    have u1 := Box.at bN 1 _ rfl
    have u2 := Box.at bN 2 _ rfl
    have u3 := Box.at bN 3 _ rfl
    have u4 := Box.at bN 4 _ rfl
    have u5 := Box.at bN 5 _ rfl
    have u6 := Box.at bN 6 _ rfl
    simp only [List.getElem_toArray, List.getElem_cons_zero, List.getElem_cons_succ] at u0 u1 u2 u3 u4 u5 u6
    have z0 := Box.at bR 0 _ rfl
    have z1 := Box.at bR 1 _ rfl
    have z2 := Box.at bR 2 _ rfl
    have z3 := Box.at bR 3 _ rfl
    have z4 := Box.at bR 4 _ rfl
    have z5 := Box.at bR 5 _ rfl
    have z6 := Box.at bR 6 _ rfl
    simp only [List.getElem_toArray, List.getElem_cons_zero, List.getElem_cons_succ] at z0 z1 z2 z3 z4 z5 z6
    have ff := Box.soft bR
    have l0 := Box.lt bR
    have ul := Box.lt bN
    have hF : Ext (fun q => q = w.heap.size) W4 (setAll W4 w.heap.size 0 [.int .i64 p, .bool x.up, .int .i64 x.epoch, .int .i64 x.lease, .slice a4 x.writes.length d4, .int .i64 x.sure, .int .i64 x.clean]) := ext_setAll (fun q => q = w.heap.size) (Ext.refl _ _) w.heap.size 0 _ rfl
    have HP := hide (closeN (K := 21) (M := 3000) (x := (⟨p, x.up, x.epoch, x.lease, x.writes, x.sure, x.clean⟩ : DNode)) (b := b) (m := m) (unhide HE) (unhide HS) (unhide HC) hbw0 (by omega) hF ((unhide HG).lower (by omega)) (fun c hc => by have := (unhide HI).1 c hc; omega) (by simp only; omega) ⟨by simp only; omega, hbd.b2, hbd.b3, hbd.b5, hbd.b6⟩)
    clear hF bR bN
    go_wp2_with fail
    refine bodyPost_ret (v := .agg #[.int .i64 p, .bool x.up, .int .i64 x.epoch, .int .i64 x.lease, .slice a4 x.writes.length d4, .int .i64 x.sure, .int .i64 x.clean]) (by simp [results, Tryz.results14, go_sem, z0, z1, z2, z3, z4, z5, z6]) rfl ?_
    exact unhide HP
  · have nb3 : Below w2.heap.size w2 (w2.alloc (.cells #[.int .i64 (-1), .int .i64 999, .int .i64 1000] 2)) := (Below.refl _ _).alloc (Nat.le_refl _) _
    have L3 := hide (pick b (m1 + 1) w2.heap.size cv [-1, 999, 1000] _ ((unhide HS).onW nb3) ((unhide HC).onW (by omega) nb3) (by omega) (by simp) (by simp) (heap_alloc_new w2 _) (by omega))
    have HE3 := hide ((unhide HE).trans (ext_of_below nb3 _))
    have HR3 := hide ((unhide HR).keep nb3)
    have HN3 := hide ((unhide HN).keep nb3)
    have HG3 := hide ((unhide HG).later nb3)
    have hz3 : w2.heap.size < (w2.alloc (.cells #[.int .i64 (-1), .int .i64 999, .int .i64 1000] 2)).heap.size := by simp
    clear nb3 HE HR HN HG HS HC
    go_wp2_with fail
    generalize w2.alloc (.cells #[.int .i64 (-1), .int .i64 999, .int .i64 1000] 2) = W3 at *
    refine (unhide L3).mono ?_
    rintro e w3 ⟨p, rfl, hp, s3, c3, g3⟩
    have hpb : -1 ≤ p ∧ p ≤ 1000 := by
      simp only [List.mem_cons, List.not_mem_nil, or_false] at hp
      omega
    have hz4 := g3.size
    have hN := (unhide HN3).ext (ext_grown g3) (by omega)
    have e4 : Ext (fun q => q = w1.heap.size) w3 (w3.setCell ⟨w1.heap.size, 2, none⟩ (.int .i64 p)) := (Ext.refl (fun q => q = w1.heap.size) _).setCell ⟨w1.heap.size, 2, none⟩ _ rfl
    have HN : Hid (Box 0 #[.int .i64 x.id, .bool x.up, .int .i64 p, .int .i64 x.lease, .slice a4 x.writes.length d4, .int .i64 x.sure, .int .i64 x.clean] 26 (w3.setCell ⟨w1.heap.size, 2, none⟩ (.int .i64 p)) w1.heap.size) := Box.set hN 2 (.int .i64 p)
    have HE := hide (((unhide HE3).trans ((ext_grown g3).mono fun k _ h => Or.inl h)).trans (e4.mono fun k _ h => Or.inr (by omega)))
    have HR := hide (((unhide HR3).ext (ext_grown g3) (by omega)).ext e4 (by omega))
    have HG := hide (grow_extI (grow_extI (unhide HG3) (ext_grown g3) (unhide HI) (fun q h1 _ e => by omega)) e4 (unhide HI) (fun q _ h2 e => by omega))
    have HS := hide (s3.extW e4 (fun e => by omega))
    have HC := hide (c3.extW (by omega) e4 (fun k hk e => by omega))
    have u2 := Box.at hN 2 _ rfl
    simp only [List.getElem_toArray, List.getElem_cons_zero, List.getElem_cons_succ] at u2
    have uf := Box.soft hN
    have ul := Box.lt hN
    clear hN e4 s3 c3 g3 L3 HE3 HR3 HN3 HG3 hp
    go_upto_region 15 with fail
    clear u2 uf ul
    generalize w3.setCell ⟨w1.heap.size, 2, none⟩ (.int .i64 p) = W4 at *
    have bN := unhide HN
    have bR := unhide HR
    have u0 := Box.at bN 0 _ rfl
    have u1 := Box.at bN 1 _ rfl
    have u2 := Box.at bN 2 _ rfl
    have u3 := Box.at bN 3 _ rfl
    have u4 := Box.at bN 4 _ rfl
    have u5 := Box.at bN 5 _ rfl
    have u6 := Box.at bN 6 _ rfl
    simp only [List.getElem_toArray, List.getElem_cons_zero, List.getElem_cons_succ] at u0 u1 u2 u3 u4 u5 u6
    have z0 := Box.at bR 0 _ rfl
    have z1 := Box.at bR 1 _ rfl
    have z2 := Box.at bR 2 _ rfl
    have z3 := Box.at bR 3 _ rfl
    have z4 := Box.at bR 4 _ rfl
    have z5 := Box.at bR 5 _ rfl
    have z6 := Box.at bR 6 _ rfl
    simp only [List.getElem_toArray, List.getElem_cons_zero, List.getElem_cons_succ] at z0 z1 z2 z3 z4 z5 z6
    have ff := Box.soft bR
    have l0 := Box.lt bR
    have ul := Box.lt bN
    have hF : Ext (fun q => q = w.heap.size) W4 (setAll W4 w.heap.size 0 [.int .i64 x.id, .bool x.up, .int .i64 p, .int .i64 x.lease, .slice a4 x.writes.length d4, .int .i64 x.sure, .int .i64 x.clean]) := ext_setAll (fun q => q = w.heap.size) (Ext.refl _ _) w.heap.size 0 _ rfl
    have HP := hide (closeN (K := 21) (M := 3000) (x := (⟨x.id, x.up, p, x.lease, x.writes, x.sure, x.clean⟩ : DNode)) (b := b) (m := m) (unhide HE) (unhide HS) (unhide HC) hbw0 (by omega) hF ((unhide HG).lower (by omega)) (fun c hc => by have := (unhide HI).1 c hc; omega) (by simp only; omega) ⟨hbd.b0, by simp only; omega, hbd.b3, hbd.b5, hbd.b6⟩)
    clear hF bR bN
    go_wp2_with fail
    refine bodyPost_ret (v := .agg #[.int .i64 x.id, .bool x.up, .int .i64 p, .int .i64 x.lease, .slice a4 x.writes.length d4, .int .i64 x.sure, .int .i64 x.clean]) (by simp [results, Tryz.results14, go_sem, z0, z1, z2, z3, z4, z5, z6]) rfl ?_
    exact unhide HP
  · have nb3 : Below w2.heap.size w2 (w2.alloc (.cells #[.int .i64 (-1), .int .i64 40, .int .i64 0] 2)) := (Below.refl _ _).alloc (Nat.le_refl _) _
    have L3 := hide (pick b (m1 + 1) w2.heap.size cv [-1, 40, 0] _ ((unhide HS).onW nb3) ((unhide HC).onW (by omega) nb3) (by omega) (by simp) (by simp) (heap_alloc_new w2 _) (by omega))
    have HE3 := hide ((unhide HE).trans (ext_of_below nb3 _))
    have HR3 := hide ((unhide HR).keep nb3)
    have HN3 := hide ((unhide HN).keep nb3)
    have HG3 := hide ((unhide HG).later nb3)
    have hz3 : w2.heap.size < (w2.alloc (.cells #[.int .i64 (-1), .int .i64 40, .int .i64 0] 2)).heap.size := by simp
    clear nb3 HE HR HN HG HS HC
    go_wp2_with fail
    generalize w2.alloc (.cells #[.int .i64 (-1), .int .i64 40, .int .i64 0] 2) = W3 at *
    refine (unhide L3).mono ?_
    rintro e w3 ⟨p, rfl, hp, s3, c3, g3⟩
    have hpb : -1 ≤ p ∧ p ≤ 1000 := by
      simp only [List.mem_cons, List.not_mem_nil, or_false] at hp
      omega
    have hz4 := g3.size
    have hN := (unhide HN3).ext (ext_grown g3) (by omega)
    have e4 : Ext (fun q => q = w1.heap.size) w3 (w3.setCell ⟨w1.heap.size, 5, none⟩ (.int .i64 p)) := (Ext.refl (fun q => q = w1.heap.size) _).setCell ⟨w1.heap.size, 5, none⟩ _ rfl
    have HN : Hid (Box 0 #[.int .i64 x.id, .bool x.up, .int .i64 x.epoch, .int .i64 x.lease, .slice a4 x.writes.length d4, .int .i64 p, .int .i64 x.clean] 26 (w3.setCell ⟨w1.heap.size, 5, none⟩ (.int .i64 p)) w1.heap.size) := Box.set hN 5 (.int .i64 p)
    have HE := hide (((unhide HE3).trans ((ext_grown g3).mono fun k _ h => Or.inl h)).trans (e4.mono fun k _ h => Or.inr (by omega)))
    have HR := hide (((unhide HR3).ext (ext_grown g3) (by omega)).ext e4 (by omega))
    have HG := hide (grow_extI (grow_extI (unhide HG3) (ext_grown g3) (unhide HI) (fun q h1 _ e => by omega)) e4 (unhide HI) (fun q _ h2 e => by omega))
    have HS := hide (s3.extW e4 (fun e => by omega))
    have HC := hide (c3.extW (by omega) e4 (fun k hk e => by omega))
    have u5 := Box.at hN 5 _ rfl
    simp only [List.getElem_toArray, List.getElem_cons_zero, List.getElem_cons_succ] at u5
    have uf := Box.soft hN
    have ul := Box.lt hN
    clear hN e4 s3 c3 g3 L3 HE3 HR3 HN3 HG3 hp
    go_upto_region 15 with fail
    clear u5 uf ul
    generalize w3.setCell ⟨w1.heap.size, 5, none⟩ (.int .i64 p) = W4 at *
    have bN := unhide HN
    have bR := unhide HR
    have u0 := Box.at bN 0 _ rfl
    have u1 := Box.at bN 1 _ rfl
    have u2 := Box.at bN 2 _ rfl
    have u3 := Box.at bN 3 _ rfl
    have u4 := Box.at bN 4 _ rfl
    have u5 := Box.at bN 5 _ rfl
    have u6 := Box.at bN 6 _ rfl
    simp only [List.getElem_toArray, List.getElem_cons_zero, List.getElem_cons_succ] at u0 u1 u2 u3 u4 u5 u6
    have z0 := Box.at bR 0 _ rfl
    have z1 := Box.at bR 1 _ rfl
    have z2 := Box.at bR 2 _ rfl
    have z3 := Box.at bR 3 _ rfl
    have z4 := Box.at bR 4 _ rfl
    have z5 := Box.at bR 5 _ rfl
    have z6 := Box.at bR 6 _ rfl
    simp only [List.getElem_toArray, List.getElem_cons_zero, List.getElem_cons_succ] at z0 z1 z2 z3 z4 z5 z6
    have ff := Box.soft bR
    have l0 := Box.lt bR
    have ul := Box.lt bN
    have hF : Ext (fun q => q = w.heap.size) W4 (setAll W4 w.heap.size 0 [.int .i64 x.id, .bool x.up, .int .i64 x.epoch, .int .i64 x.lease, .slice a4 x.writes.length d4, .int .i64 p, .int .i64 x.clean]) := ext_setAll (fun q => q = w.heap.size) (Ext.refl _ _) w.heap.size 0 _ rfl
    have HP := hide (closeN (K := 21) (M := 3000) (x := (⟨x.id, x.up, x.epoch, x.lease, x.writes, p, x.clean⟩ : DNode)) (b := b) (m := m) (unhide HE) (unhide HS) (unhide HC) hbw0 (by omega) hF ((unhide HG).lower (by omega)) (fun c hc => by have := (unhide HI).1 c hc; omega) (by simp only; omega) ⟨hbd.b0, hbd.b2, hbd.b3, by simp only; omega, hbd.b6⟩)
    clear hF bR bN
    go_wp2_with fail
    refine bodyPost_ret (v := .agg #[.int .i64 x.id, .bool x.up, .int .i64 x.epoch, .int .i64 x.lease, .slice a4 x.writes.length d4, .int .i64 p, .int .i64 x.clean]) (by simp [results, Tryz.results14, go_sem, z0, z1, z2, z3, z4, z5, z6]) rfl ?_
    exact unhide HP
  · have nb3 : Below w2.heap.size w2 (w2.alloc (.cells #[.int .i64 (-1), .int .i64 40] 2)) := (Below.refl _ _).alloc (Nat.le_refl _) _
    have L3 := hide (pick b (m1 + 1) w2.heap.size cv [-1, 40] _ ((unhide HS).onW nb3) ((unhide HC).onW (by omega) nb3) (by omega) (by simp) (by simp) (heap_alloc_new w2 _) (by omega))
    have HE3 := hide ((unhide HE).trans (ext_of_below nb3 _))
    have HR3 := hide ((unhide HR).keep nb3)
    have HN3 := hide ((unhide HN).keep nb3)
    have HG3 := hide ((unhide HG).later nb3)
    have hz3 : w2.heap.size < (w2.alloc (.cells #[.int .i64 (-1), .int .i64 40] 2)).heap.size := by simp
    clear nb3 HE HR HN HG HS HC
    go_wp2_with fail
    generalize w2.alloc (.cells #[.int .i64 (-1), .int .i64 40] 2) = W3 at *
    refine (unhide L3).mono ?_
    rintro e w3 ⟨p, rfl, hp, s3, c3, g3⟩
    have hpb : -1 ≤ p ∧ p ≤ 1000 := by
      simp only [List.mem_cons, List.not_mem_nil, or_false] at hp
      omega
    have hz4 := g3.size
    have hN := (unhide HN3).ext (ext_grown g3) (by omega)
    have e4 : Ext (fun q => q = w1.heap.size) w3 (w3.setCell ⟨w1.heap.size, 6, none⟩ (.int .i64 p)) := (Ext.refl (fun q => q = w1.heap.size) _).setCell ⟨w1.heap.size, 6, none⟩ _ rfl
    have HN : Hid (Box 0 #[.int .i64 x.id, .bool x.up, .int .i64 x.epoch, .int .i64 x.lease, .slice a4 x.writes.length d4, .int .i64 x.sure, .int .i64 p] 26 (w3.setCell ⟨w1.heap.size, 6, none⟩ (.int .i64 p)) w1.heap.size) := Box.set hN 6 (.int .i64 p)
    have HE := hide (((unhide HE3).trans ((ext_grown g3).mono fun k _ h => Or.inl h)).trans (e4.mono fun k _ h => Or.inr (by omega)))
    have HR := hide (((unhide HR3).ext (ext_grown g3) (by omega)).ext e4 (by omega))
    have HG := hide (grow_extI (grow_extI (unhide HG3) (ext_grown g3) (unhide HI) (fun q h1 _ e => by omega)) e4 (unhide HI) (fun q _ h2 e => by omega))
    have HS := hide (s3.extW e4 (fun e => by omega))
    have HC := hide (c3.extW (by omega) e4 (fun k hk e => by omega))
    have u6 := Box.at hN 6 _ rfl
    simp only [List.getElem_toArray, List.getElem_cons_zero, List.getElem_cons_succ] at u6
    have uf := Box.soft hN
    have ul := Box.lt hN
    clear hN e4 s3 c3 g3 L3 HE3 HR3 HN3 HG3 hp
    go_upto_region 15 with fail
    clear u6 uf ul
    generalize w3.setCell ⟨w1.heap.size, 6, none⟩ (.int .i64 p) = W4 at *
    have bN := unhide HN
    have bR := unhide HR
    have u0 := Box.at bN 0 _ rfl
    have u1 := Box.at bN 1 _ rfl
    have u2 := Box.at bN 2 _ rfl
    have u3 := Box.at bN 3 _ rfl
    have u4 := Box.at bN 4 _ rfl
    have u5 := Box.at bN 5 _ rfl
    have u6 := Box.at bN 6 _ rfl
    simp only [List.getElem_toArray, List.getElem_cons_zero, List.getElem_cons_succ] at u0 u1 u2 u3 u4 u5 u6
    have z0 := Box.at bR 0 _ rfl
    have z1 := Box.at bR 1 _ rfl
    have z2 := Box.at bR 2 _ rfl
    have z3 := Box.at bR 3 _ rfl
    have z4 := Box.at bR 4 _ rfl
    have z5 := Box.at bR 5 _ rfl
    have z6 := Box.at bR 6 _ rfl
    simp only [List.getElem_toArray, List.getElem_cons_zero, List.getElem_cons_succ] at z0 z1 z2 z3 z4 z5 z6
    have ff := Box.soft bR
    have l0 := Box.lt bR
    have ul := Box.lt bN
    have hF : Ext (fun q => q = w.heap.size) W4 (setAll W4 w.heap.size 0 [.int .i64 x.id, .bool x.up, .int .i64 x.epoch, .int .i64 x.lease, .slice a4 x.writes.length d4, .int .i64 x.sure, .int .i64 p]) := ext_setAll (fun q => q = w.heap.size) (Ext.refl _ _) w.heap.size 0 _ rfl
    have HP := hide (closeN (K := 21) (M := 3000) (x := (⟨x.id, x.up, x.epoch, x.lease, x.writes, x.sure, p⟩ : DNode)) (b := b) (m := m) (unhide HE) (unhide HS) (unhide HC) hbw0 (by omega) hF ((unhide HG).lower (by omega)) (fun c hc => by have := (unhide HI).1 c hc; omega) (by simp only; omega) ⟨hbd.b0, hbd.b2, hbd.b3, hbd.b5, by simp only; omega⟩)
    clear hF bR bN
    go_wp2_with fail
    refine bodyPost_ret (v := .agg #[.int .i64 x.id, .bool x.up, .int .i64 x.epoch, .int .i64 x.lease, .slice a4 x.writes.length d4, .int .i64 x.sure, .int .i64 p]) (by simp [results, Tryz.results14, go_sem, z0, z1, z2, z3, z4, z5, z6]) rfl ?_
    exact unhide HP
  · have hND := Box.drew (unhide HN)
    have hRD := Box.drew (unhide HR)
    have hGD : Grow Lay.tWrite w2.drew (W0.heap.size + 1) 29 (.slice a4 x.writes.length d4) rows x.writes bls := (unhide HG).later (below_drawn (Below.refl _ _) 1)
    have hSD : SrcAt w2.drew b cv (m1 + 1) := unhide HS
    have hCD : IsCode b w2.drew cv := unhide HC
    have hED : Ext (fun q => q = b ∨ w.heap.size ≤ q) w w2.drew := ⟨(unhide HE).os, (unhide HE).tape, (unhide HE).output, (unhide HE).size, (unhide HE).block⟩
    have hzD : w2.heap.size ≤ w2.drew.heap.size := Nat.le_refl _
    go_upto_region 12 with fail
    clear HN HR HG HS HC HE
    refine wp_region_noPanic ?_
    refine wp_region_held_drew (S := fun _ => True) (by kernel_rfl) trivial (fun hHeld => ?_)
    generalize w2.drew = wD at hHeld hND hGD hSD hCD hRD hED hzD ⊢
    refine wpAnyH_take (i := 0) (oi := { dst := some 34, op := Go.Op.fieldAddr 26 (Go.Operand.tmp 3) 4, type := 0, pos := "l09_node.go:169", after := #[], guard := none }) (v := ?va0_1) rfl (by kernel_rfl) (by kernel_rfl) (by kernel_rfl) (fun _ _ _ h => h) (Or.inl ⟨by rfl, ?ha0_1⟩) hHeld ?ra0_1
    case ha0_1 =>
      intro wS hSw
      (try dsimp only at hSw)
      go_simp
      try with_reducible rfl
    case ra0_1 =>
    simp only [Act.put, List.setIfInBounds_toArray, List.set_cons_zero, List.set_cons_succ]
    refine wpAnyH_take (i := 2) (oi := { dst := some 36, op := Go.Op.move (Go.Operand.tmp 0), type := 42, pos := "l09_node.go:169", after := #[], guard := none }) (v := ?va2_2) rfl (by kernel_rfl) (by kernel_rfl) (by kernel_rfl) (fun _ _ _ h => h) (Or.inl ⟨by rfl, ?ha2_2⟩) hHeld ?ra2_2
    case ha2_2 =>
      intro wS hSw
      (try dsimp only at hSw)
      go_simp
      try with_reducible rfl
    case ra2_2 =>
    simp only [Act.put, List.setIfInBounds_toArray, List.set_cons_zero, List.set_cons_succ]
    refine wpAnyH_ready (rs := [1, 3]) (by kernel_rfl) (by simp) ?_
    refine AllReadyH.cons (o := { dst := some 35, op := Go.Op.load 24 (Go.Operand.tmp 34), type := 24, pos := "l09_node.go:169", after := #[{ on := 0, ground := Go.Ground.data }], guard := none }) rfl (fun K hK => ?oa1_3) (AllReadyH.cons (o := { dst := some 37, op := Go.Op.call { callee := Go.Callee.value (Go.Operand.func 15), args := #[Go.Operand.tmp 36], argTypes := #[42] }, type := 29, pos := "l09_node.go:169", after := #[{ on := 2, ground := Go.Ground.data }], guard := none }) rfl (fun K hK => ?oa3_3) (AllReadyH.nil))
    case oa1_3 =>
      have u4 := Box.at hND 4 _ rfl
      simp only [List.getElem_toArray, List.getElem_cons_zero, List.getElem_cons_succ] at u4
      go_simp
      try go_wp2_with fail
      refine hK.out _ _ trivial (fun hHeld => ?_)
      clear hK K
      try simp only [Act.put, List.setIfInBounds_toArray, List.set_cons_zero, List.set_cons_succ]
      refine wpAnyH_ready (rs := [3]) (by kernel_rfl) (by simp) ?_
      refine AllReadyH.cons (o := { dst := some 37, op := Go.Op.call { callee := Go.Callee.value (Go.Operand.func 15), args := #[Go.Operand.tmp 36], argTypes := #[42] }, type := 29, pos := "l09_node.go:169", after := #[{ on := 2, ground := Go.Ground.data }], guard := none }) rfl (fun K hK => ?_) AllReadyH.nil
      go_simp
      go_at_call 15
      refine (bentWrite b (m1 + 1) cv _ hSD hCD (by omega)).mono ?_
      rintro e w4 ⟨cs, y, bl, m4, rfl, hl, hbl, s4, hm4, c4, g4⟩
      obtain ⟨a5, d5, bv, rfl, rfl, k0, k1, k2, k3, k4⟩ := lies_Write.1 hl
      clear k0 k1 k2 k3 k4
      have hz4 := g4.size
      have hN4 := hND.ext (ext_grown g4) (by omega)
      have hG4 := grow_extI hGD (ext_grown g4) (unhide HI) (fun q h1 _ e => by omega)
      have hoff : ∀ c ∈ bl, (Value.slice a4 x.writes.length d4).ownBlock ≠ some c := fun c hc e => by
        have h1 := (hbl c hc).1
        have h2 := ((unhide HI).2 c e).2
        omega
      try go_wp2_with fail
      refine hK.out _ _ trivial (fun hHeld => ?_)
      clear hK K
      try simp only [Act.put, List.setIfInBounds_toArray, List.set_cons_zero, List.set_cons_succ]
      refine wpAnyH_ready (rs := [4]) (by kernel_rfl) (by simp) ?_
      refine AllReadyH.cons (o := { dst := some 38, op := Go.Op.buildSlice 24 1 #[(0, Go.Operand.tmp 37)], type := 24, pos := "l09_node.go:169", after := #[{ on := 3, ground := Go.Ground.data }], guard := none }) rfl (fun K hK => ?_) AllReadyH.nil
      have nb5 : Below w4.heap.size w4 (w4.alloc (.cells #[.int .i64 y.kind, .int .i64 y.id, .slice a5 y.vec.length d5, .int .i64 y.session, .int .i64 y.seq] 29)) := (Below.refl _ _).alloc (Nat.le_refl _) _
      have hN5 := hN4.keep nb5
      go_simp
      try go_wp2_with fail
      refine hK.out _ _ trivial (fun hHeld => ?_)
      clear hK K
      try simp only [Act.put, List.setIfInBounds_toArray, List.set_cons_zero, List.set_cons_succ]
      refine wpAnyH_ready (rs := [5]) (by kernel_rfl) (by simp) ?_
      refine AllReadyH.cons (o := { dst := some 39, op := Go.Op.call { callee := Go.Callee.builtin Go.Builtin.append, args := #[Go.Operand.tmp 35, Go.Operand.tmp 38], argTypes := #[24, 24] }, type := 24, pos := "l09_node.go:169", after := #[{ on := 1, ground := Go.Ground.data }, { on := 4, ground := Go.Ground.data }, { on := 3, ground := Go.Ground.chain }], guard := none }) rfl (fun K hK => ?_) AllReadyH.nil
      refine step_append_Write hG4 hl hoff rfl _ _ rfl rfl rfl (by omega) (by omega) ?_
      intro g cap w5 hG5 hb5 hE5 hg5 hz5 hor5
      have hself : ∀ q, (Value.slice a4 x.writes.length d4).ownBlock = some q → W0.heap.size + 1 ≤ q ∧ q < w1.heap.size := (unhide HI).2
      have hN6 := hN4.ext hE5 (fun e => by have := hself _ e; omega)
      have u6 := Box.at hN6 4 _ rfl
      simp only [List.getElem_toArray, List.getElem_cons_zero, List.getElem_cons_succ] at u6
      have uf := Box.soft hN6
      have ul := Box.lt hN6
      refine hK.out _ _ trivial (fun hHeld => ?_)
      clear hK K
      try simp only [Act.put, List.setIfInBounds_toArray, List.set_cons_zero, List.set_cons_succ]
      refine wpAnyH_take (i := 6) (oi := { dst := some 40, op := Go.Op.fieldAddr 26 (Go.Operand.tmp 3) 4, type := 0, pos := "l09_node.go:169", after := #[{ on := 0, ground := Go.Ground.phase }, { on := 1, ground := Go.Ground.phase }, { on := 2, ground := Go.Ground.phase }, { on := 3, ground := Go.Ground.phase }, { on := 4, ground := Go.Ground.phase }, { on := 5, ground := Go.Ground.phase }], guard := none }) (v := ?va6_4) rfl (by kernel_rfl) (by kernel_rfl) (by kernel_rfl) (fun _ _ _ h => h) (Or.inl ⟨by rfl, ?ha6_4⟩) hHeld ?ra6_4
      case ha6_4 =>
        intro wS hSw
        (try dsimp only at hSw)
        go_simp
        try with_reducible rfl
      case ra6_4 =>
      simp only [Act.put, List.setIfInBounds_toArray, List.set_cons_zero, List.set_cons_succ]
      refine wpAnyH_ready (rs := [7]) (by kernel_rfl) (by simp) ?_
      refine AllReadyH.cons (o := { dst := none, op := Go.Op.store 24 (Go.Operand.tmp 40) (Go.Operand.tmp 39), type := 0, pos := "l09_node.go:169", after := #[{ on := 6, ground := Go.Ground.data }, { on := 5, ground := Go.Ground.data }, { on := 5, ground := Go.Ground.chain }, { on := 0, ground := Go.Ground.phase }, { on := 1, ground := Go.Ground.phase }, { on := 2, ground := Go.Ground.phase }, { on := 3, ground := Go.Ground.phase }, { on := 4, ground := Go.Ground.phase }, { on := 5, ground := Go.Ground.phase }], guard := none }) rfl (fun K hK => ?_) AllReadyH.nil
      go_simp
      try go_wp2_with fail
      refine hK.out _ _ trivial (fun hHeld => ?_)
      clear hK K
      try simp only [Act.put, List.setIfInBounds_toArray, List.set_cons_zero, List.set_cons_succ]
      refine wpAnyH_done (by kernel_rfl) ?_ _
      refine NoPanic.normal ?_
      have e6 : Ext (fun q => q = w1.heap.size) w5 (w5.setCell ⟨w1.heap.size, 4, none⟩ (.slice (some ⟨g, 0, none⟩) (x.writes.length + 1) cap)) := (Ext.refl (fun q => q = w1.heap.size) _).setCell ⟨w1.heap.size, 4, none⟩ _ rfl
      have hgo : g ≠ w1.heap.size ∧ W0.heap.size + 1 ≤ g := by
        rcases hor5 with h | h
        · have := hself _ h; omega
        · have := hN4.lt; omega
      have HN : Hid (Box 0 #[.int .i64 x.id, .bool x.up, .int .i64 x.epoch, .int .i64 x.lease, .slice (some ⟨g, 0, none⟩) (x.writes.length + 1) cap, .int .i64 x.sure, .int .i64 x.clean] 26 (w5.setCell ⟨w1.heap.size, 4, none⟩ (.slice (some ⟨g, 0, none⟩) (x.writes.length + 1) cap)) w1.heap.size) := Box.set hN6 4 (.slice (some ⟨g, 0, none⟩) (x.writes.length + 1) cap)
      have HR : Hid (Box 0 #[.int .i64 0, .bool false, .int .i64 0, .int .i64 0, .slice none 0 0, .int .i64 0, .int .i64 0] 26 (w5.setCell ⟨w1.heap.size, 4, none⟩ (.slice (some ⟨g, 0, none⟩) (x.writes.length + 1) cap)) w.heap.size) := ((hRD.ext (ext_grown g4) (by omega)).ext hE5 (fun e => by have := hself _ e; omega)).ext e6 (by omega)
      have HE : Hid (Ext (fun q => q = b ∨ w.heap.size ≤ q) w (w5.setCell ⟨w1.heap.size, 4, none⟩ (.slice (some ⟨g, 0, none⟩) (x.writes.length + 1) cap))) := ((hED.trans ((ext_grown g4).mono fun k _ h => Or.inl h)).trans (hE5.mono fun k _ h => Or.inr (by have := hself _ h; omega))).trans (e6.mono fun k _ h => Or.inr (by omega))
      have hlow : ∀ c ∈ (bls ++ [bl]).flatten, w.heap.size + 1 ≤ c ∧ c ≠ w1.heap.size := by
        intro c hc
        rw [List.flatten_append] at hc
        rcases List.mem_append.1 hc with hc | hc
        · have := (unhide HI).1 c hc; omega
        · have := (hbl c (by simpa using hc)).1; have := hND.lt; omega
      have HG : Hid (Grow Lay.tWrite (w5.setCell ⟨w1.heap.size, 4, none⟩ (.slice (some ⟨g, 0, none⟩) (x.writes.length + 1) cap)) (W0.heap.size + 1) 29 (.slice (some ⟨g, 0, none⟩) (x.writes ++ [y]).length cap) (rows ++ [[.int .i64 y.kind, .int .i64 y.id, .slice a5 y.vec.length d5, .int .i64 y.session, .int .i64 y.seq]]) (x.writes ++ [y]) (bls ++ [bl])) := by
        have := grow_extP hG5 e6 (fun c hc => (hlow c hc).2) (fun q hq => by simp [Value.ownBlock] at hq; omega)
        rw [List.length_append]
        exact this
      have HL := hide hlow
      have HS : Hid (SrcAt (w5.setCell ⟨w1.heap.size, 4, none⟩ (.slice (some ⟨g, 0, none⟩) (x.writes.length + 1) cap)) b cv m4) := (s4.extW hE5 (fun e => by have := hself _ e; omega)).extW e6 (fun e => by omega)
      have HC : Hid (IsCode b (w5.setCell ⟨w1.heap.size, 4, none⟩ (.slice (some ⟨g, 0, none⟩) (x.writes.length + 1) cap)) cv) := (c4.extW (by omega) hE5 (fun k hk e => by have := hself _ e; omega)).extW (by omega) e6 (fun k hk e => by omega)
      clear hHeld hND hGD hSD hCD hRD hED s4 c4 g4 hN4 hN5 hG4 hoff hl hbl hG5 hb5 hE5 hN6 hself e6 hgo hlow hor5 hg5 uf ul u4 u6 nb5
      generalize w5.setCell ⟨w1.heap.size, 4, none⟩ (.slice (some ⟨g, 0, none⟩) (x.writes.length + 1) cap) = W4 at *
      have bN := unhide HN
      have bR := unhide HR
      have u0 := Box.at bN 0 _ rfl
      have u1 := Box.at bN 1 _ rfl
      have u2 := Box.at bN 2 _ rfl
      have u3 := Box.at bN 3 _ rfl
      have u4 := Box.at bN 4 _ rfl
      have u5 := Box.at bN 5 _ rfl
      have u6 := Box.at bN 6 _ rfl
      simp only [List.getElem_toArray, List.getElem_cons_zero, List.getElem_cons_succ] at u0 u1 u2 u3 u4 u5 u6
      have z0 := Box.at bR 0 _ rfl
      have z1 := Box.at bR 1 _ rfl
      have z2 := Box.at bR 2 _ rfl
      have z3 := Box.at bR 3 _ rfl
      have z4 := Box.at bR 4 _ rfl
      have z5 := Box.at bR 5 _ rfl
      have z6 := Box.at bR 6 _ rfl
      simp only [List.getElem_toArray, List.getElem_cons_zero, List.getElem_cons_succ] at z0 z1 z2 z3 z4 z5 z6
      have ff := Box.soft bR
      have l0 := Box.lt bR
      have ul := Box.lt bN
      have hF : Ext (fun q => q = w.heap.size) W4 (setAll W4 w.heap.size 0 [.int .i64 x.id, .bool x.up, .int .i64 x.epoch, .int .i64 x.lease, .slice (some ⟨g, 0, none⟩) (x.writes.length + 1) cap, .int .i64 x.sure, .int .i64 x.clean]) := ext_setAll (fun q => q = w.heap.size) (Ext.refl _ _) w.heap.size 0 _ rfl
      have HP := hide (closeN (K := 21) (M := 3000) (a := some ⟨g, 0, none⟩) (d := cap) (x := (⟨x.id, x.up, x.epoch, x.lease, (x.writes ++ [y]), x.sure, x.clean⟩ : DNode)) (b := b) (m := m) (unhide HE) (unhide HS) (unhide HC) hbw0 (by omega) hF ((unhide HG).lower (by omega)) (fun c hc => (unhide HL c hc).1) (by simp only [List.length_append, List.length_singleton]; omega) ⟨hbd.b0, hbd.b2, hbd.b3, hbd.b5, hbd.b6⟩)
      simp only [List.length_append, List.length_singleton] at HP
      clear hF bR bN
      go_wp2_with fail
      refine bodyPost_ret (v := .agg #[.int .i64 x.id, .bool x.up, .int .i64 x.epoch, .int .i64 x.lease, .slice (some ⟨g, 0, none⟩) (x.writes.length + 1) cap, .int .i64 x.sure, .int .i64 x.clean]) (by simp [results, Tryz.results14, go_sem, z0, z1, z2, z3, z4, z5, z6]) rfl ?_
      exact unhide HP
    case oa3_3 =>
      go_simp
      go_at_call 15
      refine (bentWrite b (m1 + 1) cv _ hSD hCD (by omega)).mono ?_
      rintro e w4 ⟨cs, y, bl, m4, rfl, hl, hbl, s4, hm4, c4, g4⟩
      obtain ⟨a5, d5, bv, rfl, rfl, k0, k1, k2, k3, k4⟩ := lies_Write.1 hl
      clear k0 k1 k2 k3 k4
      have hz4 := g4.size
      have hN4 := hND.ext (ext_grown g4) (by omega)
      have hG4 := grow_extI hGD (ext_grown g4) (unhide HI) (fun q h1 _ e => by omega)
      have hoff : ∀ c ∈ bl, (Value.slice a4 x.writes.length d4).ownBlock ≠ some c := fun c hc e => by
        have h1 := (hbl c hc).1
        have h2 := ((unhide HI).2 c e).2
        omega
      try go_wp2_with fail
      refine hK.out _ _ trivial (fun hHeld => ?_)
      clear hK K
      try simp only [Act.put, List.setIfInBounds_toArray, List.set_cons_zero, List.set_cons_succ]
      refine wpAnyH_ready (rs := [1, 4]) (by kernel_rfl) (by simp) ?_
      refine AllReadyH.cons (o := { dst := some 35, op := Go.Op.load 24 (Go.Operand.tmp 34), type := 24, pos := "l09_node.go:169", after := #[{ on := 0, ground := Go.Ground.data }], guard := none }) rfl (fun K hK => ?oa1_5) (AllReadyH.cons (o := { dst := some 38, op := Go.Op.buildSlice 24 1 #[(0, Go.Operand.tmp 37)], type := 24, pos := "l09_node.go:169", after := #[{ on := 3, ground := Go.Ground.data }], guard := none }) rfl (fun K hK => ?oa4_5) (AllReadyH.nil))
      case oa1_5 =>
        have u4 := Box.at hN4 4 _ rfl
        simp only [List.getElem_toArray, List.getElem_cons_zero, List.getElem_cons_succ] at u4
        go_simp
        try go_wp2_with fail
        refine hK.out _ _ trivial (fun hHeld => ?_)
        clear hK K
        try simp only [Act.put, List.setIfInBounds_toArray, List.set_cons_zero, List.set_cons_succ]
        refine wpAnyH_ready (rs := [4]) (by kernel_rfl) (by simp) ?_
        refine AllReadyH.cons (o := { dst := some 38, op := Go.Op.buildSlice 24 1 #[(0, Go.Operand.tmp 37)], type := 24, pos := "l09_node.go:169", after := #[{ on := 3, ground := Go.Ground.data }], guard := none }) rfl (fun K hK => ?_) AllReadyH.nil
        have nb5 : Below w4.heap.size w4 (w4.alloc (.cells #[.int .i64 y.kind, .int .i64 y.id, .slice a5 y.vec.length d5, .int .i64 y.session, .int .i64 y.seq] 29)) := (Below.refl _ _).alloc (Nat.le_refl _) _
        have hN5 := hN4.keep nb5
        go_simp
        try go_wp2_with fail
        refine hK.out _ _ trivial (fun hHeld => ?_)
        clear hK K
        try simp only [Act.put, List.setIfInBounds_toArray, List.set_cons_zero, List.set_cons_succ]
        refine wpAnyH_ready (rs := [5]) (by kernel_rfl) (by simp) ?_
        refine AllReadyH.cons (o := { dst := some 39, op := Go.Op.call { callee := Go.Callee.builtin Go.Builtin.append, args := #[Go.Operand.tmp 35, Go.Operand.tmp 38], argTypes := #[24, 24] }, type := 24, pos := "l09_node.go:169", after := #[{ on := 1, ground := Go.Ground.data }, { on := 4, ground := Go.Ground.data }, { on := 3, ground := Go.Ground.chain }], guard := none }) rfl (fun K hK => ?_) AllReadyH.nil
        refine step_append_Write hG4 hl hoff rfl _ _ rfl rfl rfl (by omega) (by omega) ?_
        intro g cap w5 hG5 hb5 hE5 hg5 hz5 hor5
        have hself : ∀ q, (Value.slice a4 x.writes.length d4).ownBlock = some q → W0.heap.size + 1 ≤ q ∧ q < w1.heap.size := (unhide HI).2
        have hN6 := hN4.ext hE5 (fun e => by have := hself _ e; omega)
        have u6 := Box.at hN6 4 _ rfl
        simp only [List.getElem_toArray, List.getElem_cons_zero, List.getElem_cons_succ] at u6
        have uf := Box.soft hN6
        have ul := Box.lt hN6
        refine hK.out _ _ trivial (fun hHeld => ?_)
        clear hK K
        try simp only [Act.put, List.setIfInBounds_toArray, List.set_cons_zero, List.set_cons_succ]
        refine wpAnyH_take (i := 6) (oi := { dst := some 40, op := Go.Op.fieldAddr 26 (Go.Operand.tmp 3) 4, type := 0, pos := "l09_node.go:169", after := #[{ on := 0, ground := Go.Ground.phase }, { on := 1, ground := Go.Ground.phase }, { on := 2, ground := Go.Ground.phase }, { on := 3, ground := Go.Ground.phase }, { on := 4, ground := Go.Ground.phase }, { on := 5, ground := Go.Ground.phase }], guard := none }) (v := ?va6_6) rfl (by kernel_rfl) (by kernel_rfl) (by kernel_rfl) (fun _ _ _ h => h) (Or.inl ⟨by rfl, ?ha6_6⟩) hHeld ?ra6_6
        case ha6_6 =>
          intro wS hSw
          (try dsimp only at hSw)
          go_simp
          try with_reducible rfl
        case ra6_6 =>
        simp only [Act.put, List.setIfInBounds_toArray, List.set_cons_zero, List.set_cons_succ]
        refine wpAnyH_ready (rs := [7]) (by kernel_rfl) (by simp) ?_
        refine AllReadyH.cons (o := { dst := none, op := Go.Op.store 24 (Go.Operand.tmp 40) (Go.Operand.tmp 39), type := 0, pos := "l09_node.go:169", after := #[{ on := 6, ground := Go.Ground.data }, { on := 5, ground := Go.Ground.data }, { on := 5, ground := Go.Ground.chain }, { on := 0, ground := Go.Ground.phase }, { on := 1, ground := Go.Ground.phase }, { on := 2, ground := Go.Ground.phase }, { on := 3, ground := Go.Ground.phase }, { on := 4, ground := Go.Ground.phase }, { on := 5, ground := Go.Ground.phase }], guard := none }) rfl (fun K hK => ?_) AllReadyH.nil
        go_simp
        try go_wp2_with fail
        refine hK.out _ _ trivial (fun hHeld => ?_)
        clear hK K
        try simp only [Act.put, List.setIfInBounds_toArray, List.set_cons_zero, List.set_cons_succ]
        refine wpAnyH_done (by kernel_rfl) ?_ _
        refine NoPanic.normal ?_
        have e6 : Ext (fun q => q = w1.heap.size) w5 (w5.setCell ⟨w1.heap.size, 4, none⟩ (.slice (some ⟨g, 0, none⟩) (x.writes.length + 1) cap)) := (Ext.refl (fun q => q = w1.heap.size) _).setCell ⟨w1.heap.size, 4, none⟩ _ rfl
        have hgo : g ≠ w1.heap.size ∧ W0.heap.size + 1 ≤ g := by
          rcases hor5 with h | h
          · have := hself _ h; omega
          · have := hN4.lt; omega
        have HN : Hid (Box 0 #[.int .i64 x.id, .bool x.up, .int .i64 x.epoch, .int .i64 x.lease, .slice (some ⟨g, 0, none⟩) (x.writes.length + 1) cap, .int .i64 x.sure, .int .i64 x.clean] 26 (w5.setCell ⟨w1.heap.size, 4, none⟩ (.slice (some ⟨g, 0, none⟩) (x.writes.length + 1) cap)) w1.heap.size) := Box.set hN6 4 (.slice (some ⟨g, 0, none⟩) (x.writes.length + 1) cap)
        have HR : Hid (Box 0 #[.int .i64 0, .bool false, .int .i64 0, .int .i64 0, .slice none 0 0, .int .i64 0, .int .i64 0] 26 (w5.setCell ⟨w1.heap.size, 4, none⟩ (.slice (some ⟨g, 0, none⟩) (x.writes.length + 1) cap)) w.heap.size) := ((hRD.ext (ext_grown g4) (by omega)).ext hE5 (fun e => by have := hself _ e; omega)).ext e6 (by omega)
        have HE : Hid (Ext (fun q => q = b ∨ w.heap.size ≤ q) w (w5.setCell ⟨w1.heap.size, 4, none⟩ (.slice (some ⟨g, 0, none⟩) (x.writes.length + 1) cap))) := ((hED.trans ((ext_grown g4).mono fun k _ h => Or.inl h)).trans (hE5.mono fun k _ h => Or.inr (by have := hself _ h; omega))).trans (e6.mono fun k _ h => Or.inr (by omega))
        have hlow : ∀ c ∈ (bls ++ [bl]).flatten, w.heap.size + 1 ≤ c ∧ c ≠ w1.heap.size := by
          intro c hc
          rw [List.flatten_append] at hc
          rcases List.mem_append.1 hc with hc | hc
          · have := (unhide HI).1 c hc; omega
          · have := (hbl c (by simpa using hc)).1; have := hND.lt; omega
        have HG : Hid (Grow Lay.tWrite (w5.setCell ⟨w1.heap.size, 4, none⟩ (.slice (some ⟨g, 0, none⟩) (x.writes.length + 1) cap)) (W0.heap.size + 1) 29 (.slice (some ⟨g, 0, none⟩) (x.writes ++ [y]).length cap) (rows ++ [[.int .i64 y.kind, .int .i64 y.id, .slice a5 y.vec.length d5, .int .i64 y.session, .int .i64 y.seq]]) (x.writes ++ [y]) (bls ++ [bl])) := by
          have := grow_extP hG5 e6 (fun c hc => (hlow c hc).2) (fun q hq => by simp [Value.ownBlock] at hq; omega)
          rw [List.length_append]
          exact this
        have HL := hide hlow
        have HS : Hid (SrcAt (w5.setCell ⟨w1.heap.size, 4, none⟩ (.slice (some ⟨g, 0, none⟩) (x.writes.length + 1) cap)) b cv m4) := (s4.extW hE5 (fun e => by have := hself _ e; omega)).extW e6 (fun e => by omega)
        have HC : Hid (IsCode b (w5.setCell ⟨w1.heap.size, 4, none⟩ (.slice (some ⟨g, 0, none⟩) (x.writes.length + 1) cap)) cv) := (c4.extW (by omega) hE5 (fun k hk e => by have := hself _ e; omega)).extW (by omega) e6 (fun k hk e => by omega)
        clear hHeld hND hGD hSD hCD hRD hED s4 c4 g4 hN4 hN5 hG4 hoff hl hbl hG5 hb5 hE5 hN6 hself e6 hgo hlow hor5 hg5 uf ul u4 u6 nb5
        generalize w5.setCell ⟨w1.heap.size, 4, none⟩ (.slice (some ⟨g, 0, none⟩) (x.writes.length + 1) cap) = W4 at *
        have bN := unhide HN
        have bR := unhide HR
        have u0 := Box.at bN 0 _ rfl
        have u1 := Box.at bN 1 _ rfl
        have u2 := Box.at bN 2 _ rfl
        have u3 := Box.at bN 3 _ rfl
        have u4 := Box.at bN 4 _ rfl
        have u5 := Box.at bN 5 _ rfl
        have u6 := Box.at bN 6 _ rfl
        simp only [List.getElem_toArray, List.getElem_cons_zero, List.getElem_cons_succ] at u0 u1 u2 u3 u4 u5 u6
        have z0 := Box.at bR 0 _ rfl
        have z1 := Box.at bR 1 _ rfl
        have z2 := Box.at bR 2 _ rfl
        have z3 := Box.at bR 3 _ rfl
        have z4 := Box.at bR 4 _ rfl
        have z5 := Box.at bR 5 _ rfl
        have z6 := Box.at bR 6 _ rfl
        simp only [List.getElem_toArray, List.getElem_cons_zero, List.getElem_cons_succ] at z0 z1 z2 z3 z4 z5 z6
        have ff := Box.soft bR
        have l0 := Box.lt bR
        have ul := Box.lt bN
        have hF : Ext (fun q => q = w.heap.size) W4 (setAll W4 w.heap.size 0 [.int .i64 x.id, .bool x.up, .int .i64 x.epoch, .int .i64 x.lease, .slice (some ⟨g, 0, none⟩) (x.writes.length + 1) cap, .int .i64 x.sure, .int .i64 x.clean]) := ext_setAll (fun q => q = w.heap.size) (Ext.refl _ _) w.heap.size 0 _ rfl
        have HP := hide (closeN (K := 21) (M := 3000) (a := some ⟨g, 0, none⟩) (d := cap) (x := (⟨x.id, x.up, x.epoch, x.lease, (x.writes ++ [y]), x.sure, x.clean⟩ : DNode)) (b := b) (m := m) (unhide HE) (unhide HS) (unhide HC) hbw0 (by omega) hF ((unhide HG).lower (by omega)) (fun c hc => (unhide HL c hc).1) (by simp only [List.length_append, List.length_singleton]; omega) ⟨hbd.b0, hbd.b2, hbd.b3, hbd.b5, hbd.b6⟩)
        simp only [List.length_append, List.length_singleton] at HP
        clear hF bR bN
        go_wp2_with fail
        refine bodyPost_ret (v := .agg #[.int .i64 x.id, .bool x.up, .int .i64 x.epoch, .int .i64 x.lease, .slice (some ⟨g, 0, none⟩) (x.writes.length + 1) cap, .int .i64 x.sure, .int .i64 x.clean]) (by simp [results, Tryz.results14, go_sem, z0, z1, z2, z3, z4, z5, z6]) rfl ?_
        exact unhide HP
      case oa4_5 =>
        have nb5 : Below w4.heap.size w4 (w4.alloc (.cells #[.int .i64 y.kind, .int .i64 y.id, .slice a5 y.vec.length d5, .int .i64 y.session, .int .i64 y.seq] 29)) := (Below.refl _ _).alloc (Nat.le_refl _) _
        have hN5 := hN4.keep nb5
        go_simp
        try go_wp2_with fail
        refine hK.out _ _ trivial (fun hHeld => ?_)
        clear hK K
        try simp only [Act.put, List.setIfInBounds_toArray, List.set_cons_zero, List.set_cons_succ]
        refine wpAnyH_ready (rs := [1]) (by kernel_rfl) (by simp) ?_
        refine AllReadyH.cons (o := { dst := some 35, op := Go.Op.load 24 (Go.Operand.tmp 34), type := 24, pos := "l09_node.go:169", after := #[{ on := 0, ground := Go.Ground.data }], guard := none }) rfl (fun K hK => ?_) AllReadyH.nil
        have u4 := Box.at hN5 4 _ rfl
        simp only [List.getElem_toArray, List.getElem_cons_zero, List.getElem_cons_succ] at u4
        go_simp
        try go_wp2_with fail
        refine hK.out _ _ trivial (fun hHeld => ?_)
        clear hK K
        try simp only [Act.put, List.setIfInBounds_toArray, List.set_cons_zero, List.set_cons_succ]
        refine wpAnyH_ready (rs := [5]) (by kernel_rfl) (by simp) ?_
        refine AllReadyH.cons (o := { dst := some 39, op := Go.Op.call { callee := Go.Callee.builtin Go.Builtin.append, args := #[Go.Operand.tmp 35, Go.Operand.tmp 38], argTypes := #[24, 24] }, type := 24, pos := "l09_node.go:169", after := #[{ on := 1, ground := Go.Ground.data }, { on := 4, ground := Go.Ground.data }, { on := 3, ground := Go.Ground.chain }], guard := none }) rfl (fun K hK => ?_) AllReadyH.nil
        refine step_append_Write hG4 hl hoff rfl _ _ rfl rfl rfl (by omega) (by omega) ?_
        intro g cap w5 hG5 hb5 hE5 hg5 hz5 hor5
        have hself : ∀ q, (Value.slice a4 x.writes.length d4).ownBlock = some q → W0.heap.size + 1 ≤ q ∧ q < w1.heap.size := (unhide HI).2
        have hN6 := hN4.ext hE5 (fun e => by have := hself _ e; omega)
        have u6 := Box.at hN6 4 _ rfl
        simp only [List.getElem_toArray, List.getElem_cons_zero, List.getElem_cons_succ] at u6
        have uf := Box.soft hN6
        have ul := Box.lt hN6
        refine hK.out _ _ trivial (fun hHeld => ?_)
        clear hK K
        try simp only [Act.put, List.setIfInBounds_toArray, List.set_cons_zero, List.set_cons_succ]
        refine wpAnyH_take (i := 6) (oi := { dst := some 40, op := Go.Op.fieldAddr 26 (Go.Operand.tmp 3) 4, type := 0, pos := "l09_node.go:169", after := #[{ on := 0, ground := Go.Ground.phase }, { on := 1, ground := Go.Ground.phase }, { on := 2, ground := Go.Ground.phase }, { on := 3, ground := Go.Ground.phase }, { on := 4, ground := Go.Ground.phase }, { on := 5, ground := Go.Ground.phase }], guard := none }) (v := ?va6_7) rfl (by kernel_rfl) (by kernel_rfl) (by kernel_rfl) (fun _ _ _ h => h) (Or.inl ⟨by rfl, ?ha6_7⟩) hHeld ?ra6_7
        case ha6_7 =>
          intro wS hSw
          (try dsimp only at hSw)
          go_simp
          try with_reducible rfl
        case ra6_7 =>
        simp only [Act.put, List.setIfInBounds_toArray, List.set_cons_zero, List.set_cons_succ]
        refine wpAnyH_ready (rs := [7]) (by kernel_rfl) (by simp) ?_
        refine AllReadyH.cons (o := { dst := none, op := Go.Op.store 24 (Go.Operand.tmp 40) (Go.Operand.tmp 39), type := 0, pos := "l09_node.go:169", after := #[{ on := 6, ground := Go.Ground.data }, { on := 5, ground := Go.Ground.data }, { on := 5, ground := Go.Ground.chain }, { on := 0, ground := Go.Ground.phase }, { on := 1, ground := Go.Ground.phase }, { on := 2, ground := Go.Ground.phase }, { on := 3, ground := Go.Ground.phase }, { on := 4, ground := Go.Ground.phase }, { on := 5, ground := Go.Ground.phase }], guard := none }) rfl (fun K hK => ?_) AllReadyH.nil
        go_simp
        try go_wp2_with fail
        refine hK.out _ _ trivial (fun hHeld => ?_)
        clear hK K
        try simp only [Act.put, List.setIfInBounds_toArray, List.set_cons_zero, List.set_cons_succ]
        refine wpAnyH_done (by kernel_rfl) ?_ _
        refine NoPanic.normal ?_
        have e6 : Ext (fun q => q = w1.heap.size) w5 (w5.setCell ⟨w1.heap.size, 4, none⟩ (.slice (some ⟨g, 0, none⟩) (x.writes.length + 1) cap)) := (Ext.refl (fun q => q = w1.heap.size) _).setCell ⟨w1.heap.size, 4, none⟩ _ rfl
        have hgo : g ≠ w1.heap.size ∧ W0.heap.size + 1 ≤ g := by
          rcases hor5 with h | h
          · have := hself _ h; omega
          · have := hN4.lt; omega
        have HN : Hid (Box 0 #[.int .i64 x.id, .bool x.up, .int .i64 x.epoch, .int .i64 x.lease, .slice (some ⟨g, 0, none⟩) (x.writes.length + 1) cap, .int .i64 x.sure, .int .i64 x.clean] 26 (w5.setCell ⟨w1.heap.size, 4, none⟩ (.slice (some ⟨g, 0, none⟩) (x.writes.length + 1) cap)) w1.heap.size) := Box.set hN6 4 (.slice (some ⟨g, 0, none⟩) (x.writes.length + 1) cap)
        have HR : Hid (Box 0 #[.int .i64 0, .bool false, .int .i64 0, .int .i64 0, .slice none 0 0, .int .i64 0, .int .i64 0] 26 (w5.setCell ⟨w1.heap.size, 4, none⟩ (.slice (some ⟨g, 0, none⟩) (x.writes.length + 1) cap)) w.heap.size) := ((hRD.ext (ext_grown g4) (by omega)).ext hE5 (fun e => by have := hself _ e; omega)).ext e6 (by omega)
        have HE : Hid (Ext (fun q => q = b ∨ w.heap.size ≤ q) w (w5.setCell ⟨w1.heap.size, 4, none⟩ (.slice (some ⟨g, 0, none⟩) (x.writes.length + 1) cap))) := ((hED.trans ((ext_grown g4).mono fun k _ h => Or.inl h)).trans (hE5.mono fun k _ h => Or.inr (by have := hself _ h; omega))).trans (e6.mono fun k _ h => Or.inr (by omega))
        have hlow : ∀ c ∈ (bls ++ [bl]).flatten, w.heap.size + 1 ≤ c ∧ c ≠ w1.heap.size := by
          intro c hc
          rw [List.flatten_append] at hc
          rcases List.mem_append.1 hc with hc | hc
          · have := (unhide HI).1 c hc; omega
          · have := (hbl c (by simpa using hc)).1; have := hND.lt; omega
        have HG : Hid (Grow Lay.tWrite (w5.setCell ⟨w1.heap.size, 4, none⟩ (.slice (some ⟨g, 0, none⟩) (x.writes.length + 1) cap)) (W0.heap.size + 1) 29 (.slice (some ⟨g, 0, none⟩) (x.writes ++ [y]).length cap) (rows ++ [[.int .i64 y.kind, .int .i64 y.id, .slice a5 y.vec.length d5, .int .i64 y.session, .int .i64 y.seq]]) (x.writes ++ [y]) (bls ++ [bl])) := by
          have := grow_extP hG5 e6 (fun c hc => (hlow c hc).2) (fun q hq => by simp [Value.ownBlock] at hq; omega)
          rw [List.length_append]
          exact this
        have HL := hide hlow
        have HS : Hid (SrcAt (w5.setCell ⟨w1.heap.size, 4, none⟩ (.slice (some ⟨g, 0, none⟩) (x.writes.length + 1) cap)) b cv m4) := (s4.extW hE5 (fun e => by have := hself _ e; omega)).extW e6 (fun e => by omega)
        have HC : Hid (IsCode b (w5.setCell ⟨w1.heap.size, 4, none⟩ (.slice (some ⟨g, 0, none⟩) (x.writes.length + 1) cap)) cv) := (c4.extW (by omega) hE5 (fun k hk e => by have := hself _ e; omega)).extW (by omega) e6 (fun k hk e => by omega)
        clear hHeld hND hGD hSD hCD hRD hED s4 c4 g4 hN4 hN5 hG4 hoff hl hbl hG5 hb5 hE5 hN6 hself e6 hgo hlow hor5 hg5 uf ul u4 u6 nb5
        generalize w5.setCell ⟨w1.heap.size, 4, none⟩ (.slice (some ⟨g, 0, none⟩) (x.writes.length + 1) cap) = W4 at *
        have bN := unhide HN
        have bR := unhide HR
        have u0 := Box.at bN 0 _ rfl
        have u1 := Box.at bN 1 _ rfl
        have u2 := Box.at bN 2 _ rfl
        have u3 := Box.at bN 3 _ rfl
        have u4 := Box.at bN 4 _ rfl
        have u5 := Box.at bN 5 _ rfl
        have u6 := Box.at bN 6 _ rfl
        simp only [List.getElem_toArray, List.getElem_cons_zero, List.getElem_cons_succ] at u0 u1 u2 u3 u4 u5 u6
        have z0 := Box.at bR 0 _ rfl
        have z1 := Box.at bR 1 _ rfl
        have z2 := Box.at bR 2 _ rfl
        have z3 := Box.at bR 3 _ rfl
        have z4 := Box.at bR 4 _ rfl
        have z5 := Box.at bR 5 _ rfl
        have z6 := Box.at bR 6 _ rfl
        simp only [List.getElem_toArray, List.getElem_cons_zero, List.getElem_cons_succ] at z0 z1 z2 z3 z4 z5 z6
        have ff := Box.soft bR
        have l0 := Box.lt bR
        have ul := Box.lt bN
        have hF : Ext (fun q => q = w.heap.size) W4 (setAll W4 w.heap.size 0 [.int .i64 x.id, .bool x.up, .int .i64 x.epoch, .int .i64 x.lease, .slice (some ⟨g, 0, none⟩) (x.writes.length + 1) cap, .int .i64 x.sure, .int .i64 x.clean]) := ext_setAll (fun q => q = w.heap.size) (Ext.refl _ _) w.heap.size 0 _ rfl
        have HP := hide (closeN (K := 21) (M := 3000) (a := some ⟨g, 0, none⟩) (d := cap) (x := (⟨x.id, x.up, x.epoch, x.lease, (x.writes ++ [y]), x.sure, x.clean⟩ : DNode)) (b := b) (m := m) (unhide HE) (unhide HS) (unhide HC) hbw0 (by omega) hF ((unhide HG).lower (by omega)) (fun c hc => (unhide HL c hc).1) (by simp only [List.length_append, List.length_singleton]; omega) ⟨hbd.b0, hbd.b2, hbd.b3, hbd.b5, hbd.b6⟩)
        simp only [List.length_append, List.length_singleton] at HP
        clear hF bR bN
        go_wp2_with fail
        refine bodyPost_ret (v := .agg #[.int .i64 x.id, .bool x.up, .int .i64 x.epoch, .int .i64 x.lease, .slice (some ⟨g, 0, none⟩) (x.writes.length + 1) cap, .int .i64 x.sure, .int .i64 x.clean]) (by simp [results, Tryz.results14, go_sem, z0, z1, z2, z3, z4, z5, z6]) rfl ?_
        exact unhide HP
  · have hN := unhide HN
    have e4 : Ext (fun q => q = w1.heap.size) w2 (w2.setCell ⟨w1.heap.size, 1, none⟩ (.bool (!x.up))) := (Ext.refl (fun q => q = w1.heap.size) _).setCell ⟨w1.heap.size, 1, none⟩ _ rfl
    have HN4 : Hid (Box 0 #[.int .i64 x.id, .bool (!x.up), .int .i64 x.epoch, .int .i64 x.lease, .slice a4 x.writes.length d4, .int .i64 x.sure, .int .i64 x.clean] 26 (w2.setCell ⟨w1.heap.size, 1, none⟩ (.bool (!x.up))) w1.heap.size) := Box.set hN 1 (.bool (!x.up))
    have HE4 := hide ((unhide HE).trans (e4.mono fun k _ h => Or.inr (by omega)))
    have HR4 := hide ((unhide HR).ext e4 (by omega))
    have HG4 := hide (grow_extI (unhide HG) e4 (unhide HI) (fun q _ h2 e => by omega))
    have HS4 := hide ((unhide HS).extW e4 (fun e => by omega))
    have HC4 := hide ((unhide HC).extW (by omega) e4 (fun k hk e => by omega))
    have u1 := Box.at hN 1 _ rfl
    simp only [List.getElem_toArray, List.getElem_cons_zero, List.getElem_cons_succ] at u1
    have uf := Box.soft hN
    have ul := Box.lt hN
    clear hN e4 HE HR HN HG HS HC
    go_upto_region 15 with fail
    clear u1 uf ul
    generalize w2.setCell ⟨w1.heap.size, 1, none⟩ (.bool (!x.up)) = W4 at *
    have HE := HE4
    have HR := HR4
    have HN := HN4
    have HG := HG4
    have HS := HS4
    have HC := HC4
    clear HE4 HR4 HN4 HG4 HS4 HC4
    have bN := unhide HN
    have bR := unhide HR
    have u0 := Box.at bN 0 _ rfl
    have u1 := Box.at bN 1 _ rfl
    have u2 := Box.at bN 2 _ rfl
    have u3 := Box.at bN 3 _ rfl
    have u4 := Box.at bN 4 _ rfl
    have u5 := Box.at bN 5 _ rfl
    have u6 := Box.at bN 6 _ rfl
    simp only [List.getElem_toArray, List.getElem_cons_zero, List.getElem_cons_succ] at u0 u1 u2 u3 u4 u5 u6
    have z0 := Box.at bR 0 _ rfl
    have z1 := Box.at bR 1 _ rfl
    have z2 := Box.at bR 2 _ rfl
    have z3 := Box.at bR 3 _ rfl
    have z4 := Box.at bR 4 _ rfl
    have z5 := Box.at bR 5 _ rfl
    have z6 := Box.at bR 6 _ rfl
    simp only [List.getElem_toArray, List.getElem_cons_zero, List.getElem_cons_succ] at z0 z1 z2 z3 z4 z5 z6
    have ff := Box.soft bR
    have l0 := Box.lt bR
    have ul := Box.lt bN
    have hF : Ext (fun q => q = w.heap.size) W4 (setAll W4 w.heap.size 0 [.int .i64 x.id, .bool (!x.up), .int .i64 x.epoch, .int .i64 x.lease, .slice a4 x.writes.length d4, .int .i64 x.sure, .int .i64 x.clean]) := ext_setAll (fun q => q = w.heap.size) (Ext.refl _ _) w.heap.size 0 _ rfl
    have HP := hide (closeN (K := 21) (M := 3000) (x := (⟨x.id, (!x.up), x.epoch, x.lease, x.writes, x.sure, x.clean⟩ : DNode)) (b := b) (m := m) (unhide HE) (unhide HS) (unhide HC) hbw0 (by omega) hF ((unhide HG).lower (by omega)) (fun c hc => by have := (unhide HI).1 c hc; omega) (by simp only; omega) ⟨hbd.b0, hbd.b2, hbd.b3, hbd.b5, hbd.b6⟩)
    clear hF bR bN
    go_wp2_with fail
    refine bodyPost_ret (v := .agg #[.int .i64 x.id, .bool (!x.up), .int .i64 x.epoch, .int .i64 x.lease, .slice a4 x.writes.length d4, .int .i64 x.sure, .int .i64 x.clean]) (by simp [results, Tryz.results14, go_sem, z0, z1, z2, z3, z4, z5, z6]) rfl ?_
    exact unhide HP
  · have dq0 : ((q : Int) == 0) = false := by rw [beq_eq_false_iff_ne]; omega
    have dq1 : ((q : Int) == 1) = false := by rw [beq_eq_false_iff_ne]; omega
    have dq2 : ((q : Int) == 2) = false := by rw [beq_eq_false_iff_ne]; omega
    have dq3 : ((q : Int) == 3) = false := by rw [beq_eq_false_iff_ne]; omega
    have dq4 : ((q : Int) == 4) = false := by rw [beq_eq_false_iff_ne]; omega
    have dq5 : ((q : Int) == 5) = false := by rw [beq_eq_false_iff_ne]; omega
    have bN := unhide HN
    have bR := unhide HR
    have u0 := Box.at bN 0 _ rfl
    have u1 := Box.at bN 1 _ rfl
    have u2 := Box.at bN 2 _ rfl
    have u3 := Box.at bN 3 _ rfl
    have u4 := Box.at bN 4 _ rfl
    have u5 := Box.at bN 5 _ rfl
    have u6 := Box.at bN 6 _ rfl
    simp only [List.getElem_toArray, List.getElem_cons_zero, List.getElem_cons_succ] at u0 u1 u2 u3 u4 u5 u6
    have z0 := Box.at bR 0 _ rfl
    have z1 := Box.at bR 1 _ rfl
    have z2 := Box.at bR 2 _ rfl
    have z3 := Box.at bR 3 _ rfl
    have z4 := Box.at bR 4 _ rfl
    have z5 := Box.at bR 5 _ rfl
    have z6 := Box.at bR 6 _ rfl
    simp only [List.getElem_toArray, List.getElem_cons_zero, List.getElem_cons_succ] at z0 z1 z2 z3 z4 z5 z6
    have ff := Box.soft bR
    have l0 := Box.lt bR
    have ul := Box.lt bN
    have hF : Ext (fun q => q = w.heap.size) w2 (setAll w2 w.heap.size 0 [.int .i64 x.id, .bool x.up, .int .i64 x.epoch, .int .i64 x.lease, .slice a4 x.writes.length d4, .int .i64 x.sure, .int .i64 x.clean]) := ext_setAll (fun q => q = w.heap.size) (Ext.refl _ _) w.heap.size 0 _ rfl
    have HP := hide (closeN (K := 21) (M := 3000) (x := (⟨x.id, x.up, x.epoch, x.lease, x.writes, x.sure, x.clean⟩ : DNode)) (b := b) (m := m) (unhide HE) (unhide HS) (unhide HC) hbw0 (by omega) hF ((unhide HG).lower (by omega)) (fun c hc => by have := (unhide HI).1 c hc; omega) (by simp only; omega) ⟨hbd.b0, hbd.b2, hbd.b3, hbd.b5, hbd.b6⟩)
    clear hF bR bN
    go_wp2_with fail
    refine bodyPost_ret (v := .agg #[.int .i64 x.id, .bool x.up, .int .i64 x.epoch, .int .i64 x.lease, .slice a4 x.writes.length d4, .int .i64 x.sure, .int .i64 x.clean]) (by simp [results, Tryz.results14, go_sem, z0, z1, z2, z3, z4, z5, z6]) rfl ?_
    exact unhide HP
end Go.Proofs.YtbogjepkdcknfaaGreatDoor

namespace Go.Proofs.YtbogjepkdcknfaaGreatDoor
open Go.RowKit

theorem isCode_up9 {w w' : World} {cv : Value} (h : IsCode w.heap.size w cv) (hb : Below w.heap.size w w') : IsCode (w.heap.size + 1) w' cv := by
  obtain ⟨ao, len, cap, rfl, hl, h1⟩ := h.later hb
  refine ⟨ao, len, cap, rfl, hl, fun hp => ?_⟩
  obtain ⟨b, off, e, hB, hc⟩ := h1 hp
  exact ⟨b, off, e, by omega, hc⟩

end Go.Proofs.YtbogjepkdcknfaaGreatDoor

namespace Go.Proofs.YtbogjepkdcknfaaGreatDoor
open Go.RowKit

theorem box_set5 {lo : Nat} {T : TypeId} {W : World} {s : Nat} {c0 c1 c2 c3 c4 : Value} (h : Box lo #[c0, c1, c2, c3, c4] T W s) (v0 v1 v2 v3 v4 : Value) : Box lo #[v0, v1, v2, v3, v4] T (((((W.setCell ⟨s, 0, none⟩ v0).setCell ⟨s, 1, none⟩ v1).setCell ⟨s, 2, none⟩ v2).setCell ⟨s, 3, none⟩ v3).setCell ⟨s, 4, none⟩ v4) s := by
  have q := (Box.set (Box.set (Box.set (Box.set (Box.set h 0 v0) 1 v1) 2 v2) 3 v3) 4 v4)
  simp only [List.setIfInBounds_toArray, List.set_cons_zero, List.set_cons_succ] at q
  exact q
theorem isCode_up2 {w w' : World} {cv : Value} (h : IsCode w.heap.size w cv) (hb : Below w.heap.size w w') : IsCode (w.heap.size + 1 + 1) w' cv := by
  obtain ⟨ao, len, cap, rfl, hl, h1⟩ := h.later hb
  refine ⟨ao, len, cap, rfl, hl, fun hp => ?_⟩
  obtain ⟨b, off, e, hB, hc⟩ := h1 hp
  exact ⟨b, off, e, by omega, hc⟩
theorem min9C (a b : Int) (w : World) : Calls Tryz.prog 17 #[.int .i64 a, .int .i64 b] w fun e w' => e = .returned (.int .i64 (min a b)) ∧ w' = w := by
  by_cases h : a < b
  · have hd : decide (a < b) = true := by simpa using h
    rw [show min a b = a by omega]
    go_enter Tryz.func17, Tryz.ntmps17
    go_wp2_with fail
    go_ret
    exact ⟨rfl, rfl⟩
  · have hd : decide (a < b) = false := by simpa using h
    rw [show min a b = b by omega]
    go_enter Tryz.func17, Tryz.ntmps17
    go_wp2_with fail
    go_ret
    exact ⟨rfl, rfl⟩
set_option maxRecDepth 100000 in
set_option maxHeartbeats 4000000 in
theorem drawTake (ao : Option Addr) (len cap : Nat) (w : World) (hc : IsCode w.heap.size w (.slice ao len cap)) :
    Calls Tryz.prog 5 #[.slice ao len cap] w fun e w' => ∃ (cs : List Value) (x : DNode) (us : List Value) (y : DWrite), e = .returned (.tuple #[.agg cs.toArray, .agg us.toArray]) ∧ Lay.tNode.Reads w' cs x ∧ Lay.tWrite.Reads w' us y ∧ x.writes.length ≤ 21 ∧ Below w.heap.size w w' := by
  obtain ⟨cv, hcv⟩ : ∃ cv, cv = Value.slice ao len cap := ⟨_, rfl⟩
  have nb : Below w.heap.size w (((w.alloc (.cells #[.int .i64 0, .bool false, .int .i64 0, .int .i64 0, .slice none 0 0, .int .i64 0, .int .i64 0] 26)).alloc (.cells #[.int .i64 0, .int .i64 0, .slice none 0 0, .int .i64 0, .int .i64 0] 29)).alloc (.cells #[.slice ao len cap, .int .i64 0] 84)) := (((Below.refl _ _).alloc (Nat.le_refl _) _).alloc (by simp) _).alloc (by simp; omega) _
  have bR : Box 0 #[.int .i64 0, .bool false, .int .i64 0, .int .i64 0, .slice none 0 0, .int .i64 0, .int .i64 0] 26 (((w.alloc (.cells #[.int .i64 0, .bool false, .int .i64 0, .int .i64 0, .slice none 0 0, .int .i64 0, .int .i64 0] 26)).alloc (.cells #[.int .i64 0, .int .i64 0, .slice none 0 0, .int .i64 0, .int .i64 0] 29)).alloc (.cells #[.slice ao len cap, .int .i64 0] 84)) w.heap.size := ((newBox (Nat.zero_le _)).grow _).grow _
  have bQ : Box 0 #[.int .i64 0, .int .i64 0, .slice none 0 0, .int .i64 0, .int .i64 0] 29 (((w.alloc (.cells #[.int .i64 0, .bool false, .int .i64 0, .int .i64 0, .slice none 0 0, .int .i64 0, .int .i64 0] 26)).alloc (.cells #[.int .i64 0, .int .i64 0, .slice none 0 0, .int .i64 0, .int .i64 0] 29)).alloc (.cells #[.slice ao len cap, .int .i64 0] 84)) (w.heap.size + 1) := (newBoxAt (Nat.zero_le _) (by simp)).grow _
  have LS := hide (source ao len cap ((w.alloc (.cells #[.int .i64 0, .bool false, .int .i64 0, .int .i64 0, .slice none 0 0, .int .i64 0, .int .i64 0] 26)).alloc (.cells #[.int .i64 0, .int .i64 0, .slice none 0 0, .int .i64 0, .int .i64 0] 29)))
  have hS : SrcAt (((w.alloc (.cells #[.int .i64 0, .bool false, .int .i64 0, .int .i64 0, .slice none 0 0, .int .i64 0, .int .i64 0] 26)).alloc (.cells #[.int .i64 0, .int .i64 0, .slice none 0 0, .int .i64 0, .int .i64 0] 29)).alloc (.cells #[.slice ao len cap, .int .i64 0] 84)) (w.heap.size + 1 + 1) cv 0 := by
    rw [hcv]
    have := src_new ((w.alloc (.cells #[.int .i64 0, .bool false, .int .i64 0, .int .i64 0, .slice none 0 0, .int .i64 0, .int .i64 0] 26)).alloc (.cells #[.int .i64 0, .int .i64 0, .slice none 0 0, .int .i64 0, .int .i64 0] 29)) (.slice ao len cap)
    simpa using this
  have hC : IsCode (w.heap.size + 1 + 1) (((w.alloc (.cells #[.int .i64 0, .bool false, .int .i64 0, .int .i64 0, .slice none 0 0, .int .i64 0, .int .i64 0] 26)).alloc (.cells #[.int .i64 0, .int .i64 0, .slice none 0 0, .int .i64 0, .int .i64 0] 29)).alloc (.cells #[.slice ao len cap, .int .i64 0] 84)) cv := by
    rw [hcv]
    exact isCode_up2 hc nb
  have hz : w.heap.size + 1 + 1 < (((w.alloc (.cells #[.int .i64 0, .bool false, .int .i64 0, .int .i64 0, .slice none 0 0, .int .i64 0, .int .i64 0] 26)).alloc (.cells #[.int .i64 0, .int .i64 0, .slice none 0 0, .int .i64 0, .int .i64 0] 29)).alloc (.cells #[.slice ao len cap, .int .i64 0] 84)).heap.size := by simp
  have HB := hide nb
  have HR := hide bR
  have HRW := hide bQ
  have HS := hide hS
  have HC := hide hC
  clear nb bR bQ hS hC hc
  go_enter Tryz.func5, Tryz.ntmps5
  go_wp2_with fail
  refine (unhide LS).mono ?_
  rintro e W1 ⟨rfl, hW1⟩
  subst hW1
  generalize ((w.alloc (.cells #[.int .i64 0, .bool false, .int .i64 0, .int .i64 0, .slice none 0 0, .int .i64 0, .int .i64 0] 26)).alloc (.cells #[.int .i64 0, .int .i64 0, .slice none 0 0, .int .i64 0, .int .i64 0] 29)).alloc (.cells #[.slice ao len cap, .int .i64 0] 84) = W1 at *
  have L := hide (drawBent9 (w.heap.size + 1 + 1) 0 cv W1 (unhide HS) (unhide HC) (by omega))
  have hzw : ((w.alloc (.cells #[.int .i64 0, .bool false, .int .i64 0, .int .i64 0, .slice none 0 0, .int .i64 0, .int .i64 0] 26)).alloc (.cells #[.int .i64 0, .int .i64 0, .slice none 0 0, .int .i64 0, .int .i64 0] 29)).heap.size = w.heap.size + 1 + 1 := by simp
  rw [hzw]
  clear LS HS HC hcv hzw
  go_wp2_with fail
  refine (unhide L).mono ?_
  rintro e w2 ⟨a4, d4, x, rows, bls, m2, rfl, hG, hS2, hlen, hbd, s2, hm2, c2, g2⟩
  have HI := hide (grow_in hG hS2)
  have hz2 : W1.heap.size ≤ w2.heap.size := g2.size
  have nb2 : Below w2.heap.size w2 (w2.alloc (.cells #[.int .i64 x.id, .bool x.up, .int .i64 x.epoch, .int .i64 x.lease, .slice a4 x.writes.length d4, .int .i64 x.sure, .int .i64 x.clean] 26)) := (Below.refl _ _).alloc (Nat.le_refl _) _
  have HN2 : Hid (Box 0 #[.int .i64 x.id, .bool x.up, .int .i64 x.epoch, .int .i64 x.lease, .slice a4 x.writes.length d4, .int .i64 x.sure, .int .i64 x.clean] 26 (w2.alloc (.cells #[.int .i64 x.id, .bool x.up, .int .i64 x.epoch, .int .i64 x.lease, .slice a4 x.writes.length d4, .int .i64 x.sure, .int .i64 x.clean] 26)) w2.heap.size) := newBox (Nat.zero_le _)
  have HR2 := hide (((unhide HR).ext (ext_grown g2) (by omega)).keep nb2)
  have HRW2 := hide (((unhide HRW).ext (ext_grown g2) (by omega)).keep nb2)
  have hB2 := (unhide HB).grown g2 (unhide HB).size (fun k hk => by simp at hk; omega)
  have HB2 := hide (hB2.trans (nb2.mono hB2.size))
  have HG2 := hide (hG.later nb2)
  have hz22 : w2.heap.size < (w2.alloc (.cells #[.int .i64 x.id, .bool x.up, .int .i64 x.epoch, .int .i64 x.lease, .slice a4 x.writes.length d4, .int .i64 x.sure, .int .i64 x.clean] 26)).heap.size := by simp
  have L3 := hide (bentWrite (w.heap.size + 1 + 1) m2 cv _ (s2.onW nb2) (c2.onW (by omega) nb2) (by omega))
  clear L HR HRW HB hB2 hG hS2 s2 c2 g2 nb2
  go_wp2_with fail
  generalize w2.alloc (.cells #[.int .i64 x.id, .bool x.up, .int .i64 x.epoch, .int .i64 x.lease, .slice a4 x.writes.length d4, .int .i64 x.sure, .int .i64 x.clean] 26) = W2 at *
  refine (unhide L3).mono ?_
  rintro e w3 ⟨cs, y, bl, m3, rfl, hl, hbl, s3, hm3, c3, g3⟩
  obtain ⟨a5, d5, bv, rfl, rfl, k0, k1, hvl, k3, k4⟩ := lies_Write.1 hl
  have HWF := hide (And.intro k0 (And.intro k1 k3))
  have hz3 : W2.heap.size ≤ w3.heap.size := g3.size
  have nb3 : Below w3.heap.size w3 (w3.alloc (.cells #[.int .i64 y.kind, .int .i64 y.id, .slice a5 y.vec.length d5, .int .i64 y.session, .int .i64 y.seq] 29)) := (Below.refl _ _).alloc (Nat.le_refl _) _
  have HQ3 : Hid (Box 0 #[.int .i64 y.kind, .int .i64 y.id, .slice a5 y.vec.length d5, .int .i64 y.session, .int .i64 y.seq] 29 (w3.alloc (.cells #[.int .i64 y.kind, .int .i64 y.id, .slice a5 y.vec.length d5, .int .i64 y.session, .int .i64 y.seq] 29)) w3.heap.size) := newBox (Nat.zero_le _)
  have HN3 := hide (((unhide HN2).ext (ext_grown g3) (by omega)).keep nb3)
  have HR3 := hide (((unhide HR2).ext (ext_grown g3) (by omega)).keep nb3)
  have HRW3 := hide (((unhide HRW2).ext (ext_grown g3) (by omega)).keep nb3)
  have hB3 := (unhide HB2).grown g3 (unhide HB2).size (fun k hk => by simp at hk; omega)
  have HB3 := hide (hB3.trans (nb3.mono hB3.size))
  have HG3 := hide ((grow_extI (unhide HG2) (ext_grown g3) (unhide HI) (fun q h1 _ e => by omega)).later nb3)
  have HL3 : Hid (Lay.tWrite.lies (w3.alloc (.cells #[.int .i64 y.kind, .int .i64 y.id, .slice a5 y.vec.length d5, .int .i64 y.session, .int .i64 y.seq] 29)) [.int .i64 y.kind, .int .i64 y.id, .slice a5 y.vec.length d5, .int .i64 y.session, .int .i64 y.seq] y bl) := Lay.tWrite.keep hl fun c hc => nb3.block c (Lay.tWrite.lt hl c hc)
  have HBL : Hid (∀ c ∈ bl, W2.heap.size ≤ c ∧ c < w3.heap.size) := hbl
  have hz33 : w3.heap.size < (w3.alloc (.cells #[.int .i64 y.kind, .int .i64 y.id, .slice a5 y.vec.length d5, .int .i64 y.session, .int .i64 y.seq] 29)).heap.size := by simp
  have L4 := hide (chance5 (w.heap.size + 1 + 1) m3 cv _ (s3.onW nb3) (c3.onW (by omega) nb3) (by omega) 2 (by omega) (by omega))
  clear L3 HR2 HRW2 HB2 HN2 HG2 hB3 s3 c3 g3 nb3 hl hbl hvl k0 k1 k3 k4
  go_wp2_with fail
  generalize w3.alloc (.cells #[.int .i64 y.kind, .int .i64 y.id, .slice a5 y.vec.length d5, .int .i64 y.session, .int .i64 y.seq] 29) = W3 at *
  refine (unhide L4).mono ?_
  rintro e w4 ⟨q, rfl, s4, c4, g4⟩
  have hz4 : W3.heap.size ≤ w4.heap.size := g4.size
  have HN := hide ((unhide HN3).ext (ext_grown g4) (by omega))
  have HQ := hide ((unhide HQ3).ext (ext_grown g4) (by omega))
  have HR := hide ((unhide HR3).ext (ext_grown g4) (by omega))
  have HRW := hide ((unhide HRW3).ext (ext_grown g4) (by omega))
  have HG := hide (grow_extI (unhide HG3) (ext_grown g4) (unhide HI) (fun q h1 _ e => by omega))
  have HLV := hide (Lay.tWrite.keep (unhide HL3) fun c hc => (ext_grown g4).block c (Lay.tWrite.lt (unhide HL3) c hc) (by have := unhide HBL c hc; omega))
  have HBW := hide ((unhide HB3).grown g4 (unhide HB3).size (fun k hk => by simp at hk; omega))
  clear L4 HN3 HQ3 HR3 HRW3 HG3 HL3 HB3 s4 c4 g4
  cases q
  · go_wp2_with fail
    replace HLV : Hid (Lay.tWrite.lies w4 [.int .i64 y.kind, .int .i64 y.id, .slice a5 y.vec.length d5, .int .i64 y.session, .int .i64 y.seq] { y with seq := y.seq } bl) := HLV
    have hRD := Box.drew (unhide HR)
    have hQD := Box.drew (unhide HRW)
    refine wp_region_noPanic ?_
    refine wp_region_held_drew (S := fun w' => Ext (fun q => q = w.heap.size ∨ q = w.heap.size + 1) w4 w') (by kernel_rfl) ⟨rfl, rfl, rfl, Nat.le_refl _, fun _ _ _ => rfl⟩ (fun hHeld => ?_)
    generalize w4.drew = wD at hHeld hRD hQD ⊢
    refine wpAnyH_take (i := 0) (oi := { dst := some 23, op := Go.Op.load 26 (Go.Operand.tmp 5), type := 26, pos := "l09_node.go:192", after := #[], guard := none }) (v := ?va0_1) rfl (by kernel_rfl) (by kernel_rfl) (by kernel_rfl) (fun _ _ _ h => h) (Or.inl ⟨by rfl, ?ha0_1⟩) hHeld ?ra0_1
    case ha0_1 =>
      intro wS hSw
      have u0 := Box.at ((unhide HN).ext hSw (by omega)) 0 _ rfl
      have u1 := Box.at ((unhide HN).ext hSw (by omega)) 1 _ rfl
      have u2 := Box.at ((unhide HN).ext hSw (by omega)) 2 _ rfl
      have u3 := Box.at ((unhide HN).ext hSw (by omega)) 3 _ rfl
      have u4 := Box.at ((unhide HN).ext hSw (by omega)) 4 _ rfl
      have u5 := Box.at ((unhide HN).ext hSw (by omega)) 5 _ rfl
      have u6 := Box.at ((unhide HN).ext hSw (by omega)) 6 _ rfl
      simp only [List.getElem_toArray, List.getElem_cons_zero, List.getElem_cons_succ] at u0 u1 u2 u3 u4 u5 u6
      clear hSw
      (try dsimp only at hSw)
      go_simp
      try with_reducible rfl
    case ra0_1 =>
    simp only [Act.put, List.setIfInBounds_toArray, List.set_cons_zero, List.set_cons_succ]
    refine wpAnyH_take (i := 1) (oi := { dst := some 24, op := Go.Op.load 29 (Go.Operand.tmp 6), type := 29, pos := "l09_node.go:192", after := #[{ on := 2, ground := Go.Ground.gcOnly Go.Departure.lateStores }], guard := none }) (v := ?va1_2) rfl (by kernel_rfl) (by kernel_rfl) (by kernel_rfl) (fun _ _ _ h => h) (Or.inl ⟨by rfl, ?ha1_2⟩) hHeld ?ra1_2
    case ha1_2 =>
      intro wS hSw
      have v0 := Box.at ((unhide HQ).ext hSw (by omega)) 0 _ rfl
      have v1 := Box.at ((unhide HQ).ext hSw (by omega)) 1 _ rfl
      have v2 := Box.at ((unhide HQ).ext hSw (by omega)) 2 _ rfl
      have v3 := Box.at ((unhide HQ).ext hSw (by omega)) 3 _ rfl
      have v4 := Box.at ((unhide HQ).ext hSw (by omega)) 4 _ rfl
      simp only [List.getElem_toArray, List.getElem_cons_zero, List.getElem_cons_succ] at v0 v1 v2 v3 v4
      clear hSw
      (try dsimp only at hSw)
      go_simp
      try with_reducible rfl
    case ra1_2 =>
    simp only [Act.put, List.setIfInBounds_toArray, List.set_cons_zero, List.set_cons_succ]
    refine wpAnyH_ready (rs := [2]) (by kernel_rfl) (by simp) ?_
    refine AllReadyH.cons (o := { dst := none, op := Go.Op.store 26 (Go.Operand.tmp 2) (Go.Operand.tmp 23), type := 0, pos := "l09_node.go:192", after := #[{ on := 0, ground := Go.Ground.data }, { on := 0, ground := Go.Ground.phase }, { on := 1, ground := Go.Ground.textOnly Go.Departure.lateStores }], guard := none }) rfl (fun K hK => ?_) AllReadyH.nil
    have z0 := Box.at hRD 0 _ rfl
    have z1 := Box.at hRD 1 _ rfl
    have z2 := Box.at hRD 2 _ rfl
    have z3 := Box.at hRD 3 _ rfl
    have z4 := Box.at hRD 4 _ rfl
    have z5 := Box.at hRD 5 _ rfl
    have z6 := Box.at hRD 6 _ rfl
    simp only [List.getElem_toArray, List.getElem_cons_zero, List.getElem_cons_succ] at z0 z1 z2 z3 z4 z5 z6
    have ff := Box.soft hRD
    have l0 := Box.lt hRD
    have hQ3 : Box 0 #[.int .i64 0, .int .i64 0, .slice none 0 0, .int .i64 0, .int .i64 0] 29 (((((((wD.setCell ⟨w.heap.size, 0, none⟩ (.int .i64 x.id)).setCell ⟨w.heap.size, 1, none⟩ (.bool x.up)).setCell ⟨w.heap.size, 2, none⟩ (.int .i64 x.epoch)).setCell ⟨w.heap.size, 3, none⟩ (.int .i64 x.lease)).setCell ⟨w.heap.size, 4, none⟩ (.slice a4 x.writes.length d4)).setCell ⟨w.heap.size, 5, none⟩ (.int .i64 x.sure)).setCell ⟨w.heap.size, 6, none⟩ (.int .i64 x.clean)) (w.heap.size + 1) := hQD.ext (ext_setAll (fun q => q = w.heap.size) (Ext.refl _ _) w.heap.size 0 [.int .i64 x.id, .bool x.up, .int .i64 x.epoch, .int .i64 x.lease, .slice a4 x.writes.length d4, .int .i64 x.sure, .int .i64 x.clean] rfl) (by omega)
    have hR3 : Box 0 #[.int .i64 x.id, .bool x.up, .int .i64 x.epoch, .int .i64 x.lease, .slice a4 x.writes.length d4, .int .i64 x.sure, .int .i64 x.clean] 26 (((((((wD.setCell ⟨w.heap.size, 0, none⟩ (.int .i64 x.id)).setCell ⟨w.heap.size, 1, none⟩ (.bool x.up)).setCell ⟨w.heap.size, 2, none⟩ (.int .i64 x.epoch)).setCell ⟨w.heap.size, 3, none⟩ (.int .i64 x.lease)).setCell ⟨w.heap.size, 4, none⟩ (.slice a4 x.writes.length d4)).setCell ⟨w.heap.size, 5, none⟩ (.int .i64 x.sure)).setCell ⟨w.heap.size, 6, none⟩ (.int .i64 x.clean)) w.heap.size := box_set7 hRD (.int .i64 x.id) (.bool x.up) (.int .i64 x.epoch) (.int .i64 x.lease) (.slice a4 x.writes.length d4) (.int .i64 x.sure) (.int .i64 x.clean)
    go_simp
    try go_wp2_with fail
    refine hK.out _ _ (ext_setAll (fun q => q = w.heap.size ∨ q = w.heap.size + 1) hHeld w.heap.size 0 [.int .i64 x.id, .bool x.up, .int .i64 x.epoch, .int .i64 x.lease, .slice a4 x.writes.length d4, .int .i64 x.sure, .int .i64 x.clean] (Or.inl rfl)) (fun hHeld => ?_)
    clear hK K
    try simp only [Act.put, List.setIfInBounds_toArray, List.set_cons_zero, List.set_cons_succ]
    refine wpAnyH_ready (rs := [3]) (by kernel_rfl) (by simp) ?_
    refine AllReadyH.cons (o := { dst := none, op := Go.Op.store 29 (Go.Operand.tmp 3) (Go.Operand.tmp 24), type := 0, pos := "l09_node.go:192", after := #[{ on := 1, ground := Go.Ground.data }, { on := 2, ground := Go.Ground.chain }, { on := 0, ground := Go.Ground.phase }, { on := 1, ground := Go.Ground.phase }, { on := 2, ground := Go.Ground.phase }], guard := none }) rfl (fun K hK => ?_) AllReadyH.nil
    replace hHeld : Ext (fun q => q = w.heap.size ∨ q = w.heap.size + 1) w4 (((((((wD.setCell ⟨w.heap.size, 0, none⟩ (.int .i64 x.id)).setCell ⟨w.heap.size, 1, none⟩ (.bool x.up)).setCell ⟨w.heap.size, 2, none⟩ (.int .i64 x.epoch)).setCell ⟨w.heap.size, 3, none⟩ (.int .i64 x.lease)).setCell ⟨w.heap.size, 4, none⟩ (.slice a4 x.writes.length d4)).setCell ⟨w.heap.size, 5, none⟩ (.int .i64 x.sure)).setCell ⟨w.heap.size, 6, none⟩ (.int .i64 x.clean)) := hHeld
    generalize (((((((wD.setCell ⟨w.heap.size, 0, none⟩ (.int .i64 x.id)).setCell ⟨w.heap.size, 1, none⟩ (.bool x.up)).setCell ⟨w.heap.size, 2, none⟩ (.int .i64 x.epoch)).setCell ⟨w.heap.size, 3, none⟩ (.int .i64 x.lease)).setCell ⟨w.heap.size, 4, none⟩ (.slice a4 x.writes.length d4)).setCell ⟨w.heap.size, 5, none⟩ (.int .i64 x.sure)).setCell ⟨w.heap.size, 6, none⟩ (.int .i64 x.clean)) = wE at *
    have t0 := Box.at hQ3 0 _ rfl
    have t1 := Box.at hQ3 1 _ rfl
    have t2 := Box.at hQ3 2 _ rfl
    have t3 := Box.at hQ3 3 _ rfl
    have t4 := Box.at hQ3 4 _ rfl
    simp only [List.getElem_toArray, List.getElem_cons_zero, List.getElem_cons_succ] at t0 t1 t2 t3 t4
    have ff2 := Box.soft hQ3
    have l2 := Box.lt hQ3
    go_simp
    try go_wp2_with fail
    refine hK.out _ _ (ext_setAll (fun q => q = w.heap.size ∨ q = w.heap.size + 1) hHeld (w.heap.size + 1) 0 [.int .i64 y.kind, .int .i64 y.id, .slice a5 y.vec.length d5, .int .i64 y.session, .int .i64 y.seq] (Or.inr rfl)) (fun hHeld => ?_)
    clear hK K
    try simp only [Act.put, List.setIfInBounds_toArray, List.set_cons_zero, List.set_cons_succ]
    refine wpAnyH_done (by kernel_rfl) ?_ _
    refine NoPanic.normal ?_
    have hE : Ext (fun q => q = w.heap.size ∨ q = w.heap.size + 1) w4 (((((wE.setCell ⟨w.heap.size + 1, 0, none⟩ (.int .i64 y.kind)).setCell ⟨w.heap.size + 1, 1, none⟩ (.int .i64 y.id)).setCell ⟨w.heap.size + 1, 2, none⟩ (.slice a5 y.vec.length d5)).setCell ⟨w.heap.size + 1, 3, none⟩ (.int .i64 y.session)).setCell ⟨w.heap.size + 1, 4, none⟩ (.int .i64 y.seq)) := hHeld
    have HRN : Hid (Lay.tNode.Reads (((((wE.setCell ⟨w.heap.size + 1, 0, none⟩ (.int .i64 y.kind)).setCell ⟨w.heap.size + 1, 1, none⟩ (.int .i64 y.id)).setCell ⟨w.heap.size + 1, 2, none⟩ (.slice a5 y.vec.length d5)).setCell ⟨w.heap.size + 1, 3, none⟩ (.int .i64 y.session)).setCell ⟨w.heap.size + 1, 4, none⟩ (.int .i64 y.seq)) [.int .i64 x.id, .bool x.up, .int .i64 x.epoch, .int .i64 x.lease, .slice a4 x.writes.length d4, .int .i64 x.sure, .int .i64 x.clean] x) := node_reads hbd ((grow_extI (unhide HG) hE (unhide HI) (fun q h1 _ e => by omega)).toReads (by omega))
    have HRY : Hid (Lay.tWrite.Reads (((((wE.setCell ⟨w.heap.size + 1, 0, none⟩ (.int .i64 y.kind)).setCell ⟨w.heap.size + 1, 1, none⟩ (.int .i64 y.id)).setCell ⟨w.heap.size + 1, 2, none⟩ (.slice a5 y.vec.length d5)).setCell ⟨w.heap.size + 1, 3, none⟩ (.int .i64 y.session)).setCell ⟨w.heap.size + 1, 4, none⟩ (.int .i64 y.seq)) [.int .i64 y.kind, .int .i64 y.id, .slice a5 y.vec.length d5, .int .i64 y.session, .int .i64 y.seq] { y with seq := y.seq }) := ⟨bl, Lay.tWrite.keep (unhide HLV) fun c hc => hE.block c (Lay.tWrite.lt (unhide HLV) c hc) (by have := unhide HBL c hc; omega)⟩
    have HBZ : Hid (Below w.heap.size w (((((wE.setCell ⟨w.heap.size + 1, 0, none⟩ (.int .i64 y.kind)).setCell ⟨w.heap.size + 1, 1, none⟩ (.int .i64 y.id)).setCell ⟨w.heap.size + 1, 2, none⟩ (.slice a5 y.vec.length d5)).setCell ⟨w.heap.size + 1, 3, none⟩ (.int .i64 y.session)).setCell ⟨w.heap.size + 1, 4, none⟩ (.int .i64 y.seq))) := (unhide HBW).trans (hE.below (unhide HBW).size (fun k hk e => by omega))
    have bN9 : Box 0 #[.int .i64 x.id, .bool x.up, .int .i64 x.epoch, .int .i64 x.lease, .slice a4 x.writes.length d4, .int .i64 x.sure, .int .i64 x.clean] 26 (((((wE.setCell ⟨w.heap.size + 1, 0, none⟩ (.int .i64 y.kind)).setCell ⟨w.heap.size + 1, 1, none⟩ (.int .i64 y.id)).setCell ⟨w.heap.size + 1, 2, none⟩ (.slice a5 y.vec.length d5)).setCell ⟨w.heap.size + 1, 3, none⟩ (.int .i64 y.session)).setCell ⟨w.heap.size + 1, 4, none⟩ (.int .i64 y.seq)) w.heap.size := hR3.ext (ext_setAll (fun q => q = w.heap.size + 1) (Ext.refl _ _) (w.heap.size + 1) 0 [.int .i64 y.kind, .int .i64 y.id, .slice a5 y.vec.length d5, .int .i64 y.session, .int .i64 y.seq] rfl) (by omega)
    have bQ9 : Box 0 #[.int .i64 y.kind, .int .i64 y.id, .slice a5 y.vec.length d5, .int .i64 y.session, .int .i64 y.seq] 29 (((((wE.setCell ⟨w.heap.size + 1, 0, none⟩ (.int .i64 y.kind)).setCell ⟨w.heap.size + 1, 1, none⟩ (.int .i64 y.id)).setCell ⟨w.heap.size + 1, 2, none⟩ (.slice a5 y.vec.length d5)).setCell ⟨w.heap.size + 1, 3, none⟩ (.int .i64 y.session)).setCell ⟨w.heap.size + 1, 4, none⟩ (.int .i64 y.seq)) (w.heap.size + 1) := box_set5 hQ3 (.int .i64 y.kind) (.int .i64 y.id) (.slice a5 y.vec.length d5) (.int .i64 y.session) (.int .i64 y.seq)
    clear hE hHeld hRD hQD hQ3 hR3 ff ff2 l0 l2 z0 z1 z2 z3 z4 z5 z6 t0 t1 t2 t3 t4
    generalize (((((wE.setCell ⟨w.heap.size + 1, 0, none⟩ (.int .i64 y.kind)).setCell ⟨w.heap.size + 1, 1, none⟩ (.int .i64 y.id)).setCell ⟨w.heap.size + 1, 2, none⟩ (.slice a5 y.vec.length d5)).setCell ⟨w.heap.size + 1, 3, none⟩ (.int .i64 y.session)).setCell ⟨w.heap.size + 1, 4, none⟩ (.int .i64 y.seq)) = wF at *
    have p0 := Box.at bN9 0 _ rfl
    have p1 := Box.at bN9 1 _ rfl
    have p2 := Box.at bN9 2 _ rfl
    have p3 := Box.at bN9 3 _ rfl
    have p4 := Box.at bN9 4 _ rfl
    have p5 := Box.at bN9 5 _ rfl
    have p6 := Box.at bN9 6 _ rfl
    simp only [List.getElem_toArray, List.getElem_cons_zero, List.getElem_cons_succ] at p0 p1 p2 p3 p4 p5 p6
    have r0 := Box.at bQ9 0 _ rfl
    have r1 := Box.at bQ9 1 _ rfl
    have r2 := Box.at bQ9 2 _ rfl
    have r3 := Box.at bQ9 3 _ rfl
    have r4 := Box.at bQ9 4 _ rfl
    simp only [List.getElem_toArray, List.getElem_cons_zero, List.getElem_cons_succ] at r0 r1 r2 r3 r4
    clear bN9 bQ9
    go_wp2_with fail
    refine bodyPost_ret (v := .tuple #[.agg #[.int .i64 x.id, .bool x.up, .int .i64 x.epoch, .int .i64 x.lease, .slice a4 x.writes.length d4, .int .i64 x.sure, .int .i64 x.clean], .agg #[.int .i64 y.kind, .int .i64 y.id, .slice a5 y.vec.length d5, .int .i64 y.session, .int .i64 y.seq]]) (by simp [results, Tryz.results5, go_sem, p0, p1, p2, p3, p4, p5, p6, r0, r1, r2, r3, r4]) rfl ?_
    exact ⟨_, x, _, _, rfl, unhide HRN, unhide HRY, hlen, unhide HBZ⟩
  · have x4 := Box.at (unhide HN) 4 _ rfl
    have y3 := Box.at (unhide HQ) 3 _ rfl
    have y4 := Box.at (unhide HQ) 4 _ rfl
    simp only [List.getElem_toArray, List.getElem_cons_zero, List.getElem_cons_succ] at x4 y3 y4
    have yf := Box.soft (unhide HQ)
    have yl := Box.lt (unhide HQ)
    have HLS := hide (l5LastC _ x.writes y.session w4 ((unhide HG).toReads (by omega)) (by omega))
    have LM := hide (min9C 999 (wrap64 (lastI x.writes y.session + 1)) w4)
    go_wp2_with fail
    refine (unhide HLS).mono ?_
    rintro e w9 ⟨rfl, hw9⟩
    rw [hw9]
    clear hw9 w9 HLS x4 y3
    go_wp2_with fail
    refine (unhide LM).mono ?_
    rintro e w9 ⟨rfl, hw9⟩
    rw [hw9]
    clear hw9 w9 LM
    have hzw : (Lit.int .i64 (min 999 (wrap64 (lastI x.writes y.session + 1)))).wf = true := by
      have h1 : (Lit.int .i64 (wrap64 (lastI x.writes y.session + 1))).wf = true := by first | exact wf_wrap .i64 _ | (unfold wrap64; rw [← IntKind.wrap_i64]; exact wf_wrap _ _) | (rw [← wrap64_eq]; exact wf_wrap _ _)
      by_cases h : (999 : Int) ≤ wrap64 (lastI x.writes y.session + 1)
      · rw [show min (999 : Int) (wrap64 (lastI x.writes y.session + 1)) = 999 by omega]; decide
      · rw [show min (999 : Int) (wrap64 (lastI x.writes y.session + 1)) = wrap64 (lastI x.writes y.session + 1) by omega]; exact h1
    generalize min 999 (wrap64 (lastI x.writes y.session + 1)) = z at *
    have e6 : Ext (fun q => q = w3.heap.size) w4 (w4.setCell ⟨w3.heap.size, 4, none⟩ (.int .i64 z)) := (Ext.refl (fun q => q = w3.heap.size) _).setCell ⟨w3.heap.size, 4, none⟩ _ rfl
    have HQ6 : Hid (Box 0 #[.int .i64 y.kind, .int .i64 y.id, .slice a5 y.vec.length d5, .int .i64 y.session, .int .i64 z] 29 (w4.setCell ⟨w3.heap.size, 4, none⟩ (.int .i64 z)) w3.heap.size) := Box.set (unhide HQ) 4 (.int .i64 z)
    have HN6 := hide ((unhide HN).ext e6 (by omega))
    have HR6 := hide ((unhide HR).ext e6 (by omega))
    have HRW6 := hide ((unhide HRW).ext e6 (by omega))
    have HG6 := hide (grow_extI (unhide HG) e6 (unhide HI) (fun q _ h2 e => by omega))
    have HLV6 : Hid (Lay.tWrite.lies (w4.setCell ⟨w3.heap.size, 4, none⟩ (.int .i64 z)) [.int .i64 y.kind, .int .i64 y.id, .slice a5 y.vec.length d5, .int .i64 y.session, .int .i64 z] { y with seq := z } bl) := by
      obtain ⟨_, _, bl2, e1, rfl, -, -, hvl, -, -⟩ := lies_Write.1 (unhide HLV)
      simp only [List.cons.injEq, Value.slice.injEq, true_and, and_true] at e1
      obtain ⟨rfl, rfl⟩ := e1
      exact lies_Write.2 ⟨a5, d5, _, rfl, rfl, (unhide HWF).1, (unhide HWF).2.1, (Lay.sl Lay.int).keep hvl (fun c hc => e6.block c ((Lay.sl Lay.int).lt hvl c hc) (by have := (unhide HBL c hc).2; omega)), (unhide HWF).2.2, hzw⟩
    have HBW6 := hide ((unhide HBW).trans (e6.below (unhide HBW).size (fun k hk e => by have := unhide HBW; have := (unhide HBW).size; omega)))
    have hz6 : w3.heap.size < (w4.setCell ⟨w3.heap.size, 4, none⟩ (.int .i64 z)).heap.size := by simp; omega
    clear e6 HQ HN HR HRW HG HLV HBW hzw
    go_upto_region 6 with fail
    clear y4 yf yl
    generalize w4.setCell ⟨w3.heap.size, 4, none⟩ (.int .i64 z) = W6 at *
    have HQ := HQ6
    have HN := HN6
    have HR := HR6
    have HRW := HRW6
    have HG := HG6
    have HLV := HLV6
    have HBW := HBW6
    clear HQ6 HN6 HR6 HRW6 HG6 HLV6 HBW6
    have hRD := Box.drew (unhide HR)
    have hQD := Box.drew (unhide HRW)
    refine wp_region_noPanic ?_
    refine wp_region_held_drew (S := fun w' => Ext (fun q => q = w.heap.size ∨ q = w.heap.size + 1) W6 w') (by kernel_rfl) ⟨rfl, rfl, rfl, Nat.le_refl _, fun _ _ _ => rfl⟩ (fun hHeld => ?_)
    generalize W6.drew = wD at hHeld hRD hQD ⊢
    refine wpAnyH_take (i := 0) (oi := { dst := some 23, op := Go.Op.load 26 (Go.Operand.tmp 5), type := 26, pos := "l09_node.go:192", after := #[], guard := none }) (v := ?vb0_1) rfl (by kernel_rfl) (by kernel_rfl) (by kernel_rfl) (fun _ _ _ h => h) (Or.inl ⟨by rfl, ?hb0_1⟩) hHeld ?rb0_1
    case hb0_1 =>
      intro wS hSw
      have u0 := Box.at ((unhide HN).ext hSw (by omega)) 0 _ rfl
      have u1 := Box.at ((unhide HN).ext hSw (by omega)) 1 _ rfl
      have u2 := Box.at ((unhide HN).ext hSw (by omega)) 2 _ rfl
      have u3 := Box.at ((unhide HN).ext hSw (by omega)) 3 _ rfl
      have u4 := Box.at ((unhide HN).ext hSw (by omega)) 4 _ rfl
      have u5 := Box.at ((unhide HN).ext hSw (by omega)) 5 _ rfl
      have u6 := Box.at ((unhide HN).ext hSw (by omega)) 6 _ rfl
      simp only [List.getElem_toArray, List.getElem_cons_zero, List.getElem_cons_succ] at u0 u1 u2 u3 u4 u5 u6
      clear hSw
      (try dsimp only at hSw)
      go_simp
      try with_reducible rfl
    case rb0_1 =>
    simp only [Act.put, List.setIfInBounds_toArray, List.set_cons_zero, List.set_cons_succ]
    refine wpAnyH_take (i := 1) (oi := { dst := some 24, op := Go.Op.load 29 (Go.Operand.tmp 6), type := 29, pos := "l09_node.go:192", after := #[{ on := 2, ground := Go.Ground.gcOnly Go.Departure.lateStores }], guard := none }) (v := ?vb1_2) rfl (by kernel_rfl) (by kernel_rfl) (by kernel_rfl) (fun _ _ _ h => h) (Or.inl ⟨by rfl, ?hb1_2⟩) hHeld ?rb1_2
    case hb1_2 =>
      intro wS hSw
      have v0 := Box.at ((unhide HQ).ext hSw (by omega)) 0 _ rfl
      have v1 := Box.at ((unhide HQ).ext hSw (by omega)) 1 _ rfl
      have v2 := Box.at ((unhide HQ).ext hSw (by omega)) 2 _ rfl
      have v3 := Box.at ((unhide HQ).ext hSw (by omega)) 3 _ rfl
      have v4 := Box.at ((unhide HQ).ext hSw (by omega)) 4 _ rfl
      simp only [List.getElem_toArray, List.getElem_cons_zero, List.getElem_cons_succ] at v0 v1 v2 v3 v4
      clear hSw
      (try dsimp only at hSw)
      go_simp
      try with_reducible rfl
    case rb1_2 =>
    simp only [Act.put, List.setIfInBounds_toArray, List.set_cons_zero, List.set_cons_succ]
    refine wpAnyH_ready (rs := [2]) (by kernel_rfl) (by simp) ?_
    refine AllReadyH.cons (o := { dst := none, op := Go.Op.store 26 (Go.Operand.tmp 2) (Go.Operand.tmp 23), type := 0, pos := "l09_node.go:192", after := #[{ on := 0, ground := Go.Ground.data }, { on := 0, ground := Go.Ground.phase }, { on := 1, ground := Go.Ground.textOnly Go.Departure.lateStores }], guard := none }) rfl (fun K hK => ?_) AllReadyH.nil
    have z0 := Box.at hRD 0 _ rfl
    have z1 := Box.at hRD 1 _ rfl
    have z2 := Box.at hRD 2 _ rfl
    have z3 := Box.at hRD 3 _ rfl
    have z4 := Box.at hRD 4 _ rfl
    have z5 := Box.at hRD 5 _ rfl
    have z6 := Box.at hRD 6 _ rfl
    simp only [List.getElem_toArray, List.getElem_cons_zero, List.getElem_cons_succ] at z0 z1 z2 z3 z4 z5 z6
    have ff := Box.soft hRD
    have l0 := Box.lt hRD
    have hQ3 : Box 0 #[.int .i64 0, .int .i64 0, .slice none 0 0, .int .i64 0, .int .i64 0] 29 (((((((wD.setCell ⟨w.heap.size, 0, none⟩ (.int .i64 x.id)).setCell ⟨w.heap.size, 1, none⟩ (.bool x.up)).setCell ⟨w.heap.size, 2, none⟩ (.int .i64 x.epoch)).setCell ⟨w.heap.size, 3, none⟩ (.int .i64 x.lease)).setCell ⟨w.heap.size, 4, none⟩ (.slice a4 x.writes.length d4)).setCell ⟨w.heap.size, 5, none⟩ (.int .i64 x.sure)).setCell ⟨w.heap.size, 6, none⟩ (.int .i64 x.clean)) (w.heap.size + 1) := hQD.ext (ext_setAll (fun q => q = w.heap.size) (Ext.refl _ _) w.heap.size 0 [.int .i64 x.id, .bool x.up, .int .i64 x.epoch, .int .i64 x.lease, .slice a4 x.writes.length d4, .int .i64 x.sure, .int .i64 x.clean] rfl) (by omega)
    have hR3 : Box 0 #[.int .i64 x.id, .bool x.up, .int .i64 x.epoch, .int .i64 x.lease, .slice a4 x.writes.length d4, .int .i64 x.sure, .int .i64 x.clean] 26 (((((((wD.setCell ⟨w.heap.size, 0, none⟩ (.int .i64 x.id)).setCell ⟨w.heap.size, 1, none⟩ (.bool x.up)).setCell ⟨w.heap.size, 2, none⟩ (.int .i64 x.epoch)).setCell ⟨w.heap.size, 3, none⟩ (.int .i64 x.lease)).setCell ⟨w.heap.size, 4, none⟩ (.slice a4 x.writes.length d4)).setCell ⟨w.heap.size, 5, none⟩ (.int .i64 x.sure)).setCell ⟨w.heap.size, 6, none⟩ (.int .i64 x.clean)) w.heap.size := box_set7 hRD (.int .i64 x.id) (.bool x.up) (.int .i64 x.epoch) (.int .i64 x.lease) (.slice a4 x.writes.length d4) (.int .i64 x.sure) (.int .i64 x.clean)
    go_simp
    try go_wp2_with fail
    refine hK.out _ _ (ext_setAll (fun q => q = w.heap.size ∨ q = w.heap.size + 1) hHeld w.heap.size 0 [.int .i64 x.id, .bool x.up, .int .i64 x.epoch, .int .i64 x.lease, .slice a4 x.writes.length d4, .int .i64 x.sure, .int .i64 x.clean] (Or.inl rfl)) (fun hHeld => ?_)
    clear hK K
    try simp only [Act.put, List.setIfInBounds_toArray, List.set_cons_zero, List.set_cons_succ]
    refine wpAnyH_ready (rs := [3]) (by kernel_rfl) (by simp) ?_
    refine AllReadyH.cons (o := { dst := none, op := Go.Op.store 29 (Go.Operand.tmp 3) (Go.Operand.tmp 24), type := 0, pos := "l09_node.go:192", after := #[{ on := 1, ground := Go.Ground.data }, { on := 2, ground := Go.Ground.chain }, { on := 0, ground := Go.Ground.phase }, { on := 1, ground := Go.Ground.phase }, { on := 2, ground := Go.Ground.phase }], guard := none }) rfl (fun K hK => ?_) AllReadyH.nil
    replace hHeld : Ext (fun q => q = w.heap.size ∨ q = w.heap.size + 1) W6 (((((((wD.setCell ⟨w.heap.size, 0, none⟩ (.int .i64 x.id)).setCell ⟨w.heap.size, 1, none⟩ (.bool x.up)).setCell ⟨w.heap.size, 2, none⟩ (.int .i64 x.epoch)).setCell ⟨w.heap.size, 3, none⟩ (.int .i64 x.lease)).setCell ⟨w.heap.size, 4, none⟩ (.slice a4 x.writes.length d4)).setCell ⟨w.heap.size, 5, none⟩ (.int .i64 x.sure)).setCell ⟨w.heap.size, 6, none⟩ (.int .i64 x.clean)) := hHeld
    generalize (((((((wD.setCell ⟨w.heap.size, 0, none⟩ (.int .i64 x.id)).setCell ⟨w.heap.size, 1, none⟩ (.bool x.up)).setCell ⟨w.heap.size, 2, none⟩ (.int .i64 x.epoch)).setCell ⟨w.heap.size, 3, none⟩ (.int .i64 x.lease)).setCell ⟨w.heap.size, 4, none⟩ (.slice a4 x.writes.length d4)).setCell ⟨w.heap.size, 5, none⟩ (.int .i64 x.sure)).setCell ⟨w.heap.size, 6, none⟩ (.int .i64 x.clean)) = wE at *
    have t0 := Box.at hQ3 0 _ rfl
    have t1 := Box.at hQ3 1 _ rfl
    have t2 := Box.at hQ3 2 _ rfl
    have t3 := Box.at hQ3 3 _ rfl
    have t4 := Box.at hQ3 4 _ rfl
    simp only [List.getElem_toArray, List.getElem_cons_zero, List.getElem_cons_succ] at t0 t1 t2 t3 t4
    have ff2 := Box.soft hQ3
    have l2 := Box.lt hQ3
    go_simp
    try go_wp2_with fail
    refine hK.out _ _ (ext_setAll (fun q => q = w.heap.size ∨ q = w.heap.size + 1) hHeld (w.heap.size + 1) 0 [.int .i64 y.kind, .int .i64 y.id, .slice a5 y.vec.length d5, .int .i64 y.session, .int .i64 z] (Or.inr rfl)) (fun hHeld => ?_)
    clear hK K
    try simp only [Act.put, List.setIfInBounds_toArray, List.set_cons_zero, List.set_cons_succ]
    refine wpAnyH_done (by kernel_rfl) ?_ _
    refine NoPanic.normal ?_
    have hE : Ext (fun q => q = w.heap.size ∨ q = w.heap.size + 1) W6 (((((wE.setCell ⟨w.heap.size + 1, 0, none⟩ (.int .i64 y.kind)).setCell ⟨w.heap.size + 1, 1, none⟩ (.int .i64 y.id)).setCell ⟨w.heap.size + 1, 2, none⟩ (.slice a5 y.vec.length d5)).setCell ⟨w.heap.size + 1, 3, none⟩ (.int .i64 y.session)).setCell ⟨w.heap.size + 1, 4, none⟩ (.int .i64 z)) := hHeld
    have HRN : Hid (Lay.tNode.Reads (((((wE.setCell ⟨w.heap.size + 1, 0, none⟩ (.int .i64 y.kind)).setCell ⟨w.heap.size + 1, 1, none⟩ (.int .i64 y.id)).setCell ⟨w.heap.size + 1, 2, none⟩ (.slice a5 y.vec.length d5)).setCell ⟨w.heap.size + 1, 3, none⟩ (.int .i64 y.session)).setCell ⟨w.heap.size + 1, 4, none⟩ (.int .i64 z)) [.int .i64 x.id, .bool x.up, .int .i64 x.epoch, .int .i64 x.lease, .slice a4 x.writes.length d4, .int .i64 x.sure, .int .i64 x.clean] x) := node_reads hbd ((grow_extI (unhide HG) hE (unhide HI) (fun q h1 _ e => by omega)).toReads (by omega))
    have HRY : Hid (Lay.tWrite.Reads (((((wE.setCell ⟨w.heap.size + 1, 0, none⟩ (.int .i64 y.kind)).setCell ⟨w.heap.size + 1, 1, none⟩ (.int .i64 y.id)).setCell ⟨w.heap.size + 1, 2, none⟩ (.slice a5 y.vec.length d5)).setCell ⟨w.heap.size + 1, 3, none⟩ (.int .i64 y.session)).setCell ⟨w.heap.size + 1, 4, none⟩ (.int .i64 z)) [.int .i64 y.kind, .int .i64 y.id, .slice a5 y.vec.length d5, .int .i64 y.session, .int .i64 z] { y with seq := z }) := ⟨bl, Lay.tWrite.keep (unhide HLV) fun c hc => hE.block c (Lay.tWrite.lt (unhide HLV) c hc) (by have := unhide HBL c hc; omega)⟩
    have HBZ : Hid (Below w.heap.size w (((((wE.setCell ⟨w.heap.size + 1, 0, none⟩ (.int .i64 y.kind)).setCell ⟨w.heap.size + 1, 1, none⟩ (.int .i64 y.id)).setCell ⟨w.heap.size + 1, 2, none⟩ (.slice a5 y.vec.length d5)).setCell ⟨w.heap.size + 1, 3, none⟩ (.int .i64 y.session)).setCell ⟨w.heap.size + 1, 4, none⟩ (.int .i64 z))) := (unhide HBW).trans (hE.below (unhide HBW).size (fun k hk e => by omega))
    have bN9 : Box 0 #[.int .i64 x.id, .bool x.up, .int .i64 x.epoch, .int .i64 x.lease, .slice a4 x.writes.length d4, .int .i64 x.sure, .int .i64 x.clean] 26 (((((wE.setCell ⟨w.heap.size + 1, 0, none⟩ (.int .i64 y.kind)).setCell ⟨w.heap.size + 1, 1, none⟩ (.int .i64 y.id)).setCell ⟨w.heap.size + 1, 2, none⟩ (.slice a5 y.vec.length d5)).setCell ⟨w.heap.size + 1, 3, none⟩ (.int .i64 y.session)).setCell ⟨w.heap.size + 1, 4, none⟩ (.int .i64 z)) w.heap.size := hR3.ext (ext_setAll (fun q => q = w.heap.size + 1) (Ext.refl _ _) (w.heap.size + 1) 0 [.int .i64 y.kind, .int .i64 y.id, .slice a5 y.vec.length d5, .int .i64 y.session, .int .i64 z] rfl) (by omega)
    have bQ9 : Box 0 #[.int .i64 y.kind, .int .i64 y.id, .slice a5 y.vec.length d5, .int .i64 y.session, .int .i64 z] 29 (((((wE.setCell ⟨w.heap.size + 1, 0, none⟩ (.int .i64 y.kind)).setCell ⟨w.heap.size + 1, 1, none⟩ (.int .i64 y.id)).setCell ⟨w.heap.size + 1, 2, none⟩ (.slice a5 y.vec.length d5)).setCell ⟨w.heap.size + 1, 3, none⟩ (.int .i64 y.session)).setCell ⟨w.heap.size + 1, 4, none⟩ (.int .i64 z)) (w.heap.size + 1) := box_set5 hQ3 (.int .i64 y.kind) (.int .i64 y.id) (.slice a5 y.vec.length d5) (.int .i64 y.session) (.int .i64 z)
    clear hE hHeld hRD hQD hQ3 hR3 ff ff2 l0 l2 z0 z1 z2 z3 z4 z5 z6 t0 t1 t2 t3 t4
    generalize (((((wE.setCell ⟨w.heap.size + 1, 0, none⟩ (.int .i64 y.kind)).setCell ⟨w.heap.size + 1, 1, none⟩ (.int .i64 y.id)).setCell ⟨w.heap.size + 1, 2, none⟩ (.slice a5 y.vec.length d5)).setCell ⟨w.heap.size + 1, 3, none⟩ (.int .i64 y.session)).setCell ⟨w.heap.size + 1, 4, none⟩ (.int .i64 z)) = wF at *
    have p0 := Box.at bN9 0 _ rfl
    have p1 := Box.at bN9 1 _ rfl
    have p2 := Box.at bN9 2 _ rfl
    have p3 := Box.at bN9 3 _ rfl
    have p4 := Box.at bN9 4 _ rfl
    have p5 := Box.at bN9 5 _ rfl
    have p6 := Box.at bN9 6 _ rfl
    simp only [List.getElem_toArray, List.getElem_cons_zero, List.getElem_cons_succ] at p0 p1 p2 p3 p4 p5 p6
    have r0 := Box.at bQ9 0 _ rfl
    have r1 := Box.at bQ9 1 _ rfl
    have r2 := Box.at bQ9 2 _ rfl
    have r3 := Box.at bQ9 3 _ rfl
    have r4 := Box.at bQ9 4 _ rfl
    simp only [List.getElem_toArray, List.getElem_cons_zero, List.getElem_cons_succ] at r0 r1 r2 r3 r4
    clear bN9 bQ9
    go_wp2_with fail
    refine bodyPost_ret (v := .tuple #[.agg #[.int .i64 x.id, .bool x.up, .int .i64 x.epoch, .int .i64 x.lease, .slice a4 x.writes.length d4, .int .i64 x.sure, .int .i64 x.clean], .agg #[.int .i64 y.kind, .int .i64 y.id, .slice a5 y.vec.length d5, .int .i64 y.session, .int .i64 z]]) (by simp [results, Tryz.results5, go_sem, p0, p1, p2, p3, p4, p5, p6, r0, r1, r2, r3, r4]) rfl ?_
    exact ⟨_, x, _, _, rfl, unhide HRN, unhide HRY, hlen, unhide HBZ⟩
end Go.Proofs.YtbogjepkdcknfaaGreatDoor

namespace Go.Proofs.YtbogjepkdcknfaaGreatDoor
open Go.RowKit

def sameW (x y : DWrite) : Bool := x.kind == y.kind && (x.id == y.id && (x.session == y.session && (x.seq == y.seq && decide (x.vec = y.vec))))
def sameWs : List DWrite → List DWrite → Bool
  | [], [] => true
  | x :: xs, y :: ys => sameW x y && sameWs xs ys
  | _, _ => false
theorem sameWs_len {xs ys : List DWrite} (h : xs.length ≠ ys.length) : sameWs xs ys = false := by
  induction xs generalizing ys with
  | nil => match ys, h with | y :: ys, _ => rfl
  | cons x xs ih =>
    match ys, h with
    | [], _ => rfl
    | y :: ys, h => rw [sameWs, ih (by simpa using h), Bool.and_false]
theorem sameWs_at {xs ys : List DWrite} (k : Nat) (h1 : k < xs.length) (h2 : k < ys.length) (h : sameW xs[k] ys[k] = false) : sameWs xs ys = false := by
  induction xs generalizing ys k with
  | nil => simp at h1
  | cons x xs ih =>
    match ys, k with
    | y :: ys, 0 => rw [sameWs, show sameW x y = false by simpa using h, Bool.false_and]
    | y :: ys, k + 1 => rw [sameWs, ih k (by simpa using h1) (by simpa using h2) (by simpa using h), Bool.and_false]
theorem sameWs_all {xs ys : List DWrite} (hl : xs.length = ys.length) (h : ∀ k (h1 : k < xs.length) (h2 : k < ys.length), sameW xs[k] ys[k] = true) : sameWs xs ys = true := by
  induction xs generalizing ys with
  | nil => match ys, hl with | [], _ => rfl
  | cons x xs ih =>
    match ys, hl with
    | y :: ys, hl =>
      rw [sameWs, show sameW x y = true from h 0 (by simp) (by simp), ih (by simpa using hl) fun k h1 h2 => h (k + 1) (by simpa using h1) (by simpa using h2), Bool.true_and]
theorem sameWs_refl_self (x : DWrite) : sameW x x = true := by simp [sameW]

end Go.Proofs.YtbogjepkdcknfaaGreatDoor

namespace Go.Proofs.YtbogjepkdcknfaaGreatDoor
open Go.RowKit

theorem lastI_mem (ws : List DWrite) (s : Int) : lastI ws s = 0 ∨ ∃ x ∈ ws, x.session = s ∧ x.seq = lastI ws s := by
  have : ∀ (n : Nat) (ws : List DWrite), ws.length = n → lastI ws s = 0 ∨ ∃ x ∈ ws, x.session = s ∧ x.seq = lastI ws s := by
    intro n
    induction n with
    | zero => intro ws h; rw [List.eq_nil_of_length_eq_zero h]; exact Or.inl rfl
    | succ n ih =>
      intro ws h
      obtain ⟨l, a, rfl⟩ : ∃ l a, ws = l ++ [a] := by
        have hne : ws ≠ [] := by intro e; rw [e] at h; simp at h
        exact ⟨ws.dropLast, ws.getLast hne, (List.dropLast_concat_getLast hne).symm⟩
      rw [lastI_snoc]
      have hl : l.length = n := by simpa using h
      by_cases e : a.session = s
      · rw [if_pos e]
        by_cases c : lastI l s ≤ a.seq
        · exact Or.inr ⟨a, by simp, e, by omega⟩
        · rw [show max (lastI l s) a.seq = lastI l s by omega]
          rcases ih l hl with h0 | ⟨x, hx, h1, h2⟩
          · exact Or.inl h0
          · exact Or.inr ⟨x, List.mem_append_left _ hx, h1, h2⟩
      · rw [if_neg e]
        rcases ih l hl with h0 | ⟨x, hx, h1, h2⟩
        · exact Or.inl h0
        · exact Or.inr ⟨x, List.mem_append_left _ hx, h1, h2⟩
  exact this ws.length ws rfl
theorem lastI_ge (ws : List DWrite) (s : Int) : ∀ x ∈ ws, x.session = s → x.seq ≤ lastI ws s := by
  have : ∀ (n : Nat) (ws : List DWrite), ws.length = n → ∀ x ∈ ws, x.session = s → x.seq ≤ lastI ws s := by
    intro n
    induction n with
    | zero => intro ws h; rw [List.eq_nil_of_length_eq_zero h]; intro x hx; simp at hx
    | succ n ih =>
      intro ws h
      obtain ⟨l, a, rfl⟩ : ∃ l a, ws = l ++ [a] := by
        have hne : ws ≠ [] := by intro e; rw [e] at h; simp at h
        exact ⟨ws.dropLast, ws.getLast hne, (List.dropLast_concat_getLast hne).symm⟩
      intro x hx hs
      rw [lastI_snoc]
      have hl : l.length = n := by simpa using h
      rcases List.mem_append.1 hx with hx | hx
      · have := ih l hl x hx hs
        split <;> omega
      · rw [List.mem_singleton.1 hx] at hs ⊢
        rw [if_pos hs]
        omega
  exact this ws.length ws rfl
theorem seen_mem {ws : List DWrite} {s q : Int} (h : seenI ws s q ≠ 0) : ∃ x ∈ ws, x.session = s ∧ x.seq = q := by
  by_cases hx : ∃ x ∈ ws, x.session = s ∧ x.seq = q
  · exact hx
  · exact absurd (seenI_none fun j hj he => hx ⟨_, List.getElem_mem hj, he⟩) h
theorem onceB_snoc : ∀ (ws pre : List DWrite) (x : DWrite), onceB pre (ws ++ [x]) = (onceB pre ws && decide (lastI (pre ++ ws) x.session < x.seq))
  | [], pre, x => by simp [onceB]
  | y :: ws, pre, x => by
    rw [List.cons_append, onceB, onceB, onceB_snoc ws (pre ++ [y]) x]
    simp [Bool.and_assoc]
theorem same_self (ws : List DWrite) : sameWs ws ws = true := by
  induction ws with
  | nil => rfl
  | cons x xs ih => simp [sameWs, sameW, ih]
theorem wsFrom_snoc (ws : List DWrite) (x : DWrite) (h : wsFrom ws = 0) (hx : wF x = 0) : wsFrom (ws ++ [x]) = 0 := by
  induction ws with
  | nil => simp [wsFrom, hx]
  | cons y ys ih =>
    have hy : wF y = 0 := wsFrom_zero h y (by simp)
    rw [wsFrom, if_pos hy] at h
    rw [List.cons_append, wsFrom, if_pos hy]
    exact ih h

structure Once (ws : List DWrite) (x : DWrite) (y : DOnceResult) : Prop where
  again : appR y.writes x = ⟨0, false, y.place, y.writes⟩
  seen : seenR y.writes x.session x.seq = ⟨0, y.place⟩
  last : ∃ n, lastR y.writes x.session = ⟨0, n⟩ ∧ x.seq ≤ n
  new1 : y.isNew = true → y.writes.length = ws.length + 1 ∧ y.place = y.writes.length
  new0 : y.isNew = false → y.writes.length = ws.length
  right : onceR y.writes = onceR ws
  of : ∃ l, ofR y.writes x.session = ⟨0, l⟩ ∧ 0 < l.length
  few : y.writes.length ≤ 200
theorem once_of {ys : List DWrite} {x : DWrite} (h : writesF ys = 0) (hf : wF x = 0) (hs : seenI ys x.session x.seq ≠ 0) :
    appR ys x = ⟨0, false, seenI ys x.session x.seq, ys⟩ ∧ seenR ys x.session x.seq = ⟨0, seenI ys x.session x.seq⟩ ∧ (∃ n, lastR ys x.session = ⟨0, n⟩ ∧ x.seq ≤ n) ∧ (∃ l, ofR ys x.session = ⟨0, l⟩ ∧ 0 < l.length) := by
  obtain ⟨b1, b9, q1, q9⟩ := wF_seq hf
  have ha : askedF ys x.session = 0 := asked_ok h ⟨b1, b9⟩
  obtain ⟨z, hz, e1, e2⟩ := seen_mem hs
  refine ⟨appR_seen h hf hs, ?_, ⟨lastI ys x.session, ?_, ?_⟩, ⟨ofL ys x.session, ?_, ?_⟩⟩
  · rw [seenR, if_pos ha, if_pos ⟨q1, q9⟩, if_neg hs]
  · rw [lastR, if_pos ha]
  · have := lastI_ge ys x.session z hz e1
    omega
  · rw [ofR, if_pos ha]
  · have hm : z ∈ ofL ys x.session := by simp [ofL, hz, e1]
    exact List.length_pos_of_mem hm
theorem once_ok {ws : List DWrite} {x : DWrite} (hc : (appR ws x).code = 0) : Once ws x (appR ws x) := by
  by_cases h : writesF ws = 0
  · by_cases hf : wF x = 0
    · by_cases hs : seenI ws x.session x.seq = 0
      · by_cases c : x.seq < lastI ws x.session
        · rw [appR_old h hf hs c] at hc; cases hc
        · by_cases c2 : 200 ≤ ws.length
          · rw [appR_full h hf hs c c2] at hc; cases hc
          · rw [appR_new h hf hs c c2]
            obtain ⟨b1, b9, q1, q9⟩ := wF_seq hf
            have h2 : writesF (ws ++ [x]) = 0 := by
              rw [writesF, if_neg (by simp; omega)]
              refine wsFrom_snoc ws x ?_ hf
              rw [writesF, if_neg (by omega)] at h
              exact h
            have e : seenI (ws ++ [x]) x.session x.seq = ws.length + 1 := by rw [seenI_snoc, if_pos hs, if_pos ⟨rfl, rfl⟩]
            obtain ⟨o1, o2, o3, o4⟩ := once_of h2 hf (by rw [e]; omega)
            rw [e] at o1 o2
            have hlt : lastI ws x.session < x.seq := by
              rcases lastI_mem ws x.session with h0 | ⟨z, hz, e1, e2⟩
              · omega
              · have : x.seq ≠ lastI ws x.session := fun e3 => seenI_zero hs z hz ⟨e1, by omega⟩
                omega
            refine ⟨by rw [o1]; simp, by rw [o2]; simp, o3, (fun _ => by simp), (fun e => by cases e), ?_, o4, by simp; omega⟩
            show onceR (ws ++ [x]) = onceR ws
            rw [onceR, onceR, onceB_snoc]
            simp [h, h2, hlt]
      · rw [appR_seen h hf hs]
        obtain ⟨o1, o2, o3, o4⟩ := once_of h hf hs
        exact ⟨o1, o2, o3, (fun e => by cases e), fun _ => rfl, rfl, o4, (writesF_zero h).1⟩
    · rw [appR_bad h hf] at hc
      exact absurd hc hf
  · rw [appR_wrong h] at hc
    exact absurd hc h

end Go.Proofs.YtbogjepkdcknfaaGreatDoor

namespace Go.Proofs.YtbogjepkdcknfaaGreatDoor
open Go.RowKit

structure Nodes (x : DNode) (y : DWrite) (ws : List DWrite) (at_ : Int) (t s c d : DNode) : Prop where
  take : takeR x y = ⟨0, at_, t⟩
  tw : t.writes = ws
  len : ws.length ≤ 40
  ok : nodeFault t = 0
  sync : syncR t = ⟨0, ws.length, s⟩
  crash : crashR s 0 = ⟨0, 0, c⟩
  cw : c.writes = ws
  cok : nodeFault c = 0
  dcrash : crashR t 0 = ⟨0, 0, d⟩
  dw : ∃ k : Nat, x.sure = (k : Int) ∧ k ≤ x.writes.length ∧ d.writes = x.writes.take k
  seen : seenR ws y.session y.seq = ⟨0, at_⟩
  down : takeR c y = badNode 10
theorem same_self9 (ws : List DWrite) : sameWs ws ws = true := same_self ws
theorem app_parts {ws : List DWrite} {y : DWrite} (h : (appR ws y).code = 0) (hw : ∀ x ∈ ws, wF x = 0) (ho : onceB [] ws = true) : (∃ l, (appR ws y).writes = ws ++ l) ∧ (∀ x ∈ (appR ws y).writes, wF x = 0) ∧ onceB [] (appR ws y).writes = true := by
  by_cases h0 : writesF ws = 0
  · by_cases hf : wF y = 0
    · by_cases hs : seenI ws y.session y.seq = 0
      · by_cases c : y.seq < lastI ws y.session
        · rw [appR_old h0 hf hs c] at h; cases h
        · by_cases c2 : 200 ≤ ws.length
          · rw [appR_full h0 hf hs c c2] at h; cases h
          · rw [appR_new h0 hf hs c c2]
            refine ⟨⟨[y], rfl⟩, fun x hx => ?_, ?_⟩
            · rcases List.mem_append.1 hx with hx | hx
              · exact hw x hx
              · rw [List.mem_singleton.1 hx]; exact hf
            · obtain ⟨b1, b9, q1, q9⟩ := wF_seq hf
              have hlt : lastI ws y.session < y.seq := by
                rcases lastI_mem ws y.session with h0 | ⟨z, hz, e1, e2⟩
                · omega
                · have : y.seq ≠ lastI ws y.session := fun e3 => seenI_zero hs z hz ⟨e1, by omega⟩
                  omega
              show onceB [] (ws ++ [y]) = true
              rw [onceB_snoc]
              simp [ho, hlt]
      · rw [appR_seen h0 hf hs]
        exact ⟨⟨[], by simp⟩, hw, ho⟩
    · rw [appR_bad h0 hf] at h
      exact absurd h hf
  · rw [appR_wrong h0] at h
    exact absurd h h0
theorem nodes_plain {x : DNode} {y : DWrite} (h : (takeR x y).code = 0) : ∃ ws at_ t s c d, Nodes x y ws at_ t s c d := by
  by_cases ha : askedN x = 0
  · by_cases hc : (appR x.writes y).code = 0
    · by_cases hl : 40 < (appR x.writes y).writes.length
      · rw [takeR, if_pos ha, if_pos hc, if_pos hl] at h; cases h
      · obtain ⟨ok, hu⟩ := askedN_zero ha
        have k1 := ok.sure
        have k2 := ok.clean
        obtain ⟨⟨l, e1⟩, e2, e3⟩ := app_parts hc ok.ws ok.once
        have O := once_ok hc
        have seen := O.seen
        have et : takeR x y = ⟨0, (appR x.writes y).place, withWrites x (appR x.writes y).writes⟩ := by rw [takeR, if_pos ha, if_pos hc, if_neg hl]
        generalize (appR x.writes y).writes = ws at *
        generalize (appR x.writes y).place = at_ at *
        have hlen : x.writes.length ≤ ws.length := by rw [e1]; simp
        have tok : NodeOK (withWrites x ws) := ⟨ok.id, ok.epoch, ok.lease, by show ws.length ≤ 40; omega, e2, e3, ⟨k1.1, by show x.sure ≤ ws.length; omega⟩, k2, fun e => absurd (show x.up = false from e) (by simp [hu])⟩
        have ta : askedN (withWrites x ws) = 0 := by rw [askedN, if_pos tok.fault, if_pos (show (withWrites x ws).up = true from hu)]
        have sok : NodeOK ⟨x.id, x.up, x.epoch, x.lease, ws, (ws.length : Int), x.clean⟩ := ⟨ok.id, ok.epoch, ok.lease, by show ws.length ≤ 40; omega, e2, e3, ⟨by show 0 ≤ (ws.length : Int); omega, Int.le_refl _⟩, ⟨k2.1, by show x.clean ≤ (ws.length : Int); omega⟩, fun e => absurd (show x.up = false from e) (by simp [hu])⟩
        have sa : askedN ⟨x.id, x.up, x.epoch, x.lease, ws, (ws.length : Int), x.clean⟩ = 0 := by rw [askedN, if_pos sok.fault, if_pos (show x.up = true from hu)]
        have cok : NodeOK ⟨x.id, false, x.epoch, 0, ws, (ws.length : Int), 0⟩ := ⟨ok.id, ok.epoch, ⟨by show (0 : Int) ≤ 0; decide, by show (0 : Int) ≤ 9999; decide⟩, by show ws.length ≤ 40; omega, e2, e3, ⟨by show 0 ≤ (ws.length : Int); omega, Int.le_refl _⟩, ⟨by show (0 : Int) ≤ 0; decide, by show (0 : Int) ≤ (ws.length : Int); omega⟩, fun _ => ⟨rfl, rfl, rfl⟩⟩
        have ca : askedN ⟨x.id, false, x.epoch, 0, ws, (ws.length : Int), 0⟩ = 10 := by rw [askedN, if_pos cok.fault, if_neg (by simp)]
        refine ⟨ws, at_, withWrites x ws, ⟨x.id, x.up, x.epoch, x.lease, ws, (ws.length : Int), x.clean⟩, ⟨x.id, false, x.epoch, 0, ws, (ws.length : Int), 0⟩, crashN (withWrites x ws) 0, et, rfl, by omega, tok.fault, ?_, ?_, rfl, cok.fault, ?_, ⟨x.sure.toNat, by omega, by omega, ?_⟩, seen, ?_⟩
        · rw [syncR, if_pos ta]; rfl
        · rw [crashR, if_pos sa, if_pos ⟨by decide, by simp⟩]
          simp [crashN]
        · rw [crashR, if_pos ta, if_pos ⟨by decide, by show (0 : Int) ≤ (ws.length : Int) - x.sure; omega⟩]
        · simp only [crashN, withWrites, e1]
          rw [List.take_append_of_le_length (by omega)]
          congr 1
          omega
        · rw [takeR_bad (by rw [ca]; decide), ca]
    · rw [takeR, if_pos ha, if_neg hc] at h
      exact absurd h hc
  · rw [takeR, if_neg ha] at h
    exact absurd h ha
end Go.Proofs.YtbogjepkdcknfaaGreatDoor

namespace Go.Proofs.YtbogjepkdcknfaaGreatDoor
open Go.RowKit

theorem big_no (ao : Option Addr) (len cap : Nat) (w : World) (hn : len ≤ 1048576) :
    Calls Tryz.prog 4 #[.slice ao len cap] w fun e w' => e = .returned (.bool false) ∧ w' = w := by
  have hd : decide (1048576 < (len : Int)) = false := by simp; omega
  go_enter Tryz.func4, Tryz.ntmps4
  go_wp2
  go_ret
  exact ⟨rfl, rfl⟩

theorem big_yes (ao : Option Addr) (len cap : Nat) (w : World) (hn : 1048576 < len) :
    Calls Tryz.prog 4 #[.slice ao len cap] w fun e w' => e = .returned (.bool true) ∧ w' = w := by
  have hd : decide (1048576 < (len : Int)) = true := by simp; omega
  go_enter Tryz.func4, Tryz.ntmps4
  go_wp2
  go_ret
  exact ⟨rfl, rfl⟩

/-- A function that computes: what it answers wherever w1 stands. -/
def Tells (P : Program) (f : Nat) (args : Array Value) (w1 : World) (v : Value) : Prop :=
  ∀ W, Below w1.heap.size w1 W → Calls P f args W fun e w' => e = .returned v ∧ Below W.heap.size W w'

theorem below_step {w1 W W' : World} (h : Below w1.heap.size w1 W) (k : Below W.heap.size W W') : Below w1.heap.size w1 W' := h.trans (k.mono h.size)

end Go.Proofs.YtbogjepkdcknfaaGreatDoor

namespace Go.Proofs.YtbogjepkdcknfaaGreatDoor
open Go.RowKit Go.Maps

def tick (s q : Int) : Value := .agg #[.int .i64 s, .int .i64 q]
theorem tickLaid : laidOutB Tryz.prog = true := by kernel_rfl
theorem tickRow : (82 : TypeId) < Tryz.prog.types.size := of_decide_eq_true (by kernel_rfl)
theorem tickWide : (match Tryz.prog.underlying 82 with | some (.array _ _) | some (.struct _) => true | _ => false) = true := by kernel_rfl
set_option maxRecDepth 100000 in
theorem tickKeyed : Keyed Tryz.prog 82 := Keyed.of_law (deep_law_laid tickLaid (m := 2) (by omega) tickRow (by kernel_rfl) tickWide)
set_option maxRecDepth 100000 in
theorem tickKey {s q : Int} (hs : (Lit.int .i64 s).wf = true) (hq : (Lit.int .i64 q).wf = true) : keyOf Tryz.prog 82 (tick s q) = some (.string (keyBytes [.int .i64 s, .int .i64 q])) := by
  have hk : Tryz.prog.keyType 82 = true := by kernel_rfl
  have hc : Tryz.prog.cellsOf 82 = 2 := by kernel_rfl
  have hc1 : Tryz.prog.cellsOf 2 = 1 := by kernel_rfl
  have hf : (tick s q).formed Tryz.prog 82 = true := by simp [tick, Value.formed, Tryz.underlying82, hc]
  obtain ⟨m, hm⟩ : ∃ m, Tryz.prog.types.size = m + 1 := ⟨_, (Nat.succ_pred_eq_of_pos (Nat.lt_of_le_of_lt (Nat.zero_le _) tickRow)).symm⟩
  unfold keyOf
  simp only [Tryz.underlying82]
  rw [if_pos (by rw [hk, hf]; rfl), hm]
  unfold Program.keyLits
  simp only [Tryz.underlying82, tick, Value.cells]
  simp [hc, hc1, Program.keyLits, Tryz.underlying2, hs, hq]
theorem tickZero (w : World) : (zeroValue 2).run Tryz.prog w = .ok (.int .i64 0) w := by kernel_rfl

/-- Block b is a map of at most n entries that tells f. -/
def Ticks (w : World) (b n : Nat) (f : Int → Int → Nat) : Prop := ∃ D : DataW Unit, w.ownsMap Tryz.prog 82 (plainElem Tryz.prog 2) b n D ∧
  ∀ s q, (Lit.int .i64 s).wf = true → (Lit.int .i64 q).wf = true → Maps.has D (.string (keyBytes [.int .i64 s, .int .i64 q])) = decide (f s q ≠ 0) ∧ D.atKey (.string (keyBytes [.int .i64 s, .int .i64 q])) (.lit (.int .i64 0)) = .lit (.int .i64 (f s q))
theorem Ticks.ext {S : Nat → Prop} {w w' : World} {b n : Nat} {f : Int → Int → Nat} (h : Ticks w b n f) (e : Ext S w w') (hb : ¬ S b) : Ticks w' b n f := by
  obtain ⟨D, h, r⟩ := h
  have hlt := World.ownsMap.lt h
  obtain ⟨es, clock, hb', r'⟩ := h
  exact ⟨D, ⟨es, clock, (e.block b hlt hb).trans hb', r'⟩, r⟩
theorem Ticks.lt {w : World} {b n : Nat} {f : Int → Int → Nat} (h : Ticks w b n f) : b < w.heap.size := by
  obtain ⟨D, h, -⟩ := h
  exact World.ownsMap.lt h
theorem Ticks.mono {w : World} {b n n' : Nat} {f : Int → Int → Nat} (h : Ticks w b n f) (hn : n ≤ n') : Ticks w b n' f := by
  obtain ⟨D, h, r⟩ := h
  exact ⟨D, World.ownsMap.mono h hn, r⟩
theorem Ticks.congr {w : World} {b n : Nat} {f g : Int → Int → Nat} (h : Ticks w b n f) (e : ∀ s q, f s q = g s q) : Ticks w b n g := by
  obtain ⟨D, h, r⟩ := h
  exact ⟨D, h, fun s q hs hq => by rw [← e]; exact r s q hs hq⟩
theorem Ticks.look {w : World} {b n : Nat} {f : Int → Int → Nat} (h : Ticks w b n f) {s q : Int} (hs : (Lit.int .i64 s).wf = true) (hq : (Lit.int .i64 q).wf = true) :
    (Instr.lookup 77 (.map (some b)) (tick s q) true).run Tryz.prog w = .ok (.tuple #[.int .i64 (f s q), .bool (decide (f s q ≠ 0))]) w := by
  obtain ⟨D, h, r⟩ := h
  obtain ⟨r1, r2⟩ := r s q hs hq
  obtain ⟨v, ps, hrun, hv⟩ := World.ownsMap.look_ok h tickKeyed Tryz.underlying77 (tickZero w) (plainElem_int Tryz.underlying2 (by decide)) (tickKey hs hq)
  rw [r2] at hv
  obtain ⟨c, rfl, hc, -⟩ := plainElem_int_inv Tryz.underlying2 hv
  rw [r1] at hrun
  simp only [Prod.mk.injEq, DataW.lit.injEq, Lit.int.injEq, true_and] at hc
  rw [hc.1]
  exact hrun
theorem Ticks.put {w : World} {b n : Nat} {f : Int → Int → Nat} (h : Ticks w b n f) (hn : n < 100000) {s q : Int} (hs : (Lit.int .i64 s).wf = true) (hq : (Lit.int .i64 q).wf = true) {m : Nat} (hm : m ≠ 0) (hw : (Lit.int .i64 (m : Int)).wf = true) :
    ∃ w', (Instr.mapUpdate 77 (.map (some b)) (tick s q) (.int .i64 m)).run Tryz.prog w = .ok () w' ∧ Ticks w' b (n + 1) (fun s' q' => if s' = s ∧ q' = q then m else f s' q') ∧ Ext (fun c => c = b) w w' := by
  obtain ⟨D, h, r⟩ := h
  obtain ⟨w', h1, h2, h3⟩ := World.ownsMap.store h tickKeyed Tryz.underlying77 (by unfold maxLen; omega) (tickKey hs hq) (plainElem_int Tryz.underlying2 hw)
  refine ⟨w', h1, ⟨_, h2, fun s' q' hs' hq' => ?_⟩, ?_⟩
  · have hk : WideAt.IsKeyLit (.string (keyBytes [.int .i64 s, .int .i64 q])) := trivial
    by_cases e : s' = s ∧ q' = q
    · obtain ⟨rfl, rfl⟩ := e
      rw [Maps.has_put_same (World.ownsMap.isMap h) hk, Maps.atKey_put_same (World.ownsMap.isMap h) hk]
      simp [hm]
    · have hne : Lit.string (keyBytes [.int .i64 s', .int .i64 q']) ≠ Lit.string (keyBytes [.int .i64 s, .int .i64 q]) := by
        intro e2
        have k1 := tickKey hs' hq'
        rw [e2] at k1
        have k2 := tickKeyed.inj k1 (tickKey hs hq)
        simp only [tick, Value.agg.injEq, Array.mk.injEq, List.cons.injEq, Value.int.injEq, true_and, and_true] at k2
        exact e k2
      rw [Maps.has_put_other hne, Maps.atKey_put_other hne]
      simp only [if_neg e]
      exact r s' q' hs' hq'
  · have g := h3.grown
    obtain ⟨es, clock, es', clock', hb, rfl⟩ := h3
    exact ⟨rfl, rfl, rfl, by simp [ChangeMaps.setBlock], fun k hk hn => g.block k hk (fun e => hn (by simpa using e))⟩
theorem ticks_new (w : World) : Ticks (w.alloc (.map #[] 0)) w.heap.size 0 (fun _ _ => 0) := ⟨.map [], World.ownsMap_made w _ _ _, fun _ _ _ _ => ⟨rfl, rfl⟩⟩

end Go.Proofs.YtbogjepkdcknfaaGreatDoor

namespace Go.Proofs.YtbogjepkdcknfaaGreatDoor
open Go.RowKit

def tcells (v : Value) (mb : Nat) (f : Int → Int) : Array Value := #[v, .map (some mb), .int .i64 (f 0), .int .i64 (f 1), .int .i64 (f 2), .int .i64 (f 3), .int .i64 (f 4), .int .i64 (f 5), .int .i64 (f 6), .int .i64 (f 7), .int .i64 (f 8), .int .i64 (f 9)]
theorem tcells_at (v : Value) (mb : Nat) (f : Int → Int) (i : Nat) (h : i < 10) : (tcells v mb f)[2 + i]? = some (.int .i64 (f i)) := by
  match i, h with
  | 0, _ => rfl
  | 1, _ => rfl
  | 2, _ => rfl
  | 3, _ => rfl
  | 4, _ => rfl
  | 5, _ => rfl
  | 6, _ => rfl
  | 7, _ => rfl
  | 8, _ => rfl
  | 9, _ => rfl
theorem tcells_set (v : Value) (mb : Nat) (f : Int → Int) (i : Nat) (h : i < 10) (z : Int) : (tcells v mb f).setIfInBounds (2 + i) (.int .i64 z) = tcells v mb (fun j => if j = i then z else f j) := by
  match i, h with
  | 0, _ => rfl
  | 1, _ => rfl
  | 2, _ => rfl
  | 3, _ => rfl
  | 4, _ => rfl
  | 5, _ => rfl
  | 6, _ => rfl
  | 7, _ => rfl
  | 8, _ => rfl
  | 9, _ => rfl
theorem tcells_congr {v : Value} {mb : Nat} {f g : Int → Int} (h : ∀ j, f j = g j) : tcells v mb f = tcells v mb g := by rw [funext h]

theorem frozen_of_block {w w' : World} {b : Nat} (h : w'.heap[b]? = w.heap[b]?) (o : Nat) : w'.frozen? ⟨b, o, none⟩ = w.frozen? ⟨b, o, none⟩ := by
  unfold World.frozen?
  simp only [h]
/-- Block p is a story of the writes ws, with the last numbers f and the places g; its map is block mb; all that it holds lies below N. -/
structure Told0 (w : World) (p mb N n : Nat) (ws : List DWrite) (f : Int → Int) (g : Int → Int → Nat) (v : Value) (rows : List (List Value)) (bls : List (List Nat)) : Prop where
  lt : mb < p
  box : Box 0 (tcells v mb f) 80 w p
  grow : Grow Lay.tWrite w (p + 1) 29 v rows ws bls
  sub : ∀ b ∈ bls.flatten, p + 1 ≤ b ∧ ∀ o, w.frozen? ⟨b, o, none⟩ = false
  nd : bls.flatten.Nodup
  seen : Ticks w mb n g
  hiB : ∀ b ∈ bls.flatten, b < N
  hiV : ∀ b, v.ownBlock = some b → b < N
  pN : p < N
namespace Told0
variable {w w' : World} {p mb N n : Nat} {ws : List DWrite} {f : Int → Int} {g : Int → Int → Nat} {v : Value} {rows : List (List Value)} {bls : List (List Nat)}
theorem kept (h : Told0 w p mb N n ws f g v rows bls) {S : Nat → Prop} (e : Ext S w w') (hS : ∀ c, mb ≤ c → c < w.heap.size → ¬ S c) : Told0 w' p mb N n ws f g v rows bls := by
  have hs : ∀ b ∈ bls.flatten, w'.heap[b]? = w.heap[b]? := fun b hb => e.block b (h.grow.sub_lt b hb) (hS b (by have := (h.sub b hb).1; have := h.lt; omega) (h.grow.sub_lt b hb))
  refine ⟨h.lt, h.box.ext e (hS p (Nat.le_of_lt h.lt) h.box.lt), h.grow.kept ?_ hs, fun b hm => ⟨(h.sub b hm).1, fun o => (frozen_of_block (hs b hm) o).trans ((h.sub b hm).2 o)⟩, h.nd, h.seen.ext e (hS mb (Nat.le_refl _) h.seen.lt), h.hiB, h.hiV, h.pN⟩
  obtain ⟨h1, h2⟩ := h.grow.own
  refine ⟨h1, ?_⟩
  rcases h2 with h2 | ⟨gb, cap, cur, hv, hg, hh, r⟩
  · exact Or.inl h2
  · exact Or.inr ⟨gb, cap, cur, hv, hg, (e.block gb (lt_of_block hh) (hS gb (by have := h.lt; omega) (lt_of_block hh))).trans hh, r⟩
theorem later (h : Told0 w p mb N n ws f g v rows bls) (hb : Below w.heap.size w w') : Told0 w' p mb N n ws f g v rows bls := h.kept (ext_of_below hb (fun _ => False)) (fun _ _ _ e => e)
theorem raise (h : Told0 w p mb N n ws f g v rows bls) {N' : Nat} (hN : N ≤ N') : Told0 w p mb N' n ws f g v rows bls :=
  ⟨h.lt, h.box, h.grow, h.sub, h.nd, h.seen, fun b hb => Nat.lt_of_lt_of_le (h.hiB b hb) hN, fun b hb => Nat.lt_of_lt_of_le (h.hiV b hb) hN, Nat.lt_of_lt_of_le h.pN hN⟩
theorem top (h : Told0 w p mb N n ws f g v rows bls) : Told0 w p mb w.heap.size n ws f g v rows bls :=
  ⟨h.lt, h.box, h.grow, h.sub, h.nd, h.seen, fun b hb => h.grow.sub_lt b hb, fun b hb => (h.grow.own.lt b hb).2, h.box.lt⟩
theorem own (h : Told0 w p mb N n ws f g v rows bls) (hn : ws.length ≤ 9223372036854775807) : (Lay.sl Lay.tWrite).OwnIn w [v] ws (p + 1) w.heap.size := h.grow.toOwn hn h.nd h.sub
/-- The slice has grown, and stands in its cell. -/
theorem added (h : Told0 w p mb N n ws f g v rows bls) {v' : Value} {rows' : List (List Value)} {ws' : List DWrite} {bls' : List (List Nat)} (hG : Grow Lay.tWrite w' (p + 1) 29 v' rows' ws' bls') (hE : Ext (fun q => v.ownBlock = some q) w w') (hs : ∀ b ∈ bls'.flatten, p + 1 ≤ b ∧ ∀ o, w'.frozen? ⟨b, o, none⟩ = false) (hnd : bls'.flatten.Nodup) :
    Told0 (w'.setCell ⟨p, 0, none⟩ v') p mb (w'.setCell ⟨p, 0, none⟩ v').heap.size n ws' f g v' rows' bls' := by
  have hb : Box 0 (tcells v mb f) 80 w' p := h.box.ext hE (fun e => by have := (h.grow.own.lt p e).1; omega)
  have hb2 : Box 0 (tcells v' mb f) 80 (w'.setCell ⟨p, 0, none⟩ v') p := hb.set 0 v'
  have e2 : Ext (fun c => c = p) w' (w'.setCell ⟨p, 0, none⟩ v') := (Ext.refl (fun c => c = p) w').setCell ⟨p, 0, none⟩ v' rfl
  have hk : ∀ b ∈ bls'.flatten, (w'.setCell ⟨p, 0, none⟩ v').heap[b]? = w'.heap[b]? := fun b hb => e2.block b (hG.sub_lt b hb) (by have := (hs b hb).1; omega)
  have hG2 : Grow Lay.tWrite (w'.setCell ⟨p, 0, none⟩ v') (p + 1) 29 v' rows' ws' bls' := hG.kept (own_setC (a := ⟨p, 0, none⟩) hG.own (by simp) v') hk
  refine ⟨h.lt, hb2, hG2, fun b hm => ⟨(hs b hm).1, fun o => (frozen_of_block (hk b hm) o).trans ((hs b hm).2 o)⟩, hnd, ?_, fun b hm => hG2.sub_lt b hm, fun b hm => (hG2.own.lt b hm).2, hb2.lt⟩
  exact (h.seen.ext hE (fun e => by have := (h.grow.own.lt mb e).1; have := h.lt; omega)).ext e2 (by have := h.lt; omega)
/-- The map has turned. -/
theorem marked (h : Told0 w p mb N n ws f g v rows bls) {n' : Nat} {g' : Int → Int → Nat} (hE : Ext (fun c => c = mb) w w') (hT : Ticks w' mb n' g') : Told0 w' p mb N n' ws f g' v rows bls := by
  have hs : ∀ b ∈ bls.flatten, w'.heap[b]? = w.heap[b]? := fun b hb => hE.block b (h.grow.sub_lt b hb) (by have := (h.sub b hb).1; have := h.lt; omega)
  refine ⟨h.lt, h.box.ext hE (by have := h.lt; omega), h.grow.kept ?_ hs, fun b hm => ⟨(h.sub b hm).1, fun o => (frozen_of_block (hs b hm) o).trans ((h.sub b hm).2 o)⟩, h.nd, hT, h.hiB, h.hiV, h.pN⟩
  obtain ⟨h1, h2⟩ := h.grow.own
  refine ⟨h1, ?_⟩
  rcases h2 with h2 | ⟨gb, cap, cur, hv, hg, hh, r⟩
  · exact Or.inl h2
  · exact Or.inr ⟨gb, cap, cur, hv, hg, (hE.block gb (lt_of_block hh) (by have := h.lt; omega)).trans hh, r⟩
/-- A last number is another. -/
theorem lasted (h : Told0 w p mb N n ws f g v rows bls) (i : Nat) (hi : i < 10) (z : Int) : Told0 (w.setCell ⟨p, 2 + i, none⟩ (.int .i64 z)) p mb N n ws (fun j => if j = i then z else f j) g v rows bls := by
  have e2 : Ext (fun c => c = p) w (w.setCell ⟨p, 2 + i, none⟩ (.int .i64 z)) := (Ext.refl (fun c => c = p) w).setCell ⟨p, 2 + i, none⟩ _ rfl
  have hs : ∀ b ∈ bls.flatten, (w.setCell ⟨p, 2 + i, none⟩ (.int .i64 z)).heap[b]? = w.heap[b]? := fun b hb => e2.block b (h.grow.sub_lt b hb) (by have := (h.sub b hb).1; omega)
  refine ⟨h.lt, ?_, h.grow.kept (own_setC (a := ⟨p, 2 + i, none⟩) h.grow.own (by simp) _) hs, fun b hm => ⟨(h.sub b hm).1, fun o => (frozen_of_block (hs b hm) o).trans ((h.sub b hm).2 o)⟩, h.nd, h.seen.ext e2 (by have := h.lt; omega), h.hiB, h.hiV, h.pN⟩
  rw [← tcells_set v mb f i hi z]
  exact h.box.set (2 + i) _
theorem same (h : Told0 w p mb N n ws f g v rows bls) {n' : Nat} {f' : Int → Int} {g' : Int → Int → Nat} (hn : n ≤ n') (hf : ∀ j, f j = f' j) (hg : ∀ s q, g s q = g' s q) : Told0 w p mb N n' ws f' g' v rows bls := by
  rw [funext hf] at h
  exact ⟨h.lt, h.box, h.grow, h.sub, h.nd, (h.seen.mono hn).congr hg, h.hiB, h.hiV, h.pN⟩
end Told0
/-- Block p is a story of the writes ws. -/
abbrev Told (w : World) (p mb N : Nat) (ws : List DWrite) (v : Value) (rows : List (List Value)) (bls : List (List Nat)) : Prop := Told0 w p mb N ws.length ws (lastI ws) (fun s q => seenI ws s q) v rows bls
theorem told_new (w : World) : Told ((w.alloc (.map #[] 0)).alloc (.cells (tcells (.slice none 0 0) w.heap.size (lastI [])) 80)) (w.heap.size + 1) w.heap.size ((w.alloc (.map #[] 0)).alloc (.cells (tcells (.slice none 0 0) w.heap.size (lastI [])) 80)).heap.size [] (.slice none 0 0) [] [] := by
  have e : (w.alloc (.map #[] 0)).heap.size = w.heap.size + 1 := by simp
  have b : Box 0 (tcells (.slice none 0 0) w.heap.size (lastI [])) 80 ((w.alloc (.map #[] 0)).alloc (.cells (tcells (.slice none 0 0) w.heap.size (lastI [])) 80)) (w.alloc (.map #[] 0)).heap.size := newBox (Nat.zero_le _)
  rw [e] at b
  refine ⟨by omega, b, Grow.nil ⟨by simp, Or.inl ⟨rfl, rfl⟩⟩, by simp, by simp, ?_, by simp, by simp [Value.ownBlock], b.lt⟩
  exact (ticks_new w).ext (ext_of_below ((Below.refl _ _).alloc (Nat.le_refl _) _) (fun _ => False)) (fun h => h)

end Go.Proofs.YtbogjepkdcknfaaGreatDoor
