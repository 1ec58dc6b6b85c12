/-
  Texts of this proof in one: SpecNCopy, SpecNCopyG, SpecWC, RowIn.
  Their conditions stand in their theorems.
-/
import Derived.Test.YtdnhmoppineegaaGreatSw06
import Derived.Test.YtdnhmoppineegaaGreatSw07
import Derived.Test.YtdnhmoppineegaaGreatSw01
import Derived.Test.YtdnhmoppineegaaGreatSw04
import Derived.Test.YtdnhmoppineegaaGreatSw05
import Derived.Deep.RegionHeld3
import Derived.Deep.CutRange

namespace Go.Proofs.YtdnhmoppineegaaGreat
open Go.RowKit

theorem node_vecs9 {x : DNode} (h : NodeOK x) : ∀ y ∈ x.writes, y.vec.length ≤ 100000000 := fun y hy => by
  obtain ⟨-, -, -, hk⟩ := writeFault_zero (h.ws y hy)
  rcases hk with ⟨-, hv⟩ | ⟨-, hv⟩
  · have := (vecFault_zero hv).1; omega
  · rw [hv]; simp
set_option maxRecDepth 10000 in
set_option maxHeartbeats 2000000 in
theorem ncopyC (cs : List Value) (x : DNode) (w : World) (h : Lay.tNode.Reads w cs x) (hn : x.writes.length ≤ 1000000) (hv : ∀ y ∈ x.writes, y.vec.length ≤ 100000000) :
    Calls Tryz.prog 100 #[.agg cs.toArray] w fun e w' => ∃ a6 d6, e = .returned (.agg #[.int .i64 x.id, .bool x.up, .int .i64 x.epoch, .int .i64 x.lease, .slice a6 x.writes.length d6, .int .i64 x.sure, .int .i64 x.clean]) ∧ (Lay.sl Lay.tWrite).LiesIn w' [.slice a6 x.writes.length d6] x.writes w.heap.size w'.heap.size ∧ Below w.heap.size w w' := by
  obtain ⟨a4, d4, rfl, R4⟩ := open_Node h
  have nb : Below w.heap.size w ((w.alloc (.cells #[.int .i64 x.id, .bool x.up, .int .i64 x.epoch, .int .i64 x.lease, .slice a4 x.writes.length d4, .int .i64 x.sure, .int .i64 x.clean] 63)).alloc (.cells #[.int .i64 0, .bool false, .int .i64 0, .int .i64 0, .slice none 0 0, .int .i64 0, .int .i64 0] 63)) := ((Below.refl _ _).alloc (Nat.le_refl _) _).alloc (by simp) _
  have bX : Box 0 #[.int .i64 x.id, .bool x.up, .int .i64 x.epoch, .int .i64 x.lease, .slice a4 x.writes.length d4, .int .i64 x.sure, .int .i64 x.clean] 63 ((w.alloc (.cells #[.int .i64 x.id, .bool x.up, .int .i64 x.epoch, .int .i64 x.lease, .slice a4 x.writes.length d4, .int .i64 x.sure, .int .i64 x.clean] 63)).alloc (.cells #[.int .i64 0, .bool false, .int .i64 0, .int .i64 0, .slice none 0 0, .int .i64 0, .int .i64 0] 63)) w.heap.size := (newBox (Nat.zero_le _)).grow _
  have bR : Box 0 #[.int .i64 0, .bool false, .int .i64 0, .int .i64 0, .slice none 0 0, .int .i64 0, .int .i64 0] 63 ((w.alloc (.cells #[.int .i64 x.id, .bool x.up, .int .i64 x.epoch, .int .i64 x.lease, .slice a4 x.writes.length d4, .int .i64 x.sure, .int .i64 x.clean] 63)).alloc (.cells #[.int .i64 0, .bool false, .int .i64 0, .int .i64 0, .slice none 0 0, .int .i64 0, .int .i64 0] 63)) (w.heap.size + 1) := newBoxAt (Nat.zero_le _) (by simp)
  have HL := hide (wcopyC _ x.writes _ (R4.later nb) (by omega) hv)
  have HX := hide bX
  have HR := hide bR
  have HB := hide nb
  clear h nb bX bR R4 hv
  go_enter Tryz.func100, Tryz.ntmps100
  go_wp2_with fail
  generalize (w.alloc (.cells #[.int .i64 x.id, .bool x.up, .int .i64 x.epoch, .int .i64 x.lease, .slice a4 x.writes.length d4, .int .i64 x.sure, .int .i64 x.clean] 63)).alloc (.cells #[.int .i64 0, .bool false, .int .i64 0, .int .i64 0, .slice none 0 0, .int .i64 0, .int .i64 0] 63) = W0 at *
  refine (unhide HL).mono ?_
  rintro e w1 ⟨v6, rfl, ⟨rows, bls, hG, hS⟩, hb⟩
  have hl := hG.toLies (by omega) hS
  obtain ⟨a6, d6, rfl⟩ := open_sl hl.reads
  have bX1 := (unhide HX).keep hb
  have bR1 := (unhide HR).keep hb
  have hlo := (unhide HR).lt
  have y0 := Box.at bX1 0 _ rfl
  have y1 := Box.at bX1 1 _ rfl
  have y2 := Box.at bX1 2 _ rfl
  have y3 := Box.at bX1 3 _ rfl
  have y4 := Box.at bX1 4 _ rfl
  have y5 := Box.at bX1 5 _ rfl
  have y6 := Box.at bX1 6 _ rfl
  simp only [List.getElem_toArray, List.getElem_cons_zero, List.getElem_cons_succ] at y0 y1 y2 y3 y4 y5 y6
  have z0 := Box.at bR1 0 _ rfl
  have z1 := Box.at bR1 1 _ rfl
  have z2 := Box.at bR1 2 _ rfl
  have z3 := Box.at bR1 3 _ rfl
  have z4 := Box.at bR1 4 _ rfl
  have z5 := Box.at bR1 5 _ rfl
  have z6 := Box.at bR1 6 _ rfl
  simp only [List.getElem_toArray, List.getElem_cons_zero, List.getElem_cons_succ] at z0 z1 z2 z3 z4 z5 z6
  have yf := Box.soft bX1
  have yl := Box.lt bX1
  have ff := Box.soft bR1
  have l0 := Box.lt bR1
  have HB1 := hide ((unhide HB).trans (hb.mono (unhide HB).size))
  have HO1 := hide hl
  clear hb hG hS hl bX1 bR1 HL HX HR HB
  go_wp2_with fail
  refine bodyPost_ret (v := .agg #[.int .i64 x.id, .bool x.up, .int .i64 x.epoch, .int .i64 x.lease, .slice a6 x.writes.length d6, .int .i64 x.sure, .int .i64 x.clean]) (by simp [results, Tryz.results100, go_sem, z0, z1, z2, z3, z4, z5, z6]) rfl ?_
  have hB8 : Below w.heap.size w (w1.setCell ⟨w.heap.size, 4, none⟩ (.slice a6 x.writes.length d6)) := (unhide HB1).setCell (by simp) _
  have hB9 := below_setAll hB8 (w.heap.size + 1) 0 [.int .i64 x.id, .bool x.up, .int .i64 x.epoch, .int .i64 x.lease, .slice a6 x.writes.length d6, .int .i64 x.sure, .int .i64 x.clean] (by omega)
  have e1 : Ext (fun q => q = w.heap.size) w1 (w1.setCell ⟨w.heap.size, 4, none⟩ (.slice a6 x.writes.length d6)) := (Ext.refl (fun q => q = w.heap.size) _).setCell ⟨w.heap.size, 4, none⟩ _ rfl
  have o1 := (unhide HO1).ext e1 (fun q h1 h2 h3 => by omega)
  have o2 := lies_store' (s := w.heap.size + 1) (vs := [.int .i64 x.id, .bool x.up, .int .i64 x.epoch, .int .i64 x.lease, .slice a6 x.writes.length d6, .int .i64 x.sure, .int .i64 x.clean]) o1 (by omega)
  have hz := size_setAll (w1.setCell ⟨w.heap.size, 4, none⟩ (.slice a6 x.writes.length d6)) (w.heap.size + 1) 0 [.int .i64 x.id, .bool x.up, .int .i64 x.epoch, .int .i64 x.lease, .slice a6 x.writes.length d6, .int .i64 x.sure, .int .i64 x.clean]
  refine ⟨a6, d6, rfl, o2.mono (by omega) ?_, hB9⟩
  refine Nat.le_trans ?_ (Nat.le_of_eq hz.symm)
  simp
end Go.Proofs.YtdnhmoppineegaaGreat

namespace Go.Proofs.YtdnhmoppineegaaGreat
open Go.RowKit

theorem grown_set9 (w : World) (b o : Nat) (u : Value) : w.grownBy (w.setCell ⟨b, o, none⟩ u) (some b) :=
  ⟨rfl, rfl, rfl, by simp, fun k _ hk => heap_setCell_other w ⟨b, o, none⟩ k u (fun e => hk (by rw [e]))⟩
theorem grow_setAll {α : Type} {A : Lay α} {w : World} {base T : Nat} {v : Value} {rows : List (List Value)} {xs : List α} {bls : List (List Nat)} (h : Grow A w base T v rows xs bls) (s i : Nat) (vs : List Value) (hs : s < base) (hb : ∀ c ∈ bls.flatten, base ≤ c) : Grow A (setAll w s i vs) base T v rows xs bls := by
  induction vs generalizing w i with
  | nil => exact h
  | cons u us ih => exact ih (h.grown (grown_set9 w s i u) hs hb) (i + 1)
theorem flat_take {rows : List (List Value)} {n : Nat} (h : ∀ r ∈ rows, r.length = n) (k : Nat) : (rows.take k).flatten = rows.flatten.take (k * n) := by
  induction rows generalizing k with
  | nil => simp
  | cons r rs ih =>
    match k with
    | 0 => simp
    | k + 1 =>
      have hr := h r (by simp)
      rw [List.take_succ_cons, List.flatten_cons, List.flatten_cons, ih (fun q hq => h q (List.mem_cons_of_mem _ hq)) k, List.take_append, hr, show (k + 1) * n - n = k * n by rw [Nat.add_mul]; omega]
      congr 1
      rw [List.take_of_length_le]
      rw [hr, Nat.add_mul]
      omega
theorem grow_take {α : Type} {A : Lay α} {w : World} {base T : Nat} {a : Option Addr} {cap n : Nat} {rows : List (List Value)} {xs : List α} {bls : List (List Nat)} (h : Grow A w base T (.slice a n cap) rows xs bls) (k : Nat) (hk : k ≤ xs.length) : Grow A w base T (.slice a k cap) (rows.take k) (xs.take k) (bls.take k) := by
  have hl : (xs.take k).length = k := by rw [List.length_take]; omega
  have hn := h.nrows
  have hm := h.nbls
  have hrl := h.row_len
  have hsub : ∀ b ∈ (bls.take k).flatten, b ∈ bls.flatten := fun b hb => by
    obtain ⟨l, h3, h4⟩ := List.mem_flatten.1 hb
    exact List.mem_flatten.2 ⟨l, List.mem_of_mem_take h3, h4⟩
  refine ⟨?_, by simp [hn], by simp [hm], fun j q1 q2 q3 => ?_, fun b hb e => h.off b (hsub b hb) (by cases a <;> exact e)⟩
  · rw [hl, flat_take hrl]
    obtain ⟨h1, h2⟩ := h.own
    refine ⟨by rw [List.length_take, h1, Nat.min_eq_left (Nat.mul_le_mul_right _ hk)], ?_⟩
    rcases h2 with ⟨he, h0⟩ | ⟨g, cp, cu, he, hg, hh, hc, hcm, hsz, htk⟩
    · simp only [Value.slice.injEq] at he
      obtain ⟨rfl, rfl, rfl⟩ := he
      obtain rfl : k = 0 := by omega
      exact Or.inl ⟨rfl, rfl⟩
    · simp only [Value.slice.injEq] at he
      obtain ⟨rfl, rfl, rfl⟩ := he
      refine Or.inr ⟨g, _, cu, rfl, hg, hh, by omega, hcm, hsz, ?_⟩
      rw [← htk, List.take_take, Nat.min_eq_left (Nat.mul_le_mul_right _ hk)]
  · simp only [List.getElem_take]
    rw [List.length_take] at q1 q2 q3
    exact h.lies j (by omega) (by omega) (by omega)

set_option maxRecDepth 10000 in
set_option maxHeartbeats 2000000 in
theorem ncopyG (cs : List Value) (x : DNode) (w : World) (h : Lay.tNode.Reads w cs x) (hn : x.writes.length ≤ 1000000) (hv : ∀ y ∈ x.writes, y.vec.length ≤ 100000000) :
    Calls Tryz.prog 100 #[.agg cs.toArray] w fun e w' => ∃ a6 d6 rows bls, e = .returned (.agg #[.int .i64 x.id, .bool x.up, .int .i64 x.epoch, .int .i64 x.lease, .slice a6 x.writes.length d6, .int .i64 x.sure, .int .i64 x.clean]) ∧ Grow Lay.tWrite w' w.heap.size 94 (.slice a6 x.writes.length d6) rows x.writes bls ∧ (∀ c ∈ bls.flatten, w.heap.size ≤ c) ∧ Below w.heap.size w w' := by
  obtain ⟨a4, d4, rfl, R4⟩ := open_Node h
  have nb : Below w.heap.size w ((w.alloc (.cells #[.int .i64 x.id, .bool x.up, .int .i64 x.epoch, .int .i64 x.lease, .slice a4 x.writes.length d4, .int .i64 x.sure, .int .i64 x.clean] 63)).alloc (.cells #[.int .i64 0, .bool false, .int .i64 0, .int .i64 0, .slice none 0 0, .int .i64 0, .int .i64 0] 63)) := ((Below.refl _ _).alloc (Nat.le_refl _) _).alloc (by simp) _
  have bX : Box 0 #[.int .i64 x.id, .bool x.up, .int .i64 x.epoch, .int .i64 x.lease, .slice a4 x.writes.length d4, .int .i64 x.sure, .int .i64 x.clean] 63 ((w.alloc (.cells #[.int .i64 x.id, .bool x.up, .int .i64 x.epoch, .int .i64 x.lease, .slice a4 x.writes.length d4, .int .i64 x.sure, .int .i64 x.clean] 63)).alloc (.cells #[.int .i64 0, .bool false, .int .i64 0, .int .i64 0, .slice none 0 0, .int .i64 0, .int .i64 0] 63)) w.heap.size := (newBox (Nat.zero_le _)).grow _
  have bR : Box 0 #[.int .i64 0, .bool false, .int .i64 0, .int .i64 0, .slice none 0 0, .int .i64 0, .int .i64 0] 63 ((w.alloc (.cells #[.int .i64 x.id, .bool x.up, .int .i64 x.epoch, .int .i64 x.lease, .slice a4 x.writes.length d4, .int .i64 x.sure, .int .i64 x.clean] 63)).alloc (.cells #[.int .i64 0, .bool false, .int .i64 0, .int .i64 0, .slice none 0 0, .int .i64 0, .int .i64 0] 63)) (w.heap.size + 1) := newBoxAt (Nat.zero_le _) (by simp)
  have HL := hide (wcopyC _ x.writes _ (R4.later nb) (by omega) hv)
  have HX := hide bX
  have HR := hide bR
  have HB := hide nb
  clear h nb bX bR R4 hv
  go_enter Tryz.func100, Tryz.ntmps100
  go_wp2_with fail
  generalize (w.alloc (.cells #[.int .i64 x.id, .bool x.up, .int .i64 x.epoch, .int .i64 x.lease, .slice a4 x.writes.length d4, .int .i64 x.sure, .int .i64 x.clean] 63)).alloc (.cells #[.int .i64 0, .bool false, .int .i64 0, .int .i64 0, .slice none 0 0, .int .i64 0, .int .i64 0] 63) = W0 at *
  refine (unhide HL).mono ?_
  rintro e w1 ⟨v6, rfl, ⟨rows, bls, hG, hS⟩, hb⟩
  have hl := hG.toLies (by omega) hS
  obtain ⟨a6, d6, rfl⟩ := open_sl hl.reads
  have bX1 := (unhide HX).keep hb
  have bR1 := (unhide HR).keep hb
  have hlo := (unhide HR).lt
  have y0 := Box.at bX1 0 _ rfl
  have y1 := Box.at bX1 1 _ rfl
  have y2 := Box.at bX1 2 _ rfl
  have y3 := Box.at bX1 3 _ rfl
  have y4 := Box.at bX1 4 _ rfl
  have y5 := Box.at bX1 5 _ rfl
  have y6 := Box.at bX1 6 _ rfl
  simp only [List.getElem_toArray, List.getElem_cons_zero, List.getElem_cons_succ] at y0 y1 y2 y3 y4 y5 y6
  have z0 := Box.at bR1 0 _ rfl
  have z1 := Box.at bR1 1 _ rfl
  have z2 := Box.at bR1 2 _ rfl
  have z3 := Box.at bR1 3 _ rfl
  have z4 := Box.at bR1 4 _ rfl
  have z5 := Box.at bR1 5 _ rfl
  have z6 := Box.at bR1 6 _ rfl
  simp only [List.getElem_toArray, List.getElem_cons_zero, List.getElem_cons_succ] at z0 z1 z2 z3 z4 z5 z6
  have yf := Box.soft bX1
  have yl := Box.lt bX1
  have ff := Box.soft bR1
  have l0 := Box.lt bR1
  have HB1 := hide ((unhide HB).trans (hb.mono (unhide HB).size))
  have HO1 := hide hG
  have HS1 := hide hS
  have HZ0 := hide hb.size
  clear hb hG hS hl bX1 bR1 HL HX HR HB
  go_wp2_with fail
  refine bodyPost_ret (v := .agg #[.int .i64 x.id, .bool x.up, .int .i64 x.epoch, .int .i64 x.lease, .slice a6 x.writes.length d6, .int .i64 x.sure, .int .i64 x.clean]) (by simp [results, Tryz.results100, go_sem, z0, z1, z2, z3, z4, z5, z6]) rfl ?_
  have hB8 : Below w.heap.size w (w1.setCell ⟨w.heap.size, 4, none⟩ (.slice a6 x.writes.length d6)) := (unhide HB1).setCell (by simp) _
  have hB9 := below_setAll hB8 (w.heap.size + 1) 0 [.int .i64 x.id, .bool x.up, .int .i64 x.epoch, .int .i64 x.lease, .slice a6 x.writes.length d6, .int .i64 x.sure, .int .i64 x.clean] (by omega)
  have g1 := (unhide HO1).grown (grown_set9 w1 w.heap.size 4 (.slice a6 x.writes.length d6)) (by omega) (unhide HS1)
  have g2 := grow_setAll g1 (w.heap.size + 1) 0 [.int .i64 x.id, .bool x.up, .int .i64 x.epoch, .int .i64 x.lease, .slice a6 x.writes.length d6, .int .i64 x.sure, .int .i64 x.clean] (by omega) (unhide HS1)
  exact ⟨a6, d6, rows, bls, rfl, g2.lower (by omega), fun c hc => by have := unhide HS1 c hc; omega, hB9⟩
end Go.Proofs.YtdnhmoppineegaaGreat

namespace Go.Proofs.YtdnhmoppineegaaGreat
open Go.RowKit

theorem box_set7Z {lo : Nat} {T : TypeId} {W : World} {s : Nat} {c0 c1 c2 c3 c4 c5 c6 : Value} (h : Box lo #[c0, c1, c2, c3, c4, c5, c6] T W s) (v0 v1 v2 v3 v4 v5 v6 : Value) : Box lo #[v0, v1, v2, v3, v4, v5, v6] T (setAll W s 0 [v0, v1, v2, v3, v4, v5, v6]) s := by
  have q := (Box.set (Box.set (Box.set (Box.set (Box.set (Box.set (Box.set h 0 v0) 1 v1) 2 v2) 3 v3) 4 v4) 5 v5) 6 v6)
  simp only [List.setIfInBounds_toArray, List.set_cons_zero, List.set_cons_succ] at q
  exact q
theorem box_lowW {lo : Nat} {cs : Array Value} {T : TypeId} {W w' : World} {s B : Nat} (h : Box lo cs T W s) (hb : Below B W w') (hs : s < B) : Box lo cs T w' s := ⟨h.1, (hb.block s hs).trans h.2⟩
theorem grow_keepW {α : Type} {A : Lay α} {S : Nat → Prop} {w w' : World} {base T : Nat} {v : Value} {rows : List (List Value)} {xs : List α} {bls : List (List Nat)} (h : Grow A w base T v rows xs bls) (e : Ext S w w') (h1 : ∀ c ∈ bls.flatten, ¬ S c) (h2 : ∀ g, v.ownBlock = some g → ¬ S g) : Grow A w' base T v rows xs bls := by
  refine h.kept ?_ (fun c hc => e.block c (h.sub_lt c hc) (h1 c hc))
  obtain ⟨q1, q2⟩ := h.own
  refine ⟨q1, ?_⟩
  rcases q2 with q2 | ⟨g, cap, cu, hv, hg, hh, r⟩
  · exact Or.inl q2
  · exact Or.inr ⟨g, cap, cu, hv, hg, (e.block g (lt_of_block hh) (h2 g (by rw [hv]; rfl))).trans hh, r⟩
theorem liesIn_below {α : Type} {A : Lay α} {w w' : World} {cs : List Value} {x : α} {lo hi B : Nat} (h : A.LiesIn w cs x lo hi) (hb : Below B w w') (hh : hi ≤ B) : A.LiesIn w' cs x lo hi := by
  obtain ⟨bl, l, hl⟩ := h
  exact ⟨bl, A.keep l fun b hm => hb.block b (by have := hl b hm; omega), hl⟩
theorem WNew.ext {S : Nat → Prop} {W W' : World} {lo hi : Nat} {cells : List Value} {x : DWorld} (h : WNew W lo hi cells x) (e : Ext S W W') (hs : ∀ k, lo ≤ k → k < hi → ¬ S k) : WNew W' lo hi cells x := by
  obtain ⟨q, rfl, hl, hb, h3, hr, h5, h6⟩ := h
  refine ⟨q, rfl, hl.ext e (fun c hc hm => ?_), hb, h3, hr, h5, h6⟩
  rcases hm with rfl | hm | hm | hm | hm
  · exact hs _ hb.1 hb.2
  · exact hs c (h3 c hm).1 (h3 c hm).2
  · exact hs c (hr c hm).1 (hr c hm).2
  · exact hs c (h5 c hm).1 (h5 c hm).2
  · exact hs c (h6 c hm).1 (h6 c hm).2
def wfE (e : DEntry) : Prop := (Lit.int .i64 e.kind).wf = true ∧ (Lit.int .i64 e.session).wf = true ∧ (Lit.int .i64 e.seq).wf = true ∧ (Lit.int .i64 e.id).wf = true ∧ (Lit.int .i64 e.k).wf = true ∧ (Lit.int .i64 e.start).wf = true ∧ (Lit.int .i64 e.fin).wf = true ∧ (Lit.int .i64 e.place).wf = true
set_option maxRecDepth 100000 in
set_option maxHeartbeats 1000000 in
theorem l12CopyC (cs : List Value) (x : DWorld) (w : World) (h : Lay.tWorld.Reads w cs x) (hok : WorldOK x) (hf : Fits x) :
    Calls Tryz.prog 125 #[.agg cs.toArray] w fun e w' => ∃ cs', e = .returned (.agg cs'.toArray) ∧ WNew w' w.heap.size w'.heap.size cs' x ∧ Below w.heap.size w w' := by
  obtain ⟨a3, d3, a4, d4, a5, d5, a6, d6, rfl, RC, RN, RM, RE⟩ := open_World h
  have nb : Below w.heap.size w ((w.alloc (.cells #[.int .i64 x.now, .int .i64 x.events, .int .i64 x.chain.epoch, .slice a3 x.chain.ids.length d3, .slice a4 x.nodes.length d4, .slice a5 x.msgs.length d5, .slice a6 x.history.length d6] 36)).alloc (.cells #[.int .i64 0, .int .i64 0, .int .i64 0, .slice none 0 0, .slice none 0 0, .slice none 0 0, .slice none 0 0] 36)) := ((Below.refl _ _).alloc (Nat.le_refl _) _).alloc (by simp) _
  have hz0 : ((w.alloc (.cells #[.int .i64 x.now, .int .i64 x.events, .int .i64 x.chain.epoch, .slice a3 x.chain.ids.length d3, .slice a4 x.nodes.length d4, .slice a5 x.msgs.length d5, .slice a6 x.history.length d6] 36)).alloc (.cells #[.int .i64 0, .int .i64 0, .int .i64 0, .slice none 0 0, .slice none 0 0, .slice none 0 0, .slice none 0 0] 36)).heap.size = w.heap.size + 2 := by simp
  obtain ⟨b, off, rfl, hbl⟩ := Lay.sl_addr RN (by have := hok.some; omega)
  have HX : Hid (Box 0 #[.int .i64 x.now, .int .i64 x.events, .int .i64 x.chain.epoch, .slice a3 x.chain.ids.length d3, .slice (some ⟨b, off, none⟩) x.nodes.length d4, .slice a5 x.msgs.length d5, .slice a6 x.history.length d6] 36 ((w.alloc (.cells #[.int .i64 x.now, .int .i64 x.events, .int .i64 x.chain.epoch, .slice a3 x.chain.ids.length d3, .slice (some ⟨b, off, none⟩) x.nodes.length d4, .slice a5 x.msgs.length d5, .slice a6 x.history.length d6] 36)).alloc (.cells #[.int .i64 0, .int .i64 0, .int .i64 0, .slice none 0 0, .slice none 0 0, .slice none 0 0, .slice none 0 0] 36)) w.heap.size) := (newBox (Nat.zero_le _)).grow _
  have HY : Hid (Box 0 #[.int .i64 0, .int .i64 0, .int .i64 0, .slice none 0 0, .slice none 0 0, .slice none 0 0, .slice none 0 0] 36 ((w.alloc (.cells #[.int .i64 x.now, .int .i64 x.events, .int .i64 x.chain.epoch, .slice a3 x.chain.ids.length d3, .slice (some ⟨b, off, none⟩) x.nodes.length d4, .slice a5 x.msgs.length d5, .slice a6 x.history.length d6] 36)).alloc (.cells #[.int .i64 0, .int .i64 0, .int .i64 0, .slice none 0 0, .slice none 0 0, .slice none 0 0, .slice none 0 0] 36)) (w.heap.size + 1)) := newBoxAt (Nat.zero_le _) (by simp)
  have HRC := hide (RC.later nb)
  have HRM := hide (RM.later nb)
  have HRN := hide (RN.later nb)
  have HRE := hide (RE.later nb)
  have HWF := hide (wf_World h)
  have HOK := hide hok
  have HN3 : Hid (x.chain.ids.length ≤ 100000000) := by have := (chainFault_zero hok.chain).len; show x.chain.ids.length ≤ 100000000; omega
  have HN5 : Hid (x.msgs.length ≤ 10000000 ∧ ∀ m ∈ x.msgs, m.write.vec.length ≤ 100000000) := ⟨by have := (netFault_zero hok.net).1; omega, msgs_vec hok.net⟩
  have HF := hide hf
  have HB := hide nb
  have hbl0 : b < ((w.alloc (.cells #[.int .i64 x.now, .int .i64 x.events, .int .i64 x.chain.epoch, .slice a3 x.chain.ids.length d3, .slice (some ⟨b, off, none⟩) x.nodes.length d4, .slice a5 x.msgs.length d5, .slice a6 x.history.length d6] 36)).alloc (.cells #[.int .i64 0, .int .i64 0, .int .i64 0, .slice none 0 0, .slice none 0 0, .slice none 0 0, .slice none 0 0] 36)).heap.size := Nat.lt_of_lt_of_le hbl nb.size
  clear nb h RC RN RM RE hok hf hbl
  go_enter Tryz.func125, Tryz.ntmps125
  go_upto_region 1 with fail
  generalize (w.alloc (.cells #[.int .i64 x.now, .int .i64 x.events, .int .i64 x.chain.epoch, .slice a3 x.chain.ids.length d3, .slice (some ⟨b, off, none⟩) x.nodes.length d4, .slice a5 x.msgs.length d5, .slice a6 x.history.length d6] 36)).alloc (.cells #[.int .i64 0, .int .i64 0, .int .i64 0, .slice none 0 0, .slice none 0 0, .slice none 0 0, .slice none 0 0] 36) = W0 at *
  go_cut [3] from 7 to 17 (fun s3 wx => ∃ (wz : World) (g : Nat) (v3 v5 : Value), wz = wx ∧ s3 = .pointer (some ⟨g, 0, none⟩) ∧ Box 0 #[.int .i64 x.now, .int .i64 x.events, .int .i64 x.chain.epoch, v3, .slice none 0 0, v5, .slice none 0 0] 36 wz g ∧ Clear Lay.int wz v3 x.chain.ids W0.heap.size wz.heap.size g ∧ Clear Lay.tMsg wz v5 x.msgs W0.heap.size wz.heap.size g ∧ W0.heap.size ≤ g ∧ Below W0.heap.size W0 wz)
  case first =>
    have z0 := Box.at (unhide HX) 0 _ rfl
    have z1 := Box.at (unhide HX) 1 _ rfl
    have z2 := Box.at (unhide HX) 2 _ rfl
    have z3 := Box.at (unhide HX) 3 _ rfl
    have z5 := Box.at (unhide HX) 5 _ rfl
    simp only [List.getElem_toArray, List.getElem_cons_zero, List.getElem_cons_succ] at z0 z1 z2 z3 z5
    have hxl := (unhide HX).lt
    have HDS : W0.heap.size ≤ W0.drew.heap.size := Nat.le_refl _
    clear HX HY HRN HRE HOK HF HB
    refine wp_region_noPanic ?_
    refine wp_region_held_drew (S := fun w' => Below W0.heap.size W0 w') (by kernel_rfl) ((Below.refl _ _).drew) (fun hHeld => ?_)
    generalize W0.drew = wD at hHeld HDS ⊢
    refine wpAnyH_take (i := 0) (oi := { dst := some 7, op := Go.Op.fieldAddr 36 (Go.Operand.tmp 1) 0, type := 0, pos := "l12_world.go:81", after := #[], guard := none }) (v := ?ve0_1) rfl (by kernel_rfl) (by kernel_rfl) (by kernel_rfl) (fun _ _ _ h => h) (Or.inl ⟨by rfl, ?he0_1⟩) hHeld ?re0_1
    case he0_1 =>
      intro wS hSw
      (try dsimp only at hSw)
      go_simp
      try with_reducible rfl
    case re0_1 =>
    simp only [Act.put, List.setIfInBounds_toArray, List.set_cons_zero, List.set_cons_succ]
    refine wpAnyH_take (i := 1) (oi := { dst := some 8, op := Go.Op.load 2 (Go.Operand.tmp 7), type := 2, pos := "l12_world.go:81", after := #[{ on := 0, ground := Go.Ground.data }], guard := none }) (v := ?ve1_2) rfl (by kernel_rfl) (by kernel_rfl) (by kernel_rfl) (fun _ _ _ h => h) (Or.inl ⟨by rfl, ?he1_2⟩) hHeld ?re1_2
    case he1_2 =>
      intro wS hSw
      have q0 := (hSw.cell (p := ⟨w.heap.size, 0, none⟩) hxl).trans z0
      clear hSw
      (try dsimp only at hSw)
      go_simp
      try with_reducible rfl
    case re1_2 =>
    simp only [Act.put, List.setIfInBounds_toArray, List.set_cons_zero, List.set_cons_succ]
    refine wpAnyH_take (i := 2) (oi := { dst := some 9, op := Go.Op.fieldAddr 36 (Go.Operand.tmp 1) 1, type := 0, pos := "l12_world.go:81", after := #[], guard := none }) (v := ?ve2_3) rfl (by kernel_rfl) (by kernel_rfl) (by kernel_rfl) (fun _ _ _ h => h) (Or.inl ⟨by rfl, ?he2_3⟩) hHeld ?re2_3
    case he2_3 =>
      intro wS hSw
      (try dsimp only at hSw)
      go_simp
      try with_reducible rfl
    case re2_3 =>
    simp only [Act.put, List.setIfInBounds_toArray, List.set_cons_zero, List.set_cons_succ]
    refine wpAnyH_take (i := 3) (oi := { dst := some 10, op := Go.Op.load 2 (Go.Operand.tmp 9), type := 2, pos := "l12_world.go:81", after := #[{ on := 2, ground := Go.Ground.data }], guard := none }) (v := ?ve3_4) rfl (by kernel_rfl) (by kernel_rfl) (by kernel_rfl) (fun _ _ _ h => h) (Or.inl ⟨by rfl, ?he3_4⟩) hHeld ?re3_4
    case he3_4 =>
      intro wS hSw
      have q1 := (hSw.cell (p := ⟨w.heap.size, 1, none⟩) hxl).trans z1
      clear hSw
      (try dsimp only at hSw)
      go_simp
      try with_reducible rfl
    case re3_4 =>
    simp only [Act.put, List.setIfInBounds_toArray, List.set_cons_zero, List.set_cons_succ]
    refine wpAnyH_take (i := 4) (oi := { dst := some 11, op := Go.Op.fieldAddr 36 (Go.Operand.tmp 1) 2, type := 0, pos := "l12_world.go:81", after := #[], guard := none }) (v := ?ve4_5) rfl (by kernel_rfl) (by kernel_rfl) (by kernel_rfl) (fun _ _ _ h => h) (Or.inl ⟨by rfl, ?he4_5⟩) hHeld ?re4_5
    case he4_5 =>
      intro wS hSw
      (try dsimp only at hSw)
      go_simp
      try with_reducible rfl
    case re4_5 =>
    simp only [Act.put, List.setIfInBounds_toArray, List.set_cons_zero, List.set_cons_succ]
    refine wpAnyH_take (i := 5) (oi := { dst := some 12, op := Go.Op.load 31 (Go.Operand.tmp 11), type := 31, pos := "l12_world.go:81", after := #[{ on := 4, ground := Go.Ground.data }], guard := none }) (v := ?ve5_6) rfl (by kernel_rfl) (by kernel_rfl) (by kernel_rfl) (fun _ _ _ h => h) (Or.inl ⟨by rfl, ?he5_6⟩) hHeld ?re5_6
    case he5_6 =>
      intro wS hSw
      have q2 := (hSw.cell (p := ⟨w.heap.size, 2, none⟩) hxl).trans z2
      have q3 := (hSw.cell (p := ⟨w.heap.size, 3, none⟩) hxl).trans z3
      clear hSw
      (try dsimp only at hSw)
      go_simp
      try with_reducible rfl
    case re5_6 =>
    simp only [Act.put, List.setIfInBounds_toArray, List.set_cons_zero, List.set_cons_succ]
    refine wpAnyH_take (i := 7) (oi := { dst := some 14, op := Go.Op.fieldAddr 36 (Go.Operand.tmp 1) 4, type := 0, pos := "l12_world.go:81", after := #[], guard := none }) (v := ?ve7_7) rfl (by kernel_rfl) (by kernel_rfl) (by kernel_rfl) (fun _ _ _ h => h) (Or.inl ⟨by rfl, ?he7_7⟩) hHeld ?re7_7
    case he7_7 =>
      intro wS hSw
      (try dsimp only at hSw)
      go_simp
      try with_reducible rfl
    case re7_7 =>
    simp only [Act.put, List.setIfInBounds_toArray, List.set_cons_zero, List.set_cons_succ]
    refine wpAnyH_take (i := 8) (oi := { dst := some 15, op := Go.Op.load 33 (Go.Operand.tmp 14), type := 33, pos := "l12_world.go:81", after := #[{ on := 7, ground := Go.Ground.data }], guard := none }) (v := ?ve8_8) rfl (by kernel_rfl) (by kernel_rfl) (by kernel_rfl) (fun _ _ _ h => h) (Or.inl ⟨by rfl, ?he8_8⟩) hHeld ?re8_8
    case he8_8 =>
      intro wS hSw
      have q5 := (hSw.cell (p := ⟨w.heap.size, 5, none⟩) hxl).trans z5
      clear hSw
      (try dsimp only at hSw)
      go_simp
      try with_reducible rfl
    case re8_8 =>
    simp only [Act.put, List.setIfInBounds_toArray, List.set_cons_zero, List.set_cons_succ]
    refine wpAnyH_ready (rs := [6, 11]) (by kernel_rfl) (by simp) ?_
    refine AllReadyH.cons (o := { dst := some 13, op := Go.Op.call { callee := Go.Callee.value (Go.Operand.func 186), args := #[Go.Operand.tmp 12], argTypes := #[31] }, type := 31, pos := "l12_world.go:81", after := #[{ on := 5, ground := Go.Ground.data }], guard := none }) rfl (fun K hK => ?oe6_9) (AllReadyH.cons (o := { dst := some 3, op := Go.Op.alloc 36, type := 0, pos := "l12_world.go:81", after := #[], guard := none }) rfl (fun K hK => ?oe11_9) (AllReadyH.nil))
    case oe6_9 =>
      go_simp
      go_at_call 186
      refine (l10CopyC _ x.chain _ ((unhide HRC).later hHeld) (unhide HN3)).mono ?_
      rintro e u6 ⟨a3q, c3q, rfl, O3, hb6⟩
      have hz6 : wD.heap.size ≤ u6.heap.size := hb6.size
      try go_wp2_with fail
      refine hK.out _ _ (hHeld.trans (hb6.mono hHeld.size)) (fun hHeld => ?_)
      clear hK K
      try simp only [Act.put, List.setIfInBounds_toArray, List.set_cons_zero, List.set_cons_succ]
      refine wpAnyH_ready (rs := [9, 11]) (by kernel_rfl) (by simp) ?_
      refine AllReadyH.cons (o := { dst := some 16, op := Go.Op.call { callee := Go.Callee.value (Go.Operand.func 161), args := #[Go.Operand.tmp 15], argTypes := #[33] }, type := 33, pos := "l12_world.go:81", after := #[{ on := 8, ground := Go.Ground.data }, { on := 6, ground := Go.Ground.chain }], guard := none }) rfl (fun K hK => ?oe9_10) (AllReadyH.cons (o := { dst := some 3, op := Go.Op.alloc 36, type := 0, pos := "l12_world.go:81", after := #[], guard := none }) rfl (fun K hK => ?oe11_10) (AllReadyH.nil))
      case oe9_10 =>
        go_simp
        go_at_call 161
        refine (mcopyC _ x.msgs _ ((unhide HRM).later hHeld) (unhide HN5).1 (unhide HN5).2).mono ?_
        rintro e u9 ⟨v5, rfl, ⟨rows, bls, G9, hs9⟩, hb9⟩
        have hz9 : u6.heap.size ≤ u9.heap.size := hb9.size
        obtain ⟨a5q, c5q, rfl⟩ := own_shape G9.own
        have O5 := G9.toLies (by have := (unhide HN5).1; omega) hs9
        replace O3 := O3.later hb9
        try go_wp2_with fail
        refine hK.out _ _ (hHeld.trans (hb9.mono hHeld.size)) (fun hHeld => ?_)
        clear hK K
        try simp only [Act.put, List.setIfInBounds_toArray, List.set_cons_zero, List.set_cons_succ]
        refine wpAnyH_take (i := 10) (oi := { dst := some 17, op := Go.Op.build 36 #[(0, Go.Operand.tmp 8), (1, Go.Operand.tmp 10), (2, Go.Operand.tmp 13), (4, Go.Operand.tmp 16)], type := 36, pos := "l12_world.go:81", after := #[{ on := 1, ground := Go.Ground.data }, { on := 3, ground := Go.Ground.data }, { on := 6, ground := Go.Ground.data }, { on := 9, ground := Go.Ground.data }], guard := none }) (v := ?ve10_11) rfl (by kernel_rfl) (by kernel_rfl) (by kernel_rfl) (fun _ _ _ h => h) (Or.inl ⟨by rfl, ?he10_11⟩) hHeld ?re10_11
        case he10_11 =>
          intro wS hSw
          (try dsimp only at hSw)
          go_simp
          try with_reducible rfl
        case re10_11 =>
        simp only [Act.put, List.setIfInBounds_toArray, List.set_cons_zero, List.set_cons_succ]
        refine wpAnyH_ready (rs := [11]) (by kernel_rfl) (by simp) ?_
        refine AllReadyH.cons (o := { dst := some 3, op := Go.Op.alloc 36, type := 0, pos := "l12_world.go:81", after := #[], guard := none }) rfl (fun K hK => ?_) AllReadyH.nil
        have HG : Hid (Box 0 #[.int .i64 0, .int .i64 0, .int .i64 0, .slice none 0 0, .slice none 0 0, .slice none 0 0, .slice none 0 0] 36 (u9.alloc (.cells #[.int .i64 0, .int .i64 0, .int .i64 0, .slice none 0 0, .slice none 0 0, .slice none 0 0, .slice none 0 0] 36)) u9.heap.size) := newBox (Nat.zero_le _)
        have hH11 := hHeld
        go_simp
        refine hK.out _ _ (hHeld.alloc hHeld.size _) (fun hHeld => ?_)
        clear hK K
        try simp only [Act.put, List.setIfInBounds_toArray, List.set_cons_zero, List.set_cons_succ]
        refine wpAnyH_ready (rs := [12]) (by kernel_rfl) (by simp) ?_
        refine AllReadyH.cons (o := { dst := none, op := Go.Op.store 36 (Go.Operand.tmp 3) (Go.Operand.tmp 17), type := 0, pos := "l12_world.go:81", after := #[{ on := 11, ground := Go.Ground.data }, { on := 10, ground := Go.Ground.data }, { on := 9, ground := Go.Ground.chain }, { on := 0, ground := Go.Ground.phase }, { on := 1, ground := Go.Ground.phase }, { on := 2, ground := Go.Ground.phase }, { on := 3, ground := Go.Ground.phase }, { on := 4, ground := Go.Ground.phase }, { on := 5, ground := Go.Ground.phase }, { on := 6, ground := Go.Ground.phase }, { on := 7, ground := Go.Ground.phase }, { on := 8, ground := Go.Ground.phase }, { on := 9, ground := Go.Ground.phase }, { on := 10, ground := Go.Ground.phase }, { on := 11, ground := Go.Ground.phase }], guard := none }) rfl (fun K hK => ?_) AllReadyH.nil
        have hzD := hH11.size
        go_simp
        refine hK.out _ _ (hH11.alloc hH11.size _) (fun hHeld => ?_)
        clear hK K
        try simp only [Act.put, List.setIfInBounds_toArray, List.set_cons_zero, List.set_cons_succ]
        refine wpAnyH_done (by kernel_rfl) ?_ _
        refine NoPanic.normal ?_
        go_wp2_with fail
        go_meet
        have nb2 : Below u9.heap.size u9 (u9.alloc (.cells #[.int .i64 x.now, .int .i64 x.events, .int .i64 x.chain.epoch, .slice a3q x.chain.ids.length c3q, .slice none 0 0, .slice a5q x.msgs.length c5q, .slice none 0 0] 36)) := (Below.refl _ _).alloc (Nat.le_refl _) _
        have hss : (u9.alloc (.cells #[.int .i64 x.now, .int .i64 x.events, .int .i64 x.chain.epoch, .slice a3q x.chain.ids.length c3q, .slice none 0 0, .slice a5q x.msgs.length c5q, .slice none 0 0] 36)).heap.size = u9.heap.size + 1 := by simp
        have C3 := (clear_of (g := u9.heap.size) (O3.lies.later nb2) (by omega)).wide (lo' := W0.heap.size) (hi' := (u9.alloc (.cells #[.int .i64 x.now, .int .i64 x.events, .int .i64 x.chain.epoch, .slice a3q x.chain.ids.length c3q, .slice none 0 0, .slice a5q x.msgs.length c5q, .slice none 0 0] 36)).heap.size) (by omega) (by omega)
        have C5 := (clear_of (g := u9.heap.size) (O5.later nb2) (by omega)).wide (lo' := W0.heap.size) (hi' := (u9.alloc (.cells #[.int .i64 x.now, .int .i64 x.events, .int .i64 x.chain.epoch, .slice a3q x.chain.ids.length c3q, .slice none 0 0, .slice a5q x.msgs.length c5q, .slice none 0 0] 36)).heap.size) (by omega) (by omega)
        exact ⟨_, u9.heap.size, _, _, rfl, rfl, newBox (Nat.zero_le _), C3, C5, by omega, hHeld⟩
      case oe11_10 =>
        have HG : Hid (Box 0 #[.int .i64 0, .int .i64 0, .int .i64 0, .slice none 0 0, .slice none 0 0, .slice none 0 0, .slice none 0 0] 36 (u6.alloc (.cells #[.int .i64 0, .int .i64 0, .int .i64 0, .slice none 0 0, .slice none 0 0, .slice none 0 0, .slice none 0 0] 36)) u6.heap.size) := newBox (Nat.zero_le _)
        have hza : u6.heap.size < (u6.alloc (.cells #[.int .i64 0, .int .i64 0, .int .i64 0, .slice none 0 0, .slice none 0 0, .slice none 0 0, .slice none 0 0] 36)).heap.size := by simp
        have nba : Below u6.heap.size u6 (u6.alloc (.cells #[.int .i64 0, .int .i64 0, .int .i64 0, .slice none 0 0, .slice none 0 0, .slice none 0 0, .slice none 0 0] 36)) := (Below.refl _ _).alloc (Nat.le_refl _) _
        replace O3 := O3.later nba
        go_simp
        refine hK.out _ _ (hHeld.alloc hHeld.size _) (fun hHeld => ?_)
        clear hK K
        try simp only [Act.put, List.setIfInBounds_toArray, List.set_cons_zero, List.set_cons_succ]
        refine wpAnyH_ready (rs := [9]) (by kernel_rfl) (by simp) ?_
        refine AllReadyH.cons (o := { dst := some 16, op := Go.Op.call { callee := Go.Callee.value (Go.Operand.func 161), args := #[Go.Operand.tmp 15], argTypes := #[33] }, type := 33, pos := "l12_world.go:81", after := #[{ on := 8, ground := Go.Ground.data }, { on := 6, ground := Go.Ground.chain }], guard := none }) rfl (fun K hK => ?_) AllReadyH.nil
        go_simp
        go_at_call 161
        refine (mcopyC _ x.msgs _ ((unhide HRM).later hHeld) (unhide HN5).1 (unhide HN5).2).mono ?_
        rintro e u9 ⟨v5, rfl, ⟨rows, bls, G9, hs9⟩, hb9⟩
        have hz9 : (u6.alloc (.cells #[.int .i64 0, .int .i64 0, .int .i64 0, .slice none 0 0, .slice none 0 0, .slice none 0 0, .slice none 0 0] 36)).heap.size ≤ u9.heap.size := hb9.size
        obtain ⟨a5q, c5q, rfl⟩ := own_shape G9.own
        have O5 := G9.toLies (by have := (unhide HN5).1; omega) hs9
        have HG9 := hide ((unhide HG).keep hb9)
        clear HG
        have HG := HG9
        clear HG9
        replace O3 := O3.later hb9
        try go_wp2_with fail
        refine hK.out _ _ (hHeld.trans (hb9.mono hHeld.size)) (fun hHeld => ?_)
        clear hK K
        try simp only [Act.put, List.setIfInBounds_toArray, List.set_cons_zero, List.set_cons_succ]
        refine wpAnyH_take (i := 10) (oi := { dst := some 17, op := Go.Op.build 36 #[(0, Go.Operand.tmp 8), (1, Go.Operand.tmp 10), (2, Go.Operand.tmp 13), (4, Go.Operand.tmp 16)], type := 36, pos := "l12_world.go:81", after := #[{ on := 1, ground := Go.Ground.data }, { on := 3, ground := Go.Ground.data }, { on := 6, ground := Go.Ground.data }, { on := 9, ground := Go.Ground.data }], guard := none }) (v := ?ve10_12) rfl (by kernel_rfl) (by kernel_rfl) (by kernel_rfl) (fun _ _ _ h => h) (Or.inl ⟨by rfl, ?he10_12⟩) hHeld ?re10_12
        case he10_12 =>
          intro wS hSw
          (try dsimp only at hSw)
          go_simp
          try with_reducible rfl
        case re10_12 =>
        simp only [Act.put, List.setIfInBounds_toArray, List.set_cons_zero, List.set_cons_succ]
        refine wpAnyH_ready (rs := [12]) (by kernel_rfl) (by simp) ?_
        refine AllReadyH.cons (o := { dst := none, op := Go.Op.store 36 (Go.Operand.tmp 3) (Go.Operand.tmp 17), type := 0, pos := "l12_world.go:81", after := #[{ on := 11, ground := Go.Ground.data }, { on := 10, ground := Go.Ground.data }, { on := 9, ground := Go.Ground.chain }, { on := 0, ground := Go.Ground.phase }, { on := 1, ground := Go.Ground.phase }, { on := 2, ground := Go.Ground.phase }, { on := 3, ground := Go.Ground.phase }, { on := 4, ground := Go.Ground.phase }, { on := 5, ground := Go.Ground.phase }, { on := 6, ground := Go.Ground.phase }, { on := 7, ground := Go.Ground.phase }, { on := 8, ground := Go.Ground.phase }, { on := 9, ground := Go.Ground.phase }, { on := 10, ground := Go.Ground.phase }, { on := 11, ground := Go.Ground.phase }], guard := none }) rfl (fun K hK => ?_) AllReadyH.nil
        have hzD := hHeld.size
        have r0 := Box.at (unhide HG) 0 _ rfl
        have r1 := Box.at (unhide HG) 1 _ rfl
        have r2 := Box.at (unhide HG) 2 _ rfl
        have r3 := Box.at (unhide HG) 3 _ rfl
        have r4 := Box.at (unhide HG) 4 _ rfl
        have r5 := Box.at (unhide HG) 5 _ rfl
        have r6 := Box.at (unhide HG) 6 _ rfl
        simp only [List.getElem_toArray, List.getElem_cons_zero, List.getElem_cons_succ] at r0 r1 r2 r3 r4 r5 r6
        have rf := Box.soft (unhide HG)
        have rl := (unhide HG).lt
        go_simp
        refine hK.out _ _ (Below.setCell (Below.setCell (Below.setCell (Below.setCell (Below.setCell (Below.setCell (Below.setCell hHeld (p := ⟨u6.heap.size, 0, none⟩) (by simp only []; omega) (.int .i64 x.now)) (p := ⟨u6.heap.size, 1, none⟩) (by simp only []; omega) (.int .i64 x.events)) (p := ⟨u6.heap.size, 2, none⟩) (by simp only []; omega) (.int .i64 x.chain.epoch)) (p := ⟨u6.heap.size, 3, none⟩) (by simp only []; omega) (.slice a3q x.chain.ids.length c3q)) (p := ⟨u6.heap.size, 4, none⟩) (by simp only []; omega) (.slice none 0 0)) (p := ⟨u6.heap.size, 5, none⟩) (by simp only []; omega) (.slice a5q x.msgs.length c5q)) (p := ⟨u6.heap.size, 6, none⟩) (by simp only []; omega) (.slice none 0 0)) (fun hHeld => ?_)
        clear hK K
        try simp only [Act.put, List.setIfInBounds_toArray, List.set_cons_zero, List.set_cons_succ]
        refine wpAnyH_done (by kernel_rfl) ?_ _
        refine NoPanic.normal ?_
        go_wp2_with fail
        go_meet
        have hbx := box_set7Z (unhide HG) (.int .i64 x.now) (.int .i64 x.events) (.int .i64 x.chain.epoch) (.slice a3q x.chain.ids.length c3q) (.slice none 0 0) (.slice a5q x.msgs.length c5q) (.slice none 0 0)
        have e1 : Ext (fun q => q = u6.heap.size) u9 (setAll u9 u6.heap.size 0 [.int .i64 x.now, .int .i64 x.events, .int .i64 x.chain.epoch, .slice a3q x.chain.ids.length c3q, .slice none 0 0, .slice a5q x.msgs.length c5q, .slice none 0 0]) := ext_setAll _ (Ext.refl _ _) _ _ _ rfl
        have hss : (setAll u9 u6.heap.size 0 [.int .i64 x.now, .int .i64 x.events, .int .i64 x.chain.epoch, .slice a3q x.chain.ids.length c3q, .slice none 0 0, .slice a5q x.msgs.length c5q, .slice none 0 0]).heap.size = u9.heap.size := size_setAll _ _ _ _
        have C3 := ((clear_of (g := u6.heap.size) O3.lies (by omega)).ext e1 (fun k h1 h2 h3 h4 => h3 h4)).wide (lo' := W0.heap.size) (hi' := (setAll u9 u6.heap.size 0 [.int .i64 x.now, .int .i64 x.events, .int .i64 x.chain.epoch, .slice a3q x.chain.ids.length c3q, .slice none 0 0, .slice a5q x.msgs.length c5q, .slice none 0 0]).heap.size) (by omega) (by omega)
        have C5 := ((clear_of (g := u6.heap.size) O5 (by omega)).ext e1 (fun k h1 h2 h3 h4 => h3 h4)).wide (lo' := W0.heap.size) (hi' := (setAll u9 u6.heap.size 0 [.int .i64 x.now, .int .i64 x.events, .int .i64 x.chain.epoch, .slice a3q x.chain.ids.length c3q, .slice none 0 0, .slice a5q x.msgs.length c5q, .slice none 0 0]).heap.size) (by omega) (by omega)
        exact ⟨_, u6.heap.size, _, _, rfl, rfl, hbx, C3, C5, by omega, hHeld⟩
    case oe11_9 =>
      have HG : Hid (Box 0 #[.int .i64 0, .int .i64 0, .int .i64 0, .slice none 0 0, .slice none 0 0, .slice none 0 0, .slice none 0 0] 36 (wD.alloc (.cells #[.int .i64 0, .int .i64 0, .int .i64 0, .slice none 0 0, .slice none 0 0, .slice none 0 0, .slice none 0 0] 36)) wD.heap.size) := newBox (Nat.zero_le _)
      have hza : wD.heap.size < (wD.alloc (.cells #[.int .i64 0, .int .i64 0, .int .i64 0, .slice none 0 0, .slice none 0 0, .slice none 0 0, .slice none 0 0] 36)).heap.size := by simp
      have nba : Below wD.heap.size wD (wD.alloc (.cells #[.int .i64 0, .int .i64 0, .int .i64 0, .slice none 0 0, .slice none 0 0, .slice none 0 0, .slice none 0 0] 36)) := (Below.refl _ _).alloc (Nat.le_refl _) _
      go_simp
      refine hK.out _ _ (hHeld.alloc hHeld.size _) (fun hHeld => ?_)
      clear hK K
      try simp only [Act.put, List.setIfInBounds_toArray, List.set_cons_zero, List.set_cons_succ]
      refine wpAnyH_ready (rs := [6]) (by kernel_rfl) (by simp) ?_
      refine AllReadyH.cons (o := { dst := some 13, op := Go.Op.call { callee := Go.Callee.value (Go.Operand.func 186), args := #[Go.Operand.tmp 12], argTypes := #[31] }, type := 31, pos := "l12_world.go:81", after := #[{ on := 5, ground := Go.Ground.data }], guard := none }) rfl (fun K hK => ?_) AllReadyH.nil
      go_simp
      go_at_call 186
      refine (l10CopyC _ x.chain _ ((unhide HRC).later hHeld) (unhide HN3)).mono ?_
      rintro e u6 ⟨a3q, c3q, rfl, O3, hb6⟩
      have hz6 : (wD.alloc (.cells #[.int .i64 0, .int .i64 0, .int .i64 0, .slice none 0 0, .slice none 0 0, .slice none 0 0, .slice none 0 0] 36)).heap.size ≤ u6.heap.size := hb6.size
      have HG6 := hide ((unhide HG).keep hb6)
      clear HG
      have HG := HG6
      clear HG6
      try go_wp2_with fail
      refine hK.out _ _ (hHeld.trans (hb6.mono hHeld.size)) (fun hHeld => ?_)
      clear hK K
      try simp only [Act.put, List.setIfInBounds_toArray, List.set_cons_zero, List.set_cons_succ]
      refine wpAnyH_ready (rs := [9]) (by kernel_rfl) (by simp) ?_
      refine AllReadyH.cons (o := { dst := some 16, op := Go.Op.call { callee := Go.Callee.value (Go.Operand.func 161), args := #[Go.Operand.tmp 15], argTypes := #[33] }, type := 33, pos := "l12_world.go:81", after := #[{ on := 8, ground := Go.Ground.data }, { on := 6, ground := Go.Ground.chain }], guard := none }) rfl (fun K hK => ?_) AllReadyH.nil
      go_simp
      go_at_call 161
      refine (mcopyC _ x.msgs _ ((unhide HRM).later hHeld) (unhide HN5).1 (unhide HN5).2).mono ?_
      rintro e u9 ⟨v5, rfl, ⟨rows, bls, G9, hs9⟩, hb9⟩
      have hz9 : u6.heap.size ≤ u9.heap.size := hb9.size
      obtain ⟨a5q, c5q, rfl⟩ := own_shape G9.own
      have O5 := G9.toLies (by have := (unhide HN5).1; omega) hs9
      have HG9 := hide ((unhide HG).keep hb9)
      clear HG
      have HG := HG9
      clear HG9
      replace O3 := O3.later hb9
      try go_wp2_with fail
      refine hK.out _ _ (hHeld.trans (hb9.mono hHeld.size)) (fun hHeld => ?_)
      clear hK K
      try simp only [Act.put, List.setIfInBounds_toArray, List.set_cons_zero, List.set_cons_succ]
      refine wpAnyH_take (i := 10) (oi := { dst := some 17, op := Go.Op.build 36 #[(0, Go.Operand.tmp 8), (1, Go.Operand.tmp 10), (2, Go.Operand.tmp 13), (4, Go.Operand.tmp 16)], type := 36, pos := "l12_world.go:81", after := #[{ on := 1, ground := Go.Ground.data }, { on := 3, ground := Go.Ground.data }, { on := 6, ground := Go.Ground.data }, { on := 9, ground := Go.Ground.data }], guard := none }) (v := ?ve10_13) rfl (by kernel_rfl) (by kernel_rfl) (by kernel_rfl) (fun _ _ _ h => h) (Or.inl ⟨by rfl, ?he10_13⟩) hHeld ?re10_13
      case he10_13 =>
        intro wS hSw
        (try dsimp only at hSw)
        go_simp
        try with_reducible rfl
      case re10_13 =>
      simp only [Act.put, List.setIfInBounds_toArray, List.set_cons_zero, List.set_cons_succ]
      refine wpAnyH_ready (rs := [12]) (by kernel_rfl) (by simp) ?_
      refine AllReadyH.cons (o := { dst := none, op := Go.Op.store 36 (Go.Operand.tmp 3) (Go.Operand.tmp 17), type := 0, pos := "l12_world.go:81", after := #[{ on := 11, ground := Go.Ground.data }, { on := 10, ground := Go.Ground.data }, { on := 9, ground := Go.Ground.chain }, { on := 0, ground := Go.Ground.phase }, { on := 1, ground := Go.Ground.phase }, { on := 2, ground := Go.Ground.phase }, { on := 3, ground := Go.Ground.phase }, { on := 4, ground := Go.Ground.phase }, { on := 5, ground := Go.Ground.phase }, { on := 6, ground := Go.Ground.phase }, { on := 7, ground := Go.Ground.phase }, { on := 8, ground := Go.Ground.phase }, { on := 9, ground := Go.Ground.phase }, { on := 10, ground := Go.Ground.phase }, { on := 11, ground := Go.Ground.phase }], guard := none }) rfl (fun K hK => ?_) AllReadyH.nil
      have hzD := hHeld.size
      have r0 := Box.at (unhide HG) 0 _ rfl
      have r1 := Box.at (unhide HG) 1 _ rfl
      have r2 := Box.at (unhide HG) 2 _ rfl
      have r3 := Box.at (unhide HG) 3 _ rfl
      have r4 := Box.at (unhide HG) 4 _ rfl
      have r5 := Box.at (unhide HG) 5 _ rfl
      have r6 := Box.at (unhide HG) 6 _ rfl
      simp only [List.getElem_toArray, List.getElem_cons_zero, List.getElem_cons_succ] at r0 r1 r2 r3 r4 r5 r6
      have rf := Box.soft (unhide HG)
      have rl := (unhide HG).lt
      go_simp
      refine hK.out _ _ (Below.setCell (Below.setCell (Below.setCell (Below.setCell (Below.setCell (Below.setCell (Below.setCell hHeld (p := ⟨wD.heap.size, 0, none⟩) (by simp only []; omega) (.int .i64 x.now)) (p := ⟨wD.heap.size, 1, none⟩) (by simp only []; omega) (.int .i64 x.events)) (p := ⟨wD.heap.size, 2, none⟩) (by simp only []; omega) (.int .i64 x.chain.epoch)) (p := ⟨wD.heap.size, 3, none⟩) (by simp only []; omega) (.slice a3q x.chain.ids.length c3q)) (p := ⟨wD.heap.size, 4, none⟩) (by simp only []; omega) (.slice none 0 0)) (p := ⟨wD.heap.size, 5, none⟩) (by simp only []; omega) (.slice a5q x.msgs.length c5q)) (p := ⟨wD.heap.size, 6, none⟩) (by simp only []; omega) (.slice none 0 0)) (fun hHeld => ?_)
      clear hK K
      try simp only [Act.put, List.setIfInBounds_toArray, List.set_cons_zero, List.set_cons_succ]
      refine wpAnyH_done (by kernel_rfl) ?_ _
      refine NoPanic.normal ?_
      go_wp2_with fail
      go_meet
      have hbx := box_set7Z (unhide HG) (.int .i64 x.now) (.int .i64 x.events) (.int .i64 x.chain.epoch) (.slice a3q x.chain.ids.length c3q) (.slice none 0 0) (.slice a5q x.msgs.length c5q) (.slice none 0 0)
      have e1 : Ext (fun q => q = wD.heap.size) u9 (setAll u9 wD.heap.size 0 [.int .i64 x.now, .int .i64 x.events, .int .i64 x.chain.epoch, .slice a3q x.chain.ids.length c3q, .slice none 0 0, .slice a5q x.msgs.length c5q, .slice none 0 0]) := ext_setAll _ (Ext.refl _ _) _ _ _ rfl
      have hss : (setAll u9 wD.heap.size 0 [.int .i64 x.now, .int .i64 x.events, .int .i64 x.chain.epoch, .slice a3q x.chain.ids.length c3q, .slice none 0 0, .slice a5q x.msgs.length c5q, .slice none 0 0]).heap.size = u9.heap.size := size_setAll _ _ _ _
      have C3 := ((clear_of (g := wD.heap.size) O3.lies (by omega)).ext e1 (fun k h1 h2 h3 h4 => h3 h4)).wide (lo' := W0.heap.size) (hi' := (setAll u9 wD.heap.size 0 [.int .i64 x.now, .int .i64 x.events, .int .i64 x.chain.epoch, .slice a3q x.chain.ids.length c3q, .slice none 0 0, .slice a5q x.msgs.length c5q, .slice none 0 0]).heap.size) (by omega) (by omega)
      have C5 := ((clear_of (g := wD.heap.size) O5 (by omega)).ext e1 (fun k h1 h2 h3 h4 => h3 h4)).wide (lo' := W0.heap.size) (hi' := (setAll u9 wD.heap.size 0 [.int .i64 x.now, .int .i64 x.events, .int .i64 x.chain.epoch, .slice a3q x.chain.ids.length c3q, .slice none 0 0, .slice a5q x.msgs.length c5q, .slice none 0 0]).heap.size) (by omega) (by omega)
      exact ⟨_, wD.heap.size, _, _, rfl, rfl, hbx, C3, C5, by omega, hHeld⟩
  case rest =>
    obtain ⟨W1, g, v3, v5, hW, rfl, hg, hC3, hC5, hgl, hB1⟩ := hcut
    subst hW
    obtain ⟨a3q, c3q, rfl⟩ := open_sl hC3.reads
    obtain ⟨a5q, c5q, rfl⟩ := open_sl hC5.reads
    have HC3 := hide hC3
    have HC5 := hide hC5
    have HG1 := hide hg
    have HB1 := hide hB1
    have hgB := hg.lt
    have hz1 := hB1.size
    clear hC3 hC5 hg hB1 HRC HRM HN3 HN5
    go_wp2_with fail
    go_loopw [4] (fun i wr => ∃ (k : Nat) (an : Option Addr) (mn cn : Nat) (rows : List (List Value)) (bls : List (List Nat)), k ≤ x.nodes.length ∧ i = .int .i64 (k : Int) ∧ Box 0 #[.int .i64 x.now, .int .i64 x.events, .int .i64 x.chain.epoch, .slice a3q x.chain.ids.length c3q, .slice an mn cn, .slice a5q x.msgs.length c5q, .slice none 0 0] 36 wr g ∧ Grow Lay.tNode wr W1.heap.size 63 (.slice an mn cn) rows (x.nodes.take k) bls ∧ (∀ c ∈ bls.flatten, W1.heap.size ≤ c) ∧ Ext (fun q => q = g ∨ W1.heap.size ≤ q) W1 wr) (fun i _ => x.nodes.length - (intOf i).toNat)
    case atStart => exact ⟨0, none, 0, 0, [], [], Nat.zero_le _, rfl, unhide HG1, Grow.nil (World.ownsRow_nil _ _ _ _), by simp, Ext.refl _ _⟩
    case round =>
      obtain ⟨k, an, mn, cn, rows, bls, hk, rfl, hN, hG, hS, hE⟩ := hrel
      have hBr : Below W0.heap.size W0 wr := (unhide HB1).trans (hE.below hz1 (fun k hk q => by rcases q with q | q <;> omega))
      have hx := box_lowW (unhide HX) hBr (by omega)
      have z4 := Box.at (unhide HX) 4 _ rfl
      have y4 := Box.at hx 4 _ rfl
      have y5 := Box.at hx 5 _ rfl
      simp only [List.getElem_toArray, List.getElem_cons_zero, List.getElem_cons_succ] at z4 y4 y5
      have hxl := (unhide HX).lt
      have hxr := hx.lt
      have hnb := (unhide HRN).big
      by_cases hlt : k < x.nodes.length
      · obtain ⟨row, hcl, hr⟩ := Lay.row_at (unhide HRN) hlt
        have hn := nodeFault_zero ((unhide HOK).nodes k hlt).1
        have HL : Hid (∀ V, Below W0.heap.size W0 V → Calls Tryz.prog 100 #[.agg row.toArray] V fun e w' => ∃ a6 d6 rows bls, e = .returned (.agg #[.int .i64 x.nodes[k].id, .bool x.nodes[k].up, .int .i64 x.nodes[k].epoch, .int .i64 x.nodes[k].lease, .slice a6 x.nodes[k].writes.length d6, .int .i64 x.nodes[k].sure, .int .i64 x.nodes[k].clean]) ∧ Grow Lay.tWrite w' V.heap.size 94 (.slice a6 x.nodes[k].writes.length d6) rows x.nodes[k].writes bls ∧ (∀ c ∈ bls.flatten, V.heap.size ≤ c) ∧ Below V.heap.size V w') := fun V hV => ncopyG _ x.nodes[k] V (hr.later hV) (by have := hn.len; omega) (node_vecs9 hn)
        have HW6 : Hid (x.nodes[k].writes.length ≤ 40 ∧ wfM x.nodes[k]) := by
          obtain ⟨_, hq⟩ := hr
          obtain ⟨_, _, _, -, -, q0, q1, q2, -, q3, q4⟩ := lies_Node.1 hq
          exact ⟨hn.len, q0, q1, q2, q3, q4⟩
        obtain ⟨aw, dw, rfl, -⟩ := open_Node hr
        have x0 : W0.cell? ⟨b, off + k * 7, none⟩ = some (.int .i64 (x.nodes[k]).id) := hcl 0 (by decide)
        have x1 : W0.cell? ⟨b, off + k * 7 + 1, none⟩ = some (.bool (x.nodes[k]).up) := hcl 1 (by decide)
        have x2 : W0.cell? ⟨b, off + k * 7 + 2, none⟩ = some (.int .i64 (x.nodes[k]).epoch) := hcl 2 (by decide)
        have x3 : W0.cell? ⟨b, off + k * 7 + 3, none⟩ = some (.int .i64 (x.nodes[k]).lease) := hcl 3 (by decide)
        have x4 : W0.cell? ⟨b, off + k * 7 + 4, none⟩ = some (.slice aw (x.nodes[k]).writes.length dw) := hcl 4 (by decide)
        have x5 : W0.cell? ⟨b, off + k * 7 + 5, none⟩ = some (.int .i64 (x.nodes[k]).sure) := hcl 5 (by decide)
        have x6 : W0.cell? ⟨b, off + k * 7 + 6, none⟩ = some (.int .i64 (x.nodes[k]).clean) := hcl 6 (by decide)
        have HT : Hid (x.nodes.take (k + 1) = x.nodes.take k ++ [x.nodes[k]]) := List.take_succ_eq_append_getElem hlt
        have HLn : Hid ((x.nodes.take k).length = k) := by show (x.nodes.take k).length = k; rw [List.length_take]; omega
        have hki : (k : Int) < (x.nodes.length : Int) := by omega
        have hdl : decide ((k : Int) < (x.nodes.length : Int)) = true := by simpa using hki
        have HBr := hide hBr
        have HS := hide hS
        have hND := hN.drew
        have hGD : Grow Lay.tNode wr.drew W1.heap.size 63 (.slice an mn cn) rows (x.nodes.take k) bls := hG.later (below_drawn (Below.refl _ _) 1)
        have hED : Ext (fun q => q = g ∨ W1.heap.size ≤ q) W1 wr.drew := hE.drew 1
        have hzD : W1.heap.size ≤ wr.drew.heap.size := hE.size
        clear hcl hr hn hx y5 hBr hS hN hG hE HG1 HC3 HC5 HX HY HRE HF HB
        generalize hnn : x.nodes[k] = n at *
        clear hnn
        generalize hxs : x.nodes.take k = xs at *
        clear hxs
        go_upto_region 5 with fail
        clear y4
        refine wp_region_noPanic ?_
        refine wp_region_held_drew (S := fun w' => Below W0.heap.size W0 w') (by kernel_rfl) ((unhide HBr).drew) (fun hHeld => ?_)
        generalize wr.drew = wD at hHeld hND hGD hED hzD ⊢
        refine wpAnyH_take (i := 0) (oi := { dst := some 25, op := Go.Op.fieldAddr 36 (Go.Operand.tmp 3) 3, type := 0, pos := "l12_world.go:83", after := #[], guard := none }) (v := ?vn0_1) rfl (by kernel_rfl) (by kernel_rfl) (by kernel_rfl) (fun _ _ _ h => h) (Or.inl ⟨by rfl, ?hn0_1⟩) hHeld ?rn0_1
        case hn0_1 =>
          intro wS hSw
          (try dsimp only at hSw)
          go_simp
          try with_reducible rfl
        case rn0_1 =>
        simp only [Act.put, List.setIfInBounds_toArray, List.set_cons_zero, List.set_cons_succ]
        refine wpAnyH_take (i := 2) (oi := { dst := some 27, op := Go.Op.fieldAddr 36 (Go.Operand.tmp 1) 3, type := 0, pos := "l12_world.go:83", after := #[], guard := none }) (v := ?vn2_2) rfl (by kernel_rfl) (by kernel_rfl) (by kernel_rfl) (fun _ _ _ h => h) (Or.inl ⟨by rfl, ?hn2_2⟩) hHeld ?rn2_2
        case hn2_2 =>
          intro wS hSw
          (try dsimp only at hSw)
          go_simp
          try with_reducible rfl
        case rn2_2 =>
        simp only [Act.put, List.setIfInBounds_toArray, List.set_cons_zero, List.set_cons_succ]
        refine wpAnyH_take (i := 3) (oi := { dst := some 28, op := Go.Op.load 32 (Go.Operand.tmp 27), type := 32, pos := "l12_world.go:83", after := #[{ on := 2, ground := Go.Ground.data }], guard := none }) (v := ?vn3_3) rfl (by kernel_rfl) (by kernel_rfl) (by kernel_rfl) (fun _ _ _ h => h) (Or.inl ⟨by rfl, ?hn3_3⟩) hHeld ?rn3_3
        case hn3_3 =>
          intro wS hSw
          have q4 := (hSw.cell (p := ⟨w.heap.size, 4, none⟩) hxl).trans z4
          clear hSw
          (try dsimp only at hSw)
          go_simp
          try with_reducible rfl
        case rn3_3 =>
        simp only [Act.put, List.setIfInBounds_toArray, List.set_cons_zero, List.set_cons_succ]
        refine wpAnyH_take (i := 4) (oi := { dst := some 29, op := Go.Op.move (Go.Operand.tmp 4), type := 3, pos := "l12_world.go:83", after := #[], guard := none }) (v := ?vn4_4) rfl (by kernel_rfl) (by kernel_rfl) (by kernel_rfl) (fun _ _ _ h => h) (Or.inl ⟨by rfl, ?hn4_4⟩) hHeld ?rn4_4
        case hn4_4 =>
          intro wS hSw
          (try dsimp only at hSw)
          go_simp
          try with_reducible rfl
        case rn4_4 =>
        simp only [Act.put, List.setIfInBounds_toArray, List.set_cons_zero, List.set_cons_succ]
        refine wpAnyH_take (i := 5) (oi := { dst := some 30, op := Go.Op.indexAddr 32 (Go.Operand.tmp 28) (Go.Operand.tmp 29), type := 0, pos := "l12_world.go:83", after := #[{ on := 3, ground := Go.Ground.data }, { on := 4, ground := Go.Ground.data }], guard := none }) (v := ?vn5_5) rfl (by kernel_rfl) (by kernel_rfl) (by kernel_rfl) (fun _ _ _ h => h) (Or.inl ⟨by rfl, ?hn5_5⟩) hHeld ?rn5_5
        case hn5_5 =>
          intro wS hSw
          (try dsimp only at hSw)
          go_simp
          try with_reducible rfl
        case rn5_5 =>
        simp only [Act.put, List.setIfInBounds_toArray, List.set_cons_zero, List.set_cons_succ]
        refine wpAnyH_take (i := 6) (oi := { dst := some 31, op := Go.Op.load 63 (Go.Operand.tmp 30), type := 63, pos := "l12_world.go:83", after := #[{ on := 5, ground := Go.Ground.data }], guard := none }) (v := ?vn6_6) rfl (by kernel_rfl) (by kernel_rfl) (by kernel_rfl) (fun _ _ _ h => h) (Or.inl ⟨by rfl, ?hn6_6⟩) hHeld ?rn6_6
        case hn6_6 =>
          intro wS hSw
          have q0 := (hSw.cell (p := ⟨b, off + k * 7, none⟩) hbl0).trans x0
          have q1 := (hSw.cell (p := ⟨b, off + k * 7 + 1, none⟩) hbl0).trans x1
          have q2 := (hSw.cell (p := ⟨b, off + k * 7 + 2, none⟩) hbl0).trans x2
          have q3 := (hSw.cell (p := ⟨b, off + k * 7 + 3, none⟩) hbl0).trans x3
          have q4 := (hSw.cell (p := ⟨b, off + k * 7 + 4, none⟩) hbl0).trans x4
          have q5 := (hSw.cell (p := ⟨b, off + k * 7 + 5, none⟩) hbl0).trans x5
          have q6 := (hSw.cell (p := ⟨b, off + k * 7 + 6, none⟩) hbl0).trans x6
          clear hSw
          (try dsimp only at hSw)
          go_simp
          try with_reducible rfl
        case rn6_6 =>
        simp only [Act.put, List.setIfInBounds_toArray, List.set_cons_zero, List.set_cons_succ]
        refine wpAnyH_ready (rs := [1, 7]) (by kernel_rfl) (by simp) ?_
        refine AllReadyH.cons (o := { dst := some 26, op := Go.Op.load 32 (Go.Operand.tmp 25), type := 32, pos := "l12_world.go:83", after := #[{ on := 0, ground := Go.Ground.data }], guard := none }) rfl (fun K hK => ?on1_7) (AllReadyH.cons (o := { dst := some 32, op := Go.Op.call { callee := Go.Callee.value (Go.Operand.func 100), args := #[Go.Operand.tmp 31], argTypes := #[63] }, type := 63, pos := "l12_world.go:83", after := #[{ on := 6, ground := Go.Ground.data }], guard := none }) rfl (fun K hK => ?on7_7) (AllReadyH.nil))
        case on1_7 =>
          have u4 := Box.at hND 4 _ rfl
          simp only [List.getElem_toArray, List.getElem_cons_zero, List.getElem_cons_succ] at u4
          go_simp
          try go_wp2_with fail
          refine hK.out _ _ hHeld (fun hHeld => ?_)
          clear hK K
          try simp only [Act.put, List.setIfInBounds_toArray, List.set_cons_zero, List.set_cons_succ]
          refine wpAnyH_ready (rs := [7]) (by kernel_rfl) (by simp) ?_
          refine AllReadyH.cons (o := { dst := some 32, op := Go.Op.call { callee := Go.Callee.value (Go.Operand.func 100), args := #[Go.Operand.tmp 31], argTypes := #[63] }, type := 63, pos := "l12_world.go:83", after := #[{ on := 6, ground := Go.Ground.data }], guard := none }) rfl (fun K hK => ?_) AllReadyH.nil
          go_simp
          go_at_call 100
          refine (unhide HL _ hHeld).mono ?_
          rintro e u7 ⟨aq, dq, rws, bw, rfl, Gw, hsw, hb7⟩
          have hN7 := hND.keep hb7
          have hG7 := hGD.later hb7
          have hE7 := hED.trans (ext_of_below hb7 _)
          have hz7 := hb7.size
          have hH7 := hHeld.trans (hb7.mono hHeld.size)
          obtain ⟨blw, hlw, hbw⟩ := Gw.toLies (by have := (unhide HW6).1; omega) hsw
          have hoff : ∀ c ∈ blw, (Value.slice an mn cn).ownBlock ≠ some c := fun c hc e => by
            have h1 := (hbw c hc).1
            have h2 := (hGD.own.lt c e).2
            omega
          clear Gw hsw
          try go_wp2_with fail
          refine hK.out _ _ hH7 (fun hHeld => ?_)
          clear hK K
          try simp only [Act.put, List.setIfInBounds_toArray, List.set_cons_zero, List.set_cons_succ]
          refine wpAnyH_ready (rs := [8]) (by kernel_rfl) (by simp) ?_
          refine AllReadyH.cons (o := { dst := some 33, op := Go.Op.buildSlice 32 1 #[(0, Go.Operand.tmp 32)], type := 32, pos := "l12_world.go:83", after := #[{ on := 7, ground := Go.Ground.data }], guard := none }) rfl (fun K hK => ?_) AllReadyH.nil
          have nb8 : Below u7.heap.size u7 (u7.alloc (.cells #[.int .i64 n.id, .bool n.up, .int .i64 n.epoch, .int .i64 n.lease, .slice aq n.writes.length dq, .int .i64 n.sure, .int .i64 n.clean] 63)) := (Below.refl _ _).alloc (Nat.le_refl _) _
          have hN8 := hN7.keep nb8
          go_simp
          try go_wp2_with fail
          refine hK.out _ _ (hHeld.alloc hHeld.size _) (fun hHeld => ?_)
          clear hK K
          try simp only [Act.put, List.setIfInBounds_toArray, List.set_cons_zero, List.set_cons_succ]
          refine wpAnyH_ready (rs := [9]) (by kernel_rfl) (by simp) ?_
          refine AllReadyH.cons (o := { dst := some 34, op := Go.Op.call { callee := Go.Callee.builtin Go.Builtin.append, args := #[Go.Operand.tmp 26, Go.Operand.tmp 33], argTypes := #[32, 32] }, type := 32, pos := "l12_world.go:83", after := #[{ on := 1, ground := Go.Ground.data }, { on := 8, ground := Go.Ground.data }, { on := 7, ground := Go.Ground.chain }], guard := none }) rfl (fun K hK => ?_) AllReadyH.nil
          refine step_append_Node hG7 (lies_Node.2 ⟨aq, dq, blw, rfl, rfl, (unhide HW6).2.1, (unhide HW6).2.2.1, (unhide HW6).2.2.2.1, hlw, (unhide HW6).2.2.2.2.1, (unhide HW6).2.2.2.2.2⟩) hoff rfl _ _ rfl rfl rfl (by have := unhide HLn; have := (unhide HOK).some; omega) (by omega) ?_
          intro gq cap u9 hG9 hb9 hE9 hg9 hz9 hor9
          have hN9 := hN7.ext hE9 (fun e => by have := (hG7.own.lt g e).1; omega)
          have u9c := Box.at hN9 4 _ rfl
          simp only [List.getElem_toArray, List.getElem_cons_zero, List.getElem_cons_succ] at u9c
          have uf := Box.soft hN9
          have ul := Box.lt hN9
          refine hK.out _ _ (hH7.trans (hb9.mono (by omega))) (fun hHeld => ?_)
          clear hK K
          try simp only [Act.put, List.setIfInBounds_toArray, List.set_cons_zero, List.set_cons_succ]
          refine wpAnyH_take (i := 10) (oi := { dst := some 35, op := Go.Op.fieldAddr 36 (Go.Operand.tmp 3) 3, type := 0, pos := "l12_world.go:83", after := #[{ on := 0, ground := Go.Ground.phase }, { on := 1, ground := Go.Ground.phase }, { on := 2, ground := Go.Ground.phase }, { on := 3, ground := Go.Ground.phase }, { on := 4, ground := Go.Ground.phase }, { on := 5, ground := Go.Ground.phase }, { on := 6, ground := Go.Ground.phase }, { on := 7, ground := Go.Ground.phase }, { on := 8, ground := Go.Ground.phase }, { on := 9, ground := Go.Ground.phase }], guard := none }) (v := ?vn10_8) rfl (by kernel_rfl) (by kernel_rfl) (by kernel_rfl) (fun _ _ _ h => h) (Or.inl ⟨by rfl, ?hn10_8⟩) hHeld ?rn10_8
          case hn10_8 =>
            intro wS hSw
            (try dsimp only at hSw)
            go_simp
            try with_reducible rfl
          case rn10_8 =>
          simp only [Act.put, List.setIfInBounds_toArray, List.set_cons_zero, List.set_cons_succ]
          refine wpAnyH_ready (rs := [11]) (by kernel_rfl) (by simp) ?_
          refine AllReadyH.cons (o := { dst := none, op := Go.Op.store 32 (Go.Operand.tmp 35) (Go.Operand.tmp 34), type := 0, pos := "l12_world.go:83", after := #[{ on := 10, ground := Go.Ground.data }, { on := 9, ground := Go.Ground.data }, { on := 9, ground := Go.Ground.chain }, { on := 0, ground := Go.Ground.phase }, { on := 1, ground := Go.Ground.phase }, { on := 2, ground := Go.Ground.phase }, { on := 3, ground := Go.Ground.phase }, { on := 4, ground := Go.Ground.phase }, { on := 5, ground := Go.Ground.phase }, { on := 6, ground := Go.Ground.phase }, { on := 7, ground := Go.Ground.phase }, { on := 8, ground := Go.Ground.phase }, { on := 9, ground := Go.Ground.phase }], guard := none }) rfl (fun K hK => ?_) AllReadyH.nil
          go_simp
          try go_wp2_with fail
          refine hK.out _ _ (Below.setCell hHeld (p := ⟨g, 4, none⟩) (by simp only []; omega) _) (fun hHeld => ?_)
          clear hK K
          try simp only [Act.put, List.setIfInBounds_toArray, List.set_cons_zero, List.set_cons_succ]
          refine wpAnyH_done (by kernel_rfl) ?_ _
          refine NoPanic.normal ?_
          have e10 : Ext (fun q => q = g) u9 (u9.setCell ⟨g, 4, none⟩ (.slice (some ⟨gq, 0, none⟩) (xs.length + 1) cap)) := (Ext.refl (fun q => q = g) _).setCell ⟨g, 4, none⟩ _ rfl
          have hlow : ∀ c ∈ (bls ++ [blw]).flatten, W1.heap.size ≤ c := by
            intro c hc
            rw [List.flatten_append] at hc
            rcases List.mem_append.1 hc with hc | hc
            · exact unhide HS c hc
            · have := (hbw c (by simpa using hc)).1; omega
          have hN10 := Box.set hN9 4 (.slice (some ⟨gq, 0, none⟩) (xs.length + 1) cap)
          simp only [List.setIfInBounds_toArray, List.set_cons_zero, List.set_cons_succ] at hN10
          have hown9 : ∀ q, (Value.slice (some ⟨gq, 0, none⟩) (xs.length + 1) cap).ownBlock = some q → ¬ q = g := fun q hq e => by
            have := (hG9.own.lt q hq).1
            omega
          have hG10 := grow_keepW hG9 e10 (fun c hc e => by have := hlow c hc; omega) hown9
          have hE10 := (hE7.trans (hE9.mono fun k _ h => Or.inr (by have := (hG7.own.lt k h).1; omega))).trans (e10.mono fun k _ h => Or.inl h)
          have HN10 := hide hN10
          have HG10 := hide hG10
          have HE10 := hide hE10
          have HLOW := hide hlow
          clear hHeld hND hGD hED hN7 hN8 hG7 hE7 hH7 hoff hlw hbw hG9 hb9 hE9 hN9 e10 hlow hN10 hown9 hG10 hE10 hor9 u4 u9c uf ul nb8 hb7
          go_wp2_with fail
          go_roundw
          case rel => exact ⟨k + 1, _, _, _, _, _, by omega, by go_num, unhide HN10, by rw [unhide HT]; exact unhide HG10, unhide HLOW, unhide HE10⟩
          case measure => simp [intOf]; omega
        case on7_7 =>
          go_simp
          go_at_call 100
          refine (unhide HL _ hHeld).mono ?_
          rintro e u7 ⟨aq, dq, rws, bw, rfl, Gw, hsw, hb7⟩
          have hN7 := hND.keep hb7
          have hG7 := hGD.later hb7
          have hE7 := hED.trans (ext_of_below hb7 _)
          have hz7 := hb7.size
          have hH7 := hHeld.trans (hb7.mono hHeld.size)
          obtain ⟨blw, hlw, hbw⟩ := Gw.toLies (by have := (unhide HW6).1; omega) hsw
          have hoff : ∀ c ∈ blw, (Value.slice an mn cn).ownBlock ≠ some c := fun c hc e => by
            have h1 := (hbw c hc).1
            have h2 := (hGD.own.lt c e).2
            omega
          clear Gw hsw
          try go_wp2_with fail
          refine hK.out _ _ hH7 (fun hHeld => ?_)
          clear hK K
          try simp only [Act.put, List.setIfInBounds_toArray, List.set_cons_zero, List.set_cons_succ]
          refine wpAnyH_ready (rs := [1, 8]) (by kernel_rfl) (by simp) ?_
          refine AllReadyH.cons (o := { dst := some 26, op := Go.Op.load 32 (Go.Operand.tmp 25), type := 32, pos := "l12_world.go:83", after := #[{ on := 0, ground := Go.Ground.data }], guard := none }) rfl (fun K hK => ?on1_9) (AllReadyH.cons (o := { dst := some 33, op := Go.Op.buildSlice 32 1 #[(0, Go.Operand.tmp 32)], type := 32, pos := "l12_world.go:83", after := #[{ on := 7, ground := Go.Ground.data }], guard := none }) rfl (fun K hK => ?on8_9) (AllReadyH.nil))
          case on1_9 =>
            have u4 := Box.at hN7 4 _ rfl
            simp only [List.getElem_toArray, List.getElem_cons_zero, List.getElem_cons_succ] at u4
            go_simp
            try go_wp2_with fail
            refine hK.out _ _ hHeld (fun hHeld => ?_)
            clear hK K
            try simp only [Act.put, List.setIfInBounds_toArray, List.set_cons_zero, List.set_cons_succ]
            refine wpAnyH_ready (rs := [8]) (by kernel_rfl) (by simp) ?_
            refine AllReadyH.cons (o := { dst := some 33, op := Go.Op.buildSlice 32 1 #[(0, Go.Operand.tmp 32)], type := 32, pos := "l12_world.go:83", after := #[{ on := 7, ground := Go.Ground.data }], guard := none }) rfl (fun K hK => ?_) AllReadyH.nil
            have nb8 : Below u7.heap.size u7 (u7.alloc (.cells #[.int .i64 n.id, .bool n.up, .int .i64 n.epoch, .int .i64 n.lease, .slice aq n.writes.length dq, .int .i64 n.sure, .int .i64 n.clean] 63)) := (Below.refl _ _).alloc (Nat.le_refl _) _
            have hN8 := hN7.keep nb8
            go_simp
            try go_wp2_with fail
            refine hK.out _ _ (hHeld.alloc hHeld.size _) (fun hHeld => ?_)
            clear hK K
            try simp only [Act.put, List.setIfInBounds_toArray, List.set_cons_zero, List.set_cons_succ]
            refine wpAnyH_ready (rs := [9]) (by kernel_rfl) (by simp) ?_
            refine AllReadyH.cons (o := { dst := some 34, op := Go.Op.call { callee := Go.Callee.builtin Go.Builtin.append, args := #[Go.Operand.tmp 26, Go.Operand.tmp 33], argTypes := #[32, 32] }, type := 32, pos := "l12_world.go:83", after := #[{ on := 1, ground := Go.Ground.data }, { on := 8, ground := Go.Ground.data }, { on := 7, ground := Go.Ground.chain }], guard := none }) rfl (fun K hK => ?_) AllReadyH.nil
            refine step_append_Node hG7 (lies_Node.2 ⟨aq, dq, blw, rfl, rfl, (unhide HW6).2.1, (unhide HW6).2.2.1, (unhide HW6).2.2.2.1, hlw, (unhide HW6).2.2.2.2.1, (unhide HW6).2.2.2.2.2⟩) hoff rfl _ _ rfl rfl rfl (by have := unhide HLn; have := (unhide HOK).some; omega) (by omega) ?_
            intro gq cap u9 hG9 hb9 hE9 hg9 hz9 hor9
            have hN9 := hN7.ext hE9 (fun e => by have := (hG7.own.lt g e).1; omega)
            have u9c := Box.at hN9 4 _ rfl
            simp only [List.getElem_toArray, List.getElem_cons_zero, List.getElem_cons_succ] at u9c
            have uf := Box.soft hN9
            have ul := Box.lt hN9
            refine hK.out _ _ (hH7.trans (hb9.mono (by omega))) (fun hHeld => ?_)
            clear hK K
            try simp only [Act.put, List.setIfInBounds_toArray, List.set_cons_zero, List.set_cons_succ]
            refine wpAnyH_take (i := 10) (oi := { dst := some 35, op := Go.Op.fieldAddr 36 (Go.Operand.tmp 3) 3, type := 0, pos := "l12_world.go:83", after := #[{ on := 0, ground := Go.Ground.phase }, { on := 1, ground := Go.Ground.phase }, { on := 2, ground := Go.Ground.phase }, { on := 3, ground := Go.Ground.phase }, { on := 4, ground := Go.Ground.phase }, { on := 5, ground := Go.Ground.phase }, { on := 6, ground := Go.Ground.phase }, { on := 7, ground := Go.Ground.phase }, { on := 8, ground := Go.Ground.phase }, { on := 9, ground := Go.Ground.phase }], guard := none }) (v := ?vn10_10) rfl (by kernel_rfl) (by kernel_rfl) (by kernel_rfl) (fun _ _ _ h => h) (Or.inl ⟨by rfl, ?hn10_10⟩) hHeld ?rn10_10
            case hn10_10 =>
              intro wS hSw
              (try dsimp only at hSw)
              go_simp
              try with_reducible rfl
            case rn10_10 =>
            simp only [Act.put, List.setIfInBounds_toArray, List.set_cons_zero, List.set_cons_succ]
            refine wpAnyH_ready (rs := [11]) (by kernel_rfl) (by simp) ?_
            refine AllReadyH.cons (o := { dst := none, op := Go.Op.store 32 (Go.Operand.tmp 35) (Go.Operand.tmp 34), type := 0, pos := "l12_world.go:83", after := #[{ on := 10, ground := Go.Ground.data }, { on := 9, ground := Go.Ground.data }, { on := 9, ground := Go.Ground.chain }, { on := 0, ground := Go.Ground.phase }, { on := 1, ground := Go.Ground.phase }, { on := 2, ground := Go.Ground.phase }, { on := 3, ground := Go.Ground.phase }, { on := 4, ground := Go.Ground.phase }, { on := 5, ground := Go.Ground.phase }, { on := 6, ground := Go.Ground.phase }, { on := 7, ground := Go.Ground.phase }, { on := 8, ground := Go.Ground.phase }, { on := 9, ground := Go.Ground.phase }], guard := none }) rfl (fun K hK => ?_) AllReadyH.nil
            go_simp
            try go_wp2_with fail
            refine hK.out _ _ (Below.setCell hHeld (p := ⟨g, 4, none⟩) (by simp only []; omega) _) (fun hHeld => ?_)
            clear hK K
            try simp only [Act.put, List.setIfInBounds_toArray, List.set_cons_zero, List.set_cons_succ]
            refine wpAnyH_done (by kernel_rfl) ?_ _
            refine NoPanic.normal ?_
            have e10 : Ext (fun q => q = g) u9 (u9.setCell ⟨g, 4, none⟩ (.slice (some ⟨gq, 0, none⟩) (xs.length + 1) cap)) := (Ext.refl (fun q => q = g) _).setCell ⟨g, 4, none⟩ _ rfl
            have hlow : ∀ c ∈ (bls ++ [blw]).flatten, W1.heap.size ≤ c := by
              intro c hc
              rw [List.flatten_append] at hc
              rcases List.mem_append.1 hc with hc | hc
              · exact unhide HS c hc
              · have := (hbw c (by simpa using hc)).1; omega
            have hN10 := Box.set hN9 4 (.slice (some ⟨gq, 0, none⟩) (xs.length + 1) cap)
            simp only [List.setIfInBounds_toArray, List.set_cons_zero, List.set_cons_succ] at hN10
            have hown9 : ∀ q, (Value.slice (some ⟨gq, 0, none⟩) (xs.length + 1) cap).ownBlock = some q → ¬ q = g := fun q hq e => by
              have := (hG9.own.lt q hq).1
              omega
            have hG10 := grow_keepW hG9 e10 (fun c hc e => by have := hlow c hc; omega) hown9
            have hE10 := (hE7.trans (hE9.mono fun k _ h => Or.inr (by have := (hG7.own.lt k h).1; omega))).trans (e10.mono fun k _ h => Or.inl h)
            have HN10 := hide hN10
            have HG10 := hide hG10
            have HE10 := hide hE10
            have HLOW := hide hlow
            clear hHeld hND hGD hED hN7 hN8 hG7 hE7 hH7 hoff hlw hbw hG9 hb9 hE9 hN9 e10 hlow hN10 hown9 hG10 hE10 hor9 u4 u9c uf ul nb8 hb7
            go_wp2_with fail
            go_roundw
            case rel => exact ⟨k + 1, _, _, _, _, _, by omega, by go_num, unhide HN10, by rw [unhide HT]; exact unhide HG10, unhide HLOW, unhide HE10⟩
            case measure => simp [intOf]; omega
          case on8_9 =>
            have nb8 : Below u7.heap.size u7 (u7.alloc (.cells #[.int .i64 n.id, .bool n.up, .int .i64 n.epoch, .int .i64 n.lease, .slice aq n.writes.length dq, .int .i64 n.sure, .int .i64 n.clean] 63)) := (Below.refl _ _).alloc (Nat.le_refl _) _
            have hN8 := hN7.keep nb8
            go_simp
            try go_wp2_with fail
            refine hK.out _ _ (hHeld.alloc hHeld.size _) (fun hHeld => ?_)
            clear hK K
            try simp only [Act.put, List.setIfInBounds_toArray, List.set_cons_zero, List.set_cons_succ]
            refine wpAnyH_ready (rs := [1]) (by kernel_rfl) (by simp) ?_
            refine AllReadyH.cons (o := { dst := some 26, op := Go.Op.load 32 (Go.Operand.tmp 25), type := 32, pos := "l12_world.go:83", after := #[{ on := 0, ground := Go.Ground.data }], guard := none }) rfl (fun K hK => ?_) AllReadyH.nil
            have u4 := Box.at hN8 4 _ rfl
            simp only [List.getElem_toArray, List.getElem_cons_zero, List.getElem_cons_succ] at u4
            go_simp
            try go_wp2_with fail
            refine hK.out _ _ hHeld (fun hHeld => ?_)
            clear hK K
            try simp only [Act.put, List.setIfInBounds_toArray, List.set_cons_zero, List.set_cons_succ]
            refine wpAnyH_ready (rs := [9]) (by kernel_rfl) (by simp) ?_
            refine AllReadyH.cons (o := { dst := some 34, op := Go.Op.call { callee := Go.Callee.builtin Go.Builtin.append, args := #[Go.Operand.tmp 26, Go.Operand.tmp 33], argTypes := #[32, 32] }, type := 32, pos := "l12_world.go:83", after := #[{ on := 1, ground := Go.Ground.data }, { on := 8, ground := Go.Ground.data }, { on := 7, ground := Go.Ground.chain }], guard := none }) rfl (fun K hK => ?_) AllReadyH.nil
            refine step_append_Node hG7 (lies_Node.2 ⟨aq, dq, blw, rfl, rfl, (unhide HW6).2.1, (unhide HW6).2.2.1, (unhide HW6).2.2.2.1, hlw, (unhide HW6).2.2.2.2.1, (unhide HW6).2.2.2.2.2⟩) hoff rfl _ _ rfl rfl rfl (by have := unhide HLn; have := (unhide HOK).some; omega) (by omega) ?_
            intro gq cap u9 hG9 hb9 hE9 hg9 hz9 hor9
            have hN9 := hN7.ext hE9 (fun e => by have := (hG7.own.lt g e).1; omega)
            have u9c := Box.at hN9 4 _ rfl
            simp only [List.getElem_toArray, List.getElem_cons_zero, List.getElem_cons_succ] at u9c
            have uf := Box.soft hN9
            have ul := Box.lt hN9
            refine hK.out _ _ (hH7.trans (hb9.mono (by omega))) (fun hHeld => ?_)
            clear hK K
            try simp only [Act.put, List.setIfInBounds_toArray, List.set_cons_zero, List.set_cons_succ]
            refine wpAnyH_take (i := 10) (oi := { dst := some 35, op := Go.Op.fieldAddr 36 (Go.Operand.tmp 3) 3, type := 0, pos := "l12_world.go:83", after := #[{ on := 0, ground := Go.Ground.phase }, { on := 1, ground := Go.Ground.phase }, { on := 2, ground := Go.Ground.phase }, { on := 3, ground := Go.Ground.phase }, { on := 4, ground := Go.Ground.phase }, { on := 5, ground := Go.Ground.phase }, { on := 6, ground := Go.Ground.phase }, { on := 7, ground := Go.Ground.phase }, { on := 8, ground := Go.Ground.phase }, { on := 9, ground := Go.Ground.phase }], guard := none }) (v := ?vn10_11) rfl (by kernel_rfl) (by kernel_rfl) (by kernel_rfl) (fun _ _ _ h => h) (Or.inl ⟨by rfl, ?hn10_11⟩) hHeld ?rn10_11
            case hn10_11 =>
              intro wS hSw
              (try dsimp only at hSw)
              go_simp
              try with_reducible rfl
            case rn10_11 =>
            simp only [Act.put, List.setIfInBounds_toArray, List.set_cons_zero, List.set_cons_succ]
            refine wpAnyH_ready (rs := [11]) (by kernel_rfl) (by simp) ?_
            refine AllReadyH.cons (o := { dst := none, op := Go.Op.store 32 (Go.Operand.tmp 35) (Go.Operand.tmp 34), type := 0, pos := "l12_world.go:83", after := #[{ on := 10, ground := Go.Ground.data }, { on := 9, ground := Go.Ground.data }, { on := 9, ground := Go.Ground.chain }, { on := 0, ground := Go.Ground.phase }, { on := 1, ground := Go.Ground.phase }, { on := 2, ground := Go.Ground.phase }, { on := 3, ground := Go.Ground.phase }, { on := 4, ground := Go.Ground.phase }, { on := 5, ground := Go.Ground.phase }, { on := 6, ground := Go.Ground.phase }, { on := 7, ground := Go.Ground.phase }, { on := 8, ground := Go.Ground.phase }, { on := 9, ground := Go.Ground.phase }], guard := none }) rfl (fun K hK => ?_) AllReadyH.nil
            go_simp
            try go_wp2_with fail
            refine hK.out _ _ (Below.setCell hHeld (p := ⟨g, 4, none⟩) (by simp only []; omega) _) (fun hHeld => ?_)
            clear hK K
            try simp only [Act.put, List.setIfInBounds_toArray, List.set_cons_zero, List.set_cons_succ]
            refine wpAnyH_done (by kernel_rfl) ?_ _
            refine NoPanic.normal ?_
            have e10 : Ext (fun q => q = g) u9 (u9.setCell ⟨g, 4, none⟩ (.slice (some ⟨gq, 0, none⟩) (xs.length + 1) cap)) := (Ext.refl (fun q => q = g) _).setCell ⟨g, 4, none⟩ _ rfl
            have hlow : ∀ c ∈ (bls ++ [blw]).flatten, W1.heap.size ≤ c := by
              intro c hc
              rw [List.flatten_append] at hc
              rcases List.mem_append.1 hc with hc | hc
              · exact unhide HS c hc
              · have := (hbw c (by simpa using hc)).1; omega
            have hN10 := Box.set hN9 4 (.slice (some ⟨gq, 0, none⟩) (xs.length + 1) cap)
            simp only [List.setIfInBounds_toArray, List.set_cons_zero, List.set_cons_succ] at hN10
            have hown9 : ∀ q, (Value.slice (some ⟨gq, 0, none⟩) (xs.length + 1) cap).ownBlock = some q → ¬ q = g := fun q hq e => by
              have := (hG9.own.lt q hq).1
              omega
            have hG10 := grow_keepW hG9 e10 (fun c hc e => by have := hlow c hc; omega) hown9
            have hE10 := (hE7.trans (hE9.mono fun k _ h => Or.inr (by have := (hG7.own.lt k h).1; omega))).trans (e10.mono fun k _ h => Or.inl h)
            have HN10 := hide hN10
            have HG10 := hide hG10
            have HE10 := hide hE10
            have HLOW := hide hlow
            clear hHeld hND hGD hED hN7 hN8 hG7 hE7 hH7 hoff hlw hbw hG9 hb9 hE9 hN9 e10 hlow hN10 hown9 hG10 hE10 hor9 u4 u9c uf ul nb8 hb7
            go_wp2_with fail
            go_roundw
            case rel => exact ⟨k + 1, _, _, _, _, _, by omega, by go_num, unhide HN10, by rw [unhide HT]; exact unhide HG10, unhide HLOW, unhide HE10⟩
            case measure => simp [intOf]; omega
      · obtain rfl : k = x.nodes.length := by omega
        have hdl : decide ((x.nodes.length : Int) < (x.nodes.length : Int)) = false := by simp
        rw [List.take_length] at hG
        have hnp := (unhide HOK).some
        rcases hG.form with ⟨-, h0⟩ | ⟨g4, c4, hv, hg4, hg4l, hcap4⟩
        · exact absurd h0 (by intro q; rw [q] at hnp; simp at hnp)
        simp only [Value.slice.injEq] at hv
        obtain ⟨rfl, rfl, rfl⟩ := hv
        have hA : Lay.tNode.Apart wr (.slice (some ⟨g4, 0, none⟩) x.nodes.length cn) x.nodes g4 bls.flatten := by
          rcases hG.reads (by omega) with q | ⟨q, -⟩
          · have q2 : (Lay.sl Lay.tNode).lies wr [.slice (some ⟨g4, 0, none⟩) x.nodes.length cn] x.nodes (if x.nodes = [] then [] else g4 :: bls.flatten) := q
            rw [if_neg (by intro q; rw [q] at hnp; simp at hnp)] at q2
            exact ⟨q2, fun hm => hG.off g4 hm rfl, fun o => hG.own.frozenAt o⟩
          · exact absurd q (by intro q; rw [q] at hnp; simp at hnp)
        have hlt4 := hG.sub_lt
        have HA := hide hA
        have HS4 : Hid (∀ c ∈ bls.flatten, W1.heap.size ≤ c ∧ c < wr.heap.size) := fun c hc => ⟨hS c hc, hlt4 c hc⟩
        have HE4 := hide hE
        have HN4 := hide hN
        have HBr := hide hBr
        rename World => W2
        clear hA hlt4 hG hS hE hN hBr hx z4 hcap4 HG1
        generalize hbf : bls.flatten = r4 at *
        clear hbf rows
        have hz2 := (unhide HE4).size
        have hB2 := (unhide HN4).lt
        go_wp2_with fail
        clear y4 y5 hdl
        go_loopw [5] (fun i wr => ∃ (k : Nat) (an : Option Addr) (mn cn6 : Nat) (rows : List (List Value)) (bls : List (List Nat)), k ≤ x.history.length ∧ i = .int .i64 (k : Int) ∧ Box 0 #[.int .i64 x.now, .int .i64 x.events, .int .i64 x.chain.epoch, .slice a3q x.chain.ids.length c3q, .slice (some ⟨g4, 0, none⟩) x.nodes.length cn, .slice a5q x.msgs.length c5q, .slice an mn cn6] 36 wr g ∧ Grow Lay.tEntry wr W2.heap.size 130 (.slice an mn cn6) rows (x.history.take k) bls ∧ (∀ c ∈ bls.flatten, W2.heap.size ≤ c) ∧ Ext (fun q => q = g ∨ W2.heap.size ≤ q) W2 wr) (fun i _ => x.history.length - (intOf i).toNat)
        case atStart => exact ⟨0, none, 0, 0, [], [], Nat.zero_le _, rfl, unhide HN4, Grow.nil (World.ownsRow_nil _ _ _ _), by simp, Ext.refl _ _⟩
        case round =>
          obtain ⟨k, an, mn, cn6, rows, bls, hk, rfl, hN, hG, hS, hE⟩ := hrel
          have hBr2 : Below W0.heap.size W0 wr := (unhide HBr).trans (hE.below (by omega) (fun k hk q => by rcases q with q | q <;> omega))
          have hx := box_lowW (unhide HX) hBr2 (by omega)
          have y6 := Box.at hx 6 _ rfl
          simp only [List.getElem_toArray, List.getElem_cons_zero, List.getElem_cons_succ] at y6
          have hxr := hx.lt
          have hhb := (unhide HRE).big
          by_cases hlt : k < x.history.length
          · obtain ⟨be, oe, rfl, hbe⟩ := Lay.sl_addr (unhide HRE) (by omega)
            obtain ⟨row, hcl, hr⟩ := Lay.row_at ((unhide HRE).later hBr2) hlt
            have HFE := hide (unhide HF x.history[k] (List.getElem_mem hlt))
            have HWE : Hid (wfE x.history[k]) := by
              obtain ⟨_, hq⟩ := hr
              obtain ⟨_, _, _, _, _, _, _, _, _, -, -, q0, q1, q2, q3, -, q5, q6, q7, q8, -, -⟩ := lies_Entry.1 hq
              exact ⟨q0, q1, q2, q3, q5, q6, q7, q8⟩
            obtain ⟨aq, dq, av, dv, ah, dh, rfl, Rq, Rv, Rh⟩ := open_Entry hr
            have x0 : wr.cell? ⟨be, oe + k * 11, none⟩ = some (.int .i64 (x.history[k]).kind) := hcl 0 (by decide)
            have x1 : wr.cell? ⟨be, oe + k * 11 + 1, none⟩ = some (.int .i64 (x.history[k]).session) := hcl 1 (by decide)
            have x2 : wr.cell? ⟨be, oe + k * 11 + 2, none⟩ = some (.int .i64 (x.history[k]).seq) := hcl 2 (by decide)
            have x3 : wr.cell? ⟨be, oe + k * 11 + 3, none⟩ = some (.int .i64 (x.history[k]).id) := hcl 3 (by decide)
            have x4 : wr.cell? ⟨be, oe + k * 11 + 4, none⟩ = some (.slice aq (x.history[k]).query.length dq) := hcl 4 (by decide)
            have x5 : wr.cell? ⟨be, oe + k * 11 + 5, none⟩ = some (.int .i64 (x.history[k]).k) := hcl 5 (by decide)
            have x6 : wr.cell? ⟨be, oe + k * 11 + 6, none⟩ = some (.int .i64 (x.history[k]).start) := hcl 6 (by decide)
            have x7 : wr.cell? ⟨be, oe + k * 11 + 7, none⟩ = some (.int .i64 (x.history[k]).fin) := hcl 7 (by decide)
            have x8 : wr.cell? ⟨be, oe + k * 11 + 8, none⟩ = some (.int .i64 (x.history[k]).place) := hcl 8 (by decide)
            have x9 : wr.cell? ⟨be, oe + k * 11 + 9, none⟩ = some (.slice av (x.history[k]).vec.length dv) := hcl 9 (by decide)
            have x10 : wr.cell? ⟨be, oe + k * 11 + 10, none⟩ = some (.slice ah (x.history[k]).hits.length dh) := hcl 10 (by decide)
            have HT : Hid (x.history.take (k + 1) = x.history.take k ++ [x.history[k]]) := List.take_succ_eq_append_getElem hlt
            have HLn : Hid ((x.history.take k).length = k) := by show (x.history.take k).length = k; rw [List.length_take]; omega
            have hki : (k : Int) < (x.history.length : Int) := by omega
            have hdl : decide ((k : Int) < (x.history.length : Int)) = true := by simpa using hki
            have hbr : be < wr.heap.size := Nat.lt_of_lt_of_le hbe hBr2.size
            have HRQ := hide Rq
            have HRV := hide Rv
            have HRH := hide Rh
            have HS := hide hS
            have HN := hide hN
            have HG := hide hG
            have HE := hide hE
            have hzr := hE.size
            have HZ : Hid (W2.heap.size ≤ wr.heap.size ∧ g < W2.heap.size) := ⟨hE.size, hB2⟩
            clear hcl hr hx hBr2 hS hN hG hE HC3 HC5 HX HY HF HB HA HS4 HE4 HN4 HBr HB1 HRN Rq Rv Rh
            generalize hnn : x.history[k] = e at *
            clear hnn
            generalize hxs : x.history.take k = xs at *
            clear hxs
            have nb9 : Below wr.heap.size wr (wr.alloc (.cells #[.int .i64 e.kind, .int .i64 e.session, .int .i64 e.seq, .int .i64 e.id, .slice aq e.query.length dq, .int .i64 e.k, .int .i64 e.start, .int .i64 e.fin, .int .i64 e.place, .slice av e.vec.length dv, .slice ah e.hits.length dh] 130)) := (Below.refl _ _).alloc (Nat.le_refl _) _
            have hI9 : Box 0 #[.int .i64 e.kind, .int .i64 e.session, .int .i64 e.seq, .int .i64 e.id, .slice aq e.query.length dq, .int .i64 e.k, .int .i64 e.start, .int .i64 e.fin, .int .i64 e.place, .slice av e.vec.length dv, .slice ah e.hits.length dh] 130 (wr.alloc (.cells #[.int .i64 e.kind, .int .i64 e.session, .int .i64 e.seq, .int .i64 e.id, .slice aq e.query.length dq, .int .i64 e.k, .int .i64 e.start, .int .i64 e.fin, .int .i64 e.place, .slice av e.vec.length dv, .slice ah e.hits.length dh] 130)) wr.heap.size := newBox (Nat.zero_le _)
            have hz9 : (wr.alloc (.cells #[.int .i64 e.kind, .int .i64 e.session, .int .i64 e.seq, .int .i64 e.id, .slice aq e.query.length dq, .int .i64 e.k, .int .i64 e.start, .int .i64 e.fin, .int .i64 e.place, .slice av e.vec.length dv, .slice ah e.hits.length dh] 130)).heap.size = wr.heap.size + 1 := by simp
            have HI9 := hide hI9
            have HB9 := hide nb9
            clear nb9 hI9
            go_upto_region 10 with fail
            generalize wr.alloc (.cells #[.int .i64 e.kind, .int .i64 e.session, .int .i64 e.seq, .int .i64 e.id, .slice aq e.query.length dq, .int .i64 e.k, .int .i64 e.start, .int .i64 e.fin, .int .i64 e.place, .slice av e.vec.length dv, .slice ah e.hits.length dh] 130) = w9 at *
            clear x0 x1 x2 x3 x4 x5 x6 x7 x8 x9 x10 y6
            have HL := hide (l1Ints _ e.query w9 (Lay.ints_reads ((unhide HRQ).later (unhide HB9))) (by have := (unhide HFE).1; omega))
            have HWQ := hide (Lay.ints_reads (unhide HRQ)).wf
            have k4 := Box.at (unhide HI9) 4 _ rfl
            simp only [List.getElem_toArray, List.getElem_cons_zero, List.getElem_cons_succ] at k4
            have kl := (unhide HI9).lt
            go_wp2_with fail
            refine (unhide HL).mono ?_
            rintro ee w10 ⟨vq, rfl, Oq, hb10⟩
            obtain ⟨aq2, dq2, rfl⟩ := own_shape Oq
            have Iq := Lay.ownInts (unhide HWQ) (by have := (unhide HFE).1; omega) Oq
            have hI10 := (unhide HI9).keep hb10
            clear k4
            have k4 := Box.at hI10 4 _ rfl
            have kf := Box.soft hI10
            simp only [List.getElem_toArray, List.getElem_cons_zero, List.getElem_cons_succ] at k4
            have e10 : Ext (fun q => q = wr.heap.size) w10 (w10.setCell ⟨wr.heap.size, 4, none⟩ (.slice aq2 e.query.length dq2)) := (Ext.refl _ _).setCell _ _ rfl
            have hI10s := Box.set hI10 4 (.slice aq2 e.query.length dq2)
            simp only [List.setIfInBounds_toArray, List.set_cons_zero, List.set_cons_succ] at hI10s
            have hz10 := hb10.size
            have HIQ := hide ((Iq.lies.mono (show wr.heap.size + 1 ≤ w9.heap.size by omega) (Nat.le_refl _)).ext e10 (fun q h1 h2 h3 => by omega))
            have HI10 := hide hI10s
            have HB10 := hide ((Below.setCell ((unhide HB9).trans (hb10.mono (unhide HB9).size)) (p := ⟨wr.heap.size, 4, none⟩) (Nat.le_refl _) (.slice aq2 e.query.length dq2)))
            have hz10s : w10.heap.size = (w10.setCell ⟨wr.heap.size, 4, none⟩ (.slice aq2 e.query.length dq2)).heap.size := by simp
            have kl10 := hI10.lt
            clear hI10 hI10s e10 Oq Iq hb10 HL HI9 HB9 HWQ HRQ
            go_upto_region 11 with fail
            clear k4 kf kl
            generalize hw11 : w10.setCell ⟨wr.heap.size, 4, none⟩ (.slice aq2 e.query.length dq2) = w11 at *
            clear hw11
            have HL := hide (l1Ints _ e.vec w11 (Lay.ints_reads ((unhide HRV).later (unhide HB10))) (by have := (unhide HFE).2.1; omega))
            have HWQ := hide (Lay.ints_reads (unhide HRV)).wf
            have k4 := Box.at (unhide HI10) 9 _ rfl
            simp only [List.getElem_toArray, List.getElem_cons_zero, List.getElem_cons_succ] at k4
            have kl := (unhide HI10).lt
            go_wp2_with fail
            refine (unhide HL).mono ?_
            rintro ee w14 ⟨vq, rfl, Oq, hb14⟩
            obtain ⟨av2, dv2, rfl⟩ := own_shape Oq
            have Iq := Lay.ownInts (unhide HWQ) (by have := (unhide HFE).2.1; omega) Oq
            have hI14 := (unhide HI10).keep hb14
            clear k4
            have k4 := Box.at hI14 9 _ rfl
            have kf := Box.soft hI14
            simp only [List.getElem_toArray, List.getElem_cons_zero, List.getElem_cons_succ] at k4
            have e14 : Ext (fun q => q = wr.heap.size) w14 (w14.setCell ⟨wr.heap.size, 9, none⟩ (.slice av2 e.vec.length dv2)) := (Ext.refl _ _).setCell _ _ rfl
            have hI14s := Box.set hI14 9 (.slice av2 e.vec.length dv2)
            simp only [List.setIfInBounds_toArray, List.set_cons_zero, List.set_cons_succ] at hI14s
            have hz14 := hb14.size
            have HIV := hide ((Iq.lies.mono (show wr.heap.size + 1 ≤ w11.heap.size by omega) (Nat.le_refl _)).ext e14 (fun q h1 h2 h3 => by omega))
            have HIQ2 := hide (((unhide HIQ).mono (Nat.le_refl _) (show w10.heap.size ≤ w11.heap.size by omega)).later hb14 |>.ext e14 (fun q h1 h2 h3 => by omega))
            have HI14 := hide hI14s
            have HB14 := hide ((Below.setCell ((unhide HB10).trans (hb14.mono (unhide HB10).size)) (p := ⟨wr.heap.size, 9, none⟩) (Nat.le_refl _) (.slice av2 e.vec.length dv2)))
            have hz14s : w14.heap.size = (w14.setCell ⟨wr.heap.size, 9, none⟩ (.slice av2 e.vec.length dv2)).heap.size := by simp
            clear hI14 hI14s e14 Oq Iq hb14 HL HI10 HB10 HWQ HRV HIQ
            go_upto_region 12 with fail
            clear k4 kf kl
            generalize hw15 : w14.setCell ⟨wr.heap.size, 9, none⟩ (.slice av2 e.vec.length dv2) = w15 at *
            clear hw15
            have nbh : Below w15.heap.size w15 (w15.alloc (.cells #[] 190)) := (Below.refl _ _).alloc (Nat.le_refl _) _
            have hGH : Grow Lay.tHit (w15.alloc (.cells #[] 190)) w15.heap.size 190 (.slice (some ⟨w15.heap.size, 0, none⟩) 0 0) [] [] [] := Grow.nil (World.ownsRow_lit w15 #[] 0 (Nat.le_refl _) (Nat.zero_le _) rfl)
            have hXH : (Lay.sl Lay.tHit).LiesIn (w15.alloc (.cells #[] 190)) [.slice ah e.hits.length dh] e.hits 0 w15.heap.size := (((unhide HRH).liesIn.mono (Nat.le_refl _) (show wr.heap.size ≤ w15.heap.size by omega)).later (unhide HB14)).later nbh
            have hI15 := (unhide HI14).keep nbh
            have HI15 := hide hI15
            have k4 := Box.at hI15 10 _ rfl
            have k5 := Box.at (unhide HI14) 10 _ rfl
            simp only [List.getElem_toArray, List.getElem_cons_zero, List.getElem_cons_succ] at k4 k5
            have kl := hI15.lt
            have hzh : (w15.alloc (.cells #[] 190)).heap.size = w15.heap.size + 1 := by simp
            clear hI15
            go_wp2_with (at_builtin; refine wpList_append_hitsL hGH hXH rfl _ _ rfl rfl rfl ?hh1 ?hh2 ?_)
            case hh1 => have := (unhide HFE).2.2; simp only [List.length_nil]; omega
            case hh2 => omega
            intro ah2 mh2 dh2 w16 rh bh hG16 hb16 hm16 hz16
            have hm16' : mh2 = e.hits.length := hm16.trans (by simp)
            subst hm16'
            clear hm16
            have hI16 := box_lowW (unhide HI15) hb16 (by omega)
            clear k4 k5 kl
            have k4 := Box.at hI16 10 _ rfl
            have kf := Box.soft hI16
            have kl := hI16.lt
            simp only [List.getElem_toArray, List.getElem_cons_zero, List.getElem_cons_succ] at k4
            have e16 : Ext (fun q => q = wr.heap.size) w16 (w16.setCell ⟨wr.heap.size, 10, none⟩ (.slice ah2 e.hits.length dh2)) := (Ext.refl _ _).setCell _ _ rfl
            have hI16s := Box.set hI16 10 (.slice ah2 e.hits.length dh2)
            simp only [List.setIfInBounds_toArray, List.set_cons_zero, List.set_cons_succ] at hI16s
            have hbt : bh.flatten = [] := by
              rw [List.flatten_eq_nil_iff]
              intro l hl
              obtain ⟨j, hj, rfl⟩ := List.getElem_of_mem hl
              have q1 := hG16.nbls
              have q2 := hG16.nrows
              exact (lies_Hit.1 (hG16.lies j (by omega) (by omega) hj)).2.1
            have HIH := hide ((((hG16.toLies (by have := (unhide HFE).2.2; omega) (fun c hc => by rw [hbt] at hc; cases hc)).mono (show wr.heap.size + 1 ≤ w15.heap.size by omega) (Nat.le_refl _))).ext e16 (fun q h1 h2 h3 => by omega))
            have HIV3 := hide ((liesIn_below (((unhide HIV).mono (Nat.le_refl _) (show w14.heap.size ≤ w15.heap.size by omega)).later nbh) hb16 (Nat.le_refl _)).ext e16 (fun q h1 h2 h3 => by omega))
            have HIQ3 := hide ((liesIn_below (((unhide HIQ2).mono (Nat.le_refl _) (show w11.heap.size ≤ w15.heap.size by omega)).later nbh) hb16 (Nat.le_refl _)).ext e16 (fun q h1 h2 h3 => by omega))
            have HB16 := hide (Below.setCell (((unhide HB14).trans (nbh.mono (by omega))).trans (hb16.mono (by omega))) (p := ⟨wr.heap.size, 10, none⟩) (Nat.le_refl _) (.slice ah2 e.hits.length dh2))
            have hz16s : w16.heap.size = (w16.setCell ⟨wr.heap.size, 10, none⟩ (.slice ah2 e.hits.length dh2)).heap.size := by simp
            have HI16 := hide hI16s
            clear hI16 hI16s e16 hbt hG16 hb16 hGH hXH nbh HI15 HI14 HB14 HIV HIQ2 HRH
            go_upto_region 13 with fail
            clear k4 kf kl
            generalize hw12 : w16.setCell ⟨wr.heap.size, 10, none⟩ (.slice ah2 e.hits.length dh2) = w12 at *
            clear hw12
            obtain ⟨lq, lq1, lq2⟩ := unhide HIQ3
            obtain ⟨lv, lv1, lv2⟩ := unhide HIV3
            obtain ⟨lh, lh1, lh2⟩ := unhide HIH
            have hLE : Lay.tEntry.lies w12 [.int .i64 e.kind, .int .i64 e.session, .int .i64 e.seq, .int .i64 e.id, .slice aq2 e.query.length dq2, .int .i64 e.k, .int .i64 e.start, .int .i64 e.fin, .int .i64 e.place, .slice av2 e.vec.length dv2, .slice ah2 e.hits.length dh2] e (lq ++ (lv ++ lh)) := by
              obtain ⟨q0, q1, q2, q3, q5, q6, q7, q8⟩ := unhide HWE
              exact lies_Entry.2 ⟨aq2, dq2, lq, av2, dv2, lv, ah2, dh2, lh, rfl, rfl, q0, q1, q2, q3, lq1, q5, q6, q7, q8, lv1, lh1⟩
            have HBL0 : Hid (∀ c ∈ lq ++ (lv ++ lh), wr.heap.size ≤ c) := fun c hc => by
              simp only [List.mem_append] at hc
              rcases hc with hc | hc | hc
              · have := lq2 c hc; omega
              · have := lv2 c hc; omega
              · have := lh2 c hc; omega
            clear lq1 lq2 lv1 lv2 lh1 lh2 HIQ3 HIV3 HIH
            generalize lq ++ (lv ++ lh) = ble at *
            have HBL : Hid (∀ c ∈ ble, W2.heap.size ≤ c) := fun c hc => Nat.le_trans (unhide HZ).1 (unhide HBL0 c hc)
            have hoff : ∀ c ∈ ble, (Value.slice an mn cn6).ownBlock ≠ some c := fun c hc q => by
              have h1 := unhide HBL0 c hc
              have h2 := ((unhide HG).own.lt c q).2
              omega
            have HLE := hide hLE
            have hND : Box 0 #[.int .i64 x.now, .int .i64 x.events, .int .i64 x.chain.epoch, .slice a3q x.chain.ids.length c3q, .slice (some ⟨g4, 0, none⟩) x.nodes.length cn, .slice a5q x.msgs.length c5q, .slice an mn cn6] 36 w12 g := (unhide HN).keep (unhide HB16)
            have hGD : Grow Lay.tEntry w12 W2.heap.size 130 (.slice an mn cn6) rows xs bls := (unhide HG).later (unhide HB16)
            have hED : Ext (fun q => q = g ∨ W2.heap.size ≤ q) W2 w12 := (unhide HE).trans (ext_of_below (unhide HB16) _)
            have hzD : w16.heap.size ≤ w12.heap.size := by omega
            have HGE : Hid (g < wr.heap.size ∧ (∀ k, (Value.slice an mn cn6).ownBlock = some k → k < wr.heap.size) ∧ g < W2.heap.size) := ⟨by omega, fun k hk => ((unhide HG).own.lt k hk).2, hB2⟩
            have y0 := Box.at (unhide HI16) 0 _ rfl
            have y1 := Box.at (unhide HI16) 1 _ rfl
            have y2 := Box.at (unhide HI16) 2 _ rfl
            have y3 := Box.at (unhide HI16) 3 _ rfl
            have y4 := Box.at (unhide HI16) 4 _ rfl
            have y5 := Box.at (unhide HI16) 5 _ rfl
            have y6 := Box.at (unhide HI16) 6 _ rfl
            have y7 := Box.at (unhide HI16) 7 _ rfl
            have y8 := Box.at (unhide HI16) 8 _ rfl
            have y9 := Box.at (unhide HI16) 9 _ rfl
            have y10 := Box.at (unhide HI16) 10 _ rfl
            simp only [List.getElem_toArray, List.getElem_cons_zero, List.getElem_cons_succ] at y0 y1 y2 y3 y4 y5 y6 y7 y8 y9 y10
            have hel : wr.heap.size < w12.heap.size := (unhide HI16).lt
            clear hLE HI16 HN HG HE HB16 HFE HWE
            have u4 := Box.at hND 6 _ rfl
            simp only [List.getElem_toArray, List.getElem_cons_zero, List.getElem_cons_succ] at u4
            have ul0 := Box.lt hND
            go_wp2_with (at_builtin; refine wpList_append_Entry hGD (unhide HLE) hoff rfl _ _ rfl rfl rfl ?hq3 ?hq4 ?_)
            case hq3 => have := unhide HLn; have := (unhide HOK).few; omega
            case hq4 => omega
            intro gq cap u9 hG9 hb9 hE9 hg9 hz9 hor9
            have hN9 := hND.ext hE9 (fun e => by have := (hGD.own.lt g e).1; omega)
            have u9c := Box.at hN9 6 _ rfl
            simp only [List.getElem_toArray, List.getElem_cons_zero, List.getElem_cons_succ] at u9c
            have uf := Box.soft hN9
            have ul := Box.lt hN9
            have e10 : Ext (fun q => q = g) u9 (u9.setCell ⟨g, 6, none⟩ (.slice (some ⟨gq, 0, none⟩) (xs.length + 1) cap)) := (Ext.refl (fun q => q = g) _).setCell ⟨g, 6, none⟩ _ rfl
            have hlow : ∀ c ∈ (bls ++ [ble]).flatten, W2.heap.size ≤ c := by
              intro c hc
              rw [List.flatten_append] at hc
              rcases List.mem_append.1 hc with hc | hc
              · exact unhide HS c hc
              · exact unhide HBL c (by simpa using hc)
            have hN10 := Box.set hN9 6 (.slice (some ⟨gq, 0, none⟩) (xs.length + 1) cap)
            simp only [List.setIfInBounds_toArray, List.set_cons_zero, List.set_cons_succ] at hN10
            have hown9 : ∀ q, (Value.slice (some ⟨gq, 0, none⟩) (xs.length + 1) cap).ownBlock = some q → ¬ q = g := fun q hq e => by
              have := (hG9.own.lt q hq).1
              have := unhide HGE
              omega
            have hG10 := grow_keepW hG9 e10 (fun c hc e => by have := hlow c hc; have := unhide HGE; omega) hown9
            have hE10 := (hED.trans (hE9.mono fun k _ h => Or.inr (by have := (hGD.own.lt k h).1; omega))).trans (e10.mono fun k _ h => Or.inl h)
            have HN10 := hide hN10
            have HG10 := hide hG10
            have HE10 := hide hE10
            have HLOW := hide hlow
            clear hND hGD hED hoff hG9 hb9 hE9 hN9 e10 hlow hN10 hown9 hG10 hE10 hor9 u4
            go_wp2_with fail
            go_roundw
            case rel => exact ⟨k + 1, _, _, _, _, _, by omega, by go_num, unhide HN10, by rw [unhide HT]; exact unhide HG10, unhide HLOW, unhide HE10⟩
            case measure => simp [intOf]; omega
          · obtain rfl : k = x.history.length := by omega
            have hdl : decide ((x.history.length : Int) < (x.history.length : Int)) = false := by simp
            rw [List.take_length] at hG
            have hy := ((box_lowW ((box_lowW ((box_lowW (unhide HY) (unhide HB1) (by omega))) ((unhide HE4).below (B := W0.heap.size) hz1 (fun k hk q => by rcases q with q | q <;> omega)) (by omega))) (hE.below (B := W0.heap.size) (by omega) (fun k hk q => by rcases q with q | q <;> omega)) (by omega)))
            obtain ⟨l3, i3, j3⟩ := (((unhide HC3).ext (unhide HE4) (fun k h1 h2 h3 q => by rcases q with q | q <;> omega)).wide (Nat.le_refl _) (show W1.heap.size ≤ W1.heap.size from Nat.le_refl _)).ext hE (fun k h1 h2 h3 q => by rcases q with q | q <;> omega)
            obtain ⟨l5, i5, j5⟩ := (((unhide HC5).ext (unhide HE4) (fun k h1 h2 h3 q => by rcases q with q | q <;> omega)).wide (Nat.le_refl _) (show W1.heap.size ≤ W1.heap.size from Nat.le_refl _)).ext hE (fun k h1 h2 h3 q => by rcases q with q | q <;> omega)
            obtain ⟨l6, i6, j6⟩ := hG.toLies (by omega) hS
            have hm6 : mn = x.history.length := by
              obtain ⟨_, _, q, -⟩ := i6
              simp only [List.cons.injEq, Value.slice.injEq, and_true] at q
              exact q.2.1
            subst hm6
            have hA2 := (unhide HA).ext hE (fun q => by rcases q with q | q <;> omega) (fun c hc q => by have := unhide HS4 c hc; rcases q with q | q <;> omega)
            have hWL : WLie wr ⟨a3q, c3q, g4, 0, cn, a5q, c5q, an, cn6, l3, r4, l5, l6⟩ x := ⟨(unhide HWF).1, (unhide HWF).2.1, (unhide HWF).2.2, i3, hA2, i5, i6, fun hc => by have := j3 g4 hc; omega, fun hc => by have := j5 g4 hc; omega, fun hc => by have := j6 g4 hc; omega⟩
            have hzr := hE.size
            have hWN : WNew wr W0.heap.size wr.heap.size [.int .i64 x.now, .int .i64 x.events, .int .i64 x.chain.epoch, .slice a3q x.chain.ids.length c3q, .slice (some ⟨g4, 0, none⟩) x.nodes.length cn, .slice a5q x.msgs.length c5q, .slice an x.history.length cn6] x := ⟨_, rfl, hWL, by simp only []; omega, fun c hc => by have := j3 c hc; omega, fun c hc => by have := unhide HS4 c hc; omega, fun c hc => by have := j5 c hc; omega, fun c hc => by have := j6 c hc; omega⟩
            have e9 : Ext (fun q => q = w.heap.size + 1) wr (setAll wr (w.heap.size + 1) 0 [.int .i64 x.now, .int .i64 x.events, .int .i64 x.chain.epoch, .slice a3q x.chain.ids.length c3q, .slice (some ⟨g4, 0, none⟩) x.nodes.length cn, .slice a5q x.msgs.length c5q, .slice an x.history.length cn6]) := ext_setAll _ (Ext.refl _ _) _ _ _ rfl
            have HWN := hide ((hWN.ext e9 (fun k h1 h2 h3 => by omega)).mono (show w.heap.size ≤ W0.heap.size by omega) (Nat.le_of_eq (size_setAll wr (w.heap.size + 1) 0 [.int .i64 x.now, .int .i64 x.events, .int .i64 x.chain.epoch, .slice a3q x.chain.ids.length c3q, .slice (some ⟨g4, 0, none⟩) x.nodes.length cn, .slice a5q x.msgs.length c5q, .slice an x.history.length cn6]).symm))
            have HB9 := hide (below_setAll ((unhide HB).trans (hBr2.mono (unhide HB).size)) (w.heap.size + 1) 0 [.int .i64 x.now, .int .i64 x.events, .int .i64 x.chain.epoch, .slice a3q x.chain.ids.length c3q, .slice (some ⟨g4, 0, none⟩) x.nodes.length cn, .slice a5q x.msgs.length c5q, .slice an x.history.length cn6] (by omega))
            have o0 := Box.at hN 0 _ rfl
            have p0 := Box.at hy 0 _ rfl
            have o1 := Box.at hN 1 _ rfl
            have p1 := Box.at hy 1 _ rfl
            have o2 := Box.at hN 2 _ rfl
            have p2 := Box.at hy 2 _ rfl
            have o3 := Box.at hN 3 _ rfl
            have p3 := Box.at hy 3 _ rfl
            have o4 := Box.at hN 4 _ rfl
            have p4 := Box.at hy 4 _ rfl
            have o5 := Box.at hN 5 _ rfl
            have p5 := Box.at hy 5 _ rfl
            have o6 := Box.at hN 6 _ rfl
            have p6 := Box.at hy 6 _ rfl
            simp only [List.getElem_toArray, List.getElem_cons_zero, List.getElem_cons_succ] at o0 p0 o1 p1 o2 p2 o3 p3 o4 p4 o5 p5 o6 p6
            have hol := hN.lt
            have hyl := hy.lt
            have hyf := Box.soft hy
            clear hWN hWL hA2 i3 i5 i6 j3 j5 j6 hG hS hE hN hx hBr2 hy e9 HC3 HC5 HA HS4 HE4 HN4 HBr HB1 HX HY HB HRN HRE HF
            go_wp2_with fail
            refine bodyPost_ret (v := .agg #[.int .i64 x.now, .int .i64 x.events, .int .i64 x.chain.epoch, .slice a3q x.chain.ids.length c3q, .slice (some ⟨g4, 0, none⟩) x.nodes.length cn, .slice a5q x.msgs.length c5q, .slice an x.history.length cn6]) (by simp [results, Tryz.results125, go_sem, p0, p1, p2, p3, p4, p5, p6]) rfl ?_
            exact ⟨_, rfl, unhide HWN, unhide HB9⟩
end Go.Proofs.YtdnhmoppineegaaGreat

namespace Go.Proofs.YtdnhmoppineegaaGreat
open Go.RowKit

/-- The cells cs lie from the place o of the block b on. -/
structure RowIn (cs : Array Value) (w : World) (b o : Nat) : Prop where
  lt : b < w.heap.size
  cells : ∀ (i : Nat) (v : Value), cs[i]? = some v → w.cell? ⟨b, o + i, none⟩ = some v
variable {cs : Array Value} {w w' : World} {b o : Nat}
theorem RowIn.at (h : RowIn cs w b o) (i : Nat) (v : Value) (hi : cs[i]? = some v) : w.cell? ⟨b, o + i, none⟩ = some v := h.cells i v hi
theorem RowIn.keep (h : RowIn cs w b o) (hb : Below w.heap.size w w') : RowIn cs w' b o := ⟨Nat.lt_of_lt_of_le h.lt hb.size, fun i v hi => (hb.cell (p := ⟨b, o + i, none⟩) h.lt).trans (h.cells i v hi)⟩
theorem RowIn.ext {S : Nat → Prop} (h : RowIn cs w b o) (e : Ext S w w') (hs : ¬ S b) : RowIn cs w' b o := ⟨Nat.lt_of_lt_of_le h.lt e.size, fun i v hi => (cell_of_heap (e.block b h.lt hs) _).trans (h.cells i v hi)⟩
theorem RowIn.drew (h : RowIn cs w b o) : RowIn cs w.drew b o := ⟨h.lt, h.cells⟩
theorem RowIn.ofBox {lo : Nat} {T : TypeId} (h : Box lo cs T w b) : RowIn cs w b 0 := ⟨h.lt, fun i v hi => by rw [Nat.zero_add]; exact h.at i v hi⟩
/-- An element of a list. -/
theorem RowIn.ofRow {α : Type} {A : Lay α} {off k : Nat} {row : List Value} (hc : ∀ m, m < A.n → w.cell? ⟨b, off + k * A.n + m, none⟩ = row[m]?) (hl : row.length = A.n) (hb : b < w.heap.size) : RowIn row.toArray w b (off + k * A.n) := ⟨hb, fun i v hi => by
  have h1 : row[i]? = some v := by simpa using hi
  have h2 : i < A.n := by
    rw [← hl]
    rcases Nat.lt_or_ge i row.length with q | q
    · exact q
    · rw [List.getElem?_eq_none q] at h1; simp at h1
  rw [hc i h2, h1]⟩
end Go.Proofs.YtdnhmoppineegaaGreat
