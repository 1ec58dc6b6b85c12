/-
  The draws of writes: l3Bent; whatever is drawn is some write, its vector in the draw's own memory.
  Condition: at most 1000000 numbers have been drawn before.
-/
import Derived.Test.YteekfapjfpkidabDrawWr
namespace Go.Proofs.Yteekfapjfpkidab
open Go.RowKit

set_option maxRecDepth 10000 in
set_option maxHeartbeats 4000000 in
theorem bentWrite (b m : Nat) (cv : Value) (w : World) (hs : SrcAt w b cv m) (hc : IsCode b w cv) (hm : m ≤ 1000000) :
    Calls Try.prog 92 #[.pointer (some ⟨b, 0, none⟩)] w fun e w' => ∃ (cs : List Value) (x : DWrite) (bl : List Nat) (m' : Nat), e = .returned (.agg cs.toArray) ∧ Lay.tWrite.lies w' cs x bl ∧ (∀ c ∈ bl, w.heap.size ≤ c ∧ c < w'.heap.size) ∧ SrcAt w' b cv m' ∧ m' ≤ m + 200 ∧ IsCode b w' cv ∧ w.grownBy w' (some b) := by
  have hbw := hs.lt
  have nb : Below w.heap.size w (w.alloc (.cells #[.int .i64 0, .int .i64 0, .slice none 0 0, .int .i64 0, .int .i64 0] 33)) := (Below.refl _ _).alloc (Nat.le_refl _) _
  have bR : Box w.heap.size #[.int .i64 0, .int .i64 0, .slice none 0 0, .int .i64 0, .int .i64 0] 33 (w.alloc (.cells #[.int .i64 0, .int .i64 0, .slice none 0 0, .int .i64 0, .int .i64 0] 33)) w.heap.size := newBox (Nat.le_refl _)
  have s0 := hs.onW nb
  have c0 := hc.onW (Nat.le_of_lt hbw) nb
  clear hs hc
  go_enter Try.func92, Try.ntmps92
  go_wp2_with fail
  generalize w.alloc (.cells #[.int .i64 0, .int .i64 0, .slice none 0 0, .int .i64 0, .int .i64 0] 33) = W0 at *
  refine (drawWrite b m cv W0 s0 c0 hm).mono ?_
  rintro e w1 ⟨cs, x, bl, m', rfl, hl, hbl, s1, hm', c1, g1⟩
  obtain ⟨a2, d2, bv, rfl, rfl, wk, wi, hlv, wse, wsq⟩ := lies_Write.1 hl
  have hW0 := bR.lt
  have E1 : Ext (fun q => q = b ∨ w.heap.size ≤ q) w w1 := (ext_of_below nb _).trans ((ext_grown g1).mono fun k _ h => Or.inl h)
  have bR1 := bR.ext (ext_grown g1) (by omega)
  have nb2 : Below w1.heap.size w1 (w1.alloc (.cells #[.int .i64 x.kind, .int .i64 x.id, .slice a2 x.vec.length d2, .int .i64 x.session, .int .i64 x.seq] 33)) := (Below.refl _ _).alloc (Nat.le_refl _) _
  have bX : Box w1.heap.size #[.int .i64 x.kind, .int .i64 x.id, .slice a2 x.vec.length d2, .int .i64 x.session, .int .i64 x.seq] 33 (w1.alloc (.cells #[.int .i64 x.kind, .int .i64 x.id, .slice a2 x.vec.length d2, .int .i64 x.session, .int .i64 x.seq] 33)) w1.heap.size := newBox (Nat.le_refl _)
  have hz1 : w.heap.size < w1.heap.size := bR1.lt
  have L := hide (next b m' cv 12 _ (s1.onW nb2) (c1.onW (by omega) nb2) (by omega) (by omega) (by omega))
  have HE := hide (E1.trans (ext_of_below nb2 _))
  have HR := hide (bR1.keep nb2)
  have HX := hide bX
  have HLV := hide ((Lay.sl Lay.int).keep hlv fun c hc => nb2.block c ((Lay.sl Lay.int).lt hlv c hc))
  have HBL : Hid (∀ c ∈ bl, w.heap.size < c ∧ c < w1.heap.size) := fun c hc => by have := hbl c hc; omega
  clear nb bR s0 c0 hl hbl s1 c1 g1 E1 bR1 nb2 bX hlv
  go_wp2_with fail
  refine (unhide L).mono ?_
  generalize w1.alloc (.cells #[.int .i64 x.kind, .int .i64 x.id, .slice a2 x.vec.length d2, .int .i64 x.session, .int .i64 x.seq] 33) = W2 at *
  rintro e w2 ⟨r, rfl, hr, s2, c2, g2⟩
  have hX2 := (unhide HX).lt
  replace HE := hide ((unhide HE).trans ((ext_grown g2).mono fun k _ h => Or.inl h))
  replace HR := hide ((unhide HR).ext (ext_grown g2) (by omega))
  replace HX := hide ((unhide HX).ext (ext_grown g2) (by omega))
  replace HLV := hide ((Lay.sl Lay.int).keep (unhide HLV) fun c hc => g2.block c ((Lay.sl Lay.int).lt (unhide HLV) c hc) (fun e => by
    have h1 := unhide HBL c hc
    have h2 : c = b := Option.some.inj e
    omega))
  have HS := hide s2
  have HC := hide c2
  clear s2 c2 g2 L hr
  by_cases h0 : r = 0
  · subst h0
    have nb3 : Below w2.heap.size w2 (w2.alloc (.cells #[.int .i64 0, .int .i64 1, .int .i64 2, .int .i64 3] 2)) := (Below.refl _ _).alloc (Nat.le_refl _) _
    have hg3 := heap_alloc_new w2 (.cells #[.int .i64 0, .int .i64 1, .int .i64 2, .int .i64 3] 2)
    have hz2 : w1.heap.size < w2.heap.size := (unhide HX).lt
    have L := hide (pick b (m' + 1) w2.heap.size cv [0, 1, 2, 3] _ ((unhide HS).onW nb3) ((unhide HC).onW (by omega) nb3) (by omega) (by simp) (by simp) hg3 (by omega))
    replace HE := hide ((unhide HE).trans (ext_of_below nb3 _))
    replace HR := hide ((unhide HR).keep nb3)
    replace HX := hide ((unhide HX).keep nb3)
    replace HLV := hide ((Lay.sl Lay.int).keep (unhide HLV) fun c hc => nb3.block c ((Lay.sl Lay.int).lt (unhide HLV) c hc))
    clear nb3 hg3 HS HC
    go_wp2_with fail
    refine (unhide L).mono ?_
    generalize w2.alloc (.cells #[.int .i64 0, .int .i64 1, .int .i64 2, .int .i64 3] 2) = W3 at *
    rintro e w3 ⟨p, rfl, hp, s3, c3, g3⟩
    have hpb : 0 ≤ p ∧ p ≤ 1000 := by
      simp only [List.mem_cons, List.not_mem_nil, or_false] at hp
      omega
    replace HE := hide ((unhide HE).trans ((ext_grown g3).mono fun k _ h => Or.inl h))
    replace HR := hide ((unhide HR).ext (ext_grown g3) (by omega))
    replace HX := hide ((unhide HX).ext (ext_grown g3) (by omega))
    replace HLV := hide ((Lay.sl Lay.int).keep (unhide HLV) fun c hc => g3.block c ((Lay.sl Lay.int).lt (unhide HLV) c hc) (fun e => by
      have h1 := unhide HBL c hc
      have h2 : c = b := Option.some.inj e
      omega))
    have HS := hide s3
    have HC := hide c3
    clear s3 c3 g3 L
    have x0 : w3.cell? ⟨w1.heap.size, 0, none⟩ = some (.int .i64 x.kind) := (unhide HX).at 0 _ rfl
    have x1 : w3.cell? ⟨w1.heap.size, 1, none⟩ = some (.int .i64 x.id) := (unhide HX).at 1 _ rfl
    have x2 : w3.cell? ⟨w1.heap.size, 2, none⟩ = some (.slice a2 x.vec.length d2) := (unhide HX).at 2 _ rfl
    have x3 : w3.cell? ⟨w1.heap.size, 3, none⟩ = some (.int .i64 x.session) := (unhide HX).at 3 _ rfl
    have x4 : w3.cell? ⟨w1.heap.size, 4, none⟩ = some (.int .i64 x.seq) := (unhide HX).at 4 _ rfl
    have xf := (unhide HX).soft
    have xl := (unhide HX).lt
    have z0 : w3.cell? ⟨w.heap.size, 0, none⟩ = some (.int .i64 0) := (unhide HR).at 0 _ rfl
    have z1 : w3.cell? ⟨w.heap.size, 1, none⟩ = some (.int .i64 0) := (unhide HR).at 1 _ rfl
    have z2 : w3.cell? ⟨w.heap.size, 2, none⟩ = some (.slice none 0 0) := (unhide HR).at 2 _ rfl
    have z3 : w3.cell? ⟨w.heap.size, 3, none⟩ = some (.int .i64 0) := (unhide HR).at 3 _ rfl
    have z4 : w3.cell? ⟨w.heap.size, 4, none⟩ = some (.int .i64 0) := (unhide HR).at 4 _ rfl
    have zf := (unhide HR).soft
    have zl := (unhide HR).lt
    have hE9 : ∀ u0 u1 u2 u3 u4 u5, Ext (fun c => c = w1.heap.size ∨ c = w.heap.size) w3 ((((((w3.setCell ⟨w1.heap.size, 0, none⟩ u0).setCell ⟨w.heap.size, 0, none⟩ u1).setCell ⟨w.heap.size, 1, none⟩ u2).setCell ⟨w.heap.size, 2, none⟩ u3).setCell ⟨w.heap.size, 3, none⟩ u4).setCell ⟨w.heap.size, 4, none⟩ u5) := fun u0 u1 u2 u3 u4 u5 => (((((((Ext.refl _ _).setCell _ _ (Or.inl rfl)).setCell _ _ (Or.inr rfl)).setCell _ _ (Or.inr rfl)).setCell _ _ (Or.inr rfl)).setCell _ _ (Or.inr rfl)).setCell _ _ (Or.inr rfl))
    go_wp2_with fail
    refine bodyPost_ret (v := .agg #[.int .i64 p, .int .i64 x.id, .slice a2 x.vec.length d2, .int .i64 x.session, .int .i64 x.seq]) (by simp [results, Try.results92, go_sem, z0, z1, z2, z3, z4]) rfl ?_
    have hlw : Lay.tWrite.lies w3 [.int .i64 p, .int .i64 x.id, .slice a2 x.vec.length d2, .int .i64 x.session, .int .i64 x.seq] ⟨p, x.id, x.vec, x.session, x.seq⟩ bl := lies_Write.2 ⟨a2, d2, bl, rfl, rfl, (show (Lit.int .i64 p).wf = true from wf_of_bd (by omega)), wi, unhide HLV, wse, wsq⟩
    have hbl9 : ∀ c ∈ bl, w.heap.size < c ∧ c ≠ w1.heap.size := fun c hc => by have := unhide HBL c hc; omega
    obtain ⟨cs9, x9, bl9, m9, e9, q1, q2, q3, q4, q5, q6⟩ := closeW (m := m + 100) (unhide HE) (hE9 _ _ _ _ _ _) (Nat.le_of_lt hz1) hbw (unhide HS) (unhide HC) (by omega) hlw hbl9
    exact ⟨cs9, x9, bl9, m9, e9, q1, q2, q3, by omega, q5, q6⟩
  · have n0 : ((r : Int) == 0) = false := by simp; omega
    by_cases h1 : r = 1
    · subst h1
      have nb3 : Below w2.heap.size w2 (w2.alloc (.cells #[.int .i64 0, .int .i64 999, .int .i64 1000] 2)) := (Below.refl _ _).alloc (Nat.le_refl _) _
      have hg3 := heap_alloc_new w2 (.cells #[.int .i64 0, .int .i64 999, .int .i64 1000] 2)
      have hz2 : w1.heap.size < w2.heap.size := (unhide HX).lt
      have L := hide (pick b (m' + 1) w2.heap.size cv [0, 999, 1000] _ ((unhide HS).onW nb3) ((unhide HC).onW (by omega) nb3) (by omega) (by simp) (by simp) hg3 (by omega))
      replace HE := hide ((unhide HE).trans (ext_of_below nb3 _))
      replace HR := hide ((unhide HR).keep nb3)
      replace HX := hide ((unhide HX).keep nb3)
      replace HLV := hide ((Lay.sl Lay.int).keep (unhide HLV) fun c hc => nb3.block c ((Lay.sl Lay.int).lt (unhide HLV) c hc))
      clear nb3 hg3 HS HC
      go_wp2_with fail
      refine (unhide L).mono ?_
      generalize w2.alloc (.cells #[.int .i64 0, .int .i64 999, .int .i64 1000] 2) = W3 at *
      rintro e w3 ⟨p, rfl, hp, s3, c3, g3⟩
      have hpb : 0 ≤ p ∧ p ≤ 1000 := by
        simp only [List.mem_cons, List.not_mem_nil, or_false] at hp
        omega
      replace HE := hide ((unhide HE).trans ((ext_grown g3).mono fun k _ h => Or.inl h))
      replace HR := hide ((unhide HR).ext (ext_grown g3) (by omega))
      replace HX := hide ((unhide HX).ext (ext_grown g3) (by omega))
      replace HLV := hide ((Lay.sl Lay.int).keep (unhide HLV) fun c hc => g3.block c ((Lay.sl Lay.int).lt (unhide HLV) c hc) (fun e => by
        have h1 := unhide HBL c hc
        have h2 : c = b := Option.some.inj e
        omega))
      have HS := hide s3
      have HC := hide c3
      clear s3 c3 g3 L
      have x0 : w3.cell? ⟨w1.heap.size, 0, none⟩ = some (.int .i64 x.kind) := (unhide HX).at 0 _ rfl
      have x1 : w3.cell? ⟨w1.heap.size, 1, none⟩ = some (.int .i64 x.id) := (unhide HX).at 1 _ rfl
      have x2 : w3.cell? ⟨w1.heap.size, 2, none⟩ = some (.slice a2 x.vec.length d2) := (unhide HX).at 2 _ rfl
      have x3 : w3.cell? ⟨w1.heap.size, 3, none⟩ = some (.int .i64 x.session) := (unhide HX).at 3 _ rfl
      have x4 : w3.cell? ⟨w1.heap.size, 4, none⟩ = some (.int .i64 x.seq) := (unhide HX).at 4 _ rfl
      have xf := (unhide HX).soft
      have xl := (unhide HX).lt
      have z0 : w3.cell? ⟨w.heap.size, 0, none⟩ = some (.int .i64 0) := (unhide HR).at 0 _ rfl
      have z1 : w3.cell? ⟨w.heap.size, 1, none⟩ = some (.int .i64 0) := (unhide HR).at 1 _ rfl
      have z2 : w3.cell? ⟨w.heap.size, 2, none⟩ = some (.slice none 0 0) := (unhide HR).at 2 _ rfl
      have z3 : w3.cell? ⟨w.heap.size, 3, none⟩ = some (.int .i64 0) := (unhide HR).at 3 _ rfl
      have z4 : w3.cell? ⟨w.heap.size, 4, none⟩ = some (.int .i64 0) := (unhide HR).at 4 _ rfl
      have zf := (unhide HR).soft
      have zl := (unhide HR).lt
      have hE9 : ∀ u0 u1 u2 u3 u4 u5, Ext (fun c => c = w1.heap.size ∨ c = w.heap.size) w3 ((((((w3.setCell ⟨w1.heap.size, 1, none⟩ u0).setCell ⟨w.heap.size, 0, none⟩ u1).setCell ⟨w.heap.size, 1, none⟩ u2).setCell ⟨w.heap.size, 2, none⟩ u3).setCell ⟨w.heap.size, 3, none⟩ u4).setCell ⟨w.heap.size, 4, none⟩ u5) := fun u0 u1 u2 u3 u4 u5 => (((((((Ext.refl _ _).setCell _ _ (Or.inl rfl)).setCell _ _ (Or.inr rfl)).setCell _ _ (Or.inr rfl)).setCell _ _ (Or.inr rfl)).setCell _ _ (Or.inr rfl)).setCell _ _ (Or.inr rfl))
      go_wp2_with fail
      refine bodyPost_ret (v := .agg #[.int .i64 x.kind, .int .i64 p, .slice a2 x.vec.length d2, .int .i64 x.session, .int .i64 x.seq]) (by simp [results, Try.results92, go_sem, z0, z1, z2, z3, z4]) rfl ?_
      have hlw : Lay.tWrite.lies w3 [.int .i64 x.kind, .int .i64 p, .slice a2 x.vec.length d2, .int .i64 x.session, .int .i64 x.seq] ⟨x.kind, p, x.vec, x.session, x.seq⟩ bl := lies_Write.2 ⟨a2, d2, bl, rfl, rfl, wk, (show (Lit.int .i64 p).wf = true from wf_of_bd (by omega)), unhide HLV, wse, wsq⟩
      have hbl9 : ∀ c ∈ bl, w.heap.size < c ∧ c ≠ w1.heap.size := fun c hc => by have := unhide HBL c hc; omega
      obtain ⟨cs9, x9, bl9, m9, e9, q1, q2, q3, q4, q5, q6⟩ := closeW (m := m + 100) (unhide HE) (hE9 _ _ _ _ _ _) (Nat.le_of_lt hz1) hbw (unhide HS) (unhide HC) (by omega) hlw hbl9
      exact ⟨cs9, x9, bl9, m9, e9, q1, q2, q3, by omega, q5, q6⟩
    · have n1 : ((r : Int) == 1) = false := by simp; omega
      by_cases h2 : r = 2
      · subst h2
        have nb3 : Below w2.heap.size w2 (w2.alloc (.cells #[.int .i64 0, .int .i64 9, .int .i64 10] 2)) := (Below.refl _ _).alloc (Nat.le_refl _) _
        have hg3 := heap_alloc_new w2 (.cells #[.int .i64 0, .int .i64 9, .int .i64 10] 2)
        have hz2 : w1.heap.size < w2.heap.size := (unhide HX).lt
        have L := hide (pick b (m' + 1) w2.heap.size cv [0, 9, 10] _ ((unhide HS).onW nb3) ((unhide HC).onW (by omega) nb3) (by omega) (by simp) (by simp) hg3 (by omega))
        replace HE := hide ((unhide HE).trans (ext_of_below nb3 _))
        replace HR := hide ((unhide HR).keep nb3)
        replace HX := hide ((unhide HX).keep nb3)
        replace HLV := hide ((Lay.sl Lay.int).keep (unhide HLV) fun c hc => nb3.block c ((Lay.sl Lay.int).lt (unhide HLV) c hc))
        clear nb3 hg3 HS HC
        go_wp2_with fail
        refine (unhide L).mono ?_
        generalize w2.alloc (.cells #[.int .i64 0, .int .i64 9, .int .i64 10] 2) = W3 at *
        rintro e w3 ⟨p, rfl, hp, s3, c3, g3⟩
        have hpb : 0 ≤ p ∧ p ≤ 1000 := by
          simp only [List.mem_cons, List.not_mem_nil, or_false] at hp
          omega
        replace HE := hide ((unhide HE).trans ((ext_grown g3).mono fun k _ h => Or.inl h))
        replace HR := hide ((unhide HR).ext (ext_grown g3) (by omega))
        replace HX := hide ((unhide HX).ext (ext_grown g3) (by omega))
        replace HLV := hide ((Lay.sl Lay.int).keep (unhide HLV) fun c hc => g3.block c ((Lay.sl Lay.int).lt (unhide HLV) c hc) (fun e => by
          have h1 := unhide HBL c hc
          have h2 : c = b := Option.some.inj e
          omega))
        have HS := hide s3
        have HC := hide c3
        clear s3 c3 g3 L
        have x0 : w3.cell? ⟨w1.heap.size, 0, none⟩ = some (.int .i64 x.kind) := (unhide HX).at 0 _ rfl
        have x1 : w3.cell? ⟨w1.heap.size, 1, none⟩ = some (.int .i64 x.id) := (unhide HX).at 1 _ rfl
        have x2 : w3.cell? ⟨w1.heap.size, 2, none⟩ = some (.slice a2 x.vec.length d2) := (unhide HX).at 2 _ rfl
        have x3 : w3.cell? ⟨w1.heap.size, 3, none⟩ = some (.int .i64 x.session) := (unhide HX).at 3 _ rfl
        have x4 : w3.cell? ⟨w1.heap.size, 4, none⟩ = some (.int .i64 x.seq) := (unhide HX).at 4 _ rfl
        have xf := (unhide HX).soft
        have xl := (unhide HX).lt
        have z0 : w3.cell? ⟨w.heap.size, 0, none⟩ = some (.int .i64 0) := (unhide HR).at 0 _ rfl
        have z1 : w3.cell? ⟨w.heap.size, 1, none⟩ = some (.int .i64 0) := (unhide HR).at 1 _ rfl
        have z2 : w3.cell? ⟨w.heap.size, 2, none⟩ = some (.slice none 0 0) := (unhide HR).at 2 _ rfl
        have z3 : w3.cell? ⟨w.heap.size, 3, none⟩ = some (.int .i64 0) := (unhide HR).at 3 _ rfl
        have z4 : w3.cell? ⟨w.heap.size, 4, none⟩ = some (.int .i64 0) := (unhide HR).at 4 _ rfl
        have zf := (unhide HR).soft
        have zl := (unhide HR).lt
        have hE9 : ∀ u0 u1 u2 u3 u4 u5, Ext (fun c => c = w1.heap.size ∨ c = w.heap.size) w3 ((((((w3.setCell ⟨w1.heap.size, 3, none⟩ u0).setCell ⟨w.heap.size, 0, none⟩ u1).setCell ⟨w.heap.size, 1, none⟩ u2).setCell ⟨w.heap.size, 2, none⟩ u3).setCell ⟨w.heap.size, 3, none⟩ u4).setCell ⟨w.heap.size, 4, none⟩ u5) := fun u0 u1 u2 u3 u4 u5 => (((((((Ext.refl _ _).setCell _ _ (Or.inl rfl)).setCell _ _ (Or.inr rfl)).setCell _ _ (Or.inr rfl)).setCell _ _ (Or.inr rfl)).setCell _ _ (Or.inr rfl)).setCell _ _ (Or.inr rfl))
        go_wp2_with fail
        refine bodyPost_ret (v := .agg #[.int .i64 x.kind, .int .i64 x.id, .slice a2 x.vec.length d2, .int .i64 p, .int .i64 x.seq]) (by simp [results, Try.results92, go_sem, z0, z1, z2, z3, z4]) rfl ?_
        have hlw : Lay.tWrite.lies w3 [.int .i64 x.kind, .int .i64 x.id, .slice a2 x.vec.length d2, .int .i64 p, .int .i64 x.seq] ⟨x.kind, x.id, x.vec, p, x.seq⟩ bl := lies_Write.2 ⟨a2, d2, bl, rfl, rfl, wk, wi, unhide HLV, (show (Lit.int .i64 p).wf = true from wf_of_bd (by omega)), wsq⟩
        have hbl9 : ∀ c ∈ bl, w.heap.size < c ∧ c ≠ w1.heap.size := fun c hc => by have := unhide HBL c hc; omega
        obtain ⟨cs9, x9, bl9, m9, e9, q1, q2, q3, q4, q5, q6⟩ := closeW (m := m + 100) (unhide HE) (hE9 _ _ _ _ _ _) (Nat.le_of_lt hz1) hbw (unhide HS) (unhide HC) (by omega) hlw hbl9
        exact ⟨cs9, x9, bl9, m9, e9, q1, q2, q3, by omega, q5, q6⟩
      · have n2 : ((r : Int) == 2) = false := by simp; omega
        by_cases h3 : r = 3
        · subst h3
          have nb3 : Below w2.heap.size w2 (w2.alloc (.cells #[.int .i64 0, .int .i64 999, .int .i64 1000] 2)) := (Below.refl _ _).alloc (Nat.le_refl _) _
          have hg3 := heap_alloc_new w2 (.cells #[.int .i64 0, .int .i64 999, .int .i64 1000] 2)
          have hz2 : w1.heap.size < w2.heap.size := (unhide HX).lt
          have L := hide (pick b (m' + 1) w2.heap.size cv [0, 999, 1000] _ ((unhide HS).onW nb3) ((unhide HC).onW (by omega) nb3) (by omega) (by simp) (by simp) hg3 (by omega))
          replace HE := hide ((unhide HE).trans (ext_of_below nb3 _))
          replace HR := hide ((unhide HR).keep nb3)
          replace HX := hide ((unhide HX).keep nb3)
          replace HLV := hide ((Lay.sl Lay.int).keep (unhide HLV) fun c hc => nb3.block c ((Lay.sl Lay.int).lt (unhide HLV) c hc))
          clear nb3 hg3 HS HC
          go_wp2_with fail
          refine (unhide L).mono ?_
          generalize w2.alloc (.cells #[.int .i64 0, .int .i64 999, .int .i64 1000] 2) = W3 at *
          rintro e w3 ⟨p, rfl, hp, s3, c3, g3⟩
          have hpb : 0 ≤ p ∧ p ≤ 1000 := by
            simp only [List.mem_cons, List.not_mem_nil, or_false] at hp
            omega
          replace HE := hide ((unhide HE).trans ((ext_grown g3).mono fun k _ h => Or.inl h))
          replace HR := hide ((unhide HR).ext (ext_grown g3) (by omega))
          replace HX := hide ((unhide HX).ext (ext_grown g3) (by omega))
          replace HLV := hide ((Lay.sl Lay.int).keep (unhide HLV) fun c hc => g3.block c ((Lay.sl Lay.int).lt (unhide HLV) c hc) (fun e => by
            have h1 := unhide HBL c hc
            have h2 : c = b := Option.some.inj e
            omega))
          have HS := hide s3
          have HC := hide c3
          clear s3 c3 g3 L
          have x0 : w3.cell? ⟨w1.heap.size, 0, none⟩ = some (.int .i64 x.kind) := (unhide HX).at 0 _ rfl
          have x1 : w3.cell? ⟨w1.heap.size, 1, none⟩ = some (.int .i64 x.id) := (unhide HX).at 1 _ rfl
          have x2 : w3.cell? ⟨w1.heap.size, 2, none⟩ = some (.slice a2 x.vec.length d2) := (unhide HX).at 2 _ rfl
          have x3 : w3.cell? ⟨w1.heap.size, 3, none⟩ = some (.int .i64 x.session) := (unhide HX).at 3 _ rfl
          have x4 : w3.cell? ⟨w1.heap.size, 4, none⟩ = some (.int .i64 x.seq) := (unhide HX).at 4 _ rfl
          have xf := (unhide HX).soft
          have xl := (unhide HX).lt
          have z0 : w3.cell? ⟨w.heap.size, 0, none⟩ = some (.int .i64 0) := (unhide HR).at 0 _ rfl
          have z1 : w3.cell? ⟨w.heap.size, 1, none⟩ = some (.int .i64 0) := (unhide HR).at 1 _ rfl
          have z2 : w3.cell? ⟨w.heap.size, 2, none⟩ = some (.slice none 0 0) := (unhide HR).at 2 _ rfl
          have z3 : w3.cell? ⟨w.heap.size, 3, none⟩ = some (.int .i64 0) := (unhide HR).at 3 _ rfl
          have z4 : w3.cell? ⟨w.heap.size, 4, none⟩ = some (.int .i64 0) := (unhide HR).at 4 _ rfl
          have zf := (unhide HR).soft
          have zl := (unhide HR).lt
          have hE9 : ∀ u0 u1 u2 u3 u4 u5, Ext (fun c => c = w1.heap.size ∨ c = w.heap.size) w3 ((((((w3.setCell ⟨w1.heap.size, 4, none⟩ u0).setCell ⟨w.heap.size, 0, none⟩ u1).setCell ⟨w.heap.size, 1, none⟩ u2).setCell ⟨w.heap.size, 2, none⟩ u3).setCell ⟨w.heap.size, 3, none⟩ u4).setCell ⟨w.heap.size, 4, none⟩ u5) := fun u0 u1 u2 u3 u4 u5 => (((((((Ext.refl _ _).setCell _ _ (Or.inl rfl)).setCell _ _ (Or.inr rfl)).setCell _ _ (Or.inr rfl)).setCell _ _ (Or.inr rfl)).setCell _ _ (Or.inr rfl)).setCell _ _ (Or.inr rfl))
          go_wp2_with fail
          refine bodyPost_ret (v := .agg #[.int .i64 x.kind, .int .i64 x.id, .slice a2 x.vec.length d2, .int .i64 x.session, .int .i64 p]) (by simp [results, Try.results92, go_sem, z0, z1, z2, z3, z4]) rfl ?_
          have hlw : Lay.tWrite.lies w3 [.int .i64 x.kind, .int .i64 x.id, .slice a2 x.vec.length d2, .int .i64 x.session, .int .i64 p] ⟨x.kind, x.id, x.vec, x.session, p⟩ bl := lies_Write.2 ⟨a2, d2, bl, rfl, rfl, wk, wi, unhide HLV, wse, (show (Lit.int .i64 p).wf = true from wf_of_bd (by omega))⟩
          have hbl9 : ∀ c ∈ bl, w.heap.size < c ∧ c ≠ w1.heap.size := fun c hc => by have := unhide HBL c hc; omega
          obtain ⟨cs9, x9, bl9, m9, e9, q1, q2, q3, q4, q5, q6⟩ := closeW (m := m + 100) (unhide HE) (hE9 _ _ _ _ _ _) (Nat.le_of_lt hz1) hbw (unhide HS) (unhide HC) (by omega) hlw hbl9
          exact ⟨cs9, x9, bl9, m9, e9, q1, q2, q3, by omega, q5, q6⟩
        · have n3 : ((r : Int) == 3) = false := by simp; omega
          by_cases h4 : r = 4
          · subst h4
            have L := hide (bent b (m' + 1) cv w2 (unhide HS) (unhide HC) (by omega))
            have hz2 : w1.heap.size < w2.heap.size := (unhide HX).lt
            clear HS HC
            go_wp2_with fail
            refine (unhide L).mono ?_
            rintro e w3 ⟨v3, zs, m3, rfl, hzs, hNI, hm3, s3, c3, g3⟩
            obtain ⟨bz, hlz, hbz⟩ := hNI.lies (by omega)
            obtain ⟨a3, d3, rfl⟩ := open_sl ⟨bz, hlz⟩
            replace HE := hide ((unhide HE).trans ((ext_grown g3).mono fun k _ h => Or.inl h))
            replace HR := hide ((unhide HR).ext (ext_grown g3) (by omega))
            replace HX := hide ((unhide HX).ext (ext_grown g3) (by omega))
            replace HLV := hide ((Lay.sl Lay.int).keep (unhide HLV) fun c hc => g3.block c ((Lay.sl Lay.int).lt (unhide HLV) c hc) (fun e => by
              have h1 := unhide HBL c hc
              have h2 : c = b := Option.some.inj e
              omega))
            have HS := hide s3
            have HC := hide c3
            clear s3 c3 g3 L
            have x0 : w3.cell? ⟨w1.heap.size, 0, none⟩ = some (.int .i64 x.kind) := (unhide HX).at 0 _ rfl
            have x1 : w3.cell? ⟨w1.heap.size, 1, none⟩ = some (.int .i64 x.id) := (unhide HX).at 1 _ rfl
            have x2 : w3.cell? ⟨w1.heap.size, 2, none⟩ = some (.slice a2 x.vec.length d2) := (unhide HX).at 2 _ rfl
            have x3 : w3.cell? ⟨w1.heap.size, 3, none⟩ = some (.int .i64 x.session) := (unhide HX).at 3 _ rfl
            have x4 : w3.cell? ⟨w1.heap.size, 4, none⟩ = some (.int .i64 x.seq) := (unhide HX).at 4 _ rfl
            have xf := (unhide HX).soft
            have xl := (unhide HX).lt
            have z0 : w3.cell? ⟨w.heap.size, 0, none⟩ = some (.int .i64 0) := (unhide HR).at 0 _ rfl
            have z1 : w3.cell? ⟨w.heap.size, 1, none⟩ = some (.int .i64 0) := (unhide HR).at 1 _ rfl
            have z2 : w3.cell? ⟨w.heap.size, 2, none⟩ = some (.slice none 0 0) := (unhide HR).at 2 _ rfl
            have z3 : w3.cell? ⟨w.heap.size, 3, none⟩ = some (.int .i64 0) := (unhide HR).at 3 _ rfl
            have z4 : w3.cell? ⟨w.heap.size, 4, none⟩ = some (.int .i64 0) := (unhide HR).at 4 _ rfl
            have zf := (unhide HR).soft
            have zl := (unhide HR).lt
            have hE9 : ∀ u0 u1 u2 u3 u4 u5, Ext (fun c => c = w1.heap.size ∨ c = w.heap.size) w3 ((((((w3.setCell ⟨w1.heap.size, 2, none⟩ u0).setCell ⟨w.heap.size, 0, none⟩ u1).setCell ⟨w.heap.size, 1, none⟩ u2).setCell ⟨w.heap.size, 2, none⟩ u3).setCell ⟨w.heap.size, 3, none⟩ u4).setCell ⟨w.heap.size, 4, none⟩ u5) := fun u0 u1 u2 u3 u4 u5 => (((((((Ext.refl _ _).setCell _ _ (Or.inl rfl)).setCell _ _ (Or.inr rfl)).setCell _ _ (Or.inr rfl)).setCell _ _ (Or.inr rfl)).setCell _ _ (Or.inr rfl)).setCell _ _ (Or.inr rfl))
            go_wp2_with fail
            refine bodyPost_ret (v := .agg #[.int .i64 x.kind, .int .i64 x.id, .slice a3 zs.length d3, .int .i64 x.session, .int .i64 x.seq]) (by simp [results, Try.results92, go_sem, z0, z1, z2, z3, z4]) rfl ?_
            have hlw : Lay.tWrite.lies w3 [.int .i64 x.kind, .int .i64 x.id, .slice a3 zs.length d3, .int .i64 x.session, .int .i64 x.seq] ⟨x.kind, x.id, zs, x.session, x.seq⟩ bz := lies_Write.2 ⟨a3, d3, bz, rfl, rfl, wk, wi, hlz, wse, wsq⟩
            have hbl9 : ∀ c ∈ bz, w.heap.size < c ∧ c ≠ w1.heap.size := fun c hc => by have := hbz c hc; omega
            obtain ⟨cs9, x9, bl9, m9, e9, q1, q2, q3, q4, q5, q6⟩ := closeW (m := m + 100) (unhide HE) (hE9 _ _ _ _ _ _) (Nat.le_of_lt hz1) hbw (unhide HS) (unhide HC) (by omega) hlw hbl9
            exact ⟨cs9, x9, bl9, m9, e9, q1, q2, q3, by omega, q5, q6⟩
          · have n4 : ((r : Int) == 4) = false := by simp; omega
            have x0 : w2.cell? ⟨w1.heap.size, 0, none⟩ = some (.int .i64 x.kind) := (unhide HX).at 0 _ rfl
            have x1 : w2.cell? ⟨w1.heap.size, 1, none⟩ = some (.int .i64 x.id) := (unhide HX).at 1 _ rfl
            have x2 : w2.cell? ⟨w1.heap.size, 2, none⟩ = some (.slice a2 x.vec.length d2) := (unhide HX).at 2 _ rfl
            have x3 : w2.cell? ⟨w1.heap.size, 3, none⟩ = some (.int .i64 x.session) := (unhide HX).at 3 _ rfl
            have x4 : w2.cell? ⟨w1.heap.size, 4, none⟩ = some (.int .i64 x.seq) := (unhide HX).at 4 _ rfl
            have xf := (unhide HX).soft
            have xl := (unhide HX).lt
            have z0 : w2.cell? ⟨w.heap.size, 0, none⟩ = some (.int .i64 0) := (unhide HR).at 0 _ rfl
            have z1 : w2.cell? ⟨w.heap.size, 1, none⟩ = some (.int .i64 0) := (unhide HR).at 1 _ rfl
            have z2 : w2.cell? ⟨w.heap.size, 2, none⟩ = some (.slice none 0 0) := (unhide HR).at 2 _ rfl
            have z3 : w2.cell? ⟨w.heap.size, 3, none⟩ = some (.int .i64 0) := (unhide HR).at 3 _ rfl
            have z4 : w2.cell? ⟨w.heap.size, 4, none⟩ = some (.int .i64 0) := (unhide HR).at 4 _ rfl
            have zf := (unhide HR).soft
            have zl := (unhide HR).lt
            have hE9 : ∀ u0 u1 u2 u3 u4, Ext (fun c => c = w1.heap.size ∨ c = w.heap.size) w2 (((((w2.setCell ⟨w.heap.size, 0, none⟩ u0).setCell ⟨w.heap.size, 1, none⟩ u1).setCell ⟨w.heap.size, 2, none⟩ u2).setCell ⟨w.heap.size, 3, none⟩ u3).setCell ⟨w.heap.size, 4, none⟩ u4) := fun u0 u1 u2 u3 u4 => ((((((Ext.refl _ _).setCell _ _ (Or.inr rfl)).setCell _ _ (Or.inr rfl)).setCell _ _ (Or.inr rfl)).setCell _ _ (Or.inr rfl)).setCell _ _ (Or.inr rfl))
            go_wp2_with fail
            refine bodyPost_ret (v := .agg #[.int .i64 x.kind, .int .i64 x.id, .slice a2 x.vec.length d2, .int .i64 x.session, .int .i64 x.seq]) (by simp [results, Try.results92, go_sem, z0, z1, z2, z3, z4]) rfl ?_
            have hlw : Lay.tWrite.lies w2 [.int .i64 x.kind, .int .i64 x.id, .slice a2 x.vec.length d2, .int .i64 x.session, .int .i64 x.seq] x bl := lies_Write.2 ⟨a2, d2, bl, rfl, rfl, wk, wi, unhide HLV, wse, wsq⟩
            have hbl9 : ∀ c ∈ bl, w.heap.size < c ∧ c ≠ w1.heap.size := fun c hc => by have := unhide HBL c hc; omega
            obtain ⟨cs9, x9, bl9, m9, e9, q1, q2, q3, q4, q5, q6⟩ := closeW (m := m + 100) (unhide HE) (hE9 _ _ _ _ _) (Nat.le_of_lt hz1) hbw (unhide HS) (unhide HC) (by omega) hlw hbl9
            exact ⟨cs9, x9, bl9, m9, e9, q1, q2, q3, by omega, q5, q6⟩

end Go.Proofs.Yteekfapjfpkidab
