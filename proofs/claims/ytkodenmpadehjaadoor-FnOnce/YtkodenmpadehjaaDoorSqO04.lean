/-
  Texts of this proof in one: DrawWrB, AppInt, AppWrite, Ints, WrBase, InB, InC, Fault.
  Their conditions stand in their theorems.
-/
import Derived.Test.YtkodenmpadehjaaDoorSqO03
import Derived.Test.YtkodenmpadehjaaDoorSqO01
import Derived.Test.YtkodenmpadehjaaDoorSqO02
import Derived.Deep.AppendLies
import Derived.Test.YtkodenmpadehjaaDoorChecked
import Derived.BigQuiet
import Derived.Deep.QuietTactic
import Derived.WalkSmall

namespace Go.Proofs.YtkodenmpadehjaaDoor
open Go.RowKit

set_option maxRecDepth 10000 in
set_option maxHeartbeats 4000000 in
theorem bentWrite (b m : Nat) (cv : Value) (w : World) (hs : SrcAt w b cv m) (hc : IsCode b w cv) (hm : m ≤ 1000000) :
    Calls Tryd.prog 27 #[.pointer (some ⟨b, 0, none⟩)] w fun e w' => ∃ (cs : List Value) (x : DWrite) (bl : List Nat) (m' : Nat), e = .returned (.agg cs.toArray) ∧ Lay.tWrite.lies w' cs x bl ∧ (∀ c ∈ bl, w.heap.size ≤ c ∧ c < w'.heap.size) ∧ SrcAt w' b cv m' ∧ m' ≤ m + 200 ∧ IsCode b w' cv ∧ w.grownBy w' (some b) := by
  have hbw := hs.lt
  have nb : Below w.heap.size w (w.alloc (.cells #[.int .i64 0, .int .i64 0, .slice none 0 0, .int .i64 0, .int .i64 0] 27)) := (Below.refl _ _).alloc (Nat.le_refl _) _
  have bR : Box w.heap.size #[.int .i64 0, .int .i64 0, .slice none 0 0, .int .i64 0, .int .i64 0] 27 (w.alloc (.cells #[.int .i64 0, .int .i64 0, .slice none 0 0, .int .i64 0, .int .i64 0] 27)) w.heap.size := newBox (Nat.le_refl _)
  have s0 := hs.onW nb
  have c0 := hc.onW (Nat.le_of_lt hbw) nb
  clear hs hc
  go_enter Tryd.func27, Tryd.ntmps27
  go_wp2_with fail
  generalize w.alloc (.cells #[.int .i64 0, .int .i64 0, .slice none 0 0, .int .i64 0, .int .i64 0] 27) = W0 at *
  refine (drawWrite b m cv W0 s0 c0 hm).mono ?_
  rintro e w1 ⟨cs, x, bl, m', rfl, hl, hbl, s1, hm', c1, g1⟩
  obtain ⟨a2, d2, bv, rfl, rfl, wk, wi, hlv, wse, wsq⟩ := lies_Write.1 hl
  have hW0 := bR.lt
  have E1 : Ext (fun q => q = b ∨ w.heap.size ≤ q) w w1 := (ext_of_below nb _).trans ((ext_grown g1).mono fun k _ h => Or.inl h)
  have bR1 := bR.ext (ext_grown g1) (by omega)
  have nb2 : Below w1.heap.size w1 (w1.alloc (.cells #[.int .i64 x.kind, .int .i64 x.id, .slice a2 x.vec.length d2, .int .i64 x.session, .int .i64 x.seq] 27)) := (Below.refl _ _).alloc (Nat.le_refl _) _
  have bX : Box w1.heap.size #[.int .i64 x.kind, .int .i64 x.id, .slice a2 x.vec.length d2, .int .i64 x.session, .int .i64 x.seq] 27 (w1.alloc (.cells #[.int .i64 x.kind, .int .i64 x.id, .slice a2 x.vec.length d2, .int .i64 x.session, .int .i64 x.seq] 27)) w1.heap.size := newBox (Nat.le_refl _)
  have hz1 : w.heap.size < w1.heap.size := bR1.lt
  have L := hide (next b m' cv 12 _ (s1.onW nb2) (c1.onW (by omega) nb2) (by omega) (by omega) (by omega))
  have HE := hide (E1.trans (ext_of_below nb2 _))
  have HR := hide (bR1.keep nb2)
  have HX := hide bX
  have HLV := hide ((Lay.sl Lay.int).keep hlv fun c hc => nb2.block c ((Lay.sl Lay.int).lt hlv c hc))
  have HBL : Hid (∀ c ∈ bl, w.heap.size < c ∧ c < w1.heap.size) := fun c hc => by have := hbl c hc; omega
  clear nb bR s0 c0 hl hbl s1 c1 g1 E1 bR1 nb2 bX hlv
  go_wp2_with fail
  refine (unhide L).mono ?_
  generalize w1.alloc (.cells #[.int .i64 x.kind, .int .i64 x.id, .slice a2 x.vec.length d2, .int .i64 x.session, .int .i64 x.seq] 27) = W2 at *
  rintro e w2 ⟨r, rfl, hr, s2, c2, g2⟩
  have hX2 := (unhide HX).lt
  replace HE := hide ((unhide HE).trans ((ext_grown g2).mono fun k _ h => Or.inl h))
  replace HR := hide ((unhide HR).ext (ext_grown g2) (by omega))
  replace HX := hide ((unhide HX).ext (ext_grown g2) (by omega))
  replace HLV := hide ((Lay.sl Lay.int).keep (unhide HLV) fun c hc => g2.block c ((Lay.sl Lay.int).lt (unhide HLV) c hc) (fun e => by
    have h1 := unhide HBL c hc
    have h2 : c = b := Option.some.inj e
    omega))
  have HS := hide s2
  have HC := hide c2
  clear s2 c2 g2 L hr
  by_cases h0 : r = 0
  · subst h0
    have nb3 : Below w2.heap.size w2 (w2.alloc (.cells #[.int .i64 0, .int .i64 1, .int .i64 2, .int .i64 3] 2)) := (Below.refl _ _).alloc (Nat.le_refl _) _
    have hg3 := heap_alloc_new w2 (.cells #[.int .i64 0, .int .i64 1, .int .i64 2, .int .i64 3] 2)
    have hz2 : w1.heap.size < w2.heap.size := (unhide HX).lt
    have L := hide (pick b (m' + 1) w2.heap.size cv [0, 1, 2, 3] _ ((unhide HS).onW nb3) ((unhide HC).onW (by omega) nb3) (by omega) (by simp) (by simp) hg3 (by omega))
    replace HE := hide ((unhide HE).trans (ext_of_below nb3 _))
    replace HR := hide ((unhide HR).keep nb3)
    replace HX := hide ((unhide HX).keep nb3)
    replace HLV := hide ((Lay.sl Lay.int).keep (unhide HLV) fun c hc => nb3.block c ((Lay.sl Lay.int).lt (unhide HLV) c hc))
    clear nb3 hg3 HS HC
    go_wp2_with fail
    refine (unhide L).mono ?_
    generalize w2.alloc (.cells #[.int .i64 0, .int .i64 1, .int .i64 2, .int .i64 3] 2) = W3 at *
    rintro e w3 ⟨p, rfl, hp, s3, c3, g3⟩
    have hpb : 0 ≤ p ∧ p ≤ 1000 := by
      simp only [List.mem_cons, List.not_mem_nil, or_false] at hp
      omega
    replace HE := hide ((unhide HE).trans ((ext_grown g3).mono fun k _ h => Or.inl h))
    replace HR := hide ((unhide HR).ext (ext_grown g3) (by omega))
    replace HX := hide ((unhide HX).ext (ext_grown g3) (by omega))
    replace HLV := hide ((Lay.sl Lay.int).keep (unhide HLV) fun c hc => g3.block c ((Lay.sl Lay.int).lt (unhide HLV) c hc) (fun e => by
      have h1 := unhide HBL c hc
      have h2 : c = b := Option.some.inj e
      omega))
    have HS := hide s3
    have HC := hide c3
    clear s3 c3 g3 L
    have x0 : w3.cell? ⟨w1.heap.size, 0, none⟩ = some (.int .i64 x.kind) := (unhide HX).at 0 _ rfl
    have x1 : w3.cell? ⟨w1.heap.size, 1, none⟩ = some (.int .i64 x.id) := (unhide HX).at 1 _ rfl
    have x2 : w3.cell? ⟨w1.heap.size, 2, none⟩ = some (.slice a2 x.vec.length d2) := (unhide HX).at 2 _ rfl
    have x3 : w3.cell? ⟨w1.heap.size, 3, none⟩ = some (.int .i64 x.session) := (unhide HX).at 3 _ rfl
    have x4 : w3.cell? ⟨w1.heap.size, 4, none⟩ = some (.int .i64 x.seq) := (unhide HX).at 4 _ rfl
    have xf := (unhide HX).soft
    have xl := (unhide HX).lt
    have z0 : w3.cell? ⟨w.heap.size, 0, none⟩ = some (.int .i64 0) := (unhide HR).at 0 _ rfl
    have z1 : w3.cell? ⟨w.heap.size, 1, none⟩ = some (.int .i64 0) := (unhide HR).at 1 _ rfl
    have z2 : w3.cell? ⟨w.heap.size, 2, none⟩ = some (.slice none 0 0) := (unhide HR).at 2 _ rfl
    have z3 : w3.cell? ⟨w.heap.size, 3, none⟩ = some (.int .i64 0) := (unhide HR).at 3 _ rfl
    have z4 : w3.cell? ⟨w.heap.size, 4, none⟩ = some (.int .i64 0) := (unhide HR).at 4 _ rfl
    have zf := (unhide HR).soft
    have zl := (unhide HR).lt
    have hE9 : ∀ u0 u1 u2 u3 u4 u5, Ext (fun c => c = w1.heap.size ∨ c = w.heap.size) w3 ((((((w3.setCell ⟨w1.heap.size, 0, none⟩ u0).setCell ⟨w.heap.size, 0, none⟩ u1).setCell ⟨w.heap.size, 1, none⟩ u2).setCell ⟨w.heap.size, 2, none⟩ u3).setCell ⟨w.heap.size, 3, none⟩ u4).setCell ⟨w.heap.size, 4, none⟩ u5) := fun u0 u1 u2 u3 u4 u5 => (((((((Ext.refl _ _).setCell _ _ (Or.inl rfl)).setCell _ _ (Or.inr rfl)).setCell _ _ (Or.inr rfl)).setCell _ _ (Or.inr rfl)).setCell _ _ (Or.inr rfl)).setCell _ _ (Or.inr rfl))
    go_wp2_with fail
    refine bodyPost_ret (v := .agg #[.int .i64 p, .int .i64 x.id, .slice a2 x.vec.length d2, .int .i64 x.session, .int .i64 x.seq]) (by simp [results, Tryd.results27, go_sem, z0, z1, z2, z3, z4]) rfl ?_
    have hlw : Lay.tWrite.lies w3 [.int .i64 p, .int .i64 x.id, .slice a2 x.vec.length d2, .int .i64 x.session, .int .i64 x.seq] ⟨p, x.id, x.vec, x.session, x.seq⟩ bl := lies_Write.2 ⟨a2, d2, bl, rfl, rfl, (show (Lit.int .i64 p).wf = true from wf_of_bd (by omega)), wi, unhide HLV, wse, wsq⟩
    have hbl9 : ∀ c ∈ bl, w.heap.size < c ∧ c ≠ w1.heap.size := fun c hc => by have := unhide HBL c hc; omega
    obtain ⟨cs9, x9, bl9, m9, e9, q1, q2, q3, q4, q5, q6⟩ := closeW (m := m + 100) (unhide HE) (hE9 _ _ _ _ _ _) (Nat.le_of_lt hz1) hbw (unhide HS) (unhide HC) (by omega) hlw hbl9
    exact ⟨cs9, x9, bl9, m9, e9, q1, q2, q3, by omega, q5, q6⟩
  · have n0 : ((r : Int) == 0) = false := by simp; omega
    by_cases h1 : r = 1
    · subst h1
      have nb3 : Below w2.heap.size w2 (w2.alloc (.cells #[.int .i64 0, .int .i64 999, .int .i64 1000] 2)) := (Below.refl _ _).alloc (Nat.le_refl _) _
      have hg3 := heap_alloc_new w2 (.cells #[.int .i64 0, .int .i64 999, .int .i64 1000] 2)
      have hz2 : w1.heap.size < w2.heap.size := (unhide HX).lt
      have L := hide (pick b (m' + 1) w2.heap.size cv [0, 999, 1000] _ ((unhide HS).onW nb3) ((unhide HC).onW (by omega) nb3) (by omega) (by simp) (by simp) hg3 (by omega))
      replace HE := hide ((unhide HE).trans (ext_of_below nb3 _))
      replace HR := hide ((unhide HR).keep nb3)
      replace HX := hide ((unhide HX).keep nb3)
      replace HLV := hide ((Lay.sl Lay.int).keep (unhide HLV) fun c hc => nb3.block c ((Lay.sl Lay.int).lt (unhide HLV) c hc))
      clear nb3 hg3 HS HC
      go_wp2_with fail
      refine (unhide L).mono ?_
      generalize w2.alloc (.cells #[.int .i64 0, .int .i64 999, .int .i64 1000] 2) = W3 at *
      rintro e w3 ⟨p, rfl, hp, s3, c3, g3⟩
      have hpb : 0 ≤ p ∧ p ≤ 1000 := by
        simp only [List.mem_cons, List.not_mem_nil, or_false] at hp
        omega
      replace HE := hide ((unhide HE).trans ((ext_grown g3).mono fun k _ h => Or.inl h))
      replace HR := hide ((unhide HR).ext (ext_grown g3) (by omega))
      replace HX := hide ((unhide HX).ext (ext_grown g3) (by omega))
      replace HLV := hide ((Lay.sl Lay.int).keep (unhide HLV) fun c hc => g3.block c ((Lay.sl Lay.int).lt (unhide HLV) c hc) (fun e => by
        have h1 := unhide HBL c hc
        have h2 : c = b := Option.some.inj e
        omega))
      have HS := hide s3
      have HC := hide c3
      clear s3 c3 g3 L
      have x0 : w3.cell? ⟨w1.heap.size, 0, none⟩ = some (.int .i64 x.kind) := (unhide HX).at 0 _ rfl
      have x1 : w3.cell? ⟨w1.heap.size, 1, none⟩ = some (.int .i64 x.id) := (unhide HX).at 1 _ rfl
      have x2 : w3.cell? ⟨w1.heap.size, 2, none⟩ = some (.slice a2 x.vec.length d2) := (unhide HX).at 2 _ rfl
      have x3 : w3.cell? ⟨w1.heap.size, 3, none⟩ = some (.int .i64 x.session) := (unhide HX).at 3 _ rfl
      have x4 : w3.cell? ⟨w1.heap.size, 4, none⟩ = some (.int .i64 x.seq) := (unhide HX).at 4 _ rfl
      have xf := (unhide HX).soft
      have xl := (unhide HX).lt
      have z0 : w3.cell? ⟨w.heap.size, 0, none⟩ = some (.int .i64 0) := (unhide HR).at 0 _ rfl
      have z1 : w3.cell? ⟨w.heap.size, 1, none⟩ = some (.int .i64 0) := (unhide HR).at 1 _ rfl
      have z2 : w3.cell? ⟨w.heap.size, 2, none⟩ = some (.slice none 0 0) := (unhide HR).at 2 _ rfl
      have z3 : w3.cell? ⟨w.heap.size, 3, none⟩ = some (.int .i64 0) := (unhide HR).at 3 _ rfl
      have z4 : w3.cell? ⟨w.heap.size, 4, none⟩ = some (.int .i64 0) := (unhide HR).at 4 _ rfl
      have zf := (unhide HR).soft
      have zl := (unhide HR).lt
      have hE9 : ∀ u0 u1 u2 u3 u4 u5, Ext (fun c => c = w1.heap.size ∨ c = w.heap.size) w3 ((((((w3.setCell ⟨w1.heap.size, 1, none⟩ u0).setCell ⟨w.heap.size, 0, none⟩ u1).setCell ⟨w.heap.size, 1, none⟩ u2).setCell ⟨w.heap.size, 2, none⟩ u3).setCell ⟨w.heap.size, 3, none⟩ u4).setCell ⟨w.heap.size, 4, none⟩ u5) := fun u0 u1 u2 u3 u4 u5 => (((((((Ext.refl _ _).setCell _ _ (Or.inl rfl)).setCell _ _ (Or.inr rfl)).setCell _ _ (Or.inr rfl)).setCell _ _ (Or.inr rfl)).setCell _ _ (Or.inr rfl)).setCell _ _ (Or.inr rfl))
      go_wp2_with fail
      refine bodyPost_ret (v := .agg #[.int .i64 x.kind, .int .i64 p, .slice a2 x.vec.length d2, .int .i64 x.session, .int .i64 x.seq]) (by simp [results, Tryd.results27, go_sem, z0, z1, z2, z3, z4]) rfl ?_
      have hlw : Lay.tWrite.lies w3 [.int .i64 x.kind, .int .i64 p, .slice a2 x.vec.length d2, .int .i64 x.session, .int .i64 x.seq] ⟨x.kind, p, x.vec, x.session, x.seq⟩ bl := lies_Write.2 ⟨a2, d2, bl, rfl, rfl, wk, (show (Lit.int .i64 p).wf = true from wf_of_bd (by omega)), unhide HLV, wse, wsq⟩
      have hbl9 : ∀ c ∈ bl, w.heap.size < c ∧ c ≠ w1.heap.size := fun c hc => by have := unhide HBL c hc; omega
      obtain ⟨cs9, x9, bl9, m9, e9, q1, q2, q3, q4, q5, q6⟩ := closeW (m := m + 100) (unhide HE) (hE9 _ _ _ _ _ _) (Nat.le_of_lt hz1) hbw (unhide HS) (unhide HC) (by omega) hlw hbl9
      exact ⟨cs9, x9, bl9, m9, e9, q1, q2, q3, by omega, q5, q6⟩
    · have n1 : ((r : Int) == 1) = false := by simp; omega
      by_cases h2 : r = 2
      · subst h2
        have nb3 : Below w2.heap.size w2 (w2.alloc (.cells #[.int .i64 0, .int .i64 9, .int .i64 10] 2)) := (Below.refl _ _).alloc (Nat.le_refl _) _
        have hg3 := heap_alloc_new w2 (.cells #[.int .i64 0, .int .i64 9, .int .i64 10] 2)
        have hz2 : w1.heap.size < w2.heap.size := (unhide HX).lt
        have L := hide (pick b (m' + 1) w2.heap.size cv [0, 9, 10] _ ((unhide HS).onW nb3) ((unhide HC).onW (by omega) nb3) (by omega) (by simp) (by simp) hg3 (by omega))
        replace HE := hide ((unhide HE).trans (ext_of_below nb3 _))
        replace HR := hide ((unhide HR).keep nb3)
        replace HX := hide ((unhide HX).keep nb3)
        replace HLV := hide ((Lay.sl Lay.int).keep (unhide HLV) fun c hc => nb3.block c ((Lay.sl Lay.int).lt (unhide HLV) c hc))
        clear nb3 hg3 HS HC
        go_wp2_with fail
        refine (unhide L).mono ?_
        generalize w2.alloc (.cells #[.int .i64 0, .int .i64 9, .int .i64 10] 2) = W3 at *
        rintro e w3 ⟨p, rfl, hp, s3, c3, g3⟩
        have hpb : 0 ≤ p ∧ p ≤ 1000 := by
          simp only [List.mem_cons, List.not_mem_nil, or_false] at hp
          omega
        replace HE := hide ((unhide HE).trans ((ext_grown g3).mono fun k _ h => Or.inl h))
        replace HR := hide ((unhide HR).ext (ext_grown g3) (by omega))
        replace HX := hide ((unhide HX).ext (ext_grown g3) (by omega))
        replace HLV := hide ((Lay.sl Lay.int).keep (unhide HLV) fun c hc => g3.block c ((Lay.sl Lay.int).lt (unhide HLV) c hc) (fun e => by
          have h1 := unhide HBL c hc
          have h2 : c = b := Option.some.inj e
          omega))
        have HS := hide s3
        have HC := hide c3
        clear s3 c3 g3 L
        have x0 : w3.cell? ⟨w1.heap.size, 0, none⟩ = some (.int .i64 x.kind) := (unhide HX).at 0 _ rfl
        have x1 : w3.cell? ⟨w1.heap.size, 1, none⟩ = some (.int .i64 x.id) := (unhide HX).at 1 _ rfl
        have x2 : w3.cell? ⟨w1.heap.size, 2, none⟩ = some (.slice a2 x.vec.length d2) := (unhide HX).at 2 _ rfl
        have x3 : w3.cell? ⟨w1.heap.size, 3, none⟩ = some (.int .i64 x.session) := (unhide HX).at 3 _ rfl
        have x4 : w3.cell? ⟨w1.heap.size, 4, none⟩ = some (.int .i64 x.seq) := (unhide HX).at 4 _ rfl
        have xf := (unhide HX).soft
        have xl := (unhide HX).lt
        have z0 : w3.cell? ⟨w.heap.size, 0, none⟩ = some (.int .i64 0) := (unhide HR).at 0 _ rfl
        have z1 : w3.cell? ⟨w.heap.size, 1, none⟩ = some (.int .i64 0) := (unhide HR).at 1 _ rfl
        have z2 : w3.cell? ⟨w.heap.size, 2, none⟩ = some (.slice none 0 0) := (unhide HR).at 2 _ rfl
        have z3 : w3.cell? ⟨w.heap.size, 3, none⟩ = some (.int .i64 0) := (unhide HR).at 3 _ rfl
        have z4 : w3.cell? ⟨w.heap.size, 4, none⟩ = some (.int .i64 0) := (unhide HR).at 4 _ rfl
        have zf := (unhide HR).soft
        have zl := (unhide HR).lt
        have hE9 : ∀ u0 u1 u2 u3 u4 u5, Ext (fun c => c = w1.heap.size ∨ c = w.heap.size) w3 ((((((w3.setCell ⟨w1.heap.size, 3, none⟩ u0).setCell ⟨w.heap.size, 0, none⟩ u1).setCell ⟨w.heap.size, 1, none⟩ u2).setCell ⟨w.heap.size, 2, none⟩ u3).setCell ⟨w.heap.size, 3, none⟩ u4).setCell ⟨w.heap.size, 4, none⟩ u5) := fun u0 u1 u2 u3 u4 u5 => (((((((Ext.refl _ _).setCell _ _ (Or.inl rfl)).setCell _ _ (Or.inr rfl)).setCell _ _ (Or.inr rfl)).setCell _ _ (Or.inr rfl)).setCell _ _ (Or.inr rfl)).setCell _ _ (Or.inr rfl))
        go_wp2_with fail
        refine bodyPost_ret (v := .agg #[.int .i64 x.kind, .int .i64 x.id, .slice a2 x.vec.length d2, .int .i64 p, .int .i64 x.seq]) (by simp [results, Tryd.results27, go_sem, z0, z1, z2, z3, z4]) rfl ?_
        have hlw : Lay.tWrite.lies w3 [.int .i64 x.kind, .int .i64 x.id, .slice a2 x.vec.length d2, .int .i64 p, .int .i64 x.seq] ⟨x.kind, x.id, x.vec, p, x.seq⟩ bl := lies_Write.2 ⟨a2, d2, bl, rfl, rfl, wk, wi, unhide HLV, (show (Lit.int .i64 p).wf = true from wf_of_bd (by omega)), wsq⟩
        have hbl9 : ∀ c ∈ bl, w.heap.size < c ∧ c ≠ w1.heap.size := fun c hc => by have := unhide HBL c hc; omega
        obtain ⟨cs9, x9, bl9, m9, e9, q1, q2, q3, q4, q5, q6⟩ := closeW (m := m + 100) (unhide HE) (hE9 _ _ _ _ _ _) (Nat.le_of_lt hz1) hbw (unhide HS) (unhide HC) (by omega) hlw hbl9
        exact ⟨cs9, x9, bl9, m9, e9, q1, q2, q3, by omega, q5, q6⟩
      · have n2 : ((r : Int) == 2) = false := by simp; omega
        by_cases h3 : r = 3
        · subst h3
          have nb3 : Below w2.heap.size w2 (w2.alloc (.cells #[.int .i64 0, .int .i64 999, .int .i64 1000] 2)) := (Below.refl _ _).alloc (Nat.le_refl _) _
          have hg3 := heap_alloc_new w2 (.cells #[.int .i64 0, .int .i64 999, .int .i64 1000] 2)
          have hz2 : w1.heap.size < w2.heap.size := (unhide HX).lt
          have L := hide (pick b (m' + 1) w2.heap.size cv [0, 999, 1000] _ ((unhide HS).onW nb3) ((unhide HC).onW (by omega) nb3) (by omega) (by simp) (by simp) hg3 (by omega))
          replace HE := hide ((unhide HE).trans (ext_of_below nb3 _))
          replace HR := hide ((unhide HR).keep nb3)
          replace HX := hide ((unhide HX).keep nb3)
          replace HLV := hide ((Lay.sl Lay.int).keep (unhide HLV) fun c hc => nb3.block c ((Lay.sl Lay.int).lt (unhide HLV) c hc))
          clear nb3 hg3 HS HC
          go_wp2_with fail
          refine (unhide L).mono ?_
          generalize w2.alloc (.cells #[.int .i64 0, .int .i64 999, .int .i64 1000] 2) = W3 at *
          rintro e w3 ⟨p, rfl, hp, s3, c3, g3⟩
          have hpb : 0 ≤ p ∧ p ≤ 1000 := by
            simp only [List.mem_cons, List.not_mem_nil, or_false] at hp
            omega
          replace HE := hide ((unhide HE).trans ((ext_grown g3).mono fun k _ h => Or.inl h))
          replace HR := hide ((unhide HR).ext (ext_grown g3) (by omega))
          replace HX := hide ((unhide HX).ext (ext_grown g3) (by omega))
          replace HLV := hide ((Lay.sl Lay.int).keep (unhide HLV) fun c hc => g3.block c ((Lay.sl Lay.int).lt (unhide HLV) c hc) (fun e => by
            have h1 := unhide HBL c hc
            have h2 : c = b := Option.some.inj e
            omega))
          have HS := hide s3
          have HC := hide c3
          clear s3 c3 g3 L
          have x0 : w3.cell? ⟨w1.heap.size, 0, none⟩ = some (.int .i64 x.kind) := (unhide HX).at 0 _ rfl
          have x1 : w3.cell? ⟨w1.heap.size, 1, none⟩ = some (.int .i64 x.id) := (unhide HX).at 1 _ rfl
          have x2 : w3.cell? ⟨w1.heap.size, 2, none⟩ = some (.slice a2 x.vec.length d2) := (unhide HX).at 2 _ rfl
          have x3 : w3.cell? ⟨w1.heap.size, 3, none⟩ = some (.int .i64 x.session) := (unhide HX).at 3 _ rfl
          have x4 : w3.cell? ⟨w1.heap.size, 4, none⟩ = some (.int .i64 x.seq) := (unhide HX).at 4 _ rfl
          have xf := (unhide HX).soft
          have xl := (unhide HX).lt
          have z0 : w3.cell? ⟨w.heap.size, 0, none⟩ = some (.int .i64 0) := (unhide HR).at 0 _ rfl
          have z1 : w3.cell? ⟨w.heap.size, 1, none⟩ = some (.int .i64 0) := (unhide HR).at 1 _ rfl
          have z2 : w3.cell? ⟨w.heap.size, 2, none⟩ = some (.slice none 0 0) := (unhide HR).at 2 _ rfl
          have z3 : w3.cell? ⟨w.heap.size, 3, none⟩ = some (.int .i64 0) := (unhide HR).at 3 _ rfl
          have z4 : w3.cell? ⟨w.heap.size, 4, none⟩ = some (.int .i64 0) := (unhide HR).at 4 _ rfl
          have zf := (unhide HR).soft
          have zl := (unhide HR).lt
          have hE9 : ∀ u0 u1 u2 u3 u4 u5, Ext (fun c => c = w1.heap.size ∨ c = w.heap.size) w3 ((((((w3.setCell ⟨w1.heap.size, 4, none⟩ u0).setCell ⟨w.heap.size, 0, none⟩ u1).setCell ⟨w.heap.size, 1, none⟩ u2).setCell ⟨w.heap.size, 2, none⟩ u3).setCell ⟨w.heap.size, 3, none⟩ u4).setCell ⟨w.heap.size, 4, none⟩ u5) := fun u0 u1 u2 u3 u4 u5 => (((((((Ext.refl _ _).setCell _ _ (Or.inl rfl)).setCell _ _ (Or.inr rfl)).setCell _ _ (Or.inr rfl)).setCell _ _ (Or.inr rfl)).setCell _ _ (Or.inr rfl)).setCell _ _ (Or.inr rfl))
          go_wp2_with fail
          refine bodyPost_ret (v := .agg #[.int .i64 x.kind, .int .i64 x.id, .slice a2 x.vec.length d2, .int .i64 x.session, .int .i64 p]) (by simp [results, Tryd.results27, go_sem, z0, z1, z2, z3, z4]) rfl ?_
          have hlw : Lay.tWrite.lies w3 [.int .i64 x.kind, .int .i64 x.id, .slice a2 x.vec.length d2, .int .i64 x.session, .int .i64 p] ⟨x.kind, x.id, x.vec, x.session, p⟩ bl := lies_Write.2 ⟨a2, d2, bl, rfl, rfl, wk, wi, unhide HLV, wse, (show (Lit.int .i64 p).wf = true from wf_of_bd (by omega))⟩
          have hbl9 : ∀ c ∈ bl, w.heap.size < c ∧ c ≠ w1.heap.size := fun c hc => by have := unhide HBL c hc; omega
          obtain ⟨cs9, x9, bl9, m9, e9, q1, q2, q3, q4, q5, q6⟩ := closeW (m := m + 100) (unhide HE) (hE9 _ _ _ _ _ _) (Nat.le_of_lt hz1) hbw (unhide HS) (unhide HC) (by omega) hlw hbl9
          exact ⟨cs9, x9, bl9, m9, e9, q1, q2, q3, by omega, q5, q6⟩
        · have n3 : ((r : Int) == 3) = false := by simp; omega
          by_cases h4 : r = 4
          · subst h4
            have L := hide (bent b (m' + 1) cv w2 (unhide HS) (unhide HC) (by omega))
            have hz2 : w1.heap.size < w2.heap.size := (unhide HX).lt
            clear HS HC
            go_wp2_with fail
            refine (unhide L).mono ?_
            rintro e w3 ⟨v3, zs, m3, rfl, hzs, hNI, hm3, s3, c3, g3⟩
            obtain ⟨bz, hlz, hbz⟩ := hNI.lies (by omega)
            obtain ⟨a3, d3, rfl⟩ := open_sl ⟨bz, hlz⟩
            replace HE := hide ((unhide HE).trans ((ext_grown g3).mono fun k _ h => Or.inl h))
            replace HR := hide ((unhide HR).ext (ext_grown g3) (by omega))
            replace HX := hide ((unhide HX).ext (ext_grown g3) (by omega))
            replace HLV := hide ((Lay.sl Lay.int).keep (unhide HLV) fun c hc => g3.block c ((Lay.sl Lay.int).lt (unhide HLV) c hc) (fun e => by
              have h1 := unhide HBL c hc
              have h2 : c = b := Option.some.inj e
              omega))
            have HS := hide s3
            have HC := hide c3
            clear s3 c3 g3 L
            have x0 : w3.cell? ⟨w1.heap.size, 0, none⟩ = some (.int .i64 x.kind) := (unhide HX).at 0 _ rfl
            have x1 : w3.cell? ⟨w1.heap.size, 1, none⟩ = some (.int .i64 x.id) := (unhide HX).at 1 _ rfl
            have x2 : w3.cell? ⟨w1.heap.size, 2, none⟩ = some (.slice a2 x.vec.length d2) := (unhide HX).at 2 _ rfl
            have x3 : w3.cell? ⟨w1.heap.size, 3, none⟩ = some (.int .i64 x.session) := (unhide HX).at 3 _ rfl
            have x4 : w3.cell? ⟨w1.heap.size, 4, none⟩ = some (.int .i64 x.seq) := (unhide HX).at 4 _ rfl
            have xf := (unhide HX).soft
            have xl := (unhide HX).lt
            have z0 : w3.cell? ⟨w.heap.size, 0, none⟩ = some (.int .i64 0) := (unhide HR).at 0 _ rfl
            have z1 : w3.cell? ⟨w.heap.size, 1, none⟩ = some (.int .i64 0) := (unhide HR).at 1 _ rfl
            have z2 : w3.cell? ⟨w.heap.size, 2, none⟩ = some (.slice none 0 0) := (unhide HR).at 2 _ rfl
            have z3 : w3.cell? ⟨w.heap.size, 3, none⟩ = some (.int .i64 0) := (unhide HR).at 3 _ rfl
            have z4 : w3.cell? ⟨w.heap.size, 4, none⟩ = some (.int .i64 0) := (unhide HR).at 4 _ rfl
            have zf := (unhide HR).soft
            have zl := (unhide HR).lt
            have hE9 : ∀ u0 u1 u2 u3 u4 u5, Ext (fun c => c = w1.heap.size ∨ c = w.heap.size) w3 ((((((w3.setCell ⟨w1.heap.size, 2, none⟩ u0).setCell ⟨w.heap.size, 0, none⟩ u1).setCell ⟨w.heap.size, 1, none⟩ u2).setCell ⟨w.heap.size, 2, none⟩ u3).setCell ⟨w.heap.size, 3, none⟩ u4).setCell ⟨w.heap.size, 4, none⟩ u5) := fun u0 u1 u2 u3 u4 u5 => (((((((Ext.refl _ _).setCell _ _ (Or.inl rfl)).setCell _ _ (Or.inr rfl)).setCell _ _ (Or.inr rfl)).setCell _ _ (Or.inr rfl)).setCell _ _ (Or.inr rfl)).setCell _ _ (Or.inr rfl))
            go_wp2_with fail
            refine bodyPost_ret (v := .agg #[.int .i64 x.kind, .int .i64 x.id, .slice a3 zs.length d3, .int .i64 x.session, .int .i64 x.seq]) (by simp [results, Tryd.results27, go_sem, z0, z1, z2, z3, z4]) rfl ?_
            have hlw : Lay.tWrite.lies w3 [.int .i64 x.kind, .int .i64 x.id, .slice a3 zs.length d3, .int .i64 x.session, .int .i64 x.seq] ⟨x.kind, x.id, zs, x.session, x.seq⟩ bz := lies_Write.2 ⟨a3, d3, bz, rfl, rfl, wk, wi, hlz, wse, wsq⟩
            have hbl9 : ∀ c ∈ bz, w.heap.size < c ∧ c ≠ w1.heap.size := fun c hc => by have := hbz c hc; omega
            obtain ⟨cs9, x9, bl9, m9, e9, q1, q2, q3, q4, q5, q6⟩ := closeW (m := m + 100) (unhide HE) (hE9 _ _ _ _ _ _) (Nat.le_of_lt hz1) hbw (unhide HS) (unhide HC) (by omega) hlw hbl9
            exact ⟨cs9, x9, bl9, m9, e9, q1, q2, q3, by omega, q5, q6⟩
          · have n4 : ((r : Int) == 4) = false := by simp; omega
            have x0 : w2.cell? ⟨w1.heap.size, 0, none⟩ = some (.int .i64 x.kind) := (unhide HX).at 0 _ rfl
            have x1 : w2.cell? ⟨w1.heap.size, 1, none⟩ = some (.int .i64 x.id) := (unhide HX).at 1 _ rfl
            have x2 : w2.cell? ⟨w1.heap.size, 2, none⟩ = some (.slice a2 x.vec.length d2) := (unhide HX).at 2 _ rfl
            have x3 : w2.cell? ⟨w1.heap.size, 3, none⟩ = some (.int .i64 x.session) := (unhide HX).at 3 _ rfl
            have x4 : w2.cell? ⟨w1.heap.size, 4, none⟩ = some (.int .i64 x.seq) := (unhide HX).at 4 _ rfl
            have xf := (unhide HX).soft
            have xl := (unhide HX).lt
            have z0 : w2.cell? ⟨w.heap.size, 0, none⟩ = some (.int .i64 0) := (unhide HR).at 0 _ rfl
            have z1 : w2.cell? ⟨w.heap.size, 1, none⟩ = some (.int .i64 0) := (unhide HR).at 1 _ rfl
            have z2 : w2.cell? ⟨w.heap.size, 2, none⟩ = some (.slice none 0 0) := (unhide HR).at 2 _ rfl
            have z3 : w2.cell? ⟨w.heap.size, 3, none⟩ = some (.int .i64 0) := (unhide HR).at 3 _ rfl
            have z4 : w2.cell? ⟨w.heap.size, 4, none⟩ = some (.int .i64 0) := (unhide HR).at 4 _ rfl
            have zf := (unhide HR).soft
            have zl := (unhide HR).lt
            have hE9 : ∀ u0 u1 u2 u3 u4, Ext (fun c => c = w1.heap.size ∨ c = w.heap.size) w2 (((((w2.setCell ⟨w.heap.size, 0, none⟩ u0).setCell ⟨w.heap.size, 1, none⟩ u1).setCell ⟨w.heap.size, 2, none⟩ u2).setCell ⟨w.heap.size, 3, none⟩ u3).setCell ⟨w.heap.size, 4, none⟩ u4) := fun u0 u1 u2 u3 u4 => ((((((Ext.refl _ _).setCell _ _ (Or.inr rfl)).setCell _ _ (Or.inr rfl)).setCell _ _ (Or.inr rfl)).setCell _ _ (Or.inr rfl)).setCell _ _ (Or.inr rfl))
            go_wp2_with fail
            refine bodyPost_ret (v := .agg #[.int .i64 x.kind, .int .i64 x.id, .slice a2 x.vec.length d2, .int .i64 x.session, .int .i64 x.seq]) (by simp [results, Tryd.results27, go_sem, z0, z1, z2, z3, z4]) rfl ?_
            have hlw : Lay.tWrite.lies w2 [.int .i64 x.kind, .int .i64 x.id, .slice a2 x.vec.length d2, .int .i64 x.session, .int .i64 x.seq] x bl := lies_Write.2 ⟨a2, d2, bl, rfl, rfl, wk, wi, unhide HLV, wse, wsq⟩
            have hbl9 : ∀ c ∈ bl, w.heap.size < c ∧ c ≠ w1.heap.size := fun c hc => by have := unhide HBL c hc; omega
            obtain ⟨cs9, x9, bl9, m9, e9, q1, q2, q3, q4, q5, q6⟩ := closeW (m := m + 100) (unhide HE) (hE9 _ _ _ _ _) (Nat.le_of_lt hz1) hbw (unhide HS) (unhide HC) (by omega) hlw hbl9
            exact ⟨cs9, x9, bl9, m9, e9, q1, q2, q3, by omega, q5, q6⟩

end Go.Proofs.YtkodenmpadehjaaDoor

namespace Go.Proofs.YtkodenmpadehjaaDoor
open Go.RowKit

theorem grown_alloc {w w' : World} {o : Obj} {r : Option Nat} (h : (w.alloc o).grownBy w' r) : w.grownBy w' r := grown_trans (World.grownBy_alloc w o r) h

/-- At an operation of a plain region: 'append(s, q)', q laid into a block of its own first. -/
theorem wpList_append_int {w1 : World} {base : Nat} {v : Value} {n : Nat} {xs : List Value} (hown : w1.ownsRow base 2 1 v n xs) (q : Int) {ops : Array Oper} {rest : List Oper} {o : Oper} {a : Act} {Q : Exit → Act → World → Prop} (hgd : o.guard = none) (s x : Operand)
    (ho : o.op = .call { callee := .builtin .append, args := #[s, x], argTypes := #[25, 25] }) (hs : a.eval s = v) (hx : a.eval x = .slice (some ⟨w1.heap.size, 0, none⟩) 1 1)
    (hn : n ≤ 100000000) (hbase : base ≤ w1.heap.size)
    (h : ∀ g cap w', w'.ownsRow base 2 1 (.slice (some ⟨g, 0, none⟩) (n + 1) cap) (n + 1) (xs ++ [.int .i64 q]) → w1.grownBy w' v.ownBlock → Below base w1 w' → g < w'.heap.size → w1.heap.size < w'.heap.size → wpList Tryd.prog ops Q rest (a.put o.dst (.slice (some ⟨g, 0, none⟩) (n + 1) cap)) w') :
    wpList Tryd.prog ops Q (o :: rest) a (w1.alloc (.cells #[.int .i64 q] 2)) := by
  obtain ⟨i0, hi0, hz0, hz1, hz2⟩ := info_parts info2
  refine wpList_append_lies _ hgd s x 25 ho base 2 i0 _ 1 8 Tryd.underlying25 hi0 hz0 hz1 hz2 rfl (by omega) v n xs hs (hown.alloc _) ⟨w1.heap.size, 0, none⟩ 1 1 [.int .i64 q] hx rfl (World.news_of_block (cs := #[.int .i64 q]) (t := 2) (fr := (0, 0)) (heap_alloc_new w1 _)) (by simp [Value.oneCell']) (by omega) (by unfold maxLen; omega) (by omega) (by simp; omega) (w1.heap.size + 1) (by simp) ?_
  intro g cap w' h2 h3 _ h5
  have hg := grown_alloc h3
  have hsz := h3.size
  simp only [World.size_alloc] at hsz
  exact h g cap w' h2 hg ((Below.refl _ _).grown hg hbase (fun j hj => (hown.lt j hj).1)) h5 (by omega)

end Go.Proofs.YtkodenmpadehjaaDoor

namespace Go.Proofs.YtkodenmpadehjaaDoor
open Go.RowKit

theorem infoAppWrite : (Tryd.prog.info? 27).map (fun i => (i.zero, i.size, i.bytes)) = some (some (.agg #[.int .i64 0, .int .i64 0, .slice none 0 0, .int .i64 0, .int .i64 0]), 5, 56) := by kernel_rfl
theorem one_Write {w : World} {row : List Value} {x : DWrite} {bl : List Nat} (h : Lay.tWrite.lies w row x bl) : (∀ u ∈ row, u.oneCell' = true) ∧ row.length = 1 * 5 := by
  obtain ⟨_, _, _, rfl, -⟩ := lies_Write.1 h
  simp [Value.oneCell']

/-- At an operation of a plain region: the new one lies in a block of its own. -/
theorem wpList_append_Write {w1 : World} {base : Nat} {v : Value} {rows : List (List Value)} {xs : List DWrite} {bls : List (List Nat)} (hG : Grow Lay.tWrite w1 base 27 v rows xs bls) {row : List Value} {x : DWrite} {bl : List Nat} (hl : Lay.tWrite.lies w1 row x bl) (hbl : ∀ b ∈ bl, v.ownBlock ≠ some b) {ops : Array Oper} {rest : List Oper} {o : Oper} {a : Act} {Q : Exit → Act → World → Prop} (hgd : o.guard = none) (s y : Operand)
    (ho : o.op = .call { callee := .builtin .append, args := #[s, y], argTypes := #[24, 24] }) (hs : a.eval s = v) (hy : a.eval y = .slice (some ⟨w1.heap.size, 0, none⟩) 1 1) (hn : xs.length + 1 ≤ 100000000) (hbase : base ≤ w1.heap.size)
    (h : ∀ g cap w', Grow Lay.tWrite w' base 27 (.slice (some ⟨g, 0, none⟩) (xs.length + 1) cap) (rows ++ [row]) (xs ++ [x]) (bls ++ [bl]) → Below base w1 w' → Ext (fun q => v.ownBlock = some q) w1 w' → g < w'.heap.size → w1.heap.size ≤ w'.heap.size → (v.ownBlock = some g ∨ w1.heap.size ≤ g) → wpList Tryd.prog ops Q rest (a.put o.dst (.slice (some ⟨g, 0, none⟩) (xs.length + 1) cap)) w') :
    wpList Tryd.prog ops Q (o :: rest) a (w1.alloc (.cells row.toArray 27)) := by
  obtain ⟨i0, hi0, hz0, hz1, hz2⟩ := info_parts infoAppWrite
  obtain ⟨h1, hlen⟩ := one_Write hl
  refine wpList_append_lies _ hgd s y 24 ho base 27 i0 _ 5 56 Tryd.underlying24 hi0 hz0 hz1 hz2 rfl (by omega) v xs.length rows.flatten hs (hG.own.alloc _) ⟨w1.heap.size, 0, none⟩ 1 1 row hy hlen (World.news_of_block (cs := row.toArray) (t := 27) (fr := (0, 0)) (heap_alloc_new w1 _)) h1 (by omega) (by unfold maxLen; omega) (by omega) (by simp; omega) (w1.alloc (.cells row.toArray 27)).heap.size rfl ?_
  intro g cap w' h2 h3 h4 h5
  have hg := grown_alloc h3
  have hbw : Below base w1 w' := (Below.refl _ _).grown hg hbase (fun j hj => (hG.own.lt j hj).1)
  have hor : v.ownBlock = some g ∨ w1.heap.size ≤ g := by
    rcases h4 with h4 | h4
    · exact Or.inl h4
    · exact Or.inr (by rw [h4]; simp)
  exact h g cap w' (hG.snoc hl hbl h2 hg hor) hbw ⟨hbw.os, hbw.tape, hbw.output, hbw.size, fun k hk hn => hg.block k hk (fun e => hn e.symm)⟩ h5 hbw.size hor

/-- At a step of a region that draws its order. -/
theorem step_append_Write {w1 : World} {base : Nat} {v : Value} {rows : List (List Value)} {xs : List DWrite} {bls : List (List Nat)} (hG : Grow Lay.tWrite w1 base 27 v rows xs bls) {row : List Value} {x : DWrite} {bl : List Nat} (hl : Lay.tWrite.lies w1 row x bl) (hbl : ∀ b ∈ bl, v.ownBlock ≠ some b) {ops : Array Oper} {o : Oper} {a : Act} {K : Act → World → Prop} {Q : Exit → Act → World → Prop} {E : Prop} (hgd : o.guard = none) (s y : Operand)
    (ho : o.op = .call { callee := .builtin .append, args := #[s, y], argTypes := #[24, 24] }) (hs : a.eval s = v) (hy : a.eval y = .slice (some ⟨w1.heap.size, 0, none⟩) 1 1) (hn : xs.length + 1 ≤ 100000000) (hbase : base ≤ w1.heap.size)
    (h : ∀ g cap w', Grow Lay.tWrite w' base 27 (.slice (some ⟨g, 0, none⟩) (xs.length + 1) cap) (rows ++ [row]) (xs ++ [x]) (bls ++ [bl]) → Below base w1 w' → Ext (fun q => v.ownBlock = some q) w1 w' → g < w'.heap.size → w1.heap.size ≤ w'.heap.size → (v.ownBlock = some g ∨ w1.heap.size ≤ g) → K (a.put o.dst (.slice (some ⟨g, 0, none⟩) (xs.length + 1) cap)) w') :
    if Region.wanted o (yielded ops a.tmps) = true then Oper.wp Tryd.prog o a (w1.alloc (.cells row.toArray 27)) K Q else E := by
  obtain ⟨i0, hi0, hz0, hz1, hz2⟩ := info_parts infoAppWrite
  obtain ⟨h1, hlen⟩ := one_Write hl
  refine step_append_lies _ hgd s y 24 ho base 27 i0 _ 5 56 Tryd.underlying24 hi0 hz0 hz1 hz2 rfl (by omega) v xs.length rows.flatten hs (hG.own.alloc _) ⟨w1.heap.size, 0, none⟩ 1 1 row hy hlen (World.news_of_block (cs := row.toArray) (t := 27) (fr := (0, 0)) (heap_alloc_new w1 _)) h1 (by omega) (by unfold maxLen; omega) (by omega) (by simp; omega) (w1.alloc (.cells row.toArray 27)).heap.size rfl ?_
  intro g cap w' h2 h3 h4 h5
  have hg := grown_alloc h3
  have hbw : Below base w1 w' := (Below.refl _ _).grown hg hbase (fun j hj => (hG.own.lt j hj).1)
  have hor : v.ownBlock = some g ∨ w1.heap.size ≤ g := by
    rcases h4 with h4 | h4
    · exact Or.inl h4
    · exact Or.inr (by rw [h4]; simp)
  exact h g cap w' (hG.snoc hl hbl h2 hg hor) hbw ⟨hbw.os, hbw.tape, hbw.output, hbw.size, fun k hk hn => hg.block k hk (fun e => hn e.symm)⟩ h5 hbw.size hor

end Go.Proofs.YtkodenmpadehjaaDoor

namespace Go.Proofs.YtkodenmpadehjaaDoor
open Go.RowKit

set_option maxHeartbeats 400000 in
theorem toInts_pos (b off cap : Nat) (zs : List Int) (w : World) (hn : zs.length ≤ 1048576) (hc : ∀ j, j < zs.length → w.cell? ⟨b, off + j, none⟩ = some (.int .i64 (zs.getD j 0))) :
    Calls Tryd.prog 46 #[.slice (some ⟨b, off, none⟩) zs.length cap] w fun e w' => e = .returned (.slice (some ⟨w.heap.size, 0, none⟩) zs.length zs.length) ∧
      w'.ownsRow w.heap.size 2 1 (.slice (some ⟨w.heap.size, 0, none⟩) zs.length zs.length) zs.length (zs.map (Value.int .i64)) ∧ Below w.heap.size w w' := by
  obtain ⟨i0, hi, hz0, hz1, hz2⟩ := info_parts info2
  go_enter Tryd.func46, Tryd.ntmps46
  go_wp2_with (at_make; refine wpList_make_full _ rfl _ _ 25 rfl w.heap.size 2 i0 (.int .i64 0) 1 Tryd.underlying25 hi hz0 hz1 _ _ _ _ zs.length rfl rfl rfl rfl ?c1 ?c2 ?c3 ?_)
  case c1 => rw [hz2]; omega
  case c2 => unfold maxLen; omega
  case c3 => exact Nat.le_refl _
  intro w1 hown1 hgrow1
  have hB1 : Below w.heap.size w w1 := (Below.refl _ _).grown hgrow1 (Nat.le_refl _) (by simp)
  rw [toList_madeCells_one] at hown1
  clear hgrow1 hi hz0 hz1 hz2
  go_wp2
  go_loopw [4] (fun i wr => ∃ k : Nat, k ≤ zs.length ∧ i = .int .i64 k ∧ wr.ownsRow w.heap.size 2 1 (.slice (some ⟨w.heap.size, 0, none⟩) zs.length zs.length) zs.length ((zs.take k).map (Value.int .i64) ++ List.replicate (zs.length - k) (Value.int .i64 0)) ∧ Below w.heap.size w wr)
    (fun i _ => zs.length - (intOf i).toNat)
  case atStart => exact ⟨0, Nat.zero_le _, rfl, by simpa using hown1, hB1⟩
  case round =>
    obtain ⟨k, hk, rfl, hown, hB⟩ := hrel
    clear hown1 hB1
    by_cases hlt : k < zs.length
    · have hcx : wr.cell? ⟨b, off + k, none⟩ = some (.int .i64 (zs.getD k 0)) := (hB.cell (World.block_lt_of_cell? _ _ (hc k hlt))).trans (hc k hlt)
      have hcd : ∃ u, wr.cell? ⟨w.heap.size, k, none⟩ = some u := by
        rw [hown.cellAt k (by omega)]
        exact ⟨_, List.getElem?_eq_getElem (by simp; omega)⟩
      obtain ⟨u, hcd⟩ := hcd
      have hfz := hown.frozenAt k
      have hst := hown.stored k (.int .i64 (zs.getD k 0))
      rw [set_fill zs k hlt] at hst
      have R := hst.1
      have hB2 : Below w.heap.size w (wr.setCell ⟨w.heap.size, k, none⟩ (.int .i64 (zs.getD k 0))) := hB.setCell (by simp) _
      clear hst hown hB
      go_wp2
      go_roundw
      case rel => exact ⟨k + 1, by omega, by go_num, by simpa [hlt] using R, by simpa [hlt] using hB2⟩
      case measure => simp [intOf]; omega
    · have hk2 : k = zs.length := by omega
      go_wp2
      go_ret
      subst hk2
      exact ⟨rfl, by simpa using hown, hB⟩

set_option maxHeartbeats 400000 in
theorem toInts_zero (ao : Option Addr) (cap : Nat) (w : World) :
    Calls Tryd.prog 46 #[.slice ao 0 cap] w fun e w' => e = .returned (.slice (some ⟨w.heap.size, 0, none⟩) 0 0) ∧
      w'.ownsRow w.heap.size 2 1 (.slice (some ⟨w.heap.size, 0, none⟩) 0 0) 0 [] ∧ Below w.heap.size w w' := by
  obtain ⟨i0, hi, hz0, hz1, hz2⟩ := info_parts info2
  go_enter Tryd.func46, Tryd.ntmps46
  go_wp2_with (at_make; refine wpList_make_full _ rfl _ _ 25 rfl w.heap.size 2 i0 (.int .i64 0) 1 Tryd.underlying25 hi hz0 hz1 _ _ _ _ 0 rfl rfl rfl rfl ?c1 ?c2 ?c3 ?_)
  case c1 => rw [hz2]; omega
  case c2 => unfold maxLen; omega
  case c3 => exact Nat.le_refl _
  intro w1 hown1 hgrow1
  have hB1 : Below w.heap.size w w1 := (Below.refl _ _).grown hgrow1 (Nat.le_refl _) (by simp)
  clear hgrow1 hi hz0 hz1 hz2
  rw [toList_madeCells_one] at hown1
  go_wp2
  refine wp_loop_rounds 1 ?_
  rw [rounds_succ]
  go_wp2
  go_ret
  exact ⟨rfl, by simpa using hown1, hB1⟩

/-- toInt64S: a new slice of the same numbers. -/
theorem toInts (v : Value) (zs : List Int) (w : World) (h : IsInts w v zs) (hn : zs.length ≤ 1048576) :
    Calls Tryd.prog 46 #[v] w fun e w' => ∃ v', e = .returned v' ∧ v' = .slice (some ⟨w.heap.size, 0, none⟩) zs.length zs.length ∧
      w'.ownsRow w.heap.size 2 1 v' zs.length (zs.map (Value.int .i64)) ∧ IsInts w' v' zs ∧ Below w.heap.size w w' := by
  obtain ⟨ao, cap, rfl, hwf, hc⟩ := h
  by_cases hp : 0 < zs.length
  · obtain ⟨b, off, rfl, hc1⟩ := hc hp
    refine (toInts_pos b off cap zs w hn hc1).mono ?_
    rintro e w' ⟨rfl, ho, hb⟩
    exact ⟨_, rfl, rfl, ho, isInts_owned hwf ho, hb⟩
  · have hz : zs = [] := List.eq_nil_of_length_eq_zero (by omega)
    subst hz
    refine (toInts_zero ao cap w).mono ?_
    rintro e w' ⟨rfl, ho, hb⟩
    exact ⟨_, rfl, rfl, ho, isInts_owned hwf ho, hb⟩

set_option maxHeartbeats 400000 in
theorem eqInts_pos (b off cap b2 off2 cap2 : Nat) (zs : List Int) (w : World) (hn : zs.length ≤ 9223372036854775807) (hc : ∀ j, j < zs.length → w.cell? ⟨b, off + j, none⟩ = some (.int .i64 (zs.getD j 0)))
    (hc2 : ∀ j, j < zs.length → w.cell? ⟨b2, off2 + j, none⟩ = some (.int .i64 (zs.getD j 0))) :
    Calls Tryd.prog 47 #[.slice (some ⟨b, off, none⟩) zs.length cap, .slice (some ⟨b2, off2, none⟩) zs.length cap2] w fun e w' => e = .returned (.bool true) ∧ Below w.heap.size w w' := by
  go_enter Tryd.func47, Tryd.ntmps47
  go_wp2
  go_loopw [5] (fun i wr => ∃ k : Nat, k ≤ zs.length ∧ i = .int .i64 k ∧ Below w.heap.size w wr) (fun i _ => zs.length - (intOf i).toNat)
  case atStart => exact ⟨0, Nat.zero_le _, rfl, Below.refl _ _⟩
  case round =>
    obtain ⟨k, hk, rfl, hB⟩ := hrel
    by_cases hlt : k < zs.length
    · have hcx : wr.cell? ⟨b, off + k, none⟩ = some (.int .i64 (zs.getD k 0)) := (hB.cell (World.block_lt_of_cell? _ _ (hc k hlt))).trans (hc k hlt)
      have hcy : wr.cell? ⟨b2, off2 + k, none⟩ = some (.int .i64 (zs.getD k 0)) := (hB.cell (World.block_lt_of_cell? _ _ (hc2 k hlt))).trans (hc2 k hlt)
      clear hc hc2
      go_wp2
      go_quiet (fail)
      go_wp2
      go_roundw
      case rel => exact ⟨k + 1, by omega, by go_num, below_drewN hB _⟩
      case measure => simp [intOf]; omega
    · go_wp2
      go_ret
      exact ⟨rfl, hB⟩

set_option maxHeartbeats 400000 in
theorem eqInts_zero (ao ao2 : Option Addr) (cap cap2 : Nat) (w : World) :
    Calls Tryd.prog 47 #[.slice ao 0 cap, .slice ao2 0 cap2] w fun e w' => e = .returned (.bool true) ∧ Below w.heap.size w w' := by
  go_enter Tryd.func47, Tryd.ntmps47
  go_wp2
  refine wp_loop_rounds 1 ?_
  rw [rounds_succ]
  go_wp2
  go_ret
  exact ⟨rfl, Below.refl _ _⟩

/-- eqInt64S: two slices of the same numbers are the same. -/
theorem eqIntsBig (v v2 : Value) (zs : List Int) (w : World) (h : IsInts w v zs) (h2 : IsInts w v2 zs) (hn : zs.length ≤ 9223372036854775807) :
    Calls Tryd.prog 47 #[v, v2] w fun e w' => e = .returned (.bool true) ∧ Below w.heap.size w w' := by
  obtain ⟨ao, cap, rfl, hwf, hc⟩ := h
  obtain ⟨ao2, cap2, rfl, _, hc2⟩ := h2
  by_cases hp : 0 < zs.length
  · obtain ⟨b, off, rfl, hc1⟩ := hc hp
    obtain ⟨b2, off2, rfl, hc3⟩ := hc2 hp
    exact eqInts_pos b off cap b2 off2 cap2 zs w hn hc1 hc3
  · have hz : zs = [] := List.eq_nil_of_length_eq_zero (by omega)
    subst hz
    exact eqInts_zero ao ao2 cap cap2 w
theorem eqInts (v v2 : Value) (zs : List Int) (w : World) (h : IsInts w v zs) (h2 : IsInts w v2 zs) (hn : zs.length ≤ 1048576) :
    Calls Tryd.prog 47 #[v, v2] w fun e w' => e = .returned (.bool true) ∧ Below w.heap.size w w' := eqIntsBig v v2 zs w h h2 (by omega)

end Go.Proofs.YtkodenmpadehjaaDoor

namespace Go.Proofs.YtkodenmpadehjaaDoor
open Go.RowKit

theorem Box.five {lo : Nat} {x0 x1 x2 x3 x4 : Value} {T : TypeId} {W : World} {s : Nat} (h : Box lo #[x0, x1, x2, x3, x4] T W s) :
    (W.cell? ⟨s, 0, none⟩ = some x0 ∧ W.cell? ⟨s, 1, none⟩ = some x1 ∧ W.cell? ⟨s, 2, none⟩ = some x2 ∧ W.cell? ⟨s, 3, none⟩ = some x3 ∧ W.cell? ⟨s, 4, none⟩ = some x4) ∧ (∀ o, W.frozen? ⟨s, o, none⟩ = false) ∧ s < W.heap.size := by
  refine ⟨⟨?_, ?_, ?_, ?_, ?_⟩, fun o => ?_, h.lt⟩
  all_goals first | simp [World.cell?, h.2] | simp [World.frozen?, h.2]
theorem Box.alloc {lo : Nat} {cs : Array Value} {T : TypeId} {W : World} {s : Nat} (h : Box lo cs T W s) (o : Obj) : Box lo cs T (W.alloc o) s := ⟨h.1, (Below.heap_alloc W o s h.lt).trans h.2⟩

set_option maxRecDepth 100000 in
set_option maxHeartbeats 1000000 in
theorem toWrite (k i : Int) (v : Value) (s q : Int) (zs : List Int) (w : World) (h : IsInts w v zs) (hn : zs.length ≤ 1048576) :
    Calls Tryd.prog 17 #[.agg #[.int .i64 k, .int .i64 i, v, .int .i64 s, .int .i64 q]] w fun e w' => ∃ g : Nat, e = .returned (.agg #[.int .i64 k, .int .i64 i, .slice (some ⟨g, 0, none⟩) zs.length zs.length, .int .i64 s, .int .i64 q]) ∧
      w'.ownsRow w.heap.size 2 1 (.slice (some ⟨g, 0, none⟩) zs.length zs.length) zs.length (zs.map (Value.int .i64)) ∧ Below w.heap.size w w' := by
  have h' := h
  obtain ⟨ao, cap, rfl, -⟩ := h'
  go_enter Tryd.func17, Tryd.ntmps17
  go_wp2_with fail
  have bA : Box w.heap.size #[.int .i64 k, .int .i64 i, .slice ao zs.length cap, .int .i64 s, .int .i64 q] 43 (((w.alloc (.cells #[.int .i64 k, .int .i64 i, .slice ao zs.length cap, .int .i64 s, .int .i64 q] 43)).alloc (.cells #[.int .i64 0, .int .i64 0, .slice none 0 0, .int .i64 0, .int .i64 0] 27)).alloc (.cells #[.int .i64 k, .int .i64 i, .slice none 0 0, .int .i64 0, .int .i64 0] 27)) w.heap.size := ((newBox (Nat.le_refl _)).alloc _).alloc _
  have bZ : Box w.heap.size #[.int .i64 0, .int .i64 0, .slice none 0 0, .int .i64 0, .int .i64 0] 27 (((w.alloc (.cells #[.int .i64 k, .int .i64 i, .slice ao zs.length cap, .int .i64 s, .int .i64 q] 43)).alloc (.cells #[.int .i64 0, .int .i64 0, .slice none 0 0, .int .i64 0, .int .i64 0] 27)).alloc (.cells #[.int .i64 k, .int .i64 i, .slice none 0 0, .int .i64 0, .int .i64 0] 27)) (w.heap.size + 1) := by
    have := (newBox (lo := w.heap.size) (cs := #[.int .i64 0, .int .i64 0, .slice none 0 0, .int .i64 0, .int .i64 0]) (T := 27) (W := w.alloc (.cells #[.int .i64 k, .int .i64 i, .slice ao zs.length cap, .int .i64 s, .int .i64 q] 43)) (by simp)).alloc (.cells #[.int .i64 k, .int .i64 i, .slice none 0 0, .int .i64 0, .int .i64 0] 27)
    simpa using this
  have bO : Box w.heap.size #[.int .i64 k, .int .i64 i, .slice none 0 0, .int .i64 0, .int .i64 0] 27 (((w.alloc (.cells #[.int .i64 k, .int .i64 i, .slice ao zs.length cap, .int .i64 s, .int .i64 q] 43)).alloc (.cells #[.int .i64 0, .int .i64 0, .slice none 0 0, .int .i64 0, .int .i64 0] 27)).alloc (.cells #[.int .i64 k, .int .i64 i, .slice none 0 0, .int .i64 0, .int .i64 0] 27)) (w.heap.size + 1 + 1) := by
    have := newBox (lo := w.heap.size) (cs := #[.int .i64 k, .int .i64 i, .slice none 0 0, .int .i64 0, .int .i64 0]) (T := 27) (W := (w.alloc (.cells #[.int .i64 k, .int .i64 i, .slice ao zs.length cap, .int .i64 s, .int .i64 q] 43)).alloc (.cells #[.int .i64 0, .int .i64 0, .slice none 0 0, .int .i64 0, .int .i64 0] 27)) (by simp; omega)
    simpa using this
  have B0 : Below w.heap.size w (((w.alloc (.cells #[.int .i64 k, .int .i64 i, .slice ao zs.length cap, .int .i64 s, .int .i64 q] 43)).alloc (.cells #[.int .i64 0, .int .i64 0, .slice none 0 0, .int .i64 0, .int .i64 0] 27)).alloc (.cells #[.int .i64 k, .int .i64 i, .slice none 0 0, .int .i64 0, .int .i64 0] 27)) := (((Below.refl _ _).alloc (Nat.le_refl _) _).alloc (by simp) _).alloc (by simp; omega) _
  have hz0 : (((w.alloc (.cells #[.int .i64 k, .int .i64 i, .slice ao zs.length cap, .int .i64 s, .int .i64 q] 43)).alloc (.cells #[.int .i64 0, .int .i64 0, .slice none 0 0, .int .i64 0, .int .i64 0] 27)).alloc (.cells #[.int .i64 k, .int .i64 i, .slice none 0 0, .int .i64 0, .int .i64 0] 27)).heap.size = w.heap.size + 3 := by simp
  generalize ((w.alloc (.cells #[.int .i64 k, .int .i64 i, .slice ao zs.length cap, .int .i64 s, .int .i64 q] 43)).alloc (.cells #[.int .i64 0, .int .i64 0, .slice none 0 0, .int .i64 0, .int .i64 0] 27)).alloc (.cells #[.int .i64 k, .int .i64 i, .slice none 0 0, .int .i64 0, .int .i64 0] 27) = W0 at *
  refine (toInts _ zs _ (h.later B0) hn).mono ?_
  rintro e w1 ⟨v1, rfl, rfl, ho, -, hb⟩
  obtain ⟨⟨-, -, -, a3, a4⟩, -, -⟩ := (bA.keep hb).five
  obtain ⟨⟨z0, z1, z2, z3, z4⟩, zf, zl⟩ := (bZ.keep hb).five
  obtain ⟨⟨o0, o1, o2, o3, o4⟩, of, ol⟩ := (bO.keep hb).five
  have HB := hide (B0.trans (hb.mono B0.size))
  have HO := hide ho
  generalize W0.heap.size = g at *
  subst hz0
  clear hb bA bZ bO B0 ho h
  go_wp2_with fail
  refine bodyPost_ret (v := .agg #[.int .i64 k, .int .i64 i, .slice (some ⟨w.heap.size + 3, 0, none⟩) zs.length zs.length, .int .i64 s, .int .i64 q]) (by simp [results, Tryd.results17, go_sem, z0, z1, z2, z3, z4]) rfl ?_
  refine ⟨w.heap.size + 3, rfl, own_mono (b := w.heap.size + 3) (by omega) ?_, ?_⟩
  · refine own_setC (own_setC (own_setC (own_setC (own_setC (own_setC (own_setC (own_setC (unhide HO) ?_ _) ?_ _) ?_ _) ?_ _) ?_ _) ?_ _) ?_ _) ?_ _ <;> simp
  · refine ((((((((unhide HB).setCell ?_ _).setCell ?_ _).setCell ?_ _).setCell ?_ _).setCell ?_ _).setCell ?_ _).setCell ?_ _).setCell ?_ _ <;> simp <;> omega

theorem szInts_ok (ao : Option Addr) (n cap : Nat) (l : Nat) (w : World) (hn : n ≤ l) (hl : l ≤ 1048576) :
    Calls Tryd.prog 45 #[.slice ao n cap, .int .i64 l] w fun e w' => e = .returned (.int .i64 ((l - n : Nat) : Int)) ∧ w' = w := by
  have e1 : (l : Int) - (n : Int) = ((l - n : Nat) : Int) := by omega
  have e2 : decide (((l - n : Nat) : Int) < 0) = false := by simp
  go_enter Tryd.func45, Tryd.ntmps45
  go_wp2_with fail
  go_ret
  exact ⟨rfl, rfl⟩
theorem szInts_many (ao : Option Addr) (n cap : Nat) (l : Nat) (w : World) (hn : l < n) (hl : l ≤ 1048576) (hm : n ≤ 9223372036854775807) :
    Calls Tryd.prog 45 #[.slice ao n cap, .int .i64 l] w fun e w' => e = .returned (.int .i64 (-1)) ∧ w' = w := by
  have e2 : decide ((l : Int) - (n : Int) < 0) = true := by simp; omega
  go_enter Tryd.func45, Tryd.ntmps45
  go_wp2_with fail
  go_ret
  exact ⟨rfl, rfl⟩

theorem szWrite_ok (k i : Int) (ao : Option Addr) (n cap : Nat) (s q : Int) (l : Nat) (w : World) (hn : n ≤ l) (hl : l ≤ 1048576) :
    Calls Tryd.prog 15 #[.agg #[.int .i64 k, .int .i64 i, .slice ao n cap, .int .i64 s, .int .i64 q], .int .i64 l] w fun e w' => e = .returned (.int .i64 ((l - n : Nat) : Int)) ∧ Below w.heap.size w w' := by
  have B0 : ∀ o, Below w.heap.size w (w.alloc o) := fun o => (Below.refl _ _).alloc (Nat.le_refl _) o
  have e2 : decide (((l - n : Nat) : Int) < 0) = false := by simp
  go_enter Tryd.func15, Tryd.ntmps15
  go_wp2_with fail
  refine (szInts_ok ao n cap l _ hn hl).mono ?_
  rintro e w1 ⟨rfl, rfl⟩
  go_wp2_with fail
  go_ret
  exact ⟨rfl, B0 _⟩
theorem szWrite_many (k i : Int) (ao : Option Addr) (n cap : Nat) (s q : Int) (l : Nat) (w : World) (hn : l < n) (hl : l ≤ 1048576) (hm : n ≤ 9223372036854775807) :
    Calls Tryd.prog 15 #[.agg #[.int .i64 k, .int .i64 i, .slice ao n cap, .int .i64 s, .int .i64 q], .int .i64 l] w fun e w' => e = .returned (.int .i64 (-1)) ∧ Below w.heap.size w w' := by
  have B0 : ∀ o, Below w.heap.size w (w.alloc o) := fun o => (Below.refl _ _).alloc (Nat.le_refl _) o
  go_enter Tryd.func15, Tryd.ntmps15
  go_wp2_with fail
  refine (szInts_many ao n cap l _ hn hl hm).mono ?_
  rintro e w1 ⟨rfl, rfl⟩
  go_wp2_with fail
  go_ret
  exact ⟨rfl, B0 _⟩

set_option maxHeartbeats 1000000 in
theorem eqWrite (k i : Int) (u v : Value) (s q : Int) (zs : List Int) (w : World) (h : IsInts w u zs) (h2 : IsInts w v zs) (hn : zs.length ≤ 1048576) :
    Calls Tryd.prog 20 #[.agg #[.int .i64 k, .int .i64 i, u, .int .i64 s, .int .i64 q], .agg #[.int .i64 k, .int .i64 i, v, .int .i64 s, .int .i64 q]] w fun e w' => e = .returned (.bool true) ∧ Below w.heap.size w w' := by
  have hu : ∃ a n c, u = .slice a n c := by obtain ⟨a, c, h, -⟩ := h; exact ⟨a, _, c, h⟩
  have hv : ∃ a n c, v = .slice a n c := by obtain ⟨a, c, h, -⟩ := h2; exact ⟨a, _, c, h⟩
  obtain ⟨au, nu, cu, rfl⟩ := hu
  obtain ⟨av, nv, cv, rfl⟩ := hv
  have e1 : (k != k) = false := by simp
  have e2 : (i != i) = false := by simp
  have e3 : (s != s) = false := by simp
  have e4 : (q != q) = false := by simp
  have B0 : Below w.heap.size w ((w.alloc (.cells #[.int .i64 k, .int .i64 i, .slice au nu cu, .int .i64 s, .int .i64 q] 27)).alloc (.cells #[.int .i64 k, .int .i64 i, .slice av nv cv, .int .i64 s, .int .i64 q] 27)) := ((Below.refl _ _).alloc (Nat.le_refl _) _).alloc (by simp) _
  have bA : Box w.heap.size #[.int .i64 k, .int .i64 i, .slice au nu cu, .int .i64 s, .int .i64 q] 27 ((w.alloc (.cells #[.int .i64 k, .int .i64 i, .slice au nu cu, .int .i64 s, .int .i64 q] 27)).alloc (.cells #[.int .i64 k, .int .i64 i, .slice av nv cv, .int .i64 s, .int .i64 q] 27)) w.heap.size := (newBox (Nat.le_refl _)).alloc _
  have bC : Box w.heap.size #[.int .i64 k, .int .i64 i, .slice av nv cv, .int .i64 s, .int .i64 q] 27 ((w.alloc (.cells #[.int .i64 k, .int .i64 i, .slice au nu cu, .int .i64 s, .int .i64 q] 27)).alloc (.cells #[.int .i64 k, .int .i64 i, .slice av nv cv, .int .i64 s, .int .i64 q] 27)) (w.heap.size + 1) := by
    have := newBox (lo := w.heap.size) (cs := #[.int .i64 k, .int .i64 i, .slice av nv cv, .int .i64 s, .int .i64 q]) (T := 27) (W := w.alloc (.cells #[.int .i64 k, .int .i64 i, .slice au nu cu, .int .i64 s, .int .i64 q] 27)) (by simp)
    simpa using this
  go_enter Tryd.func20, Tryd.ntmps20
  go_wp2_with fail
  generalize (w.alloc (.cells #[.int .i64 k, .int .i64 i, .slice au nu cu, .int .i64 s, .int .i64 q] 27)).alloc (.cells #[.int .i64 k, .int .i64 i, .slice av nv cv, .int .i64 s, .int .i64 q] 27) = W0 at *
  refine (eqInts _ _ zs _ (h.later B0) (h2.later B0) hn).mono ?_
  rintro e w1 ⟨rfl, hb⟩
  obtain ⟨⟨-, -, -, a3, a4⟩, -, -⟩ := (bA.keep hb).five
  obtain ⟨⟨-, -, -, c3, c4⟩, -, -⟩ := (bC.keep hb).five
  have HB := hide (B0.trans (hb.mono B0.size))
  clear hb bA bC B0 h h2
  go_wp2_with fail
  go_ret
  exact ⟨rfl, unhide HB⟩

end Go.Proofs.YtkodenmpadehjaaDoor

namespace Go.Proofs.YtkodenmpadehjaaDoor
open Go.RowKit

theorem inC (v lo hi : Int) (w : World) :
    Calls Tryd.prog 58 #[.int .i64 v, .int .i64 lo, .int .i64 hi] w fun e w' => e = .returned (.bool (decide (lo ≤ v) && decide (v ≤ hi))) ∧ w' = w := by
  by_cases h1 : lo ≤ v
  · have d1 : decide (lo ≤ v) = true := by simpa using h1
    rw [d1]
    cases d2 : decide (v ≤ hi) <;>
    · go_enter Tryd.func58, Tryd.ntmps58
      go_wp2_with fail
      go_ret
      exact ⟨rfl, rfl⟩
  · have d1 : decide (lo ≤ v) = false := by simpa using h1
    rw [d1]
    go_enter Tryd.func58, Tryd.ntmps58
    go_wp2_with fail
    go_ret
    exact ⟨rfl, rfl⟩
theorem idC (x : Int) (w : World) : Calls Tryd.prog 59 #[.int .i64 x] w fun e w' => e = .returned (.bool (decide (1 ≤ x) && decide (x ≤ 999))) ∧ w' = w := by
  go_enter Tryd.func59, Tryd.ntmps59
  go_wp2_with fail
  refine (inC x 1 999 _).mono ?_
  rintro e w1 ⟨rfl, rfl⟩
  go_wp2_with fail
  go_ret
  exact ⟨rfl, rfl⟩

end Go.Proofs.YtkodenmpadehjaaDoor

namespace Go.Proofs.YtkodenmpadehjaaDoor
open Go.RowKit

theorem sessionC (x : Int) (w : World) : Calls Tryd.prog 60 #[.int .i64 x] w fun e w' => e = .returned (.bool (decide (1 ≤ x) && decide (x ≤ 9))) ∧ w' = w := by
  go_enter Tryd.func60, Tryd.ntmps60
  go_wp2_with fail
  refine (inC x 1 9 _).mono ?_
  rintro e w1 ⟨rfl, rfl⟩
  go_wp2_with fail
  go_ret
  exact ⟨rfl, rfl⟩

end Go.Proofs.YtkodenmpadehjaaDoor

namespace Go.Proofs.YtkodenmpadehjaaDoor
open Go.RowKit

set_option maxHeartbeats 400000 in
theorem implFault_len (ao : Option Addr) (n cap : Nat) (w : World) (h : n ≠ 3) :
    Calls Tryd.prog 69 #[.slice ao n cap] w fun e w' => e = .returned (.int .i64 1) ∧ w' = w := by
  have h3 : ((n : Int) != 3) = true := by rw [bne_iff_ne]; omega
  go_enter Tryd.func69, Tryd.ntmps69
  go_wp2
  go_ret
  exact ⟨rfl, rfl⟩

set_option maxHeartbeats 400000 in
theorem implFault_three (b off cap : Nat) (zs : List Int) (w : World) (h : zs.length = 3) (hc : ∀ j, j < 3 → w.cell? ⟨b, off + j, none⟩ = some (.int .i64 (zs.getD j 0))) :
    Calls Tryd.prog 69 #[.slice (some ⟨b, off, none⟩) 3 cap] w fun e w' => e = .returned (.int .i64 (vecFault zs)) ∧ w' = w := by
  go_enter Tryd.func69, Tryd.ntmps69
  go_wp2
  go_loop [10] (fun i => ∃ k : Nat, k ≤ 3 ∧ i = .int .i64 k ∧ ∀ j, j < k → partB (zs.getD j 0) = true) (fun i => 3 - (intOf i).toNat)
  case atStart => exact ⟨0, Nat.zero_le _, rfl, fun j hj => by omega⟩
  case round =>
    obtain ⟨k, hk, rfl, hg⟩ := hrel
    have HG : Hid (∀ j, j < k → partB (zs.getD j 0) = true) := hg
    have HL : Hid (zs.length = 3) := h
    clear hg h
    by_cases hlt : k < 3
    · have hcx : w.cell? ⟨b, off + k, none⟩ = some (.int .i64 (zs.getD k 0)) := hc k hlt
      obtain ⟨z, hz⟩ : ∃ z, z = zs.getD k 0 := ⟨_, rfl⟩
      rw [← hz] at hcx
      have HZ : Hid (z = zs.getD k 0) := hz
      clear hz hc
      cases hp : partB z with
      | true =>
        have hb := partB_true hp
        have HP : Hid (partB z = true) := hp
        clear hp
        obtain ⟨hb1, hb2⟩ := hb
        go_wp2
        go_round
        case rel =>
          refine ⟨k + 1, by omega, by go_num, fun j hj => ?_⟩
          by_cases hjk : j < k
          · exact HG.out j hjk
          · rw [show j = k by omega, ← HZ.out]; exact HP.out
        case measure => simp [intOf]; omega
      | false =>
        have HV : Hid (vecFault zs = 3) := vecFault_bad HL.out k hlt (by rw [← HZ.out]; exact hp)
        have hb := partB_false hp
        clear hp
        rcases hb with hb | hb
        · go_wp2
          go_ret
          exact ⟨by rw [HV.out]; rfl, rfl⟩
        · have hb1 : -1000 ≤ z := by omega
          have hd : decide (z ≤ 1000) = false := by simp; omega
          go_wp2
          go_ret
          exact ⟨by rw [HV.out]; rfl, rfl⟩
    · have HV : Hid (vecFault zs = 0) := vecFault_ok HL.out (fun j hj => HG.out j (by omega))
      go_wp2
      go_ret
      exact ⟨by rw [HV.out]; rfl, rfl⟩

set_option maxHeartbeats 400000 in
theorem modelFault_len (ao : Option Addr) (n cap : Nat) (w : World) (h : n ≠ 3) :
    Calls Tryd.prog 61 #[.slice ao n cap] w fun e w' => e = .returned (.int .i64 1) ∧ w' = w := by
  have h3 : ((n : Int) != 3) = true := by rw [bne_iff_ne]; omega
  go_enter Tryd.func61, Tryd.ntmps61
  go_wp2
  go_ret
  exact ⟨rfl, rfl⟩

set_option maxHeartbeats 400000 in
theorem modelFault_three (b off cap : Nat) (zs : List Int) (w : World) (h : zs.length = 3) (hc : ∀ j, j < 3 → w.cell? ⟨b, off + j, none⟩ = some (.int .i64 (zs.getD j 0))) :
    Calls Tryd.prog 61 #[.slice (some ⟨b, off, none⟩) 3 cap] w fun e w' => e = .returned (.int .i64 (vecFault zs)) ∧ w' = w := by
  go_enter Tryd.func61, Tryd.ntmps61
  go_wp2
  go_loop [3] (fun i => ∃ k : Nat, k ≤ 3 ∧ i = .int .i64 k ∧ ∀ j, j < k → partB (zs.getD j 0) = true) (fun i => 3 - (intOf i).toNat)
  case atStart => exact ⟨0, Nat.zero_le _, rfl, fun j hj => by omega⟩
  case round =>
    obtain ⟨k, hk, rfl, hg⟩ := hrel
    have HG : Hid (∀ j, j < k → partB (zs.getD j 0) = true) := hg
    have HL : Hid (zs.length = 3) := h
    clear hg h
    by_cases hlt : k < 3
    · have hcx : w.cell? ⟨b, off + k, none⟩ = some (.int .i64 (zs.getD k 0)) := hc k hlt
      obtain ⟨z, hz⟩ : ∃ z, z = zs.getD k 0 := ⟨_, rfl⟩
      rw [← hz] at hcx
      have HZ : Hid (z = zs.getD k 0) := hz
      clear hz hc
      cases hp : partB z with
      | true =>
        have hb := partB_true hp
        have HP : Hid (partB z = true) := hp
        clear hp
        obtain ⟨hb1, hb2⟩ := hb
        go_wp2
        go_round
        case rel =>
          refine ⟨k + 1, by omega, by go_num, fun j hj => ?_⟩
          by_cases hjk : j < k
          · exact HG.out j hjk
          · rw [show j = k by omega, ← HZ.out]; exact HP.out
        case measure => simp [intOf]; omega
      | false =>
        have HV : Hid (vecFault zs = 3) := vecFault_bad HL.out k hlt (by rw [← HZ.out]; exact hp)
        have hb := partB_false hp
        clear hp
        rcases hb with hb | hb
        · go_wp2
          go_ret
          exact ⟨by rw [HV.out]; rfl, rfl⟩
        · have hb1 : -1000 ≤ z := by omega
          have hd : decide (z ≤ 1000) = false := by simp; omega
          go_wp2
          go_ret
          exact ⟨by rw [HV.out]; rfl, rfl⟩
    · have HV : Hid (vecFault zs = 0) := vecFault_ok HL.out (fun j hj => HG.out j (by omega))
      go_wp2
      go_ret
      exact ⟨by rw [HV.out]; rfl, rfl⟩


/-- VecFault of the program. -/
theorem implFault (v : Value) (zs : List Int) (w : World) (h : IsInts w v zs) :
    Calls Tryd.prog 69 #[v] w fun e w' => e = .returned (.int .i64 (vecFault zs)) ∧ w' = w := by
  obtain ⟨ao, cap, rfl, hwf, hc⟩ := h
  by_cases h3 : zs.length = 3
  · obtain ⟨b, off, rfl, hc1⟩ := hc (by omega)
    rw [h3] at hc1 ⊢
    exact implFault_three b off cap zs w h3 hc1
  · rw [vecFault_len h3]
    exact implFault_len ao zs.length cap w h3

/-- VecFault of the model. -/
theorem modelFault (v : Value) (zs : List Int) (w : World) (h : IsInts w v zs) :
    Calls Tryd.prog 61 #[v] w fun e w' => e = .returned (.int .i64 (vecFault zs)) ∧ w' = w := by
  obtain ⟨ao, cap, rfl, hwf, hc⟩ := h
  by_cases h3 : zs.length = 3
  · obtain ⟨b, off, rfl, hc1⟩ := hc (by omega)
    rw [h3] at hc1 ⊢
    exact modelFault_three b off cap zs w h3 hc1
  · rw [vecFault_len h3]
    exact modelFault_len ao zs.length cap w h3

end Go.Proofs.YtkodenmpadehjaaDoor
