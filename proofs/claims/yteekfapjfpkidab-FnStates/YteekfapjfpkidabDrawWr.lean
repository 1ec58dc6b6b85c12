/-
  The draws of writes: l3Draw, l3Bent; whatever is drawn is some write, its vector in the draw's own memory.
  Condition: at most 1000000 numbers have been drawn before.
-/
import Derived.Test.YteekfapjfpkidabSource
import Derived.Test.YteekfapjfpkidabDraw3
import Derived.Test.YteekfapjfpkidabTabGround
namespace Go.Proofs.Yteekfapjfpkidab
open Go.RowKit

theorem grown_onW {a b c : World} {s : Option Nat} (h : a.grownBy b s) (k : Below b.heap.size b c) : a.grownBy c s :=
  ⟨k.os.trans h.os, k.tape.trans h.tape, k.output.trans h.output, Nat.le_trans h.size k.size, fun i hi hn => (k.block i (Nat.lt_of_lt_of_le hi h.size)).trans (h.block i hi hn)⟩
theorem SrcAt.onW {w w' : World} {b m : Nat} {cv : Value} (h : SrcAt w b cv m) (hb : Below w.heap.size w w') : SrcAt w' b cv m := (hb.block b h.lt).trans h
theorem IsCode.onW {B : Nat} {w w' : World} {cv : Value} (h : IsCode B w cv) (hB : B ≤ w.heap.size) (hb : Below w.heap.size w w') : IsCode B w' cv := h.later (hb.mono hB)
theorem ext_grown {w w' : World} {b : Nat} (h : w.grownBy w' (some b)) : Ext (fun q => q = b) w w' := ⟨h.os, h.tape, h.output, h.size, fun k hk hn => h.block k hk (fun e => hn (Option.some.inj e))⟩
theorem grown_ext {w w' : World} {b : Nat} (e : Ext (fun q => q = b) w w') : w.grownBy w' (some b) := ⟨e.os, e.tape, e.output, e.size, fun i hi hn => e.block i hi fun h => hn (by rw [h])⟩
theorem SrcAt.extW {S : Nat → Prop} {w w' : World} {b m : Nat} {cv : Value} (h : SrcAt w b cv m) (e : Ext S w w') (hb : ¬ S b) : SrcAt w' b cv m := (e.block b h.lt hb).trans h
theorem IsCode.extW {S : Nat → Prop} {B : Nat} {w w' : World} {cv : Value} (h : IsCode B w cv) (hB : B ≤ w.heap.size) (e : Ext S w w') (hs : ∀ k, k < B → ¬ S k) : IsCode B w' cv := h.later (e.below hB hs)
/-- Some write of the draw's own; the source has gone on. -/
def WritePost (b m : Nat) (cv : Value) (w : World) (e : Ending) (w' : World) : Prop :=
  ∃ (cs : List Value) (x : DWrite) (bl : List Nat) (m' : Nat), e = .returned (.agg cs.toArray) ∧ Lay.tWrite.lies w' cs x bl ∧ (∀ c ∈ bl, w.heap.size ≤ c ∧ c < w'.heap.size) ∧ SrcAt w' b cv m' ∧ m' ≤ m + 100 ∧ IsCode b w' cv ∧ w.grownBy w' (some b)

theorem closeW {b m m' s : Nat} {cv : Value} {w W F : World} {cs : List Value} {x : DWrite} {bl : List Nat} (hE : Ext (fun q => q = b ∨ w.heap.size ≤ q) w W) (hF : Ext (fun q => q = s ∨ q = w.heap.size) W F) (hs : w.heap.size ≤ s) (hb : b < w.heap.size)
    (hS : SrcAt W b cv m') (hC : IsCode b W cv) (hm : m' ≤ m + 100) (hl : Lay.tWrite.lies W cs x bl) (hbl : ∀ c ∈ bl, w.heap.size < c ∧ c ≠ s) : WritePost b m cv w (.returned (.agg cs.toArray)) F := by
  have hz := hE.size
  refine ⟨cs, x, bl, m', rfl, Lay.tWrite.keep hl fun c hc => hF.block c (Lay.tWrite.lt hl c hc) (fun e => ?_), fun c hc => ⟨by have := hbl c hc; omega, Nat.lt_of_lt_of_le (Lay.tWrite.lt hl c hc) hF.size⟩, hS.extW hF (fun e => by omega), hm, hC.extW (by omega) hF (fun k hk e => by omega), ?_⟩
  · have := hbl c hc
    omega
  · exact ⟨hF.os.trans hE.os, hF.tape.trans hE.tape, hF.output.trans hE.output, Nat.le_trans hE.size hF.size, fun i hi hn => (hF.block i (by omega) (fun e => by omega)).trans (hE.block i hi (fun e => by
      rcases e with e | e
      · exact hn (by rw [e])
      · omega))⟩

set_option maxRecDepth 10000 in
set_option maxHeartbeats 1000000 in
theorem drawWrite (b m : Nat) (cv : Value) (w : World) (hs : SrcAt w b cv m) (hc : IsCode b w cv) (hm : m ≤ 1000000) :
    Calls Try.prog 112 #[.pointer (some ⟨b, 0, none⟩)] w (WritePost b m cv w) := by
  have hbw := hs.lt
  have nb : Below w.heap.size w ((w.alloc (.cells #[.int .i64 0, .int .i64 0, .slice none 0 0, .int .i64 0, .int .i64 0] 33)).alloc (.cells #[.int .i64 1, .int .i64 1, .int .i64 1, .int .i64 2] 2)) := ((Below.refl _ _).alloc (Nat.le_refl _) _).alloc (by simp) _
  have bR : Box w.heap.size #[.int .i64 0, .int .i64 0, .slice none 0 0, .int .i64 0, .int .i64 0] 33 ((w.alloc (.cells #[.int .i64 0, .int .i64 0, .slice none 0 0, .int .i64 0, .int .i64 0] 33)).alloc (.cells #[.int .i64 1, .int .i64 1, .int .i64 1, .int .i64 2] 2)) w.heap.size := (newBox (Nat.le_refl _)).grow _
  have bP : Box w.heap.size #[.int .i64 1, .int .i64 1, .int .i64 1, .int .i64 2] 2 ((w.alloc (.cells #[.int .i64 0, .int .i64 0, .slice none 0 0, .int .i64 0, .int .i64 0] 33)).alloc (.cells #[.int .i64 1, .int .i64 1, .int .i64 1, .int .i64 2] 2)) (w.heap.size + 1) := newBoxAt (by omega) (by simp)
  have s0 := hs.onW nb
  have c0 := hc.onW (Nat.le_of_lt hbw) nb
  clear hs hc
  go_enter Try.func112, Try.ntmps112
  go_wp2_with fail
  generalize (w.alloc (.cells #[.int .i64 0, .int .i64 0, .slice none 0 0, .int .i64 0, .int .i64 0] 33)).alloc (.cells #[.int .i64 1, .int .i64 1, .int .i64 1, .int .i64 2] 2) = W0 at *
  refine (pick b m (w.heap.size + 1) cv [1, 1, 1, 2] W0 s0 c0 (by omega) (by simp) (by simp) bP.2 (by omega)).mono ?_
  rintro e w1 ⟨r, rfl, hr, s1, c1, g1⟩
  have hr2 : r = 1 ∨ r = 2 := by simpa using hr
  have E1 : Ext (fun q => q = b ∨ w.heap.size ≤ q) w w1 := (ext_of_below nb _).trans ((ext_grown g1).mono fun k _ h => Or.inl h)
  have bR1 := bR.ext (ext_grown g1) (by omega)
  have HE := hide E1
  have HR := hide bR1
  have HS := hide s1
  have HC := hide c1
  clear nb bR bP s0 c0 s1 c1 g1 E1 bR1 hr
  have L := hide (next b (m + 1) cv 5 w1 (unhide HS) (unhide HC) (by omega) (by omega) (by omega))
  go_wp2_with fail
  refine (unhide L).mono ?_
  rintro e w2 ⟨i, rfl, hi, s2, c2, g2⟩
  replace HE := hide ((unhide HE).trans ((ext_grown g2).mono fun k _ h => Or.inl h))
  replace HR := hide ((unhide HR).ext (ext_grown g2) (by omega))
  replace HS := hide s2
  replace HC := hide c2
  clear s2 c2 g2 L
  have L := hide (next b (m + 1 + 1) cv 3 w2 (unhide HS) (unhide HC) (by omega) (by omega) (by omega))
  go_wp2_with fail
  refine (unhide L).mono ?_
  rintro e w3 ⟨s, rfl, hss, s3, c3, g3⟩
  replace HE := hide ((unhide HE).trans ((ext_grown g3).mono fun k _ h => Or.inl h))
  replace HR := hide ((unhide HR).ext (ext_grown g3) (by omega))
  replace HS := hide s3
  replace HC := hide c3
  clear s3 c3 g3 L
  have L := hide (next b (m + 1 + 1 + 1) cv 9 w3 (unhide HS) (unhide HC) (by omega) (by omega) (by omega))
  go_wp2_with fail
  refine (unhide L).mono ?_
  rintro e w4 ⟨q, rfl, hq, s4, c4, g4⟩
  replace HE := hide ((unhide HE).trans ((ext_grown g4).mono fun k _ h => Or.inl h))
  replace HR := hide ((unhide HR).ext (ext_grown g4) (by omega))
  replace HS := hide s4
  replace HC := hide c4
  clear s4 c4 g4 L
  have hz4 : w.heap.size < w4.heap.size := (unhide HR).lt
  have nb : Below w4.heap.size w4 (w4.alloc (.cells #[.int .i64 r, .int .i64 (1 + i), .slice none 0 0, .int .i64 (1 + s), .int .i64 (1 + q)] 33)) := (Below.refl _ _).alloc (Nat.le_refl _) _
  have bX : Box w4.heap.size #[.int .i64 r, .int .i64 (1 + i), .slice none 0 0, .int .i64 (1 + s), .int .i64 (1 + q)] 33 (w4.alloc (.cells #[.int .i64 r, .int .i64 (1 + i), .slice none 0 0, .int .i64 (1 + s), .int .i64 (1 + q)] 33)) w4.heap.size := newBox (Nat.le_refl _)
  rcases hr2 with rfl | rfl
  · have L := hide (draw b (m + 1 + 1 + 1 + 1) cv _ ((unhide HS).onW nb) ((unhide HC).onW (by omega) nb) (by omega))
    have HE5 := hide ((unhide HE).trans (ext_of_below nb _))
    have HR5 := hide ((unhide HR).keep nb)
    have HX5 := hide bX
    have HNB := hide nb.size
    clear nb bX HE HR HS HC
    go_wp2_with fail
    refine (unhide L).mono ?_
    generalize w4.alloc (.cells #[.int .i64 1, .int .i64 (1 + i), .slice none 0 0, .int .i64 (1 + s), .int .i64 (1 + q)] 33) = W5 at *
    rintro e w6 ⟨v, ds, rfl, hd3, hdr, hod, s6, c6, g6⟩
    rw [← hd3] at hod
    have hdw : ∀ z ∈ ds, (Lit.int .i64 z).wf = true := fun z hz => wf_of_bd (by have := hdr z hz; omega)
    have hO := Lay.ownInts hdw (by omega) hod
    obtain ⟨ao, cp, rfl⟩ := open_sl hO.reads
    have bX := (unhide HX5).ext (ext_grown g6) (by omega)
    have bR := (unhide HR5).ext (ext_grown g6) (by omega)
    have E6 := (unhide HE5).trans ((ext_grown g6).mono fun k _ h => Or.inl h)
    have hX0 := (unhide HX5).lt
    have x0 : w6.cell? ⟨w4.heap.size, 0, none⟩ = some (.int .i64 1) := bX.at 0 _ rfl
    have x1 : w6.cell? ⟨w4.heap.size, 1, none⟩ = some (.int .i64 (1 + i)) := bX.at 1 _ rfl
    have x2 : w6.cell? ⟨w4.heap.size, 2, none⟩ = some (.slice none 0 0) := bX.at 2 _ rfl
    have x3 : w6.cell? ⟨w4.heap.size, 3, none⟩ = some (.int .i64 (1 + s)) := bX.at 3 _ rfl
    have x4 : w6.cell? ⟨w4.heap.size, 4, none⟩ = some (.int .i64 (1 + q)) := bX.at 4 _ rfl
    have xf := bX.soft
    have xl := bX.lt
    have z0 : w6.cell? ⟨w.heap.size, 0, none⟩ = some (.int .i64 0) := bR.at 0 _ rfl
    have z1 : w6.cell? ⟨w.heap.size, 1, none⟩ = some (.int .i64 0) := bR.at 1 _ rfl
    have z2 : w6.cell? ⟨w.heap.size, 2, none⟩ = some (.slice none 0 0) := bR.at 2 _ rfl
    have z3 : w6.cell? ⟨w.heap.size, 3, none⟩ = some (.int .i64 0) := bR.at 3 _ rfl
    have z4 : w6.cell? ⟨w.heap.size, 4, none⟩ = some (.int .i64 0) := bR.at 4 _ rfl
    have zf := bR.soft
    have zl := bR.lt
    have HO := hide hO
    have HX := hide bX
    have HR := hide bR
    have HE := hide E6
    have HS := hide s6
    have HC := hide c6
    clear hod hdr hO bX bR E6 s6 c6 g6 L HE5 HR5 HX5 hdw
    go_wp2_with fail
    have hE9 : ∀ u0 u1 u2 u3 u4 u5, Ext (fun c => c = w4.heap.size ∨ c = w.heap.size) w6 ((((((w6.setCell ⟨w4.heap.size, 2, none⟩ u0).setCell ⟨w.heap.size, 0, none⟩ u1).setCell ⟨w.heap.size, 1, none⟩ u2).setCell ⟨w.heap.size, 2, none⟩ u3).setCell ⟨w.heap.size, 3, none⟩ u4).setCell ⟨w.heap.size, 4, none⟩ u5) := fun u0 u1 u2 u3 u4 u5 => ((((((Ext.refl _ _).setCell _ _ (Or.inl rfl)).setCell _ _ (Or.inr rfl)).setCell _ _ (Or.inr rfl)).setCell _ _ (Or.inr rfl)).setCell _ _ (Or.inr rfl)).setCell _ _ (Or.inr rfl)
    obtain ⟨bl, ⟨hl, -, -⟩, hbl⟩ := unhide HO
    have hlw : Lay.tWrite.lies w6 [.int .i64 1, .int .i64 (1 + i), .slice ao 3 cp, .int .i64 (1 + s), .int .i64 (1 + q)] ⟨1, 1 + (i : Int), ds, 1 + (s : Int), 1 + (q : Int)⟩ bl := by
      refine lies_Write.2 ⟨ao, cp, bl, by rw [hd3], rfl, (show (Lit.int .i64 (1)).wf = true from wf_of_bd (by omega)), (show (Lit.int .i64 (1 + (i : Int))).wf = true from wf_of_bd (by omega)), ?_, (show (Lit.int .i64 (1 + (s : Int))).wf = true from wf_of_bd (by omega)), (show (Lit.int .i64 (1 + (q : Int))).wf = true from wf_of_bd (by omega))⟩
      exact hl
    refine bodyPost_ret (v := .agg #[.int .i64 1, .int .i64 (1 + i), .slice ao 3 cp, .int .i64 (1 + s), .int .i64 (1 + q)]) (by simp [results, Try.results112, go_sem, z0, z1, z2, z3, z4]) rfl ?_
    exact closeW (unhide HE) (hE9 _ _ _ _ _ _) (Nat.le_of_lt hz4) hbw (unhide HS) (unhide HC) (by omega) hlw (fun c hc => by have := hbl c hc; omega)
  · have HE4 := HE
    have HS4 := HS
    have HC4 := HC
    clear bX nb
    have z0 : w4.cell? ⟨w.heap.size, 0, none⟩ = some (.int .i64 0) := (unhide HR).at 0 _ rfl
    have z1 : w4.cell? ⟨w.heap.size, 1, none⟩ = some (.int .i64 0) := (unhide HR).at 1 _ rfl
    have z2 : w4.cell? ⟨w.heap.size, 2, none⟩ = some (.slice none 0 0) := (unhide HR).at 2 _ rfl
    have z3 : w4.cell? ⟨w.heap.size, 3, none⟩ = some (.int .i64 0) := (unhide HR).at 3 _ rfl
    have z4 : w4.cell? ⟨w.heap.size, 4, none⟩ = some (.int .i64 0) := (unhide HR).at 4 _ rfl
    have zf := (unhide HR).soft
    have y0 : ∀ u0 u1 u2 u3 u4 o, ((((((w4.setCell ⟨w.heap.size, 0, none⟩ u0).setCell ⟨w.heap.size, 1, none⟩ u1).setCell ⟨w.heap.size, 2, none⟩ u2).setCell ⟨w.heap.size, 3, none⟩ u3).setCell ⟨w.heap.size, 4, none⟩ u4).alloc o).cell? ⟨w.heap.size, 0, none⟩ = some u0 := fun u0 u1 u2 u3 u4 o => (((((((unhide HR).set 0 u0).set 1 u1).set 2 u2).set 3 u3).set 4 u4).grow o).at 0 u0 rfl
    have y1 : ∀ u0 u1 u2 u3 u4 o, ((((((w4.setCell ⟨w.heap.size, 0, none⟩ u0).setCell ⟨w.heap.size, 1, none⟩ u1).setCell ⟨w.heap.size, 2, none⟩ u2).setCell ⟨w.heap.size, 3, none⟩ u3).setCell ⟨w.heap.size, 4, none⟩ u4).alloc o).cell? ⟨w.heap.size, 1, none⟩ = some u1 := fun u0 u1 u2 u3 u4 o => (((((((unhide HR).set 0 u0).set 1 u1).set 2 u2).set 3 u3).set 4 u4).grow o).at 1 u1 rfl
    have y2 : ∀ u0 u1 u2 u3 u4 o, ((((((w4.setCell ⟨w.heap.size, 0, none⟩ u0).setCell ⟨w.heap.size, 1, none⟩ u1).setCell ⟨w.heap.size, 2, none⟩ u2).setCell ⟨w.heap.size, 3, none⟩ u3).setCell ⟨w.heap.size, 4, none⟩ u4).alloc o).cell? ⟨w.heap.size, 2, none⟩ = some u2 := fun u0 u1 u2 u3 u4 o => (((((((unhide HR).set 0 u0).set 1 u1).set 2 u2).set 3 u3).set 4 u4).grow o).at 2 u2 rfl
    have y3 : ∀ u0 u1 u2 u3 u4 o, ((((((w4.setCell ⟨w.heap.size, 0, none⟩ u0).setCell ⟨w.heap.size, 1, none⟩ u1).setCell ⟨w.heap.size, 2, none⟩ u2).setCell ⟨w.heap.size, 3, none⟩ u3).setCell ⟨w.heap.size, 4, none⟩ u4).alloc o).cell? ⟨w.heap.size, 3, none⟩ = some u3 := fun u0 u1 u2 u3 u4 o => (((((((unhide HR).set 0 u0).set 1 u1).set 2 u2).set 3 u3).set 4 u4).grow o).at 3 u3 rfl
    have y4 : ∀ u0 u1 u2 u3 u4 o, ((((((w4.setCell ⟨w.heap.size, 0, none⟩ u0).setCell ⟨w.heap.size, 1, none⟩ u1).setCell ⟨w.heap.size, 2, none⟩ u2).setCell ⟨w.heap.size, 3, none⟩ u3).setCell ⟨w.heap.size, 4, none⟩ u4).alloc o).cell? ⟨w.heap.size, 4, none⟩ = some u4 := fun u0 u1 u2 u3 u4 o => (((((((unhide HR).set 0 u0).set 1 u1).set 2 u2).set 3 u3).set 4 u4).grow o).at 4 u4 rfl
    have hE9 : ∀ u0 u1 u2 u3 u4 o, Ext (fun c => c = w.heap.size ∨ c = w.heap.size) w4 ((((((w4.setCell ⟨w.heap.size, 0, none⟩ u0).setCell ⟨w.heap.size, 1, none⟩ u1).setCell ⟨w.heap.size, 2, none⟩ u2).setCell ⟨w.heap.size, 3, none⟩ u3).setCell ⟨w.heap.size, 4, none⟩ u4).alloc o) := fun u0 u1 u2 u3 u4 o => ((((((Ext.refl _ _).setCell _ _ (Or.inr rfl)).setCell _ _ (Or.inr rfl)).setCell _ _ (Or.inr rfl)).setCell _ _ (Or.inr rfl)).setCell _ _ (Or.inr rfl)).trans (ext_of_below ((Below.refl _ _).alloc (Nat.le_refl _) o) _)
    go_wp2_with fail
    refine bodyPost_ret (v := .agg #[.int .i64 2, .int .i64 (1 + i), .slice none 0 0, .int .i64 (1 + s), .int .i64 (1 + q)]) (by simp [results, Try.results112, go_sem, y0, y1, y2, y3, y4]) rfl ?_
    have hlw : Lay.tWrite.lies w4 [.int .i64 2, .int .i64 (1 + i), .slice none 0 0, .int .i64 (1 + s), .int .i64 (1 + q)] ⟨2, 1 + (i : Int), [], 1 + (s : Int), 1 + (q : Int)⟩ [] := by
      refine lies_Write.2 ⟨none, 0, [], rfl, rfl, (show (Lit.int .i64 (2)).wf = true from wf_of_bd (by omega)), (show (Lit.int .i64 (1 + (i : Int))).wf = true from wf_of_bd (by omega)), ?_, (show (Lit.int .i64 (1 + (s : Int))).wf = true from wf_of_bd (by omega)), (show (Lit.int .i64 (1 + (q : Int))).wf = true from wf_of_bd (by omega))⟩
      exact Lay.lies_ints.2 ⟨none, 0, rfl, by simp, by simp, Or.inl ⟨rfl, rfl⟩⟩
    exact closeW (s := w.heap.size) (unhide HE4) (hE9 _ _ _ _ _ _) (Nat.le_refl _) hbw (unhide HS4) (unhide HC4) (by omega) hlw (by simp)

end Go.Proofs.Yteekfapjfpkidab
