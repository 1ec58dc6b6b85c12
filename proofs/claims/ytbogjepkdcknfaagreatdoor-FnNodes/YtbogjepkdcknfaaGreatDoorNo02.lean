/-
  Texts of this proof in one: DrawWrR, DrawWrB, AppInt, AppWrite, SessPlain, SpecWs, SpecLast5, Draw5, DrawR8, LayIntResult, LayWritesResult, SeqPlain, LayOnceResult, AppPlain, LayNode, LayNodeResult, NodePlain, OwnNode, OwnNodeResult, StoreKit, SpecSess, SpecOnce, NodeKit, AppInts, SpecIntsB, SpecWCopy, NodeEqs.
  Their conditions stand in their theorems.
-/
import Derived.Test.YtbogjepkdcknfaaGreatDoorNo01
import Derived.Deep.AppendLies
import Derived.Test.YtbogjepkdcknfaaGreatDoorChecked
import Derived.Deep.CutRange
import Derived.WalkKit
import Derived.OpenShut
import Derived.Deep.RegionHeld3
import Derived.Maps.AppendAt
import Derived.BigQuiet
import Derived.Deep.QuietTactic
import Derived.WalkSmall

namespace Go.Proofs.YtbogjepkdcknfaaGreatDoor
open Go.RowKit

theorem vecR8 {ds : List Int} (h1 : ds.length = 3) (h2 : inRange ds) : vecFault ds = 0 := by
  match ds, h1 with
  | [a, b, c], _ =>
    have hp : ∀ z, -1000 ≤ z ∧ z ≤ 1000 → partB z = true := fun z hz => by unfold partB; simp [hz.1, hz.2]
    unfold vecFault
    simp [hp a (h2 a (by simp)), hp b (h2 b (by simp)), hp c (h2 c (by simp))]
theorem writeFault_of {k i s q : Int} {zs : List Int} (hi : 1 ≤ i ∧ i ≤ 999) (hs : 1 ≤ s ∧ s ≤ 9) (hq : 1 ≤ q ∧ q ≤ 999) (hk : (k = 1 ∧ vecFault zs = 0) ∨ (k = 2 ∧ zs = [])) : writeFault k i zs s q = 0 := by
  have hb : boundB i s q = true := by simp [boundB, hi.1, hi.2, hs.1, hs.2, hq.1, hq.2]
  rcases hk with ⟨rfl, hv⟩ | ⟨rfl, rfl⟩
  · rw [writeFault, if_pos (by simp [kindB]), if_pos hb, if_pos rfl, hv]
  · rw [writeFault, if_pos (by simp [kindB]), if_pos hb, if_neg (by decide)]

/-- Some write of the draw's own; the source has gone on. -/
def WritePostR (b m : Nat) (cv : Value) (w : World) (e : Ending) (w' : World) : Prop :=
  ∃ (cs : List Value) (x : DWrite) (bl : List Nat) (m' : Nat), e = .returned (.agg cs.toArray) ∧ Lay.tWrite.lies w' cs x bl ∧ (∀ c ∈ bl, w.heap.size ≤ c ∧ c < w'.heap.size) ∧ SrcAt w' b cv m' ∧ m' ≤ m + 100 ∧ IsCode b w' cv ∧ w.grownBy w' (some b) ∧ wF x = 0 ∧ x.seq ≤ 9

theorem closeWR {b m m' s : Nat} {cv : Value} {w W F : World} {cs : List Value} {x : DWrite} {bl : List Nat} (hE : Ext (fun q => q = b ∨ w.heap.size ≤ q) w W) (hF : Ext (fun q => q = s ∨ q = w.heap.size) W F) (hs : w.heap.size ≤ s) (hb : b < w.heap.size)
    (hS : SrcAt W b cv m') (hC : IsCode b W cv) (hm : m' ≤ m + 100) (hl : Lay.tWrite.lies W cs x bl) (hbl : ∀ c ∈ bl, w.heap.size < c ∧ c ≠ s) (hwf : wF x = 0 ∧ x.seq ≤ 9) : WritePostR b m cv w (.returned (.agg cs.toArray)) F := by
  have hz := hE.size
  refine ⟨cs, x, bl, m', rfl, Lay.tWrite.keep hl fun c hc => hF.block c (Lay.tWrite.lt hl c hc) (fun e => ?_), fun c hc => ⟨by have := hbl c hc; omega, Nat.lt_of_lt_of_le (Lay.tWrite.lt hl c hc) hF.size⟩, hS.extW hF (fun e => by omega), hm, hC.extW (by omega) hF (fun k hk e => by omega), ?_, hwf.1, hwf.2⟩
  · have := hbl c hc
    omega
  · exact ⟨hF.os.trans hE.os, hF.tape.trans hE.tape, hF.output.trans hE.output, Nat.le_trans hE.size hF.size, fun i hi hn => (hF.block i (by omega) (fun e => by omega)).trans (hE.block i hi (fun e => by
      rcases e with e | e
      · exact hn (by rw [e])
      · omega))⟩

set_option maxRecDepth 10000 in
set_option maxHeartbeats 1000000 in
theorem drawWriteR (b m : Nat) (cv : Value) (w : World) (hs : SrcAt w b cv m) (hc : IsCode b w cv) (hm : m ≤ 1000000) :
    Calls Tryz.prog 42 #[.pointer (some ⟨b, 0, none⟩)] w (WritePostR b m cv w) := by
  have hbw := hs.lt
  have nb : Below w.heap.size w ((w.alloc (.cells #[.int .i64 0, .int .i64 0, .slice none 0 0, .int .i64 0, .int .i64 0] 29)).alloc (.cells #[.int .i64 1, .int .i64 1, .int .i64 1, .int .i64 2] 2)) := ((Below.refl _ _).alloc (Nat.le_refl _) _).alloc (by simp) _
  have bR : Box w.heap.size #[.int .i64 0, .int .i64 0, .slice none 0 0, .int .i64 0, .int .i64 0] 29 ((w.alloc (.cells #[.int .i64 0, .int .i64 0, .slice none 0 0, .int .i64 0, .int .i64 0] 29)).alloc (.cells #[.int .i64 1, .int .i64 1, .int .i64 1, .int .i64 2] 2)) w.heap.size := (newBox (Nat.le_refl _)).grow _
  have bP : Box w.heap.size #[.int .i64 1, .int .i64 1, .int .i64 1, .int .i64 2] 2 ((w.alloc (.cells #[.int .i64 0, .int .i64 0, .slice none 0 0, .int .i64 0, .int .i64 0] 29)).alloc (.cells #[.int .i64 1, .int .i64 1, .int .i64 1, .int .i64 2] 2)) (w.heap.size + 1) := newBoxAt (by omega) (by simp)
  have s0 := hs.onW nb
  have c0 := hc.onW (Nat.le_of_lt hbw) nb
  clear hs hc
  go_enter Tryz.func42, Tryz.ntmps42
  go_wp2_with fail
  generalize (w.alloc (.cells #[.int .i64 0, .int .i64 0, .slice none 0 0, .int .i64 0, .int .i64 0] 29)).alloc (.cells #[.int .i64 1, .int .i64 1, .int .i64 1, .int .i64 2] 2) = W0 at *
  refine (pick b m (w.heap.size + 1) cv [1, 1, 1, 2] W0 s0 c0 (by omega) (by simp) (by simp) bP.2 (by omega)).mono ?_
  rintro e w1 ⟨r, rfl, hr, s1, c1, g1⟩
  have hr2 : r = 1 ∨ r = 2 := by simpa using hr
  have E1 : Ext (fun q => q = b ∨ w.heap.size ≤ q) w w1 := (ext_of_below nb _).trans ((ext_grown g1).mono fun k _ h => Or.inl h)
  have bR1 := bR.ext (ext_grown g1) (by omega)
  have HE := hide E1
  have HR := hide bR1
  have HS := hide s1
  have HC := hide c1
  clear nb bR bP s0 c0 s1 c1 g1 E1 bR1 hr
  have L := hide (next b (m + 1) cv 5 w1 (unhide HS) (unhide HC) (by omega) (by omega) (by omega))
  go_wp2_with fail
  refine (unhide L).mono ?_
  rintro e w2 ⟨i, rfl, hi, s2, c2, g2⟩
  replace HE := hide ((unhide HE).trans ((ext_grown g2).mono fun k _ h => Or.inl h))
  replace HR := hide ((unhide HR).ext (ext_grown g2) (by omega))
  replace HS := hide s2
  replace HC := hide c2
  clear s2 c2 g2 L
  have L := hide (next b (m + 1 + 1) cv 3 w2 (unhide HS) (unhide HC) (by omega) (by omega) (by omega))
  go_wp2_with fail
  refine (unhide L).mono ?_
  rintro e w3 ⟨s, rfl, hss, s3, c3, g3⟩
  replace HE := hide ((unhide HE).trans ((ext_grown g3).mono fun k _ h => Or.inl h))
  replace HR := hide ((unhide HR).ext (ext_grown g3) (by omega))
  replace HS := hide s3
  replace HC := hide c3
  clear s3 c3 g3 L
  have L := hide (next b (m + 1 + 1 + 1) cv 9 w3 (unhide HS) (unhide HC) (by omega) (by omega) (by omega))
  go_wp2_with fail
  refine (unhide L).mono ?_
  rintro e w4 ⟨q, rfl, hq, s4, c4, g4⟩
  replace HE := hide ((unhide HE).trans ((ext_grown g4).mono fun k _ h => Or.inl h))
  replace HR := hide ((unhide HR).ext (ext_grown g4) (by omega))
  replace HS := hide s4
  replace HC := hide c4
  clear s4 c4 g4 L
  have hz4 : w.heap.size < w4.heap.size := (unhide HR).lt
  have nb : Below w4.heap.size w4 (w4.alloc (.cells #[.int .i64 r, .int .i64 (1 + i), .slice none 0 0, .int .i64 (1 + s), .int .i64 (1 + q)] 29)) := (Below.refl _ _).alloc (Nat.le_refl _) _
  have bX : Box w4.heap.size #[.int .i64 r, .int .i64 (1 + i), .slice none 0 0, .int .i64 (1 + s), .int .i64 (1 + q)] 29 (w4.alloc (.cells #[.int .i64 r, .int .i64 (1 + i), .slice none 0 0, .int .i64 (1 + s), .int .i64 (1 + q)] 29)) w4.heap.size := newBox (Nat.le_refl _)
  rcases hr2 with rfl | rfl
  · have L := hide (draw b (m + 1 + 1 + 1 + 1) cv _ ((unhide HS).onW nb) ((unhide HC).onW (by omega) nb) (by omega))
    have HE5 := hide ((unhide HE).trans (ext_of_below nb _))
    have HR5 := hide ((unhide HR).keep nb)
    have HX5 := hide bX
    have HNB := hide nb.size
    clear nb bX HE HR HS HC
    go_wp2_with fail
    refine (unhide L).mono ?_
    generalize w4.alloc (.cells #[.int .i64 1, .int .i64 (1 + i), .slice none 0 0, .int .i64 (1 + s), .int .i64 (1 + q)] 29) = W5 at *
    rintro e w6 ⟨v, ds, rfl, hd3, hdr, hod, s6, c6, g6⟩
    have HVF := hide (vecR8 hd3 hdr)
    rw [← hd3] at hod
    have hdw : ∀ z ∈ ds, (Lit.int .i64 z).wf = true := fun z hz => wf_of_bd (by have := hdr z hz; omega)
    have hO := Lay.ownInts hdw (by omega) hod
    obtain ⟨ao, cp, rfl⟩ := open_sl hO.reads
    have bX := (unhide HX5).ext (ext_grown g6) (by omega)
    have bR := (unhide HR5).ext (ext_grown g6) (by omega)
    have E6 := (unhide HE5).trans ((ext_grown g6).mono fun k _ h => Or.inl h)
    have hX0 := (unhide HX5).lt
    have x0 : w6.cell? ⟨w4.heap.size, 0, none⟩ = some (.int .i64 1) := bX.at 0 _ rfl
    have x1 : w6.cell? ⟨w4.heap.size, 1, none⟩ = some (.int .i64 (1 + i)) := bX.at 1 _ rfl
    have x2 : w6.cell? ⟨w4.heap.size, 2, none⟩ = some (.slice none 0 0) := bX.at 2 _ rfl
    have x3 : w6.cell? ⟨w4.heap.size, 3, none⟩ = some (.int .i64 (1 + s)) := bX.at 3 _ rfl
    have x4 : w6.cell? ⟨w4.heap.size, 4, none⟩ = some (.int .i64 (1 + q)) := bX.at 4 _ rfl
    have xf := bX.soft
    have xl := bX.lt
    have z0 : w6.cell? ⟨w.heap.size, 0, none⟩ = some (.int .i64 0) := bR.at 0 _ rfl
    have z1 : w6.cell? ⟨w.heap.size, 1, none⟩ = some (.int .i64 0) := bR.at 1 _ rfl
    have z2 : w6.cell? ⟨w.heap.size, 2, none⟩ = some (.slice none 0 0) := bR.at 2 _ rfl
    have z3 : w6.cell? ⟨w.heap.size, 3, none⟩ = some (.int .i64 0) := bR.at 3 _ rfl
    have z4 : w6.cell? ⟨w.heap.size, 4, none⟩ = some (.int .i64 0) := bR.at 4 _ rfl
    have zf := bR.soft
    have zl := bR.lt
    have HO := hide hO
    have HX := hide bX
    have HR := hide bR
    have HE := hide E6
    have HS := hide s6
    have HC := hide c6
    clear hod hdr hO bX bR E6 s6 c6 g6 L HE5 HR5 HX5 hdw
    go_wp2_with fail
    have hE9 : ∀ u0 u1 u2 u3 u4 u5, Ext (fun c => c = w4.heap.size ∨ c = w.heap.size) w6 ((((((w6.setCell ⟨w4.heap.size, 2, none⟩ u0).setCell ⟨w.heap.size, 0, none⟩ u1).setCell ⟨w.heap.size, 1, none⟩ u2).setCell ⟨w.heap.size, 2, none⟩ u3).setCell ⟨w.heap.size, 3, none⟩ u4).setCell ⟨w.heap.size, 4, none⟩ u5) := fun u0 u1 u2 u3 u4 u5 => ((((((Ext.refl _ _).setCell _ _ (Or.inl rfl)).setCell _ _ (Or.inr rfl)).setCell _ _ (Or.inr rfl)).setCell _ _ (Or.inr rfl)).setCell _ _ (Or.inr rfl)).setCell _ _ (Or.inr rfl)
    obtain ⟨bl, ⟨hl, -, -⟩, hbl⟩ := unhide HO
    have hlw : Lay.tWrite.lies w6 [.int .i64 1, .int .i64 (1 + i), .slice ao 3 cp, .int .i64 (1 + s), .int .i64 (1 + q)] ⟨1, 1 + (i : Int), ds, 1 + (s : Int), 1 + (q : Int)⟩ bl := by
      refine lies_Write.2 ⟨ao, cp, bl, by rw [hd3], rfl, (show (Lit.int .i64 (1)).wf = true from wf_of_bd (by omega)), (show (Lit.int .i64 (1 + (i : Int))).wf = true from wf_of_bd (by omega)), ?_, (show (Lit.int .i64 (1 + (s : Int))).wf = true from wf_of_bd (by omega)), (show (Lit.int .i64 (1 + (q : Int))).wf = true from wf_of_bd (by omega))⟩
      exact hl
    refine bodyPost_ret (v := .agg #[.int .i64 1, .int .i64 (1 + i), .slice ao 3 cp, .int .i64 (1 + s), .int .i64 (1 + q)]) (by simp [results, Tryz.results42, go_sem, z0, z1, z2, z3, z4]) rfl ?_
    exact closeWR (unhide HE) (hE9 _ _ _ _ _ _) (Nat.le_of_lt hz4) hbw (unhide HS) (unhide HC) (by omega) hlw (fun c hc => by have := hbl c hc; omega) ⟨show writeFault 1 (1 + (i : Int)) ds (1 + (s : Int)) (1 + (q : Int)) = 0 from writeFault_of (by omega) (by omega) (by omega) (Or.inl ⟨rfl, unhide HVF⟩), by show 1 + (q : Int) ≤ 9; omega⟩
  · have HE4 := HE
    have HS4 := HS
    have HC4 := HC
    clear bX nb
    have z0 : w4.cell? ⟨w.heap.size, 0, none⟩ = some (.int .i64 0) := (unhide HR).at 0 _ rfl
    have z1 : w4.cell? ⟨w.heap.size, 1, none⟩ = some (.int .i64 0) := (unhide HR).at 1 _ rfl
    have z2 : w4.cell? ⟨w.heap.size, 2, none⟩ = some (.slice none 0 0) := (unhide HR).at 2 _ rfl
    have z3 : w4.cell? ⟨w.heap.size, 3, none⟩ = some (.int .i64 0) := (unhide HR).at 3 _ rfl
    have z4 : w4.cell? ⟨w.heap.size, 4, none⟩ = some (.int .i64 0) := (unhide HR).at 4 _ rfl
    have zf := (unhide HR).soft
    have y0 : ∀ u0 u1 u2 u3 u4 o, ((((((w4.setCell ⟨w.heap.size, 0, none⟩ u0).setCell ⟨w.heap.size, 1, none⟩ u1).setCell ⟨w.heap.size, 2, none⟩ u2).setCell ⟨w.heap.size, 3, none⟩ u3).setCell ⟨w.heap.size, 4, none⟩ u4).alloc o).cell? ⟨w.heap.size, 0, none⟩ = some u0 := fun u0 u1 u2 u3 u4 o => (((((((unhide HR).set 0 u0).set 1 u1).set 2 u2).set 3 u3).set 4 u4).grow o).at 0 u0 rfl
    have y1 : ∀ u0 u1 u2 u3 u4 o, ((((((w4.setCell ⟨w.heap.size, 0, none⟩ u0).setCell ⟨w.heap.size, 1, none⟩ u1).setCell ⟨w.heap.size, 2, none⟩ u2).setCell ⟨w.heap.size, 3, none⟩ u3).setCell ⟨w.heap.size, 4, none⟩ u4).alloc o).cell? ⟨w.heap.size, 1, none⟩ = some u1 := fun u0 u1 u2 u3 u4 o => (((((((unhide HR).set 0 u0).set 1 u1).set 2 u2).set 3 u3).set 4 u4).grow o).at 1 u1 rfl
    have y2 : ∀ u0 u1 u2 u3 u4 o, ((((((w4.setCell ⟨w.heap.size, 0, none⟩ u0).setCell ⟨w.heap.size, 1, none⟩ u1).setCell ⟨w.heap.size, 2, none⟩ u2).setCell ⟨w.heap.size, 3, none⟩ u3).setCell ⟨w.heap.size, 4, none⟩ u4).alloc o).cell? ⟨w.heap.size, 2, none⟩ = some u2 := fun u0 u1 u2 u3 u4 o => (((((((unhide HR).set 0 u0).set 1 u1).set 2 u2).set 3 u3).set 4 u4).grow o).at 2 u2 rfl
    have y3 : ∀ u0 u1 u2 u3 u4 o, ((((((w4.setCell ⟨w.heap.size, 0, none⟩ u0).setCell ⟨w.heap.size, 1, none⟩ u1).setCell ⟨w.heap.size, 2, none⟩ u2).setCell ⟨w.heap.size, 3, none⟩ u3).setCell ⟨w.heap.size, 4, none⟩ u4).alloc o).cell? ⟨w.heap.size, 3, none⟩ = some u3 := fun u0 u1 u2 u3 u4 o => (((((((unhide HR).set 0 u0).set 1 u1).set 2 u2).set 3 u3).set 4 u4).grow o).at 3 u3 rfl
    have y4 : ∀ u0 u1 u2 u3 u4 o, ((((((w4.setCell ⟨w.heap.size, 0, none⟩ u0).setCell ⟨w.heap.size, 1, none⟩ u1).setCell ⟨w.heap.size, 2, none⟩ u2).setCell ⟨w.heap.size, 3, none⟩ u3).setCell ⟨w.heap.size, 4, none⟩ u4).alloc o).cell? ⟨w.heap.size, 4, none⟩ = some u4 := fun u0 u1 u2 u3 u4 o => (((((((unhide HR).set 0 u0).set 1 u1).set 2 u2).set 3 u3).set 4 u4).grow o).at 4 u4 rfl
    have hE9 : ∀ u0 u1 u2 u3 u4 o, Ext (fun c => c = w.heap.size ∨ c = w.heap.size) w4 ((((((w4.setCell ⟨w.heap.size, 0, none⟩ u0).setCell ⟨w.heap.size, 1, none⟩ u1).setCell ⟨w.heap.size, 2, none⟩ u2).setCell ⟨w.heap.size, 3, none⟩ u3).setCell ⟨w.heap.size, 4, none⟩ u4).alloc o) := fun u0 u1 u2 u3 u4 o => ((((((Ext.refl _ _).setCell _ _ (Or.inr rfl)).setCell _ _ (Or.inr rfl)).setCell _ _ (Or.inr rfl)).setCell _ _ (Or.inr rfl)).setCell _ _ (Or.inr rfl)).trans (ext_of_below ((Below.refl _ _).alloc (Nat.le_refl _) o) _)
    go_wp2_with fail
    refine bodyPost_ret (v := .agg #[.int .i64 2, .int .i64 (1 + i), .slice none 0 0, .int .i64 (1 + s), .int .i64 (1 + q)]) (by simp [results, Tryz.results42, go_sem, y0, y1, y2, y3, y4]) rfl ?_
    have hlw : Lay.tWrite.lies w4 [.int .i64 2, .int .i64 (1 + i), .slice none 0 0, .int .i64 (1 + s), .int .i64 (1 + q)] ⟨2, 1 + (i : Int), [], 1 + (s : Int), 1 + (q : Int)⟩ [] := by
      refine lies_Write.2 ⟨none, 0, [], rfl, rfl, (show (Lit.int .i64 (2)).wf = true from wf_of_bd (by omega)), (show (Lit.int .i64 (1 + (i : Int))).wf = true from wf_of_bd (by omega)), ?_, (show (Lit.int .i64 (1 + (s : Int))).wf = true from wf_of_bd (by omega)), (show (Lit.int .i64 (1 + (q : Int))).wf = true from wf_of_bd (by omega))⟩
      exact Lay.lies_ints.2 ⟨none, 0, rfl, by simp, by simp, Or.inl ⟨rfl, rfl⟩⟩
    exact closeWR (s := w.heap.size) (unhide HE4) (hE9 _ _ _ _ _ _) (Nat.le_refl _) hbw (unhide HS4) (unhide HC4) (by omega) hlw (by simp) ⟨show writeFault 2 (1 + (i : Int)) [] (1 + (s : Int)) (1 + (q : Int)) = 0 from writeFault_of (by omega) (by omega) (by omega) (Or.inr ⟨rfl, rfl⟩), by show 1 + (q : Int) ≤ 9; omega⟩

end Go.Proofs.YtbogjepkdcknfaaGreatDoor

namespace Go.Proofs.YtbogjepkdcknfaaGreatDoor
open Go.RowKit

set_option maxRecDepth 10000 in
set_option maxHeartbeats 4000000 in
theorem bentWrite (b m : Nat) (cv : Value) (w : World) (hs : SrcAt w b cv m) (hc : IsCode b w cv) (hm : m ≤ 1000000) :
    Calls Tryz.prog 15 #[.pointer (some ⟨b, 0, none⟩)] w fun e w' => ∃ (cs : List Value) (x : DWrite) (bl : List Nat) (m' : Nat), e = .returned (.agg cs.toArray) ∧ Lay.tWrite.lies w' cs x bl ∧ (∀ c ∈ bl, w.heap.size ≤ c ∧ c < w'.heap.size) ∧ SrcAt w' b cv m' ∧ m' ≤ m + 200 ∧ IsCode b w' cv ∧ w.grownBy w' (some b) := by
  have hbw := hs.lt
  have nb : Below w.heap.size w (w.alloc (.cells #[.int .i64 0, .int .i64 0, .slice none 0 0, .int .i64 0, .int .i64 0] 29)) := (Below.refl _ _).alloc (Nat.le_refl _) _
  have bR : Box w.heap.size #[.int .i64 0, .int .i64 0, .slice none 0 0, .int .i64 0, .int .i64 0] 29 (w.alloc (.cells #[.int .i64 0, .int .i64 0, .slice none 0 0, .int .i64 0, .int .i64 0] 29)) w.heap.size := newBox (Nat.le_refl _)
  have s0 := hs.onW nb
  have c0 := hc.onW (Nat.le_of_lt hbw) nb
  clear hs hc
  go_enter Tryz.func15, Tryz.ntmps15
  go_wp2_with fail
  generalize w.alloc (.cells #[.int .i64 0, .int .i64 0, .slice none 0 0, .int .i64 0, .int .i64 0] 29) = W0 at *
  refine (drawWrite b m cv W0 s0 c0 hm).mono ?_
  rintro e w1 ⟨cs, x, bl, m', rfl, hl, hbl, s1, hm', c1, g1⟩
  obtain ⟨a2, d2, bv, rfl, rfl, wk, wi, hlv, wse, wsq⟩ := lies_Write.1 hl
  have hW0 := bR.lt
  have E1 : Ext (fun q => q = b ∨ w.heap.size ≤ q) w w1 := (ext_of_below nb _).trans ((ext_grown g1).mono fun k _ h => Or.inl h)
  have bR1 := bR.ext (ext_grown g1) (by omega)
  have nb2 : Below w1.heap.size w1 (w1.alloc (.cells #[.int .i64 x.kind, .int .i64 x.id, .slice a2 x.vec.length d2, .int .i64 x.session, .int .i64 x.seq] 29)) := (Below.refl _ _).alloc (Nat.le_refl _) _
  have bX : Box w1.heap.size #[.int .i64 x.kind, .int .i64 x.id, .slice a2 x.vec.length d2, .int .i64 x.session, .int .i64 x.seq] 29 (w1.alloc (.cells #[.int .i64 x.kind, .int .i64 x.id, .slice a2 x.vec.length d2, .int .i64 x.session, .int .i64 x.seq] 29)) w1.heap.size := newBox (Nat.le_refl _)
  have hz1 : w.heap.size < w1.heap.size := bR1.lt
  have L := hide (next b m' cv 12 _ (s1.onW nb2) (c1.onW (by omega) nb2) (by omega) (by omega) (by omega))
  have HE := hide (E1.trans (ext_of_below nb2 _))
  have HR := hide (bR1.keep nb2)
  have HX := hide bX
  have HLV := hide ((Lay.sl Lay.int).keep hlv fun c hc => nb2.block c ((Lay.sl Lay.int).lt hlv c hc))
  have HBL : Hid (∀ c ∈ bl, w.heap.size < c ∧ c < w1.heap.size) := fun c hc => by have := hbl c hc; omega
  clear nb bR s0 c0 hl hbl s1 c1 g1 E1 bR1 nb2 bX hlv
  go_wp2_with fail
  refine (unhide L).mono ?_
  generalize w1.alloc (.cells #[.int .i64 x.kind, .int .i64 x.id, .slice a2 x.vec.length d2, .int .i64 x.session, .int .i64 x.seq] 29) = W2 at *
  rintro e w2 ⟨r, rfl, hr, s2, c2, g2⟩
  have hX2 := (unhide HX).lt
  replace HE := hide ((unhide HE).trans ((ext_grown g2).mono fun k _ h => Or.inl h))
  replace HR := hide ((unhide HR).ext (ext_grown g2) (by omega))
  replace HX := hide ((unhide HX).ext (ext_grown g2) (by omega))
  replace HLV := hide ((Lay.sl Lay.int).keep (unhide HLV) fun c hc => g2.block c ((Lay.sl Lay.int).lt (unhide HLV) c hc) (fun e => by
    have h1 := unhide HBL c hc
    have h2 : c = b := Option.some.inj e
    omega))
  have HS := hide s2
  have HC := hide c2
  clear s2 c2 g2 L hr
  by_cases h0 : r = 0
  · subst h0
    have nb3 : Below w2.heap.size w2 (w2.alloc (.cells #[.int .i64 0, .int .i64 1, .int .i64 2, .int .i64 3] 2)) := (Below.refl _ _).alloc (Nat.le_refl _) _
    have hg3 := heap_alloc_new w2 (.cells #[.int .i64 0, .int .i64 1, .int .i64 2, .int .i64 3] 2)
    have hz2 : w1.heap.size < w2.heap.size := (unhide HX).lt
    have L := hide (pick b (m' + 1) w2.heap.size cv [0, 1, 2, 3] _ ((unhide HS).onW nb3) ((unhide HC).onW (by omega) nb3) (by omega) (by simp) (by simp) hg3 (by omega))
    replace HE := hide ((unhide HE).trans (ext_of_below nb3 _))
    replace HR := hide ((unhide HR).keep nb3)
    replace HX := hide ((unhide HX).keep nb3)
    replace HLV := hide ((Lay.sl Lay.int).keep (unhide HLV) fun c hc => nb3.block c ((Lay.sl Lay.int).lt (unhide HLV) c hc))
    clear nb3 hg3 HS HC
    go_wp2_with fail
    refine (unhide L).mono ?_
    generalize w2.alloc (.cells #[.int .i64 0, .int .i64 1, .int .i64 2, .int .i64 3] 2) = W3 at *
    rintro e w3 ⟨p, rfl, hp, s3, c3, g3⟩
    have hpb : 0 ≤ p ∧ p ≤ 1000 := by
      simp only [List.mem_cons, List.not_mem_nil, or_false] at hp
      omega
    replace HE := hide ((unhide HE).trans ((ext_grown g3).mono fun k _ h => Or.inl h))
    replace HR := hide ((unhide HR).ext (ext_grown g3) (by omega))
    replace HX := hide ((unhide HX).ext (ext_grown g3) (by omega))
    replace HLV := hide ((Lay.sl Lay.int).keep (unhide HLV) fun c hc => g3.block c ((Lay.sl Lay.int).lt (unhide HLV) c hc) (fun e => by
      have h1 := unhide HBL c hc
      have h2 : c = b := Option.some.inj e
      omega))
    have HS := hide s3
    have HC := hide c3
    clear s3 c3 g3 L
    have x0 : w3.cell? ⟨w1.heap.size, 0, none⟩ = some (.int .i64 x.kind) := (unhide HX).at 0 _ rfl
    have x1 : w3.cell? ⟨w1.heap.size, 1, none⟩ = some (.int .i64 x.id) := (unhide HX).at 1 _ rfl
    have x2 : w3.cell? ⟨w1.heap.size, 2, none⟩ = some (.slice a2 x.vec.length d2) := (unhide HX).at 2 _ rfl
    have x3 : w3.cell? ⟨w1.heap.size, 3, none⟩ = some (.int .i64 x.session) := (unhide HX).at 3 _ rfl
    have x4 : w3.cell? ⟨w1.heap.size, 4, none⟩ = some (.int .i64 x.seq) := (unhide HX).at 4 _ rfl
    have xf := (unhide HX).soft
    have xl := (unhide HX).lt
    have z0 : w3.cell? ⟨w.heap.size, 0, none⟩ = some (.int .i64 0) := (unhide HR).at 0 _ rfl
    have z1 : w3.cell? ⟨w.heap.size, 1, none⟩ = some (.int .i64 0) := (unhide HR).at 1 _ rfl
    have z2 : w3.cell? ⟨w.heap.size, 2, none⟩ = some (.slice none 0 0) := (unhide HR).at 2 _ rfl
    have z3 : w3.cell? ⟨w.heap.size, 3, none⟩ = some (.int .i64 0) := (unhide HR).at 3 _ rfl
    have z4 : w3.cell? ⟨w.heap.size, 4, none⟩ = some (.int .i64 0) := (unhide HR).at 4 _ rfl
    have zf := (unhide HR).soft
    have zl := (unhide HR).lt
    have hE9 : ∀ u0 u1 u2 u3 u4 u5, Ext (fun c => c = w1.heap.size ∨ c = w.heap.size) w3 ((((((w3.setCell ⟨w1.heap.size, 0, none⟩ u0).setCell ⟨w.heap.size, 0, none⟩ u1).setCell ⟨w.heap.size, 1, none⟩ u2).setCell ⟨w.heap.size, 2, none⟩ u3).setCell ⟨w.heap.size, 3, none⟩ u4).setCell ⟨w.heap.size, 4, none⟩ u5) := fun u0 u1 u2 u3 u4 u5 => (((((((Ext.refl _ _).setCell _ _ (Or.inl rfl)).setCell _ _ (Or.inr rfl)).setCell _ _ (Or.inr rfl)).setCell _ _ (Or.inr rfl)).setCell _ _ (Or.inr rfl)).setCell _ _ (Or.inr rfl))
    go_wp2_with fail
    refine bodyPost_ret (v := .agg #[.int .i64 p, .int .i64 x.id, .slice a2 x.vec.length d2, .int .i64 x.session, .int .i64 x.seq]) (by simp [results, Tryz.results15, go_sem, z0, z1, z2, z3, z4]) rfl ?_
    have hlw : Lay.tWrite.lies w3 [.int .i64 p, .int .i64 x.id, .slice a2 x.vec.length d2, .int .i64 x.session, .int .i64 x.seq] ⟨p, x.id, x.vec, x.session, x.seq⟩ bl := lies_Write.2 ⟨a2, d2, bl, rfl, rfl, (show (Lit.int .i64 p).wf = true from wf_of_bd (by omega)), wi, unhide HLV, wse, wsq⟩
    have hbl9 : ∀ c ∈ bl, w.heap.size < c ∧ c ≠ w1.heap.size := fun c hc => by have := unhide HBL c hc; omega
    obtain ⟨cs9, x9, bl9, m9, e9, q1, q2, q3, q4, q5, q6⟩ := closeW (m := m + 100) (unhide HE) (hE9 _ _ _ _ _ _) (Nat.le_of_lt hz1) hbw (unhide HS) (unhide HC) (by omega) hlw hbl9
    exact ⟨cs9, x9, bl9, m9, e9, q1, q2, q3, by omega, q5, q6⟩
  · have n0 : ((r : Int) == 0) = false := by simp; omega
    by_cases h1 : r = 1
    · subst h1
      have nb3 : Below w2.heap.size w2 (w2.alloc (.cells #[.int .i64 0, .int .i64 999, .int .i64 1000] 2)) := (Below.refl _ _).alloc (Nat.le_refl _) _
      have hg3 := heap_alloc_new w2 (.cells #[.int .i64 0, .int .i64 999, .int .i64 1000] 2)
      have hz2 : w1.heap.size < w2.heap.size := (unhide HX).lt
      have L := hide (pick b (m' + 1) w2.heap.size cv [0, 999, 1000] _ ((unhide HS).onW nb3) ((unhide HC).onW (by omega) nb3) (by omega) (by simp) (by simp) hg3 (by omega))
      replace HE := hide ((unhide HE).trans (ext_of_below nb3 _))
      replace HR := hide ((unhide HR).keep nb3)
      replace HX := hide ((unhide HX).keep nb3)
      replace HLV := hide ((Lay.sl Lay.int).keep (unhide HLV) fun c hc => nb3.block c ((Lay.sl Lay.int).lt (unhide HLV) c hc))
      clear nb3 hg3 HS HC
      go_wp2_with fail
      refine (unhide L).mono ?_
      generalize w2.alloc (.cells #[.int .i64 0, .int .i64 999, .int .i64 1000] 2) = W3 at *
      rintro e w3 ⟨p, rfl, hp, s3, c3, g3⟩
      have hpb : 0 ≤ p ∧ p ≤ 1000 := by
        simp only [List.mem_cons, List.not_mem_nil, or_false] at hp
        omega
      replace HE := hide ((unhide HE).trans ((ext_grown g3).mono fun k _ h => Or.inl h))
      replace HR := hide ((unhide HR).ext (ext_grown g3) (by omega))
      replace HX := hide ((unhide HX).ext (ext_grown g3) (by omega))
      replace HLV := hide ((Lay.sl Lay.int).keep (unhide HLV) fun c hc => g3.block c ((Lay.sl Lay.int).lt (unhide HLV) c hc) (fun e => by
        have h1 := unhide HBL c hc
        have h2 : c = b := Option.some.inj e
        omega))
      have HS := hide s3
      have HC := hide c3
      clear s3 c3 g3 L
      have x0 : w3.cell? ⟨w1.heap.size, 0, none⟩ = some (.int .i64 x.kind) := (unhide HX).at 0 _ rfl
      have x1 : w3.cell? ⟨w1.heap.size, 1, none⟩ = some (.int .i64 x.id) := (unhide HX).at 1 _ rfl
      have x2 : w3.cell? ⟨w1.heap.size, 2, none⟩ = some (.slice a2 x.vec.length d2) := (unhide HX).at 2 _ rfl
      have x3 : w3.cell? ⟨w1.heap.size, 3, none⟩ = some (.int .i64 x.session) := (unhide HX).at 3 _ rfl
      have x4 : w3.cell? ⟨w1.heap.size, 4, none⟩ = some (.int .i64 x.seq) := (unhide HX).at 4 _ rfl
      have xf := (unhide HX).soft
      have xl := (unhide HX).lt
      have z0 : w3.cell? ⟨w.heap.size, 0, none⟩ = some (.int .i64 0) := (unhide HR).at 0 _ rfl
      have z1 : w3.cell? ⟨w.heap.size, 1, none⟩ = some (.int .i64 0) := (unhide HR).at 1 _ rfl
      have z2 : w3.cell? ⟨w.heap.size, 2, none⟩ = some (.slice none 0 0) := (unhide HR).at 2 _ rfl
      have z3 : w3.cell? ⟨w.heap.size, 3, none⟩ = some (.int .i64 0) := (unhide HR).at 3 _ rfl
      have z4 : w3.cell? ⟨w.heap.size, 4, none⟩ = some (.int .i64 0) := (unhide HR).at 4 _ rfl
      have zf := (unhide HR).soft
      have zl := (unhide HR).lt
      have hE9 : ∀ u0 u1 u2 u3 u4 u5, Ext (fun c => c = w1.heap.size ∨ c = w.heap.size) w3 ((((((w3.setCell ⟨w1.heap.size, 1, none⟩ u0).setCell ⟨w.heap.size, 0, none⟩ u1).setCell ⟨w.heap.size, 1, none⟩ u2).setCell ⟨w.heap.size, 2, none⟩ u3).setCell ⟨w.heap.size, 3, none⟩ u4).setCell ⟨w.heap.size, 4, none⟩ u5) := fun u0 u1 u2 u3 u4 u5 => (((((((Ext.refl _ _).setCell _ _ (Or.inl rfl)).setCell _ _ (Or.inr rfl)).setCell _ _ (Or.inr rfl)).setCell _ _ (Or.inr rfl)).setCell _ _ (Or.inr rfl)).setCell _ _ (Or.inr rfl))
      go_wp2_with fail
      refine bodyPost_ret (v := .agg #[.int .i64 x.kind, .int .i64 p, .slice a2 x.vec.length d2, .int .i64 x.session, .int .i64 x.seq]) (by simp [results, Tryz.results15, go_sem, z0, z1, z2, z3, z4]) rfl ?_
      have hlw : Lay.tWrite.lies w3 [.int .i64 x.kind, .int .i64 p, .slice a2 x.vec.length d2, .int .i64 x.session, .int .i64 x.seq] ⟨x.kind, p, x.vec, x.session, x.seq⟩ bl := lies_Write.2 ⟨a2, d2, bl, rfl, rfl, wk, (show (Lit.int .i64 p).wf = true from wf_of_bd (by omega)), unhide HLV, wse, wsq⟩
      have hbl9 : ∀ c ∈ bl, w.heap.size < c ∧ c ≠ w1.heap.size := fun c hc => by have := unhide HBL c hc; omega
      obtain ⟨cs9, x9, bl9, m9, e9, q1, q2, q3, q4, q5, q6⟩ := closeW (m := m + 100) (unhide HE) (hE9 _ _ _ _ _ _) (Nat.le_of_lt hz1) hbw (unhide HS) (unhide HC) (by omega) hlw hbl9
      exact ⟨cs9, x9, bl9, m9, e9, q1, q2, q3, by omega, q5, q6⟩
    · have n1 : ((r : Int) == 1) = false := by simp; omega
      by_cases h2 : r = 2
      · subst h2
        have nb3 : Below w2.heap.size w2 (w2.alloc (.cells #[.int .i64 0, .int .i64 9, .int .i64 10] 2)) := (Below.refl _ _).alloc (Nat.le_refl _) _
        have hg3 := heap_alloc_new w2 (.cells #[.int .i64 0, .int .i64 9, .int .i64 10] 2)
        have hz2 : w1.heap.size < w2.heap.size := (unhide HX).lt
        have L := hide (pick b (m' + 1) w2.heap.size cv [0, 9, 10] _ ((unhide HS).onW nb3) ((unhide HC).onW (by omega) nb3) (by omega) (by simp) (by simp) hg3 (by omega))
        replace HE := hide ((unhide HE).trans (ext_of_below nb3 _))
        replace HR := hide ((unhide HR).keep nb3)
        replace HX := hide ((unhide HX).keep nb3)
        replace HLV := hide ((Lay.sl Lay.int).keep (unhide HLV) fun c hc => nb3.block c ((Lay.sl Lay.int).lt (unhide HLV) c hc))
        clear nb3 hg3 HS HC
        go_wp2_with fail
        refine (unhide L).mono ?_
        generalize w2.alloc (.cells #[.int .i64 0, .int .i64 9, .int .i64 10] 2) = W3 at *
        rintro e w3 ⟨p, rfl, hp, s3, c3, g3⟩
        have hpb : 0 ≤ p ∧ p ≤ 1000 := by
          simp only [List.mem_cons, List.not_mem_nil, or_false] at hp
          omega
        replace HE := hide ((unhide HE).trans ((ext_grown g3).mono fun k _ h => Or.inl h))
        replace HR := hide ((unhide HR).ext (ext_grown g3) (by omega))
        replace HX := hide ((unhide HX).ext (ext_grown g3) (by omega))
        replace HLV := hide ((Lay.sl Lay.int).keep (unhide HLV) fun c hc => g3.block c ((Lay.sl Lay.int).lt (unhide HLV) c hc) (fun e => by
          have h1 := unhide HBL c hc
          have h2 : c = b := Option.some.inj e
          omega))
        have HS := hide s3
        have HC := hide c3
        clear s3 c3 g3 L
        have x0 : w3.cell? ⟨w1.heap.size, 0, none⟩ = some (.int .i64 x.kind) := (unhide HX).at 0 _ rfl
        have x1 : w3.cell? ⟨w1.heap.size, 1, none⟩ = some (.int .i64 x.id) := (unhide HX).at 1 _ rfl
        have x2 : w3.cell? ⟨w1.heap.size, 2, none⟩ = some (.slice a2 x.vec.length d2) := (unhide HX).at 2 _ rfl
        have x3 : w3.cell? ⟨w1.heap.size, 3, none⟩ = some (.int .i64 x.session) := (unhide HX).at 3 _ rfl
        have x4 : w3.cell? ⟨w1.heap.size, 4, none⟩ = some (.int .i64 x.seq) := (unhide HX).at 4 _ rfl
        have xf := (unhide HX).soft
        have xl := (unhide HX).lt
        have z0 : w3.cell? ⟨w.heap.size, 0, none⟩ = some (.int .i64 0) := (unhide HR).at 0 _ rfl
        have z1 : w3.cell? ⟨w.heap.size, 1, none⟩ = some (.int .i64 0) := (unhide HR).at 1 _ rfl
        have z2 : w3.cell? ⟨w.heap.size, 2, none⟩ = some (.slice none 0 0) := (unhide HR).at 2 _ rfl
        have z3 : w3.cell? ⟨w.heap.size, 3, none⟩ = some (.int .i64 0) := (unhide HR).at 3 _ rfl
        have z4 : w3.cell? ⟨w.heap.size, 4, none⟩ = some (.int .i64 0) := (unhide HR).at 4 _ rfl
        have zf := (unhide HR).soft
        have zl := (unhide HR).lt
        have hE9 : ∀ u0 u1 u2 u3 u4 u5, Ext (fun c => c = w1.heap.size ∨ c = w.heap.size) w3 ((((((w3.setCell ⟨w1.heap.size, 3, none⟩ u0).setCell ⟨w.heap.size, 0, none⟩ u1).setCell ⟨w.heap.size, 1, none⟩ u2).setCell ⟨w.heap.size, 2, none⟩ u3).setCell ⟨w.heap.size, 3, none⟩ u4).setCell ⟨w.heap.size, 4, none⟩ u5) := fun u0 u1 u2 u3 u4 u5 => (((((((Ext.refl _ _).setCell _ _ (Or.inl rfl)).setCell _ _ (Or.inr rfl)).setCell _ _ (Or.inr rfl)).setCell _ _ (Or.inr rfl)).setCell _ _ (Or.inr rfl)).setCell _ _ (Or.inr rfl))
        go_wp2_with fail
        refine bodyPost_ret (v := .agg #[.int .i64 x.kind, .int .i64 x.id, .slice a2 x.vec.length d2, .int .i64 p, .int .i64 x.seq]) (by simp [results, Tryz.results15, go_sem, z0, z1, z2, z3, z4]) rfl ?_
        have hlw : Lay.tWrite.lies w3 [.int .i64 x.kind, .int .i64 x.id, .slice a2 x.vec.length d2, .int .i64 p, .int .i64 x.seq] ⟨x.kind, x.id, x.vec, p, x.seq⟩ bl := lies_Write.2 ⟨a2, d2, bl, rfl, rfl, wk, wi, unhide HLV, (show (Lit.int .i64 p).wf = true from wf_of_bd (by omega)), wsq⟩
        have hbl9 : ∀ c ∈ bl, w.heap.size < c ∧ c ≠ w1.heap.size := fun c hc => by have := unhide HBL c hc; omega
        obtain ⟨cs9, x9, bl9, m9, e9, q1, q2, q3, q4, q5, q6⟩ := closeW (m := m + 100) (unhide HE) (hE9 _ _ _ _ _ _) (Nat.le_of_lt hz1) hbw (unhide HS) (unhide HC) (by omega) hlw hbl9
        exact ⟨cs9, x9, bl9, m9, e9, q1, q2, q3, by omega, q5, q6⟩
      · have n2 : ((r : Int) == 2) = false := by simp; omega
        by_cases h3 : r = 3
        · subst h3
          have nb3 : Below w2.heap.size w2 (w2.alloc (.cells #[.int .i64 0, .int .i64 999, .int .i64 1000] 2)) := (Below.refl _ _).alloc (Nat.le_refl _) _
          have hg3 := heap_alloc_new w2 (.cells #[.int .i64 0, .int .i64 999, .int .i64 1000] 2)
          have hz2 : w1.heap.size < w2.heap.size := (unhide HX).lt
          have L := hide (pick b (m' + 1) w2.heap.size cv [0, 999, 1000] _ ((unhide HS).onW nb3) ((unhide HC).onW (by omega) nb3) (by omega) (by simp) (by simp) hg3 (by omega))
          replace HE := hide ((unhide HE).trans (ext_of_below nb3 _))
          replace HR := hide ((unhide HR).keep nb3)
          replace HX := hide ((unhide HX).keep nb3)
          replace HLV := hide ((Lay.sl Lay.int).keep (unhide HLV) fun c hc => nb3.block c ((Lay.sl Lay.int).lt (unhide HLV) c hc))
          clear nb3 hg3 HS HC
          go_wp2_with fail
          refine (unhide L).mono ?_
          generalize w2.alloc (.cells #[.int .i64 0, .int .i64 999, .int .i64 1000] 2) = W3 at *
          rintro e w3 ⟨p, rfl, hp, s3, c3, g3⟩
          have hpb : 0 ≤ p ∧ p ≤ 1000 := by
            simp only [List.mem_cons, List.not_mem_nil, or_false] at hp
            omega
          replace HE := hide ((unhide HE).trans ((ext_grown g3).mono fun k _ h => Or.inl h))
          replace HR := hide ((unhide HR).ext (ext_grown g3) (by omega))
          replace HX := hide ((unhide HX).ext (ext_grown g3) (by omega))
          replace HLV := hide ((Lay.sl Lay.int).keep (unhide HLV) fun c hc => g3.block c ((Lay.sl Lay.int).lt (unhide HLV) c hc) (fun e => by
            have h1 := unhide HBL c hc
            have h2 : c = b := Option.some.inj e
            omega))
          have HS := hide s3
          have HC := hide c3
          clear s3 c3 g3 L
          have x0 : w3.cell? ⟨w1.heap.size, 0, none⟩ = some (.int .i64 x.kind) := (unhide HX).at 0 _ rfl
          have x1 : w3.cell? ⟨w1.heap.size, 1, none⟩ = some (.int .i64 x.id) := (unhide HX).at 1 _ rfl
          have x2 : w3.cell? ⟨w1.heap.size, 2, none⟩ = some (.slice a2 x.vec.length d2) := (unhide HX).at 2 _ rfl
          have x3 : w3.cell? ⟨w1.heap.size, 3, none⟩ = some (.int .i64 x.session) := (unhide HX).at 3 _ rfl
          have x4 : w3.cell? ⟨w1.heap.size, 4, none⟩ = some (.int .i64 x.seq) := (unhide HX).at 4 _ rfl
          have xf := (unhide HX).soft
          have xl := (unhide HX).lt
          have z0 : w3.cell? ⟨w.heap.size, 0, none⟩ = some (.int .i64 0) := (unhide HR).at 0 _ rfl
          have z1 : w3.cell? ⟨w.heap.size, 1, none⟩ = some (.int .i64 0) := (unhide HR).at 1 _ rfl
          have z2 : w3.cell? ⟨w.heap.size, 2, none⟩ = some (.slice none 0 0) := (unhide HR).at 2 _ rfl
          have z3 : w3.cell? ⟨w.heap.size, 3, none⟩ = some (.int .i64 0) := (unhide HR).at 3 _ rfl
          have z4 : w3.cell? ⟨w.heap.size, 4, none⟩ = some (.int .i64 0) := (unhide HR).at 4 _ rfl
          have zf := (unhide HR).soft
          have zl := (unhide HR).lt
          have hE9 : ∀ u0 u1 u2 u3 u4 u5, Ext (fun c => c = w1.heap.size ∨ c = w.heap.size) w3 ((((((w3.setCell ⟨w1.heap.size, 4, none⟩ u0).setCell ⟨w.heap.size, 0, none⟩ u1).setCell ⟨w.heap.size, 1, none⟩ u2).setCell ⟨w.heap.size, 2, none⟩ u3).setCell ⟨w.heap.size, 3, none⟩ u4).setCell ⟨w.heap.size, 4, none⟩ u5) := fun u0 u1 u2 u3 u4 u5 => (((((((Ext.refl _ _).setCell _ _ (Or.inl rfl)).setCell _ _ (Or.inr rfl)).setCell _ _ (Or.inr rfl)).setCell _ _ (Or.inr rfl)).setCell _ _ (Or.inr rfl)).setCell _ _ (Or.inr rfl))
          go_wp2_with fail
          refine bodyPost_ret (v := .agg #[.int .i64 x.kind, .int .i64 x.id, .slice a2 x.vec.length d2, .int .i64 x.session, .int .i64 p]) (by simp [results, Tryz.results15, go_sem, z0, z1, z2, z3, z4]) rfl ?_
          have hlw : Lay.tWrite.lies w3 [.int .i64 x.kind, .int .i64 x.id, .slice a2 x.vec.length d2, .int .i64 x.session, .int .i64 p] ⟨x.kind, x.id, x.vec, x.session, p⟩ bl := lies_Write.2 ⟨a2, d2, bl, rfl, rfl, wk, wi, unhide HLV, wse, (show (Lit.int .i64 p).wf = true from wf_of_bd (by omega))⟩
          have hbl9 : ∀ c ∈ bl, w.heap.size < c ∧ c ≠ w1.heap.size := fun c hc => by have := unhide HBL c hc; omega
          obtain ⟨cs9, x9, bl9, m9, e9, q1, q2, q3, q4, q5, q6⟩ := closeW (m := m + 100) (unhide HE) (hE9 _ _ _ _ _ _) (Nat.le_of_lt hz1) hbw (unhide HS) (unhide HC) (by omega) hlw hbl9
          exact ⟨cs9, x9, bl9, m9, e9, q1, q2, q3, by omega, q5, q6⟩
        · have n3 : ((r : Int) == 3) = false := by simp; omega
          by_cases h4 : r = 4
          · subst h4
            have L := hide (bent b (m' + 1) cv w2 (unhide HS) (unhide HC) (by omega))
            have hz2 : w1.heap.size < w2.heap.size := (unhide HX).lt
            clear HS HC
            go_wp2_with fail
            refine (unhide L).mono ?_
            rintro e w3 ⟨v3, zs, m3, rfl, hzs, hNI, hm3, s3, c3, g3⟩
            obtain ⟨bz, hlz, hbz⟩ := hNI.lies (by omega)
            obtain ⟨a3, d3, rfl⟩ := open_sl ⟨bz, hlz⟩
            replace HE := hide ((unhide HE).trans ((ext_grown g3).mono fun k _ h => Or.inl h))
            replace HR := hide ((unhide HR).ext (ext_grown g3) (by omega))
            replace HX := hide ((unhide HX).ext (ext_grown g3) (by omega))
            replace HLV := hide ((Lay.sl Lay.int).keep (unhide HLV) fun c hc => g3.block c ((Lay.sl Lay.int).lt (unhide HLV) c hc) (fun e => by
              have h1 := unhide HBL c hc
              have h2 : c = b := Option.some.inj e
              omega))
            have HS := hide s3
            have HC := hide c3
            clear s3 c3 g3 L
            have x0 : w3.cell? ⟨w1.heap.size, 0, none⟩ = some (.int .i64 x.kind) := (unhide HX).at 0 _ rfl
            have x1 : w3.cell? ⟨w1.heap.size, 1, none⟩ = some (.int .i64 x.id) := (unhide HX).at 1 _ rfl
            have x2 : w3.cell? ⟨w1.heap.size, 2, none⟩ = some (.slice a2 x.vec.length d2) := (unhide HX).at 2 _ rfl
            have x3 : w3.cell? ⟨w1.heap.size, 3, none⟩ = some (.int .i64 x.session) := (unhide HX).at 3 _ rfl
            have x4 : w3.cell? ⟨w1.heap.size, 4, none⟩ = some (.int .i64 x.seq) := (unhide HX).at 4 _ rfl
            have xf := (unhide HX).soft
            have xl := (unhide HX).lt
            have z0 : w3.cell? ⟨w.heap.size, 0, none⟩ = some (.int .i64 0) := (unhide HR).at 0 _ rfl
            have z1 : w3.cell? ⟨w.heap.size, 1, none⟩ = some (.int .i64 0) := (unhide HR).at 1 _ rfl
            have z2 : w3.cell? ⟨w.heap.size, 2, none⟩ = some (.slice none 0 0) := (unhide HR).at 2 _ rfl
            have z3 : w3.cell? ⟨w.heap.size, 3, none⟩ = some (.int .i64 0) := (unhide HR).at 3 _ rfl
            have z4 : w3.cell? ⟨w.heap.size, 4, none⟩ = some (.int .i64 0) := (unhide HR).at 4 _ rfl
            have zf := (unhide HR).soft
            have zl := (unhide HR).lt
            have hE9 : ∀ u0 u1 u2 u3 u4 u5, Ext (fun c => c = w1.heap.size ∨ c = w.heap.size) w3 ((((((w3.setCell ⟨w1.heap.size, 2, none⟩ u0).setCell ⟨w.heap.size, 0, none⟩ u1).setCell ⟨w.heap.size, 1, none⟩ u2).setCell ⟨w.heap.size, 2, none⟩ u3).setCell ⟨w.heap.size, 3, none⟩ u4).setCell ⟨w.heap.size, 4, none⟩ u5) := fun u0 u1 u2 u3 u4 u5 => (((((((Ext.refl _ _).setCell _ _ (Or.inl rfl)).setCell _ _ (Or.inr rfl)).setCell _ _ (Or.inr rfl)).setCell _ _ (Or.inr rfl)).setCell _ _ (Or.inr rfl)).setCell _ _ (Or.inr rfl))
            go_wp2_with fail
            refine bodyPost_ret (v := .agg #[.int .i64 x.kind, .int .i64 x.id, .slice a3 zs.length d3, .int .i64 x.session, .int .i64 x.seq]) (by simp [results, Tryz.results15, go_sem, z0, z1, z2, z3, z4]) rfl ?_
            have hlw : Lay.tWrite.lies w3 [.int .i64 x.kind, .int .i64 x.id, .slice a3 zs.length d3, .int .i64 x.session, .int .i64 x.seq] ⟨x.kind, x.id, zs, x.session, x.seq⟩ bz := lies_Write.2 ⟨a3, d3, bz, rfl, rfl, wk, wi, hlz, wse, wsq⟩
            have hbl9 : ∀ c ∈ bz, w.heap.size < c ∧ c ≠ w1.heap.size := fun c hc => by have := hbz c hc; omega
            obtain ⟨cs9, x9, bl9, m9, e9, q1, q2, q3, q4, q5, q6⟩ := closeW (m := m + 100) (unhide HE) (hE9 _ _ _ _ _ _) (Nat.le_of_lt hz1) hbw (unhide HS) (unhide HC) (by omega) hlw hbl9
            exact ⟨cs9, x9, bl9, m9, e9, q1, q2, q3, by omega, q5, q6⟩
          · have n4 : ((r : Int) == 4) = false := by simp; omega
            have x0 : w2.cell? ⟨w1.heap.size, 0, none⟩ = some (.int .i64 x.kind) := (unhide HX).at 0 _ rfl
            have x1 : w2.cell? ⟨w1.heap.size, 1, none⟩ = some (.int .i64 x.id) := (unhide HX).at 1 _ rfl
            have x2 : w2.cell? ⟨w1.heap.size, 2, none⟩ = some (.slice a2 x.vec.length d2) := (unhide HX).at 2 _ rfl
            have x3 : w2.cell? ⟨w1.heap.size, 3, none⟩ = some (.int .i64 x.session) := (unhide HX).at 3 _ rfl
            have x4 : w2.cell? ⟨w1.heap.size, 4, none⟩ = some (.int .i64 x.seq) := (unhide HX).at 4 _ rfl
            have xf := (unhide HX).soft
            have xl := (unhide HX).lt
            have z0 : w2.cell? ⟨w.heap.size, 0, none⟩ = some (.int .i64 0) := (unhide HR).at 0 _ rfl
            have z1 : w2.cell? ⟨w.heap.size, 1, none⟩ = some (.int .i64 0) := (unhide HR).at 1 _ rfl
            have z2 : w2.cell? ⟨w.heap.size, 2, none⟩ = some (.slice none 0 0) := (unhide HR).at 2 _ rfl
            have z3 : w2.cell? ⟨w.heap.size, 3, none⟩ = some (.int .i64 0) := (unhide HR).at 3 _ rfl
            have z4 : w2.cell? ⟨w.heap.size, 4, none⟩ = some (.int .i64 0) := (unhide HR).at 4 _ rfl
            have zf := (unhide HR).soft
            have zl := (unhide HR).lt
            have hE9 : ∀ u0 u1 u2 u3 u4, Ext (fun c => c = w1.heap.size ∨ c = w.heap.size) w2 (((((w2.setCell ⟨w.heap.size, 0, none⟩ u0).setCell ⟨w.heap.size, 1, none⟩ u1).setCell ⟨w.heap.size, 2, none⟩ u2).setCell ⟨w.heap.size, 3, none⟩ u3).setCell ⟨w.heap.size, 4, none⟩ u4) := fun u0 u1 u2 u3 u4 => ((((((Ext.refl _ _).setCell _ _ (Or.inr rfl)).setCell _ _ (Or.inr rfl)).setCell _ _ (Or.inr rfl)).setCell _ _ (Or.inr rfl)).setCell _ _ (Or.inr rfl))
            go_wp2_with fail
            refine bodyPost_ret (v := .agg #[.int .i64 x.kind, .int .i64 x.id, .slice a2 x.vec.length d2, .int .i64 x.session, .int .i64 x.seq]) (by simp [results, Tryz.results15, go_sem, z0, z1, z2, z3, z4]) rfl ?_
            have hlw : Lay.tWrite.lies w2 [.int .i64 x.kind, .int .i64 x.id, .slice a2 x.vec.length d2, .int .i64 x.session, .int .i64 x.seq] x bl := lies_Write.2 ⟨a2, d2, bl, rfl, rfl, wk, wi, unhide HLV, wse, wsq⟩
            have hbl9 : ∀ c ∈ bl, w.heap.size < c ∧ c ≠ w1.heap.size := fun c hc => by have := unhide HBL c hc; omega
            obtain ⟨cs9, x9, bl9, m9, e9, q1, q2, q3, q4, q5, q6⟩ := closeW (m := m + 100) (unhide HE) (hE9 _ _ _ _ _) (Nat.le_of_lt hz1) hbw (unhide HS) (unhide HC) (by omega) hlw hbl9
            exact ⟨cs9, x9, bl9, m9, e9, q1, q2, q3, by omega, q5, q6⟩

end Go.Proofs.YtbogjepkdcknfaaGreatDoor

namespace Go.Proofs.YtbogjepkdcknfaaGreatDoor
open Go.RowKit

theorem grown_alloc {w w' : World} {o : Obj} {r : Option Nat} (h : (w.alloc o).grownBy w' r) : w.grownBy w' r := grown_trans (World.grownBy_alloc w o r) h

/-- At an operation of a plain region: 'append(s, q)', q laid into a block of its own first. -/
theorem wpList_append_int {w1 : World} {base : Nat} {v : Value} {n : Nat} {xs : List Value} (hown : w1.ownsRow base 2 1 v n xs) (q : Int) {ops : Array Oper} {rest : List Oper} {o : Oper} {a : Act} {Q : Exit → Act → World → Prop} (hgd : o.guard = none) (s x : Operand)
    (ho : o.op = .call { callee := .builtin .append, args := #[s, x], argTypes := #[27, 27] }) (hs : a.eval s = v) (hx : a.eval x = .slice (some ⟨w1.heap.size, 0, none⟩) 1 1)
    (hn : n ≤ 100000000) (hbase : base ≤ w1.heap.size)
    (h : ∀ g cap w', w'.ownsRow base 2 1 (.slice (some ⟨g, 0, none⟩) (n + 1) cap) (n + 1) (xs ++ [.int .i64 q]) → w1.grownBy w' v.ownBlock → Below base w1 w' → g < w'.heap.size → w1.heap.size < w'.heap.size → wpList Tryz.prog ops Q rest (a.put o.dst (.slice (some ⟨g, 0, none⟩) (n + 1) cap)) w') :
    wpList Tryz.prog ops Q (o :: rest) a (w1.alloc (.cells #[.int .i64 q] 2)) := by
  obtain ⟨i0, hi0, hz0, hz1, hz2⟩ := info_parts info2
  refine wpList_append_lies _ hgd s x 27 ho base 2 i0 _ 1 8 Tryz.underlying27 hi0 hz0 hz1 hz2 rfl (by omega) v n xs hs (hown.alloc _) ⟨w1.heap.size, 0, none⟩ 1 1 [.int .i64 q] hx rfl (World.news_of_block (cs := #[.int .i64 q]) (t := 2) (fr := (0, 0)) (heap_alloc_new w1 _)) (by simp [Value.oneCell']) (by omega) (by unfold maxLen; omega) (by omega) (by simp; omega) (w1.heap.size + 1) (by simp) ?_
  intro g cap w' h2 h3 _ h5
  have hg := grown_alloc h3
  have hsz := h3.size
  simp only [World.size_alloc] at hsz
  exact h g cap w' h2 hg ((Below.refl _ _).grown hg hbase (fun j hj => (hown.lt j hj).1)) h5 (by omega)

end Go.Proofs.YtbogjepkdcknfaaGreatDoor

namespace Go.Proofs.YtbogjepkdcknfaaGreatDoor
open Go.RowKit

theorem infoAppWrite : (Tryz.prog.info? 29).map (fun i => (i.zero, i.size, i.bytes)) = some (some (.agg #[.int .i64 0, .int .i64 0, .slice none 0 0, .int .i64 0, .int .i64 0]), 5, 56) := by kernel_rfl
theorem one_Write {w : World} {row : List Value} {x : DWrite} {bl : List Nat} (h : Lay.tWrite.lies w row x bl) : (∀ u ∈ row, u.oneCell' = true) ∧ row.length = 1 * 5 := by
  obtain ⟨_, _, _, rfl, -⟩ := lies_Write.1 h
  simp [Value.oneCell']

/-- At an operation of a plain region: the new one lies in a block of its own. -/
theorem wpList_append_Write {w1 : World} {base : Nat} {v : Value} {rows : List (List Value)} {xs : List DWrite} {bls : List (List Nat)} (hG : Grow Lay.tWrite w1 base 29 v rows xs bls) {row : List Value} {x : DWrite} {bl : List Nat} (hl : Lay.tWrite.lies w1 row x bl) (hbl : ∀ b ∈ bl, v.ownBlock ≠ some b) {ops : Array Oper} {rest : List Oper} {o : Oper} {a : Act} {Q : Exit → Act → World → Prop} (hgd : o.guard = none) (s y : Operand)
    (ho : o.op = .call { callee := .builtin .append, args := #[s, y], argTypes := #[24, 24] }) (hs : a.eval s = v) (hy : a.eval y = .slice (some ⟨w1.heap.size, 0, none⟩) 1 1) (hn : xs.length + 1 ≤ 100000000) (hbase : base ≤ w1.heap.size)
    (h : ∀ g cap w', Grow Lay.tWrite w' base 29 (.slice (some ⟨g, 0, none⟩) (xs.length + 1) cap) (rows ++ [row]) (xs ++ [x]) (bls ++ [bl]) → Below base w1 w' → Ext (fun q => v.ownBlock = some q) w1 w' → g < w'.heap.size → w1.heap.size ≤ w'.heap.size → (v.ownBlock = some g ∨ w1.heap.size ≤ g) → wpList Tryz.prog ops Q rest (a.put o.dst (.slice (some ⟨g, 0, none⟩) (xs.length + 1) cap)) w') :
    wpList Tryz.prog ops Q (o :: rest) a (w1.alloc (.cells row.toArray 29)) := by
  obtain ⟨i0, hi0, hz0, hz1, hz2⟩ := info_parts infoAppWrite
  obtain ⟨h1, hlen⟩ := one_Write hl
  refine wpList_append_lies _ hgd s y 24 ho base 29 i0 _ 5 56 Tryz.underlying24 hi0 hz0 hz1 hz2 rfl (by omega) v xs.length rows.flatten hs (hG.own.alloc _) ⟨w1.heap.size, 0, none⟩ 1 1 row hy hlen (World.news_of_block (cs := row.toArray) (t := 29) (fr := (0, 0)) (heap_alloc_new w1 _)) h1 (by omega) (by unfold maxLen; omega) (by omega) (by simp; omega) (w1.alloc (.cells row.toArray 29)).heap.size rfl ?_
  intro g cap w' h2 h3 h4 h5
  have hg := grown_alloc h3
  have hbw : Below base w1 w' := (Below.refl _ _).grown hg hbase (fun j hj => (hG.own.lt j hj).1)
  have hor : v.ownBlock = some g ∨ w1.heap.size ≤ g := by
    rcases h4 with h4 | h4
    · exact Or.inl h4
    · exact Or.inr (by rw [h4]; simp)
  exact h g cap w' (hG.snoc hl hbl h2 hg hor) hbw ⟨hbw.os, hbw.tape, hbw.output, hbw.size, fun k hk hn => hg.block k hk (fun e => hn e.symm)⟩ h5 hbw.size hor

/-- At a step of a region that draws its order. -/
theorem step_append_Write {w1 : World} {base : Nat} {v : Value} {rows : List (List Value)} {xs : List DWrite} {bls : List (List Nat)} (hG : Grow Lay.tWrite w1 base 29 v rows xs bls) {row : List Value} {x : DWrite} {bl : List Nat} (hl : Lay.tWrite.lies w1 row x bl) (hbl : ∀ b ∈ bl, v.ownBlock ≠ some b) {ops : Array Oper} {o : Oper} {a : Act} {K : Act → World → Prop} {Q : Exit → Act → World → Prop} {E : Prop} (hgd : o.guard = none) (s y : Operand)
    (ho : o.op = .call { callee := .builtin .append, args := #[s, y], argTypes := #[24, 24] }) (hs : a.eval s = v) (hy : a.eval y = .slice (some ⟨w1.heap.size, 0, none⟩) 1 1) (hn : xs.length + 1 ≤ 100000000) (hbase : base ≤ w1.heap.size)
    (h : ∀ g cap w', Grow Lay.tWrite w' base 29 (.slice (some ⟨g, 0, none⟩) (xs.length + 1) cap) (rows ++ [row]) (xs ++ [x]) (bls ++ [bl]) → Below base w1 w' → Ext (fun q => v.ownBlock = some q) w1 w' → g < w'.heap.size → w1.heap.size ≤ w'.heap.size → (v.ownBlock = some g ∨ w1.heap.size ≤ g) → K (a.put o.dst (.slice (some ⟨g, 0, none⟩) (xs.length + 1) cap)) w') :
    if Region.wanted o (yielded ops a.tmps) = true then Oper.wp Tryz.prog o a (w1.alloc (.cells row.toArray 29)) K Q else E := by
  obtain ⟨i0, hi0, hz0, hz1, hz2⟩ := info_parts infoAppWrite
  obtain ⟨h1, hlen⟩ := one_Write hl
  refine step_append_lies _ hgd s y 24 ho base 29 i0 _ 5 56 Tryz.underlying24 hi0 hz0 hz1 hz2 rfl (by omega) v xs.length rows.flatten hs (hG.own.alloc _) ⟨w1.heap.size, 0, none⟩ 1 1 row hy hlen (World.news_of_block (cs := row.toArray) (t := 29) (fr := (0, 0)) (heap_alloc_new w1 _)) h1 (by omega) (by unfold maxLen; omega) (by omega) (by simp; omega) (w1.alloc (.cells row.toArray 29)).heap.size rfl ?_
  intro g cap w' h2 h3 h4 h5
  have hg := grown_alloc h3
  have hbw : Below base w1 w' := (Below.refl _ _).grown hg hbase (fun j hj => (hG.own.lt j hj).1)
  have hor : v.ownBlock = some g ∨ w1.heap.size ≤ g := by
    rcases h4 with h4 | h4
    · exact Or.inl h4
    · exact Or.inr (by rw [h4]; simp)
  exact h g cap w' (hG.snoc hl hbl h2 hg hor) hbw ⟨hbw.os, hbw.tape, hbw.output, hbw.size, fun k hk hn => hg.block k hk (fun e => hn e.symm)⟩ h5 hbw.size hor

end Go.Proofs.YtbogjepkdcknfaaGreatDoor

namespace Go.Proofs.YtbogjepkdcknfaaGreatDoor
open Go.RowKit

def ofB (s : Int) (x : DWrite) : Bool := decide (x.session = s)
def sameB (s q : Int) (x : DWrite) : Bool := decide (x.session = s) && decide (x.seq = q)
/-- The greatest number of a session. -/
def lastI (ws : List DWrite) (s : Int) : Int := ws.foldl (fun n x => if x.session = s then max n x.seq else n) 0
/-- How many writes there are up to the first one of a session and number; 0: there is none. -/
def seenFrom (s q : Int) : Nat → List DWrite → Nat
  | _, [] => 0
  | n, x :: xs => if x.session = s ∧ x.seq = q then n + 1 else seenFrom s q (n + 1) xs
def seenI (ws : List DWrite) (s q : Int) : Nat := seenFrom s q 0 ws
/-- Of each session the numbers rise. -/
def onceB : List DWrite → List DWrite → Bool
  | _, [] => true
  | pre, x :: xs => decide (lastI pre x.session < x.seq) && onceB (pre ++ [x]) xs
def askedF (ws : List DWrite) (s : Int) : Int := if writesF ws = 0 then (if 1 ≤ s ∧ s ≤ 9 then 0 else 3) else writesF ws

theorem lastI_nil (s : Int) : lastI [] s = 0 := rfl
theorem lastI_snoc (ws : List DWrite) (x : DWrite) (s : Int) : lastI (ws ++ [x]) s = if x.session = s then max (lastI ws s) x.seq else lastI ws s := by
  simp [lastI]
theorem lastI_take (ws : List DWrite) (k : Nat) (h : k < ws.length) (s : Int) : lastI (ws.take (k + 1)) s = if ws[k].session = s then max (lastI (ws.take k) s) ws[k].seq else lastI (ws.take k) s := by
  rw [List.take_succ_eq_append_getElem h, lastI_snoc]
theorem seenFrom_snoc (s q : Int) (x : DWrite) : ∀ (ws : List DWrite) (n : Nat), seenFrom s q n (ws ++ [x]) = if seenFrom s q n ws = 0 then (if x.session = s ∧ x.seq = q then n + ws.length + 1 else 0) else seenFrom s q n ws
  | [], n => by simp [seenFrom]
  | y :: ws, n => by
    rw [List.cons_append, seenFrom, seenFrom]
    by_cases h : y.session = s ∧ y.seq = q
    · rw [if_pos h, if_pos h, if_neg (by omega)]
    · rw [if_neg h, if_neg h, seenFrom_snoc s q x ws (n + 1)]
      simp only [List.length_cons]
      rw [show n + 1 + ws.length + 1 = n + (ws.length + 1) + 1 by omega]
theorem seenI_snoc (ws : List DWrite) (x : DWrite) (s q : Int) : seenI (ws ++ [x]) s q = if seenI ws s q = 0 then (if x.session = s ∧ x.seq = q then ws.length + 1 else 0) else seenI ws s q := by
  have := seenFrom_snoc s q x ws 0
  rw [Nat.zero_add] at this
  exact this
theorem seenI_le (ws : List DWrite) (s q : Int) : seenI ws s q ≤ ws.length := by
  have : ∀ (ws : List DWrite) (n : Nat), seenFrom s q n ws ≤ n + ws.length := by
    intro ws
    induction ws with
    | nil => intro n; simp [seenFrom]
    | cons x xs ih =>
      intro n
      rw [seenFrom]
      split
      · simp only [List.length_cons]; omega
      · have := ih (n + 1)
        simp only [List.length_cons]
        omega
  have := this ws 0
  rw [Nat.zero_add] at this
  exact this
theorem seenFrom_at (s q : Int) : ∀ (ws : List DWrite) (n k : Nat) (h : k < ws.length), (∀ j (hj : j < ws.length), j < k → ¬ (ws[j].session = s ∧ ws[j].seq = q)) → (ws[k].session = s ∧ ws[k].seq = q) → seenFrom s q n ws = n + k + 1
  | [], _, _, h, _, _ => by simp at h
  | x :: xs, n, 0, _, _, hk => by rw [seenFrom, if_pos (by simpa using hk)]
  | x :: xs, n, k + 1, h, hn, hk => by
    have h0 := hn 0 (by simp) (by omega)
    rw [seenFrom, if_neg (by simpa using h0), seenFrom_at s q xs (n + 1) k (by simpa using h) (fun j hj hjk => by have := hn (j + 1) (by simpa using hj) (by omega); simpa using this) (by simpa using hk)]
    omega
theorem seenI_at {s q : Int} {ws : List DWrite} {k : Nat} (h : k < ws.length) (hn : ∀ j (hj : j < ws.length), j < k → ¬ (ws[j].session = s ∧ ws[j].seq = q)) (hk : ws[k].session = s ∧ ws[k].seq = q) : seenI ws s q = k + 1 := by
  have := seenFrom_at s q ws 0 k h hn hk
  rw [Nat.zero_add] at this
  exact this
theorem seenI_none {s q : Int} {ws : List DWrite} (hn : ∀ j (hj : j < ws.length), ¬ (ws[j].session = s ∧ ws[j].seq = q)) : seenI ws s q = 0 := by
  have : ∀ (ws : List DWrite) (n : Nat), (∀ j (hj : j < ws.length), ¬ (ws[j].session = s ∧ ws[j].seq = q)) → seenFrom s q n ws = 0 := by
    intro ws
    induction ws with
    | nil => intro n _; rfl
    | cons x xs ih =>
      intro n hn
      have h0 := hn 0 (by simp)
      rw [seenFrom, if_neg (by simpa using h0)]
      exact ih (n + 1) fun j hj => by have := hn (j + 1) (by simpa using hj); simpa using this
  exact this ws 0 hn
theorem seenI_zero {ws : List DWrite} {s q : Int} (h : seenI ws s q = 0) : ∀ x ∈ ws, ¬ (x.session = s ∧ x.seq = q) := by
  have : ∀ (ws : List DWrite) (n : Nat), seenFrom s q n ws = 0 → ∀ x ∈ ws, ¬ (x.session = s ∧ x.seq = q) := by
    intro ws
    induction ws with
    | nil => intro n _ x hx; simp at hx
    | cons y xs ih =>
      intro n h x hx
      rw [seenFrom] at h
      split at h
      · omega
      · rename_i hy
        rcases List.mem_cons.1 hx with rfl | hx
        · exact hy
        · exact ih (n + 1) h x hx
  exact this ws 0 h
theorem lastI_nonneg (ws : List DWrite) (s : Int) : 0 ≤ lastI ws s := by
  have : ∀ (ws : List DWrite) (n : Int), 0 ≤ n → 0 ≤ ws.foldl (fun n x => if x.session = s then max n x.seq else n) n := by
    intro ws
    induction ws with
    | nil => intro n h; exact h
    | cons x xs ih =>
      intro n h
      rw [List.foldl_cons]
      apply ih
      split <;> omega
  exact this ws 0 (Int.le_refl _)
theorem lastI_le (ws : List DWrite) (s : Int) (h : ∀ x ∈ ws, x.seq ≤ 999) : lastI ws s ≤ 999 := by
  have : ∀ (ws : List DWrite) (n : Int), n ≤ 999 → (∀ x ∈ ws, x.seq ≤ 999) → ws.foldl (fun n x => if x.session = s then max n x.seq else n) n ≤ 999 := by
    intro ws
    induction ws with
    | nil => intro n h _; exact h
    | cons x xs ih =>
      intro n h hx
      rw [List.foldl_cons]
      apply ih
      · have := hx x (by simp)
        split <;> omega
      · intro y hy; exact hx y (List.mem_cons_of_mem _ hy)
  exact this ws 0 (by omega) h
theorem onceB_at : ∀ (ws pre : List DWrite) (k : Nat) (h : k < ws.length), (ws[k]).seq ≤ lastI (pre ++ ws.take k) (ws[k]).session → onceB pre ws = false
  | [], _, _, h, _ => by simp at h
  | x :: xs, pre, 0, _, hk => by
    have : ¬ (lastI pre x.session < x.seq) := by simpa using hk
    simp [onceB, this]
  | x :: xs, pre, k + 1, h, hk => by
    rw [onceB, onceB_at xs (pre ++ [x]) k (by simpa using h) (by simpa using hk), Bool.and_false]
theorem onceB_all : ∀ (ws pre : List DWrite), (∀ k (h : k < ws.length), lastI (pre ++ ws.take k) (ws[k]).session < (ws[k]).seq) → onceB pre ws = true
  | [], _, _ => rfl
  | x :: xs, pre, h => by
    have h0 := h 0 (by simp)
    rw [onceB, onceB_all xs (pre ++ [x]) fun k hk => by have := h (k + 1) (by simpa using hk); simpa using this]
    simpa using h0
def onceR (ws : List DWrite) : Bool := decide (writesF ws = 0) && onceB [] ws
theorem wF_seq {x : DWrite} (h : wF x = 0) : 1 ≤ x.session ∧ x.session ≤ 9 ∧ 1 ≤ x.seq ∧ x.seq ≤ 999 := by
  obtain ⟨-, h1, h2, -⟩ := writeFault_zero h
  exact ⟨h1.1, h1.2, h2.1, h2.2⟩

end Go.Proofs.YtbogjepkdcknfaaGreatDoor

namespace Go.Proofs.YtbogjepkdcknfaaGreatDoor
open Go.RowKit

set_option maxRecDepth 10000 in
set_option maxHeartbeats 1000000 in
theorem specWrites_pos (b off cap : Nat) (ws : List DWrite) (w : World) (h : (Lay.sl Lay.tWrite).Reads w [.slice (some ⟨b, off, none⟩) ws.length cap] ws) (hbl : b < w.heap.size) (hn : ws.length ≤ 200) :
    Calls Tryz.prog 69 #[.slice (some ⟨b, off, none⟩) ws.length cap] w fun e w' => e = .returned (.int .i64 (writesF ws)) ∧ w' = w := by
  have HW : Hid (writesF ws = wsFrom ws) := by show writesF ws = wsFrom ws; rw [writesF, if_neg (by omega)]
  have H := hide h
  clear h
  go_enter Tryz.func69, Tryz.ntmps69
  go_wp2_with fail
  go_loop [3] (fun i => ∃ k : Nat, k ≤ ws.length ∧ i = .int .i64 k ∧ (∀ j (hj : j < ws.length), j < k → wF ws[j] = 0)) (fun i => ws.length - (intOf i).toNat)
  case atStart => exact ⟨0, Nat.zero_le _, rfl, fun j _ hj => by omega⟩
  case round =>
    obtain ⟨k, hk, rfl, hz⟩ := hrel
    by_cases hlt : k < ws.length
    · obtain ⟨row, hc, hr⟩ := Lay.row_at (unhide H) hlt
      obtain ⟨a2, d2, rfl, R2⟩ := open_Write hr
      have c0 : w.cell? ⟨b, off + k * 5, none⟩ = some (.int .i64 (ws[k]).kind) := ((Below.refl w.heap.size w).cell (p := ⟨b, off + k * 5, none⟩) hbl).trans (hc 0 (by decide))
      have c1 : w.cell? ⟨b, off + k * 5 + 1, none⟩ = some (.int .i64 (ws[k]).id) := ((Below.refl w.heap.size w).cell (p := ⟨b, off + k * 5 + 1, none⟩) hbl).trans (hc 1 (by decide))
      have c2 : w.cell? ⟨b, off + k * 5 + 2, none⟩ = some (.slice a2 (ws[k]).vec.length d2) := ((Below.refl w.heap.size w).cell (p := ⟨b, off + k * 5 + 2, none⟩) hbl).trans (hc 2 (by decide))
      have c3 : w.cell? ⟨b, off + k * 5 + 3, none⟩ = some (.int .i64 (ws[k]).session) := ((Below.refl w.heap.size w).cell (p := ⟨b, off + k * 5 + 3, none⟩) hbl).trans (hc 3 (by decide))
      have c4 : w.cell? ⟨b, off + k * 5 + 4, none⟩ = some (.int .i64 (ws[k]).seq) := ((Below.refl w.heap.size w).cell (p := ⟨b, off + k * 5 + 4, none⟩) hbl).trans (hc 4 (by decide))
      have HZ := hide hz
      have HAT : Hid (wF ws[k] ≠ 0 → writesF ws = wF ws[k]) := fun hn => (unhide HW).trans (wsFrom_at ws k hlt hz hn)
      have HZ2 : Hid (wF ws[k] = 0 → ∀ j (hj : j < ws.length), j < k + 1 → wF ws[j] = 0) := by
        intro h0 j hj hjk
        by_cases hjk2 : j < k
        · exact unhide HZ j hj hjk2
        · obtain rfl : j = k := by omega
          exact h0
      clear hc hr hz HZ
      generalize hx : ws[k] = x at *
      clear hx
      have L := l3FaultO b (off + k * 5) x.kind x.id _ x.session x.seq x.vec w ⟨c0, c1, c2, c3, c4⟩ (Lay.ints_reads R2)
      rw [show writeFault x.kind x.id x.vec x.session x.seq = wF x from rfl] at L
      have HL := hide L
      clear L R2 c0 c1 c2 c3 c4
      go_wp2_with fail
      refine (unhide HL).mono ?_
      rintro e w ⟨rfl, rfl⟩
      by_cases hf : wF x = 0
      · rw [hf]
        have HZ3 := hide (unhide HZ2 hf)
        clear hf HZ2 HAT HL
        go_wp2_with fail
        go_round
        case rel => exact ⟨k + 1, by omega, by go_num, unhide HZ3⟩
        case measure => simp [intOf]; omega
      · have hd : (wF x != 0) = true := by simpa using hf
        have HG := hide (unhide HAT hf)
        clear hf HZ2 HAT HL
        go_wp2_with fail
        go_ret
        exact ⟨by rw [unhide HG]; rfl, rfl⟩
    · have HG : Hid (writesF ws = 0) := (unhide HW).trans (wsFrom_all ws fun j hj => hz j hj (by omega))
      clear hz H
      go_wp2_with fail
      go_ret
      exact ⟨by rw [unhide HG]; rfl, rfl⟩

set_option maxRecDepth 10000 in
theorem specWrites (v : Value) (ws : List DWrite) (w : World) (h : (Lay.sl Lay.tWrite).Reads w [v] ws) :
    Calls Tryz.prog 69 #[v] w fun e w' => e = .returned (.int .i64 (writesF ws)) ∧ w' = w := by
  obtain ⟨ao, cap, rfl⟩ := open_sl h
  by_cases hn : ws.length ≤ 200
  · by_cases hp : 0 < ws.length
    · obtain ⟨b, off, rfl, hbl⟩ := Lay.sl_addr h hp
      exact specWrites_pos b off cap ws w h hbl hn
    · obtain rfl : ws = [] := List.eq_nil_of_length_eq_zero (by omega)
      clear h hn hp
      go_enter Tryz.func69, Tryz.ntmps69
      go_wp2_with fail
      refine wp_loop_rounds 1 ?_
      rw [rounds_succ]
      go_wp2_with fail
      go_ret
      exact ⟨rfl, rfl⟩
  · have e : writesF ws = 2 := by rw [writesF, if_pos (by omega)]
    rw [e]
    have hd : decide ((200 : Int) < (ws.length : Int)) = true := by simp; omega
    clear h e
    go_enter Tryz.func69, Tryz.ntmps69
    go_wp2_with fail
    go_ret
    exact ⟨rfl, rfl⟩

end Go.Proofs.YtbogjepkdcknfaaGreatDoor

namespace Go.Proofs.YtbogjepkdcknfaaGreatDoor
open Go.RowKit

theorem l1MaxC (x y : Int) (w : World) : Calls Tryz.prog 44 #[.int .i64 x, .int .i64 y] w fun e w' => e = .returned (.int .i64 (max x y)) ∧ w' = w := by
  by_cases h : y < x
  · have d : decide (y < x) = true := by simpa using h
    have e : max x y = x := by omega
    rw [e]
    go_enter Tryz.func44, Tryz.ntmps44
    go_wp2
    go_ret
    exact ⟨rfl, rfl⟩
  · have d : decide (y < x) = false := by simpa using h
    have e : max x y = y := by omega
    rw [e]
    go_enter Tryz.func44, Tryz.ntmps44
    go_wp2
    go_ret
    exact ⟨rfl, rfl⟩

set_option maxRecDepth 10000 in
set_option maxHeartbeats 1000000 in
theorem l5Last_pos (b off cap : Nat) (ws : List DWrite) (s : Int) (w : World) (h : (Lay.sl Lay.tWrite).Reads w [.slice (some ⟨b, off, none⟩) ws.length cap] ws) (hbl : b < w.heap.size) (hn : ws.length ≤ 10000000) :
    Calls Tryz.prog 18 #[.slice (some ⟨b, off, none⟩) ws.length cap, .int .i64 s] w fun e w' => e = .returned (.int .i64 (lastI ws s)) ∧ w' = w := by
  have H := hide h
  clear h
  go_enter Tryz.func18, Tryz.ntmps18
  go_wp2_with fail
  go_loop [5, 6] (fun m i => ∃ k : Nat, k ≤ ws.length ∧ i = .int .i64 k ∧ m = .int .i64 (lastI (ws.take k) s)) (fun _ i => ws.length - (intOf i).toNat)
  case atStart => exact ⟨0, Nat.zero_le _, rfl, rfl⟩
  case round =>
    obtain ⟨k, hk, rfl, rfl⟩ := hrel
    by_cases hlt : k < ws.length
    · obtain ⟨row, hc, hr⟩ := Lay.row_at (unhide H) hlt
      obtain ⟨a2, d2, rfl, R2⟩ := open_Write hr
      have c3 : w.cell? ⟨b, off + k * 5 + 3, none⟩ = some (.int .i64 (ws[k]).session) := hc 3 (by decide)
      have c4 : w.cell? ⟨b, off + k * 5 + 4, none⟩ = some (.int .i64 (ws[k]).seq) := hc 4 (by decide)
      have HT := hide (lastI_take ws k hlt s)
      clear hc hr R2
      generalize hx : ws[k] = x at *
      clear hx
      by_cases hs : x.session = s
      · have ds : (x.session == s) = true := by simpa using hs
        have HL := hide (fun W => l1MaxC (lastI (ws.take k) s) x.seq W)
        have HT2 : Hid (lastI (ws.take (k + 1)) s = max (lastI (ws.take k) s) x.seq) := by
          have := unhide HT
          rw [if_pos hs] at this
          exact this
        clear HT hs
        generalize hl : lastI (ws.take k) s = l at *
        clear hl
        go_wp2_with fail
        refine (unhide HL _).mono ?_
        rintro e w2 ⟨rfl, rfl⟩
        go_wp2_with fail
        go_round
        case rel => exact ⟨k + 1, by omega, by go_num, by rw [unhide HT2]⟩
        case measure => simp [intOf]; omega
      · have ds : (x.session == s) = false := by simpa using hs
        have HT2 : Hid (lastI (ws.take (k + 1)) s = lastI (ws.take k) s) := by
          have := unhide HT
          rw [if_neg hs] at this
          exact this
        clear HT hs
        go_wp2_with fail
        go_round
        case rel => exact ⟨k + 1, by omega, by go_num, by rw [unhide HT2]⟩
        case measure => simp [intOf]; omega
    · obtain rfl : k = ws.length := by omega
      rw [List.take_length]
      clear H
      go_wp2_with fail
      go_ret
      exact ⟨rfl, rfl⟩

theorem l5LastC (v : Value) (ws : List DWrite) (s : Int) (w : World) (h : (Lay.sl Lay.tWrite).Reads w [v] ws) (hn : ws.length ≤ 10000000) :
    Calls Tryz.prog 18 #[v, .int .i64 s] w fun e w' => e = .returned (.int .i64 (lastI ws s)) ∧ w' = w := by
  obtain ⟨ao, cap, rfl⟩ := open_sl h
  by_cases hp : 0 < ws.length
  · obtain ⟨b, off, rfl, hbl⟩ := Lay.sl_addr h hp
    exact l5Last_pos b off cap ws s w h hbl hn
  · obtain rfl : ws = [] := List.eq_nil_of_length_eq_zero (by omega)
    clear h hn hp
    go_enter Tryz.func18, Tryz.ntmps18
    go_wp2_with fail
    refine wp_loop_rounds 1 ?_
    rw [rounds_succ]
    go_wp2_with fail
    go_ret
    exact ⟨rfl, rfl⟩

end Go.Proofs.YtbogjepkdcknfaaGreatDoor

namespace Go.Proofs.YtbogjepkdcknfaaGreatDoor
open Go.RowKit

theorem grown_low5 {a b c : World} {s : Option Nat} (h : a.grownBy b s) (k : Below a.heap.size b c) : a.grownBy c s :=
  ⟨k.os.trans h.os, k.tape.trans h.tape, k.output.trans h.output, Nat.le_trans h.size k.size, fun i hi hn => (k.block i hi).trans (h.block i hi hn)⟩
theorem flat_snoc5 {bls : List (List Nat)} {bl : List Nat} {P : Nat → Prop} (h : ∀ c ∈ bls.flatten, P c) (h2 : ∀ c ∈ bl, P c) : ∀ c ∈ (bls ++ [bl]).flatten, P c := by
  intro c hc
  rw [List.flatten_append] at hc
  rcases List.mem_append.1 hc with hc | hc
  · exact h c hc
  · exact h2 c (by simpa using hc)
theorem chance5 (b m : Nat) (cv : Value) (w : World) (hs : SrcAt w b cv m) (hc : IsCode b w cv) (hm : m ≤ 100000000) (n : Int) (hn : 1 ≤ n) (hn2 : n ≤ 200) :
    Calls Tryz.prog 16 #[.pointer (some ⟨b, 0, none⟩), .int .i64 n] w fun e w' => ∃ r : Bool, e = .returned (.bool r) ∧ SrcAt w' b cv (m + 1) ∧ IsCode b w' cv ∧ w.grownBy w' (some b) := by
  have HL := hide (next b m cv n w hs hc (by omega) hn (by omega))
  clear hs hc
  go_enter Tryz.func16, Tryz.ntmps16
  go_wp2_with fail
  refine (unhide HL).mono ?_
  rintro e w1 ⟨r, rfl, hr, s1, c1, g1⟩
  have HS := hide s1
  have HC := hide c1
  have HG := hide g1
  clear s1 c1 g1 HL
  go_wp2_with fail
  go_ret
  exact ⟨_, rfl, unhide HS, unhide HC, unhide HG⟩

set_option maxRecDepth 100000 in
set_option maxHeartbeats 4000000 in
theorem drawRight (b m n : Nat) (cv : Value) (w : World) (hs : SrcAt w b cv m) (hc : IsCode b w cv) (hm : m ≤ 100000) (hn0 : 0 < n) (hn : n ≤ 100) :
    Calls Tryz.prog 61 #[.pointer (some ⟨b, 0, none⟩), .int .i64 n] w fun e w' => ∃ (v : Value) (rows : List (List Value)) (xs : List DWrite) (bls : List (List Nat)) (m' : Nat), e = .returned v ∧ Grow Lay.tWrite w' w.heap.size 29 v rows xs bls ∧ (∀ c ∈ bls.flatten, w.heap.size ≤ c) ∧ xs.length ≤ n ∧
      SrcAt w' b cv m' ∧ m' ≤ m + 1 + 101 * n ∧ IsCode b w' cv ∧ w.grownBy w' (some b) := by
  have hbw := hs.lt
  have nb : Below w.heap.size w (w.alloc (.cells #[] 29)) := (Below.refl w.heap.size w).alloc (Nat.le_refl _) (.cells #[] 29)
  have G0 : Grow Lay.tWrite (w.alloc (.cells #[] 29)) w.heap.size 29 (.slice (some ⟨w.heap.size, 0, none⟩) 0 0) [] [] [] := Grow.nil (World.ownsRow_lit w #[] 0 (Nat.le_refl _) (Nat.zero_le _) rfl)
  have L := next b m cv n (w.alloc (.cells #[] 29)) (hs.onW nb) (hc.onW (Nat.le_of_lt hbw) nb) (by omega) (by omega) (by omega)
  have HL := hide L
  have HG := hide G0
  have HN := hide nb
  clear L G0 nb hs hc
  go_enter Tryz.func61, Tryz.ntmps61
  go_wp2_with fail
  refine (unhide HL).mono ?_
  rintro e w1 ⟨r, rfl, hr, s1, c1, g1⟩
  have hr2 : r ≤ n := by omega
  have HG1 := hide ((unhide HG).grown g1 hbw (by simp))
  have HS1 := hide s1
  have HC1 := hide c1
  have HGR1 : Hid (w.grownBy w1 (some b)) := ⟨g1.os.trans (unhide HN).os, g1.tape.trans (unhide HN).tape, g1.output.trans (unhide HN).output, Nat.le_trans (unhide HN).size g1.size, fun i hi hn => (g1.block i (Nat.lt_of_lt_of_le hi (unhide HN).size) hn).trans ((unhide HN).block i hi)⟩
  clear s1 c1 g1 HL HG HN hr
  go_wp2_with fail
  go_loopw [5, 6] (fun v kk wr => ∃ (j : Nat) (rows : List (List Value)) (xs : List DWrite) (bls : List (List Nat)) (m' : Nat), j ≤ n ∧ kk = .int .i64 j ∧ Grow Lay.tWrite wr w.heap.size 29 v rows xs bls ∧ (∀ c ∈ bls.flatten, w.heap.size ≤ c) ∧ xs.length + j ≤ n ∧
      SrcAt wr b cv m' ∧ m' + 101 * j ≤ m + 1 + 101 * n ∧ IsCode b wr cv ∧ w.grownBy wr (some b)) (fun _ kk _ => (intOf kk).toNat)
  case atStart => exact ⟨r, [], [], [], m + 1, hr2, rfl, unhide HG1, by simp, by simp; exact hr2, unhide HS1, by omega, unhide HC1, unhide HGR1⟩
  case round =>
    obtain ⟨j, rows, xs, bls, m', hj, rfl, hG, hsf, hlen, hS, hm', hC, hgr⟩ := hrel
    clear HG1 HS1 HC1 HGR1
    by_cases hlt : 0 < j
    · have HL := hide (drawWrite b m' cv wr hS hC (by omega))
      have HG := hide hG
      have HSF := hide hsf
      have HGR := hide hgr
      have d1 : decide ((0 : Int) < (j : Int)) = true := by simp; omega
      have hwr := hgr.size
      clear hG hsf hS hC hgr
      go_wp2_with fail
      refine (unhide HL).mono ?_
      rintro e w3 ⟨cs, x, bl, m3, rfl, hl, hbl, s3, hm3, c3, g3⟩
      obtain ⟨a2, d2, bv, rfl, rfl, k0, k1, hvl, k3, k4⟩ := lies_Write.1 hl
      have nb : Below w3.heap.size w3 (w3.alloc (.cells #[.int .i64 x.kind, .int .i64 x.id, .slice a2 x.vec.length d2, .int .i64 x.session, .int .i64 x.seq] 29)) := (Below.refl _ _).alloc (Nat.le_refl _) _
      have HQ : Hid (Box 0 #[.int .i64 x.kind, .int .i64 x.id, .slice a2 x.vec.length d2, .int .i64 x.session, .int .i64 x.seq] 29 (w3.alloc (.cells #[.int .i64 x.kind, .int .i64 x.id, .slice a2 x.vec.length d2, .int .i64 x.session, .int .i64 x.seq] 29)) w3.heap.size) := newBox (Nat.zero_le _)
      have hG3 := ((unhide HG).grown g3 hbw (unhide HSF))
      have HG4 := hide (hG3.later nb)
      have HLS := hide (l5LastC u5 xs x.session _ ((unhide HG4).toReads (by omega)) (by omega))
      have HNX := hide (next b m3 cv 2 _ (s3.onW nb) (c3.onW (by have := s3.lt; omega) nb) (by omega) (by omega) (by omega))
      have HVL := hide ((Lay.sl Lay.int).keep hvl fun c hc => nb.block c ((Lay.sl Lay.int).lt hvl c hc))
      have HBL : Hid (∀ c ∈ bl, wr.heap.size ≤ c ∧ c < w3.heap.size) := hbl
      have HGR3 : Hid (w.grownBy (w3.alloc (.cells #[.int .i64 x.kind, .int .i64 x.id, .slice a2 x.vec.length d2, .int .i64 x.session, .int .i64 x.seq] 29)) (some b)) := grown_low5 (grown_trans (unhide HGR) g3) (nb.mono (Nat.le_trans hwr g3.size))
      have hz3 : wr.heap.size ≤ w3.heap.size := g3.size
      have HWF := hide (And.intro k0 (And.intro k1 k3))
      have hGo : ∀ c, u5.ownBlock = some c → w.heap.size ≤ c ∧ c < wr.heap.size := fun c hc => (unhide HG).own.lt c hc
      have HSL : Hid (∀ c ∈ bls.flatten, c < wr.heap.size) := fun c hc => (unhide HG).sub_lt c hc
      have HGO := hide hGo
      clear hl hbl s3 c3 g3 HL HG HGR k0 k1 hvl k3 k4 hG3 hGo nb
      go_upto_region 6 with fail
      generalize w3.alloc (.cells #[.int .i64 x.kind, .int .i64 x.id, .slice a2 x.vec.length d2, .int .i64 x.session, .int .i64 x.seq] 29) = W4 at *
      have y3 : W4.cell? ⟨w3.heap.size, 3, none⟩ = some (.int .i64 x.session) := (unhide HQ).at 3 _ rfl
      go_wp2_with fail
      refine (unhide HLS).mono ?_
      rintro e w9 ⟨rfl, hw9⟩
      rw [hw9]
      clear hw9 w9 HLS y3
      go_wp2_with fail
      refine (unhide HNX).mono ?_
      rintro e w5 ⟨r5, rfl, hr5, s5, c5, g5⟩
      have hq4 : w3.heap.size < W4.heap.size := (unhide HQ).lt
      have hQ5 := (unhide HQ).ext (ext_grown g5) (by omega)
      have l5 := hQ5.lt
      have f5 := hQ5.soft 4
      have y4 : w5.cell? ⟨w3.heap.size, 4, none⟩ = some (.int .i64 x.seq) := hQ5.at 4 _ rfl
      have HG5 := hide ((unhide HG4).grown g5 hbw (unhide HSF))
      have HVL5 := hide ((Lay.sl Lay.int).keep (unhide HVL) fun c hc => g5.block c ((Lay.sl Lay.int).lt (unhide HVL) c hc) (fun e => by have := (unhide HBL c hc).1; have e2 : c = b := Option.some.inj e; omega))
      have HS5 := hide s5
      have HC5 := hide c5
      have HGR5 := hide (grown_trans (unhide HGR3) g5)
      have HQ5 := hide hQ5
      clear s5 c5 g5 HNX HQ HG4 HVL HGR3 hQ5
      go_upto_region 7 with fail
      have hzw : (Lit.int .i64 (wrap64 (wrap64 (lastI xs x.session + 1) + (r5 : Int)))).wf = true := by first | exact wf_wrap .i64 _ | (unfold wrap64; rw [← IntKind.wrap_i64]; exact wf_wrap _ _) | (rw [← wrap64_eq]; exact wf_wrap _ _) | (simp only [wrap64]; exact wf_of_bd (by omega))
      generalize wrap64 (wrap64 (lastI xs x.session + 1) + (r5 : Int)) = z at *
      have hE : Ext (fun c => c = w3.heap.size) w5 (w5.setCell ⟨w3.heap.size, 4, none⟩ (.int .i64 z)) := (Ext.refl (fun c => c = w3.heap.size) w5).setCell ⟨w3.heap.size, 4, none⟩ _ rfl
      have hQ6 : Box 0 #[.int .i64 x.kind, .int .i64 x.id, .slice a2 x.vec.length d2, .int .i64 x.session, .int .i64 z] 29 (w5.setCell ⟨w3.heap.size, 4, none⟩ (.int .i64 z)) w3.heap.size := (unhide HQ5).set 4 (.int .i64 z)
      have hl6 : Lay.tWrite.lies (w5.setCell ⟨w3.heap.size, 4, none⟩ (.int .i64 z)) [.int .i64 x.kind, .int .i64 x.id, .slice a2 x.vec.length d2, .int .i64 x.session, .int .i64 z] { x with seq := z } bl := lies_Write.2 ⟨a2, d2, bl, rfl, rfl, (unhide HWF).1, (unhide HWF).2.1, (Lay.sl Lay.int).keep (unhide HVL5) (fun c hc => hE.block c ((Lay.sl Lay.int).lt (unhide HVL5) c hc) (by have := (unhide HBL c hc).2; omega)), (unhide HWF).2.2, hzw⟩
      have hG6 : Grow Lay.tWrite (w5.setCell ⟨w3.heap.size, 4, none⟩ (.int .i64 z)) w.heap.size 29 u5 rows xs bls := (unhide HG5).kept (by
        obtain ⟨h1, h2⟩ := (unhide HG5).own
        refine ⟨h1, ?_⟩
        rcases h2 with h2 | ⟨gb, cap', cur, hv, hg, hh, r⟩
        · exact Or.inl h2
        · exact Or.inr ⟨gb, cap', cur, hv, hg, (hE.block gb (lt_of_block hh) (by have := (unhide HGO gb (by rw [hv]; rfl)).2; omega)).trans hh, r⟩) (fun c hc => hE.block c ((unhide HG5).sub_lt c hc) (by have := unhide HSL c hc; omega))
      have hoff : ∀ c ∈ bl, u5.ownBlock ≠ some c := fun c hc e => by
        have h1 := (unhide HBL c hc).1
        have h2 := (unhide HGO c e).2
        omega
      have hw5 : w.heap.size ≤ w5.heap.size := (unhide HGR5).size
      have HS6 := hide ((unhide HS5).extW hE (by omega))
      have HC6 := hide ((unhide HC5).extW (by omega) hE (fun k hk e => by omega))
      have HGR6 := hide (grown_low5 (unhide HGR5) (hE.below (B := w.heap.size) hw5 (fun k hk e => by omega)))
      have y0 : (w5.setCell ⟨w3.heap.size, 4, none⟩ (.int .i64 z)).cell? ⟨w3.heap.size, 0, none⟩ = some (.int .i64 x.kind) := hQ6.at 0 _ rfl
      have y1 : (w5.setCell ⟨w3.heap.size, 4, none⟩ (.int .i64 z)).cell? ⟨w3.heap.size, 1, none⟩ = some (.int .i64 x.id) := hQ6.at 1 _ rfl
      have y2 : (w5.setCell ⟨w3.heap.size, 4, none⟩ (.int .i64 z)).cell? ⟨w3.heap.size, 2, none⟩ = some (.slice a2 x.vec.length d2) := hQ6.at 2 _ rfl
      have y3 : (w5.setCell ⟨w3.heap.size, 4, none⟩ (.int .i64 z)).cell? ⟨w3.heap.size, 3, none⟩ = some (.int .i64 x.session) := hQ6.at 3 _ rfl
      have y5 : (w5.setCell ⟨w3.heap.size, 4, none⟩ (.int .i64 z)).cell? ⟨w3.heap.size, 4, none⟩ = some (.int .i64 z) := hQ6.at 4 _ rfl
      have hZ : w.heap.size ≤ (w5.setCell ⟨w3.heap.size, 4, none⟩ (.int .i64 z)).heap.size := by simpa using hw5
      have HSF2 : Hid (∀ c ∈ (bls ++ [bl]).flatten, w.heap.size ≤ c) := flat_snoc5 (unhide HSF) (fun c hc => Nat.le_trans hwr (unhide HBL c hc).1)
      clear y4 f5 l5 hE hQ6 HQ5 HVL5 HG5 HS5 HC5 HGR5 HBL HGO HSL HWF HSF hzw
      generalize w5.setCell ⟨w3.heap.size, 4, none⟩ (.int .i64 z) = W6 at *
      go_wp2_with (at_builtin; refine wpList_append_Write hG6 hl6 hoff rfl _ _ rfl rfl rfl (by omega) hZ ?_)
      intro g cap w7 hG7 hb7 hE7 hg7 hz7 hor7
      have HG7 := hide hG7
      have HS7 : Hid (SrcAt w7 b cv (m3 + 1)) := (hb7.block b hbw).trans (unhide HS6)
      have HC7 := hide ((unhide HC6).later (hb7.mono (Nat.le_of_lt hbw)))
      have HGR7 := hide (grown_low5 (unhide HGR6) hb7)
      clear hG6 hl6 hoff hG7 hb7 hE7 hg7 hz7 hor7 HS6 HC6 HGR6 y0 y1 y2 y3 y5
      go_wp2_with fail
      go_roundw
      case rel => exact ⟨j - 1, _, _, _, m3 + 1, by omega, by go_num, unhide HG7, unhide HSF2, by simp; omega, unhide HS7, by omega, unhide HC7, unhide HGR7⟩
      case measure => simp [intOf]; omega
    · obtain rfl : j = 0 := by omega
      have HG := hide hG
      have HSF := hide hsf
      have HGR := hide hgr
      have HS := hide hS
      have HC := hide hC
      clear hG hsf hS hC hgr
      go_wp2_with fail
      go_ret
      exact ⟨u5, rows, xs, bls, m', rfl, unhide HG, unhide HSF, by omega, unhide HS, by omega, unhide HC, unhide HGR⟩

end Go.Proofs.YtbogjepkdcknfaaGreatDoor

namespace Go.Proofs.YtbogjepkdcknfaaGreatDoor
open Go.RowKit

theorem lastI_leB (ws : List DWrite) (s B : Int) (h0 : 0 ≤ B) (h : ∀ x ∈ ws, x.seq ≤ B) : lastI ws s ≤ B := by
  have : ∀ (ys : List DWrite) (n : Int), n ≤ B → (∀ x ∈ ys, x.seq ≤ B) → ys.foldl (fun n x => if x.session = s then max n x.seq else n) n ≤ B := by
    intro ys
    induction ys with
    | nil => intro n hn _; exact hn
    | cons y ys ih =>
      intro n hn hy
      refine ih _ ?_ (fun x hx => hy x (List.mem_cons_of_mem _ hx))
      have := hy y (by simp)
      show (if y.session = s then max n y.seq else n) ≤ B
      split <;> omega
  exact this ws 0 h0 h

set_option maxRecDepth 100000 in
set_option maxHeartbeats 4000000 in
theorem drawRightR (b m n : Nat) (cv : Value) (w : World) (hs : SrcAt w b cv m) (hc : IsCode b w cv) (hm : m ≤ 100000) (hn0 : 0 < n) (hn : n ≤ 100) :
    Calls Tryz.prog 61 #[.pointer (some ⟨b, 0, none⟩), .int .i64 n] w fun e w' => ∃ (v : Value) (rows : List (List Value)) (xs : List DWrite) (bls : List (List Nat)) (m' : Nat), e = .returned v ∧ Grow Lay.tWrite w' w.heap.size 29 v rows xs bls ∧ (∀ c ∈ bls.flatten, w.heap.size ≤ c) ∧ xs.length ≤ n ∧ (∀ y ∈ xs, wF y = 0 ∧ y.seq ≤ 2 * (xs.length : Int)) ∧
      SrcAt w' b cv m' ∧ m' ≤ m + 1 + 101 * n ∧ IsCode b w' cv ∧ w.grownBy w' (some b) := by
  have hbw := hs.lt
  have nb : Below w.heap.size w (w.alloc (.cells #[] 29)) := (Below.refl w.heap.size w).alloc (Nat.le_refl _) (.cells #[] 29)
  have G0 : Grow Lay.tWrite (w.alloc (.cells #[] 29)) w.heap.size 29 (.slice (some ⟨w.heap.size, 0, none⟩) 0 0) [] [] [] := Grow.nil (World.ownsRow_lit w #[] 0 (Nat.le_refl _) (Nat.zero_le _) rfl)
  have L := next b m cv n (w.alloc (.cells #[] 29)) (hs.onW nb) (hc.onW (Nat.le_of_lt hbw) nb) (by omega) (by omega) (by omega)
  have HL := hide L
  have HG := hide G0
  have HN := hide nb
  clear L G0 nb hs hc
  go_enter Tryz.func61, Tryz.ntmps61
  go_wp2_with fail
  refine (unhide HL).mono ?_
  rintro e w1 ⟨r, rfl, hr, s1, c1, g1⟩
  have hr2 : r ≤ n := by omega
  have HG1 := hide ((unhide HG).grown g1 hbw (by simp))
  have HS1 := hide s1
  have HC1 := hide c1
  have HGR1 : Hid (w.grownBy w1 (some b)) := ⟨g1.os.trans (unhide HN).os, g1.tape.trans (unhide HN).tape, g1.output.trans (unhide HN).output, Nat.le_trans (unhide HN).size g1.size, fun i hi hn => (g1.block i (Nat.lt_of_lt_of_le hi (unhide HN).size) hn).trans ((unhide HN).block i hi)⟩
  clear s1 c1 g1 HL HG HN hr
  go_wp2_with fail
  go_loopw [5, 6] (fun v kk wr => ∃ (j : Nat) (rows : List (List Value)) (xs : List DWrite) (bls : List (List Nat)) (m' : Nat), j ≤ n ∧ kk = .int .i64 j ∧ Grow Lay.tWrite wr w.heap.size 29 v rows xs bls ∧ (∀ c ∈ bls.flatten, w.heap.size ≤ c) ∧ xs.length + j ≤ n ∧ (∀ y ∈ xs, wF y = 0 ∧ y.seq ≤ 2 * (xs.length : Int)) ∧
      SrcAt wr b cv m' ∧ m' + 101 * j ≤ m + 1 + 101 * n ∧ IsCode b wr cv ∧ w.grownBy wr (some b)) (fun _ kk _ => (intOf kk).toNat)
  case atStart => exact ⟨r, [], [], [], m + 1, hr2, rfl, unhide HG1, by simp, by simp; exact hr2, by simp, unhide HS1, by omega, unhide HC1, unhide HGR1⟩
  case round =>
    obtain ⟨j, rows, xs, bls, m', hj, rfl, hG, hsf, hlen, hwq, hS, hm', hC, hgr⟩ := hrel
    have HWQ := hide hwq
    clear hwq
    clear HG1 HS1 HC1 HGR1
    by_cases hlt : 0 < j
    · have HL := hide (drawWriteR b m' cv wr hS hC (by omega))
      have HG := hide hG
      have HSF := hide hsf
      have HGR := hide hgr
      have d1 : decide ((0 : Int) < (j : Int)) = true := by simp; omega
      have hwr := hgr.size
      clear hG hsf hS hC hgr
      go_wp2_with fail
      refine (unhide HL).mono ?_
      rintro e w3 ⟨cs, x, bl, m3, rfl, hl, hbl, s3, hm3, c3, g3, hwx, hqx⟩
      have HWX := hide hwx
      clear hwx hqx
      obtain ⟨a2, d2, bv, rfl, rfl, k0, k1, hvl, k3, k4⟩ := lies_Write.1 hl
      have nb : Below w3.heap.size w3 (w3.alloc (.cells #[.int .i64 x.kind, .int .i64 x.id, .slice a2 x.vec.length d2, .int .i64 x.session, .int .i64 x.seq] 29)) := (Below.refl _ _).alloc (Nat.le_refl _) _
      have HQ : Hid (Box 0 #[.int .i64 x.kind, .int .i64 x.id, .slice a2 x.vec.length d2, .int .i64 x.session, .int .i64 x.seq] 29 (w3.alloc (.cells #[.int .i64 x.kind, .int .i64 x.id, .slice a2 x.vec.length d2, .int .i64 x.session, .int .i64 x.seq] 29)) w3.heap.size) := newBox (Nat.zero_le _)
      have hG3 := ((unhide HG).grown g3 hbw (unhide HSF))
      have HG4 := hide (hG3.later nb)
      have HLS := hide (l5LastC u5 xs x.session _ ((unhide HG4).toReads (by omega)) (by omega))
      have HNX := hide (next b m3 cv 2 _ (s3.onW nb) (c3.onW (by have := s3.lt; omega) nb) (by omega) (by omega) (by omega))
      have HVL := hide ((Lay.sl Lay.int).keep hvl fun c hc => nb.block c ((Lay.sl Lay.int).lt hvl c hc))
      have HBL : Hid (∀ c ∈ bl, wr.heap.size ≤ c ∧ c < w3.heap.size) := hbl
      have HGR3 : Hid (w.grownBy (w3.alloc (.cells #[.int .i64 x.kind, .int .i64 x.id, .slice a2 x.vec.length d2, .int .i64 x.session, .int .i64 x.seq] 29)) (some b)) := grown_low5 (grown_trans (unhide HGR) g3) (nb.mono (Nat.le_trans hwr g3.size))
      have hz3 : wr.heap.size ≤ w3.heap.size := g3.size
      have HWF := hide (And.intro k0 (And.intro k1 k3))
      have hGo : ∀ c, u5.ownBlock = some c → w.heap.size ≤ c ∧ c < wr.heap.size := fun c hc => (unhide HG).own.lt c hc
      have HSL : Hid (∀ c ∈ bls.flatten, c < wr.heap.size) := fun c hc => (unhide HG).sub_lt c hc
      have HGO := hide hGo
      clear hl hbl s3 c3 g3 HL HG HGR k0 k1 hvl k3 k4 hG3 hGo nb
      go_upto_region 6 with fail
      generalize w3.alloc (.cells #[.int .i64 x.kind, .int .i64 x.id, .slice a2 x.vec.length d2, .int .i64 x.session, .int .i64 x.seq] 29) = W4 at *
      have y3 : W4.cell? ⟨w3.heap.size, 3, none⟩ = some (.int .i64 x.session) := (unhide HQ).at 3 _ rfl
      go_wp2_with fail
      refine (unhide HLS).mono ?_
      rintro e w9 ⟨rfl, hw9⟩
      rw [hw9]
      clear hw9 w9 HLS y3
      go_wp2_with fail
      refine (unhide HNX).mono ?_
      rintro e w5 ⟨r5, rfl, hr5, s5, c5, g5⟩
      have hq4 : w3.heap.size < W4.heap.size := (unhide HQ).lt
      have hQ5 := (unhide HQ).ext (ext_grown g5) (by omega)
      have l5 := hQ5.lt
      have f5 := hQ5.soft 4
      have y4 : w5.cell? ⟨w3.heap.size, 4, none⟩ = some (.int .i64 x.seq) := hQ5.at 4 _ rfl
      have HG5 := hide ((unhide HG4).grown g5 hbw (unhide HSF))
      have HVL5 := hide ((Lay.sl Lay.int).keep (unhide HVL) fun c hc => g5.block c ((Lay.sl Lay.int).lt (unhide HVL) c hc) (fun e => by have := (unhide HBL c hc).1; have e2 : c = b := Option.some.inj e; omega))
      have HS5 := hide s5
      have HC5 := hide c5
      have HGR5 := hide (grown_trans (unhide HGR3) g5)
      have HQ5 := hide hQ5
      clear s5 c5 g5 HNX HQ HG4 HVL HGR3 hQ5
      go_upto_region 7 with fail
      have hzw : (Lit.int .i64 (wrap64 (wrap64 (lastI xs x.session + 1) + (r5 : Int)))).wf = true := by first | exact wf_wrap .i64 _ | (unfold wrap64; rw [← IntKind.wrap_i64]; exact wf_wrap _ _) | (rw [← wrap64_eq]; exact wf_wrap _ _) | (simp only [wrap64]; exact wf_of_bd (by omega))
      have HZV : Hid (1 ≤ wrap64 (wrap64 (lastI xs x.session + 1) + (r5 : Int)) ∧ wrap64 (wrap64 (lastI xs x.session + 1) + (r5 : Int)) ≤ 2 * (xs.length : Int) + 2) := by
        have h1 := lastI_nonneg xs x.session
        have h2 := lastI_leB xs x.session (2 * (xs.length : Int)) (by omega) (fun y hy => (unhide HWQ y hy).2)
        have h3 : wrap64 (lastI xs x.session + 1) = lastI xs x.session + 1 := by unfold wrap64; omega
        have h4 : wrap64 (lastI xs x.session + 1 + (r5 : Int)) = lastI xs x.session + 1 + (r5 : Int) := by unfold wrap64; omega
        rw [h3, h4]
        exact ⟨by omega, by omega⟩
      generalize wrap64 (wrap64 (lastI xs x.session + 1) + (r5 : Int)) = z at *
      have hE : Ext (fun c => c = w3.heap.size) w5 (w5.setCell ⟨w3.heap.size, 4, none⟩ (.int .i64 z)) := (Ext.refl (fun c => c = w3.heap.size) w5).setCell ⟨w3.heap.size, 4, none⟩ _ rfl
      have hQ6 : Box 0 #[.int .i64 x.kind, .int .i64 x.id, .slice a2 x.vec.length d2, .int .i64 x.session, .int .i64 z] 29 (w5.setCell ⟨w3.heap.size, 4, none⟩ (.int .i64 z)) w3.heap.size := (unhide HQ5).set 4 (.int .i64 z)
      have hl6 : Lay.tWrite.lies (w5.setCell ⟨w3.heap.size, 4, none⟩ (.int .i64 z)) [.int .i64 x.kind, .int .i64 x.id, .slice a2 x.vec.length d2, .int .i64 x.session, .int .i64 z] { x with seq := z } bl := lies_Write.2 ⟨a2, d2, bl, rfl, rfl, (unhide HWF).1, (unhide HWF).2.1, (Lay.sl Lay.int).keep (unhide HVL5) (fun c hc => hE.block c ((Lay.sl Lay.int).lt (unhide HVL5) c hc) (by have := (unhide HBL c hc).2; omega)), (unhide HWF).2.2, hzw⟩
      have hG6 : Grow Lay.tWrite (w5.setCell ⟨w3.heap.size, 4, none⟩ (.int .i64 z)) w.heap.size 29 u5 rows xs bls := (unhide HG5).kept (by
        obtain ⟨h1, h2⟩ := (unhide HG5).own
        refine ⟨h1, ?_⟩
        rcases h2 with h2 | ⟨gb, cap', cur, hv, hg, hh, r⟩
        · exact Or.inl h2
        · exact Or.inr ⟨gb, cap', cur, hv, hg, (hE.block gb (lt_of_block hh) (by have := (unhide HGO gb (by rw [hv]; rfl)).2; omega)).trans hh, r⟩) (fun c hc => hE.block c ((unhide HG5).sub_lt c hc) (by have := unhide HSL c hc; omega))
      have hoff : ∀ c ∈ bl, u5.ownBlock ≠ some c := fun c hc e => by
        have h1 := (unhide HBL c hc).1
        have h2 := (unhide HGO c e).2
        omega
      have hw5 : w.heap.size ≤ w5.heap.size := (unhide HGR5).size
      have HS6 := hide ((unhide HS5).extW hE (by omega))
      have HC6 := hide ((unhide HC5).extW (by omega) hE (fun k hk e => by omega))
      have HGR6 := hide (grown_low5 (unhide HGR5) (hE.below (B := w.heap.size) hw5 (fun k hk e => by omega)))
      have y0 : (w5.setCell ⟨w3.heap.size, 4, none⟩ (.int .i64 z)).cell? ⟨w3.heap.size, 0, none⟩ = some (.int .i64 x.kind) := hQ6.at 0 _ rfl
      have y1 : (w5.setCell ⟨w3.heap.size, 4, none⟩ (.int .i64 z)).cell? ⟨w3.heap.size, 1, none⟩ = some (.int .i64 x.id) := hQ6.at 1 _ rfl
      have y2 : (w5.setCell ⟨w3.heap.size, 4, none⟩ (.int .i64 z)).cell? ⟨w3.heap.size, 2, none⟩ = some (.slice a2 x.vec.length d2) := hQ6.at 2 _ rfl
      have y3 : (w5.setCell ⟨w3.heap.size, 4, none⟩ (.int .i64 z)).cell? ⟨w3.heap.size, 3, none⟩ = some (.int .i64 x.session) := hQ6.at 3 _ rfl
      have y5 : (w5.setCell ⟨w3.heap.size, 4, none⟩ (.int .i64 z)).cell? ⟨w3.heap.size, 4, none⟩ = some (.int .i64 z) := hQ6.at 4 _ rfl
      have hZ : w.heap.size ≤ (w5.setCell ⟨w3.heap.size, 4, none⟩ (.int .i64 z)).heap.size := by simpa using hw5
      have HSF2 : Hid (∀ c ∈ (bls ++ [bl]).flatten, w.heap.size ≤ c) := flat_snoc5 (unhide HSF) (fun c hc => Nat.le_trans hwr (unhide HBL c hc).1)
      clear y4 f5 l5 hE hQ6 HQ5 HVL5 HG5 HS5 HC5 HGR5 HBL HGO HSL HWF HSF hzw
      generalize w5.setCell ⟨w3.heap.size, 4, none⟩ (.int .i64 z) = W6 at *
      go_wp2_with (at_builtin; refine wpList_append_Write hG6 hl6 hoff rfl _ _ rfl rfl rfl (by omega) hZ ?_)
      have HWQ7 : Hid (∀ y ∈ xs ++ [{ x with seq := z }], wF y = 0 ∧ y.seq ≤ 2 * ((xs ++ [{ x with seq := z }]).length : Int)) := by
        intro y hy
        have hl9 : (xs ++ [{ x with seq := z }]).length = xs.length + 1 := by simp
        rw [hl9]
        rcases List.mem_append.1 hy with hy | hy
        · have := unhide HWQ y hy
          exact ⟨this.1, by omega⟩
        · rw [List.mem_singleton.1 hy]
          obtain ⟨q1, q2, -, q4⟩ := writeFault_zero (unhide HWX)
          have hz9 := unhide HZV
          exact ⟨show writeFault x.kind x.id x.vec x.session z = 0 from writeFault_of q1 q2 (by omega) q4, by show z ≤ _; omega⟩
      intro g cap w7 hG7 hb7 hE7 hg7 hz7 hor7
      have HG7 := hide hG7
      have HS7 : Hid (SrcAt w7 b cv (m3 + 1)) := (hb7.block b hbw).trans (unhide HS6)
      have HC7 := hide ((unhide HC6).later (hb7.mono (Nat.le_of_lt hbw)))
      have HGR7 := hide (grown_low5 (unhide HGR6) hb7)
      clear hG6 hl6 hoff hG7 hb7 hE7 hg7 hz7 hor7 HS6 HC6 HGR6 y0 y1 y2 y3 y5
      go_wp2_with fail
      go_roundw
      case rel => exact ⟨j - 1, _, _, _, m3 + 1, by omega, by go_num, unhide HG7, unhide HSF2, by simp; omega, unhide HWQ7, unhide HS7, by omega, unhide HC7, unhide HGR7⟩
      case measure => simp [intOf]; omega
    · obtain rfl : j = 0 := by omega
      have HG := hide hG
      have HSF := hide hsf
      have HGR := hide hgr
      have HS := hide hS
      have HC := hide hC
      clear hG hsf hS hC hgr
      go_wp2_with fail
      go_ret
      exact ⟨u5, rows, xs, bls, m', rfl, unhide HG, unhide HSF, by omega, unhide HWQ, unhide HS, by omega, unhide HC, unhide HGR⟩

end Go.Proofs.YtbogjepkdcknfaaGreatDoor

namespace Go.Proofs.YtbogjepkdcknfaaGreatDoor
open Go.RowKit

structure DIntResult where
  code : Int
  value : Int

def Lay.tIntResult : Lay DIntResult := Lay.via (Lay.pair Lay.int Lay.int) (fun x => (x.code, x.value)) (fun p => ⟨p.1, p.2⟩)

theorem lies_IntResult {w : World} {cs : List Value} {x : DIntResult} {bl : List Nat} : Lay.tIntResult.lies w cs x bl ↔ cs = [.int .i64 x.code, .int .i64 x.value] ∧ bl = [] ∧ (Lit.int .i64 x.code).wf = true ∧ (Lit.int .i64 x.value).wf = true := by
  constructor
  · intro h
    obtain ⟨c0_, r0_, e0_, s0_, rfl, rfl, h0, h1⟩ := h
    obtain ⟨rfl, w0, rfl⟩ := h0
    obtain ⟨rfl, w1, rfl⟩ := h1
    exact ⟨by simp, by simp, w0, w1⟩
  · rintro ⟨rfl, hbl, w0, w1⟩
    rw [hbl]
    exact ⟨[.int .i64 x.code], [.int .i64 x.value], [], [], rfl, by simp, ⟨rfl, w0, rfl⟩, ⟨rfl, w1, rfl⟩⟩

end Go.Proofs.YtbogjepkdcknfaaGreatDoor

namespace Go.Proofs.YtbogjepkdcknfaaGreatDoor
open Go.RowKit

structure DWritesResult where
  code : Int
  writes : List DWrite

def Lay.tWritesResult : Lay DWritesResult := Lay.via (Lay.pair Lay.int (Lay.sl Lay.tWrite)) (fun x => (x.code, x.writes)) (fun p => ⟨p.1, p.2⟩)

theorem lies_WritesResult {w : World} {cs : List Value} {x : DWritesResult} {bl : List Nat} : Lay.tWritesResult.lies w cs x bl ↔ ∃ (a1 : Option Addr) (d1 : Nat) (b1 : List Nat), cs = [.int .i64 x.code, .slice a1 x.writes.length d1] ∧ bl = b1 ∧ (Lit.int .i64 x.code).wf = true ∧ (Lay.sl Lay.tWrite).lies w [.slice a1 x.writes.length d1] x.writes b1 := by
  constructor
  · intro h
    obtain ⟨c0_, r0_, e0_, s0_, rfl, rfl, h0, h1⟩ := h
    obtain ⟨rfl, w0, rfl⟩ := h0
    have k1 := h1
    obtain ⟨a1, d1, rfl, -⟩ := k1
    exact ⟨a1, d1, s0_, by simp, by simp, w0, h1⟩
  · rintro ⟨a1, d1, b1, rfl, hbl, w0, l1⟩
    rw [hbl]
    exact ⟨[.int .i64 x.code], [.slice a1 x.writes.length d1], [], b1, rfl, by simp, ⟨rfl, w0, rfl⟩, l1⟩

theorem open_WritesResult {w : World} {cs : List Value} {x : DWritesResult} (h : Lay.tWritesResult.Reads w cs x) : ∃ (a1 : Option Addr) (d1 : Nat), cs = [.int .i64 x.code, .slice a1 x.writes.length d1] ∧ (Lay.sl Lay.tWrite).Reads w [.slice a1 x.writes.length d1] x.writes := by
  obtain ⟨bl, h⟩ := h
  obtain ⟨a1, d1, b1, rfl, -, w0, l1⟩ := lies_WritesResult.1 h
  exact ⟨a1, d1, rfl, ⟨_, l1⟩⟩

end Go.Proofs.YtbogjepkdcknfaaGreatDoor

namespace Go.Proofs.YtbogjepkdcknfaaGreatDoor
open Go.RowKit

def lastR (ws : List DWrite) (s : Int) : DIntResult := if askedF ws s = 0 then ⟨0, lastI ws s⟩ else ⟨askedF ws s, 0⟩
def seenR (ws : List DWrite) (s q : Int) : DIntResult := if askedF ws s = 0 then (if 1 ≤ q ∧ q ≤ 999 then (if seenI ws s q = 0 then ⟨4, 0⟩ else ⟨0, seenI ws s q⟩) else ⟨3, 0⟩) else ⟨askedF ws s, 0⟩
def ofL (ws : List DWrite) (s : Int) : List DWrite := ws.filter fun x => decide (x.session = s)
def ofR (ws : List DWrite) (s : Int) : DWritesResult := if askedF ws s = 0 then ⟨0, ofL ws s⟩ else ⟨askedF ws s, []⟩
theorem asked_bad {ws : List DWrite} (s : Int) (h : writesF ws ≠ 0) : askedF ws s = writesF ws := by rw [askedF, if_neg h]
theorem asked_out {ws : List DWrite} {s : Int} (h : writesF ws = 0) (hs : ¬ (1 ≤ s ∧ s ≤ 9)) : askedF ws s = 3 := by rw [askedF, if_pos h, if_neg hs]
theorem asked_ok {ws : List DWrite} {s : Int} (h : writesF ws = 0) (hs : 1 ≤ s ∧ s ≤ 9) : askedF ws s = 0 := by rw [askedF, if_pos h, if_pos hs]
theorem last_bd {ws : List DWrite} (s : Int) (h : writesF ws = 0) : 0 ≤ lastI ws s ∧ lastI ws s ≤ 999 := ⟨lastI_nonneg ws s, lastI_le ws s fun x hx => (wF_seq ((writesF_zero h).2 x hx)).2.2.2⟩
theorem dec9 {s : Int} (hs : 1 ≤ s ∧ s ≤ 9) : (decide (1 ≤ s) && decide (s ≤ 9)) = true := by simp [hs.1, hs.2]
theorem dec9n {s : Int} (hs : ¬ (1 ≤ s ∧ s ≤ 9)) : (decide (1 ≤ s) && decide (s ≤ 9)) = false := by
  rw [Bool.eq_false_iff]
  intro hb
  simp only [Bool.and_eq_true, decide_eq_true_eq] at hb
  exact hs hb
theorem dec999 {s : Int} (hs : 1 ≤ s ∧ s ≤ 999) : (decide (1 ≤ s) && decide (s ≤ 999)) = true := by simp [hs.1, hs.2]
theorem dec999n {s : Int} (hs : ¬ (1 ≤ s ∧ s ≤ 999)) : (decide (1 ≤ s) && decide (s ≤ 999)) = false := by
  rw [Bool.eq_false_iff]
  intro hb
  simp only [Bool.and_eq_true, decide_eq_true_eq] at hb
  exact hs hb
theorem own_IntR {w : World} {c z : Int} {lo hi : Nat} (hc : (Lit.int .i64 c).wf = true) (hz : (Lit.int .i64 z).wf = true) : Lay.tIntResult.OwnIn w [.int .i64 c, .int .i64 z] ⟨c, z⟩ lo hi :=
  ⟨[], ⟨lies_IntResult.2 ⟨rfl, rfl, hc, hz⟩, by simp, by simp⟩, by simp⟩
theorem wsF_wf (ws : List DWrite) : (Lit.int .i64 (writesF ws)).wf = true := by
  have : 0 ≤ writesF ws ∧ writesF ws ≤ 3 := by
    unfold writesF
    split
    · omega
    · induction ws with
      | nil => simp [wsFrom]
      | cons x xs ih =>
        rw [wsFrom]
        split
        · exact ih (by rename_i h _; simp only [List.length_cons] at h; omega)
        · exact wF_vals x
  exact wf_of_bd (by omega)

end Go.Proofs.YtbogjepkdcknfaaGreatDoor

namespace Go.Proofs.YtbogjepkdcknfaaGreatDoor
open Go.RowKit

structure DOnceResult where
  code : Int
  isNew : Bool
  place : Int
  writes : List DWrite

def Lay.tOnceResult : Lay DOnceResult := Lay.via (Lay.pair Lay.int (Lay.pair Lay.bool (Lay.pair Lay.int (Lay.sl Lay.tWrite)))) (fun x => (x.code, x.isNew, x.place, x.writes)) (fun p => ⟨p.1, p.2.1, p.2.2.1, p.2.2.2⟩)

theorem lies_OnceResult {w : World} {cs : List Value} {x : DOnceResult} {bl : List Nat} : Lay.tOnceResult.lies w cs x bl ↔ ∃ (a3 : Option Addr) (d3 : Nat) (b3 : List Nat), cs = [.int .i64 x.code, .bool x.isNew, .int .i64 x.place, .slice a3 x.writes.length d3] ∧ bl = b3 ∧ (Lit.int .i64 x.code).wf = true ∧ (Lit.int .i64 x.place).wf = true ∧ (Lay.sl Lay.tWrite).lies w [.slice a3 x.writes.length d3] x.writes b3 := by
  constructor
  · intro h
    obtain ⟨c0_, r0_, e0_, s0_, rfl, rfl, h0, ⟨c1_, r1_, e1_, s1_, rfl, rfl, h1, ⟨c2_, r2_, e2_, s2_, rfl, rfl, h2, h3⟩⟩⟩ := h
    obtain ⟨rfl, w0, rfl⟩ := h0
    obtain ⟨rfl, rfl⟩ := h1
    obtain ⟨rfl, w2, rfl⟩ := h2
    have k3 := h3
    obtain ⟨a3, d3, rfl, -⟩ := k3
    exact ⟨a3, d3, s2_, by simp, by simp, w0, w2, h3⟩
  · rintro ⟨a3, d3, b3, rfl, hbl, w0, w2, l3⟩
    rw [hbl]
    exact ⟨[.int .i64 x.code], [.bool x.isNew] ++ ([.int .i64 x.place] ++ [.slice a3 x.writes.length d3]), [], [] ++ ([] ++ (b3)), rfl, by simp, ⟨rfl, w0, rfl⟩, ⟨[.bool x.isNew], [.int .i64 x.place] ++ [.slice a3 x.writes.length d3], [], [] ++ (b3), rfl, by simp, ⟨rfl, rfl⟩, ⟨[.int .i64 x.place], [.slice a3 x.writes.length d3], [], b3, rfl, by simp, ⟨rfl, w2, rfl⟩, l3⟩⟩⟩

theorem open_OnceResult {w : World} {cs : List Value} {x : DOnceResult} (h : Lay.tOnceResult.Reads w cs x) : ∃ (a3 : Option Addr) (d3 : Nat), cs = [.int .i64 x.code, .bool x.isNew, .int .i64 x.place, .slice a3 x.writes.length d3] ∧ (Lay.sl Lay.tWrite).Reads w [.slice a3 x.writes.length d3] x.writes := by
  obtain ⟨bl, h⟩ := h
  obtain ⟨a3, d3, b3, rfl, -, w0, w2, l3⟩ := lies_OnceResult.1 h
  exact ⟨a3, d3, rfl, ⟨_, l3⟩⟩

end Go.Proofs.YtbogjepkdcknfaaGreatDoor

namespace Go.Proofs.YtbogjepkdcknfaaGreatDoor
open Go.RowKit

def appR (ws : List DWrite) (x : DWrite) : DOnceResult :=
  if writesF ws = 0 then
    if wF x = 0 then
      if seenI ws x.session x.seq = 0 then
        if x.seq < lastI ws x.session then ⟨7, false, 0, []⟩ else if 200 ≤ ws.length then ⟨2, false, 0, []⟩ else ⟨0, true, (ws.length : Int) + 1, ws ++ [x]⟩
      else ⟨0, false, seenI ws x.session x.seq, ws⟩
    else ⟨wF x, false, 0, []⟩
  else ⟨writesF ws, false, 0, []⟩
theorem appR_wrong {ws : List DWrite} {x : DWrite} (h : writesF ws ≠ 0) : appR ws x = ⟨writesF ws, false, 0, []⟩ := by rw [appR, if_neg h]
theorem appR_bad {ws : List DWrite} {x : DWrite} (h : writesF ws = 0) (hf : wF x ≠ 0) : appR ws x = ⟨wF x, false, 0, []⟩ := by rw [appR, if_pos h, if_neg hf]
theorem appR_seen {ws : List DWrite} {x : DWrite} (h : writesF ws = 0) (hf : wF x = 0) (hs : seenI ws x.session x.seq ≠ 0) : appR ws x = ⟨0, false, seenI ws x.session x.seq, ws⟩ := by rw [appR, if_pos h, if_pos hf, if_neg hs]
theorem appR_old {ws : List DWrite} {x : DWrite} (h : writesF ws = 0) (hf : wF x = 0) (hs : seenI ws x.session x.seq = 0) (c : x.seq < lastI ws x.session) : appR ws x = ⟨7, false, 0, []⟩ := by rw [appR, if_pos h, if_pos hf, if_pos hs, if_pos c]
theorem appR_full {ws : List DWrite} {x : DWrite} (h : writesF ws = 0) (hf : wF x = 0) (hs : seenI ws x.session x.seq = 0) (c : ¬ x.seq < lastI ws x.session) (c2 : 200 ≤ ws.length) : appR ws x = ⟨2, false, 0, []⟩ := by rw [appR, if_pos h, if_pos hf, if_pos hs, if_neg c, if_pos c2]
theorem appR_new {ws : List DWrite} {x : DWrite} (h : writesF ws = 0) (hf : wF x = 0) (hs : seenI ws x.session x.seq = 0) (c : ¬ x.seq < lastI ws x.session) (c2 : ¬ 200 ≤ ws.length) : appR ws x = ⟨0, true, (ws.length : Int) + 1, ws ++ [x]⟩ := by rw [appR, if_pos h, if_pos hf, if_pos hs, if_neg c, if_neg c2]

end Go.Proofs.YtbogjepkdcknfaaGreatDoor

namespace Go.Proofs.YtbogjepkdcknfaaGreatDoor
open Go.RowKit

structure DNode where
  id : Int
  up : Bool
  epoch : Int
  lease : Int
  writes : List DWrite
  sure : Int
  clean : Int

def Lay.tNode : Lay DNode := Lay.via (Lay.pair Lay.int (Lay.pair Lay.bool (Lay.pair Lay.int (Lay.pair Lay.int (Lay.pair (Lay.sl Lay.tWrite) (Lay.pair Lay.int Lay.int)))))) (fun x => (x.id, x.up, x.epoch, x.lease, x.writes, x.sure, x.clean)) (fun p => ⟨p.1, p.2.1, p.2.2.1, p.2.2.2.1, p.2.2.2.2.1, p.2.2.2.2.2.1, p.2.2.2.2.2.2⟩)

theorem lies_Node {w : World} {cs : List Value} {x : DNode} {bl : List Nat} : Lay.tNode.lies w cs x bl ↔ ∃ (a4 : Option Addr) (d4 : Nat) (b4 : List Nat), cs = [.int .i64 x.id, .bool x.up, .int .i64 x.epoch, .int .i64 x.lease, .slice a4 x.writes.length d4, .int .i64 x.sure, .int .i64 x.clean] ∧ bl = b4 ∧ (Lit.int .i64 x.id).wf = true ∧ (Lit.int .i64 x.epoch).wf = true ∧ (Lit.int .i64 x.lease).wf = true ∧ (Lay.sl Lay.tWrite).lies w [.slice a4 x.writes.length d4] x.writes b4 ∧ (Lit.int .i64 x.sure).wf = true ∧ (Lit.int .i64 x.clean).wf = true := by
  constructor
  · intro h
    obtain ⟨c0_, r0_, e0_, s0_, rfl, rfl, h0, ⟨c1_, r1_, e1_, s1_, rfl, rfl, h1, ⟨c2_, r2_, e2_, s2_, rfl, rfl, h2, ⟨c3_, r3_, e3_, s3_, rfl, rfl, h3, ⟨c4_, r4_, e4_, s4_, rfl, rfl, h4, ⟨c5_, r5_, e5_, s5_, rfl, rfl, h5, h6⟩⟩⟩⟩⟩⟩ := h
    obtain ⟨rfl, w0, rfl⟩ := h0
    obtain ⟨rfl, rfl⟩ := h1
    obtain ⟨rfl, w2, rfl⟩ := h2
    obtain ⟨rfl, w3, rfl⟩ := h3
    have k4 := h4
    obtain ⟨a4, d4, rfl, -⟩ := k4
    obtain ⟨rfl, w5, rfl⟩ := h5
    obtain ⟨rfl, w6, rfl⟩ := h6
    exact ⟨a4, d4, e4_, by simp, by simp, w0, w2, w3, h4, w5, w6⟩
  · rintro ⟨a4, d4, b4, rfl, hbl, w0, w2, w3, l4, w5, w6⟩
    rw [hbl]
    exact ⟨[.int .i64 x.id], [.bool x.up] ++ ([.int .i64 x.epoch] ++ ([.int .i64 x.lease] ++ ([.slice a4 x.writes.length d4] ++ ([.int .i64 x.sure] ++ [.int .i64 x.clean])))), [], [] ++ ([] ++ ([] ++ (b4 ++ ([] ++ ([]))))), rfl, by simp, ⟨rfl, w0, rfl⟩, ⟨[.bool x.up], [.int .i64 x.epoch] ++ ([.int .i64 x.lease] ++ ([.slice a4 x.writes.length d4] ++ ([.int .i64 x.sure] ++ [.int .i64 x.clean]))), [], [] ++ ([] ++ (b4 ++ ([] ++ ([])))), rfl, by simp, ⟨rfl, rfl⟩, ⟨[.int .i64 x.epoch], [.int .i64 x.lease] ++ ([.slice a4 x.writes.length d4] ++ ([.int .i64 x.sure] ++ [.int .i64 x.clean])), [], [] ++ (b4 ++ ([] ++ ([]))), rfl, by simp, ⟨rfl, w2, rfl⟩, ⟨[.int .i64 x.lease], [.slice a4 x.writes.length d4] ++ ([.int .i64 x.sure] ++ [.int .i64 x.clean]), [], b4 ++ ([] ++ ([])), rfl, by simp, ⟨rfl, w3, rfl⟩, ⟨[.slice a4 x.writes.length d4], [.int .i64 x.sure] ++ [.int .i64 x.clean], b4, [] ++ ([]), rfl, by simp, l4, ⟨[.int .i64 x.sure], [.int .i64 x.clean], [], [], rfl, by simp, ⟨rfl, w5, rfl⟩, ⟨rfl, w6, rfl⟩⟩⟩⟩⟩⟩⟩

theorem open_Node {w : World} {cs : List Value} {x : DNode} (h : Lay.tNode.Reads w cs x) : ∃ (a4 : Option Addr) (d4 : Nat), cs = [.int .i64 x.id, .bool x.up, .int .i64 x.epoch, .int .i64 x.lease, .slice a4 x.writes.length d4, .int .i64 x.sure, .int .i64 x.clean] ∧ (Lay.sl Lay.tWrite).Reads w [.slice a4 x.writes.length d4] x.writes := by
  obtain ⟨bl, h⟩ := h
  obtain ⟨a4, d4, b4, rfl, -, w0, w2, w3, l4, w5, w6⟩ := lies_Node.1 h
  exact ⟨a4, d4, rfl, ⟨_, l4⟩⟩

end Go.Proofs.YtbogjepkdcknfaaGreatDoor

namespace Go.Proofs.YtbogjepkdcknfaaGreatDoor
open Go.RowKit

structure DNodeResult where
  code : Int
  place : Int
  node : DNode

def Lay.tNodeResult : Lay DNodeResult := Lay.via (Lay.pair Lay.int (Lay.pair Lay.int Lay.tNode)) (fun x => (x.code, x.place, x.node)) (fun p => ⟨p.1, p.2.1, p.2.2⟩)

theorem lies_NodeResult {w : World} {cs : List Value} {x : DNodeResult} {bl : List Nat} : Lay.tNodeResult.lies w cs x bl ↔ ∃ (a6 : Option Addr) (d6 : Nat) (b6 : List Nat), cs = [.int .i64 x.code, .int .i64 x.place, .int .i64 x.node.id, .bool x.node.up, .int .i64 x.node.epoch, .int .i64 x.node.lease, .slice a6 x.node.writes.length d6, .int .i64 x.node.sure, .int .i64 x.node.clean] ∧ bl = b6 ∧ (Lit.int .i64 x.code).wf = true ∧ (Lit.int .i64 x.place).wf = true ∧ (Lit.int .i64 x.node.id).wf = true ∧ (Lit.int .i64 x.node.epoch).wf = true ∧ (Lit.int .i64 x.node.lease).wf = true ∧ (Lay.sl Lay.tWrite).lies w [.slice a6 x.node.writes.length d6] x.node.writes b6 ∧ (Lit.int .i64 x.node.sure).wf = true ∧ (Lit.int .i64 x.node.clean).wf = true := by
  constructor
  · intro h
    obtain ⟨c0_, r0_, e0_, s0_, rfl, rfl, h0, ⟨c1_, r1_, e1_, s1_, rfl, rfl, h1, h2⟩⟩ := h
    obtain ⟨rfl, w0, rfl⟩ := h0
    obtain ⟨rfl, w1, rfl⟩ := h1
    obtain ⟨a6, d6, q6, rfl, hq2, w2, w4, w5, l6, w7, w8⟩ := lies_Node.1 h2
    exact ⟨a6, d6, q6, by simp, by simp [hq2], w0, w1, w2, w4, w5, l6, w7, w8⟩
  · rintro ⟨a6, d6, b6, rfl, hbl, w0, w1, w2, w4, w5, l6, w7, w8⟩
    rw [hbl]
    exact ⟨[.int .i64 x.code], [.int .i64 x.place] ++ [.int .i64 x.node.id, .bool x.node.up, .int .i64 x.node.epoch, .int .i64 x.node.lease, .slice a6 x.node.writes.length d6, .int .i64 x.node.sure, .int .i64 x.node.clean], [], [] ++ (b6), rfl, by simp, ⟨rfl, w0, rfl⟩, ⟨[.int .i64 x.place], [.int .i64 x.node.id, .bool x.node.up, .int .i64 x.node.epoch, .int .i64 x.node.lease, .slice a6 x.node.writes.length d6, .int .i64 x.node.sure, .int .i64 x.node.clean], [], b6, rfl, by simp, ⟨rfl, w1, rfl⟩, lies_Node.2 ⟨a6, d6, b6, rfl, rfl, w2, w4, w5, l6, w7, w8⟩⟩⟩

theorem open_NodeResult {w : World} {cs : List Value} {x : DNodeResult} (h : Lay.tNodeResult.Reads w cs x) : ∃ (a6 : Option Addr) (d6 : Nat), cs = [.int .i64 x.code, .int .i64 x.place, .int .i64 x.node.id, .bool x.node.up, .int .i64 x.node.epoch, .int .i64 x.node.lease, .slice a6 x.node.writes.length d6, .int .i64 x.node.sure, .int .i64 x.node.clean] ∧ Lay.tNode.Reads w [.int .i64 x.node.id, .bool x.node.up, .int .i64 x.node.epoch, .int .i64 x.node.lease, .slice a6 x.node.writes.length d6, .int .i64 x.node.sure, .int .i64 x.node.clean] x.node := by
  obtain ⟨bl, h⟩ := h
  obtain ⟨a6, d6, b6, rfl, -, w0, w1, w2, w4, w5, l6, w7, w8⟩ := lies_NodeResult.1 h
  exact ⟨a6, d6, rfl, ⟨_, lies_Node.2 ⟨a6, d6, _, rfl, rfl, w2, w4, w5, l6, w7, w8⟩⟩⟩

end Go.Proofs.YtbogjepkdcknfaaGreatDoor

namespace Go.Proofs.YtbogjepkdcknfaaGreatDoor
open Go.RowKit

def nodeFault (x : DNode) : Int :=
  if 1 ≤ x.id ∧ x.id ≤ 5 ∧ 0 ≤ x.epoch ∧ x.epoch ≤ 999 ∧ 0 ≤ x.lease ∧ x.lease ≤ 9999 then
    if 40 < x.writes.length then 2
    else if wsFrom x.writes ≠ 0 then wsFrom x.writes
    else if onceB [] x.writes = false then 6
    else if 0 ≤ x.sure ∧ x.sure ≤ x.writes.length ∧ 0 ≤ x.clean ∧ x.clean ≤ x.sure then
      if x.up = false ∧ ¬ (x.sure = x.writes.length ∧ x.clean = 0 ∧ x.lease = 0) then 1 else 0
    else 3
  else 3
def askedN (x : DNode) : Int := if nodeFault x = 0 then (if x.up = true then 0 else 10) else nodeFault x
def noNode : DNode := ⟨0, false, 0, 0, [], 0, 0⟩
def badNode (c : Int) : DNodeResult := ⟨c, 0, noNode⟩
def newNodeR (id : Int) : DNodeResult := if 1 ≤ id ∧ id ≤ 5 then ⟨0, 0, ⟨id, true, 0, 0, [], 0, 0⟩⟩ else badNode 3
def withWrites (x : DNode) (ws : List DWrite) : DNode := ⟨x.id, x.up, x.epoch, x.lease, ws, x.sure, x.clean⟩
def takeR (x : DNode) (y : DWrite) : DNodeResult :=
  if askedN x = 0 then
    if (appR x.writes y).code = 0 then
      if 40 < (appR x.writes y).writes.length then badNode 2 else ⟨0, (appR x.writes y).place, withWrites x (appR x.writes y).writes⟩
    else badNode (appR x.writes y).code
  else badNode (askedN x)
def syncR (x : DNode) : DNodeResult := if askedN x = 0 then ⟨0, x.writes.length, ⟨x.id, x.up, x.epoch, x.lease, x.writes, x.writes.length, x.clean⟩⟩ else badNode (askedN x)
def cleanR (x : DNode) (i : Int) : DNodeResult :=
  if askedN x = 0 then (if 0 ≤ i ∧ i ≤ 40 then ⟨0, 0, ⟨x.id, x.up, x.epoch, x.lease, x.writes, x.sure, max x.clean (min i x.sure)⟩⟩ else badNode 3) else badNode (askedN x)
def crashN (x : DNode) (k : Int) : DNode := ⟨x.id, false, x.epoch, 0, x.writes.take (x.sure + k).toNat, x.sure + k, 0⟩
def crashR (x : DNode) (k : Int) : DNodeResult :=
  if askedN x = 0 then (if 0 ≤ k ∧ k ≤ x.writes.length - x.sure then ⟨0, 0, crashN x k⟩ else badNode 3) else badNode (askedN x)
def dirtyB (x : DNode) (id : Int) : Bool := (x.writes.drop x.clean.toNat).any fun y => y.id == id
def dirtyR (x : DNode) (id : Int) : Bool := decide (nodeFault x = 0) && dirtyB x id
def stateR (x : DNode) (c : Int) : DTableResult :=
  if nodeFault x = 0 then (if 0 ≤ c ∧ c ≤ x.writes.length then ⟨0, ofI (x.writes.take c.toNat)⟩ else ⟨3, []⟩) else ⟨nodeFault x, []⟩

theorem nodeFault_vals (x : DNode) : 0 ≤ nodeFault x ∧ nodeFault x ≤ 6 := by
  have := wsFrom_vals x.writes
  unfold nodeFault
  split
  · split
    · omega
    · split
      · omega
      · split
        · omega
        · split
          · split <;> omega
          · omega
  · omega
theorem nodeFault_wf (x : DNode) : (Lit.int .i64 (nodeFault x)).wf = true := wf_of_bd (by have := nodeFault_vals x; omega)
theorem askedN_wf (x : DNode) : (Lit.int .i64 (askedN x)).wf = true := by
  refine wf_of_bd ?_
  have := nodeFault_vals x
  unfold askedN
  split
  · split <;> omega
  · omega
/-- A node without a fault. -/
structure NodeOK (x : DNode) : Prop where
  id : 1 ≤ x.id ∧ x.id ≤ 5
  epoch : 0 ≤ x.epoch ∧ x.epoch ≤ 999
  lease : 0 ≤ x.lease ∧ x.lease ≤ 9999
  len : x.writes.length ≤ 40
  ws : ∀ y ∈ x.writes, wF y = 0
  once : onceB [] x.writes = true
  sure : 0 ≤ x.sure ∧ x.sure ≤ x.writes.length
  clean : 0 ≤ x.clean ∧ x.clean ≤ x.sure
  down : x.up = false → x.sure = x.writes.length ∧ x.clean = 0 ∧ x.lease = 0
theorem nodeFault_zero {x : DNode} (h : nodeFault x = 0) : NodeOK x := by
  unfold nodeFault at h
  split at h
  · rename_i h1
    split at h
    · simp at h
    · rename_i h2
      split at h
      · rename_i h3; exact absurd h h3
      · rename_i h3
        split at h
        · simp at h
        · rename_i h4
          split at h
          · rename_i h5
            split at h
            · simp at h
            · rename_i h6
              refine ⟨by omega, by omega, by omega, by omega, wsFrom_zero (by simpa using h3), by simpa using h4, by omega, by omega, fun hu => ?_⟩
              exact Classical.byContradiction fun hc => h6 ⟨hu, hc⟩
          · simp at h
  · simp at h
theorem NodeOK.fault {x : DNode} (h : NodeOK x) : nodeFault x = 0 := by
  unfold nodeFault
  have h1 := h.id; have h2 := h.epoch; have h3 := h.lease; have h4 := h.len; have h5 := h.sure; have h6 := h.clean
  rw [if_pos (by omega), if_neg (by omega), if_neg (by simpa using wsFrom_all x.writes fun j hj => h.ws _ (List.getElem_mem _)), if_neg (by simp [h.once]), if_pos (by omega), if_neg]
  rintro ⟨hu, hc⟩
  exact hc (h.down hu)
theorem NodeOK.writesF {x : DNode} (h : NodeOK x) : writesF x.writes = 0 := by
  rw [Proofs.YtbogjepkdcknfaaGreatDoor.writesF, if_neg (by have := h.len; omega)]
  exact wsFrom_all x.writes fun j hj => h.ws _ (List.getElem_mem _)
theorem askedN_zero {x : DNode} (h : askedN x = 0) : NodeOK x ∧ x.up = true := by
  unfold askedN at h
  split at h
  · rename_i h1
    split at h
    · rename_i h2; exact ⟨nodeFault_zero h1, h2⟩
    · simp at h
  · rename_i h1; exact absurd h h1
theorem takeR_bad {x : DNode} {y : DWrite} (h : askedN x ≠ 0) : takeR x y = badNode (askedN x) := by rw [takeR, if_neg h]
theorem syncR_bad {x : DNode} (h : askedN x ≠ 0) : syncR x = badNode (askedN x) := by rw [syncR, if_neg h]
theorem cleanR_bad {x : DNode} {i : Int} (h : askedN x ≠ 0) : cleanR x i = badNode (askedN x) := by rw [cleanR, if_neg h]
theorem crashR_bad {x : DNode} {i : Int} (h : askedN x ≠ 0) : crashR x i = badNode (askedN x) := by rw [crashR, if_neg h]
end Go.Proofs.YtbogjepkdcknfaaGreatDoor

namespace Go.Proofs.YtbogjepkdcknfaaGreatDoor
open Go.RowKit

theorem vcnt_Node (x : DNode) : Lay.tNode.vcnt x = (Lay.sl Lay.tWrite).vcnt x.writes := by
  show 0 + (0 + (0 + (0 + ((Lay.sl Lay.tWrite).vcnt x.writes + (0 + (0)))))) = (Lay.sl Lay.tWrite).vcnt x.writes
  omega
theorem mkv_Node (k : Int) (x : DNode) : Lay.tNode.mkv k x = ⟨x.id, x.up, x.epoch, x.lease, (Lay.sl Lay.tWrite).mkv (k) x.writes, x.sure, x.clean⟩ := by
  simp [Lay.tNode, Lay.via, Lay.pair, Lay.int, Lay.bool]
theorem own_Node {w : World} {cs : List Value} {x : DNode} {bl : List Nat} (h : Lay.tNode.Own w cs x bl) : ∃ (a4 : Option Addr) (d4 : Nat) (g4 : List Nat), cs = [.int .i64 x.id, .bool x.up, .int .i64 x.epoch, .int .i64 x.lease, .slice a4 x.writes.length d4, .int .i64 x.sure, .int .i64 x.clean] ∧ bl = g4 ∧ (Lay.sl Lay.tWrite).Own w [.slice a4 x.writes.length d4] x.writes g4 ∧ (Lit.int .i64 x.id).wf = true ∧ (Lit.int .i64 x.epoch).wf = true ∧ (Lit.int .i64 x.lease).wf = true ∧ (Lit.int .i64 x.sure).wf = true ∧ (Lit.int .i64 x.clean).wf = true := by
  obtain ⟨hl, hn, hf⟩ := h
  obtain ⟨a4, d4, b4, rfl, hbl, w0, w2, w3, l4, w5, w6⟩ := lies_Node.1 hl
  rw [hbl] at hn hf
  exact ⟨a4, d4, b4, rfl, hbl, ⟨l4, hn, hf⟩, w0, w2, w3, w5, w6⟩
theorem mkOwn_Node {w : World} {x : DNode} {c4 : List Value} {g4 : List Nat} (O4 : (Lay.sl Lay.tWrite).Own w c4 x.writes g4) (v0 : (Lit.int .i64 x.id).wf = true) (v2 : (Lit.int .i64 x.epoch).wf = true) (v3 : (Lit.int .i64 x.lease).wf = true) (v5 : (Lit.int .i64 x.sure).wf = true) (v6 : (Lit.int .i64 x.clean).wf = true) (hn : (g4).Nodup) : Lay.tNode.Own w ([.int .i64 x.id] ++ ([.bool x.up] ++ ([.int .i64 x.epoch] ++ ([.int .i64 x.lease] ++ (c4 ++ ([.int .i64 x.sure] ++ ([.int .i64 x.clean]))))))) x (g4) := by
  refine ⟨⟨[.int .i64 x.id], [.bool x.up] ++ ([.int .i64 x.epoch] ++ ([.int .i64 x.lease] ++ (c4 ++ ([.int .i64 x.sure] ++ ([.int .i64 x.clean]))))), [], [] ++ ([] ++ ([] ++ (g4 ++ ([] ++ [])))), rfl, by simp, ⟨rfl, v0, rfl⟩, ⟨[.bool x.up], [.int .i64 x.epoch] ++ ([.int .i64 x.lease] ++ (c4 ++ ([.int .i64 x.sure] ++ ([.int .i64 x.clean])))), [], [] ++ ([] ++ (g4 ++ ([] ++ []))), rfl, rfl, ⟨rfl, rfl⟩, ⟨[.int .i64 x.epoch], [.int .i64 x.lease] ++ (c4 ++ ([.int .i64 x.sure] ++ ([.int .i64 x.clean]))), [], [] ++ (g4 ++ ([] ++ [])), rfl, rfl, ⟨rfl, v2, rfl⟩, ⟨[.int .i64 x.lease], c4 ++ ([.int .i64 x.sure] ++ ([.int .i64 x.clean])), [], g4 ++ ([] ++ []), rfl, rfl, ⟨rfl, v3, rfl⟩, ⟨c4, [.int .i64 x.sure] ++ ([.int .i64 x.clean]), g4, [] ++ [], rfl, rfl, O4.1, ⟨[.int .i64 x.sure], [.int .i64 x.clean], [], [], rfl, rfl, ⟨rfl, v5, rfl⟩, ⟨rfl, v6, rfl⟩⟩⟩⟩⟩⟩⟩, hn, ?_⟩
  intro b hb o
  exact O4.2.2 b hb o

end Go.Proofs.YtbogjepkdcknfaaGreatDoor

namespace Go.Proofs.YtbogjepkdcknfaaGreatDoor
open Go.RowKit

theorem vcnt_NodeResult (x : DNodeResult) : Lay.tNodeResult.vcnt x = Lay.tNode.vcnt x.node := by
  show 0 + (0 + (Lay.tNode.vcnt x.node)) = Lay.tNode.vcnt x.node
  omega
theorem mkv_NodeResult (k : Int) (x : DNodeResult) : Lay.tNodeResult.mkv k x = ⟨x.code, x.place, Lay.tNode.mkv (k) x.node⟩ := by
  simp [Lay.tNodeResult, Lay.via, Lay.pair, Lay.int]
theorem own_NodeResult {w : World} {cs : List Value} {x : DNodeResult} {bl : List Nat} (h : Lay.tNodeResult.Own w cs x bl) : ∃ (a6 : Option Addr) (d6 : Nat) (g2 : List Nat), cs = [.int .i64 x.code, .int .i64 x.place, .int .i64 x.node.id, .bool x.node.up, .int .i64 x.node.epoch, .int .i64 x.node.lease, .slice a6 x.node.writes.length d6, .int .i64 x.node.sure, .int .i64 x.node.clean] ∧ bl = g2 ∧ Lay.tNode.Own w [.int .i64 x.node.id, .bool x.node.up, .int .i64 x.node.epoch, .int .i64 x.node.lease, .slice a6 x.node.writes.length d6, .int .i64 x.node.sure, .int .i64 x.node.clean] x.node g2 ∧ (Lit.int .i64 x.code).wf = true ∧ (Lit.int .i64 x.place).wf = true := by
  obtain ⟨hl, hn, hf⟩ := h
  obtain ⟨a6, d6, b6, rfl, hbl, w0, w1, w2, w4, w5, l6, w7, w8⟩ := lies_NodeResult.1 hl
  rw [hbl] at hn hf
  exact ⟨a6, d6, b6, rfl, hbl, ⟨lies_Node.2 ⟨a6, d6, b6, rfl, rfl, w2, w4, w5, l6, w7, w8⟩, hn, hf⟩, w0, w1⟩
theorem mkOwn_NodeResult {w : World} {x : DNodeResult} {c2 : List Value} {g2 : List Nat} (O2 : Lay.tNode.Own w c2 x.node g2) (v0 : (Lit.int .i64 x.code).wf = true) (v1 : (Lit.int .i64 x.place).wf = true) (hn : (g2).Nodup) : Lay.tNodeResult.Own w ([.int .i64 x.code] ++ ([.int .i64 x.place] ++ c2)) x (g2) := by
  refine ⟨⟨[.int .i64 x.code], [.int .i64 x.place] ++ c2, [], [] ++ g2, rfl, by simp, ⟨rfl, v0, rfl⟩, ⟨[.int .i64 x.place], c2, [], g2, rfl, rfl, ⟨rfl, v1, rfl⟩, O2.1⟩⟩, hn, ?_⟩
  intro b hb o
  exact O2.2.2 b hb o

end Go.Proofs.YtbogjepkdcknfaaGreatDoor

namespace Go.Proofs.YtbogjepkdcknfaaGreatDoor
open Go.RowKit

theorem lies_store {α : Type} {A : Lay α} {w w4 : World} {cs vs : List Value} {y : α} {lo hi : Nat} (h : A.LiesIn w4 cs y lo hi) (hlo : w.heap.size < lo) (hhi : hi ≤ w4.heap.size) :
    A.LiesIn (setAll w4 w.heap.size 0 vs) cs y w.heap.size (setAll w4 w.heap.size 0 vs).heap.size := by
  rw [size_setAll]
  exact (h.ext (ext_setAll (fun q => q = w.heap.size) (Ext.refl _ _) _ _ _ rfl) (fun q h1 h2 h3 => by omega)).mono (by omega) hhi
theorem own_store {α : Type} {A : Lay α} {w w4 : World} {cs vs : List Value} {y : α} {lo hi : Nat} (h : A.OwnIn w4 cs y lo hi) (hlo : w.heap.size < lo) (hhi : hi ≤ w4.heap.size) :
    A.OwnIn (setAll w4 w.heap.size 0 vs) cs y w.heap.size (setAll w4 w.heap.size 0 vs).heap.size := by
  rw [size_setAll]
  exact (h.ext (ext_setAll (fun q => q = w.heap.size) (Ext.refl _ _) _ _ _ rfl) (fun q h1 h2 h3 => by omega)).mono (by omega) hhi

/-- The block s alone may turn, and it is none of those that the answer lies in. -/
theorem lies_store' {α : Type} {A : Lay α} {w4 : World} {s : Nat} {cs vs : List Value} {y : α} {lo hi : Nat} (h : A.LiesIn w4 cs y lo hi) (hs : s < lo) : A.LiesIn (setAll w4 s 0 vs) cs y lo hi :=
  h.ext (ext_setAll (fun q => q = s) (Ext.refl _ _) _ _ _ rfl) (fun q h1 h2 h3 => by omega)
theorem own_store' {α : Type} {A : Lay α} {w4 : World} {s : Nat} {cs vs : List Value} {y : α} {lo hi : Nat} (h : A.OwnIn w4 cs y lo hi) (hs : s < lo) : A.OwnIn (setAll w4 s 0 vs) cs y lo hi :=
  h.ext (ext_setAll (fun q => q = s) (Ext.refl _ _) _ _ _ rfl) (fun q h1 h2 h3 => by omega)

theorem nil_own {α : Type} {A : Lay α} {w : World} {lo hi : Nat} : (Lay.sl A).OwnIn w [.slice none 0 0] [] lo hi := ⟨[], ⟨⟨none, 0, rfl, by simp, Or.inl ⟨rfl, rfl⟩⟩, by simp, by simp⟩, by simp⟩

end Go.Proofs.YtbogjepkdcknfaaGreatDoor

namespace Go.Proofs.YtbogjepkdcknfaaGreatDoor
open Go.RowKit


end Go.Proofs.YtbogjepkdcknfaaGreatDoor

namespace Go.Proofs.YtbogjepkdcknfaaGreatDoor
open Go.RowKit

theorem sl_take {α : Type} {A : Lay α} {w : World} {xs : List α} {b off cap : Nat} (h : (Lay.sl A).Reads w [.slice (some ⟨b, off, none⟩) xs.length cap] xs) (k : Nat) (hk : k ≤ xs.length) : (Lay.sl A).Reads w [.slice (some ⟨b, off, none⟩) k cap] (xs.take k) := by
  have hl : (xs.take k).length = k := by rw [List.length_take]; omega
  obtain ⟨bl, ao, cap', he, ⟨h1, h2⟩, hor⟩ := h
  simp only [List.cons.injEq, Value.slice.injEq, true_and, and_true] at he
  obtain ⟨rfl, rfl⟩ := he
  rcases hor with ⟨rfl, -⟩ | ⟨b', off', rows, bls, he, hb, -, n1, n2, hj⟩
  · obtain rfl : k = 0 := by simpa using hk
    exact ⟨[], _, _, rfl, ⟨by simp, by simp⟩, Or.inl ⟨rfl, rfl⟩⟩
  · simp only [Option.some.injEq, Addr.mk.injEq, and_true] at he
    obtain ⟨rfl, rfl⟩ := he
    refine ⟨b :: (bls.take k).flatten, _, _, by rw [hl], ⟨by omega, by omega⟩, Or.inr ⟨b, off, rows.take k, bls.take k, rfl, hb, rfl, by simp [n1], by simp [n2], fun j q1 q2 q3 => ?_⟩⟩
    simp only [List.getElem_take]
    rw [List.length_take] at q1 q2 q3
    exact hj j (by omega) (by omega) (by omega)

set_option maxRecDepth 10000 in
set_option maxHeartbeats 1000000 in
theorem l5Once_pos (b off cap : Nat) (ws : List DWrite) (w : World) (h : (Lay.sl Lay.tWrite).Reads w [.slice (some ⟨b, off, none⟩) ws.length cap] ws) (hn : ws.length ≤ 10000000) :
    Calls Tryz.prog 70 #[.slice (some ⟨b, off, none⟩) ws.length cap] w fun e w' => e = .returned (.bool (onceB [] ws)) ∧ Below w.heap.size w w' := by
  have H := hide h
  have hcap : ws.length ≤ cap := by obtain ⟨bl, ao, cap', he, ⟨h1, h2⟩, hor⟩ := h; simp only [List.cons.injEq, Value.slice.injEq, true_and, and_true] at he; omega
  clear h
  go_enter Tryz.func70, Tryz.ntmps70
  go_wp2_with fail
  go_loopw [3] (fun i wr => ∃ k : Nat, k ≤ ws.length ∧ i = .int .i64 k ∧ (∀ j (hj : j < ws.length), j < k → lastI ([] ++ ws.take j) (ws[j]).session < (ws[j]).seq) ∧ Below w.heap.size w wr) (fun i _ => ws.length - (intOf i).toNat)
  case atStart => exact ⟨0, Nat.zero_le _, rfl, fun j _ hj => by omega, Below.refl _ _⟩
  case round =>
    obtain ⟨k, hk, rfl, hz, hB⟩ := hrel
    by_cases hlt : k < ws.length
    · obtain ⟨row, hc, hr⟩ := Lay.row_at ((unhide H).later hB) hlt
      obtain ⟨a2, d2, rfl, R2⟩ := open_Write hr
      have c3 : wr.cell? ⟨b, off + k * 5 + 3, none⟩ = some (.int .i64 (ws[k]).session) := hc 3 (by decide)
      have c4 : wr.cell? ⟨b, off + k * 5 + 4, none⟩ = some (.int .i64 (ws[k]).seq) := hc 4 (by decide)
      have HP : Hid ((Lay.sl Lay.tWrite).Reads wr.drew [.slice (some ⟨b, off, none⟩) k cap] (ws.take k)) := sl_take ((unhide H).later hB.drew) k hk
      have HAT : Hid ((ws[k]).seq ≤ lastI (ws.take k) (ws[k]).session → onceB [] ws = false) := fun he => onceB_at ws [] k hlt (by simpa using he)
      have HZ2 : Hid (lastI (ws.take k) (ws[k]).session < (ws[k]).seq → ∀ j (hj : j < ws.length), j < k + 1 → lastI ([] ++ ws.take j) (ws[j]).session < (ws[j]).seq) := by
        intro h0 j hj hjk
        by_cases hjk2 : j < k
        · exact hz j hj hjk2
        · obtain rfl : j = k := by omega
          simpa using h0
      have HB := hide hB
      clear hc hr R2 hz hB
      generalize hx : ws[k] = x at *
      clear hx
      have c3 : wr.drew.cell? ⟨b, off + k * 5 + 3, none⟩ = some (.int .i64 x.session) := c3
      have c4 : wr.drew.cell? ⟨b, off + k * 5 + 4, none⟩ = some (.int .i64 x.seq) := c4
      have i1 : (0 : Int) ≤ (k : Int) := by omega
      have i2 : (k : Int) < (ws.length : Int) := by omega
      have i3 : (k : Int) ≤ (cap : Int) := by omega
      go_wp2_with fail
      refine wp_region_noPanic ?_
      refine wp_region_held_drew (S := fun w' => w' = wr.drew) (by kernel_rfl) rfl (fun hHeld => ?_)
      refine wpAnyH_take (i := 0) (oi := { dst := some 10, op := Go.Op.move (Go.Operand.tmp 0), type := 24, pos := "l05_session.go:87", after := #[], guard := none }) (v := ?v0) rfl (by kernel_rfl) (by kernel_rfl) (by kernel_rfl) (fun _ _ _ h => h) (Or.inl ⟨by rfl, ?h0⟩) hHeld ?r0
      case h0 =>
        intro wS hSw
        (try dsimp only at hSw)
        go_simp
        try with_reducible rfl
      case r0 =>
      simp only [Act.put, List.setIfInBounds_toArray, List.set_cons_zero, List.set_cons_succ]
      refine wpAnyH_take (i := 1) (oi := { dst := some 11, op := Go.Op.move (Go.Operand.tmp 3), type := 3, pos := "l05_session.go:87", after := #[], guard := none }) (v := ?v1) rfl (by kernel_rfl) (by kernel_rfl) (by kernel_rfl) (fun _ _ _ h => h) (Or.inl ⟨by rfl, ?h1⟩) hHeld ?r1
      case h1 =>
        intro wS hSw
        (try dsimp only at hSw)
        go_simp
        try with_reducible rfl
      case r1 =>
      simp only [Act.put, List.setIfInBounds_toArray, List.set_cons_zero, List.set_cons_succ]
      refine wpAnyH_take (i := 2) (oi := { dst := some 12, op := Go.Op.slice 24 (Go.Operand.tmp 10) none (some (Go.Operand.tmp 11)) none, type := 24, pos := "l05_session.go:87", after := #[{ on := 0, ground := Go.Ground.data }, { on := 1, ground := Go.Ground.data }], guard := none }) (v := ?v2) rfl (by kernel_rfl) (by kernel_rfl) (by kernel_rfl) (fun _ _ _ h => h) (Or.inl ⟨by rfl, ?h2⟩) hHeld ?r2
      case h2 =>
        intro wS hSw
        have y3 : wS.cell? ⟨b, off + k * 5 + 3, none⟩ = some (.int .i64 x.session) := by rw [hSw]; exact c3
        have y4 : wS.cell? ⟨b, off + k * 5 + 4, none⟩ = some (.int .i64 x.seq) := by rw [hSw]; exact c4
        clear hSw
        (try dsimp only at hSw)
        go_simp
        try with_reducible rfl
      case r2 =>
      simp only [Act.put, List.setIfInBounds_toArray, List.set_cons_zero, List.set_cons_succ]
      refine wpAnyH_take (i := 3) (oi := { dst := some 13, op := Go.Op.move (Go.Operand.tmp 0), type := 24, pos := "l05_session.go:87", after := #[], guard := none }) (v := ?v3) rfl (by kernel_rfl) (by kernel_rfl) (by kernel_rfl) (fun _ _ _ h => h) (Or.inl ⟨by rfl, ?h3⟩) hHeld ?r3
      case h3 =>
        intro wS hSw
        (try dsimp only at hSw)
        go_simp
        try with_reducible rfl
      case r3 =>
      simp only [Act.put, List.setIfInBounds_toArray, List.set_cons_zero, List.set_cons_succ]
      refine wpAnyH_take (i := 4) (oi := { dst := some 14, op := Go.Op.move (Go.Operand.tmp 3), type := 3, pos := "l05_session.go:87", after := #[], guard := none }) (v := ?v4) rfl (by kernel_rfl) (by kernel_rfl) (by kernel_rfl) (fun _ _ _ h => h) (Or.inl ⟨by rfl, ?h4⟩) hHeld ?r4
      case h4 =>
        intro wS hSw
        (try dsimp only at hSw)
        go_simp
        try with_reducible rfl
      case r4 =>
      simp only [Act.put, List.setIfInBounds_toArray, List.set_cons_zero, List.set_cons_succ]
      refine wpAnyH_take (i := 5) (oi := { dst := some 15, op := Go.Op.indexAddr 24 (Go.Operand.tmp 13) (Go.Operand.tmp 14), type := 0, pos := "l05_session.go:87", after := #[{ on := 3, ground := Go.Ground.data }, { on := 4, ground := Go.Ground.data }], guard := none }) (v := ?v5) rfl (by kernel_rfl) (by kernel_rfl) (by kernel_rfl) (fun _ _ _ h => h) (Or.inl ⟨by rfl, ?h5⟩) hHeld ?r5
      case h5 =>
        intro wS hSw
        have y3 : wS.cell? ⟨b, off + k * 5 + 3, none⟩ = some (.int .i64 x.session) := by rw [hSw]; exact c3
        have y4 : wS.cell? ⟨b, off + k * 5 + 4, none⟩ = some (.int .i64 x.seq) := by rw [hSw]; exact c4
        clear hSw
        (try dsimp only at hSw)
        go_simp
        try with_reducible rfl
      case r5 =>
      simp only [Act.put, List.setIfInBounds_toArray, List.set_cons_zero, List.set_cons_succ]
      refine wpAnyH_take (i := 6) (oi := { dst := some 16, op := Go.Op.fieldAddr 29 (Go.Operand.tmp 15) 3, type := 0, pos := "l05_session.go:87", after := #[{ on := 5, ground := Go.Ground.data }], guard := none }) (v := ?v6) rfl (by kernel_rfl) (by kernel_rfl) (by kernel_rfl) (fun _ _ _ h => h) (Or.inl ⟨by rfl, ?h6⟩) hHeld ?r6
      case h6 =>
        intro wS hSw
        (try dsimp only at hSw)
        go_simp
        try with_reducible rfl
      case r6 =>
      simp only [Act.put, List.setIfInBounds_toArray, List.set_cons_zero, List.set_cons_succ]
      refine wpAnyH_take (i := 7) (oi := { dst := some 17, op := Go.Op.load 2 (Go.Operand.tmp 16), type := 2, pos := "l05_session.go:87", after := #[{ on := 6, ground := Go.Ground.data }], guard := none }) (v := ?v7) rfl (by kernel_rfl) (by kernel_rfl) (by kernel_rfl) (fun _ _ _ h => h) (Or.inl ⟨by rfl, ?h7⟩) hHeld ?r7
      case h7 =>
        intro wS hSw
        have y3 : wS.cell? ⟨b, off + k * 5 + 3, none⟩ = some (.int .i64 x.session) := by rw [hSw]; exact c3
        have y4 : wS.cell? ⟨b, off + k * 5 + 4, none⟩ = some (.int .i64 x.seq) := by rw [hSw]; exact c4
        clear hSw
        (try dsimp only at hSw)
        go_simp
        try with_reducible rfl
      case r7 =>
      simp only [Act.put, List.setIfInBounds_toArray, List.set_cons_zero, List.set_cons_succ]
      refine wpAnyH_take (i := 9) (oi := { dst := some 19, op := Go.Op.move (Go.Operand.tmp 0), type := 24, pos := "l05_session.go:87", after := #[], guard := none }) (v := ?v9) rfl (by kernel_rfl) (by kernel_rfl) (by kernel_rfl) (fun _ _ _ h => h) (Or.inl ⟨by rfl, ?h9⟩) hHeld ?r9
      case h9 =>
        intro wS hSw
        (try dsimp only at hSw)
        go_simp
        try with_reducible rfl
      case r9 =>
      simp only [Act.put, List.setIfInBounds_toArray, List.set_cons_zero, List.set_cons_succ]
      refine wpAnyH_take (i := 10) (oi := { dst := some 20, op := Go.Op.move (Go.Operand.tmp 3), type := 3, pos := "l05_session.go:87", after := #[], guard := none }) (v := ?v10) rfl (by kernel_rfl) (by kernel_rfl) (by kernel_rfl) (fun _ _ _ h => h) (Or.inl ⟨by rfl, ?h10⟩) hHeld ?r10
      case h10 =>
        intro wS hSw
        (try dsimp only at hSw)
        go_simp
        try with_reducible rfl
      case r10 =>
      simp only [Act.put, List.setIfInBounds_toArray, List.set_cons_zero, List.set_cons_succ]
      refine wpAnyH_take (i := 11) (oi := { dst := some 21, op := Go.Op.indexAddr 24 (Go.Operand.tmp 19) (Go.Operand.tmp 20), type := 0, pos := "l05_session.go:87", after := #[{ on := 9, ground := Go.Ground.data }, { on := 10, ground := Go.Ground.data }], guard := none }) (v := ?v11) rfl (by kernel_rfl) (by kernel_rfl) (by kernel_rfl) (fun _ _ _ h => h) (Or.inl ⟨by rfl, ?h11⟩) hHeld ?r11
      case h11 =>
        intro wS hSw
        have y3 : wS.cell? ⟨b, off + k * 5 + 3, none⟩ = some (.int .i64 x.session) := by rw [hSw]; exact c3
        have y4 : wS.cell? ⟨b, off + k * 5 + 4, none⟩ = some (.int .i64 x.seq) := by rw [hSw]; exact c4
        clear hSw
        (try dsimp only at hSw)
        go_simp
        try with_reducible rfl
      case r11 =>
      simp only [Act.put, List.setIfInBounds_toArray, List.set_cons_zero, List.set_cons_succ]
      refine wpAnyH_take (i := 12) (oi := { dst := some 22, op := Go.Op.fieldAddr 29 (Go.Operand.tmp 21) 4, type := 0, pos := "l05_session.go:87", after := #[{ on := 11, ground := Go.Ground.data }], guard := none }) (v := ?v12) rfl (by kernel_rfl) (by kernel_rfl) (by kernel_rfl) (fun _ _ _ h => h) (Or.inl ⟨by rfl, ?h12⟩) hHeld ?r12
      case h12 =>
        intro wS hSw
        (try dsimp only at hSw)
        go_simp
        try with_reducible rfl
      case r12 =>
      simp only [Act.put, List.setIfInBounds_toArray, List.set_cons_zero, List.set_cons_succ]
      refine wpAnyH_take (i := 13) (oi := { dst := some 23, op := Go.Op.load 2 (Go.Operand.tmp 22), type := 2, pos := "l05_session.go:87", after := #[{ on := 12, ground := Go.Ground.data }], guard := none }) (v := ?v13) rfl (by kernel_rfl) (by kernel_rfl) (by kernel_rfl) (fun _ _ _ h => h) (Or.inl ⟨by rfl, ?h13⟩) hHeld ?r13
      case h13 =>
        intro wS hSw
        have y3 : wS.cell? ⟨b, off + k * 5 + 3, none⟩ = some (.int .i64 x.session) := by rw [hSw]; exact c3
        have y4 : wS.cell? ⟨b, off + k * 5 + 4, none⟩ = some (.int .i64 x.seq) := by rw [hSw]; exact c4
        clear hSw
        (try dsimp only at hSw)
        go_simp
        try with_reducible rfl
      case r13 =>
      simp only [Act.put, List.setIfInBounds_toArray, List.set_cons_zero, List.set_cons_succ]
      refine wpAnyH_ready (rs := [8]) (by kernel_rfl) (by simp) ?_
      refine AllReadyH.cons (o := { dst := some 18, op := Go.Op.call { callee := Go.Callee.value (Go.Operand.func 18), args := #[Go.Operand.tmp 12, Go.Operand.tmp 17], argTypes := #[24, 2] }, type := 2, pos := "l05_session.go:87", after := #[{ on := 2, ground := Go.Ground.data }, { on := 7, ground := Go.Ground.data }], guard := none }) rfl (fun K hK => ?_) AllReadyH.nil
      go_simp
      go_at_call 18
      refine (l5LastC _ (ws.take k) x.session _ (unhide HP) (by rw [List.length_take]; omega)).mono ?_
      rintro e w3 ⟨rfl, rfl⟩
      try go_wp2_with fail
      refine hK.out _ _ rfl (fun hHeld => ?_)
      clear hK K
      try simp only [Act.put, List.setIfInBounds_toArray, List.set_cons_zero, List.set_cons_succ]
      refine wpAnyH_take (i := 14) (oi := { dst := some 24, op := Go.Op.binOp Go.BinOp.geq 2 (Go.Operand.tmp 18) (Go.Operand.tmp 23) 2, type := 4, pos := "l05_session.go:87", after := #[{ on := 8, ground := Go.Ground.data }, { on := 13, ground := Go.Ground.data }], guard := none }) (v := ?v14) rfl (by kernel_rfl) (by kernel_rfl) (by kernel_rfl) (fun _ _ _ h => h) (Or.inl ⟨by rfl, ?h14⟩) hHeld ?r14
      case h14 =>
        intro wS hSw
        (try dsimp only at hSw)
        go_simp
        try with_reducible rfl
      case r14 =>
      simp only [Act.put, List.setIfInBounds_toArray, List.set_cons_zero, List.set_cons_succ]
      refine wpAnyH_done (by kernel_rfl) ?_ _
      refine NoPanic.normal ?_
      clear hHeld c3 c4
      by_cases hq : x.seq ≤ lastI (ws.take k) x.session
      · have hd : decide (x.seq ≤ lastI (ws.take k) x.session) = true := by simpa using hq
        have HG := hide (unhide HAT hq)
        have HB2 := hide (unhide HB).drew
        clear hq HAT HZ2 HP
        rw [hd]
        go_wp2_with fail
        go_ret
        exact ⟨by rw [unhide HG]; first | done | rfl, unhide HB2⟩
      · have hd : decide (x.seq ≤ lastI (ws.take k) x.session) = false := by simpa using hq
        have HZ := hide (unhide HZ2 (by omega))
        have HB2 := hide (unhide HB).drew
        clear hq HAT HZ2 HP
        rw [hd]
        go_wp2_with fail
        go_roundw
        case rel => exact ⟨k + 1, by omega, by go_num, unhide HZ, unhide HB2⟩
        case measure => simp [intOf]; omega
    · obtain rfl : k = ws.length := by omega
      have HG : Hid (onceB [] ws = true) := onceB_all ws [] fun j hj => hz j hj hj
      have HB := hide hB
      clear H hz hB
      go_wp2_with fail
      go_ret
      exact ⟨by rw [unhide HG]; first | done | rfl, unhide HB⟩

theorem l5OnceC (v : Value) (ws : List DWrite) (w : World) (h : (Lay.sl Lay.tWrite).Reads w [v] ws) (hn : ws.length ≤ 10000000) :
    Calls Tryz.prog 70 #[v] w fun e w' => e = .returned (.bool (onceB [] ws)) ∧ Below w.heap.size w w' := by
  obtain ⟨ao, cap, rfl⟩ := open_sl h
  by_cases hp : 0 < ws.length
  · obtain ⟨b, off, rfl, -⟩ := Lay.sl_addr h hp
    exact l5Once_pos b off cap ws w h hn
  · obtain rfl : ws = [] := List.eq_nil_of_length_eq_zero (by omega)
    clear h hn hp
    go_enter Tryz.func70, Tryz.ntmps70
    go_wp2_with fail
    refine wp_loop_rounds 1 ?_
    rw [rounds_succ]
    go_wp2_with fail
    go_ret
    exact ⟨rfl, Below.refl _ _⟩


end Go.Proofs.YtbogjepkdcknfaaGreatDoor

namespace Go.Proofs.YtbogjepkdcknfaaGreatDoor
open Go.RowKit


theorem own_nodeR {w : World} {c n : Int} {v : Value} {x : DNode} {lo hi : Nat} (hc : -1000000000 ≤ c ∧ c ≤ 1000000000) (hn : -1000000000 ≤ n ∧ n ≤ 1000000000) (h : (Lay.sl Lay.tWrite).OwnIn w [v] x.writes lo hi)
    (b0 : -1000000000 ≤ x.id ∧ x.id ≤ 1000000000) (b2 : -1000000000 ≤ x.epoch ∧ x.epoch ≤ 1000000000) (b3 : -1000000000 ≤ x.lease ∧ x.lease ≤ 1000000000) (b5 : -1000000000 ≤ x.sure ∧ x.sure ≤ 1000000000) (b6 : -1000000000 ≤ x.clean ∧ x.clean ≤ 1000000000) :
    Lay.tNodeResult.OwnIn w [.int .i64 c, .int .i64 n, .int .i64 x.id, .bool x.up, .int .i64 x.epoch, .int .i64 x.lease, v, .int .i64 x.sure, .int .i64 x.clean] ⟨c, n, x⟩ lo hi := by
  obtain ⟨bl, O, i⟩ := h
  exact ⟨bl, mkOwn_NodeResult (x := ⟨c, n, x⟩) (mkOwn_Node O (wf_of_bd b0) (wf_of_bd b2) (wf_of_bd b3) (wf_of_bd b5) (wf_of_bd b6) O.2.1) (wf_of_bd hc) (wf_of_bd hn) O.2.1, i⟩
theorem lies_nodeR {w : World} {c n : Int} {a : Option Addr} {m d : Nat} {x : DNode} {lo hi : Nat} (hc : -1000000000 ≤ c ∧ c ≤ 1000000000) (hn : -1000000000 ≤ n ∧ n ≤ 1000000000) (h : (Lay.sl Lay.tWrite).LiesIn w [.slice a m d] x.writes lo hi)
    (b0 : -1000000000 ≤ x.id ∧ x.id ≤ 1000000000) (b2 : -1000000000 ≤ x.epoch ∧ x.epoch ≤ 1000000000) (b3 : -1000000000 ≤ x.lease ∧ x.lease ≤ 1000000000) (b5 : -1000000000 ≤ x.sure ∧ x.sure ≤ 1000000000) (b6 : -1000000000 ≤ x.clean ∧ x.clean ≤ 1000000000) :
    Lay.tNodeResult.LiesIn w [.int .i64 c, .int .i64 n, .int .i64 x.id, .bool x.up, .int .i64 x.epoch, .int .i64 x.lease, .slice a m d, .int .i64 x.sure, .int .i64 x.clean] ⟨c, n, x⟩ lo hi := by
  obtain ⟨bl, l, i⟩ := h
  have hm : m = x.writes.length := (Lay.Reads.cap ⟨bl, l⟩).1
  subst hm
  exact ⟨bl, lies_NodeResult.2 ⟨a, d, bl, rfl, rfl, wf_of_bd hc, wf_of_bd hn, wf_of_bd b0, wf_of_bd b2, wf_of_bd b3, l, wf_of_bd b5, wf_of_bd b6⟩, i⟩
theorem own_badNode {w : World} {c : Int} {lo hi : Nat} (hc : -1000000000 ≤ c ∧ c ≤ 1000000000) : Lay.tNodeResult.OwnIn w [.int .i64 c, .int .i64 0, .int .i64 0, .bool false, .int .i64 0, .int .i64 0, .slice none 0 0, .int .i64 0, .int .i64 0] (badNode c) lo hi :=
  own_nodeR (x := noNode) hc (by decide) nil_own (by decide) (by decide) (by decide) (by decide) (by decide)
theorem askedN_bd (x : DNode) : -1000000000 ≤ askedN x ∧ askedN x ≤ 1000000000 := by
  have := nodeFault_vals x
  unfold askedN
  split
  · split <;> omega
  · omega
theorem sl_take_own {α : Type} {A : Lay α} {w : World} {xs : List α} {b off cap n lo hi : Nat} (h : (Lay.sl A).OwnIn w [.slice (some ⟨b, off, none⟩) n cap] xs lo hi) (k : Nat) (hk : k ≤ xs.length) : (Lay.sl A).OwnIn w [.slice (some ⟨b, off, none⟩) k cap] (xs.take k) lo hi := by
  have hl : (xs.take k).length = k := by rw [List.length_take]; omega
  obtain ⟨bl, ⟨⟨ao, cap', he, ⟨h1, h2⟩, hor⟩, hnd, hfz⟩, hr⟩ := h
  simp only [List.cons.injEq, Value.slice.injEq, and_true] at he
  obtain ⟨rfl, rfl, rfl⟩ := he
  rcases hor with ⟨rfl, -⟩ | ⟨b', off', rows, bls, he, hb, rfl, n1, n2, hj⟩
  · obtain rfl : k = 0 := by simpa using hk
    exact ⟨[], ⟨⟨_, _, rfl, ⟨by simp, by simp⟩, Or.inl ⟨rfl, rfl⟩⟩, by simp, by simp⟩, by simp⟩
  · simp only [Option.some.injEq, Addr.mk.injEq, and_true] at he
    obtain ⟨rfl, rfl⟩ := he
    have hsub : ∀ c ∈ b :: (bls.take k).flatten, c ∈ b :: bls.flatten := by
      intro c hc
      rcases List.mem_cons.1 hc with rfl | hc
      · simp
      · obtain ⟨l, h3, h4⟩ := List.mem_flatten.1 hc
        exact List.mem_cons_of_mem _ (List.mem_flatten.2 ⟨l, List.mem_of_mem_take h3, h4⟩)
    refine ⟨b :: (bls.take k).flatten, ⟨⟨_, _, by rw [hl], ⟨by omega, by omega⟩, Or.inr ⟨b, off, rows.take k, bls.take k, rfl, hb, rfl, by simp [n1], by simp [n2], fun j q1 q2 q3 => ?_⟩⟩, ?_, fun c hc => hfz c (hsub c hc)⟩, fun c hc => hr c (hsub c hc)⟩
    · simp only [List.getElem_take]
      rw [List.length_take] at q1 q2 q3
      exact hj j (by omega) (by omega) (by omega)
    · refine List.Nodup.sublist ?_ hnd
      refine List.Sublist.cons_cons _ ?_
      conv => rhs; rw [← List.take_append_drop k bls]
      rw [List.flatten_append]
      exact List.sublist_append_left _ _
theorem box_set7 {lo : Nat} {T : TypeId} {W : World} {s : Nat} {c0 c1 c2 c3 c4 c5 c6 : Value} (h : Box lo #[c0, c1, c2, c3, c4, c5, c6] T W s) (v0 v1 v2 v3 v4 v5 v6 : Value) : Box lo #[v0, v1, v2, v3, v4, v5, v6] T (((((((W.setCell ⟨s, 0, none⟩ v0).setCell ⟨s, 1, none⟩ v1).setCell ⟨s, 2, none⟩ v2).setCell ⟨s, 3, none⟩ v3).setCell ⟨s, 4, none⟩ v4).setCell ⟨s, 5, none⟩ v5).setCell ⟨s, 6, none⟩ v6) s := by
  have q := (Box.set (Box.set (Box.set (Box.set (Box.set (Box.set (Box.set h 0 v0) 1 v1) 2 v2) 3 v3) 4 v4) 5 v5) 6 v6)
  simp only [List.setIfInBounds_toArray, List.set_cons_zero, List.set_cons_succ] at q
  exact q
theorem box_set9 {lo : Nat} {T : TypeId} {W : World} {s : Nat} {c0 c1 c2 c3 c4 c5 c6 c7 c8 : Value} (h : Box lo #[c0, c1, c2, c3, c4, c5, c6, c7, c8] T W s) (v0 v1 v2 v3 v4 v5 v6 v7 v8 : Value) : Box lo #[v0, v1, v2, v3, v4, v5, v6, v7, v8] T (((((((((W.setCell ⟨s, 0, none⟩ v0).setCell ⟨s, 1, none⟩ v1).setCell ⟨s, 2, none⟩ v2).setCell ⟨s, 3, none⟩ v3).setCell ⟨s, 4, none⟩ v4).setCell ⟨s, 5, none⟩ v5).setCell ⟨s, 6, none⟩ v6).setCell ⟨s, 7, none⟩ v7).setCell ⟨s, 8, none⟩ v8) s := by
  have q := (Box.set (Box.set (Box.set (Box.set (Box.set (Box.set (Box.set (Box.set (Box.set h 0 v0) 1 v1) 2 v2) 3 v3) 4 v4) 5 v5) 6 v6) 7 v7) 8 v8)
  simp only [List.setIfInBounds_toArray, List.set_cons_zero, List.set_cons_succ] at q
  exact q
theorem sl_take_lies {α : Type} {A : Lay α} {w : World} {xs : List α} {a : Option Addr} {cap n lo hi : Nat} (h : (Lay.sl A).LiesIn w [.slice a n cap] xs lo hi) (k : Nat) (hk : k ≤ xs.length) : (Lay.sl A).LiesIn w [.slice a k cap] (xs.take k) lo hi := by
  have hl : (xs.take k).length = k := by rw [List.length_take]; omega
  obtain ⟨bl, ⟨ao, cap', he, ⟨h1, h2⟩, hor⟩, hr⟩ := h
  simp only [List.cons.injEq, Value.slice.injEq, and_true] at he
  obtain ⟨rfl, rfl, rfl⟩ := he
  rcases hor with ⟨rfl, -⟩ | ⟨b', off', rows, bls, rfl, hb, rfl, n1, n2, hj⟩
  · obtain rfl : k = 0 := by simpa using hk
    exact ⟨[], ⟨_, _, rfl, ⟨by simp, by simp⟩, Or.inl ⟨rfl, rfl⟩⟩, by simp⟩
  · refine ⟨b' :: (bls.take k).flatten, ⟨_, _, by rw [hl], ⟨by omega, by omega⟩, Or.inr ⟨b', off', rows.take k, bls.take k, rfl, hb, rfl, by simp [n1], by simp [n2], fun j q1 q2 q3 => ?_⟩⟩, fun c hc => hr c ?_⟩
    · simp only [List.getElem_take]
      rw [List.length_take] at q1 q2 q3
      exact hj j (by omega) (by omega) (by omega)
    · rcases List.mem_cons.1 hc with rfl | hc
      · simp
      · obtain ⟨l, h3, h4⟩ := List.mem_flatten.1 hc
        exact List.mem_cons_of_mem _ (List.mem_flatten.2 ⟨l, List.mem_of_mem_take h3, h4⟩)
end Go.Proofs.YtbogjepkdcknfaaGreatDoor

namespace Go.Proofs.YtbogjepkdcknfaaGreatDoor
open Go.RowKit

theorem append_noneI {P : Program} (t ty e : TypeId) (i : TypeInfo) (ht : P.underlying t = some (.slice e)) (hi : P.info? e = some i) (bo : Option Addr) (n cap c : Nat) (hn : n ≤ cap) (w : World) :
    (Builtin.append_ #[t, t] ty #[.slice bo n cap, .slice none 0 c]).run P w = (Builtin.append_ #[t, t] ty #[.slice bo n cap, .slice (some ⟨0, 0, none⟩) 0 c]).run P w := by
  simp [Builtin.append_, run_underlying ht, sizeOf, typeInfo, hi, Builtin.lenOf, hn, Builtin.firstCells, loadCells, loadCellsFrom]

theorem IsInts.news {w : World} {b off cap : Nat} {zs : List Int} (h : IsInts w (.slice (some ⟨b, off, none⟩) zs.length cap) zs) (hp : 0 < zs.length) : ∀ j u, (zs.map (Value.int .i64))[j]? = some u → w.cell? ((⟨b, off, none⟩ : Addr).add j) = some u := by
  intro j u hu
  obtain ⟨ao, cp, hv, hwf, hc⟩ := h
  obtain ⟨b', off', hao, hc1⟩ := hc hp
  simp only [Value.slice.injEq] at hv
  obtain ⟨rfl, -, -⟩ := hv
  simp only [Option.some.injEq, Addr.mk.injEq, and_true] at hao
  obtain ⟨rfl, rfl⟩ := hao
  have hj : j < zs.length := by
    have := (List.getElem?_eq_some_iff.1 hu).1
    simpa using this
  rw [Addr.add_lit, hc1 j hj]
  simp [hj] at hu
  simp [List.getD, hj, hu]

theorem run_append_ints {w : World} (base ty : Nat) (v : Value) (n : Nat) (xs : List Value) (hown : w.ownsRow base 2 1 v n xs) (x : Value) (ks : List Int) (hx : IsInts w x ks)
    (hn : n + ks.length ≤ 100000000) (hbase : base ≤ w.heap.size) :
    ∃ v' w', (Builtin.append_ #[27, 27] ty #[v, x]).run Tryz.prog w = .ok v' w' ∧ w'.ownsRow base 2 1 v' (n + ks.length) (xs ++ ks.map (Value.int .i64)) ∧ w.grownBy w' v.ownBlock := by
  obtain ⟨i0, hi, hz0, hz1, hz2⟩ := info_parts info2
  have hml : n + ks.length ≤ maxLen := by unfold maxLen; omega
  by_cases hp : 0 < ks.length
  · have hx' := hx
    obtain ⟨ao, cap, rfl, hwf, hc⟩ := hx'
    obtain ⟨b, off, rfl, hc1⟩ := hc hp
    obtain ⟨v', w', r1, r2, r3, -, -⟩ := run_append_own_at (P := Tryz.prog) w base 27 ty 2 i0 _ 1 8 Tryz.underlying27 hi hz0 hz1 hz2 rfl (by omega) v n xs hown ⟨b, off, none⟩ ks.length cap (ks.map (Value.int .i64)) (by simp) (hx.news hp) (by simp [Value.oneCell']) hml (by omega) hbase
    exact ⟨v', w', r1, r2, r3⟩
  · obtain rfl : ks = [] := List.eq_nil_of_length_eq_zero (by omega)
    obtain ⟨ao, cap, rfl, hwf, hc⟩ := hx
    cases ao with
    | none =>
      obtain ⟨v', w', r1, r2, r3, -, -⟩ := run_append_own_at (P := Tryz.prog) w base 27 ty 2 i0 _ 1 8 Tryz.underlying27 hi hz0 hz1 hz2 rfl (by omega) v n xs hown ⟨0, 0, none⟩ 0 cap [] rfl (by simp) (by simp) hml (by simp at hn; omega) hbase
      refine ⟨v', w', ?_, r2, r3⟩
      rcases hown.2 with ⟨rfl, h0⟩ | ⟨g, cp, cur, rfl, _, _, hle, _⟩
      · exact (append_noneI _ _ _ i0 Tryz.underlying27 hi none 0 0 cap (Nat.le_refl _) w).trans r1
      · exact (append_noneI _ _ _ i0 Tryz.underlying27 hi _ n cp cap hle w).trans r1
    | some ad =>
      obtain ⟨v', w', r1, r2, r3, -, -⟩ := run_append_own_at (P := Tryz.prog) w base 27 ty 2 i0 _ 1 8 Tryz.underlying27 hi hz0 hz1 hz2 rfl (by omega) v n xs hown ad 0 cap [] rfl (by simp) (by simp) hml (by simp at hn; omega) hbase
      exact ⟨v', w', r1, r2, r3⟩

/-- The same at an operation of a plain region. -/
theorem wpList_append_ints {w : World} {base : Nat} {v : Value} {n : Nat} {xs : List Value} (hown : w.ownsRow base 2 1 v n xs) {X : Value} {ks : List Int} (hx : IsInts w X ks)
    {ops : Array Oper} {rest : List Oper} {o : Oper} {a : Act} {Q : Exit → Act → World → Prop} (hgd : o.guard = none) (s x : Operand)
    (ho : o.op = .call { callee := .builtin .append, args := #[s, x], argTypes := #[27, 27] }) (hv : a.eval s = v) (hX : a.eval x = X)
    (hn : n + ks.length ≤ 100000000) (hbase : base ≤ w.heap.size)
    (h : ∀ v' w', w'.ownsRow base 2 1 v' (n + ks.length) (xs ++ ks.map (Value.int .i64)) → w.grownBy w' v.ownBlock → Below base w w' → wpList Tryz.prog ops Q rest (a.put o.dst v') w') :
    wpList Tryz.prog ops Q (o :: rest) a w := by
  refine wpList_plain hgd fun K hK => ?_
  obtain ⟨v', w', hr, h2, h3⟩ := run_append_ints base o.type v n xs hown X ks hx hn hbase
  unfold Oper.wp execOp
  simp only [ho, resolve, invoke, builtin, Sem.run_bind, Sem.run_pure, Result.andThen_ok, List.map_toArray, List.map_cons, List.map_nil, hv, hX, hr]
  exact hK _ _ (h v' w' h2 h3 ((Below.refl _ _).grown h3 hbase (fun j hj => (hown.lt j hj).1)))

end Go.Proofs.YtbogjepkdcknfaaGreatDoor

namespace Go.Proofs.YtbogjepkdcknfaaGreatDoor
open Go.RowKit

set_option maxHeartbeats 400000 in
theorem l1Ints (v : Value) (zs : List Int) (w : World) (h : IsInts w v zs) (hn : zs.length ≤ 100000000) :
    Calls Tryz.prog 72 #[v] w fun e w' => ∃ v', e = .returned v' ∧ w'.ownsRow w.heap.size 2 1 v' zs.length (zs.map (Value.int .i64)) ∧ Below w.heap.size w w' := by
  have nb : Below w.heap.size w (w.alloc (.cells #[] 2)) := (Below.refl _ _).alloc (Nat.le_refl _) _
  have O : (w.alloc (.cells #[] 2)).ownsRow w.heap.size 2 1 (.slice (some ⟨w.heap.size, 0, none⟩) 0 0) 0 [] := World.ownsRow_lit w _ 0 (Nat.le_refl _) (by unfold maxLen; omega) rfl
  have h1 := h.later nb
  obtain ⟨ao, cap, rfl, -⟩ := h
  have HB := hide nb
  clear nb
  go_enter Tryz.func72, Tryz.ntmps72
  go_wp2_with (at_builtin; refine wpList_append_ints O h1 rfl _ _ rfl rfl rfl (by omega) (by simp) ?_)
  rintro v' w' O2 - hb
  have HB2 := hide ((unhide HB).trans hb)
  clear O h1 hb HB
  go_wp2_with fail
  go_ret
  exact ⟨v', rfl, by simpa using O2, unhide HB2⟩

end Go.Proofs.YtbogjepkdcknfaaGreatDoor

namespace Go.Proofs.YtbogjepkdcknfaaGreatDoor
open Go.RowKit

set_option maxRecDepth 100000 in
set_option maxHeartbeats 4000000 in
theorem wcopy_pos (b off cap : Nat) (ws : List DWrite) (w : World) (h : (Lay.sl Lay.tWrite).Reads w [.slice (some ⟨b, off, none⟩) ws.length cap] ws) (hbl : b < w.heap.size) (hn : ws.length ≤ 10000000) (hv : ∀ x ∈ ws, x.vec.length ≤ 100000000) :
    Calls Tryz.prog 52 #[.slice (some ⟨b, off, none⟩) ws.length cap] w fun e w' => ∃ v', e = .returned v' ∧ (∃ rows bls, Grow Lay.tWrite w' w.heap.size 29 v' rows ws bls ∧ ∀ c ∈ bls.flatten, w.heap.size ≤ c) ∧ Below w.heap.size w w' := by
  have H := hide h
  have HV := hide hv
  clear h hv
  have HG0 : Hid (Grow Lay.tWrite (w.alloc (.cells #[] 29)) w.heap.size 29 (.slice (some ⟨w.heap.size, 0, none⟩) 0 0) [] [] []) := Grow.nil (World.ownsRow_lit w #[] 0 (Nat.le_refl _) (Nat.zero_le _) rfl)
  have HB0 := hide ((Below.refl w.heap.size w).alloc (Nat.le_refl _) (.cells #[] 29))
  go_enter Tryz.func52, Tryz.ntmps52
  go_wp2_with fail
  go_loopw [3, 4] (fun v i wr => ∃ (k : Nat) (rows : List (List Value)) (bls : List (List Nat)), k ≤ ws.length ∧ i = .int .i64 k ∧ Grow Lay.tWrite wr w.heap.size 29 v rows (ws.take k) bls ∧ (∀ c ∈ bls.flatten, w.heap.size ≤ c) ∧ Below w.heap.size w wr) (fun _ i _ => ws.length - (intOf i).toNat)
  case atStart => exact ⟨0, [], [], Nat.zero_le _, rfl, unhide HG0, by simp, unhide HB0⟩
  case round =>
    obtain ⟨k, rows, bls, hk, rfl, hG, hSB, hB⟩ := hrel
    have HSB := hide hSB
    clear HG0 HB0 hSB
    by_cases hlt : k < ws.length
    · obtain ⟨row, hc, hr⟩ := Lay.row_at ((unhide H).later hB) hlt
      have hr2 := hr
      obtain ⟨a2, d2, rfl, R2⟩ := open_Write hr
      have c0 : wr.cell? ⟨b, off + k * 5, none⟩ = some (.int .i64 (ws[k]).kind) := hc 0 (by decide)
      have c1 : wr.cell? ⟨b, off + k * 5 + 1, none⟩ = some (.int .i64 (ws[k]).id) := hc 1 (by decide)
      have c2 : wr.cell? ⟨b, off + k * 5 + 2, none⟩ = some (.slice a2 (ws[k]).vec.length d2) := hc 2 (by decide)
      have c3 : wr.cell? ⟨b, off + k * 5 + 3, none⟩ = some (.int .i64 (ws[k]).session) := hc 3 (by decide)
      have c4 : wr.cell? ⟨b, off + k * 5 + 4, none⟩ = some (.int .i64 (ws[k]).seq) := hc 4 (by decide)
      have HWF : Hid ((Lit.int .i64 (ws[k]).kind).wf = true ∧ (Lit.int .i64 (ws[k]).id).wf = true ∧ (Lit.int .i64 (ws[k]).session).wf = true ∧ (Lit.int .i64 (ws[k]).seq).wf = true) := by
        obtain ⟨_, hq⟩ := hr2
        obtain ⟨_, _, _, _, _, q0, q1, _, q3, q4⟩ := lies_Write.1 hq
        exact ⟨q0, q1, q3, q4⟩
      have HT : Hid (ws.take (k + 1) = ws.take k ++ [ws[k]]) := List.take_succ_eq_append_getElem hlt
      have HLn : Hid ((ws.take k).length = k) := by show (ws.take k).length = k; rw [List.length_take]; omega
      have HN := hide (unhide HV ws[k] (List.getElem_mem hlt))
      clear hc hr hr2
      generalize hx : ws[k] = x at *
      clear hx
      have hbr : b < wr.heap.size := Nat.lt_of_lt_of_le hbl hB.size
      have nb : Below wr.heap.size wr (wr.alloc (.cells #[.int .i64 x.kind, .int .i64 x.id, .slice a2 x.vec.length d2, .int .i64 x.session, .int .i64 x.seq] 29)) := (Below.refl _ _).alloc (Nat.le_refl _) _
      have bI : Box 0 #[.int .i64 x.kind, .int .i64 x.id, .slice a2 x.vec.length d2, .int .i64 x.session, .int .i64 x.seq] 29 (wr.alloc (.cells #[.int .i64 x.kind, .int .i64 x.id, .slice a2 x.vec.length d2, .int .i64 x.session, .int .i64 x.seq] 29)) wr.heap.size := newBox (Nat.zero_le _)
      have HRW := hide (Lay.ints_reads R2).wf
      have HL := hide (l1Ints _ x.vec _ ((Lay.ints_reads R2).later nb) (unhide HN))
      have HG := hide (hG.later nb)
      have HB := hide (hB.trans (nb.mono hB.size))
      have HBI := hide bI
      have HZW : Hid (w.heap.size ≤ wr.heap.size) := hB.size
      have HOW : Hid (∀ c, u3.ownBlock = some c → c < wr.heap.size) := fun c hc => (hG.own.lt c hc).2
      have HSL : Hid (∀ c ∈ bls.flatten, c < wr.heap.size) := fun c hc => hG.sub_lt c hc
      clear R2 hG hB nb bI
      go_wp2_with fail
      clear c0 c1 c2 c3 c4
      refine (unhide HL).mono ?_
      generalize hW0 : wr.alloc (.cells #[.int .i64 x.kind, .int .i64 x.id, .slice a2 x.vec.length d2, .int .i64 x.session, .int .i64 x.seq] 29) = W0 at *
      clear hW0
      rintro e w2 ⟨v2, rfl, hO, hb⟩
      have hO2 := Lay.ownInts (unhide HRW) (by have := unhide HN; omega) hO
      obtain ⟨ao2, cp2, rfl⟩ := open_sl hO2.reads
      obtain ⟨bl2, ⟨hl2, -, -⟩, hr2⟩ := hO2
      have bI2 := (unhide HBI).keep hb
      have hZ0 : wr.heap.size < W0.heap.size := (unhide HBI).lt
      have z0 : w2.cell? ⟨wr.heap.size, 0, none⟩ = some (.int .i64 x.kind) := bI2.at 0 _ rfl
      have z1 : w2.cell? ⟨wr.heap.size, 1, none⟩ = some (.int .i64 x.id) := bI2.at 1 _ rfl
      have z2 : w2.cell? ⟨wr.heap.size, 2, none⟩ = some (.slice a2 x.vec.length d2) := bI2.at 2 _ rfl
      have z3 : w2.cell? ⟨wr.heap.size, 3, none⟩ = some (.int .i64 x.session) := bI2.at 3 _ rfl
      have z4 : w2.cell? ⟨wr.heap.size, 4, none⟩ = some (.int .i64 x.seq) := bI2.at 4 _ rfl
      have f2 := bI2.soft 2
      have l2 := bI2.lt
      have hE : Ext (fun c => c = wr.heap.size) w2 (w2.setCell ⟨wr.heap.size, 2, none⟩ (.slice ao2 x.vec.length cp2)) := (Ext.refl (fun c => c = wr.heap.size) w2).setCell ⟨wr.heap.size, 2, none⟩ _ rfl
      have hl3 : Lay.tWrite.lies (w2.setCell ⟨wr.heap.size, 2, none⟩ (.slice ao2 x.vec.length cp2)) [.int .i64 x.kind, .int .i64 x.id, .slice ao2 x.vec.length cp2, .int .i64 x.session, .int .i64 x.seq] x bl2 := lies_Write.2 ⟨ao2, cp2, bl2, rfl, rfl, (unhide HWF).1, (unhide HWF).2.1, (Lay.sl Lay.int).keep hl2 (fun c hc => hE.block c ((Lay.sl Lay.int).lt hl2 c hc) (by have := (hr2 c hc).1; omega)), (unhide HWF).2.2.1, (unhide HWF).2.2.2⟩
      have hG2 := (unhide HG).later hb
      have hoff : ∀ c ∈ bl2, u3.ownBlock ≠ some c := fun c hc e => by have h1 := (hr2 c hc).1; have h2 := unhide HOW c e; omega
      have HB3 : Hid (Below w.heap.size w (w2.setCell ⟨wr.heap.size, 2, none⟩ (.slice ao2 x.vec.length cp2))) := ((unhide HB).trans (hb.mono (unhide HB).size)).setCell (by simpa using unhide HZW) _
      have hG3 : Grow Lay.tWrite (w2.setCell ⟨wr.heap.size, 2, none⟩ (.slice ao2 x.vec.length cp2)) w.heap.size 29 u3 rows (ws.take k) bls := hG2.kept (by
        obtain ⟨h1, h2⟩ := hG2.own
        refine ⟨h1, ?_⟩
        rcases h2 with h2 | ⟨gb, cap', cur, hv, hg, hh, r⟩
        · exact Or.inl h2
        · exact Or.inr ⟨gb, cap', cur, hv, hg, (hE.block gb (lt_of_block hh) (by have := unhide HOW gb (by rw [hv]; rfl); omega)).trans hh, r⟩) (fun c hc => hE.block c (hG2.sub_lt c hc) (fun e => by
        have := unhide HSL c hc
        omega))
      have hZ3 : w.heap.size ≤ (w2.setCell ⟨wr.heap.size, 2, none⟩ (.slice ao2 x.vec.length cp2)).heap.size := (unhide HB3).size
      have hK : (ws.take k).length + 1 ≤ 100000000 := by rw [unhide HLn]; omega
      have y0 : (w2.setCell ⟨wr.heap.size, 2, none⟩ (.slice ao2 x.vec.length cp2)).cell? ⟨wr.heap.size, 0, none⟩ = some (.int .i64 x.kind) := (bI2.set 2 _).at 0 _ rfl
      have y1 : (w2.setCell ⟨wr.heap.size, 2, none⟩ (.slice ao2 x.vec.length cp2)).cell? ⟨wr.heap.size, 1, none⟩ = some (.int .i64 x.id) := (bI2.set 2 _).at 1 _ rfl
      have y2 : (w2.setCell ⟨wr.heap.size, 2, none⟩ (.slice ao2 x.vec.length cp2)).cell? ⟨wr.heap.size, 2, none⟩ = some (.slice ao2 x.vec.length cp2) := (bI2.set 2 _).at 2 _ rfl
      have y3 : (w2.setCell ⟨wr.heap.size, 2, none⟩ (.slice ao2 x.vec.length cp2)).cell? ⟨wr.heap.size, 3, none⟩ = some (.int .i64 x.session) := (bI2.set 2 _).at 3 _ rfl
      have y4 : (w2.setCell ⟨wr.heap.size, 2, none⟩ (.slice ao2 x.vec.length cp2)).cell? ⟨wr.heap.size, 4, none⟩ = some (.int .i64 x.seq) := (bI2.set 2 _).at 4 _ rfl
      have HSB5 : Hid (∀ c ∈ (bls ++ [bl2]).flatten, w.heap.size ≤ c) := by
        intro c hc
        rw [List.flatten_append] at hc
        rcases List.mem_append.1 hc with hc | hc
        · exact unhide HSB c hc
        · have h1 := (hr2 c (by simpa using hc)).1
          have h2 := unhide HZW
          omega
      clear z0 z1 z3 z4 bI2 hE hG2 hl2 hO HG HL HB HBI HRW HN HWF hb hr2 hZ0
      go_upto_region 7 with fail
      generalize w2.setCell ⟨wr.heap.size, 2, none⟩ (.slice ao2 x.vec.length cp2) = W3 at *
      go_wp2_with (at_builtin; refine wpList_append_Write hG3 hl3 hoff rfl _ _ rfl rfl rfl hK hZ3 ?_)
      intro g5 cap5 w5 hG5 hb5 hE5 hg5 hz5 hor5
      have HG5 := hide hG5
      have HB5 := hide ((unhide HB3).trans hb5)
      clear hG3 hl3 hoff hZ3 hK hG5 hb5 hE5 hg5 hz5 hor5 HB3 y0 y1 y2 y3 y4 z2 f2 l2
      go_wp2_with fail
      go_roundw
      case rel =>
        have hg := unhide HG5
        rw [← unhide HT] at hg
        try rw [unhide HLn] at hg
        exact ⟨k + 1, _, _, by omega, by go_num, hg, unhide HSB5, unhide HB5⟩
      case measure => simp [intOf]; omega
    · obtain rfl : k = ws.length := by omega
      rw [List.take_length] at hG
      have HG := hide hG
      have HB := hide hB
      clear hG hB H
      go_wp2_with fail
      go_ret
      exact ⟨_, rfl, ⟨_, _, unhide HG, unhide HSB⟩, unhide HB⟩

/-- l3Copy of the model. -/
theorem wcopyC (v : Value) (ws : List DWrite) (w : World) (h : (Lay.sl Lay.tWrite).Reads w [v] ws) (hn : ws.length ≤ 10000000) (hv : ∀ x ∈ ws, x.vec.length ≤ 100000000) :
    Calls Tryz.prog 52 #[v] w fun e w' => ∃ v', e = .returned v' ∧ (∃ rows bls, Grow Lay.tWrite w' w.heap.size 29 v' rows ws bls ∧ ∀ c ∈ bls.flatten, w.heap.size ≤ c) ∧ Below w.heap.size w w' := by
  obtain ⟨ao, cap, rfl⟩ := open_sl h
  by_cases hp : 0 < ws.length
  · obtain ⟨b, off, rfl, hbl⟩ := Lay.sl_addr h hp
    exact wcopy_pos b off cap ws w h hbl hn hv
  · obtain rfl : ws = [] := List.eq_nil_of_length_eq_zero (by omega)
    clear h hp hn hv
    have HB := hide ((Below.refl w.heap.size w).alloc (Nat.le_refl _) (.cells #[] 29))
    have HG : Hid (Grow Lay.tWrite (w.alloc (.cells #[] 29)) w.heap.size 29 (.slice (some ⟨w.heap.size, 0, none⟩) 0 0) [] [] []) := Grow.nil (World.ownsRow_lit w #[] 0 (Nat.le_refl _) (Nat.zero_le _) rfl)
    go_enter Tryz.func52, Tryz.ntmps52
    go_wp2_with fail
    refine wp_loop_rounds 1 ?_
    rw [rounds_succ]
    go_wp2_with fail
    go_ret
    exact ⟨_, rfl, ⟨_, _, unhide HG, by simp⟩, unhide HB⟩

end Go.Proofs.YtbogjepkdcknfaaGreatDoor

namespace Go.Proofs.YtbogjepkdcknfaaGreatDoor
open Go.RowKit

def takenF (ws : List DWrite) : Int := if 40 < ws.length then 2 else if wsFrom ws ≠ 0 then wsFrom ws else if onceB [] ws = false then 6 else 0
theorem takenF_vals (ws : List DWrite) : 0 ≤ takenF ws ∧ takenF ws ≤ 6 := by
  have := wsFrom_vals ws
  unfold takenF
  split
  · omega
  · split
    · omega
    · split <;> omega

def downB (x : DNode) : Bool := (x.sure == (x.writes.length : Int)) && (x.clean == 0 && x.lease == 0)
theorem nf_id {x : DNode} (h : (decide (1 ≤ x.id) && decide (x.id ≤ 5)) = false) : nodeFault x = 3 := by
  simp only [Bool.and_eq_false_iff, decide_eq_false_iff_not] at h
  rw [nodeFault, if_neg (by omega)]
theorem nf_epoch {x : DNode} (h : (decide (0 ≤ x.epoch) && decide (x.epoch ≤ 999)) = false) : nodeFault x = 3 := by
  simp only [Bool.and_eq_false_iff, decide_eq_false_iff_not] at h
  rw [nodeFault, if_neg (by omega)]
theorem nf_lease {x : DNode} (h : (decide (0 ≤ x.lease) && decide (x.lease ≤ 9999)) = false) : nodeFault x = 3 := by
  simp only [Bool.and_eq_false_iff, decide_eq_false_iff_not] at h
  rw [nodeFault, if_neg (by omega)]
theorem nf_rest {x : DNode} (h1 : (decide (1 ≤ x.id) && decide (x.id ≤ 5)) = true) (h2 : (decide (0 ≤ x.epoch) && decide (x.epoch ≤ 999)) = true) (h3 : (decide (0 ≤ x.lease) && decide (x.lease ≤ 9999)) = true) :
    nodeFault x = if takenF x.writes ≠ 0 then takenF x.writes else if (decide (0 ≤ x.sure) && decide (x.sure ≤ (x.writes.length : Int))) = true ∧ (decide (0 ≤ x.clean) && decide (x.clean ≤ x.sure)) = true then (if x.up = false ∧ downB x = false then 1 else 0) else 3 := by
  simp only [Bool.and_eq_true, decide_eq_true_eq] at *
  rw [nodeFault, if_pos (by omega), takenF]
  by_cases q1 : 40 < x.writes.length
  · simp only [if_pos q1]; rfl
  · simp only [if_neg q1]
    by_cases q2 : wsFrom x.writes ≠ 0
    · simp only [if_pos q2]
    · simp only [if_neg q2]
      by_cases q3 : onceB [] x.writes = false
      · simp only [if_pos q3]; rfl
      · simp only [if_neg q3]
        rw [if_neg (by simp : ¬ ((0 : Int) ≠ 0))]
        have e1 : (0 ≤ x.sure ∧ x.sure ≤ (x.writes.length : Int) ∧ 0 ≤ x.clean ∧ x.clean ≤ x.sure) ↔ ((0 ≤ x.sure ∧ x.sure ≤ (x.writes.length : Int)) ∧ 0 ≤ x.clean ∧ x.clean ≤ x.sure) := by constructor <;> (intro h; omega)
        have e2 : ¬ (x.sure = (x.writes.length : Int) ∧ x.clean = 0 ∧ x.lease = 0) ↔ downB x = false := by
          unfold downB
          rw [← Bool.not_eq_true]
          simp
        simp only [e1, e2]

end Go.Proofs.YtbogjepkdcknfaaGreatDoor
