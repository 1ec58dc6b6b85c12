/-
  Texts of this proof in one: ImplTrain, InB, SpecTab, SpecCen, SpecNear, MeanModel.
  Their conditions stand in their theorems.
-/
import Derived.Test.YtjofcmdlcoganaaTq05
import Derived.Test.YtjofcmdlcoganaaTq06
import Derived.Test.YtjofcmdlcoganaaChecked
import Derived.Test.YtjofcmdlcoganaaTq01
import Derived.Test.YtjofcmdlcoganaaTq02
import Derived.Test.YtjofcmdlcoganaaTq04
import Derived.BigQuiet
import Derived.Deep.QuietTactic
import Derived.Deep.RegionHeld3
import Derived.Deep.RegionLaw
import Derived.Deep.AppendLies
import Derived.Laws.Pointers

namespace Go.Proofs.Ytjofcmdlcoganaa
open Go.RowKit

set_option maxRecDepth 10000 in
set_option maxHeartbeats 2000000 in
theorem implTrain_ok (vx : Value) (xs : List DItem) (vs : Value) (ss : List Int) (r : Int) (w : World) (h : (Lay.sl Lay.tItem).Reads w [vx] xs) (hs : (Lay.sl Lay.int).Reads w [vs] ss) (hf : trainFault xs ss r = 0) :
    Calls Try.prog 12 #[vx, vs, .int .i64 r] w fun e w' => ∃ cs', e = .returned (.agg cs'.toArray) ∧ Lay.tCentersResult.OwnIn w' cs' (trainR xs ss r) w.heap.size w'.heap.size ∧ Below w.heap.size w w' := by
  have HB0 : Below w.heap.size w (w.alloc (.cells #[.int .i64 0, .slice none 0 0] 30)) := (Below.refl _ _).alloc (Nat.le_refl _) _
  have bR : Box w.heap.size #[.int .i64 0, .slice none 0 0] 30 (w.alloc (.cells #[.int .i64 0, .slice none 0 0] 30)) w.heap.size := newBox (Nat.le_refl _)
  have hx1 := h.later HB0
  have hs1 := hs.later HB0
  have HG : Hid (trainR xs ss r = ⟨0, trainN xs r.toNat (seedCs xs ss)⟩) := if_pos hf
  obtain ⟨ao, cap, rfl⟩ := open_sl h
  obtain ⟨ao2, cap2, rfl⟩ := open_sl hs
  obtain ⟨hft, h0, hn, hr, hall⟩ := trainFault_zero hf
  have HCF0 := hide (seedCs_right hft h0 hn)
  have HFT := hide hft
  clear h hs
  go_enter Try.func12, Try.ntmps12
  go_wp2_with fail
  generalize w.alloc (.cells #[.int .i64 0, .slice none 0 0] 30) = W0 at *
  refine (trainFaultC _ xs _ ss r W0 hx1 hs1).mono ?_
  rintro e w1 ⟨rfl, hb⟩
  rw [hf]
  have HX := hide (hx1.later hb)
  have hs2 := hs1.later hb
  replace bR := bR.keep hb
  replace HB0 := HB0.trans (hb.mono HB0.size)
  have hw1 := bR.lt
  have HB := hide HB0
  have HR := hide bR
  have L := hide (seedsC _ xs _ ss w1 (unhide HX) hs2 hft h0 hn hall)
  clear hb HB0 bR hx1 hs1 hs2 hf hft h0 hn hall
  go_wp2_with fail
  refine (unhide L).mono ?_
  rintro e w2 ⟨v2, rfl, O2, hb2⟩
  have LC := hide (implCost _ (seedCs xs ss) _ xs w2 O2.reads ((unhide HX).later hb2) (unhide HCF0) (unhide HFT))
  have HO2 := hide O2
  have HB2 := hide hb2
  clear L O2 hb2
  go_wp2_with fail
  refine (unhide LC).mono ?_
  rintro e w3 ⟨rfl, hb3⟩
  have HO3 := hide (((unhide HO2).later hb3).mono (Nat.le_refl _) hb3.size)
  have HB3 := hide ((unhide HB2).trans (hb3.mono (unhide HB2).size))
  clear LC hb3 HO2 HB2
  go_wp2_with fail
  go_loopw [8, 9, 27] (fun u c i wr => ∃ (k : Nat) (cur : List DCenter), (k : Int) ≤ r ∧ i = .int .i64 k ∧ centersFault cur = 0 ∧ c = .int .i64 (cost cur xs) ∧ trainN xs (r.toNat - k) cur = trainN xs r.toNat (seedCs xs ss) ∧ (Lay.sl Lay.tCenter).OwnIn wr [u] cur w1.heap.size wr.heap.size ∧ Below w1.heap.size w1 wr) (fun _ _ i _ => r.toNat - (intOf i).toNat)
  case atStart => exact ⟨0, _, hr.1, rfl, unhide HCF0, rfl, rfl, unhide HO3, unhide HB3⟩
  case round =>
    obtain ⟨k, cur, hk, rfl, hcf, rfl, htn, hO, hB⟩ := hrel
    clear HO3 HB3
    by_cases hlt : (k : Int) < r
    · have hstep : trainN xs (r.toNat - k) cur = if cost cur xs ≤ cost (moved cur xs) xs then cur else trainN xs (r.toNat - (k + 1)) (moved cur xs) := by
        rw [show r.toNat - k = (r.toNat - (k + 1)) + 1 by omega]
        rfl
      rw [hstep] at htn
      have hmf := moved_right hcf (unhide HFT)
      have L := hide (movedC _ cur _ xs wr hO.reads ((unhide HX).later hB) hcf (unhide HFT))
      have HTN0 := hide htn
      have HMF := hide hmf
      have HCF := hide hcf
      have HO := hide hO
      have HBr := hide hB
      have hwr := hB.size
      clear hstep htn hmf hcf hO hB
      go_wp2_with fail
      refine (unhide L).mono ?_
      rintro e w4 ⟨v4, rfl, O4, hb4⟩
      have LC := hide (implCost _ (moved cur xs) _ xs w4 O4.reads (((unhide HX).later (unhide HBr)).later hb4) (unhide HMF) (unhide HFT))
      have HO4 := hide O4
      have HOc := hide (((unhide HO).later hb4).mono (Nat.le_refl _) hb4.size)
      have HB4 := hide ((unhide HBr).trans (hb4.mono (unhide HBr).size))
      clear L O4 hb4 HO HBr
      go_wp2_with fail
      refine (unhide LC).mono ?_
      rintro e w5 ⟨rfl, hb5⟩
      have HO5 := hide ((((unhide HO4).later hb5).mono (Nat.le_refl _) hb5.size).mono (lo' := w1.heap.size) hwr (Nat.le_refl _))
      replace HOc := hide (((unhide HOc).later hb5).mono (Nat.le_refl _) hb5.size)
      have HB5 := hide ((unhide HB4).trans (hb5.mono (unhide HB4).size))
      clear LC hb5 HO4 HB4
      by_cases hc : cost cur xs ≤ cost (moved cur xs) xs
      · have HTN : Hid (cur = trainN xs r.toNat (seedCs xs ss)) := by
          have := unhide HTN0
          rw [if_pos hc] at this
          exact this
        have hd : decide (cost cur xs ≤ cost (moved cur xs) xs) = true := by simpa using hc
        clear hc HTN0 HO5
        rename World => wr
        have hO := unhide HOc
        have hB := unhide HB5
        clear HOc HB5
        generalize cost cur xs = c1 at *
        generalize cost (moved cur xs) xs = c2 at *
        obtain ⟨a9, c9, rfl⟩ := open_sl hO.reads
        have bR := (unhide HR).keep hB
        have z0 : wr.cell? ⟨w.heap.size, 0, none⟩ = some (.int .i64 0) := bR.at 0 _ rfl
        have z1 : wr.cell? ⟨w.heap.size, 1, none⟩ = some (.slice none 0 0) := bR.at 1 _ rfl
        have f0 := bR.soft 0
        have f1 := bR.soft 1
        have l0 := bR.lt
        have HB9 := hide ((unhide HB).trans (hB.mono (unhide HB).size))
        have HO9 := hide hO
        clear hO hB bR
        generalize hm9 : cur.length = n9 at *
        clear hm9
        go_wp2_with fail
        refine bodyPost_ret (v := .agg #[.int .i64 0, .slice a9 n9 c9]) (by simp [results, Try.results12, go_sem, z0, z1]) rfl ?_
        have hE : Ext (fun c => c = w.heap.size) wr ((wr.setCell ⟨w.heap.size, 0, none⟩ (.int .i64 0)).setCell ⟨w.heap.size, 1, none⟩ (.slice a9 n9 c9)) := ((Ext.refl (fun c => c = w.heap.size) _).setCell ⟨w.heap.size, 0, none⟩ _ rfl).setCell ⟨w.heap.size, 1, none⟩ _ rfl
        rw [unhide HG, ← unhide HTN]
        exact ⟨[.int .i64 0, .slice a9 n9 c9], rfl, own_censR (by decide) (((unhide HO9).ext hE (fun c h1 _ h3 => by omega)).mono (by omega) (by simp)), ((unhide HB9).setCell (by simp) _).setCell (by simp) _⟩
      · have HTN : Hid (trainN xs (r.toNat - (k + 1)) (moved cur xs) = trainN xs r.toNat (seedCs xs ss)) := by
          have := unhide HTN0
          rw [if_neg hc] at this
          exact this
        have hd : decide (cost cur xs ≤ cost (moved cur xs) xs) = false := by simpa using hc
        clear hc HTN0 HOc
        generalize cost cur xs = c1 at *
        generalize hc2 : cost (moved cur xs) xs = c2 at *
        have HC2 := hide hc2
        clear hc2
        go_wp2_with fail
        go_roundw
        case rel => exact ⟨k + 1, moved cur xs, by omega, by go_num, unhide HMF, by rw [unhide HC2], unhide HTN, unhide HO5, unhide HB5⟩
        case measure => simp [intOf]; omega
    · have HTN : Hid (cur = trainN xs r.toNat (seedCs xs ss)) := by
        rw [show r.toNat - k = 0 by omega] at htn
        exact htn
      clear htn hcf
      generalize cost cur xs = c1 at *
      obtain ⟨a9, c9, rfl⟩ := open_sl hO.reads
      have bR := (unhide HR).keep hB
      have z0 : wr.cell? ⟨w.heap.size, 0, none⟩ = some (.int .i64 0) := bR.at 0 _ rfl
      have z1 : wr.cell? ⟨w.heap.size, 1, none⟩ = some (.slice none 0 0) := bR.at 1 _ rfl
      have f0 := bR.soft 0
      have f1 := bR.soft 1
      have l0 := bR.lt
      have HB9 := hide ((unhide HB).trans (hB.mono (unhide HB).size))
      have HO9 := hide hO
      clear hO hB bR
      generalize hm9 : cur.length = n9 at *
      clear hm9
      go_wp2_with fail
      refine bodyPost_ret (v := .agg #[.int .i64 0, .slice a9 n9 c9]) (by simp [results, Try.results12, go_sem, z0, z1]) rfl ?_
      have hE : Ext (fun c => c = w.heap.size) wr ((wr.setCell ⟨w.heap.size, 0, none⟩ (.int .i64 0)).setCell ⟨w.heap.size, 1, none⟩ (.slice a9 n9 c9)) := ((Ext.refl (fun c => c = w.heap.size) _).setCell ⟨w.heap.size, 0, none⟩ _ rfl).setCell ⟨w.heap.size, 1, none⟩ _ rfl
      rw [unhide HG, ← unhide HTN]
      exact ⟨[.int .i64 0, .slice a9 n9 c9], rfl, own_censR (by decide) (((unhide HO9).ext hE (fun c h1 _ h3 => by omega)).mono (by omega) (by simp)), ((unhide HB9).setCell (by simp) _).setCell (by simp) _⟩

set_option maxRecDepth 10000 in
theorem implTrain_bad (vx : Value) (xs : List DItem) (vs : Value) (ss : List Int) (r : Int) (w : World) (h : (Lay.sl Lay.tItem).Reads w [vx] xs) (hs : (Lay.sl Lay.int).Reads w [vs] ss) (hf : trainFault xs ss r ≠ 0) :
    Calls Try.prog 12 #[vx, vs, .int .i64 r] w fun e w' => ∃ cs', e = .returned (.agg cs'.toArray) ∧ Lay.tCentersResult.OwnIn w' cs' (trainR xs ss r) w.heap.size w'.heap.size ∧ Below w.heap.size w w' := by
  have HB0 : Below w.heap.size w (w.alloc (.cells #[.int .i64 0, .slice none 0 0] 30)) := (Below.refl _ _).alloc (Nat.le_refl _) _
  have bR : Box w.heap.size #[.int .i64 0, .slice none 0 0] 30 (w.alloc (.cells #[.int .i64 0, .slice none 0 0] 30)) w.heap.size := newBox (Nat.le_refl _)
  have hx1 := h.later HB0
  have hs1 := hs.later HB0
  have HG : Hid (trainR xs ss r = ⟨trainFault xs ss r, []⟩) := if_neg hf
  obtain ⟨ao, cap, rfl⟩ := open_sl h
  obtain ⟨ao2, cap2, rfl⟩ := open_sl hs
  have hd : (trainFault xs ss r != 0) = true := by simpa using hf
  clear h hs hf
  go_enter Try.func12, Try.ntmps12
  go_wp2_with fail
  generalize w.alloc (.cells #[.int .i64 0, .slice none 0 0] 30) = W0 at *
  refine (trainFaultC _ xs _ ss r W0 hx1 hs1).mono ?_
  rintro e w1 ⟨rfl, hb⟩
  replace bR := bR.keep hb
  replace HB0 := HB0.trans (hb.mono HB0.size)
  have z0 : w1.cell? ⟨w.heap.size, 0, none⟩ = some (.int .i64 0) := bR.at 0 _ rfl
  have z1 : w1.cell? ⟨w.heap.size, 1, none⟩ = some (.slice none 0 0) := bR.at 1 _ rfl
  have f0 := bR.soft 0
  have f1 := bR.soft 1
  have l0 := bR.lt
  have HB := hide HB0
  clear hb HB0 bR hx1 hs1
  go_wp2_with fail
  refine bodyPost_ret (v := .agg #[.int .i64 (trainFault xs ss r), .slice none 0 0]) (by simp [results, Try.results12, go_sem, z0, z1]) rfl ?_
  rw [unhide HG]
  exact ⟨[.int .i64 (trainFault xs ss r), .slice none 0 0], rfl, own_codeCens (trainFault_wf xs ss r), ((unhide HB).setCell (by simp) _).setCell (by simp) _⟩

/-- TrainCenters of the program. -/
theorem implTrain (vx : Value) (xs : List DItem) (vs : Value) (ss : List Int) (r : Int) (w : World) (h : (Lay.sl Lay.tItem).Reads w [vx] xs) (hs : (Lay.sl Lay.int).Reads w [vs] ss) :
    Calls Try.prog 12 #[vx, vs, .int .i64 r] w fun e w' => ∃ cs', e = .returned (.agg cs'.toArray) ∧ Lay.tCentersResult.OwnIn w' cs' (trainR xs ss r) w.heap.size w'.heap.size ∧ Below w.heap.size w w' := by
  by_cases hf : trainFault xs ss r = 0
  · exact implTrain_ok vx xs vs ss r w h hs hf
  · exact implTrain_bad vx xs vs ss r w h hs hf

end Go.Proofs.Ytjofcmdlcoganaa

namespace Go.Proofs.Ytjofcmdlcoganaa
open Go.RowKit

theorem inC (v lo hi : Int) (w : World) :
    Calls Try.prog 51 #[.int .i64 v, .int .i64 lo, .int .i64 hi] w fun e w' => e = .returned (.bool (decide (lo ≤ v) && decide (v ≤ hi))) ∧ w' = w := by
  by_cases h1 : lo ≤ v
  · have d1 : decide (lo ≤ v) = true := by simpa using h1
    rw [d1]
    cases d2 : decide (v ≤ hi) <;>
    · go_enter Try.func51, Try.ntmps51
      go_wp2_with fail
      go_ret
      exact ⟨rfl, rfl⟩
  · have d1 : decide (lo ≤ v) = false := by simpa using h1
    rw [d1]
    go_enter Try.func51, Try.ntmps51
    go_wp2_with fail
    go_ret
    exact ⟨rfl, rfl⟩
theorem idC (x : Int) (w : World) : Calls Try.prog 84 #[.int .i64 x] w fun e w' => e = .returned (.bool (decide (1 ≤ x) && decide (x ≤ 999))) ∧ w' = w := by
  go_enter Try.func84, Try.ntmps84
  go_wp2_with fail
  refine (inC x 1 999 _).mono ?_
  rintro e w1 ⟨rfl, rfl⟩
  go_wp2_with fail
  go_ret
  exact ⟨rfl, rfl⟩

end Go.Proofs.Ytjofcmdlcoganaa

namespace Go.Proofs.Ytjofcmdlcoganaa
open Go.RowKit

set_option maxRecDepth 100000 in
set_option maxHeartbeats 1000000 in
theorem specTab_pos (b off cap : Nat) (xs : List DItem) (w : World) (hn : xs.length ≤ 30) (h : (Lay.sl Lay.tItem).Reads w [.slice (some ⟨b, off, none⟩) xs.length cap] xs) (hbl : b < w.heap.size) :
    Calls Try.prog 50 #[.slice (some ⟨b, off, none⟩) xs.length cap] w fun e w' => e = .returned (.int .i64 (tabFrom none xs)) ∧ Below w.heap.size w w' := by
  generalize hF0 : tabFrom none xs = F0
  have H := hide h
  clear h
  go_enter Try.func50, Try.ntmps50
  go_wp2_with fail
  go_loopw [3] (fun i wr => ∃ k : Nat, k ≤ xs.length ∧ i = .int .i64 k ∧ tabFrom (idAhead xs k) (xs.drop k) = F0 ∧ Below w.heap.size w wr) (fun i _ => xs.length - (intOf i).toNat)
  case atStart => exact ⟨0, Nat.zero_le _, rfl, hF0, Below.refl _ _⟩
  case round =>
    obtain ⟨k, hk, rfl, hF, hB⟩ := hrel
    by_cases hlt : k < xs.length
    · obtain ⟨row, hc, hr⟩ := Lay.row_at (unhide H) hlt
      replace hr := hr.later hB
      obtain ⟨a1, d1, rfl, R1⟩ := open_Item hr
      have c0 : wr.cell? ⟨b, off + k * 2, none⟩ = some (.int .i64 (xs[k]).id) := (hB.cell (p := ⟨b, off + k * 2, none⟩) hbl).trans (hc 0 (by decide))
      have c1 : wr.cell? ⟨b, off + k * 2 + 1, none⟩ = some (.slice a1 (xs[k]).vec.length d1) := (hB.cell (p := ⟨b, off + k * 2 + 1, none⟩) hbl).trans (hc 1 (by decide))
      have HP : Hid (∀ m, k = m + 1 → ∃ z, idAhead xs (m + 1) = some z ∧ wr.cell? ⟨b, off + m * 2, none⟩ = some (.int .i64 z)) := by
        rintro m rfl
        have hm : m < xs.length := by omega
        obtain ⟨row2, hc2, hr2⟩ := Lay.row_at (unhide H) hm
        obtain ⟨a2, d2, rfl, -⟩ := open_Item hr2
        exact ⟨_, idAhead_succ xs m hm, (hB.cell (p := ⟨b, off + m * 2, none⟩) hbl).trans (hc2 0 (by decide))⟩
      rw [tabFrom_step xs k hlt] at hF
      clear hc hr
      generalize hx : xs[k] = x at *
      clear hx
      have hbr : b < wr.heap.size := Nat.lt_of_lt_of_le hbl hB.size
      have I1 := hide (Lay.ints_reads R1)
      have HF := hide hF
      have B1 := hide hB
      clear R1 hF hB
      go_wp2_with fail
      refine (idC x.id _).mono ?_
      rintro e w1 ⟨rfl, rfl⟩
      rw [show (decide (1 ≤ x.id) && decide (x.id ≤ 999)) = idB x.id from rfl]
      cases hid : idB x.id with
      | false =>
        have hF := unhide HF
        rw [hid, if_neg (by simp)] at hF
        have HF2 := hide hF
        clear HF hF hid HP
        go_wp2_with fail
        go_ret
        exact ⟨by rw [← unhide HF2]; rfl, unhide B1⟩
      | true =>
        have hF := unhide HF
        rw [hid, if_pos rfl] at hF
        clear HF hid
        have HF := hide hF
        clear hF
        go_wp2_with fail
        refine (modelFault _ x.vec _ (unhide I1)).mono ?_
        rintro e w1 ⟨rfl, rfl⟩
        by_cases hv : vecFault x.vec = 0
        · rw [hv]
          have hF := unhide HF
          rw [if_pos hv] at hF
          clear HF I1 hv
          have HF := hide hF
          clear hF
          by_cases hk0 : k = 0
          · subst hk0
            have hF := unhide HF
            rw [idAhead_zero, Option.all_none, if_pos rfl] at hF
            have HF3 := hide hF
            clear HF hF HP
            have g0 : decide ((0 : Int) < 0) = false := by decide
            go_wp2_with fail
            go_quiet (fail)
            all_goals go_wp2_with fail
            all_goals exact ⟨⟨0 + 1, by omega, by go_num, unhide HF3, below_drewN (unhide B1) _⟩, by simp [intOf]; omega⟩
          · obtain ⟨m, rfl⟩ : ∃ m, k = m + 1 := ⟨k - 1, by omega⟩
            obtain ⟨z, e1, p0⟩ := unhide HP m rfl
            have hF := unhide HF
            rw [e1, Option.all_some] at hF
            have HF3 := hide hF
            clear HF hF HP e1 hk0
            have g1 : decide ((0 : Int) < (m : Int) + 1) = true := by simp
            have g4 : IntKind.i64.wrap ((m : Int) + 1 - 1) = (m : Int) := by simp only [IntKind.wrap_i64]; omega
            have g9 : IntKind.i64.wrap (m : Int) = (m : Int) := by simp only [IntKind.wrap_i64]; omega
            have g2 : (m : Int) + 1 - 1 = (m : Int) := by omega
            have g3 : (m : Int) < (xs.length : Int) := by omega
            have g5 : (0 : Int) ≤ (m : Int) := by omega
            have g6 : (m : Int) + 1 < (xs.length : Int) := by omega
            have g7 : (0 : Int) ≤ (m : Int) + 1 := by omega
            have g8 : ((m : Int) + 1).toNat = m + 1 := by omega
            cases hq : decide (z < x.id) with
            | true =>
              have hF := unhide HF3
              rw [hq, if_pos rfl] at hF
              have HF4 := hide hF
              have q1 : decide (x.id ≤ z) = false := by simp at hq ⊢; omega
              clear hF HF3 hq
              go_wp2_with fail
              go_quiet (fail)
              all_goals go_wp2_with fail
              all_goals exact ⟨⟨m + 1 + 1, by omega, by go_num, unhide HF4, below_drewN (unhide B1) _⟩, by simp [intOf]; omega⟩
            | false =>
              have hF := unhide HF3
              rw [hq, if_neg (by simp)] at hF
              have HF4 := hide hF
              have q1 : decide (x.id ≤ z) = true := by simp at hq ⊢; omega
              clear hF HF3 hq
              go_wp2_with fail
              go_quiet (fail)
              all_goals go_wp2_with fail
              all_goals go_ret
              all_goals exact ⟨by rw [← unhide HF4]; rfl, below_drewN (unhide B1) _⟩
        · have hF := unhide HF
          rw [if_neg hv] at hF
          have hd : (vecFault x.vec != 0) = true := by simpa using hv
          have HF2 := hide hF
          clear HF hF HP I1 hv
          go_wp2_with fail
          go_ret
          exact ⟨by rw [← unhide HF2]; rfl, unhide B1⟩
    · obtain rfl : k = xs.length := by omega
      rw [List.drop_length] at hF
      have HF := hide hF
      have HB := hide hB
      clear hF hB H
      go_wp2_with fail
      go_ret
      exact ⟨by rw [← unhide HF]; rfl, unhide HB⟩

set_option maxRecDepth 10000 in
/-- l4Fault of the model. -/
theorem specTab (v : Value) (xs : List DItem) (w : World) (h : (Lay.sl Lay.tItem).Reads w [v] xs) :
    Calls Try.prog 50 #[v] w fun e w' => e = .returned (.int .i64 (tableFault xs)) ∧ Below w.heap.size w w' := by
  obtain ⟨ao, cap, rfl⟩ := open_sl h
  by_cases hn : xs.length ≤ 30
  · have e : tableFault xs = tabFrom none xs := by unfold tableFault; rw [if_neg (by omega)]
    rw [e]
    by_cases hp : 0 < xs.length
    · obtain ⟨b, off, rfl, hbl⟩ := Lay.sl_addr h hp
      exact specTab_pos b off cap xs w hn h hbl
    · obtain rfl : xs = [] := List.eq_nil_of_length_eq_zero (by omega)
      clear h e hn hp
      go_enter Try.func50, Try.ntmps50
      go_wp2_with fail
      refine wp_loop_rounds 1 ?_
      rw [rounds_succ]
      go_wp2_with fail
      go_ret
      exact ⟨rfl, Below.refl _ _⟩
  · have e : tableFault xs = 2 := by unfold tableFault; rw [if_pos (by omega)]
    rw [e]
    have hd : decide ((30 : Int) < (xs.length : Int)) = true := by simp; omega
    clear h e
    go_enter Try.func50, Try.ntmps50
    go_wp2_with fail
    go_ret
    exact ⟨rfl, Below.refl _ _⟩

end Go.Proofs.Ytjofcmdlcoganaa

namespace Go.Proofs.Ytjofcmdlcoganaa
open Go.RowKit

set_option maxRecDepth 100000 in
set_option maxHeartbeats 1000000 in
theorem specCen_pos (b off cap : Nat) (xs : List DCenter) (w : World) (hn : 1 ≤ xs.length ∧ xs.length ≤ 6) (h : (Lay.sl Lay.tCenter).Reads w [.slice (some ⟨b, off, none⟩) xs.length cap] xs) (hbl : b < w.heap.size) :
    Calls Try.prog 61 #[.slice (some ⟨b, off, none⟩) xs.length cap] w fun e w' => e = .returned (.int .i64 (cenFrom xs)) ∧ Below w.heap.size w w' := by
  generalize hF0 : cenFrom xs = F0
  have H := hide h
  clear h
  have d1 : decide ((xs.length : Int) < 1) = false := by simp; omega
  have d2 : decide ((6 : Int) < (xs.length : Int)) = false := by simp; omega
  go_enter Try.func61, Try.ntmps61
  go_wp2_with fail
  go_loopw [3] (fun i wr => ∃ k : Nat, k ≤ xs.length ∧ i = .int .i64 k ∧ cenFrom (xs.drop k) = F0 ∧ Below w.heap.size w wr) (fun i _ => xs.length - (intOf i).toNat)
  case atStart => exact ⟨0, Nat.zero_le _, rfl, hF0, Below.refl _ _⟩
  case round =>
    obtain ⟨k, hk, rfl, hF, hB⟩ := hrel
    by_cases hlt : k < xs.length
    · obtain ⟨row, hc, hr⟩ := Lay.row_at (unhide H) hlt
      replace hr := hr.later hB
      obtain ⟨a1, d1, rfl, R1⟩ := open_Center hr
      have c1 : wr.cell? ⟨b, off + k, none⟩ = some (.slice a1 (xs[k]).vec.length d1) := (hB.cell (p := ⟨b, off + k, none⟩) hbl).trans (cen_cell (hc 0 (by decide)))
      rw [cenFrom_step xs k hlt] at hF
      clear hc hr
      generalize hx : xs[k] = x at *
      clear hx
      have hbr : b < wr.heap.size := Nat.lt_of_lt_of_le hbl hB.size
      have I1 := hide (Lay.ints_reads R1)
      have HF := hide hF
      have B1 := hide hB
      clear R1 hF hB
      go_wp2_with fail
      refine (modelFault _ x.vec _ (unhide I1)).mono ?_
      rintro e w1 ⟨rfl, rfl⟩
      by_cases hv : vecFault x.vec = 0
      · rw [hv]
        have hF := unhide HF
        rw [if_pos hv] at hF
        clear HF I1 hv
        have HF := hide hF
        clear hF
        go_wp2_with fail
        go_roundw
        case rel => exact ⟨k + 1, by omega, by go_num, unhide HF, unhide B1⟩
        case measure => simp [intOf]; omega
      · have hF := unhide HF
        rw [if_neg hv] at hF
        have hd : (vecFault x.vec != 0) = true := by simpa using hv
        have HF2 := hide hF
        clear HF hF I1 hv
        go_wp2_with fail
        go_ret
        exact ⟨by rw [← unhide HF2]; rfl, unhide B1⟩
    · obtain rfl : k = xs.length := by omega
      rw [List.drop_length] at hF
      have HF := hide hF
      have HB := hide hB
      clear hF hB H
      go_wp2_with fail
      go_ret
      exact ⟨by rw [← unhide HF]; rfl, unhide HB⟩

set_option maxRecDepth 10000 in
theorem specCen (v : Value) (xs : List DCenter) (w : World) (h : (Lay.sl Lay.tCenter).Reads w [v] xs) :
    Calls Try.prog 61 #[v] w fun e w' => e = .returned (.int .i64 (centersFault xs)) ∧ Below w.heap.size w w' := by
  have hbig := h.big
  obtain ⟨ao, cap, rfl⟩ := open_sl h
  by_cases hn : xs.length < 1 ∨ 6 < xs.length
  · have e : centersFault xs = 2 := by unfold centersFault; rw [if_pos hn]
    rw [e]
    clear h e
    go_enter Try.func61, Try.ntmps61
    by_cases h1 : xs.length < 1
    · have d1 : decide ((xs.length : Int) < 1) = true := by simp; omega
      go_wp2_with fail
      go_ret
      exact ⟨rfl, Below.refl _ _⟩
    · have d1 : decide ((xs.length : Int) < 1) = false := by simp; omega
      have d2 : decide ((6 : Int) < (xs.length : Int)) = true := by simp; omega
      go_wp2_with fail
      go_ret
      exact ⟨rfl, Below.refl _ _⟩
  · have e : centersFault xs = cenFrom xs := by unfold centersFault; rw [if_neg hn]
    rw [e]
    obtain ⟨b, off, rfl, hbl⟩ := Lay.sl_addr h (by omega)
    exact specCen_pos b off cap xs w (by omega) h hbl

end Go.Proofs.Ytjofcmdlcoganaa

namespace Go.Proofs.Ytjofcmdlcoganaa
open Go.RowKit

set_option maxRecDepth 100000 in
set_option maxHeartbeats 2000000 in
theorem specNear_pos (b off cap : Nat) (cs : List DCenter) (a2 : Option Addr) (d2 : Nat) (q : List Int) (w : World) (h : (Lay.sl Lay.tCenter).Reads w [.slice (some ⟨b, off, none⟩) cs.length cap] cs) (hbl : b < w.heap.size) (hq : IsInts w (.slice a2 q.length d2) q) (hc0 : centersFault cs = 0) (hv : vecFault q = 0) :
    Calls Try.prog 65 #[.slice (some ⟨b, off, none⟩) cs.length cap, .slice a2 q.length d2] w fun e w' => e = .returned (.int .i64 (near cs q : Nat)) ∧ Below w.heap.size w w' := by
  obtain ⟨hn, hall⟩ := centersFault_zero hc0
  have HQ := hide hq
  have HA := hide hall
  have HV := hide hv
  have H := hide h
  have HN : Hid (near cs q = (nearK cs q cs.length).1) := rfl
  have H1 : Hid (nearK cs q 1 = (0, score3 cs[0].vec q)) := by
    show nearK cs q 1 = _
    have hs := cscore_bd (hall cs[0] (List.getElem_mem (by omega))) hv
    rw [nearK_step cs q 0 (by omega), if_pos (by simp only [nearK]; omega)]
  clear h hq hall hc0 hv
  go_enter Try.func65, Try.ntmps65
  go_wp2_with fail
  go_loopw [5, 6] (fun a i wr => ∃ k : Nat, 1 ≤ k ∧ k ≤ cs.length ∧ i = .int .i64 k ∧ a = .int .i64 ((nearK cs q k).1 : Nat) ∧ Below w.heap.size w wr) (fun _ i _ => cs.length - (intOf i).toNat)
  case atStart => exact ⟨1, Nat.le_refl _, hn.1, rfl, by rw [unhide H1]; rfl, Below.refl _ _⟩
  case round =>
    obtain ⟨k, hk1, hk, rfl, rfl, hB⟩ := hrel
    clear H1
    by_cases hlt : k < cs.length
    · obtain ⟨row, hc, hr⟩ := Lay.row_at (unhide H) hlt
      obtain ⟨a1, d1, rfl, R1⟩ := open_Center hr
      have c1 : w.cell? ⟨b, off + k, none⟩ = some (.slice a1 (cs[k]).vec.length d1) := cen_cell (hc 0 (by decide))
      have HS := hide (nearK_step cs q k hlt)
      obtain ⟨hm1, hm2, -, -⟩ := nearK_right (unhide HA) (unhide HV) k hk1 hk
      have hm3 : (nearK cs q k).1 < cs.length := by omega
      rw [getD_at hm3] at hm2
      obtain ⟨row2, hc2, hr2⟩ := Lay.row_at (unhide H) hm3
      obtain ⟨a3, d3, rfl, R2⟩ := open_Center hr2
      have c2 : w.cell? ⟨b, off + (nearK cs q k).1, none⟩ = some (.slice a3 (cs[(nearK cs q k).1]).vec.length d3) := cen_cell (hc2 0 (by decide))
      have hvx := unhide HA cs[k] (List.getElem_mem hlt)
      have hvy := unhide HA cs[(nearK cs q k).1] (List.getElem_mem hm3)
      clear hc hr hc2 hr2
      generalize hx : cs[k] = x at *
      clear hx
      generalize hy : cs[(nearK cs q k).1] = y at *
      clear hy
      generalize hs : nearK cs q k = s at *
      clear hs
      obtain ⟨m, sl⟩ := s
      simp only at hm1 hm2 hm3 c2 ⊢
      have HM2 := hide hm2
      have I1 := hide (Lay.ints_reads R1)
      have I2 := hide (Lay.ints_reads R2)
      have HX := hide hvx
      have HY := hide hvy
      have HB := hide hB
      clear R1 R2 hB hvx hvy hm2
      have i1 : (0 : Int) ≤ (k : Int) := by omega
      have i2 : (k : Int) < (cs.length : Int) := by omega
      have i3 : (0 : Int) ≤ (m : Int) := by omega
      have i4 : (m : Int) < (cs.length : Int) := by omega
      go_wp2_with fail
      refine wp_region_noPanic ?_
      refine wp_region_held_drew (S := fun w' => Below w.heap.size w w') (by kernel_rfl) (unhide HB).drew (fun hHeld => ?_)
      generalize wr.drew = wD at hHeld ⊢
      refine wpAnyH_take (i := 0) (oi := { dst := some 13, op := Go.Op.move (Go.Operand.tmp 0), type := 28, pos := "l06_center.go:24", after := #[], guard := none }) (v := ?v0) rfl (by kernel_rfl) (by kernel_rfl) (by kernel_rfl) (fun _ _ _ h => h) (Or.inl ⟨by rfl, ?h0⟩) hHeld ?r0
      case h0 =>
        intro wS hSw
        (try dsimp only at hSw)
        go_simp
        try with_reducible rfl
      case r0 =>
      simp only [Act.put, List.setIfInBounds_toArray, List.set_cons_zero, List.set_cons_succ]
      refine wpAnyH_take (i := 1) (oi := { dst := some 14, op := Go.Op.move (Go.Operand.tmp 6), type := 3, pos := "l06_center.go:24", after := #[], guard := none }) (v := ?v1) rfl (by kernel_rfl) (by kernel_rfl) (by kernel_rfl) (fun _ _ _ h => h) (Or.inl ⟨by rfl, ?h1⟩) hHeld ?r1
      case h1 =>
        intro wS hSw
        (try dsimp only at hSw)
        go_simp
        try with_reducible rfl
      case r1 =>
      simp only [Act.put, List.setIfInBounds_toArray, List.set_cons_zero, List.set_cons_succ]
      refine wpAnyH_take (i := 2) (oi := { dst := some 15, op := Go.Op.indexAddr 28 (Go.Operand.tmp 13) (Go.Operand.tmp 14), type := 0, pos := "l06_center.go:24", after := #[{ on := 0, ground := Go.Ground.data }, { on := 1, ground := Go.Ground.data }], guard := none }) (v := ?v2) rfl (by kernel_rfl) (by kernel_rfl) (by kernel_rfl) (fun _ _ _ h => h) (Or.inl ⟨by rfl, ?h2⟩) hHeld ?r2
      case h2 =>
        intro wS hSw
        (try dsimp only at hSw)
        go_simp
        try with_reducible rfl
      case r2 =>
      simp only [Act.put, List.setIfInBounds_toArray, List.set_cons_zero, List.set_cons_succ]
      refine wpAnyH_take (i := 3) (oi := { dst := some 16, op := Go.Op.fieldAddr 77 (Go.Operand.tmp 15) 0, type := 0, pos := "l06_center.go:24", after := #[{ on := 2, ground := Go.Ground.data }], guard := none }) (v := ?v3) rfl (by kernel_rfl) (by kernel_rfl) (by kernel_rfl) (fun _ _ _ h => h) (Or.inl ⟨by rfl, ?h3⟩) hHeld ?r3
      case h3 =>
        intro wS hSw
        (try dsimp only at hSw)
        go_simp
        try with_reducible rfl
      case r3 =>
      simp only [Act.put, List.setIfInBounds_toArray, List.set_cons_zero, List.set_cons_succ]
      refine wpAnyH_take (i := 4) (oi := { dst := some 17, op := Go.Op.load 25 (Go.Operand.tmp 16), type := 25, pos := "l06_center.go:24", after := #[{ on := 3, ground := Go.Ground.data }], guard := none }) (v := ?v4) rfl (by kernel_rfl) (by kernel_rfl) (by kernel_rfl) (fun _ _ _ h => h) (Or.inl ⟨by rfl, ?h4⟩) hHeld ?r4
      case h4 =>
        intro wS hSw
        have y1 := (hSw.cell (p := ⟨b, off + k, none⟩) hbl).trans c1
        clear hSw
        (try dsimp only at hSw)
        go_simp
        try with_reducible rfl
      case r4 =>
      simp only [Act.put, List.setIfInBounds_toArray, List.set_cons_zero, List.set_cons_succ]
      refine wpAnyH_take (i := 5) (oi := { dst := some 18, op := Go.Op.move (Go.Operand.tmp 1), type := 25, pos := "l06_center.go:24", after := #[], guard := none }) (v := ?v5) rfl (by kernel_rfl) (by kernel_rfl) (by kernel_rfl) (fun _ _ _ h => h) (Or.inl ⟨by rfl, ?h5⟩) hHeld ?r5
      case h5 =>
        intro wS hSw
        (try dsimp only at hSw)
        go_simp
        try with_reducible rfl
      case r5 =>
      simp only [Act.put, List.setIfInBounds_toArray, List.set_cons_zero, List.set_cons_succ]
      refine wpAnyH_take (i := 7) (oi := { dst := some 20, op := Go.Op.move (Go.Operand.tmp 0), type := 28, pos := "l06_center.go:24", after := #[], guard := none }) (v := ?v7) rfl (by kernel_rfl) (by kernel_rfl) (by kernel_rfl) (fun _ _ _ h => h) (Or.inl ⟨by rfl, ?h7⟩) hHeld ?r7
      case h7 =>
        intro wS hSw
        (try dsimp only at hSw)
        go_simp
        try with_reducible rfl
      case r7 =>
      simp only [Act.put, List.setIfInBounds_toArray, List.set_cons_zero, List.set_cons_succ]
      refine wpAnyH_take (i := 8) (oi := { dst := some 21, op := Go.Op.move (Go.Operand.tmp 5), type := 3, pos := "l06_center.go:24", after := #[], guard := none }) (v := ?v8) rfl (by kernel_rfl) (by kernel_rfl) (by kernel_rfl) (fun _ _ _ h => h) (Or.inl ⟨by rfl, ?h8⟩) hHeld ?r8
      case h8 =>
        intro wS hSw
        (try dsimp only at hSw)
        go_simp
        try with_reducible rfl
      case r8 =>
      simp only [Act.put, List.setIfInBounds_toArray, List.set_cons_zero, List.set_cons_succ]
      refine wpAnyH_take (i := 9) (oi := { dst := some 22, op := Go.Op.indexAddr 28 (Go.Operand.tmp 20) (Go.Operand.tmp 21), type := 0, pos := "l06_center.go:24", after := #[{ on := 7, ground := Go.Ground.data }, { on := 8, ground := Go.Ground.data }], guard := none }) (v := ?v9) rfl (by kernel_rfl) (by kernel_rfl) (by kernel_rfl) (fun _ _ _ h => h) (Or.inl ⟨by rfl, ?h9⟩) hHeld ?r9
      case h9 =>
        intro wS hSw
        (try dsimp only at hSw)
        go_simp
        try with_reducible rfl
      case r9 =>
      simp only [Act.put, List.setIfInBounds_toArray, List.set_cons_zero, List.set_cons_succ]
      refine wpAnyH_take (i := 10) (oi := { dst := some 23, op := Go.Op.fieldAddr 77 (Go.Operand.tmp 22) 0, type := 0, pos := "l06_center.go:24", after := #[{ on := 9, ground := Go.Ground.data }], guard := none }) (v := ?v10) rfl (by kernel_rfl) (by kernel_rfl) (by kernel_rfl) (fun _ _ _ h => h) (Or.inl ⟨by rfl, ?h10⟩) hHeld ?r10
      case h10 =>
        intro wS hSw
        (try dsimp only at hSw)
        go_simp
        try with_reducible rfl
      case r10 =>
      simp only [Act.put, List.setIfInBounds_toArray, List.set_cons_zero, List.set_cons_succ]
      refine wpAnyH_take (i := 11) (oi := { dst := some 24, op := Go.Op.load 25 (Go.Operand.tmp 23), type := 25, pos := "l06_center.go:24", after := #[{ on := 10, ground := Go.Ground.data }], guard := none }) (v := ?v11) rfl (by kernel_rfl) (by kernel_rfl) (by kernel_rfl) (fun _ _ _ h => h) (Or.inl ⟨by rfl, ?h11⟩) hHeld ?r11
      case h11 =>
        intro wS hSw
        have y1 := (hSw.cell (p := ⟨b, off + m, none⟩) hbl).trans c2
        clear hSw
        (try dsimp only at hSw)
        go_simp
        try with_reducible rfl
      case r11 =>
      simp only [Act.put, List.setIfInBounds_toArray, List.set_cons_zero, List.set_cons_succ]
      refine wpAnyH_take (i := 12) (oi := { dst := some 25, op := Go.Op.move (Go.Operand.tmp 1), type := 25, pos := "l06_center.go:24", after := #[], guard := none }) (v := ?v12) rfl (by kernel_rfl) (by kernel_rfl) (by kernel_rfl) (fun _ _ _ h => h) (Or.inl ⟨by rfl, ?h12⟩) hHeld ?r12
      case h12 =>
        intro wS hSw
        (try dsimp only at hSw)
        go_simp
        try with_reducible rfl
      case r12 =>
      simp only [Act.put, List.setIfInBounds_toArray, List.set_cons_zero, List.set_cons_succ]
      refine wpAnyH_ready (rs := [6]) (by kernel_rfl) (by simp) ?_
      refine AllReadyH.cons (o := { dst := some 19, op := Go.Op.call { callee := Go.Callee.value (Go.Operand.func 86), args := #[Go.Operand.tmp 17, Go.Operand.tmp 18], argTypes := #[25, 25] }, type := 2, pos := "l06_center.go:24", after := #[{ on := 4, ground := Go.Ground.data }, { on := 5, ground := Go.Ground.data }], guard := none }) rfl (fun K hK => ?_) AllReadyH.nil
      go_simp
      go_at_call 86
      refine (modelScore3 _ _ x.vec q _ ((unhide I1).later hHeld) ((unhide HQ).later hHeld) (unhide HX) (unhide HV)).mono ?_
      rintro e w3 ⟨rfl, hbw⟩
      try go_wp2_with fail
      refine hK.out _ _ (hHeld.trans (hbw.mono hHeld.size)) (fun hHeld => ?_)
      clear hK K
      try simp only [Act.put, List.setIfInBounds_toArray, List.set_cons_zero, List.set_cons_succ]
      refine wpAnyH_ready (rs := [13]) (by kernel_rfl) (by simp) ?_
      refine AllReadyH.cons (o := { dst := some 26, op := Go.Op.call { callee := Go.Callee.value (Go.Operand.func 86), args := #[Go.Operand.tmp 24, Go.Operand.tmp 25], argTypes := #[25, 25] }, type := 2, pos := "l06_center.go:24", after := #[{ on := 11, ground := Go.Ground.data }, { on := 12, ground := Go.Ground.data }, { on := 6, ground := Go.Ground.chain }], guard := none }) rfl (fun K hK => ?_) AllReadyH.nil
      go_simp
      go_at_call 86
      refine (modelScore3 _ _ y.vec q _ ((unhide I2).later hHeld) ((unhide HQ).later hHeld) (unhide HY) (unhide HV)).mono ?_
      rintro e w3 ⟨rfl, hbw⟩
      try go_wp2_with fail
      refine hK.out _ _ (hHeld.trans (hbw.mono hHeld.size)) (fun hHeld => ?_)
      clear hK K
      try simp only [Act.put, List.setIfInBounds_toArray, List.set_cons_zero, List.set_cons_succ]
      refine wpAnyH_take (i := 14) (oi := { dst := some 27, op := Go.Op.binOp Go.BinOp.lss 2 (Go.Operand.tmp 19) (Go.Operand.tmp 26) 2, type := 4, pos := "l06_center.go:24", after := #[{ on := 6, ground := Go.Ground.data }, { on := 13, ground := Go.Ground.data }], guard := none }) (v := ?v14) rfl (by kernel_rfl) (by kernel_rfl) (by kernel_rfl) (fun _ _ _ h => h) (Or.inl ⟨by rfl, ?h14⟩) hHeld ?r14
      case h14 =>
        intro wS hSw
        (try dsimp only at hSw)
        go_simp
        try with_reducible rfl
      case r14 =>
      simp only [Act.put, List.setIfInBounds_toArray, List.set_cons_zero, List.set_cons_succ]
      refine wpAnyH_done (by kernel_rfl) ?_ _
      refine NoPanic.normal ?_
      have HB3 := hide hHeld
      clear hHeld c1 c2 HB I1 I2
      have hS2 := unhide HS
      rw [unhide HM2] at hS2
      have HS2 := hide hS2
      clear hS2 HS
      cases hd : decide (score3 x.vec q < score3 y.vec q) with
      | true =>
        have HS3 : Hid (nearK cs q (k + 1) = (k, score3 x.vec q)) := (unhide HS2).trans (if_pos (by simpa using hd))
        clear HS2
        go_wp2_with fail
        go_roundw
        case rel => exact ⟨k + 1, by omega, by omega, by go_num, by rw [unhide HS3], unhide HB3⟩
        case measure => simp [intOf]; omega
      | false =>
        have HS3 : Hid (nearK cs q (k + 1) = (m, score3 y.vec q)) := (unhide HS2).trans (if_neg (by simpa using hd))
        clear HS2
        go_wp2_with fail
        go_roundw
        case rel => exact ⟨k + 1, by omega, by omega, by go_num, by rw [unhide HS3], unhide HB3⟩
        case measure => simp [intOf]; omega
    · obtain rfl : k = cs.length := by omega
      have HB := hide hB
      clear hB H
      go_wp2_with fail
      go_ret
      exact ⟨rfl, unhide HB⟩

theorem specNear (v : Value) (cs : List DCenter) (vq : Value) (q : List Int) (w : World) (h : (Lay.sl Lay.tCenter).Reads w [v] cs) (hq : IsInts w vq q) (hc : centersFault cs = 0) (hv : vecFault q = 0) :
    Calls Try.prog 65 #[v, vq] w fun e w' => e = .returned (.int .i64 (near cs q : Nat)) ∧ Below w.heap.size w w' := by
  obtain ⟨ao, cap, rfl⟩ := open_sl h
  have hvq : ∃ a d, vq = .slice a q.length d := by obtain ⟨a, d, e, -⟩ := hq; exact ⟨a, d, e⟩
  obtain ⟨a2, d2, rfl⟩ := hvq
  obtain ⟨b, off, rfl, hbl⟩ := Lay.sl_addr h (centersFault_zero hc).1.1
  exact specNear_pos b off cap cs a2 d2 q w h hbl hq hc hv

end Go.Proofs.Ytjofcmdlcoganaa

namespace Go.Proofs.Ytjofcmdlcoganaa
open Go.RowKit

theorem modelMean_n (ao : Option Addr) (len cap : Nat) (n : Int) (w : World) (h : n < 1 ∨ 1000 < n) :
    Calls Try.prog 96 #[.slice ao len cap, .int .i64 n] w fun e w' => e = .returned (intsRes 3 (.slice none 0 0)) ∧ Below w.heap.size w w' := by
  by_cases h1 : n < 1
  · clear h
    go_enter Try.func96, Try.ntmps96
    go_wp2
    refine bodyPost_ret (v := intsRes 3 (.slice none 0 0)) (by simp [results, Try.results96, go_sem, intsRes]) rfl ⟨rfl, ?_⟩
    exact (Below.refl _ _).alloc (Nat.le_refl _) _
  · have h2 : 1000 < n := by omega
    have hd : decide (n ≤ 1000) = false := by simp; omega
    clear h
    go_enter Try.func96, Try.ntmps96
    go_wp2
    refine bodyPost_ret (v := intsRes 3 (.slice none 0 0)) (by simp [results, Try.results96, go_sem, intsRes]) rfl ⟨rfl, ?_⟩
    exact (Below.refl _ _).alloc (Nat.le_refl _) _

theorem modelMean_len (ao : Option Addr) (len cap : Nat) (n : Int) (w : World) (h1 : 1 ≤ n) (h2 : n ≤ 1000) (hl : len ≠ 3) :
    Calls Try.prog 96 #[.slice ao len cap, .int .i64 n] w fun e w' => e = .returned (intsRes 1 (.slice none 0 0)) ∧ Below w.heap.size w w' := by
  have hd : decide (n ≤ 1000) = true := by simp; omega
  have h3 : ((len : Int) != 3) = true := by rw [bne_iff_ne]; omega
  go_enter Try.func96, Try.ntmps96
  go_wp2
  refine bodyPost_ret (v := intsRes 1 (.slice none 0 0)) (by simp [results, Try.results96, go_sem, intsRes]) rfl ⟨rfl, ?_⟩
  exact (Below.refl _ _).alloc (Nat.le_refl _) _

set_option maxHeartbeats 400000 in
theorem modelMean_bad (b off cap : Nat) (zs : List Int) (n : Int) (w : World) (hbl : b < w.heap.size) (h1 : 1 ≤ n) (h2 : n ≤ 1000) (h : zs.length = 3) (hf : meanFault zs n ≠ 0) (hc : ∀ j, j < 3 → w.cell? ⟨b, off + j, none⟩ = some (.int .i64 (zs.getD j 0))) :
    Calls Try.prog 96 #[.slice (some ⟨b, off, none⟩) 3 cap, .int .i64 n] w fun e w' => e = .returned (intsRes 3 (.slice none 0 0)) ∧ Below w.heap.size w w' := by
  have hd : decide (n ≤ 1000) = true := by simp; omega
  have HF := hide hf
  clear hf
  go_enter Try.func96, Try.ntmps96
  go_wp2
  go_loop [5] (fun i => ∃ k : Nat, k ≤ 3 ∧ i = .int .i64 k ∧ ∀ j, j < k → sumB n (zs.getD j 0) = true) (fun i => 3 - (intOf i).toNat)
  case atStart => exact ⟨0, Nat.zero_le _, rfl, fun j hj => by omega⟩
  case round =>
    obtain ⟨k, hk, rfl, hg⟩ := hrel
    have HG := hide hg
    have HL := hide h
    clear hg h
    by_cases hlt : k < 3
    · have hcx : w.cell? ⟨b, off + k, none⟩ = some (.int .i64 (zs.getD k 0)) := hc k hlt
      obtain ⟨z, hz⟩ : ∃ z, z = zs.getD k 0 := ⟨_, rfl⟩
      rw [← hz] at hcx
      have HZ := hide hz
      clear hz hc
      cases hp : sumB n z with
      | true =>
        obtain ⟨hb1, hb2⟩ := sumB_true hp
        have hd2 : decide (z ≤ 1000 * n) = true := by simp; omega
        have HP := hide hp
        clear hp
        go_wp2
        go_round
        case rel =>
          refine ⟨k + 1, by omega, by go_num, fun j hj => ?_⟩
          by_cases hjk : j < k
          · exact unhide HG j hjk
          · rw [show j = k by omega, ← unhide HZ]; exact unhide HP
        case measure => simp [intOf]; omega
      | false =>
        have hb := sumB_false hp
        clear hp
        rcases hb with hb | hb
        · go_wp2
          refine bodyPost_ret (v := intsRes 3 (.slice none 0 0)) (by simp [results, Try.results96, go_sem, intsRes]) rfl ⟨rfl, ?_⟩
          exact (Below.refl _ _).alloc (Nat.le_refl _) _
        · have hb1 : -1000 * n ≤ z := by omega
          have hd2 : decide (z ≤ 1000 * n) = false := by simp; omega
          go_wp2
          refine bodyPost_ret (v := intsRes 3 (.slice none 0 0)) (by simp [results, Try.results96, go_sem, intsRes]) rfl ⟨rfl, ?_⟩
          exact (Below.refl _ _).alloc (Nat.le_refl _) _
    · exact absurd (meanFault_ok h1 h2 (unhide HL) (fun j hj => unhide HG j (by omega))) (unhide HF)

/-- What one round leaves: an appended slice is stored into the second cell of block B + 1. -/
theorem append_round {wr W' w1 W0 : World} {r v : Value} {B k T : Nat} {xs ys : List Value} {c : Value} (hal : Below wr.heap.size wr W') (hown : wr.ownsRow (B + 2) T 1 r k xs) (hgrow : W'.grownBy w1 r.ownBlock)
    (q0 : wr.cell? ⟨B + 1, 0, none⟩ = some c) (q1 : wr.cell? ⟨B + 1, 1, none⟩ = some r) (q2 : ∀ o, wr.frozen? ⟨B + 1, o, none⟩ = false) (hsz : B + 2 ≤ wr.heap.size) (hown1 : w1.ownsRow (B + 2) T 1 v (k + 1) ys) (hB : Below (B + 1) W0 wr) :
    (w1.setCell ⟨B + 1, 1, none⟩ v).cell? ⟨B + 1, 0, none⟩ = some c ∧ (w1.setCell ⟨B + 1, 1, none⟩ v).cell? ⟨B + 1, 1, none⟩ = some v ∧ (∀ o, (w1.setCell ⟨B + 1, 1, none⟩ v).frozen? ⟨B + 1, o, none⟩ = false) ∧
      (w1.setCell ⟨B + 1, 1, none⟩ v).ownsRow (B + 2) T 1 v (k + 1) ys ∧ B + 2 ≤ (w1.setCell ⟨B + 1, 1, none⟩ v).heap.size ∧ Below (B + 1) W0 (w1.setCell ⟨B + 1, 1, none⟩ v) := by
  have hl1 : some (B + 1) ≠ r.ownBlock := fun e => by have := (hown.lt _ e.symm).1; omega
  have s1 := hal.size
  have s2 := hgrow.size
  have f : ∀ o, w1.cell? ⟨B + 1, o, none⟩ = wr.cell? ⟨B + 1, o, none⟩ := fun o => (hgrow.cell_far ⟨B + 1, o, none⟩ (by simp; omega) hl1).trans (hal.cell (p := ⟨B + 1, o, none⟩) (by simp; omega))
  have g : ∀ o, w1.frozen? ⟨B + 1, o, none⟩ = false := fun o => ((hgrow.frozen_far ⟨B + 1, o, none⟩ (by simp; omega) hl1).trans (hal.frozen (p := ⟨B + 1, o, none⟩) (by simp; omega))).trans (q2 o)
  refine ⟨?_, ?_, fun o => ?_, ownsRow_setCell_below hown1 (by simp) _, ?_, ?_⟩
  · have e : (w1.setCell ⟨B + 1, 1, none⟩ v).cell? ⟨B + 1, 0, none⟩ = w1.cell? ⟨B + 1, 0, none⟩ := by apply World.cell?_setCell_other; simp
    rw [e, f 0, q0]
  · exact World.cell?_setCell_same _ _ _ ((f 1).trans q1)
  · simpa [go_sem] using g o
  · simp; omega
  · have h1 : Below (B + 1) W0 W' := hB.trans (hal.mono (by omega))
    exact (h1.grown hgrow (by omega) (fun k hk => by have := (hown.lt _ hk).1; omega)).setCell (by simp) _

theorem means_step (x y z n : Int) (k : Nat) (hk : k < 3) : ([mean x n, mean y n, mean z n].take (k + 1)).map (Value.int .i64) = ([mean x n, mean y n, mean z n].take k).map (Value.int .i64) ++ [.int .i64 (mean ([x, y, z].getD k 0) n)] := by
  rcases (show k = 0 ∨ k = 1 ∨ k = 2 by omega) with rfl | rfl | rfl <;> rfl

set_option maxRecDepth 100000 in
set_option maxHeartbeats 3200000 in
theorem modelMean_three (b off cap : Nat) (x y z n : Int) (w : World) (hbl : b < w.heap.size) (hc : ∀ j, j < 3 → w.cell? ⟨b, off + j, none⟩ = some (.int .i64 ([x, y, z].getD j 0)))
    (h1 : 1 ≤ n) (h2 : n ≤ 1000) (hb : ∀ j, j < 3 → -1000 * n ≤ [x, y, z].getD j 0 ∧ [x, y, z].getD j 0 ≤ 1000 * n) :
    Calls Try.prog 96 #[.slice (some ⟨b, off, none⟩) 3 cap, .int .i64 n] w fun e w' => ∃ v, e = .returned (intsRes 0 v) ∧
      w'.ownsRow w.heap.size 2 1 v 3 ([mean x n, mean y n, mean z n].map (Value.int .i64)) ∧ Below w.heap.size w w' := by
  obtain ⟨i0, hi0, hz0, hz1, hz2⟩ := info_parts info2
  have hd : decide (n ≤ 1000) = true := by simp; omega
  go_enter Try.func96, Try.ntmps96
  go_wp2
  go_loop [5] (fun i => ∃ k : Nat, k ≤ 3 ∧ i = .int .i64 k) (fun i => 3 - (intOf i).toNat)
  case atStart => exact ⟨0, Nat.zero_le _, rfl⟩
  case round =>
    obtain ⟨k, hk, rfl⟩ := hrel
    by_cases hlt : k < 3
    · have hcx : w.cell? ⟨b, off + k, none⟩ = some (.int .i64 ([x, y, z].getD k 0)) := hc k hlt
      obtain ⟨hb1, hb2⟩ := hb k hlt
      generalize [x, y, z].getD k 0 = s at *
      have hd2 : decide (s ≤ 1000 * n) = true := by simp; omega
      clear hc hb
      go_wp2
      go_round
      case rel => exact ⟨k + 1, by omega, by go_num⟩
      case measure => simp [intOf]; omega
    · obtain rfl : k = 3 := by omega
      go_wp2
      have hB0 : Below (w.heap.size + 1) ((w.alloc (.cells #[.int .i64 0, .slice none 0 0] 37)).alloc (.cells #[.int .i64 0, .slice none 0 0] 37)) ((w.alloc (.cells #[.int .i64 0, .slice none 0 0] 37)).alloc (.cells #[.int .i64 0, .slice none 0 0] 37)) := Below.refl _ _
      go_loopw [7] (fun i wr => ∃ (k : Nat) (r : Value), k ≤ 3 ∧ i = .int .i64 k ∧ wr.cell? ⟨w.heap.size + 1, 0, none⟩ = some (.int .i64 0) ∧ wr.cell? ⟨w.heap.size + 1, 1, none⟩ = some r ∧ (∀ o, wr.frozen? ⟨w.heap.size + 1, o, none⟩ = false) ∧
          wr.ownsRow (w.heap.size + 2) 2 1 r k (([mean x n, mean y n, mean z n].take k).map (Value.int .i64)) ∧ w.heap.size + 2 ≤ wr.heap.size ∧
          Below (w.heap.size + 1) ((w.alloc (.cells #[.int .i64 0, .slice none 0 0] 37)).alloc (.cells #[.int .i64 0, .slice none 0 0] 37)) wr)
        (fun i _ => 3 - (intOf i).toNat)
      case atStart => exact ⟨0, _, Nat.zero_le _, rfl, by simp [go_sem], by simp [go_sem], fun o => by simp [go_sem], World.ownsRow_nil _ _ _ _, by simp, hB0⟩
      case round =>
        obtain ⟨k, r, hk, rfl, q0, q1, q2, hown, hsz, hB⟩ := hrel
        clear hB0
        by_cases hlt : k < 3
        · obtain ⟨hb1, hb2⟩ := hb k hlt
          have hcx : wr.cell? ⟨b, off + k, none⟩ = some (.int .i64 ([x, y, z].getD k 0)) := by
            rw [hB.cell (by simp; omega)]
            have := hc k hlt
            simp [go_sem, hbl, this, show b < w.heap.size + 1 by omega]
          have HM := hide (means_step x y z n k hlt)
          have hl1 : r.ownBlock ≠ some (w.heap.size + 1) := fun e => by have := (hown.lt _ e).1; omega
          have hl2 : r.ownBlock ≠ some b := fun e => by have := (hown.lt _ e).1; omega
          have hk0 : (0 : Int) ≤ (k : Int) := Int.natCast_nonneg _
          have hk1 : (k : Int) < 3 := by omega
          have hlb : b < wr.heap.size := by omega
          have hlw : w.heap.size + 1 < wr.heap.size := by omega
          have q3 := q2 1
          have q4 : ∀ o : Obj, (wr.alloc o).frozen? ⟨w.heap.size + 1, 1, none⟩ = false := fun o => by rw [World.frozen?_of_block (Below.heap_alloc wr o (w.heap.size + 1) hlw)]; exact q3
          have q5 : ∀ o : Obj, (wr.alloc o).drew.frozen? ⟨w.heap.size + 1, 1, none⟩ = false := fun o => q4 o
          generalize [x, y, z].getD k 0 = s at *
          clear hc hb hi0 hz0 hz1 hz2
          obtain ⟨i0, hi0, hz0, hz1, hz2⟩ := info_parts info2
          have HB := hide hB
          clear hB
          go_wp2
          go_region_law (first
              | (go_simp; go_at_call 99; refine (modelRound s n _ h1 h2 hb1 hb2).mono ?_; rintro e w2 ⟨rfl, rfl⟩)
              | ((refine step_append_lies _ (by rfl) _ _ _ (by rfl) (w.heap.size + 2) 2 i0 _ 1 8 Try.underlying25 hi0 hz0 hz1 hz2 rfl (by omega) r k _ (by rfl) (by first | exact (hown.alloc _) | exact (hown.alloc _).drew | exact (hown.alloc _).drew.drew) ⟨wr.heap.size, 0, none⟩ 1 1 [.int .i64 (mean s n)] (by rfl) (by rfl) (World.news_of_block (cs := #[.int .i64 (mean s n)]) (t := 2) (fr := (0, 0)) (heap_alloc_new wr _)) (by simp [Value.oneCell']) (by omega) (by unfold maxLen; omega) (by omega) (by simp; omega) (wr.heap.size + 1) (by simp) ?_; intro gg cap2 w1 hown1 hgrow hat hlt2; have g0 := hgrow.cell_far ⟨w.heap.size + 1, 1, none⟩ (by simp; omega) (Ne.symm hl1); have g1 := hgrow.frozen_far ⟨w.heap.size + 1, 1, none⟩ (by simp; omega) (Ne.symm hl1))))
          all_goals
            have R := append_round (W0 := (w.alloc (.cells #[.int .i64 0, .slice none 0 0] 37)).alloc (.cells #[.int .i64 0, .slice none 0 0] 37)) (by first | exact ((Below.refl _ _).alloc (Nat.le_refl _) _) | exact ((Below.refl _ _).alloc (Nat.le_refl _) _).drew | exact ((Below.refl _ _).alloc (Nat.le_refl _) _).drew.drew) hown hgrow q0 q1 q2 hsz hown1 (unhide HB)
            have HR := hide R
            clear R hown hgrow q0 q1 q2 q3 q4 q5 hown1 hcx
            go_wp2
            go_roundw
            case rel => exact ⟨k + 1, _, by omega, by go_num, (unhide HR).1, (unhide HR).2.1, (unhide HR).2.2.1, by rw [unhide HM]; exact (unhide HR).2.2.2.1, (unhide HR).2.2.2.2.1, (unhide HR).2.2.2.2.2⟩
            case measure => simp [intOf]; omega
        · obtain rfl : k = 3 := by omega
          have z0 : wr.cell? ⟨w.heap.size, 0, none⟩ = some (.int .i64 0) := (hB.cell (p := ⟨w.heap.size, 0, none⟩) (by simp)).trans (by simp [go_sem])
          have z1 : wr.cell? ⟨w.heap.size, 1, none⟩ = some (.slice none 0 0) := (hB.cell (p := ⟨w.heap.size, 1, none⟩) (by simp)).trans (by simp [go_sem])
          have z2 : ∀ o, wr.frozen? ⟨w.heap.size, o, none⟩ = false := fun o => (hB.frozen (p := ⟨w.heap.size, o, none⟩) (by simp)).trans (by simp [go_sem])
          obtain ⟨g, cp, hr⟩ : ∃ g cp, r = .slice (some ⟨g, 0, none⟩) 3 cp := by
            rcases hown.2 with ⟨_, h0⟩ | ⟨g, cp, cur, h, _⟩
            · omega
            · exact ⟨g, cp, h⟩
          subst hr
          have hz3 : w.heap.size < wr.heap.size := by omega
          have HO := hide hown
          have HB := hide hB
          clear hown hB hc hb hi0 hz0 hz1 hz2
          go_wp2
          refine bodyPost_ret (v := intsRes 0 (.slice (some ⟨g, 0, none⟩) 3 cp)) (by simp [results, Try.results96, go_sem, intsRes, z0, z1]) rfl ⟨_, rfl, ?_, ?_⟩
          · exact ownsRow_setCell_below (ownsRow_setCell_below (unhide HO) (by simp) _) (by simp) _ |> own_mono (by omega)
          · exact (((((Below.refl w.heap.size w).alloc (Nat.le_refl _) _).alloc (by simp) _).trans ((unhide HB).mono (by omega))).setCell (by simp) _).setCell (by simp) _

/-- MeanOf of the model. -/
theorem modelMean (v : Value) (zs : List Int) (n : Int) (w : World) (h : IsInts w v zs) :
    Calls Try.prog 96 #[v, .int .i64 n] w fun e w' => ∃ r, e = .returned (intsRes (meanFault zs n) r) ∧
      w'.ownsRow w.heap.size 2 1 r (meanList zs n).length ((meanList zs n).map (Value.int .i64)) ∧ Below w.heap.size w w' := by
  have empty : ∀ e w', e = Ending.returned (intsRes (meanFault zs n) (.slice none 0 0)) ∧ Below w.heap.size w w' → meanFault zs n ≠ 0 →
      ∃ r, e = .returned (intsRes (meanFault zs n) r) ∧ w'.ownsRow w.heap.size 2 1 r (meanList zs n).length ((meanList zs n).map (Value.int .i64)) ∧ Below w.heap.size w w' := by
    rintro e w' ⟨rfl, hb⟩ hf
    have e : meanList zs n = [] := by simp [meanList, hf]
    rw [e]
    exact ⟨_, rfl, World.ownsRow_nil _ _ _ _, hb⟩
  have h' := h
  obtain ⟨ao, cap, rfl, hwf, hc⟩ := h'
  by_cases hn : n < 1 ∨ 1000 < n
  · have hf : meanFault zs n = 3 := meanFault_n hn
    rw [hf] at empty ⊢
    exact (modelMean_n ao zs.length cap n w hn).mono fun e w' hh => empty e w' hh (by decide)
  · by_cases h3 : zs.length = 3
    · obtain ⟨b, off, rfl, hc1⟩ := hc (by omega)
      have hbl : b < w.heap.size := World.block_lt_of_cell? _ _ (hc1 0 (by omega))
      by_cases hf : meanFault zs n = 0
      · obtain ⟨⟨h1, h2⟩, x, y, z, rfl, hx, hy, hz⟩ := meanFault_zero hf
        have e : meanList [x, y, z] n = [mean x n, mean y n, mean z n] := by simp [meanList, hf]
        rw [e, hf]
        refine modelMean_three b off cap x y z n w hbl (fun j hj => hc1 j hj) h1 h2 (fun j hj => ?_)
        rcases (show j = 0 ∨ j = 1 ∨ j = 2 by omega) with rfl | rfl | rfl
        · exact hx
        · exact hy
        · exact hz
      · have e3 : meanFault zs n = 3 := by
          have h0 : ¬ (n < 1 ∨ 1000 < n) := hn
          unfold meanFault at hf ⊢
          simp only [h0, h3, if_true, if_false] at hf ⊢
          split at hf <;> simp_all
        have hf' := hf
        rw [e3] at empty ⊢
        rw [h3] at hc1 ⊢
        exact (modelMean_bad b off cap zs n w hbl (by omega) (by omega) h3 hf hc1).mono fun e w' hh => empty e w' hh (by decide)
    · have hf : meanFault zs n = 1 := meanFault_len (by omega) (by omega) h3
      rw [hf] at empty ⊢
      exact (modelMean_len ao zs.length cap n w (by omega) (by omega) h3).mono fun e w' hh => empty e w' hh (by decide)

end Go.Proofs.Ytjofcmdlcoganaa
