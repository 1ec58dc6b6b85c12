/-
  Texts of this proof in one: SpecTrain, ImplAsk6, ImplCostOf, SpecAsk6, SpecCostOf, ImplMoveOf, Ints, ImplAssign, ImplNearest, OwnCentersResult.
  Their conditions stand in their theorems.
-/
import Derived.Test.YtjofcmdlcoganaaTq07
import Derived.Test.YtjofcmdlcoganaaTq05
import Derived.Test.YtjofcmdlcoganaaTq08
import Derived.Test.YtjofcmdlcoganaaTq04
import Derived.Test.YtjofcmdlcoganaaTq06
import Derived.Test.YtjofcmdlcoganaaChecked
import Derived.Test.YtjofcmdlcoganaaTq01
import Derived.Test.YtjofcmdlcoganaaTq02
import Derived.BigQuiet
import Derived.Deep.QuietTactic
import Derived.WalkSmall

namespace Go.Proofs.Ytjofcmdlcoganaa
open Go.RowKit

theorem trainR_code {xs : List DItem} {ss : List Int} {r c : Int} (h : trainFault xs ss r = c) (hc : c ≠ 0) : trainR xs ss r = ⟨c, []⟩ := by rw [trainR, h, if_neg hc]

set_option maxRecDepth 100000 in
set_option maxHeartbeats 4000000 in
theorem specTrain (vx : Value) (xs : List DItem) (vs : Value) (ss : List Int) (r : Int) (w : World) (h : (Lay.sl Lay.tItem).Reads w [vx] xs) (hs : (Lay.sl Lay.int).Reads w [vs] ss) :
    Calls Try.prog 13 #[vx, vs, .int .i64 r] w fun e w' => ∃ cs', e = .returned (.agg cs'.toArray) ∧ Lay.tCentersResult.Reads w' cs' (trainR xs ss r) ∧ Below w.heap.size w w' := by
  have HB0 : Below w.heap.size w (w.alloc (.cells #[.int .i64 0, .slice none 0 0] 30)) := (Below.refl _ _).alloc (Nat.le_refl _) _
  have bR : Box w.heap.size #[.int .i64 0, .slice none 0 0] 30 (w.alloc (.cells #[.int .i64 0, .slice none 0 0] 30)) w.heap.size := newBox (Nat.le_refl _)
  have hx1 := h.later HB0
  have hs1 := Lay.ints_reads (hs.later HB0)
  have hbig := hs.big
  obtain ⟨ao, cap, rfl⟩ := open_sl h
  obtain ⟨ao2, cap2, rfl⟩ := open_sl hs
  clear h hs
  go_enter Try.func13, Try.ntmps13
  go_wp2_with fail
  generalize w.alloc (.cells #[.int .i64 0, .slice none 0 0] 30) = W0 at *
  refine (specTab _ xs W0 hx1).mono ?_
  rintro e w1 ⟨rfl, hb⟩
  have HX := hide (hx1.later hb)
  have HI := hide (hs1.later hb)
  replace bR := bR.keep hb
  replace HB0 := HB0.trans (hb.mono HB0.size)
  have hw1 := bR.lt
  have HB := hide HB0
  have HR := hide bR
  clear hb HB0 bR hx1 hs1
  by_cases hf : tableFault xs = 0
  · rw [hf]
    by_cases h0 : xs.length = 0
    · have HG := hide (trainR_code (trainFault_none hf h0 ss r) (by decide))
      have hd : ((xs.length : Int) == 0) = true := by rw [beq_iff_eq]; omega
      clear hf h0
      have bR := unhide HR
      have z0 : w1.cell? ⟨w.heap.size, 0, none⟩ = some (.int .i64 0) := bR.at 0 _ rfl
      have z1 : w1.cell? ⟨w.heap.size, 1, none⟩ = some (.slice none 0 0) := bR.at 1 _ rfl
      have f0 := bR.soft 0
      have f1 := bR.soft 1
      have l0 := bR.lt
      clear bR
      go_wp2_with fail
      refine bodyPost_ret (v := .agg #[.int .i64 4, .slice none 0 0]) (by simp [results, Try.results13, go_sem, z0, z1]) rfl ?_
      rw [unhide HG]
      exact ⟨[.int .i64 4, .slice none 0 0], rfl, (own_codeCens (lo := 0) (hi := 0) (by decide)).reads, ((unhide HB).setCell (by simp) _).setCell (by simp) _⟩
    · have hd : ((xs.length : Int) == 0) = false := by rw [beq_eq_false_iff_ne]; omega
      have HF := hide hf
      have H0 := hide h0
      clear hf
      by_cases hm : ss.length < 1 ∨ 6 < ss.length
      · have HG := hide (trainR_code (trainFault_many (unhide HF) (unhide H0) hm r) (by decide))
        by_cases hm1 : ss.length < 1
        · have d1 : decide ((ss.length : Int) < 1) = true := by simp; omega
          clear hm hm1 h0
          have bR := unhide HR
          have z0 : w1.cell? ⟨w.heap.size, 0, none⟩ = some (.int .i64 0) := bR.at 0 _ rfl
          have z1 : w1.cell? ⟨w.heap.size, 1, none⟩ = some (.slice none 0 0) := bR.at 1 _ rfl
          have f0 := bR.soft 0
          have f1 := bR.soft 1
          have l0 := bR.lt
          clear bR
          go_wp2_with fail
          refine bodyPost_ret (v := .agg #[.int .i64 2, .slice none 0 0]) (by simp [results, Try.results13, go_sem, z0, z1]) rfl ?_
          rw [unhide HG]
          exact ⟨[.int .i64 2, .slice none 0 0], rfl, (own_codeCens (lo := 0) (hi := 0) (by decide)).reads, ((unhide HB).setCell (by simp) _).setCell (by simp) _⟩
        · have d1 : decide ((ss.length : Int) < 1) = false := by simp; omega
          have d2 : decide ((6 : Int) < (ss.length : Int)) = true := by simp; omega
          clear hm hm1 h0
          have bR := unhide HR
          have z0 : w1.cell? ⟨w.heap.size, 0, none⟩ = some (.int .i64 0) := bR.at 0 _ rfl
          have z1 : w1.cell? ⟨w.heap.size, 1, none⟩ = some (.slice none 0 0) := bR.at 1 _ rfl
          have f0 := bR.soft 0
          have f1 := bR.soft 1
          have l0 := bR.lt
          clear bR
          go_wp2_with fail
          refine bodyPost_ret (v := .agg #[.int .i64 2, .slice none 0 0]) (by simp [results, Try.results13, go_sem, z0, z1]) rfl ?_
          rw [unhide HG]
          exact ⟨[.int .i64 2, .slice none 0 0], rfl, (own_codeCens (lo := 0) (hi := 0) (by decide)).reads, ((unhide HB).setCell (by simp) _).setCell (by simp) _⟩
      · have d1 : decide ((ss.length : Int) < 1) = false := by simp; omega
        have d2 : decide ((6 : Int) < (ss.length : Int)) = false := by simp; omega
        have HM := hide hm
        have hn : 1 ≤ ss.length ∧ ss.length ≤ 6 := by omega
        obtain ⟨b2, off2, rfl⟩ := ints_addr (unhide HI) (by omega)
        obtain ⟨b, off, rfl, hbl⟩ := Lay.sl_addr (unhide HX) (by omega)
        have hbl2 : b2 < w1.heap.size := World.block_lt_of_cell? _ _ (ints_cell (unhide HI) 0 (by omega))
        have HXV : Hid (∀ x ∈ xs, vecFault x.vec = 0) := fun x hm => ((tableFault_zero (unhide HF)).2.1 x hm).2
        have hlen := (tableFault_zero (unhide HF)).1
        have HB8 : Hid (Below w1.heap.size w1 (w1.alloc (.cells #[] 77))) := (Below.refl _ _).alloc (Nat.le_refl _) _
        have O : (w1.alloc (.cells #[] 77)).ownsRow w1.heap.size 77 1 (.slice (some ⟨w1.heap.size, 0, none⟩) 0 0) 0 [] := World.ownsRow_lit w1 _ 0 (Nat.le_refl _) (by unfold maxLen; omega) rfl
        have HG0 := hide (Grow.nil (A := Lay.tCenter) O)
        clear O hm h0
        go_wp2_with fail
        go_loopw [8, 9] (fun u i wr => ∃ (k : Nat) (rows : List (List Value)) (bls : List (List Nat)), k ≤ ss.length ∧ i = .int .i64 k ∧ (ss.drop k).all seedB = ss.all seedB ∧ Grow Lay.tCenter wr w1.heap.size 77 u rows ((seedCs xs ss).take k) bls ∧ (∀ b ∈ bls.flatten, w1.heap.size ≤ b) ∧ Below w1.heap.size w1 wr) (fun _ i _ => ss.length - (intOf i).toNat)
        case atStart => exact ⟨0, [], [], Nat.zero_le _, rfl, rfl, unhide HG0, by simp, unhide HB8⟩
        case round =>
          obtain ⟨k, rows, bls, hk, rfl, hall, hG, hin, hB⟩ := hrel
          clear HG0 HB8
          by_cases hlt : k < ss.length
          · have c2 : wr.cell? ⟨b2, off2 + k, none⟩ = some (.int .i64 ss[k]) := (hB.cell (p := ⟨b2, off2 + k, none⟩) hbl2).trans (ints_cell (unhide HI) k hlt)
            rw [all_step ss k hlt] at hall
            have HT := hide (seedCs_take xs ss k hlt)
            have HLn : Hid (((seedCs xs ss).take k).length = k) := by show ((seedCs xs ss).take k).length = k; rw [List.length_take, seedCs_len]; omega
            generalize hz : ss[k] = z at *
            clear hz
            have HG1 := hide hG
            have HBr := hide hB
            have HIN := hide hin
            have HALL := hide hall
            clear hG hB hin hall
            go_wp2_with fail
            refine (inC z 0 9999 _).mono ?_
            rintro e wr ⟨rfl, rfl⟩
            rw [show (decide (0 ≤ z) && decide (z ≤ 9999)) = seedB z from rfl]
            cases hsb : seedB z with
            | false =>
              have ha : ss.all seedB = false := by rw [← unhide HALL, hsb]; rfl
              have HG := hide (trainR_code (trainFault_bad (r := r) (unhide HF) (unhide H0) (unhide HM) ha) (by decide))
              replace HR := hide ((unhide HR).keep (unhide HBr))
              have HB9 := hide ((unhide HB).trans ((unhide HBr).mono (unhide HB).size))
              clear HG1 HBr HIN HALL hsb ha
              have bR := unhide HR
              have z0 : wr.cell? ⟨w.heap.size, 0, none⟩ = some (.int .i64 0) := bR.at 0 _ rfl
              have z1 : wr.cell? ⟨w.heap.size, 1, none⟩ = some (.slice none 0 0) := bR.at 1 _ rfl
              have f0 := bR.soft 0
              have f1 := bR.soft 1
              have l0 := bR.lt
              clear bR
              go_wp2_with fail
              refine bodyPost_ret (v := .agg #[.int .i64 3, .slice none 0 0]) (by simp [results, Try.results13, go_sem, z0, z1]) rfl ?_
              rw [unhide HG]
              exact ⟨[.int .i64 3, .slice none 0 0], rfl, (own_codeCens (lo := 0) (hi := 0) (by decide)).reads, ((unhide HB9).setCell (by simp) _).setCell (by simp) _⟩
            | true =>
              have hzb : 0 ≤ z ∧ z ≤ 9999 := by simpa [seedB] using hsb
              have HALL2 : Hid ((ss.drop (k + 1)).all seedB = ss.all seedB) := by
                have := unhide HALL
                rw [hsb, Bool.true_and] at this
                exact this
              have hml : z.toNat % xs.length < xs.length := Nat.mod_lt _ (by have := unhide H0; omega)
              have hrem := seed_rem z xs.length hzb.1
              have HT2 : Hid ((seedCs xs ss).take (k + 1) = (seedCs xs ss).take k ++ [⟨(xs[z.toNat % xs.length]).vec⟩]) := by
                show (seedCs xs ss).take (k + 1) = _
                rw [unhide HT, seedC, getD_at hml]
              obtain ⟨row, hc, hr⟩ := Lay.row_at (unhide HX) hml
              obtain ⟨a1, d9, rfl, R1⟩ := open_Item hr
              have hvx := unhide HXV xs[z.toNat % xs.length] (List.getElem_mem hml)
              have c1 : wr.cell? ⟨b, off + (z.toNat % xs.length) * 2 + 1, none⟩ = some (.slice a1 (xs[z.toNat % xs.length]).vec.length d9) := ((unhide HBr).cell (p := ⟨b, off + (z.toNat % xs.length) * 2 + 1, none⟩) hbl).trans (hc 1 (by decide))
              clear hc hr HT hsb HALL
              generalize hx : xs[z.toNat % xs.length] = x at *
              clear hx
              generalize z.toNat % xs.length = m at *
              have hl3 := (vecFault_zero hvx).1
              have L := hide (l1Ints _ x.vec wr ((Lay.ints_reads R1).later (unhide HBr)) (by omega))
              have HWF := hide (ints_wf (Lay.ints_reads R1))
              have HL3 := hide hl3
              have hne2 : ¬ (xs.length : Int) = 0 := by have := unhide H0; omega
              clear R1 hvx hl3
              go_wp2_with fail
              refine (unhide L).mono ?_
              rintro e w4 ⟨v4, rfl, ho4, hb4⟩
              have O4 := Lay.ownInts (unhide HWF) (by have := unhide HL3; omega) ho4
              have hG4 := (unhide HG1).later hb4
              have hB4 := (unhide HBr).trans (hb4.mono (unhide HBr).size)
              obtain ⟨bl, ⟨hl4, -, -⟩, hi4⟩ := O4
              have hlies : Lay.tCenter.lies w4 [v4] ⟨x.vec⟩ bl := hl4
              have hoff : ∀ b ∈ bl, u8.ownBlock ≠ some b := fun b hb2 e => by have h1 := ((unhide HG1).own.lt b e).2; have h2 := (hi4 b hb2).1; omega
              have HIN2 : Hid (∀ b ∈ (bls ++ [bl]).flatten, w1.heap.size ≤ b) := by
                show ∀ b ∈ (bls ++ [bl]).flatten, w1.heap.size ≤ b
                intro b hm
                rw [List.flatten_append] at hm
                rcases List.mem_append.1 hm with hm | hm
                · exact unhide HIN b hm
                · have := (hi4 b (by simpa using hm)).1; have := (unhide HBr).size; omega
              obtain ⟨a9, c9, rfl⟩ := open_sl ⟨bl, hl4⟩
              have HB4 := hide hB4
              have hln := unhide HLn
              have hbs := hB4.size
              clear hl4 hi4 hb4 hB4 L HG1 HBr ho4 c1 c2
              generalize hmm : x.vec.length = ml at *
              clear hmm
              go_wp2_with (at_builtin; refine wpList_append_Center hG4 hlies hoff rfl _ _ rfl rfl rfl (by omega) (by omega) ?_)
              rintro g5 cp5 w5 hG5 hb5 - hl5 hz5 -
              have HG5 := hide hG5
              have HB5 := hide ((unhide HB4).trans hb5)
              clear hG5 hb5 hG4 hlies hoff HB4 hln
              go_wp2_with fail
              go_roundw
              case rel => exact ⟨k + 1, _, _, by omega, by go_num, unhide HALL2, by rw [unhide HT2]; exact unhide HG5, unhide HIN2, unhide HB5⟩
              case measure => simp [intOf]; omega
          · obtain rfl : k = ss.length := by omega
            rw [List.drop_length] at hall
            have hall2 : ss.all seedB = true := hall.symm
            rw [show (seedCs xs ss).take ss.length = seedCs xs ss by rw [← seedCs_len xs ss, List.take_length]] at hG
            have hO0 := hG.toLies (by rw [seedCs_len]; omega) hin
            have HO0 := hide hO0
            have HBr := hide hB
            have HCF0 := hide (seedCs_right (unhide HF) (unhide H0) hn)
            clear hG hin hB hall hO0
            go_wp2_with fail
            refine (inC r 0 20 _).mono ?_
            rintro e wr ⟨rfl, rfl⟩
            cases hr : (decide (0 ≤ r) && decide (r ≤ 20)) with
            | false =>
              have HG := hide (trainR_code (trainFault_rounds (unhide HF) (unhide H0) (unhide HM) hr) (by decide))
              replace HR := hide ((unhide HR).keep (unhide HBr))
              have HB9 := hide ((unhide HB).trans ((unhide HBr).mono (unhide HB).size))
              clear HBr hr HO0
              have bR := unhide HR
              have z0 : wr.cell? ⟨w.heap.size, 0, none⟩ = some (.int .i64 0) := bR.at 0 _ rfl
              have z1 : wr.cell? ⟨w.heap.size, 1, none⟩ = some (.slice none 0 0) := bR.at 1 _ rfl
              have f0 := bR.soft 0
              have f1 := bR.soft 1
              have l0 := bR.lt
              clear bR
              go_wp2_with fail
              refine bodyPost_ret (v := .agg #[.int .i64 3, .slice none 0 0]) (by simp [results, Try.results13, go_sem, z0, z1]) rfl ?_
              rw [unhide HG]
              exact ⟨[.int .i64 3, .slice none 0 0], rfl, (own_codeCens (lo := 0) (hi := 0) (by decide)).reads, ((unhide HB9).setCell (by simp) _).setCell (by simp) _⟩
            | true =>
              have hrb : 0 ≤ r ∧ r ≤ 20 := by simpa using hr
              have HG : Hid (trainR xs ss r = ⟨0, trainN xs r.toNat (seedCs xs ss)⟩) := if_pos (by rw [trainFault_seeds (unhide HF) (unhide H0) (unhide HM) hr, hall2, if_pos rfl])
              have HRN : Hid (r = ((r.toNat : Nat) : Int)) := by show r = ((r.toNat : Nat) : Int); omega
              clear hr hall2
              go_wp2_with fail
              rename World => wo
              go_loopw [2, 8] (fun i u wr => ∃ (m : Nat) (cur : List DCenter), m ≤ 20 ∧ i = .int .i64 m ∧ centersFault cur = 0 ∧ trainN xs m cur = trainN xs r.toNat (seedCs xs ss) ∧ (Lay.sl Lay.tCenter).LiesIn wr [u] cur w1.heap.size wr.heap.size ∧ Below w1.heap.size w1 wr) (fun i _ _ => (intOf i).toNat)
              case atStart => exact ⟨r.toNat, _, by omega, by rw [← unhide HRN], unhide HCF0, rfl, unhide HO0, unhide HBr⟩
              case round =>
                obtain ⟨m, cur, hm20, rfl, hcf, htn, hO, hB⟩ := hrel
                clear HO0 HBr
                by_cases hm0 : 0 < m
                · obtain ⟨m, rfl⟩ : ∃ q, m = q + 1 := ⟨m - 1, by omega⟩
                  have hmf := moved_right hcf (unhide HF)
                  have L := hide (specMove _ cur _ xs wr hO.reads ((unhide HX).later hB) hcf (unhide HF))
                  have HTN0 : Hid ((if cost cur xs ≤ cost (moved cur xs) xs then cur else trainN xs m (moved cur xs)) = trainN xs r.toNat (seedCs xs ss)) := htn
                  have HMF := hide hmf
                  have HCF := hide hcf
                  have HO := hide hO
                  have HBr := hide hB
                  have hwr := hB.size
                  have d3 : decide ((0 : Int) < (((m + 1 : Nat)) : Int)) = true := by simp
                  have d4 : decide ((0 : Int) < (m : Int) + 1) = true := by simp
                  clear htn hmf hcf hO hB hm0
                  go_wp2_with fail
                  refine (unhide L).mono ?_
                  rintro e w4 ⟨v4, rfl, O4, hb4⟩
                  have HX4 := hide (((unhide HX).later (unhide HBr)).later hb4)
                  have LC := hide (specCost _ (moved cur xs) _ xs w4 O4.reads (unhide HX4) (unhide HMF) (unhide HF))
                  have HO4 := hide O4
                  have HOc := hide (((unhide HO).later hb4).mono (Nat.le_refl _) hb4.size)
                  have HB4 := hide ((unhide HBr).trans (hb4.mono (unhide HBr).size))
                  clear L O4 hb4 HO HBr
                  go_wp2_with fail
                  refine (unhide LC).mono ?_
                  rintro e w5 ⟨rfl, hb5⟩
                  have LD := hide (specCost _ cur _ xs w5 ((unhide HOc).later hb5).reads ((unhide HX4).later hb5) (unhide HCF) (unhide HF))
                  have HO5 := hide ((((unhide HO4).later hb5).mono (Nat.le_refl _) hb5.size).mono (lo' := w1.heap.size) hwr (Nat.le_refl _))
                  replace HOc := hide (((unhide HOc).later hb5).mono (Nat.le_refl _) hb5.size)
                  have HB5 := hide ((unhide HB4).trans (hb5.mono (unhide HB4).size))
                  clear LC hb5 HO4 HB4 HX4
                  go_wp2_with fail
                  refine (unhide LD).mono ?_
                  rintro e w6 ⟨rfl, hb6⟩
                  have HO6 := hide (((unhide HO5).later hb6).mono (Nat.le_refl _) hb6.size)
                  replace HOc := hide (((unhide HOc).later hb6).mono (Nat.le_refl _) hb6.size)
                  have HB6 := hide ((unhide HB5).trans (hb6.mono (unhide HB5).size))
                  clear LD hb6 HO5 HB5
                  by_cases hc : cost cur xs ≤ cost (moved cur xs) xs
                  · have HTN : Hid (cur = trainN xs r.toNat (seedCs xs ss)) := by
                      have := unhide HTN0
                      rw [if_pos hc] at this
                      exact this
                    have hd9 : decide (cost cur xs ≤ cost (moved cur xs) xs) = true := by simpa using hc
                    clear hc HTN0 HO6
                    rename World => wr
                    have hO := unhide HOc
                    have hB := unhide HB6
                    clear HOc HB6
                    generalize cost cur xs = c1 at *
                    generalize cost (moved cur xs) xs = c2 at *
                    obtain ⟨a9, c9, rfl⟩ := open_sl hO.reads
                    have bR := (unhide HR).keep hB
                    have z0 : wr.cell? ⟨w.heap.size, 0, none⟩ = some (.int .i64 0) := bR.at 0 _ rfl
                    have z1 : wr.cell? ⟨w.heap.size, 1, none⟩ = some (.slice none 0 0) := bR.at 1 _ rfl
                    have f0 := bR.soft 0
                    have f1 := bR.soft 1
                    have l0 := bR.lt
                    have HB9 := hide ((unhide HB).trans (hB.mono (unhide HB).size))
                    have HO9 := hide hO
                    clear hO hB bR
                    generalize hm9 : cur.length = n9 at *
                    clear hm9
                    go_wp2_with fail
                    refine bodyPost_ret (v := .agg #[.int .i64 0, .slice a9 n9 c9]) (by simp [results, Try.results13, go_sem, z0, z1]) rfl ?_
                    have hE : Ext (fun c => c = w.heap.size) wr ((wr.setCell ⟨w.heap.size, 0, none⟩ (.int .i64 0)).setCell ⟨w.heap.size, 1, none⟩ (.slice a9 n9 c9)) := ((Ext.refl (fun c => c = w.heap.size) _).setCell ⟨w.heap.size, 0, none⟩ _ rfl).setCell ⟨w.heap.size, 1, none⟩ _ rfl
                    rw [unhide HG, ← unhide HTN]
                    exact ⟨[.int .i64 0, .slice a9 n9 c9], rfl, read_censR (by decide) (((unhide HO9).ext hE (fun c h1 _ h3 => by omega)).reads), ((unhide HB9).setCell (by simp) _).setCell (by simp) _⟩
                  · have HTN : Hid (trainN xs m (moved cur xs) = trainN xs r.toNat (seedCs xs ss)) := by
                      have := unhide HTN0
                      rw [if_neg hc] at this
                      exact this
                    have hd9 : decide (cost cur xs ≤ cost (moved cur xs) xs) = false := by simpa using hc
                    clear hc HTN0 HOc
                    generalize cost cur xs = c1 at *
                    generalize cost (moved cur xs) xs = c2 at *
                    go_wp2_with fail
                    go_roundw
                    case rel => exact ⟨m, moved cur xs, by omega, by go_num, unhide HMF, unhide HTN, unhide HO6, unhide HB6⟩
                    case measure => simp [intOf]
                · obtain rfl : m = 0 := by omega
                  have HTN : Hid (cur = trainN xs r.toNat (seedCs xs ss)) := htn
                  clear htn hcf
                  obtain ⟨a9, c9, rfl⟩ := open_sl hO.reads
                  have bR := (unhide HR).keep hB
                  have z0 : wr.cell? ⟨w.heap.size, 0, none⟩ = some (.int .i64 0) := bR.at 0 _ rfl
                  have z1 : wr.cell? ⟨w.heap.size, 1, none⟩ = some (.slice none 0 0) := bR.at 1 _ rfl
                  have f0 := bR.soft 0
                  have f1 := bR.soft 1
                  have l0 := bR.lt
                  have HB9 := hide ((unhide HB).trans (hB.mono (unhide HB).size))
                  have HO9 := hide hO
                  clear hO hB bR
                  generalize hm9 : cur.length = n9 at *
                  clear hm9
                  go_wp2_with fail
                  refine bodyPost_ret (v := .agg #[.int .i64 0, .slice a9 n9 c9]) (by simp [results, Try.results13, go_sem, z0, z1]) rfl ?_
                  have hE : Ext (fun c => c = w.heap.size) wr ((wr.setCell ⟨w.heap.size, 0, none⟩ (.int .i64 0)).setCell ⟨w.heap.size, 1, none⟩ (.slice a9 n9 c9)) := ((Ext.refl (fun c => c = w.heap.size) _).setCell ⟨w.heap.size, 0, none⟩ _ rfl).setCell ⟨w.heap.size, 1, none⟩ _ rfl
                  rw [unhide HG, ← unhide HTN]
                  exact ⟨[.int .i64 0, .slice a9 n9 c9], rfl, read_censR (by decide) (((unhide HO9).ext hE (fun c h1 _ h3 => by omega)).reads), ((unhide HB9).setCell (by simp) _).setCell (by simp) _⟩
  · have HG := hide (trainR_code (trainFault_tab hf ss r) hf)
    have hd : (tableFault xs != 0) = true := by simpa using hf
    clear hf
    have bR := unhide HR
    have z0 : w1.cell? ⟨w.heap.size, 0, none⟩ = some (.int .i64 0) := bR.at 0 _ rfl
    have z1 : w1.cell? ⟨w.heap.size, 1, none⟩ = some (.slice none 0 0) := bR.at 1 _ rfl
    have f0 := bR.soft 0
    have f1 := bR.soft 1
    have l0 := bR.lt
    clear bR
    go_wp2_with fail
    refine bodyPost_ret (v := .agg #[.int .i64 (tableFault xs), .slice none 0 0]) (by simp [results, Try.results13, go_sem, z0, z1]) rfl ?_
    rw [unhide HG]
    exact ⟨[.int .i64 (tableFault xs), .slice none 0 0], rfl, (own_codeCens (lo := 0) (hi := 0) (wf_of_bd (by have := tableFault_bd xs; omega))).reads, ((unhide HB).setCell (by simp) _).setCell (by simp) _⟩

end Go.Proofs.Ytjofcmdlcoganaa

namespace Go.Proofs.Ytjofcmdlcoganaa
open Go.RowKit

set_option maxRecDepth 10000 in
theorem implAsk6 (v : Value) (cs : List DCenter) (vx : Value) (xs : List DItem) (w : World) (hcs : (Lay.sl Lay.tCenter).Reads w [v] cs) (h : (Lay.sl Lay.tItem).Reads w [vx] xs) :
    Calls Try.prog 55 #[v, vx] w fun e w' => e = .returned (.int .i64 (askFault cs xs)) ∧ Below w.heap.size w w' := by
  have HX := hide h
  have L := hide (implCen v cs w hcs)
  obtain ⟨ao, cap, rfl⟩ := open_sl hcs
  obtain ⟨ao2, cap2, rfl⟩ := open_sl h
  clear hcs h
  go_enter Try.func55, Try.ntmps55
  go_wp2_with fail
  refine (unhide L).mono ?_
  rintro e w1 ⟨rfl, hb⟩
  have L2 := hide (implTab _ xs w1 ((unhide HX).later hb))
  have HB := hide hb
  clear hb L HX
  by_cases hf : centersFault cs = 0
  · have HG : Hid (askFault cs xs = tableFault xs) := if_pos hf
    rw [hf]
    clear hf
    go_wp2_with fail
    refine (unhide L2).mono ?_
    rintro e w2 ⟨rfl, hb2⟩
    have HB2 := hide ((unhide HB).trans (hb2.mono (unhide HB).size))
    clear hb2 L2 HB
    go_wp2_with fail
    go_ret
    exact ⟨by rw [unhide HG]; rfl, unhide HB2⟩
  · have HG : Hid (askFault cs xs = centersFault cs) := if_neg hf
    have hd : (centersFault cs != 0) = true := by simpa using hf
    clear hf L2
    go_wp2_with fail
    go_ret
    exact ⟨by rw [unhide HG]; rfl, unhide HB⟩

end Go.Proofs.Ytjofcmdlcoganaa

namespace Go.Proofs.Ytjofcmdlcoganaa
open Go.RowKit

set_option maxRecDepth 10000 in
set_option maxHeartbeats 1000000 in
theorem implCostOf (v : Value) (cs : List DCenter) (vx : Value) (xs : List DItem) (w : World) (hcs : (Lay.sl Lay.tCenter).Reads w [v] cs) (h : (Lay.sl Lay.tItem).Reads w [vx] xs) :
    Calls Try.prog 14 #[v, vx] w fun e w' => ∃ cs', e = .returned (.agg cs'.toArray) ∧ Lay.tIntResult.OwnIn w' cs' (costR cs xs) w.heap.size w'.heap.size ∧ Below w.heap.size w w' := by
  have HB0 : Below w.heap.size w (w.alloc (.cells #[.int .i64 0, .int .i64 0] 33)) := (Below.refl _ _).alloc (Nat.le_refl _) _
  have bR : Box w.heap.size #[.int .i64 0, .int .i64 0] 33 (w.alloc (.cells #[.int .i64 0, .int .i64 0] 33)) w.heap.size := newBox (Nat.le_refl _)
  have hc1 := hcs.later HB0
  have hx1 := h.later HB0
  obtain ⟨ao, cap, rfl⟩ := open_sl hcs
  obtain ⟨ao2, cap2, rfl⟩ := open_sl h
  clear hcs h
  go_enter Try.func14, Try.ntmps14
  go_wp2_with fail
  generalize w.alloc (.cells #[.int .i64 0, .int .i64 0] 33) = W0 at *
  refine (implAsk6 _ cs _ xs W0 hc1 hx1).mono ?_
  rintro e w1 ⟨rfl, hb⟩
  have HC := hide (hc1.later hb)
  have HX := hide (hx1.later hb)
  replace bR := bR.keep hb
  replace HB0 := HB0.trans (hb.mono HB0.size)
  have z0 : w1.cell? ⟨w.heap.size, 0, none⟩ = some (.int .i64 0) := bR.at 0 _ rfl
  have z1 : w1.cell? ⟨w.heap.size, 1, none⟩ = some (.int .i64 0) := bR.at 1 _ rfl
  have f0 := bR.soft 0
  have f1 := bR.soft 1
  have l0 := bR.lt
  have HB := hide HB0
  have HR := hide bR
  clear hb HB0 bR hc1 hx1
  by_cases hf : askFault cs xs = 0
  · have HG : Hid (costR cs xs = ⟨0, cost cs xs⟩) := if_pos hf
    obtain ⟨hfc, hft⟩ := askFault_zero hf
    rw [hf]
    have L := hide (implCost _ cs _ xs w1 (unhide HC) (unhide HX) hfc hft)
    have hbd := costK_bd hfc (fun x hm => ((tableFault_zero hft).2.1 x hm).2) xs.length (Nat.le_refl _)
    have hl := (tableFault_zero hft).1
    have HW : Hid ((Lit.int .i64 (cost cs xs)).wf = true) := wf_of_bd (by unfold cost; omega)
    clear hf hfc hft HC HX z0 z1 f0 f1 l0 hbd hl
    go_wp2_with fail
    refine (unhide L).mono ?_
    rintro e w2 ⟨rfl, hb⟩
    have bR := (unhide HR).keep hb
    have z0 : w2.cell? ⟨w.heap.size, 0, none⟩ = some (.int .i64 0) := bR.at 0 _ rfl
    have z1 : w2.cell? ⟨w.heap.size, 1, none⟩ = some (.int .i64 0) := bR.at 1 _ rfl
    have f0 := bR.soft 0
    have f1 := bR.soft 1
    have l0 := bR.lt
    have HB9 := hide ((unhide HB).trans (hb.mono (unhide HB).size))
    clear hb bR HB HR L
    generalize cost cs xs = c9 at *
    go_wp2_with fail
    refine bodyPost_ret (v := .agg #[.int .i64 0, .int .i64 c9]) (by simp [results, Try.results14, go_sem, z0, z1]) rfl ?_
    rw [unhide HG]
    exact ⟨[.int .i64 0, .int .i64 c9], rfl, own_intR (by decide) (unhide HW), ((unhide HB9).setCell (by simp) _).setCell (by simp) _⟩
  · have HG : Hid (costR cs xs = ⟨askFault cs xs, 0⟩) := if_neg hf
    have hd : (askFault cs xs != 0) = true := by simpa using hf
    clear hf HC HX
    go_wp2_with fail
    refine bodyPost_ret (v := .agg #[.int .i64 (askFault cs xs), .int .i64 0]) (by simp [results, Try.results14, go_sem, z0, z1]) rfl ?_
    rw [unhide HG]
    exact ⟨[.int .i64 (askFault cs xs), .int .i64 0], rfl, own_intR (askFault_wf cs xs) (by decide), ((unhide HB).setCell (by simp) _).setCell (by simp) _⟩

end Go.Proofs.Ytjofcmdlcoganaa

namespace Go.Proofs.Ytjofcmdlcoganaa
open Go.RowKit

set_option maxRecDepth 10000 in
theorem specAsk6 (v : Value) (cs : List DCenter) (vx : Value) (xs : List DItem) (w : World) (hcs : (Lay.sl Lay.tCenter).Reads w [v] cs) (h : (Lay.sl Lay.tItem).Reads w [vx] xs) :
    Calls Try.prog 59 #[v, vx] w fun e w' => e = .returned (.int .i64 (askFault cs xs)) ∧ Below w.heap.size w w' := by
  have HX := hide h
  have L := hide (specCen v cs w hcs)
  obtain ⟨ao, cap, rfl⟩ := open_sl hcs
  obtain ⟨ao2, cap2, rfl⟩ := open_sl h
  clear hcs h
  go_enter Try.func59, Try.ntmps59
  go_wp2_with fail
  refine (unhide L).mono ?_
  rintro e w1 ⟨rfl, hb⟩
  have L2 := hide (specTab _ xs w1 ((unhide HX).later hb))
  have HB := hide hb
  clear hb L HX
  by_cases hf : centersFault cs = 0
  · have HG : Hid (askFault cs xs = tableFault xs) := if_pos hf
    rw [hf]
    clear hf
    go_wp2_with fail
    refine (unhide L2).mono ?_
    rintro e w2 ⟨rfl, hb2⟩
    have HB2 := hide ((unhide HB).trans (hb2.mono (unhide HB).size))
    clear hb2 L2 HB
    go_wp2_with fail
    go_ret
    exact ⟨by rw [unhide HG]; rfl, unhide HB2⟩
  · have HG : Hid (askFault cs xs = centersFault cs) := if_neg hf
    have hd : (centersFault cs != 0) = true := by simpa using hf
    clear hf L2
    go_wp2_with fail
    go_ret
    exact ⟨by rw [unhide HG]; rfl, unhide HB⟩

end Go.Proofs.Ytjofcmdlcoganaa

namespace Go.Proofs.Ytjofcmdlcoganaa
open Go.RowKit

set_option maxRecDepth 10000 in
set_option maxHeartbeats 1000000 in
theorem specCostOf (v : Value) (cs : List DCenter) (vx : Value) (xs : List DItem) (w : World) (hcs : (Lay.sl Lay.tCenter).Reads w [v] cs) (h : (Lay.sl Lay.tItem).Reads w [vx] xs) :
    Calls Try.prog 19 #[v, vx] w fun e w' => ∃ cs', e = .returned (.agg cs'.toArray) ∧ Lay.tIntResult.OwnIn w' cs' (costR cs xs) w.heap.size w'.heap.size ∧ Below w.heap.size w w' := by
  have HB0 : Below w.heap.size w (w.alloc (.cells #[.int .i64 0, .int .i64 0] 33)) := (Below.refl _ _).alloc (Nat.le_refl _) _
  have bR : Box w.heap.size #[.int .i64 0, .int .i64 0] 33 (w.alloc (.cells #[.int .i64 0, .int .i64 0] 33)) w.heap.size := newBox (Nat.le_refl _)
  have hc1 := hcs.later HB0
  have hx1 := h.later HB0
  obtain ⟨ao, cap, rfl⟩ := open_sl hcs
  obtain ⟨ao2, cap2, rfl⟩ := open_sl h
  clear hcs h
  go_enter Try.func19, Try.ntmps19
  go_wp2_with fail
  generalize w.alloc (.cells #[.int .i64 0, .int .i64 0] 33) = W0 at *
  refine (specAsk6 _ cs _ xs W0 hc1 hx1).mono ?_
  rintro e w1 ⟨rfl, hb⟩
  have HC := hide (hc1.later hb)
  have HX := hide (hx1.later hb)
  replace bR := bR.keep hb
  replace HB0 := HB0.trans (hb.mono HB0.size)
  have z0 : w1.cell? ⟨w.heap.size, 0, none⟩ = some (.int .i64 0) := bR.at 0 _ rfl
  have z1 : w1.cell? ⟨w.heap.size, 1, none⟩ = some (.int .i64 0) := bR.at 1 _ rfl
  have f0 := bR.soft 0
  have f1 := bR.soft 1
  have l0 := bR.lt
  have HB := hide HB0
  have HR := hide bR
  clear hb HB0 bR hc1 hx1
  by_cases hf : askFault cs xs = 0
  · have HG : Hid (costR cs xs = ⟨0, cost cs xs⟩) := if_pos hf
    obtain ⟨hfc, hft⟩ := askFault_zero hf
    rw [hf]
    have L := hide (specCost _ cs _ xs w1 (unhide HC) (unhide HX) hfc hft)
    have hbd := costK_bd hfc (fun x hm => ((tableFault_zero hft).2.1 x hm).2) xs.length (Nat.le_refl _)
    have hl := (tableFault_zero hft).1
    have HW : Hid ((Lit.int .i64 (cost cs xs)).wf = true) := wf_of_bd (by unfold cost; omega)
    clear hf hfc hft HC HX z0 z1 f0 f1 l0 hbd hl
    go_wp2_with fail
    refine (unhide L).mono ?_
    rintro e w2 ⟨rfl, hb⟩
    have bR := (unhide HR).keep hb
    have z0 : w2.cell? ⟨w.heap.size, 0, none⟩ = some (.int .i64 0) := bR.at 0 _ rfl
    have z1 : w2.cell? ⟨w.heap.size, 1, none⟩ = some (.int .i64 0) := bR.at 1 _ rfl
    have f0 := bR.soft 0
    have f1 := bR.soft 1
    have l0 := bR.lt
    have HB9 := hide ((unhide HB).trans (hb.mono (unhide HB).size))
    clear hb bR HB HR L
    generalize cost cs xs = c9 at *
    go_wp2_with fail
    refine bodyPost_ret (v := .agg #[.int .i64 0, .int .i64 c9]) (by simp [results, Try.results19, go_sem, z0, z1]) rfl ?_
    rw [unhide HG]
    exact ⟨[.int .i64 0, .int .i64 c9], rfl, own_intR (by decide) (unhide HW), ((unhide HB9).setCell (by simp) _).setCell (by simp) _⟩
  · have HG : Hid (costR cs xs = ⟨askFault cs xs, 0⟩) := if_neg hf
    have hd : (askFault cs xs != 0) = true := by simpa using hf
    clear hf HC HX
    go_wp2_with fail
    refine bodyPost_ret (v := .agg #[.int .i64 (askFault cs xs), .int .i64 0]) (by simp [results, Try.results19, go_sem, z0, z1]) rfl ?_
    rw [unhide HG]
    exact ⟨[.int .i64 (askFault cs xs), .int .i64 0], rfl, own_intR (askFault_wf cs xs) (by decide), ((unhide HB).setCell (by simp) _).setCell (by simp) _⟩

end Go.Proofs.Ytjofcmdlcoganaa

namespace Go.Proofs.Ytjofcmdlcoganaa
open Go.RowKit

set_option maxRecDepth 10000 in
set_option maxHeartbeats 1000000 in
theorem implMoveOf (v : Value) (cs : List DCenter) (vx : Value) (xs : List DItem) (w : World) (hcs : (Lay.sl Lay.tCenter).Reads w [v] cs) (h : (Lay.sl Lay.tItem).Reads w [vx] xs) :
    Calls Try.prog 15 #[v, vx] w fun e w' => ∃ cs', e = .returned (.agg cs'.toArray) ∧ Lay.tCentersResult.OwnIn w' cs' (movedR cs xs) w.heap.size w'.heap.size ∧ Below w.heap.size w w' := by
  have HB0 : Below w.heap.size w (w.alloc (.cells #[.int .i64 0, .slice none 0 0] 30)) := (Below.refl _ _).alloc (Nat.le_refl _) _
  have bR : Box w.heap.size #[.int .i64 0, .slice none 0 0] 30 (w.alloc (.cells #[.int .i64 0, .slice none 0 0] 30)) w.heap.size := newBox (Nat.le_refl _)
  have hc1 := hcs.later HB0
  have hx1 := h.later HB0
  obtain ⟨ao, cap, rfl⟩ := open_sl hcs
  obtain ⟨ao2, cap2, rfl⟩ := open_sl h
  clear hcs h
  go_enter Try.func15, Try.ntmps15
  go_wp2_with fail
  generalize w.alloc (.cells #[.int .i64 0, .slice none 0 0] 30) = W0 at *
  refine (implAsk6 _ cs _ xs W0 hc1 hx1).mono ?_
  rintro e w1 ⟨rfl, hb⟩
  have HC := hide (hc1.later hb)
  have HX := hide (hx1.later hb)
  replace bR := bR.keep hb
  replace HB0 := HB0.trans (hb.mono HB0.size)
  have z0 : w1.cell? ⟨w.heap.size, 0, none⟩ = some (.int .i64 0) := bR.at 0 _ rfl
  have z1 : w1.cell? ⟨w.heap.size, 1, none⟩ = some (.slice none 0 0) := bR.at 1 _ rfl
  have f0 := bR.soft 0
  have f1 := bR.soft 1
  have l0 := bR.lt
  have HB := hide HB0
  have HR := hide bR
  clear hb HB0 bR hc1 hx1
  by_cases hf : askFault cs xs = 0
  · have HG : Hid (movedR cs xs = ⟨0, moved cs xs⟩) := if_pos hf
    obtain ⟨hfc, hft⟩ := askFault_zero hf
    rw [hf]
    have L := hide (movedC _ cs _ xs w1 (unhide HC) (unhide HX) hfc hft)
    have hw1 := l0
    clear hf hfc hft HC HX z0 z1 f0 f1 l0
    go_wp2_with fail
    refine (unhide L).mono ?_
    rintro e w2 ⟨v2, rfl, hO, hb⟩
    have bR := (unhide HR).keep hb
    have z0 : w2.cell? ⟨w.heap.size, 0, none⟩ = some (.int .i64 0) := bR.at 0 _ rfl
    have z1 : w2.cell? ⟨w.heap.size, 1, none⟩ = some (.slice none 0 0) := bR.at 1 _ rfl
    have f0 := bR.soft 0
    have f1 := bR.soft 1
    have l0 := bR.lt
    have HB9 := hide ((unhide HB).trans (hb.mono (unhide HB).size))
    obtain ⟨a9, c9, rfl⟩ := open_sl hO.reads
    have HO9 := hide hO
    clear hb bR HB HR L hO
    generalize hm9 : (moved cs xs).length = n9 at *
    clear hm9
    go_wp2_with fail
    refine bodyPost_ret (v := .agg #[.int .i64 0, .slice a9 n9 c9]) (by simp [results, Try.results15, go_sem, z0, z1]) rfl ?_
    have hE : Ext (fun c => c = w.heap.size) w2 ((w2.setCell ⟨w.heap.size, 0, none⟩ (.int .i64 0)).setCell ⟨w.heap.size, 1, none⟩ (.slice a9 n9 c9)) := ((Ext.refl (fun c => c = w.heap.size) _).setCell ⟨w.heap.size, 0, none⟩ _ rfl).setCell ⟨w.heap.size, 1, none⟩ _ rfl
    rw [unhide HG]
    exact ⟨[.int .i64 0, .slice a9 n9 c9], rfl, own_censR (by decide) (((unhide HO9).ext hE (fun c h1 _ h3 => by omega)).mono (by omega) (by simp)), ((unhide HB9).setCell (by simp) _).setCell (by simp) _⟩
  · have HG : Hid (movedR cs xs = ⟨askFault cs xs, []⟩) := if_neg hf
    have hd : (askFault cs xs != 0) = true := by simpa using hf
    clear hf HC HX
    go_wp2_with fail
    refine bodyPost_ret (v := .agg #[.int .i64 (askFault cs xs), .slice none 0 0]) (by simp [results, Try.results15, go_sem, z0, z1]) rfl ?_
    rw [unhide HG]
    exact ⟨[.int .i64 (askFault cs xs), .slice none 0 0], rfl, own_codeCens (askFault_wf cs xs), ((unhide HB).setCell (by simp) _).setCell (by simp) _⟩

end Go.Proofs.Ytjofcmdlcoganaa

namespace Go.Proofs.Ytjofcmdlcoganaa
open Go.RowKit

set_option maxHeartbeats 400000 in
theorem toInts_pos (b off cap : Nat) (zs : List Int) (w : World) (hn : zs.length ≤ 1048576) (hc : ∀ j, j < zs.length → w.cell? ⟨b, off + j, none⟩ = some (.int .i64 (zs.getD j 0))) :
    Calls Try.prog 25 #[.slice (some ⟨b, off, none⟩) zs.length cap] w fun e w' => e = .returned (.slice (some ⟨w.heap.size, 0, none⟩) zs.length zs.length) ∧
      w'.ownsRow w.heap.size 2 1 (.slice (some ⟨w.heap.size, 0, none⟩) zs.length zs.length) zs.length (zs.map (Value.int .i64)) ∧ Below w.heap.size w w' := by
  obtain ⟨i0, hi, hz0, hz1, hz2⟩ := info_parts info2
  go_enter Try.func25, Try.ntmps25
  go_wp2_with (at_make; refine wpList_make_full _ rfl _ _ 25 rfl w.heap.size 2 i0 (.int .i64 0) 1 Try.underlying25 hi hz0 hz1 _ _ _ _ zs.length rfl rfl rfl rfl ?c1 ?c2 ?c3 ?_)
  case c1 => rw [hz2]; omega
  case c2 => unfold maxLen; omega
  case c3 => exact Nat.le_refl _
  intro w1 hown1 hgrow1
  have hB1 : Below w.heap.size w w1 := (Below.refl _ _).grown hgrow1 (Nat.le_refl _) (by simp)
  rw [toList_madeCells_one] at hown1
  clear hgrow1 hi hz0 hz1 hz2
  go_wp2
  go_loopw [4] (fun i wr => ∃ k : Nat, k ≤ zs.length ∧ i = .int .i64 k ∧ wr.ownsRow w.heap.size 2 1 (.slice (some ⟨w.heap.size, 0, none⟩) zs.length zs.length) zs.length ((zs.take k).map (Value.int .i64) ++ List.replicate (zs.length - k) (Value.int .i64 0)) ∧ Below w.heap.size w wr)
    (fun i _ => zs.length - (intOf i).toNat)
  case atStart => exact ⟨0, Nat.zero_le _, rfl, by simpa using hown1, hB1⟩
  case round =>
    obtain ⟨k, hk, rfl, hown, hB⟩ := hrel
    clear hown1 hB1
    by_cases hlt : k < zs.length
    · have hcx : wr.cell? ⟨b, off + k, none⟩ = some (.int .i64 (zs.getD k 0)) := (hB.cell (World.block_lt_of_cell? _ _ (hc k hlt))).trans (hc k hlt)
      have hcd : ∃ u, wr.cell? ⟨w.heap.size, k, none⟩ = some u := by
        rw [hown.cellAt k (by omega)]
        exact ⟨_, List.getElem?_eq_getElem (by simp; omega)⟩
      obtain ⟨u, hcd⟩ := hcd
      have hfz := hown.frozenAt k
      have hst := hown.stored k (.int .i64 (zs.getD k 0))
      rw [set_fill zs k hlt] at hst
      have R := hst.1
      have hB2 : Below w.heap.size w (wr.setCell ⟨w.heap.size, k, none⟩ (.int .i64 (zs.getD k 0))) := hB.setCell (by simp) _
      clear hst hown hB
      go_wp2
      go_roundw
      case rel => exact ⟨k + 1, by omega, by go_num, by simpa [hlt] using R, by simpa [hlt] using hB2⟩
      case measure => simp [intOf]; omega
    · have hk2 : k = zs.length := by omega
      go_wp2
      go_ret
      subst hk2
      exact ⟨rfl, by simpa using hown, hB⟩

set_option maxHeartbeats 400000 in
theorem toInts_zero (ao : Option Addr) (cap : Nat) (w : World) :
    Calls Try.prog 25 #[.slice ao 0 cap] w fun e w' => e = .returned (.slice (some ⟨w.heap.size, 0, none⟩) 0 0) ∧
      w'.ownsRow w.heap.size 2 1 (.slice (some ⟨w.heap.size, 0, none⟩) 0 0) 0 [] ∧ Below w.heap.size w w' := by
  obtain ⟨i0, hi, hz0, hz1, hz2⟩ := info_parts info2
  go_enter Try.func25, Try.ntmps25
  go_wp2_with (at_make; refine wpList_make_full _ rfl _ _ 25 rfl w.heap.size 2 i0 (.int .i64 0) 1 Try.underlying25 hi hz0 hz1 _ _ _ _ 0 rfl rfl rfl rfl ?c1 ?c2 ?c3 ?_)
  case c1 => rw [hz2]; omega
  case c2 => unfold maxLen; omega
  case c3 => exact Nat.le_refl _
  intro w1 hown1 hgrow1
  have hB1 : Below w.heap.size w w1 := (Below.refl _ _).grown hgrow1 (Nat.le_refl _) (by simp)
  clear hgrow1 hi hz0 hz1 hz2
  rw [toList_madeCells_one] at hown1
  go_wp2
  refine wp_loop_rounds 1 ?_
  rw [rounds_succ]
  go_wp2
  go_ret
  exact ⟨rfl, by simpa using hown1, hB1⟩

/-- toInt64S: a new slice of the same numbers. -/
theorem toInts (v : Value) (zs : List Int) (w : World) (h : IsInts w v zs) (hn : zs.length ≤ 1048576) :
    Calls Try.prog 25 #[v] w fun e w' => ∃ v', e = .returned v' ∧ v' = .slice (some ⟨w.heap.size, 0, none⟩) zs.length zs.length ∧
      w'.ownsRow w.heap.size 2 1 v' zs.length (zs.map (Value.int .i64)) ∧ IsInts w' v' zs ∧ Below w.heap.size w w' := by
  obtain ⟨ao, cap, rfl, hwf, hc⟩ := h
  by_cases hp : 0 < zs.length
  · obtain ⟨b, off, rfl, hc1⟩ := hc hp
    refine (toInts_pos b off cap zs w hn hc1).mono ?_
    rintro e w' ⟨rfl, ho, hb⟩
    exact ⟨_, rfl, rfl, ho, isInts_owned hwf ho, hb⟩
  · have hz : zs = [] := List.eq_nil_of_length_eq_zero (by omega)
    subst hz
    refine (toInts_zero ao cap w).mono ?_
    rintro e w' ⟨rfl, ho, hb⟩
    exact ⟨_, rfl, rfl, ho, isInts_owned hwf ho, hb⟩

set_option maxHeartbeats 400000 in
theorem eqInts_pos (b off cap b2 off2 cap2 : Nat) (zs : List Int) (w : World) (hn : zs.length ≤ 9223372036854775807) (hc : ∀ j, j < zs.length → w.cell? ⟨b, off + j, none⟩ = some (.int .i64 (zs.getD j 0)))
    (hc2 : ∀ j, j < zs.length → w.cell? ⟨b2, off2 + j, none⟩ = some (.int .i64 (zs.getD j 0))) :
    Calls Try.prog 27 #[.slice (some ⟨b, off, none⟩) zs.length cap, .slice (some ⟨b2, off2, none⟩) zs.length cap2] w fun e w' => e = .returned (.bool true) ∧ Below w.heap.size w w' := by
  go_enter Try.func27, Try.ntmps27
  go_wp2
  go_loopw [5] (fun i wr => ∃ k : Nat, k ≤ zs.length ∧ i = .int .i64 k ∧ Below w.heap.size w wr) (fun i _ => zs.length - (intOf i).toNat)
  case atStart => exact ⟨0, Nat.zero_le _, rfl, Below.refl _ _⟩
  case round =>
    obtain ⟨k, hk, rfl, hB⟩ := hrel
    by_cases hlt : k < zs.length
    · have hcx : wr.cell? ⟨b, off + k, none⟩ = some (.int .i64 (zs.getD k 0)) := (hB.cell (World.block_lt_of_cell? _ _ (hc k hlt))).trans (hc k hlt)
      have hcy : wr.cell? ⟨b2, off2 + k, none⟩ = some (.int .i64 (zs.getD k 0)) := (hB.cell (World.block_lt_of_cell? _ _ (hc2 k hlt))).trans (hc2 k hlt)
      clear hc hc2
      go_wp2
      go_quiet (fail)
      go_wp2
      go_roundw
      case rel => exact ⟨k + 1, by omega, by go_num, below_drewN hB _⟩
      case measure => simp [intOf]; omega
    · go_wp2
      go_ret
      exact ⟨rfl, hB⟩

set_option maxHeartbeats 400000 in
theorem eqInts_zero (ao ao2 : Option Addr) (cap cap2 : Nat) (w : World) :
    Calls Try.prog 27 #[.slice ao 0 cap, .slice ao2 0 cap2] w fun e w' => e = .returned (.bool true) ∧ Below w.heap.size w w' := by
  go_enter Try.func27, Try.ntmps27
  go_wp2
  refine wp_loop_rounds 1 ?_
  rw [rounds_succ]
  go_wp2
  go_ret
  exact ⟨rfl, Below.refl _ _⟩

/-- eqInt64S: two slices of the same numbers are the same. -/
theorem eqIntsBig (v v2 : Value) (zs : List Int) (w : World) (h : IsInts w v zs) (h2 : IsInts w v2 zs) (hn : zs.length ≤ 9223372036854775807) :
    Calls Try.prog 27 #[v, v2] w fun e w' => e = .returned (.bool true) ∧ Below w.heap.size w w' := by
  obtain ⟨ao, cap, rfl, hwf, hc⟩ := h
  obtain ⟨ao2, cap2, rfl, _, hc2⟩ := h2
  by_cases hp : 0 < zs.length
  · obtain ⟨b, off, rfl, hc1⟩ := hc hp
    obtain ⟨b2, off2, rfl, hc3⟩ := hc2 hp
    exact eqInts_pos b off cap b2 off2 cap2 zs w hn hc1 hc3
  · have hz : zs = [] := List.eq_nil_of_length_eq_zero (by omega)
    subst hz
    exact eqInts_zero ao ao2 cap cap2 w
theorem eqInts (v v2 : Value) (zs : List Int) (w : World) (h : IsInts w v zs) (h2 : IsInts w v2 zs) (hn : zs.length ≤ 1048576) :
    Calls Try.prog 27 #[v, v2] w fun e w' => e = .returned (.bool true) ∧ Below w.heap.size w w' := eqIntsBig v v2 zs w h h2 (by omega)

end Go.Proofs.Ytjofcmdlcoganaa

namespace Go.Proofs.Ytjofcmdlcoganaa
open Go.RowKit

theorem places_len (cs : List DCenter) (xs : List DItem) : (placesL cs xs).length = xs.length := by simp [placesL]
theorem places_at (cs : List DCenter) (xs : List DItem) (k : Nat) (h : k < xs.length) : (placesL cs xs).getD k 0 = (near cs xs[k].vec : Nat) := by simp [placesL, List.getD, h]
theorem places_wf {cs : List DCenter} {xs : List DItem} (hc : centersFault cs = 0) (hx : ∀ x ∈ xs, vecFault x.vec = 0) : ∀ z ∈ placesL cs xs, (Lit.int .i64 z).wf = true := by
  intro z hz
  obtain ⟨x, hm, rfl⟩ := List.mem_map.1 hz
  have h1 := near_lt hc (hx x hm)
  have h2 := (centersFault_zero hc).1
  exact wf_of_bd (by omega)

set_option maxRecDepth 100000 in
set_option maxHeartbeats 2000000 in
theorem implAssign_ok (v : Value) (cs : List DCenter) (ao : Option Addr) (cap : Nat) (xs : List DItem) (w : World) (hcs : (Lay.sl Lay.tCenter).Reads w [v] cs) (h : (Lay.sl Lay.tItem).Reads w [.slice ao xs.length cap] xs) (hf : askFault cs xs = 0) :
    Calls Try.prog 16 #[v, .slice ao xs.length cap] w fun e w' => ∃ cs', e = .returned (.agg cs'.toArray) ∧ Lay.tIntsResult.OwnIn w' cs' ⟨0, placesL cs xs⟩ w.heap.size w'.heap.size ∧ Below w.heap.size w w' := by
  obtain ⟨hfc, hft⟩ := askFault_zero hf
  obtain ⟨hlen, hall, -⟩ := tableFault_zero hft
  have hxv : ∀ x ∈ xs, vecFault x.vec = 0 := fun x hm => (hall x hm).2
  have HB0 : Below w.heap.size w (w.alloc (.cells #[.int .i64 0, .slice none 0 0] 37)) := (Below.refl _ _).alloc (Nat.le_refl _) _
  have bR : Box w.heap.size #[.int .i64 0, .slice none 0 0] 37 (w.alloc (.cells #[.int .i64 0, .slice none 0 0] 37)) w.heap.size := newBox (Nat.le_refl _)
  have hc1 := hcs.later HB0
  have hx1 := h.later HB0
  obtain ⟨i0, hi, hz0, hz1, hz2⟩ := info_parts info2
  have HXV := hide hxv
  have HFC := hide hfc
  clear hcs h hall hxv hfc hft
  go_enter Try.func16, Try.ntmps16
  go_wp2_with fail
  generalize w.alloc (.cells #[.int .i64 0, .slice none 0 0] 37) = W0 at *
  refine (implAsk6 _ cs _ xs W0 hc1 hx1).mono ?_
  rintro e w1 ⟨rfl, hb⟩
  rw [hf]
  have HC := hide (hc1.later hb)
  have HX := hide (hx1.later hb)
  replace bR := bR.keep hb
  replace HB0 := HB0.trans (hb.mono HB0.size)
  have hw1 := bR.lt
  have HB := hide HB0
  have HR := hide bR
  clear hb HB0 bR hc1 hx1 hf
  go_wp2_with (at_make; refine wpList_make_full _ rfl _ _ 25 rfl w1.heap.size 2 i0 (.int .i64 0) 1 Try.underlying25 hi hz0 hz1 _ _ _ _ xs.length rfl rfl rfl rfl ?c1 ?c2 ?c3 ?_)
  case c1 => rw [hz2]; omega
  case c2 => unfold maxLen; omega
  case c3 => exact Nat.le_refl _
  intro w2 hown1 hgrow1
  have hB1 : Below w1.heap.size w1 w2 := (Below.refl _ _).grown hgrow1 (Nat.le_refl _) (by simp)
  rw [toList_madeCells_one] at hown1
  have HO1 := hide hown1
  have HB1 := hide hB1
  clear hgrow1 hi hz0 hz1 hz2 hown1 hB1
  go_wp2_with fail
  go_loopw [20] (fun i wr => ∃ k : Nat, k ≤ xs.length ∧ i = .int .i64 k ∧ wr.ownsRow w1.heap.size 2 1 (.slice (some ⟨w1.heap.size, 0, none⟩) xs.length xs.length) xs.length (((placesL cs xs).take k).map (Value.int .i64) ++ List.replicate (xs.length - k) (Value.int .i64 0)) ∧ Below w1.heap.size w1 wr) (fun i _ => xs.length - (intOf i).toNat)
  case atStart => exact ⟨0, Nat.zero_le _, rfl, by simpa using unhide HO1, unhide HB1⟩
  case round =>
    obtain ⟨k, hk, rfl, hown, hB⟩ := hrel
    clear HO1 HB1
    by_cases hlt : k < xs.length
    · obtain ⟨b, off, rfl, hbl⟩ := Lay.sl_addr (unhide HX) (by omega)
      obtain ⟨row, hc, hr⟩ := Lay.row_at (unhide HX) hlt
      replace hr := hr.later hB
      obtain ⟨a1, d1, rfl, R1⟩ := open_Item hr
      have c0 : wr.cell? ⟨b, off + k * 2, none⟩ = some (.int .i64 (xs[k]).id) := (hB.cell (p := ⟨b, off + k * 2, none⟩) hbl).trans (hc 0 (by decide))
      have c1 : wr.cell? ⟨b, off + k * 2 + 1, none⟩ = some (.slice a1 (xs[k]).vec.length d1) := (hB.cell (p := ⟨b, off + k * 2 + 1, none⟩) hbl).trans (hc 1 (by decide))
      have hvx := unhide HXV xs[k] (List.getElem_mem hlt)
      have hpl := places_at cs xs k hlt
      clear hc hr
      generalize hx : xs[k] = x at *
      clear hx
      have L := hide (nearC _ cs _ x.vec wr ((unhide HC).later hB) (Lay.ints_reads R1) (unhide HFC) hvx)
      have HPL := hide hpl
      have HO := hide hown
      have HB2 := hide hB
      clear R1 hvx hpl hown hB
      generalize nearS cs x.vec = ns at *
      generalize hnr : near cs x.vec = nr at *
      clear hnr
      go_wp2_with fail
      refine (unhide L).mono ?_
      rintro e w3 ⟨rfl, hb⟩
      have o2 := own_below (unhide HO) hb
      have hcd : ∃ u, w3.cell? ⟨w1.heap.size, k, none⟩ = some u := by
        rw [o2.cellAt k (by omega)]
        exact ⟨_, List.getElem?_eq_getElem (by simp [places_len]; omega)⟩
      obtain ⟨u, hcd⟩ := hcd
      have hfz := o2.frozenAt k
      have hlg := (o2.lt w1.heap.size rfl).2
      have hst := o2.stored k (.int .i64 ((placesL cs xs).getD k 0))
      have hsf := set_fill (placesL cs xs) k (by rw [places_len]; exact hlt)
      rw [places_len] at hsf
      rw [hsf, unhide HPL] at hst
      have HO3 := hide hst.1
      have HB3 : Hid (Below w1.heap.size w1 (w3.setCell ⟨w1.heap.size, k, none⟩ (.int .i64 (nr : Int)))) := ((unhide HB2).trans (hb.mono (unhide HB2).size)).setCell (by simp) _
      clear hst hsf o2 hb L HO HB2 c0 c1
      go_wp2_with fail
      go_roundw
      case rel => exact ⟨k + 1, by omega, by go_num, unhide HO3, unhide HB3⟩
      case measure => simp [intOf]; omega
    · obtain rfl : k = xs.length := by omega
      have e1 : (placesL cs xs).take xs.length = placesL cs xs := by rw [← places_len cs xs, List.take_length]
      rw [e1, Nat.sub_self, List.replicate_zero, List.append_nil] at hown
      have hO := Lay.ownInts (zs := placesL cs xs) (base := w1.heap.size) (T := 2) (places_wf (unhide HFC) (unhide HXV)) (by rw [places_len]; omega) (by rw [places_len]; exact hown)
      have bR := (unhide HR).keep hB
      have z0 : wr.cell? ⟨w.heap.size, 0, none⟩ = some (.int .i64 0) := bR.at 0 _ rfl
      have z1 : wr.cell? ⟨w.heap.size, 1, none⟩ = some (.slice none 0 0) := bR.at 1 _ rfl
      have f0 := bR.soft 0
      have f1 := bR.soft 1
      have l0 := bR.lt
      have HB9 := hide ((unhide HB).trans (hB.mono (unhide HB).size))
      have HO9 := hide hO
      clear hown hB hO bR e1
      go_wp2_with fail
      refine bodyPost_ret (v := .agg #[.int .i64 0, (.slice (some ⟨w1.heap.size, 0, none⟩) xs.length xs.length)]) (by simp [results, Try.results16, go_sem, z0, z1]) rfl ?_
      have hE : Ext (fun c => c = w.heap.size) wr ((wr.setCell ⟨w.heap.size, 0, none⟩ (.int .i64 0)).setCell ⟨w.heap.size, 1, none⟩ (.slice (some ⟨w1.heap.size, 0, none⟩) xs.length xs.length)) := ((Ext.refl (fun c => c = w.heap.size) _).setCell ⟨w.heap.size, 0, none⟩ _ rfl).setCell ⟨w.heap.size, 1, none⟩ _ rfl
      exact ⟨[.int .i64 0, (.slice (some ⟨w1.heap.size, 0, none⟩) xs.length xs.length)], rfl, own_intsR6 (by decide) (((unhide HO9).ext hE (fun c h1 _ h3 => by omega)).mono (by omega) (by simp)), ((unhide HB9).setCell (by simp) _).setCell (by simp) _⟩

set_option maxRecDepth 10000 in
theorem implAssign_bad (v : Value) (cs : List DCenter) (vx : Value) (xs : List DItem) (w : World) (hcs : (Lay.sl Lay.tCenter).Reads w [v] cs) (h : (Lay.sl Lay.tItem).Reads w [vx] xs) (hf : askFault cs xs ≠ 0) :
    Calls Try.prog 16 #[v, vx] w fun e w' => ∃ cs', e = .returned (.agg cs'.toArray) ∧ Lay.tIntsResult.OwnIn w' cs' ⟨askFault cs xs, []⟩ w.heap.size w'.heap.size ∧ Below w.heap.size w w' := by
  have HB0 : Below w.heap.size w (w.alloc (.cells #[.int .i64 0, .slice none 0 0] 37)) := (Below.refl _ _).alloc (Nat.le_refl _) _
  have bR : Box w.heap.size #[.int .i64 0, .slice none 0 0] 37 (w.alloc (.cells #[.int .i64 0, .slice none 0 0] 37)) w.heap.size := newBox (Nat.le_refl _)
  have hc1 := hcs.later HB0
  have hx1 := h.later HB0
  obtain ⟨ao, cap, rfl⟩ := open_sl hcs
  obtain ⟨ao2, cap2, rfl⟩ := open_sl h
  have hd : (askFault cs xs != 0) = true := by simpa using hf
  clear hcs h hf
  go_enter Try.func16, Try.ntmps16
  go_wp2_with fail
  generalize w.alloc (.cells #[.int .i64 0, .slice none 0 0] 37) = W0 at *
  refine (implAsk6 _ cs _ xs W0 hc1 hx1).mono ?_
  rintro e w1 ⟨rfl, hb⟩
  replace bR := bR.keep hb
  replace HB0 := HB0.trans (hb.mono HB0.size)
  have z0 : w1.cell? ⟨w.heap.size, 0, none⟩ = some (.int .i64 0) := bR.at 0 _ rfl
  have z1 : w1.cell? ⟨w.heap.size, 1, none⟩ = some (.slice none 0 0) := bR.at 1 _ rfl
  have f0 := bR.soft 0
  have f1 := bR.soft 1
  have l0 := bR.lt
  have HB := hide HB0
  clear hb HB0 bR hc1 hx1
  go_wp2_with fail
  refine bodyPost_ret (v := .agg #[.int .i64 (askFault cs xs), .slice none 0 0]) (by simp [results, Try.results16, go_sem, z0, z1]) rfl ?_
  exact ⟨[.int .i64 (askFault cs xs), .slice none 0 0], rfl, own_codeInts6 (askFault_wf cs xs), ((unhide HB).setCell (by simp) _).setCell (by simp) _⟩

/-- AssignAll of the program. -/
theorem implAssign (v : Value) (cs : List DCenter) (vx : Value) (xs : List DItem) (w : World) (hcs : (Lay.sl Lay.tCenter).Reads w [v] cs) (h : (Lay.sl Lay.tItem).Reads w [vx] xs) :
    Calls Try.prog 16 #[v, vx] w fun e w' => ∃ cs', e = .returned (.agg cs'.toArray) ∧ Lay.tIntsResult.OwnIn w' cs' (assignR cs xs) w.heap.size w'.heap.size ∧ Below w.heap.size w w' := by
  by_cases hf : askFault cs xs = 0
  · rw [show assignR cs xs = ⟨0, placesL cs xs⟩ from if_pos hf]
    obtain ⟨ao, cap, rfl⟩ := open_sl h
    exact implAssign_ok v cs ao cap xs w hcs h hf
  · rw [show assignR cs xs = ⟨askFault cs xs, []⟩ from if_neg hf]
    exact implAssign_bad v cs vx xs w hcs h hf

end Go.Proofs.Ytjofcmdlcoganaa

namespace Go.Proofs.Ytjofcmdlcoganaa
open Go.RowKit

set_option maxRecDepth 10000 in
set_option maxHeartbeats 1000000 in
theorem implNearest (v : Value) (cs : List DCenter) (vq : Value) (q : List Int) (w : World) (h : (Lay.sl Lay.tCenter).Reads w [v] cs) (hq : (Lay.sl Lay.int).Reads w [vq] q) :
    Calls Try.prog 17 #[v, vq] w fun e w' => ∃ cs', e = .returned (.agg cs'.toArray) ∧ Lay.tIntResult.OwnIn w' cs' (nearestR cs q) w.heap.size w'.heap.size ∧ Below w.heap.size w w' := by
  have HB0 : Below w.heap.size w (w.alloc (.cells #[.int .i64 0, .int .i64 0] 33)) := (Below.refl _ _).alloc (Nat.le_refl _) _
  have bR : Box w.heap.size #[.int .i64 0, .int .i64 0] 33 (w.alloc (.cells #[.int .i64 0, .int .i64 0] 33)) w.heap.size := newBox (Nat.le_refl _)
  have h0 := h.later HB0
  have HQ := hide (Lay.ints_reads (hq.later HB0))
  obtain ⟨ao, cap, rfl⟩ := open_sl h
  obtain ⟨ao2, cap2, rfl⟩ := open_sl hq
  clear h hq
  go_enter Try.func17, Try.ntmps17
  go_wp2_with fail
  generalize w.alloc (.cells #[.int .i64 0, .int .i64 0] 33) = W0 at *
  refine (implCen _ cs W0 h0).mono ?_
  rintro e w1 ⟨rfl, hb⟩
  have H := hide (h0.later hb)
  replace HQ := hide ((unhide HQ).later hb)
  replace bR := bR.keep hb
  replace HB0 := HB0.trans (hb.mono HB0.size)
  have z0 : w1.cell? ⟨w.heap.size, 0, none⟩ = some (.int .i64 0) := bR.at 0 _ rfl
  have z1 : w1.cell? ⟨w.heap.size, 1, none⟩ = some (.int .i64 0) := bR.at 1 _ rfl
  have f0 := bR.soft 0
  have f1 := bR.soft 1
  have l0 := bR.lt
  have HB := hide HB0
  have HR := hide bR
  clear hb HB0 bR h0
  by_cases hf : centersFault cs = 0
  · rw [hf]
    go_wp2_with fail
    refine (implFault _ q _ (unhide HQ)).mono ?_
    rintro e w1 ⟨rfl, rfl⟩
    by_cases hfq : vecFault q = 0
    · rw [hfq]
      have HG : Hid (nearestR cs q = ⟨0, near cs q⟩) := by
        show nearestR cs q = _
        rw [nearestR, if_pos hf, if_pos hfq]
      have hlt := near_lt hf hfq
      have hle := (centersFault_zero hf).1.2
      have HN := hide (nearC _ cs _ q w1 (unhide H) (unhide HQ) hf hfq)
      clear hf hfq H HQ z0 z1 f0 f1 l0
      go_wp2_with fail
      refine (unhide HN).mono ?_
      rintro e w2 ⟨rfl, hb⟩
      have bR := (unhide HR).keep hb
      have z0 : w2.cell? ⟨w.heap.size, 0, none⟩ = some (.int .i64 0) := bR.at 0 _ rfl
      have z1 : w2.cell? ⟨w.heap.size, 1, none⟩ = some (.int .i64 0) := bR.at 1 _ rfl
      have f0 := bR.soft 0
      have f1 := bR.soft 1
      have l0 := bR.lt
      have HB9 := hide ((unhide HB).trans (hb.mono (unhide HB).size))
      clear hb bR HB HR HN
      generalize near cs q = nr at *
      generalize nearS cs q = ns at *
      go_wp2_with fail
      refine bodyPost_ret (v := .agg #[.int .i64 0, .int .i64 nr]) (by simp [results, Try.results17, go_sem, z0, z1]) rfl ?_
      rw [unhide HG]
      exact ⟨[.int .i64 0, .int .i64 nr], rfl, own_intR (by decide) (wf_of_bd (by omega)), ((unhide HB9).setCell (by simp) _).setCell (by simp) _⟩
    · have HG : Hid (nearestR cs q = ⟨vecFault q, 0⟩) := by
        show nearestR cs q = _
        rw [nearestR, if_pos hf, if_neg hfq]
      have hd : (vecFault q != 0) = true := by simpa using hfq
      have HC : Hid ((Lit.int .i64 (vecFault q)).wf = true) := wf_of_bd (by have := vecFault_bd q; omega)
      clear hf hfq HQ H
      go_wp2_with fail
      refine bodyPost_ret (v := .agg #[.int .i64 (vecFault q), .int .i64 0]) (by simp [results, Try.results17, go_sem, z0, z1]) rfl ?_
      rw [unhide HG]
      exact ⟨[.int .i64 (vecFault q), .int .i64 0], rfl, own_intR (unhide HC) (by decide), ((unhide HB).setCell (by simp) _).setCell (by simp) _⟩
  · have HG : Hid (nearestR cs q = ⟨centersFault cs, 0⟩) := by
      show nearestR cs q = _
      rw [nearestR, if_neg hf]
    have hd : (centersFault cs != 0) = true := by simpa using hf
    clear hf HQ H
    go_wp2_with fail
    refine bodyPost_ret (v := .agg #[.int .i64 (centersFault cs), .int .i64 0]) (by simp [results, Try.results17, go_sem, z0, z1]) rfl ?_
    rw [unhide HG]
    exact ⟨[.int .i64 (centersFault cs), .int .i64 0], rfl, own_intR (centersFault_wf cs) (by decide), ((unhide HB).setCell (by simp) _).setCell (by simp) _⟩

end Go.Proofs.Ytjofcmdlcoganaa

namespace Go.Proofs.Ytjofcmdlcoganaa
open Go.RowKit

theorem vcnt_CentersResult (x : DCentersResult) : Lay.tCentersResult.vcnt x = (Lay.sl Lay.tCenter).vcnt x.centers := by
  show 0 + ((Lay.sl Lay.tCenter).vcnt x.centers) = (Lay.sl Lay.tCenter).vcnt x.centers
  omega
theorem mkv_CentersResult (k : Int) (x : DCentersResult) : Lay.tCentersResult.mkv k x = ⟨x.code, (Lay.sl Lay.tCenter).mkv (k) x.centers⟩ := by
  simp [Lay.tCentersResult, Lay.via, Lay.pair, Lay.int]
theorem own_CentersResult {w : World} {cs : List Value} {x : DCentersResult} {bl : List Nat} (h : Lay.tCentersResult.Own w cs x bl) : ∃ (a1 : Option Addr) (d1 : Nat) (g1 : List Nat), cs = [.int .i64 x.code, .slice a1 x.centers.length d1] ∧ bl = g1 ∧ (Lay.sl Lay.tCenter).Own w [.slice a1 x.centers.length d1] x.centers g1 ∧ (Lit.int .i64 x.code).wf = true := by
  obtain ⟨hl, hn, hf⟩ := h
  obtain ⟨a1, d1, b1, rfl, hbl, w0, l1⟩ := lies_CentersResult.1 hl
  rw [hbl] at hn hf
  exact ⟨a1, d1, b1, rfl, hbl, ⟨l1, hn, hf⟩, w0⟩
theorem mkOwn_CentersResult {w : World} {x : DCentersResult} {c1 : List Value} {g1 : List Nat} (O1 : (Lay.sl Lay.tCenter).Own w c1 x.centers g1) (v0 : (Lit.int .i64 x.code).wf = true) (hn : (g1).Nodup) : Lay.tCentersResult.Own w ([.int .i64 x.code] ++ c1) x (g1) := by
  refine ⟨⟨[.int .i64 x.code], c1, [], g1, rfl, by simp, ⟨rfl, v0, rfl⟩, O1.1⟩, hn, ?_⟩
  intro b hb o
  exact O1.2.2 b hb o

end Go.Proofs.Ytjofcmdlcoganaa
