/-
  Texts of this proof in one: ImplCrash, SpecInts, SpecUnpackB, SpecUnpackPutOk, SpecUnpackPutBad, SpecUnpackOtherOk, SpecUnpackOtherBad, SpecUnpack, SpecRead8, SpecLogF, AppIntsAt, SpecCrash, ImplSync, CloneC.
  Their conditions stand in their theorems.
-/
import Derived.Test.YtipomhpimmnchaaTq04
import Derived.Test.YtipomhpimmnchaaChecked
import Derived.Test.YtipomhpimmnchaaTq03
import Derived.BigQuiet
import Derived.Deep.QuietTactic
import Derived.WalkSmall
import Derived.Test.YtipomhpimmnchaaTq02
import Derived.Deep.RegionHeld3
import Derived.Deep.CutRange
import Derived.Test.YtipomhpimmnchaaTq01

namespace Go.Proofs.Ytipomhpimmnchaa
open Go.RowKit

theorem intsR_own {w : World} {y : DIntsResult} {lo hi : Nat} {c : Value} {v : Value} (h : Lay.tIntsResult.OwnIn w [c, v] y lo hi) : (Lay.sl Lay.int).OwnIn w [v] y.list lo hi := by
  obtain ⟨bl, ⟨⟨c1, c2, b1, b2, e, rfl, ⟨rfl, hc, rfl⟩, l⟩, hd, hf⟩, hr⟩ := h
  obtain rfl : c2 = [v] := by simpa using (List.cons.inj e).2.symm
  exact ⟨b2, ⟨l, hd, hf⟩, hr⟩

set_option maxRecDepth 100000 in
set_option maxHeartbeats 4000000 in
theorem implCrashLog (cs : List Value) (x : DLog) (kept : Int) (w : World) (h : Lay.tLog.Reads w cs x) (n1 : x.sure.length ≤ 10000000) (n2 : x.loose.length ≤ 10000000) :
    Calls Try.prog 46 #[.agg cs.toArray, .int .i64 kept] w fun e w' => ∃ cs, e = .returned (.agg cs.toArray) ∧ Lay.tLogResult.OwnIn w' cs (crashLogR x kept) w.heap.size w'.heap.size ∧ Below w.heap.size w w' := by
  obtain ⟨a0, d0, a1, d1, rfl, R0, R1⟩ := open_Log h
  have nb : Below w.heap.size w ((w.alloc (.cells #[.slice a0 x.sure.length d0, .slice a1 x.loose.length d1] 48)).alloc (.cells #[.int .i64 0, .int .i64 0, .slice none 0 0, .slice none 0 0] 56)) := ((Below.refl _ _).alloc (Nat.le_refl _) _).alloc (by simp) _
  have bX : Box w.heap.size #[.slice a0 x.sure.length d0, .slice a1 x.loose.length d1] 48 ((w.alloc (.cells #[.slice a0 x.sure.length d0, .slice a1 x.loose.length d1] 48)).alloc (.cells #[.int .i64 0, .int .i64 0, .slice none 0 0, .slice none 0 0] 56)) w.heap.size := (newBox (Nat.le_refl _)).grow _
  have bR : Box 0 #[.int .i64 0, .int .i64 0, .slice none 0 0, .slice none 0 0] 56 ((w.alloc (.cells #[.slice a0 x.sure.length d0, .slice a1 x.loose.length d1] 48)).alloc (.cells #[.int .i64 0, .int .i64 0, .slice none 0 0, .slice none 0 0] 56)) (w.heap.size + 1) := newBoxAt (Nat.zero_le _) (by simp)
  have HL := hide (implLogFault _ x _ (h.later nb) n1 n2)
  have H0 := hide R0
  have H1 := hide R1
  have HX0 := hide bX
  have HR0 := hide bR
  have HB0 := hide nb
  clear h nb bX bR R0 R1
  go_enter Try.func46, Try.ntmps46
  go_wp2_with fail
  generalize (w.alloc (.cells #[.slice a0 x.sure.length d0, .slice a1 x.loose.length d1] 48)).alloc (.cells #[.int .i64 0, .int .i64 0, .slice none 0 0, .slice none 0 0] 56) = W0 at *
  refine (unhide HL).mono ?_
  rintro e W2 ⟨rfl, hb⟩
  have HX := hide ((unhide HX0).keep hb)
  have HR := hide ((unhide HR0).keep hb)
  have HB2 := hide ((unhide HB0).trans (hb.mono (unhide HB0).size))
  clear hb HL HX0 HR0 HB0
  by_cases hf : logFault x = 0
  · obtain ⟨hn, hs, hl⟩ := logFault_zero hf
    have HF := hide hf
    have HSU := hide hs
    have HLO := hide hl
    rw [hf]
    clear hf hs hl
    have x1 := (unhide HX).at 1 _ rfl
    have x0 := (unhide HX).at 0 _ rfl
    simp only [List.getElem_toArray, List.getElem_cons_zero, List.getElem_cons_succ] at x0 x1
    have hxl := (unhide HX).lt
    by_cases hk : 0 ≤ kept ∧ kept ≤ x.loose.length
    · have HY0 : Hid (crashLogR x kept = logOf ((keptOf x kept).take (8 * cnt (keptOf x kept))) []) := by show crashLogR x kept = _; rw [crashLogR, if_pos (unhide HF), if_pos hk]
      obtain ⟨k, rfl⟩ : ∃ k : Nat, kept = (k : Int) := ⟨kept.toNat, by omega⟩
      have hk1 : k ≤ x.loose.length := by omega
      have hg1 : decide ((k : Int) < 0) = false := by simp
      have hg2 : decide ((k : Int) > (x.loose.length : Int)) = false := by simp; omega
      obtain ⟨zs, hzs⟩ : ∃ zs, zs = x.sure ++ x.loose.take k := ⟨_, rfl⟩
      have HY : Hid (crashLogR x (k : Int) = logOf (zs.take (8 * cnt zs)) []) := by
        have := unhide HY0
        rw [keptOf, Int.toNat_natCast, ← hzs] at this
        exact this
      have hcl := cnt_clear (unhide HSU) (unhide HLO) hk1 (x.loose.length - 8 * (k / 8))
      rw [← hzs] at hcl
      have HWA : Hid (∀ z ∈ x.sure ++ (x.loose.take (8 * (k / 8)) ++ List.replicate (x.loose.length - 8 * (k / 8)) 0), (Lit.int .i64 z).wf = true) := by
        intro z hz
        rcases List.mem_append.1 hz with hz | hz
        · exact (Lay.ints_reads (unhide H0)).wf z hz
        · rcases List.mem_append.1 hz with hz | hz
          · exact (Lay.ints_reads (unhide H1)).wf z (List.mem_of_mem_take hz)
          · rw [List.eq_of_mem_replicate hz]; decide
      have hzl : zs.length ≤ 320 := by rw [hzs, List.length_append, List.length_take]; omega
      have HCL := hide hcl
      have HTK : Hid (((x.sure ++ x.loose).map (Value.int .i64)).take (x.sure.length + 8 * (k / 8)) ++ List.replicate (x.loose.length - 8 * (k / 8)) (Value.int .i64 0) = (x.sure ++ (x.loose.take (8 * (k / 8)) ++ List.replicate (x.loose.length - 8 * (k / 8)) 0)).map (Value.int .i64)) := by
        show _ = _
        rw [← List.map_take, List.take_length_add_append]
        simp
      clear HF HY0 hk hcl hzs
      have LJ := hide (implJoined _ _ x.sure x.loose W2 ((unhide H0).later (unhide HB2)) ((unhide H1).later (unhide HB2)) n1 n2)
      have hq : ((k : Int).tdiv 8) = ((k / 8 : Nat) : Int) := by rw [Int.tdiv_eq_ediv_of_nonneg (by omega)]; omega
      go_wp2_with fail
      refine (unhide LJ).mono ?_
      rintro e w3 ⟨m, hm, rfl, O3, hb3⟩
      obtain ⟨q8, hq8⟩ : ∃ q8, q8 = k / 8 := ⟨_, rfl⟩
      have hq81 : 8 * q8 ≤ x.loose.length := by omega
      rw [← hq8] at hq HCL HWA HTK
      have b3 := (unhide HX).keep hb3
      have y0 := b3.at 0 _ rfl
      simp only [List.getElem_toArray, List.getElem_cons_zero] at y0
      have hyl := b3.lt
      have HR3 := hide ((unhide HR).keep hb3)
      have HB3 := hide ((unhide HB2).trans (hb3.mono (unhide HB2).size))
      have HG := hide (unhide HR).lt
      have HLL : Hid (W2.heap.size < w3.heap.size) := (O3.lt W2.heap.size rfl).2
      obtain ⟨XS, hXS⟩ : ∃ XS, XS = (x.sure ++ x.loose).map (Value.int .i64) := ⟨_, rfl⟩
      rw [← hXS] at O3 HTK
      have HO3 := hide O3
      clear hb3 b3 LJ O3 hq8 x0 x1 hXS
      obtain ⟨tr, htr⟩ : ∃ tr, tr = x.sure.length + 8 * q8 := ⟨_, rfl⟩
      have hT : (x.sure.length : Int) + (q8 : Int) * 8 = (tr : Int) := by omega
      have htm : tr ≤ m := by omega
      have HLN : Hid (m - tr = x.loose.length - 8 * q8) := by show m - tr = _; omega
      have HTR := hide htr
      have HM := hide hm
      have hm9 : m ≤ 320 := by omega
      clear htr hm
      have HFIN0 : Hid (∀ w5 : World, w5.ownsRow W2.heap.size 2 1 (.slice (some ⟨W2.heap.size, 0, none⟩) m m) m (XS.take tr ++ List.replicate (m - tr) (Value.int .i64 0)) → (Lay.sl Lay.int).Reads w5 [.slice (some ⟨W2.heap.size, 0, none⟩) m m] (x.sure ++ (x.loose.take (8 * q8) ++ List.replicate (x.loose.length - 8 * q8) 0))) := fun w5 h5 => by
        rw [unhide HLN, unhide HTR, unhide HTK] at h5
        have hl : (x.sure ++ (x.loose.take (8 * q8) ++ List.replicate (x.loose.length - 8 * q8) (0 : Int))).length = m := by rw [List.length_append, List.length_append, List.length_take, List.length_replicate, unhide HM]; omega
        have h6 := Lay.ownInts (zs := x.sure ++ (x.loose.take (8 * q8) ++ List.replicate (x.loose.length - 8 * q8) 0)) (unhide HWA) (by omega) (by rw [hl]; exact h5)
        exact h6.reads
      obtain ⟨ys, hys⟩ : ∃ ys, ys = x.sure ++ (x.loose.take (8 * q8) ++ List.replicate (x.loose.length - 8 * q8) (0 : Int)) := ⟨_, rfl⟩
      have HYL : Hid (ys.length = m) := by show ys.length = m; rw [hys, List.length_append, List.length_append, List.length_take, List.length_replicate, unhide HM]; omega
      rw [← hys] at HFIN0 HCL
      clear hys HWA HTK HTR
      by_cases htt : tr = m
      · subst htt
        have M2 : Hid (tr + 0 = tr) := by show tr + _ = _; omega
        go_wp2_with (refine wpList_clear_row rfl _ _ rfl Try.underlying24 ((some ⟨W2.heap.size, 0, none⟩)) (0) (0) (by rfl) W2.heap.size W2.heap.size tr tr _ (unhide HO3) (fun h => absurd h (Nat.lt_irrefl 0)) (unhide M2) ?_)
        intro w5 HG5 hE5
        have hYR := unhide HFIN0 w5 (by have := unhide HG5; rw [Nat.sub_self]; simpa using this)
        have HR5 := hide ((unhide HR3).ext hE5 (by have := unhide HG; omega))
        have HB5 := hide ((unhide HB3).trans (hE5.below (unhide HB3).size (fun q hq e => by have h1 := unhide HG; omega)))
        have hz5 := hE5.size
        have HRD := hide (implReadLog _ ys w5 hYR)
        have hyr : readLogR ys = ⟨0, readL ys⟩ := by rw [readLogR, if_neg (by have := unhide HYL; omega)]
        rw [hyr] at HRD
        have HLG := hide (Nat.lt_of_lt_of_le (unhide HLL) hz5)
        clear HG5 hE5 HO3 hYR HR3 HB3 M2 hyr HFIN0 y0 hz5
        go_wp2_with fail
        refine (unhide HRD).mono ?_
        rintro e w6 ⟨cs6, rfl, O6, hb6⟩
        obtain ⟨a6, d6, rfl, R6⟩ := open_WritesResult O6.reads
        have HR6 := hide ((unhide HR5).keep hb6)
        have HB6 := hide ((unhide HB5).trans (hb6.mono (unhide HB5).size))
        have HLG6 := hide (Nat.lt_of_lt_of_le (unhide HLG) hb6.size)
        have LP := hide (implPackAll _ (readL ys) w6 R6)
        have hpr : packAllR (readL ys) = ⟨0, ys.take (8 * cnt ys)⟩ := by
          rw [packAllR, if_neg (by rw [read_len]; have := cnt_le ys; have := unhide HYL; omega), if_pos (wsFrom_of (readL_right ys)), packs_read]
        rw [hpr] at LP
        simp only at LP ⊢
        clear O6 R6 hb6 HRD HR5 HB5 HLG hpr
        obtain ⟨rn, hrn⟩ : ∃ rn, rn = (readL ys).length := ⟨_, rfl⟩
        rw [← hrn] at LP ⊢
        have hfl : ∀ W : World, (Instr.field 36 (.agg #[.int .i64 0, .slice a6 rn d6]) 1).run Try.prog W = .ok (.slice a6 rn d6) W := fun _ => by kernel_rfl
        clear hrn
        go_wp2_with fail
        refine (unhide LP).mono ?_
        rintro e w7 ⟨cs7, rfl, O7, hb7⟩
        obtain ⟨a7, d7, rfl, -⟩ := open_IntsResult O7.reads
        have HOI := hide (intsR_own O7)
        have HR7 := hide ((unhide HR6).keep hb7)
        have HB7 := hide ((unhide HB6).trans (hb7.mono (unhide HB6).size))
        have HZ7 := hide hb7.size
        have hEQ : ys.take (8 * cnt ys) = zs.take (8 * cnt zs) := by
          have h1 := (unhide HCL).1
          have h2 := (unhide HCL).2
          rw [h1]
          exact h2
        simp only at HOI ⊢
        rw [hEQ] at HOI ⊢
        have hle : (zs.take (8 * cnt zs)).length ≤ 320 := by rw [List.length_take]; omega
        clear O7 hb7 LP HR6 HB6 hfl HCL hEQ
        obtain ⟨qs, hqs⟩ : ∃ qs, qs = zs.take (8 * cnt zs) := ⟨_, rfl⟩
        rw [← hqs] at HOI hle HY ⊢
        obtain ⟨nq, hnq⟩ : ∃ nq, nq = qs.length := ⟨_, rfl⟩
        have HNQ := hide hnq
        rw [← hnq] at HOI hle ⊢
        clear hqs hnq
        have hfl2 : ∀ W : World, (Instr.field 26 (.agg #[.int .i64 0, .slice a7 nq d7]) 1).run Try.prog W = .ok (.slice a7 nq d7) W := fun _ => by kernel_rfl
        have LC := hide (implCounted a7 nq d7 none 0 0 w7 (by omega) (by omega))
        go_wp2_with fail
        refine (unhide LC).mono ?_
        rintro e w4 ⟨cn, hcn, rfl, hb4⟩
        have hlo : w.heap.size + 1 < w6.heap.size := by have h1 := unhide HLG6; have h2 := unhide HG; omega
        have hlo4 : w.heap.size ≤ w6.heap.size := by omega
        have hOW : Lay.tLogResult.OwnIn w4 [.int .i64 0, .int .i64 cn, .slice a7 nq d7, .slice none 0 0] (logOf qs []) w6.heap.size w4.heap.size := by
          have hcw : (Lit.int .i64 cn).wf = true := by rw [hcn]; exact count_wf (by omega)
          have e : logOf qs [] = ⟨0, cn, ⟨qs, []⟩⟩ := by rw [logOf, hcn, unhide HNQ]; rfl
          rw [e]
          have h3 := (unhide HOI).later hb4
          have hz := hb4.size
          exact own_logR (by decide) hcw h3 (nil_own (lo := w7.heap.size) (hi := w4.heap.size)) (Nat.le_refl _) (unhide HZ7) hz
        have bR := (unhide HR7).keep hb4
        have hH4 := (unhide HB7).trans (hb4.mono (unhide HB7).size)
        clear hb4 LC HR7 HOI HR hcn HNQ hfl2
        have z0 := bR.at 0 _ rfl
        have z1 := bR.at 1 _ rfl
        have z2 := bR.at 2 _ rfl
        have z3 := bR.at 3 _ rfl
        have ff := bR.soft
        have l0 := bR.lt
        simp only [List.getElem_toArray, List.getElem_cons_zero, List.getElem_cons_succ] at z0 z1 z2 z3
        have HFIN := hide (own_store' (s := w.heap.size + 1) (vs := [.int .i64 0, .int .i64 cn, .slice a7 nq d7, .slice none 0 0]) hOW hlo)
        have HBF := hide (below_setAll hH4 (w.heap.size + 1) 0 [.int .i64 0, .int .i64 cn, .slice a7 nq d7, .slice none 0 0] (by omega))
        have HSF := hide (size_setAll w4 (w.heap.size + 1) 0 [.int .i64 0, .int .i64 cn, .slice a7 nq d7, .slice none 0 0])
        have HLO4 := hide hlo4
        clear hOW hH4 bR hlo hlo4
        go_wp2_with fail
        refine bodyPost_ret (v := .agg #[.int .i64 0, .int .i64 cn, .slice a7 nq d7, .slice none 0 0]) (by simp [results, Try.results46, go_sem, z0, z1, z2, z3]) rfl ?_
        rw [unhide HY]
        refine ⟨[.int .i64 0, .int .i64 cn, .slice a7 nq d7, .slice none 0 0], rfl, ?_, unhide HBF⟩
        refine (unhide HFIN).mono (unhide HLO4) ?_
        exact Nat.le_of_eq (unhide HSF).symm
      · have htn : ¬ m = tr := fun e => htt e.symm
        obtain ⟨dn, hdn⟩ : ∃ dn, m - tr = dn := ⟨_, rfl⟩
        have M2 : Hid (tr + dn = m) := by show tr + _ = _; omega
        go_wp2_with (refine wpList_clear_row rfl _ _ rfl Try.underlying24 ((some ⟨W2.heap.size, tr, none⟩)) (dn) (dn) (by rfl) W2.heap.size W2.heap.size tr m _ (unhide HO3) (fun _ => rfl) (unhide M2) ?_)
        intro w5 HG5 hE5
        have hYR := unhide HFIN0 w5 (by rw [hdn]; exact unhide HG5)
        have HR5 := hide ((unhide HR3).ext hE5 (by have := unhide HG; omega))
        have HB5 := hide ((unhide HB3).trans (hE5.below (unhide HB3).size (fun q hq e => by have h1 := unhide HG; omega)))
        have hz5 := hE5.size
        have HRD := hide (implReadLog _ ys w5 hYR)
        have hyr : readLogR ys = ⟨0, readL ys⟩ := by rw [readLogR, if_neg (by have := unhide HYL; omega)]
        rw [hyr] at HRD
        have HLG := hide (Nat.lt_of_lt_of_le (unhide HLL) hz5)
        clear HG5 hE5 HO3 hYR HR3 HB3 M2 hyr HFIN0 y0 hz5
        go_wp2_with fail
        refine (unhide HRD).mono ?_
        rintro e w6 ⟨cs6, rfl, O6, hb6⟩
        obtain ⟨a6, d6, rfl, R6⟩ := open_WritesResult O6.reads
        have HR6 := hide ((unhide HR5).keep hb6)
        have HB6 := hide ((unhide HB5).trans (hb6.mono (unhide HB5).size))
        have HLG6 := hide (Nat.lt_of_lt_of_le (unhide HLG) hb6.size)
        have LP := hide (implPackAll _ (readL ys) w6 R6)
        have hpr : packAllR (readL ys) = ⟨0, ys.take (8 * cnt ys)⟩ := by
          rw [packAllR, if_neg (by rw [read_len]; have := cnt_le ys; have := unhide HYL; omega), if_pos (wsFrom_of (readL_right ys)), packs_read]
        rw [hpr] at LP
        simp only at LP ⊢
        clear O6 R6 hb6 HRD HR5 HB5 HLG hpr
        obtain ⟨rn, hrn⟩ : ∃ rn, rn = (readL ys).length := ⟨_, rfl⟩
        rw [← hrn] at LP ⊢
        have hfl : ∀ W : World, (Instr.field 36 (.agg #[.int .i64 0, .slice a6 rn d6]) 1).run Try.prog W = .ok (.slice a6 rn d6) W := fun _ => by kernel_rfl
        clear hrn
        go_wp2_with fail
        refine (unhide LP).mono ?_
        rintro e w7 ⟨cs7, rfl, O7, hb7⟩
        obtain ⟨a7, d7, rfl, -⟩ := open_IntsResult O7.reads
        have HOI := hide (intsR_own O7)
        have HR7 := hide ((unhide HR6).keep hb7)
        have HB7 := hide ((unhide HB6).trans (hb7.mono (unhide HB6).size))
        have HZ7 := hide hb7.size
        have hEQ : ys.take (8 * cnt ys) = zs.take (8 * cnt zs) := by
          have h1 := (unhide HCL).1
          have h2 := (unhide HCL).2
          rw [h1]
          exact h2
        simp only at HOI ⊢
        rw [hEQ] at HOI ⊢
        have hle : (zs.take (8 * cnt zs)).length ≤ 320 := by rw [List.length_take]; omega
        clear O7 hb7 LP HR6 HB6 hfl HCL hEQ
        obtain ⟨qs, hqs⟩ : ∃ qs, qs = zs.take (8 * cnt zs) := ⟨_, rfl⟩
        rw [← hqs] at HOI hle HY ⊢
        obtain ⟨nq, hnq⟩ : ∃ nq, nq = qs.length := ⟨_, rfl⟩
        have HNQ := hide hnq
        rw [← hnq] at HOI hle ⊢
        clear hqs hnq
        have hfl2 : ∀ W : World, (Instr.field 26 (.agg #[.int .i64 0, .slice a7 nq d7]) 1).run Try.prog W = .ok (.slice a7 nq d7) W := fun _ => by kernel_rfl
        have LC := hide (implCounted a7 nq d7 none 0 0 w7 (by omega) (by omega))
        go_wp2_with fail
        refine (unhide LC).mono ?_
        rintro e w4 ⟨cn, hcn, rfl, hb4⟩
        have hlo : w.heap.size + 1 < w6.heap.size := by have h1 := unhide HLG6; have h2 := unhide HG; omega
        have hlo4 : w.heap.size ≤ w6.heap.size := by omega
        have hOW : Lay.tLogResult.OwnIn w4 [.int .i64 0, .int .i64 cn, .slice a7 nq d7, .slice none 0 0] (logOf qs []) w6.heap.size w4.heap.size := by
          have hcw : (Lit.int .i64 cn).wf = true := by rw [hcn]; exact count_wf (by omega)
          have e : logOf qs [] = ⟨0, cn, ⟨qs, []⟩⟩ := by rw [logOf, hcn, unhide HNQ]; rfl
          rw [e]
          have h3 := (unhide HOI).later hb4
          have hz := hb4.size
          exact own_logR (by decide) hcw h3 (nil_own (lo := w7.heap.size) (hi := w4.heap.size)) (Nat.le_refl _) (unhide HZ7) hz
        have bR := (unhide HR7).keep hb4
        have hH4 := (unhide HB7).trans (hb4.mono (unhide HB7).size)
        clear hb4 LC HR7 HOI HR hcn HNQ hfl2
        have z0 := bR.at 0 _ rfl
        have z1 := bR.at 1 _ rfl
        have z2 := bR.at 2 _ rfl
        have z3 := bR.at 3 _ rfl
        have ff := bR.soft
        have l0 := bR.lt
        simp only [List.getElem_toArray, List.getElem_cons_zero, List.getElem_cons_succ] at z0 z1 z2 z3
        have HFIN := hide (own_store' (s := w.heap.size + 1) (vs := [.int .i64 0, .int .i64 cn, .slice a7 nq d7, .slice none 0 0]) hOW hlo)
        have HBF := hide (below_setAll hH4 (w.heap.size + 1) 0 [.int .i64 0, .int .i64 cn, .slice a7 nq d7, .slice none 0 0] (by omega))
        have HSF := hide (size_setAll w4 (w.heap.size + 1) 0 [.int .i64 0, .int .i64 cn, .slice a7 nq d7, .slice none 0 0])
        have HLO4 := hide hlo4
        clear hOW hH4 bR hlo hlo4
        go_wp2_with fail
        refine bodyPost_ret (v := .agg #[.int .i64 0, .int .i64 cn, .slice a7 nq d7, .slice none 0 0]) (by simp [results, Try.results46, go_sem, z0, z1, z2, z3]) rfl ?_
        rw [unhide HY]
        refine ⟨[.int .i64 0, .int .i64 cn, .slice a7 nq d7, .slice none 0 0], rfl, ?_, unhide HBF⟩
        refine (unhide HFIN).mono (unhide HLO4) ?_
        exact Nat.le_of_eq (unhide HSF).symm
    · have HY : Hid (crashLogR x kept = badLog 3) := by show crashLogR x kept = _; rw [crashLogR, if_pos (unhide HF), if_neg hk]
      clear HF
      by_cases h1 : kept < 0
      · have hg1 : decide (kept < 0) = true := by simpa using h1
        have bR := unhide HR
        have z0 := bR.at 0 _ rfl
        have z1 := bR.at 1 _ rfl
        have z2 := bR.at 2 _ rfl
        have z3 := bR.at 3 _ rfl
        have ff := bR.soft
        have l0 := bR.lt
        simp only [List.getElem_toArray, List.getElem_cons_zero, List.getElem_cons_succ] at z0 z1 z2 z3
        clear bR
        go_wp2_with fail
        refine bodyPost_ret (v := .agg #[.int .i64 3, .int .i64 0, .slice none 0 0, .slice none 0 0]) (by simp [results, Try.results46, go_sem, z0, z1, z2, z3]) rfl ?_
        rw [unhide HY]
        have hB9 := below_setAll (unhide HB2) (w.heap.size + 1) 0 [.int .i64 3, .int .i64 0, .slice none 0 0, .slice none 0 0] (by omega)
        exact ⟨[.int .i64 3, .int .i64 0, .slice none 0 0, .slice none 0 0], rfl, own_badLog (by decide) (by have := hB9.size; exact this), hB9⟩
      · have hg1 : decide (kept < 0) = false := by simpa using h1
        have hg2 : decide (kept > (x.loose.length : Int)) = true := by simp; omega
        have bR := unhide HR
        have z0 := bR.at 0 _ rfl
        have z1 := bR.at 1 _ rfl
        have z2 := bR.at 2 _ rfl
        have z3 := bR.at 3 _ rfl
        have ff := bR.soft
        have l0 := bR.lt
        simp only [List.getElem_toArray, List.getElem_cons_zero, List.getElem_cons_succ] at z0 z1 z2 z3
        clear bR
        go_wp2_with fail
        refine bodyPost_ret (v := .agg #[.int .i64 3, .int .i64 0, .slice none 0 0, .slice none 0 0]) (by simp [results, Try.results46, go_sem, z0, z1, z2, z3]) rfl ?_
        rw [unhide HY]
        have hB9 := below_setAll (unhide HB2) (w.heap.size + 1) 0 [.int .i64 3, .int .i64 0, .slice none 0 0, .slice none 0 0] (by omega)
        exact ⟨[.int .i64 3, .int .i64 0, .slice none 0 0, .slice none 0 0], rfl, own_badLog (by decide) (by have := hB9.size; exact this), hB9⟩
  · have hd : (logFault x != 0) = true := by simpa using hf
    have HY : Hid (crashLogR x kept = badLog (logFault x)) := by show crashLogR x kept = _; rw [crashLogR, if_neg hf]
    have HW := hide (logFault_wf x)
    generalize logFault x = c at *
    clear hf
    have bR := unhide HR
    have z0 := bR.at 0 _ rfl
    have z1 := bR.at 1 _ rfl
    have z2 := bR.at 2 _ rfl
    have z3 := bR.at 3 _ rfl
    have ff := bR.soft
    have l0 := bR.lt
    simp only [List.getElem_toArray, List.getElem_cons_zero, List.getElem_cons_succ] at z0 z1 z2 z3
    clear bR
    go_wp2_with fail
    refine bodyPost_ret (v := .agg #[.int .i64 c, .int .i64 0, .slice none 0 0, .slice none 0 0]) (by simp [results, Try.results46, go_sem, z0, z1, z2, z3]) rfl ?_
    rw [unhide HY]
    have hB9 := below_setAll (unhide HB2) (w.heap.size + 1) 0 [.int .i64 c, .int .i64 0, .slice none 0 0, .slice none 0 0] (by omega)
    exact ⟨[.int .i64 c, .int .i64 0, .slice none 0 0, .slice none 0 0], rfl, own_badLog (unhide HW) (by have := hB9.size; exact this), hB9⟩

end Go.Proofs.Ytipomhpimmnchaa

namespace Go.Proofs.Ytipomhpimmnchaa
open Go.RowKit

theorem ne_at_l1Same {ps qs : List Int} {k : Nat} (h : ps.getD k 0 ≠ qs.getD k 0) : decide (ps = qs) = false := by
  simp only [decide_eq_false_iff_not]
  rintro rfl
  exact h rfl
theorem eq_all_l1Same {ps qs : List Int} (hl : ps.length = qs.length) (h : ∀ j, j < ps.length → ps.getD j 0 = qs.getD j 0) : decide (ps = qs) = true := by
  simp only [decide_eq_true_eq]
  refine List.ext_getElem hl fun j h1 h2 => ?_
  have := h j h1
  simpa [List.getD, h1, h2] using this

set_option maxHeartbeats 800000 in
theorem l1Same_pos (b off cap b2 off2 cap2 : Nat) (ps qs : List Int) (w : World) (hl : ps.length = qs.length) (hn : ps.length ≤ 9223372036854775807) (hc : ∀ j, j < ps.length → w.cell? ⟨b, off + j, none⟩ = some (.int .i64 (ps.getD j 0)))
    (hc2 : ∀ j, j < ps.length → w.cell? ⟨b2, off2 + j, none⟩ = some (.int .i64 (qs.getD j 0))) :
    Calls Try.prog 100 #[.slice (some ⟨b, off, none⟩) ps.length cap, .slice (some ⟨b2, off2, none⟩) ps.length cap2] w fun e w' => e = .returned (.bool (decide (ps = qs))) ∧ Below w.heap.size w w' := by
  have HL := hide hl
  clear hl
  go_enter Try.func100, Try.ntmps100
  go_wp2
  go_loopw [5] (fun i wr => ∃ k : Nat, k ≤ ps.length ∧ i = .int .i64 k ∧ Below w.heap.size w wr ∧ ∀ j, j < k → ps.getD j 0 = qs.getD j 0) (fun i _ => ps.length - (intOf i).toNat)
  case atStart => exact ⟨0, Nat.zero_le _, rfl, Below.refl _ _, fun j hj => by omega⟩
  case round =>
    obtain ⟨k, hk, rfl, hB, hq⟩ := hrel
    by_cases hlt : k < ps.length
    · have hcx : wr.cell? ⟨b, off + k, none⟩ = some (.int .i64 (ps.getD k 0)) := (hB.cell (World.block_lt_of_cell? _ _ (hc k hlt))).trans (hc k hlt)
      have hcy : wr.cell? ⟨b2, off2 + k, none⟩ = some (.int .i64 (qs.getD k 0)) := (hB.cell (World.block_lt_of_cell? _ _ (hc2 k hlt))).trans (hc2 k hlt)
      have HQ := hide hq
      have HB := hide hB
      clear hc hc2 hq hB
      by_cases he : ps.getD k 0 = qs.getD k 0
      · have HE := hide he
        rw [← he] at hcy
        clear he
        generalize ps.getD k 0 = x at hcx hcy
        have hxx : (x != x) = false := by simp
        go_wp2
        go_quiet (fail)
        go_wp2
        go_roundw
        case rel =>
          refine ⟨k + 1, by omega, by go_num, below_drewN (unhide HB) _, fun j hj => ?_⟩
          by_cases hjk : j < k
          · exact unhide HQ j hjk
          · obtain rfl : j = k := by omega
            exact unhide HE
        case measure => simp [intOf]; omega
      · have HN := hide (ne_at_l1Same he)
        have hxy : (ps.getD k 0 != qs.getD k 0) = true := by rw [bne_iff_ne]; exact he
        clear he
        generalize ps.getD k 0 = x at hcx hxy
        generalize qs.getD k 0 = y at hcy hxy
        go_wp2
        go_quiet (fail)
        go_wp2
        go_ret
        exact ⟨by rw [unhide HN]; rfl, below_drewN (unhide HB) _⟩
    · obtain rfl : k = ps.length := by omega
      have HN := hide (eq_all_l1Same (unhide HL) hq)
      have HB := hide hB
      clear hc hc2 hq hB
      go_wp2
      go_ret
      exact ⟨by rw [unhide HN]; rfl, unhide HB⟩
set_option maxHeartbeats 400000 in
theorem l1Same_len (ao ao2 : Option Addr) (n m cap cap2 : Nat) (w : World) (h : n ≠ m) :
    Calls Try.prog 100 #[.slice ao n cap, .slice ao2 m cap2] w fun e w' => e = .returned (.bool false) ∧ Below w.heap.size w w' := by
  have hd : ((n : Int) != (m : Int)) = true := by rw [bne_iff_ne]; omega
  go_enter Try.func100, Try.ntmps100
  go_wp2
  go_ret
  exact ⟨rfl, Below.refl _ _⟩
theorem l1Same_zero (ao ao2 : Option Addr) (cap cap2 : Nat) (w : World) :
    Calls Try.prog 100 #[.slice ao 0 cap, .slice ao2 0 cap2] w fun e w' => e = .returned (.bool true) ∧ Below w.heap.size w w' := by
  go_enter Try.func100, Try.ntmps100
  go_wp2
  refine wp_loop_rounds 1 ?_
  rw [rounds_succ]
  go_wp2
  go_ret
  exact ⟨rfl, Below.refl _ _⟩
/-- Whether two lists of numbers are the same. -/
theorem l1Same (v v2 : Value) (ps qs : List Int) (w : World) (h : IsInts w v ps) (h2 : IsInts w v2 qs) (hn : ps.length ≤ 9223372036854775807) :
    Calls Try.prog 100 #[v, v2] w fun e w' => e = .returned (.bool (decide (ps = qs))) ∧ Below w.heap.size w w' := by
  obtain ⟨ao, cap, rfl, hwf, hc⟩ := h
  obtain ⟨ao2, cap2, rfl, _, hc2⟩ := h2
  by_cases hl : ps.length = qs.length
  · by_cases hp : 0 < ps.length
    · obtain ⟨b, off, rfl, hc1⟩ := hc hp
      obtain ⟨b2, off2, rfl, hc3⟩ := hc2 (by omega)
      rw [← hl] at hc3 ⊢
      exact l1Same_pos b off cap b2 off2 cap2 ps qs w hl hn hc1 hc3
    · obtain rfl : ps = [] := List.eq_nil_of_length_eq_zero (by omega)
      obtain rfl : qs = [] := List.eq_nil_of_length_eq_zero (by simpa using hl.symm)
      exact l1Same_zero ao ao2 cap cap2 w
  · rw [show decide (ps = qs) = false by simp only [decide_eq_false_iff_not]; rintro rfl; exact hl rfl]
    exact l1Same_len ao ao2 _ _ cap cap2 w hl

end Go.Proofs.Ytipomhpimmnchaa

namespace Go.Proofs.Ytipomhpimmnchaa
open Go.RowKit

/-- What l3Unpack tells: a write, whether it is right. -/
def ToldU (w w' : World) (e : Ending) (x : DWrite) (ok : Bool) : Prop := ∃ cs, e = .returned (.tuple #[.agg cs.toArray, .bool ok]) ∧ Lay.tWrite.LiesIn w' cs x w.heap.size w'.heap.size ∧ Below w.heap.size w w'

theorem readsW {w : World} {x : DWrite} {v : Value} {lo hi : Nat} (h : (Lay.sl Lay.int).LiesIn w [v] x.vec lo hi) (h1 : (Lit.int .i64 x.kind).wf = true) (h2 : (Lit.int .i64 x.id).wf = true) (h3 : (Lit.int .i64 x.session).wf = true) (h4 : (Lit.int .i64 x.seq).wf = true) :
    Lay.tWrite.LiesIn w [.int .i64 x.kind, .int .i64 x.id, v, .int .i64 x.session, .int .i64 x.seq] x lo hi := by
  obtain ⟨bl, hl, hb⟩ := h
  have hl' := hl
  obtain ⟨ao, cap, e, -⟩ := hl'
  obtain rfl : v = .slice ao x.vec.length cap := by simpa using e
  exact ⟨bl, lies_Write.2 ⟨ao, cap, bl, rfl, rfl, h1, h2, hl, h3, h4⟩, hb⟩

/-- A write stored into the result's own block: what is known of the others stays. -/
theorem storeS {w wa : World} {sx hi : Nat} {xs cs : Array Value} {T T2 : TypeId} {cv : List Value} {zs : List Int} {vs : List Value} (hb : Below w.heap.size w wa) (bX : Box 0 xs T wa sx) (bR : Box 0 cs T2 wa w.heap.size) (hv : (Lay.sl Lay.int).LiesIn wa cv zs (sx + 1) hi) (hz : hi ≤ wa.heap.size) (hsx : w.heap.size < sx) (hl : cs.size = vs.length) :
    Below w.heap.size w (setAll wa w.heap.size 0 vs) ∧ Box 0 xs T (setAll wa w.heap.size 0 vs) sx ∧ (∃ cs' : Array Value, cs'.size = vs.length ∧ Box 0 cs' T2 (setAll wa w.heap.size 0 vs) w.heap.size) ∧ (Lay.sl Lay.int).LiesIn (setAll wa w.heap.size 0 vs) cv zs (sx + 1) hi ∧ hi ≤ (setAll wa w.heap.size 0 vs).heap.size := by
  have E := ext_setAll (fun q => q = w.heap.size) (Ext.refl _ wa) w.heap.size 0 vs rfl
  refine ⟨below_setAll hb _ _ _ (Nat.le_refl _), bX.ext E (by omega), ?_, hv.ext E (fun k h1 _ h3 => by omega), by rw [size_setAll]; exact hz⟩
  have : ∀ (l : List Value) (i : Nat) (W : World) (c : Array Value), Box 0 c T2 W w.heap.size → ∃ c' : Array Value, c'.size = c.size ∧ Box 0 c' T2 (setAll W w.heap.size i l) w.heap.size := by
    intro l
    induction l with
    | nil => intro i W c h; exact ⟨c, rfl, h⟩
    | cons v l ih =>
      intro i W c h
      obtain ⟨c', h1, h2⟩ := ih (i + 1) _ _ (h.set i v)
      exact ⟨c', by rw [h1]; simp, h2⟩
  obtain ⟨c', h1, h2⟩ := this vs 0 wa cs bR
  exact ⟨c', h1.trans hl, h2⟩

end Go.Proofs.Ytipomhpimmnchaa

namespace Go.Proofs.Ytipomhpimmnchaa
open Go.RowKit

set_option maxRecDepth 100000 in
set_option maxHeartbeats 4000000 in
theorem l3Unpack_put_ok (b off cap : Nat) (i s q x y z c : Int) (w : World) (h : IsInts w (.slice (some ⟨b, off, none⟩) 8 cap) [1, i, s, q, x, y, z, c]) (hcap : 8 ≤ cap) (hf : writeFault 1 i [x, y, z] s q = 0) :
    Calls Try.prog 87 #[.slice (some ⟨b, off, none⟩) 8 cap] w fun e w' => ToldU w w' e (unpackW [1, i, s, q, x, y, z, c]) (decide (wordsOf 1 i [x, y, z] s q = [1, i, s, q, x, y, z, c])) := by
  have hc : ∀ j, j < 8 → w.cell? ⟨b, off + j, none⟩ = some (.int .i64 ([1, i, s, q, x, y, z, c].getD j 0)) := by
    obtain ⟨ao, cp, e, -, hc⟩ := h
    obtain ⟨b', off', rfl, hc1⟩ := hc (by simp)
    simp only [Value.slice.injEq, Option.some.injEq, Addr.mk.injEq, and_true] at e
    obtain ⟨⟨rfl, rfl⟩, -, -⟩ := e
    exact hc1
  have c0 : w.cell? ⟨b, off, none⟩ = some (.int .i64 1) := hc 0 (by omega)
  have c1 : w.cell? ⟨b, off + 1, none⟩ = some (.int .i64 i) := hc 1 (by omega)
  have c2 : w.cell? ⟨b, off + 2, none⟩ = some (.int .i64 s) := hc 2 (by omega)
  have c3 : w.cell? ⟨b, off + 3, none⟩ = some (.int .i64 q) := hc 3 (by omega)
  have hwf := h.wf
  have f0 : (Lit.int .i64 1).wf = true := hwf 1 (by simp)
  have f1 : (Lit.int .i64 i).wf = true := hwf i (by simp)
  have f2 : (Lit.int .i64 s).wf = true := hwf s (by simp)
  have f3 : (Lit.int .i64 q).wf = true := hwf q (by simp)
  have HV : Hid (∀ u ∈ [x, y, z], (Lit.int .i64 u).wf = true) := fun u hu => hwf u (by simp at hu; rcases hu with rfl | rfl | rfl <;> simp)
  have hv : IsInts w (.slice (some ⟨b, off + 4, none⟩) 3 (cap - 4)) [x, y, z] := by
    refine ⟨_, _, rfl, fun u hu => hwf u (by simp at hu; rcases hu with rfl | rfl | rfl <;> simp), fun _ => ⟨b, off + 4, rfl, fun j hj => ?_⟩⟩
    have := hc (4 + j) (by simp at hj; omega)
    rw [Nat.add_assoc, this]
    simp at hj
    rcases j with _ | _ | _ | j <;> first | rfl | omega
  have HF := hide (And.intro f0 (And.intro f1 (And.intro f2 f3)))
  have H := hide h
  have HFL := hide hf
  clear h hc hwf f0 f1 f2 f3 hf
  have nb : Below w.heap.size w (w.alloc (.cells #[.int .i64 0, .int .i64 0, .slice none 0 0, .int .i64 0, .int .i64 0] 58)) := (Below.refl _ _).alloc (Nat.le_refl _) _
  have bR : Box 0 #[.int .i64 0, .int .i64 0, .slice none 0 0, .int .i64 0, .int .i64 0] 58 (w.alloc (.cells #[.int .i64 0, .int .i64 0, .slice none 0 0, .int .i64 0, .int .i64 0] 58)) w.heap.size := newBox (Nat.zero_le _)
  have d0 := cell_keep nb c0
  have d1 := cell_keep nb c1
  have d2 := cell_keep nb c2
  have d3 := cell_keep nb c3
  clear c0 c1 c2 c3
  go_enter Try.func87, Try.ntmps87
  go_wp2_with fail
  generalize w.alloc (.cells #[.int .i64 0, .int .i64 0, .slice none 0 0, .int .i64 0, .int .i64 0] 58) = W0 at *
  first
    | go_region_held3 (fun w' => w'.cell? ⟨b, off, none⟩ = some (.int .i64 1) ∧ w'.cell? ⟨b, off + 1, none⟩ = some (.int .i64 i) ∧ w'.cell? ⟨b, off + 2, none⟩ = some (.int .i64 s) ∧ w'.cell? ⟨b, off + 3, none⟩ = some (.int .i64 q))
        (first
          | exact ⟨d0, d1, d2, d3⟩
          | (refine ⟨(World.grownBy_alloc _ _ none).cell ?_ (by simp), (World.grownBy_alloc _ _ none).cell ?_ (by simp), (World.grownBy_alloc _ _ none).cell ?_ (by simp), (World.grownBy_alloc _ _ none).cell ?_ (by simp)⟩ <;> assumption)
          | go_keep)
        (fail)
    | fail
  clear d0 d1 d2 d3
  have nb1 : Below W0.heap.size W0 (W0.alloc (.cells #[.int .i64 1, .int .i64 i, .slice none 0 0, .int .i64 s, .int .i64 q] 58)).drew := ((Below.refl _ _).alloc (Nat.le_refl _) _).drew
  have bX : Box 0 #[.int .i64 1, .int .i64 i, .slice none 0 0, .int .i64 s, .int .i64 q] 58 (W0.alloc (.cells #[.int .i64 1, .int .i64 i, .slice none 0 0, .int .i64 s, .int .i64 q] 58)).drew W0.heap.size := (newBox (Nat.zero_le _)).drew
  generalize (W0.alloc (.cells #[.int .i64 1, .int .i64 i, .slice none 0 0, .int .i64 s, .int .i64 q] 58)).drew = W1 at *
  have hX := bX.lt
  have hR := bR.lt
  replace bR := bR.keep nb1
  have HB1 := hide (nb.trans (nb1.mono nb.size))
  replace hv := (hv.later nb).later nb1
  clear nb nb1
  generalize hs0 : W0.heap.size = sx at *
  clear hs0
  have x0 := bX.at 0 _ rfl
  have x1 := bX.at 1 _ rfl
  have x2 := bX.at 2 _ rfl
  have x3 := bX.at 3 _ rfl
  have x4 := bX.at 4 _ rfl
  go_wp2_with fail
  refine (l1Ints _ [x, y, z] _ hv (by simp)).mono ?_
  rintro e w2 ⟨v2, rfl, O, hb⟩
  replace bR := bR.keep hb
  replace bX := bX.keep hb
  replace HB1 := hide ((unhide HB1).trans (hb.mono (unhide HB1).size))
  have hz2 := hb.size
  clear hb hv x0 x1 x2 x3 x4
  obtain ⟨a2, p2, rfl⟩ := own_shape O
  have x0 := bX.at 0 _ rfl
  have x1 := bX.at 1 _ rfl
  have x2 := bX.at 2 _ rfl
  have x3 := bX.at 3 _ rfl
  have x4 := bX.at 4 _ rfl
  have xf := bX.soft 2
  have hX2 := bX.lt
  have HO := hide O
  have HR := hide bR
  have HX := hide bX
  clear O bR bX
  simp only [List.length_cons, List.length_nil, Nat.zero_add, Nat.reduceAdd] at HO
  go_wp2_with fail
  have bX : Box 0 #[.int .i64 1, .int .i64 i, .slice a2 3 p2, .int .i64 s, .int .i64 q] 58 (w2.setCell ⟨sx, 2, none⟩ (.slice a2 3 p2)) sx := (unhide HX).set 2 (.slice a2 3 p2)
  have bR := (unhide HR).other ⟨sx, 2, none⟩ (.slice a2 3 p2) (by simp; omega)
  have O := own_setC (a := ⟨sx, 2, none⟩) (unhide HO) (by simpa using hX) (.slice a2 3 p2)
  have HB2 : Hid (Below w.heap.size w (w2.setCell ⟨sx, 2, none⟩ (.slice a2 3 p2))) := (unhide HB1).setCell (by simp; omega) _
  clear HB1
  have HB1 := HB2
  clear HB2
  clear HX HR HO x0 x1 x2 x3 x4 xf
  have hz3 : w2.heap.size ≤ (w2.setCell ⟨sx, 2, none⟩ (.slice a2 3 p2)).heap.size := by simp
  generalize w2.setCell ⟨sx, 2, none⟩ (.slice a2 3 p2) = W2 at *
  have HVI : Hid ((Lay.sl Lay.int).LiesIn W2 [.slice a2 3 p2] [x, y, z] (sx + 1) W2.heap.size) := ((Lay.ownInts (unhide HV) (by simp) O).mono (lo' := sx + 1) (by omega) (Nat.le_refl _)).lies
  clear O
  have HWW : Hid (∀ u ∈ wordsOf 1 i [x, y, z] s q, (Lit.int .i64 u).wf = true) := by
    have := packList_wf (k := 1) (i := i) (s := s) (q := q) (zs := [x, y, z])
    rw [packList, if_pos (unhide HFL)] at this
    exact this
  refine wp_region_noPanic ?_
  refine wp_region_held_drew (S := fun w' => Below w.heap.size w w' ∧ Box 0 #[.int .i64 1, .int .i64 i, .slice a2 3 p2, .int .i64 s, .int .i64 q] 58 w' sx ∧ (∃ cs : Array Value, cs.size = 5 ∧ Box 0 cs 58 w' w.heap.size) ∧ (Lay.sl Lay.int).LiesIn w' [.slice a2 3 p2] [x, y, z] (sx + 1) W2.heap.size ∧ W2.heap.size ≤ w'.heap.size) (by kernel_rfl) ⟨(unhide HB1).drew, bX.drew, ⟨_, rfl, bR.drew⟩, unhide HVI, Nat.le_refl _⟩ (fun hHeld => ?_)
  generalize W2.drew = wD at hHeld ⊢
  refine wpAnyH_take (i := 0) (oi := { dst := some 29, op := Go.Op.load 58 (Go.Operand.tmp 4), type := 58, pos := "l03_write.go:52", after := #[], guard := none }) (v := ?v0) rfl (by kernel_rfl) (by kernel_rfl) (by kernel_rfl) (fun _ _ _ h => h) (Or.inl ⟨by rfl, ?h0⟩) hHeld ?r0
  case h0 =>
    intro wS hSw
    have y0 := hSw.2.1.at 0 _ rfl
    have y1 := hSw.2.1.at 1 _ rfl
    have y2 := hSw.2.1.at 2 _ rfl
    have y3 := hSw.2.1.at 3 _ rfl
    have y4 := hSw.2.1.at 4 _ rfl
    simp only [List.getElem_toArray, List.getElem_cons_zero, List.getElem_cons_succ] at y0 y1 y2 y3 y4
    clear hSw
    (try dsimp only at hSw)
    go_simp
    try with_reducible rfl
  case r0 =>
  simp only [Act.put, List.setIfInBounds_toArray, List.set_cons_zero, List.set_cons_succ]
  refine wpAnyH_ready (rs := [1]) (by kernel_rfl) (by simp) ?_
  refine AllReadyH.cons (o := { dst := some 30, op := Go.Op.call { callee := Go.Callee.value (Go.Operand.func 53), args := #[Go.Operand.tmp 4], argTypes := #[77] }, type := 2, pos := "l03_write.go:52", after := #[], guard := none }) rfl (fun K hK => ?_) AllReadyH.nil
  go_simp
  go_at_call 53
  refine (l3Fault sx 1 i _ s q [x, y, z] _ ⟨hHeld.2.1.at 0 _ rfl, hHeld.2.1.at 1 _ rfl, hHeld.2.1.at 2 _ rfl, hHeld.2.1.at 3 _ rfl, hHeld.2.1.at 4 _ rfl⟩ (Lay.ints_reads hHeld.2.2.2.1.reads)).mono ?_
  rintro e wE ⟨rfl, hwe⟩
  subst hwe
  rw [unhide HFL]
  try go_wp2_with fail
  refine hK.out _ _ hHeld (fun hHeld => ?_)
  clear hK K
  try simp only [Act.put, List.setIfInBounds_toArray, List.set_cons_zero, List.set_cons_succ]
  refine wpAnyH_take (i := 2) (oi := { dst := some 31, op := Go.Op.binOp Go.BinOp.eql 2 (Go.Operand.tmp 30) (Go.Operand.const (Go.Value.int Go.IntKind.i64 0)) 2, type := 4, pos := "l03_write.go:52", after := #[{ on := 1, ground := Go.Ground.data }], guard := none }) (v := ?v2) rfl (by kernel_rfl) (by kernel_rfl) (by kernel_rfl) (fun _ _ _ h => h) (Or.inl ⟨by rfl, ?h2⟩) hHeld ?r2
  case h2 =>
    intro wS hSw
    (try dsimp only at hSw)
    go_simp
    try with_reducible rfl
  case r2 =>
  simp only [Act.put, List.setIfInBounds_toArray, List.set_cons_zero, List.set_cons_succ]
  refine wpAnyH_take (i := 3) (oi := { dst := some 32, op := Go.Op.move (Go.Operand.tmp 31), type := 4, pos := "l03_write.go:52", after := #[{ on := 2, ground := Go.Ground.data }, { on := 1, ground := Go.Ground.chain }], guard := none }) (v := ?v3) rfl (by kernel_rfl) (by kernel_rfl) (by kernel_rfl) (fun _ _ _ h => h) (Or.inl ⟨by rfl, ?h3⟩) hHeld ?r3
  case h3 =>
    intro wS hSw
    (try dsimp only at hSw)
    go_simp
    try with_reducible rfl
  case r3 =>
  simp only [Act.put, List.setIfInBounds_toArray, List.set_cons_zero, List.set_cons_succ]
  refine wpAnyH_take (i := 5) (oi := { dst := some 34, op := Go.Op.move (Go.Operand.tmp 0), type := 24, pos := "l03_write.go:52", after := #[{ on := 3, ground := Go.Ground.guard }], guard := some (3, true) }) (v := ?v5) rfl (by kernel_rfl) (by kernel_rfl) (by kernel_rfl) (fun _ _ _ h => h) (Or.inl ⟨by rfl, ?h5⟩) hHeld ?r5
  case h5 =>
    intro wS hSw
    (try dsimp only at hSw)
    go_simp
    try with_reducible rfl
  case r5 =>
  simp only [Act.put, List.setIfInBounds_toArray, List.set_cons_zero, List.set_cons_succ]
  refine wpAnyH_ready (rs := [4]) (by kernel_rfl) (by simp) ?_
  refine AllReadyH.cons (o := { dst := some 33, op := Go.Op.call { callee := Go.Callee.value (Go.Operand.func 66), args := #[Go.Operand.tmp 4], argTypes := #[77] }, type := 24, pos := "l03_write.go:52", after := #[{ on := 3, ground := Go.Ground.chain }, { on := 3, ground := Go.Ground.guard }], guard := some (3, true) }) rfl (fun K hK => ?_) AllReadyH.nil
  go_simp
  go_at_call 66
  refine (l3Pack sx 1 i _ s q [x, y, z] _ ⟨hHeld.2.1.at 0 _ rfl, hHeld.2.1.at 1 _ rfl, hHeld.2.1.at 2 _ rfl, hHeld.2.1.at 3 _ rfl, hHeld.2.1.at 4 _ rfl⟩ (Lay.ints_reads hHeld.2.2.2.1.reads) (unhide HFL)).mono ?_
  rintro e w4 ⟨g4, rfl, O4, hbw⟩
  have I4 := isInts_row (zs := wordsOf 1 i [x, y, z] s q) (unhide HWW) O4
  try go_wp2_with fail
  refine hK.out _ _ ⟨hHeld.1.trans (hbw.mono hHeld.1.size), hHeld.2.1.keep hbw, (by obtain ⟨cs, h1, h2⟩ := hHeld.2.2.1; exact ⟨cs, h1, h2.keep hbw⟩), hHeld.2.2.2.1.later hbw, Nat.le_trans hHeld.2.2.2.2 hbw.size⟩ (fun hHeld => ?_)
  clear hK K
  try simp only [Act.put, List.setIfInBounds_toArray, List.set_cons_zero, List.set_cons_succ]
  refine wpAnyH_ready (rs := [6]) (by kernel_rfl) (by simp) ?_
  refine AllReadyH.cons (o := { dst := some 35, op := Go.Op.call { callee := Go.Callee.value (Go.Operand.func 100), args := #[Go.Operand.tmp 33, Go.Operand.tmp 34], argTypes := #[24, 24] }, type := 4, pos := "l03_write.go:52", after := #[{ on := 4, ground := Go.Ground.data }, { on := 5, ground := Go.Ground.data }, { on := 4, ground := Go.Ground.chain }, { on := 3, ground := Go.Ground.guard }], guard := some (3, true) }) rfl (fun K hK => ?_) AllReadyH.nil
  go_simp
  go_at_call 100
  refine (l1Same _ _ (wordsOf 1 i [x, y, z] s q) [1, i, s, q, x, y, z, c] _ I4 ((unhide H).later hHeld.1) (by simp [wordsOf])).mono ?_
  rintro e w5 ⟨rfl, hbw⟩
  try go_wp2_with fail
  refine hK.out _ _ ⟨hHeld.1.trans (hbw.mono hHeld.1.size), hHeld.2.1.keep hbw, (by obtain ⟨cs, h1, h2⟩ := hHeld.2.2.1; exact ⟨cs, h1, h2.keep hbw⟩), hHeld.2.2.2.1.later hbw, Nat.le_trans hHeld.2.2.2.2 hbw.size⟩ (fun hHeld => ?_)
  clear hK K
  try simp only [Act.put, List.setIfInBounds_toArray, List.set_cons_zero, List.set_cons_succ]
  refine wpAnyH_take (i := 7) (oi := { dst := some 36, op := Go.Op.pick (Go.Operand.tmp 32) (Go.Operand.tmp 35) (Go.Operand.const (Go.Value.bool false)), type := 4, pos := "l03_write.go:52", after := #[{ on := 3, ground := Go.Ground.data }, { on := 6, ground := Go.Ground.data }, { on := 8, ground := Go.Ground.gcOnly Go.Departure.lateStores }], guard := none }) (v := ?v7) rfl (by kernel_rfl) (by kernel_rfl) (by kernel_rfl) (fun _ _ _ h => h) (Or.inl ⟨by rfl, ?h7⟩) hHeld ?r7
  case h7 =>
    intro wS hSw
    (try dsimp only at hSw)
    go_simp
    try with_reducible rfl
  case r7 =>
  simp only [Act.put, List.setIfInBounds_toArray, List.set_cons_zero, List.set_cons_succ]
  refine wpAnyH_ready (rs := [8]) (by kernel_rfl) (by simp) ?_
  refine AllReadyH.cons (o := { dst := none, op := Go.Op.store 58 (Go.Operand.tmp 2) (Go.Operand.tmp 29), type := 0, pos := "l03_write.go:52", after := #[{ on := 0, ground := Go.Ground.data }, { on := 6, ground := Go.Ground.chain }, { on := 0, ground := Go.Ground.phase }, { on := 1, ground := Go.Ground.textOnly Go.Departure.lateStoresUnsure }, { on := 2, ground := Go.Ground.textOnly Go.Departure.lateStores }, { on := 3, ground := Go.Ground.textOnly Go.Departure.lateStores }, { on := 4, ground := Go.Ground.textOnly Go.Departure.lateStoresUnsure }, { on := 5, ground := Go.Ground.textOnly Go.Departure.lateStores }, { on := 6, ground := Go.Ground.textOnly Go.Departure.lateStoresUnsure }, { on := 7, ground := Go.Ground.textOnly Go.Departure.lateStores }], guard := none }) rfl (fun K hK => ?_) AllReadyH.nil
  obtain ⟨hb9, bX9, ⟨cs9, hs9, bR9⟩, hv9, hz9⟩ := hHeld
  obtain ⟨q0, q1, q2, q3, q4, rfl⟩ : ∃ q0 q1 q2 q3 q4 : Value, cs9 = #[q0, q1, q2, q3, q4] := by
    obtain ⟨l⟩ := cs9
    match l, hs9 with
    | [q0, q1, q2, q3, q4], _ => exact ⟨q0, q1, q2, q3, q4, rfl⟩
  have e0 : w5.cell? ⟨w.heap.size, 0, none⟩ = some q0 := bR9.at 0 _ rfl
  have e1 : w5.cell? ⟨w.heap.size, 1, none⟩ = some q1 := bR9.at 1 _ rfl
  have e2 : w5.cell? ⟨w.heap.size, 2, none⟩ = some q2 := bR9.at 2 _ rfl
  have e3 : w5.cell? ⟨w.heap.size, 3, none⟩ = some q3 := bR9.at 3 _ rfl
  have e4 : w5.cell? ⟨w.heap.size, 4, none⟩ = some q4 := bR9.at 4 _ rfl
  have ef : ∀ o, w5.frozen? ⟨w.heap.size, o, none⟩ = false := bR9.soft
  have el : w.heap.size < w5.heap.size := bR9.lt
  go_simp
  try go_wp2_with fail
  refine hK.out _ _ (storeS (vs := [.int .i64 1, .int .i64 i, .slice a2 3 p2, .int .i64 s, .int .i64 q]) hb9 bX9 bR9 hv9 hz9 (by omega) rfl) (fun hHeld => ?_)
  clear hK K
  try simp only [Act.put, List.setIfInBounds_toArray, List.set_cons_zero, List.set_cons_succ]
  refine wpAnyH_take (i := 9) (oi := { dst := some 3, op := Go.Op.assign (Go.Operand.tmp 36), type := 4, pos := "l03_write.go:52", after := #[{ on := 7, ground := Go.Ground.data }, { on := 8, ground := Go.Ground.chain }, { on := 0, ground := Go.Ground.phase }, { on := 1, ground := Go.Ground.phase }, { on := 2, ground := Go.Ground.phase }, { on := 3, ground := Go.Ground.phase }, { on := 4, ground := Go.Ground.phase }, { on := 5, ground := Go.Ground.phase }, { on := 6, ground := Go.Ground.phase }, { on := 7, ground := Go.Ground.phase }, { on := 8, ground := Go.Ground.phase }], guard := none }) (v := ?v9) rfl (by kernel_rfl) (by kernel_rfl) (by kernel_rfl) (fun _ _ _ h => h) (Or.inl ⟨by rfl, ?h9⟩) hHeld ?r9
  case h9 =>
    intro wS hSw
    (try dsimp only at hSw)
    go_simp
    try with_reducible rfl
  case r9 =>
  simp only [Act.put, List.setIfInBounds_toArray, List.set_cons_zero, List.set_cons_succ]
  refine wpAnyH_done (by kernel_rfl) ?_ _
  refine NoPanic.normal ?_
  have HS := hide hHeld
  clear hHeld
  go_wp2_with fail
  refine bodyPost_ret (v := .tuple #[.agg #[.int .i64 1, .int .i64 i, .slice a2 3 p2, .int .i64 s, .int .i64 q], .bool (decide (wordsOf 1 i [x, y, z] s q = [1, i, s, q, x, y, z, c]))]) (by simp [results, Try.results87, go_sem, e0, e1, e2, e3, e4]) rfl ?_
  obtain ⟨f0, f1, f2, f3⟩ := unhide HF
  have hlo : w.heap.size ≤ sx + 1 := by omega
  obtain ⟨s1, -, -, s4, s5⟩ := unhide HS
  refine ⟨[.int .i64 1, .int .i64 i, .slice a2 3 p2, .int .i64 s, .int .i64 q], rfl, ?_, s1⟩
  refine readsW (x := unpackW [1, i, s, q, x, y, z, c]) ?_ f0 f1 f2 f3
  rw [show (unpackW [1, i, s, q, x, y, z, c]).vec = [x, y, z] by simp [unpackW]]
  exact s4.mono hlo s5

end Go.Proofs.Ytipomhpimmnchaa

namespace Go.Proofs.Ytipomhpimmnchaa
open Go.RowKit

set_option maxRecDepth 100000 in
set_option maxHeartbeats 4000000 in
theorem l3Unpack_put_bad (b off cap : Nat) (i s q x y z c : Int) (w : World) (h : IsInts w (.slice (some ⟨b, off, none⟩) 8 cap) [1, i, s, q, x, y, z, c]) (hcap : 8 ≤ cap) (hf : writeFault 1 i [x, y, z] s q ≠ 0) :
    Calls Try.prog 87 #[.slice (some ⟨b, off, none⟩) 8 cap] w fun e w' => ToldU w w' e (unpackW [1, i, s, q, x, y, z, c]) false := by
  have hc : ∀ j, j < 8 → w.cell? ⟨b, off + j, none⟩ = some (.int .i64 ([1, i, s, q, x, y, z, c].getD j 0)) := by
    obtain ⟨ao, cp, e, -, hc⟩ := h
    obtain ⟨b', off', rfl, hc1⟩ := hc (by simp)
    simp only [Value.slice.injEq, Option.some.injEq, Addr.mk.injEq, and_true] at e
    obtain ⟨⟨rfl, rfl⟩, -, -⟩ := e
    exact hc1
  have c0 : w.cell? ⟨b, off, none⟩ = some (.int .i64 1) := hc 0 (by omega)
  have c1 : w.cell? ⟨b, off + 1, none⟩ = some (.int .i64 i) := hc 1 (by omega)
  have c2 : w.cell? ⟨b, off + 2, none⟩ = some (.int .i64 s) := hc 2 (by omega)
  have c3 : w.cell? ⟨b, off + 3, none⟩ = some (.int .i64 q) := hc 3 (by omega)
  have hwf := h.wf
  have f0 : (Lit.int .i64 1).wf = true := hwf 1 (by simp)
  have f1 : (Lit.int .i64 i).wf = true := hwf i (by simp)
  have f2 : (Lit.int .i64 s).wf = true := hwf s (by simp)
  have f3 : (Lit.int .i64 q).wf = true := hwf q (by simp)
  have HV : Hid (∀ u ∈ [x, y, z], (Lit.int .i64 u).wf = true) := fun u hu => hwf u (by simp at hu; rcases hu with rfl | rfl | rfl <;> simp)
  have hv : IsInts w (.slice (some ⟨b, off + 4, none⟩) 3 (cap - 4)) [x, y, z] := by
    refine ⟨_, _, rfl, fun u hu => hwf u (by simp at hu; rcases hu with rfl | rfl | rfl <;> simp), fun _ => ⟨b, off + 4, rfl, fun j hj => ?_⟩⟩
    have := hc (4 + j) (by simp at hj; omega)
    rw [Nat.add_assoc, this]
    simp at hj
    rcases j with _ | _ | _ | j <;> first | rfl | omega
  have HF := hide (And.intro f0 (And.intro f1 (And.intro f2 f3)))
  have H := hide h
  have HFL := hide hf
  clear h hc hwf f0 f1 f2 f3 hf
  have nb : Below w.heap.size w (w.alloc (.cells #[.int .i64 0, .int .i64 0, .slice none 0 0, .int .i64 0, .int .i64 0] 58)) := (Below.refl _ _).alloc (Nat.le_refl _) _
  have bR : Box 0 #[.int .i64 0, .int .i64 0, .slice none 0 0, .int .i64 0, .int .i64 0] 58 (w.alloc (.cells #[.int .i64 0, .int .i64 0, .slice none 0 0, .int .i64 0, .int .i64 0] 58)) w.heap.size := newBox (Nat.zero_le _)
  have d0 := cell_keep nb c0
  have d1 := cell_keep nb c1
  have d2 := cell_keep nb c2
  have d3 := cell_keep nb c3
  clear c0 c1 c2 c3
  go_enter Try.func87, Try.ntmps87
  go_wp2_with fail
  generalize w.alloc (.cells #[.int .i64 0, .int .i64 0, .slice none 0 0, .int .i64 0, .int .i64 0] 58) = W0 at *
  first
    | go_region_held3 (fun w' => w'.cell? ⟨b, off, none⟩ = some (.int .i64 1) ∧ w'.cell? ⟨b, off + 1, none⟩ = some (.int .i64 i) ∧ w'.cell? ⟨b, off + 2, none⟩ = some (.int .i64 s) ∧ w'.cell? ⟨b, off + 3, none⟩ = some (.int .i64 q))
        (first
          | exact ⟨d0, d1, d2, d3⟩
          | (refine ⟨(World.grownBy_alloc _ _ none).cell ?_ (by simp), (World.grownBy_alloc _ _ none).cell ?_ (by simp), (World.grownBy_alloc _ _ none).cell ?_ (by simp), (World.grownBy_alloc _ _ none).cell ?_ (by simp)⟩ <;> assumption)
          | go_keep)
        (fail)
    | fail
  clear d0 d1 d2 d3
  have nb1 : Below W0.heap.size W0 (W0.alloc (.cells #[.int .i64 1, .int .i64 i, .slice none 0 0, .int .i64 s, .int .i64 q] 58)).drew := ((Below.refl _ _).alloc (Nat.le_refl _) _).drew
  have bX : Box 0 #[.int .i64 1, .int .i64 i, .slice none 0 0, .int .i64 s, .int .i64 q] 58 (W0.alloc (.cells #[.int .i64 1, .int .i64 i, .slice none 0 0, .int .i64 s, .int .i64 q] 58)).drew W0.heap.size := (newBox (Nat.zero_le _)).drew
  generalize (W0.alloc (.cells #[.int .i64 1, .int .i64 i, .slice none 0 0, .int .i64 s, .int .i64 q] 58)).drew = W1 at *
  have hX := bX.lt
  have hR := bR.lt
  replace bR := bR.keep nb1
  have HB1 := hide (nb.trans (nb1.mono nb.size))
  replace hv := (hv.later nb).later nb1
  clear nb nb1
  generalize hs0 : W0.heap.size = sx at *
  clear hs0
  have x0 := bX.at 0 _ rfl
  have x1 := bX.at 1 _ rfl
  have x2 := bX.at 2 _ rfl
  have x3 := bX.at 3 _ rfl
  have x4 := bX.at 4 _ rfl
  go_wp2_with fail
  refine (l1Ints _ [x, y, z] _ hv (by simp)).mono ?_
  rintro e w2 ⟨v2, rfl, O, hb⟩
  replace bR := bR.keep hb
  replace bX := bX.keep hb
  replace HB1 := hide ((unhide HB1).trans (hb.mono (unhide HB1).size))
  have hz2 := hb.size
  clear hb hv x0 x1 x2 x3 x4
  obtain ⟨a2, p2, rfl⟩ := own_shape O
  have x0 := bX.at 0 _ rfl
  have x1 := bX.at 1 _ rfl
  have x2 := bX.at 2 _ rfl
  have x3 := bX.at 3 _ rfl
  have x4 := bX.at 4 _ rfl
  have xf := bX.soft 2
  have hX2 := bX.lt
  have HO := hide O
  have HR := hide bR
  have HX := hide bX
  clear O bR bX
  simp only [List.length_cons, List.length_nil, Nat.zero_add, Nat.reduceAdd] at HO
  go_wp2_with fail
  have bX : Box 0 #[.int .i64 1, .int .i64 i, .slice a2 3 p2, .int .i64 s, .int .i64 q] 58 (w2.setCell ⟨sx, 2, none⟩ (.slice a2 3 p2)) sx := (unhide HX).set 2 (.slice a2 3 p2)
  have bR := (unhide HR).other ⟨sx, 2, none⟩ (.slice a2 3 p2) (by simp; omega)
  have O := own_setC (a := ⟨sx, 2, none⟩) (unhide HO) (by simpa using hX) (.slice a2 3 p2)
  have HB2 : Hid (Below w.heap.size w (w2.setCell ⟨sx, 2, none⟩ (.slice a2 3 p2))) := (unhide HB1).setCell (by simp; omega) _
  clear HB1
  have HB1 := HB2
  clear HB2
  clear HX HR HO x0 x1 x2 x3 x4 xf
  have hz3 : w2.heap.size ≤ (w2.setCell ⟨sx, 2, none⟩ (.slice a2 3 p2)).heap.size := by simp
  generalize w2.setCell ⟨sx, 2, none⟩ (.slice a2 3 p2) = W2 at *
  have HVI : Hid ((Lay.sl Lay.int).LiesIn W2 [.slice a2 3 p2] [x, y, z] (sx + 1) W2.heap.size) := ((Lay.ownInts (unhide HV) (by simp) O).mono (lo' := sx + 1) (by omega) (Nat.le_refl _)).lies
  clear O
  have hne : (writeFault 1 i [x, y, z] s q == 0) = false := by simpa using unhide HFL
  refine wp_region_noPanic ?_
  refine wp_region_held_drew (S := fun w' => Below w.heap.size w w' ∧ Box 0 #[.int .i64 1, .int .i64 i, .slice a2 3 p2, .int .i64 s, .int .i64 q] 58 w' sx ∧ (∃ cs : Array Value, cs.size = 5 ∧ Box 0 cs 58 w' w.heap.size) ∧ (Lay.sl Lay.int).LiesIn w' [.slice a2 3 p2] [x, y, z] (sx + 1) W2.heap.size ∧ W2.heap.size ≤ w'.heap.size) (by kernel_rfl) ⟨(unhide HB1).drew, bX.drew, ⟨_, rfl, bR.drew⟩, unhide HVI, Nat.le_refl _⟩ (fun hHeld => ?_)
  generalize W2.drew = wD at hHeld ⊢
  refine wpAnyH_take (i := 0) (oi := { dst := some 29, op := Go.Op.load 58 (Go.Operand.tmp 4), type := 58, pos := "l03_write.go:52", after := #[], guard := none }) (v := ?v0) rfl (by kernel_rfl) (by kernel_rfl) (by kernel_rfl) (fun _ _ _ h => h) (Or.inl ⟨by rfl, ?h0⟩) hHeld ?r0
  case h0 =>
    intro wS hSw
    have y0 := hSw.2.1.at 0 _ rfl
    have y1 := hSw.2.1.at 1 _ rfl
    have y2 := hSw.2.1.at 2 _ rfl
    have y3 := hSw.2.1.at 3 _ rfl
    have y4 := hSw.2.1.at 4 _ rfl
    simp only [List.getElem_toArray, List.getElem_cons_zero, List.getElem_cons_succ] at y0 y1 y2 y3 y4
    clear hSw
    (try dsimp only at hSw)
    go_simp
    try with_reducible rfl
  case r0 =>
  simp only [Act.put, List.setIfInBounds_toArray, List.set_cons_zero, List.set_cons_succ]
  refine wpAnyH_ready (rs := [1]) (by kernel_rfl) (by simp) ?_
  refine AllReadyH.cons (o := { dst := some 30, op := Go.Op.call { callee := Go.Callee.value (Go.Operand.func 53), args := #[Go.Operand.tmp 4], argTypes := #[77] }, type := 2, pos := "l03_write.go:52", after := #[], guard := none }) rfl (fun K hK => ?_) AllReadyH.nil
  go_simp
  go_at_call 53
  refine (l3Fault sx 1 i _ s q [x, y, z] _ ⟨hHeld.2.1.at 0 _ rfl, hHeld.2.1.at 1 _ rfl, hHeld.2.1.at 2 _ rfl, hHeld.2.1.at 3 _ rfl, hHeld.2.1.at 4 _ rfl⟩ (Lay.ints_reads hHeld.2.2.2.1.reads)).mono ?_
  rintro e wE ⟨rfl, hwe⟩
  subst hwe
  skip
  try go_wp2_with fail
  refine hK.out _ _ hHeld (fun hHeld => ?_)
  clear hK K
  try simp only [Act.put, List.setIfInBounds_toArray, List.set_cons_zero, List.set_cons_succ]
  refine wpAnyH_take (i := 2) (oi := { dst := some 31, op := Go.Op.binOp Go.BinOp.eql 2 (Go.Operand.tmp 30) (Go.Operand.const (Go.Value.int Go.IntKind.i64 0)) 2, type := 4, pos := "l03_write.go:52", after := #[{ on := 1, ground := Go.Ground.data }], guard := none }) (v := ?v2) rfl (by kernel_rfl) (by kernel_rfl) (by kernel_rfl) (fun _ _ _ h => h) (Or.inl ⟨by rfl, ?h2⟩) hHeld ?r2
  case h2 =>
    intro wS hSw
    (try dsimp only at hSw)
    go_simp
    try with_reducible rfl
  case r2 =>
  simp only [Act.put, List.setIfInBounds_toArray, List.set_cons_zero, List.set_cons_succ]
  refine wpAnyH_take (i := 3) (oi := { dst := some 32, op := Go.Op.move (Go.Operand.tmp 31), type := 4, pos := "l03_write.go:52", after := #[{ on := 2, ground := Go.Ground.data }, { on := 1, ground := Go.Ground.chain }], guard := none }) (v := ?v3) rfl (by kernel_rfl) (by kernel_rfl) (by kernel_rfl) (fun _ _ _ h => h) (Or.inl ⟨by rfl, ?h3⟩) hHeld ?r3
  case h3 =>
    intro wS hSw
    (try dsimp only at hSw)
    go_simp
    try with_reducible rfl
  case r3 =>
  simp only [Act.put, List.setIfInBounds_toArray, List.set_cons_zero, List.set_cons_succ]
  refine wpAnyH_take (i := 4) (oi := { dst := some 33, op := Go.Op.call { callee := Go.Callee.value (Go.Operand.func 66), args := #[Go.Operand.tmp 4], argTypes := #[77] }, type := 24, pos := "l03_write.go:52", after := #[{ on := 3, ground := Go.Ground.chain }, { on := 3, ground := Go.Ground.guard }], guard := some (3, true) }) (v := undef) rfl (by kernel_rfl) (by kernel_rfl) (by kernel_rfl) (fun _ _ _ h => h) (Or.inr ⟨by rfl, rfl⟩) hHeld ?_
  simp only [Act.put, List.setIfInBounds_toArray, List.set_cons_zero, List.set_cons_succ]
  refine wpAnyH_take (i := 5) (oi := { dst := some 34, op := Go.Op.move (Go.Operand.tmp 0), type := 24, pos := "l03_write.go:52", after := #[{ on := 3, ground := Go.Ground.guard }], guard := some (3, true) }) (v := undef) rfl (by kernel_rfl) (by kernel_rfl) (by kernel_rfl) (fun _ _ _ h => h) (Or.inr ⟨by rfl, rfl⟩) hHeld ?_
  simp only [Act.put, List.setIfInBounds_toArray, List.set_cons_zero, List.set_cons_succ]
  refine wpAnyH_take (i := 6) (oi := { dst := some 35, op := Go.Op.call { callee := Go.Callee.value (Go.Operand.func 100), args := #[Go.Operand.tmp 33, Go.Operand.tmp 34], argTypes := #[24, 24] }, type := 4, pos := "l03_write.go:52", after := #[{ on := 4, ground := Go.Ground.data }, { on := 5, ground := Go.Ground.data }, { on := 4, ground := Go.Ground.chain }, { on := 3, ground := Go.Ground.guard }], guard := some (3, true) }) (v := undef) rfl (by kernel_rfl) (by kernel_rfl) (by kernel_rfl) (fun _ _ _ h => h) (Or.inr ⟨by rfl, rfl⟩) hHeld ?_
  simp only [Act.put, List.setIfInBounds_toArray, List.set_cons_zero, List.set_cons_succ]
  refine wpAnyH_take (i := 7) (oi := { dst := some 36, op := Go.Op.pick (Go.Operand.tmp 32) (Go.Operand.tmp 35) (Go.Operand.const (Go.Value.bool false)), type := 4, pos := "l03_write.go:52", after := #[{ on := 3, ground := Go.Ground.data }, { on := 6, ground := Go.Ground.data }, { on := 8, ground := Go.Ground.gcOnly Go.Departure.lateStores }], guard := none }) (v := ?v7) rfl (by kernel_rfl) (by kernel_rfl) (by kernel_rfl) (fun _ _ _ h => h) (Or.inl ⟨by rfl, ?h7⟩) hHeld ?r7
  case h7 =>
    intro wS hSw
    (try dsimp only at hSw)
    go_simp
    try with_reducible rfl
  case r7 =>
  simp only [Act.put, List.setIfInBounds_toArray, List.set_cons_zero, List.set_cons_succ]
  refine wpAnyH_ready (rs := [8]) (by kernel_rfl) (by simp) ?_
  refine AllReadyH.cons (o := { dst := none, op := Go.Op.store 58 (Go.Operand.tmp 2) (Go.Operand.tmp 29), type := 0, pos := "l03_write.go:52", after := #[{ on := 0, ground := Go.Ground.data }, { on := 6, ground := Go.Ground.chain }, { on := 0, ground := Go.Ground.phase }, { on := 1, ground := Go.Ground.textOnly Go.Departure.lateStoresUnsure }, { on := 2, ground := Go.Ground.textOnly Go.Departure.lateStores }, { on := 3, ground := Go.Ground.textOnly Go.Departure.lateStores }, { on := 4, ground := Go.Ground.textOnly Go.Departure.lateStoresUnsure }, { on := 5, ground := Go.Ground.textOnly Go.Departure.lateStores }, { on := 6, ground := Go.Ground.textOnly Go.Departure.lateStoresUnsure }, { on := 7, ground := Go.Ground.textOnly Go.Departure.lateStores }], guard := none }) rfl (fun K hK => ?_) AllReadyH.nil
  obtain ⟨hb9, bX9, ⟨cs9, hs9, bR9⟩, hv9, hz9⟩ := hHeld
  obtain ⟨q0, q1, q2, q3, q4, rfl⟩ : ∃ q0 q1 q2 q3 q4 : Value, cs9 = #[q0, q1, q2, q3, q4] := by
    obtain ⟨l⟩ := cs9
    match l, hs9 with
    | [q0, q1, q2, q3, q4], _ => exact ⟨q0, q1, q2, q3, q4, rfl⟩
  have e0 : wE.cell? ⟨w.heap.size, 0, none⟩ = some q0 := bR9.at 0 _ rfl
  have e1 : wE.cell? ⟨w.heap.size, 1, none⟩ = some q1 := bR9.at 1 _ rfl
  have e2 : wE.cell? ⟨w.heap.size, 2, none⟩ = some q2 := bR9.at 2 _ rfl
  have e3 : wE.cell? ⟨w.heap.size, 3, none⟩ = some q3 := bR9.at 3 _ rfl
  have e4 : wE.cell? ⟨w.heap.size, 4, none⟩ = some q4 := bR9.at 4 _ rfl
  have ef : ∀ o, wE.frozen? ⟨w.heap.size, o, none⟩ = false := bR9.soft
  have el : w.heap.size < wE.heap.size := bR9.lt
  go_simp
  try go_wp2_with fail
  refine hK.out _ _ (storeS (vs := [.int .i64 1, .int .i64 i, .slice a2 3 p2, .int .i64 s, .int .i64 q]) hb9 bX9 bR9 hv9 hz9 (by omega) rfl) (fun hHeld => ?_)
  clear hK K
  try simp only [Act.put, List.setIfInBounds_toArray, List.set_cons_zero, List.set_cons_succ]
  refine wpAnyH_take (i := 9) (oi := { dst := some 3, op := Go.Op.assign (Go.Operand.tmp 36), type := 4, pos := "l03_write.go:52", after := #[{ on := 7, ground := Go.Ground.data }, { on := 8, ground := Go.Ground.chain }, { on := 0, ground := Go.Ground.phase }, { on := 1, ground := Go.Ground.phase }, { on := 2, ground := Go.Ground.phase }, { on := 3, ground := Go.Ground.phase }, { on := 4, ground := Go.Ground.phase }, { on := 5, ground := Go.Ground.phase }, { on := 6, ground := Go.Ground.phase }, { on := 7, ground := Go.Ground.phase }, { on := 8, ground := Go.Ground.phase }], guard := none }) (v := ?v9) rfl (by kernel_rfl) (by kernel_rfl) (by kernel_rfl) (fun _ _ _ h => h) (Or.inl ⟨by rfl, ?h9⟩) hHeld ?r9
  case h9 =>
    intro wS hSw
    (try dsimp only at hSw)
    go_simp
    try with_reducible rfl
  case r9 =>
  simp only [Act.put, List.setIfInBounds_toArray, List.set_cons_zero, List.set_cons_succ]
  refine wpAnyH_done (by kernel_rfl) ?_ _
  refine NoPanic.normal ?_
  have HS := hide hHeld
  clear hHeld
  go_wp2_with fail
  refine bodyPost_ret (v := .tuple #[.agg #[.int .i64 1, .int .i64 i, .slice a2 3 p2, .int .i64 s, .int .i64 q], .bool false]) (by simp [results, Try.results87, go_sem, e0, e1, e2, e3, e4]) rfl ?_
  obtain ⟨f0, f1, f2, f3⟩ := unhide HF
  have hlo : w.heap.size ≤ sx + 1 := by omega
  obtain ⟨s1, -, -, s4, s5⟩ := unhide HS
  refine ⟨[.int .i64 1, .int .i64 i, .slice a2 3 p2, .int .i64 s, .int .i64 q], rfl, ?_, s1⟩
  refine readsW (x := unpackW [1, i, s, q, x, y, z, c]) ?_ f0 f1 f2 f3
  rw [show (unpackW [1, i, s, q, x, y, z, c]).vec = [x, y, z] by simp [unpackW]]
  exact s4.mono hlo s5

end Go.Proofs.Ytipomhpimmnchaa

namespace Go.Proofs.Ytipomhpimmnchaa
open Go.RowKit

set_option maxRecDepth 100000 in
set_option maxHeartbeats 4000000 in
theorem l3Unpack_other_ok (b off cap : Nat) (k i s q x y z c : Int) (w : World) (h : IsInts w (.slice (some ⟨b, off, none⟩) 8 cap) [k, i, s, q, x, y, z, c]) (hk : k ≠ 1) (hf : writeFault k i [] s q = 0) :
    Calls Try.prog 87 #[.slice (some ⟨b, off, none⟩) 8 cap] w fun e w' => ToldU w w' e (unpackW [k, i, s, q, x, y, z, c]) (decide (wordsOf k i [] s q = [k, i, s, q, x, y, z, c])) := by
  have hc : ∀ j, j < 8 → w.cell? ⟨b, off + j, none⟩ = some (.int .i64 ([k, i, s, q, x, y, z, c].getD j 0)) := by
    obtain ⟨ao, cp, e, -, hc⟩ := h
    obtain ⟨b', off', rfl, hc1⟩ := hc (by simp)
    simp only [Value.slice.injEq, Option.some.injEq, Addr.mk.injEq, and_true] at e
    obtain ⟨⟨rfl, rfl⟩, -, -⟩ := e
    exact hc1
  have c0 : w.cell? ⟨b, off, none⟩ = some (.int .i64 k) := hc 0 (by omega)
  have c1 : w.cell? ⟨b, off + 1, none⟩ = some (.int .i64 i) := hc 1 (by omega)
  have c2 : w.cell? ⟨b, off + 2, none⟩ = some (.int .i64 s) := hc 2 (by omega)
  have c3 : w.cell? ⟨b, off + 3, none⟩ = some (.int .i64 q) := hc 3 (by omega)
  have hwf := h.wf
  have f0 : (Lit.int .i64 k).wf = true := hwf k (by simp)
  have f1 : (Lit.int .i64 i).wf = true := hwf i (by simp)
  have f2 : (Lit.int .i64 s).wf = true := hwf s (by simp)
  have f3 : (Lit.int .i64 q).wf = true := hwf q (by simp)
  have HF := hide (And.intro f0 (And.intro f1 (And.intro f2 f3)))
  have H := hide h
  have HFL := hide hf
  clear h hc hwf f0 f1 f2 f3 hf
  have nb : Below w.heap.size w (w.alloc (.cells #[.int .i64 0, .int .i64 0, .slice none 0 0, .int .i64 0, .int .i64 0] 58)) := (Below.refl _ _).alloc (Nat.le_refl _) _
  have bR : Box 0 #[.int .i64 0, .int .i64 0, .slice none 0 0, .int .i64 0, .int .i64 0] 58 (w.alloc (.cells #[.int .i64 0, .int .i64 0, .slice none 0 0, .int .i64 0, .int .i64 0] 58)) w.heap.size := newBox (Nat.zero_le _)
  have d0 := cell_keep nb c0
  have d1 := cell_keep nb c1
  have d2 := cell_keep nb c2
  have d3 := cell_keep nb c3
  clear c0 c1 c2 c3
  go_enter Try.func87, Try.ntmps87
  go_wp2_with fail
  generalize w.alloc (.cells #[.int .i64 0, .int .i64 0, .slice none 0 0, .int .i64 0, .int .i64 0] 58) = W0 at *
  first
    | go_region_held3 (fun w' => w'.cell? ⟨b, off, none⟩ = some (.int .i64 k) ∧ w'.cell? ⟨b, off + 1, none⟩ = some (.int .i64 i) ∧ w'.cell? ⟨b, off + 2, none⟩ = some (.int .i64 s) ∧ w'.cell? ⟨b, off + 3, none⟩ = some (.int .i64 q))
        (first
          | exact ⟨d0, d1, d2, d3⟩
          | (refine ⟨(World.grownBy_alloc _ _ none).cell ?_ (by simp), (World.grownBy_alloc _ _ none).cell ?_ (by simp), (World.grownBy_alloc _ _ none).cell ?_ (by simp), (World.grownBy_alloc _ _ none).cell ?_ (by simp)⟩ <;> assumption)
          | go_keep)
        (fail)
    | fail
  clear d0 d1 d2 d3
  have nb1 : Below W0.heap.size W0 (W0.alloc (.cells #[.int .i64 k, .int .i64 i, .slice none 0 0, .int .i64 s, .int .i64 q] 58)).drew := ((Below.refl _ _).alloc (Nat.le_refl _) _).drew
  have bX : Box 0 #[.int .i64 k, .int .i64 i, .slice none 0 0, .int .i64 s, .int .i64 q] 58 (W0.alloc (.cells #[.int .i64 k, .int .i64 i, .slice none 0 0, .int .i64 s, .int .i64 q] 58)).drew W0.heap.size := (newBox (Nat.zero_le _)).drew
  generalize (W0.alloc (.cells #[.int .i64 k, .int .i64 i, .slice none 0 0, .int .i64 s, .int .i64 q] 58)).drew = W1 at *
  have hX := bX.lt
  have hR := bR.lt
  replace bR := bR.keep nb1
  have HB1 := hide (nb.trans (nb1.mono nb.size))
  skip
  clear nb nb1
  generalize hs0 : W0.heap.size = sx at *
  clear hs0
  have x0 := bX.at 0 _ rfl
  have x1 := bX.at 1 _ rfl
  have x2 := bX.at 2 _ rfl
  have x3 := bX.at 3 _ rfl
  have x4 := bX.at 4 _ rfl
  have HR := hide bR
  have HX := hide bX
  clear bR bX
  go_wp2_with fail
  have bX := unhide HX
  have bR := unhide HR
  clear HX HR x0 x1 x2 x3 x4
  obtain ⟨W2, hW2⟩ : ∃ W2, W2 = W1 := ⟨_, rfl⟩
  subst hW2
  have HVI : Hid ((Lay.sl Lay.int).LiesIn W2 [.slice none 0 0] [] (sx + 1) W2.heap.size) := ⟨[], Lay.lies_ints.2 ⟨none, 0, rfl, ⟨by simp, by simp⟩, by simp, Or.inl ⟨rfl, rfl⟩⟩, by simp⟩
  have HWW : Hid (∀ u ∈ wordsOf k i [] s q, (Lit.int .i64 u).wf = true) := by
    have := packList_wf (k := k) (i := i) (s := s) (q := q) (zs := [])
    rw [packList, if_pos (unhide HFL)] at this
    exact this
  refine wp_region_noPanic ?_
  refine wp_region_held_drew (S := fun w' => Below w.heap.size w w' ∧ Box 0 #[.int .i64 k, .int .i64 i, .slice none 0 0, .int .i64 s, .int .i64 q] 58 w' sx ∧ (∃ cs : Array Value, cs.size = 5 ∧ Box 0 cs 58 w' w.heap.size) ∧ (Lay.sl Lay.int).LiesIn w' [.slice none 0 0] [] (sx + 1) W2.heap.size ∧ W2.heap.size ≤ w'.heap.size) (by kernel_rfl) ⟨(unhide HB1).drew, bX.drew, ⟨_, rfl, bR.drew⟩, unhide HVI, Nat.le_refl _⟩ (fun hHeld => ?_)
  generalize W2.drew = wD at hHeld ⊢
  refine wpAnyH_take (i := 0) (oi := { dst := some 29, op := Go.Op.load 58 (Go.Operand.tmp 4), type := 58, pos := "l03_write.go:52", after := #[], guard := none }) (v := ?v0) rfl (by kernel_rfl) (by kernel_rfl) (by kernel_rfl) (fun _ _ _ h => h) (Or.inl ⟨by rfl, ?h0⟩) hHeld ?r0
  case h0 =>
    intro wS hSw
    have y0 := hSw.2.1.at 0 _ rfl
    have y1 := hSw.2.1.at 1 _ rfl
    have y2 := hSw.2.1.at 2 _ rfl
    have y3 := hSw.2.1.at 3 _ rfl
    have y4 := hSw.2.1.at 4 _ rfl
    simp only [List.getElem_toArray, List.getElem_cons_zero, List.getElem_cons_succ] at y0 y1 y2 y3 y4
    clear hSw
    (try dsimp only at hSw)
    go_simp
    try with_reducible rfl
  case r0 =>
  simp only [Act.put, List.setIfInBounds_toArray, List.set_cons_zero, List.set_cons_succ]
  refine wpAnyH_ready (rs := [1]) (by kernel_rfl) (by simp) ?_
  refine AllReadyH.cons (o := { dst := some 30, op := Go.Op.call { callee := Go.Callee.value (Go.Operand.func 53), args := #[Go.Operand.tmp 4], argTypes := #[77] }, type := 2, pos := "l03_write.go:52", after := #[], guard := none }) rfl (fun K hK => ?_) AllReadyH.nil
  go_simp
  go_at_call 53
  refine (l3Fault sx k i _ s q [] _ ⟨hHeld.2.1.at 0 _ rfl, hHeld.2.1.at 1 _ rfl, hHeld.2.1.at 2 _ rfl, hHeld.2.1.at 3 _ rfl, hHeld.2.1.at 4 _ rfl⟩ (Lay.ints_reads hHeld.2.2.2.1.reads)).mono ?_
  rintro e wE ⟨rfl, hwe⟩
  subst hwe
  rw [unhide HFL]
  try go_wp2_with fail
  refine hK.out _ _ hHeld (fun hHeld => ?_)
  clear hK K
  try simp only [Act.put, List.setIfInBounds_toArray, List.set_cons_zero, List.set_cons_succ]
  refine wpAnyH_take (i := 2) (oi := { dst := some 31, op := Go.Op.binOp Go.BinOp.eql 2 (Go.Operand.tmp 30) (Go.Operand.const (Go.Value.int Go.IntKind.i64 0)) 2, type := 4, pos := "l03_write.go:52", after := #[{ on := 1, ground := Go.Ground.data }], guard := none }) (v := ?v2) rfl (by kernel_rfl) (by kernel_rfl) (by kernel_rfl) (fun _ _ _ h => h) (Or.inl ⟨by rfl, ?h2⟩) hHeld ?r2
  case h2 =>
    intro wS hSw
    (try dsimp only at hSw)
    go_simp
    try with_reducible rfl
  case r2 =>
  simp only [Act.put, List.setIfInBounds_toArray, List.set_cons_zero, List.set_cons_succ]
  refine wpAnyH_take (i := 3) (oi := { dst := some 32, op := Go.Op.move (Go.Operand.tmp 31), type := 4, pos := "l03_write.go:52", after := #[{ on := 2, ground := Go.Ground.data }, { on := 1, ground := Go.Ground.chain }], guard := none }) (v := ?v3) rfl (by kernel_rfl) (by kernel_rfl) (by kernel_rfl) (fun _ _ _ h => h) (Or.inl ⟨by rfl, ?h3⟩) hHeld ?r3
  case h3 =>
    intro wS hSw
    (try dsimp only at hSw)
    go_simp
    try with_reducible rfl
  case r3 =>
  simp only [Act.put, List.setIfInBounds_toArray, List.set_cons_zero, List.set_cons_succ]
  refine wpAnyH_take (i := 5) (oi := { dst := some 34, op := Go.Op.move (Go.Operand.tmp 0), type := 24, pos := "l03_write.go:52", after := #[{ on := 3, ground := Go.Ground.guard }], guard := some (3, true) }) (v := ?v5) rfl (by kernel_rfl) (by kernel_rfl) (by kernel_rfl) (fun _ _ _ h => h) (Or.inl ⟨by rfl, ?h5⟩) hHeld ?r5
  case h5 =>
    intro wS hSw
    (try dsimp only at hSw)
    go_simp
    try with_reducible rfl
  case r5 =>
  simp only [Act.put, List.setIfInBounds_toArray, List.set_cons_zero, List.set_cons_succ]
  refine wpAnyH_ready (rs := [4]) (by kernel_rfl) (by simp) ?_
  refine AllReadyH.cons (o := { dst := some 33, op := Go.Op.call { callee := Go.Callee.value (Go.Operand.func 66), args := #[Go.Operand.tmp 4], argTypes := #[77] }, type := 24, pos := "l03_write.go:52", after := #[{ on := 3, ground := Go.Ground.chain }, { on := 3, ground := Go.Ground.guard }], guard := some (3, true) }) rfl (fun K hK => ?_) AllReadyH.nil
  go_simp
  go_at_call 66
  refine (l3Pack sx k i _ s q [] _ ⟨hHeld.2.1.at 0 _ rfl, hHeld.2.1.at 1 _ rfl, hHeld.2.1.at 2 _ rfl, hHeld.2.1.at 3 _ rfl, hHeld.2.1.at 4 _ rfl⟩ (Lay.ints_reads hHeld.2.2.2.1.reads) (unhide HFL)).mono ?_
  rintro e w4 ⟨g4, rfl, O4, hbw⟩
  have I4 := isInts_row (zs := wordsOf k i [] s q) (unhide HWW) O4
  try go_wp2_with fail
  refine hK.out _ _ ⟨hHeld.1.trans (hbw.mono hHeld.1.size), hHeld.2.1.keep hbw, (by obtain ⟨cs, h1, h2⟩ := hHeld.2.2.1; exact ⟨cs, h1, h2.keep hbw⟩), hHeld.2.2.2.1.later hbw, Nat.le_trans hHeld.2.2.2.2 hbw.size⟩ (fun hHeld => ?_)
  clear hK K
  try simp only [Act.put, List.setIfInBounds_toArray, List.set_cons_zero, List.set_cons_succ]
  refine wpAnyH_ready (rs := [6]) (by kernel_rfl) (by simp) ?_
  refine AllReadyH.cons (o := { dst := some 35, op := Go.Op.call { callee := Go.Callee.value (Go.Operand.func 100), args := #[Go.Operand.tmp 33, Go.Operand.tmp 34], argTypes := #[24, 24] }, type := 4, pos := "l03_write.go:52", after := #[{ on := 4, ground := Go.Ground.data }, { on := 5, ground := Go.Ground.data }, { on := 4, ground := Go.Ground.chain }, { on := 3, ground := Go.Ground.guard }], guard := some (3, true) }) rfl (fun K hK => ?_) AllReadyH.nil
  go_simp
  go_at_call 100
  refine (l1Same _ _ (wordsOf k i [] s q) [k, i, s, q, x, y, z, c] _ I4 ((unhide H).later hHeld.1) (by simp [wordsOf])).mono ?_
  rintro e w5 ⟨rfl, hbw⟩
  try go_wp2_with fail
  refine hK.out _ _ ⟨hHeld.1.trans (hbw.mono hHeld.1.size), hHeld.2.1.keep hbw, (by obtain ⟨cs, h1, h2⟩ := hHeld.2.2.1; exact ⟨cs, h1, h2.keep hbw⟩), hHeld.2.2.2.1.later hbw, Nat.le_trans hHeld.2.2.2.2 hbw.size⟩ (fun hHeld => ?_)
  clear hK K
  try simp only [Act.put, List.setIfInBounds_toArray, List.set_cons_zero, List.set_cons_succ]
  refine wpAnyH_take (i := 7) (oi := { dst := some 36, op := Go.Op.pick (Go.Operand.tmp 32) (Go.Operand.tmp 35) (Go.Operand.const (Go.Value.bool false)), type := 4, pos := "l03_write.go:52", after := #[{ on := 3, ground := Go.Ground.data }, { on := 6, ground := Go.Ground.data }, { on := 8, ground := Go.Ground.gcOnly Go.Departure.lateStores }], guard := none }) (v := ?v7) rfl (by kernel_rfl) (by kernel_rfl) (by kernel_rfl) (fun _ _ _ h => h) (Or.inl ⟨by rfl, ?h7⟩) hHeld ?r7
  case h7 =>
    intro wS hSw
    (try dsimp only at hSw)
    go_simp
    try with_reducible rfl
  case r7 =>
  simp only [Act.put, List.setIfInBounds_toArray, List.set_cons_zero, List.set_cons_succ]
  refine wpAnyH_ready (rs := [8]) (by kernel_rfl) (by simp) ?_
  refine AllReadyH.cons (o := { dst := none, op := Go.Op.store 58 (Go.Operand.tmp 2) (Go.Operand.tmp 29), type := 0, pos := "l03_write.go:52", after := #[{ on := 0, ground := Go.Ground.data }, { on := 6, ground := Go.Ground.chain }, { on := 0, ground := Go.Ground.phase }, { on := 1, ground := Go.Ground.textOnly Go.Departure.lateStoresUnsure }, { on := 2, ground := Go.Ground.textOnly Go.Departure.lateStores }, { on := 3, ground := Go.Ground.textOnly Go.Departure.lateStores }, { on := 4, ground := Go.Ground.textOnly Go.Departure.lateStoresUnsure }, { on := 5, ground := Go.Ground.textOnly Go.Departure.lateStores }, { on := 6, ground := Go.Ground.textOnly Go.Departure.lateStoresUnsure }, { on := 7, ground := Go.Ground.textOnly Go.Departure.lateStores }], guard := none }) rfl (fun K hK => ?_) AllReadyH.nil
  obtain ⟨hb9, bX9, ⟨cs9, hs9, bR9⟩, hv9, hz9⟩ := hHeld
  obtain ⟨q0, q1, q2, q3, q4, rfl⟩ : ∃ q0 q1 q2 q3 q4 : Value, cs9 = #[q0, q1, q2, q3, q4] := by
    obtain ⟨l⟩ := cs9
    match l, hs9 with
    | [q0, q1, q2, q3, q4], _ => exact ⟨q0, q1, q2, q3, q4, rfl⟩
  have e0 : w5.cell? ⟨w.heap.size, 0, none⟩ = some q0 := bR9.at 0 _ rfl
  have e1 : w5.cell? ⟨w.heap.size, 1, none⟩ = some q1 := bR9.at 1 _ rfl
  have e2 : w5.cell? ⟨w.heap.size, 2, none⟩ = some q2 := bR9.at 2 _ rfl
  have e3 : w5.cell? ⟨w.heap.size, 3, none⟩ = some q3 := bR9.at 3 _ rfl
  have e4 : w5.cell? ⟨w.heap.size, 4, none⟩ = some q4 := bR9.at 4 _ rfl
  have ef : ∀ o, w5.frozen? ⟨w.heap.size, o, none⟩ = false := bR9.soft
  have el : w.heap.size < w5.heap.size := bR9.lt
  go_simp
  try go_wp2_with fail
  refine hK.out _ _ (storeS (vs := [.int .i64 k, .int .i64 i, .slice none 0 0, .int .i64 s, .int .i64 q]) hb9 bX9 bR9 hv9 hz9 (by omega) rfl) (fun hHeld => ?_)
  clear hK K
  try simp only [Act.put, List.setIfInBounds_toArray, List.set_cons_zero, List.set_cons_succ]
  refine wpAnyH_take (i := 9) (oi := { dst := some 3, op := Go.Op.assign (Go.Operand.tmp 36), type := 4, pos := "l03_write.go:52", after := #[{ on := 7, ground := Go.Ground.data }, { on := 8, ground := Go.Ground.chain }, { on := 0, ground := Go.Ground.phase }, { on := 1, ground := Go.Ground.phase }, { on := 2, ground := Go.Ground.phase }, { on := 3, ground := Go.Ground.phase }, { on := 4, ground := Go.Ground.phase }, { on := 5, ground := Go.Ground.phase }, { on := 6, ground := Go.Ground.phase }, { on := 7, ground := Go.Ground.phase }, { on := 8, ground := Go.Ground.phase }], guard := none }) (v := ?v9) rfl (by kernel_rfl) (by kernel_rfl) (by kernel_rfl) (fun _ _ _ h => h) (Or.inl ⟨by rfl, ?h9⟩) hHeld ?r9
  case h9 =>
    intro wS hSw
    (try dsimp only at hSw)
    go_simp
    try with_reducible rfl
  case r9 =>
  simp only [Act.put, List.setIfInBounds_toArray, List.set_cons_zero, List.set_cons_succ]
  refine wpAnyH_done (by kernel_rfl) ?_ _
  refine NoPanic.normal ?_
  have HS := hide hHeld
  clear hHeld
  go_wp2_with fail
  refine bodyPost_ret (v := .tuple #[.agg #[.int .i64 k, .int .i64 i, .slice none 0 0, .int .i64 s, .int .i64 q], .bool (decide (wordsOf k i [] s q = [k, i, s, q, x, y, z, c]))]) (by simp [results, Try.results87, go_sem, e0, e1, e2, e3, e4]) rfl ?_
  obtain ⟨f0, f1, f2, f3⟩ := unhide HF
  have hlo : w.heap.size ≤ sx + 1 := by omega
  obtain ⟨s1, -, -, s4, s5⟩ := unhide HS
  refine ⟨[.int .i64 k, .int .i64 i, .slice none 0 0, .int .i64 s, .int .i64 q], rfl, ?_, s1⟩
  refine readsW (x := unpackW [k, i, s, q, x, y, z, c]) ?_ f0 f1 f2 f3
  rw [show (unpackW [k, i, s, q, x, y, z, c]).vec = [] by simp [unpackW, hk]]
  exact s4.mono hlo s5

end Go.Proofs.Ytipomhpimmnchaa

namespace Go.Proofs.Ytipomhpimmnchaa
open Go.RowKit

set_option maxRecDepth 100000 in
set_option maxHeartbeats 4000000 in
theorem l3Unpack_other_bad (b off cap : Nat) (k i s q x y z c : Int) (w : World) (h : IsInts w (.slice (some ⟨b, off, none⟩) 8 cap) [k, i, s, q, x, y, z, c]) (hk : k ≠ 1) (hf : writeFault k i [] s q ≠ 0) :
    Calls Try.prog 87 #[.slice (some ⟨b, off, none⟩) 8 cap] w fun e w' => ToldU w w' e (unpackW [k, i, s, q, x, y, z, c]) false := by
  have hc : ∀ j, j < 8 → w.cell? ⟨b, off + j, none⟩ = some (.int .i64 ([k, i, s, q, x, y, z, c].getD j 0)) := by
    obtain ⟨ao, cp, e, -, hc⟩ := h
    obtain ⟨b', off', rfl, hc1⟩ := hc (by simp)
    simp only [Value.slice.injEq, Option.some.injEq, Addr.mk.injEq, and_true] at e
    obtain ⟨⟨rfl, rfl⟩, -, -⟩ := e
    exact hc1
  have c0 : w.cell? ⟨b, off, none⟩ = some (.int .i64 k) := hc 0 (by omega)
  have c1 : w.cell? ⟨b, off + 1, none⟩ = some (.int .i64 i) := hc 1 (by omega)
  have c2 : w.cell? ⟨b, off + 2, none⟩ = some (.int .i64 s) := hc 2 (by omega)
  have c3 : w.cell? ⟨b, off + 3, none⟩ = some (.int .i64 q) := hc 3 (by omega)
  have hwf := h.wf
  have f0 : (Lit.int .i64 k).wf = true := hwf k (by simp)
  have f1 : (Lit.int .i64 i).wf = true := hwf i (by simp)
  have f2 : (Lit.int .i64 s).wf = true := hwf s (by simp)
  have f3 : (Lit.int .i64 q).wf = true := hwf q (by simp)
  have HF := hide (And.intro f0 (And.intro f1 (And.intro f2 f3)))
  have H := hide h
  have HFL := hide hf
  clear h hc hwf f0 f1 f2 f3 hf
  have nb : Below w.heap.size w (w.alloc (.cells #[.int .i64 0, .int .i64 0, .slice none 0 0, .int .i64 0, .int .i64 0] 58)) := (Below.refl _ _).alloc (Nat.le_refl _) _
  have bR : Box 0 #[.int .i64 0, .int .i64 0, .slice none 0 0, .int .i64 0, .int .i64 0] 58 (w.alloc (.cells #[.int .i64 0, .int .i64 0, .slice none 0 0, .int .i64 0, .int .i64 0] 58)) w.heap.size := newBox (Nat.zero_le _)
  have d0 := cell_keep nb c0
  have d1 := cell_keep nb c1
  have d2 := cell_keep nb c2
  have d3 := cell_keep nb c3
  clear c0 c1 c2 c3
  go_enter Try.func87, Try.ntmps87
  go_wp2_with fail
  generalize w.alloc (.cells #[.int .i64 0, .int .i64 0, .slice none 0 0, .int .i64 0, .int .i64 0] 58) = W0 at *
  first
    | go_region_held3 (fun w' => w'.cell? ⟨b, off, none⟩ = some (.int .i64 k) ∧ w'.cell? ⟨b, off + 1, none⟩ = some (.int .i64 i) ∧ w'.cell? ⟨b, off + 2, none⟩ = some (.int .i64 s) ∧ w'.cell? ⟨b, off + 3, none⟩ = some (.int .i64 q))
        (first
          | exact ⟨d0, d1, d2, d3⟩
          | (refine ⟨(World.grownBy_alloc _ _ none).cell ?_ (by simp), (World.grownBy_alloc _ _ none).cell ?_ (by simp), (World.grownBy_alloc _ _ none).cell ?_ (by simp), (World.grownBy_alloc _ _ none).cell ?_ (by simp)⟩ <;> assumption)
          | go_keep)
        (fail)
    | fail
  clear d0 d1 d2 d3
  have nb1 : Below W0.heap.size W0 (W0.alloc (.cells #[.int .i64 k, .int .i64 i, .slice none 0 0, .int .i64 s, .int .i64 q] 58)).drew := ((Below.refl _ _).alloc (Nat.le_refl _) _).drew
  have bX : Box 0 #[.int .i64 k, .int .i64 i, .slice none 0 0, .int .i64 s, .int .i64 q] 58 (W0.alloc (.cells #[.int .i64 k, .int .i64 i, .slice none 0 0, .int .i64 s, .int .i64 q] 58)).drew W0.heap.size := (newBox (Nat.zero_le _)).drew
  generalize (W0.alloc (.cells #[.int .i64 k, .int .i64 i, .slice none 0 0, .int .i64 s, .int .i64 q] 58)).drew = W1 at *
  have hX := bX.lt
  have hR := bR.lt
  replace bR := bR.keep nb1
  have HB1 := hide (nb.trans (nb1.mono nb.size))
  skip
  clear nb nb1
  generalize hs0 : W0.heap.size = sx at *
  clear hs0
  have x0 := bX.at 0 _ rfl
  have x1 := bX.at 1 _ rfl
  have x2 := bX.at 2 _ rfl
  have x3 := bX.at 3 _ rfl
  have x4 := bX.at 4 _ rfl
  have HR := hide bR
  have HX := hide bX
  clear bR bX
  go_wp2_with fail
  have bX := unhide HX
  have bR := unhide HR
  clear HX HR x0 x1 x2 x3 x4
  obtain ⟨W2, hW2⟩ : ∃ W2, W2 = W1 := ⟨_, rfl⟩
  subst hW2
  have HVI : Hid ((Lay.sl Lay.int).LiesIn W2 [.slice none 0 0] [] (sx + 1) W2.heap.size) := ⟨[], Lay.lies_ints.2 ⟨none, 0, rfl, ⟨by simp, by simp⟩, by simp, Or.inl ⟨rfl, rfl⟩⟩, by simp⟩
  have hne : (writeFault k i [] s q == 0) = false := by simpa using unhide HFL
  refine wp_region_noPanic ?_
  refine wp_region_held_drew (S := fun w' => Below w.heap.size w w' ∧ Box 0 #[.int .i64 k, .int .i64 i, .slice none 0 0, .int .i64 s, .int .i64 q] 58 w' sx ∧ (∃ cs : Array Value, cs.size = 5 ∧ Box 0 cs 58 w' w.heap.size) ∧ (Lay.sl Lay.int).LiesIn w' [.slice none 0 0] [] (sx + 1) W2.heap.size ∧ W2.heap.size ≤ w'.heap.size) (by kernel_rfl) ⟨(unhide HB1).drew, bX.drew, ⟨_, rfl, bR.drew⟩, unhide HVI, Nat.le_refl _⟩ (fun hHeld => ?_)
  generalize W2.drew = wD at hHeld ⊢
  refine wpAnyH_take (i := 0) (oi := { dst := some 29, op := Go.Op.load 58 (Go.Operand.tmp 4), type := 58, pos := "l03_write.go:52", after := #[], guard := none }) (v := ?v0) rfl (by kernel_rfl) (by kernel_rfl) (by kernel_rfl) (fun _ _ _ h => h) (Or.inl ⟨by rfl, ?h0⟩) hHeld ?r0
  case h0 =>
    intro wS hSw
    have y0 := hSw.2.1.at 0 _ rfl
    have y1 := hSw.2.1.at 1 _ rfl
    have y2 := hSw.2.1.at 2 _ rfl
    have y3 := hSw.2.1.at 3 _ rfl
    have y4 := hSw.2.1.at 4 _ rfl
    simp only [List.getElem_toArray, List.getElem_cons_zero, List.getElem_cons_succ] at y0 y1 y2 y3 y4
    clear hSw
    (try dsimp only at hSw)
    go_simp
    try with_reducible rfl
  case r0 =>
  simp only [Act.put, List.setIfInBounds_toArray, List.set_cons_zero, List.set_cons_succ]
  refine wpAnyH_ready (rs := [1]) (by kernel_rfl) (by simp) ?_
  refine AllReadyH.cons (o := { dst := some 30, op := Go.Op.call { callee := Go.Callee.value (Go.Operand.func 53), args := #[Go.Operand.tmp 4], argTypes := #[77] }, type := 2, pos := "l03_write.go:52", after := #[], guard := none }) rfl (fun K hK => ?_) AllReadyH.nil
  go_simp
  go_at_call 53
  refine (l3Fault sx k i _ s q [] _ ⟨hHeld.2.1.at 0 _ rfl, hHeld.2.1.at 1 _ rfl, hHeld.2.1.at 2 _ rfl, hHeld.2.1.at 3 _ rfl, hHeld.2.1.at 4 _ rfl⟩ (Lay.ints_reads hHeld.2.2.2.1.reads)).mono ?_
  rintro e wE ⟨rfl, hwe⟩
  subst hwe
  skip
  try go_wp2_with fail
  refine hK.out _ _ hHeld (fun hHeld => ?_)
  clear hK K
  try simp only [Act.put, List.setIfInBounds_toArray, List.set_cons_zero, List.set_cons_succ]
  refine wpAnyH_take (i := 2) (oi := { dst := some 31, op := Go.Op.binOp Go.BinOp.eql 2 (Go.Operand.tmp 30) (Go.Operand.const (Go.Value.int Go.IntKind.i64 0)) 2, type := 4, pos := "l03_write.go:52", after := #[{ on := 1, ground := Go.Ground.data }], guard := none }) (v := ?v2) rfl (by kernel_rfl) (by kernel_rfl) (by kernel_rfl) (fun _ _ _ h => h) (Or.inl ⟨by rfl, ?h2⟩) hHeld ?r2
  case h2 =>
    intro wS hSw
    (try dsimp only at hSw)
    go_simp
    try with_reducible rfl
  case r2 =>
  simp only [Act.put, List.setIfInBounds_toArray, List.set_cons_zero, List.set_cons_succ]
  refine wpAnyH_take (i := 3) (oi := { dst := some 32, op := Go.Op.move (Go.Operand.tmp 31), type := 4, pos := "l03_write.go:52", after := #[{ on := 2, ground := Go.Ground.data }, { on := 1, ground := Go.Ground.chain }], guard := none }) (v := ?v3) rfl (by kernel_rfl) (by kernel_rfl) (by kernel_rfl) (fun _ _ _ h => h) (Or.inl ⟨by rfl, ?h3⟩) hHeld ?r3
  case h3 =>
    intro wS hSw
    (try dsimp only at hSw)
    go_simp
    try with_reducible rfl
  case r3 =>
  simp only [Act.put, List.setIfInBounds_toArray, List.set_cons_zero, List.set_cons_succ]
  refine wpAnyH_take (i := 4) (oi := { dst := some 33, op := Go.Op.call { callee := Go.Callee.value (Go.Operand.func 66), args := #[Go.Operand.tmp 4], argTypes := #[77] }, type := 24, pos := "l03_write.go:52", after := #[{ on := 3, ground := Go.Ground.chain }, { on := 3, ground := Go.Ground.guard }], guard := some (3, true) }) (v := undef) rfl (by kernel_rfl) (by kernel_rfl) (by kernel_rfl) (fun _ _ _ h => h) (Or.inr ⟨by rfl, rfl⟩) hHeld ?_
  simp only [Act.put, List.setIfInBounds_toArray, List.set_cons_zero, List.set_cons_succ]
  refine wpAnyH_take (i := 5) (oi := { dst := some 34, op := Go.Op.move (Go.Operand.tmp 0), type := 24, pos := "l03_write.go:52", after := #[{ on := 3, ground := Go.Ground.guard }], guard := some (3, true) }) (v := undef) rfl (by kernel_rfl) (by kernel_rfl) (by kernel_rfl) (fun _ _ _ h => h) (Or.inr ⟨by rfl, rfl⟩) hHeld ?_
  simp only [Act.put, List.setIfInBounds_toArray, List.set_cons_zero, List.set_cons_succ]
  refine wpAnyH_take (i := 6) (oi := { dst := some 35, op := Go.Op.call { callee := Go.Callee.value (Go.Operand.func 100), args := #[Go.Operand.tmp 33, Go.Operand.tmp 34], argTypes := #[24, 24] }, type := 4, pos := "l03_write.go:52", after := #[{ on := 4, ground := Go.Ground.data }, { on := 5, ground := Go.Ground.data }, { on := 4, ground := Go.Ground.chain }, { on := 3, ground := Go.Ground.guard }], guard := some (3, true) }) (v := undef) rfl (by kernel_rfl) (by kernel_rfl) (by kernel_rfl) (fun _ _ _ h => h) (Or.inr ⟨by rfl, rfl⟩) hHeld ?_
  simp only [Act.put, List.setIfInBounds_toArray, List.set_cons_zero, List.set_cons_succ]
  refine wpAnyH_take (i := 7) (oi := { dst := some 36, op := Go.Op.pick (Go.Operand.tmp 32) (Go.Operand.tmp 35) (Go.Operand.const (Go.Value.bool false)), type := 4, pos := "l03_write.go:52", after := #[{ on := 3, ground := Go.Ground.data }, { on := 6, ground := Go.Ground.data }, { on := 8, ground := Go.Ground.gcOnly Go.Departure.lateStores }], guard := none }) (v := ?v7) rfl (by kernel_rfl) (by kernel_rfl) (by kernel_rfl) (fun _ _ _ h => h) (Or.inl ⟨by rfl, ?h7⟩) hHeld ?r7
  case h7 =>
    intro wS hSw
    (try dsimp only at hSw)
    go_simp
    try with_reducible rfl
  case r7 =>
  simp only [Act.put, List.setIfInBounds_toArray, List.set_cons_zero, List.set_cons_succ]
  refine wpAnyH_ready (rs := [8]) (by kernel_rfl) (by simp) ?_
  refine AllReadyH.cons (o := { dst := none, op := Go.Op.store 58 (Go.Operand.tmp 2) (Go.Operand.tmp 29), type := 0, pos := "l03_write.go:52", after := #[{ on := 0, ground := Go.Ground.data }, { on := 6, ground := Go.Ground.chain }, { on := 0, ground := Go.Ground.phase }, { on := 1, ground := Go.Ground.textOnly Go.Departure.lateStoresUnsure }, { on := 2, ground := Go.Ground.textOnly Go.Departure.lateStores }, { on := 3, ground := Go.Ground.textOnly Go.Departure.lateStores }, { on := 4, ground := Go.Ground.textOnly Go.Departure.lateStoresUnsure }, { on := 5, ground := Go.Ground.textOnly Go.Departure.lateStores }, { on := 6, ground := Go.Ground.textOnly Go.Departure.lateStoresUnsure }, { on := 7, ground := Go.Ground.textOnly Go.Departure.lateStores }], guard := none }) rfl (fun K hK => ?_) AllReadyH.nil
  obtain ⟨hb9, bX9, ⟨cs9, hs9, bR9⟩, hv9, hz9⟩ := hHeld
  obtain ⟨q0, q1, q2, q3, q4, rfl⟩ : ∃ q0 q1 q2 q3 q4 : Value, cs9 = #[q0, q1, q2, q3, q4] := by
    obtain ⟨l⟩ := cs9
    match l, hs9 with
    | [q0, q1, q2, q3, q4], _ => exact ⟨q0, q1, q2, q3, q4, rfl⟩
  have e0 : wE.cell? ⟨w.heap.size, 0, none⟩ = some q0 := bR9.at 0 _ rfl
  have e1 : wE.cell? ⟨w.heap.size, 1, none⟩ = some q1 := bR9.at 1 _ rfl
  have e2 : wE.cell? ⟨w.heap.size, 2, none⟩ = some q2 := bR9.at 2 _ rfl
  have e3 : wE.cell? ⟨w.heap.size, 3, none⟩ = some q3 := bR9.at 3 _ rfl
  have e4 : wE.cell? ⟨w.heap.size, 4, none⟩ = some q4 := bR9.at 4 _ rfl
  have ef : ∀ o, wE.frozen? ⟨w.heap.size, o, none⟩ = false := bR9.soft
  have el : w.heap.size < wE.heap.size := bR9.lt
  go_simp
  try go_wp2_with fail
  refine hK.out _ _ (storeS (vs := [.int .i64 k, .int .i64 i, .slice none 0 0, .int .i64 s, .int .i64 q]) hb9 bX9 bR9 hv9 hz9 (by omega) rfl) (fun hHeld => ?_)
  clear hK K
  try simp only [Act.put, List.setIfInBounds_toArray, List.set_cons_zero, List.set_cons_succ]
  refine wpAnyH_take (i := 9) (oi := { dst := some 3, op := Go.Op.assign (Go.Operand.tmp 36), type := 4, pos := "l03_write.go:52", after := #[{ on := 7, ground := Go.Ground.data }, { on := 8, ground := Go.Ground.chain }, { on := 0, ground := Go.Ground.phase }, { on := 1, ground := Go.Ground.phase }, { on := 2, ground := Go.Ground.phase }, { on := 3, ground := Go.Ground.phase }, { on := 4, ground := Go.Ground.phase }, { on := 5, ground := Go.Ground.phase }, { on := 6, ground := Go.Ground.phase }, { on := 7, ground := Go.Ground.phase }, { on := 8, ground := Go.Ground.phase }], guard := none }) (v := ?v9) rfl (by kernel_rfl) (by kernel_rfl) (by kernel_rfl) (fun _ _ _ h => h) (Or.inl ⟨by rfl, ?h9⟩) hHeld ?r9
  case h9 =>
    intro wS hSw
    (try dsimp only at hSw)
    go_simp
    try with_reducible rfl
  case r9 =>
  simp only [Act.put, List.setIfInBounds_toArray, List.set_cons_zero, List.set_cons_succ]
  refine wpAnyH_done (by kernel_rfl) ?_ _
  refine NoPanic.normal ?_
  have HS := hide hHeld
  clear hHeld
  go_wp2_with fail
  refine bodyPost_ret (v := .tuple #[.agg #[.int .i64 k, .int .i64 i, .slice none 0 0, .int .i64 s, .int .i64 q], .bool false]) (by simp [results, Try.results87, go_sem, e0, e1, e2, e3, e4]) rfl ?_
  obtain ⟨f0, f1, f2, f3⟩ := unhide HF
  have hlo : w.heap.size ≤ sx + 1 := by omega
  obtain ⟨s1, -, -, s4, s5⟩ := unhide HS
  refine ⟨[.int .i64 k, .int .i64 i, .slice none 0 0, .int .i64 s, .int .i64 q], rfl, ?_, s1⟩
  refine readsW (x := unpackW [k, i, s, q, x, y, z, c]) ?_ f0 f1 f2 f3
  rw [show (unpackW [k, i, s, q, x, y, z, c]).vec = [] by simp [unpackW, hk]]
  exact s4.mono hlo s5

end Go.Proofs.Ytipomhpimmnchaa

namespace Go.Proofs.Ytipomhpimmnchaa
open Go.RowKit

set_option maxHeartbeats 400000 in
theorem l3Unpack_len (ao : Option Addr) (n cap : Nat) (w : World) (h : n ≠ 8) :
    Calls Try.prog 87 #[.slice ao n cap] w fun e w' => ToldU w w' e zeroW false := by
  have hd : ((n : Int) != 8) = true := by rw [bne_iff_ne]; omega
  have HB : Hid (∀ o, Below w.heap.size w (w.alloc o)) := fun o => (Below.refl _ _).alloc (Nat.le_refl _) o
  go_enter Try.func87, Try.ntmps87
  go_wp2
  refine bodyPost_ret (v := .tuple #[.agg #[.int .i64 0, .int .i64 0, .slice none 0 0, .int .i64 0, .int .i64 0], .bool false]) (by simp [results, Try.results87, go_sem]) rfl ?_
  exact ⟨[.int .i64 0, .int .i64 0, .slice none 0 0, .int .i64 0, .int .i64 0], rfl, readsW (x := zeroW) ⟨[], Lay.lies_ints.2 ⟨none, 0, rfl, ⟨by simp [zeroW], by simp [zeroW]⟩, by simp [zeroW], Or.inl ⟨rfl, rfl⟩⟩, by simp⟩ rfl rfl rfl rfl, unhide HB _⟩

/-- The model's l3Unpack. -/
theorem l3Unpack (v : Value) (zs : List Int) (w : World) (h : (Lay.sl Lay.int).Reads w [v] zs) :
    Calls Try.prog 87 #[v] w fun e w' => ∃ x ok, ToldU w w' e x ok ∧ unpackR zs = if ok then ⟨0, x⟩ else ⟨5, zeroW⟩ := by
  have hi := Lay.ints_reads h
  have hi' := hi
  obtain ⟨ao, cap, rfl, -, hc⟩ := hi'
  by_cases hl : zs.length = 8
  · obtain ⟨k, i, s, q, x, y, z, c, rfl⟩ := eight hl
    obtain ⟨b, off, rfl, -⟩ := hc (by simp)
    have hcap := h.cap.2
    by_cases hk : k = 1
    · subst hk
      have hp : packD (unpackW [1, i, s, q, x, y, z, c]) = packList 1 i [x, y, z] s q := by simp [packD, unpackW]
      by_cases hf : writeFault 1 i [x, y, z] s q = 0
      · refine (l3Unpack_put_ok b off cap i s q x y z c w hi hcap hf).mono fun e w' ht => ⟨_, _, ht, ?_⟩
        rw [unpackR, hp, packList, if_pos hf]
        simp
      · refine (l3Unpack_put_bad b off cap i s q x y z c w hi hcap hf).mono fun e w' ht => ⟨_, _, ht, ?_⟩
        rw [unpackR, hp, packList, if_neg hf]
        simp
    · have hp : packD (unpackW [k, i, s, q, x, y, z, c]) = packList k i [] s q := by simp [packD, unpackW, hk]
      by_cases hf : writeFault k i [] s q = 0
      · refine (l3Unpack_other_ok b off cap k i s q x y z c w hi hk hf).mono fun e w' ht => ⟨_, _, ht, ?_⟩
        rw [unpackR, hp, packList, if_pos hf]
        simp
      · refine (l3Unpack_other_bad b off cap k i s q x y z c w hi hk hf).mono fun e w' ht => ⟨_, _, ht, ?_⟩
        rw [unpackR, hp, packList, if_neg hf]
        simp
  · refine (l3Unpack_len ao _ cap w hl).mono fun e w' ht => ⟨_, _, ht, ?_⟩
    rw [unpackR_len hl]
    simp

/-- The answer stored into the result's own block. -/
theorem storeU {w w1 : World} {x : DWrite} {cs vs : List Value} {lo hi : Nat} {o : Obj} (h : Lay.tWrite.LiesIn w1 cs x lo hi) (hlo : w.heap.size < lo) (hs : w.heap.size < w1.heap.size) (hb : Below w.heap.size w w1) :
    ∃ cs', Ending.returned (.agg (.int .i64 0 :: cs).toArray) = .returned (.agg cs'.toArray) ∧ Lay.tWriteResult.Reads ((setAll w1 w.heap.size 0 vs).alloc o) cs' ⟨0, x⟩ ∧ Below w.heap.size w ((setAll w1 w.heap.size 0 vs).alloc o) := by
  have h2 := h.ext (ext_setAll (fun q => q = w.heap.size) (Ext.refl _ w1) w.heap.size 0 vs rfl) (fun q h1 h2 h3 => by omega)
  have nb : Below (setAll w1 w.heap.size 0 vs).heap.size (setAll w1 w.heap.size 0 vs) ((setAll w1 w.heap.size 0 vs).alloc o) := (Below.refl _ _).alloc (Nat.le_refl _) _
  obtain ⟨bl, hl, -⟩ := h2.later nb
  exact ⟨_, rfl, ⟨bl, [.int .i64 0], cs, [], bl, rfl, rfl, ⟨rfl, rfl, rfl⟩, hl⟩, (below_setAll hb _ _ _ (Nat.le_refl _)).trans (nb.mono (by rw [size_setAll]; omega))⟩


end Go.Proofs.Ytipomhpimmnchaa

namespace Go.Proofs.Ytipomhpimmnchaa
open Go.RowKit

/-- What l8Read tells. -/
def Told8 (w w' : World) (e : Ending) (zs : List Int) : Prop := ∃ v, e = .returned (.tuple #[v, .int .i64 ((8 * cnt zs : Nat) : Int)]) ∧ (Lay.sl Lay.tWrite).LiesIn w' [v] (readL zs) w.heap.size w'.heap.size ∧ Below w.heap.size w w'

set_option maxRecDepth 100000 in
set_option maxHeartbeats 4000000 in
theorem read8_pos (b off cap : Nat) (zs : List Int) (w : World) (h : (Lay.sl Lay.int).Reads w [.slice (some ⟨b, off, none⟩) zs.length cap] zs) (hbl : b < w.heap.size) (hn : zs.length ≤ 10000000) :
    Calls Try.prog 57 #[.slice (some ⟨b, off, none⟩) zs.length cap] w fun e w' => Told8 w w' e zs := by
  have hcap := h.cap.2
  have H := hide h
  clear h
  have HG0 : Hid (Grow Lay.tWrite (w.alloc (.cells #[] 58)) w.heap.size 58 (.slice (some ⟨w.heap.size, 0, none⟩) 0 0) [] [] []) := Grow.nil (World.ownsRow_lit w #[] 0 (Nat.le_refl _) (Nat.zero_le _) rfl)
  have HB0 := hide ((Below.refl w.heap.size w).alloc (Nat.le_refl _) (.cells #[] 58))
  go_enter Try.func57, Try.ntmps57
  go_wp2_with fail
  go_loopw [4, 5] (fun v i wr => ∃ (k : Nat) (rows : List (List Value)) (bls : List (List Nat)), (∀ j, j < k → okAt zs j = true) ∧ 8 * k ≤ zs.length ∧ i = .int .i64 ((8 * k : Nat) : Int) ∧ Grow Lay.tWrite wr w.heap.size 58 v rows ((List.range k).map (wAt zs)) bls ∧ (∀ c ∈ bls.flatten, w.heap.size ≤ c) ∧ Below w.heap.size w wr) (fun _ i _ => zs.length - (intOf i).toNat)
  case atStart => exact ⟨0, [], [], fun _ h => by omega, Nat.zero_le _, rfl, unhide HG0, by simp, unhide HB0⟩
  case round =>
    obtain ⟨k, rows, bls, hok, hk, rfl, hG, hSB, hB⟩ := hrel
    have HSB := hide hSB
    have HOK := hide hok
    clear HG0 HB0 hSB hok
    by_cases hlt : 8 * k + 8 ≤ zs.length
    · have HL := hide (l3Unpack _ (pieceAt zs k) wr (piece_reads ((unhide H).later hB) k (cap - 8 * k) hlt (by omega)))
      have hbr : b < wr.heap.size := Nat.lt_of_lt_of_le hbl hB.size
      have HLn : Hid (((List.range k).map (wAt zs)).length = k) := by show ((List.range k).map (wAt zs)).length = k; simp
      have HG := hide hG
      have HB := hide hB
      clear hG hB
      go_wp2_with fail
      refine (unhide HL).mono ?_
      rintro e w2 ⟨x, ok, ⟨cs, rfl, R, hb⟩, hu⟩
      obtain ⟨a2, d2, rfl, -⟩ := open_Write R.reads
      have hl : ∃ bl, Lay.tWrite.lies w2 [.int .i64 x.kind, .int .i64 x.id, .slice a2 x.vec.length d2, .int .i64 x.session, .int .i64 x.seq] x bl ∧ ∀ c ∈ bl, wr.heap.size ≤ c ∧ c < w2.heap.size := R
      obtain ⟨bl2, hl2, hr2⟩ := hl
      have hG2 := (unhide HG).later hb
      have HB2 := hide ((unhide HB).trans (hb.mono (unhide HB).size))
      have HZW : Hid (w.heap.size ≤ wr.heap.size) := (unhide HB).size
      have HOW : Hid (∀ c, u4.ownBlock = some c → c < wr.heap.size) := fun c hc => ((unhide HG).own.lt c hc).2
      have hZ2 := hb.size
      have nb : Below w2.heap.size w2 (w2.alloc (.cells #[.int .i64 x.kind, .int .i64 x.id, .slice a2 x.vec.length d2, .int .i64 x.session, .int .i64 x.seq] 58)) := (Below.refl _ _).alloc (Nat.le_refl _) _
      have bI : Box 0 #[.int .i64 x.kind, .int .i64 x.id, .slice a2 x.vec.length d2, .int .i64 x.session, .int .i64 x.seq] 58 (w2.alloc (.cells #[.int .i64 x.kind, .int .i64 x.id, .slice a2 x.vec.length d2, .int .i64 x.session, .int .i64 x.seq] 58)) w2.heap.size := newBox (Nat.zero_le _)
      have hl3 := Lay.tWrite.keep hl2 (w' := w2.alloc (.cells #[.int .i64 x.kind, .int .i64 x.id, .slice a2 x.vec.length d2, .int .i64 x.session, .int .i64 x.seq] 58)) (fun c hc => nb.block c (hr2 c hc).2)
      have hG3 := hG2.later nb
      have hoff : ∀ c ∈ bl2, u4.ownBlock ≠ some c := fun c hc e => by have h1 := (hr2 c hc).1; have h2 := unhide HOW c e; omega
      have HB3 := hide ((unhide HB2).trans (nb.mono (unhide HB2).size))
      have hZ3 : w.heap.size ≤ (w2.alloc (.cells #[.int .i64 x.kind, .int .i64 x.id, .slice a2 x.vec.length d2, .int .i64 x.session, .int .i64 x.seq] 58)).heap.size := (unhide HB3).size
      have hK : ((List.range k).map (wAt zs)).length + 1 ≤ 100000000 := by rw [unhide HLn]; omega
      have HSB5 : Hid (∀ c ∈ (bls ++ [bl2]).flatten, w.heap.size ≤ c) := by
        intro c hc
        rw [List.flatten_append] at hc
        rcases List.mem_append.1 hc with hc | hc
        · exact unhide HSB c hc
        · have h1 := (hr2 c (by simpa using hc)).1
          have h2 := unhide HZW
          omega
      have HU := hide hu
      have HG2 := hide hG2
      clear R hl2 hb HG HL HB hr2 hu hG2 nb
      cases ok with
      | true =>
        have HX : Hid (okAt zs k = true ∧ wAt zs k = x) := by
          have e := unhide HU
          rw [if_pos rfl] at e
          exact ⟨by rw [okAt, e]; rfl, by rw [wAt, e]⟩
        have HLI := hide hl3
        have HGI := hide hG3
        have HBI := hide bI
        have HOF := hide hoff
        clear hl3 hG3 bI hoff HU HG2
        go_upto_region 6 with fail
        generalize hW3 : w2.alloc (.cells #[.int .i64 x.kind, .int .i64 x.id, .slice a2 x.vec.length d2, .int .i64 x.session, .int .i64 x.seq] 58) = W3 at *
        clear hW3
        have hl3 := unhide HLI
        have hG3 := unhide HGI
        have hoff := unhide HOF
        have z0 : W3.cell? ⟨w2.heap.size, 0, none⟩ = some (.int .i64 x.kind) := (unhide HBI).at 0 _ rfl
        have z1 : W3.cell? ⟨w2.heap.size, 1, none⟩ = some (.int .i64 x.id) := (unhide HBI).at 1 _ rfl
        have z2 : W3.cell? ⟨w2.heap.size, 2, none⟩ = some (.slice a2 x.vec.length d2) := (unhide HBI).at 2 _ rfl
        have z3 : W3.cell? ⟨w2.heap.size, 3, none⟩ = some (.int .i64 x.session) := (unhide HBI).at 3 _ rfl
        have z4 : W3.cell? ⟨w2.heap.size, 4, none⟩ = some (.int .i64 x.seq) := (unhide HBI).at 4 _ rfl
        clear HLI HGI HBI HOF
        go_wp2_with (at_builtin; refine wpList_append_Write hG3 hl3 hoff rfl _ _ rfl rfl rfl hK hZ3 ?_)
        intro g5 cap5 w5 hG5 hb5 hE5 hg5 hz5 hor5
        have HG5 := hide hG5
        have HB5 := hide ((unhide HB3).trans hb5)
        clear hG3 hl3 hoff hZ3 hK hG5 hb5 hE5 hg5 hz5 hor5 HB3 z0 z1 z2 z3 z4
        go_wp2_with fail
        go_roundw
        case rel =>
          have hg := unhide HG5
          rw [← (unhide HX).2, ← reads_snoc] at hg
          try rw [unhide HLn] at hg
          refine ⟨k + 1, _, _, fun j hj => ?_, by omega, by go_num, hg, unhide HSB5, unhide HB5⟩
          by_cases h2 : j = k
          · rw [h2]; exact (unhide HX).1
          · exact unhide HOK j (by omega)
        case measure => simp [intOf]; omega
      | false =>
        have HX : Hid (okAt zs k = false) := by
          have e := unhide HU
          rw [if_neg (by simp)] at e
          show okAt zs k = false
          rw [okAt, e]
          rfl
        have HGI := hide hG3
        clear hl3 hG3 bI hoff HU HG2 HSB5
        go_wp2_with fail
        refine bodyPost_ret (v := .tuple #[u4, .int .i64 ((8 * k : Nat) : Int)]) (by simp [results, Try.results57, go_sem]) rfl ?_
        refine ⟨_, by rw [cnt_of (unhide HOK) (unhide HX)], ?_, unhide HB3⟩
        rw [read_of (unhide HOK) (unhide HX)]
        exact (unhide HGI).toLies (by rw [unhide HLn]; omega) (unhide HSB)
    · have HX : Hid (okAt zs k = false) := ok_short (by omega)
      have HLn : Hid (((List.range k).map (wAt zs)).length = k) := by show ((List.range k).map (wAt zs)).length = k; simp
      have HG := hide hG
      have HB := hide hB
      clear hG hB H
      go_wp2_with fail
      refine bodyPost_ret (v := .tuple #[u4, .int .i64 ((8 * k : Nat) : Int)]) (by simp [results, Try.results57, go_sem]) rfl ?_
      refine ⟨_, by rw [cnt_of (unhide HOK) (unhide HX)], ?_, unhide HB⟩
      rw [read_of (unhide HOK) (unhide HX)]
      exact (unhide HG).toLies (by rw [unhide HLn]; omega) (unhide HSB)

set_option maxRecDepth 100000 in
set_option maxHeartbeats 1000000 in
/-- l8Read of the model. -/
theorem read8C (v : Value) (zs : List Int) (w : World) (h : (Lay.sl Lay.int).Reads w [v] zs) (hn : zs.length ≤ 10000000) :
    Calls Try.prog 57 #[v] w fun e w' => Told8 w w' e zs := by
  obtain ⟨ao, cap, rfl⟩ := open_sl h
  by_cases hp : 0 < zs.length
  · obtain ⟨b, off, rfl, hbl⟩ := Lay.sl_addr h hp
    exact read8_pos b off cap zs w h hbl hn
  · obtain rfl : zs = [] := List.eq_nil_of_length_eq_zero (by omega)
    clear h hp hn
    have HB := hide ((Below.refl w.heap.size w).alloc (Nat.le_refl _) (.cells #[] 58))
    have HG0 : Hid (Grow Lay.tWrite (w.alloc (.cells #[] 58)) w.heap.size 58 (.slice (some ⟨w.heap.size, 0, none⟩) 0 0) [] [] []) := Grow.nil (World.ownsRow_lit w #[] 0 (Nat.le_refl _) (Nat.zero_le _) rfl)
    go_enter Try.func57, Try.ntmps57
    go_wp2_with fail
    refine wp_loop_rounds 1 ?_
    rw [rounds_succ]
    go_wp2_with fail
    refine bodyPost_ret (v := .tuple #[.slice (some ⟨w.heap.size, 0, none⟩) 0 0, .int .i64 0]) (by simp [results, Try.results57, go_sem]) rfl ?_
    exact ⟨_, rfl, (unhide HG0).toLies (by simp) (by simp), unhide HB⟩

end Go.Proofs.Ytipomhpimmnchaa

namespace Go.Proofs.Ytipomhpimmnchaa
open Go.RowKit

/-- A log that is pointed at. -/
def LogAt (w : World) (b : Nat) (u v : Value) : Prop := w.cell? ⟨b, 0, none⟩ = some u ∧ w.cell? ⟨b, 1, none⟩ = some v

set_option maxRecDepth 100000 in
set_option maxHeartbeats 2000000 in
theorem l8Fault (b : Nat) (u v : Value) (x : DLog) (w : World) (hc : LogAt w b u v) (h1 : (Lay.sl Lay.int).Reads w [u] x.sure) (h2 : (Lay.sl Lay.int).Reads w [v] x.loose) (n1 : x.sure.length ≤ 10000000) (n2 : x.loose.length ≤ 10000000) :
    Calls Try.prog 62 #[.pointer (some ⟨b, 0, none⟩)] w fun e w' => e = .returned (.int .i64 (logFault x)) ∧ Below w.heap.size w w' := by
  obtain ⟨c0, c1⟩ := hc
  obtain ⟨a1, d1, rfl⟩ := open_sl h1
  obtain ⟨a2, d2, rfl⟩ := open_sl h2
  have H1 := hide h1
  have H2 := hide h2
  clear h1 h2
  have hbl : b < w.heap.size := World.block_lt_of_cell? _ _ c0
  by_cases hn : 320 < x.sure.length + x.loose.length
  · have HF : Hid (logFault x = 2) := by show logFault x = 2; rw [logFault, if_pos hn]
    have hd : (decide ((320 : Int) < (x.sure.length : Int) + (x.loose.length : Int))) = true := by simp; omega
    go_enter Try.func62, Try.ntmps62
    go_wp2_with fail
    go_quiet (fail)
    go_wp2_with fail
    go_ret
    exact ⟨by rw [unhide HF]; rfl, below_drewN (Below.refl _ _) _⟩
  · have hd : (decide ((320 : Int) < (x.sure.length : Int) + (x.loose.length : Int))) = false := by simp; omega
    go_enter Try.func62, Try.ntmps62
    go_wp2_with fail
    go_quiet (fail)
    have hB0 : Below w.heap.size w (w.drewN nq) := below_drewN (Below.refl _ _) _
    have hnq : nq = nq := rfl
    generalize w.drewN nq = W at *
    have e0 := cell_keep hB0 c0
    have e1 := cell_keep hB0 c1
    have HL := hide (read8C _ x.sure W ((unhide H1).later hB0) n1)
    have HB0 := hide hB0
    clear c0 c1 hB0 hnq hd
    go_wp2_with fail
    refine (unhide HL).mono ?_
    rintro e w2 ⟨v2, rfl, R, hb⟩
    obtain ⟨a3, c3, rfl⟩ := open_sl R.reads
    replace e0 := cell_keep hb e0
    replace e1 := cell_keep hb e1
    have HB2 := hide ((unhide HB0).trans (hb.mono (unhide HB0).size))
    clear HL R hb HB0
    by_cases hs : 8 * cnt x.sure = x.sure.length
    · have hd1 : (((8 * cnt x.sure : Nat) : Int) != (x.sure.length : Int)) = false := by rw [hs]; simp
      have HW : Hid (logFault x = if 8 * cnt x.loose = x.loose.length then 0 else 5) := by
        show logFault x = _
        rw [logFault, if_neg hn]
        by_cases h9 : 8 * cnt x.loose = x.loose.length
        · rw [if_pos ⟨hs, h9⟩, if_pos h9]
        · rw [if_neg (fun q => h9 q.2), if_neg h9]
      have hc1 := cnt_le x.sure
      generalize (readL x.sure).length = r1 at *
      generalize hq1 : (8 * cnt x.sure : Nat) = q1 at *
      clear hs hq1
      have HL := hide (read8C _ x.loose w2 ((unhide H2).later (unhide HB2)) n2)
      go_wp2_with fail
      refine (unhide HL).mono ?_
      rintro e w3 ⟨v3, rfl, R, hb⟩
      obtain ⟨a4, c4, rfl⟩ := open_sl R.reads
      replace e0 := cell_keep hb e0
      replace e1 := cell_keep hb e1
      have HB3 := hide ((unhide HB2).trans (hb.mono (unhide HB2).size))
      clear HL R hb HB2
      generalize (readL x.loose).length = r2 at *
      have hc2 := cnt_le x.loose
      by_cases hl : 8 * cnt x.loose = x.loose.length
      · have hd2 : (((8 * cnt x.loose : Nat) : Int) != (x.loose.length : Int)) = false := by rw [hl]; simp
        have HX : Hid (logFault x = 0) := by show logFault x = 0; rw [unhide HW, if_pos hl]
        generalize hq2 : (8 * cnt x.loose : Nat) = q2 at *
        clear hl HW hq2
        go_wp2_with fail
        go_ret
        exact ⟨by rw [unhide HX]; rfl, unhide HB3⟩
      · have hd2 : (((8 * cnt x.loose : Nat) : Int) != (x.loose.length : Int)) = true := by rw [bne_iff_ne]; omega
        have HX : Hid (logFault x = 5) := by show logFault x = 5; rw [unhide HW, if_neg hl]
        generalize hq2 : (8 * cnt x.loose : Nat) = q2 at *
        clear hl HW hq2
        go_wp2_with fail
        go_ret
        exact ⟨by rw [unhide HX]; rfl, unhide HB3⟩
    · have hd1 : (((8 * cnt x.sure : Nat) : Int) != (x.sure.length : Int)) = true := by rw [bne_iff_ne]; omega
      have HX : Hid (logFault x = 5) := by show logFault x = 5; rw [logFault, if_neg hn, if_neg (fun q => hs q.1)]
      have hc1 := cnt_le x.sure
      generalize (readL x.sure).length = r1 at *
      generalize hq1 : (8 * cnt x.sure : Nat) = q1 at *
      clear hs hq1
      go_wp2_with fail
      go_ret
      exact ⟨by rw [unhide HX]; rfl, unhide HB2⟩

theorem sz_log {x : DLog} (h : Lay.tLog.sz x ≤ 1048576) : x.sure.length ≤ 10000000 ∧ x.loose.length ≤ 10000000 := by
  have h1 : (Lay.sl Lay.int).sz x.sure + (Lay.sl Lay.int).sz x.loose ≤ 1048576 := h
  have h2 := Lay.sz_len (A := Lay.int) (xs := x.sure)
  have h3 := Lay.sz_len (A := Lay.int) (xs := x.loose)
  omega
set_option maxHeartbeats 400000 in
/-- LogFault of the model. -/
theorem specLogFault (cs : List Value) (x : DLog) (w : World) (h : Lay.tLog.Reads w cs x) (n1 : x.sure.length ≤ 10000000) (n2 : x.loose.length ≤ 10000000) :
    Calls Try.prog 29 #[.agg cs.toArray] w fun e w' => e = .returned (.int .i64 (logFault x)) ∧ Below w.heap.size w w' := by
  obtain ⟨a0, d0, a1, d1, rfl, R0, R1⟩ := open_Log h
  clear h
  have nb : Below w.heap.size w (w.alloc (.cells #[.slice a0 x.sure.length d0, .slice a1 x.loose.length d1] 48)) := (Below.refl _ _).alloc (Nat.le_refl _) _
  have bL : Box w.heap.size #[.slice a0 x.sure.length d0, .slice a1 x.loose.length d1] 48 (w.alloc (.cells #[.slice a0 x.sure.length d0, .slice a1 x.loose.length d1] 48)) w.heap.size := newBox (Nat.le_refl _)
  have HL := hide (l8Fault w.heap.size _ _ x _ ⟨bL.at 0 _ rfl, bL.at 1 _ rfl⟩ (R0.later nb) (R1.later nb) n1 n2)
  have HB := hide nb
  clear nb bL R0 R1
  go_enter Try.func29, Try.ntmps29
  go_wp2_with fail
  refine (unhide HL).mono ?_
  rintro e w2 ⟨rfl, hb⟩
  have HB2 := hide ((unhide HB).trans (hb.mono (unhide HB).size))
  clear HL hb HB
  go_wp2_with fail
  go_ret
  exact ⟨rfl, unhide HB2⟩

end Go.Proofs.Ytipomhpimmnchaa

namespace Go.Proofs.Ytipomhpimmnchaa
open Go.RowKit

theorem step_append_ints {w : World} {base : Nat} {v : Value} {n : Nat} {xs : List Value} (hown : w.ownsRow base 2 1 v n xs) {X : Value} {ks : List Int} (hx : IsInts w X ks)
    {ops : Array Oper} {o : Oper} {a : Act} {K : Act → World → Prop} {Q : Exit → Act → World → Prop} {E : Prop} (hgd : o.guard = none) (s x : Operand)
    (ho : o.op = .call { callee := .builtin .append, args := #[s, x], argTypes := #[24, 24] }) (hv : a.eval s = v) (hX : a.eval x = X)
    (hn : n + ks.length ≤ 100000000) (hbase : base ≤ w.heap.size)
    (h : ∀ v' w', w'.ownsRow base 2 1 v' (n + ks.length) (xs ++ ks.map (Value.int .i64)) → w.grownBy w' v.ownBlock → Below base w w' → K (a.put o.dst v') w') :
    if Region.wanted o (yielded ops a.tmps) = true then Oper.wp Try.prog o a w K Q else E := by
  rw [if_pos (show Region.wanted o (yielded ops a.tmps) = true by simp [Region.wanted, hgd])]
  obtain ⟨v', w', hr, h2, h3⟩ := run_append_ints base o.type v n xs hown X ks hx hn hbase
  unfold Oper.wp execOp
  simp only [ho, resolve, invoke, builtin, Sem.run_bind, Sem.run_pure, Result.andThen_ok, List.map_toArray, List.map_cons, List.map_nil, hv, hX, hr]
  exact h v' w' h2 h3 ((Below.refl _ _).grown h3 hbase (fun j hj => (hown.lt j hj).1))

end Go.Proofs.Ytipomhpimmnchaa

namespace Go.Proofs.Ytipomhpimmnchaa
open Go.RowKit

set_option maxRecDepth 100000 in
set_option maxHeartbeats 4000000 in
theorem specCrashLog (cs : List Value) (x : DLog) (kept : Int) (w : World) (h : Lay.tLog.Reads w cs x) (n1 : x.sure.length ≤ 10000000) (n2 : x.loose.length ≤ 10000000) :
    Calls Try.prog 45 #[.agg cs.toArray, .int .i64 kept] w fun e w' => ∃ cs, e = .returned (.agg cs.toArray) ∧ Lay.tLogResult.LiesIn w' cs (crashLogR x kept) w.heap.size w'.heap.size ∧ Below w.heap.size w w' := by
  obtain ⟨a0, d0, a1, d1, rfl, R0, R1⟩ := open_Log h
  clear h
  have nb : Below w.heap.size w ((w.alloc (.cells #[.slice a0 x.sure.length d0, .slice a1 x.loose.length d1] 48)).alloc (.cells #[.int .i64 0, .int .i64 0, .slice none 0 0, .slice none 0 0] 56)) := ((Below.refl _ _).alloc (Nat.le_refl _) _).alloc (by simp) _
  have bX : Box w.heap.size #[.slice a0 x.sure.length d0, .slice a1 x.loose.length d1] 48 ((w.alloc (.cells #[.slice a0 x.sure.length d0, .slice a1 x.loose.length d1] 48)).alloc (.cells #[.int .i64 0, .int .i64 0, .slice none 0 0, .slice none 0 0] 56)) w.heap.size := (newBox (Nat.le_refl _)).grow _
  have bR : Box 0 #[.int .i64 0, .int .i64 0, .slice none 0 0, .slice none 0 0] 56 ((w.alloc (.cells #[.slice a0 x.sure.length d0, .slice a1 x.loose.length d1] 48)).alloc (.cells #[.int .i64 0, .int .i64 0, .slice none 0 0, .slice none 0 0] 56)) (w.heap.size + 1) := newBoxAt (Nat.zero_le _) (by simp)
  have HL := hide (l8Fault w.heap.size _ _ x _ ⟨bX.at 0 _ rfl, bX.at 1 _ rfl⟩ (R0.later nb) (R1.later nb) n1 n2)
  have H0 := hide R0
  have H1 := hide R1
  have HX0 := hide bX
  have HR0 := hide bR
  have HB0 := hide nb
  clear nb bX bR R0 R1
  go_enter Try.func45, Try.ntmps45
  go_wp2_with fail
  generalize (w.alloc (.cells #[.slice a0 x.sure.length d0, .slice a1 x.loose.length d1] 48)).alloc (.cells #[.int .i64 0, .int .i64 0, .slice none 0 0, .slice none 0 0] 56) = W0 at *
  refine (unhide HL).mono ?_
  rintro e W2 ⟨rfl, hb⟩
  have HX := hide ((unhide HX0).keep hb)
  have HR := hide ((unhide HR0).keep hb)
  have HB2 := hide ((unhide HB0).trans (hb.mono (unhide HB0).size))
  clear hb HL HX0 HR0 HB0
  by_cases hf : logFault x = 0
  · obtain ⟨hn, hs, hl⟩ := logFault_zero hf
    have HF := hide hf
    rw [hf]
    clear hf hs hl
    have x1 := (unhide HX).at 1 _ rfl
    simp only [List.getElem_toArray, List.getElem_cons_zero, List.getElem_cons_succ] at x1
    have hxl := (unhide HX).lt
    have LI := hide (inC kept 0 (x.loose.length : Int) W2)
    go_wp2_with fail
    refine (unhide LI).mono ?_
    rintro e W3 ⟨rfl, h3⟩
    subst W3
    clear LI x1
    by_cases hk : 0 ≤ kept ∧ kept ≤ x.loose.length
    · have hd2 : (decide (0 ≤ kept) && decide (kept ≤ (x.loose.length : Int))) = true := by simpa using hk
      rw [hd2]
      have HY0 : Hid (crashLogR x kept = logOf ((keptOf x kept).take (8 * cnt (keptOf x kept))) []) := by show crashLogR x kept = _; rw [crashLogR, if_pos (unhide HF), if_pos hk]
      obtain ⟨k, rfl⟩ : ∃ k : Nat, kept = (k : Int) := ⟨kept.toNat, by omega⟩
      have hk1 : k ≤ x.loose.length := by omega
      have HY : Hid (crashLogR x (k : Int) = logOf ((x.sure ++ x.loose.take k).take (8 * cnt (x.sure ++ x.loose.take k))) []) := by
        have := unhide HY0
        rw [keptOf, Int.toNat_natCast] at this
        exact this
      clear HF hd2 hk HY0
      have hc1 := (unhide H1).cap.2
      have HWA : Hid (∀ z ∈ x.sure ++ x.loose.take k, (Lit.int .i64 z).wf = true) := by
        intro z hz
        rcases List.mem_append.1 hz with hz | hz
        · exact (Lay.ints_reads (unhide H0)).wf z hz
        · exact (Lay.ints_reads (unhide H1)).wf z (List.mem_of_mem_take hz)
      go_wp2_with fail
      have hRD : Box 0 #[.int .i64 0, .int .i64 0, .slice none 0 0, .slice none 0 0] 56 W2.drew (w.heap.size + 1) := (unhide HR).drew
      refine wp_region_noPanic ?_
      refine wp_region_held_drew (S := fun w' => Below (w.heap.size + 1) W2 w') (by kernel_rfl) (Below.refl _ _).drew (fun hHeld => ?_)
      generalize W2.drew = wD at hHeld hRD ⊢
      refine wpAnyH_take (i := 0) (oi := { dst := some 21, op := Go.Op.fieldAddr 48 (Go.Operand.tmp 2) 0, type := 0, pos := "l08_log.go:95", after := #[], guard := none }) (v := ?v0_1) rfl (by kernel_rfl) (by kernel_rfl) (by kernel_rfl) (fun _ _ _ h => h) (Or.inl ⟨by rfl, ?h0_1⟩) hHeld ?r0_1
      case h0_1 =>
        intro wS hSw
        (try dsimp only at hSw)
        go_simp
        try with_reducible rfl
      case r0_1 =>
      simp only [Act.put, List.setIfInBounds_toArray, List.set_cons_zero, List.set_cons_succ]
      refine wpAnyH_take (i := 1) (oi := { dst := some 22, op := Go.Op.load 24 (Go.Operand.tmp 21), type := 24, pos := "l08_log.go:95", after := #[{ on := 0, ground := Go.Ground.data }], guard := none }) (v := ?v1_2) rfl (by kernel_rfl) (by kernel_rfl) (by kernel_rfl) (fun _ _ _ h => h) (Or.inl ⟨by rfl, ?h1_2⟩) hHeld ?r1_2
      case h1_2 =>
        intro wS hSw
        have y0 : wS.cell? ⟨w.heap.size, 0, none⟩ = some (.slice a0 x.sure.length d0) := (hSw.cell (p := ⟨w.heap.size, 0, none⟩) (by simp)).trans ((unhide HX).at 0 _ rfl)
        clear hSw
        (try dsimp only at hSw)
        go_simp
        try with_reducible rfl
      case r1_2 =>
      simp only [Act.put, List.setIfInBounds_toArray, List.set_cons_zero, List.set_cons_succ]
      refine wpAnyH_take (i := 3) (oi := { dst := some 24, op := Go.Op.fieldAddr 48 (Go.Operand.tmp 2) 1, type := 0, pos := "l08_log.go:95", after := #[], guard := none }) (v := ?v3_3) rfl (by kernel_rfl) (by kernel_rfl) (by kernel_rfl) (fun _ _ _ h => h) (Or.inl ⟨by rfl, ?h3_3⟩) hHeld ?r3_3
      case h3_3 =>
        intro wS hSw
        (try dsimp only at hSw)
        go_simp
        try with_reducible rfl
      case r3_3 =>
      simp only [Act.put, List.setIfInBounds_toArray, List.set_cons_zero, List.set_cons_succ]
      refine wpAnyH_take (i := 4) (oi := { dst := some 25, op := Go.Op.load 24 (Go.Operand.tmp 24), type := 24, pos := "l08_log.go:95", after := #[{ on := 3, ground := Go.Ground.data }], guard := none }) (v := ?v4_4) rfl (by kernel_rfl) (by kernel_rfl) (by kernel_rfl) (fun _ _ _ h => h) (Or.inl ⟨by rfl, ?h4_4⟩) hHeld ?r4_4
      case h4_4 =>
        intro wS hSw
        have y1 : wS.cell? ⟨w.heap.size, 1, none⟩ = some (.slice a1 x.loose.length d1) := (hSw.cell (p := ⟨w.heap.size, 1, none⟩) (by simp)).trans ((unhide HX).at 1 _ rfl)
        clear hSw
        (try dsimp only at hSw)
        go_simp
        try with_reducible rfl
      case r4_4 =>
      simp only [Act.put, List.setIfInBounds_toArray, List.set_cons_zero, List.set_cons_succ]
      refine wpAnyH_take (i := 5) (oi := { dst := some 26, op := Go.Op.move (Go.Operand.tmp 1), type := 2, pos := "l08_log.go:95", after := #[], guard := none }) (v := ?v5_5) rfl (by kernel_rfl) (by kernel_rfl) (by kernel_rfl) (fun _ _ _ h => h) (Or.inl ⟨by rfl, ?h5_5⟩) hHeld ?r5_5
      case h5_5 =>
        intro wS hSw
        (try dsimp only at hSw)
        go_simp
        try with_reducible rfl
      case r5_5 =>
      simp only [Act.put, List.setIfInBounds_toArray, List.set_cons_zero, List.set_cons_succ]
      refine wpAnyH_take (i := 6) (oi := { dst := some 27, op := Go.Op.slice 24 (Go.Operand.tmp 25) none (some (Go.Operand.tmp 26)) none, type := 24, pos := "l08_log.go:95", after := #[{ on := 4, ground := Go.Ground.data }, { on := 5, ground := Go.Ground.data }], guard := none }) (v := ?v6_6) rfl (by kernel_rfl) (by kernel_rfl) (by kernel_rfl) (fun _ _ _ h => h) (Or.inl ⟨by rfl, ?h6_6⟩) hHeld ?r6_6
      case h6_6 =>
        intro wS hSw
        have hkd : k ≤ d1 := by omega
        clear hSw
        (try dsimp only at hSw)
        go_simp
        try with_reducible rfl
      case r6_6 =>
      simp only [Act.put, List.setIfInBounds_toArray, List.set_cons_zero, List.set_cons_succ]
      refine wpAnyH_ready (rs := [2]) (by kernel_rfl) (by simp) ?_
      refine AllReadyH.cons (o := { dst := some 23, op := Go.Op.call { callee := Go.Callee.value (Go.Operand.func 65), args := #[Go.Operand.tmp 22], argTypes := #[24] }, type := 24, pos := "l08_log.go:95", after := #[{ on := 1, ground := Go.Ground.data }], guard := none }) rfl (fun K hK => ?_) AllReadyH.nil
      go_simp
      go_at_call 65
      have hWD := (unhide HB2).trans (hHeld.mono (by omega))
      refine (l1Ints _ x.sure _ (Lay.ints_reads ((unhide H0).later hWD)) (by omega)).mono ?_
      rintro e w3 ⟨v3, rfl, O3, hbw⟩
      have hH3 := hWD.trans (hbw.mono hWD.size)
      have hS3 := hHeld.trans (hbw.mono (by have := hRD.lt; omega))
      have bR3 := hRD.keep hbw
      have hz3 := hbw.size
      try go_wp2_with fail
      refine hK.out _ _ hS3 (fun hHeld => ?_)
      clear hK K
      try simp only [Act.put, List.setIfInBounds_toArray, List.set_cons_zero, List.set_cons_succ]
      refine wpAnyH_ready (rs := [7]) (by kernel_rfl) (by simp) ?_
      refine AllReadyH.cons (o := { dst := some 28, op := Go.Op.call { callee := Go.Callee.builtin Go.Builtin.append, args := #[Go.Operand.tmp 23, Go.Operand.tmp 27], argTypes := #[24, 24] }, type := 24, pos := "l08_log.go:95", after := #[{ on := 2, ground := Go.Ground.data }, { on := 6, ground := Go.Ground.data }, { on := 2, ground := Go.Ground.chain }], guard := none }) rfl (fun K hK => ?_) AllReadyH.nil
      refine step_append_ints O3 (Lay.ints_reads ((take_reads (unhide H1) k hk1).later hH3)) rfl _ _ rfl rfl rfl (by rw [List.length_take]; omega) hz3 ?_
      rintro v5 w5 O5 hg5 hb5
      have hS5 := hS3.trans (hb5.mono (by have := hRD.lt; omega))
      have bR5 : Box 0 #[.int .i64 0, .int .i64 0, .slice none 0 0, .slice none 0 0] 56 w5 (w.heap.size + 1) := ⟨bR3.1, (hg5.block (w.heap.size + 1) bR3.lt (fun e => by have h1 := (O3.lt _ e.symm).1; have h2 := hRD.lt; omega)).trans bR3.2⟩
      have hH5 := hH3.trans (hb5.mono (by have := hWD.size; omega))
      have hz5 := hb5.size
      have O5I := Lay.ownInts (zs := x.sure ++ x.loose.take k) (unhide HWA) (by rw [List.length_append, List.length_take]; omega) (by rw [List.length_append, List.map_append]; exact O5)
      refine hK.out _ _ hS5 (fun hHeld => ?_)
      clear hK K
      try simp only [Act.put, List.setIfInBounds_toArray, List.set_cons_zero, List.set_cons_succ]
      refine wpAnyH_take (i := 8) (oi := { dst := some 6, op := Go.Op.assign (Go.Operand.tmp 28), type := 24, pos := "l08_log.go:95", after := #[{ on := 7, ground := Go.Ground.data }, { on := 7, ground := Go.Ground.chain }, { on := 0, ground := Go.Ground.phase }, { on := 1, ground := Go.Ground.phase }, { on := 2, ground := Go.Ground.phase }, { on := 3, ground := Go.Ground.phase }, { on := 4, ground := Go.Ground.phase }, { on := 5, ground := Go.Ground.phase }, { on := 6, ground := Go.Ground.phase }, { on := 7, ground := Go.Ground.phase }], guard := none }) (v := ?v8_7) rfl (by kernel_rfl) (by kernel_rfl) (by kernel_rfl) (fun _ _ _ h => h) (Or.inl ⟨by rfl, ?h8_7⟩) hHeld ?r8_7
      case h8_7 =>
        intro wS hSw
        (try dsimp only at hSw)
        go_simp
        try with_reducible rfl
      case r8_7 =>
      simp only [Act.put, List.setIfInBounds_toArray, List.set_cons_zero, List.set_cons_succ]
      refine wpAnyH_done (by kernel_rfl) ?_ _
      refine NoPanic.normal ?_
      clear hHeld
      have HK := hide hH5
      have HR5 := hide bR5
      have HO5 := hide O5I
      have hz9 : w.heap.size < wD.heap.size := by have := hRD.lt; omega
      have HZ9 := hide (show w.heap.size + 1 < wD.heap.size from hRD.lt)
      have HWZ : Hid (wD.heap.size ≤ w5.heap.size) := by show wD.heap.size ≤ w5.heap.size; omega
      obtain ⟨a8, c8, rfl⟩ := open_sl O5I.reads
      clear hH5 bR5 O5I O5 hg5 hb5 hS5 bR3 hz3 hbw O3 hRD hz9 hH3 hS3 hWD
      have hzl : (x.sure ++ x.loose.take k).length ≤ 1000000 := by rw [List.length_append, List.length_take]; omega
      generalize hzs : (x.sure ++ x.loose.take k) = zs at *
      clear hzs
      have LR := hide (read8C _ zs w5 (unhide HO5).reads (by omega))
      go_wp2_with fail
      refine (unhide LR).mono ?_
      rintro e w7 ⟨v7, rfl, R7, hb7⟩
      obtain ⟨a9, c9, rfl⟩ := open_sl R7.reads
      have HK7 := hide ((unhide HK).trans (hb7.mono (unhide HK).size))
      have HR7 := hide ((unhide HR5).keep hb7)
      have HO7 := hide ((unhide HO5).reads.later hb7)
      have hcap := (unhide HO7).cap.2
      have hlt7 := (unhide HR5).lt
      have hz7 := hb7.size
      clear R7 hb7 LR HO5
      have hcl := cnt_le zs
      have HQ : Hid (crashLogR x (k : Int) = logOf (zs.take (8 * cnt zs)) []) := unhide HY
      have HOT := hide (take_reads (unhide HO7) (8 * cnt zs) hcl)
      have hll : (zs.take (8 * cnt zs)).length ≤ 10000000 := by rw [List.length_take]; omega
      have HTL : Hid ((zs.take (8 * cnt zs)).length = 8 * cnt zs) := by show (zs.take (8 * cnt zs)).length = _; rw [List.length_take]; omega
      clear HY HO7
      generalize hq7 : 8 * cnt zs = q7 at *
      clear hq7
      generalize (readL zs).length = r7 at *
      have LO := hide (l8OfD _ _ (zs.take q7) [] w7 (unhide HOT) (nil_own (lo := 0) (hi := 0)).reads hll (by simp))
      clear hll
      go_wp2_with fail
      refine (unhide LO).mono ?_
      rintro e w6 ⟨cn, a6, n6, c6, a7, n7, c7, rfl, R6, hbw⟩
      have bR6 := (unhide HR7).keep hbw
      have hlo6 := (unhide HR7).lt
      have hH6 := (unhide HK7).trans (hbw.mono (unhide HK7).size)
      have z0 := bR6.at 0 _ rfl
      have z1 := bR6.at 1 _ rfl
      have z2 := bR6.at 2 _ rfl
      have z3 := bR6.at 3 _ rfl
      have ff := bR6.soft
      have l0 := bR6.lt
      simp only [List.getElem_toArray, List.getElem_cons_zero, List.getElem_cons_succ] at z0 z1 z2 z3
      have HFIN := hide (lies_store' (s := w.heap.size + 1) (vs := [.int .i64 0, .int .i64 cn, .slice a6 n6 c6, .slice a7 n7 c7]) R6 hlo6)
      have HBF := hide (below_setAll hH6 (w.heap.size + 1) 0 [.int .i64 0, .int .i64 cn, .slice a6 n6 c6, .slice a7 n7 c7] (by omega))
      have HSF := hide (size_setAll w6 (w.heap.size + 1) 0 [.int .i64 0, .int .i64 cn, .slice a6 n6 c6, .slice a7 n7 c7])
      have HHO := hide (unhide HK7).size
      clear LO R6 hbw bR6 hH6
      go_wp2_with fail
      refine bodyPost_ret (v := .agg #[.int .i64 0, .int .i64 cn, .slice a6 n6 c6, .slice a7 n7 c7]) (by simp [results, Try.results45, go_sem, z0, z1, z2, z3]) rfl ?_
      rw [unhide HQ]
      refine ⟨[.int .i64 0, .int .i64 cn, .slice a6 n6 c6, .slice a7 n7 c7], rfl, ?_, unhide HBF⟩
      refine (unhide HFIN).mono ?_ ?_
      · have := unhide HHO; omega
      · have h1 := unhide HSF; exact Nat.le_of_eq h1.symm
    · have hd2 : (decide (0 ≤ kept) && decide (kept ≤ (x.loose.length : Int))) = false := by
        by_cases h1 : 0 ≤ kept
        · simp [h1]; omega
        · simp [h1]
      rw [hd2]
      have HY : Hid (crashLogR x kept = badLog 3) := by show crashLogR x kept = _; rw [crashLogR, if_pos (unhide HF), if_neg hk]
      clear HF hk
      have bR := unhide HR
      have z0 := bR.at 0 _ rfl
      have z1 := bR.at 1 _ rfl
      have z2 := bR.at 2 _ rfl
      have z3 := bR.at 3 _ rfl
      have ff := bR.soft
      have l0 := bR.lt
      simp only [List.getElem_toArray, List.getElem_cons_zero, List.getElem_cons_succ] at z0 z1 z2 z3
      clear bR
      go_wp2_with fail
      refine bodyPost_ret (v := .agg #[.int .i64 3, .int .i64 0, .slice none 0 0, .slice none 0 0]) (by simp [results, Try.results45, go_sem, z0, z1, z2, z3]) rfl ?_
      rw [unhide HY]
      have hB9 := below_setAll (unhide HB2) (w.heap.size + 1) 0 [.int .i64 3, .int .i64 0, .slice none 0 0, .slice none 0 0] (by omega)
      exact ⟨[.int .i64 3, .int .i64 0, .slice none 0 0, .slice none 0 0], rfl, (own_badLog (by decide) (by have := hB9.size; exact this)).lies, hB9⟩
  · have hd : (logFault x != 0) = true := by simpa using hf
    have HY : Hid (crashLogR x kept = badLog (logFault x)) := by show crashLogR x kept = _; rw [crashLogR, if_neg hf]
    have HW := hide (logFault_wf x)
    generalize logFault x = c at *
    clear hf
    have bR := unhide HR
    have z0 := bR.at 0 _ rfl
    have z1 := bR.at 1 _ rfl
    have z2 := bR.at 2 _ rfl
    have z3 := bR.at 3 _ rfl
    have ff := bR.soft
    have l0 := bR.lt
    simp only [List.getElem_toArray, List.getElem_cons_zero, List.getElem_cons_succ] at z0 z1 z2 z3
    clear bR
    go_wp2_with fail
    refine bodyPost_ret (v := .agg #[.int .i64 c, .int .i64 0, .slice none 0 0, .slice none 0 0]) (by simp [results, Try.results45, go_sem, z0, z1, z2, z3]) rfl ?_
    rw [unhide HY]
    have hB9 := below_setAll (unhide HB2) (w.heap.size + 1) 0 [.int .i64 c, .int .i64 0, .slice none 0 0, .slice none 0 0] (by omega)
    exact ⟨[.int .i64 c, .int .i64 0, .slice none 0 0, .slice none 0 0], rfl, (own_badLog (unhide HW) (by have := hB9.size; exact this)).lies, hB9⟩

end Go.Proofs.Ytipomhpimmnchaa

namespace Go.Proofs.Ytipomhpimmnchaa
open Go.RowKit

set_option maxRecDepth 100000 in
set_option maxHeartbeats 4000000 in
theorem implSyncLog (cs : List Value) (x : DLog) (w : World) (h : Lay.tLog.Reads w cs x) (n1 : x.sure.length ≤ 10000000) (n2 : x.loose.length ≤ 10000000) :
    Calls Try.prog 44 #[.agg cs.toArray] w fun e w' => ∃ cs, e = .returned (.agg cs.toArray) ∧ Lay.tLogResult.OwnIn w' cs (syncLogR x) w.heap.size w'.heap.size ∧ Below w.heap.size w w' := by
  obtain ⟨a0, d0, a1, d1, rfl, R0, R1⟩ := open_Log h
  have nb : Below w.heap.size w ((w.alloc (.cells #[.slice a0 x.sure.length d0, .slice a1 x.loose.length d1] 48)).alloc (.cells #[.int .i64 0, .int .i64 0, .slice none 0 0, .slice none 0 0] 56)) := ((Below.refl _ _).alloc (Nat.le_refl _) _).alloc (by simp) _
  have bX : Box w.heap.size #[.slice a0 x.sure.length d0, .slice a1 x.loose.length d1] 48 ((w.alloc (.cells #[.slice a0 x.sure.length d0, .slice a1 x.loose.length d1] 48)).alloc (.cells #[.int .i64 0, .int .i64 0, .slice none 0 0, .slice none 0 0] 56)) w.heap.size := (newBox (Nat.le_refl _)).grow _
  have bR : Box 0 #[.int .i64 0, .int .i64 0, .slice none 0 0, .slice none 0 0] 56 ((w.alloc (.cells #[.slice a0 x.sure.length d0, .slice a1 x.loose.length d1] 48)).alloc (.cells #[.int .i64 0, .int .i64 0, .slice none 0 0, .slice none 0 0] 56)) (w.heap.size + 1) := newBoxAt (Nat.zero_le _) (by simp)
  have HL := hide (implLogFault _ x _ (h.later nb) n1 n2)
  have H0 := hide R0
  have H1 := hide R1
  have HX0 := hide bX
  have HR0 := hide bR
  have HB0 := hide nb
  clear h nb bX bR R0 R1
  go_enter Try.func44, Try.ntmps44
  go_wp2_with fail
  generalize (w.alloc (.cells #[.slice a0 x.sure.length d0, .slice a1 x.loose.length d1] 48)).alloc (.cells #[.int .i64 0, .int .i64 0, .slice none 0 0, .slice none 0 0] 56) = W0 at *
  refine (unhide HL).mono ?_
  rintro e W2 ⟨rfl, hb⟩
  have HX := hide ((unhide HX0).keep hb)
  have HR := hide ((unhide HR0).keep hb)
  have HB2 := hide ((unhide HB0).trans (hb.mono (unhide HB0).size))
  clear hb HL HX0 HR0 HB0
  by_cases hf : logFault x = 0
  · obtain ⟨hn, hs, hl⟩ := logFault_zero hf
    have HF := hide hf
    have HSU := hide hs
    have HLO := hide hl
    rw [hf]
    clear hf hs hl
    have HY : Hid (syncLogR x = logOf (x.sure ++ x.loose) []) := by show syncLogR x = _; rw [syncLogR, if_pos (unhide HF)]
    have HWA : Hid (∀ z ∈ x.sure ++ x.loose, (Lit.int .i64 z).wf = true) := by
      intro z hz
      rcases List.mem_append.1 hz with hz | hz
      · exact (Lay.ints_reads (unhide H0)).wf z hz
      · exact (Lay.ints_reads (unhide H1)).wf z hz
    have LJ := hide (implJoined _ _ x.sure x.loose W2 ((unhide H0).later (unhide HB2)) ((unhide H1).later (unhide HB2)) n1 n2)
    have x0 := (unhide HX).at 0 _ rfl
    have x1 := (unhide HX).at 1 _ rfl
    simp only [List.getElem_toArray, List.getElem_cons_zero, List.getElem_cons_succ] at x0 x1
    go_wp2_with fail
    refine (unhide LJ).mono ?_
    rintro e w3 ⟨m, hm, rfl, O3, hb3⟩
    have hO3 := Lay.ownInts (zs := x.sure ++ x.loose) (unhide HWA) (by rw [List.length_append]; omega) (by rw [List.length_append, ← hm]; exact O3)
    have bR3 := (unhide HR).keep hb3
    have hH3 := (unhide HB2).trans (hb3.mono (unhide HB2).size)
    have HO3 := hide hO3
    have HR3 := hide bR3
    have HH3 := hide hH3
    have HLT := hide (unhide HR).lt
    have HBS := hide (unhide HB2).size
    have HM := hide hm
    have HLL : Hid (W2.heap.size ≤ w3.heap.size) := hb3.size
    have hm9 : m ≤ 1000 := by omega
    have LC := hide (implCounted (some ⟨W2.heap.size, 0, none⟩) m m none 0 0 w3 (by omega) (by omega))
    clear LJ O3 hO3 hb3 bR3 hH3 hm x0 x1
    go_wp2_with fail
    refine (unhide LC).mono ?_
    rintro e w4 ⟨cn, hcn, rfl, hb4⟩
    have hlo : w.heap.size + 1 < W2.heap.size := unhide HLT
    have hlo4 : w.heap.size ≤ W2.heap.size := unhide HBS
    have hOW : Lay.tLogResult.OwnIn w4 [.int .i64 0, .int .i64 cn, .slice (some ⟨W2.heap.size, 0, none⟩) m m, .slice none 0 0] (logOf (x.sure ++ x.loose) []) W2.heap.size w4.heap.size := by
      have hcw : (Lit.int .i64 cn).wf = true := by rw [hcn]; exact count_wf (by omega)
      have e : logOf (x.sure ++ x.loose) [] = ⟨0, cn, ⟨x.sure ++ x.loose, []⟩⟩ := by rw [logOf, hcn, List.length_append, ← unhide HM]; rfl
      rw [e]
      have h3 := (unhide HO3).later hb4
      have hz := hb4.size
      have hz2 : W2.heap.size ≤ w3.heap.size := by have := unhide HLL; exact this
      exact own_logR (by decide) hcw h3 (nil_own (lo := w3.heap.size) (hi := w4.heap.size)) (Nat.le_refl _) hz2 hz
    have bR := (unhide HR3).keep hb4
    have hH4 := (unhide HH3).trans (hb4.mono (unhide HH3).size)
    clear hb4 LC HR3 HO3 HR hcn
    have z0 := bR.at 0 _ rfl
    have z1 := bR.at 1 _ rfl
    have z2 := bR.at 2 _ rfl
    have z3 := bR.at 3 _ rfl
    have ff := bR.soft
    have l0 := bR.lt
    simp only [List.getElem_toArray, List.getElem_cons_zero, List.getElem_cons_succ] at z0 z1 z2 z3
    have HFIN := hide (own_store' (s := w.heap.size + 1) (vs := [.int .i64 0, .int .i64 cn, .slice (some ⟨W2.heap.size, 0, none⟩) m m, .slice none 0 0]) hOW hlo)
    have HBF := hide (below_setAll hH4 (w.heap.size + 1) 0 [.int .i64 0, .int .i64 cn, .slice (some ⟨W2.heap.size, 0, none⟩) m m, .slice none 0 0] (by omega))
    have HSF := hide (size_setAll w4 (w.heap.size + 1) 0 [.int .i64 0, .int .i64 cn, .slice (some ⟨W2.heap.size, 0, none⟩) m m, .slice none 0 0])
    have HLO4 := hide hlo4
    clear hOW hH4 bR hlo hlo4
    go_wp2_with fail
    refine bodyPost_ret (v := .agg #[.int .i64 0, .int .i64 cn, .slice (some ⟨W2.heap.size, 0, none⟩) m m, .slice none 0 0]) (by simp [results, Try.results44, go_sem, z0, z1, z2, z3]) rfl ?_
    rw [unhide HY]
    refine ⟨[.int .i64 0, .int .i64 cn, .slice (some ⟨W2.heap.size, 0, none⟩) m m, .slice none 0 0], rfl, ?_, unhide HBF⟩
    refine (unhide HFIN).mono (unhide HLO4) ?_
    exact Nat.le_of_eq (unhide HSF).symm
  · have hd : (logFault x != 0) = true := by simpa using hf
    have HY : Hid (syncLogR x = badLog (logFault x)) := by show syncLogR x = _; rw [syncLogR, if_neg hf]
    have HW := hide (logFault_wf x)
    generalize logFault x = c at *
    clear hf
    have bR := unhide HR
    have z0 := bR.at 0 _ rfl
    have z1 := bR.at 1 _ rfl
    have z2 := bR.at 2 _ rfl
    have z3 := bR.at 3 _ rfl
    have ff := bR.soft
    have l0 := bR.lt
    simp only [List.getElem_toArray, List.getElem_cons_zero, List.getElem_cons_succ] at z0 z1 z2 z3
    clear bR
    go_wp2_with fail
    refine bodyPost_ret (v := .agg #[.int .i64 c, .int .i64 0, .slice none 0 0, .slice none 0 0]) (by simp [results, Try.results44, go_sem, z0, z1, z2, z3]) rfl ?_
    rw [unhide HY]
    have hB9 := below_setAll (unhide HB2) (w.heap.size + 1) 0 [.int .i64 c, .int .i64 0, .slice none 0 0, .slice none 0 0] (by omega)
    exact ⟨[.int .i64 c, .int .i64 0, .slice none 0 0, .slice none 0 0], rfl, own_badLog (unhide HW) (by have := hB9.size; exact this), hB9⟩

end Go.Proofs.Ytipomhpimmnchaa

namespace Go.Proofs.Ytipomhpimmnchaa
open Go.RowKit

set_option maxHeartbeats 400000 in
theorem clone_nil (d : Nat) (w : World) : Calls Try.prog 68 #[.slice none 0 d] w fun e w' => e = .returned (.slice none 0 0) ∧ Below w.heap.size w w' := by
  have hnil : ∀ w : World, (binOp .eql 24 (.slice none 0 d) (.slice none 0 0)).run Try.prog w = .ok (.bool true) w := fun _ => by kernel_rfl
  have HB : Hid (∀ o, Below w.heap.size w (w.alloc o)) := fun o => (Below.refl _ _).alloc (Nat.le_refl _) o
  go_enter Try.func68, Try.ntmps68
  go_wp2_with fail
  go_ret
  exact ⟨rfl, Below.refl _ _⟩
theorem cloneC (v : Value) (zs : List Int) (w : World) (h : (Lay.sl Lay.int).Reads w [v] zs) (hn : zs.length ≤ 10000000) :
    Calls Try.prog 68 #[v] w fun e w' => ∃ a n c, e = .returned (.slice a n c) ∧ ((Lay.sl Lay.int).OwnIn w' [.slice a n c] zs w.heap.size w'.heap.size ∧ n = zs.length) ∧ Below w.heap.size w w' := by
  obtain ⟨ao, cap, rfl⟩ := open_sl h
  cases ao with
  | none =>
    have h0 : zs = [] := by
      by_cases hp : 0 < zs.length
      · obtain ⟨b, off, e, -⟩ := Lay.sl_addr h hp
        cases e
      · exact List.eq_nil_of_length_eq_zero (by omega)
    subst h0
    refine (clone_nil cap w).mono ?_
    rintro e w' ⟨rfl, hb⟩
    exact ⟨none, 0, 0, rfl, ⟨nil_own, rfl⟩, hb⟩
  | some ad =>
    refine (slClone ad cap zs w (Lay.ints_reads h) (by omega)).mono ?_
    rintro e w' ⟨v', rfl, O, hb⟩
    have hO := Lay.ownInts (Lay.ints_reads h).wf (by omega) O
    obtain ⟨a3, c3, rfl⟩ := open_sl hO.reads
    exact ⟨a3, _, c3, rfl, ⟨hO, rfl⟩, hb⟩

end Go.Proofs.Ytipomhpimmnchaa
