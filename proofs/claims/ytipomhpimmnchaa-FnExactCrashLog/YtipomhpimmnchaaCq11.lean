/-
  Texts of this proof in one: ImplCrash, LogFew, LawCrash, LayOpen, OpenLog.
  Their conditions stand in their theorems.
-/
import Derived.Test.YtipomhpimmnchaaCq09
import Derived.Test.YtipomhpimmnchaaCq10
import Derived.Test.YtipomhpimmnchaaCq07
import Derived.Test.YtipomhpimmnchaaCq03
import Derived.Test.YtipomhpimmnchaaChecked
import Derived.Test.YtipomhpimmnchaaCq01
import Derived.ProofKit
import Derived.OpenShut
import Derived.Deep.Slices
import Derived.Test.YtipomhpimmnchaaCq02

namespace Go.Proofs.Ytipomhpimmnchaa
open Go.RowKit

theorem intsR_own {w : World} {y : DIntsResult} {lo hi : Nat} {c : Value} {v : Value} (h : Lay.tIntsResult.OwnIn w [c, v] y lo hi) : (Lay.sl Lay.int).OwnIn w [v] y.list lo hi := by
  obtain ⟨bl, ⟨⟨c1, c2, b1, b2, e, rfl, ⟨rfl, hc, rfl⟩, l⟩, hd, hf⟩, hr⟩ := h
  obtain rfl : c2 = [v] := by simpa using (List.cons.inj e).2.symm
  exact ⟨b2, ⟨l, hd, hf⟩, hr⟩

set_option maxRecDepth 100000 in
set_option maxHeartbeats 4000000 in
theorem implCrashLog (cs : List Value) (x : DLog) (kept : Int) (w : World) (h : Lay.tLog.Reads w cs x) (n1 : x.sure.length ≤ 10000000) (n2 : x.loose.length ≤ 10000000) :
    Calls Try.prog 46 #[.agg cs.toArray, .int .i64 kept] w fun e w' => ∃ cs, e = .returned (.agg cs.toArray) ∧ Lay.tLogResult.OwnIn w' cs (crashLogR x kept) w.heap.size w'.heap.size ∧ Below w.heap.size w w' := by
  obtain ⟨a0, d0, a1, d1, rfl, R0, R1⟩ := open_Log h
  have nb : Below w.heap.size w ((w.alloc (.cells #[.slice a0 x.sure.length d0, .slice a1 x.loose.length d1] 48)).alloc (.cells #[.int .i64 0, .int .i64 0, .slice none 0 0, .slice none 0 0] 56)) := ((Below.refl _ _).alloc (Nat.le_refl _) _).alloc (by simp) _
  have bX : Box w.heap.size #[.slice a0 x.sure.length d0, .slice a1 x.loose.length d1] 48 ((w.alloc (.cells #[.slice a0 x.sure.length d0, .slice a1 x.loose.length d1] 48)).alloc (.cells #[.int .i64 0, .int .i64 0, .slice none 0 0, .slice none 0 0] 56)) w.heap.size := (newBox (Nat.le_refl _)).grow _
  have bR : Box 0 #[.int .i64 0, .int .i64 0, .slice none 0 0, .slice none 0 0] 56 ((w.alloc (.cells #[.slice a0 x.sure.length d0, .slice a1 x.loose.length d1] 48)).alloc (.cells #[.int .i64 0, .int .i64 0, .slice none 0 0, .slice none 0 0] 56)) (w.heap.size + 1) := newBoxAt (Nat.zero_le _) (by simp)
  have HL := hide (implLogFault _ x _ (h.later nb) n1 n2)
  have H0 := hide R0
  have H1 := hide R1
  have HX0 := hide bX
  have HR0 := hide bR
  have HB0 := hide nb
  clear h nb bX bR R0 R1
  go_enter Try.func46, Try.ntmps46
  go_wp2_with fail
  generalize (w.alloc (.cells #[.slice a0 x.sure.length d0, .slice a1 x.loose.length d1] 48)).alloc (.cells #[.int .i64 0, .int .i64 0, .slice none 0 0, .slice none 0 0] 56) = W0 at *
  refine (unhide HL).mono ?_
  rintro e W2 ⟨rfl, hb⟩
  have HX := hide ((unhide HX0).keep hb)
  have HR := hide ((unhide HR0).keep hb)
  have HB2 := hide ((unhide HB0).trans (hb.mono (unhide HB0).size))
  clear hb HL HX0 HR0 HB0
  by_cases hf : logFault x = 0
  · obtain ⟨hn, hs, hl⟩ := logFault_zero hf
    have HF := hide hf
    have HSU := hide hs
    have HLO := hide hl
    rw [hf]
    clear hf hs hl
    have x1 := (unhide HX).at 1 _ rfl
    have x0 := (unhide HX).at 0 _ rfl
    simp only [List.getElem_toArray, List.getElem_cons_zero, List.getElem_cons_succ] at x0 x1
    have hxl := (unhide HX).lt
    by_cases hk : 0 ≤ kept ∧ kept ≤ x.loose.length
    · have HY0 : Hid (crashLogR x kept = logOf ((keptOf x kept).take (8 * cnt (keptOf x kept))) []) := by show crashLogR x kept = _; rw [crashLogR, if_pos (unhide HF), if_pos hk]
      obtain ⟨k, rfl⟩ : ∃ k : Nat, kept = (k : Int) := ⟨kept.toNat, by omega⟩
      have hk1 : k ≤ x.loose.length := by omega
      have hg1 : decide ((k : Int) < 0) = false := by simp
      have hg2 : decide ((k : Int) > (x.loose.length : Int)) = false := by simp; omega
      obtain ⟨zs, hzs⟩ : ∃ zs, zs = x.sure ++ x.loose.take k := ⟨_, rfl⟩
      have HY : Hid (crashLogR x (k : Int) = logOf (zs.take (8 * cnt zs)) []) := by
        have := unhide HY0
        rw [keptOf, Int.toNat_natCast, ← hzs] at this
        exact this
      have hcl := cnt_clear (unhide HSU) (unhide HLO) hk1 (x.loose.length - 8 * (k / 8))
      rw [← hzs] at hcl
      have HWA : Hid (∀ z ∈ x.sure ++ (x.loose.take (8 * (k / 8)) ++ List.replicate (x.loose.length - 8 * (k / 8)) 0), (Lit.int .i64 z).wf = true) := by
        intro z hz
        rcases List.mem_append.1 hz with hz | hz
        · exact (Lay.ints_reads (unhide H0)).wf z hz
        · rcases List.mem_append.1 hz with hz | hz
          · exact (Lay.ints_reads (unhide H1)).wf z (List.mem_of_mem_take hz)
          · rw [List.eq_of_mem_replicate hz]; decide
      have hzl : zs.length ≤ 320 := by rw [hzs, List.length_append, List.length_take]; omega
      have HCL := hide hcl
      have HTK : Hid (((x.sure ++ x.loose).map (Value.int .i64)).take (x.sure.length + 8 * (k / 8)) ++ List.replicate (x.loose.length - 8 * (k / 8)) (Value.int .i64 0) = (x.sure ++ (x.loose.take (8 * (k / 8)) ++ List.replicate (x.loose.length - 8 * (k / 8)) 0)).map (Value.int .i64)) := by
        show _ = _
        rw [← List.map_take, List.take_length_add_append]
        simp
      clear HF HY0 hk hcl hzs
      have LJ := hide (implJoined _ _ x.sure x.loose W2 ((unhide H0).later (unhide HB2)) ((unhide H1).later (unhide HB2)) n1 n2)
      have hq : ((k : Int).tdiv 8) = ((k / 8 : Nat) : Int) := by rw [Int.tdiv_eq_ediv_of_nonneg (by omega)]; omega
      go_wp2_with fail
      refine (unhide LJ).mono ?_
      rintro e w3 ⟨m, hm, rfl, O3, hb3⟩
      obtain ⟨q8, hq8⟩ : ∃ q8, q8 = k / 8 := ⟨_, rfl⟩
      have hq81 : 8 * q8 ≤ x.loose.length := by omega
      rw [← hq8] at hq HCL HWA HTK
      have b3 := (unhide HX).keep hb3
      have y0 := b3.at 0 _ rfl
      simp only [List.getElem_toArray, List.getElem_cons_zero] at y0
      have hyl := b3.lt
      have HR3 := hide ((unhide HR).keep hb3)
      have HB3 := hide ((unhide HB2).trans (hb3.mono (unhide HB2).size))
      have HG := hide (unhide HR).lt
      have HLL : Hid (W2.heap.size < w3.heap.size) := (O3.lt W2.heap.size rfl).2
      obtain ⟨XS, hXS⟩ : ∃ XS, XS = (x.sure ++ x.loose).map (Value.int .i64) := ⟨_, rfl⟩
      rw [← hXS] at O3 HTK
      have HO3 := hide O3
      clear hb3 b3 LJ O3 hq8 x0 x1 hXS
      obtain ⟨tr, htr⟩ : ∃ tr, tr = x.sure.length + 8 * q8 := ⟨_, rfl⟩
      have hT : (x.sure.length : Int) + (q8 : Int) * 8 = (tr : Int) := by omega
      have htm : tr ≤ m := by omega
      have HLN : Hid (m - tr = x.loose.length - 8 * q8) := by show m - tr = _; omega
      have HTR := hide htr
      have HM := hide hm
      have hm9 : m ≤ 320 := by omega
      clear htr hm
      have HFIN0 : Hid (∀ w5 : World, w5.ownsRow W2.heap.size 2 1 (.slice (some ⟨W2.heap.size, 0, none⟩) m m) m (XS.take tr ++ List.replicate (m - tr) (Value.int .i64 0)) → (Lay.sl Lay.int).Reads w5 [.slice (some ⟨W2.heap.size, 0, none⟩) m m] (x.sure ++ (x.loose.take (8 * q8) ++ List.replicate (x.loose.length - 8 * q8) 0))) := fun w5 h5 => by
        rw [unhide HLN, unhide HTR, unhide HTK] at h5
        have hl : (x.sure ++ (x.loose.take (8 * q8) ++ List.replicate (x.loose.length - 8 * q8) (0 : Int))).length = m := by rw [List.length_append, List.length_append, List.length_take, List.length_replicate, unhide HM]; omega
        have h6 := Lay.ownInts (zs := x.sure ++ (x.loose.take (8 * q8) ++ List.replicate (x.loose.length - 8 * q8) 0)) (unhide HWA) (by omega) (by rw [hl]; exact h5)
        exact h6.reads
      obtain ⟨ys, hys⟩ : ∃ ys, ys = x.sure ++ (x.loose.take (8 * q8) ++ List.replicate (x.loose.length - 8 * q8) (0 : Int)) := ⟨_, rfl⟩
      have HYL : Hid (ys.length = m) := by show ys.length = m; rw [hys, List.length_append, List.length_append, List.length_take, List.length_replicate, unhide HM]; omega
      rw [← hys] at HFIN0 HCL
      clear hys HWA HTK HTR
      by_cases htt : tr = m
      · subst htt
        have M2 : Hid (tr + 0 = tr) := by show tr + _ = _; omega
        go_wp2_with (refine wpList_clear_row rfl _ _ rfl Try.underlying24 ((some ⟨W2.heap.size, 0, none⟩)) (0) (0) (by rfl) W2.heap.size W2.heap.size tr tr _ (unhide HO3) (fun h => absurd h (Nat.lt_irrefl 0)) (unhide M2) ?_)
        intro w5 HG5 hE5
        have hYR := unhide HFIN0 w5 (by have := unhide HG5; rw [Nat.sub_self]; simpa using this)
        have HR5 := hide ((unhide HR3).ext hE5 (by have := unhide HG; omega))
        have HB5 := hide ((unhide HB3).trans (hE5.below (unhide HB3).size (fun q hq e => by have h1 := unhide HG; omega)))
        have hz5 := hE5.size
        have HRD := hide (implReadLog _ ys w5 hYR)
        have hyr : readLogR ys = ⟨0, readL ys⟩ := by rw [readLogR, if_neg (by have := unhide HYL; omega)]
        rw [hyr] at HRD
        have HLG := hide (Nat.lt_of_lt_of_le (unhide HLL) hz5)
        clear HG5 hE5 HO3 hYR HR3 HB3 M2 hyr HFIN0 y0 hz5
        go_wp2_with fail
        refine (unhide HRD).mono ?_
        rintro e w6 ⟨cs6, rfl, O6, hb6⟩
        obtain ⟨a6, d6, rfl, R6⟩ := open_WritesResult O6.reads
        have HR6 := hide ((unhide HR5).keep hb6)
        have HB6 := hide ((unhide HB5).trans (hb6.mono (unhide HB5).size))
        have HLG6 := hide (Nat.lt_of_lt_of_le (unhide HLG) hb6.size)
        have LP := hide (implPackAll _ (readL ys) w6 R6)
        have hpr : packAllR (readL ys) = ⟨0, ys.take (8 * cnt ys)⟩ := by
          rw [packAllR, if_neg (by rw [read_len]; have := cnt_le ys; have := unhide HYL; omega), if_pos (wsFrom_of (readL_right ys)), packs_read]
        rw [hpr] at LP
        simp only at LP ⊢
        clear O6 R6 hb6 HRD HR5 HB5 HLG hpr
        obtain ⟨rn, hrn⟩ : ∃ rn, rn = (readL ys).length := ⟨_, rfl⟩
        rw [← hrn] at LP ⊢
        have hfl : ∀ W : World, (Instr.field 36 (.agg #[.int .i64 0, .slice a6 rn d6]) 1).run Try.prog W = .ok (.slice a6 rn d6) W := fun _ => by kernel_rfl
        clear hrn
        go_wp2_with fail
        refine (unhide LP).mono ?_
        rintro e w7 ⟨cs7, rfl, O7, hb7⟩
        obtain ⟨a7, d7, rfl, -⟩ := open_IntsResult O7.reads
        have HOI := hide (intsR_own O7)
        have HR7 := hide ((unhide HR6).keep hb7)
        have HB7 := hide ((unhide HB6).trans (hb7.mono (unhide HB6).size))
        have HZ7 := hide hb7.size
        have hEQ : ys.take (8 * cnt ys) = zs.take (8 * cnt zs) := by
          have h1 := (unhide HCL).1
          have h2 := (unhide HCL).2
          rw [h1]
          exact h2
        simp only at HOI ⊢
        rw [hEQ] at HOI ⊢
        have hle : (zs.take (8 * cnt zs)).length ≤ 320 := by rw [List.length_take]; omega
        clear O7 hb7 LP HR6 HB6 hfl HCL hEQ
        obtain ⟨qs, hqs⟩ : ∃ qs, qs = zs.take (8 * cnt zs) := ⟨_, rfl⟩
        rw [← hqs] at HOI hle HY ⊢
        obtain ⟨nq, hnq⟩ : ∃ nq, nq = qs.length := ⟨_, rfl⟩
        have HNQ := hide hnq
        rw [← hnq] at HOI hle ⊢
        clear hqs hnq
        have hfl2 : ∀ W : World, (Instr.field 26 (.agg #[.int .i64 0, .slice a7 nq d7]) 1).run Try.prog W = .ok (.slice a7 nq d7) W := fun _ => by kernel_rfl
        have LC := hide (implCounted a7 nq d7 none 0 0 w7 (by omega) (by omega))
        go_wp2_with fail
        refine (unhide LC).mono ?_
        rintro e w4 ⟨cn, hcn, rfl, hb4⟩
        have hlo : w.heap.size + 1 < w6.heap.size := by have h1 := unhide HLG6; have h2 := unhide HG; omega
        have hlo4 : w.heap.size ≤ w6.heap.size := by omega
        have hOW : Lay.tLogResult.OwnIn w4 [.int .i64 0, .int .i64 cn, .slice a7 nq d7, .slice none 0 0] (logOf qs []) w6.heap.size w4.heap.size := by
          have hcw : (Lit.int .i64 cn).wf = true := by rw [hcn]; exact count_wf (by omega)
          have e : logOf qs [] = ⟨0, cn, ⟨qs, []⟩⟩ := by rw [logOf, hcn, unhide HNQ]; rfl
          rw [e]
          have h3 := (unhide HOI).later hb4
          have hz := hb4.size
          exact own_logR (by decide) hcw h3 (nil_own (lo := w7.heap.size) (hi := w4.heap.size)) (Nat.le_refl _) (unhide HZ7) hz
        have bR := (unhide HR7).keep hb4
        have hH4 := (unhide HB7).trans (hb4.mono (unhide HB7).size)
        clear hb4 LC HR7 HOI HR hcn HNQ hfl2
        have z0 := bR.at 0 _ rfl
        have z1 := bR.at 1 _ rfl
        have z2 := bR.at 2 _ rfl
        have z3 := bR.at 3 _ rfl
        have ff := bR.soft
        have l0 := bR.lt
        simp only [List.getElem_toArray, List.getElem_cons_zero, List.getElem_cons_succ] at z0 z1 z2 z3
        have HFIN := hide (own_store' (s := w.heap.size + 1) (vs := [.int .i64 0, .int .i64 cn, .slice a7 nq d7, .slice none 0 0]) hOW hlo)
        have HBF := hide (below_setAll hH4 (w.heap.size + 1) 0 [.int .i64 0, .int .i64 cn, .slice a7 nq d7, .slice none 0 0] (by omega))
        have HSF := hide (size_setAll w4 (w.heap.size + 1) 0 [.int .i64 0, .int .i64 cn, .slice a7 nq d7, .slice none 0 0])
        have HLO4 := hide hlo4
        clear hOW hH4 bR hlo hlo4
        go_wp2_with fail
        refine bodyPost_ret (v := .agg #[.int .i64 0, .int .i64 cn, .slice a7 nq d7, .slice none 0 0]) (by simp [results, Try.results46, go_sem, z0, z1, z2, z3]) rfl ?_
        rw [unhide HY]
        refine ⟨[.int .i64 0, .int .i64 cn, .slice a7 nq d7, .slice none 0 0], rfl, ?_, unhide HBF⟩
        refine (unhide HFIN).mono (unhide HLO4) ?_
        exact Nat.le_of_eq (unhide HSF).symm
      · have htn : ¬ m = tr := fun e => htt e.symm
        obtain ⟨dn, hdn⟩ : ∃ dn, m - tr = dn := ⟨_, rfl⟩
        have M2 : Hid (tr + dn = m) := by show tr + _ = _; omega
        go_wp2_with (refine wpList_clear_row rfl _ _ rfl Try.underlying24 ((some ⟨W2.heap.size, tr, none⟩)) (dn) (dn) (by rfl) W2.heap.size W2.heap.size tr m _ (unhide HO3) (fun _ => rfl) (unhide M2) ?_)
        intro w5 HG5 hE5
        have hYR := unhide HFIN0 w5 (by rw [hdn]; exact unhide HG5)
        have HR5 := hide ((unhide HR3).ext hE5 (by have := unhide HG; omega))
        have HB5 := hide ((unhide HB3).trans (hE5.below (unhide HB3).size (fun q hq e => by have h1 := unhide HG; omega)))
        have hz5 := hE5.size
        have HRD := hide (implReadLog _ ys w5 hYR)
        have hyr : readLogR ys = ⟨0, readL ys⟩ := by rw [readLogR, if_neg (by have := unhide HYL; omega)]
        rw [hyr] at HRD
        have HLG := hide (Nat.lt_of_lt_of_le (unhide HLL) hz5)
        clear HG5 hE5 HO3 hYR HR3 HB3 M2 hyr HFIN0 y0 hz5
        go_wp2_with fail
        refine (unhide HRD).mono ?_
        rintro e w6 ⟨cs6, rfl, O6, hb6⟩
        obtain ⟨a6, d6, rfl, R6⟩ := open_WritesResult O6.reads
        have HR6 := hide ((unhide HR5).keep hb6)
        have HB6 := hide ((unhide HB5).trans (hb6.mono (unhide HB5).size))
        have HLG6 := hide (Nat.lt_of_lt_of_le (unhide HLG) hb6.size)
        have LP := hide (implPackAll _ (readL ys) w6 R6)
        have hpr : packAllR (readL ys) = ⟨0, ys.take (8 * cnt ys)⟩ := by
          rw [packAllR, if_neg (by rw [read_len]; have := cnt_le ys; have := unhide HYL; omega), if_pos (wsFrom_of (readL_right ys)), packs_read]
        rw [hpr] at LP
        simp only at LP ⊢
        clear O6 R6 hb6 HRD HR5 HB5 HLG hpr
        obtain ⟨rn, hrn⟩ : ∃ rn, rn = (readL ys).length := ⟨_, rfl⟩
        rw [← hrn] at LP ⊢
        have hfl : ∀ W : World, (Instr.field 36 (.agg #[.int .i64 0, .slice a6 rn d6]) 1).run Try.prog W = .ok (.slice a6 rn d6) W := fun _ => by kernel_rfl
        clear hrn
        go_wp2_with fail
        refine (unhide LP).mono ?_
        rintro e w7 ⟨cs7, rfl, O7, hb7⟩
        obtain ⟨a7, d7, rfl, -⟩ := open_IntsResult O7.reads
        have HOI := hide (intsR_own O7)
        have HR7 := hide ((unhide HR6).keep hb7)
        have HB7 := hide ((unhide HB6).trans (hb7.mono (unhide HB6).size))
        have HZ7 := hide hb7.size
        have hEQ : ys.take (8 * cnt ys) = zs.take (8 * cnt zs) := by
          have h1 := (unhide HCL).1
          have h2 := (unhide HCL).2
          rw [h1]
          exact h2
        simp only at HOI ⊢
        rw [hEQ] at HOI ⊢
        have hle : (zs.take (8 * cnt zs)).length ≤ 320 := by rw [List.length_take]; omega
        clear O7 hb7 LP HR6 HB6 hfl HCL hEQ
        obtain ⟨qs, hqs⟩ : ∃ qs, qs = zs.take (8 * cnt zs) := ⟨_, rfl⟩
        rw [← hqs] at HOI hle HY ⊢
        obtain ⟨nq, hnq⟩ : ∃ nq, nq = qs.length := ⟨_, rfl⟩
        have HNQ := hide hnq
        rw [← hnq] at HOI hle ⊢
        clear hqs hnq
        have hfl2 : ∀ W : World, (Instr.field 26 (.agg #[.int .i64 0, .slice a7 nq d7]) 1).run Try.prog W = .ok (.slice a7 nq d7) W := fun _ => by kernel_rfl
        have LC := hide (implCounted a7 nq d7 none 0 0 w7 (by omega) (by omega))
        go_wp2_with fail
        refine (unhide LC).mono ?_
        rintro e w4 ⟨cn, hcn, rfl, hb4⟩
        have hlo : w.heap.size + 1 < w6.heap.size := by have h1 := unhide HLG6; have h2 := unhide HG; omega
        have hlo4 : w.heap.size ≤ w6.heap.size := by omega
        have hOW : Lay.tLogResult.OwnIn w4 [.int .i64 0, .int .i64 cn, .slice a7 nq d7, .slice none 0 0] (logOf qs []) w6.heap.size w4.heap.size := by
          have hcw : (Lit.int .i64 cn).wf = true := by rw [hcn]; exact count_wf (by omega)
          have e : logOf qs [] = ⟨0, cn, ⟨qs, []⟩⟩ := by rw [logOf, hcn, unhide HNQ]; rfl
          rw [e]
          have h3 := (unhide HOI).later hb4
          have hz := hb4.size
          exact own_logR (by decide) hcw h3 (nil_own (lo := w7.heap.size) (hi := w4.heap.size)) (Nat.le_refl _) (unhide HZ7) hz
        have bR := (unhide HR7).keep hb4
        have hH4 := (unhide HB7).trans (hb4.mono (unhide HB7).size)
        clear hb4 LC HR7 HOI HR hcn HNQ hfl2
        have z0 := bR.at 0 _ rfl
        have z1 := bR.at 1 _ rfl
        have z2 := bR.at 2 _ rfl
        have z3 := bR.at 3 _ rfl
        have ff := bR.soft
        have l0 := bR.lt
        simp only [List.getElem_toArray, List.getElem_cons_zero, List.getElem_cons_succ] at z0 z1 z2 z3
        have HFIN := hide (own_store' (s := w.heap.size + 1) (vs := [.int .i64 0, .int .i64 cn, .slice a7 nq d7, .slice none 0 0]) hOW hlo)
        have HBF := hide (below_setAll hH4 (w.heap.size + 1) 0 [.int .i64 0, .int .i64 cn, .slice a7 nq d7, .slice none 0 0] (by omega))
        have HSF := hide (size_setAll w4 (w.heap.size + 1) 0 [.int .i64 0, .int .i64 cn, .slice a7 nq d7, .slice none 0 0])
        have HLO4 := hide hlo4
        clear hOW hH4 bR hlo hlo4
        go_wp2_with fail
        refine bodyPost_ret (v := .agg #[.int .i64 0, .int .i64 cn, .slice a7 nq d7, .slice none 0 0]) (by simp [results, Try.results46, go_sem, z0, z1, z2, z3]) rfl ?_
        rw [unhide HY]
        refine ⟨[.int .i64 0, .int .i64 cn, .slice a7 nq d7, .slice none 0 0], rfl, ?_, unhide HBF⟩
        refine (unhide HFIN).mono (unhide HLO4) ?_
        exact Nat.le_of_eq (unhide HSF).symm
    · have HY : Hid (crashLogR x kept = badLog 3) := by show crashLogR x kept = _; rw [crashLogR, if_pos (unhide HF), if_neg hk]
      clear HF
      by_cases h1 : kept < 0
      · have hg1 : decide (kept < 0) = true := by simpa using h1
        have bR := unhide HR
        have z0 := bR.at 0 _ rfl
        have z1 := bR.at 1 _ rfl
        have z2 := bR.at 2 _ rfl
        have z3 := bR.at 3 _ rfl
        have ff := bR.soft
        have l0 := bR.lt
        simp only [List.getElem_toArray, List.getElem_cons_zero, List.getElem_cons_succ] at z0 z1 z2 z3
        clear bR
        go_wp2_with fail
        refine bodyPost_ret (v := .agg #[.int .i64 3, .int .i64 0, .slice none 0 0, .slice none 0 0]) (by simp [results, Try.results46, go_sem, z0, z1, z2, z3]) rfl ?_
        rw [unhide HY]
        have hB9 := below_setAll (unhide HB2) (w.heap.size + 1) 0 [.int .i64 3, .int .i64 0, .slice none 0 0, .slice none 0 0] (by omega)
        exact ⟨[.int .i64 3, .int .i64 0, .slice none 0 0, .slice none 0 0], rfl, own_badLog (by decide) (by have := hB9.size; exact this), hB9⟩
      · have hg1 : decide (kept < 0) = false := by simpa using h1
        have hg2 : decide (kept > (x.loose.length : Int)) = true := by simp; omega
        have bR := unhide HR
        have z0 := bR.at 0 _ rfl
        have z1 := bR.at 1 _ rfl
        have z2 := bR.at 2 _ rfl
        have z3 := bR.at 3 _ rfl
        have ff := bR.soft
        have l0 := bR.lt
        simp only [List.getElem_toArray, List.getElem_cons_zero, List.getElem_cons_succ] at z0 z1 z2 z3
        clear bR
        go_wp2_with fail
        refine bodyPost_ret (v := .agg #[.int .i64 3, .int .i64 0, .slice none 0 0, .slice none 0 0]) (by simp [results, Try.results46, go_sem, z0, z1, z2, z3]) rfl ?_
        rw [unhide HY]
        have hB9 := below_setAll (unhide HB2) (w.heap.size + 1) 0 [.int .i64 3, .int .i64 0, .slice none 0 0, .slice none 0 0] (by omega)
        exact ⟨[.int .i64 3, .int .i64 0, .slice none 0 0, .slice none 0 0], rfl, own_badLog (by decide) (by have := hB9.size; exact this), hB9⟩
  · have hd : (logFault x != 0) = true := by simpa using hf
    have HY : Hid (crashLogR x kept = badLog (logFault x)) := by show crashLogR x kept = _; rw [crashLogR, if_neg hf]
    have HW := hide (logFault_wf x)
    generalize logFault x = c at *
    clear hf
    have bR := unhide HR
    have z0 := bR.at 0 _ rfl
    have z1 := bR.at 1 _ rfl
    have z2 := bR.at 2 _ rfl
    have z3 := bR.at 3 _ rfl
    have ff := bR.soft
    have l0 := bR.lt
    simp only [List.getElem_toArray, List.getElem_cons_zero, List.getElem_cons_succ] at z0 z1 z2 z3
    clear bR
    go_wp2_with fail
    refine bodyPost_ret (v := .agg #[.int .i64 c, .int .i64 0, .slice none 0 0, .slice none 0 0]) (by simp [results, Try.results46, go_sem, z0, z1, z2, z3]) rfl ?_
    rw [unhide HY]
    have hB9 := below_setAll (unhide HB2) (w.heap.size + 1) 0 [.int .i64 c, .int .i64 0, .slice none 0 0, .slice none 0 0] (by omega)
    exact ⟨[.int .i64 c, .int .i64 0, .slice none 0 0, .slice none 0 0], rfl, own_badLog (unhide HW) (by have := hB9.size; exact this), hB9⟩

end Go.Proofs.Ytipomhpimmnchaa

namespace Go.Proofs.Ytipomhpimmnchaa
open Go.RowKit

theorem vec_small {x : DWrite} (h : wF x = 0) : x.vec.length ≤ 3 := by
  obtain ⟨-, -, -, hk⟩ := writeFault_zero h
  rcases hk with ⟨-, hv⟩ | ⟨-, hv⟩
  · have := (vecFault_zero hv).1; omega
  · rw [hv]; simp
theorem ints_cnt (l : List Int) : cntAll Lay.int.cnt l = l.length := by
  induction l with
  | nil => rfl
  | cons y ys ih => simp only [cntAll, List.length_cons, ih]; show 1 + ys.length = _; omega
theorem writes_small {ws : List DWrite} (h : ∀ x ∈ ws, wF x = 0) : cntAll Lay.tWrite.cnt ws ≤ 10 * ws.length := by
  induction ws with
  | nil => simp [cntAll]
  | cons x xs ih =>
    have h1 := ih fun y hy => h y (List.mem_cons_of_mem _ hy)
    have h2 := vec_small (h x (by simp))
    have h3 : Lay.tWrite.cnt x = x.vec.length + 4 := by
      have e := ints_cnt x.vec
      show 1 + (1 + (cntAll Lay.int.cnt x.vec + (1 + 1))) = _
      omega
    simp only [cntAll, List.length_cons]
    omega
theorem readLog_few (zs : List Int) : Lay.tWritesResult.vcnt (readLogR zs) ≤ 100000000 := by
  rw [vcnt_WritesResult]
  show cntAll Lay.tWrite.cnt (readLogR zs).writes ≤ 100000000
  unfold readLogR
  split
  · exact Nat.zero_le _
  · have h1 := writes_small (readL_right zs)
    have h2 := cnt_le zs
    rw [read_len] at h1
    show cntAll Lay.tWrite.cnt (readL zs) ≤ 100000000
    omega
theorem packAll_few (ws : List DWrite) : Lay.tIntsResult.vcnt (packAllR ws) ≤ 100000000 := by
  rw [vcnt_IntsResult]
  show cntAll Lay.int.cnt (packAllR ws).list ≤ 100000000
  rw [ints_cnt]
  unfold packAllR
  split
  · exact Nat.zero_le _
  · split
    · rename_i h
      show (packs ws).length ≤ _
      rw [packs_len ws (wsFrom_zero h)]
      omega
    · exact Nat.zero_le _
theorem log_few (y : DLogResult) (h : y.log.sure.length + y.log.loose.length ≤ 100000000) : Lay.tLogResult.vcnt y ≤ 100000000 := by
  rw [vcnt_LogResult]
  show cntAll Lay.int.cnt y.log.sure + cntAll Lay.int.cnt y.log.loose ≤ 100000000
  rw [ints_cnt, ints_cnt]
  exact h

end Go.Proofs.Ytipomhpimmnchaa

namespace Go.Proofs.Ytipomhpimmnchaa
open Go.RowKit

theorem crashLog_few {x : DLog} {kept : Int} (n1 : x.sure.length ≤ 10000000) (n2 : x.loose.length ≤ 10000000) : Lay.tLogResult.vcnt (crashLogR x kept) ≤ 100000000 := by
  refine log_few _ ?_
  unfold crashLogR
  split
  · split
    · simp only [logOf, keptOf, List.length_take, List.length_append, List.length_nil]; omega
    · simp [badLog, noLog]
  · simp [badLog, noLog]
theorem lawCrashLog (cs : List Value) (x : DLog) (kept : Int) (w : World) (h : Lay.tLog.Reads w cs x) :
    Calls Try.prog 8 #[.agg cs.toArray, .int .i64 kept] w fun e w' => e = .returned (.bool true) ∧ Below w.heap.size w w' := by
  by_cases hn : Lay.tLog.sz x ≤ 1048576
  · obtain ⟨n1, n2⟩ := sz_log hn
    refine lawx_CrashLog cs x kept (crashLogR x kept) w h hn (fun W a ha => (specCrashLog a x kept W ha n1 n2).mono fun e w' q => ?_) (fun W a ha => implCrashLog a x kept W ha n1 n2) (crashLog_few n1 n2)
    obtain ⟨cs, q1, q2, q3⟩ := q
    exact ⟨cs, q1, q2.reads, q3⟩
  · exact lawover_CrashLog cs x kept w h (by omega)

end Go.Proofs.Ytipomhpimmnchaa

namespace Go.Proofs.Ytipomhpimmnchaa
open Go.RowKit Go.ChangeShapes Go.WideShapes

/-- Whatever reads as data of the type t lies as A says. -/
def Opens {α : Type} (A : Lay α) (t : TypeId) : Prop :=
  ∀ {H : Type} (enc : TypeId × Value → H) (W : World) (base : Nat) (spare : Nat → Bool) (held : Bool) (fuel : Nat) (cs : List Value) (x : DataW H × List MemPlace), DataW.trod enc Try.prog W base spare held fuel t cs = some x → ∃ y, A.Reads W cs y

theorem reads_pair {α β : Type} {A : Lay α} {B : Lay β} {W : World} {c1 c2 : List Value} {x : α} {y : β} (h : A.Reads W c1 x) (k : B.Reads W c2 y) : (Lay.pair A B).Reads W (c1 ++ c2) (x, y) := by
  obtain ⟨b1, h⟩ := h
  obtain ⟨b2, k⟩ := k
  exact ⟨b1 ++ b2, c1, c2, b1, b2, rfl, rfl, h, k⟩

theorem opens_int {t : TypeId} (ht : Try.prog.underlying t = some (.int .i64)) : Opens Lay.int t := by
  intro H enc W base spare held fuel cs x h
  obtain ⟨n, rfl, -, hw⟩ := DataW.trod_int ht h
  exact ⟨n, [], rfl, hw, rfl⟩
theorem opens_bool {t : TypeId} (ht : Try.prog.underlying t = some .bool) : Opens Lay.bool t := by
  intro H enc W base spare held fuel cs x h
  obtain ⟨b, rfl, -⟩ := DataW.trod_bool ht h
  exact ⟨b, [], rfl, rfl⟩
theorem opens_str {t : TypeId} (ht : Try.prog.underlying t = some .string) : Opens Lay.str t := by
  intro H enc W base spare held fuel cs x h
  obtain ⟨s, rfl, -, -⟩ := DataW.trod_string ht h
  exact ⟨s, [], rfl, rfl⟩

theorem opens_sl {α : Type} {A : Lay α} {t e : TypeId} (ht : Try.prog.underlying t = some (.slice e)) (hn : Try.prog.cellsOf e = A.n) (h0 : 0 < A.n) (h : Opens A e) : Opens (Lay.sl A) t := by
  intro H enc W base spare held fuel cs x hx
  rcases Go.Deep.open_slice ht hx with ⟨rfl, -⟩ | ⟨a, len, cap, m, n, D, Pl, rfl, hb, hl, hm, hmm, -, hel⟩
  · exact ⟨[], [], none, 0, rfl, ⟨Nat.le_refl _, by simp⟩, Or.inl ⟨rfl, rfl⟩⟩
  · have hlm : len ≤ m := by rw [hmm]; split <;> omega
    rw [hn] at hel
    have each : ∀ i, i < len → ∃ q : List Value × α, (∀ j, j < A.n → W.cell? (a.add (i * A.n + j)) = q.1[j]?) ∧ q.1.length = A.n ∧ A.Reads W q.1 q.2 := by
      intro i hi
      obtain ⟨cs', h1, h2⟩ := hel i (by omega)
      obtain ⟨-, hlen, hc⟩ := World.cells?_some h1
      obtain ⟨y, hy⟩ := h enc W base spare held n cs' _ h2
      refine ⟨(cs', y), fun j hj => ?_, hlen, hy⟩
      have := hc j hj
      rw [Addr.add_add] at this
      exact this
    by_cases hp : 0 < len
    · obtain ⟨b, off, spot⟩ := a
      obtain ⟨q0, c0, l0, -⟩ := each 0 hp
      have hc0 := c0 0 h0
      have hs0 : ∃ v, W.cell? ((⟨b, off, spot⟩ : Addr).add (0 * A.n + 0)) = some v := ⟨_, hc0.trans (List.getElem?_eq_getElem (by omega))⟩
      obtain ⟨v0, hv0⟩ := hs0
      have hspot : spot = none := by simpa [Addr.add] using World.cell?_spot hv0
      subst hspot
      have hbl : b < W.heap.size := by
        have := World.block_lt_of_cell? _ _ hv0
        simpa [Addr.add] using this
      have pick : ∃ f : (i : Nat) → i < len → List Value × α, ∀ i (hi : i < len), (∀ j, j < A.n → W.cell? ((⟨b, off, none⟩ : Addr).add (i * A.n + j)) = (f i hi).1[j]?) ∧ (f i hi).1.length = A.n ∧ A.Reads W (f i hi).1 (f i hi).2 :=
        ⟨fun i hi => Classical.choose (each i hi), fun i hi => Classical.choose_spec (each i hi)⟩
      obtain ⟨f, hf⟩ := pick
      have pick2 : ∃ g : (i : Nat) → i < len → List Nat, ∀ i (hi : i < len), A.lies W (f i hi).1 (f i hi).2 (g i hi) :=
        ⟨fun i hi => Classical.choose (hf i hi).2.2, fun i hi => Classical.choose_spec (hf i hi).2.2⟩
      obtain ⟨g, hg⟩ := pick2
      refine ⟨(List.finRange len).map (fun i => (f i.1 i.2).2), b :: ((List.finRange len).map (fun i => g i.1 i.2)).flatten, some ⟨b, off, none⟩, cap, by simp, ⟨by simpa using hl, by simp; unfold maxLen at hm; omega⟩, Or.inr ⟨b, off, (List.finRange len).map (fun i => (f i.1 i.2).1), (List.finRange len).map (fun i => g i.1 i.2), rfl, hbl, rfl, by simp, by simp, fun j h1 h2 h3 => ?_⟩⟩
      have hj : j < len := by simpa using h1
      refine ⟨fun k hk => ?_, ?_⟩
      · have := (hf j hj).1 k hk
        rw [Addr.add_lit] at this
        simpa [Nat.add_assoc] using this
      · simpa using hg j hj
    · obtain rfl : len = 0 := by omega
      exact ⟨[], [], some a, cap, rfl, ⟨hl, by simp⟩, Or.inl ⟨rfl, rfl⟩⟩

theorem open_arg {α : Type} {A : Lay α} {t : TypeId} (O : Opens A t) {H : Type} {enc : TypeId × Value → H} {W : World} {base : Nat} {spare : Nat → Bool} {held : Bool} {a : Option Addr} {len cap : Nat} {d : DataW H} {p : List MemPlace}
    (h : DataW.Trod enc Try.prog W base spare held t (.slice a len cap) d p) : ∃ y, A.Reads W [.slice a len cap] y := by
  obtain ⟨fuel, hf⟩ := h
  exact O enc W base spare held fuel _ _ (by simpa [Value.cells] using hf)
theorem open_arg_st {α : Type} {A : Lay α} {t : TypeId} (O : Opens A t) {H : Type} {enc : TypeId × Value → H} {W : World} {base : Nat} {spare : Nat → Bool} {held : Bool} {cs : Array Value} {d : DataW H} {p : List MemPlace}
    (h : DataW.Trod enc Try.prog W base spare held t (.agg cs) d p) : ∃ y, A.Reads W cs.toList y := by
  obtain ⟨fuel, hf⟩ := h
  exact O enc W base spare held fuel _ _ (by simpa [Value.cells] using hf)

end Go.Proofs.Ytipomhpimmnchaa

namespace Go.Proofs.Ytipomhpimmnchaa
open Go.RowKit

set_option maxRecDepth 10000 in
theorem opens_Log : Opens Lay.tLog 45 := by
  intro H enc W base spare held fuel cs x h
  obtain ⟨xs, n, _, _, hlen, hl, hfi⟩ := DataW.trod_struct Try.underlying45 h
  rw [show Try.prog.cellsOf 45 = 2 by kernel_rfl] at hlen
  match cs, hlen with
  | [c0, c1], _ =>
  match xs, hl with
  | [y0, y1], _ =>
  have z0 : Try.prog.cellsOf 24 = 1 := by kernel_rfl
  have f0 : DataW.trod enc Try.prog W base spare held n 24 (([c0, c1].drop 0).take (Try.prog.cellsOf 24)) = some y0 := hfi 0 _ rfl
  rw [z0] at f0
  obtain ⟨d0, r0⟩ := (opens_sl Try.underlying24 (by kernel_rfl) (by decide) (opens_int Try.underlying2)) enc W base spare held n _ _ f0
  have f1 : DataW.trod enc Try.prog W base spare held n 24 (([c0, c1].drop 1).take (Try.prog.cellsOf 24)) = some y1 := hfi 1 _ rfl
  rw [z0] at f1
  obtain ⟨d1, r1⟩ := (opens_sl Try.underlying24 (by kernel_rfl) (by decide) (opens_int Try.underlying2)) enc W base spare held n _ _ f1
  exact ⟨⟨d0, d1⟩, (reads_pair r0 r1)⟩

end Go.Proofs.Ytipomhpimmnchaa
