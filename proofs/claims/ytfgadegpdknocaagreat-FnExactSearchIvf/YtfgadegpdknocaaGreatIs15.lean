/-
  Texts of this proof in one: ImplLoose, ImplBest, ImplSearchIvf, SpecProbes, SpecCen, SpecNear, InB, SpecTab.
  Their conditions stand in their theorems.
-/
import Derived.Test.YtfgadegpdknocaaGreatIs14
import Derived.Test.YtfgadegpdknocaaGreatIs07
import Derived.Test.YtfgadegpdknocaaGreatIs08
import Derived.Test.YtfgadegpdknocaaGreatIs13
import Derived.Test.YtfgadegpdknocaaGreatChecked
import Derived.Test.YtfgadegpdknocaaGreatIs09
import Derived.Test.YtfgadegpdknocaaGreatIs06
import Derived.Deep.RegionHeld3
import Derived.Test.YtfgadegpdknocaaGreatIs01
import Derived.Test.YtfgadegpdknocaaGreatIs02
import Derived.BigQuiet
import Derived.Deep.QuietTactic

namespace Go.Proofs.YtfgadegpdknocaaGreat
open Go.RowKit

def looseOf (hs : List (Int × Int)) : Int := if 200 < hs.length then 2 else if hs.all oneB then 0 else 3

set_option maxHeartbeats 400000 in
theorem implLoose (v : Value) (hs : List (Int × Int)) (w : World) (h : IsHits w v hs) :
    Calls Tryz.prog 110 #[v] w fun e w' => e = .returned (.int .i64 (looseOf hs)) ∧ Below w.heap.size w w' := by
  obtain ⟨ao, cap, rfl, h1, h2, hwf, hc⟩ := h
  by_cases hn : hs.length ≤ 200
  · have e : looseOf hs = if hs.all oneB then 0 else 3 := by unfold looseOf; rw [if_neg (by omega)]
    rw [e]
    have e0 : ∃ F0 : Int, (if hs.all oneB = true then 0 else 3) = F0 := ⟨_, rfl⟩
    obtain ⟨F0, hF0⟩ := e0
    rw [hF0]
    clear e hwf h2
    go_enter Tryz.func110, Tryz.ntmps110
    go_wp2_with fail
    go_loopw [10] (fun i wr => ∃ k : Nat, k ≤ hs.length ∧ i = .int .i64 k ∧ (if (hs.drop k).all oneB = true then (0 : Int) else 3) = F0 ∧ Below w.heap.size w wr) (fun i _ => hs.length - (intOf i).toNat)
    case atStart => exact ⟨0, Nat.zero_le _, rfl, hF0, Below.refl _ _⟩
    case round =>
      obtain ⟨k, hk, rfl, hF, hB⟩ := hrel
      by_cases hlt : k < hs.length
      · obtain ⟨x, y, hxy⟩ : ∃ x y, hs[k]? = some (x, y) := ⟨hs[k].1, hs[k].2, by simp [hlt]⟩
        obtain ⟨b, off, rfl, hc1⟩ := hc (by omega)
        have c1 := (hB.cell (World.block_lt_of_cell? _ _ (hc1 k x y hxy).1)).trans (hc1 k x y hxy).1
        have c2 := (hB.cell (World.block_lt_of_cell? _ _ (hc1 k x y hxy).2)).trans (hc1 k x y hxy).2
        rw [drop_at hxy, List.all_cons] at hF
        have HF := hide hF
        have HB := hide hB
        clear hF hB hc1 hxy
        go_wp2_with fail
        refine (implIsHit x y _).mono ?_
        rintro e w1 ⟨rfl, hb1⟩
        have hb0 : Below wr.heap.size wr w1 := ((Below.refl _ _).alloc (Nat.le_refl _) _).trans (hb1.mono (by simp))
        have B1 := hide (below_keep2 (unhide HB) hb0)
        cases ho : oneB (x, y) with
        | false =>
          have hF := unhide HF
          rw [ho, Bool.false_and, if_neg (by simp)] at hF
          have HF2 := hide hF
          clear c1 c2 HF HB hF ho hb0 hb1 hc
          go_wp2_with fail
          go_ret
          refine ⟨?_, unhide B1⟩
          rw [← unhide HF2]
          rfl
        | true =>
          have hF := unhide HF
          rw [ho, Bool.true_and] at hF
          have HF2 := hide hF
          clear c1 c2 HF HB hF ho hb0 hb1
          go_wp2_with fail
          go_roundw
          case rel => exact ⟨k + 1, by omega, by go_num, unhide HF2, unhide B1⟩
          case measure => simp [intOf]; omega
      · obtain rfl : k = hs.length := by omega
        rw [List.drop_length, List.all_nil, if_pos rfl] at hF
        have HF := hide hF
        clear hc hF
        go_wp2_with fail
        go_ret
        refine ⟨?_, hB⟩
        rw [← unhide HF]
        rfl
  · have e : looseOf hs = 2 := by unfold looseOf; rw [if_pos (by omega)]
    rw [e]
    have hd : decide ((200 : Int) < (hs.length : Int)) = true := by simp; omega
    clear hc h1 h2 hwf e
    go_enter Tryz.func110, Tryz.ntmps110
    go_wp2_with fail
    go_ret
    exact ⟨rfl, Below.refl _ _⟩

end Go.Proofs.YtfgadegpdknocaaGreat

namespace Go.Proofs.YtfgadegpdknocaaGreat
open Go.RowKit

theorem bestCode_eq (hs : List (Int × Int)) (k : Int) : bestCode hs k = if kB k then looseOf hs else 3 := rfl

theorem looseOf_zero {hs : List (Int × Int)} (h : looseOf hs = 0) : hs.length ≤ 200 := by
  unfold looseOf at h
  split at h
  · omega
  · omega

set_option maxRecDepth 100000 in
set_option maxHeartbeats 1000000 in
theorem implBest_all (v : Value) (hs : List (Int × Int)) (k : Int) (w : World) (h : IsHits w v hs) :
    Calls Tryz.prog 68 #[v, .int .i64 k] w fun e w' => Told w w' e (bestCode hs k) (bestList hs k) := by
  have HH := hide h
  have bb : Below w.heap.size w (w.alloc (.cells #[.int .i64 0, .slice none 0 0] 48)) := (Below.refl _ _).alloc (Nat.le_refl _) _
  clear h
  go_enter Tryz.func68, Tryz.ntmps68
  go_wp2_with fail
  refine (implWanted k _).mono ?_
  rintro e w1 ⟨rfl, rfl⟩
  have RV : Hid (∀ W, Below (w.alloc (.cells #[.int .i64 0, .slice none 0 0] 48)).heap.size (w.alloc (.cells #[.int .i64 0, .slice none 0 0] 48)) W → W.cell? ⟨w.heap.size, 0, none⟩ = some (.int .i64 0) ∧ W.cell? ⟨w.heap.size, 1, none⟩ = some (.slice none 0 0) ∧ (∀ o, W.frozen? ⟨w.heap.size, o, none⟩ = false) ∧ w.heap.size < W.heap.size) := fun W hW => resVar hW
  have HBB := hide bb
  clear bb
  generalize hwb : w.alloc (.cells #[.int .i64 0, .slice none 0 0] 48) = wb at *
  clear hwb
  cases hk : kB k with
  | false =>
    have e0 : bestCode hs k = 3 := by simp [bestCode_eq, hk]
    have e1 : bestList hs k = [] := by simp [bestList, e0]
    have hk' : (decide ((0 : Int) ≤ k) && decide (k ≤ 20)) = false := hk
    rw [hk']
    have E0 := hide e0
    have E1 := hide e1
    obtain ⟨z0, z1, z2, z3⟩ := unhide RV wb (Below.refl _ _)
    clear hk hk' e0 e1 RV
    go_wp2_with fail
    refine bodyPost_ret (v := intsRes 3 (.slice none 0 0)) (by simp [results, Tryz.results68, go_sem, intsRes, z0, z1]) rfl ?_
    rw [unhide E0, unhide E1]
    exact told_nil (((unhide HBB).setCell (by simp) _).setCell (by simp) _)
  | true =>
    have hk' : (decide ((0 : Int) ≤ k) && decide (k ≤ 20)) = true := hk
    rw [hk']
    have HK := hide hk
    clear hk hk'
    go_wp2_with fail
    refine (implLoose v hs _ ((unhide HH).later (unhide HBB))).mono ?_
    rintro e w2 ⟨rfl, hb2⟩
    have HB2 := hide hb2
    have HBW2 := hide (below_keep2 (unhide HBB) hb2)
    clear hb2
    by_cases hf : looseOf hs = 0
    · rw [hf]
      have hkk : 0 ≤ k ∧ k ≤ 20 := by simpa [kB] using unhide HK
      obtain ⟨m, rfl⟩ : ∃ m : Nat, k = m := ⟨k.toNat, by omega⟩
      have e0 : bestCode hs m = 0 := by simp [bestCode_eq, unhide HK, hf]
      have e1 : bestList hs m = best m hs := by simp [bestList, e0]
      have E0 := hide e0
      have E1 := hide e1
      have hl := looseOf_zero hf
      have L := implFirst v hs m w2 ((unhide HH).later (unhide HBW2)) (by omega) (by omega)
      clear hf e0 e1 hkk hl
      go_wp2_with fail
      refine L.mono ?_
      rintro e w4 ⟨r, rfl, hown, hb4⟩
      have hb5 := below_keep2 (unhide HB2) hb4
      obtain ⟨z0, z1, z2, z3⟩ := unhide RV w4 hb5
      have HBW4 := hide (below_keep2 (unhide HBW2) hb4)
      have hsz := (unhide RV w2 (unhide HB2)).2.2.2
      have HO2 : Hid (w4.ownsRow (w.heap.size + 1) 66 2 r (best m hs).length (cells2 (best m hs))) := own_mono hsz hown
      obtain ⟨a2, c2, rfl⟩ := own_shape hown
      generalize hln : (best m hs).length = n at *
      clear L hown hb4 hb5 RV
      go_wp2_with fail
      refine bodyPost_ret (v := intsRes 0 (.slice a2 n c2)) (by simp [results, Tryz.results68, go_sem, intsRes, z0, z1]) rfl ?_
      rw [unhide E0, unhide E1]
      refine ⟨_, rfl, ?_, ((unhide HBW4).setCell (by simp) _).setCell (by simp) _⟩
      rw [hln]
      exact own_mono (b := w.heap.size + 1) (by omega) (own_set (base := w.heap.size + 1) (own_set (base := w.heap.size + 1) (unhide HO2) (by simp) _) (by simp) _)
    · have e0 : bestCode hs k = looseOf hs := by simp [bestCode_eq, unhide HK]
      have e1 : bestList hs k = [] := by simp [bestList, e0, hf]
      have E0 := hide e0
      have E1 := hide e1
      have hd : (looseOf hs != 0) = true := by simpa using hf
      obtain ⟨z0, z1, z2, z3⟩ := unhide RV w2 (unhide HB2)
      clear hf e0 e1 RV
      generalize looseOf hs = F at *
      go_wp2_with fail
      refine bodyPost_ret (v := intsRes F (.slice none 0 0)) (by simp [results, Tryz.results68, go_sem, intsRes, z0, z1]) rfl ?_
      rw [unhide E0, unhide E1]
      exact told_nil (((unhide HBW2).setCell (by simp) _).setCell (by simp) _)

end Go.Proofs.YtfgadegpdknocaaGreat

namespace Go.Proofs.YtfgadegpdknocaaGreat
open Go.RowKit

theorem probed_step {x : DIvf} {q : List Int} {zs : List (Pl x.lists.length)} {j : Nat} (h : j < zs.length) : probedH x q ((zs.take (j + 1)).map fun y => (y.1 : Int)) = probedH x q ((zs.take j).map fun y => (y.1 : Int)) ++ (hitsL (itsL x.lists zs[j].1) q).map pairH := by
  have e : (zs.take (j + 1)).map (fun y => (y.1 : Int)) = (zs.take j).map (fun y => (y.1 : Int)) ++ [(zs[j].1 : Int)] := by
    rw [List.take_succ_eq_append_getElem h, List.map_append]; rfl
  rw [e, probedH, List.map_append, List.flatten_append]
  simp [probedH, itsL]

set_option maxRecDepth 100000 in
set_option maxHeartbeats 4000000 in
theorem implSearchIvf (cs : List Value) (x : DIvf) (vq : Value) (q : List Int) (k n : Int) (w : World) (h : Lay.tIvf.Reads w cs x) (hq : (Lay.sl Lay.int).Reads w [vq] q) :
    Calls Tryz.prog 22 #[.agg cs.toArray, vq, .int .i64 k, .int .i64 n] w fun e w' => ∃ cs', e = .returned (.agg cs'.toArray) ∧ Lay.tHitsResult.OwnIn w' cs' (searchIvfR x q k n) w.heap.size w'.heap.size ∧ Below w.heap.size w w' := by
  obtain ⟨ac, dc, al, dl, rfl, R0, R1⟩ := open_Ivf h
  obtain ⟨aq, dq, rfl⟩ := open_sl hq
  have nb1 : Below w.heap.size w (w.alloc (.cells #[.slice ac x.centers.length dc, .slice al x.lists.length dl] 31)) := (Below.refl _ _).alloc (Nat.le_refl _) _
  have nb : Below w.heap.size w ((w.alloc (.cells #[.slice ac x.centers.length dc, .slice al x.lists.length dl] 31)).alloc (.cells #[.int .i64 0, .slice none 0 0] 48)) := nb1.alloc (by simp) _
  have bX : Box w.heap.size #[.slice ac x.centers.length dc, .slice al x.lists.length dl] 31 ((w.alloc (.cells #[.slice ac x.centers.length dc, .slice al x.lists.length dl] 31)).alloc (.cells #[.int .i64 0, .slice none 0 0] 48)) w.heap.size := (newBox (Nat.le_refl _)).grow _
  have bR : Box w.heap.size #[.int .i64 0, .slice none 0 0] 48 ((w.alloc (.cells #[.slice ac x.centers.length dc, .slice al x.lists.length dl] 31)).alloc (.cells #[.int .i64 0, .slice none 0 0] 48)) (w.heap.size + 1) := newBoxAt (by omega) (by simp)
  have L := hide (probeFC x q ac dc al dl aq dq _ (R0.later nb) (R1.later nb) (hq.later nb))
  have c0 := bX.at 0 _ rfl
  have c1 := bX.at 1 _ rfl
  have H0 := hide (R0.later nb)
  have H1 := hide (R1.later nb)
  have HQ := hide (hq.later nb)
  clear h R0 R1 nb1 hq
  go_enter Tryz.func22, Tryz.ntmps22
  go_wp2_with fail
  generalize (w.alloc (.cells #[.slice ac x.centers.length dc, .slice al x.lists.length dl] 31)).alloc (.cells #[.int .i64 0, .slice none 0 0] 48) = W0 at *
  refine (unhide L).mono ?_
  rintro e w1 ⟨rfl, hb⟩
  have hW0 := bR.lt
  replace bR := bR.keep hb
  replace bX := bX.keep hb
  replace nb := nb.trans (hb.mono nb.size)
  have z0 : w1.cell? ⟨w.heap.size + 1, 0, none⟩ = some (.int .i64 0) := bR.at 0 _ rfl
  have z1 : w1.cell? ⟨w.heap.size + 1, 1, none⟩ = some (.slice none 0 0) := bR.at 1 _ rfl
  have f0 := bR.soft 0
  have f1 := bR.soft 1
  have l0 := bR.lt
  have HB := hide nb
  have HR := hide bR
  have HBX := hide bX
  replace H0 := hide ((unhide H0).later hb)
  replace H1 := hide ((unhide H1).later hb)
  replace HQ := hide ((unhide HQ).later hb)
  clear hb L c0 c1 nb bR bX
  by_cases hf : probeF x q = 0
  · rw [hf]
    have hif : ivfFault x = 0 := by
      unfold probeF at hf
      by_cases h : ivfFault x = 0
      · exact h
      · rw [if_neg h] at hf; exact absurd hf h
    have hvf : vecFault q = 0 := by unfold probeF at hf; rw [if_pos hif] at hf; exact hf
    have HIF := hide hif
    have HVF := hide hvf
    clear hf hif hvf
    go_wp2_with fail
    refine (implWanted k _).mono ?_
    rintro e w1 ⟨rfl, rfl⟩
    rw [show (decide (0 ≤ k) && decide (k ≤ 20)) = kB k from rfl]
    cases hk : kB k with
    | false =>
      have HG : Hid (searchIvfR x q k n = ⟨3, []⟩) := by
        show searchIvfR x q k n = _
        rw [searchIvfR, if_pos (unhide HIF), if_pos (unhide HVF), hk]; rfl
      clear hk
      go_wp2_with fail
      refine bodyPost_ret (v := .agg #[.int .i64 3, .slice none 0 0]) (by simp [results, Tryz.results22, go_sem, z0, z1]) rfl ?_
      rw [unhide HG]
      exact ⟨[.int .i64 3, .slice none 0 0], rfl, own_codeHits (by decide), ((unhide HB).setCell (by simp) _).setCell (by simp) _⟩
    | true =>
      have HKB := hide hk
      clear hk
      go_wp2_with fail
      refine (countC7 n _).mono ?_
      rintro e w1 ⟨rfl, rfl⟩
      cases hn : nB n with
      | false =>
        have HG : Hid (searchIvfR x q k n = ⟨3, []⟩) := by
          show searchIvfR x q k n = _
          rw [searchIvfR, if_pos (unhide HIF), if_pos (unhide HVF), hn, Bool.and_false]; rfl
        clear hn
        go_wp2_with fail
        refine bodyPost_ret (v := .agg #[.int .i64 3, .slice none 0 0]) (by simp [results, Tryz.results22, go_sem, z0, z1]) rfl ?_
        rw [unhide HG]
        exact ⟨[.int .i64 3, .slice none 0 0], rfl, own_codeHits (by decide), ((unhide HB).setCell (by simp) _).setCell (by simp) _⟩
      | true =>
        obtain ⟨m, rfl, hm6⟩ : ∃ m : Nat, n = m ∧ m ≤ 6 := by
          simp only [nB, Bool.and_eq_true, decide_eq_true_eq] at hn
          exact ⟨n.toNat, by omega, by omega⟩
        have HG : Hid (searchIvfR x q k m = ⟨0, (best k.toNat (probedH x q (probesI x.centers q m))).map dhit⟩) := by
          show searchIvfR x q k m = _
          rw [searchIvfR, if_pos (unhide HIF), if_pos (unhide HVF), unhide HKB, hn]
          rfl
        have hifz := ivfFault_zero (unhide HIF)
        have hc6 := (centersFault_zero hifz.1).1.2
        have HLF := hide (list_facts hifz.2.2.1)
        have HNL : Hid (x.lists.length = x.centers.length) := hifz.2.1
        have LP := hide (probedC x q m ac dc al dl aq dq w1 (unhide H0) (unhide H1) (unhide HQ) hifz.1 hifz.2.1 (unhide HVF) hm6)
        have c0 := (unhide HBX).at 0 _ rfl
        have c1 := (unhide HBX).at 1 _ rfl
        clear hn hifz
        go_wp2_with fail
        refine (unhide LP).mono ?_
        rintro e w2 ⟨v, zs, ia, ic, rfl, hzp, hzr, hO, hb2⟩
        obtain ⟨a2, c2, rfl⟩ := own_form hO
        have HZP := hide hzp
        have hzl : zs.length ≤ 6 := by
          have := congrArg List.length hzp
          rw [List.length_map] at this
          rw [this]
          exact Nat.le_trans (probe_len _ _ _) hm6
        have HPH := hide (fun j => probedH_right (x := x) (q := q) (unhide HLF) (unhide HVF) ((zs.take j).map fun y => (y.1 : Int)))
        have HZR := hide hzr
        have HO := hide hO
        have HW12 := hide hb2
        have HB2 := hide ((unhide HB).trans (hb2.mono (unhide HB).size))
        have HR2 := hide ((unhide HR).keep hb2)
        have HQ2 := hide ((unhide HQ).later hb2)
        clear hO hb2 hzp hzr LP c0 c1 z0 z1 f0 f1 l0 HB HR
        go_wp2_with fail
        go_loopw [10, 34] (fun u i wr => ∃ j : Nat, j ≤ zs.length ∧ i = .int .i64 j ∧ wr.ownsRow w2.heap.size 66 2 u (probedH x q ((zs.take j).map fun y => (y.1 : Int))).length (cells2 (probedH x q ((zs.take j).map fun y => (y.1 : Int)))) ∧ Below w2.heap.size w2 wr) (fun _ i _ => zs.length - (intOf i).toNat)
        case atStart => exact ⟨0, Nat.zero_le _, rfl, World.ownsRow_nil _ _ _ _, Below.refl _ _⟩
        case round =>
          obtain ⟨j, hj, rfl, hown, hB⟩ := hrel
          by_cases hlt : j < zs.length
          · obtain ⟨g2, rfl⟩ : ∃ g, a2 = some ⟨g, 0, none⟩ := by
              rcases (unhide HO).2 with ⟨e, h0⟩ | ⟨g, cap, cur, e, -⟩
              · omega
              · exact ⟨g, by injection e⟩
            have hO2 := own_below (unhide HO) hB
            have hfl : (cellsP ia (fun j => (itsL x.lists j).length) ic zs).length = zs.length * 2 := (unhide HO).1
            have hp := cellsP_at ia (fun j => (itsL x.lists j).length) ic zs j hlt
            have c8 : wr.cell? ⟨g2, j * 2, none⟩ = some (.int .i64 (zs[j].1 : Int)) := (hO2.cellAt (j * 2) (by omega)).trans hp.1
            have c9 : wr.cell? ⟨g2, j * 2 + 1, none⟩ = some (.slice (ia zs[j].1) (itsL x.lists zs[j].1).length (ic zs[j].1)) := (hO2.cellAt (j * 2 + 1) (by omega)).trans hp.2
            have HT9 : Hid (_ = _) := probed_step (x := x) (q := q) (zs := zs) hlt
            have hln : (probedH x q ((zs.take j).map fun y => (y.1 : Int))).length ≤ 180 := by
              have h1 := (unhide HPH j).1
              rw [List.length_map, List.length_take] at h1
              omega
            have hRI := (unhide HZR) zs[j].1 zs[j].2
            have hTF : tableFault (itsL x.lists zs[j].1) = 0 := by rw [itsL_eq zs[j].2]; exact unhide HLF _ (List.getElem_mem zs[j].2)
            have hBw := (unhide HW12).trans (hB.mono (unhide HW12).size)
            generalize probedH x q ((zs.take j).map fun y => (y.1 : Int)) = ph at *
            generalize zs[j] = y at *
            obtain ⟨p, hpp⟩ := y
            dsimp only at c8 c9 HT9 hRI hTF
            generalize itsL x.lists p = its at *
            generalize ia p = ia9 at *
            generalize ic p = ic9 at *
            have nbp : Below wr.heap.size wr (wr.alloc (.cells #[.int .i64 (p : Int), .slice ia9 its.length ic9] 110)) := (Below.refl _ _).alloc (Nat.le_refl _) _
            have bP : Box wr.heap.size #[.int .i64 (p : Int), .slice ia9 its.length ic9] 110 (wr.alloc (.cells #[.int .i64 (p : Int), .slice ia9 its.length ic9] 110)) wr.heap.size := newBox (Nat.le_refl _)
            have hown2 := own_below hown nbp
            have hBn := hBw.trans (nbp.mono hBw.size)
            have hB2n := hB.trans (nbp.mono hB.size)
            have LH := hide (hitsOfC _ its _ q _ (hRI.later hBn) (Lay.ints_reads ((unhide HQ2).later hB2n)) hTF (unhide HVF))
            have HHR := hide (hits_right hTF (unhide HVF))
            have HOW := hide hown2
            have HBN := hide hB2n
            clear hO2 hfl hp hB hown nbp bP hown2 hBw hBn hB2n hRI hTF
            go_wp2_with fail
            clear c8 c9
            generalize wr.alloc (.cells #[.int .i64 (p : Int), .slice ia9 its.length ic9] 110) = Wp at *
            refine (unhide LH).mono ?_
            rintro e w5 ⟨v5, rfl, ho5, hb5⟩
            have hw5 : ∀ p ∈ (hitsL its q).map pairH, Wf2 p := fun p hp => oneB_wf ((unhide HHR).2 p hp)
            have hX5 := isHits_row hw5 ho5
            have hown5 := own_below (unhide HOW) hb5
            have hl5 := (unhide HHR).1
            have hz5 : w2.heap.size ≤ w5.heap.size := Nat.le_trans (unhide HBN).size hb5.size
            have HBN5 := hide ((unhide HBN).trans (hb5.mono (unhide HBN).size))
            clear ho5 hb5 HOW HBN LH hw5
            go_wp2_with (at_builtin; refine wpList_append_hits rfl _ _ rfl w2.heap.size _ ph.length ph rfl hown5 _ ((hitsL its q).map pairH) rfl hX5 ?hn9 hz5 ?_; case hn9 => omega)
            intro v6 w6 ho6 hg6 _
            obtain ⟨a6, c6, rfl⟩ := own_form ho6
            have HO6 := hide ho6
            have HB6 := hide ((unhide HBN5).grown hg6 hz5 (fun j hj => (hown5.lt j hj).1))
            clear ho6 hg6 hown5 hX5 HBN5
            go_wp2_with fail
            go_roundw
            case rel =>
              refine ⟨j + 1, by omega, by go_num, ?_, unhide HB6⟩
              rw [unhide HT9, List.length_append, List.length_map]
              exact unhide HO6
            case measure => simp [intOf]; omega
          · obtain rfl : j = zs.length := by omega
            rw [List.take_length, unhide HZP] at hown
            have hpr := probedH_right (x := x) (q := q) (unhide HLF) (unhide HVF) (probesI x.centers q m)
            have hpl := probe_len x.centers q m
            have hl2 : (probedH x q (probesI x.centers q m)).length ≤ 180 := by omega
            have hwf : ∀ p ∈ probedH x q (probesI x.centers q m), Wf2 p := fun p hp => oneB_wf (hpr.2 p hp)
            obtain ⟨a7, c7, rfl⟩ := own_form hown
            have hI := isHits_row hwf hown
            have hbc : bestCode (probedH x q (probesI x.centers q m)) k = 0 := by rw [bestCode, unhide HKB, if_pos rfl, if_neg (by omega), if_pos (List.all_eq_true.2 hpr.2)]
            have hbl : bestList (probedH x q (probesI x.centers q m)) k = best k.toNat (probedH x q (probesI x.centers q m)) := by rw [bestList, if_pos hbc]
            have L := implBest_all _ _ k wr hI
            rw [hbc, hbl] at L
            have HL2 := hide L
            have HWF := hide hwf
            have HB3 := hide ((unhide HB2).trans (hB.mono (unhide HB2).size))
            have HR3 := hide ((unhide HR2).keep hB)
            clear L hI hown hB hwf hpr hbc hbl
            have hk20 : k ≤ 20 := by have := unhide HKB; simp only [kB, Bool.and_eq_true, decide_eq_true_eq] at this; exact this.2
            go_wp2_with fail
            refine (unhide HL2).mono ?_
            rintro e w3 ⟨r3, rfl, ho3, hb3⟩
            have hO := own_hits ho3 (best_wf (unhide HWF)) (by have := best_len k.toNat (probedH x q (probesI x.centers q m)); omega)
            obtain ⟨ao9, cp9, rfl⟩ := open_sl hO.reads
            simp only [intsRes]
            have bR := (unhide HR3).keep hb3
            have z0 : w3.cell? ⟨w.heap.size + 1, 0, none⟩ = some (.int .i64 0) := bR.at 0 _ rfl
            have z1 : w3.cell? ⟨w.heap.size + 1, 1, none⟩ = some (.slice none 0 0) := bR.at 1 _ rfl
            have f0 := bR.soft 0
            have f1 := bR.soft 1
            have l0 := bR.lt
            have HB9 := hide ((unhide HB3).trans (hb3.mono (unhide HB3).size))
            have HO9 := hide (hO.mono (lo' := w.heap.size + 2) (by have := (unhide HR3).lt; omega) (Nat.le_refl _))
            clear hO hb3 bR ho3
            generalize ((best k.toNat (probedH x q (probesI x.centers q m))).map dhit).length = n9 at *
            go_wp2_with fail
            refine bodyPost_ret (v := .agg #[.int .i64 0, .slice ao9 n9 cp9]) (by simp [results, Tryz.results22, go_sem, z0, z1]) rfl ?_
            rw [unhide HG]
            have hE : Ext (fun c => c = w.heap.size + 1) w3 ((w3.setCell ⟨w.heap.size + 1, 0, none⟩ (.int .i64 0)).setCell ⟨w.heap.size + 1, 1, none⟩ (.slice ao9 n9 cp9)) := ((Ext.refl (fun c => c = w.heap.size + 1) _).setCell ⟨w.heap.size + 1, 0, none⟩ _ rfl).setCell ⟨w.heap.size + 1, 1, none⟩ _ rfl
            exact ⟨[.int .i64 0, .slice ao9 n9 cp9], rfl, own_hitsR (by decide) (((unhide HO9).ext hE (fun c h1 _ h3 => by omega)).mono (by omega) (by simp)), ((unhide HB9).setCell (by simp) _).setCell (by simp) _⟩
  · have hd : (probeF x q != 0) = true := by simpa using hf
    have HG : Hid (searchIvfR x q k n = ⟨probeF x q, []⟩) := by
      show searchIvfR x q k n = _
      unfold searchIvfR probeF
      by_cases h : ivfFault x = 0
      · have hv : vecFault q ≠ 0 := fun hv => hf (by rw [probeF, if_pos h]; exact hv)
        rw [if_pos h, if_pos h, if_neg hv]
      · rw [if_neg h, if_neg h]
    clear hf
    go_wp2_with fail
    refine bodyPost_ret (v := .agg #[.int .i64 (probeF x q), .slice none 0 0]) (by simp [results, Tryz.results22, go_sem, z0, z1]) rfl ?_
    rw [unhide HG]
    exact ⟨[.int .i64 (probeF x q), .slice none 0 0], rfl, own_codeHits (probeF_wf x q), ((unhide HB).setCell (by simp) _).setCell (by simp) _⟩

end Go.Proofs.YtfgadegpdknocaaGreat

namespace Go.Proofs.YtfgadegpdknocaaGreat
open Go.RowKit

set_option maxRecDepth 100000 in
set_option maxHeartbeats 2000000 in
theorem specProbes (v : Value) (cs : List DCenter) (vq : Value) (q : List Int) (n : Nat) (w : World) (h : (Lay.sl Lay.tCenter).Reads w [v] cs) (hq : IsInts w vq q) (hfc : centersFault cs = 0) (hfq : vecFault q = 0) (hn : n ≤ 100) :
    Calls Tryz.prog 60 #[v, vq, .int .i64 n] w fun e w' => ∃ v', e = .returned v' ∧ w'.ownsRow w.heap.size 2 1 v' (probesI cs q n).length ((probesI cs q n).map (Value.int .i64)) ∧ Below w.heap.size w w' := by
  obtain ⟨⟨hn1, hn6⟩, hall⟩ := centersFault_zero hfc
  obtain ⟨ao, cap, rfl⟩ := open_sl h
  obtain ⟨b, off, rfl, hbl⟩ := Lay.sl_addr h hn1
  have hvq : ∃ a d, vq = .slice a q.length d := by obtain ⟨a, d, e, -⟩ := hq; exact ⟨a, d, e⟩
  obtain ⟨a2, d2, rfl⟩ := hvq
  have HA := hide hall
  have H := hide h
  have HQ := hide hq
  have HFQ := hide hfq
  have G0 : Grow Lay.tHit (w.alloc (.cells #[] 66)) w.heap.size 66 (.slice (some ⟨w.heap.size, 0, none⟩) 0 0) [] [] [] := Grow.nil (World.ownsRow_lit w #[] 0 (Nat.le_refl _) (Nat.zero_le _) rfl)
  have HG1 := hide G0
  have HB1 := hide ((Below.refl w.heap.size w).alloc (Nat.le_refl _) (.cells #[] 66))
  clear h hq hall hfc hfq G0
  go_enter Tryz.func60, Tryz.ntmps60
  go_wp2_with fail
  go_loopw [7, 8] (fun v i wr => ∃ (k : Nat) (rows : List (List Value)) (bls : List (List Nat)), k ≤ cs.length ∧ i = .int .i64 k ∧ Grow Lay.tHit wr w.heap.size 66 v rows (probeL cs q k) bls ∧ Below w.heap.size w wr) (fun _ i _ => cs.length - (intOf i).toNat)
  case atStart => exact ⟨0, [], [], Nat.zero_le _, rfl, unhide HG1, unhide HB1⟩
  case round =>
    obtain ⟨k, rows, bls, hk, rfl, hG, hB⟩ := hrel
    clear HG1 HB1
    by_cases hlt : k < cs.length
    · obtain ⟨row, hc, hr⟩ := Lay.row_at (unhide H) hlt
      obtain ⟨a1, d1, rfl, R1⟩ := open_Center hr
      have c1 : wr.cell? ⟨b, off + k, none⟩ = some (.slice a1 (cs[k]).vec.length d1) := (hB.cell (p := ⟨b, off + k, none⟩) hbl).trans (cen_cell (hc 0 (by decide)))
      have HT := hide (probeL_step cs q k hlt)
      have HL := hide (probeL_len cs q k)
      have hvx := unhide HA cs[k] (List.getElem_mem hlt)
      clear hc hr
      generalize hx : cs[k] = x at *
      clear hx
      have hbd := cscore_bd hvx (unhide HFQ)
      have HWS : Hid ((Lit.int .i64 (score3 x.vec q)).wf = true) := wf_of_bd (by omega)
      have HWI : Hid ((Lit.int .i64 (k : Int)).wf = true) := wf_of_bd (by omega)
      have L := hide (modelScore3 _ _ x.vec q wr ((Lay.ints_reads R1).later hB) ((unhide HQ).later hB) hvx (unhide HFQ))
      have HB := hide hB
      have HG := hide hG
      clear R1 hG hB hvx hbd
      generalize probeL cs q k = pk at *
      go_wp2_with fail
      refine (unhide L).mono ?_
      rintro e w3 ⟨rfl, hb⟩
      have hG3 := (unhide HG).later hb
      have hz3 : w.heap.size ≤ w3.heap.size := by have := (unhide HB).size; have := hb.size; omega
      replace HB := hide ((unhide HB).trans (hb.mono (unhide HB).size))
      have hlk := unhide HL
      clear c1 L HG hb
      generalize score3 x.vec q = sc at *
      go_wp2_with (at_builtin; refine wpList_append_Hit hG3 (row := [.int .i64 k, .int .i64 sc]) (x := ⟨k, sc⟩) (bl := []) (lies_Hit.2 ⟨rfl, rfl, unhide HWI, unhide HWS⟩) (by simp) rfl _ _ rfl rfl rfl ?hn9 hz3 ?_; case hn9 => omega)
      rintro g5 cp5 w5 hG5 hb5 - hl5 hz5 -
      have HG5 := hide hG5
      have HB5 := hide ((unhide HB).trans hb5)
      clear hG5 hb5 hG3 HB hlk hl5 hz5
      go_wp2_with fail
      go_roundw
      case rel => exact ⟨k + 1, _, _, by omega, by go_num, by rw [unhide HT]; exact unhide HG5, unhide HB5⟩
      case measure => simp [intOf]; omega
    · obtain rfl : k = cs.length := by omega
      obtain ⟨ho, hwf⟩ := grow_hits hG
      have HP : Hid (probesI cs q n = (best n ((probeL cs q cs.length).map pairH)).map Prod.fst) := rfl
      have hpl : ((probeL cs q cs.length).map pairH).length ≤ 6 := by rw [List.length_map, probeL_len]; omega
      generalize (probeL cs q cs.length).map pairH = ps at *
      have L := hide (l2Best _ ps n wr (isHits_row hwf ho) (by omega) hn)
      have HWF : Hid (∀ p ∈ best n ps, Wf2 p) := fun p hp => hwf p (best_mem hp)
      have hbn : (best n ps).length ≤ 100 := Nat.le_trans (best_len n ps) hn
      have HB := hide hB
      clear hG ho hwf hB
      generalize best n ps = bs at *
      go_wp2_with fail
      refine (unhide L).mono ?_
      rintro e w3 ⟨g3, cp3, rfl, ho3, hb3⟩
      have HH := hide (isHits_row (unhide HWF) ho3)
      replace HB := hide ((unhide HB).trans (hb3.mono (unhide HB).size))
      have O : (w3.alloc (.cells #[] 2)).ownsRow w3.heap.size 2 1 (.slice (some ⟨w3.heap.size, 0, none⟩) 0 0) 0 [] := World.ownsRow_lit w3 _ 0 (Nat.le_refl _) (by unfold maxLen; omega) rfl
      have HO := hide O
      have HB4 := hide ((Below.refl w3.heap.size w3).alloc (Nat.le_refl _) (.cells #[] 2))
      have hl3 := (ho3.lt g3 rfl).2
      clear L ho3 hb3 O
      go_wp2_with fail
      go_loopw [10, 11] (fun u i wr => ∃ j : Nat, j ≤ bs.length ∧ i = .int .i64 j ∧ wr.ownsRow w3.heap.size 2 1 u j ((bs.take j).map fun p => Value.int .i64 p.1) ∧ Below w3.heap.size w3 wr) (fun _ i _ => bs.length - (intOf i).toNat)
      case atStart => exact ⟨0, Nat.zero_le _, rfl, unhide HO, unhide HB4⟩
      case round =>
        obtain ⟨j, hj, rfl, hown, hB5⟩ := hrel
        clear HO HB4
        by_cases hlt2 : j < bs.length
        · obtain ⟨_, _, e9, -, -, -, hc9⟩ := (unhide HH).later hB5
          simp only [Value.slice.injEq] at e9
          obtain ⟨rfl, -, rfl⟩ := e9
          obtain ⟨b9, o9, e9, hc9⟩ := hc9 (by omega)
          simp only [Option.some.injEq, Addr.mk.injEq] at e9
          obtain ⟨rfl, rfl, -⟩ := e9
          have c9 := (hc9 j bs[j].1 bs[j].2 (by rw [List.getElem?_eq_getElem hlt2])).1
          rw [Nat.zero_add] at c9
          have HT9 : Hid ((bs.take (j + 1)).map (fun p => Value.int .i64 p.1) = (bs.take j).map (fun p => Value.int .i64 p.1) ++ [.int .i64 bs[j].1]) := by
            show (bs.take (j + 1)).map _ = _
            rw [List.take_succ_eq_append_getElem hlt2, List.map_append]
            rfl
          generalize (bs.take j).map (fun p => Value.int .i64 p.1) = X9 at *
          have hz9 := hB5.size
          have HB5 := hide hB5
          clear hc9 hB5
          generalize bs[j].1 = y at *
          go_wp2_with (at_builtin; refine wpList_append_int hown y rfl _ _ rfl rfl rfl ?hn9 hz9 ?_; case hn9 => omega)
          rintro g5 cp5 w5 ho5 - hb5 hl5 hz5
          have HO5 := hide ho5
          have HB6 := hide ((unhide HB5).trans hb5)
          clear ho5 hb5 hown HB5 hl5 hz5 c9
          go_wp2_with fail
          go_roundw
          case rel => exact ⟨j + 1, by omega, by go_num, by rw [unhide HT9]; exact unhide HO5, unhide HB6⟩
          case measure => simp [intOf]; omega
        · obtain rfl : j = bs.length := by omega
          rw [List.take_length] at hown
          have HO5 := hide (own_mono (unhide HB).size hown)
          have HB5 := hide ((unhide HB).trans (hB5.mono (unhide HB).size))
          clear hown hB5
          go_wp2_with fail
          go_ret
          refine ⟨_, rfl, ?_, unhide HB5⟩
          rw [unhide HP, List.length_map, List.map_map]
          exact unhide HO5

end Go.Proofs.YtfgadegpdknocaaGreat

namespace Go.Proofs.YtfgadegpdknocaaGreat
open Go.RowKit

set_option maxRecDepth 100000 in
set_option maxHeartbeats 1000000 in
theorem specCen_pos (b off cap : Nat) (xs : List DCenter) (w : World) (hn : 1 ≤ xs.length ∧ xs.length ≤ 6) (h : (Lay.sl Lay.tCenter).Reads w [.slice (some ⟨b, off, none⟩) xs.length cap] xs) (hbl : b < w.heap.size) :
    Calls Tryz.prog 101 #[.slice (some ⟨b, off, none⟩) xs.length cap] w fun e w' => e = .returned (.int .i64 (cenFrom xs)) ∧ Below w.heap.size w w' := by
  generalize hF0 : cenFrom xs = F0
  have H := hide h
  clear h
  have d1 : decide ((xs.length : Int) < 1) = false := by simp; omega
  have d2 : decide ((6 : Int) < (xs.length : Int)) = false := by simp; omega
  go_enter Tryz.func101, Tryz.ntmps101
  go_wp2_with fail
  go_loopw [3] (fun i wr => ∃ k : Nat, k ≤ xs.length ∧ i = .int .i64 k ∧ cenFrom (xs.drop k) = F0 ∧ Below w.heap.size w wr) (fun i _ => xs.length - (intOf i).toNat)
  case atStart => exact ⟨0, Nat.zero_le _, rfl, hF0, Below.refl _ _⟩
  case round =>
    obtain ⟨k, hk, rfl, hF, hB⟩ := hrel
    by_cases hlt : k < xs.length
    · obtain ⟨row, hc, hr⟩ := Lay.row_at (unhide H) hlt
      replace hr := hr.later hB
      obtain ⟨a1, d1, rfl, R1⟩ := open_Center hr
      have c1 : wr.cell? ⟨b, off + k, none⟩ = some (.slice a1 (xs[k]).vec.length d1) := (hB.cell (p := ⟨b, off + k, none⟩) hbl).trans (cen_cell (hc 0 (by decide)))
      rw [cenFrom_step xs k hlt] at hF
      clear hc hr
      generalize hx : xs[k] = x at *
      clear hx
      have hbr : b < wr.heap.size := Nat.lt_of_lt_of_le hbl hB.size
      have I1 := hide (Lay.ints_reads R1)
      have HF := hide hF
      have B1 := hide hB
      clear R1 hF hB
      go_wp2_with fail
      refine (modelFault _ x.vec _ (unhide I1)).mono ?_
      rintro e w1 ⟨rfl, rfl⟩
      by_cases hv : vecFault x.vec = 0
      · rw [hv]
        have hF := unhide HF
        rw [if_pos hv] at hF
        clear HF I1 hv
        have HF := hide hF
        clear hF
        go_wp2_with fail
        go_roundw
        case rel => exact ⟨k + 1, by omega, by go_num, unhide HF, unhide B1⟩
        case measure => simp [intOf]; omega
      · have hF := unhide HF
        rw [if_neg hv] at hF
        have hd : (vecFault x.vec != 0) = true := by simpa using hv
        have HF2 := hide hF
        clear HF hF I1 hv
        go_wp2_with fail
        go_ret
        exact ⟨by rw [← unhide HF2]; rfl, unhide B1⟩
    · obtain rfl : k = xs.length := by omega
      rw [List.drop_length] at hF
      have HF := hide hF
      have HB := hide hB
      clear hF hB H
      go_wp2_with fail
      go_ret
      exact ⟨by rw [← unhide HF]; rfl, unhide HB⟩

set_option maxRecDepth 10000 in
theorem specCen (v : Value) (xs : List DCenter) (w : World) (h : (Lay.sl Lay.tCenter).Reads w [v] xs) :
    Calls Tryz.prog 101 #[v] w fun e w' => e = .returned (.int .i64 (centersFault xs)) ∧ Below w.heap.size w w' := by
  have hbig := h.big
  obtain ⟨ao, cap, rfl⟩ := open_sl h
  by_cases hn : xs.length < 1 ∨ 6 < xs.length
  · have e : centersFault xs = 2 := by unfold centersFault; rw [if_pos hn]
    rw [e]
    clear h e
    go_enter Tryz.func101, Tryz.ntmps101
    by_cases h1 : xs.length < 1
    · have d1 : decide ((xs.length : Int) < 1) = true := by simp; omega
      go_wp2_with fail
      go_ret
      exact ⟨rfl, Below.refl _ _⟩
    · have d1 : decide ((xs.length : Int) < 1) = false := by simp; omega
      have d2 : decide ((6 : Int) < (xs.length : Int)) = true := by simp; omega
      go_wp2_with fail
      go_ret
      exact ⟨rfl, Below.refl _ _⟩
  · have e : centersFault xs = cenFrom xs := by unfold centersFault; rw [if_neg hn]
    rw [e]
    obtain ⟨b, off, rfl, hbl⟩ := Lay.sl_addr h (by omega)
    exact specCen_pos b off cap xs w (by omega) h hbl

end Go.Proofs.YtfgadegpdknocaaGreat

namespace Go.Proofs.YtfgadegpdknocaaGreat
open Go.RowKit

set_option maxRecDepth 100000 in
set_option maxHeartbeats 2000000 in
theorem specNear_pos (b off cap : Nat) (cs : List DCenter) (a2 : Option Addr) (d2 : Nat) (q : List Int) (w : World) (h : (Lay.sl Lay.tCenter).Reads w [.slice (some ⟨b, off, none⟩) cs.length cap] cs) (hbl : b < w.heap.size) (hq : IsInts w (.slice a2 q.length d2) q) (hc0 : centersFault cs = 0) (hv : vecFault q = 0) :
    Calls Tryz.prog 86 #[.slice (some ⟨b, off, none⟩) cs.length cap, .slice a2 q.length d2] w fun e w' => e = .returned (.int .i64 (near cs q : Nat)) ∧ Below w.heap.size w w' := by
  obtain ⟨hn, hall⟩ := centersFault_zero hc0
  have HQ := hide hq
  have HA := hide hall
  have HV := hide hv
  have H := hide h
  have HN : Hid (near cs q = (nearK cs q cs.length).1) := rfl
  have H1 : Hid (nearK cs q 1 = (0, score3 cs[0].vec q)) := by
    show nearK cs q 1 = _
    have hs := cscore_bd (hall cs[0] (List.getElem_mem (by omega))) hv
    rw [nearK_step cs q 0 (by omega), if_pos (by simp only [nearK]; omega)]
  clear h hq hall hc0 hv
  go_enter Tryz.func86, Tryz.ntmps86
  go_wp2_with fail
  go_loopw [5, 6] (fun a i wr => ∃ k : Nat, 1 ≤ k ∧ k ≤ cs.length ∧ i = .int .i64 k ∧ a = .int .i64 ((nearK cs q k).1 : Nat) ∧ Below w.heap.size w wr) (fun _ i _ => cs.length - (intOf i).toNat)
  case atStart => exact ⟨1, Nat.le_refl _, hn.1, rfl, by rw [unhide H1]; rfl, Below.refl _ _⟩
  case round =>
    obtain ⟨k, hk1, hk, rfl, rfl, hB⟩ := hrel
    clear H1
    by_cases hlt : k < cs.length
    · obtain ⟨row, hc, hr⟩ := Lay.row_at (unhide H) hlt
      obtain ⟨a1, d1, rfl, R1⟩ := open_Center hr
      have c1 : w.cell? ⟨b, off + k, none⟩ = some (.slice a1 (cs[k]).vec.length d1) := cen_cell (hc 0 (by decide))
      have HS := hide (nearK_step cs q k hlt)
      obtain ⟨hm1, hm2, -, -⟩ := nearK_right (unhide HA) (unhide HV) k hk1 hk
      have hm3 : (nearK cs q k).1 < cs.length := by omega
      rw [getD_at hm3] at hm2
      obtain ⟨row2, hc2, hr2⟩ := Lay.row_at (unhide H) hm3
      obtain ⟨a3, d3, rfl, R2⟩ := open_Center hr2
      have c2 : w.cell? ⟨b, off + (nearK cs q k).1, none⟩ = some (.slice a3 (cs[(nearK cs q k).1]).vec.length d3) := cen_cell (hc2 0 (by decide))
      have hvx := unhide HA cs[k] (List.getElem_mem hlt)
      have hvy := unhide HA cs[(nearK cs q k).1] (List.getElem_mem hm3)
      clear hc hr hc2 hr2
      generalize hx : cs[k] = x at *
      clear hx
      generalize hy : cs[(nearK cs q k).1] = y at *
      clear hy
      generalize hs : nearK cs q k = s at *
      clear hs
      obtain ⟨m, sl⟩ := s
      simp only at hm1 hm2 hm3 c2 ⊢
      have HM2 := hide hm2
      have I1 := hide (Lay.ints_reads R1)
      have I2 := hide (Lay.ints_reads R2)
      have HX := hide hvx
      have HY := hide hvy
      have HB := hide hB
      clear R1 R2 hB hvx hvy hm2
      have i1 : (0 : Int) ≤ (k : Int) := by omega
      have i2 : (k : Int) < (cs.length : Int) := by omega
      have i3 : (0 : Int) ≤ (m : Int) := by omega
      have i4 : (m : Int) < (cs.length : Int) := by omega
      go_wp2_with fail
      refine wp_region_noPanic ?_
      refine wp_region_held_drew (S := fun w' => Below w.heap.size w w') (by kernel_rfl) (unhide HB).drew (fun hHeld => ?_)
      generalize wr.drew = wD at hHeld ⊢
      refine wpAnyH_take (i := 0) (oi := { dst := some 13, op := Go.Op.move (Go.Operand.tmp 0), type := 28, pos := "l06_center.go:24", after := #[], guard := none }) (v := ?v0) rfl (by kernel_rfl) (by kernel_rfl) (by kernel_rfl) (fun _ _ _ h => h) (Or.inl ⟨by rfl, ?h0⟩) hHeld ?r0
      case h0 =>
        intro wS hSw
        (try dsimp only at hSw)
        go_simp
        try with_reducible rfl
      case r0 =>
      simp only [Act.put, List.setIfInBounds_toArray, List.set_cons_zero, List.set_cons_succ]
      refine wpAnyH_take (i := 1) (oi := { dst := some 14, op := Go.Op.move (Go.Operand.tmp 6), type := 3, pos := "l06_center.go:24", after := #[], guard := none }) (v := ?v1) rfl (by kernel_rfl) (by kernel_rfl) (by kernel_rfl) (fun _ _ _ h => h) (Or.inl ⟨by rfl, ?h1⟩) hHeld ?r1
      case h1 =>
        intro wS hSw
        (try dsimp only at hSw)
        go_simp
        try with_reducible rfl
      case r1 =>
      simp only [Act.put, List.setIfInBounds_toArray, List.set_cons_zero, List.set_cons_succ]
      refine wpAnyH_take (i := 2) (oi := { dst := some 15, op := Go.Op.indexAddr 28 (Go.Operand.tmp 13) (Go.Operand.tmp 14), type := 0, pos := "l06_center.go:24", after := #[{ on := 0, ground := Go.Ground.data }, { on := 1, ground := Go.Ground.data }], guard := none }) (v := ?v2) rfl (by kernel_rfl) (by kernel_rfl) (by kernel_rfl) (fun _ _ _ h => h) (Or.inl ⟨by rfl, ?h2⟩) hHeld ?r2
      case h2 =>
        intro wS hSw
        (try dsimp only at hSw)
        go_simp
        try with_reducible rfl
      case r2 =>
      simp only [Act.put, List.setIfInBounds_toArray, List.set_cons_zero, List.set_cons_succ]
      refine wpAnyH_take (i := 3) (oi := { dst := some 16, op := Go.Op.fieldAddr 134 (Go.Operand.tmp 15) 0, type := 0, pos := "l06_center.go:24", after := #[{ on := 2, ground := Go.Ground.data }], guard := none }) (v := ?v3) rfl (by kernel_rfl) (by kernel_rfl) (by kernel_rfl) (fun _ _ _ h => h) (Or.inl ⟨by rfl, ?h3⟩) hHeld ?r3
      case h3 =>
        intro wS hSw
        (try dsimp only at hSw)
        go_simp
        try with_reducible rfl
      case r3 =>
      simp only [Act.put, List.setIfInBounds_toArray, List.set_cons_zero, List.set_cons_succ]
      refine wpAnyH_take (i := 4) (oi := { dst := some 17, op := Go.Op.load 26 (Go.Operand.tmp 16), type := 26, pos := "l06_center.go:24", after := #[{ on := 3, ground := Go.Ground.data }], guard := none }) (v := ?v4) rfl (by kernel_rfl) (by kernel_rfl) (by kernel_rfl) (fun _ _ _ h => h) (Or.inl ⟨by rfl, ?h4⟩) hHeld ?r4
      case h4 =>
        intro wS hSw
        have y1 := (hSw.cell (p := ⟨b, off + k, none⟩) hbl).trans c1
        clear hSw
        (try dsimp only at hSw)
        go_simp
        try with_reducible rfl
      case r4 =>
      simp only [Act.put, List.setIfInBounds_toArray, List.set_cons_zero, List.set_cons_succ]
      refine wpAnyH_take (i := 5) (oi := { dst := some 18, op := Go.Op.move (Go.Operand.tmp 1), type := 26, pos := "l06_center.go:24", after := #[], guard := none }) (v := ?v5) rfl (by kernel_rfl) (by kernel_rfl) (by kernel_rfl) (fun _ _ _ h => h) (Or.inl ⟨by rfl, ?h5⟩) hHeld ?r5
      case h5 =>
        intro wS hSw
        (try dsimp only at hSw)
        go_simp
        try with_reducible rfl
      case r5 =>
      simp only [Act.put, List.setIfInBounds_toArray, List.set_cons_zero, List.set_cons_succ]
      refine wpAnyH_take (i := 7) (oi := { dst := some 20, op := Go.Op.move (Go.Operand.tmp 0), type := 28, pos := "l06_center.go:24", after := #[], guard := none }) (v := ?v7) rfl (by kernel_rfl) (by kernel_rfl) (by kernel_rfl) (fun _ _ _ h => h) (Or.inl ⟨by rfl, ?h7⟩) hHeld ?r7
      case h7 =>
        intro wS hSw
        (try dsimp only at hSw)
        go_simp
        try with_reducible rfl
      case r7 =>
      simp only [Act.put, List.setIfInBounds_toArray, List.set_cons_zero, List.set_cons_succ]
      refine wpAnyH_take (i := 8) (oi := { dst := some 21, op := Go.Op.move (Go.Operand.tmp 5), type := 3, pos := "l06_center.go:24", after := #[], guard := none }) (v := ?v8) rfl (by kernel_rfl) (by kernel_rfl) (by kernel_rfl) (fun _ _ _ h => h) (Or.inl ⟨by rfl, ?h8⟩) hHeld ?r8
      case h8 =>
        intro wS hSw
        (try dsimp only at hSw)
        go_simp
        try with_reducible rfl
      case r8 =>
      simp only [Act.put, List.setIfInBounds_toArray, List.set_cons_zero, List.set_cons_succ]
      refine wpAnyH_take (i := 9) (oi := { dst := some 22, op := Go.Op.indexAddr 28 (Go.Operand.tmp 20) (Go.Operand.tmp 21), type := 0, pos := "l06_center.go:24", after := #[{ on := 7, ground := Go.Ground.data }, { on := 8, ground := Go.Ground.data }], guard := none }) (v := ?v9) rfl (by kernel_rfl) (by kernel_rfl) (by kernel_rfl) (fun _ _ _ h => h) (Or.inl ⟨by rfl, ?h9⟩) hHeld ?r9
      case h9 =>
        intro wS hSw
        (try dsimp only at hSw)
        go_simp
        try with_reducible rfl
      case r9 =>
      simp only [Act.put, List.setIfInBounds_toArray, List.set_cons_zero, List.set_cons_succ]
      refine wpAnyH_take (i := 10) (oi := { dst := some 23, op := Go.Op.fieldAddr 134 (Go.Operand.tmp 22) 0, type := 0, pos := "l06_center.go:24", after := #[{ on := 9, ground := Go.Ground.data }], guard := none }) (v := ?v10) rfl (by kernel_rfl) (by kernel_rfl) (by kernel_rfl) (fun _ _ _ h => h) (Or.inl ⟨by rfl, ?h10⟩) hHeld ?r10
      case h10 =>
        intro wS hSw
        (try dsimp only at hSw)
        go_simp
        try with_reducible rfl
      case r10 =>
      simp only [Act.put, List.setIfInBounds_toArray, List.set_cons_zero, List.set_cons_succ]
      refine wpAnyH_take (i := 11) (oi := { dst := some 24, op := Go.Op.load 26 (Go.Operand.tmp 23), type := 26, pos := "l06_center.go:24", after := #[{ on := 10, ground := Go.Ground.data }], guard := none }) (v := ?v11) rfl (by kernel_rfl) (by kernel_rfl) (by kernel_rfl) (fun _ _ _ h => h) (Or.inl ⟨by rfl, ?h11⟩) hHeld ?r11
      case h11 =>
        intro wS hSw
        have y1 := (hSw.cell (p := ⟨b, off + m, none⟩) hbl).trans c2
        clear hSw
        (try dsimp only at hSw)
        go_simp
        try with_reducible rfl
      case r11 =>
      simp only [Act.put, List.setIfInBounds_toArray, List.set_cons_zero, List.set_cons_succ]
      refine wpAnyH_take (i := 12) (oi := { dst := some 25, op := Go.Op.move (Go.Operand.tmp 1), type := 26, pos := "l06_center.go:24", after := #[], guard := none }) (v := ?v12) rfl (by kernel_rfl) (by kernel_rfl) (by kernel_rfl) (fun _ _ _ h => h) (Or.inl ⟨by rfl, ?h12⟩) hHeld ?r12
      case h12 =>
        intro wS hSw
        (try dsimp only at hSw)
        go_simp
        try with_reducible rfl
      case r12 =>
      simp only [Act.put, List.setIfInBounds_toArray, List.set_cons_zero, List.set_cons_succ]
      refine wpAnyH_ready (rs := [6]) (by kernel_rfl) (by simp) ?_
      refine AllReadyH.cons (o := { dst := some 19, op := Go.Op.call { callee := Go.Callee.value (Go.Operand.func 104), args := #[Go.Operand.tmp 17, Go.Operand.tmp 18], argTypes := #[26, 26] }, type := 2, pos := "l06_center.go:24", after := #[{ on := 4, ground := Go.Ground.data }, { on := 5, ground := Go.Ground.data }], guard := none }) rfl (fun K hK => ?_) AllReadyH.nil
      go_simp
      go_at_call 104
      refine (modelScore3 _ _ x.vec q _ ((unhide I1).later hHeld) ((unhide HQ).later hHeld) (unhide HX) (unhide HV)).mono ?_
      rintro e w3 ⟨rfl, hbw⟩
      try go_wp2_with fail
      refine hK.out _ _ (hHeld.trans (hbw.mono hHeld.size)) (fun hHeld => ?_)
      clear hK K
      try simp only [Act.put, List.setIfInBounds_toArray, List.set_cons_zero, List.set_cons_succ]
      refine wpAnyH_ready (rs := [13]) (by kernel_rfl) (by simp) ?_
      refine AllReadyH.cons (o := { dst := some 26, op := Go.Op.call { callee := Go.Callee.value (Go.Operand.func 104), args := #[Go.Operand.tmp 24, Go.Operand.tmp 25], argTypes := #[26, 26] }, type := 2, pos := "l06_center.go:24", after := #[{ on := 11, ground := Go.Ground.data }, { on := 12, ground := Go.Ground.data }, { on := 6, ground := Go.Ground.chain }], guard := none }) rfl (fun K hK => ?_) AllReadyH.nil
      go_simp
      go_at_call 104
      refine (modelScore3 _ _ y.vec q _ ((unhide I2).later hHeld) ((unhide HQ).later hHeld) (unhide HY) (unhide HV)).mono ?_
      rintro e w3 ⟨rfl, hbw⟩
      try go_wp2_with fail
      refine hK.out _ _ (hHeld.trans (hbw.mono hHeld.size)) (fun hHeld => ?_)
      clear hK K
      try simp only [Act.put, List.setIfInBounds_toArray, List.set_cons_zero, List.set_cons_succ]
      refine wpAnyH_take (i := 14) (oi := { dst := some 27, op := Go.Op.binOp Go.BinOp.lss 2 (Go.Operand.tmp 19) (Go.Operand.tmp 26) 2, type := 4, pos := "l06_center.go:24", after := #[{ on := 6, ground := Go.Ground.data }, { on := 13, ground := Go.Ground.data }], guard := none }) (v := ?v14) rfl (by kernel_rfl) (by kernel_rfl) (by kernel_rfl) (fun _ _ _ h => h) (Or.inl ⟨by rfl, ?h14⟩) hHeld ?r14
      case h14 =>
        intro wS hSw
        (try dsimp only at hSw)
        go_simp
        try with_reducible rfl
      case r14 =>
      simp only [Act.put, List.setIfInBounds_toArray, List.set_cons_zero, List.set_cons_succ]
      refine wpAnyH_done (by kernel_rfl) ?_ _
      refine NoPanic.normal ?_
      have HB3 := hide hHeld
      clear hHeld c1 c2 HB I1 I2
      have hS2 := unhide HS
      rw [unhide HM2] at hS2
      have HS2 := hide hS2
      clear hS2 HS
      cases hd : decide (score3 x.vec q < score3 y.vec q) with
      | true =>
        have HS3 : Hid (nearK cs q (k + 1) = (k, score3 x.vec q)) := (unhide HS2).trans (if_pos (by simpa using hd))
        clear HS2
        go_wp2_with fail
        go_roundw
        case rel => exact ⟨k + 1, by omega, by omega, by go_num, by rw [unhide HS3], unhide HB3⟩
        case measure => simp [intOf]; omega
      | false =>
        have HS3 : Hid (nearK cs q (k + 1) = (m, score3 y.vec q)) := (unhide HS2).trans (if_neg (by simpa using hd))
        clear HS2
        go_wp2_with fail
        go_roundw
        case rel => exact ⟨k + 1, by omega, by omega, by go_num, by rw [unhide HS3], unhide HB3⟩
        case measure => simp [intOf]; omega
    · obtain rfl : k = cs.length := by omega
      have HB := hide hB
      clear hB H
      go_wp2_with fail
      go_ret
      exact ⟨rfl, unhide HB⟩

theorem specNear (v : Value) (cs : List DCenter) (vq : Value) (q : List Int) (w : World) (h : (Lay.sl Lay.tCenter).Reads w [v] cs) (hq : IsInts w vq q) (hc : centersFault cs = 0) (hv : vecFault q = 0) :
    Calls Tryz.prog 86 #[v, vq] w fun e w' => e = .returned (.int .i64 (near cs q : Nat)) ∧ Below w.heap.size w w' := by
  obtain ⟨ao, cap, rfl⟩ := open_sl h
  have hvq : ∃ a d, vq = .slice a q.length d := by obtain ⟨a, d, e, -⟩ := hq; exact ⟨a, d, e⟩
  obtain ⟨a2, d2, rfl⟩ := hvq
  obtain ⟨b, off, rfl, hbl⟩ := Lay.sl_addr h (centersFault_zero hc).1.1
  exact specNear_pos b off cap cs a2 d2 q w h hbl hq hc hv

end Go.Proofs.YtfgadegpdknocaaGreat

namespace Go.Proofs.YtfgadegpdknocaaGreat
open Go.RowKit

theorem inC (v lo hi : Int) (w : World) :
    Calls Tryz.prog 103 #[.int .i64 v, .int .i64 lo, .int .i64 hi] w fun e w' => e = .returned (.bool (decide (lo ≤ v) && decide (v ≤ hi))) ∧ w' = w := by
  by_cases h1 : lo ≤ v
  · have d1 : decide (lo ≤ v) = true := by simpa using h1
    rw [d1]
    cases d2 : decide (v ≤ hi) <;>
    · go_enter Tryz.func103, Tryz.ntmps103
      go_wp2_with fail
      go_ret
      exact ⟨rfl, rfl⟩
  · have d1 : decide (lo ≤ v) = false := by simpa using h1
    rw [d1]
    go_enter Tryz.func103, Tryz.ntmps103
    go_wp2_with fail
    go_ret
    exact ⟨rfl, rfl⟩
theorem idC (x : Int) (w : World) : Calls Tryz.prog 83 #[.int .i64 x] w fun e w' => e = .returned (.bool (decide (1 ≤ x) && decide (x ≤ 999))) ∧ w' = w := by
  go_enter Tryz.func83, Tryz.ntmps83
  go_wp2_with fail
  refine (inC x 1 999 _).mono ?_
  rintro e w1 ⟨rfl, rfl⟩
  go_wp2_with fail
  go_ret
  exact ⟨rfl, rfl⟩

end Go.Proofs.YtfgadegpdknocaaGreat

namespace Go.Proofs.YtfgadegpdknocaaGreat
open Go.RowKit

set_option maxRecDepth 100000 in
set_option maxHeartbeats 1000000 in
theorem specTab_pos (b off cap : Nat) (xs : List DItem) (w : World) (hn : xs.length ≤ 30) (h : (Lay.sl Lay.tItem).Reads w [.slice (some ⟨b, off, none⟩) xs.length cap] xs) (hbl : b < w.heap.size) :
    Calls Tryz.prog 131 #[.slice (some ⟨b, off, none⟩) xs.length cap] w fun e w' => e = .returned (.int .i64 (tabFrom none xs)) ∧ Below w.heap.size w w' := by
  generalize hF0 : tabFrom none xs = F0
  have H := hide h
  clear h
  go_enter Tryz.func131, Tryz.ntmps131
  go_wp2_with fail
  go_loopw [3] (fun i wr => ∃ k : Nat, k ≤ xs.length ∧ i = .int .i64 k ∧ tabFrom (idAhead xs k) (xs.drop k) = F0 ∧ Below w.heap.size w wr) (fun i _ => xs.length - (intOf i).toNat)
  case atStart => exact ⟨0, Nat.zero_le _, rfl, hF0, Below.refl _ _⟩
  case round =>
    obtain ⟨k, hk, rfl, hF, hB⟩ := hrel
    by_cases hlt : k < xs.length
    · obtain ⟨row, hc, hr⟩ := Lay.row_at (unhide H) hlt
      replace hr := hr.later hB
      obtain ⟨a1, d1, rfl, R1⟩ := open_Item hr
      have c0 : wr.cell? ⟨b, off + k * 2, none⟩ = some (.int .i64 (xs[k]).id) := (hB.cell (p := ⟨b, off + k * 2, none⟩) hbl).trans (hc 0 (by decide))
      have c1 : wr.cell? ⟨b, off + k * 2 + 1, none⟩ = some (.slice a1 (xs[k]).vec.length d1) := (hB.cell (p := ⟨b, off + k * 2 + 1, none⟩) hbl).trans (hc 1 (by decide))
      have HP : Hid (∀ m, k = m + 1 → ∃ z, idAhead xs (m + 1) = some z ∧ wr.cell? ⟨b, off + m * 2, none⟩ = some (.int .i64 z)) := by
        rintro m rfl
        have hm : m < xs.length := by omega
        obtain ⟨row2, hc2, hr2⟩ := Lay.row_at (unhide H) hm
        obtain ⟨a2, d2, rfl, -⟩ := open_Item hr2
        exact ⟨_, idAhead_succ xs m hm, (hB.cell (p := ⟨b, off + m * 2, none⟩) hbl).trans (hc2 0 (by decide))⟩
      rw [tabFrom_step xs k hlt] at hF
      clear hc hr
      generalize hx : xs[k] = x at *
      clear hx
      have hbr : b < wr.heap.size := Nat.lt_of_lt_of_le hbl hB.size
      have I1 := hide (Lay.ints_reads R1)
      have HF := hide hF
      have B1 := hide hB
      clear R1 hF hB
      go_wp2_with fail
      refine (idC x.id _).mono ?_
      rintro e w1 ⟨rfl, rfl⟩
      rw [show (decide (1 ≤ x.id) && decide (x.id ≤ 999)) = idB x.id from rfl]
      cases hid : idB x.id with
      | false =>
        have hF := unhide HF
        rw [hid, if_neg (by simp)] at hF
        have HF2 := hide hF
        clear HF hF hid HP
        go_wp2_with fail
        go_ret
        exact ⟨by rw [← unhide HF2]; rfl, unhide B1⟩
      | true =>
        have hF := unhide HF
        rw [hid, if_pos rfl] at hF
        clear HF hid
        have HF := hide hF
        clear hF
        go_wp2_with fail
        refine (modelFault _ x.vec _ (unhide I1)).mono ?_
        rintro e w1 ⟨rfl, rfl⟩
        by_cases hv : vecFault x.vec = 0
        · rw [hv]
          have hF := unhide HF
          rw [if_pos hv] at hF
          clear HF I1 hv
          have HF := hide hF
          clear hF
          by_cases hk0 : k = 0
          · subst hk0
            have hF := unhide HF
            rw [idAhead_zero, Option.all_none, if_pos rfl] at hF
            have HF3 := hide hF
            clear HF hF HP
            have g0 : decide ((0 : Int) < 0) = false := by decide
            go_wp2_with fail
            go_quiet (fail)
            all_goals go_wp2_with fail
            all_goals exact ⟨⟨0 + 1, by omega, by go_num, unhide HF3, below_drewN (unhide B1) _⟩, by simp [intOf]; omega⟩
          · obtain ⟨m, rfl⟩ : ∃ m, k = m + 1 := ⟨k - 1, by omega⟩
            obtain ⟨z, e1, p0⟩ := unhide HP m rfl
            have hF := unhide HF
            rw [e1, Option.all_some] at hF
            have HF3 := hide hF
            clear HF hF HP e1 hk0
            have g1 : decide ((0 : Int) < (m : Int) + 1) = true := by simp
            have g4 : IntKind.i64.wrap ((m : Int) + 1 - 1) = (m : Int) := by simp only [IntKind.wrap_i64]; omega
            have g9 : IntKind.i64.wrap (m : Int) = (m : Int) := by simp only [IntKind.wrap_i64]; omega
            have g2 : (m : Int) + 1 - 1 = (m : Int) := by omega
            have g3 : (m : Int) < (xs.length : Int) := by omega
            have g5 : (0 : Int) ≤ (m : Int) := by omega
            have g6 : (m : Int) + 1 < (xs.length : Int) := by omega
            have g7 : (0 : Int) ≤ (m : Int) + 1 := by omega
            have g8 : ((m : Int) + 1).toNat = m + 1 := by omega
            cases hq : decide (z < x.id) with
            | true =>
              have hF := unhide HF3
              rw [hq, if_pos rfl] at hF
              have HF4 := hide hF
              have q1 : decide (x.id ≤ z) = false := by simp at hq ⊢; omega
              clear hF HF3 hq
              go_wp2_with fail
              go_quiet (fail)
              all_goals go_wp2_with fail
              all_goals exact ⟨⟨m + 1 + 1, by omega, by go_num, unhide HF4, below_drewN (unhide B1) _⟩, by simp [intOf]; omega⟩
            | false =>
              have hF := unhide HF3
              rw [hq, if_neg (by simp)] at hF
              have HF4 := hide hF
              have q1 : decide (x.id ≤ z) = true := by simp at hq ⊢; omega
              clear hF HF3 hq
              go_wp2_with fail
              go_quiet (fail)
              all_goals go_wp2_with fail
              all_goals go_ret
              all_goals exact ⟨by rw [← unhide HF4]; rfl, below_drewN (unhide B1) _⟩
        · have hF := unhide HF
          rw [if_neg hv] at hF
          have hd : (vecFault x.vec != 0) = true := by simpa using hv
          have HF2 := hide hF
          clear HF hF HP I1 hv
          go_wp2_with fail
          go_ret
          exact ⟨by rw [← unhide HF2]; rfl, unhide B1⟩
    · obtain rfl : k = xs.length := by omega
      rw [List.drop_length] at hF
      have HF := hide hF
      have HB := hide hB
      clear hF hB H
      go_wp2_with fail
      go_ret
      exact ⟨by rw [← unhide HF]; rfl, unhide HB⟩

set_option maxRecDepth 10000 in
/-- l4Fault of the model. -/
theorem specTab (v : Value) (xs : List DItem) (w : World) (h : (Lay.sl Lay.tItem).Reads w [v] xs) :
    Calls Tryz.prog 131 #[v] w fun e w' => e = .returned (.int .i64 (tableFault xs)) ∧ Below w.heap.size w w' := by
  obtain ⟨ao, cap, rfl⟩ := open_sl h
  by_cases hn : xs.length ≤ 30
  · have e : tableFault xs = tabFrom none xs := by unfold tableFault; rw [if_neg (by omega)]
    rw [e]
    by_cases hp : 0 < xs.length
    · obtain ⟨b, off, rfl, hbl⟩ := Lay.sl_addr h hp
      exact specTab_pos b off cap xs w hn h hbl
    · obtain rfl : xs = [] := List.eq_nil_of_length_eq_zero (by omega)
      clear h e hn hp
      go_enter Tryz.func131, Tryz.ntmps131
      go_wp2_with fail
      refine wp_loop_rounds 1 ?_
      rw [rounds_succ]
      go_wp2_with fail
      go_ret
      exact ⟨rfl, Below.refl _ _⟩
  · have e : tableFault xs = 2 := by unfold tableFault; rw [if_pos (by omega)]
    rw [e]
    have hd : decide ((30 : Int) < (xs.length : Int)) = true := by simp; omega
    clear h e
    go_enter Tryz.func131, Tryz.ntmps131
    go_wp2_with fail
    go_ret
    exact ⟨rfl, Below.refl _ _⟩

end Go.Proofs.YtfgadegpdknocaaGreat
