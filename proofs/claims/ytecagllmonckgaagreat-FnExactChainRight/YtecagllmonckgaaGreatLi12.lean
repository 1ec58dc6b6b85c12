/-
  Texts of this proof in one: SpecLine, ImplTail, ImplTailIn, ImplSame, ImplLine, LawLine, OpenChain, OpenWrite, OpenNode.
  Their conditions stand in their theorems.
-/
import Derived.Test.YtecagllmonckgaaGreatLi08
import Derived.Test.YtecagllmonckgaaGreatLi10
import Derived.Test.YtecagllmonckgaaGreatLi11
import Derived.Deep.RegionHeld3
import Derived.Deep.CutRange
import Derived.Test.YtecagllmonckgaaGreatLi00
import Derived.Test.YtecagllmonckgaaGreatLi07
import Derived.Test.YtecagllmonckgaaGreatLi05
import Derived.Test.YtecagllmonckgaaGreatChecked
import Derived.Test.YtecagllmonckgaaGreatLi06
import Derived.Test.YtecagllmonckgaaGreatLi01
set_option maxRecDepth 100000
set_option maxHeartbeats 4000000
namespace Go.Proofs.YtecagllmonckgaaGreat
open Go.RowKit
theorem fs (cs : List Value) (x : aN) (w : World) (h : ad.a8.Reads w cs x) :
  Calls Tryz.prog 30 #[.agg cs.toArray] w fun r w' => r = .returned (.bool (bQ x)) ∧ Below w.heap.size w w' := by
 obtain ⟨a3, d3, a4, d4, a5, d5, a6, d6, rfl, -, -, -, -⟩ := aF h
 have nb : Below w.heap.size w (w.alloc (.cells #[.int .i64 x.now, .int .i64 x.events, .int .i64 x.chain.ab, .slice a3 x.chain.ids.length d3, .slice a4 x.nodes.length d4, .slice a5 x.msgs.length d5, .slice a6 x.ae.length d6] 37)) := (Below.refl _ _).alloc (Nat.le_refl _) _
 have HX : Hid (ar 0 #[.int .i64 x.now, .int .i64 x.events, .int .i64 x.chain.ab, .slice a3 x.chain.ids.length d3, .slice a4 x.nodes.length d4, .slice a5 x.msgs.length d5, .slice a6 x.ae.length d6] 37 (w.alloc (.cells #[.int .i64 x.now, .int .i64 x.events, .int .i64 x.chain.ab, .slice a3 x.chain.ids.length d3, .slice a4 x.nodes.length d4, .slice a5 x.msgs.length d5, .slice a6 x.ae.length d6] 37)) w.heap.size) := aM (Nat.zero_le _)
 have HB := yh nb
 have HR := yh (h.af nb)
 have HP : Hid (bQ x = (aT x == 0 && cE x)) := rfl
 clear nb h
 generalize bQ x = R at *
 go_enter Tryz.func30, Tryz.ntmps30
 go_upto_region 1 with fail
 generalize (w.alloc (.cells #[.int .i64 x.now, .int .i64 x.events, .int .i64 x.chain.ab, .slice a3 x.chain.ids.length d3, .slice a4 x.nodes.length d4, .slice a5 x.msgs.length d5, .slice a6 x.ae.length d6] 37)) = W0 at *
 go_wp2_with fail
 refine (jr a3 d3 a4 d4 a5 d5 a6 d6 x w.heap.size W0 (uh HX) (uh HR)).mono ?_
 rintro r wa ⟨rfl, hb⟩
 replace HX := yh ((uh HX).au hb)
 replace HR := yh ((uh HR).af hb)
 replace HB := bZ HB hb
 clear hb
 by_cases d1 : aT x = 0
 ·
  have hok := cU d1
  obtain ⟨k, hk, ht⟩ := tail_at hok
  obtain ⟨_, _, _, _, _, _, _, _, hq, RC, RN, -, -⟩ := aF (uh HR)
  simp only [List.cons.injEq, Value.slice.injEq, and_true, true_and] at hq
  obtain ⟨⟨rfl, rfl⟩, ⟨rfl, rfl⟩, -, -, -⟩ := hq
  obtain ⟨_, _, hq, RI⟩ := ba RC
  simp only [List.cons.injEq, Value.slice.injEq, and_true, true_and] at hq
  obtain ⟨rfl, rfl⟩ := hq
  have hl := (bH hok.chain).len
  obtain ⟨bi, oi, rfl, hbi⟩ := ad.aD RI (by omega)
  obtain ⟨b, off, rfl, hbl⟩ := ad.aD RN (by omega)
  have HT := yh (kb (some ⟨bi, oi, none⟩) d3 d4 a5 d5 a6 d6 b off k x w.heap.size wa (uh HX) (uh HR) hok hk ht)
  have HRI := yh RI
  have HRN := yh RN
  have HST : Hid ((cR x (cj x)).sure = x.nodes[k].sure) := by show (cR x (cj x)).sure = _; rw [ht, dY hk]
  have HF : Hid (cE x = dG x 0 (x.chain.ids.length - 0)) := rfl
  have HI := yh hok.ids
  have HNO : Hid (∀ k (hk : k < x.nodes.length), aC x.nodes[k] = 0) := fun k hk => (hok.nodes k hk).1
  have hn5 := hok.some.2
  have e0 : ((0 : Int) == 0) = true := rfl
  rw [d1, e0, Bool.true_and] at HP
  rw [← uh HP] at HF
  rw [d1]
  clear hok ht d1 e0 RC RN RI HP HR
  go_wp2_with fail
  refine (uh HT).mono ?_
  rintro r wt ⟨rfl, hb⟩
  replace HX := yh ((uh HX).au hb)
  replace HRI := yh ((uh HRI).af hb)
  replace HRN := yh ((uh HRN).af hb)
  replace HB := bZ HB hb
  have hbi0 : bi < wt.heap.size := Nat.lt_of_lt_of_le hbi hb.size
  have hbl0 : b < wt.heap.size := Nat.lt_of_lt_of_le hbl hb.size
  clear hb HT hbi hbl
  go_wp2_with fail
  go_loopw [4] (fun i wr => ∃ j : Nat, j ≤ x.chain.ids.length ∧ i = .int .i64 j ∧ R = dG x j (x.chain.ids.length - j) ∧ Below wt.heap.size wt wr) (fun i _ => x.chain.ids.length - (intOf i).toNat)
  case atStart => exact ⟨0, Nat.zero_le _, rfl, uh HF, Below.refl _ _⟩
  case round =>
   obtain ⟨j, hj, rfl, hF, hE⟩ := hrel
   clear HF
   have HXR := yh ((uh HX).au hE)
   have z3 := ar.at (uh HXR) 3 _ rfl
   simp only [ga, gb, gc] at z3
   have zl := (uh HXR).lt
   by_cases hlt : j < x.chain.ids.length
   ·
    have hdl : decide ((j : Int) < (x.chain.ids.length : Int)) = true := by simp; omega
    obtain ⟨kj, hkj, hej, hcj⟩ := jh (uh HI) hlt
    rw [fk hlt] at hF
    have c0 := bF ((uh HRI).af hE) hlt
    rw [hej] at c0
    obtain ⟨row, hcl, hr⟩ := ad.aR ((uh HRN).af hE) hkj
    obtain ⟨aj, dj, rfl, RW⟩ := aQ hr
    have x4 : wr.cell? ⟨b, off + kj * 7 + 4, none⟩ = some (.slice aj (x.nodes[kj]).writes.length dj) := hcl 4 (by decide)
    have x6 : wr.cell? ⟨b, off + kj * 7 + 6, none⟩ = some (.int .i64 (x.nodes[kj]).clean) := hcl 6 (by decide)
    have HRJ := yh RW
    clear hr hcl RW
    obtain ⟨row, hcl, hr⟩ := ad.aR ((uh HRN).af hE) hk
    obtain ⟨_, _, rfl, -⟩ := aQ hr
    have t5 : wr.cell? ⟨b, off + k * 7 + 5, none⟩ = some (.int .i64 (x.nodes[k]).sure) := hcl 5 (by decide)
    have HF := yh hF
    have HCJ := yh hcj
    have hw1 : IntKind.i64.wrap (kj : Int) = (kj : Int) := by rw [IntKind.wrap_i64]; omega
    have hwk : IntKind.i64.wrap ((j : Int) + 1) = (j : Int) + 1 := by rw [IntKind.wrap_i64]; omega
    have hki : (kj : Int) < (x.nodes.length : Int) := by omega
    have hki0 : (0 : Int) ≤ (kj : Int) := by omega
    have hji : (j : Int) < (x.chain.ids.length : Int) := by omega
    have hji0 : (0 : Int) ≤ (j : Int) := by omega
    have hbi2 : bi < wr.heap.size := Nat.lt_of_lt_of_le hbi0 hE.size
    have hbl2 : b < wr.heap.size := Nat.lt_of_lt_of_le hbl0 hE.size
    have HE := yh hE
    clear hF hr hE hcl hej hcj
    generalize hst : (x.nodes[k]).sure = st at *
    clear hst
    generalize hnj : x.nodes[kj] = nj at *
    clear hnj
    go_upto_region 7 with fail
    clear z3 zl
    refine wZz (fun w' => Below wr.heap.size wr w') ((Below.refl _ _).drew) (fun zq => ?_)
    generalize wr.drew = wD at zq ⊢
    refine tkH 0 zq ?_
    refine tkJ 1 (v := ?va1) ?ha1 zq ?ra1
    case ha1 =>
     intro wS hSw
     have bS := (uh HXR).au hSw
     have q4 := ar.at bS 4 _ rfl
     simp only [ga, gb, gc] at q4
     clear bS hSw
     exact fZ
    refine tkH 2 zq ?_
    refine tkH 3 zq ?_
    refine tkJ 4 (v := ?va4) ?ha4 zq ?ra4
    case ha4 =>
     intro wS hSw
     have bS := (uh HXR).au hSw
     have q3 := ar.at bS 3 _ rfl
     simp only [ga, gb, gc] at q3
     clear bS hSw
     exact fZ
    refine tkH 5 zq ?_
    refine tkH 6 zq ?_
    refine tkJ 7 (v := ?va7) ?ha7 zq ?ra7
    case ha7 =>
     intro wS hSw
     have qc0 := cZ hSw hbi2 c0
     clear hSw
     exact fZ
    refine tkH 8 zq ?_
    refine tkH 9 zq ?_
    refine tkH 10 zq ?_
    refine dZ ?_
    go_upto_region 8 with fail
    refine wZz (fun w' => Below wr.heap.size wr w') (zq.drew) (fun zq => ?_)
    generalize wD.drew = wE at zq ⊢
    refine tkH 0 zq ?_
    refine tkH 1 zq ?_
    refine tkH 2 zq ?_
    refine tkJ 3 (v := ?vb3) ?hb3 zq ?rb3
    case hb3 =>
     intro wS hSw
     have qx6 := cZ hSw hbl2 x6
     clear hSw
     exact fZ
    refine tkH 4 zq ?_
    refine tkH 5 zq ?_
    refine tkH 6 zq ?_
    refine tkJ 7 (v := ?vb7) ?hb7 zq ?rb7
    case hb7 =>
     intro wS hSw
     have qt5 := cZ hSw hbl2 t5
     clear hSw
     exact fZ
    refine tkH 8 zq ?_
    refine dZ ?_
    cases hcd : decide (st < nj.clean)
    ·
     by_cases hj0 : j = 0
     ·
      have hlb : cX x j = true := by rw [cX, uh HST, uh HCJ, hcd, decide_eq_true hj0]; rfl
      rw [hlb, Bool.true_and] at HF
      have hg0 : ((j : Int) == 0) = true := by simp [hj0]
      clear hlb
      clear hcd
      go_wp2_with fail
      go_roundw
      case rel => exact ⟨j + 1, by omega, by go_num, uh HF, (uh HE).trans (zq.mono (uh HE).size)⟩
      case measure => simp [intOf]; omega
     have hjp : 0 < j := by omega
     rw [fM hjp, uh HST, uh HCJ, hcd, Bool.not_false, Bool.true_and] at HF
     have hg0 : ((j : Int) == 0) = false := by simpa using hj0
     go_upto_region 11 with fail
     clear hcd
     obtain ⟨jp, hjq⟩ : ∃ jp, j = jp + 1 := ⟨j - 1, by omega⟩
     have hjl : jp < x.chain.ids.length := by omega
     obtain ⟨kp, hkp, hep, hcp⟩ := jh (uh HI) hjl
     have hj1 : j - 1 = jp := by omega
     rw [hj1, hcp] at HF
     have cp := bF ((uh HRI).af (uh HE)) hjl
     rw [hep] at cp
     obtain ⟨row, hcl, hr⟩ := ad.aR ((uh HRN).af (uh HE)) hkp
     obtain ⟨aq, dq, rfl, RQ⟩ := aQ hr
     have y4 : wr.cell? ⟨b, off + kp * 7 + 4, none⟩ = some (.slice aq (x.nodes[kp]).writes.length dq) := hcl 4 (by decide)
     have y5 : wr.cell? ⟨b, off + kp * 7 + 5, none⟩ = some (.int .i64 (x.nodes[kp]).sure) := hcl 5 (by decide)
     have hnp := cC (uh HNO kp hkp)
     have hps := hnp.sure
     have hp40 := hnp.len
     have hpc := RQ.cap.2
     have HQ0 : Hid (nj.writes.length ≤ x.nodes[kp].writes.length → ∀ V, Below wr.heap.size wr V → Calls Tryz.prog 86 #[.slice aq nj.writes.length dq, .slice aj nj.writes.length dj] V fun r w' => r = .returned (.bool (bj nj.writes (x.nodes[kp].writes.take nj.writes.length))) ∧ Below V.heap.size V w') := fun hl V hV => by
      rw [eE]
      exact kc _ _ (x.nodes[kp].writes.take nj.writes.length) nj.writes V ((dM RQ.cA nj.writes.length hl).reads.af hV) ((uh HRJ).af hV)
     clear hr hcl hnp hep hcp RQ
     generalize hnn : x.nodes[kp] = np at *
     clear hnn
     have HFB : Hid (dd nj np = (decide ((nj.writes.length : Int) ≤ np.sure) && bj nj.writes (np.writes.take nj.writes.length))) := rfl
     rw [uh HFB] at HF
     clear HFB HRJ
     generalize nj.writes.length = m at *
     generalize bj nj.writes (np.writes.take m) = sb at *
     have hwj : IntKind.i64.wrap ((j : Int) - 1) = (jp : Int) := by rw [IntKind.wrap_i64]; omega
     have hwp : IntKind.i64.wrap (kp : Int) = (kp : Int) := by rw [IntKind.wrap_i64]; omega
     have hwjp : IntKind.i64.wrap (jp : Int) = (jp : Int) := by rw [IntKind.wrap_i64]; omega
     have hjpi : (jp : Int) < (x.chain.ids.length : Int) := by omega
     have hjp0 : (0 : Int) ≤ (jp : Int) := by omega
     have hkpi : (kp : Int) < (x.nodes.length : Int) := by omega
     have hkp0 : (0 : Int) ≤ (kp : Int) := by omega
     refine wZz (fun w' => Below wr.heap.size wr w') (zq.drew) (fun zq => ?_)
     generalize wE.drew = wF at zq ⊢
     refine tkH 0 zq ?_
     refine tkJ 1 (v := ?vc1) ?hc1 zq ?rc1
     case hc1 =>
      intro wS hSw
      have bS := (uh HXR).au hSw
      have q4 := ar.at bS 4 _ rfl
      simp only [ga, gb, gc] at q4
      clear bS hSw
      exact fZ
     refine tkH 2 zq ?_
     refine tkH 3 zq ?_
     refine tkJ 4 (v := ?vc4) ?hc4 zq ?rc4
     case hc4 =>
      intro wS hSw
      have bS := (uh HXR).au hSw
      have q3 := ar.at bS 3 _ rfl
      simp only [ga, gb, gc] at q3
      clear bS hSw
      exact fZ
     refine tkH 5 zq ?_
     refine tkH 6 zq ?_
     refine tkH 7 zq ?_
     refine tkJ 8 (v := ?vc8) ?hc8 zq ?rc8
     case hc8 =>
      intro wS hSw
      have qcp := cZ hSw hbi2 cp
      clear hSw
      exact fZ
     refine tkH 9 zq ?_
     refine tkH 10 zq ?_
     refine tkH 11 zq ?_
     refine dZ ?_
     go_upto_region 12 with fail
     cases hgt : decide (np.sure < (m : Int))
     ·
      have hd : decide ((m : Int) ≤ np.sure) = true := by
       have : ¬ np.sure < (m : Int) := by simpa using hgt
       simp
       omega
      have hmw : m ≤ np.writes.length := by
       have : ¬ np.sure < (m : Int) := by simpa using hgt
       omega
      have hmd : m ≤ dq := Nat.le_trans hmw hpc
      have hm40 : m ≤ 40 := by omega
      have HQ := yh (uh HQ0 hmw)
      rw [hd, Bool.true_and] at HF
      clear hd HQ0
      cases sb
      ·
       rw [Bool.false_and] at HF
       refine wZz (fun w' => Below wr.heap.size wr w') (zq.drew) (fun zq => ?_)
       generalize wF.drew = wG at zq ⊢
       refine tkH 0 zq ?_
       refine tkH 1 zq ?_
       refine tkH 2 zq ?_
       refine tkJ 3 (v := ?vd13) ?hd13 zq ?rd13
       case hd13 =>
        intro wS hSw
        have qx4 := cZ hSw hbl2 x4
        clear hSw
        exact fZ
       refine tkH 4 zq ?_
       refine tkH 5 zq ?_
       refine tkH 6 zq ?_
       refine tkH 7 zq ?_
       refine tkJ 8 (v := ?vd18) ?hd18 zq ?rd18
       case hd18 =>
        intro wS hSw
        have qy5 := cZ hSw hbl2 y5
        clear hSw
        exact fZ
       refine tkH 9 zq ?_
       refine tkH 10 zq ?_
       refine tkH 11 zq ?_
       refine tkH 12 zq ?_
       refine tkH 13 zq ?_
       refine tkJ 14 (v := ?vd114) ?hd114 zq ?rd114
       case hd114 =>
        intro wS hSw
        have qy4 := cZ hSw hbl2 y4
        clear hSw
        exact fZ
       refine tkH 15 zq ?_
       refine tkH 16 zq ?_
       refine tkH 17 zq ?_
       refine tkJ 18 (v := ?vd118) ?hd118 zq ?rd118
       case hd118 =>
        intro wS hSw
        have qx4 := cZ hSw hbl2 x4
        clear hSw
        exact fZ
       refine tkH 19 zq ?_
       refine tkH 20 zq ?_
       refine tkH 21 zq ?_
       refine tkH 22 zq ?_
       refine tkH 23 zq ?_
       refine tkJ 24 (v := ?vd124) ?hd124 zq ?rd124
       case hd124 =>
        intro wS hSw
        have qx4 := cZ hSw hbl2 x4
        clear hSw
        exact fZ
       refine rdH 25 (fun K hK => ?_)
       go_simp
       go_at_call 86
       refine (uh HQ _ zq).mono ?_
       rintro r u ⟨rfl, hbu⟩
       try go_wp2_with fail
       refine hK.out _ _ (zq.trans (hbu.mono zq.size)) (fun zq => ?_)
       clear hK K
       try simp only [Act.put, pz, py, px]
       refine tkH 26 zq ?_
       refine tkH 27 zq ?_
       refine dZ ?_
       go_wp2_with fail
       go_ret
       exact ⟨by rw [uh HF]; try rfl, (uh HB).trans (((uh HE).trans (zq.mono (uh HE).size)).mono (uh HB).size)⟩
      ·
       rw [Bool.true_and] at HF
       refine wZz (fun w' => Below wr.heap.size wr w') (zq.drew) (fun zq => ?_)
       generalize wF.drew = wG at zq ⊢
       refine tkH 0 zq ?_
       refine tkH 1 zq ?_
       refine tkH 2 zq ?_
       refine tkJ 3 (v := ?vd1b3) ?hd1b3 zq ?rd1b3
       case hd1b3 =>
        intro wS hSw
        have qx4 := cZ hSw hbl2 x4
        clear hSw
        exact fZ
       refine tkH 4 zq ?_
       refine tkH 5 zq ?_
       refine tkH 6 zq ?_
       refine tkH 7 zq ?_
       refine tkJ 8 (v := ?vd1b8) ?hd1b8 zq ?rd1b8
       case hd1b8 =>
        intro wS hSw
        have qy5 := cZ hSw hbl2 y5
        clear hSw
        exact fZ
       refine tkH 9 zq ?_
       refine tkH 10 zq ?_
       refine tkH 11 zq ?_
       refine tkH 12 zq ?_
       refine tkH 13 zq ?_
       refine tkJ 14 (v := ?vd1b14) ?hd1b14 zq ?rd1b14
       case hd1b14 =>
        intro wS hSw
        have qy4 := cZ hSw hbl2 y4
        clear hSw
        exact fZ
       refine tkH 15 zq ?_
       refine tkH 16 zq ?_
       refine tkH 17 zq ?_
       refine tkJ 18 (v := ?vd1b18) ?hd1b18 zq ?rd1b18
       case hd1b18 =>
        intro wS hSw
        have qx4 := cZ hSw hbl2 x4
        clear hSw
        exact fZ
       refine tkH 19 zq ?_
       refine tkH 20 zq ?_
       refine tkH 21 zq ?_
       refine tkH 22 zq ?_
       refine tkH 23 zq ?_
       refine tkJ 24 (v := ?vd1b24) ?hd1b24 zq ?rd1b24
       case hd1b24 =>
        intro wS hSw
        have qx4 := cZ hSw hbl2 x4
        clear hSw
        exact fZ
       refine rdH 25 (fun K hK => ?_)
       go_simp
       go_at_call 86
       refine (uh HQ _ zq).mono ?_
       rintro r u ⟨rfl, hbu⟩
       try go_wp2_with fail
       refine hK.out _ _ (zq.trans (hbu.mono zq.size)) (fun zq => ?_)
       clear hK K
       try simp only [Act.put, pz, py, px]
       refine tkH 26 zq ?_
       refine tkH 27 zq ?_
       refine dZ ?_
       go_wp2_with fail
       go_roundw
       case rel => exact ⟨j + 1, by omega, by go_num, uh HF, (uh HE).trans (zq.mono (uh HE).size)⟩
       case measure => simp [intOf]; omega
     have hd : decide ((m : Int) ≤ np.sure) = false := by
      have : np.sure < (m : Int) := by simpa using hgt
      simp
      omega
     rw [hd, Bool.false_and, Bool.false_and] at HF
     clear hd HQ0
     refine wZz (fun w' => Below wr.heap.size wr w') (zq.drew) (fun zq => ?_)
     generalize wF.drew = wG at zq ⊢
     refine tkH 0 zq ?_
     refine tkH 1 zq ?_
     refine tkH 2 zq ?_
     refine tkJ 3 (v := ?vd03) ?hd03 zq ?rd03
     case hd03 =>
      intro wS hSw
      have qx4 := cZ hSw hbl2 x4
      clear hSw
      exact fZ
     refine tkH 4 zq ?_
     refine tkH 5 zq ?_
     refine tkH 6 zq ?_
     refine tkH 7 zq ?_
     refine tkJ 8 (v := ?vd08) ?hd08 zq ?rd08
     case hd08 =>
      intro wS hSw
      have qy5 := cZ hSw hbl2 y5
      clear hSw
      exact fZ
     refine tkH 9 zq ?_
     refine tkH 10 zq ?_
     refine skH 11 zq ?_
     refine skH 12 zq ?_
     refine skH 13 zq ?_
     refine skH 14 zq ?_
     refine skH 15 zq ?_
     refine skH 16 zq ?_
     refine skH 17 zq ?_
     refine skH 18 zq ?_
     refine skH 19 zq ?_
     refine skH 20 zq ?_
     refine skH 21 zq ?_
     refine skH 22 zq ?_
     refine skH 23 zq ?_
     refine skH 24 zq ?_
     refine skH 25 zq ?_
     refine skH 26 zq ?_
     refine tkH 27 zq ?_
     refine dZ ?_
     go_wp2_with fail
     go_ret
     exact ⟨by rw [uh HF]; try rfl, (uh HB).trans (((uh HE).trans (zq.mono (uh HE).size)).mono (uh HB).size)⟩
    ·
     have hlb : cX x j = false := by
      rw [cX, uh HST, uh HCJ, hcd, Bool.not_true, Bool.false_and]
     rw [hlb, Bool.false_and] at HF
     clear hlb
     go_wp2_with fail
     go_ret
     exact ⟨by rw [uh HF]; try rfl, (uh HB).trans (((uh HE).trans (zq.mono (uh HE).size)).mono (uh HB).size)⟩
   ·
    obtain rfl : j = x.chain.ids.length := by omega
    rw [fK] at hF
    have hdl : decide ((x.chain.ids.length : Int) < (x.chain.ids.length : Int)) = false := by simp
    have HF := yh hF
    have HE := yh hE
    clear hF hE
    go_wp2_with fail
    go_ret
    exact ⟨by rw [uh HF]; try rfl, (uh HB).trans ((uh HE).mono (uh HB).size)⟩
 ·
  have hd : (aT x == 0) = false := by simpa using d1
  have hd2 : (aT x != 0) = true := by simpa using d1
  rw [hd, Bool.false_and] at HP
  clear d1
  go_wp2_with fail
  go_ret
  exact ⟨by rw [uh HP]; try rfl, uh HB⟩
theorem kM (cs : List Value) (x : bc) (w : World) (h : ad.aZ.Reads w cs x) (k : Nat) (hk : x.ids.length = k + 1) (hn : x.ids.length ≤ 5) :
  Calls Tryz.prog 194 #[.agg cs.toArray] w fun e w' => e = .returned (.int .i64 (x.ids.getD k 0)) ∧ Below w.heap.size w w' := by
 obtain ⟨a3, d3, rfl, R3⟩ := ba h
 have hlt : k < x.ids.length := by omega
 have hv : x.ids.getD k 0 = x.ids[k] := by simp [List.getD, hlt]
 rw [hv]
 have nb : Below w.heap.size w (w.alloc (.cells #[.int .i64 x.ab, .slice a3 x.ids.length d3] 32)) := (Below.refl _ _).alloc (Nat.le_refl _) _
 have HX : Hid (ar 0 #[.int .i64 x.ab, .slice a3 x.ids.length d3] 32 (w.alloc (.cells #[.int .i64 x.ab, .slice a3 x.ids.length d3] 32)) w.heap.size) := aM (Nat.zero_le _)
 have R := R3.af nb
 obtain ⟨b, off, rfl, hbl⟩ := ad.aD R (by omega)
 have c1 := bF R hlt
 have HB := yh nb
 have hw1 : IntKind.i64.wrap ((k : Int) + 1 - 1) = (k : Int) := by rw [IntKind.wrap_i64]; omega
 have hw2 : IntKind.i64.wrap (k : Int) = (k : Int) := by rw [IntKind.wrap_i64]; omega
 have hki0 : (0 : Int) ≤ (k : Int) := by omega
 have hki : (k : Int) < ((k + 1 : Nat) : Int) := by omega
 have hks : ((k + 1 : Nat) : Int) - 1 = (k : Int) := by omega
 clear hv
 generalize x.ids[k] = z at *
 have HK := yh hk
 clear nb R R3 h hlt hn hk
 go_enter Tryz.func194, Tryz.ntmps194
 go_upto_region 1 with fail
 generalize hWW : w.alloc (.cells #[.int .i64 x.ab, .slice (some ⟨b, off, none⟩) x.ids.length d3] 32) = w1 at *
 have z1 := ar.at (uh HX) 1 _ rfl
 simp only [ga, gb, gc] at z1
 have zl := (uh HX).lt
 clear hWW HX
 have hk := uh HK
 rw [hk] at z1
 clear hk HK
 go_wp2_with fail
 go_ret
 exact ⟨rfl, uh HB⟩
theorem lg (cs : List Value) (x : aN) (k : Nat) (w : World) (h : ad.a8.Reads w cs x) (hok : gJ x) (hk : k < x.nodes.length) (ht : cj x = (k : Int) + 1) :
  Calls Tryz.prog 128 #[.agg cs.toArray] w fun e w' => ∃ an dn, e = .returned (.agg #[.int .i64 x.nodes[k].id, .bool x.nodes[k].up, .int .i64 x.nodes[k].ab, .int .i64 x.nodes[k].ai, .slice an x.nodes[k].writes.length dn, .int .i64 x.nodes[k].sure, .int .i64 x.nodes[k].clean]) ∧ ad.aP.Reads w' [.int .i64 x.nodes[k].id, .bool x.nodes[k].up, .int .i64 x.nodes[k].ab, .int .i64 x.nodes[k].ai, .slice an x.nodes[k].writes.length dn, .int .i64 x.nodes[k].sure, .int .i64 x.nodes[k].clean] x.nodes[k] ∧ Below w.heap.size w w' := by
 obtain ⟨a3, d3, a4, d4, a5, d5, a6, d6, rfl, RC0, RN0, -, -⟩ := aF h
 obtain ⟨b, off, rfl, hbl⟩ := ad.aD RN0 (by omega)
 obtain ⟨row, hcl, hr⟩ := ad.aR RN0 hk
 have hr0 := hr
 obtain ⟨an, dn, rfl, -⟩ := aQ hr
 have nb : Below w.heap.size w ((w.alloc (.cells #[.int .i64 x.now, .int .i64 x.events, .int .i64 x.chain.ab, .slice a3 x.chain.ids.length d3, .slice (some ⟨b, off, none⟩) x.nodes.length d4, .slice a5 x.msgs.length d5, .slice a6 x.ae.length d6] 37)).alloc (.cells #[.int .i64 0, .bool false, .int .i64 0, .int .i64 0, .slice none 0 0, .int .i64 0, .int .i64 0] 79)) := ((Below.refl _ _).alloc (Nat.le_refl _) _).alloc (by simp) _
 have HX : Hid (ar 0 #[.int .i64 x.now, .int .i64 x.events, .int .i64 x.chain.ab, .slice a3 x.chain.ids.length d3, .slice (some ⟨b, off, none⟩) x.nodes.length d4, .slice a5 x.msgs.length d5, .slice a6 x.ae.length d6] 37 ((w.alloc (.cells #[.int .i64 x.now, .int .i64 x.events, .int .i64 x.chain.ab, .slice a3 x.chain.ids.length d3, .slice (some ⟨b, off, none⟩) x.nodes.length d4, .slice a5 x.msgs.length d5, .slice a6 x.ae.length d6] 37)).alloc (.cells #[.int .i64 0, .bool false, .int .i64 0, .int .i64 0, .slice none 0 0, .int .i64 0, .int .i64 0] 79)) w.heap.size) := (aM (Nat.zero_le _)).grow _
 have HY : Hid (ar 0 #[.int .i64 0, .bool false, .int .i64 0, .int .i64 0, .slice none 0 0, .int .i64 0, .int .i64 0] 79 ((w.alloc (.cells #[.int .i64 x.now, .int .i64 x.events, .int .i64 x.chain.ab, .slice a3 x.chain.ids.length d3, .slice (some ⟨b, off, none⟩) x.nodes.length d4, .slice a5 x.msgs.length d5, .slice a6 x.ae.length d6] 37)).alloc (.cells #[.int .i64 0, .bool false, .int .i64 0, .int .i64 0, .slice none 0 0, .int .i64 0, .int .i64 0] 79)) (w.heap.size + 1)) := aX (Nat.zero_le _) (by simp)
 have hz0 : ((w.alloc (.cells #[.int .i64 x.now, .int .i64 x.events, .int .i64 x.chain.ab, .slice a3 x.chain.ids.length d3, .slice (some ⟨b, off, none⟩) x.nodes.length d4, .slice a5 x.msgs.length d5, .slice a6 x.ae.length d6] 37)).alloc (.cells #[.int .i64 0, .bool false, .int .i64 0, .int .i64 0, .slice none 0 0, .int .i64 0, .int .i64 0] 79)).heap.size = w.heap.size + 2 := by simp
 have hl := (bH hok.chain).len
 have HL0 := yh (RC0.af nb)
 have x0 : ((w.alloc (.cells #[.int .i64 x.now, .int .i64 x.events, .int .i64 x.chain.ab, .slice a3 x.chain.ids.length d3, .slice (some ⟨b, off, none⟩) x.nodes.length d4, .slice a5 x.msgs.length d5, .slice a6 x.ae.length d6] 37)).alloc (.cells #[.int .i64 0, .bool false, .int .i64 0, .int .i64 0, .slice none 0 0, .int .i64 0, .int .i64 0] 79)).cell? ⟨b, off + k * 7, none⟩ = some (.int .i64 (x.nodes[k]).id) := (cell_of_heap (nb.block b hbl) _).trans (hcl 0 (by decide))
 have x1 : ((w.alloc (.cells #[.int .i64 x.now, .int .i64 x.events, .int .i64 x.chain.ab, .slice a3 x.chain.ids.length d3, .slice (some ⟨b, off, none⟩) x.nodes.length d4, .slice a5 x.msgs.length d5, .slice a6 x.ae.length d6] 37)).alloc (.cells #[.int .i64 0, .bool false, .int .i64 0, .int .i64 0, .slice none 0 0, .int .i64 0, .int .i64 0] 79)).cell? ⟨b, off + k * 7 + 1, none⟩ = some (.bool (x.nodes[k]).up) := (cell_of_heap (nb.block b hbl) _).trans (hcl 1 (by decide))
 have x2 : ((w.alloc (.cells #[.int .i64 x.now, .int .i64 x.events, .int .i64 x.chain.ab, .slice a3 x.chain.ids.length d3, .slice (some ⟨b, off, none⟩) x.nodes.length d4, .slice a5 x.msgs.length d5, .slice a6 x.ae.length d6] 37)).alloc (.cells #[.int .i64 0, .bool false, .int .i64 0, .int .i64 0, .slice none 0 0, .int .i64 0, .int .i64 0] 79)).cell? ⟨b, off + k * 7 + 2, none⟩ = some (.int .i64 (x.nodes[k]).ab) := (cell_of_heap (nb.block b hbl) _).trans (hcl 2 (by decide))
 have x3 : ((w.alloc (.cells #[.int .i64 x.now, .int .i64 x.events, .int .i64 x.chain.ab, .slice a3 x.chain.ids.length d3, .slice (some ⟨b, off, none⟩) x.nodes.length d4, .slice a5 x.msgs.length d5, .slice a6 x.ae.length d6] 37)).alloc (.cells #[.int .i64 0, .bool false, .int .i64 0, .int .i64 0, .slice none 0 0, .int .i64 0, .int .i64 0] 79)).cell? ⟨b, off + k * 7 + 3, none⟩ = some (.int .i64 (x.nodes[k]).ai) := (cell_of_heap (nb.block b hbl) _).trans (hcl 3 (by decide))
 have x4 : ((w.alloc (.cells #[.int .i64 x.now, .int .i64 x.events, .int .i64 x.chain.ab, .slice a3 x.chain.ids.length d3, .slice (some ⟨b, off, none⟩) x.nodes.length d4, .slice a5 x.msgs.length d5, .slice a6 x.ae.length d6] 37)).alloc (.cells #[.int .i64 0, .bool false, .int .i64 0, .int .i64 0, .slice none 0 0, .int .i64 0, .int .i64 0] 79)).cell? ⟨b, off + k * 7 + 4, none⟩ = some (.slice an (x.nodes[k]).writes.length dn) := (cell_of_heap (nb.block b hbl) _).trans (hcl 4 (by decide))
 have x5 : ((w.alloc (.cells #[.int .i64 x.now, .int .i64 x.events, .int .i64 x.chain.ab, .slice a3 x.chain.ids.length d3, .slice (some ⟨b, off, none⟩) x.nodes.length d4, .slice a5 x.msgs.length d5, .slice a6 x.ae.length d6] 37)).alloc (.cells #[.int .i64 0, .bool false, .int .i64 0, .int .i64 0, .slice none 0 0, .int .i64 0, .int .i64 0] 79)).cell? ⟨b, off + k * 7 + 5, none⟩ = some (.int .i64 (x.nodes[k]).sure) := (cell_of_heap (nb.block b hbl) _).trans (hcl 5 (by decide))
 have x6 : ((w.alloc (.cells #[.int .i64 x.now, .int .i64 x.events, .int .i64 x.chain.ab, .slice a3 x.chain.ids.length d3, .slice (some ⟨b, off, none⟩) x.nodes.length d4, .slice a5 x.msgs.length d5, .slice a6 x.ae.length d6] 37)).alloc (.cells #[.int .i64 0, .bool false, .int .i64 0, .int .i64 0, .slice none 0 0, .int .i64 0, .int .i64 0] 79)).cell? ⟨b, off + k * 7 + 6, none⟩ = some (.int .i64 (x.nodes[k]).clean) := (cell_of_heap (nb.block b hbl) _).trans (hcl 6 (by decide))
 have hbl2 : b < ((w.alloc (.cells #[.int .i64 x.now, .int .i64 x.events, .int .i64 x.chain.ab, .slice a3 x.chain.ids.length d3, .slice (some ⟨b, off, none⟩) x.nodes.length d4, .slice a5 x.msgs.length d5, .slice a6 x.ae.length d6] 37)).alloc (.cells #[.int .i64 0, .bool false, .int .i64 0, .int .i64 0, .slice none 0 0, .int .i64 0, .int .i64 0] 79)).heap.size := by omega
 have HN := yh hr0
 have hw1 : IntKind.i64.wrap (k : Int) = (k : Int) := by
  have := hok.some
  rw [IntKind.wrap_i64]
  omega
 have hki : (k : Int) < (x.nodes.length : Int) := by omega
 have hki0 : (0 : Int) ≤ (k : Int) := by omega
 have HB := yh nb
 clear hcl hr hr0 RC0 RN0 h hok nb
 generalize hnn : x.nodes[k] = n at *
 clear hnn
 go_enter Tryz.func128, Tryz.ntmps128
 go_upto_region 1 with fail
 generalize ((w.alloc (.cells #[.int .i64 x.now, .int .i64 x.events, .int .i64 x.chain.ab, .slice a3 x.chain.ids.length d3, .slice (some ⟨b, off, none⟩) x.nodes.length d4, .slice a5 x.msgs.length d5, .slice a6 x.ae.length d6] 37)).alloc (.cells #[.int .i64 0, .bool false, .int .i64 0, .int .i64 0, .slice none 0 0, .int .i64 0, .int .i64 0] 79)) = W0 at *
 have HL := yh (kM _ x.chain W0.drew ((uh HL0).drew 1) (x.chain.ids.length - 1) (by omega) hl.2)
 rw [show x.chain.ids.getD (x.chain.ids.length - 1) 0 = (k : Int) + 1 from ht] at HL
 have hx := uh HX
 have hxl := hx.lt
 have z2 := ar.at hx 2 _ rfl
 have z3 := ar.at hx 3 _ rfl
 have z4 := ar.at hx 4 _ rfl
 simp only [ga, gb, gc] at z2 z3 z4
 have HYD := yh (uh HY).drew
 have HBD := yh (uh HB).drew
 clear hx HX HY HB HL0 ht hl
 refine wZz (fun w' => Ext (fun q => w.heap.size < q) W0 w') ((Ext.refl _ _).drew 1) (fun zq => ?_)
 generalize W0.drew = wD at zq HL HYD HBD ⊢
 refine tkH 0 zq ?_
 refine tkJ 1 (v := ?vc1) ?hc1 zq ?rc1
 case hc1 =>
  intro wS hSw
  have q4 := (cell_of_heap (hSw.block w.heap.size hxl (fun e => Nat.lt_irrefl _ e)) 4).trans z4
  clear hSw
  exact fZ
 refine tkH 2 zq ?_
 refine tkJ 3 (v := ?vc3) ?hc3 zq ?rc3
 case hc3 =>
  intro wS hSw
  have q2 := (cell_of_heap (hSw.block w.heap.size hxl (fun e => Nat.lt_irrefl _ e)) 2).trans z2
  have q3 := (cell_of_heap (hSw.block w.heap.size hxl (fun e => Nat.lt_irrefl _ e)) 3).trans z3
  clear hSw
  exact fZ
 refine rdH 4 (fun K hK => ?_)
 go_simp
 go_at_call 194
 refine (uh HL).mono ?_
 rintro e w3 ⟨rfl, hb3⟩
 have hy3 := (uh HYD).au hb3
 have r0 := ar.at hy3 0 _ rfl
 have r1 := ar.at hy3 1 _ rfl
 have r2 := ar.at hy3 2 _ rfl
 have r3 := ar.at hy3 3 _ rfl
 have r4 := ar.at hy3 4 _ rfl
 have r5 := ar.at hy3 5 _ rfl
 have r6 := ar.at hy3 6 _ rfl
 simp only [ga, gb, gc] at r0 r1 r2 r3 r4 r5 r6
 have rf := ar.soft hy3
 have rl := hy3.lt
 try go_wp2_with fail
 refine hK.out _ _ (zq.trans (bf hb3 _)) (fun zq => ?_)
 clear hK K
 try simp only [Act.put, pz, py, px]
 refine tkH 5 zq ?_
 refine tkH 6 zq ?_
 refine tkJ 7 (v := ?vc7) ?hc7 zq ?rc7
 case hc7 =>
  intro wS hSw
  have q0 : wS.cell? ⟨b, off + k * 7, none⟩ = some (.int .i64 n.id) := (cell_of_heap (hSw.block b hbl2 (fun e => by omega)) (off + k * 7)).trans x0
  have q1 : wS.cell? ⟨b, off + k * 7 + 1, none⟩ = some (.bool n.up) := (cell_of_heap (hSw.block b hbl2 (fun e => by omega)) (off + k * 7 + 1)).trans x1
  have q2 : wS.cell? ⟨b, off + k * 7 + 2, none⟩ = some (.int .i64 n.ab) := (cell_of_heap (hSw.block b hbl2 (fun e => by omega)) (off + k * 7 + 2)).trans x2
  have q3 : wS.cell? ⟨b, off + k * 7 + 3, none⟩ = some (.int .i64 n.ai) := (cell_of_heap (hSw.block b hbl2 (fun e => by omega)) (off + k * 7 + 3)).trans x3
  have q4 : wS.cell? ⟨b, off + k * 7 + 4, none⟩ = some (.slice an n.writes.length dn) := (cell_of_heap (hSw.block b hbl2 (fun e => by omega)) (off + k * 7 + 4)).trans x4
  have q5 : wS.cell? ⟨b, off + k * 7 + 5, none⟩ = some (.int .i64 n.sure) := (cell_of_heap (hSw.block b hbl2 (fun e => by omega)) (off + k * 7 + 5)).trans x5
  have q6 : wS.cell? ⟨b, off + k * 7 + 6, none⟩ = some (.int .i64 n.clean) := (cell_of_heap (hSw.block b hbl2 (fun e => by omega)) (off + k * 7 + 6)).trans x6
  clear hSw
  exact fZ
 refine rdH 8 (fun K hK => ?_)
 go_simp
 refine hK.out _ _ (Ext.setCell (Ext.setCell (Ext.setCell (Ext.setCell (Ext.setCell (Ext.setCell (Ext.setCell zq ⟨w.heap.size + 1, 0, none⟩ (.int .i64 n.id) (Nat.lt_succ_self _)) ⟨w.heap.size + 1, 1, none⟩ (.bool n.up) (Nat.lt_succ_self _)) ⟨w.heap.size + 1, 2, none⟩ (.int .i64 n.ab) (Nat.lt_succ_self _)) ⟨w.heap.size + 1, 3, none⟩ (.int .i64 n.ai) (Nat.lt_succ_self _)) ⟨w.heap.size + 1, 4, none⟩ (.slice an n.writes.length dn) (Nat.lt_succ_self _)) ⟨w.heap.size + 1, 5, none⟩ (.int .i64 n.sure) (Nat.lt_succ_self _)) ⟨w.heap.size + 1, 6, none⟩ (.int .i64 n.clean) (Nat.lt_succ_self _)) (fun zq => ?_)
 clear hK K
 try simp only [Act.put, pz, py, px]
 refine dZ ?_
 have hy9 := (ar.set (ar.set (ar.set (ar.set (ar.set (ar.set (ar.set hy3 0 (.int .i64 n.id)) 1 (.bool n.up)) 2 (.int .i64 n.ab)) 3 (.int .i64 n.ai)) 4 (.slice an n.writes.length dn)) 5 (.int .i64 n.sure)) 6 (.int .i64 n.clean))
 simp only [List.setIfInBounds_toArray, List.set_cons_zero, List.set_cons_succ] at hy9
 have HB9 := yh (bD ((uh HBD).trans (hb3.mono (uh HBD).size)) (w.heap.size + 1) 0 [.int .i64 n.id, .bool n.up, .int .i64 n.ab, .int .i64 n.ai, .slice an n.writes.length dn, .int .i64 n.sure, .int .i64 n.clean] (by omega))
 clear r0 r1 r2 r3 r4 r5 r6
 have r0 := ar.at hy9 0 _ rfl
 have r1 := ar.at hy9 1 _ rfl
 have r2 := ar.at hy9 2 _ rfl
 have r3 := ar.at hy9 3 _ rfl
 have r4 := ar.at hy9 4 _ rfl
 have r5 := ar.at hy9 5 _ rfl
 have r6 := ar.at hy9 6 _ rfl
 simp only [ga, gb, gc] at r0 r1 r2 r3 r4 r5 r6
 clear zq hy3 hy9 hb3 HL HYD HBD x0 x1 x2 x3 x4 x5 x6
 go_wp2_with fail
 refine bodyPost_ret (v := .agg #[.int .i64 n.id, .bool n.up, .int .i64 n.ab, .int .i64 n.ai, .slice an n.writes.length dn, .int .i64 n.sure, .int .i64 n.clean]) (by simp [results, Tryz.results128, go_sem, r0, r1, r2, r3, r4, r5, r6]) rfl ?_
 exact ⟨an, dn, rfl, (uh HN).af (uh HB9), uh HB9⟩
theorem fy (b off cap b2 off2 cap2 : Nat) (xs ys : List ak) (w : World) (hl : xs.length = ys.length) (h : (ad.sl ad.ag).Reads w [.slice (some ⟨b, off, none⟩) xs.length cap] xs) (h2 : (ad.sl ad.ag).Reads w [.slice (some ⟨b2, off2, none⟩) ys.length cap2] ys) (hbl : b < w.heap.size) (hbl2 : b2 < w.heap.size) :
  Calls Tryz.prog 251 #[.slice (some ⟨b, off, none⟩) xs.length cap, .slice (some ⟨b2, off2, none⟩) xs.length cap2, .func (.func 252) #[] #[]] w fun e w' => e = .returned (.bool (bj xs ys)) ∧ Below w.heap.size w w' := by
 have hbig := h.cK
 have H := yh h
 have H2 := yh h2
 have HL := yh hl
 clear h h2 hl
 go_enter Tryz.func251, Tryz.ntmps251
 go_wp2_with fail
 go_loopw [17] (fun i wr => ∃ k : Nat, k ≤ xs.length ∧ i = .int .i64 k ∧ (∀ j (h1 : j < xs.length) (h2 : j < ys.length), j < k → aU xs[j] ys[j] = true) ∧ Below w.heap.size w wr) (fun i _ => xs.length - (intOf i).toNat)
 case atStart => exact ⟨0, Nat.zero_le _, rfl, fun j _ _ hj => by omega, Below.refl _ _⟩
 case round =>
  obtain ⟨k, hk, rfl, hq, hB⟩ := hrel
  by_cases hlt : k < xs.length
  ·
   have hlt2 : k < ys.length := by have := uh HL; omega
   obtain ⟨row, hc, hr⟩ := ad.aR (uh H) hlt
   obtain ⟨rowz, hcz, hrz⟩ := ad.aR (uh H2) hlt2
   replace hr := hr.af hB
   replace hrz := hrz.af hB
   have hr2 := hr
   obtain ⟨a2, d2, rfl, -⟩ := aI hr2
   have hrz2 := hrz
   obtain ⟨a2z, d2z, rfl, -⟩ := aI hrz2
   have c0 : wr.cell? ⟨b, off + k * 5, none⟩ = some (.int .i64 (xs[k]).kind) := (hB.cell (p := ⟨b, off + k * 5, none⟩) hbl).trans (hc 0 (by decide))
   have c1 : wr.cell? ⟨b, off + k * 5 + 1, none⟩ = some (.int .i64 (xs[k]).id) := (hB.cell (p := ⟨b, off + k * 5 + 1, none⟩) hbl).trans (hc 1 (by decide))
   have c2 : wr.cell? ⟨b, off + k * 5 + 2, none⟩ = some (.slice a2 (xs[k]).vec.length d2) := (hB.cell (p := ⟨b, off + k * 5 + 2, none⟩) hbl).trans (hc 2 (by decide))
   have c3 : wr.cell? ⟨b, off + k * 5 + 3, none⟩ = some (.int .i64 (xs[k]).aa) := (hB.cell (p := ⟨b, off + k * 5 + 3, none⟩) hbl).trans (hc 3 (by decide))
   have c4 : wr.cell? ⟨b, off + k * 5 + 4, none⟩ = some (.int .i64 (xs[k]).seq) := (hB.cell (p := ⟨b, off + k * 5 + 4, none⟩) hbl).trans (hc 4 (by decide))
   have c0z : wr.cell? ⟨b2, off2 + k * 5, none⟩ = some (.int .i64 (ys[k]).kind) := (hB.cell (p := ⟨b2, off2 + k * 5, none⟩) hbl2).trans (hcz 0 (by decide))
   have c1z : wr.cell? ⟨b2, off2 + k * 5 + 1, none⟩ = some (.int .i64 (ys[k]).id) := (hB.cell (p := ⟨b2, off2 + k * 5 + 1, none⟩) hbl2).trans (hcz 1 (by decide))
   have c2z : wr.cell? ⟨b2, off2 + k * 5 + 2, none⟩ = some (.slice a2z (ys[k]).vec.length d2z) := (hB.cell (p := ⟨b2, off2 + k * 5 + 2, none⟩) hbl2).trans (hcz 2 (by decide))
   have c3z : wr.cell? ⟨b2, off2 + k * 5 + 3, none⟩ = some (.int .i64 (ys[k]).aa) := (hB.cell (p := ⟨b2, off2 + k * 5 + 3, none⟩) hbl2).trans (hcz 3 (by decide))
   have c4z : wr.cell? ⟨b2, off2 + k * 5 + 4, none⟩ = some (.int .i64 (ys[k]).seq) := (hB.cell (p := ⟨b2, off2 + k * 5 + 4, none⟩) hbl2).trans (hcz 4 (by decide))
   have l1 : b < wr.heap.size := Nat.lt_of_lt_of_le hbl hB.size
   have l2 : b2 < wr.heap.size := Nat.lt_of_lt_of_le hbl2 hB.size
   have HQ := yh hq
   have HB := yh hB
   have HR := yh hr
   have HRZ := yh hrz
   have HX : Hid (aU xs[k] ys[k] = false → bj xs ys = false) := gf k hlt hlt2
   have HY : Hid (aU xs[k] ys[k] = true → ∀ j (h1 : j < xs.length) (h2 : j < ys.length), j < k + 1 → aU xs[j] ys[j] = true) := by
    intro h j h1 h2 hj
    by_cases hjk : j < k
    ·
     exact uh HQ j h1 h2 hjk
    obtain rfl : j = k := by omega
    exact h
   clear hq hB hr hrz hc hcz HQ
   generalize hx : xs[k] = x at *
   generalize hy : ys[k] = y at *
   clear hx hy
   have nb : Below wr.heap.size wr ((wr.alloc (.cells #[.int .i64 x.kind, .int .i64 x.id, .slice a2 x.vec.length d2, .int .i64 x.aa, .int .i64 x.seq] 142)).alloc (.cells #[.int .i64 y.kind, .int .i64 y.id, .slice a2z y.vec.length d2z, .int .i64 y.aa, .int .i64 y.seq] 142)) := ((Below.refl _ _).alloc (Nat.le_refl _) _).alloc (by simp) _
   have L := yh (fT _ _ x y _ ((uh HR).af nb) ((uh HRZ).af nb))
   replace HB := bZ HB nb
   clear nb HR HRZ
   go_wp2_with fail
   refine (uh L).mono ?_
   rintro e w3 ⟨rfl, hb⟩
   replace HB := bZ HB hb
   clear hb L c0 c1 c2 c3 c4 c0z c1z c2z c3z c4z
   cases hs : aU x y with
   | true =>
    have HZ := yh (uh HY hs)
    clear hs HX HY
    go_wp2_with fail
    go_roundw
    case rel => exact ⟨k + 1, by omega, by go_num, uh HZ, uh HB⟩
    case measure => simp [intOf]; omega
   | false =>
    have HZ := yh (uh HX hs)
    clear hs HX HY
    go_wp2_with fail
    go_ret
    exact ⟨by rw [uh HZ]; rfl, uh HB⟩
  have HZ := yh (eY (uh HL) fun j h1 h2 => hq j h1 h2 (by omega))
  have HB := yh hB
  clear hq hB
  go_wp2_with fail
  go_ret
  exact ⟨by rw [uh HZ]; rfl, uh HB⟩
theorem fB (ao ao2 : Option Addr) (n m cap cap2 : Nat) (f : Value) (w : World) (h : n ≠ m) :
  Calls Tryz.prog 251 #[.slice ao n cap, .slice ao2 m cap2, f] w fun e w' => e = .returned (.bool false) ∧ Below w.heap.size w w' := by
 have hd : ((n : Int) != (m : Int)) = true := by rw [bne_iff_ne]; omega
 go_enter Tryz.func251, Tryz.ntmps251
 go_wp2_with fail
 go_ret
 exact ⟨rfl, Below.refl _ _⟩
theorem eS (ao ao2 : Option Addr) (cap cap2 : Nat) (f : Value) (w : World) :
  Calls Tryz.prog 251 #[.slice ao 0 cap, .slice ao2 0 cap2, f] w fun e w' => e = .returned (.bool true) ∧ Below w.heap.size w w' := by
 go_enter Tryz.func251, Tryz.ntmps251
 go_wp2_with fail
 refine wp_loop_rounds 1 ?_
 rw [rounds_succ]
 go_wp2_with fail
 go_ret
 exact ⟨rfl, Below.refl _ _⟩
theorem kq (v v2 : Value) (xs ys : List ak) (w : World) (h : (ad.sl ad.ag).Reads w [v] xs) (h2 : (ad.sl ad.ag).Reads w [v2] ys) :
  Calls Tryz.prog 211 #[v, v2] w fun e w' => e = .returned (.bool (bj xs ys)) ∧ Below w.heap.size w w' := by
 obtain ⟨ao, cap, rfl⟩ := aB h
 obtain ⟨ao2, cap2, rfl⟩ := aB h2
 have L : Hid (Calls Tryz.prog 251 #[.slice ao xs.length cap, .slice ao2 ys.length cap2, .func (.func 252) #[] #[]] w fun e w' => e = .returned (.bool (bj xs ys)) ∧ Below w.heap.size w w') := by
  show Calls Tryz.prog 251 #[.slice ao xs.length cap, .slice ao2 ys.length cap2, .func (.func 252) #[] #[]] w fun e w' => e = .returned (.bool (bj xs ys)) ∧ Below w.heap.size w w'
  by_cases hl : xs.length = ys.length
  ·
   by_cases hp : 0 < xs.length
   ·
    obtain ⟨b, off, rfl, hbl⟩ := ad.aD h hp
    obtain ⟨b2, off2, rfl, hbl2⟩ := ad.aD h2 (by omega)
    rw [← hl]
    exact fy b off cap b2 off2 cap2 xs ys w hl h (by rw [← hl] at h2 ⊢; exact h2) hbl hbl2
   obtain rfl : xs = [] := List.eq_nil_of_length_eq_zero (by omega)
   obtain rfl : ys = [] := List.eq_nil_of_length_eq_zero (by simpa using hl.symm)
   exact eS ao ao2 cap cap2 _ w
  rw [fo hl]
  exact fB ao ao2 _ _ cap cap2 _ w hl
 clear h h2
 go_enter Tryz.func211, Tryz.ntmps211
 go_wp2_with fail
 refine (uh L).mono ?_
 rintro e w1 ⟨rfl, hb⟩
 have HB := yh hb
 clear hb L
 go_wp2_with fail
 go_ret
 exact ⟨rfl, uh HB⟩
theorem hU (cs ds : List Value) (n p : bn) (w : World) (h : ad.aP.Reads w cs n) (hp : ad.aP.Reads w ds p) (hps : 0 ≤ p.sure ∧ p.sure ≤ (p.writes.length : Int)) (hp40 : p.writes.length ≤ 40) :
  Calls Tryz.prog 152 #[.agg cs.toArray, .agg ds.toArray] w fun r w' => r = .returned (.bool (dd n p)) ∧ Below w.heap.size w w' := by
 obtain ⟨an, dn, rfl, RW⟩ := aQ h
 obtain ⟨ap, dp, rfl, RP⟩ := aQ hp
 have nb : Below w.heap.size w ((w.alloc (.cells #[.int .i64 n.id, .bool n.up, .int .i64 n.ab, .int .i64 n.ai, .slice an n.writes.length dn, .int .i64 n.sure, .int .i64 n.clean] 79)).alloc (.cells #[.int .i64 p.id, .bool p.up, .int .i64 p.ab, .int .i64 p.ai, .slice ap p.writes.length dp, .int .i64 p.sure, .int .i64 p.clean] 79)) := ((Below.refl _ _).alloc (Nat.le_refl _) _).alloc (by simp) _
 have HN : Hid (ar 0 #[.int .i64 n.id, .bool n.up, .int .i64 n.ab, .int .i64 n.ai, .slice an n.writes.length dn, .int .i64 n.sure, .int .i64 n.clean] 79 ((w.alloc (.cells #[.int .i64 n.id, .bool n.up, .int .i64 n.ab, .int .i64 n.ai, .slice an n.writes.length dn, .int .i64 n.sure, .int .i64 n.clean] 79)).alloc (.cells #[.int .i64 p.id, .bool p.up, .int .i64 p.ab, .int .i64 p.ai, .slice ap p.writes.length dp, .int .i64 p.sure, .int .i64 p.clean] 79)) w.heap.size) := (aM (Nat.zero_le _)).grow _
 have HP : Hid (ar 0 #[.int .i64 p.id, .bool p.up, .int .i64 p.ab, .int .i64 p.ai, .slice ap p.writes.length dp, .int .i64 p.sure, .int .i64 p.clean] 79 ((w.alloc (.cells #[.int .i64 n.id, .bool n.up, .int .i64 n.ab, .int .i64 n.ai, .slice an n.writes.length dn, .int .i64 n.sure, .int .i64 n.clean] 79)).alloc (.cells #[.int .i64 p.id, .bool p.up, .int .i64 p.ab, .int .i64 p.ai, .slice ap p.writes.length dp, .int .i64 p.sure, .int .i64 p.clean] 79)) (w.heap.size + 1)) := aX (Nat.zero_le _) (by simp)
 have HB := yh nb
 have HF : Hid (dd n p = (decide ((n.writes.length : Int) ≤ p.sure) && bj n.writes (p.writes.take n.writes.length))) := rfl
 have hpc := RP.cap.2
 have HS0 : Hid (n.writes.length ≤ p.writes.length → ∀ V, Below ((w.alloc (.cells #[.int .i64 n.id, .bool n.up, .int .i64 n.ab, .int .i64 n.ai, .slice an n.writes.length dn, .int .i64 n.sure, .int .i64 n.clean] 79)).alloc (.cells #[.int .i64 p.id, .bool p.up, .int .i64 p.ab, .int .i64 p.ai, .slice ap p.writes.length dp, .int .i64 p.sure, .int .i64 p.clean] 79)).heap.size ((w.alloc (.cells #[.int .i64 n.id, .bool n.up, .int .i64 n.ab, .int .i64 n.ai, .slice an n.writes.length dn, .int .i64 n.sure, .int .i64 n.clean] 79)).alloc (.cells #[.int .i64 p.id, .bool p.up, .int .i64 p.ab, .int .i64 p.ai, .slice ap p.writes.length dp, .int .i64 p.sure, .int .i64 p.clean] 79)) V → Calls Tryz.prog 211 #[.slice an n.writes.length dn, .slice ap n.writes.length dp] V fun r w' => r = .returned (.bool (bj n.writes (p.writes.take n.writes.length))) ∧ Below V.heap.size V w') := fun hl V hV => kq _ _ n.writes (p.writes.take n.writes.length) V ((RW.af nb).af hV) ((dM (RP.af nb).cA n.writes.length hl).reads.af hV)
 clear nb h hp RW RP
 generalize hml : n.writes.length = m at *
 generalize bj n.writes (p.writes.take m) = sb at *
 generalize dd n p = R at *
 go_enter Tryz.func152, Tryz.ntmps152
 go_upto_region 1 with fail
 generalize ((w.alloc (.cells #[.int .i64 n.id, .bool n.up, .int .i64 n.ab, .int .i64 n.ai, .slice an m dn, .int .i64 n.sure, .int .i64 n.clean] 79)).alloc (.cells #[.int .i64 p.id, .bool p.up, .int .i64 p.ab, .int .i64 p.ai, .slice ap p.writes.length dp, .int .i64 p.sure, .int .i64 p.clean] 79)) = W1 at *
 have z4 := ar.at (uh HN) 4 _ rfl
 simp only [ga, gb, gc] at z4
 have zl := (uh HN).lt
 go_upto_region 2 with fail
 clear z4 zl
 cases hd : decide ((m : Int) ≤ p.sure)
 ·
  rw [hd, Bool.false_and] at HF
  refine wZz (fun w' => Below W1.heap.size W1 w') ((Below.refl _ _).drew) (fun zq => ?_)
  generalize W1.drew = wD at zq ⊢
  refine tkH 0 zq ?_
  refine tkH 1 zq ?_
  refine tkJ 2 (v := ?vk02) ?hk02 zq ?rk02
  case hk02 =>
   intro wS hSw
   have bS := (uh HP).au hSw
   have q5 := ar.at bS 5 _ rfl
   simp only [ga, gb, gc] at q5
   clear bS hSw
   exact fZ
  refine tkH 3 zq ?_
  refine tkH 4 zq ?_
  refine skH 5 zq ?_
  refine skH 6 zq ?_
  refine skH 7 zq ?_
  refine skH 8 zq ?_
  refine skH 9 zq ?_
  refine skH 10 zq ?_
  refine skH 11 zq ?_
  refine tkH 12 zq ?_
  refine tkH 13 zq ?_
  refine dZ ?_
  go_wp2_with fail
  go_ret
  exact ⟨by rw [uh HF]; try rfl, (uh HB).trans (zq.mono (uh HB).size)⟩
 ·
  have hmw : m ≤ p.writes.length := by
   have : (m : Int) ≤ p.sure := by simpa using hd
   omega
  have hmd : m ≤ dp := Nat.le_trans hmw hpc
  have hm40 : m ≤ 40 := by omega
  have HS := yh (uh HS0 hmw)
  rw [hd, Bool.true_and] at HF
  clear HS0
  refine wZz (fun w' => Below W1.heap.size W1 w') ((Below.refl _ _).drew) (fun zq => ?_)
  generalize W1.drew = wD at zq ⊢
  refine tkH 0 zq ?_
  refine tkH 1 zq ?_
  refine tkJ 2 (v := ?vk12) ?hk12 zq ?rk12
  case hk12 =>
   intro wS hSw
   have bS := (uh HP).au hSw
   have q5 := ar.at bS 5 _ rfl
   simp only [ga, gb, gc] at q5
   clear bS hSw
   exact fZ
  refine tkH 3 zq ?_
  refine tkH 4 zq ?_
  refine tkH 5 zq ?_
  refine tkJ 6 (v := ?vk16) ?hk16 zq ?rk16
  case hk16 =>
   intro wS hSw
   have bS := (uh HN).au hSw
   have q4 := ar.at bS 4 _ rfl
   simp only [ga, gb, gc] at q4
   clear bS hSw
   exact fZ
  refine tkH 7 zq ?_
  refine tkJ 8 (v := ?vk18) ?hk18 zq ?rk18
  case hk18 =>
   intro wS hSw
   have bS := (uh HP).au hSw
   have q4 := ar.at bS 4 _ rfl
   simp only [ga, gb, gc] at q4
   clear bS hSw
   exact fZ
  refine tkH 9 zq ?_
  refine tkH 10 zq ?_
  refine rdH 11 (fun K hK => ?_)
  go_simp
  go_at_call 211
  refine (uh HS _ zq).mono ?_
  rintro r u ⟨rfl, hbu⟩
  try go_wp2_with fail
  refine hK.out _ _ (zq.trans (hbu.mono zq.size)) (fun zq => ?_)
  clear hK K
  try simp only [Act.put, pz, py, px]
  refine tkH 12 zq ?_
  refine tkH 13 zq ?_
  refine dZ ?_
  go_wp2_with fail
  go_ret
  exact ⟨by rw [uh HF]; try rfl, (uh HB).trans (zq.mono (uh HB).size)⟩
theorem jC (cs : List Value) (x : aN) (k : Nat) (w : World) (h : ad.a8.Reads w cs x) (hok : cS x) (hk : k < x.nodes.length) (ht : cj x = (k : Int) + 1) :
  Calls Tryz.prog 87 #[.agg cs.toArray] w fun r w' => r = .returned (.bool (cE x)) ∧ Below w.heap.size w w' := by
 obtain ⟨a3, d3, a4, d4, a5, d5, a6, d6, rfl, RC, RN, -, -⟩ := aF h
 obtain ⟨_, _, hq, RI⟩ := ba RC
 simp only [List.cons.injEq, Value.slice.injEq, and_true, true_and] at hq
 obtain ⟨rfl, rfl⟩ := hq
 have hl := (bH hok.chain).len
 obtain ⟨bi, oi, rfl, hbi⟩ := ad.aD RI (by omega)
 obtain ⟨b, off, rfl, hbl⟩ := ad.aD RN (by omega)
 have nb : Below w.heap.size w (w.alloc (.cells #[.int .i64 x.now, .int .i64 x.events, .int .i64 x.chain.ab, .slice (some ⟨bi, oi, none⟩) x.chain.ids.length d3, .slice (some ⟨b, off, none⟩) x.nodes.length d4, .slice a5 x.msgs.length d5, .slice a6 x.ae.length d6] 37)) := (Below.refl _ _).alloc (Nat.le_refl _) _
 have HX : Hid (ar 0 #[.int .i64 x.now, .int .i64 x.events, .int .i64 x.chain.ab, .slice (some ⟨bi, oi, none⟩) x.chain.ids.length d3, .slice (some ⟨b, off, none⟩) x.nodes.length d4, .slice a5 x.msgs.length d5, .slice a6 x.ae.length d6] 37 (w.alloc (.cells #[.int .i64 x.now, .int .i64 x.events, .int .i64 x.chain.ab, .slice (some ⟨bi, oi, none⟩) x.chain.ids.length d3, .slice (some ⟨b, off, none⟩) x.nodes.length d4, .slice a5 x.msgs.length d5, .slice a6 x.ae.length d6] 37)) w.heap.size) := aM (Nat.zero_le _)
 have HT := yh (lg _ x k _ (h.af nb) hok.mid hk ht)
 have HRI := yh (RI.af nb)
 have HRN := yh (RN.af nb)
 have HB := yh nb
 have HST : Hid ((cR x (cj x)).sure = x.nodes[k].sure) := by show (cR x (cj x)).sure = _; rw [ht, dY hk]
 have HF : Hid (cE x = dG x 0 (x.chain.ids.length - 0)) := rfl
 have HI := yh hok.ids
 have HNO : Hid (∀ k (hk : k < x.nodes.length), aC x.nodes[k] = 0) := fun k hk => (hok.nodes k hk).1
 have hn5 := hok.some.2
 have hbi0 : bi < (w.alloc (.cells #[.int .i64 x.now, .int .i64 x.events, .int .i64 x.chain.ab, .slice (some ⟨bi, oi, none⟩) x.chain.ids.length d3, .slice (some ⟨b, off, none⟩) x.nodes.length d4, .slice a5 x.msgs.length d5, .slice a6 x.ae.length d6] 37)).heap.size := Nat.lt_of_lt_of_le hbi nb.size
 have hbl0 : b < (w.alloc (.cells #[.int .i64 x.now, .int .i64 x.events, .int .i64 x.chain.ab, .slice (some ⟨bi, oi, none⟩) x.chain.ids.length d3, .slice (some ⟨b, off, none⟩) x.nodes.length d4, .slice a5 x.msgs.length d5, .slice a6 x.ae.length d6] 37)).heap.size := Nat.lt_of_lt_of_le hbl nb.size
 clear nb h RC RI RN hok hbi hbl
 generalize cE x = R at *
 go_enter Tryz.func87, Tryz.ntmps87
 go_upto_region 1 with fail
 generalize (w.alloc (.cells #[.int .i64 x.now, .int .i64 x.events, .int .i64 x.chain.ab, .slice (some ⟨bi, oi, none⟩) x.chain.ids.length d3, .slice (some ⟨b, off, none⟩) x.nodes.length d4, .slice a5 x.msgs.length d5, .slice a6 x.ae.length d6] 37)) = W0 at *
 have z0 := ar.at (uh HX) 0 _ rfl
 have z1 := ar.at (uh HX) 1 _ rfl
 have z2 := ar.at (uh HX) 2 _ rfl
 have z3 := ar.at (uh HX) 3 _ rfl
 have z4 := ar.at (uh HX) 4 _ rfl
 have z5 := ar.at (uh HX) 5 _ rfl
 have z6 := ar.at (uh HX) 6 _ rfl
 simp only [ga, gb, gc] at z0 z1 z2 z3 z4 z5 z6
 have zl := (uh HX).lt
 go_wp2_with fail
 refine (uh HT).mono ?_
 rintro r wa ⟨at', dt', rfl, RT, hb⟩
 generalize hnt : x.nodes[k] = tl at *
 have hfl : ∀ w : World, (Instr.field 79 (.agg #[.int .i64 tl.id, .bool tl.up, .int .i64 tl.ab, .int .i64 tl.ai, .slice at' tl.writes.length dt', .int .i64 tl.sure, .int .i64 tl.clean]) 5).run Tryz.prog w = .ok (.int .i64 tl.sure) w := fun _ => by kernel_rfl
 have hWA : Below W0.heap.size W0 wa := hb
 clear z0 z1 z2 z3 z4 z5 z6 zl HT RT
 have z3 := ar.at ((uh HX).au hb) 3 _ rfl
 simp only [ga, gb, gc] at z3
 have zl := ((uh HX).au hb).lt
 go_wp2_with fail
 clear z3 zl hfl
 generalize tl.sure = st at *
 have HWA := yh hWA
 clear hb hWA
 go_loopw [14] (fun i wr => ∃ j : Nat, j ≤ x.chain.ids.length ∧ i = .int .i64 j ∧ R = dG x j (x.chain.ids.length - j) ∧ Below W0.heap.size W0 wr) (fun i _ => x.chain.ids.length - (intOf i).toNat)
 case atStart => exact ⟨0, Nat.zero_le _, rfl, uh HF, uh HWA⟩
 case round =>
  obtain ⟨j, hj, rfl, hF, hE⟩ := hrel
  clear HF HWA
  by_cases hlt : j < x.chain.ids.length
  ·
   have hdl : decide ((j : Int) < (x.chain.ids.length : Int)) = true := by simp; omega
   obtain ⟨kj, hkj, hej, hcj⟩ := jh (uh HI) hlt
   rw [fk hlt] at hF
   have c0 := bF ((uh HRI).af hE) hlt
   rw [hej] at c0
   obtain ⟨row, hcl, hr⟩ := ad.aR ((uh HRN).af hE) hkj
   obtain ⟨aj, dj, rfl, -⟩ := aQ hr
   have x0 : wr.cell? ⟨b, off + kj * 7, none⟩ = some (.int .i64 (x.nodes[kj]).id) := hcl 0 (by decide)
   have x1 : wr.cell? ⟨b, off + kj * 7 + 1, none⟩ = some (.bool (x.nodes[kj]).up) := hcl 1 (by decide)
   have x2 : wr.cell? ⟨b, off + kj * 7 + 2, none⟩ = some (.int .i64 (x.nodes[kj]).ab) := hcl 2 (by decide)
   have x3 : wr.cell? ⟨b, off + kj * 7 + 3, none⟩ = some (.int .i64 (x.nodes[kj]).ai) := hcl 3 (by decide)
   have x4 : wr.cell? ⟨b, off + kj * 7 + 4, none⟩ = some (.slice aj (x.nodes[kj]).writes.length dj) := hcl 4 (by decide)
   have x5 : wr.cell? ⟨b, off + kj * 7 + 5, none⟩ = some (.int .i64 (x.nodes[kj]).sure) := hcl 5 (by decide)
   have x6 : wr.cell? ⟨b, off + kj * 7 + 6, none⟩ = some (.int .i64 (x.nodes[kj]).clean) := hcl 6 (by decide)
   have HNJ := yh (cC (uh HNO kj hkj))
   have HX1 := yh ((uh HX).au hE)
   have HR := yh hr
   have HF := yh hF
   have HCJ := yh hcj
   have hw1 : IntKind.i64.wrap (kj : Int) = (kj : Int) := by rw [IntKind.wrap_i64]; omega
   have hki : (kj : Int) < (x.nodes.length : Int) := by omega
   have hki0 : (0 : Int) ≤ (kj : Int) := by omega
   have hji : (j : Int) < (x.chain.ids.length : Int) := by omega
   have hji0 : (0 : Int) ≤ (j : Int) := by omega
   have z4 := ar.at (uh HX1) 4 _ rfl
   simp only [ga, gb, gc] at z4
   have zl := (uh HX1).lt
   have HE0 := yh hE
   have HE := yh hE
   clear hF hr hE hcl hej hcj
   generalize hnj : x.nodes[kj] = nj at *
   clear hnj
   have nb : Below wr.heap.size wr (wr.alloc (.cells #[.int .i64 nj.id, .bool nj.up, .int .i64 nj.ab, .int .i64 nj.ai, .slice aj nj.writes.length dj, .int .i64 nj.sure, .int .i64 nj.clean] 79)) := (Below.refl _ _).alloc (Nat.le_refl _) _
   have HNB : Hid (ar 0 #[.int .i64 nj.id, .bool nj.up, .int .i64 nj.ab, .int .i64 nj.ai, .slice aj nj.writes.length dj, .int .i64 nj.sure, .int .i64 nj.clean] 79 (wr.alloc (.cells #[.int .i64 nj.id, .bool nj.up, .int .i64 nj.ab, .int .i64 nj.ai, .slice aj nj.writes.length dj, .int .i64 nj.sure, .int .i64 nj.clean] 79)) wr.heap.size) := aM (Nat.zero_le _)
   replace HX1 := yh ((uh HX1).au nb)
   replace HE := yh ((uh HE).trans (nb.mono (uh HE).size))
   replace HR := yh ((uh HR).af nb)
   clear nb
   go_upto_region 6 with fail
   generalize (wr.alloc (.cells #[.int .i64 nj.id, .bool nj.up, .int .i64 nj.ab, .int .i64 nj.ai, .slice aj nj.writes.length dj, .int .i64 nj.sure, .int .i64 nj.clean] 79)) = W1 at *
   clear c0 x0 x1 x2 x3 x4 x5 x6 z4 zl hki hki0 hji0 hw1 hji
   have z6 := ar.at (uh HNB) 6 _ rfl
   simp only [ga, gb, gc] at z6
   have zl := (uh HNB).lt
   cases hcd : decide (st < nj.clean)
   ·
    by_cases hj0 : j = 0
    ·
     have hlb : cX x j = true := by rw [cX, uh HST, uh HCJ, hcd, decide_eq_true hj0]; rfl
     rw [hlb, Bool.true_and] at HF
     have hg0 : decide ((0 : Int) < (j : Int)) = false := by simp [hj0]
     clear hlb
     go_upto_region 8 with fail
     clear z6 zl hcd
     refine wZz (fun w' => Below W1.heap.size W1 w') ((Below.refl _ _).drew) (fun zq => ?_)
     generalize W1.drew = wD at zq ⊢
     refine tkH 0 zq ?_
     refine tkH 1 zq ?_
     refine tkH 2 zq ?_
     refine skH 3 zq ?_
     refine skH 4 zq ?_
     refine skH 5 zq ?_
     refine skH 6 zq ?_
     refine skH 7 zq ?_
     refine skH 8 zq ?_
     refine skH 9 zq ?_
     refine skH 10 zq ?_
     refine skH 11 zq ?_
     refine skH 12 zq ?_
     refine skH 13 zq ?_
     refine skH 14 zq ?_
     refine skH 15 zq ?_
     refine skH 16 zq ?_
     refine skH 17 zq ?_
     refine tkH 18 zq ?_
     refine dZ ?_
     go_wp2_with fail
     go_roundw
     case rel => exact ⟨j + 1, by omega, by go_num, uh HF, (uh HE).trans (zq.mono (uh HE).size)⟩
     case measure => simp [intOf]; omega
    have hjp : 0 < j := by omega
    rw [fM hjp, uh HST, uh HCJ, hcd, Bool.not_false, Bool.true_and] at HF
    have hg0 : decide ((0 : Int) < (j : Int)) = true := by simp; omega
    go_upto_region 8 with fail
    clear z6 zl hcd
    obtain ⟨jp, hjq⟩ : ∃ jp, j = jp + 1 := ⟨j - 1, by omega⟩
    have hjl : jp < x.chain.ids.length := by omega
    obtain ⟨kp, hkp, hep, hcp⟩ := jh (uh HI) hjl
    have hj1 : j - 1 = jp := by omega
    rw [hj1, hcp] at HF
    have cp := bF ((uh HRI).af (uh HE)) hjl
    rw [hep] at cp
    obtain ⟨row, hcl, hr⟩ := ad.aR ((uh HRN).af (uh HE)) hkp
    obtain ⟨aq, dq, rfl, -⟩ := aQ hr
    have y0 : W1.cell? ⟨b, off + kp * 7, none⟩ = some (.int .i64 (x.nodes[kp]).id) := hcl 0 (by decide)
    have y1 : W1.cell? ⟨b, off + kp * 7 + 1, none⟩ = some (.bool (x.nodes[kp]).up) := hcl 1 (by decide)
    have y2 : W1.cell? ⟨b, off + kp * 7 + 2, none⟩ = some (.int .i64 (x.nodes[kp]).ab) := hcl 2 (by decide)
    have y3 : W1.cell? ⟨b, off + kp * 7 + 3, none⟩ = some (.int .i64 (x.nodes[kp]).ai) := hcl 3 (by decide)
    have y4 : W1.cell? ⟨b, off + kp * 7 + 4, none⟩ = some (.slice aq (x.nodes[kp]).writes.length dq) := hcl 4 (by decide)
    have y5 : W1.cell? ⟨b, off + kp * 7 + 5, none⟩ = some (.int .i64 (x.nodes[kp]).sure) := hcl 5 (by decide)
    have y6 : W1.cell? ⟨b, off + kp * 7 + 6, none⟩ = some (.int .i64 (x.nodes[kp]).clean) := hcl 6 (by decide)
    have hnp := cC (uh HNO kp hkp)
    have HQ : Hid (∀ V, Below W1.heap.size W1 V → Calls Tryz.prog 152 #[.agg #[.int .i64 nj.id, .bool nj.up, .int .i64 nj.ab, .int .i64 nj.ai, .slice aj nj.writes.length dj, .int .i64 nj.sure, .int .i64 nj.clean], .agg #[.int .i64 x.nodes[kp].id, .bool x.nodes[kp].up, .int .i64 x.nodes[kp].ab, .int .i64 x.nodes[kp].ai, .slice aq x.nodes[kp].writes.length dq, .int .i64 x.nodes[kp].sure, .int .i64 x.nodes[kp].clean]] V fun r w' => r = .returned (.bool (dd nj x.nodes[kp])) ∧ Below V.heap.size V w') := fun V hV => hU _ _ nj x.nodes[kp] V ((uh HR).af hV) (hr.af hV) ⟨by have := hnp.sure; omega, by have := hnp.sure; omega⟩ hnp.len
    clear hr hcl hnp hep hcp
    generalize hnn : x.nodes[kp] = np at *
    clear hnn
    generalize dd nj np = fb at *
    have hwj : IntKind.i64.wrap ((j : Int) - 1) = (jp : Int) := by rw [IntKind.wrap_i64]; omega
    have hwp : IntKind.i64.wrap (kp : Int) = (kp : Int) := by rw [IntKind.wrap_i64]; omega
    have hwjp : IntKind.i64.wrap (jp : Int) = (jp : Int) := by rw [IntKind.wrap_i64]; omega
    have hjpi : (jp : Int) < (x.chain.ids.length : Int) := by omega
    have hjp0 : (0 : Int) ≤ (jp : Int) := by omega
    have hkpi : (kp : Int) < (x.nodes.length : Int) := by omega
    have hkp0 : (0 : Int) ≤ (kp : Int) := by omega
    have hbi2 : bi < W1.heap.size := Nat.lt_of_lt_of_le hbi0 (uh HE).size
    have hbl2 : b < W1.heap.size := Nat.lt_of_lt_of_le hbl0 (uh HE).size
    cases fb
    ·
     rw [Bool.false_and] at HF
     refine wZz (fun w' => Below W1.heap.size W1 w') ((Below.refl _ _).drew) (fun zq => ?_)
     generalize W1.drew = wD at zq ⊢
     refine tkH 0 zq ?_
     refine tkH 1 zq ?_
     refine tkH 2 zq ?_
     refine tkJ 3 (v := ?vl13) ?hl13 zq ?rl13
     case hl13 =>
      intro wS hSw
      have bS := (uh HNB).au hSw
      have q0 := ar.at bS 0 _ rfl
      have q1 := ar.at bS 1 _ rfl
      have q2 := ar.at bS 2 _ rfl
      have q3 := ar.at bS 3 _ rfl
      have q4 := ar.at bS 4 _ rfl
      have q5 := ar.at bS 5 _ rfl
      have q6 := ar.at bS 6 _ rfl
      simp only [ga, gb, gc] at q0 q1 q2 q3 q4 q5 q6
      clear bS hSw
      exact fZ
     refine tkH 4 zq ?_
     refine tkJ 5 (v := ?vl15) ?hl15 zq ?rl15
     case hl15 =>
      intro wS hSw
      have bS := (uh HX1).au hSw
      have q4 := ar.at bS 4 _ rfl
      simp only [ga, gb, gc] at q4
      clear bS hSw
      exact fZ
     refine tkH 6 zq ?_
     refine tkH 7 zq ?_
     refine tkJ 8 (v := ?vl18) ?hl18 zq ?rl18
     case hl18 =>
      intro wS hSw
      have bS := (uh HX1).au hSw
      have q3 := ar.at bS 3 _ rfl
      simp only [ga, gb, gc] at q3
      clear bS hSw
      exact fZ
     refine tkH 9 zq ?_
     refine tkH 10 zq ?_
     refine tkH 11 zq ?_
     refine tkJ 12 (v := ?vl112) ?hl112 zq ?rl112
     case hl112 =>
      intro wS hSw
      have q0 := cZ hSw hbi2 cp
      clear hSw
      exact fZ
     refine tkH 13 zq ?_
     refine tkH 14 zq ?_
     refine tkJ 15 (v := ?vl115) ?hl115 zq ?rl115
     case hl115 =>
      intro wS hSw
      have q0 := cZ hSw hbl2 y0
      have q1 := cZ hSw hbl2 y1
      have q2 := cZ hSw hbl2 y2
      have q3 := cZ hSw hbl2 y3
      have q4 := cZ hSw hbl2 y4
      have q5 := cZ hSw hbl2 y5
      have q6 := cZ hSw hbl2 y6
      clear hSw
      exact fZ
     refine rdH 16 (fun K hK => ?_)
     go_simp
     go_at_call 152
     refine (uh HQ _ zq).mono ?_
     rintro r u ⟨rfl, hbu⟩
     try go_wp2_with fail
     refine hK.out _ _ (zq.trans (hbu.mono zq.size)) (fun zq => ?_)
     clear hK K
     try simp only [Act.put, pz, py, px]
     refine tkH 17 zq ?_
     refine tkH 18 zq ?_
     refine dZ ?_
     go_wp2_with fail
     go_ret
     exact ⟨by rw [uh HF]; try rfl, (uh HB).trans (((uh HE).trans (zq.mono (uh HE).size)).mono (uh HB).size)⟩
    ·
     rw [Bool.true_and] at HF
     refine wZz (fun w' => Below W1.heap.size W1 w') ((Below.refl _ _).drew) (fun zq => ?_)
     generalize W1.drew = wD at zq ⊢
     refine tkH 0 zq ?_
     refine tkH 1 zq ?_
     refine tkH 2 zq ?_
     refine tkJ 3 (v := ?vl1b3) ?hl1b3 zq ?rl1b3
     case hl1b3 =>
      intro wS hSw
      have bS := (uh HNB).au hSw
      have q0 := ar.at bS 0 _ rfl
      have q1 := ar.at bS 1 _ rfl
      have q2 := ar.at bS 2 _ rfl
      have q3 := ar.at bS 3 _ rfl
      have q4 := ar.at bS 4 _ rfl
      have q5 := ar.at bS 5 _ rfl
      have q6 := ar.at bS 6 _ rfl
      simp only [ga, gb, gc] at q0 q1 q2 q3 q4 q5 q6
      clear bS hSw
      exact fZ
     refine tkH 4 zq ?_
     refine tkJ 5 (v := ?vl1b5) ?hl1b5 zq ?rl1b5
     case hl1b5 =>
      intro wS hSw
      have bS := (uh HX1).au hSw
      have q4 := ar.at bS 4 _ rfl
      simp only [ga, gb, gc] at q4
      clear bS hSw
      exact fZ
     refine tkH 6 zq ?_
     refine tkH 7 zq ?_
     refine tkJ 8 (v := ?vl1b8) ?hl1b8 zq ?rl1b8
     case hl1b8 =>
      intro wS hSw
      have bS := (uh HX1).au hSw
      have q3 := ar.at bS 3 _ rfl
      simp only [ga, gb, gc] at q3
      clear bS hSw
      exact fZ
     refine tkH 9 zq ?_
     refine tkH 10 zq ?_
     refine tkH 11 zq ?_
     refine tkJ 12 (v := ?vl1b12) ?hl1b12 zq ?rl1b12
     case hl1b12 =>
      intro wS hSw
      have q0 := cZ hSw hbi2 cp
      clear hSw
      exact fZ
     refine tkH 13 zq ?_
     refine tkH 14 zq ?_
     refine tkJ 15 (v := ?vl1b15) ?hl1b15 zq ?rl1b15
     case hl1b15 =>
      intro wS hSw
      have q0 := cZ hSw hbl2 y0
      have q1 := cZ hSw hbl2 y1
      have q2 := cZ hSw hbl2 y2
      have q3 := cZ hSw hbl2 y3
      have q4 := cZ hSw hbl2 y4
      have q5 := cZ hSw hbl2 y5
      have q6 := cZ hSw hbl2 y6
      clear hSw
      exact fZ
     refine rdH 16 (fun K hK => ?_)
     go_simp
     go_at_call 152
     refine (uh HQ _ zq).mono ?_
     rintro r u ⟨rfl, hbu⟩
     try go_wp2_with fail
     refine hK.out _ _ (zq.trans (hbu.mono zq.size)) (fun zq => ?_)
     clear hK K
     try simp only [Act.put, pz, py, px]
     refine tkH 17 zq ?_
     refine tkH 18 zq ?_
     refine dZ ?_
     go_wp2_with fail
     go_roundw
     case rel => exact ⟨j + 1, by omega, by go_num, uh HF, (uh HE).trans (zq.mono (uh HE).size)⟩
     case measure => simp [intOf]; omega
   have hlb : cX x j = false := by
    rw [cX, uh HST, uh HCJ, hcd, Bool.not_true, Bool.false_and]
   rw [hlb, Bool.false_and] at HF
   clear hlb
   go_wp2_with fail
   go_ret
   exact ⟨by rw [uh HF]; try rfl, (uh HB).trans ((uh HE).mono (uh HB).size)⟩
  ·
   obtain rfl : j = x.chain.ids.length := by omega
   rw [fK] at hF
   have hdl : decide ((x.chain.ids.length : Int) < (x.chain.ids.length : Int)) = false := by simp
   have HF := yh hF
   have HE := yh hE
   clear hF hE
   go_wp2_with fail
   go_ret
   exact ⟨by rw [uh HF]; try rfl, (uh HB).trans ((uh HE).mono (uh HB).size)⟩
theorem fu (cs : List Value) (x : aN) (w : World) (h : ad.a8.Reads w cs x) :
  Calls Tryz.prog 31 #[.agg cs.toArray] w fun r w' => r = .returned (.bool (bQ x)) ∧ Below w.heap.size w w' := by
 obtain ⟨a3, d3, a4, d4, a5, d5, a6, d6, rfl, -, -, -, -⟩ := aF h
 have nb : Below w.heap.size w (w.alloc (.cells #[.int .i64 x.now, .int .i64 x.events, .int .i64 x.chain.ab, .slice a3 x.chain.ids.length d3, .slice a4 x.nodes.length d4, .slice a5 x.msgs.length d5, .slice a6 x.ae.length d6] 37)) := (Below.refl _ _).alloc (Nat.le_refl _) _
 have HX : Hid (ar 0 #[.int .i64 x.now, .int .i64 x.events, .int .i64 x.chain.ab, .slice a3 x.chain.ids.length d3, .slice a4 x.nodes.length d4, .slice a5 x.msgs.length d5, .slice a6 x.ae.length d6] 37 (w.alloc (.cells #[.int .i64 x.now, .int .i64 x.events, .int .i64 x.chain.ab, .slice a3 x.chain.ids.length d3, .slice a4 x.nodes.length d4, .slice a5 x.msgs.length d5, .slice a6 x.ae.length d6] 37)) w.heap.size) := aM (Nat.zero_le _)
 have HB := yh nb
 have HR := yh (h.af nb)
 have HP : Hid (bQ x = (aT x == 0 && cE x)) := rfl
 clear nb h
 generalize bQ x = R at *
 go_enter Tryz.func31, Tryz.ntmps31
 go_upto_region 1 with fail
 generalize (w.alloc (.cells #[.int .i64 x.now, .int .i64 x.events, .int .i64 x.chain.ab, .slice a3 x.chain.ids.length d3, .slice a4 x.nodes.length d4, .slice a5 x.msgs.length d5, .slice a6 x.ae.length d6] 37)) = W0 at *
 have z0 := ar.at (uh HX) 0 _ rfl
 have z1 := ar.at (uh HX) 1 _ rfl
 have z2 := ar.at (uh HX) 2 _ rfl
 have z3 := ar.at (uh HX) 3 _ rfl
 have z4 := ar.at (uh HX) 4 _ rfl
 have z5 := ar.at (uh HX) 5 _ rfl
 have z6 := ar.at (uh HX) 6 _ rfl
 simp only [ga, gb, gc] at z0 z1 z2 z3 z4 z5 z6
 have zl := (uh HX).lt
 go_wp2_with fail
 refine (fm _ x W0 (uh HR)).mono ?_
 rintro r wa ⟨rfl, hb⟩
 clear z0 z1 z2 z3 z4 z5 z6 zl
 replace HX := yh ((uh HX).au hb)
 replace HR := yh ((uh HR).af hb)
 replace HB := bZ HB hb
 clear hb
 by_cases d1 : aT x = 0
 ·
  have hok := cU d1
  obtain ⟨k, hk, ht⟩ := tail_at hok
  have HL := yh (jC _ x k wa (uh HR) hok hk ht)
  rw [d1] at HP ⊢
  have e0 : ((0 : Int) == 0) = true := rfl
  rw [e0, Bool.true_and] at HP
  clear hok ht hk d1 e0 HR
  generalize cE x = K at *
  have z0 := ar.at (uh HX) 0 _ rfl
  have z1 := ar.at (uh HX) 1 _ rfl
  have z2 := ar.at (uh HX) 2 _ rfl
  have z3 := ar.at (uh HX) 3 _ rfl
  have z4 := ar.at (uh HX) 4 _ rfl
  have z5 := ar.at (uh HX) 5 _ rfl
  have z6 := ar.at (uh HX) 6 _ rfl
  simp only [ga, gb, gc] at z0 z1 z2 z3 z4 z5 z6
  have zl := (uh HX).lt
  go_wp2_with fail
  refine (uh HL).mono ?_
  rintro r wb ⟨rfl, hb⟩
  replace HB := bZ HB hb
  clear hb HL z0 z1 z2 z3 z4 z5 z6 zl HX
  go_wp2_with fail
  go_ret
  exact ⟨by rw [uh HP]; try rfl, uh HB⟩
 ·
  have hd : (aT x == 0) = false := by simpa using d1
  rw [hd, Bool.false_and] at HP
  clear d1
  go_wp2_with fail
  go_ret
  exact ⟨by rw [uh HP]; try rfl, uh HB⟩
theorem fE (cs : List Value) (x : aN) (w : World) (h : ad.a8.Reads w cs x) :
  Calls Tryz.prog 6 #[.agg cs.toArray] w fun e w' => e = .returned (.bool true) ∧ Below w.heap.size w w' := by
 by_cases hn : ad.a8.sz x ≤ 1048576
 ·
  exact eH cs x (bQ x) w h hn (fun W a ha => fs a x W ha) (fun W a ha => fu a x W ha)
 exact dE cs x w h (by omega)
theorem hY : cV ad.aZ 24 := by
 intro H enc W base spare held fuel cs x h
 obtain ⟨xs, n, _, _, hlen, hl, hfi⟩ := DataW.trod_struct Tryz.underlying24 h
 rw [show Tryz.prog.cellsOf 24 = 2 by kernel_rfl] at hlen
 match cs, hlen with
 | [c0, c1], _ =>
 match xs, hl with
 | [y0, y1], _ =>
 have z0 : Tryz.prog.cellsOf 2 = 1 := by kernel_rfl
 have z1 : Tryz.prog.cellsOf 22 = 1 := by kernel_rfl
 have f0 : DataW.trod enc Tryz.prog W base spare held n 2 (([c0, c1].drop 0).take (Tryz.prog.cellsOf 2)) = some y0 := hfi 0 _ rfl
 rw [z0] at f0
 obtain ⟨d0, r0⟩ := (aG Tryz.underlying2) enc W base spare held n _ _ f0
 have f1 : DataW.trod enc Tryz.prog W base spare held n 22 (([c0, c1].drop 1).take (Tryz.prog.cellsOf 22)) = some y1 := hfi 1 _ rfl
 rw [z1] at f1
 obtain ⟨d1, r1⟩ := (cf Tryz.underlying22 (by kernel_rfl) (by decide) (aG Tryz.underlying2)) enc W base spare held n _ _ f1
 exact ⟨⟨d0, d1⟩, (ax r0 r1)⟩
theorem eu : cV ad.ag 132 := by
 intro H enc W base spare held fuel cs x h
 obtain ⟨xs, n, _, _, hlen, hl, hfi⟩ := DataW.trod_struct Tryz.underlying132 h
 rw [show Tryz.prog.cellsOf 132 = 5 by kernel_rfl] at hlen
 match cs, hlen with
 | [c0, c1, c2, c3, c4], _ =>
 match xs, hl with
 | [y0, y1, y2, y3, y4], _ =>
 have z0 : Tryz.prog.cellsOf 2 = 1 := by kernel_rfl
 have z1 : Tryz.prog.cellsOf 22 = 1 := by kernel_rfl
 have f0 : DataW.trod enc Tryz.prog W base spare held n 2 (([c0, c1, c2, c3, c4].drop 0).take (Tryz.prog.cellsOf 2)) = some y0 := hfi 0 _ rfl
 rw [z0] at f0
 obtain ⟨d0, r0⟩ := (aG Tryz.underlying2) enc W base spare held n _ _ f0
 have f1 : DataW.trod enc Tryz.prog W base spare held n 2 (([c0, c1, c2, c3, c4].drop 1).take (Tryz.prog.cellsOf 2)) = some y1 := hfi 1 _ rfl
 rw [z0] at f1
 obtain ⟨d1, r1⟩ := (aG Tryz.underlying2) enc W base spare held n _ _ f1
 have f2 : DataW.trod enc Tryz.prog W base spare held n 22 (([c0, c1, c2, c3, c4].drop 2).take (Tryz.prog.cellsOf 22)) = some y2 := hfi 2 _ rfl
 rw [z1] at f2
 obtain ⟨d2, r2⟩ := (cf Tryz.underlying22 (by kernel_rfl) (by decide) (aG Tryz.underlying2)) enc W base spare held n _ _ f2
 have f3 : DataW.trod enc Tryz.prog W base spare held n 2 (([c0, c1, c2, c3, c4].drop 3).take (Tryz.prog.cellsOf 2)) = some y3 := hfi 3 _ rfl
 rw [z0] at f3
 obtain ⟨d3, r3⟩ := (aG Tryz.underlying2) enc W base spare held n _ _ f3
 have f4 : DataW.trod enc Tryz.prog W base spare held n 2 (([c0, c1, c2, c3, c4].drop 4).take (Tryz.prog.cellsOf 2)) = some y4 := hfi 4 _ rfl
 rw [z0] at f4
 obtain ⟨d4, r4⟩ := (aG Tryz.underlying2) enc W base spare held n _ _ f4
 exact ⟨⟨d0, d1, d2, d3, d4⟩, (ax r0 (ax r1 (ax r2 (ax r3 r4))))⟩
theorem iL : cV ad.aP 129 := by
 intro H enc W base spare held fuel cs x h
 obtain ⟨xs, n, _, _, hlen, hl, hfi⟩ := DataW.trod_struct Tryz.underlying129 h
 rw [show Tryz.prog.cellsOf 129 = 7 by kernel_rfl] at hlen
 match cs, hlen with
 | [c0, c1, c2, c3, c4, c5, c6], _ =>
 match xs, hl with
 | [y0, y1, y2, y3, y4, y5, y6], _ =>
 have z0 : Tryz.prog.cellsOf 2 = 1 := by kernel_rfl
 have z1 : Tryz.prog.cellsOf 4 = 1 := by kernel_rfl
 have z2 : Tryz.prog.cellsOf 127 = 1 := by kernel_rfl
 have f0 : DataW.trod enc Tryz.prog W base spare held n 2 (([c0, c1, c2, c3, c4, c5, c6].drop 0).take (Tryz.prog.cellsOf 2)) = some y0 := hfi 0 _ rfl
 rw [z0] at f0
 obtain ⟨d0, r0⟩ := (aG Tryz.underlying2) enc W base spare held n _ _ f0
 have f1 : DataW.trod enc Tryz.prog W base spare held n 4 (([c0, c1, c2, c3, c4, c5, c6].drop 1).take (Tryz.prog.cellsOf 4)) = some y1 := hfi 1 _ rfl
 rw [z1] at f1
 obtain ⟨d1, r1⟩ := (iN Tryz.underlying4) enc W base spare held n _ _ f1
 have f2 : DataW.trod enc Tryz.prog W base spare held n 2 (([c0, c1, c2, c3, c4, c5, c6].drop 2).take (Tryz.prog.cellsOf 2)) = some y2 := hfi 2 _ rfl
 rw [z0] at f2
 obtain ⟨d2, r2⟩ := (aG Tryz.underlying2) enc W base spare held n _ _ f2
 have f3 : DataW.trod enc Tryz.prog W base spare held n 2 (([c0, c1, c2, c3, c4, c5, c6].drop 3).take (Tryz.prog.cellsOf 2)) = some y3 := hfi 3 _ rfl
 rw [z0] at f3
 obtain ⟨d3, r3⟩ := (aG Tryz.underlying2) enc W base spare held n _ _ f3
 have f4 : DataW.trod enc Tryz.prog W base spare held n 127 (([c0, c1, c2, c3, c4, c5, c6].drop 4).take (Tryz.prog.cellsOf 127)) = some y4 := hfi 4 _ rfl
 rw [z2] at f4
 obtain ⟨d4, r4⟩ := (cf Tryz.underlying127 (by kernel_rfl) (by decide) eu) enc W base spare held n _ _ f4
 have f5 : DataW.trod enc Tryz.prog W base spare held n 2 (([c0, c1, c2, c3, c4, c5, c6].drop 5).take (Tryz.prog.cellsOf 2)) = some y5 := hfi 5 _ rfl
 rw [z0] at f5
 obtain ⟨d5, r5⟩ := (aG Tryz.underlying2) enc W base spare held n _ _ f5
 have f6 : DataW.trod enc Tryz.prog W base spare held n 2 (([c0, c1, c2, c3, c4, c5, c6].drop 6).take (Tryz.prog.cellsOf 2)) = some y6 := hfi 6 _ rfl
 rw [z0] at f6
 obtain ⟨d6, r6⟩ := (aG Tryz.underlying2) enc W base spare held n _ _ f6
 exact ⟨⟨d0, d1, d2, d3, d4, d5, d6⟩, (ax r0 (ax r1 (ax r2 (ax r3 (ax r4 (ax r5 r6))))))⟩
end Go.Proofs.YtecagllmonckgaaGreat
