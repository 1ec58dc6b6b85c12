/-
  Texts of this proof in one: SpecSearchIvf, LawSearchIvf, LayOpen, OpenCenter, OpenItem, OpenIvfList, OpenIvf.
  Their conditions stand in their theorems.
-/
import Derived.Test.YtfgadegpdknocaaGreatIs15
import Derived.Test.YtfgadegpdknocaaGreatIs17
import Derived.Test.YtfgadegpdknocaaGreatIs08
import Derived.Test.YtfgadegpdknocaaGreatIs09
import Derived.Test.YtfgadegpdknocaaGreatIs18
import Derived.Test.YtfgadegpdknocaaGreatIs06
import Derived.Test.YtfgadegpdknocaaGreatChecked
import Derived.Test.YtfgadegpdknocaaGreatIs01
import Derived.ProofKit
import Derived.OpenShut
import Derived.Deep.Slices
import Derived.Test.YtfgadegpdknocaaGreatIs02

namespace Go.Proofs.YtfgadegpdknocaaGreat
open Go.RowKit

set_option maxRecDepth 100000 in
set_option maxHeartbeats 4000000 in
theorem specSearchIvf (cs : List Value) (x : DIvf) (vq : Value) (q : List Int) (k n : Int) (w : World) (h : Lay.tIvf.Reads w cs x) (hq : (Lay.sl Lay.int).Reads w [vq] q) :
    Calls Tryz.prog 21 #[.agg cs.toArray, vq, .int .i64 k, .int .i64 n] w fun e w' => ∃ cs', e = .returned (.agg cs'.toArray) ∧ Lay.tHitsResult.Reads w' cs' (searchIvfR x q k n) ∧ HitsAt w' cs' ((searchIvfR x q k n).hits.map pairH) ∧ Below w.heap.size w w' := by
  obtain ⟨ac, dc, al, dl, rfl, R0, R1⟩ := open_Ivf h
  have HB0 : Below w.heap.size w ((w.alloc (.cells #[.slice ac x.centers.length dc, .slice al x.lists.length dl] 31)).alloc (.cells #[.int .i64 0, .slice none 0 0] 48)) := ((Below.refl _ _).alloc (Nat.le_refl _) _).alloc (by simp) _
  have bx : Box w.heap.size #[.slice ac x.centers.length dc, .slice al x.lists.length dl] 31 ((w.alloc (.cells #[.slice ac x.centers.length dc, .slice al x.lists.length dl] 31)).alloc (.cells #[.int .i64 0, .slice none 0 0] 48)) w.heap.size := (newBox (Nat.le_refl _)).grow _
  have bR : Box w.heap.size #[.int .i64 0, .slice none 0 0] 48 ((w.alloc (.cells #[.slice ac x.centers.length dc, .slice al x.lists.length dl] 31)).alloc (.cells #[.int .i64 0, .slice none 0 0] 48)) (w.heap.size + 1) := newBoxAt (by omega) (by simp)
  have hA := ivfAt_box bx (R0.later HB0) (R1.later HB0)
  have HQ := hide (Lay.ints_reads (hq.later HB0))
  obtain ⟨aq, dq, rfl⟩ := open_sl hq
  clear hq
  have HR0 := hide R0.liesIn
  have HR1 := hide R1.liesIn
  clear h R0 R1 bx
  go_enter Tryz.func21, Tryz.ntmps21
  go_wp2_with fail
  generalize (w.alloc (.cells #[.slice ac x.centers.length dc, .slice al x.lists.length dl] 31)).alloc (.cells #[.int .i64 0, .slice none 0 0] 48) = W0 at *
  refine (specFault7 w.heap.size x ac dc al dl W0 hA).mono ?_
  rintro e w1 ⟨rfl, hb⟩
  have HA := hide (hA.later hb)
  replace HQ := hide ((unhide HQ).later hb)
  replace bR := bR.keep hb
  replace HB0 := HB0.trans (hb.mono HB0.size)
  have z0 : w1.cell? ⟨w.heap.size + 1, 0, none⟩ = some (.int .i64 0) := bR.at 0 _ rfl
  have z1 : w1.cell? ⟨w.heap.size + 1, 1, none⟩ = some (.slice none 0 0) := bR.at 1 _ rfl
  have f0 := bR.soft 0
  have f1 := bR.soft 1
  have l0 := bR.lt
  have HB := hide HB0
  have HR := hide bR
  have KA : Hid (∀ W, Below (w.heap.size + 1) w1 W → IvfAt W w.heap.size x ac dc al dl) := fun W hW => ⟨(hW.cell (p := ⟨w.heap.size, 0, none⟩) (by show w.heap.size < w.heap.size + 1; omega)).trans (unhide HA).c0, (hW.cell (p := ⟨w.heap.size, 1, none⟩) (by show w.heap.size < w.heap.size + 1; omega)).trans (unhide HA).c1, (((unhide HR0).later (unhide HB)).below hW (by omega)).reads, (((unhide HR1).later (unhide HB)).below hW (by omega)).reads⟩
  clear hb HB0 bR hA
  by_cases hf : ivfFault x = 0
  · rw [hf]
    go_wp2_with fail
    refine (modelFault _ q _ (unhide HQ)).mono ?_
    rintro e w1 ⟨rfl, rfl⟩
    by_cases hfq : vecFault q = 0
    · rw [hfq]
      go_wp2_with fail
      refine (l2K k _).mono ?_
      rintro e w1 ⟨rfl, rfl⟩
      rw [show (decide (0 ≤ k) && decide (k ≤ 20)) = kB k from rfl]
      cases hkk : kB k with
      | false =>
        have HG : Hid (searchIvfR x q k n = ⟨3, []⟩) := by
          show searchIvfR x q k n = _
          rw [searchIvfR, if_pos hf, if_pos hfq, hkk, if_neg (by simp)]
        clear hkk hf hfq HA
        go_wp2_with fail
        refine bodyPost_ret (v := .agg #[.int .i64 (3), .slice none 0 0]) (by simp [results, Tryz.results21, go_sem, z0, z1]) rfl ?_
        rw [unhide HG]
        exact ⟨[.int .i64 (3), .slice none 0 0], rfl, (own_codeHits (lo := 0) (hi := 0) (by decide)).reads, ⟨_, _, rfl, noHits _⟩, ((unhide HB).setCell (by simp) _).setCell (by simp) _⟩
      | true =>
        go_wp2_with fail
        refine (l7N n _).mono ?_
        rintro e w1 ⟨rfl, rfl⟩
        rw [show (decide (0 ≤ n) && decide (n ≤ 6)) = nB n from rfl]
        cases hnn : nB n with
        | false =>
          have HG : Hid (searchIvfR x q k n = ⟨3, []⟩) := by
            show searchIvfR x q k n = _
            rw [searchIvfR, if_pos hf, if_pos hfq, hkk, hnn, if_neg (by simp)]
          clear hkk hnn hf hfq HA
          go_wp2_with fail
          refine bodyPost_ret (v := .agg #[.int .i64 (3), .slice none 0 0]) (by simp [results, Tryz.results21, go_sem, z0, z1]) rfl ?_
          rw [unhide HG]
          exact ⟨[.int .i64 (3), .slice none 0 0], rfl, (own_codeHits (lo := 0) (hi := 0) (by decide)).reads, ⟨_, _, rfl, noHits _⟩, ((unhide HB).setCell (by simp) _).setCell (by simp) _⟩
        | true =>
          have HG : Hid (searchIvfR x q k n = ⟨0, (best k.toNat (probedH x q (probesI x.centers q n.toNat))).map dhit⟩) := by
            show searchIvfR x q k n = _
            rw [searchIvfR, if_pos hf, if_pos hfq, hkk, hnn, if_pos (by rfl)]
          have hkb : 0 ≤ k ∧ k ≤ 20 := by simpa [kB] using hkk
          have hnb : 0 ≤ n ∧ n ≤ 6 := by simpa [nB] using hnn
          have hcf := (ivfFault_zero hf).1
          obtain ⟨hlf, hl6⟩ := ivf_small hf
          have hll := (ivfFault_zero hf).2.1
          have nbh : Below w1.heap.size w1 (w1.alloc (.cells #[] 66)) := (Below.refl _ _).alloc (Nat.le_refl _) _
          have hoh : (w1.alloc (.cells #[] 66)).ownsRow w1.heap.size 66 2 (.slice (some ⟨w1.heap.size, 0, none⟩) 0 0) 0 [] := World.ownsRow_lit w1 #[] 0 (Nat.le_refl _) (by unfold maxLen; omega) rfl
          have L := specProbes _ x.centers _ q n.toNat (w1.alloc (.cells #[] 66)) ((unhide HA).later nbh).cens ((unhide HQ).later nbh) hcf hfq (by omega)
          rw [show ((n.toNat : Nat) : Int) = n by omega] at L
          have HL := hide L
          have HW := hide (probe_wf (q := q) (n := n.toNat) (Nat.le_trans (centersFault_zero hcf).1.2 (by decide)))
          have hpn : (probesI x.centers q n.toNat).length ≤ 6 := Nat.le_trans (probe_len x.centers q n.toNat) (by omega)
          have HAT : Hid (∀ z ∈ probesI x.centers q n.toNat, ∃ m : Nat, z = m ∧ m < x.lists.length) := fun z hz => by
            rw [hll]
            exact probe_at hz
          have HPR := hide (probedH_right hlf hfq)
          have HLF := hide hlf
          have HFQ := hide hfq
          have c0 := ((unhide HA).later nbh).c0
          have HNB := hide nbh
          have HOH := hide hoh
          clear hkk hnn hf hfq hcf hlf hll L nbh hoh
          generalize probesI x.centers q n.toNat = ps at *
          have hl1 := (unhide HR).lt
          clear z0 z1 f0 f1 l0
          go_wp2_with fail
          clear c0
          refine (unhide HL).mono ?_
          rintro e w2 ⟨v2, rfl, hop, hb2⟩
          have hrp := (Lay.ownInts (unhide HW) (by omega) hop).reads
          obtain ⟨ap, dp, rfl⟩ := open_sl hrp
          have hz2 := hb2.size
          have hz1 : w1.heap.size + 1 ≤ w2.heap.size := by simp at hz2; omega
          have HI0 : Hid (w2.ownsRow w1.heap.size 66 2 (.slice (some ⟨w1.heap.size, 0, none⟩) 0 0) 0 []) := own_ext (unhide HOH) (ext_of_below hb2 nowhere) (fun _ _ h => h)
          have HD0 : Hid (∀ c, (Value.slice (some ⟨w1.heap.size, 0, none⟩) 0 0).ownBlock = some c → (Value.slice ap ps.length dp).ownBlock ≠ some c) := fun c h1 h2 => by
            have e1 : w1.heap.size = c := by simpa [Value.ownBlock] using h1
            have := (hop.lt c h2).1
            simp at this
            omega
          have HOP := hide (own_mono (show w1.heap.size ≤ _ by simp) hop)
          have HB2 : Hid (Below w1.heap.size w1 w2) := (unhide HNB).trans (hb2.mono (by simp))
          clear hop hrp hb2 HL HNB HOH hz2
          go_wp2_with fail
          go_loopw [11, 13] (fun u i wr => ∃ j : Nat, j ≤ ps.length ∧ i = .int .i64 j ∧ wr.ownsRow w1.heap.size 66 2 u (probedH x q (ps.take j)).length (cells2 (probedH x q (ps.take j))) ∧ (∀ c, u.ownBlock = some c → (Value.slice ap ps.length dp).ownBlock ≠ some c) ∧ wr.ownsRow w1.heap.size 2 1 (.slice ap ps.length dp) ps.length (ps.map (Value.int .i64)) ∧ Below w1.heap.size w1 wr) (fun _ i _ => ps.length - (intOf i).toNat)
          case atStart => exact ⟨0, Nat.zero_le _, rfl, unhide HI0, unhide HD0, unhide HOP, unhide HB2⟩
          case round =>
            obtain ⟨j, hj, rfl, hown, hdis, hp, hB⟩ := hrel
            clear HI0 HD0 HOP HB2
            by_cases hlt : j < ps.length
            · obtain ⟨m, hm, hml⟩ := unhide HAT ps[j] (List.getElem_mem hlt)
              have HST := hide (probedH_step x q ps j m hlt hm hml)
              have HPL : Hid ((probedH x q (ps.take j)).length ≤ 180) := by
                have h1 := (unhide HPR (ps.take j)).1
                have h2 : (ps.take j).length ≤ 6 := by simp; omega
                show (probedH x q (ps.take j)).length ≤ 180
                omega
              obtain ⟨gp, rfl⟩ : ∃ gp, ap = some ⟨gp, 0, none⟩ := by
                rcases hp.2 with ⟨h1, h0⟩ | ⟨g, cap, cur, h1, -⟩
                · omega
                · simp only [Value.slice.injEq] at h1
                  exact ⟨g, h1.1⟩
              have cP : wr.drew.cell? ⟨gp, j, none⟩ = some (.int .i64 m) := by
                rw [show wr.drew.cell? ⟨gp, j, none⟩ = wr.cell? ⟨gp, j, none⟩ from rfl, hp.cellAt j (by omega), List.getElem?_map, List.getElem?_eq_getElem hlt, hm]
                rfl
              have hA1 := unhide HA
              obtain ⟨bl, ol, rfl, hbl⟩ := Lay.sl_addr hA1.lists (by omega)
              obtain ⟨row, hc, hr⟩ := Lay.row_at hA1.lists hml
              obtain ⟨a5, d5, rfl, R5⟩ := open_IvfList hr
              have cI : w1.cell? ⟨bl, ol + m, none⟩ = some (.slice a5 (x.lists[m]).items.length d5) := one_cell (hc 0 (by decide))
              have cL := hA1.c1
              have htf := unhide HLF x.lists[m] (List.getElem_mem hml)
              have HKL : Hid (((hitsL (x.lists[m]).items q).map pairH).length ≤ 30) := (hits_right htf (unhide HFQ)).1
              have LH : Hid (∀ W, Below w1.heap.size w1 W → Calls Tryz.prog 61 #[.slice a5 (x.lists[m]).items.length d5, .slice aq q.length dq] W fun e w' => ∃ v, e = .returned v ∧ IsHits w' v ((hitsL (x.lists[m]).items q).map pairH) ∧ Below W.heap.size W w') := fun W hW => by
                refine (specHits _ (x.lists[m]).items _ q W (R5.later hW) ((unhide HQ).later hW) htf (unhide HFQ)).mono ?_
                rintro e w' ⟨v, rfl, ho, hb⟩
                exact ⟨v, rfl, isHits_row (fun p hp => oneB_wf ((hits_right htf (unhide HFQ)).2 p hp)) ho, hb⟩
              clear hc hr hA1 R5 htf
              generalize x.lists[m] = ly at *
              generalize probedH x q (ps.take j) = ph at *
              have hownD : wr.drew.ownsRow w1.heap.size 66 2 u11 ph.length (cells2 ph) := hown
              have hpD : wr.drew.ownsRow w1.heap.size 2 1 (.slice (some ⟨gp, 0, none⟩) ps.length dp) ps.length (ps.map (Value.int .i64)) := hp
              have hHD : Below w1.heap.size w1 wr.drew := hB.drew
              have hzD : w1.heap.size ≤ wr.drew.heap.size := hB.size
              have i1 : (0 : Int) ≤ (j : Int) := by omega
              have i2 : (j : Int) < (ps.length : Int) := by omega
              have i3 : (0 : Int) ≤ (m : Int) := by omega
              have i4 : (m : Int) < (x.lists.length : Int) := by omega
              clear hown hp hB hm
              go_upto_region 14 with fail
              refine wp_region_noPanic ?_
              refine wp_region_held_drew (S := fun w' => Below w1.heap.size w1 w') (by kernel_rfl) hHD (fun hHeld => ?_)
              generalize wr.drew = wD at hHeld hownD hpD cP hHD hzD ⊢
              refine wpAnyH_take (i := 0) (oi := { dst := some 46, op := Go.Op.move (Go.Operand.tmp 11), type := 46, pos := "l07_ivf.go:160", after := #[], guard := none }) (v := ?vs0) rfl (by kernel_rfl) (by kernel_rfl) (by kernel_rfl) (fun _ _ _ h => h) (Or.inl ⟨by rfl, ?hs0⟩) hHeld ?rs0
              case hs0 =>
                intro wS hSw
                (try dsimp only at hSw)
                go_simp
                try with_reducible rfl
              case rs0 =>
              simp only [Act.put, List.setIfInBounds_toArray, List.set_cons_zero, List.set_cons_succ]
              refine wpAnyH_take (i := 1) (oi := { dst := some 47, op := Go.Op.fieldAddr 31 (Go.Operand.tmp 4) 1, type := 0, pos := "l07_ivf.go:160", after := #[], guard := none }) (v := ?vs1) rfl (by kernel_rfl) (by kernel_rfl) (by kernel_rfl) (fun _ _ _ h => h) (Or.inl ⟨by rfl, ?hs1⟩) hHeld ?rs1
              case hs1 =>
                intro wS hSw
                (try dsimp only at hSw)
                go_simp
                try with_reducible rfl
              case rs1 =>
              simp only [Act.put, List.setIfInBounds_toArray, List.set_cons_zero, List.set_cons_succ]
              refine wpAnyH_take (i := 2) (oi := { dst := some 48, op := Go.Op.load 29 (Go.Operand.tmp 47), type := 29, pos := "l07_ivf.go:160", after := #[{ on := 1, ground := Go.Ground.data }], guard := none }) (v := ?vs2) rfl (by kernel_rfl) (by kernel_rfl) (by kernel_rfl) (fun _ _ _ h => h) (Or.inl ⟨by rfl, ?hs2⟩) hHeld ?rs2
              case hs2 =>
                intro wS hSw
                have y1 := (hSw.cell (p := ⟨w.heap.size, 1, none⟩) (by show w.heap.size < w1.heap.size; omega)).trans cL
                clear hSw
                (try dsimp only at hSw)
                go_simp
                try with_reducible rfl
              case rs2 =>
              simp only [Act.put, List.setIfInBounds_toArray, List.set_cons_zero, List.set_cons_succ]
              refine wpAnyH_take (i := 3) (oi := { dst := some 49, op := Go.Op.move (Go.Operand.tmp 12), type := 26, pos := "l07_ivf.go:160", after := #[], guard := none }) (v := ?vs3) rfl (by kernel_rfl) (by kernel_rfl) (by kernel_rfl) (fun _ _ _ h => h) (Or.inl ⟨by rfl, ?hs3⟩) hHeld ?rs3
              case hs3 =>
                intro wS hSw
                (try dsimp only at hSw)
                go_simp
                try with_reducible rfl
              case rs3 =>
              simp only [Act.put, List.setIfInBounds_toArray, List.set_cons_zero, List.set_cons_succ]
              refine wpAnyH_take (i := 4) (oi := { dst := some 50, op := Go.Op.move (Go.Operand.tmp 13), type := 3, pos := "l07_ivf.go:160", after := #[], guard := none }) (v := ?vs4) rfl (by kernel_rfl) (by kernel_rfl) (by kernel_rfl) (fun _ _ _ h => h) (Or.inl ⟨by rfl, ?hs4⟩) hHeld ?rs4
              case hs4 =>
                intro wS hSw
                (try dsimp only at hSw)
                go_simp
                try with_reducible rfl
              case rs4 =>
              simp only [Act.put, List.setIfInBounds_toArray, List.set_cons_zero, List.set_cons_succ]
              refine wpAnyH_take (i := 5) (oi := { dst := some 51, op := Go.Op.indexAddr 26 (Go.Operand.tmp 49) (Go.Operand.tmp 50), type := 0, pos := "l07_ivf.go:160", after := #[{ on := 3, ground := Go.Ground.data }, { on := 4, ground := Go.Ground.data }], guard := none }) (v := ?vs5) rfl (by kernel_rfl) (by kernel_rfl) (by kernel_rfl) (fun _ _ _ h => h) (Or.inl ⟨by rfl, ?hs5⟩) hHeld ?rs5
              case hs5 =>
                intro wS hSw
                (try dsimp only at hSw)
                go_simp
                try with_reducible rfl
              case rs5 =>
              simp only [Act.put, List.setIfInBounds_toArray, List.set_cons_zero, List.set_cons_succ]
              refine wpAnyH_take (i := 10) (oi := { dst := some 56, op := Go.Op.move (Go.Operand.tmp 1), type := 26, pos := "l07_ivf.go:160", after := #[], guard := none }) (v := ?vs10) rfl (by kernel_rfl) (by kernel_rfl) (by kernel_rfl) (fun _ _ _ h => h) (Or.inl ⟨by rfl, ?hs10⟩) hHeld ?rs10
              case hs10 =>
                intro wS hSw
                (try dsimp only at hSw)
                go_simp
                try with_reducible rfl
              case rs10 =>
              simp only [Act.put, List.setIfInBounds_toArray, List.set_cons_zero, List.set_cons_succ]
              refine wpAnyH_ready (rs := [6]) (by kernel_rfl) (by simp) ?_
              refine AllReadyH.cons (o := { dst := some 52, op := Go.Op.load 2 (Go.Operand.tmp 51), type := 2, pos := "l07_ivf.go:160", after := #[{ on := 5, ground := Go.Ground.data }], guard := none }) rfl (fun K hK => ?_) AllReadyH.nil
              have y1 := cP
              go_simp
              refine hK.out _ _ hHeld (fun hHeld => ?_)
              clear hK K
              try simp only [Act.put, List.setIfInBounds_toArray, List.set_cons_zero, List.set_cons_succ]
              refine wpAnyH_take (i := 7) (oi := { dst := some 53, op := Go.Op.indexAddr 29 (Go.Operand.tmp 48) (Go.Operand.tmp 52), type := 0, pos := "l07_ivf.go:160", after := #[{ on := 2, ground := Go.Ground.data }, { on := 6, ground := Go.Ground.data }], guard := none }) (v := ?vs7) rfl (by kernel_rfl) (by kernel_rfl) (by kernel_rfl) (fun _ _ _ h => h) (Or.inl ⟨by rfl, ?hs7⟩) hHeld ?rs7
              case hs7 =>
                intro wS hSw
                (try dsimp only at hSw)
                go_simp
                try with_reducible rfl
              case rs7 =>
              simp only [Act.put, List.setIfInBounds_toArray, List.set_cons_zero, List.set_cons_succ]
              refine wpAnyH_take (i := 8) (oi := { dst := some 54, op := Go.Op.fieldAddr 104 (Go.Operand.tmp 53) 0, type := 0, pos := "l07_ivf.go:160", after := #[{ on := 7, ground := Go.Ground.data }], guard := none }) (v := ?vs8) rfl (by kernel_rfl) (by kernel_rfl) (by kernel_rfl) (fun _ _ _ h => h) (Or.inl ⟨by rfl, ?hs8⟩) hHeld ?rs8
              case hs8 =>
                intro wS hSw
                (try dsimp only at hSw)
                go_simp
                try with_reducible rfl
              case rs8 =>
              simp only [Act.put, List.setIfInBounds_toArray, List.set_cons_zero, List.set_cons_succ]
              refine wpAnyH_take (i := 9) (oi := { dst := some 55, op := Go.Op.load 57 (Go.Operand.tmp 54), type := 57, pos := "l07_ivf.go:160", after := #[{ on := 8, ground := Go.Ground.data }], guard := none }) (v := ?vs9) rfl (by kernel_rfl) (by kernel_rfl) (by kernel_rfl) (fun _ _ _ h => h) (Or.inl ⟨by rfl, ?hs9⟩) hHeld ?rs9
              case hs9 =>
                intro wS hSw
                have y1 := (hSw.cell (p := ⟨bl, ol + m, none⟩) (by show bl < w1.heap.size; omega)).trans cI
                clear hSw
                (try dsimp only at hSw)
                go_simp
                try with_reducible rfl
              case rs9 =>
              simp only [Act.put, List.setIfInBounds_toArray, List.set_cons_zero, List.set_cons_succ]
              refine wpAnyH_ready (rs := [11]) (by kernel_rfl) (by simp) ?_
              refine AllReadyH.cons (o := { dst := some 57, op := Go.Op.call { callee := Go.Callee.value (Go.Operand.func 61), args := #[Go.Operand.tmp 55, Go.Operand.tmp 56], argTypes := #[57, 26] }, type := 46, pos := "l07_ivf.go:160", after := #[{ on := 9, ground := Go.Ground.data }, { on := 10, ground := Go.Ground.data }], guard := none }) rfl (fun K hK => ?_) AllReadyH.nil
              go_simp
              go_at_call 61
              refine (unhide LH _ hHeld).mono ?_
              rintro e w3 ⟨v3, rfl, hI3, hb3⟩
              try go_wp2_with fail
              refine hK.out _ _ (below_up (Nat.le_refl _) hHeld hb3) (fun hHeld => ?_)
              clear hK K
              try simp only [Act.put, List.setIfInBounds_toArray, List.set_cons_zero, List.set_cons_succ]
              refine wpAnyH_ready (rs := [12]) (by kernel_rfl) (by simp) ?_
              refine AllReadyH.cons (o := { dst := some 58, op := Go.Op.call { callee := Go.Callee.builtin Go.Builtin.append, args := #[Go.Operand.tmp 46, Go.Operand.tmp 57], argTypes := #[46, 46] }, type := 46, pos := "l07_ivf.go:160", after := #[{ on := 0, ground := Go.Ground.data }, { on := 11, ground := Go.Ground.data }, { on := 11, ground := Go.Ground.chain }], guard := none }) rfl (fun K hK => ?_) AllReadyH.nil
              have hz3 := hb3.size
              have hown3 := own_ext hownD (ext_of_below hb3 nowhere) (fun _ _ h => h)
              have hp3 := own_ext hpD (ext_of_below hb3 nowhere) (fun _ _ h => h)
              refine step_append_hitsB _ _ rfl rfl w1.heap.size u11 ph.length ph rfl hown3 v3 _ rfl hI3 (by have := unhide HKL; have := unhide HPL; omega) (Nat.le_trans hzD hz3) ?_
              intro v5 w5 ho5 hb5 hE5 hor5
              have hp5 := own_ext hp3 hE5 (fun c h1 h2 => hdis c h2 h1)
              refine hK.out _ _ ((below_up (Nat.le_refl _) hHeld (Below.refl _ _)).trans hb5) (fun hHeld => ?_)
              clear hK K
              try simp only [Act.put, List.setIfInBounds_toArray, List.set_cons_zero, List.set_cons_succ]
              refine wpAnyH_take (i := 13) (oi := { dst := some 11, op := Go.Op.assign (Go.Operand.tmp 58), type := 46, pos := "l07_ivf.go:160", after := #[{ on := 12, ground := Go.Ground.data }, { on := 12, ground := Go.Ground.chain }, { on := 0, ground := Go.Ground.phase }, { on := 1, ground := Go.Ground.phase }, { on := 2, ground := Go.Ground.phase }, { on := 3, ground := Go.Ground.phase }, { on := 4, ground := Go.Ground.phase }, { on := 5, ground := Go.Ground.phase }, { on := 6, ground := Go.Ground.phase }, { on := 7, ground := Go.Ground.phase }, { on := 8, ground := Go.Ground.phase }, { on := 9, ground := Go.Ground.phase }, { on := 10, ground := Go.Ground.phase }, { on := 11, ground := Go.Ground.phase }, { on := 12, ground := Go.Ground.phase }], guard := none }) (v := ?vs13) rfl (by kernel_rfl) (by kernel_rfl) (by kernel_rfl) (fun _ _ _ h => h) (Or.inl ⟨by rfl, ?hs13⟩) hHeld ?rs13
              case hs13 =>
                intro wS hSw
                (try dsimp only at hSw)
                go_simp
                try with_reducible rfl
              case rs13 =>
              simp only [Act.put, List.setIfInBounds_toArray, List.set_cons_zero, List.set_cons_succ]
              refine wpAnyH_done (by kernel_rfl) ?_ _
              refine NoPanic.normal ?_
              have HB9 := hide hHeld
              have HO9 : Hid (w5.ownsRow w1.heap.size 66 2 v5 (ph ++ (hitsL ly.items q).map pairH).length (cells2 (ph ++ (hitsL ly.items q).map pairH))) := by
                show w5.ownsRow _ _ _ _ _ _
                rw [List.length_append]
                exact ho5
              have HP9 := hide hp5
              have HD9 : Hid (∀ c, v5.ownBlock = some c → (Value.slice (some ⟨gp, 0, none⟩) ps.length dp).ownBlock ≠ some c) := fun c h1 h2 => by
                rcases hor5 with h | h
                · exact hdis c (h.symm.trans h1) h2
                · have e1 : w3.heap.size = c := by simpa using h.symm.trans h1
                  have := (hp3.lt c h2).2
                  omega
              clear hHeld ho5 hb5 hE5 hp5 hp3 hown3 hor5
              go_wp2_with fail
              go_roundw
              case rel => exact ⟨j + 1, by omega, by go_num, by rw [unhide HST]; exact unhide HO9, unhide HD9, unhide HP9, unhide HB9⟩
              case measure => simp [intOf]; omega
            · obtain rfl : j = ps.length := by omega
              rw [List.take_length] at hown
              have hright := unhide HPR ps
              have hwf : ∀ p ∈ probedH x q ps, Wf2 p := fun p hp => oneB_wf (hright.2 p hp)
              have hphl : (probedH x q ps).length ≤ 180 := by omega
              generalize probedH x q ps = ph at *
              have L := l2Best _ ph k.toNat wr (isHits_row hwf hown) (by omega) (by omega)
              rw [show ((k.toNat : Nat) : Int) = k by omega] at L
              have HL2 := hide L
              have HWF := hide hwf
              have HR2 := hide ((unhide HR).keep hB)
              have HB3 := hide ((unhide HB).trans (hB.mono (unhide HB).size))
              clear L hown hdis hp hB hright hwf hphl
              go_wp2_with fail
              refine (unhide HL2).mono ?_
              rintro e w3 ⟨g3, c3, rfl, ho3, hb3⟩
              have hO := own_hits ho3 (best_wf (unhide HWF)) (by have := best_len k.toNat ph; omega)
              have hlm : (best k.toNat ph).length = ((best k.toNat ph).map dhit).length := (List.length_map _).symm
              rw [hlm] at hO ⊢
              clear hlm
              have bR := (unhide HR2).keep hb3
              have z0 : w3.cell? ⟨w.heap.size + 1, 0, none⟩ = some (.int .i64 0) := bR.at 0 _ rfl
              have z1 : w3.cell? ⟨w.heap.size + 1, 1, none⟩ = some (.slice none 0 0) := bR.at 1 _ rfl
              have f0 := bR.soft 0
              have f1 := bR.soft 1
              have l0 := bR.lt
              have HB9 := hide ((unhide HB3).trans (hb3.mono (unhide HB3).size))
              have hzz : w.heap.size + 1 < wr.heap.size := (unhide HR2).lt
              have HO9 := hide hO
              have HH9 : Hid (∀ u0 u1, IsHits ((w3.setCell ⟨w.heap.size + 1, 0, none⟩ u0).setCell ⟨w.heap.size + 1, 1, none⟩ u1) (.slice (some ⟨g3, 0, none⟩) ((best k.toNat ph).map dhit).length c3) (((best k.toNat ph).map dhit).map pairH)) := fun u0 u1 => by
                rw [pair_dhit, List.length_map]
                exact isHits_row (best_wf (unhide HWF)) (own_setC (own_setC ho3 hzz _) hzz _)
              clear hO hb3 bR ho3
              generalize ((best k.toNat ph).map dhit).length = n9 at *
              go_wp2_with fail
              refine bodyPost_ret (v := .agg #[.int .i64 0, .slice (some ⟨g3, 0, none⟩) n9 c3]) (by simp [results, Tryz.results21, go_sem, z0, z1]) rfl ?_
              rw [unhide HG]
              have hE : Ext (fun c => c = w.heap.size + 1) w3 ((w3.setCell ⟨w.heap.size + 1, 0, none⟩ (.int .i64 0)).setCell ⟨w.heap.size + 1, 1, none⟩ (.slice (some ⟨g3, 0, none⟩) n9 c3)) := ((Ext.refl (fun c => c = w.heap.size + 1) _).setCell ⟨w.heap.size + 1, 0, none⟩ _ rfl).setCell ⟨w.heap.size + 1, 1, none⟩ _ rfl
              exact ⟨[.int .i64 0, .slice (some ⟨g3, 0, none⟩) n9 c3], rfl, (own_hitsR (by decide) ((unhide HO9).ext hE (fun c h1 _ h3 => by omega))).reads, ⟨_, _, rfl, unhide HH9 _ _⟩, ((unhide HB9).setCell (by simp) _).setCell (by simp) _⟩
    · have HG : Hid (searchIvfR x q k n = ⟨vecFault q, []⟩) := by
        show searchIvfR x q k n = _
        rw [searchIvfR, if_pos hf, if_neg hfq]
      have hd : (vecFault q != 0) = true := by simpa using hfq
      clear hf hfq HQ HA
      go_wp2_with fail
      refine bodyPost_ret (v := .agg #[.int .i64 (vecFault q), .slice none 0 0]) (by simp [results, Tryz.results21, go_sem, z0, z1]) rfl ?_
      rw [unhide HG]
      exact ⟨[.int .i64 (vecFault q), .slice none 0 0], rfl, (own_codeHits (lo := 0) (hi := 0) (vcode_wf q)).reads, ⟨_, _, rfl, noHits _⟩, ((unhide HB).setCell (by simp) _).setCell (by simp) _⟩
  · have HG : Hid (searchIvfR x q k n = ⟨ivfFault x, []⟩) := if_neg hf
    have hd : (ivfFault x != 0) = true := by simpa using hf
    clear hf HA HQ
    go_wp2_with fail
    refine bodyPost_ret (v := .agg #[.int .i64 (ivfFault x), .slice none 0 0]) (by simp [results, Tryz.results21, go_sem, z0, z1]) rfl ?_
    rw [unhide HG]
    exact ⟨[.int .i64 (ivfFault x), .slice none 0 0], rfl, (own_codeHits (lo := 0) (hi := 0) (ivfFault_wf x)).reads, ⟨_, _, rfl, noHits _⟩, ((unhide HB).setCell (by simp) _).setCell (by simp) _⟩

end Go.Proofs.YtfgadegpdknocaaGreat

namespace Go.Proofs.YtfgadegpdknocaaGreat
open Go.RowKit

theorem cnt_hits7 (hs : List DHit) : cntAll Lay.tHit.cnt hs = 2 * hs.length := by
  induction hs with
  | nil => rfl
  | cons h hs ih => simp only [cntAll, ih, List.length_cons]; show 2 + 2 * hs.length = 2 * (hs.length + 1); omega
theorem searchIvf_few (x : DIvf) (q : List Int) (k n : Int) : Lay.tHitsResult.vcnt (searchIvfR x q k n) ≤ 100000000 := by
  rw [vcnt_HitsResult]
  show cntAll Lay.tHit.cnt (searchIvfR x q k n).hits ≤ 100000000
  rw [cnt_hits7]
  unfold searchIvfR
  split
  · split
    · split
      · rename_i hk
        have h1 := best_len k.toNat (probedH x q (probesI x.centers q n.toNat))
        simp only [kB, Bool.and_eq_true, decide_eq_true_eq] at hk
        show 2 * ((best k.toNat (probedH x q (probesI x.centers q n.toNat))).map dhit).length ≤ 100000000
        rw [List.length_map]
        omega
      · exact Nat.zero_le _
    · exact Nat.zero_le _
  · exact Nat.zero_le _
theorem lawSearchIvf (cs : List Value) (x : DIvf) (vq : Value) (q : List Int) (k n : Int) (w : World) (h : Lay.tIvf.Reads w cs x) (hq : (Lay.sl Lay.int).Reads w [vq] q) :
    Calls Tryz.prog 5 #[.agg cs.toArray, vq, .int .i64 k, .int .i64 n] w fun e w' => e = .returned (.bool true) ∧ Below w.heap.size w w' := by
  by_cases h2 : q.length ≤ 1048576
  · have hz : (Lay.sl Lay.int).sz q ≤ 1048576 := by rw [sz_ints]; exact h2
    by_cases hn : Lay.tIvf.sz x ≤ 1048576
    · exact lawx_SearchIvf cs x vq q k n (searchIvfR x q k n) w h hq hz hn (fun W a b ha hb => (specSearchIvf a x b q k n W ha hb).mono fun e w' ⟨c, h1, h2, _, h3⟩ => ⟨c, h1, h2, h3⟩) (fun W a b ha hb => implSearchIvf a x b q k n W ha hb) (searchIvf_few x q k n)
    · exact lawover_SearchIvf cs x vq q k n w h hq hz (by omega)
  · obtain ⟨ao, cap, rfl⟩ := open_sl hq
    exact lawmany_SearchIvf_1 _ ao q.length cap _ _ w (by omega)

end Go.Proofs.YtfgadegpdknocaaGreat

namespace Go.Proofs.YtfgadegpdknocaaGreat
open Go.RowKit Go.ChangeShapes Go.WideShapes

/-- Whatever reads as data of the type t lies as A says. -/
def Opens {α : Type} (A : Lay α) (t : TypeId) : Prop :=
  ∀ {H : Type} (enc : TypeId × Value → H) (W : World) (base : Nat) (spare : Nat → Bool) (held : Bool) (fuel : Nat) (cs : List Value) (x : DataW H × List MemPlace), DataW.trod enc Tryz.prog W base spare held fuel t cs = some x → ∃ y, A.Reads W cs y

theorem reads_pair {α β : Type} {A : Lay α} {B : Lay β} {W : World} {c1 c2 : List Value} {x : α} {y : β} (h : A.Reads W c1 x) (k : B.Reads W c2 y) : (Lay.pair A B).Reads W (c1 ++ c2) (x, y) := by
  obtain ⟨b1, h⟩ := h
  obtain ⟨b2, k⟩ := k
  exact ⟨b1 ++ b2, c1, c2, b1, b2, rfl, rfl, h, k⟩

theorem opens_int {t : TypeId} (ht : Tryz.prog.underlying t = some (.int .i64)) : Opens Lay.int t := by
  intro H enc W base spare held fuel cs x h
  obtain ⟨n, rfl, -, hw⟩ := DataW.trod_int ht h
  exact ⟨n, [], rfl, hw, rfl⟩
theorem opens_bool {t : TypeId} (ht : Tryz.prog.underlying t = some .bool) : Opens Lay.bool t := by
  intro H enc W base spare held fuel cs x h
  obtain ⟨b, rfl, -⟩ := DataW.trod_bool ht h
  exact ⟨b, [], rfl, rfl⟩
theorem opens_str {t : TypeId} (ht : Tryz.prog.underlying t = some .string) : Opens Lay.str t := by
  intro H enc W base spare held fuel cs x h
  obtain ⟨s, rfl, -, -⟩ := DataW.trod_string ht h
  exact ⟨s, [], rfl, rfl⟩

theorem opens_sl {α : Type} {A : Lay α} {t e : TypeId} (ht : Tryz.prog.underlying t = some (.slice e)) (hn : Tryz.prog.cellsOf e = A.n) (h0 : 0 < A.n) (h : Opens A e) : Opens (Lay.sl A) t := by
  intro H enc W base spare held fuel cs x hx
  rcases Go.Deep.open_slice ht hx with ⟨rfl, -⟩ | ⟨a, len, cap, m, n, D, Pl, rfl, hb, hl, hm, hmm, -, hel⟩
  · exact ⟨[], [], none, 0, rfl, ⟨Nat.le_refl _, by simp⟩, Or.inl ⟨rfl, rfl⟩⟩
  · have hlm : len ≤ m := by rw [hmm]; split <;> omega
    rw [hn] at hel
    have each : ∀ i, i < len → ∃ q : List Value × α, (∀ j, j < A.n → W.cell? (a.add (i * A.n + j)) = q.1[j]?) ∧ q.1.length = A.n ∧ A.Reads W q.1 q.2 := by
      intro i hi
      obtain ⟨cs', h1, h2⟩ := hel i (by omega)
      obtain ⟨-, hlen, hc⟩ := World.cells?_some h1
      obtain ⟨y, hy⟩ := h enc W base spare held n cs' _ h2
      refine ⟨(cs', y), fun j hj => ?_, hlen, hy⟩
      have := hc j hj
      rw [Addr.add_add] at this
      exact this
    by_cases hp : 0 < len
    · obtain ⟨b, off, spot⟩ := a
      obtain ⟨q0, c0, l0, -⟩ := each 0 hp
      have hc0 := c0 0 h0
      have hs0 : ∃ v, W.cell? ((⟨b, off, spot⟩ : Addr).add (0 * A.n + 0)) = some v := ⟨_, hc0.trans (List.getElem?_eq_getElem (by omega))⟩
      obtain ⟨v0, hv0⟩ := hs0
      have hspot : spot = none := by simpa [Addr.add] using World.cell?_spot hv0
      subst hspot
      have hbl : b < W.heap.size := by
        have := World.block_lt_of_cell? _ _ hv0
        simpa [Addr.add] using this
      have pick : ∃ f : (i : Nat) → i < len → List Value × α, ∀ i (hi : i < len), (∀ j, j < A.n → W.cell? ((⟨b, off, none⟩ : Addr).add (i * A.n + j)) = (f i hi).1[j]?) ∧ (f i hi).1.length = A.n ∧ A.Reads W (f i hi).1 (f i hi).2 :=
        ⟨fun i hi => Classical.choose (each i hi), fun i hi => Classical.choose_spec (each i hi)⟩
      obtain ⟨f, hf⟩ := pick
      have pick2 : ∃ g : (i : Nat) → i < len → List Nat, ∀ i (hi : i < len), A.lies W (f i hi).1 (f i hi).2 (g i hi) :=
        ⟨fun i hi => Classical.choose (hf i hi).2.2, fun i hi => Classical.choose_spec (hf i hi).2.2⟩
      obtain ⟨g, hg⟩ := pick2
      refine ⟨(List.finRange len).map (fun i => (f i.1 i.2).2), b :: ((List.finRange len).map (fun i => g i.1 i.2)).flatten, some ⟨b, off, none⟩, cap, by simp, ⟨by simpa using hl, by simp; unfold maxLen at hm; omega⟩, Or.inr ⟨b, off, (List.finRange len).map (fun i => (f i.1 i.2).1), (List.finRange len).map (fun i => g i.1 i.2), rfl, hbl, rfl, by simp, by simp, fun j h1 h2 h3 => ?_⟩⟩
      have hj : j < len := by simpa using h1
      refine ⟨fun k hk => ?_, ?_⟩
      · have := (hf j hj).1 k hk
        rw [Addr.add_lit] at this
        simpa [Nat.add_assoc] using this
      · simpa using hg j hj
    · obtain rfl : len = 0 := by omega
      exact ⟨[], [], some a, cap, rfl, ⟨hl, by simp⟩, Or.inl ⟨rfl, rfl⟩⟩

theorem open_arg {α : Type} {A : Lay α} {t : TypeId} (O : Opens A t) {H : Type} {enc : TypeId × Value → H} {W : World} {base : Nat} {spare : Nat → Bool} {held : Bool} {a : Option Addr} {len cap : Nat} {d : DataW H} {p : List MemPlace}
    (h : DataW.Trod enc Tryz.prog W base spare held t (.slice a len cap) d p) : ∃ y, A.Reads W [.slice a len cap] y := by
  obtain ⟨fuel, hf⟩ := h
  exact O enc W base spare held fuel _ _ (by simpa [Value.cells] using hf)
theorem open_arg_st {α : Type} {A : Lay α} {t : TypeId} (O : Opens A t) {H : Type} {enc : TypeId × Value → H} {W : World} {base : Nat} {spare : Nat → Bool} {held : Bool} {cs : Array Value} {d : DataW H} {p : List MemPlace}
    (h : DataW.Trod enc Tryz.prog W base spare held t (.agg cs) d p) : ∃ y, A.Reads W cs.toList y := by
  obtain ⟨fuel, hf⟩ := h
  exact O enc W base spare held fuel _ _ (by simpa [Value.cells] using hf)

end Go.Proofs.YtfgadegpdknocaaGreat

namespace Go.Proofs.YtfgadegpdknocaaGreat
open Go.RowKit

set_option maxRecDepth 10000 in
theorem opens_Center : Opens Lay.tCenter 127 := by
  intro H enc W base spare held fuel cs x h
  obtain ⟨xs, n, _, _, hlen, hl, hfi⟩ := DataW.trod_struct Tryz.underlying127 h
  rw [show Tryz.prog.cellsOf 127 = 1 by kernel_rfl] at hlen
  match cs, hlen with
  | [c0], _ =>
  match xs, hl with
  | [y0], _ =>
  have z0 : Tryz.prog.cellsOf 26 = 1 := by kernel_rfl
  have f0 : DataW.trod enc Tryz.prog W base spare held n 26 (([c0].drop 0).take (Tryz.prog.cellsOf 26)) = some y0 := hfi 0 _ rfl
  rw [z0] at f0
  obtain ⟨d0, r0⟩ := (opens_sl Tryz.underlying26 (by kernel_rfl) (by decide) (opens_int Tryz.underlying2)) enc W base spare held n _ _ f0
  exact ⟨⟨d0⟩, r0⟩

end Go.Proofs.YtfgadegpdknocaaGreat

namespace Go.Proofs.YtfgadegpdknocaaGreat
open Go.RowKit

set_option maxRecDepth 10000 in
theorem opens_Item : Opens Lay.tItem 180 := by
  intro H enc W base spare held fuel cs x h
  obtain ⟨xs, n, _, _, hlen, hl, hfi⟩ := DataW.trod_struct Tryz.underlying180 h
  rw [show Tryz.prog.cellsOf 180 = 2 by kernel_rfl] at hlen
  match cs, hlen with
  | [c0, c1], _ =>
  match xs, hl with
  | [y0, y1], _ =>
  have z0 : Tryz.prog.cellsOf 2 = 1 := by kernel_rfl
  have z1 : Tryz.prog.cellsOf 26 = 1 := by kernel_rfl
  have f0 : DataW.trod enc Tryz.prog W base spare held n 2 (([c0, c1].drop 0).take (Tryz.prog.cellsOf 2)) = some y0 := hfi 0 _ rfl
  rw [z0] at f0
  obtain ⟨d0, r0⟩ := (opens_int Tryz.underlying2) enc W base spare held n _ _ f0
  have f1 : DataW.trod enc Tryz.prog W base spare held n 26 (([c0, c1].drop 1).take (Tryz.prog.cellsOf 26)) = some y1 := hfi 1 _ rfl
  rw [z1] at f1
  obtain ⟨d1, r1⟩ := (opens_sl Tryz.underlying26 (by kernel_rfl) (by decide) (opens_int Tryz.underlying2)) enc W base spare held n _ _ f1
  exact ⟨⟨d0, d1⟩, (reads_pair r0 r1)⟩

end Go.Proofs.YtfgadegpdknocaaGreat

namespace Go.Proofs.YtfgadegpdknocaaGreat
open Go.RowKit

set_option maxRecDepth 10000 in
theorem opens_IvfList : Opens Lay.tIvfList 131 := by
  intro H enc W base spare held fuel cs x h
  obtain ⟨xs, n, _, _, hlen, hl, hfi⟩ := DataW.trod_struct Tryz.underlying131 h
  rw [show Tryz.prog.cellsOf 131 = 1 by kernel_rfl] at hlen
  match cs, hlen with
  | [c0], _ =>
  match xs, hl with
  | [y0], _ =>
  have z0 : Tryz.prog.cellsOf 129 = 1 := by kernel_rfl
  have f0 : DataW.trod enc Tryz.prog W base spare held n 129 (([c0].drop 0).take (Tryz.prog.cellsOf 129)) = some y0 := hfi 0 _ rfl
  rw [z0] at f0
  obtain ⟨d0, r0⟩ := (opens_sl Tryz.underlying129 (by kernel_rfl) (by decide) opens_Item) enc W base spare held n _ _ f0
  exact ⟨⟨d0⟩, r0⟩

end Go.Proofs.YtfgadegpdknocaaGreat

namespace Go.Proofs.YtfgadegpdknocaaGreat
open Go.RowKit

set_option maxRecDepth 10000 in
theorem opens_Ivf : Opens Lay.tIvf 25 := by
  intro H enc W base spare held fuel cs x h
  obtain ⟨xs, n, _, _, hlen, hl, hfi⟩ := DataW.trod_struct Tryz.underlying25 h
  rw [show Tryz.prog.cellsOf 25 = 2 by kernel_rfl] at hlen
  match cs, hlen with
  | [c0, c1], _ =>
  match xs, hl with
  | [y0, y1], _ =>
  have z0 : Tryz.prog.cellsOf 22 = 1 := by kernel_rfl
  have z1 : Tryz.prog.cellsOf 23 = 1 := by kernel_rfl
  have f0 : DataW.trod enc Tryz.prog W base spare held n 22 (([c0, c1].drop 0).take (Tryz.prog.cellsOf 22)) = some y0 := hfi 0 _ rfl
  rw [z0] at f0
  obtain ⟨d0, r0⟩ := (opens_sl Tryz.underlying22 (by kernel_rfl) (by decide) opens_Center) enc W base spare held n _ _ f0
  have f1 : DataW.trod enc Tryz.prog W base spare held n 23 (([c0, c1].drop 1).take (Tryz.prog.cellsOf 23)) = some y1 := hfi 1 _ rfl
  rw [z1] at f1
  obtain ⟨d1, r1⟩ := (opens_sl Tryz.underlying23 (by kernel_rfl) (by decide) opens_IvfList) enc W base spare held n _ _ f1
  exact ⟨⟨d0, d1⟩, (reads_pair r0 r1)⟩

end Go.Proofs.YtfgadegpdknocaaGreat
