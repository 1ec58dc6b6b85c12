/-
  Texts of this proof in one: SpecProbes, SpecCen, SpecNear, InB, SpecTab, SpecLists7, AppInts, SpecIntsB.
  Their conditions stand in their theorems.
-/
import Derived.Test.YtfgadegpdknocaaChecked
import Derived.Test.YtfgadegpdknocaaIp08
import Derived.Test.YtfgadegpdknocaaIp09
import Derived.Test.YtfgadegpdknocaaIp13
import Derived.Test.YtfgadegpdknocaaIp07
import Derived.Test.YtfgadegpdknocaaIp05
import Derived.Deep.RegionHeld3
import Derived.Test.YtfgadegpdknocaaIp01
import Derived.Test.YtfgadegpdknocaaIp02
import Derived.BigQuiet
import Derived.Deep.QuietTactic
import Derived.Maps.AppendAt
import Derived.WalkSmall

namespace Go.Proofs.Ytfgadegpdknocaa
open Go.RowKit

set_option maxRecDepth 100000 in
set_option maxHeartbeats 2000000 in
theorem specProbes (v : Value) (cs : List DCenter) (vq : Value) (q : List Int) (n : Nat) (w : World) (h : (Lay.sl Lay.tCenter).Reads w [v] cs) (hq : IsInts w vq q) (hfc : centersFault cs = 0) (hfq : vecFault q = 0) (hn : n ≤ 100) :
    Calls Try.prog 72 #[v, vq, .int .i64 n] w fun e w' => ∃ v', e = .returned v' ∧ w'.ownsRow w.heap.size 2 1 v' (probesI cs q n).length ((probesI cs q n).map (Value.int .i64)) ∧ Below w.heap.size w w' := by
  obtain ⟨⟨hn1, hn6⟩, hall⟩ := centersFault_zero hfc
  obtain ⟨ao, cap, rfl⟩ := open_sl h
  obtain ⟨b, off, rfl, hbl⟩ := Lay.sl_addr h hn1
  have hvq : ∃ a d, vq = .slice a q.length d := by obtain ⟨a, d, e, -⟩ := hq; exact ⟨a, d, e⟩
  obtain ⟨a2, d2, rfl⟩ := hvq
  have HA := hide hall
  have H := hide h
  have HQ := hide hq
  have HFQ := hide hfq
  have G0 : Grow Lay.tHit (w.alloc (.cells #[] 77)) w.heap.size 77 (.slice (some ⟨w.heap.size, 0, none⟩) 0 0) [] [] [] := Grow.nil (World.ownsRow_lit w #[] 0 (Nat.le_refl _) (Nat.zero_le _) rfl)
  have HG1 := hide G0
  have HB1 := hide ((Below.refl w.heap.size w).alloc (Nat.le_refl _) (.cells #[] 77))
  clear h hq hall hfc hfq G0
  go_enter Try.func72, Try.ntmps72
  go_wp2_with fail
  go_loopw [7, 8] (fun v i wr => ∃ (k : Nat) (rows : List (List Value)) (bls : List (List Nat)), k ≤ cs.length ∧ i = .int .i64 k ∧ Grow Lay.tHit wr w.heap.size 77 v rows (probeL cs q k) bls ∧ Below w.heap.size w wr) (fun _ i _ => cs.length - (intOf i).toNat)
  case atStart => exact ⟨0, [], [], Nat.zero_le _, rfl, unhide HG1, unhide HB1⟩
  case round =>
    obtain ⟨k, rows, bls, hk, rfl, hG, hB⟩ := hrel
    clear HG1 HB1
    by_cases hlt : k < cs.length
    · obtain ⟨row, hc, hr⟩ := Lay.row_at (unhide H) hlt
      obtain ⟨a1, d1, rfl, R1⟩ := open_Center hr
      have c1 : wr.cell? ⟨b, off + k, none⟩ = some (.slice a1 (cs[k]).vec.length d1) := (hB.cell (p := ⟨b, off + k, none⟩) hbl).trans (cen_cell (hc 0 (by decide)))
      have HT := hide (probeL_step cs q k hlt)
      have HL := hide (probeL_len cs q k)
      have hvx := unhide HA cs[k] (List.getElem_mem hlt)
      clear hc hr
      generalize hx : cs[k] = x at *
      clear hx
      have hbd := cscore_bd hvx (unhide HFQ)
      have HWS : Hid ((Lit.int .i64 (score3 x.vec q)).wf = true) := wf_of_bd (by omega)
      have HWI : Hid ((Lit.int .i64 (k : Int)).wf = true) := wf_of_bd (by omega)
      have L := hide (modelScore3 _ _ x.vec q wr ((Lay.ints_reads R1).later hB) ((unhide HQ).later hB) hvx (unhide HFQ))
      have HB := hide hB
      have HG := hide hG
      clear R1 hG hB hvx hbd
      generalize probeL cs q k = pk at *
      go_wp2_with fail
      refine (unhide L).mono ?_
      rintro e w3 ⟨rfl, hb⟩
      have hG3 := (unhide HG).later hb
      have hz3 : w.heap.size ≤ w3.heap.size := by have := (unhide HB).size; have := hb.size; omega
      replace HB := hide ((unhide HB).trans (hb.mono (unhide HB).size))
      have hlk := unhide HL
      clear c1 L HG hb
      generalize score3 x.vec q = sc at *
      go_wp2_with (at_builtin; refine wpList_append_Hit hG3 (row := [.int .i64 k, .int .i64 sc]) (x := ⟨k, sc⟩) (bl := []) (lies_Hit.2 ⟨rfl, rfl, unhide HWI, unhide HWS⟩) (by simp) rfl _ _ rfl rfl rfl ?hn9 hz3 ?_; case hn9 => omega)
      rintro g5 cp5 w5 hG5 hb5 - hl5 hz5 -
      have HG5 := hide hG5
      have HB5 := hide ((unhide HB).trans hb5)
      clear hG5 hb5 hG3 HB hlk hl5 hz5
      go_wp2_with fail
      go_roundw
      case rel => exact ⟨k + 1, _, _, by omega, by go_num, by rw [unhide HT]; exact unhide HG5, unhide HB5⟩
      case measure => simp [intOf]; omega
    · obtain rfl : k = cs.length := by omega
      obtain ⟨ho, hwf⟩ := grow_hits hG
      have HP : Hid (probesI cs q n = (best n ((probeL cs q cs.length).map pairH)).map Prod.fst) := rfl
      have hpl : ((probeL cs q cs.length).map pairH).length ≤ 6 := by rw [List.length_map, probeL_len]; omega
      generalize (probeL cs q cs.length).map pairH = ps at *
      have L := hide (l2Best _ ps n wr (isHits_row hwf ho) (by omega) hn)
      have HWF : Hid (∀ p ∈ best n ps, Wf2 p) := fun p hp => hwf p (best_mem hp)
      have hbn : (best n ps).length ≤ 100 := Nat.le_trans (best_len n ps) hn
      have HB := hide hB
      clear hG ho hwf hB
      generalize best n ps = bs at *
      go_wp2_with fail
      refine (unhide L).mono ?_
      rintro e w3 ⟨g3, cp3, rfl, ho3, hb3⟩
      have HH := hide (isHits_row (unhide HWF) ho3)
      replace HB := hide ((unhide HB).trans (hb3.mono (unhide HB).size))
      have O : (w3.alloc (.cells #[] 2)).ownsRow w3.heap.size 2 1 (.slice (some ⟨w3.heap.size, 0, none⟩) 0 0) 0 [] := World.ownsRow_lit w3 _ 0 (Nat.le_refl _) (by unfold maxLen; omega) rfl
      have HO := hide O
      have HB4 := hide ((Below.refl w3.heap.size w3).alloc (Nat.le_refl _) (.cells #[] 2))
      have hl3 := (ho3.lt g3 rfl).2
      clear L ho3 hb3 O
      go_wp2_with fail
      go_loopw [10, 11] (fun u i wr => ∃ j : Nat, j ≤ bs.length ∧ i = .int .i64 j ∧ wr.ownsRow w3.heap.size 2 1 u j ((bs.take j).map fun p => Value.int .i64 p.1) ∧ Below w3.heap.size w3 wr) (fun _ i _ => bs.length - (intOf i).toNat)
      case atStart => exact ⟨0, Nat.zero_le _, rfl, unhide HO, unhide HB4⟩
      case round =>
        obtain ⟨j, hj, rfl, hown, hB5⟩ := hrel
        clear HO HB4
        by_cases hlt2 : j < bs.length
        · obtain ⟨_, _, e9, -, -, -, hc9⟩ := (unhide HH).later hB5
          simp only [Value.slice.injEq] at e9
          obtain ⟨rfl, -, rfl⟩ := e9
          obtain ⟨b9, o9, e9, hc9⟩ := hc9 (by omega)
          simp only [Option.some.injEq, Addr.mk.injEq] at e9
          obtain ⟨rfl, rfl, -⟩ := e9
          have c9 := (hc9 j bs[j].1 bs[j].2 (by rw [List.getElem?_eq_getElem hlt2])).1
          rw [Nat.zero_add] at c9
          have HT9 : Hid ((bs.take (j + 1)).map (fun p => Value.int .i64 p.1) = (bs.take j).map (fun p => Value.int .i64 p.1) ++ [.int .i64 bs[j].1]) := by
            show (bs.take (j + 1)).map _ = _
            rw [List.take_succ_eq_append_getElem hlt2, List.map_append]
            rfl
          generalize (bs.take j).map (fun p => Value.int .i64 p.1) = X9 at *
          have hz9 := hB5.size
          have HB5 := hide hB5
          clear hc9 hB5
          generalize bs[j].1 = y at *
          go_wp2_with (at_builtin; refine wpList_append_int hown y rfl _ _ rfl rfl rfl ?hn9 hz9 ?_; case hn9 => omega)
          rintro g5 cp5 w5 ho5 - hb5 hl5 hz5
          have HO5 := hide ho5
          have HB6 := hide ((unhide HB5).trans hb5)
          clear ho5 hb5 hown HB5 hl5 hz5 c9
          go_wp2_with fail
          go_roundw
          case rel => exact ⟨j + 1, by omega, by go_num, by rw [unhide HT9]; exact unhide HO5, unhide HB6⟩
          case measure => simp [intOf]; omega
        · obtain rfl : j = bs.length := by omega
          rw [List.take_length] at hown
          have HO5 := hide (own_mono (unhide HB).size hown)
          have HB5 := hide ((unhide HB).trans (hB5.mono (unhide HB).size))
          clear hown hB5
          go_wp2_with fail
          go_ret
          refine ⟨_, rfl, ?_, unhide HB5⟩
          rw [unhide HP, List.length_map, List.map_map]
          exact unhide HO5

end Go.Proofs.Ytfgadegpdknocaa

namespace Go.Proofs.Ytfgadegpdknocaa
open Go.RowKit

set_option maxRecDepth 100000 in
set_option maxHeartbeats 1000000 in
theorem specCen_pos (b off cap : Nat) (xs : List DCenter) (w : World) (hn : 1 ≤ xs.length ∧ xs.length ≤ 6) (h : (Lay.sl Lay.tCenter).Reads w [.slice (some ⟨b, off, none⟩) xs.length cap] xs) (hbl : b < w.heap.size) :
    Calls Try.prog 103 #[.slice (some ⟨b, off, none⟩) xs.length cap] w fun e w' => e = .returned (.int .i64 (cenFrom xs)) ∧ Below w.heap.size w w' := by
  generalize hF0 : cenFrom xs = F0
  have H := hide h
  clear h
  have d1 : decide ((xs.length : Int) < 1) = false := by simp; omega
  have d2 : decide ((6 : Int) < (xs.length : Int)) = false := by simp; omega
  go_enter Try.func103, Try.ntmps103
  go_wp2_with fail
  go_loopw [3] (fun i wr => ∃ k : Nat, k ≤ xs.length ∧ i = .int .i64 k ∧ cenFrom (xs.drop k) = F0 ∧ Below w.heap.size w wr) (fun i _ => xs.length - (intOf i).toNat)
  case atStart => exact ⟨0, Nat.zero_le _, rfl, hF0, Below.refl _ _⟩
  case round =>
    obtain ⟨k, hk, rfl, hF, hB⟩ := hrel
    by_cases hlt : k < xs.length
    · obtain ⟨row, hc, hr⟩ := Lay.row_at (unhide H) hlt
      replace hr := hr.later hB
      obtain ⟨a1, d1, rfl, R1⟩ := open_Center hr
      have c1 : wr.cell? ⟨b, off + k, none⟩ = some (.slice a1 (xs[k]).vec.length d1) := (hB.cell (p := ⟨b, off + k, none⟩) hbl).trans (cen_cell (hc 0 (by decide)))
      rw [cenFrom_step xs k hlt] at hF
      clear hc hr
      generalize hx : xs[k] = x at *
      clear hx
      have hbr : b < wr.heap.size := Nat.lt_of_lt_of_le hbl hB.size
      have I1 := hide (Lay.ints_reads R1)
      have HF := hide hF
      have B1 := hide hB
      clear R1 hF hB
      go_wp2_with fail
      refine (modelFault _ x.vec _ (unhide I1)).mono ?_
      rintro e w1 ⟨rfl, rfl⟩
      by_cases hv : vecFault x.vec = 0
      · rw [hv]
        have hF := unhide HF
        rw [if_pos hv] at hF
        clear HF I1 hv
        have HF := hide hF
        clear hF
        go_wp2_with fail
        go_roundw
        case rel => exact ⟨k + 1, by omega, by go_num, unhide HF, unhide B1⟩
        case measure => simp [intOf]; omega
      · have hF := unhide HF
        rw [if_neg hv] at hF
        have hd : (vecFault x.vec != 0) = true := by simpa using hv
        have HF2 := hide hF
        clear HF hF I1 hv
        go_wp2_with fail
        go_ret
        exact ⟨by rw [← unhide HF2]; rfl, unhide B1⟩
    · obtain rfl : k = xs.length := by omega
      rw [List.drop_length] at hF
      have HF := hide hF
      have HB := hide hB
      clear hF hB H
      go_wp2_with fail
      go_ret
      exact ⟨by rw [← unhide HF]; rfl, unhide HB⟩

set_option maxRecDepth 10000 in
theorem specCen (v : Value) (xs : List DCenter) (w : World) (h : (Lay.sl Lay.tCenter).Reads w [v] xs) :
    Calls Try.prog 103 #[v] w fun e w' => e = .returned (.int .i64 (centersFault xs)) ∧ Below w.heap.size w w' := by
  have hbig := h.big
  obtain ⟨ao, cap, rfl⟩ := open_sl h
  by_cases hn : xs.length < 1 ∨ 6 < xs.length
  · have e : centersFault xs = 2 := by unfold centersFault; rw [if_pos hn]
    rw [e]
    clear h e
    go_enter Try.func103, Try.ntmps103
    by_cases h1 : xs.length < 1
    · have d1 : decide ((xs.length : Int) < 1) = true := by simp; omega
      go_wp2_with fail
      go_ret
      exact ⟨rfl, Below.refl _ _⟩
    · have d1 : decide ((xs.length : Int) < 1) = false := by simp; omega
      have d2 : decide ((6 : Int) < (xs.length : Int)) = true := by simp; omega
      go_wp2_with fail
      go_ret
      exact ⟨rfl, Below.refl _ _⟩
  · have e : centersFault xs = cenFrom xs := by unfold centersFault; rw [if_neg hn]
    rw [e]
    obtain ⟨b, off, rfl, hbl⟩ := Lay.sl_addr h (by omega)
    exact specCen_pos b off cap xs w (by omega) h hbl

end Go.Proofs.Ytfgadegpdknocaa

namespace Go.Proofs.Ytfgadegpdknocaa
open Go.RowKit

set_option maxRecDepth 100000 in
set_option maxHeartbeats 2000000 in
theorem specNear_pos (b off cap : Nat) (cs : List DCenter) (a2 : Option Addr) (d2 : Nat) (q : List Int) (w : World) (h : (Lay.sl Lay.tCenter).Reads w [.slice (some ⟨b, off, none⟩) cs.length cap] cs) (hbl : b < w.heap.size) (hq : IsInts w (.slice a2 q.length d2) q) (hc0 : centersFault cs = 0) (hv : vecFault q = 0) :
    Calls Try.prog 112 #[.slice (some ⟨b, off, none⟩) cs.length cap, .slice a2 q.length d2] w fun e w' => e = .returned (.int .i64 (near cs q : Nat)) ∧ Below w.heap.size w w' := by
  obtain ⟨hn, hall⟩ := centersFault_zero hc0
  have HQ := hide hq
  have HA := hide hall
  have HV := hide hv
  have H := hide h
  have HN : Hid (near cs q = (nearK cs q cs.length).1) := rfl
  have H1 : Hid (nearK cs q 1 = (0, score3 cs[0].vec q)) := by
    show nearK cs q 1 = _
    have hs := cscore_bd (hall cs[0] (List.getElem_mem (by omega))) hv
    rw [nearK_step cs q 0 (by omega), if_pos (by simp only [nearK]; omega)]
  clear h hq hall hc0 hv
  go_enter Try.func112, Try.ntmps112
  go_wp2_with fail
  go_loopw [5, 6] (fun a i wr => ∃ k : Nat, 1 ≤ k ∧ k ≤ cs.length ∧ i = .int .i64 k ∧ a = .int .i64 ((nearK cs q k).1 : Nat) ∧ Below w.heap.size w wr) (fun _ i _ => cs.length - (intOf i).toNat)
  case atStart => exact ⟨1, Nat.le_refl _, hn.1, rfl, by rw [unhide H1]; rfl, Below.refl _ _⟩
  case round =>
    obtain ⟨k, hk1, hk, rfl, rfl, hB⟩ := hrel
    clear H1
    by_cases hlt : k < cs.length
    · obtain ⟨row, hc, hr⟩ := Lay.row_at (unhide H) hlt
      obtain ⟨a1, d1, rfl, R1⟩ := open_Center hr
      have c1 : w.cell? ⟨b, off + k, none⟩ = some (.slice a1 (cs[k]).vec.length d1) := cen_cell (hc 0 (by decide))
      have HS := hide (nearK_step cs q k hlt)
      obtain ⟨hm1, hm2, -, -⟩ := nearK_right (unhide HA) (unhide HV) k hk1 hk
      have hm3 : (nearK cs q k).1 < cs.length := by omega
      rw [getD_at hm3] at hm2
      obtain ⟨row2, hc2, hr2⟩ := Lay.row_at (unhide H) hm3
      obtain ⟨a3, d3, rfl, R2⟩ := open_Center hr2
      have c2 : w.cell? ⟨b, off + (nearK cs q k).1, none⟩ = some (.slice a3 (cs[(nearK cs q k).1]).vec.length d3) := cen_cell (hc2 0 (by decide))
      have hvx := unhide HA cs[k] (List.getElem_mem hlt)
      have hvy := unhide HA cs[(nearK cs q k).1] (List.getElem_mem hm3)
      clear hc hr hc2 hr2
      generalize hx : cs[k] = x at *
      clear hx
      generalize hy : cs[(nearK cs q k).1] = y at *
      clear hy
      generalize hs : nearK cs q k = s at *
      clear hs
      obtain ⟨m, sl⟩ := s
      simp only at hm1 hm2 hm3 c2 ⊢
      have HM2 := hide hm2
      have I1 := hide (Lay.ints_reads R1)
      have I2 := hide (Lay.ints_reads R2)
      have HX := hide hvx
      have HY := hide hvy
      have HB := hide hB
      clear R1 R2 hB hvx hvy hm2
      have i1 : (0 : Int) ≤ (k : Int) := by omega
      have i2 : (k : Int) < (cs.length : Int) := by omega
      have i3 : (0 : Int) ≤ (m : Int) := by omega
      have i4 : (m : Int) < (cs.length : Int) := by omega
      go_wp2_with fail
      refine wp_region_noPanic ?_
      refine wp_region_held_drew (S := fun w' => Below w.heap.size w w') (by kernel_rfl) (unhide HB).drew (fun hHeld => ?_)
      generalize wr.drew = wD at hHeld ⊢
      refine wpAnyH_take (i := 0) (oi := { dst := some 13, op := Go.Op.move (Go.Operand.tmp 0), type := 28, pos := "l06_center.go:24", after := #[], guard := none }) (v := ?v0) rfl (by kernel_rfl) (by kernel_rfl) (by kernel_rfl) (fun _ _ _ h => h) (Or.inl ⟨by rfl, ?h0⟩) hHeld ?r0
      case h0 =>
        intro wS hSw
        (try dsimp only at hSw)
        go_simp
        try with_reducible rfl
      case r0 =>
      simp only [Act.put, List.setIfInBounds_toArray, List.set_cons_zero, List.set_cons_succ]
      refine wpAnyH_take (i := 1) (oi := { dst := some 14, op := Go.Op.move (Go.Operand.tmp 6), type := 3, pos := "l06_center.go:24", after := #[], guard := none }) (v := ?v1) rfl (by kernel_rfl) (by kernel_rfl) (by kernel_rfl) (fun _ _ _ h => h) (Or.inl ⟨by rfl, ?h1⟩) hHeld ?r1
      case h1 =>
        intro wS hSw
        (try dsimp only at hSw)
        go_simp
        try with_reducible rfl
      case r1 =>
      simp only [Act.put, List.setIfInBounds_toArray, List.set_cons_zero, List.set_cons_succ]
      refine wpAnyH_take (i := 2) (oi := { dst := some 15, op := Go.Op.indexAddr 28 (Go.Operand.tmp 13) (Go.Operand.tmp 14), type := 0, pos := "l06_center.go:24", after := #[{ on := 0, ground := Go.Ground.data }, { on := 1, ground := Go.Ground.data }], guard := none }) (v := ?v2) rfl (by kernel_rfl) (by kernel_rfl) (by kernel_rfl) (fun _ _ _ h => h) (Or.inl ⟨by rfl, ?h2⟩) hHeld ?r2
      case h2 =>
        intro wS hSw
        (try dsimp only at hSw)
        go_simp
        try with_reducible rfl
      case r2 =>
      simp only [Act.put, List.setIfInBounds_toArray, List.set_cons_zero, List.set_cons_succ]
      refine wpAnyH_take (i := 3) (oi := { dst := some 16, op := Go.Op.fieldAddr 104 (Go.Operand.tmp 15) 0, type := 0, pos := "l06_center.go:24", after := #[{ on := 2, ground := Go.Ground.data }], guard := none }) (v := ?v3) rfl (by kernel_rfl) (by kernel_rfl) (by kernel_rfl) (fun _ _ _ h => h) (Or.inl ⟨by rfl, ?h3⟩) hHeld ?r3
      case h3 =>
        intro wS hSw
        (try dsimp only at hSw)
        go_simp
        try with_reducible rfl
      case r3 =>
      simp only [Act.put, List.setIfInBounds_toArray, List.set_cons_zero, List.set_cons_succ]
      refine wpAnyH_take (i := 4) (oi := { dst := some 17, op := Go.Op.load 51 (Go.Operand.tmp 16), type := 51, pos := "l06_center.go:24", after := #[{ on := 3, ground := Go.Ground.data }], guard := none }) (v := ?v4) rfl (by kernel_rfl) (by kernel_rfl) (by kernel_rfl) (fun _ _ _ h => h) (Or.inl ⟨by rfl, ?h4⟩) hHeld ?r4
      case h4 =>
        intro wS hSw
        have y1 := (hSw.cell (p := ⟨b, off + k, none⟩) hbl).trans c1
        clear hSw
        (try dsimp only at hSw)
        go_simp
        try with_reducible rfl
      case r4 =>
      simp only [Act.put, List.setIfInBounds_toArray, List.set_cons_zero, List.set_cons_succ]
      refine wpAnyH_take (i := 5) (oi := { dst := some 18, op := Go.Op.move (Go.Operand.tmp 1), type := 51, pos := "l06_center.go:24", after := #[], guard := none }) (v := ?v5) rfl (by kernel_rfl) (by kernel_rfl) (by kernel_rfl) (fun _ _ _ h => h) (Or.inl ⟨by rfl, ?h5⟩) hHeld ?r5
      case h5 =>
        intro wS hSw
        (try dsimp only at hSw)
        go_simp
        try with_reducible rfl
      case r5 =>
      simp only [Act.put, List.setIfInBounds_toArray, List.set_cons_zero, List.set_cons_succ]
      refine wpAnyH_take (i := 7) (oi := { dst := some 20, op := Go.Op.move (Go.Operand.tmp 0), type := 28, pos := "l06_center.go:24", after := #[], guard := none }) (v := ?v7) rfl (by kernel_rfl) (by kernel_rfl) (by kernel_rfl) (fun _ _ _ h => h) (Or.inl ⟨by rfl, ?h7⟩) hHeld ?r7
      case h7 =>
        intro wS hSw
        (try dsimp only at hSw)
        go_simp
        try with_reducible rfl
      case r7 =>
      simp only [Act.put, List.setIfInBounds_toArray, List.set_cons_zero, List.set_cons_succ]
      refine wpAnyH_take (i := 8) (oi := { dst := some 21, op := Go.Op.move (Go.Operand.tmp 5), type := 3, pos := "l06_center.go:24", after := #[], guard := none }) (v := ?v8) rfl (by kernel_rfl) (by kernel_rfl) (by kernel_rfl) (fun _ _ _ h => h) (Or.inl ⟨by rfl, ?h8⟩) hHeld ?r8
      case h8 =>
        intro wS hSw
        (try dsimp only at hSw)
        go_simp
        try with_reducible rfl
      case r8 =>
      simp only [Act.put, List.setIfInBounds_toArray, List.set_cons_zero, List.set_cons_succ]
      refine wpAnyH_take (i := 9) (oi := { dst := some 22, op := Go.Op.indexAddr 28 (Go.Operand.tmp 20) (Go.Operand.tmp 21), type := 0, pos := "l06_center.go:24", after := #[{ on := 7, ground := Go.Ground.data }, { on := 8, ground := Go.Ground.data }], guard := none }) (v := ?v9) rfl (by kernel_rfl) (by kernel_rfl) (by kernel_rfl) (fun _ _ _ h => h) (Or.inl ⟨by rfl, ?h9⟩) hHeld ?r9
      case h9 =>
        intro wS hSw
        (try dsimp only at hSw)
        go_simp
        try with_reducible rfl
      case r9 =>
      simp only [Act.put, List.setIfInBounds_toArray, List.set_cons_zero, List.set_cons_succ]
      refine wpAnyH_take (i := 10) (oi := { dst := some 23, op := Go.Op.fieldAddr 104 (Go.Operand.tmp 22) 0, type := 0, pos := "l06_center.go:24", after := #[{ on := 9, ground := Go.Ground.data }], guard := none }) (v := ?v10) rfl (by kernel_rfl) (by kernel_rfl) (by kernel_rfl) (fun _ _ _ h => h) (Or.inl ⟨by rfl, ?h10⟩) hHeld ?r10
      case h10 =>
        intro wS hSw
        (try dsimp only at hSw)
        go_simp
        try with_reducible rfl
      case r10 =>
      simp only [Act.put, List.setIfInBounds_toArray, List.set_cons_zero, List.set_cons_succ]
      refine wpAnyH_take (i := 11) (oi := { dst := some 24, op := Go.Op.load 51 (Go.Operand.tmp 23), type := 51, pos := "l06_center.go:24", after := #[{ on := 10, ground := Go.Ground.data }], guard := none }) (v := ?v11) rfl (by kernel_rfl) (by kernel_rfl) (by kernel_rfl) (fun _ _ _ h => h) (Or.inl ⟨by rfl, ?h11⟩) hHeld ?r11
      case h11 =>
        intro wS hSw
        have y1 := (hSw.cell (p := ⟨b, off + m, none⟩) hbl).trans c2
        clear hSw
        (try dsimp only at hSw)
        go_simp
        try with_reducible rfl
      case r11 =>
      simp only [Act.put, List.setIfInBounds_toArray, List.set_cons_zero, List.set_cons_succ]
      refine wpAnyH_take (i := 12) (oi := { dst := some 25, op := Go.Op.move (Go.Operand.tmp 1), type := 51, pos := "l06_center.go:24", after := #[], guard := none }) (v := ?v12) rfl (by kernel_rfl) (by kernel_rfl) (by kernel_rfl) (fun _ _ _ h => h) (Or.inl ⟨by rfl, ?h12⟩) hHeld ?r12
      case h12 =>
        intro wS hSw
        (try dsimp only at hSw)
        go_simp
        try with_reducible rfl
      case r12 =>
      simp only [Act.put, List.setIfInBounds_toArray, List.set_cons_zero, List.set_cons_succ]
      refine wpAnyH_ready (rs := [6]) (by kernel_rfl) (by simp) ?_
      refine AllReadyH.cons (o := { dst := some 19, op := Go.Op.call { callee := Go.Callee.value (Go.Operand.func 120), args := #[Go.Operand.tmp 17, Go.Operand.tmp 18], argTypes := #[51, 51] }, type := 2, pos := "l06_center.go:24", after := #[{ on := 4, ground := Go.Ground.data }, { on := 5, ground := Go.Ground.data }], guard := none }) rfl (fun K hK => ?_) AllReadyH.nil
      go_simp
      go_at_call 120
      refine (modelScore3 _ _ x.vec q _ ((unhide I1).later hHeld) ((unhide HQ).later hHeld) (unhide HX) (unhide HV)).mono ?_
      rintro e w3 ⟨rfl, hbw⟩
      try go_wp2_with fail
      refine hK.out _ _ (hHeld.trans (hbw.mono hHeld.size)) (fun hHeld => ?_)
      clear hK K
      try simp only [Act.put, List.setIfInBounds_toArray, List.set_cons_zero, List.set_cons_succ]
      refine wpAnyH_ready (rs := [13]) (by kernel_rfl) (by simp) ?_
      refine AllReadyH.cons (o := { dst := some 26, op := Go.Op.call { callee := Go.Callee.value (Go.Operand.func 120), args := #[Go.Operand.tmp 24, Go.Operand.tmp 25], argTypes := #[51, 51] }, type := 2, pos := "l06_center.go:24", after := #[{ on := 11, ground := Go.Ground.data }, { on := 12, ground := Go.Ground.data }, { on := 6, ground := Go.Ground.chain }], guard := none }) rfl (fun K hK => ?_) AllReadyH.nil
      go_simp
      go_at_call 120
      refine (modelScore3 _ _ y.vec q _ ((unhide I2).later hHeld) ((unhide HQ).later hHeld) (unhide HY) (unhide HV)).mono ?_
      rintro e w3 ⟨rfl, hbw⟩
      try go_wp2_with fail
      refine hK.out _ _ (hHeld.trans (hbw.mono hHeld.size)) (fun hHeld => ?_)
      clear hK K
      try simp only [Act.put, List.setIfInBounds_toArray, List.set_cons_zero, List.set_cons_succ]
      refine wpAnyH_take (i := 14) (oi := { dst := some 27, op := Go.Op.binOp Go.BinOp.lss 2 (Go.Operand.tmp 19) (Go.Operand.tmp 26) 2, type := 4, pos := "l06_center.go:24", after := #[{ on := 6, ground := Go.Ground.data }, { on := 13, ground := Go.Ground.data }], guard := none }) (v := ?v14) rfl (by kernel_rfl) (by kernel_rfl) (by kernel_rfl) (fun _ _ _ h => h) (Or.inl ⟨by rfl, ?h14⟩) hHeld ?r14
      case h14 =>
        intro wS hSw
        (try dsimp only at hSw)
        go_simp
        try with_reducible rfl
      case r14 =>
      simp only [Act.put, List.setIfInBounds_toArray, List.set_cons_zero, List.set_cons_succ]
      refine wpAnyH_done (by kernel_rfl) ?_ _
      refine NoPanic.normal ?_
      have HB3 := hide hHeld
      clear hHeld c1 c2 HB I1 I2
      have hS2 := unhide HS
      rw [unhide HM2] at hS2
      have HS2 := hide hS2
      clear hS2 HS
      cases hd : decide (score3 x.vec q < score3 y.vec q) with
      | true =>
        have HS3 : Hid (nearK cs q (k + 1) = (k, score3 x.vec q)) := (unhide HS2).trans (if_pos (by simpa using hd))
        clear HS2
        go_wp2_with fail
        go_roundw
        case rel => exact ⟨k + 1, by omega, by omega, by go_num, by rw [unhide HS3], unhide HB3⟩
        case measure => simp [intOf]; omega
      | false =>
        have HS3 : Hid (nearK cs q (k + 1) = (m, score3 y.vec q)) := (unhide HS2).trans (if_neg (by simpa using hd))
        clear HS2
        go_wp2_with fail
        go_roundw
        case rel => exact ⟨k + 1, by omega, by omega, by go_num, by rw [unhide HS3], unhide HB3⟩
        case measure => simp [intOf]; omega
    · obtain rfl : k = cs.length := by omega
      have HB := hide hB
      clear hB H
      go_wp2_with fail
      go_ret
      exact ⟨rfl, unhide HB⟩

theorem specNear (v : Value) (cs : List DCenter) (vq : Value) (q : List Int) (w : World) (h : (Lay.sl Lay.tCenter).Reads w [v] cs) (hq : IsInts w vq q) (hc : centersFault cs = 0) (hv : vecFault q = 0) :
    Calls Try.prog 112 #[v, vq] w fun e w' => e = .returned (.int .i64 (near cs q : Nat)) ∧ Below w.heap.size w w' := by
  obtain ⟨ao, cap, rfl⟩ := open_sl h
  have hvq : ∃ a d, vq = .slice a q.length d := by obtain ⟨a, d, e, -⟩ := hq; exact ⟨a, d, e⟩
  obtain ⟨a2, d2, rfl⟩ := hvq
  obtain ⟨b, off, rfl, hbl⟩ := Lay.sl_addr h (centersFault_zero hc).1.1
  exact specNear_pos b off cap cs a2 d2 q w h hbl hq hc hv

end Go.Proofs.Ytfgadegpdknocaa

namespace Go.Proofs.Ytfgadegpdknocaa
open Go.RowKit

theorem inC (v lo hi : Int) (w : World) :
    Calls Try.prog 119 #[.int .i64 v, .int .i64 lo, .int .i64 hi] w fun e w' => e = .returned (.bool (decide (lo ≤ v) && decide (v ≤ hi))) ∧ w' = w := by
  by_cases h1 : lo ≤ v
  · have d1 : decide (lo ≤ v) = true := by simpa using h1
    rw [d1]
    cases d2 : decide (v ≤ hi) <;>
    · go_enter Try.func119, Try.ntmps119
      go_wp2_with fail
      go_ret
      exact ⟨rfl, rfl⟩
  · have d1 : decide (lo ≤ v) = false := by simpa using h1
    rw [d1]
    go_enter Try.func119, Try.ntmps119
    go_wp2_with fail
    go_ret
    exact ⟨rfl, rfl⟩
theorem idC (x : Int) (w : World) : Calls Try.prog 136 #[.int .i64 x] w fun e w' => e = .returned (.bool (decide (1 ≤ x) && decide (x ≤ 999))) ∧ w' = w := by
  go_enter Try.func136, Try.ntmps136
  go_wp2_with fail
  refine (inC x 1 999 _).mono ?_
  rintro e w1 ⟨rfl, rfl⟩
  go_wp2_with fail
  go_ret
  exact ⟨rfl, rfl⟩

end Go.Proofs.Ytfgadegpdknocaa

namespace Go.Proofs.Ytfgadegpdknocaa
open Go.RowKit

set_option maxRecDepth 100000 in
set_option maxHeartbeats 1000000 in
theorem specTab_pos (b off cap : Nat) (xs : List DItem) (w : World) (hn : xs.length ≤ 30) (h : (Lay.sl Lay.tItem).Reads w [.slice (some ⟨b, off, none⟩) xs.length cap] xs) (hbl : b < w.heap.size) :
    Calls Try.prog 110 #[.slice (some ⟨b, off, none⟩) xs.length cap] w fun e w' => e = .returned (.int .i64 (tabFrom none xs)) ∧ Below w.heap.size w w' := by
  generalize hF0 : tabFrom none xs = F0
  have H := hide h
  clear h
  go_enter Try.func110, Try.ntmps110
  go_wp2_with fail
  go_loopw [3] (fun i wr => ∃ k : Nat, k ≤ xs.length ∧ i = .int .i64 k ∧ tabFrom (idAhead xs k) (xs.drop k) = F0 ∧ Below w.heap.size w wr) (fun i _ => xs.length - (intOf i).toNat)
  case atStart => exact ⟨0, Nat.zero_le _, rfl, hF0, Below.refl _ _⟩
  case round =>
    obtain ⟨k, hk, rfl, hF, hB⟩ := hrel
    by_cases hlt : k < xs.length
    · obtain ⟨row, hc, hr⟩ := Lay.row_at (unhide H) hlt
      replace hr := hr.later hB
      obtain ⟨a1, d1, rfl, R1⟩ := open_Item hr
      have c0 : wr.cell? ⟨b, off + k * 2, none⟩ = some (.int .i64 (xs[k]).id) := (hB.cell (p := ⟨b, off + k * 2, none⟩) hbl).trans (hc 0 (by decide))
      have c1 : wr.cell? ⟨b, off + k * 2 + 1, none⟩ = some (.slice a1 (xs[k]).vec.length d1) := (hB.cell (p := ⟨b, off + k * 2 + 1, none⟩) hbl).trans (hc 1 (by decide))
      have HP : Hid (∀ m, k = m + 1 → ∃ z, idAhead xs (m + 1) = some z ∧ wr.cell? ⟨b, off + m * 2, none⟩ = some (.int .i64 z)) := by
        rintro m rfl
        have hm : m < xs.length := by omega
        obtain ⟨row2, hc2, hr2⟩ := Lay.row_at (unhide H) hm
        obtain ⟨a2, d2, rfl, -⟩ := open_Item hr2
        exact ⟨_, idAhead_succ xs m hm, (hB.cell (p := ⟨b, off + m * 2, none⟩) hbl).trans (hc2 0 (by decide))⟩
      rw [tabFrom_step xs k hlt] at hF
      clear hc hr
      generalize hx : xs[k] = x at *
      clear hx
      have hbr : b < wr.heap.size := Nat.lt_of_lt_of_le hbl hB.size
      have I1 := hide (Lay.ints_reads R1)
      have HF := hide hF
      have B1 := hide hB
      clear R1 hF hB
      go_wp2_with fail
      refine (idC x.id _).mono ?_
      rintro e w1 ⟨rfl, rfl⟩
      rw [show (decide (1 ≤ x.id) && decide (x.id ≤ 999)) = idB x.id from rfl]
      cases hid : idB x.id with
      | false =>
        have hF := unhide HF
        rw [hid, if_neg (by simp)] at hF
        have HF2 := hide hF
        clear HF hF hid HP
        go_wp2_with fail
        go_ret
        exact ⟨by rw [← unhide HF2]; rfl, unhide B1⟩
      | true =>
        have hF := unhide HF
        rw [hid, if_pos rfl] at hF
        clear HF hid
        have HF := hide hF
        clear hF
        go_wp2_with fail
        refine (modelFault _ x.vec _ (unhide I1)).mono ?_
        rintro e w1 ⟨rfl, rfl⟩
        by_cases hv : vecFault x.vec = 0
        · rw [hv]
          have hF := unhide HF
          rw [if_pos hv] at hF
          clear HF I1 hv
          have HF := hide hF
          clear hF
          by_cases hk0 : k = 0
          · subst hk0
            have hF := unhide HF
            rw [idAhead_zero, Option.all_none, if_pos rfl] at hF
            have HF3 := hide hF
            clear HF hF HP
            have g0 : decide ((0 : Int) < 0) = false := by decide
            go_wp2_with fail
            go_quiet (fail)
            all_goals go_wp2_with fail
            all_goals exact ⟨⟨0 + 1, by omega, by go_num, unhide HF3, below_drewN (unhide B1) _⟩, by simp [intOf]; omega⟩
          · obtain ⟨m, rfl⟩ : ∃ m, k = m + 1 := ⟨k - 1, by omega⟩
            obtain ⟨z, e1, p0⟩ := unhide HP m rfl
            have hF := unhide HF
            rw [e1, Option.all_some] at hF
            have HF3 := hide hF
            clear HF hF HP e1 hk0
            have g1 : decide ((0 : Int) < (m : Int) + 1) = true := by simp
            have g4 : IntKind.i64.wrap ((m : Int) + 1 - 1) = (m : Int) := by simp only [IntKind.wrap_i64]; omega
            have g9 : IntKind.i64.wrap (m : Int) = (m : Int) := by simp only [IntKind.wrap_i64]; omega
            have g2 : (m : Int) + 1 - 1 = (m : Int) := by omega
            have g3 : (m : Int) < (xs.length : Int) := by omega
            have g5 : (0 : Int) ≤ (m : Int) := by omega
            have g6 : (m : Int) + 1 < (xs.length : Int) := by omega
            have g7 : (0 : Int) ≤ (m : Int) + 1 := by omega
            have g8 : ((m : Int) + 1).toNat = m + 1 := by omega
            cases hq : decide (z < x.id) with
            | true =>
              have hF := unhide HF3
              rw [hq, if_pos rfl] at hF
              have HF4 := hide hF
              have q1 : decide (x.id ≤ z) = false := by simp at hq ⊢; omega
              clear hF HF3 hq
              go_wp2_with fail
              go_quiet (fail)
              all_goals go_wp2_with fail
              all_goals exact ⟨⟨m + 1 + 1, by omega, by go_num, unhide HF4, below_drewN (unhide B1) _⟩, by simp [intOf]; omega⟩
            | false =>
              have hF := unhide HF3
              rw [hq, if_neg (by simp)] at hF
              have HF4 := hide hF
              have q1 : decide (x.id ≤ z) = true := by simp at hq ⊢; omega
              clear hF HF3 hq
              go_wp2_with fail
              go_quiet (fail)
              all_goals go_wp2_with fail
              all_goals go_ret
              all_goals exact ⟨by rw [← unhide HF4]; rfl, below_drewN (unhide B1) _⟩
        · have hF := unhide HF
          rw [if_neg hv] at hF
          have hd : (vecFault x.vec != 0) = true := by simpa using hv
          have HF2 := hide hF
          clear HF hF HP I1 hv
          go_wp2_with fail
          go_ret
          exact ⟨by rw [← unhide HF2]; rfl, unhide B1⟩
    · obtain rfl : k = xs.length := by omega
      rw [List.drop_length] at hF
      have HF := hide hF
      have HB := hide hB
      clear hF hB H
      go_wp2_with fail
      go_ret
      exact ⟨by rw [← unhide HF]; rfl, unhide HB⟩

set_option maxRecDepth 10000 in
/-- l4Fault of the model. -/
theorem specTab (v : Value) (xs : List DItem) (w : World) (h : (Lay.sl Lay.tItem).Reads w [v] xs) :
    Calls Try.prog 110 #[v] w fun e w' => e = .returned (.int .i64 (tableFault xs)) ∧ Below w.heap.size w w' := by
  obtain ⟨ao, cap, rfl⟩ := open_sl h
  by_cases hn : xs.length ≤ 30
  · have e : tableFault xs = tabFrom none xs := by unfold tableFault; rw [if_neg (by omega)]
    rw [e]
    by_cases hp : 0 < xs.length
    · obtain ⟨b, off, rfl, hbl⟩ := Lay.sl_addr h hp
      exact specTab_pos b off cap xs w hn h hbl
    · obtain rfl : xs = [] := List.eq_nil_of_length_eq_zero (by omega)
      clear h e hn hp
      go_enter Try.func110, Try.ntmps110
      go_wp2_with fail
      refine wp_loop_rounds 1 ?_
      rw [rounds_succ]
      go_wp2_with fail
      go_ret
      exact ⟨rfl, Below.refl _ _⟩
  · have e : tableFault xs = 2 := by unfold tableFault; rw [if_pos (by omega)]
    rw [e]
    have hd : decide ((30 : Int) < (xs.length : Int)) = true := by simp; omega
    clear h e
    go_enter Try.func110, Try.ntmps110
    go_wp2_with fail
    go_ret
    exact ⟨rfl, Below.refl _ _⟩

end Go.Proofs.Ytfgadegpdknocaa

namespace Go.Proofs.Ytfgadegpdknocaa
open Go.RowKit

set_option maxRecDepth 100000 in
set_option maxHeartbeats 4000000 in
theorem specLists7 (b : Nat) (x : DIvf) (ac : Option Addr) (dc : Nat) (al : Option Addr) (dl : Nat) (w : World) (h : IvfAt w b x ac dc al dl) (hcf : centersFault x.centers = 0) (hn : x.lists.length ≤ 1000000) :
    Calls Try.prog 104 #[.pointer (some ⟨b, 0, none⟩)] w fun e w' => e = .returned (.int .i64 (listsFrom x.centers 0 x.lists)) ∧ Below w.heap.size w w' := by
  generalize hF0 : listsFrom x.centers 0 x.lists = F0
  have HX := hide h
  have HCF := hide hcf
  clear h hcf
  go_enter Try.func104, Try.ntmps104
  go_wp2_with fail
  go_loopw [3] (fun i wr => ∃ k : Nat, k ≤ x.lists.length ∧ i = .int .i64 k ∧ listsFrom x.centers k (x.lists.drop k) = F0 ∧ Below w.heap.size w wr) (fun i _ => x.lists.length - (intOf i).toNat)
  case atStart => exact ⟨0, Nat.zero_le _, rfl, hF0, Below.refl _ _⟩
  case round =>
    obtain ⟨k, hk, rfl, hF, hB⟩ := hrel
    have c1 := ((unhide HX).later hB).c1
    by_cases hlt : k < x.lists.length
    · obtain ⟨bl, ol, rfl, hbl⟩ := Lay.sl_addr (unhide HX).lists (by omega)
      obtain ⟨row, hc, hr⟩ := Lay.row_at (unhide HX).lists hlt
      obtain ⟨a5, d5, rfl, R5⟩ := open_IvfList hr
      have c2 : wr.cell? ⟨bl, ol + k, none⟩ = some (.slice a5 (x.lists[k]).items.length d5) := (hB.cell (p := ⟨bl, ol + k, none⟩) hbl).trans (one_cell (hc 0 (by decide)))
      rw [listsFrom_step x.centers x.lists k hlt] at hF
      clear hc hr
      generalize hls : x.lists[k] = l at *
      clear hls
      have HR5 := hide R5
      have LT := hide (specTab _ l.items wr (R5.later hB))
      have HF := hide hF
      have HB := hide hB
      clear R5 hF hB
      go_wp2_with fail
      refine (unhide LT).mono ?_
      rintro e w2 ⟨rfl, hb2⟩
      replace HB := hide ((unhide HB).trans (hb2.mono (unhide HB).size))
      clear hb2 LT c1 c2
      by_cases hft : tableFault l.items = 0
      · rw [hft]
        obtain ⟨hl30, hla, -⟩ := tableFault_zero hft
        have HLA := hide hla
        have HFT := hide hft
        clear hla hft
        go_wp2_with fail
        rename World => wo
        go_loopw [6] (fun i wr => ∃ j : Nat, j ≤ l.items.length ∧ i = .int .i64 j ∧ atB x.centers k (l.items.take j) = true ∧ Below w.heap.size w wr) (fun i _ => l.items.length - (intOf i).toNat)
        case atStart => exact ⟨0, Nat.zero_le _, rfl, rfl, unhide HB⟩
        case round =>
          obtain ⟨j, hj, rfl, hat, hBr⟩ := hrel
          clear HB
          by_cases hlj : j < l.items.length
          · obtain ⟨b6, o6, rfl, hb6⟩ := Lay.sl_addr (unhide HR5) (by omega)
            obtain ⟨row, hc, hr⟩ := Lay.row_at (unhide HR5) hlj
            obtain ⟨a7, d7, rfl, R7⟩ := open_Item hr
            have c4 : w.cell? ⟨b6, o6 + j * 2 + 1, none⟩ = some (.slice a7 (l.items[j]).vec.length d7) := hc 1 (by decide)
            have hvx := (unhide HLA l.items[j] (List.getElem_mem hlj)).2
            have hats : atB x.centers k (l.items.take (j + 1)) = (near x.centers (l.items[j]).vec == k) := by
              rw [atB, List.take_succ_eq_append_getElem hlj, List.all_append, show (l.items.take j).all (fun y => near x.centers y.vec == k) = true from hat]
              simp
            have hbad : (near x.centers (l.items[j]).vec == k) = false → atB x.centers k l.items = false := fun hq => by
              rw [atB, List.all_eq_false]
              exact ⟨_, List.getElem_mem hlj, by rw [hq]; simp⟩
            clear hc hr hat
            generalize l.items[j] = y at *
            have LN : Hid (∀ W, Below w.heap.size w W → Calls Try.prog 112 #[.slice ac x.centers.length dc, .slice a7 y.vec.length d7] W fun e w' => e = .returned (.int .i64 (near x.centers y.vec : Nat)) ∧ Below W.heap.size W w') := fun W hW => specNear _ x.centers _ y.vec W ((unhide HX).later hW).cens ((Lay.ints_reads R7).later hW) (unhide HCF) hvx
            have HBr := hide hBr
            have HATS := hide hats
            have HBAD := hide hbad
            clear R7 hvx hBr hats hbad
            generalize near x.centers y.vec = nr at *
            have i1 : (0 : Int) ≤ (j : Int) := by omega
            have i2 : (j : Int) < (l.items.length : Int) := by omega
            by_cases he : nr = k
            · subst he
              have hd : (((nr : Nat) : Int) != ((nr : Nat) : Int)) = false := by simp
              have HAT2 : Hid (atB x.centers nr (l.items.take (j + 1)) = true) := (unhide HATS).trans (by simp)
              clear HATS HBAD
              go_wp2_with fail
              refine wp_region_noPanic ?_
              refine wp_region_held_drew (S := fun w' => Below w.heap.size w w') (by kernel_rfl) (unhide HBr).drew (fun hHeld => ?_)
              generalize wr.drew = wD at hHeld ⊢
              refine wpAnyH_take (i := 0) (oi := { dst := some 35, op := Go.Op.move (Go.Operand.tmp 0), type := 89, pos := "l07_ivf.go:25", after := #[], guard := none }) (v := ?va0_1) rfl (by kernel_rfl) (by kernel_rfl) (by kernel_rfl) (fun _ _ _ h => h) (Or.inl ⟨by rfl, ?ha0_1⟩) hHeld ?ra0_1
              case ha0_1 =>
                intro wS hSw
                (try dsimp only at hSw)
                go_simp
                try with_reducible rfl
              case ra0_1 =>
              simp only [Act.put, List.setIfInBounds_toArray, List.set_cons_zero, List.set_cons_succ]
              refine wpAnyH_take (i := 1) (oi := { dst := some 36, op := Go.Op.nilCheck (Go.Operand.tmp 35), type := 0, pos := "l07_ivf.go:25", after := #[{ on := 0, ground := Go.Ground.data }], guard := none }) (v := ?va1_2) rfl (by kernel_rfl) (by kernel_rfl) (by kernel_rfl) (fun _ _ _ h => h) (Or.inl ⟨by rfl, ?ha1_2⟩) hHeld ?ra1_2
              case ha1_2 =>
                intro wS hSw
                (try dsimp only at hSw)
                go_simp
                try with_reducible rfl
              case ra1_2 =>
              simp only [Act.put, List.setIfInBounds_toArray, List.set_cons_zero, List.set_cons_succ]
              refine wpAnyH_take (i := 2) (oi := { dst := some 37, op := Go.Op.fieldAddr 31 (Go.Operand.tmp 36) 0, type := 0, pos := "l07_ivf.go:25", after := #[{ on := 1, ground := Go.Ground.data }], guard := none }) (v := ?va2_3) rfl (by kernel_rfl) (by kernel_rfl) (by kernel_rfl) (fun _ _ _ h => h) (Or.inl ⟨by rfl, ?ha2_3⟩) hHeld ?ra2_3
              case ha2_3 =>
                intro wS hSw
                (try dsimp only at hSw)
                go_simp
                try with_reducible rfl
              case ra2_3 =>
              simp only [Act.put, List.setIfInBounds_toArray, List.set_cons_zero, List.set_cons_succ]
              refine wpAnyH_take (i := 3) (oi := { dst := some 38, op := Go.Op.load 28 (Go.Operand.tmp 37), type := 28, pos := "l07_ivf.go:25", after := #[{ on := 2, ground := Go.Ground.data }], guard := none }) (v := ?va3_4) rfl (by kernel_rfl) (by kernel_rfl) (by kernel_rfl) (fun _ _ _ h => h) (Or.inl ⟨by rfl, ?ha3_4⟩) hHeld ?ra3_4
              case ha3_4 =>
                intro wS hSw
                have y0 := ((unhide HX).later hSw).c0
                clear hSw
                (try dsimp only at hSw)
                go_simp
                try with_reducible rfl
              case ra3_4 =>
              simp only [Act.put, List.setIfInBounds_toArray, List.set_cons_zero, List.set_cons_succ]
              refine wpAnyH_take (i := 4) (oi := { dst := some 39, op := Go.Op.move (Go.Operand.tmp 4), type := 42, pos := "l07_ivf.go:25", after := #[], guard := none }) (v := ?va4_5) rfl (by kernel_rfl) (by kernel_rfl) (by kernel_rfl) (fun _ _ _ h => h) (Or.inl ⟨by rfl, ?ha4_5⟩) hHeld ?ra4_5
              case ha4_5 =>
                intro wS hSw
                (try dsimp only at hSw)
                go_simp
                try with_reducible rfl
              case ra4_5 =>
              simp only [Act.put, List.setIfInBounds_toArray, List.set_cons_zero, List.set_cons_succ]
              refine wpAnyH_take (i := 5) (oi := { dst := some 40, op := Go.Op.move (Go.Operand.tmp 6), type := 3, pos := "l07_ivf.go:25", after := #[], guard := none }) (v := ?va5_6) rfl (by kernel_rfl) (by kernel_rfl) (by kernel_rfl) (fun _ _ _ h => h) (Or.inl ⟨by rfl, ?ha5_6⟩) hHeld ?ra5_6
              case ha5_6 =>
                intro wS hSw
                (try dsimp only at hSw)
                go_simp
                try with_reducible rfl
              case ra5_6 =>
              simp only [Act.put, List.setIfInBounds_toArray, List.set_cons_zero, List.set_cons_succ]
              refine wpAnyH_take (i := 6) (oi := { dst := some 41, op := Go.Op.indexAddr 42 (Go.Operand.tmp 39) (Go.Operand.tmp 40), type := 0, pos := "l07_ivf.go:25", after := #[{ on := 4, ground := Go.Ground.data }, { on := 5, ground := Go.Ground.data }], guard := none }) (v := ?va6_7) rfl (by kernel_rfl) (by kernel_rfl) (by kernel_rfl) (fun _ _ _ h => h) (Or.inl ⟨by rfl, ?ha6_7⟩) hHeld ?ra6_7
              case ha6_7 =>
                intro wS hSw
                (try dsimp only at hSw)
                go_simp
                try with_reducible rfl
              case ra6_7 =>
              simp only [Act.put, List.setIfInBounds_toArray, List.set_cons_zero, List.set_cons_succ]
              refine wpAnyH_take (i := 7) (oi := { dst := some 42, op := Go.Op.fieldAddr 106 (Go.Operand.tmp 41) 1, type := 0, pos := "l07_ivf.go:25", after := #[{ on := 6, ground := Go.Ground.data }], guard := none }) (v := ?va7_8) rfl (by kernel_rfl) (by kernel_rfl) (by kernel_rfl) (fun _ _ _ h => h) (Or.inl ⟨by rfl, ?ha7_8⟩) hHeld ?ra7_8
              case ha7_8 =>
                intro wS hSw
                (try dsimp only at hSw)
                go_simp
                try with_reducible rfl
              case ra7_8 =>
              simp only [Act.put, List.setIfInBounds_toArray, List.set_cons_zero, List.set_cons_succ]
              refine wpAnyH_take (i := 8) (oi := { dst := some 43, op := Go.Op.load 51 (Go.Operand.tmp 42), type := 51, pos := "l07_ivf.go:25", after := #[{ on := 7, ground := Go.Ground.data }], guard := none }) (v := ?va8_9) rfl (by kernel_rfl) (by kernel_rfl) (by kernel_rfl) (fun _ _ _ h => h) (Or.inl ⟨by rfl, ?ha8_9⟩) hHeld ?ra8_9
              case ha8_9 =>
                intro wS hSw
                have y1 := (hSw.cell (p := ⟨b6, o6 + j * 2 + 1, none⟩) hb6).trans c4
                clear hSw
                (try dsimp only at hSw)
                go_simp
                try with_reducible rfl
              case ra8_9 =>
              simp only [Act.put, List.setIfInBounds_toArray, List.set_cons_zero, List.set_cons_succ]
              refine wpAnyH_take (i := 10) (oi := { dst := some 45, op := Go.Op.move (Go.Operand.tmp 3), type := 3, pos := "l07_ivf.go:25", after := #[], guard := none }) (v := ?va10_10) rfl (by kernel_rfl) (by kernel_rfl) (by kernel_rfl) (fun _ _ _ h => h) (Or.inl ⟨by rfl, ?ha10_10⟩) hHeld ?ra10_10
              case ha10_10 =>
                intro wS hSw
                (try dsimp only at hSw)
                go_simp
                try with_reducible rfl
              case ra10_10 =>
              simp only [Act.put, List.setIfInBounds_toArray, List.set_cons_zero, List.set_cons_succ]
              refine wpAnyH_ready (rs := [9]) (by kernel_rfl) (by simp) ?_
              refine AllReadyH.cons (o := { dst := some 44, op := Go.Op.call { callee := Go.Callee.value (Go.Operand.func 112), args := #[Go.Operand.tmp 38, Go.Operand.tmp 43], argTypes := #[28, 51] }, type := 2, pos := "l07_ivf.go:25", after := #[{ on := 3, ground := Go.Ground.data }, { on := 8, ground := Go.Ground.data }], guard := none }) rfl (fun K hK => ?_) AllReadyH.nil
              go_simp
              go_at_call 112
              refine (unhide LN _ hHeld).mono ?_
              rintro e w3 ⟨rfl, hbw⟩
              try go_wp2_with fail
              refine hK.out _ _ (hHeld.trans (hbw.mono hHeld.size)) (fun hHeld => ?_)
              clear hK K
              try simp only [Act.put, List.setIfInBounds_toArray, List.set_cons_zero, List.set_cons_succ]
              refine wpAnyH_take (i := 11) (oi := { dst := some 46, op := Go.Op.binOp Go.BinOp.neq 2 (Go.Operand.tmp 44) (Go.Operand.tmp 45) 2, type := 4, pos := "l07_ivf.go:25", after := #[{ on := 9, ground := Go.Ground.data }, { on := 10, ground := Go.Ground.data }], guard := none }) (v := ?va11_11) rfl (by kernel_rfl) (by kernel_rfl) (by kernel_rfl) (fun _ _ _ h => h) (Or.inl ⟨by rfl, ?ha11_11⟩) hHeld ?ra11_11
              case ha11_11 =>
                intro wS hSw
                (try dsimp only at hSw)
                go_simp
                try with_reducible rfl
              case ra11_11 =>
              simp only [Act.put, List.setIfInBounds_toArray, List.set_cons_zero, List.set_cons_succ]
              refine wpAnyH_done (by kernel_rfl) ?_ _
              refine NoPanic.normal ?_
              have HB9 := hide hHeld
              clear hHeld
              go_wp2_with fail
              go_roundw
              case rel => exact ⟨j + 1, by omega, by go_num, unhide HAT2, unhide HB9⟩
              case measure => simp [intOf]; omega
            · have hd : (((nr : Nat) : Int) != ((k : Nat) : Int)) = true := by rw [bne_iff_ne]; omega
              have HF1 : Hid (1 = F0) := by
                have := unhide HF
                rw [show listFault x.centers k l.items = 1 by rw [listFault, if_pos (unhide HFT), unhide HBAD (by simpa using he), if_neg (by simp)], if_neg (by decide)] at this
                exact this
              clear HATS HBAD he
              go_wp2_with fail
              refine wp_region_noPanic ?_
              refine wp_region_held_drew (S := fun w' => Below w.heap.size w w') (by kernel_rfl) (unhide HBr).drew (fun hHeld => ?_)
              generalize wr.drew = wD at hHeld ⊢
              refine wpAnyH_take (i := 0) (oi := { dst := some 35, op := Go.Op.move (Go.Operand.tmp 0), type := 89, pos := "l07_ivf.go:25", after := #[], guard := none }) (v := ?vb0_1) rfl (by kernel_rfl) (by kernel_rfl) (by kernel_rfl) (fun _ _ _ h => h) (Or.inl ⟨by rfl, ?hb0_1⟩) hHeld ?rb0_1
              case hb0_1 =>
                intro wS hSw
                (try dsimp only at hSw)
                go_simp
                try with_reducible rfl
              case rb0_1 =>
              simp only [Act.put, List.setIfInBounds_toArray, List.set_cons_zero, List.set_cons_succ]
              refine wpAnyH_take (i := 1) (oi := { dst := some 36, op := Go.Op.nilCheck (Go.Operand.tmp 35), type := 0, pos := "l07_ivf.go:25", after := #[{ on := 0, ground := Go.Ground.data }], guard := none }) (v := ?vb1_2) rfl (by kernel_rfl) (by kernel_rfl) (by kernel_rfl) (fun _ _ _ h => h) (Or.inl ⟨by rfl, ?hb1_2⟩) hHeld ?rb1_2
              case hb1_2 =>
                intro wS hSw
                (try dsimp only at hSw)
                go_simp
                try with_reducible rfl
              case rb1_2 =>
              simp only [Act.put, List.setIfInBounds_toArray, List.set_cons_zero, List.set_cons_succ]
              refine wpAnyH_take (i := 2) (oi := { dst := some 37, op := Go.Op.fieldAddr 31 (Go.Operand.tmp 36) 0, type := 0, pos := "l07_ivf.go:25", after := #[{ on := 1, ground := Go.Ground.data }], guard := none }) (v := ?vb2_3) rfl (by kernel_rfl) (by kernel_rfl) (by kernel_rfl) (fun _ _ _ h => h) (Or.inl ⟨by rfl, ?hb2_3⟩) hHeld ?rb2_3
              case hb2_3 =>
                intro wS hSw
                (try dsimp only at hSw)
                go_simp
                try with_reducible rfl
              case rb2_3 =>
              simp only [Act.put, List.setIfInBounds_toArray, List.set_cons_zero, List.set_cons_succ]
              refine wpAnyH_take (i := 3) (oi := { dst := some 38, op := Go.Op.load 28 (Go.Operand.tmp 37), type := 28, pos := "l07_ivf.go:25", after := #[{ on := 2, ground := Go.Ground.data }], guard := none }) (v := ?vb3_4) rfl (by kernel_rfl) (by kernel_rfl) (by kernel_rfl) (fun _ _ _ h => h) (Or.inl ⟨by rfl, ?hb3_4⟩) hHeld ?rb3_4
              case hb3_4 =>
                intro wS hSw
                have y0 := ((unhide HX).later hSw).c0
                clear hSw
                (try dsimp only at hSw)
                go_simp
                try with_reducible rfl
              case rb3_4 =>
              simp only [Act.put, List.setIfInBounds_toArray, List.set_cons_zero, List.set_cons_succ]
              refine wpAnyH_take (i := 4) (oi := { dst := some 39, op := Go.Op.move (Go.Operand.tmp 4), type := 42, pos := "l07_ivf.go:25", after := #[], guard := none }) (v := ?vb4_5) rfl (by kernel_rfl) (by kernel_rfl) (by kernel_rfl) (fun _ _ _ h => h) (Or.inl ⟨by rfl, ?hb4_5⟩) hHeld ?rb4_5
              case hb4_5 =>
                intro wS hSw
                (try dsimp only at hSw)
                go_simp
                try with_reducible rfl
              case rb4_5 =>
              simp only [Act.put, List.setIfInBounds_toArray, List.set_cons_zero, List.set_cons_succ]
              refine wpAnyH_take (i := 5) (oi := { dst := some 40, op := Go.Op.move (Go.Operand.tmp 6), type := 3, pos := "l07_ivf.go:25", after := #[], guard := none }) (v := ?vb5_6) rfl (by kernel_rfl) (by kernel_rfl) (by kernel_rfl) (fun _ _ _ h => h) (Or.inl ⟨by rfl, ?hb5_6⟩) hHeld ?rb5_6
              case hb5_6 =>
                intro wS hSw
                (try dsimp only at hSw)
                go_simp
                try with_reducible rfl
              case rb5_6 =>
              simp only [Act.put, List.setIfInBounds_toArray, List.set_cons_zero, List.set_cons_succ]
              refine wpAnyH_take (i := 6) (oi := { dst := some 41, op := Go.Op.indexAddr 42 (Go.Operand.tmp 39) (Go.Operand.tmp 40), type := 0, pos := "l07_ivf.go:25", after := #[{ on := 4, ground := Go.Ground.data }, { on := 5, ground := Go.Ground.data }], guard := none }) (v := ?vb6_7) rfl (by kernel_rfl) (by kernel_rfl) (by kernel_rfl) (fun _ _ _ h => h) (Or.inl ⟨by rfl, ?hb6_7⟩) hHeld ?rb6_7
              case hb6_7 =>
                intro wS hSw
                (try dsimp only at hSw)
                go_simp
                try with_reducible rfl
              case rb6_7 =>
              simp only [Act.put, List.setIfInBounds_toArray, List.set_cons_zero, List.set_cons_succ]
              refine wpAnyH_take (i := 7) (oi := { dst := some 42, op := Go.Op.fieldAddr 106 (Go.Operand.tmp 41) 1, type := 0, pos := "l07_ivf.go:25", after := #[{ on := 6, ground := Go.Ground.data }], guard := none }) (v := ?vb7_8) rfl (by kernel_rfl) (by kernel_rfl) (by kernel_rfl) (fun _ _ _ h => h) (Or.inl ⟨by rfl, ?hb7_8⟩) hHeld ?rb7_8
              case hb7_8 =>
                intro wS hSw
                (try dsimp only at hSw)
                go_simp
                try with_reducible rfl
              case rb7_8 =>
              simp only [Act.put, List.setIfInBounds_toArray, List.set_cons_zero, List.set_cons_succ]
              refine wpAnyH_take (i := 8) (oi := { dst := some 43, op := Go.Op.load 51 (Go.Operand.tmp 42), type := 51, pos := "l07_ivf.go:25", after := #[{ on := 7, ground := Go.Ground.data }], guard := none }) (v := ?vb8_9) rfl (by kernel_rfl) (by kernel_rfl) (by kernel_rfl) (fun _ _ _ h => h) (Or.inl ⟨by rfl, ?hb8_9⟩) hHeld ?rb8_9
              case hb8_9 =>
                intro wS hSw
                have y1 := (hSw.cell (p := ⟨b6, o6 + j * 2 + 1, none⟩) hb6).trans c4
                clear hSw
                (try dsimp only at hSw)
                go_simp
                try with_reducible rfl
              case rb8_9 =>
              simp only [Act.put, List.setIfInBounds_toArray, List.set_cons_zero, List.set_cons_succ]
              refine wpAnyH_take (i := 10) (oi := { dst := some 45, op := Go.Op.move (Go.Operand.tmp 3), type := 3, pos := "l07_ivf.go:25", after := #[], guard := none }) (v := ?vb10_10) rfl (by kernel_rfl) (by kernel_rfl) (by kernel_rfl) (fun _ _ _ h => h) (Or.inl ⟨by rfl, ?hb10_10⟩) hHeld ?rb10_10
              case hb10_10 =>
                intro wS hSw
                (try dsimp only at hSw)
                go_simp
                try with_reducible rfl
              case rb10_10 =>
              simp only [Act.put, List.setIfInBounds_toArray, List.set_cons_zero, List.set_cons_succ]
              refine wpAnyH_ready (rs := [9]) (by kernel_rfl) (by simp) ?_
              refine AllReadyH.cons (o := { dst := some 44, op := Go.Op.call { callee := Go.Callee.value (Go.Operand.func 112), args := #[Go.Operand.tmp 38, Go.Operand.tmp 43], argTypes := #[28, 51] }, type := 2, pos := "l07_ivf.go:25", after := #[{ on := 3, ground := Go.Ground.data }, { on := 8, ground := Go.Ground.data }], guard := none }) rfl (fun K hK => ?_) AllReadyH.nil
              go_simp
              go_at_call 112
              refine (unhide LN _ hHeld).mono ?_
              rintro e w3 ⟨rfl, hbw⟩
              try go_wp2_with fail
              refine hK.out _ _ (hHeld.trans (hbw.mono hHeld.size)) (fun hHeld => ?_)
              clear hK K
              try simp only [Act.put, List.setIfInBounds_toArray, List.set_cons_zero, List.set_cons_succ]
              refine wpAnyH_take (i := 11) (oi := { dst := some 46, op := Go.Op.binOp Go.BinOp.neq 2 (Go.Operand.tmp 44) (Go.Operand.tmp 45) 2, type := 4, pos := "l07_ivf.go:25", after := #[{ on := 9, ground := Go.Ground.data }, { on := 10, ground := Go.Ground.data }], guard := none }) (v := ?vb11_11) rfl (by kernel_rfl) (by kernel_rfl) (by kernel_rfl) (fun _ _ _ h => h) (Or.inl ⟨by rfl, ?hb11_11⟩) hHeld ?rb11_11
              case hb11_11 =>
                intro wS hSw
                (try dsimp only at hSw)
                go_simp
                try with_reducible rfl
              case rb11_11 =>
              simp only [Act.put, List.setIfInBounds_toArray, List.set_cons_zero, List.set_cons_succ]
              refine wpAnyH_done (by kernel_rfl) ?_ _
              refine NoPanic.normal ?_
              have HB9 := hide hHeld
              clear hHeld
              go_wp2_with fail
              go_ret
              exact ⟨by rw [← unhide HF1]; rfl, unhide HB9⟩
          · obtain rfl : j = l.items.length := by omega
            rw [List.take_length] at hat
            have HF2 : Hid (listsFrom x.centers (k + 1) (x.lists.drop (k + 1)) = F0) := by
              have := unhide HF
              rw [if_pos (show listFault x.centers k l.items = 0 by rw [listFault, if_pos (unhide HFT), if_pos hat])] at this
              exact this
            have HB9 := hide hBr
            clear hBr hat
            go_wp2_with fail
            go_roundw
            case rel => exact ⟨k + 1, by omega, by go_num, unhide HF2, unhide HB9⟩
            case measure => simp [intOf]; omega
      · have hd : (tableFault l.items != 0) = true := by simpa using hft
        have HF2 : Hid (tableFault l.items = F0) := by
          have := unhide HF
          rw [show listFault x.centers k l.items = tableFault l.items from if_neg hft, if_neg hft] at this
          exact this
        clear hft
        go_wp2_with fail
        go_ret
        exact ⟨by rw [← unhide HF2]; rfl, unhide HB⟩
    · obtain rfl : k = x.lists.length := by omega
      rw [List.drop_length] at hF
      have HF := hide hF
      have HB := hide hB
      clear hF hB
      go_wp2_with fail
      go_ret
      exact ⟨by rw [← unhide HF]; rfl, unhide HB⟩

end Go.Proofs.Ytfgadegpdknocaa

namespace Go.Proofs.Ytfgadegpdknocaa
open Go.RowKit

theorem append_noneI {P : Program} (t ty e : TypeId) (i : TypeInfo) (ht : P.underlying t = some (.slice e)) (hi : P.info? e = some i) (bo : Option Addr) (n cap c : Nat) (hn : n ≤ cap) (w : World) :
    (Builtin.append_ #[t, t] ty #[.slice bo n cap, .slice none 0 c]).run P w = (Builtin.append_ #[t, t] ty #[.slice bo n cap, .slice (some ⟨0, 0, none⟩) 0 c]).run P w := by
  simp [Builtin.append_, run_underlying ht, sizeOf, typeInfo, hi, Builtin.lenOf, hn, Builtin.firstCells, loadCells, loadCellsFrom]

theorem IsInts.news {w : World} {b off cap : Nat} {zs : List Int} (h : IsInts w (.slice (some ⟨b, off, none⟩) zs.length cap) zs) (hp : 0 < zs.length) : ∀ j u, (zs.map (Value.int .i64))[j]? = some u → w.cell? ((⟨b, off, none⟩ : Addr).add j) = some u := by
  intro j u hu
  obtain ⟨ao, cp, hv, hwf, hc⟩ := h
  obtain ⟨b', off', hao, hc1⟩ := hc hp
  simp only [Value.slice.injEq] at hv
  obtain ⟨rfl, -, -⟩ := hv
  simp only [Option.some.injEq, Addr.mk.injEq, and_true] at hao
  obtain ⟨rfl, rfl⟩ := hao
  have hj : j < zs.length := by
    have := (List.getElem?_eq_some_iff.1 hu).1
    simpa using this
  rw [Addr.add_lit, hc1 j hj]
  simp [hj] at hu
  simp [List.getD, hj, hu]

theorem run_append_ints {w : World} (base ty : Nat) (v : Value) (n : Nat) (xs : List Value) (hown : w.ownsRow base 2 1 v n xs) (x : Value) (ks : List Int) (hx : IsInts w x ks)
    (hn : n + ks.length ≤ 100000000) (hbase : base ≤ w.heap.size) :
    ∃ v' w', (Builtin.append_ #[51, 51] ty #[v, x]).run Try.prog w = .ok v' w' ∧ w'.ownsRow base 2 1 v' (n + ks.length) (xs ++ ks.map (Value.int .i64)) ∧ w.grownBy w' v.ownBlock := by
  obtain ⟨i0, hi, hz0, hz1, hz2⟩ := info_parts info2
  have hml : n + ks.length ≤ maxLen := by unfold maxLen; omega
  by_cases hp : 0 < ks.length
  · have hx' := hx
    obtain ⟨ao, cap, rfl, hwf, hc⟩ := hx'
    obtain ⟨b, off, rfl, hc1⟩ := hc hp
    obtain ⟨v', w', r1, r2, r3, -, -⟩ := run_append_own_at (P := Try.prog) w base 51 ty 2 i0 _ 1 8 Try.underlying51 hi hz0 hz1 hz2 rfl (by omega) v n xs hown ⟨b, off, none⟩ ks.length cap (ks.map (Value.int .i64)) (by simp) (hx.news hp) (by simp [Value.oneCell']) hml (by omega) hbase
    exact ⟨v', w', r1, r2, r3⟩
  · obtain rfl : ks = [] := List.eq_nil_of_length_eq_zero (by omega)
    obtain ⟨ao, cap, rfl, hwf, hc⟩ := hx
    cases ao with
    | none =>
      obtain ⟨v', w', r1, r2, r3, -, -⟩ := run_append_own_at (P := Try.prog) w base 51 ty 2 i0 _ 1 8 Try.underlying51 hi hz0 hz1 hz2 rfl (by omega) v n xs hown ⟨0, 0, none⟩ 0 cap [] rfl (by simp) (by simp) hml (by simp at hn; omega) hbase
      refine ⟨v', w', ?_, r2, r3⟩
      rcases hown.2 with ⟨rfl, h0⟩ | ⟨g, cp, cur, rfl, _, _, hle, _⟩
      · exact (append_noneI _ _ _ i0 Try.underlying51 hi none 0 0 cap (Nat.le_refl _) w).trans r1
      · exact (append_noneI _ _ _ i0 Try.underlying51 hi _ n cp cap hle w).trans r1
    | some ad =>
      obtain ⟨v', w', r1, r2, r3, -, -⟩ := run_append_own_at (P := Try.prog) w base 51 ty 2 i0 _ 1 8 Try.underlying51 hi hz0 hz1 hz2 rfl (by omega) v n xs hown ad 0 cap [] rfl (by simp) (by simp) hml (by simp at hn; omega) hbase
      exact ⟨v', w', r1, r2, r3⟩

/-- The same at an operation of a plain region. -/
theorem wpList_append_ints {w : World} {base : Nat} {v : Value} {n : Nat} {xs : List Value} (hown : w.ownsRow base 2 1 v n xs) {X : Value} {ks : List Int} (hx : IsInts w X ks)
    {ops : Array Oper} {rest : List Oper} {o : Oper} {a : Act} {Q : Exit → Act → World → Prop} (hgd : o.guard = none) (s x : Operand)
    (ho : o.op = .call { callee := .builtin .append, args := #[s, x], argTypes := #[51, 51] }) (hv : a.eval s = v) (hX : a.eval x = X)
    (hn : n + ks.length ≤ 100000000) (hbase : base ≤ w.heap.size)
    (h : ∀ v' w', w'.ownsRow base 2 1 v' (n + ks.length) (xs ++ ks.map (Value.int .i64)) → w.grownBy w' v.ownBlock → Below base w w' → wpList Try.prog ops Q rest (a.put o.dst v') w') :
    wpList Try.prog ops Q (o :: rest) a w := by
  refine wpList_plain hgd fun K hK => ?_
  obtain ⟨v', w', hr, h2, h3⟩ := run_append_ints base o.type v n xs hown X ks hx hn hbase
  unfold Oper.wp execOp
  simp only [ho, resolve, invoke, builtin, Sem.run_bind, Sem.run_pure, Result.andThen_ok, List.map_toArray, List.map_cons, List.map_nil, hv, hX, hr]
  exact hK _ _ (h v' w' h2 h3 ((Below.refl _ _).grown h3 hbase (fun j hj => (hown.lt j hj).1)))

end Go.Proofs.Ytfgadegpdknocaa

namespace Go.Proofs.Ytfgadegpdknocaa
open Go.RowKit

set_option maxHeartbeats 400000 in
theorem l1Ints (v : Value) (zs : List Int) (w : World) (h : IsInts w v zs) (hn : zs.length ≤ 100000000) :
    Calls Try.prog 111 #[v] w fun e w' => ∃ v', e = .returned v' ∧ w'.ownsRow w.heap.size 2 1 v' zs.length (zs.map (Value.int .i64)) ∧ Below w.heap.size w w' := by
  have nb : Below w.heap.size w (w.alloc (.cells #[] 2)) := (Below.refl _ _).alloc (Nat.le_refl _) _
  have O : (w.alloc (.cells #[] 2)).ownsRow w.heap.size 2 1 (.slice (some ⟨w.heap.size, 0, none⟩) 0 0) 0 [] := World.ownsRow_lit w _ 0 (Nat.le_refl _) (by unfold maxLen; omega) rfl
  have h1 := h.later nb
  obtain ⟨ao, cap, rfl, -⟩ := h
  have HB := hide nb
  clear nb
  go_enter Try.func111, Try.ntmps111
  go_wp2_with (at_builtin; refine wpList_append_ints O h1 rfl _ _ rfl rfl rfl (by omega) (by simp) ?_)
  rintro v' w' O2 - hb
  have HB2 := hide ((unhide HB).trans hb)
  clear O h1 hb HB
  go_wp2_with fail
  go_ret
  exact ⟨v', rfl, by simpa using O2, unhide HB2⟩

end Go.Proofs.Ytfgadegpdknocaa
