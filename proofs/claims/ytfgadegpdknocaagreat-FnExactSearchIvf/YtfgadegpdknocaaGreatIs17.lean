/-
  Texts of this proof in one: SpecItems7, SpecFault7, SpecProbesOf, SpecHits, ImplSearchH, AppHits, IvfRight.
  Their conditions stand in their theorems.
-/
import Derived.Test.YtfgadegpdknocaaGreatChecked
import Derived.Test.YtfgadegpdknocaaGreatIs08
import Derived.Test.YtfgadegpdknocaaGreatIs16
import Derived.Test.YtfgadegpdknocaaGreatIs15
import Derived.BigQuiet
import Derived.Deep.QuietTactic
import Derived.Test.YtfgadegpdknocaaGreatIs02
import Derived.Test.YtfgadegpdknocaaGreatIs06
import Derived.Test.YtfgadegpdknocaaGreatIs13
import Derived.Deep.RegionHeld3
import Derived.Test.YtfgadegpdknocaaGreatIs10
import Derived.Test.YtfgadegpdknocaaGreatIs14
import Derived.Test.YtfgadegpdknocaaGreatIs07
import Derived.Test.YtfgadegpdknocaaGreatIs01

namespace Go.Proofs.YtfgadegpdknocaaGreat
open Go.RowKit

set_option maxRecDepth 100000 in
set_option maxHeartbeats 4000000 in
theorem specItems7 (b : Nat) (x : DIvf) (ac : Option Addr) (dc : Nat) (al : Option Addr) (dl : Nat) (w : World) (h : IvfAt w b x ac dc al dl) (hl : ∀ l ∈ x.lists, tableFault l.items = 0) (hn : x.lists.length ≤ 6) :
    Calls Tryz.prog 39 #[.pointer (some ⟨b, 0, none⟩)] w fun e w' => ∃ v', e = .returned v' ∧ (Lay.sl Lay.tItem).LiesIn w' [v'] (allIs x.lists) w.heap.size w'.heap.size ∧ Below w.heap.size w w' := by
  have HX := hide h
  have HL := hide hl
  have HB0 : Hid (Below w.heap.size w (w.alloc (.cells #[] 133))) := (Below.refl _ _).alloc (Nat.le_refl _) _
  have HCN : Hid (∀ k, k ≤ x.lists.length → (allIs (x.lists.take k)).length ≤ 180) := fun k hk => by
    have h1 := allIs_len (x.lists.take k)
    have h2 := countIs_le (ls := x.lists.take k) (fun l hm => (tableFault_zero (hl l (List.mem_of_mem_take hm))).1)
    have h3 : (x.lists.take k).length ≤ 6 := by simp; omega
    omega
  have HVL : Hid (∀ k y, y ∈ allIs (x.lists.take k) → y.vec.length ≤ 100000000) := fun k y hy => by
    obtain ⟨l, hm, hy⟩ := allIs_mem hy
    have := ((tableFault_zero (hl l (List.mem_of_mem_take hm))).2.1 y hy).2
    have := (vecFault_zero this).1
    omega
  clear h hl
  go_enter Tryz.func39, Tryz.ntmps39
  go_wp2_with fail
  go_loopw [3, 4] (fun u i wr => ∃ k : Nat, k ≤ x.lists.length ∧ i = .int .i64 k ∧ (Lay.sl Lay.tItem).LiesIn wr [u] (allIs (x.lists.take k)) w.heap.size wr.heap.size ∧ Below w.heap.size w wr) (fun _ i _ => x.lists.length - (intOf i).toNat)
  case atStart => exact ⟨0, Nat.zero_le _, rfl, ⟨[], ⟨some ⟨w.heap.size, 0, none⟩, 0, rfl, by simp [allIs], Or.inl ⟨rfl, rfl⟩⟩, by simp⟩, unhide HB0⟩
  case round =>
    obtain ⟨k, hk, rfl, hO, hB⟩ := hrel
    clear HB0
    have c1 := ((unhide HX).later hB).c1
    by_cases hlt : k < x.lists.length
    · have HLz := hide ((unhide HX).later hB).lists
      obtain ⟨bl, ol, rfl, hbl⟩ := Lay.sl_addr (unhide HLz) (by omega)
      obtain ⟨row, hc, hr⟩ := Lay.row_at (unhide HLz) hlt
      obtain ⟨a5, d5, rfl, R5⟩ := open_IvfList hr
      have c2 : wr.cell? ⟨bl, ol + k, none⟩ = some (.slice a5 (x.lists[k]).items.length d5) := one_cell (hc 0 (by decide))
      have hft := unhide HL x.lists[k] (List.getElem_mem hlt)
      have HSTEP := hide (allIs_step x.lists k hlt)
      have hcn := unhide HCN k hk
      have hvl := unhide HVL k
      have hris := allIs_rising (x.lists.take k)
      have HBL := hide c1
      clear hc hr
      generalize hls : x.lists[k] = l at *
      clear hls
      generalize allIs (x.lists.take k) = out at *
      obtain ⟨hl30, hla, -⟩ := tableFault_zero hft
      have HLA := hide hla
      have HRIS := hide hris
      have HVO := hide hvl
      have HR5 := hide R5
      have HO := hide hO
      have HB := hide hB
      have HC2 := hide c2
      clear hO hB hla hris hvl R5 hft HLz
      rename World => wo
      go_wp2_with fail
      clear c1 c2
      go_loopw [3, 5] (fun u i wr => ∃ j : Nat, j ≤ l.items.length ∧ i = .int .i64 j ∧ (Lay.sl Lay.tItem).LiesIn wr [u] (gatherI out (l.items.take j)) w.heap.size wr.heap.size ∧ Below wo.heap.size wo wr) (fun _ i _ => l.items.length - (intOf i).toNat)
      case atStart => exact ⟨0, Nat.zero_le _, rfl, unhide HO, Below.refl _ _⟩
      case round =>
        obtain ⟨j, hj, rfl, hO, hB⟩ := hrel
        clear HO
        have c1 : wr.cell? ⟨b, 1, none⟩ = some (.slice (some ⟨bl, ol, none⟩) x.lists.length dl) := cell_keep hB (unhide HBL)
        have c2 : wr.cell? ⟨bl, ol + k, none⟩ = some (.slice a5 l.items.length d5) := cell_keep hB (unhide HC2)
        by_cases hlj : j < l.items.length
        · have R5 := (unhide HR5).later hB
          obtain ⟨b6, o6, rfl, hb6⟩ := Lay.sl_addr R5 (by omega)
          obtain ⟨row, hc, hr⟩ := Lay.row_at R5 hlj
          obtain ⟨a7, d7, rfl, R7⟩ := open_Item hr
          have c3 : wr.cell? ⟨b6, o6 + j * 2, none⟩ = some (.int .i64 (l.items[j]).id) := hc 0 (by decide)
          have c4 : wr.cell? ⟨b6, o6 + j * 2 + 1, none⟩ = some (.slice a7 (l.items[j]).vec.length d7) := hc 1 (by decide)
          obtain ⟨hid, hvx⟩ := unhide HLA l.items[j] (List.getElem_mem hlj)
          have HGS := hide (gatherI_step out l.items j hlj)
          have hgl := gatherI_len (unhide HRIS) (l.items.take j)
          have hgr := gatherI_rising (unhide HRIS) (l.items.take j)
          have hgv : ∀ y ∈ gatherI out (l.items.take j), y.vec.length ≤ 100000000 := fun y hy => by
            rcases gatherI_mem hy with h1 | h1
            · exact unhide HVO y h1
            · have := (vecFault_zero (unhide HLA y (List.mem_of_mem_take h1)).2).1
              omega
          have hgl2 : (gatherI out (l.items.take j)).length ≤ 1000000 := by
            have : (l.items.take j).length ≤ 30 := by simp; omega
            omega
          have hv3 := (vecFault_zero hvx).1
          have hw : (Lit.int .i64 (l.items[j]).id).wf = true := by
            simp only [idB, Bool.and_eq_true, decide_eq_true_eq] at hid
            exact wf_of_bd (by omega)
          clear hc hr hgl
          generalize l.items[j] = y at *
          generalize gatherI out (l.items.take j) = cur at *
          have nb : Below wr.heap.size wr (wr.alloc (.cells #[.int .i64 y.id, .slice a7 y.vec.length d7] 133)) := (Below.refl _ _).alloc (Nat.le_refl _) _
          have LS := hide (specSet _ cur y.id y.vec (.slice a7 y.vec.length d7) true _ (hO.reads.later nb) (R7.later nb) hw hgl2 hgv (by omega))
          rw [setM_put hgr] at LS
          have HBn := hide (hB.trans (nb.mono hB.size))
          have hws : w.heap.size ≤ wr.heap.size := Nat.le_trans (unhide HB).size hB.size
          clear hO hB R5 R7 nb hgr hgv hgl2 hid hvx hv3 hw
          go_wp2_with fail
          refine (unhide LS).mono ?_
          rintro e w9 ⟨v9, rfl, hO9, hb9⟩
          have HO9 := hide (hO9.mono (lo' := w.heap.size) (by simp; omega) (Nat.le_refl _))
          have HB9 := hide ((unhide HBn).trans (hb9.mono (unhide HBn).size))
          clear hO9 hb9 LS HBn c1 c2 c3 c4
          go_wp2_with fail
          go_roundw
          case rel => exact ⟨j + 1, by omega, by go_num, by rw [unhide HGS]; exact unhide HO9, unhide HB9⟩
          case measure => simp [intOf]; omega
        · obtain rfl : j = l.items.length := by omega
          rw [List.take_length] at hO
          have HO9 := hide hO
          have HB9 := hide ((unhide HB).trans (hB.mono (unhide HB).size))
          clear hO hB
          go_wp2_with fail
          go_roundw
          case rel => exact ⟨k + 1, by omega, by go_num, by rw [unhide HSTEP]; exact unhide HO9, unhide HB9⟩
          case measure => simp [intOf]; omega
    · obtain rfl : k = x.lists.length := by omega
      rw [List.take_length] at hO
      have HO := hide hO
      have HB := hide hB
      clear hO hB
      go_wp2_with fail
      go_ret
      exact ⟨_, rfl, unhide HO, unhide HB⟩

end Go.Proofs.YtfgadegpdknocaaGreat

namespace Go.Proofs.YtfgadegpdknocaaGreat
open Go.RowKit

set_option maxRecDepth 100000 in
set_option maxHeartbeats 4000000 in
theorem specFault7 (b : Nat) (x : DIvf) (ac : Option Addr) (dc : Nat) (al : Option Addr) (dl : Nat) (w : World) (h : IvfAt w b x ac dc al dl) :
    Calls Tryz.prog 57 #[.pointer (some ⟨b, 0, none⟩)] w fun e w' => e = .returned (.int .i64 (ivfFault x)) ∧ Below w.heap.size w w' := by
  generalize hF0 : ivfFault x = F0
  have HF0 := hide hF0
  have HX := hide h
  have c0 := h.c0
  have c1 := h.c1
  have L1 := hide (specCen _ x.centers w h.cens)
  clear h hF0
  go_enter Tryz.func57, Tryz.ntmps57
  go_wp2_with fail
  refine (unhide L1).mono ?_
  rintro e w1 ⟨rfl, hb1⟩
  have HX1 := hide ((unhide HX).later hb1)
  have HB := hide hb1
  clear c0 c1 L1 hb1
  by_cases hcf : centersFault x.centers = 0
  · rw [hcf]
    have c0 := (unhide HX1).c0
    have c1 := (unhide HX1).c1
    have HCF := hide hcf
    by_cases hne : x.lists.length = x.centers.length
    · have hd : ((x.lists.length : Int) != (x.centers.length : Int)) = false := by rw [hne]; simp
      have hn6 : x.lists.length ≤ 6 := by rw [hne]; exact (centersFault_zero hcf).1.2
      have HNE : Hid (x.lists.length = x.centers.length) := hne
      clear hcf hne
      go_wp2_with fail
      go_quiet (fail)
      clear c0 c1 hd
      go_wp2_with fail
      refine (specLists7 b x ac dc al dl _ ((unhide HX1).later (below_drawn (Below.refl _ _) _)) (unhide HCF) (by omega)).mono ?_
      rintro e w3 ⟨rfl, hb3⟩
      have HX3 := hide (((unhide HX1).later (below_drawn (Below.refl _ _) _)).later hb3)
      replace HB := hide ((below_drawn (unhide HB) _).trans (hb3.mono (unhide HB).size))
      clear hb3 HX1
      by_cases hlf : listsFrom x.centers 0 x.lists = 0
      · rw [hlf]
        have HLF := hide hlf
        have HTF := hide (list_facts (x := x) hlf)
        clear hlf
        have HCB : Hid (∀ k, countIs (x.lists.take k) ≤ 180) := fun k => by
          have h1 := countIs_le (ls := x.lists.take k) (fun l hm => (tableFault_zero (unhide HTF l (List.mem_of_mem_take hm))).1)
          have h2 : (x.lists.take k).length ≤ 6 := by simp; omega
          omega
        go_wp2_with fail
        go_loopw [5, 6] (fun n i wr => ∃ k : Nat, k ≤ x.lists.length ∧ i = .int .i64 k ∧ n = .int .i64 (countIs (x.lists.take k) : Nat) ∧ wr = w3) (fun _ i _ => x.lists.length - (intOf i).toNat)
        case atStart => exact ⟨0, Nat.zero_le _, rfl, rfl, rfl⟩
        case round =>
          obtain ⟨k, hk, rfl, rfl, rfl⟩ := hrel
          have c1 := (unhide HX3).c1
          by_cases hlt : k < x.lists.length
          · obtain ⟨bl, ol, rfl, hbl⟩ := Lay.sl_addr (unhide HX3).lists (by omega)
            obtain ⟨row, hc, hr⟩ := Lay.row_at (unhide HX3).lists hlt
            obtain ⟨a5, d5, rfl, -⟩ := open_IvfList hr
            have c2 : wr.cell? ⟨bl, ol + k, none⟩ = some (.slice a5 (x.lists[k]).items.length d5) := one_cell (hc 0 (by decide))
            have hstep := countIs_take x.lists k hlt
            have hcb := unhide HCB (k + 1)
            rw [hstep] at hcb
            have HST := hide hstep
            clear hc hr hstep
            generalize (x.lists[k]).items.length = m at *
            generalize countIs (x.lists.take k) = n at *
            go_wp2_with fail
            go_roundw
            case rel => exact ⟨k + 1, by omega, by go_num, by rw [unhide HST]; go_num, by simp⟩
            case measure => simp [intOf]; omega
          · obtain rfl : k = x.lists.length := by omega
            rw [List.take_length]
            have LI := hide (specItems7 b x ac dc al dl wr (unhide HX3) (unhide HTF) hn6)
            have hc180 := unhide HCB x.lists.length
            rw [List.take_length] at hc180
            go_wp2_with fail
            clear c1
            refine (unhide LI).mono ?_
            rintro e w5 ⟨v5, rfl, hO5, hb5⟩
            obtain ⟨a5, d5, rfl⟩ := open_sl hO5.reads
            replace HB := hide ((unhide HB).trans (hb5.mono (unhide HB).size))
            clear hO5 hb5 LI
            by_cases hal : (allIs x.lists).length = countIs x.lists
            · have hd2 : (((allIs x.lists).length : Int) != ((countIs x.lists : Nat) : Int)) = false := by rw [hal]; simp
              by_cases h30 : countIs x.lists ≤ 30
              · have hd3 : decide ((30 : Int) < ((countIs x.lists : Nat) : Int)) = false := by simp; omega
                have HF1 : Hid (0 = F0) := by
                  have := unhide HF0
                  rw [ivfFault, if_pos (unhide HCF), if_pos (unhide HNE), if_pos (unhide HLF), if_pos hal, if_pos h30] at this
                  exact this
                clear hal h30
                go_wp2_with fail
                go_ret
                exact ⟨by rw [← unhide HF1]; rfl, unhide HB⟩
              · have hd3 : decide ((30 : Int) < ((countIs x.lists : Nat) : Int)) = true := by simp; omega
                have HF1 : Hid (2 = F0) := by
                  have := unhide HF0
                  rw [ivfFault, if_pos (unhide HCF), if_pos (unhide HNE), if_pos (unhide HLF), if_pos hal, if_neg h30] at this
                  exact this
                clear hal h30
                go_wp2_with fail
                go_ret
                exact ⟨by rw [← unhide HF1]; rfl, unhide HB⟩
            · have hd2 : (((allIs x.lists).length : Int) != ((countIs x.lists : Nat) : Int)) = true := by rw [bne_iff_ne]; omega
              have HF1 : Hid (6 = F0) := by
                have := unhide HF0
                rw [ivfFault, if_pos (unhide HCF), if_pos (unhide HNE), if_pos (unhide HLF), if_neg hal] at this
                exact this
              clear hal
              go_wp2_with fail
              go_ret
              exact ⟨by rw [← unhide HF1]; rfl, unhide HB⟩
      · have hd2 : (listsFrom x.centers 0 x.lists != 0) = true := by simpa using hlf
        have HF1 : Hid (listsFrom x.centers 0 x.lists = F0) := by
          have := unhide HF0
          rw [ivfFault, if_pos (unhide HCF), if_pos (unhide HNE), if_neg hlf] at this
          exact this
        clear hlf
        go_wp2_with fail
        go_ret
        exact ⟨by rw [← unhide HF1]; rfl, unhide HB⟩
    · have hd : ((x.lists.length : Int) != (x.centers.length : Int)) = true := by rw [bne_iff_ne]; omega
      have HF1 : Hid (1 = F0) := by
        have := unhide HF0
        rw [ivfFault, if_pos hcf, if_neg hne] at this
        exact this
      clear hcf hne HCF
      go_wp2_with fail
      go_quiet (fail)
      go_wp2_with fail
      go_ret
      exact ⟨by rw [← unhide HF1]; rfl, below_drewN (unhide HB) _⟩
  · have hd : (centersFault x.centers != 0) = true := by simpa using hcf
    have HF1 : Hid (centersFault x.centers = F0) := by
      have := unhide HF0
      rw [ivfFault, if_neg hcf] at this
      exact this
    clear hcf
    go_wp2_with fail
    go_ret
    exact ⟨by rw [← unhide HF1]; rfl, unhide HB⟩

end Go.Proofs.YtfgadegpdknocaaGreat

namespace Go.Proofs.YtfgadegpdknocaaGreat
open Go.RowKit

theorem l7N (n : Int) (w : World) :
    Calls Tryz.prog 59 #[.int .i64 n] w fun e w' => e = .returned (.bool (decide (0 ≤ n) && decide (n ≤ 6))) ∧ w' = w := by
  go_enter Tryz.func59, Tryz.ntmps59
  go_wp2_with fail
  refine (l1In n 0 6 _).mono ?_
  rintro e w1 ⟨rfl, rfl⟩
  go_wp2_with fail
  go_ret
  exact ⟨rfl, rfl⟩


end Go.Proofs.YtfgadegpdknocaaGreat

namespace Go.Proofs.YtfgadegpdknocaaGreat
open Go.RowKit

theorem l1ScoreC (v1 v2 : Value) (q v : List Int) (w : World) (h1 : IsInts w v1 q) (h2 : IsInts w v2 v) (f1 : vecFault q = 0) (f2 : vecFault v = 0) :
    Calls Tryz.prog 104 #[v1, v2] w fun e w' => e = .returned (.int .i64 (score3 q v)) ∧ Below w.heap.size w w' := by
  obtain ⟨b, off, cap, x, y, z, rfl, rfl, hbl, c0, c1, c2⟩ := h1.three (vecFault_zero f1).1
  obtain ⟨b2, off2, cap2, x2, y2, z2, rfl, rfl, hbl2, d0, d1, d2⟩ := h2.three (vecFault_zero f2).1
  exact modelSum b off cap b2 off2 cap2 x y z x2 y2 z2 w c0 c1 c2 d0 d1 d2 f1 f2

set_option maxRecDepth 100000 in
set_option maxHeartbeats 4000000 in
theorem specHits_pos (b off cap : Nat) (xs : List DItem) (a2 : Option Addr) (d2 : Nat) (q : List Int) (w : World) (h : (Lay.sl Lay.tItem).Reads w [.slice (some ⟨b, off, none⟩) xs.length cap] xs) (hq : IsInts w (.slice a2 q.length d2) q) (hbl : b < w.heap.size) (hf : tableFault xs = 0) (hfq : vecFault q = 0) :
    Calls Tryz.prog 61 #[.slice (some ⟨b, off, none⟩) xs.length cap, .slice a2 q.length d2] w fun e w' => ∃ v, e = .returned v ∧ w'.ownsRow w.heap.size 66 2 v ((hitsL xs q).map pairH).length (cells2 ((hitsL xs q).map pairH)) ∧ Below w.heap.size w w' := by
  obtain ⟨hlen, hall, -⟩ := tableFault_zero hf
  have HA := hide hall
  have H := hide h
  have HQ := hide hq
  have HFQ := hide hfq
  clear h hall hf hq hfq
  have G0 : Grow Lay.tHit (w.alloc (.cells #[] 66)) w.heap.size 66 (.slice (some ⟨w.heap.size, 0, none⟩) 0 0) [] [] [] := Grow.nil (World.ownsRow_lit w #[] 0 (Nat.le_refl _) (Nat.zero_le _) rfl)
  have HG1 := hide G0
  have HB1 := hide ((Below.refl w.heap.size w).alloc (Nat.le_refl _) (.cells #[] 66))
  clear G0
  go_enter Tryz.func61, Tryz.ntmps61
  go_wp2_with fail
  go_loopw [5, 6] (fun v i wr => ∃ (k : Nat) (rows : List (List Value)) (bls : List (List Nat)), k ≤ xs.length ∧ i = .int .i64 k ∧ Grow Lay.tHit wr w.heap.size 66 v rows (hitsL (xs.take k) q) bls ∧ Below w.heap.size w wr) (fun _ i _ => xs.length - (intOf i).toNat)
  case atStart => exact ⟨0, [], [], Nat.zero_le _, rfl, unhide HG1, unhide HB1⟩
  case round =>
    obtain ⟨k, rows, bls, hk, rfl, hG, hB⟩ := hrel
    clear HG1 HB1
    by_cases hlt : k < xs.length
    · obtain ⟨row, hc, hr⟩ := Lay.row_at (unhide H) hlt
      obtain ⟨a1, d1, rfl, R1⟩ := open_Item hr
      have c0 : w.cell? ⟨b, off + k * 2, none⟩ = some (.int .i64 (xs[k]).id) := hc 0 (by decide)
      have c1 : w.cell? ⟨b, off + k * 2 + 1, none⟩ = some (.slice a1 (xs[k]).vec.length d1) := hc 1 (by decide)
      obtain ⟨hid, hvf⟩ := unhide HA xs[k] (List.getElem_mem hlt)
      have HT : Hid (hitsL (xs.take (k + 1)) q = hitsL (xs.take k) q ++ [hitOf q xs[k]]) := by
        show hitsL (xs.take (k + 1)) q = _
        rw [hitsL, List.take_succ_eq_append_getElem hlt, List.map_append]
        rfl
      have HL : Hid ((hitsL (xs.take k) q).length = k) := by show (hitsL (xs.take k) q).length = k; rw [hitsL, List.length_map, List.length_take]; omega
      clear hc hr
      generalize hx : xs[k] = x at *
      clear hx
      have hbd := score3_bd (unhide HFQ) hvf
      have HWS : Hid ((Lit.int .i64 (score3 q x.vec)).wf = true) := wf_of_bd (by omega)
      have HWI : Hid ((Lit.int .i64 x.id).wf = true) := by
        simp only [idB, Bool.and_eq_true, decide_eq_true_eq] at hid
        exact wf_of_bd (by omega)
      have HI := hide (Lay.ints_reads R1)
      have HVF := hide hvf
      have HB := hide hB
      have hGD : Grow Lay.tHit wr.drew w.heap.size 66 u5 rows (hitsL (xs.take k) q) bls := hG.later (below_drawn (Below.refl _ _) 1)
      clear R1 hG hB hid hvf hbd
      have i1 : (0 : Int) ≤ (k : Int) := by omega
      have i2 : (k : Int) < (xs.length : Int) := by omega
      go_wp2_with fail
      refine wp_region_noPanic ?_
      refine wp_region_held_drew (S := fun w' => Below w.heap.size w w') (by kernel_rfl) (unhide HB).drew (fun hHeld => ?_)
      generalize wr.drew = wD at hHeld hGD ⊢
      refine wpAnyH_take (i := 0) (oi := { dst := some 14, op := Go.Op.move (Go.Operand.tmp 5), type := 46, pos := "l04_table.go:109", after := #[], guard := none }) (v := ?v0) rfl (by kernel_rfl) (by kernel_rfl) (by kernel_rfl) (fun _ _ _ h => h) (Or.inl ⟨by rfl, ?h0⟩) hHeld ?r0
      case h0 =>
        intro wS hSw
        (try dsimp only at hSw)
        go_simp
        try with_reducible rfl
      case r0 =>
      simp only [Act.put, List.setIfInBounds_toArray, List.set_cons_zero, List.set_cons_succ]
      refine wpAnyH_take (i := 1) (oi := { dst := some 15, op := Go.Op.move (Go.Operand.tmp 0), type := 57, pos := "l04_table.go:109", after := #[], guard := none }) (v := ?v1) rfl (by kernel_rfl) (by kernel_rfl) (by kernel_rfl) (fun _ _ _ h => h) (Or.inl ⟨by rfl, ?h1⟩) hHeld ?r1
      case h1 =>
        intro wS hSw
        (try dsimp only at hSw)
        go_simp
        try with_reducible rfl
      case r1 =>
      simp only [Act.put, List.setIfInBounds_toArray, List.set_cons_zero, List.set_cons_succ]
      refine wpAnyH_take (i := 2) (oi := { dst := some 16, op := Go.Op.move (Go.Operand.tmp 6), type := 3, pos := "l04_table.go:109", after := #[], guard := none }) (v := ?v2) rfl (by kernel_rfl) (by kernel_rfl) (by kernel_rfl) (fun _ _ _ h => h) (Or.inl ⟨by rfl, ?h2⟩) hHeld ?r2
      case h2 =>
        intro wS hSw
        (try dsimp only at hSw)
        go_simp
        try with_reducible rfl
      case r2 =>
      simp only [Act.put, List.setIfInBounds_toArray, List.set_cons_zero, List.set_cons_succ]
      refine wpAnyH_take (i := 3) (oi := { dst := some 17, op := Go.Op.indexAddr 57 (Go.Operand.tmp 15) (Go.Operand.tmp 16), type := 0, pos := "l04_table.go:109", after := #[{ on := 1, ground := Go.Ground.data }, { on := 2, ground := Go.Ground.data }], guard := none }) (v := ?v3) rfl (by kernel_rfl) (by kernel_rfl) (by kernel_rfl) (fun _ _ _ h => h) (Or.inl ⟨by rfl, ?h3⟩) hHeld ?r3
      case h3 =>
        intro wS hSw
        (try dsimp only at hSw)
        go_simp
        try with_reducible rfl
      case r3 =>
      simp only [Act.put, List.setIfInBounds_toArray, List.set_cons_zero, List.set_cons_succ]
      refine wpAnyH_take (i := 4) (oi := { dst := some 18, op := Go.Op.fieldAddr 133 (Go.Operand.tmp 17) 0, type := 0, pos := "l04_table.go:109", after := #[{ on := 3, ground := Go.Ground.data }], guard := none }) (v := ?v4) rfl (by kernel_rfl) (by kernel_rfl) (by kernel_rfl) (fun _ _ _ h => h) (Or.inl ⟨by rfl, ?h4⟩) hHeld ?r4
      case h4 =>
        intro wS hSw
        (try dsimp only at hSw)
        go_simp
        try with_reducible rfl
      case r4 =>
      simp only [Act.put, List.setIfInBounds_toArray, List.set_cons_zero, List.set_cons_succ]
      refine wpAnyH_take (i := 5) (oi := { dst := some 19, op := Go.Op.load 2 (Go.Operand.tmp 18), type := 2, pos := "l04_table.go:109", after := #[{ on := 4, ground := Go.Ground.data }], guard := none }) (v := ?v5) rfl (by kernel_rfl) (by kernel_rfl) (by kernel_rfl) (fun _ _ _ h => h) (Or.inl ⟨by rfl, ?h5⟩) hHeld ?r5
      case h5 =>
        intro wS hSw
        have y0 := (hSw.cell (p := ⟨b, off + k * 2, none⟩) hbl).trans c0
        have y1 := (hSw.cell (p := ⟨b, off + k * 2 + 1, none⟩) hbl).trans c1
        clear hSw
        (try dsimp only at hSw)
        go_simp
        try with_reducible rfl
      case r5 =>
      simp only [Act.put, List.setIfInBounds_toArray, List.set_cons_zero, List.set_cons_succ]
      refine wpAnyH_take (i := 6) (oi := { dst := some 20, op := Go.Op.move (Go.Operand.tmp 1), type := 26, pos := "l04_table.go:109", after := #[], guard := none }) (v := ?v6) rfl (by kernel_rfl) (by kernel_rfl) (by kernel_rfl) (fun _ _ _ h => h) (Or.inl ⟨by rfl, ?h6⟩) hHeld ?r6
      case h6 =>
        intro wS hSw
        (try dsimp only at hSw)
        go_simp
        try with_reducible rfl
      case r6 =>
      simp only [Act.put, List.setIfInBounds_toArray, List.set_cons_zero, List.set_cons_succ]
      refine wpAnyH_take (i := 7) (oi := { dst := some 21, op := Go.Op.move (Go.Operand.tmp 0), type := 57, pos := "l04_table.go:109", after := #[], guard := none }) (v := ?v7) rfl (by kernel_rfl) (by kernel_rfl) (by kernel_rfl) (fun _ _ _ h => h) (Or.inl ⟨by rfl, ?h7⟩) hHeld ?r7
      case h7 =>
        intro wS hSw
        (try dsimp only at hSw)
        go_simp
        try with_reducible rfl
      case r7 =>
      simp only [Act.put, List.setIfInBounds_toArray, List.set_cons_zero, List.set_cons_succ]
      refine wpAnyH_take (i := 8) (oi := { dst := some 22, op := Go.Op.move (Go.Operand.tmp 6), type := 3, pos := "l04_table.go:109", after := #[], guard := none }) (v := ?v8) rfl (by kernel_rfl) (by kernel_rfl) (by kernel_rfl) (fun _ _ _ h => h) (Or.inl ⟨by rfl, ?h8⟩) hHeld ?r8
      case h8 =>
        intro wS hSw
        (try dsimp only at hSw)
        go_simp
        try with_reducible rfl
      case r8 =>
      simp only [Act.put, List.setIfInBounds_toArray, List.set_cons_zero, List.set_cons_succ]
      refine wpAnyH_take (i := 9) (oi := { dst := some 23, op := Go.Op.indexAddr 57 (Go.Operand.tmp 21) (Go.Operand.tmp 22), type := 0, pos := "l04_table.go:109", after := #[{ on := 7, ground := Go.Ground.data }, { on := 8, ground := Go.Ground.data }], guard := none }) (v := ?v9) rfl (by kernel_rfl) (by kernel_rfl) (by kernel_rfl) (fun _ _ _ h => h) (Or.inl ⟨by rfl, ?h9⟩) hHeld ?r9
      case h9 =>
        intro wS hSw
        (try dsimp only at hSw)
        go_simp
        try with_reducible rfl
      case r9 =>
      simp only [Act.put, List.setIfInBounds_toArray, List.set_cons_zero, List.set_cons_succ]
      refine wpAnyH_take (i := 10) (oi := { dst := some 24, op := Go.Op.fieldAddr 133 (Go.Operand.tmp 23) 1, type := 0, pos := "l04_table.go:109", after := #[{ on := 9, ground := Go.Ground.data }], guard := none }) (v := ?v10) rfl (by kernel_rfl) (by kernel_rfl) (by kernel_rfl) (fun _ _ _ h => h) (Or.inl ⟨by rfl, ?h10⟩) hHeld ?r10
      case h10 =>
        intro wS hSw
        (try dsimp only at hSw)
        go_simp
        try with_reducible rfl
      case r10 =>
      simp only [Act.put, List.setIfInBounds_toArray, List.set_cons_zero, List.set_cons_succ]
      refine wpAnyH_take (i := 11) (oi := { dst := some 25, op := Go.Op.load 26 (Go.Operand.tmp 24), type := 26, pos := "l04_table.go:109", after := #[{ on := 10, ground := Go.Ground.data }], guard := none }) (v := ?v11) rfl (by kernel_rfl) (by kernel_rfl) (by kernel_rfl) (fun _ _ _ h => h) (Or.inl ⟨by rfl, ?h11⟩) hHeld ?r11
      case h11 =>
        intro wS hSw
        have y0 := (hSw.cell (p := ⟨b, off + k * 2, none⟩) hbl).trans c0
        have y1 := (hSw.cell (p := ⟨b, off + k * 2 + 1, none⟩) hbl).trans c1
        clear hSw
        (try dsimp only at hSw)
        go_simp
        try with_reducible rfl
      case r11 =>
      simp only [Act.put, List.setIfInBounds_toArray, List.set_cons_zero, List.set_cons_succ]
      refine wpAnyH_ready (rs := [12]) (by kernel_rfl) (by simp) ?_
      refine AllReadyH.cons (o := { dst := some 26, op := Go.Op.call { callee := Go.Callee.value (Go.Operand.func 104), args := #[Go.Operand.tmp 20, Go.Operand.tmp 25], argTypes := #[26, 26] }, type := 2, pos := "l04_table.go:109", after := #[{ on := 6, ground := Go.Ground.data }, { on := 11, ground := Go.Ground.data }], guard := none }) rfl (fun K hK => ?_) AllReadyH.nil
      go_simp
      go_at_call 104
      refine (l1ScoreC _ _ q x.vec _ ((unhide HQ).later hHeld) ((unhide HI).later hHeld) (unhide HFQ) (unhide HVF)).mono ?_
      rintro e w3 ⟨rfl, hbw⟩
      have hG3 := hGD.later hbw
      have hz3 := hbw.size
      try go_wp2_with fail
      refine hK.out _ _ (hHeld.trans (hbw.mono hHeld.size)) (fun hHeld => ?_)
      clear hK K
      try simp only [Act.put, List.setIfInBounds_toArray, List.set_cons_zero, List.set_cons_succ]
      refine wpAnyH_take (i := 13) (oi := { dst := some 27, op := Go.Op.build 66 #[(0, Go.Operand.tmp 19), (1, Go.Operand.tmp 26)], type := 66, pos := "l04_table.go:109", after := #[{ on := 5, ground := Go.Ground.data }, { on := 12, ground := Go.Ground.data }], guard := none }) (v := ?v13) rfl (by kernel_rfl) (by kernel_rfl) (by kernel_rfl) (fun _ _ _ h => h) (Or.inl ⟨by rfl, ?h13⟩) hHeld ?r13
      case h13 =>
        intro wS hSw
        (try dsimp only at hSw)
        go_simp
        try with_reducible rfl
      case r13 =>
      simp only [Act.put, List.setIfInBounds_toArray, List.set_cons_zero, List.set_cons_succ]
      refine wpAnyH_ready (rs := [14]) (by kernel_rfl) (by simp) ?_
      refine AllReadyH.cons (o := { dst := some 28, op := Go.Op.buildSlice 46 1 #[(0, Go.Operand.tmp 27)], type := 46, pos := "l04_table.go:109", after := #[{ on := 13, ground := Go.Ground.data }], guard := none }) rfl (fun K hK => ?_) AllReadyH.nil
      have hH3 := hHeld
      go_simp
      refine hK.out _ _ (hHeld.alloc hHeld.size _) (fun hHeld => ?_)
      clear hK K
      try simp only [Act.put, List.setIfInBounds_toArray, List.set_cons_zero, List.set_cons_succ]
      refine wpAnyH_ready (rs := [15]) (by kernel_rfl) (by simp) ?_
      refine AllReadyH.cons (o := { dst := some 29, op := Go.Op.call { callee := Go.Callee.builtin Go.Builtin.append, args := #[Go.Operand.tmp 14, Go.Operand.tmp 28], argTypes := #[46, 46] }, type := 46, pos := "l04_table.go:109", after := #[{ on := 0, ground := Go.Ground.data }, { on := 14, ground := Go.Ground.data }, { on := 12, ground := Go.Ground.chain }], guard := none }) rfl (fun K hK => ?_) AllReadyH.nil
      refine step_append_Hit hG3 (row := [.int .i64 x.id, .int .i64 (score3 q x.vec)]) (x := hitOf q x) (bl := []) (lies_Hit.2 ⟨rfl, rfl, unhide HWI, unhide HWS⟩) (by simp) rfl _ _ rfl rfl rfl (by have := unhide HL; omega) hH3.size ?_
      rintro g5 cp5 w5 hG5 hb5 - hl5 hz5 -
      refine hK.out _ _ (hH3.trans hb5) (fun hHeld => ?_)
      clear hK K
      try simp only [Act.put, List.setIfInBounds_toArray, List.set_cons_zero, List.set_cons_succ]
      refine wpAnyH_take (i := 16) (oi := { dst := some 5, op := Go.Op.assign (Go.Operand.tmp 29), type := 46, pos := "l04_table.go:109", after := #[{ on := 15, ground := Go.Ground.data }, { on := 15, ground := Go.Ground.chain }, { on := 0, ground := Go.Ground.phase }, { on := 1, ground := Go.Ground.phase }, { on := 2, ground := Go.Ground.phase }, { on := 3, ground := Go.Ground.phase }, { on := 4, ground := Go.Ground.phase }, { on := 5, ground := Go.Ground.phase }, { on := 6, ground := Go.Ground.phase }, { on := 7, ground := Go.Ground.phase }, { on := 8, ground := Go.Ground.phase }, { on := 9, ground := Go.Ground.phase }, { on := 10, ground := Go.Ground.phase }, { on := 11, ground := Go.Ground.phase }, { on := 12, ground := Go.Ground.phase }, { on := 13, ground := Go.Ground.phase }, { on := 14, ground := Go.Ground.phase }, { on := 15, ground := Go.Ground.phase }], guard := none }) (v := ?v16) rfl (by kernel_rfl) (by kernel_rfl) (by kernel_rfl) (fun _ _ _ h => h) (Or.inl ⟨by rfl, ?h16⟩) hHeld ?r16
      case h16 =>
        intro wS hSw
        (try dsimp only at hSw)
        go_simp
        try with_reducible rfl
      case r16 =>
      simp only [Act.put, List.setIfInBounds_toArray, List.set_cons_zero, List.set_cons_succ]
      refine wpAnyH_done (by kernel_rfl) ?_ _
      refine NoPanic.normal ?_
      have HG5 := hide hG5
      have HB5 := hide hHeld
      clear hHeld hG5 hGD hG3
      go_wp2_with fail
      go_roundw
      case rel =>
        have hg := unhide HG5
        rw [← unhide HT] at hg
        exact ⟨k + 1, _, _, by omega, by go_num, hg, unhide HB5⟩
      case measure => simp [intOf]; omega
    · obtain rfl : k = xs.length := by omega
      rw [List.take_length] at hG
      have HG := hide (grow_hits hG).1
      have HB := hide hB
      clear hG hB H
      go_wp2_with fail
      go_ret
      exact ⟨_, rfl, unhide HG, unhide HB⟩

theorem specHits_zero (ao : Option Addr) (cap : Nat) (v : Value) (w : World) :
    Calls Tryz.prog 61 #[.slice ao 0 cap, v] w fun e w' => ∃ v, e = .returned v ∧ w'.ownsRow w.heap.size 66 2 v 0 [] ∧ Below w.heap.size w w' := by
  have HO : Hid ((w.alloc (.cells #[] 66)).ownsRow w.heap.size 66 2 (.slice (some ⟨w.heap.size, 0, none⟩) 0 0) 0 []) := World.ownsRow_lit w #[] 0 (Nat.le_refl _) (Nat.zero_le _) rfl
  have HB1 := hide ((Below.refl w.heap.size w).alloc (Nat.le_refl _) (.cells #[] 66))
  go_enter Tryz.func61, Tryz.ntmps61
  go_wp2_with fail
  refine wp_loop_rounds 1 ?_
  rw [rounds_succ]
  go_wp2_with fail
  go_ret
  exact ⟨_, rfl, unhide HO, unhide HB1⟩

/-- l4Hits of the model. -/
theorem specHits (v : Value) (xs : List DItem) (vq : Value) (q : List Int) (w : World) (h : (Lay.sl Lay.tItem).Reads w [v] xs) (hq : IsInts w vq q) (hf : tableFault xs = 0) (hfq : vecFault q = 0) :
    Calls Tryz.prog 61 #[v, vq] w fun e w' => ∃ v, e = .returned v ∧ w'.ownsRow w.heap.size 66 2 v ((hitsL xs q).map pairH).length (cells2 ((hitsL xs q).map pairH)) ∧ Below w.heap.size w w' := by
  obtain ⟨ao, cap, rfl⟩ := open_sl h
  have hvq : ∃ a d, vq = .slice a q.length d := by obtain ⟨a, d, e, -⟩ := hq; exact ⟨a, d, e⟩
  obtain ⟨a2, d2, rfl⟩ := hvq
  by_cases hp : 0 < xs.length
  · obtain ⟨b, off, rfl, hbl⟩ := Lay.sl_addr h hp
    exact specHits_pos b off cap xs a2 d2 q w h hq hbl hf hfq
  · obtain rfl : xs = [] := List.eq_nil_of_length_eq_zero (by omega)
    exact specHits_zero ao cap _ w

end Go.Proofs.YtfgadegpdknocaaGreat

namespace Go.Proofs.YtfgadegpdknocaaGreat
open Go.RowKit

/-- The second of two cells holds hits. -/
def HitsAt (w : World) (cs : List Value) (hs : List (Int × Int)) : Prop := ∃ c v, cs = [c, v] ∧ IsHits w v hs
theorem noHits (w : World) : IsHits w (.slice none 0 0) (([] : List DHit).map pairH) := ⟨none, 0, rfl, by simp, ⟨Nat.zero_le _, fun _ => rfl⟩, by simp, by simp⟩
theorem pair_dhit (l : List (Int × Int)) : (l.map dhit).map pairH = l := by
  induction l with
  | nil => rfl
  | cons a l ih => rw [List.map_cons, List.map_cons, ih]; rfl

set_option maxRecDepth 10000 in
set_option maxHeartbeats 1000000 in
theorem implSearchH (v : Value) (xs : List DItem) (vq : Value) (q : List Int) (k : Int) (w : World) (h : (Lay.sl Lay.tItem).Reads w [v] xs) (hq : (Lay.sl Lay.int).Reads w [vq] q) :
    Calls Tryz.prog 29 #[v, vq, .int .i64 k] w fun e w' => ∃ cs, e = .returned (.agg cs.toArray) ∧ Lay.tHitsResult.OwnIn w' cs (searchR xs q k) w.heap.size w'.heap.size ∧ HitsAt w' cs ((searchR xs q k).hits.map pairH) ∧ Below w.heap.size w w' := by
  have HB0 : Below w.heap.size w (w.alloc (.cells #[.int .i64 0, .slice none 0 0] 48)) := (Below.refl _ _).alloc (Nat.le_refl _) _
  have bR : Box w.heap.size #[.int .i64 0, .slice none 0 0] 48 (w.alloc (.cells #[.int .i64 0, .slice none 0 0] 48)) w.heap.size := newBox (Nat.le_refl _)
  have h0 := h.later HB0
  have HQ := hide (Lay.ints_reads (hq.later HB0))
  obtain ⟨ao, cap, rfl⟩ := open_sl h
  obtain ⟨ao2, cap2, rfl⟩ := open_sl hq
  clear h hq
  go_enter Tryz.func29, Tryz.ntmps29
  go_wp2_with fail
  generalize w.alloc (.cells #[.int .i64 0, .slice none 0 0] 48) = W0 at *
  refine (implTab _ xs W0 h0).mono ?_
  rintro e w1 ⟨rfl, hb⟩
  have H := hide (h0.later hb)
  replace HQ := hide ((unhide HQ).later hb)
  replace bR := bR.keep hb
  replace HB0 := HB0.trans (hb.mono HB0.size)
  have z0 : w1.cell? ⟨w.heap.size, 0, none⟩ = some (.int .i64 0) := bR.at 0 _ rfl
  have z1 : w1.cell? ⟨w.heap.size, 1, none⟩ = some (.slice none 0 0) := bR.at 1 _ rfl
  have f0 := bR.soft 0
  have f1 := bR.soft 1
  have l0 := bR.lt
  have HB := hide HB0
  have HR := hide bR
  clear hb HB0 bR h0
  by_cases hf : tableFault xs = 0
  · rw [hf]
    go_wp2_with fail
    refine (implFault _ q _ (unhide HQ)).mono ?_
    rintro e w1 ⟨rfl, rfl⟩
    by_cases hfq : vecFault q = 0
    · rw [hfq]
      have HF := hide hf
      have HFQ := hide hfq
      clear hf hfq
      go_wp2_with fail
      refine (implWanted k _).mono ?_
      rintro e w1 ⟨rfl, rfl⟩
      rw [show (decide (0 ≤ k) && decide (k ≤ 20)) = kB k from rfl]
      cases hk : kB k with
      | false =>
        have HG : Hid (searchR xs q k = ⟨3, []⟩) := by
          show searchR xs q k = _
          rw [searchR, if_pos (unhide HF), if_pos (unhide HFQ), hk, if_neg (by simp)]
        clear hk
        go_wp2_with fail
        refine bodyPost_ret (v := .agg #[.int .i64 3, .slice none 0 0]) (by simp [results, Tryz.results29, go_sem, z0, z1]) rfl ?_
        rw [unhide HG]
        exact ⟨[.int .i64 3, .slice none 0 0], rfl, own_codeHits (by decide), ⟨_, _, rfl, noHits _⟩, ((unhide HB).setCell (by simp) _).setCell (by simp) _⟩
      | true =>
        have HG : Hid (searchR xs q k = ⟨0, (best k.toNat ((hitsL xs q).map pairH)).map dhit⟩) := by
          show searchR xs q k = _
          rw [searchR, if_pos (unhide HF), if_pos (unhide HFQ), hk, if_pos rfl]
        have hkb : 0 ≤ k ∧ k ≤ 20 := by simpa [kB] using hk
        have HBC := hide (best_code (unhide HF) (unhide HFQ) hk)
        have HHR := hide (hits_right (unhide HF) (unhide HFQ))
        have HL := hide (hitsOfC _ xs _ q w1 (unhide H) (unhide HQ) (unhide HF) (unhide HFQ))
        clear hk HQ H
        go_wp2_with fail
        clear z0 z1 f0 f1 l0
        refine (unhide HL).mono ?_
        rintro e w2 ⟨v2, rfl, ho, hb⟩
        have hwf : ∀ p ∈ (hitsL xs q).map pairH, Wf2 p := fun p hp => oneB_wf ((unhide HHR).2 p hp)
        have hI := isHits_row hwf ho
        have bR := (unhide HR).keep hb
        have HB2 := hide ((unhide HB).trans (hb.mono (unhide HB).size))
        have HR2 := hide bR
        have HWF := hide hwf
        have hlen := (unhide HHR).1
        have L := implBest_all _ _ k w2 hI
        rw [(unhide HBC).1, (unhide HBC).2] at L
        have HL2 := hide L
        clear L hI ho hb bR HR HB HL hwf HBC
        go_wp2_with fail
        refine (unhide HL2).mono ?_
        rintro e w3 ⟨r3, rfl, ho3, hb3⟩
        have hO := own_hits ho3 (best_wf (unhide HWF)) (by have := best_len k.toNat ((hitsL xs q).map pairH); omega)
        obtain ⟨ao9, cp9, rfl⟩ := open_sl hO.reads
        simp only [intsRes]
        have bR := (unhide HR2).keep hb3
        have z0 : w3.cell? ⟨w.heap.size, 0, none⟩ = some (.int .i64 0) := bR.at 0 _ rfl
        have z1 : w3.cell? ⟨w.heap.size, 1, none⟩ = some (.slice none 0 0) := bR.at 1 _ rfl
        have f0 := bR.soft 0
        have f1 := bR.soft 1
        have l0 := bR.lt
        have HB9 := hide ((unhide HB2).trans (hb3.mono (unhide HB2).size))
        have HO9 := hide (hO.mono (lo' := w.heap.size + 1) (by have := (unhide HR2).lt; omega) (Nat.le_refl _))
        have hzz : w.heap.size < w2.heap.size := (unhide HR2).lt
        have HH9 : Hid (∀ u0 u1, IsHits ((w3.setCell ⟨w.heap.size, 0, none⟩ u0).setCell ⟨w.heap.size, 1, none⟩ u1) (.slice ao9 ((best k.toNat ((hitsL xs q).map pairH)).map dhit).length cp9) (((best k.toNat ((hitsL xs q).map pairH)).map dhit).map pairH)) := fun u0 u1 => by
          rw [pair_dhit]
          exact isHits_row (best_wf (unhide HWF)) (own_setC (own_setC ho3 hzz _) hzz _)
        clear hzz
        clear hO hb3 bR ho3
        generalize ((best k.toNat ((hitsL xs q).map pairH)).map dhit).length = n9 at *
        go_wp2_with fail
        refine bodyPost_ret (v := .agg #[.int .i64 0, .slice ao9 n9 cp9]) (by simp [results, Tryz.results29, go_sem, z0, z1]) rfl ?_
        rw [unhide HG]
        have hE : Ext (fun c => c = w.heap.size) w3 ((w3.setCell ⟨w.heap.size, 0, none⟩ (.int .i64 0)).setCell ⟨w.heap.size, 1, none⟩ (.slice ao9 n9 cp9)) := ((Ext.refl (fun c => c = w.heap.size) _).setCell ⟨w.heap.size, 0, none⟩ _ rfl).setCell ⟨w.heap.size, 1, none⟩ _ rfl
        exact ⟨[.int .i64 0, .slice ao9 n9 cp9], rfl, own_hitsR (by decide) (((unhide HO9).ext hE (fun c h1 _ h3 => by omega)).mono (by omega) (by simp)), ⟨_, _, rfl, unhide HH9 _ _⟩, ((unhide HB9).setCell (by simp) _).setCell (by simp) _⟩
    · have HG : Hid (searchR xs q k = ⟨vecFault q, []⟩) := by
        show searchR xs q k = _
        rw [searchR, if_pos hf, if_neg hfq]
      have hd : (vecFault q != 0) = true := by simpa using hfq
      have HC : Hid ((Lit.int .i64 (vecFault q)).wf = true) := by
        have hv : 0 ≤ vecFault q ∧ vecFault q ≤ 3 := by unfold vecFault; split <;> (try split) <;> decide
        exact wf_of_bd (by omega)
      clear hf hfq HQ H
      go_wp2_with fail
      refine bodyPost_ret (v := .agg #[.int .i64 (vecFault q), .slice none 0 0]) (by simp [results, Tryz.results29, go_sem, z0, z1]) rfl ?_
      rw [unhide HG]
      exact ⟨[.int .i64 (vecFault q), .slice none 0 0], rfl, own_codeHits (unhide HC), ⟨_, _, rfl, noHits _⟩, ((unhide HB).setCell (by simp) _).setCell (by simp) _⟩
  · have HG : Hid (searchR xs q k = ⟨tableFault xs, []⟩) := by
      show searchR xs q k = _
      rw [searchR, if_neg hf]
    have hd : (tableFault xs != 0) = true := by simpa using hf
    clear hf HQ H
    go_wp2_with fail
    refine bodyPost_ret (v := .agg #[.int .i64 (tableFault xs), .slice none 0 0]) (by simp [results, Tryz.results29, go_sem, z0, z1]) rfl ?_
    rw [unhide HG]
    exact ⟨[.int .i64 (tableFault xs), .slice none 0 0], rfl, own_codeHits (code_wf xs), ⟨_, _, rfl, noHits _⟩, ((unhide HB).setCell (by simp) _).setCell (by simp) _⟩

end Go.Proofs.YtfgadegpdknocaaGreat

namespace Go.Proofs.YtfgadegpdknocaaGreat
open Go.RowKit

theorem step_append_hitsB {ops : Array Oper} {o : Oper} {a : Act} {w : World} {K : Act → World → Prop} {Q : Exit → Act → World → Prop} {E : Prop} (s x : Operand)
    (ho : o.op = .call { callee := .builtin .append, args := #[s, x], argTypes := #[46, 46] }) (hw : Region.wanted o (yielded ops a.tmps) = true)
    (base : Nat) (v : Value) (n : Nat) (hs : List (Int × Int)) (hv : a.eval s = v) (hown : w.ownsRow base 66 2 v n (cells2 hs)) (X : Value) (ks : List (Int × Int)) (hX : a.eval x = X) (hx : IsHits w X ks)
    (hn : n + ks.length ≤ 100000000) (hbase : base ≤ w.heap.size)
    (h : ∀ v' w', w'.ownsRow base 66 2 v' (n + ks.length) (cells2 (hs ++ ks)) → Below base w w' → Ext (fun q => v.ownBlock = some q) w w' → (v'.ownBlock = v.ownBlock ∨ v'.ownBlock = some w.heap.size) → K (a.put o.dst v') w') :
    if Region.wanted o (yielded ops a.tmps) = true then Oper.wp Tryz.prog o a w K Q else E := by
  rw [if_pos hw]
  obtain ⟨v', w', hr, h2, h3, h4⟩ := run_append_hits base o.type v n hs hown X ks hx hn hbase
  unfold Oper.wp execOp
  simp only [ho, resolve, invoke, builtin, Sem.run_bind, Sem.run_pure, Result.andThen_ok, List.map_toArray, List.map_cons, List.map_nil, hv, hX, hr]
  have hbw : Below base w w' := (Below.refl _ _).grown h3 hbase (fun j hj => (hown.lt j hj).1)
  exact h v' w' h2 hbw ⟨hbw.os, hbw.tape, hbw.output, hbw.size, fun k hk hn => h3.block k hk (fun e => hn e.symm)⟩ h4

end Go.Proofs.YtfgadegpdknocaaGreat

namespace Go.Proofs.YtfgadegpdknocaaGreat
open Go.RowKit

theorem ivf_small {x : DIvf} (h : ivfFault x = 0) : (∀ l ∈ x.lists, tableFault l.items = 0) ∧ x.lists.length ≤ 6 := by
  obtain ⟨h1, h2, h3, -⟩ := ivfFault_zero h
  exact ⟨list_facts h3, by rw [h2]; exact (centersFault_zero h1).1.2⟩
theorem all_right {x : DIvf} (h : ivfFault x = 0) : Right (allIs x.lists) := by
  obtain ⟨-, -, h3, h4, h5⟩ := ivfFault_zero h
  exact tableFault_of (by omega) (fun y hy => by obtain ⟨l, hl, hm⟩ := allIs_mem hy; exact (tableFault_zero (list_facts h3 l hl)).2.1 y hm) (allIs_rising _)
theorem askedI_zero {x : DIvf} {id : Int} (h : askedI x id = 0) : ivfFault x = 0 ∧ idB id = true := by
  unfold askedI at h
  by_cases h1 : ivfFault x = 0
  · rw [if_pos h1] at h
    cases h2 : idB id with
    | true => exact ⟨h1, rfl⟩
    | false => rw [h2] at h; cases h
  · rw [if_neg h1] at h; exact absurd h h1
theorem askedI_wf (x : DIvf) (id : Int) : (Lit.int .i64 (askedI x id)).wf = true := by
  have := ivfFault_bd x
  refine wf_of_bd ?_
  unfold askedI
  split
  · split <;> omega
  · omega
theorem right_less {xs : List DItem} (h : Right xs) : xs.length ≤ 1000000 ∧ ∀ x ∈ xs, x.vec.length ≤ 100000000 := by
  obtain ⟨h1, h2, -⟩ := tableFault_zero h
  exact ⟨by omega, fun x hx => by have := (vecFault_zero (h2 x hx).2).1; omega⟩

end Go.Proofs.YtfgadegpdknocaaGreat
