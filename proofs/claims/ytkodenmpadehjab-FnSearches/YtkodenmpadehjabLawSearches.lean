/-
  The law FnSearches answers true at every slice of bytes, and writes nothing that was there.
  No condition.
-/
import Derived.Test.YtkodenmpadehjabDrawSearches
import Derived.Test.YtkodenmpadehjabSearchesPlain
import Derived.Test.YtkodenmpadehjabLwHits
import Derived.Test.YtkodenmpadehjabBig
import Derived.Test.YtkodenmpadehjabImplRank
import Derived.Test.YtkodenmpadehjabImplSearchH
import Derived.Test.YtkodenmpadehjabSpecSearchH
import Derived.Test.YtkodenmpadehjabScoreB
import Derived.Deep.RegionHeld3
import Derived.Deep.CutRange
namespace Go.Proofs.Ytkodenmpadehjab
open Go.RowKit

theorem fieldHR1 (c : Int) (a : Option Addr) (n cp : Nat) (w : World) : (Instr.field 30 (.agg #[.int .i64 c, .slice a n cp]) 1).run Try.prog w = .ok (.slice a n cp) w := by kernel_rfl
theorem fieldHR0 (c : Int) (a : Option Addr) (n cp : Nat) (w : World) : (Instr.field 30 (.agg #[.int .i64 c, .slice a n cp]) 0).run Try.prog w = .ok (.int .i64 c) w := by kernel_rfl
theorem fieldNR1 (c d : Int) (w : World) : (Instr.field 35 (.agg #[.int .i64 c, .int .i64 d]) 1).run Try.prog w = .ok (.int .i64 d) w := by kernel_rfl
theorem list3_of {l : List Int} (h : l.length = 3) : ∃ x y z, l = [x, y, z] := by
  match l, h with
  | [x, y, z], _ => exact ⟨x, y, z, rfl⟩
theorem scoreC (v1 v2 : Value) (q v : List Int) (w : World) (h1 : IsInts w v1 q) (h2 : IsInts w v2 v) (f1 : vecFault q = 0) (f2 : vecFault v = 0) :
    Calls Try.prog 8 #[v1, v2] w fun e w' => e = .returned (.agg #[.int .i64 0, .int .i64 (score3 q v)]) ∧ Below w.heap.size w w' := by
  obtain ⟨x, y, z, rfl⟩ : ∃ x y z, q = [x, y, z] := list3_of (vecFault_zero f1).1
  obtain ⟨a, b, c, rfl⟩ : ∃ x y z, v = [x, y, z] := list3_of (vecFault_zero f2).1
  exact implScore_ok v1 v2 x y z a b c w h1 h2 f1 f2

theorem lawSearches_many (ao : Option Addr) (len cap : Nat) (w : World) (hn : 1048576 < len) :
    Calls Try.prog 3 #[.slice ao len cap] w fun e w' => e = .returned (.bool true) ∧ Below w.heap.size w w' := by
  go_enter Try.func3, Try.ntmps3
  go_wp2_with fail
  refine (big_yes ao len cap w hn).mono ?_
  rintro e w' ⟨rfl, rfl⟩
  go_wp2_with fail
  go_ret
  exact ⟨rfl, Below.refl _ _⟩

set_option maxRecDepth 100000 in
set_option maxHeartbeats 4000000 in
theorem lawSearches_few (ao : Option Addr) (len cap : Nat) (w : World) (hn : len ≤ 1048576) (hcode : IsCode w.heap.size w (.slice ao len cap)) :
    Calls Try.prog 3 #[.slice ao len cap] w fun e w' => e = .returned (.bool true) ∧ Below w.heap.size w w' := by
  have HC := hide hcode
  clear hcode
  go_enter Try.func3, Try.ntmps3
  go_wp2_with fail
  refine (big_no ao len cap w hn).mono ?_
  rintro e w ⟨rfl, rfl⟩
  go_wp2_with fail
  refine (drawSearch ao len cap w (unhide HC)).mono ?_
  rintro e w1 ⟨v, xs, u, q, k, rfl, hR, hxl, hU, hzl, hkw, hb⟩
  obtain ⟨av, cv, rfl⟩ := open_sl hR
  obtain ⟨au, cu, rfl⟩ := open_sl hU
  have HB1 := hide hb
  have HX1 := hide hR
  have HU1 := hide hU
  clear hb hR hU HC hkw
  go_wp2_with fail
  refine (implSearchH _ xs _ q k w1 (unhide HX1) (unhide HU1)).mono ?_
  rintro e w2 ⟨cs, rfl, ho, ⟨vc, vh, hcv, hIH⟩, hb2⟩
  obtain ⟨a1, c1, rfl, -⟩ := open_HitsResult ho.reads
  obtain ⟨rfl, rfl⟩ : Value.int .i64 (searchR xs q k).code = vc ∧ Value.slice a1 (searchR xs q k).hits.length c1 = vh := by simpa using hcv
  clear ho hcv
  obtain ⟨c, hcc⟩ : ∃ c, c = (searchR xs q k).code := ⟨_, rfl⟩
  obtain ⟨hs, hhs⟩ : ∃ hs, hs = (searchR xs q k).hits.map pairH := ⟨_, rfl⟩
  have hhl : (searchR xs q k).hits.length = hs.length := by rw [hhs, List.length_map]
  rw [← hhs, hhl] at hIH
  rw [← hcc, hhl]
  have nb : Below w2.heap.size w2 (w2.alloc (.cells #[.int .i64 c, .slice a1 hs.length c1] 30)) := (Below.refl _ _).alloc (Nat.le_refl _) _
  obtain ⟨k0, k1⟩ := new_cells (w := w2) (T := 30) (x := .int .i64 c) (y := .slice a1 hs.length c1)
  have P0 := hide (((unhide HX1).later hb2).later nb)
  have PU := hide (((unhide HU1).later hb2).later nb)
  have P1 := hide (hIH.later nb)
  have HBA := hide (below_step (unhide HB1) (below_step hb2 nb))
  have HCC := hide hcc
  have HHS := hide hhs
  clear hb2 nb hcc hhs HX1 HU1 HB1 hIH hhl
  by_cases hc0 : c = 0
  · subst hc0
    obtain ⟨r1, r2, r3, r4⟩ := searchR_zero (unhide HCC).symm
    have hse := searched r1 r2 r3
    have e9 : hs = best k.toNat (xs.map (hitP q)) := by rw [unhide HHS, r4, pair_dhit]
    rw [← e9] at hse
    have HS := hide hse
    have HSR : Hid ((searchR xs q k).hits.map pairH = hs) := (unhide HHS).symm
    have HSC : Hid ((searchR xs q k).code = 0) := (unhide HCC).symm
    have HF1 : Hid (vecFault q = 0) := r2
    have HIX : Hid (∀ x ∈ xs, vecFault x.vec = 0) := fun x hx => ((tableFault_zero r1).2.1 x hx).2
    have hfew := hse.few
    have hfull := hse.full
    have hmost := hse.most
    have d1 : decide (k < (hs.length : Int)) = false := by simp; omega
    have d3 : Hid (decide (xs.length < hs.length) = false) := by show decide (xs.length < hs.length) = false; simp; omega
    have hd2 : Hid (((hs.length : Int) < k ∧ ((hs.length : Int) != (xs.length : Int)) = false) ∨ ¬ (hs.length : Int) < k) := by
      by_cases hlt : (hs.length : Int) < k
      · exact Or.inl ⟨hlt, by simp [hfull hlt]⟩
      · exact Or.inr hlt
    clear HCC HHS hse e9 r1 r2 r3 r4 hfew hfull hmost
    go_upto_region 8 with fail
    generalize hwa : w2.alloc (.cells #[.int .i64 0, .slice a1 hs.length c1] 30) = wa at *
    generalize w2.heap.size = s0 at *
    clear hwa
    have keep : Hid (∀ W, Below wa.heap.size wa W → (Lay.sl Lay.tItem).Reads W [.slice av xs.length cv] xs ∧ (Lay.sl Lay.int).Reads W [.slice au q.length cu] q ∧ IsHits W (.slice a1 hs.length c1) hs ∧ W.cell? ⟨s0, 1, none⟩ = some (.slice a1 hs.length c1)) := fun W hW =>
      ⟨(unhide P0).later hW, (unhide PU).later hW, (unhide P1).later hW, cell_keep hW k1⟩
    clear P0 PU P1 k0 k1
    go_cut [56] from 37 to 55 (fun s56 wx => s56 = .bool false ∧ Below wa.heap.size wa wx)
    case first =>
      clear keep
      rcases unhide hd2 with ⟨h1, h2⟩ | h1
      · have d2 : decide ((hs.length : Int) < k) = true := by simpa using h1
        clear h1
        go_wp2_with fail
        go_meet
        exact ⟨by rw [unhide d3], Below.refl _ _⟩
      · have d2 : decide ((hs.length : Int) < k) = false := by simpa using h1
        clear h1
        go_wp2_with fail
        go_meet
        exact ⟨by rw [unhide d3], Below.refl _ _⟩
    case rest =>
    obtain ⟨rfl, hbr⟩ := hcut
    have HBR := hide hbr
    clear hbr hd2 d1 d3
    go_wp2_with fail
    go_loopw [8] (fun i wr => ∃ j : Nat, j ≤ xs.length ∧ i = .int .i64 j ∧ Below wa.heap.size wa wr) (fun i _ => xs.length - (intOf i).toNat)
    case atStart => exact ⟨0, Nat.zero_le _, rfl, unhide HBR⟩
    case round =>
      clear HBR
      obtain ⟨j, hj, rfl, hB⟩ := hrel
      by_cases hlt : j < xs.length
      · obtain ⟨hRx, -, -, -⟩ := unhide keep wr hB
        obtain ⟨b, off, rfl, hbl⟩ := Lay.sl_addr hRx (by omega)
        obtain ⟨row, hc, hr⟩ := Lay.row_at hRx hlt
        obtain ⟨a5, d5, rfl, hRv⟩ := open_Item hr
        have q0 : wr.cell? ⟨b, off + j * 2, none⟩ = some (.int .i64 (xs[j]).id) := hc 0 (by decide)
        have q1 : wr.cell? ⟨b, off + j * 2 + 1, none⟩ = some (.slice a5 (xs[j]).vec.length d5) := hc 1 (by decide)
        have HIJ := hide (unhide HIX xs[j] (List.getElem_mem hlt))
        have HTOLD := hide ((unhide HS).told xs[j] (List.getElem_mem hlt))
        have HRV := hide (Lay.ints_reads hRv)
        generalize xs[j] = x at *
        have HB := hide hB
        clear hc hr hRx hRv hB
        obtain ⟨sc, hsc⟩ : ∃ sc, sc = score3 q x.vec := ⟨_, rfl⟩
        have F : Hid (∀ W, Below wr.heap.size wr W → W.cell? ⟨b, off + j * 2, none⟩ = some (.int .i64 x.id) ∧ W.cell? ⟨b, off + j * 2 + 1, none⟩ = some (.slice a5 x.vec.length d5)) := fun W hW => ⟨cell_keep hW q0, cell_keep hW q1⟩
        have LR : Hid (∀ W, Below wr.heap.size wr W → Calls Try.prog 8 #[.slice au q.length cu, .slice a5 x.vec.length d5] W fun e w' => e = .returned (.agg #[.int .i64 0, .int .i64 sc]) ∧ Below wr.heap.size wr w' ∧ ∀ s, Box wr.heap.size #[.int .i64 0, .int .i64 0] 38 W s → Box wr.heap.size #[.int .i64 0, .int .i64 0] 38 w' s) := fun W hW => by
          have := scoreC (.slice au q.length cu) (.slice a5 x.vec.length d5) q x.vec W (Lay.ints_reads (unhide keep W (below_step (unhide HB) hW)).2.1) ((unhide HRV).later hW) (unhide HF1) (unhide HIJ)
          rw [← hsc] at this
          exact this.mono fun e w' ⟨h1, h2⟩ => ⟨h1, below_step hW h2, fun s hs => hs.keep h2⟩
        have hP : hitP q x = (x.id, sc) := by rw [hsc]; rfl
        rw [hP] at HTOLD
        have hfl := fun c d => fieldNR1 c d
        have g3 : (j : Int) < (xs.length : Int) := by omega
        have g5 : (0 : Int) ≤ (j : Int) := by omega
        obtain ⟨zr, pr⟩ := unhide F wr (Below.refl _ _)
        clear hsc hP
        go_upto_region 13 with fail
        go_cut [9] from 63 to 76 (fun sT wv => ∃ (wz : World) (s : Nat), wz = wv ∧ sT = .pointer (some ⟨s, 0, none⟩) ∧ s < wv.heap.size ∧ wv.cell? ⟨s, 0, none⟩ = some (.int .i64 x.id) ∧ wv.cell? ⟨s, 1, none⟩ = some (.int .i64 sc) ∧ Below wr.heap.size wr wv)
        case first =>
          clear keep HTOLD
          first
            | go_region_held3 (fun w' => w'.cell? ⟨b, off + j * 2, none⟩ = some (.int .i64 x.id) ∧ w'.cell? ⟨b, off + j * 2 + 1, none⟩ = some (.slice a5 x.vec.length d5))
                (first
                  | exact unhide F _ (Below.refl _ _).drew
                  | exact unhide F _ ((Below.refl _ _).alloc (Nat.le_refl _) _).drew
                  | exact unhide F _ ((Below.refl _ _).alloc (Nat.le_refl _) _)
                  | exact unhide F _ hb3
                  | exact unhide F _ (hb3.alloc hb3.size _)
                  | exact unhide F _ ((hb3.setCell (by simp) _).setCell (by simp) _)
                  | go_keep)
                (first
                  | (go_at_call 8; refine (unhide LR _ (by first | exact (Below.refl _ _).drew | exact (Below.refl _ _) | exact ((Below.refl _ _).alloc (Nat.le_refl _) _).drew | exact ((Below.refl _ _).alloc (Nat.le_refl _) _) | exact (Below.refl _ _).drew.alloc (Nat.le_refl _) _)).mono ?_; rintro e w3 ⟨rfl, hb3, hk3⟩; (first | have hq := hk3 _ (newBox (Nat.le_refl _)) | have hq := hk3 _ (newBox (Nat.le_refl _)).drew | skip); (first | (obtain ⟨y0, y1, y2, y3⟩ := hq.two) | skip)))
            | fail
          all_goals
            go_wp2_with fail
            go_meet
            first
              | exact ⟨_, _, rfl, rfl, by simp, (new_cells (w := w3) (T := 38)).1, (new_cells (w := w3) (T := 38)).2, hb3.alloc hb3.size _⟩
              | exact ⟨_, _, rfl, rfl, by simp; exact y3, by simp [go_sem, y0], by simp [go_sem, y1], (hb3.setCell (by simp) _).setCell (by simp) _⟩
        case rest =>
        obtain ⟨wx, sA, rfl, rfl, hlsA, y0sA, y1sA, hbsA⟩ := hcut
        obtain ⟨rc, rv, hrk⟩ : ∃ rc rv, rankOf hs x.id = (rc, rv) := ⟨_, _, rfl⟩
        have F : Hid (∀ W, Below wx.heap.size wx W → W.cell? ⟨s0, 1, none⟩ = some (.slice a1 hs.length c1) ∧ W.cell? ⟨b, off + j * 2, none⟩ = some (.int .i64 x.id)) := fun W hW => ⟨(unhide keep W (below_step (unhide HB) (below_step hbsA hW))).2.2.2, cell_keep (below_step hbsA hW) q0⟩
        have LR : Hid (∀ W, Below wx.heap.size wx W → Calls Try.prog 9 #[.slice a1 hs.length c1, .int .i64 x.id] W fun e w' => e = .returned (.agg #[.int .i64 rc, .int .i64 rv]) ∧ Below wx.heap.size wx w' ∧ ∀ s, Box wx.heap.size #[.int .i64 0, .int .i64 0] 35 W s → Box wx.heap.size #[.int .i64 0, .int .i64 0] 35 w' s) := fun W hW => by
          have := implRank_all _ hs x.id W (unhide keep W (below_step (unhide HB) (below_step hbsA hW))).2.2.1
          rw [hrk] at this
          exact this.mono fun e w' ⟨h1, h2⟩ => ⟨h1, below_step hW h2, fun s hs => hs.keep h2⟩
        rw [hrk] at HTOLD
        clear hrk zr pr
        obtain ⟨zr, pr⟩ := unhide F wx (Below.refl _ _)
        go_upto_region 14 with fail
        go_cut [10] from 77 to 84 (fun sT wv => ∃ (wz : World) (s : Nat), wz = wv ∧ sT = .pointer (some ⟨s, 0, none⟩) ∧ s < wv.heap.size ∧ wv.cell? ⟨s, 0, none⟩ = some (.int .i64 rc) ∧ wv.cell? ⟨s, 1, none⟩ = some (.int .i64 rv) ∧ Below wx.heap.size wx wv)
        case first =>
          clear keep HTOLD
          first
            | go_region_held3 (fun w' => w'.cell? ⟨s0, 1, none⟩ = some (.slice a1 hs.length c1) ∧ w'.cell? ⟨b, off + j * 2, none⟩ = some (.int .i64 x.id))
                (first
                  | exact unhide F _ (Below.refl _ _).drew
                  | exact unhide F _ ((Below.refl _ _).alloc (Nat.le_refl _) _).drew
                  | exact unhide F _ ((Below.refl _ _).alloc (Nat.le_refl _) _)
                  | exact unhide F _ hb3
                  | exact unhide F _ (hb3.alloc hb3.size _)
                  | exact unhide F _ ((hb3.setCell (by simp) _).setCell (by simp) _)
                  | go_keep)
                (first
                  | (go_at_call 9; refine (unhide LR _ (by first | exact (Below.refl _ _).drew | exact (Below.refl _ _) | exact ((Below.refl _ _).alloc (Nat.le_refl _) _).drew | exact ((Below.refl _ _).alloc (Nat.le_refl _) _) | exact (Below.refl _ _).drew.alloc (Nat.le_refl _) _)).mono ?_; rintro e w3 ⟨rfl, hb3, hk3⟩; (first | have hq := hk3 _ (newBox (Nat.le_refl _)) | have hq := hk3 _ (newBox (Nat.le_refl _)).drew | skip); (first | (obtain ⟨y0, y1, y2, y3⟩ := hq.two) | skip)))
            | fail
          all_goals
            go_wp2_with fail
            go_meet
            first
              | exact ⟨_, _, rfl, rfl, by simp, (new_cells (w := w3) (T := 35)).1, (new_cells (w := w3) (T := 35)).2, hb3.alloc hb3.size _⟩
              | exact ⟨_, _, rfl, rfl, by simp; exact y3, by simp [go_sem, y0], by simp [go_sem, y1], (hb3.setCell (by simp) _).setCell (by simp) _⟩
        case rest =>
        obtain ⟨wz, sB, rfl, rfl, hlsB, y0sB, y1sB, hbsB⟩ := hcut
        have m0 := cell_keep hbsB y0sA
        have m1 := cell_keep hbsB y1sA
        have HBZ := hide (below_step (unhide HB) (below_step hbsA hbsB))
        obtain ⟨-, -, hIH, zh⟩ := unhide keep wz (unhide HBZ)
        clear F LR HB q0 q1 zr pr hbsA hbsB y0sA y1sA hfl HRV HIJ hlsA hlsB
        go_upto_region 15 with fail
        go_cut [116] from 85 to 115 (fun s116 wv => s116 = .bool false ∧ Below wz.heap.size wz wv)
        case rest =>
          obtain ⟨rfl, hbc⟩ := hcut
          have HBC := hide hbc
          clear hbc m0 m1 y0sB y1sB zh hIH HTOLD
          go_wp2_with fail
          go_roundw
          case rel => exact ⟨j + 1, by omega, by go_num, below_step (unhide HBZ) (unhide HBC)⟩
          case measure => simp [intOf]; omega
        case first =>
        rcases unhide HTOLD with ⟨r, hr, hat⟩ | ⟨hr, hbt⟩
        · simp only [Prod.mk.injEq] at hr
          obtain ⟨rfl, rfl⟩ := hr
          have hrl : r < hs.length := at_some hat
          obtain ⟨_, _, e1, -, -, -, hcc⟩ := hIH
          simp only [Value.slice.injEq] at e1
          obtain ⟨rfl, -, rfl⟩ := e1
          obtain ⟨b2, o2, rfl, hcd⟩ := hcc (by omega)
          obtain ⟨p1, p2⟩ := hcd r _ _ hat
          have g6 : (r : Int) < (hs.length : Int) := by omega
          have g7 : (0 : Int) ≤ (r : Int) := by omega
          have hin := eqIn2 x.id sc x.id sc
          have hnn : ∀ w, (binOp .neq 38 (.agg #[.int .i64 x.id, .int .i64 sc]) (.agg #[.int .i64 x.id, .int .i64 sc])).run Try.prog w = .ok (.bool false) w := fun w => by rw [neq2]; simp
          clear HTOLD hat hcc hcd keep
          go_quiet (fail)
          go_wp2_with fail
          go_meet
          exact ⟨rfl, below_drewN (Below.refl _ _) _⟩
        · simp only [Prod.mk.injEq] at hr
          obtain ⟨rfl, rfl⟩ := hr
          by_cases hz : hs.length = 0
          · clear HTOLD hbt hIH keep HS HSR
            generalize hs.length = N at *
            subst hz
            go_quiet (fail)
            go_wp2_with fail
            go_meet
            exact ⟨rfl, below_drewN (Below.refl _ _) _⟩
          · obtain ⟨N1, hN1⟩ : ∃ N1, hs.length = N1 + 1 := ⟨hs.length - 1, by omega⟩
            obtain ⟨x2, y2, hxy2⟩ : ∃ x2 y2, hs[N1]? = some (x2, y2) := ⟨(hs[N1]'(by omega)).1, (hs[N1]'(by omega)).2, by simp [show N1 < hs.length by omega]⟩
            have hbet := hbt (x2, y2) (List.mem_of_getElem? hxy2)
            obtain ⟨_, _, e1, -, -, -, hcc⟩ := hIH
            simp only [Value.slice.injEq] at e1
            obtain ⟨rfl, -, rfl⟩ := e1
            obtain ⟨b2, o2, rfl, hcd⟩ := hcc (by omega)
            obtain ⟨p1, p2⟩ := hcd N1 _ _ hxy2
            have LB : Hid (∀ W, Calls Try.prog 10 #[.agg #[.int .i64 x.id, .int .i64 sc], .agg #[.int .i64 x2, .int .i64 y2]] W fun e w' => e = .returned (.bool false) ∧ Below W.heap.size W w') := fun W => by
              have := implBetter x.id sc x2 y2 W
              rwa [hbet] at this
            have hl20 := (hitsFault_zero (unhide HS).right).1
            clear HTOLD hbt hcc hcd hxy2 hbet keep HS HSR hz
            generalize hs.length = N at *
            subst hN1
            have f8 : IntKind.i64.wrap (N1 : Int) = (N1 : Int) := by rw [IntKind.wrap_i64]; omega
            have f1 : decide ((0 : Int) < (N1 : Int) + 1) = true := decide_eq_true (by omega)
            have f2 : (N1 : Int) + 1 - 1 = (N1 : Int) := by omega
            have f3 : (N1 : Int) < (N1 : Int) + 1 := by omega
            have f7 : (0 : Int) ≤ (N1 : Int) := by omega
            refine wp_region_noPanic ?_
            refine wp_region_held_drew (S := fun w' => Below wz.heap.size wz w') (by kernel_rfl) (Below.refl _ _).drew (fun hHeld => ?_)
            generalize wz.drew = wD at hHeld ⊢
            refine wpAnyH_take (i := 0) (oi := { dst := some 85, op := Go.Op.fieldAddr 35 (Go.Operand.tmp 10) 0, type := 0, pos := "laws.go:221", after := #[], guard := none }) (v := ?vz0) rfl (by kernel_rfl) (by kernel_rfl) (by kernel_rfl) (fun _ _ _ h => h) (Or.inl ⟨by rfl, ?hz0⟩) hHeld ?rz0
            case hz0 =>
              intro wS hSw
              (try dsimp only at hSw)
              go_simp
              try with_reducible rfl
            case rz0 =>
            simp only [Act.put, List.setIfInBounds_toArray, List.set_cons_zero, List.set_cons_succ]
            refine wpAnyH_take (i := 1) (oi := { dst := some 86, op := Go.Op.load 2 (Go.Operand.tmp 85), type := 2, pos := "laws.go:221", after := #[{ on := 0, ground := Go.Ground.data }], guard := none }) (v := ?vz1) rfl (by kernel_rfl) (by kernel_rfl) (by kernel_rfl) (fun _ _ _ h => h) (Or.inl ⟨by rfl, ?hz1⟩) hHeld ?rz1
            case hz1 =>
              intro wS hSw
              have t0 := cell_keep hSw m0
              have t1 := cell_keep hSw m1
              have t2 := cell_keep hSw y0sB
              have t3 := cell_keep hSw zh
              have t4 := cell_keep hSw p1
              have t5 := cell_keep hSw p2
              clear hSw
              (try dsimp only at hSw)
              go_simp
              try with_reducible rfl
            case rz1 =>
            simp only [Act.put, List.setIfInBounds_toArray, List.set_cons_zero, List.set_cons_succ]
            refine wpAnyH_take (i := 2) (oi := { dst := some 87, op := Go.Op.binOp Go.BinOp.neq 2 (Go.Operand.tmp 86) (Go.Operand.const (Go.Value.int Go.IntKind.i64 0)) 2, type := 4, pos := "laws.go:221", after := #[{ on := 1, ground := Go.Ground.data }], guard := none }) (v := ?vz2) rfl (by kernel_rfl) (by kernel_rfl) (by kernel_rfl) (fun _ _ _ h => h) (Or.inl ⟨by rfl, ?hz2⟩) hHeld ?rz2
            case hz2 =>
              intro wS hSw
              (try dsimp only at hSw)
              go_simp
              try with_reducible rfl
            case rz2 =>
            simp only [Act.put, List.setIfInBounds_toArray, List.set_cons_zero, List.set_cons_succ]
            refine wpAnyH_take (i := 3) (oi := { dst := some 88, op := Go.Op.move (Go.Operand.tmp 87), type := 4, pos := "laws.go:221", after := #[{ on := 2, ground := Go.Ground.data }], guard := none }) (v := ?vz3) rfl (by kernel_rfl) (by kernel_rfl) (by kernel_rfl) (fun _ _ _ h => h) (Or.inl ⟨by rfl, ?hz3⟩) hHeld ?rz3
            case hz3 =>
              intro wS hSw
              (try dsimp only at hSw)
              go_simp
              try with_reducible rfl
            case rz3 =>
            simp only [Act.put, List.setIfInBounds_toArray, List.set_cons_zero, List.set_cons_succ]
            refine wpAnyH_take (i := 4) (oi := { dst := some 89, op := Go.Op.move (Go.Operand.tmp 7), type := 3, pos := "laws.go:221", after := #[{ on := 3, ground := Go.Ground.guard }], guard := some (3, true) }) (v := ?vz4) rfl (by kernel_rfl) (by kernel_rfl) (by kernel_rfl) (fun _ _ _ h => h) (Or.inl ⟨by rfl, ?hz4⟩) hHeld ?rz4
            case hz4 =>
              intro wS hSw
              (try dsimp only at hSw)
              go_simp
              try with_reducible rfl
            case rz4 =>
            simp only [Act.put, List.setIfInBounds_toArray, List.set_cons_zero, List.set_cons_succ]
            refine wpAnyH_take (i := 5) (oi := { dst := some 90, op := Go.Op.binOp Go.BinOp.gtr 3 (Go.Operand.tmp 89) (Go.Operand.const (Go.Value.int Go.IntKind.i64 0)) 3, type := 4, pos := "laws.go:221", after := #[{ on := 4, ground := Go.Ground.data }, { on := 3, ground := Go.Ground.guard }], guard := some (3, true) }) (v := ?vz5) rfl (by kernel_rfl) (by kernel_rfl) (by kernel_rfl) (fun _ _ _ h => h) (Or.inl ⟨by rfl, ?hz5⟩) hHeld ?rz5
            case hz5 =>
              intro wS hSw
              (try dsimp only at hSw)
              go_simp
              try with_reducible rfl
            case rz5 =>
            simp only [Act.put, List.setIfInBounds_toArray, List.set_cons_zero, List.set_cons_succ]
            refine wpAnyH_take (i := 6) (oi := { dst := some 91, op := Go.Op.pick (Go.Operand.tmp 88) (Go.Operand.tmp 90) (Go.Operand.const (Go.Value.bool false)), type := 4, pos := "laws.go:221", after := #[{ on := 3, ground := Go.Ground.data }, { on := 5, ground := Go.Ground.data }], guard := none }) (v := ?vz6) rfl (by kernel_rfl) (by kernel_rfl) (by kernel_rfl) (fun _ _ _ h => h) (Or.inl ⟨by rfl, ?hz6⟩) hHeld ?rz6
            case hz6 =>
              intro wS hSw
              (try dsimp only at hSw)
              go_simp
              try with_reducible rfl
            case rz6 =>
            simp only [Act.put, List.setIfInBounds_toArray, List.set_cons_zero, List.set_cons_succ]
            refine wpAnyH_take (i := 7) (oi := { dst := some 92, op := Go.Op.move (Go.Operand.tmp 91), type := 4, pos := "laws.go:221", after := #[{ on := 6, ground := Go.Ground.data }, { on := 3, ground := Go.Ground.chain }], guard := none }) (v := ?vz7) rfl (by kernel_rfl) (by kernel_rfl) (by kernel_rfl) (fun _ _ _ h => h) (Or.inl ⟨by rfl, ?hz7⟩) hHeld ?rz7
            case hz7 =>
              intro wS hSw
              (try dsimp only at hSw)
              go_simp
              try with_reducible rfl
            case rz7 =>
            simp only [Act.put, List.setIfInBounds_toArray, List.set_cons_zero, List.set_cons_succ]
            refine wpAnyH_take (i := 8) (oi := { dst := some 93, op := Go.Op.load 38 (Go.Operand.tmp 9), type := 38, pos := "laws.go:221", after := #[{ on := 7, ground := Go.Ground.guard }], guard := some (7, true) }) (v := ?vz8) rfl (by kernel_rfl) (by kernel_rfl) (by kernel_rfl) (fun _ _ _ h => h) (Or.inl ⟨by rfl, ?hz8⟩) hHeld ?rz8
            case hz8 =>
              intro wS hSw
              have t0 := cell_keep hSw m0
              have t1 := cell_keep hSw m1
              have t2 := cell_keep hSw y0sB
              have t3 := cell_keep hSw zh
              have t4 := cell_keep hSw p1
              have t5 := cell_keep hSw p2
              clear hSw
              (try dsimp only at hSw)
              go_simp
              try with_reducible rfl
            case rz8 =>
            simp only [Act.put, List.setIfInBounds_toArray, List.set_cons_zero, List.set_cons_succ]
            refine wpAnyH_take (i := 9) (oi := { dst := some 94, op := Go.Op.fieldAddr 30 (Go.Operand.tmp 6) 1, type := 0, pos := "laws.go:221", after := #[{ on := 7, ground := Go.Ground.guard }], guard := some (7, true) }) (v := ?vz9) rfl (by kernel_rfl) (by kernel_rfl) (by kernel_rfl) (fun _ _ _ h => h) (Or.inl ⟨by rfl, ?hz9⟩) hHeld ?rz9
            case hz9 =>
              intro wS hSw
              (try dsimp only at hSw)
              go_simp
              try with_reducible rfl
            case rz9 =>
            simp only [Act.put, List.setIfInBounds_toArray, List.set_cons_zero, List.set_cons_succ]
            refine wpAnyH_take (i := 10) (oi := { dst := some 95, op := Go.Op.load 28 (Go.Operand.tmp 94), type := 28, pos := "laws.go:221", after := #[{ on := 9, ground := Go.Ground.data }, { on := 7, ground := Go.Ground.guard }], guard := some (7, true) }) (v := ?vz10) rfl (by kernel_rfl) (by kernel_rfl) (by kernel_rfl) (fun _ _ _ h => h) (Or.inl ⟨by rfl, ?hz10⟩) hHeld ?rz10
            case hz10 =>
              intro wS hSw
              have t0 := cell_keep hSw m0
              have t1 := cell_keep hSw m1
              have t2 := cell_keep hSw y0sB
              have t3 := cell_keep hSw zh
              have t4 := cell_keep hSw p1
              have t5 := cell_keep hSw p2
              clear hSw
              (try dsimp only at hSw)
              go_simp
              try with_reducible rfl
            case rz10 =>
            simp only [Act.put, List.setIfInBounds_toArray, List.set_cons_zero, List.set_cons_succ]
            refine wpAnyH_take (i := 11) (oi := { dst := some 96, op := Go.Op.move (Go.Operand.tmp 7), type := 3, pos := "laws.go:221", after := #[{ on := 7, ground := Go.Ground.guard }], guard := some (7, true) }) (v := ?vz11) rfl (by kernel_rfl) (by kernel_rfl) (by kernel_rfl) (fun _ _ _ h => h) (Or.inl ⟨by rfl, ?hz11⟩) hHeld ?rz11
            case hz11 =>
              intro wS hSw
              (try dsimp only at hSw)
              go_simp
              try with_reducible rfl
            case rz11 =>
            simp only [Act.put, List.setIfInBounds_toArray, List.set_cons_zero, List.set_cons_succ]
            refine wpAnyH_take (i := 12) (oi := { dst := some 97, op := Go.Op.binOp Go.BinOp.sub 3 (Go.Operand.tmp 96) (Go.Operand.const (Go.Value.int Go.IntKind.i64 1)) 3, type := 3, pos := "laws.go:221", after := #[{ on := 11, ground := Go.Ground.data }, { on := 7, ground := Go.Ground.guard }], guard := some (7, true) }) (v := ?vz12) rfl (by kernel_rfl) (by kernel_rfl) (by kernel_rfl) (fun _ _ _ h => h) (Or.inl ⟨by rfl, ?hz12⟩) hHeld ?rz12
            case hz12 =>
              intro wS hSw
              (try dsimp only at hSw)
              go_simp
              try with_reducible rfl
            case rz12 =>
            simp only [Act.put, List.setIfInBounds_toArray, List.set_cons_zero, List.set_cons_succ]
            refine wpAnyH_take (i := 13) (oi := { dst := some 98, op := Go.Op.indexAddr 28 (Go.Operand.tmp 95) (Go.Operand.tmp 97), type := 0, pos := "laws.go:221", after := #[{ on := 10, ground := Go.Ground.data }, { on := 12, ground := Go.Ground.data }, { on := 7, ground := Go.Ground.guard }], guard := some (7, true) }) (v := ?vz13) rfl (by kernel_rfl) (by kernel_rfl) (by kernel_rfl) (fun _ _ _ h => h) (Or.inl ⟨by rfl, ?hz13⟩) hHeld ?rz13
            case hz13 =>
              intro wS hSw
              (try dsimp only at hSw)
              go_simp
              try with_reducible rfl
            case rz13 =>
            simp only [Act.put, List.setIfInBounds_toArray, List.set_cons_zero, List.set_cons_succ]
            refine wpAnyH_take (i := 14) (oi := { dst := some 99, op := Go.Op.load 38 (Go.Operand.tmp 98), type := 38, pos := "laws.go:221", after := #[{ on := 13, ground := Go.Ground.data }, { on := 7, ground := Go.Ground.guard }], guard := some (7, true) }) (v := ?vz14) rfl (by kernel_rfl) (by kernel_rfl) (by kernel_rfl) (fun _ _ _ h => h) (Or.inl ⟨by rfl, ?hz14⟩) hHeld ?rz14
            case hz14 =>
              intro wS hSw
              have t0 := cell_keep hSw m0
              have t1 := cell_keep hSw m1
              have t2 := cell_keep hSw y0sB
              have t3 := cell_keep hSw zh
              have t4 := cell_keep hSw p1
              have t5 := cell_keep hSw p2
              clear hSw
              (try dsimp only at hSw)
              go_simp
              try with_reducible rfl
            case rz14 =>
            simp only [Act.put, List.setIfInBounds_toArray, List.set_cons_zero, List.set_cons_succ]
            refine wpAnyH_ready (rs := [15]) (by kernel_rfl) (by simp) ?_
            refine AllReadyH.cons (o := { dst := some 100, op := Go.Op.call { callee := Go.Callee.value (Go.Operand.func 10), args := #[Go.Operand.tmp 93, Go.Operand.tmp 99], argTypes := #[38, 38] }, type := 4, pos := "laws.go:221", after := #[{ on := 8, ground := Go.Ground.data }, { on := 14, ground := Go.Ground.data }, { on := 7, ground := Go.Ground.chain }, { on := 7, ground := Go.Ground.guard }], guard := some (7, true) }) rfl (fun K hK => ?_) AllReadyH.nil
            go_simp
            go_at_call 10
            refine (unhide LB _).mono ?_
            rintro e w3 ⟨rfl, hbw⟩
            try go_wp2_with fail
            refine hK.out _ _ (hHeld.trans (hbw.mono hHeld.size)) (fun hHeld => ?_)
            clear hK K
            try simp only [Act.put, List.setIfInBounds_toArray, List.set_cons_zero, List.set_cons_succ]
            refine wpAnyH_take (i := 16) (oi := { dst := some 101, op := Go.Op.pick (Go.Operand.tmp 92) (Go.Operand.tmp 100) (Go.Operand.const (Go.Value.bool false)), type := 4, pos := "laws.go:221", after := #[{ on := 7, ground := Go.Ground.data }, { on := 15, ground := Go.Ground.data }], guard := none }) (v := ?vz16) rfl (by kernel_rfl) (by kernel_rfl) (by kernel_rfl) (fun _ _ _ h => h) (Or.inl ⟨by rfl, ?hz16⟩) hHeld ?rz16
            case hz16 =>
              intro wS hSw
              (try dsimp only at hSw)
              go_simp
              try with_reducible rfl
            case rz16 =>
            simp only [Act.put, List.setIfInBounds_toArray, List.set_cons_zero, List.set_cons_succ]
            refine wpAnyH_take (i := 17) (oi := { dst := some 102, op := Go.Op.move (Go.Operand.tmp 101), type := 4, pos := "laws.go:221", after := #[{ on := 16, ground := Go.Ground.data }, { on := 15, ground := Go.Ground.chain }], guard := none }) (v := ?vz17) rfl (by kernel_rfl) (by kernel_rfl) (by kernel_rfl) (fun _ _ _ h => h) (Or.inl ⟨by rfl, ?hz17⟩) hHeld ?rz17
            case hz17 =>
              intro wS hSw
              (try dsimp only at hSw)
              go_simp
              try with_reducible rfl
            case rz17 =>
            simp only [Act.put, List.setIfInBounds_toArray, List.set_cons_zero, List.set_cons_succ]
            refine wpAnyH_take (i := 18) (oi := { dst := some 103, op := Go.Op.fieldAddr 35 (Go.Operand.tmp 10) 0, type := 0, pos := "laws.go:221", after := #[{ on := 17, ground := Go.Ground.guard }], guard := some (17, false) }) (v := ?vz18) rfl (by kernel_rfl) (by kernel_rfl) (by kernel_rfl) (fun _ _ _ h => h) (Or.inl ⟨by rfl, ?hz18⟩) hHeld ?rz18
            case hz18 =>
              intro wS hSw
              (try dsimp only at hSw)
              go_simp
              try with_reducible rfl
            case rz18 =>
            simp only [Act.put, List.setIfInBounds_toArray, List.set_cons_zero, List.set_cons_succ]
            refine wpAnyH_take (i := 19) (oi := { dst := some 104, op := Go.Op.load 2 (Go.Operand.tmp 103), type := 2, pos := "laws.go:221", after := #[{ on := 18, ground := Go.Ground.data }, { on := 17, ground := Go.Ground.guard }], guard := some (17, false) }) (v := ?vz19) rfl (by kernel_rfl) (by kernel_rfl) (by kernel_rfl) (fun _ _ _ h => h) (Or.inl ⟨by rfl, ?hz19⟩) hHeld ?rz19
            case hz19 =>
              intro wS hSw
              have t0 := cell_keep hSw m0
              have t1 := cell_keep hSw m1
              have t2 := cell_keep hSw y0sB
              have t3 := cell_keep hSw zh
              have t4 := cell_keep hSw p1
              have t5 := cell_keep hSw p2
              clear hSw
              (try dsimp only at hSw)
              go_simp
              try with_reducible rfl
            case rz19 =>
            simp only [Act.put, List.setIfInBounds_toArray, List.set_cons_zero, List.set_cons_succ]
            refine wpAnyH_take (i := 20) (oi := { dst := some 105, op := Go.Op.binOp Go.BinOp.eql 2 (Go.Operand.tmp 104) (Go.Operand.const (Go.Value.int Go.IntKind.i64 0)) 2, type := 4, pos := "laws.go:221", after := #[{ on := 19, ground := Go.Ground.data }, { on := 17, ground := Go.Ground.guard }], guard := some (17, false) }) (v := ?vz20) rfl (by kernel_rfl) (by kernel_rfl) (by kernel_rfl) (fun _ _ _ h => h) (Or.inl ⟨by rfl, ?hz20⟩) hHeld ?rz20
            case hz20 =>
              intro wS hSw
              (try dsimp only at hSw)
              go_simp
              try with_reducible rfl
            case rz20 =>
            simp only [Act.put, List.setIfInBounds_toArray, List.set_cons_zero, List.set_cons_succ]
            refine wpAnyH_take (i := 21) (oi := { dst := some 106, op := Go.Op.move (Go.Operand.tmp 105), type := 4, pos := "laws.go:221", after := #[{ on := 20, ground := Go.Ground.data }, { on := 17, ground := Go.Ground.chain }, { on := 17, ground := Go.Ground.guard }], guard := some (17, false) }) (v := ?vz21) rfl (by kernel_rfl) (by kernel_rfl) (by kernel_rfl) (fun _ _ _ h => h) (Or.inl ⟨by rfl, ?hz21⟩) hHeld ?rz21
            case hz21 =>
              intro wS hSw
              (try dsimp only at hSw)
              go_simp
              try with_reducible rfl
            case rz21 =>
            simp only [Act.put, List.setIfInBounds_toArray, List.set_cons_zero, List.set_cons_succ]
            refine wpAnyH_take (i := 22) (oi := { dst := some 107, op := Go.Op.fieldAddr 30 (Go.Operand.tmp 6) 1, type := 0, pos := "laws.go:221", after := #[{ on := 21, ground := Go.Ground.guard }], guard := some (21, true) }) (v := undef) rfl (by kernel_rfl) (by kernel_rfl) (by kernel_rfl) (fun _ _ _ h => h) (Or.inr ⟨by rfl, rfl⟩) hHeld ?_
            simp only [Act.put, List.setIfInBounds_toArray, List.set_cons_zero, List.set_cons_succ]
            refine wpAnyH_take (i := 23) (oi := { dst := some 108, op := Go.Op.load 28 (Go.Operand.tmp 107), type := 28, pos := "laws.go:221", after := #[{ on := 22, ground := Go.Ground.data }, { on := 21, ground := Go.Ground.guard }], guard := some (21, true) }) (v := undef) rfl (by kernel_rfl) (by kernel_rfl) (by kernel_rfl) (fun _ _ _ h => h) (Or.inr ⟨by rfl, rfl⟩) hHeld ?_
            simp only [Act.put, List.setIfInBounds_toArray, List.set_cons_zero, List.set_cons_succ]
            refine wpAnyH_take (i := 24) (oi := { dst := some 109, op := Go.Op.fieldAddr 35 (Go.Operand.tmp 10) 1, type := 0, pos := "laws.go:221", after := #[{ on := 21, ground := Go.Ground.guard }], guard := some (21, true) }) (v := undef) rfl (by kernel_rfl) (by kernel_rfl) (by kernel_rfl) (fun _ _ _ h => h) (Or.inr ⟨by rfl, rfl⟩) hHeld ?_
            simp only [Act.put, List.setIfInBounds_toArray, List.set_cons_zero, List.set_cons_succ]
            refine wpAnyH_take (i := 25) (oi := { dst := some 110, op := Go.Op.load 2 (Go.Operand.tmp 109), type := 2, pos := "laws.go:221", after := #[{ on := 24, ground := Go.Ground.data }, { on := 21, ground := Go.Ground.guard }], guard := some (21, true) }) (v := undef) rfl (by kernel_rfl) (by kernel_rfl) (by kernel_rfl) (fun _ _ _ h => h) (Or.inr ⟨by rfl, rfl⟩) hHeld ?_
            simp only [Act.put, List.setIfInBounds_toArray, List.set_cons_zero, List.set_cons_succ]
            refine wpAnyH_take (i := 26) (oi := { dst := some 111, op := Go.Op.indexAddr 28 (Go.Operand.tmp 108) (Go.Operand.tmp 110), type := 0, pos := "laws.go:221", after := #[{ on := 23, ground := Go.Ground.data }, { on := 25, ground := Go.Ground.data }, { on := 21, ground := Go.Ground.guard }], guard := some (21, true) }) (v := undef) rfl (by kernel_rfl) (by kernel_rfl) (by kernel_rfl) (fun _ _ _ h => h) (Or.inr ⟨by rfl, rfl⟩) hHeld ?_
            simp only [Act.put, List.setIfInBounds_toArray, List.set_cons_zero, List.set_cons_succ]
            refine wpAnyH_take (i := 27) (oi := { dst := some 112, op := Go.Op.load 38 (Go.Operand.tmp 111), type := 38, pos := "laws.go:221", after := #[{ on := 26, ground := Go.Ground.data }, { on := 21, ground := Go.Ground.guard }], guard := some (21, true) }) (v := undef) rfl (by kernel_rfl) (by kernel_rfl) (by kernel_rfl) (fun _ _ _ h => h) (Or.inr ⟨by rfl, rfl⟩) hHeld ?_
            simp only [Act.put, List.setIfInBounds_toArray, List.set_cons_zero, List.set_cons_succ]
            refine wpAnyH_take (i := 28) (oi := { dst := some 113, op := Go.Op.load 38 (Go.Operand.tmp 9), type := 38, pos := "laws.go:221", after := #[{ on := 21, ground := Go.Ground.guard }], guard := some (21, true) }) (v := undef) rfl (by kernel_rfl) (by kernel_rfl) (by kernel_rfl) (fun _ _ _ h => h) (Or.inr ⟨by rfl, rfl⟩) hHeld ?_
            simp only [Act.put, List.setIfInBounds_toArray, List.set_cons_zero, List.set_cons_succ]
            refine wpAnyH_take (i := 29) (oi := { dst := some 114, op := Go.Op.binOp Go.BinOp.neq 38 (Go.Operand.tmp 112) (Go.Operand.tmp 113) 38, type := 4, pos := "laws.go:221", after := #[{ on := 27, ground := Go.Ground.data }, { on := 28, ground := Go.Ground.data }, { on := 21, ground := Go.Ground.guard }], guard := some (21, true) }) (v := undef) rfl (by kernel_rfl) (by kernel_rfl) (by kernel_rfl) (fun _ _ _ h => h) (Or.inr ⟨by rfl, rfl⟩) hHeld ?_
            simp only [Act.put, List.setIfInBounds_toArray, List.set_cons_zero, List.set_cons_succ]
            refine wpAnyH_take (i := 30) (oi := { dst := some 115, op := Go.Op.pick (Go.Operand.tmp 106) (Go.Operand.tmp 114) (Go.Operand.const (Go.Value.bool false)), type := 4, pos := "laws.go:221", after := #[{ on := 21, ground := Go.Ground.data }, { on := 29, ground := Go.Ground.data }, { on := 17, ground := Go.Ground.guard }], guard := some (17, false) }) (v := ?vz30) rfl (by kernel_rfl) (by kernel_rfl) (by kernel_rfl) (fun _ _ _ h => h) (Or.inl ⟨by rfl, ?hz30⟩) hHeld ?rz30
            case hz30 =>
              intro wS hSw
              (try dsimp only at hSw)
              go_simp
              try with_reducible rfl
            case rz30 =>
            simp only [Act.put, List.setIfInBounds_toArray, List.set_cons_zero, List.set_cons_succ]
            refine wpAnyH_take (i := 31) (oi := { dst := some 116, op := Go.Op.pick (Go.Operand.tmp 102) (Go.Operand.const (Go.Value.bool true)) (Go.Operand.tmp 115), type := 4, pos := "laws.go:221", after := #[{ on := 17, ground := Go.Ground.data }, { on := 30, ground := Go.Ground.data }], guard := none }) (v := ?vz31) rfl (by kernel_rfl) (by kernel_rfl) (by kernel_rfl) (fun _ _ _ h => h) (Or.inl ⟨by rfl, ?hz31⟩) hHeld ?rz31
            case hz31 =>
              intro wS hSw
              (try dsimp only at hSw)
              go_simp
              try with_reducible rfl
            case rz31 =>
            simp only [Act.put, List.setIfInBounds_toArray, List.set_cons_zero, List.set_cons_succ]
            refine wpAnyH_done (by kernel_rfl) ?_ _
            refine NoPanic.normal ?_
            have HB3 := hide hHeld
            go_wp2_with fail
            go_meet
            exact ⟨rfl, unhide HB3⟩
      · obtain rfl : j = xs.length := by omega
        obtain ⟨-, -, -, z1⟩ := unhide keep wr hB
        have hmf := (unhide HS).right
        have hl20 := (hitsFault_zero hmf).1
        have HB := hide hB
        have L1 : Hid (∀ W, Below wr.heap.size wr W → Calls Try.prog 11 #[.slice a1 hs.length c1] W fun e w' => e = .returned (.int .i64 0) ∧ Below W.heap.size W w') := fun W hW => by
          have := implHitsFault _ hs W (unhide keep W (below_step (unhide HB) hW)).2.2.1
          rwa [hmf] at this
        have L4 : Hid (∀ W, Below wr.heap.size wr W → Calls Try.prog 7 #[.slice av xs.length cv, .slice au q.length cu, .int .i64 k] W fun e w' => ∃ (a2 : Option Addr) (c2 : Nat), e = .returned (.agg #[.int .i64 0, .slice a2 hs.length c2]) ∧ IsHits w' (.slice a2 hs.length c2) hs ∧ Below W.heap.size W w') := fun W hW => by
          obtain ⟨h1, h2, -, -⟩ := unhide keep W (below_step (unhide HB) hW)
          refine (specSearchH _ xs _ q k W h1 h2).mono ?_
          rintro e w' ⟨cs, rfl, ho, ⟨vc, vh, hcv, hI⟩, hb⟩
          obtain ⟨a2, c2, rfl, -⟩ := open_HitsResult ho
          obtain ⟨rfl, rfl⟩ : Value.int .i64 (searchR xs q k).code = vc ∧ Value.slice a2 (searchR xs q k).hits.length c2 = vh := by simpa using hcv
          have hhl : (searchR xs q k).hits.length = hs.length := by rw [← unhide HSR, List.length_map]
          rw [unhide HSR, hhl] at hI
          rw [unhide HSC, hhl]
          exact ⟨a2, c2, rfl, hI, hb⟩
        have L3 : Hid (∀ W u v, IsHits W u hs → IsHits W v hs → Calls Try.prog 12 #[u, v] W fun e w' => e = .returned (.bool true) ∧ Below W.heap.size W w') := fun W u v h1 h2 => lwHits u v hs W h1 h2 (by omega)
        have K2 : Hid (∀ W, Below wr.heap.size wr W → IsHits W (.slice a1 hs.length c1) hs) := fun W hW => (unhide keep W (below_step (unhide HB) hW)).2.2.1
        have hf1 := fun a cp => fieldHR1 0 a hs.length cp
        have e00 : ((0 : Int) == 0) = true := by decide
        clear hB keep hmf hl20 hlt HS HSR HSC
        generalize hs.length = N at *
        go_wp2_with fail
        go_region_held3 (fun w' => Below wr.heap.size wr w' ∧ w'.cell? ⟨s0, 1, none⟩ = some (.slice a1 N c1))
          (first
            | exact ⟨(Below.refl _ _).drew, z1⟩
            | (refine ⟨below_step ?_ hb3, cell_keep hb3 ?_⟩ <;> (first | assumption | (go_split_ands; assumption)))
            | go_keep)
          (first
            | (go_at_call 11; refine (unhide L1 _ ?_).mono ?_; (go_split_ands; assumption); rintro e w3 ⟨rfl, hb3⟩)
            | (go_at_call 7; refine (unhide L4 _ ?_).mono ?_; (go_split_ands; assumption); rintro e w3 ⟨a6, c6, rfl, hi6, hb3⟩)
            | (go_at_call 12; refine (unhide L3 _ _ _ ?_ ?_).mono ?_; exact (unhide K2 _ (by go_split_ands; assumption)); (first | exact hi6 | exact hi6.later (Below.refl _ _).drew); rintro e w3 ⟨rfl, hb3⟩))
        have BW : Hid (Below wr.heap.size wr w3) := by
          show Below wr.heap.size wr w3
          first | assumption | (go_split_ands; assumption)
        go_wp2_with fail
        go_ret
        exact ⟨rfl, below_step (unhide HBA) (below_step (unhide HB) (unhide BW))⟩
  · have hne : (c != 0) = true := by rw [bne_iff_ne]; exact hc0
    have heq : (c == c) = true := by simp
    go_wp2_with fail
    generalize hwa : w2.alloc (.cells #[.int .i64 c, .slice a1 hs.length c1] 30) = wa at *
    generalize w2.heap.size = s0 at *
    clear hwa
    have hs0 := World.block_lt_of_cell? _ _ k0
    have LM : Hid (∀ W, Below wa.heap.size wa W → Calls Try.prog 7 #[.slice av xs.length cv, .slice au q.length cu, .int .i64 k] W fun e w' => ∃ (a : Option Addr) (n cp : Nat), e = .returned (.agg #[.int .i64 c, .slice a n cp]) ∧ Below W.heap.size W w') := fun W hW => by
      refine (specSearchH _ xs _ q k W ((unhide P0).later hW) ((unhide PU).later hW)).mono ?_
      rintro e w' ⟨cs, rfl, ho, -, hb⟩
      obtain ⟨a, cp, rfl, -⟩ := open_HitsResult ho
      rw [← unhide HCC]
      exact ⟨a, _, cp, rfl, hb⟩
    have hf0 := fun a n cp => fieldHR0 c a n cp
    clear hc0 k1
    go_region_held3 (fun w' => Below wa.heap.size wa w' ∧ w'.cell? ⟨s0, 0, none⟩ = some (.int .i64 c))
      (first
        | exact ⟨(Below.refl _ _).drew, k0⟩
        | (refine ⟨below_step ?_ hb3, cell_keep hb3 ?_⟩ <;> (first | assumption | (go_split_ands; assumption)))
        | go_keep)
      (first
        | (go_at_call 7; refine (unhide LM _ ?_).mono ?_; (go_split_ands; assumption); rintro e w3 ⟨a, n, cp, rfl, hb3⟩))
    go_wp2_with fail
    go_ret
    refine ⟨rfl, below_step (unhide HBA) ?_⟩
    first | assumption | (go_split_ands; assumption)

end Go.Proofs.Ytkodenmpadehjab
