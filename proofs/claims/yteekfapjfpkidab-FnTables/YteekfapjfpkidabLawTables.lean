/-
  The law FnTables answers true at every slice of bytes, and writes nothing that was there.
  No condition.
-/
import Derived.Test.YteekfapjfpkidabDrawPut
import Derived.Test.YteekfapjfpkidabTablesPlain
import Derived.Test.YteekfapjfpkidabLwSame
import Derived.Test.YteekfapjfpkidabBig
import Derived.Test.YteekfapjfpkidabImplPut
import Derived.Test.YteekfapjfpkidabImplDrop
import Derived.Test.YteekfapjfpkidabImplGet
import Derived.Test.YteekfapjfpkidabImplTab
import Derived.Test.YteekfapjfpkidabImplSameT
import Derived.Test.YteekfapjfpkidabSpecPut
import Derived.Deep.RegionHeld3
import Derived.Deep.CutRange
namespace Go.Proofs.Yteekfapjfpkidab
open Go.RowKit

theorem fieldTT1 (c : Int) (a : Option Addr) (n cp : Nat) (w : World) : (Instr.field 30 (.agg #[.int .i64 c, .slice a n cp]) 1).run Try.prog w = .ok (.slice a n cp) w := by kernel_rfl
theorem fieldTT0 (c : Int) (a : Option Addr) (n cp : Nat) (w : World) : (Instr.field 30 (.agg #[.int .i64 c, .slice a n cp]) 0).run Try.prog w = .ok (.int .i64 c) w := by kernel_rfl
theorem fieldIR0 (c : Int) (a : Option Addr) (n cp : Nat) (w : World) : (Instr.field 57 (.agg #[.int .i64 c, .slice a n cp]) 0).run Try.prog w = .ok (.int .i64 c) w := by kernel_rfl
theorem sameIs_self (xs : List DItem) : sameIs xs xs = true := sameIs_all rfl fun _ _ _ => sameIs_refl_self _
/-- GetItem, with what a new block keeps. -/
theorem getC (v : Value) (xs : List DItem) (id : Int) (B W : World) (hW : Below B.heap.size B W) (h : (Lay.sl Lay.tItem).Reads W [v] xs) (hw : (Lit.int .i64 id).wf = true) :
    Calls Try.prog 32 #[v, .int .i64 id] W fun e w' => ∃ (a : Option Addr) (d : Nat), e = .returned (.agg #[.int .i64 (getI xs id).code, .slice a (getI xs id).list.length d]) ∧ Below B.heap.size B w' ∧ (Lay.sl Lay.int).Reads w' [.slice a (getI xs id).list.length d] (getI xs id).list ∧
      ∀ s, Box B.heap.size #[.int .i64 0, .slice none 0 0] 57 W s → Box B.heap.size #[.int .i64 0, .slice none 0 0] 57 w' s ∧ ∀ w'', Ext (fun q => q = s) w' w'' → (Lay.sl Lay.int).Reads w'' [.slice a (getI xs id).list.length d] (getI xs id).list := by
  refine (implGet v xs id W h hw).mono ?_
  rintro e w' ⟨cs, rfl, ⟨bl, ⟨hl, -, -⟩, hbl⟩, hb⟩
  obtain ⟨a, d, b1, rfl, rfl, -, l1⟩ := lies_IntsResult.1 hl
  refine ⟨a, d, rfl, below_step hW hb, ⟨_, l1⟩, fun s hs => ⟨hs.keep hb, fun w'' hE => ⟨_, (Lay.sl Lay.int).keep l1 fun c hc => hE.block c (hbl c hc).2 (fun e => ?_)⟩⟩⟩
  have h1 := (hbl c hc).1
  have h2 := hs.lt
  omega

theorem lawTables_many (ao : Option Addr) (len cap : Nat) (w : World) (hn : 1048576 < len) :
    Calls Try.prog 5 #[.slice ao len cap] w fun e w' => e = .returned (.bool true) ∧ Below w.heap.size w w' := by
  go_enter Try.func5, Try.ntmps5
  go_wp2_with fail
  refine (big_yes ao len cap w hn).mono ?_
  rintro e w' ⟨rfl, rfl⟩
  go_wp2_with fail
  go_ret
  exact ⟨rfl, Below.refl _ _⟩

set_option maxRecDepth 100000 in
set_option maxHeartbeats 4000000 in
theorem lawTables_few (ao : Option Addr) (len cap : Nat) (w : World) (hn : len ≤ 1048576) (hcode : IsCode w.heap.size w (.slice ao len cap)) :
    Calls Try.prog 5 #[.slice ao len cap] w fun e w' => e = .returned (.bool true) ∧ Below w.heap.size w w' := by
  have HC := hide hcode
  clear hcode
  go_enter Try.func5, Try.ntmps5
  go_wp2_with fail
  refine (big_no ao len cap w hn).mono ?_
  rintro e w ⟨rfl, rfl⟩
  go_wp2_with fail
  refine (drawPut ao len cap w (unhide HC)).mono ?_
  rintro e w1 ⟨v, xs, id, u, zs, rfl, hR, hxl, hid, hU, hzl, hb⟩
  obtain ⟨av, cv, rfl⟩ := open_sl hR
  obtain ⟨au, cu, rfl⟩ := open_sl hU
  have hwi : (Lit.int .i64 id).wf = true := wf_of_bd (by omega)
  have HB1 := hide hb
  have HX1 := hide hR
  have HU1 := hide hU
  have HWI := hide hwi
  clear hb hR hU HC hid hwi
  go_wp2_with fail
  refine (implPut _ xs id _ zs w1 (unhide HX1) (unhide HWI) (unhide HU1)).mono ?_
  rintro e w2 ⟨cs, rfl, ho, hb2⟩
  obtain ⟨a1, c1, rfl, hR2⟩ := open_TableResult ho.reads
  clear ho
  obtain ⟨c, hcc⟩ : ∃ c, c = (putR xs id zs).code := ⟨_, rfl⟩
  obtain ⟨ms, hms⟩ : ∃ ms, ms = (putR xs id zs).items := ⟨_, rfl⟩
  rw [← hms] at hR2
  rw [← hcc, ← hms]
  have nb : Below w2.heap.size w2 (w2.alloc (.cells #[.int .i64 c, .slice a1 ms.length c1] 30)) := (Below.refl _ _).alloc (Nat.le_refl _) _
  obtain ⟨k0, k1⟩ := new_cells (w := w2) (T := 30) (x := .int .i64 c) (y := .slice a1 ms.length c1)
  have P0 := hide (((unhide HX1).later hb2).later nb)
  have PU := hide (((unhide HU1).later hb2).later nb)
  have P1 := hide (hR2.later nb)
  have HBA := hide (below_step (unhide HB1) (below_step hb2 nb))
  have HCC := hide hcc
  have HMS := hide hms
  clear hb2 nb hcc hms HX1 HU1 HB1 hR2
  by_cases hc0 : c = 0
  · subst hc0
    have hz0 := putR_zero (unhide HCC).symm
    have HMO : Hid (ms = putI xs id zs) := by
      show ms = putI xs id zs
      rw [unhide HMS, hz0.2.2.2.2]
    obtain ⟨ds, hds⟩ : ∃ ds, ds = dropI xs id := ⟨_, rfl⟩
    have HT : Hid (Tabled xs id zs ms ds) := by
      show Tabled xs id zs ms ds
      rw [unhide HMO, hds]
      exact tabled (unhide HCC).symm
    have HIX : Hid (∀ x ∈ xs, (Lit.int .i64 x.id).wf = true ∧ x.vec.length ≤ 1000000) := fun x hx => by
      have h1 := ((tableFault_zero hz0.1).2.1 x hx)
      exact ⟨id_wf h1.1, by have := (vecFault_zero h1.2).1; omega⟩
    clear HCC HMS HMO hds hz0
    have LD := implDrop (.slice a1 ms.length c1) ms id (w2.alloc (.cells #[.int .i64 0, .slice a1 ms.length c1] 30)) (unhide P1) (unhide HWI)
    rw [(unhide HT).drop] at LD
    have HLD := hide LD
    clear LD
    go_wp2_with fail
    generalize hwa : w2.alloc (.cells #[.int .i64 0, .slice a1 ms.length c1] 30) = wa at *
    generalize w2.heap.size = s0 at *
    clear hwa
    refine (unhide HLD).mono ?_
    rintro e w3 ⟨cs, rfl, ho, hb3⟩
    obtain ⟨a2, c2, rfl, hR3⟩ := open_TableResult ho.reads
    clear ho HLD
    have nb : Below w3.heap.size w3 (w3.alloc (.cells #[.int .i64 0, .slice a2 ds.length c2] 30)) := (Below.refl _ _).alloc (Nat.le_refl _) _
    obtain ⟨k2, k3⟩ := new_cells (w := w3) (T := 30) (x := .int .i64 0) (y := .slice a2 ds.length c2)
    replace P0 := hide (((unhide P0).later hb3).later nb)
    replace PU := hide (((unhide PU).later hb3).later nb)
    replace P1 := hide (((unhide P1).later hb3).later nb)
    have P2 : Hid ((Lay.sl Lay.tItem).Reads (w3.alloc (.cells #[.int .i64 0, .slice a2 ds.length c2] 30)) [.slice a2 ds.length c2] ds) := hR3.later nb
    replace HBA := hide (below_step (unhide HBA) (hb3.trans (nb.mono hb3.size)))
    replace k1 := cell_keep (hb3.trans (nb.mono hb3.size)) k1
    clear hb3 nb hR3 k0
    go_wp2_with fail
    generalize hwb : w3.alloc (.cells #[.int .i64 0, .slice a2 ds.length c2] 30) = wb at *
    generalize w3.heap.size = s1 at *
    clear hwb
    have keep : Hid (∀ W, Below wb.heap.size wb W → (Lay.sl Lay.tItem).Reads W [.slice av xs.length cv] xs ∧ (Lay.sl Lay.int).Reads W [.slice au zs.length cu] zs ∧ (Lay.sl Lay.tItem).Reads W [.slice a1 ms.length c1] ms ∧ (Lay.sl Lay.tItem).Reads W [.slice a2 ds.length c2] ds ∧ W.cell? ⟨s0, 1, none⟩ = some (.slice a1 ms.length c1) ∧ W.cell? ⟨s1, 0, none⟩ = some (.int .i64 0) ∧ W.cell? ⟨s1, 1, none⟩ = some (.slice a2 ds.length c2)) := fun W hW =>
      ⟨(unhide P0).later hW, (unhide PU).later hW, (unhide P1).later hW, (unhide P2).later hW, cell_keep hW k1, cell_keep hW k2, cell_keep hW k3⟩
    clear P0 PU P1 P2 k1 k2 k3
    go_loopw [8] (fun i wr => ∃ j : Nat, j ≤ xs.length ∧ i = .int .i64 j ∧ Below wb.heap.size wb wr) (fun i _ => xs.length - (intOf i).toNat)
    case atStart => exact ⟨0, Nat.zero_le _, rfl, Below.refl _ _⟩
    case round =>
      obtain ⟨j, hj, rfl, hB⟩ := hrel
      by_cases hlt : j < xs.length
      · obtain ⟨hRx, -, -, -, -⟩ := unhide keep wr hB
        obtain ⟨b, off, rfl, hbl⟩ := Lay.sl_addr hRx (by omega)
        obtain ⟨row, hc, hr⟩ := Lay.row_at hRx hlt
        obtain ⟨a5, d5, rfl, hRv⟩ := open_Item hr
        have q0 : wr.cell? ⟨b, off + j * 2, none⟩ = some (.int .i64 (xs[j]).id) := hc 0 (by decide)
        have q1 : wr.cell? ⟨b, off + j * 2 + 1, none⟩ = some (.slice a5 (xs[j]).vec.length d5) := hc 1 (by decide)
        have HIJ := hide (unhide HIX xs[j] (List.getElem_mem hlt))
        have HOLD := hide ((unhide HT).old xs[j] (List.getElem_mem hlt))
        have HRV := hide hRv
        generalize xs[j] = x at *
        have HB := hide hB
        clear hc hr hRx hRv hB
        obtain ⟨ra, hra⟩ : ∃ ra, ra = getI ms x.id := ⟨_, rfl⟩
        obtain ⟨rb, hrb⟩ : ∃ rb, rb = getI ds x.id := ⟨_, rfl⟩
        have F : Hid (∀ W, Below wr.heap.size wr W → W.cell? ⟨s0, 1, none⟩ = some (.slice a1 ms.length c1) ∧ W.cell? ⟨b, off + j * 2, none⟩ = some (.int .i64 x.id)) := fun W hW => ⟨(unhide keep W (below_step (unhide HB) hW)).2.2.2.2.1, cell_keep hW q0⟩
        have LR : Hid (∀ W, Below wr.heap.size wr W → Calls Try.prog 32 #[.slice a1 ms.length c1, .int .i64 x.id] W fun e w' => ∃ (a : Option Addr) (d : Nat), e = .returned (.agg #[.int .i64 ra.code, .slice a ra.list.length d]) ∧ Below wr.heap.size wr w' ∧ (Lay.sl Lay.int).Reads w' [.slice a ra.list.length d] ra.list ∧
            ∀ s, Box wr.heap.size #[.int .i64 0, .slice none 0 0] 57 W s → Box wr.heap.size #[.int .i64 0, .slice none 0 0] 57 w' s ∧ ∀ w'', Ext (fun q => q = s) w' w'' → (Lay.sl Lay.int).Reads w'' [.slice a ra.list.length d] ra.list) := fun W hW => by
          have := getC (.slice a1 ms.length c1) ms x.id wr W hW (unhide keep W (below_step (unhide HB) hW)).2.2.1 (unhide HIJ).1
          rwa [← hra] at this
        have LR2 : Hid (∀ B W, Below wr.heap.size wr B → Below B.heap.size B W → Calls Try.prog 32 #[.slice a2 ds.length c2, .int .i64 x.id] W fun e w' => ∃ (a : Option Addr) (d : Nat), e = .returned (.agg #[.int .i64 rb.code, .slice a rb.list.length d]) ∧ Below B.heap.size B w' ∧ (Lay.sl Lay.int).Reads w' [.slice a rb.list.length d] rb.list ∧
            ∀ s, Box B.heap.size #[.int .i64 0, .slice none 0 0] 57 W s → Box B.heap.size #[.int .i64 0, .slice none 0 0] 57 w' s ∧ ∀ w'', Ext (fun q => q = s) w' w'' → (Lay.sl Lay.int).Reads w'' [.slice a rb.list.length d] rb.list) := fun B W hB hW => by
          have := getC (.slice a2 ds.length c2) ds x.id B W hW (unhide keep W (below_step (below_step (unhide HB) hB) hW)).2.2.2.1 (unhide HIJ).1
          rwa [← hrb] at this
        have HALL : Hid (x.id ≠ id → ra.list = x.vec ∧ rb.list = x.vec) := fun hne => by
          obtain ⟨h1, h2⟩ := unhide HOLD hne
          rw [hra, hrb, h1, h2]
          exact ⟨rfl, rfl⟩
        have g3 : (j : Int) < (xs.length : Int) := by omega
        have g5 : (0 : Int) ≤ (j : Int) := by omega
        obtain ⟨zr, pr⟩ := unhide F wr (Below.refl _ _)
        clear hra hrb HOLD
        go_upto_region 11 with fail
        go_cut [9] from 45 to 52 (fun sT wv => ∃ (wz : World) (s : Nat) (a : Option Addr) (d : Nat), wz = wv ∧ sT = .pointer (some ⟨s, 0, none⟩) ∧ s < wv.heap.size ∧ wv.cell? ⟨s, 1, none⟩ = some (.slice a ra.list.length d) ∧ (Lay.sl Lay.int).Reads wv [.slice a ra.list.length d] ra.list ∧ Below wr.heap.size wr wv)
        case first =>
          clear keep HALL
          first
            | go_region_held3 (fun w' => w'.cell? ⟨s0, 1, none⟩ = some (.slice a1 ms.length c1) ∧ w'.cell? ⟨b, off + j * 2, none⟩ = some (.int .i64 x.id))
                (first
                  | exact unhide F _ (Below.refl _ _).drew
                  | exact unhide F _ ((Below.refl _ _).alloc (Nat.le_refl _) _).drew
                  | exact unhide F _ ((Below.refl _ _).alloc (Nat.le_refl _) _)
                  | exact unhide F _ hb3
                  | exact unhide F _ (hb3.alloc hb3.size _)
                  | exact unhide F _ ((hb3.setCell (by simp) _).setCell (by simp) _)
                  | go_keep)
                (first
                  | (go_at_call 32; refine (unhide LR _ (by first | exact (Below.refl _ _).drew | exact (Below.refl _ _) | exact ((Below.refl _ _).alloc (Nat.le_refl _) _).drew | exact ((Below.refl _ _).alloc (Nat.le_refl _) _) | exact (Below.refl _ _).drew.alloc (Nat.le_refl _) _)).mono ?_; rintro e w3 ⟨a7, d7, rfl, hb3, hR7, hk3⟩; (first | have hq := hk3 _ (newBox (Nat.le_refl _)) | have hq := hk3 _ (newBox (Nat.le_refl _)).drew | skip); (first | (obtain ⟨y0, y1, y2, y3⟩ := hq.1.two) | skip)))
            | fail
          all_goals
            go_wp2_with fail
            go_meet
            first
              | exact ⟨_, _, a7, d7, rfl, rfl, by simp, (new_cells (w := w3) (T := 57)).2, hR7.later ((Below.refl _ _).alloc (Nat.le_refl _) _), hb3.alloc hb3.size _⟩
              | exact ⟨_, _, a7, d7, rfl, rfl, by simp; exact y3, by simp [go_sem, y1], hq.2 _ (((Ext.refl (fun q => q = wr.heap.size) w3).setCell ⟨wr.heap.size, 0, none⟩ _ rfl).setCell ⟨wr.heap.size, 1, none⟩ _ rfl), (hb3.setCell (by simp) _).setCell (by simp) _⟩
        case rest =>
        obtain ⟨wx, sA, aA, dA, rfl, rfl, hslsA, ysA, hRsA, hbsA⟩ := hcut
        have F : Hid (∀ W, Below wx.heap.size wx W → W.cell? ⟨s1, 1, none⟩ = some (.slice a2 ds.length c2) ∧ W.cell? ⟨b, off + j * 2, none⟩ = some (.int .i64 x.id)) := fun W hW => ⟨(unhide keep W (below_step (unhide HB) (below_step hbsA hW))).2.2.2.2.2.2, cell_keep (below_step hbsA hW) q0⟩
        have LR := hide fun W => unhide LR2 wx W hbsA
        obtain ⟨zr, pr⟩ := unhide F wx (Below.refl _ _)
        clear LR2
        go_upto_region 12 with fail
        go_cut [10] from 53 to 60 (fun sT wv => ∃ (wz : World) (s : Nat) (a : Option Addr) (d : Nat), wz = wv ∧ sT = .pointer (some ⟨s, 0, none⟩) ∧ s < wv.heap.size ∧ wv.cell? ⟨s, 1, none⟩ = some (.slice a rb.list.length d) ∧ (Lay.sl Lay.int).Reads wv [.slice a rb.list.length d] rb.list ∧ Below wx.heap.size wx wv)
        case first =>
          clear keep HALL
          first
            | go_region_held3 (fun w' => w'.cell? ⟨s1, 1, none⟩ = some (.slice a2 ds.length c2) ∧ w'.cell? ⟨b, off + j * 2, none⟩ = some (.int .i64 x.id))
                (first
                  | exact unhide F _ (Below.refl _ _).drew
                  | exact unhide F _ ((Below.refl _ _).alloc (Nat.le_refl _) _).drew
                  | exact unhide F _ ((Below.refl _ _).alloc (Nat.le_refl _) _)
                  | exact unhide F _ hb3
                  | exact unhide F _ (hb3.alloc hb3.size _)
                  | exact unhide F _ ((hb3.setCell (by simp) _).setCell (by simp) _)
                  | go_keep)
                (first
                  | (go_at_call 32; refine (unhide LR _ (by first | exact (Below.refl _ _).drew | exact (Below.refl _ _) | exact ((Below.refl _ _).alloc (Nat.le_refl _) _).drew | exact ((Below.refl _ _).alloc (Nat.le_refl _) _) | exact (Below.refl _ _).drew.alloc (Nat.le_refl _) _)).mono ?_; rintro e w3 ⟨a7, d7, rfl, hb3, hR7, hk3⟩; (first | have hq := hk3 _ (newBox (Nat.le_refl _)) | have hq := hk3 _ (newBox (Nat.le_refl _)).drew | skip); (first | (obtain ⟨y0, y1, y2, y3⟩ := hq.1.two) | skip)))
            | fail
          all_goals
            go_wp2_with fail
            go_meet
            first
              | exact ⟨_, _, a7, d7, rfl, rfl, by simp, (new_cells (w := w3) (T := 57)).2, hR7.later ((Below.refl _ _).alloc (Nat.le_refl _) _), hb3.alloc hb3.size _⟩
              | exact ⟨_, _, a7, d7, rfl, rfl, by simp; exact y3, by simp [go_sem, y1], hq.2 _ (((Ext.refl (fun q => q = wx.heap.size) w3).setCell ⟨wx.heap.size, 0, none⟩ _ rfl).setCell ⟨wx.heap.size, 1, none⟩ _ rfl), (hb3.setCell (by simp) _).setCell (by simp) _⟩
        case rest =>
        obtain ⟨wz, sB, aB, dB, rfl, rfl, hslsB, ysB, hRsB, hbsB⟩ := hcut
        have hwz : Below wr.heap.size wr wz := below_step hbsA hbsB
        have m0 := cell_keep hwz q0
        have m1 := cell_keep hwz q1
        have mA := cell_keep hbsB ysA
        have HRA := hide (hRsA.later hbsB)
        have HRB := hide hRsB
        have HRX := hide ((unhide HRV).later hwz)
        have HBZ := hide (below_step (unhide HB) hwz)
        have hlA : sA < wz.heap.size := Nat.lt_of_lt_of_le hslsA hbsB.size
        clear F LR HB q0 q1 zr pr hbsA hbsB hRsA hRsB hwz HRV ysA
        by_cases hid : x.id = id
        · have d1 : (x.id != id) = false := by simp [hid]
          clear HALL
          go_wp2_with fail
          go_quiet (fail)
          go_wp2_with fail
          go_roundw
          case rel => exact ⟨j + 1, by omega, by go_num, below_drewN (unhide HBZ) _⟩
          case measure => simp [intOf]; omega
        · have d1 : (x.id != id) = true := by simp [hid]
          obtain ⟨e1, e2⟩ := unhide HALL hid
          rw [e1] at mA HRA
          rw [e2] at ysB HRB
          have FF : Hid (∀ W, Below wz.heap.size wz W → Below wz.heap.size wz W ∧ W.cell? ⟨b, off + j * 2, none⟩ = some (.int .i64 x.id) ∧ W.cell? ⟨b, off + j * 2 + 1, none⟩ = some (.slice a5 x.vec.length d5) ∧ W.cell? ⟨sA, 1, none⟩ = some (.slice aA x.vec.length dA) ∧ W.cell? ⟨sB, 1, none⟩ = some (.slice aB x.vec.length dB)) := fun W hW => ⟨hW, cell_keep hW m0, cell_keep hW m1, cell_keep hW mA, cell_keep hW ysB⟩
          have LN : Hid (∀ W u v, Below wz.heap.size wz W → (u = .slice aA x.vec.length dA ∨ u = .slice aB x.vec.length dB) → v = .slice a5 x.vec.length d5 → Calls Try.prog 33 #[u, v] W fun e w' => e = .returned (.bool true) ∧ Below wz.heap.size wz w') := fun W u v hW hu hv => by
            subst hv
            refine (lwSame u _ x.vec W ?_ ((unhide HRX).later hW) (unhide HIJ).2).mono fun e w' ⟨h1, h2⟩ => ⟨h1, below_step hW h2⟩
            rcases hu with rfl | rfl
            · exact (unhide HRA).later hW
            · exact (unhide HRB).later hW
          clear HALL e1 e2 HRA HRB HRX hid
          go_wp2_with fail
          go_region_held3 (fun w' => Below wz.heap.size wz w' ∧ w'.cell? ⟨b, off + j * 2, none⟩ = some (.int .i64 x.id) ∧ w'.cell? ⟨b, off + j * 2 + 1, none⟩ = some (.slice a5 x.vec.length d5) ∧ w'.cell? ⟨sA, 1, none⟩ = some (.slice aA x.vec.length dA) ∧ w'.cell? ⟨sB, 1, none⟩ = some (.slice aB x.vec.length dB))
            (first
              | exact unhide FF _ (Below.refl _ _).drew
              | exact unhide FF _ hb3
              | go_keep)
            (first
              | (go_at_call 33; refine (unhide LN _ _ _ ?_ ?_ rfl).mono ?_; (go_split_ands; assumption); (first | exact Or.inl rfl | exact Or.inr rfl); rintro e w3 ⟨rfl, hb3⟩))
          have BW : Hid (Below wz.heap.size wz w3) := hb3
          go_wp2_with fail
          go_roundw
          case rel => exact ⟨j + 1, by omega, by go_num, below_step (unhide HBZ) (unhide BW)⟩
          case measure => simp [intOf]; omega
      · obtain rfl : j = xs.length := by omega
        obtain ⟨-, hRu, hRm, hRd, z1, z2, z3⟩ := unhide keep wr hB
        have hlen := (unhide HT).len
        have HDL : Hid (ds.length ≤ 1000000) := by
          have h1 := (tableFault_zero (unhide HT).right).1
          show ds.length ≤ 1000000
          omega
        have LG := implGet (.slice a1 ms.length c1) ms id wr hRm (unhide HWI)
        rw [(unhide HT).get] at LG
        have HLG := hide LG
        have HB := hide hB
        clear hRu hRm hRd LG hB
        go_wp2_with fail
        refine (unhide HLG).mono ?_
        rintro e w4 ⟨cs, rfl, ho, hb4⟩
        obtain ⟨a9, d9, rfl, hR9⟩ := open_IntsResult ho.reads
        clear ho HLG
        have nb : Below w4.heap.size w4 (w4.alloc (.cells #[.int .i64 0, .slice a9 zs.length d9] 57)) := (Below.refl _ _).alloc (Nat.le_refl _) _
        obtain ⟨k4, k5⟩ := new_cells (w := w4) (T := 57) (x := .int .i64 0) (y := .slice a9 zs.length d9)
        have HR9 : Hid ((Lay.sl Lay.int).Reads (w4.alloc (.cells #[.int .i64 0, .slice a9 zs.length d9] 57)) [.slice a9 zs.length d9] zs) := hR9.later nb
        have HB5 := hide (below_step (unhide HB) (hb4.trans (nb.mono hb4.size)))
        clear nb hR9 hb4 HB z1 z2 z3
        go_wp2_with fail
        generalize hwz : w4.alloc (.cells #[.int .i64 0, .slice a9 zs.length d9] 57) = wz at *
        generalize w4.heap.size = s9 at *
        clear hwz
        have KK : Hid (∀ W, Below wz.heap.size wz W → (Lay.sl Lay.int).Reads W [.slice au zs.length cu] zs ∧ (Lay.sl Lay.tItem).Reads W [.slice a1 ms.length c1] ms ∧ (Lay.sl Lay.tItem).Reads W [.slice a2 ds.length c2] ds ∧ (Lay.sl Lay.int).Reads W [.slice a9 zs.length d9] zs) := fun W hW => by
          obtain ⟨-, h1, h2, h3, -⟩ := unhide keep W (below_step (unhide HB5) hW)
          exact ⟨h1, h2, h3, (unhide HR9).later hW⟩
        have FF : Hid (∀ W, Below wz.heap.size wz W → Below wz.heap.size wz W ∧ W.cell? ⟨s0, 1, none⟩ = some (.slice a1 ms.length c1) ∧ W.cell? ⟨s1, 0, none⟩ = some (.int .i64 0) ∧ W.cell? ⟨s1, 1, none⟩ = some (.slice a2 ds.length c2) ∧ W.cell? ⟨s9, 0, none⟩ = some (.int .i64 0) ∧ W.cell? ⟨s9, 1, none⟩ = some (.slice a9 zs.length d9)) := fun W hW => by
          obtain ⟨-, -, -, -, h1, h2, h3⟩ := unhide keep W (below_step (unhide HB5) hW)
          exact ⟨hW, h1, h2, h3, cell_keep hW k4, cell_keep hW k5⟩
        have L1 : Hid (∀ W, Below wz.heap.size wz W → Calls Try.prog 34 #[.slice a1 ms.length c1] W fun e w' => e = .returned (.int .i64 0) ∧ Below wz.heap.size wz w') := fun W hW => by
          have := implTab _ ms W (unhide KK W hW).2.1
          rw [(unhide HT).right] at this
          exact this.mono fun e w' ⟨h1, h2⟩ => ⟨h1, below_step hW h2⟩
        have L2 : Hid (∀ W, Below wz.heap.size wz W → Calls Try.prog 33 #[.slice a9 zs.length d9, .slice au zs.length cu] W fun e w' => e = .returned (.bool true) ∧ Below wz.heap.size wz w') := fun W hW =>
          (lwSame _ _ zs W (unhide KK W hW).2.2.2 (unhide KK W hW).1 (by omega)).mono fun e w' ⟨h1, h2⟩ => ⟨h1, below_step hW h2⟩
        have L3 : Hid (∀ W, Below wz.heap.size wz W → Calls Try.prog 32 #[.slice a2 ds.length c2, .int .i64 id] W fun e w' => ∃ (a : Option Addr) (n d : Nat), e = .returned (.agg #[.int .i64 4, .slice a n d]) ∧ Below wz.heap.size wz w') := fun W hW => by
          refine (implGet _ ds id W (unhide KK W hW).2.2.1 (unhide HWI)).mono ?_
          rintro e w' ⟨cs, rfl, ho, hb⟩
          obtain ⟨a, d, rfl, -⟩ := open_IntsResult ho.reads
          rw [(unhide HT).gone]
          exact ⟨a, _, d, rfl, below_step hW hb⟩
        have L4 : Hid (∀ W, Below wz.heap.size wz W → Calls Try.prog 29 #[.slice a1 ms.length c1, .int .i64 id, .slice au zs.length cu] W fun e w' => ∃ (a : Option Addr) (d : Nat), e = .returned (.agg #[.int .i64 0, .slice a ms.length d]) ∧ (Lay.sl Lay.tItem).Reads w' [.slice a ms.length d] ms ∧ Below wz.heap.size wz w') := fun W hW => by
          refine (implPut _ ms id _ zs W (unhide KK W hW).2.1 (unhide HWI) (unhide KK W hW).1).mono ?_
          rintro e w' ⟨cs, rfl, ho, hb⟩
          obtain ⟨a, d, rfl, hr⟩ := open_TableResult ho.reads
          rw [(unhide HT).again] at hr
          rw [(unhide HT).again]
          exact ⟨a, d, rfl, hr, below_step hW hb⟩
        have L5 : Hid (∀ W u, Below wz.heap.size wz W → (Lay.sl Lay.tItem).Reads W [u] ms → Calls Try.prog 35 #[u, .slice a1 ms.length c1] W fun e w' => e = .returned (.bool true) ∧ Below wz.heap.size wz w') := fun W u hW hu => by
          have := implSameT u _ ms ms W hu (unhide KK W hW).2.1
          rw [sameIs_self] at this
          exact this.mono fun e w' ⟨h1, h2⟩ => ⟨h1, below_step hW h2⟩
        have hf1 := fun c a n cp => fieldTT1 c a n cp
        have hf2 := fun c a n cp => fieldIR0 c a n cp
        have e00 : ((0 : Int) == 0) = true := by decide
        have e44 : ((4 : Int) == 4) = true := by decide
        obtain ⟨-, z1, z2, z3, z4, z5⟩ := unhide FF wz (Below.refl _ _)
        clear keep KK HT HWI HIX hlt k4 k5 HR9
        generalize ds.length = D at *
        generalize ms.length = N at *
        subst hlen
        have hD : D ≤ 1000000 := by have := unhide HDL; omega
        have e55 : ((D : Int) == (D : Int) + 1 - 1) = true := by simp
        have e66 : ((D : Int) == (D : Int)) = true := by simp
        have g2 : (D : Int) + 1 - 1 = (D : Int) := by omega
        have g4 : IntKind.i64.wrap ((D : Int) + 1 - 1) = (D : Int) := by simp only [IntKind.wrap_i64]; omega
        have g9 : IntKind.i64.wrap (D : Int) = (D : Int) := by simp only [IntKind.wrap_i64]; omega
        clear HDL hD
        go_wp2_with fail
        go_region_held3 (fun w' => Below wz.heap.size wz w' ∧ w'.cell? ⟨s0, 1, none⟩ = some (.slice a1 (D + 1) c1) ∧ w'.cell? ⟨s1, 0, none⟩ = some (.int .i64 0) ∧ w'.cell? ⟨s1, 1, none⟩ = some (.slice a2 D c2) ∧ w'.cell? ⟨s9, 0, none⟩ = some (.int .i64 0) ∧ w'.cell? ⟨s9, 1, none⟩ = some (.slice a9 zs.length d9))
          (first
            | exact unhide FF _ (Below.refl _ _).drew
            | exact unhide FF _ hb3
            | go_keep)
          (first
            | (go_at_call 34; refine (unhide L1 _ ?_).mono ?_; (go_split_ands; assumption); rintro e w3 ⟨rfl, hb3⟩)
            | (go_at_call 33; refine (unhide L2 _ ?_).mono ?_; (go_split_ands; assumption); rintro e w3 ⟨rfl, hb3⟩)
            | (go_at_call 32; refine (unhide L3 _ ?_).mono ?_; (go_split_ands; assumption); rintro e w3 ⟨a6, n6, c6, rfl, hb3⟩)
            | (go_at_call 29; refine (unhide L4 _ ?_).mono ?_; (go_split_ands; assumption); rintro e w3 ⟨a8, c8, rfl, hi8, hb3⟩)
            | (go_at_call 35; refine (unhide L5 _ _ ?_ ?_).mono ?_; (go_split_ands; assumption); (first | exact hi8 | exact hi8.later (Below.refl _ _).drew); rintro e w3 ⟨rfl, hb3⟩))
        have BW : Hid (Below wz.heap.size wz w3) := hb3
        go_wp2_with fail
        go_ret
        exact ⟨rfl, below_step (unhide HBA) (below_step (unhide HB5) (unhide BW))⟩
  · have hne : (c != 0) = true := by rw [bne_iff_ne]; exact hc0
    have heq : (c == c) = true := by simp
    go_wp2_with fail
    generalize hwa : w2.alloc (.cells #[.int .i64 c, .slice a1 ms.length c1] 30) = wa at *
    generalize w2.heap.size = s0 at *
    clear hwa
    have hs0 := World.block_lt_of_cell? _ _ k0
    have LM : Hid (∀ W, Below wa.heap.size wa W → Calls Try.prog 30 #[.slice av xs.length cv, .int .i64 id, .slice au zs.length cu] W fun e w' => ∃ (a : Option Addr) (n cp : Nat), e = .returned (.agg #[.int .i64 c, .slice a n cp]) ∧ Below W.heap.size W w') := fun W hW => by
      refine (specPut _ xs id _ zs W ((unhide P0).later hW) ((unhide PU).later hW)).mono ?_
      rintro e w' ⟨cs, rfl, ho, hb⟩
      obtain ⟨a, cp, rfl, -⟩ := open_TableResult ho
      rw [← unhide HCC]
      exact ⟨a, _, cp, rfl, hb⟩
    have hf0 := fun a n cp => fieldTT0 c a n cp
    clear hc0 k1
    go_region_held3 (fun w' => Below wa.heap.size wa w' ∧ w'.cell? ⟨s0, 0, none⟩ = some (.int .i64 c))
      (first
        | exact ⟨(Below.refl _ _).drew, k0⟩
        | (refine ⟨below_step ?_ hb3, cell_keep hb3 ?_⟩ <;> (first | assumption | (go_split_ands; assumption)))
        | go_keep)
      (first
        | (go_at_call 30; refine (unhide LM _ ?_).mono ?_; (go_split_ands; assumption); rintro e w3 ⟨a, n, cp, rfl, hb3⟩))
    go_wp2_with fail
    go_ret
    refine ⟨rfl, below_step (unhide HBA) ?_⟩
    first | assumption | (go_split_ands; assumption)

end Go.Proofs.Yteekfapjfpkidab
