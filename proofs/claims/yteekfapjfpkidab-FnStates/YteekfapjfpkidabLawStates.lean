/-
  The law FnStates answers true at every slice of bytes, and writes nothing that was there.
  No condition.
-/
import Derived.Test.YteekfapjfpkidabDrawTOf
import Derived.Test.YteekfapjfpkidabLwAt
import Derived.Test.YteekfapjfpkidabBig
import Derived.Test.YteekfapjfpkidabImplTOf
import Derived.Test.YteekfapjfpkidabImplApply
import Derived.Test.YteekfapjfpkidabImplTab
import Derived.Test.YteekfapjfpkidabImplSameT
import Derived.Test.YteekfapjfpkidabSpecTOf
import Derived.Deep.RegionHeld3
namespace Go.Proofs.Yteekfapjfpkidab
open Go.RowKit

theorem fieldTR1 (c : Int) (a : Option Addr) (n cp : Nat) (w : World) : (Instr.field 30 (.agg #[.int .i64 c, .slice a n cp]) 1).run Try.prog w = .ok (.slice a n cp) w := by kernel_rfl
theorem fieldTR0 (c : Int) (a : Option Addr) (n cp : Nat) (w : World) : (Instr.field 30 (.agg #[.int .i64 c, .slice a n cp]) 0).run Try.prog w = .ok (.int .i64 c) w := by kernel_rfl
theorem sl_prefix {α : Type} {A : Lay α} {w : World} {xs : List α} {ao : Option Addr} {cap k : Nat} (h : (Lay.sl A).Reads w [.slice ao xs.length cap] xs) (hk : k ≤ xs.length) : (Lay.sl A).Reads w [.slice ao k cap] (xs.take k) := by
  obtain ⟨bl, ao', cp, e, ⟨h1, h2⟩, h⟩ := h
  simp only [List.cons.injEq, Value.slice.injEq, and_true] at e
  obtain ⟨rfl, -, rfl⟩ := e
  have hl : (xs.take k).length = k := by simp; omega
  rcases h with ⟨rfl, -⟩ | ⟨b, off, rows, bls, rfl, hb, -, hr, hbl, hj⟩
  · obtain rfl : k = 0 := by simpa using hk
    exact ⟨[], ao, cap, by simp, by simp, Or.inl ⟨by simp, rfl⟩⟩
  · refine ⟨_, _, cap, by rw [hl], ⟨by omega, by omega⟩, Or.inr ⟨b, off, rows.take k, bls.take k, rfl, hb, rfl, by simp [hr], by simp [hbl], fun j h1 h2 h3 => ?_⟩⟩
    have := hj j (by rw [hl] at h1; omega) (by simp at h2; omega) (by simp at h3; omega)
    simpa using this
theorem wsFrom_take {ws : List DWrite} (h : wsFrom ws = 0) (k : Nat) : wsFrom (ws.take k) = 0 := wsFrom_all _ fun j hj => by
  have := wsFrom_zero h (ws.take k)[j] (List.mem_of_mem_take (List.getElem_mem hj))
  exact this
theorem tableOf_take {ws : List DWrite} (h : writesF ws = 0) (k : Nat) : tableOfR (ws.take k) = ⟨0, ofI (ws.take k)⟩ := by
  obtain ⟨hl, ha⟩ := writesF_zero h
  have e : writesF (ws.take k) = 0 := by
    rw [writesF, if_neg (by simp; omega)]
    exact wsFrom_all _ fun j hj => ha _ (List.mem_of_mem_take (List.getElem_mem hj))
  rw [tableOfR, if_pos e]
theorem tableOf_code {ws : List DWrite} (h : (tableOfR ws).code = 0) : writesF ws = 0 := by
  unfold tableOfR at h
  by_cases h0 : writesF ws = 0
  · exact h0
  · rw [if_neg h0] at h; exact h
theorem apply_take {ws : List DWrite} (h : writesF ws = 0) (k : Nat) (hk : k < ws.length) : applyR (ofI (ws.take k)) ws[k] = ⟨0, ofI (ws.take (k + 1))⟩ := by
  obtain ⟨-, ha⟩ := writesF_zero h
  have hr : tableFault (ofI (ws.take k)) = 0 := right_of_writes (ws.take k) fun x hx => ha x (List.mem_of_mem_take hx)
  rw [applyR, if_pos hr, if_pos (ha _ (List.getElem_mem hk)), ofI_snoc ws k hk]
theorem sameIs_same (xs : List DItem) : sameIs xs xs = true := sameIs_all rfl fun _ _ _ => sameIs_refl_self _

theorem lawStates_many (ao : Option Addr) (len cap : Nat) (w : World) (hn : 1048576 < len) :
    Calls Try.prog 7 #[.slice ao len cap] w fun e w' => e = .returned (.bool true) ∧ Below w.heap.size w w' := by
  go_enter Try.func7, Try.ntmps7
  go_wp2_with fail
  refine (big_yes ao len cap w hn).mono ?_
  rintro e w' ⟨rfl, rfl⟩
  go_wp2_with fail
  go_ret
  exact ⟨rfl, Below.refl _ _⟩

set_option maxRecDepth 100000 in
set_option maxHeartbeats 4000000 in
theorem lawStates_few (ao : Option Addr) (len cap : Nat) (w : World) (hn : len ≤ 1048576) (hcode : IsCode w.heap.size w (.slice ao len cap)) :
    Calls Try.prog 7 #[.slice ao len cap] w fun e w' => e = .returned (.bool true) ∧ Below w.heap.size w w' := by
  have HC := hide hcode
  clear hcode
  go_enter Try.func7, Try.ntmps7
  go_wp2_with fail
  refine (big_no ao len cap w hn).mono ?_
  rintro e w ⟨rfl, rfl⟩
  go_wp2_with fail
  refine (drawTableOf ao len cap w (unhide HC)).mono ?_
  rintro e w1 ⟨v, xs, rfl, hR, hxl, hb⟩
  obtain ⟨av, cv, rfl⟩ := open_sl hR
  have HB1 := hide hb
  have HX1 := hide hR
  replace HC := hide ((unhide HC).later hb)
  clear hb hR
  go_wp2_with fail
  refine (implTOf _ xs w1 (unhide HX1)).mono ?_
  rintro e w2 ⟨cs, rfl, ho, hb2⟩
  obtain ⟨a1, c1, rfl, hR2⟩ := open_TableResult ho.reads
  clear ho
  obtain ⟨c, hcc⟩ : ∃ c, c = (tableOfR xs).code := ⟨_, rfl⟩
  obtain ⟨ms, hms⟩ : ∃ ms, ms = (tableOfR xs).items := ⟨_, rfl⟩
  rw [← hms] at hR2
  rw [← hcc, ← hms]
  have nb : Below w2.heap.size w2 (w2.alloc (.cells #[.int .i64 c, .slice a1 ms.length c1] 30)) := (Below.refl _ _).alloc (Nat.le_refl _) _
  obtain ⟨k0, k1⟩ := new_cells (w := w2) (T := 30) (x := .int .i64 c) (y := .slice a1 ms.length c1)
  have P0 := hide (((unhide HX1).later hb2).later nb)
  have P1 := hide (hR2.later nb)
  have hb3 := below_step (unhide HB1) (below_step hb2 nb)
  have HC3 := hide ((unhide HC).later ((hb2.trans (nb.mono hb2.size)).mono (unhide HB1).size))
  have HBA := hide hb3
  have HCC := hide hcc
  have HMS := hide hms
  clear hb2 hb3 nb hcc hms HX1 HB1 HC hR2
  by_cases hc0 : c = 0
  · subst hc0
    have HWF := hide (tableOf_code (unhide HCC).symm)
    have hl200 : xs.length ≤ 200 := (writesF_zero (unhide HWF)).1
    have HMO : Hid (ms = ofI xs) := by
      show ms = ofI xs
      rw [unhide HMS, tableOfR, if_pos (unhide HWF)]
    have HTR : Hid (tableOfR xs = ⟨0, ms⟩) := by
      show tableOfR xs = ⟨0, ms⟩
      rw [unhide HMO, tableOfR, if_pos (unhide HWF)]
    clear HCC HMS
    go_wp2_with fail
    generalize hwa : w2.alloc (.cells #[.int .i64 0, .slice a1 ms.length c1] 30) = wa at *
    generalize w2.heap.size = s0 at *
    clear hwa
    have hs0 := World.block_lt_of_cell? _ _ k0
    have keep : Hid (∀ W, Below wa.heap.size wa W → (Lay.sl Lay.tWrite).Reads W [.slice av xs.length cv] xs ∧ (Lay.sl Lay.tItem).Reads W [.slice a1 ms.length c1] ms ∧ W.cell? ⟨s0, 1, none⟩ = some (.slice a1 ms.length c1)) := fun W hW =>
      ⟨(unhide P0).later hW, (unhide P1).later hW, cell_keep hW k1⟩
    have LA : Hid (Calls Try.prog 45 #[.slice ao len cap, .int .i64 3, .int .i64 ((xs.length : Int) + 1)] wa fun e w' => ∃ r : Nat, e = .returned (.int .i64 r) ∧ r < xs.length + 1 ∧ Below wa.heap.size wa w') := lwAt ao len cap 3 (xs.length + 1) wa (unhide HC3) (by omega) (by omega) (by omega)
    clear P0 P1 HC3 k1
    refine (unhide LA).mono ?_
    rintro e w3 ⟨k, rfl, hk, hb3⟩
    have hg1 : (0 : Int) ≤ (k : Int) := by omega
    have hg2 : (k : Int) ≤ (xs.length : Int) := by omega
    have HB3 := hide hb3
    have LP := hide (implTOf (.slice av k cv) (xs.take k) w3 (sl_prefix (unhide keep w3 hb3).1 (by omega)))
    have hcap : xs.length ≤ cv := by
      obtain ⟨_, _, _, e, ⟨h1, -⟩, -⟩ := (unhide keep w3 hb3).1
      simp only [List.cons.injEq, Value.slice.injEq, and_true] at e
      obtain ⟨-, -, rfl⟩ := e
      exact h1
    clear hb3 LA
    go_wp2_with fail
    refine (unhide LP).mono ?_
    rintro e w4 ⟨cs, rfl, ho, hb4⟩
    obtain ⟨a2, c2, rfl, hR4⟩ := open_TableResult ho.reads
    clear ho
    have et := tableOf_take (unhide HWF) k
    rw [et] at hR4
    rw [et]
    clear et LP
    have hf1 := fun c a n cp => fieldTR1 c a n cp
    have HR4 : Hid ((Lay.sl Lay.tItem).Reads w4 [.slice a2 (ofI (xs.take k)).length c2] (ofI (xs.take k))) := hR4
    have HB4 := hide (below_step (unhide HB3) hb4)
    clear hR4 hb4 HB3
    go_wp2_with fail
    go_loopw [6, 7] (fun at_ i wr => ∃ (j : Nat) (a : Option Addr) (d : Nat), k ≤ j ∧ j ≤ xs.length ∧ i = .int .i64 j ∧ at_ = .slice a (ofI (xs.take j)).length d ∧ (Lay.sl Lay.tItem).Reads wr [at_] (ofI (xs.take j)) ∧ Below wa.heap.size wa wr) (fun _ i _ => xs.length - (intOf i).toNat)
    case atStart => exact ⟨k, a2, c2, Nat.le_refl _, by omega, rfl, rfl, unhide HR4, unhide HB4⟩
    case round =>
      obtain ⟨j, a, d, hkj, hj, rfl, rfl, hRt, hBt⟩ := hrel
      clear HR4 HB4
      by_cases hlt : j < xs.length
      · obtain ⟨hRx, -, -⟩ := unhide keep wr hBt
        obtain ⟨b, off, rfl, hbl⟩ := Lay.sl_addr hRx (by omega)
        obtain ⟨row, hc, hr⟩ := Lay.row_at hRx hlt
        obtain ⟨a5, d5, rfl, -⟩ := open_Write hr
        have c0 : wr.cell? ⟨b, off + j * 5, none⟩ = some (.int .i64 (xs[j]).kind) := hc 0 (by decide)
        have c1 : wr.cell? ⟨b, off + j * 5 + 1, none⟩ = some (.int .i64 (xs[j]).id) := hc 1 (by decide)
        have c2 : wr.cell? ⟨b, off + j * 5 + 2, none⟩ = some (.slice a5 (xs[j]).vec.length d5) := hc 2 (by decide)
        have c3 : wr.cell? ⟨b, off + j * 5 + 3, none⟩ = some (.int .i64 (xs[j]).session) := hc 3 (by decide)
        have c4 : wr.cell? ⟨b, off + j * 5 + 4, none⟩ = some (.int .i64 (xs[j]).seq) := hc 4 (by decide)
        have HAP := hide (apply_take (unhide HWF) j hlt)
        have LA := implApply _ _ _ _ wr hRt hr
        have HL := hide LA
        have HBT := hide hBt
        clear LA hc hr hRt hBt hRx
        generalize xs[j] = x at *
        obtain ⟨ts, hts⟩ : ∃ ts, ts = ofI (xs.take j) := ⟨_, rfl⟩
        rw [← hts] at HL HAP
        rw [← hts]
        clear hts
        go_wp2_with fail
        refine (unhide HL).mono ?_
        rintro e w5 ⟨cs, rfl, ho, hb5⟩
        obtain ⟨a6, d6, rfl, hR5⟩ := open_TableResult ho.reads
        clear ho
        rw [unhide HAP] at hR5
        rw [unhide HAP]
        have nb : Below w5.heap.size w5 (w5.alloc (.cells #[.int .i64 0, .slice a6 (ofI (xs.take (j + 1))).length d6] 30)) := (Below.refl _ _).alloc (Nat.le_refl _) _
        have HR6 : Hid ((Lay.sl Lay.tItem).Reads (w5.alloc (.cells #[.int .i64 0, .slice a6 (ofI (xs.take (j + 1))).length d6] 30)) [.slice a6 (ofI (xs.take (j + 1))).length d6] (ofI (xs.take (j + 1)))) := hR5.later nb
        have HB6 := hide (below_step (unhide HBT) (hb5.trans (nb.mono hb5.size)))
        clear nb hR5 hb5 HL HAP HBT c0 c1 c2 c3 c4
        generalize hN : (ofI (xs.take (j + 1))).length = N at *
        go_wp2_with fail
        go_roundw
        case rel => exact ⟨j + 1, a6, d6, by omega, by omega, by go_num, by rw [hN], unhide HR6, unhide HB6⟩
        case measure => simp [intOf]; omega
      · obtain rfl : j = xs.length := by omega
        have hRt2 := hRt
        rw [List.take_length, ← unhide HMO] at hRt2
        rw [List.take_length, ← unhide HMO]
        have HRT := hide hRt2
        have HBT := hide hBt
        obtain ⟨-, -, z1⟩ := unhide keep wr hBt
        have hmf : tableFault ms = 0 := by
          rw [unhide HMO]
          exact right_of_writes xs (writesF_zero (unhide HWF)).2
        have K1 : Hid (∀ W, Below wr.heap.size wr W → (Lay.sl Lay.tItem).Reads W [.slice a1 ms.length c1] ms ∧ (Lay.sl Lay.tItem).Reads W [.slice a ms.length d] ms) := fun W hW => ⟨(unhide keep W (below_step (unhide HBT) hW)).2.1, (unhide HRT).later hW⟩
        have L1 : Hid (∀ W, Below wr.heap.size wr W → Calls Try.prog 34 #[.slice a1 ms.length c1] W fun e w' => e = .returned (.int .i64 0) ∧ Below W.heap.size W w') := fun W hW => by
          have := implTab _ ms W (unhide K1 W hW).1
          rwa [hmf] at this
        have L4 : Hid (∀ W, Below wr.heap.size wr W → Calls Try.prog 22 #[.slice av xs.length cv] W fun e w' => ∃ (a2 : Option Addr) (c2 : Nat), e = .returned (.agg #[.int .i64 0, .slice a2 ms.length c2]) ∧ (Lay.sl Lay.tItem).Reads w' [.slice a2 ms.length c2] ms ∧ Below W.heap.size W w') := fun W hW => by
          refine (specTOf _ xs W (unhide keep W (below_step (unhide HBT) hW)).1).mono ?_
          rintro e w' ⟨cs, rfl, ho, hb⟩
          obtain ⟨a2, c2, rfl, hr⟩ := open_TableResult ho
          rw [unhide HTR] at hr
          rw [unhide HTR]
          exact ⟨a2, c2, rfl, hr, hb⟩
        have L3 : Hid (∀ W u v, (Lay.sl Lay.tItem).Reads W [u] ms → (Lay.sl Lay.tItem).Reads W [v] ms → Calls Try.prog 35 #[u, v] W fun e w' => e = .returned (.bool true) ∧ Below W.heap.size W w') := fun W u v h1 h2 => by
          have := implSameT u v ms ms W h1 h2
          rwa [sameIs_same] at this
        have e00 : ((0 : Int) == 0) = true := by decide
        clear hRt hRt2 hBt hmf keep HRT HMO HTR HWF hlt k0
        generalize ms.length = N at *
        go_wp2_with fail
        first
          | go_region_held3 (fun w' => Below wr.heap.size wr w' ∧ w'.cell? ⟨s0, 1, none⟩ = some (.slice a1 N c1))
              (first
                | exact ⟨(Below.refl _ _).drew, z1⟩
                | (refine ⟨below_step ?_ hb3, cell_keep hb3 ?_⟩ <;> (first | assumption | (go_split_ands; assumption)))
                | go_keep)
              (first
                | (go_at_call 34; refine (unhide L1 _ ?_).mono ?_; (go_split_ands; assumption); rintro e w3 ⟨rfl, hb3⟩)
                | (go_at_call 22; refine (unhide L4 _ ?_).mono ?_; (go_split_ands; assumption); rintro e w3 ⟨a6, c6, rfl, hi6, hb3⟩)
                | (go_at_call 35; refine (unhide L3 _ _ _ ?_ ?_).mono ?_; (first | exact (unhide K1 _ (by go_split_ands; assumption)).1 | exact (unhide K1 _ (by go_split_ands; assumption)).2); (first | exact hi6 | exact hi6.later (Below.refl _ _).drew | exact (unhide K1 _ (by go_split_ands; assumption)).1); rintro e w3 ⟨rfl, hb3⟩))
          | fail
        have BW : Hid (Below wr.heap.size wr w3) := by
          show Below wr.heap.size wr w3
          first | assumption | (go_split_ands; assumption)
        go_wp2_with fail
        go_ret
        exact ⟨rfl, below_step (unhide HBA) (below_step (unhide HBT) (unhide BW))⟩
  · have hne : (c != 0) = true := by rw [bne_iff_ne]; exact hc0
    have heq : (c == c) = true := by simp
    go_wp2_with fail
    generalize hwa : w2.alloc (.cells #[.int .i64 c, .slice a1 ms.length c1] 30) = wa at *
    generalize w2.heap.size = s0 at *
    clear hwa
    have hs0 := World.block_lt_of_cell? _ _ k0
    have LM : Hid (∀ W, Below wa.heap.size wa W → Calls Try.prog 22 #[.slice av xs.length cv] W fun e w' => ∃ (a : Option Addr) (n cp : Nat), e = .returned (.agg #[.int .i64 c, .slice a n cp]) ∧ Below W.heap.size W w') := fun W hW => by
      refine (specTOf _ xs W ((unhide P0).later hW)).mono ?_
      rintro e w' ⟨cs, rfl, ho, hb⟩
      obtain ⟨a, cp, rfl, -⟩ := open_TableResult ho
      rw [← unhide HCC]
      exact ⟨a, _, cp, rfl, hb⟩
    have hf0 := fun a n cp => fieldTR0 c a n cp
    clear hc0 k1
    go_region_held3 (fun w' => Below wa.heap.size wa w' ∧ w'.cell? ⟨s0, 0, none⟩ = some (.int .i64 c))
      (first
        | exact ⟨(Below.refl _ _).drew, k0⟩
        | (refine ⟨below_step ?_ hb3, cell_keep hb3 ?_⟩ <;> (first | assumption | (go_split_ands; assumption)))
        | go_keep)
      (first
        | (go_at_call 22; refine (unhide LM _ ?_).mono ?_; (go_split_ands; assumption); rintro e w3 ⟨a, n, cp, rfl, hb3⟩))
    go_wp2_with fail
    go_ret
    refine ⟨rfl, below_step (unhide HBA) ?_⟩
    first | assumption | (go_split_ands; assumption)

/-- FnStates. -/
theorem lawFnStates (a : Option Addr) (len cap : Nat) (zs : List Int) (w : World) (h : (a = none ∧ len = 0 ∧ cap = 0 ∧ zs = []) ∨
    ∃ x, a = some x ∧ len ≤ cap ∧ cap ≤ maxLen ∧ zs.length = cap ∧ (∀ i, i < zs.length → w.cell? (x.add i) = some (.int .u8 (zs.getD i 0))) ∧ ∀ n ∈ zs, (Lit.int .u8 n).wf = true) :
    Calls Try.prog 7 #[.slice a len cap] w fun e w' => e = .returned (.bool true) ∧ Below w.heap.size w w' := by
  by_cases hn : len ≤ 1048576
  · exact lawStates_few a len cap w hn (isCode_of_row h hn)
  · exact lawStates_many a len cap w (by omega)

end Go.Proofs.Yteekfapjfpkidab
