/-
  Texts of this proof in one: ImplTOf, ImplStateAt, ImplInts, ImplSameT, LawCleans.
  Their conditions stand in their theorems.
-/
import Derived.Test.YtbogjepkdcknfaaGreatNl06
import Derived.Test.YtbogjepkdcknfaaGreatNl02
import Derived.Test.YtbogjepkdcknfaaGreatChecked
import Derived.BigQuiet
import Derived.Deep.QuietTactic
import Derived.WalkSmall
import Derived.Test.YtbogjepkdcknfaaGreatNl04
import Derived.Test.YtbogjepkdcknfaaGreatNl05
import Derived.Deep.RegionHeld3
import Derived.Deep.CutRange

namespace Go.Proofs.YtbogjepkdcknfaaGreat
open Go.RowKit

set_option maxRecDepth 100000 in
set_option maxHeartbeats 2000000 in
theorem implTOf_pos (b off cap : Nat) (ws : List DWrite) (w : World) (h : (Lay.sl Lay.tWrite).Reads w [.slice (some ⟨b, off, none⟩) ws.length cap] ws) (hbl : b < w.heap.size) (hn : ws.length ≤ 200) :
    Calls Tryz.prog 12 #[.slice (some ⟨b, off, none⟩) ws.length cap] w fun e w' => ∃ cs, e = .returned (.agg cs.toArray) ∧ Lay.tTableResult.OwnIn w' cs (tableOfR ws) w.heap.size w'.heap.size ∧ Below w.heap.size w w' := by
  have HW : Hid (writesF ws = wsFrom ws) := by show writesF ws = wsFrom ws; rw [writesF, if_neg (by omega)]
  have HB0 : Below w.heap.size w (w.alloc (.cells #[.int .i64 0, .slice none 0 0] 38)) := (Below.refl _ _).alloc (Nat.le_refl _) _
  have bR : Box w.heap.size #[.int .i64 0, .slice none 0 0] 38 (w.alloc (.cells #[.int .i64 0, .slice none 0 0] 38)) w.heap.size := newBox (Nat.le_refl _)
  have H := hide h
  clear h
  have nb : Below (w.alloc (.cells #[.int .i64 0, .slice none 0 0] 38)).heap.size (w.alloc (.cells #[.int .i64 0, .slice none 0 0] 38)) ((w.alloc (.cells #[.int .i64 0, .slice none 0 0] 38)).alloc (.map #[] 0)) := (Below.refl _ _).alloc (Nat.le_refl _) _
  have HT0 := hide (tabAt_new (w.alloc (.cells #[.int .i64 0, .slice none 0 0] 38)))
  have HBB := hide (HB0.trans (nb.mono HB0.size))
  have HRR := hide (bR.keep nb)
  have hQ : (w.alloc (.cells #[.int .i64 0, .slice none 0 0] 38)).heap.size = w.heap.size + 1 := by simp
  rw [hQ] at HT0
  clear HB0 bR nb hQ
  have hmk := @run_makeMap Tryz.prog
  go_enter Tryz.func12, Tryz.ntmps12
  go_wp2_with fail
  clear hmk
  go_loopw [15] (fun i wr => ∃ k : Nat, k ≤ ws.length ∧ i = .int .i64 k ∧ (∀ j (hj : j < ws.length), j < k → wF ws[j] = 0) ∧ TabAt wr (w.heap.size + 1) k (ofI (ws.take k)) ∧ Box w.heap.size #[.int .i64 0, .slice none 0 0] 38 wr w.heap.size ∧ Below w.heap.size w wr) (fun i _ => ws.length - (intOf i).toNat)
  case atStart => exact ⟨0, Nat.zero_le _, rfl, fun j _ hj => by omega, unhide HT0, unhide HRR, unhide HBB⟩
  case round =>
    obtain ⟨k, hk, rfl, hz, hT, bR, hB⟩ := hrel
    clear HT0 HRR HBB
    by_cases hlt : k < ws.length
    · obtain ⟨row, hc, hr⟩ := Lay.row_at (unhide H) hlt
      replace hr := hr.later hB
      obtain ⟨a2, d2, rfl, R2⟩ := open_Write hr
      have c0 : wr.cell? ⟨b, off + k * 5, none⟩ = some (.int .i64 (ws[k]).kind) := (hB.cell (p := ⟨b, off + k * 5, none⟩) hbl).trans (hc 0 (by decide))
      have c1 : wr.cell? ⟨b, off + k * 5 + 1, none⟩ = some (.int .i64 (ws[k]).id) := (hB.cell (p := ⟨b, off + k * 5 + 1, none⟩) hbl).trans (hc 1 (by decide))
      have c2 : wr.cell? ⟨b, off + k * 5 + 2, none⟩ = some (.slice a2 (ws[k]).vec.length d2) := (hB.cell (p := ⟨b, off + k * 5 + 2, none⟩) hbl).trans (hc 2 (by decide))
      have c3 : wr.cell? ⟨b, off + k * 5 + 3, none⟩ = some (.int .i64 (ws[k]).session) := (hB.cell (p := ⟨b, off + k * 5 + 3, none⟩) hbl).trans (hc 3 (by decide))
      have c4 : wr.cell? ⟨b, off + k * 5 + 4, none⟩ = some (.int .i64 (ws[k]).seq) := (hB.cell (p := ⟨b, off + k * 5 + 4, none⟩) hbl).trans (hc 4 (by decide))
      have HZ := hide hz
      have HST := hide (ofI_snoc ws k hlt)
      have HAT : Hid (wF ws[k] ≠ 0 → writesF ws = wF ws[k]) := fun hn => (unhide HW).trans (wsFrom_at ws k hlt hz hn)
      have HRT := hide (right_of_writes (ws.take k) fun x hx => by
        obtain ⟨j, hj, rfl⟩ := List.getElem_of_mem hx
        rw [List.length_take] at hj
        rw [List.getElem_take]
        exact hz j (by omega) (by omega))
      have HZ2 : Hid (wF ws[k] = 0 → ∀ j (hj : j < ws.length), j < k + 1 → wF ws[j] = 0) := by
        intro h0 j hj hjk
        by_cases hjk2 : j < k
        · exact unhide HZ j hj hjk2
        · obtain rfl : j = k := by omega
          exact h0
      clear hc hr hz HZ
      generalize hx : ws[k] = x at *
      clear hx
      have hbr : b < wr.heap.size := Nat.lt_of_lt_of_le hbl hB.size
      have hTl := hT.lt
      have nb : Below wr.heap.size wr (wr.alloc (.cells #[.int .i64 x.kind, .int .i64 x.id, .slice a2 x.vec.length d2, .int .i64 x.session, .int .i64 x.seq] 34)) := (Below.refl _ _).alloc (Nat.le_refl _) _
      have bI : Box wr.heap.size #[.int .i64 x.kind, .int .i64 x.id, .slice a2 x.vec.length d2, .int .i64 x.session, .int .i64 x.seq] 34 (wr.alloc (.cells #[.int .i64 x.kind, .int .i64 x.id, .slice a2 x.vec.length d2, .int .i64 x.session, .int .i64 x.seq] 34)) wr.heap.size := newBox (Nat.le_refl _)
      have L := implDeed x.kind x.id (.slice a2 x.vec.length d2) x.session x.seq x.vec _ ((Lay.ints_reads R2).later nb)
      simp only [ToldDeed] at L
      rw [show writeFault x.kind x.id x.vec x.session x.seq = wF x from rfl] at L
      have HL := hide L
      have HT := hide (hT.later nb)
      have HB := hide (hB.trans (nb.mono hB.size))
      have HR := hide (bR.keep nb)
      have HBI := hide bI
      clear R2 hT hB bR nb bI L
      go_wp2_with fail
      clear c0 c1 c2 c3 c4
      refine (unhide HL).mono ?_
      generalize hW0 : wr.alloc (.cells #[.int .i64 x.kind, .int .i64 x.id, .slice a2 x.vec.length d2, .int .i64 x.session, .int .i64 x.seq] 34) = W0 at *
      clear hW0
      rintro e w2 ⟨rfl, hb⟩
      replace HT := hide ((unhide HT).later hb)
      replace HR := hide ((unhide HR).keep hb)
      replace HBI := hide ((unhide HBI).keep hb)
      replace HB := hide ((unhide HB).trans (hb.mono (unhide HB).size))
      clear hb HL
      have hb1 : w2.cell? ⟨wr.heap.size, 1, none⟩ = some (.int .i64 x.id) := (unhide HBI).at 1 _ rfl
      have hbl1 : wr.heap.size < w2.heap.size := (unhide HBI).lt
      by_cases hf : wF x = 0
      · rw [hf, show deedRes x.kind x.id x.vec x.session x.seq = deedV x.kind x.vec from if_pos hf]
        have L := doC (w.heap.size + 1) k (ofI (ws.take k)) x w2 (unhide HT) (unhide HRT) (by omega) hf
        rw [← unhide HST] at L
        have HL := hide L
        have HZ3 := hide (unhide HZ2 hf)
        generalize hdv : deedV x.kind x.vec = dv at *
        clear L hf hdv HZ2 HAT HST HRT
        go_wp2_with fail
        refine (unhide HL).mono ?_
        rintro e w3 ⟨rfl, hT3, hE3⟩
        have HT3 := hide hT3
        have HR3 := hide ((unhide HR).ext hE3 (by omega))
        have HB3 := hide ((unhide HB).trans (hE3.below (unhide HB).size (fun c hc e => by omega)))
        clear hT3 hE3 HT HR HB HL HBI hb1 hbl1
        go_wp2_with fail
        go_roundw
        case rel => exact ⟨k + 1, by omega, by go_num, unhide HZ3, unhide HT3, unhide HR3, unhide HB3⟩
        case measure => simp [intOf]; omega
      · have hd : (wF x != 0) = true := by simpa using hf
        have HG : Hid (tableOfR ws = ⟨wF x, []⟩) := by
          show tableOfR ws = _
          rw [tableOfR, if_neg (by rw [unhide HAT hf]; exact hf), unhide HAT hf]
        have bR := unhide HR
        have z0 : w2.cell? ⟨w.heap.size, 0, none⟩ = some (.int .i64 0) := bR.at 0 _ rfl
        have z1 : w2.cell? ⟨w.heap.size, 1, none⟩ = some (.slice none 0 0) := bR.at 1 _ rfl
        have f0 := bR.soft 0
        have f1 := bR.soft 1
        have l0 := bR.lt
        generalize hdr : deedRes x.kind x.id x.vec x.session x.seq = dr at *
        clear hf hdr HZ2 HAT HST HRT bR HT
        go_wp2_with fail
        refine bodyPost_ret (v := .agg #[.int .i64 (wF x), .slice none 0 0]) (by simp [results, Tryz.results12, go_sem, z0, z1]) rfl ?_
        rw [unhide HG]
        exact ⟨[.int .i64 (wF x), .slice none 0 0], rfl, own_codeItems (wF_wf x), ((unhide HB).setCell (by simp) _).setCell (by simp) _⟩
    · obtain rfl : k = ws.length := by omega
      have hall : ∀ x ∈ ws, wF x = 0 := fun x hx => by
        obtain ⟨j, hj, rfl⟩ := List.getElem_of_mem hx
        exact hz j hj hj
      have HG : Hid (tableOfR ws = ⟨0, ofI ws⟩) := by
        show tableOfR ws = _
        rw [tableOfR, if_pos (by rw [unhide HW]; exact wsFrom_all ws fun j hj => hz j hj hj)]
      rw [List.take_length] at hT
      have HL := hide (itemsC (w.heap.size + 1) ws.length (ofI ws) wr hT (right_of_writes ws hall))
      have HR := hide bR
      have HB := hide hB
      clear hT bR hB hz hall H HW
      go_wp2_with fail
      refine (unhide HL).mono ?_
      rintro e w3 ⟨v9, rfl, hO, hb⟩
      obtain ⟨ao9, cp9, rfl⟩ := open_sl hO.reads
      have bR := (unhide HR).keep hb
      have z0 : w3.cell? ⟨w.heap.size, 0, none⟩ = some (.int .i64 0) := bR.at 0 _ rfl
      have z1 : w3.cell? ⟨w.heap.size, 1, none⟩ = some (.slice none 0 0) := bR.at 1 _ rfl
      have f0 := bR.soft 0
      have f1 := bR.soft 1
      have l0 := bR.lt
      have HB9 := hide ((unhide HB).trans (hb.mono (unhide HB).size))
      have HO9 := hide (hO.mono (lo' := w.heap.size + 1) (by have := (unhide HR).lt; omega) (Nat.le_refl _))
      clear hO hb bR
      go_wp2_with fail
      refine bodyPost_ret (v := .agg #[.int .i64 0, .slice ao9 (ofI ws).length cp9]) (by simp [results, Tryz.results12, go_sem, z0, z1]) rfl ?_
      rw [unhide HG]
      have hE : Ext (fun c => c = w.heap.size) w3 ((w3.setCell ⟨w.heap.size, 0, none⟩ (.int .i64 0)).setCell ⟨w.heap.size, 1, none⟩ (.slice ao9 (ofI ws).length cp9)) := ((Ext.refl (fun c => c = w.heap.size) _).setCell ⟨w.heap.size, 0, none⟩ _ rfl).setCell ⟨w.heap.size, 1, none⟩ _ rfl
      refine ⟨[.int .i64 0, .slice ao9 (ofI ws).length cp9], rfl, own_items (by decide) ?_, ((unhide HB9).setCell (by simp) _).setCell (by simp) _⟩
      exact ((unhide HO9).ext hE (fun c h1 _ h3 => by omega)).mono (by omega) (by simp)

set_option maxRecDepth 10000 in
set_option maxHeartbeats 1000000 in
theorem implTOf_zero (ao : Option Addr) (cap : Nat) (w : World) :
    Calls Tryz.prog 12 #[.slice ao 0 cap] w fun e w' => ∃ cs, e = .returned (.agg cs.toArray) ∧ Lay.tTableResult.OwnIn w' cs (tableOfR []) w.heap.size w'.heap.size ∧ Below w.heap.size w w' := by
  have HB0 : Below w.heap.size w (w.alloc (.cells #[.int .i64 0, .slice none 0 0] 38)) := (Below.refl _ _).alloc (Nat.le_refl _) _
  have bR : Box w.heap.size #[.int .i64 0, .slice none 0 0] 38 (w.alloc (.cells #[.int .i64 0, .slice none 0 0] 38)) w.heap.size := newBox (Nat.le_refl _)
  have nb : Below (w.alloc (.cells #[.int .i64 0, .slice none 0 0] 38)).heap.size (w.alloc (.cells #[.int .i64 0, .slice none 0 0] 38)) ((w.alloc (.cells #[.int .i64 0, .slice none 0 0] 38)).alloc (.map #[] 0)) := (Below.refl _ _).alloc (Nat.le_refl _) _
  have hT := tabAt_new (w.alloc (.cells #[.int .i64 0, .slice none 0 0] 38))
  have HB := hide (HB0.trans (nb.mono HB0.size))
  have HR := hide (bR.keep nb)
  have hQ : (w.alloc (.cells #[.int .i64 0, .slice none 0 0] 38)).heap.size = w.heap.size + 1 := by simp
  rw [hQ] at hT
  have HL := hide (itemsC (w.heap.size + 1) 0 [] _ hT right_nil)
  have HG : Hid (tableOfR [] = ⟨0, []⟩) := rfl
  clear HB0 bR nb hQ hT
  have hmk := @run_makeMap Tryz.prog
  go_enter Tryz.func12, Tryz.ntmps12
  go_wp2_with fail
  clear hmk
  refine wp_loop_rounds 1 ?_
  rw [rounds_succ]
  go_wp2_with fail
  refine (unhide HL).mono ?_
  rintro e w3 ⟨v9, rfl, hO, hb⟩
  obtain ⟨ao9, cp9, rfl⟩ := open_sl hO.reads
  have bR := (unhide HR).keep hb
  have z0 : w3.cell? ⟨w.heap.size, 0, none⟩ = some (.int .i64 0) := bR.at 0 _ rfl
  have z1 : w3.cell? ⟨w.heap.size, 1, none⟩ = some (.slice none 0 0) := bR.at 1 _ rfl
  have f0 := bR.soft 0
  have f1 := bR.soft 1
  have l0 := bR.lt
  have HB9 := hide ((unhide HB).trans (hb.mono (unhide HB).size))
  have HO9 := hide (hO.mono (lo' := w.heap.size + 1) (by have := (unhide HR).lt; omega) (Nat.le_refl _))
  clear hO hb bR
  go_wp2_with fail
  refine bodyPost_ret (v := .agg #[.int .i64 0, .slice ao9 (([] : List DItem)).length cp9]) (by simp [results, Tryz.results12, go_sem, z0, z1]) rfl ?_
  rw [unhide HG]
  have hE : Ext (fun c => c = w.heap.size) w3 ((w3.setCell ⟨w.heap.size, 0, none⟩ (.int .i64 0)).setCell ⟨w.heap.size, 1, none⟩ (.slice ao9 (([] : List DItem)).length cp9)) := ((Ext.refl (fun c => c = w.heap.size) _).setCell ⟨w.heap.size, 0, none⟩ _ rfl).setCell ⟨w.heap.size, 1, none⟩ _ rfl
  refine ⟨[.int .i64 0, .slice ao9 (([] : List DItem)).length cp9], rfl, own_items (by decide) ?_, ((unhide HB9).setCell (by simp) _).setCell (by simp) _⟩
  exact ((unhide HO9).ext hE (fun c h1 _ h3 => by omega)).mono (by omega) (by simp)

set_option maxRecDepth 10000 in
/-- TableOf of the program. -/
theorem implTOf (v : Value) (ws : List DWrite) (w : World) (h : (Lay.sl Lay.tWrite).Reads w [v] ws) :
    Calls Tryz.prog 12 #[v] w fun e w' => ∃ cs, e = .returned (.agg cs.toArray) ∧ Lay.tTableResult.OwnIn w' cs (tableOfR ws) w.heap.size w'.heap.size ∧ Below w.heap.size w w' := by
  obtain ⟨ao, cap, rfl⟩ := open_sl h
  by_cases hn : ws.length ≤ 200
  · by_cases hp : 0 < ws.length
    · obtain ⟨b, off, rfl, hbl⟩ := Lay.sl_addr h hp
      exact implTOf_pos b off cap ws w h hbl hn
    · obtain rfl : ws = [] := List.eq_nil_of_length_eq_zero (by omega)
      exact implTOf_zero ao cap w
  · have e : writesF ws = 2 := by rw [writesF, if_pos (by omega)]
    have HG : Hid (tableOfR ws = ⟨2, []⟩) := by show tableOfR ws = _; rw [tableOfR, if_neg (by rw [e]; decide), e]
    have hd : decide ((200 : Int) < (ws.length : Int)) = true := by simp; omega
    have HB := hide ((Below.refl w.heap.size w).alloc (Nat.le_refl _) (.cells #[.int .i64 2, .slice none 0 0] 38))
    clear h e
    go_enter Tryz.func12, Tryz.ntmps12
    go_wp2_with fail
    refine bodyPost_ret (v := .agg #[.int .i64 2, .slice none 0 0]) (by simp [results, Tryz.results12, go_sem]) rfl ?_
    rw [unhide HG]
    exact ⟨[.int .i64 2, .slice none 0 0], rfl, own_codeItems (by decide), unhide HB⟩

end Go.Proofs.YtbogjepkdcknfaaGreat

namespace Go.Proofs.YtbogjepkdcknfaaGreat
open Go.RowKit

set_option maxRecDepth 10000 in
set_option maxHeartbeats 2000000 in
theorem implStateAt (cs : List Value) (x : DNode) (c : Int) (w : World) (h : Lay.tNode.Reads w cs x) :
    Calls Tryz.prog 9 #[.agg cs.toArray, .int .i64 c] w fun e w' => ∃ cs, e = .returned (.agg cs.toArray) ∧ Lay.tTableResult.OwnIn w' cs (stateR x c) w.heap.size w'.heap.size ∧ Below w.heap.size w w' := by
  have hN := h
  obtain ⟨a4, d4, rfl, R4⟩ := open_Node h
  have nb : Below w.heap.size w ((w.alloc (.cells #[.int .i64 x.id, .bool x.up, .int .i64 x.epoch, .int .i64 x.lease, .slice a4 x.writes.length d4, .int .i64 x.sure, .int .i64 x.clean] 26)).alloc (.cells #[.int .i64 0, .slice none 0 0] 38)) := ((Below.refl _ _).alloc (Nat.le_refl _) _).alloc (by simp) _
  have bX : Box 0 #[.int .i64 x.id, .bool x.up, .int .i64 x.epoch, .int .i64 x.lease, .slice a4 x.writes.length d4, .int .i64 x.sure, .int .i64 x.clean] 26 ((w.alloc (.cells #[.int .i64 x.id, .bool x.up, .int .i64 x.epoch, .int .i64 x.lease, .slice a4 x.writes.length d4, .int .i64 x.sure, .int .i64 x.clean] 26)).alloc (.cells #[.int .i64 0, .slice none 0 0] 38)) w.heap.size := (newBox (Nat.zero_le _)).grow _
  have bR : Box 0 #[.int .i64 0, .slice none 0 0] 38 ((w.alloc (.cells #[.int .i64 x.id, .bool x.up, .int .i64 x.epoch, .int .i64 x.lease, .slice a4 x.writes.length d4, .int .i64 x.sure, .int .i64 x.clean] 26)).alloc (.cells #[.int .i64 0, .slice none 0 0] 38)) (w.heap.size + 1) := newBoxAt (Nat.zero_le _) (by simp)
  by_cases hf : nodeFault x = 0
  · have hok := nodeFault_zero hf
    have HL := hide (nodeOf_ok _ x _ (hN.later nb) hf)
    have HF := hide hf
    have HOK := hide hok
    have hln := hok.len
    have HB0 := hide nb
    have HR0 := hide bR
    clear h hN nb bX bR R4 hf hok
    go_enter Tryz.func9, Tryz.ntmps9
    go_wp2_with fail
    generalize (w.alloc (.cells #[.int .i64 x.id, .bool x.up, .int .i64 x.epoch, .int .i64 x.lease, .slice a4 x.writes.length d4, .int .i64 x.sure, .int .i64 x.clean] 26)).alloc (.cells #[.int .i64 0, .slice none 0 0] 38) = W0 at *
    refine (unhide HL).mono ?_
    rintro e w1 ⟨g, gw, rfl, hH, O, hg, hb⟩
    have HRR := hide ((unhide HR0).keep hb)
    have hgr : w.heap.size + 1 < g := by have := (unhide HR0).lt; omega
    have HB1 := hide ((unhide HB0).trans (hb.mono (unhide HB0).size))
    have HO1 := hide O
    have hgl := hH.lt
    have y0 := Box.at hH 0 _ rfl
    simp only [List.getElem_toArray, List.getElem_cons_zero] at y0
    have LC := hide (countC g _ _ _ x w1 hH)
    clear hb HL HB0 HR0 hH O hg
    go_wp2_with fail
    refine (unhide LC).mono ?_
    rintro e w9 ⟨rfl, h9⟩
    subst w9
    have LU := hide (isUpToC c (x.writes.length : Int) w1)
    clear LC
    go_wp2_with fail
    refine (unhide LU).mono ?_
    rintro e w9 ⟨rfl, h9⟩
    subst w9
    clear LU
    by_cases hc : 0 ≤ c ∧ c ≤ (x.writes.length : Int)
    · have hd2 : (decide (0 ≤ c) && decide (c ≤ (x.writes.length : Int))) = true := by simpa using hc
      rw [hd2]
      clear hd2
      obtain ⟨k, rfl⟩ : ∃ k : Nat, c = (k : Int) := ⟨c.toNat, by omega⟩
      have hk : k ≤ x.writes.length := by omega
      have HY : Hid (stateR x (k : Int) = ⟨0, ofI (x.writes.take k)⟩) := by show stateR x (k : Int) = _; rw [stateR, if_pos (unhide HF), if_pos hc, Int.toNat_natCast]
      have HT := hide (sl_take_own (unhide HO1) k hk)
      have HQ := implTOf _ (x.writes.take k) w1 (unhide HT).reads
      have hw0 : writesF (x.writes.take k) = 0 := by
        rw [writesF, if_neg (by rw [List.length_take]; omega)]
        exact wsFrom_all _ fun j hj => (unhide HOK).ws _ (List.mem_of_mem_take (List.getElem_mem _))
      rw [show tableOfR (x.writes.take k) = ⟨0, ofI (x.writes.take k)⟩ by rw [tableOfR, if_pos hw0]] at HQ
      have HO := hide HQ
      clear hc HQ hw0
      go_wp2_with fail
      refine (unhide HO).mono ?_
      rintro e w2 ⟨cs9, rfl, O9, hb⟩
      obtain ⟨a9, d9, rfl, -⟩ := open_TableResult O9.reads
      have bR := (unhide HRR).keep hb
      have hrl : w.heap.size + 1 < w1.heap.size := (unhide HRR).lt
      have z0 := Box.at bR 0 _ rfl
      have z1 := Box.at bR 1 _ rfl
      simp only [List.getElem_toArray, List.getElem_cons_zero, List.getElem_cons_succ] at z0 z1
      have ff := Box.soft bR
      have l0 := Box.lt bR
      have HBF := hide (below_setAll ((unhide HB1).trans (hb.mono (unhide HB1).size)) (w.heap.size + 1) 0 [.int .i64 0, .slice a9 (ofI (x.writes.take k)).length d9] (by omega))
      have HOF := hide (own_store' (s := w.heap.size + 1) (vs := [.int .i64 0, .slice a9 (ofI (x.writes.take k)).length d9]) O9 (by omega))
      have HZF := hide (size_setAll w2 (w.heap.size + 1) 0 [.int .i64 0, .slice a9 (ofI (x.writes.take k)).length d9])
      clear bR hb O9 HO HT HO1 HRR HB1
      generalize (ofI (x.writes.take k)).length = nn at *
      go_wp2_with fail
      refine bodyPost_ret (v := .agg #[.int .i64 0, .slice a9 nn d9]) (by simp [results, Tryz.results9, go_sem, z0, z1]) rfl ?_
      rw [unhide HY]
      exact ⟨[.int .i64 0, .slice a9 nn d9], rfl, (unhide HOF).mono (by omega) (Nat.le_of_eq (unhide HZF).symm), unhide HBF⟩
    · have hd2 : (decide (0 ≤ c) && decide (c ≤ (x.writes.length : Int))) = false := by
        by_cases h1 : 0 ≤ c
        · simp [h1]; omega
        · simp [h1]
      rw [hd2]
      clear hd2
      have HY : Hid (stateR x c = ⟨3, []⟩) := by show stateR x c = _; rw [stateR, if_pos (unhide HF), if_neg hc]
      have bR := unhide HRR
      have z0 := Box.at bR 0 _ rfl
      have z1 := Box.at bR 1 _ rfl
      simp only [List.getElem_toArray, List.getElem_cons_zero, List.getElem_cons_succ] at z0 z1
      have ff := Box.soft bR
      have l0 := Box.lt bR
      clear bR
      go_wp2_with fail
      refine bodyPost_ret (v := .agg #[.int .i64 3, .slice none 0 0]) (by simp [results, Tryz.results9, go_sem, z0, z1]) rfl ?_
      rw [unhide HY]
      have hB9 := below_setAll (unhide HB1) (w.heap.size + 1) 0 [.int .i64 3, .slice none 0 0] (by omega)
      exact ⟨[.int .i64 3, .slice none 0 0], rfl, own_codeItems (by decide), hB9⟩
  · have HL := hide (nodeOf_bad _ x _ (hN.later nb) hf)
    have hd : (nodeFault x != 0) = true := by simpa using hf
    have HY : Hid (stateR x c = ⟨nodeFault x, []⟩) := by show stateR x c = _; rw [stateR, if_neg hf]
    have HW := hide (nodeFault_wf x)
    have HB0 := hide nb
    have HR0 := hide bR
    clear h hN nb bX bR R4 hf
    generalize nodeFault x = cc at *
    go_enter Tryz.func9, Tryz.ntmps9
    go_wp2_with fail
    generalize (w.alloc (.cells #[.int .i64 x.id, .bool x.up, .int .i64 x.epoch, .int .i64 x.lease, .slice a4 x.writes.length d4, .int .i64 x.sure, .int .i64 x.clean] 26)).alloc (.cells #[.int .i64 0, .slice none 0 0] 38) = W0 at *
    refine (unhide HL).mono ?_
    rintro e w1 ⟨rfl, hb⟩
    have bR := (unhide HR0).keep hb
    have HB1 := hide ((unhide HB0).trans (hb.mono (unhide HB0).size))
    clear hb HL HB0 HR0
    have z0 := Box.at bR 0 _ rfl
    have z1 := Box.at bR 1 _ rfl
    simp only [List.getElem_toArray, List.getElem_cons_zero, List.getElem_cons_succ] at z0 z1
    have ff := Box.soft bR
    have l0 := Box.lt bR
    clear bR
    go_wp2_with fail
    refine bodyPost_ret (v := .agg #[.int .i64 cc, .slice none 0 0]) (by simp [results, Tryz.results9, go_sem, z0, z1]) rfl ?_
    rw [unhide HY]
    have hB9 := below_setAll (unhide HB1) (w.heap.size + 1) 0 [.int .i64 cc, .slice none 0 0] (by omega)
    exact ⟨[.int .i64 cc, .slice none 0 0], rfl, own_codeItems (unhide HW), hB9⟩

end Go.Proofs.YtbogjepkdcknfaaGreat

namespace Go.Proofs.YtbogjepkdcknfaaGreat
open Go.RowKit

theorem ne_at_slEqual {ps qs : List Int} {k : Nat} (h : ps.getD k 0 ≠ qs.getD k 0) : decide (ps = qs) = false := by
  simp only [decide_eq_false_iff_not]
  rintro rfl
  exact h rfl
theorem eq_all_slEqual {ps qs : List Int} (hl : ps.length = qs.length) (h : ∀ j, j < ps.length → ps.getD j 0 = qs.getD j 0) : decide (ps = qs) = true := by
  simp only [decide_eq_true_eq]
  refine List.ext_getElem hl fun j h1 h2 => ?_
  have := h j h1
  simpa [List.getD, h1, h2] using this

set_option maxHeartbeats 800000 in
theorem slEqual_pos (b off cap b2 off2 cap2 : Nat) (ps qs : List Int) (w : World) (hl : ps.length = qs.length) (hn : ps.length ≤ 9223372036854775807) (hc : ∀ j, j < ps.length → w.cell? ⟨b, off + j, none⟩ = some (.int .i64 (ps.getD j 0)))
    (hc2 : ∀ j, j < ps.length → w.cell? ⟨b2, off2 + j, none⟩ = some (.int .i64 (qs.getD j 0))) :
    Calls Tryz.prog 46 #[.slice (some ⟨b, off, none⟩) ps.length cap, .slice (some ⟨b2, off2, none⟩) ps.length cap2] w fun e w' => e = .returned (.bool (decide (ps = qs))) ∧ Below w.heap.size w w' := by
  have HL := hide hl
  clear hl
  go_enter Tryz.func46, Tryz.ntmps46
  go_wp2
  go_loopw [13] (fun i wr => ∃ k : Nat, k ≤ ps.length ∧ i = .int .i64 k ∧ Below w.heap.size w wr ∧ ∀ j, j < k → ps.getD j 0 = qs.getD j 0) (fun i _ => ps.length - (intOf i).toNat)
  case atStart => exact ⟨0, Nat.zero_le _, rfl, Below.refl _ _, fun j hj => by omega⟩
  case round =>
    obtain ⟨k, hk, rfl, hB, hq⟩ := hrel
    by_cases hlt : k < ps.length
    · have hcx : wr.cell? ⟨b, off + k, none⟩ = some (.int .i64 (ps.getD k 0)) := (hB.cell (World.block_lt_of_cell? _ _ (hc k hlt))).trans (hc k hlt)
      have hcy : wr.cell? ⟨b2, off2 + k, none⟩ = some (.int .i64 (qs.getD k 0)) := (hB.cell (World.block_lt_of_cell? _ _ (hc2 k hlt))).trans (hc2 k hlt)
      have HQ := hide hq
      have HB := hide hB
      clear hc hc2 hq hB
      by_cases he : ps.getD k 0 = qs.getD k 0
      · have HE := hide he
        rw [← he] at hcy
        clear he
        generalize ps.getD k 0 = x at hcx hcy
        have hxx : (x != x) = false := by simp
        go_wp2
        go_quiet (fail)
        go_wp2
        go_roundw
        case rel =>
          refine ⟨k + 1, by omega, by go_num, below_drewN (unhide HB) _, fun j hj => ?_⟩
          by_cases hjk : j < k
          · exact unhide HQ j hjk
          · obtain rfl : j = k := by omega
            exact unhide HE
        case measure => simp [intOf]; omega
      · have HN := hide (ne_at_slEqual he)
        have hxy : (ps.getD k 0 != qs.getD k 0) = true := by rw [bne_iff_ne]; exact he
        clear he
        generalize ps.getD k 0 = x at hcx hxy
        generalize qs.getD k 0 = y at hcy hxy
        go_wp2
        go_quiet (fail)
        go_wp2
        go_ret
        exact ⟨by rw [unhide HN]; rfl, below_drewN (unhide HB) _⟩
    · obtain rfl : k = ps.length := by omega
      have HN := hide (eq_all_slEqual (unhide HL) hq)
      have HB := hide hB
      clear hc hc2 hq hB
      go_wp2
      go_ret
      exact ⟨by rw [unhide HN]; rfl, unhide HB⟩
set_option maxHeartbeats 400000 in
theorem slEqual_len (ao ao2 : Option Addr) (n m cap cap2 : Nat) (w : World) (h : n ≠ m) :
    Calls Tryz.prog 46 #[.slice ao n cap, .slice ao2 m cap2] w fun e w' => e = .returned (.bool false) ∧ Below w.heap.size w w' := by
  have hd : ((n : Int) != (m : Int)) = true := by rw [bne_iff_ne]; omega
  go_enter Tryz.func46, Tryz.ntmps46
  go_wp2
  go_ret
  exact ⟨rfl, Below.refl _ _⟩
theorem slEqual_zero (ao ao2 : Option Addr) (cap cap2 : Nat) (w : World) :
    Calls Tryz.prog 46 #[.slice ao 0 cap, .slice ao2 0 cap2] w fun e w' => e = .returned (.bool true) ∧ Below w.heap.size w w' := by
  go_enter Tryz.func46, Tryz.ntmps46
  go_wp2
  refine wp_loop_rounds 1 ?_
  rw [rounds_succ]
  go_wp2
  go_ret
  exact ⟨rfl, Below.refl _ _⟩
/-- Whether two lists of numbers are the same. -/
theorem slEqual (v v2 : Value) (ps qs : List Int) (w : World) (h : IsInts w v ps) (h2 : IsInts w v2 qs) (hn : ps.length ≤ 9223372036854775807) :
    Calls Tryz.prog 46 #[v, v2] w fun e w' => e = .returned (.bool (decide (ps = qs))) ∧ Below w.heap.size w w' := by
  obtain ⟨ao, cap, rfl, hwf, hc⟩ := h
  obtain ⟨ao2, cap2, rfl, _, hc2⟩ := h2
  by_cases hl : ps.length = qs.length
  · by_cases hp : 0 < ps.length
    · obtain ⟨b, off, rfl, hc1⟩ := hc hp
      obtain ⟨b2, off2, rfl, hc3⟩ := hc2 (by omega)
      rw [← hl] at hc3 ⊢
      exact slEqual_pos b off cap b2 off2 cap2 ps qs w hl hn hc1 hc3
    · obtain rfl : ps = [] := List.eq_nil_of_length_eq_zero (by omega)
      obtain rfl : qs = [] := List.eq_nil_of_length_eq_zero (by simpa using hl.symm)
      exact slEqual_zero ao ao2 cap cap2 w
  · rw [show decide (ps = qs) = false by simp only [decide_eq_false_iff_not]; rintro rfl; exact hl rfl]
    exact slEqual_len ao ao2 _ _ cap cap2 w hl

end Go.Proofs.YtbogjepkdcknfaaGreat

namespace Go.Proofs.YtbogjepkdcknfaaGreat
open Go.RowKit

set_option maxRecDepth 10000 in
set_option maxHeartbeats 2000000 in
theorem sameItem (cs cs2 : List Value) (x y : DItem) (w : World) (h : Lay.tItem.Reads w cs x) (h2 : Lay.tItem.Reads w cs2 y) :
    Calls Tryz.prog 33 #[.agg cs.toArray, .agg cs2.toArray] w fun e w' => e = .returned (.bool (sameI x y)) ∧ Below w.heap.size w w' := by
  obtain ⟨a1, d1, rfl, R1⟩ := open_Item h
  obtain ⟨a1z, d1z, rfl, R1z⟩ := open_Item h2
  clear h h2
  have HB : Hid (Below w.heap.size w ((w.alloc (.cells #[.int .i64 x.id, .slice a1 x.vec.length d1] 69)).alloc (.cells #[.int .i64 y.id, .slice a1z y.vec.length d1z] 69))) := ((Below.refl _ _).alloc (Nat.le_refl _) _).alloc (by simp) _
  cases e0 : (x.id == y.id) with
  | false =>
    have HS : Hid (sameI x y = false) := by
      show sameI x y = false
      simp [sameI, e0]
    go_enter Tryz.func33, Tryz.ntmps33
    go_wp2_with fail
    go_ret
    exact ⟨by rw [unhide HS]; rfl, unhide HB⟩
  | true =>
    have HS : Hid (sameI x y = decide (x.vec = y.vec)) := by
      show sameI x y = decide (x.vec = y.vec)
      simp [sameI, e0]
    have L := hide (slEqual _ _ x.vec y.vec _ ((Lay.ints_reads R1).later (unhide HB)) ((Lay.ints_reads R1z).later (unhide HB)) R1.big)
    clear R1 R1z
    go_enter Tryz.func33, Tryz.ntmps33
    go_wp2_with fail
    refine (unhide L).mono ?_
    rintro e w1 ⟨rfl, hb⟩
    have HB1 := hide ((unhide HB).trans (hb.mono (unhide HB).size))
    clear hb L HB
    go_wp2_with fail
    go_ret
    exact ⟨by rw [unhide HS]; rfl, unhide HB1⟩

set_option maxRecDepth 10000 in
set_option maxHeartbeats 2000000 in
theorem equalFuncT_pos (b off cap b2 off2 cap2 : Nat) (xs ys : List DItem) (w : World) (hl : xs.length = ys.length) (h : (Lay.sl Lay.tItem).Reads w [.slice (some ⟨b, off, none⟩) xs.length cap] xs) (h2 : (Lay.sl Lay.tItem).Reads w [.slice (some ⟨b2, off2, none⟩) ys.length cap2] ys) (hbl : b < w.heap.size) (hbl2 : b2 < w.heap.size) :
    Calls Tryz.prog 32 #[.slice (some ⟨b, off, none⟩) xs.length cap, .slice (some ⟨b2, off2, none⟩) xs.length cap2, .func (.func 33) #[] #[]] w fun e w' => e = .returned (.bool (sameIs xs ys)) ∧ Below w.heap.size w w' := by
  have hbig := h.big
  have H := hide h
  have H2 := hide h2
  have HL := hide hl
  clear h h2 hl
  go_enter Tryz.func32, Tryz.ntmps32
  go_wp2_with fail
  go_loopw [17] (fun i wr => ∃ k : Nat, k ≤ xs.length ∧ i = .int .i64 k ∧ (∀ j (h1 : j < xs.length) (h2 : j < ys.length), j < k → sameI xs[j] ys[j] = true) ∧ Below w.heap.size w wr) (fun i _ => xs.length - (intOf i).toNat)
  case atStart => exact ⟨0, Nat.zero_le _, rfl, fun j _ _ hj => by omega, Below.refl _ _⟩
  case round =>
    obtain ⟨k, hk, rfl, hq, hB⟩ := hrel
    by_cases hlt : k < xs.length
    · have hlt2 : k < ys.length := by have := unhide HL; omega
      obtain ⟨row, hc, hr⟩ := Lay.row_at (unhide H) hlt
      obtain ⟨rowz, hcz, hrz⟩ := Lay.row_at (unhide H2) hlt2
      replace hr := hr.later hB
      replace hrz := hrz.later hB
      have hr2 := hr
      obtain ⟨a1, d1, rfl, -⟩ := open_Item hr2
      have hrz2 := hrz
      obtain ⟨a1z, d1z, rfl, -⟩ := open_Item hrz2
      have c0 : wr.cell? ⟨b, off + k * 2, none⟩ = some (.int .i64 (xs[k]).id) := (hB.cell (p := ⟨b, off + k * 2, none⟩) hbl).trans (hc 0 (by decide))
      have c1 : wr.cell? ⟨b, off + k * 2 + 1, none⟩ = some (.slice a1 (xs[k]).vec.length d1) := (hB.cell (p := ⟨b, off + k * 2 + 1, none⟩) hbl).trans (hc 1 (by decide))
      have c0z : wr.cell? ⟨b2, off2 + k * 2, none⟩ = some (.int .i64 (ys[k]).id) := (hB.cell (p := ⟨b2, off2 + k * 2, none⟩) hbl2).trans (hcz 0 (by decide))
      have c1z : wr.cell? ⟨b2, off2 + k * 2 + 1, none⟩ = some (.slice a1z (ys[k]).vec.length d1z) := (hB.cell (p := ⟨b2, off2 + k * 2 + 1, none⟩) hbl2).trans (hcz 1 (by decide))
      have l1 : b < wr.heap.size := Nat.lt_of_lt_of_le hbl hB.size
      have l2 : b2 < wr.heap.size := Nat.lt_of_lt_of_le hbl2 hB.size
      have HQ := hide hq
      have HB := hide hB
      have HR := hide hr
      have HRZ := hide hrz
      have HX : Hid (sameI xs[k] ys[k] = false → sameIs xs ys = false) := sameIs_at k hlt hlt2
      have HY : Hid (sameI xs[k] ys[k] = true → ∀ j (h1 : j < xs.length) (h2 : j < ys.length), j < k + 1 → sameI xs[j] ys[j] = true) := by
        intro h j h1 h2 hj
        by_cases hjk : j < k
        · exact unhide HQ j h1 h2 hjk
        · obtain rfl : j = k := by omega
          exact h
      clear hq hB hr hrz hc hcz HQ
      generalize hx : xs[k] = x at *
      generalize hy : ys[k] = y at *
      clear hx hy
      have nb : Below wr.heap.size wr ((wr.alloc (.cells #[.int .i64 x.id, .slice a1 x.vec.length d1] 69)).alloc (.cells #[.int .i64 y.id, .slice a1z y.vec.length d1z] 69)) := ((Below.refl _ _).alloc (Nat.le_refl _) _).alloc (by simp) _
      have L := hide (sameItem _ _ x y _ ((unhide HR).later nb) ((unhide HRZ).later nb))
      replace HB := hide ((unhide HB).trans (nb.mono (unhide HB).size))
      clear nb HR HRZ
      go_wp2_with fail
      refine (unhide L).mono ?_
      rintro e w3 ⟨rfl, hb⟩
      replace HB := hide ((unhide HB).trans (hb.mono (unhide HB).size))
      clear hb L c0 c1 c0z c1z
      cases hs : sameI x y with
      | true =>
        have HZ := hide (unhide HY hs)
        clear hs HX HY
        go_wp2_with fail
        go_roundw
        case rel => exact ⟨k + 1, by omega, by go_num, unhide HZ, unhide HB⟩
        case measure => simp [intOf]; omega
      | false =>
        have HZ := hide (unhide HX hs)
        clear hs HX HY
        go_wp2_with fail
        go_ret
        exact ⟨by rw [unhide HZ]; rfl, unhide HB⟩
    · have HZ := hide (sameIs_all (unhide HL) fun j h1 h2 => hq j h1 h2 (by omega))
      have HB := hide hB
      clear hq hB
      go_wp2_with fail
      go_ret
      exact ⟨by rw [unhide HZ]; rfl, unhide HB⟩

theorem equalFuncT_len (ao ao2 : Option Addr) (n m cap cap2 : Nat) (f : Value) (w : World) (h : n ≠ m) :
    Calls Tryz.prog 32 #[.slice ao n cap, .slice ao2 m cap2, f] w fun e w' => e = .returned (.bool false) ∧ Below w.heap.size w w' := by
  have hd : ((n : Int) != (m : Int)) = true := by rw [bne_iff_ne]; omega
  go_enter Tryz.func32, Tryz.ntmps32
  go_wp2_with fail
  go_ret
  exact ⟨rfl, Below.refl _ _⟩
theorem equalFuncT_zero (ao ao2 : Option Addr) (cap cap2 : Nat) (f : Value) (w : World) :
    Calls Tryz.prog 32 #[.slice ao 0 cap, .slice ao2 0 cap2, f] w fun e w' => e = .returned (.bool true) ∧ Below w.heap.size w w' := by
  go_enter Tryz.func32, Tryz.ntmps32
  go_wp2_with fail
  refine wp_loop_rounds 1 ?_
  rw [rounds_succ]
  go_wp2_with fail
  go_ret
  exact ⟨rfl, Below.refl _ _⟩

/-- SameTables of the program. -/
theorem implSameT (v v2 : Value) (xs ys : List DItem) (w : World) (h : (Lay.sl Lay.tItem).Reads w [v] xs) (h2 : (Lay.sl Lay.tItem).Reads w [v2] ys) :
    Calls Tryz.prog 11 #[v, v2] w fun e w' => e = .returned (.bool (sameIs xs ys)) ∧ Below w.heap.size w w' := by
  obtain ⟨ao, cap, rfl⟩ := open_sl h
  obtain ⟨ao2, cap2, rfl⟩ := open_sl h2
  have L : Hid (Calls Tryz.prog 32 #[.slice ao xs.length cap, .slice ao2 ys.length cap2, .func (.func 33) #[] #[]] w fun e w' => e = .returned (.bool (sameIs xs ys)) ∧ Below w.heap.size w w') := by
    show Calls Tryz.prog 32 #[.slice ao xs.length cap, .slice ao2 ys.length cap2, .func (.func 33) #[] #[]] w fun e w' => e = .returned (.bool (sameIs xs ys)) ∧ Below w.heap.size w w'
    by_cases hl : xs.length = ys.length
    · by_cases hp : 0 < xs.length
      · obtain ⟨b, off, rfl, hbl⟩ := Lay.sl_addr h hp
        obtain ⟨b2, off2, rfl, hbl2⟩ := Lay.sl_addr h2 (by omega)
        rw [← hl]
        exact equalFuncT_pos b off cap b2 off2 cap2 xs ys w hl h (by rw [← hl] at h2 ⊢; exact h2) hbl hbl2
      · obtain rfl : xs = [] := List.eq_nil_of_length_eq_zero (by omega)
        obtain rfl : ys = [] := List.eq_nil_of_length_eq_zero (by simpa using hl.symm)
        exact equalFuncT_zero ao ao2 cap cap2 _ w
    · rw [sameIs_len hl]
      exact equalFuncT_len ao ao2 _ _ cap cap2 _ w hl
  clear h h2
  go_enter Tryz.func11, Tryz.ntmps11
  go_wp2_with fail
  refine (unhide L).mono ?_
  rintro e w1 ⟨rfl, hb⟩
  have HB := hide hb
  clear hb L
  go_wp2_with fail
  go_ret
  exact ⟨rfl, unhide HB⟩

end Go.Proofs.YtbogjepkdcknfaaGreat

namespace Go.Proofs.YtbogjepkdcknfaaGreat
open Go.RowKit

theorem fieldNR0 (c0 n0 i0 : Int) (u0 : Bool) (e0 l0 : Int) (a0 : Option Addr) (m0 d0 : Nat) (s0 k0 : Int) (w : World) : (Instr.field 30 (.agg #[.int .i64 c0, .int .i64 n0, .int .i64 i0, .bool u0, .int .i64 e0, .int .i64 l0, .slice a0 m0 d0, .int .i64 s0, .int .i64 k0]) 0).run Tryz.prog w = .ok (.int .i64 c0) w := by kernel_rfl
theorem fieldTR9 (c : Int) (a : Option Addr) (n cp : Nat) (w : World) : (Instr.field 38 (.agg #[.int .i64 c, .slice a n cp]) 1).run Tryz.prog w = .ok (.slice a n cp) w := by kernel_rfl
theorem sl_prefix9 {α : Type} {A : Lay α} {w : World} {xs : List α} {ao : Option Addr} {cap k : Nat} (h : (Lay.sl A).Reads w [.slice ao xs.length cap] xs) (hk : k ≤ xs.length) : (Lay.sl A).Reads w [.slice ao k cap] (xs.take k) := by
  obtain ⟨bl, ao', cp, e, ⟨h1, h2⟩, h⟩ := h
  simp only [List.cons.injEq, Value.slice.injEq, and_true] at e
  obtain ⟨rfl, -, rfl⟩ := e
  have hl : (xs.take k).length = k := by simp; omega
  rcases h with ⟨rfl, -⟩ | ⟨b, off, rows, bls, rfl, hb, -, hr, hbl, hj⟩
  · obtain rfl : k = 0 := by simpa using hk
    exact ⟨[], ao, cap, by simp, by simp, Or.inl ⟨by simp, rfl⟩⟩
  · refine ⟨_, _, cap, by rw [hl], ⟨by omega, by omega⟩, Or.inr ⟨b, off, rows.take k, bls.take k, rfl, hb, rfl, by simp [hr], by simp [hbl], fun j h1 h2 h3 => ?_⟩⟩
    have := hj j (by rw [hl] at h1; omega) (by simp at h2; omega) (by simp at h3; omega)
    simpa using this

theorem lawCleans_many (ao : Option Addr) (len cap : Nat) (w : World) (hn : 1048576 < len) :
    Calls Tryz.prog 3 #[.slice ao len cap] w fun e w' => e = .returned (.bool true) ∧ Below w.heap.size w w' := by
  go_enter Tryz.func3, Tryz.ntmps3
  go_wp2_with fail
  refine (big_yes ao len cap w hn).mono ?_
  rintro e w' ⟨rfl, rfl⟩
  go_wp2_with fail
  go_ret
  exact ⟨rfl, Below.refl _ _⟩

set_option maxRecDepth 100000 in
set_option maxHeartbeats 8000000 in
theorem lawCleans_few (ao : Option Addr) (len cap : Nat) (w : World) (hn : len ≤ 1048576) (hcode : IsCode w.heap.size w (.slice ao len cap)) :
    Calls Tryz.prog 3 #[.slice ao len cap] w fun e w' => e = .returned (.bool true) ∧ Below w.heap.size w w' := by
  have HC := hide hcode
  clear hcode
  go_enter Tryz.func3, Tryz.ntmps3
  go_wp2_with fail
  refine (big_no ao len cap w hn).mono ?_
  rintro e w ⟨rfl, rfl⟩
  go_wp2_with fail
  refine (drawClean ao len cap w (unhide HC)).mono ?_
  rintro e w1 ⟨cs, x, i, rfl, hX, hlen, hib, hb1⟩
  obtain ⟨a8, c8, rfl, hW⟩ := open_Node hX
  have nb1 : Below w1.heap.size w1 (w1.alloc (.cells #[.int .i64 x.id, .bool x.up, .int .i64 x.epoch, .int .i64 x.lease, .slice a8 x.writes.length c8, .int .i64 x.sure, .int .i64 x.clean] 26)) := (Below.refl _ _).alloc (Nat.le_refl _) _
  have HX3 : Hid (Box 0 #[.int .i64 x.id, .bool x.up, .int .i64 x.epoch, .int .i64 x.lease, .slice a8 x.writes.length c8, .int .i64 x.sure, .int .i64 x.clean] 26 (w1.alloc (.cells #[.int .i64 x.id, .bool x.up, .int .i64 x.epoch, .int .i64 x.lease, .slice a8 x.writes.length c8, .int .i64 x.sure, .int .i64 x.clean] 26)) w1.heap.size) := newBox (Nat.zero_le _)
  have z0 : (w1.alloc (.cells #[.int .i64 x.id, .bool x.up, .int .i64 x.epoch, .int .i64 x.lease, .slice a8 x.writes.length c8, .int .i64 x.sure, .int .i64 x.clean] 26)).cell? ⟨w1.heap.size, 0, none⟩ = some (.int .i64 x.id) := (unhide HX3).at 0 _ rfl
  have z1 : (w1.alloc (.cells #[.int .i64 x.id, .bool x.up, .int .i64 x.epoch, .int .i64 x.lease, .slice a8 x.writes.length c8, .int .i64 x.sure, .int .i64 x.clean] 26)).cell? ⟨w1.heap.size, 1, none⟩ = some (.bool x.up) := (unhide HX3).at 1 _ rfl
  have z2 : (w1.alloc (.cells #[.int .i64 x.id, .bool x.up, .int .i64 x.epoch, .int .i64 x.lease, .slice a8 x.writes.length c8, .int .i64 x.sure, .int .i64 x.clean] 26)).cell? ⟨w1.heap.size, 2, none⟩ = some (.int .i64 x.epoch) := (unhide HX3).at 2 _ rfl
  have z3 : (w1.alloc (.cells #[.int .i64 x.id, .bool x.up, .int .i64 x.epoch, .int .i64 x.lease, .slice a8 x.writes.length c8, .int .i64 x.sure, .int .i64 x.clean] 26)).cell? ⟨w1.heap.size, 3, none⟩ = some (.int .i64 x.lease) := (unhide HX3).at 3 _ rfl
  have z4 : (w1.alloc (.cells #[.int .i64 x.id, .bool x.up, .int .i64 x.epoch, .int .i64 x.lease, .slice a8 x.writes.length c8, .int .i64 x.sure, .int .i64 x.clean] 26)).cell? ⟨w1.heap.size, 4, none⟩ = some (.slice a8 x.writes.length c8) := (unhide HX3).at 4 _ rfl
  have z5 : (w1.alloc (.cells #[.int .i64 x.id, .bool x.up, .int .i64 x.epoch, .int .i64 x.lease, .slice a8 x.writes.length c8, .int .i64 x.sure, .int .i64 x.clean] 26)).cell? ⟨w1.heap.size, 5, none⟩ = some (.int .i64 x.sure) := (unhide HX3).at 5 _ rfl
  have z6 : (w1.alloc (.cells #[.int .i64 x.id, .bool x.up, .int .i64 x.epoch, .int .i64 x.lease, .slice a8 x.writes.length c8, .int .i64 x.sure, .int .i64 x.clean] 26)).cell? ⟨w1.heap.size, 6, none⟩ = some (.int .i64 x.clean) := (unhide HX3).at 6 _ rfl
  have HRX := hide (hX.later nb1)
  have HRW := hide (hW.later nb1)
  have HB := hide (hb1.trans (nb1.mono hb1.size))
  have L2 := hide (implCleanNode _ x i _ (unhide HRX))
  clear hX hW hb1 nb1 HC
  go_wp2_with fail
  generalize w1.alloc (.cells #[.int .i64 x.id, .bool x.up, .int .i64 x.epoch, .int .i64 x.lease, .slice a8 x.writes.length c8, .int .i64 x.sure, .int .i64 x.clean] 26) = W1 at *
  clear z0 z1 z2 z3 z4 z5 z6
  refine (unhide L2).mono ?_
  rintro e w2 ⟨cs, rfl, O, hb2⟩
  obtain ⟨a2, d2, rfl, R2⟩ := open_NodeResult O.reads
  clear O L2
  by_cases hf : (cleanR x i).code = 0
  · obtain ⟨c, K⟩ := cleans_plain hf
    rw [K.eq] at R2 ⊢
    replace R2 : Lay.tNode.Reads w2 [.int .i64 x.id, .bool x.up, .int .i64 x.epoch, .int .i64 x.lease, .slice a2 x.writes.length d2, .int .i64 x.sure, .int .i64 (c : Int)] (withClean x c) := R2
    simp only [withClean] at ⊢
    have hcl := K.le
    have hc40 := K.len
    have HK := hide K
    clear K hf
    have nb2 : Below w2.heap.size w2 (w2.alloc (.cells #[.int .i64 0, .int .i64 0, .int .i64 x.id, .bool x.up, .int .i64 x.epoch, .int .i64 x.lease, .slice a2 x.writes.length d2, .int .i64 x.sure, .int .i64 (c : Int)] 30)) := (Below.refl _ _).alloc (Nat.le_refl _) _
    have HB2 : Hid (Box 0 #[.int .i64 0, .int .i64 0, .int .i64 x.id, .bool x.up, .int .i64 x.epoch, .int .i64 x.lease, .slice a2 x.writes.length d2, .int .i64 x.sure, .int .i64 (c : Int)] 30 (w2.alloc (.cells #[.int .i64 0, .int .i64 0, .int .i64 x.id, .bool x.up, .int .i64 x.epoch, .int .i64 x.lease, .slice a2 x.writes.length d2, .int .i64 x.sure, .int .i64 (c : Int)] 30)) w2.heap.size) := newBox (Nat.zero_le _)
    replace HX3 := hide (((unhide HX3).keep hb2).keep nb2)
    replace HRX := hide (((unhide HRX).later hb2).later nb2)
    replace HRW := hide (((unhide HRW).later hb2).later nb2)
    have HR2 := hide (R2.later nb2)
    replace HB := hide (((unhide HB).trans (hb2.mono (unhide HB).size)).trans (nb2.mono (Nat.le_trans (unhide HB).size hb2.size)))
    have z0 : (w2.alloc (.cells #[.int .i64 0, .int .i64 0, .int .i64 x.id, .bool x.up, .int .i64 x.epoch, .int .i64 x.lease, .slice a2 x.writes.length d2, .int .i64 x.sure, .int .i64 (c : Int)] 30)).cell? ⟨w2.heap.size, 0, none⟩ = some (.int .i64 0) := (unhide HB2).at 0 _ rfl
    clear R2 nb2 hb2
    go_wp2_with fail
    clear z0
    generalize w2.alloc (.cells #[.int .i64 0, .int .i64 0, .int .i64 x.id, .bool x.up, .int .i64 x.epoch, .int .i64 x.lease, .slice a2 x.writes.length d2, .int .i64 x.sure, .int .i64 (c : Int)] 30) = wz at *
    have KEEP : Hid (∀ W, Below wz.heap.size wz W → W.cell? ⟨w1.heap.size, 0, none⟩ = some (.int .i64 x.id) ∧ W.cell? ⟨w1.heap.size, 1, none⟩ = some (.bool x.up) ∧ W.cell? ⟨w1.heap.size, 2, none⟩ = some (.int .i64 x.epoch) ∧ W.cell? ⟨w1.heap.size, 3, none⟩ = some (.int .i64 x.lease) ∧ W.cell? ⟨w1.heap.size, 4, none⟩ = some (.slice a8 x.writes.length c8) ∧ W.cell? ⟨w1.heap.size, 5, none⟩ = some (.int .i64 x.sure) ∧ W.cell? ⟨w1.heap.size, 6, none⟩ = some (.int .i64 x.clean) ∧ W.cell? ⟨w2.heap.size, 0, none⟩ = some (.int .i64 0) ∧ W.cell? ⟨w2.heap.size, 1, none⟩ = some (.int .i64 0) ∧ W.cell? ⟨w2.heap.size, 2, none⟩ = some (.int .i64 x.id) ∧ W.cell? ⟨w2.heap.size, 3, none⟩ = some (.bool x.up) ∧ W.cell? ⟨w2.heap.size, 4, none⟩ = some (.int .i64 x.epoch) ∧ W.cell? ⟨w2.heap.size, 5, none⟩ = some (.int .i64 x.lease) ∧ W.cell? ⟨w2.heap.size, 6, none⟩ = some (.slice a2 x.writes.length d2) ∧ W.cell? ⟨w2.heap.size, 7, none⟩ = some (.int .i64 x.sure) ∧ W.cell? ⟨w2.heap.size, 8, none⟩ = some (.int .i64 (c : Int))) := fun W hW =>
      ⟨((unhide HX3).keep hW).at 0 _ rfl, ((unhide HX3).keep hW).at 1 _ rfl, ((unhide HX3).keep hW).at 2 _ rfl, ((unhide HX3).keep hW).at 3 _ rfl, ((unhide HX3).keep hW).at 4 _ rfl, ((unhide HX3).keep hW).at 5 _ rfl, ((unhide HX3).keep hW).at 6 _ rfl, ((unhide HB2).keep hW).at 0 _ rfl, ((unhide HB2).keep hW).at 1 _ rfl, ((unhide HB2).keep hW).at 2 _ rfl, ((unhide HB2).keep hW).at 3 _ rfl, ((unhide HB2).keep hW).at 4 _ rfl, ((unhide HB2).keep hW).at 5 _ rfl, ((unhide HB2).keep hW).at 6 _ rfl, ((unhide HB2).keep hW).at 7 _ rfl, ((unhide HB2).keep hW).at 8 _ rfl⟩
    have hlt1 : w1.heap.size < wz.heap.size := (unhide HX3).lt
    have hlt2 : w2.heap.size < wz.heap.size := (unhide HB2).lt
    go_loopw [6] (fun v6 wr => ∃ j : Nat, 1 ≤ j ∧ j ≤ 8 ∧ v6 = .int .i64 j ∧ Below wz.heap.size wz wr) (fun v6 _ => 8 - (intOf v6).toNat)
    case atStart => exact ⟨1, by omega, by omega, rfl, Below.refl _ _⟩
    case round =>
    obtain ⟨j, hj1, hj8, rfl, hBr⟩ := hrel
    by_cases hlt : j < 8
    · have HBR := hide hBr
      have hdl : decide ((j : Int) < 8) = true := by simp; omega
      obtain ⟨-, -, -, -, -, -, -, -, -, -, -, -, -, -, -, y8⟩ := unhide KEEP _ (unhide HBR)
      clear hBr
      go_wp2_with fail
      clear y8
      obtain ⟨wo, hwo⟩ : ∃ wo, wo = wr := ⟨_, rfl⟩
      subst hwo
      go_loopw [7, 8] (fun d i wy => ∃ q : Nat, c ≤ q ∧ q ≤ x.writes.length ∧ i = .int .i64 q ∧ d = .bool (dirtTo x.writes c q (j : Int)) ∧ Below wz.heap.size wz wy) (fun _ i _ => x.writes.length - (intOf i).toNat)
      case atStart => exact ⟨c, Nat.le_refl _, hcl, rfl, by rw [dirtTo_start], unhide HBR⟩
      case round =>
      obtain ⟨q, hcq, hql, rfl, rfl, hBy⟩ := hrel
      have HBY := hide hBy
      clear hBy HBR
      by_cases hq : q < x.writes.length
      · obtain ⟨b, off, rfl, hbl⟩ := Lay.sl_addr (unhide HRW) (by omega)
        obtain ⟨row, hc2, hr⟩ := Lay.row_at (unhide HRW) hq
        obtain ⟨a7, d7, rfl, -⟩ := open_Write hr
        have c1 : wr.cell? ⟨b, off + q * 5 + 1, none⟩ = some (.int .i64 (x.writes[q]).id) := ((unhide HBY).cell (p := ⟨b, off + q * 5 + 1, none⟩) hbl).trans (hc2 1 (by decide))
        have HST := hide (dirtTo_step x.writes c q (j : Int) hcq hq)
        have hdq : decide ((q : Int) < (x.writes.length : Int)) = true := by simp; omega
        obtain ⟨-, -, -, -, x4, -, -, -, -, -, -, -, -, -, -, -⟩ := unhide KEEP _ (unhide HBY)
        clear hc2 hr
        generalize (x.writes[q]).id = yid at *
        cases hBB : dirtTo x.writes c q (j : Int) with
        | true =>
          have HV : Hid (true = dirtTo x.writes c (q + 1) (j : Int)) := by
            show true = dirtTo x.writes c (q + 1) (j : Int)
            rw [unhide HST, hBB]
            rfl
          clear hBB HST
          go_wp2_with fail
          go_roundw
          case rel => exact ⟨q + 1, by omega, by omega, by go_num, congrArg Value.bool (unhide HV), unhide HBY⟩
          case measure => simp [intOf]; omega
        | false =>
          have HV : Hid ((yid == (j : Int)) = dirtTo x.writes c (q + 1) (j : Int)) := by
            show (yid == (j : Int)) = dirtTo x.writes c (q + 1) (j : Int)
            rw [unhide HST, hBB]
            rfl
          clear hBB HST
          go_wp2_with fail
          go_roundw
          case rel => exact ⟨q + 1, by omega, by omega, by go_num, congrArg Value.bool (unhide HV), unhide HBY⟩
          case measure => simp [intOf]; omega
      · obtain rfl : q = x.writes.length := by omega
        rw [dirtTo_end]
        have LD := implDirtyIn _ (withClean x c) (j : Int) wr ((unhide HR2).later (unhide HBY))
        rw [(unhide HK).dirty] at LD
        have HLD := hide LD
        clear LD
        generalize ((x.writes.drop c).any fun y => y.id == (j : Int)) = B at *
        have hbb : (B != B) = false := by simp
        have hdq : decide ((x.writes.length : Int) < (x.writes.length : Int)) = false := by simp
        obtain ⟨-, -, -, -, x4, -, -, -, -, y2, y3, y4, y5, y6, y7, y8⟩ := unhide KEEP _ (unhide HBY)
        go_wp2_with fail
        refine (unhide HLD).mono ?_
        rintro e w3 ⟨rfl, hb3⟩
        have HB3 := hide ((unhide HBY).trans (hb3.mono (unhide HBY).size))
        clear hb3 HLD x4 y2 y3 y4 y5 y6 y7 y8
        go_wp2_with fail
        go_roundw
        case rel => exact ⟨j + 1, by omega, by omega, by go_num, unhide HB3⟩
        case measure => simp [intOf]; omega
    · obtain rfl : j = 8 := by omega
      have HBR := hide hBr
      have LS := implStateAt _ (withClean x c) (c : Int) wr ((unhide HR2).later hBr)
      rw [(unhide HK).state] at LS
      have HLS := hide LS
      obtain ⟨-, -, -, -, -, -, -, -, -, y2, y3, y4, y5, y6, y7, y8⟩ := unhide KEEP _ hBr
      clear hBr LS
      go_wp2_with fail
      refine (unhide HLS).mono ?_
      rintro e w5 ⟨cs, rfl, O, hb5⟩
      obtain ⟨a5, d5, rfl, R5⟩ := open_TableResult O.reads
      simp only at R5 ⊢
      clear O HLS y2 y3 y4 y5 y6 y7 y8
      have nb5 : Below w5.heap.size w5 (w5.alloc (.cells #[.int .i64 0, .slice a5 (ofI (x.writes.take c)).length d5] 38)) := (Below.refl _ _).alloc (Nat.le_refl _) _
      have HB5 : Hid (Box 0 #[.int .i64 0, .slice a5 (ofI (x.writes.take c)).length d5] 38 (w5.alloc (.cells #[.int .i64 0, .slice a5 (ofI (x.writes.take c)).length d5] 38)) w5.heap.size) := newBox (Nat.zero_le _)
      have hbz := (unhide HBR).trans (hb5.mono (unhide HBR).size)
      have HBz := hide (hbz.trans (nb5.mono hbz.size))
      have HR5 := hide (R5.later nb5)
      clear nb5 hbz hb5 R5 HBR
      go_wp2_with fail
      generalize w5.alloc (.cells #[.int .i64 0, .slice a5 (ofI (x.writes.take c)).length d5] 38) = wq at *
      have KEEP2 : Hid (∀ W, Below wq.heap.size wq W → W.cell? ⟨w5.heap.size, 0, none⟩ = some (.int .i64 0) ∧ W.cell? ⟨w5.heap.size, 1, none⟩ = some (.slice a5 (ofI (x.writes.take c)).length d5)) := fun W hW => ⟨((unhide HB5).keep hW).at 0 _ rfl, ((unhide HB5).keep hW).at 1 _ rfl⟩
      have HUP : Hid (∀ W, Below wq.heap.size wq W → Below wz.heap.size wz W) := fun W hW => (unhide HBz).trans (hW.mono (unhide HBz).size)
      have LF : Hid (∀ W, Below wq.heap.size wq W → Calls Tryz.prog 10 #[.agg #[.int .i64 x.id, .bool x.up, .int .i64 x.epoch, .int .i64 x.lease, .slice a2 x.writes.length d2, .int .i64 x.sure, .int .i64 (c : Int)]] W fun e w' => e = .returned (.int .i64 0) ∧ Below W.heap.size W w') := fun W hW => by
        have h9 := implNodeFault _ (withClean x c) W ((unhide HR2).later (unhide HUP W hW))
        rwa [(unhide HK).ok] at h9
      have LT : Hid (∀ W, Below wq.heap.size wq W → Calls Tryz.prog 12 #[.slice a8 c c8] W fun e w' => ∃ a9 d9, e = .returned (.agg #[.int .i64 0, .slice a9 (ofI (x.writes.take c)).length d9]) ∧ (Lay.sl Lay.tItem).Reads w' [.slice a9 (ofI (x.writes.take c)).length d9] (ofI (x.writes.take c)) ∧ Below W.heap.size W w') := fun W hW => by
        have h9 := implTOf _ (x.writes.take c) W (sl_prefix9 ((unhide HRW).later (unhide HUP W hW)) hcl)
        rw [(unhide HK).table] at h9
        refine h9.mono ?_
        rintro e w' ⟨cs, rfl, O, hb⟩
        obtain ⟨a9, d9, rfl, R9⟩ := open_TableResult O.reads
        exact ⟨a9, d9, rfl, R9, hb⟩
      have LM : Hid (∀ W a9 d9, Below wq.heap.size wq W → (Lay.sl Lay.tItem).Reads W [.slice a9 (ofI (x.writes.take c)).length d9] (ofI (x.writes.take c)) → Calls Tryz.prog 11 #[.slice a5 (ofI (x.writes.take c)).length d5, .slice a9 (ofI (x.writes.take c)).length d9] W fun e w' => e = .returned (.bool true) ∧ Below W.heap.size W w') := fun W a9 d9 hW h9 => by
        have h8 := implSameT _ _ (ofI (x.writes.take c)) (ofI (x.writes.take c)) W ((unhide HR5).later hW) h9
        rwa [sameIs_self9] at h8
      have hcap : x.writes.length ≤ c8 := (unhide HRW).cap.2
      have i0 : c ≤ c8 := by omega
      have i1 : decide (x.clean ≤ (c : Int)) = true := by simpa using (unhide HK).lo
      have i2 : decide ((c : Int) ≤ x.sure) = true := by simpa using (unhide HK).hi
      have e0 : ((0 : Int) == 0) = true := by decide
      have hf1 := fun a n cp w => fieldTR9 0 a n cp w
      generalize ofI (x.writes.take c) = ts at *
      clear HX3 HB2 HB5 HRX HRW HR2 HR5 HK hlt1 hlt2 hcap
      refine wp_region_noPanic ?_
      refine wp_region_held_drew (S := fun w' => Below wq.heap.size wq w') (by kernel_rfl) (Below.refl _ _).drew (fun hHeld => ?_)
      generalize wq.drew = wD at hHeld ⊢
      refine wpAnyH_take (i := 0) (oi := { dst := some 67, op := Go.Op.fieldAddr 30 (Go.Operand.tmp 5) 2, type := 0, pos := "laws.go:426", after := #[], guard := none }) (v := ?vp0_1) rfl (by kernel_rfl) (by kernel_rfl) (by kernel_rfl) (fun _ _ _ h => h) (Or.inl ⟨by rfl, ?hp0_1⟩) hHeld ?rp0_1
      case hp0_1 =>
        intro wS hSw
        (try dsimp only at hSw)
        go_simp
        try with_reducible rfl
      case rp0_1 =>
      simp only [Act.put, List.setIfInBounds_toArray, List.set_cons_zero, List.set_cons_succ]
      refine wpAnyH_take (i := 1) (oi := { dst := some 68, op := Go.Op.load 26 (Go.Operand.tmp 67), type := 26, pos := "laws.go:426", after := #[{ on := 0, ground := Go.Ground.data }], guard := none }) (v := ?vp1_2) rfl (by kernel_rfl) (by kernel_rfl) (by kernel_rfl) (fun _ _ _ h => h) (Or.inl ⟨by rfl, ?hp1_2⟩) hHeld ?rp1_2
      case hp1_2 =>
        intro wS hSw
        obtain ⟨x0, x1, x2, x3, x4, x5, x6, y0, y1, y2, y3, y4, y5, y6, y7, y8⟩ := unhide KEEP _ (unhide HUP _ hSw)
        obtain ⟨t0, t1⟩ := unhide KEEP2 _ hSw
        clear hSw
        (try dsimp only at hSw)
        go_simp
        try with_reducible rfl
      case rp1_2 =>
      simp only [Act.put, List.setIfInBounds_toArray, List.set_cons_zero, List.set_cons_succ]
      refine wpAnyH_ready (rs := [2]) (by kernel_rfl) (by simp) ?_
      refine AllReadyH.cons (o := { dst := some 69, op := Go.Op.call { callee := Go.Callee.value (Go.Operand.func 10), args := #[Go.Operand.tmp 68], argTypes := #[26] }, type := 2, pos := "laws.go:426", after := #[{ on := 1, ground := Go.Ground.data }], guard := none }) rfl (fun K hK => ?_) AllReadyH.nil
      go_simp
      go_at_call 10
      refine (unhide LF _ hHeld).mono ?_
      rintro e v1 ⟨rfl, hbw⟩
      try go_wp2_with fail
      refine hK.out _ _ (hHeld.trans (hbw.mono hHeld.size)) (fun hHeld => ?_)
      clear hK K
      try simp only [Act.put, List.setIfInBounds_toArray, List.set_cons_zero, List.set_cons_succ]
      refine wpAnyH_take (i := 3) (oi := { dst := some 70, op := Go.Op.binOp Go.BinOp.eql 2 (Go.Operand.tmp 69) (Go.Operand.const (Go.Value.int Go.IntKind.i64 0)) 2, type := 4, pos := "laws.go:426", after := #[{ on := 2, ground := Go.Ground.data }], guard := none }) (v := ?vp3_3) rfl (by kernel_rfl) (by kernel_rfl) (by kernel_rfl) (fun _ _ _ h => h) (Or.inl ⟨by rfl, ?hp3_3⟩) hHeld ?rp3_3
      case hp3_3 =>
        intro wS hSw
        (try dsimp only at hSw)
        go_simp
        try with_reducible rfl
      case rp3_3 =>
      simp only [Act.put, List.setIfInBounds_toArray, List.set_cons_zero, List.set_cons_succ]
      refine wpAnyH_take (i := 4) (oi := { dst := some 71, op := Go.Op.move (Go.Operand.tmp 70), type := 4, pos := "laws.go:426", after := #[{ on := 3, ground := Go.Ground.data }, { on := 2, ground := Go.Ground.chain }], guard := none }) (v := ?vp4_4) rfl (by kernel_rfl) (by kernel_rfl) (by kernel_rfl) (fun _ _ _ h => h) (Or.inl ⟨by rfl, ?hp4_4⟩) hHeld ?rp4_4
      case hp4_4 =>
        intro wS hSw
        (try dsimp only at hSw)
        go_simp
        try with_reducible rfl
      case rp4_4 =>
      simp only [Act.put, List.setIfInBounds_toArray, List.set_cons_zero, List.set_cons_succ]
      refine wpAnyH_take (i := 5) (oi := { dst := some 72, op := Go.Op.fieldAddr 30 (Go.Operand.tmp 5) 2, type := 0, pos := "laws.go:426", after := #[{ on := 4, ground := Go.Ground.guard }], guard := some (4, true) }) (v := ?vp5_5) rfl (by kernel_rfl) (by kernel_rfl) (by kernel_rfl) (fun _ _ _ h => h) (Or.inl ⟨by rfl, ?hp5_5⟩) hHeld ?rp5_5
      case hp5_5 =>
        intro wS hSw
        (try dsimp only at hSw)
        go_simp
        try with_reducible rfl
      case rp5_5 =>
      simp only [Act.put, List.setIfInBounds_toArray, List.set_cons_zero, List.set_cons_succ]
      refine wpAnyH_take (i := 6) (oi := { dst := some 73, op := Go.Op.fieldAddr 26 (Go.Operand.tmp 72) 6, type := 0, pos := "laws.go:426", after := #[{ on := 5, ground := Go.Ground.data }, { on := 4, ground := Go.Ground.guard }], guard := some (4, true) }) (v := ?vp6_6) rfl (by kernel_rfl) (by kernel_rfl) (by kernel_rfl) (fun _ _ _ h => h) (Or.inl ⟨by rfl, ?hp6_6⟩) hHeld ?rp6_6
      case hp6_6 =>
        intro wS hSw
        (try dsimp only at hSw)
        go_simp
        try with_reducible rfl
      case rp6_6 =>
      simp only [Act.put, List.setIfInBounds_toArray, List.set_cons_zero, List.set_cons_succ]
      refine wpAnyH_take (i := 7) (oi := { dst := some 74, op := Go.Op.load 2 (Go.Operand.tmp 73), type := 2, pos := "laws.go:426", after := #[{ on := 6, ground := Go.Ground.data }, { on := 4, ground := Go.Ground.guard }], guard := some (4, true) }) (v := ?vp7_7) rfl (by kernel_rfl) (by kernel_rfl) (by kernel_rfl) (fun _ _ _ h => h) (Or.inl ⟨by rfl, ?hp7_7⟩) hHeld ?rp7_7
      case hp7_7 =>
        intro wS hSw
        obtain ⟨x0, x1, x2, x3, x4, x5, x6, y0, y1, y2, y3, y4, y5, y6, y7, y8⟩ := unhide KEEP _ (unhide HUP _ hSw)
        obtain ⟨t0, t1⟩ := unhide KEEP2 _ hSw
        clear hSw
        (try dsimp only at hSw)
        go_simp
        try with_reducible rfl
      case rp7_7 =>
      simp only [Act.put, List.setIfInBounds_toArray, List.set_cons_zero, List.set_cons_succ]
      refine wpAnyH_take (i := 8) (oi := { dst := some 75, op := Go.Op.fieldAddr 26 (Go.Operand.tmp 3) 6, type := 0, pos := "laws.go:426", after := #[{ on := 4, ground := Go.Ground.guard }], guard := some (4, true) }) (v := ?vp8_8) rfl (by kernel_rfl) (by kernel_rfl) (by kernel_rfl) (fun _ _ _ h => h) (Or.inl ⟨by rfl, ?hp8_8⟩) hHeld ?rp8_8
      case hp8_8 =>
        intro wS hSw
        (try dsimp only at hSw)
        go_simp
        try with_reducible rfl
      case rp8_8 =>
      simp only [Act.put, List.setIfInBounds_toArray, List.set_cons_zero, List.set_cons_succ]
      refine wpAnyH_take (i := 9) (oi := { dst := some 76, op := Go.Op.load 2 (Go.Operand.tmp 75), type := 2, pos := "laws.go:426", after := #[{ on := 8, ground := Go.Ground.data }, { on := 4, ground := Go.Ground.guard }], guard := some (4, true) }) (v := ?vp9_9) rfl (by kernel_rfl) (by kernel_rfl) (by kernel_rfl) (fun _ _ _ h => h) (Or.inl ⟨by rfl, ?hp9_9⟩) hHeld ?rp9_9
      case hp9_9 =>
        intro wS hSw
        obtain ⟨x0, x1, x2, x3, x4, x5, x6, y0, y1, y2, y3, y4, y5, y6, y7, y8⟩ := unhide KEEP _ (unhide HUP _ hSw)
        obtain ⟨t0, t1⟩ := unhide KEEP2 _ hSw
        clear hSw
        (try dsimp only at hSw)
        go_simp
        try with_reducible rfl
      case rp9_9 =>
      simp only [Act.put, List.setIfInBounds_toArray, List.set_cons_zero, List.set_cons_succ]
      refine wpAnyH_take (i := 10) (oi := { dst := some 77, op := Go.Op.binOp Go.BinOp.geq 2 (Go.Operand.tmp 74) (Go.Operand.tmp 76) 2, type := 4, pos := "laws.go:426", after := #[{ on := 7, ground := Go.Ground.data }, { on := 9, ground := Go.Ground.data }, { on := 4, ground := Go.Ground.guard }], guard := some (4, true) }) (v := ?vp10_10) rfl (by kernel_rfl) (by kernel_rfl) (by kernel_rfl) (fun _ _ _ h => h) (Or.inl ⟨by rfl, ?hp10_10⟩) hHeld ?rp10_10
      case hp10_10 =>
        intro wS hSw
        (try dsimp only at hSw)
        go_simp
        try with_reducible rfl
      case rp10_10 =>
      simp only [Act.put, List.setIfInBounds_toArray, List.set_cons_zero, List.set_cons_succ]
      refine wpAnyH_take (i := 11) (oi := { dst := some 78, op := Go.Op.pick (Go.Operand.tmp 71) (Go.Operand.tmp 77) (Go.Operand.const (Go.Value.bool false)), type := 4, pos := "laws.go:426", after := #[{ on := 4, ground := Go.Ground.data }, { on := 10, ground := Go.Ground.data }], guard := none }) (v := ?vp11_11) rfl (by kernel_rfl) (by kernel_rfl) (by kernel_rfl) (fun _ _ _ h => h) (Or.inl ⟨by rfl, ?hp11_11⟩) hHeld ?rp11_11
      case hp11_11 =>
        intro wS hSw
        (try dsimp only at hSw)
        go_simp
        try with_reducible rfl
      case rp11_11 =>
      simp only [Act.put, List.setIfInBounds_toArray, List.set_cons_zero, List.set_cons_succ]
      refine wpAnyH_take (i := 12) (oi := { dst := some 79, op := Go.Op.move (Go.Operand.tmp 78), type := 4, pos := "laws.go:426", after := #[{ on := 11, ground := Go.Ground.data }, { on := 4, ground := Go.Ground.chain }], guard := none }) (v := ?vp12_12) rfl (by kernel_rfl) (by kernel_rfl) (by kernel_rfl) (fun _ _ _ h => h) (Or.inl ⟨by rfl, ?hp12_12⟩) hHeld ?rp12_12
      case hp12_12 =>
        intro wS hSw
        (try dsimp only at hSw)
        go_simp
        try with_reducible rfl
      case rp12_12 =>
      simp only [Act.put, List.setIfInBounds_toArray, List.set_cons_zero, List.set_cons_succ]
      refine wpAnyH_take (i := 13) (oi := { dst := some 80, op := Go.Op.fieldAddr 30 (Go.Operand.tmp 5) 2, type := 0, pos := "laws.go:426", after := #[{ on := 12, ground := Go.Ground.guard }], guard := some (12, true) }) (v := ?vp13_13) rfl (by kernel_rfl) (by kernel_rfl) (by kernel_rfl) (fun _ _ _ h => h) (Or.inl ⟨by rfl, ?hp13_13⟩) hHeld ?rp13_13
      case hp13_13 =>
        intro wS hSw
        (try dsimp only at hSw)
        go_simp
        try with_reducible rfl
      case rp13_13 =>
      simp only [Act.put, List.setIfInBounds_toArray, List.set_cons_zero, List.set_cons_succ]
      refine wpAnyH_take (i := 14) (oi := { dst := some 81, op := Go.Op.fieldAddr 26 (Go.Operand.tmp 80) 6, type := 0, pos := "laws.go:426", after := #[{ on := 13, ground := Go.Ground.data }, { on := 12, ground := Go.Ground.guard }], guard := some (12, true) }) (v := ?vp14_14) rfl (by kernel_rfl) (by kernel_rfl) (by kernel_rfl) (fun _ _ _ h => h) (Or.inl ⟨by rfl, ?hp14_14⟩) hHeld ?rp14_14
      case hp14_14 =>
        intro wS hSw
        (try dsimp only at hSw)
        go_simp
        try with_reducible rfl
      case rp14_14 =>
      simp only [Act.put, List.setIfInBounds_toArray, List.set_cons_zero, List.set_cons_succ]
      refine wpAnyH_take (i := 15) (oi := { dst := some 82, op := Go.Op.load 2 (Go.Operand.tmp 81), type := 2, pos := "laws.go:426", after := #[{ on := 14, ground := Go.Ground.data }, { on := 12, ground := Go.Ground.guard }], guard := some (12, true) }) (v := ?vp15_15) rfl (by kernel_rfl) (by kernel_rfl) (by kernel_rfl) (fun _ _ _ h => h) (Or.inl ⟨by rfl, ?hp15_15⟩) hHeld ?rp15_15
      case hp15_15 =>
        intro wS hSw
        obtain ⟨x0, x1, x2, x3, x4, x5, x6, y0, y1, y2, y3, y4, y5, y6, y7, y8⟩ := unhide KEEP _ (unhide HUP _ hSw)
        obtain ⟨t0, t1⟩ := unhide KEEP2 _ hSw
        clear hSw
        (try dsimp only at hSw)
        go_simp
        try with_reducible rfl
      case rp15_15 =>
      simp only [Act.put, List.setIfInBounds_toArray, List.set_cons_zero, List.set_cons_succ]
      refine wpAnyH_take (i := 16) (oi := { dst := some 83, op := Go.Op.fieldAddr 26 (Go.Operand.tmp 3) 5, type := 0, pos := "laws.go:426", after := #[{ on := 12, ground := Go.Ground.guard }], guard := some (12, true) }) (v := ?vp16_16) rfl (by kernel_rfl) (by kernel_rfl) (by kernel_rfl) (fun _ _ _ h => h) (Or.inl ⟨by rfl, ?hp16_16⟩) hHeld ?rp16_16
      case hp16_16 =>
        intro wS hSw
        (try dsimp only at hSw)
        go_simp
        try with_reducible rfl
      case rp16_16 =>
      simp only [Act.put, List.setIfInBounds_toArray, List.set_cons_zero, List.set_cons_succ]
      refine wpAnyH_take (i := 17) (oi := { dst := some 84, op := Go.Op.load 2 (Go.Operand.tmp 83), type := 2, pos := "laws.go:426", after := #[{ on := 16, ground := Go.Ground.data }, { on := 12, ground := Go.Ground.guard }], guard := some (12, true) }) (v := ?vp17_17) rfl (by kernel_rfl) (by kernel_rfl) (by kernel_rfl) (fun _ _ _ h => h) (Or.inl ⟨by rfl, ?hp17_17⟩) hHeld ?rp17_17
      case hp17_17 =>
        intro wS hSw
        obtain ⟨x0, x1, x2, x3, x4, x5, x6, y0, y1, y2, y3, y4, y5, y6, y7, y8⟩ := unhide KEEP _ (unhide HUP _ hSw)
        obtain ⟨t0, t1⟩ := unhide KEEP2 _ hSw
        clear hSw
        (try dsimp only at hSw)
        go_simp
        try with_reducible rfl
      case rp17_17 =>
      simp only [Act.put, List.setIfInBounds_toArray, List.set_cons_zero, List.set_cons_succ]
      refine wpAnyH_take (i := 18) (oi := { dst := some 85, op := Go.Op.binOp Go.BinOp.leq 2 (Go.Operand.tmp 82) (Go.Operand.tmp 84) 2, type := 4, pos := "laws.go:426", after := #[{ on := 15, ground := Go.Ground.data }, { on := 17, ground := Go.Ground.data }, { on := 12, ground := Go.Ground.guard }], guard := some (12, true) }) (v := ?vp18_18) rfl (by kernel_rfl) (by kernel_rfl) (by kernel_rfl) (fun _ _ _ h => h) (Or.inl ⟨by rfl, ?hp18_18⟩) hHeld ?rp18_18
      case hp18_18 =>
        intro wS hSw
        (try dsimp only at hSw)
        go_simp
        try with_reducible rfl
      case rp18_18 =>
      simp only [Act.put, List.setIfInBounds_toArray, List.set_cons_zero, List.set_cons_succ]
      refine wpAnyH_take (i := 19) (oi := { dst := some 86, op := Go.Op.pick (Go.Operand.tmp 79) (Go.Operand.tmp 85) (Go.Operand.const (Go.Value.bool false)), type := 4, pos := "laws.go:426", after := #[{ on := 12, ground := Go.Ground.data }, { on := 18, ground := Go.Ground.data }], guard := none }) (v := ?vp19_19) rfl (by kernel_rfl) (by kernel_rfl) (by kernel_rfl) (fun _ _ _ h => h) (Or.inl ⟨by rfl, ?hp19_19⟩) hHeld ?rp19_19
      case hp19_19 =>
        intro wS hSw
        (try dsimp only at hSw)
        go_simp
        try with_reducible rfl
      case rp19_19 =>
      simp only [Act.put, List.setIfInBounds_toArray, List.set_cons_zero, List.set_cons_succ]
      refine wpAnyH_take (i := 20) (oi := { dst := some 87, op := Go.Op.move (Go.Operand.tmp 86), type := 4, pos := "laws.go:426", after := #[{ on := 19, ground := Go.Ground.data }, { on := 12, ground := Go.Ground.chain }], guard := none }) (v := ?vp20_20) rfl (by kernel_rfl) (by kernel_rfl) (by kernel_rfl) (fun _ _ _ h => h) (Or.inl ⟨by rfl, ?hp20_20⟩) hHeld ?rp20_20
      case hp20_20 =>
        intro wS hSw
        (try dsimp only at hSw)
        go_simp
        try with_reducible rfl
      case rp20_20 =>
      simp only [Act.put, List.setIfInBounds_toArray, List.set_cons_zero, List.set_cons_succ]
      refine wpAnyH_take (i := 21) (oi := { dst := some 88, op := Go.Op.fieldAddr 38 (Go.Operand.tmp 9) 0, type := 0, pos := "laws.go:426", after := #[{ on := 20, ground := Go.Ground.guard }], guard := some (20, true) }) (v := ?vp21_21) rfl (by kernel_rfl) (by kernel_rfl) (by kernel_rfl) (fun _ _ _ h => h) (Or.inl ⟨by rfl, ?hp21_21⟩) hHeld ?rp21_21
      case hp21_21 =>
        intro wS hSw
        (try dsimp only at hSw)
        go_simp
        try with_reducible rfl
      case rp21_21 =>
      simp only [Act.put, List.setIfInBounds_toArray, List.set_cons_zero, List.set_cons_succ]
      refine wpAnyH_take (i := 22) (oi := { dst := some 89, op := Go.Op.load 2 (Go.Operand.tmp 88), type := 2, pos := "laws.go:426", after := #[{ on := 21, ground := Go.Ground.data }, { on := 20, ground := Go.Ground.guard }], guard := some (20, true) }) (v := ?vp22_22) rfl (by kernel_rfl) (by kernel_rfl) (by kernel_rfl) (fun _ _ _ h => h) (Or.inl ⟨by rfl, ?hp22_22⟩) hHeld ?rp22_22
      case hp22_22 =>
        intro wS hSw
        obtain ⟨x0, x1, x2, x3, x4, x5, x6, y0, y1, y2, y3, y4, y5, y6, y7, y8⟩ := unhide KEEP _ (unhide HUP _ hSw)
        obtain ⟨t0, t1⟩ := unhide KEEP2 _ hSw
        clear hSw
        (try dsimp only at hSw)
        go_simp
        try with_reducible rfl
      case rp22_22 =>
      simp only [Act.put, List.setIfInBounds_toArray, List.set_cons_zero, List.set_cons_succ]
      refine wpAnyH_take (i := 23) (oi := { dst := some 90, op := Go.Op.binOp Go.BinOp.eql 2 (Go.Operand.tmp 89) (Go.Operand.const (Go.Value.int Go.IntKind.i64 0)) 2, type := 4, pos := "laws.go:426", after := #[{ on := 22, ground := Go.Ground.data }, { on := 20, ground := Go.Ground.guard }], guard := some (20, true) }) (v := ?vp23_23) rfl (by kernel_rfl) (by kernel_rfl) (by kernel_rfl) (fun _ _ _ h => h) (Or.inl ⟨by rfl, ?hp23_23⟩) hHeld ?rp23_23
      case hp23_23 =>
        intro wS hSw
        (try dsimp only at hSw)
        go_simp
        try with_reducible rfl
      case rp23_23 =>
      simp only [Act.put, List.setIfInBounds_toArray, List.set_cons_zero, List.set_cons_succ]
      refine wpAnyH_take (i := 24) (oi := { dst := some 91, op := Go.Op.pick (Go.Operand.tmp 87) (Go.Operand.tmp 90) (Go.Operand.const (Go.Value.bool false)), type := 4, pos := "laws.go:426", after := #[{ on := 20, ground := Go.Ground.data }, { on := 23, ground := Go.Ground.data }], guard := none }) (v := ?vp24_24) rfl (by kernel_rfl) (by kernel_rfl) (by kernel_rfl) (fun _ _ _ h => h) (Or.inl ⟨by rfl, ?hp24_24⟩) hHeld ?rp24_24
      case hp24_24 =>
        intro wS hSw
        (try dsimp only at hSw)
        go_simp
        try with_reducible rfl
      case rp24_24 =>
      simp only [Act.put, List.setIfInBounds_toArray, List.set_cons_zero, List.set_cons_succ]
      refine wpAnyH_take (i := 25) (oi := { dst := some 92, op := Go.Op.move (Go.Operand.tmp 91), type := 4, pos := "laws.go:426", after := #[{ on := 24, ground := Go.Ground.data }, { on := 20, ground := Go.Ground.chain }], guard := none }) (v := ?vp25_25) rfl (by kernel_rfl) (by kernel_rfl) (by kernel_rfl) (fun _ _ _ h => h) (Or.inl ⟨by rfl, ?hp25_25⟩) hHeld ?rp25_25
      case hp25_25 =>
        intro wS hSw
        (try dsimp only at hSw)
        go_simp
        try with_reducible rfl
      case rp25_25 =>
      simp only [Act.put, List.setIfInBounds_toArray, List.set_cons_zero, List.set_cons_succ]
      refine wpAnyH_take (i := 26) (oi := { dst := some 93, op := Go.Op.fieldAddr 38 (Go.Operand.tmp 9) 1, type := 0, pos := "laws.go:426", after := #[{ on := 25, ground := Go.Ground.guard }], guard := some (25, true) }) (v := ?vp26_26) rfl (by kernel_rfl) (by kernel_rfl) (by kernel_rfl) (fun _ _ _ h => h) (Or.inl ⟨by rfl, ?hp26_26⟩) hHeld ?rp26_26
      case hp26_26 =>
        intro wS hSw
        (try dsimp only at hSw)
        go_simp
        try with_reducible rfl
      case rp26_26 =>
      simp only [Act.put, List.setIfInBounds_toArray, List.set_cons_zero, List.set_cons_succ]
      refine wpAnyH_take (i := 27) (oi := { dst := some 94, op := Go.Op.load 36 (Go.Operand.tmp 93), type := 36, pos := "laws.go:426", after := #[{ on := 26, ground := Go.Ground.data }, { on := 25, ground := Go.Ground.guard }], guard := some (25, true) }) (v := ?vp27_27) rfl (by kernel_rfl) (by kernel_rfl) (by kernel_rfl) (fun _ _ _ h => h) (Or.inl ⟨by rfl, ?hp27_27⟩) hHeld ?rp27_27
      case hp27_27 =>
        intro wS hSw
        obtain ⟨x0, x1, x2, x3, x4, x5, x6, y0, y1, y2, y3, y4, y5, y6, y7, y8⟩ := unhide KEEP _ (unhide HUP _ hSw)
        obtain ⟨t0, t1⟩ := unhide KEEP2 _ hSw
        clear hSw
        (try dsimp only at hSw)
        go_simp
        try with_reducible rfl
      case rp27_27 =>
      simp only [Act.put, List.setIfInBounds_toArray, List.set_cons_zero, List.set_cons_succ]
      refine wpAnyH_take (i := 28) (oi := { dst := some 95, op := Go.Op.fieldAddr 26 (Go.Operand.tmp 3) 4, type := 0, pos := "laws.go:426", after := #[{ on := 25, ground := Go.Ground.guard }], guard := some (25, true) }) (v := ?vp28_28) rfl (by kernel_rfl) (by kernel_rfl) (by kernel_rfl) (fun _ _ _ h => h) (Or.inl ⟨by rfl, ?hp28_28⟩) hHeld ?rp28_28
      case hp28_28 =>
        intro wS hSw
        (try dsimp only at hSw)
        go_simp
        try with_reducible rfl
      case rp28_28 =>
      simp only [Act.put, List.setIfInBounds_toArray, List.set_cons_zero, List.set_cons_succ]
      refine wpAnyH_take (i := 29) (oi := { dst := some 96, op := Go.Op.load 24 (Go.Operand.tmp 95), type := 24, pos := "laws.go:426", after := #[{ on := 28, ground := Go.Ground.data }, { on := 25, ground := Go.Ground.guard }], guard := some (25, true) }) (v := ?vp29_29) rfl (by kernel_rfl) (by kernel_rfl) (by kernel_rfl) (fun _ _ _ h => h) (Or.inl ⟨by rfl, ?hp29_29⟩) hHeld ?rp29_29
      case hp29_29 =>
        intro wS hSw
        obtain ⟨x0, x1, x2, x3, x4, x5, x6, y0, y1, y2, y3, y4, y5, y6, y7, y8⟩ := unhide KEEP _ (unhide HUP _ hSw)
        obtain ⟨t0, t1⟩ := unhide KEEP2 _ hSw
        clear hSw
        (try dsimp only at hSw)
        go_simp
        try with_reducible rfl
      case rp29_29 =>
      simp only [Act.put, List.setIfInBounds_toArray, List.set_cons_zero, List.set_cons_succ]
      refine wpAnyH_take (i := 30) (oi := { dst := some 97, op := Go.Op.fieldAddr 30 (Go.Operand.tmp 5) 2, type := 0, pos := "laws.go:426", after := #[{ on := 25, ground := Go.Ground.guard }], guard := some (25, true) }) (v := ?vp30_30) rfl (by kernel_rfl) (by kernel_rfl) (by kernel_rfl) (fun _ _ _ h => h) (Or.inl ⟨by rfl, ?hp30_30⟩) hHeld ?rp30_30
      case hp30_30 =>
        intro wS hSw
        (try dsimp only at hSw)
        go_simp
        try with_reducible rfl
      case rp30_30 =>
      simp only [Act.put, List.setIfInBounds_toArray, List.set_cons_zero, List.set_cons_succ]
      refine wpAnyH_take (i := 31) (oi := { dst := some 98, op := Go.Op.fieldAddr 26 (Go.Operand.tmp 97) 6, type := 0, pos := "laws.go:426", after := #[{ on := 30, ground := Go.Ground.data }, { on := 25, ground := Go.Ground.guard }], guard := some (25, true) }) (v := ?vp31_31) rfl (by kernel_rfl) (by kernel_rfl) (by kernel_rfl) (fun _ _ _ h => h) (Or.inl ⟨by rfl, ?hp31_31⟩) hHeld ?rp31_31
      case hp31_31 =>
        intro wS hSw
        (try dsimp only at hSw)
        go_simp
        try with_reducible rfl
      case rp31_31 =>
      simp only [Act.put, List.setIfInBounds_toArray, List.set_cons_zero, List.set_cons_succ]
      refine wpAnyH_take (i := 32) (oi := { dst := some 99, op := Go.Op.load 2 (Go.Operand.tmp 98), type := 2, pos := "laws.go:426", after := #[{ on := 31, ground := Go.Ground.data }, { on := 25, ground := Go.Ground.guard }], guard := some (25, true) }) (v := ?vp32_32) rfl (by kernel_rfl) (by kernel_rfl) (by kernel_rfl) (fun _ _ _ h => h) (Or.inl ⟨by rfl, ?hp32_32⟩) hHeld ?rp32_32
      case hp32_32 =>
        intro wS hSw
        obtain ⟨x0, x1, x2, x3, x4, x5, x6, y0, y1, y2, y3, y4, y5, y6, y7, y8⟩ := unhide KEEP _ (unhide HUP _ hSw)
        obtain ⟨t0, t1⟩ := unhide KEEP2 _ hSw
        clear hSw
        (try dsimp only at hSw)
        go_simp
        try with_reducible rfl
      case rp32_32 =>
      simp only [Act.put, List.setIfInBounds_toArray, List.set_cons_zero, List.set_cons_succ]
      refine wpAnyH_take (i := 33) (oi := { dst := some 100, op := Go.Op.slice 24 (Go.Operand.tmp 96) none (some (Go.Operand.tmp 99)) none, type := 24, pos := "laws.go:426", after := #[{ on := 29, ground := Go.Ground.data }, { on := 32, ground := Go.Ground.data }, { on := 25, ground := Go.Ground.guard }], guard := some (25, true) }) (v := ?vp33_33) rfl (by kernel_rfl) (by kernel_rfl) (by kernel_rfl) (fun _ _ _ h => h) (Or.inl ⟨by rfl, ?hp33_33⟩) hHeld ?rp33_33
      case hp33_33 =>
        intro wS hSw
        clear hSw
        have j0 : c ≤ c8 := i0
        (try dsimp only at hSw)
        go_simp
        try with_reducible rfl
      case rp33_33 =>
      simp only [Act.put, List.setIfInBounds_toArray, List.set_cons_zero, List.set_cons_succ]
      refine wpAnyH_ready (rs := [34]) (by kernel_rfl) (by simp) ?_
      refine AllReadyH.cons (o := { dst := some 101, op := Go.Op.call { callee := Go.Callee.value (Go.Operand.func 12), args := #[Go.Operand.tmp 100], argTypes := #[24] }, type := 38, pos := "laws.go:426", after := #[{ on := 33, ground := Go.Ground.data }, { on := 25, ground := Go.Ground.chain }, { on := 25, ground := Go.Ground.guard }], guard := some (25, true) }) rfl (fun K hK => ?_) AllReadyH.nil
      go_simp
      go_at_call 12
      refine (unhide LT _ hHeld).mono ?_
      rintro e v2 ⟨a9, d9, rfl, R9, hbw⟩
      have HR9 := hide R9
      clear R9
      try go_wp2_with fail
      refine hK.out _ _ (hHeld.trans (hbw.mono hHeld.size)) (fun hHeld => ?_)
      clear hK K
      try simp only [Act.put, List.setIfInBounds_toArray, List.set_cons_zero, List.set_cons_succ]
      refine wpAnyH_take (i := 35) (oi := { dst := some 102, op := Go.Op.field 38 (Go.Operand.tmp 101) 1, type := 36, pos := "laws.go:426", after := #[{ on := 34, ground := Go.Ground.data }, { on := 25, ground := Go.Ground.guard }], guard := some (25, true) }) (v := ?vp35_34) rfl (by kernel_rfl) (by kernel_rfl) (by kernel_rfl) (fun _ _ _ h => h) (Or.inl ⟨by rfl, ?hp35_34⟩) hHeld ?rp35_34
      case hp35_34 =>
        intro wS hSw
        have yf := hf1 a9 ts.length d9
        clear hSw
        (try dsimp only at hSw)
        go_simp
        try with_reducible rfl
      case rp35_34 =>
      simp only [Act.put, List.setIfInBounds_toArray, List.set_cons_zero, List.set_cons_succ]
      refine wpAnyH_ready (rs := [36]) (by kernel_rfl) (by simp) ?_
      refine AllReadyH.cons (o := { dst := some 103, op := Go.Op.call { callee := Go.Callee.value (Go.Operand.func 11), args := #[Go.Operand.tmp 94, Go.Operand.tmp 102], argTypes := #[36, 36] }, type := 4, pos := "laws.go:426", after := #[{ on := 27, ground := Go.Ground.data }, { on := 35, ground := Go.Ground.data }, { on := 34, ground := Go.Ground.chain }, { on := 25, ground := Go.Ground.guard }], guard := some (25, true) }) rfl (fun K hK => ?_) AllReadyH.nil
      go_simp
      go_at_call 11
      refine (unhide LM _ a9 d9 hHeld (unhide HR9)).mono ?_
      rintro e v3 ⟨rfl, hbw⟩
      try go_wp2_with fail
      refine hK.out _ _ (hHeld.trans (hbw.mono hHeld.size)) (fun hHeld => ?_)
      clear hK K
      try simp only [Act.put, List.setIfInBounds_toArray, List.set_cons_zero, List.set_cons_succ]
      refine wpAnyH_take (i := 37) (oi := { dst := some 104, op := Go.Op.pick (Go.Operand.tmp 92) (Go.Operand.tmp 103) (Go.Operand.const (Go.Value.bool false)), type := 4, pos := "laws.go:426", after := #[{ on := 25, ground := Go.Ground.data }, { on := 36, ground := Go.Ground.data }], guard := none }) (v := ?vp37_35) rfl (by kernel_rfl) (by kernel_rfl) (by kernel_rfl) (fun _ _ _ h => h) (Or.inl ⟨by rfl, ?hp37_35⟩) hHeld ?rp37_35
      case hp37_35 =>
        intro wS hSw
        (try dsimp only at hSw)
        go_simp
        try with_reducible rfl
      case rp37_35 =>
      simp only [Act.put, List.setIfInBounds_toArray, List.set_cons_zero, List.set_cons_succ]
      refine wpAnyH_take (i := 38) (oi := { dst := some 2, op := Go.Op.assign (Go.Operand.tmp 104), type := 4, pos := "laws.go:426", after := #[{ on := 37, ground := Go.Ground.data }, { on := 36, ground := Go.Ground.chain }, { on := 0, ground := Go.Ground.phase }, { on := 1, ground := Go.Ground.phase }, { on := 2, ground := Go.Ground.phase }, { on := 3, ground := Go.Ground.phase }, { on := 4, ground := Go.Ground.phase }, { on := 5, ground := Go.Ground.phase }, { on := 6, ground := Go.Ground.phase }, { on := 7, ground := Go.Ground.phase }, { on := 8, ground := Go.Ground.phase }, { on := 9, ground := Go.Ground.phase }, { on := 10, ground := Go.Ground.phase }, { on := 11, ground := Go.Ground.phase }, { on := 12, ground := Go.Ground.phase }, { on := 13, ground := Go.Ground.phase }, { on := 14, ground := Go.Ground.phase }, { on := 15, ground := Go.Ground.phase }, { on := 16, ground := Go.Ground.phase }, { on := 17, ground := Go.Ground.phase }, { on := 18, ground := Go.Ground.phase }, { on := 19, ground := Go.Ground.phase }, { on := 20, ground := Go.Ground.phase }, { on := 21, ground := Go.Ground.phase }, { on := 22, ground := Go.Ground.phase }, { on := 23, ground := Go.Ground.phase }, { on := 24, ground := Go.Ground.phase }, { on := 25, ground := Go.Ground.phase }, { on := 26, ground := Go.Ground.phase }, { on := 27, ground := Go.Ground.phase }, { on := 28, ground := Go.Ground.phase }, { on := 29, ground := Go.Ground.phase }, { on := 30, ground := Go.Ground.phase }, { on := 31, ground := Go.Ground.phase }, { on := 32, ground := Go.Ground.phase }, { on := 33, ground := Go.Ground.phase }, { on := 34, ground := Go.Ground.phase }, { on := 35, ground := Go.Ground.phase }, { on := 36, ground := Go.Ground.phase }, { on := 37, ground := Go.Ground.phase }], guard := none }) (v := ?vp38_36) rfl (by kernel_rfl) (by kernel_rfl) (by kernel_rfl) (fun _ _ _ h => h) (Or.inl ⟨by rfl, ?hp38_36⟩) hHeld ?rp38_36
      case hp38_36 =>
        intro wS hSw
        (try dsimp only at hSw)
        go_simp
        try with_reducible rfl
      case rp38_36 =>
      simp only [Act.put, List.setIfInBounds_toArray, List.set_cons_zero, List.set_cons_succ]
      refine wpAnyH_done (by kernel_rfl) ?_ _
      refine NoPanic.normal ?_
      have HB9 := hide ((unhide HB).trans ((unhide HUP _ hHeld).mono (unhide HB).size))
      clear hHeld
      go_wp2_with fail
      go_ret
      exact ⟨rfl, unhide HB9⟩
  · have hne : ((cleanR x i).code != 0) = true := by rw [bne_iff_ne]; exact hf
    have heq : ((cleanR x i).code == (cleanR x i).code) = true := by simp
    clear hf R2
    generalize hfc : (cleanR x i).code = fc at *
    generalize (cleanR x i).place = fn at *
    generalize (cleanR x i).node.id = f1 at *
    generalize (cleanR x i).node.up = f2 at *
    generalize (cleanR x i).node.epoch = f3 at *
    generalize (cleanR x i).node.lease = f4 at *
    generalize (cleanR x i).node.writes.length = f5 at *
    generalize (cleanR x i).node.sure = f6 at *
    generalize (cleanR x i).node.clean = f7 at *
    have HFC := hide hfc
    clear hfc
    have nb2 : Below w2.heap.size w2 (w2.alloc (.cells #[.int .i64 fc, .int .i64 fn, .int .i64 f1, .bool f2, .int .i64 f3, .int .i64 f4, .slice a2 f5 d2, .int .i64 f6, .int .i64 f7] 30)) := (Below.refl _ _).alloc (Nat.le_refl _) _
    have HX6 : Hid (Box 0 #[.int .i64 fc, .int .i64 fn, .int .i64 f1, .bool f2, .int .i64 f3, .int .i64 f4, .slice a2 f5 d2, .int .i64 f6, .int .i64 f7] 30 (w2.alloc (.cells #[.int .i64 fc, .int .i64 fn, .int .i64 f1, .bool f2, .int .i64 f3, .int .i64 f4, .slice a2 f5 d2, .int .i64 f6, .int .i64 f7] 30)) w2.heap.size) := newBox (Nat.zero_le _)
    have z0 : (w2.alloc (.cells #[.int .i64 fc, .int .i64 fn, .int .i64 f1, .bool f2, .int .i64 f3, .int .i64 f4, .slice a2 f5 d2, .int .i64 f6, .int .i64 f7] 30)).cell? ⟨w2.heap.size, 0, none⟩ = some (.int .i64 fc) := (unhide HX6).at 0 _ rfl
    replace HX3 := hide (((unhide HX3).keep hb2).keep nb2)
    replace HRX := hide (((unhide HRX).later hb2).later nb2)
    replace HB := hide (((unhide HB).trans (hb2.mono (unhide HB).size)).trans (nb2.mono (Nat.le_trans (unhide HB).size hb2.size)))
    have LM : Hid (∀ W, Below (w2.alloc (.cells #[.int .i64 fc, .int .i64 fn, .int .i64 f1, .bool f2, .int .i64 f3, .int .i64 f4, .slice a2 f5 d2, .int .i64 f6, .int .i64 f7] 30)).heap.size (w2.alloc (.cells #[.int .i64 fc, .int .i64 fn, .int .i64 f1, .bool f2, .int .i64 f3, .int .i64 f4, .slice a2 f5 d2, .int .i64 f6, .int .i64 f7] 30)) W → Calls Tryz.prog 7 #[.agg #[.int .i64 x.id, .bool x.up, .int .i64 x.epoch, .int .i64 x.lease, .slice a8 x.writes.length c8, .int .i64 x.sure, .int .i64 x.clean], .int .i64 i] W fun e w' => ∃ (n0 i0 : Int) (u0 : Bool) (e0 l0 : Int) (a0 : Option Addr) (m0 d0 : Nat) (s0 k0 : Int), e = .returned (.agg #[.int .i64 fc, .int .i64 n0, .int .i64 i0, .bool u0, .int .i64 e0, .int .i64 l0, .slice a0 m0 d0, .int .i64 s0, .int .i64 k0]) ∧ Below W.heap.size W w') := fun W hW => by
      refine (specCleanNode _ x i W ((unhide HRX).later hW)).mono ?_
      rintro e w' ⟨cs, rfl, O, hb⟩
      obtain ⟨b1, k1, rfl, -⟩ := open_NodeResult O.reads
      rw [unhide HFC]
      exact ⟨_, _, _, _, _, b1, _, k1, _, _, rfl, hb⟩
    have hfl := fun n0 i0 u0 e0 l0 a0 m0 d0 s0 k0 w => fieldNR0 fc n0 i0 u0 e0 l0 a0 m0 d0 s0 k0 w
    clear nb2 hb2 HRX HRW
    go_wp2_with fail
    clear z0
    generalize w2.alloc (.cells #[.int .i64 fc, .int .i64 fn, .int .i64 f1, .bool f2, .int .i64 f3, .int .i64 f4, .slice a2 f5 d2, .int .i64 f6, .int .i64 f7] 30) = wz at *
    refine wp_region_noPanic ?_
    refine wp_region_held_drew (S := fun w' => Below wz.heap.size wz w') (by kernel_rfl) (Below.refl _ _).drew (fun hHeld => ?_)
    generalize wz.drew = wD at hHeld ⊢
    refine wpAnyH_take (i := 0) (oi := { dst := some 23, op := Go.Op.load 26 (Go.Operand.tmp 3), type := 26, pos := "laws.go:414", after := #[], guard := none }) (v := ?vc0_1) rfl (by kernel_rfl) (by kernel_rfl) (by kernel_rfl) (fun _ _ _ h => h) (Or.inl ⟨by rfl, ?hc0_1⟩) hHeld ?rc0_1
    case hc0_1 =>
      intro wS hSw
      have x0 := ((unhide HX3).keep hSw).at 0 _ rfl
      have x1 := ((unhide HX3).keep hSw).at 1 _ rfl
      have x2 := ((unhide HX3).keep hSw).at 2 _ rfl
      have x3 := ((unhide HX3).keep hSw).at 3 _ rfl
      have x4 := ((unhide HX3).keep hSw).at 4 _ rfl
      have x5 := ((unhide HX3).keep hSw).at 5 _ rfl
      have x6 := ((unhide HX3).keep hSw).at 6 _ rfl
      simp only [List.getElem_toArray, List.getElem_cons_zero, List.getElem_cons_succ] at x0 x1 x2 x3 x4 x5 x6
      clear hSw
      (try dsimp only at hSw)
      go_simp
      try with_reducible rfl
    case rc0_1 =>
    simp only [Act.put, List.setIfInBounds_toArray, List.set_cons_zero, List.set_cons_succ]
    refine wpAnyH_take (i := 1) (oi := { dst := some 24, op := Go.Op.move (Go.Operand.tmp 4), type := 2, pos := "laws.go:414", after := #[], guard := none }) (v := ?vc1_2) rfl (by kernel_rfl) (by kernel_rfl) (by kernel_rfl) (fun _ _ _ h => h) (Or.inl ⟨by rfl, ?hc1_2⟩) hHeld ?rc1_2
    case hc1_2 =>
      intro wS hSw
      (try dsimp only at hSw)
      go_simp
      try with_reducible rfl
    case rc1_2 =>
    simp only [Act.put, List.setIfInBounds_toArray, List.set_cons_zero, List.set_cons_succ]
    refine wpAnyH_take (i := 4) (oi := { dst := some 27, op := Go.Op.fieldAddr 30 (Go.Operand.tmp 5) 0, type := 0, pos := "laws.go:414", after := #[], guard := none }) (v := ?vc4_3) rfl (by kernel_rfl) (by kernel_rfl) (by kernel_rfl) (fun _ _ _ h => h) (Or.inl ⟨by rfl, ?hc4_3⟩) hHeld ?rc4_3
    case hc4_3 =>
      intro wS hSw
      (try dsimp only at hSw)
      go_simp
      try with_reducible rfl
    case rc4_3 =>
    simp only [Act.put, List.setIfInBounds_toArray, List.set_cons_zero, List.set_cons_succ]
    refine wpAnyH_take (i := 5) (oi := { dst := some 28, op := Go.Op.load 2 (Go.Operand.tmp 27), type := 2, pos := "laws.go:414", after := #[{ on := 4, ground := Go.Ground.data }], guard := none }) (v := ?vc5_4) rfl (by kernel_rfl) (by kernel_rfl) (by kernel_rfl) (fun _ _ _ h => h) (Or.inl ⟨by rfl, ?hc5_4⟩) hHeld ?rc5_4
    case hc5_4 =>
      intro wS hSw
      have y6 := ((unhide HX6).keep hSw).at 0 _ rfl
      simp only [List.getElem_toArray, List.getElem_cons_zero] at y6
      clear hSw
      (try dsimp only at hSw)
      go_simp
      try with_reducible rfl
    case rc5_4 =>
    simp only [Act.put, List.setIfInBounds_toArray, List.set_cons_zero, List.set_cons_succ]
    refine wpAnyH_ready (rs := [2]) (by kernel_rfl) (by simp) ?_
    refine AllReadyH.cons (o := { dst := some 25, op := Go.Op.call { callee := Go.Callee.value (Go.Operand.func 7), args := #[Go.Operand.tmp 23, Go.Operand.tmp 24], argTypes := #[26, 2] }, type := 30, pos := "laws.go:414", after := #[{ on := 0, ground := Go.Ground.data }, { on := 1, ground := Go.Ground.data }], guard := none }) rfl (fun K hK => ?_) AllReadyH.nil
    go_simp
    go_at_call 7
    refine (unhide LM _ hHeld).mono ?_
    rintro e v1 ⟨n0, i0, u0, e0, l0, a0, m0, d0, s0, k0, rfl, hbw⟩
    try go_wp2_with fail
    refine hK.out _ _ (hHeld.trans (hbw.mono hHeld.size)) (fun hHeld => ?_)
    clear hK K
    try simp only [Act.put, List.setIfInBounds_toArray, List.set_cons_zero, List.set_cons_succ]
    refine wpAnyH_take (i := 3) (oi := { dst := some 26, op := Go.Op.field 30 (Go.Operand.tmp 25) 0, type := 2, pos := "laws.go:414", after := #[{ on := 2, ground := Go.Ground.data }], guard := none }) (v := ?vc3_5) rfl (by kernel_rfl) (by kernel_rfl) (by kernel_rfl) (fun _ _ _ h => h) (Or.inl ⟨by rfl, ?hc3_5⟩) hHeld ?rc3_5
    case hc3_5 =>
      intro wS hSw
      have yf := hfl n0 i0 u0 e0 l0 a0 m0 d0 s0 k0
      clear hSw
      (try dsimp only at hSw)
      go_simp
      try with_reducible rfl
    case rc3_5 =>
    simp only [Act.put, List.setIfInBounds_toArray, List.set_cons_zero, List.set_cons_succ]
    refine wpAnyH_take (i := 6) (oi := { dst := some 29, op := Go.Op.binOp Go.BinOp.eql 2 (Go.Operand.tmp 26) (Go.Operand.tmp 28) 2, type := 4, pos := "laws.go:414", after := #[{ on := 3, ground := Go.Ground.data }, { on := 5, ground := Go.Ground.data }], guard := none }) (v := ?vc6_6) rfl (by kernel_rfl) (by kernel_rfl) (by kernel_rfl) (fun _ _ _ h => h) (Or.inl ⟨by rfl, ?hc6_6⟩) hHeld ?rc6_6
    case hc6_6 =>
      intro wS hSw
      (try dsimp only at hSw)
      go_simp
      try with_reducible rfl
    case rc6_6 =>
    simp only [Act.put, List.setIfInBounds_toArray, List.set_cons_zero, List.set_cons_succ]
    refine wpAnyH_take (i := 7) (oi := { dst := some 2, op := Go.Op.assign (Go.Operand.tmp 29), type := 4, pos := "laws.go:414", after := #[{ on := 6, ground := Go.Ground.data }, { on := 2, ground := Go.Ground.chain }, { on := 0, ground := Go.Ground.phase }, { on := 1, ground := Go.Ground.phase }, { on := 2, ground := Go.Ground.phase }, { on := 3, ground := Go.Ground.phase }, { on := 4, ground := Go.Ground.phase }, { on := 5, ground := Go.Ground.phase }, { on := 6, ground := Go.Ground.phase }], guard := none }) (v := ?vc7_7) rfl (by kernel_rfl) (by kernel_rfl) (by kernel_rfl) (fun _ _ _ h => h) (Or.inl ⟨by rfl, ?hc7_7⟩) hHeld ?rc7_7
    case hc7_7 =>
      intro wS hSw
      (try dsimp only at hSw)
      go_simp
      try with_reducible rfl
    case rc7_7 =>
    simp only [Act.put, List.setIfInBounds_toArray, List.set_cons_zero, List.set_cons_succ]
    refine wpAnyH_done (by kernel_rfl) ?_ _
    refine NoPanic.normal ?_
    have HB9 := hide ((unhide HB).trans (hHeld.mono (unhide HB).size))
    clear hHeld
    go_wp2_with fail
    go_ret
    exact ⟨rfl, unhide HB9⟩

theorem lawFnCleans (ao : Option Addr) (len cap : Nat) (zs : List Int) (w : World) (h : (ao = none ∧ len = 0 ∧ cap = 0 ∧ zs = []) ∨
    ∃ x, ao = some x ∧ len ≤ cap ∧ cap ≤ maxLen ∧ zs.length = cap ∧ (∀ i, i < zs.length → w.cell? (x.add i) = some (.int .u8 (zs.getD i 0))) ∧ ∀ n ∈ zs, (Lit.int .u8 n).wf = true) :
    Calls Tryz.prog 3 #[.slice ao len cap] w fun e w' => e = .returned (.bool true) ∧ Below w.heap.size w w' := by
  by_cases hn : len ≤ 1048576
  · exact lawCleans_few ao len cap w hn (isCode_of_row h hn)
  · exact lawCleans_many ao len cap w (by omega)

end Go.Proofs.YtbogjepkdcknfaaGreat
