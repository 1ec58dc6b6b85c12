/-
  Texts of this proof in one: ImplTake, ImplNodeM, ImplTakeW, ImplLast, ImplSeenAt, ImplFrom2, BesideKit, ImplBeside, ImplCleanN, ImplHeard, ImplAskS, ImplAskW, LawXHearWorld, SpecHearW, ImplHearS, ImplHearW, LawHearW, LawAskW.
  Their conditions stand in their theorems.
-/
import Derived.Test.YtomphbenbnnfgaaGreatDoorAw12
import Derived.Test.YtomphbenbnnfgaaGreatDoorAw09
import Derived.Test.YtomphbenbnnfgaaGreatDoorAw10
import Derived.Deep.RegionHeld3
import Derived.Test.YtomphbenbnnfgaaGreatDoorAw00
import Derived.Test.YtomphbenbnnfgaaGreatDoorAw06
import Derived.Test.YtomphbenbnnfgaaGreatDoorAw05
import Derived.Test.YtomphbenbnnfgaaGreatDoorAw08
import Derived.Test.YtomphbenbnnfgaaGreatDoorAw11
import Derived.Deep.CutRange
import Derived.Test.YtomphbenbnnfgaaGreatDoorAw07
import Derived.Deep.QuietTactic
import Derived.Test.YtomphbenbnnfgaaGreatDoorAw03
import Derived.Test.YtomphbenbnnfgaaGreatDoorChecked
import Derived.Test.YtomphbenbnnfgaaGreatDoorAw01
import Derived.Test.YtomphbenbnnfgaaGreatDoorAw02
import Derived.Test.YtomphbenbnnfgaaGreatDoorAw04
set_option maxRecDepth 100000
set_option maxHeartbeats 4000000
namespace Go.Proofs.YtomphbenbnnfgaaGreatDoor
open Go.RowKit
theorem vG (g gw : Nat) (x : aV) (u : List Value) (y : aj) (w : World) (hE : ix w) (h : eg w g (.slice (some ⟨gw, 0, none⟩) x.writes.length x.writes.length) x) (R : (ab.sl ab.ag).Reads w [.slice (some ⟨gw, 0, none⟩) x.writes.length x.writes.length] x.writes) (hy : ab.ag.Reads w u y) :
  Calls Tryz.prog 160 #[.pointer (some ⟨g, 0, none⟩), .agg u.toArray] w fun e w' => ∃ at' : Int, e = .returned (.tuple #[.int .i64 at', .int .i64 (aU (bF x.writes y))]) ∧ (aU (bF x.writes y) = 0 → at' = (bF x.writes y).place ∧ ∃ a n c, eg w' g (.slice a n c) x ∧ (ab.sl ab.ag).aN w' [.slice a n c] (bF x.writes y).writes w.heap.size w'.heap.size) ∧ Ext (fun q => q = g) w w' := by
 have hyy := hy
 obtain ⟨a2, d2, rfl, -⟩ := aM hyy
 clear hyy
 have nb : Below w.heap.size w (w.alloc (.cells #[.int .i64 y.kind, .int .i64 y.id, .slice a2 y.vec.length d2, .int .i64 y.aa, .int .i64 y.seq] 44)) := (Below.refl _ _).alloc (Nat.le_refl _) _
 have bY : aA 0 #[.int .i64 y.kind, .int .i64 y.id, .slice a2 y.vec.length d2, .int .i64 y.aa, .int .i64 y.seq] 44 (w.alloc (.cells #[.int .i64 y.kind, .int .i64 y.id, .slice a2 y.vec.length d2, .int .i64 y.aa, .int .i64 y.seq] 44)) w.heap.size := aD (Nat.zero_le _)
 have hH0 := h.ai nb
 have k0 := aA.at hH0 0 _ rfl
 simp only [List.getElem_toArray, List.getElem_cons_zero] at k0
 have hgl := hH0.lt
 obtain ⟨q0, q1, q2, q3, q4⟩ := aZ5 bY
 have hyl := bY.lt
 have hBD : Below w.heap.size w (w.alloc (.cells #[.int .i64 y.kind, .int .i64 y.id, .slice a2 y.vec.length d2, .int .i64 y.aa, .int .i64 y.seq] 44)).drew := nb.drew
 have hgw := h.lt
 clear nb bY
 generalize hr : bF x.writes y = r
 have HRR := yh hr
 clear hr
 go_enter Tryz.func160, Tryz.ntmps160
 go_wp2_with fail
 generalize w.alloc (.cells #[.int .i64 y.kind, .int .i64 y.id, .slice a2 y.vec.length d2, .int .i64 y.aa, .int .i64 y.seq] 44) = W0 at *
 refine wZz (fun w' => Below W0.heap.size W0 w') (Below.refl _ _).drew (fun zq => ?_)
 generalize W0.drew = wD at zq hBD ⊢
 refine tkH 0 zq ?_
 refine tkH 1 zq ?_
 refine tkH 2 zq ?_
 refine tkJ 3 (v := ?vt3_4) ?ht3_4 zq ?rt3_4
 case ht3_4 =>
  intro wS hSw
  have y0 : wS.cell? ⟨g, 0, none⟩ = some (.slice (some ⟨gw, 0, none⟩) x.writes.length x.writes.length) := (hSw.cell (p := ⟨g, 0, none⟩) hgl).trans k0
  clear hSw
  exact fZ
 refine tkJ 4 (v := ?vt4_5) ?ht4_5 zq ?rt4_5
 case ht4_5 =>
  intro wS hSw
  have v0 : wS.cell? ⟨w.heap.size, 0, none⟩ = some (.int .i64 y.kind) := (hSw.cell (p := ⟨w.heap.size, 0, none⟩) hyl).trans q0
  have v1 : wS.cell? ⟨w.heap.size, 1, none⟩ = some (.int .i64 y.id) := (hSw.cell (p := ⟨w.heap.size, 1, none⟩) hyl).trans q1
  have v2 : wS.cell? ⟨w.heap.size, 2, none⟩ = some (.slice a2 y.vec.length d2) := (hSw.cell (p := ⟨w.heap.size, 2, none⟩) hyl).trans q2
  have v3 : wS.cell? ⟨w.heap.size, 3, none⟩ = some (.int .i64 y.aa) := (hSw.cell (p := ⟨w.heap.size, 3, none⟩) hyl).trans q3
  have v4 : wS.cell? ⟨w.heap.size, 4, none⟩ = some (.int .i64 y.seq) := (hSw.cell (p := ⟨w.heap.size, 4, none⟩) hyl).trans q4
  clear hSw
  exact fZ
 refine wpAnyH_ready (rs := [5, 6]) (by kernel_rfl) (by simp) ?_
 refine AllReadyH.cons (o := ⟨some 12, .call { callee := .value (.func 202), args := #[.tmp 10, .tmp 11], argTypes := #[61, 44] }, 258, "l09_node.go:43", #[⟨3, .data⟩, ⟨4, .data⟩], none⟩) rfl (fun K hK => ?ot5_6) (AllReadyH.cons (o := ⟨some 6, .alloc 258, 0, "l09_node.go:43", #[], none⟩) rfl (fun K hK => ?ot6_6) (AllReadyH.nil))
 case ot5_6 =>
  have hHD := zq.size
  have hW : Below w.heap.size w wD := hBD
  go_simp
  go_at_call 202
  refine (pA _ x.writes _ y _ (hE.later hW) (R.later hW) (hy.later hW)).mono ?_
  rintro e w3 ⟨cs3, rfl, O3, hb3⟩
  rw [uh HRR] at O3
  obtain ⟨bl3, Ow3, hr3⟩ := O3
  obtain ⟨a3, d3, g3, rfl, hbl3, Os3, -⟩ := gh Ow3
  subst hbl3
  have OW : (ab.sl ab.ag).aN w3 [.slice a3 r.writes.length d3] r.writes (wD).heap.size w3.heap.size := ⟨_, Os3, hr3⟩
  clear Os3 Ow3 hr3
  have hBw := hW.trans (hb3.mono hW.size)
  try go_wp2_with fail
  have hH3 := zq.trans (hb3.mono zq.size)
  refine hK.out _ _ (zq.trans (hb3.mono zq.size)) (fun zq => ?_)
  clear hK K
  try simp only [Act.put, pz, py, px]
  refine rdH 6 (fun K hK => ?_)
  go_simp
  refine hK.out _ _ (zq.alloc zq.size _) (fun zq => ?_)
  clear hK K
  try simp only [Act.put, pz, py, px]
  refine rdH 7 (fun K hK => ?_)
  go_simp
  try go_wp2_with fail
  refine hK.out _ _ (hH3.alloc hH3.size _) (fun zq => ?_)
  clear hK K
  try simp only [Act.put, pz, py, px]
  refine dZ ?_
  have hGO : g ≠ w3.heap.size := by have h1 := hBD.size; have h2 := hb3.size; omega
  have bO : aA 0 #[.int .i64 r.code, .bool r.dt, .int .i64 r.place, .slice a3 r.writes.length d3] 258 (w3.alloc (.cells #[.int .i64 r.code, .bool r.dt, .int .i64 r.place, .slice a3 r.writes.length d3] 258)) w3.heap.size := aD (Nat.zero_le _)
  have nb4 : Below w3.heap.size w3 (w3.alloc (.cells #[.int .i64 r.code, .bool r.dt, .int .i64 r.place, .slice a3 r.writes.length d3] 258)) := (Below.refl _ _).alloc (Nat.le_refl _) _
  have oO := (OW.later nb4).mono (lo' := w.heap.size) (hi' := (w3.alloc (.cells #[.int .i64 r.code, .bool r.dt, .int .i64 r.place, .slice a3 r.writes.length d3] 258)).heap.size) hBD.size nb4.size
  have hBF := hBw.trans (nb4.mono hBw.size)
  clear nb4 hH3
  clear zq OW hBw hb3 hW
  have hHF := h.ai hBF
  have et := oO.reads.et
  generalize hWF : (w3.alloc (.cells #[.int .i64 r.code, .bool r.dt, .int .i64 r.place, .slice a3 r.writes.length d3] 258)) = WF at *
  clear hWF
  generalize hob : w3.heap.size = ob at *
  clear hob
  clear k0
  have k0 := aA.at hHF 0 _ rfl
  simp only [List.getElem_toArray, List.getElem_cons_zero] at k0
  have kf := aA.soft hHF
  have kl := aA.lt hHF
  have z0 := aA.at bO 0 _ rfl
  have z2 := aA.at bO 2 _ rfl
  have z3 := aA.at bO 3 _ rfl
  simp only [ga, gb, gc] at z0 z2 z3
  have zl := aA.lt bO
  have HOF := yh oO
  have HBF := yh hBF
  have HHF := yh hHF
  clear oO hBF hHF bO hBD hHD q0 q1 q2 q3 q4 hyl hgl h R hy hE hH0
  by_cases hc : r.code = 0
  ·
   rw [hc] at z0
   by_cases h40 : 40 < r.writes.length
   ·
    have HT : Hid (aU r = 2) := by show aU r = 2; rw [aU, if_pos hc, if_pos h40]
    have hd : decide ((40 : Int) < (r.writes.length : Int)) = true := by simp; omega
    clear hc h40
    go_wp2_with fail
    refine bodyPost_ret (v := .tuple #[.int .i64 0, .int .i64 2]) (by simp [results, Tryz.results160, go_sem]) rfl ?_
    refine ⟨0, by rw [uh HT], fun h0 => ?_, az (uh HBF) _⟩
    rw [uh HT] at h0
    exact absurd h0 (by decide)
   have HT : Hid (aU r = 0) := by show aU r = 0; rw [aU, if_pos hc, if_neg h40]
   have hd : decide ((40 : Int) < (r.writes.length : Int)) = false := by simp; omega
   have HBX : Hid (eg (WF.setCell ⟨g, 0, none⟩ (.slice a3 r.writes.length d3)) g (.slice a3 r.writes.length d3) x) := aA.set (uh HHF) 0 (.slice a3 r.writes.length d3)
   have e1 : Ext (fun q => q = g) WF (WF.setCell ⟨g, 0, none⟩ (.slice a3 r.writes.length d3)) := (Ext.refl (fun q => q = g) _).setCell ⟨g, 0, none⟩ _ rfl
   have HE1 := yh ((az (uh HBF) _).trans e1)
   have HO1 : Hid ((ab.sl ab.ag).aN (WF.setCell ⟨g, 0, none⟩ (.slice a3 r.writes.length d3)) [.slice a3 r.writes.length d3] r.writes w.heap.size (WF.setCell ⟨g, 0, none⟩ (.slice a3 r.writes.length d3)).heap.size) := ((uh HOF).ext e1 (fun q h1 h2 h3 => by omega)).mono (Nat.le_refl _) (by simp)
   have hgo : g ≠ ob := hGO
   clear hc e1 h40
   go_wp2_with fail
   refine bodyPost_ret (v := .tuple #[.int .i64 r.place, .int .i64 0]) (by simp [results, Tryz.results160, go_sem]) rfl ?_
   exact ⟨r.place, by rw [uh HT], fun _ => ⟨rfl, a3, r.writes.length, d3, uh HBX, uh HO1⟩, uh HE1⟩
  have HT : Hid (aU r = r.code) := by show aU r = r.code; rw [aU, if_neg hc]
  have HC := yh hc
  have hd : (r.code != 0) = true := by simpa using hc
  clear hc
  generalize r.code = cc at *
  go_wp2_with fail
  refine wZz (fun w' => w' = WF.drew) rfl (fun zq => ?_)
  refine tkH 0 zq ?_
  refine tkJ 1 (v := ?vu1) ?hu1 zq ?ru1
  case hu1 =>
   intro wS hSw
   have v0 : wS.cell? ⟨ob, 0, none⟩ = some (.int .i64 cc) := by rw [hSw]; exact z0
   clear hSw
   exact fZ
  refine tkH 2 zq ?_
  refine tkH 3 zq ?_
  refine dZ ?_
  clear zq
  go_wp2_with fail
  refine bodyPost_ret (v := .tuple #[.int .i64 0, .int .i64 cc]) (by simp [results, Tryz.results160, go_sem]) rfl ?_
  refine ⟨0, by rw [uh HT], fun h0 => ?_, az (uh HBF).drew _⟩
  rw [uh HT] at h0
  exact absurd h0 (uh HC)
 case ot6_6 =>
  have hHD := zq.size
  go_simp
  refine hK.out _ _ (zq.alloc zq.size _) (fun zq => ?_)
  clear hK K
  try simp only [Act.put, pz, py, px]
  refine rdH 5 (fun K hK => ?_)
  have hW : Below w.heap.size w (wD.alloc (.cells #[.int .i64 0, .bool false, .int .i64 0, .slice none 0 0] 258)) := hBD.alloc hBD.size _
  have hO3 : aA 0 #[.int .i64 0, .bool false, .int .i64 0, .slice none 0 0] 258 (wD.alloc (.cells #[.int .i64 0, .bool false, .int .i64 0, .slice none 0 0] 258)) wD.heap.size := aD (Nat.zero_le _)
  go_simp
  go_at_call 202
  refine (pA _ x.writes _ y _ (hE.later hW) (R.later hW) (hy.later hW)).mono ?_
  rintro e w3 ⟨cs3, rfl, O3, hb3⟩
  rw [uh HRR] at O3
  obtain ⟨bl3, Ow3, hr3⟩ := O3
  obtain ⟨a3, d3, g3, rfl, hbl3, Os3, -⟩ := gh Ow3
  subst hbl3
  have OW : (ab.sl ab.ag).aN w3 [.slice a3 r.writes.length d3] r.writes ((wD.alloc (.cells #[.int .i64 0, .bool false, .int .i64 0, .slice none 0 0] 258))).heap.size w3.heap.size := ⟨_, Os3, hr3⟩
  clear Os3 Ow3 hr3
  have hBw := hW.trans (hb3.mono hW.size)
  try go_wp2_with fail
  have hO4 := hO3.ai hb3
  refine hK.out _ _ (zq.trans (hb3.mono zq.size)) (fun zq => ?_)
  clear hK K
  try simp only [Act.put, pz, py, px]
  refine rdH 7 (fun K hK => ?_)
  have z0 := aA.at hO4 0 _ rfl
  have z1 := aA.at hO4 1 _ rfl
  have z2 := aA.at hO4 2 _ rfl
  have z3 := aA.at hO4 3 _ rfl
  simp only [ga, gb, gc] at z0 z1 z2 z3
  have ff := aA.soft hO4
  have l0 := aA.lt hO4
  go_simp
  try go_wp2_with fail
  refine hK.out _ _ (aB zq wD.heap.size 0 [.int .i64 r.code, .bool r.dt, .int .i64 r.place, .slice a3 r.writes.length d3] (by omega)) (fun zq => ?_)
  clear hK K
  try simp only [Act.put, pz, py, px]
  refine dZ ?_
  have hGO : g ≠ wD.heap.size := by have h1 := hBD.size; have h2 := hgw; omega
  have bO : aA 0 #[.int .i64 r.code, .bool r.dt, .int .i64 r.place, .slice a3 r.writes.length d3] 258 ((((w3.setCell ⟨wD.heap.size, 0, none⟩ (.int .i64 r.code)).setCell ⟨wD.heap.size, 1, none⟩ (.bool r.dt)).setCell ⟨wD.heap.size, 2, none⟩ (.int .i64 r.place)).setCell ⟨wD.heap.size, 3, none⟩ (.slice a3 r.writes.length d3)) wD.heap.size := by have q := aA.set (aA.set (aA.set (aA.set hO4 0 (.int .i64 r.code)) 1 (.bool r.dt)) 2 (.int .i64 r.place)) 3 (.slice a3 r.writes.length d3); simp only [List.setIfInBounds_toArray, List.set_cons_zero, List.set_cons_succ] at q; exact q
  have hzD : wD.heap.size < (wD.alloc (.cells #[.int .i64 0, .bool false, .int .i64 0, .slice none 0 0] 258)).heap.size := by simp
  have hzF : ((((w3.setCell ⟨wD.heap.size, 0, none⟩ (.int .i64 r.code)).setCell ⟨wD.heap.size, 1, none⟩ (.bool r.dt)).setCell ⟨wD.heap.size, 2, none⟩ (.int .i64 r.place)).setCell ⟨wD.heap.size, 3, none⟩ (.slice a3 r.writes.length d3)).heap.size = w3.heap.size := bL w3 wD.heap.size 0 [.int .i64 r.code, .bool r.dt, .int .i64 r.place, .slice a3 r.writes.length d3]
  have oO : (ab.sl ab.ag).aN ((((w3.setCell ⟨wD.heap.size, 0, none⟩ (.int .i64 r.code)).setCell ⟨wD.heap.size, 1, none⟩ (.bool r.dt)).setCell ⟨wD.heap.size, 2, none⟩ (.int .i64 r.place)).setCell ⟨wD.heap.size, 3, none⟩ (.slice a3 r.writes.length d3)) [.slice a3 r.writes.length d3] r.writes w.heap.size ((((w3.setCell ⟨wD.heap.size, 0, none⟩ (.int .i64 r.code)).setCell ⟨wD.heap.size, 1, none⟩ (.bool r.dt)).setCell ⟨wD.heap.size, 2, none⟩ (.int .i64 r.place)).setCell ⟨wD.heap.size, 3, none⟩ (.slice a3 r.writes.length d3)).heap.size := (gK (s := wD.heap.size) (vs := [.int .i64 r.code, .bool r.dt, .int .i64 r.place, .slice a3 r.writes.length d3]) OW hzD).mono (by have := hBD.size; omega) (Nat.le_of_eq hzF.symm)
  have hBF : Below w.heap.size w ((((w3.setCell ⟨wD.heap.size, 0, none⟩ (.int .i64 r.code)).setCell ⟨wD.heap.size, 1, none⟩ (.bool r.dt)).setCell ⟨wD.heap.size, 2, none⟩ (.int .i64 r.place)).setCell ⟨wD.heap.size, 3, none⟩ (.slice a3 r.writes.length d3)) := aB hBw wD.heap.size 0 [.int .i64 r.code, .bool r.dt, .int .i64 r.place, .slice a3 r.writes.length d3] hBD.size
  clear hzD hzF hO3 hO4 z0 z1 z2 z3 ff l0
  clear zq OW hBw hb3 hW
  have hHF := h.ai hBF
  have et := oO.reads.et
  generalize hWF : ((((w3.setCell ⟨wD.heap.size, 0, none⟩ (.int .i64 r.code)).setCell ⟨wD.heap.size, 1, none⟩ (.bool r.dt)).setCell ⟨wD.heap.size, 2, none⟩ (.int .i64 r.place)).setCell ⟨wD.heap.size, 3, none⟩ (.slice a3 r.writes.length d3)) = WF at *
  clear hWF
  generalize hob : wD.heap.size = ob at *
  clear hob
  clear k0
  have k0 := aA.at hHF 0 _ rfl
  simp only [List.getElem_toArray, List.getElem_cons_zero] at k0
  have kf := aA.soft hHF
  have kl := aA.lt hHF
  have z0 := aA.at bO 0 _ rfl
  have z2 := aA.at bO 2 _ rfl
  have z3 := aA.at bO 3 _ rfl
  simp only [ga, gb, gc] at z0 z2 z3
  have zl := aA.lt bO
  have HOF := yh oO
  have HBF := yh hBF
  have HHF := yh hHF
  clear oO hBF hHF bO hBD hHD q0 q1 q2 q3 q4 hyl hgl h R hy hE hH0
  by_cases hc : r.code = 0
  ·
   rw [hc] at z0
   by_cases h40 : 40 < r.writes.length
   ·
    have HT : Hid (aU r = 2) := by show aU r = 2; rw [aU, if_pos hc, if_pos h40]
    have hd : decide ((40 : Int) < (r.writes.length : Int)) = true := by simp; omega
    clear hc h40
    go_wp2_with fail
    refine bodyPost_ret (v := .tuple #[.int .i64 0, .int .i64 2]) (by simp [results, Tryz.results160, go_sem]) rfl ?_
    refine ⟨0, by rw [uh HT], fun h0 => ?_, az (uh HBF) _⟩
    rw [uh HT] at h0
    exact absurd h0 (by decide)
   have HT : Hid (aU r = 0) := by show aU r = 0; rw [aU, if_pos hc, if_neg h40]
   have hd : decide ((40 : Int) < (r.writes.length : Int)) = false := by simp; omega
   have HBX : Hid (eg (WF.setCell ⟨g, 0, none⟩ (.slice a3 r.writes.length d3)) g (.slice a3 r.writes.length d3) x) := aA.set (uh HHF) 0 (.slice a3 r.writes.length d3)
   have e1 : Ext (fun q => q = g) WF (WF.setCell ⟨g, 0, none⟩ (.slice a3 r.writes.length d3)) := (Ext.refl (fun q => q = g) _).setCell ⟨g, 0, none⟩ _ rfl
   have HE1 := yh ((az (uh HBF) _).trans e1)
   have HO1 : Hid ((ab.sl ab.ag).aN (WF.setCell ⟨g, 0, none⟩ (.slice a3 r.writes.length d3)) [.slice a3 r.writes.length d3] r.writes w.heap.size (WF.setCell ⟨g, 0, none⟩ (.slice a3 r.writes.length d3)).heap.size) := ((uh HOF).ext e1 (fun q h1 h2 h3 => by omega)).mono (Nat.le_refl _) (by simp)
   have hgo : g ≠ ob := hGO
   clear hc e1 h40
   go_wp2_with fail
   refine bodyPost_ret (v := .tuple #[.int .i64 r.place, .int .i64 0]) (by simp [results, Tryz.results160, go_sem]) rfl ?_
   exact ⟨r.place, by rw [uh HT], fun _ => ⟨rfl, a3, r.writes.length, d3, uh HBX, uh HO1⟩, uh HE1⟩
  have HT : Hid (aU r = r.code) := by show aU r = r.code; rw [aU, if_neg hc]
  have HC := yh hc
  have hd : (r.code != 0) = true := by simpa using hc
  clear hc
  generalize r.code = cc at *
  go_wp2_with fail
  refine wZz (fun w' => w' = WF.drew) rfl (fun zq => ?_)
  refine tkH 0 zq ?_
  refine tkJ 1 (v := ?vv1) ?hv1 zq ?rv1
  case hv1 =>
   intro wS hSw
   have v0 : wS.cell? ⟨ob, 0, none⟩ = some (.int .i64 cc) := by rw [hSw]; exact z0
   clear hSw
   exact fZ
  refine tkH 2 zq ?_
  refine tkH 3 zq ?_
  refine dZ ?_
  clear zq
  go_wp2_with fail
  refine bodyPost_ret (v := .tuple #[.int .i64 0, .int .i64 cc]) (by simp [results, Tryz.results160, go_sem]) rfl ?_
  refine ⟨0, by rw [uh HT], fun h0 => ?_, az (uh HBF).drew _⟩
  rw [uh HT] at h0
  exact absurd h0 (uh HC)
theorem vH (g : Nat) (a : Option Addr) (n c : Nat) (x : aV) (w : World) (h : eg w g (.slice a n c) x) :
  Calls Tryz.prog 161 #[.pointer (some ⟨g, 0, none⟩)] w fun e w' => e = .returned (.agg #[.int .i64 x.id, .bool x.up, .int .i64 x.ae, .int .i64 x.au, .slice a n c, .int .i64 x.sure, .int .i64 x.clean]) ∧ Below w.heap.size w w' := by
 obtain ⟨k0, k1, k2, k3, k4, k5, k6⟩ := aZ7 h
 have hgl := h.lt
 have HB0 := yh ((Below.refl w.heap.size w).alloc (Nat.le_refl _) (.cells #[.int .i64 0, .bool false, .int .i64 0, .int .i64 0, .slice none 0 0, .int .i64 0, .int .i64 0] 63))
 have hRD : aA 0 #[.int .i64 0, .bool false, .int .i64 0, .int .i64 0, .slice none 0 0, .int .i64 0, .int .i64 0] 63 (w.alloc (.cells #[.int .i64 0, .bool false, .int .i64 0, .int .i64 0, .slice none 0 0, .int .i64 0, .int .i64 0] 63)).drew w.heap.size := (aD (Nat.zero_le _)).drew
 clear h
 go_enter Tryz.func161, Tryz.ntmps161
 go_wp2_with fail
 generalize w.alloc (.cells #[.int .i64 0, .bool false, .int .i64 0, .int .i64 0, .slice none 0 0, .int .i64 0, .int .i64 0] 63) = W0 at *
 refine wZz (fun w' => Below w.heap.size w w') (uh HB0).drew (fun zq => ?_)
 generalize W0.drew = wD at zq hRD ⊢
 refine tkH 0 zq ?_
 refine tkH 1 zq ?_
 refine tkH 2 zq ?_
 refine tkJ 3 (v := ?vt3) ?ht3 zq ?rt3
 case ht3 =>
  intro wS hSw
  have y2 : wS.cell? ⟨g, 2, none⟩ = some (.int .i64 x.id) := (hSw.cell (p := ⟨g, 2, none⟩) hgl).trans k2
  clear hSw
  exact fZ
 refine tkH 4 zq ?_
 refine tkH 5 zq ?_
 refine tkH 6 zq ?_
 refine tkJ 7 (v := ?vt7) ?ht7 zq ?rt7
 case ht7 =>
  intro wS hSw
  have y3 : wS.cell? ⟨g, 3, none⟩ = some (.bool x.up) := (hSw.cell (p := ⟨g, 3, none⟩) hgl).trans k3
  clear hSw
  exact fZ
 refine tkH 8 zq ?_
 refine tkH 9 zq ?_
 refine tkH 10 zq ?_
 refine tkJ 11 (v := ?vt11) ?ht11 zq ?rt11
 case ht11 =>
  intro wS hSw
  have y4 : wS.cell? ⟨g, 4, none⟩ = some (.int .i64 x.ae) := (hSw.cell (p := ⟨g, 4, none⟩) hgl).trans k4
  clear hSw
  exact fZ
 refine tkH 12 zq ?_
 refine tkH 13 zq ?_
 refine tkH 14 zq ?_
 refine tkJ 15 (v := ?vt15) ?ht15 zq ?rt15
 case ht15 =>
  intro wS hSw
  have y5 : wS.cell? ⟨g, 5, none⟩ = some (.int .i64 x.au) := (hSw.cell (p := ⟨g, 5, none⟩) hgl).trans k5
  clear hSw
  exact fZ
 refine tkH 16 zq ?_
 refine tkH 17 zq ?_
 refine tkH 18 zq ?_
 refine tkH 19 zq ?_
 refine tkJ 20 (v := ?vt20) ?ht20 zq ?rt20
 case ht20 =>
  intro wS hSw
  have y0 : wS.cell? ⟨g, 0, none⟩ = some (.slice a n c) := (hSw.cell (p := ⟨g, 0, none⟩) hgl).trans k0
  clear hSw
  exact fZ
 refine tkH 21 zq ?_
 refine tkH 22 zq ?_
 refine tkH 23 zq ?_
 refine tkH 24 zq ?_
 refine tkJ 25 (v := ?vt25) ?ht25 zq ?rt25
 case ht25 =>
  intro wS hSw
  have y1 : wS.cell? ⟨g, 1, none⟩ = some (.int .i64 x.sure) := (hSw.cell (p := ⟨g, 1, none⟩) hgl).trans k1
  clear hSw
  exact fZ
 refine tkH 26 zq ?_
 refine tkH 27 zq ?_
 refine tkH 28 zq ?_
 refine tkJ 29 (v := ?vt29) ?ht29 zq ?rt29
 case ht29 =>
  intro wS hSw
  have y6 : wS.cell? ⟨g, 6, none⟩ = some (.int .i64 x.clean) := (hSw.cell (p := ⟨g, 6, none⟩) hgl).trans k6
  clear hSw
  exact fZ
 refine tkH 30 zq ?_
 refine rdH 31 (fun K hK => ?_)
 obtain ⟨z0, z1, z2, z3, z4, z5, z6⟩ := aZ7 hRD
 have ff := aA.soft hRD
 have l0 := aA.lt hRD
 go_simp
 try go_wp2_with fail
 refine hK.out _ _ (aB zq w.heap.size 0 [.int .i64 x.id, .bool x.up, .int .i64 x.ae, .int .i64 x.au, .slice a n c, .int .i64 x.sure, .int .i64 x.clean] (Nat.le_refl _)) (fun zq => ?_)
 clear hK K
 try simp only [Act.put, pz, py, px]
 refine dZ ?_
 have HB9 := yh (zq)
 clear zq
 go_wp2_with fail
 refine bodyPost_ret (v := .agg #[.int .i64 x.id, .bool x.up, .int .i64 x.ae, .int .i64 x.au, .slice a n c, .int .i64 x.sure, .int .i64 x.clean]) (by simp [results, Tryz.results161, go_sem, z0, z1, z2, z3, z4, z5, z6]) rfl ?_
 exact ⟨rfl, uh HB9⟩
theorem kF (cs : List Value) (x : aV) (us : List Value) (y : aj) (w : World) (hE : ix w) (h : ab.ax.Reads w cs x) (hy : ab.ag.Reads w us y) :
  Calls Tryz.prog 105 #[.agg cs.toArray, .agg us.toArray] w fun e w' => ∃ cs, e = .returned (.agg cs.toArray) ∧ ab.da.aN w' cs (dp x y) w.heap.size w'.heap.size ∧ Below w.heap.size w w' := by
 have hN := h
 have hV := hy
 obtain ⟨a4, d4, rfl, R4⟩ := bG h
 obtain ⟨a2, d2, rfl, R2⟩ := aM hy
 clear h hy
 have nb : Below w.heap.size w (((w.alloc (.cells #[.int .i64 x.id, .bool x.up, .int .i64 x.ae, .int .i64 x.au, .slice a4 x.writes.length d4, .int .i64 x.sure, .int .i64 x.clean] 63)).alloc (.cells #[.int .i64 y.kind, .int .i64 y.id, .slice a2 y.vec.length d2, .int .i64 y.aa, .int .i64 y.seq] 44)).alloc (.cells #[.int .i64 0, .int .i64 0, .int .i64 0, .bool false, .int .i64 0, .int .i64 0, .slice none 0 0, .int .i64 0, .int .i64 0] 167)) := (((Below.refl _ _).alloc (Nat.le_refl _) _).alloc (by simp) _).alloc (by simp; omega) _
 have bX : aA 0 #[.int .i64 x.id, .bool x.up, .int .i64 x.ae, .int .i64 x.au, .slice a4 x.writes.length d4, .int .i64 x.sure, .int .i64 x.clean] 63 (((w.alloc (.cells #[.int .i64 x.id, .bool x.up, .int .i64 x.ae, .int .i64 x.au, .slice a4 x.writes.length d4, .int .i64 x.sure, .int .i64 x.clean] 63)).alloc (.cells #[.int .i64 y.kind, .int .i64 y.id, .slice a2 y.vec.length d2, .int .i64 y.aa, .int .i64 y.seq] 44)).alloc (.cells #[.int .i64 0, .int .i64 0, .int .i64 0, .bool false, .int .i64 0, .int .i64 0, .slice none 0 0, .int .i64 0, .int .i64 0] 167)) w.heap.size := ((aD (Nat.zero_le _)).grow _).grow _
 have bY : aA 0 #[.int .i64 y.kind, .int .i64 y.id, .slice a2 y.vec.length d2, .int .i64 y.aa, .int .i64 y.seq] 44 (((w.alloc (.cells #[.int .i64 x.id, .bool x.up, .int .i64 x.ae, .int .i64 x.au, .slice a4 x.writes.length d4, .int .i64 x.sure, .int .i64 x.clean] 63)).alloc (.cells #[.int .i64 y.kind, .int .i64 y.id, .slice a2 y.vec.length d2, .int .i64 y.aa, .int .i64 y.seq] 44)).alloc (.cells #[.int .i64 0, .int .i64 0, .int .i64 0, .bool false, .int .i64 0, .int .i64 0, .slice none 0 0, .int .i64 0, .int .i64 0] 167)) (w.heap.size + 1) := (bm (Nat.zero_le _) (by simp)).grow _
 have bR : aA 0 #[.int .i64 0, .int .i64 0, .int .i64 0, .bool false, .int .i64 0, .int .i64 0, .slice none 0 0, .int .i64 0, .int .i64 0] 167 (((w.alloc (.cells #[.int .i64 x.id, .bool x.up, .int .i64 x.ae, .int .i64 x.au, .slice a4 x.writes.length d4, .int .i64 x.sure, .int .i64 x.clean] 63)).alloc (.cells #[.int .i64 y.kind, .int .i64 y.id, .slice a2 y.vec.length d2, .int .i64 y.aa, .int .i64 y.seq] 44)).alloc (.cells #[.int .i64 0, .int .i64 0, .int .i64 0, .bool false, .int .i64 0, .int .i64 0, .slice none 0 0, .int .i64 0, .int .i64 0] 167)) (w.heap.size + 2) := bm (Nat.zero_le _) (by simp)
 by_cases hf : cV x = 0
 ·
  have hok := (ja hf).1
  have HL := yh (qv _ x _ (hN.later nb) hf)
  have HA := yh hf
  have HOK := yh hok
  have HB0 := yh nb
  have HR0 := yh bR
  have HY0 := yh bY
  have HV := yh hV
  have HE := yh hE
  clear hN nb bR bY bX R4 R2 hf hok hV hE
  go_enter Tryz.func105, Tryz.ntmps105
  go_wp2_with fail
  generalize ((w.alloc (.cells #[.int .i64 x.id, .bool x.up, .int .i64 x.ae, .int .i64 x.au, .slice a4 x.writes.length d4, .int .i64 x.sure, .int .i64 x.clean] 63)).alloc (.cells #[.int .i64 y.kind, .int .i64 y.id, .slice a2 y.vec.length d2, .int .i64 y.aa, .int .i64 y.seq] 44)).alloc (.cells #[.int .i64 0, .int .i64 0, .int .i64 0, .bool false, .int .i64 0, .int .i64 0, .slice none 0 0, .int .i64 0, .int .i64 0] 167) = W0 at *
  refine (uh HL).mono ?_
  rintro e w1 ⟨g, gw, rfl, hH, O, hg, hb⟩
  have hgr : w.heap.size + 2 < g := by have := (uh HR0).lt; omega
  have hBD : Below w.heap.size w w1.drew := ((uh HB0).trans (hb.mono (uh HB0).size)).drew
  have hHD : eg w1.drew g (.slice (some ⟨gw, 0, none⟩) x.writes.length x.writes.length) x := hH
  have hOD : (ab.sl ab.ag).aN w1.drew [.slice (some ⟨gw, 0, none⟩) x.writes.length x.writes.length] x.writes (g + 1) w1.heap.size := O.later (Below.refl _ _).drew
  have hRD : aA 0 #[.int .i64 0, .int .i64 0, .int .i64 0, .bool false, .int .i64 0, .int .i64 0, .slice none 0 0, .int .i64 0, .int .i64 0] 167 w1.drew (w.heap.size + 2) := ((uh HR0).ai hb).drew
  have bY1 := (uh HY0).ai hb
  obtain ⟨q0, q1, q2, q3, q4⟩ := aZ5 bY1
  have hyl := bY1.lt
  have hE := uh HE
  have hV := uh HV
  clear hb HL HB0 HR0 HY0 hH O hg bY1 HE HV
  go_wp2_with fail
  refine wZz (fun w' => Ext (fun q => q = g) w1 w') ((Ext.refl _ _).drew 1) (fun zq => ?_)
  generalize w1.drew = wD at zq hBD hHD hOD hRD ⊢
  refine tkH 0 zq ?_
  refine tkH 1 zq ?_
  refine tkH 2 zq ?_
  refine tkJ 3 (v := ?vw3) ?hw3 zq ?rw3
  case hw3 =>
   intro wS hSw
   have v0 : wS.cell? ⟨w.heap.size + 1, 0, none⟩ = some (.int .i64 y.kind) := (cell_of_heap (hSw.block (w.heap.size + 1) hyl (by omega)) 0).trans q0
   have v1 : wS.cell? ⟨w.heap.size + 1, 1, none⟩ = some (.int .i64 y.id) := (cell_of_heap (hSw.block (w.heap.size + 1) hyl (by omega)) 1).trans q1
   have v2 : wS.cell? ⟨w.heap.size + 1, 2, none⟩ = some (.slice a2 y.vec.length d2) := (cell_of_heap (hSw.block (w.heap.size + 1) hyl (by omega)) 2).trans q2
   have v3 : wS.cell? ⟨w.heap.size + 1, 3, none⟩ = some (.int .i64 y.aa) := (cell_of_heap (hSw.block (w.heap.size + 1) hyl (by omega)) 3).trans q3
   have v4 : wS.cell? ⟨w.heap.size + 1, 4, none⟩ = some (.int .i64 y.seq) := (cell_of_heap (hSw.block (w.heap.size + 1) hyl (by omega)) 4).trans q4
   clear hSw
   exact fZ
  refine rdH 4 (fun K hK => ?_)
  go_simp
  go_at_call 160
  refine (vG g gw x _ y _ (hE.later hBD) hHD hOD.reads (hV.later hBD)).mono ?_
  rintro e w3 ⟨at', rfl, hq, hE3⟩
  have hz3 := hE3.size
  try go_wp2_with fail
  refine hK.out _ _ (zq.trans hE3) (fun zq => ?_)
  clear hK K
  try simp only [Act.put, pz, py, px]
  refine tkH 5 zq ?_
  refine tkH 6 zq ?_
  refine tkH 7 zq ?_
  refine tkH 8 zq ?_
  refine tkH 9 zq ?_
  refine dZ ?_
  clear zq
  have hgl : g < wD.heap.size := hHD.lt
  have hR3 := aA.ext hRD hE3 (by omega)
  have hB3 := hBD.trans (hE3.below hBD.size (fun q hq e => by omega))
  have HR3 := yh hR3
  have HB3 := yh hB3
  clear hR3 hB3 hBD hHD hOD hRD hE3 hE hV q0 q1 q2 q3 q4 hyl
  have HAB := yh (pV (y := y) (uh HOK).aR)
  have HTB := yh (nr (y := y) (uh HOK).aR)
  by_cases hc : aU (bF x.writes y) = 0
  ·
   obtain ⟨rfl, a, n, c, hH3, O3⟩ := hq hc
   have HY := yh (sV (uh HA) hc)
   rw [hc]
   have HO3 := yh O3
   have HT := yh (vH g a n c x w3 hH3)
   clear hq hc hH3 O3
   go_wp2_with fail
   refine (uh HT).mono ?_
   rintro e w9 ⟨rfl, hb9⟩
   have bR9 := (uh HR3).ai hb9
   obtain ⟨z0, z1, z2, z3, z4, z5, z6, z7, z8⟩ := aZ9 bR9
   have ff := aA.soft bR9
   have l0 := aA.lt bR9
   have HO9 := yh ((uh HO3).later hb9)
   have HB9 := yh ((uh HB3).trans (hb9.mono (uh HB3).size))
   have hz9 := hb9.size
   clear hb9 HT bR9 HO3 HR3 HB3
   go_wp2_with fail
   refine bodyPost_ret (v := .agg #[.int .i64 0, .int .i64 (bF x.writes y).place, .int .i64 x.id, .bool x.up, .int .i64 x.ae, .int .i64 x.au, .slice a n c, .int .i64 x.sure, .int .i64 x.clean]) (by simp [results, Tryz.results105, go_sem, z0, z1, z2, z3, z4, z5, z6, z7, z8]) rfl ?_
   rw [uh HY]
   have hB9 := aB (uh HB9) (w.heap.size + 2) 0 [.int .i64 0, .int .i64 (bF x.writes y).place, .int .i64 x.id, .bool x.up, .int .i64 x.ae, .int .i64 x.au, .slice a n c, .int .i64 x.sure, .int .i64 x.clean] (by omega)
   refine ⟨[.int .i64 0, .int .i64 (bF x.writes y).place, .int .i64 x.id, .bool x.up, .int .i64 x.ae, .int .i64 x.au, .slice a n c, .int .i64 x.sure, .int .i64 x.clean], rfl, ?_, hB9⟩
   have o1 := gK (s := w.heap.size + 2) (vs := [.int .i64 0, .int .i64 (bF x.writes y).place, .int .i64 x.id, .bool x.up, .int .i64 x.ae, .int .i64 x.au, .slice a n c, .int .i64 x.sure, .int .i64 x.clean]) (uh HO9) (by omega)
   obtain ⟨i1, i2, i3, i4, -, -, i7, i8, -⟩ := uh HOK
   have hpl := (uh HAB).2
   exact ln (x := ca x (bF x.writes y).writes) (c := 0) (n := (bF x.writes y).place) (by omega) (by omega) (o1.mono (by omega) (Nat.le_trans hz9 (Nat.le_of_eq (bL w9 (w.heap.size + 2) 0 [.int .i64 0, .int .i64 (bF x.writes y).place, .int .i64 x.id, .bool x.up, .int .i64 x.ae, .int .i64 x.au, .slice a n c, .int .i64 x.sure, .int .i64 x.clean]).symm))) (by simp only [ca]; omega) (by simp only [ca]; omega) (by simp only [ca]; omega) (by simp only [ca]; omega) (by simp only [ca]; omega)
  have HY := yh (oR (uh HA) hc)
  have hd : (aU (bF x.writes y) != 0) = true := by simpa using hc
  clear hq hc
  generalize aU (bF x.writes y) = tc at *
  have bR9 := (uh HR3)
  obtain ⟨z0, z1, z2, z3, z4, z5, z6, z7, z8⟩ := aZ9 bR9
  have ff := aA.soft bR9
  have l0 := aA.lt bR9
  clear bR9
  go_wp2_with fail
  refine bodyPost_ret (v := .agg #[.int .i64 tc, .int .i64 0, .int .i64 0, .bool false, .int .i64 0, .int .i64 0, .slice none 0 0, .int .i64 0, .int .i64 0]) (by simp [results, Tryz.results105, go_sem, z0, z1, z2, z3, z4, z5, z6, z7, z8]) rfl ?_
  rw [uh HY]
  have hB9 := aB (uh HB3) (w.heap.size + 2) 0 [.int .i64 tc, .int .i64 0, .int .i64 0, .bool false, .int .i64 0, .int .i64 0, .slice none 0 0, .int .i64 0, .int .i64 0] (by omega)
  exact ⟨[.int .i64 tc, .int .i64 0, .int .i64 0, .bool false, .int .i64 0, .int .i64 0, .slice none 0 0, .int .i64 0, .int .i64 0], rfl, iR (by have := uh HTB; omega), hB9⟩
 have HL := yh (oS _ x _ (hN.later nb) hf)
 have hd : (cV x != 0) = true := by simpa using hf
 have HY := yh (qD (y := y) hf)
 have HW := yh (qk x)
 have HB0 := yh nb
 have HR0 := yh bR
 clear hN nb bR bX bY R4 R2 hf hV hE
 generalize cV x = ac at *
 go_enter Tryz.func105, Tryz.ntmps105
 go_wp2_with fail
 generalize ((w.alloc (.cells #[.int .i64 x.id, .bool x.up, .int .i64 x.ae, .int .i64 x.au, .slice a4 x.writes.length d4, .int .i64 x.sure, .int .i64 x.clean] 63)).alloc (.cells #[.int .i64 y.kind, .int .i64 y.id, .slice a2 y.vec.length d2, .int .i64 y.aa, .int .i64 y.seq] 44)).alloc (.cells #[.int .i64 0, .int .i64 0, .int .i64 0, .bool false, .int .i64 0, .int .i64 0, .slice none 0 0, .int .i64 0, .int .i64 0] 167) = W0 at *
 refine (uh HL).mono ?_
 rintro e w1 ⟨rfl, hb⟩
 have HB1 := yh ((uh HB0).trans (hb.mono (uh HB0).size))
 have HR1 := yh ((uh HR0).ai hb)
 clear hb HL HB0 HR0
 have bR9 := (uh HR1)
 obtain ⟨z0, z1, z2, z3, z4, z5, z6, z7, z8⟩ := aZ9 bR9
 have ff := aA.soft bR9
 have l0 := aA.lt bR9
 clear bR9
 go_wp2_with fail
 refine bodyPost_ret (v := .agg #[.int .i64 ac, .int .i64 0, .int .i64 0, .bool false, .int .i64 0, .int .i64 0, .slice none 0 0, .int .i64 0, .int .i64 0]) (by simp [results, Tryz.results105, go_sem, z0, z1, z2, z3, z4, z5, z6, z7, z8]) rfl ?_
 rw [uh HY]
 have hB9 := aB (uh HB1) (w.heap.size + 2) 0 [.int .i64 ac, .int .i64 0, .int .i64 0, .bool false, .int .i64 0, .int .i64 0, .slice none 0 0, .int .i64 0, .int .i64 0] (by omega)
 exact ⟨[.int .i64 ac, .int .i64 0, .int .i64 0, .bool false, .int .i64 0, .int .i64 0, .slice none 0 0, .int .i64 0, .int .i64 0], rfl, iR (uh HW), hB9⟩
theorem sT (n : aV) (v : aj) : (takeN n v).2.id = n.id := by
 unfold takeN
 split
 ·
  split <;> rfl
 rfl
theorem ug {w : World} {x : aj} {a : Option Addr} {d : Nat} (h : ab.ag.Reads w [.int .i64 x.kind, .int .i64 x.id, .slice a x.vec.length d, .int .i64 x.aa, .int .i64 x.seq] x) : (ab.sl ab.int).Reads w [.slice a x.vec.length d] x.vec := by
 obtain ⟨_, _, hq, R⟩ := aM h
 simp only [List.cons.injEq, Value.slice.injEq, and_true, true_and] at hq
 obtain ⟨rfl, rfl⟩ := hq
 exact R
theorem sa (L p : Nat) (av : Option Addr) (dv : Nat) (v : aj) (y : ay) (W : World) (hp : aA 0 #[.int .i64 v.kind, .int .i64 v.id, .slice av v.vec.length dv, .int .i64 v.aa, .int .i64 v.seq] 44 W p) (_ : p < L) (hv : ab.ag.cr W [.int .i64 v.kind, .int .i64 v.id, .slice av v.vec.length dv, .int .i64 v.aa, .int .i64 v.seq] v 0 L) (hE : ix W) (hi : ∀ z ∈ y.chain.ids, cz y z = true) (hl : 1 ≤ y.chain.ids.length) (hn5 : y.nodes.length ≤ 5) (hnd : ∀ i (h : i < y.nodes.length), aJ y.nodes[i] = 0 ∧ y.nodes[i].id = (i : Int) + 1) (hev : -1000000000 ≤ y.events ∧ y.events ≤ 1000000000) :
  pr L 100 #[.pointer (some ⟨p, 0, none⟩)] y (fh y v) true (kV y v) W := by
 intro g lo v3 v4 v5 v6 hL hg hlo hO hcap
 obtain ⟨g6, rfl⟩ := hcap
 show Calls Tryz.prog 100 #[.pointer (some ⟨g, 0, none⟩), .pointer (some ⟨p, 0, none⟩)] W (fun e W' => dE g lo (fh y v) (kV y v) W e W')
 have hpg : p < g := by omega
 have hpL : p < lo := by omega
 have HX : Hid (Ext (fun q => lo ≤ q) W W) := Ext.refl _ _
 have HG := yh hg
 have HO := yh hO
 have HP := yh hp
 have HV := yh hv
 have HE := yh hE
 have HI := yh hi
 have HLC := yh hl
 have HNF := yh hnd
 have HEV := yh hev
 clear hg hO hp hv hE hi hl hnd hev
 go_enter Tryz.func100, Tryz.ntmps100
 go_upto_region 1 with fail
 have HW := yh (eY v.kind v.id (.slice av v.vec.length dv) v.aa v.seq v.vec W (ab.bc (ug (uh HV).reads)))
 obtain ⟨h0, h1, h2, h3, h4⟩ := aZ5 (uh HP)
 have hpl := (uh HP).lt
 go_wp2_with fail
 refine (uh HW).mono ?_
 rintro e W1 ⟨rfl, hb⟩
 replace HP := yh ((uh HP).ai hb)
 replace HV := yh ((uh HV).later hb)
 replace HG := yh ((uh HG).ai hb)
 replace HO := yh ((uh HO).later hb)
 replace HE := yh ((uh HE).later hb)
 replace HX := yh ((uh HX).trans (az hb _))
 clear hb HW h0 h1 h2 h3 h4 hpl
 have HWF : Hid (aC v.kind v.id v.vec v.aa v.seq = wF v) := rfl
 by_cases hw : wF v ≠ 0
 ·
  have hd : (aC v.kind v.id v.vec v.aa v.seq != 0) = true := by rw [uh HWF]; simpa using hw
  have HC : Hid (fh y v = aC v.kind v.id v.vec v.aa v.seq) := by
   show fh y v = _
   rw [uh HWF]
   exact if_pos hw
  have hw2 : aC v.kind v.id v.vec v.aa v.seq ≠ 0 := hw
  clear hw
  generalize aC v.kind v.id v.vec v.aa v.seq = c at *
  go_wp2_with fail
  go_ret2
  unfold dE
  exact ⟨false, by rw [uh HC]; rfl, fun h0 => by rw [uh HC] at h0; exact absurd h0 (hw2), uh HX⟩
 have hw0 : aC v.kind v.id v.vec v.aa v.seq = 0 := by rw [uh HWF]; simpa using hw
 have HW0 : Hid (wF v = 0) := by show wF v = 0; simpa using hw
 rw [hw0]
 clear hw HWF hw0
 obtain ⟨_, _, _, _, _, _, _, _, hq, RC, -, -, -⟩ := aK (uh HO).reads
 simp only [List.cons.injEq, and_true, true_and] at hq
 obtain ⟨rfl, rfl, -, -⟩ := hq
 have HH := yh (tH _ y.chain W1 RC (uh HLC))
 have g2 := aA.at (uh HG) 2 _ rfl
 have g3 := aA.at (uh HG) 3 _ rfl
 simp only [ga, gb, gc] at g2 g3
 have hgl := (uh HG).lt
 clear RC
 go_wp2_with fail
 refine (uh HH).mono ?_
 rintro e W2 ⟨rfl, hb⟩
 replace HP := yh ((uh HP).ai hb)
 replace HV := yh ((uh HV).later hb)
 replace HG := yh ((uh HG).ai hb)
 replace HO := yh ((uh HO).later hb)
 replace HE := yh ((uh HE).later hb)
 replace HX := yh ((uh HX).trans (az hb _))
 clear hb HH g2 g3 hgl
 obtain ⟨k, hk, hh⟩ := gU (uh HI) (uh HLC)
 have hh2 : y.chain.ids.getD 0 0 = (k : Int) + 1 := hh
 have HHD := yh hh
 rw [hh2]
 clear hh hh2
 have HM := yh (qS _ y ((k : Int) + 1) W2 (uh HO).reads (uh HI) hn5)
 obtain ⟨g0, g1, g2, g3, g4, g5, g6⟩ := aZ7 (uh HG)
 have hgl := (uh HG).lt
 go_wp2_with fail
 refine (uh HM).mono ?_
 rintro e W3 ⟨rfl, hb⟩
 rw [oK]
 replace HP := yh ((uh HP).ai hb)
 replace HV := yh ((uh HV).later hb)
 replace HG := yh ((uh HG).ai hb)
 replace HO := yh ((uh HO).later hb)
 replace HE := yh ((uh HE).later hb)
 replace HX := yh ((uh HX).trans (az hb _))
 clear hb HM g0 g1 g2 g3 g4 g5 g6 hgl
 cases hmb : cT y ((k : Int) + 1)
 ·
  have HC : Hid (fh y v = 10) := by
   show fh y v = 10
   rw [fh, uh HHD, if_neg (by rw [uh HW0]; simp), if_pos hmb]
  clear hmb
  go_wp2_with fail
  go_ret2
  unfold dE
  exact ⟨false, by rw [uh HC]; rfl, fun h0 => by rw [uh HC] at h0; exact absurd h0 (by decide), uh HX⟩
 have hno := uh HNF k hk
 have hup := gN hmb
 rw [dH hk] at hup
 have HAC : Hid (fh y v = if (dp y.nodes[k] v).code ≠ 0 then (dp y.nodes[k] v).code else ec y v) := by
  show fh y v = _
  rw [fh, uh HHD, if_neg (by rw [uh HW0]; simp), if_neg (by rw [hmb]; simp), dH hk]
 have HAW : Hid (kV y v = ft (dA y (dp y.nodes[k] v).node) v) := by
  show kV y v = _
  rw [kV, uh HHD, dH hk]
 have HIDN : Hid ((dp y.nodes[k] v).code = 0 → (dp y.nodes[k] v).node.id = (k : Int) + 1) := fun hc => by
  rw [(mq hno.1 hup).2 hc, sT]
  exact hno.2
 clear hmb hno hup
 obtain ⟨_, _, _, _, _, _, _, _, hq, -, RN, -, -⟩ := aK (uh HO).reads
 simp only [List.cons.injEq, Value.slice.injEq, and_true, true_and] at hq
 obtain ⟨-, ⟨rfl, rfl⟩, -, -⟩ := hq
 obtain ⟨b, off, rfl, hbl⟩ := ab.aS RN (by omega)
 obtain ⟨row, hcl, hr⟩ := ab.bE RN hk
 obtain ⟨an, dn, rfl, -⟩ := bG hr
 have x0 : W3.drew.cell? ⟨b, off + k * 7, none⟩ = some (.int .i64 (y.nodes[k]).id) := hcl 0 (by decide)
 have x1 : W3.drew.cell? ⟨b, off + k * 7 + 1, none⟩ = some (.bool (y.nodes[k]).up) := hcl 1 (by decide)
 have x2 : W3.drew.cell? ⟨b, off + k * 7 + 2, none⟩ = some (.int .i64 (y.nodes[k]).ae) := hcl 2 (by decide)
 have x3 : W3.drew.cell? ⟨b, off + k * 7 + 3, none⟩ = some (.int .i64 (y.nodes[k]).au) := hcl 3 (by decide)
 have x4 : W3.drew.cell? ⟨b, off + k * 7 + 4, none⟩ = some (.slice an (y.nodes[k]).writes.length dn) := hcl 4 (by decide)
 have x5 : W3.drew.cell? ⟨b, off + k * 7 + 5, none⟩ = some (.int .i64 (y.nodes[k]).sure) := hcl 5 (by decide)
 have x6 : W3.drew.cell? ⟨b, off + k * 7 + 6, none⟩ = some (.int .i64 (y.nodes[k]).clean) := hcl 6 (by decide)
 have g4 := aA.at (uh HG) 4 _ rfl
 simp only [ga, gb, gc] at g4
 obtain ⟨h0, h1, h2, h3, h4⟩ := aZ5 (uh HP)
 have hpl3 := (uh HP).lt
 have hgl := (uh HG).lt
 have hw1 : IntKind.i64.wrap (k : Int) = (k : Int) := by
  rw [IntKind.wrap_i64]
  omega
 have hki : (k : Int) < (y.nodes.length : Int) := by omega
 have hki0 : (0 : Int) ≤ (k : Int) := by omega
 have nd : Below W3.heap.size W3 W3.drew := (Below.refl _ _).drew
 have HL := yh (kF _ y.nodes[k] _ v W3.drew ((uh HE).later nd) (hr.later nd) ((uh HV).reads.later nd))
 have HGD : Hid (aA 0 _ 39 W3.drew g) := (uh HG).ai nd
 have HOD : Hid (eL W3.drew lo g _ y) := (uh HO).later nd
 clear nd hr hcl RN
 go_upto_region 7 with fail
 by_cases hc : (dp y.nodes[k] v).code = 0
 ·
  have HCD := yh hc
  have HID := yh (uh HIDN hc)
  have HC : Hid (fh y v = ec y v) := by
   show fh y v = _
   rw [uh HAC, if_neg (by rw [hc]; simp)]
  clear hc HAC HIDN
  generalize hnn : y.nodes[k] = n at *
  clear hnn
  refine wZz (fun w' => Ext (fun q => lo ≤ q ∧ q ≠ g) W3 w') ((Ext.refl _ _).drew 1) (fun zq => ?_)
  generalize W3.drew = wD at zq HL HGD HOD x0 x1 x2 x3 x4 x5 x6 ⊢
  refine tkH 0 zq ?_
  refine tkH 1 zq ?_
  refine tkH 2 zq ?_
  refine tkH 3 zq ?_
  refine tkJ 4 (v := ?vo4) ?ho4 zq ?ro4
  case ho4 =>
   intro wS hSw
   have q := (cell_of_heap (hSw.block g hgl (fun e => e.2 rfl)) 4).trans g4
   clear hSw
   exact fZ
  refine tkH 5 zq ?_
  refine tkH 6 zq ?_
  refine tkH 7 zq ?_
  refine tkJ 9 (v := ?vo9) ?ho9 zq ?ro9
  case ho9 =>
   intro wS hSw
   have q0 := (cell_of_heap (hSw.block p hpl3 (fun e => by have := e.1; omega)) 0).trans h0
   have q1 := (cell_of_heap (hSw.block p hpl3 (fun e => by have := e.1; omega)) 1).trans h1
   have q2 := (cell_of_heap (hSw.block p hpl3 (fun e => by have := e.1; omega)) 2).trans h2
   have q3 := (cell_of_heap (hSw.block p hpl3 (fun e => by have := e.1; omega)) 3).trans h3
   have q4 := (cell_of_heap (hSw.block p hpl3 (fun e => by have := e.1; omega)) 4).trans h4
   clear hSw
   exact fZ
  refine rdH 8 (fun K hK => ?_)
  go_simp
  refine hK.out _ _ zq (fun zq => ?_)
  clear hK K
  try simp only [Act.put, pz, py, px]
  refine rdH 10 (fun K hK => ?_)
  clear x0 x1 x2 x3 x4 x5 x6
  go_simp
  go_at_call 105
  refine (uh HL).mono ?_
  rintro e w3 ⟨us, rfl, O, hb3⟩
  try go_wp2_with fail
  refine hK.out _ _ (zq.trans (az hb3 _)) (fun zq => ?_)
  clear hK K
  try simp only [Act.put, pz, py, px]
  refine rdH 11 (fun K hK => ?_)
  go_simp
  go_at_call 104
  refine (n0 g lo k _ _ _ _ y us _ wD w3 (uh HGD) (uh HOD) hb3 O (uh HCD) hk hn5 (uh HID)).mono ?_
  rintro e w5 ⟨rfl, ⟨u3, u4, u5, u6, hgz, hOz⟩, he5⟩
  try go_wp2_with fail
  refine hK.out _ _ (zq.trans he5) (fun zq => ?_)
  clear hK K
  try simp only [Act.put, pz, py, px]
  refine tkH 12 zq ?_
  refine tkH 13 zq ?_
  refine tkH 14 zq ?_
  refine tkH 15 zq ?_
  refine tkH 16 zq ?_
  refine dZ ?_
  have hs5 := he5.size
  have hgW3 : g < w3.heap.size := Nat.lt_of_lt_of_le (uh HGD).lt hb3.size
  have hbx : aA 0 _ 39 w5 g := ((uh HGD).ai hb3).ext he5 (fun e => e.2 rfl)
  have q6 := aA.at hbx 6 _ rfl
  have r6 := aA.at hgz 6 _ rfl
  simp only [ga, gb, gc] at q6 r6
  rw [q6] at r6
  simp only [Option.some.injEq] at r6
  subst r6
  have hP5 : aA 0 _ 44 w5 p := (uh HP).ext zq (fun e => by have := e.1; omega)
  have hV5 := (uh HV).ext zq (fun q h1 h2 h3 => by have := h3.1; omega)
  have hlen : y.af.length = (dA y (dp n v).node).af.length := rfl
  have HN := yh (oJ g lo g6 0 y.af.length u3 u4 u5 (dA y (dp n v).node) v _ w5 hgz hlo hOz hV5.reads (uh HEV))
  replace HX := yh ((uh HX).trans (zq.mono (fun q _ h => h.1)))
  have HP5 := yh hP5
  clear zq hgz hOz he5 hb3 O HL HGD HOD hbx q6 hP5 hV5 HG HO HP HV hlen
  obtain ⟨p0, p1, p2, p3, p4⟩ := aZ5 (uh HP5)
  have hpl := (uh HP5).lt
  go_wp2_with fail
  refine (uh HN).mono ?_
  rintro e w9 hnp
  unfold dE at hnp
  obtain ⟨m9, rfl, hm9, hx9⟩ := hnp
  have HM9 := yh hm9
  have HX9 := yh ((uh HX).trans hx9)
  rw [qb] at HM9 ⊢
  clear hm9 hx9 HN p0 p1 p2 p3 p4 hpl HP5
  go_wp2_with fail
  go_ret2
  unfold dE
  rw [uh HC, uh HAW]
  exact ⟨m9, rfl, fun h0 => ⟨(uh HM9 h0).1, (uh HM9 h0).2⟩, uh HX9⟩
 have HCD := yh hc
 have HC : Hid (fh y v = (dp y.nodes[k] v).code) := by
  show fh y v = _
  rw [uh HAC, if_pos hc]
 clear HAC HIDN HAW
 generalize hnn : y.nodes[k] = n at *
 clear hnn
 refine wZz (fun w' => Ext (fun q => lo ≤ q ∧ q ≠ g) W3 w') ((Ext.refl _ _).drew 1) (fun zq => ?_)
 generalize W3.drew = wD at zq HL HGD HOD x0 x1 x2 x3 x4 x5 x6 ⊢
 refine tkH 0 zq ?_
 refine tkH 1 zq ?_
 refine tkH 2 zq ?_
 refine tkH 3 zq ?_
 refine tkJ 4 (v := ?vb4) ?hb4 zq ?rb4
 case hb4 =>
  intro wS hSw
  have q := (cell_of_heap (hSw.block g hgl (fun e => e.2 rfl)) 4).trans g4
  clear hSw
  exact fZ
 refine tkH 5 zq ?_
 refine tkH 6 zq ?_
 refine tkH 7 zq ?_
 refine tkJ 9 (v := ?vb9) ?hb9 zq ?rb9
 case hb9 =>
  intro wS hSw
  have q0 := (cell_of_heap (hSw.block p hpl3 (fun e => by have := e.1; omega)) 0).trans h0
  have q1 := (cell_of_heap (hSw.block p hpl3 (fun e => by have := e.1; omega)) 1).trans h1
  have q2 := (cell_of_heap (hSw.block p hpl3 (fun e => by have := e.1; omega)) 2).trans h2
  have q3 := (cell_of_heap (hSw.block p hpl3 (fun e => by have := e.1; omega)) 3).trans h3
  have q4 := (cell_of_heap (hSw.block p hpl3 (fun e => by have := e.1; omega)) 4).trans h4
  clear hSw
  exact fZ
 refine rdH 8 (fun K hK => ?_)
 go_simp
 refine hK.out _ _ zq (fun zq => ?_)
 clear hK K
 try simp only [Act.put, pz, py, px]
 refine rdH 10 (fun K hK => ?_)
 clear x0 x1 x2 x3 x4 x5 x6
 go_simp
 go_at_call 105
 refine (uh HL).mono ?_
 rintro e w3 ⟨us, rfl, O, hb3⟩
 try go_wp2_with fail
 refine hK.out _ _ (zq.trans (az hb3 _)) (fun zq => ?_)
 clear hK K
 try simp only [Act.put, pz, py, px]
 refine rdH 11 (fun K hK => ?_)
 go_simp
 go_at_call 104
 refine (m1 g us _ w3 O.reads (uh HCD)).mono ?_
 rintro e w5 ⟨rfl, hb5⟩
 try go_wp2_with fail
 refine hK.out _ _ (zq.trans (az hb5 _)) (fun zq => ?_)
 clear hK K
 try simp only [Act.put, pz, py, px]
 refine tkH 12 zq ?_
 refine tkH 13 zq ?_
 refine tkH 14 zq ?_
 refine tkH 15 zq ?_
 refine tkH 16 zq ?_
 refine dZ ?_
 replace HX := yh ((uh HX).trans (zq.mono (fun q _ h => h.1)))
 clear zq hb5 hb3 O HL HGD HOD
 have hd : ((dp n v).code != 0) = true := by simpa using hc
 generalize (dp n v).code = c at *
 go_wp2_with fail
 go_ret2
 unfold dE
 exact ⟨false, by rw [uh HC]; rfl, fun h0 => by rw [uh HC] at h0; exact absurd h0 (hc), uh HX⟩
theorem ud (a b c d e0 : Value) (w : World) :
  Calls Tryz.prog 46 #[.agg #[a, b, c, d, e0]] w fun e w' => e = .returned (.func (.func 100) #[] #[.pointer (some ⟨w.heap.size, 0, none⟩)]) ∧ w' = (w.alloc (.cells #[a, b, c, d, e0] 44)) := by
 have hmf : ∀ (fn : Fn) (first cap : Array Value) (w : World), (Instr.makeFunc fn first cap).run Tryz.prog w = .ok (.func fn first cap) w := fun _ _ _ _ => rfl
 go_enter Tryz.func46, Tryz.ntmps46
 go_wp2_with fail
 go_ret
 exact ⟨rfl, rfl⟩
theorem tB (y : ay) (v : aj) (hok : ej y) : -1000000000 ≤ fh y v ∧ fh y v ≤ 1000000000 := by
 have h1 := fo v
 have h2 := rN y v
 unfold fh
 split
 ·
  omega
 split
 ·
  omega
 rename_i hm
 obtain ⟨k, hk, hh⟩ := gU hok.ids (by have := (cB hok.chain).len; omega)
 have hup := gN (show cT y (eA y) = true by simpa using hm)
 have h3 := (mq (v := v) (n := ct y (eA y)) (by rw [hh, dH hk]; exact (hok.nodes k hk).1) hup).1
 have h4 := nQ (ct y (eA y)) v
 rw [← h3] at h4
 split
 ·
  exact h4
 exact h2
theorem qU (x : ay) (v : aj) (hok : ej x) : -1000000000 ≤ fh (cI x) v ∧ fh (cI x) v ≤ 1000000000 := by
 have h := tB x v hok
 exact h
theorem mF (cs us : List Value) (x : ay) (v : aj) (w : World) (hE : ix w) (h : ab.aF.Reads w cs x) (hv : ab.ag.Reads w us v) (hf : Fits x) :
  Calls Tryz.prog 12 #[.agg cs.toArray, .agg us.toArray] w fun e w' => ∃ cs', e = .returned (.agg cs'.toArray) ∧ ab.aE.aN w' cs' (ib x v) w.heap.size w'.heap.size ∧ Below w.heap.size w w' := by
 obtain ⟨a3, d3, a4, d4, a5, d5, a6, d6, rfl, -, -, -, -⟩ := aK h
 obtain ⟨av, dv, rfl, -⟩ := aM hv
 have nb : Below w.heap.size w (((w.alloc (.cells #[.int .i64 x.now, .int .i64 x.events, .int .i64 x.chain.ae, .slice a3 x.chain.ids.length d3, .slice a4 x.nodes.length d4, .slice a5 x.msgs.length d5, .slice a6 x.af.length d6] 39)).alloc (.cells #[.int .i64 v.kind, .int .i64 v.id, .slice av v.vec.length dv, .int .i64 v.aa, .int .i64 v.seq] 44)).alloc (.cells #[.int .i64 0, .bool false, .int .i64 0, .int .i64 0, .int .i64 0, .slice none 0 0, .slice none 0 0, .slice none 0 0, .slice none 0 0] 41)) := (((Below.refl _ _).alloc (Nat.le_refl _) _).alloc (by simp) _).alloc (by simp; omega) _
 have HX : Hid (aA 0 #[.int .i64 x.now, .int .i64 x.events, .int .i64 x.chain.ae, .slice a3 x.chain.ids.length d3, .slice a4 x.nodes.length d4, .slice a5 x.msgs.length d5, .slice a6 x.af.length d6] 39 (((w.alloc (.cells #[.int .i64 x.now, .int .i64 x.events, .int .i64 x.chain.ae, .slice a3 x.chain.ids.length d3, .slice a4 x.nodes.length d4, .slice a5 x.msgs.length d5, .slice a6 x.af.length d6] 39)).alloc (.cells #[.int .i64 v.kind, .int .i64 v.id, .slice av v.vec.length dv, .int .i64 v.aa, .int .i64 v.seq] 44)).alloc (.cells #[.int .i64 0, .bool false, .int .i64 0, .int .i64 0, .int .i64 0, .slice none 0 0, .slice none 0 0, .slice none 0 0, .slice none 0 0] 41)) w.heap.size) := ((aD (Nat.zero_le _)).grow _).grow _
 have HVB : Hid (aA 0 #[.int .i64 v.kind, .int .i64 v.id, .slice av v.vec.length dv, .int .i64 v.aa, .int .i64 v.seq] 44 (((w.alloc (.cells #[.int .i64 x.now, .int .i64 x.events, .int .i64 x.chain.ae, .slice a3 x.chain.ids.length d3, .slice a4 x.nodes.length d4, .slice a5 x.msgs.length d5, .slice a6 x.af.length d6] 39)).alloc (.cells #[.int .i64 v.kind, .int .i64 v.id, .slice av v.vec.length dv, .int .i64 v.aa, .int .i64 v.seq] 44)).alloc (.cells #[.int .i64 0, .bool false, .int .i64 0, .int .i64 0, .int .i64 0, .slice none 0 0, .slice none 0 0, .slice none 0 0, .slice none 0 0] 41)) (w.heap.size + 1)) := (bm (Nat.zero_le _) (by simp)).grow _
 have HY : Hid (aA 0 #[.int .i64 0, .bool false, .int .i64 0, .int .i64 0, .int .i64 0, .slice none 0 0, .slice none 0 0, .slice none 0 0, .slice none 0 0] 41 (((w.alloc (.cells #[.int .i64 x.now, .int .i64 x.events, .int .i64 x.chain.ae, .slice a3 x.chain.ids.length d3, .slice a4 x.nodes.length d4, .slice a5 x.msgs.length d5, .slice a6 x.af.length d6] 39)).alloc (.cells #[.int .i64 v.kind, .int .i64 v.id, .slice av v.vec.length dv, .int .i64 v.aa, .int .i64 v.seq] 44)).alloc (.cells #[.int .i64 0, .bool false, .int .i64 0, .int .i64 0, .int .i64 0, .slice none 0 0, .slice none 0 0, .slice none 0 0, .slice none 0 0] 41)) (w.heap.size + 1 + 1)) := bm (Nat.zero_le _) (by simp)
 have hz0 : (((w.alloc (.cells #[.int .i64 x.now, .int .i64 x.events, .int .i64 x.chain.ae, .slice a3 x.chain.ids.length d3, .slice a4 x.nodes.length d4, .slice a5 x.msgs.length d5, .slice a6 x.af.length d6] 39)).alloc (.cells #[.int .i64 v.kind, .int .i64 v.id, .slice av v.vec.length dv, .int .i64 v.aa, .int .i64 v.seq] 44)).alloc (.cells #[.int .i64 0, .bool false, .int .i64 0, .int .i64 0, .int .i64 0, .slice none 0 0, .slice none 0 0, .slice none 0 0, .slice none 0 0] 41)).heap.size = w.heap.size + 3 := by simp
 have HR := yh (h.later nb)
 have HV := yh (hv.later nb)
 have HB := yh nb
 have HFT := yh hf
 have HEE := yh (hE.later nb)
 clear nb h hf hv hE
 go_enter Tryz.func12, Tryz.ntmps12
 go_upto_region 1 with fail
 generalize (((w.alloc (.cells #[.int .i64 x.now, .int .i64 x.events, .int .i64 x.chain.ae, .slice a3 x.chain.ids.length d3, .slice a4 x.nodes.length d4, .slice a5 x.msgs.length d5, .slice a6 x.af.length d6] 39)).alloc (.cells #[.int .i64 v.kind, .int .i64 v.id, .slice av v.vec.length dv, .int .i64 v.aa, .int .i64 v.seq] 44)).alloc (.cells #[.int .i64 0, .bool false, .int .i64 0, .int .i64 0, .int .i64 0, .slice none 0 0, .slice none 0 0, .slice none 0 0, .slice none 0 0] 41)) = W1 at *
 have LI : Hid (∀ V, Below W1.heap.size W1 V → Calls Tryz.prog 24 #[.agg #[.int .i64 x.now, .int .i64 x.events, .int .i64 x.chain.ae, .slice a3 x.chain.ids.length d3, .slice a4 x.nodes.length d4, .slice a5 x.msgs.length d5, .slice a6 x.af.length d6]] V fun e w' => e = .returned (.int .i64 (aW x)) ∧ Below V.heap.size V w') := fun V hV => jQ _ x V ((uh HR).later hV)
 have LS : Hid (∀ VV, Below W1.heap.size W1 VV → Calls Tryz.prog 45 #[.agg #[.int .i64 x.now, .int .i64 x.events, .int .i64 x.chain.ae, .slice a3 x.chain.ids.length d3, .slice a4 x.nodes.length d4, .slice a5 x.msgs.length d5, .slice a6 x.af.length d6], .int .i64 (aW x), .func (.func 100) #[] #[.pointer (some ⟨VV.heap.size, 0, none⟩)]] (VV.alloc (.cells #[.int .i64 v.kind, .int .i64 v.id, .slice av v.vec.length dv, .int .i64 v.aa, .int .i64 v.seq] 44)) fun e w' => ∃ cs', e = .returned (.agg cs'.toArray) ∧ ab.aE.aN w' cs' (ib x v) VV.heap.size w'.heap.size ∧ Below VV.heap.size VV w') := by
  intro VV hV
  have nv : Below VV.heap.size VV (VV.alloc (.cells #[.int .i64 v.kind, .int .i64 v.id, .slice av v.vec.length dv, .int .i64 v.aa, .int .i64 v.seq] 44)) := (Below.refl _ _).alloc (Nat.le_refl _) _
  by_cases hw0 : aW x = 0
  ·
   have hok := cW hw0
   refine (nc 100 _ _ x (aW x) (fh (cI x) v) true (kV (cI x) v) _ (fun a W => rfl) ((uh HR).later (hV.trans (nv.mono hV.size))) (fun h0 => cW h0) (uh HFT) (qU x v hok) (by have := pU x; omega) (fun h0 W hW => ?_)).mono ?_
   ·
    exact sa _ VV.heap.size av dv v (cI x) W (aA.ai (aD (Nat.zero_le _)) hW) (by simp) ((((uh HV).later hV).later nv).dd.later hW) ((((uh HEE).later hV).later nv).later hW) hok.ids (by have := (cB hok.chain).len; show 1 ≤ x.chain.ids.length; omega) hok.some.2 (fun j h => ⟨(hok.nodes j h).1, (hok.nodes j h).2.1⟩) (by have := hok.events; show -1000000000 ≤ x.events + 1 ∧ x.events + 1 ≤ 1000000000; omega)
   rintro e w' ⟨cs', rfl, O, hb⟩
   rw [tJ] at O
   exact ⟨cs', rfl, O.mono nv.size (Nat.le_refl _), nv.trans (hb.mono nv.size)⟩
  refine (nc 100 _ _ x (aW x) 0 true (kV (cI x) v) _ (fun a W => rfl) ((uh HR).later (hV.trans (nv.mono hV.size))) (fun h0 => cW h0) (uh HFT) (by omega) (by have := pU x; omega) (fun h0 W hW => absurd h0 hw0)).mono ?_
  rintro e w' ⟨cs', rfl, O, hb⟩
  rw [show dm x (aW x) 0 true (kV (cI x) v) = ib x v by rw [dm, if_pos hw0, ib, if_pos hw0]] at O
  exact ⟨cs', rfl, O.mono nv.size (Nat.le_refl _), nv.trans (hb.mono nv.size)⟩
 have hx := uh HX
 have hvb := uh HVB
 have hxl := hx.lt
 have HD : Hid (Below W1.heap.size W1 W1.drew) := (Below.refl _ _).drew
 replace HY : Hid (aA 0 #[.int .i64 0, .bool false, .int .i64 0, .int .i64 0, .int .i64 0, .slice none 0 0, .slice none 0 0, .slice none 0 0, .slice none 0 0] 41 W1.drew (w.heap.size + 1 + 1)) := (uh HY)
 refine wZz (fun w' => Ext (fun q => w.heap.size + 1 < q) W1 w') ((Ext.refl _ _).drew 1) (fun zq => ?_)
 generalize W1.drew = wD at zq HD HY ⊢
 refine tkJ 0 (v := ?vf0) ?hf0 zq ?rf0
 case hf0 =>
  intro wS hSw
  have bS := hx.ext hSw (fun e => by omega)
  obtain ⟨q0, q1, q2, q3, q4, q5, q6⟩ := aZ7 bS
  clear bS hSw
  exact fZ
 refine tkJ 1 (v := ?vf1) ?hf1 zq ?rf1
 case hf1 =>
  intro wS hSw
  have bS := hx.ext hSw (fun e => by omega)
  obtain ⟨q0, q1, q2, q3, q4, q5, q6⟩ := aZ7 bS
  clear bS hSw
  exact fZ
 refine tkJ 3 (v := ?vf3) ?hf3 zq ?rf3
 case hf3 =>
  intro wS hSw
  have bS := hvb.ext hSw (fun e => by omega)
  obtain ⟨q0, q1, q2, q3, q4⟩ := aZ5 bS
  clear bS hSw
  exact fZ
 refine rdH 2 (fun K hK => ?_)
 go_simp
 go_at_call 24
 refine (uh LI _ (uh HD)).mono ?_
 rintro e u1 ⟨rfl, hb1⟩
 have HD1 := yh ((uh HD).trans (hb1.mono (uh HD).size))
 have HY1 := yh ((uh HY).ai hb1)
 try go_wp2_with fail
 have hH1 := zq.trans (az hb1 (fun q => w.heap.size + 1 < q))
 refine hK.out _ _ (zq.trans (az hb1 _)) (fun zq => ?_)
 clear hK K
 try simp only [Act.put, pz, py, px]
 refine rdH 4 (fun K hK => ?_)
 go_simp
 go_at_call 46
 refine (ud _ _ _ _ _ _).mono ?_
 rintro e u2 ⟨rfl, rfl⟩
 try go_wp2_with fail
 refine hK.out _ _ (zq.trans (az ((Below.refl _ _).alloc (Nat.le_refl _) _) _)) (fun zq => ?_)
 clear hK K
 try simp only [Act.put, pz, py, px]
 refine rdH 5 (fun K hK => ?_)
 go_simp
 go_at_call 45
 refine (uh LS u1 (uh HD1)).mono ?_
 rintro e u3 ⟨cs, rfl, O, hb3⟩
 obtain ⟨a5r, d5r, a6r, d6r, a7r, d7r, a8r, d8r, rfl, -⟩ := br O.reads
 have hy := (uh HY1).ai hb3
 try go_wp2_with fail
 refine hK.out _ _ (hH1.trans (az hb3 _)) (fun zq => ?_)
 clear hK K
 try simp only [Act.put, pz, py, px]
 refine rdH 6 (fun K hK => ?_)
 generalize hyr : ib x v = yr at *
 have HYR := yh hyr
 clear hyr
 obtain ⟨r0, r1, r2, r3, r4, r5, r6, r7, r8⟩ := aZ9 hy
 have rf := aA.soft hy
 have rl := hy.lt
 go_simp
 refine hK.out _ _ (Ext.setCell (Ext.setCell (Ext.setCell (Ext.setCell (Ext.setCell (Ext.setCell (Ext.setCell (Ext.setCell (Ext.setCell zq ⟨w.heap.size + 1 + 1, 0, none⟩ (.int .i64 yr.code) (Nat.lt_succ_self _)) ⟨w.heap.size + 1 + 1, 1, none⟩ (.bool yr.aZ) (Nat.lt_succ_self _)) ⟨w.heap.size + 1 + 1, 2, none⟩ (.int .i64 yr.world.now) (Nat.lt_succ_self _)) ⟨w.heap.size + 1 + 1, 3, none⟩ (.int .i64 yr.world.events) (Nat.lt_succ_self _)) ⟨w.heap.size + 1 + 1, 4, none⟩ (.int .i64 yr.world.chain.ae) (Nat.lt_succ_self _)) ⟨w.heap.size + 1 + 1, 5, none⟩ (.slice a5r yr.world.chain.ids.length d5r) (Nat.lt_succ_self _)) ⟨w.heap.size + 1 + 1, 6, none⟩ (.slice a6r yr.world.nodes.length d6r) (Nat.lt_succ_self _)) ⟨w.heap.size + 1 + 1, 7, none⟩ (.slice a7r yr.world.msgs.length d7r) (Nat.lt_succ_self _)) ⟨w.heap.size + 1 + 1, 8, none⟩ (.slice a8r yr.world.af.length d8r) (Nat.lt_succ_self _)) (fun zq => ?_)
 clear hK K
 try simp only [Act.put, pz, py, px]
 refine dZ ?_
 have hy9 := fK hy (.int .i64 yr.code) (.bool yr.aZ) (.int .i64 yr.world.now) (.int .i64 yr.world.events) (.int .i64 yr.world.chain.ae) (.slice a5r yr.world.chain.ids.length d5r) (.slice a6r yr.world.nodes.length d6r) (.slice a7r yr.world.msgs.length d7r) (.slice a8r yr.world.af.length d8r)
 have e2 : Ext (fun q => q = w.heap.size + 1 + 1) u3 (aG u3 (w.heap.size + 1 + 1) 0 [.int .i64 yr.code, .bool yr.aZ, .int .i64 yr.world.now, .int .i64 yr.world.events, .int .i64 yr.world.chain.ae, .slice a5r yr.world.chain.ids.length d5r, .slice a6r yr.world.nodes.length d6r, .slice a7r yr.world.msgs.length d7r, .slice a8r yr.world.af.length d8r]) := bb _ (Ext.refl _ _) _ _ _ rfl
 have hs1 := hb1.size
 have hs2 := (uh HB).size
 have hs3 := (uh HD).size
 have HO := yh (O.ext e2 (fun q h1 h2 h3 => by omega))
 have HB9 := yh (aB (((uh HB).trans ((uh HD1).mono (uh HB).size)).trans (hb3.mono (by omega))) (w.heap.size + 1 + 1) 0 [.int .i64 yr.code, .bool yr.aZ, .int .i64 yr.world.now, .int .i64 yr.world.events, .int .i64 yr.world.chain.ae, .slice a5r yr.world.chain.ids.length d5r, .slice a6r yr.world.nodes.length d6r, .slice a7r yr.world.msgs.length d7r, .slice a8r yr.world.af.length d8r] (by omega))
 have hsz : Hid ((aG u3 (w.heap.size + 1 + 1) 0 [.int .i64 yr.code, .bool yr.aZ, .int .i64 yr.world.now, .int .i64 yr.world.events, .int .i64 yr.world.chain.ae, .slice a5r yr.world.chain.ids.length d5r, .slice a6r yr.world.nodes.length d6r, .slice a7r yr.world.msgs.length d7r, .slice a8r yr.world.af.length d8r]).heap.size = u3.heap.size) := bL _ _ _ _
 clear r0 r1 r2 r3 r4 r5 r6 r7 r8 rf rl
 obtain ⟨r0, r1, r2, r3, r4, r5, r6, r7, r8⟩ := aZ9 hy9
 clear hy hy9 zq e2 O hb3 hb1
 go_wp2_with fail
 refine bodyPost_ret (v := .agg #[.int .i64 yr.code, .bool yr.aZ, .int .i64 yr.world.now, .int .i64 yr.world.events, .int .i64 yr.world.chain.ae, .slice a5r yr.world.chain.ids.length d5r, .slice a6r yr.world.nodes.length d6r, .slice a7r yr.world.msgs.length d7r, .slice a8r yr.world.af.length d8r]) (by simp only [aG] at r0 r1 r2 r3 r4 r5 r6 r7 r8; simp [results, Tryz.results12, go_sem, r0, r1, r2, r3, r4, r5, r6, r7, r8]) rfl ?_
 rw [uh HYR]
 exact ⟨_, rfl, (uh HO).mono (by omega) (Nat.le_of_eq (uh hsz).symm), uh HB9⟩
theorem sU {n : aV} {v : aj} (hfw : aR n.writes = 0) (hn : n.writes.length ≤ 1000 ∧ ∀ y ∈ n.writes, wF y = 0) (hf : wF v = 0) (h : (takeN n v).1 = 0) : (takeN n v).2.writes.length ≤ 1000 ∧ ∀ y ∈ (takeN n v).2.writes, wF y = 0 := by
 rw [kp] at h
 rw [jH h]
 show (bF n.writes v).writes.length ≤ 1000 ∧ ∀ y ∈ (bF n.writes v).writes, wF y = 0
 by_cases hs : ck n.writes v.aa v.seq = 0
 ·
  by_cases c : v.seq < aT n.writes v.aa
  ·
   rw [gi hfw hf hs c]; simp
  by_cases c2 : 200 ≤ n.writes.length
  ·
   rw [fy hfw hf hs c c2]; simp
  rw [gn hfw hf hs c c2]
  refine ⟨by simp; omega, fun y hy => ?_⟩
  rcases List.mem_append.1 hy with hy | hy
  ·
   exact hn.2 y hy
  rw [List.mem_singleton.1 hy]; exact hf
 rw [fB hfw hf hs]
 exact hn
theorem lW {α : Type} (f : α → Nat) : ∀ (xs : List α) (x : α), al f (xs ++ [x]) = al f xs + f x
 | [], x => by simp [al]
 | y :: ys, x => by
  have := lW f ys x
  simp only [List.cons_append, al] at this ⊢
  omega
theorem sg {x : ay} {v : aj} (hs : ab.aF.sz x ≤ 1048576) : ab.aE.ak (ib x v) ≤ 100000000 := by
 unfold ib
 split
 ·
  exact fH _
 rename_i q
 have hwf : aW x = 0 := by simpa using q
 have hok := cW hwf
 have hF := qW hok hs
 obtain ⟨k, hk, hh⟩ := gU hok.ids (by have := (cB hok.chain).len; omega)
 have hh2 : x.chain.ids.getD 0 0 = (k : Int) + 1 := hh
 have hnw := qP hF ((k : Int) + 1)
 have hfw : aR (ct x ((k : Int) + 1)).writes = 0 := by
  rw [dH hk]
  exact (cR (hok.nodes k hk).1).aR
 rw [hh2]
 split
 ·
  exact fH _
 split
 ·
  exact fH _
 rename_i qw
 have hv : wF v = 0 := by simpa using qw
 split
 ·
  exact fH _
 split
 ·
  exact fH _
 rename_i qt
 have hp := tZ (sX hF) (sU hfw hnw hv (by simpa using qt))
 split
 ·
  exact jI hp
 split
 ·
  exact fH _
 refine jI ⟨hp.ids, hp.len, hp.nodes, hp.ua, hp.msgs, ?_⟩
 show al ab.ar.bV (x.af ++ [cP v (x.events + 1)]) ≤ 20000000
 have hx : ab.aF.sz x = 0 + (0 + ((0 + (x.chain.ids.length + al ab.int.sz x.chain.ids)) + ((x.nodes.length + al ab.ax.sz x.nodes) + ((x.msgs.length + al ab.aQ.sz x.msgs) + (x.af.length + al ab.ar.sz x.af))))) := rfl
 have h1 := iT x.af
 have h3 := hok.uQ
 have h2 : al ab.ar.bV (x.af ++ [cP v (x.events + 1)]) = al ab.ar.bV x.af + 8 := by
  rw [lW]
  rfl
 omega
theorem nU (cs us : List Value) (x : ay) (v : aj) (w : World) (ht : ix w) (h : ab.aF.Reads w cs x) (hv : ab.ag.Reads w us v) :
  Calls Tryz.prog 3 #[.agg cs.toArray, .agg us.toArray] w fun e w' => e = .returned (.bool true) ∧ Below w.heap.size w w' := by
 by_cases hn : ab.aF.sz x + ab.ag.sz v ≤ 1048576
 ·
  have hx : ab.aF.sz x ≤ 1048576 := by omega
  refine kK cs x us v (ib x v) w h hv hn ht (fun W a b _ ha hb => mB a b x v W ha hb (km hx)) (fun W a b hE ha hb => mF a b x v W hE ha hb (km hx)) (sg hx)
 exact iN cs x us v w h hv (by omega)
end Go.Proofs.YtomphbenbnnfgaaGreatDoor
