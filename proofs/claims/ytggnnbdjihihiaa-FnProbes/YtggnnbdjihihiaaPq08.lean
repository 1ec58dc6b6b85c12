/-
  Texts of this proof in one: ImplForm, TakenPlain, HeldPlain, ImplTLists, ImplTIvf, ProbeKit, ImplProbesOf, AppHit, SpecProbes, InB, SpecTab, SpecLists7, SpecItems7, SpecFault7.
  Their conditions stand in their theorems.
-/
import Derived.Test.YtggnnbdjihihiaaPq06
import Derived.Test.YtggnnbdjihihiaaPq07
import Derived.Test.YtggnnbdjihihiaaPq02
import Derived.Test.YtggnnbdjihihiaaPq01
import Derived.Test.YtggnnbdjihihiaaChecked
import Derived.Test.YtggnnbdjihihiaaPq05
import Derived.Test.YtggnnbdjihihiaaPq03
import Derived.BigQuiet
import Derived.Deep.QuietTactic
import Derived.Deep.RegionHeld3

namespace Go.Proofs.Ytggnnbdjihihiaa
open Go.RowKit Go.Shelf
attribute [local go_sem] Oper.semAt_some

set_option maxRecDepth 100000 in
set_option maxHeartbeats 4000000 in
theorem implForm_cen (x : DIvf) (ac : Option Addr) (dc : Nat) (al : Option Addr) (dl : Nat) (w : World) (h1 : (Lay.sl Lay.tCenter).Reads w [.slice ac x.centers.length dc] x.centers) (h2 : (Lay.sl Lay.tIvfList).Reads w [.slice al x.lists.length dl] x.lists) (hf : centersFault x.centers ≠ 0) :
    Calls Try.prog 119 #[.agg #[.slice ac x.centers.length dc, .slice al x.lists.length dl]] w fun e w' => e = .returned (.int .i64 (formF x)) ∧ Below w.heap.size w w' := by
  have nb1 : Below w.heap.size w (w.alloc (.cells #[.slice ac x.centers.length dc, .slice al x.lists.length dl] 27)) := (Below.refl _ _).alloc (Nat.le_refl _) _
  have nb2 : Below w.heap.size w ((w.alloc (.cells #[.slice ac x.centers.length dc, .slice al x.lists.length dl] 27)).alloc (.cells #[.int .i64 0] 2)) := nb1.alloc (by simp) _
  have bX : Box w.heap.size #[.slice ac x.centers.length dc, .slice al x.lists.length dl] 27 ((w.alloc (.cells #[.slice ac x.centers.length dc, .slice al x.lists.length dl] 27)).alloc (.cells #[.int .i64 0] 2)) w.heap.size := (newBox (Nat.le_refl _)).grow _
  have bR : Box w.heap.size #[.int .i64 0] 2 ((w.alloc (.cells #[.slice ac x.centers.length dc, .slice al x.lists.length dl] 27)).alloc (.cells #[.int .i64 0] 2)) (w.heap.size + 1) := newBoxAt (by omega) (by simp)
  have R1 := h1.later nb2
  have R2 := h2.later nb2
  have c0 := bX.at 0 _ rfl
  have c1 := bX.at 1 _ rfl
  have L := implCen _ x.centers _ R1
  generalize hF0 : formF x = F0
  have HF0 := hide hF0
  clear hF0 nb1 h1 h2
  refine (callsIn_wide (n := 9)).1 ?_
  refine callsIn_of_wp_marks Try.func119 rfl trivial ?_ rfl
  refine wpIn_wide.2 ?_
  simp only [Try.ntmps119, List.size_toArray, List.length_cons, List.length_nil, Nat.reduceAdd, Nat.reduceSub, Array.replicate_succ, Array.replicate_zero, List.push_toArray, List.append_toArray, List.nil_append, List.cons_append]
  go_wp2_with fail
  refine L.mono ?_
  generalize (w.alloc (.cells #[.slice ac x.centers.length dc, .slice al x.lists.length dl] 27)).alloc (.cells #[.int .i64 0] 2) = W0 at *
  rintro e w1 ⟨rfl, hb⟩
  replace R1 := R1.later hb
  replace R2 := R2.later hb
  replace bX := bX.keep hb
  replace bR := bR.keep hb
  replace nb2 := nb2.trans (hb.mono nb2.size)
  clear hb L c0 c1
  have c0 := bX.at 0 _ rfl
  have c1 := bX.at 1 _ rfl
  have r0 := bR.at 0 _ rfl
  have f0 := bR.soft 0
  have lX := bX.lt
  have lR := bR.lt
  have hd : (centersFault x.centers != 0) = true := by simpa using hf
  have hF : Hid (F0 = centersFault x.centers) := by show F0 = _; rw [← unhide HF0]; exact if_neg hf
  have HB := hide nb2
  have HR := hide bR
  clear nb2 R1 R2 hf bX bR
  go_wp2_with fail
  have z5 : (w1.setCell ⟨w.heap.size + 1, 0, none⟩ (.int .i64 (centersFault x.centers))).cell? ⟨w.heap.size + 1, 0, none⟩ = some (.int .i64 (centersFault x.centers)) := ((unhide HR).set 0 _).at 0 _ rfl
  exact ⟨.int .i64 (centersFault x.centers), by simp [results, Try.results119, go_sem, z5], by rw [unhide hF], (unhide HB).setCell (by simp) _⟩

set_option maxRecDepth 100000 in
set_option maxHeartbeats 4000000 in
theorem implForm_len (x : DIvf) (ac : Option Addr) (dc : Nat) (al : Option Addr) (dl : Nat) (w : World) (h1 : (Lay.sl Lay.tCenter).Reads w [.slice ac x.centers.length dc] x.centers) (h2 : (Lay.sl Lay.tIvfList).Reads w [.slice al x.lists.length dl] x.lists) (hf : centersFault x.centers = 0) (hl : x.lists.length ≠ x.centers.length) :
    Calls Try.prog 119 #[.agg #[.slice ac x.centers.length dc, .slice al x.lists.length dl]] w fun e w' => e = .returned (.int .i64 (formF x)) ∧ Below w.heap.size w w' := by
  have nb1 : Below w.heap.size w (w.alloc (.cells #[.slice ac x.centers.length dc, .slice al x.lists.length dl] 27)) := (Below.refl _ _).alloc (Nat.le_refl _) _
  have nb2 : Below w.heap.size w ((w.alloc (.cells #[.slice ac x.centers.length dc, .slice al x.lists.length dl] 27)).alloc (.cells #[.int .i64 0] 2)) := nb1.alloc (by simp) _
  have bX : Box w.heap.size #[.slice ac x.centers.length dc, .slice al x.lists.length dl] 27 ((w.alloc (.cells #[.slice ac x.centers.length dc, .slice al x.lists.length dl] 27)).alloc (.cells #[.int .i64 0] 2)) w.heap.size := (newBox (Nat.le_refl _)).grow _
  have bR : Box w.heap.size #[.int .i64 0] 2 ((w.alloc (.cells #[.slice ac x.centers.length dc, .slice al x.lists.length dl] 27)).alloc (.cells #[.int .i64 0] 2)) (w.heap.size + 1) := newBoxAt (by omega) (by simp)
  have R1 := h1.later nb2
  have R2 := h2.later nb2
  have c0 := bX.at 0 _ rfl
  have c1 := bX.at 1 _ rfl
  have L := implCen _ x.centers _ R1
  generalize hF0 : formF x = F0
  have HF0 := hide hF0
  clear hF0 nb1 h1 h2
  refine (callsIn_wide (n := 9)).1 ?_
  refine callsIn_of_wp_marks Try.func119 rfl trivial ?_ rfl
  refine wpIn_wide.2 ?_
  simp only [Try.ntmps119, List.size_toArray, List.length_cons, List.length_nil, Nat.reduceAdd, Nat.reduceSub, Array.replicate_succ, Array.replicate_zero, List.push_toArray, List.append_toArray, List.nil_append, List.cons_append]
  go_wp2_with fail
  refine L.mono ?_
  generalize (w.alloc (.cells #[.slice ac x.centers.length dc, .slice al x.lists.length dl] 27)).alloc (.cells #[.int .i64 0] 2) = W0 at *
  rintro e w1 ⟨rfl, hb⟩
  replace R1 := R1.later hb
  replace R2 := R2.later hb
  replace bX := bX.keep hb
  replace bR := bR.keep hb
  replace nb2 := nb2.trans (hb.mono nb2.size)
  clear hb L c0 c1
  have c0 := bX.at 0 _ rfl
  have c1 := bX.at 1 _ rfl
  have r0 := bR.at 0 _ rfl
  have f0 := bR.soft 0
  have lX := bX.lt
  have lR := bR.lt
  have hd : ((x.lists.length : Int) != (x.centers.length : Int)) = true := by
    have : (x.lists.length : Int) ≠ (x.centers.length : Int) := by omega
    simpa using this
  have hF : Hid (F0 = 1) := by show F0 = _; rw [← unhide HF0, formF, if_pos hf, if_neg hl]
  rw [hf]
  have HB := hide nb2
  have HR := hide bR
  clear nb2 R1 R2 hf bX bR hl
  go_wp2_with fail
  have z5 : (w1.setCell ⟨w.heap.size + 1, 0, none⟩ (.int .i64 1)).cell? ⟨w.heap.size + 1, 0, none⟩ = some (.int .i64 1) := ((unhide HR).set 0 _).at 0 _ rfl
  exact ⟨.int .i64 1, by simp [results, Try.results119, go_sem, z5], by rw [unhide hF], (unhide HB).setCell (by simp) _⟩

set_option maxRecDepth 100000 in
set_option maxHeartbeats 4000000 in
theorem implForm_ok (x : DIvf) (ac : Option Addr) (dc : Nat) (al : Option Addr) (dl : Nat) (w : World) (h1 : (Lay.sl Lay.tCenter).Reads w [.slice ac x.centers.length dc] x.centers) (h2 : (Lay.sl Lay.tIvfList).Reads w [.slice al x.lists.length dl] x.lists) (hf : centersFault x.centers = 0) (HL : Hid (x.lists.length = x.centers.length)) :
    Calls Try.prog 119 #[.agg #[.slice ac x.centers.length dc, .slice al x.lists.length dl]] w fun e w' => e = .returned (.int .i64 (formF x)) ∧ Below w.heap.size w w' := by
  have nb1 : Below w.heap.size w (w.alloc (.cells #[.slice ac x.centers.length dc, .slice al x.lists.length dl] 27)) := (Below.refl _ _).alloc (Nat.le_refl _) _
  have nb2 : Below w.heap.size w ((w.alloc (.cells #[.slice ac x.centers.length dc, .slice al x.lists.length dl] 27)).alloc (.cells #[.int .i64 0] 2)) := nb1.alloc (by simp) _
  have bX : Box w.heap.size #[.slice ac x.centers.length dc, .slice al x.lists.length dl] 27 ((w.alloc (.cells #[.slice ac x.centers.length dc, .slice al x.lists.length dl] 27)).alloc (.cells #[.int .i64 0] 2)) w.heap.size := (newBox (Nat.le_refl _)).grow _
  have bR : Box w.heap.size #[.int .i64 0] 2 ((w.alloc (.cells #[.slice ac x.centers.length dc, .slice al x.lists.length dl] 27)).alloc (.cells #[.int .i64 0] 2)) (w.heap.size + 1) := newBoxAt (by omega) (by simp)
  have R1 := h1.later nb2
  have R2 := h2.later nb2
  have c0 := bX.at 0 _ rfl
  have c1 := bX.at 1 _ rfl
  have L := implCen _ x.centers _ R1
  generalize hF0 : formF x = F0
  have HF0 := hide hF0
  have H1 := hide h1
  have H2 := hide h2
  clear hF0 nb1 h1 h2
  refine (callsIn_wide (n := 9)).1 ?_
  refine callsIn_of_wp_marks Try.func119 rfl trivial ?_ rfl
  refine wpIn_wide.2 ?_
  simp only [Try.ntmps119, List.size_toArray, List.length_cons, List.length_nil, Nat.reduceAdd, Nat.reduceSub, Array.replicate_succ, Array.replicate_zero, List.push_toArray, List.append_toArray, List.nil_append, List.cons_append]
  go_wp2_with fail
  refine L.mono ?_
  generalize (w.alloc (.cells #[.slice ac x.centers.length dc, .slice al x.lists.length dl] 27)).alloc (.cells #[.int .i64 0] 2) = W0 at *
  rintro e w1 ⟨rfl, hb⟩
  replace R1 := R1.later hb
  replace R2 := R2.later hb
  replace bX := bX.keep hb
  replace bR := bR.keep hb
  replace nb2 := nb2.trans (hb.mono nb2.size)
  clear hb L c0 c1
  have c0 := bX.at 0 _ rfl
  have c1 := bX.at 1 _ rfl
  have r0 := bR.at 0 _ rfl
  have f0 := bR.soft 0
  have lX := bX.lt
  have lR := bR.lt
  have hd : ((x.lists.length : Int) != (x.centers.length : Int)) = false := by rw [unhide HL]; simp
  have hn6 : x.centers.length ≤ 6 := (centersFault_zero hf).1.2
  have hn1 : 1 ≤ x.centers.length := (centersFault_zero hf).1.1
  rw [hf]
  have HCF := hide hf
  have HB := hide nb2
  have HR := hide bR
  have HBX := hide bX
  have LP : Hid (∀ W : World, _) := fun W : World => implPlaces ac x.centers.length dc W (by omega)
  have LQ : Hid (∀ (a : Option Addr) (n c : Nat) (W : World), _) := fun (a : Option Addr) (n c : Nat) (W : World) => implListsAt (.slice ac x.centers.length dc) (.slice al x.lists.length dl) a n c W ⟨_, _, _, rfl⟩ ⟨_, _, _, rfl⟩
  clear nb2 R1 R2 hf bX bR
  go_wp2_with fail
  clear c0 c1 r0 f0
  refine wp_region_noPanic ?_
  refine wp_region_held_drew (S := fun w' => Below w1.heap.size w1 w') (by kernel_rfl) (Below.refl _ _).drew (fun hHeld => ?_)
  generalize w1.drew = wD at hHeld ⊢
  refine wpAnyH_take (i := 0) (oi := { dst := some 19, op := Go.Op.load 27 (Go.Operand.tmp 1), type := 27, pos := "l07_ivf.go:92", after := #[], guard := none }) (v := ?vf0) rfl (by kernel_rfl) (by kernel_rfl) (by kernel_rfl) (fun _ _ _ h => h) (Or.inl ⟨by rfl, ?hf0⟩) hHeld ?rf0
  case hf0 =>
    intro wS hSw
    have y0 := ((unhide HBX).keep hSw).at 0 _ rfl
    have y1 := ((unhide HBX).keep hSw).at 1 _ rfl
    clear hSw
    (try dsimp only at hSw)
    go_simp
    try with_reducible rfl
  case rf0 =>
  simp only [Act.put, List.setIfInBounds_toArray, List.set_cons_zero, List.set_cons_succ]
  refine wpAnyH_take (i := 1) (oi := { dst := some 20, op := Go.Op.fieldAddr 27 (Go.Operand.tmp 1) 0, type := 0, pos := "l07_ivf.go:92", after := #[], guard := none }) (v := ?vf1) rfl (by kernel_rfl) (by kernel_rfl) (by kernel_rfl) (fun _ _ _ h => h) (Or.inl ⟨by rfl, ?hf1⟩) hHeld ?rf1
  case hf1 =>
    intro wS hSw
    (try dsimp only at hSw)
    go_simp
    try with_reducible rfl
  case rf1 =>
  simp only [Act.put, List.setIfInBounds_toArray, List.set_cons_zero, List.set_cons_succ]
  refine wpAnyH_take (i := 2) (oi := { dst := some 21, op := Go.Op.load 24 (Go.Operand.tmp 20), type := 24, pos := "l07_ivf.go:92", after := #[{ on := 1, ground := Go.Ground.data }], guard := none }) (v := ?vf2) rfl (by kernel_rfl) (by kernel_rfl) (by kernel_rfl) (fun _ _ _ h => h) (Or.inl ⟨by rfl, ?hf2⟩) hHeld ?rf2
  case hf2 =>
    intro wS hSw
    have y0 := ((unhide HBX).keep hSw).at 0 _ rfl
    have y1 := ((unhide HBX).keep hSw).at 1 _ rfl
    clear hSw
    (try dsimp only at hSw)
    go_simp
    try with_reducible rfl
  case rf2 =>
  simp only [Act.put, List.setIfInBounds_toArray, List.set_cons_zero, List.set_cons_succ]
  refine wpAnyH_ready (rs := [3]) (by kernel_rfl) (by simp) ?_
  refine AllReadyH.cons (o := { dst := some 22, op := Go.Op.call { callee := Go.Callee.value (Go.Operand.func 140), args := #[Go.Operand.tmp 21], argTypes := #[24] }, type := 28, pos := "l07_ivf.go:92", after := #[{ on := 2, ground := Go.Ground.data }], guard := none }) rfl (fun K hK => ?_) AllReadyH.nil
  go_simp
  go_at_call 140
  refine (unhide LP _).mono ?_
  rintro e w3 ⟨rfl, hO3, hb3⟩
  try go_wp2_with fail
  refine hK.out _ _ (hHeld.trans (hb3.mono hHeld.size)) (fun hHeld => ?_)
  clear hK K
  try simp only [Act.put, List.setIfInBounds_toArray, List.set_cons_zero, List.set_cons_succ]
  refine wpAnyH_ready (rs := [4]) (by kernel_rfl) (by simp) ?_
  refine AllReadyH.cons (o := { dst := some 23, op := Go.Op.call { callee := Go.Callee.value (Go.Operand.func 106), args := #[Go.Operand.tmp 19, Go.Operand.tmp 22], argTypes := #[27, 28] }, type := 150, pos := "l07_ivf.go:92", after := #[{ on := 0, ground := Go.Ground.data }, { on := 3, ground := Go.Ground.data }, { on := 3, ground := Go.Ground.chain }], guard := none }) rfl (fun K hK => ?_) AllReadyH.nil
  go_simp
  go_at_call 106
  refine (unhide LQ _ _ _ _).mono ?_
  rintro e w4 ⟨rfl, rfl⟩
  try go_wp2_with fail
  refine hK.out _ _ ((hHeld.alloc hHeld.size _).alloc (Nat.le_trans hHeld.size (by simp)) _) (fun hHeld => ?_)
  clear hK K
  try simp only [Act.put, List.setIfInBounds_toArray, List.set_cons_zero, List.set_cons_succ]
  refine wpAnyH_done (by kernel_rfl) ?_ _
  refine NoPanic.normal ?_
  have HO3 := hide hO3
  have HB3 := hide hb3
  have HHeld := hide hHeld
  clear hO3 hb3 hHeld
  go_wp2_with fail
  have hpos : 0 < x.lists.length := by rw [unhide HL]; omega
  have hm6 : x.lists.length ≤ 6 := by rw [unhide HL]; omega
  obtain ⟨bL, oL, ia, ic, rfl, hbL, hli⟩ := lists_at (unhide H2) hpos
  have hbw := unhide HB
  have hO4 := ((unhide HO3).alloc (.cells #[.slice ac x.centers.length dc, .slice (some ⟨bL, oL, none⟩) x.lists.length dl] 27)).alloc (.cells #[.slice (some ⟨wD.heap.size, 0, none⟩) x.centers.length x.centers.length] 28)
  have bX4 := ((unhide HBX).keep (unhide HHeld))
  have bR4 := ((unhide HR).keep (unhide HHeld))
  have hB4 := hbw.trans ((unhide HHeld).mono hbw.size)
  have hsz3 : wD.heap.size < w3.heap.size := ((unhide HO3).lt wD.heap.size rfl).2
  have bY : Box 0 #[.slice ac x.centers.length dc, .slice (some ⟨bL, oL, none⟩) x.lists.length dl] 27 ((w3.alloc (.cells #[.slice ac x.centers.length dc, .slice (some ⟨bL, oL, none⟩) x.lists.length dl] 27)).alloc (.cells #[.slice (some ⟨wD.heap.size, 0, none⟩) x.centers.length x.centers.length] 28)) w3.heap.size := (newBox (Nat.zero_le _)).grow _
  have bP : Box 0 #[.slice (some ⟨wD.heap.size, 0, none⟩) x.centers.length x.centers.length] 28 ((w3.alloc (.cells #[.slice ac x.centers.length dc, .slice (some ⟨bL, oL, none⟩) x.lists.length dl] 27)).alloc (.cells #[.slice (some ⟨wD.heap.size, 0, none⟩) x.centers.length x.centers.length] 28)) (w3.heap.size + 1) := newBoxAt (Nat.zero_le _) (by simp)
  have hszL : ((w3.alloc (.cells #[.slice ac x.centers.length dc, .slice (some ⟨bL, oL, none⟩) x.lists.length dl] 27)).alloc (.cells #[.slice (some ⟨wD.heap.size, 0, none⟩) x.centers.length x.centers.length] 28)).heap.size = w3.heap.size + 2 := by simp
  generalize hWL : (w3.alloc (.cells #[.slice ac x.centers.length dc, .slice (some ⟨bL, oL, none⟩) x.lists.length dl] 27)).alloc (.cells #[.slice (some ⟨wD.heap.size, 0, none⟩) x.centers.length x.centers.length] 28) = WL at *
  have hlw : w.heap.size + 1 < w1.heap.size := (unhide HR).lt
  have hw1L := (unhide HHeld).size
  have hit : ItAt WL w3.heap.size bL oL x.lists.length dl ia (fun j => (itsL x.lists j).length) ic wD.heap.size 0 (allPl x.lists.length) := by
    refine ⟨bY.at 1 _ rfl, fun j hj => (hB4.cell (p := ⟨bL, oL + j, none⟩) hbL).trans (hli j hj).1, fun i hi => ?_⟩
    rw [allPl_at, Nat.zero_add]
    rw [allPl_len] at hi
    rw [hO4.cellAt i (by have := unhide HL; omega)]
    exact plV_at (by rw [List.getElem?_range (by rw [← unhide HL]; exact hi)])
  have hbp : WL.cell? ⟨w3.heap.size + 1, 0, none⟩ = some (.slice (some ⟨wD.heap.size, 0, none⟩) (allPl x.lists.length).length x.centers.length) := by rw [allPl_len, unhide HL]; exact bP.at 0 _ rfl
  clear hO4 bY bP
  refine wpIn_wide.1 (wpIn_rangeFunc_ownH (F := Fence.wide) (n := 9) rfl (by decide) (gf := 139) (lb := #[.pointer (some ⟨w3.heap.size + 1, 0, none⟩), .pointer (some ⟨w3.heap.size, 0, none⟩)]) rfl trivial (enters_of Try.func139 (by kernel_rfl) rfl)
    (listsAt_stops 8 (w3.heap.size + 1) w3.heap.size bL oL x.lists.length dl x.centers.length ia (fun j => (itsL x.lists j).length) ic wD.heap.size 0 (allPl x.lists.length) WL.heap.size (fun _ => False) (by rw [allPl_len]; omega) ⟨by omega, fun h => h⟩ ⟨by have := hbw.size; omega, fun h => h⟩ ⟨by omega, fun h => h⟩ WL (by omega) (Nat.le_refl _) hbp hit)
    KpS.trans (fun W l _ o' hl _ _ _ => KpS.put _ W l o' hl) (Below.refl _ _) (fun _ => rfl)
    (fun pre W => (WL.heap.size ≤ W.heap.size ∧ ∀ p ∈ pre, faultAt x p.1 = 0) ∧ Box w.heap.size #[.slice ac x.centers.length dc, .slice (some ⟨bL, oL, none⟩) x.lists.length dl] 27 W w.heap.size ∧ Box w.heap.size #[.int .i64 0] 2 W (w.heap.size + 1) ∧ Below w.heap.size w W)
    (fun c pre W => c = .ret ∧ ∃ pre' p, pre = pre' ++ [p] ∧ (∀ q ∈ pre', faultAt x q.1 = 0) ∧ faultAt x p.1 ≠ 0 ∧ Box w.heap.size #[.int .i64 (faultAt x p.1)] 2 W (w.heap.size + 1) ∧ Below w.heap.size w W)
    (fun s A B row hs hg hr => ⟨⟨Nat.le_trans hs.1.1 hg.size, hs.1.2⟩, box_grown hg hr hs.2.1, box_grown hg hr hs.2.2.1, below_grown hg hr hs.2.2.2 (by omega) (Nat.le_refl _)⟩)
    (fun c s A B row hs hg hr => by
      obtain ⟨rfl, pre', p, rfl, q1, q2, q3, q4⟩ := hs
      exact ⟨rfl, pre', p, rfl, q1, q2, box_grown hg hr q3, below_grown hg hr q4 (by omega) (Nat.le_refl _)⟩)
    ⟨⟨Nat.le_refl _, by simp⟩, bX4, bR4, hB4⟩
    (fun y a' W => ∃ Bo, Box 0 #[.int .i64 (y.1 : Int), .slice (ia y.1) (itsL x.lists y.1).length (ic y.1)] 98 W Bo ∧ a' = { tmps := #[.agg #[.slice ac x.centers.length dc, .slice (some ⟨bL, oL, none⟩) x.lists.length dl], .pointer (some ⟨w.heap.size, 0, none⟩), .pointer (some ⟨w.heap.size + 1, 0, none⟩), .int .i64 0, .pointer (some ⟨Bo, 0, none⟩), undef, .pointer (some ⟨w.heap.size, 0, none⟩), .slice ac x.centers.length dc, .int .i64 0, .int .i64 0, .bool false, undef, .pointer (some ⟨w.heap.size, 1, none⟩), .slice (some ⟨bL, oL, none⟩) x.lists.length dl, .int .i64 (x.lists.length : Int), .pointer (some ⟨w.heap.size, 0, none⟩), .slice ac x.centers.length dc, .int .i64 (x.centers.length : Int), .bool false, .agg #[.slice ac x.centers.length dc, .slice (some ⟨bL, oL, none⟩) x.lists.length dl], .pointer (some ⟨w.heap.size, 0, none⟩), .slice ac x.centers.length dc, .slice (some ⟨wD.heap.size, 0, none⟩) x.centers.length x.centers.length, .func (.func 139) #[] #[.pointer (some ⟨w3.heap.size + 1, 0, none⟩), .pointer (some ⟨w3.heap.size, 0, none⟩)], .agg #[.int .i64 (y.1 : Int), .slice (ia y.1) (itsL x.lists y.1).length (ic y.1)], undef, undef, undef, undef, undef, undef, undef], defers := [] })
    (fun y a' _ A B row hs hg hr => by
      obtain ⟨Bo, q1, q2⟩ := hs
      exact ⟨Bo, box_grown hg hr q1, q2⟩)
    ?assign ?body ?done ?stop)
  case assign =>
    rintro l pre y W K ⟨⟨hs, hp⟩, b1, b2, hB1⟩ hK
    have hbn : Below W.heap.size W (W.alloc (.cells #[.int .i64 (y.1 : Int), .slice (ia y.1) (itsL x.lists y.1).length (ic y.1)] 98)) := (Below.refl _ _).alloc (Nat.le_refl _) _
    gi_wp2
    exact hK _ _ (keepsFrom_below hbn) (KpS.of_below _ hbn hs) ⟨⟨Nat.le_trans hs hbn.size, hp⟩, b1.keep hbn, b2.keep hbn, hB1.trans (hbn.mono hB1.size)⟩ ⟨W.heap.size, newBox (Nat.zero_le _), rfl⟩
  case body =>
    rintro l pre y a' W hl ⟨r, hr⟩ ⟨⟨hs, hp⟩, b1, b2, hB1⟩ ⟨Bo, bO, rfl⟩ hlt
    have c0 := b1.at 0 _ rfl
    have o0 := bO.at 0 _ rfl
    have o1 := bO.at 1 _ rfl
    have hy2 := y.2
    have LF := implListF _ x.centers y.1 (ia y.1) (ic y.1) (itsL x.lists y.1) W ((unhide H1).later hB1) ((hli y.1 y.2).2.later hB1) (unhide HCF)
    have LG := hide (CallsIn.inRound l ((callsIn_wide (n := 9 - 1 - 1 - 1)).2 LF))
    have HP := hide hp
    have HB1 := hide hB1
    have HB2 := hide b1
    have HB3 := hide b2
    clear LF hp hB1 hit hbp hli hB4 bX4 bR4 b1 b2 bO
    gi_wp2
    refine ⟨trivial, ?_⟩
    gi_at_call 148
    refine (unhide LG).mono ?_
    rintro e w5 ⟨rfl, hb5⟩
    have e5 : listFault x.centers y.1 (itsL x.lists y.1) = faultAt x y.1 := rfl
    rw [e5]
    have hbb := unhide HB1
    have hB5 := hide (hbb.trans (hb5.mono hbb.size))
    have HK5 : Hid (KeepsFrom WL.heap.size W w5) := keepsFrom_below hb5
    have HP5 : Hid (KpS WL.heap.size (fun _ => False) W w5) := KpS.of_below _ hb5 hs
    have HX5 := hide ((unhide HB2).keep hb5)
    have HR5 := hide ((unhide HB3).keep hb5)
    have hs5 := hb5.size
    clear c0 o0 o1 hb5 hbb e5 LG
    by_cases hz : faultAt x y.1 = 0
    · rw [hz]
      have HZ := hide hz
      clear hz
      gi_wp2
      refine ⟨unhide HK5, unhide HP5, ⟨by omega, fun q hq => ?_⟩, unhide HX5, unhide HR5, unhide hB5⟩
      rcases List.mem_append.1 hq with hq | hq
      · exact unhide HP q hq
      · rw [List.mem_singleton.1 hq]; exact unhide HZ
    · have hd5 : (faultAt x y.1 != 0) = true := by simpa using hz
      have HZ := hide hz
      have r0 := (unhide HR5).at 0 _ rfl
      have f0 := (unhide HR5).soft 0
      have lR5 := (unhide HR5).lt
      clear hz
      gi_wp2
      refine ⟨(unhide HK5).trans ((KeepsOthers.setCell _ _ _).from _), rfl, pre, y, rfl, unhide HP, unhide HZ, (unhide HR5).set 0 _, (unhide hB5).setCell (by simp) _⟩
  case done =>
    rintro D xs W hD rfl ⟨⟨hs, hp⟩, b1, b2, hB1⟩ hK
    have r0 := b2.at 0 _ rfl
    have f0 := b2.soft 0
    have l0 := b2.lt
    have HR5 := hide b2
    have HB5 := hide hB1
    have hF : Hid (F0 = 0) := by show F0 = 0; rw [← unhide HF0]; exact form_all (unhide HCF) (unhide HL) hp
    have HK := hide hK
    clear b1 b2 hB1 hK hit hbp hli
    go_wp2_with fail
    have hK' := (KeepsOthers.setCell W ⟨w.heap.size + 1, 0, none⟩ (.int .i64 0)).same D _ (unhide HK) rfl
    refine ⟨by simp, .inl ⟨_, _, rfl, run_takeDeferred hK', ?_⟩⟩
    have hc5 := cell_kept (((unhide HR5).set 0 (.int .i64 0)).at 0 _ rfl) (grownBy_putObj' _ D (.deferred none)) (fun r e => by cases e; exact ⟨_, hK', rfl⟩)
    refine ⟨.int .i64 0, by simp [results, Try.results119, go_sem, hc5], by rw [unhide hF], ?_⟩
    exact ((unhide HB5).setCell (by simp) _).grown (grownBy_putObj' _ D (.deferred none)) (by have := (unhide HB5).size; simp; omega) (fun k e => by cases e; omega)
  case stop =>
    rintro D c pre W hD hpre ⟨rfl, pre', p, rfl, q1, q2, q3, q4⟩ hK
    have hF : Hid (F0 = faultAt x p.1) := by show F0 = _; rw [← unhide HF0]; exact form_at (unhide HCF) (unhide HL) hpre q1 q2
    have HR5 := hide q3
    have HB5 := hide q4
    have HK := hide hK
    clear q1 q2 q3 q4 hK hit hbp hli
    gi_wp2
    refine ⟨by simp, .inl ⟨_, _, rfl, run_takeDeferred (unhide HK), ?_⟩⟩
    have hc5 := cell_kept ((unhide HR5).at 0 _ rfl) (grownBy_putObj' _ D (.deferred none)) (fun r e => by cases e; exact ⟨_, unhide HK, rfl⟩)
    refine ⟨.int .i64 (faultAt x p.1), by simp [results, Try.results119, go_sem, hc5], by rw [unhide hF], ?_⟩
    exact (unhide HB5).grown (grownBy_putObj' _ D (.deferred none)) (by have := (unhide HB5).size; omega) (fun k e => by cases e; omega)


theorem implForm (x : DIvf) (ac : Option Addr) (dc : Nat) (al : Option Addr) (dl : Nat) (w : World) (h1 : (Lay.sl Lay.tCenter).Reads w [.slice ac x.centers.length dc] x.centers) (h2 : (Lay.sl Lay.tIvfList).Reads w [.slice al x.lists.length dl] x.lists) :
    Calls Try.prog 119 #[.agg #[.slice ac x.centers.length dc, .slice al x.lists.length dl]] w fun e w' => e = .returned (.int .i64 (formF x)) ∧ Below w.heap.size w w' := by
  by_cases hf : centersFault x.centers = 0
  · by_cases hl : x.lists.length = x.centers.length
    · exact implForm_ok x ac dc al dl w h1 h2 hf hl
    · exact implForm_len x ac dc al dl w h1 h2 hf hl
  · exact implForm_cen x ac dc al dl w h1 h2 hf

end Go.Proofs.Ytggnnbdjihihiaa

namespace Go.Proofs.Ytggnnbdjihihiaa
open Go.RowKit

theorem foldIs_len (ls : List DIvfList) : ∀ (o : List DItem), Rising o → (ls.foldl (fun o l => gatherI o l.items) o).length ≤ o.length + countIs ls := by
  induction ls with
  | nil => exact fun o _ => Nat.le_refl _
  | cons l ls ih =>
    intro o ho
    have h1 := ih (gatherI o l.items) (gatherI_rising ho l.items)
    have h2 := gatherI_len ho l.items
    simp only [List.foldl_cons, countIs]
    omega
theorem allIs_split (ls : List DIvfList) (k : Nat) (hk : k < ls.length) : allIs ls = (ls.drop (k + 1)).foldl (fun o l => gatherI o l.items) (gatherI (allIs (ls.take k)) ls[k].items) := by
  have e : ls = ls.take k ++ ls[k] :: ls.drop (k + 1) := by rw [← List.drop_eq_getElem_cons hk, List.take_append_drop]
  have e2 : allIs ls = allIs (ls.take k ++ ls[k] :: ls.drop (k + 1)) := by rw [← e]
  rw [e2, allIs, List.foldl_append, List.foldl_cons]
  rfl
theorem countIs_append (a b : List DIvfList) : countIs (a ++ b) = countIs a + countIs b := by
  induction a with
  | nil => simp [countIs]
  | cons l a ih => simp only [List.cons_append, countIs, ih]; omega
theorem countIs_split (ls : List DIvfList) (k : Nat) (hk : k < ls.length) : countIs ls = countIs (ls.take k) + (ls[k].items.length + countIs (ls.drop (k + 1))) := by
  have e : ls = ls.take k ++ ls[k] :: ls.drop (k + 1) := by rw [← List.drop_eq_getElem_cons hk, List.take_append_drop]
  have e2 : countIs ls = countIs (ls.take k ++ ls[k] :: ls.drop (k + 1)) := by rw [← e]
  rw [e2, countIs_append]
  rfl
theorem gather_split (out xs : List DItem) (j : Nat) (hj : j < xs.length) : gatherI out xs = gatherI (putI (gatherI out (xs.take j)) xs[j].id xs[j].vec) (xs.drop (j + 1)) := by
  have e : xs = xs.take j ++ xs[j] :: xs.drop (j + 1) := by rw [← List.drop_eq_getElem_cons hj, List.take_append_drop]
  have e2 : gatherI out xs = gatherI out (xs.take j ++ xs[j] :: xs.drop (j + 1)) := by rw [← e]
  rw [e2, gatherI, List.foldl_append, List.foldl_cons]
  rfl
/-- One Id is there already: then there are fewer in all than in the lists. -/
theorem taken_fact {ls : List DIvfList} {k : Nat} (hk : k < ls.length) {j : Nat} (hj : j < ls[k].items.length) (hh : hasI (gatherI (allIs (ls.take k)) (ls[k].items.take j)) ls[k].items[j].id = true) : (allIs ls).length ≠ countIs ls := by
  have r0 := allIs_rising (ls.take k)
  have r1 := gatherI_rising r0 (ls[k].items.take j)
  have r2 := putI_rising r1 ls[k].items[j].id ls[k].items[j].vec
  have n0 := allIs_len (ls.take k)
  have n1 := gatherI_len r0 (ls[k].items.take j)
  have n2 := putI_len r1 ls[k].items[j].id ls[k].items[j].vec
  rw [if_pos hh] at n2
  have n3 := gatherI_len r2 (ls[k].items.drop (j + 1))
  rw [← gather_split _ _ j hj] at n3
  have n4 := foldIs_len (ls.drop (k + 1)) _ (gatherI_rising r0 ls[k].items)
  rw [← allIs_split ls k hk] at n4
  have n5 := countIs_split ls k hk
  rw [List.length_take] at n1
  rw [List.length_drop] at n3
  omega
/-- What is held when j of list k have come. -/
def heldAt (ls : List DIvfList) (k j : Nat) : List DItem := gatherI (allIs (ls.take k)) ((ls.getD k ⟨[]⟩).items.take j)
def heldN (ls : List DIvfList) (k j : Nat) : Nat := countIs (ls.take k) + j

end Go.Proofs.Ytggnnbdjihihiaa

namespace Go.Proofs.Ytggnnbdjihihiaa
open Go.RowKit

/-- The code of an index whose lists are right. -/
def codeL (x : DIvf) : Int := if (allIs x.lists).length = countIs x.lists then (if countIs x.lists ≤ 30 then 0 else 2) else 6
/-- What is held when the lists of pre have come. -/
def heldP {m : Nat} (ls : List DIvfList) (pre : List (Pl m)) : List DItem := pre.foldl (fun o p => gatherI o (itsL ls p.1)) []
def countP : {m : Nat} → (ls : List DIvfList) → (pre : List (Pl m)) → Nat
  | _, _, [] => 0
  | _, ls, p :: pre => (itsL ls p.1).length + countP ls pre
theorem heldP_snoc {m : Nat} (ls : List DIvfList) (pre : List (Pl m)) (p : Pl m) : heldP ls (pre ++ [p]) = gatherI (heldP ls pre) (itsL ls p.1) := by
  rw [heldP, List.foldl_append]
  rfl
theorem countP_snoc {m : Nat} (ls : List DIvfList) (pre : List (Pl m)) (p : Pl m) : countP ls (pre ++ [p]) = countP ls pre + (itsL ls p.1).length := by
  induction pre with
  | nil => simp [countP]
  | cons q pre ih => simp only [List.cons_append, countP, ih]; omega
theorem heldP_rising {m : Nat} (ls : List DIvfList) (pre : List (Pl m)) : Rising (heldP ls pre) := by
  have : ∀ o, Rising o → Rising (pre.foldl (fun o p => gatherI o (itsL ls p.1)) o) := by
    induction pre with
    | nil => exact fun o h => h
    | cons q pre ih => exact fun o h => ih _ (gatherI_rising h _)
  exact this [] List.Pairwise.nil
theorem countP_le {m : Nat} {ls : List DIvfList} (h : ∀ j, (itsL ls j).length ≤ 30) (pre : List (Pl m)) : countP ls pre ≤ 30 * pre.length := by
  induction pre with
  | nil => simp [countP]
  | cons q pre ih =>
    have := h q.1
    simp only [countP, List.length_cons]
    omega
/-- The first k places, whatever the list of places is. -/
theorem heldP_take {ls : List DIvfList} {pre : List (Pl ls.length)} (h : ∀ j (hj : j < pre.length), pre[j].1 = j) (hl : pre.length ≤ ls.length) : heldP ls pre = allIs (ls.take pre.length) ∧ countP ls pre = countIs (ls.take pre.length) := by
  obtain ⟨k, hk⟩ : ∃ k, pre.length = k := ⟨_, rfl⟩
  induction k generalizing pre with
  | zero =>
    obtain rfl : pre = [] := List.eq_nil_of_length_eq_zero hk
    exact ⟨rfl, by simp [countP, countIs]⟩
  | succ k ih =>
    obtain ⟨q, p, rfl⟩ : ∃ q p, pre = q ++ [p] := ⟨pre.dropLast, pre.getLast (by intro e; rw [e] at hk; cases hk), (List.dropLast_concat_getLast _).symm⟩
    have hq : q.length = k := by simpa using hk
    have hp := h k (by simp [hq])
    simp only [← hq, List.getElem_concat_length] at hp
    obtain ⟨i1, i2⟩ := ih (pre := q) (fun j hj => by
      have := h j (by simp; omega)
      rw [List.getElem_append_left hj] at this
      exact this) (by simp at hl; omega) hq
    have hlt : q.length < ls.length := by simp at hl; omega
    rw [heldP_snoc, countP_snoc, i1, i2, List.length_append, List.length_singleton, allIs_step ls q.length hlt, countIs_take ls q.length hlt, hp, itsL_eq hlt]
    exact ⟨rfl, rfl⟩
theorem held_all (ls : List DIvfList) : heldP ls (allPl ls.length) = allIs ls ∧ countP ls (allPl ls.length) = countIs ls := by
  have := heldP_take (ls := ls) (pre := allPl ls.length) (fun j hj => allPl_at _ j hj) (by rw [allPl_len]; exact Nat.le_refl _)
  rw [allPl_len, List.take_length] at this
  exact this
theorem held_taken {x : DIvf} {pre : List (Pl x.lists.length)} {p : Pl x.lists.length} (hp : pre ++ [p] <+: allPl x.lists.length) {j : Nat} (hj : j < (itsL x.lists p.1).length) (hh : hasI (gatherI (heldP x.lists pre) ((itsL x.lists p.1).take j)) (itsL x.lists p.1)[j].id = true) : codeL x = 6 := by
  obtain ⟨h1, h2⟩ := pre_at hp
  have hk : p.1 < x.lists.length := p.2
  have hl := hp.length_le
  rw [allPl_len, List.length_append] at hl
  obtain ⟨i1, -⟩ := heldP_take h2 (by omega)
  rw [i1, ← h1] at hh
  have e := itsL_eq hk
  have hj2 : j < x.lists[p.1].items.length := by rw [← e]; exact hj
  have hh2 : hasI (gatherI (allIs (x.lists.take p.1)) (x.lists[p.1].items.take j)) x.lists[p.1].items[j].id = true := by
    simp only [e] at hh
    exact hh
  rw [codeL, if_neg (taken_fact hk hj2 hh2)]
theorem gather_put {o xs : List DItem} {j : Nat} (hj : j < xs.length) : gatherI o (xs.take (j + 1)) = putI (gatherI o (xs.take j)) xs[j].id xs[j].vec := gatherI_step o xs j hj

end Go.Proofs.Ytggnnbdjihihiaa

namespace Go.Proofs.Ytggnnbdjihihiaa
open Go.RowKit Go.Shelf
attribute [local go_sem] Oper.semAt_some

set_option maxRecDepth 100000 in
set_option maxHeartbeats 8000000 in
theorem implTLists (x : DIvf) (ac : Option Addr) (dc : Nat) (al : Option Addr) (dl : Nat) (w : World) (h1 : (Lay.sl Lay.tCenter).Reads w [.slice ac x.centers.length dc] x.centers) (h2 : (Lay.sl Lay.tIvfList).Reads w [.slice al x.lists.length dl] x.lists) (hf : centersFault x.centers = 0) (HL : Hid (x.lists.length = x.centers.length)) (hx : ∀ l ∈ x.lists, tableFault l.items = 0) :
    Calls Try.prog 120 #[.agg #[.slice ac x.centers.length dc, .slice al x.lists.length dl]] w fun e w' => (∃ mv, e = .returned (.tuple #[mv, .int .i64 (codeL x)]) ∧ (codeL x ≠ 0 → mv = .map none) ∧ (codeL x = 0 → ∃ b, mv = .map (some b) ∧ w.heap.size ≤ b ∧ TabAt w' b 200 (allIs x.lists))) ∧ Below w.heap.size w w' := by
  have nb : Below w.heap.size w (((((w.alloc (.cells #[.slice ac x.centers.length dc, .slice al x.lists.length dl] 27)).alloc (.cells #[.map none] 109)).alloc (.cells #[.int .i64 0] 2)).alloc (.map #[] 0)).alloc (.cells #[.map (some (w.heap.size + 1 + 1 + 1))] 109)) := (((((Below.refl _ _).alloc (Nat.le_refl _) _).alloc (by simp) _).alloc (by simp; omega) _).alloc (by simp; omega) _).alloc (by simp; omega) _
  have bX : Box w.heap.size #[.slice ac x.centers.length dc, .slice al x.lists.length dl] 27 (((((w.alloc (.cells #[.slice ac x.centers.length dc, .slice al x.lists.length dl] 27)).alloc (.cells #[.map none] 109)).alloc (.cells #[.int .i64 0] 2)).alloc (.map #[] 0)).alloc (.cells #[.map (some (w.heap.size + 1 + 1 + 1))] 109)) w.heap.size := ((((newBox (Nat.le_refl _)).grow _).grow _).grow _).grow _
  have bM : Box w.heap.size #[.map none] 109 (((((w.alloc (.cells #[.slice ac x.centers.length dc, .slice al x.lists.length dl] 27)).alloc (.cells #[.map none] 109)).alloc (.cells #[.int .i64 0] 2)).alloc (.map #[] 0)).alloc (.cells #[.map (some (w.heap.size + 1 + 1 + 1))] 109)) (w.heap.size + 1) := (((newBoxAt (by omega) (by simp)).grow _).grow _).grow _
  have bR : Box w.heap.size #[.int .i64 0] 2 (((((w.alloc (.cells #[.slice ac x.centers.length dc, .slice al x.lists.length dl] 27)).alloc (.cells #[.map none] 109)).alloc (.cells #[.int .i64 0] 2)).alloc (.map #[] 0)).alloc (.cells #[.map (some (w.heap.size + 1 + 1 + 1))] 109)) (w.heap.size + 1 + 1) := ((newBoxAt (by omega) (by simp)).grow _).grow _
  have hT := (tabAt_new (((w.alloc (.cells #[.slice ac x.centers.length dc, .slice al x.lists.length dl] 27)).alloc (.cells #[.map none] 109)).alloc (.cells #[.int .i64 0] 2))).later ((Below.refl _ _).alloc (Nat.le_refl _) (.cells #[.map (some (w.heap.size + 1 + 1 + 1))] 109))
  have bH : Box w.heap.size #[.map (some (w.heap.size + 1 + 1 + 1))] 109 (((((w.alloc (.cells #[.slice ac x.centers.length dc, .slice al x.lists.length dl] 27)).alloc (.cells #[.map none] 109)).alloc (.cells #[.int .i64 0] 2)).alloc (.map #[] 0)).alloc (.cells #[.map (some (w.heap.size + 1 + 1 + 1))] 109)) (w.heap.size + 1 + 1 + 1 + 1) := newBoxAt (by omega) (by simp)
  simp only [World.size_alloc] at hT
  have hn6 : x.centers.length ≤ 6 := (centersFault_zero hf).1.2
  have hn1 : 1 ≤ x.centers.length := (centersFault_zero hf).1.1
  have c0 := bX.at 0 _ rfl
  have c1 := bX.at 1 _ rfl
  have H1 := hide h1
  have H2 := hide h2
  have HTF := hide hx
  have HB := hide nb
  have HR := hide bR
  have HM := hide bM
  have HH := hide bH
  have HT := hide hT
  have HBX := hide bX
  have hmk : ∀ W : World, (Instr.makeMap 109 none).run Try.prog W = .ok (.map (some W.heap.size)) (W.alloc (.map #[] 0)) := fun W => by kernel_rfl
  have LP : Hid (∀ W : World, _) := fun W : World => implPlaces ac x.centers.length dc W (by omega)
  have LQ : Hid (∀ (a : Option Addr) (n c : Nat) (W : World), _) := fun (a : Option Addr) (n c : Nat) (W : World) => implListsAt (.slice ac x.centers.length dc) (.slice al x.lists.length dl) a n c W ⟨_, _, _, rfl⟩ ⟨_, _, _, rfl⟩
  clear h1 h2 hx nb bR bM bH hT bX hf
  refine (callsIn_wide (n := 9)).1 ?_
  refine callsIn_of_wp_marks Try.func120 rfl trivial ?_ rfl
  refine wpIn_wide.2 ?_
  simp only [Try.ntmps120, List.size_toArray, List.length_cons, List.length_nil, Nat.reduceAdd, Nat.reduceSub, Array.replicate_succ, Array.replicate_zero, List.push_toArray, List.append_toArray, List.nil_append, List.cons_append]
  go_wp2_with fail
  clear hmk
  generalize ((((w.alloc (.cells #[.slice ac x.centers.length dc, .slice al x.lists.length dl] 27)).alloc (.cells #[.map none] 109)).alloc (.cells #[.int .i64 0] 2)).alloc (.map #[] 0)).alloc (.cells #[.map (some (w.heap.size + 1 + 1 + 1))] 109) = w1 at *
  refine wp_region_noPanic ?_
  refine wp_region_held_drew (S := fun w' => Below w1.heap.size w1 w') (by kernel_rfl) (Below.refl _ _).drew (fun hHeld => ?_)
  generalize w1.drew = wD at hHeld ⊢
  refine wpAnyH_take (i := 0) (oi := { dst := some 11, op := Go.Op.load 27 (Go.Operand.tmp 1), type := 27, pos := "l07_ivf.go:105", after := #[], guard := none }) (v := ?vf0) rfl (by kernel_rfl) (by kernel_rfl) (by kernel_rfl) (fun _ _ _ h => h) (Or.inl ⟨by rfl, ?hf0⟩) hHeld ?rf0
  case hf0 =>
    intro wS hSw
    have y0 := ((unhide HBX).keep hSw).at 0 _ rfl
    have y1 := ((unhide HBX).keep hSw).at 1 _ rfl
    clear hSw
    (try dsimp only at hSw)
    go_simp
    try with_reducible rfl
  case rf0 =>
  simp only [Act.put, List.setIfInBounds_toArray, List.set_cons_zero, List.set_cons_succ]
  refine wpAnyH_take (i := 1) (oi := { dst := some 12, op := Go.Op.fieldAddr 27 (Go.Operand.tmp 1) 0, type := 0, pos := "l07_ivf.go:105", after := #[], guard := none }) (v := ?vf1) rfl (by kernel_rfl) (by kernel_rfl) (by kernel_rfl) (fun _ _ _ h => h) (Or.inl ⟨by rfl, ?hf1⟩) hHeld ?rf1
  case hf1 =>
    intro wS hSw
    (try dsimp only at hSw)
    go_simp
    try with_reducible rfl
  case rf1 =>
  simp only [Act.put, List.setIfInBounds_toArray, List.set_cons_zero, List.set_cons_succ]
  refine wpAnyH_take (i := 2) (oi := { dst := some 13, op := Go.Op.load 24 (Go.Operand.tmp 12), type := 24, pos := "l07_ivf.go:105", after := #[{ on := 1, ground := Go.Ground.data }], guard := none }) (v := ?vf2) rfl (by kernel_rfl) (by kernel_rfl) (by kernel_rfl) (fun _ _ _ h => h) (Or.inl ⟨by rfl, ?hf2⟩) hHeld ?rf2
  case hf2 =>
    intro wS hSw
    have y0 := ((unhide HBX).keep hSw).at 0 _ rfl
    have y1 := ((unhide HBX).keep hSw).at 1 _ rfl
    clear hSw
    (try dsimp only at hSw)
    go_simp
    try with_reducible rfl
  case rf2 =>
  simp only [Act.put, List.setIfInBounds_toArray, List.set_cons_zero, List.set_cons_succ]
  refine wpAnyH_ready (rs := [3]) (by kernel_rfl) (by simp) ?_
  refine AllReadyH.cons (o := { dst := some 14, op := Go.Op.call { callee := Go.Callee.value (Go.Operand.func 140), args := #[Go.Operand.tmp 13], argTypes := #[24] }, type := 28, pos := "l07_ivf.go:105", after := #[{ on := 2, ground := Go.Ground.data }], guard := none }) rfl (fun K hK => ?_) AllReadyH.nil
  have HDS := hide hHeld.size
  go_simp
  go_at_call 140
  refine (unhide LP _).mono ?_
  rintro e w3 ⟨rfl, hO3, hb3⟩
  try go_wp2_with fail
  refine hK.out _ _ (hHeld.trans (hb3.mono hHeld.size)) (fun hHeld => ?_)
  clear hK K
  try simp only [Act.put, List.setIfInBounds_toArray, List.set_cons_zero, List.set_cons_succ]
  refine wpAnyH_ready (rs := [4]) (by kernel_rfl) (by simp) ?_
  refine AllReadyH.cons (o := { dst := some 15, op := Go.Op.call { callee := Go.Callee.value (Go.Operand.func 106), args := #[Go.Operand.tmp 11, Go.Operand.tmp 14], argTypes := #[27, 28] }, type := 150, pos := "l07_ivf.go:105", after := #[{ on := 0, ground := Go.Ground.data }, { on := 3, ground := Go.Ground.data }, { on := 3, ground := Go.Ground.chain }], guard := none }) rfl (fun K hK => ?_) AllReadyH.nil
  go_simp
  go_at_call 106
  refine (unhide LQ _ _ _ _).mono ?_
  rintro e w4 ⟨rfl, rfl⟩
  try go_wp2_with fail
  refine hK.out _ _ ((hHeld.alloc hHeld.size _).alloc (Nat.le_trans hHeld.size (by simp)) _) (fun hHeld => ?_)
  clear hK K
  try simp only [Act.put, List.setIfInBounds_toArray, List.set_cons_zero, List.set_cons_succ]
  refine wpAnyH_done (by kernel_rfl) ?_ _
  refine NoPanic.normal ?_
  have HO3 := hide hO3
  have HB3 := hide hb3
  have HHeld := hide hHeld
  clear hO3 hb3 hHeld c0 c1
  go_wp2_with fail
  have hpos : 0 < x.lists.length := by rw [unhide HL]; omega
  have hm6 : x.lists.length ≤ 6 := by rw [unhide HL]; omega
  obtain ⟨bL, oL, ia, ic, rfl, hbL, hli⟩ := lists_at (unhide H2) hpos
  have hbw := unhide HB
  have hO4 := ((unhide HO3).alloc (.cells #[.slice ac x.centers.length dc, .slice (some ⟨bL, oL, none⟩) x.lists.length dl] 27)).alloc (.cells #[.slice (some ⟨wD.heap.size, 0, none⟩) x.centers.length x.centers.length] 28)
  have bM4 := (unhide HM).keep (unhide HHeld)
  have bR4 := (unhide HR).keep (unhide HHeld)
  have bH4 := (unhide HH).keep (unhide HHeld)
  have hT4 := (unhide HT).later (unhide HHeld)
  have hB4 := hbw.trans ((unhide HHeld).mono hbw.size)
  have hsz3 : wD.heap.size < w3.heap.size := ((unhide HO3).lt wD.heap.size rfl).2
  have bY : Box 0 #[.slice ac x.centers.length dc, .slice (some ⟨bL, oL, none⟩) x.lists.length dl] 27 ((w3.alloc (.cells #[.slice ac x.centers.length dc, .slice (some ⟨bL, oL, none⟩) x.lists.length dl] 27)).alloc (.cells #[.slice (some ⟨wD.heap.size, 0, none⟩) x.centers.length x.centers.length] 28)) w3.heap.size := (newBox (Nat.zero_le _)).grow _
  have bP : Box 0 #[.slice (some ⟨wD.heap.size, 0, none⟩) x.centers.length x.centers.length] 28 ((w3.alloc (.cells #[.slice ac x.centers.length dc, .slice (some ⟨bL, oL, none⟩) x.lists.length dl] 27)).alloc (.cells #[.slice (some ⟨wD.heap.size, 0, none⟩) x.centers.length x.centers.length] 28)) (w3.heap.size + 1) := newBoxAt (Nat.zero_le _) (by simp)
  have hszL : ((w3.alloc (.cells #[.slice ac x.centers.length dc, .slice (some ⟨bL, oL, none⟩) x.lists.length dl] 27)).alloc (.cells #[.slice (some ⟨wD.heap.size, 0, none⟩) x.centers.length x.centers.length] 28)).heap.size = w3.heap.size + 2 := by simp
  have hwDs : w1.heap.size ≤ wD.heap.size := unhide HDS
  generalize hWL : (w3.alloc (.cells #[.slice ac x.centers.length dc, .slice (some ⟨bL, oL, none⟩) x.lists.length dl] 27)).alloc (.cells #[.slice (some ⟨wD.heap.size, 0, none⟩) x.centers.length x.centers.length] 28) = WL at *
  have hlw : w.heap.size + 1 + 1 + 1 + 1 < w1.heap.size := (unhide HH).lt
  have hw1L := (unhide HHeld).size
  have hit : ItAt WL w3.heap.size bL oL x.lists.length dl ia (fun j => (itsL x.lists j).length) ic wD.heap.size 0 (allPl x.lists.length) := by
    refine ⟨bY.at 1 _ rfl, fun j hj => (hB4.cell (p := ⟨bL, oL + j, none⟩) hbL).trans (hli j hj).1, fun i hi => ?_⟩
    rw [allPl_at, Nat.zero_add]
    rw [allPl_len] at hi
    rw [hO4.cellAt i (by have := unhide HL; omega)]
    exact plV_at (by rw [List.getElem?_range (by rw [← unhide HL]; exact hi)])
  have hbp : WL.cell? ⟨w3.heap.size + 1, 0, none⟩ = some (.slice (some ⟨wD.heap.size, 0, none⟩) (allPl x.lists.length).length x.centers.length) := by rw [allPl_len, unhide HL]; exact bP.at 0 _ rfl
  clear hO4 bY bP
  have h30 : ∀ j, (itsL x.lists j).length ≤ 30 := fun j => by
    by_cases hj : j < x.lists.length
    · rw [itsL_eq hj]; exact (tableFault_zero (unhide HTF _ (List.getElem_mem hj))).1
    · simp [itsL, List.getD, List.getElem?_eq_none (Nat.le_of_not_lt hj)]
  refine wpIn_wide.1 (wpIn_rangeFunc_ownH (F := Fence.wide) (n := 9) rfl (by decide) (gf := 139) (lb := #[.pointer (some ⟨w3.heap.size + 1, 0, none⟩), .pointer (some ⟨w3.heap.size, 0, none⟩)]) rfl trivial (enters_of Try.func139 (by kernel_rfl) rfl)
    (listsAt_stops 8 (w3.heap.size + 1) w3.heap.size bL oL x.lists.length dl x.centers.length ia (fun j => (itsL x.lists j).length) ic wD.heap.size 0 (allPl x.lists.length) WL.heap.size (fun b => b = (w.heap.size + 1 + 1 + 1)) (by rw [allPl_len]; omega) ⟨by omega, fun h => by omega⟩ ⟨by have := hbw.size; omega, fun h => by have := hbL; omega⟩ ⟨by omega, fun h => by omega⟩ WL (by omega) (Nat.le_refl _) hbp hit)
    KpS.trans (fun W l _ o' hl _ _ _ => KpS.put _ W l o' hl) (Below.refl _ _) (fun _ => rfl)
    (fun pre W => (WL.heap.size ≤ W.heap.size ∧ (heldP x.lists pre).length = countP x.lists pre) ∧ TabAt W (w.heap.size + 1 + 1 + 1) (countP x.lists pre) (heldP x.lists pre) ∧ (Box w.heap.size #[.map none] 109 W (w.heap.size + 1) ∧ Box w.heap.size #[.int .i64 0] 2 W (w.heap.size + 1 + 1) ∧ Box w.heap.size #[.map (some (w.heap.size + 1 + 1 + 1))] 109 W (w.heap.size + 1 + 1 + 1 + 1)) ∧ Below w.heap.size w W)
    (fun c pre W => c = .ret ∧ (∃ pre' p j, pre = pre' ++ [p] ∧ ∃ hj : j < (itsL x.lists p.1).length, hasI (gatherI (heldP x.lists pre') ((itsL x.lists p.1).take j)) (itsL x.lists p.1)[j].id = true) ∧ (Box w.heap.size #[.map none] 109 W (w.heap.size + 1) ∧ Box w.heap.size #[.int .i64 6] 2 W (w.heap.size + 1 + 1)) ∧ Below w.heap.size w W)
    (fun s A B row hs hg hr => ⟨⟨Nat.le_trans hs.1.1 hg.size, hs.1.2⟩, hs.2.1.ext (ext_of_grownBy hg) (fun e => by have := (hr _ e).1; omega), ⟨box_grown hg hr hs.2.2.1.1, box_grown hg hr hs.2.2.1.2.1, box_grown hg hr hs.2.2.1.2.2⟩, below_grown hg hr hs.2.2.2 (by omega) (Nat.le_refl _)⟩)
    (fun c s A B row hs hg hr => ⟨hs.1, hs.2.1, ⟨box_grown hg hr hs.2.2.1.1, box_grown hg hr hs.2.2.1.2⟩, below_grown hg hr hs.2.2.2 (by omega) (Nat.le_refl _)⟩)
    ⟨⟨Nat.le_refl _, by simp [heldP, countP]⟩, by rw [show countP x.lists ([] : List (Pl x.lists.length)) = 0 by simp [countP]]; exact hT4, ⟨bM4, bR4, bH4⟩, hB4⟩
    (fun y a' W => ∃ Bo, Box 0 #[.int .i64 (y.1 : Int), .slice (ia y.1) (itsL x.lists y.1).length (ic y.1)] 98 W Bo ∧ a' = { tmps := #[.agg #[.slice ac x.centers.length dc, .slice (some ⟨bL, oL, none⟩) x.lists.length dl], .pointer (some ⟨w.heap.size, 0, none⟩), .pointer (some ⟨w.heap.size + 1, 0, none⟩), .pointer (some ⟨w.heap.size + 1 + 1, 0, none⟩), .pointer (some ⟨w.heap.size + 1 + 1 + 1 + 1, 0, none⟩), .pointer (some ⟨Bo, 0, none⟩), undef, undef, undef, undef, .map (some (w.heap.size + 1 + 1 + 1)), .agg #[.slice ac x.centers.length dc, .slice (some ⟨bL, oL, none⟩) x.lists.length dl], .pointer (some ⟨w.heap.size, 0, none⟩), .slice ac x.centers.length dc, .slice (some ⟨wD.heap.size, 0, none⟩) x.centers.length x.centers.length, .func (.func 139) #[] #[.pointer (some ⟨w3.heap.size + 1, 0, none⟩), .pointer (some ⟨w3.heap.size, 0, none⟩)], .agg #[.int .i64 (y.1 : Int), .slice (ia y.1) (itsL x.lists y.1).length (ic y.1)], undef, undef, undef, undef, undef, undef, undef, undef, undef, undef, undef, undef, undef, undef, undef, undef, undef, undef, undef, undef, undef, undef, undef, undef, undef, undef, undef, undef, undef], defers := [] })
    (fun y a' _ A B row hs hg hr => by
      obtain ⟨Bo, q1, q2⟩ := hs
      exact ⟨Bo, box_grown hg hr q1, q2⟩)
    ?assign ?body ?done ?stop)
  case assign =>
    rintro l pre y W K ⟨⟨hs, hp⟩, hT1, ⟨b1, b2, b3⟩, hB1⟩ hK
    have hbn : Below W.heap.size W (W.alloc (.cells #[.int .i64 (y.1 : Int), .slice (ia y.1) (itsL x.lists y.1).length (ic y.1)] 98)) := (Below.refl _ _).alloc (Nat.le_refl _) _
    gi_wp2
    exact hK _ _ (keepsFrom_below hbn) (KpS.of_below _ hbn hs) ⟨⟨Nat.le_trans hs hbn.size, hp⟩, hT1.later hbn, ⟨b1.keep hbn, b2.keep hbn, b3.keep hbn⟩, hB1.trans (hbn.mono hB1.size)⟩ ⟨W.heap.size, newBox (Nat.zero_le _), rfl⟩
  case body =>
    rintro l pre y a' W hl ⟨r, hr⟩ ⟨⟨hs, hlen⟩, hT1, ⟨b1, b2, b3⟩, hB1⟩ ⟨Bo, bO, rfl⟩ hlt
    have o0 := bO.at 0 _ rfl
    have o1 := bO.at 1 _ rfl
    have RI := (hli y.1 y.2).2
    have hpl : pre.length ≤ 5 := by rw [allPl_len] at hlt; omega
    have hcp := countP_le h30 pre
    have hx30 := h30 y.1
    have hxf : tableFault (itsL x.lists y.1) = 0 := by rw [itsL_eq y.2]; exact unhide HTF _ (List.getElem_mem y.2)
    have hxa := (tableFault_zero hxf).2.1
    have HY : Hid (∀ j (hj : j < (itsL x.lists y.1).length), hasI (gatherI (heldP x.lists pre) ((itsL x.lists y.1).take j)) (itsL x.lists y.1)[j].id = true → ∃ pre' p j, pre ++ [y] = pre' ++ [p] ∧ ∃ hj : j < (itsL x.lists p.1).length, hasI (gatherI (heldP x.lists pre') ((itsL x.lists p.1).take j)) (itsL x.lists p.1)[j].id = true) := fun j hj hh => ⟨pre, y, j, rfl, hj, hh⟩
    have HE1 : Hid (heldP x.lists (pre ++ [y]) = gatherI (heldP x.lists pre) (itsL x.lists y.1)) := heldP_snoc _ _ _
    have HE2 : Hid (countP x.lists (pre ++ [y]) = countP x.lists pre + (itsL x.lists y.1).length) := countP_snoc _ _ _
    have hris := heldP_rising x.lists pre
    clear hit hbp hli hB4 bM4 bR4 bH4 hT4 hlt hxf
    generalize heldP x.lists pre = held at *
    generalize countP x.lists pre = cnt at *
    generalize itsL x.lists y.1 = xs at *
    generalize ia y.1 = av at *
    generalize ic y.1 = dv at *
    have HXA := hide hxa
    have HRI := hide RI
    have HT1 := hide hT1
    have HB1 := hide hB1
    have HM1 := hide b1
    have HR1 := hide b2
    have HH1 := hide b3
    have HRS := hide hris
    clear hxa RI hT1 hB1 b1 b2 b3 hris bO
    gi_wp2
    clear o0 o1
    gi_loopw [20] (fun i wr => ∃ k : Nat, k ≤ xs.length ∧ i = .int .i64 k ∧ (gatherI held (xs.take k)).length = cnt + k ∧ TabAt wr (w.heap.size + 1 + 1 + 1) (cnt + k) (gatherI held (xs.take k)) ∧ Ext (fun c => c = (w.heap.size + 1 + 1 + 1)) W wr) (fun i _ => xs.length - (intOf i).toNat)
    case atStart => exact ⟨0, Nat.zero_le _, rfl, hlen, unhide HT1, Ext.refl _ _⟩
    case round =>
      obtain ⟨k, hk, rfl, hlk, hTk, hEk⟩ := hrel
      have hsk := hEk.size
      have bHk := (unhide HH1).ext hEk (by omega)
      have bMk := (unhide HM1).ext hEk (by omega)
      have bRk := (unhide HR1).ext hEk (by omega)
      have hBk := (unhide HB1).trans (hEk.below (unhide HB1).size (fun c hc e => by omega))
      by_cases hlt : k < xs.length
      · obtain ⟨b, off, rfl, hbl⟩ := Lay.sl_addr (unhide HRI) (by omega)
        obtain ⟨row, hc, hr9⟩ := Lay.row_at (unhide HRI) hlt
        replace hr9 := hr9.later hBk
        obtain ⟨a1, d1, rfl, R1⟩ := open_Item hr9
        have c0 : wr.cell? ⟨b, off + k * 2, none⟩ = some (.int .i64 (xs[k]).id) := (hBk.cell (p := ⟨b, off + k * 2, none⟩) hbl).trans (hc 0 (by decide))
        have c1 : wr.cell? ⟨b, off + k * 2 + 1, none⟩ = some (.slice a1 (xs[k]).vec.length d1) := (hBk.cell (p := ⟨b, off + k * 2 + 1, none⟩) hbl).trans (hc 1 (by decide))
        obtain ⟨hid, hvf⟩ := unhide HXA xs[k] (List.getElem_mem hlt)
        have HTK : Hid (gatherI held (xs.take (k + 1)) = putI (gatherI held (xs.take k)) xs[k].id xs[k].vec) := gather_put hlt
        have HYk := hide (unhide HY k hlt)
        have hrk : Rising (gatherI held (xs.take k)) := gatherI_rising (unhide HRS) _
        clear hc hr9
        generalize hx : xs[k] = x5 at *
        clear hx
        generalize gatherI held (xs.take k) = gk at *
        obtain ⟨p5, q5, r5, hv3⟩ := vec3 hvf
        have nb : Below wr.heap.size wr (wr.alloc (.cells #[.int .i64 x5.id, .slice a1 x5.vec.length d1] 127)) := (Below.refl _ _).alloc (Nat.le_refl _) _
        have bI : Box wr.heap.size #[.int .i64 x5.id, .slice a1 x5.vec.length d1] 127 (wr.alloc (.cells #[.int .i64 x5.id, .slice a1 x5.vec.length d1] 127)) wr.heap.size := newBox (Nat.le_refl _)
        have I1 := (Lay.ints_reads R1).later nb
        replace I1 : IsInts (wr.alloc (.cells #[.int .i64 x5.id, .slice a1 x5.vec.length d1] 127)) (.slice a1 x5.vec.length d1) [p5, q5, r5] := by rw [← hv3]; exact I1
        rw [hv3] at hvf HTK
        replace hTk := hTk.later nb
        replace hEk := hEk.trans (ext_of_below nb _)
        replace bHk := bHk.keep nb
        replace bMk := bMk.keep nb
        replace bRk := bRk.keep nb
        replace hBk := hBk.trans (nb.mono hBk.size)
        have hwf := id_wf hid
        have hH0 := bHk.at 0 _ rfl
        have i0 := bI.at 0 _ rfl
        have HV := hide hvf
        have HW := hide hwf
        have HRK := hide hrk
        clear R1 hvf hid hv3 nb
        by_cases hh : hasI gk x5.id = true
        · obtain ⟨z, hz1, hz2⟩ := List.any_eq_true.1 hh
          obtain ⟨pp, qq, rr, -, hlook, -⟩ := hTk.look (unhide HRK) hwf hz1 (by simpa using hz2)
          unfold arr3 at hlook
          have nb7 : Below (wr.alloc (.cells #[.int .i64 x5.id, .slice a1 x5.vec.length d1] 127)).heap.size (wr.alloc (.cells #[.int .i64 x5.id, .slice a1 x5.vec.length d1] 127)) ((wr.alloc (.cells #[.int .i64 x5.id, .slice a1 x5.vec.length d1] 127)).alloc (.cells #[.int .i64 pp, .int .i64 qq, .int .i64 rr] 113)) := (Below.refl _ _).alloc (Nat.le_refl _) _
          have bM7 := bMk.keep nb7
          have bR7 := bRk.keep nb7
          have m0 := bM7.at 0 _ rfl
          have fm := bM7.soft 0
          have lm := bM7.lt
          have bR8 := bR7.other ⟨w.heap.size + 1, 0, none⟩ (.map none) (by simp)
          have r0 := bR8.at 0 _ rfl
          have fr := bR8.soft 0
          have HB7 := hide (((hBk.trans (nb7.mono hBk.size)).setCell (p := ⟨w.heap.size + 1, 0, none⟩) (by simp) (.map none)).setCell (p := ⟨w.heap.size + 1 + 1, 0, none⟩) (by simp; omega) (.int .i64 6))
          have HM7 := hide ((bM7.set 0 (.map none)).other ⟨w.heap.size + 1 + 1, 0, none⟩ (.int .i64 6) (by simp))
          have HR7 := hide (bR8.set 0 (.int .i64 6))
          have HK7 : Hid (KeepsFrom WL.heap.size W ((((wr.alloc (.cells #[.int .i64 x5.id, .slice a1 x5.vec.length d1] 127)).alloc (.cells #[.int .i64 pp, .int .i64 qq, .int .i64 rr] 113)).setCell ⟨w.heap.size + 1, 0, none⟩ (.map none)).setCell ⟨w.heap.size + 1 + 1, 0, none⟩ (.int .i64 6))) :=
            ((keepsFrom_ext (hEk.trans (ext_of_below nb7 _)) (fun c o h1 _ _ e => by omega)).trans ((KeepsOthers.setCell _ _ _).from _)).trans ((KeepsOthers.setCell _ _ _).from _)
          have HYH := hide (unhide HYk hh)
          clear nb7 bM7 bR7 bR8 bMk bRk hEk hBk I1 hTk hh bI bHk hrk hwf
          gi_wp2
          exact ⟨unhide HK7, rfl, unhide HYH, ⟨unhide HM7, unhide HR7⟩, unhide HB7⟩
        · have hh2 : hasI gk x5.id = false := by simpa using hh
          obtain ⟨pp, qq, rr, hlook⟩ := hTk.miss hwf hh2
          unfold arr3 at hlook
          have nb7 : Below (wr.alloc (.cells #[.int .i64 x5.id, .slice a1 x5.vec.length d1] 127)).heap.size (wr.alloc (.cells #[.int .i64 x5.id, .slice a1 x5.vec.length d1] 127)) ((wr.alloc (.cells #[.int .i64 x5.id, .slice a1 x5.vec.length d1] 127)).alloc (.cells #[.int .i64 pp, .int .i64 qq, .int .i64 rr] 113)) := (Below.refl _ _).alloc (Nat.le_refl _) _
          replace hTk := hTk.later nb7
          replace hEk := hEk.trans (ext_of_below nb7 _)
          replace bHk := bHk.keep nb7
          replace bI := bI.keep nb7
          replace I1 := I1.later nb7
          have HNF := hide hh2
          have HEK := hide hEk
          have HBI := hide bI
          have HBH := hide bHk
          have HTK2 := hide hTk
          have HI2 := hide I1
          clear nb7 bMk bRk hEk hBk I1 hTk hh hh2 bI bHk hrk hwf
          gi_wp2
          clear c0 c1 hlook hH0 i0
          generalize hW0 : (wr.alloc (.cells #[.int .i64 x5.id, .slice a1 x5.vec.length d1] 127)).alloc (.cells #[.int .i64 pp, .int .i64 qq, .int .i64 rr] 113) = W0 at *
          clear hW0
          have hI0 : wr.heap.size < W0.heap.size := (unhide HBI).lt
          have hDT : TabAt W0.drew (w.heap.size + 1 + 1 + 1) (cnt + k) gk := unhide HTK2
          have hDI : IsInts W0.drew (.slice a1 x5.vec.length d1) [p5, q5, r5] := unhide HI2
          refine wpIn_region_np (S := fun w' => Ext (fun c => c = (w.heap.size + 1 + 1 + 1)) W0 w') (by kernel_rfl) (by kernel_rfl) (Ext.refl _ _).drew1 (fun hHeld => ?_)
          generalize W0.drew = wD at hHeld hDT hDI ⊢
          refine wpAnyH_take (i := 0) (oi := { dst := some 33, op := Go.Op.load 109 (Go.Operand.tmp 4), type := 109, pos := "l07_ivf.go:110", after := #[], guard := none }) (v := ?vg0) rfl (by kernel_rfl) (by kernel_rfl) (by kernel_rfl) (fun _ _ _ h => h) (Or.inl ⟨by rfl, ?hg0⟩) hHeld ?rg0
          case hg0 =>
            intro wS hSw
            have y0 := ((unhide HBH).ext hSw (by omega)).at 0 _ rfl
            clear hSw
            (try dsimp only at hSw)
            go_simp
            try with_reducible rfl
          case rg0 =>
          simp only [Act.put, List.setIfInBounds_toArray, List.set_cons_zero, List.set_cons_succ]
          refine wpAnyH_take (i := 1) (oi := { dst := some 34, op := Go.Op.fieldAddr 127 (Go.Operand.tmp 7) 0, type := 0, pos := "l07_ivf.go:110", after := #[], guard := none }) (v := ?vg1) rfl (by kernel_rfl) (by kernel_rfl) (by kernel_rfl) (fun _ _ _ h => h) (Or.inl ⟨by rfl, ?hg1⟩) hHeld ?rg1
          case hg1 =>
            intro wS hSw
            (try dsimp only at hSw)
            go_simp
            try with_reducible rfl
          case rg1 =>
          simp only [Act.put, List.setIfInBounds_toArray, List.set_cons_zero, List.set_cons_succ]
          refine wpAnyH_take (i := 2) (oi := { dst := some 35, op := Go.Op.load 2 (Go.Operand.tmp 34), type := 2, pos := "l07_ivf.go:110", after := #[{ on := 1, ground := Go.Ground.data }], guard := none }) (v := ?vg2) rfl (by kernel_rfl) (by kernel_rfl) (by kernel_rfl) (fun _ _ _ h => h) (Or.inl ⟨by rfl, ?hg2⟩) hHeld ?rg2
          case hg2 =>
            intro wS hSw
            have y0 := ((unhide HBI).ext hSw (by omega)).at 0 _ rfl
            have y1 := ((unhide HBI).ext hSw (by omega)).at 1 _ rfl
            clear hSw
            (try dsimp only at hSw)
            go_simp
            try with_reducible rfl
          case rg2 =>
          simp only [Act.put, List.setIfInBounds_toArray, List.set_cons_zero, List.set_cons_succ]
          refine wpAnyH_take (i := 3) (oi := { dst := some 36, op := Go.Op.fieldAddr 127 (Go.Operand.tmp 7) 1, type := 0, pos := "l07_ivf.go:110", after := #[], guard := none }) (v := ?vg3) rfl (by kernel_rfl) (by kernel_rfl) (by kernel_rfl) (fun _ _ _ h => h) (Or.inl ⟨by rfl, ?hg3⟩) hHeld ?rg3
          case hg3 =>
            intro wS hSw
            (try dsimp only at hSw)
            go_simp
            try with_reducible rfl
          case rg3 =>
          simp only [Act.put, List.setIfInBounds_toArray, List.set_cons_zero, List.set_cons_succ]
          refine wpAnyH_take (i := 4) (oi := { dst := some 37, op := Go.Op.load 28 (Go.Operand.tmp 36), type := 28, pos := "l07_ivf.go:110", after := #[{ on := 3, ground := Go.Ground.data }], guard := none }) (v := ?vg4) rfl (by kernel_rfl) (by kernel_rfl) (by kernel_rfl) (fun _ _ _ h => h) (Or.inl ⟨by rfl, ?hg4⟩) hHeld ?rg4
          case hg4 =>
            intro wS hSw
            have y0 := ((unhide HBI).ext hSw (by omega)).at 0 _ rfl
            have y1 := ((unhide HBI).ext hSw (by omega)).at 1 _ rfl
            clear hSw
            (try dsimp only at hSw)
            go_simp
            try with_reducible rfl
          case rg4 =>
          simp only [Act.put, List.setIfInBounds_toArray, List.set_cons_zero, List.set_cons_succ]
          refine wpAnyH_ready (rs := [5]) (by kernel_rfl) (by simp) ?_
          refine AllReadyH.cons (o := { dst := some 38, op := Go.Op.call { callee := Go.Callee.value (Go.Operand.func 74), args := #[Go.Operand.tmp 37], argTypes := #[28] }, type := 114, pos := "l07_ivf.go:110", after := #[{ on := 4, ground := Go.Ground.data }], guard := none }) rfl (fun K hK => ?_) AllReadyH.nil
          go_simp
          go_at_call 74
          refine (vectorOf_ok _ p5 q5 r5 _ hDI (unhide HV)).mono ?_
          rintro e w3 ⟨rfl, hbw3⟩
          try go_wp2_with fail
          refine hK.out _ _ (hHeld.trans (ext_of_below hbw3 _)) (fun hHeld => ?_)
          clear hK K
          try simp only [Act.put, List.setIfInBounds_toArray, List.set_cons_zero, List.set_cons_succ]
          refine wpAnyH_take (i := 6) (oi := { dst := some 32, op := Go.Op.move (Go.Operand.tmp 38), type := 114, pos := "l07_ivf.go:110", after := #[{ on := 5, ground := Go.Ground.data }], guard := none }) (v := ?vg6) rfl (by kernel_rfl) (by kernel_rfl) (by kernel_rfl) (fun _ _ _ h => h) (Or.inl ⟨by rfl, ?hg6⟩) hHeld ?rg6
          case hg6 =>
            intro wS hSw
            (try dsimp only at hSw)
            go_simp
            try with_reducible rfl
          case rg6 =>
          simp only [Act.put, List.setIfInBounds_toArray, List.set_cons_zero, List.set_cons_succ]
          refine wpAnyH_take (i := 7) (oi := { dst := some 39, op := Go.Op.extract (Go.Operand.tmp 32) 0, type := 113, pos := "l07_ivf.go:110", after := #[{ on := 6, ground := Go.Ground.data }], guard := none }) (v := ?vg7) rfl (by kernel_rfl) (by kernel_rfl) (by kernel_rfl) (fun _ _ _ h => h) (Or.inl ⟨by rfl, ?hg7⟩) hHeld ?rg7
          case hg7 =>
            intro wS hSw
            (try dsimp only at hSw)
            go_simp
            try with_reducible rfl
          case rg7 =>
          simp only [Act.put, List.setIfInBounds_toArray, List.set_cons_zero, List.set_cons_succ]
          refine wpAnyH_take (i := 8) (oi := { dst := some 40, op := Go.Op.extract (Go.Operand.tmp 32) 1, type := 2, pos := "l07_ivf.go:110", after := #[{ on := 6, ground := Go.Ground.data }, { on := 9, ground := Go.Ground.gcOnly Go.Departure.lateStores }], guard := none }) (v := ?vg8) rfl (by kernel_rfl) (by kernel_rfl) (by kernel_rfl) (fun _ _ _ h => h) (Or.inl ⟨by rfl, ?hg8⟩) hHeld ?rg8
          case hg8 =>
            intro wS hSw
            (try dsimp only at hSw)
            go_simp
            try with_reducible rfl
          case rg8 =>
          simp only [Act.put, List.setIfInBounds_toArray, List.set_cons_zero, List.set_cons_succ]
          refine wpAnyH_ready (rs := [9]) (by kernel_rfl) (by simp) ?_
          refine AllReadyH.cons (o := { dst := none, op := Go.Op.mapUpdate 109 (Go.Operand.tmp 33) (Go.Operand.tmp 35) (Go.Operand.tmp 39), type := 0, pos := "l07_ivf.go:110", after := #[{ on := 0, ground := Go.Ground.data }, { on := 2, ground := Go.Ground.data }, { on := 7, ground := Go.Ground.data }, { on := 5, ground := Go.Ground.chain }, { on := 0, ground := Go.Ground.phase }, { on := 1, ground := Go.Ground.phase }, { on := 2, ground := Go.Ground.phase }, { on := 3, ground := Go.Ground.phase }, { on := 4, ground := Go.Ground.phase }, { on := 5, ground := Go.Ground.phase }, { on := 6, ground := Go.Ground.phase }, { on := 7, ground := Go.Ground.phase }, { on := 8, ground := Go.Ground.textOnly Go.Departure.lateStores }], guard := none }) rfl (fun K hK => ?_) AllReadyH.nil
          obtain ⟨w5, hrun, hT5, hE5⟩ := (hDT.later hbw3).put (by omega) (unhide HW) p5 q5 r5
          go_simp
          try simp only [hrun]
          try go_simp
          refine hK.out _ _ (hHeld.trans hE5) (fun hHeld => ?_)
          clear hK K
          try simp only [Act.put, List.setIfInBounds_toArray, List.set_cons_zero, List.set_cons_succ]
          refine wpAnyH_done (by kernel_rfl) ?_ _
          refine OnlyN.normal ?_
          have HT5 := hide hT5
          have HE5 := hide ((unhide HEK).trans hHeld)
          clear hHeld hT5 hDT hDI
          gi_wp2
          go_roundw
          case rel =>
            refine ⟨k + 1, by omega, by go_num, ?_, by rw [unhide HTK]; exact unhide HT5, unhide HE5⟩
            rw [unhide HTK, putI_len (unhide HRK), unhide HNF]
            simp
            omega
          case measure => simp [intOf]; omega
      · obtain rfl : k = xs.length := by omega
        rw [List.take_length] at hlk hTk
        have HK7 : Hid (KeepsFrom WL.heap.size W wr) := keepsFrom_ext hEk (fun c o h1 _ _ e => by omega)
        have HP7 : Hid (KpS WL.heap.size (fun b => b = (w.heap.size + 1 + 1 + 1)) W wr) := KpS.of_ext hEk hs (fun _ _ e => e)
        have H7 := hide hTk
        have H8 := hide bMk
        have H9 := hide bRk
        have H10 := hide bHk
        have H11 := hide hBk
        clear hTk bMk bRk bHk hBk hEk
        gi_wp2
        refine ⟨unhide HK7, unhide HP7, ⟨by omega, ?_⟩, ?_, ⟨unhide H8, unhide H9, unhide H10⟩, unhide H11⟩
        · rw [unhide HE1, unhide HE2]; exact hlk
        · rw [unhide HE1, unhide HE2]; exact unhide H7
  case done =>
    rintro D zs W hD rfl ⟨⟨hs, hlen⟩, hT1, ⟨b1, b2, b3⟩, hB1⟩ hK
    obtain ⟨e1, e2⟩ := held_all x.lists
    have hcb := countP_le h30 (allPl x.lists.length)
    rw [allPl_len] at hcb
    rw [e1, e2] at hlen hT1
    rw [e2] at hcb
    clear e1 e2
    have h30' : countIs x.lists ≤ 200 := by omega
    have hln := fun ty => hT1.len ty
    have H0 := b3.at 0 _ rfl
    have m0 := b1.at 0 _ rfl
    have fm := b1.soft 0
    have lm := b1.lt
    have hszW := hB1.size
    have hMD : w.heap.size + 1 + 1 + 1 < D := by omega
    by_cases hc : countIs x.lists ≤ 30
    · have hd : decide ((30 : Int) < ((allIs x.lists).length : Int)) = false := by rw [decide_eq_false_iff_not]; omega
      have hcode : codeL x = 0 := by rw [codeL, if_pos hlen, if_pos hc]
      have bR8 := b2.other ⟨w.heap.size + 1, 0, none⟩ (.map (some (w.heap.size + 1 + 1 + 1))) (by simp)
      have r0 := bR8.at 0 _ rfl
      have fr := bR8.soft 0
      have HM7 := hide ((b1.set 0 (.map (some (w.heap.size + 1 + 1 + 1)))).other ⟨w.heap.size + 1 + 1, 0, none⟩ (.int .i64 0) (by simp))
      have HR7 := hide (bR8.set 0 (.int .i64 0))
      have HB7 := hide ((hB1.setCell (p := ⟨w.heap.size + 1, 0, none⟩) (by simp) (.map (some (w.heap.size + 1 + 1 + 1)))).setCell (p := ⟨w.heap.size + 1 + 1, 0, none⟩) (by simp; omega) (.int .i64 0))
      have HT7 := hide (hT1.ext (((Ext.refl (fun c => c = w.heap.size + 1 ∨ c = w.heap.size + 1 + 1) W).setCell ⟨w.heap.size + 1, 0, none⟩ (.map (some (w.heap.size + 1 + 1 + 1))) (Or.inl rfl)).setCell ⟨w.heap.size + 1 + 1, 0, none⟩ (.int .i64 0) (Or.inr rfl)) (by omega))
      have HK7 := hide ((KeepsOthers.setCell (W.setCell ⟨w.heap.size + 1, 0, none⟩ (.map (some (w.heap.size + 1 + 1 + 1)))) ⟨w.heap.size + 1 + 1, 0, none⟩ (.int .i64 0)).same D _ ((KeepsOthers.setCell W ⟨w.heap.size + 1, 0, none⟩ (.map (some (w.heap.size + 1 + 1 + 1)))).same D _ hK rfl) rfl)
      have HC := hide hcode
      clear bR8 b1 b2 b3 hB1 hT1 hK hcode hc hlen hcb hit hbp hli h30
      go_wp2_with fail
      refine ⟨by simp, .inl ⟨_, _, rfl, run_takeDeferred (unhide HK7), ?_⟩⟩
      have hc5 := cell_kept ((unhide HM7).at 0 _ rfl) (grownBy_putObj' _ D (.deferred none)) (fun r e => by cases e; exact ⟨_, unhide HK7, rfl⟩)
      have hc6 := cell_kept ((unhide HR7).at 0 _ rfl) (grownBy_putObj' _ D (.deferred none)) (fun r e => by cases e; exact ⟨_, unhide HK7, rfl⟩)
      refine ⟨.tuple #[.map (some (w.heap.size + 1 + 1 + 1)), .int .i64 0], by simp [results, Try.results120, go_sem, hc5, hc6], ⟨_, by rw [unhide HC], fun h => absurd (unhide HC) h, fun _ => ⟨_, rfl, by omega, ?_⟩⟩, ?_⟩
      · exact ((unhide HT7).ext (ext_of_grownBy (grownBy_putObj' _ D (.deferred none))) (fun e => by have := Option.some.inj e; omega)).mono h30'
      · exact (unhide HB7).grown (grownBy_putObj' _ D (.deferred none)) (by simp; omega) (fun k e => by cases e; omega)
    · have hd : decide ((30 : Int) < ((allIs x.lists).length : Int)) = true := by rw [decide_eq_true_iff]; omega
      have hcode : codeL x = 2 := by rw [codeL, if_pos hlen, if_neg hc]
      have bR8 := b2.other ⟨w.heap.size + 1, 0, none⟩ (.map none) (by simp)
      have r0 := bR8.at 0 _ rfl
      have fr := bR8.soft 0
      have HM7 := hide ((b1.set 0 (.map none)).other ⟨w.heap.size + 1 + 1, 0, none⟩ (.int .i64 2) (by simp))
      have HR7 := hide (bR8.set 0 (.int .i64 2))
      have HB7 := hide ((hB1.setCell (p := ⟨w.heap.size + 1, 0, none⟩) (by simp) (.map none)).setCell (p := ⟨w.heap.size + 1 + 1, 0, none⟩) (by simp; omega) (.int .i64 2))
      have HK7 := hide ((KeepsOthers.setCell (W.setCell ⟨w.heap.size + 1, 0, none⟩ (.map none)) ⟨w.heap.size + 1 + 1, 0, none⟩ (.int .i64 2)).same D _ ((KeepsOthers.setCell W ⟨w.heap.size + 1, 0, none⟩ (.map none)).same D _ hK rfl) rfl)
      have HC := hide hcode
      clear bR8 b1 b2 b3 hB1 hT1 hK hcode hc hlen hcb hit hbp hli h30
      go_wp2_with fail
      refine ⟨by simp, .inl ⟨_, _, rfl, run_takeDeferred (unhide HK7), ?_⟩⟩
      have hc5 := cell_kept ((unhide HM7).at 0 _ rfl) (grownBy_putObj' _ D (.deferred none)) (fun r e => by cases e; exact ⟨_, unhide HK7, rfl⟩)
      have hc6 := cell_kept ((unhide HR7).at 0 _ rfl) (grownBy_putObj' _ D (.deferred none)) (fun r e => by cases e; exact ⟨_, unhide HK7, rfl⟩)
      refine ⟨.tuple #[.map none, .int .i64 2], by simp [results, Try.results120, go_sem, hc5, hc6], ⟨_, by rw [unhide HC], fun _ => rfl, fun h => ?_⟩, ?_⟩
      · rw [unhide HC] at h; cases h
      · exact (unhide HB7).grown (grownBy_putObj' _ D (.deferred none)) (by simp; omega) (fun k e => by cases e; omega)
  case stop =>
    rintro D c pre W hD hpre ⟨rfl, ⟨pre', p, j, rfl, hj, hh⟩, ⟨q1, q2⟩, q4⟩ hK
    have hcode := held_taken hpre hj hh
    have HR5 := hide q2
    have HM5 := hide q1
    have HB5 := hide q4
    have HK := hide hK
    have HC := hide hcode
    clear q1 q2 q4 hK hit hbp hli hcode hh
    gi_wp2
    refine ⟨by simp, .inl ⟨_, _, rfl, run_takeDeferred (unhide HK), ?_⟩⟩
    have hc5 := cell_kept ((unhide HM5).at 0 _ rfl) (grownBy_putObj' _ D (.deferred none)) (fun r e => by cases e; exact ⟨_, unhide HK, rfl⟩)
    have hc6 := cell_kept ((unhide HR5).at 0 _ rfl) (grownBy_putObj' _ D (.deferred none)) (fun r e => by cases e; exact ⟨_, unhide HK, rfl⟩)
    refine ⟨.tuple #[.map none, .int .i64 6], by simp [results, Try.results120, go_sem, hc5, hc6], ⟨.map none, by rw [unhide HC], fun _ => rfl, fun h => ?_⟩, ?_⟩
    · rw [unhide HC] at h; cases h
    · exact (unhide HB5).grown (grownBy_putObj' _ D (.deferred none)) (by have := (unhide HB5).size; omega) (fun k e => by cases e; omega)

end Go.Proofs.Ytggnnbdjihihiaa

namespace Go.Proofs.Ytggnnbdjihihiaa
open Go.RowKit

theorem ivfFault_form (x : DIvf) : ivfFault x = if formF x = 0 then codeL x else formF x := by
  unfold ivfFault formF codeL
  by_cases h1 : centersFault x.centers = 0
  · simp only [if_pos h1]
    by_cases h2 : x.lists.length = x.centers.length
    · simp only [if_pos h2]
    · simp only [if_neg h2]
      rw [if_neg (by decide)]
  · simp only [if_neg h1]
theorem form_zero {x : DIvf} (h : formF x = 0) : centersFault x.centers = 0 ∧ x.lists.length = x.centers.length ∧ ∀ l ∈ x.lists, tableFault l.items = 0 := by
  unfold formF at h
  by_cases h1 : centersFault x.centers = 0
  · rw [if_pos h1] at h
    by_cases h2 : x.lists.length = x.centers.length
    · rw [if_pos h2] at h
      exact ⟨h1, h2, list_facts h⟩
    · rw [if_neg h2] at h; cases h
  · rw [if_neg h1] at h; exact absurd h h1

set_option maxRecDepth 10000 in
set_option maxHeartbeats 1000000 in
theorem implTIvf (x : DIvf) (ac : Option Addr) (dc : Nat) (al : Option Addr) (dl : Nat) (w : World) (h1 : (Lay.sl Lay.tCenter).Reads w [.slice ac x.centers.length dc] x.centers) (h2 : (Lay.sl Lay.tIvfList).Reads w [.slice al x.lists.length dl] x.lists) :
    Calls Try.prog 72 #[.agg #[.slice ac x.centers.length dc, .slice al x.lists.length dl]] w fun e w' => (∃ mv, e = .returned (.tuple #[mv, .int .i64 (ivfFault x)]) ∧ (ivfFault x ≠ 0 → mv = .map none) ∧ (ivfFault x = 0 → ∃ b, mv = .map (some b) ∧ w.heap.size ≤ b ∧ TabAt w' b 200 (allIs x.lists))) ∧ Below w.heap.size w w' := by
  have nb : Below w.heap.size w (w.alloc (.cells #[.slice ac x.centers.length dc, .slice al x.lists.length dl] 27)) := (Below.refl _ _).alloc (Nat.le_refl _) _
  have bX : Box w.heap.size #[.slice ac x.centers.length dc, .slice al x.lists.length dl] 27 (w.alloc (.cells #[.slice ac x.centers.length dc, .slice al x.lists.length dl] 27)) w.heap.size := newBox (Nat.le_refl _)
  have L := implForm x ac dc al dl _ (h1.later nb) (h2.later nb)
  have hfi := ivfFault_form x
  generalize hF0 : ivfFault x = F0 at *
  have HF0 := hide hfi
  have c0 := bX.at 0 _ rfl
  have c1 := bX.at 1 _ rfl
  clear hfi
  go_enter Try.func72, Try.ntmps72
  go_wp2_with fail
  generalize w.alloc (.cells #[.slice ac x.centers.length dc, .slice al x.lists.length dl] 27) = W0 at *
  refine L.mono ?_
  rintro e w1 ⟨rfl, hb⟩
  replace bX := bX.keep hb
  replace nb := nb.trans (hb.mono nb.size)
  clear hb L c0 c1
  by_cases hf : formF x = 0
  · obtain ⟨q1, q2, q3⟩ := form_zero hf
    have L2 := hide (implTLists x ac dc al dl w1 (h1.later nb) (h2.later nb) q1 q2 q3)
    have hF : Hid (F0 = codeL x) := by show F0 = _; rw [unhide HF0, if_pos hf]
    rw [hf]
    have c0 := bX.at 0 _ rfl
    have c1 := bX.at 1 _ rfl
    have HB := hide nb
    clear q1 q2 q3 hf bX nb h1 h2 hF0
    go_wp2_with fail
    refine (unhide L2).mono ?_
    rintro e w2 ⟨⟨mv, rfl, m1, m2⟩, hb2⟩
    have HM1 := hide m1
    have HM2 := hide m2
    have HB2 := hide ((unhide HB).trans (hb2.mono (unhide HB).size))
    clear m1 m2 hb2 L2 c0 c1
    go_wp2_with fail
    refine bodyPost_ret (v := .tuple #[mv, .int .i64 (codeL x)]) (by simp [results, Try.results72, go_sem]) rfl ?_
    rw [unhide hF]
    refine ⟨⟨mv, rfl, unhide HM1, fun h => ?_⟩, unhide HB2⟩
    obtain ⟨b, e1, e2, e3⟩ := unhide HM2 h
    exact ⟨b, e1, Nat.le_trans (unhide HB).size e2, e3⟩
  · have hd : (formF x != 0) = true := by simpa using hf
    have hF : Hid (F0 = formF x) := by show F0 = _; rw [unhide HF0, if_neg hf]
    have HB := hide nb
    have HN := hide hf
    clear hf bX nb h1 h2 hF0
    go_wp2_with fail
    refine bodyPost_ret (v := .tuple #[.map none, .int .i64 (formF x)]) (by simp [results, Try.results72, go_sem]) rfl ?_
    rw [unhide hF]
    exact ⟨⟨_, rfl, fun _ => rfl, fun h => absurd h (unhide HN)⟩, unhide HB⟩

set_option maxRecDepth 10000 in
set_option maxHeartbeats 1000000 in
theorem implIvfF (cs : List Value) (x : DIvf) (w : World) (h : Lay.tIvf.Reads w cs x) :
    Calls Try.prog 23 #[.agg cs.toArray] w fun e w' => e = .returned (.int .i64 (ivfFault x)) ∧ Below w.heap.size w w' := by
  obtain ⟨ac, dc, al, dl, rfl, R0, R1⟩ := open_Ivf h
  have nb : Below w.heap.size w (w.alloc (.cells #[.slice ac x.centers.length dc, .slice al x.lists.length dl] 27)) := (Below.refl _ _).alloc (Nat.le_refl _) _
  have bx : Box w.heap.size #[.slice ac x.centers.length dc, .slice al x.lists.length dl] 27 (w.alloc (.cells #[.slice ac x.centers.length dc, .slice al x.lists.length dl] 27)) w.heap.size := newBox (Nat.le_refl _)
  have L := hide (implTIvf x ac dc al dl _ (R0.later nb) (R1.later nb))
  have HB := hide nb
  have c0 := bx.at 0 _ rfl
  have c1 := bx.at 1 _ rfl
  clear h R0 R1 nb bx
  go_enter Try.func23, Try.ntmps23
  go_wp2_with fail
  refine (unhide L).mono ?_
  rintro e w1 ⟨⟨mv, rfl, -, -⟩, hb⟩
  replace HB := hide ((unhide HB).trans (hb.mono (unhide HB).size))
  clear hb L c0 c1
  go_wp2_with fail
  go_ret
  exact ⟨rfl, unhide HB⟩

end Go.Proofs.Ytggnnbdjihihiaa

namespace Go.Proofs.Ytggnnbdjihihiaa
open Go.RowKit

theorem cellsP_at {m : Nat} (ia : Nat → Option Addr) (il ic : Nat → Nat) (zs : List (Pl m)) (k : Nat) (h : k < zs.length) : (cellsP ia il ic zs)[k * 2]? = some (.int .i64 (zs[k].1 : Int)) ∧ (cellsP ia il ic zs)[k * 2 + 1]? = some (.slice (ia zs[k].1) (il zs[k].1) (ic zs[k].1)) := by
  induction zs generalizing k with
  | nil => simp at h
  | cons z zs ih =>
    have e : cellsP ia il ic (z :: zs) = .int .i64 (z.1 : Int) :: .slice (ia z.1) (il z.1) (ic z.1) :: cellsP ia il ic zs := by simp [cellsP]
    rw [e]
    match k with
    | 0 => exact ⟨rfl, rfl⟩
    | k + 1 =>
      have := ih k (by simpa using h)
      have e1 : (k + 1) * 2 = k * 2 + 1 + 1 := by omega
      rw [e1]
      simpa using this

set_option maxRecDepth 10000 in
theorem countC7 (n : Int) (w : World) : Calls Try.prog 60 #[.int .i64 n] w fun e w' => e = .returned (.bool (nB n)) ∧ w' = w := by
  unfold nB
  by_cases h1 : 0 ≤ n
  · have d1 : decide (0 ≤ n) = true := by simpa using h1
    rw [d1]
    cases d2 : decide (n ≤ 6) <;>
    · go_enter Try.func60, Try.ntmps60
      go_wp2_with fail
      go_ret
      exact ⟨rfl, rfl⟩
  · have d1 : decide (0 ≤ n) = false := by simpa using h1
    rw [d1]
    go_enter Try.func60, Try.ntmps60
    go_wp2_with fail
    go_ret
    exact ⟨rfl, rfl⟩

theorem read_ivf {w : World} {x : DIvf} {a1 : Option Addr} {d1 : Nat} {a2 : Option Addr} {d2 : Nat} (h1 : (Lay.sl Lay.tCenter).Reads w [.slice a1 x.centers.length d1] x.centers) (h2 : (Lay.sl Lay.tIvfList).Reads w [.slice a2 x.lists.length d2] x.lists) : Lay.tIvf.Reads w [.slice a1 x.centers.length d1, .slice a2 x.lists.length d2] x := by
  obtain ⟨b1, l1⟩ := h1
  obtain ⟨b2, l2⟩ := h2
  exact ⟨b1 ++ b2, [.slice a1 x.centers.length d1], [.slice a2 x.lists.length d2], b1, b2, rfl, rfl, l1, l2⟩
/-- A halt of the walk at an append. -/
theorem haltAppend {P : Program} {ops : Array Oper} {Q : Exit → Act → World → Prop} {rest : List Oper} {o : Oper} {a : Act} {w : World} (s x : Operand) (t : Array TypeId) (_ : o.op = .call { callee := .builtin .append, args := #[s, x], argTypes := t }) (h : Unit → wpList P ops Q (o :: rest) a w) : wpList P ops Q (o :: rest) a w := h ()
def probeF (x : DIvf) (q : List Int) : Int := if ivfFault x = 0 then vecFault q else ivfFault x
theorem probeF_wf (x : DIvf) (q : List Int) : (Lit.int .i64 (probeF x q)).wf = true := by
  have h1 := ivfFault_bd x
  have h2 := vecFault_bd q
  refine wf_of_bd ?_
  unfold probeF
  split <;> omega

set_option maxRecDepth 10000 in
set_option maxHeartbeats 1000000 in
theorem probeFC (x : DIvf) (q : List Int) (ac : Option Addr) (dc : Nat) (al : Option Addr) (dl : Nat) (aq : Option Addr) (dq : Nat) (w : World) (h1 : (Lay.sl Lay.tCenter).Reads w [.slice ac x.centers.length dc] x.centers) (h2 : (Lay.sl Lay.tIvfList).Reads w [.slice al x.lists.length dl] x.lists) (h3 : (Lay.sl Lay.int).Reads w [.slice aq q.length dq] q) :
    Calls Try.prog 59 #[.agg #[.slice ac x.centers.length dc, .slice al x.lists.length dl], .slice aq q.length dq] w fun e w' => e = .returned (.int .i64 (probeF x q)) ∧ Below w.heap.size w w' := by
  have nb : Below w.heap.size w (w.alloc (.cells #[.slice ac x.centers.length dc, .slice al x.lists.length dl] 27)) := (Below.refl _ _).alloc (Nat.le_refl _) _
  have bX : Box w.heap.size #[.slice ac x.centers.length dc, .slice al x.lists.length dl] 27 (w.alloc (.cells #[.slice ac x.centers.length dc, .slice al x.lists.length dl] 27)) w.heap.size := newBox (Nat.le_refl _)
  have L := implIvfF [.slice ac x.centers.length dc, .slice al x.lists.length dl] x (w.alloc (.cells #[.slice ac x.centers.length dc, .slice al x.lists.length dl] 27)) (read_ivf (h1.later nb) (h2.later nb))
  generalize hF0 : probeF x q = F0
  have HF0 := hide hF0
  have c0 := bX.at 0 _ rfl
  have c1 := bX.at 1 _ rfl
  have HQ := hide (h3.later nb)
  clear hF0 h1 h2 h3 bX
  go_enter Try.func59, Try.ntmps59
  go_wp2_with fail
  generalize w.alloc (.cells #[.slice ac x.centers.length dc, .slice al x.lists.length dl] 27) = W0 at *
  refine L.mono ?_
  rintro e w1 ⟨rfl, hb⟩
  have HB := hide (nb.trans (hb.mono nb.size))
  have I1 := Lay.ints_reads ((unhide HQ).later hb)
  clear hb L nb c0 c1
  by_cases hf : ivfFault x = 0
  · have hF : Hid (F0 = vecFault q) := by show F0 = _; rw [← unhide HF0, probeF, if_pos hf]
    rw [hf]
    have LV := hide (implFault _ q w1 I1)
    clear hf I1
    go_wp2_with fail
    refine (unhide LV).mono ?_
    rintro e w2 ⟨rfl, rfl⟩
    go_wp2_with fail
    go_ret
    exact ⟨by rw [unhide hF]; rfl, unhide HB⟩
  · have hd : (ivfFault x != 0) = true := by simpa using hf
    have hF : Hid (F0 = ivfFault x) := by show F0 = _; rw [← unhide HF0, probeF, if_neg hf]
    clear hf I1
    go_wp2_with fail
    go_ret
    exact ⟨by rw [unhide hF]; rfl, unhide HB⟩

end Go.Proofs.Ytggnnbdjihihiaa

namespace Go.Proofs.Ytggnnbdjihihiaa
open Go.RowKit

set_option maxRecDepth 100000 in
set_option maxHeartbeats 4000000 in
theorem implProbesOf (cs : List Value) (x : DIvf) (vq : Value) (q : List Int) (n : Int) (w : World) (h : Lay.tIvf.Reads w cs x) (hq : (Lay.sl Lay.int).Reads w [vq] q) :
    Calls Try.prog 11 #[.agg cs.toArray, vq, .int .i64 n] w fun e w' => ∃ cs', e = .returned (.agg cs'.toArray) ∧ Lay.tIntsResult.OwnIn w' cs' (probesR x q n) w.heap.size w'.heap.size ∧ Below w.heap.size w w' := by
  obtain ⟨ac, dc, al, dl, rfl, R0, R1⟩ := open_Ivf h
  obtain ⟨aq, dq, rfl⟩ := open_sl hq
  have nb1 : Below w.heap.size w (w.alloc (.cells #[.slice ac x.centers.length dc, .slice al x.lists.length dl] 27)) := (Below.refl _ _).alloc (Nat.le_refl _) _
  have nb : Below w.heap.size w ((w.alloc (.cells #[.slice ac x.centers.length dc, .slice al x.lists.length dl] 27)).alloc (.cells #[.int .i64 0, .slice none 0 0] 32)) := nb1.alloc (by simp) _
  have bX : Box w.heap.size #[.slice ac x.centers.length dc, .slice al x.lists.length dl] 27 ((w.alloc (.cells #[.slice ac x.centers.length dc, .slice al x.lists.length dl] 27)).alloc (.cells #[.int .i64 0, .slice none 0 0] 32)) w.heap.size := (newBox (Nat.le_refl _)).grow _
  have bR : Box w.heap.size #[.int .i64 0, .slice none 0 0] 32 ((w.alloc (.cells #[.slice ac x.centers.length dc, .slice al x.lists.length dl] 27)).alloc (.cells #[.int .i64 0, .slice none 0 0] 32)) (w.heap.size + 1) := newBoxAt (by omega) (by simp)
  have L := hide (probeFC x q ac dc al dl aq dq _ (R0.later nb) (R1.later nb) (hq.later nb))
  have c0 := bX.at 0 _ rfl
  have c1 := bX.at 1 _ rfl
  have H0 := hide (R0.later nb)
  have H1 := hide (R1.later nb)
  have HQ := hide (hq.later nb)
  clear h R0 R1 nb1 hq
  go_enter Try.func11, Try.ntmps11
  go_wp2_with fail
  generalize (w.alloc (.cells #[.slice ac x.centers.length dc, .slice al x.lists.length dl] 27)).alloc (.cells #[.int .i64 0, .slice none 0 0] 32) = W0 at *
  refine (unhide L).mono ?_
  rintro e w1 ⟨rfl, hb⟩
  have hW0 := bR.lt
  replace bR := bR.keep hb
  replace bX := bX.keep hb
  replace nb := nb.trans (hb.mono nb.size)
  have z0 : w1.cell? ⟨w.heap.size + 1, 0, none⟩ = some (.int .i64 0) := bR.at 0 _ rfl
  have z1 : w1.cell? ⟨w.heap.size + 1, 1, none⟩ = some (.slice none 0 0) := bR.at 1 _ rfl
  have f0 := bR.soft 0
  have f1 := bR.soft 1
  have l0 := bR.lt
  have HB := hide nb
  have HR := hide bR
  have HBX := hide bX
  replace H0 := hide ((unhide H0).later hb)
  replace H1 := hide ((unhide H1).later hb)
  replace HQ := hide ((unhide HQ).later hb)
  clear hb L c0 c1 nb bR bX
  by_cases hf : probeF x q = 0
  · rw [hf]
    have hif : ivfFault x = 0 := by
      unfold probeF at hf
      by_cases h : ivfFault x = 0
      · exact h
      · rw [if_neg h] at hf; exact absurd hf h
    have hvf : vecFault q = 0 := by unfold probeF at hf; rw [if_pos hif] at hf; exact hf
    have HIF := hide hif
    have HVF := hide hvf
    clear hf hif hvf
    go_wp2_with fail
    refine (countC7 n _).mono ?_
    rintro e w1 ⟨rfl, rfl⟩
    cases hn : nB n with
    | false =>
      have HG : Hid (probesR x q n = ⟨3, []⟩) := by
        show probesR x q n = _
        rw [probesR, if_pos (unhide HIF), if_pos (unhide HVF), hn]; rfl
      clear hn
      go_wp2_with fail
      refine bodyPost_ret (v := .agg #[.int .i64 3, .slice none 0 0]) (by simp [results, Try.results11, go_sem, z0, z1]) rfl ?_
      rw [unhide HG]
      exact ⟨[.int .i64 3, .slice none 0 0], rfl, own_codeInts6 (by decide), ((unhide HB).setCell (by simp) _).setCell (by simp) _⟩
    | true =>
      obtain ⟨m, rfl, hm6⟩ : ∃ m : Nat, n = m ∧ m ≤ 6 := by
        simp only [nB, Bool.and_eq_true, decide_eq_true_eq] at hn
        exact ⟨n.toNat, by omega, by omega⟩
      have HG : Hid (probesR x q m = ⟨0, probesI x.centers q m⟩) := by
        show probesR x q m = _
        rw [probesR, if_pos (unhide HIF), if_pos (unhide HVF), hn]
        rfl
      have hifz := ivfFault_zero (unhide HIF)
      have hc6 := (centersFault_zero hifz.1).1.2
      have LP := hide (probedC x q m ac dc al dl aq dq w1 (unhide H0) (unhide H1) (unhide HQ) hifz.1 hifz.2.1 (unhide HVF) hm6)
      have c0 := (unhide HBX).at 0 _ rfl
      have c1 := (unhide HBX).at 1 _ rfl
      clear hn hifz
      go_wp2_with fail
      refine (unhide LP).mono ?_
      rintro e w2 ⟨v, zs, ia, ic, rfl, hzp, -, hO, hb2⟩
      obtain ⟨a2, c2, rfl⟩ := own_form hO
      have HZP := hide hzp
      have hzl : zs.length ≤ 6 := by
        have := congrArg List.length hzp
        rw [List.length_map] at this
        rw [this]
        exact Nat.le_trans (probe_len _ _ _) hm6
      have HO := hide hO
      have HB2 := hide ((unhide HB).trans (hb2.mono (unhide HB).size))
      have HR2 := hide ((unhide HR).keep hb2)
      clear hO hb2 hzp LP c0 c1 z0 z1 f0 f1 l0 HB HR
      go_wp2_with fail
      go_loopw [8, 27] (fun u i wr => ∃ j : Nat, j ≤ zs.length ∧ i = .int .i64 j ∧ wr.ownsRow w2.heap.size 2 1 u j ((zs.take j).map fun y => Value.int .i64 (y.1 : Int)) ∧ Below w2.heap.size w2 wr) (fun _ i _ => zs.length - (intOf i).toNat)
      case atStart => exact ⟨0, Nat.zero_le _, rfl, World.ownsRow_nil _ _ _ _, Below.refl _ _⟩
      case round =>
        obtain ⟨j, hj, rfl, hown, hB⟩ := hrel
        by_cases hlt : j < zs.length
        · obtain ⟨g2, rfl⟩ : ∃ g, a2 = some ⟨g, 0, none⟩ := by
            rcases (unhide HO).2 with ⟨e, h0⟩ | ⟨g, cap, cur, e, -⟩
            · omega
            · exact ⟨g, by injection e⟩
          have hO2 := own_below (unhide HO) hB
          have hfl : (cellsP ia (fun j => (itsL x.lists j).length) ic zs).length = zs.length * 2 := (unhide HO).1
          have hp := cellsP_at ia (fun j => (itsL x.lists j).length) ic zs j hlt
          have c8 : wr.cell? ⟨g2, j * 2, none⟩ = some (.int .i64 (zs[j].1 : Int)) := (hO2.cellAt (j * 2) (by omega)).trans hp.1
          have c9 : wr.cell? ⟨g2, j * 2 + 1, none⟩ = some (.slice (ia zs[j].1) (itsL x.lists zs[j].1).length (ic zs[j].1)) := (hO2.cellAt (j * 2 + 1) (by omega)).trans hp.2
          have HT9 : Hid ((zs.take (j + 1)).map (fun y => Value.int .i64 (y.1 : Int)) = (zs.take j).map (fun y => Value.int .i64 (y.1 : Int)) ++ [.int .i64 (zs[j].1 : Int)]) := by
            show (zs.take (j + 1)).map _ = _
            rw [List.take_succ_eq_append_getElem hlt, List.map_append]
            rfl
          generalize (zs.take j).map (fun y => Value.int .i64 (y.1 : Int)) = X9 at *
          generalize zs[j] = y at *
          obtain ⟨p, hpp⟩ := y
          dsimp only at c8 c9 HT9
          generalize (itsL x.lists p).length = il9 at *
          generalize ia p = ia9 at *
          generalize ic p = ic9 at *
          have nbp : Below wr.heap.size wr (wr.alloc (.cells #[.int .i64 (p : Int), .slice ia9 il9 ic9] 98)) := (Below.refl _ _).alloc (Nat.le_refl _) _
          have hown2 := own_below hown nbp
          have hzz : w2.heap.size ≤ (wr.alloc (.cells #[.int .i64 (p : Int), .slice ia9 il9 ic9] 98)).heap.size := Nat.le_trans hB.size nbp.size
          have HB5 := hide (hB.trans (nbp.mono hB.size))
          clear hO2 hfl hp hB hown nbp
          go_wp2_with (at_builtin; refine haltAppend _ _ _ rfl ?_)
          intro _
          have hsz9 : (wr.alloc (.cells #[.int .i64 (p : Int), .slice ia9 il9 ic9] 98)).heap.size = wr.heap.size + 1 := by simp
          rw [← hsz9]
          generalize wr.alloc (.cells #[.int .i64 (p : Int), .slice ia9 il9 ic9] 98) = Wp at *
          refine wpList_append_int hown2 (p : Int) rfl _ _ rfl rfl rfl (by omega) hzz ?_
          rintro g5 cp5 w5 ho5 - hb5 hl5 hz5
          have HO5 := hide ho5
          have HB6 := hide ((unhide HB5).trans hb5)
          clear ho5 hb5 hown2 HB5 hl5 hz5 c8 c9
          go_wp2_with fail
          go_roundw
          case rel => exact ⟨j + 1, by omega, by go_num, by rw [unhide HT9]; exact unhide HO5, unhide HB6⟩
          case measure => simp [intOf]; omega
        · obtain rfl : j = zs.length := by omega
          rw [List.take_length] at hown
          obtain ⟨a7, c7, rfl⟩ := own_form hown
          have e7 : zs.map (fun y => Value.int .i64 (y.1 : Int)) = (probesI x.centers q m).map (Value.int .i64) := by
            rw [← unhide HZP, List.map_map]; rfl
          have e8 : zs.length = (probesI x.centers q m).length := by rw [← unhide HZP, List.length_map]
          rw [e7, e8] at hown
          have hI := Lay.ownInts (probe_wf (by omega)) (by rw [← e8]; omega) hown
          rw [← e8] at hI
          have bR := (unhide HR2).keep hB
          have z0 : wr.cell? ⟨w.heap.size + 1, 0, none⟩ = some (.int .i64 0) := bR.at 0 _ rfl
          have z1 : wr.cell? ⟨w.heap.size + 1, 1, none⟩ = some (.slice none 0 0) := bR.at 1 _ rfl
          have f0 := bR.soft 0
          have f1 := bR.soft 1
          have l0 := bR.lt
          have lR := (unhide HR2).lt
          have HB9 := hide ((unhide HB2).trans (hB.mono (unhide HB2).size))
          have HI9 := hide hI
          clear hown hB hI bR e7 e8
          go_wp2_with fail
          refine bodyPost_ret (v := .agg #[.int .i64 0, .slice a7 zs.length c7]) (by simp [results, Try.results11, go_sem, z0, z1]) rfl ?_
          rw [unhide HG]
          have hE : Ext (fun c => c = w.heap.size + 1) wr ((wr.setCell ⟨w.heap.size + 1, 0, none⟩ (.int .i64 0)).setCell ⟨w.heap.size + 1, 1, none⟩ (.slice a7 zs.length c7)) := ((Ext.refl (fun c => c = w.heap.size + 1) _).setCell ⟨w.heap.size + 1, 0, none⟩ _ rfl).setCell ⟨w.heap.size + 1, 1, none⟩ _ rfl
          refine ⟨[.int .i64 0, .slice a7 zs.length c7], rfl, own_intsR6 (by decide) ?_, ((unhide HB9).setCell (by simp) _).setCell (by simp) _⟩
          exact ((unhide HI9).ext hE (fun c h1 _ h3 => by omega)).mono (by have := (unhide HB2).size; omega) (by simp)
  · have hd : (probeF x q != 0) = true := by simpa using hf
    have HG : Hid (probesR x q n = ⟨probeF x q, []⟩) := by
      show probesR x q n = _
      unfold probesR probeF
      by_cases h : ivfFault x = 0
      · have hv : vecFault q ≠ 0 := fun hv => hf (by rw [probeF, if_pos h]; exact hv)
        rw [if_pos h, if_pos h, if_neg hv]
      · rw [if_neg h, if_neg h]
    clear hf
    go_wp2_with fail
    refine bodyPost_ret (v := .agg #[.int .i64 (probeF x q), .slice none 0 0]) (by simp [results, Try.results11, go_sem, z0, z1]) rfl ?_
    rw [unhide HG]
    exact ⟨[.int .i64 (probeF x q), .slice none 0 0], rfl, own_codeInts6 (probeF_wf x q), ((unhide HB).setCell (by simp) _).setCell (by simp) _⟩

end Go.Proofs.Ytggnnbdjihihiaa

namespace Go.Proofs.Ytggnnbdjihihiaa
open Go.RowKit

theorem infoAppHit : (Try.prog.info? 41).map (fun i => (i.zero, i.size, i.bytes)) = some (some (.agg #[.int .i64 0, .int .i64 0]), 2, 16) := by kernel_rfl
theorem one_Hit {w : World} {row : List Value} {x : DHit} {bl : List Nat} (h : Lay.tHit.lies w row x bl) : (∀ u ∈ row, u.oneCell' = true) ∧ row.length = 1 * 2 := by
  obtain ⟨rfl, -⟩ := lies_Hit.1 h
  simp [Value.oneCell']

/-- At an operation of a plain region: the new one lies in a block of its own. -/
theorem wpList_append_Hit {w1 : World} {base : Nat} {v : Value} {rows : List (List Value)} {xs : List DHit} {bls : List (List Nat)} (hG : Grow Lay.tHit w1 base 41 v rows xs bls) {row : List Value} {x : DHit} {bl : List Nat} (hl : Lay.tHit.lies w1 row x bl) (hbl : ∀ b ∈ bl, v.ownBlock ≠ some b) {ops : Array Oper} {rest : List Oper} {o : Oper} {a : Act} {Q : Exit → Act → World → Prop} (hgd : o.guard = none) (s y : Operand)
    (ho : o.op = .call { callee := .builtin .append, args := #[s, y], argTypes := #[35, 35] }) (hs : a.eval s = v) (hy : a.eval y = .slice (some ⟨w1.heap.size, 0, none⟩) 1 1) (hn : xs.length + 1 ≤ 100000000) (hbase : base ≤ w1.heap.size)
    (h : ∀ g cap w', Grow Lay.tHit w' base 41 (.slice (some ⟨g, 0, none⟩) (xs.length + 1) cap) (rows ++ [row]) (xs ++ [x]) (bls ++ [bl]) → Below base w1 w' → Ext (fun q => v.ownBlock = some q) w1 w' → g < w'.heap.size → w1.heap.size ≤ w'.heap.size → (v.ownBlock = some g ∨ w1.heap.size ≤ g) → wpList Try.prog ops Q rest (a.put o.dst (.slice (some ⟨g, 0, none⟩) (xs.length + 1) cap)) w') :
    wpList Try.prog ops Q (o :: rest) a (w1.alloc (.cells row.toArray 41)) := by
  obtain ⟨i0, hi0, hz0, hz1, hz2⟩ := info_parts infoAppHit
  obtain ⟨h1, hlen⟩ := one_Hit hl
  refine wpList_append_lies _ hgd s y 35 ho base 41 i0 _ 2 16 Try.underlying35 hi0 hz0 hz1 hz2 rfl (by omega) v xs.length rows.flatten hs (hG.own.alloc _) ⟨w1.heap.size, 0, none⟩ 1 1 row hy hlen (World.news_of_block (cs := row.toArray) (t := 41) (fr := (0, 0)) (heap_alloc_new w1 _)) h1 (by omega) (by unfold maxLen; omega) (by omega) (by simp; omega) (w1.alloc (.cells row.toArray 41)).heap.size rfl ?_
  intro g cap w' h2 h3 h4 h5
  have hg := grown_alloc h3
  have hbw : Below base w1 w' := (Below.refl _ _).grown hg hbase (fun j hj => (hG.own.lt j hj).1)
  have hor : v.ownBlock = some g ∨ w1.heap.size ≤ g := by
    rcases h4 with h4 | h4
    · exact Or.inl h4
    · exact Or.inr (by rw [h4]; simp)
  exact h g cap w' (hG.snoc hl hbl h2 hg hor) hbw ⟨hbw.os, hbw.tape, hbw.output, hbw.size, fun k hk hn => hg.block k hk (fun e => hn e.symm)⟩ h5 hbw.size hor

/-- At a step of a region that draws its order. -/
theorem step_append_Hit {w1 : World} {base : Nat} {v : Value} {rows : List (List Value)} {xs : List DHit} {bls : List (List Nat)} (hG : Grow Lay.tHit w1 base 41 v rows xs bls) {row : List Value} {x : DHit} {bl : List Nat} (hl : Lay.tHit.lies w1 row x bl) (hbl : ∀ b ∈ bl, v.ownBlock ≠ some b) {ops : Array Oper} {o : Oper} {a : Act} {K : Act → World → Prop} {Q : Exit → Act → World → Prop} {E : Prop} (hgd : o.guard = none) (s y : Operand)
    (ho : o.op = .call { callee := .builtin .append, args := #[s, y], argTypes := #[35, 35] }) (hs : a.eval s = v) (hy : a.eval y = .slice (some ⟨w1.heap.size, 0, none⟩) 1 1) (hn : xs.length + 1 ≤ 100000000) (hbase : base ≤ w1.heap.size)
    (h : ∀ g cap w', Grow Lay.tHit w' base 41 (.slice (some ⟨g, 0, none⟩) (xs.length + 1) cap) (rows ++ [row]) (xs ++ [x]) (bls ++ [bl]) → Below base w1 w' → Ext (fun q => v.ownBlock = some q) w1 w' → g < w'.heap.size → w1.heap.size ≤ w'.heap.size → (v.ownBlock = some g ∨ w1.heap.size ≤ g) → K (a.put o.dst (.slice (some ⟨g, 0, none⟩) (xs.length + 1) cap)) w') :
    if Region.wanted o (yielded ops a.tmps) = true then Oper.wp Try.prog o a (w1.alloc (.cells row.toArray 41)) K Q else E := by
  obtain ⟨i0, hi0, hz0, hz1, hz2⟩ := info_parts infoAppHit
  obtain ⟨h1, hlen⟩ := one_Hit hl
  refine step_append_lies _ hgd s y 35 ho base 41 i0 _ 2 16 Try.underlying35 hi0 hz0 hz1 hz2 rfl (by omega) v xs.length rows.flatten hs (hG.own.alloc _) ⟨w1.heap.size, 0, none⟩ 1 1 row hy hlen (World.news_of_block (cs := row.toArray) (t := 41) (fr := (0, 0)) (heap_alloc_new w1 _)) h1 (by omega) (by unfold maxLen; omega) (by omega) (by simp; omega) (w1.alloc (.cells row.toArray 41)).heap.size rfl ?_
  intro g cap w' h2 h3 h4 h5
  have hg := grown_alloc h3
  have hbw : Below base w1 w' := (Below.refl _ _).grown hg hbase (fun j hj => (hG.own.lt j hj).1)
  have hor : v.ownBlock = some g ∨ w1.heap.size ≤ g := by
    rcases h4 with h4 | h4
    · exact Or.inl h4
    · exact Or.inr (by rw [h4]; simp)
  exact h g cap w' (hG.snoc hl hbl h2 hg hor) hbw ⟨hbw.os, hbw.tape, hbw.output, hbw.size, fun k hk hn => hg.block k hk (fun e => hn e.symm)⟩ h5 hbw.size hor

end Go.Proofs.Ytggnnbdjihihiaa

namespace Go.Proofs.Ytggnnbdjihihiaa
open Go.RowKit

set_option maxRecDepth 100000 in
set_option maxHeartbeats 2000000 in
theorem specProbes (v : Value) (cs : List DCenter) (vq : Value) (q : List Int) (n : Nat) (w : World) (h : (Lay.sl Lay.tCenter).Reads w [v] cs) (hq : IsInts w vq q) (hfc : centersFault cs = 0) (hfq : vecFault q = 0) (hn : n ≤ 100) :
    Calls Try.prog 65 #[v, vq, .int .i64 n] w fun e w' => ∃ v', e = .returned v' ∧ w'.ownsRow w.heap.size 2 1 v' (probesI cs q n).length ((probesI cs q n).map (Value.int .i64)) ∧ Below w.heap.size w w' := by
  obtain ⟨⟨hn1, hn6⟩, hall⟩ := centersFault_zero hfc
  obtain ⟨ao, cap, rfl⟩ := open_sl h
  obtain ⟨b, off, rfl, hbl⟩ := Lay.sl_addr h hn1
  have hvq : ∃ a d, vq = .slice a q.length d := by obtain ⟨a, d, e, -⟩ := hq; exact ⟨a, d, e⟩
  obtain ⟨a2, d2, rfl⟩ := hvq
  have HA := hide hall
  have H := hide h
  have HQ := hide hq
  have HFQ := hide hfq
  have G0 : Grow Lay.tHit (w.alloc (.cells #[] 41)) w.heap.size 41 (.slice (some ⟨w.heap.size, 0, none⟩) 0 0) [] [] [] := Grow.nil (World.ownsRow_lit w #[] 0 (Nat.le_refl _) (Nat.zero_le _) rfl)
  have HG1 := hide G0
  have HB1 := hide ((Below.refl w.heap.size w).alloc (Nat.le_refl _) (.cells #[] 41))
  clear h hq hall hfc hfq G0
  go_enter Try.func65, Try.ntmps65
  go_wp2_with fail
  go_loopw [7, 8] (fun v i wr => ∃ (k : Nat) (rows : List (List Value)) (bls : List (List Nat)), k ≤ cs.length ∧ i = .int .i64 k ∧ Grow Lay.tHit wr w.heap.size 41 v rows (probeL cs q k) bls ∧ Below w.heap.size w wr) (fun _ i _ => cs.length - (intOf i).toNat)
  case atStart => exact ⟨0, [], [], Nat.zero_le _, rfl, unhide HG1, unhide HB1⟩
  case round =>
    obtain ⟨k, rows, bls, hk, rfl, hG, hB⟩ := hrel
    clear HG1 HB1
    by_cases hlt : k < cs.length
    · obtain ⟨row, hc, hr⟩ := Lay.row_at (unhide H) hlt
      obtain ⟨a1, d1, rfl, R1⟩ := open_Center hr
      have c1 : wr.cell? ⟨b, off + k, none⟩ = some (.slice a1 (cs[k]).vec.length d1) := (hB.cell (p := ⟨b, off + k, none⟩) hbl).trans (cen_cell (hc 0 (by decide)))
      have HT := hide (probeL_step cs q k hlt)
      have HL := hide (probeL_len cs q k)
      have hvx := unhide HA cs[k] (List.getElem_mem hlt)
      clear hc hr
      generalize hx : cs[k] = x at *
      clear hx
      have hbd := cscore_bd hvx (unhide HFQ)
      have HWS : Hid ((Lit.int .i64 (score3 x.vec q)).wf = true) := wf_of_bd (by omega)
      have HWI : Hid ((Lit.int .i64 (k : Int)).wf = true) := wf_of_bd (by omega)
      have L := hide (modelScore3 _ _ x.vec q wr ((Lay.ints_reads R1).later hB) ((unhide HQ).later hB) hvx (unhide HFQ))
      have HB := hide hB
      have HG := hide hG
      clear R1 hG hB hvx hbd
      generalize probeL cs q k = pk at *
      go_wp2_with fail
      refine (unhide L).mono ?_
      rintro e w3 ⟨rfl, hb⟩
      have hG3 := (unhide HG).later hb
      have hz3 : w.heap.size ≤ w3.heap.size := by have := (unhide HB).size; have := hb.size; omega
      replace HB := hide ((unhide HB).trans (hb.mono (unhide HB).size))
      have hlk := unhide HL
      clear c1 L HG hb
      generalize score3 x.vec q = sc at *
      go_wp2_with (at_builtin; refine wpList_append_Hit hG3 (row := [.int .i64 k, .int .i64 sc]) (x := ⟨k, sc⟩) (bl := []) (lies_Hit.2 ⟨rfl, rfl, unhide HWI, unhide HWS⟩) (by simp) rfl _ _ rfl rfl rfl ?hn9 hz3 ?_; case hn9 => omega)
      rintro g5 cp5 w5 hG5 hb5 - hl5 hz5 -
      have HG5 := hide hG5
      have HB5 := hide ((unhide HB).trans hb5)
      clear hG5 hb5 hG3 HB hlk hl5 hz5
      go_wp2_with fail
      go_roundw
      case rel => exact ⟨k + 1, _, _, by omega, by go_num, by rw [unhide HT]; exact unhide HG5, unhide HB5⟩
      case measure => simp [intOf]; omega
    · obtain rfl : k = cs.length := by omega
      obtain ⟨ho, hwf⟩ := grow_hits hG
      have HP : Hid (probesI cs q n = (best n ((probeL cs q cs.length).map pairH)).map Prod.fst) := rfl
      have hpl : ((probeL cs q cs.length).map pairH).length ≤ 6 := by rw [List.length_map, probeL_len]; omega
      generalize (probeL cs q cs.length).map pairH = ps at *
      have L := hide (l2Best _ ps n wr (isHits_row hwf ho) (by omega) hn)
      have HWF : Hid (∀ p ∈ best n ps, Wf2 p) := fun p hp => hwf p (best_mem hp)
      have hbn : (best n ps).length ≤ 100 := Nat.le_trans (best_len n ps) hn
      have HB := hide hB
      clear hG ho hwf hB
      generalize best n ps = bs at *
      go_wp2_with fail
      refine (unhide L).mono ?_
      rintro e w3 ⟨g3, cp3, rfl, ho3, hb3⟩
      have HH := hide (isHits_row (unhide HWF) ho3)
      replace HB := hide ((unhide HB).trans (hb3.mono (unhide HB).size))
      have O : (w3.alloc (.cells #[] 2)).ownsRow w3.heap.size 2 1 (.slice (some ⟨w3.heap.size, 0, none⟩) 0 0) 0 [] := World.ownsRow_lit w3 _ 0 (Nat.le_refl _) (by unfold maxLen; omega) rfl
      have HO := hide O
      have HB4 := hide ((Below.refl w3.heap.size w3).alloc (Nat.le_refl _) (.cells #[] 2))
      have hl3 := (ho3.lt g3 rfl).2
      clear L ho3 hb3 O
      go_wp2_with fail
      go_loopw [10, 11] (fun u i wr => ∃ j : Nat, j ≤ bs.length ∧ i = .int .i64 j ∧ wr.ownsRow w3.heap.size 2 1 u j ((bs.take j).map fun p => Value.int .i64 p.1) ∧ Below w3.heap.size w3 wr) (fun _ i _ => bs.length - (intOf i).toNat)
      case atStart => exact ⟨0, Nat.zero_le _, rfl, unhide HO, unhide HB4⟩
      case round =>
        obtain ⟨j, hj, rfl, hown, hB5⟩ := hrel
        clear HO HB4
        by_cases hlt2 : j < bs.length
        · obtain ⟨_, _, e9, -, -, -, hc9⟩ := (unhide HH).later hB5
          simp only [Value.slice.injEq] at e9
          obtain ⟨rfl, -, rfl⟩ := e9
          obtain ⟨b9, o9, e9, hc9⟩ := hc9 (by omega)
          simp only [Option.some.injEq, Addr.mk.injEq] at e9
          obtain ⟨rfl, rfl, -⟩ := e9
          have c9 := (hc9 j bs[j].1 bs[j].2 (by rw [List.getElem?_eq_getElem hlt2])).1
          rw [Nat.zero_add] at c9
          have HT9 : Hid ((bs.take (j + 1)).map (fun p => Value.int .i64 p.1) = (bs.take j).map (fun p => Value.int .i64 p.1) ++ [.int .i64 bs[j].1]) := by
            show (bs.take (j + 1)).map _ = _
            rw [List.take_succ_eq_append_getElem hlt2, List.map_append]
            rfl
          generalize (bs.take j).map (fun p => Value.int .i64 p.1) = X9 at *
          have hz9 := hB5.size
          have HB5 := hide hB5
          clear hc9 hB5
          generalize bs[j].1 = y at *
          go_wp2_with (at_builtin; refine wpList_append_int hown y rfl _ _ rfl rfl rfl ?hn9 hz9 ?_; case hn9 => omega)
          rintro g5 cp5 w5 ho5 - hb5 hl5 hz5
          have HO5 := hide ho5
          have HB6 := hide ((unhide HB5).trans hb5)
          clear ho5 hb5 hown HB5 hl5 hz5 c9
          go_wp2_with fail
          go_roundw
          case rel => exact ⟨j + 1, by omega, by go_num, by rw [unhide HT9]; exact unhide HO5, unhide HB6⟩
          case measure => simp [intOf]; omega
        · obtain rfl : j = bs.length := by omega
          rw [List.take_length] at hown
          have HO5 := hide (own_mono (unhide HB).size hown)
          have HB5 := hide ((unhide HB).trans (hB5.mono (unhide HB).size))
          clear hown hB5
          go_wp2_with fail
          go_ret
          refine ⟨_, rfl, ?_, unhide HB5⟩
          rw [unhide HP, List.length_map, List.map_map]
          exact unhide HO5

end Go.Proofs.Ytggnnbdjihihiaa

namespace Go.Proofs.Ytggnnbdjihihiaa
open Go.RowKit

theorem inC (v lo hi : Int) (w : World) :
    Calls Try.prog 111 #[.int .i64 v, .int .i64 lo, .int .i64 hi] w fun e w' => e = .returned (.bool (decide (lo ≤ v) && decide (v ≤ hi))) ∧ w' = w := by
  by_cases h1 : lo ≤ v
  · have d1 : decide (lo ≤ v) = true := by simpa using h1
    rw [d1]
    cases d2 : decide (v ≤ hi) <;>
    · go_enter Try.func111, Try.ntmps111
      go_wp2_with fail
      go_ret
      exact ⟨rfl, rfl⟩
  · have d1 : decide (lo ≤ v) = false := by simpa using h1
    rw [d1]
    go_enter Try.func111, Try.ntmps111
    go_wp2_with fail
    go_ret
    exact ⟨rfl, rfl⟩
theorem idC (x : Int) (w : World) : Calls Try.prog 125 #[.int .i64 x] w fun e w' => e = .returned (.bool (decide (1 ≤ x) && decide (x ≤ 999))) ∧ w' = w := by
  go_enter Try.func125, Try.ntmps125
  go_wp2_with fail
  refine (inC x 1 999 _).mono ?_
  rintro e w1 ⟨rfl, rfl⟩
  go_wp2_with fail
  go_ret
  exact ⟨rfl, rfl⟩

end Go.Proofs.Ytggnnbdjihihiaa

namespace Go.Proofs.Ytggnnbdjihihiaa
open Go.RowKit

set_option maxRecDepth 100000 in
set_option maxHeartbeats 1000000 in
theorem specTab_pos (b off cap : Nat) (xs : List DItem) (w : World) (hn : xs.length ≤ 30) (h : (Lay.sl Lay.tItem).Reads w [.slice (some ⟨b, off, none⟩) xs.length cap] xs) (hbl : b < w.heap.size) :
    Calls Try.prog 135 #[.slice (some ⟨b, off, none⟩) xs.length cap] w fun e w' => e = .returned (.int .i64 (tabFrom none xs)) ∧ Below w.heap.size w w' := by
  generalize hF0 : tabFrom none xs = F0
  have H := hide h
  clear h
  go_enter Try.func135, Try.ntmps135
  go_wp2_with fail
  go_loopw [3] (fun i wr => ∃ k : Nat, k ≤ xs.length ∧ i = .int .i64 k ∧ tabFrom (idAhead xs k) (xs.drop k) = F0 ∧ Below w.heap.size w wr) (fun i _ => xs.length - (intOf i).toNat)
  case atStart => exact ⟨0, Nat.zero_le _, rfl, hF0, Below.refl _ _⟩
  case round =>
    obtain ⟨k, hk, rfl, hF, hB⟩ := hrel
    by_cases hlt : k < xs.length
    · obtain ⟨row, hc, hr⟩ := Lay.row_at (unhide H) hlt
      replace hr := hr.later hB
      obtain ⟨a1, d1, rfl, R1⟩ := open_Item hr
      have c0 : wr.cell? ⟨b, off + k * 2, none⟩ = some (.int .i64 (xs[k]).id) := (hB.cell (p := ⟨b, off + k * 2, none⟩) hbl).trans (hc 0 (by decide))
      have c1 : wr.cell? ⟨b, off + k * 2 + 1, none⟩ = some (.slice a1 (xs[k]).vec.length d1) := (hB.cell (p := ⟨b, off + k * 2 + 1, none⟩) hbl).trans (hc 1 (by decide))
      have HP : Hid (∀ m, k = m + 1 → ∃ z, idAhead xs (m + 1) = some z ∧ wr.cell? ⟨b, off + m * 2, none⟩ = some (.int .i64 z)) := by
        rintro m rfl
        have hm : m < xs.length := by omega
        obtain ⟨row2, hc2, hr2⟩ := Lay.row_at (unhide H) hm
        obtain ⟨a2, d2, rfl, -⟩ := open_Item hr2
        exact ⟨_, idAhead_succ xs m hm, (hB.cell (p := ⟨b, off + m * 2, none⟩) hbl).trans (hc2 0 (by decide))⟩
      rw [tabFrom_step xs k hlt] at hF
      clear hc hr
      generalize hx : xs[k] = x at *
      clear hx
      have hbr : b < wr.heap.size := Nat.lt_of_lt_of_le hbl hB.size
      have I1 := hide (Lay.ints_reads R1)
      have HF := hide hF
      have B1 := hide hB
      clear R1 hF hB
      go_wp2_with fail
      refine (idC x.id _).mono ?_
      rintro e w1 ⟨rfl, rfl⟩
      rw [show (decide (1 ≤ x.id) && decide (x.id ≤ 999)) = idB x.id from rfl]
      cases hid : idB x.id with
      | false =>
        have hF := unhide HF
        rw [hid, if_neg (by simp)] at hF
        have HF2 := hide hF
        clear HF hF hid HP
        go_wp2_with fail
        go_ret
        exact ⟨by rw [← unhide HF2]; rfl, unhide B1⟩
      | true =>
        have hF := unhide HF
        rw [hid, if_pos rfl] at hF
        clear HF hid
        have HF := hide hF
        clear hF
        go_wp2_with fail
        refine (modelFault _ x.vec _ (unhide I1)).mono ?_
        rintro e w1 ⟨rfl, rfl⟩
        by_cases hv : vecFault x.vec = 0
        · rw [hv]
          have hF := unhide HF
          rw [if_pos hv] at hF
          clear HF I1 hv
          have HF := hide hF
          clear hF
          by_cases hk0 : k = 0
          · subst hk0
            have hF := unhide HF
            rw [idAhead_zero, Option.all_none, if_pos rfl] at hF
            have HF3 := hide hF
            clear HF hF HP
            have g0 : decide ((0 : Int) < 0) = false := by decide
            go_wp2_with fail
            go_quiet (fail)
            all_goals go_wp2_with fail
            all_goals exact ⟨⟨0 + 1, by omega, by go_num, unhide HF3, below_drewN (unhide B1) _⟩, by simp [intOf]; omega⟩
          · obtain ⟨m, rfl⟩ : ∃ m, k = m + 1 := ⟨k - 1, by omega⟩
            obtain ⟨z, e1, p0⟩ := unhide HP m rfl
            have hF := unhide HF
            rw [e1, Option.all_some] at hF
            have HF3 := hide hF
            clear HF hF HP e1 hk0
            have g1 : decide ((0 : Int) < (m : Int) + 1) = true := by simp
            have g4 : IntKind.i64.wrap ((m : Int) + 1 - 1) = (m : Int) := by simp only [IntKind.wrap_i64]; omega
            have g9 : IntKind.i64.wrap (m : Int) = (m : Int) := by simp only [IntKind.wrap_i64]; omega
            have g2 : (m : Int) + 1 - 1 = (m : Int) := by omega
            have g3 : (m : Int) < (xs.length : Int) := by omega
            have g5 : (0 : Int) ≤ (m : Int) := by omega
            have g6 : (m : Int) + 1 < (xs.length : Int) := by omega
            have g7 : (0 : Int) ≤ (m : Int) + 1 := by omega
            have g8 : ((m : Int) + 1).toNat = m + 1 := by omega
            cases hq : decide (z < x.id) with
            | true =>
              have hF := unhide HF3
              rw [hq, if_pos rfl] at hF
              have HF4 := hide hF
              have q1 : decide (x.id ≤ z) = false := by simp at hq ⊢; omega
              clear hF HF3 hq
              go_wp2_with fail
              go_quiet (fail)
              all_goals go_wp2_with fail
              all_goals exact ⟨⟨m + 1 + 1, by omega, by go_num, unhide HF4, below_drewN (unhide B1) _⟩, by simp [intOf]; omega⟩
            | false =>
              have hF := unhide HF3
              rw [hq, if_neg (by simp)] at hF
              have HF4 := hide hF
              have q1 : decide (x.id ≤ z) = true := by simp at hq ⊢; omega
              clear hF HF3 hq
              go_wp2_with fail
              go_quiet (fail)
              all_goals go_wp2_with fail
              all_goals go_ret
              all_goals exact ⟨by rw [← unhide HF4]; rfl, below_drewN (unhide B1) _⟩
        · have hF := unhide HF
          rw [if_neg hv] at hF
          have hd : (vecFault x.vec != 0) = true := by simpa using hv
          have HF2 := hide hF
          clear HF hF HP I1 hv
          go_wp2_with fail
          go_ret
          exact ⟨by rw [← unhide HF2]; rfl, unhide B1⟩
    · obtain rfl : k = xs.length := by omega
      rw [List.drop_length] at hF
      have HF := hide hF
      have HB := hide hB
      clear hF hB H
      go_wp2_with fail
      go_ret
      exact ⟨by rw [← unhide HF]; rfl, unhide HB⟩

set_option maxRecDepth 10000 in
/-- l4Fault of the model. -/
theorem specTab (v : Value) (xs : List DItem) (w : World) (h : (Lay.sl Lay.tItem).Reads w [v] xs) :
    Calls Try.prog 135 #[v] w fun e w' => e = .returned (.int .i64 (tableFault xs)) ∧ Below w.heap.size w w' := by
  obtain ⟨ao, cap, rfl⟩ := open_sl h
  by_cases hn : xs.length ≤ 30
  · have e : tableFault xs = tabFrom none xs := by unfold tableFault; rw [if_neg (by omega)]
    rw [e]
    by_cases hp : 0 < xs.length
    · obtain ⟨b, off, rfl, hbl⟩ := Lay.sl_addr h hp
      exact specTab_pos b off cap xs w hn h hbl
    · obtain rfl : xs = [] := List.eq_nil_of_length_eq_zero (by omega)
      clear h e hn hp
      go_enter Try.func135, Try.ntmps135
      go_wp2_with fail
      refine wp_loop_rounds 1 ?_
      rw [rounds_succ]
      go_wp2_with fail
      go_ret
      exact ⟨rfl, Below.refl _ _⟩
  · have e : tableFault xs = 2 := by unfold tableFault; rw [if_pos (by omega)]
    rw [e]
    have hd : decide ((30 : Int) < (xs.length : Int)) = true := by simp; omega
    clear h e
    go_enter Try.func135, Try.ntmps135
    go_wp2_with fail
    go_ret
    exact ⟨rfl, Below.refl _ _⟩

end Go.Proofs.Ytggnnbdjihihiaa

namespace Go.Proofs.Ytggnnbdjihihiaa
open Go.RowKit

set_option maxRecDepth 100000 in
set_option maxHeartbeats 4000000 in
theorem specLists7 (b : Nat) (x : DIvf) (ac : Option Addr) (dc : Nat) (al : Option Addr) (dl : Nat) (w : World) (h : IvfAt w b x ac dc al dl) (hcf : centersFault x.centers = 0) (hn : x.lists.length ≤ 1000000) :
    Calls Try.prog 109 #[.pointer (some ⟨b, 0, none⟩)] w fun e w' => e = .returned (.int .i64 (listsFrom x.centers 0 x.lists)) ∧ Below w.heap.size w w' := by
  generalize hF0 : listsFrom x.centers 0 x.lists = F0
  have HX := hide h
  have HCF := hide hcf
  clear h hcf
  go_enter Try.func109, Try.ntmps109
  go_wp2_with fail
  go_loopw [3] (fun i wr => ∃ k : Nat, k ≤ x.lists.length ∧ i = .int .i64 k ∧ listsFrom x.centers k (x.lists.drop k) = F0 ∧ Below w.heap.size w wr) (fun i _ => x.lists.length - (intOf i).toNat)
  case atStart => exact ⟨0, Nat.zero_le _, rfl, hF0, Below.refl _ _⟩
  case round =>
    obtain ⟨k, hk, rfl, hF, hB⟩ := hrel
    have c1 := ((unhide HX).later hB).c1
    by_cases hlt : k < x.lists.length
    · obtain ⟨bl, ol, rfl, hbl⟩ := Lay.sl_addr (unhide HX).lists (by omega)
      obtain ⟨row, hc, hr⟩ := Lay.row_at (unhide HX).lists hlt
      obtain ⟨a5, d5, rfl, R5⟩ := open_IvfList hr
      have c2 : wr.cell? ⟨bl, ol + k, none⟩ = some (.slice a5 (x.lists[k]).items.length d5) := (hB.cell (p := ⟨bl, ol + k, none⟩) hbl).trans (one_cell (hc 0 (by decide)))
      rw [listsFrom_step x.centers x.lists k hlt] at hF
      clear hc hr
      generalize hls : x.lists[k] = l at *
      clear hls
      have HR5 := hide R5
      have LT := hide (specTab _ l.items wr (R5.later hB))
      have HF := hide hF
      have HB := hide hB
      clear R5 hF hB
      go_wp2_with fail
      refine (unhide LT).mono ?_
      rintro e w2 ⟨rfl, hb2⟩
      replace HB := hide ((unhide HB).trans (hb2.mono (unhide HB).size))
      clear hb2 LT c1 c2
      by_cases hft : tableFault l.items = 0
      · rw [hft]
        obtain ⟨hl30, hla, -⟩ := tableFault_zero hft
        have HLA := hide hla
        have HFT := hide hft
        clear hla hft
        go_wp2_with fail
        rename World => wo
        go_loopw [6] (fun i wr => ∃ j : Nat, j ≤ l.items.length ∧ i = .int .i64 j ∧ atB x.centers k (l.items.take j) = true ∧ Below w.heap.size w wr) (fun i _ => l.items.length - (intOf i).toNat)
        case atStart => exact ⟨0, Nat.zero_le _, rfl, rfl, unhide HB⟩
        case round =>
          obtain ⟨j, hj, rfl, hat, hBr⟩ := hrel
          clear HB
          by_cases hlj : j < l.items.length
          · obtain ⟨b6, o6, rfl, hb6⟩ := Lay.sl_addr (unhide HR5) (by omega)
            obtain ⟨row, hc, hr⟩ := Lay.row_at (unhide HR5) hlj
            obtain ⟨a7, d7, rfl, R7⟩ := open_Item hr
            have c4 : w.cell? ⟨b6, o6 + j * 2 + 1, none⟩ = some (.slice a7 (l.items[j]).vec.length d7) := hc 1 (by decide)
            have hvx := (unhide HLA l.items[j] (List.getElem_mem hlj)).2
            have hats : atB x.centers k (l.items.take (j + 1)) = (near x.centers (l.items[j]).vec == k) := by
              rw [atB, List.take_succ_eq_append_getElem hlj, List.all_append, show (l.items.take j).all (fun y => near x.centers y.vec == k) = true from hat]
              simp
            have hbad : (near x.centers (l.items[j]).vec == k) = false → atB x.centers k l.items = false := fun hq => by
              rw [atB, List.all_eq_false]
              exact ⟨_, List.getElem_mem hlj, by rw [hq]; simp⟩
            clear hc hr hat
            generalize l.items[j] = y at *
            have LN : Hid (∀ W, Below w.heap.size w W → Calls Try.prog 127 #[.slice ac x.centers.length dc, .slice a7 y.vec.length d7] W fun e w' => e = .returned (.int .i64 (near x.centers y.vec : Nat)) ∧ Below W.heap.size W w') := fun W hW => specNear _ x.centers _ y.vec W ((unhide HX).later hW).cens ((Lay.ints_reads R7).later hW) (unhide HCF) hvx
            have HBr := hide hBr
            have HATS := hide hats
            have HBAD := hide hbad
            clear R7 hvx hBr hats hbad
            generalize near x.centers y.vec = nr at *
            have i1 : (0 : Int) ≤ (j : Int) := by omega
            have i2 : (j : Int) < (l.items.length : Int) := by omega
            by_cases he : nr = k
            · subst he
              have hd : (((nr : Nat) : Int) != ((nr : Nat) : Int)) = false := by simp
              have HAT2 : Hid (atB x.centers nr (l.items.take (j + 1)) = true) := (unhide HATS).trans (by simp)
              clear HATS HBAD
              go_wp2_with fail
              refine wp_region_noPanic ?_
              refine wp_region_held_drew (S := fun w' => Below w.heap.size w w') (by kernel_rfl) (unhide HBr).drew (fun hHeld => ?_)
              generalize wr.drew = wD at hHeld ⊢
              refine wpAnyH_take (i := 0) (oi := { dst := some 35, op := Go.Op.move (Go.Operand.tmp 0), type := 100, pos := "l07_ivf.go:25", after := #[], guard := none }) (v := ?va0_1) rfl (by kernel_rfl) (by kernel_rfl) (by kernel_rfl) (fun _ _ _ h => h) (Or.inl ⟨by rfl, ?ha0_1⟩) hHeld ?ra0_1
              case ha0_1 =>
                intro wS hSw
                (try dsimp only at hSw)
                go_simp
                try with_reducible rfl
              case ra0_1 =>
              simp only [Act.put, List.setIfInBounds_toArray, List.set_cons_zero, List.set_cons_succ]
              refine wpAnyH_take (i := 1) (oi := { dst := some 36, op := Go.Op.nilCheck (Go.Operand.tmp 35), type := 0, pos := "l07_ivf.go:25", after := #[{ on := 0, ground := Go.Ground.data }], guard := none }) (v := ?va1_2) rfl (by kernel_rfl) (by kernel_rfl) (by kernel_rfl) (fun _ _ _ h => h) (Or.inl ⟨by rfl, ?ha1_2⟩) hHeld ?ra1_2
              case ha1_2 =>
                intro wS hSw
                (try dsimp only at hSw)
                go_simp
                try with_reducible rfl
              case ra1_2 =>
              simp only [Act.put, List.setIfInBounds_toArray, List.set_cons_zero, List.set_cons_succ]
              refine wpAnyH_take (i := 2) (oi := { dst := some 37, op := Go.Op.fieldAddr 27 (Go.Operand.tmp 36) 0, type := 0, pos := "l07_ivf.go:25", after := #[{ on := 1, ground := Go.Ground.data }], guard := none }) (v := ?va2_3) rfl (by kernel_rfl) (by kernel_rfl) (by kernel_rfl) (fun _ _ _ h => h) (Or.inl ⟨by rfl, ?ha2_3⟩) hHeld ?ra2_3
              case ha2_3 =>
                intro wS hSw
                (try dsimp only at hSw)
                go_simp
                try with_reducible rfl
              case ra2_3 =>
              simp only [Act.put, List.setIfInBounds_toArray, List.set_cons_zero, List.set_cons_succ]
              refine wpAnyH_take (i := 3) (oi := { dst := some 38, op := Go.Op.load 24 (Go.Operand.tmp 37), type := 24, pos := "l07_ivf.go:25", after := #[{ on := 2, ground := Go.Ground.data }], guard := none }) (v := ?va3_4) rfl (by kernel_rfl) (by kernel_rfl) (by kernel_rfl) (fun _ _ _ h => h) (Or.inl ⟨by rfl, ?ha3_4⟩) hHeld ?ra3_4
              case ha3_4 =>
                intro wS hSw
                have y0 := ((unhide HX).later hSw).c0
                clear hSw
                (try dsimp only at hSw)
                go_simp
                try with_reducible rfl
              case ra3_4 =>
              simp only [Act.put, List.setIfInBounds_toArray, List.set_cons_zero, List.set_cons_succ]
              refine wpAnyH_take (i := 4) (oi := { dst := some 39, op := Go.Op.move (Go.Operand.tmp 4), type := 50, pos := "l07_ivf.go:25", after := #[], guard := none }) (v := ?va4_5) rfl (by kernel_rfl) (by kernel_rfl) (by kernel_rfl) (fun _ _ _ h => h) (Or.inl ⟨by rfl, ?ha4_5⟩) hHeld ?ra4_5
              case ha4_5 =>
                intro wS hSw
                (try dsimp only at hSw)
                go_simp
                try with_reducible rfl
              case ra4_5 =>
              simp only [Act.put, List.setIfInBounds_toArray, List.set_cons_zero, List.set_cons_succ]
              refine wpAnyH_take (i := 5) (oi := { dst := some 40, op := Go.Op.move (Go.Operand.tmp 6), type := 3, pos := "l07_ivf.go:25", after := #[], guard := none }) (v := ?va5_6) rfl (by kernel_rfl) (by kernel_rfl) (by kernel_rfl) (fun _ _ _ h => h) (Or.inl ⟨by rfl, ?ha5_6⟩) hHeld ?ra5_6
              case ha5_6 =>
                intro wS hSw
                (try dsimp only at hSw)
                go_simp
                try with_reducible rfl
              case ra5_6 =>
              simp only [Act.put, List.setIfInBounds_toArray, List.set_cons_zero, List.set_cons_succ]
              refine wpAnyH_take (i := 6) (oi := { dst := some 41, op := Go.Op.indexAddr 50 (Go.Operand.tmp 39) (Go.Operand.tmp 40), type := 0, pos := "l07_ivf.go:25", after := #[{ on := 4, ground := Go.Ground.data }, { on := 5, ground := Go.Ground.data }], guard := none }) (v := ?va6_7) rfl (by kernel_rfl) (by kernel_rfl) (by kernel_rfl) (fun _ _ _ h => h) (Or.inl ⟨by rfl, ?ha6_7⟩) hHeld ?ra6_7
              case ha6_7 =>
                intro wS hSw
                (try dsimp only at hSw)
                go_simp
                try with_reducible rfl
              case ra6_7 =>
              simp only [Act.put, List.setIfInBounds_toArray, List.set_cons_zero, List.set_cons_succ]
              refine wpAnyH_take (i := 7) (oi := { dst := some 42, op := Go.Op.fieldAddr 127 (Go.Operand.tmp 41) 1, type := 0, pos := "l07_ivf.go:25", after := #[{ on := 6, ground := Go.Ground.data }], guard := none }) (v := ?va7_8) rfl (by kernel_rfl) (by kernel_rfl) (by kernel_rfl) (fun _ _ _ h => h) (Or.inl ⟨by rfl, ?ha7_8⟩) hHeld ?ra7_8
              case ha7_8 =>
                intro wS hSw
                (try dsimp only at hSw)
                go_simp
                try with_reducible rfl
              case ra7_8 =>
              simp only [Act.put, List.setIfInBounds_toArray, List.set_cons_zero, List.set_cons_succ]
              refine wpAnyH_take (i := 8) (oi := { dst := some 43, op := Go.Op.load 28 (Go.Operand.tmp 42), type := 28, pos := "l07_ivf.go:25", after := #[{ on := 7, ground := Go.Ground.data }], guard := none }) (v := ?va8_9) rfl (by kernel_rfl) (by kernel_rfl) (by kernel_rfl) (fun _ _ _ h => h) (Or.inl ⟨by rfl, ?ha8_9⟩) hHeld ?ra8_9
              case ha8_9 =>
                intro wS hSw
                have y1 := (hSw.cell (p := ⟨b6, o6 + j * 2 + 1, none⟩) hb6).trans c4
                clear hSw
                (try dsimp only at hSw)
                go_simp
                try with_reducible rfl
              case ra8_9 =>
              simp only [Act.put, List.setIfInBounds_toArray, List.set_cons_zero, List.set_cons_succ]
              refine wpAnyH_take (i := 10) (oi := { dst := some 45, op := Go.Op.move (Go.Operand.tmp 3), type := 3, pos := "l07_ivf.go:25", after := #[], guard := none }) (v := ?va10_10) rfl (by kernel_rfl) (by kernel_rfl) (by kernel_rfl) (fun _ _ _ h => h) (Or.inl ⟨by rfl, ?ha10_10⟩) hHeld ?ra10_10
              case ha10_10 =>
                intro wS hSw
                (try dsimp only at hSw)
                go_simp
                try with_reducible rfl
              case ra10_10 =>
              simp only [Act.put, List.setIfInBounds_toArray, List.set_cons_zero, List.set_cons_succ]
              refine wpAnyH_ready (rs := [9]) (by kernel_rfl) (by simp) ?_
              refine AllReadyH.cons (o := { dst := some 44, op := Go.Op.call { callee := Go.Callee.value (Go.Operand.func 127), args := #[Go.Operand.tmp 38, Go.Operand.tmp 43], argTypes := #[24, 28] }, type := 2, pos := "l07_ivf.go:25", after := #[{ on := 3, ground := Go.Ground.data }, { on := 8, ground := Go.Ground.data }], guard := none }) rfl (fun K hK => ?_) AllReadyH.nil
              go_simp
              go_at_call 127
              refine (unhide LN _ hHeld).mono ?_
              rintro e w3 ⟨rfl, hbw⟩
              try go_wp2_with fail
              refine hK.out _ _ (hHeld.trans (hbw.mono hHeld.size)) (fun hHeld => ?_)
              clear hK K
              try simp only [Act.put, List.setIfInBounds_toArray, List.set_cons_zero, List.set_cons_succ]
              refine wpAnyH_take (i := 11) (oi := { dst := some 46, op := Go.Op.binOp Go.BinOp.neq 2 (Go.Operand.tmp 44) (Go.Operand.tmp 45) 2, type := 4, pos := "l07_ivf.go:25", after := #[{ on := 9, ground := Go.Ground.data }, { on := 10, ground := Go.Ground.data }], guard := none }) (v := ?va11_11) rfl (by kernel_rfl) (by kernel_rfl) (by kernel_rfl) (fun _ _ _ h => h) (Or.inl ⟨by rfl, ?ha11_11⟩) hHeld ?ra11_11
              case ha11_11 =>
                intro wS hSw
                (try dsimp only at hSw)
                go_simp
                try with_reducible rfl
              case ra11_11 =>
              simp only [Act.put, List.setIfInBounds_toArray, List.set_cons_zero, List.set_cons_succ]
              refine wpAnyH_done (by kernel_rfl) ?_ _
              refine NoPanic.normal ?_
              have HB9 := hide hHeld
              clear hHeld
              go_wp2_with fail
              go_roundw
              case rel => exact ⟨j + 1, by omega, by go_num, unhide HAT2, unhide HB9⟩
              case measure => simp [intOf]; omega
            · have hd : (((nr : Nat) : Int) != ((k : Nat) : Int)) = true := by rw [bne_iff_ne]; omega
              have HF1 : Hid (1 = F0) := by
                have := unhide HF
                rw [show listFault x.centers k l.items = 1 by rw [listFault, if_pos (unhide HFT), unhide HBAD (by simpa using he), if_neg (by simp)], if_neg (by decide)] at this
                exact this
              clear HATS HBAD he
              go_wp2_with fail
              refine wp_region_noPanic ?_
              refine wp_region_held_drew (S := fun w' => Below w.heap.size w w') (by kernel_rfl) (unhide HBr).drew (fun hHeld => ?_)
              generalize wr.drew = wD at hHeld ⊢
              refine wpAnyH_take (i := 0) (oi := { dst := some 35, op := Go.Op.move (Go.Operand.tmp 0), type := 100, pos := "l07_ivf.go:25", after := #[], guard := none }) (v := ?vb0_1) rfl (by kernel_rfl) (by kernel_rfl) (by kernel_rfl) (fun _ _ _ h => h) (Or.inl ⟨by rfl, ?hb0_1⟩) hHeld ?rb0_1
              case hb0_1 =>
                intro wS hSw
                (try dsimp only at hSw)
                go_simp
                try with_reducible rfl
              case rb0_1 =>
              simp only [Act.put, List.setIfInBounds_toArray, List.set_cons_zero, List.set_cons_succ]
              refine wpAnyH_take (i := 1) (oi := { dst := some 36, op := Go.Op.nilCheck (Go.Operand.tmp 35), type := 0, pos := "l07_ivf.go:25", after := #[{ on := 0, ground := Go.Ground.data }], guard := none }) (v := ?vb1_2) rfl (by kernel_rfl) (by kernel_rfl) (by kernel_rfl) (fun _ _ _ h => h) (Or.inl ⟨by rfl, ?hb1_2⟩) hHeld ?rb1_2
              case hb1_2 =>
                intro wS hSw
                (try dsimp only at hSw)
                go_simp
                try with_reducible rfl
              case rb1_2 =>
              simp only [Act.put, List.setIfInBounds_toArray, List.set_cons_zero, List.set_cons_succ]
              refine wpAnyH_take (i := 2) (oi := { dst := some 37, op := Go.Op.fieldAddr 27 (Go.Operand.tmp 36) 0, type := 0, pos := "l07_ivf.go:25", after := #[{ on := 1, ground := Go.Ground.data }], guard := none }) (v := ?vb2_3) rfl (by kernel_rfl) (by kernel_rfl) (by kernel_rfl) (fun _ _ _ h => h) (Or.inl ⟨by rfl, ?hb2_3⟩) hHeld ?rb2_3
              case hb2_3 =>
                intro wS hSw
                (try dsimp only at hSw)
                go_simp
                try with_reducible rfl
              case rb2_3 =>
              simp only [Act.put, List.setIfInBounds_toArray, List.set_cons_zero, List.set_cons_succ]
              refine wpAnyH_take (i := 3) (oi := { dst := some 38, op := Go.Op.load 24 (Go.Operand.tmp 37), type := 24, pos := "l07_ivf.go:25", after := #[{ on := 2, ground := Go.Ground.data }], guard := none }) (v := ?vb3_4) rfl (by kernel_rfl) (by kernel_rfl) (by kernel_rfl) (fun _ _ _ h => h) (Or.inl ⟨by rfl, ?hb3_4⟩) hHeld ?rb3_4
              case hb3_4 =>
                intro wS hSw
                have y0 := ((unhide HX).later hSw).c0
                clear hSw
                (try dsimp only at hSw)
                go_simp
                try with_reducible rfl
              case rb3_4 =>
              simp only [Act.put, List.setIfInBounds_toArray, List.set_cons_zero, List.set_cons_succ]
              refine wpAnyH_take (i := 4) (oi := { dst := some 39, op := Go.Op.move (Go.Operand.tmp 4), type := 50, pos := "l07_ivf.go:25", after := #[], guard := none }) (v := ?vb4_5) rfl (by kernel_rfl) (by kernel_rfl) (by kernel_rfl) (fun _ _ _ h => h) (Or.inl ⟨by rfl, ?hb4_5⟩) hHeld ?rb4_5
              case hb4_5 =>
                intro wS hSw
                (try dsimp only at hSw)
                go_simp
                try with_reducible rfl
              case rb4_5 =>
              simp only [Act.put, List.setIfInBounds_toArray, List.set_cons_zero, List.set_cons_succ]
              refine wpAnyH_take (i := 5) (oi := { dst := some 40, op := Go.Op.move (Go.Operand.tmp 6), type := 3, pos := "l07_ivf.go:25", after := #[], guard := none }) (v := ?vb5_6) rfl (by kernel_rfl) (by kernel_rfl) (by kernel_rfl) (fun _ _ _ h => h) (Or.inl ⟨by rfl, ?hb5_6⟩) hHeld ?rb5_6
              case hb5_6 =>
                intro wS hSw
                (try dsimp only at hSw)
                go_simp
                try with_reducible rfl
              case rb5_6 =>
              simp only [Act.put, List.setIfInBounds_toArray, List.set_cons_zero, List.set_cons_succ]
              refine wpAnyH_take (i := 6) (oi := { dst := some 41, op := Go.Op.indexAddr 50 (Go.Operand.tmp 39) (Go.Operand.tmp 40), type := 0, pos := "l07_ivf.go:25", after := #[{ on := 4, ground := Go.Ground.data }, { on := 5, ground := Go.Ground.data }], guard := none }) (v := ?vb6_7) rfl (by kernel_rfl) (by kernel_rfl) (by kernel_rfl) (fun _ _ _ h => h) (Or.inl ⟨by rfl, ?hb6_7⟩) hHeld ?rb6_7
              case hb6_7 =>
                intro wS hSw
                (try dsimp only at hSw)
                go_simp
                try with_reducible rfl
              case rb6_7 =>
              simp only [Act.put, List.setIfInBounds_toArray, List.set_cons_zero, List.set_cons_succ]
              refine wpAnyH_take (i := 7) (oi := { dst := some 42, op := Go.Op.fieldAddr 127 (Go.Operand.tmp 41) 1, type := 0, pos := "l07_ivf.go:25", after := #[{ on := 6, ground := Go.Ground.data }], guard := none }) (v := ?vb7_8) rfl (by kernel_rfl) (by kernel_rfl) (by kernel_rfl) (fun _ _ _ h => h) (Or.inl ⟨by rfl, ?hb7_8⟩) hHeld ?rb7_8
              case hb7_8 =>
                intro wS hSw
                (try dsimp only at hSw)
                go_simp
                try with_reducible rfl
              case rb7_8 =>
              simp only [Act.put, List.setIfInBounds_toArray, List.set_cons_zero, List.set_cons_succ]
              refine wpAnyH_take (i := 8) (oi := { dst := some 43, op := Go.Op.load 28 (Go.Operand.tmp 42), type := 28, pos := "l07_ivf.go:25", after := #[{ on := 7, ground := Go.Ground.data }], guard := none }) (v := ?vb8_9) rfl (by kernel_rfl) (by kernel_rfl) (by kernel_rfl) (fun _ _ _ h => h) (Or.inl ⟨by rfl, ?hb8_9⟩) hHeld ?rb8_9
              case hb8_9 =>
                intro wS hSw
                have y1 := (hSw.cell (p := ⟨b6, o6 + j * 2 + 1, none⟩) hb6).trans c4
                clear hSw
                (try dsimp only at hSw)
                go_simp
                try with_reducible rfl
              case rb8_9 =>
              simp only [Act.put, List.setIfInBounds_toArray, List.set_cons_zero, List.set_cons_succ]
              refine wpAnyH_take (i := 10) (oi := { dst := some 45, op := Go.Op.move (Go.Operand.tmp 3), type := 3, pos := "l07_ivf.go:25", after := #[], guard := none }) (v := ?vb10_10) rfl (by kernel_rfl) (by kernel_rfl) (by kernel_rfl) (fun _ _ _ h => h) (Or.inl ⟨by rfl, ?hb10_10⟩) hHeld ?rb10_10
              case hb10_10 =>
                intro wS hSw
                (try dsimp only at hSw)
                go_simp
                try with_reducible rfl
              case rb10_10 =>
              simp only [Act.put, List.setIfInBounds_toArray, List.set_cons_zero, List.set_cons_succ]
              refine wpAnyH_ready (rs := [9]) (by kernel_rfl) (by simp) ?_
              refine AllReadyH.cons (o := { dst := some 44, op := Go.Op.call { callee := Go.Callee.value (Go.Operand.func 127), args := #[Go.Operand.tmp 38, Go.Operand.tmp 43], argTypes := #[24, 28] }, type := 2, pos := "l07_ivf.go:25", after := #[{ on := 3, ground := Go.Ground.data }, { on := 8, ground := Go.Ground.data }], guard := none }) rfl (fun K hK => ?_) AllReadyH.nil
              go_simp
              go_at_call 127
              refine (unhide LN _ hHeld).mono ?_
              rintro e w3 ⟨rfl, hbw⟩
              try go_wp2_with fail
              refine hK.out _ _ (hHeld.trans (hbw.mono hHeld.size)) (fun hHeld => ?_)
              clear hK K
              try simp only [Act.put, List.setIfInBounds_toArray, List.set_cons_zero, List.set_cons_succ]
              refine wpAnyH_take (i := 11) (oi := { dst := some 46, op := Go.Op.binOp Go.BinOp.neq 2 (Go.Operand.tmp 44) (Go.Operand.tmp 45) 2, type := 4, pos := "l07_ivf.go:25", after := #[{ on := 9, ground := Go.Ground.data }, { on := 10, ground := Go.Ground.data }], guard := none }) (v := ?vb11_11) rfl (by kernel_rfl) (by kernel_rfl) (by kernel_rfl) (fun _ _ _ h => h) (Or.inl ⟨by rfl, ?hb11_11⟩) hHeld ?rb11_11
              case hb11_11 =>
                intro wS hSw
                (try dsimp only at hSw)
                go_simp
                try with_reducible rfl
              case rb11_11 =>
              simp only [Act.put, List.setIfInBounds_toArray, List.set_cons_zero, List.set_cons_succ]
              refine wpAnyH_done (by kernel_rfl) ?_ _
              refine NoPanic.normal ?_
              have HB9 := hide hHeld
              clear hHeld
              go_wp2_with fail
              go_ret
              exact ⟨by rw [← unhide HF1]; rfl, unhide HB9⟩
          · obtain rfl : j = l.items.length := by omega
            rw [List.take_length] at hat
            have HF2 : Hid (listsFrom x.centers (k + 1) (x.lists.drop (k + 1)) = F0) := by
              have := unhide HF
              rw [if_pos (show listFault x.centers k l.items = 0 by rw [listFault, if_pos (unhide HFT), if_pos hat])] at this
              exact this
            have HB9 := hide hBr
            clear hBr hat
            go_wp2_with fail
            go_roundw
            case rel => exact ⟨k + 1, by omega, by go_num, unhide HF2, unhide HB9⟩
            case measure => simp [intOf]; omega
      · have hd : (tableFault l.items != 0) = true := by simpa using hft
        have HF2 : Hid (tableFault l.items = F0) := by
          have := unhide HF
          rw [show listFault x.centers k l.items = tableFault l.items from if_neg hft, if_neg hft] at this
          exact this
        clear hft
        go_wp2_with fail
        go_ret
        exact ⟨by rw [← unhide HF2]; rfl, unhide HB⟩
    · obtain rfl : k = x.lists.length := by omega
      rw [List.drop_length] at hF
      have HF := hide hF
      have HB := hide hB
      clear hF hB
      go_wp2_with fail
      go_ret
      exact ⟨by rw [← unhide HF]; rfl, unhide HB⟩

end Go.Proofs.Ytggnnbdjihihiaa

namespace Go.Proofs.Ytggnnbdjihihiaa
open Go.RowKit

set_option maxRecDepth 100000 in
set_option maxHeartbeats 4000000 in
theorem specItems7 (b : Nat) (x : DIvf) (ac : Option Addr) (dc : Nat) (al : Option Addr) (dl : Nat) (w : World) (h : IvfAt w b x ac dc al dl) (hl : ∀ l ∈ x.lists, tableFault l.items = 0) (hn : x.lists.length ≤ 6) :
    Calls Try.prog 79 #[.pointer (some ⟨b, 0, none⟩)] w fun e w' => ∃ v', e = .returned v' ∧ (Lay.sl Lay.tItem).LiesIn w' [v'] (allIs x.lists) w.heap.size w'.heap.size ∧ Below w.heap.size w w' := by
  have HX := hide h
  have HL := hide hl
  have HB0 : Hid (Below w.heap.size w (w.alloc (.cells #[] 127))) := (Below.refl _ _).alloc (Nat.le_refl _) _
  have HCN : Hid (∀ k, k ≤ x.lists.length → (allIs (x.lists.take k)).length ≤ 180) := fun k hk => by
    have h1 := allIs_len (x.lists.take k)
    have h2 := countIs_le (ls := x.lists.take k) (fun l hm => (tableFault_zero (hl l (List.mem_of_mem_take hm))).1)
    have h3 : (x.lists.take k).length ≤ 6 := by simp; omega
    omega
  have HVL : Hid (∀ k y, y ∈ allIs (x.lists.take k) → y.vec.length ≤ 100000000) := fun k y hy => by
    obtain ⟨l, hm, hy⟩ := allIs_mem hy
    have := ((tableFault_zero (hl l (List.mem_of_mem_take hm))).2.1 y hy).2
    have := (vecFault_zero this).1
    omega
  clear h hl
  go_enter Try.func79, Try.ntmps79
  go_wp2_with fail
  go_loopw [3, 4] (fun u i wr => ∃ k : Nat, k ≤ x.lists.length ∧ i = .int .i64 k ∧ (Lay.sl Lay.tItem).LiesIn wr [u] (allIs (x.lists.take k)) w.heap.size wr.heap.size ∧ Below w.heap.size w wr) (fun _ i _ => x.lists.length - (intOf i).toNat)
  case atStart => exact ⟨0, Nat.zero_le _, rfl, ⟨[], ⟨some ⟨w.heap.size, 0, none⟩, 0, rfl, by simp [allIs], Or.inl ⟨rfl, rfl⟩⟩, by simp⟩, unhide HB0⟩
  case round =>
    obtain ⟨k, hk, rfl, hO, hB⟩ := hrel
    clear HB0
    have c1 := ((unhide HX).later hB).c1
    by_cases hlt : k < x.lists.length
    · have HLz := hide ((unhide HX).later hB).lists
      obtain ⟨bl, ol, rfl, hbl⟩ := Lay.sl_addr (unhide HLz) (by omega)
      obtain ⟨row, hc, hr⟩ := Lay.row_at (unhide HLz) hlt
      obtain ⟨a5, d5, rfl, R5⟩ := open_IvfList hr
      have c2 : wr.cell? ⟨bl, ol + k, none⟩ = some (.slice a5 (x.lists[k]).items.length d5) := one_cell (hc 0 (by decide))
      have hft := unhide HL x.lists[k] (List.getElem_mem hlt)
      have HSTEP := hide (allIs_step x.lists k hlt)
      have hcn := unhide HCN k hk
      have hvl := unhide HVL k
      have hris := allIs_rising (x.lists.take k)
      have HBL := hide c1
      clear hc hr
      generalize hls : x.lists[k] = l at *
      clear hls
      generalize allIs (x.lists.take k) = out at *
      obtain ⟨hl30, hla, -⟩ := tableFault_zero hft
      have HLA := hide hla
      have HRIS := hide hris
      have HVO := hide hvl
      have HR5 := hide R5
      have HO := hide hO
      have HB := hide hB
      have HC2 := hide c2
      clear hO hB hla hris hvl R5 hft HLz
      rename World => wo
      go_wp2_with fail
      clear c1 c2
      go_loopw [3, 5] (fun u i wr => ∃ j : Nat, j ≤ l.items.length ∧ i = .int .i64 j ∧ (Lay.sl Lay.tItem).LiesIn wr [u] (gatherI out (l.items.take j)) w.heap.size wr.heap.size ∧ Below wo.heap.size wo wr) (fun _ i _ => l.items.length - (intOf i).toNat)
      case atStart => exact ⟨0, Nat.zero_le _, rfl, unhide HO, Below.refl _ _⟩
      case round =>
        obtain ⟨j, hj, rfl, hO, hB⟩ := hrel
        clear HO
        have c1 : wr.cell? ⟨b, 1, none⟩ = some (.slice (some ⟨bl, ol, none⟩) x.lists.length dl) := cell_keep hB (unhide HBL)
        have c2 : wr.cell? ⟨bl, ol + k, none⟩ = some (.slice a5 l.items.length d5) := cell_keep hB (unhide HC2)
        by_cases hlj : j < l.items.length
        · have R5 := (unhide HR5).later hB
          obtain ⟨b6, o6, rfl, hb6⟩ := Lay.sl_addr R5 (by omega)
          obtain ⟨row, hc, hr⟩ := Lay.row_at R5 hlj
          obtain ⟨a7, d7, rfl, R7⟩ := open_Item hr
          have c3 : wr.cell? ⟨b6, o6 + j * 2, none⟩ = some (.int .i64 (l.items[j]).id) := hc 0 (by decide)
          have c4 : wr.cell? ⟨b6, o6 + j * 2 + 1, none⟩ = some (.slice a7 (l.items[j]).vec.length d7) := hc 1 (by decide)
          obtain ⟨hid, hvx⟩ := unhide HLA l.items[j] (List.getElem_mem hlj)
          have HGS := hide (gatherI_step out l.items j hlj)
          have hgl := gatherI_len (unhide HRIS) (l.items.take j)
          have hgr := gatherI_rising (unhide HRIS) (l.items.take j)
          have hgv : ∀ y ∈ gatherI out (l.items.take j), y.vec.length ≤ 100000000 := fun y hy => by
            rcases gatherI_mem hy with h1 | h1
            · exact unhide HVO y h1
            · have := (vecFault_zero (unhide HLA y (List.mem_of_mem_take h1)).2).1
              omega
          have hgl2 : (gatherI out (l.items.take j)).length ≤ 1000000 := by
            have : (l.items.take j).length ≤ 30 := by simp; omega
            omega
          have hv3 := (vecFault_zero hvx).1
          have hw : (Lit.int .i64 (l.items[j]).id).wf = true := by
            simp only [idB, Bool.and_eq_true, decide_eq_true_eq] at hid
            exact wf_of_bd (by omega)
          clear hc hr hgl
          generalize l.items[j] = y at *
          generalize gatherI out (l.items.take j) = cur at *
          have nb : Below wr.heap.size wr (wr.alloc (.cells #[.int .i64 y.id, .slice a7 y.vec.length d7] 127)) := (Below.refl _ _).alloc (Nat.le_refl _) _
          have LS := hide (specSet _ cur y.id y.vec (.slice a7 y.vec.length d7) true _ (hO.reads.later nb) (R7.later nb) hw hgl2 hgv (by omega))
          rw [setM_put hgr] at LS
          have HBn := hide (hB.trans (nb.mono hB.size))
          have hws : w.heap.size ≤ wr.heap.size := Nat.le_trans (unhide HB).size hB.size
          clear hO hB R5 R7 nb hgr hgv hgl2 hid hvx hv3 hw
          go_wp2_with fail
          refine (unhide LS).mono ?_
          rintro e w9 ⟨v9, rfl, hO9, hb9⟩
          have HO9 := hide (hO9.mono (lo' := w.heap.size) (by simp; omega) (Nat.le_refl _))
          have HB9 := hide ((unhide HBn).trans (hb9.mono (unhide HBn).size))
          clear hO9 hb9 LS HBn c1 c2 c3 c4
          go_wp2_with fail
          go_roundw
          case rel => exact ⟨j + 1, by omega, by go_num, by rw [unhide HGS]; exact unhide HO9, unhide HB9⟩
          case measure => simp [intOf]; omega
        · obtain rfl : j = l.items.length := by omega
          rw [List.take_length] at hO
          have HO9 := hide hO
          have HB9 := hide ((unhide HB).trans (hB.mono (unhide HB).size))
          clear hO hB
          go_wp2_with fail
          go_roundw
          case rel => exact ⟨k + 1, by omega, by go_num, by rw [unhide HSTEP]; exact unhide HO9, unhide HB9⟩
          case measure => simp [intOf]; omega
    · obtain rfl : k = x.lists.length := by omega
      rw [List.take_length] at hO
      have HO := hide hO
      have HB := hide hB
      clear hO hB
      go_wp2_with fail
      go_ret
      exact ⟨_, rfl, unhide HO, unhide HB⟩

end Go.Proofs.Ytggnnbdjihihiaa

namespace Go.Proofs.Ytggnnbdjihihiaa
open Go.RowKit

set_option maxRecDepth 100000 in
set_option maxHeartbeats 4000000 in
theorem specFault7 (b : Nat) (x : DIvf) (ac : Option Addr) (dc : Nat) (al : Option Addr) (dl : Nat) (w : World) (h : IvfAt w b x ac dc al dl) :
    Calls Try.prog 62 #[.pointer (some ⟨b, 0, none⟩)] w fun e w' => e = .returned (.int .i64 (ivfFault x)) ∧ Below w.heap.size w w' := by
  generalize hF0 : ivfFault x = F0
  have HF0 := hide hF0
  have HX := hide h
  have c0 := h.c0
  have c1 := h.c1
  have L1 := hide (specCen _ x.centers w h.cens)
  clear h hF0
  go_enter Try.func62, Try.ntmps62
  go_wp2_with fail
  refine (unhide L1).mono ?_
  rintro e w1 ⟨rfl, hb1⟩
  have HX1 := hide ((unhide HX).later hb1)
  have HB := hide hb1
  clear c0 c1 L1 hb1
  by_cases hcf : centersFault x.centers = 0
  · rw [hcf]
    have c0 := (unhide HX1).c0
    have c1 := (unhide HX1).c1
    have HCF := hide hcf
    by_cases hne : x.lists.length = x.centers.length
    · have hd : ((x.lists.length : Int) != (x.centers.length : Int)) = false := by rw [hne]; simp
      have hn6 : x.lists.length ≤ 6 := by rw [hne]; exact (centersFault_zero hcf).1.2
      have HNE : Hid (x.lists.length = x.centers.length) := hne
      clear hcf hne
      go_wp2_with fail
      go_quiet (fail)
      clear c0 c1 hd
      go_wp2_with fail
      refine (specLists7 b x ac dc al dl _ ((unhide HX1).later (below_drawn (Below.refl _ _) _)) (unhide HCF) (by omega)).mono ?_
      rintro e w3 ⟨rfl, hb3⟩
      have HX3 := hide (((unhide HX1).later (below_drawn (Below.refl _ _) _)).later hb3)
      replace HB := hide ((below_drawn (unhide HB) _).trans (hb3.mono (unhide HB).size))
      clear hb3 HX1
      by_cases hlf : listsFrom x.centers 0 x.lists = 0
      · rw [hlf]
        have HLF := hide hlf
        have HTF := hide (list_facts (x := x) hlf)
        clear hlf
        have HCB : Hid (∀ k, countIs (x.lists.take k) ≤ 180) := fun k => by
          have h1 := countIs_le (ls := x.lists.take k) (fun l hm => (tableFault_zero (unhide HTF l (List.mem_of_mem_take hm))).1)
          have h2 : (x.lists.take k).length ≤ 6 := by simp; omega
          omega
        go_wp2_with fail
        go_loopw [5, 6] (fun n i wr => ∃ k : Nat, k ≤ x.lists.length ∧ i = .int .i64 k ∧ n = .int .i64 (countIs (x.lists.take k) : Nat) ∧ wr = w3) (fun _ i _ => x.lists.length - (intOf i).toNat)
        case atStart => exact ⟨0, Nat.zero_le _, rfl, rfl, rfl⟩
        case round =>
          obtain ⟨k, hk, rfl, rfl, rfl⟩ := hrel
          have c1 := (unhide HX3).c1
          by_cases hlt : k < x.lists.length
          · obtain ⟨bl, ol, rfl, hbl⟩ := Lay.sl_addr (unhide HX3).lists (by omega)
            obtain ⟨row, hc, hr⟩ := Lay.row_at (unhide HX3).lists hlt
            obtain ⟨a5, d5, rfl, -⟩ := open_IvfList hr
            have c2 : wr.cell? ⟨bl, ol + k, none⟩ = some (.slice a5 (x.lists[k]).items.length d5) := one_cell (hc 0 (by decide))
            have hstep := countIs_take x.lists k hlt
            have hcb := unhide HCB (k + 1)
            rw [hstep] at hcb
            have HST := hide hstep
            clear hc hr hstep
            generalize (x.lists[k]).items.length = m at *
            generalize countIs (x.lists.take k) = n at *
            go_wp2_with fail
            go_roundw
            case rel => exact ⟨k + 1, by omega, by go_num, by rw [unhide HST]; go_num, by simp⟩
            case measure => simp [intOf]; omega
          · obtain rfl : k = x.lists.length := by omega
            rw [List.take_length]
            have LI := hide (specItems7 b x ac dc al dl wr (unhide HX3) (unhide HTF) hn6)
            have hc180 := unhide HCB x.lists.length
            rw [List.take_length] at hc180
            go_wp2_with fail
            clear c1
            refine (unhide LI).mono ?_
            rintro e w5 ⟨v5, rfl, hO5, hb5⟩
            obtain ⟨a5, d5, rfl⟩ := open_sl hO5.reads
            replace HB := hide ((unhide HB).trans (hb5.mono (unhide HB).size))
            clear hO5 hb5 LI
            by_cases hal : (allIs x.lists).length = countIs x.lists
            · have hd2 : (((allIs x.lists).length : Int) != ((countIs x.lists : Nat) : Int)) = false := by rw [hal]; simp
              by_cases h30 : countIs x.lists ≤ 30
              · have hd3 : decide ((30 : Int) < ((countIs x.lists : Nat) : Int)) = false := by simp; omega
                have HF1 : Hid (0 = F0) := by
                  have := unhide HF0
                  rw [ivfFault, if_pos (unhide HCF), if_pos (unhide HNE), if_pos (unhide HLF), if_pos hal, if_pos h30] at this
                  exact this
                clear hal h30
                go_wp2_with fail
                go_ret
                exact ⟨by rw [← unhide HF1]; rfl, unhide HB⟩
              · have hd3 : decide ((30 : Int) < ((countIs x.lists : Nat) : Int)) = true := by simp; omega
                have HF1 : Hid (2 = F0) := by
                  have := unhide HF0
                  rw [ivfFault, if_pos (unhide HCF), if_pos (unhide HNE), if_pos (unhide HLF), if_pos hal, if_neg h30] at this
                  exact this
                clear hal h30
                go_wp2_with fail
                go_ret
                exact ⟨by rw [← unhide HF1]; rfl, unhide HB⟩
            · have hd2 : (((allIs x.lists).length : Int) != ((countIs x.lists : Nat) : Int)) = true := by rw [bne_iff_ne]; omega
              have HF1 : Hid (6 = F0) := by
                have := unhide HF0
                rw [ivfFault, if_pos (unhide HCF), if_pos (unhide HNE), if_pos (unhide HLF), if_neg hal] at this
                exact this
              clear hal
              go_wp2_with fail
              go_ret
              exact ⟨by rw [← unhide HF1]; rfl, unhide HB⟩
      · have hd2 : (listsFrom x.centers 0 x.lists != 0) = true := by simpa using hlf
        have HF1 : Hid (listsFrom x.centers 0 x.lists = F0) := by
          have := unhide HF0
          rw [ivfFault, if_pos (unhide HCF), if_pos (unhide HNE), if_neg hlf] at this
          exact this
        clear hlf
        go_wp2_with fail
        go_ret
        exact ⟨by rw [← unhide HF1]; rfl, unhide HB⟩
    · have hd : ((x.lists.length : Int) != (x.centers.length : Int)) = true := by rw [bne_iff_ne]; omega
      have HF1 : Hid (1 = F0) := by
        have := unhide HF0
        rw [ivfFault, if_pos hcf, if_neg hne] at this
        exact this
      clear hcf hne HCF
      go_wp2_with fail
      go_quiet (fail)
      go_wp2_with fail
      go_ret
      exact ⟨by rw [← unhide HF1]; rfl, below_drewN (unhide HB) _⟩
  · have hd : (centersFault x.centers != 0) = true := by simpa using hcf
    have HF1 : Hid (centersFault x.centers = F0) := by
      have := unhide HF0
      rw [ivfFault, if_neg hcf] at this
      exact this
    clear hcf
    go_wp2_with fail
    go_ret
    exact ⟨by rw [← unhide HF1]; rfl, unhide HB⟩

end Go.Proofs.Ytggnnbdjihihiaa
