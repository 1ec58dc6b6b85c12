/-
  Texts of this proof in one: ImplForm, TakenPlain, HeldPlain, ImplTLists, ImplTIvf, ProbeKit, AppHit, ImplHitsOf, HitCopy.
  Their conditions stand in their theorems.
-/
import Derived.Test.YtggnnbdjihihiaaGreatVq08
import Derived.Test.YtggnnbdjihihiaaGreatVq09
import Derived.Test.YtggnnbdjihihiaaGreatVq03
import Derived.Test.YtggnnbdjihihiaaGreatVq02
import Derived.Test.YtggnnbdjihihiaaGreatChecked
import Derived.Test.YtggnnbdjihihiaaGreatVq01
import Derived.Test.YtggnnbdjihihiaaGreatVq07
import Derived.Deep.RegionHeld3
import Derived.Laws.CopyRow
import Derived.Deep.RegionLaw

namespace Go.Proofs.YtggnnbdjihihiaaGreat
open Go.RowKit Go.Shelf
attribute [local go_sem] Oper.semAt_some

set_option maxRecDepth 100000 in
set_option maxHeartbeats 4000000 in
theorem implForm_cen (x : DIvf) (ac : Option Addr) (dc : Nat) (al : Option Addr) (dl : Nat) (w : World) (h1 : (Lay.sl Lay.tCenter).Reads w [.slice ac x.centers.length dc] x.centers) (h2 : (Lay.sl Lay.tIvfList).Reads w [.slice al x.lists.length dl] x.lists) (hf : centersFault x.centers ≠ 0) :
    Calls Tryz.prog 98 #[.agg #[.slice ac x.centers.length dc, .slice al x.lists.length dl]] w fun e w' => e = .returned (.int .i64 (formF x)) ∧ Below w.heap.size w w' := by
  have nb1 : Below w.heap.size w (w.alloc (.cells #[.slice ac x.centers.length dc, .slice al x.lists.length dl] 27)) := (Below.refl _ _).alloc (Nat.le_refl _) _
  have nb2 : Below w.heap.size w ((w.alloc (.cells #[.slice ac x.centers.length dc, .slice al x.lists.length dl] 27)).alloc (.cells #[.int .i64 0] 2)) := nb1.alloc (by simp) _
  have bX : Box w.heap.size #[.slice ac x.centers.length dc, .slice al x.lists.length dl] 27 ((w.alloc (.cells #[.slice ac x.centers.length dc, .slice al x.lists.length dl] 27)).alloc (.cells #[.int .i64 0] 2)) w.heap.size := (newBox (Nat.le_refl _)).grow _
  have bR : Box w.heap.size #[.int .i64 0] 2 ((w.alloc (.cells #[.slice ac x.centers.length dc, .slice al x.lists.length dl] 27)).alloc (.cells #[.int .i64 0] 2)) (w.heap.size + 1) := newBoxAt (by omega) (by simp)
  have R1 := h1.later nb2
  have R2 := h2.later nb2
  have c0 := bX.at 0 _ rfl
  have c1 := bX.at 1 _ rfl
  have L := implCen _ x.centers _ R1
  generalize hF0 : formF x = F0
  have HF0 := hide hF0
  clear hF0 nb1 h1 h2
  refine (callsIn_wide (n := 9)).1 ?_
  refine callsIn_of_wp_marks Tryz.func98 rfl trivial ?_ rfl
  refine wpIn_wide.2 ?_
  simp only [Tryz.ntmps98, List.size_toArray, List.length_cons, List.length_nil, Nat.reduceAdd, Nat.reduceSub, Array.replicate_succ, Array.replicate_zero, List.push_toArray, List.append_toArray, List.nil_append, List.cons_append]
  go_wp2_with fail
  refine L.mono ?_
  generalize (w.alloc (.cells #[.slice ac x.centers.length dc, .slice al x.lists.length dl] 27)).alloc (.cells #[.int .i64 0] 2) = W0 at *
  rintro e w1 ⟨rfl, hb⟩
  replace R1 := R1.later hb
  replace R2 := R2.later hb
  replace bX := bX.keep hb
  replace bR := bR.keep hb
  replace nb2 := nb2.trans (hb.mono nb2.size)
  clear hb L c0 c1
  have c0 := bX.at 0 _ rfl
  have c1 := bX.at 1 _ rfl
  have r0 := bR.at 0 _ rfl
  have f0 := bR.soft 0
  have lX := bX.lt
  have lR := bR.lt
  have hd : (centersFault x.centers != 0) = true := by simpa using hf
  have hF : Hid (F0 = centersFault x.centers) := by show F0 = _; rw [← unhide HF0]; exact if_neg hf
  have HB := hide nb2
  have HR := hide bR
  clear nb2 R1 R2 hf bX bR
  go_wp2_with fail
  have z5 : (w1.setCell ⟨w.heap.size + 1, 0, none⟩ (.int .i64 (centersFault x.centers))).cell? ⟨w.heap.size + 1, 0, none⟩ = some (.int .i64 (centersFault x.centers)) := ((unhide HR).set 0 _).at 0 _ rfl
  exact ⟨.int .i64 (centersFault x.centers), by simp [results, Tryz.results98, go_sem, z5], by rw [unhide hF], (unhide HB).setCell (by simp) _⟩

set_option maxRecDepth 100000 in
set_option maxHeartbeats 4000000 in
theorem implForm_len (x : DIvf) (ac : Option Addr) (dc : Nat) (al : Option Addr) (dl : Nat) (w : World) (h1 : (Lay.sl Lay.tCenter).Reads w [.slice ac x.centers.length dc] x.centers) (h2 : (Lay.sl Lay.tIvfList).Reads w [.slice al x.lists.length dl] x.lists) (hf : centersFault x.centers = 0) (hl : x.lists.length ≠ x.centers.length) :
    Calls Tryz.prog 98 #[.agg #[.slice ac x.centers.length dc, .slice al x.lists.length dl]] w fun e w' => e = .returned (.int .i64 (formF x)) ∧ Below w.heap.size w w' := by
  have nb1 : Below w.heap.size w (w.alloc (.cells #[.slice ac x.centers.length dc, .slice al x.lists.length dl] 27)) := (Below.refl _ _).alloc (Nat.le_refl _) _
  have nb2 : Below w.heap.size w ((w.alloc (.cells #[.slice ac x.centers.length dc, .slice al x.lists.length dl] 27)).alloc (.cells #[.int .i64 0] 2)) := nb1.alloc (by simp) _
  have bX : Box w.heap.size #[.slice ac x.centers.length dc, .slice al x.lists.length dl] 27 ((w.alloc (.cells #[.slice ac x.centers.length dc, .slice al x.lists.length dl] 27)).alloc (.cells #[.int .i64 0] 2)) w.heap.size := (newBox (Nat.le_refl _)).grow _
  have bR : Box w.heap.size #[.int .i64 0] 2 ((w.alloc (.cells #[.slice ac x.centers.length dc, .slice al x.lists.length dl] 27)).alloc (.cells #[.int .i64 0] 2)) (w.heap.size + 1) := newBoxAt (by omega) (by simp)
  have R1 := h1.later nb2
  have R2 := h2.later nb2
  have c0 := bX.at 0 _ rfl
  have c1 := bX.at 1 _ rfl
  have L := implCen _ x.centers _ R1
  generalize hF0 : formF x = F0
  have HF0 := hide hF0
  clear hF0 nb1 h1 h2
  refine (callsIn_wide (n := 9)).1 ?_
  refine callsIn_of_wp_marks Tryz.func98 rfl trivial ?_ rfl
  refine wpIn_wide.2 ?_
  simp only [Tryz.ntmps98, List.size_toArray, List.length_cons, List.length_nil, Nat.reduceAdd, Nat.reduceSub, Array.replicate_succ, Array.replicate_zero, List.push_toArray, List.append_toArray, List.nil_append, List.cons_append]
  go_wp2_with fail
  refine L.mono ?_
  generalize (w.alloc (.cells #[.slice ac x.centers.length dc, .slice al x.lists.length dl] 27)).alloc (.cells #[.int .i64 0] 2) = W0 at *
  rintro e w1 ⟨rfl, hb⟩
  replace R1 := R1.later hb
  replace R2 := R2.later hb
  replace bX := bX.keep hb
  replace bR := bR.keep hb
  replace nb2 := nb2.trans (hb.mono nb2.size)
  clear hb L c0 c1
  have c0 := bX.at 0 _ rfl
  have c1 := bX.at 1 _ rfl
  have r0 := bR.at 0 _ rfl
  have f0 := bR.soft 0
  have lX := bX.lt
  have lR := bR.lt
  have hd : ((x.lists.length : Int) != (x.centers.length : Int)) = true := by
    have : (x.lists.length : Int) ≠ (x.centers.length : Int) := by omega
    simpa using this
  have hF : Hid (F0 = 1) := by show F0 = _; rw [← unhide HF0, formF, if_pos hf, if_neg hl]
  rw [hf]
  have HB := hide nb2
  have HR := hide bR
  clear nb2 R1 R2 hf bX bR hl
  go_wp2_with fail
  have z5 : (w1.setCell ⟨w.heap.size + 1, 0, none⟩ (.int .i64 1)).cell? ⟨w.heap.size + 1, 0, none⟩ = some (.int .i64 1) := ((unhide HR).set 0 _).at 0 _ rfl
  exact ⟨.int .i64 1, by simp [results, Tryz.results98, go_sem, z5], by rw [unhide hF], (unhide HB).setCell (by simp) _⟩

set_option maxRecDepth 100000 in
set_option maxHeartbeats 4000000 in
theorem implForm_ok (x : DIvf) (ac : Option Addr) (dc : Nat) (al : Option Addr) (dl : Nat) (w : World) (h1 : (Lay.sl Lay.tCenter).Reads w [.slice ac x.centers.length dc] x.centers) (h2 : (Lay.sl Lay.tIvfList).Reads w [.slice al x.lists.length dl] x.lists) (hf : centersFault x.centers = 0) (HL : Hid (x.lists.length = x.centers.length)) :
    Calls Tryz.prog 98 #[.agg #[.slice ac x.centers.length dc, .slice al x.lists.length dl]] w fun e w' => e = .returned (.int .i64 (formF x)) ∧ Below w.heap.size w w' := by
  have nb1 : Below w.heap.size w (w.alloc (.cells #[.slice ac x.centers.length dc, .slice al x.lists.length dl] 27)) := (Below.refl _ _).alloc (Nat.le_refl _) _
  have nb2 : Below w.heap.size w ((w.alloc (.cells #[.slice ac x.centers.length dc, .slice al x.lists.length dl] 27)).alloc (.cells #[.int .i64 0] 2)) := nb1.alloc (by simp) _
  have bX : Box w.heap.size #[.slice ac x.centers.length dc, .slice al x.lists.length dl] 27 ((w.alloc (.cells #[.slice ac x.centers.length dc, .slice al x.lists.length dl] 27)).alloc (.cells #[.int .i64 0] 2)) w.heap.size := (newBox (Nat.le_refl _)).grow _
  have bR : Box w.heap.size #[.int .i64 0] 2 ((w.alloc (.cells #[.slice ac x.centers.length dc, .slice al x.lists.length dl] 27)).alloc (.cells #[.int .i64 0] 2)) (w.heap.size + 1) := newBoxAt (by omega) (by simp)
  have R1 := h1.later nb2
  have R2 := h2.later nb2
  have c0 := bX.at 0 _ rfl
  have c1 := bX.at 1 _ rfl
  have L := implCen _ x.centers _ R1
  generalize hF0 : formF x = F0
  have HF0 := hide hF0
  have H1 := hide h1
  have H2 := hide h2
  clear hF0 nb1 h1 h2
  refine (callsIn_wide (n := 9)).1 ?_
  refine callsIn_of_wp_marks Tryz.func98 rfl trivial ?_ rfl
  refine wpIn_wide.2 ?_
  simp only [Tryz.ntmps98, List.size_toArray, List.length_cons, List.length_nil, Nat.reduceAdd, Nat.reduceSub, Array.replicate_succ, Array.replicate_zero, List.push_toArray, List.append_toArray, List.nil_append, List.cons_append]
  go_wp2_with fail
  refine L.mono ?_
  generalize (w.alloc (.cells #[.slice ac x.centers.length dc, .slice al x.lists.length dl] 27)).alloc (.cells #[.int .i64 0] 2) = W0 at *
  rintro e w1 ⟨rfl, hb⟩
  replace R1 := R1.later hb
  replace R2 := R2.later hb
  replace bX := bX.keep hb
  replace bR := bR.keep hb
  replace nb2 := nb2.trans (hb.mono nb2.size)
  clear hb L c0 c1
  have c0 := bX.at 0 _ rfl
  have c1 := bX.at 1 _ rfl
  have r0 := bR.at 0 _ rfl
  have f0 := bR.soft 0
  have lX := bX.lt
  have lR := bR.lt
  have hd : ((x.lists.length : Int) != (x.centers.length : Int)) = false := by rw [unhide HL]; simp
  have hn6 : x.centers.length ≤ 6 := (centersFault_zero hf).1.2
  have hn1 : 1 ≤ x.centers.length := (centersFault_zero hf).1.1
  rw [hf]
  have HCF := hide hf
  have HB := hide nb2
  have HR := hide bR
  have HBX := hide bX
  have LP : Hid (∀ W : World, _) := fun W : World => implPlaces ac x.centers.length dc W (by omega)
  have LQ : Hid (∀ (a : Option Addr) (n c : Nat) (W : World), _) := fun (a : Option Addr) (n c : Nat) (W : World) => implListsAt (.slice ac x.centers.length dc) (.slice al x.lists.length dl) a n c W ⟨_, _, _, rfl⟩ ⟨_, _, _, rfl⟩
  clear nb2 R1 R2 hf bX bR
  go_wp2_with fail
  clear c0 c1 r0 f0
  refine wp_region_noPanic ?_
  refine wp_region_held_drew (S := fun w' => Below w1.heap.size w1 w') (by kernel_rfl) (Below.refl _ _).drew (fun hHeld => ?_)
  generalize w1.drew = wD at hHeld ⊢
  refine wpAnyH_take (i := 0) (oi := { dst := some 19, op := Go.Op.load 27 (Go.Operand.tmp 1), type := 27, pos := "l07_ivf.go:92", after := #[], guard := none }) (v := ?vf0) rfl (by kernel_rfl) (by kernel_rfl) (by kernel_rfl) (fun _ _ _ h => h) (Or.inl ⟨by rfl, ?hf0⟩) hHeld ?rf0
  case hf0 =>
    intro wS hSw
    have y0 := ((unhide HBX).keep hSw).at 0 _ rfl
    have y1 := ((unhide HBX).keep hSw).at 1 _ rfl
    clear hSw
    (try dsimp only at hSw)
    go_simp
    try with_reducible rfl
  case rf0 =>
  simp only [Act.put, List.setIfInBounds_toArray, List.set_cons_zero, List.set_cons_succ]
  refine wpAnyH_take (i := 1) (oi := { dst := some 20, op := Go.Op.fieldAddr 27 (Go.Operand.tmp 1) 0, type := 0, pos := "l07_ivf.go:92", after := #[], guard := none }) (v := ?vf1) rfl (by kernel_rfl) (by kernel_rfl) (by kernel_rfl) (fun _ _ _ h => h) (Or.inl ⟨by rfl, ?hf1⟩) hHeld ?rf1
  case hf1 =>
    intro wS hSw
    (try dsimp only at hSw)
    go_simp
    try with_reducible rfl
  case rf1 =>
  simp only [Act.put, List.setIfInBounds_toArray, List.set_cons_zero, List.set_cons_succ]
  refine wpAnyH_take (i := 2) (oi := { dst := some 21, op := Go.Op.load 24 (Go.Operand.tmp 20), type := 24, pos := "l07_ivf.go:92", after := #[{ on := 1, ground := Go.Ground.data }], guard := none }) (v := ?vf2) rfl (by kernel_rfl) (by kernel_rfl) (by kernel_rfl) (fun _ _ _ h => h) (Or.inl ⟨by rfl, ?hf2⟩) hHeld ?rf2
  case hf2 =>
    intro wS hSw
    have y0 := ((unhide HBX).keep hSw).at 0 _ rfl
    have y1 := ((unhide HBX).keep hSw).at 1 _ rfl
    clear hSw
    (try dsimp only at hSw)
    go_simp
    try with_reducible rfl
  case rf2 =>
  simp only [Act.put, List.setIfInBounds_toArray, List.set_cons_zero, List.set_cons_succ]
  refine wpAnyH_ready (rs := [3]) (by kernel_rfl) (by simp) ?_
  refine AllReadyH.cons (o := { dst := some 22, op := Go.Op.call { callee := Go.Callee.value (Go.Operand.func 123), args := #[Go.Operand.tmp 21], argTypes := #[24] }, type := 28, pos := "l07_ivf.go:92", after := #[{ on := 2, ground := Go.Ground.data }], guard := none }) rfl (fun K hK => ?_) AllReadyH.nil
  go_simp
  go_at_call 123
  refine (unhide LP _).mono ?_
  rintro e w3 ⟨rfl, hO3, hb3⟩
  try go_wp2_with fail
  refine hK.out _ _ (hHeld.trans (hb3.mono hHeld.size)) (fun hHeld => ?_)
  clear hK K
  try simp only [Act.put, List.setIfInBounds_toArray, List.set_cons_zero, List.set_cons_succ]
  refine wpAnyH_ready (rs := [4]) (by kernel_rfl) (by simp) ?_
  refine AllReadyH.cons (o := { dst := some 23, op := Go.Op.call { callee := Go.Callee.value (Go.Operand.func 88), args := #[Go.Operand.tmp 19, Go.Operand.tmp 22], argTypes := #[27, 28] }, type := 135, pos := "l07_ivf.go:92", after := #[{ on := 0, ground := Go.Ground.data }, { on := 3, ground := Go.Ground.data }, { on := 3, ground := Go.Ground.chain }], guard := none }) rfl (fun K hK => ?_) AllReadyH.nil
  go_simp
  go_at_call 88
  refine (unhide LQ _ _ _ _).mono ?_
  rintro e w4 ⟨rfl, rfl⟩
  try go_wp2_with fail
  refine hK.out _ _ ((hHeld.alloc hHeld.size _).alloc (Nat.le_trans hHeld.size (by simp)) _) (fun hHeld => ?_)
  clear hK K
  try simp only [Act.put, List.setIfInBounds_toArray, List.set_cons_zero, List.set_cons_succ]
  refine wpAnyH_done (by kernel_rfl) ?_ _
  refine NoPanic.normal ?_
  have HO3 := hide hO3
  have HB3 := hide hb3
  have HHeld := hide hHeld
  clear hO3 hb3 hHeld
  go_wp2_with fail
  have hpos : 0 < x.lists.length := by rw [unhide HL]; omega
  have hm6 : x.lists.length ≤ 6 := by rw [unhide HL]; omega
  obtain ⟨bL, oL, ia, ic, rfl, hbL, hli⟩ := lists_at (unhide H2) hpos
  have hbw := unhide HB
  have hO4 := ((unhide HO3).alloc (.cells #[.slice ac x.centers.length dc, .slice (some ⟨bL, oL, none⟩) x.lists.length dl] 27)).alloc (.cells #[.slice (some ⟨wD.heap.size, 0, none⟩) x.centers.length x.centers.length] 28)
  have bX4 := ((unhide HBX).keep (unhide HHeld))
  have bR4 := ((unhide HR).keep (unhide HHeld))
  have hB4 := hbw.trans ((unhide HHeld).mono hbw.size)
  have hsz3 : wD.heap.size < w3.heap.size := ((unhide HO3).lt wD.heap.size rfl).2
  have bY : Box 0 #[.slice ac x.centers.length dc, .slice (some ⟨bL, oL, none⟩) x.lists.length dl] 27 ((w3.alloc (.cells #[.slice ac x.centers.length dc, .slice (some ⟨bL, oL, none⟩) x.lists.length dl] 27)).alloc (.cells #[.slice (some ⟨wD.heap.size, 0, none⟩) x.centers.length x.centers.length] 28)) w3.heap.size := (newBox (Nat.zero_le _)).grow _
  have bP : Box 0 #[.slice (some ⟨wD.heap.size, 0, none⟩) x.centers.length x.centers.length] 28 ((w3.alloc (.cells #[.slice ac x.centers.length dc, .slice (some ⟨bL, oL, none⟩) x.lists.length dl] 27)).alloc (.cells #[.slice (some ⟨wD.heap.size, 0, none⟩) x.centers.length x.centers.length] 28)) (w3.heap.size + 1) := newBoxAt (Nat.zero_le _) (by simp)
  have hszL : ((w3.alloc (.cells #[.slice ac x.centers.length dc, .slice (some ⟨bL, oL, none⟩) x.lists.length dl] 27)).alloc (.cells #[.slice (some ⟨wD.heap.size, 0, none⟩) x.centers.length x.centers.length] 28)).heap.size = w3.heap.size + 2 := by simp
  generalize hWL : (w3.alloc (.cells #[.slice ac x.centers.length dc, .slice (some ⟨bL, oL, none⟩) x.lists.length dl] 27)).alloc (.cells #[.slice (some ⟨wD.heap.size, 0, none⟩) x.centers.length x.centers.length] 28) = WL at *
  have hlw : w.heap.size + 1 < w1.heap.size := (unhide HR).lt
  have hw1L := (unhide HHeld).size
  have hit : ItAt WL w3.heap.size bL oL x.lists.length dl ia (fun j => (itsL x.lists j).length) ic wD.heap.size 0 (allPl x.lists.length) := by
    refine ⟨bY.at 1 _ rfl, fun j hj => (hB4.cell (p := ⟨bL, oL + j, none⟩) hbL).trans (hli j hj).1, fun i hi => ?_⟩
    rw [allPl_at, Nat.zero_add]
    rw [allPl_len] at hi
    rw [hO4.cellAt i (by have := unhide HL; omega)]
    exact plV_at (by rw [List.getElem?_range (by rw [← unhide HL]; exact hi)])
  have hbp : WL.cell? ⟨w3.heap.size + 1, 0, none⟩ = some (.slice (some ⟨wD.heap.size, 0, none⟩) (allPl x.lists.length).length x.centers.length) := by rw [allPl_len, unhide HL]; exact bP.at 0 _ rfl
  clear hO4 bY bP
  refine wpIn_wide.1 (wpIn_rangeFunc_ownH (F := Fence.wide) (n := 9) rfl (by decide) (gf := 122) (lb := #[.pointer (some ⟨w3.heap.size + 1, 0, none⟩), .pointer (some ⟨w3.heap.size, 0, none⟩)]) rfl trivial (enters_of Tryz.func122 (by kernel_rfl) rfl)
    (listsAt_stops 8 (w3.heap.size + 1) w3.heap.size bL oL x.lists.length dl x.centers.length ia (fun j => (itsL x.lists j).length) ic wD.heap.size 0 (allPl x.lists.length) WL.heap.size (fun _ => False) (by rw [allPl_len]; omega) ⟨by omega, fun h => h⟩ ⟨by have := hbw.size; omega, fun h => h⟩ ⟨by omega, fun h => h⟩ WL (by omega) (Nat.le_refl _) hbp hit)
    KpS.trans (fun W l _ o' hl _ _ _ => KpS.put _ W l o' hl) (Below.refl _ _) (fun _ => rfl)
    (fun pre W => (WL.heap.size ≤ W.heap.size ∧ ∀ p ∈ pre, faultAt x p.1 = 0) ∧ Box w.heap.size #[.slice ac x.centers.length dc, .slice (some ⟨bL, oL, none⟩) x.lists.length dl] 27 W w.heap.size ∧ Box w.heap.size #[.int .i64 0] 2 W (w.heap.size + 1) ∧ Below w.heap.size w W)
    (fun c pre W => c = .ret ∧ ∃ pre' p, pre = pre' ++ [p] ∧ (∀ q ∈ pre', faultAt x q.1 = 0) ∧ faultAt x p.1 ≠ 0 ∧ Box w.heap.size #[.int .i64 (faultAt x p.1)] 2 W (w.heap.size + 1) ∧ Below w.heap.size w W)
    (fun s A B row hs hg hr => ⟨⟨Nat.le_trans hs.1.1 hg.size, hs.1.2⟩, box_grown hg hr hs.2.1, box_grown hg hr hs.2.2.1, below_grown hg hr hs.2.2.2 (by omega) (Nat.le_refl _)⟩)
    (fun c s A B row hs hg hr => by
      obtain ⟨rfl, pre', p, rfl, q1, q2, q3, q4⟩ := hs
      exact ⟨rfl, pre', p, rfl, q1, q2, box_grown hg hr q3, below_grown hg hr q4 (by omega) (Nat.le_refl _)⟩)
    ⟨⟨Nat.le_refl _, by simp⟩, bX4, bR4, hB4⟩
    (fun y a' W => ∃ Bo, Box 0 #[.int .i64 (y.1 : Int), .slice (ia y.1) (itsL x.lists y.1).length (ic y.1)] 83 W Bo ∧ a' = { tmps := #[.agg #[.slice ac x.centers.length dc, .slice (some ⟨bL, oL, none⟩) x.lists.length dl], .pointer (some ⟨w.heap.size, 0, none⟩), .pointer (some ⟨w.heap.size + 1, 0, none⟩), .int .i64 0, .pointer (some ⟨Bo, 0, none⟩), undef, .pointer (some ⟨w.heap.size, 0, none⟩), .slice ac x.centers.length dc, .int .i64 0, .int .i64 0, .bool false, undef, .pointer (some ⟨w.heap.size, 1, none⟩), .slice (some ⟨bL, oL, none⟩) x.lists.length dl, .int .i64 (x.lists.length : Int), .pointer (some ⟨w.heap.size, 0, none⟩), .slice ac x.centers.length dc, .int .i64 (x.centers.length : Int), .bool false, .agg #[.slice ac x.centers.length dc, .slice (some ⟨bL, oL, none⟩) x.lists.length dl], .pointer (some ⟨w.heap.size, 0, none⟩), .slice ac x.centers.length dc, .slice (some ⟨wD.heap.size, 0, none⟩) x.centers.length x.centers.length, .func (.func 122) #[] #[.pointer (some ⟨w3.heap.size + 1, 0, none⟩), .pointer (some ⟨w3.heap.size, 0, none⟩)], .agg #[.int .i64 (y.1 : Int), .slice (ia y.1) (itsL x.lists y.1).length (ic y.1)], undef, undef, undef, undef, undef, undef, undef], defers := [] })
    (fun y a' _ A B row hs hg hr => by
      obtain ⟨Bo, q1, q2⟩ := hs
      exact ⟨Bo, box_grown hg hr q1, q2⟩)
    ?assign ?body ?done ?stop)
  case assign =>
    rintro l pre y W K ⟨⟨hs, hp⟩, b1, b2, hB1⟩ hK
    have hbn : Below W.heap.size W (W.alloc (.cells #[.int .i64 (y.1 : Int), .slice (ia y.1) (itsL x.lists y.1).length (ic y.1)] 83)) := (Below.refl _ _).alloc (Nat.le_refl _) _
    gi_wp2
    exact hK _ _ (keepsFrom_below hbn) (KpS.of_below _ hbn hs) ⟨⟨Nat.le_trans hs hbn.size, hp⟩, b1.keep hbn, b2.keep hbn, hB1.trans (hbn.mono hB1.size)⟩ ⟨W.heap.size, newBox (Nat.zero_le _), rfl⟩
  case body =>
    rintro l pre y a' W hl ⟨r, hr⟩ ⟨⟨hs, hp⟩, b1, b2, hB1⟩ ⟨Bo, bO, rfl⟩ hlt
    have c0 := b1.at 0 _ rfl
    have o0 := bO.at 0 _ rfl
    have o1 := bO.at 1 _ rfl
    have hy2 := y.2
    have LF := implListF _ x.centers y.1 (ia y.1) (ic y.1) (itsL x.lists y.1) W ((unhide H1).later hB1) ((hli y.1 y.2).2.later hB1) (unhide HCF)
    have LG := hide (CallsIn.inRound l ((callsIn_wide (n := 9 - 1 - 1 - 1)).2 LF))
    have HP := hide hp
    have HB1 := hide hB1
    have HB2 := hide b1
    have HB3 := hide b2
    clear LF hp hB1 hit hbp hli hB4 bX4 bR4 b1 b2 bO
    gi_wp2
    refine ⟨trivial, ?_⟩
    gi_at_call 132
    refine (unhide LG).mono ?_
    rintro e w5 ⟨rfl, hb5⟩
    have e5 : listFault x.centers y.1 (itsL x.lists y.1) = faultAt x y.1 := rfl
    rw [e5]
    have hbb := unhide HB1
    have hB5 := hide (hbb.trans (hb5.mono hbb.size))
    have HK5 : Hid (KeepsFrom WL.heap.size W w5) := keepsFrom_below hb5
    have HP5 : Hid (KpS WL.heap.size (fun _ => False) W w5) := KpS.of_below _ hb5 hs
    have HX5 := hide ((unhide HB2).keep hb5)
    have HR5 := hide ((unhide HB3).keep hb5)
    have hs5 := hb5.size
    clear c0 o0 o1 hb5 hbb e5 LG
    by_cases hz : faultAt x y.1 = 0
    · rw [hz]
      have HZ := hide hz
      clear hz
      gi_wp2
      refine ⟨unhide HK5, unhide HP5, ⟨by omega, fun q hq => ?_⟩, unhide HX5, unhide HR5, unhide hB5⟩
      rcases List.mem_append.1 hq with hq | hq
      · exact unhide HP q hq
      · rw [List.mem_singleton.1 hq]; exact unhide HZ
    · have hd5 : (faultAt x y.1 != 0) = true := by simpa using hz
      have HZ := hide hz
      have r0 := (unhide HR5).at 0 _ rfl
      have f0 := (unhide HR5).soft 0
      have lR5 := (unhide HR5).lt
      clear hz
      gi_wp2
      refine ⟨(unhide HK5).trans ((KeepsOthers.setCell _ _ _).from _), rfl, pre, y, rfl, unhide HP, unhide HZ, (unhide HR5).set 0 _, (unhide hB5).setCell (by simp) _⟩
  case done =>
    rintro D xs W hD rfl ⟨⟨hs, hp⟩, b1, b2, hB1⟩ hK
    have r0 := b2.at 0 _ rfl
    have f0 := b2.soft 0
    have l0 := b2.lt
    have HR5 := hide b2
    have HB5 := hide hB1
    have hF : Hid (F0 = 0) := by show F0 = 0; rw [← unhide HF0]; exact form_all (unhide HCF) (unhide HL) hp
    have HK := hide hK
    clear b1 b2 hB1 hK hit hbp hli
    go_wp2_with fail
    have hK' := (KeepsOthers.setCell W ⟨w.heap.size + 1, 0, none⟩ (.int .i64 0)).same D _ (unhide HK) rfl
    refine ⟨by simp, .inl ⟨_, _, rfl, run_takeDeferred hK', ?_⟩⟩
    have hc5 := cell_kept (((unhide HR5).set 0 (.int .i64 0)).at 0 _ rfl) (grownBy_putObj' _ D (.deferred none)) (fun r e => by cases e; exact ⟨_, hK', rfl⟩)
    refine ⟨.int .i64 0, by simp [results, Tryz.results98, go_sem, hc5], by rw [unhide hF], ?_⟩
    exact ((unhide HB5).setCell (by simp) _).grown (grownBy_putObj' _ D (.deferred none)) (by have := (unhide HB5).size; simp; omega) (fun k e => by cases e; omega)
  case stop =>
    rintro D c pre W hD hpre ⟨rfl, pre', p, rfl, q1, q2, q3, q4⟩ hK
    have hF : Hid (F0 = faultAt x p.1) := by show F0 = _; rw [← unhide HF0]; exact form_at (unhide HCF) (unhide HL) hpre q1 q2
    have HR5 := hide q3
    have HB5 := hide q4
    have HK := hide hK
    clear q1 q2 q3 q4 hK hit hbp hli
    gi_wp2
    refine ⟨by simp, .inl ⟨_, _, rfl, run_takeDeferred (unhide HK), ?_⟩⟩
    have hc5 := cell_kept ((unhide HR5).at 0 _ rfl) (grownBy_putObj' _ D (.deferred none)) (fun r e => by cases e; exact ⟨_, unhide HK, rfl⟩)
    refine ⟨.int .i64 (faultAt x p.1), by simp [results, Tryz.results98, go_sem, hc5], by rw [unhide hF], ?_⟩
    exact (unhide HB5).grown (grownBy_putObj' _ D (.deferred none)) (by have := (unhide HB5).size; omega) (fun k e => by cases e; omega)


theorem implForm (x : DIvf) (ac : Option Addr) (dc : Nat) (al : Option Addr) (dl : Nat) (w : World) (h1 : (Lay.sl Lay.tCenter).Reads w [.slice ac x.centers.length dc] x.centers) (h2 : (Lay.sl Lay.tIvfList).Reads w [.slice al x.lists.length dl] x.lists) :
    Calls Tryz.prog 98 #[.agg #[.slice ac x.centers.length dc, .slice al x.lists.length dl]] w fun e w' => e = .returned (.int .i64 (formF x)) ∧ Below w.heap.size w w' := by
  by_cases hf : centersFault x.centers = 0
  · by_cases hl : x.lists.length = x.centers.length
    · exact implForm_ok x ac dc al dl w h1 h2 hf hl
    · exact implForm_len x ac dc al dl w h1 h2 hf hl
  · exact implForm_cen x ac dc al dl w h1 h2 hf

end Go.Proofs.YtggnnbdjihihiaaGreat

namespace Go.Proofs.YtggnnbdjihihiaaGreat
open Go.RowKit

theorem foldIs_len (ls : List DIvfList) : ∀ (o : List DItem), Rising o → (ls.foldl (fun o l => gatherI o l.items) o).length ≤ o.length + countIs ls := by
  induction ls with
  | nil => exact fun o _ => Nat.le_refl _
  | cons l ls ih =>
    intro o ho
    have h1 := ih (gatherI o l.items) (gatherI_rising ho l.items)
    have h2 := gatherI_len ho l.items
    simp only [List.foldl_cons, countIs]
    omega
theorem allIs_split (ls : List DIvfList) (k : Nat) (hk : k < ls.length) : allIs ls = (ls.drop (k + 1)).foldl (fun o l => gatherI o l.items) (gatherI (allIs (ls.take k)) ls[k].items) := by
  have e : ls = ls.take k ++ ls[k] :: ls.drop (k + 1) := by rw [← List.drop_eq_getElem_cons hk, List.take_append_drop]
  have e2 : allIs ls = allIs (ls.take k ++ ls[k] :: ls.drop (k + 1)) := by rw [← e]
  rw [e2, allIs, List.foldl_append, List.foldl_cons]
  rfl
theorem countIs_append (a b : List DIvfList) : countIs (a ++ b) = countIs a + countIs b := by
  induction a with
  | nil => simp [countIs]
  | cons l a ih => simp only [List.cons_append, countIs, ih]; omega
theorem countIs_split (ls : List DIvfList) (k : Nat) (hk : k < ls.length) : countIs ls = countIs (ls.take k) + (ls[k].items.length + countIs (ls.drop (k + 1))) := by
  have e : ls = ls.take k ++ ls[k] :: ls.drop (k + 1) := by rw [← List.drop_eq_getElem_cons hk, List.take_append_drop]
  have e2 : countIs ls = countIs (ls.take k ++ ls[k] :: ls.drop (k + 1)) := by rw [← e]
  rw [e2, countIs_append]
  rfl
theorem gather_split (out xs : List DItem) (j : Nat) (hj : j < xs.length) : gatherI out xs = gatherI (putI (gatherI out (xs.take j)) xs[j].id xs[j].vec) (xs.drop (j + 1)) := by
  have e : xs = xs.take j ++ xs[j] :: xs.drop (j + 1) := by rw [← List.drop_eq_getElem_cons hj, List.take_append_drop]
  have e2 : gatherI out xs = gatherI out (xs.take j ++ xs[j] :: xs.drop (j + 1)) := by rw [← e]
  rw [e2, gatherI, List.foldl_append, List.foldl_cons]
  rfl
/-- One Id is there already: then there are fewer in all than in the lists. -/
theorem taken_fact {ls : List DIvfList} {k : Nat} (hk : k < ls.length) {j : Nat} (hj : j < ls[k].items.length) (hh : hasI (gatherI (allIs (ls.take k)) (ls[k].items.take j)) ls[k].items[j].id = true) : (allIs ls).length ≠ countIs ls := by
  have r0 := allIs_rising (ls.take k)
  have r1 := gatherI_rising r0 (ls[k].items.take j)
  have r2 := putI_rising r1 ls[k].items[j].id ls[k].items[j].vec
  have n0 := allIs_len (ls.take k)
  have n1 := gatherI_len r0 (ls[k].items.take j)
  have n2 := putI_len r1 ls[k].items[j].id ls[k].items[j].vec
  rw [if_pos hh] at n2
  have n3 := gatherI_len r2 (ls[k].items.drop (j + 1))
  rw [← gather_split _ _ j hj] at n3
  have n4 := foldIs_len (ls.drop (k + 1)) _ (gatherI_rising r0 ls[k].items)
  rw [← allIs_split ls k hk] at n4
  have n5 := countIs_split ls k hk
  rw [List.length_take] at n1
  rw [List.length_drop] at n3
  omega
/-- What is held when j of list k have come. -/
def heldAt (ls : List DIvfList) (k j : Nat) : List DItem := gatherI (allIs (ls.take k)) ((ls.getD k ⟨[]⟩).items.take j)
def heldN (ls : List DIvfList) (k j : Nat) : Nat := countIs (ls.take k) + j

end Go.Proofs.YtggnnbdjihihiaaGreat

namespace Go.Proofs.YtggnnbdjihihiaaGreat
open Go.RowKit

/-- The code of an index whose lists are right. -/
def codeL (x : DIvf) : Int := if (allIs x.lists).length = countIs x.lists then (if countIs x.lists ≤ 30 then 0 else 2) else 6
/-- What is held when the lists of pre have come. -/
def heldP {m : Nat} (ls : List DIvfList) (pre : List (Pl m)) : List DItem := pre.foldl (fun o p => gatherI o (itsL ls p.1)) []
def countP : {m : Nat} → (ls : List DIvfList) → (pre : List (Pl m)) → Nat
  | _, _, [] => 0
  | _, ls, p :: pre => (itsL ls p.1).length + countP ls pre
theorem heldP_snoc {m : Nat} (ls : List DIvfList) (pre : List (Pl m)) (p : Pl m) : heldP ls (pre ++ [p]) = gatherI (heldP ls pre) (itsL ls p.1) := by
  rw [heldP, List.foldl_append]
  rfl
theorem countP_snoc {m : Nat} (ls : List DIvfList) (pre : List (Pl m)) (p : Pl m) : countP ls (pre ++ [p]) = countP ls pre + (itsL ls p.1).length := by
  induction pre with
  | nil => simp [countP]
  | cons q pre ih => simp only [List.cons_append, countP, ih]; omega
theorem heldP_rising {m : Nat} (ls : List DIvfList) (pre : List (Pl m)) : Rising (heldP ls pre) := by
  have : ∀ o, Rising o → Rising (pre.foldl (fun o p => gatherI o (itsL ls p.1)) o) := by
    induction pre with
    | nil => exact fun o h => h
    | cons q pre ih => exact fun o h => ih _ (gatherI_rising h _)
  exact this [] List.Pairwise.nil
theorem countP_le {m : Nat} {ls : List DIvfList} (h : ∀ j, (itsL ls j).length ≤ 30) (pre : List (Pl m)) : countP ls pre ≤ 30 * pre.length := by
  induction pre with
  | nil => simp [countP]
  | cons q pre ih =>
    have := h q.1
    simp only [countP, List.length_cons]
    omega
/-- The first k places, whatever the list of places is. -/
theorem heldP_take {ls : List DIvfList} {pre : List (Pl ls.length)} (h : ∀ j (hj : j < pre.length), pre[j].1 = j) (hl : pre.length ≤ ls.length) : heldP ls pre = allIs (ls.take pre.length) ∧ countP ls pre = countIs (ls.take pre.length) := by
  obtain ⟨k, hk⟩ : ∃ k, pre.length = k := ⟨_, rfl⟩
  induction k generalizing pre with
  | zero =>
    obtain rfl : pre = [] := List.eq_nil_of_length_eq_zero hk
    exact ⟨rfl, by simp [countP, countIs]⟩
  | succ k ih =>
    obtain ⟨q, p, rfl⟩ : ∃ q p, pre = q ++ [p] := ⟨pre.dropLast, pre.getLast (by intro e; rw [e] at hk; cases hk), (List.dropLast_concat_getLast _).symm⟩
    have hq : q.length = k := by simpa using hk
    have hp := h k (by simp [hq])
    simp only [← hq, List.getElem_concat_length] at hp
    obtain ⟨i1, i2⟩ := ih (pre := q) (fun j hj => by
      have := h j (by simp; omega)
      rw [List.getElem_append_left hj] at this
      exact this) (by simp at hl; omega) hq
    have hlt : q.length < ls.length := by simp at hl; omega
    rw [heldP_snoc, countP_snoc, i1, i2, List.length_append, List.length_singleton, allIs_step ls q.length hlt, countIs_take ls q.length hlt, hp, itsL_eq hlt]
    exact ⟨rfl, rfl⟩
theorem held_all (ls : List DIvfList) : heldP ls (allPl ls.length) = allIs ls ∧ countP ls (allPl ls.length) = countIs ls := by
  have := heldP_take (ls := ls) (pre := allPl ls.length) (fun j hj => allPl_at _ j hj) (by rw [allPl_len]; exact Nat.le_refl _)
  rw [allPl_len, List.take_length] at this
  exact this
theorem held_taken {x : DIvf} {pre : List (Pl x.lists.length)} {p : Pl x.lists.length} (hp : pre ++ [p] <+: allPl x.lists.length) {j : Nat} (hj : j < (itsL x.lists p.1).length) (hh : hasI (gatherI (heldP x.lists pre) ((itsL x.lists p.1).take j)) (itsL x.lists p.1)[j].id = true) : codeL x = 6 := by
  obtain ⟨h1, h2⟩ := pre_at hp
  have hk : p.1 < x.lists.length := p.2
  have hl := hp.length_le
  rw [allPl_len, List.length_append] at hl
  obtain ⟨i1, -⟩ := heldP_take h2 (by omega)
  rw [i1, ← h1] at hh
  have e := itsL_eq hk
  have hj2 : j < x.lists[p.1].items.length := by rw [← e]; exact hj
  have hh2 : hasI (gatherI (allIs (x.lists.take p.1)) (x.lists[p.1].items.take j)) x.lists[p.1].items[j].id = true := by
    simp only [e] at hh
    exact hh
  rw [codeL, if_neg (taken_fact hk hj2 hh2)]
theorem gather_put {o xs : List DItem} {j : Nat} (hj : j < xs.length) : gatherI o (xs.take (j + 1)) = putI (gatherI o (xs.take j)) xs[j].id xs[j].vec := gatherI_step o xs j hj

end Go.Proofs.YtggnnbdjihihiaaGreat

namespace Go.Proofs.YtggnnbdjihihiaaGreat
open Go.RowKit Go.Shelf
attribute [local go_sem] Oper.semAt_some

set_option maxRecDepth 100000 in
set_option maxHeartbeats 8000000 in
theorem implTLists (x : DIvf) (ac : Option Addr) (dc : Nat) (al : Option Addr) (dl : Nat) (w : World) (h1 : (Lay.sl Lay.tCenter).Reads w [.slice ac x.centers.length dc] x.centers) (h2 : (Lay.sl Lay.tIvfList).Reads w [.slice al x.lists.length dl] x.lists) (hf : centersFault x.centers = 0) (HL : Hid (x.lists.length = x.centers.length)) (hx : ∀ l ∈ x.lists, tableFault l.items = 0) :
    Calls Tryz.prog 99 #[.agg #[.slice ac x.centers.length dc, .slice al x.lists.length dl]] w fun e w' => (∃ mv, e = .returned (.tuple #[mv, .int .i64 (codeL x)]) ∧ (codeL x ≠ 0 → mv = .map none) ∧ (codeL x = 0 → ∃ b, mv = .map (some b) ∧ w.heap.size ≤ b ∧ TabAt w' b 200 (allIs x.lists))) ∧ Below w.heap.size w w' := by
  have nb : Below w.heap.size w (((((w.alloc (.cells #[.slice ac x.centers.length dc, .slice al x.lists.length dl] 27)).alloc (.cells #[.map none] 94)).alloc (.cells #[.int .i64 0] 2)).alloc (.map #[] 0)).alloc (.cells #[.map (some (w.heap.size + 1 + 1 + 1))] 94)) := (((((Below.refl _ _).alloc (Nat.le_refl _) _).alloc (by simp) _).alloc (by simp; omega) _).alloc (by simp; omega) _).alloc (by simp; omega) _
  have bX : Box w.heap.size #[.slice ac x.centers.length dc, .slice al x.lists.length dl] 27 (((((w.alloc (.cells #[.slice ac x.centers.length dc, .slice al x.lists.length dl] 27)).alloc (.cells #[.map none] 94)).alloc (.cells #[.int .i64 0] 2)).alloc (.map #[] 0)).alloc (.cells #[.map (some (w.heap.size + 1 + 1 + 1))] 94)) w.heap.size := ((((newBox (Nat.le_refl _)).grow _).grow _).grow _).grow _
  have bM : Box w.heap.size #[.map none] 94 (((((w.alloc (.cells #[.slice ac x.centers.length dc, .slice al x.lists.length dl] 27)).alloc (.cells #[.map none] 94)).alloc (.cells #[.int .i64 0] 2)).alloc (.map #[] 0)).alloc (.cells #[.map (some (w.heap.size + 1 + 1 + 1))] 94)) (w.heap.size + 1) := (((newBoxAt (by omega) (by simp)).grow _).grow _).grow _
  have bR : Box w.heap.size #[.int .i64 0] 2 (((((w.alloc (.cells #[.slice ac x.centers.length dc, .slice al x.lists.length dl] 27)).alloc (.cells #[.map none] 94)).alloc (.cells #[.int .i64 0] 2)).alloc (.map #[] 0)).alloc (.cells #[.map (some (w.heap.size + 1 + 1 + 1))] 94)) (w.heap.size + 1 + 1) := ((newBoxAt (by omega) (by simp)).grow _).grow _
  have hT := (tabAt_new (((w.alloc (.cells #[.slice ac x.centers.length dc, .slice al x.lists.length dl] 27)).alloc (.cells #[.map none] 94)).alloc (.cells #[.int .i64 0] 2))).later ((Below.refl _ _).alloc (Nat.le_refl _) (.cells #[.map (some (w.heap.size + 1 + 1 + 1))] 94))
  have bH : Box w.heap.size #[.map (some (w.heap.size + 1 + 1 + 1))] 94 (((((w.alloc (.cells #[.slice ac x.centers.length dc, .slice al x.lists.length dl] 27)).alloc (.cells #[.map none] 94)).alloc (.cells #[.int .i64 0] 2)).alloc (.map #[] 0)).alloc (.cells #[.map (some (w.heap.size + 1 + 1 + 1))] 94)) (w.heap.size + 1 + 1 + 1 + 1) := newBoxAt (by omega) (by simp)
  simp only [World.size_alloc] at hT
  have hn6 : x.centers.length ≤ 6 := (centersFault_zero hf).1.2
  have hn1 : 1 ≤ x.centers.length := (centersFault_zero hf).1.1
  have c0 := bX.at 0 _ rfl
  have c1 := bX.at 1 _ rfl
  have H1 := hide h1
  have H2 := hide h2
  have HTF := hide hx
  have HB := hide nb
  have HR := hide bR
  have HM := hide bM
  have HH := hide bH
  have HT := hide hT
  have HBX := hide bX
  have hmk : ∀ W : World, (Instr.makeMap 94 none).run Tryz.prog W = .ok (.map (some W.heap.size)) (W.alloc (.map #[] 0)) := fun W => by kernel_rfl
  have LP : Hid (∀ W : World, _) := fun W : World => implPlaces ac x.centers.length dc W (by omega)
  have LQ : Hid (∀ (a : Option Addr) (n c : Nat) (W : World), _) := fun (a : Option Addr) (n c : Nat) (W : World) => implListsAt (.slice ac x.centers.length dc) (.slice al x.lists.length dl) a n c W ⟨_, _, _, rfl⟩ ⟨_, _, _, rfl⟩
  clear h1 h2 hx nb bR bM bH hT bX hf
  refine (callsIn_wide (n := 9)).1 ?_
  refine callsIn_of_wp_marks Tryz.func99 rfl trivial ?_ rfl
  refine wpIn_wide.2 ?_
  simp only [Tryz.ntmps99, List.size_toArray, List.length_cons, List.length_nil, Nat.reduceAdd, Nat.reduceSub, Array.replicate_succ, Array.replicate_zero, List.push_toArray, List.append_toArray, List.nil_append, List.cons_append]
  go_wp2_with fail
  clear hmk
  generalize ((((w.alloc (.cells #[.slice ac x.centers.length dc, .slice al x.lists.length dl] 27)).alloc (.cells #[.map none] 94)).alloc (.cells #[.int .i64 0] 2)).alloc (.map #[] 0)).alloc (.cells #[.map (some (w.heap.size + 1 + 1 + 1))] 94) = w1 at *
  refine wp_region_noPanic ?_
  refine wp_region_held_drew (S := fun w' => Below w1.heap.size w1 w') (by kernel_rfl) (Below.refl _ _).drew (fun hHeld => ?_)
  generalize w1.drew = wD at hHeld ⊢
  refine wpAnyH_take (i := 0) (oi := { dst := some 11, op := Go.Op.load 27 (Go.Operand.tmp 1), type := 27, pos := "l07_ivf.go:105", after := #[], guard := none }) (v := ?vf0) rfl (by kernel_rfl) (by kernel_rfl) (by kernel_rfl) (fun _ _ _ h => h) (Or.inl ⟨by rfl, ?hf0⟩) hHeld ?rf0
  case hf0 =>
    intro wS hSw
    have y0 := ((unhide HBX).keep hSw).at 0 _ rfl
    have y1 := ((unhide HBX).keep hSw).at 1 _ rfl
    clear hSw
    (try dsimp only at hSw)
    go_simp
    try with_reducible rfl
  case rf0 =>
  simp only [Act.put, List.setIfInBounds_toArray, List.set_cons_zero, List.set_cons_succ]
  refine wpAnyH_take (i := 1) (oi := { dst := some 12, op := Go.Op.fieldAddr 27 (Go.Operand.tmp 1) 0, type := 0, pos := "l07_ivf.go:105", after := #[], guard := none }) (v := ?vf1) rfl (by kernel_rfl) (by kernel_rfl) (by kernel_rfl) (fun _ _ _ h => h) (Or.inl ⟨by rfl, ?hf1⟩) hHeld ?rf1
  case hf1 =>
    intro wS hSw
    (try dsimp only at hSw)
    go_simp
    try with_reducible rfl
  case rf1 =>
  simp only [Act.put, List.setIfInBounds_toArray, List.set_cons_zero, List.set_cons_succ]
  refine wpAnyH_take (i := 2) (oi := { dst := some 13, op := Go.Op.load 24 (Go.Operand.tmp 12), type := 24, pos := "l07_ivf.go:105", after := #[{ on := 1, ground := Go.Ground.data }], guard := none }) (v := ?vf2) rfl (by kernel_rfl) (by kernel_rfl) (by kernel_rfl) (fun _ _ _ h => h) (Or.inl ⟨by rfl, ?hf2⟩) hHeld ?rf2
  case hf2 =>
    intro wS hSw
    have y0 := ((unhide HBX).keep hSw).at 0 _ rfl
    have y1 := ((unhide HBX).keep hSw).at 1 _ rfl
    clear hSw
    (try dsimp only at hSw)
    go_simp
    try with_reducible rfl
  case rf2 =>
  simp only [Act.put, List.setIfInBounds_toArray, List.set_cons_zero, List.set_cons_succ]
  refine wpAnyH_ready (rs := [3]) (by kernel_rfl) (by simp) ?_
  refine AllReadyH.cons (o := { dst := some 14, op := Go.Op.call { callee := Go.Callee.value (Go.Operand.func 123), args := #[Go.Operand.tmp 13], argTypes := #[24] }, type := 28, pos := "l07_ivf.go:105", after := #[{ on := 2, ground := Go.Ground.data }], guard := none }) rfl (fun K hK => ?_) AllReadyH.nil
  have HDS := hide hHeld.size
  go_simp
  go_at_call 123
  refine (unhide LP _).mono ?_
  rintro e w3 ⟨rfl, hO3, hb3⟩
  try go_wp2_with fail
  refine hK.out _ _ (hHeld.trans (hb3.mono hHeld.size)) (fun hHeld => ?_)
  clear hK K
  try simp only [Act.put, List.setIfInBounds_toArray, List.set_cons_zero, List.set_cons_succ]
  refine wpAnyH_ready (rs := [4]) (by kernel_rfl) (by simp) ?_
  refine AllReadyH.cons (o := { dst := some 15, op := Go.Op.call { callee := Go.Callee.value (Go.Operand.func 88), args := #[Go.Operand.tmp 11, Go.Operand.tmp 14], argTypes := #[27, 28] }, type := 135, pos := "l07_ivf.go:105", after := #[{ on := 0, ground := Go.Ground.data }, { on := 3, ground := Go.Ground.data }, { on := 3, ground := Go.Ground.chain }], guard := none }) rfl (fun K hK => ?_) AllReadyH.nil
  go_simp
  go_at_call 88
  refine (unhide LQ _ _ _ _).mono ?_
  rintro e w4 ⟨rfl, rfl⟩
  try go_wp2_with fail
  refine hK.out _ _ ((hHeld.alloc hHeld.size _).alloc (Nat.le_trans hHeld.size (by simp)) _) (fun hHeld => ?_)
  clear hK K
  try simp only [Act.put, List.setIfInBounds_toArray, List.set_cons_zero, List.set_cons_succ]
  refine wpAnyH_done (by kernel_rfl) ?_ _
  refine NoPanic.normal ?_
  have HO3 := hide hO3
  have HB3 := hide hb3
  have HHeld := hide hHeld
  clear hO3 hb3 hHeld c0 c1
  go_wp2_with fail
  have hpos : 0 < x.lists.length := by rw [unhide HL]; omega
  have hm6 : x.lists.length ≤ 6 := by rw [unhide HL]; omega
  obtain ⟨bL, oL, ia, ic, rfl, hbL, hli⟩ := lists_at (unhide H2) hpos
  have hbw := unhide HB
  have hO4 := ((unhide HO3).alloc (.cells #[.slice ac x.centers.length dc, .slice (some ⟨bL, oL, none⟩) x.lists.length dl] 27)).alloc (.cells #[.slice (some ⟨wD.heap.size, 0, none⟩) x.centers.length x.centers.length] 28)
  have bM4 := (unhide HM).keep (unhide HHeld)
  have bR4 := (unhide HR).keep (unhide HHeld)
  have bH4 := (unhide HH).keep (unhide HHeld)
  have hT4 := (unhide HT).later (unhide HHeld)
  have hB4 := hbw.trans ((unhide HHeld).mono hbw.size)
  have hsz3 : wD.heap.size < w3.heap.size := ((unhide HO3).lt wD.heap.size rfl).2
  have bY : Box 0 #[.slice ac x.centers.length dc, .slice (some ⟨bL, oL, none⟩) x.lists.length dl] 27 ((w3.alloc (.cells #[.slice ac x.centers.length dc, .slice (some ⟨bL, oL, none⟩) x.lists.length dl] 27)).alloc (.cells #[.slice (some ⟨wD.heap.size, 0, none⟩) x.centers.length x.centers.length] 28)) w3.heap.size := (newBox (Nat.zero_le _)).grow _
  have bP : Box 0 #[.slice (some ⟨wD.heap.size, 0, none⟩) x.centers.length x.centers.length] 28 ((w3.alloc (.cells #[.slice ac x.centers.length dc, .slice (some ⟨bL, oL, none⟩) x.lists.length dl] 27)).alloc (.cells #[.slice (some ⟨wD.heap.size, 0, none⟩) x.centers.length x.centers.length] 28)) (w3.heap.size + 1) := newBoxAt (Nat.zero_le _) (by simp)
  have hszL : ((w3.alloc (.cells #[.slice ac x.centers.length dc, .slice (some ⟨bL, oL, none⟩) x.lists.length dl] 27)).alloc (.cells #[.slice (some ⟨wD.heap.size, 0, none⟩) x.centers.length x.centers.length] 28)).heap.size = w3.heap.size + 2 := by simp
  have hwDs : w1.heap.size ≤ wD.heap.size := unhide HDS
  generalize hWL : (w3.alloc (.cells #[.slice ac x.centers.length dc, .slice (some ⟨bL, oL, none⟩) x.lists.length dl] 27)).alloc (.cells #[.slice (some ⟨wD.heap.size, 0, none⟩) x.centers.length x.centers.length] 28) = WL at *
  have hlw : w.heap.size + 1 + 1 + 1 + 1 < w1.heap.size := (unhide HH).lt
  have hw1L := (unhide HHeld).size
  have hit : ItAt WL w3.heap.size bL oL x.lists.length dl ia (fun j => (itsL x.lists j).length) ic wD.heap.size 0 (allPl x.lists.length) := by
    refine ⟨bY.at 1 _ rfl, fun j hj => (hB4.cell (p := ⟨bL, oL + j, none⟩) hbL).trans (hli j hj).1, fun i hi => ?_⟩
    rw [allPl_at, Nat.zero_add]
    rw [allPl_len] at hi
    rw [hO4.cellAt i (by have := unhide HL; omega)]
    exact plV_at (by rw [List.getElem?_range (by rw [← unhide HL]; exact hi)])
  have hbp : WL.cell? ⟨w3.heap.size + 1, 0, none⟩ = some (.slice (some ⟨wD.heap.size, 0, none⟩) (allPl x.lists.length).length x.centers.length) := by rw [allPl_len, unhide HL]; exact bP.at 0 _ rfl
  clear hO4 bY bP
  have h30 : ∀ j, (itsL x.lists j).length ≤ 30 := fun j => by
    by_cases hj : j < x.lists.length
    · rw [itsL_eq hj]; exact (tableFault_zero (unhide HTF _ (List.getElem_mem hj))).1
    · simp [itsL, List.getD, List.getElem?_eq_none (Nat.le_of_not_lt hj)]
  refine wpIn_wide.1 (wpIn_rangeFunc_ownH (F := Fence.wide) (n := 9) rfl (by decide) (gf := 122) (lb := #[.pointer (some ⟨w3.heap.size + 1, 0, none⟩), .pointer (some ⟨w3.heap.size, 0, none⟩)]) rfl trivial (enters_of Tryz.func122 (by kernel_rfl) rfl)
    (listsAt_stops 8 (w3.heap.size + 1) w3.heap.size bL oL x.lists.length dl x.centers.length ia (fun j => (itsL x.lists j).length) ic wD.heap.size 0 (allPl x.lists.length) WL.heap.size (fun b => b = (w.heap.size + 1 + 1 + 1)) (by rw [allPl_len]; omega) ⟨by omega, fun h => by omega⟩ ⟨by have := hbw.size; omega, fun h => by have := hbL; omega⟩ ⟨by omega, fun h => by omega⟩ WL (by omega) (Nat.le_refl _) hbp hit)
    KpS.trans (fun W l _ o' hl _ _ _ => KpS.put _ W l o' hl) (Below.refl _ _) (fun _ => rfl)
    (fun pre W => (WL.heap.size ≤ W.heap.size ∧ (heldP x.lists pre).length = countP x.lists pre) ∧ TabAt W (w.heap.size + 1 + 1 + 1) (countP x.lists pre) (heldP x.lists pre) ∧ (Box w.heap.size #[.map none] 94 W (w.heap.size + 1) ∧ Box w.heap.size #[.int .i64 0] 2 W (w.heap.size + 1 + 1) ∧ Box w.heap.size #[.map (some (w.heap.size + 1 + 1 + 1))] 94 W (w.heap.size + 1 + 1 + 1 + 1)) ∧ Below w.heap.size w W)
    (fun c pre W => c = .ret ∧ (∃ pre' p j, pre = pre' ++ [p] ∧ ∃ hj : j < (itsL x.lists p.1).length, hasI (gatherI (heldP x.lists pre') ((itsL x.lists p.1).take j)) (itsL x.lists p.1)[j].id = true) ∧ (Box w.heap.size #[.map none] 94 W (w.heap.size + 1) ∧ Box w.heap.size #[.int .i64 6] 2 W (w.heap.size + 1 + 1)) ∧ Below w.heap.size w W)
    (fun s A B row hs hg hr => ⟨⟨Nat.le_trans hs.1.1 hg.size, hs.1.2⟩, hs.2.1.ext (ext_of_grownBy hg) (fun e => by have := (hr _ e).1; omega), ⟨box_grown hg hr hs.2.2.1.1, box_grown hg hr hs.2.2.1.2.1, box_grown hg hr hs.2.2.1.2.2⟩, below_grown hg hr hs.2.2.2 (by omega) (Nat.le_refl _)⟩)
    (fun c s A B row hs hg hr => ⟨hs.1, hs.2.1, ⟨box_grown hg hr hs.2.2.1.1, box_grown hg hr hs.2.2.1.2⟩, below_grown hg hr hs.2.2.2 (by omega) (Nat.le_refl _)⟩)
    ⟨⟨Nat.le_refl _, by simp [heldP, countP]⟩, by rw [show countP x.lists ([] : List (Pl x.lists.length)) = 0 by simp [countP]]; exact hT4, ⟨bM4, bR4, bH4⟩, hB4⟩
    (fun y a' W => ∃ Bo, Box 0 #[.int .i64 (y.1 : Int), .slice (ia y.1) (itsL x.lists y.1).length (ic y.1)] 83 W Bo ∧ a' = { tmps := #[.agg #[.slice ac x.centers.length dc, .slice (some ⟨bL, oL, none⟩) x.lists.length dl], .pointer (some ⟨w.heap.size, 0, none⟩), .pointer (some ⟨w.heap.size + 1, 0, none⟩), .pointer (some ⟨w.heap.size + 1 + 1, 0, none⟩), .pointer (some ⟨w.heap.size + 1 + 1 + 1 + 1, 0, none⟩), .pointer (some ⟨Bo, 0, none⟩), undef, undef, undef, undef, .map (some (w.heap.size + 1 + 1 + 1)), .agg #[.slice ac x.centers.length dc, .slice (some ⟨bL, oL, none⟩) x.lists.length dl], .pointer (some ⟨w.heap.size, 0, none⟩), .slice ac x.centers.length dc, .slice (some ⟨wD.heap.size, 0, none⟩) x.centers.length x.centers.length, .func (.func 122) #[] #[.pointer (some ⟨w3.heap.size + 1, 0, none⟩), .pointer (some ⟨w3.heap.size, 0, none⟩)], .agg #[.int .i64 (y.1 : Int), .slice (ia y.1) (itsL x.lists y.1).length (ic y.1)], undef, undef, undef, undef, undef, undef, undef, undef, undef, undef, undef, undef, undef, undef, undef, undef, undef, undef, undef, undef, undef, undef, undef, undef, undef, undef, undef, undef, undef], defers := [] })
    (fun y a' _ A B row hs hg hr => by
      obtain ⟨Bo, q1, q2⟩ := hs
      exact ⟨Bo, box_grown hg hr q1, q2⟩)
    ?assign ?body ?done ?stop)
  case assign =>
    rintro l pre y W K ⟨⟨hs, hp⟩, hT1, ⟨b1, b2, b3⟩, hB1⟩ hK
    have hbn : Below W.heap.size W (W.alloc (.cells #[.int .i64 (y.1 : Int), .slice (ia y.1) (itsL x.lists y.1).length (ic y.1)] 83)) := (Below.refl _ _).alloc (Nat.le_refl _) _
    gi_wp2
    exact hK _ _ (keepsFrom_below hbn) (KpS.of_below _ hbn hs) ⟨⟨Nat.le_trans hs hbn.size, hp⟩, hT1.later hbn, ⟨b1.keep hbn, b2.keep hbn, b3.keep hbn⟩, hB1.trans (hbn.mono hB1.size)⟩ ⟨W.heap.size, newBox (Nat.zero_le _), rfl⟩
  case body =>
    rintro l pre y a' W hl ⟨r, hr⟩ ⟨⟨hs, hlen⟩, hT1, ⟨b1, b2, b3⟩, hB1⟩ ⟨Bo, bO, rfl⟩ hlt
    have o0 := bO.at 0 _ rfl
    have o1 := bO.at 1 _ rfl
    have RI := (hli y.1 y.2).2
    have hpl : pre.length ≤ 5 := by rw [allPl_len] at hlt; omega
    have hcp := countP_le h30 pre
    have hx30 := h30 y.1
    have hxf : tableFault (itsL x.lists y.1) = 0 := by rw [itsL_eq y.2]; exact unhide HTF _ (List.getElem_mem y.2)
    have hxa := (tableFault_zero hxf).2.1
    have HY : Hid (∀ j (hj : j < (itsL x.lists y.1).length), hasI (gatherI (heldP x.lists pre) ((itsL x.lists y.1).take j)) (itsL x.lists y.1)[j].id = true → ∃ pre' p j, pre ++ [y] = pre' ++ [p] ∧ ∃ hj : j < (itsL x.lists p.1).length, hasI (gatherI (heldP x.lists pre') ((itsL x.lists p.1).take j)) (itsL x.lists p.1)[j].id = true) := fun j hj hh => ⟨pre, y, j, rfl, hj, hh⟩
    have HE1 : Hid (heldP x.lists (pre ++ [y]) = gatherI (heldP x.lists pre) (itsL x.lists y.1)) := heldP_snoc _ _ _
    have HE2 : Hid (countP x.lists (pre ++ [y]) = countP x.lists pre + (itsL x.lists y.1).length) := countP_snoc _ _ _
    have hris := heldP_rising x.lists pre
    clear hit hbp hli hB4 bM4 bR4 bH4 hT4 hlt hxf
    generalize heldP x.lists pre = held at *
    generalize countP x.lists pre = cnt at *
    generalize itsL x.lists y.1 = xs at *
    generalize ia y.1 = av at *
    generalize ic y.1 = dv at *
    have HXA := hide hxa
    have HRI := hide RI
    have HT1 := hide hT1
    have HB1 := hide hB1
    have HM1 := hide b1
    have HR1 := hide b2
    have HH1 := hide b3
    have HRS := hide hris
    clear hxa RI hT1 hB1 b1 b2 b3 hris bO
    gi_wp2
    clear o0 o1
    gi_loopw [20] (fun i wr => ∃ k : Nat, k ≤ xs.length ∧ i = .int .i64 k ∧ (gatherI held (xs.take k)).length = cnt + k ∧ TabAt wr (w.heap.size + 1 + 1 + 1) (cnt + k) (gatherI held (xs.take k)) ∧ Ext (fun c => c = (w.heap.size + 1 + 1 + 1)) W wr) (fun i _ => xs.length - (intOf i).toNat)
    case atStart => exact ⟨0, Nat.zero_le _, rfl, hlen, unhide HT1, Ext.refl _ _⟩
    case round =>
      obtain ⟨k, hk, rfl, hlk, hTk, hEk⟩ := hrel
      have hsk := hEk.size
      have bHk := (unhide HH1).ext hEk (by omega)
      have bMk := (unhide HM1).ext hEk (by omega)
      have bRk := (unhide HR1).ext hEk (by omega)
      have hBk := (unhide HB1).trans (hEk.below (unhide HB1).size (fun c hc e => by omega))
      by_cases hlt : k < xs.length
      · obtain ⟨b, off, rfl, hbl⟩ := Lay.sl_addr (unhide HRI) (by omega)
        obtain ⟨row, hc, hr9⟩ := Lay.row_at (unhide HRI) hlt
        replace hr9 := hr9.later hBk
        obtain ⟨a1, d1, rfl, R1⟩ := open_Item hr9
        have c0 : wr.cell? ⟨b, off + k * 2, none⟩ = some (.int .i64 (xs[k]).id) := (hBk.cell (p := ⟨b, off + k * 2, none⟩) hbl).trans (hc 0 (by decide))
        have c1 : wr.cell? ⟨b, off + k * 2 + 1, none⟩ = some (.slice a1 (xs[k]).vec.length d1) := (hBk.cell (p := ⟨b, off + k * 2 + 1, none⟩) hbl).trans (hc 1 (by decide))
        obtain ⟨hid, hvf⟩ := unhide HXA xs[k] (List.getElem_mem hlt)
        have HTK : Hid (gatherI held (xs.take (k + 1)) = putI (gatherI held (xs.take k)) xs[k].id xs[k].vec) := gather_put hlt
        have HYk := hide (unhide HY k hlt)
        have hrk : Rising (gatherI held (xs.take k)) := gatherI_rising (unhide HRS) _
        clear hc hr9
        generalize hx : xs[k] = x5 at *
        clear hx
        generalize gatherI held (xs.take k) = gk at *
        obtain ⟨p5, q5, r5, hv3⟩ := vec3 hvf
        have nb : Below wr.heap.size wr (wr.alloc (.cells #[.int .i64 x5.id, .slice a1 x5.vec.length d1] 139)) := (Below.refl _ _).alloc (Nat.le_refl _) _
        have bI : Box wr.heap.size #[.int .i64 x5.id, .slice a1 x5.vec.length d1] 139 (wr.alloc (.cells #[.int .i64 x5.id, .slice a1 x5.vec.length d1] 139)) wr.heap.size := newBox (Nat.le_refl _)
        have I1 := (Lay.ints_reads R1).later nb
        replace I1 : IsInts (wr.alloc (.cells #[.int .i64 x5.id, .slice a1 x5.vec.length d1] 139)) (.slice a1 x5.vec.length d1) [p5, q5, r5] := by rw [← hv3]; exact I1
        rw [hv3] at hvf HTK
        replace hTk := hTk.later nb
        replace hEk := hEk.trans (ext_of_below nb _)
        replace bHk := bHk.keep nb
        replace bMk := bMk.keep nb
        replace bRk := bRk.keep nb
        replace hBk := hBk.trans (nb.mono hBk.size)
        have hwf := id_wf hid
        have hH0 := bHk.at 0 _ rfl
        have i0 := bI.at 0 _ rfl
        have HV := hide hvf
        have HW := hide hwf
        have HRK := hide hrk
        clear R1 hvf hid hv3 nb
        by_cases hh : hasI gk x5.id = true
        · obtain ⟨z, hz1, hz2⟩ := List.any_eq_true.1 hh
          obtain ⟨pp, qq, rr, -, hlook, -⟩ := hTk.look (unhide HRK) hwf hz1 (by simpa using hz2)
          unfold arr3 at hlook
          have nb7 : Below (wr.alloc (.cells #[.int .i64 x5.id, .slice a1 x5.vec.length d1] 139)).heap.size (wr.alloc (.cells #[.int .i64 x5.id, .slice a1 x5.vec.length d1] 139)) ((wr.alloc (.cells #[.int .i64 x5.id, .slice a1 x5.vec.length d1] 139)).alloc (.cells #[.int .i64 pp, .int .i64 qq, .int .i64 rr] 101)) := (Below.refl _ _).alloc (Nat.le_refl _) _
          have bM7 := bMk.keep nb7
          have bR7 := bRk.keep nb7
          have m0 := bM7.at 0 _ rfl
          have fm := bM7.soft 0
          have lm := bM7.lt
          have bR8 := bR7.other ⟨w.heap.size + 1, 0, none⟩ (.map none) (by simp)
          have r0 := bR8.at 0 _ rfl
          have fr := bR8.soft 0
          have HB7 := hide (((hBk.trans (nb7.mono hBk.size)).setCell (p := ⟨w.heap.size + 1, 0, none⟩) (by simp) (.map none)).setCell (p := ⟨w.heap.size + 1 + 1, 0, none⟩) (by simp; omega) (.int .i64 6))
          have HM7 := hide ((bM7.set 0 (.map none)).other ⟨w.heap.size + 1 + 1, 0, none⟩ (.int .i64 6) (by simp))
          have HR7 := hide (bR8.set 0 (.int .i64 6))
          have HK7 : Hid (KeepsFrom WL.heap.size W ((((wr.alloc (.cells #[.int .i64 x5.id, .slice a1 x5.vec.length d1] 139)).alloc (.cells #[.int .i64 pp, .int .i64 qq, .int .i64 rr] 101)).setCell ⟨w.heap.size + 1, 0, none⟩ (.map none)).setCell ⟨w.heap.size + 1 + 1, 0, none⟩ (.int .i64 6))) :=
            ((keepsFrom_ext (hEk.trans (ext_of_below nb7 _)) (fun c o h1 _ _ e => by omega)).trans ((KeepsOthers.setCell _ _ _).from _)).trans ((KeepsOthers.setCell _ _ _).from _)
          have HYH := hide (unhide HYk hh)
          clear nb7 bM7 bR7 bR8 bMk bRk hEk hBk I1 hTk hh bI bHk hrk hwf
          gi_wp2
          exact ⟨unhide HK7, rfl, unhide HYH, ⟨unhide HM7, unhide HR7⟩, unhide HB7⟩
        · have hh2 : hasI gk x5.id = false := by simpa using hh
          obtain ⟨pp, qq, rr, hlook⟩ := hTk.miss hwf hh2
          unfold arr3 at hlook
          have nb7 : Below (wr.alloc (.cells #[.int .i64 x5.id, .slice a1 x5.vec.length d1] 139)).heap.size (wr.alloc (.cells #[.int .i64 x5.id, .slice a1 x5.vec.length d1] 139)) ((wr.alloc (.cells #[.int .i64 x5.id, .slice a1 x5.vec.length d1] 139)).alloc (.cells #[.int .i64 pp, .int .i64 qq, .int .i64 rr] 101)) := (Below.refl _ _).alloc (Nat.le_refl _) _
          replace hTk := hTk.later nb7
          replace hEk := hEk.trans (ext_of_below nb7 _)
          replace bHk := bHk.keep nb7
          replace bI := bI.keep nb7
          replace I1 := I1.later nb7
          have HNF := hide hh2
          have HEK := hide hEk
          have HBI := hide bI
          have HBH := hide bHk
          have HTK2 := hide hTk
          have HI2 := hide I1
          clear nb7 bMk bRk hEk hBk I1 hTk hh hh2 bI bHk hrk hwf
          gi_wp2
          clear c0 c1 hlook hH0 i0
          generalize hW0 : (wr.alloc (.cells #[.int .i64 x5.id, .slice a1 x5.vec.length d1] 139)).alloc (.cells #[.int .i64 pp, .int .i64 qq, .int .i64 rr] 101) = W0 at *
          clear hW0
          have hI0 : wr.heap.size < W0.heap.size := (unhide HBI).lt
          have hDT : TabAt W0.drew (w.heap.size + 1 + 1 + 1) (cnt + k) gk := unhide HTK2
          have hDI : IsInts W0.drew (.slice a1 x5.vec.length d1) [p5, q5, r5] := unhide HI2
          refine wpIn_region_np (S := fun w' => Ext (fun c => c = (w.heap.size + 1 + 1 + 1)) W0 w') (by kernel_rfl) (by kernel_rfl) (Ext.refl _ _).drew1 (fun hHeld => ?_)
          generalize W0.drew = wD at hHeld hDT hDI ⊢
          refine wpAnyH_take (i := 0) (oi := { dst := some 33, op := Go.Op.load 94 (Go.Operand.tmp 4), type := 94, pos := "l07_ivf.go:110", after := #[], guard := none }) (v := ?vg0) rfl (by kernel_rfl) (by kernel_rfl) (by kernel_rfl) (fun _ _ _ h => h) (Or.inl ⟨by rfl, ?hg0⟩) hHeld ?rg0
          case hg0 =>
            intro wS hSw
            have y0 := ((unhide HBH).ext hSw (by omega)).at 0 _ rfl
            clear hSw
            (try dsimp only at hSw)
            go_simp
            try with_reducible rfl
          case rg0 =>
          simp only [Act.put, List.setIfInBounds_toArray, List.set_cons_zero, List.set_cons_succ]
          refine wpAnyH_take (i := 1) (oi := { dst := some 34, op := Go.Op.fieldAddr 139 (Go.Operand.tmp 7) 0, type := 0, pos := "l07_ivf.go:110", after := #[], guard := none }) (v := ?vg1) rfl (by kernel_rfl) (by kernel_rfl) (by kernel_rfl) (fun _ _ _ h => h) (Or.inl ⟨by rfl, ?hg1⟩) hHeld ?rg1
          case hg1 =>
            intro wS hSw
            (try dsimp only at hSw)
            go_simp
            try with_reducible rfl
          case rg1 =>
          simp only [Act.put, List.setIfInBounds_toArray, List.set_cons_zero, List.set_cons_succ]
          refine wpAnyH_take (i := 2) (oi := { dst := some 35, op := Go.Op.load 2 (Go.Operand.tmp 34), type := 2, pos := "l07_ivf.go:110", after := #[{ on := 1, ground := Go.Ground.data }], guard := none }) (v := ?vg2) rfl (by kernel_rfl) (by kernel_rfl) (by kernel_rfl) (fun _ _ _ h => h) (Or.inl ⟨by rfl, ?hg2⟩) hHeld ?rg2
          case hg2 =>
            intro wS hSw
            have y0 := ((unhide HBI).ext hSw (by omega)).at 0 _ rfl
            have y1 := ((unhide HBI).ext hSw (by omega)).at 1 _ rfl
            clear hSw
            (try dsimp only at hSw)
            go_simp
            try with_reducible rfl
          case rg2 =>
          simp only [Act.put, List.setIfInBounds_toArray, List.set_cons_zero, List.set_cons_succ]
          refine wpAnyH_take (i := 3) (oi := { dst := some 36, op := Go.Op.fieldAddr 139 (Go.Operand.tmp 7) 1, type := 0, pos := "l07_ivf.go:110", after := #[], guard := none }) (v := ?vg3) rfl (by kernel_rfl) (by kernel_rfl) (by kernel_rfl) (fun _ _ _ h => h) (Or.inl ⟨by rfl, ?hg3⟩) hHeld ?rg3
          case hg3 =>
            intro wS hSw
            (try dsimp only at hSw)
            go_simp
            try with_reducible rfl
          case rg3 =>
          simp only [Act.put, List.setIfInBounds_toArray, List.set_cons_zero, List.set_cons_succ]
          refine wpAnyH_take (i := 4) (oi := { dst := some 37, op := Go.Op.load 28 (Go.Operand.tmp 36), type := 28, pos := "l07_ivf.go:110", after := #[{ on := 3, ground := Go.Ground.data }], guard := none }) (v := ?vg4) rfl (by kernel_rfl) (by kernel_rfl) (by kernel_rfl) (fun _ _ _ h => h) (Or.inl ⟨by rfl, ?hg4⟩) hHeld ?rg4
          case hg4 =>
            intro wS hSw
            have y0 := ((unhide HBI).ext hSw (by omega)).at 0 _ rfl
            have y1 := ((unhide HBI).ext hSw (by omega)).at 1 _ rfl
            clear hSw
            (try dsimp only at hSw)
            go_simp
            try with_reducible rfl
          case rg4 =>
          simp only [Act.put, List.setIfInBounds_toArray, List.set_cons_zero, List.set_cons_succ]
          refine wpAnyH_ready (rs := [5]) (by kernel_rfl) (by simp) ?_
          refine AllReadyH.cons (o := { dst := some 38, op := Go.Op.call { callee := Go.Callee.value (Go.Operand.func 69), args := #[Go.Operand.tmp 37], argTypes := #[28] }, type := 116, pos := "l07_ivf.go:110", after := #[{ on := 4, ground := Go.Ground.data }], guard := none }) rfl (fun K hK => ?_) AllReadyH.nil
          go_simp
          go_at_call 69
          refine (vectorOf_ok _ p5 q5 r5 _ hDI (unhide HV)).mono ?_
          rintro e w3 ⟨rfl, hbw3⟩
          try go_wp2_with fail
          refine hK.out _ _ (hHeld.trans (ext_of_below hbw3 _)) (fun hHeld => ?_)
          clear hK K
          try simp only [Act.put, List.setIfInBounds_toArray, List.set_cons_zero, List.set_cons_succ]
          refine wpAnyH_take (i := 6) (oi := { dst := some 32, op := Go.Op.move (Go.Operand.tmp 38), type := 116, pos := "l07_ivf.go:110", after := #[{ on := 5, ground := Go.Ground.data }], guard := none }) (v := ?vg6) rfl (by kernel_rfl) (by kernel_rfl) (by kernel_rfl) (fun _ _ _ h => h) (Or.inl ⟨by rfl, ?hg6⟩) hHeld ?rg6
          case hg6 =>
            intro wS hSw
            (try dsimp only at hSw)
            go_simp
            try with_reducible rfl
          case rg6 =>
          simp only [Act.put, List.setIfInBounds_toArray, List.set_cons_zero, List.set_cons_succ]
          refine wpAnyH_take (i := 7) (oi := { dst := some 39, op := Go.Op.extract (Go.Operand.tmp 32) 0, type := 101, pos := "l07_ivf.go:110", after := #[{ on := 6, ground := Go.Ground.data }], guard := none }) (v := ?vg7) rfl (by kernel_rfl) (by kernel_rfl) (by kernel_rfl) (fun _ _ _ h => h) (Or.inl ⟨by rfl, ?hg7⟩) hHeld ?rg7
          case hg7 =>
            intro wS hSw
            (try dsimp only at hSw)
            go_simp
            try with_reducible rfl
          case rg7 =>
          simp only [Act.put, List.setIfInBounds_toArray, List.set_cons_zero, List.set_cons_succ]
          refine wpAnyH_take (i := 8) (oi := { dst := some 40, op := Go.Op.extract (Go.Operand.tmp 32) 1, type := 2, pos := "l07_ivf.go:110", after := #[{ on := 6, ground := Go.Ground.data }, { on := 9, ground := Go.Ground.gcOnly Go.Departure.lateStores }], guard := none }) (v := ?vg8) rfl (by kernel_rfl) (by kernel_rfl) (by kernel_rfl) (fun _ _ _ h => h) (Or.inl ⟨by rfl, ?hg8⟩) hHeld ?rg8
          case hg8 =>
            intro wS hSw
            (try dsimp only at hSw)
            go_simp
            try with_reducible rfl
          case rg8 =>
          simp only [Act.put, List.setIfInBounds_toArray, List.set_cons_zero, List.set_cons_succ]
          refine wpAnyH_ready (rs := [9]) (by kernel_rfl) (by simp) ?_
          refine AllReadyH.cons (o := { dst := none, op := Go.Op.mapUpdate 94 (Go.Operand.tmp 33) (Go.Operand.tmp 35) (Go.Operand.tmp 39), type := 0, pos := "l07_ivf.go:110", after := #[{ on := 0, ground := Go.Ground.data }, { on := 2, ground := Go.Ground.data }, { on := 7, ground := Go.Ground.data }, { on := 5, ground := Go.Ground.chain }, { on := 0, ground := Go.Ground.phase }, { on := 1, ground := Go.Ground.phase }, { on := 2, ground := Go.Ground.phase }, { on := 3, ground := Go.Ground.phase }, { on := 4, ground := Go.Ground.phase }, { on := 5, ground := Go.Ground.phase }, { on := 6, ground := Go.Ground.phase }, { on := 7, ground := Go.Ground.phase }, { on := 8, ground := Go.Ground.textOnly Go.Departure.lateStores }], guard := none }) rfl (fun K hK => ?_) AllReadyH.nil
          obtain ⟨w5, hrun, hT5, hE5⟩ := (hDT.later hbw3).put (by omega) (unhide HW) p5 q5 r5
          go_simp
          try simp only [hrun]
          try go_simp
          refine hK.out _ _ (hHeld.trans hE5) (fun hHeld => ?_)
          clear hK K
          try simp only [Act.put, List.setIfInBounds_toArray, List.set_cons_zero, List.set_cons_succ]
          refine wpAnyH_done (by kernel_rfl) ?_ _
          refine OnlyN.normal ?_
          have HT5 := hide hT5
          have HE5 := hide ((unhide HEK).trans hHeld)
          clear hHeld hT5 hDT hDI
          gi_wp2
          go_roundw
          case rel =>
            refine ⟨k + 1, by omega, by go_num, ?_, by rw [unhide HTK]; exact unhide HT5, unhide HE5⟩
            rw [unhide HTK, putI_len (unhide HRK), unhide HNF]
            simp
            omega
          case measure => simp [intOf]; omega
      · obtain rfl : k = xs.length := by omega
        rw [List.take_length] at hlk hTk
        have HK7 : Hid (KeepsFrom WL.heap.size W wr) := keepsFrom_ext hEk (fun c o h1 _ _ e => by omega)
        have HP7 : Hid (KpS WL.heap.size (fun b => b = (w.heap.size + 1 + 1 + 1)) W wr) := KpS.of_ext hEk hs (fun _ _ e => e)
        have H7 := hide hTk
        have H8 := hide bMk
        have H9 := hide bRk
        have H10 := hide bHk
        have H11 := hide hBk
        clear hTk bMk bRk bHk hBk hEk
        gi_wp2
        refine ⟨unhide HK7, unhide HP7, ⟨by omega, ?_⟩, ?_, ⟨unhide H8, unhide H9, unhide H10⟩, unhide H11⟩
        · rw [unhide HE1, unhide HE2]; exact hlk
        · rw [unhide HE1, unhide HE2]; exact unhide H7
  case done =>
    rintro D zs W hD rfl ⟨⟨hs, hlen⟩, hT1, ⟨b1, b2, b3⟩, hB1⟩ hK
    obtain ⟨e1, e2⟩ := held_all x.lists
    have hcb := countP_le h30 (allPl x.lists.length)
    rw [allPl_len] at hcb
    rw [e1, e2] at hlen hT1
    rw [e2] at hcb
    clear e1 e2
    have h30' : countIs x.lists ≤ 200 := by omega
    have hln := fun ty => hT1.len ty
    have H0 := b3.at 0 _ rfl
    have m0 := b1.at 0 _ rfl
    have fm := b1.soft 0
    have lm := b1.lt
    have hszW := hB1.size
    have hMD : w.heap.size + 1 + 1 + 1 < D := by omega
    by_cases hc : countIs x.lists ≤ 30
    · have hd : decide ((30 : Int) < ((allIs x.lists).length : Int)) = false := by rw [decide_eq_false_iff_not]; omega
      have hcode : codeL x = 0 := by rw [codeL, if_pos hlen, if_pos hc]
      have bR8 := b2.other ⟨w.heap.size + 1, 0, none⟩ (.map (some (w.heap.size + 1 + 1 + 1))) (by simp)
      have r0 := bR8.at 0 _ rfl
      have fr := bR8.soft 0
      have HM7 := hide ((b1.set 0 (.map (some (w.heap.size + 1 + 1 + 1)))).other ⟨w.heap.size + 1 + 1, 0, none⟩ (.int .i64 0) (by simp))
      have HR7 := hide (bR8.set 0 (.int .i64 0))
      have HB7 := hide ((hB1.setCell (p := ⟨w.heap.size + 1, 0, none⟩) (by simp) (.map (some (w.heap.size + 1 + 1 + 1)))).setCell (p := ⟨w.heap.size + 1 + 1, 0, none⟩) (by simp; omega) (.int .i64 0))
      have HT7 := hide (hT1.ext (((Ext.refl (fun c => c = w.heap.size + 1 ∨ c = w.heap.size + 1 + 1) W).setCell ⟨w.heap.size + 1, 0, none⟩ (.map (some (w.heap.size + 1 + 1 + 1))) (Or.inl rfl)).setCell ⟨w.heap.size + 1 + 1, 0, none⟩ (.int .i64 0) (Or.inr rfl)) (by omega))
      have HK7 := hide ((KeepsOthers.setCell (W.setCell ⟨w.heap.size + 1, 0, none⟩ (.map (some (w.heap.size + 1 + 1 + 1)))) ⟨w.heap.size + 1 + 1, 0, none⟩ (.int .i64 0)).same D _ ((KeepsOthers.setCell W ⟨w.heap.size + 1, 0, none⟩ (.map (some (w.heap.size + 1 + 1 + 1)))).same D _ hK rfl) rfl)
      have HC := hide hcode
      clear bR8 b1 b2 b3 hB1 hT1 hK hcode hc hlen hcb hit hbp hli h30
      go_wp2_with fail
      refine ⟨by simp, .inl ⟨_, _, rfl, run_takeDeferred (unhide HK7), ?_⟩⟩
      have hc5 := cell_kept ((unhide HM7).at 0 _ rfl) (grownBy_putObj' _ D (.deferred none)) (fun r e => by cases e; exact ⟨_, unhide HK7, rfl⟩)
      have hc6 := cell_kept ((unhide HR7).at 0 _ rfl) (grownBy_putObj' _ D (.deferred none)) (fun r e => by cases e; exact ⟨_, unhide HK7, rfl⟩)
      refine ⟨.tuple #[.map (some (w.heap.size + 1 + 1 + 1)), .int .i64 0], by simp [results, Tryz.results99, go_sem, hc5, hc6], ⟨_, by rw [unhide HC], fun h => absurd (unhide HC) h, fun _ => ⟨_, rfl, by omega, ?_⟩⟩, ?_⟩
      · exact ((unhide HT7).ext (ext_of_grownBy (grownBy_putObj' _ D (.deferred none))) (fun e => by have := Option.some.inj e; omega)).mono h30'
      · exact (unhide HB7).grown (grownBy_putObj' _ D (.deferred none)) (by simp; omega) (fun k e => by cases e; omega)
    · have hd : decide ((30 : Int) < ((allIs x.lists).length : Int)) = true := by rw [decide_eq_true_iff]; omega
      have hcode : codeL x = 2 := by rw [codeL, if_pos hlen, if_neg hc]
      have bR8 := b2.other ⟨w.heap.size + 1, 0, none⟩ (.map none) (by simp)
      have r0 := bR8.at 0 _ rfl
      have fr := bR8.soft 0
      have HM7 := hide ((b1.set 0 (.map none)).other ⟨w.heap.size + 1 + 1, 0, none⟩ (.int .i64 2) (by simp))
      have HR7 := hide (bR8.set 0 (.int .i64 2))
      have HB7 := hide ((hB1.setCell (p := ⟨w.heap.size + 1, 0, none⟩) (by simp) (.map none)).setCell (p := ⟨w.heap.size + 1 + 1, 0, none⟩) (by simp; omega) (.int .i64 2))
      have HK7 := hide ((KeepsOthers.setCell (W.setCell ⟨w.heap.size + 1, 0, none⟩ (.map none)) ⟨w.heap.size + 1 + 1, 0, none⟩ (.int .i64 2)).same D _ ((KeepsOthers.setCell W ⟨w.heap.size + 1, 0, none⟩ (.map none)).same D _ hK rfl) rfl)
      have HC := hide hcode
      clear bR8 b1 b2 b3 hB1 hT1 hK hcode hc hlen hcb hit hbp hli h30
      go_wp2_with fail
      refine ⟨by simp, .inl ⟨_, _, rfl, run_takeDeferred (unhide HK7), ?_⟩⟩
      have hc5 := cell_kept ((unhide HM7).at 0 _ rfl) (grownBy_putObj' _ D (.deferred none)) (fun r e => by cases e; exact ⟨_, unhide HK7, rfl⟩)
      have hc6 := cell_kept ((unhide HR7).at 0 _ rfl) (grownBy_putObj' _ D (.deferred none)) (fun r e => by cases e; exact ⟨_, unhide HK7, rfl⟩)
      refine ⟨.tuple #[.map none, .int .i64 2], by simp [results, Tryz.results99, go_sem, hc5, hc6], ⟨_, by rw [unhide HC], fun _ => rfl, fun h => ?_⟩, ?_⟩
      · rw [unhide HC] at h; cases h
      · exact (unhide HB7).grown (grownBy_putObj' _ D (.deferred none)) (by simp; omega) (fun k e => by cases e; omega)
  case stop =>
    rintro D c pre W hD hpre ⟨rfl, ⟨pre', p, j, rfl, hj, hh⟩, ⟨q1, q2⟩, q4⟩ hK
    have hcode := held_taken hpre hj hh
    have HR5 := hide q2
    have HM5 := hide q1
    have HB5 := hide q4
    have HK := hide hK
    have HC := hide hcode
    clear q1 q2 q4 hK hit hbp hli hcode hh
    gi_wp2
    refine ⟨by simp, .inl ⟨_, _, rfl, run_takeDeferred (unhide HK), ?_⟩⟩
    have hc5 := cell_kept ((unhide HM5).at 0 _ rfl) (grownBy_putObj' _ D (.deferred none)) (fun r e => by cases e; exact ⟨_, unhide HK, rfl⟩)
    have hc6 := cell_kept ((unhide HR5).at 0 _ rfl) (grownBy_putObj' _ D (.deferred none)) (fun r e => by cases e; exact ⟨_, unhide HK, rfl⟩)
    refine ⟨.tuple #[.map none, .int .i64 6], by simp [results, Tryz.results99, go_sem, hc5, hc6], ⟨.map none, by rw [unhide HC], fun _ => rfl, fun h => ?_⟩, ?_⟩
    · rw [unhide HC] at h; cases h
    · exact (unhide HB5).grown (grownBy_putObj' _ D (.deferred none)) (by have := (unhide HB5).size; omega) (fun k e => by cases e; omega)

end Go.Proofs.YtggnnbdjihihiaaGreat

namespace Go.Proofs.YtggnnbdjihihiaaGreat
open Go.RowKit

theorem ivfFault_form (x : DIvf) : ivfFault x = if formF x = 0 then codeL x else formF x := by
  unfold ivfFault formF codeL
  by_cases h1 : centersFault x.centers = 0
  · simp only [if_pos h1]
    by_cases h2 : x.lists.length = x.centers.length
    · simp only [if_pos h2]
    · simp only [if_neg h2]
      rw [if_neg (by decide)]
  · simp only [if_neg h1]
theorem form_zero {x : DIvf} (h : formF x = 0) : centersFault x.centers = 0 ∧ x.lists.length = x.centers.length ∧ ∀ l ∈ x.lists, tableFault l.items = 0 := by
  unfold formF at h
  by_cases h1 : centersFault x.centers = 0
  · rw [if_pos h1] at h
    by_cases h2 : x.lists.length = x.centers.length
    · rw [if_pos h2] at h
      exact ⟨h1, h2, list_facts h⟩
    · rw [if_neg h2] at h; cases h
  · rw [if_neg h1] at h; exact absurd h h1

set_option maxRecDepth 10000 in
set_option maxHeartbeats 1000000 in
theorem implTIvf (x : DIvf) (ac : Option Addr) (dc : Nat) (al : Option Addr) (dl : Nat) (w : World) (h1 : (Lay.sl Lay.tCenter).Reads w [.slice ac x.centers.length dc] x.centers) (h2 : (Lay.sl Lay.tIvfList).Reads w [.slice al x.lists.length dl] x.lists) :
    Calls Tryz.prog 51 #[.agg #[.slice ac x.centers.length dc, .slice al x.lists.length dl]] w fun e w' => (∃ mv, e = .returned (.tuple #[mv, .int .i64 (ivfFault x)]) ∧ (ivfFault x ≠ 0 → mv = .map none) ∧ (ivfFault x = 0 → ∃ b, mv = .map (some b) ∧ w.heap.size ≤ b ∧ TabAt w' b 200 (allIs x.lists))) ∧ Below w.heap.size w w' := by
  have nb : Below w.heap.size w (w.alloc (.cells #[.slice ac x.centers.length dc, .slice al x.lists.length dl] 27)) := (Below.refl _ _).alloc (Nat.le_refl _) _
  have bX : Box w.heap.size #[.slice ac x.centers.length dc, .slice al x.lists.length dl] 27 (w.alloc (.cells #[.slice ac x.centers.length dc, .slice al x.lists.length dl] 27)) w.heap.size := newBox (Nat.le_refl _)
  have L := implForm x ac dc al dl _ (h1.later nb) (h2.later nb)
  have hfi := ivfFault_form x
  generalize hF0 : ivfFault x = F0 at *
  have HF0 := hide hfi
  have c0 := bX.at 0 _ rfl
  have c1 := bX.at 1 _ rfl
  clear hfi
  go_enter Tryz.func51, Tryz.ntmps51
  go_wp2_with fail
  generalize w.alloc (.cells #[.slice ac x.centers.length dc, .slice al x.lists.length dl] 27) = W0 at *
  refine L.mono ?_
  rintro e w1 ⟨rfl, hb⟩
  replace bX := bX.keep hb
  replace nb := nb.trans (hb.mono nb.size)
  clear hb L c0 c1
  by_cases hf : formF x = 0
  · obtain ⟨q1, q2, q3⟩ := form_zero hf
    have L2 := hide (implTLists x ac dc al dl w1 (h1.later nb) (h2.later nb) q1 q2 q3)
    have hF : Hid (F0 = codeL x) := by show F0 = _; rw [unhide HF0, if_pos hf]
    rw [hf]
    have c0 := bX.at 0 _ rfl
    have c1 := bX.at 1 _ rfl
    have HB := hide nb
    clear q1 q2 q3 hf bX nb h1 h2 hF0
    go_wp2_with fail
    refine (unhide L2).mono ?_
    rintro e w2 ⟨⟨mv, rfl, m1, m2⟩, hb2⟩
    have HM1 := hide m1
    have HM2 := hide m2
    have HB2 := hide ((unhide HB).trans (hb2.mono (unhide HB).size))
    clear m1 m2 hb2 L2 c0 c1
    go_wp2_with fail
    refine bodyPost_ret (v := .tuple #[mv, .int .i64 (codeL x)]) (by simp [results, Tryz.results51, go_sem]) rfl ?_
    rw [unhide hF]
    refine ⟨⟨mv, rfl, unhide HM1, fun h => ?_⟩, unhide HB2⟩
    obtain ⟨b, e1, e2, e3⟩ := unhide HM2 h
    exact ⟨b, e1, Nat.le_trans (unhide HB).size e2, e3⟩
  · have hd : (formF x != 0) = true := by simpa using hf
    have hF : Hid (F0 = formF x) := by show F0 = _; rw [unhide HF0, if_neg hf]
    have HB := hide nb
    have HN := hide hf
    clear hf bX nb h1 h2 hF0
    go_wp2_with fail
    refine bodyPost_ret (v := .tuple #[.map none, .int .i64 (formF x)]) (by simp [results, Tryz.results51, go_sem]) rfl ?_
    rw [unhide hF]
    exact ⟨⟨_, rfl, fun _ => rfl, fun h => absurd h (unhide HN)⟩, unhide HB⟩

set_option maxRecDepth 10000 in
set_option maxHeartbeats 1000000 in
theorem implIvfF (cs : List Value) (x : DIvf) (w : World) (h : Lay.tIvf.Reads w cs x) :
    Calls Tryz.prog 86 #[.agg cs.toArray] w fun e w' => e = .returned (.int .i64 (ivfFault x)) ∧ Below w.heap.size w w' := by
  obtain ⟨ac, dc, al, dl, rfl, R0, R1⟩ := open_Ivf h
  have nb : Below w.heap.size w (w.alloc (.cells #[.slice ac x.centers.length dc, .slice al x.lists.length dl] 27)) := (Below.refl _ _).alloc (Nat.le_refl _) _
  have bx : Box w.heap.size #[.slice ac x.centers.length dc, .slice al x.lists.length dl] 27 (w.alloc (.cells #[.slice ac x.centers.length dc, .slice al x.lists.length dl] 27)) w.heap.size := newBox (Nat.le_refl _)
  have L := hide (implTIvf x ac dc al dl _ (R0.later nb) (R1.later nb))
  have HB := hide nb
  have c0 := bx.at 0 _ rfl
  have c1 := bx.at 1 _ rfl
  clear h R0 R1 nb bx
  go_enter Tryz.func86, Tryz.ntmps86
  go_wp2_with fail
  refine (unhide L).mono ?_
  rintro e w1 ⟨⟨mv, rfl, -, -⟩, hb⟩
  replace HB := hide ((unhide HB).trans (hb.mono (unhide HB).size))
  clear hb L c0 c1
  go_wp2_with fail
  go_ret
  exact ⟨rfl, unhide HB⟩

end Go.Proofs.YtggnnbdjihihiaaGreat

namespace Go.Proofs.YtggnnbdjihihiaaGreat
open Go.RowKit

theorem cellsP_at {m : Nat} (ia : Nat → Option Addr) (il ic : Nat → Nat) (zs : List (Pl m)) (k : Nat) (h : k < zs.length) : (cellsP ia il ic zs)[k * 2]? = some (.int .i64 (zs[k].1 : Int)) ∧ (cellsP ia il ic zs)[k * 2 + 1]? = some (.slice (ia zs[k].1) (il zs[k].1) (ic zs[k].1)) := by
  induction zs generalizing k with
  | nil => simp at h
  | cons z zs ih =>
    have e : cellsP ia il ic (z :: zs) = .int .i64 (z.1 : Int) :: .slice (ia z.1) (il z.1) (ic z.1) :: cellsP ia il ic zs := by simp [cellsP]
    rw [e]
    match k with
    | 0 => exact ⟨rfl, rfl⟩
    | k + 1 =>
      have := ih k (by simpa using h)
      have e1 : (k + 1) * 2 = k * 2 + 1 + 1 := by omega
      rw [e1]
      simpa using this

set_option maxRecDepth 10000 in
theorem countC7 (n : Int) (w : World) : Calls Tryz.prog 40 #[.int .i64 n] w fun e w' => e = .returned (.bool (nB n)) ∧ w' = w := by
  unfold nB
  by_cases h1 : 0 ≤ n
  · have d1 : decide (0 ≤ n) = true := by simpa using h1
    rw [d1]
    cases d2 : decide (n ≤ 6) <;>
    · go_enter Tryz.func40, Tryz.ntmps40
      go_wp2_with fail
      go_ret
      exact ⟨rfl, rfl⟩
  · have d1 : decide (0 ≤ n) = false := by simpa using h1
    rw [d1]
    go_enter Tryz.func40, Tryz.ntmps40
    go_wp2_with fail
    go_ret
    exact ⟨rfl, rfl⟩

theorem read_ivf {w : World} {x : DIvf} {a1 : Option Addr} {d1 : Nat} {a2 : Option Addr} {d2 : Nat} (h1 : (Lay.sl Lay.tCenter).Reads w [.slice a1 x.centers.length d1] x.centers) (h2 : (Lay.sl Lay.tIvfList).Reads w [.slice a2 x.lists.length d2] x.lists) : Lay.tIvf.Reads w [.slice a1 x.centers.length d1, .slice a2 x.lists.length d2] x := by
  obtain ⟨b1, l1⟩ := h1
  obtain ⟨b2, l2⟩ := h2
  exact ⟨b1 ++ b2, [.slice a1 x.centers.length d1], [.slice a2 x.lists.length d2], b1, b2, rfl, rfl, l1, l2⟩
/-- A halt of the walk at an append. -/
theorem haltAppend {P : Program} {ops : Array Oper} {Q : Exit → Act → World → Prop} {rest : List Oper} {o : Oper} {a : Act} {w : World} (s x : Operand) (t : Array TypeId) (_ : o.op = .call { callee := .builtin .append, args := #[s, x], argTypes := t }) (h : Unit → wpList P ops Q (o :: rest) a w) : wpList P ops Q (o :: rest) a w := h ()
def probeF (x : DIvf) (q : List Int) : Int := if ivfFault x = 0 then vecFault q else ivfFault x
theorem probeF_wf (x : DIvf) (q : List Int) : (Lit.int .i64 (probeF x q)).wf = true := by
  have h1 := ivfFault_bd x
  have h2 := vecFault_bd q
  refine wf_of_bd ?_
  unfold probeF
  split <;> omega

set_option maxRecDepth 10000 in
set_option maxHeartbeats 1000000 in
theorem probeFC (x : DIvf) (q : List Int) (ac : Option Addr) (dc : Nat) (al : Option Addr) (dl : Nat) (aq : Option Addr) (dq : Nat) (w : World) (h1 : (Lay.sl Lay.tCenter).Reads w [.slice ac x.centers.length dc] x.centers) (h2 : (Lay.sl Lay.tIvfList).Reads w [.slice al x.lists.length dl] x.lists) (h3 : (Lay.sl Lay.int).Reads w [.slice aq q.length dq] q) :
    Calls Tryz.prog 38 #[.agg #[.slice ac x.centers.length dc, .slice al x.lists.length dl], .slice aq q.length dq] w fun e w' => e = .returned (.int .i64 (probeF x q)) ∧ Below w.heap.size w w' := by
  have nb : Below w.heap.size w (w.alloc (.cells #[.slice ac x.centers.length dc, .slice al x.lists.length dl] 27)) := (Below.refl _ _).alloc (Nat.le_refl _) _
  have bX : Box w.heap.size #[.slice ac x.centers.length dc, .slice al x.lists.length dl] 27 (w.alloc (.cells #[.slice ac x.centers.length dc, .slice al x.lists.length dl] 27)) w.heap.size := newBox (Nat.le_refl _)
  have L := implIvfF [.slice ac x.centers.length dc, .slice al x.lists.length dl] x (w.alloc (.cells #[.slice ac x.centers.length dc, .slice al x.lists.length dl] 27)) (read_ivf (h1.later nb) (h2.later nb))
  generalize hF0 : probeF x q = F0
  have HF0 := hide hF0
  have c0 := bX.at 0 _ rfl
  have c1 := bX.at 1 _ rfl
  have HQ := hide (h3.later nb)
  clear hF0 h1 h2 h3 bX
  go_enter Tryz.func38, Tryz.ntmps38
  go_wp2_with fail
  generalize w.alloc (.cells #[.slice ac x.centers.length dc, .slice al x.lists.length dl] 27) = W0 at *
  refine L.mono ?_
  rintro e w1 ⟨rfl, hb⟩
  have HB := hide (nb.trans (hb.mono nb.size))
  have I1 := Lay.ints_reads ((unhide HQ).later hb)
  clear hb L nb c0 c1
  by_cases hf : ivfFault x = 0
  · have hF : Hid (F0 = vecFault q) := by show F0 = _; rw [← unhide HF0, probeF, if_pos hf]
    rw [hf]
    have LV := hide (implFault _ q w1 I1)
    clear hf I1
    go_wp2_with fail
    refine (unhide LV).mono ?_
    rintro e w2 ⟨rfl, rfl⟩
    go_wp2_with fail
    go_ret
    exact ⟨by rw [unhide hF]; rfl, unhide HB⟩
  · have hd : (ivfFault x != 0) = true := by simpa using hf
    have hF : Hid (F0 = ivfFault x) := by show F0 = _; rw [← unhide HF0, probeF, if_neg hf]
    clear hf I1
    go_wp2_with fail
    go_ret
    exact ⟨by rw [unhide hF]; rfl, unhide HB⟩

end Go.Proofs.YtggnnbdjihihiaaGreat

namespace Go.Proofs.YtggnnbdjihihiaaGreat
open Go.RowKit

theorem infoAppHit : (Tryz.prog.info? 44).map (fun i => (i.zero, i.size, i.bytes)) = some (some (.agg #[.int .i64 0, .int .i64 0]), 2, 16) := by kernel_rfl
theorem one_Hit {w : World} {row : List Value} {x : DHit} {bl : List Nat} (h : Lay.tHit.lies w row x bl) : (∀ u ∈ row, u.oneCell' = true) ∧ row.length = 1 * 2 := by
  obtain ⟨rfl, -⟩ := lies_Hit.1 h
  simp [Value.oneCell']

/-- At an operation of a plain region: the new one lies in a block of its own. -/
theorem wpList_append_Hit {w1 : World} {base : Nat} {v : Value} {rows : List (List Value)} {xs : List DHit} {bls : List (List Nat)} (hG : Grow Lay.tHit w1 base 44 v rows xs bls) {row : List Value} {x : DHit} {bl : List Nat} (hl : Lay.tHit.lies w1 row x bl) (hbl : ∀ b ∈ bl, v.ownBlock ≠ some b) {ops : Array Oper} {rest : List Oper} {o : Oper} {a : Act} {Q : Exit → Act → World → Prop} (hgd : o.guard = none) (s y : Operand)
    (ho : o.op = .call { callee := .builtin .append, args := #[s, y], argTypes := #[31, 31] }) (hs : a.eval s = v) (hy : a.eval y = .slice (some ⟨w1.heap.size, 0, none⟩) 1 1) (hn : xs.length + 1 ≤ 100000000) (hbase : base ≤ w1.heap.size)
    (h : ∀ g cap w', Grow Lay.tHit w' base 44 (.slice (some ⟨g, 0, none⟩) (xs.length + 1) cap) (rows ++ [row]) (xs ++ [x]) (bls ++ [bl]) → Below base w1 w' → Ext (fun q => v.ownBlock = some q) w1 w' → g < w'.heap.size → w1.heap.size ≤ w'.heap.size → (v.ownBlock = some g ∨ w1.heap.size ≤ g) → wpList Tryz.prog ops Q rest (a.put o.dst (.slice (some ⟨g, 0, none⟩) (xs.length + 1) cap)) w') :
    wpList Tryz.prog ops Q (o :: rest) a (w1.alloc (.cells row.toArray 44)) := by
  obtain ⟨i0, hi0, hz0, hz1, hz2⟩ := info_parts infoAppHit
  obtain ⟨h1, hlen⟩ := one_Hit hl
  refine wpList_append_lies _ hgd s y 31 ho base 44 i0 _ 2 16 Tryz.underlying31 hi0 hz0 hz1 hz2 rfl (by omega) v xs.length rows.flatten hs (hG.own.alloc _) ⟨w1.heap.size, 0, none⟩ 1 1 row hy hlen (World.news_of_block (cs := row.toArray) (t := 44) (fr := (0, 0)) (heap_alloc_new w1 _)) h1 (by omega) (by unfold maxLen; omega) (by omega) (by simp; omega) (w1.alloc (.cells row.toArray 44)).heap.size rfl ?_
  intro g cap w' h2 h3 h4 h5
  have hg := grown_alloc h3
  have hbw : Below base w1 w' := (Below.refl _ _).grown hg hbase (fun j hj => (hG.own.lt j hj).1)
  have hor : v.ownBlock = some g ∨ w1.heap.size ≤ g := by
    rcases h4 with h4 | h4
    · exact Or.inl h4
    · exact Or.inr (by rw [h4]; simp)
  exact h g cap w' (hG.snoc hl hbl h2 hg hor) hbw ⟨hbw.os, hbw.tape, hbw.output, hbw.size, fun k hk hn => hg.block k hk (fun e => hn e.symm)⟩ h5 hbw.size hor

/-- At a step of a region that draws its order. -/
theorem step_append_Hit {w1 : World} {base : Nat} {v : Value} {rows : List (List Value)} {xs : List DHit} {bls : List (List Nat)} (hG : Grow Lay.tHit w1 base 44 v rows xs bls) {row : List Value} {x : DHit} {bl : List Nat} (hl : Lay.tHit.lies w1 row x bl) (hbl : ∀ b ∈ bl, v.ownBlock ≠ some b) {ops : Array Oper} {o : Oper} {a : Act} {K : Act → World → Prop} {Q : Exit → Act → World → Prop} {E : Prop} (hgd : o.guard = none) (s y : Operand)
    (ho : o.op = .call { callee := .builtin .append, args := #[s, y], argTypes := #[31, 31] }) (hs : a.eval s = v) (hy : a.eval y = .slice (some ⟨w1.heap.size, 0, none⟩) 1 1) (hn : xs.length + 1 ≤ 100000000) (hbase : base ≤ w1.heap.size)
    (h : ∀ g cap w', Grow Lay.tHit w' base 44 (.slice (some ⟨g, 0, none⟩) (xs.length + 1) cap) (rows ++ [row]) (xs ++ [x]) (bls ++ [bl]) → Below base w1 w' → Ext (fun q => v.ownBlock = some q) w1 w' → g < w'.heap.size → w1.heap.size ≤ w'.heap.size → (v.ownBlock = some g ∨ w1.heap.size ≤ g) → K (a.put o.dst (.slice (some ⟨g, 0, none⟩) (xs.length + 1) cap)) w') :
    if Region.wanted o (yielded ops a.tmps) = true then Oper.wp Tryz.prog o a (w1.alloc (.cells row.toArray 44)) K Q else E := by
  obtain ⟨i0, hi0, hz0, hz1, hz2⟩ := info_parts infoAppHit
  obtain ⟨h1, hlen⟩ := one_Hit hl
  refine step_append_lies _ hgd s y 31 ho base 44 i0 _ 2 16 Tryz.underlying31 hi0 hz0 hz1 hz2 rfl (by omega) v xs.length rows.flatten hs (hG.own.alloc _) ⟨w1.heap.size, 0, none⟩ 1 1 row hy hlen (World.news_of_block (cs := row.toArray) (t := 44) (fr := (0, 0)) (heap_alloc_new w1 _)) h1 (by omega) (by unfold maxLen; omega) (by omega) (by simp; omega) (w1.alloc (.cells row.toArray 44)).heap.size rfl ?_
  intro g cap w' h2 h3 h4 h5
  have hg := grown_alloc h3
  have hbw : Below base w1 w' := (Below.refl _ _).grown hg hbase (fun j hj => (hG.own.lt j hj).1)
  have hor : v.ownBlock = some g ∨ w1.heap.size ≤ g := by
    rcases h4 with h4 | h4
    · exact Or.inl h4
    · exact Or.inr (by rw [h4]; simp)
  exact h g cap w' (hG.snoc hl hbl h2 hg hor) hbw ⟨hbw.os, hbw.tape, hbw.output, hbw.size, fun k hk hn => hg.block k hk (fun e => hn e.symm)⟩ h5 hbw.size hor

end Go.Proofs.YtggnnbdjihihiaaGreat

namespace Go.Proofs.YtggnnbdjihihiaaGreat
open Go.RowKit

theorem Ext.drew2 {S : Nat → Prop} {a b : World} (h : Ext S a b) : Ext S a b.drew := ⟨h.os, h.tape, h.output, h.size, h.block⟩

set_option maxRecDepth 100000 in
set_option maxHeartbeats 4000000 in
theorem hitsOf_pos (b off cap : Nat) (xs : List DItem) (a2 : Option Addr) (d2 : Nat) (q : List Int) (w : World) (h : (Lay.sl Lay.tItem).Reads w [.slice (some ⟨b, off, none⟩) xs.length cap] xs) (hq : IsInts w (.slice a2 q.length d2) q) (hbl : b < w.heap.size) (hf : tableFault xs = 0) (hfq : vecFault q = 0) :
    Calls Tryz.prog 42 #[.slice (some ⟨b, off, none⟩) xs.length cap, .slice a2 q.length d2] w fun e w' => ∃ v, e = .returned v ∧ w'.ownsRow w.heap.size 44 2 v ((hitsL xs q).map pairH).length (cells2 ((hitsL xs q).map pairH)) ∧ Below w.heap.size w w' := by
  obtain ⟨hlen, hall, -⟩ := tableFault_zero hf
  obtain ⟨i0, hi, hz0, hz1, hz2⟩ := info_parts infoAppHit
  have HA := hide hall
  have H := hide h
  have HQ := hide hq
  have HFQ := hide hfq
  clear h hall hf hq hfq
  go_enter Tryz.func42, Tryz.ntmps42
  go_wp2_with (at_make; refine wpList_make_own _ rfl _ _ 31 rfl w.heap.size 44 i0 _ 2 Tryz.underlying31 hi hz0 hz1 .i64 .i64 _ xs.length rfl rfl rfl (by rw [hz2]; omega) (by unfold maxLen; omega) (Nat.le_refl _) ?_)
  intro w1 hown1 hg1
  have hB1 : Below w.heap.size w w1 := (Below.refl _ _).grown hg1 (Nat.le_refl _) (by simp)
  have HG1 := hide (Grow.nil (A := Lay.tHit) hown1)
  have HB1 := hide hB1
  clear hown1 hg1 hB1 hi hz0 hz1 hz2
  go_wp2_with fail
  go_loopw [5, 13] (fun v i wr => ∃ (k : Nat) (rows : List (List Value)) (bls : List (List Nat)), k ≤ xs.length ∧ i = .int .i64 k ∧ Grow Lay.tHit wr w.heap.size 44 v rows (hitsL (xs.take k) q) bls ∧ Below w.heap.size w wr) (fun _ i _ => xs.length - (intOf i).toNat)
  case atStart => exact ⟨0, [], [], Nat.zero_le _, rfl, unhide HG1, unhide HB1⟩
  case round =>
    obtain ⟨k, rows, bls, hk, rfl, hG, hB⟩ := hrel
    clear HG1 HB1
    by_cases hlt : k < xs.length
    · obtain ⟨row, hc, hr⟩ := Lay.row_at (unhide H) hlt
      replace hr := hr.later hB
      obtain ⟨a1, d1, rfl, R1⟩ := open_Item hr
      have c0 : wr.cell? ⟨b, off + k * 2, none⟩ = some (.int .i64 (xs[k]).id) := (hB.cell (p := ⟨b, off + k * 2, none⟩) hbl).trans (hc 0 (by decide))
      have c1 : wr.cell? ⟨b, off + k * 2 + 1, none⟩ = some (.slice a1 (xs[k]).vec.length d1) := (hB.cell (p := ⟨b, off + k * 2 + 1, none⟩) hbl).trans (hc 1 (by decide))
      obtain ⟨hid, hvf⟩ := unhide HA xs[k] (List.getElem_mem hlt)
      have HT : Hid (hitsL (xs.take (k + 1)) q = hitsL (xs.take k) q ++ [hitOf q xs[k]]) := by
        show hitsL (xs.take (k + 1)) q = _
        rw [hitsL, List.take_succ_eq_append_getElem hlt, List.map_append]
        rfl
      have HL : Hid ((hitsL (xs.take k) q).length = k) := by show (hitsL (xs.take k) q).length = k; rw [hitsL, List.length_map, List.length_take]; omega
      clear hc hr
      generalize hx : xs[k] = x at *
      clear hx
      obtain ⟨p1, p2, p3, hv3⟩ := vec3q hvf
      obtain ⟨q1, q2, q3, hq3⟩ := vec3q (unhide HFQ)
      have hbd := score3_bd (unhide HFQ) hvf
      have HWS : Hid ((Lit.int .i64 (score3 q x.vec)).wf = true) := wf_of_bd (by omega)
      have HWI : Hid ((Lit.int .i64 x.id).wf = true) := by
        simp only [idB, Bool.and_eq_true, decide_eq_true_eq] at hid
        exact wf_of_bd (by omega)
      have hbr : b < wr.heap.size := Nat.lt_of_lt_of_le hbl hB.size
      have nb : Below wr.heap.size wr (wr.alloc (.cells #[.int .i64 x.id, .slice a1 x.vec.length d1] 139)) := (Below.refl _ _).alloc (Nat.le_refl _) _
      have bI : Box wr.heap.size #[.int .i64 x.id, .slice a1 x.vec.length d1] 139 (wr.alloc (.cells #[.int .i64 x.id, .slice a1 x.vec.length d1] 139)) wr.heap.size := newBox (Nat.le_refl _)
      have HI := hide ((Lay.ints_reads R1).later nb)
      have HQI := hide (((unhide HQ).later hB).later nb)
      have HS3 : Hid (score3 q x.vec = (q1 - p1) * (q1 - p1) + (q2 - p2) * (q2 - p2) + (q3 - p3) * (q3 - p3)) := by
        show score3 q x.vec = _
        rw [hq3, hv3]
        rfl
      have HV3 := hide hv3
      have HQ3 := hide hq3
      have HVF := hide hvf
      have HOFF : Hid (u5.ownBlock = some wr.heap.size → False) := fun e => by have := (hG.own.lt _ e).2; omega
      have HG := hide (hG.later nb)
      have HB := hide (hB.trans (nb.mono hB.size))
      have HBI := hide bI
      clear R1 hG hB nb bI hid hvf hbd hv3 hq3
      go_wp2_with fail
      clear c0 c1
      have hbI := unhide HBI
      have hhG := unhide HG
      have hI1 := unhide HI
      have hQ1 := unhide HQI
      have hB0 := unhide HB
      clear HBI HG HI HQI HB
      generalize hW0 : wr.alloc (.cells #[.int .i64 x.id, .slice a1 x.vec.length d1] 139) = W0 at *
      clear hW0
      have hfl : ∀ W : World, (Instr.field 46 (.agg #[.int .i64 0, .int .i64 (score3 q x.vec)]) 1).run Tryz.prog W = .ok (.int .i64 (score3 q x.vec)) W := fun _ => by kernel_rfl
      have hDI : IsInts W0.drew (.slice a1 x.vec.length d1) x.vec := hI1
      have hDQ : IsInts W0.drew (.slice a2 q.length d2) q := hQ1
      have hBx : u5.ownBlock = some wr.heap.size → False := fun e => unhide HOFF e
      have hGD : Grow Lay.tHit W0.drew w.heap.size 44 u5 rows (hitsL (xs.take k) q) bls := hhG.later (below_drawn (Below.refl _ _) 1)
      refine wp_region_noPanic ?_
      refine wp_region_held_drew (S := fun w' => Ext (fun c => u5.ownBlock = some c) W0 w') (by kernel_rfl) (Ext.refl _ _).drew2 (fun hHeld => ?_)
      generalize W0.drew = wD at hHeld hGD hDI hDQ ⊢
      refine wpAnyH_take (i := 0) (oi := { dst := some 17, op := Go.Op.move (Go.Operand.tmp 5), type := 31, pos := "l04_table.go:136", after := #[], guard := none }) (v := ?v0) rfl (by kernel_rfl) (by kernel_rfl) (by kernel_rfl) (fun _ _ _ h => h) (Or.inl ⟨by rfl, ?h0⟩) hHeld ?r0
      case h0 =>
        intro wS hSw
        (try dsimp only at hSw)
        go_simp
        try with_reducible rfl
      case r0 =>
      simp only [Act.put, List.setIfInBounds_toArray, List.set_cons_zero, List.set_cons_succ]
      refine wpAnyH_take (i := 1) (oi := { dst := some 18, op := Go.Op.fieldAddr 139 (Go.Operand.tmp 7) 0, type := 0, pos := "l04_table.go:136", after := #[], guard := none }) (v := ?v1) rfl (by kernel_rfl) (by kernel_rfl) (by kernel_rfl) (fun _ _ _ h => h) (Or.inl ⟨by rfl, ?h1⟩) hHeld ?r1
      case h1 =>
        intro wS hSw
        (try dsimp only at hSw)
        go_simp
        try with_reducible rfl
      case r1 =>
      simp only [Act.put, List.setIfInBounds_toArray, List.set_cons_zero, List.set_cons_succ]
      refine wpAnyH_take (i := 2) (oi := { dst := some 19, op := Go.Op.load 2 (Go.Operand.tmp 18), type := 2, pos := "l04_table.go:136", after := #[{ on := 1, ground := Go.Ground.data }], guard := none }) (v := ?v2) rfl (by kernel_rfl) (by kernel_rfl) (by kernel_rfl) (fun _ _ _ h => h) (Or.inl ⟨by rfl, ?h2⟩) hHeld ?r2
      case h2 =>
        intro wS hSw
        have bx := hbI.ext hSw (fun e => by exact hBx e)
        have y0 := bx.at 0 _ rfl
        have y1 := bx.at 1 _ rfl
        clear bx hSw
        (try dsimp only at hSw)
        go_simp
        try with_reducible rfl
      case r2 =>
      simp only [Act.put, List.setIfInBounds_toArray, List.set_cons_zero, List.set_cons_succ]
      refine wpAnyH_take (i := 3) (oi := { dst := some 20, op := Go.Op.move (Go.Operand.tmp 1), type := 28, pos := "l04_table.go:136", after := #[], guard := none }) (v := ?v3) rfl (by kernel_rfl) (by kernel_rfl) (by kernel_rfl) (fun _ _ _ h => h) (Or.inl ⟨by rfl, ?h3⟩) hHeld ?r3
      case h3 =>
        intro wS hSw
        (try dsimp only at hSw)
        go_simp
        try with_reducible rfl
      case r3 =>
      simp only [Act.put, List.setIfInBounds_toArray, List.set_cons_zero, List.set_cons_succ]
      refine wpAnyH_take (i := 4) (oi := { dst := some 21, op := Go.Op.fieldAddr 139 (Go.Operand.tmp 7) 1, type := 0, pos := "l04_table.go:136", after := #[], guard := none }) (v := ?v4) rfl (by kernel_rfl) (by kernel_rfl) (by kernel_rfl) (fun _ _ _ h => h) (Or.inl ⟨by rfl, ?h4⟩) hHeld ?r4
      case h4 =>
        intro wS hSw
        (try dsimp only at hSw)
        go_simp
        try with_reducible rfl
      case r4 =>
      simp only [Act.put, List.setIfInBounds_toArray, List.set_cons_zero, List.set_cons_succ]
      refine wpAnyH_take (i := 5) (oi := { dst := some 22, op := Go.Op.load 28 (Go.Operand.tmp 21), type := 28, pos := "l04_table.go:136", after := #[{ on := 4, ground := Go.Ground.data }], guard := none }) (v := ?v5) rfl (by kernel_rfl) (by kernel_rfl) (by kernel_rfl) (fun _ _ _ h => h) (Or.inl ⟨by rfl, ?h5⟩) hHeld ?r5
      case h5 =>
        intro wS hSw
        have bx := hbI.ext hSw (fun e => by exact hBx e)
        have y0 := bx.at 0 _ rfl
        have y1 := bx.at 1 _ rfl
        clear bx hSw
        (try dsimp only at hSw)
        go_simp
        try with_reducible rfl
      case r5 =>
      simp only [Act.put, List.setIfInBounds_toArray, List.set_cons_zero, List.set_cons_succ]
      refine wpAnyH_ready (rs := [6]) (by kernel_rfl) (by simp) ?_
      refine AllReadyH.cons (o := { dst := some 23, op := Go.Op.call { callee := Go.Callee.value (Go.Operand.func 14), args := #[Go.Operand.tmp 20, Go.Operand.tmp 22], argTypes := #[28, 28] }, type := 46, pos := "l04_table.go:136", after := #[{ on := 3, ground := Go.Ground.data }, { on := 5, ground := Go.Ground.data }], guard := none }) rfl (fun K hK => ?_) AllReadyH.nil
      go_simp
      go_at_call 14
      have hIa := hDI
      have hQa := hDQ
      have L := implScore_ok (.slice a2 q.length d2) (.slice a1 x.vec.length d1) q1 q2 q3 p1 p2 p3 wD (by rw [← unhide HQ3]; exact hQa) (by rw [← unhide HV3]; exact hIa) (by rw [← unhide HQ3]; exact unhide HFQ) (by rw [← unhide HV3]; exact unhide HVF)
      rw [← unhide HS3] at L
      simp only [intRes] at L
      refine L.mono ?_
      clear L hIa hQa
      rintro e w3 ⟨rfl, hbw⟩
      have hG3 := hGD.later hbw
      have hz3 := hbw.size
      try go_wp2_with fail
      refine hK.out _ _ (hHeld.trans (ext_of_below hbw _)) (fun hHeld => ?_)
      clear hK K
      try simp only [Act.put, List.setIfInBounds_toArray, List.set_cons_zero, List.set_cons_succ]
      refine wpAnyH_take (i := 7) (oi := { dst := some 24, op := Go.Op.field 46 (Go.Operand.tmp 23) 1, type := 2, pos := "l04_table.go:136", after := #[{ on := 6, ground := Go.Ground.data }], guard := none }) (v := ?v7) rfl (by kernel_rfl) (by kernel_rfl) (by kernel_rfl) (fun _ _ _ h => h) (Or.inl ⟨by rfl, ?h7⟩) hHeld ?r7
      case h7 =>
        intro wS hSw
        (try dsimp only at hSw)
        go_simp
        try with_reducible rfl
      case r7 =>
      simp only [Act.put, List.setIfInBounds_toArray, List.set_cons_zero, List.set_cons_succ]
      refine wpAnyH_take (i := 8) (oi := { dst := some 25, op := Go.Op.build 44 #[(0, Go.Operand.tmp 19), (1, Go.Operand.tmp 24)], type := 44, pos := "l04_table.go:136", after := #[{ on := 2, ground := Go.Ground.data }, { on := 7, ground := Go.Ground.data }], guard := none }) (v := ?v8) rfl (by kernel_rfl) (by kernel_rfl) (by kernel_rfl) (fun _ _ _ h => h) (Or.inl ⟨by rfl, ?h8⟩) hHeld ?r8
      case h8 =>
        intro wS hSw
        (try dsimp only at hSw)
        go_simp
        try with_reducible rfl
      case r8 =>
      simp only [Act.put, List.setIfInBounds_toArray, List.set_cons_zero, List.set_cons_succ]
      refine wpAnyH_ready (rs := [9]) (by kernel_rfl) (by simp) ?_
      refine AllReadyH.cons (o := { dst := some 26, op := Go.Op.buildSlice 31 1 #[(0, Go.Operand.tmp 25)], type := 31, pos := "l04_table.go:136", after := #[{ on := 8, ground := Go.Ground.data }], guard := none }) rfl (fun K hK => ?_) AllReadyH.nil
      have hH3 := hHeld
      go_simp
      refine hK.out _ _ (hHeld.trans (ext_of_below ((Below.refl _ _).alloc (Nat.le_refl _) _) _)) (fun hHeld => ?_)
      clear hK K
      try simp only [Act.put, List.setIfInBounds_toArray, List.set_cons_zero, List.set_cons_succ]
      refine wpAnyH_ready (rs := [10]) (by kernel_rfl) (by simp) ?_
      refine AllReadyH.cons (o := { dst := some 27, op := Go.Op.call { callee := Go.Callee.builtin Go.Builtin.append, args := #[Go.Operand.tmp 17, Go.Operand.tmp 26], argTypes := #[31, 31] }, type := 31, pos := "l04_table.go:136", after := #[{ on := 0, ground := Go.Ground.data }, { on := 9, ground := Go.Ground.data }, { on := 6, ground := Go.Ground.chain }], guard := none }) rfl (fun K hK => ?_) AllReadyH.nil
      refine step_append_Hit hG3 (row := [.int .i64 x.id, .int .i64 (score3 q x.vec)]) (x := hitOf q x) (bl := []) (lies_Hit.2 ⟨rfl, rfl, unhide HWI, unhide HWS⟩) (by simp) rfl _ _ rfl rfl rfl (by have := unhide HL; omega) (by have := hH3.size; have := hB0.size; omega) ?_
      rintro g5 cp5 w5 hG5 hb5 hE5 hl5 hz5 -
      refine hK.out _ _ (hH3.trans hE5) (fun hHeld => ?_)
      clear hK K
      try simp only [Act.put, List.setIfInBounds_toArray, List.set_cons_zero, List.set_cons_succ]
      refine wpAnyH_take (i := 11) (oi := { dst := some 5, op := Go.Op.assign (Go.Operand.tmp 27), type := 31, pos := "l04_table.go:136", after := #[{ on := 10, ground := Go.Ground.data }, { on := 10, ground := Go.Ground.chain }, { on := 0, ground := Go.Ground.phase }, { on := 1, ground := Go.Ground.phase }, { on := 2, ground := Go.Ground.phase }, { on := 3, ground := Go.Ground.phase }, { on := 4, ground := Go.Ground.phase }, { on := 5, ground := Go.Ground.phase }, { on := 6, ground := Go.Ground.phase }, { on := 7, ground := Go.Ground.phase }, { on := 8, ground := Go.Ground.phase }, { on := 9, ground := Go.Ground.phase }, { on := 10, ground := Go.Ground.phase }], guard := none }) (v := ?v11) rfl (by kernel_rfl) (by kernel_rfl) (by kernel_rfl) (fun _ _ _ h => h) (Or.inl ⟨by rfl, ?h11⟩) hHeld ?r11
      case h11 =>
        intro wS hSw
        (try dsimp only at hSw)
        go_simp
        try with_reducible rfl
      case r11 =>
      simp only [Act.put, List.setIfInBounds_toArray, List.set_cons_zero, List.set_cons_succ]
      refine wpAnyH_done (by kernel_rfl) ?_ _
      refine NoPanic.normal ?_
      have HG5 := hide hG5
      have HB5 := hide (hB0.trans (hHeld.below hB0.size (fun c hc e => by have := (hhG.own.lt c e).1; omega)))
      clear hHeld hG5 hGD hG3 hhG hI1 hQ1 hB0 hfl
      go_wp2_with fail
      go_roundw
      case rel =>
        have hg := unhide HG5
        rw [← unhide HT] at hg
        exact ⟨k + 1, _, _, by omega, by go_num, hg, unhide HB5⟩
      case measure => simp [intOf]; omega
    · obtain rfl : k = xs.length := by omega
      rw [List.take_length] at hG
      have HG := hide (grow_hits hG).1
      have HB := hide hB
      clear hG hB H
      go_wp2_with fail
      go_ret
      exact ⟨_, rfl, unhide HG, unhide HB⟩

theorem hitsOf_zero (ao : Option Addr) (cap : Nat) (v : Value) (w : World) :
    Calls Tryz.prog 42 #[.slice ao 0 cap, v] w fun e w' => ∃ v, e = .returned v ∧ w'.ownsRow w.heap.size 44 2 v 0 [] ∧ Below w.heap.size w w' := by
  obtain ⟨i0, hi, hz0, hz1, hz2⟩ := info_parts infoAppHit
  go_enter Tryz.func42, Tryz.ntmps42
  go_wp2_with (at_make; refine wpList_make_own _ rfl _ _ 31 rfl w.heap.size 44 i0 _ 2 Tryz.underlying31 hi hz0 hz1 .i64 .i64 _ 0 rfl rfl rfl (by rw [hz2]; omega) (by unfold maxLen; omega) (Nat.le_refl _) ?_)
  intro w1 hown1 hg1
  have HB1 := hide ((Below.refl w.heap.size w).grown hg1 (Nat.le_refl _) (by simp))
  have HO := hide hown1
  clear hown1 hg1 hi hz0 hz1 hz2
  go_wp2_with fail
  refine wp_loop_rounds 1 ?_
  rw [rounds_succ]
  go_wp2_with fail
  go_ret
  exact ⟨_, rfl, unhide HO, unhide HB1⟩

/-- hitsOf of the program. -/
theorem hitsOfC (v : Value) (xs : List DItem) (vq : Value) (q : List Int) (w : World) (h : (Lay.sl Lay.tItem).Reads w [v] xs) (hq : IsInts w vq q) (hf : tableFault xs = 0) (hfq : vecFault q = 0) :
    Calls Tryz.prog 42 #[v, vq] w fun e w' => ∃ v, e = .returned v ∧ w'.ownsRow w.heap.size 44 2 v ((hitsL xs q).map pairH).length (cells2 ((hitsL xs q).map pairH)) ∧ Below w.heap.size w w' := by
  obtain ⟨ao, cap, rfl⟩ := open_sl h
  have hvq : ∃ a d, vq = .slice a q.length d := by obtain ⟨a, d, e, -⟩ := hq; exact ⟨a, d, e⟩
  obtain ⟨a2, d2, rfl⟩ := hvq
  by_cases hp : 0 < xs.length
  · obtain ⟨b, off, rfl, hbl⟩ := Lay.sl_addr h hp
    exact hitsOf_pos b off cap xs a2 d2 q w h hq hbl hf hfq
  · obtain rfl : xs = [] := List.eq_nil_of_length_eq_zero (by omega)
    exact hitsOf_zero ao cap _ w

end Go.Proofs.YtggnnbdjihihiaaGreat

namespace Go.Proofs.YtggnnbdjihihiaaGreat
open Go.RowKit

theorem run_copy_rowk {P : Program} (w : World) (dT sT ty elem : TypeId) (k g o dLen dCap : Nat) (a : Addr) (sLen sCap : Nat) (cur : Array Value) (t : TypeId) (cs : List Value)
    (hu : P.underlying dT = some (.slice elem)) (hs : (P.info? elem).map (·.size) = some k)
    (hg : w.heap[g]? = some (.cells cur t (0, 0))) (m : Nat) (hm : Nat.min sLen dLen = m) (hn : cs.length = m * k)
    (hsrc : ∀ j v, cs[j]? = some v → w.cell? (a.add j) = some v) (hfit : o + cs.length ≤ cur.size) (h1 : ∀ v ∈ cs, v.oneCell' = true) :
    (Builtin.copy_ #[dT, sT] ty #[.slice (some ⟨g, o, none⟩) dLen dCap, .slice (some a) sLen sCap]).run P w =
      .ok (goInt m) (w.setRow g (cur.toList.take o ++ cs ++ cur.toList.drop (o + cs.length)).toArray) := by
  have hl := run_loadCells_list (P := P) w a cs hsrc
  have hst := run_storeCells_at P g o t cs 0 cur w hg (by simpa using hfit) h1
  cases hq : P.info? elem with
  | none => simp [hq] at hs
  | some i =>
    have hi : i.size = k := by simpa [hq] using hs
    simp [Builtin.copy_, run_underlying hu, Builtin.lenOf, Builtin.firstCells, sizeOf, typeInfo, hq, hi, hm, ← hn, hl, hst]

/-- The row behind a copy. -/
def laidOver (cur : List Value) (o : Nat) (cs : List Value) : List Value := cur.take o ++ cs ++ cur.drop (o + cs.length)

theorem run_copy_hits (w : World) (ty g o dLen dCap : Nat) (a : Addr) (sLen sCap : Nat) (cur : List Value) (t : TypeId) (cs : List Value)
    (hg : w.heap[g]? = some (.cells cur.toArray t (0, 0))) (m : Nat) (hm : Nat.min sLen dLen = m) (hn : cs.length = m * 2)
    (hsrc : ∀ j v, cs[j]? = some v → w.cell? (a.add j) = some v) (hfit : o + cs.length ≤ cur.length) (h1 : ∀ v ∈ cs, v.oneCell' = true) :
    ∃ w', (Builtin.copy_ #[31, 31] ty #[.slice (some ⟨g, o, none⟩) dLen dCap, .slice (some a) sLen sCap]).run Tryz.prog w = .ok (goInt m) w' ∧
      w'.heap[g]? = some (.cells (laidOver cur o cs).toArray t (0, 0)) ∧ w.grownBy w' (some g) := by
  obtain ⟨i0, hi, hz0, hz1, hz2⟩ := info_parts infoHit
  refine ⟨_, run_copy_rowk w 31 31 ty 44 2 g o dLen dCap a sLen sCap cur.toArray t cs Tryz.underlying31 (by rw [hi]; simp [hz1]) hg m hm hn hsrc (by simpa using hfit) h1, ?_, ?_⟩
  · simpa [laidOver] using setRow_heap w g _ _ t _ hg
  · exact ⟨rfl, rfl, rfl, by simp, fun k _ hk => setRow_other w g k _ (fun e => hk (by rw [e]))⟩

theorem wpList_copy_hits {w : World} {ops : Array Oper} {rest : List Oper} {o : Oper} {a : Act} {Q : Exit → Act → World → Prop} (hgd : o.guard = none) (d s : Operand)
    (ho : o.op = .call { callee := .builtin .copy, args := #[d, s], argTypes := #[31, 31] })
    (g off dLen dCap : Nat) (ad : Addr) (sLen sCap : Nat) (hd : a.eval d = .slice (some ⟨g, off, none⟩) dLen dCap) (hs : a.eval s = .slice (some ad) sLen sCap)
    (cur : List Value) (t : TypeId) (cs : List Value) (hg : w.heap[g]? = some (.cells cur.toArray t (0, 0))) (m : Nat) (hm : Nat.min sLen dLen = m) (hn : cs.length = m * 2)
    (hsrc : ∀ j v, cs[j]? = some v → w.cell? (ad.add j) = some v) (hfit : off + cs.length ≤ cur.length) (h1 : ∀ v ∈ cs, v.oneCell' = true)
    (h : ∀ w', w'.heap[g]? = some (.cells (laidOver cur off cs).toArray t (0, 0)) → w.grownBy w' (some g) → wpList Tryz.prog ops Q rest (a.put o.dst (goInt m)) w') :
    wpList Tryz.prog ops Q (o :: rest) a w := by
  refine wpList_plain hgd fun K hK => ?_
  obtain ⟨w', hr, h2, h3⟩ := run_copy_hits w o.type g off dLen dCap ad sLen sCap cur t cs hg m hm hn hsrc hfit h1
  unfold Oper.wp execOp
  simp only [ho, resolve, invoke, builtin, Sem.run_bind, Sem.run_pure, Result.andThen_ok, List.map_toArray, List.map_cons, List.map_nil, hd, hs, hr]
  exact hK _ _ (h w' h2 h3)

theorem step_copy_hits {ops : Array Oper} {o : Oper} {a : Act} {w : World} {K : Act → World → Prop} {Q : Exit → Act → World → Prop} {E : Prop} (hgd : o.guard = none) (d s : Operand)
    (ho : o.op = .call { callee := .builtin .copy, args := #[d, s], argTypes := #[31, 31] })
    (g off dLen dCap : Nat) (ad : Addr) (sLen sCap : Nat) (hd : a.eval d = .slice (some ⟨g, off, none⟩) dLen dCap) (hs : a.eval s = .slice (some ad) sLen sCap)
    (cur : List Value) (t : TypeId) (cs : List Value) (hg : w.heap[g]? = some (.cells cur.toArray t (0, 0))) (m : Nat) (hm : Nat.min sLen dLen = m) (hn : cs.length = m * 2)
    (hsrc : ∀ j v, cs[j]? = some v → w.cell? (ad.add j) = some v) (hfit : off + cs.length ≤ cur.length) (h1 : ∀ v ∈ cs, v.oneCell' = true)
    (h : ∀ w', w'.heap[g]? = some (.cells (laidOver cur off cs).toArray t (0, 0)) → w.grownBy w' (some g) → K (a.put o.dst (goInt m)) w') :
    if Region.wanted o (yielded ops a.tmps) = true then Oper.wp Tryz.prog o a w K Q else E := by
  have hw : Region.wanted o (yielded ops a.tmps) = true := by simp [Region.wanted, hgd]
  rw [if_pos hw]
  obtain ⟨w', hr, h2, h3⟩ := run_copy_hits w o.type g off dLen dCap ad sLen sCap cur t cs hg m hm hn hsrc hfit h1
  unfold Oper.wp
  simp [execOp, ho, resolve, invoke, builtin, hd, hs, hr, Result.andThen]
  exact h w' h2 h3

theorem cells2_drop (hs : List (Int × Int)) (k : Nat) : (cells2 hs).drop (k * 2) = cells2 (hs.drop k) := by
  induction hs generalizing k with
  | nil => simp [cells2]
  | cons h r ih =>
    cases k with
    | zero => simp [cells2]
    | succ k => simp [cells2, ih, Nat.add_mul]

/-- A hit put into the midst of a row: what stood from there on is moved, then the hit is laid. -/
theorem shift_row {cur : List Value} {hs : List (Int × Int)} {n at_ cap : Nat} (x y : Int) (hl : hs.length = n) (hcur : cur.length = cap * 2) (ht : cur.take (n * 2) = cells2 hs) (hat : at_ < n) (hroom : n + 1 ≤ cap) :
    (laidOver (laidOver cur ((at_ + 1) * 2) (cells2 (hs.drop at_))) (at_ * 2) [.int .i64 x, .int .i64 y]).length = cap * 2 ∧
    (laidOver (laidOver cur ((at_ + 1) * 2) (cells2 (hs.drop at_))) (at_ * 2) [.int .i64 x, .int .i64 y]).take ((n + 1) * 2) = cells2 (hs.take at_ ++ (x, y) :: hs.drop at_) := by
  have e1 : (laidOver cur ((at_ + 1) * 2) (cells2 (hs.drop at_))).take (at_ * 2) = cells2 (hs.take at_) := by
    unfold laidOver
    rw [List.append_assoc, List.take_append_of_le_length (by simp; omega), List.take_take, ← cells2_take, ← ht, List.take_take]
    congr 1
    omega
  have e2 : (laidOver cur ((at_ + 1) * 2) (cells2 (hs.drop at_))).drop (at_ * 2 + 2) = cells2 (hs.drop at_) ++ cur.drop ((at_ + 1) * 2 + (cells2 (hs.drop at_)).length) := by
    unfold laidOver
    have : (cur.take ((at_ + 1) * 2)).length = at_ * 2 + 2 := by simp; omega
    rw [List.append_assoc, ← this, List.drop_left]
  have e3 : laidOver (laidOver cur ((at_ + 1) * 2) (cells2 (hs.drop at_))) (at_ * 2) [.int .i64 x, .int .i64 y] = cells2 (hs.take at_ ++ (x, y) :: hs.drop at_) ++ cur.drop ((at_ + 1) * 2 + (cells2 (hs.drop at_)).length) := by
    rw [laidOver, e1]
    simp only [List.length_cons, List.length_nil, Nat.zero_add, e2, cells2_app, cells2]
    simp
  have e4 : (cells2 (hs.take at_ ++ (x, y) :: hs.drop at_)).length = (n + 1) * 2 := by
    rw [cells2_len]
    simp
    omega
  rw [e3]
  constructor
  · rw [List.length_append, e4, cells2_len]
    simp
    omega
  · rw [← e4, List.take_left]

theorem laidOver_len {cur : List Value} {o : Nat} {cs : List Value} (h : o + cs.length ≤ cur.length) : (laidOver cur o cs).length = cur.length := by
  unfold laidOver
  simp
  omega

/-- A hit put into a new row behind what stood ahead of it, then what stood from there on. -/
theorem grow_row {row : List Value} {hs : List (Int × Int)} {n at_ cap : Nat} (x y : Int) (hl : hs.length = n) (hrow : row.length = cap * 2) (ht : row.take (at_ * 2) = cells2 (hs.take at_)) (hat : at_ < n) (hroom : n + 1 ≤ cap) :
    (laidOver (laidOver row (at_ * 2) [.int .i64 x, .int .i64 y]) ((at_ + 1) * 2) (cells2 (hs.drop at_))).length = cap * 2 ∧
    (laidOver (laidOver row (at_ * 2) [.int .i64 x, .int .i64 y]) ((at_ + 1) * 2) (cells2 (hs.drop at_))).take ((n + 1) * 2) = cells2 (hs.take at_ ++ (x, y) :: hs.drop at_) := by
  have hcl : (cells2 (hs.take at_)).length = at_ * 2 := by rw [cells2_len]; simp; omega
  have e1 : (laidOver row (at_ * 2) [.int .i64 x, .int .i64 y]).take ((at_ + 1) * 2) = cells2 (hs.take at_) ++ [.int .i64 x, .int .i64 y] := by
    unfold laidOver
    rw [ht]
    have : (at_ + 1) * 2 = (cells2 (hs.take at_) ++ [Value.int .i64 x, Value.int .i64 y]).length := by rw [List.length_append, hcl]; simp; omega
    rw [this, List.take_left]
  have e3 : laidOver (laidOver row (at_ * 2) [.int .i64 x, .int .i64 y]) ((at_ + 1) * 2) (cells2 (hs.drop at_)) = cells2 (hs.take at_ ++ (x, y) :: hs.drop at_) ++ (laidOver row (at_ * 2) [.int .i64 x, .int .i64 y]).drop ((at_ + 1) * 2 + (cells2 (hs.drop at_)).length) := by
    rw [laidOver, e1]
    simp only [cells2_app, cells2]
    simp
  have e4 : (cells2 (hs.take at_ ++ (x, y) :: hs.drop at_)).length = (n + 1) * 2 := by
    rw [cells2_len]
    simp
    omega
  have e5 : (laidOver row (at_ * 2) [.int .i64 x, .int .i64 y]).length = cap * 2 := by rw [laidOver_len (by simp; omega), hrow]
  rw [e3]
  constructor
  · rw [List.length_append, e4, List.length_drop, e5, cells2_len]
    simp
    omega
  · rw [← e4, List.take_left]

end Go.Proofs.YtggnnbdjihihiaaGreat
