/-
  The program's tableOfLists: a new map of all items of right lists, or what is wrong with them together; nothing old is written.
  Condition: the centers and each list are right.
-/
import Derived.Test.YtfgadegpdknocaaAq08
import Derived.Test.YtfgadegpdknocaaAq02

namespace Go.Proofs.Ytfgadegpdknocaa
open Go.RowKit Go.Shelf
attribute [local go_sem] Oper.semAt_some

set_option maxRecDepth 100000 in
set_option maxHeartbeats 8000000 in
theorem implTLists (x : DIvf) (ac : Option Addr) (dc : Nat) (al : Option Addr) (dl : Nat) (w : World) (h1 : (Lay.sl Lay.tCenter).Reads w [.slice ac x.centers.length dc] x.centers) (h2 : (Lay.sl Lay.tIvfList).Reads w [.slice al x.lists.length dl] x.lists) (hf : centersFault x.centers = 0) (HL : Hid (x.lists.length = x.centers.length)) (hx : ∀ l ∈ x.lists, tableFault l.items = 0) :
    Calls Try.prog 107 #[.agg #[.slice ac x.centers.length dc, .slice al x.lists.length dl]] w fun e w' => (∃ mv, e = .returned (.tuple #[mv, .int .i64 (codeL x)]) ∧ (codeL x ≠ 0 → mv = .map none) ∧ (codeL x = 0 → ∃ b, mv = .map (some b) ∧ w.heap.size ≤ b ∧ TabAt w' b 200 (allIs x.lists))) ∧ Below w.heap.size w w' := by
  have nb : Below w.heap.size w (((((w.alloc (.cells #[.slice ac x.centers.length dc, .slice al x.lists.length dl] 31)).alloc (.cells #[.map none] 92)).alloc (.cells #[.int .i64 0] 2)).alloc (.map #[] 0)).alloc (.cells #[.map (some (w.heap.size + 1 + 1 + 1))] 92)) := (((((Below.refl _ _).alloc (Nat.le_refl _) _).alloc (by simp) _).alloc (by simp; omega) _).alloc (by simp; omega) _).alloc (by simp; omega) _
  have bX : Box w.heap.size #[.slice ac x.centers.length dc, .slice al x.lists.length dl] 31 (((((w.alloc (.cells #[.slice ac x.centers.length dc, .slice al x.lists.length dl] 31)).alloc (.cells #[.map none] 92)).alloc (.cells #[.int .i64 0] 2)).alloc (.map #[] 0)).alloc (.cells #[.map (some (w.heap.size + 1 + 1 + 1))] 92)) w.heap.size := ((((newBox (Nat.le_refl _)).grow _).grow _).grow _).grow _
  have bM : Box w.heap.size #[.map none] 92 (((((w.alloc (.cells #[.slice ac x.centers.length dc, .slice al x.lists.length dl] 31)).alloc (.cells #[.map none] 92)).alloc (.cells #[.int .i64 0] 2)).alloc (.map #[] 0)).alloc (.cells #[.map (some (w.heap.size + 1 + 1 + 1))] 92)) (w.heap.size + 1) := (((newBoxAt (by omega) (by simp)).grow _).grow _).grow _
  have bR : Box w.heap.size #[.int .i64 0] 2 (((((w.alloc (.cells #[.slice ac x.centers.length dc, .slice al x.lists.length dl] 31)).alloc (.cells #[.map none] 92)).alloc (.cells #[.int .i64 0] 2)).alloc (.map #[] 0)).alloc (.cells #[.map (some (w.heap.size + 1 + 1 + 1))] 92)) (w.heap.size + 1 + 1) := ((newBoxAt (by omega) (by simp)).grow _).grow _
  have hT := (tabAt_new (((w.alloc (.cells #[.slice ac x.centers.length dc, .slice al x.lists.length dl] 31)).alloc (.cells #[.map none] 92)).alloc (.cells #[.int .i64 0] 2))).later ((Below.refl _ _).alloc (Nat.le_refl _) (.cells #[.map (some (w.heap.size + 1 + 1 + 1))] 92))
  have bH : Box w.heap.size #[.map (some (w.heap.size + 1 + 1 + 1))] 92 (((((w.alloc (.cells #[.slice ac x.centers.length dc, .slice al x.lists.length dl] 31)).alloc (.cells #[.map none] 92)).alloc (.cells #[.int .i64 0] 2)).alloc (.map #[] 0)).alloc (.cells #[.map (some (w.heap.size + 1 + 1 + 1))] 92)) (w.heap.size + 1 + 1 + 1 + 1) := newBoxAt (by omega) (by simp)
  simp only [World.size_alloc] at hT
  have hn6 : x.centers.length ≤ 6 := (centersFault_zero hf).1.2
  have hn1 : 1 ≤ x.centers.length := (centersFault_zero hf).1.1
  have c0 := bX.at 0 _ rfl
  have c1 := bX.at 1 _ rfl
  have H1 := hide h1
  have H2 := hide h2
  have HTF := hide hx
  have HB := hide nb
  have HR := hide bR
  have HM := hide bM
  have HH := hide bH
  have HT := hide hT
  have HBX := hide bX
  have hmk : ∀ W : World, (Instr.makeMap 92 none).run Try.prog W = .ok (.map (some W.heap.size)) (W.alloc (.map #[] 0)) := fun W => by kernel_rfl
  have LP : Hid (∀ W : World, _) := fun W : World => implPlaces ac x.centers.length dc W (by omega)
  have LQ : Hid (∀ (a : Option Addr) (n c : Nat) (W : World), _) := fun (a : Option Addr) (n c : Nat) (W : World) => implListsAt (.slice ac x.centers.length dc) (.slice al x.lists.length dl) a n c W ⟨_, _, _, rfl⟩ ⟨_, _, _, rfl⟩
  clear h1 h2 hx nb bR bM bH hT bX hf
  refine (callsIn_wide (n := 9)).1 ?_
  refine callsIn_of_wp_marks Try.func107 rfl trivial ?_ rfl
  refine wpIn_wide.2 ?_
  simp only [Try.ntmps107, List.size_toArray, List.length_cons, List.length_nil, Nat.reduceAdd, Nat.reduceSub, Array.replicate_succ, Array.replicate_zero, List.push_toArray, List.append_toArray, List.nil_append, List.cons_append]
  go_wp2_with fail
  clear hmk
  generalize ((((w.alloc (.cells #[.slice ac x.centers.length dc, .slice al x.lists.length dl] 31)).alloc (.cells #[.map none] 92)).alloc (.cells #[.int .i64 0] 2)).alloc (.map #[] 0)).alloc (.cells #[.map (some (w.heap.size + 1 + 1 + 1))] 92) = w1 at *
  refine wp_region_noPanic ?_
  refine wp_region_held_drew (S := fun w' => Below w1.heap.size w1 w') (by kernel_rfl) (Below.refl _ _).drew (fun hHeld => ?_)
  generalize w1.drew = wD at hHeld ⊢
  refine wpAnyH_take (i := 0) (oi := { dst := some 11, op := Go.Op.load 31 (Go.Operand.tmp 1), type := 31, pos := "l07_ivf.go:105", after := #[], guard := none }) (v := ?vf0) rfl (by kernel_rfl) (by kernel_rfl) (by kernel_rfl) (fun _ _ _ h => h) (Or.inl ⟨by rfl, ?hf0⟩) hHeld ?rf0
  case hf0 =>
    intro wS hSw
    have y0 := ((unhide HBX).keep hSw).at 0 _ rfl
    have y1 := ((unhide HBX).keep hSw).at 1 _ rfl
    clear hSw
    (try dsimp only at hSw)
    go_simp
    try with_reducible rfl
  case rf0 =>
  simp only [Act.put, List.setIfInBounds_toArray, List.set_cons_zero, List.set_cons_succ]
  refine wpAnyH_take (i := 1) (oi := { dst := some 12, op := Go.Op.fieldAddr 31 (Go.Operand.tmp 1) 0, type := 0, pos := "l07_ivf.go:105", after := #[], guard := none }) (v := ?vf1) rfl (by kernel_rfl) (by kernel_rfl) (by kernel_rfl) (fun _ _ _ h => h) (Or.inl ⟨by rfl, ?hf1⟩) hHeld ?rf1
  case hf1 =>
    intro wS hSw
    (try dsimp only at hSw)
    go_simp
    try with_reducible rfl
  case rf1 =>
  simp only [Act.put, List.setIfInBounds_toArray, List.set_cons_zero, List.set_cons_succ]
  refine wpAnyH_take (i := 2) (oi := { dst := some 13, op := Go.Op.load 28 (Go.Operand.tmp 12), type := 28, pos := "l07_ivf.go:105", after := #[{ on := 1, ground := Go.Ground.data }], guard := none }) (v := ?vf2) rfl (by kernel_rfl) (by kernel_rfl) (by kernel_rfl) (fun _ _ _ h => h) (Or.inl ⟨by rfl, ?hf2⟩) hHeld ?rf2
  case hf2 =>
    intro wS hSw
    have y0 := ((unhide HBX).keep hSw).at 0 _ rfl
    have y1 := ((unhide HBX).keep hSw).at 1 _ rfl
    clear hSw
    (try dsimp only at hSw)
    go_simp
    try with_reducible rfl
  case rf2 =>
  simp only [Act.put, List.setIfInBounds_toArray, List.set_cons_zero, List.set_cons_succ]
  refine wpAnyH_ready (rs := [3]) (by kernel_rfl) (by simp) ?_
  refine AllReadyH.cons (o := { dst := some 14, op := Go.Op.call { callee := Go.Callee.value (Go.Operand.func 138), args := #[Go.Operand.tmp 13], argTypes := #[28] }, type := 51, pos := "l07_ivf.go:105", after := #[{ on := 2, ground := Go.Ground.data }], guard := none }) rfl (fun K hK => ?_) AllReadyH.nil
  have HDS := hide hHeld.size
  go_simp
  go_at_call 138
  refine (unhide LP _).mono ?_
  rintro e w3 ⟨rfl, hO3, hb3⟩
  try go_wp2_with fail
  refine hK.out _ _ (hHeld.trans (hb3.mono hHeld.size)) (fun hHeld => ?_)
  clear hK K
  try simp only [Act.put, List.setIfInBounds_toArray, List.set_cons_zero, List.set_cons_succ]
  refine wpAnyH_ready (rs := [4]) (by kernel_rfl) (by simp) ?_
  refine AllReadyH.cons (o := { dst := some 15, op := Go.Op.call { callee := Go.Callee.value (Go.Operand.func 123), args := #[Go.Operand.tmp 11, Go.Operand.tmp 14], argTypes := #[31, 51] }, type := 158, pos := "l07_ivf.go:105", after := #[{ on := 0, ground := Go.Ground.data }, { on := 3, ground := Go.Ground.data }, { on := 3, ground := Go.Ground.chain }], guard := none }) rfl (fun K hK => ?_) AllReadyH.nil
  go_simp
  go_at_call 123
  refine (unhide LQ _ _ _ _).mono ?_
  rintro e w4 ⟨rfl, rfl⟩
  try go_wp2_with fail
  refine hK.out _ _ ((hHeld.alloc hHeld.size _).alloc (Nat.le_trans hHeld.size (by simp)) _) (fun hHeld => ?_)
  clear hK K
  try simp only [Act.put, List.setIfInBounds_toArray, List.set_cons_zero, List.set_cons_succ]
  refine wpAnyH_done (by kernel_rfl) ?_ _
  refine NoPanic.normal ?_
  have HO3 := hide hO3
  have HB3 := hide hb3
  have HHeld := hide hHeld
  clear hO3 hb3 hHeld c0 c1
  go_wp2_with fail
  have hpos : 0 < x.lists.length := by rw [unhide HL]; omega
  have hm6 : x.lists.length ≤ 6 := by rw [unhide HL]; omega
  obtain ⟨bL, oL, ia, ic, rfl, hbL, hli⟩ := lists_at (unhide H2) hpos
  have hbw := unhide HB
  have hO4 := ((unhide HO3).alloc (.cells #[.slice ac x.centers.length dc, .slice (some ⟨bL, oL, none⟩) x.lists.length dl] 31)).alloc (.cells #[.slice (some ⟨wD.heap.size, 0, none⟩) x.centers.length x.centers.length] 51)
  have bM4 := (unhide HM).keep (unhide HHeld)
  have bR4 := (unhide HR).keep (unhide HHeld)
  have bH4 := (unhide HH).keep (unhide HHeld)
  have hT4 := (unhide HT).later (unhide HHeld)
  have hB4 := hbw.trans ((unhide HHeld).mono hbw.size)
  have hsz3 : wD.heap.size < w3.heap.size := ((unhide HO3).lt wD.heap.size rfl).2
  have bY : Box 0 #[.slice ac x.centers.length dc, .slice (some ⟨bL, oL, none⟩) x.lists.length dl] 31 ((w3.alloc (.cells #[.slice ac x.centers.length dc, .slice (some ⟨bL, oL, none⟩) x.lists.length dl] 31)).alloc (.cells #[.slice (some ⟨wD.heap.size, 0, none⟩) x.centers.length x.centers.length] 51)) w3.heap.size := (newBox (Nat.zero_le _)).grow _
  have bP : Box 0 #[.slice (some ⟨wD.heap.size, 0, none⟩) x.centers.length x.centers.length] 51 ((w3.alloc (.cells #[.slice ac x.centers.length dc, .slice (some ⟨bL, oL, none⟩) x.lists.length dl] 31)).alloc (.cells #[.slice (some ⟨wD.heap.size, 0, none⟩) x.centers.length x.centers.length] 51)) (w3.heap.size + 1) := newBoxAt (Nat.zero_le _) (by simp)
  have hszL : ((w3.alloc (.cells #[.slice ac x.centers.length dc, .slice (some ⟨bL, oL, none⟩) x.lists.length dl] 31)).alloc (.cells #[.slice (some ⟨wD.heap.size, 0, none⟩) x.centers.length x.centers.length] 51)).heap.size = w3.heap.size + 2 := by simp
  have hwDs : w1.heap.size ≤ wD.heap.size := unhide HDS
  generalize hWL : (w3.alloc (.cells #[.slice ac x.centers.length dc, .slice (some ⟨bL, oL, none⟩) x.lists.length dl] 31)).alloc (.cells #[.slice (some ⟨wD.heap.size, 0, none⟩) x.centers.length x.centers.length] 51) = WL at *
  have hlw : w.heap.size + 1 + 1 + 1 + 1 < w1.heap.size := (unhide HH).lt
  have hw1L := (unhide HHeld).size
  have hit : ItAt WL w3.heap.size bL oL x.lists.length dl ia (fun j => (itsL x.lists j).length) ic wD.heap.size 0 (allPl x.lists.length) := by
    refine ⟨bY.at 1 _ rfl, fun j hj => (hB4.cell (p := ⟨bL, oL + j, none⟩) hbL).trans (hli j hj).1, fun i hi => ?_⟩
    rw [allPl_at, Nat.zero_add]
    rw [allPl_len] at hi
    rw [hO4.cellAt i (by have := unhide HL; omega)]
    exact plV_at (by rw [List.getElem?_range (by rw [← unhide HL]; exact hi)])
  have hbp : WL.cell? ⟨w3.heap.size + 1, 0, none⟩ = some (.slice (some ⟨wD.heap.size, 0, none⟩) (allPl x.lists.length).length x.centers.length) := by rw [allPl_len, unhide HL]; exact bP.at 0 _ rfl
  clear hO4 bY bP
  have h30 : ∀ j, (itsL x.lists j).length ≤ 30 := fun j => by
    by_cases hj : j < x.lists.length
    · rw [itsL_eq hj]; exact (tableFault_zero (unhide HTF _ (List.getElem_mem hj))).1
    · simp [itsL, List.getD, List.getElem?_eq_none (Nat.le_of_not_lt hj)]
  refine wpIn_wide.1 (wpIn_rangeFunc_ownH (F := Fence.wide) (n := 9) rfl (by decide) (gf := 141) (lb := #[.pointer (some ⟨w3.heap.size + 1, 0, none⟩), .pointer (some ⟨w3.heap.size, 0, none⟩)]) rfl trivial (enters_of Try.func141 (by kernel_rfl) rfl)
    (listsAt_stops 8 (w3.heap.size + 1) w3.heap.size bL oL x.lists.length dl x.centers.length ia (fun j => (itsL x.lists j).length) ic wD.heap.size 0 (allPl x.lists.length) WL.heap.size (fun b => b = (w.heap.size + 1 + 1 + 1)) (by rw [allPl_len]; omega) ⟨by omega, fun h => by omega⟩ ⟨by have := hbw.size; omega, fun h => by have := hbL; omega⟩ ⟨by omega, fun h => by omega⟩ WL (by omega) (Nat.le_refl _) hbp hit)
    KpS.trans (fun W l _ o' hl _ _ _ => KpS.put _ W l o' hl) (Below.refl _ _) (fun _ => rfl)
    (fun pre W => (WL.heap.size ≤ W.heap.size ∧ (heldP x.lists pre).length = countP x.lists pre) ∧ TabAt W (w.heap.size + 1 + 1 + 1) (countP x.lists pre) (heldP x.lists pre) ∧ (Box w.heap.size #[.map none] 92 W (w.heap.size + 1) ∧ Box w.heap.size #[.int .i64 0] 2 W (w.heap.size + 1 + 1) ∧ Box w.heap.size #[.map (some (w.heap.size + 1 + 1 + 1))] 92 W (w.heap.size + 1 + 1 + 1 + 1)) ∧ Below w.heap.size w W)
    (fun c pre W => c = .ret ∧ (∃ pre' p j, pre = pre' ++ [p] ∧ ∃ hj : j < (itsL x.lists p.1).length, hasI (gatherI (heldP x.lists pre') ((itsL x.lists p.1).take j)) (itsL x.lists p.1)[j].id = true) ∧ (Box w.heap.size #[.map none] 92 W (w.heap.size + 1) ∧ Box w.heap.size #[.int .i64 6] 2 W (w.heap.size + 1 + 1)) ∧ Below w.heap.size w W)
    (fun s A B row hs hg hr => ⟨⟨Nat.le_trans hs.1.1 hg.size, hs.1.2⟩, hs.2.1.ext (ext_of_grownBy hg) (fun e => by have := (hr _ e).1; omega), ⟨box_grown hg hr hs.2.2.1.1, box_grown hg hr hs.2.2.1.2.1, box_grown hg hr hs.2.2.1.2.2⟩, below_grown hg hr hs.2.2.2 (by omega) (Nat.le_refl _)⟩)
    (fun c s A B row hs hg hr => ⟨hs.1, hs.2.1, ⟨box_grown hg hr hs.2.2.1.1, box_grown hg hr hs.2.2.1.2⟩, below_grown hg hr hs.2.2.2 (by omega) (Nat.le_refl _)⟩)
    ⟨⟨Nat.le_refl _, by simp [heldP, countP]⟩, by rw [show countP x.lists ([] : List (Pl x.lists.length)) = 0 by simp [countP]]; exact hT4, ⟨bM4, bR4, bH4⟩, hB4⟩
    (fun y a' W => ∃ Bo, Box 0 #[.int .i64 (y.1 : Int), .slice (ia y.1) (itsL x.lists y.1).length (ic y.1)] 117 W Bo ∧ a' = { tmps := #[.agg #[.slice ac x.centers.length dc, .slice (some ⟨bL, oL, none⟩) x.lists.length dl], .pointer (some ⟨w.heap.size, 0, none⟩), .pointer (some ⟨w.heap.size + 1, 0, none⟩), .pointer (some ⟨w.heap.size + 1 + 1, 0, none⟩), .pointer (some ⟨w.heap.size + 1 + 1 + 1 + 1, 0, none⟩), .pointer (some ⟨Bo, 0, none⟩), undef, undef, undef, undef, .map (some (w.heap.size + 1 + 1 + 1)), .agg #[.slice ac x.centers.length dc, .slice (some ⟨bL, oL, none⟩) x.lists.length dl], .pointer (some ⟨w.heap.size, 0, none⟩), .slice ac x.centers.length dc, .slice (some ⟨wD.heap.size, 0, none⟩) x.centers.length x.centers.length, .func (.func 141) #[] #[.pointer (some ⟨w3.heap.size + 1, 0, none⟩), .pointer (some ⟨w3.heap.size, 0, none⟩)], .agg #[.int .i64 (y.1 : Int), .slice (ia y.1) (itsL x.lists y.1).length (ic y.1)], undef, undef, undef, undef, undef, undef, undef, undef, undef, undef, undef, undef, undef, undef, undef, undef, undef, undef, undef, undef, undef, undef, undef, undef, undef, undef, undef, undef, undef], defers := [] })
    (fun y a' _ A B row hs hg hr => by
      obtain ⟨Bo, q1, q2⟩ := hs
      exact ⟨Bo, box_grown hg hr q1, q2⟩)
    ?assign ?body ?done ?stop)
  case assign =>
    rintro l pre y W K ⟨⟨hs, hp⟩, hT1, ⟨b1, b2, b3⟩, hB1⟩ hK
    have hbn : Below W.heap.size W (W.alloc (.cells #[.int .i64 (y.1 : Int), .slice (ia y.1) (itsL x.lists y.1).length (ic y.1)] 117)) := (Below.refl _ _).alloc (Nat.le_refl _) _
    gi_wp2
    exact hK _ _ (keepsFrom_below hbn) (KpS.of_below _ hbn hs) ⟨⟨Nat.le_trans hs hbn.size, hp⟩, hT1.later hbn, ⟨b1.keep hbn, b2.keep hbn, b3.keep hbn⟩, hB1.trans (hbn.mono hB1.size)⟩ ⟨W.heap.size, newBox (Nat.zero_le _), rfl⟩
  case body =>
    rintro l pre y a' W hl ⟨r, hr⟩ ⟨⟨hs, hlen⟩, hT1, ⟨b1, b2, b3⟩, hB1⟩ ⟨Bo, bO, rfl⟩ hlt
    have o0 := bO.at 0 _ rfl
    have o1 := bO.at 1 _ rfl
    have RI := (hli y.1 y.2).2
    have hpl : pre.length ≤ 5 := by rw [allPl_len] at hlt; omega
    have hcp := countP_le h30 pre
    have hx30 := h30 y.1
    have hxf : tableFault (itsL x.lists y.1) = 0 := by rw [itsL_eq y.2]; exact unhide HTF _ (List.getElem_mem y.2)
    have hxa := (tableFault_zero hxf).2.1
    have HY : Hid (∀ j (hj : j < (itsL x.lists y.1).length), hasI (gatherI (heldP x.lists pre) ((itsL x.lists y.1).take j)) (itsL x.lists y.1)[j].id = true → ∃ pre' p j, pre ++ [y] = pre' ++ [p] ∧ ∃ hj : j < (itsL x.lists p.1).length, hasI (gatherI (heldP x.lists pre') ((itsL x.lists p.1).take j)) (itsL x.lists p.1)[j].id = true) := fun j hj hh => ⟨pre, y, j, rfl, hj, hh⟩
    have HE1 : Hid (heldP x.lists (pre ++ [y]) = gatherI (heldP x.lists pre) (itsL x.lists y.1)) := heldP_snoc _ _ _
    have HE2 : Hid (countP x.lists (pre ++ [y]) = countP x.lists pre + (itsL x.lists y.1).length) := countP_snoc _ _ _
    have hris := heldP_rising x.lists pre
    clear hit hbp hli hB4 bM4 bR4 bH4 hT4 hlt hxf
    generalize heldP x.lists pre = held at *
    generalize countP x.lists pre = cnt at *
    generalize itsL x.lists y.1 = xs at *
    generalize ia y.1 = av at *
    generalize ic y.1 = dv at *
    have HXA := hide hxa
    have HRI := hide RI
    have HT1 := hide hT1
    have HB1 := hide hB1
    have HM1 := hide b1
    have HR1 := hide b2
    have HH1 := hide b3
    have HRS := hide hris
    clear hxa RI hT1 hB1 b1 b2 b3 hris bO
    gi_wp2
    clear o0 o1
    gi_loopw [20] (fun i wr => ∃ k : Nat, k ≤ xs.length ∧ i = .int .i64 k ∧ (gatherI held (xs.take k)).length = cnt + k ∧ TabAt wr (w.heap.size + 1 + 1 + 1) (cnt + k) (gatherI held (xs.take k)) ∧ Ext (fun c => c = (w.heap.size + 1 + 1 + 1)) W wr) (fun i _ => xs.length - (intOf i).toNat)
    case atStart => exact ⟨0, Nat.zero_le _, rfl, hlen, unhide HT1, Ext.refl _ _⟩
    case round =>
      obtain ⟨k, hk, rfl, hlk, hTk, hEk⟩ := hrel
      have hsk := hEk.size
      have bHk := (unhide HH1).ext hEk (by omega)
      have bMk := (unhide HM1).ext hEk (by omega)
      have bRk := (unhide HR1).ext hEk (by omega)
      have hBk := (unhide HB1).trans (hEk.below (unhide HB1).size (fun c hc e => by omega))
      by_cases hlt : k < xs.length
      · obtain ⟨b, off, rfl, hbl⟩ := Lay.sl_addr (unhide HRI) (by omega)
        obtain ⟨row, hc, hr9⟩ := Lay.row_at (unhide HRI) hlt
        replace hr9 := hr9.later hBk
        obtain ⟨a1, d1, rfl, R1⟩ := open_Item hr9
        have c0 : wr.cell? ⟨b, off + k * 2, none⟩ = some (.int .i64 (xs[k]).id) := (hBk.cell (p := ⟨b, off + k * 2, none⟩) hbl).trans (hc 0 (by decide))
        have c1 : wr.cell? ⟨b, off + k * 2 + 1, none⟩ = some (.slice a1 (xs[k]).vec.length d1) := (hBk.cell (p := ⟨b, off + k * 2 + 1, none⟩) hbl).trans (hc 1 (by decide))
        obtain ⟨hid, hvf⟩ := unhide HXA xs[k] (List.getElem_mem hlt)
        have HTK : Hid (gatherI held (xs.take (k + 1)) = putI (gatherI held (xs.take k)) xs[k].id xs[k].vec) := gather_put hlt
        have HYk := hide (unhide HY k hlt)
        have hrk : Rising (gatherI held (xs.take k)) := gatherI_rising (unhide HRS) _
        clear hc hr9
        generalize hx : xs[k] = x5 at *
        clear hx
        generalize gatherI held (xs.take k) = gk at *
        obtain ⟨p5, q5, r5, hv3⟩ := vec3 hvf
        have nb : Below wr.heap.size wr (wr.alloc (.cells #[.int .i64 x5.id, .slice a1 x5.vec.length d1] 106)) := (Below.refl _ _).alloc (Nat.le_refl _) _
        have bI : Box wr.heap.size #[.int .i64 x5.id, .slice a1 x5.vec.length d1] 106 (wr.alloc (.cells #[.int .i64 x5.id, .slice a1 x5.vec.length d1] 106)) wr.heap.size := newBox (Nat.le_refl _)
        have I1 := (Lay.ints_reads R1).later nb
        replace I1 : IsInts (wr.alloc (.cells #[.int .i64 x5.id, .slice a1 x5.vec.length d1] 106)) (.slice a1 x5.vec.length d1) [p5, q5, r5] := by rw [← hv3]; exact I1
        rw [hv3] at hvf HTK
        replace hTk := hTk.later nb
        replace hEk := hEk.trans (ext_of_below nb _)
        replace bHk := bHk.keep nb
        replace bMk := bMk.keep nb
        replace bRk := bRk.keep nb
        replace hBk := hBk.trans (nb.mono hBk.size)
        have hwf := id_wf hid
        have hH0 := bHk.at 0 _ rfl
        have i0 := bI.at 0 _ rfl
        have HV := hide hvf
        have HW := hide hwf
        have HRK := hide hrk
        clear R1 hvf hid hv3 nb
        by_cases hh : hasI gk x5.id = true
        · obtain ⟨z, hz1, hz2⟩ := List.any_eq_true.1 hh
          obtain ⟨pp, qq, rr, -, hlook, -⟩ := hTk.look (unhide HRK) hwf hz1 (by simpa using hz2)
          unfold arr3 at hlook
          have nb7 : Below (wr.alloc (.cells #[.int .i64 x5.id, .slice a1 x5.vec.length d1] 106)).heap.size (wr.alloc (.cells #[.int .i64 x5.id, .slice a1 x5.vec.length d1] 106)) ((wr.alloc (.cells #[.int .i64 x5.id, .slice a1 x5.vec.length d1] 106)).alloc (.cells #[.int .i64 pp, .int .i64 qq, .int .i64 rr] 133)) := (Below.refl _ _).alloc (Nat.le_refl _) _
          have bM7 := bMk.keep nb7
          have bR7 := bRk.keep nb7
          have m0 := bM7.at 0 _ rfl
          have fm := bM7.soft 0
          have lm := bM7.lt
          have bR8 := bR7.other ⟨w.heap.size + 1, 0, none⟩ (.map none) (by simp)
          have r0 := bR8.at 0 _ rfl
          have fr := bR8.soft 0
          have HB7 := hide (((hBk.trans (nb7.mono hBk.size)).setCell (p := ⟨w.heap.size + 1, 0, none⟩) (by simp) (.map none)).setCell (p := ⟨w.heap.size + 1 + 1, 0, none⟩) (by simp; omega) (.int .i64 6))
          have HM7 := hide ((bM7.set 0 (.map none)).other ⟨w.heap.size + 1 + 1, 0, none⟩ (.int .i64 6) (by simp))
          have HR7 := hide (bR8.set 0 (.int .i64 6))
          have HK7 : Hid (KeepsFrom WL.heap.size W ((((wr.alloc (.cells #[.int .i64 x5.id, .slice a1 x5.vec.length d1] 106)).alloc (.cells #[.int .i64 pp, .int .i64 qq, .int .i64 rr] 133)).setCell ⟨w.heap.size + 1, 0, none⟩ (.map none)).setCell ⟨w.heap.size + 1 + 1, 0, none⟩ (.int .i64 6))) :=
            ((keepsFrom_ext (hEk.trans (ext_of_below nb7 _)) (fun c o h1 _ _ e => by omega)).trans ((KeepsOthers.setCell _ _ _).from _)).trans ((KeepsOthers.setCell _ _ _).from _)
          have HYH := hide (unhide HYk hh)
          clear nb7 bM7 bR7 bR8 bMk bRk hEk hBk I1 hTk hh bI bHk hrk hwf
          gi_wp2
          exact ⟨unhide HK7, rfl, unhide HYH, ⟨unhide HM7, unhide HR7⟩, unhide HB7⟩
        · have hh2 : hasI gk x5.id = false := by simpa using hh
          obtain ⟨pp, qq, rr, hlook⟩ := hTk.miss hwf hh2
          unfold arr3 at hlook
          have nb7 : Below (wr.alloc (.cells #[.int .i64 x5.id, .slice a1 x5.vec.length d1] 106)).heap.size (wr.alloc (.cells #[.int .i64 x5.id, .slice a1 x5.vec.length d1] 106)) ((wr.alloc (.cells #[.int .i64 x5.id, .slice a1 x5.vec.length d1] 106)).alloc (.cells #[.int .i64 pp, .int .i64 qq, .int .i64 rr] 133)) := (Below.refl _ _).alloc (Nat.le_refl _) _
          replace hTk := hTk.later nb7
          replace hEk := hEk.trans (ext_of_below nb7 _)
          replace bHk := bHk.keep nb7
          replace bI := bI.keep nb7
          replace I1 := I1.later nb7
          have HNF := hide hh2
          have HEK := hide hEk
          have HBI := hide bI
          have HBH := hide bHk
          have HTK2 := hide hTk
          have HI2 := hide I1
          clear nb7 bMk bRk hEk hBk I1 hTk hh hh2 bI bHk hrk hwf
          gi_wp2
          clear c0 c1 hlook hH0 i0
          generalize hW0 : (wr.alloc (.cells #[.int .i64 x5.id, .slice a1 x5.vec.length d1] 106)).alloc (.cells #[.int .i64 pp, .int .i64 qq, .int .i64 rr] 133) = W0 at *
          clear hW0
          have hI0 : wr.heap.size < W0.heap.size := (unhide HBI).lt
          have hDT : TabAt W0.drew (w.heap.size + 1 + 1 + 1) (cnt + k) gk := unhide HTK2
          have hDI : IsInts W0.drew (.slice a1 x5.vec.length d1) [p5, q5, r5] := unhide HI2
          refine wpIn_region_np (S := fun w' => Ext (fun c => c = (w.heap.size + 1 + 1 + 1)) W0 w') (by kernel_rfl) (by kernel_rfl) (Ext.refl _ _).drew1 (fun hHeld => ?_)
          generalize W0.drew = wD at hHeld hDT hDI ⊢
          refine wpAnyH_take (i := 0) (oi := { dst := some 33, op := Go.Op.load 92 (Go.Operand.tmp 4), type := 92, pos := "l07_ivf.go:110", after := #[], guard := none }) (v := ?vg0) rfl (by kernel_rfl) (by kernel_rfl) (by kernel_rfl) (fun _ _ _ h => h) (Or.inl ⟨by rfl, ?hg0⟩) hHeld ?rg0
          case hg0 =>
            intro wS hSw
            have y0 := ((unhide HBH).ext hSw (by omega)).at 0 _ rfl
            clear hSw
            (try dsimp only at hSw)
            go_simp
            try with_reducible rfl
          case rg0 =>
          simp only [Act.put, List.setIfInBounds_toArray, List.set_cons_zero, List.set_cons_succ]
          refine wpAnyH_take (i := 1) (oi := { dst := some 34, op := Go.Op.fieldAddr 106 (Go.Operand.tmp 7) 0, type := 0, pos := "l07_ivf.go:110", after := #[], guard := none }) (v := ?vg1) rfl (by kernel_rfl) (by kernel_rfl) (by kernel_rfl) (fun _ _ _ h => h) (Or.inl ⟨by rfl, ?hg1⟩) hHeld ?rg1
          case hg1 =>
            intro wS hSw
            (try dsimp only at hSw)
            go_simp
            try with_reducible rfl
          case rg1 =>
          simp only [Act.put, List.setIfInBounds_toArray, List.set_cons_zero, List.set_cons_succ]
          refine wpAnyH_take (i := 2) (oi := { dst := some 35, op := Go.Op.load 2 (Go.Operand.tmp 34), type := 2, pos := "l07_ivf.go:110", after := #[{ on := 1, ground := Go.Ground.data }], guard := none }) (v := ?vg2) rfl (by kernel_rfl) (by kernel_rfl) (by kernel_rfl) (fun _ _ _ h => h) (Or.inl ⟨by rfl, ?hg2⟩) hHeld ?rg2
          case hg2 =>
            intro wS hSw
            have y0 := ((unhide HBI).ext hSw (by omega)).at 0 _ rfl
            have y1 := ((unhide HBI).ext hSw (by omega)).at 1 _ rfl
            clear hSw
            (try dsimp only at hSw)
            go_simp
            try with_reducible rfl
          case rg2 =>
          simp only [Act.put, List.setIfInBounds_toArray, List.set_cons_zero, List.set_cons_succ]
          refine wpAnyH_take (i := 3) (oi := { dst := some 36, op := Go.Op.fieldAddr 106 (Go.Operand.tmp 7) 1, type := 0, pos := "l07_ivf.go:110", after := #[], guard := none }) (v := ?vg3) rfl (by kernel_rfl) (by kernel_rfl) (by kernel_rfl) (fun _ _ _ h => h) (Or.inl ⟨by rfl, ?hg3⟩) hHeld ?rg3
          case hg3 =>
            intro wS hSw
            (try dsimp only at hSw)
            go_simp
            try with_reducible rfl
          case rg3 =>
          simp only [Act.put, List.setIfInBounds_toArray, List.set_cons_zero, List.set_cons_succ]
          refine wpAnyH_take (i := 4) (oi := { dst := some 37, op := Go.Op.load 51 (Go.Operand.tmp 36), type := 51, pos := "l07_ivf.go:110", after := #[{ on := 3, ground := Go.Ground.data }], guard := none }) (v := ?vg4) rfl (by kernel_rfl) (by kernel_rfl) (by kernel_rfl) (fun _ _ _ h => h) (Or.inl ⟨by rfl, ?hg4⟩) hHeld ?rg4
          case hg4 =>
            intro wS hSw
            have y0 := ((unhide HBI).ext hSw (by omega)).at 0 _ rfl
            have y1 := ((unhide HBI).ext hSw (by omega)).at 1 _ rfl
            clear hSw
            (try dsimp only at hSw)
            go_simp
            try with_reducible rfl
          case rg4 =>
          simp only [Act.put, List.setIfInBounds_toArray, List.set_cons_zero, List.set_cons_succ]
          refine wpAnyH_ready (rs := [5]) (by kernel_rfl) (by simp) ?_
          refine AllReadyH.cons (o := { dst := some 38, op := Go.Op.call { callee := Go.Callee.value (Go.Operand.func 93), args := #[Go.Operand.tmp 37], argTypes := #[51] }, type := 134, pos := "l07_ivf.go:110", after := #[{ on := 4, ground := Go.Ground.data }], guard := none }) rfl (fun K hK => ?_) AllReadyH.nil
          go_simp
          go_at_call 93
          refine (vectorOf_ok _ p5 q5 r5 _ hDI (unhide HV)).mono ?_
          rintro e w3 ⟨rfl, hbw3⟩
          try go_wp2_with fail
          refine hK.out _ _ (hHeld.trans (ext_of_below hbw3 _)) (fun hHeld => ?_)
          clear hK K
          try simp only [Act.put, List.setIfInBounds_toArray, List.set_cons_zero, List.set_cons_succ]
          refine wpAnyH_take (i := 6) (oi := { dst := some 32, op := Go.Op.move (Go.Operand.tmp 38), type := 134, pos := "l07_ivf.go:110", after := #[{ on := 5, ground := Go.Ground.data }], guard := none }) (v := ?vg6) rfl (by kernel_rfl) (by kernel_rfl) (by kernel_rfl) (fun _ _ _ h => h) (Or.inl ⟨by rfl, ?hg6⟩) hHeld ?rg6
          case hg6 =>
            intro wS hSw
            (try dsimp only at hSw)
            go_simp
            try with_reducible rfl
          case rg6 =>
          simp only [Act.put, List.setIfInBounds_toArray, List.set_cons_zero, List.set_cons_succ]
          refine wpAnyH_take (i := 7) (oi := { dst := some 39, op := Go.Op.extract (Go.Operand.tmp 32) 0, type := 133, pos := "l07_ivf.go:110", after := #[{ on := 6, ground := Go.Ground.data }], guard := none }) (v := ?vg7) rfl (by kernel_rfl) (by kernel_rfl) (by kernel_rfl) (fun _ _ _ h => h) (Or.inl ⟨by rfl, ?hg7⟩) hHeld ?rg7
          case hg7 =>
            intro wS hSw
            (try dsimp only at hSw)
            go_simp
            try with_reducible rfl
          case rg7 =>
          simp only [Act.put, List.setIfInBounds_toArray, List.set_cons_zero, List.set_cons_succ]
          refine wpAnyH_take (i := 8) (oi := { dst := some 40, op := Go.Op.extract (Go.Operand.tmp 32) 1, type := 2, pos := "l07_ivf.go:110", after := #[{ on := 6, ground := Go.Ground.data }, { on := 9, ground := Go.Ground.gcOnly Go.Departure.lateStores }], guard := none }) (v := ?vg8) rfl (by kernel_rfl) (by kernel_rfl) (by kernel_rfl) (fun _ _ _ h => h) (Or.inl ⟨by rfl, ?hg8⟩) hHeld ?rg8
          case hg8 =>
            intro wS hSw
            (try dsimp only at hSw)
            go_simp
            try with_reducible rfl
          case rg8 =>
          simp only [Act.put, List.setIfInBounds_toArray, List.set_cons_zero, List.set_cons_succ]
          refine wpAnyH_ready (rs := [9]) (by kernel_rfl) (by simp) ?_
          refine AllReadyH.cons (o := { dst := none, op := Go.Op.mapUpdate 92 (Go.Operand.tmp 33) (Go.Operand.tmp 35) (Go.Operand.tmp 39), type := 0, pos := "l07_ivf.go:110", after := #[{ on := 0, ground := Go.Ground.data }, { on := 2, ground := Go.Ground.data }, { on := 7, ground := Go.Ground.data }, { on := 5, ground := Go.Ground.chain }, { on := 0, ground := Go.Ground.phase }, { on := 1, ground := Go.Ground.phase }, { on := 2, ground := Go.Ground.phase }, { on := 3, ground := Go.Ground.phase }, { on := 4, ground := Go.Ground.phase }, { on := 5, ground := Go.Ground.phase }, { on := 6, ground := Go.Ground.phase }, { on := 7, ground := Go.Ground.phase }, { on := 8, ground := Go.Ground.textOnly Go.Departure.lateStores }], guard := none }) rfl (fun K hK => ?_) AllReadyH.nil
          obtain ⟨w5, hrun, hT5, hE5⟩ := (hDT.later hbw3).put (by omega) (unhide HW) p5 q5 r5
          go_simp
          try simp only [hrun]
          try go_simp
          refine hK.out _ _ (hHeld.trans hE5) (fun hHeld => ?_)
          clear hK K
          try simp only [Act.put, List.setIfInBounds_toArray, List.set_cons_zero, List.set_cons_succ]
          refine wpAnyH_done (by kernel_rfl) ?_ _
          refine OnlyN.normal ?_
          have HT5 := hide hT5
          have HE5 := hide ((unhide HEK).trans hHeld)
          clear hHeld hT5 hDT hDI
          gi_wp2
          go_roundw
          case rel =>
            refine ⟨k + 1, by omega, by go_num, ?_, by rw [unhide HTK]; exact unhide HT5, unhide HE5⟩
            rw [unhide HTK, putI_len (unhide HRK), unhide HNF]
            simp
            omega
          case measure => simp [intOf]; omega
      · obtain rfl : k = xs.length := by omega
        rw [List.take_length] at hlk hTk
        have HK7 : Hid (KeepsFrom WL.heap.size W wr) := keepsFrom_ext hEk (fun c o h1 _ _ e => by omega)
        have HP7 : Hid (KpS WL.heap.size (fun b => b = (w.heap.size + 1 + 1 + 1)) W wr) := KpS.of_ext hEk hs (fun _ _ e => e)
        have H7 := hide hTk
        have H8 := hide bMk
        have H9 := hide bRk
        have H10 := hide bHk
        have H11 := hide hBk
        clear hTk bMk bRk bHk hBk hEk
        gi_wp2
        refine ⟨unhide HK7, unhide HP7, ⟨by omega, ?_⟩, ?_, ⟨unhide H8, unhide H9, unhide H10⟩, unhide H11⟩
        · rw [unhide HE1, unhide HE2]; exact hlk
        · rw [unhide HE1, unhide HE2]; exact unhide H7
  case done =>
    rintro D zs W hD rfl ⟨⟨hs, hlen⟩, hT1, ⟨b1, b2, b3⟩, hB1⟩ hK
    obtain ⟨e1, e2⟩ := held_all x.lists
    have hcb := countP_le h30 (allPl x.lists.length)
    rw [allPl_len] at hcb
    rw [e1, e2] at hlen hT1
    rw [e2] at hcb
    clear e1 e2
    have h30' : countIs x.lists ≤ 200 := by omega
    have hln := fun ty => hT1.len ty
    have H0 := b3.at 0 _ rfl
    have m0 := b1.at 0 _ rfl
    have fm := b1.soft 0
    have lm := b1.lt
    have hszW := hB1.size
    have hMD : w.heap.size + 1 + 1 + 1 < D := by omega
    by_cases hc : countIs x.lists ≤ 30
    · have hd : decide ((30 : Int) < ((allIs x.lists).length : Int)) = false := by rw [decide_eq_false_iff_not]; omega
      have hcode : codeL x = 0 := by rw [codeL, if_pos hlen, if_pos hc]
      have bR8 := b2.other ⟨w.heap.size + 1, 0, none⟩ (.map (some (w.heap.size + 1 + 1 + 1))) (by simp)
      have r0 := bR8.at 0 _ rfl
      have fr := bR8.soft 0
      have HM7 := hide ((b1.set 0 (.map (some (w.heap.size + 1 + 1 + 1)))).other ⟨w.heap.size + 1 + 1, 0, none⟩ (.int .i64 0) (by simp))
      have HR7 := hide (bR8.set 0 (.int .i64 0))
      have HB7 := hide ((hB1.setCell (p := ⟨w.heap.size + 1, 0, none⟩) (by simp) (.map (some (w.heap.size + 1 + 1 + 1)))).setCell (p := ⟨w.heap.size + 1 + 1, 0, none⟩) (by simp; omega) (.int .i64 0))
      have HT7 := hide (hT1.ext (((Ext.refl (fun c => c = w.heap.size + 1 ∨ c = w.heap.size + 1 + 1) W).setCell ⟨w.heap.size + 1, 0, none⟩ (.map (some (w.heap.size + 1 + 1 + 1))) (Or.inl rfl)).setCell ⟨w.heap.size + 1 + 1, 0, none⟩ (.int .i64 0) (Or.inr rfl)) (by omega))
      have HK7 := hide ((KeepsOthers.setCell (W.setCell ⟨w.heap.size + 1, 0, none⟩ (.map (some (w.heap.size + 1 + 1 + 1)))) ⟨w.heap.size + 1 + 1, 0, none⟩ (.int .i64 0)).same D _ ((KeepsOthers.setCell W ⟨w.heap.size + 1, 0, none⟩ (.map (some (w.heap.size + 1 + 1 + 1)))).same D _ hK rfl) rfl)
      have HC := hide hcode
      clear bR8 b1 b2 b3 hB1 hT1 hK hcode hc hlen hcb hit hbp hli h30
      go_wp2_with fail
      refine ⟨by simp, .inl ⟨_, _, rfl, run_takeDeferred (unhide HK7), ?_⟩⟩
      have hc5 := cell_kept ((unhide HM7).at 0 _ rfl) (grownBy_putObj' _ D (.deferred none)) (fun r e => by cases e; exact ⟨_, unhide HK7, rfl⟩)
      have hc6 := cell_kept ((unhide HR7).at 0 _ rfl) (grownBy_putObj' _ D (.deferred none)) (fun r e => by cases e; exact ⟨_, unhide HK7, rfl⟩)
      refine ⟨.tuple #[.map (some (w.heap.size + 1 + 1 + 1)), .int .i64 0], by simp [results, Try.results107, go_sem, hc5, hc6], ⟨_, by rw [unhide HC], fun h => absurd (unhide HC) h, fun _ => ⟨_, rfl, by omega, ?_⟩⟩, ?_⟩
      · exact ((unhide HT7).ext (ext_of_grownBy (grownBy_putObj' _ D (.deferred none))) (fun e => by have := Option.some.inj e; omega)).mono h30'
      · exact (unhide HB7).grown (grownBy_putObj' _ D (.deferred none)) (by simp; omega) (fun k e => by cases e; omega)
    · have hd : decide ((30 : Int) < ((allIs x.lists).length : Int)) = true := by rw [decide_eq_true_iff]; omega
      have hcode : codeL x = 2 := by rw [codeL, if_pos hlen, if_neg hc]
      have bR8 := b2.other ⟨w.heap.size + 1, 0, none⟩ (.map none) (by simp)
      have r0 := bR8.at 0 _ rfl
      have fr := bR8.soft 0
      have HM7 := hide ((b1.set 0 (.map none)).other ⟨w.heap.size + 1 + 1, 0, none⟩ (.int .i64 2) (by simp))
      have HR7 := hide (bR8.set 0 (.int .i64 2))
      have HB7 := hide ((hB1.setCell (p := ⟨w.heap.size + 1, 0, none⟩) (by simp) (.map none)).setCell (p := ⟨w.heap.size + 1 + 1, 0, none⟩) (by simp; omega) (.int .i64 2))
      have HK7 := hide ((KeepsOthers.setCell (W.setCell ⟨w.heap.size + 1, 0, none⟩ (.map none)) ⟨w.heap.size + 1 + 1, 0, none⟩ (.int .i64 2)).same D _ ((KeepsOthers.setCell W ⟨w.heap.size + 1, 0, none⟩ (.map none)).same D _ hK rfl) rfl)
      have HC := hide hcode
      clear bR8 b1 b2 b3 hB1 hT1 hK hcode hc hlen hcb hit hbp hli h30
      go_wp2_with fail
      refine ⟨by simp, .inl ⟨_, _, rfl, run_takeDeferred (unhide HK7), ?_⟩⟩
      have hc5 := cell_kept ((unhide HM7).at 0 _ rfl) (grownBy_putObj' _ D (.deferred none)) (fun r e => by cases e; exact ⟨_, unhide HK7, rfl⟩)
      have hc6 := cell_kept ((unhide HR7).at 0 _ rfl) (grownBy_putObj' _ D (.deferred none)) (fun r e => by cases e; exact ⟨_, unhide HK7, rfl⟩)
      refine ⟨.tuple #[.map none, .int .i64 2], by simp [results, Try.results107, go_sem, hc5, hc6], ⟨_, by rw [unhide HC], fun _ => rfl, fun h => ?_⟩, ?_⟩
      · rw [unhide HC] at h; cases h
      · exact (unhide HB7).grown (grownBy_putObj' _ D (.deferred none)) (by simp; omega) (fun k e => by cases e; omega)
  case stop =>
    rintro D c pre W hD hpre ⟨rfl, ⟨pre', p, j, rfl, hj, hh⟩, ⟨q1, q2⟩, q4⟩ hK
    have hcode := held_taken hpre hj hh
    have HR5 := hide q2
    have HM5 := hide q1
    have HB5 := hide q4
    have HK := hide hK
    have HC := hide hcode
    clear q1 q2 q4 hK hit hbp hli hcode hh
    gi_wp2
    refine ⟨by simp, .inl ⟨_, _, rfl, run_takeDeferred (unhide HK), ?_⟩⟩
    have hc5 := cell_kept ((unhide HM5).at 0 _ rfl) (grownBy_putObj' _ D (.deferred none)) (fun r e => by cases e; exact ⟨_, unhide HK, rfl⟩)
    have hc6 := cell_kept ((unhide HR5).at 0 _ rfl) (grownBy_putObj' _ D (.deferred none)) (fun r e => by cases e; exact ⟨_, unhide HK, rfl⟩)
    refine ⟨.tuple #[.map none, .int .i64 6], by simp [results, Try.results107, go_sem, hc5, hc6], ⟨.map none, by rw [unhide HC], fun _ => rfl, fun h => ?_⟩, ?_⟩
    · rw [unhide HC] at h; cases h
    · exact (unhide HB5).grown (grownBy_putObj' _ D (.deferred none)) (by have := (unhide HB5).size; omega) (fun k e => by cases e; omega)

end Go.Proofs.Ytfgadegpdknocaa
