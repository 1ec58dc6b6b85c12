/-
  Texts of this proof in one: ImplListF, ImplForm, ImplTIvf, Iter, KeysC, ListC, ImplItems, ImplPutM, IvfRight, IvfOwn, ImplAddIvf, SpecCen, SpecNear, InB.
  Their conditions stand in their theorems.
-/
import Derived.Test.YtfgadegpdknocaaGreatIa05
import Derived.Test.YtfgadegpdknocaaGreatIa06
import Derived.Test.YtfgadegpdknocaaGreatIa07
import Derived.Shelf.SlIterI.Nil
import Derived.Shelf.SortM.Plain
import Derived.Shelf.SortM.SortNone
import Derived.Ground.GgzProg
import Derived.Ground.SlgmProg
import Derived.Shelf.SlGeneric
import Derived.Test.YtfgadegpdknocaaGreatProg
import Derived.Test.YtfgadegpdknocaaGreatChecked
import Derived.Test.YtfgadegpdknocaaGreatIa04
import Derived.Test.YtfgadegpdknocaaGreatIa01
import Derived.Test.YtfgadegpdknocaaGreatIa03
import Derived.Test.YtfgadegpdknocaaGreatIa08
import Derived.Deep.RegionHeld3

namespace Go.Proofs.YtfgadegpdknocaaGreat
open Go.RowKit

theorem atB_of {cs : List DCenter} {i : Nat} {xs : List DItem} (h : ∀ x ∈ xs, near cs x.vec = i) : atB cs i xs = true := by
  rw [atB, List.all_eq_true]
  intro x hx
  rw [h x hx]
  exact beq_self_eq_true _
theorem atB_not {cs : List DCenter} {i : Nat} {xs : List DItem} {x : DItem} (hx : x ∈ xs) (h : near cs x.vec ≠ i) : atB cs i xs = false := by
  cases e : atB cs i xs with
  | false => rfl
  | true =>
    rw [atB, List.all_eq_true] at e
    exact absurd (by simpa using e x hx) h

set_option maxRecDepth 100000 in
set_option maxHeartbeats 2000000 in
theorem implListF (v : Value) (cs : List DCenter) (p : Nat) (a : Option Addr) (d : Nat) (xs : List DItem) (w : World) (hcs : (Lay.sl Lay.tCenter).Reads w [v] cs) (hx : (Lay.sl Lay.tItem).Reads w [.slice a xs.length d] xs) (hc : centersFault cs = 0) :
    Calls Tryz.prog 124 #[v, .agg #[.int .i64 (p : Int), .slice a xs.length d]] w fun e w' => e = .returned (.int .i64 (listFault cs p xs)) ∧ Below w.heap.size w w' := by
  generalize hF0 : listFault cs p xs = F0
  have HF0 := hide hF0
  clear hF0
  have HB0 : Below w.heap.size w (w.alloc (.cells #[.int .i64 (p : Int), .slice a xs.length d] 110)) := (Below.refl _ _).alloc (Nat.le_refl _) _
  have bO : Box w.heap.size #[.int .i64 (p : Int), .slice a xs.length d] 110 (w.alloc (.cells #[.int .i64 (p : Int), .slice a xs.length d] 110)) w.heap.size := newBox (Nat.le_refl _)
  have hcs1 := hcs.later HB0
  have hx1 := hx.later HB0
  have z0 := bO.at 0 _ rfl
  have z1 := bO.at 1 _ rfl
  have hbig := hx.big
  obtain ⟨av, dv, rfl⟩ := open_sl hcs
  clear hcs hx
  go_enter Tryz.func124, Tryz.ntmps124
  go_wp2_with fail
  generalize w.alloc (.cells #[.int .i64 (p : Int), .slice a xs.length d] 110) = W0 at *
  refine (implTab _ xs W0 hx1).mono ?_
  rintro e w1 ⟨rfl, hb⟩
  have HC := hide (hcs1.later hb)
  have HX := hide (hx1.later hb)
  replace bO := bO.keep hb
  replace HB0 := HB0.trans (hb.mono HB0.size)
  have HB := hide HB0
  have HO := hide bO
  clear hb HB0 hcs1 hx1 z0 z1
  by_cases hf : tableFault xs = 0
  · have hall := (tableFault_zero hf).2.1
    have hlf : listFault cs p xs = if atB cs p xs then 0 else 1 := if_pos hf
    rw [hf]
    have HLF := hide hlf
    have HALL := hide hall
    have HCF := hide hc
    have z0 := bO.at 0 _ rfl
    have z1 := bO.at 1 _ rfl
    clear hall hlf hf hc bO
    go_wp2_with fail
    go_loopw [19] (fun i wr => ∃ k : Nat, k ≤ xs.length ∧ i = .int .i64 k ∧ (∀ x ∈ xs.take k, near cs x.vec = p) ∧ Below w1.heap.size w1 wr) (fun i _ => xs.length - (intOf i).toNat)
    case atStart => exact ⟨0, Nat.zero_le _, rfl, by simp, Below.refl _ _⟩
    case round =>
      obtain ⟨k, hk, rfl, hnear, hB⟩ := hrel
      clear z0 z1
      by_cases hlt : k < xs.length
      · obtain ⟨b, off, rfl, hbl⟩ := Lay.sl_addr (unhide HX) (by omega)
        obtain ⟨row, hcl, hr⟩ := Lay.row_at (unhide HX) hlt
        replace hr := hr.later hB
        obtain ⟨a1, d1, rfl, R1⟩ := open_Item hr
        have c0 : wr.cell? ⟨b, off + k * 2, none⟩ = some (.int .i64 (xs[k]).id) := (hB.cell (p := ⟨b, off + k * 2, none⟩) hbl).trans (hcl 0 (by decide))
        have c1 : wr.cell? ⟨b, off + k * 2 + 1, none⟩ = some (.slice a1 (xs[k]).vec.length d1) := (hB.cell (p := ⟨b, off + k * 2 + 1, none⟩) hbl).trans (hcl 1 (by decide))
        have hvx := (unhide HALL xs[k] (List.getElem_mem hlt)).2
        have hmem : xs[k] ∈ xs := List.getElem_mem hlt
        have htk : xs.take (k + 1) = xs.take k ++ [xs[k]] := List.take_succ_eq_append_getElem hlt
        have z0 := ((unhide HO).keep hB).at 0 _ rfl
        have z1 := ((unhide HO).keep hB).at 1 _ rfl
        have l0 := ((unhide HO).keep hB).lt
        clear hcl hr
        generalize hx : xs[k] = x at *
        clear hx
        have HN := hide hnear
        have HTK := hide htk
        have HM := hide hmem
        have HVX := hide hvx
        have HR1 := hide R1
        have HB2 := hide hB
        clear R1 hvx hB hnear htk hmem
        go_wp2_with fail
        have hbn : Below wr.heap.size wr (wr.alloc (.cells #[.int .i64 x.id, .slice a1 x.vec.length d1] 133)) := (Below.refl _ _).alloc (Nat.le_refl _) _
        have hb5 := (unhide HB2).trans (hbn.mono (unhide HB2).size)
        have L := nearC _ cs _ x.vec _ ((unhide HC).later hb5) (Lay.ints_reads ((unhide HR1).later hbn)) (unhide HCF) (unhide HVX)
        have hsz : w1.heap.size ≤ wr.heap.size := (unhide HB2).size
        refine L.mono ?_
        rintro e w3 ⟨rfl, hb3⟩
        have hb6 := hb5.trans (hb3.mono hb5.size)
        have HB6 := hide hb6
        replace z0 : w3.cell? ⟨w.heap.size, 0, none⟩ = some (.int .i64 (p : Int)) := ((unhide HO).keep hb6).at 0 _ rfl
        have l0 := ((unhide HO).keep hb6).lt
        clear hb3 hb5 hb6 hbn L c0 c1 z1 HR1 HB2
        generalize nearS cs x.vec = ns at *
        by_cases hnp : near cs x.vec = p
        · have hnn : (((near cs x.vec : Nat) : Int) != (p : Int)) = false := by rw [hnp]; simp
          have HNP := hide hnp
          clear hnp
          go_wp2_with fail
          go_roundw
          case rel =>
            refine ⟨k + 1, by omega, by go_num, ?_, unhide HB6⟩
            rw [unhide HTK]
            intro y hy
            rcases List.mem_append.1 hy with hy | hy
            · exact unhide HN y hy
            · rw [List.mem_singleton.1 hy]; exact unhide HNP
          case measure => simp [intOf]; omega
        · have hnn : (((near cs x.vec : Nat) : Int) != (p : Int)) = true := by
            have : ((near cs x.vec : Nat) : Int) ≠ (p : Int) := by omega
            simpa using this
          have hF : Hid (F0 = 1) := by show F0 = 1; rw [← unhide HF0, unhide HLF, atB_not (unhide HM) hnp]; rfl
          go_wp2_with fail
          go_ret
          exact ⟨by rw [unhide hF]; rfl, (unhide HB).trans ((unhide HB6).mono (unhide HB).size)⟩
      · obtain rfl : k = xs.length := by omega
        have hF : Hid (F0 = 0) := by show F0 = 0; rw [← unhide HF0, unhide HLF, atB_of (by simpa using hnear)]; rfl
        have HB6 := hide hB
        clear hB hnear
        go_wp2_with fail
        go_ret
        exact ⟨by rw [unhide hF]; rfl, (unhide HB).trans ((unhide HB6).mono (unhide HB).size)⟩
  · have hd : (tableFault xs != 0) = true := by simpa using hf
    have hF : Hid (F0 = tableFault xs) := by show F0 = tableFault xs; rw [← unhide HF0]; exact if_neg hf
    clear bO
    go_wp2_with fail
    go_ret
    exact ⟨by rw [unhide hF]; rfl, unhide HB⟩

end Go.Proofs.YtfgadegpdknocaaGreat

namespace Go.Proofs.YtfgadegpdknocaaGreat
open Go.RowKit Go.Shelf
attribute [local go_sem] Oper.semAt_some

set_option maxRecDepth 100000 in
set_option maxHeartbeats 4000000 in
theorem implForm_cen (x : DIvf) (ac : Option Addr) (dc : Nat) (al : Option Addr) (dl : Nat) (w : World) (h1 : (Lay.sl Lay.tCenter).Reads w [.slice ac x.centers.length dc] x.centers) (h2 : (Lay.sl Lay.tIvfList).Reads w [.slice al x.lists.length dl] x.lists) (hf : centersFault x.centers ≠ 0) :
    Calls Tryz.prog 90 #[.agg #[.slice ac x.centers.length dc, .slice al x.lists.length dl]] w fun e w' => e = .returned (.int .i64 (formF x)) ∧ Below w.heap.size w w' := by
  have nb1 : Below w.heap.size w (w.alloc (.cells #[.slice ac x.centers.length dc, .slice al x.lists.length dl] 31)) := (Below.refl _ _).alloc (Nat.le_refl _) _
  have nb2 : Below w.heap.size w ((w.alloc (.cells #[.slice ac x.centers.length dc, .slice al x.lists.length dl] 31)).alloc (.cells #[.int .i64 0] 2)) := nb1.alloc (by simp) _
  have bX : Box w.heap.size #[.slice ac x.centers.length dc, .slice al x.lists.length dl] 31 ((w.alloc (.cells #[.slice ac x.centers.length dc, .slice al x.lists.length dl] 31)).alloc (.cells #[.int .i64 0] 2)) w.heap.size := (newBox (Nat.le_refl _)).grow _
  have bR : Box w.heap.size #[.int .i64 0] 2 ((w.alloc (.cells #[.slice ac x.centers.length dc, .slice al x.lists.length dl] 31)).alloc (.cells #[.int .i64 0] 2)) (w.heap.size + 1) := newBoxAt (by omega) (by simp)
  have R1 := h1.later nb2
  have R2 := h2.later nb2
  have c0 := bX.at 0 _ rfl
  have c1 := bX.at 1 _ rfl
  have L := implCen _ x.centers _ R1
  generalize hF0 : formF x = F0
  have HF0 := hide hF0
  clear hF0 nb1 h1 h2
  refine (callsIn_wide (n := 9)).1 ?_
  refine callsIn_of_wp_marks Tryz.func90 rfl trivial ?_ rfl
  refine wpIn_wide.2 ?_
  simp only [Tryz.ntmps90, List.size_toArray, List.length_cons, List.length_nil, Nat.reduceAdd, Nat.reduceSub, Array.replicate_succ, Array.replicate_zero, List.push_toArray, List.append_toArray, List.nil_append, List.cons_append]
  go_wp2_with fail
  refine L.mono ?_
  generalize (w.alloc (.cells #[.slice ac x.centers.length dc, .slice al x.lists.length dl] 31)).alloc (.cells #[.int .i64 0] 2) = W0 at *
  rintro e w1 ⟨rfl, hb⟩
  replace R1 := R1.later hb
  replace R2 := R2.later hb
  replace bX := bX.keep hb
  replace bR := bR.keep hb
  replace nb2 := nb2.trans (hb.mono nb2.size)
  clear hb L c0 c1
  have c0 := bX.at 0 _ rfl
  have c1 := bX.at 1 _ rfl
  have r0 := bR.at 0 _ rfl
  have f0 := bR.soft 0
  have lX := bX.lt
  have lR := bR.lt
  have hd : (centersFault x.centers != 0) = true := by simpa using hf
  have hF : Hid (F0 = centersFault x.centers) := by show F0 = _; rw [← unhide HF0]; exact if_neg hf
  have HB := hide nb2
  have HR := hide bR
  clear nb2 R1 R2 hf bX bR
  go_wp2_with fail
  have z5 : (w1.setCell ⟨w.heap.size + 1, 0, none⟩ (.int .i64 (centersFault x.centers))).cell? ⟨w.heap.size + 1, 0, none⟩ = some (.int .i64 (centersFault x.centers)) := ((unhide HR).set 0 _).at 0 _ rfl
  exact ⟨.int .i64 (centersFault x.centers), by simp [results, Tryz.results90, go_sem, z5], by rw [unhide hF], (unhide HB).setCell (by simp) _⟩

set_option maxRecDepth 100000 in
set_option maxHeartbeats 4000000 in
theorem implForm_len (x : DIvf) (ac : Option Addr) (dc : Nat) (al : Option Addr) (dl : Nat) (w : World) (h1 : (Lay.sl Lay.tCenter).Reads w [.slice ac x.centers.length dc] x.centers) (h2 : (Lay.sl Lay.tIvfList).Reads w [.slice al x.lists.length dl] x.lists) (hf : centersFault x.centers = 0) (hl : x.lists.length ≠ x.centers.length) :
    Calls Tryz.prog 90 #[.agg #[.slice ac x.centers.length dc, .slice al x.lists.length dl]] w fun e w' => e = .returned (.int .i64 (formF x)) ∧ Below w.heap.size w w' := by
  have nb1 : Below w.heap.size w (w.alloc (.cells #[.slice ac x.centers.length dc, .slice al x.lists.length dl] 31)) := (Below.refl _ _).alloc (Nat.le_refl _) _
  have nb2 : Below w.heap.size w ((w.alloc (.cells #[.slice ac x.centers.length dc, .slice al x.lists.length dl] 31)).alloc (.cells #[.int .i64 0] 2)) := nb1.alloc (by simp) _
  have bX : Box w.heap.size #[.slice ac x.centers.length dc, .slice al x.lists.length dl] 31 ((w.alloc (.cells #[.slice ac x.centers.length dc, .slice al x.lists.length dl] 31)).alloc (.cells #[.int .i64 0] 2)) w.heap.size := (newBox (Nat.le_refl _)).grow _
  have bR : Box w.heap.size #[.int .i64 0] 2 ((w.alloc (.cells #[.slice ac x.centers.length dc, .slice al x.lists.length dl] 31)).alloc (.cells #[.int .i64 0] 2)) (w.heap.size + 1) := newBoxAt (by omega) (by simp)
  have R1 := h1.later nb2
  have R2 := h2.later nb2
  have c0 := bX.at 0 _ rfl
  have c1 := bX.at 1 _ rfl
  have L := implCen _ x.centers _ R1
  generalize hF0 : formF x = F0
  have HF0 := hide hF0
  clear hF0 nb1 h1 h2
  refine (callsIn_wide (n := 9)).1 ?_
  refine callsIn_of_wp_marks Tryz.func90 rfl trivial ?_ rfl
  refine wpIn_wide.2 ?_
  simp only [Tryz.ntmps90, List.size_toArray, List.length_cons, List.length_nil, Nat.reduceAdd, Nat.reduceSub, Array.replicate_succ, Array.replicate_zero, List.push_toArray, List.append_toArray, List.nil_append, List.cons_append]
  go_wp2_with fail
  refine L.mono ?_
  generalize (w.alloc (.cells #[.slice ac x.centers.length dc, .slice al x.lists.length dl] 31)).alloc (.cells #[.int .i64 0] 2) = W0 at *
  rintro e w1 ⟨rfl, hb⟩
  replace R1 := R1.later hb
  replace R2 := R2.later hb
  replace bX := bX.keep hb
  replace bR := bR.keep hb
  replace nb2 := nb2.trans (hb.mono nb2.size)
  clear hb L c0 c1
  have c0 := bX.at 0 _ rfl
  have c1 := bX.at 1 _ rfl
  have r0 := bR.at 0 _ rfl
  have f0 := bR.soft 0
  have lX := bX.lt
  have lR := bR.lt
  have hd : ((x.lists.length : Int) != (x.centers.length : Int)) = true := by
    have : (x.lists.length : Int) ≠ (x.centers.length : Int) := by omega
    simpa using this
  have hF : Hid (F0 = 1) := by show F0 = _; rw [← unhide HF0, formF, if_pos hf, if_neg hl]
  rw [hf]
  have HB := hide nb2
  have HR := hide bR
  clear nb2 R1 R2 hf bX bR hl
  go_wp2_with fail
  have z5 : (w1.setCell ⟨w.heap.size + 1, 0, none⟩ (.int .i64 1)).cell? ⟨w.heap.size + 1, 0, none⟩ = some (.int .i64 1) := ((unhide HR).set 0 _).at 0 _ rfl
  exact ⟨.int .i64 1, by simp [results, Tryz.results90, go_sem, z5], by rw [unhide hF], (unhide HB).setCell (by simp) _⟩

set_option maxRecDepth 100000 in
set_option maxHeartbeats 4000000 in
theorem implForm_ok (x : DIvf) (ac : Option Addr) (dc : Nat) (al : Option Addr) (dl : Nat) (w : World) (h1 : (Lay.sl Lay.tCenter).Reads w [.slice ac x.centers.length dc] x.centers) (h2 : (Lay.sl Lay.tIvfList).Reads w [.slice al x.lists.length dl] x.lists) (hf : centersFault x.centers = 0) (HL : Hid (x.lists.length = x.centers.length)) :
    Calls Tryz.prog 90 #[.agg #[.slice ac x.centers.length dc, .slice al x.lists.length dl]] w fun e w' => e = .returned (.int .i64 (formF x)) ∧ Below w.heap.size w w' := by
  have nb1 : Below w.heap.size w (w.alloc (.cells #[.slice ac x.centers.length dc, .slice al x.lists.length dl] 31)) := (Below.refl _ _).alloc (Nat.le_refl _) _
  have nb2 : Below w.heap.size w ((w.alloc (.cells #[.slice ac x.centers.length dc, .slice al x.lists.length dl] 31)).alloc (.cells #[.int .i64 0] 2)) := nb1.alloc (by simp) _
  have bX : Box w.heap.size #[.slice ac x.centers.length dc, .slice al x.lists.length dl] 31 ((w.alloc (.cells #[.slice ac x.centers.length dc, .slice al x.lists.length dl] 31)).alloc (.cells #[.int .i64 0] 2)) w.heap.size := (newBox (Nat.le_refl _)).grow _
  have bR : Box w.heap.size #[.int .i64 0] 2 ((w.alloc (.cells #[.slice ac x.centers.length dc, .slice al x.lists.length dl] 31)).alloc (.cells #[.int .i64 0] 2)) (w.heap.size + 1) := newBoxAt (by omega) (by simp)
  have R1 := h1.later nb2
  have R2 := h2.later nb2
  have c0 := bX.at 0 _ rfl
  have c1 := bX.at 1 _ rfl
  have L := implCen _ x.centers _ R1
  generalize hF0 : formF x = F0
  have HF0 := hide hF0
  have H1 := hide h1
  have H2 := hide h2
  clear hF0 nb1 h1 h2
  refine (callsIn_wide (n := 9)).1 ?_
  refine callsIn_of_wp_marks Tryz.func90 rfl trivial ?_ rfl
  refine wpIn_wide.2 ?_
  simp only [Tryz.ntmps90, List.size_toArray, List.length_cons, List.length_nil, Nat.reduceAdd, Nat.reduceSub, Array.replicate_succ, Array.replicate_zero, List.push_toArray, List.append_toArray, List.nil_append, List.cons_append]
  go_wp2_with fail
  refine L.mono ?_
  generalize (w.alloc (.cells #[.slice ac x.centers.length dc, .slice al x.lists.length dl] 31)).alloc (.cells #[.int .i64 0] 2) = W0 at *
  rintro e w1 ⟨rfl, hb⟩
  replace R1 := R1.later hb
  replace R2 := R2.later hb
  replace bX := bX.keep hb
  replace bR := bR.keep hb
  replace nb2 := nb2.trans (hb.mono nb2.size)
  clear hb L c0 c1
  have c0 := bX.at 0 _ rfl
  have c1 := bX.at 1 _ rfl
  have r0 := bR.at 0 _ rfl
  have f0 := bR.soft 0
  have lX := bX.lt
  have lR := bR.lt
  have hd : ((x.lists.length : Int) != (x.centers.length : Int)) = false := by rw [unhide HL]; simp
  have hn6 : x.centers.length ≤ 6 := (centersFault_zero hf).1.2
  have hn1 : 1 ≤ x.centers.length := (centersFault_zero hf).1.1
  rw [hf]
  have HCF := hide hf
  have HB := hide nb2
  have HR := hide bR
  have HBX := hide bX
  have LP : Hid (∀ W : World, _) := fun W : World => implPlaces ac x.centers.length dc W (by omega)
  have LQ : Hid (∀ (a : Option Addr) (n c : Nat) (W : World), _) := fun (a : Option Addr) (n c : Nat) (W : World) => implListsAt (.slice ac x.centers.length dc) (.slice al x.lists.length dl) a n c W ⟨_, _, _, rfl⟩ ⟨_, _, _, rfl⟩
  clear nb2 R1 R2 hf bX bR
  go_wp2_with fail
  clear c0 c1 r0 f0
  refine wp_region_noPanic ?_
  refine wp_region_held_drew (S := fun w' => Below w1.heap.size w1 w') (by kernel_rfl) (Below.refl _ _).drew (fun hHeld => ?_)
  generalize w1.drew = wD at hHeld ⊢
  refine wpAnyH_take (i := 0) (oi := { dst := some 19, op := Go.Op.load 31 (Go.Operand.tmp 1), type := 31, pos := "l07_ivf.go:92", after := #[], guard := none }) (v := ?vf0) rfl (by kernel_rfl) (by kernel_rfl) (by kernel_rfl) (fun _ _ _ h => h) (Or.inl ⟨by rfl, ?hf0⟩) hHeld ?rf0
  case hf0 =>
    intro wS hSw
    have y0 := ((unhide HBX).keep hSw).at 0 _ rfl
    have y1 := ((unhide HBX).keep hSw).at 1 _ rfl
    clear hSw
    (try dsimp only at hSw)
    go_simp
    try with_reducible rfl
  case rf0 =>
  simp only [Act.put, List.setIfInBounds_toArray, List.set_cons_zero, List.set_cons_succ]
  refine wpAnyH_take (i := 1) (oi := { dst := some 20, op := Go.Op.fieldAddr 31 (Go.Operand.tmp 1) 0, type := 0, pos := "l07_ivf.go:92", after := #[], guard := none }) (v := ?vf1) rfl (by kernel_rfl) (by kernel_rfl) (by kernel_rfl) (fun _ _ _ h => h) (Or.inl ⟨by rfl, ?hf1⟩) hHeld ?rf1
  case hf1 =>
    intro wS hSw
    (try dsimp only at hSw)
    go_simp
    try with_reducible rfl
  case rf1 =>
  simp only [Act.put, List.setIfInBounds_toArray, List.set_cons_zero, List.set_cons_succ]
  refine wpAnyH_take (i := 2) (oi := { dst := some 21, op := Go.Op.load 28 (Go.Operand.tmp 20), type := 28, pos := "l07_ivf.go:92", after := #[{ on := 1, ground := Go.Ground.data }], guard := none }) (v := ?vf2) rfl (by kernel_rfl) (by kernel_rfl) (by kernel_rfl) (fun _ _ _ h => h) (Or.inl ⟨by rfl, ?hf2⟩) hHeld ?rf2
  case hf2 =>
    intro wS hSw
    have y0 := ((unhide HBX).keep hSw).at 0 _ rfl
    have y1 := ((unhide HBX).keep hSw).at 1 _ rfl
    clear hSw
    (try dsimp only at hSw)
    go_simp
    try with_reducible rfl
  case rf2 =>
  simp only [Act.put, List.setIfInBounds_toArray, List.set_cons_zero, List.set_cons_succ]
  refine wpAnyH_ready (rs := [3]) (by kernel_rfl) (by simp) ?_
  refine AllReadyH.cons (o := { dst := some 22, op := Go.Op.call { callee := Go.Callee.value (Go.Operand.func 123), args := #[Go.Operand.tmp 21], argTypes := #[28] }, type := 26, pos := "l07_ivf.go:92", after := #[{ on := 2, ground := Go.Ground.data }], guard := none }) rfl (fun K hK => ?_) AllReadyH.nil
  go_simp
  go_at_call 123
  refine (unhide LP _).mono ?_
  rintro e w3 ⟨rfl, hO3, hb3⟩
  try go_wp2_with fail
  refine hK.out _ _ (hHeld.trans (hb3.mono hHeld.size)) (fun hHeld => ?_)
  clear hK K
  try simp only [Act.put, List.setIfInBounds_toArray, List.set_cons_zero, List.set_cons_succ]
  refine wpAnyH_ready (rs := [4]) (by kernel_rfl) (by simp) ?_
  refine AllReadyH.cons (o := { dst := some 23, op := Go.Op.call { callee := Go.Callee.value (Go.Operand.func 108), args := #[Go.Operand.tmp 19, Go.Operand.tmp 22], argTypes := #[31, 26] }, type := 155, pos := "l07_ivf.go:92", after := #[{ on := 0, ground := Go.Ground.data }, { on := 3, ground := Go.Ground.data }, { on := 3, ground := Go.Ground.chain }], guard := none }) rfl (fun K hK => ?_) AllReadyH.nil
  go_simp
  go_at_call 108
  refine (unhide LQ _ _ _ _).mono ?_
  rintro e w4 ⟨rfl, rfl⟩
  try go_wp2_with fail
  refine hK.out _ _ ((hHeld.alloc hHeld.size _).alloc (Nat.le_trans hHeld.size (by simp)) _) (fun hHeld => ?_)
  clear hK K
  try simp only [Act.put, List.setIfInBounds_toArray, List.set_cons_zero, List.set_cons_succ]
  refine wpAnyH_done (by kernel_rfl) ?_ _
  refine NoPanic.normal ?_
  have HO3 := hide hO3
  have HB3 := hide hb3
  have HHeld := hide hHeld
  clear hO3 hb3 hHeld
  go_wp2_with fail
  have hpos : 0 < x.lists.length := by rw [unhide HL]; omega
  have hm6 : x.lists.length ≤ 6 := by rw [unhide HL]; omega
  obtain ⟨bL, oL, ia, ic, rfl, hbL, hli⟩ := lists_at (unhide H2) hpos
  have hbw := unhide HB
  have hO4 := ((unhide HO3).alloc (.cells #[.slice ac x.centers.length dc, .slice (some ⟨bL, oL, none⟩) x.lists.length dl] 31)).alloc (.cells #[.slice (some ⟨wD.heap.size, 0, none⟩) x.centers.length x.centers.length] 26)
  have bX4 := ((unhide HBX).keep (unhide HHeld))
  have bR4 := ((unhide HR).keep (unhide HHeld))
  have hB4 := hbw.trans ((unhide HHeld).mono hbw.size)
  have hsz3 : wD.heap.size < w3.heap.size := ((unhide HO3).lt wD.heap.size rfl).2
  have bY : Box 0 #[.slice ac x.centers.length dc, .slice (some ⟨bL, oL, none⟩) x.lists.length dl] 31 ((w3.alloc (.cells #[.slice ac x.centers.length dc, .slice (some ⟨bL, oL, none⟩) x.lists.length dl] 31)).alloc (.cells #[.slice (some ⟨wD.heap.size, 0, none⟩) x.centers.length x.centers.length] 26)) w3.heap.size := (newBox (Nat.zero_le _)).grow _
  have bP : Box 0 #[.slice (some ⟨wD.heap.size, 0, none⟩) x.centers.length x.centers.length] 26 ((w3.alloc (.cells #[.slice ac x.centers.length dc, .slice (some ⟨bL, oL, none⟩) x.lists.length dl] 31)).alloc (.cells #[.slice (some ⟨wD.heap.size, 0, none⟩) x.centers.length x.centers.length] 26)) (w3.heap.size + 1) := newBoxAt (Nat.zero_le _) (by simp)
  have hszL : ((w3.alloc (.cells #[.slice ac x.centers.length dc, .slice (some ⟨bL, oL, none⟩) x.lists.length dl] 31)).alloc (.cells #[.slice (some ⟨wD.heap.size, 0, none⟩) x.centers.length x.centers.length] 26)).heap.size = w3.heap.size + 2 := by simp
  generalize hWL : (w3.alloc (.cells #[.slice ac x.centers.length dc, .slice (some ⟨bL, oL, none⟩) x.lists.length dl] 31)).alloc (.cells #[.slice (some ⟨wD.heap.size, 0, none⟩) x.centers.length x.centers.length] 26) = WL at *
  have hlw : w.heap.size + 1 < w1.heap.size := (unhide HR).lt
  have hw1L := (unhide HHeld).size
  have hit : ItAt WL w3.heap.size bL oL x.lists.length dl ia (fun j => (itsL x.lists j).length) ic wD.heap.size 0 (allPl x.lists.length) := by
    refine ⟨bY.at 1 _ rfl, fun j hj => (hB4.cell (p := ⟨bL, oL + j, none⟩) hbL).trans (hli j hj).1, fun i hi => ?_⟩
    rw [allPl_at, Nat.zero_add]
    rw [allPl_len] at hi
    rw [hO4.cellAt i (by have := unhide HL; omega)]
    exact plV_at (by rw [List.getElem?_range (by rw [← unhide HL]; exact hi)])
  have hbp : WL.cell? ⟨w3.heap.size + 1, 0, none⟩ = some (.slice (some ⟨wD.heap.size, 0, none⟩) (allPl x.lists.length).length x.centers.length) := by rw [allPl_len, unhide HL]; exact bP.at 0 _ rfl
  clear hO4 bY bP
  refine wpIn_wide.1 (wpIn_rangeFunc_ownH (F := Fence.wide) (n := 9) rfl (by decide) (gf := 134) (lb := #[.pointer (some ⟨w3.heap.size + 1, 0, none⟩), .pointer (some ⟨w3.heap.size, 0, none⟩)]) rfl trivial (enters_of Tryz.func134 (by kernel_rfl) rfl)
    (listsAt_stops 8 (w3.heap.size + 1) w3.heap.size bL oL x.lists.length dl x.centers.length ia (fun j => (itsL x.lists j).length) ic wD.heap.size 0 (allPl x.lists.length) WL.heap.size (fun _ => False) (by rw [allPl_len]; omega) ⟨by omega, fun h => h⟩ ⟨by have := hbw.size; omega, fun h => h⟩ ⟨by omega, fun h => h⟩ WL (by omega) (Nat.le_refl _) hbp hit)
    KpS.trans (fun W l _ o' hl _ _ _ => KpS.put _ W l o' hl) (Below.refl _ _) (fun _ => rfl)
    (fun pre W => (WL.heap.size ≤ W.heap.size ∧ ∀ p ∈ pre, faultAt x p.1 = 0) ∧ Box w.heap.size #[.slice ac x.centers.length dc, .slice (some ⟨bL, oL, none⟩) x.lists.length dl] 31 W w.heap.size ∧ Box w.heap.size #[.int .i64 0] 2 W (w.heap.size + 1) ∧ Below w.heap.size w W)
    (fun c pre W => c = .ret ∧ ∃ pre' p, pre = pre' ++ [p] ∧ (∀ q ∈ pre', faultAt x q.1 = 0) ∧ faultAt x p.1 ≠ 0 ∧ Box w.heap.size #[.int .i64 (faultAt x p.1)] 2 W (w.heap.size + 1) ∧ Below w.heap.size w W)
    (fun s A B row hs hg hr => ⟨⟨Nat.le_trans hs.1.1 hg.size, hs.1.2⟩, box_grown hg hr hs.2.1, box_grown hg hr hs.2.2.1, below_grown hg hr hs.2.2.2 (by omega) (Nat.le_refl _)⟩)
    (fun c s A B row hs hg hr => by
      obtain ⟨rfl, pre', p, rfl, q1, q2, q3, q4⟩ := hs
      exact ⟨rfl, pre', p, rfl, q1, q2, box_grown hg hr q3, below_grown hg hr q4 (by omega) (Nat.le_refl _)⟩)
    ⟨⟨Nat.le_refl _, by simp⟩, bX4, bR4, hB4⟩
    (fun y a' W => ∃ Bo, Box 0 #[.int .i64 (y.1 : Int), .slice (ia y.1) (itsL x.lists y.1).length (ic y.1)] 110 W Bo ∧ a' = { tmps := #[.agg #[.slice ac x.centers.length dc, .slice (some ⟨bL, oL, none⟩) x.lists.length dl], .pointer (some ⟨w.heap.size, 0, none⟩), .pointer (some ⟨w.heap.size + 1, 0, none⟩), .int .i64 0, .pointer (some ⟨Bo, 0, none⟩), undef, .pointer (some ⟨w.heap.size, 0, none⟩), .slice ac x.centers.length dc, .int .i64 0, .int .i64 0, .bool false, undef, .pointer (some ⟨w.heap.size, 1, none⟩), .slice (some ⟨bL, oL, none⟩) x.lists.length dl, .int .i64 (x.lists.length : Int), .pointer (some ⟨w.heap.size, 0, none⟩), .slice ac x.centers.length dc, .int .i64 (x.centers.length : Int), .bool false, .agg #[.slice ac x.centers.length dc, .slice (some ⟨bL, oL, none⟩) x.lists.length dl], .pointer (some ⟨w.heap.size, 0, none⟩), .slice ac x.centers.length dc, .slice (some ⟨wD.heap.size, 0, none⟩) x.centers.length x.centers.length, .func (.func 134) #[] #[.pointer (some ⟨w3.heap.size + 1, 0, none⟩), .pointer (some ⟨w3.heap.size, 0, none⟩)], .agg #[.int .i64 (y.1 : Int), .slice (ia y.1) (itsL x.lists y.1).length (ic y.1)], undef, undef, undef, undef, undef, undef, undef], defers := [] })
    (fun y a' _ A B row hs hg hr => by
      obtain ⟨Bo, q1, q2⟩ := hs
      exact ⟨Bo, box_grown hg hr q1, q2⟩)
    ?assign ?body ?done ?stop)
  case assign =>
    rintro l pre y W K ⟨⟨hs, hp⟩, b1, b2, hB1⟩ hK
    have hbn : Below W.heap.size W (W.alloc (.cells #[.int .i64 (y.1 : Int), .slice (ia y.1) (itsL x.lists y.1).length (ic y.1)] 110)) := (Below.refl _ _).alloc (Nat.le_refl _) _
    gi_wp2
    exact hK _ _ (keepsFrom_below hbn) (KpS.of_below _ hbn hs) ⟨⟨Nat.le_trans hs hbn.size, hp⟩, b1.keep hbn, b2.keep hbn, hB1.trans (hbn.mono hB1.size)⟩ ⟨W.heap.size, newBox (Nat.zero_le _), rfl⟩
  case body =>
    rintro l pre y a' W hl ⟨r, hr⟩ ⟨⟨hs, hp⟩, b1, b2, hB1⟩ ⟨Bo, bO, rfl⟩ hlt
    have c0 := b1.at 0 _ rfl
    have o0 := bO.at 0 _ rfl
    have o1 := bO.at 1 _ rfl
    have hy2 := y.2
    have LF := implListF _ x.centers y.1 (ia y.1) (ic y.1) (itsL x.lists y.1) W ((unhide H1).later hB1) ((hli y.1 y.2).2.later hB1) (unhide HCF)
    have LG := hide (CallsIn.inRound l ((callsIn_wide (n := 9 - 1 - 1 - 1)).2 LF))
    have HP := hide hp
    have HB1 := hide hB1
    have HB2 := hide b1
    have HB3 := hide b2
    clear LF hp hB1 hit hbp hli hB4 bX4 bR4 b1 b2 bO
    gi_wp2
    refine ⟨trivial, ?_⟩
    gi_at_call 124
    refine (unhide LG).mono ?_
    rintro e w5 ⟨rfl, hb5⟩
    have e5 : listFault x.centers y.1 (itsL x.lists y.1) = faultAt x y.1 := rfl
    rw [e5]
    have hbb := unhide HB1
    have hB5 := hide (hbb.trans (hb5.mono hbb.size))
    have HK5 : Hid (KeepsFrom WL.heap.size W w5) := keepsFrom_below hb5
    have HP5 : Hid (KpS WL.heap.size (fun _ => False) W w5) := KpS.of_below _ hb5 hs
    have HX5 := hide ((unhide HB2).keep hb5)
    have HR5 := hide ((unhide HB3).keep hb5)
    have hs5 := hb5.size
    clear c0 o0 o1 hb5 hbb e5 LG
    by_cases hz : faultAt x y.1 = 0
    · rw [hz]
      have HZ := hide hz
      clear hz
      gi_wp2
      refine ⟨unhide HK5, unhide HP5, ⟨by omega, fun q hq => ?_⟩, unhide HX5, unhide HR5, unhide hB5⟩
      rcases List.mem_append.1 hq with hq | hq
      · exact unhide HP q hq
      · rw [List.mem_singleton.1 hq]; exact unhide HZ
    · have hd5 : (faultAt x y.1 != 0) = true := by simpa using hz
      have HZ := hide hz
      have r0 := (unhide HR5).at 0 _ rfl
      have f0 := (unhide HR5).soft 0
      have lR5 := (unhide HR5).lt
      clear hz
      gi_wp2
      refine ⟨(unhide HK5).trans ((KeepsOthers.setCell _ _ _).from _), rfl, pre, y, rfl, unhide HP, unhide HZ, (unhide HR5).set 0 _, (unhide hB5).setCell (by simp) _⟩
  case done =>
    rintro D xs W hD rfl ⟨⟨hs, hp⟩, b1, b2, hB1⟩ hK
    have r0 := b2.at 0 _ rfl
    have f0 := b2.soft 0
    have l0 := b2.lt
    have HR5 := hide b2
    have HB5 := hide hB1
    have hF : Hid (F0 = 0) := by show F0 = 0; rw [← unhide HF0]; exact form_all (unhide HCF) (unhide HL) hp
    have HK := hide hK
    clear b1 b2 hB1 hK hit hbp hli
    go_wp2_with fail
    have hK' := (KeepsOthers.setCell W ⟨w.heap.size + 1, 0, none⟩ (.int .i64 0)).same D _ (unhide HK) rfl
    refine ⟨by simp, .inl ⟨_, _, rfl, run_takeDeferred hK', ?_⟩⟩
    have hc5 := cell_kept (((unhide HR5).set 0 (.int .i64 0)).at 0 _ rfl) (grownBy_putObj' _ D (.deferred none)) (fun r e => by cases e; exact ⟨_, hK', rfl⟩)
    refine ⟨.int .i64 0, by simp [results, Tryz.results90, go_sem, hc5], by rw [unhide hF], ?_⟩
    exact ((unhide HB5).setCell (by simp) _).grown (grownBy_putObj' _ D (.deferred none)) (by have := (unhide HB5).size; simp; omega) (fun k e => by cases e; omega)
  case stop =>
    rintro D c pre W hD hpre ⟨rfl, pre', p, rfl, q1, q2, q3, q4⟩ hK
    have hF : Hid (F0 = faultAt x p.1) := by show F0 = _; rw [← unhide HF0]; exact form_at (unhide HCF) (unhide HL) hpre q1 q2
    have HR5 := hide q3
    have HB5 := hide q4
    have HK := hide hK
    clear q1 q2 q3 q4 hK hit hbp hli
    gi_wp2
    refine ⟨by simp, .inl ⟨_, _, rfl, run_takeDeferred (unhide HK), ?_⟩⟩
    have hc5 := cell_kept ((unhide HR5).at 0 _ rfl) (grownBy_putObj' _ D (.deferred none)) (fun r e => by cases e; exact ⟨_, unhide HK, rfl⟩)
    refine ⟨.int .i64 (faultAt x p.1), by simp [results, Tryz.results90, go_sem, hc5], by rw [unhide hF], ?_⟩
    exact (unhide HB5).grown (grownBy_putObj' _ D (.deferred none)) (by have := (unhide HB5).size; omega) (fun k e => by cases e; omega)


theorem implForm (x : DIvf) (ac : Option Addr) (dc : Nat) (al : Option Addr) (dl : Nat) (w : World) (h1 : (Lay.sl Lay.tCenter).Reads w [.slice ac x.centers.length dc] x.centers) (h2 : (Lay.sl Lay.tIvfList).Reads w [.slice al x.lists.length dl] x.lists) :
    Calls Tryz.prog 90 #[.agg #[.slice ac x.centers.length dc, .slice al x.lists.length dl]] w fun e w' => e = .returned (.int .i64 (formF x)) ∧ Below w.heap.size w w' := by
  by_cases hf : centersFault x.centers = 0
  · by_cases hl : x.lists.length = x.centers.length
    · exact implForm_ok x ac dc al dl w h1 h2 hf hl
    · exact implForm_len x ac dc al dl w h1 h2 hf hl
  · exact implForm_cen x ac dc al dl w h1 h2 hf

end Go.Proofs.YtfgadegpdknocaaGreat

namespace Go.Proofs.YtfgadegpdknocaaGreat
open Go.RowKit

theorem ivfFault_form (x : DIvf) : ivfFault x = if formF x = 0 then codeL x else formF x := by
  unfold ivfFault formF codeL
  by_cases h1 : centersFault x.centers = 0
  · simp only [if_pos h1]
    by_cases h2 : x.lists.length = x.centers.length
    · simp only [if_pos h2]
    · simp only [if_neg h2]
      rw [if_neg (by decide)]
  · simp only [if_neg h1]
theorem form_zero {x : DIvf} (h : formF x = 0) : centersFault x.centers = 0 ∧ x.lists.length = x.centers.length ∧ ∀ l ∈ x.lists, tableFault l.items = 0 := by
  unfold formF at h
  by_cases h1 : centersFault x.centers = 0
  · rw [if_pos h1] at h
    by_cases h2 : x.lists.length = x.centers.length
    · rw [if_pos h2] at h
      exact ⟨h1, h2, list_facts h⟩
    · rw [if_neg h2] at h; cases h
  · rw [if_neg h1] at h; exact absurd h h1

set_option maxRecDepth 10000 in
set_option maxHeartbeats 1000000 in
theorem implTIvf (x : DIvf) (ac : Option Addr) (dc : Nat) (al : Option Addr) (dl : Nat) (w : World) (h1 : (Lay.sl Lay.tCenter).Reads w [.slice ac x.centers.length dc] x.centers) (h2 : (Lay.sl Lay.tIvfList).Reads w [.slice al x.lists.length dl] x.lists) :
    Calls Tryz.prog 45 #[.agg #[.slice ac x.centers.length dc, .slice al x.lists.length dl]] w fun e w' => (∃ mv, e = .returned (.tuple #[mv, .int .i64 (ivfFault x)]) ∧ (ivfFault x ≠ 0 → mv = .map none) ∧ (ivfFault x = 0 → ∃ b, mv = .map (some b) ∧ w.heap.size ≤ b ∧ TabAt w' b 200 (allIs x.lists))) ∧ Below w.heap.size w w' := by
  have nb : Below w.heap.size w (w.alloc (.cells #[.slice ac x.centers.length dc, .slice al x.lists.length dl] 31)) := (Below.refl _ _).alloc (Nat.le_refl _) _
  have bX : Box w.heap.size #[.slice ac x.centers.length dc, .slice al x.lists.length dl] 31 (w.alloc (.cells #[.slice ac x.centers.length dc, .slice al x.lists.length dl] 31)) w.heap.size := newBox (Nat.le_refl _)
  have L := implForm x ac dc al dl _ (h1.later nb) (h2.later nb)
  have hfi := ivfFault_form x
  generalize hF0 : ivfFault x = F0 at *
  have HF0 := hide hfi
  have c0 := bX.at 0 _ rfl
  have c1 := bX.at 1 _ rfl
  clear hfi
  go_enter Tryz.func45, Tryz.ntmps45
  go_wp2_with fail
  generalize w.alloc (.cells #[.slice ac x.centers.length dc, .slice al x.lists.length dl] 31) = W0 at *
  refine L.mono ?_
  rintro e w1 ⟨rfl, hb⟩
  replace bX := bX.keep hb
  replace nb := nb.trans (hb.mono nb.size)
  clear hb L c0 c1
  by_cases hf : formF x = 0
  · obtain ⟨q1, q2, q3⟩ := form_zero hf
    have L2 := hide (implTLists x ac dc al dl w1 (h1.later nb) (h2.later nb) q1 q2 q3)
    have hF : Hid (F0 = codeL x) := by show F0 = _; rw [unhide HF0, if_pos hf]
    rw [hf]
    have c0 := bX.at 0 _ rfl
    have c1 := bX.at 1 _ rfl
    have HB := hide nb
    clear q1 q2 q3 hf bX nb h1 h2 hF0
    go_wp2_with fail
    refine (unhide L2).mono ?_
    rintro e w2 ⟨⟨mv, rfl, m1, m2⟩, hb2⟩
    have HM1 := hide m1
    have HM2 := hide m2
    have HB2 := hide ((unhide HB).trans (hb2.mono (unhide HB).size))
    clear m1 m2 hb2 L2 c0 c1
    go_wp2_with fail
    refine bodyPost_ret (v := .tuple #[mv, .int .i64 (codeL x)]) (by simp [results, Tryz.results45, go_sem]) rfl ?_
    rw [unhide hF]
    refine ⟨⟨mv, rfl, unhide HM1, fun h => ?_⟩, unhide HB2⟩
    obtain ⟨b, e1, e2, e3⟩ := unhide HM2 h
    exact ⟨b, e1, Nat.le_trans (unhide HB).size e2, e3⟩
  · have hd : (formF x != 0) = true := by simpa using hf
    have hF : Hid (F0 = formF x) := by show F0 = _; rw [unhide HF0, if_neg hf]
    have HB := hide nb
    have HN := hide hf
    clear hf bX nb h1 h2 hF0
    go_wp2_with fail
    refine bodyPost_ret (v := .tuple #[.map none, .int .i64 (formF x)]) (by simp [results, Tryz.results45, go_sem]) rfl ?_
    rw [unhide hF]
    exact ⟨⟨_, rfl, fun _ => rfl, fun h => absurd h (unhide HN)⟩, unhide HB⟩

set_option maxRecDepth 10000 in
set_option maxHeartbeats 1000000 in
theorem implIvfF (cs : List Value) (x : DIvf) (w : World) (h : Lay.tIvf.Reads w cs x) :
    Calls Tryz.prog 106 #[.agg cs.toArray] w fun e w' => e = .returned (.int .i64 (ivfFault x)) ∧ Below w.heap.size w w' := by
  obtain ⟨ac, dc, al, dl, rfl, R0, R1⟩ := open_Ivf h
  have nb : Below w.heap.size w (w.alloc (.cells #[.slice ac x.centers.length dc, .slice al x.lists.length dl] 31)) := (Below.refl _ _).alloc (Nat.le_refl _) _
  have bx : Box w.heap.size #[.slice ac x.centers.length dc, .slice al x.lists.length dl] 31 (w.alloc (.cells #[.slice ac x.centers.length dc, .slice al x.lists.length dl] 31)) w.heap.size := newBox (Nat.le_refl _)
  have L := hide (implTIvf x ac dc al dl _ (R0.later nb) (R1.later nb))
  have HB := hide nb
  have c0 := bx.at 0 _ rfl
  have c1 := bx.at 1 _ rfl
  clear h R0 R1 nb bx
  go_enter Tryz.func106, Tryz.ntmps106
  go_wp2_with fail
  refine (unhide L).mono ?_
  rintro e w1 ⟨⟨mv, rfl, -, -⟩, hb⟩
  replace HB := hide ((unhide HB).trans (hb.mono (unhide HB).size))
  clear hb L c0 c1
  go_wp2_with fail
  go_ret
  exact ⟨rfl, unhide HB⟩

end Go.Proofs.YtfgadegpdknocaaGreat

namespace Go.Proofs
open Go.Shelf
def Tryz.keys95_ren : Go.Shelf.Ren := ⟨fun | 7 => 95 | 10 => 127 | n => n, fun | 23 => 85 | 26 => 2 | 3 => 90 | 28 => 144 | 0 => 0 | 27 => 143 | 33 => 88 | 4 => 4 | n => n, fun | n => n⟩
theorem Tryz.keys95 : Go.Proofs.SlLaysZI.n7 Tryz.prog Tryz.keys95_ren := {
  mixed := by kernel_rfl
  f7 := ⟨Tryz.f95.name, by decide, Tryz.func95.trans (congrArg some (by kernel_rfl))⟩
  f10 := ⟨Tryz.f127.name, by decide, Tryz.func127.trans (congrArg some (by kernel_rfl))⟩
  t0 := Tryz.underlying0
  a0 := Tryz.isAgg0
  z0 := Tryz.sizeOf0
  v0 := Tryz.zeroValue0
  t4 := Tryz.underlying4
  a4 := Tryz.isAgg4
  z4 := Tryz.sizeOf4
  v4 := Tryz.zeroValue4
  t23 := Tryz.underlying85
  a23 := Tryz.isAgg85
  z23 := Tryz.sizeOf85
  v23 := Tryz.zeroValue85
  t26 := Tryz.underlying2
  a26 := Tryz.isAgg2
  z26 := Tryz.sizeOf2
  v26 := Tryz.zeroValue2
  t27 := Tryz.underlying143
  a27 := Tryz.isAgg143
  z27 := Tryz.sizeOf143
  v27 := Tryz.zeroValue143
  t28 := Tryz.underlying144
  a28 := Tryz.isAgg144
  z28 := Tryz.sizeOf144
  v28 := Tryz.zeroValue144
  t33 := Tryz.underlying88
  a33 := Tryz.isAgg88
  z33 := Tryz.sizeOf88
  v33 := Tryz.zeroValue88 }
def Tryz.sorted94_ren : Go.Shelf.Ren := ⟨fun | 6 => 94 | 8 => 125 | 9 => 126 | 11 => 145 | 13 => 147 | 12 => 146 | 23 => 162 | 24 => 163 | 14 => 153 | 15 => 154 | 16 => 155 | 17 => 156 | 18 => 157 | 19 => 158 | 20 => 159 | 21 => 160 | 22 => 161 | 25 => 168 | 26 => 169 | 27 => 170 | 28 => 171 | 29 => 172 | 30 => 150 | 31 => 175 | n => n, fun | 26 => 2 | 28 => 144 | 24 => 26 | 0 => 0 | 3 => 3 | 37 => 186 | 48 => 201 | 50 => 203 | 4 => 4 | 40 => 193 | 39 => 192 | 45 => 198 | 5 => 5 | 9 => 9 | 51 => 207 | 55 => 211 | 57 => 213 | 58 => 214 | 33 => 88 | n => n, fun | n => n⟩
theorem Tryz.sorted94 : Go.Proofs.SlLaysZI.n6 Tryz.prog Tryz.sorted94_ren := {
  mixed := by kernel_rfl
  f6 := ⟨Tryz.f94.name, by decide, Tryz.func94.trans (congrArg some (by kernel_rfl))⟩
  f8 := ⟨Tryz.f125.name, by decide, Tryz.func125.trans (congrArg some (by kernel_rfl))⟩
  f11 := ⟨Tryz.f145.name, by decide, Tryz.func145.trans (congrArg some (by kernel_rfl))⟩
  t0 := Tryz.underlying0
  a0 := Tryz.isAgg0
  z0 := Tryz.sizeOf0
  v0 := Tryz.zeroValue0
  t24 := Tryz.underlying26
  a24 := Tryz.isAgg26
  z24 := Tryz.sizeOf26
  v24 := Tryz.zeroValue26
  t26 := Tryz.underlying2
  a26 := Tryz.isAgg2
  z26 := Tryz.sizeOf2
  v26 := Tryz.zeroValue2
  t28 := Tryz.underlying144
  a28 := Tryz.isAgg144
  z28 := Tryz.sizeOf144
  v28 := Tryz.zeroValue144
  i26 := by kernel_rfl }
def Tryz.sort126_ren : Go.Shelf.Ren := ⟨fun | 5 => 126 | 8 => 147 | 7 => 146 | 19 => 162 | 20 => 163 | 10 => 153 | 11 => 154 | 12 => 155 | 13 => 156 | 14 => 157 | 15 => 158 | 16 => 159 | 17 => 160 | 18 => 161 | 30 => 168 | 31 => 169 | 32 => 170 | 33 => 171 | 34 => 172 | 35 => 150 | 40 => 175 | n => n, fun | 23 => 26 | 25 => 2 | 3 => 3 | 32 => 186 | 22 => 26 | 0 => 0 | 44 => 201 | 46 => 203 | 4 => 4 | 36 => 193 | 35 => 192 | 41 => 198 | 5 => 5 | 9 => 9 | 53 => 207 | 57 => 211 | 63 => 213 | 64 => 214 | n => n, fun | n => n⟩
theorem Tryz.sort126 : Go.Proofs.SlLaysM.n5 Tryz.prog Tryz.sort126_ren := {
  mixed := by kernel_rfl
  f5 := ⟨Tryz.f126.name, by decide, Tryz.func126.trans (congrArg some (by kernel_rfl))⟩
  f7 := ⟨Tryz.f146.name, by decide, Tryz.func146.trans (congrArg some (by kernel_rfl))⟩
  f8 := Tryz.func147.trans (congrArg some (by kernel_rfl))
  f10 := ⟨Tryz.f153.name, by decide, Tryz.func153.trans (congrArg some (by kernel_rfl))⟩
  f11 := ⟨Tryz.f154.name, by decide, Tryz.func154.trans (congrArg some (by kernel_rfl))⟩
  f12 := ⟨Tryz.f155.name, by decide, Tryz.func155.trans (congrArg some (by kernel_rfl))⟩
  f13 := ⟨Tryz.f156.name, by decide, Tryz.func156.trans (congrArg some (by kernel_rfl))⟩
  f14 := ⟨Tryz.f157.name, by decide, Tryz.func157.trans (congrArg some (by kernel_rfl))⟩
  f15 := ⟨Tryz.f158.name, by decide, Tryz.func158.trans (congrArg some (by kernel_rfl))⟩
  f16 := ⟨Tryz.f159.name, by decide, Tryz.func159.trans (congrArg some (by kernel_rfl))⟩
  f17 := ⟨Tryz.f160.name, by decide, Tryz.func160.trans (congrArg some (by kernel_rfl))⟩
  f18 := ⟨Tryz.f161.name, by decide, Tryz.func161.trans (congrArg some (by kernel_rfl))⟩
  f19 := Tryz.func162.trans (congrArg some (by kernel_rfl))
  f20 := Tryz.func163.trans (congrArg some (by kernel_rfl))
  f30 := ⟨Tryz.f168.name, by decide, Tryz.func168.trans (congrArg some (by kernel_rfl))⟩
  f31 := Tryz.func169.trans (congrArg some (by kernel_rfl))
  f32 := Tryz.func170.trans (congrArg some (by kernel_rfl))
  f33 := ⟨Tryz.f171.name, by decide, Tryz.func171.trans (congrArg some (by kernel_rfl))⟩
  f34 := ⟨Tryz.f172.name, by decide, Tryz.func172.trans (congrArg some (by kernel_rfl))⟩
  f35 := ⟨Tryz.f150.name, by decide, Tryz.func150.trans (congrArg some (by kernel_rfl))⟩
  f40 := ⟨Tryz.f175.name, by decide, Tryz.func175.trans (congrArg some (by kernel_rfl))⟩
  t0 := Tryz.underlying0
  a0 := Tryz.isAgg0
  z0 := Tryz.sizeOf0
  v0 := Tryz.zeroValue0
  t3 := Tryz.underlying3
  a3 := Tryz.isAgg3
  z3 := Tryz.sizeOf3
  v3 := Tryz.zeroValue3
  t4 := Tryz.underlying4
  a4 := Tryz.isAgg4
  z4 := Tryz.sizeOf4
  v4 := Tryz.zeroValue4
  t5 := Tryz.underlying5
  a5 := Tryz.isAgg5
  z5 := Tryz.sizeOf5
  v5 := Tryz.zeroValue5
  t9 := Tryz.underlying9
  a9 := Tryz.isAgg9
  z9 := Tryz.sizeOf9
  v9 := Tryz.zeroValue9
  t22 := Tryz.underlying26
  a22 := Tryz.isAgg26
  z22 := Tryz.sizeOf26
  v22 := Tryz.zeroValue26
  t23 := Tryz.underlying26
  a23 := Tryz.isAgg26
  z23 := Tryz.sizeOf26
  v23 := Tryz.zeroValue26
  t25 := Tryz.underlying2
  a25 := Tryz.isAgg2
  z25 := Tryz.sizeOf2
  v25 := Tryz.zeroValue2
  t32 := Tryz.underlying186
  a32 := Tryz.isAgg186
  z32 := Tryz.sizeOf186
  v32 := Tryz.zeroValue186
  t35 := Tryz.underlying192
  a35 := Tryz.isAgg192
  z35 := Tryz.sizeOf192
  v35 := Tryz.zeroValue192
  t36 := Tryz.underlying193
  a36 := Tryz.isAgg193
  z36 := Tryz.sizeOf193
  v36 := Tryz.zeroValue193
  t41 := Tryz.underlying198
  a41 := Tryz.isAgg198
  z41 := Tryz.sizeOf198
  v41 := Tryz.zeroValue198
  t44 := Tryz.underlying201
  a44 := Tryz.isAgg201
  z44 := Tryz.sizeOf201
  v44 := Tryz.zeroValue201
  t46 := Tryz.underlying203
  a46 := Tryz.isAgg203
  z46 := Tryz.sizeOf203
  v46 := Tryz.zeroValue203
  t53 := Tryz.underlying207
  a53 := Tryz.isAgg207
  z53 := Tryz.sizeOf207
  v53 := Tryz.zeroValue207
  t57 := Tryz.underlying211
  a57 := Tryz.isAgg211
  z57 := Tryz.sizeOf211
  v57 := Tryz.zeroValue211
  t63 := Tryz.underlying213
  a63 := Tryz.isAgg213
  z63 := Tryz.sizeOf213
  v63 := Tryz.zeroValue213
  t64 := Tryz.underlying214
  a64 := Tryz.isAgg214
  z64 := Tryz.sizeOf214
  v64 := Tryz.zeroValue214 }
end Go.Proofs

namespace Go.Proofs.YtfgadegpdknocaaGreat
open Go.RowKit Go.Maps Go.Sort Go.Shelf

theorem sorts64 (m : Nat) : AnyZI.SortsIn Tryz.prog Tryz.sorted94_ren Fence.wide m :=
  ⟨fun blk off cap ss W hH hblk hsz => callsIn_wide.2 (AnyM.slices_Sort_int Tryz.sort126 blk off cap ss W hH hblk hsz),
   fun p cap W => callsIn_wide.2 (AnyM.slices_Sort_int_none Tryz.sort126 p cap W)⟩
/-- maps.Keys. -/
theorem mapKeys (mb : Option Nat) (W : World) : Calls Tryz.prog 95 #[.map mb] W fun e w' => e = .returned (.func (.func 127) #[] #[.pointer (some ⟨W.heap.size, 0, none⟩)]) ∧ w' = W.alloc (.cells #[.map mb] 85) :=
  (callsIn_wide (n := 5)).1 (AnyZI.keys_in Tryz.keys95 Fence.wide 5 trivial rfl mb W)

set_option maxHeartbeats 1000000 in
/-- slices.Sorted of them. -/
theorem sortedKeys (b n : Nat) (xs : List DItem) (w : World) (hT : TabAt w b n xs) (hx : xs.length ≤ 1000) :
    Calls Tryz.prog 94 #[.func (.func 127) #[] #[.pointer (some ⟨w.heap.size, 0, none⟩)]] (w.alloc (.cells #[.map (some b)] 85)) fun e w' => ∃ (v : Value) (ss : List Int), e = .returned v ∧ ss.Perm (intKeys (mapD xs)) ∧
      w'.ownsRow (w.alloc (.cells #[.map (some b)] 85)).heap.size 2 1 v ss.length ((ss.mergeSort (fun x y => decide (x ≤ y))).map encZ) ∧ Below (w.alloc (.cells #[.map (some b)] 85)).heap.size (w.alloc (.cells #[.map (some b)] 85)) w' := by
  have hown : w.ownsMap Tryz.prog 2 vecR b n (mapD xs) := hT
  have hbl := hown.lt
  have hmax : Maps.size (mapD xs) ≤ maxLen := by rw [size_mapD]; unfold maxLen; omega
  have hbytes : Maps.size (mapD xs) * 8 ≤ 140737488355328 := by rw [size_mapD]; omega
  have hseq : SeqGives Fence.wide 2 Tryz.prog 127 #[.pointer (some ⟨w.heap.size, 0, none⟩)] encZ (fun ss => ss.Perm (intKeys (mapD xs))) (Maps.size (mapD xs)) (w.alloc (.cells #[.map (some b)] 85)) :=
    AnyZI.keys_gives (ρ := Tryz.keys95_ren) { Tryz.keys95 with } Fence.wide _ trivial rfl (by omega) w.heap.size b n (mapD xs) _ (by simp) (by simp) (by
      obtain ⟨es, clock, hb, Ft, hs, hD⟩ := hown
      exact ⟨es, clock, (Below.heap_alloc _ _ b hbl).trans hb, Ft, hs, hD⟩)
  have cS := AnyZI.sorted_in Tryz.sorted94 Fence.wide 5 trivial trivial trivial trivial rfl (by omega) (sorts64 _) (enters_of Tryz.func126 (by kernel_rfl) rfl) 127 #[.pointer (some ⟨w.heap.size, 0, none⟩)] trivial (enters_of Tryz.func127 (by kernel_rfl) rfl) _ _ hmax hbytes _ hseq
  change CallsIn _ _ Tryz.prog 94 _ _ _ at cS
  refine ((callsIn_wide (n := 5)).1 cS).mono ?_
  rintro e w' ⟨v, ss, rfl, hS, hrow, -, hb⟩
  exact ⟨v, ss, rfl, hS, hrow, hb⟩

theorem encZ_eq : encZ = Value.int .i64 := rfl
theorem intKeys_mapD (xs : List DItem) : intKeys (mapD xs) = xs.map (·.id) := by
  simp only [intKeys, mapD, mapL, List.map_map]
  exact List.map_congr_left fun _ _ => rfl
/-- Rising Ids sort to themselves. -/
theorem sort_ids {xs : List DItem} (h : Rising xs) {ss : List Int} (hp : ss.Perm (xs.map (·.id))) : ss.mergeSort (fun x y => decide (x ≤ y)) = xs.map (·.id) := by
  have tr : ∀ a b c : Int, decide (a ≤ b) = true → decide (b ≤ c) = true → decide (a ≤ c) = true := fun a b c h1 h2 => by simp only [decide_eq_true_eq] at *; omega
  have tot : ∀ a b : Int, (decide (a ≤ b) || decide (b ≤ a)) = true := fun a b => by simp only [Bool.or_eq_true, decide_eq_true_eq]; omega
  refine List.Perm.eq_of_pairwise (le := fun a b => decide (a ≤ b) = true) (fun a b _ _ h1 h2 => ?_) (List.pairwise_mergeSort tr tot ss) ?_ ((List.mergeSort_perm ss _).trans hp)
  · simp only [decide_eq_true_eq] at h1 h2
    omega
  · refine List.pairwise_map.2 (h.imp fun {a b} hab => ?_)
    simp only [decide_eq_true_eq]
    omega

end Go.Proofs.YtfgadegpdknocaaGreat

namespace Go.Proofs.YtfgadegpdknocaaGreat
open Go.RowKit

set_option maxHeartbeats 400000 in
theorem listOf3 (x y z : Int) (w : World) :
    Calls Tryz.prog 78 #[arr3 x y z] w fun e w' => e = .returned (.slice (some ⟨w.heap.size + 1, 0, none⟩) 3 3) ∧
      (w.alloc (.cells #[.int .i64 x, .int .i64 y, .int .i64 z] 90)).alloc (.cells #[.int .i64 x, .int .i64 y, .int .i64 z] 2) = w' := by
  have hmk : ∀ w : World, (Instr.makeSlice 26 (.int .i64 3) (.int .i64 3)).run Tryz.prog w = .ok (.slice (some ⟨w.heap.size, 0, none⟩) 3 3) (w.alloc (.cells #[.int .i64 0, .int .i64 0, .int .i64 0] 2)) := fun _ => by kernel_rfl
  have i0 : ∀ w : World, (Instr.index 90 (.agg #[.int .i64 x, .int .i64 y, .int .i64 z]) (.int .i64 0)).run Tryz.prog w = .ok (.int .i64 x) w := fun _ => by kernel_rfl
  have i1 : ∀ w : World, (Instr.index 90 (.agg #[.int .i64 x, .int .i64 y, .int .i64 z]) (.int .i64 1)).run Tryz.prog w = .ok (.int .i64 y) w := fun _ => by kernel_rfl
  have i2 : ∀ w : World, (Instr.index 90 (.agg #[.int .i64 x, .int .i64 y, .int .i64 z]) (.int .i64 2)).run Tryz.prog w = .ok (.int .i64 z) w := fun _ => by kernel_rfl
  simp only [arr3]
  go_enter Tryz.func78, Tryz.ntmps78
  go_wp2
  refine wp_loop_rounds 4 ?_
  rw [rounds_succ]
  go_wp2
  rw [rounds_succ]
  go_wp2
  rw [rounds_succ]
  go_wp2
  rw [rounds_succ]
  go_wp2
  go_ret
  exact ⟨rfl, rfl⟩

end Go.Proofs.YtfgadegpdknocaaGreat

namespace Go.Proofs.YtfgadegpdknocaaGreat
open Go.RowKit

theorem listOwn (x y z : Int) (w : World) (hw : ∀ a ∈ [x, y, z], (Lit.int .i64 a).wf = true) :
    Calls Tryz.prog 78 #[arr3 x y z] w fun e w' => ∃ g, e = .returned (.slice (some ⟨g, 0, none⟩) 3 3) ∧ (Lay.sl Lay.int).OwnIn w' [.slice (some ⟨g, 0, none⟩) 3 3] [x, y, z] w.heap.size w'.heap.size ∧ Below w.heap.size w w' := by
  refine (listOf3 x y z w).mono ?_
  rintro e w' ⟨rfl, rfl⟩
  refine ⟨w.heap.size + 1, rfl, ?_, ((Below.refl _ _).alloc (Nat.le_refl _) _).alloc (by simp) _⟩
  refine Lay.ownInts (zs := [x, y, z]) (base := w.heap.size) (T := 2) hw (by simp) ?_
  exact own_new3 (W := w.alloc _) (by simp) (by simp)

end Go.Proofs.YtfgadegpdknocaaGreat

namespace Go.Proofs.YtfgadegpdknocaaGreat
open Go.RowKit Go.Maps

theorem grown_of_ext {r : Option Nat} {w w' : World} (e : Ext (fun q => r = some q) w w') : w.grownBy w' r :=
  ⟨e.os, e.tape, e.output, e.size, fun i hi hn => e.block i hi fun h => hn h.symm⟩
theorem own_snoc {w w' : World} {base : Nat} {bls : List (List Nat)} {bl : List Nat} (hn : bls.flatten.Nodup) (hs : ∀ b ∈ bls.flatten, base ≤ b ∧ ∀ o, w.frozen? ⟨b, o, none⟩ = false) (hlt : ∀ b ∈ bls.flatten, b < w.heap.size)
    (hn2 : bl.Nodup) (hs2 : ∀ b ∈ bl, w.heap.size ≤ b ∧ ∀ o, w'.frozen? ⟨b, o, none⟩ = false) (hb : base ≤ w.heap.size) (hk : ∀ b ∈ bls.flatten, w'.heap[b]? = w.heap[b]?) :
    (bls ++ [bl]).flatten.Nodup ∧ ∀ b ∈ (bls ++ [bl]).flatten, base ≤ b ∧ ∀ o, w'.frozen? ⟨b, o, none⟩ = false := by
  refine ⟨?_, ?_⟩
  · rw [List.flatten_append, List.nodup_append]
    refine ⟨hn, by simpa using hn2, fun a ha c hc e => ?_⟩
    have := hlt a ha
    have := (hs2 c (by simpa using hc)).1
    omega
  · intro b hm
    rw [List.flatten_append] at hm
    rcases List.mem_append.1 hm with hm | hm
    · exact ⟨(hs b hm).1, fun o => (frozen_of_heap (hk b hm) o).trans ((hs b hm).2 o)⟩
    · have h2 := hs2 b (by simpa using hm)
      exact ⟨by omega, h2.2⟩

set_option maxRecDepth 100000 in
set_option maxHeartbeats 4000000 in
/-- items of the program. -/
theorem itemsC (b n : Nat) (xs : List DItem) (w : World) (hT : TabAt w b n xs) (hR : Right xs) :
    Calls Tryz.prog 50 #[.map (some b)] w fun e w' => ∃ v, e = .returned v ∧ (Lay.sl Lay.tItem).OwnIn w' [v] xs w.heap.size w'.heap.size ∧ Below w.heap.size w w' := by
  obtain ⟨hlen, hall, hris⟩ := tableFault_zero hR
  have hbw := hT.lt
  have hown : w.ownsMap Tryz.prog 2 vecR b n (mapD xs) := hT
  obtain ⟨i0, hi, hz0, hz1, hz2⟩ := info_parts infoAppItem
  have HT := hide hT
  have HA := hide hall
  have HI := hide hris
  have hsz : Maps.size (mapD xs) = xs.length := size_mapD xs
  clear hT hall hris hR
  go_enter Tryz.func50, Tryz.ntmps50
  go_wp2_with (first
    | (at_len; refine wpList_len_own _ rfl _ 85 rfl 2 90 Tryz.underlying85 vecR b n (mapD xs) rfl hown ?_; rw [hsz])
    | (at_make; refine wpList_make_own _ rfl _ _ 57 rfl w.heap.size 133 i0 _ 2 Tryz.underlying57 hi hz0 hz1 .i64 .i64 _ xs.length rfl rfl rfl (by rw [hz2]; omega) (by unfold maxLen; omega) (Nat.le_refl _) ?_))
  clear hown hsz
  intro w1 hown1 hg1
  have hB1 : Below w.heap.size w w1 := (Below.refl _ _).grown hg1 (Nat.le_refl _) (by simp)
  have hz1' : w.heap.size < w1.heap.size := (hown1.lt w.heap.size rfl).2
  have hT1 := (unhide HT).later hB1
  have LS := sortedKeys b n xs w1 hT1 (by omega)
  have hB2 : Below w1.heap.size w1 (w1.alloc (.cells #[.map (some b)] 85)) := (Below.refl _ _).alloc (Nat.le_refl _) _
  have HT2 := hide (hT1.later hB2)
  have HG2 := hide ((Grow.nil (A := Lay.tItem) hown1).later hB2)
  have HB2 := hide (hB1.trans (hB2.mono hB1.size))
  have HLS := hide LS
  clear hown1 hg1 hB1 hT1 hB2 LS HT hi hz0 hz1 hz2
  go_wp2_with fail
  refine (mapKeys (some b) w1).mono ?_
  rintro e w2 ⟨rfl, rfl⟩
  go_wp2_with fail
  refine (unhide HLS).mono ?_
  generalize w1.alloc (.cells #[.map (some b)] 85) = W2 at *
  rintro e w3 ⟨sv, ss, rfl, hS, hrow, hb⟩
  rw [intKeys_mapD] at hS
  have hsl : ss.length = xs.length := by rw [hS.length_eq, List.length_map]
  rw [sort_ids (unhide HI) hS, encZ_eq, hsl] at hrow
  have hT3 := (unhide HT2).later hb
  have hG3 := (unhide HG2).later hb
  have hB3 := (unhide HB2).trans (hb.mono (unhide HB2).size)
  have hov : w.heap.size < W2.heap.size := by have := ((unhide HG2).own.lt w.heap.size rfl).2; omega
  clear hS HLS HT2 HG2 HB2 hb hsl ss
  by_cases hp : 0 < xs.length
  · obtain ⟨sg, cap, rfl, hsg, hsgl⟩ : ∃ sg cap, sv = .slice (some ⟨sg, 0, none⟩) xs.length cap ∧ W2.heap.size ≤ sg ∧ sg < w3.heap.size := by
      rcases hrow.2 with ⟨-, h0⟩ | ⟨g, cap, cur, rfl, hg, hh, -⟩
      · omega
      · exact ⟨g, cap, rfl, hg, lt_of_block hh⟩
    have HT3 := hide hT3
    have HG3 := hide hG3
    have HB3 := hide hB3
    have HROW := hide hrow
    clear hT3 hG3 hB3 hrow
    have hbig : xs.length ≤ 30 := hlen
    go_wp2_with fail
    go_loopw [3, 13] (fun v i wr => ∃ (k : Nat) (rows : List (List Value)) (bls : List (List Nat)), k ≤ xs.length ∧ i = .int .i64 k ∧ Grow Lay.tItem wr w.heap.size 133 v rows (xs.take k) bls ∧
        (bls.flatten.Nodup ∧ ∀ b ∈ bls.flatten, w.heap.size ≤ b ∧ ∀ o, wr.frozen? ⟨b, o, none⟩ = false) ∧ wr.ownsRow W2.heap.size 2 1 (.slice (some ⟨sg, 0, none⟩) xs.length cap) xs.length ((xs.map (·.id)).map (Value.int .i64)) ∧ v.ownBlock ≠ some sg ∧ TabAt wr b n xs ∧ Below w.heap.size w wr) (fun _ i _ => xs.length - (intOf i).toNat)
    case atStart =>
      exact ⟨0, [], [], Nat.zero_le _, rfl, unhide HG3, ⟨by simp, by simp⟩, unhide HROW, fun e => by simp [Value.ownBlock] at e; omega, unhide HT3, unhide HB3⟩
    case round =>
      obtain ⟨k, rows, bls, hk, rfl, hG, ⟨hnd, hsf⟩, hrow, hne, hT, hB⟩ := hrel
      clear HT3 HG3 HB3 HROW
      by_cases hlt : k < xs.length
      · have hc : wr.cell? ⟨sg, k, none⟩ = some (.int .i64 xs[k].id) := by
          rw [hrow.cellAt k (by omega)]
          simp [hlt]
        obtain ⟨hid, hvf⟩ := unhide HA xs[k] (List.getElem_mem hlt)
        obtain ⟨p, q, r, hv3, -, hrun⟩ := hT.look (unhide HI) (id_wf hid) (List.getElem_mem hlt) rfl
        have HTK : Hid (xs.take (k + 1) = xs.take k ++ [xs[k]]) := List.take_succ_eq_append_getElem hlt
        have HL : Hid ((xs.take k).length = k) := by show (xs.take k).length = k; rw [List.length_take]; omega
        generalize hx : xs[k] = x at *
        clear hx
        rw [hv3] at hvf
        obtain ⟨⟨b1, b2⟩, ⟨b3, b4⟩, b5, b6⟩ := fault3 hvf
        have HWF : Hid (∀ z ∈ [p, q, r], (Lit.int .i64 z).wf = true) := by
          show ∀ z ∈ [p, q, r], (Lit.int .i64 z).wf = true
          intro z hz
          simp only [List.mem_cons, List.not_mem_nil, or_false] at hz
          rcases hz with rfl | rfl | rfl <;> exact wf_of_bd (by omega)
        have LL := listOwn p q r wr (unhide HWF)
        simp only [arr3] at hrun LL
        have HLL := hide LL
        have hwi := id_wf hid
        have HWI := hide hwi
        have HV3 := hide hv3
        have HG := hide hG
        have HND := hide hnd
        have HSF := hide hsf
        have HROW := hide hrow
        have HNE := hide hne
        have HT := hide hT
        have HB := hide hB
        clear hG hnd hsf hrow hne hT hB hid hvf b1 b2 b3 b4 b5 b6 LL hwi hv3
        go_wp2_with fail
        refine (unhide HLL).mono ?_
        rintro e w4 ⟨g2, rfl, hO, hb4⟩
        obtain ⟨bl2, ⟨hl2, hn2, hf2⟩, hr2⟩ := hO
        have hG4 := (unhide HG).later hb4
        have hz4 := hb4.size
        have hB4 := (unhide HB).trans (hb4.mono (unhide HB).size)
        have hlies : Lay.tItem.lies w4 [.int .i64 x.id, .slice (some ⟨g2, 0, none⟩) 3 3] x bl2 := by
          refine lies_Item.2 ⟨some ⟨g2, 0, none⟩, 3, bl2, by rw [unhide HV3]; rfl, rfl, unhide HWI, ?_⟩
          rw [unhide HV3]; exact hl2
        have hoff : ∀ c ∈ bl2, u3.ownBlock ≠ some c := fun c hc e => by have h1 := hr2 c hc; have h2 := ((unhide HG).own.lt c e).2; omega
        have HSN := hide (own_snoc (w' := w4) (unhide HND) (unhide HSF) (unhide HG).sub_lt hn2 (fun c hc => ⟨(hr2 c hc).1, hf2 c hc⟩) (unhide HB).size (fun c hc => hb4.block c ((unhide HG).sub_lt c hc)))
        have HROW4 := hide (own_below (unhide HROW) hb4)
        have HT4 := hide ((unhide HT).later hb4)
        have hkl := unhide HL
        have HLO := hide hoff
        have HLT : Hid (∀ c ∈ (bls ++ [bl2]).flatten, u3.ownBlock ≠ some c) := by
          intro c hc
          rw [List.flatten_append] at hc
          rcases List.mem_append.1 hc with hc | hc
          · exact (unhide HG).off c hc
          · exact unhide HLO c (by simpa using hc)
        have HLS : Hid (∀ c ∈ (bls ++ [bl2]).flatten, c < w4.heap.size) := by
          intro c hc
          rw [List.flatten_append] at hc
          rcases List.mem_append.1 hc with hc | hc
          · have := (unhide HG).sub_lt c hc; omega
          · have := (hr2 c (by simpa using hc)).2; omega
        have HB4 := hide hB4
        have HZ : Hid (w.heap.size ≤ w4.heap.size) := hB4.size
        have HSG : Hid (sg < w4.heap.size) := by show sg < w4.heap.size; have := (unhide HROW).lt sg rfl; omega
        clear HLL hb4 hl2 hn2 hf2 hr2 hB4 HND HSF HROW HT HB HWF HWI HV3 hrun hc
        go_wp2_with (at_builtin; refine wpList_append_Item hG4 hlies hoff rfl _ _ rfl rfl rfl (by omega) (unhide HZ) ?_)
        rintro g5 cp5 w5 hG5 hb5 hE5 hl5 hz5 hor
        clear hG4 hlies hoff hkl
        have HG5 := hide hG5
        have HB5 := hide ((unhide HB4).trans hb5)
        have HT5 := hide ((unhide HT4).ext hE5 (fun e => by have := ((unhide HG).own.lt b e).1; omega))
        have HROW5 := hide ((unhide HROW4).kept (grown_of_ext hE5) (Or.inr (fun e => unhide HNE e.symm)))
        have HNE5 : Hid (some g5 ≠ some sg) := by
          intro e
          have e1 : g5 = sg := by simpa using e
          rcases hor with h | h
          · exact unhide HNE (by rw [h, e1])
          · have := unhide HSG; omega
        have HSN5 : Hid ((bls ++ [bl2]).flatten.Nodup ∧ ∀ c ∈ (bls ++ [bl2]).flatten, w.heap.size ≤ c ∧ ∀ o, w5.frozen? ⟨c, o, none⟩ = false) := by
          obtain ⟨s1, s2⟩ := unhide HSN
          exact ⟨s1, fun c hc => ⟨(s2 c hc).1, fun o => (frozen_of_heap (hE5.block c (unhide HLS c hc) (unhide HLT c hc)) o).trans ((s2 c hc).2 o)⟩⟩
        clear hG5 hb5 hE5 hor HB4 HT4 HROW4 HSN HG HNE HLT HLS HLO
        go_wp2_with fail
        go_roundw
        case rel =>
          have hg := unhide HG5
          rw [← unhide HTK] at hg
          exact ⟨k + 1, _, _, by omega, by go_num, hg, unhide HSN5, unhide HROW5, unhide HNE5, unhide HT5, unhide HB5⟩
        case measure => simp [intOf]; omega
      · obtain rfl : k = xs.length := by omega
        rw [List.take_length] at hG
        have HO := hide (hG.toOwn (by omega) hnd hsf)
        have HB := hide hB
        clear hG hB hnd hsf hrow hne hT
        go_wp2_with fail
        go_ret
        exact ⟨_, rfl, unhide HO, unhide HB⟩
  · obtain rfl : xs = [] := List.eq_nil_of_length_eq_zero (by omega)
    have HO := hide (hG3.toOwn (by simp) (by simp) (by simp))
    have HB := hide hB3
    have hsv : ∃ ao cap, sv = .slice ao 0 cap := by
      rcases hrow.2 with ⟨rfl, -⟩ | ⟨g, cap, cur, rfl, -⟩
      · exact ⟨none, 0, rfl⟩
      · exact ⟨_, cap, rfl⟩
    obtain ⟨ao, cap, rfl⟩ := hsv
    clear hG3 hB3 hT3 hrow hp
    go_wp2_with fail
    refine wp_loop_rounds 1 ?_
    rw [rounds_succ]
    go_wp2_with fail
    go_ret
    exact ⟨_, rfl, unhide HO, unhide HB⟩

end Go.Proofs.YtfgadegpdknocaaGreat

namespace Go.Proofs.YtfgadegpdknocaaGreat
open Go.RowKit Go.Maps

set_option maxRecDepth 10000 in
set_option maxHeartbeats 1000000 in
theorem putM_there (b n : Nat) (xs : List DItem) (id x y z : Int) (w : World) (hT : TabAt w b n xs) (hr : Rising xs) (hn : n < 1000) (hw : (Lit.int .i64 id).wf = true) (hi : hasI xs id = true) :
    Calls Tryz.prog 48 #[.map (some b), .int .i64 id, arr3 x y z] w fun e w' => e = .returned (.bool true) ∧ TabAt w' b (n + 1) (putI xs id [x, y, z]) ∧ Ext (fun q => q = b) w w' := by
  obtain ⟨a, ha, hai⟩ := hasI_true hi
  have n1 : Below w.heap.size w (w.alloc (.cells #[.int .i64 x, .int .i64 y, .int .i64 z] 90)) := (Below.refl _ _).alloc (Nat.le_refl _) _
  obtain ⟨p, q, r, -, hrun, -⟩ := (hT.later n1).look hr hw ha hai
  have n2 : Below w.heap.size w ((w.alloc (.cells #[.int .i64 x, .int .i64 y, .int .i64 z] 90)).alloc (.cells #[.int .i64 p, .int .i64 q, .int .i64 r] 90)) := n1.alloc (by simp) _
  obtain ⟨w5, hrun5, hT5, hE5⟩ := (hT.later n2).put hn hw x y z
  have HT := hide hT5
  have HE := hide ((ext_of_below n2 (fun q => q = b)).trans hE5)
  simp only [arr3] at hrun hrun5 ⊢
  clear hT5 hE5 n1 n2 hT hr ha hai hi a hw
  go_enter Tryz.func48, Tryz.ntmps48
  go_wp2_with fail
  go_ret
  exact ⟨rfl, unhide HT, unhide HE⟩

set_option maxRecDepth 10000 in
set_option maxHeartbeats 1000000 in
theorem putM_new (b n : Nat) (xs : List DItem) (id x y z : Int) (w : World) (hT : TabAt w b n xs) (hn : n < 1000) (hw : (Lit.int .i64 id).wf = true) (hi : hasI xs id = false) (hl : xs.length < 30) :
    Calls Tryz.prog 48 #[.map (some b), .int .i64 id, arr3 x y z] w fun e w' => e = .returned (.bool true) ∧ TabAt w' b (n + 1) (putI xs id [x, y, z]) ∧ Ext (fun q => q = b) w w' := by
  have n1 : Below w.heap.size w (w.alloc (.cells #[.int .i64 x, .int .i64 y, .int .i64 z] 90)) := (Below.refl _ _).alloc (Nat.le_refl _) _
  obtain ⟨p, q, r, hrun⟩ := (hT.later n1).miss hw hi
  have n2 : Below w.heap.size w ((w.alloc (.cells #[.int .i64 x, .int .i64 y, .int .i64 z] 90)).alloc (.cells #[.int .i64 p, .int .i64 q, .int .i64 r] 90)) := n1.alloc (by simp) _
  have hlen := (hT.later n2).len 3
  obtain ⟨w5, hrun5, hT5, hE5⟩ := (hT.later n2).put hn hw x y z
  have HT := hide hT5
  have HE := hide ((ext_of_below n2 (fun q => q = b)).trans hE5)
  have hd : decide ((30 : Int) ≤ (xs.length : Int)) = false := by simp; omega
  simp only [arr3] at hrun hrun5 ⊢
  clear hT5 hE5 n1 n2 hT hi hw
  go_enter Tryz.func48, Tryz.ntmps48
  go_wp2_with fail
  go_ret
  exact ⟨rfl, unhide HT, unhide HE⟩

set_option maxRecDepth 10000 in
set_option maxHeartbeats 1000000 in
theorem putM_full (b n : Nat) (xs : List DItem) (id x y z : Int) (w : World) (hT : TabAt w b n xs) (hw : (Lit.int .i64 id).wf = true) (hi : hasI xs id = false) (hl : 30 ≤ xs.length) :
    Calls Tryz.prog 48 #[.map (some b), .int .i64 id, arr3 x y z] w fun e w' => e = .returned (.bool false) ∧ Below w.heap.size w w' := by
  have n1 : Below w.heap.size w (w.alloc (.cells #[.int .i64 x, .int .i64 y, .int .i64 z] 90)) := (Below.refl _ _).alloc (Nat.le_refl _) _
  obtain ⟨p, q, r, hrun⟩ := (hT.later n1).miss hw hi
  have n2 : Below w.heap.size w ((w.alloc (.cells #[.int .i64 x, .int .i64 y, .int .i64 z] 90)).alloc (.cells #[.int .i64 p, .int .i64 q, .int .i64 r] 90)) := n1.alloc (by simp) _
  have hlen := (hT.later n2).len 3
  have HE := hide n2
  have hd : decide ((30 : Int) ≤ (xs.length : Int)) = true := by simp; omega
  simp only [arr3] at hrun ⊢
  clear n1 n2 hT hi hw
  go_enter Tryz.func48, Tryz.ntmps48
  go_wp2_with fail
  go_ret
  exact ⟨rfl, unhide HE⟩

end Go.Proofs.YtfgadegpdknocaaGreat

namespace Go.Proofs.YtfgadegpdknocaaGreat
open Go.RowKit

theorem ivf_small {x : DIvf} (h : ivfFault x = 0) : (∀ l ∈ x.lists, tableFault l.items = 0) ∧ x.lists.length ≤ 6 := by
  obtain ⟨h1, h2, h3, -⟩ := ivfFault_zero h
  exact ⟨list_facts h3, by rw [h2]; exact (centersFault_zero h1).1.2⟩
theorem all_right {x : DIvf} (h : ivfFault x = 0) : Right (allIs x.lists) := by
  obtain ⟨-, -, h3, h4, h5⟩ := ivfFault_zero h
  exact tableFault_of (by omega) (fun y hy => by obtain ⟨l, hl, hm⟩ := allIs_mem hy; exact (tableFault_zero (list_facts h3 l hl)).2.1 y hm) (allIs_rising _)
theorem askedI_zero {x : DIvf} {id : Int} (h : askedI x id = 0) : ivfFault x = 0 ∧ idB id = true := by
  unfold askedI at h
  by_cases h1 : ivfFault x = 0
  · rw [if_pos h1] at h
    cases h2 : idB id with
    | true => exact ⟨h1, rfl⟩
    | false => rw [h2] at h; cases h
  · rw [if_neg h1] at h; exact absurd h h1
theorem askedI_wf (x : DIvf) (id : Int) : (Lit.int .i64 (askedI x id)).wf = true := by
  have := ivfFault_bd x
  refine wf_of_bd ?_
  unfold askedI
  split
  · split <;> omega
  · omega
theorem right_less {xs : List DItem} (h : Right xs) : xs.length ≤ 1000000 ∧ ∀ x ∈ xs, x.vec.length ≤ 100000000 := by
  obtain ⟨h1, h2, -⟩ := tableFault_zero h
  exact ⟨by omega, fun x hx => by have := (vecFault_zero (h2 x hx).2).1; omega⟩

end Go.Proofs.YtfgadegpdknocaaGreat

namespace Go.Proofs.YtfgadegpdknocaaGreat
open Go.RowKit

theorem own_ivfR {w : World} {c : Int} {a1 : Option Addr} {n1 d1 : Nat} {a2 : Option Addr} {n2 d2 : Nat} {x : DIvf} {lo hi : Nat} (hc : (Lit.int .i64 c).wf = true) (h : Lay.tIvf.OwnIn w [.slice a1 n1 d1, .slice a2 n2 d2] x lo hi) : Lay.tIvfResult.OwnIn w [.int .i64 c, .slice a1 n1 d1, .slice a2 n2 d2] ⟨c, x⟩ lo hi := by
  obtain ⟨bl, ho, hb⟩ := h
  exact ⟨bl, mkOwn_IvfResult (x := ⟨c, x⟩) ho hc ho.2.1, hb⟩
theorem own_emptyI {w : World} {lo hi : Nat} : Lay.tIvf.OwnIn w [.slice none 0 0, .slice none 0 0] emptyI lo hi := by
  refine ⟨[], mkOwn_Ivf (x := emptyI) (c0 := [.slice none 0 0]) (c1 := [.slice none 0 0]) (g0 := []) (g1 := []) ⟨⟨none, 0, rfl, ⟨by simp [emptyI], by simp [emptyI]⟩, Or.inl ⟨rfl, rfl⟩⟩, by simp, by simp⟩ ⟨⟨none, 0, rfl, ⟨by simp [emptyI], by simp [emptyI]⟩, Or.inl ⟨rfl, rfl⟩⟩, by simp, by simp⟩ (by simp), by simp⟩
theorem own_ivfCode {w : World} {c : Int} {lo hi : Nat} (hc : (Lit.int .i64 c).wf = true) : Lay.tIvfResult.OwnIn w [.int .i64 c, .slice none 0 0, .slice none 0 0] ⟨c, emptyI⟩ lo hi := own_ivfR hc own_emptyI

end Go.Proofs.YtfgadegpdknocaaGreat

namespace Go.Proofs.YtfgadegpdknocaaGreat
open Go.RowKit

set_option maxRecDepth 100000 in
set_option maxHeartbeats 8000000 in
theorem implAddIvf (cs : List Value) (x : DIvf) (id : Int) (vv : Value) (vec : List Int) (w : World) (h : Lay.tIvf.Reads w cs x) (hw : (Lit.int .i64 id).wf = true) (hv : (Lay.sl Lay.int).Reads w [vv] vec) :
    Calls Tryz.prog 11 #[.agg cs.toArray, .int .i64 id, vv] w fun e w' => ∃ cs', e = .returned (.agg cs'.toArray) ∧ Lay.tIvfResult.OwnIn w' cs' (addIvfR x id vec) w.heap.size w'.heap.size ∧ Below w.heap.size w w' := by
  obtain ⟨av, dv, rfl⟩ := open_sl hv
  obtain ⟨ac, dc, al, dl, rfl, R0, R1⟩ := open_Ivf h
  have nb1 : Below w.heap.size w (w.alloc (.cells #[.slice ac x.centers.length dc, .slice al x.lists.length dl] 31)) := (Below.refl _ _).alloc (Nat.le_refl _) _
  have nb : Below w.heap.size w ((w.alloc (.cells #[.slice ac x.centers.length dc, .slice al x.lists.length dl] 31)).alloc (.cells #[.int .i64 0, .slice none 0 0, .slice none 0 0] 33)) := nb1.alloc (by simp) _
  have bX : Box w.heap.size #[.slice ac x.centers.length dc, .slice al x.lists.length dl] 31 ((w.alloc (.cells #[.slice ac x.centers.length dc, .slice al x.lists.length dl] 31)).alloc (.cells #[.int .i64 0, .slice none 0 0, .slice none 0 0] 33)) w.heap.size := (newBox (Nat.le_refl _)).grow _
  have bR : Box w.heap.size #[.int .i64 0, .slice none 0 0, .slice none 0 0] 33 ((w.alloc (.cells #[.slice ac x.centers.length dc, .slice al x.lists.length dl] 31)).alloc (.cells #[.int .i64 0, .slice none 0 0, .slice none 0 0] 33)) (w.heap.size + 1) := newBoxAt (by omega) (by simp)
  have L := hide (implTIvf x ac dc al dl _ (R0.later nb) (R1.later nb))
  have c0 := bX.at 0 _ rfl
  have c1 := bX.at 1 _ rfl
  have H0 := hide R0
  clear h R0 R1 nb1
  have HV := hide (Lay.ints_reads hv)
  clear hv
  go_enter Tryz.func11, Tryz.ntmps11
  go_wp2_with fail
  generalize (w.alloc (.cells #[.slice ac x.centers.length dc, .slice al x.lists.length dl] 31)).alloc (.cells #[.int .i64 0, .slice none 0 0, .slice none 0 0] 33) = W0 at *
  refine (unhide L).mono ?_
  rintro e w1 ⟨⟨mv, rfl, m1, m2⟩, hb⟩
  have hW0 := bR.lt
  replace bR := bR.keep hb
  replace bX := bX.keep hb
  replace nb := nb.trans (hb.mono nb.size)
  clear hb L c0 c1
  by_cases hf : ivfFault x = 0
  · obtain ⟨b, rfl, hbb, hT⟩ := m2 hf
    rw [hf]
    have z0 : w1.cell? ⟨w.heap.size + 1, 0, none⟩ = some (.int .i64 0) := bR.at 0 _ rfl
    have z1 : w1.cell? ⟨w.heap.size + 1, 1, none⟩ = some (.slice none 0 0) := bR.at 1 _ rfl
    have z2 : w1.cell? ⟨w.heap.size + 1, 2, none⟩ = some (.slice none 0 0) := bR.at 2 _ rfl
    have f0 := bR.soft 0
    have f1 := bR.soft 1
    have f2 := bR.soft 2
    have l0 := bR.lt
    have HB := hide nb
    have HT := hide hT
    have HR := hide bR
    have HBX := hide bX
    have HF := hide hf
    clear m1 m2 hT nb bR bX hf
    go_wp2_with fail
    refine (implId id _).mono ?_
    rintro e w1 ⟨rfl, rfl⟩
    rw [show (decide (1 ≤ id) && decide (id ≤ 999)) = idB id from rfl]
    cases hid : idB id with
    | false =>
      have HG : Hid (addIvfR x id vec = ⟨3, emptyI⟩) := by
        show addIvfR x id vec = ⟨3, emptyI⟩
        have ha : askedI x id = 3 := by rw [askedI, if_pos (unhide HF), hid]; rfl
        rw [addIvfR, ha]; rfl
      clear hid
      go_wp2_with fail
      refine bodyPost_ret (v := .agg #[.int .i64 (3), .slice none 0 0, .slice none 0 0]) (by simp [results, Tryz.results11, go_sem, z0, z1, z2]) rfl ?_
      rw [unhide HG]
      exact ⟨[.int .i64 (3), .slice none 0 0, .slice none 0 0], rfl, own_ivfCode (by decide), (((unhide HB).setCell (by simp) _).setCell (by simp) _).setCell (by simp) _⟩
    | true =>
      have ha : askedI x id = 0 := by rw [askedI, if_pos (unhide HF), hid]; rfl
      have I1 := (unhide HV).later (unhide HB)
      by_cases hvf : vecFault vec = 0
      · obtain ⟨p, q2, r, hv3⟩ := vec3 hvf
        have I2 : IsInts w1 (.slice av vec.length dv) [p, q2, r] := by rw [← hv3]; exact I1
        have L := vectorOf_ok _ p q2 r w1 I2 (by rw [← hv3]; exact hvf)
        simp only [arr3] at L
        have HL := hide L
        have HG0 : Hid (addIvfR x id vec = if 30 ≤ (allIs x.lists).length ∧ hasI (allIs x.lists) id = false then ⟨2, emptyI⟩ else ⟨0, buildI x.centers (putI (allIs x.lists) id vec)⟩) := by
          show addIvfR x id vec = _
          rw [addIvfR, if_pos ha, if_pos hvf]
        have HV3 := hide hv3
        have HVF := hide hvf
        have HID := hide hid
        clear I1 I2 L hv3 hvf hid ha
        go_wp2_with fail
        clear z0 z1 z2 f0 f1 f2 l0
        refine (unhide HL).mono ?_
        rintro e w2 ⟨rfl, hb2⟩
        have nb2 : Below w2.heap.size w2 (w2.alloc (.cells #[.int .i64 p, .int .i64 q2, .int .i64 r] 90)) := (Below.refl _ _).alloc (Nat.le_refl _) _
        have bV : Box w2.heap.size #[.int .i64 p, .int .i64 q2, .int .i64 r] 90 (w2.alloc (.cells #[.int .i64 p, .int .i64 q2, .int .i64 r] 90)) w2.heap.size := newBox (Nat.le_refl _)
        have hb3 := hb2.trans (nb2.mono hb2.size)
        have sz2 := hb2.size
        have bR := (unhide HR).keep hb3
        have v0 := bV.at 0 _ rfl
        have v1 := bV.at 1 _ rfl
        have v2 := bV.at 2 _ rfl
        have HTa := hide ((unhide HT).later hb3)
        have HRa := hide bR
        have HBXa := hide ((unhide HBX).keep hb3)
        have HBa := hide ((unhide HB).trans (hb3.mono (unhide HB).size))
        have hTl := (unhide HT).lt
        have sza : w2.heap.size < (w2.alloc (.cells #[.int .i64 p, .int .i64 q2, .int .i64 r] 90)).heap.size := by simp
        clear HT HR HBX HB hb2 nb2 hb3 HL bV
        by_cases hro : 30 ≤ (allIs x.lists).length ∧ hasI (allIs x.lists) id = false
        · have HG : Hid (addIvfR x id vec = ⟨2, emptyI⟩) := by
            show addIvfR x id vec = _
            rw [unhide HG0, if_pos hro]
          have LP := hide (putM_full b 200 (allIs x.lists) id p q2 r _ (unhide HTa) hw hro.2 hro.1)
          simp only [arr3] at LP
          clear hro bR
          go_wp2_with fail
          refine (unhide LP).mono ?_
          rintro e W7 ⟨rfl, hb7⟩
          have bR := (unhide HRa).keep hb7
          have z0 : W7.cell? ⟨w.heap.size + 1, 0, none⟩ = some (.int .i64 0) := bR.at 0 _ rfl
          have z1 : W7.cell? ⟨w.heap.size + 1, 1, none⟩ = some (.slice none 0 0) := bR.at 1 _ rfl
          have z2 : W7.cell? ⟨w.heap.size + 1, 2, none⟩ = some (.slice none 0 0) := bR.at 2 _ rfl
          have f0 := bR.soft 0
          have f1 := bR.soft 1
          have f2 := bR.soft 2
          have l0 := bR.lt
          have HB := hide ((unhide HBa).trans (hb7.mono (unhide HBa).size))
          clear hb7 bR v0 v1 v2 LP
          go_wp2_with fail
          refine bodyPost_ret (v := .agg #[.int .i64 (2), .slice none 0 0, .slice none 0 0]) (by simp [results, Tryz.results11, go_sem, z0, z1, z2]) rfl ?_
          rw [unhide HG]
          exact ⟨[.int .i64 (2), .slice none 0 0, .slice none 0 0], rfl, own_ivfCode (by decide), (((unhide HB).setCell (by simp) _).setCell (by simp) _).setCell (by simp) _⟩
        · have hroom : hasI (allIs x.lists) id = true ∨ (allIs x.lists).length < 30 := by
            cases hh : hasI (allIs x.lists) id with
            | true => exact Or.inl rfl
            | false => exact Or.inr (by have : ¬ 30 ≤ (allIs x.lists).length := fun h => hro ⟨h, hh⟩; omega)
          have HG : Hid (addIvfR x id vec = ⟨0, buildI x.centers (putI (allIs x.lists) id vec)⟩) := by
            show addIvfR x id vec = _
            rw [unhide HG0, if_neg hro]
          have HRT : Hid (Right (putI (allIs x.lists) id vec)) := right_put (all_right (unhide HF)) (unhide HID) (unhide HVF) hroom
          have HCF : Hid (centersFault x.centers = 0) := (ivfFault_zero (unhide HF)).1
          have LP : Hid (Calls Tryz.prog 48 #[.map (some b), .int .i64 id, .agg #[.int .i64 p, .int .i64 q2, .int .i64 r]] (w2.alloc (.cells #[.int .i64 p, .int .i64 q2, .int .i64 r] 90)) fun e w' => e = .returned (.bool true) ∧ TabAt w' b 201 (putI (allIs x.lists) id vec) ∧ Ext (fun c => c = b) (w2.alloc (.cells #[.int .i64 p, .int .i64 q2, .int .i64 r] 90)) w') := by
            show Calls _ _ _ _ _
            rw [unhide HV3]
            cases hh : hasI (allIs x.lists) id with
            | true => exact putM_there b 200 _ id p q2 r _ (unhide HTa) (allIs_rising _) (by omega) hw hh
            | false => exact putM_new b 200 _ id p q2 r _ (unhide HTa) (by omega) hw hh (by rcases hroom with h | h; rw [hh] at h; cases h; exact h)
          clear hro hroom bR
          go_wp2_with fail
          refine (unhide LP).mono ?_
          rintro e W7 ⟨rfl, hT2, hE2⟩
          have HR7 := hide ((unhide HRa).ext hE2 (by omega))
          have HBX9 := hide ((unhide HBXa).ext hE2 (by omega))
          have HBW := hide ((unhide HBa).trans (hE2.below (unhide HBa).size (fun q hq e => by omega)))
          have HT7 := hide hT2
          clear hT2 hE2 v0 v1 v2 HTa HRa HBXa HBa LP
          go_wp2_with fail
          have hDT : TabAt W7.drew b 201 (putI (allIs x.lists) id vec) := unhide HT7
          have hDC : (Lay.sl Lay.tCenter).Reads W7.drew [.slice ac x.centers.length dc] x.centers := (unhide H0).later (unhide HBW).drew
          have hDR : Box w.heap.size #[.int .i64 0, .slice none 0 0, .slice none 0 0] 33 W7.drew (w.heap.size + 1) := unhide HR7
          have hDs : w.heap.size + 1 < W7.drew.heap.size := (unhide HR7).lt
          refine wp_region_noPanic ?_
          refine wp_region_held_drew (S := fun w' => Ext (fun q => q = w.heap.size + 1) W7 w') (by kernel_rfl) (Ext.refl _ _).drew1 (fun hHeld => ?_)
          generalize W7.drew = wD at hHeld hDT hDC hDR hDs ⊢
          refine wpAnyH_take (i := 0) (oi := { dst := some 38, op := Go.Op.fieldAddr 31 (Go.Operand.tmp 3) 0, type := 0, pos := "l07_ivf.go:168", after := #[], guard := none }) (v := ?va0) rfl (by kernel_rfl) (by kernel_rfl) (by kernel_rfl) (fun _ _ _ h => h) (Or.inl ⟨by rfl, ?ha0⟩) hHeld ?ra0
          case ha0 =>
            intro wS hSw
            (try dsimp only at hSw)
            go_simp
            try with_reducible rfl
          case ra0 =>
          simp only [Act.put, List.setIfInBounds_toArray, List.set_cons_zero, List.set_cons_succ]
          refine wpAnyH_take (i := 1) (oi := { dst := some 39, op := Go.Op.load 28 (Go.Operand.tmp 38), type := 28, pos := "l07_ivf.go:168", after := #[{ on := 0, ground := Go.Ground.data }], guard := none }) (v := ?va1) rfl (by kernel_rfl) (by kernel_rfl) (by kernel_rfl) (fun _ _ _ h => h) (Or.inl ⟨by rfl, ?ha1⟩) hHeld ?ra1
          case ha1 =>
            intro wS hSw
            have y0 := ((unhide HBX9).ext hSw (by omega)).at 0 _ rfl
            clear hSw
            (try dsimp only at hSw)
            go_simp
            try with_reducible rfl
          case ra1 =>
          simp only [Act.put, List.setIfInBounds_toArray, List.set_cons_zero, List.set_cons_succ]
          refine wpAnyH_take (i := 2) (oi := { dst := some 40, op := Go.Op.move (Go.Operand.tmp 7), type := 85, pos := "l07_ivf.go:168", after := #[], guard := none }) (v := ?va2) rfl (by kernel_rfl) (by kernel_rfl) (by kernel_rfl) (fun _ _ _ h => h) (Or.inl ⟨by rfl, ?ha2⟩) hHeld ?ra2
          case ha2 =>
            intro wS hSw
            (try dsimp only at hSw)
            go_simp
            try with_reducible rfl
          case ra2 =>
          simp only [Act.put, List.setIfInBounds_toArray, List.set_cons_zero, List.set_cons_succ]
          refine wpAnyH_ready (rs := [3]) (by kernel_rfl) (by simp) ?_
          refine AllReadyH.cons (o := { dst := some 41, op := Go.Op.call { callee := Go.Callee.value (Go.Operand.func 50), args := #[Go.Operand.tmp 40], argTypes := #[85] }, type := 57, pos := "l07_ivf.go:168", after := #[{ on := 2, ground := Go.Ground.data }], guard := none }) rfl (fun K hK => ?_) AllReadyH.nil
          go_simp
          go_at_call 50
          refine (itemsC _ _ (putI (allIs x.lists) id vec) _ hDT (unhide HRT)).mono ?_
          rintro e w3 ⟨v9, rfl, hO9, hb9⟩
          obtain ⟨ao9, cp9, rfl⟩ := open_sl hO9.reads
          have hC3 := hDC.later hb9
          have hbR3 := hDR.keep hb9
          have sz3 := hb9.size
          try go_wp2_with fail
          refine hK.out _ _ (hHeld.trans (ext_of_below hb9 _)) (fun hHeld => ?_)
          clear hK K
          try simp only [Act.put, List.setIfInBounds_toArray, List.set_cons_zero, List.set_cons_succ]
          refine wpAnyH_ready (rs := [4]) (by kernel_rfl) (by simp) ?_
          refine AllReadyH.cons (o := { dst := some 42, op := Go.Op.call { callee := Go.Callee.value (Go.Operand.func 49), args := #[Go.Operand.tmp 39, Go.Operand.tmp 41], argTypes := #[28, 57] }, type := 31, pos := "l07_ivf.go:168", after := #[{ on := 1, ground := Go.Ground.data }, { on := 3, ground := Go.Ground.data }, { on := 3, ground := Go.Ground.chain }], guard := none }) rfl (fun K hK => ?_) AllReadyH.nil
          go_simp
          go_at_call 49
          refine (implIndex ac dc x.centers ao9 cp9 (putI (allIs x.lists) id vec) _ hC3 hO9.reads (unhide HCF) (unhide HRT)).mono ?_
          rintro e w4 ⟨sc, sl, rfl, ⟨a1, n1, d1, rfl⟩, ⟨a2, n2, d2, rfl⟩, hI4, hb4⟩
          have bR := hbR3.keep hb4
          have sz4 := hb4.size
          try go_wp2_with fail
          refine hK.out _ _ (hHeld.trans (ext_of_below hb4 _)) (fun hHeld => ?_)
          clear hK K
          try simp only [Act.put, List.setIfInBounds_toArray, List.set_cons_zero, List.set_cons_succ]
          refine wpAnyH_take (i := 5) (oi := { dst := some 43, op := Go.Op.build 33 #[(1, Go.Operand.tmp 42)], type := 33, pos := "l07_ivf.go:168", after := #[{ on := 4, ground := Go.Ground.data }], guard := none }) (v := ?va5) rfl (by kernel_rfl) (by kernel_rfl) (by kernel_rfl) (fun _ _ _ h => h) (Or.inl ⟨by rfl, ?ha5⟩) hHeld ?ra5
          case ha5 =>
            intro wS hSw
            (try dsimp only at hSw)
            go_simp
            try with_reducible rfl
          case ra5 =>
          simp only [Act.put, List.setIfInBounds_toArray, List.set_cons_zero, List.set_cons_succ]
          refine wpAnyH_ready (rs := [6]) (by kernel_rfl) (by simp) ?_
          refine AllReadyH.cons (o := { dst := none, op := Go.Op.store 33 (Go.Operand.tmp 6) (Go.Operand.tmp 43), type := 0, pos := "l07_ivf.go:168", after := #[{ on := 5, ground := Go.Ground.data }, { on := 4, ground := Go.Ground.chain }, { on := 0, ground := Go.Ground.phase }, { on := 1, ground := Go.Ground.phase }, { on := 2, ground := Go.Ground.phase }, { on := 3, ground := Go.Ground.phase }, { on := 4, ground := Go.Ground.phase }, { on := 5, ground := Go.Ground.phase }], guard := none }) rfl (fun K hK => ?_) AllReadyH.nil
          have z0 : w4.cell? ⟨w.heap.size + 1, 0, none⟩ = some (.int .i64 0) := bR.at 0 _ rfl
          have z1 : w4.cell? ⟨w.heap.size + 1, 1, none⟩ = some (.slice none 0 0) := bR.at 1 _ rfl
          have z2 : w4.cell? ⟨w.heap.size + 1, 2, none⟩ = some (.slice none 0 0) := bR.at 2 _ rfl
          have f0 := bR.soft 0
          have f1 := bR.soft 1
          have f2 := bR.soft 2
          have l0 := bR.lt
          go_simp
          refine hK.out _ _ (((hHeld.setCell _ _ rfl).setCell _ _ rfl).setCell _ _ rfl) (fun hHeld => ?_)
          clear hK K
          try simp only [Act.put, List.setIfInBounds_toArray, List.set_cons_zero, List.set_cons_succ]
          refine wpAnyH_done (by kernel_rfl) ?_ _
          refine NoPanic.normal ?_
          have hE9 : Ext (fun q => q = w.heap.size + 1) w4 (((w4.setCell ⟨w.heap.size + 1, 0, none⟩ (.int .i64 0)).setCell ⟨w.heap.size + 1, 1, none⟩ (.slice a1 n1 d1)).setCell ⟨w.heap.size + 1, 2, none⟩ (.slice a2 n2 d2)) := (((Ext.refl (fun q => q = w.heap.size + 1) _).setCell _ _ rfl).setCell _ _ rfl).setCell _ _ rfl
          have HO9 := hide ((hI4.ext hE9 (fun q h1 _ h3 => by omega)).mono (lo' := w.heap.size) (by omega) (Nat.le_refl _))
          have HB9 := hide ((unhide HBW).trans (hHeld.below (unhide HBW).size (fun q hq e => by omega)))
          have hcz0 : (((w4.setCell ⟨w.heap.size + 1, 0, none⟩ (.int .i64 0)).setCell ⟨w.heap.size + 1, 1, none⟩ (.slice a1 n1 d1)).setCell ⟨w.heap.size + 1, 2, none⟩ (.slice a2 n2 d2)).cell? ⟨w.heap.size + 1, 0, none⟩ = some (.int .i64 0) := (((bR.set 0 _).set 1 _).set 2 _).at 0 _ rfl
          have hcz1 : (((w4.setCell ⟨w.heap.size + 1, 0, none⟩ (.int .i64 0)).setCell ⟨w.heap.size + 1, 1, none⟩ (.slice a1 n1 d1)).setCell ⟨w.heap.size + 1, 2, none⟩ (.slice a2 n2 d2)).cell? ⟨w.heap.size + 1, 1, none⟩ = some (.slice a1 n1 d1) := (((bR.set 0 _).set 1 _).set 2 _).at 1 _ rfl
          have hcz2 : (((w4.setCell ⟨w.heap.size + 1, 0, none⟩ (.int .i64 0)).setCell ⟨w.heap.size + 1, 1, none⟩ (.slice a1 n1 d1)).setCell ⟨w.heap.size + 1, 2, none⟩ (.slice a2 n2 d2)).cell? ⟨w.heap.size + 1, 2, none⟩ = some (.slice a2 n2 d2) := (((bR.set 0 _).set 1 _).set 2 _).at 2 _ rfl
          clear hHeld hI4 hE9 hO9 hC3 hbR3 hb4 hb9 bR z0 z1 z2 f0 f1 f2
          go_wp2_with fail
          refine bodyPost_ret (v := .agg #[.int .i64 0, .slice a1 n1 d1, .slice a2 n2 d2]) (by simp [results, Tryz.results11, go_sem, hcz0, hcz1, hcz2]) rfl ?_
          rw [unhide HG]
          exact ⟨[.int .i64 0, .slice a1 n1 d1, .slice a2 n2 d2], rfl, own_ivfR (by decide) ((unhide HO9).mono (Nat.le_refl _) (by simp)), unhide HB9⟩
      · have HG : Hid (addIvfR x id vec = ⟨vecFault vec, emptyI⟩) := by
          show addIvfR x id vec = _
          rw [addIvfR, if_pos ha, if_neg hvf]
        have hd : (vecFault vec != 0) = true := by simpa using hvf
        have L := vectorOf_bad _ vec w1 I1 hvf
        simp only [arr3] at L
        have HL := hide L
        clear hvf hid ha I1 L z0 z1 z2 f0 f1 f2 l0
        go_wp2_with fail
        refine (unhide HL).mono ?_
        rintro e w2 ⟨rfl, hb2⟩
        have nb2 : Below w2.heap.size w2 (w2.alloc (.cells #[.int .i64 0, .int .i64 0, .int .i64 0] 90)) := (Below.refl _ _).alloc (Nat.le_refl _) _
        have hb3 := hb2.trans (nb2.mono hb2.size)
        have bR := (unhide HR).keep hb3
        have z0 : (w2.alloc (.cells #[.int .i64 0, .int .i64 0, .int .i64 0] 90)).cell? ⟨w.heap.size + 1, 0, none⟩ = some (.int .i64 0) := bR.at 0 _ rfl
        have z1 : (w2.alloc (.cells #[.int .i64 0, .int .i64 0, .int .i64 0] 90)).cell? ⟨w.heap.size + 1, 1, none⟩ = some (.slice none 0 0) := bR.at 1 _ rfl
        have z2 : (w2.alloc (.cells #[.int .i64 0, .int .i64 0, .int .i64 0] 90)).cell? ⟨w.heap.size + 1, 2, none⟩ = some (.slice none 0 0) := bR.at 2 _ rfl
        have f0 := bR.soft 0
        have f1 := bR.soft 1
        have f2 := bR.soft 2
        have l0 := bR.lt
        have HBa := hide ((unhide HB).trans (hb3.mono (unhide HB).size))
        clear hb2 nb2 hb3 bR HL
        go_wp2_with fail
        refine bodyPost_ret (v := .agg #[.int .i64 (vecFault vec), .slice none 0 0, .slice none 0 0]) (by simp [results, Tryz.results11, go_sem, z0, z1, z2]) rfl ?_
        rw [unhide HG]
        exact ⟨[.int .i64 (vecFault vec), .slice none 0 0, .slice none 0 0], rfl, own_ivfCode (wf_of_bd (by have := vecFault_bd vec; omega)), (((unhide HBa).setCell (by simp) _).setCell (by simp) _).setCell (by simp) _⟩
  · obtain rfl := m1 hf
    have hd : (ivfFault x != 0) = true := by simpa using hf
    have HG : Hid (addIvfR x id vec = ⟨ivfFault x, emptyI⟩) := by
      show addIvfR x id vec = _
      have ha : askedI x id = ivfFault x := by rw [askedI, if_neg hf]
      rw [addIvfR, ha, if_neg hf]
    have z0 : w1.cell? ⟨w.heap.size + 1, 0, none⟩ = some (.int .i64 0) := bR.at 0 _ rfl
    have z1 : w1.cell? ⟨w.heap.size + 1, 1, none⟩ = some (.slice none 0 0) := bR.at 1 _ rfl
    have z2 : w1.cell? ⟨w.heap.size + 1, 2, none⟩ = some (.slice none 0 0) := bR.at 2 _ rfl
    have f0 := bR.soft 0
    have f1 := bR.soft 1
    have f2 := bR.soft 2
    have l0 := bR.lt
    have HB := hide nb
    clear m1 m2 bR nb hf bX
    go_wp2_with fail
    refine bodyPost_ret (v := .agg #[.int .i64 (ivfFault x), .slice none 0 0, .slice none 0 0]) (by simp [results, Tryz.results11, go_sem, z0, z1, z2]) rfl ?_
    rw [unhide HG]
    exact ⟨[.int .i64 (ivfFault x), .slice none 0 0, .slice none 0 0], rfl, own_ivfCode (ivfFault_wf x), (((unhide HB).setCell (by simp) _).setCell (by simp) _).setCell (by simp) _⟩

end Go.Proofs.YtfgadegpdknocaaGreat

namespace Go.Proofs.YtfgadegpdknocaaGreat
open Go.RowKit

set_option maxRecDepth 100000 in
set_option maxHeartbeats 1000000 in
theorem specCen_pos (b off cap : Nat) (xs : List DCenter) (w : World) (hn : 1 ≤ xs.length ∧ xs.length ≤ 6) (h : (Lay.sl Lay.tCenter).Reads w [.slice (some ⟨b, off, none⟩) xs.length cap] xs) (hbl : b < w.heap.size) :
    Calls Tryz.prog 101 #[.slice (some ⟨b, off, none⟩) xs.length cap] w fun e w' => e = .returned (.int .i64 (cenFrom xs)) ∧ Below w.heap.size w w' := by
  generalize hF0 : cenFrom xs = F0
  have H := hide h
  clear h
  have d1 : decide ((xs.length : Int) < 1) = false := by simp; omega
  have d2 : decide ((6 : Int) < (xs.length : Int)) = false := by simp; omega
  go_enter Tryz.func101, Tryz.ntmps101
  go_wp2_with fail
  go_loopw [3] (fun i wr => ∃ k : Nat, k ≤ xs.length ∧ i = .int .i64 k ∧ cenFrom (xs.drop k) = F0 ∧ Below w.heap.size w wr) (fun i _ => xs.length - (intOf i).toNat)
  case atStart => exact ⟨0, Nat.zero_le _, rfl, hF0, Below.refl _ _⟩
  case round =>
    obtain ⟨k, hk, rfl, hF, hB⟩ := hrel
    by_cases hlt : k < xs.length
    · obtain ⟨row, hc, hr⟩ := Lay.row_at (unhide H) hlt
      replace hr := hr.later hB
      obtain ⟨a1, d1, rfl, R1⟩ := open_Center hr
      have c1 : wr.cell? ⟨b, off + k, none⟩ = some (.slice a1 (xs[k]).vec.length d1) := (hB.cell (p := ⟨b, off + k, none⟩) hbl).trans (cen_cell (hc 0 (by decide)))
      rw [cenFrom_step xs k hlt] at hF
      clear hc hr
      generalize hx : xs[k] = x at *
      clear hx
      have hbr : b < wr.heap.size := Nat.lt_of_lt_of_le hbl hB.size
      have I1 := hide (Lay.ints_reads R1)
      have HF := hide hF
      have B1 := hide hB
      clear R1 hF hB
      go_wp2_with fail
      refine (modelFault _ x.vec _ (unhide I1)).mono ?_
      rintro e w1 ⟨rfl, rfl⟩
      by_cases hv : vecFault x.vec = 0
      · rw [hv]
        have hF := unhide HF
        rw [if_pos hv] at hF
        clear HF I1 hv
        have HF := hide hF
        clear hF
        go_wp2_with fail
        go_roundw
        case rel => exact ⟨k + 1, by omega, by go_num, unhide HF, unhide B1⟩
        case measure => simp [intOf]; omega
      · have hF := unhide HF
        rw [if_neg hv] at hF
        have hd : (vecFault x.vec != 0) = true := by simpa using hv
        have HF2 := hide hF
        clear HF hF I1 hv
        go_wp2_with fail
        go_ret
        exact ⟨by rw [← unhide HF2]; rfl, unhide B1⟩
    · obtain rfl : k = xs.length := by omega
      rw [List.drop_length] at hF
      have HF := hide hF
      have HB := hide hB
      clear hF hB H
      go_wp2_with fail
      go_ret
      exact ⟨by rw [← unhide HF]; rfl, unhide HB⟩

set_option maxRecDepth 10000 in
theorem specCen (v : Value) (xs : List DCenter) (w : World) (h : (Lay.sl Lay.tCenter).Reads w [v] xs) :
    Calls Tryz.prog 101 #[v] w fun e w' => e = .returned (.int .i64 (centersFault xs)) ∧ Below w.heap.size w w' := by
  have hbig := h.big
  obtain ⟨ao, cap, rfl⟩ := open_sl h
  by_cases hn : xs.length < 1 ∨ 6 < xs.length
  · have e : centersFault xs = 2 := by unfold centersFault; rw [if_pos hn]
    rw [e]
    clear h e
    go_enter Tryz.func101, Tryz.ntmps101
    by_cases h1 : xs.length < 1
    · have d1 : decide ((xs.length : Int) < 1) = true := by simp; omega
      go_wp2_with fail
      go_ret
      exact ⟨rfl, Below.refl _ _⟩
    · have d1 : decide ((xs.length : Int) < 1) = false := by simp; omega
      have d2 : decide ((6 : Int) < (xs.length : Int)) = true := by simp; omega
      go_wp2_with fail
      go_ret
      exact ⟨rfl, Below.refl _ _⟩
  · have e : centersFault xs = cenFrom xs := by unfold centersFault; rw [if_neg hn]
    rw [e]
    obtain ⟨b, off, rfl, hbl⟩ := Lay.sl_addr h (by omega)
    exact specCen_pos b off cap xs w (by omega) h hbl

end Go.Proofs.YtfgadegpdknocaaGreat

namespace Go.Proofs.YtfgadegpdknocaaGreat
open Go.RowKit

set_option maxRecDepth 100000 in
set_option maxHeartbeats 2000000 in
theorem specNear_pos (b off cap : Nat) (cs : List DCenter) (a2 : Option Addr) (d2 : Nat) (q : List Int) (w : World) (h : (Lay.sl Lay.tCenter).Reads w [.slice (some ⟨b, off, none⟩) cs.length cap] cs) (hbl : b < w.heap.size) (hq : IsInts w (.slice a2 q.length d2) q) (hc0 : centersFault cs = 0) (hv : vecFault q = 0) :
    Calls Tryz.prog 86 #[.slice (some ⟨b, off, none⟩) cs.length cap, .slice a2 q.length d2] w fun e w' => e = .returned (.int .i64 (near cs q : Nat)) ∧ Below w.heap.size w w' := by
  obtain ⟨hn, hall⟩ := centersFault_zero hc0
  have HQ := hide hq
  have HA := hide hall
  have HV := hide hv
  have H := hide h
  have HN : Hid (near cs q = (nearK cs q cs.length).1) := rfl
  have H1 : Hid (nearK cs q 1 = (0, score3 cs[0].vec q)) := by
    show nearK cs q 1 = _
    have hs := cscore_bd (hall cs[0] (List.getElem_mem (by omega))) hv
    rw [nearK_step cs q 0 (by omega), if_pos (by simp only [nearK]; omega)]
  clear h hq hall hc0 hv
  go_enter Tryz.func86, Tryz.ntmps86
  go_wp2_with fail
  go_loopw [5, 6] (fun a i wr => ∃ k : Nat, 1 ≤ k ∧ k ≤ cs.length ∧ i = .int .i64 k ∧ a = .int .i64 ((nearK cs q k).1 : Nat) ∧ Below w.heap.size w wr) (fun _ i _ => cs.length - (intOf i).toNat)
  case atStart => exact ⟨1, Nat.le_refl _, hn.1, rfl, by rw [unhide H1]; rfl, Below.refl _ _⟩
  case round =>
    obtain ⟨k, hk1, hk, rfl, rfl, hB⟩ := hrel
    clear H1
    by_cases hlt : k < cs.length
    · obtain ⟨row, hc, hr⟩ := Lay.row_at (unhide H) hlt
      obtain ⟨a1, d1, rfl, R1⟩ := open_Center hr
      have c1 : w.cell? ⟨b, off + k, none⟩ = some (.slice a1 (cs[k]).vec.length d1) := cen_cell (hc 0 (by decide))
      have HS := hide (nearK_step cs q k hlt)
      obtain ⟨hm1, hm2, -, -⟩ := nearK_right (unhide HA) (unhide HV) k hk1 hk
      have hm3 : (nearK cs q k).1 < cs.length := by omega
      rw [getD_at hm3] at hm2
      obtain ⟨row2, hc2, hr2⟩ := Lay.row_at (unhide H) hm3
      obtain ⟨a3, d3, rfl, R2⟩ := open_Center hr2
      have c2 : w.cell? ⟨b, off + (nearK cs q k).1, none⟩ = some (.slice a3 (cs[(nearK cs q k).1]).vec.length d3) := cen_cell (hc2 0 (by decide))
      have hvx := unhide HA cs[k] (List.getElem_mem hlt)
      have hvy := unhide HA cs[(nearK cs q k).1] (List.getElem_mem hm3)
      clear hc hr hc2 hr2
      generalize hx : cs[k] = x at *
      clear hx
      generalize hy : cs[(nearK cs q k).1] = y at *
      clear hy
      generalize hs : nearK cs q k = s at *
      clear hs
      obtain ⟨m, sl⟩ := s
      simp only at hm1 hm2 hm3 c2 ⊢
      have HM2 := hide hm2
      have I1 := hide (Lay.ints_reads R1)
      have I2 := hide (Lay.ints_reads R2)
      have HX := hide hvx
      have HY := hide hvy
      have HB := hide hB
      clear R1 R2 hB hvx hvy hm2
      have i1 : (0 : Int) ≤ (k : Int) := by omega
      have i2 : (k : Int) < (cs.length : Int) := by omega
      have i3 : (0 : Int) ≤ (m : Int) := by omega
      have i4 : (m : Int) < (cs.length : Int) := by omega
      go_wp2_with fail
      refine wp_region_noPanic ?_
      refine wp_region_held_drew (S := fun w' => Below w.heap.size w w') (by kernel_rfl) (unhide HB).drew (fun hHeld => ?_)
      generalize wr.drew = wD at hHeld ⊢
      refine wpAnyH_take (i := 0) (oi := { dst := some 13, op := Go.Op.move (Go.Operand.tmp 0), type := 28, pos := "l06_center.go:24", after := #[], guard := none }) (v := ?v0) rfl (by kernel_rfl) (by kernel_rfl) (by kernel_rfl) (fun _ _ _ h => h) (Or.inl ⟨by rfl, ?h0⟩) hHeld ?r0
      case h0 =>
        intro wS hSw
        (try dsimp only at hSw)
        go_simp
        try with_reducible rfl
      case r0 =>
      simp only [Act.put, List.setIfInBounds_toArray, List.set_cons_zero, List.set_cons_succ]
      refine wpAnyH_take (i := 1) (oi := { dst := some 14, op := Go.Op.move (Go.Operand.tmp 6), type := 3, pos := "l06_center.go:24", after := #[], guard := none }) (v := ?v1) rfl (by kernel_rfl) (by kernel_rfl) (by kernel_rfl) (fun _ _ _ h => h) (Or.inl ⟨by rfl, ?h1⟩) hHeld ?r1
      case h1 =>
        intro wS hSw
        (try dsimp only at hSw)
        go_simp
        try with_reducible rfl
      case r1 =>
      simp only [Act.put, List.setIfInBounds_toArray, List.set_cons_zero, List.set_cons_succ]
      refine wpAnyH_take (i := 2) (oi := { dst := some 15, op := Go.Op.indexAddr 28 (Go.Operand.tmp 13) (Go.Operand.tmp 14), type := 0, pos := "l06_center.go:24", after := #[{ on := 0, ground := Go.Ground.data }, { on := 1, ground := Go.Ground.data }], guard := none }) (v := ?v2) rfl (by kernel_rfl) (by kernel_rfl) (by kernel_rfl) (fun _ _ _ h => h) (Or.inl ⟨by rfl, ?h2⟩) hHeld ?r2
      case h2 =>
        intro wS hSw
        (try dsimp only at hSw)
        go_simp
        try with_reducible rfl
      case r2 =>
      simp only [Act.put, List.setIfInBounds_toArray, List.set_cons_zero, List.set_cons_succ]
      refine wpAnyH_take (i := 3) (oi := { dst := some 16, op := Go.Op.fieldAddr 134 (Go.Operand.tmp 15) 0, type := 0, pos := "l06_center.go:24", after := #[{ on := 2, ground := Go.Ground.data }], guard := none }) (v := ?v3) rfl (by kernel_rfl) (by kernel_rfl) (by kernel_rfl) (fun _ _ _ h => h) (Or.inl ⟨by rfl, ?h3⟩) hHeld ?r3
      case h3 =>
        intro wS hSw
        (try dsimp only at hSw)
        go_simp
        try with_reducible rfl
      case r3 =>
      simp only [Act.put, List.setIfInBounds_toArray, List.set_cons_zero, List.set_cons_succ]
      refine wpAnyH_take (i := 4) (oi := { dst := some 17, op := Go.Op.load 26 (Go.Operand.tmp 16), type := 26, pos := "l06_center.go:24", after := #[{ on := 3, ground := Go.Ground.data }], guard := none }) (v := ?v4) rfl (by kernel_rfl) (by kernel_rfl) (by kernel_rfl) (fun _ _ _ h => h) (Or.inl ⟨by rfl, ?h4⟩) hHeld ?r4
      case h4 =>
        intro wS hSw
        have y1 := (hSw.cell (p := ⟨b, off + k, none⟩) hbl).trans c1
        clear hSw
        (try dsimp only at hSw)
        go_simp
        try with_reducible rfl
      case r4 =>
      simp only [Act.put, List.setIfInBounds_toArray, List.set_cons_zero, List.set_cons_succ]
      refine wpAnyH_take (i := 5) (oi := { dst := some 18, op := Go.Op.move (Go.Operand.tmp 1), type := 26, pos := "l06_center.go:24", after := #[], guard := none }) (v := ?v5) rfl (by kernel_rfl) (by kernel_rfl) (by kernel_rfl) (fun _ _ _ h => h) (Or.inl ⟨by rfl, ?h5⟩) hHeld ?r5
      case h5 =>
        intro wS hSw
        (try dsimp only at hSw)
        go_simp
        try with_reducible rfl
      case r5 =>
      simp only [Act.put, List.setIfInBounds_toArray, List.set_cons_zero, List.set_cons_succ]
      refine wpAnyH_take (i := 7) (oi := { dst := some 20, op := Go.Op.move (Go.Operand.tmp 0), type := 28, pos := "l06_center.go:24", after := #[], guard := none }) (v := ?v7) rfl (by kernel_rfl) (by kernel_rfl) (by kernel_rfl) (fun _ _ _ h => h) (Or.inl ⟨by rfl, ?h7⟩) hHeld ?r7
      case h7 =>
        intro wS hSw
        (try dsimp only at hSw)
        go_simp
        try with_reducible rfl
      case r7 =>
      simp only [Act.put, List.setIfInBounds_toArray, List.set_cons_zero, List.set_cons_succ]
      refine wpAnyH_take (i := 8) (oi := { dst := some 21, op := Go.Op.move (Go.Operand.tmp 5), type := 3, pos := "l06_center.go:24", after := #[], guard := none }) (v := ?v8) rfl (by kernel_rfl) (by kernel_rfl) (by kernel_rfl) (fun _ _ _ h => h) (Or.inl ⟨by rfl, ?h8⟩) hHeld ?r8
      case h8 =>
        intro wS hSw
        (try dsimp only at hSw)
        go_simp
        try with_reducible rfl
      case r8 =>
      simp only [Act.put, List.setIfInBounds_toArray, List.set_cons_zero, List.set_cons_succ]
      refine wpAnyH_take (i := 9) (oi := { dst := some 22, op := Go.Op.indexAddr 28 (Go.Operand.tmp 20) (Go.Operand.tmp 21), type := 0, pos := "l06_center.go:24", after := #[{ on := 7, ground := Go.Ground.data }, { on := 8, ground := Go.Ground.data }], guard := none }) (v := ?v9) rfl (by kernel_rfl) (by kernel_rfl) (by kernel_rfl) (fun _ _ _ h => h) (Or.inl ⟨by rfl, ?h9⟩) hHeld ?r9
      case h9 =>
        intro wS hSw
        (try dsimp only at hSw)
        go_simp
        try with_reducible rfl
      case r9 =>
      simp only [Act.put, List.setIfInBounds_toArray, List.set_cons_zero, List.set_cons_succ]
      refine wpAnyH_take (i := 10) (oi := { dst := some 23, op := Go.Op.fieldAddr 134 (Go.Operand.tmp 22) 0, type := 0, pos := "l06_center.go:24", after := #[{ on := 9, ground := Go.Ground.data }], guard := none }) (v := ?v10) rfl (by kernel_rfl) (by kernel_rfl) (by kernel_rfl) (fun _ _ _ h => h) (Or.inl ⟨by rfl, ?h10⟩) hHeld ?r10
      case h10 =>
        intro wS hSw
        (try dsimp only at hSw)
        go_simp
        try with_reducible rfl
      case r10 =>
      simp only [Act.put, List.setIfInBounds_toArray, List.set_cons_zero, List.set_cons_succ]
      refine wpAnyH_take (i := 11) (oi := { dst := some 24, op := Go.Op.load 26 (Go.Operand.tmp 23), type := 26, pos := "l06_center.go:24", after := #[{ on := 10, ground := Go.Ground.data }], guard := none }) (v := ?v11) rfl (by kernel_rfl) (by kernel_rfl) (by kernel_rfl) (fun _ _ _ h => h) (Or.inl ⟨by rfl, ?h11⟩) hHeld ?r11
      case h11 =>
        intro wS hSw
        have y1 := (hSw.cell (p := ⟨b, off + m, none⟩) hbl).trans c2
        clear hSw
        (try dsimp only at hSw)
        go_simp
        try with_reducible rfl
      case r11 =>
      simp only [Act.put, List.setIfInBounds_toArray, List.set_cons_zero, List.set_cons_succ]
      refine wpAnyH_take (i := 12) (oi := { dst := some 25, op := Go.Op.move (Go.Operand.tmp 1), type := 26, pos := "l06_center.go:24", after := #[], guard := none }) (v := ?v12) rfl (by kernel_rfl) (by kernel_rfl) (by kernel_rfl) (fun _ _ _ h => h) (Or.inl ⟨by rfl, ?h12⟩) hHeld ?r12
      case h12 =>
        intro wS hSw
        (try dsimp only at hSw)
        go_simp
        try with_reducible rfl
      case r12 =>
      simp only [Act.put, List.setIfInBounds_toArray, List.set_cons_zero, List.set_cons_succ]
      refine wpAnyH_ready (rs := [6]) (by kernel_rfl) (by simp) ?_
      refine AllReadyH.cons (o := { dst := some 19, op := Go.Op.call { callee := Go.Callee.value (Go.Operand.func 104), args := #[Go.Operand.tmp 17, Go.Operand.tmp 18], argTypes := #[26, 26] }, type := 2, pos := "l06_center.go:24", after := #[{ on := 4, ground := Go.Ground.data }, { on := 5, ground := Go.Ground.data }], guard := none }) rfl (fun K hK => ?_) AllReadyH.nil
      go_simp
      go_at_call 104
      refine (modelScore3 _ _ x.vec q _ ((unhide I1).later hHeld) ((unhide HQ).later hHeld) (unhide HX) (unhide HV)).mono ?_
      rintro e w3 ⟨rfl, hbw⟩
      try go_wp2_with fail
      refine hK.out _ _ (hHeld.trans (hbw.mono hHeld.size)) (fun hHeld => ?_)
      clear hK K
      try simp only [Act.put, List.setIfInBounds_toArray, List.set_cons_zero, List.set_cons_succ]
      refine wpAnyH_ready (rs := [13]) (by kernel_rfl) (by simp) ?_
      refine AllReadyH.cons (o := { dst := some 26, op := Go.Op.call { callee := Go.Callee.value (Go.Operand.func 104), args := #[Go.Operand.tmp 24, Go.Operand.tmp 25], argTypes := #[26, 26] }, type := 2, pos := "l06_center.go:24", after := #[{ on := 11, ground := Go.Ground.data }, { on := 12, ground := Go.Ground.data }, { on := 6, ground := Go.Ground.chain }], guard := none }) rfl (fun K hK => ?_) AllReadyH.nil
      go_simp
      go_at_call 104
      refine (modelScore3 _ _ y.vec q _ ((unhide I2).later hHeld) ((unhide HQ).later hHeld) (unhide HY) (unhide HV)).mono ?_
      rintro e w3 ⟨rfl, hbw⟩
      try go_wp2_with fail
      refine hK.out _ _ (hHeld.trans (hbw.mono hHeld.size)) (fun hHeld => ?_)
      clear hK K
      try simp only [Act.put, List.setIfInBounds_toArray, List.set_cons_zero, List.set_cons_succ]
      refine wpAnyH_take (i := 14) (oi := { dst := some 27, op := Go.Op.binOp Go.BinOp.lss 2 (Go.Operand.tmp 19) (Go.Operand.tmp 26) 2, type := 4, pos := "l06_center.go:24", after := #[{ on := 6, ground := Go.Ground.data }, { on := 13, ground := Go.Ground.data }], guard := none }) (v := ?v14) rfl (by kernel_rfl) (by kernel_rfl) (by kernel_rfl) (fun _ _ _ h => h) (Or.inl ⟨by rfl, ?h14⟩) hHeld ?r14
      case h14 =>
        intro wS hSw
        (try dsimp only at hSw)
        go_simp
        try with_reducible rfl
      case r14 =>
      simp only [Act.put, List.setIfInBounds_toArray, List.set_cons_zero, List.set_cons_succ]
      refine wpAnyH_done (by kernel_rfl) ?_ _
      refine NoPanic.normal ?_
      have HB3 := hide hHeld
      clear hHeld c1 c2 HB I1 I2
      have hS2 := unhide HS
      rw [unhide HM2] at hS2
      have HS2 := hide hS2
      clear hS2 HS
      cases hd : decide (score3 x.vec q < score3 y.vec q) with
      | true =>
        have HS3 : Hid (nearK cs q (k + 1) = (k, score3 x.vec q)) := (unhide HS2).trans (if_pos (by simpa using hd))
        clear HS2
        go_wp2_with fail
        go_roundw
        case rel => exact ⟨k + 1, by omega, by omega, by go_num, by rw [unhide HS3], unhide HB3⟩
        case measure => simp [intOf]; omega
      | false =>
        have HS3 : Hid (nearK cs q (k + 1) = (m, score3 y.vec q)) := (unhide HS2).trans (if_neg (by simpa using hd))
        clear HS2
        go_wp2_with fail
        go_roundw
        case rel => exact ⟨k + 1, by omega, by omega, by go_num, by rw [unhide HS3], unhide HB3⟩
        case measure => simp [intOf]; omega
    · obtain rfl : k = cs.length := by omega
      have HB := hide hB
      clear hB H
      go_wp2_with fail
      go_ret
      exact ⟨rfl, unhide HB⟩

theorem specNear (v : Value) (cs : List DCenter) (vq : Value) (q : List Int) (w : World) (h : (Lay.sl Lay.tCenter).Reads w [v] cs) (hq : IsInts w vq q) (hc : centersFault cs = 0) (hv : vecFault q = 0) :
    Calls Tryz.prog 86 #[v, vq] w fun e w' => e = .returned (.int .i64 (near cs q : Nat)) ∧ Below w.heap.size w w' := by
  obtain ⟨ao, cap, rfl⟩ := open_sl h
  have hvq : ∃ a d, vq = .slice a q.length d := by obtain ⟨a, d, e, -⟩ := hq; exact ⟨a, d, e⟩
  obtain ⟨a2, d2, rfl⟩ := hvq
  obtain ⟨b, off, rfl, hbl⟩ := Lay.sl_addr h (centersFault_zero hc).1.1
  exact specNear_pos b off cap cs a2 d2 q w h hbl hq hc hv

end Go.Proofs.YtfgadegpdknocaaGreat

namespace Go.Proofs.YtfgadegpdknocaaGreat
open Go.RowKit

theorem inC (v lo hi : Int) (w : World) :
    Calls Tryz.prog 103 #[.int .i64 v, .int .i64 lo, .int .i64 hi] w fun e w' => e = .returned (.bool (decide (lo ≤ v) && decide (v ≤ hi))) ∧ w' = w := by
  by_cases h1 : lo ≤ v
  · have d1 : decide (lo ≤ v) = true := by simpa using h1
    rw [d1]
    cases d2 : decide (v ≤ hi) <;>
    · go_enter Tryz.func103, Tryz.ntmps103
      go_wp2_with fail
      go_ret
      exact ⟨rfl, rfl⟩
  · have d1 : decide (lo ≤ v) = false := by simpa using h1
    rw [d1]
    go_enter Tryz.func103, Tryz.ntmps103
    go_wp2_with fail
    go_ret
    exact ⟨rfl, rfl⟩
theorem idC (x : Int) (w : World) : Calls Tryz.prog 83 #[.int .i64 x] w fun e w' => e = .returned (.bool (decide (1 ≤ x) && decide (x ≤ 999))) ∧ w' = w := by
  go_enter Tryz.func83, Tryz.ntmps83
  go_wp2_with fail
  refine (inC x 1 999 _).mono ?_
  rintro e w1 ⟨rfl, rfl⟩
  go_wp2_with fail
  go_ret
  exact ⟨rfl, rfl⟩

end Go.Proofs.YtfgadegpdknocaaGreat
