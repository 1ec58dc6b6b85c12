/-
  Texts of this proof in one: ImplListF, ImplForm, ImplTIvf, Iter, KeysC, ListC, ImplItems, ImplPutM, OwnIvfResult, IvfOwn, ImplAddIvf, ImplDropM, ImplDropIvf, ImplAsk6, ImplBuildIvf.
  Their conditions stand in their theorems.
-/
import Derived.Test.YtfgadegpdknocaaAq03
import Derived.Test.YtfgadegpdknocaaAq08
import Derived.Test.YtfgadegpdknocaaAq07
import Derived.Test.YtfgadegpdknocaaAq09
import Derived.Shelf.SlIterI.Nil
import Derived.Shelf.SortM.Plain
import Derived.Shelf.SortM.SortNone
import Derived.Ground.GgzProg
import Derived.Ground.SlgmProg
import Derived.Shelf.SlGeneric
import Derived.Test.YtfgadegpdknocaaProg
import Derived.Test.YtfgadegpdknocaaChecked
import Derived.Test.YtfgadegpdknocaaAq02
import Derived.Test.YtfgadegpdknocaaAq01
import Derived.Test.YtfgadegpdknocaaAq10
import Derived.Test.YtfgadegpdknocaaAq06

namespace Go.Proofs.Ytfgadegpdknocaa
open Go.RowKit

theorem atB_of {cs : List DCenter} {i : Nat} {xs : List DItem} (h : ∀ x ∈ xs, near cs x.vec = i) : atB cs i xs = true := by
  rw [atB, List.all_eq_true]
  intro x hx
  rw [h x hx]
  exact beq_self_eq_true _
theorem atB_not {cs : List DCenter} {i : Nat} {xs : List DItem} {x : DItem} (hx : x ∈ xs) (h : near cs x.vec ≠ i) : atB cs i xs = false := by
  cases e : atB cs i xs with
  | false => rfl
  | true =>
    rw [atB, List.all_eq_true] at e
    exact absurd (by simpa using e x hx) h

set_option maxRecDepth 100000 in
set_option maxHeartbeats 2000000 in
theorem implListF (v : Value) (cs : List DCenter) (p : Nat) (a : Option Addr) (d : Nat) (xs : List DItem) (w : World) (hcs : (Lay.sl Lay.tCenter).Reads w [v] cs) (hx : (Lay.sl Lay.tItem).Reads w [.slice a xs.length d] xs) (hc : centersFault cs = 0) :
    Calls Try.prog 139 #[v, .agg #[.int .i64 (p : Int), .slice a xs.length d]] w fun e w' => e = .returned (.int .i64 (listFault cs p xs)) ∧ Below w.heap.size w w' := by
  generalize hF0 : listFault cs p xs = F0
  have HF0 := hide hF0
  clear hF0
  have HB0 : Below w.heap.size w (w.alloc (.cells #[.int .i64 (p : Int), .slice a xs.length d] 117)) := (Below.refl _ _).alloc (Nat.le_refl _) _
  have bO : Box w.heap.size #[.int .i64 (p : Int), .slice a xs.length d] 117 (w.alloc (.cells #[.int .i64 (p : Int), .slice a xs.length d] 117)) w.heap.size := newBox (Nat.le_refl _)
  have hcs1 := hcs.later HB0
  have hx1 := hx.later HB0
  have z0 := bO.at 0 _ rfl
  have z1 := bO.at 1 _ rfl
  have hbig := hx.big
  obtain ⟨av, dv, rfl⟩ := open_sl hcs
  clear hcs hx
  go_enter Try.func139, Try.ntmps139
  go_wp2_with fail
  generalize w.alloc (.cells #[.int .i64 (p : Int), .slice a xs.length d] 117) = W0 at *
  refine (implTab _ xs W0 hx1).mono ?_
  rintro e w1 ⟨rfl, hb⟩
  have HC := hide (hcs1.later hb)
  have HX := hide (hx1.later hb)
  replace bO := bO.keep hb
  replace HB0 := HB0.trans (hb.mono HB0.size)
  have HB := hide HB0
  have HO := hide bO
  clear hb HB0 hcs1 hx1 z0 z1
  by_cases hf : tableFault xs = 0
  · have hall := (tableFault_zero hf).2.1
    have hlf : listFault cs p xs = if atB cs p xs then 0 else 1 := if_pos hf
    rw [hf]
    have HLF := hide hlf
    have HALL := hide hall
    have HCF := hide hc
    have z0 := bO.at 0 _ rfl
    have z1 := bO.at 1 _ rfl
    clear hall hlf hf hc bO
    go_wp2_with fail
    go_loopw [19] (fun i wr => ∃ k : Nat, k ≤ xs.length ∧ i = .int .i64 k ∧ (∀ x ∈ xs.take k, near cs x.vec = p) ∧ Below w1.heap.size w1 wr) (fun i _ => xs.length - (intOf i).toNat)
    case atStart => exact ⟨0, Nat.zero_le _, rfl, by simp, Below.refl _ _⟩
    case round =>
      obtain ⟨k, hk, rfl, hnear, hB⟩ := hrel
      clear z0 z1
      by_cases hlt : k < xs.length
      · obtain ⟨b, off, rfl, hbl⟩ := Lay.sl_addr (unhide HX) (by omega)
        obtain ⟨row, hcl, hr⟩ := Lay.row_at (unhide HX) hlt
        replace hr := hr.later hB
        obtain ⟨a1, d1, rfl, R1⟩ := open_Item hr
        have c0 : wr.cell? ⟨b, off + k * 2, none⟩ = some (.int .i64 (xs[k]).id) := (hB.cell (p := ⟨b, off + k * 2, none⟩) hbl).trans (hcl 0 (by decide))
        have c1 : wr.cell? ⟨b, off + k * 2 + 1, none⟩ = some (.slice a1 (xs[k]).vec.length d1) := (hB.cell (p := ⟨b, off + k * 2 + 1, none⟩) hbl).trans (hcl 1 (by decide))
        have hvx := (unhide HALL xs[k] (List.getElem_mem hlt)).2
        have hmem : xs[k] ∈ xs := List.getElem_mem hlt
        have htk : xs.take (k + 1) = xs.take k ++ [xs[k]] := List.take_succ_eq_append_getElem hlt
        have z0 := ((unhide HO).keep hB).at 0 _ rfl
        have z1 := ((unhide HO).keep hB).at 1 _ rfl
        have l0 := ((unhide HO).keep hB).lt
        clear hcl hr
        generalize hx : xs[k] = x at *
        clear hx
        have HN := hide hnear
        have HTK := hide htk
        have HM := hide hmem
        have HVX := hide hvx
        have HR1 := hide R1
        have HB2 := hide hB
        clear R1 hvx hB hnear htk hmem
        go_wp2_with fail
        have hbn : Below wr.heap.size wr (wr.alloc (.cells #[.int .i64 x.id, .slice a1 x.vec.length d1] 106)) := (Below.refl _ _).alloc (Nat.le_refl _) _
        have hb5 := (unhide HB2).trans (hbn.mono (unhide HB2).size)
        have L := nearC _ cs _ x.vec _ ((unhide HC).later hb5) (Lay.ints_reads ((unhide HR1).later hbn)) (unhide HCF) (unhide HVX)
        have hsz : w1.heap.size ≤ wr.heap.size := (unhide HB2).size
        refine L.mono ?_
        rintro e w3 ⟨rfl, hb3⟩
        have hb6 := hb5.trans (hb3.mono hb5.size)
        have HB6 := hide hb6
        replace z0 : w3.cell? ⟨w.heap.size, 0, none⟩ = some (.int .i64 (p : Int)) := ((unhide HO).keep hb6).at 0 _ rfl
        have l0 := ((unhide HO).keep hb6).lt
        clear hb3 hb5 hb6 hbn L c0 c1 z1 HR1 HB2
        generalize nearS cs x.vec = ns at *
        by_cases hnp : near cs x.vec = p
        · have hnn : (((near cs x.vec : Nat) : Int) != (p : Int)) = false := by rw [hnp]; simp
          have HNP := hide hnp
          clear hnp
          go_wp2_with fail
          go_roundw
          case rel =>
            refine ⟨k + 1, by omega, by go_num, ?_, unhide HB6⟩
            rw [unhide HTK]
            intro y hy
            rcases List.mem_append.1 hy with hy | hy
            · exact unhide HN y hy
            · rw [List.mem_singleton.1 hy]; exact unhide HNP
          case measure => simp [intOf]; omega
        · have hnn : (((near cs x.vec : Nat) : Int) != (p : Int)) = true := by
            have : ((near cs x.vec : Nat) : Int) ≠ (p : Int) := by omega
            simpa using this
          have hF : Hid (F0 = 1) := by show F0 = 1; rw [← unhide HF0, unhide HLF, atB_not (unhide HM) hnp]; rfl
          go_wp2_with fail
          go_ret
          exact ⟨by rw [unhide hF]; rfl, (unhide HB).trans ((unhide HB6).mono (unhide HB).size)⟩
      · obtain rfl : k = xs.length := by omega
        have hF : Hid (F0 = 0) := by show F0 = 0; rw [← unhide HF0, unhide HLF, atB_of (by simpa using hnear)]; rfl
        have HB6 := hide hB
        clear hB hnear
        go_wp2_with fail
        go_ret
        exact ⟨by rw [unhide hF]; rfl, (unhide HB).trans ((unhide HB6).mono (unhide HB).size)⟩
  · have hd : (tableFault xs != 0) = true := by simpa using hf
    have hF : Hid (F0 = tableFault xs) := by show F0 = tableFault xs; rw [← unhide HF0]; exact if_neg hf
    clear bO
    go_wp2_with fail
    go_ret
    exact ⟨by rw [unhide hF]; rfl, unhide HB⟩

end Go.Proofs.Ytfgadegpdknocaa

namespace Go.Proofs.Ytfgadegpdknocaa
open Go.RowKit Go.Shelf
attribute [local go_sem] Oper.semAt_some

set_option maxRecDepth 100000 in
set_option maxHeartbeats 4000000 in
theorem implForm_cen (x : DIvf) (ac : Option Addr) (dc : Nat) (al : Option Addr) (dl : Nat) (w : World) (h1 : (Lay.sl Lay.tCenter).Reads w [.slice ac x.centers.length dc] x.centers) (h2 : (Lay.sl Lay.tIvfList).Reads w [.slice al x.lists.length dl] x.lists) (hf : centersFault x.centers ≠ 0) :
    Calls Try.prog 106 #[.agg #[.slice ac x.centers.length dc, .slice al x.lists.length dl]] w fun e w' => e = .returned (.int .i64 (formF x)) ∧ Below w.heap.size w w' := by
  have nb1 : Below w.heap.size w (w.alloc (.cells #[.slice ac x.centers.length dc, .slice al x.lists.length dl] 31)) := (Below.refl _ _).alloc (Nat.le_refl _) _
  have nb2 : Below w.heap.size w ((w.alloc (.cells #[.slice ac x.centers.length dc, .slice al x.lists.length dl] 31)).alloc (.cells #[.int .i64 0] 2)) := nb1.alloc (by simp) _
  have bX : Box w.heap.size #[.slice ac x.centers.length dc, .slice al x.lists.length dl] 31 ((w.alloc (.cells #[.slice ac x.centers.length dc, .slice al x.lists.length dl] 31)).alloc (.cells #[.int .i64 0] 2)) w.heap.size := (newBox (Nat.le_refl _)).grow _
  have bR : Box w.heap.size #[.int .i64 0] 2 ((w.alloc (.cells #[.slice ac x.centers.length dc, .slice al x.lists.length dl] 31)).alloc (.cells #[.int .i64 0] 2)) (w.heap.size + 1) := newBoxAt (by omega) (by simp)
  have R1 := h1.later nb2
  have R2 := h2.later nb2
  have c0 := bX.at 0 _ rfl
  have c1 := bX.at 1 _ rfl
  have L := implCen _ x.centers _ R1
  generalize hF0 : formF x = F0
  have HF0 := hide hF0
  clear hF0 nb1 h1 h2
  refine (callsIn_wide (n := 9)).1 ?_
  refine callsIn_of_wp_marks Try.func106 rfl trivial ?_ rfl
  refine wpIn_wide.2 ?_
  simp only [Try.ntmps106, List.size_toArray, List.length_cons, List.length_nil, Nat.reduceAdd, Nat.reduceSub, Array.replicate_succ, Array.replicate_zero, List.push_toArray, List.append_toArray, List.nil_append, List.cons_append]
  go_wp2_with fail
  refine L.mono ?_
  generalize (w.alloc (.cells #[.slice ac x.centers.length dc, .slice al x.lists.length dl] 31)).alloc (.cells #[.int .i64 0] 2) = W0 at *
  rintro e w1 ⟨rfl, hb⟩
  replace R1 := R1.later hb
  replace R2 := R2.later hb
  replace bX := bX.keep hb
  replace bR := bR.keep hb
  replace nb2 := nb2.trans (hb.mono nb2.size)
  clear hb L c0 c1
  have c0 := bX.at 0 _ rfl
  have c1 := bX.at 1 _ rfl
  have r0 := bR.at 0 _ rfl
  have f0 := bR.soft 0
  have lX := bX.lt
  have lR := bR.lt
  have hd : (centersFault x.centers != 0) = true := by simpa using hf
  have hF : Hid (F0 = centersFault x.centers) := by show F0 = _; rw [← unhide HF0]; exact if_neg hf
  have HB := hide nb2
  have HR := hide bR
  clear nb2 R1 R2 hf bX bR
  go_wp2_with fail
  have z5 : (w1.setCell ⟨w.heap.size + 1, 0, none⟩ (.int .i64 (centersFault x.centers))).cell? ⟨w.heap.size + 1, 0, none⟩ = some (.int .i64 (centersFault x.centers)) := ((unhide HR).set 0 _).at 0 _ rfl
  exact ⟨.int .i64 (centersFault x.centers), by simp [results, Try.results106, go_sem, z5], by rw [unhide hF], (unhide HB).setCell (by simp) _⟩

set_option maxRecDepth 100000 in
set_option maxHeartbeats 4000000 in
theorem implForm_len (x : DIvf) (ac : Option Addr) (dc : Nat) (al : Option Addr) (dl : Nat) (w : World) (h1 : (Lay.sl Lay.tCenter).Reads w [.slice ac x.centers.length dc] x.centers) (h2 : (Lay.sl Lay.tIvfList).Reads w [.slice al x.lists.length dl] x.lists) (hf : centersFault x.centers = 0) (hl : x.lists.length ≠ x.centers.length) :
    Calls Try.prog 106 #[.agg #[.slice ac x.centers.length dc, .slice al x.lists.length dl]] w fun e w' => e = .returned (.int .i64 (formF x)) ∧ Below w.heap.size w w' := by
  have nb1 : Below w.heap.size w (w.alloc (.cells #[.slice ac x.centers.length dc, .slice al x.lists.length dl] 31)) := (Below.refl _ _).alloc (Nat.le_refl _) _
  have nb2 : Below w.heap.size w ((w.alloc (.cells #[.slice ac x.centers.length dc, .slice al x.lists.length dl] 31)).alloc (.cells #[.int .i64 0] 2)) := nb1.alloc (by simp) _
  have bX : Box w.heap.size #[.slice ac x.centers.length dc, .slice al x.lists.length dl] 31 ((w.alloc (.cells #[.slice ac x.centers.length dc, .slice al x.lists.length dl] 31)).alloc (.cells #[.int .i64 0] 2)) w.heap.size := (newBox (Nat.le_refl _)).grow _
  have bR : Box w.heap.size #[.int .i64 0] 2 ((w.alloc (.cells #[.slice ac x.centers.length dc, .slice al x.lists.length dl] 31)).alloc (.cells #[.int .i64 0] 2)) (w.heap.size + 1) := newBoxAt (by omega) (by simp)
  have R1 := h1.later nb2
  have R2 := h2.later nb2
  have c0 := bX.at 0 _ rfl
  have c1 := bX.at 1 _ rfl
  have L := implCen _ x.centers _ R1
  generalize hF0 : formF x = F0
  have HF0 := hide hF0
  clear hF0 nb1 h1 h2
  refine (callsIn_wide (n := 9)).1 ?_
  refine callsIn_of_wp_marks Try.func106 rfl trivial ?_ rfl
  refine wpIn_wide.2 ?_
  simp only [Try.ntmps106, List.size_toArray, List.length_cons, List.length_nil, Nat.reduceAdd, Nat.reduceSub, Array.replicate_succ, Array.replicate_zero, List.push_toArray, List.append_toArray, List.nil_append, List.cons_append]
  go_wp2_with fail
  refine L.mono ?_
  generalize (w.alloc (.cells #[.slice ac x.centers.length dc, .slice al x.lists.length dl] 31)).alloc (.cells #[.int .i64 0] 2) = W0 at *
  rintro e w1 ⟨rfl, hb⟩
  replace R1 := R1.later hb
  replace R2 := R2.later hb
  replace bX := bX.keep hb
  replace bR := bR.keep hb
  replace nb2 := nb2.trans (hb.mono nb2.size)
  clear hb L c0 c1
  have c0 := bX.at 0 _ rfl
  have c1 := bX.at 1 _ rfl
  have r0 := bR.at 0 _ rfl
  have f0 := bR.soft 0
  have lX := bX.lt
  have lR := bR.lt
  have hd : ((x.lists.length : Int) != (x.centers.length : Int)) = true := by
    have : (x.lists.length : Int) ≠ (x.centers.length : Int) := by omega
    simpa using this
  have hF : Hid (F0 = 1) := by show F0 = _; rw [← unhide HF0, formF, if_pos hf, if_neg hl]
  rw [hf]
  have HB := hide nb2
  have HR := hide bR
  clear nb2 R1 R2 hf bX bR hl
  go_wp2_with fail
  have z5 : (w1.setCell ⟨w.heap.size + 1, 0, none⟩ (.int .i64 1)).cell? ⟨w.heap.size + 1, 0, none⟩ = some (.int .i64 1) := ((unhide HR).set 0 _).at 0 _ rfl
  exact ⟨.int .i64 1, by simp [results, Try.results106, go_sem, z5], by rw [unhide hF], (unhide HB).setCell (by simp) _⟩

set_option maxRecDepth 100000 in
set_option maxHeartbeats 4000000 in
theorem implForm_ok (x : DIvf) (ac : Option Addr) (dc : Nat) (al : Option Addr) (dl : Nat) (w : World) (h1 : (Lay.sl Lay.tCenter).Reads w [.slice ac x.centers.length dc] x.centers) (h2 : (Lay.sl Lay.tIvfList).Reads w [.slice al x.lists.length dl] x.lists) (hf : centersFault x.centers = 0) (HL : Hid (x.lists.length = x.centers.length)) :
    Calls Try.prog 106 #[.agg #[.slice ac x.centers.length dc, .slice al x.lists.length dl]] w fun e w' => e = .returned (.int .i64 (formF x)) ∧ Below w.heap.size w w' := by
  have nb1 : Below w.heap.size w (w.alloc (.cells #[.slice ac x.centers.length dc, .slice al x.lists.length dl] 31)) := (Below.refl _ _).alloc (Nat.le_refl _) _
  have nb2 : Below w.heap.size w ((w.alloc (.cells #[.slice ac x.centers.length dc, .slice al x.lists.length dl] 31)).alloc (.cells #[.int .i64 0] 2)) := nb1.alloc (by simp) _
  have bX : Box w.heap.size #[.slice ac x.centers.length dc, .slice al x.lists.length dl] 31 ((w.alloc (.cells #[.slice ac x.centers.length dc, .slice al x.lists.length dl] 31)).alloc (.cells #[.int .i64 0] 2)) w.heap.size := (newBox (Nat.le_refl _)).grow _
  have bR : Box w.heap.size #[.int .i64 0] 2 ((w.alloc (.cells #[.slice ac x.centers.length dc, .slice al x.lists.length dl] 31)).alloc (.cells #[.int .i64 0] 2)) (w.heap.size + 1) := newBoxAt (by omega) (by simp)
  have R1 := h1.later nb2
  have R2 := h2.later nb2
  have c0 := bX.at 0 _ rfl
  have c1 := bX.at 1 _ rfl
  have L := implCen _ x.centers _ R1
  generalize hF0 : formF x = F0
  have HF0 := hide hF0
  have H1 := hide h1
  have H2 := hide h2
  clear hF0 nb1 h1 h2
  refine (callsIn_wide (n := 9)).1 ?_
  refine callsIn_of_wp_marks Try.func106 rfl trivial ?_ rfl
  refine wpIn_wide.2 ?_
  simp only [Try.ntmps106, List.size_toArray, List.length_cons, List.length_nil, Nat.reduceAdd, Nat.reduceSub, Array.replicate_succ, Array.replicate_zero, List.push_toArray, List.append_toArray, List.nil_append, List.cons_append]
  go_wp2_with fail
  refine L.mono ?_
  generalize (w.alloc (.cells #[.slice ac x.centers.length dc, .slice al x.lists.length dl] 31)).alloc (.cells #[.int .i64 0] 2) = W0 at *
  rintro e w1 ⟨rfl, hb⟩
  replace R1 := R1.later hb
  replace R2 := R2.later hb
  replace bX := bX.keep hb
  replace bR := bR.keep hb
  replace nb2 := nb2.trans (hb.mono nb2.size)
  clear hb L c0 c1
  have c0 := bX.at 0 _ rfl
  have c1 := bX.at 1 _ rfl
  have r0 := bR.at 0 _ rfl
  have f0 := bR.soft 0
  have lX := bX.lt
  have lR := bR.lt
  have hd : ((x.lists.length : Int) != (x.centers.length : Int)) = false := by rw [unhide HL]; simp
  have hn6 : x.centers.length ≤ 6 := (centersFault_zero hf).1.2
  have hn1 : 1 ≤ x.centers.length := (centersFault_zero hf).1.1
  rw [hf]
  have HCF := hide hf
  have HB := hide nb2
  have HR := hide bR
  have HBX := hide bX
  have LP : Hid (∀ W : World, _) := fun W : World => implPlaces ac x.centers.length dc W (by omega)
  have LQ : Hid (∀ (a : Option Addr) (n c : Nat) (W : World), _) := fun (a : Option Addr) (n c : Nat) (W : World) => implListsAt (.slice ac x.centers.length dc) (.slice al x.lists.length dl) a n c W ⟨_, _, _, rfl⟩ ⟨_, _, _, rfl⟩
  clear nb2 R1 R2 hf bX bR
  go_wp2_with fail
  clear c0 c1 r0 f0
  refine wp_region_noPanic ?_
  refine wp_region_held_drew (S := fun w' => Below w1.heap.size w1 w') (by kernel_rfl) (Below.refl _ _).drew (fun hHeld => ?_)
  generalize w1.drew = wD at hHeld ⊢
  refine wpAnyH_take (i := 0) (oi := { dst := some 19, op := Go.Op.load 31 (Go.Operand.tmp 1), type := 31, pos := "l07_ivf.go:92", after := #[], guard := none }) (v := ?vf0) rfl (by kernel_rfl) (by kernel_rfl) (by kernel_rfl) (fun _ _ _ h => h) (Or.inl ⟨by rfl, ?hf0⟩) hHeld ?rf0
  case hf0 =>
    intro wS hSw
    have y0 := ((unhide HBX).keep hSw).at 0 _ rfl
    have y1 := ((unhide HBX).keep hSw).at 1 _ rfl
    clear hSw
    (try dsimp only at hSw)
    go_simp
    try with_reducible rfl
  case rf0 =>
  simp only [Act.put, List.setIfInBounds_toArray, List.set_cons_zero, List.set_cons_succ]
  refine wpAnyH_take (i := 1) (oi := { dst := some 20, op := Go.Op.fieldAddr 31 (Go.Operand.tmp 1) 0, type := 0, pos := "l07_ivf.go:92", after := #[], guard := none }) (v := ?vf1) rfl (by kernel_rfl) (by kernel_rfl) (by kernel_rfl) (fun _ _ _ h => h) (Or.inl ⟨by rfl, ?hf1⟩) hHeld ?rf1
  case hf1 =>
    intro wS hSw
    (try dsimp only at hSw)
    go_simp
    try with_reducible rfl
  case rf1 =>
  simp only [Act.put, List.setIfInBounds_toArray, List.set_cons_zero, List.set_cons_succ]
  refine wpAnyH_take (i := 2) (oi := { dst := some 21, op := Go.Op.load 28 (Go.Operand.tmp 20), type := 28, pos := "l07_ivf.go:92", after := #[{ on := 1, ground := Go.Ground.data }], guard := none }) (v := ?vf2) rfl (by kernel_rfl) (by kernel_rfl) (by kernel_rfl) (fun _ _ _ h => h) (Or.inl ⟨by rfl, ?hf2⟩) hHeld ?rf2
  case hf2 =>
    intro wS hSw
    have y0 := ((unhide HBX).keep hSw).at 0 _ rfl
    have y1 := ((unhide HBX).keep hSw).at 1 _ rfl
    clear hSw
    (try dsimp only at hSw)
    go_simp
    try with_reducible rfl
  case rf2 =>
  simp only [Act.put, List.setIfInBounds_toArray, List.set_cons_zero, List.set_cons_succ]
  refine wpAnyH_ready (rs := [3]) (by kernel_rfl) (by simp) ?_
  refine AllReadyH.cons (o := { dst := some 22, op := Go.Op.call { callee := Go.Callee.value (Go.Operand.func 138), args := #[Go.Operand.tmp 21], argTypes := #[28] }, type := 51, pos := "l07_ivf.go:92", after := #[{ on := 2, ground := Go.Ground.data }], guard := none }) rfl (fun K hK => ?_) AllReadyH.nil
  go_simp
  go_at_call 138
  refine (unhide LP _).mono ?_
  rintro e w3 ⟨rfl, hO3, hb3⟩
  try go_wp2_with fail
  refine hK.out _ _ (hHeld.trans (hb3.mono hHeld.size)) (fun hHeld => ?_)
  clear hK K
  try simp only [Act.put, List.setIfInBounds_toArray, List.set_cons_zero, List.set_cons_succ]
  refine wpAnyH_ready (rs := [4]) (by kernel_rfl) (by simp) ?_
  refine AllReadyH.cons (o := { dst := some 23, op := Go.Op.call { callee := Go.Callee.value (Go.Operand.func 123), args := #[Go.Operand.tmp 19, Go.Operand.tmp 22], argTypes := #[31, 51] }, type := 158, pos := "l07_ivf.go:92", after := #[{ on := 0, ground := Go.Ground.data }, { on := 3, ground := Go.Ground.data }, { on := 3, ground := Go.Ground.chain }], guard := none }) rfl (fun K hK => ?_) AllReadyH.nil
  go_simp
  go_at_call 123
  refine (unhide LQ _ _ _ _).mono ?_
  rintro e w4 ⟨rfl, rfl⟩
  try go_wp2_with fail
  refine hK.out _ _ ((hHeld.alloc hHeld.size _).alloc (Nat.le_trans hHeld.size (by simp)) _) (fun hHeld => ?_)
  clear hK K
  try simp only [Act.put, List.setIfInBounds_toArray, List.set_cons_zero, List.set_cons_succ]
  refine wpAnyH_done (by kernel_rfl) ?_ _
  refine NoPanic.normal ?_
  have HO3 := hide hO3
  have HB3 := hide hb3
  have HHeld := hide hHeld
  clear hO3 hb3 hHeld
  go_wp2_with fail
  have hpos : 0 < x.lists.length := by rw [unhide HL]; omega
  have hm6 : x.lists.length ≤ 6 := by rw [unhide HL]; omega
  obtain ⟨bL, oL, ia, ic, rfl, hbL, hli⟩ := lists_at (unhide H2) hpos
  have hbw := unhide HB
  have hO4 := ((unhide HO3).alloc (.cells #[.slice ac x.centers.length dc, .slice (some ⟨bL, oL, none⟩) x.lists.length dl] 31)).alloc (.cells #[.slice (some ⟨wD.heap.size, 0, none⟩) x.centers.length x.centers.length] 51)
  have bX4 := ((unhide HBX).keep (unhide HHeld))
  have bR4 := ((unhide HR).keep (unhide HHeld))
  have hB4 := hbw.trans ((unhide HHeld).mono hbw.size)
  have hsz3 : wD.heap.size < w3.heap.size := ((unhide HO3).lt wD.heap.size rfl).2
  have bY : Box 0 #[.slice ac x.centers.length dc, .slice (some ⟨bL, oL, none⟩) x.lists.length dl] 31 ((w3.alloc (.cells #[.slice ac x.centers.length dc, .slice (some ⟨bL, oL, none⟩) x.lists.length dl] 31)).alloc (.cells #[.slice (some ⟨wD.heap.size, 0, none⟩) x.centers.length x.centers.length] 51)) w3.heap.size := (newBox (Nat.zero_le _)).grow _
  have bP : Box 0 #[.slice (some ⟨wD.heap.size, 0, none⟩) x.centers.length x.centers.length] 51 ((w3.alloc (.cells #[.slice ac x.centers.length dc, .slice (some ⟨bL, oL, none⟩) x.lists.length dl] 31)).alloc (.cells #[.slice (some ⟨wD.heap.size, 0, none⟩) x.centers.length x.centers.length] 51)) (w3.heap.size + 1) := newBoxAt (Nat.zero_le _) (by simp)
  have hszL : ((w3.alloc (.cells #[.slice ac x.centers.length dc, .slice (some ⟨bL, oL, none⟩) x.lists.length dl] 31)).alloc (.cells #[.slice (some ⟨wD.heap.size, 0, none⟩) x.centers.length x.centers.length] 51)).heap.size = w3.heap.size + 2 := by simp
  generalize hWL : (w3.alloc (.cells #[.slice ac x.centers.length dc, .slice (some ⟨bL, oL, none⟩) x.lists.length dl] 31)).alloc (.cells #[.slice (some ⟨wD.heap.size, 0, none⟩) x.centers.length x.centers.length] 51) = WL at *
  have hlw : w.heap.size + 1 < w1.heap.size := (unhide HR).lt
  have hw1L := (unhide HHeld).size
  have hit : ItAt WL w3.heap.size bL oL x.lists.length dl ia (fun j => (itsL x.lists j).length) ic wD.heap.size 0 (allPl x.lists.length) := by
    refine ⟨bY.at 1 _ rfl, fun j hj => (hB4.cell (p := ⟨bL, oL + j, none⟩) hbL).trans (hli j hj).1, fun i hi => ?_⟩
    rw [allPl_at, Nat.zero_add]
    rw [allPl_len] at hi
    rw [hO4.cellAt i (by have := unhide HL; omega)]
    exact plV_at (by rw [List.getElem?_range (by rw [← unhide HL]; exact hi)])
  have hbp : WL.cell? ⟨w3.heap.size + 1, 0, none⟩ = some (.slice (some ⟨wD.heap.size, 0, none⟩) (allPl x.lists.length).length x.centers.length) := by rw [allPl_len, unhide HL]; exact bP.at 0 _ rfl
  clear hO4 bY bP
  refine wpIn_wide.1 (wpIn_rangeFunc_ownH (F := Fence.wide) (n := 9) rfl (by decide) (gf := 141) (lb := #[.pointer (some ⟨w3.heap.size + 1, 0, none⟩), .pointer (some ⟨w3.heap.size, 0, none⟩)]) rfl trivial (enters_of Try.func141 (by kernel_rfl) rfl)
    (listsAt_stops 8 (w3.heap.size + 1) w3.heap.size bL oL x.lists.length dl x.centers.length ia (fun j => (itsL x.lists j).length) ic wD.heap.size 0 (allPl x.lists.length) WL.heap.size (fun _ => False) (by rw [allPl_len]; omega) ⟨by omega, fun h => h⟩ ⟨by have := hbw.size; omega, fun h => h⟩ ⟨by omega, fun h => h⟩ WL (by omega) (Nat.le_refl _) hbp hit)
    KpS.trans (fun W l _ o' hl _ _ _ => KpS.put _ W l o' hl) (Below.refl _ _) (fun _ => rfl)
    (fun pre W => (WL.heap.size ≤ W.heap.size ∧ ∀ p ∈ pre, faultAt x p.1 = 0) ∧ Box w.heap.size #[.slice ac x.centers.length dc, .slice (some ⟨bL, oL, none⟩) x.lists.length dl] 31 W w.heap.size ∧ Box w.heap.size #[.int .i64 0] 2 W (w.heap.size + 1) ∧ Below w.heap.size w W)
    (fun c pre W => c = .ret ∧ ∃ pre' p, pre = pre' ++ [p] ∧ (∀ q ∈ pre', faultAt x q.1 = 0) ∧ faultAt x p.1 ≠ 0 ∧ Box w.heap.size #[.int .i64 (faultAt x p.1)] 2 W (w.heap.size + 1) ∧ Below w.heap.size w W)
    (fun s A B row hs hg hr => ⟨⟨Nat.le_trans hs.1.1 hg.size, hs.1.2⟩, box_grown hg hr hs.2.1, box_grown hg hr hs.2.2.1, below_grown hg hr hs.2.2.2 (by omega) (Nat.le_refl _)⟩)
    (fun c s A B row hs hg hr => by
      obtain ⟨rfl, pre', p, rfl, q1, q2, q3, q4⟩ := hs
      exact ⟨rfl, pre', p, rfl, q1, q2, box_grown hg hr q3, below_grown hg hr q4 (by omega) (Nat.le_refl _)⟩)
    ⟨⟨Nat.le_refl _, by simp⟩, bX4, bR4, hB4⟩
    (fun y a' W => ∃ Bo, Box 0 #[.int .i64 (y.1 : Int), .slice (ia y.1) (itsL x.lists y.1).length (ic y.1)] 117 W Bo ∧ a' = { tmps := #[.agg #[.slice ac x.centers.length dc, .slice (some ⟨bL, oL, none⟩) x.lists.length dl], .pointer (some ⟨w.heap.size, 0, none⟩), .pointer (some ⟨w.heap.size + 1, 0, none⟩), .int .i64 0, .pointer (some ⟨Bo, 0, none⟩), undef, .pointer (some ⟨w.heap.size, 0, none⟩), .slice ac x.centers.length dc, .int .i64 0, .int .i64 0, .bool false, undef, .pointer (some ⟨w.heap.size, 1, none⟩), .slice (some ⟨bL, oL, none⟩) x.lists.length dl, .int .i64 (x.lists.length : Int), .pointer (some ⟨w.heap.size, 0, none⟩), .slice ac x.centers.length dc, .int .i64 (x.centers.length : Int), .bool false, .agg #[.slice ac x.centers.length dc, .slice (some ⟨bL, oL, none⟩) x.lists.length dl], .pointer (some ⟨w.heap.size, 0, none⟩), .slice ac x.centers.length dc, .slice (some ⟨wD.heap.size, 0, none⟩) x.centers.length x.centers.length, .func (.func 141) #[] #[.pointer (some ⟨w3.heap.size + 1, 0, none⟩), .pointer (some ⟨w3.heap.size, 0, none⟩)], .agg #[.int .i64 (y.1 : Int), .slice (ia y.1) (itsL x.lists y.1).length (ic y.1)], undef, undef, undef, undef, undef, undef, undef], defers := [] })
    (fun y a' _ A B row hs hg hr => by
      obtain ⟨Bo, q1, q2⟩ := hs
      exact ⟨Bo, box_grown hg hr q1, q2⟩)
    ?assign ?body ?done ?stop)
  case assign =>
    rintro l pre y W K ⟨⟨hs, hp⟩, b1, b2, hB1⟩ hK
    have hbn : Below W.heap.size W (W.alloc (.cells #[.int .i64 (y.1 : Int), .slice (ia y.1) (itsL x.lists y.1).length (ic y.1)] 117)) := (Below.refl _ _).alloc (Nat.le_refl _) _
    gi_wp2
    exact hK _ _ (keepsFrom_below hbn) (KpS.of_below _ hbn hs) ⟨⟨Nat.le_trans hs hbn.size, hp⟩, b1.keep hbn, b2.keep hbn, hB1.trans (hbn.mono hB1.size)⟩ ⟨W.heap.size, newBox (Nat.zero_le _), rfl⟩
  case body =>
    rintro l pre y a' W hl ⟨r, hr⟩ ⟨⟨hs, hp⟩, b1, b2, hB1⟩ ⟨Bo, bO, rfl⟩ hlt
    have c0 := b1.at 0 _ rfl
    have o0 := bO.at 0 _ rfl
    have o1 := bO.at 1 _ rfl
    have hy2 := y.2
    have LF := implListF _ x.centers y.1 (ia y.1) (ic y.1) (itsL x.lists y.1) W ((unhide H1).later hB1) ((hli y.1 y.2).2.later hB1) (unhide HCF)
    have LG := hide (CallsIn.inRound l ((callsIn_wide (n := 9 - 1 - 1 - 1)).2 LF))
    have HP := hide hp
    have HB1 := hide hB1
    have HB2 := hide b1
    have HB3 := hide b2
    clear LF hp hB1 hit hbp hli hB4 bX4 bR4 b1 b2 bO
    gi_wp2
    refine ⟨trivial, ?_⟩
    gi_at_call 139
    refine (unhide LG).mono ?_
    rintro e w5 ⟨rfl, hb5⟩
    have e5 : listFault x.centers y.1 (itsL x.lists y.1) = faultAt x y.1 := rfl
    rw [e5]
    have hbb := unhide HB1
    have hB5 := hide (hbb.trans (hb5.mono hbb.size))
    have HK5 : Hid (KeepsFrom WL.heap.size W w5) := keepsFrom_below hb5
    have HP5 : Hid (KpS WL.heap.size (fun _ => False) W w5) := KpS.of_below _ hb5 hs
    have HX5 := hide ((unhide HB2).keep hb5)
    have HR5 := hide ((unhide HB3).keep hb5)
    have hs5 := hb5.size
    clear c0 o0 o1 hb5 hbb e5 LG
    by_cases hz : faultAt x y.1 = 0
    · rw [hz]
      have HZ := hide hz
      clear hz
      gi_wp2
      refine ⟨unhide HK5, unhide HP5, ⟨by omega, fun q hq => ?_⟩, unhide HX5, unhide HR5, unhide hB5⟩
      rcases List.mem_append.1 hq with hq | hq
      · exact unhide HP q hq
      · rw [List.mem_singleton.1 hq]; exact unhide HZ
    · have hd5 : (faultAt x y.1 != 0) = true := by simpa using hz
      have HZ := hide hz
      have r0 := (unhide HR5).at 0 _ rfl
      have f0 := (unhide HR5).soft 0
      have lR5 := (unhide HR5).lt
      clear hz
      gi_wp2
      refine ⟨(unhide HK5).trans ((KeepsOthers.setCell _ _ _).from _), rfl, pre, y, rfl, unhide HP, unhide HZ, (unhide HR5).set 0 _, (unhide hB5).setCell (by simp) _⟩
  case done =>
    rintro D xs W hD rfl ⟨⟨hs, hp⟩, b1, b2, hB1⟩ hK
    have r0 := b2.at 0 _ rfl
    have f0 := b2.soft 0
    have l0 := b2.lt
    have HR5 := hide b2
    have HB5 := hide hB1
    have hF : Hid (F0 = 0) := by show F0 = 0; rw [← unhide HF0]; exact form_all (unhide HCF) (unhide HL) hp
    have HK := hide hK
    clear b1 b2 hB1 hK hit hbp hli
    go_wp2_with fail
    have hK' := (KeepsOthers.setCell W ⟨w.heap.size + 1, 0, none⟩ (.int .i64 0)).same D _ (unhide HK) rfl
    refine ⟨by simp, .inl ⟨_, _, rfl, run_takeDeferred hK', ?_⟩⟩
    have hc5 := cell_kept (((unhide HR5).set 0 (.int .i64 0)).at 0 _ rfl) (grownBy_putObj' _ D (.deferred none)) (fun r e => by cases e; exact ⟨_, hK', rfl⟩)
    refine ⟨.int .i64 0, by simp [results, Try.results106, go_sem, hc5], by rw [unhide hF], ?_⟩
    exact ((unhide HB5).setCell (by simp) _).grown (grownBy_putObj' _ D (.deferred none)) (by have := (unhide HB5).size; simp; omega) (fun k e => by cases e; omega)
  case stop =>
    rintro D c pre W hD hpre ⟨rfl, pre', p, rfl, q1, q2, q3, q4⟩ hK
    have hF : Hid (F0 = faultAt x p.1) := by show F0 = _; rw [← unhide HF0]; exact form_at (unhide HCF) (unhide HL) hpre q1 q2
    have HR5 := hide q3
    have HB5 := hide q4
    have HK := hide hK
    clear q1 q2 q3 q4 hK hit hbp hli
    gi_wp2
    refine ⟨by simp, .inl ⟨_, _, rfl, run_takeDeferred (unhide HK), ?_⟩⟩
    have hc5 := cell_kept ((unhide HR5).at 0 _ rfl) (grownBy_putObj' _ D (.deferred none)) (fun r e => by cases e; exact ⟨_, unhide HK, rfl⟩)
    refine ⟨.int .i64 (faultAt x p.1), by simp [results, Try.results106, go_sem, hc5], by rw [unhide hF], ?_⟩
    exact (unhide HB5).grown (grownBy_putObj' _ D (.deferred none)) (by have := (unhide HB5).size; omega) (fun k e => by cases e; omega)


theorem implForm (x : DIvf) (ac : Option Addr) (dc : Nat) (al : Option Addr) (dl : Nat) (w : World) (h1 : (Lay.sl Lay.tCenter).Reads w [.slice ac x.centers.length dc] x.centers) (h2 : (Lay.sl Lay.tIvfList).Reads w [.slice al x.lists.length dl] x.lists) :
    Calls Try.prog 106 #[.agg #[.slice ac x.centers.length dc, .slice al x.lists.length dl]] w fun e w' => e = .returned (.int .i64 (formF x)) ∧ Below w.heap.size w w' := by
  by_cases hf : centersFault x.centers = 0
  · by_cases hl : x.lists.length = x.centers.length
    · exact implForm_ok x ac dc al dl w h1 h2 hf hl
    · exact implForm_len x ac dc al dl w h1 h2 hf hl
  · exact implForm_cen x ac dc al dl w h1 h2 hf

end Go.Proofs.Ytfgadegpdknocaa

namespace Go.Proofs.Ytfgadegpdknocaa
open Go.RowKit

theorem ivfFault_form (x : DIvf) : ivfFault x = if formF x = 0 then codeL x else formF x := by
  unfold ivfFault formF codeL
  by_cases h1 : centersFault x.centers = 0
  · simp only [if_pos h1]
    by_cases h2 : x.lists.length = x.centers.length
    · simp only [if_pos h2]
    · simp only [if_neg h2]
      rw [if_neg (by decide)]
  · simp only [if_neg h1]
theorem form_zero {x : DIvf} (h : formF x = 0) : centersFault x.centers = 0 ∧ x.lists.length = x.centers.length ∧ ∀ l ∈ x.lists, tableFault l.items = 0 := by
  unfold formF at h
  by_cases h1 : centersFault x.centers = 0
  · rw [if_pos h1] at h
    by_cases h2 : x.lists.length = x.centers.length
    · rw [if_pos h2] at h
      exact ⟨h1, h2, list_facts h⟩
    · rw [if_neg h2] at h; cases h
  · rw [if_neg h1] at h; exact absurd h h1

set_option maxRecDepth 10000 in
set_option maxHeartbeats 1000000 in
theorem implTIvf (x : DIvf) (ac : Option Addr) (dc : Nat) (al : Option Addr) (dl : Nat) (w : World) (h1 : (Lay.sl Lay.tCenter).Reads w [.slice ac x.centers.length dc] x.centers) (h2 : (Lay.sl Lay.tIvfList).Reads w [.slice al x.lists.length dl] x.lists) :
    Calls Try.prog 57 #[.agg #[.slice ac x.centers.length dc, .slice al x.lists.length dl]] w fun e w' => (∃ mv, e = .returned (.tuple #[mv, .int .i64 (ivfFault x)]) ∧ (ivfFault x ≠ 0 → mv = .map none) ∧ (ivfFault x = 0 → ∃ b, mv = .map (some b) ∧ w.heap.size ≤ b ∧ TabAt w' b 200 (allIs x.lists))) ∧ Below w.heap.size w w' := by
  have nb : Below w.heap.size w (w.alloc (.cells #[.slice ac x.centers.length dc, .slice al x.lists.length dl] 31)) := (Below.refl _ _).alloc (Nat.le_refl _) _
  have bX : Box w.heap.size #[.slice ac x.centers.length dc, .slice al x.lists.length dl] 31 (w.alloc (.cells #[.slice ac x.centers.length dc, .slice al x.lists.length dl] 31)) w.heap.size := newBox (Nat.le_refl _)
  have L := implForm x ac dc al dl _ (h1.later nb) (h2.later nb)
  have hfi := ivfFault_form x
  generalize hF0 : ivfFault x = F0 at *
  have HF0 := hide hfi
  have c0 := bX.at 0 _ rfl
  have c1 := bX.at 1 _ rfl
  clear hfi
  go_enter Try.func57, Try.ntmps57
  go_wp2_with fail
  generalize w.alloc (.cells #[.slice ac x.centers.length dc, .slice al x.lists.length dl] 31) = W0 at *
  refine L.mono ?_
  rintro e w1 ⟨rfl, hb⟩
  replace bX := bX.keep hb
  replace nb := nb.trans (hb.mono nb.size)
  clear hb L c0 c1
  by_cases hf : formF x = 0
  · obtain ⟨q1, q2, q3⟩ := form_zero hf
    have L2 := hide (implTLists x ac dc al dl w1 (h1.later nb) (h2.later nb) q1 q2 q3)
    have hF : Hid (F0 = codeL x) := by show F0 = _; rw [unhide HF0, if_pos hf]
    rw [hf]
    have c0 := bX.at 0 _ rfl
    have c1 := bX.at 1 _ rfl
    have HB := hide nb
    clear q1 q2 q3 hf bX nb h1 h2 hF0
    go_wp2_with fail
    refine (unhide L2).mono ?_
    rintro e w2 ⟨⟨mv, rfl, m1, m2⟩, hb2⟩
    have HM1 := hide m1
    have HM2 := hide m2
    have HB2 := hide ((unhide HB).trans (hb2.mono (unhide HB).size))
    clear m1 m2 hb2 L2 c0 c1
    go_wp2_with fail
    refine bodyPost_ret (v := .tuple #[mv, .int .i64 (codeL x)]) (by simp [results, Try.results57, go_sem]) rfl ?_
    rw [unhide hF]
    refine ⟨⟨mv, rfl, unhide HM1, fun h => ?_⟩, unhide HB2⟩
    obtain ⟨b, e1, e2, e3⟩ := unhide HM2 h
    exact ⟨b, e1, Nat.le_trans (unhide HB).size e2, e3⟩
  · have hd : (formF x != 0) = true := by simpa using hf
    have hF : Hid (F0 = formF x) := by show F0 = _; rw [unhide HF0, if_neg hf]
    have HB := hide nb
    have HN := hide hf
    clear hf bX nb h1 h2 hF0
    go_wp2_with fail
    refine bodyPost_ret (v := .tuple #[.map none, .int .i64 (formF x)]) (by simp [results, Try.results57, go_sem]) rfl ?_
    rw [unhide hF]
    exact ⟨⟨_, rfl, fun _ => rfl, fun h => absurd h (unhide HN)⟩, unhide HB⟩

set_option maxRecDepth 10000 in
set_option maxHeartbeats 1000000 in
theorem implIvfF (cs : List Value) (x : DIvf) (w : World) (h : Lay.tIvf.Reads w cs x) :
    Calls Try.prog 12 #[.agg cs.toArray] w fun e w' => e = .returned (.int .i64 (ivfFault x)) ∧ Below w.heap.size w w' := by
  obtain ⟨ac, dc, al, dl, rfl, R0, R1⟩ := open_Ivf h
  have nb : Below w.heap.size w (w.alloc (.cells #[.slice ac x.centers.length dc, .slice al x.lists.length dl] 31)) := (Below.refl _ _).alloc (Nat.le_refl _) _
  have bx : Box w.heap.size #[.slice ac x.centers.length dc, .slice al x.lists.length dl] 31 (w.alloc (.cells #[.slice ac x.centers.length dc, .slice al x.lists.length dl] 31)) w.heap.size := newBox (Nat.le_refl _)
  have L := hide (implTIvf x ac dc al dl _ (R0.later nb) (R1.later nb))
  have HB := hide nb
  have c0 := bx.at 0 _ rfl
  have c1 := bx.at 1 _ rfl
  clear h R0 R1 nb bx
  go_enter Try.func12, Try.ntmps12
  go_wp2_with fail
  refine (unhide L).mono ?_
  rintro e w1 ⟨⟨mv, rfl, -, -⟩, hb⟩
  replace HB := hide ((unhide HB).trans (hb.mono (unhide HB).size))
  clear hb L c0 c1
  go_wp2_with fail
  go_ret
  exact ⟨rfl, unhide HB⟩

end Go.Proofs.Ytfgadegpdknocaa

namespace Go.Proofs
open Go.Shelf
def Try.keys126_ren : Go.Shelf.Ren := ⟨fun | 7 => 126 | 10 => 147 | n => n, fun | 23 => 92 | 26 => 2 | 3 => 133 | 28 => 163 | 0 => 0 | 27 => 162 | 33 => 111 | 4 => 4 | n => n, fun | n => n⟩
theorem Try.keys126 : Go.Proofs.SlLaysZI.n7 Try.prog Try.keys126_ren := {
  mixed := by kernel_rfl
  f7 := ⟨Try.f126.name, by decide, Try.func126.trans (congrArg some (by kernel_rfl))⟩
  f10 := ⟨Try.f147.name, by decide, Try.func147.trans (congrArg some (by kernel_rfl))⟩
  t0 := Try.underlying0
  a0 := Try.isAgg0
  z0 := Try.sizeOf0
  v0 := Try.zeroValue0
  t4 := Try.underlying4
  a4 := Try.isAgg4
  z4 := Try.sizeOf4
  v4 := Try.zeroValue4
  t23 := Try.underlying92
  a23 := Try.isAgg92
  z23 := Try.sizeOf92
  v23 := Try.zeroValue92
  t26 := Try.underlying2
  a26 := Try.isAgg2
  z26 := Try.sizeOf2
  v26 := Try.zeroValue2
  t27 := Try.underlying162
  a27 := Try.isAgg162
  z27 := Try.sizeOf162
  v27 := Try.zeroValue162
  t28 := Try.underlying163
  a28 := Try.isAgg163
  z28 := Try.sizeOf163
  v28 := Try.zeroValue163
  t33 := Try.underlying111
  a33 := Try.isAgg111
  z33 := Try.sizeOf111
  v33 := Try.zeroValue111 }
def Try.sorted125_ren : Go.Shelf.Ren := ⟨fun | 6 => 125 | 8 => 145 | 9 => 146 | 11 => 156 | 13 => 158 | 12 => 157 | 23 => 171 | 24 => 172 | 14 => 162 | 15 => 163 | 16 => 164 | 17 => 165 | 18 => 166 | 19 => 167 | 20 => 168 | 21 => 169 | 22 => 170 | 25 => 176 | 26 => 177 | 27 => 178 | 28 => 179 | 29 => 180 | 30 => 155 | 31 => 183 | n => n, fun | 26 => 2 | 28 => 163 | 24 => 51 | 0 => 0 | 3 => 3 | 37 => 192 | 48 => 206 | 50 => 208 | 4 => 4 | 40 => 198 | 39 => 197 | 45 => 203 | 5 => 5 | 9 => 9 | 51 => 211 | 55 => 215 | 57 => 217 | 58 => 218 | 33 => 111 | n => n, fun | n => n⟩
theorem Try.sorted125 : Go.Proofs.SlLaysZI.n6 Try.prog Try.sorted125_ren := {
  mixed := by kernel_rfl
  f6 := ⟨Try.f125.name, by decide, Try.func125.trans (congrArg some (by kernel_rfl))⟩
  f8 := ⟨Try.f145.name, by decide, Try.func145.trans (congrArg some (by kernel_rfl))⟩
  f11 := ⟨Try.f156.name, by decide, Try.func156.trans (congrArg some (by kernel_rfl))⟩
  t0 := Try.underlying0
  a0 := Try.isAgg0
  z0 := Try.sizeOf0
  v0 := Try.zeroValue0
  t24 := Try.underlying51
  a24 := Try.isAgg51
  z24 := Try.sizeOf51
  v24 := Try.zeroValue51
  t26 := Try.underlying2
  a26 := Try.isAgg2
  z26 := Try.sizeOf2
  v26 := Try.zeroValue2
  t28 := Try.underlying163
  a28 := Try.isAgg163
  z28 := Try.sizeOf163
  v28 := Try.zeroValue163
  i26 := by kernel_rfl }
def Try.sort146_ren : Go.Shelf.Ren := ⟨fun | 5 => 146 | 8 => 158 | 7 => 157 | 19 => 171 | 20 => 172 | 10 => 162 | 11 => 163 | 12 => 164 | 13 => 165 | 14 => 166 | 15 => 167 | 16 => 168 | 17 => 169 | 18 => 170 | 30 => 176 | 31 => 177 | 32 => 178 | 33 => 179 | 34 => 180 | 35 => 155 | 40 => 183 | n => n, fun | 23 => 51 | 25 => 2 | 3 => 3 | 32 => 192 | 22 => 51 | 0 => 0 | 44 => 206 | 46 => 208 | 4 => 4 | 36 => 198 | 35 => 197 | 41 => 203 | 5 => 5 | 9 => 9 | 53 => 211 | 57 => 215 | 63 => 217 | 64 => 218 | n => n, fun | n => n⟩
theorem Try.sort146 : Go.Proofs.SlLaysM.n5 Try.prog Try.sort146_ren := {
  mixed := by kernel_rfl
  f5 := ⟨Try.f146.name, by decide, Try.func146.trans (congrArg some (by kernel_rfl))⟩
  f7 := ⟨Try.f157.name, by decide, Try.func157.trans (congrArg some (by kernel_rfl))⟩
  f8 := Try.func158.trans (congrArg some (by kernel_rfl))
  f10 := ⟨Try.f162.name, by decide, Try.func162.trans (congrArg some (by kernel_rfl))⟩
  f11 := ⟨Try.f163.name, by decide, Try.func163.trans (congrArg some (by kernel_rfl))⟩
  f12 := ⟨Try.f164.name, by decide, Try.func164.trans (congrArg some (by kernel_rfl))⟩
  f13 := ⟨Try.f165.name, by decide, Try.func165.trans (congrArg some (by kernel_rfl))⟩
  f14 := ⟨Try.f166.name, by decide, Try.func166.trans (congrArg some (by kernel_rfl))⟩
  f15 := ⟨Try.f167.name, by decide, Try.func167.trans (congrArg some (by kernel_rfl))⟩
  f16 := ⟨Try.f168.name, by decide, Try.func168.trans (congrArg some (by kernel_rfl))⟩
  f17 := ⟨Try.f169.name, by decide, Try.func169.trans (congrArg some (by kernel_rfl))⟩
  f18 := ⟨Try.f170.name, by decide, Try.func170.trans (congrArg some (by kernel_rfl))⟩
  f19 := Try.func171.trans (congrArg some (by kernel_rfl))
  f20 := Try.func172.trans (congrArg some (by kernel_rfl))
  f30 := ⟨Try.f176.name, by decide, Try.func176.trans (congrArg some (by kernel_rfl))⟩
  f31 := Try.func177.trans (congrArg some (by kernel_rfl))
  f32 := Try.func178.trans (congrArg some (by kernel_rfl))
  f33 := ⟨Try.f179.name, by decide, Try.func179.trans (congrArg some (by kernel_rfl))⟩
  f34 := ⟨Try.f180.name, by decide, Try.func180.trans (congrArg some (by kernel_rfl))⟩
  f35 := ⟨Try.f155.name, by decide, Try.func155.trans (congrArg some (by kernel_rfl))⟩
  f40 := ⟨Try.f183.name, by decide, Try.func183.trans (congrArg some (by kernel_rfl))⟩
  t0 := Try.underlying0
  a0 := Try.isAgg0
  z0 := Try.sizeOf0
  v0 := Try.zeroValue0
  t3 := Try.underlying3
  a3 := Try.isAgg3
  z3 := Try.sizeOf3
  v3 := Try.zeroValue3
  t4 := Try.underlying4
  a4 := Try.isAgg4
  z4 := Try.sizeOf4
  v4 := Try.zeroValue4
  t5 := Try.underlying5
  a5 := Try.isAgg5
  z5 := Try.sizeOf5
  v5 := Try.zeroValue5
  t9 := Try.underlying9
  a9 := Try.isAgg9
  z9 := Try.sizeOf9
  v9 := Try.zeroValue9
  t22 := Try.underlying51
  a22 := Try.isAgg51
  z22 := Try.sizeOf51
  v22 := Try.zeroValue51
  t23 := Try.underlying51
  a23 := Try.isAgg51
  z23 := Try.sizeOf51
  v23 := Try.zeroValue51
  t25 := Try.underlying2
  a25 := Try.isAgg2
  z25 := Try.sizeOf2
  v25 := Try.zeroValue2
  t32 := Try.underlying192
  a32 := Try.isAgg192
  z32 := Try.sizeOf192
  v32 := Try.zeroValue192
  t35 := Try.underlying197
  a35 := Try.isAgg197
  z35 := Try.sizeOf197
  v35 := Try.zeroValue197
  t36 := Try.underlying198
  a36 := Try.isAgg198
  z36 := Try.sizeOf198
  v36 := Try.zeroValue198
  t41 := Try.underlying203
  a41 := Try.isAgg203
  z41 := Try.sizeOf203
  v41 := Try.zeroValue203
  t44 := Try.underlying206
  a44 := Try.isAgg206
  z44 := Try.sizeOf206
  v44 := Try.zeroValue206
  t46 := Try.underlying208
  a46 := Try.isAgg208
  z46 := Try.sizeOf208
  v46 := Try.zeroValue208
  t53 := Try.underlying211
  a53 := Try.isAgg211
  z53 := Try.sizeOf211
  v53 := Try.zeroValue211
  t57 := Try.underlying215
  a57 := Try.isAgg215
  z57 := Try.sizeOf215
  v57 := Try.zeroValue215
  t63 := Try.underlying217
  a63 := Try.isAgg217
  z63 := Try.sizeOf217
  v63 := Try.zeroValue217
  t64 := Try.underlying218
  a64 := Try.isAgg218
  z64 := Try.sizeOf218
  v64 := Try.zeroValue218 }
end Go.Proofs

namespace Go.Proofs.Ytfgadegpdknocaa
open Go.RowKit Go.Maps Go.Sort Go.Shelf

theorem sorts64 (m : Nat) : AnyZI.SortsIn Try.prog Try.sorted125_ren Fence.wide m :=
  ⟨fun blk off cap ss W hH hblk hsz => callsIn_wide.2 (AnyM.slices_Sort_int Try.sort146 blk off cap ss W hH hblk hsz),
   fun p cap W => callsIn_wide.2 (AnyM.slices_Sort_int_none Try.sort146 p cap W)⟩
/-- maps.Keys. -/
theorem mapKeys (mb : Option Nat) (W : World) : Calls Try.prog 126 #[.map mb] W fun e w' => e = .returned (.func (.func 147) #[] #[.pointer (some ⟨W.heap.size, 0, none⟩)]) ∧ w' = W.alloc (.cells #[.map mb] 92) :=
  (callsIn_wide (n := 5)).1 (AnyZI.keys_in Try.keys126 Fence.wide 5 trivial rfl mb W)

set_option maxHeartbeats 1000000 in
/-- slices.Sorted of them. -/
theorem sortedKeys (b n : Nat) (xs : List DItem) (w : World) (hT : TabAt w b n xs) (hx : xs.length ≤ 1000) :
    Calls Try.prog 125 #[.func (.func 147) #[] #[.pointer (some ⟨w.heap.size, 0, none⟩)]] (w.alloc (.cells #[.map (some b)] 92)) fun e w' => ∃ (v : Value) (ss : List Int), e = .returned v ∧ ss.Perm (intKeys (mapD xs)) ∧
      w'.ownsRow (w.alloc (.cells #[.map (some b)] 92)).heap.size 2 1 v ss.length ((ss.mergeSort (fun x y => decide (x ≤ y))).map encZ) ∧ Below (w.alloc (.cells #[.map (some b)] 92)).heap.size (w.alloc (.cells #[.map (some b)] 92)) w' := by
  have hown : w.ownsMap Try.prog 2 vecR b n (mapD xs) := hT
  have hbl := hown.lt
  have hmax : Maps.size (mapD xs) ≤ maxLen := by rw [size_mapD]; unfold maxLen; omega
  have hbytes : Maps.size (mapD xs) * 8 ≤ 140737488355328 := by rw [size_mapD]; omega
  have hseq : SeqGives Fence.wide 2 Try.prog 147 #[.pointer (some ⟨w.heap.size, 0, none⟩)] encZ (fun ss => ss.Perm (intKeys (mapD xs))) (Maps.size (mapD xs)) (w.alloc (.cells #[.map (some b)] 92)) :=
    AnyZI.keys_gives (ρ := Try.keys126_ren) { Try.keys126 with } Fence.wide _ trivial rfl (by omega) w.heap.size b n (mapD xs) _ (by simp) (by simp) (by
      obtain ⟨es, clock, hb, Ft, hs, hD⟩ := hown
      exact ⟨es, clock, (Below.heap_alloc _ _ b hbl).trans hb, Ft, hs, hD⟩)
  have cS := AnyZI.sorted_in Try.sorted125 Fence.wide 5 trivial trivial trivial trivial rfl (by omega) (sorts64 _) (enters_of Try.func146 (by kernel_rfl) rfl) 147 #[.pointer (some ⟨w.heap.size, 0, none⟩)] trivial (enters_of Try.func147 (by kernel_rfl) rfl) _ _ hmax hbytes _ hseq
  change CallsIn _ _ Try.prog 125 _ _ _ at cS
  refine ((callsIn_wide (n := 5)).1 cS).mono ?_
  rintro e w' ⟨v, ss, rfl, hS, hrow, -, hb⟩
  exact ⟨v, ss, rfl, hS, hrow, hb⟩

theorem encZ_eq : encZ = Value.int .i64 := rfl
theorem intKeys_mapD (xs : List DItem) : intKeys (mapD xs) = xs.map (·.id) := by
  simp only [intKeys, mapD, mapL, List.map_map]
  exact List.map_congr_left fun _ _ => rfl
/-- Rising Ids sort to themselves. -/
theorem sort_ids {xs : List DItem} (h : Rising xs) {ss : List Int} (hp : ss.Perm (xs.map (·.id))) : ss.mergeSort (fun x y => decide (x ≤ y)) = xs.map (·.id) := by
  have tr : ∀ a b c : Int, decide (a ≤ b) = true → decide (b ≤ c) = true → decide (a ≤ c) = true := fun a b c h1 h2 => by simp only [decide_eq_true_eq] at *; omega
  have tot : ∀ a b : Int, (decide (a ≤ b) || decide (b ≤ a)) = true := fun a b => by simp only [Bool.or_eq_true, decide_eq_true_eq]; omega
  refine List.Perm.eq_of_pairwise (le := fun a b => decide (a ≤ b) = true) (fun a b _ _ h1 h2 => ?_) (List.pairwise_mergeSort tr tot ss) ?_ ((List.mergeSort_perm ss _).trans hp)
  · simp only [decide_eq_true_eq] at h1 h2
    omega
  · refine List.pairwise_map.2 (h.imp fun {a b} hab => ?_)
    simp only [decide_eq_true_eq]
    omega

end Go.Proofs.Ytfgadegpdknocaa

namespace Go.Proofs.Ytfgadegpdknocaa
open Go.RowKit

set_option maxHeartbeats 400000 in
theorem listOf3 (x y z : Int) (w : World) :
    Calls Try.prog 127 #[arr3 x y z] w fun e w' => e = .returned (.slice (some ⟨w.heap.size + 1, 0, none⟩) 3 3) ∧
      (w.alloc (.cells #[.int .i64 x, .int .i64 y, .int .i64 z] 133)).alloc (.cells #[.int .i64 x, .int .i64 y, .int .i64 z] 2) = w' := by
  have hmk : ∀ w : World, (Instr.makeSlice 51 (.int .i64 3) (.int .i64 3)).run Try.prog w = .ok (.slice (some ⟨w.heap.size, 0, none⟩) 3 3) (w.alloc (.cells #[.int .i64 0, .int .i64 0, .int .i64 0] 2)) := fun _ => by kernel_rfl
  have i0 : ∀ w : World, (Instr.index 133 (.agg #[.int .i64 x, .int .i64 y, .int .i64 z]) (.int .i64 0)).run Try.prog w = .ok (.int .i64 x) w := fun _ => by kernel_rfl
  have i1 : ∀ w : World, (Instr.index 133 (.agg #[.int .i64 x, .int .i64 y, .int .i64 z]) (.int .i64 1)).run Try.prog w = .ok (.int .i64 y) w := fun _ => by kernel_rfl
  have i2 : ∀ w : World, (Instr.index 133 (.agg #[.int .i64 x, .int .i64 y, .int .i64 z]) (.int .i64 2)).run Try.prog w = .ok (.int .i64 z) w := fun _ => by kernel_rfl
  simp only [arr3]
  go_enter Try.func127, Try.ntmps127
  go_wp2
  refine wp_loop_rounds 4 ?_
  rw [rounds_succ]
  go_wp2
  rw [rounds_succ]
  go_wp2
  rw [rounds_succ]
  go_wp2
  rw [rounds_succ]
  go_wp2
  go_ret
  exact ⟨rfl, rfl⟩

end Go.Proofs.Ytfgadegpdknocaa

namespace Go.Proofs.Ytfgadegpdknocaa
open Go.RowKit

theorem listOwn (x y z : Int) (w : World) (hw : ∀ a ∈ [x, y, z], (Lit.int .i64 a).wf = true) :
    Calls Try.prog 127 #[arr3 x y z] w fun e w' => ∃ g, e = .returned (.slice (some ⟨g, 0, none⟩) 3 3) ∧ (Lay.sl Lay.int).OwnIn w' [.slice (some ⟨g, 0, none⟩) 3 3] [x, y, z] w.heap.size w'.heap.size ∧ Below w.heap.size w w' := by
  refine (listOf3 x y z w).mono ?_
  rintro e w' ⟨rfl, rfl⟩
  refine ⟨w.heap.size + 1, rfl, ?_, ((Below.refl _ _).alloc (Nat.le_refl _) _).alloc (by simp) _⟩
  refine Lay.ownInts (zs := [x, y, z]) (base := w.heap.size) (T := 2) hw (by simp) ?_
  exact own_new3 (W := w.alloc _) (by simp) (by simp)

end Go.Proofs.Ytfgadegpdknocaa

namespace Go.Proofs.Ytfgadegpdknocaa
open Go.RowKit Go.Maps

theorem grown_of_ext {r : Option Nat} {w w' : World} (e : Ext (fun q => r = some q) w w') : w.grownBy w' r :=
  ⟨e.os, e.tape, e.output, e.size, fun i hi hn => e.block i hi fun h => hn h.symm⟩
theorem own_snoc {w w' : World} {base : Nat} {bls : List (List Nat)} {bl : List Nat} (hn : bls.flatten.Nodup) (hs : ∀ b ∈ bls.flatten, base ≤ b ∧ ∀ o, w.frozen? ⟨b, o, none⟩ = false) (hlt : ∀ b ∈ bls.flatten, b < w.heap.size)
    (hn2 : bl.Nodup) (hs2 : ∀ b ∈ bl, w.heap.size ≤ b ∧ ∀ o, w'.frozen? ⟨b, o, none⟩ = false) (hb : base ≤ w.heap.size) (hk : ∀ b ∈ bls.flatten, w'.heap[b]? = w.heap[b]?) :
    (bls ++ [bl]).flatten.Nodup ∧ ∀ b ∈ (bls ++ [bl]).flatten, base ≤ b ∧ ∀ o, w'.frozen? ⟨b, o, none⟩ = false := by
  refine ⟨?_, ?_⟩
  · rw [List.flatten_append, List.nodup_append]
    refine ⟨hn, by simpa using hn2, fun a ha c hc e => ?_⟩
    have := hlt a ha
    have := (hs2 c (by simpa using hc)).1
    omega
  · intro b hm
    rw [List.flatten_append] at hm
    rcases List.mem_append.1 hm with hm | hm
    · exact ⟨(hs b hm).1, fun o => (frozen_of_heap (hk b hm) o).trans ((hs b hm).2 o)⟩
    · have h2 := hs2 b (by simpa using hm)
      exact ⟨by omega, h2.2⟩

set_option maxRecDepth 100000 in
set_option maxHeartbeats 4000000 in
/-- items of the program. -/
theorem itemsC (b n : Nat) (xs : List DItem) (w : World) (hT : TabAt w b n xs) (hR : Right xs) :
    Calls Try.prog 79 #[.map (some b)] w fun e w' => ∃ v, e = .returned v ∧ (Lay.sl Lay.tItem).OwnIn w' [v] xs w.heap.size w'.heap.size ∧ Below w.heap.size w w' := by
  obtain ⟨hlen, hall, hris⟩ := tableFault_zero hR
  have hbw := hT.lt
  have hown : w.ownsMap Try.prog 2 vecR b n (mapD xs) := hT
  obtain ⟨i0, hi, hz0, hz1, hz2⟩ := info_parts infoAppItem
  have HT := hide hT
  have HA := hide hall
  have HI := hide hris
  have hsz : Maps.size (mapD xs) = xs.length := size_mapD xs
  clear hT hall hris hR
  go_enter Try.func79, Try.ntmps79
  go_wp2_with (first
    | (at_len; refine wpList_len_own _ rfl _ 92 rfl 2 133 Try.underlying92 vecR b n (mapD xs) rfl hown ?_; rw [hsz])
    | (at_make; refine wpList_make_own _ rfl _ _ 42 rfl w.heap.size 106 i0 _ 2 Try.underlying42 hi hz0 hz1 .i64 .i64 _ xs.length rfl rfl rfl (by rw [hz2]; omega) (by unfold maxLen; omega) (Nat.le_refl _) ?_))
  clear hown hsz
  intro w1 hown1 hg1
  have hB1 : Below w.heap.size w w1 := (Below.refl _ _).grown hg1 (Nat.le_refl _) (by simp)
  have hz1' : w.heap.size < w1.heap.size := (hown1.lt w.heap.size rfl).2
  have hT1 := (unhide HT).later hB1
  have LS := sortedKeys b n xs w1 hT1 (by omega)
  have hB2 : Below w1.heap.size w1 (w1.alloc (.cells #[.map (some b)] 92)) := (Below.refl _ _).alloc (Nat.le_refl _) _
  have HT2 := hide (hT1.later hB2)
  have HG2 := hide ((Grow.nil (A := Lay.tItem) hown1).later hB2)
  have HB2 := hide (hB1.trans (hB2.mono hB1.size))
  have HLS := hide LS
  clear hown1 hg1 hB1 hT1 hB2 LS HT hi hz0 hz1 hz2
  go_wp2_with fail
  refine (mapKeys (some b) w1).mono ?_
  rintro e w2 ⟨rfl, rfl⟩
  go_wp2_with fail
  refine (unhide HLS).mono ?_
  generalize w1.alloc (.cells #[.map (some b)] 92) = W2 at *
  rintro e w3 ⟨sv, ss, rfl, hS, hrow, hb⟩
  rw [intKeys_mapD] at hS
  have hsl : ss.length = xs.length := by rw [hS.length_eq, List.length_map]
  rw [sort_ids (unhide HI) hS, encZ_eq, hsl] at hrow
  have hT3 := (unhide HT2).later hb
  have hG3 := (unhide HG2).later hb
  have hB3 := (unhide HB2).trans (hb.mono (unhide HB2).size)
  have hov : w.heap.size < W2.heap.size := by have := ((unhide HG2).own.lt w.heap.size rfl).2; omega
  clear hS HLS HT2 HG2 HB2 hb hsl ss
  by_cases hp : 0 < xs.length
  · obtain ⟨sg, cap, rfl, hsg, hsgl⟩ : ∃ sg cap, sv = .slice (some ⟨sg, 0, none⟩) xs.length cap ∧ W2.heap.size ≤ sg ∧ sg < w3.heap.size := by
      rcases hrow.2 with ⟨-, h0⟩ | ⟨g, cap, cur, rfl, hg, hh, -⟩
      · omega
      · exact ⟨g, cap, rfl, hg, lt_of_block hh⟩
    have HT3 := hide hT3
    have HG3 := hide hG3
    have HB3 := hide hB3
    have HROW := hide hrow
    clear hT3 hG3 hB3 hrow
    have hbig : xs.length ≤ 30 := hlen
    go_wp2_with fail
    go_loopw [3, 13] (fun v i wr => ∃ (k : Nat) (rows : List (List Value)) (bls : List (List Nat)), k ≤ xs.length ∧ i = .int .i64 k ∧ Grow Lay.tItem wr w.heap.size 106 v rows (xs.take k) bls ∧
        (bls.flatten.Nodup ∧ ∀ b ∈ bls.flatten, w.heap.size ≤ b ∧ ∀ o, wr.frozen? ⟨b, o, none⟩ = false) ∧ wr.ownsRow W2.heap.size 2 1 (.slice (some ⟨sg, 0, none⟩) xs.length cap) xs.length ((xs.map (·.id)).map (Value.int .i64)) ∧ v.ownBlock ≠ some sg ∧ TabAt wr b n xs ∧ Below w.heap.size w wr) (fun _ i _ => xs.length - (intOf i).toNat)
    case atStart =>
      exact ⟨0, [], [], Nat.zero_le _, rfl, unhide HG3, ⟨by simp, by simp⟩, unhide HROW, fun e => by simp [Value.ownBlock] at e; omega, unhide HT3, unhide HB3⟩
    case round =>
      obtain ⟨k, rows, bls, hk, rfl, hG, ⟨hnd, hsf⟩, hrow, hne, hT, hB⟩ := hrel
      clear HT3 HG3 HB3 HROW
      by_cases hlt : k < xs.length
      · have hc : wr.cell? ⟨sg, k, none⟩ = some (.int .i64 xs[k].id) := by
          rw [hrow.cellAt k (by omega)]
          simp [hlt]
        obtain ⟨hid, hvf⟩ := unhide HA xs[k] (List.getElem_mem hlt)
        obtain ⟨p, q, r, hv3, -, hrun⟩ := hT.look (unhide HI) (id_wf hid) (List.getElem_mem hlt) rfl
        have HTK : Hid (xs.take (k + 1) = xs.take k ++ [xs[k]]) := List.take_succ_eq_append_getElem hlt
        have HL : Hid ((xs.take k).length = k) := by show (xs.take k).length = k; rw [List.length_take]; omega
        generalize hx : xs[k] = x at *
        clear hx
        rw [hv3] at hvf
        obtain ⟨⟨b1, b2⟩, ⟨b3, b4⟩, b5, b6⟩ := fault3 hvf
        have HWF : Hid (∀ z ∈ [p, q, r], (Lit.int .i64 z).wf = true) := by
          show ∀ z ∈ [p, q, r], (Lit.int .i64 z).wf = true
          intro z hz
          simp only [List.mem_cons, List.not_mem_nil, or_false] at hz
          rcases hz with rfl | rfl | rfl <;> exact wf_of_bd (by omega)
        have LL := listOwn p q r wr (unhide HWF)
        simp only [arr3] at hrun LL
        have HLL := hide LL
        have hwi := id_wf hid
        have HWI := hide hwi
        have HV3 := hide hv3
        have HG := hide hG
        have HND := hide hnd
        have HSF := hide hsf
        have HROW := hide hrow
        have HNE := hide hne
        have HT := hide hT
        have HB := hide hB
        clear hG hnd hsf hrow hne hT hB hid hvf b1 b2 b3 b4 b5 b6 LL hwi hv3
        go_wp2_with fail
        refine (unhide HLL).mono ?_
        rintro e w4 ⟨g2, rfl, hO, hb4⟩
        obtain ⟨bl2, ⟨hl2, hn2, hf2⟩, hr2⟩ := hO
        have hG4 := (unhide HG).later hb4
        have hz4 := hb4.size
        have hB4 := (unhide HB).trans (hb4.mono (unhide HB).size)
        have hlies : Lay.tItem.lies w4 [.int .i64 x.id, .slice (some ⟨g2, 0, none⟩) 3 3] x bl2 := by
          refine lies_Item.2 ⟨some ⟨g2, 0, none⟩, 3, bl2, by rw [unhide HV3]; rfl, rfl, unhide HWI, ?_⟩
          rw [unhide HV3]; exact hl2
        have hoff : ∀ c ∈ bl2, u3.ownBlock ≠ some c := fun c hc e => by have h1 := hr2 c hc; have h2 := ((unhide HG).own.lt c e).2; omega
        have HSN := hide (own_snoc (w' := w4) (unhide HND) (unhide HSF) (unhide HG).sub_lt hn2 (fun c hc => ⟨(hr2 c hc).1, hf2 c hc⟩) (unhide HB).size (fun c hc => hb4.block c ((unhide HG).sub_lt c hc)))
        have HROW4 := hide (own_below (unhide HROW) hb4)
        have HT4 := hide ((unhide HT).later hb4)
        have hkl := unhide HL
        have HLO := hide hoff
        have HLT : Hid (∀ c ∈ (bls ++ [bl2]).flatten, u3.ownBlock ≠ some c) := by
          intro c hc
          rw [List.flatten_append] at hc
          rcases List.mem_append.1 hc with hc | hc
          · exact (unhide HG).off c hc
          · exact unhide HLO c (by simpa using hc)
        have HLS : Hid (∀ c ∈ (bls ++ [bl2]).flatten, c < w4.heap.size) := by
          intro c hc
          rw [List.flatten_append] at hc
          rcases List.mem_append.1 hc with hc | hc
          · have := (unhide HG).sub_lt c hc; omega
          · have := (hr2 c (by simpa using hc)).2; omega
        have HB4 := hide hB4
        have HZ : Hid (w.heap.size ≤ w4.heap.size) := hB4.size
        have HSG : Hid (sg < w4.heap.size) := by show sg < w4.heap.size; have := (unhide HROW).lt sg rfl; omega
        clear HLL hb4 hl2 hn2 hf2 hr2 hB4 HND HSF HROW HT HB HWF HWI HV3 hrun hc
        go_wp2_with (at_builtin; refine wpList_append_Item hG4 hlies hoff rfl _ _ rfl rfl rfl (by omega) (unhide HZ) ?_)
        rintro g5 cp5 w5 hG5 hb5 hE5 hl5 hz5 hor
        clear hG4 hlies hoff hkl
        have HG5 := hide hG5
        have HB5 := hide ((unhide HB4).trans hb5)
        have HT5 := hide ((unhide HT4).ext hE5 (fun e => by have := ((unhide HG).own.lt b e).1; omega))
        have HROW5 := hide ((unhide HROW4).kept (grown_of_ext hE5) (Or.inr (fun e => unhide HNE e.symm)))
        have HNE5 : Hid (some g5 ≠ some sg) := by
          intro e
          have e1 : g5 = sg := by simpa using e
          rcases hor with h | h
          · exact unhide HNE (by rw [h, e1])
          · have := unhide HSG; omega
        have HSN5 : Hid ((bls ++ [bl2]).flatten.Nodup ∧ ∀ c ∈ (bls ++ [bl2]).flatten, w.heap.size ≤ c ∧ ∀ o, w5.frozen? ⟨c, o, none⟩ = false) := by
          obtain ⟨s1, s2⟩ := unhide HSN
          exact ⟨s1, fun c hc => ⟨(s2 c hc).1, fun o => (frozen_of_heap (hE5.block c (unhide HLS c hc) (unhide HLT c hc)) o).trans ((s2 c hc).2 o)⟩⟩
        clear hG5 hb5 hE5 hor HB4 HT4 HROW4 HSN HG HNE HLT HLS HLO
        go_wp2_with fail
        go_roundw
        case rel =>
          have hg := unhide HG5
          rw [← unhide HTK] at hg
          exact ⟨k + 1, _, _, by omega, by go_num, hg, unhide HSN5, unhide HROW5, unhide HNE5, unhide HT5, unhide HB5⟩
        case measure => simp [intOf]; omega
      · obtain rfl : k = xs.length := by omega
        rw [List.take_length] at hG
        have HO := hide (hG.toOwn (by omega) hnd hsf)
        have HB := hide hB
        clear hG hB hnd hsf hrow hne hT
        go_wp2_with fail
        go_ret
        exact ⟨_, rfl, unhide HO, unhide HB⟩
  · obtain rfl : xs = [] := List.eq_nil_of_length_eq_zero (by omega)
    have HO := hide (hG3.toOwn (by simp) (by simp) (by simp))
    have HB := hide hB3
    have hsv : ∃ ao cap, sv = .slice ao 0 cap := by
      rcases hrow.2 with ⟨rfl, -⟩ | ⟨g, cap, cur, rfl, -⟩
      · exact ⟨none, 0, rfl⟩
      · exact ⟨_, cap, rfl⟩
    obtain ⟨ao, cap, rfl⟩ := hsv
    clear hG3 hB3 hT3 hrow hp
    go_wp2_with fail
    refine wp_loop_rounds 1 ?_
    rw [rounds_succ]
    go_wp2_with fail
    go_ret
    exact ⟨_, rfl, unhide HO, unhide HB⟩

end Go.Proofs.Ytfgadegpdknocaa

namespace Go.Proofs.Ytfgadegpdknocaa
open Go.RowKit Go.Maps

set_option maxRecDepth 10000 in
set_option maxHeartbeats 1000000 in
theorem putM_there (b n : Nat) (xs : List DItem) (id x y z : Int) (w : World) (hT : TabAt w b n xs) (hr : Rising xs) (hn : n < 1000) (hw : (Lit.int .i64 id).wf = true) (hi : hasI xs id = true) :
    Calls Try.prog 94 #[.map (some b), .int .i64 id, arr3 x y z] w fun e w' => e = .returned (.bool true) ∧ TabAt w' b (n + 1) (putI xs id [x, y, z]) ∧ Ext (fun q => q = b) w w' := by
  obtain ⟨a, ha, hai⟩ := hasI_true hi
  have n1 : Below w.heap.size w (w.alloc (.cells #[.int .i64 x, .int .i64 y, .int .i64 z] 133)) := (Below.refl _ _).alloc (Nat.le_refl _) _
  obtain ⟨p, q, r, -, hrun, -⟩ := (hT.later n1).look hr hw ha hai
  have n2 : Below w.heap.size w ((w.alloc (.cells #[.int .i64 x, .int .i64 y, .int .i64 z] 133)).alloc (.cells #[.int .i64 p, .int .i64 q, .int .i64 r] 133)) := n1.alloc (by simp) _
  obtain ⟨w5, hrun5, hT5, hE5⟩ := (hT.later n2).put hn hw x y z
  have HT := hide hT5
  have HE := hide ((ext_of_below n2 (fun q => q = b)).trans hE5)
  simp only [arr3] at hrun hrun5 ⊢
  clear hT5 hE5 n1 n2 hT hr ha hai hi a hw
  go_enter Try.func94, Try.ntmps94
  go_wp2_with fail
  go_ret
  exact ⟨rfl, unhide HT, unhide HE⟩

set_option maxRecDepth 10000 in
set_option maxHeartbeats 1000000 in
theorem putM_new (b n : Nat) (xs : List DItem) (id x y z : Int) (w : World) (hT : TabAt w b n xs) (hn : n < 1000) (hw : (Lit.int .i64 id).wf = true) (hi : hasI xs id = false) (hl : xs.length < 30) :
    Calls Try.prog 94 #[.map (some b), .int .i64 id, arr3 x y z] w fun e w' => e = .returned (.bool true) ∧ TabAt w' b (n + 1) (putI xs id [x, y, z]) ∧ Ext (fun q => q = b) w w' := by
  have n1 : Below w.heap.size w (w.alloc (.cells #[.int .i64 x, .int .i64 y, .int .i64 z] 133)) := (Below.refl _ _).alloc (Nat.le_refl _) _
  obtain ⟨p, q, r, hrun⟩ := (hT.later n1).miss hw hi
  have n2 : Below w.heap.size w ((w.alloc (.cells #[.int .i64 x, .int .i64 y, .int .i64 z] 133)).alloc (.cells #[.int .i64 p, .int .i64 q, .int .i64 r] 133)) := n1.alloc (by simp) _
  have hlen := (hT.later n2).len 3
  obtain ⟨w5, hrun5, hT5, hE5⟩ := (hT.later n2).put hn hw x y z
  have HT := hide hT5
  have HE := hide ((ext_of_below n2 (fun q => q = b)).trans hE5)
  have hd : decide ((30 : Int) ≤ (xs.length : Int)) = false := by simp; omega
  simp only [arr3] at hrun hrun5 ⊢
  clear hT5 hE5 n1 n2 hT hi hw
  go_enter Try.func94, Try.ntmps94
  go_wp2_with fail
  go_ret
  exact ⟨rfl, unhide HT, unhide HE⟩

set_option maxRecDepth 10000 in
set_option maxHeartbeats 1000000 in
theorem putM_full (b n : Nat) (xs : List DItem) (id x y z : Int) (w : World) (hT : TabAt w b n xs) (hw : (Lit.int .i64 id).wf = true) (hi : hasI xs id = false) (hl : 30 ≤ xs.length) :
    Calls Try.prog 94 #[.map (some b), .int .i64 id, arr3 x y z] w fun e w' => e = .returned (.bool false) ∧ Below w.heap.size w w' := by
  have n1 : Below w.heap.size w (w.alloc (.cells #[.int .i64 x, .int .i64 y, .int .i64 z] 133)) := (Below.refl _ _).alloc (Nat.le_refl _) _
  obtain ⟨p, q, r, hrun⟩ := (hT.later n1).miss hw hi
  have n2 : Below w.heap.size w ((w.alloc (.cells #[.int .i64 x, .int .i64 y, .int .i64 z] 133)).alloc (.cells #[.int .i64 p, .int .i64 q, .int .i64 r] 133)) := n1.alloc (by simp) _
  have hlen := (hT.later n2).len 3
  have HE := hide n2
  have hd : decide ((30 : Int) ≤ (xs.length : Int)) = true := by simp; omega
  simp only [arr3] at hrun ⊢
  clear n1 n2 hT hi hw
  go_enter Try.func94, Try.ntmps94
  go_wp2_with fail
  go_ret
  exact ⟨rfl, unhide HE⟩

end Go.Proofs.Ytfgadegpdknocaa

namespace Go.Proofs.Ytfgadegpdknocaa
open Go.RowKit

theorem vcnt_IvfResult (x : DIvfResult) : Lay.tIvfResult.vcnt x = Lay.tIvf.vcnt x.ivf := by
  show 0 + (Lay.tIvf.vcnt x.ivf) = Lay.tIvf.vcnt x.ivf
  omega
theorem mkv_IvfResult (k : Int) (x : DIvfResult) : Lay.tIvfResult.mkv k x = ⟨x.code, Lay.tIvf.mkv (k) x.ivf⟩ := by
  simp [Lay.tIvfResult, Lay.via, Lay.pair, Lay.int]
theorem own_IvfResult {w : World} {cs : List Value} {x : DIvfResult} {bl : List Nat} (h : Lay.tIvfResult.Own w cs x bl) : ∃ (a1 : Option Addr) (d1 : Nat) (a2 : Option Addr) (d2 : Nat) (g1 : List Nat), cs = [.int .i64 x.code, .slice a1 x.ivf.centers.length d1, .slice a2 x.ivf.lists.length d2] ∧ bl = g1 ∧ Lay.tIvf.Own w [.slice a1 x.ivf.centers.length d1, .slice a2 x.ivf.lists.length d2] x.ivf g1 ∧ (Lit.int .i64 x.code).wf = true := by
  obtain ⟨hl, hn, hf⟩ := h
  obtain ⟨a1, d1, b1, a2, d2, b2, rfl, hbl, w0, l1, l2⟩ := lies_IvfResult.1 hl
  rw [hbl] at hn hf
  simp only [List.nodup_append, List.mem_append] at hn hf
  exact ⟨a1, d1, a2, d2, (b1 ++ b2), rfl, by first | exact hbl | (rw [hbl]; simp only [List.append_assoc]), ⟨lies_Ivf.2 ⟨a1, d1, b1, a2, d2, b2, rfl, rfl, l1, l2⟩, by simp_all [List.nodup_append], fun b hb => hf b (by simp_all)⟩, w0⟩
theorem mkOwn_IvfResult {w : World} {x : DIvfResult} {c1 : List Value} {g1 : List Nat} (O1 : Lay.tIvf.Own w c1 x.ivf g1) (v0 : (Lit.int .i64 x.code).wf = true) (hn : (g1).Nodup) : Lay.tIvfResult.Own w ([.int .i64 x.code] ++ c1) x (g1) := by
  refine ⟨⟨[.int .i64 x.code], c1, [], g1, rfl, by simp, ⟨rfl, v0, rfl⟩, O1.1⟩, hn, ?_⟩
  intro b hb o
  exact O1.2.2 b hb o

end Go.Proofs.Ytfgadegpdknocaa

namespace Go.Proofs.Ytfgadegpdknocaa
open Go.RowKit

theorem own_ivfR {w : World} {c : Int} {a1 : Option Addr} {n1 d1 : Nat} {a2 : Option Addr} {n2 d2 : Nat} {x : DIvf} {lo hi : Nat} (hc : (Lit.int .i64 c).wf = true) (h : Lay.tIvf.OwnIn w [.slice a1 n1 d1, .slice a2 n2 d2] x lo hi) : Lay.tIvfResult.OwnIn w [.int .i64 c, .slice a1 n1 d1, .slice a2 n2 d2] ⟨c, x⟩ lo hi := by
  obtain ⟨bl, ho, hb⟩ := h
  exact ⟨bl, mkOwn_IvfResult (x := ⟨c, x⟩) ho hc ho.2.1, hb⟩
theorem own_emptyI {w : World} {lo hi : Nat} : Lay.tIvf.OwnIn w [.slice none 0 0, .slice none 0 0] emptyI lo hi := by
  refine ⟨[], mkOwn_Ivf (x := emptyI) (c0 := [.slice none 0 0]) (c1 := [.slice none 0 0]) (g0 := []) (g1 := []) ⟨⟨none, 0, rfl, ⟨by simp [emptyI], by simp [emptyI]⟩, Or.inl ⟨rfl, rfl⟩⟩, by simp, by simp⟩ ⟨⟨none, 0, rfl, ⟨by simp [emptyI], by simp [emptyI]⟩, Or.inl ⟨rfl, rfl⟩⟩, by simp, by simp⟩ (by simp), by simp⟩
theorem own_ivfCode {w : World} {c : Int} {lo hi : Nat} (hc : (Lit.int .i64 c).wf = true) : Lay.tIvfResult.OwnIn w [.int .i64 c, .slice none 0 0, .slice none 0 0] ⟨c, emptyI⟩ lo hi := own_ivfR hc own_emptyI

end Go.Proofs.Ytfgadegpdknocaa

namespace Go.Proofs.Ytfgadegpdknocaa
open Go.RowKit

set_option maxRecDepth 100000 in
set_option maxHeartbeats 8000000 in
theorem implAddIvf (cs : List Value) (x : DIvf) (id : Int) (vv : Value) (vec : List Int) (w : World) (h : Lay.tIvf.Reads w cs x) (hw : (Lit.int .i64 id).wf = true) (hv : (Lay.sl Lay.int).Reads w [vv] vec) :
    Calls Try.prog 48 #[.agg cs.toArray, .int .i64 id, vv] w fun e w' => ∃ cs', e = .returned (.agg cs'.toArray) ∧ Lay.tIvfResult.OwnIn w' cs' (addIvfR x id vec) w.heap.size w'.heap.size ∧ Below w.heap.size w w' := by
  obtain ⟨av, dv, rfl⟩ := open_sl hv
  obtain ⟨ac, dc, al, dl, rfl, R0, R1⟩ := open_Ivf h
  have nb1 : Below w.heap.size w (w.alloc (.cells #[.slice ac x.centers.length dc, .slice al x.lists.length dl] 31)) := (Below.refl _ _).alloc (Nat.le_refl _) _
  have nb : Below w.heap.size w ((w.alloc (.cells #[.slice ac x.centers.length dc, .slice al x.lists.length dl] 31)).alloc (.cells #[.int .i64 0, .slice none 0 0, .slice none 0 0] 39)) := nb1.alloc (by simp) _
  have bX : Box w.heap.size #[.slice ac x.centers.length dc, .slice al x.lists.length dl] 31 ((w.alloc (.cells #[.slice ac x.centers.length dc, .slice al x.lists.length dl] 31)).alloc (.cells #[.int .i64 0, .slice none 0 0, .slice none 0 0] 39)) w.heap.size := (newBox (Nat.le_refl _)).grow _
  have bR : Box w.heap.size #[.int .i64 0, .slice none 0 0, .slice none 0 0] 39 ((w.alloc (.cells #[.slice ac x.centers.length dc, .slice al x.lists.length dl] 31)).alloc (.cells #[.int .i64 0, .slice none 0 0, .slice none 0 0] 39)) (w.heap.size + 1) := newBoxAt (by omega) (by simp)
  have L := hide (implTIvf x ac dc al dl _ (R0.later nb) (R1.later nb))
  have c0 := bX.at 0 _ rfl
  have c1 := bX.at 1 _ rfl
  have H0 := hide R0
  clear h R0 R1 nb1
  have HV := hide (Lay.ints_reads hv)
  clear hv
  go_enter Try.func48, Try.ntmps48
  go_wp2_with fail
  generalize (w.alloc (.cells #[.slice ac x.centers.length dc, .slice al x.lists.length dl] 31)).alloc (.cells #[.int .i64 0, .slice none 0 0, .slice none 0 0] 39) = W0 at *
  refine (unhide L).mono ?_
  rintro e w1 ⟨⟨mv, rfl, m1, m2⟩, hb⟩
  have hW0 := bR.lt
  replace bR := bR.keep hb
  replace bX := bX.keep hb
  replace nb := nb.trans (hb.mono nb.size)
  clear hb L c0 c1
  by_cases hf : ivfFault x = 0
  · obtain ⟨b, rfl, hbb, hT⟩ := m2 hf
    rw [hf]
    have z0 : w1.cell? ⟨w.heap.size + 1, 0, none⟩ = some (.int .i64 0) := bR.at 0 _ rfl
    have z1 : w1.cell? ⟨w.heap.size + 1, 1, none⟩ = some (.slice none 0 0) := bR.at 1 _ rfl
    have z2 : w1.cell? ⟨w.heap.size + 1, 2, none⟩ = some (.slice none 0 0) := bR.at 2 _ rfl
    have f0 := bR.soft 0
    have f1 := bR.soft 1
    have f2 := bR.soft 2
    have l0 := bR.lt
    have HB := hide nb
    have HT := hide hT
    have HR := hide bR
    have HBX := hide bX
    have HF := hide hf
    clear m1 m2 hT nb bR bX hf
    go_wp2_with fail
    refine (implId id _).mono ?_
    rintro e w1 ⟨rfl, rfl⟩
    rw [show (decide (1 ≤ id) && decide (id ≤ 999)) = idB id from rfl]
    cases hid : idB id with
    | false =>
      have HG : Hid (addIvfR x id vec = ⟨3, emptyI⟩) := by
        show addIvfR x id vec = ⟨3, emptyI⟩
        have ha : askedI x id = 3 := by rw [askedI, if_pos (unhide HF), hid]; rfl
        rw [addIvfR, ha]; rfl
      clear hid
      go_wp2_with fail
      refine bodyPost_ret (v := .agg #[.int .i64 (3), .slice none 0 0, .slice none 0 0]) (by simp [results, Try.results48, go_sem, z0, z1, z2]) rfl ?_
      rw [unhide HG]
      exact ⟨[.int .i64 (3), .slice none 0 0, .slice none 0 0], rfl, own_ivfCode (by decide), (((unhide HB).setCell (by simp) _).setCell (by simp) _).setCell (by simp) _⟩
    | true =>
      have ha : askedI x id = 0 := by rw [askedI, if_pos (unhide HF), hid]; rfl
      have I1 := (unhide HV).later (unhide HB)
      by_cases hvf : vecFault vec = 0
      · obtain ⟨p, q2, r, hv3⟩ := vec3 hvf
        have I2 : IsInts w1 (.slice av vec.length dv) [p, q2, r] := by rw [← hv3]; exact I1
        have L := vectorOf_ok _ p q2 r w1 I2 (by rw [← hv3]; exact hvf)
        simp only [arr3] at L
        have HL := hide L
        have HG0 : Hid (addIvfR x id vec = if 30 ≤ (allIs x.lists).length ∧ hasI (allIs x.lists) id = false then ⟨2, emptyI⟩ else ⟨0, buildI x.centers (putI (allIs x.lists) id vec)⟩) := by
          show addIvfR x id vec = _
          rw [addIvfR, if_pos ha, if_pos hvf]
        have HV3 := hide hv3
        have HVF := hide hvf
        have HID := hide hid
        clear I1 I2 L hv3 hvf hid ha
        go_wp2_with fail
        clear z0 z1 z2 f0 f1 f2 l0
        refine (unhide HL).mono ?_
        rintro e w2 ⟨rfl, hb2⟩
        have nb2 : Below w2.heap.size w2 (w2.alloc (.cells #[.int .i64 p, .int .i64 q2, .int .i64 r] 133)) := (Below.refl _ _).alloc (Nat.le_refl _) _
        have bV : Box w2.heap.size #[.int .i64 p, .int .i64 q2, .int .i64 r] 133 (w2.alloc (.cells #[.int .i64 p, .int .i64 q2, .int .i64 r] 133)) w2.heap.size := newBox (Nat.le_refl _)
        have hb3 := hb2.trans (nb2.mono hb2.size)
        have sz2 := hb2.size
        have bR := (unhide HR).keep hb3
        have v0 := bV.at 0 _ rfl
        have v1 := bV.at 1 _ rfl
        have v2 := bV.at 2 _ rfl
        have HTa := hide ((unhide HT).later hb3)
        have HRa := hide bR
        have HBXa := hide ((unhide HBX).keep hb3)
        have HBa := hide ((unhide HB).trans (hb3.mono (unhide HB).size))
        have hTl := (unhide HT).lt
        have sza : w2.heap.size < (w2.alloc (.cells #[.int .i64 p, .int .i64 q2, .int .i64 r] 133)).heap.size := by simp
        clear HT HR HBX HB hb2 nb2 hb3 HL bV
        by_cases hro : 30 ≤ (allIs x.lists).length ∧ hasI (allIs x.lists) id = false
        · have HG : Hid (addIvfR x id vec = ⟨2, emptyI⟩) := by
            show addIvfR x id vec = _
            rw [unhide HG0, if_pos hro]
          have LP := hide (putM_full b 200 (allIs x.lists) id p q2 r _ (unhide HTa) hw hro.2 hro.1)
          simp only [arr3] at LP
          clear hro bR
          go_wp2_with fail
          refine (unhide LP).mono ?_
          rintro e W7 ⟨rfl, hb7⟩
          have bR := (unhide HRa).keep hb7
          have z0 : W7.cell? ⟨w.heap.size + 1, 0, none⟩ = some (.int .i64 0) := bR.at 0 _ rfl
          have z1 : W7.cell? ⟨w.heap.size + 1, 1, none⟩ = some (.slice none 0 0) := bR.at 1 _ rfl
          have z2 : W7.cell? ⟨w.heap.size + 1, 2, none⟩ = some (.slice none 0 0) := bR.at 2 _ rfl
          have f0 := bR.soft 0
          have f1 := bR.soft 1
          have f2 := bR.soft 2
          have l0 := bR.lt
          have HB := hide ((unhide HBa).trans (hb7.mono (unhide HBa).size))
          clear hb7 bR v0 v1 v2 LP
          go_wp2_with fail
          refine bodyPost_ret (v := .agg #[.int .i64 (2), .slice none 0 0, .slice none 0 0]) (by simp [results, Try.results48, go_sem, z0, z1, z2]) rfl ?_
          rw [unhide HG]
          exact ⟨[.int .i64 (2), .slice none 0 0, .slice none 0 0], rfl, own_ivfCode (by decide), (((unhide HB).setCell (by simp) _).setCell (by simp) _).setCell (by simp) _⟩
        · have hroom : hasI (allIs x.lists) id = true ∨ (allIs x.lists).length < 30 := by
            cases hh : hasI (allIs x.lists) id with
            | true => exact Or.inl rfl
            | false => exact Or.inr (by have : ¬ 30 ≤ (allIs x.lists).length := fun h => hro ⟨h, hh⟩; omega)
          have HG : Hid (addIvfR x id vec = ⟨0, buildI x.centers (putI (allIs x.lists) id vec)⟩) := by
            show addIvfR x id vec = _
            rw [unhide HG0, if_neg hro]
          have HRT : Hid (Right (putI (allIs x.lists) id vec)) := right_put (all_right (unhide HF)) (unhide HID) (unhide HVF) hroom
          have HCF : Hid (centersFault x.centers = 0) := (ivfFault_zero (unhide HF)).1
          have LP : Hid (Calls Try.prog 94 #[.map (some b), .int .i64 id, .agg #[.int .i64 p, .int .i64 q2, .int .i64 r]] (w2.alloc (.cells #[.int .i64 p, .int .i64 q2, .int .i64 r] 133)) fun e w' => e = .returned (.bool true) ∧ TabAt w' b 201 (putI (allIs x.lists) id vec) ∧ Ext (fun c => c = b) (w2.alloc (.cells #[.int .i64 p, .int .i64 q2, .int .i64 r] 133)) w') := by
            show Calls _ _ _ _ _
            rw [unhide HV3]
            cases hh : hasI (allIs x.lists) id with
            | true => exact putM_there b 200 _ id p q2 r _ (unhide HTa) (allIs_rising _) (by omega) hw hh
            | false => exact putM_new b 200 _ id p q2 r _ (unhide HTa) (by omega) hw hh (by rcases hroom with h | h; rw [hh] at h; cases h; exact h)
          clear hro hroom bR
          go_wp2_with fail
          refine (unhide LP).mono ?_
          rintro e W7 ⟨rfl, hT2, hE2⟩
          have HR7 := hide ((unhide HRa).ext hE2 (by omega))
          have HBX9 := hide ((unhide HBXa).ext hE2 (by omega))
          have HBW := hide ((unhide HBa).trans (hE2.below (unhide HBa).size (fun q hq e => by omega)))
          have HT7 := hide hT2
          clear hT2 hE2 v0 v1 v2 HTa HRa HBXa HBa LP
          go_wp2_with fail
          have hDT : TabAt W7.drew b 201 (putI (allIs x.lists) id vec) := unhide HT7
          have hDC : (Lay.sl Lay.tCenter).Reads W7.drew [.slice ac x.centers.length dc] x.centers := (unhide H0).later (unhide HBW).drew
          have hDR : Box w.heap.size #[.int .i64 0, .slice none 0 0, .slice none 0 0] 39 W7.drew (w.heap.size + 1) := unhide HR7
          have hDs : w.heap.size + 1 < W7.drew.heap.size := (unhide HR7).lt
          refine wp_region_noPanic ?_
          refine wp_region_held_drew (S := fun w' => Ext (fun q => q = w.heap.size + 1) W7 w') (by kernel_rfl) (Ext.refl _ _).drew1 (fun hHeld => ?_)
          generalize W7.drew = wD at hHeld hDT hDC hDR hDs ⊢
          refine wpAnyH_take (i := 0) (oi := { dst := some 38, op := Go.Op.fieldAddr 31 (Go.Operand.tmp 3) 0, type := 0, pos := "l07_ivf.go:168", after := #[], guard := none }) (v := ?va0) rfl (by kernel_rfl) (by kernel_rfl) (by kernel_rfl) (fun _ _ _ h => h) (Or.inl ⟨by rfl, ?ha0⟩) hHeld ?ra0
          case ha0 =>
            intro wS hSw
            (try dsimp only at hSw)
            go_simp
            try with_reducible rfl
          case ra0 =>
          simp only [Act.put, List.setIfInBounds_toArray, List.set_cons_zero, List.set_cons_succ]
          refine wpAnyH_take (i := 1) (oi := { dst := some 39, op := Go.Op.load 28 (Go.Operand.tmp 38), type := 28, pos := "l07_ivf.go:168", after := #[{ on := 0, ground := Go.Ground.data }], guard := none }) (v := ?va1) rfl (by kernel_rfl) (by kernel_rfl) (by kernel_rfl) (fun _ _ _ h => h) (Or.inl ⟨by rfl, ?ha1⟩) hHeld ?ra1
          case ha1 =>
            intro wS hSw
            have y0 := ((unhide HBX9).ext hSw (by omega)).at 0 _ rfl
            clear hSw
            (try dsimp only at hSw)
            go_simp
            try with_reducible rfl
          case ra1 =>
          simp only [Act.put, List.setIfInBounds_toArray, List.set_cons_zero, List.set_cons_succ]
          refine wpAnyH_take (i := 2) (oi := { dst := some 40, op := Go.Op.move (Go.Operand.tmp 7), type := 92, pos := "l07_ivf.go:168", after := #[], guard := none }) (v := ?va2) rfl (by kernel_rfl) (by kernel_rfl) (by kernel_rfl) (fun _ _ _ h => h) (Or.inl ⟨by rfl, ?ha2⟩) hHeld ?ra2
          case ha2 =>
            intro wS hSw
            (try dsimp only at hSw)
            go_simp
            try with_reducible rfl
          case ra2 =>
          simp only [Act.put, List.setIfInBounds_toArray, List.set_cons_zero, List.set_cons_succ]
          refine wpAnyH_ready (rs := [3]) (by kernel_rfl) (by simp) ?_
          refine AllReadyH.cons (o := { dst := some 41, op := Go.Op.call { callee := Go.Callee.value (Go.Operand.func 79), args := #[Go.Operand.tmp 40], argTypes := #[92] }, type := 42, pos := "l07_ivf.go:168", after := #[{ on := 2, ground := Go.Ground.data }], guard := none }) rfl (fun K hK => ?_) AllReadyH.nil
          go_simp
          go_at_call 79
          refine (itemsC _ _ (putI (allIs x.lists) id vec) _ hDT (unhide HRT)).mono ?_
          rintro e w3 ⟨v9, rfl, hO9, hb9⟩
          obtain ⟨ao9, cp9, rfl⟩ := open_sl hO9.reads
          have hC3 := hDC.later hb9
          have hbR3 := hDR.keep hb9
          have sz3 := hb9.size
          try go_wp2_with fail
          refine hK.out _ _ (hHeld.trans (ext_of_below hb9 _)) (fun hHeld => ?_)
          clear hK K
          try simp only [Act.put, List.setIfInBounds_toArray, List.set_cons_zero, List.set_cons_succ]
          refine wpAnyH_ready (rs := [4]) (by kernel_rfl) (by simp) ?_
          refine AllReadyH.cons (o := { dst := some 42, op := Go.Op.call { callee := Go.Callee.value (Go.Operand.func 66), args := #[Go.Operand.tmp 39, Go.Operand.tmp 41], argTypes := #[28, 42] }, type := 31, pos := "l07_ivf.go:168", after := #[{ on := 1, ground := Go.Ground.data }, { on := 3, ground := Go.Ground.data }, { on := 3, ground := Go.Ground.chain }], guard := none }) rfl (fun K hK => ?_) AllReadyH.nil
          go_simp
          go_at_call 66
          refine (implIndex ac dc x.centers ao9 cp9 (putI (allIs x.lists) id vec) _ hC3 hO9.reads (unhide HCF) (unhide HRT)).mono ?_
          rintro e w4 ⟨sc, sl, rfl, ⟨a1, n1, d1, rfl⟩, ⟨a2, n2, d2, rfl⟩, hI4, hb4⟩
          have bR := hbR3.keep hb4
          have sz4 := hb4.size
          try go_wp2_with fail
          refine hK.out _ _ (hHeld.trans (ext_of_below hb4 _)) (fun hHeld => ?_)
          clear hK K
          try simp only [Act.put, List.setIfInBounds_toArray, List.set_cons_zero, List.set_cons_succ]
          refine wpAnyH_take (i := 5) (oi := { dst := some 43, op := Go.Op.build 39 #[(1, Go.Operand.tmp 42)], type := 39, pos := "l07_ivf.go:168", after := #[{ on := 4, ground := Go.Ground.data }], guard := none }) (v := ?va5) rfl (by kernel_rfl) (by kernel_rfl) (by kernel_rfl) (fun _ _ _ h => h) (Or.inl ⟨by rfl, ?ha5⟩) hHeld ?ra5
          case ha5 =>
            intro wS hSw
            (try dsimp only at hSw)
            go_simp
            try with_reducible rfl
          case ra5 =>
          simp only [Act.put, List.setIfInBounds_toArray, List.set_cons_zero, List.set_cons_succ]
          refine wpAnyH_ready (rs := [6]) (by kernel_rfl) (by simp) ?_
          refine AllReadyH.cons (o := { dst := none, op := Go.Op.store 39 (Go.Operand.tmp 6) (Go.Operand.tmp 43), type := 0, pos := "l07_ivf.go:168", after := #[{ on := 5, ground := Go.Ground.data }, { on := 4, ground := Go.Ground.chain }, { on := 0, ground := Go.Ground.phase }, { on := 1, ground := Go.Ground.phase }, { on := 2, ground := Go.Ground.phase }, { on := 3, ground := Go.Ground.phase }, { on := 4, ground := Go.Ground.phase }, { on := 5, ground := Go.Ground.phase }], guard := none }) rfl (fun K hK => ?_) AllReadyH.nil
          have z0 : w4.cell? ⟨w.heap.size + 1, 0, none⟩ = some (.int .i64 0) := bR.at 0 _ rfl
          have z1 : w4.cell? ⟨w.heap.size + 1, 1, none⟩ = some (.slice none 0 0) := bR.at 1 _ rfl
          have z2 : w4.cell? ⟨w.heap.size + 1, 2, none⟩ = some (.slice none 0 0) := bR.at 2 _ rfl
          have f0 := bR.soft 0
          have f1 := bR.soft 1
          have f2 := bR.soft 2
          have l0 := bR.lt
          go_simp
          refine hK.out _ _ (((hHeld.setCell _ _ rfl).setCell _ _ rfl).setCell _ _ rfl) (fun hHeld => ?_)
          clear hK K
          try simp only [Act.put, List.setIfInBounds_toArray, List.set_cons_zero, List.set_cons_succ]
          refine wpAnyH_done (by kernel_rfl) ?_ _
          refine NoPanic.normal ?_
          have hE9 : Ext (fun q => q = w.heap.size + 1) w4 (((w4.setCell ⟨w.heap.size + 1, 0, none⟩ (.int .i64 0)).setCell ⟨w.heap.size + 1, 1, none⟩ (.slice a1 n1 d1)).setCell ⟨w.heap.size + 1, 2, none⟩ (.slice a2 n2 d2)) := (((Ext.refl (fun q => q = w.heap.size + 1) _).setCell _ _ rfl).setCell _ _ rfl).setCell _ _ rfl
          have HO9 := hide ((hI4.ext hE9 (fun q h1 _ h3 => by omega)).mono (lo' := w.heap.size) (by omega) (Nat.le_refl _))
          have HB9 := hide ((unhide HBW).trans (hHeld.below (unhide HBW).size (fun q hq e => by omega)))
          have hcz0 : (((w4.setCell ⟨w.heap.size + 1, 0, none⟩ (.int .i64 0)).setCell ⟨w.heap.size + 1, 1, none⟩ (.slice a1 n1 d1)).setCell ⟨w.heap.size + 1, 2, none⟩ (.slice a2 n2 d2)).cell? ⟨w.heap.size + 1, 0, none⟩ = some (.int .i64 0) := (((bR.set 0 _).set 1 _).set 2 _).at 0 _ rfl
          have hcz1 : (((w4.setCell ⟨w.heap.size + 1, 0, none⟩ (.int .i64 0)).setCell ⟨w.heap.size + 1, 1, none⟩ (.slice a1 n1 d1)).setCell ⟨w.heap.size + 1, 2, none⟩ (.slice a2 n2 d2)).cell? ⟨w.heap.size + 1, 1, none⟩ = some (.slice a1 n1 d1) := (((bR.set 0 _).set 1 _).set 2 _).at 1 _ rfl
          have hcz2 : (((w4.setCell ⟨w.heap.size + 1, 0, none⟩ (.int .i64 0)).setCell ⟨w.heap.size + 1, 1, none⟩ (.slice a1 n1 d1)).setCell ⟨w.heap.size + 1, 2, none⟩ (.slice a2 n2 d2)).cell? ⟨w.heap.size + 1, 2, none⟩ = some (.slice a2 n2 d2) := (((bR.set 0 _).set 1 _).set 2 _).at 2 _ rfl
          clear hHeld hI4 hE9 hO9 hC3 hbR3 hb4 hb9 bR z0 z1 z2 f0 f1 f2
          go_wp2_with fail
          refine bodyPost_ret (v := .agg #[.int .i64 0, .slice a1 n1 d1, .slice a2 n2 d2]) (by simp [results, Try.results48, go_sem, hcz0, hcz1, hcz2]) rfl ?_
          rw [unhide HG]
          exact ⟨[.int .i64 0, .slice a1 n1 d1, .slice a2 n2 d2], rfl, own_ivfR (by decide) ((unhide HO9).mono (Nat.le_refl _) (by simp)), unhide HB9⟩
      · have HG : Hid (addIvfR x id vec = ⟨vecFault vec, emptyI⟩) := by
          show addIvfR x id vec = _
          rw [addIvfR, if_pos ha, if_neg hvf]
        have hd : (vecFault vec != 0) = true := by simpa using hvf
        have L := vectorOf_bad _ vec w1 I1 hvf
        simp only [arr3] at L
        have HL := hide L
        clear hvf hid ha I1 L z0 z1 z2 f0 f1 f2 l0
        go_wp2_with fail
        refine (unhide HL).mono ?_
        rintro e w2 ⟨rfl, hb2⟩
        have nb2 : Below w2.heap.size w2 (w2.alloc (.cells #[.int .i64 0, .int .i64 0, .int .i64 0] 133)) := (Below.refl _ _).alloc (Nat.le_refl _) _
        have hb3 := hb2.trans (nb2.mono hb2.size)
        have bR := (unhide HR).keep hb3
        have z0 : (w2.alloc (.cells #[.int .i64 0, .int .i64 0, .int .i64 0] 133)).cell? ⟨w.heap.size + 1, 0, none⟩ = some (.int .i64 0) := bR.at 0 _ rfl
        have z1 : (w2.alloc (.cells #[.int .i64 0, .int .i64 0, .int .i64 0] 133)).cell? ⟨w.heap.size + 1, 1, none⟩ = some (.slice none 0 0) := bR.at 1 _ rfl
        have z2 : (w2.alloc (.cells #[.int .i64 0, .int .i64 0, .int .i64 0] 133)).cell? ⟨w.heap.size + 1, 2, none⟩ = some (.slice none 0 0) := bR.at 2 _ rfl
        have f0 := bR.soft 0
        have f1 := bR.soft 1
        have f2 := bR.soft 2
        have l0 := bR.lt
        have HBa := hide ((unhide HB).trans (hb3.mono (unhide HB).size))
        clear hb2 nb2 hb3 bR HL
        go_wp2_with fail
        refine bodyPost_ret (v := .agg #[.int .i64 (vecFault vec), .slice none 0 0, .slice none 0 0]) (by simp [results, Try.results48, go_sem, z0, z1, z2]) rfl ?_
        rw [unhide HG]
        exact ⟨[.int .i64 (vecFault vec), .slice none 0 0, .slice none 0 0], rfl, own_ivfCode (wf_of_bd (by have := vecFault_bd vec; omega)), (((unhide HBa).setCell (by simp) _).setCell (by simp) _).setCell (by simp) _⟩
  · obtain rfl := m1 hf
    have hd : (ivfFault x != 0) = true := by simpa using hf
    have HG : Hid (addIvfR x id vec = ⟨ivfFault x, emptyI⟩) := by
      show addIvfR x id vec = _
      have ha : askedI x id = ivfFault x := by rw [askedI, if_neg hf]
      rw [addIvfR, ha, if_neg hf]
    have z0 : w1.cell? ⟨w.heap.size + 1, 0, none⟩ = some (.int .i64 0) := bR.at 0 _ rfl
    have z1 : w1.cell? ⟨w.heap.size + 1, 1, none⟩ = some (.slice none 0 0) := bR.at 1 _ rfl
    have z2 : w1.cell? ⟨w.heap.size + 1, 2, none⟩ = some (.slice none 0 0) := bR.at 2 _ rfl
    have f0 := bR.soft 0
    have f1 := bR.soft 1
    have f2 := bR.soft 2
    have l0 := bR.lt
    have HB := hide nb
    clear m1 m2 bR nb hf bX
    go_wp2_with fail
    refine bodyPost_ret (v := .agg #[.int .i64 (ivfFault x), .slice none 0 0, .slice none 0 0]) (by simp [results, Try.results48, go_sem, z0, z1, z2]) rfl ?_
    rw [unhide HG]
    exact ⟨[.int .i64 (ivfFault x), .slice none 0 0, .slice none 0 0], rfl, own_ivfCode (ivfFault_wf x), (((unhide HB).setCell (by simp) _).setCell (by simp) _).setCell (by simp) _⟩

end Go.Proofs.Ytfgadegpdknocaa

namespace Go.Proofs.Ytfgadegpdknocaa
open Go.RowKit Go.Maps

theorem dropM (b n : Nat) (xs : List DItem) (id : Int) (w : World) (hT : TabAt w b n xs) (hw : (Lit.int .i64 id).wf = true) :
    Calls Try.prog 98 #[.map (some b), .int .i64 id] w fun e w' => e = .returned (.tuple #[]) ∧ TabAt w' b n (dropI xs id) ∧ Ext (fun q => q = b) w w' := by
  have hown : w.ownsMap Try.prog 2 vecR b n (mapD xs) := hT
  have hkey := key64 hw
  clear hT hw
  go_enter Try.func98, Try.ntmps98
  go_wp2_with (at_delete; refine wpList_delete_own _ rfl _ _ 92 2 rfl 133 keyed64 Try.underlying92 vecR b n (mapD xs) rfl hown _ _ rfl hkey ?_)
  intro w1 h1 ht
  rw [del_mapD] at h1
  have HT : Hid (TabAt w1 b n (dropI xs id)) := h1
  have HE := hide (ext_of_turned ht)
  clear h1 ht hown hkey
  go_wp2_with fail
  refine bodyPost_end (v := .tuple #[]) (by simp [results, Try.results98, go_sem]) rfl ?_
  exact ⟨rfl, unhide HT, unhide HE⟩

end Go.Proofs.Ytfgadegpdknocaa

namespace Go.Proofs.Ytfgadegpdknocaa
open Go.RowKit

set_option maxRecDepth 100000 in
set_option maxHeartbeats 4000000 in
theorem implDropIvf (cs : List Value) (x : DIvf) (id : Int) (w : World) (h : Lay.tIvf.Reads w cs x) (hw : (Lit.int .i64 id).wf = true) :
    Calls Try.prog 50 #[.agg cs.toArray, .int .i64 id] w fun e w' => ∃ cs', e = .returned (.agg cs'.toArray) ∧ Lay.tIvfResult.OwnIn w' cs' (dropIvfR x id) w.heap.size w'.heap.size ∧ Below w.heap.size w w' := by
  obtain ⟨ac, dc, al, dl, rfl, R0, R1⟩ := open_Ivf h
  have nb1 : Below w.heap.size w (w.alloc (.cells #[.slice ac x.centers.length dc, .slice al x.lists.length dl] 31)) := (Below.refl _ _).alloc (Nat.le_refl _) _
  have nb : Below w.heap.size w ((w.alloc (.cells #[.slice ac x.centers.length dc, .slice al x.lists.length dl] 31)).alloc (.cells #[.int .i64 0, .slice none 0 0, .slice none 0 0] 39)) := nb1.alloc (by simp) _
  have bX : Box w.heap.size #[.slice ac x.centers.length dc, .slice al x.lists.length dl] 31 ((w.alloc (.cells #[.slice ac x.centers.length dc, .slice al x.lists.length dl] 31)).alloc (.cells #[.int .i64 0, .slice none 0 0, .slice none 0 0] 39)) w.heap.size := (newBox (Nat.le_refl _)).grow _
  have bR : Box w.heap.size #[.int .i64 0, .slice none 0 0, .slice none 0 0] 39 ((w.alloc (.cells #[.slice ac x.centers.length dc, .slice al x.lists.length dl] 31)).alloc (.cells #[.int .i64 0, .slice none 0 0, .slice none 0 0] 39)) (w.heap.size + 1) := newBoxAt (by omega) (by simp)
  have L := hide (implTIvf x ac dc al dl _ (R0.later nb) (R1.later nb))
  have c0 := bX.at 0 _ rfl
  have c1 := bX.at 1 _ rfl
  have H0 := hide R0
  clear h R0 R1 nb1
  go_enter Try.func50, Try.ntmps50
  go_wp2_with fail
  generalize (w.alloc (.cells #[.slice ac x.centers.length dc, .slice al x.lists.length dl] 31)).alloc (.cells #[.int .i64 0, .slice none 0 0, .slice none 0 0] 39) = W0 at *
  refine (unhide L).mono ?_
  rintro e w1 ⟨⟨mv, rfl, m1, m2⟩, hb⟩
  have hW0 := bR.lt
  replace bR := bR.keep hb
  replace bX := bX.keep hb
  replace nb := nb.trans (hb.mono nb.size)
  clear hb L c0 c1
  by_cases hf : ivfFault x = 0
  · obtain ⟨b, rfl, hbb, hT⟩ := m2 hf
    rw [hf]
    have z0 : w1.cell? ⟨w.heap.size + 1, 0, none⟩ = some (.int .i64 0) := bR.at 0 _ rfl
    have z1 : w1.cell? ⟨w.heap.size + 1, 1, none⟩ = some (.slice none 0 0) := bR.at 1 _ rfl
    have z2 : w1.cell? ⟨w.heap.size + 1, 2, none⟩ = some (.slice none 0 0) := bR.at 2 _ rfl
    have f0 := bR.soft 0
    have f1 := bR.soft 1
    have f2 := bR.soft 2
    have l0 := bR.lt
    have HB := hide nb
    have HT := hide hT
    have HR := hide bR
    have HBX := hide bX
    have HF := hide hf
    clear m1 m2 hT nb bR bX hf
    go_wp2_with fail
    refine (implId id _).mono ?_
    rintro e w1 ⟨rfl, rfl⟩
    rw [show (decide (1 ≤ id) && decide (id ≤ 999)) = idB id from rfl]
    cases hid : idB id with
    | false =>
      have HG : Hid (dropIvfR x id = ⟨3, emptyI⟩) := by
        show dropIvfR x id = ⟨3, emptyI⟩
        have ha : askedI x id = 3 := by rw [askedI, if_pos (unhide HF), hid]; rfl
        rw [dropIvfR, ha]; rfl
      clear hid
      go_wp2_with fail
      refine bodyPost_ret (v := .agg #[.int .i64 (3), .slice none 0 0, .slice none 0 0]) (by simp [results, Try.results50, go_sem, z0, z1, z2]) rfl ?_
      rw [unhide HG]
      exact ⟨[.int .i64 (3), .slice none 0 0, .slice none 0 0], rfl, own_ivfCode (by decide), (((unhide HB).setCell (by simp) _).setCell (by simp) _).setCell (by simp) _⟩
    | true =>
      have HG : Hid (dropIvfR x id = ⟨0, buildI x.centers (dropI (allIs x.lists) id)⟩) := by
        show dropIvfR x id = _
        have ha : askedI x id = 0 := by rw [askedI, if_pos (unhide HF), hid]; rfl
        rw [dropIvfR, if_pos ha]
      have HRT : Hid (Right (dropI (allIs x.lists) id)) := right_drop (all_right (unhide HF)) id
      have HCF : Hid (centersFault x.centers = 0) := (ivfFault_zero (unhide HF)).1
      clear hid
      go_wp2_with fail
      refine (dropM b 200 (allIs x.lists) id _ (unhide HT) hw).mono ?_
      rintro e W7 ⟨rfl, hT2, hE2⟩
      have HR7 := hide ((unhide HR).ext hE2 (by omega))
      have HBX9 := hide ((unhide HBX).ext hE2 (by omega))
      have HBW := hide ((unhide HB).trans (hE2.below (unhide HB).size (fun q hq e => by omega)))
      have HT7 := hide hT2
      clear hT2 hE2 z0 z1 z2 f0 f1 f2 l0 HT HR HBX HB
      go_wp2_with fail
      have hDT : TabAt W7.drew b 200 (dropI (allIs x.lists) id) := unhide HT7
      have hDC : (Lay.sl Lay.tCenter).Reads W7.drew [.slice ac x.centers.length dc] x.centers := (unhide H0).later (unhide HBW).drew
      have hDR : Box w.heap.size #[.int .i64 0, .slice none 0 0, .slice none 0 0] 39 W7.drew (w.heap.size + 1) := unhide HR7
      have hDs : w.heap.size + 1 < W7.drew.heap.size := (unhide HR7).lt
      refine wp_region_noPanic ?_
      refine wp_region_held_drew (S := fun w' => Ext (fun q => q = w.heap.size + 1) W7 w') (by kernel_rfl) (Ext.refl _ _).drew1 (fun hHeld => ?_)
      generalize W7.drew = wD at hHeld hDT hDC hDR hDs ⊢
      refine wpAnyH_take (i := 0) (oi := { dst := some 23, op := Go.Op.fieldAddr 31 (Go.Operand.tmp 2) 0, type := 0, pos := "l07_ivf.go:180", after := #[], guard := none }) (v := ?vd0) rfl (by kernel_rfl) (by kernel_rfl) (by kernel_rfl) (fun _ _ _ h => h) (Or.inl ⟨by rfl, ?hd0⟩) hHeld ?rd0
      case hd0 =>
        intro wS hSw
        (try dsimp only at hSw)
        go_simp
        try with_reducible rfl
      case rd0 =>
      simp only [Act.put, List.setIfInBounds_toArray, List.set_cons_zero, List.set_cons_succ]
      refine wpAnyH_take (i := 1) (oi := { dst := some 24, op := Go.Op.load 28 (Go.Operand.tmp 23), type := 28, pos := "l07_ivf.go:180", after := #[{ on := 0, ground := Go.Ground.data }], guard := none }) (v := ?vd1) rfl (by kernel_rfl) (by kernel_rfl) (by kernel_rfl) (fun _ _ _ h => h) (Or.inl ⟨by rfl, ?hd1⟩) hHeld ?rd1
      case hd1 =>
        intro wS hSw
        have y0 := ((unhide HBX9).ext hSw (by omega)).at 0 _ rfl
        clear hSw
        (try dsimp only at hSw)
        go_simp
        try with_reducible rfl
      case rd1 =>
      simp only [Act.put, List.setIfInBounds_toArray, List.set_cons_zero, List.set_cons_succ]
      refine wpAnyH_take (i := 2) (oi := { dst := some 25, op := Go.Op.move (Go.Operand.tmp 5), type := 92, pos := "l07_ivf.go:180", after := #[], guard := none }) (v := ?vd2) rfl (by kernel_rfl) (by kernel_rfl) (by kernel_rfl) (fun _ _ _ h => h) (Or.inl ⟨by rfl, ?hd2⟩) hHeld ?rd2
      case hd2 =>
        intro wS hSw
        (try dsimp only at hSw)
        go_simp
        try with_reducible rfl
      case rd2 =>
      simp only [Act.put, List.setIfInBounds_toArray, List.set_cons_zero, List.set_cons_succ]
      refine wpAnyH_ready (rs := [3]) (by kernel_rfl) (by simp) ?_
      refine AllReadyH.cons (o := { dst := some 26, op := Go.Op.call { callee := Go.Callee.value (Go.Operand.func 79), args := #[Go.Operand.tmp 25], argTypes := #[92] }, type := 42, pos := "l07_ivf.go:180", after := #[{ on := 2, ground := Go.Ground.data }], guard := none }) rfl (fun K hK => ?_) AllReadyH.nil
      go_simp
      go_at_call 79
      refine (itemsC _ _ (dropI (allIs x.lists) id) _ hDT (unhide HRT)).mono ?_
      rintro e w3 ⟨v9, rfl, hO9, hb9⟩
      obtain ⟨ao9, cp9, rfl⟩ := open_sl hO9.reads
      have hC3 := hDC.later hb9
      have hbR3 := hDR.keep hb9
      have sz3 := hb9.size
      try go_wp2_with fail
      refine hK.out _ _ (hHeld.trans (ext_of_below hb9 _)) (fun hHeld => ?_)
      clear hK K
      try simp only [Act.put, List.setIfInBounds_toArray, List.set_cons_zero, List.set_cons_succ]
      refine wpAnyH_ready (rs := [4]) (by kernel_rfl) (by simp) ?_
      refine AllReadyH.cons (o := { dst := some 27, op := Go.Op.call { callee := Go.Callee.value (Go.Operand.func 66), args := #[Go.Operand.tmp 24, Go.Operand.tmp 26], argTypes := #[28, 42] }, type := 31, pos := "l07_ivf.go:180", after := #[{ on := 1, ground := Go.Ground.data }, { on := 3, ground := Go.Ground.data }, { on := 3, ground := Go.Ground.chain }], guard := none }) rfl (fun K hK => ?_) AllReadyH.nil
      go_simp
      go_at_call 66
      refine (implIndex ac dc x.centers ao9 cp9 (dropI (allIs x.lists) id) _ hC3 hO9.reads (unhide HCF) (unhide HRT)).mono ?_
      rintro e w4 ⟨sc, sl, rfl, ⟨a1, n1, d1, rfl⟩, ⟨a2, n2, d2, rfl⟩, hI4, hb4⟩
      have bR := hbR3.keep hb4
      have sz4 := hb4.size
      try go_wp2_with fail
      refine hK.out _ _ (hHeld.trans (ext_of_below hb4 _)) (fun hHeld => ?_)
      clear hK K
      try simp only [Act.put, List.setIfInBounds_toArray, List.set_cons_zero, List.set_cons_succ]
      refine wpAnyH_take (i := 5) (oi := { dst := some 28, op := Go.Op.build 39 #[(1, Go.Operand.tmp 27)], type := 39, pos := "l07_ivf.go:180", after := #[{ on := 4, ground := Go.Ground.data }], guard := none }) (v := ?vd5) rfl (by kernel_rfl) (by kernel_rfl) (by kernel_rfl) (fun _ _ _ h => h) (Or.inl ⟨by rfl, ?hd5⟩) hHeld ?rd5
      case hd5 =>
        intro wS hSw
        (try dsimp only at hSw)
        go_simp
        try with_reducible rfl
      case rd5 =>
      simp only [Act.put, List.setIfInBounds_toArray, List.set_cons_zero, List.set_cons_succ]
      refine wpAnyH_ready (rs := [6]) (by kernel_rfl) (by simp) ?_
      refine AllReadyH.cons (o := { dst := none, op := Go.Op.store 39 (Go.Operand.tmp 4) (Go.Operand.tmp 28), type := 0, pos := "l07_ivf.go:180", after := #[{ on := 5, ground := Go.Ground.data }, { on := 4, ground := Go.Ground.chain }, { on := 0, ground := Go.Ground.phase }, { on := 1, ground := Go.Ground.phase }, { on := 2, ground := Go.Ground.phase }, { on := 3, ground := Go.Ground.phase }, { on := 4, ground := Go.Ground.phase }, { on := 5, ground := Go.Ground.phase }], guard := none }) rfl (fun K hK => ?_) AllReadyH.nil
      have z0 : w4.cell? ⟨w.heap.size + 1, 0, none⟩ = some (.int .i64 0) := bR.at 0 _ rfl
      have z1 : w4.cell? ⟨w.heap.size + 1, 1, none⟩ = some (.slice none 0 0) := bR.at 1 _ rfl
      have z2 : w4.cell? ⟨w.heap.size + 1, 2, none⟩ = some (.slice none 0 0) := bR.at 2 _ rfl
      have f0 := bR.soft 0
      have f1 := bR.soft 1
      have f2 := bR.soft 2
      have l0 := bR.lt
      go_simp
      refine hK.out _ _ (((hHeld.setCell _ _ rfl).setCell _ _ rfl).setCell _ _ rfl) (fun hHeld => ?_)
      clear hK K
      try simp only [Act.put, List.setIfInBounds_toArray, List.set_cons_zero, List.set_cons_succ]
      refine wpAnyH_done (by kernel_rfl) ?_ _
      refine NoPanic.normal ?_
      have hE9 : Ext (fun q => q = w.heap.size + 1) w4 (((w4.setCell ⟨w.heap.size + 1, 0, none⟩ (.int .i64 0)).setCell ⟨w.heap.size + 1, 1, none⟩ (.slice a1 n1 d1)).setCell ⟨w.heap.size + 1, 2, none⟩ (.slice a2 n2 d2)) := (((Ext.refl (fun q => q = w.heap.size + 1) _).setCell _ _ rfl).setCell _ _ rfl).setCell _ _ rfl
      have HO9 := hide ((hI4.ext hE9 (fun q h1 _ h3 => by omega)).mono (lo' := w.heap.size) (by omega) (Nat.le_refl _))
      have HB9 := hide ((unhide HBW).trans (hHeld.below (unhide HBW).size (fun q hq e => by omega)))
      have hcz0 : (((w4.setCell ⟨w.heap.size + 1, 0, none⟩ (.int .i64 0)).setCell ⟨w.heap.size + 1, 1, none⟩ (.slice a1 n1 d1)).setCell ⟨w.heap.size + 1, 2, none⟩ (.slice a2 n2 d2)).cell? ⟨w.heap.size + 1, 0, none⟩ = some (.int .i64 0) := (((bR.set 0 _).set 1 _).set 2 _).at 0 _ rfl
      have hcz1 : (((w4.setCell ⟨w.heap.size + 1, 0, none⟩ (.int .i64 0)).setCell ⟨w.heap.size + 1, 1, none⟩ (.slice a1 n1 d1)).setCell ⟨w.heap.size + 1, 2, none⟩ (.slice a2 n2 d2)).cell? ⟨w.heap.size + 1, 1, none⟩ = some (.slice a1 n1 d1) := (((bR.set 0 _).set 1 _).set 2 _).at 1 _ rfl
      have hcz2 : (((w4.setCell ⟨w.heap.size + 1, 0, none⟩ (.int .i64 0)).setCell ⟨w.heap.size + 1, 1, none⟩ (.slice a1 n1 d1)).setCell ⟨w.heap.size + 1, 2, none⟩ (.slice a2 n2 d2)).cell? ⟨w.heap.size + 1, 2, none⟩ = some (.slice a2 n2 d2) := (((bR.set 0 _).set 1 _).set 2 _).at 2 _ rfl
      clear hHeld hI4 hE9 hO9 hC3 hbR3 hb4 hb9 bR z0 z1 z2 f0 f1 f2
      go_wp2_with fail
      refine bodyPost_ret (v := .agg #[.int .i64 0, .slice a1 n1 d1, .slice a2 n2 d2]) (by simp [results, Try.results50, go_sem, hcz0, hcz1, hcz2]) rfl ?_
      rw [unhide HG]
      exact ⟨[.int .i64 0, .slice a1 n1 d1, .slice a2 n2 d2], rfl, own_ivfR (by decide) ((unhide HO9).mono (Nat.le_refl _) (by simp)), unhide HB9⟩
  · obtain rfl := m1 hf
    have hd : (ivfFault x != 0) = true := by simpa using hf
    have HG : Hid (dropIvfR x id = ⟨ivfFault x, emptyI⟩) := by
      show dropIvfR x id = _
      have ha : askedI x id = ivfFault x := by rw [askedI, if_neg hf]
      rw [dropIvfR, ha, if_neg hf]
    have z0 : w1.cell? ⟨w.heap.size + 1, 0, none⟩ = some (.int .i64 0) := bR.at 0 _ rfl
    have z1 : w1.cell? ⟨w.heap.size + 1, 1, none⟩ = some (.slice none 0 0) := bR.at 1 _ rfl
    have z2 : w1.cell? ⟨w.heap.size + 1, 2, none⟩ = some (.slice none 0 0) := bR.at 2 _ rfl
    have f0 := bR.soft 0
    have f1 := bR.soft 1
    have f2 := bR.soft 2
    have l0 := bR.lt
    have HB := hide nb
    clear m1 m2 bR nb hf bX
    go_wp2_with fail
    refine bodyPost_ret (v := .agg #[.int .i64 (ivfFault x), .slice none 0 0, .slice none 0 0]) (by simp [results, Try.results50, go_sem, z0, z1, z2]) rfl ?_
    rw [unhide HG]
    exact ⟨[.int .i64 (ivfFault x), .slice none 0 0, .slice none 0 0], rfl, own_ivfCode (ivfFault_wf x), (((unhide HB).setCell (by simp) _).setCell (by simp) _).setCell (by simp) _⟩

end Go.Proofs.Ytfgadegpdknocaa

namespace Go.Proofs.Ytfgadegpdknocaa
open Go.RowKit

set_option maxRecDepth 10000 in
theorem implAsk6 (v : Value) (cs : List DCenter) (vx : Value) (xs : List DItem) (w : World) (hcs : (Lay.sl Lay.tCenter).Reads w [v] cs) (h : (Lay.sl Lay.tItem).Reads w [vx] xs) :
    Calls Try.prog 65 #[v, vx] w fun e w' => e = .returned (.int .i64 (askFault cs xs)) ∧ Below w.heap.size w w' := by
  have HX := hide h
  have L := hide (implCen v cs w hcs)
  obtain ⟨ao, cap, rfl⟩ := open_sl hcs
  obtain ⟨ao2, cap2, rfl⟩ := open_sl h
  clear hcs h
  go_enter Try.func65, Try.ntmps65
  go_wp2_with fail
  refine (unhide L).mono ?_
  rintro e w1 ⟨rfl, hb⟩
  have L2 := hide (implTab _ xs w1 ((unhide HX).later hb))
  have HB := hide hb
  clear hb L HX
  by_cases hf : centersFault cs = 0
  · have HG : Hid (askFault cs xs = tableFault xs) := if_pos hf
    rw [hf]
    clear hf
    go_wp2_with fail
    refine (unhide L2).mono ?_
    rintro e w2 ⟨rfl, hb2⟩
    have HB2 := hide ((unhide HB).trans (hb2.mono (unhide HB).size))
    clear hb2 L2 HB
    go_wp2_with fail
    go_ret
    exact ⟨by rw [unhide HG]; rfl, unhide HB2⟩
  · have HG : Hid (askFault cs xs = centersFault cs) := if_neg hf
    have hd : (centersFault cs != 0) = true := by simpa using hf
    clear hf L2
    go_wp2_with fail
    go_ret
    exact ⟨by rw [unhide HG]; rfl, unhide HB⟩

end Go.Proofs.Ytfgadegpdknocaa

namespace Go.Proofs.Ytfgadegpdknocaa
open Go.RowKit

set_option maxRecDepth 10000 in
set_option maxHeartbeats 1000000 in
theorem implBuildIvf (v : Value) (cs : List DCenter) (vx : Value) (xs : List DItem) (w : World) (hcs : (Lay.sl Lay.tCenter).Reads w [v] cs) (h : (Lay.sl Lay.tItem).Reads w [vx] xs) :
    Calls Try.prog 19 #[v, vx] w fun e w' => ∃ cs', e = .returned (.agg cs'.toArray) ∧ Lay.tIvfResult.OwnIn w' cs' (buildIvfR cs xs) w.heap.size w'.heap.size ∧ Below w.heap.size w w' := by
  have nb : Below w.heap.size w (w.alloc (.cells #[.int .i64 0, .slice none 0 0, .slice none 0 0] 39)) := (Below.refl _ _).alloc (Nat.le_refl _) _
  have bR : Box w.heap.size #[.int .i64 0, .slice none 0 0, .slice none 0 0] 39 (w.alloc (.cells #[.int .i64 0, .slice none 0 0, .slice none 0 0] 39)) w.heap.size := newBox (Nat.le_refl _)
  have hc1 := hcs.later nb
  have hx1 := h.later nb
  obtain ⟨ao, cap, rfl⟩ := open_sl hcs
  obtain ⟨ao2, cap2, rfl⟩ := open_sl h
  clear hcs h
  go_enter Try.func19, Try.ntmps19
  go_wp2_with fail
  generalize w.alloc (.cells #[.int .i64 0, .slice none 0 0, .slice none 0 0] 39) = W0 at *
  refine (implAsk6 _ cs _ xs W0 hc1 hx1).mono ?_
  rintro e w1 ⟨rfl, hb⟩
  replace bR := bR.keep hb
  replace nb := nb.trans (hb.mono nb.size)
  replace hc1 := hc1.later hb
  replace hx1 := hx1.later hb
  clear hb
  by_cases hf : askFault cs xs = 0
  · have HG : Hid (buildIvfR cs xs = ⟨0, buildI cs xs⟩) := if_pos hf
    have L := hide (implIndex ao cap cs ao2 cap2 xs w1 hc1 hx1 (askFault_zero hf).1 (askFault_zero hf).2)
    rw [hf]
    have HR := hide bR
    have HB := hide nb
    clear hf bR nb hc1 hx1
    go_wp2_with fail
    refine (unhide L).mono ?_
    rintro e w3 ⟨sc, sl, rfl, ⟨a1, n1, d1, rfl⟩, ⟨a2, n2, d2, rfl⟩, hO, hb⟩
    have bR := (unhide HR).keep hb
    have z0 : w3.cell? ⟨w.heap.size, 0, none⟩ = some (.int .i64 0) := bR.at 0 _ rfl
    have z1 : w3.cell? ⟨w.heap.size, 1, none⟩ = some (.slice none 0 0) := bR.at 1 _ rfl
    have z2 : w3.cell? ⟨w.heap.size, 2, none⟩ = some (.slice none 0 0) := bR.at 2 _ rfl
    have f0 := bR.soft 0
    have f1 := bR.soft 1
    have f2 := bR.soft 2
    have l0 := bR.lt
    have HB9 := hide ((unhide HB).trans (hb.mono (unhide HB).size))
    have HO9 := hide (hO.mono (lo' := w.heap.size + 1) (by have := (unhide HR).lt; omega) (Nat.le_refl _))
    clear hO hb bR L
    go_wp2_with fail
    refine bodyPost_ret (v := .agg #[.int .i64 0, .slice a1 n1 d1, .slice a2 n2 d2]) (by simp [results, Try.results19, go_sem, z0, z1, z2]) rfl ?_
    rw [unhide HG]
    have hE : Ext (fun c => c = w.heap.size) w3 (((w3.setCell ⟨w.heap.size, 0, none⟩ (.int .i64 0)).setCell ⟨w.heap.size, 1, none⟩ (.slice a1 n1 d1)).setCell ⟨w.heap.size, 2, none⟩ (.slice a2 n2 d2)) := (((Ext.refl (fun c => c = w.heap.size) _).setCell ⟨w.heap.size, 0, none⟩ _ rfl).setCell ⟨w.heap.size, 1, none⟩ _ rfl).setCell ⟨w.heap.size, 2, none⟩ _ rfl
    refine ⟨[.int .i64 0, .slice a1 n1 d1, .slice a2 n2 d2], rfl, own_ivfR (by decide) ?_, (((unhide HB9).setCell (by simp) _).setCell (by simp) _).setCell (by simp) _⟩
    exact ((unhide HO9).ext hE (fun c h1 _ h3 => by omega)).mono (by omega) (by simp)
  · have hd : (askFault cs xs != 0) = true := by simpa using hf
    have HG : Hid (buildIvfR cs xs = ⟨askFault cs xs, emptyI⟩) := if_neg hf
    have z0 : w1.cell? ⟨w.heap.size, 0, none⟩ = some (.int .i64 0) := bR.at 0 _ rfl
    have z1 : w1.cell? ⟨w.heap.size, 1, none⟩ = some (.slice none 0 0) := bR.at 1 _ rfl
    have z2 : w1.cell? ⟨w.heap.size, 2, none⟩ = some (.slice none 0 0) := bR.at 2 _ rfl
    have f0 := bR.soft 0
    have f1 := bR.soft 1
    have f2 := bR.soft 2
    have l0 := bR.lt
    have HB := hide nb
    clear bR nb hf hc1 hx1
    go_wp2_with fail
    refine bodyPost_ret (v := .agg #[.int .i64 (askFault cs xs), .slice none 0 0, .slice none 0 0]) (by simp [results, Try.results19, go_sem, z0, z1, z2]) rfl ?_
    rw [unhide HG]
    exact ⟨[.int .i64 (askFault cs xs), .slice none 0 0, .slice none 0 0], rfl, own_ivfCode (askFault_wf cs xs), (((unhide HB).setCell (by simp) _).setCell (by simp) _).setCell (by simp) _⟩

end Go.Proofs.Ytfgadegpdknocaa
