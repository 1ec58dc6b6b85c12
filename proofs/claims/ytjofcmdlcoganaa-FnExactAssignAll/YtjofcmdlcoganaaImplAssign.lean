/-
  AssignAll of the program; nothing old is written.
  No condition.
-/
import Derived.Test.YtjofcmdlcoganaaImplAsk6
import Derived.Test.YtjofcmdlcoganaaImplNear
import Derived.Test.YtjofcmdlcoganaaInts
namespace Go.Proofs.Ytjofcmdlcoganaa
open Go.RowKit

theorem places_len (cs : List DCenter) (xs : List DItem) : (placesL cs xs).length = xs.length := by simp [placesL]
theorem places_at (cs : List DCenter) (xs : List DItem) (k : Nat) (h : k < xs.length) : (placesL cs xs).getD k 0 = (near cs xs[k].vec : Nat) := by simp [placesL, List.getD, h]
theorem places_wf {cs : List DCenter} {xs : List DItem} (hc : centersFault cs = 0) (hx : ∀ x ∈ xs, vecFault x.vec = 0) : ∀ z ∈ placesL cs xs, (Lit.int .i64 z).wf = true := by
  intro z hz
  obtain ⟨x, hm, rfl⟩ := List.mem_map.1 hz
  have h1 := near_lt hc (hx x hm)
  have h2 := (centersFault_zero hc).1
  exact wf_of_bd (by omega)

set_option maxRecDepth 100000 in
set_option maxHeartbeats 2000000 in
theorem implAssign_ok (v : Value) (cs : List DCenter) (ao : Option Addr) (cap : Nat) (xs : List DItem) (w : World) (hcs : (Lay.sl Lay.tCenter).Reads w [v] cs) (h : (Lay.sl Lay.tItem).Reads w [.slice ao xs.length cap] xs) (hf : askFault cs xs = 0) :
    Calls Try.prog 16 #[v, .slice ao xs.length cap] w fun e w' => ∃ cs', e = .returned (.agg cs'.toArray) ∧ Lay.tIntsResult.OwnIn w' cs' ⟨0, placesL cs xs⟩ w.heap.size w'.heap.size ∧ Below w.heap.size w w' := by
  obtain ⟨hfc, hft⟩ := askFault_zero hf
  obtain ⟨hlen, hall, -⟩ := tableFault_zero hft
  have hxv : ∀ x ∈ xs, vecFault x.vec = 0 := fun x hm => (hall x hm).2
  have HB0 : Below w.heap.size w (w.alloc (.cells #[.int .i64 0, .slice none 0 0] 37)) := (Below.refl _ _).alloc (Nat.le_refl _) _
  have bR : Box w.heap.size #[.int .i64 0, .slice none 0 0] 37 (w.alloc (.cells #[.int .i64 0, .slice none 0 0] 37)) w.heap.size := newBox (Nat.le_refl _)
  have hc1 := hcs.later HB0
  have hx1 := h.later HB0
  obtain ⟨i0, hi, hz0, hz1, hz2⟩ := info_parts info2
  have HXV := hide hxv
  have HFC := hide hfc
  clear hcs h hall hxv hfc hft
  go_enter Try.func16, Try.ntmps16
  go_wp2_with fail
  generalize w.alloc (.cells #[.int .i64 0, .slice none 0 0] 37) = W0 at *
  refine (implAsk6 _ cs _ xs W0 hc1 hx1).mono ?_
  rintro e w1 ⟨rfl, hb⟩
  rw [hf]
  have HC := hide (hc1.later hb)
  have HX := hide (hx1.later hb)
  replace bR := bR.keep hb
  replace HB0 := HB0.trans (hb.mono HB0.size)
  have hw1 := bR.lt
  have HB := hide HB0
  have HR := hide bR
  clear hb HB0 bR hc1 hx1 hf
  go_wp2_with (at_make; refine wpList_make_full _ rfl _ _ 25 rfl w1.heap.size 2 i0 (.int .i64 0) 1 Try.underlying25 hi hz0 hz1 _ _ _ _ xs.length rfl rfl rfl rfl ?c1 ?c2 ?c3 ?_)
  case c1 => rw [hz2]; omega
  case c2 => unfold maxLen; omega
  case c3 => exact Nat.le_refl _
  intro w2 hown1 hgrow1
  have hB1 : Below w1.heap.size w1 w2 := (Below.refl _ _).grown hgrow1 (Nat.le_refl _) (by simp)
  rw [toList_madeCells_one] at hown1
  have HO1 := hide hown1
  have HB1 := hide hB1
  clear hgrow1 hi hz0 hz1 hz2 hown1 hB1
  go_wp2_with fail
  go_loopw [20] (fun i wr => ∃ k : Nat, k ≤ xs.length ∧ i = .int .i64 k ∧ wr.ownsRow w1.heap.size 2 1 (.slice (some ⟨w1.heap.size, 0, none⟩) xs.length xs.length) xs.length (((placesL cs xs).take k).map (Value.int .i64) ++ List.replicate (xs.length - k) (Value.int .i64 0)) ∧ Below w1.heap.size w1 wr) (fun i _ => xs.length - (intOf i).toNat)
  case atStart => exact ⟨0, Nat.zero_le _, rfl, by simpa using unhide HO1, unhide HB1⟩
  case round =>
    obtain ⟨k, hk, rfl, hown, hB⟩ := hrel
    clear HO1 HB1
    by_cases hlt : k < xs.length
    · obtain ⟨b, off, rfl, hbl⟩ := Lay.sl_addr (unhide HX) (by omega)
      obtain ⟨row, hc, hr⟩ := Lay.row_at (unhide HX) hlt
      replace hr := hr.later hB
      obtain ⟨a1, d1, rfl, R1⟩ := open_Item hr
      have c0 : wr.cell? ⟨b, off + k * 2, none⟩ = some (.int .i64 (xs[k]).id) := (hB.cell (p := ⟨b, off + k * 2, none⟩) hbl).trans (hc 0 (by decide))
      have c1 : wr.cell? ⟨b, off + k * 2 + 1, none⟩ = some (.slice a1 (xs[k]).vec.length d1) := (hB.cell (p := ⟨b, off + k * 2 + 1, none⟩) hbl).trans (hc 1 (by decide))
      have hvx := unhide HXV xs[k] (List.getElem_mem hlt)
      have hpl := places_at cs xs k hlt
      clear hc hr
      generalize hx : xs[k] = x at *
      clear hx
      have L := hide (nearC _ cs _ x.vec wr ((unhide HC).later hB) (Lay.ints_reads R1) (unhide HFC) hvx)
      have HPL := hide hpl
      have HO := hide hown
      have HB2 := hide hB
      clear R1 hvx hpl hown hB
      generalize nearS cs x.vec = ns at *
      generalize hnr : near cs x.vec = nr at *
      clear hnr
      go_wp2_with fail
      refine (unhide L).mono ?_
      rintro e w3 ⟨rfl, hb⟩
      have o2 := own_below (unhide HO) hb
      have hcd : ∃ u, w3.cell? ⟨w1.heap.size, k, none⟩ = some u := by
        rw [o2.cellAt k (by omega)]
        exact ⟨_, List.getElem?_eq_getElem (by simp [places_len]; omega)⟩
      obtain ⟨u, hcd⟩ := hcd
      have hfz := o2.frozenAt k
      have hlg := (o2.lt w1.heap.size rfl).2
      have hst := o2.stored k (.int .i64 ((placesL cs xs).getD k 0))
      have hsf := set_fill (placesL cs xs) k (by rw [places_len]; exact hlt)
      rw [places_len] at hsf
      rw [hsf, unhide HPL] at hst
      have HO3 := hide hst.1
      have HB3 : Hid (Below w1.heap.size w1 (w3.setCell ⟨w1.heap.size, k, none⟩ (.int .i64 (nr : Int)))) := ((unhide HB2).trans (hb.mono (unhide HB2).size)).setCell (by simp) _
      clear hst hsf o2 hb L HO HB2 c0 c1
      go_wp2_with fail
      go_roundw
      case rel => exact ⟨k + 1, by omega, by go_num, unhide HO3, unhide HB3⟩
      case measure => simp [intOf]; omega
    · obtain rfl : k = xs.length := by omega
      have e1 : (placesL cs xs).take xs.length = placesL cs xs := by rw [← places_len cs xs, List.take_length]
      rw [e1, Nat.sub_self, List.replicate_zero, List.append_nil] at hown
      have hO := Lay.ownInts (zs := placesL cs xs) (base := w1.heap.size) (T := 2) (places_wf (unhide HFC) (unhide HXV)) (by rw [places_len]; omega) (by rw [places_len]; exact hown)
      have bR := (unhide HR).keep hB
      have z0 : wr.cell? ⟨w.heap.size, 0, none⟩ = some (.int .i64 0) := bR.at 0 _ rfl
      have z1 : wr.cell? ⟨w.heap.size, 1, none⟩ = some (.slice none 0 0) := bR.at 1 _ rfl
      have f0 := bR.soft 0
      have f1 := bR.soft 1
      have l0 := bR.lt
      have HB9 := hide ((unhide HB).trans (hB.mono (unhide HB).size))
      have HO9 := hide hO
      clear hown hB hO bR e1
      go_wp2_with fail
      refine bodyPost_ret (v := .agg #[.int .i64 0, (.slice (some ⟨w1.heap.size, 0, none⟩) xs.length xs.length)]) (by simp [results, Try.results16, go_sem, z0, z1]) rfl ?_
      have hE : Ext (fun c => c = w.heap.size) wr ((wr.setCell ⟨w.heap.size, 0, none⟩ (.int .i64 0)).setCell ⟨w.heap.size, 1, none⟩ (.slice (some ⟨w1.heap.size, 0, none⟩) xs.length xs.length)) := ((Ext.refl (fun c => c = w.heap.size) _).setCell ⟨w.heap.size, 0, none⟩ _ rfl).setCell ⟨w.heap.size, 1, none⟩ _ rfl
      exact ⟨[.int .i64 0, (.slice (some ⟨w1.heap.size, 0, none⟩) xs.length xs.length)], rfl, own_intsR6 (by decide) (((unhide HO9).ext hE (fun c h1 _ h3 => by omega)).mono (by omega) (by simp)), ((unhide HB9).setCell (by simp) _).setCell (by simp) _⟩

set_option maxRecDepth 10000 in
theorem implAssign_bad (v : Value) (cs : List DCenter) (vx : Value) (xs : List DItem) (w : World) (hcs : (Lay.sl Lay.tCenter).Reads w [v] cs) (h : (Lay.sl Lay.tItem).Reads w [vx] xs) (hf : askFault cs xs ≠ 0) :
    Calls Try.prog 16 #[v, vx] w fun e w' => ∃ cs', e = .returned (.agg cs'.toArray) ∧ Lay.tIntsResult.OwnIn w' cs' ⟨askFault cs xs, []⟩ w.heap.size w'.heap.size ∧ Below w.heap.size w w' := by
  have HB0 : Below w.heap.size w (w.alloc (.cells #[.int .i64 0, .slice none 0 0] 37)) := (Below.refl _ _).alloc (Nat.le_refl _) _
  have bR : Box w.heap.size #[.int .i64 0, .slice none 0 0] 37 (w.alloc (.cells #[.int .i64 0, .slice none 0 0] 37)) w.heap.size := newBox (Nat.le_refl _)
  have hc1 := hcs.later HB0
  have hx1 := h.later HB0
  obtain ⟨ao, cap, rfl⟩ := open_sl hcs
  obtain ⟨ao2, cap2, rfl⟩ := open_sl h
  have hd : (askFault cs xs != 0) = true := by simpa using hf
  clear hcs h hf
  go_enter Try.func16, Try.ntmps16
  go_wp2_with fail
  generalize w.alloc (.cells #[.int .i64 0, .slice none 0 0] 37) = W0 at *
  refine (implAsk6 _ cs _ xs W0 hc1 hx1).mono ?_
  rintro e w1 ⟨rfl, hb⟩
  replace bR := bR.keep hb
  replace HB0 := HB0.trans (hb.mono HB0.size)
  have z0 : w1.cell? ⟨w.heap.size, 0, none⟩ = some (.int .i64 0) := bR.at 0 _ rfl
  have z1 : w1.cell? ⟨w.heap.size, 1, none⟩ = some (.slice none 0 0) := bR.at 1 _ rfl
  have f0 := bR.soft 0
  have f1 := bR.soft 1
  have l0 := bR.lt
  have HB := hide HB0
  clear hb HB0 bR hc1 hx1
  go_wp2_with fail
  refine bodyPost_ret (v := .agg #[.int .i64 (askFault cs xs), .slice none 0 0]) (by simp [results, Try.results16, go_sem, z0, z1]) rfl ?_
  exact ⟨[.int .i64 (askFault cs xs), .slice none 0 0], rfl, own_codeInts6 (askFault_wf cs xs), ((unhide HB).setCell (by simp) _).setCell (by simp) _⟩

/-- AssignAll of the program. -/
theorem implAssign (v : Value) (cs : List DCenter) (vx : Value) (xs : List DItem) (w : World) (hcs : (Lay.sl Lay.tCenter).Reads w [v] cs) (h : (Lay.sl Lay.tItem).Reads w [vx] xs) :
    Calls Try.prog 16 #[v, vx] w fun e w' => ∃ cs', e = .returned (.agg cs'.toArray) ∧ Lay.tIntsResult.OwnIn w' cs' (assignR cs xs) w.heap.size w'.heap.size ∧ Below w.heap.size w w' := by
  by_cases hf : askFault cs xs = 0
  · rw [show assignR cs xs = ⟨0, placesL cs xs⟩ from if_pos hf]
    obtain ⟨ao, cap, rfl⟩ := open_sl h
    exact implAssign_ok v cs ao cap xs w hcs h hf
  · rw [show assignR cs xs = ⟨askFault cs xs, []⟩ from if_neg hf]
    exact implAssign_bad v cs vx xs w hcs h hf

end Go.Proofs.Ytjofcmdlcoganaa
