/-
  Texts of this proof in one: ToCenterS, LawXMoveCenters, ImplAsk6, ImplMoveOf, SpecAsk6, SpecMoveOf, LawMove, LawTrain, LayOpen, OpenItem.
  Their conditions stand in their theorems.
-/
import Derived.Test.YtjofcmdlcoganaaChecked
import Derived.Test.YtjofcmdlcoganaaNq01
import Derived.Test.YtjofcmdlcoganaaNq03
import Derived.Test.YtjofcmdlcoganaaNq10
import Derived.WalkKit
import Derived.Test.YtjofcmdlcoganaaNq04
import Derived.Test.YtjofcmdlcoganaaNq05
import Derived.Test.YtjofcmdlcoganaaNq08
import Derived.ProofKit
import Derived.OpenShut
import Derived.Deep.Slices
import Derived.Test.YtjofcmdlcoganaaNq02

namespace Go.Proofs.Ytjofcmdlcoganaa
open Go.RowKit

theorem infoCenter : (Try.prog.info? 77).map (fun i => (i.zero, i.size, decide (i.bytes ≤ 1000))) = some (some (.agg #[.slice none 0 0]), 1, true) := by kernel_rfl
set_option maxRecDepth 10000 in
set_option maxHeartbeats 2000000 in
theorem to_CenterS (v : Value) (xs : List DCenter) (w : World) (h : (Lay.sl Lay.tCenter).Reads w [v] xs) (hn : (Lay.sl Lay.tCenter).sz xs ≤ 1048576) :
    Calls Try.prog 22 #[v] w fun e w' => ∃ v', e = .returned v' ∧ (Lay.sl Lay.tCenter).OwnIn w' [v'] xs w.heap.size w'.heap.size ∧ Below w.heap.size w w' := by
  have hbig := h.big
  obtain ⟨ao, cap, rfl⟩ := open_sl h
  have hlen : xs.length ≤ 1048576 := Nat.le_trans Lay.sz_len hn
  obtain ⟨i0, hi, hz0, hz1, hz2⟩ : ∃ i, Try.prog.info? 77 = some i ∧ i.zero = some (.agg #[.slice none 0 0]) ∧ i.size = 1 ∧ i.bytes ≤ 1000 := by
    have := infoCenter
    cases hq : Try.prog.info? 77 with
    | none => rw [hq] at this; simp at this
    | some i =>
      rw [hq] at this
      simp only [Option.map_some, Option.some.injEq, Prod.mk.injEq, decide_eq_true_eq] at this
      exact ⟨i, rfl, this.1, this.2.1, this.2.2⟩
  have H := hide h
  have HN := hide hn
  clear h hn
  go_enter Try.func22, Try.ntmps22
  go_wp2_with (at_make; refine wpList_make_full _ rfl _ _ 28 rfl w.heap.size 77 i0 _ 1 Try.underlying28 hi hz0 hz1 _ _ _ _ xs.length rfl rfl rfl rfl ?c1 ?c2 ?c3 ?_)
  case c1 => have := Nat.mul_le_mul hz2 hlen; omega
  case c2 => unfold maxLen; omega
  case c3 => exact Nat.le_refl _
  intro w1 hown1 hgrow1
  have hB1 : Below w.heap.size w w1 := (Below.refl _ _).grown hgrow1 (Nat.le_refl _) (by simp)
  clear hgrow1 hi hz0 hz1 hz2
  have HO1 := hide hown1
  have HB1 := hide hB1
  clear hown1 hB1
  go_wp2_with fail
  go_loopw [4] (fun i wr => ∃ (k : Nat) (rows : List (List Value)) (Q : List Value) (hi : Nat), k ≤ xs.length ∧ i = .int .i64 k ∧ wr.ownsRow w.heap.size 77 1 (.slice (some ⟨w.heap.size, 0, none⟩) xs.length xs.length) xs.length (rows.flatten ++ Q) ∧ Q.length = (xs.length - k) * 1 ∧ Lay.Subs Lay.tCenter wr rows (xs.take k) (w.heap.size + 1) hi ∧ hi ≤ wr.heap.size ∧ w.heap.size < hi ∧ Below w.heap.size w wr) (fun i _ => xs.length - (intOf i).toNat)
  case atStart =>
    have hl := ((unhide HO1).lt w.heap.size rfl).2
    exact ⟨0, [], _, w1.heap.size, Nat.zero_le _, rfl, by simpa using unhide HO1, by have := (unhide HO1).1; simpa using this, Lay.subs_nil, Nat.le_refl _, hl, unhide HB1⟩
  case round =>
    obtain ⟨k, rows, Q, hi, hk, rfl, hown, hQ, hsub, hhi, hlo, hB⟩ := hrel
    clear HO1 HB1
    by_cases hlt : k < xs.length
    · obtain ⟨b, off, rfl, hbl⟩ := Lay.sl_addr (unhide H) (by omega)
      obtain ⟨row, hc, hr⟩ := Lay.row_at (unhide H) hlt
      replace hr := hr.later hB
      have hr2 := hr
      obtain ⟨a0, d0, rfl, -⟩ := open_Center hr2
      have c0 : wr.cell? ⟨b, off + k, none⟩ = some (.slice a0 (xs[k]).vec.length d0) := (hB.cell (p := ⟨b, off + k, none⟩) hbl).trans (by have q1 : w.cell? ⟨b, off + k * 1 + 0, none⟩ = some (.slice a0 (xs[k]).vec.length d0) := hc 0 (by decide); rw [Nat.mul_one, Nat.add_zero] at q1; exact q1)
      have hrl : rows.flatten.length = k * 1 := by have := (Lay.subs_len hsub).1; rw [List.length_take, Nat.min_eq_left hk] at this; exact this
      rw [Nat.mul_one] at hrl
      have hsz := Nat.le_trans (Lay.sz_elem (A := Lay.tCenter) hlt) (unhide HN)
      have HT : Hid (xs.take (k + 1) = xs.take k ++ [xs[k]]) := List.take_succ_eq_append_getElem hlt
      have HB := hide hB
      have HR := hide hr
      have HO := hide hown
      have HS := hide hsub
      have HQ := hide hQ
      clear hB hr hc hown hsub hQ
      generalize hxk : xs[k] = x at *
      clear hxk
      go_wp2_with fail
      refine (to_Center _ x wr (unhide HR) hsz).mono ?_
      rintro e w2 ⟨cs2, rfl, O, hb⟩
      have o2 := own_below (unhide HO) hb
      replace HS := hide (Lay.subs_snoc (Lay.subs_ext (unhide HS) (ext_of_below hb nowhere) (fun _ _ _ h => h)) O (by omega) (by omega) (Nat.le_trans hhi hb.size))
      have hb2 := (unhide HB).trans (hb.mono (unhide HB).size)
      have hz := hb.size
      have orr := O.reads
      obtain ⟨a0z, d0z, rfl, -⟩ := open_Center orr
      clear hb HR HB HO O c0
      have hQ := unhide HQ
      have hl5 : (rows.flatten ++ Q).length = xs.length * 1 := o2.1
      obtain ⟨u0, g0⟩ : ∃ u, w2.cell? ⟨w.heap.size, k, none⟩ = some u := by
        rw [o2.cellAt (k) (by omega)]
        exact ⟨_, List.getElem?_eq_getElem (by omega)⟩
      have t0 := o2.frozenAt (k)
      have o3 := own_setAll o2 (k) [.slice a0z x.vec.length d0z]
      rw [show k = rows.flatten.length from hrl.symm, setFrom_app _ _ _ (by rw [hQ]; simp; have : 1 * 1 ≤ (xs.length - k) * 1 := Nat.mul_le_mul_right _ (by omega); omega), hrl] at o3
      have E : Ext (fun q => q = w.heap.size) w2 (setAll w2 w.heap.size (k) [.slice a0z x.vec.length d0z]) := ext_setAll _ (Ext.refl _ _) _ _ _ rfl
      replace HS := hide (Lay.subs_ext (unhide HS) E (fun q h1 h2 h3 => by omega))
      have HB := hide (below_setAll hb2 w.heap.size (k) [.slice a0z x.vec.length d0z] (Nat.le_refl _))
      have HZ : Hid ((setAll w2 w.heap.size (k) [.slice a0z x.vec.length d0z]).heap.size = w2.heap.size) := size_setAll _ _ _ _
      have HO : Hid ((setAll w2 w.heap.size (k) [.slice a0z x.vec.length d0z]).ownsRow w.heap.size 77 1 (.slice (some ⟨w.heap.size, 0, none⟩) xs.length xs.length) xs.length ((rows ++ [([.slice a0z x.vec.length d0z] : List Value)]).flatten ++ Q.drop 1)) := by
        show (setAll w2 w.heap.size (k) [.slice a0z x.vec.length d0z]).ownsRow w.heap.size 77 1 (.slice (some ⟨w.heap.size, 0, none⟩) xs.length xs.length) xs.length ((rows ++ [([.slice a0z x.vec.length d0z] : List Value)]).flatten ++ Q.drop 1)
        rw [List.flatten_append]
        simpa using o3
      have hl2 := (o2.lt w.heap.size rfl).2
      clear o3 o2 E hb2 hl5
      have hQ2 : Hid ((Q.drop 1).length = (xs.length - (k + 1)) * 1) := by
        show (Q.drop 1).length = (xs.length - (k + 1)) * 1
        rw [List.length_drop, hQ, show xs.length - k = xs.length - (k + 1) + 1 by omega, Nat.add_mul]
        omega
      clear hQ HQ
      go_wp2_with fail
      go_roundw
      case rel => exact ⟨k + 1, rows ++ [([.slice a0z x.vec.length d0z] : List Value)], Q.drop 1, w2.heap.size, by omega, by go_num, unhide HO, unhide hQ2, (by rw [unhide HT]; exact unhide HS), Nat.le_of_eq (unhide HZ).symm, by omega, unhide HB⟩
      case measure => simp [intOf]; omega
    · obtain rfl : k = xs.length := by omega
      have e0 : Q = [] := List.eq_nil_of_length_eq_zero (by rw [hQ]; simp)
      subst e0
      rw [List.append_nil] at hown
      rw [List.take_length] at hsub
      have HO := hide (Lay.subs_done (A := Lay.tCenter) hown hsub (by omega) hhi hbig)
      have HB := hide hB
      clear hown hsub hB
      go_wp2_with fail
      go_ret
      exact ⟨_, rfl, unhide HO, unhide HB⟩

end Go.Proofs.Ytjofcmdlcoganaa

namespace Go.Proofs.Ytjofcmdlcoganaa
open Go.RowKit

set_option maxRecDepth 100000 in
set_option maxHeartbeats 4000000 in
theorem lawx_MoveCenters (v0 : Value) (x0 : List DCenter) (v1 : Value) (x1 : List DItem) (y : DCentersResult) (w : World) (A0 : (Lay.sl Lay.tCenter).Reads w [v0] x0) (A1 : (Lay.sl Lay.tItem).Reads w [v1] x1) (NS : (Lay.sl Lay.tCenter).sz x0 + (Lay.sl Lay.tItem).sz x1 ≤ 1048576)
    (hS : ∀ (W : World) (v0 : Value) (v1 : Value), (Lay.sl Lay.tCenter).Reads W [v0] x0 → (Lay.sl Lay.tItem).Reads W [v1] x1 → Calls Try.prog 37 #[v0, v1] W fun e w' => ∃ cs, e = .returned (.agg cs.toArray) ∧ Lay.tCentersResult.Reads w' cs y ∧ Below W.heap.size W w')
    (hI : ∀ (W : World) (v0 : Value) (v1 : Value), (Lay.sl Lay.tCenter).Reads W [v0] x0 → (Lay.sl Lay.tItem).Reads W [v1] x1 → Calls Try.prog 15 #[v0, v1] W fun e w' => ∃ cs, e = .returned (.agg cs.toArray) ∧ Lay.tCentersResult.OwnIn w' cs y W.heap.size w'.heap.size ∧ Below W.heap.size W w') (hc : Lay.tCentersResult.vcnt y ≤ 100000000) :
    Calls Try.prog 7 #[v0, v1] w fun e w' => e = .returned (.bool true) ∧ Below w.heap.size w w' := by
  obtain ⟨ao0, cp0, rfl⟩ := open_sl A0
  obtain ⟨ao1, cp1, rfl⟩ := open_sl A1
  have HS := hide hS
  have HI := hide hI
  clear hS hI
  have HA0 := hide A0.liesIn
  clear A0
  have HA1 := hide A1.liesIn
  clear A1
  have N0 : (Lay.sl Lay.tCenter).sz x0 ≤ 1048576 := by omega
  have N1 : (Lay.sl Lay.tItem).sz x1 ≤ 1048576 := by omega
  have HN0 := hide N0
  have HN1 := hide N1
  clear N0 N1
  have HC := hide hc
  clear hc
  have HNS := hide NS
  clear NS
  have HB := hide (Below.refl w.heap.size w)
  go_enter Try.func7, Try.ntmps7
  go_wp2_with fail
  have hns := unhide HNS
  refine (sz_CenterS _ x0 (1048576) w (unhide HA0).reads (by omega)).mono ?_
  rintro e w1 ⟨rfl, hb⟩
  replace HA0 := hide ((unhide HA0).later hb)
  replace HA1 := hide ((unhide HA1).later hb)
  have Zw1 : w.heap.size ≤ w1.heap.size := hb.size
  replace HB := hide ((unhide HB).trans (hb.mono (by omega)))
  clear hb
  rw [szR_ok (by omega)]
  have hq0 : decide (((1048576 - (Lay.sl Lay.tCenter).sz x0 : Nat) : Int) < 0) = false := by simp
  clear hns
  go_wp2_with fail
  clear hq0
  have hns := unhide HNS
  refine (sz_ItemS _ x1 (1048576 - (Lay.sl Lay.tCenter).sz x0) w1 (unhide HA1).reads (by omega)).mono ?_
  rintro e w2 ⟨rfl, hb⟩
  replace HA0 := hide ((unhide HA0).later hb)
  replace HA1 := hide ((unhide HA1).later hb)
  have Zw2 : w1.heap.size ≤ w2.heap.size := hb.size
  replace HB := hide ((unhide HB).trans (hb.mono (by omega)))
  clear hb
  rw [szR_ok (by omega)]
  have hq1 : decide (((1048576 - (Lay.sl Lay.tCenter).sz x0 - (Lay.sl Lay.tItem).sz x1 : Nat) : Int) < 0) = false := by simp
  clear hns
  go_wp2_with fail
  clear hq1
  refine (to_CenterS _ x0 w2 (unhide HA0).reads (unhide HN0)).mono ?_
  rintro e w3 ⟨vc0, rfl, O, hb⟩
  replace HA0 := hide ((unhide HA0).later hb)
  replace HA1 := hide ((unhide HA1).later hb)
  have Zw3 : w2.heap.size ≤ w3.heap.size := hb.size
  replace HB := hide ((unhide HB).trans (hb.mono (by omega)))
  clear hb
  obtain ⟨aoc0, cpc0, rfl⟩ := open_sl O.reads
  have Hc0 := hide O
  clear O
  go_wp2_with fail
  refine (to_ItemS _ x1 w3 (unhide HA1).reads (unhide HN1)).mono ?_
  rintro e w4 ⟨vc1, rfl, O, hb⟩
  replace HA0 := hide ((unhide HA0).later hb)
  replace HA1 := hide ((unhide HA1).later hb)
  replace Hc0 := hide ((unhide Hc0).later hb)
  have Zw4 : w3.heap.size ≤ w4.heap.size := hb.size
  replace HB := hide ((unhide HB).trans (hb.mono (by omega)))
  clear hb
  obtain ⟨aoc1, cpc1, rfl⟩ := open_sl O.reads
  have Hc1 := hide O
  clear O
  go_wp2_with fail
  refine (unhide HS w4 _ _ (unhide Hc0).reads (unhide Hc1).reads).mono ?_
  rintro e w5 ⟨cs, rfl, O, hb⟩
  replace HA0 := hide ((unhide HA0).later hb)
  replace HA1 := hide ((unhide HA1).later hb)
  replace Hc0 := hide ((unhide Hc0).later hb)
  replace Hc1 := hide ((unhide Hc1).later hb)
  have Zw5 : w4.heap.size ≤ w5.heap.size := hb.size
  replace HB := hide ((unhide HB).trans (hb.mono (by omega)))
  clear hb
  obtain ⟨a1W, d1W, rfl, -⟩ := open_CentersResult O
  have HW := hide O.liesIn
  clear O
  have nb : Below w5.heap.size w5 (w5.alloc (.cells #[.int .i64 y.code, .slice a1W y.centers.length d1W] 30)) := (Below.refl _ _).alloc (Nat.le_refl _) _
  have YW : Hid (Box w5.heap.size #[.int .i64 y.code, .slice a1W y.centers.length d1W] 30 (w5.alloc (.cells #[.int .i64 y.code, .slice a1W y.centers.length d1W] 30)) w5.heap.size) := newBox (Nat.le_refl _)
  clear Hc0
  clear Hc1
  go_wp2_with fail
  generalize haw6 : w5.alloc (.cells #[.int .i64 y.code, .slice a1W y.centers.length d1W] 30) = w6 at *
  have Gw6 : w5.heap.size < w6.heap.size := by rw [← haw6]; simp
  clear haw6
  replace HA0 := hide ((unhide HA0).later nb)
  replace HA1 := hide ((unhide HA1).later nb)
  replace HW := hide ((unhide HW).later nb)
  have Zw6 : w5.heap.size ≤ w6.heap.size := nb.size
  replace HB := hide ((unhide HB).trans (nb.mono (by omega)))
  clear nb
  refine (to_CenterS _ x0 w6 (unhide HA0).reads (unhide HN0)).mono ?_
  rintro e w7 ⟨vx0, rfl, O, hb⟩
  replace HA0 := hide ((unhide HA0).later hb)
  replace HA1 := hide ((unhide HA1).later hb)
  replace HW := hide ((unhide HW).later hb)
  replace YW := hide ((unhide YW).keep hb)
  have Zw7 : w6.heap.size ≤ w7.heap.size := hb.size
  replace HB := hide ((unhide HB).trans (hb.mono (by omega)))
  clear hb
  obtain ⟨aox0, cpx0, rfl⟩ := open_sl O.reads
  have Hx0 := hide O
  clear O
  have l0YW := (unhide YW).at 0 _ rfl
  have l1YW := (unhide YW).at 1 _ rfl
  have ltYW : w5.heap.size < w7.heap.size := by omega
  simp only [List.getElem_toArray, List.getElem_cons_zero, List.getElem_cons_succ] at l0YW l1YW
  go_wp2_with fail
  clear l0YW l1YW ltYW
  refine (to_ItemS _ x1 w7 (unhide HA1).reads (unhide HN1)).mono ?_
  rintro e w8 ⟨vx1, rfl, O, hb⟩
  replace HA0 := hide ((unhide HA0).later hb)
  replace HA1 := hide ((unhide HA1).later hb)
  replace HW := hide ((unhide HW).later hb)
  replace YW := hide ((unhide YW).keep hb)
  replace Hx0 := hide ((unhide Hx0).later hb)
  have Zw8 : w7.heap.size ≤ w8.heap.size := hb.size
  replace HB := hide ((unhide HB).trans (hb.mono (by omega)))
  clear hb
  obtain ⟨aox1, cpx1, rfl⟩ := open_sl O.reads
  have Hx1 := hide O
  clear O
  have l0YW := (unhide YW).at 0 _ rfl
  have l1YW := (unhide YW).at 1 _ rfl
  have ltYW : w5.heap.size < w8.heap.size := by omega
  simp only [List.getElem_toArray, List.getElem_cons_zero, List.getElem_cons_succ] at l0YW l1YW
  go_wp2_with fail
  clear l0YW l1YW ltYW
  refine (unhide HI w8 _ _ (unhide Hx0).reads (unhide Hx1).reads).mono ?_
  rintro e w9 ⟨cs, rfl, O, hb⟩
  replace HA0 := hide ((unhide HA0).later hb)
  replace HA1 := hide ((unhide HA1).later hb)
  replace HW := hide ((unhide HW).later hb)
  replace YW := hide ((unhide YW).keep hb)
  replace Hx0 := hide ((unhide Hx0).later hb)
  replace Hx1 := hide ((unhide Hx1).later hb)
  have Zw9 : w8.heap.size ≤ w9.heap.size := hb.size
  replace HB := hide ((unhide HB).trans (hb.mono (by omega)))
  clear hb
  obtain ⟨a1G, d1G, rfl, -⟩ := open_CentersResult O.reads
  have HG := hide O
  clear O
  have nb : Below w9.heap.size w9 (w9.alloc (.cells #[.int .i64 y.code, .slice a1G y.centers.length d1G] 30)) := (Below.refl _ _).alloc (Nat.le_refl _) _
  have YG : Hid (Box w9.heap.size #[.int .i64 y.code, .slice a1G y.centers.length d1G] 30 (w9.alloc (.cells #[.int .i64 y.code, .slice a1G y.centers.length d1G] 30)) w9.heap.size) := newBox (Nat.le_refl _)
  have l0YW := (unhide YW).at 0 _ rfl
  have l1YW := (unhide YW).at 1 _ rfl
  have ltYW : w5.heap.size < w9.heap.size := by omega
  simp only [List.getElem_toArray, List.getElem_cons_zero, List.getElem_cons_succ] at l0YW l1YW
  go_wp2_with fail
  clear l0YW l1YW ltYW
  generalize haw10 : w9.alloc (.cells #[.int .i64 y.code, .slice a1G y.centers.length d1G] 30) = w10 at *
  have Gw10 : w9.heap.size < w10.heap.size := by rw [← haw10]; simp
  clear haw10
  replace HA0 := hide ((unhide HA0).later nb)
  replace HA1 := hide ((unhide HA1).later nb)
  replace HW := hide ((unhide HW).later nb)
  replace YW := hide ((unhide YW).keep nb)
  replace Hx0 := hide ((unhide Hx0).later nb)
  replace Hx1 := hide ((unhide Hx1).later nb)
  replace HG := hide ((unhide HG).later nb)
  have Zw10 : w9.heap.size ≤ w10.heap.size := nb.size
  replace HB := hide ((unhide HB).trans (nb.mono (by omega)))
  clear nb
  refine (eq_CentersResult _ _ y w10 (unhide HG).reads (unhide HW).reads).mono ?_
  rintro e w11 ⟨rfl, hb⟩
  replace HA0 := hide ((unhide HA0).later hb)
  replace HA1 := hide ((unhide HA1).later hb)
  replace HW := hide ((unhide HW).later hb)
  replace YW := hide ((unhide YW).keep hb)
  replace Hx0 := hide ((unhide Hx0).later hb)
  replace Hx1 := hide ((unhide Hx1).later hb)
  replace HG := hide ((unhide HG).later hb)
  replace YG := hide ((unhide YG).keep hb)
  have Zw11 : w10.heap.size ≤ w11.heap.size := hb.size
  replace HB := hide ((unhide HB).trans (hb.mono (by omega)))
  clear hb
  have l0YW := (unhide YW).at 0 _ rfl
  have l1YW := (unhide YW).at 1 _ rfl
  have ltYW : w5.heap.size < w11.heap.size := by omega
  have l0YG := (unhide YG).at 0 _ rfl
  have l1YG := (unhide YG).at 1 _ rfl
  have ltYG : w9.heap.size < w11.heap.size := by omega
  simp only [List.getElem_toArray, List.getElem_cons_zero, List.getElem_cons_succ] at l0YW l1YW l0YG l1YG
  go_wp2_with fail
  clear l0YW l1YW ltYW l0YG l1YG ltYG
  refine (to_CenterS _ x0 w11 (unhide HA0).reads (unhide HN0)).mono ?_
  rintro e w12 ⟨vd0, rfl, O, hb⟩
  replace HA0 := hide ((unhide HA0).later hb)
  replace HA1 := hide ((unhide HA1).later hb)
  replace HW := hide ((unhide HW).later hb)
  replace YW := hide ((unhide YW).keep hb)
  replace Hx0 := hide ((unhide Hx0).later hb)
  replace Hx1 := hide ((unhide Hx1).later hb)
  replace HG := hide ((unhide HG).later hb)
  replace YG := hide ((unhide YG).keep hb)
  have Zw12 : w11.heap.size ≤ w12.heap.size := hb.size
  replace HB := hide ((unhide HB).trans (hb.mono (by omega)))
  clear hb
  obtain ⟨aod0, cpd0, rfl⟩ := open_sl O.reads
  have Hd0 := hide O
  clear O
  have l0YW := (unhide YW).at 0 _ rfl
  have l1YW := (unhide YW).at 1 _ rfl
  have ltYW : w5.heap.size < w12.heap.size := by omega
  have l0YG := (unhide YG).at 0 _ rfl
  have l1YG := (unhide YG).at 1 _ rfl
  have ltYG : w9.heap.size < w12.heap.size := by omega
  simp only [List.getElem_toArray, List.getElem_cons_zero, List.getElem_cons_succ] at l0YW l1YW l0YG l1YG
  go_wp2_with fail
  clear l0YW l1YW ltYW l0YG l1YG ltYG
  refine (eq_CenterS _ _ x0 w12 (unhide Hx0).reads (unhide Hd0).reads).mono ?_
  rintro e w13 ⟨rfl, hb⟩
  replace HA0 := hide ((unhide HA0).later hb)
  replace HA1 := hide ((unhide HA1).later hb)
  replace HW := hide ((unhide HW).later hb)
  replace YW := hide ((unhide YW).keep hb)
  replace Hx0 := hide ((unhide Hx0).later hb)
  replace Hx1 := hide ((unhide Hx1).later hb)
  replace HG := hide ((unhide HG).later hb)
  replace YG := hide ((unhide YG).keep hb)
  replace Hd0 := hide ((unhide Hd0).later hb)
  have Zw13 : w12.heap.size ≤ w13.heap.size := hb.size
  replace HB := hide ((unhide HB).trans (hb.mono (by omega)))
  clear hb
  clear Hd0
  have l0YW := (unhide YW).at 0 _ rfl
  have l1YW := (unhide YW).at 1 _ rfl
  have ltYW : w5.heap.size < w13.heap.size := by omega
  have l0YG := (unhide YG).at 0 _ rfl
  have l1YG := (unhide YG).at 1 _ rfl
  have ltYG : w9.heap.size < w13.heap.size := by omega
  simp only [List.getElem_toArray, List.getElem_cons_zero, List.getElem_cons_succ] at l0YW l1YW l0YG l1YG
  go_wp2_with fail
  clear l0YW l1YW ltYW l0YG l1YG ltYG
  refine (to_ItemS _ x1 w13 (unhide HA1).reads (unhide HN1)).mono ?_
  rintro e w14 ⟨vd1, rfl, O, hb⟩
  replace HA0 := hide ((unhide HA0).later hb)
  replace HA1 := hide ((unhide HA1).later hb)
  replace HW := hide ((unhide HW).later hb)
  replace YW := hide ((unhide YW).keep hb)
  replace Hx0 := hide ((unhide Hx0).later hb)
  replace Hx1 := hide ((unhide Hx1).later hb)
  replace HG := hide ((unhide HG).later hb)
  replace YG := hide ((unhide YG).keep hb)
  have Zw14 : w13.heap.size ≤ w14.heap.size := hb.size
  replace HB := hide ((unhide HB).trans (hb.mono (by omega)))
  clear hb
  obtain ⟨aod1, cpd1, rfl⟩ := open_sl O.reads
  have Hd1 := hide O
  clear O
  have l0YW := (unhide YW).at 0 _ rfl
  have l1YW := (unhide YW).at 1 _ rfl
  have ltYW : w5.heap.size < w14.heap.size := by omega
  have l0YG := (unhide YG).at 0 _ rfl
  have l1YG := (unhide YG).at 1 _ rfl
  have ltYG : w9.heap.size < w14.heap.size := by omega
  simp only [List.getElem_toArray, List.getElem_cons_zero, List.getElem_cons_succ] at l0YW l1YW l0YG l1YG
  go_wp2_with fail
  clear l0YW l1YW ltYW l0YG l1YG ltYG
  refine (eq_ItemS _ _ x1 w14 (unhide Hx1).reads (unhide Hd1).reads).mono ?_
  rintro e w15 ⟨rfl, hb⟩
  replace HA0 := hide ((unhide HA0).later hb)
  replace HA1 := hide ((unhide HA1).later hb)
  replace HW := hide ((unhide HW).later hb)
  replace YW := hide ((unhide YW).keep hb)
  replace Hx0 := hide ((unhide Hx0).later hb)
  replace Hx1 := hide ((unhide Hx1).later hb)
  replace HG := hide ((unhide HG).later hb)
  replace YG := hide ((unhide YG).keep hb)
  replace Hd1 := hide ((unhide Hd1).later hb)
  have Zw15 : w14.heap.size ≤ w15.heap.size := hb.size
  replace HB := hide ((unhide HB).trans (hb.mono (by omega)))
  clear hb
  clear Hd1
  have l0YW := (unhide YW).at 0 _ rfl
  have l1YW := (unhide YW).at 1 _ rfl
  have ltYW : w5.heap.size < w15.heap.size := by omega
  have l0YG := (unhide YG).at 0 _ rfl
  have l1YG := (unhide YG).at 1 _ rfl
  have ltYG : w9.heap.size < w15.heap.size := by omega
  simp only [List.getElem_toArray, List.getElem_cons_zero, List.getElem_cons_succ] at l0YW l1YW l0YG l1YG
  go_wp2_with fail
  clear l0YW l1YW ltYW l0YG l1YG ltYG
  obtain ⟨bl, O, hbl⟩ := unhide Hx0
  clear Hx0
  have HCx0 := few_bound (A := (Lay.sl Lay.tCenter)) (few_sl (few_via (few_sl few_int))) (unhide HN0) (by omega)
  refine (mark_CenterS _ x0 bl (1) w15 O (by omega) (by omega)).mono ?_
  rintro e w16 ⟨rfl, -, E⟩
  replace E := E.mono (S' := within w6.heap.size w7.heap.size) fun b _ hb => hbl b hb
  clear hbl O
  have zlo : w.heap.size ≤ w6.heap.size ∧ w7.heap.size ≤ w15.heap.size := by omega
  replace HA0 := hide ((unhide HA0).ext E (within_out (by omega)))
  replace HA1 := hide ((unhide HA1).ext E (within_out (by omega)))
  replace HW := hide ((unhide HW).ext E (within_out (by omega)))
  replace YW := hide ((unhide YW).ext E (fun q => by simp only [within] at q; omega))
  replace Hx1 := hide ((unhide Hx1).ext E (within_out (by omega)))
  replace HG := hide ((unhide HG).ext E (within_out (by omega)))
  replace YG := hide ((unhide YG).ext E (fun q => by simp only [within] at q; omega))
  have Zw16 : w15.heap.size ≤ w16.heap.size := E.size
  replace HB := hide ((unhide HB).trans (E.below (by omega) (fun k h q => by simp only [within] at q; omega)))
  clear E
  clear zlo
  have l0YW := (unhide YW).at 0 _ rfl
  have l1YW := (unhide YW).at 1 _ rfl
  have ltYW : w5.heap.size < w16.heap.size := by omega
  have l0YG := (unhide YG).at 0 _ rfl
  have l1YG := (unhide YG).at 1 _ rfl
  have ltYG : w9.heap.size < w16.heap.size := by omega
  simp only [List.getElem_toArray, List.getElem_cons_zero, List.getElem_cons_succ] at l0YW l1YW l0YG l1YG
  go_wp2_with fail
  clear l0YW l1YW ltYW l0YG l1YG ltYG
  obtain ⟨bl, O, hbl⟩ := unhide Hx1
  clear Hx1
  have HCx1 := few_bound (A := (Lay.sl Lay.tItem)) (few_sl (few_via (few_pair few_int (few_sl few_int)))) (unhide HN1) (by omega)
  refine (mark_ItemS _ x1 bl (1 + ((Lay.sl Lay.tCenter).vcnt x0 : Int)) w16 O (by omega) (by omega)).mono ?_
  rintro e w17 ⟨rfl, -, E⟩
  replace E := E.mono (S' := within w7.heap.size w8.heap.size) fun b _ hb => hbl b hb
  clear hbl O
  have zlo : w.heap.size ≤ w7.heap.size ∧ w8.heap.size ≤ w16.heap.size := by omega
  replace HA0 := hide ((unhide HA0).ext E (within_out (by omega)))
  replace HA1 := hide ((unhide HA1).ext E (within_out (by omega)))
  replace HW := hide ((unhide HW).ext E (within_out (by omega)))
  replace YW := hide ((unhide YW).ext E (fun q => by simp only [within] at q; omega))
  replace HG := hide ((unhide HG).ext E (within_out (by omega)))
  replace YG := hide ((unhide YG).ext E (fun q => by simp only [within] at q; omega))
  have Zw17 : w16.heap.size ≤ w17.heap.size := E.size
  replace HB := hide ((unhide HB).trans (E.below (by omega) (fun k h q => by simp only [within] at q; omega)))
  clear E
  clear zlo
  obtain ⟨mk, hmk⟩ : ∃ mk : Int, mk = 1 + ((Lay.sl Lay.tCenter).vcnt x0 : Int) + ((Lay.sl Lay.tItem).vcnt x1 : Int) := ⟨_, rfl⟩
  rw [← hmk]
  have hm3 : decide (mk < 0) = false := decide_eq_false (by omega)
  clear hmk HCx0 HCx1
  have l0YW := (unhide YW).at 0 _ rfl
  have l1YW := (unhide YW).at 1 _ rfl
  have ltYW : w5.heap.size < w17.heap.size := by omega
  have l0YG := (unhide YG).at 0 _ rfl
  have l1YG := (unhide YG).at 1 _ rfl
  have ltYG : w9.heap.size < w17.heap.size := by omega
  simp only [List.getElem_toArray, List.getElem_cons_zero, List.getElem_cons_succ] at l0YW l1YW l0YG l1YG
  go_wp2_with fail
  clear l0YW l1YW ltYW l0YG l1YG ltYG
  refine (eq_CentersResult _ _ y w17 (unhide HG).reads (unhide HW).reads).mono ?_
  rintro e w18 ⟨rfl, hb⟩
  replace HA0 := hide ((unhide HA0).later hb)
  replace HA1 := hide ((unhide HA1).later hb)
  replace HW := hide ((unhide HW).later hb)
  replace YW := hide ((unhide YW).keep hb)
  replace HG := hide ((unhide HG).later hb)
  replace YG := hide ((unhide YG).keep hb)
  have Zw18 : w17.heap.size ≤ w18.heap.size := hb.size
  replace HB := hide ((unhide HB).trans (hb.mono (by omega)))
  clear hb
  clear hm3
  have l0YW := (unhide YW).at 0 _ rfl
  have l1YW := (unhide YW).at 1 _ rfl
  have ltYW : w5.heap.size < w18.heap.size := by omega
  have l0YG := (unhide YG).at 0 _ rfl
  have l1YG := (unhide YG).at 1 _ rfl
  have ltYG : w9.heap.size < w18.heap.size := by omega
  simp only [List.getElem_toArray, List.getElem_cons_zero, List.getElem_cons_succ] at l0YW l1YW l0YG l1YG
  go_wp2_with fail
  clear l0YW l1YW ltYW l0YG l1YG ltYG
  obtain ⟨bl, O, hbl⟩ := unhide HG
  clear HG
  have hcy := unhide HC
  refine (mark_CentersResult _ y bl 1 w18 O (by omega) (by omega)).mono ?_
  rintro e w19 ⟨rfl, O2, E⟩
  replace E := E.mono (S' := within w8.heap.size w9.heap.size) fun b _ hb => hbl b hb
  have HG : Hid (Lay.tCentersResult.OwnIn w19 _ (Lay.tCentersResult.mkv 1 y) w8.heap.size w9.heap.size) := ⟨bl, O2, hbl⟩
  clear hbl O O2
  have zlo : w.heap.size ≤ w8.heap.size ∧ w9.heap.size ≤ w18.heap.size := by omega
  replace HA0 := hide ((unhide HA0).ext E (within_out (by omega)))
  replace HA1 := hide ((unhide HA1).ext E (within_out (by omega)))
  replace HW := hide ((unhide HW).ext E (within_out (by omega)))
  replace YW := hide ((unhide YW).ext E (fun q => by simp only [within] at q; omega))
  replace YG := hide ((unhide YG).ext E (fun q => by simp only [within] at q; omega))
  have Zw19 : w18.heap.size ≤ w19.heap.size := E.size
  replace HB := hide ((unhide HB).trans (E.below (by omega) (fun k h q => by simp only [within] at q; omega)))
  clear E
  clear zlo
  have hq0 : decide (1 + (Lay.tCentersResult.vcnt y : Int) < 0) = false := decide_eq_false (by omega)
  have hq1 : ((1 + (Lay.tCentersResult.vcnt y : Int)) != (1 + (Lay.tCentersResult.vcnt y : Int))) = false := by simp
  clear hcy
  have l0YW := (unhide YW).at 0 _ rfl
  have l1YW := (unhide YW).at 1 _ rfl
  have ltYW : w5.heap.size < w19.heap.size := by omega
  have l0YG := (unhide YG).at 0 _ rfl
  have l1YG := (unhide YG).at 1 _ rfl
  have ltYG : w9.heap.size < w19.heap.size := by omega
  simp only [List.getElem_toArray, List.getElem_cons_zero, List.getElem_cons_succ] at l0YW l1YW l0YG l1YG
  go_wp2_with fail
  clear l0YW l1YW ltYW l0YG l1YG ltYG
  refine (held_CentersResult _ y 1 w19 (unhide HG).reads (by omega) (by have := unhide HC; omega)).mono ?_
  rintro e w20 ⟨rfl, hb⟩
  replace HA0 := hide ((unhide HA0).later hb)
  replace HA1 := hide ((unhide HA1).later hb)
  replace HW := hide ((unhide HW).later hb)
  replace YW := hide ((unhide YW).keep hb)
  replace YG := hide ((unhide YG).keep hb)
  replace HG := hide ((unhide HG).later hb)
  have Zw20 : w19.heap.size ≤ w20.heap.size := hb.size
  replace HB := hide ((unhide HB).trans (hb.mono (by omega)))
  clear hb
  have l0YW := (unhide YW).at 0 _ rfl
  have l1YW := (unhide YW).at 1 _ rfl
  have ltYW : w5.heap.size < w20.heap.size := by omega
  have l0YG := (unhide YG).at 0 _ rfl
  have l1YG := (unhide YG).at 1 _ rfl
  have ltYG : w9.heap.size < w20.heap.size := by omega
  simp only [List.getElem_toArray, List.getElem_cons_zero, List.getElem_cons_succ] at l0YW l1YW l0YG l1YG
  go_wp2_with fail
  clear l0YW l1YW ltYW l0YG l1YG ltYG
  refine (to_CenterS _ x0 w20 (unhide HA0).reads (unhide HN0)).mono ?_
  rintro e w21 ⟨vf0, rfl, O, hb⟩
  replace HA0 := hide ((unhide HA0).later hb)
  replace HA1 := hide ((unhide HA1).later hb)
  replace HW := hide ((unhide HW).later hb)
  replace YW := hide ((unhide YW).keep hb)
  replace YG := hide ((unhide YG).keep hb)
  replace HG := hide ((unhide HG).later hb)
  have Zw21 : w20.heap.size ≤ w21.heap.size := hb.size
  replace HB := hide ((unhide HB).trans (hb.mono (by omega)))
  clear hb
  obtain ⟨aof0, cpf0, rfl⟩ := open_sl O.reads
  have Hf0 := hide O
  clear O
  have l0YW := (unhide YW).at 0 _ rfl
  have l1YW := (unhide YW).at 1 _ rfl
  have ltYW : w5.heap.size < w21.heap.size := by omega
  have l0YG := (unhide YG).at 0 _ rfl
  have l1YG := (unhide YG).at 1 _ rfl
  have ltYG : w9.heap.size < w21.heap.size := by omega
  simp only [List.getElem_toArray, List.getElem_cons_zero, List.getElem_cons_succ] at l0YW l1YW l0YG l1YG
  go_wp2_with fail
  clear l0YW l1YW ltYW l0YG l1YG ltYG
  refine (to_ItemS _ x1 w21 (unhide HA1).reads (unhide HN1)).mono ?_
  rintro e w22 ⟨vf1, rfl, O, hb⟩
  replace HA0 := hide ((unhide HA0).later hb)
  replace HA1 := hide ((unhide HA1).later hb)
  replace HW := hide ((unhide HW).later hb)
  replace YW := hide ((unhide YW).keep hb)
  replace YG := hide ((unhide YG).keep hb)
  replace HG := hide ((unhide HG).later hb)
  replace Hf0 := hide ((unhide Hf0).later hb)
  have Zw22 : w21.heap.size ≤ w22.heap.size := hb.size
  replace HB := hide ((unhide HB).trans (hb.mono (by omega)))
  clear hb
  obtain ⟨aof1, cpf1, rfl⟩ := open_sl O.reads
  have Hf1 := hide O
  clear O
  have l0YW := (unhide YW).at 0 _ rfl
  have l1YW := (unhide YW).at 1 _ rfl
  have ltYW : w5.heap.size < w22.heap.size := by omega
  have l0YG := (unhide YG).at 0 _ rfl
  have l1YG := (unhide YG).at 1 _ rfl
  have ltYG : w9.heap.size < w22.heap.size := by omega
  simp only [List.getElem_toArray, List.getElem_cons_zero, List.getElem_cons_succ] at l0YW l1YW l0YG l1YG
  go_wp2_with fail
  clear l0YW l1YW ltYW l0YG l1YG ltYG
  refine (unhide HI w22 _ _ (unhide Hf0).reads (unhide Hf1).reads).mono ?_
  rintro e w23 ⟨cs, rfl, O, hb⟩
  replace HA0 := hide ((unhide HA0).later hb)
  replace HA1 := hide ((unhide HA1).later hb)
  replace HW := hide ((unhide HW).later hb)
  replace YW := hide ((unhide YW).keep hb)
  replace YG := hide ((unhide YG).keep hb)
  replace HG := hide ((unhide HG).later hb)
  replace Hf0 := hide ((unhide Hf0).later hb)
  replace Hf1 := hide ((unhide Hf1).later hb)
  have Zw23 : w22.heap.size ≤ w23.heap.size := hb.size
  replace HB := hide ((unhide HB).trans (hb.mono (by omega)))
  clear hb
  obtain ⟨a1K, d1K, rfl, -⟩ := open_CentersResult O.reads
  have HK := hide O
  clear O
  have nb : Below w23.heap.size w23 (w23.alloc (.cells #[.int .i64 y.code, .slice a1K y.centers.length d1K] 30)) := (Below.refl _ _).alloc (Nat.le_refl _) _
  have YK : Hid (Box w23.heap.size #[.int .i64 y.code, .slice a1K y.centers.length d1K] 30 (w23.alloc (.cells #[.int .i64 y.code, .slice a1K y.centers.length d1K] 30)) w23.heap.size) := newBox (Nat.le_refl _)
  clear Hf0
  clear Hf1
  have l0YW := (unhide YW).at 0 _ rfl
  have l1YW := (unhide YW).at 1 _ rfl
  have ltYW : w5.heap.size < w23.heap.size := by omega
  have l0YG := (unhide YG).at 0 _ rfl
  have l1YG := (unhide YG).at 1 _ rfl
  have ltYG : w9.heap.size < w23.heap.size := by omega
  simp only [List.getElem_toArray, List.getElem_cons_zero, List.getElem_cons_succ] at l0YW l1YW l0YG l1YG
  go_wp2_with fail
  clear l0YW l1YW ltYW l0YG l1YG ltYG
  generalize haw24 : w23.alloc (.cells #[.int .i64 y.code, .slice a1K y.centers.length d1K] 30) = w24 at *
  have Gw24 : w23.heap.size < w24.heap.size := by rw [← haw24]; simp
  clear haw24
  replace HA0 := hide ((unhide HA0).later nb)
  replace HA1 := hide ((unhide HA1).later nb)
  replace HW := hide ((unhide HW).later nb)
  replace YW := hide ((unhide YW).keep nb)
  replace YG := hide ((unhide YG).keep nb)
  replace HG := hide ((unhide HG).later nb)
  replace HK := hide ((unhide HK).later nb)
  have Zw24 : w23.heap.size ≤ w24.heap.size := nb.size
  replace HB := hide ((unhide HB).trans (nb.mono (by omega)))
  clear nb
  refine (eq_CentersResult _ _ y w24 (unhide HK).reads (unhide HW).reads).mono ?_
  rintro e w25 ⟨rfl, hb⟩
  replace HA0 := hide ((unhide HA0).later hb)
  replace HA1 := hide ((unhide HA1).later hb)
  replace HW := hide ((unhide HW).later hb)
  replace YW := hide ((unhide YW).keep hb)
  replace YG := hide ((unhide YG).keep hb)
  replace HG := hide ((unhide HG).later hb)
  replace HK := hide ((unhide HK).later hb)
  replace YK := hide ((unhide YK).keep hb)
  have Zw25 : w24.heap.size ≤ w25.heap.size := hb.size
  replace HB := hide ((unhide HB).trans (hb.mono (by omega)))
  clear hb
  clear HK
  clear YK
  have l0YW := (unhide YW).at 0 _ rfl
  have l1YW := (unhide YW).at 1 _ rfl
  have ltYW : w5.heap.size < w25.heap.size := by omega
  have l0YG := (unhide YG).at 0 _ rfl
  have l1YG := (unhide YG).at 1 _ rfl
  have ltYG : w9.heap.size < w25.heap.size := by omega
  simp only [List.getElem_toArray, List.getElem_cons_zero, List.getElem_cons_succ] at l0YW l1YW l0YG l1YG
  go_wp2_with fail
  clear l0YW l1YW ltYW l0YG l1YG ltYG
  refine (held_CentersResult _ y 1 w25 (unhide HG).reads (by omega) (by have := unhide HC; omega)).mono ?_
  rintro e w26 ⟨rfl, hb⟩
  replace HA0 := hide ((unhide HA0).later hb)
  replace HA1 := hide ((unhide HA1).later hb)
  replace HW := hide ((unhide HW).later hb)
  replace YW := hide ((unhide YW).keep hb)
  replace YG := hide ((unhide YG).keep hb)
  replace HG := hide ((unhide HG).later hb)
  have Zw26 : w25.heap.size ≤ w26.heap.size := hb.size
  replace HB := hide ((unhide HB).trans (hb.mono (by omega)))
  clear hb
  have l0YW := (unhide YW).at 0 _ rfl
  have l1YW := (unhide YW).at 1 _ rfl
  have ltYW : w5.heap.size < w26.heap.size := by omega
  have l0YG := (unhide YG).at 0 _ rfl
  have l1YG := (unhide YG).at 1 _ rfl
  have ltYG : w9.heap.size < w26.heap.size := by omega
  simp only [List.getElem_toArray, List.getElem_cons_zero, List.getElem_cons_succ] at l0YW l1YW l0YG l1YG
  go_wp2_with fail
  clear l0YW l1YW ltYW l0YG l1YG ltYG
  go_ret
  exact ⟨rfl, unhide HB⟩


set_option maxRecDepth 10000 in
set_option maxHeartbeats 1000000 in
theorem lawover_MoveCenters (v0 : Value) (x0 : List DCenter) (v1 : Value) (x1 : List DItem) (w : World) (A0 : (Lay.sl Lay.tCenter).Reads w [v0] x0) (A1 : (Lay.sl Lay.tItem).Reads w [v1] x1) (NS : 1048576 < (Lay.sl Lay.tCenter).sz x0 + (Lay.sl Lay.tItem).sz x1) :
    Calls Try.prog 7 #[v0, v1] w fun e w' => e = .returned (.bool true) ∧ Below w.heap.size w w' := by
  obtain ⟨ao0, cp0, rfl⟩ := open_sl A0
  obtain ⟨ao1, cp1, rfl⟩ := open_sl A1
  have HA0 := hide A0.liesIn
  clear A0
  have HA1 := hide A1.liesIn
  clear A1
  have HB := hide (Below.refl w.heap.size w)
  go_enter Try.func7, Try.ntmps7
  go_wp2_with fail
  refine (sz_CenterS _ x0 (1048576) w (unhide HA0).reads (by omega)).mono ?_
  rintro e w1 ⟨rfl, hb⟩
  replace HA0 := hide ((unhide HA0).later hb)
  replace HA1 := hide ((unhide HA1).later hb)
  have Zw1 : w.heap.size ≤ w1.heap.size := hb.size
  replace HB := hide ((unhide HB).trans (hb.mono (by omega)))
  clear hb
  by_cases hs0 : (Lay.sl Lay.tCenter).sz x0 ≤ 1048576
  · rw [szR_ok hs0]
    have hq0 : decide (((1048576 - (Lay.sl Lay.tCenter).sz x0 : Nat) : Int) < 0) = false := by simp
    go_wp2_with fail
    clear hq0
    refine (sz_ItemS _ x1 (1048576 - (Lay.sl Lay.tCenter).sz x0) w1 (unhide HA1).reads (by omega)).mono ?_
    rintro e w2 ⟨rfl, hb⟩
    replace HA0 := hide ((unhide HA0).later hb)
    replace HA1 := hide ((unhide HA1).later hb)
    have Zw2 : w1.heap.size ≤ w2.heap.size := hb.size
    replace HB := hide ((unhide HB).trans (hb.mono (by omega)))
    clear hb
    rw [szR_many (by omega)]
    go_wp2_with fail
    go_ret
    exact ⟨rfl, unhide HB⟩
  · rw [szR_many (by omega)]
    go_wp2_with fail
    go_ret
    exact ⟨rfl, unhide HB⟩

end Go.Proofs.Ytjofcmdlcoganaa

namespace Go.Proofs.Ytjofcmdlcoganaa
open Go.RowKit

set_option maxRecDepth 10000 in
theorem implAsk6 (v : Value) (cs : List DCenter) (vx : Value) (xs : List DItem) (w : World) (hcs : (Lay.sl Lay.tCenter).Reads w [v] cs) (h : (Lay.sl Lay.tItem).Reads w [vx] xs) :
    Calls Try.prog 55 #[v, vx] w fun e w' => e = .returned (.int .i64 (askFault cs xs)) ∧ Below w.heap.size w w' := by
  have HX := hide h
  have L := hide (implCen v cs w hcs)
  obtain ⟨ao, cap, rfl⟩ := open_sl hcs
  obtain ⟨ao2, cap2, rfl⟩ := open_sl h
  clear hcs h
  go_enter Try.func55, Try.ntmps55
  go_wp2_with fail
  refine (unhide L).mono ?_
  rintro e w1 ⟨rfl, hb⟩
  have L2 := hide (implTab _ xs w1 ((unhide HX).later hb))
  have HB := hide hb
  clear hb L HX
  by_cases hf : centersFault cs = 0
  · have HG : Hid (askFault cs xs = tableFault xs) := if_pos hf
    rw [hf]
    clear hf
    go_wp2_with fail
    refine (unhide L2).mono ?_
    rintro e w2 ⟨rfl, hb2⟩
    have HB2 := hide ((unhide HB).trans (hb2.mono (unhide HB).size))
    clear hb2 L2 HB
    go_wp2_with fail
    go_ret
    exact ⟨by rw [unhide HG]; rfl, unhide HB2⟩
  · have HG : Hid (askFault cs xs = centersFault cs) := if_neg hf
    have hd : (centersFault cs != 0) = true := by simpa using hf
    clear hf L2
    go_wp2_with fail
    go_ret
    exact ⟨by rw [unhide HG]; rfl, unhide HB⟩

end Go.Proofs.Ytjofcmdlcoganaa

namespace Go.Proofs.Ytjofcmdlcoganaa
open Go.RowKit

set_option maxRecDepth 10000 in
set_option maxHeartbeats 1000000 in
theorem implMoveOf (v : Value) (cs : List DCenter) (vx : Value) (xs : List DItem) (w : World) (hcs : (Lay.sl Lay.tCenter).Reads w [v] cs) (h : (Lay.sl Lay.tItem).Reads w [vx] xs) :
    Calls Try.prog 15 #[v, vx] w fun e w' => ∃ cs', e = .returned (.agg cs'.toArray) ∧ Lay.tCentersResult.OwnIn w' cs' (movedR cs xs) w.heap.size w'.heap.size ∧ Below w.heap.size w w' := by
  have HB0 : Below w.heap.size w (w.alloc (.cells #[.int .i64 0, .slice none 0 0] 30)) := (Below.refl _ _).alloc (Nat.le_refl _) _
  have bR : Box w.heap.size #[.int .i64 0, .slice none 0 0] 30 (w.alloc (.cells #[.int .i64 0, .slice none 0 0] 30)) w.heap.size := newBox (Nat.le_refl _)
  have hc1 := hcs.later HB0
  have hx1 := h.later HB0
  obtain ⟨ao, cap, rfl⟩ := open_sl hcs
  obtain ⟨ao2, cap2, rfl⟩ := open_sl h
  clear hcs h
  go_enter Try.func15, Try.ntmps15
  go_wp2_with fail
  generalize w.alloc (.cells #[.int .i64 0, .slice none 0 0] 30) = W0 at *
  refine (implAsk6 _ cs _ xs W0 hc1 hx1).mono ?_
  rintro e w1 ⟨rfl, hb⟩
  have HC := hide (hc1.later hb)
  have HX := hide (hx1.later hb)
  replace bR := bR.keep hb
  replace HB0 := HB0.trans (hb.mono HB0.size)
  have z0 : w1.cell? ⟨w.heap.size, 0, none⟩ = some (.int .i64 0) := bR.at 0 _ rfl
  have z1 : w1.cell? ⟨w.heap.size, 1, none⟩ = some (.slice none 0 0) := bR.at 1 _ rfl
  have f0 := bR.soft 0
  have f1 := bR.soft 1
  have l0 := bR.lt
  have HB := hide HB0
  have HR := hide bR
  clear hb HB0 bR hc1 hx1
  by_cases hf : askFault cs xs = 0
  · have HG : Hid (movedR cs xs = ⟨0, moved cs xs⟩) := if_pos hf
    obtain ⟨hfc, hft⟩ := askFault_zero hf
    rw [hf]
    have L := hide (movedC _ cs _ xs w1 (unhide HC) (unhide HX) hfc hft)
    have hw1 := l0
    clear hf hfc hft HC HX z0 z1 f0 f1 l0
    go_wp2_with fail
    refine (unhide L).mono ?_
    rintro e w2 ⟨v2, rfl, hO, hb⟩
    have bR := (unhide HR).keep hb
    have z0 : w2.cell? ⟨w.heap.size, 0, none⟩ = some (.int .i64 0) := bR.at 0 _ rfl
    have z1 : w2.cell? ⟨w.heap.size, 1, none⟩ = some (.slice none 0 0) := bR.at 1 _ rfl
    have f0 := bR.soft 0
    have f1 := bR.soft 1
    have l0 := bR.lt
    have HB9 := hide ((unhide HB).trans (hb.mono (unhide HB).size))
    obtain ⟨a9, c9, rfl⟩ := open_sl hO.reads
    have HO9 := hide hO
    clear hb bR HB HR L hO
    generalize hm9 : (moved cs xs).length = n9 at *
    clear hm9
    go_wp2_with fail
    refine bodyPost_ret (v := .agg #[.int .i64 0, .slice a9 n9 c9]) (by simp [results, Try.results15, go_sem, z0, z1]) rfl ?_
    have hE : Ext (fun c => c = w.heap.size) w2 ((w2.setCell ⟨w.heap.size, 0, none⟩ (.int .i64 0)).setCell ⟨w.heap.size, 1, none⟩ (.slice a9 n9 c9)) := ((Ext.refl (fun c => c = w.heap.size) _).setCell ⟨w.heap.size, 0, none⟩ _ rfl).setCell ⟨w.heap.size, 1, none⟩ _ rfl
    rw [unhide HG]
    exact ⟨[.int .i64 0, .slice a9 n9 c9], rfl, own_censR (by decide) (((unhide HO9).ext hE (fun c h1 _ h3 => by omega)).mono (by omega) (by simp)), ((unhide HB9).setCell (by simp) _).setCell (by simp) _⟩
  · have HG : Hid (movedR cs xs = ⟨askFault cs xs, []⟩) := if_neg hf
    have hd : (askFault cs xs != 0) = true := by simpa using hf
    clear hf HC HX
    go_wp2_with fail
    refine bodyPost_ret (v := .agg #[.int .i64 (askFault cs xs), .slice none 0 0]) (by simp [results, Try.results15, go_sem, z0, z1]) rfl ?_
    rw [unhide HG]
    exact ⟨[.int .i64 (askFault cs xs), .slice none 0 0], rfl, own_codeCens (askFault_wf cs xs), ((unhide HB).setCell (by simp) _).setCell (by simp) _⟩

end Go.Proofs.Ytjofcmdlcoganaa

namespace Go.Proofs.Ytjofcmdlcoganaa
open Go.RowKit

set_option maxRecDepth 10000 in
theorem specAsk6 (v : Value) (cs : List DCenter) (vx : Value) (xs : List DItem) (w : World) (hcs : (Lay.sl Lay.tCenter).Reads w [v] cs) (h : (Lay.sl Lay.tItem).Reads w [vx] xs) :
    Calls Try.prog 59 #[v, vx] w fun e w' => e = .returned (.int .i64 (askFault cs xs)) ∧ Below w.heap.size w w' := by
  have HX := hide h
  have L := hide (specCen v cs w hcs)
  obtain ⟨ao, cap, rfl⟩ := open_sl hcs
  obtain ⟨ao2, cap2, rfl⟩ := open_sl h
  clear hcs h
  go_enter Try.func59, Try.ntmps59
  go_wp2_with fail
  refine (unhide L).mono ?_
  rintro e w1 ⟨rfl, hb⟩
  have L2 := hide (specTab _ xs w1 ((unhide HX).later hb))
  have HB := hide hb
  clear hb L HX
  by_cases hf : centersFault cs = 0
  · have HG : Hid (askFault cs xs = tableFault xs) := if_pos hf
    rw [hf]
    clear hf
    go_wp2_with fail
    refine (unhide L2).mono ?_
    rintro e w2 ⟨rfl, hb2⟩
    have HB2 := hide ((unhide HB).trans (hb2.mono (unhide HB).size))
    clear hb2 L2 HB
    go_wp2_with fail
    go_ret
    exact ⟨by rw [unhide HG]; rfl, unhide HB2⟩
  · have HG : Hid (askFault cs xs = centersFault cs) := if_neg hf
    have hd : (centersFault cs != 0) = true := by simpa using hf
    clear hf L2
    go_wp2_with fail
    go_ret
    exact ⟨by rw [unhide HG]; rfl, unhide HB⟩

end Go.Proofs.Ytjofcmdlcoganaa

namespace Go.Proofs.Ytjofcmdlcoganaa
open Go.RowKit

set_option maxRecDepth 10000 in
set_option maxHeartbeats 1000000 in
theorem specMoveOf (v : Value) (cs : List DCenter) (vx : Value) (xs : List DItem) (w : World) (hcs : (Lay.sl Lay.tCenter).Reads w [v] cs) (h : (Lay.sl Lay.tItem).Reads w [vx] xs) :
    Calls Try.prog 37 #[v, vx] w fun e w' => ∃ cs', e = .returned (.agg cs'.toArray) ∧ Lay.tCentersResult.Reads w' cs' (movedR cs xs) ∧ Below w.heap.size w w' := by
  have HB0 : Below w.heap.size w (w.alloc (.cells #[.int .i64 0, .slice none 0 0] 30)) := (Below.refl _ _).alloc (Nat.le_refl _) _
  have bR : Box w.heap.size #[.int .i64 0, .slice none 0 0] 30 (w.alloc (.cells #[.int .i64 0, .slice none 0 0] 30)) w.heap.size := newBox (Nat.le_refl _)
  have hc1 := hcs.later HB0
  have hx1 := h.later HB0
  obtain ⟨ao, cap, rfl⟩ := open_sl hcs
  obtain ⟨ao2, cap2, rfl⟩ := open_sl h
  clear hcs h
  go_enter Try.func37, Try.ntmps37
  go_wp2_with fail
  generalize w.alloc (.cells #[.int .i64 0, .slice none 0 0] 30) = W0 at *
  refine (specAsk6 _ cs _ xs W0 hc1 hx1).mono ?_
  rintro e w1 ⟨rfl, hb⟩
  have HC := hide (hc1.later hb)
  have HX := hide (hx1.later hb)
  replace bR := bR.keep hb
  replace HB0 := HB0.trans (hb.mono HB0.size)
  have z0 : w1.cell? ⟨w.heap.size, 0, none⟩ = some (.int .i64 0) := bR.at 0 _ rfl
  have z1 : w1.cell? ⟨w.heap.size, 1, none⟩ = some (.slice none 0 0) := bR.at 1 _ rfl
  have f0 := bR.soft 0
  have f1 := bR.soft 1
  have l0 := bR.lt
  have HB := hide HB0
  have HR := hide bR
  clear hb HB0 bR hc1 hx1
  by_cases hf : askFault cs xs = 0
  · have HG : Hid (movedR cs xs = ⟨0, moved cs xs⟩) := if_pos hf
    obtain ⟨hfc, hft⟩ := askFault_zero hf
    rw [hf]
    have L := hide (specMove _ cs _ xs w1 (unhide HC) (unhide HX) hfc hft)
    have hw1 := l0
    clear hf hfc hft HC HX z0 z1 f0 f1 l0
    go_wp2_with fail
    refine (unhide L).mono ?_
    rintro e w2 ⟨v2, rfl, hO0, hb⟩
    have hO : (Lay.sl Lay.tCenter).LiesIn w2 [v2] (moved cs xs) w1.heap.size w2.heap.size := hO0
    have bR := (unhide HR).keep hb
    have z0 : w2.cell? ⟨w.heap.size, 0, none⟩ = some (.int .i64 0) := bR.at 0 _ rfl
    have z1 : w2.cell? ⟨w.heap.size, 1, none⟩ = some (.slice none 0 0) := bR.at 1 _ rfl
    have f0 := bR.soft 0
    have f1 := bR.soft 1
    have l0 := bR.lt
    have HB9 := hide ((unhide HB).trans (hb.mono (unhide HB).size))
    obtain ⟨a9, c9, rfl⟩ := open_sl hO.reads
    have HO9 := hide hO
    clear hb bR HB HR L hO
    generalize hm9 : (moved cs xs).length = n9 at *
    clear hm9
    go_wp2_with fail
    refine bodyPost_ret (v := .agg #[.int .i64 0, .slice a9 n9 c9]) (by simp [results, Try.results37, go_sem, z0, z1]) rfl ?_
    have hE : Ext (fun c => c = w.heap.size) w2 ((w2.setCell ⟨w.heap.size, 0, none⟩ (.int .i64 0)).setCell ⟨w.heap.size, 1, none⟩ (.slice a9 n9 c9)) := ((Ext.refl (fun c => c = w.heap.size) _).setCell ⟨w.heap.size, 0, none⟩ _ rfl).setCell ⟨w.heap.size, 1, none⟩ _ rfl
    rw [unhide HG]
    exact ⟨[.int .i64 0, .slice a9 n9 c9], rfl, read_censR (by decide) (((unhide HO9).ext hE (fun c h1 _ h3 => by omega)).reads), ((unhide HB9).setCell (by simp) _).setCell (by simp) _⟩
  · have HG : Hid (movedR cs xs = ⟨askFault cs xs, []⟩) := if_neg hf
    have hd : (askFault cs xs != 0) = true := by simpa using hf
    clear hf HC HX
    go_wp2_with fail
    refine bodyPost_ret (v := .agg #[.int .i64 (askFault cs xs), .slice none 0 0]) (by simp [results, Try.results37, go_sem, z0, z1]) rfl ?_
    rw [unhide HG]
    exact ⟨[.int .i64 (askFault cs xs), .slice none 0 0], rfl, (own_codeCens (lo := 0) (hi := 0) (askFault_wf cs xs)).reads, ((unhide HB).setCell (by simp) _).setCell (by simp) _⟩

end Go.Proofs.Ytjofcmdlcoganaa

namespace Go.Proofs.Ytjofcmdlcoganaa
open Go.RowKit

theorem cnt_cens (cs : List DCenter) (h : centersFault cs = 0) : cntAll Lay.tCenter.cnt cs = 3 * cs.length := by
  have hv := (centersFault_zero h).2
  clear h
  induction cs with
  | nil => rfl
  | cons c cs ih =>
    have e : Lay.tCenter.cnt c = 3 := by
      show cntAll Lay.int.cnt c.vec = 3
      obtain ⟨p, q, r, e⟩ := cvec3 (hv c (by simp))
      rw [e]
      rfl
    simp only [cntAll, ih (fun d hd => hv d (List.mem_cons_of_mem _ hd)), e, List.length_cons]
    omega
theorem cens_few {c : Int} {cs : List DCenter} (h : centersFault cs = 0) : Lay.tCentersResult.vcnt ⟨c, cs⟩ ≤ 100000000 := by
  rw [vcnt_CentersResult]
  show cntAll Lay.tCenter.cnt cs ≤ 100000000
  rw [cnt_cens cs h]
  have := (centersFault_zero h).1
  omega
theorem movedR_few (cs : List DCenter) (xs : List DItem) : Lay.tCentersResult.vcnt (movedR cs xs) ≤ 100000000 := by
  unfold movedR
  split
  · rename_i hf
    obtain ⟨h1, h2⟩ := askFault_zero hf
    exact cens_few (moved_right h1 h2)
  · exact Nat.zero_le _
theorem lawMove (v : Value) (cs : List DCenter) (vx : Value) (xs : List DItem) (w : World) (h : (Lay.sl Lay.tCenter).Reads w [v] cs) (hx : (Lay.sl Lay.tItem).Reads w [vx] xs) :
    Calls Try.prog 7 #[v, vx] w fun e w' => e = .returned (.bool true) ∧ Below w.heap.size w w' := by
  by_cases hn : (Lay.sl Lay.tCenter).sz cs + (Lay.sl Lay.tItem).sz xs ≤ 1048576
  · exact lawx_MoveCenters v cs vx xs (movedR cs xs) w h hx hn (fun W a b ha hb => specMoveOf a cs b xs W ha hb) (fun W a b ha hb => implMoveOf a cs b xs W ha hb) (movedR_few cs xs)
  · exact lawover_MoveCenters v cs vx xs w h hx (by omega)

end Go.Proofs.Ytjofcmdlcoganaa

namespace Go.Proofs.Ytjofcmdlcoganaa
open Go.RowKit

theorem trainR_few (xs : List DItem) (ss : List Int) (r : Int) : Lay.tCentersResult.vcnt (trainR xs ss r) ≤ 100000000 := by
  unfold trainR
  split
  · rename_i hf
    obtain ⟨h1, h0, hn, -, -⟩ := trainFault_zero hf
    exact cens_few (trainN_right h1 _ _ (seedCs_right h1 h0 hn)).1
  · exact Nat.zero_le _
theorem lawTrain (v : Value) (xs : List DItem) (vs : Value) (ss : List Int) (r : Int) (w : World) (h : (Lay.sl Lay.tItem).Reads w [v] xs) (hs : (Lay.sl Lay.int).Reads w [vs] ss) :
    Calls Try.prog 9 #[v, vs, .int .i64 r] w fun e w' => e = .returned (.bool true) ∧ Below w.heap.size w w' := by
  by_cases hm : ss.length ≤ 1048576
  · have hm2 : (Lay.sl Lay.int).sz ss ≤ 1048576 := by rw [sz_ints]; exact hm
    by_cases hn : (Lay.sl Lay.tItem).sz xs ≤ 1048576
    · exact lawx_TrainCenters v xs vs ss r (trainR xs ss r) w h hs hm2 hn (fun W a b ha hb => specTrain a xs b ss r W ha hb) (fun W a b ha hb => implTrain a xs b ss r W ha hb) (trainR_few xs ss r)
    · exact lawover_TrainCenters v xs vs ss r w h hs hm2 (by omega)
  · obtain ⟨ao, cap, rfl⟩ := open_sl h
    obtain ⟨ao2, cap2, rfl⟩ := open_sl hs
    exact lawmany_TrainCenters_1 ao _ cap ao2 _ cap2 (.int .i64 r) w (by omega)

end Go.Proofs.Ytjofcmdlcoganaa

namespace Go.Proofs.Ytjofcmdlcoganaa
open Go.RowKit Go.ChangeShapes Go.WideShapes

/-- Whatever reads as data of the type t lies as A says. -/
def Opens {α : Type} (A : Lay α) (t : TypeId) : Prop :=
  ∀ {H : Type} (enc : TypeId × Value → H) (W : World) (base : Nat) (spare : Nat → Bool) (held : Bool) (fuel : Nat) (cs : List Value) (x : DataW H × List MemPlace), DataW.trod enc Try.prog W base spare held fuel t cs = some x → ∃ y, A.Reads W cs y

theorem reads_pair {α β : Type} {A : Lay α} {B : Lay β} {W : World} {c1 c2 : List Value} {x : α} {y : β} (h : A.Reads W c1 x) (k : B.Reads W c2 y) : (Lay.pair A B).Reads W (c1 ++ c2) (x, y) := by
  obtain ⟨b1, h⟩ := h
  obtain ⟨b2, k⟩ := k
  exact ⟨b1 ++ b2, c1, c2, b1, b2, rfl, rfl, h, k⟩

theorem opens_int {t : TypeId} (ht : Try.prog.underlying t = some (.int .i64)) : Opens Lay.int t := by
  intro H enc W base spare held fuel cs x h
  obtain ⟨n, rfl, -, hw⟩ := DataW.trod_int ht h
  exact ⟨n, [], rfl, hw, rfl⟩
theorem opens_bool {t : TypeId} (ht : Try.prog.underlying t = some .bool) : Opens Lay.bool t := by
  intro H enc W base spare held fuel cs x h
  obtain ⟨b, rfl, -⟩ := DataW.trod_bool ht h
  exact ⟨b, [], rfl, rfl⟩
theorem opens_str {t : TypeId} (ht : Try.prog.underlying t = some .string) : Opens Lay.str t := by
  intro H enc W base spare held fuel cs x h
  obtain ⟨s, rfl, -, -⟩ := DataW.trod_string ht h
  exact ⟨s, [], rfl, rfl⟩

theorem opens_sl {α : Type} {A : Lay α} {t e : TypeId} (ht : Try.prog.underlying t = some (.slice e)) (hn : Try.prog.cellsOf e = A.n) (h0 : 0 < A.n) (h : Opens A e) : Opens (Lay.sl A) t := by
  intro H enc W base spare held fuel cs x hx
  rcases Go.Deep.open_slice ht hx with ⟨rfl, -⟩ | ⟨a, len, cap, m, n, D, Pl, rfl, hb, hl, hm, hmm, -, hel⟩
  · exact ⟨[], [], none, 0, rfl, ⟨Nat.le_refl _, by simp⟩, Or.inl ⟨rfl, rfl⟩⟩
  · have hlm : len ≤ m := by rw [hmm]; split <;> omega
    rw [hn] at hel
    have each : ∀ i, i < len → ∃ q : List Value × α, (∀ j, j < A.n → W.cell? (a.add (i * A.n + j)) = q.1[j]?) ∧ q.1.length = A.n ∧ A.Reads W q.1 q.2 := by
      intro i hi
      obtain ⟨cs', h1, h2⟩ := hel i (by omega)
      obtain ⟨-, hlen, hc⟩ := World.cells?_some h1
      obtain ⟨y, hy⟩ := h enc W base spare held n cs' _ h2
      refine ⟨(cs', y), fun j hj => ?_, hlen, hy⟩
      have := hc j hj
      rw [Addr.add_add] at this
      exact this
    by_cases hp : 0 < len
    · obtain ⟨b, off, spot⟩ := a
      obtain ⟨q0, c0, l0, -⟩ := each 0 hp
      have hc0 := c0 0 h0
      have hs0 : ∃ v, W.cell? ((⟨b, off, spot⟩ : Addr).add (0 * A.n + 0)) = some v := ⟨_, hc0.trans (List.getElem?_eq_getElem (by omega))⟩
      obtain ⟨v0, hv0⟩ := hs0
      have hspot : spot = none := by simpa [Addr.add] using World.cell?_spot hv0
      subst hspot
      have hbl : b < W.heap.size := by
        have := World.block_lt_of_cell? _ _ hv0
        simpa [Addr.add] using this
      have pick : ∃ f : (i : Nat) → i < len → List Value × α, ∀ i (hi : i < len), (∀ j, j < A.n → W.cell? ((⟨b, off, none⟩ : Addr).add (i * A.n + j)) = (f i hi).1[j]?) ∧ (f i hi).1.length = A.n ∧ A.Reads W (f i hi).1 (f i hi).2 :=
        ⟨fun i hi => Classical.choose (each i hi), fun i hi => Classical.choose_spec (each i hi)⟩
      obtain ⟨f, hf⟩ := pick
      have pick2 : ∃ g : (i : Nat) → i < len → List Nat, ∀ i (hi : i < len), A.lies W (f i hi).1 (f i hi).2 (g i hi) :=
        ⟨fun i hi => Classical.choose (hf i hi).2.2, fun i hi => Classical.choose_spec (hf i hi).2.2⟩
      obtain ⟨g, hg⟩ := pick2
      refine ⟨(List.finRange len).map (fun i => (f i.1 i.2).2), b :: ((List.finRange len).map (fun i => g i.1 i.2)).flatten, some ⟨b, off, none⟩, cap, by simp, ⟨by simpa using hl, by simp; unfold maxLen at hm; omega⟩, Or.inr ⟨b, off, (List.finRange len).map (fun i => (f i.1 i.2).1), (List.finRange len).map (fun i => g i.1 i.2), rfl, hbl, rfl, by simp, by simp, fun j h1 h2 h3 => ?_⟩⟩
      have hj : j < len := by simpa using h1
      refine ⟨fun k hk => ?_, ?_⟩
      · have := (hf j hj).1 k hk
        rw [Addr.add_lit] at this
        simpa [Nat.add_assoc] using this
      · simpa using hg j hj
    · obtain rfl : len = 0 := by omega
      exact ⟨[], [], some a, cap, rfl, ⟨hl, by simp⟩, Or.inl ⟨rfl, rfl⟩⟩

theorem open_arg {α : Type} {A : Lay α} {t : TypeId} (O : Opens A t) {H : Type} {enc : TypeId × Value → H} {W : World} {base : Nat} {spare : Nat → Bool} {held : Bool} {a : Option Addr} {len cap : Nat} {d : DataW H} {p : List MemPlace}
    (h : DataW.Trod enc Try.prog W base spare held t (.slice a len cap) d p) : ∃ y, A.Reads W [.slice a len cap] y := by
  obtain ⟨fuel, hf⟩ := h
  exact O enc W base spare held fuel _ _ (by simpa [Value.cells] using hf)
theorem open_arg_st {α : Type} {A : Lay α} {t : TypeId} (O : Opens A t) {H : Type} {enc : TypeId × Value → H} {W : World} {base : Nat} {spare : Nat → Bool} {held : Bool} {cs : Array Value} {d : DataW H} {p : List MemPlace}
    (h : DataW.Trod enc Try.prog W base spare held t (.agg cs) d p) : ∃ y, A.Reads W cs.toList y := by
  obtain ⟨fuel, hf⟩ := h
  exact O enc W base spare held fuel _ _ (by simpa [Value.cells] using hf)

end Go.Proofs.Ytjofcmdlcoganaa

namespace Go.Proofs.Ytjofcmdlcoganaa
open Go.RowKit

set_option maxRecDepth 10000 in
theorem opens_Item : Opens Lay.tItem 88 := by
  intro H enc W base spare held fuel cs x h
  obtain ⟨xs, n, _, _, hlen, hl, hfi⟩ := DataW.trod_struct Try.underlying88 h
  rw [show Try.prog.cellsOf 88 = 2 by kernel_rfl] at hlen
  match cs, hlen with
  | [c0, c1], _ =>
  match xs, hl with
  | [y0, y1], _ =>
  have z0 : Try.prog.cellsOf 2 = 1 := by kernel_rfl
  have z1 : Try.prog.cellsOf 25 = 1 := by kernel_rfl
  have f0 : DataW.trod enc Try.prog W base spare held n 2 (([c0, c1].drop 0).take (Try.prog.cellsOf 2)) = some y0 := hfi 0 _ rfl
  rw [z0] at f0
  obtain ⟨d0, r0⟩ := (opens_int Try.underlying2) enc W base spare held n _ _ f0
  have f1 : DataW.trod enc Try.prog W base spare held n 25 (([c0, c1].drop 1).take (Try.prog.cellsOf 25)) = some y1 := hfi 1 _ rfl
  rw [z1] at f1
  obtain ⟨d1, r1⟩ := (opens_sl Try.underlying25 (by kernel_rfl) (by decide) (opens_int Try.underlying2)) enc W base spare held n _ _ f1
  exact ⟨⟨d0, d1⟩, (reads_pair r0 r1)⟩

end Go.Proofs.Ytjofcmdlcoganaa
