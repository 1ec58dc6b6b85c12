/-
  Texts of this proof in one: ImplMoved, ImplMoveOf, SpecCen, InB, SpecTab, SpecAsk6, SpecNear.
  Their conditions stand in their theorems.
-/
import Derived.Test.YtjofcmdlcoganaaMq06
import Derived.Test.YtjofcmdlcoganaaMq07
import Derived.Test.YtjofcmdlcoganaaMq05
import Derived.Test.YtjofcmdlcoganaaChecked
import Derived.Test.YtjofcmdlcoganaaMq01
import Derived.Test.YtjofcmdlcoganaaMq03
import Derived.BigQuiet
import Derived.Deep.QuietTactic
import Derived.Deep.RegionHeld3

namespace Go.Proofs.Ytjofcmdlcoganaa
open Go.RowKit

theorem sumF_bd (cs : List DCenter) {xs : List DItem} (hl : xs.length ≤ 30) (hx : ∀ x ∈ xs, vecFault x.vec = 0) (p j : Nat) (hj : j < 3) (k : Nat) (h : k ≤ xs.length) : -30000 ≤ sumF cs xs k p j ∧ sumF cs xs k p j ≤ 30000 := by
  have h1 := sumK_bd cs hx p j hj k h
  have h2 := cntK_bd cs xs p k
  unfold sumF
  omega

set_option maxRecDepth 100000 in
set_option maxHeartbeats 8000000 in
theorem movedC_pos (b0 off0 cap0 : Nat) (cs : List DCenter) (ao : Option Addr) (cap : Nat) (xs : List DItem) (w : World) (hcs : (Lay.sl Lay.tCenter).Reads w [.slice (some ⟨b0, off0, none⟩) cs.length cap0] cs) (hbl0 : b0 < w.heap.size) (h : (Lay.sl Lay.tItem).Reads w [.slice ao xs.length cap] xs) (hfc : centersFault cs = 0) (hft : tableFault xs = 0) :
    Calls Try.prog 49 #[.slice (some ⟨b0, off0, none⟩) cs.length cap0, .slice ao xs.length cap] w fun e w' => ∃ v', e = .returned v' ∧ (Lay.sl Lay.tCenter).OwnIn w' [v'] (moved cs xs) w.heap.size w'.heap.size ∧ Below w.heap.size w w' := by
  obtain ⟨hlen, hall, -⟩ := tableFault_zero hft
  obtain ⟨⟨hn1, hn6⟩, hcv⟩ := centersFault_zero hfc
  have hxv : ∀ x ∈ xs, vecFault x.vec = 0 := fun x hm => (hall x hm).2
  obtain ⟨i0, hi, hz0, hz1, hz2⟩ := info_parts infoCenF
  have HXV := hide hxv
  have HCV := hide hcv
  have HFC := hide hfc
  have HFT := hide hft
  have HC := hide hcs
  have HX := hide h
  clear hcs h hall hxv hfc hft hcv
  go_enter Try.func49, Try.ntmps49
  go_wp2_with fail
  refine (newSumsV cs.length hn6 w).mono ?_
  rintro e w1 ⟨g1, rfl, hg1, hS1, hb1⟩
  have hg1l := hS1.lt
  have nb1 : Below w1.heap.size w1 (w1.alloc (.cells #[.slice (some ⟨g1, 0, none⟩) cs.length cs.length, .func (.func 76) #[] #[]] 97)) := (Below.refl _ _).alloc (Nat.le_refl _) _
  have bX1 : Box w.heap.size #[.slice (some ⟨g1, 0, none⟩) cs.length cs.length, .func (.func 76) #[] #[]] 97 (w1.alloc (.cells #[.slice (some ⟨g1, 0, none⟩) cs.length cs.length, .func (.func 76) #[] #[]] 97)) w1.heap.size := newBox (by omega)
  have hsf : ∀ (W : World) (a : Addr), (store a (.func (.func 76) #[] #[])).run Try.prog W = stored Try.prog W a (.func (.func 76) #[] #[]) .plain := fun W a => run_store _ _ _ _ _ rfl
  have hsf2 : ∀ (W : World) (a : Addr), (store a (.func (.func 78) #[] #[])).run Try.prog W = stored Try.prog W a (.func (.func 78) #[] #[]) .plain := fun W a => run_store _ _ _ _ _ rfl
  have HS1 := hide (hS1.later nb1)
  have HB1 := hide (hb1.trans (nb1.mono hb1.size))
  have HX1 := hide bX1
  have hz1s : (w1.alloc (.cells #[.slice (some ⟨g1, 0, none⟩) cs.length cs.length, .func (.func 76) #[] #[]] 97)).heap.size = w1.heap.size + 1 := by simp
  clear hS1 hb1 nb1 bX1
  go_wp2_with fail
  generalize w1.alloc (.cells #[.slice (some ⟨g1, 0, none⟩) cs.length cs.length, .func (.func 76) #[] #[]] 97) = W1 at *
  refine (newSumsN cs.length hn6 W1).mono ?_
  rintro e w2 ⟨g2, rfl, hg2, hS2, hb2⟩
  have hg2l := hS2.lt
  have nb2 : Below w2.heap.size w2 (w2.alloc (.cells #[.slice (some ⟨g2, 0, none⟩) cs.length cs.length, .func (.func 78) #[] #[]] 103)) := (Below.refl _ _).alloc (Nat.le_refl _) _
  have hz0s : w.heap.size ≤ W1.heap.size := (unhide HB1).size
  have bX2 : Box w.heap.size #[.slice (some ⟨g2, 0, none⟩) cs.length cs.length, .func (.func 78) #[] #[]] 103 (w2.alloc (.cells #[.slice (some ⟨g2, 0, none⟩) cs.length cs.length, .func (.func 78) #[] #[]] 103)) w2.heap.size := newBox (by have := hb2.size; omega)
  replace HS1 := hide (((unhide HS1).later hb2).later nb2)
  replace HX1 := hide (((unhide HX1).keep hb2).keep nb2)
  have HS2 := hide (hS2.later nb2)
  have HX2 := hide bX2
  have HB2 := hide (((unhide HB1).trans (hb2.mono (unhide HB1).size)).trans (nb2.mono (Nat.le_trans (unhide HB1).size hb2.size)))
  clear hS2 hb2 nb2 bX2 HB1
  go_wp2_with fail
  generalize w2.alloc (.cells #[.slice (some ⟨g2, 0, none⟩) cs.length cs.length, .func (.func 78) #[] #[]] 103) = W2 at *
  go_loopw [24] (fun i wr => ∃ k : Nat, k ≤ xs.length ∧ i = .int .i64 k ∧ Sums3 wr g1 cs.length (sumF cs xs k) ∧ Sums1 wr g2 cs.length (cntF cs xs k) ∧ Box w.heap.size #[.slice (some ⟨g1, 0, none⟩) cs.length cs.length, .func (.func 76) #[] #[]] 97 wr w1.heap.size ∧ Box w.heap.size #[.slice (some ⟨g2, 0, none⟩) cs.length cs.length, .func (.func 78) #[] #[]] 103 wr w2.heap.size ∧ Below w.heap.size w wr) (fun i _ => xs.length - (intOf i).toNat)
  case atStart => exact ⟨0, Nat.zero_le _, rfl, unhide HS1, unhide HS2, unhide HX1, unhide HX2, unhide HB2⟩
  case round =>
    obtain ⟨k, hk, rfl, hS1, hS2, hX1, hX2, hB⟩ := hrel
    clear HS1 HS2 HX1 HX2 HB2
    by_cases hlt : k < xs.length
    · obtain ⟨b, off, rfl, hbl⟩ := Lay.sl_addr (unhide HX) (by omega)
      obtain ⟨row, hc, hr⟩ := Lay.row_at (unhide HX) hlt
      replace hr := hr.later hB
      obtain ⟨a1, d1, rfl, R1⟩ := open_Item hr
      have c0 : wr.cell? ⟨b, off + k * 2, none⟩ = some (.int .i64 (xs[k]).id) := (hB.cell (p := ⟨b, off + k * 2, none⟩) hbl).trans (hc 0 (by decide))
      have c1 : wr.cell? ⟨b, off + k * 2 + 1, none⟩ = some (.slice a1 (xs[k]).vec.length d1) := (hB.cell (p := ⟨b, off + k * 2 + 1, none⟩) hbl).trans (hc 1 (by decide))
      have hvx := unhide HXV xs[k] (List.getElem_mem hlt)
      have hp := near_lt (unhide HFC) hvx
      have q0 := sumF_bd cs hlen (unhide HXV) (near cs xs[k].vec) 0 (by omega) k hk
      have q1 := sumF_bd cs hlen (unhide HXV) (near cs xs[k].vec) 1 (by omega) k hk
      have q2 := sumF_bd cs hlen (unhide HXV) (near cs xs[k].vec) 2 (by omega) k hk
      have q3 : 0 ≤ cntF cs xs k (near cs xs[k].vec) ∧ cntF cs xs k (near cs xs[k].vec) ≤ k := cntK_bd cs xs _ k
      have HST := hide (sumF_step cs xs k hlt)
      have HCT := hide (cntF_step cs xs k hlt)
      clear hc hr
      generalize hx : xs[k] = x at *
      clear hx
      obtain ⟨p1, p2, p3, hv3⟩ := cvec3 hvx
      obtain ⟨v1, v2, v3⟩ := fault3 (hv3 ▸ hvx)
      have HV3 := hide hv3
      have nb : Below wr.heap.size wr (wr.alloc (.cells #[.int .i64 x.id, .slice a1 x.vec.length d1] 41)) := (Below.refl _ _).alloc (Nat.le_refl _) _
      have bI : Box wr.heap.size #[.int .i64 x.id, .slice a1 x.vec.length d1] 41 (wr.alloc (.cells #[.int .i64 x.id, .slice a1 x.vec.length d1] 41)) wr.heap.size := newBox (Nat.le_refl _)
      have HI := hide ((Lay.ints_reads R1).later nb)
      have HVX := hide hvx
      have L := hide (nearC _ cs _ x.vec _ (((unhide HC).later hB).later nb) (unhide HI) (unhide HFC) hvx)
      have HS1 := hide (hS1.later nb)
      have HS2 := hide (hS2.later nb)
      have HX1 := hide (hX1.keep nb)
      have HX2 := hide (hX2.keep nb)
      have HBI := hide bI
      have HB := hide (hB.trans (nb.mono hB.size))
      have hwr : w.heap.size ≤ wr.heap.size := hB.size
      have hl1 := hX1.lt
      have hl2 := hX2.lt
      clear R1 hB hvx nb bI hS1 hS2 hX1 hX2 hv3
      generalize nearS cs x.vec = ns at *
      generalize hnr : near cs x.vec = nr at *
      clear hnr
      go_wp2_with fail
      clear c0 c1
      generalize wr.alloc (.cells #[.int .i64 x.id, .slice a1 x.vec.length d1] 41) = W3 at *
      refine (unhide L).mono ?_
      rintro e w4 ⟨rfl, hb4⟩
      have bI := (unhide HBI).keep hb4
      have y1 : w4.cell? ⟨wr.heap.size, 1, none⟩ = some (.slice a1 x.vec.length d1) := bI.at 1 _ rfl
      replace HS1 := hide ((unhide HS1).later hb4)
      replace HS2 := hide ((unhide HS2).later hb4)
      replace HX1 := hide ((unhide HX1).keep hb4)
      replace HX2 := hide ((unhide HX2).keep hb4)
      replace HI := hide ((unhide HI).later hb4)
      replace HB := hide ((unhide HB).trans (hb4.mono (unhide HB).size))
      have hI4 := unhide HI
      rw [unhide HV3] at hI4
      have LV := hide (vectorOf_ok _ p1 p2 p3 w4 hI4 ((unhide HV3) ▸ (unhide HVX)))
      simp only [arr3] at LV
      rw [unhide HV3] at y1
      simp only [List.length_cons, List.length_nil, Nat.zero_add, Nat.reduceAdd] at y1 LV
      clear hb4 L HBI bI HI hI4
      go_wp2_with fail
      refine (unhide LV).mono ?_
      rintro e w5 ⟨rfl, hb5⟩
      have nb5 : Below w5.heap.size w5 (w5.alloc (.cells #[.int .i64 p1, .int .i64 p2, .int .i64 p3] 100)) := (Below.refl _ _).alloc (Nat.le_refl _) _
      have bV : Box w5.heap.size #[.int .i64 p1, .int .i64 p2, .int .i64 p3] 100 (w5.alloc (.cells #[.int .i64 p1, .int .i64 p2, .int .i64 p3] 100)) w5.heap.size := newBox (Nat.le_refl _)
      replace HS1 := hide (((unhide HS1).later hb5).later nb5)
      replace HS2 := hide (((unhide HS2).later hb5).later nb5)
      replace HX1 := hide (((unhide HX1).keep hb5).keep nb5)
      replace HX2 := hide (((unhide HX2).keep hb5).keep nb5)
      have hs5 : w.heap.size ≤ w5.heap.size := Nat.le_trans (unhide HB).size hb5.size
      replace HB := hide (((unhide HB).trans (hb5.mono (unhide HB).size)).trans (nb5.mono hs5))
      have x10 := (unhide HX1).at 0 _ rfl
      have x11 := (unhide HX1).at 1 _ rfl
      have v0 := bV.at 0 _ rfl
      have v1' := bV.at 1 _ rfl
      have v2' := bV.at 2 _ rfl
      simp only [List.getElem_toArray, List.getElem_cons_zero, List.getElem_cons_succ] at x10 x11 v0 v1' v2'
      have LA := hide (addSumV g1 cs.length cs.length nr (sumF cs xs k) p1 p2 p3 _ (unhide HS1) hp (by omega) (by omega) (by omega) (by omega) (by omega) (by omega))
      clear hb5 nb5 LV y1 bV
      go_wp2_with fail
      generalize w5.alloc (.cells #[.int .i64 p1, .int .i64 p2, .int .i64 p3] 100) = W5 at *
      refine (unhide LA).mono ?_
      rintro e w6 ⟨rfl, hS6, hE6⟩
      replace HS2 := hide ((unhide HS2).ext hE6 (by omega))
      replace HX1 := hide ((unhide HX1).ext hE6 (by omega))
      replace HX2 := hide ((unhide HX2).ext hE6 (by omega))
      replace HB := hide ((unhide HB).trans (hE6.below (unhide HB).size (fun c h1 h2 => by omega)))
      have x20 := (unhide HX2).at 0 _ rfl
      have x21 := (unhide HX2).at 1 _ rfl
      simp only [List.getElem_toArray, List.getElem_cons_zero, List.getElem_cons_succ] at x20 x21
      have LB := hide (addSumN g2 cs.length cs.length nr (cntF cs xs k) 1 w6 (unhide HS2) hp (by omega) (by omega))
      replace HS1 := hide hS6
      clear x10 x11 v0 v1' v2' LA hS6 hE6
      go_wp2_with fail
      refine (unhide LB).mono ?_
      rintro e w7 ⟨rfl, hS7, hE7⟩
      replace HS1 := hide (((unhide HS1).ext hE7 (by omega)).same (f' := sumF cs xs (k + 1)) (fun q j hj => by
        have := unhide HST q j hj
        rw [unhide HV3] at this
        exact this))
      replace HS2 := hide (hS7.same (f' := cntF cs xs (k + 1)) (fun q => unhide HCT q))
      replace HX1 := hide ((unhide HX1).ext hE7 (by omega))
      replace HX2 := hide ((unhide HX2).ext hE7 (by omega))
      replace HB := hide ((unhide HB).trans (hE7.below (unhide HB).size (fun c h1 h2 => by omega)))
      clear x20 x21 LB hS7 hE7
      go_wp2_with fail
      go_roundw
      case rel => exact ⟨k + 1, by omega, by go_num, unhide HS1, unhide HS2, unhide HX1, unhide HX2, unhide HB⟩
      case measure => simp [intOf]; omega
    · obtain rfl : k = xs.length := by omega
      rename World => wz
      have HS1 := hide hS1
      have HS2 := hide hS2
      have HX1 := hide hX1
      have HX2 := hide hX2
      have HB := hide hB
      have hwr : w.heap.size ≤ wz.heap.size := hB.size
      have hl1 := hX1.lt
      have hl2 := hX2.lt
      have hg1r := hS1.lt
      have hg2r := hS2.lt
      clear hS1 hS2 hX1 hX2 hB
      go_wp2_with (at_make; refine wpList_make_full _ rfl _ _ 28 rfl wz.heap.size 77 i0 _ 1 Try.underlying28 hi hz0 hz1 _ _ _ _ cs.length rfl rfl rfl rfl ?c1 ?c2 ?c3 ?_)
      case c1 => rw [hz2]; omega
      case c2 => unfold maxLen; omega
      case c3 => exact Nat.le_refl _
      intro w8 hown8 hgrow8
      have hB8 : Below wz.heap.size wz w8 := (Below.refl _ _).grown hgrow8 (Nat.le_refl _) (by simp)
      have HF8 := hide (FillC.start (moved cs xs) hown8)
      have HB8 := hide hB8
      clear hown8 hgrow8 hB8 hi hz0 hz1 hz2
      go_wp2_with fail
      go_loopw [54] (fun i wr => ∃ p : Nat, p ≤ cs.length ∧ i = .int .i64 p ∧ FillC wr wz.heap.size cs.length p (moved cs xs) ∧ Below wz.heap.size wz wr) (fun i _ => cs.length - (intOf i).toNat)
      case atStart => exact ⟨0, Nat.zero_le _, rfl, unhide HF8, unhide HB8⟩
      case round =>
        obtain ⟨p, hp, rfl, hF, hBq⟩ := hrel
        clear HF8 HB8
        by_cases hlp : p < cs.length
        · have hX2q := (unhide HX2).keep hBq
          have hX1q := (unhide HX1).keep hBq
          have hS1q := (unhide HS1).later hBq
          have hS2q := (unhide HS2).later hBq
          have x20 := hX2q.at 0 _ rfl
          have x10 := hX1q.at 0 _ rfl
          simp only [List.getElem_toArray, List.getElem_cons_zero] at x20 x10
          have k0 : wr.cell? ⟨g2, p, none⟩ = some (.int .i64 (cnt cs xs p)) := hS2q.cell p hlp
          have s0 : wr.cell? ⟨g1, p * 3, none⟩ = some (.int .i64 (sumK cs xs p 0 xs.length)) := hS1q.cell p hlp 0 (by omega)
          have s1 : wr.cell? ⟨g1, p * 3 + 1, none⟩ = some (.int .i64 (sumK cs xs p 1 xs.length)) := hS1q.cell p hlp 1 (by omega)
          have s2 : wr.cell? ⟨g1, p * 3 + 2, none⟩ = some (.int .i64 (sumK cs xs p 2 xs.length)) := hS1q.cell p hlp 2 (by omega)
          have HT := hide (moved_take cs xs p hlp)
          have HF := hide hF
          have HBQ := hide hBq
          have hcb := cntK_bd cs xs p xs.length
          have i1 : (0 : Int) ≤ (p : Int) := by omega
          have i2 : (p : Int) < (cs.length : Int) := by omega
          clear hX1q hX2q hS1q hS2q hF
          by_cases h0 : cnt cs xs p = 0
          · obtain ⟨row, hc, hr⟩ := Lay.row_at (unhide HC) hlp
            obtain ⟨a1, d1, rfl, R1⟩ := open_Center hr
            have c1 : wr.cell? ⟨b0, off0 + p, none⟩ = some (.slice a1 (cs[p]).vec.length d1) := (hBq.cell (p := ⟨b0, off0 + p, none⟩) (Nat.lt_of_lt_of_le hbl0 hwr)).trans (((unhide HB).cell (p := ⟨b0, off0 + p, none⟩) hbl0).trans (cen_cell (hc 0 (by decide))))
            have hvy := unhide HCV cs[p] (List.getElem_mem hlp)
            have hT : (moved cs xs).take (p + 1) = (moved cs xs).take p ++ [⟨(cs[p]).vec⟩] := by
              have := unhide HT
              rw [meanAt, if_pos h0, getD_at hlp] at this
              exact this
            clear hc hr HT
            generalize hy : cs[p] = y at *
            clear hy
            have hl3 := (vecFault_zero hvy).1
            obtain ⟨b1, off1, rfl, hbl1⟩ := Lay.sl_addr R1 (by omega)
            have R2 := (R1.later (unhide HB)).later hBq
            have hwf : ∀ z ∈ y.vec, (Lit.int .i64 z).wf = true := by
              obtain ⟨_, _, _, hw, -⟩ := Lay.ints_reads R1
              exact hw
            have L := hide (slClone ⟨b1, off1, none⟩ d1 y.vec wr (Lay.ints_reads R2) (by omega))
            have HWF := hide hwf
            have HTT := hide hT
            rw [h0] at k0
            have HL3 := hide hl3
            clear hwf hT R1 R2 hBq h0 hcb s0 s1 s2 x10 hl3
            go_wp2_with fail
            refine (unhide L).mono ?_
            rintro e w9 ⟨v9, rfl, ho9, hb9⟩
            have hO9 := Lay.ownInts (unhide HWF) (by have := unhide HL3; omega) ho9
            obtain ⟨⟨u9, hu9⟩, hf9, hl9⟩ := ((unhide HF).later hb9).there hlp
            have HF9 := hide ((unhide HF).put hlp hb9 hO9 (unhide HTT))
            have HB9 : Hid (Below wz.heap.size wz (w9.setCell ⟨wz.heap.size, p, none⟩ v9)) := ((unhide HBQ).trans (hb9.mono (unhide HBQ).size)).setCell (by simp) _
            obtain ⟨a9, c9, rfl⟩ := open_sl hO9.reads
            clear hO9 ho9 hb9 L c1 k0 x20
            generalize y.vec.length = yl9 at *
            go_wp2_with fail
            go_roundw
            case rel => exact ⟨p + 1, by omega, by go_num, unhide HF9, unhide HB9⟩
            case measure => simp [intOf]; omega
          · obtain ⟨hmf, hc1, hc2⟩ := sums_right cs (unhide HFT) p h0
            have hT : (moved cs xs).take (p + 1) = (moved cs xs).take p ++ [⟨meanList (sums cs xs p) (cnt cs xs p)⟩] := by
              have := unhide HT
              rw [meanAt, if_neg h0] at this
              exact this
            have hsb0 := sumF_bd cs hlen (unhide HXV) p 0 (by omega) xs.length (Nat.le_refl _)
            have hsb1 := sumF_bd cs hlen (unhide HXV) p 1 (by omega) xs.length (Nat.le_refl _)
            have hsb2 := sumF_bd cs hlen (unhide HXV) p 2 (by omega) xs.length (Nat.le_refl _)
            unfold sumF at hsb0 hsb1 hsb2
            unfold sums at hmf hT
            have HTT := hide hT
            have HMF := hide hmf
            clear hT hmf HT h0 hcb
            generalize sumK cs xs p 0 xs.length = t0 at *
            generalize sumK cs xs p 1 xs.length = t1 at *
            generalize sumK cs xs p 2 xs.length = t2 at *
            generalize cnt cs xs p = cn at *
            have hd : decide (0 < cn) = true := by simp; omega
            have LL := hide (listOwn t0 t1 t2 wr (by
              intro a ha
              simp only [List.mem_cons, List.not_mem_nil, or_false] at ha
              rcases ha with rfl | rfl | rfl <;> exact wf_of_bd (by omega)))
            simp only [arr3] at LL
            clear hBq
            go_wp2_with fail
            refine (unhide LL).mono ?_
            rintro e w9 ⟨g9, rfl, hO9, hb9⟩
            have LM := hide (implMean _ [t0, t1, t2] cn w9 (Lay.ints_reads hO9.reads))
            rw [unhide HMF] at LM
            clear hO9 LL k0 x20 x10 s0 s1 s2
            go_wp2_with fail
            refine (unhide LM).mono ?_
            rintro e wa ⟨ra, rfl, hoa, hba⟩
            have hOa := Lay.ownInts (zs := meanList [t0, t1, t2] cn) meanList_bd (by have := meanList_len (zs := [t0, t1, t2]) (n := cn); omega) hoa
            have hba2 : Below wr.heap.size wr wa := hb9.trans (hba.mono hb9.size)
            obtain ⟨⟨u9, hu9⟩, hf9, hl9⟩ := ((unhide HF).later hba2).there hlp
            have HF9 := hide ((unhide HF).put hlp hba2 (hOa.mono hb9.size (Nat.le_refl _)) (unhide HTT))
            have HB9 : Hid (Below wz.heap.size wz (wa.setCell ⟨wz.heap.size, p, none⟩ ra)) := ((unhide HBQ).trans (hba2.mono (unhide HBQ).size)).setCell (by simp) _
            obtain ⟨a9, c9, rfl⟩ := open_sl hOa.reads
            simp only [intsRes]
            clear hOa hoa hba hb9 hba2 LM
            generalize (meanList [t0, t1, t2] cn).length = ml at *
            have hfl : ∀ W : World, (Instr.field 37 (.agg #[.int .i64 0, .slice a9 ml c9]) 1).run Try.prog W = .ok (.slice a9 ml c9) W := fun _ => by kernel_rfl
            go_wp2_with fail
            go_roundw
            case rel => exact ⟨p + 1, by omega, by go_num, unhide HF9, unhide HB9⟩
            case measure => simp [intOf]; omega
        · obtain rfl : p = cs.length := by omega
          have hO := (hF.done (moved_len cs xs) (by omega)).mono (lo' := w.heap.size) hwr (Nat.le_refl _)
          have HO := hide hO
          have HB9 := hide ((unhide HB).trans (hBq.mono hwr))
          clear hO hF hBq
          go_wp2_with fail
          go_ret
          exact ⟨_, rfl, unhide HO, unhide HB9⟩

theorem movedC (v : Value) (cs : List DCenter) (vx : Value) (xs : List DItem) (w : World) (hcs : (Lay.sl Lay.tCenter).Reads w [v] cs) (h : (Lay.sl Lay.tItem).Reads w [vx] xs) (hfc : centersFault cs = 0) (hft : tableFault xs = 0) :
    Calls Try.prog 49 #[v, vx] w fun e w' => ∃ v', e = .returned v' ∧ (Lay.sl Lay.tCenter).OwnIn w' [v'] (moved cs xs) w.heap.size w'.heap.size ∧ Below w.heap.size w w' := by
  obtain ⟨ao, cap, rfl⟩ := open_sl hcs
  obtain ⟨b, off, rfl, hbl⟩ := Lay.sl_addr hcs (centersFault_zero hfc).1.1
  obtain ⟨ao2, cap2, rfl⟩ := open_sl h
  exact movedC_pos b off cap cs ao2 cap2 xs w hcs hbl h hfc hft

end Go.Proofs.Ytjofcmdlcoganaa

namespace Go.Proofs.Ytjofcmdlcoganaa
open Go.RowKit

set_option maxRecDepth 10000 in
set_option maxHeartbeats 1000000 in
theorem implMoveOf (v : Value) (cs : List DCenter) (vx : Value) (xs : List DItem) (w : World) (hcs : (Lay.sl Lay.tCenter).Reads w [v] cs) (h : (Lay.sl Lay.tItem).Reads w [vx] xs) :
    Calls Try.prog 15 #[v, vx] w fun e w' => ∃ cs', e = .returned (.agg cs'.toArray) ∧ Lay.tCentersResult.OwnIn w' cs' (movedR cs xs) w.heap.size w'.heap.size ∧ Below w.heap.size w w' := by
  have HB0 : Below w.heap.size w (w.alloc (.cells #[.int .i64 0, .slice none 0 0] 30)) := (Below.refl _ _).alloc (Nat.le_refl _) _
  have bR : Box w.heap.size #[.int .i64 0, .slice none 0 0] 30 (w.alloc (.cells #[.int .i64 0, .slice none 0 0] 30)) w.heap.size := newBox (Nat.le_refl _)
  have hc1 := hcs.later HB0
  have hx1 := h.later HB0
  obtain ⟨ao, cap, rfl⟩ := open_sl hcs
  obtain ⟨ao2, cap2, rfl⟩ := open_sl h
  clear hcs h
  go_enter Try.func15, Try.ntmps15
  go_wp2_with fail
  generalize w.alloc (.cells #[.int .i64 0, .slice none 0 0] 30) = W0 at *
  refine (implAsk6 _ cs _ xs W0 hc1 hx1).mono ?_
  rintro e w1 ⟨rfl, hb⟩
  have HC := hide (hc1.later hb)
  have HX := hide (hx1.later hb)
  replace bR := bR.keep hb
  replace HB0 := HB0.trans (hb.mono HB0.size)
  have z0 : w1.cell? ⟨w.heap.size, 0, none⟩ = some (.int .i64 0) := bR.at 0 _ rfl
  have z1 : w1.cell? ⟨w.heap.size, 1, none⟩ = some (.slice none 0 0) := bR.at 1 _ rfl
  have f0 := bR.soft 0
  have f1 := bR.soft 1
  have l0 := bR.lt
  have HB := hide HB0
  have HR := hide bR
  clear hb HB0 bR hc1 hx1
  by_cases hf : askFault cs xs = 0
  · have HG : Hid (movedR cs xs = ⟨0, moved cs xs⟩) := if_pos hf
    obtain ⟨hfc, hft⟩ := askFault_zero hf
    rw [hf]
    have L := hide (movedC _ cs _ xs w1 (unhide HC) (unhide HX) hfc hft)
    have hw1 := l0
    clear hf hfc hft HC HX z0 z1 f0 f1 l0
    go_wp2_with fail
    refine (unhide L).mono ?_
    rintro e w2 ⟨v2, rfl, hO, hb⟩
    have bR := (unhide HR).keep hb
    have z0 : w2.cell? ⟨w.heap.size, 0, none⟩ = some (.int .i64 0) := bR.at 0 _ rfl
    have z1 : w2.cell? ⟨w.heap.size, 1, none⟩ = some (.slice none 0 0) := bR.at 1 _ rfl
    have f0 := bR.soft 0
    have f1 := bR.soft 1
    have l0 := bR.lt
    have HB9 := hide ((unhide HB).trans (hb.mono (unhide HB).size))
    obtain ⟨a9, c9, rfl⟩ := open_sl hO.reads
    have HO9 := hide hO
    clear hb bR HB HR L hO
    generalize hm9 : (moved cs xs).length = n9 at *
    clear hm9
    go_wp2_with fail
    refine bodyPost_ret (v := .agg #[.int .i64 0, .slice a9 n9 c9]) (by simp [results, Try.results15, go_sem, z0, z1]) rfl ?_
    have hE : Ext (fun c => c = w.heap.size) w2 ((w2.setCell ⟨w.heap.size, 0, none⟩ (.int .i64 0)).setCell ⟨w.heap.size, 1, none⟩ (.slice a9 n9 c9)) := ((Ext.refl (fun c => c = w.heap.size) _).setCell ⟨w.heap.size, 0, none⟩ _ rfl).setCell ⟨w.heap.size, 1, none⟩ _ rfl
    rw [unhide HG]
    exact ⟨[.int .i64 0, .slice a9 n9 c9], rfl, own_censR (by decide) (((unhide HO9).ext hE (fun c h1 _ h3 => by omega)).mono (by omega) (by simp)), ((unhide HB9).setCell (by simp) _).setCell (by simp) _⟩
  · have HG : Hid (movedR cs xs = ⟨askFault cs xs, []⟩) := if_neg hf
    have hd : (askFault cs xs != 0) = true := by simpa using hf
    clear hf HC HX
    go_wp2_with fail
    refine bodyPost_ret (v := .agg #[.int .i64 (askFault cs xs), .slice none 0 0]) (by simp [results, Try.results15, go_sem, z0, z1]) rfl ?_
    rw [unhide HG]
    exact ⟨[.int .i64 (askFault cs xs), .slice none 0 0], rfl, own_codeCens (askFault_wf cs xs), ((unhide HB).setCell (by simp) _).setCell (by simp) _⟩

end Go.Proofs.Ytjofcmdlcoganaa

namespace Go.Proofs.Ytjofcmdlcoganaa
open Go.RowKit

set_option maxRecDepth 100000 in
set_option maxHeartbeats 1000000 in
theorem specCen_pos (b off cap : Nat) (xs : List DCenter) (w : World) (hn : 1 ≤ xs.length ∧ xs.length ≤ 6) (h : (Lay.sl Lay.tCenter).Reads w [.slice (some ⟨b, off, none⟩) xs.length cap] xs) (hbl : b < w.heap.size) :
    Calls Try.prog 61 #[.slice (some ⟨b, off, none⟩) xs.length cap] w fun e w' => e = .returned (.int .i64 (cenFrom xs)) ∧ Below w.heap.size w w' := by
  generalize hF0 : cenFrom xs = F0
  have H := hide h
  clear h
  have d1 : decide ((xs.length : Int) < 1) = false := by simp; omega
  have d2 : decide ((6 : Int) < (xs.length : Int)) = false := by simp; omega
  go_enter Try.func61, Try.ntmps61
  go_wp2_with fail
  go_loopw [3] (fun i wr => ∃ k : Nat, k ≤ xs.length ∧ i = .int .i64 k ∧ cenFrom (xs.drop k) = F0 ∧ Below w.heap.size w wr) (fun i _ => xs.length - (intOf i).toNat)
  case atStart => exact ⟨0, Nat.zero_le _, rfl, hF0, Below.refl _ _⟩
  case round =>
    obtain ⟨k, hk, rfl, hF, hB⟩ := hrel
    by_cases hlt : k < xs.length
    · obtain ⟨row, hc, hr⟩ := Lay.row_at (unhide H) hlt
      replace hr := hr.later hB
      obtain ⟨a1, d1, rfl, R1⟩ := open_Center hr
      have c1 : wr.cell? ⟨b, off + k, none⟩ = some (.slice a1 (xs[k]).vec.length d1) := (hB.cell (p := ⟨b, off + k, none⟩) hbl).trans (cen_cell (hc 0 (by decide)))
      rw [cenFrom_step xs k hlt] at hF
      clear hc hr
      generalize hx : xs[k] = x at *
      clear hx
      have hbr : b < wr.heap.size := Nat.lt_of_lt_of_le hbl hB.size
      have I1 := hide (Lay.ints_reads R1)
      have HF := hide hF
      have B1 := hide hB
      clear R1 hF hB
      go_wp2_with fail
      refine (modelFault _ x.vec _ (unhide I1)).mono ?_
      rintro e w1 ⟨rfl, rfl⟩
      by_cases hv : vecFault x.vec = 0
      · rw [hv]
        have hF := unhide HF
        rw [if_pos hv] at hF
        clear HF I1 hv
        have HF := hide hF
        clear hF
        go_wp2_with fail
        go_roundw
        case rel => exact ⟨k + 1, by omega, by go_num, unhide HF, unhide B1⟩
        case measure => simp [intOf]; omega
      · have hF := unhide HF
        rw [if_neg hv] at hF
        have hd : (vecFault x.vec != 0) = true := by simpa using hv
        have HF2 := hide hF
        clear HF hF I1 hv
        go_wp2_with fail
        go_ret
        exact ⟨by rw [← unhide HF2]; rfl, unhide B1⟩
    · obtain rfl : k = xs.length := by omega
      rw [List.drop_length] at hF
      have HF := hide hF
      have HB := hide hB
      clear hF hB H
      go_wp2_with fail
      go_ret
      exact ⟨by rw [← unhide HF]; rfl, unhide HB⟩

set_option maxRecDepth 10000 in
theorem specCen (v : Value) (xs : List DCenter) (w : World) (h : (Lay.sl Lay.tCenter).Reads w [v] xs) :
    Calls Try.prog 61 #[v] w fun e w' => e = .returned (.int .i64 (centersFault xs)) ∧ Below w.heap.size w w' := by
  have hbig := h.big
  obtain ⟨ao, cap, rfl⟩ := open_sl h
  by_cases hn : xs.length < 1 ∨ 6 < xs.length
  · have e : centersFault xs = 2 := by unfold centersFault; rw [if_pos hn]
    rw [e]
    clear h e
    go_enter Try.func61, Try.ntmps61
    by_cases h1 : xs.length < 1
    · have d1 : decide ((xs.length : Int) < 1) = true := by simp; omega
      go_wp2_with fail
      go_ret
      exact ⟨rfl, Below.refl _ _⟩
    · have d1 : decide ((xs.length : Int) < 1) = false := by simp; omega
      have d2 : decide ((6 : Int) < (xs.length : Int)) = true := by simp; omega
      go_wp2_with fail
      go_ret
      exact ⟨rfl, Below.refl _ _⟩
  · have e : centersFault xs = cenFrom xs := by unfold centersFault; rw [if_neg hn]
    rw [e]
    obtain ⟨b, off, rfl, hbl⟩ := Lay.sl_addr h (by omega)
    exact specCen_pos b off cap xs w (by omega) h hbl

end Go.Proofs.Ytjofcmdlcoganaa

namespace Go.Proofs.Ytjofcmdlcoganaa
open Go.RowKit

theorem inC (v lo hi : Int) (w : World) :
    Calls Try.prog 51 #[.int .i64 v, .int .i64 lo, .int .i64 hi] w fun e w' => e = .returned (.bool (decide (lo ≤ v) && decide (v ≤ hi))) ∧ w' = w := by
  by_cases h1 : lo ≤ v
  · have d1 : decide (lo ≤ v) = true := by simpa using h1
    rw [d1]
    cases d2 : decide (v ≤ hi) <;>
    · go_enter Try.func51, Try.ntmps51
      go_wp2_with fail
      go_ret
      exact ⟨rfl, rfl⟩
  · have d1 : decide (lo ≤ v) = false := by simpa using h1
    rw [d1]
    go_enter Try.func51, Try.ntmps51
    go_wp2_with fail
    go_ret
    exact ⟨rfl, rfl⟩
theorem idC (x : Int) (w : World) : Calls Try.prog 84 #[.int .i64 x] w fun e w' => e = .returned (.bool (decide (1 ≤ x) && decide (x ≤ 999))) ∧ w' = w := by
  go_enter Try.func84, Try.ntmps84
  go_wp2_with fail
  refine (inC x 1 999 _).mono ?_
  rintro e w1 ⟨rfl, rfl⟩
  go_wp2_with fail
  go_ret
  exact ⟨rfl, rfl⟩

end Go.Proofs.Ytjofcmdlcoganaa

namespace Go.Proofs.Ytjofcmdlcoganaa
open Go.RowKit

set_option maxRecDepth 100000 in
set_option maxHeartbeats 1000000 in
theorem specTab_pos (b off cap : Nat) (xs : List DItem) (w : World) (hn : xs.length ≤ 30) (h : (Lay.sl Lay.tItem).Reads w [.slice (some ⟨b, off, none⟩) xs.length cap] xs) (hbl : b < w.heap.size) :
    Calls Try.prog 50 #[.slice (some ⟨b, off, none⟩) xs.length cap] w fun e w' => e = .returned (.int .i64 (tabFrom none xs)) ∧ Below w.heap.size w w' := by
  generalize hF0 : tabFrom none xs = F0
  have H := hide h
  clear h
  go_enter Try.func50, Try.ntmps50
  go_wp2_with fail
  go_loopw [3] (fun i wr => ∃ k : Nat, k ≤ xs.length ∧ i = .int .i64 k ∧ tabFrom (idAhead xs k) (xs.drop k) = F0 ∧ Below w.heap.size w wr) (fun i _ => xs.length - (intOf i).toNat)
  case atStart => exact ⟨0, Nat.zero_le _, rfl, hF0, Below.refl _ _⟩
  case round =>
    obtain ⟨k, hk, rfl, hF, hB⟩ := hrel
    by_cases hlt : k < xs.length
    · obtain ⟨row, hc, hr⟩ := Lay.row_at (unhide H) hlt
      replace hr := hr.later hB
      obtain ⟨a1, d1, rfl, R1⟩ := open_Item hr
      have c0 : wr.cell? ⟨b, off + k * 2, none⟩ = some (.int .i64 (xs[k]).id) := (hB.cell (p := ⟨b, off + k * 2, none⟩) hbl).trans (hc 0 (by decide))
      have c1 : wr.cell? ⟨b, off + k * 2 + 1, none⟩ = some (.slice a1 (xs[k]).vec.length d1) := (hB.cell (p := ⟨b, off + k * 2 + 1, none⟩) hbl).trans (hc 1 (by decide))
      have HP : Hid (∀ m, k = m + 1 → ∃ z, idAhead xs (m + 1) = some z ∧ wr.cell? ⟨b, off + m * 2, none⟩ = some (.int .i64 z)) := by
        rintro m rfl
        have hm : m < xs.length := by omega
        obtain ⟨row2, hc2, hr2⟩ := Lay.row_at (unhide H) hm
        obtain ⟨a2, d2, rfl, -⟩ := open_Item hr2
        exact ⟨_, idAhead_succ xs m hm, (hB.cell (p := ⟨b, off + m * 2, none⟩) hbl).trans (hc2 0 (by decide))⟩
      rw [tabFrom_step xs k hlt] at hF
      clear hc hr
      generalize hx : xs[k] = x at *
      clear hx
      have hbr : b < wr.heap.size := Nat.lt_of_lt_of_le hbl hB.size
      have I1 := hide (Lay.ints_reads R1)
      have HF := hide hF
      have B1 := hide hB
      clear R1 hF hB
      go_wp2_with fail
      refine (idC x.id _).mono ?_
      rintro e w1 ⟨rfl, rfl⟩
      rw [show (decide (1 ≤ x.id) && decide (x.id ≤ 999)) = idB x.id from rfl]
      cases hid : idB x.id with
      | false =>
        have hF := unhide HF
        rw [hid, if_neg (by simp)] at hF
        have HF2 := hide hF
        clear HF hF hid HP
        go_wp2_with fail
        go_ret
        exact ⟨by rw [← unhide HF2]; rfl, unhide B1⟩
      | true =>
        have hF := unhide HF
        rw [hid, if_pos rfl] at hF
        clear HF hid
        have HF := hide hF
        clear hF
        go_wp2_with fail
        refine (modelFault _ x.vec _ (unhide I1)).mono ?_
        rintro e w1 ⟨rfl, rfl⟩
        by_cases hv : vecFault x.vec = 0
        · rw [hv]
          have hF := unhide HF
          rw [if_pos hv] at hF
          clear HF I1 hv
          have HF := hide hF
          clear hF
          by_cases hk0 : k = 0
          · subst hk0
            have hF := unhide HF
            rw [idAhead_zero, Option.all_none, if_pos rfl] at hF
            have HF3 := hide hF
            clear HF hF HP
            have g0 : decide ((0 : Int) < 0) = false := by decide
            go_wp2_with fail
            go_quiet (fail)
            all_goals go_wp2_with fail
            all_goals exact ⟨⟨0 + 1, by omega, by go_num, unhide HF3, below_drewN (unhide B1) _⟩, by simp [intOf]; omega⟩
          · obtain ⟨m, rfl⟩ : ∃ m, k = m + 1 := ⟨k - 1, by omega⟩
            obtain ⟨z, e1, p0⟩ := unhide HP m rfl
            have hF := unhide HF
            rw [e1, Option.all_some] at hF
            have HF3 := hide hF
            clear HF hF HP e1 hk0
            have g1 : decide ((0 : Int) < (m : Int) + 1) = true := by simp
            have g4 : IntKind.i64.wrap ((m : Int) + 1 - 1) = (m : Int) := by simp only [IntKind.wrap_i64]; omega
            have g9 : IntKind.i64.wrap (m : Int) = (m : Int) := by simp only [IntKind.wrap_i64]; omega
            have g2 : (m : Int) + 1 - 1 = (m : Int) := by omega
            have g3 : (m : Int) < (xs.length : Int) := by omega
            have g5 : (0 : Int) ≤ (m : Int) := by omega
            have g6 : (m : Int) + 1 < (xs.length : Int) := by omega
            have g7 : (0 : Int) ≤ (m : Int) + 1 := by omega
            have g8 : ((m : Int) + 1).toNat = m + 1 := by omega
            cases hq : decide (z < x.id) with
            | true =>
              have hF := unhide HF3
              rw [hq, if_pos rfl] at hF
              have HF4 := hide hF
              have q1 : decide (x.id ≤ z) = false := by simp at hq ⊢; omega
              clear hF HF3 hq
              go_wp2_with fail
              go_quiet (fail)
              all_goals go_wp2_with fail
              all_goals exact ⟨⟨m + 1 + 1, by omega, by go_num, unhide HF4, below_drewN (unhide B1) _⟩, by simp [intOf]; omega⟩
            | false =>
              have hF := unhide HF3
              rw [hq, if_neg (by simp)] at hF
              have HF4 := hide hF
              have q1 : decide (x.id ≤ z) = true := by simp at hq ⊢; omega
              clear hF HF3 hq
              go_wp2_with fail
              go_quiet (fail)
              all_goals go_wp2_with fail
              all_goals go_ret
              all_goals exact ⟨by rw [← unhide HF4]; rfl, below_drewN (unhide B1) _⟩
        · have hF := unhide HF
          rw [if_neg hv] at hF
          have hd : (vecFault x.vec != 0) = true := by simpa using hv
          have HF2 := hide hF
          clear HF hF HP I1 hv
          go_wp2_with fail
          go_ret
          exact ⟨by rw [← unhide HF2]; rfl, unhide B1⟩
    · obtain rfl : k = xs.length := by omega
      rw [List.drop_length] at hF
      have HF := hide hF
      have HB := hide hB
      clear hF hB H
      go_wp2_with fail
      go_ret
      exact ⟨by rw [← unhide HF]; rfl, unhide HB⟩

set_option maxRecDepth 10000 in
/-- l4Fault of the model. -/
theorem specTab (v : Value) (xs : List DItem) (w : World) (h : (Lay.sl Lay.tItem).Reads w [v] xs) :
    Calls Try.prog 50 #[v] w fun e w' => e = .returned (.int .i64 (tableFault xs)) ∧ Below w.heap.size w w' := by
  obtain ⟨ao, cap, rfl⟩ := open_sl h
  by_cases hn : xs.length ≤ 30
  · have e : tableFault xs = tabFrom none xs := by unfold tableFault; rw [if_neg (by omega)]
    rw [e]
    by_cases hp : 0 < xs.length
    · obtain ⟨b, off, rfl, hbl⟩ := Lay.sl_addr h hp
      exact specTab_pos b off cap xs w hn h hbl
    · obtain rfl : xs = [] := List.eq_nil_of_length_eq_zero (by omega)
      clear h e hn hp
      go_enter Try.func50, Try.ntmps50
      go_wp2_with fail
      refine wp_loop_rounds 1 ?_
      rw [rounds_succ]
      go_wp2_with fail
      go_ret
      exact ⟨rfl, Below.refl _ _⟩
  · have e : tableFault xs = 2 := by unfold tableFault; rw [if_pos (by omega)]
    rw [e]
    have hd : decide ((30 : Int) < (xs.length : Int)) = true := by simp; omega
    clear h e
    go_enter Try.func50, Try.ntmps50
    go_wp2_with fail
    go_ret
    exact ⟨rfl, Below.refl _ _⟩

end Go.Proofs.Ytjofcmdlcoganaa

namespace Go.Proofs.Ytjofcmdlcoganaa
open Go.RowKit

set_option maxRecDepth 10000 in
theorem specAsk6 (v : Value) (cs : List DCenter) (vx : Value) (xs : List DItem) (w : World) (hcs : (Lay.sl Lay.tCenter).Reads w [v] cs) (h : (Lay.sl Lay.tItem).Reads w [vx] xs) :
    Calls Try.prog 59 #[v, vx] w fun e w' => e = .returned (.int .i64 (askFault cs xs)) ∧ Below w.heap.size w w' := by
  have HX := hide h
  have L := hide (specCen v cs w hcs)
  obtain ⟨ao, cap, rfl⟩ := open_sl hcs
  obtain ⟨ao2, cap2, rfl⟩ := open_sl h
  clear hcs h
  go_enter Try.func59, Try.ntmps59
  go_wp2_with fail
  refine (unhide L).mono ?_
  rintro e w1 ⟨rfl, hb⟩
  have L2 := hide (specTab _ xs w1 ((unhide HX).later hb))
  have HB := hide hb
  clear hb L HX
  by_cases hf : centersFault cs = 0
  · have HG : Hid (askFault cs xs = tableFault xs) := if_pos hf
    rw [hf]
    clear hf
    go_wp2_with fail
    refine (unhide L2).mono ?_
    rintro e w2 ⟨rfl, hb2⟩
    have HB2 := hide ((unhide HB).trans (hb2.mono (unhide HB).size))
    clear hb2 L2 HB
    go_wp2_with fail
    go_ret
    exact ⟨by rw [unhide HG]; rfl, unhide HB2⟩
  · have HG : Hid (askFault cs xs = centersFault cs) := if_neg hf
    have hd : (centersFault cs != 0) = true := by simpa using hf
    clear hf L2
    go_wp2_with fail
    go_ret
    exact ⟨by rw [unhide HG]; rfl, unhide HB⟩

end Go.Proofs.Ytjofcmdlcoganaa

namespace Go.Proofs.Ytjofcmdlcoganaa
open Go.RowKit

set_option maxRecDepth 100000 in
set_option maxHeartbeats 2000000 in
theorem specNear_pos (b off cap : Nat) (cs : List DCenter) (a2 : Option Addr) (d2 : Nat) (q : List Int) (w : World) (h : (Lay.sl Lay.tCenter).Reads w [.slice (some ⟨b, off, none⟩) cs.length cap] cs) (hbl : b < w.heap.size) (hq : IsInts w (.slice a2 q.length d2) q) (hc0 : centersFault cs = 0) (hv : vecFault q = 0) :
    Calls Try.prog 65 #[.slice (some ⟨b, off, none⟩) cs.length cap, .slice a2 q.length d2] w fun e w' => e = .returned (.int .i64 (near cs q : Nat)) ∧ Below w.heap.size w w' := by
  obtain ⟨hn, hall⟩ := centersFault_zero hc0
  have HQ := hide hq
  have HA := hide hall
  have HV := hide hv
  have H := hide h
  have HN : Hid (near cs q = (nearK cs q cs.length).1) := rfl
  have H1 : Hid (nearK cs q 1 = (0, score3 cs[0].vec q)) := by
    show nearK cs q 1 = _
    have hs := cscore_bd (hall cs[0] (List.getElem_mem (by omega))) hv
    rw [nearK_step cs q 0 (by omega), if_pos (by simp only [nearK]; omega)]
  clear h hq hall hc0 hv
  go_enter Try.func65, Try.ntmps65
  go_wp2_with fail
  go_loopw [5, 6] (fun a i wr => ∃ k : Nat, 1 ≤ k ∧ k ≤ cs.length ∧ i = .int .i64 k ∧ a = .int .i64 ((nearK cs q k).1 : Nat) ∧ Below w.heap.size w wr) (fun _ i _ => cs.length - (intOf i).toNat)
  case atStart => exact ⟨1, Nat.le_refl _, hn.1, rfl, by rw [unhide H1]; rfl, Below.refl _ _⟩
  case round =>
    obtain ⟨k, hk1, hk, rfl, rfl, hB⟩ := hrel
    clear H1
    by_cases hlt : k < cs.length
    · obtain ⟨row, hc, hr⟩ := Lay.row_at (unhide H) hlt
      obtain ⟨a1, d1, rfl, R1⟩ := open_Center hr
      have c1 : w.cell? ⟨b, off + k, none⟩ = some (.slice a1 (cs[k]).vec.length d1) := cen_cell (hc 0 (by decide))
      have HS := hide (nearK_step cs q k hlt)
      obtain ⟨hm1, hm2, -, -⟩ := nearK_right (unhide HA) (unhide HV) k hk1 hk
      have hm3 : (nearK cs q k).1 < cs.length := by omega
      rw [getD_at hm3] at hm2
      obtain ⟨row2, hc2, hr2⟩ := Lay.row_at (unhide H) hm3
      obtain ⟨a3, d3, rfl, R2⟩ := open_Center hr2
      have c2 : w.cell? ⟨b, off + (nearK cs q k).1, none⟩ = some (.slice a3 (cs[(nearK cs q k).1]).vec.length d3) := cen_cell (hc2 0 (by decide))
      have hvx := unhide HA cs[k] (List.getElem_mem hlt)
      have hvy := unhide HA cs[(nearK cs q k).1] (List.getElem_mem hm3)
      clear hc hr hc2 hr2
      generalize hx : cs[k] = x at *
      clear hx
      generalize hy : cs[(nearK cs q k).1] = y at *
      clear hy
      generalize hs : nearK cs q k = s at *
      clear hs
      obtain ⟨m, sl⟩ := s
      simp only at hm1 hm2 hm3 c2 ⊢
      have HM2 := hide hm2
      have I1 := hide (Lay.ints_reads R1)
      have I2 := hide (Lay.ints_reads R2)
      have HX := hide hvx
      have HY := hide hvy
      have HB := hide hB
      clear R1 R2 hB hvx hvy hm2
      have i1 : (0 : Int) ≤ (k : Int) := by omega
      have i2 : (k : Int) < (cs.length : Int) := by omega
      have i3 : (0 : Int) ≤ (m : Int) := by omega
      have i4 : (m : Int) < (cs.length : Int) := by omega
      go_wp2_with fail
      refine wp_region_noPanic ?_
      refine wp_region_held_drew (S := fun w' => Below w.heap.size w w') (by kernel_rfl) (unhide HB).drew (fun hHeld => ?_)
      generalize wr.drew = wD at hHeld ⊢
      refine wpAnyH_take (i := 0) (oi := { dst := some 13, op := Go.Op.move (Go.Operand.tmp 0), type := 28, pos := "l06_center.go:24", after := #[], guard := none }) (v := ?v0) rfl (by kernel_rfl) (by kernel_rfl) (by kernel_rfl) (fun _ _ _ h => h) (Or.inl ⟨by rfl, ?h0⟩) hHeld ?r0
      case h0 =>
        intro wS hSw
        (try dsimp only at hSw)
        go_simp
        try with_reducible rfl
      case r0 =>
      simp only [Act.put, List.setIfInBounds_toArray, List.set_cons_zero, List.set_cons_succ]
      refine wpAnyH_take (i := 1) (oi := { dst := some 14, op := Go.Op.move (Go.Operand.tmp 6), type := 3, pos := "l06_center.go:24", after := #[], guard := none }) (v := ?v1) rfl (by kernel_rfl) (by kernel_rfl) (by kernel_rfl) (fun _ _ _ h => h) (Or.inl ⟨by rfl, ?h1⟩) hHeld ?r1
      case h1 =>
        intro wS hSw
        (try dsimp only at hSw)
        go_simp
        try with_reducible rfl
      case r1 =>
      simp only [Act.put, List.setIfInBounds_toArray, List.set_cons_zero, List.set_cons_succ]
      refine wpAnyH_take (i := 2) (oi := { dst := some 15, op := Go.Op.indexAddr 28 (Go.Operand.tmp 13) (Go.Operand.tmp 14), type := 0, pos := "l06_center.go:24", after := #[{ on := 0, ground := Go.Ground.data }, { on := 1, ground := Go.Ground.data }], guard := none }) (v := ?v2) rfl (by kernel_rfl) (by kernel_rfl) (by kernel_rfl) (fun _ _ _ h => h) (Or.inl ⟨by rfl, ?h2⟩) hHeld ?r2
      case h2 =>
        intro wS hSw
        (try dsimp only at hSw)
        go_simp
        try with_reducible rfl
      case r2 =>
      simp only [Act.put, List.setIfInBounds_toArray, List.set_cons_zero, List.set_cons_succ]
      refine wpAnyH_take (i := 3) (oi := { dst := some 16, op := Go.Op.fieldAddr 77 (Go.Operand.tmp 15) 0, type := 0, pos := "l06_center.go:24", after := #[{ on := 2, ground := Go.Ground.data }], guard := none }) (v := ?v3) rfl (by kernel_rfl) (by kernel_rfl) (by kernel_rfl) (fun _ _ _ h => h) (Or.inl ⟨by rfl, ?h3⟩) hHeld ?r3
      case h3 =>
        intro wS hSw
        (try dsimp only at hSw)
        go_simp
        try with_reducible rfl
      case r3 =>
      simp only [Act.put, List.setIfInBounds_toArray, List.set_cons_zero, List.set_cons_succ]
      refine wpAnyH_take (i := 4) (oi := { dst := some 17, op := Go.Op.load 25 (Go.Operand.tmp 16), type := 25, pos := "l06_center.go:24", after := #[{ on := 3, ground := Go.Ground.data }], guard := none }) (v := ?v4) rfl (by kernel_rfl) (by kernel_rfl) (by kernel_rfl) (fun _ _ _ h => h) (Or.inl ⟨by rfl, ?h4⟩) hHeld ?r4
      case h4 =>
        intro wS hSw
        have y1 := (hSw.cell (p := ⟨b, off + k, none⟩) hbl).trans c1
        clear hSw
        (try dsimp only at hSw)
        go_simp
        try with_reducible rfl
      case r4 =>
      simp only [Act.put, List.setIfInBounds_toArray, List.set_cons_zero, List.set_cons_succ]
      refine wpAnyH_take (i := 5) (oi := { dst := some 18, op := Go.Op.move (Go.Operand.tmp 1), type := 25, pos := "l06_center.go:24", after := #[], guard := none }) (v := ?v5) rfl (by kernel_rfl) (by kernel_rfl) (by kernel_rfl) (fun _ _ _ h => h) (Or.inl ⟨by rfl, ?h5⟩) hHeld ?r5
      case h5 =>
        intro wS hSw
        (try dsimp only at hSw)
        go_simp
        try with_reducible rfl
      case r5 =>
      simp only [Act.put, List.setIfInBounds_toArray, List.set_cons_zero, List.set_cons_succ]
      refine wpAnyH_take (i := 7) (oi := { dst := some 20, op := Go.Op.move (Go.Operand.tmp 0), type := 28, pos := "l06_center.go:24", after := #[], guard := none }) (v := ?v7) rfl (by kernel_rfl) (by kernel_rfl) (by kernel_rfl) (fun _ _ _ h => h) (Or.inl ⟨by rfl, ?h7⟩) hHeld ?r7
      case h7 =>
        intro wS hSw
        (try dsimp only at hSw)
        go_simp
        try with_reducible rfl
      case r7 =>
      simp only [Act.put, List.setIfInBounds_toArray, List.set_cons_zero, List.set_cons_succ]
      refine wpAnyH_take (i := 8) (oi := { dst := some 21, op := Go.Op.move (Go.Operand.tmp 5), type := 3, pos := "l06_center.go:24", after := #[], guard := none }) (v := ?v8) rfl (by kernel_rfl) (by kernel_rfl) (by kernel_rfl) (fun _ _ _ h => h) (Or.inl ⟨by rfl, ?h8⟩) hHeld ?r8
      case h8 =>
        intro wS hSw
        (try dsimp only at hSw)
        go_simp
        try with_reducible rfl
      case r8 =>
      simp only [Act.put, List.setIfInBounds_toArray, List.set_cons_zero, List.set_cons_succ]
      refine wpAnyH_take (i := 9) (oi := { dst := some 22, op := Go.Op.indexAddr 28 (Go.Operand.tmp 20) (Go.Operand.tmp 21), type := 0, pos := "l06_center.go:24", after := #[{ on := 7, ground := Go.Ground.data }, { on := 8, ground := Go.Ground.data }], guard := none }) (v := ?v9) rfl (by kernel_rfl) (by kernel_rfl) (by kernel_rfl) (fun _ _ _ h => h) (Or.inl ⟨by rfl, ?h9⟩) hHeld ?r9
      case h9 =>
        intro wS hSw
        (try dsimp only at hSw)
        go_simp
        try with_reducible rfl
      case r9 =>
      simp only [Act.put, List.setIfInBounds_toArray, List.set_cons_zero, List.set_cons_succ]
      refine wpAnyH_take (i := 10) (oi := { dst := some 23, op := Go.Op.fieldAddr 77 (Go.Operand.tmp 22) 0, type := 0, pos := "l06_center.go:24", after := #[{ on := 9, ground := Go.Ground.data }], guard := none }) (v := ?v10) rfl (by kernel_rfl) (by kernel_rfl) (by kernel_rfl) (fun _ _ _ h => h) (Or.inl ⟨by rfl, ?h10⟩) hHeld ?r10
      case h10 =>
        intro wS hSw
        (try dsimp only at hSw)
        go_simp
        try with_reducible rfl
      case r10 =>
      simp only [Act.put, List.setIfInBounds_toArray, List.set_cons_zero, List.set_cons_succ]
      refine wpAnyH_take (i := 11) (oi := { dst := some 24, op := Go.Op.load 25 (Go.Operand.tmp 23), type := 25, pos := "l06_center.go:24", after := #[{ on := 10, ground := Go.Ground.data }], guard := none }) (v := ?v11) rfl (by kernel_rfl) (by kernel_rfl) (by kernel_rfl) (fun _ _ _ h => h) (Or.inl ⟨by rfl, ?h11⟩) hHeld ?r11
      case h11 =>
        intro wS hSw
        have y1 := (hSw.cell (p := ⟨b, off + m, none⟩) hbl).trans c2
        clear hSw
        (try dsimp only at hSw)
        go_simp
        try with_reducible rfl
      case r11 =>
      simp only [Act.put, List.setIfInBounds_toArray, List.set_cons_zero, List.set_cons_succ]
      refine wpAnyH_take (i := 12) (oi := { dst := some 25, op := Go.Op.move (Go.Operand.tmp 1), type := 25, pos := "l06_center.go:24", after := #[], guard := none }) (v := ?v12) rfl (by kernel_rfl) (by kernel_rfl) (by kernel_rfl) (fun _ _ _ h => h) (Or.inl ⟨by rfl, ?h12⟩) hHeld ?r12
      case h12 =>
        intro wS hSw
        (try dsimp only at hSw)
        go_simp
        try with_reducible rfl
      case r12 =>
      simp only [Act.put, List.setIfInBounds_toArray, List.set_cons_zero, List.set_cons_succ]
      refine wpAnyH_ready (rs := [6]) (by kernel_rfl) (by simp) ?_
      refine AllReadyH.cons (o := { dst := some 19, op := Go.Op.call { callee := Go.Callee.value (Go.Operand.func 86), args := #[Go.Operand.tmp 17, Go.Operand.tmp 18], argTypes := #[25, 25] }, type := 2, pos := "l06_center.go:24", after := #[{ on := 4, ground := Go.Ground.data }, { on := 5, ground := Go.Ground.data }], guard := none }) rfl (fun K hK => ?_) AllReadyH.nil
      go_simp
      go_at_call 86
      refine (modelScore3 _ _ x.vec q _ ((unhide I1).later hHeld) ((unhide HQ).later hHeld) (unhide HX) (unhide HV)).mono ?_
      rintro e w3 ⟨rfl, hbw⟩
      try go_wp2_with fail
      refine hK.out _ _ (hHeld.trans (hbw.mono hHeld.size)) (fun hHeld => ?_)
      clear hK K
      try simp only [Act.put, List.setIfInBounds_toArray, List.set_cons_zero, List.set_cons_succ]
      refine wpAnyH_ready (rs := [13]) (by kernel_rfl) (by simp) ?_
      refine AllReadyH.cons (o := { dst := some 26, op := Go.Op.call { callee := Go.Callee.value (Go.Operand.func 86), args := #[Go.Operand.tmp 24, Go.Operand.tmp 25], argTypes := #[25, 25] }, type := 2, pos := "l06_center.go:24", after := #[{ on := 11, ground := Go.Ground.data }, { on := 12, ground := Go.Ground.data }, { on := 6, ground := Go.Ground.chain }], guard := none }) rfl (fun K hK => ?_) AllReadyH.nil
      go_simp
      go_at_call 86
      refine (modelScore3 _ _ y.vec q _ ((unhide I2).later hHeld) ((unhide HQ).later hHeld) (unhide HY) (unhide HV)).mono ?_
      rintro e w3 ⟨rfl, hbw⟩
      try go_wp2_with fail
      refine hK.out _ _ (hHeld.trans (hbw.mono hHeld.size)) (fun hHeld => ?_)
      clear hK K
      try simp only [Act.put, List.setIfInBounds_toArray, List.set_cons_zero, List.set_cons_succ]
      refine wpAnyH_take (i := 14) (oi := { dst := some 27, op := Go.Op.binOp Go.BinOp.lss 2 (Go.Operand.tmp 19) (Go.Operand.tmp 26) 2, type := 4, pos := "l06_center.go:24", after := #[{ on := 6, ground := Go.Ground.data }, { on := 13, ground := Go.Ground.data }], guard := none }) (v := ?v14) rfl (by kernel_rfl) (by kernel_rfl) (by kernel_rfl) (fun _ _ _ h => h) (Or.inl ⟨by rfl, ?h14⟩) hHeld ?r14
      case h14 =>
        intro wS hSw
        (try dsimp only at hSw)
        go_simp
        try with_reducible rfl
      case r14 =>
      simp only [Act.put, List.setIfInBounds_toArray, List.set_cons_zero, List.set_cons_succ]
      refine wpAnyH_done (by kernel_rfl) ?_ _
      refine NoPanic.normal ?_
      have HB3 := hide hHeld
      clear hHeld c1 c2 HB I1 I2
      have hS2 := unhide HS
      rw [unhide HM2] at hS2
      have HS2 := hide hS2
      clear hS2 HS
      cases hd : decide (score3 x.vec q < score3 y.vec q) with
      | true =>
        have HS3 : Hid (nearK cs q (k + 1) = (k, score3 x.vec q)) := (unhide HS2).trans (if_pos (by simpa using hd))
        clear HS2
        go_wp2_with fail
        go_roundw
        case rel => exact ⟨k + 1, by omega, by omega, by go_num, by rw [unhide HS3], unhide HB3⟩
        case measure => simp [intOf]; omega
      | false =>
        have HS3 : Hid (nearK cs q (k + 1) = (m, score3 y.vec q)) := (unhide HS2).trans (if_neg (by simpa using hd))
        clear HS2
        go_wp2_with fail
        go_roundw
        case rel => exact ⟨k + 1, by omega, by omega, by go_num, by rw [unhide HS3], unhide HB3⟩
        case measure => simp [intOf]; omega
    · obtain rfl : k = cs.length := by omega
      have HB := hide hB
      clear hB H
      go_wp2_with fail
      go_ret
      exact ⟨rfl, unhide HB⟩

theorem specNear (v : Value) (cs : List DCenter) (vq : Value) (q : List Int) (w : World) (h : (Lay.sl Lay.tCenter).Reads w [v] cs) (hq : IsInts w vq q) (hc : centersFault cs = 0) (hv : vecFault q = 0) :
    Calls Try.prog 65 #[v, vq] w fun e w' => e = .returned (.int .i64 (near cs q : Nat)) ∧ Below w.heap.size w w' := by
  obtain ⟨ao, cap, rfl⟩ := open_sl h
  have hvq : ∃ a d, vq = .slice a q.length d := by obtain ⟨a, d, e, -⟩ := hq; exact ⟨a, d, e⟩
  obtain ⟨a2, d2, rfl⟩ := hvq
  obtain ⟨b, off, rfl, hbl⟩ := Lay.sl_addr h (centersFault_zero hc).1.1
  exact specNear_pos b off cap cs a2 d2 q w h hbl hq hc hv

end Go.Proofs.Ytjofcmdlcoganaa
