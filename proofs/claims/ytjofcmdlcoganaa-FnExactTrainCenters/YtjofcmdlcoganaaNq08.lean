/-
  Texts of this proof in one: ImplMoved, ImplCost6, ImplTrain, InB, SpecTab, SpecCen.
  Their conditions stand in their theorems.
-/
import Derived.Test.YtjofcmdlcoganaaNq06
import Derived.Test.YtjofcmdlcoganaaNq07
import Derived.Test.YtjofcmdlcoganaaNq05
import Derived.Test.YtjofcmdlcoganaaChecked
import Derived.Test.YtjofcmdlcoganaaNq01
import Derived.Test.YtjofcmdlcoganaaNq02
import Derived.Test.YtjofcmdlcoganaaNq04
import Derived.BigQuiet
import Derived.Deep.QuietTactic
import Derived.Deep.RegionHeld3

namespace Go.Proofs.Ytjofcmdlcoganaa
open Go.RowKit

theorem sumF_bd (cs : List DCenter) {xs : List DItem} (hl : xs.length ≤ 30) (hx : ∀ x ∈ xs, vecFault x.vec = 0) (p j : Nat) (hj : j < 3) (k : Nat) (h : k ≤ xs.length) : -30000 ≤ sumF cs xs k p j ∧ sumF cs xs k p j ≤ 30000 := by
  have h1 := sumK_bd cs hx p j hj k h
  have h2 := cntK_bd cs xs p k
  unfold sumF
  omega

set_option maxRecDepth 100000 in
set_option maxHeartbeats 8000000 in
theorem movedC_pos (b0 off0 cap0 : Nat) (cs : List DCenter) (ao : Option Addr) (cap : Nat) (xs : List DItem) (w : World) (hcs : (Lay.sl Lay.tCenter).Reads w [.slice (some ⟨b0, off0, none⟩) cs.length cap0] cs) (hbl0 : b0 < w.heap.size) (h : (Lay.sl Lay.tItem).Reads w [.slice ao xs.length cap] xs) (hfc : centersFault cs = 0) (hft : tableFault xs = 0) :
    Calls Try.prog 49 #[.slice (some ⟨b0, off0, none⟩) cs.length cap0, .slice ao xs.length cap] w fun e w' => ∃ v', e = .returned v' ∧ (Lay.sl Lay.tCenter).OwnIn w' [v'] (moved cs xs) w.heap.size w'.heap.size ∧ Below w.heap.size w w' := by
  obtain ⟨hlen, hall, -⟩ := tableFault_zero hft
  obtain ⟨⟨hn1, hn6⟩, hcv⟩ := centersFault_zero hfc
  have hxv : ∀ x ∈ xs, vecFault x.vec = 0 := fun x hm => (hall x hm).2
  obtain ⟨i0, hi, hz0, hz1, hz2⟩ := info_parts infoCenF
  have HXV := hide hxv
  have HCV := hide hcv
  have HFC := hide hfc
  have HFT := hide hft
  have HC := hide hcs
  have HX := hide h
  clear hcs h hall hxv hfc hft hcv
  go_enter Try.func49, Try.ntmps49
  go_wp2_with fail
  refine (newSumsV cs.length hn6 w).mono ?_
  rintro e w1 ⟨g1, rfl, hg1, hS1, hb1⟩
  have hg1l := hS1.lt
  have nb1 : Below w1.heap.size w1 (w1.alloc (.cells #[.slice (some ⟨g1, 0, none⟩) cs.length cs.length, .func (.func 76) #[] #[]] 97)) := (Below.refl _ _).alloc (Nat.le_refl _) _
  have bX1 : Box w.heap.size #[.slice (some ⟨g1, 0, none⟩) cs.length cs.length, .func (.func 76) #[] #[]] 97 (w1.alloc (.cells #[.slice (some ⟨g1, 0, none⟩) cs.length cs.length, .func (.func 76) #[] #[]] 97)) w1.heap.size := newBox (by omega)
  have hsf : ∀ (W : World) (a : Addr), (store a (.func (.func 76) #[] #[])).run Try.prog W = stored Try.prog W a (.func (.func 76) #[] #[]) .plain := fun W a => run_store _ _ _ _ _ rfl
  have hsf2 : ∀ (W : World) (a : Addr), (store a (.func (.func 78) #[] #[])).run Try.prog W = stored Try.prog W a (.func (.func 78) #[] #[]) .plain := fun W a => run_store _ _ _ _ _ rfl
  have HS1 := hide (hS1.later nb1)
  have HB1 := hide (hb1.trans (nb1.mono hb1.size))
  have HX1 := hide bX1
  have hz1s : (w1.alloc (.cells #[.slice (some ⟨g1, 0, none⟩) cs.length cs.length, .func (.func 76) #[] #[]] 97)).heap.size = w1.heap.size + 1 := by simp
  clear hS1 hb1 nb1 bX1
  go_wp2_with fail
  generalize w1.alloc (.cells #[.slice (some ⟨g1, 0, none⟩) cs.length cs.length, .func (.func 76) #[] #[]] 97) = W1 at *
  refine (newSumsN cs.length hn6 W1).mono ?_
  rintro e w2 ⟨g2, rfl, hg2, hS2, hb2⟩
  have hg2l := hS2.lt
  have nb2 : Below w2.heap.size w2 (w2.alloc (.cells #[.slice (some ⟨g2, 0, none⟩) cs.length cs.length, .func (.func 78) #[] #[]] 103)) := (Below.refl _ _).alloc (Nat.le_refl _) _
  have hz0s : w.heap.size ≤ W1.heap.size := (unhide HB1).size
  have bX2 : Box w.heap.size #[.slice (some ⟨g2, 0, none⟩) cs.length cs.length, .func (.func 78) #[] #[]] 103 (w2.alloc (.cells #[.slice (some ⟨g2, 0, none⟩) cs.length cs.length, .func (.func 78) #[] #[]] 103)) w2.heap.size := newBox (by have := hb2.size; omega)
  replace HS1 := hide (((unhide HS1).later hb2).later nb2)
  replace HX1 := hide (((unhide HX1).keep hb2).keep nb2)
  have HS2 := hide (hS2.later nb2)
  have HX2 := hide bX2
  have HB2 := hide (((unhide HB1).trans (hb2.mono (unhide HB1).size)).trans (nb2.mono (Nat.le_trans (unhide HB1).size hb2.size)))
  clear hS2 hb2 nb2 bX2 HB1
  go_wp2_with fail
  generalize w2.alloc (.cells #[.slice (some ⟨g2, 0, none⟩) cs.length cs.length, .func (.func 78) #[] #[]] 103) = W2 at *
  go_loopw [24] (fun i wr => ∃ k : Nat, k ≤ xs.length ∧ i = .int .i64 k ∧ Sums3 wr g1 cs.length (sumF cs xs k) ∧ Sums1 wr g2 cs.length (cntF cs xs k) ∧ Box w.heap.size #[.slice (some ⟨g1, 0, none⟩) cs.length cs.length, .func (.func 76) #[] #[]] 97 wr w1.heap.size ∧ Box w.heap.size #[.slice (some ⟨g2, 0, none⟩) cs.length cs.length, .func (.func 78) #[] #[]] 103 wr w2.heap.size ∧ Below w.heap.size w wr) (fun i _ => xs.length - (intOf i).toNat)
  case atStart => exact ⟨0, Nat.zero_le _, rfl, unhide HS1, unhide HS2, unhide HX1, unhide HX2, unhide HB2⟩
  case round =>
    obtain ⟨k, hk, rfl, hS1, hS2, hX1, hX2, hB⟩ := hrel
    clear HS1 HS2 HX1 HX2 HB2
    by_cases hlt : k < xs.length
    · obtain ⟨b, off, rfl, hbl⟩ := Lay.sl_addr (unhide HX) (by omega)
      obtain ⟨row, hc, hr⟩ := Lay.row_at (unhide HX) hlt
      replace hr := hr.later hB
      obtain ⟨a1, d1, rfl, R1⟩ := open_Item hr
      have c0 : wr.cell? ⟨b, off + k * 2, none⟩ = some (.int .i64 (xs[k]).id) := (hB.cell (p := ⟨b, off + k * 2, none⟩) hbl).trans (hc 0 (by decide))
      have c1 : wr.cell? ⟨b, off + k * 2 + 1, none⟩ = some (.slice a1 (xs[k]).vec.length d1) := (hB.cell (p := ⟨b, off + k * 2 + 1, none⟩) hbl).trans (hc 1 (by decide))
      have hvx := unhide HXV xs[k] (List.getElem_mem hlt)
      have hp := near_lt (unhide HFC) hvx
      have q0 := sumF_bd cs hlen (unhide HXV) (near cs xs[k].vec) 0 (by omega) k hk
      have q1 := sumF_bd cs hlen (unhide HXV) (near cs xs[k].vec) 1 (by omega) k hk
      have q2 := sumF_bd cs hlen (unhide HXV) (near cs xs[k].vec) 2 (by omega) k hk
      have q3 : 0 ≤ cntF cs xs k (near cs xs[k].vec) ∧ cntF cs xs k (near cs xs[k].vec) ≤ k := cntK_bd cs xs _ k
      have HST := hide (sumF_step cs xs k hlt)
      have HCT := hide (cntF_step cs xs k hlt)
      clear hc hr
      generalize hx : xs[k] = x at *
      clear hx
      obtain ⟨p1, p2, p3, hv3⟩ := cvec3 hvx
      obtain ⟨v1, v2, v3⟩ := fault3 (hv3 ▸ hvx)
      have HV3 := hide hv3
      have nb : Below wr.heap.size wr (wr.alloc (.cells #[.int .i64 x.id, .slice a1 x.vec.length d1] 41)) := (Below.refl _ _).alloc (Nat.le_refl _) _
      have bI : Box wr.heap.size #[.int .i64 x.id, .slice a1 x.vec.length d1] 41 (wr.alloc (.cells #[.int .i64 x.id, .slice a1 x.vec.length d1] 41)) wr.heap.size := newBox (Nat.le_refl _)
      have HI := hide ((Lay.ints_reads R1).later nb)
      have HVX := hide hvx
      have L := hide (nearC _ cs _ x.vec _ (((unhide HC).later hB).later nb) (unhide HI) (unhide HFC) hvx)
      have HS1 := hide (hS1.later nb)
      have HS2 := hide (hS2.later nb)
      have HX1 := hide (hX1.keep nb)
      have HX2 := hide (hX2.keep nb)
      have HBI := hide bI
      have HB := hide (hB.trans (nb.mono hB.size))
      have hwr : w.heap.size ≤ wr.heap.size := hB.size
      have hl1 := hX1.lt
      have hl2 := hX2.lt
      clear R1 hB hvx nb bI hS1 hS2 hX1 hX2 hv3
      generalize nearS cs x.vec = ns at *
      generalize hnr : near cs x.vec = nr at *
      clear hnr
      go_wp2_with fail
      clear c0 c1
      generalize wr.alloc (.cells #[.int .i64 x.id, .slice a1 x.vec.length d1] 41) = W3 at *
      refine (unhide L).mono ?_
      rintro e w4 ⟨rfl, hb4⟩
      have bI := (unhide HBI).keep hb4
      have y1 : w4.cell? ⟨wr.heap.size, 1, none⟩ = some (.slice a1 x.vec.length d1) := bI.at 1 _ rfl
      replace HS1 := hide ((unhide HS1).later hb4)
      replace HS2 := hide ((unhide HS2).later hb4)
      replace HX1 := hide ((unhide HX1).keep hb4)
      replace HX2 := hide ((unhide HX2).keep hb4)
      replace HI := hide ((unhide HI).later hb4)
      replace HB := hide ((unhide HB).trans (hb4.mono (unhide HB).size))
      have hI4 := unhide HI
      rw [unhide HV3] at hI4
      have LV := hide (vectorOf_ok _ p1 p2 p3 w4 hI4 ((unhide HV3) ▸ (unhide HVX)))
      simp only [arr3] at LV
      rw [unhide HV3] at y1
      simp only [List.length_cons, List.length_nil, Nat.zero_add, Nat.reduceAdd] at y1 LV
      clear hb4 L HBI bI HI hI4
      go_wp2_with fail
      refine (unhide LV).mono ?_
      rintro e w5 ⟨rfl, hb5⟩
      have nb5 : Below w5.heap.size w5 (w5.alloc (.cells #[.int .i64 p1, .int .i64 p2, .int .i64 p3] 100)) := (Below.refl _ _).alloc (Nat.le_refl _) _
      have bV : Box w5.heap.size #[.int .i64 p1, .int .i64 p2, .int .i64 p3] 100 (w5.alloc (.cells #[.int .i64 p1, .int .i64 p2, .int .i64 p3] 100)) w5.heap.size := newBox (Nat.le_refl _)
      replace HS1 := hide (((unhide HS1).later hb5).later nb5)
      replace HS2 := hide (((unhide HS2).later hb5).later nb5)
      replace HX1 := hide (((unhide HX1).keep hb5).keep nb5)
      replace HX2 := hide (((unhide HX2).keep hb5).keep nb5)
      have hs5 : w.heap.size ≤ w5.heap.size := Nat.le_trans (unhide HB).size hb5.size
      replace HB := hide (((unhide HB).trans (hb5.mono (unhide HB).size)).trans (nb5.mono hs5))
      have x10 := (unhide HX1).at 0 _ rfl
      have x11 := (unhide HX1).at 1 _ rfl
      have v0 := bV.at 0 _ rfl
      have v1' := bV.at 1 _ rfl
      have v2' := bV.at 2 _ rfl
      simp only [List.getElem_toArray, List.getElem_cons_zero, List.getElem_cons_succ] at x10 x11 v0 v1' v2'
      have LA := hide (addSumV g1 cs.length cs.length nr (sumF cs xs k) p1 p2 p3 _ (unhide HS1) hp (by omega) (by omega) (by omega) (by omega) (by omega) (by omega))
      clear hb5 nb5 LV y1 bV
      go_wp2_with fail
      generalize w5.alloc (.cells #[.int .i64 p1, .int .i64 p2, .int .i64 p3] 100) = W5 at *
      refine (unhide LA).mono ?_
      rintro e w6 ⟨rfl, hS6, hE6⟩
      replace HS2 := hide ((unhide HS2).ext hE6 (by omega))
      replace HX1 := hide ((unhide HX1).ext hE6 (by omega))
      replace HX2 := hide ((unhide HX2).ext hE6 (by omega))
      replace HB := hide ((unhide HB).trans (hE6.below (unhide HB).size (fun c h1 h2 => by omega)))
      have x20 := (unhide HX2).at 0 _ rfl
      have x21 := (unhide HX2).at 1 _ rfl
      simp only [List.getElem_toArray, List.getElem_cons_zero, List.getElem_cons_succ] at x20 x21
      have LB := hide (addSumN g2 cs.length cs.length nr (cntF cs xs k) 1 w6 (unhide HS2) hp (by omega) (by omega))
      replace HS1 := hide hS6
      clear x10 x11 v0 v1' v2' LA hS6 hE6
      go_wp2_with fail
      refine (unhide LB).mono ?_
      rintro e w7 ⟨rfl, hS7, hE7⟩
      replace HS1 := hide (((unhide HS1).ext hE7 (by omega)).same (f' := sumF cs xs (k + 1)) (fun q j hj => by
        have := unhide HST q j hj
        rw [unhide HV3] at this
        exact this))
      replace HS2 := hide (hS7.same (f' := cntF cs xs (k + 1)) (fun q => unhide HCT q))
      replace HX1 := hide ((unhide HX1).ext hE7 (by omega))
      replace HX2 := hide ((unhide HX2).ext hE7 (by omega))
      replace HB := hide ((unhide HB).trans (hE7.below (unhide HB).size (fun c h1 h2 => by omega)))
      clear x20 x21 LB hS7 hE7
      go_wp2_with fail
      go_roundw
      case rel => exact ⟨k + 1, by omega, by go_num, unhide HS1, unhide HS2, unhide HX1, unhide HX2, unhide HB⟩
      case measure => simp [intOf]; omega
    · obtain rfl : k = xs.length := by omega
      rename World => wz
      have HS1 := hide hS1
      have HS2 := hide hS2
      have HX1 := hide hX1
      have HX2 := hide hX2
      have HB := hide hB
      have hwr : w.heap.size ≤ wz.heap.size := hB.size
      have hl1 := hX1.lt
      have hl2 := hX2.lt
      have hg1r := hS1.lt
      have hg2r := hS2.lt
      clear hS1 hS2 hX1 hX2 hB
      go_wp2_with (at_make; refine wpList_make_full _ rfl _ _ 28 rfl wz.heap.size 77 i0 _ 1 Try.underlying28 hi hz0 hz1 _ _ _ _ cs.length rfl rfl rfl rfl ?c1 ?c2 ?c3 ?_)
      case c1 => rw [hz2]; omega
      case c2 => unfold maxLen; omega
      case c3 => exact Nat.le_refl _
      intro w8 hown8 hgrow8
      have hB8 : Below wz.heap.size wz w8 := (Below.refl _ _).grown hgrow8 (Nat.le_refl _) (by simp)
      have HF8 := hide (FillC.start (moved cs xs) hown8)
      have HB8 := hide hB8
      clear hown8 hgrow8 hB8 hi hz0 hz1 hz2
      go_wp2_with fail
      go_loopw [54] (fun i wr => ∃ p : Nat, p ≤ cs.length ∧ i = .int .i64 p ∧ FillC wr wz.heap.size cs.length p (moved cs xs) ∧ Below wz.heap.size wz wr) (fun i _ => cs.length - (intOf i).toNat)
      case atStart => exact ⟨0, Nat.zero_le _, rfl, unhide HF8, unhide HB8⟩
      case round =>
        obtain ⟨p, hp, rfl, hF, hBq⟩ := hrel
        clear HF8 HB8
        by_cases hlp : p < cs.length
        · have hX2q := (unhide HX2).keep hBq
          have hX1q := (unhide HX1).keep hBq
          have hS1q := (unhide HS1).later hBq
          have hS2q := (unhide HS2).later hBq
          have x20 := hX2q.at 0 _ rfl
          have x10 := hX1q.at 0 _ rfl
          simp only [List.getElem_toArray, List.getElem_cons_zero] at x20 x10
          have k0 : wr.cell? ⟨g2, p, none⟩ = some (.int .i64 (cnt cs xs p)) := hS2q.cell p hlp
          have s0 : wr.cell? ⟨g1, p * 3, none⟩ = some (.int .i64 (sumK cs xs p 0 xs.length)) := hS1q.cell p hlp 0 (by omega)
          have s1 : wr.cell? ⟨g1, p * 3 + 1, none⟩ = some (.int .i64 (sumK cs xs p 1 xs.length)) := hS1q.cell p hlp 1 (by omega)
          have s2 : wr.cell? ⟨g1, p * 3 + 2, none⟩ = some (.int .i64 (sumK cs xs p 2 xs.length)) := hS1q.cell p hlp 2 (by omega)
          have HT := hide (moved_take cs xs p hlp)
          have HF := hide hF
          have HBQ := hide hBq
          have hcb := cntK_bd cs xs p xs.length
          have i1 : (0 : Int) ≤ (p : Int) := by omega
          have i2 : (p : Int) < (cs.length : Int) := by omega
          clear hX1q hX2q hS1q hS2q hF
          by_cases h0 : cnt cs xs p = 0
          · obtain ⟨row, hc, hr⟩ := Lay.row_at (unhide HC) hlp
            obtain ⟨a1, d1, rfl, R1⟩ := open_Center hr
            have c1 : wr.cell? ⟨b0, off0 + p, none⟩ = some (.slice a1 (cs[p]).vec.length d1) := (hBq.cell (p := ⟨b0, off0 + p, none⟩) (Nat.lt_of_lt_of_le hbl0 hwr)).trans (((unhide HB).cell (p := ⟨b0, off0 + p, none⟩) hbl0).trans (cen_cell (hc 0 (by decide))))
            have hvy := unhide HCV cs[p] (List.getElem_mem hlp)
            have hT : (moved cs xs).take (p + 1) = (moved cs xs).take p ++ [⟨(cs[p]).vec⟩] := by
              have := unhide HT
              rw [meanAt, if_pos h0, getD_at hlp] at this
              exact this
            clear hc hr HT
            generalize hy : cs[p] = y at *
            clear hy
            have hl3 := (vecFault_zero hvy).1
            obtain ⟨b1, off1, rfl, hbl1⟩ := Lay.sl_addr R1 (by omega)
            have R2 := (R1.later (unhide HB)).later hBq
            have hwf : ∀ z ∈ y.vec, (Lit.int .i64 z).wf = true := by
              obtain ⟨_, _, _, hw, -⟩ := Lay.ints_reads R1
              exact hw
            have L := hide (slClone ⟨b1, off1, none⟩ d1 y.vec wr (Lay.ints_reads R2) (by omega))
            have HWF := hide hwf
            have HTT := hide hT
            rw [h0] at k0
            have HL3 := hide hl3
            clear hwf hT R1 R2 hBq h0 hcb s0 s1 s2 x10 hl3
            go_wp2_with fail
            refine (unhide L).mono ?_
            rintro e w9 ⟨v9, rfl, ho9, hb9⟩
            have hO9 := Lay.ownInts (unhide HWF) (by have := unhide HL3; omega) ho9
            obtain ⟨⟨u9, hu9⟩, hf9, hl9⟩ := ((unhide HF).later hb9).there hlp
            have HF9 := hide ((unhide HF).put hlp hb9 hO9 (unhide HTT))
            have HB9 : Hid (Below wz.heap.size wz (w9.setCell ⟨wz.heap.size, p, none⟩ v9)) := ((unhide HBQ).trans (hb9.mono (unhide HBQ).size)).setCell (by simp) _
            obtain ⟨a9, c9, rfl⟩ := open_sl hO9.reads
            clear hO9 ho9 hb9 L c1 k0 x20
            generalize y.vec.length = yl9 at *
            go_wp2_with fail
            go_roundw
            case rel => exact ⟨p + 1, by omega, by go_num, unhide HF9, unhide HB9⟩
            case measure => simp [intOf]; omega
          · obtain ⟨hmf, hc1, hc2⟩ := sums_right cs (unhide HFT) p h0
            have hT : (moved cs xs).take (p + 1) = (moved cs xs).take p ++ [⟨meanList (sums cs xs p) (cnt cs xs p)⟩] := by
              have := unhide HT
              rw [meanAt, if_neg h0] at this
              exact this
            have hsb0 := sumF_bd cs hlen (unhide HXV) p 0 (by omega) xs.length (Nat.le_refl _)
            have hsb1 := sumF_bd cs hlen (unhide HXV) p 1 (by omega) xs.length (Nat.le_refl _)
            have hsb2 := sumF_bd cs hlen (unhide HXV) p 2 (by omega) xs.length (Nat.le_refl _)
            unfold sumF at hsb0 hsb1 hsb2
            unfold sums at hmf hT
            have HTT := hide hT
            have HMF := hide hmf
            clear hT hmf HT h0 hcb
            generalize sumK cs xs p 0 xs.length = t0 at *
            generalize sumK cs xs p 1 xs.length = t1 at *
            generalize sumK cs xs p 2 xs.length = t2 at *
            generalize cnt cs xs p = cn at *
            have hd : decide (0 < cn) = true := by simp; omega
            have LL := hide (listOwn t0 t1 t2 wr (by
              intro a ha
              simp only [List.mem_cons, List.not_mem_nil, or_false] at ha
              rcases ha with rfl | rfl | rfl <;> exact wf_of_bd (by omega)))
            simp only [arr3] at LL
            clear hBq
            go_wp2_with fail
            refine (unhide LL).mono ?_
            rintro e w9 ⟨g9, rfl, hO9, hb9⟩
            have LM := hide (implMean _ [t0, t1, t2] cn w9 (Lay.ints_reads hO9.reads))
            rw [unhide HMF] at LM
            clear hO9 LL k0 x20 x10 s0 s1 s2
            go_wp2_with fail
            refine (unhide LM).mono ?_
            rintro e wa ⟨ra, rfl, hoa, hba⟩
            have hOa := Lay.ownInts (zs := meanList [t0, t1, t2] cn) meanList_bd (by have := meanList_len (zs := [t0, t1, t2]) (n := cn); omega) hoa
            have hba2 : Below wr.heap.size wr wa := hb9.trans (hba.mono hb9.size)
            obtain ⟨⟨u9, hu9⟩, hf9, hl9⟩ := ((unhide HF).later hba2).there hlp
            have HF9 := hide ((unhide HF).put hlp hba2 (hOa.mono hb9.size (Nat.le_refl _)) (unhide HTT))
            have HB9 : Hid (Below wz.heap.size wz (wa.setCell ⟨wz.heap.size, p, none⟩ ra)) := ((unhide HBQ).trans (hba2.mono (unhide HBQ).size)).setCell (by simp) _
            obtain ⟨a9, c9, rfl⟩ := open_sl hOa.reads
            simp only [intsRes]
            clear hOa hoa hba hb9 hba2 LM
            generalize (meanList [t0, t1, t2] cn).length = ml at *
            have hfl : ∀ W : World, (Instr.field 37 (.agg #[.int .i64 0, .slice a9 ml c9]) 1).run Try.prog W = .ok (.slice a9 ml c9) W := fun _ => by kernel_rfl
            go_wp2_with fail
            go_roundw
            case rel => exact ⟨p + 1, by omega, by go_num, unhide HF9, unhide HB9⟩
            case measure => simp [intOf]; omega
        · obtain rfl : p = cs.length := by omega
          have hO := (hF.done (moved_len cs xs) (by omega)).mono (lo' := w.heap.size) hwr (Nat.le_refl _)
          have HO := hide hO
          have HB9 := hide ((unhide HB).trans (hBq.mono hwr))
          clear hO hF hBq
          go_wp2_with fail
          go_ret
          exact ⟨_, rfl, unhide HO, unhide HB9⟩

theorem movedC (v : Value) (cs : List DCenter) (vx : Value) (xs : List DItem) (w : World) (hcs : (Lay.sl Lay.tCenter).Reads w [v] cs) (h : (Lay.sl Lay.tItem).Reads w [vx] xs) (hfc : centersFault cs = 0) (hft : tableFault xs = 0) :
    Calls Try.prog 49 #[v, vx] w fun e w' => ∃ v', e = .returned v' ∧ (Lay.sl Lay.tCenter).OwnIn w' [v'] (moved cs xs) w.heap.size w'.heap.size ∧ Below w.heap.size w w' := by
  obtain ⟨ao, cap, rfl⟩ := open_sl hcs
  obtain ⟨b, off, rfl, hbl⟩ := Lay.sl_addr hcs (centersFault_zero hfc).1.1
  obtain ⟨ao2, cap2, rfl⟩ := open_sl h
  exact movedC_pos b off cap cs ao2 cap2 xs w hcs hbl h hfc hft

end Go.Proofs.Ytjofcmdlcoganaa

namespace Go.Proofs.Ytjofcmdlcoganaa
open Go.RowKit

set_option maxRecDepth 100000 in
set_option maxHeartbeats 2000000 in
theorem implCost_pos (v : Value) (cs : List DCenter) (b off cap : Nat) (xs : List DItem) (w : World) (hcs : (Lay.sl Lay.tCenter).Reads w [v] cs) (h : (Lay.sl Lay.tItem).Reads w [.slice (some ⟨b, off, none⟩) xs.length cap] xs) (hbl : b < w.heap.size) (hc0 : centersFault cs = 0) (ht : tableFault xs = 0) :
    Calls Try.prog 48 #[v, .slice (some ⟨b, off, none⟩) xs.length cap] w fun e w' => e = .returned (.int .i64 (cost cs xs)) ∧ Below w.heap.size w w' := by
  obtain ⟨hlen, hall, -⟩ := tableFault_zero ht
  have hxv : ∀ x ∈ xs, vecFault x.vec = 0 := fun x hm => (hall x hm).2
  have HXV := hide hxv
  have HC := hide hcs
  have HCF := hide hc0
  have H := hide h
  clear h hcs hall hc0 hxv ht
  go_enter Try.func48, Try.ntmps48
  go_wp2_with fail
  go_loopw [5, 12] (fun a i wr => ∃ k : Nat, k ≤ xs.length ∧ i = .int .i64 k ∧ a = .int .i64 (costK cs xs k) ∧ Below w.heap.size w wr) (fun _ i _ => xs.length - (intOf i).toNat)
  case atStart => exact ⟨0, Nat.zero_le _, rfl, rfl, Below.refl _ _⟩
  case round =>
    obtain ⟨k, hk, rfl, rfl, hB⟩ := hrel
    by_cases hlt : k < xs.length
    · obtain ⟨row, hc, hr⟩ := Lay.row_at (unhide H) hlt
      replace hr := hr.later hB
      obtain ⟨a1, d1, rfl, R1⟩ := open_Item hr
      have c0 : wr.cell? ⟨b, off + k * 2, none⟩ = some (.int .i64 (xs[k]).id) := (hB.cell (p := ⟨b, off + k * 2, none⟩) hbl).trans (hc 0 (by decide))
      have c1 : wr.cell? ⟨b, off + k * 2 + 1, none⟩ = some (.slice a1 (xs[k]).vec.length d1) := (hB.cell (p := ⟨b, off + k * 2 + 1, none⟩) hbl).trans (hc 1 (by decide))
      have hvx := unhide HXV xs[k] (List.getElem_mem hlt)
      have hb1 := costK_bd (unhide HCF) (unhide HXV) k hk
      have hstep := costK_step cs xs k hlt
      clear hc hr
      generalize hx : xs[k] = x at *
      clear hx
      have hml := near_lt (unhide HCF) hvx
      obtain ⟨-, hs1, hs2⟩ := nearS_eq (unhide HCF) hvx hml
      have HST := hide hstep
      have nb : Below wr.heap.size wr (wr.alloc (.cells #[.int .i64 x.id, .slice a1 x.vec.length d1] 41)) := (Below.refl _ _).alloc (Nat.le_refl _) _
      have L := hide (nearC _ cs _ x.vec _ (((unhide HC).later hB).later nb) ((Lay.ints_reads R1).later nb) (unhide HCF) hvx)
      have HB := hide (hB.trans (nb.mono hB.size))
      clear R1 hB hvx hstep nb
      generalize costK cs xs k = ck at *
      generalize nearS cs x.vec = ns at *
      generalize near cs x.vec = nr at *
      go_wp2_with fail
      refine (unhide L).mono ?_
      rintro e w2 ⟨rfl, hb⟩
      have HB3 := hide ((unhide HB).trans (hb.mono (unhide HB).size))
      clear hb L HB c0 c1
      go_wp2_with fail
      go_roundw
      case rel => exact ⟨k + 1, by omega, by go_num, by rw [unhide HST], unhide HB3⟩
      case measure => simp [intOf]; omega
    · obtain rfl : k = xs.length := by omega
      have HB := hide hB
      clear hB H
      go_wp2_with fail
      go_ret
      exact ⟨rfl, unhide HB⟩

theorem implCost_zero (v : Value) (ao : Option Addr) (cap : Nat) (w : World) :
    Calls Try.prog 48 #[v, .slice ao 0 cap] w fun e w' => e = .returned (.int .i64 0) ∧ Below w.heap.size w w' := by
  go_enter Try.func48, Try.ntmps48
  go_wp2_with fail
  refine wp_loop_rounds 1 ?_
  rw [rounds_succ]
  go_wp2_with fail
  go_ret
  exact ⟨rfl, Below.refl _ _⟩

/-- totalCost of the program. -/
theorem implCost (v : Value) (cs : List DCenter) (vx : Value) (xs : List DItem) (w : World) (hcs : (Lay.sl Lay.tCenter).Reads w [v] cs) (h : (Lay.sl Lay.tItem).Reads w [vx] xs) (hc0 : centersFault cs = 0) (ht : tableFault xs = 0) :
    Calls Try.prog 48 #[v, vx] w fun e w' => e = .returned (.int .i64 (cost cs xs)) ∧ Below w.heap.size w w' := by
  obtain ⟨ao, cap, rfl⟩ := open_sl h
  by_cases hp : 0 < xs.length
  · obtain ⟨b, off, rfl, hbl⟩ := Lay.sl_addr h hp
    exact implCost_pos v cs b off cap xs w hcs h hbl hc0 ht
  · obtain rfl : xs = [] := List.eq_nil_of_length_eq_zero (by omega)
    exact implCost_zero _ ao cap w

end Go.Proofs.Ytjofcmdlcoganaa

namespace Go.Proofs.Ytjofcmdlcoganaa
open Go.RowKit

set_option maxRecDepth 10000 in
set_option maxHeartbeats 2000000 in
theorem implTrain_ok (vx : Value) (xs : List DItem) (vs : Value) (ss : List Int) (r : Int) (w : World) (h : (Lay.sl Lay.tItem).Reads w [vx] xs) (hs : (Lay.sl Lay.int).Reads w [vs] ss) (hf : trainFault xs ss r = 0) :
    Calls Try.prog 12 #[vx, vs, .int .i64 r] w fun e w' => ∃ cs', e = .returned (.agg cs'.toArray) ∧ Lay.tCentersResult.OwnIn w' cs' (trainR xs ss r) w.heap.size w'.heap.size ∧ Below w.heap.size w w' := by
  have HB0 : Below w.heap.size w (w.alloc (.cells #[.int .i64 0, .slice none 0 0] 30)) := (Below.refl _ _).alloc (Nat.le_refl _) _
  have bR : Box w.heap.size #[.int .i64 0, .slice none 0 0] 30 (w.alloc (.cells #[.int .i64 0, .slice none 0 0] 30)) w.heap.size := newBox (Nat.le_refl _)
  have hx1 := h.later HB0
  have hs1 := hs.later HB0
  have HG : Hid (trainR xs ss r = ⟨0, trainN xs r.toNat (seedCs xs ss)⟩) := if_pos hf
  obtain ⟨ao, cap, rfl⟩ := open_sl h
  obtain ⟨ao2, cap2, rfl⟩ := open_sl hs
  obtain ⟨hft, h0, hn, hr, hall⟩ := trainFault_zero hf
  have HCF0 := hide (seedCs_right hft h0 hn)
  have HFT := hide hft
  clear h hs
  go_enter Try.func12, Try.ntmps12
  go_wp2_with fail
  generalize w.alloc (.cells #[.int .i64 0, .slice none 0 0] 30) = W0 at *
  refine (trainFaultC _ xs _ ss r W0 hx1 hs1).mono ?_
  rintro e w1 ⟨rfl, hb⟩
  rw [hf]
  have HX := hide (hx1.later hb)
  have hs2 := hs1.later hb
  replace bR := bR.keep hb
  replace HB0 := HB0.trans (hb.mono HB0.size)
  have hw1 := bR.lt
  have HB := hide HB0
  have HR := hide bR
  have L := hide (seedsC _ xs _ ss w1 (unhide HX) hs2 hft h0 hn hall)
  clear hb HB0 bR hx1 hs1 hs2 hf hft h0 hn hall
  go_wp2_with fail
  refine (unhide L).mono ?_
  rintro e w2 ⟨v2, rfl, O2, hb2⟩
  have LC := hide (implCost _ (seedCs xs ss) _ xs w2 O2.reads ((unhide HX).later hb2) (unhide HCF0) (unhide HFT))
  have HO2 := hide O2
  have HB2 := hide hb2
  clear L O2 hb2
  go_wp2_with fail
  refine (unhide LC).mono ?_
  rintro e w3 ⟨rfl, hb3⟩
  have HO3 := hide (((unhide HO2).later hb3).mono (Nat.le_refl _) hb3.size)
  have HB3 := hide ((unhide HB2).trans (hb3.mono (unhide HB2).size))
  clear LC hb3 HO2 HB2
  go_wp2_with fail
  go_loopw [8, 9, 27] (fun u c i wr => ∃ (k : Nat) (cur : List DCenter), (k : Int) ≤ r ∧ i = .int .i64 k ∧ centersFault cur = 0 ∧ c = .int .i64 (cost cur xs) ∧ trainN xs (r.toNat - k) cur = trainN xs r.toNat (seedCs xs ss) ∧ (Lay.sl Lay.tCenter).OwnIn wr [u] cur w1.heap.size wr.heap.size ∧ Below w1.heap.size w1 wr) (fun _ _ i _ => r.toNat - (intOf i).toNat)
  case atStart => exact ⟨0, _, hr.1, rfl, unhide HCF0, rfl, rfl, unhide HO3, unhide HB3⟩
  case round =>
    obtain ⟨k, cur, hk, rfl, hcf, rfl, htn, hO, hB⟩ := hrel
    clear HO3 HB3
    by_cases hlt : (k : Int) < r
    · have hstep : trainN xs (r.toNat - k) cur = if cost cur xs ≤ cost (moved cur xs) xs then cur else trainN xs (r.toNat - (k + 1)) (moved cur xs) := by
        rw [show r.toNat - k = (r.toNat - (k + 1)) + 1 by omega]
        rfl
      rw [hstep] at htn
      have hmf := moved_right hcf (unhide HFT)
      have L := hide (movedC _ cur _ xs wr hO.reads ((unhide HX).later hB) hcf (unhide HFT))
      have HTN0 := hide htn
      have HMF := hide hmf
      have HCF := hide hcf
      have HO := hide hO
      have HBr := hide hB
      have hwr := hB.size
      clear hstep htn hmf hcf hO hB
      go_wp2_with fail
      refine (unhide L).mono ?_
      rintro e w4 ⟨v4, rfl, O4, hb4⟩
      have LC := hide (implCost _ (moved cur xs) _ xs w4 O4.reads (((unhide HX).later (unhide HBr)).later hb4) (unhide HMF) (unhide HFT))
      have HO4 := hide O4
      have HOc := hide (((unhide HO).later hb4).mono (Nat.le_refl _) hb4.size)
      have HB4 := hide ((unhide HBr).trans (hb4.mono (unhide HBr).size))
      clear L O4 hb4 HO HBr
      go_wp2_with fail
      refine (unhide LC).mono ?_
      rintro e w5 ⟨rfl, hb5⟩
      have HO5 := hide ((((unhide HO4).later hb5).mono (Nat.le_refl _) hb5.size).mono (lo' := w1.heap.size) hwr (Nat.le_refl _))
      replace HOc := hide (((unhide HOc).later hb5).mono (Nat.le_refl _) hb5.size)
      have HB5 := hide ((unhide HB4).trans (hb5.mono (unhide HB4).size))
      clear LC hb5 HO4 HB4
      by_cases hc : cost cur xs ≤ cost (moved cur xs) xs
      · have HTN : Hid (cur = trainN xs r.toNat (seedCs xs ss)) := by
          have := unhide HTN0
          rw [if_pos hc] at this
          exact this
        have hd : decide (cost cur xs ≤ cost (moved cur xs) xs) = true := by simpa using hc
        clear hc HTN0 HO5
        rename World => wr
        have hO := unhide HOc
        have hB := unhide HB5
        clear HOc HB5
        generalize cost cur xs = c1 at *
        generalize cost (moved cur xs) xs = c2 at *
        obtain ⟨a9, c9, rfl⟩ := open_sl hO.reads
        have bR := (unhide HR).keep hB
        have z0 : wr.cell? ⟨w.heap.size, 0, none⟩ = some (.int .i64 0) := bR.at 0 _ rfl
        have z1 : wr.cell? ⟨w.heap.size, 1, none⟩ = some (.slice none 0 0) := bR.at 1 _ rfl
        have f0 := bR.soft 0
        have f1 := bR.soft 1
        have l0 := bR.lt
        have HB9 := hide ((unhide HB).trans (hB.mono (unhide HB).size))
        have HO9 := hide hO
        clear hO hB bR
        generalize hm9 : cur.length = n9 at *
        clear hm9
        go_wp2_with fail
        refine bodyPost_ret (v := .agg #[.int .i64 0, .slice a9 n9 c9]) (by simp [results, Try.results12, go_sem, z0, z1]) rfl ?_
        have hE : Ext (fun c => c = w.heap.size) wr ((wr.setCell ⟨w.heap.size, 0, none⟩ (.int .i64 0)).setCell ⟨w.heap.size, 1, none⟩ (.slice a9 n9 c9)) := ((Ext.refl (fun c => c = w.heap.size) _).setCell ⟨w.heap.size, 0, none⟩ _ rfl).setCell ⟨w.heap.size, 1, none⟩ _ rfl
        rw [unhide HG, ← unhide HTN]
        exact ⟨[.int .i64 0, .slice a9 n9 c9], rfl, own_censR (by decide) (((unhide HO9).ext hE (fun c h1 _ h3 => by omega)).mono (by omega) (by simp)), ((unhide HB9).setCell (by simp) _).setCell (by simp) _⟩
      · have HTN : Hid (trainN xs (r.toNat - (k + 1)) (moved cur xs) = trainN xs r.toNat (seedCs xs ss)) := by
          have := unhide HTN0
          rw [if_neg hc] at this
          exact this
        have hd : decide (cost cur xs ≤ cost (moved cur xs) xs) = false := by simpa using hc
        clear hc HTN0 HOc
        generalize cost cur xs = c1 at *
        generalize hc2 : cost (moved cur xs) xs = c2 at *
        have HC2 := hide hc2
        clear hc2
        go_wp2_with fail
        go_roundw
        case rel => exact ⟨k + 1, moved cur xs, by omega, by go_num, unhide HMF, by rw [unhide HC2], unhide HTN, unhide HO5, unhide HB5⟩
        case measure => simp [intOf]; omega
    · have HTN : Hid (cur = trainN xs r.toNat (seedCs xs ss)) := by
        rw [show r.toNat - k = 0 by omega] at htn
        exact htn
      clear htn hcf
      generalize cost cur xs = c1 at *
      obtain ⟨a9, c9, rfl⟩ := open_sl hO.reads
      have bR := (unhide HR).keep hB
      have z0 : wr.cell? ⟨w.heap.size, 0, none⟩ = some (.int .i64 0) := bR.at 0 _ rfl
      have z1 : wr.cell? ⟨w.heap.size, 1, none⟩ = some (.slice none 0 0) := bR.at 1 _ rfl
      have f0 := bR.soft 0
      have f1 := bR.soft 1
      have l0 := bR.lt
      have HB9 := hide ((unhide HB).trans (hB.mono (unhide HB).size))
      have HO9 := hide hO
      clear hO hB bR
      generalize hm9 : cur.length = n9 at *
      clear hm9
      go_wp2_with fail
      refine bodyPost_ret (v := .agg #[.int .i64 0, .slice a9 n9 c9]) (by simp [results, Try.results12, go_sem, z0, z1]) rfl ?_
      have hE : Ext (fun c => c = w.heap.size) wr ((wr.setCell ⟨w.heap.size, 0, none⟩ (.int .i64 0)).setCell ⟨w.heap.size, 1, none⟩ (.slice a9 n9 c9)) := ((Ext.refl (fun c => c = w.heap.size) _).setCell ⟨w.heap.size, 0, none⟩ _ rfl).setCell ⟨w.heap.size, 1, none⟩ _ rfl
      rw [unhide HG, ← unhide HTN]
      exact ⟨[.int .i64 0, .slice a9 n9 c9], rfl, own_censR (by decide) (((unhide HO9).ext hE (fun c h1 _ h3 => by omega)).mono (by omega) (by simp)), ((unhide HB9).setCell (by simp) _).setCell (by simp) _⟩

set_option maxRecDepth 10000 in
theorem implTrain_bad (vx : Value) (xs : List DItem) (vs : Value) (ss : List Int) (r : Int) (w : World) (h : (Lay.sl Lay.tItem).Reads w [vx] xs) (hs : (Lay.sl Lay.int).Reads w [vs] ss) (hf : trainFault xs ss r ≠ 0) :
    Calls Try.prog 12 #[vx, vs, .int .i64 r] w fun e w' => ∃ cs', e = .returned (.agg cs'.toArray) ∧ Lay.tCentersResult.OwnIn w' cs' (trainR xs ss r) w.heap.size w'.heap.size ∧ Below w.heap.size w w' := by
  have HB0 : Below w.heap.size w (w.alloc (.cells #[.int .i64 0, .slice none 0 0] 30)) := (Below.refl _ _).alloc (Nat.le_refl _) _
  have bR : Box w.heap.size #[.int .i64 0, .slice none 0 0] 30 (w.alloc (.cells #[.int .i64 0, .slice none 0 0] 30)) w.heap.size := newBox (Nat.le_refl _)
  have hx1 := h.later HB0
  have hs1 := hs.later HB0
  have HG : Hid (trainR xs ss r = ⟨trainFault xs ss r, []⟩) := if_neg hf
  obtain ⟨ao, cap, rfl⟩ := open_sl h
  obtain ⟨ao2, cap2, rfl⟩ := open_sl hs
  have hd : (trainFault xs ss r != 0) = true := by simpa using hf
  clear h hs hf
  go_enter Try.func12, Try.ntmps12
  go_wp2_with fail
  generalize w.alloc (.cells #[.int .i64 0, .slice none 0 0] 30) = W0 at *
  refine (trainFaultC _ xs _ ss r W0 hx1 hs1).mono ?_
  rintro e w1 ⟨rfl, hb⟩
  replace bR := bR.keep hb
  replace HB0 := HB0.trans (hb.mono HB0.size)
  have z0 : w1.cell? ⟨w.heap.size, 0, none⟩ = some (.int .i64 0) := bR.at 0 _ rfl
  have z1 : w1.cell? ⟨w.heap.size, 1, none⟩ = some (.slice none 0 0) := bR.at 1 _ rfl
  have f0 := bR.soft 0
  have f1 := bR.soft 1
  have l0 := bR.lt
  have HB := hide HB0
  clear hb HB0 bR hx1 hs1
  go_wp2_with fail
  refine bodyPost_ret (v := .agg #[.int .i64 (trainFault xs ss r), .slice none 0 0]) (by simp [results, Try.results12, go_sem, z0, z1]) rfl ?_
  rw [unhide HG]
  exact ⟨[.int .i64 (trainFault xs ss r), .slice none 0 0], rfl, own_codeCens (trainFault_wf xs ss r), ((unhide HB).setCell (by simp) _).setCell (by simp) _⟩

/-- TrainCenters of the program. -/
theorem implTrain (vx : Value) (xs : List DItem) (vs : Value) (ss : List Int) (r : Int) (w : World) (h : (Lay.sl Lay.tItem).Reads w [vx] xs) (hs : (Lay.sl Lay.int).Reads w [vs] ss) :
    Calls Try.prog 12 #[vx, vs, .int .i64 r] w fun e w' => ∃ cs', e = .returned (.agg cs'.toArray) ∧ Lay.tCentersResult.OwnIn w' cs' (trainR xs ss r) w.heap.size w'.heap.size ∧ Below w.heap.size w w' := by
  by_cases hf : trainFault xs ss r = 0
  · exact implTrain_ok vx xs vs ss r w h hs hf
  · exact implTrain_bad vx xs vs ss r w h hs hf

end Go.Proofs.Ytjofcmdlcoganaa

namespace Go.Proofs.Ytjofcmdlcoganaa
open Go.RowKit

theorem inC (v lo hi : Int) (w : World) :
    Calls Try.prog 51 #[.int .i64 v, .int .i64 lo, .int .i64 hi] w fun e w' => e = .returned (.bool (decide (lo ≤ v) && decide (v ≤ hi))) ∧ w' = w := by
  by_cases h1 : lo ≤ v
  · have d1 : decide (lo ≤ v) = true := by simpa using h1
    rw [d1]
    cases d2 : decide (v ≤ hi) <;>
    · go_enter Try.func51, Try.ntmps51
      go_wp2_with fail
      go_ret
      exact ⟨rfl, rfl⟩
  · have d1 : decide (lo ≤ v) = false := by simpa using h1
    rw [d1]
    go_enter Try.func51, Try.ntmps51
    go_wp2_with fail
    go_ret
    exact ⟨rfl, rfl⟩
theorem idC (x : Int) (w : World) : Calls Try.prog 84 #[.int .i64 x] w fun e w' => e = .returned (.bool (decide (1 ≤ x) && decide (x ≤ 999))) ∧ w' = w := by
  go_enter Try.func84, Try.ntmps84
  go_wp2_with fail
  refine (inC x 1 999 _).mono ?_
  rintro e w1 ⟨rfl, rfl⟩
  go_wp2_with fail
  go_ret
  exact ⟨rfl, rfl⟩

end Go.Proofs.Ytjofcmdlcoganaa

namespace Go.Proofs.Ytjofcmdlcoganaa
open Go.RowKit

set_option maxRecDepth 100000 in
set_option maxHeartbeats 1000000 in
theorem specTab_pos (b off cap : Nat) (xs : List DItem) (w : World) (hn : xs.length ≤ 30) (h : (Lay.sl Lay.tItem).Reads w [.slice (some ⟨b, off, none⟩) xs.length cap] xs) (hbl : b < w.heap.size) :
    Calls Try.prog 50 #[.slice (some ⟨b, off, none⟩) xs.length cap] w fun e w' => e = .returned (.int .i64 (tabFrom none xs)) ∧ Below w.heap.size w w' := by
  generalize hF0 : tabFrom none xs = F0
  have H := hide h
  clear h
  go_enter Try.func50, Try.ntmps50
  go_wp2_with fail
  go_loopw [3] (fun i wr => ∃ k : Nat, k ≤ xs.length ∧ i = .int .i64 k ∧ tabFrom (idAhead xs k) (xs.drop k) = F0 ∧ Below w.heap.size w wr) (fun i _ => xs.length - (intOf i).toNat)
  case atStart => exact ⟨0, Nat.zero_le _, rfl, hF0, Below.refl _ _⟩
  case round =>
    obtain ⟨k, hk, rfl, hF, hB⟩ := hrel
    by_cases hlt : k < xs.length
    · obtain ⟨row, hc, hr⟩ := Lay.row_at (unhide H) hlt
      replace hr := hr.later hB
      obtain ⟨a1, d1, rfl, R1⟩ := open_Item hr
      have c0 : wr.cell? ⟨b, off + k * 2, none⟩ = some (.int .i64 (xs[k]).id) := (hB.cell (p := ⟨b, off + k * 2, none⟩) hbl).trans (hc 0 (by decide))
      have c1 : wr.cell? ⟨b, off + k * 2 + 1, none⟩ = some (.slice a1 (xs[k]).vec.length d1) := (hB.cell (p := ⟨b, off + k * 2 + 1, none⟩) hbl).trans (hc 1 (by decide))
      have HP : Hid (∀ m, k = m + 1 → ∃ z, idAhead xs (m + 1) = some z ∧ wr.cell? ⟨b, off + m * 2, none⟩ = some (.int .i64 z)) := by
        rintro m rfl
        have hm : m < xs.length := by omega
        obtain ⟨row2, hc2, hr2⟩ := Lay.row_at (unhide H) hm
        obtain ⟨a2, d2, rfl, -⟩ := open_Item hr2
        exact ⟨_, idAhead_succ xs m hm, (hB.cell (p := ⟨b, off + m * 2, none⟩) hbl).trans (hc2 0 (by decide))⟩
      rw [tabFrom_step xs k hlt] at hF
      clear hc hr
      generalize hx : xs[k] = x at *
      clear hx
      have hbr : b < wr.heap.size := Nat.lt_of_lt_of_le hbl hB.size
      have I1 := hide (Lay.ints_reads R1)
      have HF := hide hF
      have B1 := hide hB
      clear R1 hF hB
      go_wp2_with fail
      refine (idC x.id _).mono ?_
      rintro e w1 ⟨rfl, rfl⟩
      rw [show (decide (1 ≤ x.id) && decide (x.id ≤ 999)) = idB x.id from rfl]
      cases hid : idB x.id with
      | false =>
        have hF := unhide HF
        rw [hid, if_neg (by simp)] at hF
        have HF2 := hide hF
        clear HF hF hid HP
        go_wp2_with fail
        go_ret
        exact ⟨by rw [← unhide HF2]; rfl, unhide B1⟩
      | true =>
        have hF := unhide HF
        rw [hid, if_pos rfl] at hF
        clear HF hid
        have HF := hide hF
        clear hF
        go_wp2_with fail
        refine (modelFault _ x.vec _ (unhide I1)).mono ?_
        rintro e w1 ⟨rfl, rfl⟩
        by_cases hv : vecFault x.vec = 0
        · rw [hv]
          have hF := unhide HF
          rw [if_pos hv] at hF
          clear HF I1 hv
          have HF := hide hF
          clear hF
          by_cases hk0 : k = 0
          · subst hk0
            have hF := unhide HF
            rw [idAhead_zero, Option.all_none, if_pos rfl] at hF
            have HF3 := hide hF
            clear HF hF HP
            have g0 : decide ((0 : Int) < 0) = false := by decide
            go_wp2_with fail
            go_quiet (fail)
            all_goals go_wp2_with fail
            all_goals exact ⟨⟨0 + 1, by omega, by go_num, unhide HF3, below_drewN (unhide B1) _⟩, by simp [intOf]; omega⟩
          · obtain ⟨m, rfl⟩ : ∃ m, k = m + 1 := ⟨k - 1, by omega⟩
            obtain ⟨z, e1, p0⟩ := unhide HP m rfl
            have hF := unhide HF
            rw [e1, Option.all_some] at hF
            have HF3 := hide hF
            clear HF hF HP e1 hk0
            have g1 : decide ((0 : Int) < (m : Int) + 1) = true := by simp
            have g4 : IntKind.i64.wrap ((m : Int) + 1 - 1) = (m : Int) := by simp only [IntKind.wrap_i64]; omega
            have g9 : IntKind.i64.wrap (m : Int) = (m : Int) := by simp only [IntKind.wrap_i64]; omega
            have g2 : (m : Int) + 1 - 1 = (m : Int) := by omega
            have g3 : (m : Int) < (xs.length : Int) := by omega
            have g5 : (0 : Int) ≤ (m : Int) := by omega
            have g6 : (m : Int) + 1 < (xs.length : Int) := by omega
            have g7 : (0 : Int) ≤ (m : Int) + 1 := by omega
            have g8 : ((m : Int) + 1).toNat = m + 1 := by omega
            cases hq : decide (z < x.id) with
            | true =>
              have hF := unhide HF3
              rw [hq, if_pos rfl] at hF
              have HF4 := hide hF
              have q1 : decide (x.id ≤ z) = false := by simp at hq ⊢; omega
              clear hF HF3 hq
              go_wp2_with fail
              go_quiet (fail)
              all_goals go_wp2_with fail
              all_goals exact ⟨⟨m + 1 + 1, by omega, by go_num, unhide HF4, below_drewN (unhide B1) _⟩, by simp [intOf]; omega⟩
            | false =>
              have hF := unhide HF3
              rw [hq, if_neg (by simp)] at hF
              have HF4 := hide hF
              have q1 : decide (x.id ≤ z) = true := by simp at hq ⊢; omega
              clear hF HF3 hq
              go_wp2_with fail
              go_quiet (fail)
              all_goals go_wp2_with fail
              all_goals go_ret
              all_goals exact ⟨by rw [← unhide HF4]; rfl, below_drewN (unhide B1) _⟩
        · have hF := unhide HF
          rw [if_neg hv] at hF
          have hd : (vecFault x.vec != 0) = true := by simpa using hv
          have HF2 := hide hF
          clear HF hF HP I1 hv
          go_wp2_with fail
          go_ret
          exact ⟨by rw [← unhide HF2]; rfl, unhide B1⟩
    · obtain rfl : k = xs.length := by omega
      rw [List.drop_length] at hF
      have HF := hide hF
      have HB := hide hB
      clear hF hB H
      go_wp2_with fail
      go_ret
      exact ⟨by rw [← unhide HF]; rfl, unhide HB⟩

set_option maxRecDepth 10000 in
/-- l4Fault of the model. -/
theorem specTab (v : Value) (xs : List DItem) (w : World) (h : (Lay.sl Lay.tItem).Reads w [v] xs) :
    Calls Try.prog 50 #[v] w fun e w' => e = .returned (.int .i64 (tableFault xs)) ∧ Below w.heap.size w w' := by
  obtain ⟨ao, cap, rfl⟩ := open_sl h
  by_cases hn : xs.length ≤ 30
  · have e : tableFault xs = tabFrom none xs := by unfold tableFault; rw [if_neg (by omega)]
    rw [e]
    by_cases hp : 0 < xs.length
    · obtain ⟨b, off, rfl, hbl⟩ := Lay.sl_addr h hp
      exact specTab_pos b off cap xs w hn h hbl
    · obtain rfl : xs = [] := List.eq_nil_of_length_eq_zero (by omega)
      clear h e hn hp
      go_enter Try.func50, Try.ntmps50
      go_wp2_with fail
      refine wp_loop_rounds 1 ?_
      rw [rounds_succ]
      go_wp2_with fail
      go_ret
      exact ⟨rfl, Below.refl _ _⟩
  · have e : tableFault xs = 2 := by unfold tableFault; rw [if_pos (by omega)]
    rw [e]
    have hd : decide ((30 : Int) < (xs.length : Int)) = true := by simp; omega
    clear h e
    go_enter Try.func50, Try.ntmps50
    go_wp2_with fail
    go_ret
    exact ⟨rfl, Below.refl _ _⟩

end Go.Proofs.Ytjofcmdlcoganaa

namespace Go.Proofs.Ytjofcmdlcoganaa
open Go.RowKit

set_option maxRecDepth 100000 in
set_option maxHeartbeats 1000000 in
theorem specCen_pos (b off cap : Nat) (xs : List DCenter) (w : World) (hn : 1 ≤ xs.length ∧ xs.length ≤ 6) (h : (Lay.sl Lay.tCenter).Reads w [.slice (some ⟨b, off, none⟩) xs.length cap] xs) (hbl : b < w.heap.size) :
    Calls Try.prog 61 #[.slice (some ⟨b, off, none⟩) xs.length cap] w fun e w' => e = .returned (.int .i64 (cenFrom xs)) ∧ Below w.heap.size w w' := by
  generalize hF0 : cenFrom xs = F0
  have H := hide h
  clear h
  have d1 : decide ((xs.length : Int) < 1) = false := by simp; omega
  have d2 : decide ((6 : Int) < (xs.length : Int)) = false := by simp; omega
  go_enter Try.func61, Try.ntmps61
  go_wp2_with fail
  go_loopw [3] (fun i wr => ∃ k : Nat, k ≤ xs.length ∧ i = .int .i64 k ∧ cenFrom (xs.drop k) = F0 ∧ Below w.heap.size w wr) (fun i _ => xs.length - (intOf i).toNat)
  case atStart => exact ⟨0, Nat.zero_le _, rfl, hF0, Below.refl _ _⟩
  case round =>
    obtain ⟨k, hk, rfl, hF, hB⟩ := hrel
    by_cases hlt : k < xs.length
    · obtain ⟨row, hc, hr⟩ := Lay.row_at (unhide H) hlt
      replace hr := hr.later hB
      obtain ⟨a1, d1, rfl, R1⟩ := open_Center hr
      have c1 : wr.cell? ⟨b, off + k, none⟩ = some (.slice a1 (xs[k]).vec.length d1) := (hB.cell (p := ⟨b, off + k, none⟩) hbl).trans (cen_cell (hc 0 (by decide)))
      rw [cenFrom_step xs k hlt] at hF
      clear hc hr
      generalize hx : xs[k] = x at *
      clear hx
      have hbr : b < wr.heap.size := Nat.lt_of_lt_of_le hbl hB.size
      have I1 := hide (Lay.ints_reads R1)
      have HF := hide hF
      have B1 := hide hB
      clear R1 hF hB
      go_wp2_with fail
      refine (modelFault _ x.vec _ (unhide I1)).mono ?_
      rintro e w1 ⟨rfl, rfl⟩
      by_cases hv : vecFault x.vec = 0
      · rw [hv]
        have hF := unhide HF
        rw [if_pos hv] at hF
        clear HF I1 hv
        have HF := hide hF
        clear hF
        go_wp2_with fail
        go_roundw
        case rel => exact ⟨k + 1, by omega, by go_num, unhide HF, unhide B1⟩
        case measure => simp [intOf]; omega
      · have hF := unhide HF
        rw [if_neg hv] at hF
        have hd : (vecFault x.vec != 0) = true := by simpa using hv
        have HF2 := hide hF
        clear HF hF I1 hv
        go_wp2_with fail
        go_ret
        exact ⟨by rw [← unhide HF2]; rfl, unhide B1⟩
    · obtain rfl : k = xs.length := by omega
      rw [List.drop_length] at hF
      have HF := hide hF
      have HB := hide hB
      clear hF hB H
      go_wp2_with fail
      go_ret
      exact ⟨by rw [← unhide HF]; rfl, unhide HB⟩

set_option maxRecDepth 10000 in
theorem specCen (v : Value) (xs : List DCenter) (w : World) (h : (Lay.sl Lay.tCenter).Reads w [v] xs) :
    Calls Try.prog 61 #[v] w fun e w' => e = .returned (.int .i64 (centersFault xs)) ∧ Below w.heap.size w w' := by
  have hbig := h.big
  obtain ⟨ao, cap, rfl⟩ := open_sl h
  by_cases hn : xs.length < 1 ∨ 6 < xs.length
  · have e : centersFault xs = 2 := by unfold centersFault; rw [if_pos hn]
    rw [e]
    clear h e
    go_enter Try.func61, Try.ntmps61
    by_cases h1 : xs.length < 1
    · have d1 : decide ((xs.length : Int) < 1) = true := by simp; omega
      go_wp2_with fail
      go_ret
      exact ⟨rfl, Below.refl _ _⟩
    · have d1 : decide ((xs.length : Int) < 1) = false := by simp; omega
      have d2 : decide ((6 : Int) < (xs.length : Int)) = true := by simp; omega
      go_wp2_with fail
      go_ret
      exact ⟨rfl, Below.refl _ _⟩
  · have e : centersFault xs = cenFrom xs := by unfold centersFault; rw [if_neg hn]
    rw [e]
    obtain ⟨b, off, rfl, hbl⟩ := Lay.sl_addr h (by omega)
    exact specCen_pos b off cap xs w (by omega) h hbl

end Go.Proofs.Ytjofcmdlcoganaa
