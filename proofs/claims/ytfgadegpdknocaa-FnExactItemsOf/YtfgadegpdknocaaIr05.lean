/-
  Texts of this proof in one: MaItemS, MaIvfListS, MaIvf, EqTableResult, MaTableResult, MkItemS, MkTableResult, LawXItemsOf, LayCentersResult.
  Their conditions stand in their theorems.
-/
import Derived.Test.YtfgadegpdknocaaChecked
import Derived.Test.YtfgadegpdknocaaIr02
import Derived.Test.YtfgadegpdknocaaIr01
import Derived.Test.YtfgadegpdknocaaIr04
import Derived.Test.YtfgadegpdknocaaIr03
import Derived.Deep.RegionHeld3
import Derived.Deep.CutRange

namespace Go.Proofs.Ytfgadegpdknocaa
open Go.RowKit

theorem cnt_Item (x : DItem) : Lay.tItem.cnt x = 1 + (Lay.sl Lay.int).vcnt x.vec := by
  show 1 + ((Lay.sl Lay.int).vcnt x.vec) = 1 + (Lay.sl Lay.int).vcnt x.vec
  omega
theorem mkd_Item (k : Int) (x : DItem) : Lay.tItem.mkd k x = ⟨k, (Lay.sl Lay.int).mkv (k + 1) x.vec⟩ := rfl
theorem vcnt_ItemS (xs : List DItem) : (Lay.sl Lay.tItem).vcnt xs = cntAll Lay.tItem.cnt xs := rfl
theorem mkv_ItemS (k : Int) (xs : List DItem) : (Lay.sl Lay.tItem).mkv k xs = mkAll Lay.tItem.cnt Lay.tItem.mkd k xs := rfl

set_option maxRecDepth 10000 in
set_option maxHeartbeats 2000000 in
theorem markItem_pos (b off cap : Nat) (xs : List DItem) (bl : List Nat) (k : Int) (w : World) (h : (Lay.sl Lay.tItem).Own w [.slice (some ⟨b, off, none⟩) xs.length cap] xs bl) (hk : 0 ≤ k) (hk2 : k + (cntAll Lay.tItem.cnt xs : Nat) ≤ 1000000000) :
    Calls Try.prog 24 #[.slice (some ⟨b, off, none⟩) xs.length cap, .int .i64 k] w fun e w' => e = .returned (.int .i64 (k + (cntAll Lay.tItem.cnt xs : Nat))) ∧ (Lay.sl Lay.tItem).Own w' [.slice (some ⟨b, off, none⟩) xs.length cap] (mkAll Lay.tItem.cnt Lay.tItem.mkd k xs) bl ∧ Ext (fun q => q ∈ bl) w w' := by
  have hbig := h.reads.big
  have H := hide h
  clear h
  go_enter Try.func24, Try.ntmps24
  go_wp2_with fail
  go_loopw [1, 5] (fun kk i wr => ∃ (j : Nat) (kj : Int), j ≤ xs.length ∧ i = .int .i64 j ∧ kj = k + (cntAll Lay.tItem.cnt (xs.take j) : Nat) ∧ kk = .int .i64 kj ∧ (Lay.sl Lay.tItem).Own wr [.slice (some ⟨b, off, none⟩) xs.length cap] (mkPre Lay.tItem.cnt Lay.tItem.mkd k xs j) bl ∧ Ext (fun q => q ∈ bl) w wr) (fun _ i _ => xs.length - (intOf i).toNat)
  case atStart => exact ⟨0, k, Nat.zero_le _, rfl, by simp [cntAll], rfl, by rw [mkPre_zero]; exact unhide H, Ext.refl _ _⟩
  case round =>
    obtain ⟨j, kj, hj, rfl, hkj, rfl, hO, hX⟩ := hrel
    clear H
    by_cases hlt : j < xs.length
    · have hj2 : j < (mkPre Lay.tItem.cnt Lay.tItem.mkd k xs j).length := by rw [mkPre_len _ _ _ _ _ hj]; exact hlt
      obtain ⟨row, blk, R, O, hbk, hin, hfin⟩ := Lay.own_upd hO hj2
      rw [mkPre_get _ _ _ _ _ hlt] at O
      have HT := hide (Lay.cntAll_take (f := Lay.tItem.cnt) hlt)
      have hle := Lay.cntAll_take_le (f := Lay.tItem.cnt) (xs := xs) (k := j + 1)
      rw [unhide HT] at hle
      have HM : Hid (∀ y, y = Lay.tItem.mkd kj xs[j] → (mkPre Lay.tItem.cnt Lay.tItem.mkd k xs j).set j y = mkPre Lay.tItem.cnt Lay.tItem.mkd k xs (j + 1)) := fun y e => by rw [e, hkj]; exact mkPre_set _ _ _ _ _ hlt
      have HF := hide hfin
      have HX := hide hX
      have HI := hide hin
      clear hO hfin hX hin hj2
      generalize hx : xs[j] = x at *
      clear hx
      have hcn := cnt_Item x
      have HD := hide (mkd_Item kj x)
      have hb1 : 0 ≤ kj := by omega
      have hb2 : kj + (Lay.tItem.cnt x : Int) ≤ 1000000000 := by omega
      have HK := hide hkj
      clear hkj hle
      have hnd := O.2.1
      obtain ⟨a1, d1, g1, rfl, hbl, O1, v0⟩ := own_Item O
      clear O
      subst hbl
      have HN := hide hnd
      clear hnd
      have l1 : b < wr.heap.size := R.lt
      have c0 : wr.cell? ⟨b, off + j * 2, none⟩ = some (.int .i64 x.id) := R.at 0 _ rfl
      have f0 : wr.frozen? ⟨b, off + j * 2, none⟩ = false := R.soft _
      have c1 : wr.cell? ⟨b, off + j * 2 + 1, none⟩ = some (.slice a1 x.vec.length d1) := R.at 1 _ rfl
      have R0_ : RowAt wr (wr.setCell ⟨b, off + j * 2, none⟩ (.int .i64 kj)) b (off + j * 2) 2 [.int .i64 kj, .slice a1 x.vec.length d1] blk := (R.set 0 (.int .i64 kj) (by decide))
      have E0_ : Ext (fun q => q = b) wr (wr.setCell ⟨b, off + j * 2, none⟩ (.int .i64 kj)) := ((Ext.refl (fun q => q = b) _).setCell ⟨b, off + j * 2, none⟩ (.int .i64 kj) rfl)
      have O1_ := O1.ext E0_ (fun c hc e => hbk (e ▸ hc))
      clear O1
      have O1 := O1_
      clear O1_
      clear R E0_
      have R := R0_
      clear R0_
      have HR := hide R
      clear R
      go_wp2_with fail
      refine (mark_Int64S _ x.vec blk (kj + 1) _ O1 (by omega) (by omega)).mono ?_
      rintro e w2 ⟨rfl, Q1, E2⟩
      have R := (unhide HR).call E2 (fun _ h => h) hbk
      clear E2 O1 HR c0 c1 f0
      clear l1
      have l1 : b < w2.heap.size := R.lt
      have HR := hide R
      clear R
      have HQ := hide Q1
      clear Q1
      go_wp2_with fail
      go_roundw
      case rel =>
        refine ⟨j + 1, _, by omega, by go_num, ?_, rfl, ?_, ?_⟩
        · rw [unhide HT, hcn]
          have := unhide HK
          omega
        · rw [← unhide HM _ (unhide HD).symm]
          exact unhide HF _ _ _ (unhide HR) (mkOwn_Item (x := ⟨kj, (Lay.sl Lay.int).mkv (kj + 1) x.vec⟩) (unhide HQ) (show (Lit.int .i64 (kj)).wf = true from wf_of_bd (by omega)) (unhide HN))
        · exact (unhide HX).trans ((unhide HR).ext.mono fun q _ hq => unhide HI q (by rcases hq with h | h; exact Or.inl h.symm; exact Or.inr h))
      case measure => simp [intOf]; omega
    · obtain rfl : j = xs.length := by omega
      rw [mkPre_all] at hO
      rw [List.take_length] at hkj
      have HK := hide hkj
      clear hkj
      have HO := hide hO
      have HX := hide hX
      clear hO hX
      go_wp2_with fail
      go_ret
      exact ⟨by rw [← unhide HK]; rfl, unhide HO, unhide HX⟩

theorem markItem_zero (ao : Option Addr) (cap : Nat) (k : Int) (w : World) :
    Calls Try.prog 24 #[.slice ao 0 cap, .int .i64 k] w fun e w' => e = .returned (.int .i64 k) ∧ w' = w := by
  go_enter Try.func24, Try.ntmps24
  go_wp2_with fail
  refine wp_loop_rounds 1 ?_
  rw [rounds_succ]
  go_wp2_with fail
  go_ret
  exact ⟨rfl, rfl⟩

/-- markItemS. -/
theorem mark_ItemS (v : Value) (xs : List DItem) (bl : List Nat) (k : Int) (w : World) (h : (Lay.sl Lay.tItem).Own w [v] xs bl) (hk : 0 ≤ k) (hk2 : k + (Lay.sl Lay.tItem).vcnt xs ≤ 1000000000) :
    Calls Try.prog 24 #[v, .int .i64 k] w fun e w' => e = .returned (.int .i64 (k + (Lay.sl Lay.tItem).vcnt xs)) ∧ (Lay.sl Lay.tItem).Own w' [v] ((Lay.sl Lay.tItem).mkv k xs) bl ∧ Ext (fun q => q ∈ bl) w w' := by
  obtain ⟨ao, cap, rfl⟩ := open_sl h.reads
  by_cases hp : 0 < xs.length
  · obtain ⟨b, off, rfl, hbl⟩ := Lay.sl_addr h.reads hp
    exact markItem_pos b off cap xs bl k w h hk hk2
  · obtain rfl : xs = [] := List.eq_nil_of_length_eq_zero (by omega)
    refine (markItem_zero ao cap k w).mono ?_
    rintro e w' ⟨rfl, rfl⟩
    exact ⟨by rw [vcnt_ItemS]; simp [cntAll], h, Ext.refl _ _⟩

end Go.Proofs.Ytfgadegpdknocaa

namespace Go.Proofs.Ytfgadegpdknocaa
open Go.RowKit

theorem cnt_IvfList (x : DIvfList) : Lay.tIvfList.cnt x = 0 + (Lay.sl Lay.tItem).vcnt x.items := by
  show (Lay.sl Lay.tItem).vcnt x.items = 0 + (Lay.sl Lay.tItem).vcnt x.items
  omega
theorem mkd_IvfList (k : Int) (x : DIvfList) : Lay.tIvfList.mkd k x = ⟨(Lay.sl Lay.tItem).mkv (k) x.items⟩ := rfl
theorem vcnt_IvfListS (xs : List DIvfList) : (Lay.sl Lay.tIvfList).vcnt xs = cntAll Lay.tIvfList.cnt xs := rfl
theorem mkv_IvfListS (k : Int) (xs : List DIvfList) : (Lay.sl Lay.tIvfList).mkv k xs = mkAll Lay.tIvfList.cnt Lay.tIvfList.mkd k xs := rfl

set_option maxRecDepth 10000 in
set_option maxHeartbeats 2000000 in
theorem markIvfList_pos (b off cap : Nat) (xs : List DIvfList) (bl : List Nat) (k : Int) (w : World) (h : (Lay.sl Lay.tIvfList).Own w [.slice (some ⟨b, off, none⟩) xs.length cap] xs bl) (hk : 0 ≤ k) (hk2 : k + (cntAll Lay.tIvfList.cnt xs : Nat) ≤ 1000000000) :
    Calls Try.prog 76 #[.slice (some ⟨b, off, none⟩) xs.length cap, .int .i64 k] w fun e w' => e = .returned (.int .i64 (k + (cntAll Lay.tIvfList.cnt xs : Nat))) ∧ (Lay.sl Lay.tIvfList).Own w' [.slice (some ⟨b, off, none⟩) xs.length cap] (mkAll Lay.tIvfList.cnt Lay.tIvfList.mkd k xs) bl ∧ Ext (fun q => q ∈ bl) w w' := by
  have hbig := h.reads.big
  have H := hide h
  clear h
  go_enter Try.func76, Try.ntmps76
  go_wp2_with fail
  go_loopw [1, 5] (fun kk i wr => ∃ (j : Nat) (kj : Int), j ≤ xs.length ∧ i = .int .i64 j ∧ kj = k + (cntAll Lay.tIvfList.cnt (xs.take j) : Nat) ∧ kk = .int .i64 kj ∧ (Lay.sl Lay.tIvfList).Own wr [.slice (some ⟨b, off, none⟩) xs.length cap] (mkPre Lay.tIvfList.cnt Lay.tIvfList.mkd k xs j) bl ∧ Ext (fun q => q ∈ bl) w wr) (fun _ i _ => xs.length - (intOf i).toNat)
  case atStart => exact ⟨0, k, Nat.zero_le _, rfl, by simp [cntAll], rfl, by rw [mkPre_zero]; exact unhide H, Ext.refl _ _⟩
  case round =>
    obtain ⟨j, kj, hj, rfl, hkj, rfl, hO, hX⟩ := hrel
    clear H
    by_cases hlt : j < xs.length
    · have hj2 : j < (mkPre Lay.tIvfList.cnt Lay.tIvfList.mkd k xs j).length := by rw [mkPre_len _ _ _ _ _ hj]; exact hlt
      obtain ⟨row, blk, R, O, hbk, hin, hfin⟩ := Lay.own_upd hO hj2
      rw [mkPre_get _ _ _ _ _ hlt] at O
      have HT := hide (Lay.cntAll_take (f := Lay.tIvfList.cnt) hlt)
      have hle := Lay.cntAll_take_le (f := Lay.tIvfList.cnt) (xs := xs) (k := j + 1)
      rw [unhide HT] at hle
      have HM : Hid (∀ y, y = Lay.tIvfList.mkd kj xs[j] → (mkPre Lay.tIvfList.cnt Lay.tIvfList.mkd k xs j).set j y = mkPre Lay.tIvfList.cnt Lay.tIvfList.mkd k xs (j + 1)) := fun y e => by rw [e, hkj]; exact mkPre_set _ _ _ _ _ hlt
      have HF := hide hfin
      have HX := hide hX
      have HI := hide hin
      clear hO hfin hX hin hj2
      generalize hx : xs[j] = x at *
      clear hx
      have hcn := cnt_IvfList x
      have HD := hide (mkd_IvfList kj x)
      have hb1 : 0 ≤ kj := by omega
      have hb2 : kj + (Lay.tIvfList.cnt x : Int) ≤ 1000000000 := by omega
      have HK := hide hkj
      clear hkj hle
      have hnd := O.2.1
      obtain ⟨a0, d0, g0, rfl, hbl, O0⟩ := own_IvfList O
      clear O
      subst hbl
      have HN := hide hnd
      clear hnd
      have l1 : b < wr.heap.size := R.lt
      have c0 : wr.cell? ⟨b, off + j, none⟩ = some (.slice a0 x.items.length d0) := (by have q1 : wr.cell? ⟨b, off + j * 1 + 0, none⟩ = some (.slice a0 x.items.length d0) := R.at 0 _ rfl; rw [Nat.mul_one, Nat.add_zero] at q1; exact q1)
      have HR := hide R
      clear R
      go_wp2_with fail
      refine (mark_ItemS _ x.items blk (kj) _ O0 (by omega) (by omega)).mono ?_
      rintro e w2 ⟨rfl, Q0, E2⟩
      have R := (unhide HR).call E2 (fun _ h => h) hbk
      clear E2 O0 HR c0 
      clear l1
      have l1 : b < w2.heap.size := R.lt
      have HR := hide R
      clear R
      have HQ := hide Q0
      clear Q0
      go_wp2_with fail
      go_roundw
      case rel =>
        refine ⟨j + 1, _, by omega, by go_num, ?_, rfl, ?_, ?_⟩
        · rw [unhide HT, hcn]
          have := unhide HK
          omega
        · rw [← unhide HM _ (unhide HD).symm]
          exact unhide HF _ _ _ (unhide HR) (mkOwn_IvfList (x := ⟨(Lay.sl Lay.tItem).mkv (kj) x.items⟩) (unhide HQ)  (unhide HN))
        · exact (unhide HX).trans ((unhide HR).ext.mono fun q _ hq => unhide HI q (by rcases hq with h | h; exact Or.inl h.symm; exact Or.inr h))
      case measure => simp [intOf]; omega
    · obtain rfl : j = xs.length := by omega
      rw [mkPre_all] at hO
      rw [List.take_length] at hkj
      have HK := hide hkj
      clear hkj
      have HO := hide hO
      have HX := hide hX
      clear hO hX
      go_wp2_with fail
      go_ret
      exact ⟨by rw [← unhide HK]; rfl, unhide HO, unhide HX⟩

theorem markIvfList_zero (ao : Option Addr) (cap : Nat) (k : Int) (w : World) :
    Calls Try.prog 76 #[.slice ao 0 cap, .int .i64 k] w fun e w' => e = .returned (.int .i64 k) ∧ w' = w := by
  go_enter Try.func76, Try.ntmps76
  go_wp2_with fail
  refine wp_loop_rounds 1 ?_
  rw [rounds_succ]
  go_wp2_with fail
  go_ret
  exact ⟨rfl, rfl⟩

/-- markIvfListS. -/
theorem mark_IvfListS (v : Value) (xs : List DIvfList) (bl : List Nat) (k : Int) (w : World) (h : (Lay.sl Lay.tIvfList).Own w [v] xs bl) (hk : 0 ≤ k) (hk2 : k + (Lay.sl Lay.tIvfList).vcnt xs ≤ 1000000000) :
    Calls Try.prog 76 #[v, .int .i64 k] w fun e w' => e = .returned (.int .i64 (k + (Lay.sl Lay.tIvfList).vcnt xs)) ∧ (Lay.sl Lay.tIvfList).Own w' [v] ((Lay.sl Lay.tIvfList).mkv k xs) bl ∧ Ext (fun q => q ∈ bl) w w' := by
  obtain ⟨ao, cap, rfl⟩ := open_sl h.reads
  by_cases hp : 0 < xs.length
  · obtain ⟨b, off, rfl, hbl⟩ := Lay.sl_addr h.reads hp
    exact markIvfList_pos b off cap xs bl k w h hk hk2
  · obtain rfl : xs = [] := List.eq_nil_of_length_eq_zero (by omega)
    refine (markIvfList_zero ao cap k w).mono ?_
    rintro e w' ⟨rfl, rfl⟩
    exact ⟨by rw [vcnt_IvfListS]; simp [cntAll], h, Ext.refl _ _⟩

end Go.Proofs.Ytfgadegpdknocaa

namespace Go.Proofs.Ytfgadegpdknocaa
open Go.RowKit

set_option maxRecDepth 10000 in
set_option maxHeartbeats 1000000 in
theorem mark_Ivf (cs : List Value) (x : DIvf) (bl : List Nat) (k : Int) (w : World) (h : Lay.tIvf.Own w cs x bl) (hk : 0 ≤ k) (hk2 : k + Lay.tIvf.vcnt x ≤ 1000000000) :
    Calls Try.prog 32 #[.agg cs.toArray, .int .i64 k] w fun e w' => e = .returned (.int .i64 (k + Lay.tIvf.vcnt x)) ∧ Lay.tIvf.Own w' cs (Lay.tIvf.mkv k x) bl ∧ Ext (fun q => q ∈ bl) w w' := by
  have hlt := h.lt
  have hnd := h.2.1
  rw [vcnt_Ivf] at hk2
  obtain ⟨a0, d0, a1, d1, g0, g1, rfl, hbl, O0, O1⟩ := own_Ivf h
  clear h
  have HB0 : Below w.heap.size w (w.alloc (.cells #[.slice a0 x.centers.length d0, .slice a1 x.lists.length d1] 31)) := (Below.refl _ _).alloc (Nat.le_refl _) _
  have bA : Box w.heap.size #[.slice a0 x.centers.length d0, .slice a1 x.lists.length d1] 31 (w.alloc (.cells #[.slice a0 x.centers.length d0, .slice a1 x.lists.length d1] 31)) w.heap.size := newBox (Nat.le_refl _)
  have HN := hide hnd
  have HV := hide (vcnt_Ivf x)
  have HM := hide (mkv_Ivf k x)
  clear hnd
  go_enter Try.func32, Try.ntmps32
  go_wp2_with fail
  generalize w.alloc (.cells #[.slice a0 x.centers.length d0, .slice a1 x.lists.length d1] 31) = W0 at *
  replace O0 := O0.later HB0
  replace O1 := O1.later HB0
  have hsz := HB0.size
  have EX : Ext (fun q => q ∈ bl) w W0 := ext_of_below HB0 _
  have hs0 := bA.lt
  refine (mark_CenterS _ x.centers g0 (k) _ O0 (by omega) (by omega)).mono ?_
  rintro e w1 ⟨rfl, Q0, E0⟩
  replace O1 := O1.ext E0 (fun b hb hb2 => by subst hbl; exact absurd rfl ((by have := unhide HN; simp_all [List.nodup_append] : ∀ p ∈ g0, ∀ q ∈ g1, p ≠ q) b hb2 b hb))
  replace EX := EX.trans (E0.mono fun b _ hb => by rw [hbl]; simp [hb])
  replace bA := bA.ext E0 (fun hm => by have := hlt w.heap.size (by rw [hbl]; simp [hm]); omega)
  clear E0
  have p1 := bA.at 1 _ rfl
  have HA := hide bA
  have HX := hide EX
  have HL := hide hlt
  have HBL := hide hbl
  clear bA EX hlt hbl
  have P0 := hide Q0
  clear Q0
  have P1 := hide O1
  clear O1
  clear O0
  go_wp2_with fail
  have bA := unhide HA
  have EX := unhide HX
  have hlt := unhide HL
  have hbl := unhide HBL
  clear HA HX HL HBL
  have Q0 := unhide P0
  clear P0
  have O1 := unhide P1
  clear P1
  clear p1
  refine (mark_IvfListS _ x.lists g1 (k + ((Lay.sl Lay.tCenter).vcnt x.centers : Int)) _ O1 (by omega) (by omega)).mono ?_
  rintro e w2 ⟨rfl, Q1, E1⟩
  replace Q0 := Q0.ext E1 (fun b hb hb2 => by subst hbl; exact absurd rfl ((by have := unhide HN; simp_all [List.nodup_append] : ∀ p ∈ g0, ∀ q ∈ g1, p ≠ q) b hb b hb2))
  replace EX := EX.trans (E1.mono fun b _ hb => by rw [hbl]; simp [hb])
  replace bA := bA.ext E1 (fun hm => by have := hlt w.heap.size (by rw [hbl]; simp [hm]); omega)
  clear E1
  have HA := hide bA
  have HX := hide EX
  have HL := hide hlt
  have HBL := hide hbl
  clear bA EX hlt hbl
  have P0 := hide Q0
  clear Q0
  have P1 := hide Q1
  clear Q1
  clear O1
  go_wp2_with fail
  go_ret
  refine ⟨?_, ?_, unhide HX⟩
  · rw [show k + (Lay.tIvf.vcnt x : Int) = k + ((Lay.sl Lay.tCenter).vcnt x.centers : Int) + ((Lay.sl Lay.tIvfList).vcnt x.lists : Int) by rw [unhide HV]; omega]
    rfl
  · have e := unhide HBL
    subst e
    rw [unhide HM]
    exact mkOwn_Ivf (x := ⟨(Lay.sl Lay.tCenter).mkv (k) x.centers, (Lay.sl Lay.tIvfList).mkv (k + ((Lay.sl Lay.tCenter).vcnt x.centers : Int)) x.lists⟩) (unhide P0) (unhide P1) (unhide HN)

end Go.Proofs.Ytfgadegpdknocaa

namespace Go.Proofs.Ytfgadegpdknocaa
open Go.RowKit

set_option maxRecDepth 10000 in
set_option maxHeartbeats 1000000 in
theorem eq_TableResult (cs cs2 : List Value) (x : DTableResult) (w : World) (h : Lay.tTableResult.Reads w cs x) (h2 : Lay.tTableResult.Reads w cs2 x) :
    Calls Try.prog 38 #[.agg cs.toArray, .agg cs2.toArray] w fun e w' => e = .returned (.bool true) ∧ Below w.heap.size w w' := by
  obtain ⟨a1, d1, rfl, R1⟩ := open_TableResult h
  obtain ⟨a1z, d1z, rfl, R1z⟩ := open_TableResult h2
  clear h h2
  have e0 : (x.code != x.code) = false := by simp
  have HB0 : Below w.heap.size w ((w.alloc (.cells #[.int .i64 x.code, .slice a1 x.items.length d1] 63)).alloc (.cells #[.int .i64 x.code, .slice a1z x.items.length d1z] 63)) := ((Below.refl _ _).alloc (Nat.le_refl _) _).alloc (by simp) _
  have bA : Box w.heap.size #[.int .i64 x.code, .slice a1 x.items.length d1] 63 ((w.alloc (.cells #[.int .i64 x.code, .slice a1 x.items.length d1] 63)).alloc (.cells #[.int .i64 x.code, .slice a1z x.items.length d1z] 63)) w.heap.size := (newBox (Nat.le_refl _)).grow _
  have bC : Box w.heap.size #[.int .i64 x.code, .slice a1z x.items.length d1z] 63 ((w.alloc (.cells #[.int .i64 x.code, .slice a1 x.items.length d1] 63)).alloc (.cells #[.int .i64 x.code, .slice a1z x.items.length d1z] 63)) (w.heap.size + 1) := newBoxAt (by omega) (by simp)
  go_enter Try.func38, Try.ntmps38
  go_wp2_with fail
  generalize (w.alloc (.cells #[.int .i64 x.code, .slice a1 x.items.length d1] 63)).alloc (.cells #[.int .i64 x.code, .slice a1z x.items.length d1z] 63) = W0 at *
  replace R1 := R1.later HB0
  replace R1z := R1z.later HB0
  refine (eq_ItemS _ _ x.items _ R1 R1z).mono ?_
  rintro e w1 ⟨rfl, hb⟩
  replace bA := bA.keep hb
  replace bC := bC.keep hb
  replace HB0 := HB0.trans (hb.mono HB0.size)
  clear hb
  have HB := hide HB0
  have HA := hide bA
  have HC := hide bC
  clear HB0 bA bC
  go_wp2_with fail
  go_ret
  exact ⟨rfl, unhide HB⟩

end Go.Proofs.Ytfgadegpdknocaa

namespace Go.Proofs.Ytfgadegpdknocaa
open Go.RowKit

set_option maxRecDepth 10000 in
set_option maxHeartbeats 1000000 in
theorem mark_TableResult (cs : List Value) (x : DTableResult) (bl : List Nat) (k : Int) (w : World) (h : Lay.tTableResult.Own w cs x bl) (hk : 0 ≤ k) (hk2 : k + Lay.tTableResult.vcnt x ≤ 1000000000) :
    Calls Try.prog 39 #[.agg cs.toArray, .int .i64 k] w fun e w' => e = .returned (.int .i64 (k + Lay.tTableResult.vcnt x)) ∧ Lay.tTableResult.Own w' cs (Lay.tTableResult.mkv k x) bl ∧ Ext (fun q => q ∈ bl) w w' := by
  have hlt := h.lt
  have hnd := h.2.1
  rw [vcnt_TableResult] at hk2
  obtain ⟨a1, d1, g1, rfl, hbl, O1, v0⟩ := own_TableResult h
  clear h
  have HB0 : Below w.heap.size w (w.alloc (.cells #[.int .i64 x.code, .slice a1 x.items.length d1] 63)) := (Below.refl _ _).alloc (Nat.le_refl _) _
  have bA : Box w.heap.size #[.int .i64 x.code, .slice a1 x.items.length d1] 63 (w.alloc (.cells #[.int .i64 x.code, .slice a1 x.items.length d1] 63)) w.heap.size := newBox (Nat.le_refl _)
  have HN := hide hnd
  have HV := hide (vcnt_TableResult x)
  have HM := hide (mkv_TableResult k x)
  clear hnd
  go_enter Try.func39, Try.ntmps39
  go_wp2_with fail
  generalize w.alloc (.cells #[.int .i64 x.code, .slice a1 x.items.length d1] 63) = W0 at *
  replace O1 := O1.later HB0
  have hsz := HB0.size
  have EX : Ext (fun q => q ∈ bl) w W0 := ext_of_below HB0 _
  have hs0 := bA.lt
  refine (mark_ItemS _ x.items g1 (k) _ O1 (by omega) (by omega)).mono ?_
  rintro e w1 ⟨rfl, Q1, E1⟩
  replace EX := EX.trans (E1.mono fun b _ hb => by rw [hbl]; simp [hb])
  replace bA := bA.ext E1 (fun hm => by have := hlt w.heap.size (by rw [hbl]; simp [hm]); omega)
  clear E1
  have HA := hide bA
  have HX := hide EX
  have HL := hide hlt
  have HBL := hide hbl
  clear bA EX hlt hbl
  have P1 := hide Q1
  clear Q1
  clear O1
  go_wp2_with fail
  go_ret
  refine ⟨?_, ?_, unhide HX⟩
  · rw [show k + (Lay.tTableResult.vcnt x : Int) = k + ((Lay.sl Lay.tItem).vcnt x.items : Int) by rw [unhide HV]]
    rfl
  · have e := unhide HBL
    subst e
    rw [unhide HM]
    exact mkOwn_TableResult (x := ⟨x.code, (Lay.sl Lay.tItem).mkv (k) x.items⟩) (unhide P1) v0 (unhide HN)

end Go.Proofs.Ytfgadegpdknocaa

namespace Go.Proofs.Ytfgadegpdknocaa
open Go.RowKit

set_option maxRecDepth 10000 in
set_option maxHeartbeats 2000000 in
theorem heldItem_pos (b off cap : Nat) (xs : List DItem) (k : Int) (w : World) (h : (Lay.sl Lay.tItem).Reads w [.slice (some ⟨b, off, none⟩) (mkAll Lay.tItem.cnt Lay.tItem.mkd k xs).length cap] (mkAll Lay.tItem.cnt Lay.tItem.mkd k xs)) (hbl : b < w.heap.size) (hk : 0 ≤ k) (hk2 : k + (cntAll Lay.tItem.cnt xs : Nat) ≤ 1000000000) :
    Calls Try.prog 80 #[.slice (some ⟨b, off, none⟩) xs.length cap, .int .i64 k] w fun e w' => e = .returned (.int .i64 (k + (cntAll Lay.tItem.cnt xs : Nat))) ∧ Below w.heap.size w w' := by
  have hbig := h.big
  rw [mkAll_size] at hbig
  have H := hide h
  clear h
  go_enter Try.func80, Try.ntmps80
  go_wp2_with fail
  go_loopw [1, 5] (fun kk i wr => ∃ (j : Nat) (kj : Int), j ≤ xs.length ∧ i = .int .i64 j ∧ kj = k + (cntAll Lay.tItem.cnt (xs.take j) : Nat) ∧ kk = .int .i64 kj ∧ Below w.heap.size w wr) (fun _ i _ => xs.length - (intOf i).toNat)
  case atStart => exact ⟨0, k, Nat.zero_le _, rfl, by simp [cntAll], rfl, Below.refl _ _⟩
  case round =>
    obtain ⟨j, kj, hj, rfl, hkj, rfl, hB⟩ := hrel
    by_cases hlt : j < xs.length
    · have hj2 : j < (mkAll Lay.tItem.cnt Lay.tItem.mkd k xs).length := by rw [mkAll_size]; exact hlt
      obtain ⟨row, hc, hr⟩ := Lay.row_at (unhide H) hj2
      rw [mkAll_at _ _ _ _ _ hlt hj2, ← hkj, mkd_Item] at hr
      have HT := hide (Lay.cntAll_take (f := Lay.tItem.cnt) hlt)
      have hle := Lay.cntAll_take_le (f := Lay.tItem.cnt) (xs := xs) (k := j + 1)
      rw [unhide HT] at hle
      clear hj2
      generalize hx : xs[j] = x at *
      clear hx
      have hcn := cnt_Item x
      have hb1 : 0 ≤ kj := by omega
      have hb2 : kj + (Lay.tItem.cnt x : Int) ≤ 1000000000 := by omega
      have HK := hide hkj
      clear hkj hle
      replace hr := hr.later hB
      obtain ⟨a1, d1, rfl, R1⟩ := open_Item hr
      clear hr
      generalize hn : (⟨kj, (Lay.sl Lay.int).mkv (kj + 1) x.vec⟩ : DItem).vec.length = n1 at *
      clear hn
      have c0 : wr.cell? ⟨b, off + j * 2, none⟩ = some (.int .i64 (kj)) := (hB.cell (p := ⟨b, off + j * 2, none⟩) hbl).trans (hc 0 (by decide))
      have e0 : ((kj : Int) != (kj : Int)) = false := by simp
      have c1 : wr.cell? ⟨b, off + j * 2 + 1, none⟩ = some (.slice a1 n1 d1) := (hB.cell (p := ⟨b, off + j * 2 + 1, none⟩) hbl).trans (hc 1 (by decide))
      have HB := hide hB
      clear hB hc
      go_wp2_with fail
      refine (held_Int64S _ x.vec (kj + 1) _ R1 (by omega) (by omega)).mono ?_
      rintro e w2 ⟨rfl, hb⟩
      have l1 : b < wr.heap.size := Nat.lt_of_lt_of_le hbl (unhide HB).size
      replace HB := hide ((unhide HB).trans (hb.mono (unhide HB).size))
      clear hb R1 l1 c0 c1
      have hq : decide (kj + 1 + ((Lay.sl Lay.int).vcnt x.vec : Int) < 0) = false := by simp; omega
      go_wp2_with fail
      go_roundw
      case rel => exact ⟨j + 1, _, by omega, by go_num, (by rw [unhide HT, hcn]; have := unhide HK; omega), rfl, unhide HB⟩
      case measure => simp [intOf]; omega
    · obtain rfl : j = xs.length := by omega
      rw [List.take_length] at hkj
      have HK := hide hkj
      have HB := hide hB
      clear hB hkj
      go_wp2_with fail
      go_ret
      exact ⟨by rw [← unhide HK]; rfl, unhide HB⟩

theorem heldItem_zero (ao : Option Addr) (cap : Nat) (k : Int) (w : World) :
    Calls Try.prog 80 #[.slice ao 0 cap, .int .i64 k] w fun e w' => e = .returned (.int .i64 k) ∧ w' = w := by
  go_enter Try.func80, Try.ntmps80
  go_wp2_with fail
  refine wp_loop_rounds 1 ?_
  rw [rounds_succ]
  go_wp2_with fail
  go_ret
  exact ⟨rfl, rfl⟩

/-- heldItemS. -/
theorem held_ItemS (v : Value) (xs : List DItem) (k : Int) (w : World) (h : (Lay.sl Lay.tItem).Reads w [v] ((Lay.sl Lay.tItem).mkv k xs)) (hk : 0 ≤ k) (hk2 : k + (Lay.sl Lay.tItem).vcnt xs ≤ 1000000000) :
    Calls Try.prog 80 #[v, .int .i64 k] w fun e w' => e = .returned (.int .i64 (k + (Lay.sl Lay.tItem).vcnt xs)) ∧ Below w.heap.size w w' := by
  rw [mkv_ItemS] at h
  obtain ⟨ao, cap, rfl⟩ := open_sl h
  by_cases hp : 0 < xs.length
  · obtain ⟨b, off, rfl, hbl⟩ := Lay.sl_addr h (by rw [mkAll_size]; exact hp)
    have L := heldItem_pos b off cap xs k w h hbl hk hk2
    rw [mkAll_size]
    exact L
  · obtain rfl : xs = [] := List.eq_nil_of_length_eq_zero (by omega)
    refine (heldItem_zero ao cap k w).mono ?_
    rintro e w' ⟨rfl, rfl⟩
    exact ⟨by rw [vcnt_ItemS]; simp [cntAll], Below.refl _ _⟩

end Go.Proofs.Ytfgadegpdknocaa

namespace Go.Proofs.Ytfgadegpdknocaa
open Go.RowKit

set_option maxRecDepth 10000 in
set_option maxHeartbeats 1000000 in
theorem held_TableResult (cs : List Value) (x : DTableResult) (k : Int) (w : World) (h : Lay.tTableResult.Reads w cs (Lay.tTableResult.mkv k x)) (hk : 0 ≤ k) (hk2 : k + Lay.tTableResult.vcnt x ≤ 1000000000) :
    Calls Try.prog 40 #[.agg cs.toArray, .int .i64 k] w fun e w' => e = .returned (.int .i64 (k + Lay.tTableResult.vcnt x)) ∧ Below w.heap.size w w' := by
  rw [mkv_TableResult] at h
  rw [vcnt_TableResult] at hk2
  have HV := hide (vcnt_TableResult x)
  obtain ⟨a1, d1, rfl, R1⟩ := open_TableResult h
  clear h
  generalize hn1 : (⟨x.code, (Lay.sl Lay.tItem).mkv (k) x.items⟩ : DTableResult).items.length = n1 at *
  clear hn1
  have HB0 : Below w.heap.size w (w.alloc (.cells #[.int .i64 x.code, .slice a1 n1 d1] 63)) := (Below.refl _ _).alloc (Nat.le_refl _) _
  have bA : Box w.heap.size #[.int .i64 x.code, .slice a1 n1 d1] 63 (w.alloc (.cells #[.int .i64 x.code, .slice a1 n1 d1] 63)) w.heap.size := newBox (Nat.le_refl _)
  go_enter Try.func40, Try.ntmps40
  go_wp2_with fail
  generalize w.alloc (.cells #[.int .i64 x.code, .slice a1 n1 d1] 63) = W0 at *
  replace R1 := R1.later HB0
  refine (held_ItemS _ x.items (k) _ R1 (by omega) (by omega)).mono ?_
  rintro e w1 ⟨rfl, hb⟩
  replace HB0 := HB0.trans (hb.mono HB0.size)
  replace bA := bA.keep hb
  have HA := hide bA
  have HX := hide HB0
  clear bA HB0 hb R1
  have hq : decide (k + ((Lay.sl Lay.tItem).vcnt x.items : Int) < 0) = false := by simp; omega
  go_wp2_with fail
  clear hq
  go_ret
  refine ⟨?_, unhide HX⟩
  rw [show k + (Lay.tTableResult.vcnt x : Int) = k + ((Lay.sl Lay.tItem).vcnt x.items : Int) by rw [unhide HV]]
  rfl

end Go.Proofs.Ytfgadegpdknocaa

namespace Go.Proofs.Ytfgadegpdknocaa
open Go.RowKit

set_option maxRecDepth 100000 in
set_option maxHeartbeats 4000000 in
theorem lawx_ItemsOf (u0 : List Value) (x0 : DIvf) (y : DTableResult) (w : World) (A0 : Lay.tIvf.Reads w u0 x0) (NS : Lay.tIvf.sz x0 ≤ 1048576)
    (hS : ∀ (W : World) (u0 : List Value), Lay.tIvf.Reads W u0 x0 → Calls Try.prog 36 #[.agg u0.toArray] W fun e w' => ∃ cs, e = .returned (.agg cs.toArray) ∧ Lay.tTableResult.Reads w' cs y ∧ Below W.heap.size W w')
    (hI : ∀ (W : World) (u0 : List Value), Lay.tIvf.Reads W u0 x0 → Calls Try.prog 37 #[.agg u0.toArray] W fun e w' => ∃ cs, e = .returned (.agg cs.toArray) ∧ Lay.tTableResult.OwnIn w' cs y W.heap.size w'.heap.size ∧ Below W.heap.size W w') (hc : Lay.tTableResult.vcnt y ≤ 100000000) :
    Calls Try.prog 6 #[.agg u0.toArray] w fun e w' => e = .returned (.bool true) ∧ Below w.heap.size w w' := by
  obtain ⟨a0p0, d0p0, a1p0, d1p0, rfl, -, -⟩ := open_Ivf A0
  have HS := hide hS
  have HI := hide hI
  clear hS hI
  have HA0 := hide A0.liesIn
  clear A0
  have N0 : Lay.tIvf.sz x0 ≤ 1048576 := by omega
  have HN0 := hide N0
  clear N0
  have HC := hide hc
  clear hc
  have HNS := hide NS
  clear NS
  have HB := hide (Below.refl w.heap.size w)
  go_enter Try.func6, Try.ntmps6
  go_wp2_with fail
  have nb : Below w.heap.size w (w.alloc (.cells #[.slice a0p0 x0.centers.length d0p0, .slice a1p0 x0.lists.length d1p0] 25)) := (Below.refl w.heap.size w).alloc (Nat.le_refl _) _
  have P0 : Hid (Box w.heap.size #[.slice a0p0 x0.centers.length d0p0, .slice a1p0 x0.lists.length d1p0] 25 (w.alloc (.cells #[.slice a0p0 x0.centers.length d0p0, .slice a1p0 x0.lists.length d1p0] 25)) (w.heap.size)) := newBoxAt (by omega) (by simp)
  generalize haw1 : (w.alloc (.cells #[.slice a0p0 x0.centers.length d0p0, .slice a1p0 x0.lists.length d1p0] 25)) = w1 at *
  have Gw1 : w.heap.size + 1 ≤ w1.heap.size := by rw [← haw1]; simp
  clear haw1
  replace HA0 := hide ((unhide HA0).later nb)
  have Zw1 : w.heap.size ≤ w1.heap.size := nb.size
  replace HB := hide ((unhide HB).trans (nb.mono (by omega)))
  clear nb
  have hns := unhide HNS
  refine (sz_Ivf _ x0 (1048576) w1 (unhide HA0).reads (by omega)).mono ?_
  rintro e w2 ⟨rfl, hb⟩
  replace HA0 := hide ((unhide HA0).later hb)
  replace P0 := hide ((unhide P0).keep hb)
  have Zw2 : w1.heap.size ≤ w2.heap.size := hb.size
  replace HB := hide ((unhide HB).trans (hb.mono (by omega)))
  clear hb
  rw [szR_ok (by omega)]
  have hq0 : decide (((1048576 - Lay.tIvf.sz x0 : Nat) : Int) < 0) = false := by simp
  clear hns
  have l0P0 := (unhide P0).at 0 _ rfl
  have l1P0 := (unhide P0).at 1 _ rfl
  have ltP0 : w.heap.size < w2.heap.size := by omega
  simp only [List.getElem_toArray, List.getElem_cons_zero, List.getElem_cons_succ] at l0P0 l1P0
  go_wp2_with fail
  clear l0P0 l1P0 ltP0
  clear hq0
  refine (to_Ivf _ x0 w2 (unhide HA0).reads (unhide HN0)).mono ?_
  rintro e w3 ⟨vc0, rfl, O, hb⟩
  replace HA0 := hide ((unhide HA0).later hb)
  replace P0 := hide ((unhide P0).keep hb)
  have Zw3 : w2.heap.size ≤ w3.heap.size := hb.size
  replace HB := hide ((unhide HB).trans (hb.mono (by omega)))
  clear hb
  obtain ⟨a0c0, d0c0, a1c0, d1c0, rfl, -, -⟩ := open_Ivf O.reads
  have Hc0 := hide O
  clear O
  have l0P0 := (unhide P0).at 0 _ rfl
  have l1P0 := (unhide P0).at 1 _ rfl
  have ltP0 : w.heap.size < w3.heap.size := by omega
  simp only [List.getElem_toArray, List.getElem_cons_zero, List.getElem_cons_succ] at l0P0 l1P0
  go_wp2_with fail
  clear l0P0 l1P0 ltP0
  refine (unhide HS w3 _ (unhide Hc0).reads).mono ?_
  rintro e w4 ⟨cs, rfl, O, hb⟩
  replace HA0 := hide ((unhide HA0).later hb)
  replace P0 := hide ((unhide P0).keep hb)
  replace Hc0 := hide ((unhide Hc0).later hb)
  have Zw4 : w3.heap.size ≤ w4.heap.size := hb.size
  replace HB := hide ((unhide HB).trans (hb.mono (by omega)))
  clear hb
  obtain ⟨a1W, d1W, rfl, -⟩ := open_TableResult O
  have HW := hide O.liesIn
  clear O
  have nb : Below w4.heap.size w4 (w4.alloc (.cells #[.int .i64 y.code, .slice a1W y.items.length d1W] 63)) := (Below.refl _ _).alloc (Nat.le_refl _) _
  have YW : Hid (Box w4.heap.size #[.int .i64 y.code, .slice a1W y.items.length d1W] 63 (w4.alloc (.cells #[.int .i64 y.code, .slice a1W y.items.length d1W] 63)) w4.heap.size) := newBox (Nat.le_refl _)
  clear Hc0
  have l0P0 := (unhide P0).at 0 _ rfl
  have l1P0 := (unhide P0).at 1 _ rfl
  have ltP0 : w.heap.size < w4.heap.size := by omega
  simp only [List.getElem_toArray, List.getElem_cons_zero, List.getElem_cons_succ] at l0P0 l1P0
  go_wp2_with fail
  clear l0P0 l1P0 ltP0
  generalize haw5 : w4.alloc (.cells #[.int .i64 y.code, .slice a1W y.items.length d1W] 63) = w5 at *
  have Gw5 : w4.heap.size < w5.heap.size := by rw [← haw5]; simp
  clear haw5
  replace HA0 := hide ((unhide HA0).later nb)
  replace P0 := hide ((unhide P0).keep nb)
  replace HW := hide ((unhide HW).later nb)
  have Zw5 : w4.heap.size ≤ w5.heap.size := nb.size
  replace HB := hide ((unhide HB).trans (nb.mono (by omega)))
  clear nb
  refine (to_Ivf _ x0 w5 (unhide HA0).reads (unhide HN0)).mono ?_
  rintro e w6 ⟨vx0, rfl, O, hb⟩
  replace HA0 := hide ((unhide HA0).later hb)
  replace P0 := hide ((unhide P0).keep hb)
  replace HW := hide ((unhide HW).later hb)
  replace YW := hide ((unhide YW).keep hb)
  have Zw6 : w5.heap.size ≤ w6.heap.size := hb.size
  replace HB := hide ((unhide HB).trans (hb.mono (by omega)))
  clear hb
  obtain ⟨a0x0, d0x0, a1x0, d1x0, rfl, -, -⟩ := open_Ivf O.reads
  have Hx0 := hide O
  clear O
  have nb : Below w6.heap.size w6 (w6.alloc (.cells #[.slice a0x0 x0.centers.length d0x0, .slice a1x0 x0.lists.length d1x0] 31)) := (Below.refl _ _).alloc (Nat.le_refl _) _
  have X0 : Hid (Box w6.heap.size #[.slice a0x0 x0.centers.length d0x0, .slice a1x0 x0.lists.length d1x0] 31 (w6.alloc (.cells #[.slice a0x0 x0.centers.length d0x0, .slice a1x0 x0.lists.length d1x0] 31)) w6.heap.size) := newBox (Nat.le_refl _)
  have l0P0 := (unhide P0).at 0 _ rfl
  have l1P0 := (unhide P0).at 1 _ rfl
  have ltP0 : w.heap.size < w6.heap.size := by omega
  have l0YW := (unhide YW).at 0 _ rfl
  have l1YW := (unhide YW).at 1 _ rfl
  have ltYW : w4.heap.size < w6.heap.size := by omega
  simp only [List.getElem_toArray, List.getElem_cons_zero, List.getElem_cons_succ] at l0P0 l1P0 l0YW l1YW
  go_wp2_with fail
  clear l0P0 l1P0 ltP0 l0YW l1YW ltYW
  generalize haw7 : w6.alloc (.cells #[.slice a0x0 x0.centers.length d0x0, .slice a1x0 x0.lists.length d1x0] 31) = w7 at *
  have Gw7 : w6.heap.size < w7.heap.size := by rw [← haw7]; simp
  clear haw7
  replace HA0 := hide ((unhide HA0).later nb)
  replace P0 := hide ((unhide P0).keep nb)
  replace HW := hide ((unhide HW).later nb)
  replace YW := hide ((unhide YW).keep nb)
  replace Hx0 := hide ((unhide Hx0).later nb)
  have Zw7 : w6.heap.size ≤ w7.heap.size := nb.size
  replace HB := hide ((unhide HB).trans (nb.mono (by omega)))
  clear nb
  refine (unhide HI w7 _ (unhide Hx0).reads).mono ?_
  rintro e w8 ⟨cs, rfl, O, hb⟩
  replace HA0 := hide ((unhide HA0).later hb)
  replace P0 := hide ((unhide P0).keep hb)
  replace HW := hide ((unhide HW).later hb)
  replace YW := hide ((unhide YW).keep hb)
  replace Hx0 := hide ((unhide Hx0).later hb)
  replace X0 := hide ((unhide X0).keep hb)
  have Zw8 : w7.heap.size ≤ w8.heap.size := hb.size
  replace HB := hide ((unhide HB).trans (hb.mono (by omega)))
  clear hb
  obtain ⟨a1G, d1G, rfl, -⟩ := open_TableResult O.reads
  have HG := hide O
  clear O
  have nb : Below w8.heap.size w8 (w8.alloc (.cells #[.int .i64 y.code, .slice a1G y.items.length d1G] 63)) := (Below.refl _ _).alloc (Nat.le_refl _) _
  have YG : Hid (Box w8.heap.size #[.int .i64 y.code, .slice a1G y.items.length d1G] 63 (w8.alloc (.cells #[.int .i64 y.code, .slice a1G y.items.length d1G] 63)) w8.heap.size) := newBox (Nat.le_refl _)
  have l0P0 := (unhide P0).at 0 _ rfl
  have l1P0 := (unhide P0).at 1 _ rfl
  have ltP0 : w.heap.size < w8.heap.size := by omega
  have l0YW := (unhide YW).at 0 _ rfl
  have l1YW := (unhide YW).at 1 _ rfl
  have ltYW : w4.heap.size < w8.heap.size := by omega
  have l0X0 := (unhide X0).at 0 _ rfl
  have l1X0 := (unhide X0).at 1 _ rfl
  have ltX0 : w6.heap.size < w8.heap.size := by omega
  simp only [List.getElem_toArray, List.getElem_cons_zero, List.getElem_cons_succ] at l0P0 l1P0 l0YW l1YW l0X0 l1X0
  go_wp2_with fail
  clear l0P0 l1P0 ltP0 l0YW l1YW ltYW l0X0 l1X0 ltX0
  generalize haw9 : w8.alloc (.cells #[.int .i64 y.code, .slice a1G y.items.length d1G] 63) = w9 at *
  have Gw9 : w8.heap.size < w9.heap.size := by rw [← haw9]; simp
  clear haw9
  replace HA0 := hide ((unhide HA0).later nb)
  replace P0 := hide ((unhide P0).keep nb)
  replace HW := hide ((unhide HW).later nb)
  replace YW := hide ((unhide YW).keep nb)
  replace Hx0 := hide ((unhide Hx0).later nb)
  replace X0 := hide ((unhide X0).keep nb)
  replace HG := hide ((unhide HG).later nb)
  have Zw9 : w8.heap.size ≤ w9.heap.size := nb.size
  replace HB := hide ((unhide HB).trans (nb.mono (by omega)))
  clear nb
  refine (eq_TableResult _ _ y w9 (unhide HG).reads (unhide HW).reads).mono ?_
  rintro e w10 ⟨rfl, hb⟩
  replace HA0 := hide ((unhide HA0).later hb)
  replace P0 := hide ((unhide P0).keep hb)
  replace HW := hide ((unhide HW).later hb)
  replace YW := hide ((unhide YW).keep hb)
  replace Hx0 := hide ((unhide Hx0).later hb)
  replace X0 := hide ((unhide X0).keep hb)
  replace HG := hide ((unhide HG).later hb)
  replace YG := hide ((unhide YG).keep hb)
  have Zw10 : w9.heap.size ≤ w10.heap.size := hb.size
  replace HB := hide ((unhide HB).trans (hb.mono (by omega)))
  clear hb
  have l0P0 := (unhide P0).at 0 _ rfl
  have l1P0 := (unhide P0).at 1 _ rfl
  have ltP0 : w.heap.size < w10.heap.size := by omega
  have l0YW := (unhide YW).at 0 _ rfl
  have l1YW := (unhide YW).at 1 _ rfl
  have ltYW : w4.heap.size < w10.heap.size := by omega
  have l0X0 := (unhide X0).at 0 _ rfl
  have l1X0 := (unhide X0).at 1 _ rfl
  have ltX0 : w6.heap.size < w10.heap.size := by omega
  have l0YG := (unhide YG).at 0 _ rfl
  have l1YG := (unhide YG).at 1 _ rfl
  have ltYG : w8.heap.size < w10.heap.size := by omega
  simp only [List.getElem_toArray, List.getElem_cons_zero, List.getElem_cons_succ] at l0P0 l1P0 l0YW l1YW l0X0 l1X0 l0YG l1YG
  go_wp2_with fail
  clear l0P0 l1P0 ltP0 l0YW l1YW ltYW l0X0 l1X0 ltX0 l0YG l1YG ltYG
  have l0P0 := (unhide P0).at 0 _ rfl
  have l1P0 := (unhide P0).at 1 _ rfl
  have ltP0 : w.heap.size < w10.heap.size := by omega
  have l0X0 := (unhide X0).at 0 _ rfl
  have l1X0 := (unhide X0).at 1 _ rfl
  have ltX0 : w6.heap.size < w10.heap.size := by omega
  simp only [List.getElem_toArray, List.getElem_cons_zero, List.getElem_cons_succ] at l0P0 l1P0 l0X0 l1X0
  refine wp_region_noPanic ?_
  refine wp_region_held_drew (S := fun w' => Below w10.heap.size w10 w') (by kernel_rfl) (Below.refl _ _).drew (fun hHeld => ?_)
  generalize w10.drew = wD at hHeld ⊢
  refine wpAnyH_take (i := 0) (oi := { dst := some 27, op := Go.Op.load 31 (Go.Operand.tmp 5), type := 31, pos := "exact.go:3451", after := #[], guard := none }) (v := ?vs00) rfl (by kernel_rfl) (by kernel_rfl) (by kernel_rfl) (fun _ _ _ h => h) (Or.inl ⟨by rfl, ?hs00⟩) hHeld ?rs00
  case hs00 =>
    intro wS hSw
    have y0P0 := (hSw.cell (p := ⟨w.heap.size, 0, none⟩) ltP0).trans l0P0
    have y1P0 := (hSw.cell (p := ⟨w.heap.size, 1, none⟩) ltP0).trans l1P0
    have y0X0 := (hSw.cell (p := ⟨w6.heap.size, 0, none⟩) ltX0).trans l0X0
    have y1X0 := (hSw.cell (p := ⟨w6.heap.size, 1, none⟩) ltX0).trans l1X0
    clear hSw
    (try dsimp only at hSw)
    go_simp
    try with_reducible rfl
  case rs00 =>
  simp only [Act.put, List.setIfInBounds_toArray, List.set_cons_zero, List.set_cons_succ]
  refine wpAnyH_take (i := 1) (oi := { dst := some 28, op := Go.Op.load 25 (Go.Operand.tmp 1), type := 25, pos := "exact.go:3451", after := #[], guard := none }) (v := ?vs01) rfl (by kernel_rfl) (by kernel_rfl) (by kernel_rfl) (fun _ _ _ h => h) (Or.inl ⟨by rfl, ?hs01⟩) hHeld ?rs01
  case hs01 =>
    intro wS hSw
    have y0P0 := (hSw.cell (p := ⟨w.heap.size, 0, none⟩) ltP0).trans l0P0
    have y1P0 := (hSw.cell (p := ⟨w.heap.size, 1, none⟩) ltP0).trans l1P0
    have y0X0 := (hSw.cell (p := ⟨w6.heap.size, 0, none⟩) ltX0).trans l0X0
    have y1X0 := (hSw.cell (p := ⟨w6.heap.size, 1, none⟩) ltX0).trans l1X0
    clear hSw
    (try dsimp only at hSw)
    go_simp
    try with_reducible rfl
  case rs01 =>
  simp only [Act.put, List.setIfInBounds_toArray, List.set_cons_zero, List.set_cons_succ]
  refine wpAnyH_ready (rs := [2]) (by kernel_rfl) (by simp) ?_
  refine AllReadyH.cons (o := { dst := some 29, op := Go.Op.call { callee := Go.Callee.value (Go.Operand.func 11), args := #[Go.Operand.tmp 28], argTypes := #[25] }, type := 31, pos := "exact.go:3451", after := #[{ on := 1, ground := Go.Ground.data }], guard := none }) rfl (fun K hK => ?_) AllReadyH.nil
  go_simp
  go_at_call 11
  refine (to_Ivf _ x0 _ ((unhide HA0).reads.later hHeld) (unhide HN0)).mono ?_
  rintro e wT ⟨vT, rfl, OT, hbw⟩
  have RT := OT.reads
  obtain ⟨a0T, d0T, a1T, d1T, rfl, -, -⟩ := open_Ivf RT
  try go_wp2_with fail
  refine hK.out _ _ (hHeld.trans (hbw.mono hHeld.size)) (fun hHeld => ?_)
  clear hK K
  try simp only [Act.put, List.setIfInBounds_toArray, List.set_cons_zero, List.set_cons_succ]
  refine wpAnyH_ready (rs := [3]) (by kernel_rfl) (by simp) ?_
  refine AllReadyH.cons (o := { dst := some 30, op := Go.Op.call { callee := Go.Callee.value (Go.Operand.func 13), args := #[Go.Operand.tmp 27, Go.Operand.tmp 29], argTypes := #[31, 31] }, type := 4, pos := "exact.go:3451", after := #[{ on := 0, ground := Go.Ground.data }, { on := 2, ground := Go.Ground.data }, { on := 2, ground := Go.Ground.chain }], guard := none }) rfl (fun K hK => ?_) AllReadyH.nil
  go_simp
  go_at_call 13
  refine (eq_Ivf _ _ x0 _ ((unhide Hx0).reads.later hHeld) RT).mono ?_
  rintro e wU ⟨rfl, hbw⟩
  try go_wp2_with fail
  refine hK.out _ _ (hHeld.trans (hbw.mono hHeld.size)) (fun hHeld => ?_)
  clear hK K
  try simp only [Act.put, List.setIfInBounds_toArray, List.set_cons_zero, List.set_cons_succ]
  refine wpAnyH_take (i := 4) (oi := { dst := some 31, op := Go.Op.unOp Go.UnOp.not 4 (Go.Operand.tmp 30), type := 4, pos := "exact.go:3451", after := #[{ on := 3, ground := Go.Ground.data }], guard := none }) (v := ?vs04) rfl (by kernel_rfl) (by kernel_rfl) (by kernel_rfl) (fun _ _ _ h => h) (Or.inl ⟨by rfl, ?hs04⟩) hHeld ?rs04
  case hs04 =>
    intro wS hSw
    (try dsimp only at hSw)
    go_simp
    try with_reducible rfl
  case rs04 =>
  simp only [Act.put, List.setIfInBounds_toArray, List.set_cons_zero, List.set_cons_succ]
  refine wpAnyH_done (by kernel_rfl) ?_ _
  refine NoPanic.normal ?_
  clear l0P0 l1P0 ltP0 l0X0 l1X0 ltX0 OT RT
  have hb : Below w10.heap.size w10 wU := hHeld
  clear hHeld hbw
  replace HA0 := hide ((unhide HA0).later hb)
  replace P0 := hide ((unhide P0).keep hb)
  replace HW := hide ((unhide HW).later hb)
  replace YW := hide ((unhide YW).keep hb)
  replace Hx0 := hide ((unhide Hx0).later hb)
  replace X0 := hide ((unhide X0).keep hb)
  replace HG := hide ((unhide HG).later hb)
  replace YG := hide ((unhide YG).keep hb)
  have ZwU : w10.heap.size ≤ wU.heap.size := hb.size
  replace HB := hide ((unhide HB).trans (hb.mono (by omega)))
  clear hb
  have l0P0 := (unhide P0).at 0 _ rfl
  have l1P0 := (unhide P0).at 1 _ rfl
  have ltP0 : w.heap.size < wU.heap.size := by omega
  have l0YW := (unhide YW).at 0 _ rfl
  have l1YW := (unhide YW).at 1 _ rfl
  have ltYW : w4.heap.size < wU.heap.size := by omega
  have l0X0 := (unhide X0).at 0 _ rfl
  have l1X0 := (unhide X0).at 1 _ rfl
  have ltX0 : w6.heap.size < wU.heap.size := by omega
  have l0YG := (unhide YG).at 0 _ rfl
  have l1YG := (unhide YG).at 1 _ rfl
  have ltYG : w8.heap.size < wU.heap.size := by omega
  simp only [List.getElem_toArray, List.getElem_cons_zero, List.getElem_cons_succ] at l0P0 l1P0 l0YW l1YW l0X0 l1X0 l0YG l1YG
  go_wp2_with fail
  clear l0P0 l1P0 ltP0 l0YW l1YW ltYW l0X0 l1X0 ltX0 l0YG l1YG ltYG
  obtain ⟨bl, O, hbl⟩ := unhide Hx0
  clear Hx0
  have HCx0 := few_bound (A := Lay.tIvf) (few_via (few_pair (few_sl (few_via (few_sl few_int))) (few_sl (few_via (few_sl (few_via (few_pair few_int (few_sl few_int)))))))) (unhide HN0) (by omega)
  refine (mark_Ivf _ x0 bl (1) wU O (by omega) (by omega)).mono ?_
  rintro e w12 ⟨rfl, -, E⟩
  replace E := E.mono (S' := within w5.heap.size w6.heap.size) fun b _ hb => hbl b hb
  clear hbl O
  have zlo : w.heap.size ≤ w5.heap.size ∧ w6.heap.size ≤ wU.heap.size := by omega
  replace HA0 := hide ((unhide HA0).ext E (within_out (by omega)))
  replace P0 := hide ((unhide P0).ext E (fun q => by simp only [within] at q; omega))
  replace HW := hide ((unhide HW).ext E (within_out (by omega)))
  replace YW := hide ((unhide YW).ext E (fun q => by simp only [within] at q; omega))
  replace X0 := hide ((unhide X0).ext E (fun q => by simp only [within] at q; omega))
  replace HG := hide ((unhide HG).ext E (within_out (by omega)))
  replace YG := hide ((unhide YG).ext E (fun q => by simp only [within] at q; omega))
  have Zw12 : wU.heap.size ≤ w12.heap.size := E.size
  replace HB := hide ((unhide HB).trans (E.below (by omega) (fun k h q => by simp only [within] at q; omega)))
  clear E
  clear zlo
  obtain ⟨mk, hmk⟩ : ∃ mk : Int, mk = 1 + (Lay.tIvf.vcnt x0 : Int) := ⟨_, rfl⟩
  rw [← hmk]
  have hm3 : decide (mk < 0) = false := decide_eq_false (by omega)
  clear hmk HCx0
  have l0P0 := (unhide P0).at 0 _ rfl
  have l1P0 := (unhide P0).at 1 _ rfl
  have ltP0 : w.heap.size < w12.heap.size := by omega
  have l0YW := (unhide YW).at 0 _ rfl
  have l1YW := (unhide YW).at 1 _ rfl
  have ltYW : w4.heap.size < w12.heap.size := by omega
  have l0X0 := (unhide X0).at 0 _ rfl
  have l1X0 := (unhide X0).at 1 _ rfl
  have ltX0 : w6.heap.size < w12.heap.size := by omega
  have l0YG := (unhide YG).at 0 _ rfl
  have l1YG := (unhide YG).at 1 _ rfl
  have ltYG : w8.heap.size < w12.heap.size := by omega
  simp only [List.getElem_toArray, List.getElem_cons_zero, List.getElem_cons_succ] at l0P0 l1P0 l0YW l1YW l0X0 l1X0 l0YG l1YG
  go_wp2_with fail
  clear l0P0 l1P0 ltP0 l0YW l1YW ltYW l0X0 l1X0 ltX0 l0YG l1YG ltYG
  refine (eq_TableResult _ _ y w12 (unhide HG).reads (unhide HW).reads).mono ?_
  rintro e w13 ⟨rfl, hb⟩
  replace HA0 := hide ((unhide HA0).later hb)
  replace P0 := hide ((unhide P0).keep hb)
  replace HW := hide ((unhide HW).later hb)
  replace YW := hide ((unhide YW).keep hb)
  replace X0 := hide ((unhide X0).keep hb)
  replace HG := hide ((unhide HG).later hb)
  replace YG := hide ((unhide YG).keep hb)
  have Zw13 : w12.heap.size ≤ w13.heap.size := hb.size
  replace HB := hide ((unhide HB).trans (hb.mono (by omega)))
  clear hb
  clear hm3
  have l0P0 := (unhide P0).at 0 _ rfl
  have l1P0 := (unhide P0).at 1 _ rfl
  have ltP0 : w.heap.size < w13.heap.size := by omega
  have l0YW := (unhide YW).at 0 _ rfl
  have l1YW := (unhide YW).at 1 _ rfl
  have ltYW : w4.heap.size < w13.heap.size := by omega
  have l0X0 := (unhide X0).at 0 _ rfl
  have l1X0 := (unhide X0).at 1 _ rfl
  have ltX0 : w6.heap.size < w13.heap.size := by omega
  have l0YG := (unhide YG).at 0 _ rfl
  have l1YG := (unhide YG).at 1 _ rfl
  have ltYG : w8.heap.size < w13.heap.size := by omega
  simp only [List.getElem_toArray, List.getElem_cons_zero, List.getElem_cons_succ] at l0P0 l1P0 l0YW l1YW l0X0 l1X0 l0YG l1YG
  go_wp2_with fail
  clear l0P0 l1P0 ltP0 l0YW l1YW ltYW l0X0 l1X0 ltX0 l0YG l1YG ltYG
  obtain ⟨bl, O, hbl⟩ := unhide HG
  clear HG
  have hcy := unhide HC
  refine (mark_TableResult _ y bl 1 w13 O (by omega) (by omega)).mono ?_
  rintro e w14 ⟨rfl, O2, E⟩
  replace E := E.mono (S' := within w7.heap.size w8.heap.size) fun b _ hb => hbl b hb
  have HG : Hid (Lay.tTableResult.OwnIn w14 _ (Lay.tTableResult.mkv 1 y) w7.heap.size w8.heap.size) := ⟨bl, O2, hbl⟩
  clear hbl O O2
  have zlo : w.heap.size ≤ w7.heap.size ∧ w8.heap.size ≤ w13.heap.size := by omega
  replace HA0 := hide ((unhide HA0).ext E (within_out (by omega)))
  replace P0 := hide ((unhide P0).ext E (fun q => by simp only [within] at q; omega))
  replace HW := hide ((unhide HW).ext E (within_out (by omega)))
  replace YW := hide ((unhide YW).ext E (fun q => by simp only [within] at q; omega))
  replace X0 := hide ((unhide X0).ext E (fun q => by simp only [within] at q; omega))
  replace YG := hide ((unhide YG).ext E (fun q => by simp only [within] at q; omega))
  have Zw14 : w13.heap.size ≤ w14.heap.size := E.size
  replace HB := hide ((unhide HB).trans (E.below (by omega) (fun k h q => by simp only [within] at q; omega)))
  clear E
  clear zlo
  have hq0 : decide (1 + (Lay.tTableResult.vcnt y : Int) < 0) = false := decide_eq_false (by omega)
  have hq1 : ((1 + (Lay.tTableResult.vcnt y : Int)) != (1 + (Lay.tTableResult.vcnt y : Int))) = false := by simp
  clear hcy
  have l0P0 := (unhide P0).at 0 _ rfl
  have l1P0 := (unhide P0).at 1 _ rfl
  have ltP0 : w.heap.size < w14.heap.size := by omega
  have l0YW := (unhide YW).at 0 _ rfl
  have l1YW := (unhide YW).at 1 _ rfl
  have ltYW : w4.heap.size < w14.heap.size := by omega
  have l0X0 := (unhide X0).at 0 _ rfl
  have l1X0 := (unhide X0).at 1 _ rfl
  have ltX0 : w6.heap.size < w14.heap.size := by omega
  have l0YG := (unhide YG).at 0 _ rfl
  have l1YG := (unhide YG).at 1 _ rfl
  have ltYG : w8.heap.size < w14.heap.size := by omega
  simp only [List.getElem_toArray, List.getElem_cons_zero, List.getElem_cons_succ] at l0P0 l1P0 l0YW l1YW l0X0 l1X0 l0YG l1YG
  go_wp2_with fail
  clear l0P0 l1P0 ltP0 l0YW l1YW ltYW l0X0 l1X0 ltX0 l0YG l1YG ltYG
  refine (held_TableResult _ y 1 w14 (unhide HG).reads (by omega) (by have := unhide HC; omega)).mono ?_
  rintro e w15 ⟨rfl, hb⟩
  replace HA0 := hide ((unhide HA0).later hb)
  replace P0 := hide ((unhide P0).keep hb)
  replace HW := hide ((unhide HW).later hb)
  replace YW := hide ((unhide YW).keep hb)
  replace X0 := hide ((unhide X0).keep hb)
  replace YG := hide ((unhide YG).keep hb)
  replace HG := hide ((unhide HG).later hb)
  have Zw15 : w14.heap.size ≤ w15.heap.size := hb.size
  replace HB := hide ((unhide HB).trans (hb.mono (by omega)))
  clear hb
  have l0P0 := (unhide P0).at 0 _ rfl
  have l1P0 := (unhide P0).at 1 _ rfl
  have ltP0 : w.heap.size < w15.heap.size := by omega
  have l0YW := (unhide YW).at 0 _ rfl
  have l1YW := (unhide YW).at 1 _ rfl
  have ltYW : w4.heap.size < w15.heap.size := by omega
  have l0X0 := (unhide X0).at 0 _ rfl
  have l1X0 := (unhide X0).at 1 _ rfl
  have ltX0 : w6.heap.size < w15.heap.size := by omega
  have l0YG := (unhide YG).at 0 _ rfl
  have l1YG := (unhide YG).at 1 _ rfl
  have ltYG : w8.heap.size < w15.heap.size := by omega
  simp only [List.getElem_toArray, List.getElem_cons_zero, List.getElem_cons_succ] at l0P0 l1P0 l0YW l1YW l0X0 l1X0 l0YG l1YG
  go_wp2_with fail
  clear l0P0 l1P0 ltP0 l0YW l1YW ltYW l0X0 l1X0 ltX0 l0YG l1YG ltYG
  refine (to_Ivf _ x0 w15 (unhide HA0).reads (unhide HN0)).mono ?_
  rintro e w16 ⟨vf0, rfl, O, hb⟩
  replace HA0 := hide ((unhide HA0).later hb)
  replace P0 := hide ((unhide P0).keep hb)
  replace HW := hide ((unhide HW).later hb)
  replace YW := hide ((unhide YW).keep hb)
  replace X0 := hide ((unhide X0).keep hb)
  replace YG := hide ((unhide YG).keep hb)
  replace HG := hide ((unhide HG).later hb)
  have Zw16 : w15.heap.size ≤ w16.heap.size := hb.size
  replace HB := hide ((unhide HB).trans (hb.mono (by omega)))
  clear hb
  obtain ⟨a0f0, d0f0, a1f0, d1f0, rfl, -, -⟩ := open_Ivf O.reads
  have Hf0 := hide O
  clear O
  have l0P0 := (unhide P0).at 0 _ rfl
  have l1P0 := (unhide P0).at 1 _ rfl
  have ltP0 : w.heap.size < w16.heap.size := by omega
  have l0YW := (unhide YW).at 0 _ rfl
  have l1YW := (unhide YW).at 1 _ rfl
  have ltYW : w4.heap.size < w16.heap.size := by omega
  have l0X0 := (unhide X0).at 0 _ rfl
  have l1X0 := (unhide X0).at 1 _ rfl
  have ltX0 : w6.heap.size < w16.heap.size := by omega
  have l0YG := (unhide YG).at 0 _ rfl
  have l1YG := (unhide YG).at 1 _ rfl
  have ltYG : w8.heap.size < w16.heap.size := by omega
  simp only [List.getElem_toArray, List.getElem_cons_zero, List.getElem_cons_succ] at l0P0 l1P0 l0YW l1YW l0X0 l1X0 l0YG l1YG
  go_wp2_with fail
  clear l0P0 l1P0 ltP0 l0YW l1YW ltYW l0X0 l1X0 ltX0 l0YG l1YG ltYG
  refine (unhide HI w16 _ (unhide Hf0).reads).mono ?_
  rintro e w17 ⟨cs, rfl, O, hb⟩
  replace HA0 := hide ((unhide HA0).later hb)
  replace P0 := hide ((unhide P0).keep hb)
  replace HW := hide ((unhide HW).later hb)
  replace YW := hide ((unhide YW).keep hb)
  replace X0 := hide ((unhide X0).keep hb)
  replace YG := hide ((unhide YG).keep hb)
  replace HG := hide ((unhide HG).later hb)
  replace Hf0 := hide ((unhide Hf0).later hb)
  have Zw17 : w16.heap.size ≤ w17.heap.size := hb.size
  replace HB := hide ((unhide HB).trans (hb.mono (by omega)))
  clear hb
  obtain ⟨a1K, d1K, rfl, -⟩ := open_TableResult O.reads
  have HK := hide O
  clear O
  have nb : Below w17.heap.size w17 (w17.alloc (.cells #[.int .i64 y.code, .slice a1K y.items.length d1K] 63)) := (Below.refl _ _).alloc (Nat.le_refl _) _
  have YK : Hid (Box w17.heap.size #[.int .i64 y.code, .slice a1K y.items.length d1K] 63 (w17.alloc (.cells #[.int .i64 y.code, .slice a1K y.items.length d1K] 63)) w17.heap.size) := newBox (Nat.le_refl _)
  clear Hf0
  have l0P0 := (unhide P0).at 0 _ rfl
  have l1P0 := (unhide P0).at 1 _ rfl
  have ltP0 : w.heap.size < w17.heap.size := by omega
  have l0YW := (unhide YW).at 0 _ rfl
  have l1YW := (unhide YW).at 1 _ rfl
  have ltYW : w4.heap.size < w17.heap.size := by omega
  have l0X0 := (unhide X0).at 0 _ rfl
  have l1X0 := (unhide X0).at 1 _ rfl
  have ltX0 : w6.heap.size < w17.heap.size := by omega
  have l0YG := (unhide YG).at 0 _ rfl
  have l1YG := (unhide YG).at 1 _ rfl
  have ltYG : w8.heap.size < w17.heap.size := by omega
  simp only [List.getElem_toArray, List.getElem_cons_zero, List.getElem_cons_succ] at l0P0 l1P0 l0YW l1YW l0X0 l1X0 l0YG l1YG
  go_wp2_with fail
  clear l0P0 l1P0 ltP0 l0YW l1YW ltYW l0X0 l1X0 ltX0 l0YG l1YG ltYG
  generalize haw18 : w17.alloc (.cells #[.int .i64 y.code, .slice a1K y.items.length d1K] 63) = w18 at *
  have Gw18 : w17.heap.size < w18.heap.size := by rw [← haw18]; simp
  clear haw18
  replace HA0 := hide ((unhide HA0).later nb)
  replace P0 := hide ((unhide P0).keep nb)
  replace HW := hide ((unhide HW).later nb)
  replace YW := hide ((unhide YW).keep nb)
  replace X0 := hide ((unhide X0).keep nb)
  replace YG := hide ((unhide YG).keep nb)
  replace HG := hide ((unhide HG).later nb)
  replace HK := hide ((unhide HK).later nb)
  have Zw18 : w17.heap.size ≤ w18.heap.size := nb.size
  replace HB := hide ((unhide HB).trans (nb.mono (by omega)))
  clear nb
  refine (eq_TableResult _ _ y w18 (unhide HK).reads (unhide HW).reads).mono ?_
  rintro e w19 ⟨rfl, hb⟩
  replace HA0 := hide ((unhide HA0).later hb)
  replace P0 := hide ((unhide P0).keep hb)
  replace HW := hide ((unhide HW).later hb)
  replace YW := hide ((unhide YW).keep hb)
  replace X0 := hide ((unhide X0).keep hb)
  replace YG := hide ((unhide YG).keep hb)
  replace HG := hide ((unhide HG).later hb)
  replace HK := hide ((unhide HK).later hb)
  replace YK := hide ((unhide YK).keep hb)
  have Zw19 : w18.heap.size ≤ w19.heap.size := hb.size
  replace HB := hide ((unhide HB).trans (hb.mono (by omega)))
  clear hb
  clear HK
  clear YK
  have l0P0 := (unhide P0).at 0 _ rfl
  have l1P0 := (unhide P0).at 1 _ rfl
  have ltP0 : w.heap.size < w19.heap.size := by omega
  have l0YW := (unhide YW).at 0 _ rfl
  have l1YW := (unhide YW).at 1 _ rfl
  have ltYW : w4.heap.size < w19.heap.size := by omega
  have l0X0 := (unhide X0).at 0 _ rfl
  have l1X0 := (unhide X0).at 1 _ rfl
  have ltX0 : w6.heap.size < w19.heap.size := by omega
  have l0YG := (unhide YG).at 0 _ rfl
  have l1YG := (unhide YG).at 1 _ rfl
  have ltYG : w8.heap.size < w19.heap.size := by omega
  simp only [List.getElem_toArray, List.getElem_cons_zero, List.getElem_cons_succ] at l0P0 l1P0 l0YW l1YW l0X0 l1X0 l0YG l1YG
  go_wp2_with fail
  clear l0P0 l1P0 ltP0 l0YW l1YW ltYW l0X0 l1X0 ltX0 l0YG l1YG ltYG
  refine (held_TableResult _ y 1 w19 (unhide HG).reads (by omega) (by have := unhide HC; omega)).mono ?_
  rintro e w20 ⟨rfl, hb⟩
  replace HA0 := hide ((unhide HA0).later hb)
  replace P0 := hide ((unhide P0).keep hb)
  replace HW := hide ((unhide HW).later hb)
  replace YW := hide ((unhide YW).keep hb)
  replace X0 := hide ((unhide X0).keep hb)
  replace YG := hide ((unhide YG).keep hb)
  replace HG := hide ((unhide HG).later hb)
  have Zw20 : w19.heap.size ≤ w20.heap.size := hb.size
  replace HB := hide ((unhide HB).trans (hb.mono (by omega)))
  clear hb
  have l0P0 := (unhide P0).at 0 _ rfl
  have l1P0 := (unhide P0).at 1 _ rfl
  have ltP0 : w.heap.size < w20.heap.size := by omega
  have l0YW := (unhide YW).at 0 _ rfl
  have l1YW := (unhide YW).at 1 _ rfl
  have ltYW : w4.heap.size < w20.heap.size := by omega
  have l0X0 := (unhide X0).at 0 _ rfl
  have l1X0 := (unhide X0).at 1 _ rfl
  have ltX0 : w6.heap.size < w20.heap.size := by omega
  have l0YG := (unhide YG).at 0 _ rfl
  have l1YG := (unhide YG).at 1 _ rfl
  have ltYG : w8.heap.size < w20.heap.size := by omega
  simp only [List.getElem_toArray, List.getElem_cons_zero, List.getElem_cons_succ] at l0P0 l1P0 l0YW l1YW l0X0 l1X0 l0YG l1YG
  go_wp2_with fail
  clear l0P0 l1P0 ltP0 l0YW l1YW ltYW l0X0 l1X0 ltX0 l0YG l1YG ltYG
  go_ret
  exact ⟨rfl, unhide HB⟩


set_option maxRecDepth 10000 in
set_option maxHeartbeats 1000000 in
theorem lawover_ItemsOf (u0 : List Value) (x0 : DIvf) (w : World) (A0 : Lay.tIvf.Reads w u0 x0) (NS : 1048576 < Lay.tIvf.sz x0) :
    Calls Try.prog 6 #[.agg u0.toArray] w fun e w' => e = .returned (.bool true) ∧ Below w.heap.size w w' := by
  obtain ⟨a0p0, d0p0, a1p0, d1p0, rfl, -, -⟩ := open_Ivf A0
  have HA0 := hide A0.liesIn
  clear A0
  have HB := hide (Below.refl w.heap.size w)
  go_enter Try.func6, Try.ntmps6
  go_wp2_with fail
  have nb : Below w.heap.size w (w.alloc (.cells #[.slice a0p0 x0.centers.length d0p0, .slice a1p0 x0.lists.length d1p0] 25)) := (Below.refl w.heap.size w).alloc (Nat.le_refl _) _
  have P0 : Hid (Box w.heap.size #[.slice a0p0 x0.centers.length d0p0, .slice a1p0 x0.lists.length d1p0] 25 (w.alloc (.cells #[.slice a0p0 x0.centers.length d0p0, .slice a1p0 x0.lists.length d1p0] 25)) (w.heap.size)) := newBoxAt (by omega) (by simp)
  generalize haw1 : (w.alloc (.cells #[.slice a0p0 x0.centers.length d0p0, .slice a1p0 x0.lists.length d1p0] 25)) = w1 at *
  have Gw1 : w.heap.size + 1 ≤ w1.heap.size := by rw [← haw1]; simp
  clear haw1
  replace HA0 := hide ((unhide HA0).later nb)
  have Zw1 : w.heap.size ≤ w1.heap.size := nb.size
  replace HB := hide ((unhide HB).trans (nb.mono (by omega)))
  clear nb
  refine (sz_Ivf _ x0 (1048576) w1 (unhide HA0).reads (by omega)).mono ?_
  rintro e w2 ⟨rfl, hb⟩
  replace HA0 := hide ((unhide HA0).later hb)
  replace P0 := hide ((unhide P0).keep hb)
  have Zw2 : w1.heap.size ≤ w2.heap.size := hb.size
  replace HB := hide ((unhide HB).trans (hb.mono (by omega)))
  clear hb
  rw [szR_many (by omega)]
  go_wp2_with fail
  go_ret
  exact ⟨rfl, unhide HB⟩

end Go.Proofs.Ytfgadegpdknocaa

namespace Go.Proofs.Ytfgadegpdknocaa
open Go.RowKit

structure DCentersResult where
  code : Int
  centers : List DCenter

def Lay.tCentersResult : Lay DCentersResult := Lay.via (Lay.pair Lay.int (Lay.sl Lay.tCenter)) (fun x => (x.code, x.centers)) (fun p => ⟨p.1, p.2⟩)

theorem lies_CentersResult {w : World} {cs : List Value} {x : DCentersResult} {bl : List Nat} : Lay.tCentersResult.lies w cs x bl ↔ ∃ (a1 : Option Addr) (d1 : Nat) (b1 : List Nat), cs = [.int .i64 x.code, .slice a1 x.centers.length d1] ∧ bl = b1 ∧ (Lit.int .i64 x.code).wf = true ∧ (Lay.sl Lay.tCenter).lies w [.slice a1 x.centers.length d1] x.centers b1 := by
  constructor
  · intro h
    obtain ⟨c0_, r0_, e0_, s0_, rfl, rfl, h0, h1⟩ := h
    obtain ⟨rfl, w0, rfl⟩ := h0
    have k1 := h1
    obtain ⟨a1, d1, rfl, -⟩ := k1
    exact ⟨a1, d1, s0_, by simp, by simp, w0, h1⟩
  · rintro ⟨a1, d1, b1, rfl, hbl, w0, l1⟩
    rw [hbl]
    exact ⟨[.int .i64 x.code], [.slice a1 x.centers.length d1], [], b1, rfl, by simp, ⟨rfl, w0, rfl⟩, l1⟩

theorem open_CentersResult {w : World} {cs : List Value} {x : DCentersResult} (h : Lay.tCentersResult.Reads w cs x) : ∃ (a1 : Option Addr) (d1 : Nat), cs = [.int .i64 x.code, .slice a1 x.centers.length d1] ∧ (Lay.sl Lay.tCenter).Reads w [.slice a1 x.centers.length d1] x.centers := by
  obtain ⟨bl, h⟩ := h
  obtain ⟨a1, d1, b1, rfl, -, w0, l1⟩ := lies_CentersResult.1 h
  exact ⟨a1, d1, rfl, ⟨_, l1⟩⟩

end Go.Proofs.Ytfgadegpdknocaa
