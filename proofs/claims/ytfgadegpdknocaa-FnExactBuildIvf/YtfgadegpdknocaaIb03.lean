/-
  Texts of this proof in one: EqIvfResult, OwnIvfResult, OwnIvf, OwnIvfList, MaIvfListS, MaIvf, MaIvfResult, MkCenterS, MkItemS, MkIvfListS, MkIvf, MkIvfResult, LawXBuildIvf, LayCentersResult, Fault, VecOf, Pair, ScoreB, ModelSum, CenScore, MeanPlain.
  Their conditions stand in their theorems.
-/
import Derived.Test.YtfgadegpdknocaaChecked
import Derived.Test.YtfgadegpdknocaaIb02
import Derived.Test.YtfgadegpdknocaaIb01
import Derived.WalkSmall
import Derived.Outline
import Derived.BigQuiet
import Derived.Deep.QuietTactic
import Derived.WalkKit

namespace Go.Proofs.Ytfgadegpdknocaa
open Go.RowKit

set_option maxRecDepth 10000 in
set_option maxHeartbeats 1000000 in
theorem eq_IvfResult (cs cs2 : List Value) (x : DIvfResult) (w : World) (h : Lay.tIvfResult.Reads w cs x) (h2 : Lay.tIvfResult.Reads w cs2 x) :
    Calls Try.prog 20 #[.agg cs.toArray, .agg cs2.toArray] w fun e w' => e = .returned (.bool true) ∧ Below w.heap.size w w' := by
  obtain ⟨a1, d1, a2, d2, rfl, R1⟩ := open_IvfResult h
  obtain ⟨a1z, d1z, a2z, d2z, rfl, R1z⟩ := open_IvfResult h2
  clear h h2
  have e0 : (x.code != x.code) = false := by simp
  have HB0 : Below w.heap.size w ((w.alloc (.cells #[.int .i64 x.code, .slice a1 x.ivf.centers.length d1, .slice a2 x.ivf.lists.length d2] 39)).alloc (.cells #[.int .i64 x.code, .slice a1z x.ivf.centers.length d1z, .slice a2z x.ivf.lists.length d2z] 39)) := ((Below.refl _ _).alloc (Nat.le_refl _) _).alloc (by simp) _
  have bA : Box w.heap.size #[.int .i64 x.code, .slice a1 x.ivf.centers.length d1, .slice a2 x.ivf.lists.length d2] 39 ((w.alloc (.cells #[.int .i64 x.code, .slice a1 x.ivf.centers.length d1, .slice a2 x.ivf.lists.length d2] 39)).alloc (.cells #[.int .i64 x.code, .slice a1z x.ivf.centers.length d1z, .slice a2z x.ivf.lists.length d2z] 39)) w.heap.size := (newBox (Nat.le_refl _)).grow _
  have bC : Box w.heap.size #[.int .i64 x.code, .slice a1z x.ivf.centers.length d1z, .slice a2z x.ivf.lists.length d2z] 39 ((w.alloc (.cells #[.int .i64 x.code, .slice a1 x.ivf.centers.length d1, .slice a2 x.ivf.lists.length d2] 39)).alloc (.cells #[.int .i64 x.code, .slice a1z x.ivf.centers.length d1z, .slice a2z x.ivf.lists.length d2z] 39)) (w.heap.size + 1) := newBoxAt (by omega) (by simp)
  go_enter Try.func20, Try.ntmps20
  go_wp2_with fail
  generalize (w.alloc (.cells #[.int .i64 x.code, .slice a1 x.ivf.centers.length d1, .slice a2 x.ivf.lists.length d2] 39)).alloc (.cells #[.int .i64 x.code, .slice a1z x.ivf.centers.length d1z, .slice a2z x.ivf.lists.length d2z] 39) = W0 at *
  replace R1 := R1.later HB0
  replace R1z := R1z.later HB0
  refine (eq_Ivf _ _ x.ivf _ R1 R1z).mono ?_
  rintro e w1 ⟨rfl, hb⟩
  replace bA := bA.keep hb
  replace bC := bC.keep hb
  replace HB0 := HB0.trans (hb.mono HB0.size)
  clear hb
  have HB := hide HB0
  have HA := hide bA
  have HC := hide bC
  clear HB0 bA bC
  go_wp2_with fail
  go_ret
  exact ⟨rfl, unhide HB⟩

end Go.Proofs.Ytfgadegpdknocaa

namespace Go.Proofs.Ytfgadegpdknocaa
open Go.RowKit

theorem vcnt_IvfResult (x : DIvfResult) : Lay.tIvfResult.vcnt x = Lay.tIvf.vcnt x.ivf := by
  show 0 + (Lay.tIvf.vcnt x.ivf) = Lay.tIvf.vcnt x.ivf
  omega
theorem mkv_IvfResult (k : Int) (x : DIvfResult) : Lay.tIvfResult.mkv k x = ⟨x.code, Lay.tIvf.mkv (k) x.ivf⟩ := by
  simp [Lay.tIvfResult, Lay.via, Lay.pair, Lay.int]
theorem own_IvfResult {w : World} {cs : List Value} {x : DIvfResult} {bl : List Nat} (h : Lay.tIvfResult.Own w cs x bl) : ∃ (a1 : Option Addr) (d1 : Nat) (a2 : Option Addr) (d2 : Nat) (g1 : List Nat), cs = [.int .i64 x.code, .slice a1 x.ivf.centers.length d1, .slice a2 x.ivf.lists.length d2] ∧ bl = g1 ∧ Lay.tIvf.Own w [.slice a1 x.ivf.centers.length d1, .slice a2 x.ivf.lists.length d2] x.ivf g1 ∧ (Lit.int .i64 x.code).wf = true := by
  obtain ⟨hl, hn, hf⟩ := h
  obtain ⟨a1, d1, b1, a2, d2, b2, rfl, hbl, w0, l1, l2⟩ := lies_IvfResult.1 hl
  rw [hbl] at hn hf
  simp only [List.nodup_append, List.mem_append] at hn hf
  exact ⟨a1, d1, a2, d2, (b1 ++ b2), rfl, by first | exact hbl | (rw [hbl]; simp only [List.append_assoc]), ⟨lies_Ivf.2 ⟨a1, d1, b1, a2, d2, b2, rfl, rfl, l1, l2⟩, by simp_all [List.nodup_append], fun b hb => hf b (by simp_all)⟩, w0⟩
theorem mkOwn_IvfResult {w : World} {x : DIvfResult} {c1 : List Value} {g1 : List Nat} (O1 : Lay.tIvf.Own w c1 x.ivf g1) (v0 : (Lit.int .i64 x.code).wf = true) (hn : (g1).Nodup) : Lay.tIvfResult.Own w ([.int .i64 x.code] ++ c1) x (g1) := by
  refine ⟨⟨[.int .i64 x.code], c1, [], g1, rfl, by simp, ⟨rfl, v0, rfl⟩, O1.1⟩, hn, ?_⟩
  intro b hb o
  exact O1.2.2 b hb o

end Go.Proofs.Ytfgadegpdknocaa

namespace Go.Proofs.Ytfgadegpdknocaa
open Go.RowKit

theorem vcnt_Ivf (x : DIvf) : Lay.tIvf.vcnt x = (Lay.sl Lay.tCenter).vcnt x.centers + (Lay.sl Lay.tIvfList).vcnt x.lists := by
  show (Lay.sl Lay.tCenter).vcnt x.centers + ((Lay.sl Lay.tIvfList).vcnt x.lists) = (Lay.sl Lay.tCenter).vcnt x.centers + (Lay.sl Lay.tIvfList).vcnt x.lists
  omega
theorem mkv_Ivf (k : Int) (x : DIvf) : Lay.tIvf.mkv k x = ⟨(Lay.sl Lay.tCenter).mkv (k) x.centers, (Lay.sl Lay.tIvfList).mkv (k + ((Lay.sl Lay.tCenter).vcnt x.centers : Int)) x.lists⟩ := by
  simp [Lay.tIvf, Lay.via, Lay.pair]
theorem own_Ivf {w : World} {cs : List Value} {x : DIvf} {bl : List Nat} (h : Lay.tIvf.Own w cs x bl) : ∃ (a0 : Option Addr) (d0 : Nat) (a1 : Option Addr) (d1 : Nat) (g0 : List Nat) (g1 : List Nat), cs = [.slice a0 x.centers.length d0, .slice a1 x.lists.length d1] ∧ bl = g0 ++ g1 ∧ (Lay.sl Lay.tCenter).Own w [.slice a0 x.centers.length d0] x.centers g0 ∧ (Lay.sl Lay.tIvfList).Own w [.slice a1 x.lists.length d1] x.lists g1 := by
  obtain ⟨hl, hn, hf⟩ := h
  obtain ⟨a0, d0, b0, a1, d1, b1, rfl, hbl, l0, l1⟩ := lies_Ivf.1 hl
  rw [hbl] at hn hf
  simp only [List.nodup_append, List.mem_append] at hn hf
  exact ⟨a0, d0, a1, d1, b0, b1, rfl, hbl, ⟨l0, by simp_all, fun b hb => hf b (by simp_all)⟩, ⟨l1, by simp_all, fun b hb => hf b (by simp_all)⟩⟩
theorem mkOwn_Ivf {w : World} {x : DIvf} {c0 : List Value} {c1 : List Value} {g0 : List Nat} {g1 : List Nat} (O0 : (Lay.sl Lay.tCenter).Own w c0 x.centers g0) (O1 : (Lay.sl Lay.tIvfList).Own w c1 x.lists g1) (hn : (g0 ++ g1).Nodup) : Lay.tIvf.Own w (c0 ++ c1) x (g0 ++ g1) := by
  refine ⟨⟨c0, c1, g0, g1, rfl, by simp, O0.1, O1.1⟩, hn, ?_⟩
  intro b hb o
  simp only [List.mem_append] at hb
  rcases hb with hb | hb
  · exact O0.2.2 b hb o
  · exact O1.2.2 b hb o

end Go.Proofs.Ytfgadegpdknocaa

namespace Go.Proofs.Ytfgadegpdknocaa
open Go.RowKit

theorem vcnt_IvfList (x : DIvfList) : Lay.tIvfList.vcnt x = (Lay.sl Lay.tItem).vcnt x.items := by
  show (Lay.sl Lay.tItem).vcnt x.items = (Lay.sl Lay.tItem).vcnt x.items
  omega
theorem mkv_IvfList (k : Int) (x : DIvfList) : Lay.tIvfList.mkv k x = ⟨(Lay.sl Lay.tItem).mkv (k) x.items⟩ := by
  simp [Lay.tIvfList, Lay.via]
theorem own_IvfList {w : World} {cs : List Value} {x : DIvfList} {bl : List Nat} (h : Lay.tIvfList.Own w cs x bl) : ∃ (a0 : Option Addr) (d0 : Nat) (g0 : List Nat), cs = [.slice a0 x.items.length d0] ∧ bl = g0 ∧ (Lay.sl Lay.tItem).Own w [.slice a0 x.items.length d0] x.items g0 := by
  obtain ⟨hl, hn, hf⟩ := h
  obtain ⟨a0, d0, b0, rfl, hbl, l0⟩ := lies_IvfList.1 hl
  rw [hbl] at hn hf
  exact ⟨a0, d0, b0, rfl, hbl, ⟨l0, hn, hf⟩⟩
theorem mkOwn_IvfList {w : World} {x : DIvfList} {c0 : List Value} {g0 : List Nat} (O0 : (Lay.sl Lay.tItem).Own w c0 x.items g0) (hn : (g0).Nodup) : Lay.tIvfList.Own w (c0) x (g0) := by
  refine ⟨O0.1, hn, ?_⟩
  intro b hb o
  exact O0.2.2 b hb o

end Go.Proofs.Ytfgadegpdknocaa

namespace Go.Proofs.Ytfgadegpdknocaa
open Go.RowKit

theorem cnt_IvfList (x : DIvfList) : Lay.tIvfList.cnt x = 0 + (Lay.sl Lay.tItem).vcnt x.items := by
  show (Lay.sl Lay.tItem).vcnt x.items = 0 + (Lay.sl Lay.tItem).vcnt x.items
  omega
theorem mkd_IvfList (k : Int) (x : DIvfList) : Lay.tIvfList.mkd k x = ⟨(Lay.sl Lay.tItem).mkv (k) x.items⟩ := rfl
theorem vcnt_IvfListS (xs : List DIvfList) : (Lay.sl Lay.tIvfList).vcnt xs = cntAll Lay.tIvfList.cnt xs := rfl
theorem mkv_IvfListS (k : Int) (xs : List DIvfList) : (Lay.sl Lay.tIvfList).mkv k xs = mkAll Lay.tIvfList.cnt Lay.tIvfList.mkd k xs := rfl

set_option maxRecDepth 10000 in
set_option maxHeartbeats 2000000 in
theorem markIvfList_pos (b off cap : Nat) (xs : List DIvfList) (bl : List Nat) (k : Int) (w : World) (h : (Lay.sl Lay.tIvfList).Own w [.slice (some ⟨b, off, none⟩) xs.length cap] xs bl) (hk : 0 ≤ k) (hk2 : k + (cntAll Lay.tIvfList.cnt xs : Nat) ≤ 1000000000) :
    Calls Try.prog 76 #[.slice (some ⟨b, off, none⟩) xs.length cap, .int .i64 k] w fun e w' => e = .returned (.int .i64 (k + (cntAll Lay.tIvfList.cnt xs : Nat))) ∧ (Lay.sl Lay.tIvfList).Own w' [.slice (some ⟨b, off, none⟩) xs.length cap] (mkAll Lay.tIvfList.cnt Lay.tIvfList.mkd k xs) bl ∧ Ext (fun q => q ∈ bl) w w' := by
  have hbig := h.reads.big
  have H := hide h
  clear h
  go_enter Try.func76, Try.ntmps76
  go_wp2_with fail
  go_loopw [1, 5] (fun kk i wr => ∃ (j : Nat) (kj : Int), j ≤ xs.length ∧ i = .int .i64 j ∧ kj = k + (cntAll Lay.tIvfList.cnt (xs.take j) : Nat) ∧ kk = .int .i64 kj ∧ (Lay.sl Lay.tIvfList).Own wr [.slice (some ⟨b, off, none⟩) xs.length cap] (mkPre Lay.tIvfList.cnt Lay.tIvfList.mkd k xs j) bl ∧ Ext (fun q => q ∈ bl) w wr) (fun _ i _ => xs.length - (intOf i).toNat)
  case atStart => exact ⟨0, k, Nat.zero_le _, rfl, by simp [cntAll], rfl, by rw [mkPre_zero]; exact unhide H, Ext.refl _ _⟩
  case round =>
    obtain ⟨j, kj, hj, rfl, hkj, rfl, hO, hX⟩ := hrel
    clear H
    by_cases hlt : j < xs.length
    · have hj2 : j < (mkPre Lay.tIvfList.cnt Lay.tIvfList.mkd k xs j).length := by rw [mkPre_len _ _ _ _ _ hj]; exact hlt
      obtain ⟨row, blk, R, O, hbk, hin, hfin⟩ := Lay.own_upd hO hj2
      rw [mkPre_get _ _ _ _ _ hlt] at O
      have HT := hide (Lay.cntAll_take (f := Lay.tIvfList.cnt) hlt)
      have hle := Lay.cntAll_take_le (f := Lay.tIvfList.cnt) (xs := xs) (k := j + 1)
      rw [unhide HT] at hle
      have HM : Hid (∀ y, y = Lay.tIvfList.mkd kj xs[j] → (mkPre Lay.tIvfList.cnt Lay.tIvfList.mkd k xs j).set j y = mkPre Lay.tIvfList.cnt Lay.tIvfList.mkd k xs (j + 1)) := fun y e => by rw [e, hkj]; exact mkPre_set _ _ _ _ _ hlt
      have HF := hide hfin
      have HX := hide hX
      have HI := hide hin
      clear hO hfin hX hin hj2
      generalize hx : xs[j] = x at *
      clear hx
      have hcn := cnt_IvfList x
      have HD := hide (mkd_IvfList kj x)
      have hb1 : 0 ≤ kj := by omega
      have hb2 : kj + (Lay.tIvfList.cnt x : Int) ≤ 1000000000 := by omega
      have HK := hide hkj
      clear hkj hle
      have hnd := O.2.1
      obtain ⟨a0, d0, g0, rfl, hbl, O0⟩ := own_IvfList O
      clear O
      subst hbl
      have HN := hide hnd
      clear hnd
      have l1 : b < wr.heap.size := R.lt
      have c0 : wr.cell? ⟨b, off + j, none⟩ = some (.slice a0 x.items.length d0) := (by have q1 : wr.cell? ⟨b, off + j * 1 + 0, none⟩ = some (.slice a0 x.items.length d0) := R.at 0 _ rfl; rw [Nat.mul_one, Nat.add_zero] at q1; exact q1)
      have HR := hide R
      clear R
      go_wp2_with fail
      refine (mark_ItemS _ x.items blk (kj) _ O0 (by omega) (by omega)).mono ?_
      rintro e w2 ⟨rfl, Q0, E2⟩
      have R := (unhide HR).call E2 (fun _ h => h) hbk
      clear E2 O0 HR c0 
      clear l1
      have l1 : b < w2.heap.size := R.lt
      have HR := hide R
      clear R
      have HQ := hide Q0
      clear Q0
      go_wp2_with fail
      go_roundw
      case rel =>
        refine ⟨j + 1, _, by omega, by go_num, ?_, rfl, ?_, ?_⟩
        · rw [unhide HT, hcn]
          have := unhide HK
          omega
        · rw [← unhide HM _ (unhide HD).symm]
          exact unhide HF _ _ _ (unhide HR) (mkOwn_IvfList (x := ⟨(Lay.sl Lay.tItem).mkv (kj) x.items⟩) (unhide HQ)  (unhide HN))
        · exact (unhide HX).trans ((unhide HR).ext.mono fun q _ hq => unhide HI q (by rcases hq with h | h; exact Or.inl h.symm; exact Or.inr h))
      case measure => simp [intOf]; omega
    · obtain rfl : j = xs.length := by omega
      rw [mkPre_all] at hO
      rw [List.take_length] at hkj
      have HK := hide hkj
      clear hkj
      have HO := hide hO
      have HX := hide hX
      clear hO hX
      go_wp2_with fail
      go_ret
      exact ⟨by rw [← unhide HK]; rfl, unhide HO, unhide HX⟩

theorem markIvfList_zero (ao : Option Addr) (cap : Nat) (k : Int) (w : World) :
    Calls Try.prog 76 #[.slice ao 0 cap, .int .i64 k] w fun e w' => e = .returned (.int .i64 k) ∧ w' = w := by
  go_enter Try.func76, Try.ntmps76
  go_wp2_with fail
  refine wp_loop_rounds 1 ?_
  rw [rounds_succ]
  go_wp2_with fail
  go_ret
  exact ⟨rfl, rfl⟩

/-- markIvfListS. -/
theorem mark_IvfListS (v : Value) (xs : List DIvfList) (bl : List Nat) (k : Int) (w : World) (h : (Lay.sl Lay.tIvfList).Own w [v] xs bl) (hk : 0 ≤ k) (hk2 : k + (Lay.sl Lay.tIvfList).vcnt xs ≤ 1000000000) :
    Calls Try.prog 76 #[v, .int .i64 k] w fun e w' => e = .returned (.int .i64 (k + (Lay.sl Lay.tIvfList).vcnt xs)) ∧ (Lay.sl Lay.tIvfList).Own w' [v] ((Lay.sl Lay.tIvfList).mkv k xs) bl ∧ Ext (fun q => q ∈ bl) w w' := by
  obtain ⟨ao, cap, rfl⟩ := open_sl h.reads
  by_cases hp : 0 < xs.length
  · obtain ⟨b, off, rfl, hbl⟩ := Lay.sl_addr h.reads hp
    exact markIvfList_pos b off cap xs bl k w h hk hk2
  · obtain rfl : xs = [] := List.eq_nil_of_length_eq_zero (by omega)
    refine (markIvfList_zero ao cap k w).mono ?_
    rintro e w' ⟨rfl, rfl⟩
    exact ⟨by rw [vcnt_IvfListS]; simp [cntAll], h, Ext.refl _ _⟩

end Go.Proofs.Ytfgadegpdknocaa

namespace Go.Proofs.Ytfgadegpdknocaa
open Go.RowKit

set_option maxRecDepth 10000 in
set_option maxHeartbeats 1000000 in
theorem mark_Ivf (cs : List Value) (x : DIvf) (bl : List Nat) (k : Int) (w : World) (h : Lay.tIvf.Own w cs x bl) (hk : 0 ≤ k) (hk2 : k + Lay.tIvf.vcnt x ≤ 1000000000) :
    Calls Try.prog 32 #[.agg cs.toArray, .int .i64 k] w fun e w' => e = .returned (.int .i64 (k + Lay.tIvf.vcnt x)) ∧ Lay.tIvf.Own w' cs (Lay.tIvf.mkv k x) bl ∧ Ext (fun q => q ∈ bl) w w' := by
  have hlt := h.lt
  have hnd := h.2.1
  rw [vcnt_Ivf] at hk2
  obtain ⟨a0, d0, a1, d1, g0, g1, rfl, hbl, O0, O1⟩ := own_Ivf h
  clear h
  have HB0 : Below w.heap.size w (w.alloc (.cells #[.slice a0 x.centers.length d0, .slice a1 x.lists.length d1] 31)) := (Below.refl _ _).alloc (Nat.le_refl _) _
  have bA : Box w.heap.size #[.slice a0 x.centers.length d0, .slice a1 x.lists.length d1] 31 (w.alloc (.cells #[.slice a0 x.centers.length d0, .slice a1 x.lists.length d1] 31)) w.heap.size := newBox (Nat.le_refl _)
  have HN := hide hnd
  have HV := hide (vcnt_Ivf x)
  have HM := hide (mkv_Ivf k x)
  clear hnd
  go_enter Try.func32, Try.ntmps32
  go_wp2_with fail
  generalize w.alloc (.cells #[.slice a0 x.centers.length d0, .slice a1 x.lists.length d1] 31) = W0 at *
  replace O0 := O0.later HB0
  replace O1 := O1.later HB0
  have hsz := HB0.size
  have EX : Ext (fun q => q ∈ bl) w W0 := ext_of_below HB0 _
  have hs0 := bA.lt
  refine (mark_CenterS _ x.centers g0 (k) _ O0 (by omega) (by omega)).mono ?_
  rintro e w1 ⟨rfl, Q0, E0⟩
  replace O1 := O1.ext E0 (fun b hb hb2 => by subst hbl; exact absurd rfl ((by have := unhide HN; simp_all [List.nodup_append] : ∀ p ∈ g0, ∀ q ∈ g1, p ≠ q) b hb2 b hb))
  replace EX := EX.trans (E0.mono fun b _ hb => by rw [hbl]; simp [hb])
  replace bA := bA.ext E0 (fun hm => by have := hlt w.heap.size (by rw [hbl]; simp [hm]); omega)
  clear E0
  have p1 := bA.at 1 _ rfl
  have HA := hide bA
  have HX := hide EX
  have HL := hide hlt
  have HBL := hide hbl
  clear bA EX hlt hbl
  have P0 := hide Q0
  clear Q0
  have P1 := hide O1
  clear O1
  clear O0
  go_wp2_with fail
  have bA := unhide HA
  have EX := unhide HX
  have hlt := unhide HL
  have hbl := unhide HBL
  clear HA HX HL HBL
  have Q0 := unhide P0
  clear P0
  have O1 := unhide P1
  clear P1
  clear p1
  refine (mark_IvfListS _ x.lists g1 (k + ((Lay.sl Lay.tCenter).vcnt x.centers : Int)) _ O1 (by omega) (by omega)).mono ?_
  rintro e w2 ⟨rfl, Q1, E1⟩
  replace Q0 := Q0.ext E1 (fun b hb hb2 => by subst hbl; exact absurd rfl ((by have := unhide HN; simp_all [List.nodup_append] : ∀ p ∈ g0, ∀ q ∈ g1, p ≠ q) b hb b hb2))
  replace EX := EX.trans (E1.mono fun b _ hb => by rw [hbl]; simp [hb])
  replace bA := bA.ext E1 (fun hm => by have := hlt w.heap.size (by rw [hbl]; simp [hm]); omega)
  clear E1
  have HA := hide bA
  have HX := hide EX
  have HL := hide hlt
  have HBL := hide hbl
  clear bA EX hlt hbl
  have P0 := hide Q0
  clear Q0
  have P1 := hide Q1
  clear Q1
  clear O1
  go_wp2_with fail
  go_ret
  refine ⟨?_, ?_, unhide HX⟩
  · rw [show k + (Lay.tIvf.vcnt x : Int) = k + ((Lay.sl Lay.tCenter).vcnt x.centers : Int) + ((Lay.sl Lay.tIvfList).vcnt x.lists : Int) by rw [unhide HV]; omega]
    rfl
  · have e := unhide HBL
    subst e
    rw [unhide HM]
    exact mkOwn_Ivf (x := ⟨(Lay.sl Lay.tCenter).mkv (k) x.centers, (Lay.sl Lay.tIvfList).mkv (k + ((Lay.sl Lay.tCenter).vcnt x.centers : Int)) x.lists⟩) (unhide P0) (unhide P1) (unhide HN)

end Go.Proofs.Ytfgadegpdknocaa

namespace Go.Proofs.Ytfgadegpdknocaa
open Go.RowKit

set_option maxRecDepth 10000 in
set_option maxHeartbeats 1000000 in
theorem mark_IvfResult (cs : List Value) (x : DIvfResult) (bl : List Nat) (k : Int) (w : World) (h : Lay.tIvfResult.Own w cs x bl) (hk : 0 ≤ k) (hk2 : k + Lay.tIvfResult.vcnt x ≤ 1000000000) :
    Calls Try.prog 25 #[.agg cs.toArray, .int .i64 k] w fun e w' => e = .returned (.int .i64 (k + Lay.tIvfResult.vcnt x)) ∧ Lay.tIvfResult.Own w' cs (Lay.tIvfResult.mkv k x) bl ∧ Ext (fun q => q ∈ bl) w w' := by
  have hlt := h.lt
  have hnd := h.2.1
  rw [vcnt_IvfResult] at hk2
  obtain ⟨a1, d1, a2, d2, g1, rfl, hbl, O1, v0⟩ := own_IvfResult h
  clear h
  have HB0 : Below w.heap.size w (w.alloc (.cells #[.int .i64 x.code, .slice a1 x.ivf.centers.length d1, .slice a2 x.ivf.lists.length d2] 39)) := (Below.refl _ _).alloc (Nat.le_refl _) _
  have bA : Box w.heap.size #[.int .i64 x.code, .slice a1 x.ivf.centers.length d1, .slice a2 x.ivf.lists.length d2] 39 (w.alloc (.cells #[.int .i64 x.code, .slice a1 x.ivf.centers.length d1, .slice a2 x.ivf.lists.length d2] 39)) w.heap.size := newBox (Nat.le_refl _)
  have HN := hide hnd
  have HV := hide (vcnt_IvfResult x)
  have HM := hide (mkv_IvfResult k x)
  clear hnd
  go_enter Try.func25, Try.ntmps25
  go_wp2_with fail
  generalize w.alloc (.cells #[.int .i64 x.code, .slice a1 x.ivf.centers.length d1, .slice a2 x.ivf.lists.length d2] 39) = W0 at *
  replace O1 := O1.later HB0
  have hsz := HB0.size
  have EX : Ext (fun q => q ∈ bl) w W0 := ext_of_below HB0 _
  have hs0 := bA.lt
  refine (mark_Ivf _ x.ivf g1 (k) _ O1 (by omega) (by omega)).mono ?_
  rintro e w1 ⟨rfl, Q1, E1⟩
  replace EX := EX.trans (E1.mono fun b _ hb => by rw [hbl]; simp [hb])
  replace bA := bA.ext E1 (fun hm => by have := hlt w.heap.size (by rw [hbl]; simp [hm]); omega)
  clear E1
  have HA := hide bA
  have HX := hide EX
  have HL := hide hlt
  have HBL := hide hbl
  clear bA EX hlt hbl
  have P1 := hide Q1
  clear Q1
  clear O1
  go_wp2_with fail
  go_ret
  refine ⟨?_, ?_, unhide HX⟩
  · rw [show k + (Lay.tIvfResult.vcnt x : Int) = k + (Lay.tIvf.vcnt x.ivf : Int) by rw [unhide HV]]
    rfl
  · have e := unhide HBL
    subst e
    rw [unhide HM]
    exact mkOwn_IvfResult (x := ⟨x.code, Lay.tIvf.mkv (k) x.ivf⟩) (unhide P1) v0 (unhide HN)

end Go.Proofs.Ytfgadegpdknocaa

namespace Go.Proofs.Ytfgadegpdknocaa
open Go.RowKit

set_option maxRecDepth 10000 in
set_option maxHeartbeats 2000000 in
theorem heldCenter_pos (b off cap : Nat) (xs : List DCenter) (k : Int) (w : World) (h : (Lay.sl Lay.tCenter).Reads w [.slice (some ⟨b, off, none⟩) (mkAll Lay.tCenter.cnt Lay.tCenter.mkd k xs).length cap] (mkAll Lay.tCenter.cnt Lay.tCenter.mkd k xs)) (hbl : b < w.heap.size) (hk : 0 ≤ k) (hk2 : k + (cntAll Lay.tCenter.cnt xs : Nat) ≤ 1000000000) :
    Calls Try.prog 116 #[.slice (some ⟨b, off, none⟩) xs.length cap, .int .i64 k] w fun e w' => e = .returned (.int .i64 (k + (cntAll Lay.tCenter.cnt xs : Nat))) ∧ Below w.heap.size w w' := by
  have hbig := h.big
  rw [mkAll_size] at hbig
  have H := hide h
  clear h
  go_enter Try.func116, Try.ntmps116
  go_wp2_with fail
  go_loopw [1, 5] (fun kk i wr => ∃ (j : Nat) (kj : Int), j ≤ xs.length ∧ i = .int .i64 j ∧ kj = k + (cntAll Lay.tCenter.cnt (xs.take j) : Nat) ∧ kk = .int .i64 kj ∧ Below w.heap.size w wr) (fun _ i _ => xs.length - (intOf i).toNat)
  case atStart => exact ⟨0, k, Nat.zero_le _, rfl, by simp [cntAll], rfl, Below.refl _ _⟩
  case round =>
    obtain ⟨j, kj, hj, rfl, hkj, rfl, hB⟩ := hrel
    by_cases hlt : j < xs.length
    · have hj2 : j < (mkAll Lay.tCenter.cnt Lay.tCenter.mkd k xs).length := by rw [mkAll_size]; exact hlt
      obtain ⟨row, hc, hr⟩ := Lay.row_at (unhide H) hj2
      rw [mkAll_at _ _ _ _ _ hlt hj2, ← hkj, mkd_Center] at hr
      have HT := hide (Lay.cntAll_take (f := Lay.tCenter.cnt) hlt)
      have hle := Lay.cntAll_take_le (f := Lay.tCenter.cnt) (xs := xs) (k := j + 1)
      rw [unhide HT] at hle
      clear hj2
      generalize hx : xs[j] = x at *
      clear hx
      have hcn := cnt_Center x
      have hb1 : 0 ≤ kj := by omega
      have hb2 : kj + (Lay.tCenter.cnt x : Int) ≤ 1000000000 := by omega
      have HK := hide hkj
      clear hkj hle
      replace hr := hr.later hB
      obtain ⟨a0, d0, rfl, R0⟩ := open_Center hr
      clear hr
      generalize hn : (⟨(Lay.sl Lay.int).mkv (kj) x.vec⟩ : DCenter).vec.length = n1 at *
      clear hn
      have c0 : wr.cell? ⟨b, off + j, none⟩ = some (.slice a0 n1 d0) := (hB.cell (p := ⟨b, off + j, none⟩) hbl).trans ((by have q1 : w.cell? ⟨b, off + j * 1 + 0, none⟩ = some (.slice a0 n1 d0) := hc 0 (by decide); rw [Nat.mul_one, Nat.add_zero] at q1; exact q1))
      have HB := hide hB
      clear hB hc
      go_wp2_with fail
      refine (held_Int64S _ x.vec (kj) _ R0 (by omega) (by omega)).mono ?_
      rintro e w2 ⟨rfl, hb⟩
      have l1 : b < wr.heap.size := Nat.lt_of_lt_of_le hbl (unhide HB).size
      replace HB := hide ((unhide HB).trans (hb.mono (unhide HB).size))
      clear hb R0 l1 c0
      have hq : decide (kj + ((Lay.sl Lay.int).vcnt x.vec : Int) < 0) = false := by simp; omega
      go_wp2_with fail
      go_roundw
      case rel => exact ⟨j + 1, _, by omega, by go_num, (by rw [unhide HT, hcn]; have := unhide HK; omega), rfl, unhide HB⟩
      case measure => simp [intOf]; omega
    · obtain rfl : j = xs.length := by omega
      rw [List.take_length] at hkj
      have HK := hide hkj
      have HB := hide hB
      clear hB hkj
      go_wp2_with fail
      go_ret
      exact ⟨by rw [← unhide HK]; rfl, unhide HB⟩

theorem heldCenter_zero (ao : Option Addr) (cap : Nat) (k : Int) (w : World) :
    Calls Try.prog 116 #[.slice ao 0 cap, .int .i64 k] w fun e w' => e = .returned (.int .i64 k) ∧ w' = w := by
  go_enter Try.func116, Try.ntmps116
  go_wp2_with fail
  refine wp_loop_rounds 1 ?_
  rw [rounds_succ]
  go_wp2_with fail
  go_ret
  exact ⟨rfl, rfl⟩

/-- heldCenterS. -/
theorem held_CenterS (v : Value) (xs : List DCenter) (k : Int) (w : World) (h : (Lay.sl Lay.tCenter).Reads w [v] ((Lay.sl Lay.tCenter).mkv k xs)) (hk : 0 ≤ k) (hk2 : k + (Lay.sl Lay.tCenter).vcnt xs ≤ 1000000000) :
    Calls Try.prog 116 #[v, .int .i64 k] w fun e w' => e = .returned (.int .i64 (k + (Lay.sl Lay.tCenter).vcnt xs)) ∧ Below w.heap.size w w' := by
  rw [mkv_CenterS] at h
  obtain ⟨ao, cap, rfl⟩ := open_sl h
  by_cases hp : 0 < xs.length
  · obtain ⟨b, off, rfl, hbl⟩ := Lay.sl_addr h (by rw [mkAll_size]; exact hp)
    have L := heldCenter_pos b off cap xs k w h hbl hk hk2
    rw [mkAll_size]
    exact L
  · obtain rfl : xs = [] := List.eq_nil_of_length_eq_zero (by omega)
    refine (heldCenter_zero ao cap k w).mono ?_
    rintro e w' ⟨rfl, rfl⟩
    exact ⟨by rw [vcnt_CenterS]; simp [cntAll], Below.refl _ _⟩

end Go.Proofs.Ytfgadegpdknocaa

namespace Go.Proofs.Ytfgadegpdknocaa
open Go.RowKit

set_option maxRecDepth 10000 in
set_option maxHeartbeats 2000000 in
theorem heldItem_pos (b off cap : Nat) (xs : List DItem) (k : Int) (w : World) (h : (Lay.sl Lay.tItem).Reads w [.slice (some ⟨b, off, none⟩) (mkAll Lay.tItem.cnt Lay.tItem.mkd k xs).length cap] (mkAll Lay.tItem.cnt Lay.tItem.mkd k xs)) (hbl : b < w.heap.size) (hk : 0 ≤ k) (hk2 : k + (cntAll Lay.tItem.cnt xs : Nat) ≤ 1000000000) :
    Calls Try.prog 80 #[.slice (some ⟨b, off, none⟩) xs.length cap, .int .i64 k] w fun e w' => e = .returned (.int .i64 (k + (cntAll Lay.tItem.cnt xs : Nat))) ∧ Below w.heap.size w w' := by
  have hbig := h.big
  rw [mkAll_size] at hbig
  have H := hide h
  clear h
  go_enter Try.func80, Try.ntmps80
  go_wp2_with fail
  go_loopw [1, 5] (fun kk i wr => ∃ (j : Nat) (kj : Int), j ≤ xs.length ∧ i = .int .i64 j ∧ kj = k + (cntAll Lay.tItem.cnt (xs.take j) : Nat) ∧ kk = .int .i64 kj ∧ Below w.heap.size w wr) (fun _ i _ => xs.length - (intOf i).toNat)
  case atStart => exact ⟨0, k, Nat.zero_le _, rfl, by simp [cntAll], rfl, Below.refl _ _⟩
  case round =>
    obtain ⟨j, kj, hj, rfl, hkj, rfl, hB⟩ := hrel
    by_cases hlt : j < xs.length
    · have hj2 : j < (mkAll Lay.tItem.cnt Lay.tItem.mkd k xs).length := by rw [mkAll_size]; exact hlt
      obtain ⟨row, hc, hr⟩ := Lay.row_at (unhide H) hj2
      rw [mkAll_at _ _ _ _ _ hlt hj2, ← hkj, mkd_Item] at hr
      have HT := hide (Lay.cntAll_take (f := Lay.tItem.cnt) hlt)
      have hle := Lay.cntAll_take_le (f := Lay.tItem.cnt) (xs := xs) (k := j + 1)
      rw [unhide HT] at hle
      clear hj2
      generalize hx : xs[j] = x at *
      clear hx
      have hcn := cnt_Item x
      have hb1 : 0 ≤ kj := by omega
      have hb2 : kj + (Lay.tItem.cnt x : Int) ≤ 1000000000 := by omega
      have HK := hide hkj
      clear hkj hle
      replace hr := hr.later hB
      obtain ⟨a1, d1, rfl, R1⟩ := open_Item hr
      clear hr
      generalize hn : (⟨kj, (Lay.sl Lay.int).mkv (kj + 1) x.vec⟩ : DItem).vec.length = n1 at *
      clear hn
      have c0 : wr.cell? ⟨b, off + j * 2, none⟩ = some (.int .i64 (kj)) := (hB.cell (p := ⟨b, off + j * 2, none⟩) hbl).trans (hc 0 (by decide))
      have e0 : ((kj : Int) != (kj : Int)) = false := by simp
      have c1 : wr.cell? ⟨b, off + j * 2 + 1, none⟩ = some (.slice a1 n1 d1) := (hB.cell (p := ⟨b, off + j * 2 + 1, none⟩) hbl).trans (hc 1 (by decide))
      have HB := hide hB
      clear hB hc
      go_wp2_with fail
      refine (held_Int64S _ x.vec (kj + 1) _ R1 (by omega) (by omega)).mono ?_
      rintro e w2 ⟨rfl, hb⟩
      have l1 : b < wr.heap.size := Nat.lt_of_lt_of_le hbl (unhide HB).size
      replace HB := hide ((unhide HB).trans (hb.mono (unhide HB).size))
      clear hb R1 l1 c0 c1
      have hq : decide (kj + 1 + ((Lay.sl Lay.int).vcnt x.vec : Int) < 0) = false := by simp; omega
      go_wp2_with fail
      go_roundw
      case rel => exact ⟨j + 1, _, by omega, by go_num, (by rw [unhide HT, hcn]; have := unhide HK; omega), rfl, unhide HB⟩
      case measure => simp [intOf]; omega
    · obtain rfl : j = xs.length := by omega
      rw [List.take_length] at hkj
      have HK := hide hkj
      have HB := hide hB
      clear hB hkj
      go_wp2_with fail
      go_ret
      exact ⟨by rw [← unhide HK]; rfl, unhide HB⟩

theorem heldItem_zero (ao : Option Addr) (cap : Nat) (k : Int) (w : World) :
    Calls Try.prog 80 #[.slice ao 0 cap, .int .i64 k] w fun e w' => e = .returned (.int .i64 k) ∧ w' = w := by
  go_enter Try.func80, Try.ntmps80
  go_wp2_with fail
  refine wp_loop_rounds 1 ?_
  rw [rounds_succ]
  go_wp2_with fail
  go_ret
  exact ⟨rfl, rfl⟩

/-- heldItemS. -/
theorem held_ItemS (v : Value) (xs : List DItem) (k : Int) (w : World) (h : (Lay.sl Lay.tItem).Reads w [v] ((Lay.sl Lay.tItem).mkv k xs)) (hk : 0 ≤ k) (hk2 : k + (Lay.sl Lay.tItem).vcnt xs ≤ 1000000000) :
    Calls Try.prog 80 #[v, .int .i64 k] w fun e w' => e = .returned (.int .i64 (k + (Lay.sl Lay.tItem).vcnt xs)) ∧ Below w.heap.size w w' := by
  rw [mkv_ItemS] at h
  obtain ⟨ao, cap, rfl⟩ := open_sl h
  by_cases hp : 0 < xs.length
  · obtain ⟨b, off, rfl, hbl⟩ := Lay.sl_addr h (by rw [mkAll_size]; exact hp)
    have L := heldItem_pos b off cap xs k w h hbl hk hk2
    rw [mkAll_size]
    exact L
  · obtain rfl : xs = [] := List.eq_nil_of_length_eq_zero (by omega)
    refine (heldItem_zero ao cap k w).mono ?_
    rintro e w' ⟨rfl, rfl⟩
    exact ⟨by rw [vcnt_ItemS]; simp [cntAll], Below.refl _ _⟩

end Go.Proofs.Ytfgadegpdknocaa

namespace Go.Proofs.Ytfgadegpdknocaa
open Go.RowKit

set_option maxRecDepth 10000 in
set_option maxHeartbeats 2000000 in
theorem heldIvfList_pos (b off cap : Nat) (xs : List DIvfList) (k : Int) (w : World) (h : (Lay.sl Lay.tIvfList).Reads w [.slice (some ⟨b, off, none⟩) (mkAll Lay.tIvfList.cnt Lay.tIvfList.mkd k xs).length cap] (mkAll Lay.tIvfList.cnt Lay.tIvfList.mkd k xs)) (hbl : b < w.heap.size) (hk : 0 ≤ k) (hk2 : k + (cntAll Lay.tIvfList.cnt xs : Nat) ≤ 1000000000) :
    Calls Try.prog 117 #[.slice (some ⟨b, off, none⟩) xs.length cap, .int .i64 k] w fun e w' => e = .returned (.int .i64 (k + (cntAll Lay.tIvfList.cnt xs : Nat))) ∧ Below w.heap.size w w' := by
  have hbig := h.big
  rw [mkAll_size] at hbig
  have H := hide h
  clear h
  go_enter Try.func117, Try.ntmps117
  go_wp2_with fail
  go_loopw [1, 5] (fun kk i wr => ∃ (j : Nat) (kj : Int), j ≤ xs.length ∧ i = .int .i64 j ∧ kj = k + (cntAll Lay.tIvfList.cnt (xs.take j) : Nat) ∧ kk = .int .i64 kj ∧ Below w.heap.size w wr) (fun _ i _ => xs.length - (intOf i).toNat)
  case atStart => exact ⟨0, k, Nat.zero_le _, rfl, by simp [cntAll], rfl, Below.refl _ _⟩
  case round =>
    obtain ⟨j, kj, hj, rfl, hkj, rfl, hB⟩ := hrel
    by_cases hlt : j < xs.length
    · have hj2 : j < (mkAll Lay.tIvfList.cnt Lay.tIvfList.mkd k xs).length := by rw [mkAll_size]; exact hlt
      obtain ⟨row, hc, hr⟩ := Lay.row_at (unhide H) hj2
      rw [mkAll_at _ _ _ _ _ hlt hj2, ← hkj, mkd_IvfList] at hr
      have HT := hide (Lay.cntAll_take (f := Lay.tIvfList.cnt) hlt)
      have hle := Lay.cntAll_take_le (f := Lay.tIvfList.cnt) (xs := xs) (k := j + 1)
      rw [unhide HT] at hle
      clear hj2
      generalize hx : xs[j] = x at *
      clear hx
      have hcn := cnt_IvfList x
      have hb1 : 0 ≤ kj := by omega
      have hb2 : kj + (Lay.tIvfList.cnt x : Int) ≤ 1000000000 := by omega
      have HK := hide hkj
      clear hkj hle
      replace hr := hr.later hB
      obtain ⟨a0, d0, rfl, R0⟩ := open_IvfList hr
      clear hr
      generalize hn : (⟨(Lay.sl Lay.tItem).mkv (kj) x.items⟩ : DIvfList).items.length = n1 at *
      clear hn
      have c0 : wr.cell? ⟨b, off + j, none⟩ = some (.slice a0 n1 d0) := (hB.cell (p := ⟨b, off + j, none⟩) hbl).trans ((by have q1 : w.cell? ⟨b, off + j * 1 + 0, none⟩ = some (.slice a0 n1 d0) := hc 0 (by decide); rw [Nat.mul_one, Nat.add_zero] at q1; exact q1))
      have HB := hide hB
      clear hB hc
      go_wp2_with fail
      refine (held_ItemS _ x.items (kj) _ R0 (by omega) (by omega)).mono ?_
      rintro e w2 ⟨rfl, hb⟩
      have l1 : b < wr.heap.size := Nat.lt_of_lt_of_le hbl (unhide HB).size
      replace HB := hide ((unhide HB).trans (hb.mono (unhide HB).size))
      clear hb R0 l1 c0
      have hq : decide (kj + ((Lay.sl Lay.tItem).vcnt x.items : Int) < 0) = false := by simp; omega
      go_wp2_with fail
      go_roundw
      case rel => exact ⟨j + 1, _, by omega, by go_num, (by rw [unhide HT, hcn]; have := unhide HK; omega), rfl, unhide HB⟩
      case measure => simp [intOf]; omega
    · obtain rfl : j = xs.length := by omega
      rw [List.take_length] at hkj
      have HK := hide hkj
      have HB := hide hB
      clear hB hkj
      go_wp2_with fail
      go_ret
      exact ⟨by rw [← unhide HK]; rfl, unhide HB⟩

theorem heldIvfList_zero (ao : Option Addr) (cap : Nat) (k : Int) (w : World) :
    Calls Try.prog 117 #[.slice ao 0 cap, .int .i64 k] w fun e w' => e = .returned (.int .i64 k) ∧ w' = w := by
  go_enter Try.func117, Try.ntmps117
  go_wp2_with fail
  refine wp_loop_rounds 1 ?_
  rw [rounds_succ]
  go_wp2_with fail
  go_ret
  exact ⟨rfl, rfl⟩

/-- heldIvfListS. -/
theorem held_IvfListS (v : Value) (xs : List DIvfList) (k : Int) (w : World) (h : (Lay.sl Lay.tIvfList).Reads w [v] ((Lay.sl Lay.tIvfList).mkv k xs)) (hk : 0 ≤ k) (hk2 : k + (Lay.sl Lay.tIvfList).vcnt xs ≤ 1000000000) :
    Calls Try.prog 117 #[v, .int .i64 k] w fun e w' => e = .returned (.int .i64 (k + (Lay.sl Lay.tIvfList).vcnt xs)) ∧ Below w.heap.size w w' := by
  rw [mkv_IvfListS] at h
  obtain ⟨ao, cap, rfl⟩ := open_sl h
  by_cases hp : 0 < xs.length
  · obtain ⟨b, off, rfl, hbl⟩ := Lay.sl_addr h (by rw [mkAll_size]; exact hp)
    have L := heldIvfList_pos b off cap xs k w h hbl hk hk2
    rw [mkAll_size]
    exact L
  · obtain rfl : xs = [] := List.eq_nil_of_length_eq_zero (by omega)
    refine (heldIvfList_zero ao cap k w).mono ?_
    rintro e w' ⟨rfl, rfl⟩
    exact ⟨by rw [vcnt_IvfListS]; simp [cntAll], Below.refl _ _⟩

end Go.Proofs.Ytfgadegpdknocaa

namespace Go.Proofs.Ytfgadegpdknocaa
open Go.RowKit

set_option maxRecDepth 10000 in
set_option maxHeartbeats 1000000 in
theorem held_Ivf (cs : List Value) (x : DIvf) (k : Int) (w : World) (h : Lay.tIvf.Reads w cs (Lay.tIvf.mkv k x)) (hk : 0 ≤ k) (hk2 : k + Lay.tIvf.vcnt x ≤ 1000000000) :
    Calls Try.prog 69 #[.agg cs.toArray, .int .i64 k] w fun e w' => e = .returned (.int .i64 (k + Lay.tIvf.vcnt x)) ∧ Below w.heap.size w w' := by
  rw [mkv_Ivf] at h
  rw [vcnt_Ivf] at hk2
  have HV := hide (vcnt_Ivf x)
  obtain ⟨a0, d0, a1, d1, rfl, R0, R1⟩ := open_Ivf h
  clear h
  generalize hn0 : (⟨(Lay.sl Lay.tCenter).mkv (k) x.centers, (Lay.sl Lay.tIvfList).mkv (k + ((Lay.sl Lay.tCenter).vcnt x.centers : Int)) x.lists⟩ : DIvf).centers.length = n0 at *
  generalize hn1 : (⟨(Lay.sl Lay.tCenter).mkv (k) x.centers, (Lay.sl Lay.tIvfList).mkv (k + ((Lay.sl Lay.tCenter).vcnt x.centers : Int)) x.lists⟩ : DIvf).lists.length = n1 at *
  clear hn0 hn1
  have HB0 : Below w.heap.size w (w.alloc (.cells #[.slice a0 n0 d0, .slice a1 n1 d1] 31)) := (Below.refl _ _).alloc (Nat.le_refl _) _
  have bA : Box w.heap.size #[.slice a0 n0 d0, .slice a1 n1 d1] 31 (w.alloc (.cells #[.slice a0 n0 d0, .slice a1 n1 d1] 31)) w.heap.size := newBox (Nat.le_refl _)
  go_enter Try.func69, Try.ntmps69
  go_wp2_with fail
  generalize w.alloc (.cells #[.slice a0 n0 d0, .slice a1 n1 d1] 31) = W0 at *
  replace R0 := R0.later HB0
  replace R1 := R1.later HB0
  refine (held_CenterS _ x.centers (k) _ R0 (by omega) (by omega)).mono ?_
  rintro e w1 ⟨rfl, hb⟩
  replace HB0 := HB0.trans (hb.mono HB0.size)
  replace bA := bA.keep hb
  replace R1 := R1.later hb
  have p1 := bA.at 1 _ rfl
  have HA := hide bA
  have HX := hide HB0
  clear bA HB0 hb R0
  have P1 := hide R1
  clear R1
  have hq : decide (k + ((Lay.sl Lay.tCenter).vcnt x.centers : Int) < 0) = false := by simp; omega
  go_wp2_with fail
  clear hq
  have bA := unhide HA
  have HB0 := unhide HX
  clear HA HX
  have R1 := unhide P1
  clear P1
  clear p1
  refine (held_IvfListS _ x.lists (k + ((Lay.sl Lay.tCenter).vcnt x.centers : Int)) _ R1 (by omega) (by omega)).mono ?_
  rintro e w2 ⟨rfl, hb⟩
  replace HB0 := HB0.trans (hb.mono HB0.size)
  replace bA := bA.keep hb
  have HA := hide bA
  have HX := hide HB0
  clear bA HB0 hb R1
  have hq : decide (k + ((Lay.sl Lay.tCenter).vcnt x.centers : Int) + ((Lay.sl Lay.tIvfList).vcnt x.lists : Int) < 0) = false := by simp; omega
  go_wp2_with fail
  clear hq
  go_ret
  refine ⟨?_, unhide HX⟩
  rw [show k + (Lay.tIvf.vcnt x : Int) = k + ((Lay.sl Lay.tCenter).vcnt x.centers : Int) + ((Lay.sl Lay.tIvfList).vcnt x.lists : Int) by rw [unhide HV]; omega]
  rfl

end Go.Proofs.Ytfgadegpdknocaa

namespace Go.Proofs.Ytfgadegpdknocaa
open Go.RowKit

set_option maxRecDepth 10000 in
set_option maxHeartbeats 1000000 in
theorem held_IvfResult (cs : List Value) (x : DIvfResult) (k : Int) (w : World) (h : Lay.tIvfResult.Reads w cs (Lay.tIvfResult.mkv k x)) (hk : 0 ≤ k) (hk2 : k + Lay.tIvfResult.vcnt x ≤ 1000000000) :
    Calls Try.prog 26 #[.agg cs.toArray, .int .i64 k] w fun e w' => e = .returned (.int .i64 (k + Lay.tIvfResult.vcnt x)) ∧ Below w.heap.size w w' := by
  rw [mkv_IvfResult] at h
  rw [vcnt_IvfResult] at hk2
  have HV := hide (vcnt_IvfResult x)
  obtain ⟨a1, d1, a2, d2, rfl, R1⟩ := open_IvfResult h
  clear h
  generalize hn1 : (⟨x.code, Lay.tIvf.mkv (k) x.ivf⟩ : DIvfResult).ivf.centers.length = n1 at *
  generalize hn2 : (⟨x.code, Lay.tIvf.mkv (k) x.ivf⟩ : DIvfResult).ivf.lists.length = n2 at *
  clear hn1 hn2
  have HB0 : Below w.heap.size w (w.alloc (.cells #[.int .i64 x.code, .slice a1 n1 d1, .slice a2 n2 d2] 39)) := (Below.refl _ _).alloc (Nat.le_refl _) _
  have bA : Box w.heap.size #[.int .i64 x.code, .slice a1 n1 d1, .slice a2 n2 d2] 39 (w.alloc (.cells #[.int .i64 x.code, .slice a1 n1 d1, .slice a2 n2 d2] 39)) w.heap.size := newBox (Nat.le_refl _)
  go_enter Try.func26, Try.ntmps26
  go_wp2_with fail
  generalize w.alloc (.cells #[.int .i64 x.code, .slice a1 n1 d1, .slice a2 n2 d2] 39) = W0 at *
  replace R1 := R1.later HB0
  refine (held_Ivf _ x.ivf (k) _ R1 (by omega) (by omega)).mono ?_
  rintro e w1 ⟨rfl, hb⟩
  replace HB0 := HB0.trans (hb.mono HB0.size)
  replace bA := bA.keep hb
  have HA := hide bA
  have HX := hide HB0
  clear bA HB0 hb R1
  have hq : decide (k + (Lay.tIvf.vcnt x.ivf : Int) < 0) = false := by simp; omega
  go_wp2_with fail
  clear hq
  go_ret
  refine ⟨?_, unhide HX⟩
  rw [show k + (Lay.tIvfResult.vcnt x : Int) = k + (Lay.tIvf.vcnt x.ivf : Int) by rw [unhide HV]]
  rfl

end Go.Proofs.Ytfgadegpdknocaa

namespace Go.Proofs.Ytfgadegpdknocaa
open Go.RowKit

set_option maxRecDepth 100000 in
set_option maxHeartbeats 4000000 in
theorem lawx_BuildIvf (v0 : Value) (x0 : List DCenter) (v1 : Value) (x1 : List DItem) (y : DIvfResult) (w : World) (A0 : (Lay.sl Lay.tCenter).Reads w [v0] x0) (A1 : (Lay.sl Lay.tItem).Reads w [v1] x1) (NS : (Lay.sl Lay.tCenter).sz x0 + (Lay.sl Lay.tItem).sz x1 ≤ 1048576)
    (hS : ∀ (W : World) (v0 : Value) (v1 : Value), (Lay.sl Lay.tCenter).Reads W [v0] x0 → (Lay.sl Lay.tItem).Reads W [v1] x1 → Calls Try.prog 16 #[v0, v1] W fun e w' => ∃ cs, e = .returned (.agg cs.toArray) ∧ Lay.tIvfResult.Reads w' cs y ∧ Below W.heap.size W w')
    (hI : ∀ (W : World) (v0 : Value) (v1 : Value), (Lay.sl Lay.tCenter).Reads W [v0] x0 → (Lay.sl Lay.tItem).Reads W [v1] x1 → Calls Try.prog 19 #[v0, v1] W fun e w' => ∃ cs, e = .returned (.agg cs.toArray) ∧ Lay.tIvfResult.OwnIn w' cs y W.heap.size w'.heap.size ∧ Below W.heap.size W w') (hc : Lay.tIvfResult.vcnt y ≤ 100000000) :
    Calls Try.prog 4 #[v0, v1] w fun e w' => e = .returned (.bool true) ∧ Below w.heap.size w w' := by
  obtain ⟨ao0, cp0, rfl⟩ := open_sl A0
  obtain ⟨ao1, cp1, rfl⟩ := open_sl A1
  have HS := hide hS
  have HI := hide hI
  clear hS hI
  have HA0 := hide A0.liesIn
  clear A0
  have HA1 := hide A1.liesIn
  clear A1
  have N0 : (Lay.sl Lay.tCenter).sz x0 ≤ 1048576 := by omega
  have N1 : (Lay.sl Lay.tItem).sz x1 ≤ 1048576 := by omega
  have HN0 := hide N0
  have HN1 := hide N1
  clear N0 N1
  have HC := hide hc
  clear hc
  have HNS := hide NS
  clear NS
  have HB := hide (Below.refl w.heap.size w)
  go_enter Try.func4, Try.ntmps4
  go_wp2_with fail
  have hns := unhide HNS
  refine (sz_CenterS _ x0 (1048576) w (unhide HA0).reads (by omega)).mono ?_
  rintro e w1 ⟨rfl, hb⟩
  replace HA0 := hide ((unhide HA0).later hb)
  replace HA1 := hide ((unhide HA1).later hb)
  have Zw1 : w.heap.size ≤ w1.heap.size := hb.size
  replace HB := hide ((unhide HB).trans (hb.mono (by omega)))
  clear hb
  rw [szR_ok (by omega)]
  have hq0 : decide (((1048576 - (Lay.sl Lay.tCenter).sz x0 : Nat) : Int) < 0) = false := by simp
  clear hns
  go_wp2_with fail
  clear hq0
  have hns := unhide HNS
  refine (sz_ItemS _ x1 (1048576 - (Lay.sl Lay.tCenter).sz x0) w1 (unhide HA1).reads (by omega)).mono ?_
  rintro e w2 ⟨rfl, hb⟩
  replace HA0 := hide ((unhide HA0).later hb)
  replace HA1 := hide ((unhide HA1).later hb)
  have Zw2 : w1.heap.size ≤ w2.heap.size := hb.size
  replace HB := hide ((unhide HB).trans (hb.mono (by omega)))
  clear hb
  rw [szR_ok (by omega)]
  have hq1 : decide (((1048576 - (Lay.sl Lay.tCenter).sz x0 - (Lay.sl Lay.tItem).sz x1 : Nat) : Int) < 0) = false := by simp
  clear hns
  go_wp2_with fail
  clear hq1
  refine (to_CenterS _ x0 w2 (unhide HA0).reads (unhide HN0)).mono ?_
  rintro e w3 ⟨vc0, rfl, O, hb⟩
  replace HA0 := hide ((unhide HA0).later hb)
  replace HA1 := hide ((unhide HA1).later hb)
  have Zw3 : w2.heap.size ≤ w3.heap.size := hb.size
  replace HB := hide ((unhide HB).trans (hb.mono (by omega)))
  clear hb
  obtain ⟨aoc0, cpc0, rfl⟩ := open_sl O.reads
  have Hc0 := hide O
  clear O
  go_wp2_with fail
  refine (to_ItemS _ x1 w3 (unhide HA1).reads (unhide HN1)).mono ?_
  rintro e w4 ⟨vc1, rfl, O, hb⟩
  replace HA0 := hide ((unhide HA0).later hb)
  replace HA1 := hide ((unhide HA1).later hb)
  replace Hc0 := hide ((unhide Hc0).later hb)
  have Zw4 : w3.heap.size ≤ w4.heap.size := hb.size
  replace HB := hide ((unhide HB).trans (hb.mono (by omega)))
  clear hb
  obtain ⟨aoc1, cpc1, rfl⟩ := open_sl O.reads
  have Hc1 := hide O
  clear O
  go_wp2_with fail
  refine (unhide HS w4 _ _ (unhide Hc0).reads (unhide Hc1).reads).mono ?_
  rintro e w5 ⟨cs, rfl, O, hb⟩
  replace HA0 := hide ((unhide HA0).later hb)
  replace HA1 := hide ((unhide HA1).later hb)
  replace Hc0 := hide ((unhide Hc0).later hb)
  replace Hc1 := hide ((unhide Hc1).later hb)
  have Zw5 : w4.heap.size ≤ w5.heap.size := hb.size
  replace HB := hide ((unhide HB).trans (hb.mono (by omega)))
  clear hb
  obtain ⟨a1W, d1W, a2W, d2W, rfl, -⟩ := open_IvfResult O
  have HW := hide O.liesIn
  clear O
  have nb : Below w5.heap.size w5 (w5.alloc (.cells #[.int .i64 y.code, .slice a1W y.ivf.centers.length d1W, .slice a2W y.ivf.lists.length d2W] 39)) := (Below.refl _ _).alloc (Nat.le_refl _) _
  have YW : Hid (Box w5.heap.size #[.int .i64 y.code, .slice a1W y.ivf.centers.length d1W, .slice a2W y.ivf.lists.length d2W] 39 (w5.alloc (.cells #[.int .i64 y.code, .slice a1W y.ivf.centers.length d1W, .slice a2W y.ivf.lists.length d2W] 39)) w5.heap.size) := newBox (Nat.le_refl _)
  clear Hc0
  clear Hc1
  go_wp2_with fail
  generalize haw6 : w5.alloc (.cells #[.int .i64 y.code, .slice a1W y.ivf.centers.length d1W, .slice a2W y.ivf.lists.length d2W] 39) = w6 at *
  have Gw6 : w5.heap.size < w6.heap.size := by rw [← haw6]; simp
  clear haw6
  replace HA0 := hide ((unhide HA0).later nb)
  replace HA1 := hide ((unhide HA1).later nb)
  replace HW := hide ((unhide HW).later nb)
  have Zw6 : w5.heap.size ≤ w6.heap.size := nb.size
  replace HB := hide ((unhide HB).trans (nb.mono (by omega)))
  clear nb
  refine (to_CenterS _ x0 w6 (unhide HA0).reads (unhide HN0)).mono ?_
  rintro e w7 ⟨vx0, rfl, O, hb⟩
  replace HA0 := hide ((unhide HA0).later hb)
  replace HA1 := hide ((unhide HA1).later hb)
  replace HW := hide ((unhide HW).later hb)
  replace YW := hide ((unhide YW).keep hb)
  have Zw7 : w6.heap.size ≤ w7.heap.size := hb.size
  replace HB := hide ((unhide HB).trans (hb.mono (by omega)))
  clear hb
  obtain ⟨aox0, cpx0, rfl⟩ := open_sl O.reads
  have Hx0 := hide O
  clear O
  have l0YW := (unhide YW).at 0 _ rfl
  have l1YW := (unhide YW).at 1 _ rfl
  have l2YW := (unhide YW).at 2 _ rfl
  have ltYW : w5.heap.size < w7.heap.size := by omega
  simp only [List.getElem_toArray, List.getElem_cons_zero, List.getElem_cons_succ] at l0YW l1YW l2YW
  go_wp2_with fail
  clear l0YW l1YW l2YW ltYW
  refine (to_ItemS _ x1 w7 (unhide HA1).reads (unhide HN1)).mono ?_
  rintro e w8 ⟨vx1, rfl, O, hb⟩
  replace HA0 := hide ((unhide HA0).later hb)
  replace HA1 := hide ((unhide HA1).later hb)
  replace HW := hide ((unhide HW).later hb)
  replace YW := hide ((unhide YW).keep hb)
  replace Hx0 := hide ((unhide Hx0).later hb)
  have Zw8 : w7.heap.size ≤ w8.heap.size := hb.size
  replace HB := hide ((unhide HB).trans (hb.mono (by omega)))
  clear hb
  obtain ⟨aox1, cpx1, rfl⟩ := open_sl O.reads
  have Hx1 := hide O
  clear O
  have l0YW := (unhide YW).at 0 _ rfl
  have l1YW := (unhide YW).at 1 _ rfl
  have l2YW := (unhide YW).at 2 _ rfl
  have ltYW : w5.heap.size < w8.heap.size := by omega
  simp only [List.getElem_toArray, List.getElem_cons_zero, List.getElem_cons_succ] at l0YW l1YW l2YW
  go_wp2_with fail
  clear l0YW l1YW l2YW ltYW
  refine (unhide HI w8 _ _ (unhide Hx0).reads (unhide Hx1).reads).mono ?_
  rintro e w9 ⟨cs, rfl, O, hb⟩
  replace HA0 := hide ((unhide HA0).later hb)
  replace HA1 := hide ((unhide HA1).later hb)
  replace HW := hide ((unhide HW).later hb)
  replace YW := hide ((unhide YW).keep hb)
  replace Hx0 := hide ((unhide Hx0).later hb)
  replace Hx1 := hide ((unhide Hx1).later hb)
  have Zw9 : w8.heap.size ≤ w9.heap.size := hb.size
  replace HB := hide ((unhide HB).trans (hb.mono (by omega)))
  clear hb
  obtain ⟨a1G, d1G, a2G, d2G, rfl, -⟩ := open_IvfResult O.reads
  have HG := hide O
  clear O
  have nb : Below w9.heap.size w9 (w9.alloc (.cells #[.int .i64 y.code, .slice a1G y.ivf.centers.length d1G, .slice a2G y.ivf.lists.length d2G] 39)) := (Below.refl _ _).alloc (Nat.le_refl _) _
  have YG : Hid (Box w9.heap.size #[.int .i64 y.code, .slice a1G y.ivf.centers.length d1G, .slice a2G y.ivf.lists.length d2G] 39 (w9.alloc (.cells #[.int .i64 y.code, .slice a1G y.ivf.centers.length d1G, .slice a2G y.ivf.lists.length d2G] 39)) w9.heap.size) := newBox (Nat.le_refl _)
  have l0YW := (unhide YW).at 0 _ rfl
  have l1YW := (unhide YW).at 1 _ rfl
  have l2YW := (unhide YW).at 2 _ rfl
  have ltYW : w5.heap.size < w9.heap.size := by omega
  simp only [List.getElem_toArray, List.getElem_cons_zero, List.getElem_cons_succ] at l0YW l1YW l2YW
  go_wp2_with fail
  clear l0YW l1YW l2YW ltYW
  generalize haw10 : w9.alloc (.cells #[.int .i64 y.code, .slice a1G y.ivf.centers.length d1G, .slice a2G y.ivf.lists.length d2G] 39) = w10 at *
  have Gw10 : w9.heap.size < w10.heap.size := by rw [← haw10]; simp
  clear haw10
  replace HA0 := hide ((unhide HA0).later nb)
  replace HA1 := hide ((unhide HA1).later nb)
  replace HW := hide ((unhide HW).later nb)
  replace YW := hide ((unhide YW).keep nb)
  replace Hx0 := hide ((unhide Hx0).later nb)
  replace Hx1 := hide ((unhide Hx1).later nb)
  replace HG := hide ((unhide HG).later nb)
  have Zw10 : w9.heap.size ≤ w10.heap.size := nb.size
  replace HB := hide ((unhide HB).trans (nb.mono (by omega)))
  clear nb
  refine (eq_IvfResult _ _ y w10 (unhide HG).reads (unhide HW).reads).mono ?_
  rintro e w11 ⟨rfl, hb⟩
  replace HA0 := hide ((unhide HA0).later hb)
  replace HA1 := hide ((unhide HA1).later hb)
  replace HW := hide ((unhide HW).later hb)
  replace YW := hide ((unhide YW).keep hb)
  replace Hx0 := hide ((unhide Hx0).later hb)
  replace Hx1 := hide ((unhide Hx1).later hb)
  replace HG := hide ((unhide HG).later hb)
  replace YG := hide ((unhide YG).keep hb)
  have Zw11 : w10.heap.size ≤ w11.heap.size := hb.size
  replace HB := hide ((unhide HB).trans (hb.mono (by omega)))
  clear hb
  have l0YW := (unhide YW).at 0 _ rfl
  have l1YW := (unhide YW).at 1 _ rfl
  have l2YW := (unhide YW).at 2 _ rfl
  have ltYW : w5.heap.size < w11.heap.size := by omega
  have l0YG := (unhide YG).at 0 _ rfl
  have l1YG := (unhide YG).at 1 _ rfl
  have l2YG := (unhide YG).at 2 _ rfl
  have ltYG : w9.heap.size < w11.heap.size := by omega
  simp only [List.getElem_toArray, List.getElem_cons_zero, List.getElem_cons_succ] at l0YW l1YW l2YW l0YG l1YG l2YG
  go_wp2_with fail
  clear l0YW l1YW l2YW ltYW l0YG l1YG l2YG ltYG
  refine (to_CenterS _ x0 w11 (unhide HA0).reads (unhide HN0)).mono ?_
  rintro e w12 ⟨vd0, rfl, O, hb⟩
  replace HA0 := hide ((unhide HA0).later hb)
  replace HA1 := hide ((unhide HA1).later hb)
  replace HW := hide ((unhide HW).later hb)
  replace YW := hide ((unhide YW).keep hb)
  replace Hx0 := hide ((unhide Hx0).later hb)
  replace Hx1 := hide ((unhide Hx1).later hb)
  replace HG := hide ((unhide HG).later hb)
  replace YG := hide ((unhide YG).keep hb)
  have Zw12 : w11.heap.size ≤ w12.heap.size := hb.size
  replace HB := hide ((unhide HB).trans (hb.mono (by omega)))
  clear hb
  obtain ⟨aod0, cpd0, rfl⟩ := open_sl O.reads
  have Hd0 := hide O
  clear O
  have l0YW := (unhide YW).at 0 _ rfl
  have l1YW := (unhide YW).at 1 _ rfl
  have l2YW := (unhide YW).at 2 _ rfl
  have ltYW : w5.heap.size < w12.heap.size := by omega
  have l0YG := (unhide YG).at 0 _ rfl
  have l1YG := (unhide YG).at 1 _ rfl
  have l2YG := (unhide YG).at 2 _ rfl
  have ltYG : w9.heap.size < w12.heap.size := by omega
  simp only [List.getElem_toArray, List.getElem_cons_zero, List.getElem_cons_succ] at l0YW l1YW l2YW l0YG l1YG l2YG
  go_wp2_with fail
  clear l0YW l1YW l2YW ltYW l0YG l1YG l2YG ltYG
  refine (eq_CenterS _ _ x0 w12 (unhide Hx0).reads (unhide Hd0).reads).mono ?_
  rintro e w13 ⟨rfl, hb⟩
  replace HA0 := hide ((unhide HA0).later hb)
  replace HA1 := hide ((unhide HA1).later hb)
  replace HW := hide ((unhide HW).later hb)
  replace YW := hide ((unhide YW).keep hb)
  replace Hx0 := hide ((unhide Hx0).later hb)
  replace Hx1 := hide ((unhide Hx1).later hb)
  replace HG := hide ((unhide HG).later hb)
  replace YG := hide ((unhide YG).keep hb)
  replace Hd0 := hide ((unhide Hd0).later hb)
  have Zw13 : w12.heap.size ≤ w13.heap.size := hb.size
  replace HB := hide ((unhide HB).trans (hb.mono (by omega)))
  clear hb
  clear Hd0
  have l0YW := (unhide YW).at 0 _ rfl
  have l1YW := (unhide YW).at 1 _ rfl
  have l2YW := (unhide YW).at 2 _ rfl
  have ltYW : w5.heap.size < w13.heap.size := by omega
  have l0YG := (unhide YG).at 0 _ rfl
  have l1YG := (unhide YG).at 1 _ rfl
  have l2YG := (unhide YG).at 2 _ rfl
  have ltYG : w9.heap.size < w13.heap.size := by omega
  simp only [List.getElem_toArray, List.getElem_cons_zero, List.getElem_cons_succ] at l0YW l1YW l2YW l0YG l1YG l2YG
  go_wp2_with fail
  clear l0YW l1YW l2YW ltYW l0YG l1YG l2YG ltYG
  refine (to_ItemS _ x1 w13 (unhide HA1).reads (unhide HN1)).mono ?_
  rintro e w14 ⟨vd1, rfl, O, hb⟩
  replace HA0 := hide ((unhide HA0).later hb)
  replace HA1 := hide ((unhide HA1).later hb)
  replace HW := hide ((unhide HW).later hb)
  replace YW := hide ((unhide YW).keep hb)
  replace Hx0 := hide ((unhide Hx0).later hb)
  replace Hx1 := hide ((unhide Hx1).later hb)
  replace HG := hide ((unhide HG).later hb)
  replace YG := hide ((unhide YG).keep hb)
  have Zw14 : w13.heap.size ≤ w14.heap.size := hb.size
  replace HB := hide ((unhide HB).trans (hb.mono (by omega)))
  clear hb
  obtain ⟨aod1, cpd1, rfl⟩ := open_sl O.reads
  have Hd1 := hide O
  clear O
  have l0YW := (unhide YW).at 0 _ rfl
  have l1YW := (unhide YW).at 1 _ rfl
  have l2YW := (unhide YW).at 2 _ rfl
  have ltYW : w5.heap.size < w14.heap.size := by omega
  have l0YG := (unhide YG).at 0 _ rfl
  have l1YG := (unhide YG).at 1 _ rfl
  have l2YG := (unhide YG).at 2 _ rfl
  have ltYG : w9.heap.size < w14.heap.size := by omega
  simp only [List.getElem_toArray, List.getElem_cons_zero, List.getElem_cons_succ] at l0YW l1YW l2YW l0YG l1YG l2YG
  go_wp2_with fail
  clear l0YW l1YW l2YW ltYW l0YG l1YG l2YG ltYG
  refine (eq_ItemS _ _ x1 w14 (unhide Hx1).reads (unhide Hd1).reads).mono ?_
  rintro e w15 ⟨rfl, hb⟩
  replace HA0 := hide ((unhide HA0).later hb)
  replace HA1 := hide ((unhide HA1).later hb)
  replace HW := hide ((unhide HW).later hb)
  replace YW := hide ((unhide YW).keep hb)
  replace Hx0 := hide ((unhide Hx0).later hb)
  replace Hx1 := hide ((unhide Hx1).later hb)
  replace HG := hide ((unhide HG).later hb)
  replace YG := hide ((unhide YG).keep hb)
  replace Hd1 := hide ((unhide Hd1).later hb)
  have Zw15 : w14.heap.size ≤ w15.heap.size := hb.size
  replace HB := hide ((unhide HB).trans (hb.mono (by omega)))
  clear hb
  clear Hd1
  have l0YW := (unhide YW).at 0 _ rfl
  have l1YW := (unhide YW).at 1 _ rfl
  have l2YW := (unhide YW).at 2 _ rfl
  have ltYW : w5.heap.size < w15.heap.size := by omega
  have l0YG := (unhide YG).at 0 _ rfl
  have l1YG := (unhide YG).at 1 _ rfl
  have l2YG := (unhide YG).at 2 _ rfl
  have ltYG : w9.heap.size < w15.heap.size := by omega
  simp only [List.getElem_toArray, List.getElem_cons_zero, List.getElem_cons_succ] at l0YW l1YW l2YW l0YG l1YG l2YG
  go_wp2_with fail
  clear l0YW l1YW l2YW ltYW l0YG l1YG l2YG ltYG
  obtain ⟨bl, O, hbl⟩ := unhide Hx0
  clear Hx0
  have HCx0 := few_bound (A := (Lay.sl Lay.tCenter)) (few_sl (few_via (few_sl few_int))) (unhide HN0) (by omega)
  refine (mark_CenterS _ x0 bl (1) w15 O (by omega) (by omega)).mono ?_
  rintro e w16 ⟨rfl, -, E⟩
  replace E := E.mono (S' := within w6.heap.size w7.heap.size) fun b _ hb => hbl b hb
  clear hbl O
  have zlo : w.heap.size ≤ w6.heap.size ∧ w7.heap.size ≤ w15.heap.size := by omega
  replace HA0 := hide ((unhide HA0).ext E (within_out (by omega)))
  replace HA1 := hide ((unhide HA1).ext E (within_out (by omega)))
  replace HW := hide ((unhide HW).ext E (within_out (by omega)))
  replace YW := hide ((unhide YW).ext E (fun q => by simp only [within] at q; omega))
  replace Hx1 := hide ((unhide Hx1).ext E (within_out (by omega)))
  replace HG := hide ((unhide HG).ext E (within_out (by omega)))
  replace YG := hide ((unhide YG).ext E (fun q => by simp only [within] at q; omega))
  have Zw16 : w15.heap.size ≤ w16.heap.size := E.size
  replace HB := hide ((unhide HB).trans (E.below (by omega) (fun k h q => by simp only [within] at q; omega)))
  clear E
  clear zlo
  have l0YW := (unhide YW).at 0 _ rfl
  have l1YW := (unhide YW).at 1 _ rfl
  have l2YW := (unhide YW).at 2 _ rfl
  have ltYW : w5.heap.size < w16.heap.size := by omega
  have l0YG := (unhide YG).at 0 _ rfl
  have l1YG := (unhide YG).at 1 _ rfl
  have l2YG := (unhide YG).at 2 _ rfl
  have ltYG : w9.heap.size < w16.heap.size := by omega
  simp only [List.getElem_toArray, List.getElem_cons_zero, List.getElem_cons_succ] at l0YW l1YW l2YW l0YG l1YG l2YG
  go_wp2_with fail
  clear l0YW l1YW l2YW ltYW l0YG l1YG l2YG ltYG
  obtain ⟨bl, O, hbl⟩ := unhide Hx1
  clear Hx1
  have HCx1 := few_bound (A := (Lay.sl Lay.tItem)) (few_sl (few_via (few_pair few_int (few_sl few_int)))) (unhide HN1) (by omega)
  refine (mark_ItemS _ x1 bl (1 + ((Lay.sl Lay.tCenter).vcnt x0 : Int)) w16 O (by omega) (by omega)).mono ?_
  rintro e w17 ⟨rfl, -, E⟩
  replace E := E.mono (S' := within w7.heap.size w8.heap.size) fun b _ hb => hbl b hb
  clear hbl O
  have zlo : w.heap.size ≤ w7.heap.size ∧ w8.heap.size ≤ w16.heap.size := by omega
  replace HA0 := hide ((unhide HA0).ext E (within_out (by omega)))
  replace HA1 := hide ((unhide HA1).ext E (within_out (by omega)))
  replace HW := hide ((unhide HW).ext E (within_out (by omega)))
  replace YW := hide ((unhide YW).ext E (fun q => by simp only [within] at q; omega))
  replace HG := hide ((unhide HG).ext E (within_out (by omega)))
  replace YG := hide ((unhide YG).ext E (fun q => by simp only [within] at q; omega))
  have Zw17 : w16.heap.size ≤ w17.heap.size := E.size
  replace HB := hide ((unhide HB).trans (E.below (by omega) (fun k h q => by simp only [within] at q; omega)))
  clear E
  clear zlo
  obtain ⟨mk, hmk⟩ : ∃ mk : Int, mk = 1 + ((Lay.sl Lay.tCenter).vcnt x0 : Int) + ((Lay.sl Lay.tItem).vcnt x1 : Int) := ⟨_, rfl⟩
  rw [← hmk]
  have hm3 : decide (mk < 0) = false := decide_eq_false (by omega)
  clear hmk HCx0 HCx1
  have l0YW := (unhide YW).at 0 _ rfl
  have l1YW := (unhide YW).at 1 _ rfl
  have l2YW := (unhide YW).at 2 _ rfl
  have ltYW : w5.heap.size < w17.heap.size := by omega
  have l0YG := (unhide YG).at 0 _ rfl
  have l1YG := (unhide YG).at 1 _ rfl
  have l2YG := (unhide YG).at 2 _ rfl
  have ltYG : w9.heap.size < w17.heap.size := by omega
  simp only [List.getElem_toArray, List.getElem_cons_zero, List.getElem_cons_succ] at l0YW l1YW l2YW l0YG l1YG l2YG
  go_wp2_with fail
  clear l0YW l1YW l2YW ltYW l0YG l1YG l2YG ltYG
  refine (eq_IvfResult _ _ y w17 (unhide HG).reads (unhide HW).reads).mono ?_
  rintro e w18 ⟨rfl, hb⟩
  replace HA0 := hide ((unhide HA0).later hb)
  replace HA1 := hide ((unhide HA1).later hb)
  replace HW := hide ((unhide HW).later hb)
  replace YW := hide ((unhide YW).keep hb)
  replace HG := hide ((unhide HG).later hb)
  replace YG := hide ((unhide YG).keep hb)
  have Zw18 : w17.heap.size ≤ w18.heap.size := hb.size
  replace HB := hide ((unhide HB).trans (hb.mono (by omega)))
  clear hb
  clear hm3
  have l0YW := (unhide YW).at 0 _ rfl
  have l1YW := (unhide YW).at 1 _ rfl
  have l2YW := (unhide YW).at 2 _ rfl
  have ltYW : w5.heap.size < w18.heap.size := by omega
  have l0YG := (unhide YG).at 0 _ rfl
  have l1YG := (unhide YG).at 1 _ rfl
  have l2YG := (unhide YG).at 2 _ rfl
  have ltYG : w9.heap.size < w18.heap.size := by omega
  simp only [List.getElem_toArray, List.getElem_cons_zero, List.getElem_cons_succ] at l0YW l1YW l2YW l0YG l1YG l2YG
  go_wp2_with fail
  clear l0YW l1YW l2YW ltYW l0YG l1YG l2YG ltYG
  obtain ⟨bl, O, hbl⟩ := unhide HG
  clear HG
  have hcy := unhide HC
  refine (mark_IvfResult _ y bl 1 w18 O (by omega) (by omega)).mono ?_
  rintro e w19 ⟨rfl, O2, E⟩
  replace E := E.mono (S' := within w8.heap.size w9.heap.size) fun b _ hb => hbl b hb
  have HG : Hid (Lay.tIvfResult.OwnIn w19 _ (Lay.tIvfResult.mkv 1 y) w8.heap.size w9.heap.size) := ⟨bl, O2, hbl⟩
  clear hbl O O2
  have zlo : w.heap.size ≤ w8.heap.size ∧ w9.heap.size ≤ w18.heap.size := by omega
  replace HA0 := hide ((unhide HA0).ext E (within_out (by omega)))
  replace HA1 := hide ((unhide HA1).ext E (within_out (by omega)))
  replace HW := hide ((unhide HW).ext E (within_out (by omega)))
  replace YW := hide ((unhide YW).ext E (fun q => by simp only [within] at q; omega))
  replace YG := hide ((unhide YG).ext E (fun q => by simp only [within] at q; omega))
  have Zw19 : w18.heap.size ≤ w19.heap.size := E.size
  replace HB := hide ((unhide HB).trans (E.below (by omega) (fun k h q => by simp only [within] at q; omega)))
  clear E
  clear zlo
  have hq0 : decide (1 + (Lay.tIvfResult.vcnt y : Int) < 0) = false := decide_eq_false (by omega)
  have hq1 : ((1 + (Lay.tIvfResult.vcnt y : Int)) != (1 + (Lay.tIvfResult.vcnt y : Int))) = false := by simp
  clear hcy
  have l0YW := (unhide YW).at 0 _ rfl
  have l1YW := (unhide YW).at 1 _ rfl
  have l2YW := (unhide YW).at 2 _ rfl
  have ltYW : w5.heap.size < w19.heap.size := by omega
  have l0YG := (unhide YG).at 0 _ rfl
  have l1YG := (unhide YG).at 1 _ rfl
  have l2YG := (unhide YG).at 2 _ rfl
  have ltYG : w9.heap.size < w19.heap.size := by omega
  simp only [List.getElem_toArray, List.getElem_cons_zero, List.getElem_cons_succ] at l0YW l1YW l2YW l0YG l1YG l2YG
  go_wp2_with fail
  clear l0YW l1YW l2YW ltYW l0YG l1YG l2YG ltYG
  refine (held_IvfResult _ y 1 w19 (unhide HG).reads (by omega) (by have := unhide HC; omega)).mono ?_
  rintro e w20 ⟨rfl, hb⟩
  replace HA0 := hide ((unhide HA0).later hb)
  replace HA1 := hide ((unhide HA1).later hb)
  replace HW := hide ((unhide HW).later hb)
  replace YW := hide ((unhide YW).keep hb)
  replace YG := hide ((unhide YG).keep hb)
  replace HG := hide ((unhide HG).later hb)
  have Zw20 : w19.heap.size ≤ w20.heap.size := hb.size
  replace HB := hide ((unhide HB).trans (hb.mono (by omega)))
  clear hb
  have l0YW := (unhide YW).at 0 _ rfl
  have l1YW := (unhide YW).at 1 _ rfl
  have l2YW := (unhide YW).at 2 _ rfl
  have ltYW : w5.heap.size < w20.heap.size := by omega
  have l0YG := (unhide YG).at 0 _ rfl
  have l1YG := (unhide YG).at 1 _ rfl
  have l2YG := (unhide YG).at 2 _ rfl
  have ltYG : w9.heap.size < w20.heap.size := by omega
  simp only [List.getElem_toArray, List.getElem_cons_zero, List.getElem_cons_succ] at l0YW l1YW l2YW l0YG l1YG l2YG
  go_wp2_with fail
  clear l0YW l1YW l2YW ltYW l0YG l1YG l2YG ltYG
  refine (to_CenterS _ x0 w20 (unhide HA0).reads (unhide HN0)).mono ?_
  rintro e w21 ⟨vf0, rfl, O, hb⟩
  replace HA0 := hide ((unhide HA0).later hb)
  replace HA1 := hide ((unhide HA1).later hb)
  replace HW := hide ((unhide HW).later hb)
  replace YW := hide ((unhide YW).keep hb)
  replace YG := hide ((unhide YG).keep hb)
  replace HG := hide ((unhide HG).later hb)
  have Zw21 : w20.heap.size ≤ w21.heap.size := hb.size
  replace HB := hide ((unhide HB).trans (hb.mono (by omega)))
  clear hb
  obtain ⟨aof0, cpf0, rfl⟩ := open_sl O.reads
  have Hf0 := hide O
  clear O
  have l0YW := (unhide YW).at 0 _ rfl
  have l1YW := (unhide YW).at 1 _ rfl
  have l2YW := (unhide YW).at 2 _ rfl
  have ltYW : w5.heap.size < w21.heap.size := by omega
  have l0YG := (unhide YG).at 0 _ rfl
  have l1YG := (unhide YG).at 1 _ rfl
  have l2YG := (unhide YG).at 2 _ rfl
  have ltYG : w9.heap.size < w21.heap.size := by omega
  simp only [List.getElem_toArray, List.getElem_cons_zero, List.getElem_cons_succ] at l0YW l1YW l2YW l0YG l1YG l2YG
  go_wp2_with fail
  clear l0YW l1YW l2YW ltYW l0YG l1YG l2YG ltYG
  refine (to_ItemS _ x1 w21 (unhide HA1).reads (unhide HN1)).mono ?_
  rintro e w22 ⟨vf1, rfl, O, hb⟩
  replace HA0 := hide ((unhide HA0).later hb)
  replace HA1 := hide ((unhide HA1).later hb)
  replace HW := hide ((unhide HW).later hb)
  replace YW := hide ((unhide YW).keep hb)
  replace YG := hide ((unhide YG).keep hb)
  replace HG := hide ((unhide HG).later hb)
  replace Hf0 := hide ((unhide Hf0).later hb)
  have Zw22 : w21.heap.size ≤ w22.heap.size := hb.size
  replace HB := hide ((unhide HB).trans (hb.mono (by omega)))
  clear hb
  obtain ⟨aof1, cpf1, rfl⟩ := open_sl O.reads
  have Hf1 := hide O
  clear O
  have l0YW := (unhide YW).at 0 _ rfl
  have l1YW := (unhide YW).at 1 _ rfl
  have l2YW := (unhide YW).at 2 _ rfl
  have ltYW : w5.heap.size < w22.heap.size := by omega
  have l0YG := (unhide YG).at 0 _ rfl
  have l1YG := (unhide YG).at 1 _ rfl
  have l2YG := (unhide YG).at 2 _ rfl
  have ltYG : w9.heap.size < w22.heap.size := by omega
  simp only [List.getElem_toArray, List.getElem_cons_zero, List.getElem_cons_succ] at l0YW l1YW l2YW l0YG l1YG l2YG
  go_wp2_with fail
  clear l0YW l1YW l2YW ltYW l0YG l1YG l2YG ltYG
  refine (unhide HI w22 _ _ (unhide Hf0).reads (unhide Hf1).reads).mono ?_
  rintro e w23 ⟨cs, rfl, O, hb⟩
  replace HA0 := hide ((unhide HA0).later hb)
  replace HA1 := hide ((unhide HA1).later hb)
  replace HW := hide ((unhide HW).later hb)
  replace YW := hide ((unhide YW).keep hb)
  replace YG := hide ((unhide YG).keep hb)
  replace HG := hide ((unhide HG).later hb)
  replace Hf0 := hide ((unhide Hf0).later hb)
  replace Hf1 := hide ((unhide Hf1).later hb)
  have Zw23 : w22.heap.size ≤ w23.heap.size := hb.size
  replace HB := hide ((unhide HB).trans (hb.mono (by omega)))
  clear hb
  obtain ⟨a1K, d1K, a2K, d2K, rfl, -⟩ := open_IvfResult O.reads
  have HK := hide O
  clear O
  have nb : Below w23.heap.size w23 (w23.alloc (.cells #[.int .i64 y.code, .slice a1K y.ivf.centers.length d1K, .slice a2K y.ivf.lists.length d2K] 39)) := (Below.refl _ _).alloc (Nat.le_refl _) _
  have YK : Hid (Box w23.heap.size #[.int .i64 y.code, .slice a1K y.ivf.centers.length d1K, .slice a2K y.ivf.lists.length d2K] 39 (w23.alloc (.cells #[.int .i64 y.code, .slice a1K y.ivf.centers.length d1K, .slice a2K y.ivf.lists.length d2K] 39)) w23.heap.size) := newBox (Nat.le_refl _)
  clear Hf0
  clear Hf1
  have l0YW := (unhide YW).at 0 _ rfl
  have l1YW := (unhide YW).at 1 _ rfl
  have l2YW := (unhide YW).at 2 _ rfl
  have ltYW : w5.heap.size < w23.heap.size := by omega
  have l0YG := (unhide YG).at 0 _ rfl
  have l1YG := (unhide YG).at 1 _ rfl
  have l2YG := (unhide YG).at 2 _ rfl
  have ltYG : w9.heap.size < w23.heap.size := by omega
  simp only [List.getElem_toArray, List.getElem_cons_zero, List.getElem_cons_succ] at l0YW l1YW l2YW l0YG l1YG l2YG
  go_wp2_with fail
  clear l0YW l1YW l2YW ltYW l0YG l1YG l2YG ltYG
  generalize haw24 : w23.alloc (.cells #[.int .i64 y.code, .slice a1K y.ivf.centers.length d1K, .slice a2K y.ivf.lists.length d2K] 39) = w24 at *
  have Gw24 : w23.heap.size < w24.heap.size := by rw [← haw24]; simp
  clear haw24
  replace HA0 := hide ((unhide HA0).later nb)
  replace HA1 := hide ((unhide HA1).later nb)
  replace HW := hide ((unhide HW).later nb)
  replace YW := hide ((unhide YW).keep nb)
  replace YG := hide ((unhide YG).keep nb)
  replace HG := hide ((unhide HG).later nb)
  replace HK := hide ((unhide HK).later nb)
  have Zw24 : w23.heap.size ≤ w24.heap.size := nb.size
  replace HB := hide ((unhide HB).trans (nb.mono (by omega)))
  clear nb
  refine (eq_IvfResult _ _ y w24 (unhide HK).reads (unhide HW).reads).mono ?_
  rintro e w25 ⟨rfl, hb⟩
  replace HA0 := hide ((unhide HA0).later hb)
  replace HA1 := hide ((unhide HA1).later hb)
  replace HW := hide ((unhide HW).later hb)
  replace YW := hide ((unhide YW).keep hb)
  replace YG := hide ((unhide YG).keep hb)
  replace HG := hide ((unhide HG).later hb)
  replace HK := hide ((unhide HK).later hb)
  replace YK := hide ((unhide YK).keep hb)
  have Zw25 : w24.heap.size ≤ w25.heap.size := hb.size
  replace HB := hide ((unhide HB).trans (hb.mono (by omega)))
  clear hb
  clear HK
  clear YK
  have l0YW := (unhide YW).at 0 _ rfl
  have l1YW := (unhide YW).at 1 _ rfl
  have l2YW := (unhide YW).at 2 _ rfl
  have ltYW : w5.heap.size < w25.heap.size := by omega
  have l0YG := (unhide YG).at 0 _ rfl
  have l1YG := (unhide YG).at 1 _ rfl
  have l2YG := (unhide YG).at 2 _ rfl
  have ltYG : w9.heap.size < w25.heap.size := by omega
  simp only [List.getElem_toArray, List.getElem_cons_zero, List.getElem_cons_succ] at l0YW l1YW l2YW l0YG l1YG l2YG
  go_wp2_with fail
  clear l0YW l1YW l2YW ltYW l0YG l1YG l2YG ltYG
  refine (held_IvfResult _ y 1 w25 (unhide HG).reads (by omega) (by have := unhide HC; omega)).mono ?_
  rintro e w26 ⟨rfl, hb⟩
  replace HA0 := hide ((unhide HA0).later hb)
  replace HA1 := hide ((unhide HA1).later hb)
  replace HW := hide ((unhide HW).later hb)
  replace YW := hide ((unhide YW).keep hb)
  replace YG := hide ((unhide YG).keep hb)
  replace HG := hide ((unhide HG).later hb)
  have Zw26 : w25.heap.size ≤ w26.heap.size := hb.size
  replace HB := hide ((unhide HB).trans (hb.mono (by omega)))
  clear hb
  have l0YW := (unhide YW).at 0 _ rfl
  have l1YW := (unhide YW).at 1 _ rfl
  have l2YW := (unhide YW).at 2 _ rfl
  have ltYW : w5.heap.size < w26.heap.size := by omega
  have l0YG := (unhide YG).at 0 _ rfl
  have l1YG := (unhide YG).at 1 _ rfl
  have l2YG := (unhide YG).at 2 _ rfl
  have ltYG : w9.heap.size < w26.heap.size := by omega
  simp only [List.getElem_toArray, List.getElem_cons_zero, List.getElem_cons_succ] at l0YW l1YW l2YW l0YG l1YG l2YG
  go_wp2_with fail
  clear l0YW l1YW l2YW ltYW l0YG l1YG l2YG ltYG
  go_ret
  exact ⟨rfl, unhide HB⟩


set_option maxRecDepth 10000 in
set_option maxHeartbeats 1000000 in
theorem lawover_BuildIvf (v0 : Value) (x0 : List DCenter) (v1 : Value) (x1 : List DItem) (w : World) (A0 : (Lay.sl Lay.tCenter).Reads w [v0] x0) (A1 : (Lay.sl Lay.tItem).Reads w [v1] x1) (NS : 1048576 < (Lay.sl Lay.tCenter).sz x0 + (Lay.sl Lay.tItem).sz x1) :
    Calls Try.prog 4 #[v0, v1] w fun e w' => e = .returned (.bool true) ∧ Below w.heap.size w w' := by
  obtain ⟨ao0, cp0, rfl⟩ := open_sl A0
  obtain ⟨ao1, cp1, rfl⟩ := open_sl A1
  have HA0 := hide A0.liesIn
  clear A0
  have HA1 := hide A1.liesIn
  clear A1
  have HB := hide (Below.refl w.heap.size w)
  go_enter Try.func4, Try.ntmps4
  go_wp2_with fail
  refine (sz_CenterS _ x0 (1048576) w (unhide HA0).reads (by omega)).mono ?_
  rintro e w1 ⟨rfl, hb⟩
  replace HA0 := hide ((unhide HA0).later hb)
  replace HA1 := hide ((unhide HA1).later hb)
  have Zw1 : w.heap.size ≤ w1.heap.size := hb.size
  replace HB := hide ((unhide HB).trans (hb.mono (by omega)))
  clear hb
  by_cases hs0 : (Lay.sl Lay.tCenter).sz x0 ≤ 1048576
  · rw [szR_ok hs0]
    have hq0 : decide (((1048576 - (Lay.sl Lay.tCenter).sz x0 : Nat) : Int) < 0) = false := by simp
    go_wp2_with fail
    clear hq0
    refine (sz_ItemS _ x1 (1048576 - (Lay.sl Lay.tCenter).sz x0) w1 (unhide HA1).reads (by omega)).mono ?_
    rintro e w2 ⟨rfl, hb⟩
    replace HA0 := hide ((unhide HA0).later hb)
    replace HA1 := hide ((unhide HA1).later hb)
    have Zw2 : w1.heap.size ≤ w2.heap.size := hb.size
    replace HB := hide ((unhide HB).trans (hb.mono (by omega)))
    clear hb
    rw [szR_many (by omega)]
    go_wp2_with fail
    go_ret
    exact ⟨rfl, unhide HB⟩
  · rw [szR_many (by omega)]
    go_wp2_with fail
    go_ret
    exact ⟨rfl, unhide HB⟩

end Go.Proofs.Ytfgadegpdknocaa

namespace Go.Proofs.Ytfgadegpdknocaa
open Go.RowKit

structure DCentersResult where
  code : Int
  centers : List DCenter

def Lay.tCentersResult : Lay DCentersResult := Lay.via (Lay.pair Lay.int (Lay.sl Lay.tCenter)) (fun x => (x.code, x.centers)) (fun p => ⟨p.1, p.2⟩)

theorem lies_CentersResult {w : World} {cs : List Value} {x : DCentersResult} {bl : List Nat} : Lay.tCentersResult.lies w cs x bl ↔ ∃ (a1 : Option Addr) (d1 : Nat) (b1 : List Nat), cs = [.int .i64 x.code, .slice a1 x.centers.length d1] ∧ bl = b1 ∧ (Lit.int .i64 x.code).wf = true ∧ (Lay.sl Lay.tCenter).lies w [.slice a1 x.centers.length d1] x.centers b1 := by
  constructor
  · intro h
    obtain ⟨c0_, r0_, e0_, s0_, rfl, rfl, h0, h1⟩ := h
    obtain ⟨rfl, w0, rfl⟩ := h0
    have k1 := h1
    obtain ⟨a1, d1, rfl, -⟩ := k1
    exact ⟨a1, d1, s0_, by simp, by simp, w0, h1⟩
  · rintro ⟨a1, d1, b1, rfl, hbl, w0, l1⟩
    rw [hbl]
    exact ⟨[.int .i64 x.code], [.slice a1 x.centers.length d1], [], b1, rfl, by simp, ⟨rfl, w0, rfl⟩, l1⟩

theorem open_CentersResult {w : World} {cs : List Value} {x : DCentersResult} (h : Lay.tCentersResult.Reads w cs x) : ∃ (a1 : Option Addr) (d1 : Nat), cs = [.int .i64 x.code, .slice a1 x.centers.length d1] ∧ (Lay.sl Lay.tCenter).Reads w [.slice a1 x.centers.length d1] x.centers := by
  obtain ⟨bl, h⟩ := h
  obtain ⟨a1, d1, b1, rfl, -, w0, l1⟩ := lies_CentersResult.1 h
  exact ⟨a1, d1, rfl, ⟨_, l1⟩⟩

end Go.Proofs.Ytfgadegpdknocaa

namespace Go.Proofs.Ytfgadegpdknocaa
open Go.RowKit

set_option maxHeartbeats 400000 in
theorem implFault_len (ao : Option Addr) (n cap : Nat) (w : World) (h : n ≠ 3) :
    Calls Try.prog 90 #[.slice ao n cap] w fun e w' => e = .returned (.int .i64 1) ∧ w' = w := by
  have h3 : ((n : Int) != 3) = true := by rw [bne_iff_ne]; omega
  go_enter Try.func90, Try.ntmps90
  go_wp2
  go_ret
  exact ⟨rfl, rfl⟩

set_option maxHeartbeats 400000 in
theorem implFault_three (b off cap : Nat) (zs : List Int) (w : World) (h : zs.length = 3) (hc : ∀ j, j < 3 → w.cell? ⟨b, off + j, none⟩ = some (.int .i64 (zs.getD j 0))) :
    Calls Try.prog 90 #[.slice (some ⟨b, off, none⟩) 3 cap] w fun e w' => e = .returned (.int .i64 (vecFault zs)) ∧ w' = w := by
  go_enter Try.func90, Try.ntmps90
  go_wp2
  go_loop [10] (fun i => ∃ k : Nat, k ≤ 3 ∧ i = .int .i64 k ∧ ∀ j, j < k → partB (zs.getD j 0) = true) (fun i => 3 - (intOf i).toNat)
  case atStart => exact ⟨0, Nat.zero_le _, rfl, fun j hj => by omega⟩
  case round =>
    obtain ⟨k, hk, rfl, hg⟩ := hrel
    have HG : Hid (∀ j, j < k → partB (zs.getD j 0) = true) := hg
    have HL : Hid (zs.length = 3) := h
    clear hg h
    by_cases hlt : k < 3
    · have hcx : w.cell? ⟨b, off + k, none⟩ = some (.int .i64 (zs.getD k 0)) := hc k hlt
      obtain ⟨z, hz⟩ : ∃ z, z = zs.getD k 0 := ⟨_, rfl⟩
      rw [← hz] at hcx
      have HZ : Hid (z = zs.getD k 0) := hz
      clear hz hc
      cases hp : partB z with
      | true =>
        have hb := partB_true hp
        have HP : Hid (partB z = true) := hp
        clear hp
        obtain ⟨hb1, hb2⟩ := hb
        go_wp2
        go_round
        case rel =>
          refine ⟨k + 1, by omega, by go_num, fun j hj => ?_⟩
          by_cases hjk : j < k
          · exact HG.out j hjk
          · rw [show j = k by omega, ← HZ.out]; exact HP.out
        case measure => simp [intOf]; omega
      | false =>
        have HV : Hid (vecFault zs = 3) := vecFault_bad HL.out k hlt (by rw [← HZ.out]; exact hp)
        have hb := partB_false hp
        clear hp
        rcases hb with hb | hb
        · go_wp2
          go_ret
          exact ⟨by rw [HV.out]; rfl, rfl⟩
        · have hb1 : -1000 ≤ z := by omega
          have hd : decide (z ≤ 1000) = false := by simp; omega
          go_wp2
          go_ret
          exact ⟨by rw [HV.out]; rfl, rfl⟩
    · have HV : Hid (vecFault zs = 0) := vecFault_ok HL.out (fun j hj => HG.out j (by omega))
      go_wp2
      go_ret
      exact ⟨by rw [HV.out]; rfl, rfl⟩

set_option maxHeartbeats 400000 in
theorem modelFault_len (ao : Option Addr) (n cap : Nat) (w : World) (h : n ≠ 3) :
    Calls Try.prog 70 #[.slice ao n cap] w fun e w' => e = .returned (.int .i64 1) ∧ w' = w := by
  have h3 : ((n : Int) != 3) = true := by rw [bne_iff_ne]; omega
  go_enter Try.func70, Try.ntmps70
  go_wp2
  go_ret
  exact ⟨rfl, rfl⟩

set_option maxHeartbeats 400000 in
theorem modelFault_three (b off cap : Nat) (zs : List Int) (w : World) (h : zs.length = 3) (hc : ∀ j, j < 3 → w.cell? ⟨b, off + j, none⟩ = some (.int .i64 (zs.getD j 0))) :
    Calls Try.prog 70 #[.slice (some ⟨b, off, none⟩) 3 cap] w fun e w' => e = .returned (.int .i64 (vecFault zs)) ∧ w' = w := by
  go_enter Try.func70, Try.ntmps70
  go_wp2
  go_loop [3] (fun i => ∃ k : Nat, k ≤ 3 ∧ i = .int .i64 k ∧ ∀ j, j < k → partB (zs.getD j 0) = true) (fun i => 3 - (intOf i).toNat)
  case atStart => exact ⟨0, Nat.zero_le _, rfl, fun j hj => by omega⟩
  case round =>
    obtain ⟨k, hk, rfl, hg⟩ := hrel
    have HG : Hid (∀ j, j < k → partB (zs.getD j 0) = true) := hg
    have HL : Hid (zs.length = 3) := h
    clear hg h
    by_cases hlt : k < 3
    · have hcx : w.cell? ⟨b, off + k, none⟩ = some (.int .i64 (zs.getD k 0)) := hc k hlt
      obtain ⟨z, hz⟩ : ∃ z, z = zs.getD k 0 := ⟨_, rfl⟩
      rw [← hz] at hcx
      have HZ : Hid (z = zs.getD k 0) := hz
      clear hz hc
      cases hp : partB z with
      | true =>
        have hb := partB_true hp
        have HP : Hid (partB z = true) := hp
        clear hp
        obtain ⟨hb1, hb2⟩ := hb
        go_wp2
        go_round
        case rel =>
          refine ⟨k + 1, by omega, by go_num, fun j hj => ?_⟩
          by_cases hjk : j < k
          · exact HG.out j hjk
          · rw [show j = k by omega, ← HZ.out]; exact HP.out
        case measure => simp [intOf]; omega
      | false =>
        have HV : Hid (vecFault zs = 3) := vecFault_bad HL.out k hlt (by rw [← HZ.out]; exact hp)
        have hb := partB_false hp
        clear hp
        rcases hb with hb | hb
        · go_wp2
          go_ret
          exact ⟨by rw [HV.out]; rfl, rfl⟩
        · have hb1 : -1000 ≤ z := by omega
          have hd : decide (z ≤ 1000) = false := by simp; omega
          go_wp2
          go_ret
          exact ⟨by rw [HV.out]; rfl, rfl⟩
    · have HV : Hid (vecFault zs = 0) := vecFault_ok HL.out (fun j hj => HG.out j (by omega))
      go_wp2
      go_ret
      exact ⟨by rw [HV.out]; rfl, rfl⟩


/-- VecFault of the program. -/
theorem implFault (v : Value) (zs : List Int) (w : World) (h : IsInts w v zs) :
    Calls Try.prog 90 #[v] w fun e w' => e = .returned (.int .i64 (vecFault zs)) ∧ w' = w := by
  obtain ⟨ao, cap, rfl, hwf, hc⟩ := h
  by_cases h3 : zs.length = 3
  · obtain ⟨b, off, rfl, hc1⟩ := hc (by omega)
    rw [h3] at hc1 ⊢
    exact implFault_three b off cap zs w h3 hc1
  · rw [vecFault_len h3]
    exact implFault_len ao zs.length cap w h3

/-- VecFault of the model. -/
theorem modelFault (v : Value) (zs : List Int) (w : World) (h : IsInts w v zs) :
    Calls Try.prog 70 #[v] w fun e w' => e = .returned (.int .i64 (vecFault zs)) ∧ w' = w := by
  obtain ⟨ao, cap, rfl, hwf, hc⟩ := h
  by_cases h3 : zs.length = 3
  · obtain ⟨b, off, rfl, hc1⟩ := hc (by omega)
    rw [h3] at hc1 ⊢
    exact modelFault_three b off cap zs w h3 hc1
  · rw [vecFault_len h3]
    exact modelFault_len ao zs.length cap w h3

end Go.Proofs.Ytfgadegpdknocaa

namespace Go.Proofs.Ytfgadegpdknocaa
open Go.RowKit

theorem bcell {W w1 : World} (hb : Below W.heap.size W w1) : (∀ b o, b < W.heap.size → w1.cell? ⟨b, o, none⟩ = W.cell? ⟨b, o, none⟩) ∧ (∀ b o, b < W.heap.size → w1.frozen? ⟨b, o, none⟩ = W.frozen? ⟨b, o, none⟩) :=
  ⟨fun b o h => hb.cell (p := ⟨b, o, none⟩) h, fun b o h => hb.frozen (p := ⟨b, o, none⟩) h⟩

/-- Two blocks of three cells that were laid ahead of a call are there behind it, and may be written. -/
theorem two_kept {w w1 : World} {T : TypeId} {x0 x1 x2 y0 y1 y2 : Value} (hb : Below ((w.alloc (.cells #[x0, x1, x2] T)).alloc (.cells #[y0, y1, y2] T)).heap.size ((w.alloc (.cells #[x0, x1, x2] T)).alloc (.cells #[y0, y1, y2] T)) w1) :
    (w1.cell? ⟨w.heap.size, 0, none⟩ = some x0 ∧ w1.cell? ⟨w.heap.size, 1, none⟩ = some x1 ∧ w1.cell? ⟨w.heap.size, 2, none⟩ = some x2) ∧
    (w1.cell? ⟨w.heap.size + 1, 0, none⟩ = some y0 ∧ w1.cell? ⟨w.heap.size + 1, 1, none⟩ = some y1 ∧ w1.cell? ⟨w.heap.size + 1, 2, none⟩ = some y2) ∧
    (∀ o, w1.frozen? ⟨w.heap.size, o, none⟩ = false) ∧ (∀ o, w1.frozen? ⟨w.heap.size + 1, o, none⟩ = false) := by
  refine ⟨⟨?_, ?_, ?_⟩, ⟨?_, ?_, ?_⟩, fun o => ?_, fun o => ?_⟩
  all_goals first | rw [hb.cell (by simp [World.size_alloc]; try omega)] | rw [hb.frozen (by simp [World.size_alloc]; try omega)]
  all_goals simp [go_sem]

/-- Three numbers as an array. -/
def arr3 (x y z : Int) : Value := .agg #[.int .i64 x, .int .i64 y, .int .i64 z]

theorem IsInts.three {w : World} {v : Value} {zs : List Int} (h : IsInts w v zs) (h3 : zs.length = 3) :
    ∃ b off cap x y z, zs = [x, y, z] ∧ v = .slice (some ⟨b, off, none⟩) 3 cap ∧ b < w.heap.size ∧ w.cell? ⟨b, off, none⟩ = some (.int .i64 x) ∧ w.cell? ⟨b, off + 1, none⟩ = some (.int .i64 y) ∧ w.cell? ⟨b, off + 2, none⟩ = some (.int .i64 z) := by
  obtain ⟨ao, cap, rfl, hwf, hc⟩ := h
  match zs, h3 with
  | [x, y, z], _ =>
    obtain ⟨b, off, rfl, hc1⟩ := hc (by simp)
    have c0 := hc1 0 (by simp)
    have c1 := hc1 1 (by simp)
    have c2 := hc1 2 (by simp)
    exact ⟨b, off, cap, x, y, z, rfl, rfl, World.block_lt_of_cell? _ _ c0, by simpa using c0, by simpa using c1, by simpa using c2⟩

set_option maxHeartbeats 400000 in
theorem vectorOf_bad (v : Value) (zs : List Int) (w : World) (h : IsInts w v zs) (hf : vecFault zs ≠ 0) :
    Calls Try.prog 93 #[v] w fun e w' => e = .returned (.tuple #[arr3 0 0 0, .int .i64 (vecFault zs)]) ∧ Below w.heap.size w w' := by
  go_enter Try.func93, Try.ntmps93
  go_wp2_with fail
  refine (implFault v zs _ (h.later (((Below.refl _ _).alloc (Nat.le_refl _) _).alloc (by simp) _))).mono ?_
  rintro e w' ⟨rfl, rfl⟩
  have hne : (vecFault zs != 0) = true := by rw [bne_iff_ne]; exact hf
  go_wp2_with fail
  refine bodyPost_ret (v := .tuple #[arr3 0 0 0, .int .i64 (vecFault zs)]) (by simp [results, Try.results93, go_sem, arr3]) rfl ⟨rfl, ?_⟩
  exact ((Below.refl _ _).alloc (Nat.le_refl _) _).alloc (by simp) _

set_option maxHeartbeats 1000000 in
theorem vectorOf_three (b off cap : Nat) (x y z : Int) (w : World) (hbl : b < w.heap.size) (c0 : w.cell? ⟨b, off, none⟩ = some (.int .i64 x)) (c1 : w.cell? ⟨b, off + 1, none⟩ = some (.int .i64 y)) (c2 : w.cell? ⟨b, off + 2, none⟩ = some (.int .i64 z))
    (h : IsInts w (.slice (some ⟨b, off, none⟩) 3 cap) [x, y, z]) (hf : vecFault [x, y, z] = 0) :
    Calls Try.prog 93 #[.slice (some ⟨b, off, none⟩) 3 cap] w fun e w' => e = .returned (.tuple #[arr3 x y z, .int .i64 0]) ∧ Below w.heap.size w w' := by
  go_enter Try.func93, Try.ntmps93
  go_wp2_with fail
  refine (implFault _ [x, y, z] _ (h.later (((Below.refl _ _).alloc (Nat.le_refl _) _).alloc (by simp) _))).mono ?_
  rintro e w' ⟨rfl, rfl⟩
  rw [hf]
  clear h hf
  go_wp2_with fail
  refine wp_loop_rounds 4 ?_
  rw [rounds_succ]
  go_wp2
  rw [rounds_succ]
  go_wp2
  rw [rounds_succ]
  go_wp2
  rw [rounds_succ]
  go_wp2
  refine bodyPost_ret (v := .tuple #[arr3 x y z, .int .i64 0]) (by simp [results, Try.results93, go_sem, arr3]) rfl ⟨rfl, ?_⟩
  exact ((Below.refl _ _).alloc (Nat.le_refl _) _).alloc (by simp) _

theorem vectorOf_ok (v : Value) (x y z : Int) (w : World) (h : IsInts w v [x, y, z]) (hf : vecFault [x, y, z] = 0) :
    Calls Try.prog 93 #[v] w fun e w' => e = .returned (.tuple #[arr3 x y z, .int .i64 0]) ∧ Below w.heap.size w w' := by
  obtain ⟨b, off, cap, x', y', z', he, rfl, hbl, c0, c1, c2⟩ := h.three rfl
  simp only [List.cons.injEq, and_true] at he
  obtain ⟨rfl, rfl, rfl⟩ := he
  exact vectorOf_three b off cap x y z w hbl c0 c1 c2 h hf

end Go.Proofs.Ytfgadegpdknocaa

namespace Go.Proofs.Ytfgadegpdknocaa
open Go.RowKit

set_option maxHeartbeats 400000 in
theorem pairOf_bad1 (v1 v2 : Value) (zs : List Int) (w : World) (h : IsInts w v1 zs) (hf : vecFault zs ≠ 0) :
    Calls Try.prog 149 #[v1, v2] w fun e w' => e = .returned (.tuple #[arr3 0 0 0, arr3 0 0 0, .int .i64 (vecFault zs)]) ∧ Below w.heap.size w w' := by
  have hne : (vecFault zs != 0) = true := by rw [bne_iff_ne]; exact hf
  go_enter Try.func149, Try.ntmps149
  go_wp2_with fail
  refine (vectorOf_bad v1 zs _ (h.later (((Below.refl _ _).alloc (Nat.le_refl _) _).alloc (by simp) _)) hf).mono ?_
  rintro e w1 ⟨rfl, hb⟩
  obtain ⟨p0, p1, p2, p3⟩ := two_kept hb
  have hz : w.heap.size + 1 < w1.heap.size := by have := hb.size; simp at this; omega
  have hz0 : w.heap.size < w1.heap.size := by omega
  have hB1 : Below w.heap.size w w1 := (((Below.refl _ _).alloc (Nat.le_refl _) _).alloc (by simp) _).trans (hb.mono (by simp; omega))
  have HB := hide hB1
  clear hb hB1
  simp only [arr3]
  go_wp2_with fail
  refine bodyPost_ret (v := .tuple #[arr3 0 0 0, arr3 0 0 0, .int .i64 (vecFault zs)]) (by simp [results, Try.results149, go_sem, arr3, p0, p1, hz, hz0]) rfl ⟨rfl, ?_⟩
  exact ((((((((unhide HB).setCell (by simp) _).setCell (by simp) _).setCell (by simp) _).setCell (by simp) _).setCell (by simp) _).setCell (by simp) _).alloc (by simp; omega) _)

set_option maxHeartbeats 400000 in
theorem pairOf_bad2 (v1 v2 : Value) (x y z : Int) (zs : List Int) (w : World) (h : IsInts w v1 [x, y, z]) (h2 : IsInts w v2 zs) (hf1 : vecFault [x, y, z] = 0) (hf : vecFault zs ≠ 0) :
    Calls Try.prog 149 #[v1, v2] w fun e w' => e = .returned (.tuple #[arr3 0 0 0, arr3 0 0 0, .int .i64 (vecFault zs)]) ∧ Below w.heap.size w w' := by
  have hne : (vecFault zs != 0) = true := by rw [bne_iff_ne]; exact hf
  go_enter Try.func149, Try.ntmps149
  go_wp2_with fail
  refine (vectorOf_ok v1 x y z _ (h.later (((Below.refl _ _).alloc (Nat.le_refl _) _).alloc (by simp) _)) hf1).mono ?_
  rintro e w1 ⟨rfl, hb⟩
  obtain ⟨p0, p1, p2, p3⟩ := two_kept hb
  have hz : w.heap.size + 1 < w1.heap.size := by have := hb.size; simp at this; omega
  have hz0 : w.heap.size < w1.heap.size := by omega
  have hB1 : Below w.heap.size w w1 := (((Below.refl _ _).alloc (Nat.le_refl _) _).alloc (by simp) _).trans (hb.mono (by simp; omega))
  have HB := hide hB1
  clear hb hB1 hf1
  simp only [arr3]
  go_wp2_with fail
  refine (vectorOf_bad v2 zs _ ((h2.later (unhide HB)).later ((Below.refl _ _).alloc (Nat.le_refl _) _)) hf).mono ?_
  rintro e w2 ⟨rfl, hb⟩
  obtain ⟨hc, hfz⟩ := bcell hb
  have hz2 : w1.heap.size < w2.heap.size := by have := hb.size; simp at this; omega
  have hz3 : w.heap.size < w2.heap.size := by omega
  have hz4 : w.heap.size + 1 < w2.heap.size := by omega
  have hB2 : Below w.heap.size w w2 := ((unhide HB).alloc (by omega) _).trans (hb.mono (by simp; omega))
  have q0 : ∀ o, w2.frozen? ⟨w.heap.size, o, none⟩ = false := fun o => (hb.frozen (p := ⟨w.heap.size, o, none⟩) (by simp; omega)).trans (by simp [go_sem, p2, hz0])
  have q1 : ∀ o, w2.frozen? ⟨w.heap.size + 1, o, none⟩ = false := fun o => (hb.frozen (p := ⟨w.heap.size + 1, o, none⟩) (by simp; omega)).trans (by simp [go_sem, p3, hz])
  have q2 : ∀ o, w2.cell? ⟨w.heap.size, o, none⟩ = w1.cell? ⟨w.heap.size, o, none⟩ := fun o => (hb.cell (p := ⟨w.heap.size, o, none⟩) (by simp; omega)).trans (by simp [go_sem, hz0])
  have q3 : ∀ o, w2.cell? ⟨w.heap.size + 1, o, none⟩ = w1.cell? ⟨w.heap.size + 1, o, none⟩ := fun o => (hb.cell (p := ⟨w.heap.size + 1, o, none⟩) (by simp; omega)).trans (by simp [go_sem, hz])
  have HB2 := hide hB2
  clear hb hB2 hc hfz
  simp only [arr3]
  go_wp2_with fail
  refine bodyPost_ret (v := .tuple #[arr3 0 0 0, arr3 0 0 0, .int .i64 (vecFault zs)]) (by simp [results, Try.results149, go_sem, arr3, p0, p1, q2, q3, hz3, hz4]) rfl ⟨rfl, ?_⟩
  exact ((((((((unhide HB2).setCell (by simp) _).setCell (by simp) _).setCell (by simp) _).setCell (by simp) _).setCell (by simp) _).setCell (by simp) _).alloc (by simp; omega) _)

set_option maxHeartbeats 1000000 in
theorem pairOf_ok (v1 v2 : Value) (x y z a b c : Int) (w : World) (h : IsInts w v1 [x, y, z]) (h2 : IsInts w v2 [a, b, c]) (hf1 : vecFault [x, y, z] = 0) (hf : vecFault [a, b, c] = 0) :
    Calls Try.prog 149 #[v1, v2] w fun e w' => e = .returned (.tuple #[arr3 x y z, arr3 a b c, .int .i64 0]) ∧ Below w.heap.size w w' := by
  go_enter Try.func149, Try.ntmps149
  go_wp2_with fail
  refine (vectorOf_ok v1 x y z _ (h.later (((Below.refl _ _).alloc (Nat.le_refl _) _).alloc (by simp) _)) hf1).mono ?_
  rintro e w1 ⟨rfl, hb⟩
  obtain ⟨p0, p1, p2, p3⟩ := two_kept hb
  have hz : w.heap.size + 1 < w1.heap.size := by have := hb.size; simp at this; omega
  have hz0 : w.heap.size < w1.heap.size := by omega
  have hB1 : Below w.heap.size w w1 := (((Below.refl _ _).alloc (Nat.le_refl _) _).alloc (by simp) _).trans (hb.mono (by simp; omega))
  have HB := hide hB1
  clear hb hB1 hf1
  simp only [arr3]
  go_wp2_with fail
  refine (vectorOf_ok v2 a b c _ ((h2.later (unhide HB)).later ((Below.refl _ _).alloc (Nat.le_refl _) _)) hf).mono ?_
  rintro e w2 ⟨rfl, hb⟩
  have hz2 : w1.heap.size < w2.heap.size := by have := hb.size; simp at this; omega
  have hz3 : w.heap.size < w2.heap.size := by omega
  have hz4 : w.heap.size + 1 < w2.heap.size := by omega
  have hB2 : Below w.heap.size w w2 := ((unhide HB).alloc (by omega) _).trans (hb.mono (by simp; omega))
  have q0 : ∀ o, w2.frozen? ⟨w.heap.size, o, none⟩ = false := fun o => (hb.frozen (p := ⟨w.heap.size, o, none⟩) (by simp; omega)).trans (by simp [go_sem, p2, hz0])
  have q1 : ∀ o, w2.frozen? ⟨w.heap.size + 1, o, none⟩ = false := fun o => (hb.frozen (p := ⟨w.heap.size + 1, o, none⟩) (by simp; omega)).trans (by simp [go_sem, p3, hz])
  have q2 : ∀ o, w2.cell? ⟨w.heap.size, o, none⟩ = w1.cell? ⟨w.heap.size, o, none⟩ := fun o => (hb.cell (p := ⟨w.heap.size, o, none⟩) (by simp; omega)).trans (by simp [go_sem, hz0])
  have q3 : ∀ o, w2.cell? ⟨w.heap.size + 1, o, none⟩ = w1.cell? ⟨w.heap.size + 1, o, none⟩ := fun o => (hb.cell (p := ⟨w.heap.size + 1, o, none⟩) (by simp; omega)).trans (by simp [go_sem, hz])
  have r0 : w2.cell? ⟨w1.heap.size, 0, none⟩ = some (.int .i64 x) := (hb.cell (p := ⟨w1.heap.size, 0, none⟩) (by simp)).trans (by simp [go_sem])
  have r1 : w2.cell? ⟨w1.heap.size, 1, none⟩ = some (.int .i64 y) := (hb.cell (p := ⟨w1.heap.size, 1, none⟩) (by simp)).trans (by simp [go_sem])
  have r2 : w2.cell? ⟨w1.heap.size, 2, none⟩ = some (.int .i64 z) := (hb.cell (p := ⟨w1.heap.size, 2, none⟩) (by simp)).trans (by simp [go_sem])
  have hn0 : ¬ w1.heap.size = w.heap.size := by omega
  have hn1 : ¬ w1.heap.size = w.heap.size + 1 := by omega
  have hn2 : ¬ w2.heap.size = w.heap.size := by omega
  have hn3 : ¬ w2.heap.size = w.heap.size + 1 := by omega
  have HB2 := hide hB2
  clear hb hB2
  simp only [arr3]
  go_wp2_with fail
  go_region
  go_wp2_with fail
  refine bodyPost_ret (v := .tuple #[arr3 x y z, arr3 a b c, .int .i64 0]) (by simp [results, Try.results149, go_sem, arr3, p0, p1, q2, q3, hz3, hz4]) rfl ⟨rfl, ?_⟩
  refine Below.drew ?_
  exact ((((((((unhide HB2).setCell (by simp) _).setCell (by simp) _).setCell (by simp) _).setCell (by simp) _).setCell (by simp) _).setCell (by simp) _).alloc (by simp; omega) _)

end Go.Proofs.Ytfgadegpdknocaa

namespace Go.Proofs.Ytfgadegpdknocaa
open Go.RowKit


theorem sq_bd (x a : Int) (h1 : -1000 ≤ x) (h2 : x ≤ 1000) (h3 : -1000 ≤ a) (h4 : a ≤ 1000) : 0 ≤ (x - a) * (x - a) ∧ (x - a) * (x - a) ≤ 4000000 := by
  have e1 : -2000 ≤ x - a := by omega
  have e2 : x - a ≤ 2000 := by omega
  generalize x - a = d at *
  constructor
  · by_cases h : 0 ≤ d
    · exact Int.mul_nonneg h h
    · exact Int.mul_nonneg_of_nonpos_of_nonpos (by omega) (by omega)
  · by_cases h : 0 ≤ d
    · calc d * d ≤ 2000 * 2000 := Int.mul_le_mul e2 e2 h (by omega)
        _ = 4000000 := rfl
    · have h5 : d * d = (-d) * (-d) := by rw [Int.neg_mul_neg]
      rw [h5]
      calc (-d) * (-d) ≤ 2000 * 2000 := Int.mul_le_mul (by omega) (by omega) (by omega) (by omega)
        _ = 4000000 := rfl

theorem mul_bd (x a : Int) (h1 : -1000 ≤ x) (h2 : x ≤ 1000) (h3 : -1000 ≤ a) (h4 : a ≤ 1000) : -1000000 ≤ x * a ∧ x * a ≤ 1000000 := by
  have k1 : 0 ≤ (x + 1000) * (a + 1000) := Int.mul_nonneg (by omega) (by omega)
  have k2 : 0 ≤ (1000 - x) * (1000 - a) := Int.mul_nonneg (by omega) (by omega)
  have k3 : 0 ≤ (1000 - x) * (a + 1000) := Int.mul_nonneg (by omega) (by omega)
  have k4 : 0 ≤ (x + 1000) * (1000 - a) := Int.mul_nonneg (by omega) (by omega)
  have e1 : (x + 1000) * (a + 1000) = x * a + 1000 * x + 1000 * a + 1000000 := by rw [Int.add_mul, Int.mul_add, Int.mul_add]; omega
  have e2 : (1000 - x) * (1000 - a) = 1000000 - 1000 * a - 1000 * x + x * a := by rw [Int.sub_mul, Int.mul_sub, Int.mul_sub]; omega
  have e3 : (1000 - x) * (a + 1000) = 1000 * a + 1000000 - x * a - 1000 * x := by rw [Int.sub_mul, Int.mul_add, Int.mul_add]; omega
  have e4 : (x + 1000) * (1000 - a) = 1000 * x - x * a + 1000000 - 1000 * a := by rw [Int.add_mul, Int.mul_sub, Int.mul_sub]; omega
  rw [e1] at k1
  rw [e2] at k2
  rw [e3] at k3
  rw [e4] at k4
  omega

/-- ScoreOf, where pairOf tells a code. -/
theorem implScore_code (v1 v2 : Value) (k : Int) (w : World) (hp : Hid (∀ W, Below w.heap.size w W → Calls Try.prog 149 #[v1, v2] W fun e w' => e = .returned (.tuple #[arr3 0 0 0, arr3 0 0 0, .int .i64 k]) ∧ Below W.heap.size W w')) (hk : k ≠ 0) :
    Calls Try.prog 131 #[v1, v2] w fun e w' => e = .returned (intRes k 0) ∧ Below w.heap.size w w' := by
  have hne : (k != 0) = true := by rw [bne_iff_ne]; exact hk
  go_enter Try.func131, Try.ntmps131
  go_wp2_with fail
  refine (unhide hp _ ((Below.refl _ _).alloc (Nat.le_refl _) _)).mono ?_
  rintro e w1 ⟨rfl, hb⟩
  have hz : w.heap.size < w1.heap.size := by have := hb.size; simp at this; omega
  have p0 : w1.cell? ⟨w.heap.size, 0, none⟩ = some (.int .i64 0) := (hb.cell (p := ⟨w.heap.size, 0, none⟩) (by simp)).trans (by simp [go_sem])
  have p1 : w1.cell? ⟨w.heap.size, 1, none⟩ = some (.int .i64 0) := (hb.cell (p := ⟨w.heap.size, 1, none⟩) (by simp)).trans (by simp [go_sem])
  have p2 : ∀ o, w1.frozen? ⟨w.heap.size, o, none⟩ = false := fun o => (hb.frozen (p := ⟨w.heap.size, o, none⟩) (by simp)).trans (by simp [go_sem])
  have HB := hide (((Below.refl w.heap.size w).alloc (Nat.le_refl _) _).trans (hb.mono (by simp)))
  clear hb
  simp only [arr3]
  go_wp2_with fail
  refine bodyPost_ret (v := intRes k 0) (by simp [results, Try.results131, go_sem, intRes, p0, p1, hz]) rfl ⟨rfl, ?_⟩
  exact (((((unhide HB).setCell (by simp) _).setCell (by simp) _).alloc (by simp; omega) _).alloc (by simp; omega) _)

set_option maxHeartbeats 1000000 in
theorem implScore_ok (v1 v2 : Value) (x y z a b c : Int) (w : World) (h : IsInts w v1 [x, y, z]) (h2 : IsInts w v2 [a, b, c]) (hf1 : vecFault [x, y, z] = 0) (hf : vecFault [a, b, c] = 0) :
    Calls Try.prog 131 #[v1, v2] w fun e w' => e = .returned (intRes 0 ((x - a) * (x - a) + (y - b) * (y - b) + (z - c) * (z - c))) ∧ Below w.heap.size w w' := by
  obtain ⟨⟨x1, x2⟩, ⟨y1, y2⟩, ⟨z1, z2⟩⟩ := fault3 hf1
  obtain ⟨⟨a1, a2⟩, ⟨b1, b2⟩, ⟨c1, c2⟩⟩ := fault3 hf
  obtain ⟨m1, m2⟩ := sq_bd x a x1 x2 a1 a2
  obtain ⟨m3, m4⟩ := sq_bd y b y1 y2 b1 b2
  obtain ⟨m5, m6⟩ := sq_bd z c z1 z2 c1 c2
  go_enter Try.func131, Try.ntmps131
  go_wp2_with fail
  refine (pairOf_ok v1 v2 x y z a b c _ (h.later ((Below.refl _ _).alloc (Nat.le_refl _) _)) (h2.later ((Below.refl _ _).alloc (Nat.le_refl _) _)) hf1 hf).mono ?_
  rintro e w1 ⟨rfl, hb⟩
  have hz : w.heap.size < w1.heap.size := by have := hb.size; simp at this; omega
  have hz1 : w.heap.size < w1.heap.size + 1 := by omega
  have hn0 : ¬ w1.heap.size = w.heap.size := by omega
  have hn1 : ¬ w1.heap.size + 1 = w.heap.size := by omega
  have p0 : w1.cell? ⟨w.heap.size, 0, none⟩ = some (.int .i64 0) := (hb.cell (p := ⟨w.heap.size, 0, none⟩) (by simp)).trans (by simp [go_sem])
  have p1 : w1.cell? ⟨w.heap.size, 1, none⟩ = some (.int .i64 0) := (hb.cell (p := ⟨w.heap.size, 1, none⟩) (by simp)).trans (by simp [go_sem])
  have p2 : ∀ o, w1.frozen? ⟨w.heap.size, o, none⟩ = false := fun o => (hb.frozen (p := ⟨w.heap.size, o, none⟩) (by simp)).trans (by simp [go_sem])
  have HB := hide (((Below.refl w.heap.size w).alloc (Nat.le_refl _) _).trans (hb.mono (by simp)))
  clear hb hf hf1
  simp only [arr3]
  go_wp2_with fail
  refine wp_loop_rounds 4 ?_
  rw [rounds_succ]
  go_wp2
  go_quiet (fail)
  go_wp2
  rw [rounds_succ]
  go_wp2
  go_quiet (fail)
  go_wp2
  rw [rounds_succ]
  go_wp2
  go_quiet (fail)
  go_wp2
  rw [rounds_succ]
  go_wp2
  refine bodyPost_ret (v := intRes 0 ((x - a) * (x - a) + (y - b) * (y - b) + (z - c) * (z - c))) (by simp [results, Try.results131, go_sem, intRes, p0, p1, hz, hz1]) rfl ⟨rfl, ?_⟩
  exact (below_drawn (((unhide HB).alloc (by omega) _).alloc (by simp; omega) _) _).setCell (by simp) _ |>.setCell (by simp) _


end Go.Proofs.Ytfgadegpdknocaa

namespace Go.Proofs.Ytfgadegpdknocaa
open Go.RowKit

set_option maxHeartbeats 1000000 in
theorem modelSum (b0 off cap b2 off2 cap2 : Nat) (x y z a b c : Int) (w : World) (c0 : w.cell? ⟨b0, off, none⟩ = some (.int .i64 x)) (c1 : w.cell? ⟨b0, off + 1, none⟩ = some (.int .i64 y)) (c2 : w.cell? ⟨b0, off + 2, none⟩ = some (.int .i64 z))
    (d0 : w.cell? ⟨b2, off2, none⟩ = some (.int .i64 a)) (d1 : w.cell? ⟨b2, off2 + 1, none⟩ = some (.int .i64 b)) (d2 : w.cell? ⟨b2, off2 + 2, none⟩ = some (.int .i64 c)) (hf1 : vecFault [x, y, z] = 0) (hf : vecFault [a, b, c] = 0) :
    Calls Try.prog 120 #[.slice (some ⟨b0, off, none⟩) 3 cap, .slice (some ⟨b2, off2, none⟩) 3 cap2] w fun e w' => e = .returned (.int .i64 ((x - a) * (x - a) + (y - b) * (y - b) + (z - c) * (z - c))) ∧ Below w.heap.size w w' := by
  obtain ⟨⟨x1, x2⟩, ⟨y1, y2⟩, ⟨z1, z2⟩⟩ := fault3 hf1
  obtain ⟨⟨a1, a2⟩, ⟨b1, b3⟩, ⟨c3, c4⟩⟩ := fault3 hf
  obtain ⟨m1, m2⟩ := sq_bd x a x1 x2 a1 a2
  obtain ⟨m3, m4⟩ := sq_bd y b y1 y2 b1 b3
  obtain ⟨m5, m6⟩ := sq_bd z c z1 z2 c3 c4
  clear hf hf1
  go_enter Try.func120, Try.ntmps120
  go_wp2_with fail
  refine wp_loop_rounds 4 ?_
  rw [rounds_succ]
  go_wp2
  go_quiet (fail)
  go_wp2
  rw [rounds_succ]
  go_wp2
  go_quiet (fail)
  go_wp2
  rw [rounds_succ]
  go_wp2
  go_quiet (fail)
  go_wp2
  rw [rounds_succ]
  go_wp2
  go_ret
  exact ⟨rfl, below_drawn (Below.refl _ _) _⟩
def score3 (zs ys : List Int) : Int := (zs.getD 0 0 - ys.getD 0 0) * (zs.getD 0 0 - ys.getD 0 0) + (zs.getD 1 0 - ys.getD 1 0) * (zs.getD 1 0 - ys.getD 1 0) + (zs.getD 2 0 - ys.getD 2 0) * (zs.getD 2 0 - ys.getD 2 0)

end Go.Proofs.Ytfgadegpdknocaa

namespace Go.Proofs.Ytfgadegpdknocaa
open Go.RowKit

theorem cscore_bd {q v : List Int} (h1 : vecFault q = 0) (h2 : vecFault v = 0) : 0 ≤ score3 q v ∧ score3 q v ≤ 12000000 := by
  obtain ⟨hl, -⟩ := vecFault_zero h1
  obtain ⟨hl2, -⟩ := vecFault_zero h2
  match q, hl, v, hl2 with
  | [x, y, z], _, [a, b, c], _ =>
    obtain ⟨⟨x1, x2⟩, ⟨y1, y2⟩, ⟨z1, z2⟩⟩ := fault3 h1
    obtain ⟨⟨a1, a2⟩, ⟨b1, b2⟩, ⟨c1, c2⟩⟩ := fault3 h2
    have m1 := sq_bd x a x1 x2 a1 a2
    have m2 := sq_bd y b y1 y2 b1 b2
    have m3 := sq_bd z c z1 z2 c1 c2
    show 0 ≤ (x - a) * (x - a) + (y - b) * (y - b) + (z - c) * (z - c) ∧ (x - a) * (x - a) + (y - b) * (y - b) + (z - c) * (z - c) ≤ 12000000
    omega

end Go.Proofs.Ytfgadegpdknocaa

namespace Go.Proofs.Ytfgadegpdknocaa

def mean (s n : Int) : Int := (2 * s + n) / (2 * n)
def sumB (n z : Int) : Bool := decide (-1000 * n ≤ z) && decide (z ≤ 1000 * n)
def meanFault (zs : List Int) (n : Int) : Int := if n < 1 ∨ 1000 < n then 3 else if zs.length = 3 then (if zs.all (sumB n) then 0 else 3) else 1
def meanList (zs : List Int) (n : Int) : List Int := if meanFault zs n = 0 then [mean (zs.getD 0 0) n, mean (zs.getD 1 0) n, mean (zs.getD 2 0) n] else []

theorem near_bd (s n : Int) (h1 : 1 ≤ n) (h3 : -1000 * n ≤ s) (h4 : s ≤ 1000 * n) : 0 ≤ (2 * (s + 1000 * n) + n) / (2 * n) ∧ (2 * (s + 1000 * n) + n) / (2 * n) ≤ 2000 := by
  constructor
  · exact Int.ediv_nonneg (by omega) (by omega)
  · have : (2 * (s + 1000 * n) + n) / (2 * n) < 2001 := by
      rw [Int.ediv_lt_iff_lt_mul (by omega)]
      omega
    omega

theorem near_eq (s n : Int) (h1 : 1 ≤ n) : (2 * (s + 1000 * n) + n) / (2 * n) - 1000 = mean s n := by
  unfold mean
  have e : 2 * (s + 1000 * n) + n = (2 * s + n) + 1000 * (2 * n) := by omega
  rw [e, Int.add_mul_ediv_right _ _ (by omega)]
  omega

theorem mean_bd (s n : Int) (h1 : 1 ≤ n) (h3 : -1000 * n ≤ s) (h4 : s ≤ 1000 * n) : -1000 ≤ mean s n ∧ mean s n ≤ 1000 := by
  have := near_bd s n h1 h3 h4
  have := near_eq s n h1
  omega

theorem round_pos (a n : Int) : (2 * a + n) / (2 * n) = mean a n := rfl

theorem tdiv_neg_bd (x m : Int) (hm : 1 ≤ m) (hx : x < 0) : x ≤ x.tdiv m ∧ x.tdiv m ≤ 0 := by
  obtain ⟨y, rfl⟩ : ∃ y, x = -y := ⟨-x, by omega⟩
  rw [Int.neg_tdiv, Int.tdiv_eq_ediv_of_nonneg (by omega)]
  have h1 := Int.ediv_nonneg (show 0 ≤ y by omega) (show 0 ≤ m by omega)
  have h2 := Int.ediv_le_self (b := m) (show 0 ≤ y by omega)
  omega

/-- Below 0 Go's quotient is one too great where something is left. -/
theorem round_neg (x m : Int) (hm : 1 ≤ m) (hx : x < 0) : (x.tmod m < 0 → x.tdiv m - 1 = x / m) ∧ (¬ x.tmod m < 0 → x.tdiv m = x / m) := by
  have h1 := Int.tdiv_mul_add_tmod x m
  have h2 := Int.ediv_mul_add_emod x m
  have h3 := Int.emod_nonneg x (show m ≠ 0 by omega)
  have h4 := Int.emod_lt_of_pos x (show 0 < m by omega)
  have h5 : x.tmod m ≤ 0 := by
    obtain ⟨y, rfl⟩ : ∃ y, x = -y := ⟨-x, by omega⟩
    rw [Int.neg_tmod, Int.tmod_eq_emod_of_nonneg (by omega)]
    have := Int.emod_nonneg y (show m ≠ 0 by omega)
    omega
  have h6 : -m < x.tmod m := by
    obtain ⟨y, rfl⟩ : ∃ y, x = -y := ⟨-x, by omega⟩
    rw [Int.neg_tmod, Int.tmod_eq_emod_of_nonneg (by omega)]
    have := Int.emod_lt_of_pos y (show 0 < m by omega)
    omega
  generalize x.tmod m = r at *
  generalize x.tdiv m = q at *
  generalize x % m = r' at *
  generalize x / m = q' at *
  have e : (q' - q) * m = r - r' := by rw [Int.sub_mul]; omega
  constructor
  · intro hr
    have a1 : (q' - q) * m < 0 := by omega
    have a2 : (q' - q) * m > -2 * m := by omega
    have b1 : q' - q < 0 := by
      rcases Int.lt_or_le (q' - q) 0 with h | h
      · exact h
      · have := Int.mul_nonneg h (show 0 ≤ m by omega); omega
    have b2 : q' - q > -2 := by
      rcases Int.lt_or_le (-2) (q' - q) with h | h
      · exact h
      · have := Int.mul_le_mul_of_nonneg_right h (show 0 ≤ m by omega); omega
    omega
  · intro hr
    have hr0 : r = 0 := by omega
    subst hr0
    have a1 : (q' - q) * m ≤ 0 := by omega
    have a2 : (q' - q) * m > -m := by omega
    have b1 : q' - q ≤ 0 := by
      rcases Int.lt_or_le 0 (q' - q) with h | h
      · have := Int.mul_le_mul_of_nonneg_right (show 1 ≤ q' - q by omega) (show 0 ≤ m by omega); omega
      · exact h
    have b2 : q' - q > -1 := by
      rcases Int.lt_or_le (-1) (q' - q) with h | h
      · exact h
      · have := Int.mul_le_mul_of_nonneg_right h (show 0 ≤ m by omega); omega
    omega

theorem sumB_true {n z : Int} (h : sumB n z = true) : -1000 * n ≤ z ∧ z ≤ 1000 * n := by simpa [sumB] using h
theorem sumB_false {n z : Int} (h : sumB n z = false) : z < -1000 * n ∨ 1000 * n < z := by
  simp [sumB] at h
  omega
theorem meanFault_n {zs : List Int} {n : Int} (h : n < 1 ∨ 1000 < n) : meanFault zs n = 3 := by simp [meanFault, h]
theorem meanFault_len {zs : List Int} {n : Int} (h1 : 1 ≤ n) (h2 : n ≤ 1000) (h : zs.length ≠ 3) : meanFault zs n = 1 := by
  have : ¬ (n < 1 ∨ 1000 < n) := by omega
  simp [meanFault, h, this]
theorem meanFault_bad {zs : List Int} {n : Int} (h : zs.length = 3) (k : Nat) (hk : k < 3) (hb : sumB n (zs.getD k 0) = false) : meanFault zs n = 3 := by
  have : zs.all (sumB n) = false := by
    rw [List.all_eq_false]
    exact ⟨zs.getD k 0, by simp [List.getD, show k < zs.length by omega], by rw [hb]; simp⟩
  simp [meanFault, h, this]
theorem meanFault_ok {zs : List Int} {n : Int} (h1 : 1 ≤ n) (h2 : n ≤ 1000) (h : zs.length = 3) (hg : ∀ j, j < 3 → sumB n (zs.getD j 0) = true) : meanFault zs n = 0 := by
  have h0 : ¬ (n < 1 ∨ 1000 < n) := by omega
  have : zs.all (sumB n) = true := by
    rw [List.all_eq_true]
    intro x hx
    obtain ⟨j, hj, rfl⟩ := List.mem_iff_getElem.1 hx
    have := hg j (by omega)
    simpa [List.getD, hj] using this
  simp [meanFault, h, this, h0]
theorem meanFault_zero {zs : List Int} {n : Int} (h : meanFault zs n = 0) : (1 ≤ n ∧ n ≤ 1000) ∧ ∃ x y z, zs = [x, y, z] ∧ (-1000 * n ≤ x ∧ x ≤ 1000 * n) ∧ (-1000 * n ≤ y ∧ y ≤ 1000 * n) ∧ (-1000 * n ≤ z ∧ z ≤ 1000 * n) := by
  unfold meanFault at h
  split at h
  · simp at h
  · next hn =>
    split at h
    · next hl =>
      split at h
      · next ha =>
        match zs, hl, ha with
        | [x, y, z], _, ha =>
          simp only [List.all_cons, List.all_nil, Bool.and_true, Bool.and_eq_true] at ha
          exact ⟨by omega, x, y, z, rfl, sumB_true ha.1, sumB_true ha.2.1, sumB_true ha.2.2⟩
      · simp at h
    · simp at h

end Go.Proofs.Ytfgadegpdknocaa
