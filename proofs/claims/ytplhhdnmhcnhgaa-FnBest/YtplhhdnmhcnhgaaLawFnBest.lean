/-
  The law FnBest answers true at every slice of bytes, and writes nothing that was there.
  No condition.
-/
import Derived.Test.YtplhhdnmhcnhgaaDrawBent
import Derived.Test.YtplhhdnmhcnhgaaImplBest
import Derived.Test.YtplhhdnmhcnhgaaImplFault
import Derived.Test.YtplhhdnmhcnhgaaLwHits
import Derived.Test.YtplhhdnmhcnhgaaBig
import Derived.Deep.RegionHeld3
namespace Go.Proofs.Ytplhhdnmhcnhgaa
open Go.RowKit

theorem best_full {k : Nat} {hs : List (Int × Int)} {x : Int × Int} (hx : x ∈ hs) (hn : x ∉ best k hs) : (best k hs).length = k := by
  rw [best_eq] at hn ⊢
  have h1 : x ∈ allOf hs := allOf_mem.2 hx
  by_cases hk : (allOf hs).length ≤ k
  · rw [List.take_of_length_le hk] at hn
    exact absurd h1 hn
  · simp
    omega
theorem best_worse {k : Nat} {hs : List (Int × Int)} {x y : Int × Int} (hx : x ∈ hs) (hn : x ∉ best k hs) (hy : y ∈ best k hs) : bet x y = false := by
  rw [best_eq] at hn hy
  have h1 : x ∈ allOf hs := allOf_mem.2 hx
  have hs1 := allOf_sorted hs
  rw [← List.take_append_drop k (allOf hs)] at h1 hs1
  rcases List.mem_append.1 h1 with h2 | h2
  · exact absurd h2 hn
  · exact bet_asymm ((List.pairwise_append.1 hs1).2.2 y hy x h2)
theorem bestCode_zero {hs : List (Int × Int)} {k : Int} (h : bestCode hs k = 0) : kB k = true ∧ hs.all oneB = true := by
  unfold bestCode at h
  split at h
  · next hk =>
    split at h
    · omega
    · split at h
      · next ha => exact ⟨hk, ha⟩
      · omega
  · omega
theorem mem_step {ms : List (Int × Int)} {q : Nat} {x2 y2 : Int} (h : ms[q]? = some (x2, y2)) (x y : Int) : decide ((x, y) ∈ ms.take (q + 1)) = (decide ((x, y) ∈ ms.take q) || (x2 == x && y2 == y)) := by
  have hq := at_some h
  rw [List.take_succ_eq_append_getElem hq, show ms[q] = (x2, y2) by simpa [hq] using h]
  apply Bool.eq_iff_iff.2
  simp only [decide_eq_true_eq, List.mem_append, List.mem_singleton, Prod.mk.injEq, Bool.or_eq_true, Bool.and_eq_true, beq_iff_eq]
  constructor
  · rintro (h | ⟨rfl, rfl⟩)
    · exact Or.inl h
    · exact Or.inr ⟨rfl, rfl⟩
  · rintro (h | ⟨rfl, rfl⟩)
    · exact Or.inl h
    · exact Or.inr ⟨rfl, rfl⟩
theorem best_rev (k : Nat) (hs : List (Int × Int)) : best k hs.reverse = best k hs := best_congr k (fun x => by simp)
theorem rev_best {hs ms : List (Int × Int)} {k : Nat} (h : bestCode hs k = 0) (hm : ms = best k hs) : bestCode hs.reverse k = 0 ∧ bestList hs.reverse k = ms := by
  have e : bestCode hs.reverse k = bestCode hs k := by simp only [bestCode, List.length_reverse, List.all_reverse]
  refine ⟨e.trans h, ?_⟩
  rw [bestList, e, if_pos h, hm]
  exact best_rev k hs
theorem best_ok {k : Nat} {hs : List (Int × Int)} (hk : k ≤ 20) (h1 : hs.all oneB = true) : hitsFault (best k hs) = 0 := by
  refine hitsFault_of (Nat.le_trans (best_len k hs) hk) (fun x hx => ?_) (best_sorted k hs)
  exact List.all_eq_true.1 h1 x (best_mem hx)
theorem drop_rev {hs : List (Int × Int)} {j : Nat} {x y : Int} (h : hs[j]? = some (x, y)) : (hs.drop (j + 1)).reverse ++ [(x, y)] = (hs.drop j).reverse := by
  rw [drop_at h]
  simp
theorem fieldHits1 (c : Int) (a : Option Addr) (n cp : Nat) (w : World) : (Instr.field 28 (.agg #[.int .i64 c, .slice a n cp]) 1).run Try.prog w = .ok (.slice a n cp) w := by kernel_rfl
theorem fieldHits0 (c : Int) (a : Option Addr) (n cp : Nat) (w : World) : (Instr.field 28 (.agg #[.int .i64 c, .slice a n cp]) 0).run Try.prog w = .ok (.int .i64 c) w := by kernel_rfl

theorem lawBest_many (ao : Option Addr) (len cap : Nat) (w : World) (hn : 1048576 < len) :
    Calls Try.prog 3 #[.slice ao len cap] w fun e w' => e = .returned (.bool true) ∧ Below w.heap.size w w' := by
  go_enter Try.func3, Try.ntmps3
  go_wp2_with fail
  refine (big_yes ao len cap w hn).mono ?_
  rintro e w' ⟨rfl, rfl⟩
  go_wp2_with fail
  go_ret
  exact ⟨rfl, Below.refl _ _⟩

set_option maxRecDepth 100000 in
set_option maxHeartbeats 4000000 in
theorem lawBest_few (ao : Option Addr) (len cap : Nat) (w : World) (hn : len ≤ 1048576) (hcode : IsCode w.heap.size w (.slice ao len cap)) :
    Calls Try.prog 3 #[.slice ao len cap] w fun e w' => e = .returned (.bool true) ∧ Below w.heap.size w w' := by
  have HC := hide hcode
  clear hcode
  go_enter Try.func3, Try.ntmps3
  go_wp2_with fail
  refine (big_no ao len cap w hn).mono ?_
  rintro e w ⟨rfl, rfl⟩
  go_wp2_with fail
  refine (drawBestOf ao len cap w (unhide HC)).mono ?_
  rintro e w1 ⟨v, hs, k, rfl, hl, hk, hi, hb⟩
  have hv : ∃ av cv, v = .slice av hs.length cv := by obtain ⟨av, cv, h, -⟩ := hi; exact ⟨av, cv, h⟩
  obtain ⟨av, cv, rfl⟩ := hv
  have HB1 := hide hb
  have HI1 := hide hi
  clear hb hi HC hk
  go_wp2_with fail
  refine (implBest_all _ hs k w1 (unhide HI1)).mono ?_
  rintro e w2 ⟨r, rfl, ho, hb2⟩
  obtain ⟨a1, c1, rfl⟩ := own_shape ho
  have hml := bestList_len (zs := hs) (n := k)
  have hmwf : ∀ m ∈ bestList hs k, Wf2 m := fun m hm => (unhide HI1).wf m (bestList_mem hm)
  obtain ⟨c, hcc⟩ : ∃ c, c = bestCode hs k := ⟨_, rfl⟩
  obtain ⟨ms, hms⟩ : ∃ ms, ms = bestList hs k := ⟨_, rfl⟩
  rw [← hms] at ho hml hmwf
  rw [← hcc, ← hms]
  simp only [intsRes]
  have nb : Below w2.heap.size w2 (w2.alloc (.cells #[.int .i64 c, .slice a1 ms.length c1] 28)) := (Below.refl _ _).alloc (Nat.le_refl _) _
  obtain ⟨k0, k1⟩ := new_cells (w := w2) (T := 28) (x := .int .i64 c) (y := .slice a1 ms.length c1)
  have P0 := hide (((unhide HI1).later hb2).later nb)
  have P1 := hide ((isHits_row hmwf ho).later nb)
  have HBA := hide (below_keep2 (below_keep2 (unhide HB1) hb2) nb)
  have HCC := hide hcc
  have HMS := hide hms
  have HMWF := hide hmwf
  clear ho hb2 nb hcc hms hmwf HI1 HB1
  by_cases hc0 : c = 0
  · subst hc0
    obtain ⟨hkb, hall⟩ := bestCode_zero (unhide HCC).symm
    have hkk : 0 ≤ k ∧ k ≤ 20 := by simpa [kB] using hkb
    obtain ⟨kk, rfl⟩ : ∃ kk : Nat, k = kk := ⟨k.toNat, by omega⟩
    have hbk : ms = best kk hs := by rw [unhide HMS]; simp [bestList, ← unhide HCC]
    have HALL := hide hall
    have HCC0 : Hid (bestCode hs kk = 0) := (unhide HCC).symm
    have HBK := hide hbk
    clear hkb hall hbk HCC HMS
    have hwz : (w2.alloc (.cells #[.int .i64 0, .slice a1 ms.length c1] 28)).heap.size = w2.heap.size + 1 := by simp
    go_wp2_with fail
    generalize hwa : w2.alloc (.cells #[.int .i64 0, .slice a1 ms.length c1] 28) = wa at *
    generalize w2.heap.size = s0 at *
    clear hwa
    have hs0 := World.block_lt_of_cell? _ _ k0
    have keep : Hid (∀ W, Below wa.heap.size wa W → IsHits W (.slice av hs.length cv) hs ∧ IsHits W (.slice a1 ms.length c1) ms ∧ W.cell? ⟨s0, 0, none⟩ = some (.int .i64 0) ∧ W.cell? ⟨s0, 1, none⟩ = some (.slice a1 ms.length c1)) := fun W hW =>
      ⟨(unhide P0).later hW, (unhide P1).later hW, cell_keep hW k0, cell_keep hW k1⟩
    clear P0 P1
    have O0 : (wa.alloc (.cells #[] 31)).ownsRow wa.heap.size 31 2 (.slice (some ⟨s0 + 1, 0, none⟩) 0 0) 0 (cells2 []) := by
      rw [← hwz]
      exact World.ownsRow_lit wa #[] 0 (Nat.le_refl _) (by unfold maxLen; omega) rfl
    have B0 : Below wa.heap.size wa (wa.alloc (.cells #[] 31)) := (Below.refl _ _).alloc (Nat.le_refl _) _
    have HWZ := hide hwz
    clear k0 k1 hwz hs0
    go_loopw [6, 7] (fun v i wr => ∃ (j cp : Nat) (z : Int) (a : Option Addr), j ≤ hs.length ∧ z = (j : Int) - 1 ∧ i = .int .i64 z ∧ v = .slice a (hs.length - j) cp ∧ wr.ownsRow wa.heap.size 31 2 v (hs.length - j) (cells2 (hs.drop j).reverse) ∧ Below wa.heap.size wa wr)
      (fun _ i _ => (intOf i + 1).toNat)
    case atStart =>
      refine ⟨hs.length, 0, _, some ⟨s0 + 1, 0, none⟩, Nat.le_refl _, rfl, rfl, by rw [Nat.sub_self], ?_, B0⟩
      rw [Nat.sub_self, List.drop_length, List.reverse_nil]
      exact O0
    case round =>
    clear O0 B0
    obtain ⟨j, cp, z, a, hj, hz, rfl, rfl, hown, hB⟩ := hrel
    by_cases hp : 0 < j
    · obtain ⟨m, rfl⟩ : ∃ m, j = m + 1 := ⟨j - 1, by omega⟩
      obtain rfl : z = (m : Int) := by omega
      obtain ⟨x, y, hxy⟩ : ∃ x y, hs[m]? = some (x, y) := ⟨hs[m].1, hs[m].2, by simp [show m < hs.length by omega]⟩
      have hwh : Wf2 (x, y) := (unhide keep wr hB).1.wf _ (List.mem_of_getElem? hxy)
      obtain ⟨_, _, e1, -, -, -, hcc⟩ := (unhide keep wr hB).1
      simp only [Value.slice.injEq] at e1
      obtain ⟨rfl, -, rfl⟩ := e1
      obtain ⟨b, off, rfl, hcd⟩ := hcc (by omega)
      obtain ⟨p1, p2⟩ := hcd m x y hxy
      have o3 := hown.alloc (.cells #[.int .i64 x, .int .i64 y] 31)
      have X3 : IsHits (wr.alloc (.cells #[.int .i64 x, .int .i64 y] 31)) (.slice (some ⟨wr.heap.size, 0, none⟩) 1 1) [(x, y)] := hit_new x y hwh
      have b4 := hide (hB.alloc hB.size (.cells #[.int .i64 x, .int .i64 y] 31))
      have HR := hide (drop_rev hxy)
      have hsz : wa.heap.size ≤ (wr.alloc (.cells #[.int .i64 x, .int .i64 y] 31)).heap.size := by have := hB.size; simp; omega
      have HK := hide (show hs.length - (m + 1) + 1 = hs.length - m by omega)
      have g1 : decide ((0 : Int) ≤ (m : Int)) = true := by simp
      clear hxy hcc hcd hown hwh hB hz
      go_wp2_with (at_builtin; refine wpList_append_hits rfl _ _ rfl wa.heap.size _ (hs.length - (m + 1)) (hs.drop (m + 1)).reverse rfl o3 _ [(x, y)] rfl X3 (by simp; omega) hsz ?_)
      intro v5 w5 o5 g5 _
      have B5 := hide ((unhide b4).grown g5 hsz (fun q hq => (o3.lt q hq).1))
      rw [unhide HR, unhide HK] at o5
      obtain ⟨a5, c5, rfl⟩ := own_shape o5
      have O5 := hide o5
      clear o3 X3 o5 g5 b4 p1 p2 hsz
      go_wp2_with fail
      go_roundw
      case rel => exact ⟨m, c5, (m : Int) - 1, a5, by omega, rfl, by go_num, rfl, unhide O5, unhide B5⟩
      case measure => simp [intOf]
    · obtain rfl : j = 0 := by omega
      obtain rfl : z = -1 := by omega
      simp only [Nat.sub_zero, List.drop_zero] at hown ⊢
      obtain ⟨-, -, z0, z1⟩ := unhide keep wr hB
      have hwr : ∀ p ∈ hs.reverse, Wf2 p := fun p hp => (unhide keep wr hB).1.wf p (by simpa using hp)
      have hir : IsHits wr (.slice a hs.length cp) hs.reverse := isHits_row (base := wa.heap.size) (T := 31) hwr (by simpa using hown)
      have keep2 : Hid (∀ W, Below wr.heap.size wr W → IsHits W (.slice av hs.length cv) hs ∧ IsHits W (.slice a1 ms.length c1) ms ∧ IsHits W (.slice a hs.length cp) hs.reverse ∧ W.cell? ⟨s0, 1, none⟩ = some (.slice a1 ms.length c1)) := fun W hW => by
        obtain ⟨q1, q2, -, q4⟩ := unhide keep W (below_keep2 hB hW)
        exact ⟨q1, q2, hir.later hW, q4⟩
      have HBR := hide (below_keep2 (unhide HBA) hB)
      clear hown hB hwr hir keep HBA hz hp hj
      obtain ⟨wq, hwq⟩ : ∃ wq, wq = wr := ⟨_, rfl⟩
      subst hwq
      go_wp2_with fail
      go_loopw [9] (fun i wy => ∃ j : Nat, j ≤ hs.length ∧ i = .int .i64 j ∧ Below wq.heap.size wq wy) (fun i _ => hs.length - (intOf i).toNat)
      case atStart => exact ⟨0, Nat.zero_le _, rfl, Below.refl _ _⟩
      case round =>
      obtain ⟨j, hj, rfl, hBy⟩ := hrel
      clear z0 z1
      by_cases hlt : j < hs.length
      · obtain ⟨x, y, hxy⟩ : ∃ x y, hs[j]? = some (x, y) := ⟨hs[j].1, hs[j].2, by simp [hlt]⟩
        have HXY := hide hxy
        have HBY := hide hBy
        have hdl : decide ((j : Int) < (hs.length : Int)) = true := by simp; omega
        clear hxy hBy
        go_wp2_with fail
        go_loopw [10, 11] (fun inn i wz => ∃ q : Nat, q ≤ ms.length ∧ i = .int .i64 q ∧ inn = .bool (decide ((x, y) ∈ ms.take q)) ∧ Below wq.heap.size wq wz) (fun _ i _ => ms.length - (intOf i).toNat)
        case atStart => exact ⟨0, Nat.zero_le _, rfl, by simp, unhide HBY⟩
        case round =>
        obtain ⟨q, hq, rfl, rfl, hBz⟩ := hrel
        clear HBY
        have HBZ := hide hBz
        clear hBz
        by_cases hql : q < ms.length
        · obtain ⟨x2, y2, hxy2⟩ : ∃ x y, ms[q]? = some (x, y) := ⟨ms[q].1, ms[q].2, by simp [hql]⟩
          obtain ⟨i1, i2, -, z1⟩ := unhide keep2 wr (unhide HBZ)
          obtain ⟨_, _, e1, -, -, -, hcc⟩ := i1
          simp only [Value.slice.injEq] at e1
          obtain ⟨rfl, -, rfl⟩ := e1
          obtain ⟨b, off, rfl, hcd⟩ := hcc (by omega)
          obtain ⟨p1, p2⟩ := hcd j x y (unhide HXY)
          obtain ⟨_, _, e2, -, -, -, hcc2⟩ := i2
          simp only [Value.slice.injEq] at e2
          obtain ⟨rfl, -, rfl⟩ := e2
          obtain ⟨b2, off2, rfl, hcd2⟩ := hcc2 (by omega)
          obtain ⟨p3, p4⟩ := hcd2 q x2 y2 hxy2
          have hstep := mem_step hxy2 x y
          have HST := hide hstep
          have g3 : (j : Int) < (hs.length : Int) := by omega
          have g4 : (q : Int) < (ms.length : Int) := by omega
          have g5 : (0 : Int) ≤ (j : Int) := by omega
          have g6 : (0 : Int) ≤ (q : Int) := by omega
          have hin := eqIn2 x2 y2 x y
          have hee := eql2 x2 y2 x y
          clear hcc hcd hcc2 hcd2 hxy2 hstep keep2
          cases hBB : decide ((x, y) ∈ ms.take q) with
          | true =>
            have HV : Hid (true = decide ((x, y) ∈ ms.take (q + 1))) := by
              show true = decide ((x, y) ∈ ms.take (q + 1))
              rw [unhide HST, hBB]
              rfl
            clear hBB HST
            go_wp2_with fail
            go_quiet (fail)
            go_wp2_with fail
            go_roundw
            case rel => exact ⟨q + 1, by omega, by go_num, congrArg Value.bool (unhide HV), below_drewN (unhide HBZ) _⟩
            case measure => simp [intOf]; omega
          | false =>
            have HV : Hid ((x2 == x && y2 == y) = decide ((x, y) ∈ ms.take (q + 1))) := by
              show (x2 == x && y2 == y) = decide ((x, y) ∈ ms.take (q + 1))
              rw [unhide HST, hBB]
              rfl
            clear hBB HST
            go_wp2_with fail
            go_quiet (fail)
            go_wp2_with fail
            go_roundw
            case rel => exact ⟨q + 1, by omega, by go_num, congrArg Value.bool (unhide HV), below_drewN (unhide HBZ) _⟩
            case measure => simp [intOf]; omega
        · obtain rfl : q = ms.length := by omega
          have hxm := List.mem_of_getElem? (unhide HXY)
          rw [List.take_length]
          by_cases hm : (x, y) ∈ ms
          · have hdm : decide ((x, y) ∈ ms) = true := by simpa using hm
            rw [hdm]
            clear hdm hm hxm
            go_wp2_with fail
            go_quiet (fail)
            go_wp2_with fail
            go_roundw
            case rel => exact ⟨j + 1, by omega, by go_num, below_drewN (unhide HBZ) _⟩
            case measure => simp [intOf]; omega
          · have hdm : decide ((x, y) ∈ ms) = false := by simpa using hm
            rw [hdm]
            have hfull : ms.length = kk := by
              rw [unhide HBK] at hm ⊢
              exact best_full hxm hm
            subst hfull
            have hmx : ∀ N1, ms.length = N1 + 1 → ∃ x2 y2, ms[N1]? = some (x2, y2) ∧ bet (x, y) (x2, y2) = false := by
              intro N1 hN1
              refine ⟨(ms[N1]'(by omega)).1, (ms[N1]'(by omega)).2, by simp [show N1 < ms.length by omega], ?_⟩
              have h2 : ms[N1]'(by omega) ∈ ms := List.getElem_mem _
              have h3 := unhide HBK
              rw [h3] at hm
              exact best_worse hxm hm (h3 ▸ h2)
            have HMX := hide hmx
            clear hdm hm hxm hmx
            go_upto_region 21 with fail
            go_cut [101] from 74 to 100 (fun s101 wx => s101 = .bool false ∧ Below wq.heap.size wq wx)
            case rest =>
              obtain ⟨rfl, hbc⟩ := hcut
              have HBC := hide hbc
              clear hbc
              go_wp2_with fail
              go_roundw
              case rel => exact ⟨j + 1, by omega, by go_num, unhide HBC⟩
              case measure => simp [intOf]; omega
            case first =>
            by_cases hz : ms.length = 0
            · clear HBK keep2 HMX
              generalize ms.length = N at *
              subst hz
              go_quiet (fail)
              go_wp2_with fail
              go_meet
              exact ⟨rfl, below_drewN (unhide HBZ) _⟩
            · obtain ⟨N1, hN1⟩ : ∃ N1, ms.length = N1 + 1 := ⟨ms.length - 1, by omega⟩
              obtain ⟨x2, y2, hxy2, hbet⟩ := unhide HMX N1 hN1
              obtain ⟨i1, i2, -, z1⟩ := unhide keep2 wr (unhide HBZ)
              obtain ⟨_, _, e1, -, -, -, hcc⟩ := i1
              simp only [Value.slice.injEq] at e1
              obtain ⟨rfl, -, rfl⟩ := e1
              obtain ⟨b, off, rfl, hcd⟩ := hcc (by omega)
              obtain ⟨p1, p2⟩ := hcd j x y (unhide HXY)
              obtain ⟨_, _, e2, -, -, -, hcc2⟩ := i2
              simp only [Value.slice.injEq] at e2
              obtain ⟨rfl, -, rfl⟩ := e2
              obtain ⟨b2, off2, rfl, hcd2⟩ := hcc2 (by omega)
              obtain ⟨p3, p4⟩ := hcd2 N1 x2 y2 hxy2
              have LB : Hid (∀ W, Calls Try.prog 15 #[.agg #[.int .i64 x, .int .i64 y], .agg #[.int .i64 x2, .int .i64 y2]] W fun e w' => e = .returned (.bool false) ∧ Below W.heap.size W w') := fun W => by
                have := implBetter x y x2 y2 W
                rwa [hbet] at this
              clear hcc hcd hcc2 hcd2 hxy2 hbet keep2 HBK hz HMX
              generalize ms.length = N at *
              subst hN1
              have g1 : decide ((0 : Int) < (N1 : Int) + 1) = true := decide_eq_true (by omega)
              have g2 : (N1 : Int) + 1 - 1 = (N1 : Int) := by omega
              have g3 : (N1 : Int) < (N1 : Int) + 1 := by omega
              have g4 : IntKind.i64.wrap ((N1 : Int) + 1 - 1) = (N1 : Int) := by simp only [IntKind.wrap_i64]; omega
              have g9 : IntKind.i64.wrap (N1 : Int) = (N1 : Int) := by simp only [IntKind.wrap_i64]; omega
              have g7 : (0 : Int) ≤ (N1 : Int) := by omega
              have g5 : (0 : Int) ≤ (j : Int) := by omega
              have g6 : (j : Int) < (hs.length : Int) := by omega
              first
                | go_region_held3 (fun w' => Below wr.heap.size wr w' ∧ w'.cell? ⟨s0, 1, none⟩ = some (.slice (some ⟨b2, off2, none⟩) (N1 + 1) c1) ∧ w'.cell? ⟨b, off + j * 2, none⟩ = some (.int .i64 x) ∧ w'.cell? ⟨b, off + j * 2 + 1, none⟩ = some (.int .i64 y) ∧ w'.cell? ⟨b2, off2 + N1 * 2, none⟩ = some (.int .i64 x2) ∧ w'.cell? ⟨b2, off2 + N1 * 2 + 1, none⟩ = some (.int .i64 y2))
                    (first
                      | exact ⟨(Below.refl _ _).drew, z1, p1, p2, p3, p4⟩
                      | (refine ⟨below_keep2 ?_ hb2, cell_keep hb2 ?_, cell_keep hb2 ?_, cell_keep hb2 ?_, cell_keep hb2 ?_, cell_keep hb2 ?_⟩ <;> (first | assumption | (go_split_ands; assumption)))
                      | go_keep)
                    (first
                      | (go_at_call 15; refine (unhide LB _).mono ?_; rintro e w2 ⟨rfl, hb2⟩))
                | fail
              have BW : Hid (Below wq.heap.size wq w2) := below_keep2 (unhide HBZ) (by first | assumption | (go_split_ands; assumption))
              go_wp2_with fail
              go_meet
              exact ⟨rfl, unhide BW⟩
      · obtain rfl : j = hs.length := by omega
        have HBT := hide hBy
        obtain ⟨-, -, -, z1⟩ := unhide keep2 wr hBy
        have hmk : ms.length ≤ kk := by have := best_len kk hs; rw [← unhide HBK] at this; exact this
        have hrc : bestCode hs.reverse kk = 0 ∧ bestList hs.reverse kk = ms := rev_best (unhide HCC0) (unhide HBK)
        have hmc : bestCode hs kk = 0 ∧ bestList hs kk = ms := ⟨unhide HCC0, by rw [unhide HBK]; simp [bestList, unhide HCC0]⟩
        have hmf : hitsFault ms = 0 := by rw [unhide HBK]; exact best_ok (by omega) (unhide HALL)
        have L1 : Hid (∀ W, Below wq.heap.size wq W → Calls Try.prog 16 #[.slice a1 ms.length c1] W fun e w' => e = .returned (.int .i64 0) ∧ Below W.heap.size W w') := fun W hW => by
          have := implFault _ ms W (unhide keep2 W hW).2.1
          rwa [hmf] at this
        have L2 : Hid (∀ W, Below wq.heap.size wq W → Calls Try.prog 13 #[.slice a hs.length cp, .int .i64 kk] W fun e w' => ∃ (a2 : Option Addr) (c2 : Nat), e = .returned (.agg #[.int .i64 0, .slice a2 ms.length c2]) ∧ IsHits w' (.slice a2 ms.length c2) ms ∧ Below W.heap.size W w') := fun W hW => by
          refine (implBest_all _ hs.reverse kk W (unhide keep2 W hW).2.2.1).mono ?_
          rintro e w' ⟨r, rfl, ho, hb⟩
          rw [hrc.2] at ho
          obtain ⟨a2, c2, rfl⟩ := own_shape ho
          rw [hrc.1]
          exact ⟨a2, c2, rfl, isHits_row (unhide HMWF) ho, hb⟩
        have L4 : Hid (∀ W, Below wq.heap.size wq W → Calls Try.prog 14 #[.slice av hs.length cv, .int .i64 kk] W fun e w' => ∃ (a2 : Option Addr) (c2 : Nat), e = .returned (.agg #[.int .i64 0, .slice a2 ms.length c2]) ∧ IsHits w' (.slice a2 ms.length c2) ms ∧ Below W.heap.size W w') := fun W hW => by
          refine (modelBest _ hs kk W (unhide keep2 W hW).1).mono ?_
          rintro e w' ⟨r, rfl, ho, hb⟩
          rw [hmc.2] at ho
          obtain ⟨a2, c2, rfl⟩ := own_shape ho
          rw [hmc.1]
          exact ⟨a2, c2, rfl, isHits_row (unhide HMWF) ho, hb⟩
        have L3 : Hid (∀ W u v, IsHits W u ms → IsHits W v ms → Calls Try.prog 17 #[u, v] W fun e w' => e = .returned (.bool true) ∧ Below W.heap.size W w') := fun W u v h1 h2 => lwHits u v ms W h1 h2 (by omega)
        have K2 : Hid (∀ W, Below wq.heap.size wq W → IsHits W (.slice a1 ms.length c1) ms) := fun W hW => (unhide keep2 W hW).2.1
        have hle : decide ((ms.length : Int) ≤ (kk : Int)) = true := decide_eq_true (by omega)
        have hf1 := fun a cp => fieldHits1 0 a ms.length cp
        have e00 : ((0 : Int) == 0) = true := by decide
        clear hBy keep2 hrc hmc hmf HALL HBK HCC0 HMWF hlt
        generalize ms.length = N at *
        go_wp2_with fail
        first
          | go_region_held3 (fun w' => Below wq.heap.size wq w' ∧ w'.cell? ⟨s0, 1, none⟩ = some (.slice a1 N c1))
              (first
                | exact ⟨(unhide HBT).drew, z1⟩
                | (refine ⟨below_step ?_ hb3, cell_keep hb3 ?_⟩ <;> (first | assumption | (go_split_ands; assumption)))
                | go_keep)
              (first
                | (go_at_call 16; refine (unhide L1 _ ?_).mono ?_; (go_split_ands; assumption); rintro e w3 ⟨rfl, hb3⟩)
                | (go_at_call 13; refine (unhide L2 _ ?_).mono ?_; (go_split_ands; assumption); rintro e w3 ⟨a4, c4, rfl, hi4, hb3⟩)
                | (go_at_call 14; refine (unhide L4 _ ?_).mono ?_; (go_split_ands; assumption); rintro e w3 ⟨a6, c6, rfl, hi6, hb3⟩)
                | (go_at_call 17; refine (unhide L3 _ _ _ ?_ ?_).mono ?_; (first | exact hi4 | exact hi4.later (Below.refl _ _).drew | exact (unhide K2 _ (by go_split_ands; assumption))); (first | exact hi6 | exact hi6.later (Below.refl _ _).drew | exact (unhide K2 _ (by go_split_ands; assumption))); rintro e w3 ⟨rfl, hb3⟩))
          | fail
        have BW : Hid (Below wq.heap.size wq w3) := by
          show Below wq.heap.size wq w3
          first | assumption | (go_split_ands; assumption)
        go_wp2_with fail
        go_ret
        exact ⟨rfl, below_keep2 (unhide HBR) (unhide BW)⟩
  · have hne : (c != 0) = true := by rw [bne_iff_ne]; exact hc0
    have heq : (c == c) = true := by simp
    go_wp2_with fail
    generalize hwa : w2.alloc (.cells #[.int .i64 c, .slice a1 ms.length c1] 28) = wa at *
    generalize w2.heap.size = s0 at *
    clear hwa
    have hs0 := World.block_lt_of_cell? _ _ k0
    have keep : Hid (∀ W, Below wa.heap.size wa W → IsHits W (.slice av hs.length cv) hs ∧ IsHits W (.slice a1 ms.length c1) ms ∧ W.cell? ⟨s0, 0, none⟩ = some (.int .i64 c) ∧ W.cell? ⟨s0, 1, none⟩ = some (.slice a1 ms.length c1)) := fun W hW =>
      ⟨(unhide P0).later hW, (unhide P1).later hW, cell_keep hW k0, cell_keep hW k1⟩
    clear P0 P1
    have LM : Hid (∀ W, Below wa.heap.size wa W → Calls Try.prog 14 #[.slice av hs.length cv, .int .i64 k] W fun e w' => ∃ (a : Option Addr) (n cp : Nat), e = .returned (.agg #[.int .i64 c, .slice a n cp]) ∧ Below W.heap.size W w') := fun W hW => by
      refine (modelBest _ hs k W (unhide keep W hW).1).mono ?_
      rintro e w' ⟨r, rfl, ho, hb⟩
      obtain ⟨a, cp, rfl⟩ := own_shape ho
      rw [← unhide HCC]
      exact ⟨a, _, cp, rfl, hb⟩
    have hf0 := fun a n cp => fieldHits0 c a n cp
    clear hc0 k1
    go_region_held3 (fun w' => Below wa.heap.size wa w' ∧ w'.cell? ⟨s0, 0, none⟩ = some (.int .i64 c))
      (first
        | exact ⟨(Below.refl _ _).drew, k0⟩
        | (refine ⟨below_step ?_ hb3, cell_keep hb3 ?_⟩ <;> (first | assumption | (go_split_ands; assumption)))
        | go_keep)
      (first
        | (go_at_call 14; refine (unhide LM _ ?_).mono ?_; (go_split_ands; assumption); rintro e w3 ⟨a, n, cp, rfl, hb3⟩))
    go_wp2_with fail
    go_ret
    refine ⟨rfl, below_keep2 (unhide HBA) ?_⟩
    first | assumption | (go_split_ands; assumption)

/-- FnBest. -/
theorem lawFnBest (a : Option Addr) (len cap : Nat) (zs : List Int) (w : World) (h : (a = none ∧ len = 0 ∧ cap = 0 ∧ zs = []) ∨
    ∃ x, a = some x ∧ len ≤ cap ∧ cap ≤ maxLen ∧ zs.length = cap ∧ (∀ i, i < zs.length → w.cell? (x.add i) = some (.int .u8 (zs.getD i 0))) ∧ ∀ n ∈ zs, (Lit.int .u8 n).wf = true) :
    Calls Try.prog 3 #[.slice a len cap] w fun e w' => e = .returned (.bool true) ∧ Below w.heap.size w w' := by
  by_cases hn : len ≤ 1048576
  · exact lawBest_few a len cap w hn (isCode_of_row h hn)
  · exact lawBest_many a len cap w (by omega)

end Go.Proofs.Ytplhhdnmhcnhgaa
