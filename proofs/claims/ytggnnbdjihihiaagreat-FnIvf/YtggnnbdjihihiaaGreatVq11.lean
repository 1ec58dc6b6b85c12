/-
  Texts of this proof in one: HitInsert, ImplKeep, ImplFirst, ImplLoose, ImplBest, ImplSearchIvf, SpecProbes, InB, SpecTab, SpecLists7, SpecItems7, SpecFault7, SpecProbesOf.
  Their conditions stand in their theorems.
-/
import Derived.Test.YtggnnbdjihihiaaGreatVq10
import Derived.Lib.Overlaps
import Derived.Lib.AppendZerosOnto
import Derived.Test.YtggnnbdjihihiaaGreatVq07
import Derived.Test.YtggnnbdjihihiaaGreatChecked
import Derived.Test.YtggnnbdjihihiaaGreatVq03
import Derived.Test.YtggnnbdjihihiaaGreatVq01
import Derived.Test.YtggnnbdjihihiaaGreatVq02
import Derived.BigQuiet
import Derived.Deep.QuietTactic
import Derived.Deep.RegionHeld3
import Derived.Test.YtggnnbdjihihiaaGreatVq08

namespace Go.Proofs.YtggnnbdjihihiaaGreat
open Go.RowKit

theorem grown_undrew {w w' : World} {r : Option Nat} (h : w.drew.grownBy w' r) : w.grownBy w' r := ⟨h.os, h.tape, h.output, h.size, h.block⟩

theorem own_le' {w : World} {base T sz g n cap : Nat} {xs : List Value} (h : w.ownsRow base T sz (.slice (some ⟨g, 0, none⟩) n cap) n xs) : n ≤ cap := by
  rcases h.2 with ⟨h0, _⟩ | ⟨g, c, cur, h0, _, _, h1, _⟩
  · simp at h0
  · simp only [Value.slice.injEq] at h0
    obtain ⟨-, -, rfl⟩ := h0
    exact h1

theorem cells2_of_heap {w : World} {vb : Nat} {x y : Value} {T : TypeId} (h : w.heap[vb]? = some (.cells #[x, y] T (0, 0))) : w.cell? ⟨vb, 0, none⟩ = some x ∧ w.cell? ⟨vb, 1, none⟩ = some y := by
  constructor <;> simp [World.cell?, h]

theorem news_of_heap {w : World} {vb : Nat} {x y : Int} {T : TypeId} (h : w.heap[vb]? = some (.cells #[.int .i64 x, .int .i64 y] T (0, 0))) :
    ∀ j v, [Value.int .i64 x, Value.int .i64 y][j]? = some v → w.cell? ((⟨vb, 0, none⟩ : Addr).add j) = some v := by
  intro j v hj
  rw [Addr.add_lit, Nat.zero_add]
  match j, hj with
  | 0, hj =>
    simp at hj
    subst hj
    exact (cells2_of_heap h).1
  | 1, hj =>
    simp at hj
    subst hj
    exact (cells2_of_heap h).2

theorem news_of_row {w : World} {g n at_ : Nat} {cur : List Value} {hs : List (Int × Int)} {T : TypeId} (hg : w.heap[g]? = some (.cells cur.toArray T (0, 0))) (ht : cur.take (n * 2) = cells2 hs) (o : Nat) (ho : o = at_ * 2) :
    ∀ j v, (cells2 (hs.drop at_))[j]? = some v → w.cell? ((⟨g, o, none⟩ : Addr).add j) = some v := by
  intro j v hj
  rw [Addr.add_lit]
  rw [← cells2_drop, List.getElem?_drop, ← ht, List.getElem?_take] at hj
  split at hj
  · rw [ho]
    simp [World.cell?, hg, hj]
  · cases hj

set_option maxRecDepth 100000 in
set_option maxHeartbeats 1000000 in
/-- There is room, and the place is not the end. -/
theorem insert_shift (base g n cap at_ vb : Nat) (hs : List (Int × Int)) (x y : Int) (w : World) (hown : w.ownsRow base 44 2 (.slice (some ⟨g, 0, none⟩) n cap) n (cells2 hs)) (hat : at_ < n) (hroom : n + 1 ≤ cap)
    (hvg : vb ≠ g) (hv : w.heap[vb]? = some (.cells #[.int .i64 x, .int .i64 y] 44 (0, 0))) :
    Calls Tryz.prog 145 #[.slice (some ⟨g, 0, none⟩) n cap, .int .i64 at_, .slice (some ⟨vb, 0, none⟩) 1 1] w fun e w' =>
      e = .returned (.slice (some ⟨g, 0, none⟩) (n + 1) cap) ∧ w'.ownsRow base 44 2 (.slice (some ⟨g, 0, none⟩) (n + 1) cap) (n + 1) (cells2 (hs.take at_ ++ (x, y) :: hs.drop at_)) ∧ w.grownBy w' (some g) := by
  have hl2 : hs.length = n := by have := hown.1; rw [cells2_len] at this; omega
  obtain ⟨cur, hbg, hg, hcm, hcs, ht⟩ : ∃ cur : List Value, base ≤ g ∧ w.heap[g]? = some (.cells cur.toArray 44 (0, 0)) ∧ cap ≤ maxLen ∧ cur.length = cap * 2 ∧ cur.take (n * 2) = cells2 hs := by
    rcases hown.2 with ⟨h', _⟩ | ⟨g', cap', cur, h', hb, hg, hnc, hcm, hcs, htake⟩
    · simp at h'
    · simp only [Value.slice.injEq, Option.some.injEq, Addr.mk.injEq, and_true, true_and] at h'
      obtain ⟨rfl, rfl⟩ := h'
      exact ⟨cur.toList, hb, by simpa using hg, hcm, by simpa using hcs, htake⟩
  have R := shift_row x y hl2 hcs ht hat hroom
  have HR := hide R
  have HT := hide ht
  have HCS := hide hcs
  have HG := hide hg
  have HV := hide hv
  have hov : ∀ lb cb o, (callFunc 155 #[.slice (some ⟨vb, 0, none⟩) 1 1, .slice (some ⟨g, o, none⟩) lb cb]).run Tryz.prog w = .ok (.value (.bool false)) w := fun lb cb o => by
    rw [run_callFunc_extern Tryz.func155 (by kernel_rfl) (by kernel_rfl) (by kernel_rfl) (e := Extern.SlicesOverlaps.overlaps #[31, 31] #[4]) (by kernel_rfl),
      Lib.run_overlaps_apart w 31 4 44 Tryz.underlying31 2 Tryz.sizeOf44 ⟨vb, 0, none⟩ ⟨g, o, none⟩ 1 1 lb cb hvg 44 44 2 (cap * 2) (by simp [World.shape?, hv]) (by simp [World.shape?, hg, hcs]) (by omega) (by simp [World.frozen?, hv]) (by simp [World.frozen?, hv])]
    rfl
  have hbd : (cap : Int) ≤ 9223372036854775807 := by unfold maxLen at hcm; omega
  have hz2 : ¬ ((at_ : Int) = (n : Int)) := by omega
  have hw1 : IntKind.i64.wrap ((at_ : Int) + 1) = (at_ : Int) + 1 := by rw [IntKind.wrap_i64]; omega
  have hb1 : (0 : Int) ≤ (at_ : Int) + 1 := by omega
  have htn : ((at_ : Int) + 1).toNat = at_ + 1 := by omega
  have hb2 : ¬ (cap = at_ + 1) := by omega
  have hb4 : ¬ (cap = at_) := by omega
  have hb3 : (at_ : Int) ≤ (n : Int) + 1 := by omega
  have hin : (at_ : Int) ≤ (n : Int) := by omega
  have HCM := hcm
  clear R ht hcs hg hv hown hcm
  go_enter Tryz.func145, Tryz.ntmps145
  go_wp2_with (simp only [hov])
  have m1 : Nat.min (n + 1 - at_) (n + 1 - (at_ + 1)) = n - at_ := by simp only [Nat.min_def]; split <;> omega
  have m2 : (cells2 (hs.drop at_)).length = (n - at_) * 2 := by rw [cells2_len, List.length_drop, hl2]
  have m3 : (at_ + 1) * 2 + (cells2 (hs.drop at_)).length ≤ cur.length := by rw [m2, unhide HCS]; omega
  have M1 := hide m1
  have M2 := hide m2
  have M3 := hide m3
  clear m1 m2 m3
  go_region_law (first
    | (refine step_copy_hits rfl _ _ rfl g ((at_ + 1) * 2) (n + 1 - (at_ + 1)) (cap - (at_ + 1)) ⟨g, at_ * 2, none⟩ (n + 1 - at_) (cap - at_) (by simp [Act.eval, Act.put]) (by simp [Act.eval, Act.put]) cur 44 (cells2 (hs.drop at_)) (unhide HG) (n - at_) (unhide M1) (unhide M2) (news_of_row (unhide HG) (unhide HT) _ rfl) (unhide M3) (cells2_one _) ?_; intro w1 G1 B1; have GG1 := hide G1; have BB1 := hide (show w.grownBy w1 (some g) from ⟨B1.os, B1.tape, B1.output, B1.size, B1.block⟩); clear G1 B1))
  have V1 : w1.heap[vb]? = some (.cells #[.int .i64 x, .int .i64 y] 44 (0, 0)) := ((unhide BB1).block vb (lt_of_block (unhide HV)) (by simpa using hvg)).trans (unhide HV)
  have m4 : at_ * 2 + [Value.int .i64 x, Value.int .i64 y].length ≤ (laidOver cur ((at_ + 1) * 2) (cells2 (hs.drop at_))).length := by
    rw [laidOver_len (unhide M3), unhide HCS]
    simp
    omega
  have m5 : Nat.min 1 (n + 1 - at_) = 1 := by simp only [Nat.min_def]; split <;> omega
  have HV1 := hide V1
  have M4 := hide m4
  have M5 := hide m5
  clear V1 m4 m5
  obtain ⟨w2, hcp, G2, B2⟩ := run_copy_hits w1 3 g (at_ * 2) (n + 1 - at_) (cap - at_) ⟨vb, 0, none⟩ 1 1 _ 44 [Value.int .i64 x, Value.int .i64 y] (unhide GG1) 1 (unhide M5) rfl (news_of_heap (unhide HV1)) (unhide M4) (by simp [Value.oneCell'])
  have GG2 := hide G2
  have BB2 := hide B2
  clear G2 B2
  go_wp2_with (simp only [hcp])
  go_ret
  have e4 : (cells2 (hs.take at_ ++ (x, y) :: hs.drop at_)).length = (n + 1) * 2 := by
    rw [cells2_len]
    simp
    omega
  exact ⟨rfl, ⟨e4, .inr ⟨g, cap, _, rfl, hbg, unhide GG2, hroom, HCM, by simpa using (unhide HR).1, by simpa using (unhide HR).2⟩⟩, grown_trans (unhide BB1) (unhide BB2)⟩

/-- append of zero hits onto a row's head, where there is no room: a new row that holds that head. -/
theorem run_append_zeros (w : World) (g at_ k cap : Nat) (hs : List (Int × Int)) (hl : at_ ≤ hs.length) (hc : ∀ j v, (cells2 hs)[j]? = some v → w.cell? ((⟨g, 0, none⟩ : Addr).add j) = some v) (h0 : 0 < k) (hfull : cap < at_ + k) (hbig : at_ + k ≤ 100000000) (ty : TypeId) :
    ∃ G row w1, (Builtin.append_ #[31, 3] ty #[.slice (some ⟨g, 0, none⟩) at_ cap, .int .i64 k]).run Tryz.prog w = .ok (.slice (some ⟨w.heap.size, 0, none⟩) (at_ + k) G) w1 ∧
      w1.heap[w.heap.size]? = some (.cells (row : List Value).toArray 44 (0, 0)) ∧ row.length = G * 2 ∧ row.take (at_ * 2) = cells2 (hs.take at_) ∧ at_ + k ≤ G ∧ G ≤ maxLen ∧ w.grownBy w1 none ∧ w1.heap.size = w.heap.size + 1 := by
  obtain ⟨i0, hi, hz0, hz1, hz2⟩ := info_parts infoHit
  have hlen : (cells2 (hs.take at_)).length = at_ * 2 := by rw [cells2_len]; simp; omega
  have hold : (Builtin.firstCells i0.size at_ (.slice (some ⟨g, 0, none⟩) at_ cap)).run Tryz.prog w.drew = .ok (cells2 (hs.take at_)).toArray w.drew := by
    rw [hz1]
    refine run_firstCells_some w.drew 2 at_ ⟨g, 0, none⟩ at_ cap (cells2 (hs.take at_)) hlen (fun j v hj => ?_)
    rw [← cells2_take, List.getElem?_take] at hj
    split at hj
    · exact hc j v hj
    · cases hj
  have hr := Lib.run_append_grow_zeros w 31 3 ty 44 i0 _ .i64 .i64 Tryz.underlying31 Tryz.underlying3 hi hz0 (some ⟨g, 0, none⟩) at_ cap (cells2 (hs.take at_)) hold k h0 (by omega) hfull (by omega) (by rw [hz2]; omega) (by rw [hz2]; exact growslice_fits hfull (by omega))
  have hge := grownCap_ge w (at_ + k) cap 44
  have hle := grownCap_le_maxLen w (at_ + k) cap 44 (by unfold maxLen; omega)
  generalize grownCap w (at_ + k) cap 44 = G at *
  have hzl : ∀ q, (Builtin.zeroCells (Value.agg #[.int .i64 0, .int .i64 0]).cells q).size = q * 2 := fun q => by rw [size_zeroCells]; rfl
  have hA : ∀ arr : Array Value, arr = (cells2 (hs.take at_)).toArray ++ Builtin.zeroCells (Value.agg #[.int .i64 0, .int .i64 0]).cells k ++ Builtin.zeroCells (Value.agg #[.int .i64 0, .int .i64 0]).cells (G - (at_ + k)) → arr.toList.length = G * 2 ∧ arr.toList.take (at_ * 2) = cells2 (hs.take at_) := by
    rintro arr rfl
    refine ⟨?_, ?_⟩
    · rw [Array.length_toList, Array.size_append, Array.size_append, hzl, hzl, List.size_toArray, hlen]
      omega
    · rw [Array.toList_append, Array.toList_append, List.append_assoc, ← hlen]
      exact List.take_left
  obtain ⟨h1, h2⟩ := hA _ rfl
  refine ⟨G, ((cells2 (hs.take at_)).toArray ++ Builtin.zeroCells (Value.agg #[.int .i64 0, .int .i64 0]).cells k ++ Builtin.zeroCells (Value.agg #[.int .i64 0, .int .i64 0]).cells (G - (at_ + k))).toList, _, hr, ?_, h1, h2, hge, hle, ⟨rfl, rfl, rfl, by simp, fun _ hq _ => heap_alloc_old w.drew _ hq⟩, by simp⟩
  rw [Array.toArray_toList]
  exact heap_alloc_new w.drew _

set_option maxRecDepth 100000 in
set_option maxHeartbeats 1000000 in
/-- There is no room, and the place is not the end: a new row. -/
theorem insert_grow (base g n cap at_ vb : Nat) (hs : List (Int × Int)) (x y : Int) (w : World) (hown : w.ownsRow base 44 2 (.slice (some ⟨g, 0, none⟩) n cap) n (cells2 hs)) (hat : at_ < n) (hroom : ¬ n + 1 ≤ cap) (hn : n < 100000000) (hbase : base ≤ w.heap.size)
    (hv : w.heap[vb]? = some (.cells #[.int .i64 x, .int .i64 y] 44 (0, 0))) :
    Calls Tryz.prog 145 #[.slice (some ⟨g, 0, none⟩) n cap, .int .i64 at_, .slice (some ⟨vb, 0, none⟩) 1 1] w fun e w' =>
      ∃ G, e = .returned (.slice (some ⟨w.heap.size, 0, none⟩) (n + 1) G) ∧ w'.ownsRow base 44 2 (.slice (some ⟨w.heap.size, 0, none⟩) (n + 1) G) (n + 1) (cells2 (hs.take at_ ++ (x, y) :: hs.drop at_)) ∧ w.grownBy w' (some g) := by
  have hl2 : hs.length = n := by have := hown.1; rw [cells2_len] at this; omega
  have hcells := hown.cells (g := g) rfl
  have hnc := own_le' hown
  have hkk : (n : Int) + 1 - (at_ : Int) = ((n + 1 - at_ : Nat) : Int) := by omega
  obtain ⟨cur, hg, ht⟩ : ∃ cur : List Value, w.heap[g]? = some (.cells cur.toArray 44 (0, 0)) ∧ cur.take (n * 2) = cells2 hs := by
    rcases hown.2 with ⟨h', _⟩ | ⟨g', cap', cur, h', hb, hg, hnc, hcm, hcs, htake⟩
    · simp at h'
    · simp only [Value.slice.injEq, Option.some.injEq, Addr.mk.injEq, and_true, true_and] at h'
      obtain ⟨rfl, rfl⟩ := h'
      exact ⟨cur.toList, by simpa using hg, htake⟩
  have hgw : g < w.heap.size := lt_of_block hg
  have hvw : vb < w.heap.size := lt_of_block hv
  have AZ := fun ty => run_append_zeros w g at_ (n + 1 - at_) cap hs (by omega) hcells (by omega) (by omega) (by omega) ty
  rw [show at_ + (n + 1 - at_) = n + 1 by omega] at AZ
  have HAZ := hide AZ
  have HG := hide hg
  have HT := hide ht
  have HV := hide hv
  have hz2 : ¬ ((at_ : Int) = (n : Int)) := by omega
  have hz3 : (cap : Int) < (n : Int) + 1 := by omega
  have hw1 : IntKind.i64.wrap ((at_ : Int) + 1) = (at_ : Int) + 1 := by rw [IntKind.wrap_i64]; omega
  have hb1 : (0 : Int) ≤ (at_ : Int) + 1 := by omega
  have htn : ((at_ : Int) + 1).toNat = at_ + 1 := by omega
  have hb4 : ¬ (cap = at_) := by omega
  have hin : (at_ : Int) ≤ (n : Int) := by omega
  have hac : (at_ : Int) ≤ (cap : Int) := by omega
  have hw2 : IntKind.i64.wrap ((n : Int) + 1 - (at_ : Int)) = (n : Int) + 1 - (at_ : Int) := by rw [IntKind.wrap_i64]; omega
  have HKK := hide hkk
  clear AZ hg ht hv hown hcells hkk
  go_enter Tryz.func145, Tryz.ntmps145
  obtain ⟨G, row, w1, hr, hrow, hrl, hrt, hG1, hG2, hgr, hsz⟩ := unhide HAZ 31
  rw [← unhide HKK] at hr
  have R := grow_row x y hl2 hrl hrt hat hG1
  have HR := hide R
  have m1 : at_ * 2 + [Value.int .i64 x, Value.int .i64 y].length ≤ row.length := by rw [hrl]; simp; omega
  have m5 : Nat.min 1 (n + 1 - at_) = 1 := by simp only [Nat.min_def]; split <;> omega
  have V1 : w1.heap[vb]? = some (.cells #[.int .i64 x, .int .i64 y] 44 (0, 0)) := (hgr.block vb hvw (by simp)).trans (unhide HV)
  have g1 : w1.heap[g]? = some (.cells cur.toArray 44 (0, 0)) := (hgr.block g hgw (by simp)).trans (unhide HG)
  obtain ⟨w2, hcp, G2, B2⟩ := run_copy_hits w1 3 w.heap.size (at_ * 2) (n + 1 - at_) (G - at_) ⟨vb, 0, none⟩ 1 1 _ 44 [Value.int .i64 x, Value.int .i64 y] hrow 1 m5 rfl (news_of_heap V1) m1 (by simp [Value.oneCell'])
  have g2 : w2.heap[g]? = some (.cells cur.toArray 44 (0, 0)) := (B2.block g (by omega) (by simp; omega)).trans g1
  have k1 : Nat.min (n - at_) (n + 1 - (at_ + 1)) = n - at_ := by simp only [Nat.min_def]; split <;> omega
  have k2 : (cells2 (hs.drop at_)).length = (n - at_) * 2 := by rw [cells2_len, List.length_drop, hl2]
  have k3 : (at_ + 1) * 2 + (cells2 (hs.drop at_)).length ≤ (laidOver row (at_ * 2) [Value.int .i64 x, Value.int .i64 y]).length := by rw [laidOver_len m1, k2, hrl]; omega
  have GG2 := hide G2
  have BB2 : Hid (w.grownBy w2 (some g)) := ⟨B2.os.trans hgr.os, B2.tape.trans hgr.tape, B2.output.trans hgr.output, Nat.le_trans hgr.size B2.size, fun i hi _ => (B2.block i (by omega) (by simp; omega)).trans (hgr.block i hi (by simp))⟩
  have HG2 := hide g2
  have K1 := hide k1
  have K2 := hide k2
  have K3 := hide k3
  have HM := hide hG2
  have hGb : (G : Int) ≤ 9223372036854775807 := by unfold maxLen at hG2; omega
  have hGi : ¬ (G = at_) := by omega
  have hGi1 : ¬ (G = at_ + 1) := by omega
  have hn1 : (at_ : Int) ≤ (n : Int) + 1 := by omega
  have hsw2 : w.heap.size < w2.heap.size := by have := B2.size; omega
  clear R m1 m5 V1 g1 g2 k1 k2 k3 G2 B2 hrow hrl hrt hG2 hgr hsz HAZ HG HV
  go_wp2_with (first | (at_builtin; refine Lib.wpList_append_run _ rfl _ _ _ _ rfl _ _ rfl rfl _ _ hr ?_) | simp only [hcp])
  go_region_law (first
    | (refine step_copy_hits rfl _ _ rfl w.heap.size ((at_ + 1) * 2) (n + 1 - (at_ + 1)) (G - (at_ + 1)) ⟨g, at_ * 2, none⟩ (n - at_) (cap - at_) (by simp [Act.eval, Act.put]) (by simp [Act.eval, Act.put]) _ 44 (cells2 (hs.drop at_)) (unhide GG2) (n - at_) (unhide K1) (unhide K2) (news_of_row (unhide HG2) (unhide HT) _ rfl) (unhide K3) (cells2_one _) ?_; intro w3 G3 B3; have GG3 := hide G3; have BB3 := hide (show w2.grownBy w3 (some w.heap.size) from ⟨B3.os, B3.tape, B3.output, B3.size, B3.block⟩); clear G3 B3))
  go_wp2_with fail
  go_ret
  have e4 : (cells2 (hs.take at_ ++ (x, y) :: hs.drop at_)).length = (n + 1) * 2 := by
    rw [cells2_len]
    simp
    omega
  refine ⟨G, rfl, ⟨e4, .inr ⟨w.heap.size, G, _, rfl, hbase, unhide GG3, hG1, unhide HM, by simpa using (unhide HR).1, by simpa using (unhide HR).2⟩⟩, ?_⟩
  have b2 := unhide BB2
  have b3 := unhide BB3
  exact ⟨b3.os.trans b2.os, b3.tape.trans b2.tape, b3.output.trans b2.output, Nat.le_trans b2.size b3.size, fun i hi hr => (b3.block i (by have := b2.size; omega) (by simp; omega)).trans (b2.block i hi hr)⟩

theorem isHits_heap {w : World} {vb : Nat} {x y : Int} (h : w.heap[vb]? = some (.cells #[.int .i64 x, .int .i64 y] 44 (0, 0))) (hwf : Wf2 (x, y)) : IsHits w (.slice (some ⟨vb, 0, none⟩) 1 1) [(x, y)] := by
  refine ⟨_, _, rfl, by simp, ⟨by unfold maxLen; omega, by simp⟩, by simpa using hwf, fun _ => ⟨vb, 0, rfl, fun j a b hj => ?_⟩⟩
  cases j with
  | zero =>
    simp at hj
    obtain ⟨rfl, rfl⟩ := hj
    exact cells2_of_heap h
  | succ j => simp at hj

set_option maxRecDepth 100000 in
set_option maxHeartbeats 1000000 in
/-- At the end. -/
theorem insert_end (base g n cap vb : Nat) (hs : List (Int × Int)) (x y : Int) (w : World) (hown : w.ownsRow base 44 2 (.slice (some ⟨g, 0, none⟩) n cap) n (cells2 hs)) (hn : n < 100000000) (hbase : base ≤ w.heap.size)
    (hv : w.heap[vb]? = some (.cells #[.int .i64 x, .int .i64 y] 44 (0, 0))) (hwf : Wf2 (x, y)) :
    Calls Tryz.prog 145 #[.slice (some ⟨g, 0, none⟩) n cap, .int .i64 n, .slice (some ⟨vb, 0, none⟩) 1 1] w fun e w' =>
      ∃ r, e = .returned r ∧ w'.ownsRow base 44 2 r (n + 1) (cells2 (hs ++ [(x, y)])) ∧ w.grownBy w' (some g) := by
  have hnc := own_le' hown
  have X := isHits_heap hv hwf
  have hin : (n : Int) ≤ (cap : Int) := by omega
  have hz : ((n : Int) == (n : Int)) = true := by simp
  have hcm : cap ≤ maxLen := by
    rcases hown.2 with ⟨h', _⟩ | ⟨g', cap', cur, h', hb, hg, hnc, hcm, hcs, htake⟩
    · simp at h'
    · simp only [Value.slice.injEq] at h'
      obtain ⟨-, -, rfl⟩ := h'
      exact hcm
  have hbd : (cap : Int) ≤ 9223372036854775807 := by unfold maxLen at hcm; omega
  clear hv hwf hcm
  by_cases hc : cap = n
  · subst hc
    go_enter Tryz.func145, Tryz.ntmps145
    go_wp2_with (at_builtin; refine wpList_append_hits rfl _ _ rfl base _ cap hs rfl hown _ [(x, y)] rfl X (by simp; omega) hbase ?_)
    intro v' w1 O1 G1 _
    have HO := hide O1
    have HG := hide G1
    clear O1 G1 hown X
    go_wp2_with fail
    go_ret
    exact ⟨v', rfl, unhide HO, unhide HG⟩
  · go_enter Tryz.func145, Tryz.ntmps145
    go_wp2_with (at_builtin; refine wpList_append_hits rfl _ _ rfl base _ n hs rfl hown _ [(x, y)] rfl X (by simp; omega) hbase ?_)
    intro v' w1 O1 G1 _
    have HO := hide O1
    have HG := hide G1
    clear O1 G1 hown X
    go_wp2_with fail
    go_ret
    exact ⟨v', rfl, unhide HO, unhide HG⟩

set_option maxRecDepth 100000 in
set_option maxHeartbeats 1000000 in
/-- Into nothing. -/
theorem insert_nil (base vb : Nat) (x y : Int) (w : World) (hbase : base ≤ w.heap.size)
    (hv : w.heap[vb]? = some (.cells #[.int .i64 x, .int .i64 y] 44 (0, 0))) (hwf : Wf2 (x, y)) :
    Calls Tryz.prog 145 #[.slice none 0 0, .int .i64 0, .slice (some ⟨vb, 0, none⟩) 1 1] w fun e w' =>
      ∃ r, e = .returned r ∧ w'.ownsRow base 44 2 r (0 + 1) (cells2 ([] ++ [(x, y)])) ∧ w.grownBy w' none := by
  have X := isHits_heap hv hwf
  have O0 : w.ownsRow base 44 2 (.slice none 0 0) 0 (cells2 []) := World.ownsRow_nil _ _ _ _
  have hz : ((0 : Int) == 0) = true := by simp
  clear hv hwf
  go_enter Tryz.func145, Tryz.ntmps145
  go_wp2_with (at_builtin; refine wpList_append_hits rfl _ _ rfl base _ 0 [] rfl O0 _ [(x, y)] rfl X (by simp) hbase ?_)
  intro v' w1 O1 G1 _
  have HO := hide O1
  have HG := hide G1
  clear O1 G1 O0 X
  go_wp2_with fail
  go_ret
  exact ⟨v', rfl, unhide HO, unhide HG⟩

/-- slices.Insert of one hit into a row of the call's own. -/
theorem implInsert (base : Nat) (v : Value) (n at_ vb : Nat) (hs : List (Int × Int)) (x y : Int) (w : World) (hown : w.ownsRow base 44 2 v n (cells2 hs)) (hat : at_ ≤ n) (hn : n < 100000000) (hbase : base ≤ w.heap.size)
    (hvg : v.ownBlock ≠ some vb) (hv : w.heap[vb]? = some (.cells #[.int .i64 x, .int .i64 y] 44 (0, 0))) (hwf : Wf2 (x, y)) :
    Calls Tryz.prog 145 #[v, .int .i64 at_, .slice (some ⟨vb, 0, none⟩) 1 1] w fun e w' =>
      ∃ r, e = .returned r ∧ w'.ownsRow base 44 2 r (n + 1) (cells2 (hs.take at_ ++ (x, y) :: hs.drop at_)) ∧ w.grownBy w' v.ownBlock := by
  have hl2 : hs.length = n := by have := hown.1; rw [cells2_len] at this; omega
  rcases hown.2 with ⟨rfl, rfl⟩ | ⟨g, cap, cur, rfl, -⟩
  · obtain rfl : hs = [] := List.eq_nil_of_length_eq_zero hl2
    obtain rfl : at_ = 0 := by omega
    exact insert_nil base vb x y w hbase hv hwf
  · have hvg' : vb ≠ g := fun e => hvg (by simp [Value.ownBlock, e])
    by_cases he : at_ = n
    · subst he
      have e1 : hs.take at_ ++ (x, y) :: hs.drop at_ = hs ++ [(x, y)] := by
        rw [List.take_of_length_le (by omega), List.drop_eq_nil_of_le (by omega)]
      rw [e1]
      exact insert_end base g at_ cap vb hs x y w hown hn hbase hv hwf
    · by_cases hr : n + 1 ≤ cap
      · exact (insert_shift base g n cap at_ vb hs x y w hown (by omega) hr hvg' hv).mono fun e w' ⟨h1, h2, h3⟩ => ⟨_, h1, h2, h3⟩
      · exact (insert_grow base g n cap at_ vb hs x y w hown (by omega) hr hn hbase hv).mono fun e w' ⟨G, h1, h2, h3⟩ => ⟨_, h1, h2, h3⟩

end Go.Proofs.YtggnnbdjihihiaaGreat

namespace Go.Proofs.YtggnnbdjihihiaaGreat
open Go.RowKit

theorem ins_same {hs : List (Int × Int)} {h : Int × Int} (he : hs[posOf hs h]? = some h) : ins hs h = hs := by
  rw [ins_pos, if_pos he]
  simp
theorem ins_new {hs : List (Int × Int)} {h : Int × Int} (he : ¬ hs[posOf hs h]? = some h) : ins hs h = hs.take (posOf hs h) ++ h :: hs.drop (posOf hs h) := by
  rw [ins_pos, if_neg he]
  simp

set_option maxRecDepth 100000 in
set_option maxHeartbeats 1000000 in
theorem implKeep_go (base : Nat) (ao : Option Addr) (cap : Nat) (hs : List (Int × Int)) (x y : Int) (k : Nat) (w : World) (hown : w.ownsRow base 44 2 (.slice ao hs.length cap) hs.length (cells2 hs)) (hn : hs.length ≤ 100000) (hk : hs.length ≤ k) (hk2 : k ≤ 100000) (hbase : base ≤ w.heap.size) (hwf : ∀ p ∈ hs, Wf2 p) (hwh : Wf2 (x, y)) :
    Calls Tryz.prog 127 #[.slice ao hs.length cap, .agg #[.int .i64 x, .int .i64 y], .int .i64 k, .func (.func 15) #[] #[]] w fun e w' =>
      ∃ r, e = .returned r ∧ w'.ownsRow base 44 2 r ((ins hs (x, y)).take k).length (cells2 ((ins hs (x, y)).take k)) ∧ Below base w w' := by
  have HI := isHits_row hwf hown
  have B0 : Below w.heap.size w (w.alloc (.cells #[.int .i64 x, .int .i64 y] 44)) := (Below.refl _ _).alloc (Nat.le_refl _) _
  obtain ⟨q0, q1⟩ := new_cells (w := w) (T := 44) (x := .int .i64 x) (y := .int .i64 y)
  have HH : Hid (∀ W, Below w.heap.size w W → IsHits W (.slice ao hs.length cap) hs) := fun W hW => HI.later hW
  have HO : Hid (∀ W, Below w.heap.size w W → W.ownsRow base 44 2 (.slice ao hs.length cap) hs.length (cells2 hs)) := fun W hW => own_below hown hW
  have HWF := hide hwf
  clear hown HI hwf
  go_enter Tryz.func127, Tryz.ntmps127
  go_wp2_with fail
  go_loopw [9] (fun i wr => ∃ j : Nat, j ≤ hs.length ∧ i = .int .i64 j ∧ j + posOf (hs.drop j) (x, y) = posOf hs (x, y) ∧ wr.cell? ⟨w.heap.size, 0, none⟩ = some (.int .i64 x) ∧ wr.cell? ⟨w.heap.size, 1, none⟩ = some (.int .i64 y) ∧ Below w.heap.size w wr) (fun i _ => hs.length - (intOf i).toNat)
  case atStart => exact ⟨0, Nat.zero_le _, rfl, by simp, q0, q1, B0⟩
  case round =>
    obtain ⟨j, hj, rfl, hps, r0, r1, hB⟩ := hrel
    clear q0 q1 B0
    have HPS := hide hps
    have HB := hide hB
    clear hps hB
    go_upto_region 2 with fail
    go_cut [22] from 10 to 24 (fun s22 wx => s22 = .bool (goOn hs (x, y) j) ∧ wx.cell? ⟨w.heap.size, 0, none⟩ = some (.int .i64 x) ∧ wx.cell? ⟨w.heap.size, 1, none⟩ = some (.int .i64 y) ∧ Below w.heap.size w wx)
    case first =>
      by_cases hlt : j < hs.length
      · obtain ⟨x2, y2, hxy⟩ : ∃ x y, hs[j]? = some (x, y) := ⟨hs[j].1, hs[j].2, by simp [hlt]⟩
        obtain ⟨_, _, e1, _, _, _, hcc⟩ := unhide HH wr (unhide HB)
        simp only [Value.slice.injEq] at e1
        obtain ⟨rfl, -, rfl⟩ := e1
        obtain ⟨b, off, rfl, hcd⟩ := hcc (by omega)
        obtain ⟨p1, p2⟩ := hcd j x2 y2 hxy
        have hgo : goOn hs (x, y) j = bet (x2, y2) (x, y) := by simp [goOn, hxy]
        have HG := hide hgo
        have g1 : decide ((j : Int) < (hs.length : Int)) = true := by simp; omega
        have g3 : (j : Int) < (hs.length : Int) := by omega
        have g5 : (0 : Int) ≤ (j : Int) := by omega
        have LB : Hid (∀ W, Calls Tryz.prog 15 #[.agg #[.int .i64 x2, .int .i64 y2], .agg #[.int .i64 x, .int .i64 y]] W fun e w' => e = .returned (.bool (bet (x2, y2) (x, y))) ∧ Below W.heap.size W w') := fun W => implBetter x2 y2 x y W
        clear hxy hgo hcc hcd HPS HWF HH HO
        go_region_held3 (fun w' => Below wr.heap.size wr w' ∧ w'.cell? ⟨b, off + j * 2, none⟩ = some (.int .i64 x2) ∧ w'.cell? ⟨b, off + j * 2 + 1, none⟩ = some (.int .i64 y2) ∧ w'.cell? ⟨w.heap.size, 0, none⟩ = some (.int .i64 x) ∧ w'.cell? ⟨w.heap.size, 1, none⟩ = some (.int .i64 y))
          (first
            | exact ⟨(Below.refl _ _).drew, p1, p2, r0, r1⟩
            | (refine ⟨below_keep2 ?_ hb2, cell_keep hb2 ?_, cell_keep hb2 ?_, cell_keep hb2 ?_, cell_keep hb2 ?_⟩ <;> (first | assumption | (go_split_ands; assumption)))
            | go_keep)
          (first
            | (go_at_call 15; refine (unhide LB _).mono ?_; rintro e w2 ⟨rfl, hb2⟩))
        go_wp2_with fail
        go_meet
        refine ⟨congrArg Value.bool (unhide HG).symm, ?_, ?_, below_keep2 (unhide HB) ?_⟩ <;> (first | assumption | (go_split_ands; assumption))
      · obtain rfl : j = hs.length := by omega
        have hgo : goOn hs (x, y) hs.length = false := by simp [goOn]
        have HG := hide hgo
        have g1 : decide ((hs.length : Int) < (hs.length : Int)) = false := by simp
        clear hgo HPS HWF HH HO
        go_quiet (fail)
        go_wp2_with fail
        go_meet
        exact ⟨congrArg Value.bool (unhide HG).symm, r0, r1, below_drewN (unhide HB) _⟩
    case rest =>
    obtain ⟨rfl, s0, s1, hBc⟩ := hcut
    clear r0 r1 HB
    cases hg : goOn hs (x, y) j with
    | true =>
      obtain ⟨hlt, he⟩ := goOn_true hg
      have HP2 : Hid (j + 1 + posOf (hs.drop (j + 1)) (x, y) = posOf hs (x, y)) := by
        show j + 1 + posOf (hs.drop (j + 1)) (x, y) = posOf hs (x, y)
        have := unhide HPS
        omega
      have HBc := hide hBc
      clear he HPS hg hBc
      go_wp2_with fail
      go_roundw
      case rel => exact ⟨j + 1, by omega, by go_num, unhide HP2, s0, s1, unhide HBc⟩
      case measure => simp [intOf]; omega
    | false =>
      have hpo := goOn_false hg
      have hps := unhide HPS
      rw [hpo, Nat.add_zero] at hps
      have HE := hide hps
      have HBc := hide hBc
      clear hpo hps hg hBc HPS
      go_upto_region 4 with fail
      go_cut [36] from 25 to 35 (fun s36 wx => s36 = .bool (decide (hs[j]? = some (x, y))) ∧ wx.cell? ⟨w.heap.size, 0, none⟩ = some (.int .i64 x) ∧ wx.cell? ⟨w.heap.size, 1, none⟩ = some (.int .i64 y) ∧ Below w.heap.size w wx)
      case first =>
        by_cases hlt : j < hs.length
        · obtain ⟨x2, y2, hxy⟩ : ∃ x y, hs[j]? = some (x, y) := ⟨hs[j].1, hs[j].2, by simp [hlt]⟩
          obtain ⟨_, _, e1, _, _, _, hcc⟩ := unhide HH wc (unhide HBc)
          simp only [Value.slice.injEq] at e1
          obtain ⟨rfl, -, rfl⟩ := e1
          obtain ⟨b, off, rfl, hcd⟩ := hcc (by omega)
          obtain ⟨p1, p2⟩ := hcd j x2 y2 hxy
          have hd : decide (hs[j]? = some (x, y)) = (x2 == x && y2 == y) := by
            rw [hxy]
            by_cases h1 : x2 = x <;> by_cases h2 : y2 = y <;> simp [h1, h2]
          have HG := hide hd
          have g1 : decide ((j : Int) < (hs.length : Int)) = true := by simp; omega
          have g3 : (j : Int) < (hs.length : Int) := by omega
          have g5 : (0 : Int) ≤ (j : Int) := by omega
          have hin := eqIn2 x2 y2 x y
          have hne := eql2 x2 y2 x y
          clear hxy hcc hcd hd HWF HH HO
          go_quiet (fail)
          go_wp2_with fail
          go_meet
          exact ⟨congrArg Value.bool (unhide HG).symm, s0, s1, below_drewN (unhide HBc) _⟩
        · obtain rfl : j = hs.length := by omega
          have hd : decide (hs[hs.length]? = some (x, y)) = false := by simp
          have HG := hide hd
          have g1 : decide ((hs.length : Int) < (hs.length : Int)) = false := by simp
          clear hd HWF HH HO
          go_quiet (fail)
          go_wp2_with fail
          go_meet
          exact ⟨congrArg Value.bool (unhide HG).symm, s0, s1, below_drewN (unhide HBc) _⟩
      case rest =>
      obtain ⟨rfl, u0, u1, hb3⟩ := hcut
      clear s0 s1 HBc
      have hj' := unhide HE
      by_cases hd : hs[j]? = some (x, y)
      · have d1 : decide (hs[j]? = some (x, y)) = true := by simp [hd]
        rw [d1]
        have hi : ins hs (x, y) = hs := ins_same (by rw [← hj']; exact hd)
        have O3 := unhide HO _ hb3
        have e1 : (ins hs (x, y)).take k = hs := by rw [hi, List.take_of_length_le hk]
        have HE1 := hide e1
        have HO3 := hide O3
        have HB3 := hide (hb3.mono hbase)
        clear d1 hd hi O3 e1 hb3 HH HO HWF u0 u1 hj'
        go_wp2_with fail
        go_ret
        refine ⟨_, rfl, ?_, unhide HB3⟩
        rw [unhide HE1]
        exact unhide HO3
      · have d1 : decide (hs[j]? = some (x, y)) = false := by simp [hd]
        rw [d1]
        have hi : ins hs (x, y) = hs.take j ++ (x, y) :: hs.drop j := by
          rw [ins_new (by rw [← hj']; exact hd), ← hj']
        have HI := hide hi
        have O3 := (unhide HO _ hb3).alloc (.cells #[.int .i64 x, .int .i64 y] 44)
        have hne : (Value.slice ao hs.length cap).ownBlock ≠ some wc.heap.size := fun e => by have := ((unhide HO _ hb3).lt _ e).2; omega
        have bs : base ≤ wc.heap.size := Nat.le_trans hbase hb3.size
        have L := implInsert base (.slice ao hs.length cap) hs.length j wc.heap.size hs x y (wc.alloc (.cells #[.int .i64 x, .int .i64 y] 44)) O3 hj (by omega) (by simp; omega) hne (by simpa using heap_alloc_new wc (.cells #[.int .i64 x, .int .i64 y] 44)) hwh
        have b4 : Below base w (wc.alloc (.cells #[.int .i64 x, .int .i64 y] 44)) := (hb3.mono hbase).alloc bs _
        have HB4 := hide b4
        have hlo : ∀ q, (Value.slice ao hs.length cap).ownBlock = some q → base ≤ q := fun q hq => ((unhide HO _ hb3).lt q hq).1
        have HLO := hide hlo
        have HBS := hide bs
        clear d1 hd hi O3 hne hb3 b4 hlo HH HO HWF bs hj'
        go_wp2_with fail
        refine L.mono ?_
        rintro e w5 ⟨r, rfl, O5, G5⟩
        have b5 : Below base w w5 := (unhide HB4).grown G5 (by have := unhide HBS; simp; omega) (fun q hq => unhide HLO q hq)
        rw [← unhide HI] at O5
        have hlen : hs.length + 1 = (ins hs (x, y)).length := by
          have := O5.1
          rw [cells2_len] at this
          omega
        obtain ⟨g, cp, rfl⟩ : ∃ g cp, r = .slice (some ⟨g, 0, none⟩) (hs.length + 1) cp := by
          rcases O5.2 with ⟨_, h0⟩ | ⟨g, cp, cur, rfl, _⟩
          · omega
          · exact ⟨g, cp, rfl⟩
        have hle := own_le O5
        have HB5 := hide b5
        clear L G5 b5 u0 u1 HB4
        by_cases hkk : hs.length = k
        · have O6 := own_take O5 k (by omega)
          have e2 : ((ins hs (x, y)).take k).length = k := by simp; omega
          have HO6 := hide O6
          have HE2 := hide e2
          have c1 : ((k : Nat) : Int) ≤ (cp : Int) := by omega
          have d2 : decide ((k : Int) < (hs.length : Int) + 1) = true := by simp; omega
          clear O5 O6 e2
          go_wp2_with fail
          go_ret
          refine ⟨_, rfl, ?_, unhide HB5⟩
          rw [unhide HE2]
          exact unhide HO6
        · have e1 : (ins hs (x, y)).take k = ins hs (x, y) := List.take_of_length_le (by omega)
          have HE1 := hide e1
          have HLE := hide hlen
          have HO5 := hide O5
          have d2 : decide ((k : Int) < (hs.length : Int) + 1) = false := by simp; omega
          clear O5 e1 hlen
          go_wp2_with fail
          go_ret
          refine ⟨_, rfl, ?_, unhide HB5⟩
          rw [unhide HE1, ← unhide HLE]
          exact unhide HO5

/-- keepHit. -/
theorem implKeep (base : Nat) (v : Value) (hs : List (Int × Int)) (x y : Int) (k : Nat) (w : World) (hown : w.ownsRow base 44 2 v hs.length (cells2 hs)) (hn : hs.length ≤ 100000) (hk : hs.length ≤ k) (hk2 : k ≤ 100000) (hbase : base ≤ w.heap.size) (hwf : ∀ p ∈ hs, Wf2 p) (hwh : Wf2 (x, y)) :
    Calls Tryz.prog 127 #[v, .agg #[.int .i64 x, .int .i64 y], .int .i64 k, .func (.func 15) #[] #[]] w fun e w' =>
      ∃ r, e = .returned r ∧ w'.ownsRow base 44 2 r ((ins hs (x, y)).take k).length (cells2 ((ins hs (x, y)).take k)) ∧ Below base w w' := by
  obtain ⟨ao, cap, rfl⟩ := own_shape hown
  exact implKeep_go base ao cap hs x y k w hown hn hk hk2 hbase hwf hwh

end Go.Proofs.YtggnnbdjihihiaaGreat

namespace Go.Proofs.YtggnnbdjihihiaaGreat
open Go.RowKit

set_option maxHeartbeats 1000000 in
theorem implFirst (v : Value) (hs : List (Int × Int)) (k : Nat) (w : World) (h : IsHits w v hs) (hn : hs.length ≤ 100000) (hk : k ≤ 100) :
    Calls Tryz.prog 91 #[v, .int .i64 k, .func (.func 15) #[] #[]] w fun e w' =>
      ∃ r, e = .returned r ∧ w'.ownsRow w.heap.size 44 2 r (best k hs).length (cells2 (best k hs)) ∧ Below w.heap.size w w' := by
  obtain ⟨ao, cap, rfl, h1, h2, hwf, hc⟩ := h
  have HWF := hide hwf
  clear hwf h2
  go_enter Tryz.func91, Tryz.ntmps91
  go_wp2_with fail
  go_loopw [7, 12] (fun v i wr => ∃ (j : Nat) (a : Option Addr) (cp : Nat), j ≤ hs.length ∧ i = .int .i64 j ∧ v = .slice a (best k (hs.take j)).length cp ∧ wr.ownsRow w.heap.size 44 2 v (best k (hs.take j)).length (cells2 (best k (hs.take j))) ∧ Below w.heap.size w wr)
    (fun _ i _ => hs.length - (intOf i).toNat)
  case atStart => exact ⟨0, none, 0, Nat.zero_le _, rfl, rfl, World.ownsRow_nil _ _ _ _, Below.refl _ _⟩
  case round =>
    obtain ⟨j, a, cp, hj, rfl, rfl, hown, hB⟩ := hrel
    by_cases hlt : j < hs.length
    · obtain ⟨x, y, hxy⟩ : ∃ x y, hs[j]? = some (x, y) := ⟨hs[j].1, hs[j].2, by simp [hlt]⟩
      obtain ⟨b, off, rfl, hcd⟩ := hc (by omega)
      have c1 := (hB.cell (World.block_lt_of_cell? _ _ (hcd j x y hxy).1)).trans (hcd j x y hxy).1
      have c2 := (hB.cell (World.block_lt_of_cell? _ _ (hcd j x y hxy).2)).trans (hcd j x y hxy).2
      have hw1 : ∀ p ∈ best k (hs.take j), Wf2 p := fun p hp => unhide HWF p (List.mem_of_mem_take (best_mem hp))
      have hl := best_len k (hs.take j)
      have hwh : Wf2 (x, y) := unhide HWF _ (List.mem_of_getElem? hxy)
      have HS := hide (best_snoc k hs j x y hxy)
      have L := implKeep w.heap.size (.slice a (best k (hs.take j)).length cp) (best k (hs.take j)) x y k (wr.alloc (.cells #[.int .i64 x, .int .i64 y] 44)) (hown.alloc _) (by omega) hl (by omega) (by have := hB.size; simp; omega) hw1 hwh
      rw [← unhide HS] at L
      have HB := hide (hB.alloc hB.size (.cells #[.int .i64 x, .int .i64 y] 44))
      have HC := hide hc
      clear hown hB hc hcd hxy hw1 hl hwh HS
      generalize (best k (hs.take j)).length = n at *
      go_wp2_with fail
      refine L.mono ?_
      rintro e w1 ⟨r, rfl, ho, hb⟩
      obtain ⟨a1, cp1, rfl⟩ := own_shape ho
      have HO := hide ho
      have HB1 := hide ((unhide HB).trans hb)
      clear L ho hb HB c1 c2
      go_wp2_with fail
      go_roundw
      case rel => exact ⟨j + 1, a1, cp1, by omega, by go_num, rfl, unhide HO, unhide HB1⟩
      case measure => simp [intOf]; omega
    · obtain rfl : j = hs.length := by omega
      rw [List.take_length] at hown ⊢
      have HO := hide hown
      have HB := hide hB
      clear hown hB hc
      go_wp2_with fail
      go_ret
      exact ⟨_, rfl, unhide HO, unhide HB⟩

end Go.Proofs.YtggnnbdjihihiaaGreat

namespace Go.Proofs.YtggnnbdjihihiaaGreat
open Go.RowKit

def looseOf (hs : List (Int × Int)) : Int := if 200 < hs.length then 2 else if hs.all oneB then 0 else 3

set_option maxHeartbeats 400000 in
theorem implLoose (v : Value) (hs : List (Int × Int)) (w : World) (h : IsHits w v hs) :
    Calls Tryz.prog 90 #[v] w fun e w' => e = .returned (.int .i64 (looseOf hs)) ∧ Below w.heap.size w w' := by
  obtain ⟨ao, cap, rfl, h1, h2, hwf, hc⟩ := h
  by_cases hn : hs.length ≤ 200
  · have e : looseOf hs = if hs.all oneB then 0 else 3 := by unfold looseOf; rw [if_neg (by omega)]
    rw [e]
    have e0 : ∃ F0 : Int, (if hs.all oneB = true then 0 else 3) = F0 := ⟨_, rfl⟩
    obtain ⟨F0, hF0⟩ := e0
    rw [hF0]
    clear e hwf h2
    go_enter Tryz.func90, Tryz.ntmps90
    go_wp2_with fail
    go_loopw [10] (fun i wr => ∃ k : Nat, k ≤ hs.length ∧ i = .int .i64 k ∧ (if (hs.drop k).all oneB = true then (0 : Int) else 3) = F0 ∧ Below w.heap.size w wr) (fun i _ => hs.length - (intOf i).toNat)
    case atStart => exact ⟨0, Nat.zero_le _, rfl, hF0, Below.refl _ _⟩
    case round =>
      obtain ⟨k, hk, rfl, hF, hB⟩ := hrel
      by_cases hlt : k < hs.length
      · obtain ⟨x, y, hxy⟩ : ∃ x y, hs[k]? = some (x, y) := ⟨hs[k].1, hs[k].2, by simp [hlt]⟩
        obtain ⟨b, off, rfl, hc1⟩ := hc (by omega)
        have c1 := (hB.cell (World.block_lt_of_cell? _ _ (hc1 k x y hxy).1)).trans (hc1 k x y hxy).1
        have c2 := (hB.cell (World.block_lt_of_cell? _ _ (hc1 k x y hxy).2)).trans (hc1 k x y hxy).2
        rw [drop_at hxy, List.all_cons] at hF
        have HF := hide hF
        have HB := hide hB
        clear hF hB hc1 hxy
        go_wp2_with fail
        refine (implIsHit x y _).mono ?_
        rintro e w1 ⟨rfl, hb1⟩
        have hb0 : Below wr.heap.size wr w1 := ((Below.refl _ _).alloc (Nat.le_refl _) _).trans (hb1.mono (by simp))
        have B1 := hide (below_keep2 (unhide HB) hb0)
        cases ho : oneB (x, y) with
        | false =>
          have hF := unhide HF
          rw [ho, Bool.false_and, if_neg (by simp)] at hF
          have HF2 := hide hF
          clear c1 c2 HF HB hF ho hb0 hb1 hc
          go_wp2_with fail
          go_ret
          refine ⟨?_, unhide B1⟩
          rw [← unhide HF2]
          rfl
        | true =>
          have hF := unhide HF
          rw [ho, Bool.true_and] at hF
          have HF2 := hide hF
          clear c1 c2 HF HB hF ho hb0 hb1
          go_wp2_with fail
          go_roundw
          case rel => exact ⟨k + 1, by omega, by go_num, unhide HF2, unhide B1⟩
          case measure => simp [intOf]; omega
      · obtain rfl : k = hs.length := by omega
        rw [List.drop_length, List.all_nil, if_pos rfl] at hF
        have HF := hide hF
        clear hc hF
        go_wp2_with fail
        go_ret
        refine ⟨?_, hB⟩
        rw [← unhide HF]
        rfl
  · have e : looseOf hs = 2 := by unfold looseOf; rw [if_pos (by omega)]
    rw [e]
    have hd : decide ((200 : Int) < (hs.length : Int)) = true := by simp; omega
    clear hc h1 h2 hwf e
    go_enter Tryz.func90, Tryz.ntmps90
    go_wp2_with fail
    go_ret
    exact ⟨rfl, Below.refl _ _⟩

end Go.Proofs.YtggnnbdjihihiaaGreat

namespace Go.Proofs.YtggnnbdjihihiaaGreat
open Go.RowKit

theorem bestCode_eq (hs : List (Int × Int)) (k : Int) : bestCode hs k = if kB k then looseOf hs else 3 := rfl

theorem looseOf_zero {hs : List (Int × Int)} (h : looseOf hs = 0) : hs.length ≤ 200 := by
  unfold looseOf at h
  split at h
  · omega
  · omega

set_option maxRecDepth 100000 in
set_option maxHeartbeats 1000000 in
theorem implBest_all (v : Value) (hs : List (Int × Int)) (k : Int) (w : World) (h : IsHits w v hs) :
    Calls Tryz.prog 43 #[v, .int .i64 k] w fun e w' => Told w w' e (bestCode hs k) (bestList hs k) := by
  have HH := hide h
  have bb : Below w.heap.size w (w.alloc (.cells #[.int .i64 0, .slice none 0 0] 33)) := (Below.refl _ _).alloc (Nat.le_refl _) _
  clear h
  go_enter Tryz.func43, Tryz.ntmps43
  go_wp2_with fail
  refine (implWanted k _).mono ?_
  rintro e w1 ⟨rfl, rfl⟩
  have RV : Hid (∀ W, Below (w.alloc (.cells #[.int .i64 0, .slice none 0 0] 33)).heap.size (w.alloc (.cells #[.int .i64 0, .slice none 0 0] 33)) W → W.cell? ⟨w.heap.size, 0, none⟩ = some (.int .i64 0) ∧ W.cell? ⟨w.heap.size, 1, none⟩ = some (.slice none 0 0) ∧ (∀ o, W.frozen? ⟨w.heap.size, o, none⟩ = false) ∧ w.heap.size < W.heap.size) := fun W hW => resVar hW
  have HBB := hide bb
  clear bb
  generalize hwb : w.alloc (.cells #[.int .i64 0, .slice none 0 0] 33) = wb at *
  clear hwb
  cases hk : kB k with
  | false =>
    have e0 : bestCode hs k = 3 := by simp [bestCode_eq, hk]
    have e1 : bestList hs k = [] := by simp [bestList, e0]
    have hk' : (decide ((0 : Int) ≤ k) && decide (k ≤ 20)) = false := hk
    rw [hk']
    have E0 := hide e0
    have E1 := hide e1
    obtain ⟨z0, z1, z2, z3⟩ := unhide RV wb (Below.refl _ _)
    clear hk hk' e0 e1 RV
    go_wp2_with fail
    refine bodyPost_ret (v := intsRes 3 (.slice none 0 0)) (by simp [results, Tryz.results43, go_sem, intsRes, z0, z1]) rfl ?_
    rw [unhide E0, unhide E1]
    exact told_nil (((unhide HBB).setCell (by simp) _).setCell (by simp) _)
  | true =>
    have hk' : (decide ((0 : Int) ≤ k) && decide (k ≤ 20)) = true := hk
    rw [hk']
    have HK := hide hk
    clear hk hk'
    go_wp2_with fail
    refine (implLoose v hs _ ((unhide HH).later (unhide HBB))).mono ?_
    rintro e w2 ⟨rfl, hb2⟩
    have HB2 := hide hb2
    have HBW2 := hide (below_keep2 (unhide HBB) hb2)
    clear hb2
    by_cases hf : looseOf hs = 0
    · rw [hf]
      have hkk : 0 ≤ k ∧ k ≤ 20 := by simpa [kB] using unhide HK
      obtain ⟨m, rfl⟩ : ∃ m : Nat, k = m := ⟨k.toNat, by omega⟩
      have e0 : bestCode hs m = 0 := by simp [bestCode_eq, unhide HK, hf]
      have e1 : bestList hs m = best m hs := by simp [bestList, e0]
      have E0 := hide e0
      have E1 := hide e1
      have hl := looseOf_zero hf
      have L := implFirst v hs m w2 ((unhide HH).later (unhide HBW2)) (by omega) (by omega)
      clear hf e0 e1 hkk hl
      go_wp2_with fail
      refine L.mono ?_
      rintro e w4 ⟨r, rfl, hown, hb4⟩
      have hb5 := below_keep2 (unhide HB2) hb4
      obtain ⟨z0, z1, z2, z3⟩ := unhide RV w4 hb5
      have HBW4 := hide (below_keep2 (unhide HBW2) hb4)
      have hsz := (unhide RV w2 (unhide HB2)).2.2.2
      have HO2 : Hid (w4.ownsRow (w.heap.size + 1) 44 2 r (best m hs).length (cells2 (best m hs))) := own_mono hsz hown
      obtain ⟨a2, c2, rfl⟩ := own_shape hown
      generalize hln : (best m hs).length = n at *
      clear L hown hb4 hb5 RV
      go_wp2_with fail
      refine bodyPost_ret (v := intsRes 0 (.slice a2 n c2)) (by simp [results, Tryz.results43, go_sem, intsRes, z0, z1]) rfl ?_
      rw [unhide E0, unhide E1]
      refine ⟨_, rfl, ?_, ((unhide HBW4).setCell (by simp) _).setCell (by simp) _⟩
      rw [hln]
      exact own_mono (b := w.heap.size + 1) (by omega) (own_set (base := w.heap.size + 1) (own_set (base := w.heap.size + 1) (unhide HO2) (by simp) _) (by simp) _)
    · have e0 : bestCode hs k = looseOf hs := by simp [bestCode_eq, unhide HK]
      have e1 : bestList hs k = [] := by simp [bestList, e0, hf]
      have E0 := hide e0
      have E1 := hide e1
      have hd : (looseOf hs != 0) = true := by simpa using hf
      obtain ⟨z0, z1, z2, z3⟩ := unhide RV w2 (unhide HB2)
      clear hf e0 e1 RV
      generalize looseOf hs = F at *
      go_wp2_with fail
      refine bodyPost_ret (v := intsRes F (.slice none 0 0)) (by simp [results, Tryz.results43, go_sem, intsRes, z0, z1]) rfl ?_
      rw [unhide E0, unhide E1]
      exact told_nil (((unhide HBW2).setCell (by simp) _).setCell (by simp) _)

end Go.Proofs.YtggnnbdjihihiaaGreat

namespace Go.Proofs.YtggnnbdjihihiaaGreat
open Go.RowKit

theorem probed_step {x : DIvf} {q : List Int} {zs : List (Pl x.lists.length)} {j : Nat} (h : j < zs.length) : probedH x q ((zs.take (j + 1)).map fun y => (y.1 : Int)) = probedH x q ((zs.take j).map fun y => (y.1 : Int)) ++ (hitsL (itsL x.lists zs[j].1) q).map pairH := by
  have e : (zs.take (j + 1)).map (fun y => (y.1 : Int)) = (zs.take j).map (fun y => (y.1 : Int)) ++ [(zs[j].1 : Int)] := by
    rw [List.take_succ_eq_append_getElem h, List.map_append]; rfl
  rw [e, probedH, List.map_append, List.flatten_append]
  simp [probedH, itsL]

set_option maxRecDepth 100000 in
set_option maxHeartbeats 4000000 in
theorem implSearchIvf (cs : List Value) (x : DIvf) (vq : Value) (q : List Int) (k n : Int) (w : World) (h : Lay.tIvf.Reads w cs x) (hq : (Lay.sl Lay.int).Reads w [vq] q) :
    Calls Tryz.prog 9 #[.agg cs.toArray, vq, .int .i64 k, .int .i64 n] w fun e w' => ∃ cs', e = .returned (.agg cs'.toArray) ∧ Lay.tHitsResult.OwnIn w' cs' (searchIvfR x q k n) w.heap.size w'.heap.size ∧ Below w.heap.size w w' := by
  obtain ⟨ac, dc, al, dl, rfl, R0, R1⟩ := open_Ivf h
  obtain ⟨aq, dq, rfl⟩ := open_sl hq
  have nb1 : Below w.heap.size w (w.alloc (.cells #[.slice ac x.centers.length dc, .slice al x.lists.length dl] 27)) := (Below.refl _ _).alloc (Nat.le_refl _) _
  have nb : Below w.heap.size w ((w.alloc (.cells #[.slice ac x.centers.length dc, .slice al x.lists.length dl] 27)).alloc (.cells #[.int .i64 0, .slice none 0 0] 33)) := nb1.alloc (by simp) _
  have bX : Box w.heap.size #[.slice ac x.centers.length dc, .slice al x.lists.length dl] 27 ((w.alloc (.cells #[.slice ac x.centers.length dc, .slice al x.lists.length dl] 27)).alloc (.cells #[.int .i64 0, .slice none 0 0] 33)) w.heap.size := (newBox (Nat.le_refl _)).grow _
  have bR : Box w.heap.size #[.int .i64 0, .slice none 0 0] 33 ((w.alloc (.cells #[.slice ac x.centers.length dc, .slice al x.lists.length dl] 27)).alloc (.cells #[.int .i64 0, .slice none 0 0] 33)) (w.heap.size + 1) := newBoxAt (by omega) (by simp)
  have L := hide (probeFC x q ac dc al dl aq dq _ (R0.later nb) (R1.later nb) (hq.later nb))
  have c0 := bX.at 0 _ rfl
  have c1 := bX.at 1 _ rfl
  have H0 := hide (R0.later nb)
  have H1 := hide (R1.later nb)
  have HQ := hide (hq.later nb)
  clear h R0 R1 nb1 hq
  go_enter Tryz.func9, Tryz.ntmps9
  go_wp2_with fail
  generalize (w.alloc (.cells #[.slice ac x.centers.length dc, .slice al x.lists.length dl] 27)).alloc (.cells #[.int .i64 0, .slice none 0 0] 33) = W0 at *
  refine (unhide L).mono ?_
  rintro e w1 ⟨rfl, hb⟩
  have hW0 := bR.lt
  replace bR := bR.keep hb
  replace bX := bX.keep hb
  replace nb := nb.trans (hb.mono nb.size)
  have z0 : w1.cell? ⟨w.heap.size + 1, 0, none⟩ = some (.int .i64 0) := bR.at 0 _ rfl
  have z1 : w1.cell? ⟨w.heap.size + 1, 1, none⟩ = some (.slice none 0 0) := bR.at 1 _ rfl
  have f0 := bR.soft 0
  have f1 := bR.soft 1
  have l0 := bR.lt
  have HB := hide nb
  have HR := hide bR
  have HBX := hide bX
  replace H0 := hide ((unhide H0).later hb)
  replace H1 := hide ((unhide H1).later hb)
  replace HQ := hide ((unhide HQ).later hb)
  clear hb L c0 c1 nb bR bX
  by_cases hf : probeF x q = 0
  · rw [hf]
    have hif : ivfFault x = 0 := by
      unfold probeF at hf
      by_cases h : ivfFault x = 0
      · exact h
      · rw [if_neg h] at hf; exact absurd hf h
    have hvf : vecFault q = 0 := by unfold probeF at hf; rw [if_pos hif] at hf; exact hf
    have HIF := hide hif
    have HVF := hide hvf
    clear hf hif hvf
    go_wp2_with fail
    refine (implWanted k _).mono ?_
    rintro e w1 ⟨rfl, rfl⟩
    rw [show (decide (0 ≤ k) && decide (k ≤ 20)) = kB k from rfl]
    cases hk : kB k with
    | false =>
      have HG : Hid (searchIvfR x q k n = ⟨3, []⟩) := by
        show searchIvfR x q k n = _
        rw [searchIvfR, if_pos (unhide HIF), if_pos (unhide HVF), hk]; rfl
      clear hk
      go_wp2_with fail
      refine bodyPost_ret (v := .agg #[.int .i64 3, .slice none 0 0]) (by simp [results, Tryz.results9, go_sem, z0, z1]) rfl ?_
      rw [unhide HG]
      exact ⟨[.int .i64 3, .slice none 0 0], rfl, own_codeHits (by decide), ((unhide HB).setCell (by simp) _).setCell (by simp) _⟩
    | true =>
      have HKB := hide hk
      clear hk
      go_wp2_with fail
      refine (countC7 n _).mono ?_
      rintro e w1 ⟨rfl, rfl⟩
      cases hn : nB n with
      | false =>
        have HG : Hid (searchIvfR x q k n = ⟨3, []⟩) := by
          show searchIvfR x q k n = _
          rw [searchIvfR, if_pos (unhide HIF), if_pos (unhide HVF), hn, Bool.and_false]; rfl
        clear hn
        go_wp2_with fail
        refine bodyPost_ret (v := .agg #[.int .i64 3, .slice none 0 0]) (by simp [results, Tryz.results9, go_sem, z0, z1]) rfl ?_
        rw [unhide HG]
        exact ⟨[.int .i64 3, .slice none 0 0], rfl, own_codeHits (by decide), ((unhide HB).setCell (by simp) _).setCell (by simp) _⟩
      | true =>
        obtain ⟨m, rfl, hm6⟩ : ∃ m : Nat, n = m ∧ m ≤ 6 := by
          simp only [nB, Bool.and_eq_true, decide_eq_true_eq] at hn
          exact ⟨n.toNat, by omega, by omega⟩
        have HG : Hid (searchIvfR x q k m = ⟨0, (best k.toNat (probedH x q (probesI x.centers q m))).map dhit⟩) := by
          show searchIvfR x q k m = _
          rw [searchIvfR, if_pos (unhide HIF), if_pos (unhide HVF), unhide HKB, hn]
          rfl
        have hifz := ivfFault_zero (unhide HIF)
        have hc6 := (centersFault_zero hifz.1).1.2
        have HLF := hide (list_facts hifz.2.2.1)
        have HNL : Hid (x.lists.length = x.centers.length) := hifz.2.1
        have LP := hide (probedC x q m ac dc al dl aq dq w1 (unhide H0) (unhide H1) (unhide HQ) hifz.1 hifz.2.1 (unhide HVF) hm6)
        have c0 := (unhide HBX).at 0 _ rfl
        have c1 := (unhide HBX).at 1 _ rfl
        clear hn hifz
        go_wp2_with fail
        refine (unhide LP).mono ?_
        rintro e w2 ⟨v, zs, ia, ic, rfl, hzp, hzr, hO, hb2⟩
        obtain ⟨a2, c2, rfl⟩ := own_form hO
        have HZP := hide hzp
        have hzl : zs.length ≤ 6 := by
          have := congrArg List.length hzp
          rw [List.length_map] at this
          rw [this]
          exact Nat.le_trans (probe_len _ _ _) hm6
        have HPH := hide (fun j => probedH_right (x := x) (q := q) (unhide HLF) (unhide HVF) ((zs.take j).map fun y => (y.1 : Int)))
        have HZR := hide hzr
        have HO := hide hO
        have HW12 := hide hb2
        have HB2 := hide ((unhide HB).trans (hb2.mono (unhide HB).size))
        have HR2 := hide ((unhide HR).keep hb2)
        have HQ2 := hide ((unhide HQ).later hb2)
        clear hO hb2 hzp hzr LP c0 c1 z0 z1 f0 f1 l0 HB HR
        go_wp2_with fail
        go_loopw [10, 34] (fun u i wr => ∃ j : Nat, j ≤ zs.length ∧ i = .int .i64 j ∧ wr.ownsRow w2.heap.size 44 2 u (probedH x q ((zs.take j).map fun y => (y.1 : Int))).length (cells2 (probedH x q ((zs.take j).map fun y => (y.1 : Int)))) ∧ Below w2.heap.size w2 wr) (fun _ i _ => zs.length - (intOf i).toNat)
        case atStart => exact ⟨0, Nat.zero_le _, rfl, World.ownsRow_nil _ _ _ _, Below.refl _ _⟩
        case round =>
          obtain ⟨j, hj, rfl, hown, hB⟩ := hrel
          by_cases hlt : j < zs.length
          · obtain ⟨g2, rfl⟩ : ∃ g, a2 = some ⟨g, 0, none⟩ := by
              rcases (unhide HO).2 with ⟨e, h0⟩ | ⟨g, cap, cur, e, -⟩
              · omega
              · exact ⟨g, by injection e⟩
            have hO2 := own_below (unhide HO) hB
            have hfl : (cellsP ia (fun j => (itsL x.lists j).length) ic zs).length = zs.length * 2 := (unhide HO).1
            have hp := cellsP_at ia (fun j => (itsL x.lists j).length) ic zs j hlt
            have c8 : wr.cell? ⟨g2, j * 2, none⟩ = some (.int .i64 (zs[j].1 : Int)) := (hO2.cellAt (j * 2) (by omega)).trans hp.1
            have c9 : wr.cell? ⟨g2, j * 2 + 1, none⟩ = some (.slice (ia zs[j].1) (itsL x.lists zs[j].1).length (ic zs[j].1)) := (hO2.cellAt (j * 2 + 1) (by omega)).trans hp.2
            have HT9 : Hid (_ = _) := probed_step (x := x) (q := q) (zs := zs) hlt
            have hln : (probedH x q ((zs.take j).map fun y => (y.1 : Int))).length ≤ 180 := by
              have h1 := (unhide HPH j).1
              rw [List.length_map, List.length_take] at h1
              omega
            have hRI := (unhide HZR) zs[j].1 zs[j].2
            have hTF : tableFault (itsL x.lists zs[j].1) = 0 := by rw [itsL_eq zs[j].2]; exact unhide HLF _ (List.getElem_mem zs[j].2)
            have hBw := (unhide HW12).trans (hB.mono (unhide HW12).size)
            generalize probedH x q ((zs.take j).map fun y => (y.1 : Int)) = ph at *
            generalize zs[j] = y at *
            obtain ⟨p, hpp⟩ := y
            dsimp only at c8 c9 HT9 hRI hTF
            generalize itsL x.lists p = its at *
            generalize ia p = ia9 at *
            generalize ic p = ic9 at *
            have nbp : Below wr.heap.size wr (wr.alloc (.cells #[.int .i64 (p : Int), .slice ia9 its.length ic9] 83)) := (Below.refl _ _).alloc (Nat.le_refl _) _
            have bP : Box wr.heap.size #[.int .i64 (p : Int), .slice ia9 its.length ic9] 83 (wr.alloc (.cells #[.int .i64 (p : Int), .slice ia9 its.length ic9] 83)) wr.heap.size := newBox (Nat.le_refl _)
            have hown2 := own_below hown nbp
            have hBn := hBw.trans (nbp.mono hBw.size)
            have hB2n := hB.trans (nbp.mono hB.size)
            have LH := hide (hitsOfC _ its _ q _ (hRI.later hBn) (Lay.ints_reads ((unhide HQ2).later hB2n)) hTF (unhide HVF))
            have HHR := hide (hits_right hTF (unhide HVF))
            have HOW := hide hown2
            have HBN := hide hB2n
            clear hO2 hfl hp hB hown nbp bP hown2 hBw hBn hB2n hRI hTF
            go_wp2_with fail
            clear c8 c9
            generalize wr.alloc (.cells #[.int .i64 (p : Int), .slice ia9 its.length ic9] 83) = Wp at *
            refine (unhide LH).mono ?_
            rintro e w5 ⟨v5, rfl, ho5, hb5⟩
            have hw5 : ∀ p ∈ (hitsL its q).map pairH, Wf2 p := fun p hp => oneB_wf ((unhide HHR).2 p hp)
            have hX5 := isHits_row hw5 ho5
            have hown5 := own_below (unhide HOW) hb5
            have hl5 := (unhide HHR).1
            have hz5 : w2.heap.size ≤ w5.heap.size := Nat.le_trans (unhide HBN).size hb5.size
            have HBN5 := hide ((unhide HBN).trans (hb5.mono (unhide HBN).size))
            clear ho5 hb5 HOW HBN LH hw5
            go_wp2_with (at_builtin; refine wpList_append_hits rfl _ _ rfl w2.heap.size _ ph.length ph rfl hown5 _ ((hitsL its q).map pairH) rfl hX5 ?hn9 hz5 ?_; case hn9 => omega)
            intro v6 w6 ho6 hg6 _
            obtain ⟨a6, c6, rfl⟩ := own_form ho6
            have HO6 := hide ho6
            have HB6 := hide ((unhide HBN5).grown hg6 hz5 (fun j hj => (hown5.lt j hj).1))
            clear ho6 hg6 hown5 hX5 HBN5
            go_wp2_with fail
            go_roundw
            case rel =>
              refine ⟨j + 1, by omega, by go_num, ?_, unhide HB6⟩
              rw [unhide HT9, List.length_append, List.length_map]
              exact unhide HO6
            case measure => simp [intOf]; omega
          · obtain rfl : j = zs.length := by omega
            rw [List.take_length, unhide HZP] at hown
            have hpr := probedH_right (x := x) (q := q) (unhide HLF) (unhide HVF) (probesI x.centers q m)
            have hpl := probe_len x.centers q m
            have hl2 : (probedH x q (probesI x.centers q m)).length ≤ 180 := by omega
            have hwf : ∀ p ∈ probedH x q (probesI x.centers q m), Wf2 p := fun p hp => oneB_wf (hpr.2 p hp)
            obtain ⟨a7, c7, rfl⟩ := own_form hown
            have hI := isHits_row hwf hown
            have hbc : bestCode (probedH x q (probesI x.centers q m)) k = 0 := by rw [bestCode, unhide HKB, if_pos rfl, if_neg (by omega), if_pos (List.all_eq_true.2 hpr.2)]
            have hbl : bestList (probedH x q (probesI x.centers q m)) k = best k.toNat (probedH x q (probesI x.centers q m)) := by rw [bestList, if_pos hbc]
            have L := implBest_all _ _ k wr hI
            rw [hbc, hbl] at L
            have HL2 := hide L
            have HWF := hide hwf
            have HB3 := hide ((unhide HB2).trans (hB.mono (unhide HB2).size))
            have HR3 := hide ((unhide HR2).keep hB)
            clear L hI hown hB hwf hpr hbc hbl
            have hk20 : k ≤ 20 := by have := unhide HKB; simp only [kB, Bool.and_eq_true, decide_eq_true_eq] at this; exact this.2
            go_wp2_with fail
            refine (unhide HL2).mono ?_
            rintro e w3 ⟨r3, rfl, ho3, hb3⟩
            have hO := own_hits ho3 (best_wf (unhide HWF)) (by have := best_len k.toNat (probedH x q (probesI x.centers q m)); omega)
            obtain ⟨ao9, cp9, rfl⟩ := open_sl hO.reads
            simp only [intsRes]
            have bR := (unhide HR3).keep hb3
            have z0 : w3.cell? ⟨w.heap.size + 1, 0, none⟩ = some (.int .i64 0) := bR.at 0 _ rfl
            have z1 : w3.cell? ⟨w.heap.size + 1, 1, none⟩ = some (.slice none 0 0) := bR.at 1 _ rfl
            have f0 := bR.soft 0
            have f1 := bR.soft 1
            have l0 := bR.lt
            have HB9 := hide ((unhide HB3).trans (hb3.mono (unhide HB3).size))
            have HO9 := hide (hO.mono (lo' := w.heap.size + 2) (by have := (unhide HR3).lt; omega) (Nat.le_refl _))
            clear hO hb3 bR ho3
            generalize ((best k.toNat (probedH x q (probesI x.centers q m))).map dhit).length = n9 at *
            go_wp2_with fail
            refine bodyPost_ret (v := .agg #[.int .i64 0, .slice ao9 n9 cp9]) (by simp [results, Tryz.results9, go_sem, z0, z1]) rfl ?_
            rw [unhide HG]
            have hE : Ext (fun c => c = w.heap.size + 1) w3 ((w3.setCell ⟨w.heap.size + 1, 0, none⟩ (.int .i64 0)).setCell ⟨w.heap.size + 1, 1, none⟩ (.slice ao9 n9 cp9)) := ((Ext.refl (fun c => c = w.heap.size + 1) _).setCell ⟨w.heap.size + 1, 0, none⟩ _ rfl).setCell ⟨w.heap.size + 1, 1, none⟩ _ rfl
            exact ⟨[.int .i64 0, .slice ao9 n9 cp9], rfl, own_hitsR (by decide) (((unhide HO9).ext hE (fun c h1 _ h3 => by omega)).mono (by omega) (by simp)), ((unhide HB9).setCell (by simp) _).setCell (by simp) _⟩
  · have hd : (probeF x q != 0) = true := by simpa using hf
    have HG : Hid (searchIvfR x q k n = ⟨probeF x q, []⟩) := by
      show searchIvfR x q k n = _
      unfold searchIvfR probeF
      by_cases h : ivfFault x = 0
      · have hv : vecFault q ≠ 0 := fun hv => hf (by rw [probeF, if_pos h]; exact hv)
        rw [if_pos h, if_pos h, if_neg hv]
      · rw [if_neg h, if_neg h]
    clear hf
    go_wp2_with fail
    refine bodyPost_ret (v := .agg #[.int .i64 (probeF x q), .slice none 0 0]) (by simp [results, Tryz.results9, go_sem, z0, z1]) rfl ?_
    rw [unhide HG]
    exact ⟨[.int .i64 (probeF x q), .slice none 0 0], rfl, own_codeHits (probeF_wf x q), ((unhide HB).setCell (by simp) _).setCell (by simp) _⟩

end Go.Proofs.YtggnnbdjihihiaaGreat

namespace Go.Proofs.YtggnnbdjihihiaaGreat
open Go.RowKit

set_option maxRecDepth 100000 in
set_option maxHeartbeats 2000000 in
theorem specProbes (v : Value) (cs : List DCenter) (vq : Value) (q : List Int) (n : Nat) (w : World) (h : (Lay.sl Lay.tCenter).Reads w [v] cs) (hq : IsInts w vq q) (hfc : centersFault cs = 0) (hfq : vecFault q = 0) (hn : n ≤ 100) :
    Calls Tryz.prog 48 #[v, vq, .int .i64 n] w fun e w' => ∃ v', e = .returned v' ∧ w'.ownsRow w.heap.size 2 1 v' (probesI cs q n).length ((probesI cs q n).map (Value.int .i64)) ∧ Below w.heap.size w w' := by
  obtain ⟨⟨hn1, hn6⟩, hall⟩ := centersFault_zero hfc
  obtain ⟨ao, cap, rfl⟩ := open_sl h
  obtain ⟨b, off, rfl, hbl⟩ := Lay.sl_addr h hn1
  have hvq : ∃ a d, vq = .slice a q.length d := by obtain ⟨a, d, e, -⟩ := hq; exact ⟨a, d, e⟩
  obtain ⟨a2, d2, rfl⟩ := hvq
  have HA := hide hall
  have H := hide h
  have HQ := hide hq
  have HFQ := hide hfq
  have G0 : Grow Lay.tHit (w.alloc (.cells #[] 44)) w.heap.size 44 (.slice (some ⟨w.heap.size, 0, none⟩) 0 0) [] [] [] := Grow.nil (World.ownsRow_lit w #[] 0 (Nat.le_refl _) (Nat.zero_le _) rfl)
  have HG1 := hide G0
  have HB1 := hide ((Below.refl w.heap.size w).alloc (Nat.le_refl _) (.cells #[] 44))
  clear h hq hall hfc hfq G0
  go_enter Tryz.func48, Tryz.ntmps48
  go_wp2_with fail
  go_loopw [7, 8] (fun v i wr => ∃ (k : Nat) (rows : List (List Value)) (bls : List (List Nat)), k ≤ cs.length ∧ i = .int .i64 k ∧ Grow Lay.tHit wr w.heap.size 44 v rows (probeL cs q k) bls ∧ Below w.heap.size w wr) (fun _ i _ => cs.length - (intOf i).toNat)
  case atStart => exact ⟨0, [], [], Nat.zero_le _, rfl, unhide HG1, unhide HB1⟩
  case round =>
    obtain ⟨k, rows, bls, hk, rfl, hG, hB⟩ := hrel
    clear HG1 HB1
    by_cases hlt : k < cs.length
    · obtain ⟨row, hc, hr⟩ := Lay.row_at (unhide H) hlt
      obtain ⟨a1, d1, rfl, R1⟩ := open_Center hr
      have c1 : wr.cell? ⟨b, off + k, none⟩ = some (.slice a1 (cs[k]).vec.length d1) := (hB.cell (p := ⟨b, off + k, none⟩) hbl).trans (cen_cell (hc 0 (by decide)))
      have HT := hide (probeL_step cs q k hlt)
      have HL := hide (probeL_len cs q k)
      have hvx := unhide HA cs[k] (List.getElem_mem hlt)
      clear hc hr
      generalize hx : cs[k] = x at *
      clear hx
      have hbd := cscore_bd hvx (unhide HFQ)
      have HWS : Hid ((Lit.int .i64 (score3 x.vec q)).wf = true) := wf_of_bd (by omega)
      have HWI : Hid ((Lit.int .i64 (k : Int)).wf = true) := wf_of_bd (by omega)
      have L := hide (modelScore3 _ _ x.vec q wr ((Lay.ints_reads R1).later hB) ((unhide HQ).later hB) hvx (unhide HFQ))
      have HB := hide hB
      have HG := hide hG
      clear R1 hG hB hvx hbd
      generalize probeL cs q k = pk at *
      go_wp2_with fail
      refine (unhide L).mono ?_
      rintro e w3 ⟨rfl, hb⟩
      have hG3 := (unhide HG).later hb
      have hz3 : w.heap.size ≤ w3.heap.size := by have := (unhide HB).size; have := hb.size; omega
      replace HB := hide ((unhide HB).trans (hb.mono (unhide HB).size))
      have hlk := unhide HL
      clear c1 L HG hb
      generalize score3 x.vec q = sc at *
      go_wp2_with (at_builtin; refine wpList_append_Hit hG3 (row := [.int .i64 k, .int .i64 sc]) (x := ⟨k, sc⟩) (bl := []) (lies_Hit.2 ⟨rfl, rfl, unhide HWI, unhide HWS⟩) (by simp) rfl _ _ rfl rfl rfl ?hn9 hz3 ?_; case hn9 => omega)
      rintro g5 cp5 w5 hG5 hb5 - hl5 hz5 -
      have HG5 := hide hG5
      have HB5 := hide ((unhide HB).trans hb5)
      clear hG5 hb5 hG3 HB hlk hl5 hz5
      go_wp2_with fail
      go_roundw
      case rel => exact ⟨k + 1, _, _, by omega, by go_num, by rw [unhide HT]; exact unhide HG5, unhide HB5⟩
      case measure => simp [intOf]; omega
    · obtain rfl : k = cs.length := by omega
      obtain ⟨ho, hwf⟩ := grow_hits hG
      have HP : Hid (probesI cs q n = (best n ((probeL cs q cs.length).map pairH)).map Prod.fst) := rfl
      have hpl : ((probeL cs q cs.length).map pairH).length ≤ 6 := by rw [List.length_map, probeL_len]; omega
      generalize (probeL cs q cs.length).map pairH = ps at *
      have L := hide (l2Best _ ps n wr (isHits_row hwf ho) (by omega) hn)
      have HWF : Hid (∀ p ∈ best n ps, Wf2 p) := fun p hp => hwf p (best_mem hp)
      have hbn : (best n ps).length ≤ 100 := Nat.le_trans (best_len n ps) hn
      have HB := hide hB
      clear hG ho hwf hB
      generalize best n ps = bs at *
      go_wp2_with fail
      refine (unhide L).mono ?_
      rintro e w3 ⟨g3, cp3, rfl, ho3, hb3⟩
      have HH := hide (isHits_row (unhide HWF) ho3)
      replace HB := hide ((unhide HB).trans (hb3.mono (unhide HB).size))
      have O : (w3.alloc (.cells #[] 2)).ownsRow w3.heap.size 2 1 (.slice (some ⟨w3.heap.size, 0, none⟩) 0 0) 0 [] := World.ownsRow_lit w3 _ 0 (Nat.le_refl _) (by unfold maxLen; omega) rfl
      have HO := hide O
      have HB4 := hide ((Below.refl w3.heap.size w3).alloc (Nat.le_refl _) (.cells #[] 2))
      have hl3 := (ho3.lt g3 rfl).2
      clear L ho3 hb3 O
      go_wp2_with fail
      go_loopw [10, 11] (fun u i wr => ∃ j : Nat, j ≤ bs.length ∧ i = .int .i64 j ∧ wr.ownsRow w3.heap.size 2 1 u j ((bs.take j).map fun p => Value.int .i64 p.1) ∧ Below w3.heap.size w3 wr) (fun _ i _ => bs.length - (intOf i).toNat)
      case atStart => exact ⟨0, Nat.zero_le _, rfl, unhide HO, unhide HB4⟩
      case round =>
        obtain ⟨j, hj, rfl, hown, hB5⟩ := hrel
        clear HO HB4
        by_cases hlt2 : j < bs.length
        · obtain ⟨_, _, e9, -, -, -, hc9⟩ := (unhide HH).later hB5
          simp only [Value.slice.injEq] at e9
          obtain ⟨rfl, -, rfl⟩ := e9
          obtain ⟨b9, o9, e9, hc9⟩ := hc9 (by omega)
          simp only [Option.some.injEq, Addr.mk.injEq] at e9
          obtain ⟨rfl, rfl, -⟩ := e9
          have c9 := (hc9 j bs[j].1 bs[j].2 (by rw [List.getElem?_eq_getElem hlt2])).1
          rw [Nat.zero_add] at c9
          have HT9 : Hid ((bs.take (j + 1)).map (fun p => Value.int .i64 p.1) = (bs.take j).map (fun p => Value.int .i64 p.1) ++ [.int .i64 bs[j].1]) := by
            show (bs.take (j + 1)).map _ = _
            rw [List.take_succ_eq_append_getElem hlt2, List.map_append]
            rfl
          generalize (bs.take j).map (fun p => Value.int .i64 p.1) = X9 at *
          have hz9 := hB5.size
          have HB5 := hide hB5
          clear hc9 hB5
          generalize bs[j].1 = y at *
          go_wp2_with (at_builtin; refine wpList_append_int hown y rfl _ _ rfl rfl rfl ?hn9 hz9 ?_; case hn9 => omega)
          rintro g5 cp5 w5 ho5 - hb5 hl5 hz5
          have HO5 := hide ho5
          have HB6 := hide ((unhide HB5).trans hb5)
          clear ho5 hb5 hown HB5 hl5 hz5 c9
          go_wp2_with fail
          go_roundw
          case rel => exact ⟨j + 1, by omega, by go_num, by rw [unhide HT9]; exact unhide HO5, unhide HB6⟩
          case measure => simp [intOf]; omega
        · obtain rfl : j = bs.length := by omega
          rw [List.take_length] at hown
          have HO5 := hide (own_mono (unhide HB).size hown)
          have HB5 := hide ((unhide HB).trans (hB5.mono (unhide HB).size))
          clear hown hB5
          go_wp2_with fail
          go_ret
          refine ⟨_, rfl, ?_, unhide HB5⟩
          rw [unhide HP, List.length_map, List.map_map]
          exact unhide HO5

end Go.Proofs.YtggnnbdjihihiaaGreat

namespace Go.Proofs.YtggnnbdjihihiaaGreat
open Go.RowKit

theorem inC (v lo hi : Int) (w : World) :
    Calls Tryz.prog 95 #[.int .i64 v, .int .i64 lo, .int .i64 hi] w fun e w' => e = .returned (.bool (decide (lo ≤ v) && decide (v ≤ hi))) ∧ w' = w := by
  by_cases h1 : lo ≤ v
  · have d1 : decide (lo ≤ v) = true := by simpa using h1
    rw [d1]
    cases d2 : decide (v ≤ hi) <;>
    · go_enter Tryz.func95, Tryz.ntmps95
      go_wp2_with fail
      go_ret
      exact ⟨rfl, rfl⟩
  · have d1 : decide (lo ≤ v) = false := by simpa using h1
    rw [d1]
    go_enter Tryz.func95, Tryz.ntmps95
    go_wp2_with fail
    go_ret
    exact ⟨rfl, rfl⟩
theorem idC (x : Int) (w : World) : Calls Tryz.prog 105 #[.int .i64 x] w fun e w' => e = .returned (.bool (decide (1 ≤ x) && decide (x ≤ 999))) ∧ w' = w := by
  go_enter Tryz.func105, Tryz.ntmps105
  go_wp2_with fail
  refine (inC x 1 999 _).mono ?_
  rintro e w1 ⟨rfl, rfl⟩
  go_wp2_with fail
  go_ret
  exact ⟨rfl, rfl⟩

end Go.Proofs.YtggnnbdjihihiaaGreat

namespace Go.Proofs.YtggnnbdjihihiaaGreat
open Go.RowKit

set_option maxRecDepth 100000 in
set_option maxHeartbeats 1000000 in
theorem specTab_pos (b off cap : Nat) (xs : List DItem) (w : World) (hn : xs.length ≤ 30) (h : (Lay.sl Lay.tItem).Reads w [.slice (some ⟨b, off, none⟩) xs.length cap] xs) (hbl : b < w.heap.size) :
    Calls Tryz.prog 128 #[.slice (some ⟨b, off, none⟩) xs.length cap] w fun e w' => e = .returned (.int .i64 (tabFrom none xs)) ∧ Below w.heap.size w w' := by
  generalize hF0 : tabFrom none xs = F0
  have H := hide h
  clear h
  go_enter Tryz.func128, Tryz.ntmps128
  go_wp2_with fail
  go_loopw [3] (fun i wr => ∃ k : Nat, k ≤ xs.length ∧ i = .int .i64 k ∧ tabFrom (idAhead xs k) (xs.drop k) = F0 ∧ Below w.heap.size w wr) (fun i _ => xs.length - (intOf i).toNat)
  case atStart => exact ⟨0, Nat.zero_le _, rfl, hF0, Below.refl _ _⟩
  case round =>
    obtain ⟨k, hk, rfl, hF, hB⟩ := hrel
    by_cases hlt : k < xs.length
    · obtain ⟨row, hc, hr⟩ := Lay.row_at (unhide H) hlt
      replace hr := hr.later hB
      obtain ⟨a1, d1, rfl, R1⟩ := open_Item hr
      have c0 : wr.cell? ⟨b, off + k * 2, none⟩ = some (.int .i64 (xs[k]).id) := (hB.cell (p := ⟨b, off + k * 2, none⟩) hbl).trans (hc 0 (by decide))
      have c1 : wr.cell? ⟨b, off + k * 2 + 1, none⟩ = some (.slice a1 (xs[k]).vec.length d1) := (hB.cell (p := ⟨b, off + k * 2 + 1, none⟩) hbl).trans (hc 1 (by decide))
      have HP : Hid (∀ m, k = m + 1 → ∃ z, idAhead xs (m + 1) = some z ∧ wr.cell? ⟨b, off + m * 2, none⟩ = some (.int .i64 z)) := by
        rintro m rfl
        have hm : m < xs.length := by omega
        obtain ⟨row2, hc2, hr2⟩ := Lay.row_at (unhide H) hm
        obtain ⟨a2, d2, rfl, -⟩ := open_Item hr2
        exact ⟨_, idAhead_succ xs m hm, (hB.cell (p := ⟨b, off + m * 2, none⟩) hbl).trans (hc2 0 (by decide))⟩
      rw [tabFrom_step xs k hlt] at hF
      clear hc hr
      generalize hx : xs[k] = x at *
      clear hx
      have hbr : b < wr.heap.size := Nat.lt_of_lt_of_le hbl hB.size
      have I1 := hide (Lay.ints_reads R1)
      have HF := hide hF
      have B1 := hide hB
      clear R1 hF hB
      go_wp2_with fail
      refine (idC x.id _).mono ?_
      rintro e w1 ⟨rfl, rfl⟩
      rw [show (decide (1 ≤ x.id) && decide (x.id ≤ 999)) = idB x.id from rfl]
      cases hid : idB x.id with
      | false =>
        have hF := unhide HF
        rw [hid, if_neg (by simp)] at hF
        have HF2 := hide hF
        clear HF hF hid HP
        go_wp2_with fail
        go_ret
        exact ⟨by rw [← unhide HF2]; rfl, unhide B1⟩
      | true =>
        have hF := unhide HF
        rw [hid, if_pos rfl] at hF
        clear HF hid
        have HF := hide hF
        clear hF
        go_wp2_with fail
        refine (modelFault _ x.vec _ (unhide I1)).mono ?_
        rintro e w1 ⟨rfl, rfl⟩
        by_cases hv : vecFault x.vec = 0
        · rw [hv]
          have hF := unhide HF
          rw [if_pos hv] at hF
          clear HF I1 hv
          have HF := hide hF
          clear hF
          by_cases hk0 : k = 0
          · subst hk0
            have hF := unhide HF
            rw [idAhead_zero, Option.all_none, if_pos rfl] at hF
            have HF3 := hide hF
            clear HF hF HP
            have g0 : decide ((0 : Int) < 0) = false := by decide
            go_wp2_with fail
            go_quiet (fail)
            all_goals go_wp2_with fail
            all_goals exact ⟨⟨0 + 1, by omega, by go_num, unhide HF3, below_drewN (unhide B1) _⟩, by simp [intOf]; omega⟩
          · obtain ⟨m, rfl⟩ : ∃ m, k = m + 1 := ⟨k - 1, by omega⟩
            obtain ⟨z, e1, p0⟩ := unhide HP m rfl
            have hF := unhide HF
            rw [e1, Option.all_some] at hF
            have HF3 := hide hF
            clear HF hF HP e1 hk0
            have g1 : decide ((0 : Int) < (m : Int) + 1) = true := by simp
            have g4 : IntKind.i64.wrap ((m : Int) + 1 - 1) = (m : Int) := by simp only [IntKind.wrap_i64]; omega
            have g9 : IntKind.i64.wrap (m : Int) = (m : Int) := by simp only [IntKind.wrap_i64]; omega
            have g2 : (m : Int) + 1 - 1 = (m : Int) := by omega
            have g3 : (m : Int) < (xs.length : Int) := by omega
            have g5 : (0 : Int) ≤ (m : Int) := by omega
            have g6 : (m : Int) + 1 < (xs.length : Int) := by omega
            have g7 : (0 : Int) ≤ (m : Int) + 1 := by omega
            have g8 : ((m : Int) + 1).toNat = m + 1 := by omega
            cases hq : decide (z < x.id) with
            | true =>
              have hF := unhide HF3
              rw [hq, if_pos rfl] at hF
              have HF4 := hide hF
              have q1 : decide (x.id ≤ z) = false := by simp at hq ⊢; omega
              clear hF HF3 hq
              go_wp2_with fail
              go_quiet (fail)
              all_goals go_wp2_with fail
              all_goals exact ⟨⟨m + 1 + 1, by omega, by go_num, unhide HF4, below_drewN (unhide B1) _⟩, by simp [intOf]; omega⟩
            | false =>
              have hF := unhide HF3
              rw [hq, if_neg (by simp)] at hF
              have HF4 := hide hF
              have q1 : decide (x.id ≤ z) = true := by simp at hq ⊢; omega
              clear hF HF3 hq
              go_wp2_with fail
              go_quiet (fail)
              all_goals go_wp2_with fail
              all_goals go_ret
              all_goals exact ⟨by rw [← unhide HF4]; rfl, below_drewN (unhide B1) _⟩
        · have hF := unhide HF
          rw [if_neg hv] at hF
          have hd : (vecFault x.vec != 0) = true := by simpa using hv
          have HF2 := hide hF
          clear HF hF HP I1 hv
          go_wp2_with fail
          go_ret
          exact ⟨by rw [← unhide HF2]; rfl, unhide B1⟩
    · obtain rfl : k = xs.length := by omega
      rw [List.drop_length] at hF
      have HF := hide hF
      have HB := hide hB
      clear hF hB H
      go_wp2_with fail
      go_ret
      exact ⟨by rw [← unhide HF]; rfl, unhide HB⟩

set_option maxRecDepth 10000 in
/-- l4Fault of the model. -/
theorem specTab (v : Value) (xs : List DItem) (w : World) (h : (Lay.sl Lay.tItem).Reads w [v] xs) :
    Calls Tryz.prog 128 #[v] w fun e w' => e = .returned (.int .i64 (tableFault xs)) ∧ Below w.heap.size w w' := by
  obtain ⟨ao, cap, rfl⟩ := open_sl h
  by_cases hn : xs.length ≤ 30
  · have e : tableFault xs = tabFrom none xs := by unfold tableFault; rw [if_neg (by omega)]
    rw [e]
    by_cases hp : 0 < xs.length
    · obtain ⟨b, off, rfl, hbl⟩ := Lay.sl_addr h hp
      exact specTab_pos b off cap xs w hn h hbl
    · obtain rfl : xs = [] := List.eq_nil_of_length_eq_zero (by omega)
      clear h e hn hp
      go_enter Tryz.func128, Tryz.ntmps128
      go_wp2_with fail
      refine wp_loop_rounds 1 ?_
      rw [rounds_succ]
      go_wp2_with fail
      go_ret
      exact ⟨rfl, Below.refl _ _⟩
  · have e : tableFault xs = 2 := by unfold tableFault; rw [if_pos (by omega)]
    rw [e]
    have hd : decide ((30 : Int) < (xs.length : Int)) = true := by simp; omega
    clear h e
    go_enter Tryz.func128, Tryz.ntmps128
    go_wp2_with fail
    go_ret
    exact ⟨rfl, Below.refl _ _⟩

end Go.Proofs.YtggnnbdjihihiaaGreat

namespace Go.Proofs.YtggnnbdjihihiaaGreat
open Go.RowKit

set_option maxRecDepth 100000 in
set_option maxHeartbeats 4000000 in
theorem specLists7 (b : Nat) (x : DIvf) (ac : Option Addr) (dc : Nat) (al : Option Addr) (dl : Nat) (w : World) (h : IvfAt w b x ac dc al dl) (hcf : centersFault x.centers = 0) (hn : x.lists.length ≤ 1000000) :
    Calls Tryz.prog 93 #[.pointer (some ⟨b, 0, none⟩)] w fun e w' => e = .returned (.int .i64 (listsFrom x.centers 0 x.lists)) ∧ Below w.heap.size w w' := by
  generalize hF0 : listsFrom x.centers 0 x.lists = F0
  have HX := hide h
  have HCF := hide hcf
  clear h hcf
  go_enter Tryz.func93, Tryz.ntmps93
  go_wp2_with fail
  go_loopw [3] (fun i wr => ∃ k : Nat, k ≤ x.lists.length ∧ i = .int .i64 k ∧ listsFrom x.centers k (x.lists.drop k) = F0 ∧ Below w.heap.size w wr) (fun i _ => x.lists.length - (intOf i).toNat)
  case atStart => exact ⟨0, Nat.zero_le _, rfl, hF0, Below.refl _ _⟩
  case round =>
    obtain ⟨k, hk, rfl, hF, hB⟩ := hrel
    have c1 := ((unhide HX).later hB).c1
    by_cases hlt : k < x.lists.length
    · obtain ⟨bl, ol, rfl, hbl⟩ := Lay.sl_addr (unhide HX).lists (by omega)
      obtain ⟨row, hc, hr⟩ := Lay.row_at (unhide HX).lists hlt
      obtain ⟨a5, d5, rfl, R5⟩ := open_IvfList hr
      have c2 : wr.cell? ⟨bl, ol + k, none⟩ = some (.slice a5 (x.lists[k]).items.length d5) := (hB.cell (p := ⟨bl, ol + k, none⟩) hbl).trans (one_cell (hc 0 (by decide)))
      rw [listsFrom_step x.centers x.lists k hlt] at hF
      clear hc hr
      generalize hls : x.lists[k] = l at *
      clear hls
      have HR5 := hide R5
      have LT := hide (specTab _ l.items wr (R5.later hB))
      have HF := hide hF
      have HB := hide hB
      clear R5 hF hB
      go_wp2_with fail
      refine (unhide LT).mono ?_
      rintro e w2 ⟨rfl, hb2⟩
      replace HB := hide ((unhide HB).trans (hb2.mono (unhide HB).size))
      clear hb2 LT c1 c2
      by_cases hft : tableFault l.items = 0
      · rw [hft]
        obtain ⟨hl30, hla, -⟩ := tableFault_zero hft
        have HLA := hide hla
        have HFT := hide hft
        clear hla hft
        go_wp2_with fail
        rename World => wo
        go_loopw [6] (fun i wr => ∃ j : Nat, j ≤ l.items.length ∧ i = .int .i64 j ∧ atB x.centers k (l.items.take j) = true ∧ Below w.heap.size w wr) (fun i _ => l.items.length - (intOf i).toNat)
        case atStart => exact ⟨0, Nat.zero_le _, rfl, rfl, unhide HB⟩
        case round =>
          obtain ⟨j, hj, rfl, hat, hBr⟩ := hrel
          clear HB
          by_cases hlj : j < l.items.length
          · obtain ⟨b6, o6, rfl, hb6⟩ := Lay.sl_addr (unhide HR5) (by omega)
            obtain ⟨row, hc, hr⟩ := Lay.row_at (unhide HR5) hlj
            obtain ⟨a7, d7, rfl, R7⟩ := open_Item hr
            have c4 : w.cell? ⟨b6, o6 + j * 2 + 1, none⟩ = some (.slice a7 (l.items[j]).vec.length d7) := hc 1 (by decide)
            have hvx := (unhide HLA l.items[j] (List.getElem_mem hlj)).2
            have hats : atB x.centers k (l.items.take (j + 1)) = (near x.centers (l.items[j]).vec == k) := by
              rw [atB, List.take_succ_eq_append_getElem hlj, List.all_append, show (l.items.take j).all (fun y => near x.centers y.vec == k) = true from hat]
              simp
            have hbad : (near x.centers (l.items[j]).vec == k) = false → atB x.centers k l.items = false := fun hq => by
              rw [atB, List.all_eq_false]
              exact ⟨_, List.getElem_mem hlj, by rw [hq]; simp⟩
            clear hc hr hat
            generalize l.items[j] = y at *
            have LN : Hid (∀ W, Below w.heap.size w W → Calls Tryz.prog 107 #[.slice ac x.centers.length dc, .slice a7 y.vec.length d7] W fun e w' => e = .returned (.int .i64 (near x.centers y.vec : Nat)) ∧ Below W.heap.size W w') := fun W hW => specNear _ x.centers _ y.vec W ((unhide HX).later hW).cens ((Lay.ints_reads R7).later hW) (unhide HCF) hvx
            have HBr := hide hBr
            have HATS := hide hats
            have HBAD := hide hbad
            clear R7 hvx hBr hats hbad
            generalize near x.centers y.vec = nr at *
            have i1 : (0 : Int) ≤ (j : Int) := by omega
            have i2 : (j : Int) < (l.items.length : Int) := by omega
            by_cases he : nr = k
            · subst he
              have hd : (((nr : Nat) : Int) != ((nr : Nat) : Int)) = false := by simp
              have HAT2 : Hid (atB x.centers nr (l.items.take (j + 1)) = true) := (unhide HATS).trans (by simp)
              clear HATS HBAD
              go_wp2_with fail
              refine wp_region_noPanic ?_
              refine wp_region_held_drew (S := fun w' => Below w.heap.size w w') (by kernel_rfl) (unhide HBr).drew (fun hHeld => ?_)
              generalize wr.drew = wD at hHeld ⊢
              refine wpAnyH_take (i := 0) (oi := { dst := some 35, op := Go.Op.move (Go.Operand.tmp 0), type := 87, pos := "l07_ivf.go:25", after := #[], guard := none }) (v := ?va0_1) rfl (by kernel_rfl) (by kernel_rfl) (by kernel_rfl) (fun _ _ _ h => h) (Or.inl ⟨by rfl, ?ha0_1⟩) hHeld ?ra0_1
              case ha0_1 =>
                intro wS hSw
                (try dsimp only at hSw)
                go_simp
                try with_reducible rfl
              case ra0_1 =>
              simp only [Act.put, List.setIfInBounds_toArray, List.set_cons_zero, List.set_cons_succ]
              refine wpAnyH_take (i := 1) (oi := { dst := some 36, op := Go.Op.nilCheck (Go.Operand.tmp 35), type := 0, pos := "l07_ivf.go:25", after := #[{ on := 0, ground := Go.Ground.data }], guard := none }) (v := ?va1_2) rfl (by kernel_rfl) (by kernel_rfl) (by kernel_rfl) (fun _ _ _ h => h) (Or.inl ⟨by rfl, ?ha1_2⟩) hHeld ?ra1_2
              case ha1_2 =>
                intro wS hSw
                (try dsimp only at hSw)
                go_simp
                try with_reducible rfl
              case ra1_2 =>
              simp only [Act.put, List.setIfInBounds_toArray, List.set_cons_zero, List.set_cons_succ]
              refine wpAnyH_take (i := 2) (oi := { dst := some 37, op := Go.Op.fieldAddr 27 (Go.Operand.tmp 36) 0, type := 0, pos := "l07_ivf.go:25", after := #[{ on := 1, ground := Go.Ground.data }], guard := none }) (v := ?va2_3) rfl (by kernel_rfl) (by kernel_rfl) (by kernel_rfl) (fun _ _ _ h => h) (Or.inl ⟨by rfl, ?ha2_3⟩) hHeld ?ra2_3
              case ha2_3 =>
                intro wS hSw
                (try dsimp only at hSw)
                go_simp
                try with_reducible rfl
              case ra2_3 =>
              simp only [Act.put, List.setIfInBounds_toArray, List.set_cons_zero, List.set_cons_succ]
              refine wpAnyH_take (i := 3) (oi := { dst := some 38, op := Go.Op.load 24 (Go.Operand.tmp 37), type := 24, pos := "l07_ivf.go:25", after := #[{ on := 2, ground := Go.Ground.data }], guard := none }) (v := ?va3_4) rfl (by kernel_rfl) (by kernel_rfl) (by kernel_rfl) (fun _ _ _ h => h) (Or.inl ⟨by rfl, ?ha3_4⟩) hHeld ?ra3_4
              case ha3_4 =>
                intro wS hSw
                have y0 := ((unhide HX).later hSw).c0
                clear hSw
                (try dsimp only at hSw)
                go_simp
                try with_reducible rfl
              case ra3_4 =>
              simp only [Act.put, List.setIfInBounds_toArray, List.set_cons_zero, List.set_cons_succ]
              refine wpAnyH_take (i := 4) (oi := { dst := some 39, op := Go.Op.move (Go.Operand.tmp 4), type := 35, pos := "l07_ivf.go:25", after := #[], guard := none }) (v := ?va4_5) rfl (by kernel_rfl) (by kernel_rfl) (by kernel_rfl) (fun _ _ _ h => h) (Or.inl ⟨by rfl, ?ha4_5⟩) hHeld ?ra4_5
              case ha4_5 =>
                intro wS hSw
                (try dsimp only at hSw)
                go_simp
                try with_reducible rfl
              case ra4_5 =>
              simp only [Act.put, List.setIfInBounds_toArray, List.set_cons_zero, List.set_cons_succ]
              refine wpAnyH_take (i := 5) (oi := { dst := some 40, op := Go.Op.move (Go.Operand.tmp 6), type := 3, pos := "l07_ivf.go:25", after := #[], guard := none }) (v := ?va5_6) rfl (by kernel_rfl) (by kernel_rfl) (by kernel_rfl) (fun _ _ _ h => h) (Or.inl ⟨by rfl, ?ha5_6⟩) hHeld ?ra5_6
              case ha5_6 =>
                intro wS hSw
                (try dsimp only at hSw)
                go_simp
                try with_reducible rfl
              case ra5_6 =>
              simp only [Act.put, List.setIfInBounds_toArray, List.set_cons_zero, List.set_cons_succ]
              refine wpAnyH_take (i := 6) (oi := { dst := some 41, op := Go.Op.indexAddr 35 (Go.Operand.tmp 39) (Go.Operand.tmp 40), type := 0, pos := "l07_ivf.go:25", after := #[{ on := 4, ground := Go.Ground.data }, { on := 5, ground := Go.Ground.data }], guard := none }) (v := ?va6_7) rfl (by kernel_rfl) (by kernel_rfl) (by kernel_rfl) (fun _ _ _ h => h) (Or.inl ⟨by rfl, ?ha6_7⟩) hHeld ?ra6_7
              case ha6_7 =>
                intro wS hSw
                (try dsimp only at hSw)
                go_simp
                try with_reducible rfl
              case ra6_7 =>
              simp only [Act.put, List.setIfInBounds_toArray, List.set_cons_zero, List.set_cons_succ]
              refine wpAnyH_take (i := 7) (oi := { dst := some 42, op := Go.Op.fieldAddr 139 (Go.Operand.tmp 41) 1, type := 0, pos := "l07_ivf.go:25", after := #[{ on := 6, ground := Go.Ground.data }], guard := none }) (v := ?va7_8) rfl (by kernel_rfl) (by kernel_rfl) (by kernel_rfl) (fun _ _ _ h => h) (Or.inl ⟨by rfl, ?ha7_8⟩) hHeld ?ra7_8
              case ha7_8 =>
                intro wS hSw
                (try dsimp only at hSw)
                go_simp
                try with_reducible rfl
              case ra7_8 =>
              simp only [Act.put, List.setIfInBounds_toArray, List.set_cons_zero, List.set_cons_succ]
              refine wpAnyH_take (i := 8) (oi := { dst := some 43, op := Go.Op.load 28 (Go.Operand.tmp 42), type := 28, pos := "l07_ivf.go:25", after := #[{ on := 7, ground := Go.Ground.data }], guard := none }) (v := ?va8_9) rfl (by kernel_rfl) (by kernel_rfl) (by kernel_rfl) (fun _ _ _ h => h) (Or.inl ⟨by rfl, ?ha8_9⟩) hHeld ?ra8_9
              case ha8_9 =>
                intro wS hSw
                have y1 := (hSw.cell (p := ⟨b6, o6 + j * 2 + 1, none⟩) hb6).trans c4
                clear hSw
                (try dsimp only at hSw)
                go_simp
                try with_reducible rfl
              case ra8_9 =>
              simp only [Act.put, List.setIfInBounds_toArray, List.set_cons_zero, List.set_cons_succ]
              refine wpAnyH_take (i := 10) (oi := { dst := some 45, op := Go.Op.move (Go.Operand.tmp 3), type := 3, pos := "l07_ivf.go:25", after := #[], guard := none }) (v := ?va10_10) rfl (by kernel_rfl) (by kernel_rfl) (by kernel_rfl) (fun _ _ _ h => h) (Or.inl ⟨by rfl, ?ha10_10⟩) hHeld ?ra10_10
              case ha10_10 =>
                intro wS hSw
                (try dsimp only at hSw)
                go_simp
                try with_reducible rfl
              case ra10_10 =>
              simp only [Act.put, List.setIfInBounds_toArray, List.set_cons_zero, List.set_cons_succ]
              refine wpAnyH_ready (rs := [9]) (by kernel_rfl) (by simp) ?_
              refine AllReadyH.cons (o := { dst := some 44, op := Go.Op.call { callee := Go.Callee.value (Go.Operand.func 107), args := #[Go.Operand.tmp 38, Go.Operand.tmp 43], argTypes := #[24, 28] }, type := 2, pos := "l07_ivf.go:25", after := #[{ on := 3, ground := Go.Ground.data }, { on := 8, ground := Go.Ground.data }], guard := none }) rfl (fun K hK => ?_) AllReadyH.nil
              go_simp
              go_at_call 107
              refine (unhide LN _ hHeld).mono ?_
              rintro e w3 ⟨rfl, hbw⟩
              try go_wp2_with fail
              refine hK.out _ _ (hHeld.trans (hbw.mono hHeld.size)) (fun hHeld => ?_)
              clear hK K
              try simp only [Act.put, List.setIfInBounds_toArray, List.set_cons_zero, List.set_cons_succ]
              refine wpAnyH_take (i := 11) (oi := { dst := some 46, op := Go.Op.binOp Go.BinOp.neq 2 (Go.Operand.tmp 44) (Go.Operand.tmp 45) 2, type := 4, pos := "l07_ivf.go:25", after := #[{ on := 9, ground := Go.Ground.data }, { on := 10, ground := Go.Ground.data }], guard := none }) (v := ?va11_11) rfl (by kernel_rfl) (by kernel_rfl) (by kernel_rfl) (fun _ _ _ h => h) (Or.inl ⟨by rfl, ?ha11_11⟩) hHeld ?ra11_11
              case ha11_11 =>
                intro wS hSw
                (try dsimp only at hSw)
                go_simp
                try with_reducible rfl
              case ra11_11 =>
              simp only [Act.put, List.setIfInBounds_toArray, List.set_cons_zero, List.set_cons_succ]
              refine wpAnyH_done (by kernel_rfl) ?_ _
              refine NoPanic.normal ?_
              have HB9 := hide hHeld
              clear hHeld
              go_wp2_with fail
              go_roundw
              case rel => exact ⟨j + 1, by omega, by go_num, unhide HAT2, unhide HB9⟩
              case measure => simp [intOf]; omega
            · have hd : (((nr : Nat) : Int) != ((k : Nat) : Int)) = true := by rw [bne_iff_ne]; omega
              have HF1 : Hid (1 = F0) := by
                have := unhide HF
                rw [show listFault x.centers k l.items = 1 by rw [listFault, if_pos (unhide HFT), unhide HBAD (by simpa using he), if_neg (by simp)], if_neg (by decide)] at this
                exact this
              clear HATS HBAD he
              go_wp2_with fail
              refine wp_region_noPanic ?_
              refine wp_region_held_drew (S := fun w' => Below w.heap.size w w') (by kernel_rfl) (unhide HBr).drew (fun hHeld => ?_)
              generalize wr.drew = wD at hHeld ⊢
              refine wpAnyH_take (i := 0) (oi := { dst := some 35, op := Go.Op.move (Go.Operand.tmp 0), type := 87, pos := "l07_ivf.go:25", after := #[], guard := none }) (v := ?vb0_1) rfl (by kernel_rfl) (by kernel_rfl) (by kernel_rfl) (fun _ _ _ h => h) (Or.inl ⟨by rfl, ?hb0_1⟩) hHeld ?rb0_1
              case hb0_1 =>
                intro wS hSw
                (try dsimp only at hSw)
                go_simp
                try with_reducible rfl
              case rb0_1 =>
              simp only [Act.put, List.setIfInBounds_toArray, List.set_cons_zero, List.set_cons_succ]
              refine wpAnyH_take (i := 1) (oi := { dst := some 36, op := Go.Op.nilCheck (Go.Operand.tmp 35), type := 0, pos := "l07_ivf.go:25", after := #[{ on := 0, ground := Go.Ground.data }], guard := none }) (v := ?vb1_2) rfl (by kernel_rfl) (by kernel_rfl) (by kernel_rfl) (fun _ _ _ h => h) (Or.inl ⟨by rfl, ?hb1_2⟩) hHeld ?rb1_2
              case hb1_2 =>
                intro wS hSw
                (try dsimp only at hSw)
                go_simp
                try with_reducible rfl
              case rb1_2 =>
              simp only [Act.put, List.setIfInBounds_toArray, List.set_cons_zero, List.set_cons_succ]
              refine wpAnyH_take (i := 2) (oi := { dst := some 37, op := Go.Op.fieldAddr 27 (Go.Operand.tmp 36) 0, type := 0, pos := "l07_ivf.go:25", after := #[{ on := 1, ground := Go.Ground.data }], guard := none }) (v := ?vb2_3) rfl (by kernel_rfl) (by kernel_rfl) (by kernel_rfl) (fun _ _ _ h => h) (Or.inl ⟨by rfl, ?hb2_3⟩) hHeld ?rb2_3
              case hb2_3 =>
                intro wS hSw
                (try dsimp only at hSw)
                go_simp
                try with_reducible rfl
              case rb2_3 =>
              simp only [Act.put, List.setIfInBounds_toArray, List.set_cons_zero, List.set_cons_succ]
              refine wpAnyH_take (i := 3) (oi := { dst := some 38, op := Go.Op.load 24 (Go.Operand.tmp 37), type := 24, pos := "l07_ivf.go:25", after := #[{ on := 2, ground := Go.Ground.data }], guard := none }) (v := ?vb3_4) rfl (by kernel_rfl) (by kernel_rfl) (by kernel_rfl) (fun _ _ _ h => h) (Or.inl ⟨by rfl, ?hb3_4⟩) hHeld ?rb3_4
              case hb3_4 =>
                intro wS hSw
                have y0 := ((unhide HX).later hSw).c0
                clear hSw
                (try dsimp only at hSw)
                go_simp
                try with_reducible rfl
              case rb3_4 =>
              simp only [Act.put, List.setIfInBounds_toArray, List.set_cons_zero, List.set_cons_succ]
              refine wpAnyH_take (i := 4) (oi := { dst := some 39, op := Go.Op.move (Go.Operand.tmp 4), type := 35, pos := "l07_ivf.go:25", after := #[], guard := none }) (v := ?vb4_5) rfl (by kernel_rfl) (by kernel_rfl) (by kernel_rfl) (fun _ _ _ h => h) (Or.inl ⟨by rfl, ?hb4_5⟩) hHeld ?rb4_5
              case hb4_5 =>
                intro wS hSw
                (try dsimp only at hSw)
                go_simp
                try with_reducible rfl
              case rb4_5 =>
              simp only [Act.put, List.setIfInBounds_toArray, List.set_cons_zero, List.set_cons_succ]
              refine wpAnyH_take (i := 5) (oi := { dst := some 40, op := Go.Op.move (Go.Operand.tmp 6), type := 3, pos := "l07_ivf.go:25", after := #[], guard := none }) (v := ?vb5_6) rfl (by kernel_rfl) (by kernel_rfl) (by kernel_rfl) (fun _ _ _ h => h) (Or.inl ⟨by rfl, ?hb5_6⟩) hHeld ?rb5_6
              case hb5_6 =>
                intro wS hSw
                (try dsimp only at hSw)
                go_simp
                try with_reducible rfl
              case rb5_6 =>
              simp only [Act.put, List.setIfInBounds_toArray, List.set_cons_zero, List.set_cons_succ]
              refine wpAnyH_take (i := 6) (oi := { dst := some 41, op := Go.Op.indexAddr 35 (Go.Operand.tmp 39) (Go.Operand.tmp 40), type := 0, pos := "l07_ivf.go:25", after := #[{ on := 4, ground := Go.Ground.data }, { on := 5, ground := Go.Ground.data }], guard := none }) (v := ?vb6_7) rfl (by kernel_rfl) (by kernel_rfl) (by kernel_rfl) (fun _ _ _ h => h) (Or.inl ⟨by rfl, ?hb6_7⟩) hHeld ?rb6_7
              case hb6_7 =>
                intro wS hSw
                (try dsimp only at hSw)
                go_simp
                try with_reducible rfl
              case rb6_7 =>
              simp only [Act.put, List.setIfInBounds_toArray, List.set_cons_zero, List.set_cons_succ]
              refine wpAnyH_take (i := 7) (oi := { dst := some 42, op := Go.Op.fieldAddr 139 (Go.Operand.tmp 41) 1, type := 0, pos := "l07_ivf.go:25", after := #[{ on := 6, ground := Go.Ground.data }], guard := none }) (v := ?vb7_8) rfl (by kernel_rfl) (by kernel_rfl) (by kernel_rfl) (fun _ _ _ h => h) (Or.inl ⟨by rfl, ?hb7_8⟩) hHeld ?rb7_8
              case hb7_8 =>
                intro wS hSw
                (try dsimp only at hSw)
                go_simp
                try with_reducible rfl
              case rb7_8 =>
              simp only [Act.put, List.setIfInBounds_toArray, List.set_cons_zero, List.set_cons_succ]
              refine wpAnyH_take (i := 8) (oi := { dst := some 43, op := Go.Op.load 28 (Go.Operand.tmp 42), type := 28, pos := "l07_ivf.go:25", after := #[{ on := 7, ground := Go.Ground.data }], guard := none }) (v := ?vb8_9) rfl (by kernel_rfl) (by kernel_rfl) (by kernel_rfl) (fun _ _ _ h => h) (Or.inl ⟨by rfl, ?hb8_9⟩) hHeld ?rb8_9
              case hb8_9 =>
                intro wS hSw
                have y1 := (hSw.cell (p := ⟨b6, o6 + j * 2 + 1, none⟩) hb6).trans c4
                clear hSw
                (try dsimp only at hSw)
                go_simp
                try with_reducible rfl
              case rb8_9 =>
              simp only [Act.put, List.setIfInBounds_toArray, List.set_cons_zero, List.set_cons_succ]
              refine wpAnyH_take (i := 10) (oi := { dst := some 45, op := Go.Op.move (Go.Operand.tmp 3), type := 3, pos := "l07_ivf.go:25", after := #[], guard := none }) (v := ?vb10_10) rfl (by kernel_rfl) (by kernel_rfl) (by kernel_rfl) (fun _ _ _ h => h) (Or.inl ⟨by rfl, ?hb10_10⟩) hHeld ?rb10_10
              case hb10_10 =>
                intro wS hSw
                (try dsimp only at hSw)
                go_simp
                try with_reducible rfl
              case rb10_10 =>
              simp only [Act.put, List.setIfInBounds_toArray, List.set_cons_zero, List.set_cons_succ]
              refine wpAnyH_ready (rs := [9]) (by kernel_rfl) (by simp) ?_
              refine AllReadyH.cons (o := { dst := some 44, op := Go.Op.call { callee := Go.Callee.value (Go.Operand.func 107), args := #[Go.Operand.tmp 38, Go.Operand.tmp 43], argTypes := #[24, 28] }, type := 2, pos := "l07_ivf.go:25", after := #[{ on := 3, ground := Go.Ground.data }, { on := 8, ground := Go.Ground.data }], guard := none }) rfl (fun K hK => ?_) AllReadyH.nil
              go_simp
              go_at_call 107
              refine (unhide LN _ hHeld).mono ?_
              rintro e w3 ⟨rfl, hbw⟩
              try go_wp2_with fail
              refine hK.out _ _ (hHeld.trans (hbw.mono hHeld.size)) (fun hHeld => ?_)
              clear hK K
              try simp only [Act.put, List.setIfInBounds_toArray, List.set_cons_zero, List.set_cons_succ]
              refine wpAnyH_take (i := 11) (oi := { dst := some 46, op := Go.Op.binOp Go.BinOp.neq 2 (Go.Operand.tmp 44) (Go.Operand.tmp 45) 2, type := 4, pos := "l07_ivf.go:25", after := #[{ on := 9, ground := Go.Ground.data }, { on := 10, ground := Go.Ground.data }], guard := none }) (v := ?vb11_11) rfl (by kernel_rfl) (by kernel_rfl) (by kernel_rfl) (fun _ _ _ h => h) (Or.inl ⟨by rfl, ?hb11_11⟩) hHeld ?rb11_11
              case hb11_11 =>
                intro wS hSw
                (try dsimp only at hSw)
                go_simp
                try with_reducible rfl
              case rb11_11 =>
              simp only [Act.put, List.setIfInBounds_toArray, List.set_cons_zero, List.set_cons_succ]
              refine wpAnyH_done (by kernel_rfl) ?_ _
              refine NoPanic.normal ?_
              have HB9 := hide hHeld
              clear hHeld
              go_wp2_with fail
              go_ret
              exact ⟨by rw [← unhide HF1]; rfl, unhide HB9⟩
          · obtain rfl : j = l.items.length := by omega
            rw [List.take_length] at hat
            have HF2 : Hid (listsFrom x.centers (k + 1) (x.lists.drop (k + 1)) = F0) := by
              have := unhide HF
              rw [if_pos (show listFault x.centers k l.items = 0 by rw [listFault, if_pos (unhide HFT), if_pos hat])] at this
              exact this
            have HB9 := hide hBr
            clear hBr hat
            go_wp2_with fail
            go_roundw
            case rel => exact ⟨k + 1, by omega, by go_num, unhide HF2, unhide HB9⟩
            case measure => simp [intOf]; omega
      · have hd : (tableFault l.items != 0) = true := by simpa using hft
        have HF2 : Hid (tableFault l.items = F0) := by
          have := unhide HF
          rw [show listFault x.centers k l.items = tableFault l.items from if_neg hft, if_neg hft] at this
          exact this
        clear hft
        go_wp2_with fail
        go_ret
        exact ⟨by rw [← unhide HF2]; rfl, unhide HB⟩
    · obtain rfl : k = x.lists.length := by omega
      rw [List.drop_length] at hF
      have HF := hide hF
      have HB := hide hB
      clear hF hB
      go_wp2_with fail
      go_ret
      exact ⟨by rw [← unhide HF]; rfl, unhide HB⟩

end Go.Proofs.YtggnnbdjihihiaaGreat

namespace Go.Proofs.YtggnnbdjihihiaaGreat
open Go.RowKit

set_option maxRecDepth 100000 in
set_option maxHeartbeats 4000000 in
theorem specItems7 (b : Nat) (x : DIvf) (ac : Option Addr) (dc : Nat) (al : Option Addr) (dl : Nat) (w : World) (h : IvfAt w b x ac dc al dl) (hl : ∀ l ∈ x.lists, tableFault l.items = 0) (hn : x.lists.length ≤ 6) :
    Calls Tryz.prog 63 #[.pointer (some ⟨b, 0, none⟩)] w fun e w' => ∃ v', e = .returned v' ∧ (Lay.sl Lay.tItem).LiesIn w' [v'] (allIs x.lists) w.heap.size w'.heap.size ∧ Below w.heap.size w w' := by
  have HX := hide h
  have HL := hide hl
  have HB0 : Hid (Below w.heap.size w (w.alloc (.cells #[] 139))) := (Below.refl _ _).alloc (Nat.le_refl _) _
  have HCN : Hid (∀ k, k ≤ x.lists.length → (allIs (x.lists.take k)).length ≤ 180) := fun k hk => by
    have h1 := allIs_len (x.lists.take k)
    have h2 := countIs_le (ls := x.lists.take k) (fun l hm => (tableFault_zero (hl l (List.mem_of_mem_take hm))).1)
    have h3 : (x.lists.take k).length ≤ 6 := by simp; omega
    omega
  have HVL : Hid (∀ k y, y ∈ allIs (x.lists.take k) → y.vec.length ≤ 100000000) := fun k y hy => by
    obtain ⟨l, hm, hy⟩ := allIs_mem hy
    have := ((tableFault_zero (hl l (List.mem_of_mem_take hm))).2.1 y hy).2
    have := (vecFault_zero this).1
    omega
  clear h hl
  go_enter Tryz.func63, Tryz.ntmps63
  go_wp2_with fail
  go_loopw [3, 4] (fun u i wr => ∃ k : Nat, k ≤ x.lists.length ∧ i = .int .i64 k ∧ (Lay.sl Lay.tItem).LiesIn wr [u] (allIs (x.lists.take k)) w.heap.size wr.heap.size ∧ Below w.heap.size w wr) (fun _ i _ => x.lists.length - (intOf i).toNat)
  case atStart => exact ⟨0, Nat.zero_le _, rfl, ⟨[], ⟨some ⟨w.heap.size, 0, none⟩, 0, rfl, by simp [allIs], Or.inl ⟨rfl, rfl⟩⟩, by simp⟩, unhide HB0⟩
  case round =>
    obtain ⟨k, hk, rfl, hO, hB⟩ := hrel
    clear HB0
    have c1 := ((unhide HX).later hB).c1
    by_cases hlt : k < x.lists.length
    · have HLz := hide ((unhide HX).later hB).lists
      obtain ⟨bl, ol, rfl, hbl⟩ := Lay.sl_addr (unhide HLz) (by omega)
      obtain ⟨row, hc, hr⟩ := Lay.row_at (unhide HLz) hlt
      obtain ⟨a5, d5, rfl, R5⟩ := open_IvfList hr
      have c2 : wr.cell? ⟨bl, ol + k, none⟩ = some (.slice a5 (x.lists[k]).items.length d5) := one_cell (hc 0 (by decide))
      have hft := unhide HL x.lists[k] (List.getElem_mem hlt)
      have HSTEP := hide (allIs_step x.lists k hlt)
      have hcn := unhide HCN k hk
      have hvl := unhide HVL k
      have hris := allIs_rising (x.lists.take k)
      have HBL := hide c1
      clear hc hr
      generalize hls : x.lists[k] = l at *
      clear hls
      generalize allIs (x.lists.take k) = out at *
      obtain ⟨hl30, hla, -⟩ := tableFault_zero hft
      have HLA := hide hla
      have HRIS := hide hris
      have HVO := hide hvl
      have HR5 := hide R5
      have HO := hide hO
      have HB := hide hB
      have HC2 := hide c2
      clear hO hB hla hris hvl R5 hft HLz
      rename World => wo
      go_wp2_with fail
      clear c1 c2
      go_loopw [3, 5] (fun u i wr => ∃ j : Nat, j ≤ l.items.length ∧ i = .int .i64 j ∧ (Lay.sl Lay.tItem).LiesIn wr [u] (gatherI out (l.items.take j)) w.heap.size wr.heap.size ∧ Below wo.heap.size wo wr) (fun _ i _ => l.items.length - (intOf i).toNat)
      case atStart => exact ⟨0, Nat.zero_le _, rfl, unhide HO, Below.refl _ _⟩
      case round =>
        obtain ⟨j, hj, rfl, hO, hB⟩ := hrel
        clear HO
        have c1 : wr.cell? ⟨b, 1, none⟩ = some (.slice (some ⟨bl, ol, none⟩) x.lists.length dl) := cell_keep hB (unhide HBL)
        have c2 : wr.cell? ⟨bl, ol + k, none⟩ = some (.slice a5 l.items.length d5) := cell_keep hB (unhide HC2)
        by_cases hlj : j < l.items.length
        · have R5 := (unhide HR5).later hB
          obtain ⟨b6, o6, rfl, hb6⟩ := Lay.sl_addr R5 (by omega)
          obtain ⟨row, hc, hr⟩ := Lay.row_at R5 hlj
          obtain ⟨a7, d7, rfl, R7⟩ := open_Item hr
          have c3 : wr.cell? ⟨b6, o6 + j * 2, none⟩ = some (.int .i64 (l.items[j]).id) := hc 0 (by decide)
          have c4 : wr.cell? ⟨b6, o6 + j * 2 + 1, none⟩ = some (.slice a7 (l.items[j]).vec.length d7) := hc 1 (by decide)
          obtain ⟨hid, hvx⟩ := unhide HLA l.items[j] (List.getElem_mem hlj)
          have HGS := hide (gatherI_step out l.items j hlj)
          have hgl := gatherI_len (unhide HRIS) (l.items.take j)
          have hgr := gatherI_rising (unhide HRIS) (l.items.take j)
          have hgv : ∀ y ∈ gatherI out (l.items.take j), y.vec.length ≤ 100000000 := fun y hy => by
            rcases gatherI_mem hy with h1 | h1
            · exact unhide HVO y h1
            · have := (vecFault_zero (unhide HLA y (List.mem_of_mem_take h1)).2).1
              omega
          have hgl2 : (gatherI out (l.items.take j)).length ≤ 1000000 := by
            have : (l.items.take j).length ≤ 30 := by simp; omega
            omega
          have hv3 := (vecFault_zero hvx).1
          have hw : (Lit.int .i64 (l.items[j]).id).wf = true := by
            simp only [idB, Bool.and_eq_true, decide_eq_true_eq] at hid
            exact wf_of_bd (by omega)
          clear hc hr hgl
          generalize l.items[j] = y at *
          generalize gatherI out (l.items.take j) = cur at *
          have nb : Below wr.heap.size wr (wr.alloc (.cells #[.int .i64 y.id, .slice a7 y.vec.length d7] 139)) := (Below.refl _ _).alloc (Nat.le_refl _) _
          have LS := hide (specSet _ cur y.id y.vec (.slice a7 y.vec.length d7) true _ (hO.reads.later nb) (R7.later nb) hw hgl2 hgv (by omega))
          rw [setM_put hgr] at LS
          have HBn := hide (hB.trans (nb.mono hB.size))
          have hws : w.heap.size ≤ wr.heap.size := Nat.le_trans (unhide HB).size hB.size
          clear hO hB R5 R7 nb hgr hgv hgl2 hid hvx hv3 hw
          go_wp2_with fail
          refine (unhide LS).mono ?_
          rintro e w9 ⟨v9, rfl, hO9, hb9⟩
          have HO9 := hide (hO9.mono (lo' := w.heap.size) (by simp; omega) (Nat.le_refl _))
          have HB9 := hide ((unhide HBn).trans (hb9.mono (unhide HBn).size))
          clear hO9 hb9 LS HBn c1 c2 c3 c4
          go_wp2_with fail
          go_roundw
          case rel => exact ⟨j + 1, by omega, by go_num, by rw [unhide HGS]; exact unhide HO9, unhide HB9⟩
          case measure => simp [intOf]; omega
        · obtain rfl : j = l.items.length := by omega
          rw [List.take_length] at hO
          have HO9 := hide hO
          have HB9 := hide ((unhide HB).trans (hB.mono (unhide HB).size))
          clear hO hB
          go_wp2_with fail
          go_roundw
          case rel => exact ⟨k + 1, by omega, by go_num, by rw [unhide HSTEP]; exact unhide HO9, unhide HB9⟩
          case measure => simp [intOf]; omega
    · obtain rfl : k = x.lists.length := by omega
      rw [List.take_length] at hO
      have HO := hide hO
      have HB := hide hB
      clear hO hB
      go_wp2_with fail
      go_ret
      exact ⟨_, rfl, unhide HO, unhide HB⟩

end Go.Proofs.YtggnnbdjihihiaaGreat

namespace Go.Proofs.YtggnnbdjihihiaaGreat
open Go.RowKit

set_option maxRecDepth 100000 in
set_option maxHeartbeats 4000000 in
theorem specFault7 (b : Nat) (x : DIvf) (ac : Option Addr) (dc : Nat) (al : Option Addr) (dl : Nat) (w : World) (h : IvfAt w b x ac dc al dl) :
    Calls Tryz.prog 44 #[.pointer (some ⟨b, 0, none⟩)] w fun e w' => e = .returned (.int .i64 (ivfFault x)) ∧ Below w.heap.size w w' := by
  generalize hF0 : ivfFault x = F0
  have HF0 := hide hF0
  have HX := hide h
  have c0 := h.c0
  have c1 := h.c1
  have L1 := hide (specCen _ x.centers w h.cens)
  clear h hF0
  go_enter Tryz.func44, Tryz.ntmps44
  go_wp2_with fail
  refine (unhide L1).mono ?_
  rintro e w1 ⟨rfl, hb1⟩
  have HX1 := hide ((unhide HX).later hb1)
  have HB := hide hb1
  clear c0 c1 L1 hb1
  by_cases hcf : centersFault x.centers = 0
  · rw [hcf]
    have c0 := (unhide HX1).c0
    have c1 := (unhide HX1).c1
    have HCF := hide hcf
    by_cases hne : x.lists.length = x.centers.length
    · have hd : ((x.lists.length : Int) != (x.centers.length : Int)) = false := by rw [hne]; simp
      have hn6 : x.lists.length ≤ 6 := by rw [hne]; exact (centersFault_zero hcf).1.2
      have HNE : Hid (x.lists.length = x.centers.length) := hne
      clear hcf hne
      go_wp2_with fail
      go_quiet (fail)
      clear c0 c1 hd
      go_wp2_with fail
      refine (specLists7 b x ac dc al dl _ ((unhide HX1).later (below_drawn (Below.refl _ _) _)) (unhide HCF) (by omega)).mono ?_
      rintro e w3 ⟨rfl, hb3⟩
      have HX3 := hide (((unhide HX1).later (below_drawn (Below.refl _ _) _)).later hb3)
      replace HB := hide ((below_drawn (unhide HB) _).trans (hb3.mono (unhide HB).size))
      clear hb3 HX1
      by_cases hlf : listsFrom x.centers 0 x.lists = 0
      · rw [hlf]
        have HLF := hide hlf
        have HTF := hide (list_facts (x := x) hlf)
        clear hlf
        have HCB : Hid (∀ k, countIs (x.lists.take k) ≤ 180) := fun k => by
          have h1 := countIs_le (ls := x.lists.take k) (fun l hm => (tableFault_zero (unhide HTF l (List.mem_of_mem_take hm))).1)
          have h2 : (x.lists.take k).length ≤ 6 := by simp; omega
          omega
        go_wp2_with fail
        go_loopw [5, 6] (fun n i wr => ∃ k : Nat, k ≤ x.lists.length ∧ i = .int .i64 k ∧ n = .int .i64 (countIs (x.lists.take k) : Nat) ∧ wr = w3) (fun _ i _ => x.lists.length - (intOf i).toNat)
        case atStart => exact ⟨0, Nat.zero_le _, rfl, rfl, rfl⟩
        case round =>
          obtain ⟨k, hk, rfl, rfl, rfl⟩ := hrel
          have c1 := (unhide HX3).c1
          by_cases hlt : k < x.lists.length
          · obtain ⟨bl, ol, rfl, hbl⟩ := Lay.sl_addr (unhide HX3).lists (by omega)
            obtain ⟨row, hc, hr⟩ := Lay.row_at (unhide HX3).lists hlt
            obtain ⟨a5, d5, rfl, -⟩ := open_IvfList hr
            have c2 : wr.cell? ⟨bl, ol + k, none⟩ = some (.slice a5 (x.lists[k]).items.length d5) := one_cell (hc 0 (by decide))
            have hstep := countIs_take x.lists k hlt
            have hcb := unhide HCB (k + 1)
            rw [hstep] at hcb
            have HST := hide hstep
            clear hc hr hstep
            generalize (x.lists[k]).items.length = m at *
            generalize countIs (x.lists.take k) = n at *
            go_wp2_with fail
            go_roundw
            case rel => exact ⟨k + 1, by omega, by go_num, by rw [unhide HST]; go_num, by simp⟩
            case measure => simp [intOf]; omega
          · obtain rfl : k = x.lists.length := by omega
            rw [List.take_length]
            have LI := hide (specItems7 b x ac dc al dl wr (unhide HX3) (unhide HTF) hn6)
            have hc180 := unhide HCB x.lists.length
            rw [List.take_length] at hc180
            go_wp2_with fail
            clear c1
            refine (unhide LI).mono ?_
            rintro e w5 ⟨v5, rfl, hO5, hb5⟩
            obtain ⟨a5, d5, rfl⟩ := open_sl hO5.reads
            replace HB := hide ((unhide HB).trans (hb5.mono (unhide HB).size))
            clear hO5 hb5 LI
            by_cases hal : (allIs x.lists).length = countIs x.lists
            · have hd2 : (((allIs x.lists).length : Int) != ((countIs x.lists : Nat) : Int)) = false := by rw [hal]; simp
              by_cases h30 : countIs x.lists ≤ 30
              · have hd3 : decide ((30 : Int) < ((countIs x.lists : Nat) : Int)) = false := by simp; omega
                have HF1 : Hid (0 = F0) := by
                  have := unhide HF0
                  rw [ivfFault, if_pos (unhide HCF), if_pos (unhide HNE), if_pos (unhide HLF), if_pos hal, if_pos h30] at this
                  exact this
                clear hal h30
                go_wp2_with fail
                go_ret
                exact ⟨by rw [← unhide HF1]; rfl, unhide HB⟩
              · have hd3 : decide ((30 : Int) < ((countIs x.lists : Nat) : Int)) = true := by simp; omega
                have HF1 : Hid (2 = F0) := by
                  have := unhide HF0
                  rw [ivfFault, if_pos (unhide HCF), if_pos (unhide HNE), if_pos (unhide HLF), if_pos hal, if_neg h30] at this
                  exact this
                clear hal h30
                go_wp2_with fail
                go_ret
                exact ⟨by rw [← unhide HF1]; rfl, unhide HB⟩
            · have hd2 : (((allIs x.lists).length : Int) != ((countIs x.lists : Nat) : Int)) = true := by rw [bne_iff_ne]; omega
              have HF1 : Hid (6 = F0) := by
                have := unhide HF0
                rw [ivfFault, if_pos (unhide HCF), if_pos (unhide HNE), if_pos (unhide HLF), if_neg hal] at this
                exact this
              clear hal
              go_wp2_with fail
              go_ret
              exact ⟨by rw [← unhide HF1]; rfl, unhide HB⟩
      · have hd2 : (listsFrom x.centers 0 x.lists != 0) = true := by simpa using hlf
        have HF1 : Hid (listsFrom x.centers 0 x.lists = F0) := by
          have := unhide HF0
          rw [ivfFault, if_pos (unhide HCF), if_pos (unhide HNE), if_neg hlf] at this
          exact this
        clear hlf
        go_wp2_with fail
        go_ret
        exact ⟨by rw [← unhide HF1]; rfl, unhide HB⟩
    · have hd : ((x.lists.length : Int) != (x.centers.length : Int)) = true := by rw [bne_iff_ne]; omega
      have HF1 : Hid (1 = F0) := by
        have := unhide HF0
        rw [ivfFault, if_pos hcf, if_neg hne] at this
        exact this
      clear hcf hne HCF
      go_wp2_with fail
      go_quiet (fail)
      go_wp2_with fail
      go_ret
      exact ⟨by rw [← unhide HF1]; rfl, below_drewN (unhide HB) _⟩
  · have hd : (centersFault x.centers != 0) = true := by simpa using hcf
    have HF1 : Hid (centersFault x.centers = F0) := by
      have := unhide HF0
      rw [ivfFault, if_neg hcf] at this
      exact this
    clear hcf
    go_wp2_with fail
    go_ret
    exact ⟨by rw [← unhide HF1]; rfl, unhide HB⟩

end Go.Proofs.YtggnnbdjihihiaaGreat

namespace Go.Proofs.YtggnnbdjihihiaaGreat
open Go.RowKit

theorem l7N (n : Int) (w : World) :
    Calls Tryz.prog 47 #[.int .i64 n] w fun e w' => e = .returned (.bool (decide (0 ≤ n) && decide (n ≤ 6))) ∧ w' = w := by
  go_enter Tryz.func47, Tryz.ntmps47
  go_wp2_with fail
  refine (l1In n 0 6 _).mono ?_
  rintro e w1 ⟨rfl, rfl⟩
  go_wp2_with fail
  go_ret
  exact ⟨rfl, rfl⟩


end Go.Proofs.YtggnnbdjihihiaaGreat
