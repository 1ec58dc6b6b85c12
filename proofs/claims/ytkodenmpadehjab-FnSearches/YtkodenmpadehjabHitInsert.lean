/-
  slices.Insert of one hit into a row of the call's own: the new slice owns the hits with the new one at its place; nothing else is written.
  Condition: at most 100000000 hits; the place is within the row.
-/
import Derived.Test.YtkodenmpadehjabHitCopy
import Derived.Lib.Overlaps
import Derived.Lib.AppendZerosOnto
namespace Go.Proofs.Ytkodenmpadehjab
open Go.RowKit

theorem grown_undrew {w w' : World} {r : Option Nat} (h : w.drew.grownBy w' r) : w.grownBy w' r := ⟨h.os, h.tape, h.output, h.size, h.block⟩

theorem own_le' {w : World} {base T sz g n cap : Nat} {xs : List Value} (h : w.ownsRow base T sz (.slice (some ⟨g, 0, none⟩) n cap) n xs) : n ≤ cap := by
  rcases h.2 with ⟨h0, _⟩ | ⟨g, c, cur, h0, _, _, h1, _⟩
  · simp at h0
  · simp only [Value.slice.injEq] at h0
    obtain ⟨-, -, rfl⟩ := h0
    exact h1

theorem cells2_of_heap {w : World} {vb : Nat} {x y : Value} {T : TypeId} (h : w.heap[vb]? = some (.cells #[x, y] T (0, 0))) : w.cell? ⟨vb, 0, none⟩ = some x ∧ w.cell? ⟨vb, 1, none⟩ = some y := by
  constructor <;> simp [World.cell?, h]

theorem news_of_heap {w : World} {vb : Nat} {x y : Int} {T : TypeId} (h : w.heap[vb]? = some (.cells #[.int .i64 x, .int .i64 y] T (0, 0))) :
    ∀ j v, [Value.int .i64 x, Value.int .i64 y][j]? = some v → w.cell? ((⟨vb, 0, none⟩ : Addr).add j) = some v := by
  intro j v hj
  rw [Addr.add_lit, Nat.zero_add]
  match j, hj with
  | 0, hj =>
    simp at hj
    subst hj
    exact (cells2_of_heap h).1
  | 1, hj =>
    simp at hj
    subst hj
    exact (cells2_of_heap h).2

theorem news_of_row {w : World} {g n at_ : Nat} {cur : List Value} {hs : List (Int × Int)} {T : TypeId} (hg : w.heap[g]? = some (.cells cur.toArray T (0, 0))) (ht : cur.take (n * 2) = cells2 hs) (o : Nat) (ho : o = at_ * 2) :
    ∀ j v, (cells2 (hs.drop at_))[j]? = some v → w.cell? ((⟨g, o, none⟩ : Addr).add j) = some v := by
  intro j v hj
  rw [Addr.add_lit]
  rw [← cells2_drop, List.getElem?_drop, ← ht, List.getElem?_take] at hj
  split at hj
  · rw [ho]
    simp [World.cell?, hg, hj]
  · cases hj

set_option maxRecDepth 100000 in
set_option maxHeartbeats 1000000 in
/-- There is room, and the place is not the end. -/
theorem insert_shift (base g n cap at_ vb : Nat) (hs : List (Int × Int)) (x y : Int) (w : World) (hown : w.ownsRow base 38 2 (.slice (some ⟨g, 0, none⟩) n cap) n (cells2 hs)) (hat : at_ < n) (hroom : n + 1 ≤ cap)
    (hvg : vb ≠ g) (hv : w.heap[vb]? = some (.cells #[.int .i64 x, .int .i64 y] 38 (0, 0))) :
    Calls Try.prog 48 #[.slice (some ⟨g, 0, none⟩) n cap, .int .i64 at_, .slice (some ⟨vb, 0, none⟩) 1 1] w fun e w' =>
      e = .returned (.slice (some ⟨g, 0, none⟩) (n + 1) cap) ∧ w'.ownsRow base 38 2 (.slice (some ⟨g, 0, none⟩) (n + 1) cap) (n + 1) (cells2 (hs.take at_ ++ (x, y) :: hs.drop at_)) ∧ w.grownBy w' (some g) := by
  have hl2 : hs.length = n := by have := hown.1; rw [cells2_len] at this; omega
  obtain ⟨cur, hbg, hg, hcm, hcs, ht⟩ : ∃ cur : List Value, base ≤ g ∧ w.heap[g]? = some (.cells cur.toArray 38 (0, 0)) ∧ cap ≤ maxLen ∧ cur.length = cap * 2 ∧ cur.take (n * 2) = cells2 hs := by
    rcases hown.2 with ⟨h', _⟩ | ⟨g', cap', cur, h', hb, hg, hnc, hcm, hcs, htake⟩
    · simp at h'
    · simp only [Value.slice.injEq, Option.some.injEq, Addr.mk.injEq, and_true, true_and] at h'
      obtain ⟨rfl, rfl⟩ := h'
      exact ⟨cur.toList, hb, by simpa using hg, hcm, by simpa using hcs, htake⟩
  have R := shift_row x y hl2 hcs ht hat hroom
  have HR := hide R
  have HT := hide ht
  have HCS := hide hcs
  have HG := hide hg
  have HV := hide hv
  have hov : ∀ lb cb o, (callFunc 50 #[.slice (some ⟨vb, 0, none⟩) 1 1, .slice (some ⟨g, o, none⟩) lb cb]).run Try.prog w = .ok (.value (.bool false)) w := fun lb cb o => by
    rw [run_callFunc_extern Try.func50 (by kernel_rfl) (by kernel_rfl) (by kernel_rfl) (e := Extern.SlicesOverlaps.overlaps #[28, 28] #[4]) (by kernel_rfl),
      Lib.run_overlaps_apart w 28 4 38 Try.underlying28 2 Try.sizeOf38 ⟨vb, 0, none⟩ ⟨g, o, none⟩ 1 1 lb cb hvg 38 38 2 (cap * 2) (by simp [World.shape?, hv]) (by simp [World.shape?, hg, hcs]) (by omega) (by simp [World.frozen?, hv]) (by simp [World.frozen?, hv])]
    rfl
  have hbd : (cap : Int) ≤ 9223372036854775807 := by unfold maxLen at hcm; omega
  have hz2 : ¬ ((at_ : Int) = (n : Int)) := by omega
  have hw1 : IntKind.i64.wrap ((at_ : Int) + 1) = (at_ : Int) + 1 := by rw [IntKind.wrap_i64]; omega
  have hb1 : (0 : Int) ≤ (at_ : Int) + 1 := by omega
  have htn : ((at_ : Int) + 1).toNat = at_ + 1 := by omega
  have hb2 : ¬ (cap = at_ + 1) := by omega
  have hb4 : ¬ (cap = at_) := by omega
  have hb3 : (at_ : Int) ≤ (n : Int) + 1 := by omega
  have hin : (at_ : Int) ≤ (n : Int) := by omega
  have HCM := hcm
  clear R ht hcs hg hv hown hcm
  go_enter Try.func48, Try.ntmps48
  go_wp2_with (simp only [hov])
  have m1 : Nat.min (n + 1 - at_) (n + 1 - (at_ + 1)) = n - at_ := by simp only [Nat.min_def]; split <;> omega
  have m2 : (cells2 (hs.drop at_)).length = (n - at_) * 2 := by rw [cells2_len, List.length_drop, hl2]
  have m3 : (at_ + 1) * 2 + (cells2 (hs.drop at_)).length ≤ cur.length := by rw [m2, unhide HCS]; omega
  have M1 := hide m1
  have M2 := hide m2
  have M3 := hide m3
  clear m1 m2 m3
  go_region_law (first
    | (refine step_copy_hits rfl _ _ rfl g ((at_ + 1) * 2) (n + 1 - (at_ + 1)) (cap - (at_ + 1)) ⟨g, at_ * 2, none⟩ (n + 1 - at_) (cap - at_) (by simp [Act.eval, Act.put]) (by simp [Act.eval, Act.put]) cur 38 (cells2 (hs.drop at_)) (unhide HG) (n - at_) (unhide M1) (unhide M2) (news_of_row (unhide HG) (unhide HT) _ rfl) (unhide M3) (cells2_one _) ?_; intro w1 G1 B1; have GG1 := hide G1; have BB1 := hide (show w.grownBy w1 (some g) from ⟨B1.os, B1.tape, B1.output, B1.size, B1.block⟩); clear G1 B1))
  have V1 : w1.heap[vb]? = some (.cells #[.int .i64 x, .int .i64 y] 38 (0, 0)) := ((unhide BB1).block vb (lt_of_block (unhide HV)) (by simpa using hvg)).trans (unhide HV)
  have m4 : at_ * 2 + [Value.int .i64 x, Value.int .i64 y].length ≤ (laidOver cur ((at_ + 1) * 2) (cells2 (hs.drop at_))).length := by
    rw [laidOver_len (unhide M3), unhide HCS]
    simp
    omega
  have m5 : Nat.min 1 (n + 1 - at_) = 1 := by simp only [Nat.min_def]; split <;> omega
  have HV1 := hide V1
  have M4 := hide m4
  have M5 := hide m5
  clear V1 m4 m5
  obtain ⟨w2, hcp, G2, B2⟩ := run_copy_hits w1 3 g (at_ * 2) (n + 1 - at_) (cap - at_) ⟨vb, 0, none⟩ 1 1 _ 38 [Value.int .i64 x, Value.int .i64 y] (unhide GG1) 1 (unhide M5) rfl (news_of_heap (unhide HV1)) (unhide M4) (by simp [Value.oneCell'])
  have GG2 := hide G2
  have BB2 := hide B2
  clear G2 B2
  go_wp2_with (simp only [hcp])
  go_ret
  have e4 : (cells2 (hs.take at_ ++ (x, y) :: hs.drop at_)).length = (n + 1) * 2 := by
    rw [cells2_len]
    simp
    omega
  exact ⟨rfl, ⟨e4, .inr ⟨g, cap, _, rfl, hbg, unhide GG2, hroom, HCM, by simpa using (unhide HR).1, by simpa using (unhide HR).2⟩⟩, grown_trans (unhide BB1) (unhide BB2)⟩

/-- append of zero hits onto a row's head, where there is no room: a new row that holds that head. -/
theorem run_append_zeros (w : World) (g at_ k cap : Nat) (hs : List (Int × Int)) (hl : at_ ≤ hs.length) (hc : ∀ j v, (cells2 hs)[j]? = some v → w.cell? ((⟨g, 0, none⟩ : Addr).add j) = some v) (h0 : 0 < k) (hfull : cap < at_ + k) (hbig : at_ + k ≤ 100000000) (ty : TypeId) :
    ∃ G row w1, (Builtin.append_ #[28, 3] ty #[.slice (some ⟨g, 0, none⟩) at_ cap, .int .i64 k]).run Try.prog w = .ok (.slice (some ⟨w.heap.size, 0, none⟩) (at_ + k) G) w1 ∧
      w1.heap[w.heap.size]? = some (.cells (row : List Value).toArray 38 (0, 0)) ∧ row.length = G * 2 ∧ row.take (at_ * 2) = cells2 (hs.take at_) ∧ at_ + k ≤ G ∧ G ≤ maxLen ∧ w.grownBy w1 none ∧ w1.heap.size = w.heap.size + 1 := by
  obtain ⟨i0, hi, hz0, hz1, hz2⟩ := info_parts infoHit
  have hlen : (cells2 (hs.take at_)).length = at_ * 2 := by rw [cells2_len]; simp; omega
  have hold : (Builtin.firstCells i0.size at_ (.slice (some ⟨g, 0, none⟩) at_ cap)).run Try.prog w.drew = .ok (cells2 (hs.take at_)).toArray w.drew := by
    rw [hz1]
    refine run_firstCells_some w.drew 2 at_ ⟨g, 0, none⟩ at_ cap (cells2 (hs.take at_)) hlen (fun j v hj => ?_)
    rw [← cells2_take, List.getElem?_take] at hj
    split at hj
    · exact hc j v hj
    · cases hj
  have hr := Lib.run_append_grow_zeros w 28 3 ty 38 i0 _ .i64 .i64 Try.underlying28 Try.underlying3 hi hz0 (some ⟨g, 0, none⟩) at_ cap (cells2 (hs.take at_)) hold k h0 (by omega) hfull (by omega) (by rw [hz2]; omega) (by rw [hz2]; exact growslice_fits hfull (by omega))
  have hge := grownCap_ge w (at_ + k) cap 38
  have hle := grownCap_le_maxLen w (at_ + k) cap 38 (by unfold maxLen; omega)
  generalize grownCap w (at_ + k) cap 38 = G at *
  have hzl : ∀ q, (Builtin.zeroCells (Value.agg #[.int .i64 0, .int .i64 0]).cells q).size = q * 2 := fun q => by rw [size_zeroCells]; rfl
  have hA : ∀ arr : Array Value, arr = (cells2 (hs.take at_)).toArray ++ Builtin.zeroCells (Value.agg #[.int .i64 0, .int .i64 0]).cells k ++ Builtin.zeroCells (Value.agg #[.int .i64 0, .int .i64 0]).cells (G - (at_ + k)) → arr.toList.length = G * 2 ∧ arr.toList.take (at_ * 2) = cells2 (hs.take at_) := by
    rintro arr rfl
    refine ⟨?_, ?_⟩
    · rw [Array.length_toList, Array.size_append, Array.size_append, hzl, hzl, List.size_toArray, hlen]
      omega
    · rw [Array.toList_append, Array.toList_append, List.append_assoc, ← hlen]
      exact List.take_left
  obtain ⟨h1, h2⟩ := hA _ rfl
  refine ⟨G, ((cells2 (hs.take at_)).toArray ++ Builtin.zeroCells (Value.agg #[.int .i64 0, .int .i64 0]).cells k ++ Builtin.zeroCells (Value.agg #[.int .i64 0, .int .i64 0]).cells (G - (at_ + k))).toList, _, hr, ?_, h1, h2, hge, hle, ⟨rfl, rfl, rfl, by simp, fun _ hq _ => heap_alloc_old w.drew _ hq⟩, by simp⟩
  rw [Array.toArray_toList]
  exact heap_alloc_new w.drew _

set_option maxRecDepth 100000 in
set_option maxHeartbeats 1000000 in
/-- There is no room, and the place is not the end: a new row. -/
theorem insert_grow (base g n cap at_ vb : Nat) (hs : List (Int × Int)) (x y : Int) (w : World) (hown : w.ownsRow base 38 2 (.slice (some ⟨g, 0, none⟩) n cap) n (cells2 hs)) (hat : at_ < n) (hroom : ¬ n + 1 ≤ cap) (hn : n < 100000000) (hbase : base ≤ w.heap.size)
    (hv : w.heap[vb]? = some (.cells #[.int .i64 x, .int .i64 y] 38 (0, 0))) :
    Calls Try.prog 48 #[.slice (some ⟨g, 0, none⟩) n cap, .int .i64 at_, .slice (some ⟨vb, 0, none⟩) 1 1] w fun e w' =>
      ∃ G, e = .returned (.slice (some ⟨w.heap.size, 0, none⟩) (n + 1) G) ∧ w'.ownsRow base 38 2 (.slice (some ⟨w.heap.size, 0, none⟩) (n + 1) G) (n + 1) (cells2 (hs.take at_ ++ (x, y) :: hs.drop at_)) ∧ w.grownBy w' (some g) := by
  have hl2 : hs.length = n := by have := hown.1; rw [cells2_len] at this; omega
  have hcells := hown.cells (g := g) rfl
  have hnc := own_le' hown
  have hkk : (n : Int) + 1 - (at_ : Int) = ((n + 1 - at_ : Nat) : Int) := by omega
  obtain ⟨cur, hg, ht⟩ : ∃ cur : List Value, w.heap[g]? = some (.cells cur.toArray 38 (0, 0)) ∧ cur.take (n * 2) = cells2 hs := by
    rcases hown.2 with ⟨h', _⟩ | ⟨g', cap', cur, h', hb, hg, hnc, hcm, hcs, htake⟩
    · simp at h'
    · simp only [Value.slice.injEq, Option.some.injEq, Addr.mk.injEq, and_true, true_and] at h'
      obtain ⟨rfl, rfl⟩ := h'
      exact ⟨cur.toList, by simpa using hg, htake⟩
  have hgw : g < w.heap.size := lt_of_block hg
  have hvw : vb < w.heap.size := lt_of_block hv
  have AZ := fun ty => run_append_zeros w g at_ (n + 1 - at_) cap hs (by omega) hcells (by omega) (by omega) (by omega) ty
  rw [show at_ + (n + 1 - at_) = n + 1 by omega] at AZ
  have HAZ := hide AZ
  have HG := hide hg
  have HT := hide ht
  have HV := hide hv
  have hz2 : ¬ ((at_ : Int) = (n : Int)) := by omega
  have hz3 : (cap : Int) < (n : Int) + 1 := by omega
  have hw1 : IntKind.i64.wrap ((at_ : Int) + 1) = (at_ : Int) + 1 := by rw [IntKind.wrap_i64]; omega
  have hb1 : (0 : Int) ≤ (at_ : Int) + 1 := by omega
  have htn : ((at_ : Int) + 1).toNat = at_ + 1 := by omega
  have hb4 : ¬ (cap = at_) := by omega
  have hin : (at_ : Int) ≤ (n : Int) := by omega
  have hac : (at_ : Int) ≤ (cap : Int) := by omega
  have hw2 : IntKind.i64.wrap ((n : Int) + 1 - (at_ : Int)) = (n : Int) + 1 - (at_ : Int) := by rw [IntKind.wrap_i64]; omega
  have HKK := hide hkk
  clear AZ hg ht hv hown hcells hkk
  go_enter Try.func48, Try.ntmps48
  obtain ⟨G, row, w1, hr, hrow, hrl, hrt, hG1, hG2, hgr, hsz⟩ := unhide HAZ 28
  rw [← unhide HKK] at hr
  have R := grow_row x y hl2 hrl hrt hat hG1
  have HR := hide R
  have m1 : at_ * 2 + [Value.int .i64 x, Value.int .i64 y].length ≤ row.length := by rw [hrl]; simp; omega
  have m5 : Nat.min 1 (n + 1 - at_) = 1 := by simp only [Nat.min_def]; split <;> omega
  have V1 : w1.heap[vb]? = some (.cells #[.int .i64 x, .int .i64 y] 38 (0, 0)) := (hgr.block vb hvw (by simp)).trans (unhide HV)
  have g1 : w1.heap[g]? = some (.cells cur.toArray 38 (0, 0)) := (hgr.block g hgw (by simp)).trans (unhide HG)
  obtain ⟨w2, hcp, G2, B2⟩ := run_copy_hits w1 3 w.heap.size (at_ * 2) (n + 1 - at_) (G - at_) ⟨vb, 0, none⟩ 1 1 _ 38 [Value.int .i64 x, Value.int .i64 y] hrow 1 m5 rfl (news_of_heap V1) m1 (by simp [Value.oneCell'])
  have g2 : w2.heap[g]? = some (.cells cur.toArray 38 (0, 0)) := (B2.block g (by omega) (by simp; omega)).trans g1
  have k1 : Nat.min (n - at_) (n + 1 - (at_ + 1)) = n - at_ := by simp only [Nat.min_def]; split <;> omega
  have k2 : (cells2 (hs.drop at_)).length = (n - at_) * 2 := by rw [cells2_len, List.length_drop, hl2]
  have k3 : (at_ + 1) * 2 + (cells2 (hs.drop at_)).length ≤ (laidOver row (at_ * 2) [Value.int .i64 x, Value.int .i64 y]).length := by rw [laidOver_len m1, k2, hrl]; omega
  have GG2 := hide G2
  have BB2 : Hid (w.grownBy w2 (some g)) := ⟨B2.os.trans hgr.os, B2.tape.trans hgr.tape, B2.output.trans hgr.output, Nat.le_trans hgr.size B2.size, fun i hi _ => (B2.block i (by omega) (by simp; omega)).trans (hgr.block i hi (by simp))⟩
  have HG2 := hide g2
  have K1 := hide k1
  have K2 := hide k2
  have K3 := hide k3
  have HM := hide hG2
  have hGb : (G : Int) ≤ 9223372036854775807 := by unfold maxLen at hG2; omega
  have hGi : ¬ (G = at_) := by omega
  have hGi1 : ¬ (G = at_ + 1) := by omega
  have hn1 : (at_ : Int) ≤ (n : Int) + 1 := by omega
  have hsw2 : w.heap.size < w2.heap.size := by have := B2.size; omega
  clear R m1 m5 V1 g1 g2 k1 k2 k3 G2 B2 hrow hrl hrt hG2 hgr hsz HAZ HG HV
  go_wp2_with (first | (at_builtin; refine Lib.wpList_append_run _ rfl _ _ _ _ rfl _ _ rfl rfl _ _ hr ?_) | simp only [hcp])
  go_region_law (first
    | (refine step_copy_hits rfl _ _ rfl w.heap.size ((at_ + 1) * 2) (n + 1 - (at_ + 1)) (G - (at_ + 1)) ⟨g, at_ * 2, none⟩ (n - at_) (cap - at_) (by simp [Act.eval, Act.put]) (by simp [Act.eval, Act.put]) _ 38 (cells2 (hs.drop at_)) (unhide GG2) (n - at_) (unhide K1) (unhide K2) (news_of_row (unhide HG2) (unhide HT) _ rfl) (unhide K3) (cells2_one _) ?_; intro w3 G3 B3; have GG3 := hide G3; have BB3 := hide (show w2.grownBy w3 (some w.heap.size) from ⟨B3.os, B3.tape, B3.output, B3.size, B3.block⟩); clear G3 B3))
  go_wp2_with fail
  go_ret
  have e4 : (cells2 (hs.take at_ ++ (x, y) :: hs.drop at_)).length = (n + 1) * 2 := by
    rw [cells2_len]
    simp
    omega
  refine ⟨G, rfl, ⟨e4, .inr ⟨w.heap.size, G, _, rfl, hbase, unhide GG3, hG1, unhide HM, by simpa using (unhide HR).1, by simpa using (unhide HR).2⟩⟩, ?_⟩
  have b2 := unhide BB2
  have b3 := unhide BB3
  exact ⟨b3.os.trans b2.os, b3.tape.trans b2.tape, b3.output.trans b2.output, Nat.le_trans b2.size b3.size, fun i hi hr => (b3.block i (by have := b2.size; omega) (by simp; omega)).trans (b2.block i hi hr)⟩

theorem isHits_heap {w : World} {vb : Nat} {x y : Int} (h : w.heap[vb]? = some (.cells #[.int .i64 x, .int .i64 y] 38 (0, 0))) (hwf : Wf2 (x, y)) : IsHits w (.slice (some ⟨vb, 0, none⟩) 1 1) [(x, y)] := by
  refine ⟨_, _, rfl, by simp, ⟨by unfold maxLen; omega, by simp⟩, by simpa using hwf, fun _ => ⟨vb, 0, rfl, fun j a b hj => ?_⟩⟩
  cases j with
  | zero =>
    simp at hj
    obtain ⟨rfl, rfl⟩ := hj
    exact cells2_of_heap h
  | succ j => simp at hj

set_option maxRecDepth 100000 in
set_option maxHeartbeats 1000000 in
/-- At the end. -/
theorem insert_end (base g n cap vb : Nat) (hs : List (Int × Int)) (x y : Int) (w : World) (hown : w.ownsRow base 38 2 (.slice (some ⟨g, 0, none⟩) n cap) n (cells2 hs)) (hn : n < 100000000) (hbase : base ≤ w.heap.size)
    (hv : w.heap[vb]? = some (.cells #[.int .i64 x, .int .i64 y] 38 (0, 0))) (hwf : Wf2 (x, y)) :
    Calls Try.prog 48 #[.slice (some ⟨g, 0, none⟩) n cap, .int .i64 n, .slice (some ⟨vb, 0, none⟩) 1 1] w fun e w' =>
      ∃ r, e = .returned r ∧ w'.ownsRow base 38 2 r (n + 1) (cells2 (hs ++ [(x, y)])) ∧ w.grownBy w' (some g) := by
  have hnc := own_le' hown
  have X := isHits_heap hv hwf
  have hin : (n : Int) ≤ (cap : Int) := by omega
  have hz : ((n : Int) == (n : Int)) = true := by simp
  have hcm : cap ≤ maxLen := by
    rcases hown.2 with ⟨h', _⟩ | ⟨g', cap', cur, h', hb, hg, hnc, hcm, hcs, htake⟩
    · simp at h'
    · simp only [Value.slice.injEq] at h'
      obtain ⟨-, -, rfl⟩ := h'
      exact hcm
  have hbd : (cap : Int) ≤ 9223372036854775807 := by unfold maxLen at hcm; omega
  clear hv hwf hcm
  by_cases hc : cap = n
  · subst hc
    go_enter Try.func48, Try.ntmps48
    go_wp2_with (at_builtin; refine wpList_append_hits rfl _ _ rfl base _ cap hs rfl hown _ [(x, y)] rfl X (by simp; omega) hbase ?_)
    intro v' w1 O1 G1 _
    have HO := hide O1
    have HG := hide G1
    clear O1 G1 hown X
    go_wp2_with fail
    go_ret
    exact ⟨v', rfl, unhide HO, unhide HG⟩
  · go_enter Try.func48, Try.ntmps48
    go_wp2_with (at_builtin; refine wpList_append_hits rfl _ _ rfl base _ n hs rfl hown _ [(x, y)] rfl X (by simp; omega) hbase ?_)
    intro v' w1 O1 G1 _
    have HO := hide O1
    have HG := hide G1
    clear O1 G1 hown X
    go_wp2_with fail
    go_ret
    exact ⟨v', rfl, unhide HO, unhide HG⟩

set_option maxRecDepth 100000 in
set_option maxHeartbeats 1000000 in
/-- Into nothing. -/
theorem insert_nil (base vb : Nat) (x y : Int) (w : World) (hbase : base ≤ w.heap.size)
    (hv : w.heap[vb]? = some (.cells #[.int .i64 x, .int .i64 y] 38 (0, 0))) (hwf : Wf2 (x, y)) :
    Calls Try.prog 48 #[.slice none 0 0, .int .i64 0, .slice (some ⟨vb, 0, none⟩) 1 1] w fun e w' =>
      ∃ r, e = .returned r ∧ w'.ownsRow base 38 2 r (0 + 1) (cells2 ([] ++ [(x, y)])) ∧ w.grownBy w' none := by
  have X := isHits_heap hv hwf
  have O0 : w.ownsRow base 38 2 (.slice none 0 0) 0 (cells2 []) := World.ownsRow_nil _ _ _ _
  have hz : ((0 : Int) == 0) = true := by simp
  clear hv hwf
  go_enter Try.func48, Try.ntmps48
  go_wp2_with (at_builtin; refine wpList_append_hits rfl _ _ rfl base _ 0 [] rfl O0 _ [(x, y)] rfl X (by simp) hbase ?_)
  intro v' w1 O1 G1 _
  have HO := hide O1
  have HG := hide G1
  clear O1 G1 O0 X
  go_wp2_with fail
  go_ret
  exact ⟨v', rfl, unhide HO, unhide HG⟩

/-- slices.Insert of one hit into a row of the call's own. -/
theorem implInsert (base : Nat) (v : Value) (n at_ vb : Nat) (hs : List (Int × Int)) (x y : Int) (w : World) (hown : w.ownsRow base 38 2 v n (cells2 hs)) (hat : at_ ≤ n) (hn : n < 100000000) (hbase : base ≤ w.heap.size)
    (hvg : v.ownBlock ≠ some vb) (hv : w.heap[vb]? = some (.cells #[.int .i64 x, .int .i64 y] 38 (0, 0))) (hwf : Wf2 (x, y)) :
    Calls Try.prog 48 #[v, .int .i64 at_, .slice (some ⟨vb, 0, none⟩) 1 1] w fun e w' =>
      ∃ r, e = .returned r ∧ w'.ownsRow base 38 2 r (n + 1) (cells2 (hs.take at_ ++ (x, y) :: hs.drop at_)) ∧ w.grownBy w' v.ownBlock := by
  have hl2 : hs.length = n := by have := hown.1; rw [cells2_len] at this; omega
  rcases hown.2 with ⟨rfl, rfl⟩ | ⟨g, cap, cur, rfl, -⟩
  · obtain rfl : hs = [] := List.eq_nil_of_length_eq_zero hl2
    obtain rfl : at_ = 0 := by omega
    exact insert_nil base vb x y w hbase hv hwf
  · have hvg' : vb ≠ g := fun e => hvg (by simp [Value.ownBlock, e])
    by_cases he : at_ = n
    · subst he
      have e1 : hs.take at_ ++ (x, y) :: hs.drop at_ = hs ++ [(x, y)] := by
        rw [List.take_of_length_le (by omega), List.drop_eq_nil_of_le (by omega)]
      rw [e1]
      exact insert_end base g at_ cap vb hs x y w hown hn hbase hv hwf
    · by_cases hr : n + 1 ≤ cap
      · exact (insert_shift base g n cap at_ vb hs x y w hown (by omega) hr hvg' hv).mono fun e w' ⟨h1, h2, h3⟩ => ⟨_, h1, h2, h3⟩
      · exact (insert_grow base g n cap at_ vb hs x y w hown (by omega) hr hn hbase hv).mono fun e w' ⟨G, h1, h2, h3⟩ => ⟨_, h1, h2, h3⟩

end Go.Proofs.Ytkodenmpadehjab
