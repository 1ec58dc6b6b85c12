/-
  slices.Grow of nothing and slices.Concat of two lists of hits: a new slice that owns all of them in order; nothing old is written.
  Condition: at most 1000 hits in each.
-/
import Derived.Test.YtplhhdnmhcnhgaaHitInsert
namespace Go.Proofs.Ytplhhdnmhcnhgaa
open Go.RowKit

theorem run_append_zeros_nil (w : World) (k : Nat) (h0 : 0 < k) (hbig : k ≤ 100000000) (ty : TypeId) :
    ∃ G w1, (Builtin.append_ #[24, 3] ty #[.slice none 0 0, .int .i64 k]).run Try.prog w = .ok (.slice (some ⟨w.heap.size, 0, none⟩) k G) w1 ∧ k ≤ G ∧
      w1.ownsRow w.heap.size 31 2 (.slice (some ⟨w.heap.size, 0, none⟩) 0 G) 0 (cells2 []) ∧ Below w.heap.size w w1 := by
  obtain ⟨i0, hi, hz0, hz1, hz2⟩ := info_parts infoHit
  have hr := Lib.run_append_nil_zeros w 24 3 ty 31 i0 _ .i64 .i64 Try.underlying24 Try.underlying3 hi hz0 k h0 (by omega) (by omega) (by rw [hz2]; omega)
  have hge := grownCap_ge w k 0 31
  have hle := grownCap_le_maxLen w k 0 31 (by unfold maxLen; omega)
  generalize grownCap w k 0 31 = G at *
  have hzl : ∀ q, (Builtin.zeroCells (Value.agg #[.int .i64 0, .int .i64 0]).cells q).size = q * 2 := fun q => by rw [size_zeroCells]; rfl
  refine ⟨G, _, hr, hge, ⟨rfl, .inr ⟨w.heap.size, G, _, rfl, Nat.le_refl _, heap_alloc_new w.drew _, Nat.zero_le _, hle, ?_, by simp [cells2]⟩⟩, ?_⟩
  · rw [Array.size_append, hzl, hzl]
    omega
  · exact ((Below.refl _ _).drew).alloc (Nat.le_refl _) _

set_option maxRecDepth 100000 in
set_option maxHeartbeats 400000 in
theorem implGrow (n : Nat) (w : World) (hn : n ≤ 100000000) :
    Calls Try.prog 60 #[.slice none 0 0, .int .i64 n] w fun e w' => ∃ r, e = .returned r ∧ w'.ownsRow w.heap.size 31 2 r 0 (cells2 []) ∧ Below w.heap.size w w' := by
  have hneg : ¬ ((n : Int) < 0) := by omega
  by_cases h0 : n = 0
  · subst h0
    go_enter Try.func60, Try.ntmps60
    go_wp2_with fail
    go_ret
    exact ⟨_, rfl, World.ownsRow_nil _ _ _ _, Below.refl _ _⟩
  · obtain ⟨G, w1, hr, hG, O1, B1⟩ := run_append_zeros_nil w n (by omega) hn 24
    have HO := hide O1
    have HB := hide B1
    have hpos : decide ((0 : Int) < (n : Int)) = true := by simp; omega
    clear O1 B1
    go_enter Try.func60, Try.ntmps60
    go_wp2_with (at_builtin; refine Lib.wpList_append_run _ rfl _ _ _ _ rfl _ _ rfl rfl _ _ hr ?_)
    go_ret
    exact ⟨_, rfl, unhide HO, unhide HB⟩

set_option maxRecDepth 100000 in
set_option maxHeartbeats 1000000 in
theorem implConcat (vb : Nat) (u v : Value) (a b : List (Int × Int)) (w : World) (k0 : w.cell? ⟨vb, 0, none⟩ = some u) (k1 : w.cell? ⟨vb, 1, none⟩ = some v) (ha : IsHits w u a) (hb : IsHits w v b) (hna : a.length ≤ 1000) (hnb : b.length ≤ 1000) :
    Calls Try.prog 47 #[.slice (some ⟨vb, 0, none⟩) 2 2] w fun e w' => ∃ r, e = .returned r ∧ w'.ownsRow w.heap.size 31 2 r (a ++ b).length (cells2 (a ++ b)) ∧ Below w.heap.size w w' := by
  have HA := hide ha
  have HBv := hide hb
  obtain ⟨au, cu, rfl, -⟩ := ha
  obtain ⟨av, cv, rfl, -⟩ := hb
  have HVB := hide (World.block_lt_of_cell? _ _ k1)
  have HK1 := hide k1
  have hn1 : ¬ ((a.length : Int) < 0) := by omega
  have hn2 : ¬ ((a.length : Int) + (b.length : Int) < 0) := by omega
  go_enter Try.func47, Try.ntmps47
  go_wp2_with fail
  refine wp_loop_rounds 3 ?_
  rw [rounds_succ]
  go_wp2_with fail
  rw [rounds_succ]
  go_wp2_with fail
  rw [rounds_succ]
  go_wp2_with fail
  have e1 : (a.length : Int) + (b.length : Int) = ((a.length + b.length : Nat) : Int) := by omega
  rw [e1]
  refine (implGrow (a.length + b.length) _ (by omega)).mono ?_
  rintro e w1 ⟨r, rfl, O1, B1⟩
  obtain ⟨a1, c1, rfl⟩ := own_shape O1
  replace k0 := cell_keep B1 k0
  replace k1 := cell_keep B1 k1
  have I1 := (unhide HA).later B1
  have HB1 := hide B1
  have hs1 := B1.size
  clear B1 e1
  go_wp2_with fail
  refine wp_loop_rounds 3 ?_
  rw [rounds_succ]
  go_wp2_with (at_builtin; refine wpList_append_hits rfl _ _ rfl w.heap.size _ 0 [] rfl O1 _ a rfl I1 (by omega) hs1 ?_)
  intro v2 w2 O2 G2 _
  have B2 : Below w.heap.size w w2 := (unhide HB1).grown G2 hs1 (fun q hq => (O1.lt q hq).1)
  obtain ⟨a2, c2, rfl⟩ := own_shape O2
  have k2 : w2.cell? ⟨vb, 1, none⟩ = some (.slice av b.length cv) := (B2.cell (unhide HVB)).trans (unhide HK1)
  have I2 := (unhide HBv).later B2
  have hs2 := B2.size
  have HB2 := hide B2
  clear O1 I1 G2 k0 k1 B2 hs1 HB1
  go_wp2_with fail
  rw [rounds_succ]
  go_wp2_with (at_builtin; refine wpList_append_hits rfl _ _ rfl w.heap.size _ a.length a rfl O2 _ b rfl I2 (by omega) hs2 ?_)
  intro v3 w3 O3 G3 _
  have B3 : Below w.heap.size w w3 := (unhide HB2).grown G3 hs2 (fun q hq => (O2.lt q hq).1)
  have HO3 := hide O3
  have HB3 := hide B3
  clear O2 I2 G3 k2 B3 O3 HB2
  go_wp2_with fail
  rw [rounds_succ]
  go_wp2_with fail
  go_ret
  refine ⟨_, rfl, ?_, unhide HB3⟩
  rw [List.length_append]
  exact unhide HO3

end Go.Proofs.Ytplhhdnmhcnhgaa
