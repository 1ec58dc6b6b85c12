/-
  The draws' source: each call of l1Next tells a number below n and goes on by one byte; nothing but the source's own block is written.
  Condition: at most 1000000000 numbers have been drawn.
-/
import Derived.Test.YtkodenmpadehjabChecked
import Derived.Test.YtkodenmpadehjabGround
import Derived.BigQuiet
import Derived.Deep.QuietTactic
namespace Go.Proofs.Ytkodenmpadehjab
open Go.RowKit

/-- The slice of bytes cv lies below block B. -/
def IsCode (B : Nat) (w : World) (cv : Value) : Prop :=
  ∃ ao len cap, cv = .slice ao len cap ∧ len ≤ 1048576 ∧
    (0 < len → ∃ b off, ao = some ⟨b, off, none⟩ ∧ b < B ∧ ∀ j, j < len → ∃ z : Int, w.cell? ⟨b, off + j, none⟩ = some (.int .u8 z) ∧ 0 ≤ z ∧ z ≤ 255)

theorem IsCode.later {B : Nat} {w w' : World} {cv : Value} (h : IsCode B w cv) (hb : Below B w w') : IsCode B w' cv := by
  obtain ⟨ao, len, cap, rfl, hl, hc⟩ := h
  refine ⟨ao, len, cap, rfl, hl, fun hp => ?_⟩
  obtain ⟨b, off, hao, hB, hc1⟩ := hc hp
  refine ⟨b, off, hao, hB, fun j hj => ?_⟩
  obtain ⟨z, h1, h2⟩ := hc1 j hj
  exact ⟨z, (hb.cell (p := ⟨b, off + j, none⟩) hB).trans h1, h2⟩

/-- The source in block b: its code, and how many numbers have been drawn. -/
def SrcAt (w : World) (b : Nat) (cv : Value) (m : Nat) : Prop := w.heap[b]? = some (.cells #[cv, .int .i64 m] 60 (0, 0))

theorem SrcAt.c0 {w : World} {b m : Nat} {cv : Value} (h : SrcAt w b cv m) : w.cell? ⟨b, 0, none⟩ = some cv := by simp [World.cell?, show w.heap[b]? = _ from h]
theorem SrcAt.c1 {w : World} {b m : Nat} {cv : Value} (h : SrcAt w b cv m) : w.cell? ⟨b, 1, none⟩ = some (.int .i64 m) := by simp [World.cell?, show w.heap[b]? = _ from h]
theorem SrcAt.fz {w : World} {b m : Nat} {cv : Value} (h : SrcAt w b cv m) (o : Nat) : w.frozen? ⟨b, o, none⟩ = false := by simp [World.frozen?, show w.heap[b]? = _ from h]
theorem SrcAt.lt {w : World} {b m : Nat} {cv : Value} (h : SrcAt w b cv m) : b < w.heap.size := lt_of_block h
theorem SrcAt.set {w : World} {b m : Nat} {cv : Value} (h : SrcAt w b cv m) : SrcAt (w.setCell ⟨b, 1, none⟩ (.int .i64 ((m : Int) + 1))) b cv (m + 1) :=
  heap_setCell_same w b 1 #[cv, .int .i64 m] 60 (.int .i64 ((m : Int) + 1)) h
theorem grown_set (w : World) (b o : Nat) (u : Value) : w.grownBy (w.setCell ⟨b, o, none⟩ u) (some b) :=
  ⟨rfl, rfl, rfl, by simp, fun k _ hk => heap_setCell_other w ⟨b, o, none⟩ k u (fun e => hk (by simp [e]))⟩
theorem grown_drawn {a w : World} {r : Option Nat} (h : a.grownBy w r) (n : Nat) : a.grownBy (w.drewN n) r := ⟨h.os, h.tape, h.output, h.size, h.block⟩

theorem below_of_grown {w w' : World} {b : Nat} (h : w.grownBy w' (some b)) (hb : b ≤ w.heap.size) : Below b w w' :=
  (Below.refl b w).grown h hb (fun k hk => by simp at hk; omega)

set_option maxHeartbeats 400000 in
theorem next_low (b m : Nat) (cv : Value) (n : Int) (w : World) (hs : SrcAt w b cv m) (hm : m ≤ 1000000000) (hn : n < 1) :
    Calls Try.prog 30 #[.pointer (some ⟨b, 0, none⟩), .int .i64 n] w fun e w' => e = .returned (.int .i64 0) ∧ SrcAt w' b cv (m + 1) ∧ w.grownBy w' (some b) := by
  have c1 := hs.c1
  have fz := hs.fz
  have HS := hide hs.set
  clear hs
  go_enter Try.func30, Try.ntmps30
  go_wp2
  go_ret
  exact ⟨rfl, unhide HS, grown_set _ _ _ _⟩

set_option maxHeartbeats 400000 in
theorem next_empty (b m : Nat) (ao : Option Addr) (cap : Nat) (n : Int) (w : World) (hs : SrcAt w b (.slice ao 0 cap) m) (hm : m ≤ 1000000000) (hn : 1 ≤ n) :
    Calls Try.prog 30 #[.pointer (some ⟨b, 0, none⟩), .int .i64 n] w fun e w' => ∃ r : Int, e = .returned (.int .i64 r) ∧ (0 ≤ r ∧ r < n) ∧ SrcAt w' b (.slice ao 0 cap) (m + 1) ∧ w.grownBy w' (some b) := by
  have c0 := hs.c0
  have c1 := hs.c1
  have fz := hs.fz
  have HS := hide hs.set
  clear hs
  have hd : (n == 0) = false := by rw [beq_eq_false_iff_ne]; omega
  go_enter Try.func30, Try.ntmps30
  go_wp2
  go_ret
  exact ⟨_, rfl, ⟨Int.emod_nonneg _ (by omega), Int.emod_lt_of_pos _ (by omega)⟩, unhide HS, grown_set _ _ _ _⟩

theorem quot_bd (m k : Nat) (hm : m ≤ 1000000000) : 0 ≤ (m : Int) / (k : Int) ∧ (m : Int) / (k : Int) ≤ 1000000000 := by
  refine ⟨Int.ediv_nonneg (by omega) (by omega), ?_⟩
  have := Int.ediv_le_self (a := (m : Int)) (k : Int) (by omega)
  omega

set_option maxHeartbeats 1000000 in
theorem next_some (b m cb off k cap : Nat) (n : Int) (w : World) (hs : SrcAt w b (.slice (some ⟨cb, off, none⟩) k cap) m) (hm : m ≤ 1000000000) (hn : 1 ≤ n) (hn2 : n ≤ 200) (hk : 0 < k) (hk2 : k ≤ 1048576) (hcb : cb < b)
    (hc : ∀ j, j < k → ∃ z : Int, w.cell? ⟨cb, off + j, none⟩ = some (.int .u8 z) ∧ 0 ≤ z ∧ z ≤ 255) :
    Calls Try.prog 30 #[.pointer (some ⟨b, 0, none⟩), .int .i64 n] w fun e w' => ∃ r : Int, e = .returned (.int .i64 r) ∧ (0 ≤ r ∧ r < n) ∧ SrcAt w' b (.slice (some ⟨cb, off, none⟩) k cap) (m + 1) ∧ w.grownBy w' (some b) := by
  have c0 := hs.c0
  have c1 := hs.c1
  have fz := hs.fz
  have HS := hide hs.set
  clear hs
  obtain ⟨z, hz, z1, z2⟩ := hc (m % k) (Nat.mod_lt _ hk)
  obtain ⟨q1, q2⟩ := quot_bd m k hm
  have hd : (n == 0) = false := by rw [beq_eq_false_iff_ne]; omega
  have hd2 : ((k : Int) == 0) = false := by rw [beq_eq_false_iff_ne]; omega
  have hne : ¬ cb = b := by omega
  have hne2 : ¬ b = cb := by omega
  have r1 : 0 ≤ (m : Int) % (k : Int) := Int.emod_nonneg _ (by omega)
  have r2 : (m : Int) % (k : Int) < (k : Int) := Int.emod_lt_of_pos _ (by omega)
  clear hc
  go_enter Try.func30, Try.ntmps30
  go_wp2
  go_quiet (fail)
  go_wp2
  go_ret
  exact ⟨_, rfl, ⟨Int.emod_nonneg _ (by omega), Int.emod_lt_of_pos _ (by omega)⟩, unhide HS, grown_drawn (grown_set _ _ _ _) _⟩

/-- l1Next: a number below n. -/
theorem next (b m : Nat) (cv : Value) (n : Int) (w : World) (hs : SrcAt w b cv m) (hc : IsCode b w cv) (hm : m ≤ 1000000000) (hn : 1 ≤ n) (hn2 : n ≤ 200) :
    Calls Try.prog 30 #[.pointer (some ⟨b, 0, none⟩), .int .i64 n] w fun e w' => ∃ r : Nat, e = .returned (.int .i64 r) ∧ (r : Int) < n ∧ SrcAt w' b cv (m + 1) ∧ IsCode b w' cv ∧ w.grownBy w' (some b) := by
  have fin : ∀ (e : Ending) (w' : World), (∃ r : Int, e = .returned (.int .i64 r) ∧ (0 ≤ r ∧ r < n) ∧ SrcAt w' b cv (m + 1) ∧ w.grownBy w' (some b)) → ∃ r : Nat, e = .returned (.int .i64 r) ∧ (r : Int) < n ∧ SrcAt w' b cv (m + 1) ∧ IsCode b w' cv ∧ w.grownBy w' (some b) := by
    rintro e w' ⟨r, rfl, ⟨h1, h2⟩, h3, h4⟩
    obtain ⟨j, rfl⟩ := Int.eq_ofNat_of_zero_le h1
    exact ⟨j, rfl, h2, h3, hc.later (below_of_grown h4 (Nat.le_of_lt hs.lt)), h4⟩
  obtain ⟨ao, len, cap, rfl, hl, hc1⟩ := hc
  by_cases hp : 0 < len
  · obtain ⟨cb, off, rfl, hB, hc2⟩ := hc1 hp
    exact (next_some b m cb off len cap n w hs hm hn hn2 hp hl hB hc2).mono fin
  · obtain rfl : len = 0 := by omega
    exact (next_empty b m ao cap n w hs hm hn).mono fin

set_option maxHeartbeats 400000 in
/-- l1Pick: one of the list. -/
theorem pick (b m g : Nat) (cv : Value) (zs : List Int) (w : World) (hs : SrcAt w b cv m) (hc : IsCode b w cv) (hm : m ≤ 1000000000) (hl : 1 ≤ zs.length) (hl2 : zs.length ≤ 200) (hg : w.heap[g]? = some (.cells (zs.map (Value.int .i64)).toArray 2 (0, 0))) (hne : g ≠ b) :
    Calls Try.prog 31 #[.pointer (some ⟨b, 0, none⟩), .slice (some ⟨g, 0, none⟩) zs.length zs.length] w fun e w' => ∃ r : Int, e = .returned (.int .i64 r) ∧ r ∈ zs ∧ SrcAt w' b cv (m + 1) ∧ IsCode b w' cv ∧ w.grownBy w' (some b) := by
  go_enter Try.func31, Try.ntmps31
  go_wp2_with fail
  refine (next b m cv zs.length w hs hc hm (by omega) (by omega)).mono ?_
  rintro e w1 ⟨r, rfl, hr, hs1, hc1, hgr⟩
  have hr' : r < zs.length := by omega
  have hcell : w1.cell? ⟨g, r, none⟩ = some (.int .i64 (zs.getD r 0)) := by
    have h1 : w1.heap[g]? = w.heap[g]? := hgr.block g (lt_of_block hg) (by simpa using hne)
    rw [cell_of_row w1 g r _ _ _ (h1.trans hg)]
    simp [List.getD, hr']
  have HS := hide hs1
  have HC := hide hc1
  have HG := hide hgr
  have HR : Hid (zs.getD r 0 ∈ zs) := by
    have e : zs.getD r 0 = zs[r] := by simp [List.getD, hr']
    show zs.getD r 0 ∈ zs
    rw [e]
    exact List.getElem_mem hr'
  generalize zs.getD r 0 = x at *
  clear hs hc hs1 hc1 hgr hg
  go_wp2
  go_ret
  exact ⟨x, rfl, unhide HR, unhide HS, unhide HC, unhide HG⟩

end Go.Proofs.Ytkodenmpadehjab
