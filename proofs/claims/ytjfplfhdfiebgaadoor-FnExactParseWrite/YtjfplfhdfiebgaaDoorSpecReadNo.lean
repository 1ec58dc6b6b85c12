/-
  The model's l3Read: the write whose words these are; nothing old is written.
  No condition.
-/
import Derived.Test.YtjfplfhdfiebgaaDoorSpecReadB
namespace Go.Proofs.YtjfplfhdfiebgaaDoor
open Go.RowKit

set_option maxRecDepth 100000 in
set_option maxHeartbeats 400000 in
theorem l3Read_no1 (ao : Option Addr) (n cap : Nat) (w : World) (h5 : n ≠ 5) (h6 : n ≠ 6) :
    Calls Tryd.prog 25 #[.slice ao n cap] w fun e w' => ToldR w w' e ⟨2, 0, [], 0, 0⟩ false := by
  have e5 : ((n : Int) != 5) = true := by rw [bne_iff_ne]; omega
  have e6 : ((n : Int) == 6) = false := by rw [beq_eq_false_iff_ne]; omega
  have nb : Below w.heap.size w ((w.alloc (.cells #[.int .i64 0, .int .i64 0, .slice none 0 0, .int .i64 0, .int .i64 0] 29)).alloc (.cells #[.int .i64 2, .int .i64 0, .slice none 0 0, .int .i64 0, .int .i64 0] 29)) := ((Below.refl _ _).alloc (Nat.le_refl _) _).alloc (by simp) _
  have HB : Hid (∀ o o', Below w.heap.size w ((w.alloc o).alloc o')) := fun o o' => ((Below.refl _ _).alloc (Nat.le_refl _) _).alloc (by simp) _
  clear nb
  go_enter Tryd.func25, Tryd.ntmps25
  go_wp2_with fail
  refine bodyPost_ret (v := .tuple #[.agg #[.int .i64 2, .int .i64 0, .slice none 0 0, .int .i64 0, .int .i64 0], .bool false]) (by simp [results, Tryd.results25, go_sem]) rfl ?_
  refine ⟨[.int .i64 2, .int .i64 0, .slice none 0 0, .int .i64 0, .int .i64 0], rfl, readsR (x := ⟨2, 0, [], 0, 0⟩) ⟨[], Lay.lies_ints.2 ⟨none, 0, rfl, ⟨by simp, by simp⟩, by simp, Or.inl ⟨rfl, rfl⟩⟩, by simp⟩ rfl rfl rfl rfl, ?_⟩
  exact unhide HB _ _

set_option maxRecDepth 100000 in
set_option maxHeartbeats 400000 in
theorem l3Read_no2 (g cap : Nat) (s : ByteArray) (w : World) (h0 : w.cell? ⟨g, 0, none⟩ = some (.string s)) (hs : s ≠ ⟨#[112, 117, 116]⟩) :
    Calls Tryd.prog 25 #[.slice (some ⟨g, 0, none⟩) 6 cap] w fun e w' => ToldR w w' e ⟨2, 0, [], 0, 0⟩ false := by
  have e0 : (s.toList == [112, 117, 116]) = false := by rw [beq_eq_false_iff_ne]; exact fun h => hs (str_of_list h)
  have nb : Below w.heap.size w ((w.alloc (.cells #[.int .i64 0, .int .i64 0, .slice none 0 0, .int .i64 0, .int .i64 0] 29)).alloc (.cells #[.int .i64 2, .int .i64 0, .slice none 0 0, .int .i64 0, .int .i64 0] 29)) := ((Below.refl _ _).alloc (Nat.le_refl _) _).alloc (by simp) _
  replace h0 := cell_keep nb h0
  have HB : Hid (∀ o o', Below w.heap.size w ((w.alloc o).alloc o')) := fun o o' => ((Below.refl _ _).alloc (Nat.le_refl _) _).alloc (by simp) _
  clear nb
  go_enter Tryd.func25, Tryd.ntmps25
  go_wp2_with fail
  refine bodyPost_ret (v := .tuple #[.agg #[.int .i64 2, .int .i64 0, .slice none 0 0, .int .i64 0, .int .i64 0], .bool false]) (by simp [results, Tryd.results25, go_sem]) rfl ?_
  refine ⟨[.int .i64 2, .int .i64 0, .slice none 0 0, .int .i64 0, .int .i64 0], rfl, readsR (x := ⟨2, 0, [], 0, 0⟩) ⟨[], Lay.lies_ints.2 ⟨none, 0, rfl, ⟨by simp, by simp⟩, by simp, Or.inl ⟨rfl, rfl⟩⟩, by simp⟩ rfl rfl rfl rfl, ?_⟩
  exact unhide HB _ _

set_option maxRecDepth 100000 in
set_option maxHeartbeats 400000 in
theorem l3Read_no3 (g cap : Nat) (s : ByteArray) (w : World) (h0 : w.cell? ⟨g, 0, none⟩ = some (.string s)) (hs : s ≠ ⟨#[100, 114, 111, 112]⟩) :
    Calls Tryd.prog 25 #[.slice (some ⟨g, 0, none⟩) 5 cap] w fun e w' => ToldR w w' e ⟨2, 0, [], 0, 0⟩ false := by
  have e0 : (s.toList == [100, 114, 111, 112]) = false := by rw [beq_eq_false_iff_ne]; exact fun h => hs (str_of_list h)
  have nb : Below w.heap.size w ((w.alloc (.cells #[.int .i64 0, .int .i64 0, .slice none 0 0, .int .i64 0, .int .i64 0] 29)).alloc (.cells #[.int .i64 2, .int .i64 0, .slice none 0 0, .int .i64 0, .int .i64 0] 29)) := ((Below.refl _ _).alloc (Nat.le_refl _) _).alloc (by simp) _
  replace h0 := cell_keep nb h0
  have HB : Hid (∀ o o', Below w.heap.size w ((w.alloc o).alloc o')) := fun o o' => ((Below.refl _ _).alloc (Nat.le_refl _) _).alloc (by simp) _
  clear nb
  go_enter Tryd.func25, Tryd.ntmps25
  go_wp2_with fail
  refine bodyPost_ret (v := .tuple #[.agg #[.int .i64 2, .int .i64 0, .slice none 0 0, .int .i64 0, .int .i64 0], .bool false]) (by simp [results, Tryd.results25, go_sem]) rfl ?_
  refine ⟨[.int .i64 2, .int .i64 0, .slice none 0 0, .int .i64 0, .int .i64 0], rfl, readsR (x := ⟨2, 0, [], 0, 0⟩) ⟨[], Lay.lies_ints.2 ⟨none, 0, rfl, ⟨by simp, by simp⟩, by simp, Or.inl ⟨rfl, rfl⟩⟩, by simp⟩ rfl rfl rfl rfl, ?_⟩
  exact unhide HB _ _

set_option maxRecDepth 100000 in
set_option maxHeartbeats 400000 in
theorem l3Read_no4 (g cap : Nat) (s : ByteArray) (w : World) (h0 : w.cell? ⟨g, 0, none⟩ = some (.string ⟨#[100, 114, 111, 112]⟩)) (h2 : w.cell? ⟨g, 2, none⟩ = some (.string s)) (hs : s ≠ ⟨#[98, 121]⟩) :
    Calls Tryd.prog 25 #[.slice (some ⟨g, 0, none⟩) 5 cap] w fun e w' => ToldR w w' e ⟨2, 0, [], 0, 0⟩ false := by
  have e0 : (s.toList == [98, 121]) = false := by rw [beq_eq_false_iff_ne]; exact fun h => hs (str_of_list h)
  have nb : Below w.heap.size w ((w.alloc (.cells #[.int .i64 0, .int .i64 0, .slice none 0 0, .int .i64 0, .int .i64 0] 29)).alloc (.cells #[.int .i64 2, .int .i64 0, .slice none 0 0, .int .i64 0, .int .i64 0] 29)) := ((Below.refl _ _).alloc (Nat.le_refl _) _).alloc (by simp) _
  replace h0 := cell_keep nb h0
  replace h2 := cell_keep nb h2
  have HB : Hid (∀ o o', Below w.heap.size w ((w.alloc o).alloc o')) := fun o o' => ((Below.refl _ _).alloc (Nat.le_refl _) _).alloc (by simp) _
  clear nb
  go_enter Tryd.func25, Tryd.ntmps25
  go_wp2_with fail
  refine bodyPost_ret (v := .tuple #[.agg #[.int .i64 2, .int .i64 0, .slice none 0 0, .int .i64 0, .int .i64 0], .bool false]) (by simp [results, Tryd.results25, go_sem]) rfl ?_
  refine ⟨[.int .i64 2, .int .i64 0, .slice none 0 0, .int .i64 0, .int .i64 0], rfl, readsR (x := ⟨2, 0, [], 0, 0⟩) ⟨[], Lay.lies_ints.2 ⟨none, 0, rfl, ⟨by simp, by simp⟩, by simp, Or.inl ⟨rfl, rfl⟩⟩, by simp⟩ rfl rfl rfl rfl, ?_⟩
  exact unhide HB _ _

end Go.Proofs.YtjfplfhdfiebgaaDoor
