/-
  l1Digits writes a number in decimal.
  Condition: the number has at most four digits.
-/
import Derived.Test.YtjfplfhdfiebgaaDoorChecked
import Derived.Test.YtjfplfhdfiebgaaDoorGround
import Derived.Test.YtjfplfhdfiebgaaDoorNumPlain
import Derived.Laws.BytesArg
import Derived.Laws.Concat
import Derived.Deep.RegionHeld3
import Derived.Deep.RegionWith
namespace Go.Proofs.YtjfplfhdfiebgaaDoor
open Go.RowKit

def str (l : Bytes) : Value := .string ⟨l.toArray⟩

theorem below_keep {w W W' : World} (h : Below w.heap.size w W) (k : Below W.heap.size W W') : Below w.heap.size w W' := h.trans (k.mono h.size)

theorem below_undrew {W w1 : World} (h : Below W.drew.heap.size W.drew w1) : Below W.heap.size W w1 := ⟨h.os, h.tape, h.output, h.size, h.block⟩
theorem str_app (l m : Bytes) : (⟨l.toArray⟩ ++ ⟨m.toArray⟩ : ByteArray) = ⟨(l ++ m).toArray⟩ := by
  apply ByteArray.ext
  simp

theorem conv1 (w : World) (x : Int) : (convert 76 9 (.slice (some ⟨w.heap.size, 0, none⟩) 1 1)).run Tryd.prog (w.alloc (.cells #[.int .u8 x] 5)) = .ok (.string ⟨#[UInt8.ofNat x.toNat]⟩) (w.alloc (.cells #[.int .u8 x] 5)) := by
  have h := run_convert_bytes_arg (P := Tryd.prog) (w.alloc (.cells #[.int .u8 x] 5)) 76 5 Tryd.underlying76 Tryd.underlying5 w.heap.size 0 1 1 [x] rfl (fun i hi => by
    obtain rfl : i = 0 := by omega
    simp [go_sem]) 9 Tryd.underlying9
  exact h

theorem conv_later {w w1 : World} {x : Int} (hb : Below (w.alloc (.cells #[.int .u8 x] 5)).drew.heap.size (w.alloc (.cells #[.int .u8 x] 5)).drew w1) :
    (convert 76 9 (.slice (some ⟨w.heap.size, 0, none⟩) 1 1)).run Tryd.prog w1 = .ok (.string ⟨#[UInt8.ofNat x.toNat]⟩) w1 := by
  have h := run_convert_bytes_arg (P := Tryd.prog) w1 76 5 Tryd.underlying76 Tryd.underlying5 w.heap.size 0 1 1 [x] rfl (fun i hi => by
    obtain rfl : i = 0 := by omega
    rw [hb.cell (by show w.heap.size < (w.alloc (.cells #[.int .u8 x] 5)).heap.size; simp)]
    show (w.alloc (.cells #[.int .u8 x] 5)).cell? ⟨w.heap.size, 0 + 0, none⟩ = _
    simp [go_sem]) 9 Tryd.underlying9
  exact h

set_option maxRecDepth 100000 in
set_option maxHeartbeats 400000 in
theorem digits_one (n : Nat) (w : World) (hn : n < 10) :
    Calls Tryd.prog 34 #[.int .i64 (n : Int)] w fun e w' => e = .returned (str [dch n]) ∧ Below w.heap.size w w' := by
  have hcv := conv1 w (48 + (n : Int))
  go_enter Tryd.func34, Tryd.ntmps34
  go_wp2
  go_ret
  exact ⟨rfl, (Below.refl _ _).alloc (Nat.le_refl _) _⟩

set_option maxRecDepth 100000 in
set_option maxHeartbeats 400000 in
theorem digits_more (f n : Nat) (w : World) (hn : 10 ≤ n) (hn2 : n ≤ 99999) (hf : f ≤ 5)
    (ih : Hid (∀ W, Calls Tryd.prog 34 #[.int .i64 ((n / 10 : Nat) : Int)] W fun e w' => e = .returned (str (decF f (n / 10))) ∧ Below W.heap.size W w')) :
    Calls Tryd.prog 34 #[.int .i64 (n : Int)] w fun e w' => e = .returned (str (decF f (n / 10) ++ [dch (n % 10)])) ∧ Below w.heap.size w w' := by
  obtain ⟨d, hd⟩ : ∃ d : Nat, d = n % 10 := ⟨_, rfl⟩
  rw [← hd]
  have hd9 : d ≤ 9 := by omega
  have hcv := fun W => conv1 W (48 + (d : Int))
  have hcvd := conv_later (w := w) (x := 48 + (d : Int)) (Below.refl _ _)
  have hl := decF_len f (n / 10)
  generalize decF f (n / 10) = ds at *
  have hsum : ∀ W : World, (Op.stringOp .add ⟨ds.toArray⟩ ⟨#[UInt8.ofNat (48 + (d : Int)).toNat]⟩).run Tryd.prog W = .ok (.string (⟨ds.toArray⟩ ++ ⟨#[UInt8.ofNat (48 + (d : Int)).toNat]⟩)) W := fun W => run_string_add_sum W _ _ (by simp [ByteArray.size]; omega)
  have hw1 : IntKind.i64.wrap ((n : Int) / 10) = ((n / 10 : Nat) : Int) := by simp only [IntKind.wrap_i64]; omega
  have hw2 : IntKind.i64.wrap (48 + (n : Int).tmod 10) = 48 + (d : Int) := by
    rw [Int.tmod_eq_emod_of_nonneg (by omega)]
    simp only [IntKind.wrap_i64]
    omega
  have hw3 : IntKind.u8.wrap (48 + (d : Int)) = 48 + (d : Int) := by simp only [IntKind.wrap_u8]; omega
  have HD := hide hd
  clear hd
  simp only [str] at ih ⊢
  go_enter Tryd.func34, Tryd.ntmps34
  go_wp2_with fail
  go_region_with (go_at_call 34; refine (unhide ih _).mono ?_; rintro e w1 ⟨rfl, hb1⟩; (first | have hq := conv_later hb1 | skip))
  all_goals go_wp2_with fail
  all_goals go_ret
  all_goals refine ⟨congrArg (fun b => Ending.returned (Value.string b)) (str_app ds [dch d]), ?_⟩
  · exact (below_undrew hb1).alloc (below_undrew hb1).size _
  · exact ((Below.refl w.heap.size w).alloc (Nat.le_refl _) _).trans ((below_undrew hb1).mono (by simp))
  · exact ((Below.refl w.heap.size w).alloc (Nat.le_refl _) _).trans ((below_undrew hb1).mono (by simp))

/-- l1Digits at a number from 0 on. -/
theorem digits_nat (f : Nat) : ∀ (n : Nat) (w : World), n < 10 ^ (f + 1) → f ≤ 4 →
    Calls Tryd.prog 34 #[.int .i64 (n : Int)] w fun e w' => e = .returned (str (decF (f + 1) n)) ∧ Below w.heap.size w w' := by
  induction f with
  | zero =>
    intro n w hn _
    have e : decF (0 + 1) n = [dch n] := by simp [decF]; intro h; omega
    rw [e]
    exact digits_one n w (by omega)
  | succ f ih =>
    intro n w hn hf
    by_cases h : n < 10
    · have e : decF (f + 1 + 1) n = [dch n] := by rw [decF, if_pos h]
      rw [e]
      exact digits_one n w h
    · have e : decF (f + 1 + 1) n = decF (f + 1) (n / 10) ++ [dch (n % 10)] := by rw [decF, if_neg h]
      rw [e]
      have hp : n < 100000 := Nat.lt_of_lt_of_le hn (Nat.pow_le_pow_right (n := 10) (by omega) (show f + 1 + 1 ≤ 5 by omega))
      have hq : n / 10 < 10 ^ (f + 1) := by
        rw [Nat.pow_succ] at hn
        omega
      exact digits_more (f + 1) n w (by omega) (by omega) (by omega) (fun W => ih (n / 10) W hq (by omega))

set_option maxHeartbeats 400000 in
theorem digits_neg (n : Nat) (w : World) (hn : 1 ≤ n) (hn2 : n ≤ 9999) :
    Calls Tryd.prog 34 #[.int .i64 (-(n : Int))] w fun e w' => e = .returned (str (45 :: decF 4 n)) ∧ Below w.heap.size w w' := by
  have hl := decF_len 4 n
  have hsum : ∀ W : World, (Op.stringOp .add ⟨#[45]⟩ ⟨(decF 4 n).toArray⟩).run Tryd.prog W = .ok (.string (⟨#[45]⟩ ++ ⟨(decF 4 n).toArray⟩)) W := fun W => run_string_add_sum W _ _ (by simp [ByteArray.size]; omega)
  go_enter Tryd.func34, Tryd.ntmps34
  go_wp2_with fail
  refine (digits_nat 3 n w (by omega) (by omega)).mono ?_
  rintro e w1 ⟨rfl, hb1⟩
  simp only [str]
  have HB := hide hb1
  clear hb1
  go_wp2_with fail
  go_ret
  exact ⟨congrArg (fun b => Ending.returned (Value.string b)) (str_app [45] (decF 4 n)), unhide HB⟩

/-- l1Digits. -/
theorem digits (n : Int) (w : World) (h1 : -9999 ≤ n) (h2 : n ≤ 9999) :
    Calls Tryd.prog 34 #[.int .i64 n] w fun e w' => e = .returned (str (dec n)) ∧ Below w.heap.size w w' := by
  by_cases h : n < 0
  · obtain ⟨m, rfl⟩ : ∃ m : Nat, n = -(m : Int) := ⟨n.natAbs, by omega⟩
    have e : dec (-(m : Int)) = 45 :: decF 4 m := by simp [dec]; intro h; omega
    rw [e]
    exact digits_neg m w (by omega) (by omega)
  · obtain ⟨m, rfl⟩ := Int.eq_ofNat_of_zero_le (show 0 ≤ n by omega)
    have e : dec (m : Int) = decF 4 m := by simp [dec]
    rw [e]
    exact digits_nat 3 m w (by omega) (by omega)

end Go.Proofs.YtjfplfhdfiebgaaDoor
