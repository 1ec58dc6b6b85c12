/-
  Texts of this proof in one: NumPlain, Digits, Shelf, Fmt, LawXMsgText, ImplMust, ImplUpTo, ImplNodeId, SamePlain, AppInt, AppInts, ImplInts, ImplSameW, Fault, VecOf, WrBox, InB, InC.
  Their conditions stand in their theorems.
-/
import Derived.Test.YtkmfkaljdngigaaDoorMt02
import Derived.Test.YtkmfkaljdngigaaDoorChecked
import Derived.Test.YtkmfkaljdngigaaDoorMt01
import Derived.Laws.BytesArg
import Derived.Laws.Concat
import Derived.Deep.RegionHeld3
import Derived.Deep.RegionWith
import Derived.Shelf.Strings.Builder1
import Derived.Shelf.Strings.Builder2
import Derived.Shelf.Strings.OnBuilder
import Derived.Shelf.Strconv.Itoa0
import Derived.Shelf.Strconv.Itoa1
import Derived.Shelf.LaysM
import Derived.Shelf.Strconv.Itoa2
import Derived.Shelf.Strconv.Itoa3
import Derived.Shelf.Strconv.Itoa4
import Derived.Test.YtkmfkaljdngigaaDoorProg
import Derived.Lib.LaidTab
import Derived.Lib.AppendIntMem
import Derived.Deep.CutRange
import Derived.WalkKit
import Derived.WalkLawsBesides
import Derived.Deep.AppendLies
import Derived.Maps.AppendAt
import Derived.BigQuiet
import Derived.Deep.QuietTactic
import Derived.WalkSmall
import Derived.Outline

namespace Go.Proofs.YtkmfkaljdngigaaDoor

/-- What digits are worth, behind n. -/
def dval (n : Int) : Bytes → Int
  | [] => n
  | c :: r => dval (n * 10 + ((c.toNat : Int) - 48)) r
def allDig : Bytes → Bool
  | [] => true
  | c :: r => isDig c && allDig r

theorem isDig_bd {c : UInt8} (h : isDig c = true) : 48 ≤ c.toNat ∧ c.toNat ≤ 57 := by simpa [isDig] using h
theorem dval_ge (n : Int) (hn : 0 ≤ n) (l : Bytes) (h : allDig l = true) : n ≤ dval n l := by
  induction l generalizing n with
  | nil => exact Int.le_refl _
  | cons c r ih =>
    simp only [allDig, Bool.and_eq_true] at h
    have hb := isDig_bd h.1
    have := ih (n * 10 + ((c.toNat : Int) - 48)) (by omega) h.2
    simp only [dval]
    omega
theorem dval_snoc (n : Int) (l : Bytes) (c : UInt8) : dval n (l ++ [c]) = dval n l * 10 + ((c.toNat : Int) - 48) := by
  induction l generalizing n with
  | nil => rfl
  | cons d r ih => exact ih _
theorem allDig_snoc (l : Bytes) (c : UInt8) : allDig (l ++ [c]) = (allDig l && isDig c) := by
  induction l with
  | nil => simp [allDig]
  | cons d r ih => simp [allDig, ih, Bool.and_assoc]

/-- The machine's digits, at a text that opens with digits. -/
theorem digs_app (ds r : Bytes) (n : Int) (hn : 0 ≤ n) (h : allDig ds = true) (hne : ds ≠ []) (hr : headDig r = false) : digs n (ds ++ r) = if 1000 < dval n ds then none else some (dval n ds, r) := by
  induction ds generalizing n with
  | nil => exact absurd rfl hne
  | cons c ds ih =>
    simp only [allDig, Bool.and_eq_true] at h
    have hb := isDig_bd h.1
    have hge := dval_ge (n * 10 + ((c.toNat : Int) - 48)) (by omega) ds h.2
    simp only [List.cons_append, digs, dval]
    cases ds with
    | nil =>
      by_cases hm : 1000 < n * 10 + ((c.toNat : Int) - 48)
      · simp [hm, dval]
      · simp [hm, dval, hr]
    | cons d ds' =>
      have hd : headDig (d :: ds' ++ r) = true := by
        simp only [allDig, Bool.and_eq_true] at h
        exact h.2.1
      have h2 := ih (n * 10 + ((c.toNat : Int) - 48)) (by omega) h.2 (by simp)
      by_cases hm : 1000 < n * 10 + ((c.toNat : Int) - 48)
      · have : 1000 < dval (n * 10 + ((c.toNat : Int) - 48)) (d :: ds') := by omega
        simp only [hm, if_true, this]
      · rw [if_neg hm, if_pos hd]
        exact h2

/-- What the machine took were digits. -/
theorem digs_some (l : Bytes) (n v : Int) (r : Bytes) (hn : 0 ≤ n) (h0 : headDig l = true) (h : digs n l = some (v, r)) : ∃ ds, l = ds ++ r ∧ ds ≠ [] ∧ allDig ds = true ∧ dval n ds = v ∧ v ≤ 1000 ∧ headDig r = false := by
  induction l generalizing n with
  | nil => simp [digs] at h
  | cons c l ih =>
    simp only [digs] at h
    have hc : isDig c = true := h0
    have hb := isDig_bd hc
    by_cases hm : 1000 < n * 10 + ((c.toNat : Int) - 48)
    · simp [hm] at h
    · simp only [hm, if_false] at h
      cases hd : headDig l with
      | true =>
        simp only [hd, if_true] at h
        obtain ⟨ds, e1, e2, e3, e4, e5, e6⟩ := ih _ (by omega) hd h
        exact ⟨c :: ds, by rw [e1]; rfl, by simp, by simp [allDig, hc, e3], e4, e5, e6⟩
      | false =>
        simp only [hd] at h
        simp at h
        obtain ⟨rfl, rfl⟩ := h
        exact ⟨[c], rfl, by simp, by simp [allDig, hc], rfl, by omega, hd⟩

def dch (n : Nat) : UInt8 := UInt8.ofNat (48 + n)
def decF : Nat → Nat → Bytes
  | 0, _ => []
  | f + 1, n => if n < 10 then [dch n] else decF f (n / 10) ++ [dch (n % 10)]
def dec (n : Int) : Bytes := if n < 0 then 45 :: decF 4 n.natAbs else decF 4 n.toNat

theorem decF_len (f n : Nat) : (decF f n).length ≤ f := by
  induction f generalizing n with
  | zero => simp [decF]
  | succ f ih =>
    unfold decF
    split
    · simp
    · have := ih (n / 10)
      simp
      omega

theorem dch_nat (n : Nat) (h : n < 10) : (dch n).toNat = 48 + n := by
  unfold dch
  rw [UInt8.toNat_ofNat']
  omega
theorem dch_dig (n : Nat) (h : n < 10) : isDig (dch n) = true := by
  have := dch_nat n h
  simp [isDig, this]
  omega
theorem dch_of (c : UInt8) (h : isDig c = true) : dch (c.toNat - 48) = c := by
  have hb := isDig_bd h
  apply UInt8.toNat_inj.1
  rw [dch_nat _ (by omega)]
  omega

/-- What decF writes. -/
theorem decF_facts (f n : Nat) (hn : n < 10 ^ (f + 1)) : allDig (decF (f + 1) n) = true ∧ decF (f + 1) n ≠ [] ∧ dval 0 (decF (f + 1) n) = n ∧ (1 ≤ n → ∀ c r, decF (f + 1) n = c :: r → c.toNat ≠ 48) := by
  induction f generalizing n with
  | zero =>
    have h : n < 10 := by omega
    have e : decF (0 + 1) n = [dch n] := by rw [decF, if_pos h]
    have e2 := dch_nat n h
    rw [e]
    refine ⟨by simp [allDig, dch_dig n h], by simp, by simp [dval, e2]; omega, fun h1 c r hc => ?_⟩
    simp at hc
    obtain ⟨rfl, _⟩ := hc
    omega
  | succ f ih =>
    by_cases h : n < 10
    · have e : decF (f + 1 + 1) n = [dch n] := by rw [decF, if_pos h]
      have e2 := dch_nat n h
      rw [e]
      refine ⟨by simp [allDig, dch_dig n h], by simp, by simp [dval, e2]; omega, fun h1 c r hc => ?_⟩
      simp at hc
      obtain ⟨rfl, _⟩ := hc
      omega
    · have e : decF (f + 1 + 1) n = decF (f + 1) (n / 10) ++ [dch (n % 10)] := by rw [decF, if_neg h]
      have hq : n / 10 < 10 ^ (f + 1) := by
        rw [Nat.pow_succ] at hn
        omega
      obtain ⟨i1, i2, i3, i4⟩ := ih (n / 10) hq
      have hm : n % 10 < 10 := by omega
      rw [e]
      refine ⟨by rw [allDig_snoc, i1, dch_dig _ hm]; rfl, by simp, by rw [dval_snoc, i3, dch_nat _ hm]; omega, fun h1 c r hc => ?_⟩
      cases hl : decF (f + 1) (n / 10) with
      | nil => exact absurd hl i2
      | cons d ds =>
        rw [hl] at hc
        simp at hc
        obtain ⟨rfl, _⟩ := hc
        exact i4 (by omega) d ds hl

/-- One text alone. -/
theorem decF_of (f : Nat) : ∀ (ds : Bytes) (n : Nat), allDig ds = true → ds ≠ [] → (∀ c r, ds = c :: r → r ≠ [] → c.toNat ≠ 48) → dval 0 ds = n → n < 10 ^ (f + 1) → decF (f + 1) n = ds := by
  induction f with
  | zero =>
    intro ds n h1 h2 h3 h4 h5
    rcases List.eq_nil_or_concat ds with rfl | ⟨l, c, rfl⟩
    · exact absurd rfl h2
    · rw [List.concat_eq_append] at *
      rw [allDig_snoc, Bool.and_eq_true] at h1
      rw [dval_snoc] at h4
      have hb := isDig_bd h1.2
      have hl := dval_ge 0 (by omega) l h1.1
      have hn : n < 10 := by omega
      cases l with
      | nil =>
        rw [decF, if_pos hn]
        simp only [dval] at h4
        have : n = c.toNat - 48 := by omega
        rw [this, dch_of c h1.2]
        rfl
      | cons d ds =>
        exfalso
        have h6 := h3 d (ds ++ [c]) rfl (by simp)
        simp only [allDig, Bool.and_eq_true] at h1
        have hd := isDig_bd h1.1.1
        have := dval_ge (0 * 10 + ((d.toNat : Int) - 48)) (by omega) ds h1.1.2
        simp only [dval] at h4
        omega
  | succ f ih =>
    intro ds n h1 h2 h3 h4 h5
    rcases List.eq_nil_or_concat ds with rfl | ⟨l, c, rfl⟩
    · exact absurd rfl h2
    · rw [List.concat_eq_append] at *
      rw [allDig_snoc, Bool.and_eq_true] at h1
      rw [dval_snoc] at h4
      have hb := isDig_bd h1.2
      have hl := dval_ge 0 (by omega) l h1.1
      cases l with
      | nil =>
        simp only [dval] at h4
        have hn : n < 10 := by omega
        rw [decF, if_pos hn]
        have : n = c.toNat - 48 := by omega
        rw [this, dch_of c h1.2]
        rfl
      | cons d ds =>
        have h6 := h3 d (ds ++ [c]) rfl (by simp)
        have h7 := h1.1
        simp only [allDig, Bool.and_eq_true] at h7
        have hd := isDig_bd h7.1
        have h8 := dval_ge (0 * 10 + ((d.toNat : Int) - 48)) (by omega) ds h7.2
        have h9 : dval 0 (d :: ds) = dval (0 * 10 + ((d.toNat : Int) - 48)) ds := rfl
        have hn : ¬ n < 10 := by omega
        have hq : dval 0 (d :: ds) = ((n / 10 : Nat) : Int) := by omega
        rw [decF, if_neg hn, ih (d :: ds) (n / 10) h1.1 (by simp) (fun c' r' he hr => by simp at he; obtain ⟨rfl, _⟩ := he; exact h6) hq (by rw [Nat.pow_succ] at h5; omega)]
        have : n % 10 = c.toNat - 48 := by omega
        rw [this, dch_of c h1.2]

end Go.Proofs.YtkmfkaljdngigaaDoor

namespace Go.Proofs.YtkmfkaljdngigaaDoor
open Go.RowKit

def str (l : Bytes) : Value := .string ⟨l.toArray⟩

theorem below_keep {w W W' : World} (h : Below w.heap.size w W) (k : Below W.heap.size W W') : Below w.heap.size w W' := h.trans (k.mono h.size)

theorem below_undrew {W w1 : World} (h : Below W.drew.heap.size W.drew w1) : Below W.heap.size W w1 := ⟨h.os, h.tape, h.output, h.size, h.block⟩
theorem str_app (l m : Bytes) : (⟨l.toArray⟩ ++ ⟨m.toArray⟩ : ByteArray) = ⟨(l ++ m).toArray⟩ := by
  apply ByteArray.ext
  simp

theorem conv1 (w : World) (x : Int) : (convert 56 9 (.slice (some ⟨w.heap.size, 0, none⟩) 1 1)).run Tryd.prog (w.alloc (.cells #[.int .u8 x] 5)) = .ok (.string ⟨#[UInt8.ofNat x.toNat]⟩) (w.alloc (.cells #[.int .u8 x] 5)) := by
  have h := run_convert_bytes_arg (P := Tryd.prog) (w.alloc (.cells #[.int .u8 x] 5)) 56 5 Tryd.underlying56 Tryd.underlying5 w.heap.size 0 1 1 [x] rfl (fun i hi => by
    obtain rfl : i = 0 := by omega
    simp [go_sem]) 9 Tryd.underlying9
  exact h

theorem conv_later {w w1 : World} {x : Int} (hb : Below (w.alloc (.cells #[.int .u8 x] 5)).drew.heap.size (w.alloc (.cells #[.int .u8 x] 5)).drew w1) :
    (convert 56 9 (.slice (some ⟨w.heap.size, 0, none⟩) 1 1)).run Tryd.prog w1 = .ok (.string ⟨#[UInt8.ofNat x.toNat]⟩) w1 := by
  have h := run_convert_bytes_arg (P := Tryd.prog) w1 56 5 Tryd.underlying56 Tryd.underlying5 w.heap.size 0 1 1 [x] rfl (fun i hi => by
    obtain rfl : i = 0 := by omega
    rw [hb.cell (by show w.heap.size < (w.alloc (.cells #[.int .u8 x] 5)).heap.size; simp)]
    show (w.alloc (.cells #[.int .u8 x] 5)).cell? ⟨w.heap.size, 0 + 0, none⟩ = _
    simp [go_sem]) 9 Tryd.underlying9
  exact h

set_option maxRecDepth 100000 in
set_option maxHeartbeats 400000 in
theorem digits_one (n : Nat) (w : World) (hn : n < 10) :
    Calls Tryd.prog 12 #[.int .i64 (n : Int)] w fun e w' => e = .returned (str [dch n]) ∧ Below w.heap.size w w' := by
  have hcv := conv1 w (48 + (n : Int))
  go_enter Tryd.func12, Tryd.ntmps12
  go_wp2
  go_ret
  exact ⟨rfl, (Below.refl _ _).alloc (Nat.le_refl _) _⟩

set_option maxRecDepth 100000 in
set_option maxHeartbeats 400000 in
theorem digits_more (f n : Nat) (w : World) (hn : 10 ≤ n) (hn2 : n ≤ 99999) (hf : f ≤ 5)
    (ih : Hid (∀ W, Calls Tryd.prog 12 #[.int .i64 ((n / 10 : Nat) : Int)] W fun e w' => e = .returned (str (decF f (n / 10))) ∧ Below W.heap.size W w')) :
    Calls Tryd.prog 12 #[.int .i64 (n : Int)] w fun e w' => e = .returned (str (decF f (n / 10) ++ [dch (n % 10)])) ∧ Below w.heap.size w w' := by
  obtain ⟨d, hd⟩ : ∃ d : Nat, d = n % 10 := ⟨_, rfl⟩
  rw [← hd]
  have hd9 : d ≤ 9 := by omega
  have hcv := fun W => conv1 W (48 + (d : Int))
  have hcvd := conv_later (w := w) (x := 48 + (d : Int)) (Below.refl _ _)
  have hl := decF_len f (n / 10)
  generalize decF f (n / 10) = ds at *
  have hsum : ∀ W : World, (Op.stringOp .add ⟨ds.toArray⟩ ⟨#[UInt8.ofNat (48 + (d : Int)).toNat]⟩).run Tryd.prog W = .ok (.string (⟨ds.toArray⟩ ++ ⟨#[UInt8.ofNat (48 + (d : Int)).toNat]⟩)) W := fun W => run_string_add_sum W _ _ (by simp [ByteArray.size]; omega)
  have hw1 : IntKind.i64.wrap ((n : Int) / 10) = ((n / 10 : Nat) : Int) := by simp only [IntKind.wrap_i64]; omega
  have hw2 : IntKind.i64.wrap (48 + (n : Int).tmod 10) = 48 + (d : Int) := by
    rw [Int.tmod_eq_emod_of_nonneg (by omega)]
    simp only [IntKind.wrap_i64]
    omega
  have hw3 : IntKind.u8.wrap (48 + (d : Int)) = 48 + (d : Int) := by simp only [IntKind.wrap_u8]; omega
  have HD := hide hd
  clear hd
  simp only [str] at ih ⊢
  go_enter Tryd.func12, Tryd.ntmps12
  go_wp2_with fail
  go_region_with (go_at_call 12; refine (unhide ih _).mono ?_; rintro e w1 ⟨rfl, hb1⟩; (first | have hq := conv_later hb1 | skip))
  all_goals go_wp2_with fail
  all_goals go_ret
  all_goals refine ⟨congrArg (fun b => Ending.returned (Value.string b)) (str_app ds [dch d]), ?_⟩
  · exact (below_undrew hb1).alloc (below_undrew hb1).size _
  · exact ((Below.refl w.heap.size w).alloc (Nat.le_refl _) _).trans ((below_undrew hb1).mono (by simp))
  · exact ((Below.refl w.heap.size w).alloc (Nat.le_refl _) _).trans ((below_undrew hb1).mono (by simp))

/-- l1Digits at a number from 0 on. -/
theorem digits_nat (f : Nat) : ∀ (n : Nat) (w : World), n < 10 ^ (f + 1) → f ≤ 4 →
    Calls Tryd.prog 12 #[.int .i64 (n : Int)] w fun e w' => e = .returned (str (decF (f + 1) n)) ∧ Below w.heap.size w w' := by
  induction f with
  | zero =>
    intro n w hn _
    have e : decF (0 + 1) n = [dch n] := by simp [decF]; intro h; omega
    rw [e]
    exact digits_one n w (by omega)
  | succ f ih =>
    intro n w hn hf
    by_cases h : n < 10
    · have e : decF (f + 1 + 1) n = [dch n] := by rw [decF, if_pos h]
      rw [e]
      exact digits_one n w h
    · have e : decF (f + 1 + 1) n = decF (f + 1) (n / 10) ++ [dch (n % 10)] := by rw [decF, if_neg h]
      rw [e]
      have hp : n < 100000 := Nat.lt_of_lt_of_le hn (Nat.pow_le_pow_right (n := 10) (by omega) (show f + 1 + 1 ≤ 5 by omega))
      have hq : n / 10 < 10 ^ (f + 1) := by
        rw [Nat.pow_succ] at hn
        omega
      exact digits_more (f + 1) n w (by omega) (by omega) (by omega) (fun W => ih (n / 10) W hq (by omega))

set_option maxHeartbeats 400000 in
theorem digits_neg (n : Nat) (w : World) (hn : 1 ≤ n) (hn2 : n ≤ 9999) :
    Calls Tryd.prog 12 #[.int .i64 (-(n : Int))] w fun e w' => e = .returned (str (45 :: decF 4 n)) ∧ Below w.heap.size w w' := by
  have hl := decF_len 4 n
  have hsum : ∀ W : World, (Op.stringOp .add ⟨#[45]⟩ ⟨(decF 4 n).toArray⟩).run Tryd.prog W = .ok (.string (⟨#[45]⟩ ++ ⟨(decF 4 n).toArray⟩)) W := fun W => run_string_add_sum W _ _ (by simp [ByteArray.size]; omega)
  go_enter Tryd.func12, Tryd.ntmps12
  go_wp2_with fail
  refine (digits_nat 3 n w (by omega) (by omega)).mono ?_
  rintro e w1 ⟨rfl, hb1⟩
  simp only [str]
  have HB := hide hb1
  clear hb1
  go_wp2_with fail
  go_ret
  exact ⟨congrArg (fun b => Ending.returned (Value.string b)) (str_app [45] (decF 4 n)), unhide HB⟩

/-- l1Digits. -/
theorem digits (n : Int) (w : World) (h1 : -9999 ≤ n) (h2 : n ≤ 9999) :
    Calls Tryd.prog 12 #[.int .i64 n] w fun e w' => e = .returned (str (dec n)) ∧ Below w.heap.size w w' := by
  by_cases h : n < 0
  · obtain ⟨m, rfl⟩ : ∃ m : Nat, n = -(m : Int) := ⟨n.natAbs, by omega⟩
    have e : dec (-(m : Int)) = 45 :: decF 4 m := by simp [dec]; intro h; omega
    rw [e]
    exact digits_neg m w (by omega) (by omega)
  · obtain ⟨m, rfl⟩ := Int.eq_ofNat_of_zero_le (show 0 ≤ n by omega)
    have e : dec (m : Int) = decF 4 m := by simp [dec]
    rw [e]
    exact digits_nat 3 m w (by omega) (by omega)

end Go.Proofs.YtkmfkaljdngigaaDoor

namespace Go.Proofs
open Go.Shelf
def Tryd.lays156_ren : Go.Shelf.Ren := ⟨fun | 156 => 18 | 165 => 32 | 166 => 33 | 169 => 34 | 240 => 49 | 241 => 50 | 276 => 61 | 277 => 62 | n => n, fun | 31 => 45 | 9 => 9 | 3 => 3 | 4 => 4 | 0 => 0 | 20 => 20 | 72 => 65 | 76 => 69 | 70 => 63 | 37 => 56 | 75 => 68 | 127 => 88 | 164 => 100 | 5 => 5 | 80 => 71 | n => n, fun | n => n⟩
theorem Tryd.lays156 : Go.Proofs.Lays.n156 Tryd.prog Tryd.lays156_ren := {
  mixed := by kernel_rfl
  f156 := Tryd.func18.trans (congrArg some (by kernel_rfl))
  f165 := Tryd.func32.trans (congrArg some (by kernel_rfl))
  f166 := Tryd.func33.trans (congrArg some (by kernel_rfl))
  f169 := Tryd.func34.trans (congrArg some (by kernel_rfl))
  f240 := Tryd.func49.trans (congrArg some (by kernel_rfl))
  f241 := Tryd.func50.trans (congrArg some (by kernel_rfl))
  f276 := Tryd.func61.trans (congrArg some (by kernel_rfl))
  f277 := Tryd.func62.trans (congrArg some (by kernel_rfl))
  t0 := Tryd.underlying0
  a0 := Tryd.isAgg0
  z0 := Tryd.sizeOf0
  v0 := Tryd.zeroValue0
  t3 := Tryd.underlying3
  a3 := Tryd.isAgg3
  z3 := Tryd.sizeOf3
  v3 := Tryd.zeroValue3
  t4 := Tryd.underlying4
  a4 := Tryd.isAgg4
  z4 := Tryd.sizeOf4
  v4 := Tryd.zeroValue4
  t9 := Tryd.underlying9
  a9 := Tryd.isAgg9
  z9 := Tryd.sizeOf9
  v9 := Tryd.zeroValue9
  t20 := Tryd.underlying20
  a20 := Tryd.isAgg20
  z20 := Tryd.sizeOf20
  v20 := Tryd.zeroValue20
  t31 := Tryd.underlying45
  a31 := Tryd.isAgg45
  z31 := Tryd.sizeOf45
  v31 := Tryd.zeroValue45
  t37 := Tryd.underlying56
  a37 := Tryd.isAgg56
  z37 := Tryd.sizeOf56
  v37 := Tryd.zeroValue56
  t70 := Tryd.underlying63
  a70 := Tryd.isAgg63
  z70 := Tryd.sizeOf63
  v70 := Tryd.zeroValue63
  t72 := Tryd.underlying65
  a72 := Tryd.isAgg65
  z72 := Tryd.sizeOf65
  v72 := Tryd.zeroValue65
  t75 := Tryd.underlying68
  a75 := Tryd.isAgg68
  z75 := Tryd.sizeOf68
  v75 := Tryd.zeroValue68
  t76 := Tryd.underlying69
  a76 := Tryd.isAgg69
  z76 := Tryd.sizeOf69
  v76 := Tryd.zeroValue69
  t127 := Tryd.underlying88
  a127 := Tryd.isAgg88
  z127 := Tryd.sizeOf88
  v127 := Tryd.zeroValue88
  t164 := Tryd.underlying100
  a164 := Tryd.isAgg100
  z164 := Tryd.sizeOf100
  v164 := Tryd.zeroValue100 }
theorem Tryd.Builder_Extra_156 : Builder.Extra Tryd.prog Tryd.lays156_ren := {
  sizeBuilder := by kernel_rfl
  liesBuilder := by kernel_rfl
  t5 := Tryd.underlying5
  a5 := Tryd.isAgg5
  z5 := Tryd.sizeOf5
  v5 := Tryd.zeroValue5
  infoByte := by kernel_rfl
  cellsByte := by kernel_rfl
  sizeByte := by kernel_rfl
  neB5 := by decide }
open Go.RowKit in
theorem Tryd.strings_Join (bk o c : Nat) (xs : List ByteArray) (sep : ByteArray) (w : World) (hcells : ∀ (j : Nat) x, xs[j]? = some x → w.cell? ⟨bk, o + j, none⟩ = some (.string x)) (hbk : bk < w.heap.size) (hN : xs.length ≤ 140737488355328) (hcap : xs.length ≤ c) (hlen : (Lib.join (xs.map (·.data.toList)) sep.data.toList).length ≤ 140737488355328) :
    Calls Tryd.prog 18 #[.slice (some ⟨bk, o, none⟩) xs.length c, .string sep] w fun e w' => e = .returned (.string ⟨(Lib.join (xs.map (·.data.toList)) sep.data.toList).toArray⟩) ∧ Below w.heap.size w w' := Any.strings_Join Tryd.lays156 Tryd.Builder_Extra_156 bk o c xs sep w hcells hbk hN hcap hlen
def Tryd.laysM173_ren : Go.Shelf.Ren := ⟨fun | 173 => 45 | 246 => 54 | 283 => 63 | 284 => 64 | 285 => 65 | 286 => 66 | 129 => 69 | 317 => 68 | 318 => 70 | 319 => 71 | 320 => 72 | 337 => 74 | 338 => 75 | n => n, fun | 2 => 2 | 3 => 3 | 9 => 9 | 4 => 4 | 171 => 104 | 0 => 0 | 53 => 105 | 37 => 56 | 5 => 5 | 173 => 108 | 212 => 112 | 51 => 113 | 20 => 20 | 213 => 114 | 46 => 116 | 232 => 119 | 233 => 120 | n => n, fun | 17 => 1 | 18 => 2 | 19 => 3 | n => n⟩
theorem Tryd.laysM173 : Go.Proofs.LaysM.n173 Tryd.prog Tryd.laysM173_ren := {
  mixed := by kernel_rfl
  f129 := Tryd.func69.trans (congrArg some (by kernel_rfl))
  f173 := Tryd.func45.trans (congrArg some (by kernel_rfl))
  f246 := Tryd.func54.trans (congrArg some (by kernel_rfl))
  f283 := Tryd.func63.trans (congrArg some (by kernel_rfl))
  f284 := Tryd.func64.trans (congrArg some (by kernel_rfl))
  f285 := Tryd.func65.trans (congrArg some (by kernel_rfl))
  f286 := Tryd.func66.trans (congrArg some (by kernel_rfl))
  f317 := Tryd.func68.trans (congrArg some (by kernel_rfl))
  f318 := Tryd.func70.trans (congrArg some (by kernel_rfl))
  f319 := Tryd.func71.trans (congrArg some (by kernel_rfl))
  f320 := Tryd.func72.trans (congrArg some (by kernel_rfl))
  f337 := Tryd.func74.trans (congrArg some (by kernel_rfl))
  f338 := Tryd.func75.trans (congrArg some (by kernel_rfl))
  t0 := Tryd.underlying0
  a0 := Tryd.isAgg0
  z0 := Tryd.sizeOf0
  v0 := Tryd.zeroValue0
  t2 := Tryd.underlying2
  a2 := Tryd.isAgg2
  z2 := Tryd.sizeOf2
  v2 := Tryd.zeroValue2
  t3 := Tryd.underlying3
  a3 := Tryd.isAgg3
  z3 := Tryd.sizeOf3
  v3 := Tryd.zeroValue3
  t4 := Tryd.underlying4
  a4 := Tryd.isAgg4
  z4 := Tryd.sizeOf4
  v4 := Tryd.zeroValue4
  t5 := Tryd.underlying5
  a5 := Tryd.isAgg5
  z5 := Tryd.sizeOf5
  v5 := Tryd.zeroValue5
  t9 := Tryd.underlying9
  a9 := Tryd.isAgg9
  z9 := Tryd.sizeOf9
  v9 := Tryd.zeroValue9
  t20 := Tryd.underlying20
  a20 := Tryd.isAgg20
  z20 := Tryd.sizeOf20
  v20 := Tryd.zeroValue20
  t37 := Tryd.underlying56
  a37 := Tryd.isAgg56
  z37 := Tryd.sizeOf56
  v37 := Tryd.zeroValue56
  t46 := Tryd.underlying116
  a46 := Tryd.isAgg116
  z46 := Tryd.sizeOf116
  v46 := Tryd.zeroValue116
  t51 := Tryd.underlying113
  a51 := Tryd.isAgg113
  z51 := Tryd.sizeOf113
  v51 := Tryd.zeroValue113
  t53 := Tryd.underlying105
  a53 := Tryd.isAgg105
  z53 := Tryd.sizeOf105
  v53 := Tryd.zeroValue105
  t171 := Tryd.underlying104
  a171 := Tryd.isAgg104
  z171 := Tryd.sizeOf104
  v171 := Tryd.zeroValue104
  t173 := Tryd.underlying108
  a173 := Tryd.isAgg108
  z173 := Tryd.sizeOf108
  v173 := Tryd.zeroValue108
  t212 := Tryd.underlying112
  a212 := Tryd.isAgg112
  z212 := Tryd.sizeOf112
  v212 := Tryd.zeroValue112
  t213 := Tryd.underlying114
  a213 := Tryd.isAgg114
  z213 := Tryd.sizeOf114
  t232 := Tryd.underlying119
  a232 := Tryd.isAgg119
  z232 := Tryd.sizeOf119
  v232 := Tryd.zeroValue119
  t233 := Tryd.underlying120
  a233 := Tryd.isAgg120
  z233 := Tryd.sizeOf120
  v233 := Tryd.zeroValue120
  g17 := by kernel_rfl
  g18 := by kernel_rfl
  g19 := by kernel_rfl
  i0 := by kernel_rfl
  i2 := by kernel_rfl
  i3 := by kernel_rfl
  i4 := by kernel_rfl
  i5 := by kernel_rfl
  i9 := by kernel_rfl
  i20 := by kernel_rfl
  i37 := by kernel_rfl
  i46 := by kernel_rfl
  i51 := by kernel_rfl
  i53 := by kernel_rfl
  i171 := by kernel_rfl
  i173 := by kernel_rfl
  i212 := by kernel_rfl
  i232 := by kernel_rfl
  i233 := by kernel_rfl
  m17 := by kernel_rfl
  m18 := by kernel_rfl
  m19 := by kernel_rfl }
open Go.RowKit Go.Sort Go.Lib in
theorem Tryd.strconv_FormatInt_10 (n : Int) (h0 : -9223372036854775808 ≤ n) (h1 : n ≤ 9223372036854775807) (w : World) (htab : Lib.TabIs Tryd.prog w "internal/strconv.uint64pow10" .u64 Lib.pow10Tab) :
    Calls Tryd.prog 45 #[.int .i64 n, .int .i64 10] w fun e w' => e = .returned (.string ⟨(Lib.itoa n).toArray⟩) ∧ ∃ k os, w' = grow (w.drewN k) os := Any.strconv_FormatInt_10 Tryd.laysM173 n h0 h1 w htab
end Go.Proofs

namespace Go.Proofs.YtkmfkaljdngigaaDoor
open Go.RowKit

theorem decF_digits (f : Nat) : ∀ n, n < 10 ^ (f + 1) → decF (f + 1) n = Lib.decDigits n := by
  induction f with
  | zero =>
    intro n hn
    have h : n < 10 := by omega
    rw [decF, if_pos h, Lib.decDigits, dif_pos h]
    rfl
  | succ f ih =>
    intro n hn
    by_cases h : n < 10
    · rw [decF, if_pos h, Lib.decDigits, dif_pos h]
      rfl
    · rw [decF, if_neg h, Lib.decDigits, dif_neg h, ih (n / 10) (by rw [Nat.pow_succ] at hn; omega)]
      rfl
theorem dec_itoa (n : Int) (h1 : -9999 ≤ n) (h2 : n ≤ 9999) : Lib.itoa n = dec n := by
  unfold Lib.itoa dec
  by_cases h : n < 0
  · rw [if_pos h, if_pos h, decF_digits 3 _ (by omega)]
  · rw [if_neg h, if_neg h, decF_digits 3 _ (by omega)]

def Tab (w : World) : Prop := Lib.TabIs Tryd.prog w "internal/strconv.uint64pow10" .u64 Lib.pow10Tab
theorem Tab.later {w w' : World} (h : Tab w) (hb : Below w.heap.size w w') : Tab w' := Lib.tabBelow_of_tabIs h w' hb

theorem grow_below (w : World) (k : Nat) (os : Array Obj) : Below w.heap.size w (Go.Sort.grow (w.drewN k) os) :=
  ⟨rfl, rfl, rfl, by simp [Go.Sort.grow], fun i hi => by simp [Go.Sort.grow, Array.getElem?_append, hi]⟩

theorem formatC (n : Int) (w : World) (h1 : -9999 ≤ n) (h2 : n ≤ 9999) (ht : Tab w) :
    Calls Tryd.prog 45 #[.int .i64 n, .int .i64 10] w fun e w' => e = .returned (str (dec n)) ∧ Below w.heap.size w w' := by
  refine (Tryd.strconv_FormatInt_10 n (by omega) (by omega) w ht).mono ?_
  rintro e w' ⟨rfl, k, os, rfl⟩
  rw [dec_itoa n h1 h2]
  exact ⟨rfl, grow_below _ _ _⟩


end Go.Proofs.YtkmfkaljdngigaaDoor

namespace Go.Proofs.YtkmfkaljdngigaaDoor
open Go.RowKit

set_option maxRecDepth 100000 in
set_option maxHeartbeats 4000000 in
theorem lawx_MsgText (u0 : List Value) (x0 : DMsg) (y : DTextResult) (w : World) (A0 : Lay.tMsg.Reads w u0 x0) (NS : Lay.tMsg.sz x0 ≤ 1048576) (ht : Tab w)
    (hS : ∀ (W : World) (u0 : List Value), Tab W → Lay.tMsg.Reads W u0 x0 → Calls Tryd.prog 5 #[.agg u0.toArray] W fun e w' => ∃ cs, e = .returned (.agg cs.toArray) ∧ Lay.tTextResult.Reads w' cs y ∧ Below W.heap.size W w')
    (hI : ∀ (W : World) (u0 : List Value), Tab W → Lay.tMsg.Reads W u0 x0 → Calls Tryd.prog 7 #[.agg u0.toArray] W fun e w' => ∃ cs, e = .returned (.agg cs.toArray) ∧ Lay.tTextResult.OwnIn w' cs y W.heap.size w'.heap.size ∧ Below W.heap.size W w') :
    Calls Tryd.prog 3 #[.agg u0.toArray] w fun e w' => e = .returned (.bool true) ∧ Below w.heap.size w w' := by
  obtain ⟨a7p0, d7p0, rfl, -⟩ := open_Msg A0
  have HS := hide hS
  have HI := hide hI
  clear hS hI
  have HA0 := hide A0.liesIn
  clear A0
  have N0 : Lay.tMsg.sz x0 ≤ 1048576 := by omega
  have HN0 := hide N0
  clear N0
  have HNS := hide NS
  clear NS
  have HT := hide ht
  clear ht
  have HB := hide (Below.refl w.heap.size w)
  go_enter Tryd.func3, Tryd.ntmps3
  go_wp2_with fail
  have nb : Below w.heap.size w (w.alloc (.cells #[.int .i64 x0.kind, .int .i64 x0.epoch, .int .i64 x0.src, .int .i64 x0.dst, .int .i64 x0.index, .int .i64 x0.write.kind, .int .i64 x0.write.id, .slice a7p0 x0.write.vec.length d7p0, .int .i64 x0.write.session, .int .i64 x0.write.seq] 26)) := (Below.refl w.heap.size w).alloc (Nat.le_refl _) _
  have P0 : Hid (Box w.heap.size #[.int .i64 x0.kind, .int .i64 x0.epoch, .int .i64 x0.src, .int .i64 x0.dst, .int .i64 x0.index, .int .i64 x0.write.kind, .int .i64 x0.write.id, .slice a7p0 x0.write.vec.length d7p0, .int .i64 x0.write.session, .int .i64 x0.write.seq] 26 (w.alloc (.cells #[.int .i64 x0.kind, .int .i64 x0.epoch, .int .i64 x0.src, .int .i64 x0.dst, .int .i64 x0.index, .int .i64 x0.write.kind, .int .i64 x0.write.id, .slice a7p0 x0.write.vec.length d7p0, .int .i64 x0.write.session, .int .i64 x0.write.seq] 26)) (w.heap.size)) := newBoxAt (by omega) (by simp)
  generalize haw1 : (w.alloc (.cells #[.int .i64 x0.kind, .int .i64 x0.epoch, .int .i64 x0.src, .int .i64 x0.dst, .int .i64 x0.index, .int .i64 x0.write.kind, .int .i64 x0.write.id, .slice a7p0 x0.write.vec.length d7p0, .int .i64 x0.write.session, .int .i64 x0.write.seq] 26)) = w1 at *
  have Gw1 : w.heap.size + 1 ≤ w1.heap.size := by rw [← haw1]; simp
  clear haw1
  replace HA0 := hide ((unhide HA0).later nb)
  have Zw1 : w.heap.size ≤ w1.heap.size := nb.size
  replace HB := hide ((unhide HB).trans (nb.mono (by omega)))
  clear nb
  have hns := unhide HNS
  refine (sz_Msg _ x0 (1048576) w1 (unhide HA0).reads (by omega)).mono ?_
  rintro e w2 ⟨rfl, hb⟩
  replace HA0 := hide ((unhide HA0).later hb)
  replace P0 := hide ((unhide P0).keep hb)
  have Zw2 : w1.heap.size ≤ w2.heap.size := hb.size
  replace HB := hide ((unhide HB).trans (hb.mono (by omega)))
  clear hb
  rw [szR_ok (by omega)]
  have hq0 : decide (((1048576 - Lay.tMsg.sz x0 : Nat) : Int) < 0) = false := by simp
  clear hns
  have l0P0 := (unhide P0).at 0 _ rfl
  have l1P0 := (unhide P0).at 1 _ rfl
  have l2P0 := (unhide P0).at 2 _ rfl
  have l3P0 := (unhide P0).at 3 _ rfl
  have l4P0 := (unhide P0).at 4 _ rfl
  have l5P0 := (unhide P0).at 5 _ rfl
  have l6P0 := (unhide P0).at 6 _ rfl
  have l7P0 := (unhide P0).at 7 _ rfl
  have l8P0 := (unhide P0).at 8 _ rfl
  have l9P0 := (unhide P0).at 9 _ rfl
  have ltP0 : w.heap.size < w2.heap.size := by omega
  simp only [List.getElem_toArray, List.getElem_cons_zero, List.getElem_cons_succ] at l0P0 l1P0 l2P0 l3P0 l4P0 l5P0 l6P0 l7P0 l8P0 l9P0
  go_wp2_with fail
  clear l0P0 l1P0 l2P0 l3P0 l4P0 l5P0 l6P0 l7P0 l8P0 l9P0 ltP0
  clear hq0
  refine (to_Msg _ x0 w2 (unhide HA0).reads (unhide HN0)).mono ?_
  rintro e w3 ⟨vc0, rfl, O, hb⟩
  replace HA0 := hide ((unhide HA0).later hb)
  replace P0 := hide ((unhide P0).keep hb)
  have Zw3 : w2.heap.size ≤ w3.heap.size := hb.size
  replace HB := hide ((unhide HB).trans (hb.mono (by omega)))
  clear hb
  obtain ⟨a7c0, d7c0, rfl, -⟩ := open_Msg O.reads
  have Hc0 := hide O
  clear O
  have l0P0 := (unhide P0).at 0 _ rfl
  have l1P0 := (unhide P0).at 1 _ rfl
  have l2P0 := (unhide P0).at 2 _ rfl
  have l3P0 := (unhide P0).at 3 _ rfl
  have l4P0 := (unhide P0).at 4 _ rfl
  have l5P0 := (unhide P0).at 5 _ rfl
  have l6P0 := (unhide P0).at 6 _ rfl
  have l7P0 := (unhide P0).at 7 _ rfl
  have l8P0 := (unhide P0).at 8 _ rfl
  have l9P0 := (unhide P0).at 9 _ rfl
  have ltP0 : w.heap.size < w3.heap.size := by omega
  simp only [List.getElem_toArray, List.getElem_cons_zero, List.getElem_cons_succ] at l0P0 l1P0 l2P0 l3P0 l4P0 l5P0 l6P0 l7P0 l8P0 l9P0
  go_wp2_with fail
  clear l0P0 l1P0 l2P0 l3P0 l4P0 l5P0 l6P0 l7P0 l8P0 l9P0 ltP0
  refine (unhide HS w3 _ ((unhide HT).later (unhide HB)) (unhide Hc0).reads).mono ?_
  rintro e w4 ⟨cs, rfl, O, hb⟩
  replace HA0 := hide ((unhide HA0).later hb)
  replace P0 := hide ((unhide P0).keep hb)
  replace Hc0 := hide ((unhide Hc0).later hb)
  have Zw4 : w3.heap.size ≤ w4.heap.size := hb.size
  replace HB := hide ((unhide HB).trans (hb.mono (by omega)))
  clear hb
  obtain ⟨bl, O⟩ := O
  obtain ⟨rfl, -⟩ := lies_TextResult.1 O
  have HW := hide (Lay.Reads.liesIn ⟨_, O⟩)
  clear O
  have nb : Below w4.heap.size w4 (w4.alloc (.cells #[.int .i64 y.code, .string y.text] 29)) := (Below.refl _ _).alloc (Nat.le_refl _) _
  have YW : Hid (Box w4.heap.size #[.int .i64 y.code, .string y.text] 29 (w4.alloc (.cells #[.int .i64 y.code, .string y.text] 29)) w4.heap.size) := newBox (Nat.le_refl _)
  clear Hc0
  have l0P0 := (unhide P0).at 0 _ rfl
  have l1P0 := (unhide P0).at 1 _ rfl
  have l2P0 := (unhide P0).at 2 _ rfl
  have l3P0 := (unhide P0).at 3 _ rfl
  have l4P0 := (unhide P0).at 4 _ rfl
  have l5P0 := (unhide P0).at 5 _ rfl
  have l6P0 := (unhide P0).at 6 _ rfl
  have l7P0 := (unhide P0).at 7 _ rfl
  have l8P0 := (unhide P0).at 8 _ rfl
  have l9P0 := (unhide P0).at 9 _ rfl
  have ltP0 : w.heap.size < w4.heap.size := by omega
  simp only [List.getElem_toArray, List.getElem_cons_zero, List.getElem_cons_succ] at l0P0 l1P0 l2P0 l3P0 l4P0 l5P0 l6P0 l7P0 l8P0 l9P0
  go_wp2_with fail
  clear l0P0 l1P0 l2P0 l3P0 l4P0 l5P0 l6P0 l7P0 l8P0 l9P0 ltP0
  generalize haw5 : w4.alloc (.cells #[.int .i64 y.code, .string y.text] 29) = w5 at *
  have Gw5 : w4.heap.size < w5.heap.size := by rw [← haw5]; simp
  clear haw5
  replace HA0 := hide ((unhide HA0).later nb)
  replace P0 := hide ((unhide P0).keep nb)
  replace HW := hide ((unhide HW).later nb)
  have Zw5 : w4.heap.size ≤ w5.heap.size := nb.size
  replace HB := hide ((unhide HB).trans (nb.mono (by omega)))
  clear nb
  refine (to_Msg _ x0 w5 (unhide HA0).reads (unhide HN0)).mono ?_
  rintro e w6 ⟨vx0, rfl, O, hb⟩
  replace HA0 := hide ((unhide HA0).later hb)
  replace P0 := hide ((unhide P0).keep hb)
  replace HW := hide ((unhide HW).later hb)
  replace YW := hide ((unhide YW).keep hb)
  have Zw6 : w5.heap.size ≤ w6.heap.size := hb.size
  replace HB := hide ((unhide HB).trans (hb.mono (by omega)))
  clear hb
  obtain ⟨a7x0, d7x0, rfl, -⟩ := open_Msg O.reads
  have Hx0 := hide O
  clear O
  have nb : Below w6.heap.size w6 (w6.alloc (.cells #[.int .i64 x0.kind, .int .i64 x0.epoch, .int .i64 x0.src, .int .i64 x0.dst, .int .i64 x0.index, .int .i64 x0.write.kind, .int .i64 x0.write.id, .slice a7x0 x0.write.vec.length d7x0, .int .i64 x0.write.session, .int .i64 x0.write.seq] 33)) := (Below.refl _ _).alloc (Nat.le_refl _) _
  have X0 : Hid (Box w6.heap.size #[.int .i64 x0.kind, .int .i64 x0.epoch, .int .i64 x0.src, .int .i64 x0.dst, .int .i64 x0.index, .int .i64 x0.write.kind, .int .i64 x0.write.id, .slice a7x0 x0.write.vec.length d7x0, .int .i64 x0.write.session, .int .i64 x0.write.seq] 33 (w6.alloc (.cells #[.int .i64 x0.kind, .int .i64 x0.epoch, .int .i64 x0.src, .int .i64 x0.dst, .int .i64 x0.index, .int .i64 x0.write.kind, .int .i64 x0.write.id, .slice a7x0 x0.write.vec.length d7x0, .int .i64 x0.write.session, .int .i64 x0.write.seq] 33)) w6.heap.size) := newBox (Nat.le_refl _)
  have l0P0 := (unhide P0).at 0 _ rfl
  have l1P0 := (unhide P0).at 1 _ rfl
  have l2P0 := (unhide P0).at 2 _ rfl
  have l3P0 := (unhide P0).at 3 _ rfl
  have l4P0 := (unhide P0).at 4 _ rfl
  have l5P0 := (unhide P0).at 5 _ rfl
  have l6P0 := (unhide P0).at 6 _ rfl
  have l7P0 := (unhide P0).at 7 _ rfl
  have l8P0 := (unhide P0).at 8 _ rfl
  have l9P0 := (unhide P0).at 9 _ rfl
  have ltP0 : w.heap.size < w6.heap.size := by omega
  have l0YW := (unhide YW).at 0 _ rfl
  have l1YW := (unhide YW).at 1 _ rfl
  have ltYW : w4.heap.size < w6.heap.size := by omega
  simp only [List.getElem_toArray, List.getElem_cons_zero, List.getElem_cons_succ] at l0P0 l1P0 l2P0 l3P0 l4P0 l5P0 l6P0 l7P0 l8P0 l9P0 l0YW l1YW
  go_wp2_with fail
  clear l0P0 l1P0 l2P0 l3P0 l4P0 l5P0 l6P0 l7P0 l8P0 l9P0 ltP0 l0YW l1YW ltYW
  generalize haw7 : w6.alloc (.cells #[.int .i64 x0.kind, .int .i64 x0.epoch, .int .i64 x0.src, .int .i64 x0.dst, .int .i64 x0.index, .int .i64 x0.write.kind, .int .i64 x0.write.id, .slice a7x0 x0.write.vec.length d7x0, .int .i64 x0.write.session, .int .i64 x0.write.seq] 33) = w7 at *
  have Gw7 : w6.heap.size < w7.heap.size := by rw [← haw7]; simp
  clear haw7
  replace HA0 := hide ((unhide HA0).later nb)
  replace P0 := hide ((unhide P0).keep nb)
  replace HW := hide ((unhide HW).later nb)
  replace YW := hide ((unhide YW).keep nb)
  replace Hx0 := hide ((unhide Hx0).later nb)
  have Zw7 : w6.heap.size ≤ w7.heap.size := nb.size
  replace HB := hide ((unhide HB).trans (nb.mono (by omega)))
  clear nb
  refine (unhide HI w7 _ ((unhide HT).later (unhide HB)) (unhide Hx0).reads).mono ?_
  rintro e w8 ⟨cs, rfl, O, hb⟩
  replace HA0 := hide ((unhide HA0).later hb)
  replace P0 := hide ((unhide P0).keep hb)
  replace HW := hide ((unhide HW).later hb)
  replace YW := hide ((unhide YW).keep hb)
  replace Hx0 := hide ((unhide Hx0).later hb)
  replace X0 := hide ((unhide X0).keep hb)
  have Zw8 : w7.heap.size ≤ w8.heap.size := hb.size
  replace HB := hide ((unhide HB).trans (hb.mono (by omega)))
  clear hb
  obtain ⟨bl, O⟩ := O.reads
  obtain ⟨rfl, -⟩ := lies_TextResult.1 O
  have HG := hide (Lay.Reads.liesIn ⟨_, O⟩)
  clear O
  have nb : Below w8.heap.size w8 (w8.alloc (.cells #[.int .i64 y.code, .string y.text] 29)) := (Below.refl _ _).alloc (Nat.le_refl _) _
  have YG : Hid (Box w8.heap.size #[.int .i64 y.code, .string y.text] 29 (w8.alloc (.cells #[.int .i64 y.code, .string y.text] 29)) w8.heap.size) := newBox (Nat.le_refl _)
  have l0P0 := (unhide P0).at 0 _ rfl
  have l1P0 := (unhide P0).at 1 _ rfl
  have l2P0 := (unhide P0).at 2 _ rfl
  have l3P0 := (unhide P0).at 3 _ rfl
  have l4P0 := (unhide P0).at 4 _ rfl
  have l5P0 := (unhide P0).at 5 _ rfl
  have l6P0 := (unhide P0).at 6 _ rfl
  have l7P0 := (unhide P0).at 7 _ rfl
  have l8P0 := (unhide P0).at 8 _ rfl
  have l9P0 := (unhide P0).at 9 _ rfl
  have ltP0 : w.heap.size < w8.heap.size := by omega
  have l0YW := (unhide YW).at 0 _ rfl
  have l1YW := (unhide YW).at 1 _ rfl
  have ltYW : w4.heap.size < w8.heap.size := by omega
  have l0X0 := (unhide X0).at 0 _ rfl
  have l1X0 := (unhide X0).at 1 _ rfl
  have l2X0 := (unhide X0).at 2 _ rfl
  have l3X0 := (unhide X0).at 3 _ rfl
  have l4X0 := (unhide X0).at 4 _ rfl
  have l5X0 := (unhide X0).at 5 _ rfl
  have l6X0 := (unhide X0).at 6 _ rfl
  have l7X0 := (unhide X0).at 7 _ rfl
  have l8X0 := (unhide X0).at 8 _ rfl
  have l9X0 := (unhide X0).at 9 _ rfl
  have ltX0 : w6.heap.size < w8.heap.size := by omega
  simp only [List.getElem_toArray, List.getElem_cons_zero, List.getElem_cons_succ] at l0P0 l1P0 l2P0 l3P0 l4P0 l5P0 l6P0 l7P0 l8P0 l9P0 l0YW l1YW l0X0 l1X0 l2X0 l3X0 l4X0 l5X0 l6X0 l7X0 l8X0 l9X0
  go_wp2_with fail
  clear l0P0 l1P0 l2P0 l3P0 l4P0 l5P0 l6P0 l7P0 l8P0 l9P0 ltP0 l0YW l1YW ltYW l0X0 l1X0 l2X0 l3X0 l4X0 l5X0 l6X0 l7X0 l8X0 l9X0 ltX0
  generalize haw9 : w8.alloc (.cells #[.int .i64 y.code, .string y.text] 29) = w9 at *
  have Gw9 : w8.heap.size < w9.heap.size := by rw [← haw9]; simp
  clear haw9
  replace HA0 := hide ((unhide HA0).later nb)
  replace P0 := hide ((unhide P0).keep nb)
  replace HW := hide ((unhide HW).later nb)
  replace YW := hide ((unhide YW).keep nb)
  replace Hx0 := hide ((unhide Hx0).later nb)
  replace X0 := hide ((unhide X0).keep nb)
  replace HG := hide ((unhide HG).later nb)
  have Zw9 : w8.heap.size ≤ w9.heap.size := nb.size
  replace HB := hide ((unhide HB).trans (nb.mono (by omega)))
  clear nb
  refine (eq_TextResult _ _ y w9 (unhide HG).reads (unhide HW).reads).mono ?_
  rintro e w10 ⟨rfl, hb⟩
  replace HA0 := hide ((unhide HA0).later hb)
  replace P0 := hide ((unhide P0).keep hb)
  replace HW := hide ((unhide HW).later hb)
  replace YW := hide ((unhide YW).keep hb)
  replace Hx0 := hide ((unhide Hx0).later hb)
  replace X0 := hide ((unhide X0).keep hb)
  replace HG := hide ((unhide HG).later hb)
  replace YG := hide ((unhide YG).keep hb)
  have Zw10 : w9.heap.size ≤ w10.heap.size := hb.size
  replace HB := hide ((unhide HB).trans (hb.mono (by omega)))
  clear hb
  have l0P0 := (unhide P0).at 0 _ rfl
  have l1P0 := (unhide P0).at 1 _ rfl
  have l2P0 := (unhide P0).at 2 _ rfl
  have l3P0 := (unhide P0).at 3 _ rfl
  have l4P0 := (unhide P0).at 4 _ rfl
  have l5P0 := (unhide P0).at 5 _ rfl
  have l6P0 := (unhide P0).at 6 _ rfl
  have l7P0 := (unhide P0).at 7 _ rfl
  have l8P0 := (unhide P0).at 8 _ rfl
  have l9P0 := (unhide P0).at 9 _ rfl
  have ltP0 : w.heap.size < w10.heap.size := by omega
  have l0YW := (unhide YW).at 0 _ rfl
  have l1YW := (unhide YW).at 1 _ rfl
  have ltYW : w4.heap.size < w10.heap.size := by omega
  have l0X0 := (unhide X0).at 0 _ rfl
  have l1X0 := (unhide X0).at 1 _ rfl
  have l2X0 := (unhide X0).at 2 _ rfl
  have l3X0 := (unhide X0).at 3 _ rfl
  have l4X0 := (unhide X0).at 4 _ rfl
  have l5X0 := (unhide X0).at 5 _ rfl
  have l6X0 := (unhide X0).at 6 _ rfl
  have l7X0 := (unhide X0).at 7 _ rfl
  have l8X0 := (unhide X0).at 8 _ rfl
  have l9X0 := (unhide X0).at 9 _ rfl
  have ltX0 : w6.heap.size < w10.heap.size := by omega
  have l0YG := (unhide YG).at 0 _ rfl
  have l1YG := (unhide YG).at 1 _ rfl
  have ltYG : w8.heap.size < w10.heap.size := by omega
  simp only [List.getElem_toArray, List.getElem_cons_zero, List.getElem_cons_succ] at l0P0 l1P0 l2P0 l3P0 l4P0 l5P0 l6P0 l7P0 l8P0 l9P0 l0YW l1YW l0X0 l1X0 l2X0 l3X0 l4X0 l5X0 l6X0 l7X0 l8X0 l9X0 l0YG l1YG
  go_wp2_with fail
  clear l0P0 l1P0 l2P0 l3P0 l4P0 l5P0 l6P0 l7P0 l8P0 l9P0 ltP0 l0YW l1YW ltYW l0X0 l1X0 l2X0 l3X0 l4X0 l5X0 l6X0 l7X0 l8X0 l9X0 ltX0 l0YG l1YG ltYG
  have l0P0 := (unhide P0).at 0 _ rfl
  have l1P0 := (unhide P0).at 1 _ rfl
  have l2P0 := (unhide P0).at 2 _ rfl
  have l3P0 := (unhide P0).at 3 _ rfl
  have l4P0 := (unhide P0).at 4 _ rfl
  have l5P0 := (unhide P0).at 5 _ rfl
  have l6P0 := (unhide P0).at 6 _ rfl
  have l7P0 := (unhide P0).at 7 _ rfl
  have l8P0 := (unhide P0).at 8 _ rfl
  have l9P0 := (unhide P0).at 9 _ rfl
  have ltP0 : w.heap.size < w10.heap.size := by omega
  have l0X0 := (unhide X0).at 0 _ rfl
  have l1X0 := (unhide X0).at 1 _ rfl
  have l2X0 := (unhide X0).at 2 _ rfl
  have l3X0 := (unhide X0).at 3 _ rfl
  have l4X0 := (unhide X0).at 4 _ rfl
  have l5X0 := (unhide X0).at 5 _ rfl
  have l6X0 := (unhide X0).at 6 _ rfl
  have l7X0 := (unhide X0).at 7 _ rfl
  have l8X0 := (unhide X0).at 8 _ rfl
  have l9X0 := (unhide X0).at 9 _ rfl
  have ltX0 : w6.heap.size < w10.heap.size := by omega
  simp only [List.getElem_toArray, List.getElem_cons_zero, List.getElem_cons_succ] at l0P0 l1P0 l2P0 l3P0 l4P0 l5P0 l6P0 l7P0 l8P0 l9P0 l0X0 l1X0 l2X0 l3X0 l4X0 l5X0 l6X0 l7X0 l8X0 l9X0
  refine wp_region_noPanic ?_
  refine wp_region_held_drew (S := fun w' => Below w10.heap.size w10 w') (by kernel_rfl) (Below.refl _ _).drew (fun hHeld => ?_)
  generalize w10.drew = wD at hHeld ⊢
  refine wpAnyH_take (i := 0) (oi := { dst := some 23, op := Go.Op.load 33 (Go.Operand.tmp 5), type := 33, pos := "exact.go:4401", after := #[], guard := none }) (v := ?vs00) rfl (by kernel_rfl) (by kernel_rfl) (by kernel_rfl) (fun _ _ _ h => h) (Or.inl ⟨by rfl, ?hs00⟩) hHeld ?rs00
  case hs00 =>
    intro wS hSw
    have y0P0 := (hSw.cell (p := ⟨w.heap.size, 0, none⟩) ltP0).trans l0P0
    have y1P0 := (hSw.cell (p := ⟨w.heap.size, 1, none⟩) ltP0).trans l1P0
    have y2P0 := (hSw.cell (p := ⟨w.heap.size, 2, none⟩) ltP0).trans l2P0
    have y3P0 := (hSw.cell (p := ⟨w.heap.size, 3, none⟩) ltP0).trans l3P0
    have y4P0 := (hSw.cell (p := ⟨w.heap.size, 4, none⟩) ltP0).trans l4P0
    have y5P0 := (hSw.cell (p := ⟨w.heap.size, 5, none⟩) ltP0).trans l5P0
    have y6P0 := (hSw.cell (p := ⟨w.heap.size, 6, none⟩) ltP0).trans l6P0
    have y7P0 := (hSw.cell (p := ⟨w.heap.size, 7, none⟩) ltP0).trans l7P0
    have y8P0 := (hSw.cell (p := ⟨w.heap.size, 8, none⟩) ltP0).trans l8P0
    have y9P0 := (hSw.cell (p := ⟨w.heap.size, 9, none⟩) ltP0).trans l9P0
    have y0X0 := (hSw.cell (p := ⟨w6.heap.size, 0, none⟩) ltX0).trans l0X0
    have y1X0 := (hSw.cell (p := ⟨w6.heap.size, 1, none⟩) ltX0).trans l1X0
    have y2X0 := (hSw.cell (p := ⟨w6.heap.size, 2, none⟩) ltX0).trans l2X0
    have y3X0 := (hSw.cell (p := ⟨w6.heap.size, 3, none⟩) ltX0).trans l3X0
    have y4X0 := (hSw.cell (p := ⟨w6.heap.size, 4, none⟩) ltX0).trans l4X0
    have y5X0 := (hSw.cell (p := ⟨w6.heap.size, 5, none⟩) ltX0).trans l5X0
    have y6X0 := (hSw.cell (p := ⟨w6.heap.size, 6, none⟩) ltX0).trans l6X0
    have y7X0 := (hSw.cell (p := ⟨w6.heap.size, 7, none⟩) ltX0).trans l7X0
    have y8X0 := (hSw.cell (p := ⟨w6.heap.size, 8, none⟩) ltX0).trans l8X0
    have y9X0 := (hSw.cell (p := ⟨w6.heap.size, 9, none⟩) ltX0).trans l9X0
    clear hSw
    (try dsimp only at hSw)
    go_simp
    try with_reducible rfl
  case rs00 =>
  simp only [Act.put, List.setIfInBounds_toArray, List.set_cons_zero, List.set_cons_succ]
  refine wpAnyH_take (i := 1) (oi := { dst := some 24, op := Go.Op.load 26 (Go.Operand.tmp 1), type := 26, pos := "exact.go:4401", after := #[], guard := none }) (v := ?vs01) rfl (by kernel_rfl) (by kernel_rfl) (by kernel_rfl) (fun _ _ _ h => h) (Or.inl ⟨by rfl, ?hs01⟩) hHeld ?rs01
  case hs01 =>
    intro wS hSw
    have y0P0 := (hSw.cell (p := ⟨w.heap.size, 0, none⟩) ltP0).trans l0P0
    have y1P0 := (hSw.cell (p := ⟨w.heap.size, 1, none⟩) ltP0).trans l1P0
    have y2P0 := (hSw.cell (p := ⟨w.heap.size, 2, none⟩) ltP0).trans l2P0
    have y3P0 := (hSw.cell (p := ⟨w.heap.size, 3, none⟩) ltP0).trans l3P0
    have y4P0 := (hSw.cell (p := ⟨w.heap.size, 4, none⟩) ltP0).trans l4P0
    have y5P0 := (hSw.cell (p := ⟨w.heap.size, 5, none⟩) ltP0).trans l5P0
    have y6P0 := (hSw.cell (p := ⟨w.heap.size, 6, none⟩) ltP0).trans l6P0
    have y7P0 := (hSw.cell (p := ⟨w.heap.size, 7, none⟩) ltP0).trans l7P0
    have y8P0 := (hSw.cell (p := ⟨w.heap.size, 8, none⟩) ltP0).trans l8P0
    have y9P0 := (hSw.cell (p := ⟨w.heap.size, 9, none⟩) ltP0).trans l9P0
    have y0X0 := (hSw.cell (p := ⟨w6.heap.size, 0, none⟩) ltX0).trans l0X0
    have y1X0 := (hSw.cell (p := ⟨w6.heap.size, 1, none⟩) ltX0).trans l1X0
    have y2X0 := (hSw.cell (p := ⟨w6.heap.size, 2, none⟩) ltX0).trans l2X0
    have y3X0 := (hSw.cell (p := ⟨w6.heap.size, 3, none⟩) ltX0).trans l3X0
    have y4X0 := (hSw.cell (p := ⟨w6.heap.size, 4, none⟩) ltX0).trans l4X0
    have y5X0 := (hSw.cell (p := ⟨w6.heap.size, 5, none⟩) ltX0).trans l5X0
    have y6X0 := (hSw.cell (p := ⟨w6.heap.size, 6, none⟩) ltX0).trans l6X0
    have y7X0 := (hSw.cell (p := ⟨w6.heap.size, 7, none⟩) ltX0).trans l7X0
    have y8X0 := (hSw.cell (p := ⟨w6.heap.size, 8, none⟩) ltX0).trans l8X0
    have y9X0 := (hSw.cell (p := ⟨w6.heap.size, 9, none⟩) ltX0).trans l9X0
    clear hSw
    (try dsimp only at hSw)
    go_simp
    try with_reducible rfl
  case rs01 =>
  simp only [Act.put, List.setIfInBounds_toArray, List.set_cons_zero, List.set_cons_succ]
  refine wpAnyH_ready (rs := [2]) (by kernel_rfl) (by simp) ?_
  refine AllReadyH.cons (o := { dst := some 25, op := Go.Op.call { callee := Go.Callee.value (Go.Operand.func 6), args := #[Go.Operand.tmp 24], argTypes := #[26] }, type := 33, pos := "exact.go:4401", after := #[{ on := 1, ground := Go.Ground.data }], guard := none }) rfl (fun K hK => ?_) AllReadyH.nil
  go_simp
  go_at_call 6
  refine (to_Msg _ x0 _ ((unhide HA0).reads.later hHeld) (unhide HN0)).mono ?_
  rintro e wT ⟨vT, rfl, OT, hbw⟩
  have RT := OT.reads
  obtain ⟨a7T, d7T, rfl, -⟩ := open_Msg RT
  try go_wp2_with fail
  refine hK.out _ _ (hHeld.trans (hbw.mono hHeld.size)) (fun hHeld => ?_)
  clear hK K
  try simp only [Act.put, List.setIfInBounds_toArray, List.set_cons_zero, List.set_cons_succ]
  refine wpAnyH_ready (rs := [3]) (by kernel_rfl) (by simp) ?_
  refine AllReadyH.cons (o := { dst := some 26, op := Go.Op.call { callee := Go.Callee.value (Go.Operand.func 9), args := #[Go.Operand.tmp 23, Go.Operand.tmp 25], argTypes := #[33, 33] }, type := 4, pos := "exact.go:4401", after := #[{ on := 0, ground := Go.Ground.data }, { on := 2, ground := Go.Ground.data }, { on := 2, ground := Go.Ground.chain }], guard := none }) rfl (fun K hK => ?_) AllReadyH.nil
  go_simp
  go_at_call 9
  refine (eq_Msg _ _ x0 _ ((unhide Hx0).reads.later hHeld) RT).mono ?_
  rintro e wU0 ⟨rfl, hbw⟩
  try go_wp2_with fail
  refine hK.out _ _ (hHeld.trans (hbw.mono hHeld.size)) (fun hHeld => ?_)
  clear hK K
  try simp only [Act.put, List.setIfInBounds_toArray, List.set_cons_zero, List.set_cons_succ]
  refine wpAnyH_take (i := 4) (oi := { dst := some 27, op := Go.Op.unOp Go.UnOp.not 4 (Go.Operand.tmp 26), type := 4, pos := "exact.go:4401", after := #[{ on := 3, ground := Go.Ground.data }], guard := none }) (v := ?vs04) rfl (by kernel_rfl) (by kernel_rfl) (by kernel_rfl) (fun _ _ _ h => h) (Or.inl ⟨by rfl, ?hs04⟩) hHeld ?rs04
  case hs04 =>
    intro wS hSw
    (try dsimp only at hSw)
    go_simp
    try with_reducible rfl
  case rs04 =>
  simp only [Act.put, List.setIfInBounds_toArray, List.set_cons_zero, List.set_cons_succ]
  refine wpAnyH_done (by kernel_rfl) ?_ _
  refine NoPanic.normal ?_
  clear l0P0 l1P0 l2P0 l3P0 l4P0 l5P0 l6P0 l7P0 l8P0 l9P0 ltP0 l0X0 l1X0 l2X0 l3X0 l4X0 l5X0 l6X0 l7X0 l8X0 l9X0 ltX0 OT RT
  have hb : Below w10.heap.size w10 wU0 := hHeld
  clear hHeld hbw
  replace HA0 := hide ((unhide HA0).later hb)
  replace P0 := hide ((unhide P0).keep hb)
  replace HW := hide ((unhide HW).later hb)
  replace YW := hide ((unhide YW).keep hb)
  replace Hx0 := hide ((unhide Hx0).later hb)
  replace X0 := hide ((unhide X0).keep hb)
  replace HG := hide ((unhide HG).later hb)
  replace YG := hide ((unhide YG).keep hb)
  have ZwU0 : w10.heap.size ≤ wU0.heap.size := hb.size
  replace HB := hide ((unhide HB).trans (hb.mono (by omega)))
  clear hb
  have l0P0 := (unhide P0).at 0 _ rfl
  have l1P0 := (unhide P0).at 1 _ rfl
  have l2P0 := (unhide P0).at 2 _ rfl
  have l3P0 := (unhide P0).at 3 _ rfl
  have l4P0 := (unhide P0).at 4 _ rfl
  have l5P0 := (unhide P0).at 5 _ rfl
  have l6P0 := (unhide P0).at 6 _ rfl
  have l7P0 := (unhide P0).at 7 _ rfl
  have l8P0 := (unhide P0).at 8 _ rfl
  have l9P0 := (unhide P0).at 9 _ rfl
  have ltP0 : w.heap.size < wU0.heap.size := by omega
  have l0YW := (unhide YW).at 0 _ rfl
  have l1YW := (unhide YW).at 1 _ rfl
  have ltYW : w4.heap.size < wU0.heap.size := by omega
  have l0X0 := (unhide X0).at 0 _ rfl
  have l1X0 := (unhide X0).at 1 _ rfl
  have l2X0 := (unhide X0).at 2 _ rfl
  have l3X0 := (unhide X0).at 3 _ rfl
  have l4X0 := (unhide X0).at 4 _ rfl
  have l5X0 := (unhide X0).at 5 _ rfl
  have l6X0 := (unhide X0).at 6 _ rfl
  have l7X0 := (unhide X0).at 7 _ rfl
  have l8X0 := (unhide X0).at 8 _ rfl
  have l9X0 := (unhide X0).at 9 _ rfl
  have ltX0 : w6.heap.size < wU0.heap.size := by omega
  have l0YG := (unhide YG).at 0 _ rfl
  have l1YG := (unhide YG).at 1 _ rfl
  have ltYG : w8.heap.size < wU0.heap.size := by omega
  simp only [List.getElem_toArray, List.getElem_cons_zero, List.getElem_cons_succ] at l0P0 l1P0 l2P0 l3P0 l4P0 l5P0 l6P0 l7P0 l8P0 l9P0 l0YW l1YW l0X0 l1X0 l2X0 l3X0 l4X0 l5X0 l6X0 l7X0 l8X0 l9X0 l0YG l1YG
  go_wp2_with fail
  clear l0P0 l1P0 l2P0 l3P0 l4P0 l5P0 l6P0 l7P0 l8P0 l9P0 ltP0 l0YW l1YW ltYW l0X0 l1X0 l2X0 l3X0 l4X0 l5X0 l6X0 l7X0 l8X0 l9X0 ltX0 l0YG l1YG ltYG
  go_ret
  exact ⟨rfl, unhide HB⟩


set_option maxRecDepth 10000 in
set_option maxHeartbeats 1000000 in
theorem lawover_MsgText (u0 : List Value) (x0 : DMsg) (w : World) (A0 : Lay.tMsg.Reads w u0 x0) (NS : 1048576 < Lay.tMsg.sz x0) :
    Calls Tryd.prog 3 #[.agg u0.toArray] w fun e w' => e = .returned (.bool true) ∧ Below w.heap.size w w' := by
  obtain ⟨a7p0, d7p0, rfl, -⟩ := open_Msg A0
  have HA0 := hide A0.liesIn
  clear A0
  have HB := hide (Below.refl w.heap.size w)
  go_enter Tryd.func3, Tryd.ntmps3
  go_wp2_with fail
  have nb : Below w.heap.size w (w.alloc (.cells #[.int .i64 x0.kind, .int .i64 x0.epoch, .int .i64 x0.src, .int .i64 x0.dst, .int .i64 x0.index, .int .i64 x0.write.kind, .int .i64 x0.write.id, .slice a7p0 x0.write.vec.length d7p0, .int .i64 x0.write.session, .int .i64 x0.write.seq] 26)) := (Below.refl w.heap.size w).alloc (Nat.le_refl _) _
  have P0 : Hid (Box w.heap.size #[.int .i64 x0.kind, .int .i64 x0.epoch, .int .i64 x0.src, .int .i64 x0.dst, .int .i64 x0.index, .int .i64 x0.write.kind, .int .i64 x0.write.id, .slice a7p0 x0.write.vec.length d7p0, .int .i64 x0.write.session, .int .i64 x0.write.seq] 26 (w.alloc (.cells #[.int .i64 x0.kind, .int .i64 x0.epoch, .int .i64 x0.src, .int .i64 x0.dst, .int .i64 x0.index, .int .i64 x0.write.kind, .int .i64 x0.write.id, .slice a7p0 x0.write.vec.length d7p0, .int .i64 x0.write.session, .int .i64 x0.write.seq] 26)) (w.heap.size)) := newBoxAt (by omega) (by simp)
  generalize haw1 : (w.alloc (.cells #[.int .i64 x0.kind, .int .i64 x0.epoch, .int .i64 x0.src, .int .i64 x0.dst, .int .i64 x0.index, .int .i64 x0.write.kind, .int .i64 x0.write.id, .slice a7p0 x0.write.vec.length d7p0, .int .i64 x0.write.session, .int .i64 x0.write.seq] 26)) = w1 at *
  have Gw1 : w.heap.size + 1 ≤ w1.heap.size := by rw [← haw1]; simp
  clear haw1
  replace HA0 := hide ((unhide HA0).later nb)
  have Zw1 : w.heap.size ≤ w1.heap.size := nb.size
  replace HB := hide ((unhide HB).trans (nb.mono (by omega)))
  clear nb
  refine (sz_Msg _ x0 (1048576) w1 (unhide HA0).reads (by omega)).mono ?_
  rintro e w2 ⟨rfl, hb⟩
  replace HA0 := hide ((unhide HA0).later hb)
  replace P0 := hide ((unhide P0).keep hb)
  have Zw2 : w1.heap.size ≤ w2.heap.size := hb.size
  replace HB := hide ((unhide HB).trans (hb.mono (by omega)))
  clear hb
  rw [szR_many (by omega)]
  go_wp2_with fail
  go_ret
  exact ⟨rfl, unhide HB⟩

end Go.Proofs.YtkmfkaljdngigaaDoor

namespace Go.Proofs.YtkmfkaljdngigaaDoor
open Go.RowKit

/-- How what checks ends: a panic that carries the code, if there is one. -/
def wrongP (c : Int) : List PanicEntry := [{ v := .iface 75 (.agg #[.int .i64 c]), recovered := false }]
def wrongE (c : Int) : Ending := if c = 0 then .returned (.tuple #[]) else .panicked (wrongP c)
theorem wrongE_ok {c : Int} (h : c = 0) : wrongE c = .returned (.tuple #[]) := by rw [wrongE, if_pos h]
theorem wrongE_bad {c : Int} (h : c ≠ 0) : wrongE c = .panicked (wrongP c) := by rw [wrongE, if_neg h]

def workE (v : Value) (c : Int) : Ending := if c = 0 then .returned v else .panicked (wrongP c)
theorem workE_ok {v : Value} {c : Int} (h : c = 0) : workE v c = .returned v := by rw [workE, if_pos h]
theorem workE_bad {v : Value} {c : Int} (h : c ≠ 0) : workE v c = .panicked (wrongP c) := by rw [workE, if_neg h]

theorem mustT (c : Int) (w : World) :
    Calls Tryd.prog 39 #[.bool true, .int .i64 c] w fun e w' => e = .returned (.tuple #[]) ∧ w' = w := by
  go_enter Tryd.func39, Tryd.ntmps39
  go_wp2_with fail
  go_end0
  exact ⟨rfl, rfl⟩
theorem mustF (c : Int) (w : World) :
    Calls Tryd.prog 39 #[.bool false, .int .i64 c] w fun e w' => e = .panicked (wrongP c) ∧ w' = w := by
  go_enter Tryd.func39, Tryd.ntmps39
  go_wp2_with fail
  exact ⟨rfl, rfl, rfl⟩
end Go.Proofs.YtkmfkaljdngigaaDoor

namespace Go.Proofs.YtkmfkaljdngigaaDoor
open Go.RowKit

theorem isUpToC (n m : Int) (w : World) :
    Calls Tryd.prog 53 #[.int .i64 n, .int .i64 m] w fun e w' => e = .returned (.bool (decide (0 ≤ n) && decide (n ≤ m))) ∧ w' = w := by
  by_cases h1 : 0 ≤ n
  · have d1 : decide (0 ≤ n) = true := by simpa using h1
    rw [d1]
    cases d2 : decide (n ≤ m) <;>
    · go_enter Tryd.func53, Tryd.ntmps53
      go_wp2_with fail
      go_ret
      exact ⟨rfl, rfl⟩
  · have d1 : decide (0 ≤ n) = false := by simpa using h1
    rw [d1]
    go_enter Tryd.func53, Tryd.ntmps53
    go_wp2_with fail
    go_ret
    exact ⟨rfl, rfl⟩
end Go.Proofs.YtkmfkaljdngigaaDoor

namespace Go.Proofs.YtkmfkaljdngigaaDoor
open Go.RowKit

theorem isNodeIdC (n : Int) (w : World) :
    Calls Tryd.prog 42 #[.int .i64 n] w fun e w' => e = .returned (.bool (decide (1 ≤ n) && decide (n ≤ 5))) ∧ w' = w := by
  by_cases h1 : 1 ≤ n
  · have d1 : decide (1 ≤ n) = true := by simpa using h1
    rw [d1]
    cases d2 : decide (n ≤ 5) <;>
    · go_enter Tryd.func42, Tryd.ntmps42
      go_wp2_with fail
      go_ret
      exact ⟨rfl, rfl⟩
  · have d1 : decide (1 ≤ n) = false := by simpa using h1
    rw [d1]
    go_enter Tryd.func42, Tryd.ntmps42
    go_wp2_with fail
    go_ret
    exact ⟨rfl, rfl⟩
end Go.Proofs.YtkmfkaljdngigaaDoor

namespace Go.Proofs.YtkmfkaljdngigaaDoor
open Go.RowKit

def sameW (x y : DWrite) : Bool := x.kind == y.kind && (x.id == y.id && (x.session == y.session && (x.seq == y.seq && decide (x.vec = y.vec))))
def sameWs : List DWrite → List DWrite → Bool
  | [], [] => true
  | x :: xs, y :: ys => sameW x y && sameWs xs ys
  | _, _ => false
theorem sameWs_len {xs ys : List DWrite} (h : xs.length ≠ ys.length) : sameWs xs ys = false := by
  induction xs generalizing ys with
  | nil => match ys, h with | y :: ys, _ => rfl
  | cons x xs ih =>
    match ys, h with
    | [], _ => rfl
    | y :: ys, h => rw [sameWs, ih (by simpa using h), Bool.and_false]
theorem sameWs_at {xs ys : List DWrite} (k : Nat) (h1 : k < xs.length) (h2 : k < ys.length) (h : sameW xs[k] ys[k] = false) : sameWs xs ys = false := by
  induction xs generalizing ys k with
  | nil => simp at h1
  | cons x xs ih =>
    match ys, k with
    | y :: ys, 0 => rw [sameWs, show sameW x y = false by simpa using h, Bool.false_and]
    | y :: ys, k + 1 => rw [sameWs, ih k (by simpa using h1) (by simpa using h2) (by simpa using h), Bool.and_false]
theorem sameWs_all {xs ys : List DWrite} (hl : xs.length = ys.length) (h : ∀ k (h1 : k < xs.length) (h2 : k < ys.length), sameW xs[k] ys[k] = true) : sameWs xs ys = true := by
  induction xs generalizing ys with
  | nil => match ys, hl with | [], _ => rfl
  | cons x xs ih =>
    match ys, hl with
    | y :: ys, hl =>
      rw [sameWs, show sameW x y = true from h 0 (by simp) (by simp), ih (by simpa using hl) fun k h1 h2 => h (k + 1) (by simpa using h1) (by simpa using h2), Bool.true_and]
theorem sameWs_refl_self (x : DWrite) : sameW x x = true := by simp [sameW]

end Go.Proofs.YtkmfkaljdngigaaDoor

namespace Go.Proofs.YtkmfkaljdngigaaDoor
open Go.RowKit

theorem grown_alloc {w w' : World} {o : Obj} {r : Option Nat} (h : (w.alloc o).grownBy w' r) : w.grownBy w' r := grown_trans (World.grownBy_alloc w o r) h

/-- At an operation of a plain region: 'append(s, q)', q laid into a block of its own first. -/
theorem wpList_append_int {w1 : World} {base : Nat} {v : Value} {n : Nat} {xs : List Value} (hown : w1.ownsRow base 2 1 v n xs) (q : Int) {ops : Array Oper} {rest : List Oper} {o : Oper} {a : Act} {Q : Exit → Act → World → Prop} (hgd : o.guard = none) (s x : Operand)
    (ho : o.op = .call { callee := .builtin .append, args := #[s, x], argTypes := #[22, 22] }) (hs : a.eval s = v) (hx : a.eval x = .slice (some ⟨w1.heap.size, 0, none⟩) 1 1)
    (hn : n ≤ 100000000) (hbase : base ≤ w1.heap.size)
    (h : ∀ g cap w', w'.ownsRow base 2 1 (.slice (some ⟨g, 0, none⟩) (n + 1) cap) (n + 1) (xs ++ [.int .i64 q]) → w1.grownBy w' v.ownBlock → Below base w1 w' → g < w'.heap.size → w1.heap.size < w'.heap.size → wpList Tryd.prog ops Q rest (a.put o.dst (.slice (some ⟨g, 0, none⟩) (n + 1) cap)) w') :
    wpList Tryd.prog ops Q (o :: rest) a (w1.alloc (.cells #[.int .i64 q] 2)) := by
  obtain ⟨i0, hi0, hz0, hz1, hz2⟩ := info_parts info2
  refine wpList_append_lies _ hgd s x 22 ho base 2 i0 _ 1 8 Tryd.underlying22 hi0 hz0 hz1 hz2 rfl (by omega) v n xs hs (hown.alloc _) ⟨w1.heap.size, 0, none⟩ 1 1 [.int .i64 q] hx rfl (World.news_of_block (cs := #[.int .i64 q]) (t := 2) (fr := (0, 0)) (heap_alloc_new w1 _)) (by simp [Value.oneCell']) (by omega) (by unfold maxLen; omega) (by omega) (by simp; omega) (w1.heap.size + 1) (by simp) ?_
  intro g cap w' h2 h3 _ h5
  have hg := grown_alloc h3
  have hsz := h3.size
  simp only [World.size_alloc] at hsz
  exact h g cap w' h2 hg ((Below.refl _ _).grown hg hbase (fun j hj => (hown.lt j hj).1)) h5 (by omega)

end Go.Proofs.YtkmfkaljdngigaaDoor

namespace Go.Proofs.YtkmfkaljdngigaaDoor
open Go.RowKit

theorem append_noneI {P : Program} (t ty e : TypeId) (i : TypeInfo) (ht : P.underlying t = some (.slice e)) (hi : P.info? e = some i) (bo : Option Addr) (n cap c : Nat) (hn : n ≤ cap) (w : World) :
    (Builtin.append_ #[t, t] ty #[.slice bo n cap, .slice none 0 c]).run P w = (Builtin.append_ #[t, t] ty #[.slice bo n cap, .slice (some ⟨0, 0, none⟩) 0 c]).run P w := by
  simp [Builtin.append_, run_underlying ht, sizeOf, typeInfo, hi, Builtin.lenOf, hn, Builtin.firstCells, loadCells, loadCellsFrom]

theorem IsInts.news {w : World} {b off cap : Nat} {zs : List Int} (h : IsInts w (.slice (some ⟨b, off, none⟩) zs.length cap) zs) (hp : 0 < zs.length) : ∀ j u, (zs.map (Value.int .i64))[j]? = some u → w.cell? ((⟨b, off, none⟩ : Addr).add j) = some u := by
  intro j u hu
  obtain ⟨ao, cp, hv, hwf, hc⟩ := h
  obtain ⟨b', off', hao, hc1⟩ := hc hp
  simp only [Value.slice.injEq] at hv
  obtain ⟨rfl, -, -⟩ := hv
  simp only [Option.some.injEq, Addr.mk.injEq, and_true] at hao
  obtain ⟨rfl, rfl⟩ := hao
  have hj : j < zs.length := by
    have := (List.getElem?_eq_some_iff.1 hu).1
    simpa using this
  rw [Addr.add_lit, hc1 j hj]
  simp [hj] at hu
  simp [List.getD, hj, hu]

theorem run_append_ints {w : World} (base ty : Nat) (v : Value) (n : Nat) (xs : List Value) (hown : w.ownsRow base 2 1 v n xs) (x : Value) (ks : List Int) (hx : IsInts w x ks)
    (hn : n + ks.length ≤ 100000000) (hbase : base ≤ w.heap.size) :
    ∃ v' w', (Builtin.append_ #[22, 22] ty #[v, x]).run Tryd.prog w = .ok v' w' ∧ w'.ownsRow base 2 1 v' (n + ks.length) (xs ++ ks.map (Value.int .i64)) ∧ w.grownBy w' v.ownBlock := by
  obtain ⟨i0, hi, hz0, hz1, hz2⟩ := info_parts info2
  have hml : n + ks.length ≤ maxLen := by unfold maxLen; omega
  by_cases hp : 0 < ks.length
  · have hx' := hx
    obtain ⟨ao, cap, rfl, hwf, hc⟩ := hx'
    obtain ⟨b, off, rfl, hc1⟩ := hc hp
    obtain ⟨v', w', r1, r2, r3, -, -⟩ := run_append_own_at (P := Tryd.prog) w base 22 ty 2 i0 _ 1 8 Tryd.underlying22 hi hz0 hz1 hz2 rfl (by omega) v n xs hown ⟨b, off, none⟩ ks.length cap (ks.map (Value.int .i64)) (by simp) (hx.news hp) (by simp [Value.oneCell']) hml (by omega) hbase
    exact ⟨v', w', r1, r2, r3⟩
  · obtain rfl : ks = [] := List.eq_nil_of_length_eq_zero (by omega)
    obtain ⟨ao, cap, rfl, hwf, hc⟩ := hx
    cases ao with
    | none =>
      obtain ⟨v', w', r1, r2, r3, -, -⟩ := run_append_own_at (P := Tryd.prog) w base 22 ty 2 i0 _ 1 8 Tryd.underlying22 hi hz0 hz1 hz2 rfl (by omega) v n xs hown ⟨0, 0, none⟩ 0 cap [] rfl (by simp) (by simp) hml (by simp at hn; omega) hbase
      refine ⟨v', w', ?_, r2, r3⟩
      rcases hown.2 with ⟨rfl, h0⟩ | ⟨g, cp, cur, rfl, _, _, hle, _⟩
      · exact (append_noneI _ _ _ i0 Tryd.underlying22 hi none 0 0 cap (Nat.le_refl _) w).trans r1
      · exact (append_noneI _ _ _ i0 Tryd.underlying22 hi _ n cp cap hle w).trans r1
    | some ad =>
      obtain ⟨v', w', r1, r2, r3, -, -⟩ := run_append_own_at (P := Tryd.prog) w base 22 ty 2 i0 _ 1 8 Tryd.underlying22 hi hz0 hz1 hz2 rfl (by omega) v n xs hown ad 0 cap [] rfl (by simp) (by simp) hml (by simp at hn; omega) hbase
      exact ⟨v', w', r1, r2, r3⟩

/-- The same at an operation of a plain region. -/
theorem wpList_append_ints {w : World} {base : Nat} {v : Value} {n : Nat} {xs : List Value} (hown : w.ownsRow base 2 1 v n xs) {X : Value} {ks : List Int} (hx : IsInts w X ks)
    {ops : Array Oper} {rest : List Oper} {o : Oper} {a : Act} {Q : Exit → Act → World → Prop} (hgd : o.guard = none) (s x : Operand)
    (ho : o.op = .call { callee := .builtin .append, args := #[s, x], argTypes := #[22, 22] }) (hv : a.eval s = v) (hX : a.eval x = X)
    (hn : n + ks.length ≤ 100000000) (hbase : base ≤ w.heap.size)
    (h : ∀ v' w', w'.ownsRow base 2 1 v' (n + ks.length) (xs ++ ks.map (Value.int .i64)) → w.grownBy w' v.ownBlock → Below base w w' → wpList Tryd.prog ops Q rest (a.put o.dst v') w') :
    wpList Tryd.prog ops Q (o :: rest) a w := by
  refine wpList_plain hgd fun K hK => ?_
  obtain ⟨v', w', hr, h2, h3⟩ := run_append_ints base o.type v n xs hown X ks hx hn hbase
  unfold Oper.wp execOp
  simp only [ho, resolve, invoke, builtin, Sem.run_bind, Sem.run_pure, Result.andThen_ok, List.map_toArray, List.map_cons, List.map_nil, hv, hX, hr]
  exact hK _ _ (h v' w' h2 h3 ((Below.refl _ _).grown h3 hbase (fun j hj => (hown.lt j hj).1)))

end Go.Proofs.YtkmfkaljdngigaaDoor

namespace Go.Proofs.YtkmfkaljdngigaaDoor
open Go.RowKit

theorem ne_at_slEqual {ps qs : List Int} {k : Nat} (h : ps.getD k 0 ≠ qs.getD k 0) : decide (ps = qs) = false := by
  simp only [decide_eq_false_iff_not]
  rintro rfl
  exact h rfl
theorem eq_all_slEqual {ps qs : List Int} (hl : ps.length = qs.length) (h : ∀ j, j < ps.length → ps.getD j 0 = qs.getD j 0) : decide (ps = qs) = true := by
  simp only [decide_eq_true_eq]
  refine List.ext_getElem hl fun j h1 h2 => ?_
  have := h j h1
  simpa [List.getD, h1, h2] using this

set_option maxHeartbeats 800000 in
theorem slEqual_pos (b off cap b2 off2 cap2 : Nat) (ps qs : List Int) (w : World) (hl : ps.length = qs.length) (hn : ps.length ≤ 9223372036854775807) (hc : ∀ j, j < ps.length → w.cell? ⟨b, off + j, none⟩ = some (.int .i64 (ps.getD j 0)))
    (hc2 : ∀ j, j < ps.length → w.cell? ⟨b2, off2 + j, none⟩ = some (.int .i64 (qs.getD j 0))) :
    Calls Tryd.prog 52 #[.slice (some ⟨b, off, none⟩) ps.length cap, .slice (some ⟨b2, off2, none⟩) ps.length cap2] w fun e w' => e = .returned (.bool (decide (ps = qs))) ∧ Below w.heap.size w w' := by
  have HL := hide hl
  clear hl
  go_enter Tryd.func52, Tryd.ntmps52
  go_wp2
  go_loopw [13] (fun i wr => ∃ k : Nat, k ≤ ps.length ∧ i = .int .i64 k ∧ Below w.heap.size w wr ∧ ∀ j, j < k → ps.getD j 0 = qs.getD j 0) (fun i _ => ps.length - (intOf i).toNat)
  case atStart => exact ⟨0, Nat.zero_le _, rfl, Below.refl _ _, fun j hj => by omega⟩
  case round =>
    obtain ⟨k, hk, rfl, hB, hq⟩ := hrel
    by_cases hlt : k < ps.length
    · have hcx : wr.cell? ⟨b, off + k, none⟩ = some (.int .i64 (ps.getD k 0)) := (hB.cell (World.block_lt_of_cell? _ _ (hc k hlt))).trans (hc k hlt)
      have hcy : wr.cell? ⟨b2, off2 + k, none⟩ = some (.int .i64 (qs.getD k 0)) := (hB.cell (World.block_lt_of_cell? _ _ (hc2 k hlt))).trans (hc2 k hlt)
      have HQ := hide hq
      have HB := hide hB
      clear hc hc2 hq hB
      by_cases he : ps.getD k 0 = qs.getD k 0
      · have HE := hide he
        rw [← he] at hcy
        clear he
        generalize ps.getD k 0 = x at hcx hcy
        have hxx : (x != x) = false := by simp
        go_wp2
        go_quiet (fail)
        go_wp2
        go_roundw
        case rel =>
          refine ⟨k + 1, by omega, by go_num, below_drewN (unhide HB) _, fun j hj => ?_⟩
          by_cases hjk : j < k
          · exact unhide HQ j hjk
          · obtain rfl : j = k := by omega
            exact unhide HE
        case measure => simp [intOf]; omega
      · have HN := hide (ne_at_slEqual he)
        have hxy : (ps.getD k 0 != qs.getD k 0) = true := by rw [bne_iff_ne]; exact he
        clear he
        generalize ps.getD k 0 = x at hcx hxy
        generalize qs.getD k 0 = y at hcy hxy
        go_wp2
        go_quiet (fail)
        go_wp2
        go_ret
        exact ⟨by rw [unhide HN]; rfl, below_drewN (unhide HB) _⟩
    · obtain rfl : k = ps.length := by omega
      have HN := hide (eq_all_slEqual (unhide HL) hq)
      have HB := hide hB
      clear hc hc2 hq hB
      go_wp2
      go_ret
      exact ⟨by rw [unhide HN]; rfl, unhide HB⟩
set_option maxHeartbeats 400000 in
theorem slEqual_len (ao ao2 : Option Addr) (n m cap cap2 : Nat) (w : World) (h : n ≠ m) :
    Calls Tryd.prog 52 #[.slice ao n cap, .slice ao2 m cap2] w fun e w' => e = .returned (.bool false) ∧ Below w.heap.size w w' := by
  have hd : ((n : Int) != (m : Int)) = true := by rw [bne_iff_ne]; omega
  go_enter Tryd.func52, Tryd.ntmps52
  go_wp2
  go_ret
  exact ⟨rfl, Below.refl _ _⟩
theorem slEqual_zero (ao ao2 : Option Addr) (cap cap2 : Nat) (w : World) :
    Calls Tryd.prog 52 #[.slice ao 0 cap, .slice ao2 0 cap2] w fun e w' => e = .returned (.bool true) ∧ Below w.heap.size w w' := by
  go_enter Tryd.func52, Tryd.ntmps52
  go_wp2
  refine wp_loop_rounds 1 ?_
  rw [rounds_succ]
  go_wp2
  go_ret
  exact ⟨rfl, Below.refl _ _⟩
/-- Whether two lists of numbers are the same. -/
theorem slEqual (v v2 : Value) (ps qs : List Int) (w : World) (h : IsInts w v ps) (h2 : IsInts w v2 qs) (hn : ps.length ≤ 9223372036854775807) :
    Calls Tryd.prog 52 #[v, v2] w fun e w' => e = .returned (.bool (decide (ps = qs))) ∧ Below w.heap.size w w' := by
  obtain ⟨ao, cap, rfl, hwf, hc⟩ := h
  obtain ⟨ao2, cap2, rfl, _, hc2⟩ := h2
  by_cases hl : ps.length = qs.length
  · by_cases hp : 0 < ps.length
    · obtain ⟨b, off, rfl, hc1⟩ := hc hp
      obtain ⟨b2, off2, rfl, hc3⟩ := hc2 (by omega)
      rw [← hl] at hc3 ⊢
      exact slEqual_pos b off cap b2 off2 cap2 ps qs w hl hn hc1 hc3
    · obtain rfl : ps = [] := List.eq_nil_of_length_eq_zero (by omega)
      obtain rfl : qs = [] := List.eq_nil_of_length_eq_zero (by simpa using hl.symm)
      exact slEqual_zero ao ao2 cap cap2 w
  · rw [show decide (ps = qs) = false by simp only [decide_eq_false_iff_not]; rintro rfl; exact hl rfl]
    exact slEqual_len ao ao2 _ _ cap cap2 w hl

end Go.Proofs.YtkmfkaljdngigaaDoor

namespace Go.Proofs.YtkmfkaljdngigaaDoor
open Go.RowKit

set_option maxRecDepth 10000 in
set_option maxHeartbeats 2000000 in
theorem sameWrite (cs cs2 : List Value) (x y : DWrite) (w : World) (h : Lay.tWrite.Reads w cs x) (h2 : Lay.tWrite.Reads w cs2 y) :
    Calls Tryd.prog 40 #[.agg cs.toArray, .agg cs2.toArray] w fun e w' => e = .returned (.bool (sameW x y)) ∧ Below w.heap.size w w' := by
  obtain ⟨a2, d2, rfl, R2⟩ := open_Write h
  obtain ⟨a2z, d2z, rfl, R2z⟩ := open_Write h2
  clear h h2
  have HB : Hid (Below w.heap.size w ((w.alloc (.cells #[.int .i64 x.kind, .int .i64 x.id, .slice a2 x.vec.length d2, .int .i64 x.session, .int .i64 x.seq] 31)).alloc (.cells #[.int .i64 y.kind, .int .i64 y.id, .slice a2z y.vec.length d2z, .int .i64 y.session, .int .i64 y.seq] 31))) := ((Below.refl _ _).alloc (Nat.le_refl _) _).alloc (by simp) _
  cases e0 : (x.kind == y.kind) with
  | false =>
    have HS : Hid (sameW x y = false) := by
      show sameW x y = false
      simp [sameW, e0]
    go_enter Tryd.func40, Tryd.ntmps40
    go_wp2_with fail
    go_ret
    exact ⟨by rw [unhide HS]; rfl, unhide HB⟩
  | true =>
    cases e1 : (x.id == y.id) with
    | false =>
      have HS : Hid (sameW x y = false) := by
        show sameW x y = false
        simp [sameW, e0, e1]
      go_enter Tryd.func40, Tryd.ntmps40
      go_wp2_with fail
      go_ret
      exact ⟨by rw [unhide HS]; rfl, unhide HB⟩
    | true =>
      cases e2 : (x.session == y.session) with
      | false =>
        have HS : Hid (sameW x y = false) := by
          show sameW x y = false
          simp [sameW, e0, e1, e2]
        go_enter Tryd.func40, Tryd.ntmps40
        go_wp2_with fail
        go_ret
        exact ⟨by rw [unhide HS]; rfl, unhide HB⟩
      | true =>
        cases e3 : (x.seq == y.seq) with
        | false =>
          have HS : Hid (sameW x y = false) := by
            show sameW x y = false
            simp [sameW, e0, e1, e2, e3]
          go_enter Tryd.func40, Tryd.ntmps40
          go_wp2_with fail
          go_ret
          exact ⟨by rw [unhide HS]; rfl, unhide HB⟩
        | true =>
          have HS : Hid (sameW x y = decide (x.vec = y.vec)) := by
            show sameW x y = decide (x.vec = y.vec)
            simp [sameW, e0, e1, e2, e3]
          have L := hide (slEqual _ _ x.vec y.vec _ ((Lay.ints_reads R2).later (unhide HB)) ((Lay.ints_reads R2z).later (unhide HB)) R2.big)
          clear R2 R2z
          go_enter Tryd.func40, Tryd.ntmps40
          go_wp2_with fail
          refine (unhide L).mono ?_
          rintro e w1 ⟨rfl, hb⟩
          have HB1 := hide ((unhide HB).trans (hb.mono (unhide HB).size))
          clear hb L HB
          go_wp2_with fail
          go_ret
          exact ⟨by rw [unhide HS]; rfl, unhide HB1⟩
end Go.Proofs.YtkmfkaljdngigaaDoor

namespace Go.Proofs.YtkmfkaljdngigaaDoor
open Go.RowKit

set_option maxHeartbeats 400000 in
theorem implFault_len (ao : Option Addr) (n cap : Nat) (w : World) (h : n ≠ 3) :
    Calls Tryd.prog 67 #[.slice ao n cap] w fun e w' => e = .returned (.int .i64 1) ∧ w' = w := by
  have h3 : ((n : Int) != 3) = true := by rw [bne_iff_ne]; omega
  go_enter Tryd.func67, Tryd.ntmps67
  go_wp2
  go_ret
  exact ⟨rfl, rfl⟩

set_option maxHeartbeats 400000 in
theorem implFault_three (b off cap : Nat) (zs : List Int) (w : World) (h : zs.length = 3) (hc : ∀ j, j < 3 → w.cell? ⟨b, off + j, none⟩ = some (.int .i64 (zs.getD j 0))) :
    Calls Tryd.prog 67 #[.slice (some ⟨b, off, none⟩) 3 cap] w fun e w' => e = .returned (.int .i64 (vecFault zs)) ∧ w' = w := by
  go_enter Tryd.func67, Tryd.ntmps67
  go_wp2
  go_loop [10] (fun i => ∃ k : Nat, k ≤ 3 ∧ i = .int .i64 k ∧ ∀ j, j < k → partB (zs.getD j 0) = true) (fun i => 3 - (intOf i).toNat)
  case atStart => exact ⟨0, Nat.zero_le _, rfl, fun j hj => by omega⟩
  case round =>
    obtain ⟨k, hk, rfl, hg⟩ := hrel
    have HG : Hid (∀ j, j < k → partB (zs.getD j 0) = true) := hg
    have HL : Hid (zs.length = 3) := h
    clear hg h
    by_cases hlt : k < 3
    · have hcx : w.cell? ⟨b, off + k, none⟩ = some (.int .i64 (zs.getD k 0)) := hc k hlt
      obtain ⟨z, hz⟩ : ∃ z, z = zs.getD k 0 := ⟨_, rfl⟩
      rw [← hz] at hcx
      have HZ : Hid (z = zs.getD k 0) := hz
      clear hz hc
      cases hp : partB z with
      | true =>
        have hb := partB_true hp
        have HP : Hid (partB z = true) := hp
        clear hp
        obtain ⟨hb1, hb2⟩ := hb
        go_wp2
        go_round
        case rel =>
          refine ⟨k + 1, by omega, by go_num, fun j hj => ?_⟩
          by_cases hjk : j < k
          · exact HG.out j hjk
          · rw [show j = k by omega, ← HZ.out]; exact HP.out
        case measure => simp [intOf]; omega
      | false =>
        have HV : Hid (vecFault zs = 3) := vecFault_bad HL.out k hlt (by rw [← HZ.out]; exact hp)
        have hb := partB_false hp
        clear hp
        rcases hb with hb | hb
        · go_wp2
          go_ret
          exact ⟨by rw [HV.out]; rfl, rfl⟩
        · have hb1 : -1000 ≤ z := by omega
          have hd : decide (z ≤ 1000) = false := by simp; omega
          go_wp2
          go_ret
          exact ⟨by rw [HV.out]; rfl, rfl⟩
    · have HV : Hid (vecFault zs = 0) := vecFault_ok HL.out (fun j hj => HG.out j (by omega))
      go_wp2
      go_ret
      exact ⟨by rw [HV.out]; rfl, rfl⟩

set_option maxHeartbeats 400000 in
theorem modelFault_len (ao : Option Addr) (n cap : Nat) (w : World) (h : n ≠ 3) :
    Calls Tryd.prog 38 #[.slice ao n cap] w fun e w' => e = .returned (.int .i64 1) ∧ w' = w := by
  have h3 : ((n : Int) != 3) = true := by rw [bne_iff_ne]; omega
  go_enter Tryd.func38, Tryd.ntmps38
  go_wp2
  go_ret
  exact ⟨rfl, rfl⟩

set_option maxHeartbeats 400000 in
theorem modelFault_three (b off cap : Nat) (zs : List Int) (w : World) (h : zs.length = 3) (hc : ∀ j, j < 3 → w.cell? ⟨b, off + j, none⟩ = some (.int .i64 (zs.getD j 0))) :
    Calls Tryd.prog 38 #[.slice (some ⟨b, off, none⟩) 3 cap] w fun e w' => e = .returned (.int .i64 (vecFault zs)) ∧ w' = w := by
  go_enter Tryd.func38, Tryd.ntmps38
  go_wp2
  go_loop [3] (fun i => ∃ k : Nat, k ≤ 3 ∧ i = .int .i64 k ∧ ∀ j, j < k → partB (zs.getD j 0) = true) (fun i => 3 - (intOf i).toNat)
  case atStart => exact ⟨0, Nat.zero_le _, rfl, fun j hj => by omega⟩
  case round =>
    obtain ⟨k, hk, rfl, hg⟩ := hrel
    have HG : Hid (∀ j, j < k → partB (zs.getD j 0) = true) := hg
    have HL : Hid (zs.length = 3) := h
    clear hg h
    by_cases hlt : k < 3
    · have hcx : w.cell? ⟨b, off + k, none⟩ = some (.int .i64 (zs.getD k 0)) := hc k hlt
      obtain ⟨z, hz⟩ : ∃ z, z = zs.getD k 0 := ⟨_, rfl⟩
      rw [← hz] at hcx
      have HZ : Hid (z = zs.getD k 0) := hz
      clear hz hc
      cases hp : partB z with
      | true =>
        have hb := partB_true hp
        have HP : Hid (partB z = true) := hp
        clear hp
        obtain ⟨hb1, hb2⟩ := hb
        go_wp2
        go_round
        case rel =>
          refine ⟨k + 1, by omega, by go_num, fun j hj => ?_⟩
          by_cases hjk : j < k
          · exact HG.out j hjk
          · rw [show j = k by omega, ← HZ.out]; exact HP.out
        case measure => simp [intOf]; omega
      | false =>
        have HV : Hid (vecFault zs = 3) := vecFault_bad HL.out k hlt (by rw [← HZ.out]; exact hp)
        have hb := partB_false hp
        clear hp
        rcases hb with hb | hb
        · go_wp2
          go_ret
          exact ⟨by rw [HV.out]; rfl, rfl⟩
        · have hb1 : -1000 ≤ z := by omega
          have hd : decide (z ≤ 1000) = false := by simp; omega
          go_wp2
          go_ret
          exact ⟨by rw [HV.out]; rfl, rfl⟩
    · have HV : Hid (vecFault zs = 0) := vecFault_ok HL.out (fun j hj => HG.out j (by omega))
      go_wp2
      go_ret
      exact ⟨by rw [HV.out]; rfl, rfl⟩


/-- VecFault of the program. -/
theorem implFault (v : Value) (zs : List Int) (w : World) (h : IsInts w v zs) :
    Calls Tryd.prog 67 #[v] w fun e w' => e = .returned (.int .i64 (vecFault zs)) ∧ w' = w := by
  obtain ⟨ao, cap, rfl, hwf, hc⟩ := h
  by_cases h3 : zs.length = 3
  · obtain ⟨b, off, rfl, hc1⟩ := hc (by omega)
    rw [h3] at hc1 ⊢
    exact implFault_three b off cap zs w h3 hc1
  · rw [vecFault_len h3]
    exact implFault_len ao zs.length cap w h3

/-- VecFault of the model. -/
theorem modelFault (v : Value) (zs : List Int) (w : World) (h : IsInts w v zs) :
    Calls Tryd.prog 38 #[v] w fun e w' => e = .returned (.int .i64 (vecFault zs)) ∧ w' = w := by
  obtain ⟨ao, cap, rfl, hwf, hc⟩ := h
  by_cases h3 : zs.length = 3
  · obtain ⟨b, off, rfl, hc1⟩ := hc (by omega)
    rw [h3] at hc1 ⊢
    exact modelFault_three b off cap zs w h3 hc1
  · rw [vecFault_len h3]
    exact modelFault_len ao zs.length cap w h3

end Go.Proofs.YtkmfkaljdngigaaDoor

namespace Go.Proofs.YtkmfkaljdngigaaDoor
open Go.RowKit

theorem bcell {W w1 : World} (hb : Below W.heap.size W w1) : (∀ b o, b < W.heap.size → w1.cell? ⟨b, o, none⟩ = W.cell? ⟨b, o, none⟩) ∧ (∀ b o, b < W.heap.size → w1.frozen? ⟨b, o, none⟩ = W.frozen? ⟨b, o, none⟩) :=
  ⟨fun b o h => hb.cell (p := ⟨b, o, none⟩) h, fun b o h => hb.frozen (p := ⟨b, o, none⟩) h⟩

/-- Two blocks of three cells that were laid ahead of a call are there behind it, and may be written. -/
theorem two_kept {w w1 : World} {T : TypeId} {x0 x1 x2 y0 y1 y2 : Value} (hb : Below ((w.alloc (.cells #[x0, x1, x2] T)).alloc (.cells #[y0, y1, y2] T)).heap.size ((w.alloc (.cells #[x0, x1, x2] T)).alloc (.cells #[y0, y1, y2] T)) w1) :
    (w1.cell? ⟨w.heap.size, 0, none⟩ = some x0 ∧ w1.cell? ⟨w.heap.size, 1, none⟩ = some x1 ∧ w1.cell? ⟨w.heap.size, 2, none⟩ = some x2) ∧
    (w1.cell? ⟨w.heap.size + 1, 0, none⟩ = some y0 ∧ w1.cell? ⟨w.heap.size + 1, 1, none⟩ = some y1 ∧ w1.cell? ⟨w.heap.size + 1, 2, none⟩ = some y2) ∧
    (∀ o, w1.frozen? ⟨w.heap.size, o, none⟩ = false) ∧ (∀ o, w1.frozen? ⟨w.heap.size + 1, o, none⟩ = false) := by
  refine ⟨⟨?_, ?_, ?_⟩, ⟨?_, ?_, ?_⟩, fun o => ?_, fun o => ?_⟩
  all_goals first | rw [hb.cell (by simp [World.size_alloc]; try omega)] | rw [hb.frozen (by simp [World.size_alloc]; try omega)]
  all_goals simp [go_sem]

/-- Three numbers as an array. -/
def arr3 (x y z : Int) : Value := .agg #[.int .i64 x, .int .i64 y, .int .i64 z]

theorem IsInts.three {w : World} {v : Value} {zs : List Int} (h : IsInts w v zs) (h3 : zs.length = 3) :
    ∃ b off cap x y z, zs = [x, y, z] ∧ v = .slice (some ⟨b, off, none⟩) 3 cap ∧ b < w.heap.size ∧ w.cell? ⟨b, off, none⟩ = some (.int .i64 x) ∧ w.cell? ⟨b, off + 1, none⟩ = some (.int .i64 y) ∧ w.cell? ⟨b, off + 2, none⟩ = some (.int .i64 z) := by
  obtain ⟨ao, cap, rfl, hwf, hc⟩ := h
  match zs, h3 with
  | [x, y, z], _ =>
    obtain ⟨b, off, rfl, hc1⟩ := hc (by simp)
    have c0 := hc1 0 (by simp)
    have c1 := hc1 1 (by simp)
    have c2 := hc1 2 (by simp)
    exact ⟨b, off, cap, x, y, z, rfl, rfl, World.block_lt_of_cell? _ _ c0, c0, c1, c2⟩

set_option maxHeartbeats 400000 in
theorem vectorOf_bad (v : Value) (zs : List Int) (w : World) (h : IsInts w v zs) (hf : vecFault zs ≠ 0) :
    Calls Tryd.prog 58 #[v] w fun e w' => e = .returned (.tuple #[arr3 0 0 0, .int .i64 (vecFault zs)]) ∧ Below w.heap.size w w' := by
  go_enter Tryd.func58, Tryd.ntmps58
  go_wp2_with fail
  refine (implFault v zs _ (h.later (((Below.refl _ _).alloc (Nat.le_refl _) _).alloc (by simp) _))).mono ?_
  rintro e w' ⟨rfl, rfl⟩
  have hne : (vecFault zs != 0) = true := by rw [bne_iff_ne]; exact hf
  go_wp2_with fail
  refine bodyPost_ret (v := .tuple #[arr3 0 0 0, .int .i64 (vecFault zs)]) (by simp [results, Tryd.results58, go_sem, arr3]) rfl ⟨rfl, ?_⟩
  exact ((Below.refl _ _).alloc (Nat.le_refl _) _).alloc (by simp) _

set_option maxHeartbeats 1000000 in
theorem vectorOf_three (b off cap : Nat) (x y z : Int) (w : World) (hbl : b < w.heap.size) (c0 : w.cell? ⟨b, off, none⟩ = some (.int .i64 x)) (c1 : w.cell? ⟨b, off + 1, none⟩ = some (.int .i64 y)) (c2 : w.cell? ⟨b, off + 2, none⟩ = some (.int .i64 z))
    (h : IsInts w (.slice (some ⟨b, off, none⟩) 3 cap) [x, y, z]) (hf : vecFault [x, y, z] = 0) :
    Calls Tryd.prog 58 #[.slice (some ⟨b, off, none⟩) 3 cap] w fun e w' => e = .returned (.tuple #[arr3 x y z, .int .i64 0]) ∧ Below w.heap.size w w' := by
  go_enter Tryd.func58, Tryd.ntmps58
  go_wp2_with fail
  refine (implFault _ [x, y, z] _ (h.later (((Below.refl _ _).alloc (Nat.le_refl _) _).alloc (by simp) _))).mono ?_
  rintro e w' ⟨rfl, rfl⟩
  rw [hf]
  clear h hf
  go_wp2_with fail
  refine wp_loop_rounds 4 ?_
  rw [rounds_succ]
  go_wp2
  rw [rounds_succ]
  go_wp2
  rw [rounds_succ]
  go_wp2
  rw [rounds_succ]
  go_wp2
  refine bodyPost_ret (v := .tuple #[arr3 x y z, .int .i64 0]) (by simp [results, Tryd.results58, go_sem, arr3]) rfl ⟨rfl, ?_⟩
  exact ((Below.refl _ _).alloc (Nat.le_refl _) _).alloc (by simp) _

theorem vectorOf_ok (v : Value) (x y z : Int) (w : World) (h : IsInts w v [x, y, z]) (hf : vecFault [x, y, z] = 0) :
    Calls Tryd.prog 58 #[v] w fun e w' => e = .returned (.tuple #[arr3 x y z, .int .i64 0]) ∧ Below w.heap.size w w' := by
  obtain ⟨b, off, cap, x', y', z', he, rfl, hbl, c0, c1, c2⟩ := h.three rfl
  simp only [List.cons.injEq, and_true] at he
  obtain ⟨rfl, rfl, rfl⟩ := he
  exact vectorOf_three b off cap x y z w hbl c0 c1 c2 h hf

end Go.Proofs.YtkmfkaljdngigaaDoor

namespace Go.Proofs.YtkmfkaljdngigaaDoor
open Go.RowKit

theorem Box.five {lo : Nat} {x0 x1 x2 x3 x4 : Value} {T : TypeId} {W : World} {s : Nat} (h : Box lo #[x0, x1, x2, x3, x4] T W s) :
    (W.cell? ⟨s, 0, none⟩ = some x0 ∧ W.cell? ⟨s, 1, none⟩ = some x1 ∧ W.cell? ⟨s, 2, none⟩ = some x2 ∧ W.cell? ⟨s, 3, none⟩ = some x3 ∧ W.cell? ⟨s, 4, none⟩ = some x4) ∧ (∀ o, W.frozen? ⟨s, o, none⟩ = false) ∧ s < W.heap.size := by
  refine ⟨⟨?_, ?_, ?_, ?_, ?_⟩, fun o => ?_, h.lt⟩
  all_goals first | simp [World.cell?, h.2] | simp [World.frozen?, h.2]
theorem Box.alloc {lo : Nat} {cs : Array Value} {T : TypeId} {W : World} {s : Nat} (h : Box lo cs T W s) (o : Obj) : Box lo cs T (W.alloc o) s := ⟨h.1, (Below.heap_alloc W o s h.lt).trans h.2⟩

end Go.Proofs.YtkmfkaljdngigaaDoor

namespace Go.Proofs.YtkmfkaljdngigaaDoor
open Go.RowKit

theorem inC (v lo hi : Int) (w : World) :
    Calls Tryd.prog 21 #[.int .i64 v, .int .i64 lo, .int .i64 hi] w fun e w' => e = .returned (.bool (decide (lo ≤ v) && decide (v ≤ hi))) ∧ w' = w := by
  by_cases h1 : lo ≤ v
  · have d1 : decide (lo ≤ v) = true := by simpa using h1
    rw [d1]
    cases d2 : decide (v ≤ hi) <;>
    · go_enter Tryd.func21, Tryd.ntmps21
      go_wp2_with fail
      go_ret
      exact ⟨rfl, rfl⟩
  · have d1 : decide (lo ≤ v) = false := by simpa using h1
    rw [d1]
    go_enter Tryd.func21, Tryd.ntmps21
    go_wp2_with fail
    go_ret
    exact ⟨rfl, rfl⟩
theorem idC (x : Int) (w : World) : Calls Tryd.prog 36 #[.int .i64 x] w fun e w' => e = .returned (.bool (decide (1 ≤ x) && decide (x ≤ 999))) ∧ w' = w := by
  go_enter Tryd.func36, Tryd.ntmps36
  go_wp2_with fail
  refine (inC x 1 999 _).mono ?_
  rintro e w1 ⟨rfl, rfl⟩
  go_wp2_with fail
  go_ret
  exact ⟨rfl, rfl⟩

end Go.Proofs.YtkmfkaljdngigaaDoor

namespace Go.Proofs.YtkmfkaljdngigaaDoor
open Go.RowKit

theorem sessionC (x : Int) (w : World) : Calls Tryd.prog 37 #[.int .i64 x] w fun e w' => e = .returned (.bool (decide (1 ≤ x) && decide (x ≤ 9))) ∧ w' = w := by
  go_enter Tryd.func37, Tryd.ntmps37
  go_wp2_with fail
  refine (inC x 1 9 _).mono ?_
  rintro e w1 ⟨rfl, rfl⟩
  go_wp2_with fail
  go_ret
  exact ⟨rfl, rfl⟩

end Go.Proofs.YtkmfkaljdngigaaDoor
