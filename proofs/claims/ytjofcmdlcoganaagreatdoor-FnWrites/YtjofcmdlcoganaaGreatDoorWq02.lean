/-
  Texts of this proof in one: Digits, TextPlain, WTextPlain, TextL1, VecOf, SpecWText, DrawPWrite, WrPack, WrPackL, PackFacts, DrawUnpackW, DrawWrB, DrawPackW, Big, LwSame, ParsePlain, CutPlain, Number, Cut, ListC, Parse, CutSp, SpecReadB, SpecReadNo.
  Their conditions stand in their theorems.
-/
import Derived.Test.YtjofcmdlcoganaaGreatDoorChecked
import Derived.Test.YtjofcmdlcoganaaGreatDoorWq01
import Derived.Laws.BytesArg
import Derived.Laws.Concat
import Derived.Deep.RegionHeld3
import Derived.Deep.RegionWith
import Derived.Lib.AppendIntMem
import Derived.WalkSmall
import Derived.Outline
import Derived.BigQuiet
import Derived.Deep.QuietTactic
import Derived.Laws.Strings2
import Derived.Lib.Strings
import Derived.Deep.AppendLies

namespace Go.Proofs.YtjofcmdlcoganaaGreatDoor
open Go.RowKit

def str (l : Bytes) : Value := .string ⟨l.toArray⟩

theorem below_keep {w W W' : World} (h : Below w.heap.size w W) (k : Below W.heap.size W W') : Below w.heap.size w W' := h.trans (k.mono h.size)

theorem below_undrew {W w1 : World} (h : Below W.drew.heap.size W.drew w1) : Below W.heap.size W w1 := ⟨h.os, h.tape, h.output, h.size, h.block⟩
theorem str_app (l m : Bytes) : (⟨l.toArray⟩ ++ ⟨m.toArray⟩ : ByteArray) = ⟨(l ++ m).toArray⟩ := by
  apply ByteArray.ext
  simp

theorem conv1 (w : World) (x : Int) : (convert 22 9 (.slice (some ⟨w.heap.size, 0, none⟩) 1 1)).run Tryz.prog (w.alloc (.cells #[.int .u8 x] 5)) = .ok (.string ⟨#[UInt8.ofNat x.toNat]⟩) (w.alloc (.cells #[.int .u8 x] 5)) := by
  have h := run_convert_bytes_arg (P := Tryz.prog) (w.alloc (.cells #[.int .u8 x] 5)) 22 5 Tryz.underlying22 Tryz.underlying5 w.heap.size 0 1 1 [x] rfl (fun i hi => by
    obtain rfl : i = 0 := by omega
    simp [go_sem]) 9 Tryz.underlying9
  exact h

theorem conv_later {w w1 : World} {x : Int} (hb : Below (w.alloc (.cells #[.int .u8 x] 5)).drew.heap.size (w.alloc (.cells #[.int .u8 x] 5)).drew w1) :
    (convert 22 9 (.slice (some ⟨w.heap.size, 0, none⟩) 1 1)).run Tryz.prog w1 = .ok (.string ⟨#[UInt8.ofNat x.toNat]⟩) w1 := by
  have h := run_convert_bytes_arg (P := Tryz.prog) w1 22 5 Tryz.underlying22 Tryz.underlying5 w.heap.size 0 1 1 [x] rfl (fun i hi => by
    obtain rfl : i = 0 := by omega
    rw [hb.cell (by show w.heap.size < (w.alloc (.cells #[.int .u8 x] 5)).heap.size; simp)]
    show (w.alloc (.cells #[.int .u8 x] 5)).cell? ⟨w.heap.size, 0 + 0, none⟩ = _
    simp [go_sem]) 9 Tryz.underlying9
  exact h

set_option maxRecDepth 100000 in
set_option maxHeartbeats 400000 in
theorem digits_one (n : Nat) (w : World) (hn : n < 10) :
    Calls Tryz.prog 41 #[.int .i64 (n : Int)] w fun e w' => e = .returned (str [dch n]) ∧ Below w.heap.size w w' := by
  have hcv := conv1 w (48 + (n : Int))
  go_enter Tryz.func41, Tryz.ntmps41
  go_wp2
  go_ret
  exact ⟨rfl, (Below.refl _ _).alloc (Nat.le_refl _) _⟩

set_option maxRecDepth 100000 in
set_option maxHeartbeats 400000 in
theorem digits_more (f n : Nat) (w : World) (hn : 10 ≤ n) (hn2 : n ≤ 99999) (hf : f ≤ 5)
    (ih : Hid (∀ W, Calls Tryz.prog 41 #[.int .i64 ((n / 10 : Nat) : Int)] W fun e w' => e = .returned (str (decF f (n / 10))) ∧ Below W.heap.size W w')) :
    Calls Tryz.prog 41 #[.int .i64 (n : Int)] w fun e w' => e = .returned (str (decF f (n / 10) ++ [dch (n % 10)])) ∧ Below w.heap.size w w' := by
  obtain ⟨d, hd⟩ : ∃ d : Nat, d = n % 10 := ⟨_, rfl⟩
  rw [← hd]
  have hd9 : d ≤ 9 := by omega
  have hcv := fun W => conv1 W (48 + (d : Int))
  have hcvd := conv_later (w := w) (x := 48 + (d : Int)) (Below.refl _ _)
  have hl := decF_len f (n / 10)
  generalize decF f (n / 10) = ds at *
  have hsum : ∀ W : World, (Op.stringOp .add ⟨ds.toArray⟩ ⟨#[UInt8.ofNat (48 + (d : Int)).toNat]⟩).run Tryz.prog W = .ok (.string (⟨ds.toArray⟩ ++ ⟨#[UInt8.ofNat (48 + (d : Int)).toNat]⟩)) W := fun W => run_string_add_sum W _ _ (by simp [ByteArray.size]; omega)
  have hw1 : IntKind.i64.wrap ((n : Int) / 10) = ((n / 10 : Nat) : Int) := by simp only [IntKind.wrap_i64]; omega
  have hw2 : IntKind.i64.wrap (48 + (n : Int).tmod 10) = 48 + (d : Int) := by
    rw [Int.tmod_eq_emod_of_nonneg (by omega)]
    simp only [IntKind.wrap_i64]
    omega
  have hw3 : IntKind.u8.wrap (48 + (d : Int)) = 48 + (d : Int) := by simp only [IntKind.wrap_u8]; omega
  have HD := hide hd
  clear hd
  simp only [str] at ih ⊢
  go_enter Tryz.func41, Tryz.ntmps41
  go_wp2_with fail
  go_region_with (go_at_call 41; refine (unhide ih _).mono ?_; rintro e w1 ⟨rfl, hb1⟩; (first | have hq := conv_later hb1 | skip))
  all_goals go_wp2_with fail
  all_goals go_ret
  all_goals refine ⟨congrArg (fun b => Ending.returned (Value.string b)) (str_app ds [dch d]), ?_⟩
  · exact (below_undrew hb1).alloc (below_undrew hb1).size _
  · exact ((Below.refl w.heap.size w).alloc (Nat.le_refl _) _).trans ((below_undrew hb1).mono (by simp))
  · exact ((Below.refl w.heap.size w).alloc (Nat.le_refl _) _).trans ((below_undrew hb1).mono (by simp))

/-- l1Digits at a number from 0 on. -/
theorem digits_nat (f : Nat) : ∀ (n : Nat) (w : World), n < 10 ^ (f + 1) → f ≤ 4 →
    Calls Tryz.prog 41 #[.int .i64 (n : Int)] w fun e w' => e = .returned (str (decF (f + 1) n)) ∧ Below w.heap.size w w' := by
  induction f with
  | zero =>
    intro n w hn _
    have e : decF (0 + 1) n = [dch n] := by simp [decF]; intro h; omega
    rw [e]
    exact digits_one n w (by omega)
  | succ f ih =>
    intro n w hn hf
    by_cases h : n < 10
    · have e : decF (f + 1 + 1) n = [dch n] := by rw [decF, if_pos h]
      rw [e]
      exact digits_one n w h
    · have e : decF (f + 1 + 1) n = decF (f + 1) (n / 10) ++ [dch (n % 10)] := by rw [decF, if_neg h]
      rw [e]
      have hp : n < 100000 := Nat.lt_of_lt_of_le hn (Nat.pow_le_pow_right (n := 10) (by omega) (show f + 1 + 1 ≤ 5 by omega))
      have hq : n / 10 < 10 ^ (f + 1) := by
        rw [Nat.pow_succ] at hn
        omega
      exact digits_more (f + 1) n w (by omega) (by omega) (by omega) (fun W => ih (n / 10) W hq (by omega))

set_option maxHeartbeats 400000 in
theorem digits_neg (n : Nat) (w : World) (hn : 1 ≤ n) (hn2 : n ≤ 9999) :
    Calls Tryz.prog 41 #[.int .i64 (-(n : Int))] w fun e w' => e = .returned (str (45 :: decF 4 n)) ∧ Below w.heap.size w w' := by
  have hl := decF_len 4 n
  have hsum : ∀ W : World, (Op.stringOp .add ⟨#[45]⟩ ⟨(decF 4 n).toArray⟩).run Tryz.prog W = .ok (.string (⟨#[45]⟩ ++ ⟨(decF 4 n).toArray⟩)) W := fun W => run_string_add_sum W _ _ (by simp [ByteArray.size]; omega)
  go_enter Tryz.func41, Tryz.ntmps41
  go_wp2_with fail
  refine (digits_nat 3 n w (by omega) (by omega)).mono ?_
  rintro e w1 ⟨rfl, hb1⟩
  simp only [str]
  have HB := hide hb1
  clear hb1
  go_wp2_with fail
  go_ret
  exact ⟨congrArg (fun b => Ending.returned (Value.string b)) (str_app [45] (decF 4 n)), unhide HB⟩

/-- l1Digits. -/
theorem digits (n : Int) (w : World) (h1 : -9999 ≤ n) (h2 : n ≤ 9999) :
    Calls Tryz.prog 41 #[.int .i64 n] w fun e w' => e = .returned (str (dec n)) ∧ Below w.heap.size w w' := by
  by_cases h : n < 0
  · obtain ⟨m, rfl⟩ : ∃ m : Nat, n = -(m : Int) := ⟨n.natAbs, by omega⟩
    have e : dec (-(m : Int)) = 45 :: decF 4 m := by simp [dec]; intro h; omega
    rw [e]
    exact digits_neg m w (by omega) (by omega)
  · obtain ⟨m, rfl⟩ := Int.eq_ofNat_of_zero_le (show 0 ≤ n by omega)
    have e : dec (m : Int) = decF 4 m := by simp [dec]
    rw [e]
    exact digits_nat 3 m w (by omega) (by omega)

end Go.Proofs.YtjofcmdlcoganaaGreatDoor

namespace Go.Proofs.YtjofcmdlcoganaaGreatDoor
open Go.RowKit

theorem dec_len (n : Int) : (dec n).length ≤ 5 := by
  unfold dec
  split
  · have := decF_len 4 n.natAbs; simp; omega
  · have := decF_len 4 n.toNat; omega

/-- The text of three numbers. -/
def text3 (x y z : Int) : Bytes := dec x ++ 44 :: (dec y ++ 44 :: dec z)
theorem text3_len (x y z : Int) : (text3 x y z).length ≤ 17 := by
  have := dec_len x
  have := dec_len y
  have := dec_len z
  simp [text3]
  omega
/-- What VecText tells. -/
def vecText (zs : List Int) : Bytes := if vecFault zs = 0 then text3 (zs.getD 0 0) (zs.getD 1 0) (zs.getD 2 0) else []
theorem vecText_len (zs : List Int) : (vecText zs).length ≤ 17 := by
  unfold vecText
  split
  · exact text3_len _ _ _
  · simp

end Go.Proofs.YtjofcmdlcoganaaGreatDoor

namespace Go.Proofs.YtjofcmdlcoganaaGreatDoor
open Go.RowKit

/-- What stands ahead of 'by'. -/
def writeHead (k i : Int) (zs : List Int) : Bytes := if k = 1 then [112, 117, 116, 32] ++ dec i ++ [32] ++ vecText zs else [100, 114, 111, 112, 32] ++ dec i
def writeTail (s q : Int) (h : Bytes) : Bytes := h ++ [32, 98, 121, 32] ++ dec s ++ [32] ++ dec q
def writeText (k i : Int) (zs : List Int) (s q : Int) : Bytes := if writeFault k i zs s q = 0 then writeTail s q (writeHead k i zs) else []
theorem writeHead_len (k i : Int) (zs : List Int) : (writeHead k i zs).length ≤ 30 := by
  have := dec_len i
  have := vecText_len zs
  unfold writeHead
  split <;> simp <;> omega
theorem writeText_len (k i : Int) (zs : List Int) (s q : Int) : (writeText k i zs s q).length ≤ 60 := by
  have := dec_len s
  have := dec_len q
  have := writeHead_len k i zs
  unfold writeText
  split
  · simp [writeTail]; omega
  · simp

/-- Two texts, one behind the other. -/
theorem addS {a b c : Bytes} (h : a ++ b = c) (hl : c.length ≤ 1000) : ∀ W : World, (Op.stringOp .add ⟨a.toArray⟩ ⟨b.toArray⟩).run Tryz.prog W = .ok (.string ⟨c.toArray⟩) W := by
  intro W
  subst h
  simp at hl
  exact (run_string_add_sum W _ _ (by simp [ByteArray.size]; omega)).trans (by rw [str_app])

end Go.Proofs.YtjofcmdlcoganaaGreatDoor

namespace Go.Proofs.YtjofcmdlcoganaaGreatDoor
open Go.RowKit

set_option maxRecDepth 100000 in
set_option maxHeartbeats 2000000 in
theorem l1Text3 (b off cap : Nat) (x y z : Int) (w : World) (c0 : w.cell? ⟨b, off, none⟩ = some (.int .i64 x)) (c1 : w.cell? ⟨b, off + 1, none⟩ = some (.int .i64 y)) (c2 : w.cell? ⟨b, off + 2, none⟩ = some (.int .i64 z))
    (hx : -1000 ≤ x ∧ x ≤ 1000) (hy : -1000 ≤ y ∧ y ≤ 1000) (hz : -1000 ≤ z ∧ z ≤ 1000) :
    Calls Tryz.prog 42 #[.slice (some ⟨b, off, none⟩) 3 cap] w fun e w' => e = .returned (str (text3 x y z)) ∧ Below w.heap.size w w' := by
  have D0 := hide fun W => digits x W (by omega) (by omega)
  have D1 := hide fun W => digits y W (by omega) (by omega)
  have D2 := hide fun W => digits z W (by omega) (by omega)
  have HT : Hid (text3 x y z = dec x ++ 44 :: (dec y ++ 44 :: dec z)) := rfl
  have l0 := dec_len x
  have l1 := dec_len y
  have l2 := dec_len z
  simp only [str] at D0 D1 D2
  rw [HT.out]
  clear HT
  generalize dec x = a at *
  generalize dec y = d at *
  generalize dec z = f at *
  have s0 : ∀ W : World, (Op.stringOp .add ⟨#[]⟩ ⟨a.toArray⟩).run Tryz.prog W = .ok (.string ⟨a.toArray⟩) W := fun W => (run_string_add_sum W _ _ (by simp [ByteArray.size]; omega)).trans (by rw [show (⟨#[]⟩ : ByteArray) = ⟨([] : Bytes).toArray⟩ from rfl, str_app]; rfl)
  have s1 : ∀ W : World, (Op.stringOp .add ⟨a.toArray⟩ ⟨#[44]⟩).run Tryz.prog W = .ok (.string ⟨(a ++ [44]).toArray⟩) W := fun W => (run_string_add_sum W _ _ (by simp [ByteArray.size]; omega)).trans (by rw [show (⟨#[44]⟩ : ByteArray) = ⟨([44] : Bytes).toArray⟩ from rfl, str_app])
  have s2 : ∀ W : World, (Op.stringOp .add ⟨(a ++ [44]).toArray⟩ ⟨d.toArray⟩).run Tryz.prog W = .ok (.string ⟨(a ++ [44] ++ d).toArray⟩) W := fun W => (run_string_add_sum W _ _ (by simp [ByteArray.size]; omega)).trans (by rw [str_app])
  have s3 : ∀ W : World, (Op.stringOp .add ⟨(a ++ [44] ++ d).toArray⟩ ⟨#[44]⟩).run Tryz.prog W = .ok (.string ⟨(a ++ [44] ++ d ++ [44]).toArray⟩) W := fun W => (run_string_add_sum W _ _ (by simp [ByteArray.size]; omega)).trans (by rw [show (⟨#[44]⟩ : ByteArray) = ⟨([44] : Bytes).toArray⟩ from rfl, str_app])
  have s4 : ∀ W : World, (Op.stringOp .add ⟨(a ++ [44] ++ d ++ [44]).toArray⟩ ⟨f.toArray⟩).run Tryz.prog W = .ok (.string ⟨(a ++ [44] ++ d ++ [44] ++ f).toArray⟩) W := fun W => (run_string_add_sum W _ _ (by simp [ByteArray.size]; omega)).trans (by rw [str_app])
  have HE : Hid (a ++ [44] ++ d ++ [44] ++ f = a ++ 44 :: (d ++ 44 :: f)) := by simp [Hid]
  rw [← HE.out]
  clear HE
  generalize hp : a ++ [44] = p at *
  generalize hq : p ++ d = q at *
  generalize hr : q ++ [44] = r at *
  generalize ht : r ++ f = t at *
  clear hp hq hr ht
  simp only [str]
  go_enter Tryz.func42, Tryz.ntmps42
  go_wp2_with fail
  refine wp_loop_rounds 4 ?_
  rw [rounds_succ]
  go_wp2_with fail
  refine (unhide D0 _).mono ?_
  rintro e w1 ⟨rfl, hb1⟩
  have d1 := cell_keep hb1 c1
  have d2 := cell_keep hb1 c2
  have HB := hide hb1
  clear hb1
  go_wp2_with fail
  rw [rounds_succ]
  go_wp2_with fail
  refine (unhide D1 _).mono ?_
  rintro e w2 ⟨rfl, hb1⟩
  have e2 := cell_keep hb1 d2
  have HB2 := hide (below_keep (unhide HB) hb1)
  clear hb1 HB
  go_wp2_with fail
  rw [rounds_succ]
  go_wp2_with fail
  refine (unhide D2 _).mono ?_
  rintro e w3 ⟨rfl, hb1⟩
  have HB := hide (below_keep (unhide HB2) hb1)
  clear hb1 HB2
  go_wp2_with fail
  rw [rounds_succ]
  go_wp2_with fail
  go_ret
  exact ⟨rfl, unhide HB⟩

end Go.Proofs.YtjofcmdlcoganaaGreatDoor

namespace Go.Proofs.YtjofcmdlcoganaaGreatDoor
open Go.RowKit

theorem bcell {W w1 : World} (hb : Below W.heap.size W w1) : (∀ b o, b < W.heap.size → w1.cell? ⟨b, o, none⟩ = W.cell? ⟨b, o, none⟩) ∧ (∀ b o, b < W.heap.size → w1.frozen? ⟨b, o, none⟩ = W.frozen? ⟨b, o, none⟩) :=
  ⟨fun b o h => hb.cell (p := ⟨b, o, none⟩) h, fun b o h => hb.frozen (p := ⟨b, o, none⟩) h⟩

/-- Two blocks of three cells that were laid ahead of a call are there behind it, and may be written. -/
theorem two_kept {w w1 : World} {T : TypeId} {x0 x1 x2 y0 y1 y2 : Value} (hb : Below ((w.alloc (.cells #[x0, x1, x2] T)).alloc (.cells #[y0, y1, y2] T)).heap.size ((w.alloc (.cells #[x0, x1, x2] T)).alloc (.cells #[y0, y1, y2] T)) w1) :
    (w1.cell? ⟨w.heap.size, 0, none⟩ = some x0 ∧ w1.cell? ⟨w.heap.size, 1, none⟩ = some x1 ∧ w1.cell? ⟨w.heap.size, 2, none⟩ = some x2) ∧
    (w1.cell? ⟨w.heap.size + 1, 0, none⟩ = some y0 ∧ w1.cell? ⟨w.heap.size + 1, 1, none⟩ = some y1 ∧ w1.cell? ⟨w.heap.size + 1, 2, none⟩ = some y2) ∧
    (∀ o, w1.frozen? ⟨w.heap.size, o, none⟩ = false) ∧ (∀ o, w1.frozen? ⟨w.heap.size + 1, o, none⟩ = false) := by
  refine ⟨⟨?_, ?_, ?_⟩, ⟨?_, ?_, ?_⟩, fun o => ?_, fun o => ?_⟩
  all_goals first | rw [hb.cell (by simp [World.size_alloc]; try omega)] | rw [hb.frozen (by simp [World.size_alloc]; try omega)]
  all_goals simp [go_sem]

/-- Three numbers as an array. -/
def arr3 (x y z : Int) : Value := .agg #[.int .i64 x, .int .i64 y, .int .i64 z]

theorem IsInts.three {w : World} {v : Value} {zs : List Int} (h : IsInts w v zs) (h3 : zs.length = 3) :
    ∃ b off cap x y z, zs = [x, y, z] ∧ v = .slice (some ⟨b, off, none⟩) 3 cap ∧ b < w.heap.size ∧ w.cell? ⟨b, off, none⟩ = some (.int .i64 x) ∧ w.cell? ⟨b, off + 1, none⟩ = some (.int .i64 y) ∧ w.cell? ⟨b, off + 2, none⟩ = some (.int .i64 z) := by
  obtain ⟨ao, cap, rfl, hwf, hc⟩ := h
  match zs, h3 with
  | [x, y, z], _ =>
    obtain ⟨b, off, rfl, hc1⟩ := hc (by simp)
    have c0 := hc1 0 (by simp)
    have c1 := hc1 1 (by simp)
    have c2 := hc1 2 (by simp)
    exact ⟨b, off, cap, x, y, z, rfl, rfl, World.block_lt_of_cell? _ _ c0, by simpa using c0, by simpa using c1, by simpa using c2⟩

set_option maxHeartbeats 400000 in
theorem vectorOf_bad (v : Value) (zs : List Int) (w : World) (h : IsInts w v zs) (hf : vecFault zs ≠ 0) :
    Calls Tryz.prog 50 #[v] w fun e w' => e = .returned (.tuple #[arr3 0 0 0, .int .i64 (vecFault zs)]) ∧ Below w.heap.size w w' := by
  go_enter Tryz.func50, Tryz.ntmps50
  go_wp2_with fail
  refine (implFault v zs _ (h.later (((Below.refl _ _).alloc (Nat.le_refl _) _).alloc (by simp) _))).mono ?_
  rintro e w' ⟨rfl, rfl⟩
  have hne : (vecFault zs != 0) = true := by rw [bne_iff_ne]; exact hf
  go_wp2_with fail
  refine bodyPost_ret (v := .tuple #[arr3 0 0 0, .int .i64 (vecFault zs)]) (by simp [results, Tryz.results50, go_sem, arr3]) rfl ⟨rfl, ?_⟩
  exact ((Below.refl _ _).alloc (Nat.le_refl _) _).alloc (by simp) _

set_option maxHeartbeats 1000000 in
theorem vectorOf_three (b off cap : Nat) (x y z : Int) (w : World) (hbl : b < w.heap.size) (c0 : w.cell? ⟨b, off, none⟩ = some (.int .i64 x)) (c1 : w.cell? ⟨b, off + 1, none⟩ = some (.int .i64 y)) (c2 : w.cell? ⟨b, off + 2, none⟩ = some (.int .i64 z))
    (h : IsInts w (.slice (some ⟨b, off, none⟩) 3 cap) [x, y, z]) (hf : vecFault [x, y, z] = 0) :
    Calls Tryz.prog 50 #[.slice (some ⟨b, off, none⟩) 3 cap] w fun e w' => e = .returned (.tuple #[arr3 x y z, .int .i64 0]) ∧ Below w.heap.size w w' := by
  go_enter Tryz.func50, Tryz.ntmps50
  go_wp2_with fail
  refine (implFault _ [x, y, z] _ (h.later (((Below.refl _ _).alloc (Nat.le_refl _) _).alloc (by simp) _))).mono ?_
  rintro e w' ⟨rfl, rfl⟩
  rw [hf]
  clear h hf
  go_wp2_with fail
  refine wp_loop_rounds 4 ?_
  rw [rounds_succ]
  go_wp2
  rw [rounds_succ]
  go_wp2
  rw [rounds_succ]
  go_wp2
  rw [rounds_succ]
  go_wp2
  refine bodyPost_ret (v := .tuple #[arr3 x y z, .int .i64 0]) (by simp [results, Tryz.results50, go_sem, arr3]) rfl ⟨rfl, ?_⟩
  exact ((Below.refl _ _).alloc (Nat.le_refl _) _).alloc (by simp) _

theorem vectorOf_ok (v : Value) (x y z : Int) (w : World) (h : IsInts w v [x, y, z]) (hf : vecFault [x, y, z] = 0) :
    Calls Tryz.prog 50 #[v] w fun e w' => e = .returned (.tuple #[arr3 x y z, .int .i64 0]) ∧ Below w.heap.size w w' := by
  obtain ⟨b, off, cap, x', y', z', he, rfl, hbl, c0, c1, c2⟩ := h.three rfl
  simp only [List.cons.injEq, and_true] at he
  obtain ⟨rfl, rfl, rfl⟩ := he
  exact vectorOf_three b off cap x y z w hbl c0 c1 c2 h hf

end Go.Proofs.YtjofcmdlcoganaaGreatDoor

namespace Go.Proofs.YtjofcmdlcoganaaGreatDoor
open Go.RowKit

theorem fault3_zero {x y z : Int} (bx : -1000 ≤ x ∧ x ≤ 1000) (bY : -1000 ≤ y ∧ y ≤ 1000) (bz : -1000 ≤ z ∧ z ≤ 1000) : vecFault [x, y, z] = 0 := by
  refine vecFault_ok rfl fun j hj => ?_
  rcases j with _ | _ | _ | j
  · simp [partB, bx]
  · simp [partB, bY]
  · simp [partB, bz]
  · omega

set_option maxRecDepth 100000 in
set_option maxHeartbeats 4000000 in
theorem l3Text_put (b : Nat) (i s q : Int) (x y z : Int) (vb off cap : Nat) (w : World) (hc : WriteAt w b 1 i (.slice (some ⟨vb, off, none⟩) 3 cap) s q) (z0 : w.cell? ⟨vb, off, none⟩ = some (.int .i64 x)) (z1 : w.cell? ⟨vb, off + 1, none⟩ = some (.int .i64 y)) (z2 : w.cell? ⟨vb, off + 2, none⟩ = some (.int .i64 z)) (hi : 1 ≤ i ∧ i ≤ 999) (hs : 1 ≤ s ∧ s ≤ 9) (hq : 1 ≤ q ∧ q ≤ 999) (bx : -1000 ≤ x ∧ x ≤ 1000) (bY : -1000 ≤ y ∧ y ≤ 1000) (bz : -1000 ≤ z ∧ z ≤ 1000) :
    Calls Tryz.prog 20 #[.pointer (some ⟨b, 0, none⟩)] w fun e w' => e = .returned (str (writeTail s q (writeHead 1 i [x, y, z]))) ∧ Below w.heap.size w w' := by
  obtain ⟨c0, c1, c2, c3, c4⟩ := hc
  have hbl : b < w.heap.size := World.block_lt_of_cell? _ _ c0
  have l0 := dec_len i
  have l1 := dec_len s
  have l2 := dec_len q
  have l3 := text3_len x y z
  have HT : Hid (writeHead 1 i [x, y, z] = [112, 117, 116, 32] ++ dec i ++ [32] ++ text3 x y z) := by
    show writeHead 1 i [x, y, z] = [112, 117, 116, 32] ++ dec i ++ [32] ++ text3 x y z
    rw [writeHead, if_pos rfl, vecText, if_pos (fault3_zero bx bY bz)]
    rfl
  have DI : Hid (∀ W, Calls Tryz.prog 41 #[.int .i64 i] W fun e w' => e = .returned (str (dec i)) ∧ Below W.heap.size W w') := fun W => digits i W (by omega) (by omega)
  have DS : Hid (∀ W, Calls Tryz.prog 41 #[.int .i64 s] W fun e w' => e = .returned (str (dec s)) ∧ Below W.heap.size W w') := fun W => digits s W (by omega) (by omega)
  have DQ : Hid (∀ W, Calls Tryz.prog 41 #[.int .i64 q] W fun e w' => e = .returned (str (dec q)) ∧ Below W.heap.size W w') := fun W => digits q W (by omega) (by omega)
  have DV : Hid (∀ W, Below w.heap.size w W → Calls Tryz.prog 42 #[.slice (some ⟨vb, off, none⟩) 3 cap] W fun e w' => e = .returned (str (text3 x y z)) ∧ Below W.heap.size W w') := fun W hW => l1Text3 vb off cap x y z W (cell_keep hW z0) (cell_keep hW z1) (cell_keep hW z2) bx bY bz
  simp only [str] at DI DS DQ DV
  rw [unhide HT]
  unfold writeTail
  clear HT z0 z1 z2 bx bY bz
  generalize dec i = di at *
  generalize dec s = ds at *
  generalize dec q = dq at *
  generalize text3 x y z = vt at *
  obtain ⟨e1, he1⟩ : ∃ e1, [100, 114, 111, 112, 32] ++ di = e1 := ⟨_, rfl⟩
  have s1 := addS he1 (by rw [← he1]; simp; omega)
  obtain ⟨p1, hp1⟩ : ∃ p1, [112, 117, 116, 32] ++ di = p1 := ⟨_, rfl⟩
  have s2 := addS hp1 (by rw [← hp1]; simp; omega)
  obtain ⟨p2, hp2⟩ : ∃ p2, p1 ++ [32] = p2 := ⟨_, rfl⟩
  have s3 := addS hp2 (by rw [← hp2, ← hp1]; simp; omega)
  obtain ⟨p3, hp3⟩ : ∃ p3, p2 ++ vt = p3 := ⟨_, rfl⟩
  have s4 := addS hp3 (by rw [← hp3, ← hp2, ← hp1]; simp; omega)
  rw [hp1, hp2, hp3]
  obtain ⟨p4, hp4⟩ : ∃ p4, p3 ++ [32, 98, 121, 32] = p4 := ⟨_, rfl⟩
  have s5 := addS hp4 (by rw [← hp4, ← hp3, ← hp2, ← hp1]; simp; omega)
  obtain ⟨p5, hp5⟩ : ∃ p5, p4 ++ ds = p5 := ⟨_, rfl⟩
  have s6 := addS hp5 (by rw [← hp5, ← hp4, ← hp3, ← hp2, ← hp1]; simp; omega)
  obtain ⟨p6, hp6⟩ : ∃ p6, p5 ++ [32] = p6 := ⟨_, rfl⟩
  have s7 := addS hp6 (by rw [← hp6, ← hp5, ← hp4, ← hp3, ← hp2, ← hp1]; simp; omega)
  obtain ⟨p7, hp7⟩ : ∃ p7, p6 ++ dq = p7 := ⟨_, rfl⟩
  have s8 := addS hp7 (by rw [← hp7, ← hp6, ← hp5, ← hp4, ← hp3, ← hp2, ← hp1]; simp; omega)
  rw [hp4, hp5, hp6, hp7]
  clear hp4 hp5 hp6 hp7 he1 hp1 hp2 hp3 l0 l1 l2 l3
  simp only [str]
  go_enter Tryz.func20, Tryz.ntmps20
  go_wp2_with fail
  refine (unhide DI _).mono ?_
  rintro e w1 ⟨rfl, hb1⟩
  have HB := hide hb1
  have k0 := cell_keep hb1 c0
  clear hb1
  go_wp2_with fail
  refine wp_region_noPanic ?_
  refine wp_region_held_drew (S := fun w' => Below w.heap.size w w') (by kernel_rfl) (unhide HB).drew (fun hHeld => ?_)
  generalize w1.drew = wD at hHeld ⊢
  refine wpAnyH_take (i := 0) (oi := { dst := some 15, op := Go.Op.move (Go.Operand.tmp 0), type := 48, pos := "l03_write.go:66", after := #[], guard := none }) (v := ?v0) rfl (by kernel_rfl) (by kernel_rfl) (by kernel_rfl) (fun _ _ _ h => h) (Or.inl ⟨by rfl, ?h0⟩) hHeld ?r0
  case h0 =>
    intro wS hSw
    (try dsimp only at hSw)
    go_simp
    try with_reducible rfl
  case r0 =>
  simp only [Act.put, List.setIfInBounds_toArray, List.set_cons_zero, List.set_cons_succ]
  refine wpAnyH_take (i := 1) (oi := { dst := some 16, op := Go.Op.nilCheck (Go.Operand.tmp 15), type := 0, pos := "l03_write.go:66", after := #[{ on := 0, ground := Go.Ground.data }], guard := none }) (v := ?v1) rfl (by kernel_rfl) (by kernel_rfl) (by kernel_rfl) (fun _ _ _ h => h) (Or.inl ⟨by rfl, ?h1⟩) hHeld ?r1
  case h1 =>
    intro wS hSw
    (try dsimp only at hSw)
    go_simp
    try with_reducible rfl
  case r1 =>
  simp only [Act.put, List.setIfInBounds_toArray, List.set_cons_zero, List.set_cons_succ]
  refine wpAnyH_take (i := 2) (oi := { dst := some 17, op := Go.Op.fieldAddr 27 (Go.Operand.tmp 16) 1, type := 0, pos := "l03_write.go:66", after := #[{ on := 1, ground := Go.Ground.data }], guard := none }) (v := ?v2) rfl (by kernel_rfl) (by kernel_rfl) (by kernel_rfl) (fun _ _ _ h => h) (Or.inl ⟨by rfl, ?h2⟩) hHeld ?r2
  case h2 =>
    intro wS hSw
    (try dsimp only at hSw)
    go_simp
    try with_reducible rfl
  case r2 =>
  simp only [Act.put, List.setIfInBounds_toArray, List.set_cons_zero, List.set_cons_succ]
  refine wpAnyH_take (i := 3) (oi := { dst := some 18, op := Go.Op.load 2 (Go.Operand.tmp 17), type := 2, pos := "l03_write.go:66", after := #[{ on := 2, ground := Go.Ground.data }], guard := none }) (v := ?v3) rfl (by kernel_rfl) (by kernel_rfl) (by kernel_rfl) (fun _ _ _ h => h) (Or.inl ⟨by rfl, ?h3⟩) hHeld ?r3
  case h3 =>
    intro wS hSw
    have y0 := (hSw.cell (p := ⟨b, 0, none⟩) hbl).trans c0
    have y1 := (hSw.cell (p := ⟨b, 1, none⟩) hbl).trans c1
    have y2 := (hSw.cell (p := ⟨b, 2, none⟩) hbl).trans c2
    have y3 := (hSw.cell (p := ⟨b, 3, none⟩) hbl).trans c3
    have y4 := (hSw.cell (p := ⟨b, 4, none⟩) hbl).trans c4
    clear hSw
    (try dsimp only at hSw)
    go_simp
    try with_reducible rfl
  case r3 =>
  simp only [Act.put, List.setIfInBounds_toArray, List.set_cons_zero, List.set_cons_succ]
  refine wpAnyH_take (i := 7) (oi := { dst := some 22, op := Go.Op.move (Go.Operand.tmp 0), type := 48, pos := "l03_write.go:66", after := #[], guard := none }) (v := ?v7) rfl (by kernel_rfl) (by kernel_rfl) (by kernel_rfl) (fun _ _ _ h => h) (Or.inl ⟨by rfl, ?h7⟩) hHeld ?r7
  case h7 =>
    intro wS hSw
    (try dsimp only at hSw)
    go_simp
    try with_reducible rfl
  case r7 =>
  simp only [Act.put, List.setIfInBounds_toArray, List.set_cons_zero, List.set_cons_succ]
  refine wpAnyH_take (i := 8) (oi := { dst := some 23, op := Go.Op.nilCheck (Go.Operand.tmp 22), type := 0, pos := "l03_write.go:66", after := #[{ on := 7, ground := Go.Ground.data }], guard := none }) (v := ?v8) rfl (by kernel_rfl) (by kernel_rfl) (by kernel_rfl) (fun _ _ _ h => h) (Or.inl ⟨by rfl, ?h8⟩) hHeld ?r8
  case h8 =>
    intro wS hSw
    (try dsimp only at hSw)
    go_simp
    try with_reducible rfl
  case r8 =>
  simp only [Act.put, List.setIfInBounds_toArray, List.set_cons_zero, List.set_cons_succ]
  refine wpAnyH_take (i := 9) (oi := { dst := some 24, op := Go.Op.fieldAddr 27 (Go.Operand.tmp 23) 2, type := 0, pos := "l03_write.go:66", after := #[{ on := 8, ground := Go.Ground.data }], guard := none }) (v := ?v9) rfl (by kernel_rfl) (by kernel_rfl) (by kernel_rfl) (fun _ _ _ h => h) (Or.inl ⟨by rfl, ?h9⟩) hHeld ?r9
  case h9 =>
    intro wS hSw
    (try dsimp only at hSw)
    go_simp
    try with_reducible rfl
  case r9 =>
  simp only [Act.put, List.setIfInBounds_toArray, List.set_cons_zero, List.set_cons_succ]
  refine wpAnyH_take (i := 10) (oi := { dst := some 25, op := Go.Op.load 25 (Go.Operand.tmp 24), type := 25, pos := "l03_write.go:66", after := #[{ on := 9, ground := Go.Ground.data }], guard := none }) (v := ?v10) rfl (by kernel_rfl) (by kernel_rfl) (by kernel_rfl) (fun _ _ _ h => h) (Or.inl ⟨by rfl, ?h10⟩) hHeld ?r10
  case h10 =>
    intro wS hSw
    have y0 := (hSw.cell (p := ⟨b, 0, none⟩) hbl).trans c0
    have y1 := (hSw.cell (p := ⟨b, 1, none⟩) hbl).trans c1
    have y2 := (hSw.cell (p := ⟨b, 2, none⟩) hbl).trans c2
    have y3 := (hSw.cell (p := ⟨b, 3, none⟩) hbl).trans c3
    have y4 := (hSw.cell (p := ⟨b, 4, none⟩) hbl).trans c4
    clear hSw
    (try dsimp only at hSw)
    go_simp
    try with_reducible rfl
  case r10 =>
  simp only [Act.put, List.setIfInBounds_toArray, List.set_cons_zero, List.set_cons_succ]
  refine wpAnyH_ready (rs := [4]) (by kernel_rfl) (by simp) ?_
  refine AllReadyH.cons (o := { dst := some 19, op := Go.Op.call { callee := Go.Callee.value (Go.Operand.func 41), args := #[Go.Operand.tmp 18], argTypes := #[2] }, type := 9, pos := "l03_write.go:66", after := #[{ on := 3, ground := Go.Ground.data }], guard := none }) rfl (fun K hK => ?_) AllReadyH.nil
  go_simp
  go_at_call 41
  refine (unhide DI _).mono ?_
  rintro e w2 ⟨rfl, hbw⟩
  try go_wp2_with fail
  refine hK.out _ _ (hHeld.trans (hbw.mono hHeld.size)) (fun hHeld => ?_)
  clear hK K
  try simp only [Act.put, List.setIfInBounds_toArray, List.set_cons_zero, List.set_cons_succ]
  refine wpAnyH_take (i := 5) (oi := { dst := some 20, op := Go.Op.binOp Go.BinOp.add 9 (Go.Operand.const (Go.Value.string { data := #[112, 117, 116, 32] })) (Go.Operand.tmp 19) 9, type := 9, pos := "l03_write.go:66", after := #[{ on := 4, ground := Go.Ground.data }], guard := none }) (v := ?v5) rfl (by kernel_rfl) (by kernel_rfl) (by kernel_rfl) (fun _ _ _ h => h) (Or.inl ⟨by rfl, ?h5⟩) hHeld ?r5
  case h5 =>
    intro wS hSw
    (try dsimp only at hSw)
    go_simp
    try with_reducible rfl
  case r5 =>
  simp only [Act.put, List.setIfInBounds_toArray, List.set_cons_zero, List.set_cons_succ]
  refine wpAnyH_take (i := 6) (oi := { dst := some 21, op := Go.Op.binOp Go.BinOp.add 9 (Go.Operand.tmp 20) (Go.Operand.const (Go.Value.string { data := #[32] })) 9, type := 9, pos := "l03_write.go:66", after := #[{ on := 5, ground := Go.Ground.data }], guard := none }) (v := ?v6) rfl (by kernel_rfl) (by kernel_rfl) (by kernel_rfl) (fun _ _ _ h => h) (Or.inl ⟨by rfl, ?h6⟩) hHeld ?r6
  case h6 =>
    intro wS hSw
    (try dsimp only at hSw)
    go_simp
    try with_reducible rfl
  case r6 =>
  simp only [Act.put, List.setIfInBounds_toArray, List.set_cons_zero, List.set_cons_succ]
  refine wpAnyH_ready (rs := [11]) (by kernel_rfl) (by simp) ?_
  refine AllReadyH.cons (o := { dst := some 26, op := Go.Op.call { callee := Go.Callee.value (Go.Operand.func 42), args := #[Go.Operand.tmp 25], argTypes := #[25] }, type := 9, pos := "l03_write.go:66", after := #[{ on := 10, ground := Go.Ground.data }, { on := 4, ground := Go.Ground.chain }], guard := none }) rfl (fun K hK => ?_) AllReadyH.nil
  go_simp
  go_at_call 42
  refine (unhide DV _ hHeld).mono ?_
  rintro e w3 ⟨rfl, hbw⟩
  try go_wp2_with fail
  refine hK.out _ _ (hHeld.trans (hbw.mono hHeld.size)) (fun hHeld => ?_)
  clear hK K
  try simp only [Act.put, List.setIfInBounds_toArray, List.set_cons_zero, List.set_cons_succ]
  refine wpAnyH_take (i := 12) (oi := { dst := some 27, op := Go.Op.binOp Go.BinOp.add 9 (Go.Operand.tmp 21) (Go.Operand.tmp 26) 9, type := 9, pos := "l03_write.go:66", after := #[{ on := 6, ground := Go.Ground.data }, { on := 11, ground := Go.Ground.data }], guard := none }) (v := ?v12) rfl (by kernel_rfl) (by kernel_rfl) (by kernel_rfl) (fun _ _ _ h => h) (Or.inl ⟨by rfl, ?h12⟩) hHeld ?r12
  case h12 =>
    intro wS hSw
    (try dsimp only at hSw)
    go_simp
    try with_reducible rfl
  case r12 =>
  simp only [Act.put, List.setIfInBounds_toArray, List.set_cons_zero, List.set_cons_succ]
  refine wpAnyH_take (i := 13) (oi := { dst := some 3, op := Go.Op.assign (Go.Operand.tmp 27), type := 9, pos := "l03_write.go:66", after := #[{ on := 12, ground := Go.Ground.data }, { on := 11, ground := Go.Ground.chain }, { on := 0, ground := Go.Ground.phase }, { on := 1, ground := Go.Ground.phase }, { on := 2, ground := Go.Ground.phase }, { on := 3, ground := Go.Ground.phase }, { on := 4, ground := Go.Ground.phase }, { on := 5, ground := Go.Ground.phase }, { on := 6, ground := Go.Ground.phase }, { on := 7, ground := Go.Ground.phase }, { on := 8, ground := Go.Ground.phase }, { on := 9, ground := Go.Ground.phase }, { on := 10, ground := Go.Ground.phase }, { on := 11, ground := Go.Ground.phase }, { on := 12, ground := Go.Ground.phase }], guard := none }) (v := ?v13) rfl (by kernel_rfl) (by kernel_rfl) (by kernel_rfl) (fun _ _ _ h => h) (Or.inl ⟨by rfl, ?h13⟩) hHeld ?r13
  case h13 =>
    intro wS hSw
    (try dsimp only at hSw)
    go_simp
    try with_reducible rfl
  case r13 =>
  simp only [Act.put, List.setIfInBounds_toArray, List.set_cons_zero, List.set_cons_succ]
  refine wpAnyH_done (by kernel_rfl) ?_ _
  refine NoPanic.normal ?_
  have HB2 := hide hHeld
  clear hHeld HB k0
  go_wp2_with fail
  refine wp_region_noPanic ?_
  refine wp_region_held_drew (S := fun w' => Below w.heap.size w w') (by kernel_rfl) (unhide HB2).drew (fun hHeld => ?_)
  generalize w3.drew = wF at hHeld ⊢
  refine wpAnyH_take (i := 0) (oi := { dst := some 28, op := Go.Op.move (Go.Operand.tmp 3), type := 9, pos := "l03_write.go:68", after := #[], guard := none }) (v := ?vb0) rfl (by kernel_rfl) (by kernel_rfl) (by kernel_rfl) (fun _ _ _ h => h) (Or.inl ⟨by rfl, ?hb0⟩) hHeld ?rb0
  case hb0 =>
    intro wS hSw
    (try dsimp only at hSw)
    go_simp
    try with_reducible rfl
  case rb0 =>
  simp only [Act.put, List.setIfInBounds_toArray, List.set_cons_zero, List.set_cons_succ]
  refine wpAnyH_take (i := 1) (oi := { dst := some 29, op := Go.Op.binOp Go.BinOp.add 9 (Go.Operand.tmp 28) (Go.Operand.const (Go.Value.string { data := #[32, 98, 121, 32] })) 9, type := 9, pos := "l03_write.go:68", after := #[{ on := 0, ground := Go.Ground.data }], guard := none }) (v := ?vb1) rfl (by kernel_rfl) (by kernel_rfl) (by kernel_rfl) (fun _ _ _ h => h) (Or.inl ⟨by rfl, ?hb1⟩) hHeld ?rb1
  case hb1 =>
    intro wS hSw
    (try dsimp only at hSw)
    go_simp
    try with_reducible rfl
  case rb1 =>
  simp only [Act.put, List.setIfInBounds_toArray, List.set_cons_zero, List.set_cons_succ]
  refine wpAnyH_take (i := 2) (oi := { dst := some 30, op := Go.Op.move (Go.Operand.tmp 0), type := 48, pos := "l03_write.go:68", after := #[], guard := none }) (v := ?vb2) rfl (by kernel_rfl) (by kernel_rfl) (by kernel_rfl) (fun _ _ _ h => h) (Or.inl ⟨by rfl, ?hb2⟩) hHeld ?rb2
  case hb2 =>
    intro wS hSw
    (try dsimp only at hSw)
    go_simp
    try with_reducible rfl
  case rb2 =>
  simp only [Act.put, List.setIfInBounds_toArray, List.set_cons_zero, List.set_cons_succ]
  refine wpAnyH_take (i := 3) (oi := { dst := some 31, op := Go.Op.nilCheck (Go.Operand.tmp 30), type := 0, pos := "l03_write.go:68", after := #[{ on := 2, ground := Go.Ground.data }], guard := none }) (v := ?vb3) rfl (by kernel_rfl) (by kernel_rfl) (by kernel_rfl) (fun _ _ _ h => h) (Or.inl ⟨by rfl, ?hb3⟩) hHeld ?rb3
  case hb3 =>
    intro wS hSw
    (try dsimp only at hSw)
    go_simp
    try with_reducible rfl
  case rb3 =>
  simp only [Act.put, List.setIfInBounds_toArray, List.set_cons_zero, List.set_cons_succ]
  refine wpAnyH_take (i := 4) (oi := { dst := some 32, op := Go.Op.fieldAddr 27 (Go.Operand.tmp 31) 3, type := 0, pos := "l03_write.go:68", after := #[{ on := 3, ground := Go.Ground.data }], guard := none }) (v := ?vb4) rfl (by kernel_rfl) (by kernel_rfl) (by kernel_rfl) (fun _ _ _ h => h) (Or.inl ⟨by rfl, ?hb4⟩) hHeld ?rb4
  case hb4 =>
    intro wS hSw
    (try dsimp only at hSw)
    go_simp
    try with_reducible rfl
  case rb4 =>
  simp only [Act.put, List.setIfInBounds_toArray, List.set_cons_zero, List.set_cons_succ]
  refine wpAnyH_take (i := 5) (oi := { dst := some 33, op := Go.Op.load 2 (Go.Operand.tmp 32), type := 2, pos := "l03_write.go:68", after := #[{ on := 4, ground := Go.Ground.data }], guard := none }) (v := ?vb5) rfl (by kernel_rfl) (by kernel_rfl) (by kernel_rfl) (fun _ _ _ h => h) (Or.inl ⟨by rfl, ?hb5⟩) hHeld ?rb5
  case hb5 =>
    intro wS hSw
    have y0 := (hSw.cell (p := ⟨b, 0, none⟩) hbl).trans c0
    have y1 := (hSw.cell (p := ⟨b, 1, none⟩) hbl).trans c1
    have y2 := (hSw.cell (p := ⟨b, 2, none⟩) hbl).trans c2
    have y3 := (hSw.cell (p := ⟨b, 3, none⟩) hbl).trans c3
    have y4 := (hSw.cell (p := ⟨b, 4, none⟩) hbl).trans c4
    clear hSw
    (try dsimp only at hSw)
    go_simp
    try with_reducible rfl
  case rb5 =>
  simp only [Act.put, List.setIfInBounds_toArray, List.set_cons_zero, List.set_cons_succ]
  refine wpAnyH_take (i := 9) (oi := { dst := some 37, op := Go.Op.move (Go.Operand.tmp 0), type := 48, pos := "l03_write.go:68", after := #[], guard := none }) (v := ?vb9) rfl (by kernel_rfl) (by kernel_rfl) (by kernel_rfl) (fun _ _ _ h => h) (Or.inl ⟨by rfl, ?hb9⟩) hHeld ?rb9
  case hb9 =>
    intro wS hSw
    (try dsimp only at hSw)
    go_simp
    try with_reducible rfl
  case rb9 =>
  simp only [Act.put, List.setIfInBounds_toArray, List.set_cons_zero, List.set_cons_succ]
  refine wpAnyH_take (i := 10) (oi := { dst := some 38, op := Go.Op.nilCheck (Go.Operand.tmp 37), type := 0, pos := "l03_write.go:68", after := #[{ on := 9, ground := Go.Ground.data }], guard := none }) (v := ?vb10) rfl (by kernel_rfl) (by kernel_rfl) (by kernel_rfl) (fun _ _ _ h => h) (Or.inl ⟨by rfl, ?hb10⟩) hHeld ?rb10
  case hb10 =>
    intro wS hSw
    (try dsimp only at hSw)
    go_simp
    try with_reducible rfl
  case rb10 =>
  simp only [Act.put, List.setIfInBounds_toArray, List.set_cons_zero, List.set_cons_succ]
  refine wpAnyH_take (i := 11) (oi := { dst := some 39, op := Go.Op.fieldAddr 27 (Go.Operand.tmp 38) 4, type := 0, pos := "l03_write.go:68", after := #[{ on := 10, ground := Go.Ground.data }], guard := none }) (v := ?vb11) rfl (by kernel_rfl) (by kernel_rfl) (by kernel_rfl) (fun _ _ _ h => h) (Or.inl ⟨by rfl, ?hb11⟩) hHeld ?rb11
  case hb11 =>
    intro wS hSw
    (try dsimp only at hSw)
    go_simp
    try with_reducible rfl
  case rb11 =>
  simp only [Act.put, List.setIfInBounds_toArray, List.set_cons_zero, List.set_cons_succ]
  refine wpAnyH_take (i := 12) (oi := { dst := some 40, op := Go.Op.load 2 (Go.Operand.tmp 39), type := 2, pos := "l03_write.go:68", after := #[{ on := 11, ground := Go.Ground.data }], guard := none }) (v := ?vb12) rfl (by kernel_rfl) (by kernel_rfl) (by kernel_rfl) (fun _ _ _ h => h) (Or.inl ⟨by rfl, ?hb12⟩) hHeld ?rb12
  case hb12 =>
    intro wS hSw
    have y0 := (hSw.cell (p := ⟨b, 0, none⟩) hbl).trans c0
    have y1 := (hSw.cell (p := ⟨b, 1, none⟩) hbl).trans c1
    have y2 := (hSw.cell (p := ⟨b, 2, none⟩) hbl).trans c2
    have y3 := (hSw.cell (p := ⟨b, 3, none⟩) hbl).trans c3
    have y4 := (hSw.cell (p := ⟨b, 4, none⟩) hbl).trans c4
    clear hSw
    (try dsimp only at hSw)
    go_simp
    try with_reducible rfl
  case rb12 =>
  simp only [Act.put, List.setIfInBounds_toArray, List.set_cons_zero, List.set_cons_succ]
  refine wpAnyH_ready (rs := [6]) (by kernel_rfl) (by simp) ?_
  refine AllReadyH.cons (o := { dst := some 34, op := Go.Op.call { callee := Go.Callee.value (Go.Operand.func 41), args := #[Go.Operand.tmp 33], argTypes := #[2] }, type := 9, pos := "l03_write.go:68", after := #[{ on := 5, ground := Go.Ground.data }], guard := none }) rfl (fun K hK => ?_) AllReadyH.nil
  go_simp
  go_at_call 41
  refine (unhide DS _).mono ?_
  rintro e w4 ⟨rfl, hbw⟩
  try go_wp2_with fail
  refine hK.out _ _ (hHeld.trans (hbw.mono hHeld.size)) (fun hHeld => ?_)
  clear hK K
  try simp only [Act.put, List.setIfInBounds_toArray, List.set_cons_zero, List.set_cons_succ]
  refine wpAnyH_take (i := 7) (oi := { dst := some 35, op := Go.Op.binOp Go.BinOp.add 9 (Go.Operand.tmp 29) (Go.Operand.tmp 34) 9, type := 9, pos := "l03_write.go:68", after := #[{ on := 1, ground := Go.Ground.data }, { on := 6, ground := Go.Ground.data }], guard := none }) (v := ?vb7) rfl (by kernel_rfl) (by kernel_rfl) (by kernel_rfl) (fun _ _ _ h => h) (Or.inl ⟨by rfl, ?hb7⟩) hHeld ?rb7
  case hb7 =>
    intro wS hSw
    (try dsimp only at hSw)
    go_simp
    try with_reducible rfl
  case rb7 =>
  simp only [Act.put, List.setIfInBounds_toArray, List.set_cons_zero, List.set_cons_succ]
  refine wpAnyH_take (i := 8) (oi := { dst := some 36, op := Go.Op.binOp Go.BinOp.add 9 (Go.Operand.tmp 35) (Go.Operand.const (Go.Value.string { data := #[32] })) 9, type := 9, pos := "l03_write.go:68", after := #[{ on := 7, ground := Go.Ground.data }], guard := none }) (v := ?vb8) rfl (by kernel_rfl) (by kernel_rfl) (by kernel_rfl) (fun _ _ _ h => h) (Or.inl ⟨by rfl, ?hb8⟩) hHeld ?rb8
  case hb8 =>
    intro wS hSw
    (try dsimp only at hSw)
    go_simp
    try with_reducible rfl
  case rb8 =>
  simp only [Act.put, List.setIfInBounds_toArray, List.set_cons_zero, List.set_cons_succ]
  refine wpAnyH_ready (rs := [13]) (by kernel_rfl) (by simp) ?_
  refine AllReadyH.cons (o := { dst := some 41, op := Go.Op.call { callee := Go.Callee.value (Go.Operand.func 41), args := #[Go.Operand.tmp 40], argTypes := #[2] }, type := 9, pos := "l03_write.go:68", after := #[{ on := 12, ground := Go.Ground.data }, { on := 6, ground := Go.Ground.chain }], guard := none }) rfl (fun K hK => ?_) AllReadyH.nil
  go_simp
  go_at_call 41
  refine (unhide DQ _).mono ?_
  rintro e w5 ⟨rfl, hbw⟩
  try go_wp2_with fail
  refine hK.out _ _ (hHeld.trans (hbw.mono hHeld.size)) (fun hHeld => ?_)
  clear hK K
  try simp only [Act.put, List.setIfInBounds_toArray, List.set_cons_zero, List.set_cons_succ]
  refine wpAnyH_take (i := 14) (oi := { dst := some 42, op := Go.Op.binOp Go.BinOp.add 9 (Go.Operand.tmp 36) (Go.Operand.tmp 41) 9, type := 9, pos := "l03_write.go:68", after := #[{ on := 8, ground := Go.Ground.data }, { on := 13, ground := Go.Ground.data }], guard := none }) (v := ?vb14) rfl (by kernel_rfl) (by kernel_rfl) (by kernel_rfl) (fun _ _ _ h => h) (Or.inl ⟨by rfl, ?hb14⟩) hHeld ?rb14
  case hb14 =>
    intro wS hSw
    (try dsimp only at hSw)
    go_simp
    try with_reducible rfl
  case rb14 =>
  simp only [Act.put, List.setIfInBounds_toArray, List.set_cons_zero, List.set_cons_succ]
  refine wpAnyH_take (i := 15) (oi := { dst := some 2, op := Go.Op.assign (Go.Operand.tmp 42), type := 9, pos := "l03_write.go:68", after := #[{ on := 14, ground := Go.Ground.data }, { on := 13, ground := Go.Ground.chain }, { on := 0, ground := Go.Ground.phase }, { on := 1, ground := Go.Ground.phase }, { on := 2, ground := Go.Ground.phase }, { on := 3, ground := Go.Ground.phase }, { on := 4, ground := Go.Ground.phase }, { on := 5, ground := Go.Ground.phase }, { on := 6, ground := Go.Ground.phase }, { on := 7, ground := Go.Ground.phase }, { on := 8, ground := Go.Ground.phase }, { on := 9, ground := Go.Ground.phase }, { on := 10, ground := Go.Ground.phase }, { on := 11, ground := Go.Ground.phase }, { on := 12, ground := Go.Ground.phase }, { on := 13, ground := Go.Ground.phase }, { on := 14, ground := Go.Ground.phase }], guard := none }) (v := ?vb15) rfl (by kernel_rfl) (by kernel_rfl) (by kernel_rfl) (fun _ _ _ h => h) (Or.inl ⟨by rfl, ?hb15⟩) hHeld ?rb15
  case hb15 =>
    intro wS hSw
    (try dsimp only at hSw)
    go_simp
    try with_reducible rfl
  case rb15 =>
  simp only [Act.put, List.setIfInBounds_toArray, List.set_cons_zero, List.set_cons_succ]
  refine wpAnyH_done (by kernel_rfl) ?_ _
  refine NoPanic.normal ?_
  have HB9 := hide hHeld
  clear hHeld
  go_wp2_with fail
  go_ret
  exact ⟨rfl, unhide HB9⟩

set_option maxRecDepth 100000 in
set_option maxHeartbeats 4000000 in
theorem l3Text_drop (b : Nat) (i s q : Int) (v : Value) (w : World) (hc : WriteAt w b 2 i v s q) (hi : 1 ≤ i ∧ i ≤ 999) (hs : 1 ≤ s ∧ s ≤ 9) (hq : 1 ≤ q ∧ q ≤ 999) :
    Calls Tryz.prog 20 #[.pointer (some ⟨b, 0, none⟩)] w fun e w' => e = .returned (str (writeTail s q (writeHead 2 i []))) ∧ Below w.heap.size w w' := by
  obtain ⟨c0, c1, c2, c3, c4⟩ := hc
  have hbl : b < w.heap.size := World.block_lt_of_cell? _ _ c0
  have l0 := dec_len i
  have l1 := dec_len s
  have l2 := dec_len q
  have HT : Hid (writeHead 2 i [] = [100, 114, 111, 112, 32] ++ dec i) := rfl
  have DI : Hid (∀ W, Calls Tryz.prog 41 #[.int .i64 i] W fun e w' => e = .returned (str (dec i)) ∧ Below W.heap.size W w') := fun W => digits i W (by omega) (by omega)
  have DS : Hid (∀ W, Calls Tryz.prog 41 #[.int .i64 s] W fun e w' => e = .returned (str (dec s)) ∧ Below W.heap.size W w') := fun W => digits s W (by omega) (by omega)
  have DQ : Hid (∀ W, Calls Tryz.prog 41 #[.int .i64 q] W fun e w' => e = .returned (str (dec q)) ∧ Below W.heap.size W w') := fun W => digits q W (by omega) (by omega)
  simp only [str] at DI DS DQ
  rw [unhide HT]
  unfold writeTail
  clear HT
  generalize dec i = di at *
  generalize dec s = ds at *
  generalize dec q = dq at *
  obtain ⟨e1, he1⟩ : ∃ e1, [100, 114, 111, 112, 32] ++ di = e1 := ⟨_, rfl⟩
  have s1 := addS he1 (by rw [← he1]; simp; omega)
  rw [he1]
  obtain ⟨p4, hp4⟩ : ∃ p4, e1 ++ [32, 98, 121, 32] = p4 := ⟨_, rfl⟩
  have s5 := addS hp4 (by rw [← hp4, ← he1]; simp; omega)
  obtain ⟨p5, hp5⟩ : ∃ p5, p4 ++ ds = p5 := ⟨_, rfl⟩
  have s6 := addS hp5 (by rw [← hp5, ← hp4, ← he1]; simp; omega)
  obtain ⟨p6, hp6⟩ : ∃ p6, p5 ++ [32] = p6 := ⟨_, rfl⟩
  have s7 := addS hp6 (by rw [← hp6, ← hp5, ← hp4, ← he1]; simp; omega)
  obtain ⟨p7, hp7⟩ : ∃ p7, p6 ++ dq = p7 := ⟨_, rfl⟩
  have s8 := addS hp7 (by rw [← hp7, ← hp6, ← hp5, ← hp4, ← he1]; simp; omega)
  rw [hp4, hp5, hp6, hp7]
  clear hp4 hp5 hp6 hp7 he1 l0 l1 l2
  simp only [str]
  go_enter Tryz.func20, Tryz.ntmps20
  go_wp2_with fail
  refine (unhide DI _).mono ?_
  rintro e w1 ⟨rfl, hb1⟩
  have HB := hide hb1
  have k0 := cell_keep hb1 c0
  clear hb1
  go_wp2_with fail
  refine wp_region_noPanic ?_
  refine wp_region_held_drew (S := fun w' => Below w.heap.size w w') (by kernel_rfl) (unhide HB).drew (fun hHeld => ?_)
  generalize w1.drew = wF at hHeld ⊢
  refine wpAnyH_take (i := 0) (oi := { dst := some 28, op := Go.Op.move (Go.Operand.tmp 3), type := 9, pos := "l03_write.go:68", after := #[], guard := none }) (v := ?vb0) rfl (by kernel_rfl) (by kernel_rfl) (by kernel_rfl) (fun _ _ _ h => h) (Or.inl ⟨by rfl, ?hb0⟩) hHeld ?rb0
  case hb0 =>
    intro wS hSw
    (try dsimp only at hSw)
    go_simp
    try with_reducible rfl
  case rb0 =>
  simp only [Act.put, List.setIfInBounds_toArray, List.set_cons_zero, List.set_cons_succ]
  refine wpAnyH_take (i := 1) (oi := { dst := some 29, op := Go.Op.binOp Go.BinOp.add 9 (Go.Operand.tmp 28) (Go.Operand.const (Go.Value.string { data := #[32, 98, 121, 32] })) 9, type := 9, pos := "l03_write.go:68", after := #[{ on := 0, ground := Go.Ground.data }], guard := none }) (v := ?vb1) rfl (by kernel_rfl) (by kernel_rfl) (by kernel_rfl) (fun _ _ _ h => h) (Or.inl ⟨by rfl, ?hb1⟩) hHeld ?rb1
  case hb1 =>
    intro wS hSw
    (try dsimp only at hSw)
    go_simp
    try with_reducible rfl
  case rb1 =>
  simp only [Act.put, List.setIfInBounds_toArray, List.set_cons_zero, List.set_cons_succ]
  refine wpAnyH_take (i := 2) (oi := { dst := some 30, op := Go.Op.move (Go.Operand.tmp 0), type := 48, pos := "l03_write.go:68", after := #[], guard := none }) (v := ?vb2) rfl (by kernel_rfl) (by kernel_rfl) (by kernel_rfl) (fun _ _ _ h => h) (Or.inl ⟨by rfl, ?hb2⟩) hHeld ?rb2
  case hb2 =>
    intro wS hSw
    (try dsimp only at hSw)
    go_simp
    try with_reducible rfl
  case rb2 =>
  simp only [Act.put, List.setIfInBounds_toArray, List.set_cons_zero, List.set_cons_succ]
  refine wpAnyH_take (i := 3) (oi := { dst := some 31, op := Go.Op.nilCheck (Go.Operand.tmp 30), type := 0, pos := "l03_write.go:68", after := #[{ on := 2, ground := Go.Ground.data }], guard := none }) (v := ?vb3) rfl (by kernel_rfl) (by kernel_rfl) (by kernel_rfl) (fun _ _ _ h => h) (Or.inl ⟨by rfl, ?hb3⟩) hHeld ?rb3
  case hb3 =>
    intro wS hSw
    (try dsimp only at hSw)
    go_simp
    try with_reducible rfl
  case rb3 =>
  simp only [Act.put, List.setIfInBounds_toArray, List.set_cons_zero, List.set_cons_succ]
  refine wpAnyH_take (i := 4) (oi := { dst := some 32, op := Go.Op.fieldAddr 27 (Go.Operand.tmp 31) 3, type := 0, pos := "l03_write.go:68", after := #[{ on := 3, ground := Go.Ground.data }], guard := none }) (v := ?vb4) rfl (by kernel_rfl) (by kernel_rfl) (by kernel_rfl) (fun _ _ _ h => h) (Or.inl ⟨by rfl, ?hb4⟩) hHeld ?rb4
  case hb4 =>
    intro wS hSw
    (try dsimp only at hSw)
    go_simp
    try with_reducible rfl
  case rb4 =>
  simp only [Act.put, List.setIfInBounds_toArray, List.set_cons_zero, List.set_cons_succ]
  refine wpAnyH_take (i := 5) (oi := { dst := some 33, op := Go.Op.load 2 (Go.Operand.tmp 32), type := 2, pos := "l03_write.go:68", after := #[{ on := 4, ground := Go.Ground.data }], guard := none }) (v := ?vb5) rfl (by kernel_rfl) (by kernel_rfl) (by kernel_rfl) (fun _ _ _ h => h) (Or.inl ⟨by rfl, ?hb5⟩) hHeld ?rb5
  case hb5 =>
    intro wS hSw
    have y0 := (hSw.cell (p := ⟨b, 0, none⟩) hbl).trans c0
    have y1 := (hSw.cell (p := ⟨b, 1, none⟩) hbl).trans c1
    have y2 := (hSw.cell (p := ⟨b, 2, none⟩) hbl).trans c2
    have y3 := (hSw.cell (p := ⟨b, 3, none⟩) hbl).trans c3
    have y4 := (hSw.cell (p := ⟨b, 4, none⟩) hbl).trans c4
    clear hSw
    (try dsimp only at hSw)
    go_simp
    try with_reducible rfl
  case rb5 =>
  simp only [Act.put, List.setIfInBounds_toArray, List.set_cons_zero, List.set_cons_succ]
  refine wpAnyH_take (i := 9) (oi := { dst := some 37, op := Go.Op.move (Go.Operand.tmp 0), type := 48, pos := "l03_write.go:68", after := #[], guard := none }) (v := ?vb9) rfl (by kernel_rfl) (by kernel_rfl) (by kernel_rfl) (fun _ _ _ h => h) (Or.inl ⟨by rfl, ?hb9⟩) hHeld ?rb9
  case hb9 =>
    intro wS hSw
    (try dsimp only at hSw)
    go_simp
    try with_reducible rfl
  case rb9 =>
  simp only [Act.put, List.setIfInBounds_toArray, List.set_cons_zero, List.set_cons_succ]
  refine wpAnyH_take (i := 10) (oi := { dst := some 38, op := Go.Op.nilCheck (Go.Operand.tmp 37), type := 0, pos := "l03_write.go:68", after := #[{ on := 9, ground := Go.Ground.data }], guard := none }) (v := ?vb10) rfl (by kernel_rfl) (by kernel_rfl) (by kernel_rfl) (fun _ _ _ h => h) (Or.inl ⟨by rfl, ?hb10⟩) hHeld ?rb10
  case hb10 =>
    intro wS hSw
    (try dsimp only at hSw)
    go_simp
    try with_reducible rfl
  case rb10 =>
  simp only [Act.put, List.setIfInBounds_toArray, List.set_cons_zero, List.set_cons_succ]
  refine wpAnyH_take (i := 11) (oi := { dst := some 39, op := Go.Op.fieldAddr 27 (Go.Operand.tmp 38) 4, type := 0, pos := "l03_write.go:68", after := #[{ on := 10, ground := Go.Ground.data }], guard := none }) (v := ?vb11) rfl (by kernel_rfl) (by kernel_rfl) (by kernel_rfl) (fun _ _ _ h => h) (Or.inl ⟨by rfl, ?hb11⟩) hHeld ?rb11
  case hb11 =>
    intro wS hSw
    (try dsimp only at hSw)
    go_simp
    try with_reducible rfl
  case rb11 =>
  simp only [Act.put, List.setIfInBounds_toArray, List.set_cons_zero, List.set_cons_succ]
  refine wpAnyH_take (i := 12) (oi := { dst := some 40, op := Go.Op.load 2 (Go.Operand.tmp 39), type := 2, pos := "l03_write.go:68", after := #[{ on := 11, ground := Go.Ground.data }], guard := none }) (v := ?vb12) rfl (by kernel_rfl) (by kernel_rfl) (by kernel_rfl) (fun _ _ _ h => h) (Or.inl ⟨by rfl, ?hb12⟩) hHeld ?rb12
  case hb12 =>
    intro wS hSw
    have y0 := (hSw.cell (p := ⟨b, 0, none⟩) hbl).trans c0
    have y1 := (hSw.cell (p := ⟨b, 1, none⟩) hbl).trans c1
    have y2 := (hSw.cell (p := ⟨b, 2, none⟩) hbl).trans c2
    have y3 := (hSw.cell (p := ⟨b, 3, none⟩) hbl).trans c3
    have y4 := (hSw.cell (p := ⟨b, 4, none⟩) hbl).trans c4
    clear hSw
    (try dsimp only at hSw)
    go_simp
    try with_reducible rfl
  case rb12 =>
  simp only [Act.put, List.setIfInBounds_toArray, List.set_cons_zero, List.set_cons_succ]
  refine wpAnyH_ready (rs := [6]) (by kernel_rfl) (by simp) ?_
  refine AllReadyH.cons (o := { dst := some 34, op := Go.Op.call { callee := Go.Callee.value (Go.Operand.func 41), args := #[Go.Operand.tmp 33], argTypes := #[2] }, type := 9, pos := "l03_write.go:68", after := #[{ on := 5, ground := Go.Ground.data }], guard := none }) rfl (fun K hK => ?_) AllReadyH.nil
  go_simp
  go_at_call 41
  refine (unhide DS _).mono ?_
  rintro e w4 ⟨rfl, hbw⟩
  try go_wp2_with fail
  refine hK.out _ _ (hHeld.trans (hbw.mono hHeld.size)) (fun hHeld => ?_)
  clear hK K
  try simp only [Act.put, List.setIfInBounds_toArray, List.set_cons_zero, List.set_cons_succ]
  refine wpAnyH_take (i := 7) (oi := { dst := some 35, op := Go.Op.binOp Go.BinOp.add 9 (Go.Operand.tmp 29) (Go.Operand.tmp 34) 9, type := 9, pos := "l03_write.go:68", after := #[{ on := 1, ground := Go.Ground.data }, { on := 6, ground := Go.Ground.data }], guard := none }) (v := ?vb7) rfl (by kernel_rfl) (by kernel_rfl) (by kernel_rfl) (fun _ _ _ h => h) (Or.inl ⟨by rfl, ?hb7⟩) hHeld ?rb7
  case hb7 =>
    intro wS hSw
    (try dsimp only at hSw)
    go_simp
    try with_reducible rfl
  case rb7 =>
  simp only [Act.put, List.setIfInBounds_toArray, List.set_cons_zero, List.set_cons_succ]
  refine wpAnyH_take (i := 8) (oi := { dst := some 36, op := Go.Op.binOp Go.BinOp.add 9 (Go.Operand.tmp 35) (Go.Operand.const (Go.Value.string { data := #[32] })) 9, type := 9, pos := "l03_write.go:68", after := #[{ on := 7, ground := Go.Ground.data }], guard := none }) (v := ?vb8) rfl (by kernel_rfl) (by kernel_rfl) (by kernel_rfl) (fun _ _ _ h => h) (Or.inl ⟨by rfl, ?hb8⟩) hHeld ?rb8
  case hb8 =>
    intro wS hSw
    (try dsimp only at hSw)
    go_simp
    try with_reducible rfl
  case rb8 =>
  simp only [Act.put, List.setIfInBounds_toArray, List.set_cons_zero, List.set_cons_succ]
  refine wpAnyH_ready (rs := [13]) (by kernel_rfl) (by simp) ?_
  refine AllReadyH.cons (o := { dst := some 41, op := Go.Op.call { callee := Go.Callee.value (Go.Operand.func 41), args := #[Go.Operand.tmp 40], argTypes := #[2] }, type := 9, pos := "l03_write.go:68", after := #[{ on := 12, ground := Go.Ground.data }, { on := 6, ground := Go.Ground.chain }], guard := none }) rfl (fun K hK => ?_) AllReadyH.nil
  go_simp
  go_at_call 41
  refine (unhide DQ _).mono ?_
  rintro e w5 ⟨rfl, hbw⟩
  try go_wp2_with fail
  refine hK.out _ _ (hHeld.trans (hbw.mono hHeld.size)) (fun hHeld => ?_)
  clear hK K
  try simp only [Act.put, List.setIfInBounds_toArray, List.set_cons_zero, List.set_cons_succ]
  refine wpAnyH_take (i := 14) (oi := { dst := some 42, op := Go.Op.binOp Go.BinOp.add 9 (Go.Operand.tmp 36) (Go.Operand.tmp 41) 9, type := 9, pos := "l03_write.go:68", after := #[{ on := 8, ground := Go.Ground.data }, { on := 13, ground := Go.Ground.data }], guard := none }) (v := ?vb14) rfl (by kernel_rfl) (by kernel_rfl) (by kernel_rfl) (fun _ _ _ h => h) (Or.inl ⟨by rfl, ?hb14⟩) hHeld ?rb14
  case hb14 =>
    intro wS hSw
    (try dsimp only at hSw)
    go_simp
    try with_reducible rfl
  case rb14 =>
  simp only [Act.put, List.setIfInBounds_toArray, List.set_cons_zero, List.set_cons_succ]
  refine wpAnyH_take (i := 15) (oi := { dst := some 2, op := Go.Op.assign (Go.Operand.tmp 42), type := 9, pos := "l03_write.go:68", after := #[{ on := 14, ground := Go.Ground.data }, { on := 13, ground := Go.Ground.chain }, { on := 0, ground := Go.Ground.phase }, { on := 1, ground := Go.Ground.phase }, { on := 2, ground := Go.Ground.phase }, { on := 3, ground := Go.Ground.phase }, { on := 4, ground := Go.Ground.phase }, { on := 5, ground := Go.Ground.phase }, { on := 6, ground := Go.Ground.phase }, { on := 7, ground := Go.Ground.phase }, { on := 8, ground := Go.Ground.phase }, { on := 9, ground := Go.Ground.phase }, { on := 10, ground := Go.Ground.phase }, { on := 11, ground := Go.Ground.phase }, { on := 12, ground := Go.Ground.phase }, { on := 13, ground := Go.Ground.phase }, { on := 14, ground := Go.Ground.phase }], guard := none }) (v := ?vb15) rfl (by kernel_rfl) (by kernel_rfl) (by kernel_rfl) (fun _ _ _ h => h) (Or.inl ⟨by rfl, ?hb15⟩) hHeld ?rb15
  case hb15 =>
    intro wS hSw
    (try dsimp only at hSw)
    go_simp
    try with_reducible rfl
  case rb15 =>
  simp only [Act.put, List.setIfInBounds_toArray, List.set_cons_zero, List.set_cons_succ]
  refine wpAnyH_done (by kernel_rfl) ?_ _
  refine NoPanic.normal ?_
  have HB9 := hide hHeld
  clear hHeld
  go_wp2_with fail
  go_ret
  exact ⟨rfl, unhide HB9⟩

/-- The model's l3Text. -/
theorem l3Text (b : Nat) (k i : Int) (v : Value) (s q : Int) (zs : List Int) (w : World) (hc : WriteAt w b k i v s q) (h : IsInts w v zs) (hf : writeFault k i zs s q = 0) :
    Calls Tryz.prog 20 #[.pointer (some ⟨b, 0, none⟩)] w fun e w' => e = .returned (str (writeText k i zs s q)) ∧ Below w.heap.size w w' := by
  rw [writeText, if_pos hf]
  obtain ⟨hi, hs, hq, hk⟩ := writeFault_zero hf
  rcases hk with ⟨rfl, hv⟩ | ⟨rfl, rfl⟩
  · obtain ⟨vb, off, cap, x, y, z, rfl, rfl, -, z0, z1, z2⟩ := h.three (vecFault_zero hv).1
    obtain ⟨bx, bY, bz⟩ := fault3 hv
    exact l3Text_put b i s q x y z vb off cap w hc z0 z1 z2 hi hs hq bx bY bz
  · exact l3Text_drop b i s q v w hc hi hs hq

end Go.Proofs.YtjofcmdlcoganaaGreatDoor

namespace Go.Proofs.YtjofcmdlcoganaaGreatDoor
open Go.RowKit

theorem writeText_ge {k i s q : Int} {zs : List Int} (hf : writeFault k i zs s q = 0) : 1 ≤ (writeText k i zs s q).length := by
  rw [writeText, if_pos hf]
  unfold writeTail
  simp
  omega

set_option maxRecDepth 100000 in
set_option maxHeartbeats 2000000 in
theorem drawPWrite (ao : Option Addr) (len cap : Nat) (w : World) (hc : IsCode w.heap.size w (.slice ao len cap)) :
    Calls Tryz.prog 5 #[.slice ao len cap] w fun e w' => ∃ s : ByteArray, e = .returned (.string s) ∧ s.size ≤ 60 ∧ Below w.heap.size w w' := by
  go_enter Tryz.func5, Tryz.ntmps5
  go_wp2_with fail
  refine (source ao len cap w).mono ?_
  rintro e w1 ⟨rfl, rfl⟩
  have hs1 := src_new w (.slice ao len cap)
  have hc1 := hc.alloc (Nat.le_refl _) (.cells #[.slice ao len cap, .int .i64 0] 74)
  have HB1 := hide ((Below.refl w.heap.size w).alloc (Nat.le_refl _) (.cells #[.slice ao len cap, .int .i64 0] 74))
  clear hc
  go_wp2_with fail
  refine (drawWriteR w.heap.size 0 _ _ hs1 hc1 (by omega)).mono ?_
  rintro e w2 ⟨cs, x, bl, m', rfl, hl, -, hs2, hm', hc2, hg2, hf⟩
  have HB2 := hide ((unhide HB1).grown hg2 (by simp) (fun k hk => by simp at hk; omega))
  clear hs1 hc1 hg2 HB1
  obtain ⟨a2, d2, bz, rfl, -, -, -, hv, -, -⟩ := lies_Write.1 hl
  have nb : Below w2.heap.size w2 (w2.alloc (.cells #[.int .i64 x.kind, .int .i64 x.id, .slice a2 x.vec.length d2, .int .i64 x.session, .int .i64 x.seq] 27)) := (Below.refl _ _).alloc (Nat.le_refl _) _
  have bX : Box 0 #[.int .i64 x.kind, .int .i64 x.id, .slice a2 x.vec.length d2, .int .i64 x.session, .int .i64 x.seq] 27 (w2.alloc (.cells #[.int .i64 x.kind, .int .i64 x.id, .slice a2 x.vec.length d2, .int .i64 x.session, .int .i64 x.seq] 27)) w2.heap.size := newBox (Nat.zero_le _)
  have LT := hide (l3Text w2.heap.size x.kind x.id (.slice a2 x.vec.length d2) x.session x.seq x.vec _ ⟨bX.at 0 _ rfl, bX.at 1 _ rfl, bX.at 2 _ rfl, bX.at 3 _ rfl, bX.at 4 _ rfl⟩ ((Lay.ints_reads ⟨bz, hv⟩).later nb) hf)
  have l1 := writeText_len x.kind x.id x.vec x.session x.seq
  have l2 := writeText_ge hf
  generalize writeText x.kind x.id x.vec x.session x.seq = tx at *
  replace hs2 := hs2.onW nb
  replace hc2 := hc2.onW (by have := (unhide HB2).size; omega) nb
  replace HB2 := hide ((unhide HB2).trans (nb.mono (unhide HB2).size))
  simp only [str] at LT
  clear hl hv bX nb
  go_wp2_with fail
  generalize w2.alloc (.cells #[.int .i64 x.kind, .int .i64 x.id, .slice a2 x.vec.length d2, .int .i64 x.session, .int .i64 x.seq] 27) = W2 at *
  refine (unhide LT).mono ?_
  rintro e w3 ⟨rfl, hb3⟩
  clear LT hf
  have hs3 : SrcAt w3 w.heap.size (.slice ao len cap) m' := (hb3.block _ hs2.lt).trans hs2
  have hc3 : IsCode w.heap.size w3 (.slice ao len cap) := hc2.later (hb3.mono (Nat.le_of_lt hs2.lt))
  have HB3 := hide ((unhide HB2).trans (hb3.mono (Nat.le_of_lt hs2.lt)))
  have hconv := run_bytes_of_string (P := Tryz.prog) w3 9 22 5 ⟨tx.toArray⟩ Tryz.underlying9 Tryz.underlying22 Tryz.underlying5
  obtain ⟨w4, hw4⟩ : ∃ w4, w4 = (w3.drew.alloc (.cells (bytesRow ⟨tx.toArray⟩ (grownCap w3 (⟨tx.toArray⟩ : ByteArray).size 0 5)) 5 ((bytesRow ⟨tx.toArray⟩ (grownCap w3 (⟨tx.toArray⟩ : ByteArray).size 0 5)).size, (bytesRow ⟨tx.toArray⟩ (grownCap w3 (⟨tx.toArray⟩ : ByteArray).size 0 5)).size + 1))) := ⟨_, rfl⟩
  rw [← hw4] at hconv
  have hby : IsBytes w4 w3.heap.size tx.length := by rw [hw4]; exact bytes_new w3.drew ⟨tx.toArray⟩ _ _
  have hsz : (⟨tx.toArray⟩ : ByteArray).size = tx.length := rfl
  rw [hsz] at hconv
  have hcp : tx.length ≤ grownCap w3 tx.length 0 5 := grownCap_ge w3 _ _ _
  generalize grownCap w3 tx.length 0 5 = cp at *
  have hs4 : SrcAt w4 w.heap.size (.slice ao len cap) m' := by rw [hw4]; exact SrcAt.alloc (w := w3.drew) hs3 _
  have hc4 : IsCode w.heap.size w4 (.slice ao len cap) := by rw [hw4]; exact IsCode.alloc (w := w3.drew) (hc3.later ⟨rfl, rfl, rfl, Nat.le_refl _, fun _ _ => rfl⟩) (Nat.le_of_lt hs3.lt) _
  have HB4 : Hid (Below w.heap.size w w4) := by
    show Below w.heap.size w w4
    rw [hw4]
    exact Below.alloc (w := w3.drew) ((unhide HB3).trans ⟨rfl, rfl, rfl, Nat.le_refl _, fun _ _ => rfl⟩) (Nat.le_of_lt hs3.lt) _
  have hne : w.heap.size < w3.heap.size := hs3.lt
  clear hw4 hs3 hc3 HB3 HB2 hb3 hs2 hc2 
  go_wp2_with fail
  refine (next w.heap.size m' _ 5 _ hs4 hc4 (by omega) (by omega) (by omega)).mono ?_
  rintro e w5 ⟨r, rfl, hr, hs5, hc5, hg5⟩
  have hby5 := hby.keep hg5 (by omega)
  have HB5 := hide ((unhide HB4).grown hg5 (Nat.le_of_lt hs4.lt) (fun k hk => by simp at hk; omega))
  clear hs4 hc4 hg5 HB4 hby hconv
  by_cases r0 : r = 0
  · subst r0
    go_wp2_with fail
    refine (next w.heap.size (m' + 1) _ tx.length _ hs5 hc5 (by omega) (by omega) (by omega)).mono ?_
    rintro e w6 ⟨i, rfl, hi, hs6, hc6, hg6⟩
    have hby6 := hby5.keep hg6 (by omega)
    have HB6 := hide ((unhide HB5).grown hg6 (Nat.le_of_lt hs5.lt) (fun k hk => by simp at hk; omega))
    clear hs5 hc5 hg6 HB5 hby5
    go_wp2_with fail
    have hsa := hs6.alloc (.cells #[.int .i64 48, .int .i64 32, .int .i64 57, .int .i64 120] 2)
    have hbya : IsBytes (w6.alloc (.cells #[.int .i64 48, .int .i64 32, .int .i64 57, .int .i64 120] 2)) w3.heap.size tx.length := hby6.keep (World.grownBy_alloc w6 _ (some w6.heap.size)) (by have := hby6.1; omega)
    have e := pick w.heap.size (m' + 1 + 1) w6.heap.size (.slice ao len cap) [48, 32, 57, 120] _ hsa (hc6.alloc (Nat.le_of_lt hs6.lt) _) (by omega) (by simp) (by simp) (heap_alloc_new w6 _) (by have := hs6.lt; omega)
    refine e.mono ?_
    clear e
    rintro e w7 ⟨c, rfl, hc, hs7, hc7, hg7⟩
    have hby7 := hbya.keep hg7 (by omega)
    have HB7 := hide (((unhide HB6).alloc (Nat.le_of_lt hs6.lt) _).grown hg7 (by have := hs6.lt; simp; omega) (fun k hk => by simp at hk; omega))
    have hcb : 0 ≤ c ∧ c ≤ 120 := by simp at hc; omega
    have hi2 : i < tx.length := by omega
    obtain ⟨s, hss, hcv⟩ := (hby7.set hi2 c).conv cp
    obtain ⟨hlt, xs, hx1, hx2, hx3⟩ := hby7
    have k0 := hx2 i hi2
    have k1 := hx3 i hi2
    clear hs6 hc6 HB6 hby6 hsa hbya hg7 hc hs7 hc7 hx1 hx2 hx3
    go_wp2_with fail
    go_ret
    exact ⟨s, rfl, by omega, (unhide HB7).setCell (by show w.heap.size ≤ w3.heap.size; omega) _⟩
  · by_cases r1 : r = 1
    · subst r1
      go_wp2_with fail
      refine (next w.heap.size (m' + 1) _ tx.length _ hs5 hc5 (by omega) (by omega) (by omega)).mono ?_
      rintro e w6 ⟨i, rfl, hi, hs6, hc6, hg6⟩
      have hby6 := hby5.keep hg6 (by omega)
      have HB6 := hide ((unhide HB5).grown hg6 (Nat.le_of_lt hs5.lt) (fun k hk => by simp at hk; omega))
      have hi2 : i < tx.length := by omega
      obtain ⟨s, hss, hcv⟩ := (hby6.less (k := i) (by omega)).conv cp
      clear hs5 hc5 hg6 HB5 hby5 hs6 hc6 hby6
      go_wp2_with fail
      go_ret
      exact ⟨s, rfl, by omega, unhide HB6⟩
    · obtain ⟨s, hss, hcv⟩ := hby5.conv cp
      have n0 : ((r : Int) == 0) = false := by simp; omega
      have n1 : ((r : Int) == 1) = false := by simp; omega
      clear hs5 hc5 hby5
      go_wp2_with fail
      go_ret
      exact ⟨s, rfl, by omega, unhide HB5⟩

end Go.Proofs.YtjofcmdlcoganaaGreatDoor

namespace Go.Proofs.YtjofcmdlcoganaaGreatDoor
open Go.RowKit

/-- What the last word is. -/
def checkOf (n : Int) : Int := (n.tmod 997 + 997).tmod 997
theorem tmod_bd (n : Int) : -997 < n.tmod 997 ∧ n.tmod 997 < 997 := ⟨by have := Int.lt_tmod_of_pos n (b := 997) (by omega); omega, Int.tmod_lt_of_pos n (by omega)⟩
/-- The sum that the last word tells of. -/
def packSum (k i s q x y z : Int) : Int := k + 3 * i + 5 * s + 7 * q + 11 * x + 13 * y + 17 * z

set_option maxRecDepth 100000 in
set_option maxHeartbeats 1000000 in
theorem l3Pack_put (b vb off cap : Nat) (i s q x y z : Int) (w : World) (hc : WriteAt w b 1 i (.slice (some ⟨vb, off, none⟩) 3 cap) s q)
    (hx : w.cell? ⟨vb, off, none⟩ = some (.int .i64 x) ∧ w.cell? ⟨vb, off + 1, none⟩ = some (.int .i64 y) ∧ w.cell? ⟨vb, off + 2, none⟩ = some (.int .i64 z))
    (hi : 1 ≤ i ∧ i ≤ 999) (hs : 1 ≤ s ∧ s ≤ 9) (hq : 1 ≤ q ∧ q ≤ 999) (bx : -1000 ≤ x ∧ x ≤ 1000) (bY : -1000 ≤ y ∧ y ≤ 1000) (bz : -1000 ≤ z ∧ z ≤ 1000) :
    Calls Tryz.prog 30 #[.pointer (some ⟨b, 0, none⟩)] w fun e w' => ∃ g : Nat, e = .returned (.slice (some ⟨g, 0, none⟩) 8 8) ∧
      w'.ownsRow w.heap.size 2 1 (.slice (some ⟨g, 0, none⟩) 8 8) 8 ([1, i, s, q, x, y, z, checkOf (packSum 1 i s q x y z)].map (Value.int .i64)) ∧ Below w.heap.size w w' := by
  obtain ⟨c0, c1, c2, c3, c4⟩ := hc
  obtain ⟨x0, x1, x2⟩ := hx
  obtain ⟨i1, i2⟩ := hi
  obtain ⟨s1, s2⟩ := hs
  obtain ⟨q1, q2⟩ := hq
  obtain ⟨m1, m2⟩ := bx
  obtain ⟨m3, m4⟩ := bY
  obtain ⟨m5, m6⟩ := bz
  have LV : Hid (Calls Tryz.prog 59 #[.pointer (some ⟨b, 0, none⟩)] w fun e w' => e = .returned (.slice (some ⟨vb, off, none⟩) 3 cap) ∧ w' = w) := by
    go_enter Tryz.func59, Tryz.ntmps59
    go_wp2_with fail
    go_ret
    exact ⟨rfl, rfl⟩
  have HS : Hid (packSum 1 i s q x y z = 1 + 3 * i + 5 * s + 7 * q + 11 * x + 13 * y + 17 * z) := by
    show packSum 1 i s q x y z = 1 + 3 * i + 5 * s + 7 * q + 11 * x + 13 * y + 17 * z
    unfold packSum
    omega
  go_enter Tryz.func30, Tryz.ntmps30
  go_wp2_with fail
  refine (unhide LV).mono ?_
  rintro e w1 ⟨rfl, rfl⟩
  go_wp2_with fail
  go_quiet (fail)
  have hS1 : -41000 ≤ 1 + 3 * i + 5 * s + 7 * q + 11 * x + 13 * y + 17 * z := by omega
  have hS2 : 1 + 3 * i + 5 * s + 7 * q + 11 * x + 13 * y + 17 * z ≤ 60000 := by omega
  generalize 1 + 3 * i + 5 * s + 7 * q + 11 * x + 13 * y + 17 * z = S0 at *
  have hT := tmod_bd S0
  have hT1 : IntKind.i64.wrap (S0.tmod 997 + 997) = S0.tmod 997 + 997 := by rw [IntKind.wrap_i64]; omega
  have HC : Hid (checkOf (packSum 1 i s q x y z) = (S0.tmod 997 + 997).tmod 997) := by
    show checkOf (packSum 1 i s q x y z) = (S0.tmod 997 + 997).tmod 997
    rw [unhide HS]
    rfl
  clear hT HS
  go_wp2_with fail
  first
    | go_region_held3 (fun w' => w'.cell? ⟨b, 0, none⟩ = some (.int .i64 1) ∧ w'.cell? ⟨b, 1, none⟩ = some (.int .i64 i) ∧ w'.cell? ⟨b, 3, none⟩ = some (.int .i64 s) ∧ w'.cell? ⟨b, 4, none⟩ = some (.int .i64 q) ∧ w'.cell? ⟨vb, off, none⟩ = some (.int .i64 x) ∧ w'.cell? ⟨vb, off + 1, none⟩ = some (.int .i64 y) ∧ w'.cell? ⟨vb, off + 2, none⟩ = some (.int .i64 z))
        (first
          | exact ⟨c0, c1, c3, c4, x0, x1, x2⟩
          | (refine ⟨(World.grownBy_alloc _ _ none).cell ?_ (by simp), (World.grownBy_alloc _ _ none).cell ?_ (by simp), (World.grownBy_alloc _ _ none).cell ?_ (by simp), (World.grownBy_alloc _ _ none).cell ?_ (by simp), (World.grownBy_alloc _ _ none).cell ?_ (by simp), (World.grownBy_alloc _ _ none).cell ?_ (by simp), (World.grownBy_alloc _ _ none).cell ?_ (by simp)⟩ <;> assumption)
          | go_keep)
        (fail)
    | fail
  have BE : Hid (∀ n o, Below w1.heap.size w1 ((w1.drewN n).alloc o)) := fun n o => (below_drawn (Below.refl w1.heap.size w1) n).alloc (Nat.le_refl _) o
  clear c0 c1 c3 c4 x0 x1 x2
  go_wp2_with fail
  go_ret
  refine ⟨_, rfl, ?_, unhide BE _ _⟩
  rw [unhide HC]
  exact World.ownsRow_lit _ _ 8 (Nat.le_refl _) (by unfold maxLen; omega) rfl

set_option maxRecDepth 100000 in
set_option maxHeartbeats 1000000 in
theorem l3Pack_drop (b : Nat) (i : Int) (v : Value) (s q : Int) (w : World) (hc : WriteAt w b 2 i v s q)
    (hi : 1 ≤ i ∧ i ≤ 999) (hs : 1 ≤ s ∧ s ≤ 9) (hq : 1 ≤ q ∧ q ≤ 999) :
    Calls Tryz.prog 30 #[.pointer (some ⟨b, 0, none⟩)] w fun e w' => ∃ g : Nat, e = .returned (.slice (some ⟨g, 0, none⟩) 8 8) ∧
      w'.ownsRow w.heap.size 2 1 (.slice (some ⟨g, 0, none⟩) 8 8) 8 ([2, i, s, q, 0, 0, 0, checkOf (packSum 2 i s q 0 0 0)].map (Value.int .i64)) ∧ Below w.heap.size w w' := by
  obtain ⟨c0, c1, c2, c3, c4⟩ := hc
  obtain ⟨i1, i2⟩ := hi
  obtain ⟨s1, s2⟩ := hs
  obtain ⟨q1, q2⟩ := hq
  have LV : Hid (Calls Tryz.prog 59 #[.pointer (some ⟨b, 0, none⟩)] w fun e w' => e = .returned (.slice (some ⟨w.heap.size, 0, none⟩) 3 3) ∧ w.alloc (.cells #[.int .i64 0, .int .i64 0, .int .i64 0] 2) = w') := by
    go_enter Tryz.func59, Tryz.ntmps59
    go_wp2_with fail
    go_ret
    exact ⟨rfl, rfl⟩
  have B0 : Below w.heap.size w (w.alloc (.cells #[.int .i64 0, .int .i64 0, .int .i64 0] 2)) := (Below.refl _ _).alloc (Nat.le_refl _) _
  replace c0 := cell_keep B0 c0
  replace c1 := cell_keep B0 c1
  replace c3 := cell_keep B0 c3
  replace c4 := cell_keep B0 c4
  have x0 : (w.alloc (.cells #[.int .i64 0, .int .i64 0, .int .i64 0] 2)).cell? ⟨w.heap.size, 0, none⟩ = some (.int .i64 0) := by simp [go_sem]
  have x1 : (w.alloc (.cells #[.int .i64 0, .int .i64 0, .int .i64 0] 2)).cell? ⟨w.heap.size, 1, none⟩ = some (.int .i64 0) := by simp [go_sem]
  have x2 : (w.alloc (.cells #[.int .i64 0, .int .i64 0, .int .i64 0] 2)).cell? ⟨w.heap.size, 2, none⟩ = some (.int .i64 0) := by simp [go_sem]
  clear c2
  have HS : Hid (packSum 2 i s q 0 0 0 = 2 + 3 * i + 5 * s + 7 * q) := by
    show packSum 2 i s q 0 0 0 = 2 + 3 * i + 5 * s + 7 * q
    unfold packSum
    omega
  go_enter Tryz.func30, Tryz.ntmps30
  go_wp2_with fail
  refine (unhide LV).mono ?_
  rintro e w1 ⟨rfl, hw1⟩
  rw [hw1] at c0 c1 c3 c4 x0 x1 x2 B0
  clear hw1
  go_wp2_with fail
  go_quiet (fail)
  have hS1 : -41000 ≤ 2 + 3 * i + 5 * s + 7 * q := by omega
  have hS2 : 2 + 3 * i + 5 * s + 7 * q ≤ 60000 := by omega
  generalize 2 + 3 * i + 5 * s + 7 * q = S0 at *
  have hT := tmod_bd S0
  have hT1 : IntKind.i64.wrap (S0.tmod 997 + 997) = S0.tmod 997 + 997 := by rw [IntKind.wrap_i64]; omega
  have HC : Hid (checkOf (packSum 2 i s q 0 0 0) = (S0.tmod 997 + 997).tmod 997) := by
    show checkOf (packSum 2 i s q 0 0 0) = (S0.tmod 997 + 997).tmod 997
    rw [unhide HS]
    rfl
  clear hT HS
  go_wp2_with fail
  first
    | go_region_held3 (fun w' => w'.cell? ⟨b, 0, none⟩ = some (.int .i64 2) ∧ w'.cell? ⟨b, 1, none⟩ = some (.int .i64 i) ∧ w'.cell? ⟨b, 3, none⟩ = some (.int .i64 s) ∧ w'.cell? ⟨b, 4, none⟩ = some (.int .i64 q) ∧ w'.cell? ⟨w.heap.size, 0, none⟩ = some (.int .i64 0) ∧ w'.cell? ⟨w.heap.size, 1, none⟩ = some (.int .i64 0) ∧ w'.cell? ⟨w.heap.size, 2, none⟩ = some (.int .i64 0))
        (first
          | exact ⟨c0, c1, c3, c4, x0, x1, x2⟩
          | (refine ⟨(World.grownBy_alloc _ _ none).cell ?_ (by simp), (World.grownBy_alloc _ _ none).cell ?_ (by simp), (World.grownBy_alloc _ _ none).cell ?_ (by simp), (World.grownBy_alloc _ _ none).cell ?_ (by simp), (World.grownBy_alloc _ _ none).cell ?_ (by simp), (World.grownBy_alloc _ _ none).cell ?_ (by simp), (World.grownBy_alloc _ _ none).cell ?_ (by simp)⟩ <;> assumption)
          | go_keep)
        (fail)
    | fail
  have BSZ := B0.size
  have BE : Hid (∀ n o, Below w.heap.size w ((w1.drewN n).alloc o)) := fun n o => (below_drawn B0 n).alloc B0.size o
  clear c0 c1 c3 c4 x0 x1 x2
  go_wp2_with fail
  go_ret
  refine ⟨_, rfl, ?_, unhide BE _ _⟩
  rw [unhide HC]
  exact World.ownsRow_lit _ _ 8 (by exact BSZ) (by unfold maxLen; omega) rfl

end Go.Proofs.YtjofcmdlcoganaaGreatDoor

namespace Go.Proofs.YtjofcmdlcoganaaGreatDoor
open Go.RowKit

/-- The parts of a write's vector (of a drop three times 0). -/
def partsOf (k : Int) (zs : List Int) : List Int := if k = 1 then zs else [0, 0, 0]
/-- The eight words. -/
def wordsOf (k i : Int) (zs : List Int) (s q : Int) : List Int :=
  [k, i, s, q, (partsOf k zs).getD 0 0, (partsOf k zs).getD 1 0, (partsOf k zs).getD 2 0, checkOf (packSum k i s q ((partsOf k zs).getD 0 0) ((partsOf k zs).getD 1 0) ((partsOf k zs).getD 2 0))]
def packList (k i : Int) (zs : List Int) (s q : Int) : List Int := if writeFault k i zs s q = 0 then wordsOf k i zs s q else []

/-- What a function that answers an IntsResult tells. -/
def ToldInts (w w' : World) (e : Ending) (c : Int) (l : List Int) : Prop := ∃ r, e = .returned (intsRes c r) ∧ w'.ownsRow w.heap.size 2 1 r l.length (l.map (Value.int .i64)) ∧ Below w.heap.size w w'
theorem toldInts_nil {w w' : World} {c : Int} (h : Below w.heap.size w w') : ToldInts w w' (.returned (intsRes c (.slice none 0 0))) c [] := ⟨_, rfl, World.ownsRow_nil _ _ _ _, h⟩

theorem l3Pack (b : Nat) (k i : Int) (v : Value) (s q : Int) (zs : List Int) (w : World) (hc : WriteAt w b k i v s q) (h : IsInts w v zs) (hf : writeFault k i zs s q = 0) :
    Calls Tryz.prog 30 #[.pointer (some ⟨b, 0, none⟩)] w fun e w' => ∃ g : Nat, e = .returned (.slice (some ⟨g, 0, none⟩) 8 8) ∧
      w'.ownsRow w.heap.size 2 1 (.slice (some ⟨g, 0, none⟩) 8 8) 8 ((wordsOf k i zs s q).map (Value.int .i64)) ∧ Below w.heap.size w w' := by
  obtain ⟨hi, hs, hq, hk⟩ := writeFault_zero hf
  rcases hk with ⟨rfl, hv⟩ | ⟨rfl, rfl⟩
  · obtain ⟨hl, -⟩ := vecFault_zero hv
    match zs, hl with
    | [x, y, z], _ =>
    obtain ⟨b1, b2, b3⟩ := fault3 hv
    obtain ⟨ao, cap, rfl, -, hcells⟩ := h
    obtain ⟨vb, off, rfl, hcl⟩ := hcells (by simp)
    have e0 := hcl 0 (by simp)
    have e1 := hcl 1 (by simp)
    have e2 := hcl 2 (by simp)
    exact l3Pack_put b vb off cap i s q x y z w hc ⟨e0, e1, e2⟩ hi hs hq b1 b2 b3
  · exact l3Pack_drop b i v s q w hc hi hs hq

end Go.Proofs.YtjofcmdlcoganaaGreatDoor

namespace Go.Proofs.YtjofcmdlcoganaaGreatDoor
open Go.RowKit

theorem checkOf_bd (n : Int) : -1000 ≤ checkOf n ∧ checkOf n ≤ 1000 := by have := tmod_bd (n.tmod 997 + 997); unfold checkOf; omega
theorem packList_len {k i s q : Int} {zs : List Int} : (packList k i zs s q).length ≤ 8 := by
  unfold packList
  split <;> simp [wordsOf]
theorem packList_wf {k i s q : Int} {zs : List Int} : ∀ z ∈ packList k i zs s q, (Lit.int .i64 z).wf = true := by
  intro z hz
  unfold packList at hz
  split at hz
  · next hf =>
    obtain ⟨hi, hs, hq, hk⟩ := writeFault_zero hf
    have hp : ∀ j, -1000 ≤ (partsOf k zs).getD j 0 ∧ (partsOf k zs).getD j 0 ≤ 1000 := by
      intro j
      rcases hk with ⟨rfl, hv⟩ | ⟨rfl, rfl⟩
      · obtain ⟨hl, hb⟩ := vecFault_zero hv
        by_cases hj : j < 3
        · have := hb j hj
          simpa [partsOf] using this
        · simp [partsOf, List.getD, List.getElem?_eq_none (show zs.length ≤ j by omega)]
      · rcases (show j = 0 ∨ j = 1 ∨ j = 2 ∨ 3 ≤ j by omega) with rfl | rfl | rfl | h
        · simp [partsOf]
        · simp [partsOf]
        · simp [partsOf]
        · have e : (partsOf 2 []).length ≤ j := by simpa [partsOf] using h
          simp [List.getD, List.getElem?_eq_none e]
    have hkb : 1 ≤ k ∧ k ≤ 2 := by rcases hk with ⟨rfl, _⟩ | ⟨rfl, _⟩ <;> omega
    have hcb := checkOf_bd (packSum k i s q ((partsOf k zs).getD 0 0) ((partsOf k zs).getD 1 0) ((partsOf k zs).getD 2 0))
    have h0 := hp 0
    have h1 := hp 1
    have h2 := hp 2
    simp only [wordsOf, List.mem_cons, List.not_mem_nil, or_false] at hz
    rcases hz with rfl | rfl | rfl | rfl | rfl | rfl | rfl | rfl <;> exact wf_of_bd (by omega)
  · simp at hz

end Go.Proofs.YtjofcmdlcoganaaGreatDoor

namespace Go.Proofs.YtjofcmdlcoganaaGreatDoor
open Go.RowKit

/-- Numbers that lie in the block g, from its beginning, and may be written. -/
def IsNums (w : World) (g : Nat) (zs : List Int) : Prop := g < w.heap.size ∧ (∀ z ∈ zs, (Lit.int .i64 z).wf = true) ∧ (∀ j, j < zs.length → w.cell? ⟨g, j, none⟩ = some (.int .i64 (zs.getD j 0))) ∧ ∀ j, j < zs.length → w.frozen? ⟨g, j, none⟩ = false
theorem IsNums.keep {w w' : World} {g b : Nat} {zs : List Int} (h : IsNums w g zs) (hg : w.grownBy w' (some b)) (hb : b ≠ g) : IsNums w' g zs := by
  obtain ⟨h0, h1, h2, h3⟩ := h
  have hk := hg.block g h0 (by simp; omega)
  refine ⟨Nat.lt_of_lt_of_le h0 hg.size, h1, fun j hj => ?_, fun j hj => ?_⟩
  · rw [← h2 j hj]; simp [World.cell?, hk]
  · rw [← h3 j hj]; simp [World.frozen?, hk]
theorem IsNums.set {w : World} {g i : Nat} {zs : List Int} (h : IsNums w g zs) (hi : i < zs.length) (x : Int) (hx : (Lit.int .i64 x).wf = true) : IsNums (w.setCell ⟨g, i, none⟩ (.int .i64 x)) g (zs.set i x) := by
  obtain ⟨h0, h1, h2, h3⟩ := h
  refine ⟨by simpa using h0, fun z hz => ?_, fun j hj => ?_, fun j hj => ?_⟩
  · rcases List.mem_or_eq_of_mem_set hz with hz | rfl
    · exact h1 z hz
    · exact hx
  · rw [List.length_set] at hj
    by_cases e : i = j
    · subst e
      have hx : (zs.set i x).getD i 0 = x := by simp [List.getD, hi]
      rw [hx]
      simp [go_sem, h2 i hi]
    · have hx : (zs.set i x).getD j 0 = zs.getD j 0 := by simp [List.getD, e]
      rw [hx, ← h2 j hj]
      simp [go_sem]
  · rw [List.length_set] at hj
    rw [← h3 j hj]
    simp [go_sem]
theorem IsNums.ints {w : World} {g cap k : Nat} {zs : List Int} (h : IsNums w g zs) (hk : k ≤ zs.length) : IsInts w (.slice (some ⟨g, 0, none⟩) k cap) (zs.take k) := by
  obtain ⟨h0, h1, h2, h3⟩ := h
  have hl : (zs.take k).length = k := by simp; omega
  refine ⟨some ⟨g, 0, none⟩, cap, by rw [hl], fun z hz => h1 z (List.mem_of_mem_take hz), fun _ => ⟨g, 0, rfl, fun j hj => ?_⟩⟩
  rw [hl] at hj
  rw [Nat.zero_add, h2 j (by omega)]
  simp [List.getD, hj]

set_option maxRecDepth 100000 in
set_option maxHeartbeats 2000000 in
theorem drawUnpack (ao : Option Addr) (len cap : Nat) (w : World) (hc : IsCode w.heap.size w (.slice ao len cap)) :
    Calls Tryz.prog 9 #[.slice ao len cap] w fun e w' => ∃ (a : Option Addr) (n : Nat) (zs : List Int), e = .returned (.slice a n 8) ∧ IsInts w' (.slice a n 8) zs ∧ n ≤ 8 ∧ Below w.heap.size w w' := by
  go_enter Tryz.func9, Tryz.ntmps9
  go_wp2_with fail
  refine (source ao len cap w).mono ?_
  rintro e w1 ⟨rfl, rfl⟩
  have hs1 := src_new w (.slice ao len cap)
  have hc1 := hc.alloc (Nat.le_refl _) (.cells #[.slice ao len cap, .int .i64 0] 74)
  have HB1 := hide ((Below.refl w.heap.size w).alloc (Nat.le_refl _) (.cells #[.slice ao len cap, .int .i64 0] 74))
  clear hc
  go_wp2_with fail
  refine (drawWriteR w.heap.size 0 _ _ hs1 hc1 (by omega)).mono ?_
  rintro e w2 ⟨cs, x, bl, m', rfl, hl, -, hs2, hm', hc2, hg2, hf⟩
  have HB2 := hide ((unhide HB1).grown hg2 (by simp) (fun k hk => by simp at hk; omega))
  clear hs1 hc1 hg2 HB1
  obtain ⟨a2, d2, bz, rfl, -, -, -, hv, -, -⟩ := lies_Write.1 hl
  have nb : Below w2.heap.size w2 (w2.alloc (.cells #[.int .i64 x.kind, .int .i64 x.id, .slice a2 x.vec.length d2, .int .i64 x.session, .int .i64 x.seq] 27)) := (Below.refl _ _).alloc (Nat.le_refl _) _
  have bX : Box 0 #[.int .i64 x.kind, .int .i64 x.id, .slice a2 x.vec.length d2, .int .i64 x.session, .int .i64 x.seq] 27 (w2.alloc (.cells #[.int .i64 x.kind, .int .i64 x.id, .slice a2 x.vec.length d2, .int .i64 x.session, .int .i64 x.seq] 27)) w2.heap.size := newBox (Nat.zero_le _)
  have LT := hide (l3Pack w2.heap.size x.kind x.id (.slice a2 x.vec.length d2) x.session x.seq x.vec _ ⟨bX.at 0 _ rfl, bX.at 1 _ rfl, bX.at 2 _ rfl, bX.at 3 _ rfl, bX.at 4 _ rfl⟩ ((Lay.ints_reads ⟨bz, hv⟩).later nb) hf)
  have hwf : ∀ z ∈ wordsOf x.kind x.id x.vec x.session x.seq, (Lit.int .i64 z).wf = true := by
    have := packList_wf (k := x.kind) (i := x.id) (s := x.session) (q := x.seq) (zs := x.vec)
    rw [packList, if_pos hf] at this
    exact this
  have hlen : (wordsOf x.kind x.id x.vec x.session x.seq).length = 8 := rfl
  generalize wordsOf x.kind x.id x.vec x.session x.seq = zs at *
  replace hs2 := hs2.onW nb
  replace hc2 := hc2.onW (by have := (unhide HB2).size; omega) nb
  replace HB2 := hide ((unhide HB2).trans (nb.mono (unhide HB2).size))
  clear hl hv bX nb hf
  go_wp2_with fail
  generalize w2.alloc (.cells #[.int .i64 x.kind, .int .i64 x.id, .slice a2 x.vec.length d2, .int .i64 x.session, .int .i64 x.seq] 27) = W2 at *
  refine (unhide LT).mono ?_
  rintro e w3 ⟨g, rfl, ho, hb3⟩
  have hgB : W2.heap.size ≤ g ∧ g < w3.heap.size := by
    rcases ho.2 with ⟨h, -⟩ | ⟨g', cp, cur, h, hB, hh, -⟩
    · cases h
    · cases h
      exact ⟨hB, lt_of_block hh⟩
  have hnum : IsNums w3 g zs := by
    refine ⟨hgB.2, hwf, fun j hj => ?_, fun j hj => ho.frozenAt j⟩
    rw [ho.cellAt j (by omega)]
    simp [List.getD, hj]
  have hs3 := hs2.onW hb3
  have hc3 := hc2.onW (Nat.le_of_lt hs2.lt) hb3
  have HB3 := hide ((unhide HB2).trans (hb3.mono (unhide HB2).size))
  have hne : w.heap.size < g := Nat.lt_of_lt_of_le hs2.lt hgB.1
  clear LT ho hb3 hgB hs2 hc2 HB2 hwf
  have L := hide (next w.heap.size m' _ 5 _ hs3 hc3 (by omega) (by omega) (by omega))
  have hlt3 := hs3.lt
  clear hs3 hc3
  have HN := hide hnum
  clear hnum
  go_wp2_with fail
  refine (unhide L).mono ?_
  rintro e w5 ⟨r, rfl, hr, hs5, hc5, hg5⟩
  have HN5 := hide ((unhide HN).keep hg5 (by omega))
  have HB5 := hide ((unhide HB3).grown hg5 (Nat.le_of_lt hlt3) (fun k hk => by simp at hk; omega))
  clear hg5 HB3 HN L
  by_cases r0 : r = 0
  · subst r0
    have L := hide (next w.heap.size (m' + 1) _ 8 _ hs5 hc5 (by omega) (by omega) (by omega))
    have hlt5 := hs5.lt
    clear hs5 hc5
    go_wp2_with fail
    refine (unhide L).mono ?_
    rintro e w6 ⟨i, rfl, hi, hs6, hc6, hg6⟩
    have HN6 := hide ((unhide HN5).keep hg6 (by omega))
    have HB6 := hide ((unhide HB5).grown hg6 (Nat.le_of_lt hlt5) (fun k hk => by simp at hk; omega))
    clear hg6 HB5 HN5 L
    have hg6 : g < w6.heap.size := (unhide HN6).1
    have HNa : Hid (IsNums (w6.alloc (.cells #[.int .i64 0, .int .i64 1, .int .i64 2, .int .i64 1000] 2)) g zs) := (unhide HN6).keep (World.grownBy_alloc w6 _ (some w6.heap.size)) (by omega)
    have hsa := hs6.alloc (.cells #[.int .i64 0, .int .i64 1, .int .i64 2, .int .i64 1000] 2)
    have L := hide (pick w.heap.size (m' + 1 + 1) w6.heap.size (.slice ao len cap) [0, 1, 2, 1000] _ hsa (hc6.alloc (Nat.le_of_lt hs6.lt) _) (by omega) (by simp) (by simp) (heap_alloc_new w6 _) (by have := hs6.lt; omega))
    have HBa := hide ((unhide HB6).alloc (Nat.le_of_lt hs6.lt) (.cells #[.int .i64 0, .int .i64 1, .int .i64 2, .int .i64 1000] 2))
    have hlt6 := hsa.lt
    clear hs6 hc6 HB6 HN6 hsa
    go_wp2_with fail
    refine (unhide L).mono ?_
    rintro e w7 ⟨c, rfl, hc, hs7, hc7, hg7⟩
    have hn7 := (unhide HNa).keep hg7 (by omega)
    have HB7 := hide ((unhide HBa).grown hg7 (Nat.le_of_lt hlt6) (fun k hk => by simp at hk; omega))
    have hcb : 0 ≤ c ∧ c ≤ 1000 := by simp at hc; omega
    have hi2 : i < zs.length := by omega
    have HF := hide (hn7.set hi2 c (wf_of_bd (by omega)))
    obtain ⟨hlt, -, hx2, hx3⟩ := hn7
    have k0 := hx2 i hi2
    have k1 := hx3 i hi2
    clear hs7 hc7 hg7 hc hx2 hx3 L HNa HBa hlt6 hi2
    go_wp2_with fail
    go_ret
    have hh := (unhide HF).ints (cap := 8) (k := 8) (by simp; omega)
    exact ⟨_, _, _, rfl, hh, by omega, (unhide HB7).setCell (by show w.heap.size ≤ g; omega) _⟩
  · by_cases r1 : r = 1
    · subst r1
      have L := hide (next w.heap.size (m' + 1) _ 8 _ hs5 hc5 (by omega) (by omega) (by omega))
      have hlt5 := hs5.lt
      clear hs5 hc5
      go_wp2_with fail
      refine (unhide L).mono ?_
      rintro e w6 ⟨i, rfl, hi, hs6, hc6, hg6⟩
      have HN6 := hide ((unhide HN5).keep hg6 (by omega))
      have HB6 := hide ((unhide HB5).grown hg6 (Nat.le_of_lt hlt5) (fun k hk => by simp at hk; omega))
      have hi8 : i ≤ 8 := by omega
      clear hg6 HB5 HN5 L hs6 hc6
      go_wp2_with fail
      go_ret
      exact ⟨_, _, _, rfl, (unhide HN6).ints (by omega), by omega, unhide HB6⟩
    · have n0 : ((r : Int) == 0) = false := by simp; omega
      have n1 : ((r : Int) == 1) = false := by simp; omega
      clear hs5 hc5
      go_wp2_with fail
      go_ret
      exact ⟨_, _, _, rfl, (unhide HN5).ints (k := 8) (by omega), by omega, unhide HB5⟩

end Go.Proofs.YtjofcmdlcoganaaGreatDoor

namespace Go.Proofs.YtjofcmdlcoganaaGreatDoor
open Go.RowKit

set_option maxRecDepth 10000 in
set_option maxHeartbeats 4000000 in
theorem bentWrite (b m : Nat) (cv : Value) (w : World) (hs : SrcAt w b cv m) (hc : IsCode b w cv) (hm : m ≤ 1000000) :
    Calls Tryz.prog 36 #[.pointer (some ⟨b, 0, none⟩)] w fun e w' => ∃ (cs : List Value) (x : DWrite) (bl : List Nat) (m' : Nat), e = .returned (.agg cs.toArray) ∧ Lay.tWrite.lies w' cs x bl ∧ (∀ c ∈ bl, w.heap.size ≤ c ∧ c < w'.heap.size) ∧ SrcAt w' b cv m' ∧ m' ≤ m + 200 ∧ IsCode b w' cv ∧ w.grownBy w' (some b) := by
  have hbw := hs.lt
  have nb : Below w.heap.size w (w.alloc (.cells #[.int .i64 0, .int .i64 0, .slice none 0 0, .int .i64 0, .int .i64 0] 27)) := (Below.refl _ _).alloc (Nat.le_refl _) _
  have bR : Box w.heap.size #[.int .i64 0, .int .i64 0, .slice none 0 0, .int .i64 0, .int .i64 0] 27 (w.alloc (.cells #[.int .i64 0, .int .i64 0, .slice none 0 0, .int .i64 0, .int .i64 0] 27)) w.heap.size := newBox (Nat.le_refl _)
  have s0 := hs.onW nb
  have c0 := hc.onW (Nat.le_of_lt hbw) nb
  clear hs hc
  go_enter Tryz.func36, Tryz.ntmps36
  go_wp2_with fail
  generalize w.alloc (.cells #[.int .i64 0, .int .i64 0, .slice none 0 0, .int .i64 0, .int .i64 0] 27) = W0 at *
  refine (drawWrite b m cv W0 s0 c0 hm).mono ?_
  rintro e w1 ⟨cs, x, bl, m', rfl, hl, hbl, s1, hm', c1, g1⟩
  obtain ⟨a2, d2, bv, rfl, rfl, wk, wi, hlv, wse, wsq⟩ := lies_Write.1 hl
  have hW0 := bR.lt
  have E1 : Ext (fun q => q = b ∨ w.heap.size ≤ q) w w1 := (ext_of_below nb _).trans ((ext_grown g1).mono fun k _ h => Or.inl h)
  have bR1 := bR.ext (ext_grown g1) (by omega)
  have nb2 : Below w1.heap.size w1 (w1.alloc (.cells #[.int .i64 x.kind, .int .i64 x.id, .slice a2 x.vec.length d2, .int .i64 x.session, .int .i64 x.seq] 27)) := (Below.refl _ _).alloc (Nat.le_refl _) _
  have bX : Box w1.heap.size #[.int .i64 x.kind, .int .i64 x.id, .slice a2 x.vec.length d2, .int .i64 x.session, .int .i64 x.seq] 27 (w1.alloc (.cells #[.int .i64 x.kind, .int .i64 x.id, .slice a2 x.vec.length d2, .int .i64 x.session, .int .i64 x.seq] 27)) w1.heap.size := newBox (Nat.le_refl _)
  have hz1 : w.heap.size < w1.heap.size := bR1.lt
  have L := hide (next b m' cv 12 _ (s1.onW nb2) (c1.onW (by omega) nb2) (by omega) (by omega) (by omega))
  have HE := hide (E1.trans (ext_of_below nb2 _))
  have HR := hide (bR1.keep nb2)
  have HX := hide bX
  have HLV := hide ((Lay.sl Lay.int).keep hlv fun c hc => nb2.block c ((Lay.sl Lay.int).lt hlv c hc))
  have HBL : Hid (∀ c ∈ bl, w.heap.size < c ∧ c < w1.heap.size) := fun c hc => by have := hbl c hc; omega
  clear nb bR s0 c0 hl hbl s1 c1 g1 E1 bR1 nb2 bX hlv
  go_wp2_with fail
  refine (unhide L).mono ?_
  generalize w1.alloc (.cells #[.int .i64 x.kind, .int .i64 x.id, .slice a2 x.vec.length d2, .int .i64 x.session, .int .i64 x.seq] 27) = W2 at *
  rintro e w2 ⟨r, rfl, hr, s2, c2, g2⟩
  have hX2 := (unhide HX).lt
  replace HE := hide ((unhide HE).trans ((ext_grown g2).mono fun k _ h => Or.inl h))
  replace HR := hide ((unhide HR).ext (ext_grown g2) (by omega))
  replace HX := hide ((unhide HX).ext (ext_grown g2) (by omega))
  replace HLV := hide ((Lay.sl Lay.int).keep (unhide HLV) fun c hc => g2.block c ((Lay.sl Lay.int).lt (unhide HLV) c hc) (fun e => by
    have h1 := unhide HBL c hc
    have h2 : c = b := Option.some.inj e
    omega))
  have HS := hide s2
  have HC := hide c2
  clear s2 c2 g2 L hr
  by_cases h0 : r = 0
  · subst h0
    have nb3 : Below w2.heap.size w2 (w2.alloc (.cells #[.int .i64 0, .int .i64 1, .int .i64 2, .int .i64 3] 2)) := (Below.refl _ _).alloc (Nat.le_refl _) _
    have hg3 := heap_alloc_new w2 (.cells #[.int .i64 0, .int .i64 1, .int .i64 2, .int .i64 3] 2)
    have hz2 : w1.heap.size < w2.heap.size := (unhide HX).lt
    have L := hide (pick b (m' + 1) w2.heap.size cv [0, 1, 2, 3] _ ((unhide HS).onW nb3) ((unhide HC).onW (by omega) nb3) (by omega) (by simp) (by simp) hg3 (by omega))
    replace HE := hide ((unhide HE).trans (ext_of_below nb3 _))
    replace HR := hide ((unhide HR).keep nb3)
    replace HX := hide ((unhide HX).keep nb3)
    replace HLV := hide ((Lay.sl Lay.int).keep (unhide HLV) fun c hc => nb3.block c ((Lay.sl Lay.int).lt (unhide HLV) c hc))
    clear nb3 hg3 HS HC
    go_wp2_with fail
    refine (unhide L).mono ?_
    generalize w2.alloc (.cells #[.int .i64 0, .int .i64 1, .int .i64 2, .int .i64 3] 2) = W3 at *
    rintro e w3 ⟨p, rfl, hp, s3, c3, g3⟩
    have hpb : 0 ≤ p ∧ p ≤ 1000 := by
      simp only [List.mem_cons, List.not_mem_nil, or_false] at hp
      omega
    replace HE := hide ((unhide HE).trans ((ext_grown g3).mono fun k _ h => Or.inl h))
    replace HR := hide ((unhide HR).ext (ext_grown g3) (by omega))
    replace HX := hide ((unhide HX).ext (ext_grown g3) (by omega))
    replace HLV := hide ((Lay.sl Lay.int).keep (unhide HLV) fun c hc => g3.block c ((Lay.sl Lay.int).lt (unhide HLV) c hc) (fun e => by
      have h1 := unhide HBL c hc
      have h2 : c = b := Option.some.inj e
      omega))
    have HS := hide s3
    have HC := hide c3
    clear s3 c3 g3 L
    have x0 : w3.cell? ⟨w1.heap.size, 0, none⟩ = some (.int .i64 x.kind) := (unhide HX).at 0 _ rfl
    have x1 : w3.cell? ⟨w1.heap.size, 1, none⟩ = some (.int .i64 x.id) := (unhide HX).at 1 _ rfl
    have x2 : w3.cell? ⟨w1.heap.size, 2, none⟩ = some (.slice a2 x.vec.length d2) := (unhide HX).at 2 _ rfl
    have x3 : w3.cell? ⟨w1.heap.size, 3, none⟩ = some (.int .i64 x.session) := (unhide HX).at 3 _ rfl
    have x4 : w3.cell? ⟨w1.heap.size, 4, none⟩ = some (.int .i64 x.seq) := (unhide HX).at 4 _ rfl
    have xf := (unhide HX).soft
    have xl := (unhide HX).lt
    have z0 : w3.cell? ⟨w.heap.size, 0, none⟩ = some (.int .i64 0) := (unhide HR).at 0 _ rfl
    have z1 : w3.cell? ⟨w.heap.size, 1, none⟩ = some (.int .i64 0) := (unhide HR).at 1 _ rfl
    have z2 : w3.cell? ⟨w.heap.size, 2, none⟩ = some (.slice none 0 0) := (unhide HR).at 2 _ rfl
    have z3 : w3.cell? ⟨w.heap.size, 3, none⟩ = some (.int .i64 0) := (unhide HR).at 3 _ rfl
    have z4 : w3.cell? ⟨w.heap.size, 4, none⟩ = some (.int .i64 0) := (unhide HR).at 4 _ rfl
    have zf := (unhide HR).soft
    have zl := (unhide HR).lt
    have hE9 : ∀ u0 u1 u2 u3 u4 u5, Ext (fun c => c = w1.heap.size ∨ c = w.heap.size) w3 ((((((w3.setCell ⟨w1.heap.size, 0, none⟩ u0).setCell ⟨w.heap.size, 0, none⟩ u1).setCell ⟨w.heap.size, 1, none⟩ u2).setCell ⟨w.heap.size, 2, none⟩ u3).setCell ⟨w.heap.size, 3, none⟩ u4).setCell ⟨w.heap.size, 4, none⟩ u5) := fun u0 u1 u2 u3 u4 u5 => (((((((Ext.refl _ _).setCell _ _ (Or.inl rfl)).setCell _ _ (Or.inr rfl)).setCell _ _ (Or.inr rfl)).setCell _ _ (Or.inr rfl)).setCell _ _ (Or.inr rfl)).setCell _ _ (Or.inr rfl))
    go_wp2_with fail
    refine bodyPost_ret (v := .agg #[.int .i64 p, .int .i64 x.id, .slice a2 x.vec.length d2, .int .i64 x.session, .int .i64 x.seq]) (by simp [results, Tryz.results36, go_sem, z0, z1, z2, z3, z4]) rfl ?_
    have hlw : Lay.tWrite.lies w3 [.int .i64 p, .int .i64 x.id, .slice a2 x.vec.length d2, .int .i64 x.session, .int .i64 x.seq] ⟨p, x.id, x.vec, x.session, x.seq⟩ bl := lies_Write.2 ⟨a2, d2, bl, rfl, rfl, (show (Lit.int .i64 p).wf = true from wf_of_bd (by omega)), wi, unhide HLV, wse, wsq⟩
    have hbl9 : ∀ c ∈ bl, w.heap.size < c ∧ c ≠ w1.heap.size := fun c hc => by have := unhide HBL c hc; omega
    obtain ⟨cs9, x9, bl9, m9, e9, q1, q2, q3, q4, q5, q6⟩ := closeW (m := m + 100) (unhide HE) (hE9 _ _ _ _ _ _) (Nat.le_of_lt hz1) hbw (unhide HS) (unhide HC) (by omega) hlw hbl9
    exact ⟨cs9, x9, bl9, m9, e9, q1, q2, q3, by omega, q5, q6⟩
  · have n0 : ((r : Int) == 0) = false := by simp; omega
    by_cases h1 : r = 1
    · subst h1
      have nb3 : Below w2.heap.size w2 (w2.alloc (.cells #[.int .i64 0, .int .i64 999, .int .i64 1000] 2)) := (Below.refl _ _).alloc (Nat.le_refl _) _
      have hg3 := heap_alloc_new w2 (.cells #[.int .i64 0, .int .i64 999, .int .i64 1000] 2)
      have hz2 : w1.heap.size < w2.heap.size := (unhide HX).lt
      have L := hide (pick b (m' + 1) w2.heap.size cv [0, 999, 1000] _ ((unhide HS).onW nb3) ((unhide HC).onW (by omega) nb3) (by omega) (by simp) (by simp) hg3 (by omega))
      replace HE := hide ((unhide HE).trans (ext_of_below nb3 _))
      replace HR := hide ((unhide HR).keep nb3)
      replace HX := hide ((unhide HX).keep nb3)
      replace HLV := hide ((Lay.sl Lay.int).keep (unhide HLV) fun c hc => nb3.block c ((Lay.sl Lay.int).lt (unhide HLV) c hc))
      clear nb3 hg3 HS HC
      go_wp2_with fail
      refine (unhide L).mono ?_
      generalize w2.alloc (.cells #[.int .i64 0, .int .i64 999, .int .i64 1000] 2) = W3 at *
      rintro e w3 ⟨p, rfl, hp, s3, c3, g3⟩
      have hpb : 0 ≤ p ∧ p ≤ 1000 := by
        simp only [List.mem_cons, List.not_mem_nil, or_false] at hp
        omega
      replace HE := hide ((unhide HE).trans ((ext_grown g3).mono fun k _ h => Or.inl h))
      replace HR := hide ((unhide HR).ext (ext_grown g3) (by omega))
      replace HX := hide ((unhide HX).ext (ext_grown g3) (by omega))
      replace HLV := hide ((Lay.sl Lay.int).keep (unhide HLV) fun c hc => g3.block c ((Lay.sl Lay.int).lt (unhide HLV) c hc) (fun e => by
        have h1 := unhide HBL c hc
        have h2 : c = b := Option.some.inj e
        omega))
      have HS := hide s3
      have HC := hide c3
      clear s3 c3 g3 L
      have x0 : w3.cell? ⟨w1.heap.size, 0, none⟩ = some (.int .i64 x.kind) := (unhide HX).at 0 _ rfl
      have x1 : w3.cell? ⟨w1.heap.size, 1, none⟩ = some (.int .i64 x.id) := (unhide HX).at 1 _ rfl
      have x2 : w3.cell? ⟨w1.heap.size, 2, none⟩ = some (.slice a2 x.vec.length d2) := (unhide HX).at 2 _ rfl
      have x3 : w3.cell? ⟨w1.heap.size, 3, none⟩ = some (.int .i64 x.session) := (unhide HX).at 3 _ rfl
      have x4 : w3.cell? ⟨w1.heap.size, 4, none⟩ = some (.int .i64 x.seq) := (unhide HX).at 4 _ rfl
      have xf := (unhide HX).soft
      have xl := (unhide HX).lt
      have z0 : w3.cell? ⟨w.heap.size, 0, none⟩ = some (.int .i64 0) := (unhide HR).at 0 _ rfl
      have z1 : w3.cell? ⟨w.heap.size, 1, none⟩ = some (.int .i64 0) := (unhide HR).at 1 _ rfl
      have z2 : w3.cell? ⟨w.heap.size, 2, none⟩ = some (.slice none 0 0) := (unhide HR).at 2 _ rfl
      have z3 : w3.cell? ⟨w.heap.size, 3, none⟩ = some (.int .i64 0) := (unhide HR).at 3 _ rfl
      have z4 : w3.cell? ⟨w.heap.size, 4, none⟩ = some (.int .i64 0) := (unhide HR).at 4 _ rfl
      have zf := (unhide HR).soft
      have zl := (unhide HR).lt
      have hE9 : ∀ u0 u1 u2 u3 u4 u5, Ext (fun c => c = w1.heap.size ∨ c = w.heap.size) w3 ((((((w3.setCell ⟨w1.heap.size, 1, none⟩ u0).setCell ⟨w.heap.size, 0, none⟩ u1).setCell ⟨w.heap.size, 1, none⟩ u2).setCell ⟨w.heap.size, 2, none⟩ u3).setCell ⟨w.heap.size, 3, none⟩ u4).setCell ⟨w.heap.size, 4, none⟩ u5) := fun u0 u1 u2 u3 u4 u5 => (((((((Ext.refl _ _).setCell _ _ (Or.inl rfl)).setCell _ _ (Or.inr rfl)).setCell _ _ (Or.inr rfl)).setCell _ _ (Or.inr rfl)).setCell _ _ (Or.inr rfl)).setCell _ _ (Or.inr rfl))
      go_wp2_with fail
      refine bodyPost_ret (v := .agg #[.int .i64 x.kind, .int .i64 p, .slice a2 x.vec.length d2, .int .i64 x.session, .int .i64 x.seq]) (by simp [results, Tryz.results36, go_sem, z0, z1, z2, z3, z4]) rfl ?_
      have hlw : Lay.tWrite.lies w3 [.int .i64 x.kind, .int .i64 p, .slice a2 x.vec.length d2, .int .i64 x.session, .int .i64 x.seq] ⟨x.kind, p, x.vec, x.session, x.seq⟩ bl := lies_Write.2 ⟨a2, d2, bl, rfl, rfl, wk, (show (Lit.int .i64 p).wf = true from wf_of_bd (by omega)), unhide HLV, wse, wsq⟩
      have hbl9 : ∀ c ∈ bl, w.heap.size < c ∧ c ≠ w1.heap.size := fun c hc => by have := unhide HBL c hc; omega
      obtain ⟨cs9, x9, bl9, m9, e9, q1, q2, q3, q4, q5, q6⟩ := closeW (m := m + 100) (unhide HE) (hE9 _ _ _ _ _ _) (Nat.le_of_lt hz1) hbw (unhide HS) (unhide HC) (by omega) hlw hbl9
      exact ⟨cs9, x9, bl9, m9, e9, q1, q2, q3, by omega, q5, q6⟩
    · have n1 : ((r : Int) == 1) = false := by simp; omega
      by_cases h2 : r = 2
      · subst h2
        have nb3 : Below w2.heap.size w2 (w2.alloc (.cells #[.int .i64 0, .int .i64 9, .int .i64 10] 2)) := (Below.refl _ _).alloc (Nat.le_refl _) _
        have hg3 := heap_alloc_new w2 (.cells #[.int .i64 0, .int .i64 9, .int .i64 10] 2)
        have hz2 : w1.heap.size < w2.heap.size := (unhide HX).lt
        have L := hide (pick b (m' + 1) w2.heap.size cv [0, 9, 10] _ ((unhide HS).onW nb3) ((unhide HC).onW (by omega) nb3) (by omega) (by simp) (by simp) hg3 (by omega))
        replace HE := hide ((unhide HE).trans (ext_of_below nb3 _))
        replace HR := hide ((unhide HR).keep nb3)
        replace HX := hide ((unhide HX).keep nb3)
        replace HLV := hide ((Lay.sl Lay.int).keep (unhide HLV) fun c hc => nb3.block c ((Lay.sl Lay.int).lt (unhide HLV) c hc))
        clear nb3 hg3 HS HC
        go_wp2_with fail
        refine (unhide L).mono ?_
        generalize w2.alloc (.cells #[.int .i64 0, .int .i64 9, .int .i64 10] 2) = W3 at *
        rintro e w3 ⟨p, rfl, hp, s3, c3, g3⟩
        have hpb : 0 ≤ p ∧ p ≤ 1000 := by
          simp only [List.mem_cons, List.not_mem_nil, or_false] at hp
          omega
        replace HE := hide ((unhide HE).trans ((ext_grown g3).mono fun k _ h => Or.inl h))
        replace HR := hide ((unhide HR).ext (ext_grown g3) (by omega))
        replace HX := hide ((unhide HX).ext (ext_grown g3) (by omega))
        replace HLV := hide ((Lay.sl Lay.int).keep (unhide HLV) fun c hc => g3.block c ((Lay.sl Lay.int).lt (unhide HLV) c hc) (fun e => by
          have h1 := unhide HBL c hc
          have h2 : c = b := Option.some.inj e
          omega))
        have HS := hide s3
        have HC := hide c3
        clear s3 c3 g3 L
        have x0 : w3.cell? ⟨w1.heap.size, 0, none⟩ = some (.int .i64 x.kind) := (unhide HX).at 0 _ rfl
        have x1 : w3.cell? ⟨w1.heap.size, 1, none⟩ = some (.int .i64 x.id) := (unhide HX).at 1 _ rfl
        have x2 : w3.cell? ⟨w1.heap.size, 2, none⟩ = some (.slice a2 x.vec.length d2) := (unhide HX).at 2 _ rfl
        have x3 : w3.cell? ⟨w1.heap.size, 3, none⟩ = some (.int .i64 x.session) := (unhide HX).at 3 _ rfl
        have x4 : w3.cell? ⟨w1.heap.size, 4, none⟩ = some (.int .i64 x.seq) := (unhide HX).at 4 _ rfl
        have xf := (unhide HX).soft
        have xl := (unhide HX).lt
        have z0 : w3.cell? ⟨w.heap.size, 0, none⟩ = some (.int .i64 0) := (unhide HR).at 0 _ rfl
        have z1 : w3.cell? ⟨w.heap.size, 1, none⟩ = some (.int .i64 0) := (unhide HR).at 1 _ rfl
        have z2 : w3.cell? ⟨w.heap.size, 2, none⟩ = some (.slice none 0 0) := (unhide HR).at 2 _ rfl
        have z3 : w3.cell? ⟨w.heap.size, 3, none⟩ = some (.int .i64 0) := (unhide HR).at 3 _ rfl
        have z4 : w3.cell? ⟨w.heap.size, 4, none⟩ = some (.int .i64 0) := (unhide HR).at 4 _ rfl
        have zf := (unhide HR).soft
        have zl := (unhide HR).lt
        have hE9 : ∀ u0 u1 u2 u3 u4 u5, Ext (fun c => c = w1.heap.size ∨ c = w.heap.size) w3 ((((((w3.setCell ⟨w1.heap.size, 3, none⟩ u0).setCell ⟨w.heap.size, 0, none⟩ u1).setCell ⟨w.heap.size, 1, none⟩ u2).setCell ⟨w.heap.size, 2, none⟩ u3).setCell ⟨w.heap.size, 3, none⟩ u4).setCell ⟨w.heap.size, 4, none⟩ u5) := fun u0 u1 u2 u3 u4 u5 => (((((((Ext.refl _ _).setCell _ _ (Or.inl rfl)).setCell _ _ (Or.inr rfl)).setCell _ _ (Or.inr rfl)).setCell _ _ (Or.inr rfl)).setCell _ _ (Or.inr rfl)).setCell _ _ (Or.inr rfl))
        go_wp2_with fail
        refine bodyPost_ret (v := .agg #[.int .i64 x.kind, .int .i64 x.id, .slice a2 x.vec.length d2, .int .i64 p, .int .i64 x.seq]) (by simp [results, Tryz.results36, go_sem, z0, z1, z2, z3, z4]) rfl ?_
        have hlw : Lay.tWrite.lies w3 [.int .i64 x.kind, .int .i64 x.id, .slice a2 x.vec.length d2, .int .i64 p, .int .i64 x.seq] ⟨x.kind, x.id, x.vec, p, x.seq⟩ bl := lies_Write.2 ⟨a2, d2, bl, rfl, rfl, wk, wi, unhide HLV, (show (Lit.int .i64 p).wf = true from wf_of_bd (by omega)), wsq⟩
        have hbl9 : ∀ c ∈ bl, w.heap.size < c ∧ c ≠ w1.heap.size := fun c hc => by have := unhide HBL c hc; omega
        obtain ⟨cs9, x9, bl9, m9, e9, q1, q2, q3, q4, q5, q6⟩ := closeW (m := m + 100) (unhide HE) (hE9 _ _ _ _ _ _) (Nat.le_of_lt hz1) hbw (unhide HS) (unhide HC) (by omega) hlw hbl9
        exact ⟨cs9, x9, bl9, m9, e9, q1, q2, q3, by omega, q5, q6⟩
      · have n2 : ((r : Int) == 2) = false := by simp; omega
        by_cases h3 : r = 3
        · subst h3
          have nb3 : Below w2.heap.size w2 (w2.alloc (.cells #[.int .i64 0, .int .i64 999, .int .i64 1000] 2)) := (Below.refl _ _).alloc (Nat.le_refl _) _
          have hg3 := heap_alloc_new w2 (.cells #[.int .i64 0, .int .i64 999, .int .i64 1000] 2)
          have hz2 : w1.heap.size < w2.heap.size := (unhide HX).lt
          have L := hide (pick b (m' + 1) w2.heap.size cv [0, 999, 1000] _ ((unhide HS).onW nb3) ((unhide HC).onW (by omega) nb3) (by omega) (by simp) (by simp) hg3 (by omega))
          replace HE := hide ((unhide HE).trans (ext_of_below nb3 _))
          replace HR := hide ((unhide HR).keep nb3)
          replace HX := hide ((unhide HX).keep nb3)
          replace HLV := hide ((Lay.sl Lay.int).keep (unhide HLV) fun c hc => nb3.block c ((Lay.sl Lay.int).lt (unhide HLV) c hc))
          clear nb3 hg3 HS HC
          go_wp2_with fail
          refine (unhide L).mono ?_
          generalize w2.alloc (.cells #[.int .i64 0, .int .i64 999, .int .i64 1000] 2) = W3 at *
          rintro e w3 ⟨p, rfl, hp, s3, c3, g3⟩
          have hpb : 0 ≤ p ∧ p ≤ 1000 := by
            simp only [List.mem_cons, List.not_mem_nil, or_false] at hp
            omega
          replace HE := hide ((unhide HE).trans ((ext_grown g3).mono fun k _ h => Or.inl h))
          replace HR := hide ((unhide HR).ext (ext_grown g3) (by omega))
          replace HX := hide ((unhide HX).ext (ext_grown g3) (by omega))
          replace HLV := hide ((Lay.sl Lay.int).keep (unhide HLV) fun c hc => g3.block c ((Lay.sl Lay.int).lt (unhide HLV) c hc) (fun e => by
            have h1 := unhide HBL c hc
            have h2 : c = b := Option.some.inj e
            omega))
          have HS := hide s3
          have HC := hide c3
          clear s3 c3 g3 L
          have x0 : w3.cell? ⟨w1.heap.size, 0, none⟩ = some (.int .i64 x.kind) := (unhide HX).at 0 _ rfl
          have x1 : w3.cell? ⟨w1.heap.size, 1, none⟩ = some (.int .i64 x.id) := (unhide HX).at 1 _ rfl
          have x2 : w3.cell? ⟨w1.heap.size, 2, none⟩ = some (.slice a2 x.vec.length d2) := (unhide HX).at 2 _ rfl
          have x3 : w3.cell? ⟨w1.heap.size, 3, none⟩ = some (.int .i64 x.session) := (unhide HX).at 3 _ rfl
          have x4 : w3.cell? ⟨w1.heap.size, 4, none⟩ = some (.int .i64 x.seq) := (unhide HX).at 4 _ rfl
          have xf := (unhide HX).soft
          have xl := (unhide HX).lt
          have z0 : w3.cell? ⟨w.heap.size, 0, none⟩ = some (.int .i64 0) := (unhide HR).at 0 _ rfl
          have z1 : w3.cell? ⟨w.heap.size, 1, none⟩ = some (.int .i64 0) := (unhide HR).at 1 _ rfl
          have z2 : w3.cell? ⟨w.heap.size, 2, none⟩ = some (.slice none 0 0) := (unhide HR).at 2 _ rfl
          have z3 : w3.cell? ⟨w.heap.size, 3, none⟩ = some (.int .i64 0) := (unhide HR).at 3 _ rfl
          have z4 : w3.cell? ⟨w.heap.size, 4, none⟩ = some (.int .i64 0) := (unhide HR).at 4 _ rfl
          have zf := (unhide HR).soft
          have zl := (unhide HR).lt
          have hE9 : ∀ u0 u1 u2 u3 u4 u5, Ext (fun c => c = w1.heap.size ∨ c = w.heap.size) w3 ((((((w3.setCell ⟨w1.heap.size, 4, none⟩ u0).setCell ⟨w.heap.size, 0, none⟩ u1).setCell ⟨w.heap.size, 1, none⟩ u2).setCell ⟨w.heap.size, 2, none⟩ u3).setCell ⟨w.heap.size, 3, none⟩ u4).setCell ⟨w.heap.size, 4, none⟩ u5) := fun u0 u1 u2 u3 u4 u5 => (((((((Ext.refl _ _).setCell _ _ (Or.inl rfl)).setCell _ _ (Or.inr rfl)).setCell _ _ (Or.inr rfl)).setCell _ _ (Or.inr rfl)).setCell _ _ (Or.inr rfl)).setCell _ _ (Or.inr rfl))
          go_wp2_with fail
          refine bodyPost_ret (v := .agg #[.int .i64 x.kind, .int .i64 x.id, .slice a2 x.vec.length d2, .int .i64 x.session, .int .i64 p]) (by simp [results, Tryz.results36, go_sem, z0, z1, z2, z3, z4]) rfl ?_
          have hlw : Lay.tWrite.lies w3 [.int .i64 x.kind, .int .i64 x.id, .slice a2 x.vec.length d2, .int .i64 x.session, .int .i64 p] ⟨x.kind, x.id, x.vec, x.session, p⟩ bl := lies_Write.2 ⟨a2, d2, bl, rfl, rfl, wk, wi, unhide HLV, wse, (show (Lit.int .i64 p).wf = true from wf_of_bd (by omega))⟩
          have hbl9 : ∀ c ∈ bl, w.heap.size < c ∧ c ≠ w1.heap.size := fun c hc => by have := unhide HBL c hc; omega
          obtain ⟨cs9, x9, bl9, m9, e9, q1, q2, q3, q4, q5, q6⟩ := closeW (m := m + 100) (unhide HE) (hE9 _ _ _ _ _ _) (Nat.le_of_lt hz1) hbw (unhide HS) (unhide HC) (by omega) hlw hbl9
          exact ⟨cs9, x9, bl9, m9, e9, q1, q2, q3, by omega, q5, q6⟩
        · have n3 : ((r : Int) == 3) = false := by simp; omega
          by_cases h4 : r = 4
          · subst h4
            have L := hide (bent b (m' + 1) cv w2 (unhide HS) (unhide HC) (by omega))
            have hz2 : w1.heap.size < w2.heap.size := (unhide HX).lt
            clear HS HC
            go_wp2_with fail
            refine (unhide L).mono ?_
            rintro e w3 ⟨v3, zs, m3, rfl, hzs, hNI, hm3, s3, c3, g3⟩
            obtain ⟨bz, hlz, hbz⟩ := hNI.lies (by omega)
            obtain ⟨a3, d3, rfl⟩ := open_sl ⟨bz, hlz⟩
            replace HE := hide ((unhide HE).trans ((ext_grown g3).mono fun k _ h => Or.inl h))
            replace HR := hide ((unhide HR).ext (ext_grown g3) (by omega))
            replace HX := hide ((unhide HX).ext (ext_grown g3) (by omega))
            replace HLV := hide ((Lay.sl Lay.int).keep (unhide HLV) fun c hc => g3.block c ((Lay.sl Lay.int).lt (unhide HLV) c hc) (fun e => by
              have h1 := unhide HBL c hc
              have h2 : c = b := Option.some.inj e
              omega))
            have HS := hide s3
            have HC := hide c3
            clear s3 c3 g3 L
            have x0 : w3.cell? ⟨w1.heap.size, 0, none⟩ = some (.int .i64 x.kind) := (unhide HX).at 0 _ rfl
            have x1 : w3.cell? ⟨w1.heap.size, 1, none⟩ = some (.int .i64 x.id) := (unhide HX).at 1 _ rfl
            have x2 : w3.cell? ⟨w1.heap.size, 2, none⟩ = some (.slice a2 x.vec.length d2) := (unhide HX).at 2 _ rfl
            have x3 : w3.cell? ⟨w1.heap.size, 3, none⟩ = some (.int .i64 x.session) := (unhide HX).at 3 _ rfl
            have x4 : w3.cell? ⟨w1.heap.size, 4, none⟩ = some (.int .i64 x.seq) := (unhide HX).at 4 _ rfl
            have xf := (unhide HX).soft
            have xl := (unhide HX).lt
            have z0 : w3.cell? ⟨w.heap.size, 0, none⟩ = some (.int .i64 0) := (unhide HR).at 0 _ rfl
            have z1 : w3.cell? ⟨w.heap.size, 1, none⟩ = some (.int .i64 0) := (unhide HR).at 1 _ rfl
            have z2 : w3.cell? ⟨w.heap.size, 2, none⟩ = some (.slice none 0 0) := (unhide HR).at 2 _ rfl
            have z3 : w3.cell? ⟨w.heap.size, 3, none⟩ = some (.int .i64 0) := (unhide HR).at 3 _ rfl
            have z4 : w3.cell? ⟨w.heap.size, 4, none⟩ = some (.int .i64 0) := (unhide HR).at 4 _ rfl
            have zf := (unhide HR).soft
            have zl := (unhide HR).lt
            have hE9 : ∀ u0 u1 u2 u3 u4 u5, Ext (fun c => c = w1.heap.size ∨ c = w.heap.size) w3 ((((((w3.setCell ⟨w1.heap.size, 2, none⟩ u0).setCell ⟨w.heap.size, 0, none⟩ u1).setCell ⟨w.heap.size, 1, none⟩ u2).setCell ⟨w.heap.size, 2, none⟩ u3).setCell ⟨w.heap.size, 3, none⟩ u4).setCell ⟨w.heap.size, 4, none⟩ u5) := fun u0 u1 u2 u3 u4 u5 => (((((((Ext.refl _ _).setCell _ _ (Or.inl rfl)).setCell _ _ (Or.inr rfl)).setCell _ _ (Or.inr rfl)).setCell _ _ (Or.inr rfl)).setCell _ _ (Or.inr rfl)).setCell _ _ (Or.inr rfl))
            go_wp2_with fail
            refine bodyPost_ret (v := .agg #[.int .i64 x.kind, .int .i64 x.id, .slice a3 zs.length d3, .int .i64 x.session, .int .i64 x.seq]) (by simp [results, Tryz.results36, go_sem, z0, z1, z2, z3, z4]) rfl ?_
            have hlw : Lay.tWrite.lies w3 [.int .i64 x.kind, .int .i64 x.id, .slice a3 zs.length d3, .int .i64 x.session, .int .i64 x.seq] ⟨x.kind, x.id, zs, x.session, x.seq⟩ bz := lies_Write.2 ⟨a3, d3, bz, rfl, rfl, wk, wi, hlz, wse, wsq⟩
            have hbl9 : ∀ c ∈ bz, w.heap.size < c ∧ c ≠ w1.heap.size := fun c hc => by have := hbz c hc; omega
            obtain ⟨cs9, x9, bl9, m9, e9, q1, q2, q3, q4, q5, q6⟩ := closeW (m := m + 100) (unhide HE) (hE9 _ _ _ _ _ _) (Nat.le_of_lt hz1) hbw (unhide HS) (unhide HC) (by omega) hlw hbl9
            exact ⟨cs9, x9, bl9, m9, e9, q1, q2, q3, by omega, q5, q6⟩
          · have n4 : ((r : Int) == 4) = false := by simp; omega
            have x0 : w2.cell? ⟨w1.heap.size, 0, none⟩ = some (.int .i64 x.kind) := (unhide HX).at 0 _ rfl
            have x1 : w2.cell? ⟨w1.heap.size, 1, none⟩ = some (.int .i64 x.id) := (unhide HX).at 1 _ rfl
            have x2 : w2.cell? ⟨w1.heap.size, 2, none⟩ = some (.slice a2 x.vec.length d2) := (unhide HX).at 2 _ rfl
            have x3 : w2.cell? ⟨w1.heap.size, 3, none⟩ = some (.int .i64 x.session) := (unhide HX).at 3 _ rfl
            have x4 : w2.cell? ⟨w1.heap.size, 4, none⟩ = some (.int .i64 x.seq) := (unhide HX).at 4 _ rfl
            have xf := (unhide HX).soft
            have xl := (unhide HX).lt
            have z0 : w2.cell? ⟨w.heap.size, 0, none⟩ = some (.int .i64 0) := (unhide HR).at 0 _ rfl
            have z1 : w2.cell? ⟨w.heap.size, 1, none⟩ = some (.int .i64 0) := (unhide HR).at 1 _ rfl
            have z2 : w2.cell? ⟨w.heap.size, 2, none⟩ = some (.slice none 0 0) := (unhide HR).at 2 _ rfl
            have z3 : w2.cell? ⟨w.heap.size, 3, none⟩ = some (.int .i64 0) := (unhide HR).at 3 _ rfl
            have z4 : w2.cell? ⟨w.heap.size, 4, none⟩ = some (.int .i64 0) := (unhide HR).at 4 _ rfl
            have zf := (unhide HR).soft
            have zl := (unhide HR).lt
            have hE9 : ∀ u0 u1 u2 u3 u4, Ext (fun c => c = w1.heap.size ∨ c = w.heap.size) w2 (((((w2.setCell ⟨w.heap.size, 0, none⟩ u0).setCell ⟨w.heap.size, 1, none⟩ u1).setCell ⟨w.heap.size, 2, none⟩ u2).setCell ⟨w.heap.size, 3, none⟩ u3).setCell ⟨w.heap.size, 4, none⟩ u4) := fun u0 u1 u2 u3 u4 => ((((((Ext.refl _ _).setCell _ _ (Or.inr rfl)).setCell _ _ (Or.inr rfl)).setCell _ _ (Or.inr rfl)).setCell _ _ (Or.inr rfl)).setCell _ _ (Or.inr rfl))
            go_wp2_with fail
            refine bodyPost_ret (v := .agg #[.int .i64 x.kind, .int .i64 x.id, .slice a2 x.vec.length d2, .int .i64 x.session, .int .i64 x.seq]) (by simp [results, Tryz.results36, go_sem, z0, z1, z2, z3, z4]) rfl ?_
            have hlw : Lay.tWrite.lies w2 [.int .i64 x.kind, .int .i64 x.id, .slice a2 x.vec.length d2, .int .i64 x.session, .int .i64 x.seq] x bl := lies_Write.2 ⟨a2, d2, bl, rfl, rfl, wk, wi, unhide HLV, wse, wsq⟩
            have hbl9 : ∀ c ∈ bl, w.heap.size < c ∧ c ≠ w1.heap.size := fun c hc => by have := unhide HBL c hc; omega
            obtain ⟨cs9, x9, bl9, m9, e9, q1, q2, q3, q4, q5, q6⟩ := closeW (m := m + 100) (unhide HE) (hE9 _ _ _ _ _) (Nat.le_of_lt hz1) hbw (unhide HS) (unhide HC) (by omega) hlw hbl9
            exact ⟨cs9, x9, bl9, m9, e9, q1, q2, q3, by omega, q5, q6⟩

end Go.Proofs.YtjofcmdlcoganaaGreatDoor

namespace Go.Proofs.YtjofcmdlcoganaaGreatDoor
open Go.RowKit

set_option maxRecDepth 100000 in
set_option maxHeartbeats 2000000 in
theorem drawPack (ao : Option Addr) (len cap : Nat) (w : World) (hc : IsCode w.heap.size w (.slice ao len cap)) :
    Calls Tryz.prog 14 #[.slice ao len cap] w fun e w' => ∃ cs x, e = .returned (.agg cs.toArray) ∧ Lay.tWrite.Reads w' cs x ∧ Below w.heap.size w w' := by
  have n0 : Below w.heap.size w (w.alloc (.cells #[.int .i64 0, .int .i64 0, .slice none 0 0, .int .i64 0, .int .i64 0] 27)) := (Below.refl _ _).alloc (Nat.le_refl _) _
  have bR0 : Box 0 #[.int .i64 0, .int .i64 0, .slice none 0 0, .int .i64 0, .int .i64 0] 27 (w.alloc (.cells #[.int .i64 0, .int .i64 0, .slice none 0 0, .int .i64 0, .int .i64 0] 27)) w.heap.size := newBox (Nat.zero_le _)
  have hs0 : (w.alloc (.cells #[.int .i64 0, .int .i64 0, .slice none 0 0, .int .i64 0, .int .i64 0] 27)).heap.size = w.heap.size + 1 := by simp
  go_enter Tryz.func14, Tryz.ntmps14
  go_wp2_with fail
  generalize w.alloc (.cells #[.int .i64 0, .int .i64 0, .slice none 0 0, .int .i64 0, .int .i64 0] 27) = w0 at *
  refine (source ao len cap w0).mono ?_
  rintro e w1 ⟨rfl, rfl⟩
  have n1 : Below w0.heap.size w0 (w0.alloc (.cells #[.slice ao len cap, .int .i64 0] 74)) := (Below.refl _ _).alloc (Nat.le_refl _) _
  have s1 := src_new w0 (.slice ao len cap)
  rw [hs0] at s1
  have c1 : IsCode (w.heap.size + 1) (w0.alloc (.cells #[.slice ao len cap, .int .i64 0] 74)) (.slice ao len cap) := by
    have h1 := (hc.onW (Nat.le_refl _) n0)
    have h2 := h1.later (n1.mono (by omega))
    obtain ⟨ao', len', cap', e1, h3, h4⟩ := h2
    exact ⟨ao', len', cap', e1, h3, fun hp => by obtain ⟨b', off', e2, h5, h6⟩ := h4 hp; exact ⟨b', off', e2, by omega, h6⟩⟩
  have HR1 := hide (bR0.keep n1)
  have HB1 := hide (n0.trans (n1.mono n0.size))
  have hs1 : (w0.alloc (.cells #[.slice ao len cap, .int .i64 0] 74)).heap.size = w.heap.size + 2 := by simp; omega
  rw [hs0]
  clear n0 bR0 n1 hc
  generalize w0.alloc (.cells #[.slice ao len cap, .int .i64 0] 74) = w1 at *
  have HL := hide (bentWrite (w.heap.size + 1) 0 _ w1 s1 c1 (by omega))
  clear s1 c1
  go_wp2_with fail
  refine (unhide HL).mono ?_
  rintro e w3 ⟨cs, x, bl, m', rfl, hl, hbl, s3, hm', c3, g3⟩
  have bR := (unhide HR1).ext (ext_grown g3) (by omega)
  have HB3 := hide ((unhide HB1).grown g3 (unhide HB1).size (fun k hk => by simp at hk; omega))
  have HH := hide hl
  have HBL := hide hbl
  obtain ⟨a2, d2, bz, rfl, -⟩ := lies_Write.1 hl
  have r0 := bR.at 0 _ rfl
  have r1 := bR.at 1 _ rfl
  have r2 := bR.at 2 _ rfl
  have r3 := bR.at 3 _ rfl
  have r4 := bR.at 4 _ rfl
  have rf := bR.soft
  have rl := bR.lt
  clear bR hl hbl HL HR1 HB1 s3 c3 g3
  simp only [List.getElem_toArray, List.getElem_cons_zero, List.getElem_cons_succ] at r0 r1 r2 r3 r4
  go_wp2_with fail
  refine bodyPost_ret (v := .agg #[.int .i64 x.kind, .int .i64 x.id, .slice a2 x.vec.length d2, .int .i64 x.session, .int .i64 x.seq]) (by simp [results, Tryz.results14, go_sem, r0, r1, r2, r3, r4]) rfl ?_
  have hE := ext_setAll (fun q => q = w.heap.size) (Ext.refl _ w3) w.heap.size 0 [.int .i64 x.kind, .int .i64 x.id, .slice a2 x.vec.length d2, .int .i64 x.session, .int .i64 x.seq] rfl
  exact ⟨[.int .i64 x.kind, .int .i64 x.id, .slice a2 x.vec.length d2, .int .i64 x.session, .int .i64 x.seq], x, rfl, ⟨bl, Lay.tWrite.keep (unhide HH) fun c hc => hE.block c (Lay.tWrite.lt (unhide HH) c hc) (fun e => by have := (unhide HBL) c hc; omega)⟩, below_setAll (unhide HB3) w.heap.size 0 [.int .i64 x.kind, .int .i64 x.id, .slice a2 x.vec.length d2, .int .i64 x.session, .int .i64 x.seq] (Nat.le_refl _)⟩

end Go.Proofs.YtjofcmdlcoganaaGreatDoor

namespace Go.Proofs.YtjofcmdlcoganaaGreatDoor
open Go.RowKit

theorem big_no (ao : Option Addr) (len cap : Nat) (w : World) (hn : len ≤ 1048576) :
    Calls Tryz.prog 4 #[.slice ao len cap] w fun e w' => e = .returned (.bool false) ∧ w' = w := by
  have hd : decide (1048576 < (len : Int)) = false := by simp; omega
  go_enter Tryz.func4, Tryz.ntmps4
  go_wp2
  go_ret
  exact ⟨rfl, rfl⟩

theorem big_yes (ao : Option Addr) (len cap : Nat) (w : World) (hn : 1048576 < len) :
    Calls Tryz.prog 4 #[.slice ao len cap] w fun e w' => e = .returned (.bool true) ∧ w' = w := by
  have hd : decide (1048576 < (len : Int)) = true := by simp; omega
  go_enter Tryz.func4, Tryz.ntmps4
  go_wp2
  go_ret
  exact ⟨rfl, rfl⟩

/-- A function that computes: what it answers wherever w1 stands. -/
def Tells (P : Program) (f : Nat) (args : Array Value) (w1 : World) (v : Value) : Prop :=
  ∀ W, Below w1.heap.size w1 W → Calls P f args W fun e w' => e = .returned v ∧ Below W.heap.size W w'

theorem below_step {w1 W W' : World} (h : Below w1.heap.size w1 W) (k : Below W.heap.size W W') : Below w1.heap.size w1 W' := h.trans (k.mono h.size)

end Go.Proofs.YtjofcmdlcoganaaGreatDoor

namespace Go.Proofs.YtjofcmdlcoganaaGreatDoor
open Go.RowKit

set_option maxRecDepth 100000 in
set_option maxHeartbeats 1000000 in
theorem lwSame (u v : Value) (zs : List Int) (w : World) (h : (Lay.sl Lay.int).Reads w [u] zs) (h2 : (Lay.sl Lay.int).Reads w [v] zs) (hn : zs.length ≤ 1000000) :
    Calls Tryz.prog 11 #[u, v] w fun e w' => e = .returned (.bool true) ∧ Below w.heap.size w w' := by
  obtain ⟨bl1, hl1⟩ := h
  obtain ⟨bl2, hl2⟩ := h2
  obtain ⟨au, cu, rfl, -, -, h1⟩ := Lay.lies_ints.1 hl1
  obtain ⟨av, cv, rfl, -, -, h2⟩ := Lay.lies_ints.1 hl2
  clear hl1 hl2
  have hne : ((zs.length : Int) != (zs.length : Int)) = false := by simp
  go_enter Tryz.func11, Tryz.ntmps11
  go_wp2_with fail
  go_loopw [5] (fun i wr => ∃ j : Nat, j ≤ zs.length ∧ i = .int .i64 j ∧ Below w.heap.size w wr) (fun i _ => zs.length - (intOf i).toNat)
  case atStart => exact ⟨0, Nat.zero_le _, rfl, Below.refl _ _⟩
  case round =>
    obtain ⟨j, hj, rfl, hB⟩ := hrel
    by_cases hlt : j < zs.length
    · rcases h1 with ⟨rfl, -⟩ | ⟨b1, o1, rfl, hb1, -, hc1⟩
      · simp at hlt
      rcases h2 with ⟨rfl, -⟩ | ⟨b2, o2, rfl, hb2, -, hc2⟩
      · simp at hlt
      have c1 := (hB.cell (p := ⟨b1, o1 + j, none⟩) hb1).trans (hc1 j hlt)
      have c2 := (hB.cell (p := ⟨b2, o2 + j, none⟩) hb2).trans (hc2 j hlt)
      have g3 : (j : Int) < (zs.length : Int) := by omega
      have g5 : (0 : Int) ≤ (j : Int) := by omega
      generalize zs.getD j 0 = x at *
      have hxx : (x != x) = false := by simp
      have HB := hide hB
      clear hc1 hc2 hB
      go_wp2_with fail
      go_quiet (fail)
      go_wp2_with fail
      go_roundw
      case rel => exact ⟨j + 1, by omega, by go_num, below_drewN (unhide HB) _⟩
      case measure => simp [intOf]; omega
    · obtain rfl : j = zs.length := by omega
      clear h1 h2
      go_wp2_with fail
      go_ret
      exact ⟨rfl, hB⟩

end Go.Proofs.YtjofcmdlcoganaaGreatDoor

namespace Go.Proofs.YtjofcmdlcoganaaGreatDoor

theorem dec_neg {n : Int} (h : n < 0) : dec n = 45 :: decF 4 n.natAbs := by simp [dec, h]
theorem dec_pos {n : Int} (h : ¬ n < 0) : dec n = decF 4 n.toNat := by simp [dec, h]

theorem decF_one {d : Bytes} {n : Nat} (h : allDig d = true) (hne : d ≠ []) (h0 : ∀ c r, d = c :: r → c.toNat ≠ 48) (hv : dval 0 d = n) (hn : n ≤ 9999) : decF 4 n = d :=
  decF_of 3 d n h hne (fun c r e _ => h0 c r e) hv (by omega)

/-- What the machine reads as a part is that part's text. -/
theorem rpart_some {l r : Bytes} {v : Int} (h : rpart l = some (v, r)) : l = dec v ++ r ∧ -1000 ≤ v ∧ v ≤ 1000 := by
  have uns : ∀ (σ : Int) (l : Bytes) (v : Int), (σ = 1 ∨ σ = -1) → unsgn σ l = some (v, r) → ∃ n : Nat, l = decF 4 n ++ r ∧ n ≤ 1000 ∧ v = σ * n ∧ (σ = -1 → 1 ≤ n) := by
    intro σ l v hσ h
    cases l with
    | nil => simp [unsgn] at h
    | cons c l =>
      simp only [unsgn] at h
      by_cases hd : isDig c = true
      · simp only [hd, if_true] at h
        by_cases h48 : c.toNat = 48
        · simp only [h48, if_true] at h
          by_cases hs : σ < 0
          · simp [hs] at h
          · simp only [hs, if_false] at h
            simp at h
            obtain ⟨rfl, rfl⟩ := h
            refine ⟨0, ?_, by omega, by simp, fun e => by omega⟩
            have : dch 0 = c := by
              apply UInt8.toNat_inj.1
              rw [dch_nat 0 (by omega), h48]
            simp [decF, this]
        · simp only [h48, if_false] at h
          cases hg : digs 0 (c :: l) with
          | none => simp [hg] at h
          | some q =>
            obtain ⟨m, r'⟩ := q
            simp only [hg, Option.map_some, Option.some.injEq, Prod.mk.injEq] at h
            obtain ⟨rfl, rfl⟩ := h
            obtain ⟨ds, e1, e2, e3, e4, e5, e6⟩ := digs_some (c :: l) 0 m r' (by omega) hd hg
            have hm : 0 ≤ m := by have := dval_ge 0 (by omega) ds e3; omega
            obtain ⟨n, rfl⟩ := Int.eq_ofNat_of_zero_le hm
            have hc : ∀ c' r'', ds = c' :: r'' → c'.toNat ≠ 48 := by
              intro c' r'' he
              rw [he] at e1
              simp at e1
              rw [← e1.1]
              exact h48
            refine ⟨n, ?_, by omega, rfl, fun _ => ?_⟩
            · rw [decF_one e3 e2 hc e4 (by omega)]
              exact e1
            · cases ds with
              | nil => exact absurd rfl e2
              | cons c' ds' =>
                have h1 := hc c' ds' rfl
                simp only [allDig, Bool.and_eq_true] at e3
                have h2 := isDig_bd e3.1
                have h3 := dval_ge (0 * 10 + ((c'.toNat : Int) - 48)) (by omega) ds' e3.2
                simp only [dval] at e4
                omega
      · simp [hd] at h
  cases l with
  | nil => simp [rpart] at h
  | cons c l =>
    simp only [rpart] at h
    by_cases h45 : c.toNat = 45
    · simp only [h45, if_true] at h
      obtain ⟨n, e1, e2, e3, e4⟩ := uns (-1) l v (Or.inr rfl) h
      have h1 := e4 rfl
      have hneg : v < 0 := by omega
      have hc : c = 45 := UInt8.toNat_inj.1 (by rw [h45]; rfl)
      rw [dec_neg hneg, show v.natAbs = n by omega, e1, hc]
      exact ⟨rfl, by omega, by omega⟩
    · simp only [h45, if_false] at h
      obtain ⟨n, e1, e2, e3, _⟩ := uns 1 (c :: l) v (Or.inl rfl) h
      rw [dec_pos (by omega), show v.toNat = n by omega, e1]
      exact ⟨rfl, by omega, by omega⟩

/-- A part's text is read as that part. -/
theorem rpart_dec {v : Int} (h1 : -1000 ≤ v) (h2 : v ≤ 1000) {r : Bytes} (hr : headDig r = false) : rpart (dec v ++ r) = some (v, r) := by
  have uns : ∀ (σ : Int) (n : Nat), n ≤ 1000 → (σ = 1 ∨ (σ = -1 ∧ 1 ≤ n)) → unsgn σ (decF 4 n ++ r) = some (σ * n, r) := by
    intro σ n hn hσ
    obtain ⟨f1, f2, f3, f4⟩ := decF_facts 3 n (by omega)
    cases hd : decF 4 n with
    | nil => exact absurd hd f2
    | cons c ds =>
      rw [hd] at f1 f3
      have hc : isDig c = true := by
        simp only [allDig, Bool.and_eq_true] at f1
        exact f1.1
      simp only [List.cons_append, unsgn, hc, if_true]
      by_cases h0 : n = 0
      · subst h0
        have e : decF 4 0 = [dch 0] := rfl
        rw [e] at hd
        simp at hd
        obtain ⟨rfl, rfl⟩ := hd
        have : (dch 0).toNat = 48 := rfl
        have hs : ¬ σ < 0 := by omega
        simp [this, hs]
      · have h48 := f4 (by omega) c ds hd
        have hg := digs_app (c :: ds) r 0 (by omega) f1 (by simp) hr
        rw [f3, if_neg (by omega)] at hg
        simp only [List.cons_append] at hg
        simp only [h48, if_false, hg, Option.map_some]
  by_cases hv : v < 0
  · rw [dec_neg hv]
    have h := uns (-1) v.natAbs (by omega) (Or.inr ⟨rfl, by omega⟩)
    simp only [List.cons_append, rpart]
    have : (45 : UInt8).toNat = 45 := rfl
    simp only [this, if_true, h, Option.some.injEq, Prod.mk.injEq, and_true]
    omega
  · rw [dec_pos hv]
    have h := uns 1 v.toNat (by omega) (Or.inl rfl)
    obtain ⟨f1, f2, f3, f4⟩ := decF_facts 3 v.toNat (by omega)
    cases hd : decF 4 v.toNat with
    | nil => exact absurd hd f2
    | cons c ds =>
      rw [hd] at h f1
      have hc : isDig c = true := by
        simp only [allDig, Bool.and_eq_true] at f1
        exact f1.1
      have hb := isDig_bd hc
      have h45 : ¬ c.toNat = 45 := by omega
      simp only [List.cons_append, rpart, h45, if_false]
      rw [List.cons_append] at h
      rw [h]
      simp only [Option.some.injEq, Prod.mk.injEq, and_true]
      omega

/-- The machine's answer: three texts with commas between. -/
theorem PP_some {l : Bytes} {x y z : Int} (h : PP 3 (0, 0, 0) l = some (x, y, z)) : l = dec x ++ (44 :: (dec y ++ (44 :: dec z))) ∧ (-1000 ≤ x ∧ x ≤ 1000) ∧ (-1000 ≤ y ∧ y ≤ 1000) ∧ (-1000 ≤ z ∧ z ≤ 1000) := by
  rw [show (3 : Nat) = 3 - 0 from rfl, PP_eq 0 (by omega)] at h
  cases h0 : rpart l with
  | none => simp [h0] at h
  | some q0 =>
    obtain ⟨v0, r0⟩ := q0
    simp only [h0, EE] at h
    obtain ⟨e0, b0⟩ := rpart_some h0
    cases r0 with
    | nil => simp at h
    | cons c0 r0 =>
      simp only [show ¬ (0 = 2) by omega, if_false] at h
      by_cases k0 : c0.toNat = 44
      · simp only [k0, if_true] at h
        rw [show (2 - 0 : Nat) = 3 - 1 from rfl, PP_eq 1 (by omega)] at h
        cases h1 : rpart r0 with
        | none => simp [h1] at h
        | some q1 =>
          obtain ⟨v1, r1⟩ := q1
          simp only [h1, EE] at h
          obtain ⟨e1, b1⟩ := rpart_some h1
          cases r1 with
          | nil => simp at h
          | cons c1 r1 =>
            simp only [show ¬ (1 = 2) by omega, if_false] at h
            by_cases k1 : c1.toNat = 44
            · simp only [k1, if_true] at h
              rw [show (2 - 1 : Nat) = 3 - 2 from rfl, PP_eq 2 (by omega)] at h
              cases h2 : rpart r1 with
              | none => simp [h2] at h
              | some q2 =>
                obtain ⟨v2, r2⟩ := q2
                simp only [h2, EE] at h
                obtain ⟨e2, b2⟩ := rpart_some h2
                cases r2 with
                | cons c2 r2 => simp [fin3] at h
                | nil =>
                  simp [fin3, setAt] at h
                  obtain ⟨rfl, rfl, rfl⟩ := h
                  have hc0 : c0 = 44 := UInt8.toNat_inj.1 (by rw [k0]; rfl)
                  have hc1 : c1 = 44 := UInt8.toNat_inj.1 (by rw [k1]; rfl)
                  refine ⟨?_, b0, b1, b2⟩
                  rw [e0, e1, e2, hc0, hc1, List.append_nil]
            · simp [k1] at h
      · simp [k0] at h

theorem PP_dec {x y z : Int} (hx : -1000 ≤ x ∧ x ≤ 1000) (hy : -1000 ≤ y ∧ y ≤ 1000) (hz : -1000 ≤ z ∧ z ≤ 1000) : PP 3 (0, 0, 0) (dec x ++ (44 :: (dec y ++ (44 :: dec z)))) = some (x, y, z) := by
  have h44 : ∀ r : Bytes, headDig (44 :: r) = false := fun _ => rfl
  have k44 : (44 : UInt8).toNat = 44 := rfl
  have hz' := rpart_dec hz.1 hz.2 (r := []) rfl
  rw [List.append_nil] at hz'
  rw [show (3 : Nat) = 3 - 0 from rfl, PP_eq 0 (by omega), rpart_dec hx.1 hx.2 (h44 _)]
  simp only [EE, show ¬ (0 = 2) by omega, if_false, k44, if_true]
  rw [show (2 - 0 : Nat) = 3 - 1 from rfl, PP_eq 1 (by omega), rpart_dec hy.1 hy.2 (h44 _)]
  simp only [EE, show ¬ (1 = 2) by omega, if_false, k44, if_true]
  rw [show (2 - 1 : Nat) = 3 - 2 from rfl, PP_eq 2 (by omega), hz']
  simp [EE, fin3, setAt]

end Go.Proofs.YtjofcmdlcoganaaGreatDoor

namespace Go.Proofs.YtjofcmdlcoganaaGreatDoor

/-- Cut at each 44; acc: what stands ahead in this piece. -/
def cutA (acc : Bytes) : Bytes → List Bytes
  | [] => [acc]
  | c :: r => if c.toNat = 44 then acc :: cutA [] r else cutA (acc ++ [c]) r

/-- The minus ahead, and what is behind it. -/
def isNeg : Bytes → Bool
  | [] => false
  | c :: _ => decide (c.toNat = 45)
def bodyOf (l : Bytes) : Bytes := if isNeg l then l.tail else l
def signed (l : Bytes) (n : Int) : Int := if isNeg l then -n else n
/-- A piece as a number, and whether it is written so. -/
def numR (l : Bytes) : Int × Bool :=
  if (bodyOf l).length < 1 ∨ 4 < (bodyOf l).length then (0, false)
  else if allDig (bodyOf l) then (signed l (dval 0 (bodyOf l)), decide (dec (signed l (dval 0 (bodyOf l))) = l)) else (0, false)

theorem numR_true {l : Bytes} (h : (numR l).2 = true) : dec (numR l).1 = l := by
  unfold numR at h ⊢
  split at h
  · simp at h
  · next h1 =>
    split at h
    · next h2 =>
      rw [if_neg h1, if_pos h2]
      simpa using h
    · simp at h

theorem numR_dec {v : Int} (h1 : -1000 ≤ v) (h2 : v ≤ 1000) : numR (dec v) = (v, true) := by
  by_cases hv : v < 0
  · obtain ⟨f1, f2, f3, f4⟩ := decF_facts 3 v.natAbs (by omega)
    have hl := decF_len 4 v.natAbs
    have hn : isNeg (dec v) = true := by rw [dec_neg hv]; rfl
    have hb : bodyOf (dec v) = decF 4 v.natAbs := by unfold bodyOf; rw [hn, if_pos rfl, dec_neg hv]; rfl
    have hne : 1 ≤ (decF 4 v.natAbs).length := by cases h : decF 4 v.natAbs with | nil => exact absurd h f2 | cons c r => simp
    have hs : signed (dec v) (dval 0 (decF 4 v.natAbs)) = v := by unfold signed; rw [hn, if_pos rfl, f3]; omega
    unfold numR
    rw [hb, if_neg (by omega), if_pos f1, hs]
    simp
  · obtain ⟨f1, f2, f3, f4⟩ := decF_facts 3 v.toNat (by omega)
    have hl := decF_len 4 v.toNat
    have hn : isNeg (dec v) = false := by
      rw [dec_pos hv]
      cases h : decF 4 v.toNat with
      | nil => rfl
      | cons c r =>
        rw [h] at f1
        simp only [allDig, Bool.and_eq_true] at f1
        have := isDig_bd f1.1
        simp [isNeg]
        omega
    have hb : bodyOf (dec v) = decF 4 v.toNat := by unfold bodyOf; rw [hn, dec_pos hv]; rfl
    have hne : 1 ≤ (decF 4 v.toNat).length := by cases h : decF 4 v.toNat with | nil => exact absurd h f2 | cons c r => simp
    have hs : signed (dec v) (dval 0 (decF 4 v.toNat)) = v := by unfold signed; rw [hn]; simp [f3]; omega
    unfold numR
    rw [hb, if_neg (by omega), if_pos f1, hs]
    simp

theorem cutA_append (p acc r : Bytes) (h : ∀ c ∈ p, c.toNat ≠ 44) : cutA acc (p ++ r) = cutA (acc ++ p) r := by
  induction p generalizing acc with
  | nil => simp
  | cons c p ih =>
    have hc := h c (by simp)
    rw [List.cons_append, cutA, if_neg hc, ih (acc ++ [c]) (fun d hd => h d (by simp [hd]))]
    simp

theorem allDig_no {l : Bytes} (h : allDig l = true) : ∀ c ∈ l, c.toNat ≠ 44 := by
  induction l with
  | nil => simp
  | cons c l ih =>
    simp only [allDig, Bool.and_eq_true] at h
    have hb := isDig_bd h.1
    intro d hd
    rcases List.mem_cons.1 hd with rfl | hd
    · omega
    · exact ih h.2 d hd

theorem dec_no {v : Int} (h1 : -1000 ≤ v) (h2 : v ≤ 1000) : ∀ c ∈ dec v, c.toNat ≠ 44 := by
  by_cases hv : v < 0
  · rw [dec_neg hv]
    intro c hc
    rcases List.mem_cons.1 hc with rfl | hc
    · decide
    · exact allDig_no (decF_facts 3 v.natAbs (by omega)).1 c hc
  · rw [dec_pos hv]
    exact allDig_no (decF_facts 3 v.toNat (by omega)).1

/-- A text is its pieces with commas between. -/
def glue : List Bytes → Bytes
  | [] => []
  | [p] => p
  | p :: ps => p ++ (44 :: glue ps)
theorem cutA_ne (acc l : Bytes) : cutA acc l ≠ [] := by
  induction l generalizing acc with
  | nil => simp [cutA]
  | cons c l ih =>
    unfold cutA
    split
    · simp
    · exact ih _
theorem glue_cons (p : Bytes) {ps : List Bytes} (h : ps ≠ []) : glue (p :: ps) = p ++ (44 :: glue ps) := by
  cases ps with
  | nil => exact absurd rfl h
  | cons q ps => rfl
theorem glue_cut (acc l : Bytes) : glue (cutA acc l) = acc ++ l := by
  induction l generalizing acc with
  | nil => simp [cutA, glue]
  | cons c l ih =>
    unfold cutA
    split
    · next h =>
      have hc : c = 44 := UInt8.toNat_inj.1 (by rw [h]; rfl)
      rw [glue_cons _ (cutA_ne _ _), ih, hc]
      simp
    · rw [ih]
      simp

/-- The pieces as numbers, if all are written so and are a vector. -/
def modelP (l : Bytes) : Option (List Int) :=
  if (cutA [] l).all (fun p => (numR p).2) ∧ vecFault ((cutA [] l).map fun p => (numR p).1) = 0 then some ((cutA [] l).map fun p => (numR p).1) else none

theorem modelP_eq (l : Bytes) : modelP l = (PP 3 (0, 0, 0) l).map fun t => [t.1, t.2.1, t.2.2] := by
  cases h : PP 3 (0, 0, 0) l with
  | some t =>
    obtain ⟨x, y, z⟩ := t
    obtain ⟨rfl, hx, hy, hz⟩ := PP_some h
    have hcut : cutA [] (dec x ++ (44 :: (dec y ++ (44 :: dec z)))) = [dec x, dec y, dec z] := by
      have k44 : (44 : UInt8).toNat = 44 := rfl
      have e3 := cutA_append (dec z) [] [] (dec_no hz.1 hz.2)
      rw [List.append_nil] at e3
      rw [cutA_append _ _ _ (dec_no hx.1 hx.2), cutA, if_pos k44, cutA_append _ _ _ (dec_no hy.1 hy.2), cutA, if_pos k44, e3]
      simp [cutA]
    have n1 := numR_dec hx.1 hx.2
    have n2 := numR_dec hy.1 hy.2
    have n3 := numR_dec hz.1 hz.2
    have hv : vecFault [x, y, z] = 0 := by
      refine vecFault_ok rfl (fun j hj => ?_)
      rcases (show j = 0 ∨ j = 1 ∨ j = 2 by omega) with rfl | rfl | rfl
      · simp [partB, hx.1, hx.2]
      · simp [partB, hy.1, hy.2]
      · simp [partB, hz.1, hz.2]
    unfold modelP
    rw [hcut]
    simp [n1, n2, n3, hv]
  | none =>
    unfold modelP
    rw [if_neg]
    · rfl
    · rintro ⟨h1, h2⟩
      obtain ⟨h3, h4⟩ := vecFault_zero h2
      have hg := glue_cut [] l
      rw [List.nil_append] at hg
      match hc : cutA [] l, h3 with
      | [p, q, r], _ =>
        rw [hc] at h1 h4 hg
        simp only [List.all_cons, List.all_nil, Bool.and_true, Bool.and_eq_true] at h1
        have e1 := numR_true h1.1
        have e2 := numR_true h1.2.1
        have e3 := numR_true h1.2.2
        have b1 := h4 0 (by omega)
        have b2 := h4 1 (by omega)
        have b3 := h4 2 (by omega)
        simp at b1 b2 b3
        have := PP_dec b1 b2 b3
        rw [e1, e2, e3] at this
        have hl : p ++ (44 :: (q ++ (44 :: r))) = l := by rw [← hg]; rfl
        rw [hl, h] at this
        simp at this
      | [], h3 => simp at h3
      | [_], h3 => simp at h3
      | [_, _], h3 => simp at h3
      | _ :: _ :: _ :: _ :: _, h3 => simp at h3

end Go.Proofs.YtjofcmdlcoganaaGreatDoor

namespace Go.Proofs.YtjofcmdlcoganaaGreatDoor
open Go.RowKit

theorem dval_lt (l : Bytes) (h : allDig l = true) (hl : l.length ≤ 4) : 0 ≤ dval 0 l ∧ dval 0 l ≤ 9999 := by
  have step : ∀ (n : Int) (m : Int) (c : UInt8), isDig c = true → 0 ≤ n → n ≤ m → 0 ≤ n * 10 + ((c.toNat : Int) - 48) ∧ n * 10 + ((c.toNat : Int) - 48) ≤ m * 10 + 9 := by
    intro n m c hc h0 hm
    have := isDig_bd hc
    omega
  match l, h, hl with
  | [], _, _ => simp [dval]
  | [a], h, _ =>
    simp only [allDig, Bool.and_eq_true] at h
    have h1 := step 0 0 a h.1 (by omega) (by omega)
    simp only [dval]
    omega
  | [a, b], h, _ =>
    simp only [allDig, Bool.and_eq_true] at h
    have h1 := step 0 0 a h.1 (by omega) (by omega)
    have h2 := step _ 9 b h.2.1 h1.1 (by omega)
    simp only [dval]
    omega
  | [a, b, c], h, _ =>
    simp only [allDig, Bool.and_eq_true] at h
    have h1 := step 0 0 a h.1 (by omega) (by omega)
    have h2 := step _ 9 b h.2.1 h1.1 (by omega)
    have h3 := step _ 99 c h.2.2.1 h2.1 (by omega)
    simp only [dval]
    omega
  | [a, b, c, d], h, _ =>
    simp only [allDig, Bool.and_eq_true] at h
    have h1 := step 0 0 a h.1 (by omega) (by omega)
    have h2 := step _ 9 b h.2.1 h1.1 (by omega)
    have h3 := step _ 99 c h.2.2.1 h2.1 (by omega)
    have h4 := step _ 999 d h.2.2.2.1 h3.1 (by omega)
    simp only [dval]
    omega
  | _ :: _ :: _ :: _ :: _ :: _, _, hl => simp at hl

theorem toList_data (s : ByteArray) : s.toList = s.data.toList := by
  obtain ⟨⟨l⟩⟩ := s
  simp

/-- The piece without its first o bytes, as far as i. -/
def seg (b : ByteArray) (o i : Nat) : Bytes := (b.data.toList.take i).drop o
theorem seg_start (b : ByteArray) (o : Nat) : seg b o o = [] := by unfold seg; simp
theorem seg_all (b : ByteArray) (o : Nat) : seg b o b.size = b.data.toList.drop o := by
  unfold seg
  rw [List.take_of_length_le (by simp)]
theorem seg_snoc (b : ByteArray) (o i : Nat) (ho : o ≤ i) (hi : i < b.size) : seg b o (i + 1) = seg b o i ++ [b[i]] := by
  unfold seg
  rw [List.take_succ_eq_append_getElem (by simpa using hi), List.drop_append_of_le_length (by simp; omega)]
  rfl
theorem allDig_part (l m : Bytes) : allDig (l ++ m) = (allDig l && allDig m) := by
  induction l with
  | nil => simp [allDig]
  | cons c l ih => simp [allDig, ih, Bool.and_assoc]
theorem seg_bad (b : ByteArray) (o i : Nat) (ho : o ≤ i) (hi : i < b.size) (h : isDig b[i] = false) : allDig (b.data.toList.drop o) = false := by
  have e1 := seg_snoc b o i ho hi
  have e2 : b.data.toList.drop o = seg b o (i + 1) ++ b.data.toList.drop (i + 1) := by
    unfold seg
    rw [← List.drop_append_of_le_length (by simp; omega), List.take_append_drop]
  rw [e2, e1, allDig_part, allDig_snoc, h]
  simp

set_option maxRecDepth 100000 in
set_option maxHeartbeats 1600000 in
theorem number_0 (b : ByteArray) (w : World) (hs : b.size ≤ 1048576) (h0 : 0 < b.size) (hneg : isNeg b.data.toList = false) :
    Calls Tryz.prog 58 #[.string b] w fun e w' => e = .returned (.tuple #[.int .i64 (numR b.data.toList).1, .bool (numR b.data.toList).2]) ∧ Below w.heap.size w w' := by
  have hlen : b.data.toList.length = b.size := by simp
  have hbody : bodyOf b.data.toList = b.data.toList.drop 0 := by unfold bodyOf; rw [hneg]; rfl
  have hblen : (b.data.toList.drop 0).length = b.size - 0 := by simp
  have hfirst : (((b[0]'h0).toNat : Int) == 45) = false := by
    have e : b.data.toList = b[0] :: rest b 1 := rest_cons b 0 h0
    rw [e] at hneg
    simp [isNeg] at hneg
    rw [beq_eq_false_iff_ne]; omega
  have hp : (0 : Int) < (b.size : Int) := by omega
  have hdp : decide ((0 : Int) < (b.size : Int)) = true := by simp; omega
  by_cases hc : b.size - 0 < 1 ∨ 4 < b.size - 0
  · have HN : Hid (numR b.data.toList = (0, false)) := by
      show numR b.data.toList = (0, false)
      unfold numR
      rw [hbody, hblen, if_pos hc]
    clear hlen hbody hblen hneg
    by_cases hc1 : b.size - 0 < 1
    · omega
    · have hc2 : 4 < b.size - 0 := by omega
      have hd4 : decide ((4 : Int) < (b.size : Int)) = true := by simp; omega
      clear hc
      go_enter Tryz.func58, Tryz.ntmps58
      go_wp2
      go_ret2
      exact ⟨by rw [unhide HN]; rfl, Below.refl _ _⟩
  · have hc1 : 1 ≤ b.size - 0 := by omega
    have hc2 : b.size - 0 ≤ 4 := by omega
    have hd4 : decide ((4 : Int) < (b.size : Int)) = false := by simp; omega
    have HN : Hid (∀ r, (allDig (b.data.toList.drop 0) = false → (0, false) = r) → (allDig (b.data.toList.drop 0) = true → (signed b.data.toList (dval 0 (b.data.toList.drop 0)), decide (dec (signed b.data.toList (dval 0 (b.data.toList.drop 0))) = b.data.toList)) = r) → numR b.data.toList = r) := by
      intro r h1 h2
      unfold numR
      rw [hbody, hblen, if_neg hc]
      cases ha : allDig (b.data.toList.drop 0) with
      | true => rw [if_pos rfl]; exact h2 ha
      | false => rw [if_neg (by simp)]; exact h1 ha
    have HG := hide hneg
    have HB := hide hblen
    clear hlen hbody hblen hneg hc
    go_enter Tryz.func58, Tryz.ntmps58
    go_wp2
    go_loop [5, 6] (fun n i => ∃ k : Nat, 0 ≤ k ∧ k ≤ b.size ∧ i = .int .i64 k ∧ n = .int .i64 (dval 0 (seg b 0 k)) ∧ allDig (seg b 0 k) = true) (fun _ i => b.size - (intOf i).toNat)
    case atStart => exact ⟨0, by omega, by omega, rfl, by rw [seg_start]; rfl, by rw [seg_start]; rfl⟩
    case round =>
      obtain ⟨k, hk0, hk, rfl, rfl, hall⟩ := hrel
      have hsl : (seg b 0 k).length ≤ 4 := by unfold seg; simp; omega
      have hdb := dval_lt _ hall hsl
      by_cases hlt : k < b.size
      · have HS := hide (seg_snoc b 0 k hk0 hlt)
        have HA := hide hall
        cases hd : isDig b[k] with
        | true =>
          have hb := isDig_bd hd
          have hg : decide ((57 : Int) < (b[k].toNat : Int)) = false := by simp; omega
          have HD := hide hd
          obtain ⟨hb1, hb2⟩ := hb
          obtain ⟨hv1, hv2⟩ := hdb
          clear hd hall hfirst
          generalize hcc : dval 0 (seg b 0 k) = v at *
          have HV := hide hcc
          clear hcc
          go_wp2
          go_round
          case rel =>
            refine ⟨k + 1, by omega, by omega, by go_num, ?_, ?_⟩
            · rw [unhide HS, dval_snoc, unhide HV]
            · rw [unhide HS, allDig_snoc, unhide HA, unhide HD]; rfl
          case measure => simp [intOf]; omega
        | false =>
          have HX := hide (unhide HN (0, false) (fun _ => rfl) (fun h => by rw [seg_bad b 0 k hk0 hlt hd] at h; simp at h))
          have hbb : b[k].toNat < 48 ∨ 57 < b[k].toNat := by
            simp [isDig] at hd
            omega
          clear hd hall hfirst HN
          rcases hbb with hb | hb
          · go_wp2
            go_ret2
            exact ⟨by rw [unhide HX]; rfl, Below.refl _ _⟩
          · have hb1 : ¬ ((b[k].toNat : Int) < 48) := by omega
            have hg : decide ((57 : Int) < (b[k].toNat : Int)) = true := by simp; omega
            go_wp2
            go_ret2
            exact ⟨by rw [unhide HX]; rfl, Below.refl _ _⟩
      · obtain rfl : k = b.size := by omega
        rw [seg_all] at hall hdb hsl ⊢
        have hsg : signed b.data.toList (dval 0 (b.data.toList.drop 0)) = dval 0 (b.data.toList.drop 0) := by unfold signed; rw [unhide HG]; rfl
        have HX := hide (unhide HN _ (fun h => by rw [hall] at h; simp at h) (fun _ => rfl))
        rw [hsg] at HX
        obtain ⟨hv1, hv2⟩ := hdb
        generalize dval 0 (b.data.toList.drop 0) = v at *
        clear hall HN hsg HG hfirst
        go_wp2_with fail
        refine (digits (v) w (by omega) (by omega)).mono ?_
        rintro e w1 ⟨rfl, hb1⟩
        simp only [str]
        have HB1 := hide hb1
        clear hb1
        go_wp2_with fail
        go_ret2
        refine ⟨?_, unhide HB1⟩
        have e : (dec (v) == b.toList) = decide (dec (v) = b.data.toList) := by rw [toList_data, Bool.eq_iff_iff]; simp
        rw [unhide HX]
        show Ending.returned (.tuple #[.int .i64 (v), .bool (dec (v) == b.toList)]) = _
        rw [e]

set_option maxRecDepth 100000 in
set_option maxHeartbeats 1600000 in
theorem number_1 (b : ByteArray) (w : World) (hs : b.size ≤ 1048576) (h0 : 0 < b.size) (hneg : isNeg b.data.toList = true) :
    Calls Tryz.prog 58 #[.string b] w fun e w' => e = .returned (.tuple #[.int .i64 (numR b.data.toList).1, .bool (numR b.data.toList).2]) ∧ Below w.heap.size w w' := by
  have hlen : b.data.toList.length = b.size := by simp
  have hbody : bodyOf b.data.toList = b.data.toList.drop 1 := by unfold bodyOf; rw [hneg]; simp
  have hblen : (b.data.toList.drop 1).length = b.size - 1 := by simp
  have hfirst : (((b[0]'h0).toNat : Int) == 45) = true := by
    have e : b.data.toList = b[0] :: rest b 1 := rest_cons b 0 h0
    rw [e] at hneg
    simp [isNeg] at hneg
    rw [beq_iff_eq]; omega
  have hp : (0 : Int) < (b.size : Int) := by omega
  have hdp : decide ((0 : Int) < (b.size : Int)) = true := by simp; omega
  by_cases hc : b.size - 1 < 1 ∨ 4 < b.size - 1
  · have HN : Hid (numR b.data.toList = (0, false)) := by
      show numR b.data.toList = (0, false)
      unfold numR
      rw [hbody, hblen, if_pos hc]
    clear hlen hbody hblen hneg
    by_cases hc1 : b.size - 1 < 1
    · clear hc
      go_enter Tryz.func58, Tryz.ntmps58
      go_wp2
      go_ret2
      exact ⟨by rw [unhide HN]; rfl, Below.refl _ _⟩
    · have hc2 : 4 < b.size - 1 := by omega
      have hd4 : decide ((4 : Int) < (b.size : Int) - 1) = true := by simp; omega
      clear hc
      go_enter Tryz.func58, Tryz.ntmps58
      go_wp2
      go_ret2
      exact ⟨by rw [unhide HN]; rfl, Below.refl _ _⟩
  · have hc1 : 1 ≤ b.size - 1 := by omega
    have hc2 : b.size - 1 ≤ 4 := by omega
    have hd4 : decide ((4 : Int) < (b.size : Int) - 1) = false := by simp; omega
    have HN : Hid (∀ r, (allDig (b.data.toList.drop 1) = false → (0, false) = r) → (allDig (b.data.toList.drop 1) = true → (signed b.data.toList (dval 0 (b.data.toList.drop 1)), decide (dec (signed b.data.toList (dval 0 (b.data.toList.drop 1))) = b.data.toList)) = r) → numR b.data.toList = r) := by
      intro r h1 h2
      unfold numR
      rw [hbody, hblen, if_neg hc]
      cases ha : allDig (b.data.toList.drop 1) with
      | true => rw [if_pos rfl]; exact h2 ha
      | false => rw [if_neg (by simp)]; exact h1 ha
    have HG := hide hneg
    have HB := hide hblen
    clear hlen hbody hblen hneg hc
    go_enter Tryz.func58, Tryz.ntmps58
    go_wp2
    go_loop [5, 6] (fun n i => ∃ k : Nat, 1 ≤ k ∧ k ≤ b.size ∧ i = .int .i64 k ∧ n = .int .i64 (dval 0 (seg b 1 k)) ∧ allDig (seg b 1 k) = true) (fun _ i => b.size - (intOf i).toNat)
    case atStart => exact ⟨1, by omega, by omega, rfl, by rw [seg_start]; rfl, by rw [seg_start]; rfl⟩
    case round =>
      obtain ⟨k, hk0, hk, rfl, rfl, hall⟩ := hrel
      have hsl : (seg b 1 k).length ≤ 4 := by unfold seg; simp; omega
      have hdb := dval_lt _ hall hsl
      by_cases hlt : k < b.size
      · have HS := hide (seg_snoc b 1 k hk0 hlt)
        have HA := hide hall
        cases hd : isDig b[k] with
        | true =>
          have hb := isDig_bd hd
          have hg : decide ((57 : Int) < (b[k].toNat : Int)) = false := by simp; omega
          have HD := hide hd
          obtain ⟨hb1, hb2⟩ := hb
          obtain ⟨hv1, hv2⟩ := hdb
          clear hd hall hfirst
          generalize hcc : dval 0 (seg b 1 k) = v at *
          have HV := hide hcc
          clear hcc
          go_wp2
          go_round
          case rel =>
            refine ⟨k + 1, by omega, by omega, by go_num, ?_, ?_⟩
            · rw [unhide HS, dval_snoc, unhide HV]
            · rw [unhide HS, allDig_snoc, unhide HA, unhide HD]; rfl
          case measure => simp [intOf]; omega
        | false =>
          have HX := hide (unhide HN (0, false) (fun _ => rfl) (fun h => by rw [seg_bad b 1 k hk0 hlt hd] at h; simp at h))
          have hbb : b[k].toNat < 48 ∨ 57 < b[k].toNat := by
            simp [isDig] at hd
            omega
          clear hd hall hfirst HN
          rcases hbb with hb | hb
          · go_wp2
            go_ret2
            exact ⟨by rw [unhide HX]; rfl, Below.refl _ _⟩
          · have hb1 : ¬ ((b[k].toNat : Int) < 48) := by omega
            have hg : decide ((57 : Int) < (b[k].toNat : Int)) = true := by simp; omega
            go_wp2
            go_ret2
            exact ⟨by rw [unhide HX]; rfl, Below.refl _ _⟩
      · obtain rfl : k = b.size := by omega
        rw [seg_all] at hall hdb hsl ⊢
        have hsg : signed b.data.toList (dval 0 (b.data.toList.drop 1)) = -dval 0 (b.data.toList.drop 1) := by unfold signed; rw [unhide HG]; rfl
        have HX := hide (unhide HN _ (fun h => by rw [hall] at h; simp at h) (fun _ => rfl))
        rw [hsg] at HX
        obtain ⟨hv1, hv2⟩ := hdb
        generalize dval 0 (b.data.toList.drop 1) = v at *
        clear hall HN hsg HG hfirst
        go_wp2_with fail
        refine (digits (-v) w (by omega) (by omega)).mono ?_
        rintro e w1 ⟨rfl, hb1⟩
        simp only [str]
        have HB1 := hide hb1
        clear hb1
        go_wp2_with fail
        go_ret2
        refine ⟨?_, unhide HB1⟩
        have e : (dec (-v) == b.toList) = decide (dec (-v) = b.data.toList) := by rw [toList_data, Bool.eq_iff_iff]; simp
        rw [unhide HX]
        show Ending.returned (.tuple #[.int .i64 (-v), .bool (dec (-v) == b.toList)]) = _
        rw [e]

theorem number_empty (b : ByteArray) (w : World) (h0 : b.size = 0) :
    Calls Tryz.prog 58 #[.string b] w fun e w' => e = .returned (.tuple #[.int .i64 0, .bool false]) ∧ Below w.heap.size w w' := by
  have hp : decide ((0 : Int) < (b.size : Int)) = false := by rw [h0]; rfl
  go_enter Tryz.func58, Tryz.ntmps58
  go_wp2
  go_ret2
  exact ⟨rfl, Below.refl _ _⟩

/-- l1Number. -/
theorem number (b : ByteArray) (w : World) (hs : b.size ≤ 1048576) :
    Calls Tryz.prog 58 #[.string b] w fun e w' => e = .returned (.tuple #[.int .i64 (numR b.data.toList).1, .bool (numR b.data.toList).2]) ∧ Below w.heap.size w w' := by
  by_cases h0 : 0 < b.size
  · cases hneg : isNeg b.data.toList with
    | true => exact number_1 b w hs h0 hneg
    | false => exact number_0 b w hs h0 hneg
  · have e : b.data.toList = [] := rest_nil b 0 h0
    rw [e]
    exact number_empty b w (by omega)

end Go.Proofs.YtjofcmdlcoganaaGreatDoor

namespace Go.Proofs.YtjofcmdlcoganaaGreatDoor
open Go.RowKit

theorem infoSt : (Tryz.prog.info? 9).map (fun i => (i.zero, i.size, i.bytes)) = some (some (.string ⟨#[]⟩), 1, 16) := by kernel_rfl

theorem ext_seg (s : ByteArray) (f i : Nat) : (s.extract f i).data.toList = seg s f i := by
  rw [Lib.extract_data]
  unfold seg
  rw [List.drop_take]
theorem ext_size (s : ByteArray) (f i : Nat) : (s.extract f i).size ≤ s.size := by
  rw [ByteArray.size_extract]
  omega
theorem map_snoc (bs : List ByteArray) (b : ByteArray) {w : World} {B T : Nat} {v : Value} (h : w.ownsRow B T 1 v (bs.length + 1) (bs.map Value.string ++ [Value.string b])) : w.ownsRow B T 1 v (bs ++ [b]).length ((bs ++ [b]).map Value.string) := by
  rw [List.map_append, List.length_append]
  exact h
theorem small_snoc {s : ByteArray} {bs : List ByteArray} {f i : Nat} (hs : s.size ≤ 1048576) (h : ∀ b ∈ bs, b.size ≤ 1048576) : ∀ b ∈ bs ++ [s.extract f i], b.size ≤ 1048576 := by
  intro b hb
  rcases List.mem_append.1 hb with h1 | h1
  · exact h b h1
  · simp at h1
    subst h1
    exact Nat.le_trans (ext_size s f i) hs

/-- What holds ahead of each round. -/
def CutInv (s : ByteArray) (i f : Nat) (bs : List ByteArray) : Prop :=
  (i ≤ s.size ∧ f ≤ i ∧ bs.map (fun b => b.data.toList) ++ cutA (seg s f i) (rest s i) = cutA [] s.data.toList) ∨ (i = s.size + 1 ∧ bs.map (fun b => b.data.toList) = cutA [] s.data.toList)

theorem cut_end {s : ByteArray} {f : Nat} {bs : List ByteArray} (h : CutInv s s.size f bs) : CutInv s (s.size + 1) (s.size + 1) (bs ++ [s.extract f s.size]) := by
  rcases h with ⟨_, _, h⟩ | ⟨h, _⟩
  · right
    rw [rest_nil s s.size (by omega), cutA] at h
    refine ⟨rfl, ?_⟩
    rw [List.map_append, ← h]
    simp only [List.map_cons, List.map_nil, ext_seg]
  · omega
theorem cut_comma {s : ByteArray} {i f : Nat} {bs : List ByteArray} (hi : i < s.size) (hc : s[i].toNat = 44) (h : CutInv s i f bs) : CutInv s (i + 1) (i + 1) (bs ++ [s.extract f i]) := by
  rcases h with ⟨_, _, h⟩ | ⟨h, _⟩
  · left
    rw [rest_cons s i hi, cutA, if_pos hc] at h
    refine ⟨by omega, by omega, ?_⟩
    rw [List.map_append, seg_start, ← h]
    simp only [List.map_cons, List.map_nil, ext_seg, List.append_assoc, List.cons_append, List.nil_append]
  · omega
theorem cut_other {s : ByteArray} {i f : Nat} {bs : List ByteArray} (hi : i < s.size) (hc : s[i].toNat ≠ 44) (h : CutInv s i f bs) : CutInv s (i + 1) f bs := by
  rcases h with ⟨_, hf, h⟩ | ⟨h, _⟩
  · left
    rw [rest_cons s i hi, cutA, if_neg hc] at h
    refine ⟨by omega, by omega, ?_⟩
    rw [seg_snoc s f i hf hi]
    exact h
  · omega

set_option maxRecDepth 100000 in
set_option maxHeartbeats 1600000 in
theorem cutC (s : ByteArray) (w : World) (hs : s.size ≤ 1048576) :
    Calls Tryz.prog 29 #[.string s, .int .u8 44] w fun e w' => ∃ (v : Value) (bs : List ByteArray), e = .returned v ∧ w'.ownsRow w.heap.size 9 1 v bs.length (bs.map Value.string) ∧
      bs.map (fun b => b.data.toList) = cutA [] s.data.toList ∧ bs.length ≤ 1048577 ∧ (∀ b ∈ bs, b.size ≤ 1048576) ∧ Below w.heap.size w w' := by
  go_enter Tryz.func29, Tryz.ntmps29
  go_wp2
  go_loopw [5, 6, 7] (fun v ff ii wr => ∃ (i f : Nat) (bs : List ByteArray), i ≤ s.size + 1 ∧ (i ≤ s.size → f ≤ i) ∧ ii = .int .i64 i ∧ ff = .int .i64 f ∧ bs.length ≤ i ∧ (∀ b ∈ bs, b.size ≤ 1048576) ∧ CutInv s i f bs ∧ wr.ownsRow w.heap.size 9 1 v bs.length (bs.map Value.string) ∧ Below w.heap.size w wr)
    (fun _ _ i _ => s.size + 1 - (intOf i).toNat)
  case atStart =>
    refine ⟨0, 0, [], by omega, fun _ => by omega, rfl, rfl, by simp, by simp, Or.inl ⟨by omega, by omega, by rw [seg_start]; rfl⟩, ?_, (Below.refl _ _).alloc (Nat.le_refl _) _⟩
    exact World.ownsRow_lit w #[] 0 (Nat.le_refl _) (by unfold maxLen; omega) rfl
  case round =>
    obtain ⟨i, f, bs, hi, hf, rfl, rfl, hbl, hbz, hinv, hown, hB⟩ := hrel
    by_cases hle : i ≤ s.size
    · have hf' := hf hle
      have HI := hide hinv
      have HZ := hide hbz
      have HB := hide hB
      have hsz := hB.size
      clear hinv hbz hB hf
      by_cases he : i = s.size
      · have e1 : ((i : Int) == (s.size : Int)) = true := by rw [beq_iff_eq]; omega
        have HE := hide he
        clear he
        obtain ⟨i0, hi0, hz0, hz1, hz2⟩ := info_parts infoSt
        go_wp2_with (at_builtin; refine wpList_append_lies _ rfl _ _ 57 rfl w.heap.size 9 i0 _ 1 16 Tryz.underlying57 hi0 hz0 hz1 hz2 rfl (by omega) _ bs.length _ rfl (hown.alloc _) ⟨wr.heap.size, 0, none⟩ 1 1 [.string (s.extract f i)] rfl rfl (World.news_of_block (cs := #[.string (s.extract f i)]) (t := 9) (fr := (0, 0)) (heap_alloc_new wr _)) (by simp [Value.oneCell']) (by omega) (by unfold maxLen; omega) (by omega) (by simp; omega) (wr.heap.size + 1) (by simp) ?_)
        intro g cap w1 hown1 hgrow _ _
        have HO := hide (map_snoc bs _ hown1)
        have HB1 := hide (((unhide HB).alloc hsz (.cells #[.string (s.extract f i)] 9)).grown hgrow (by simp; omega) (fun j hj => (hown.lt j hj).1))
        clear hown1 hgrow hown hi0 hz0 hz1 hz2 HB
        go_wp2
        go_roundw
        case rel => exact ⟨i + 1, i + 1, bs ++ [s.extract f i], by omega, fun _ => by omega, by go_num, by go_num, by simp; omega, small_snoc hs (unhide HZ), by have h := unhide HI; rw [unhide HE] at h ⊢; exact cut_end h, unhide HO, unhide HB1⟩
        case measure => simp [intOf]; omega
      · have hlt : i < s.size := by omega
        have e1 : ((i : Int) == (s.size : Int)) = false := by rw [beq_eq_false_iff_ne]; omega
        clear he
        by_cases h44 : s[i].toNat = 44
        · have e2 : ((s[i].toNat : Int) == 44) = true := by rw [beq_iff_eq]; omega
          have H44 := hide h44
          clear h44
          obtain ⟨i0, hi0, hz0, hz1, hz2⟩ := info_parts infoSt
          go_wp2_with (at_builtin; refine wpList_append_lies _ rfl _ _ 57 rfl w.heap.size 9 i0 _ 1 16 Tryz.underlying57 hi0 hz0 hz1 hz2 rfl (by omega) _ bs.length _ rfl (hown.alloc _) ⟨wr.heap.size, 0, none⟩ 1 1 [.string (s.extract f i)] rfl rfl (World.news_of_block (cs := #[.string (s.extract f i)]) (t := 9) (fr := (0, 0)) (heap_alloc_new wr _)) (by simp [Value.oneCell']) (by omega) (by unfold maxLen; omega) (by omega) (by simp; omega) (wr.heap.size + 1) (by simp) ?_)
          intro g cap w1 hown1 hgrow _ _
          have HO := hide (map_snoc bs _ hown1)
          have HB1 := hide (((unhide HB).alloc hsz (.cells #[.string (s.extract f i)] 9)).grown hgrow (by simp; omega) (fun j hj => (hown.lt j hj).1))
          clear hown1 hgrow hown hi0 hz0 hz1 hz2 HB
          go_wp2
          go_roundw
          case rel => exact ⟨i + 1, i + 1, bs ++ [s.extract f i], by omega, fun _ => by omega, by go_num, by go_num, by simp; omega, small_snoc hs (unhide HZ), cut_comma hlt (unhide H44) (unhide HI), unhide HO, unhide HB1⟩
          case measure => simp [intOf]; omega
        · have e2 : ((s[i].toNat : Int) == 44) = false := by rw [beq_eq_false_iff_ne]; omega
          have H44 := hide h44
          have HO := hide hown
          clear h44 hown
          go_wp2
          go_roundw
          case rel => exact ⟨i + 1, f, bs, by omega, fun _ => by omega, by go_num, rfl, by omega, unhide HZ, cut_other hlt (unhide H44) (unhide HI), unhide HO, unhide HB⟩
          case measure => simp [intOf]; omega
    · have HO := hide hown
      have HB := hide hB
      have hend : bs.map (fun b => b.data.toList) = cutA [] s.data.toList := by
        rcases hinv with ⟨h, _⟩ | ⟨_, h⟩
        · omega
        · exact h
      have HE := hide hend
      have HZ := hide hbz
      clear hown hB hinv hend hbz hf
      go_wp2
      go_ret
      exact ⟨_, bs, rfl, unhide HO, unhide HE, by omega, unhide HZ, unhide HB⟩

end Go.Proofs.YtjofcmdlcoganaaGreatDoor

namespace Go.Proofs.YtjofcmdlcoganaaGreatDoor
open Go.RowKit

set_option maxHeartbeats 400000 in
theorem listOf3 (x y z : Int) (w : World) :
    Calls Tryz.prog 52 #[arr3 x y z] w fun e w' => e = .returned (.slice (some ⟨w.heap.size + 1, 0, none⟩) 3 3) ∧
      (w.alloc (.cells #[.int .i64 x, .int .i64 y, .int .i64 z] 66)).alloc (.cells #[.int .i64 x, .int .i64 y, .int .i64 z] 2) = w' := by
  have hmk : ∀ w : World, (Instr.makeSlice 25 (.int .i64 3) (.int .i64 3)).run Tryz.prog w = .ok (.slice (some ⟨w.heap.size, 0, none⟩) 3 3) (w.alloc (.cells #[.int .i64 0, .int .i64 0, .int .i64 0] 2)) := fun _ => by kernel_rfl
  have i0 : ∀ w : World, (Instr.index 66 (.agg #[.int .i64 x, .int .i64 y, .int .i64 z]) (.int .i64 0)).run Tryz.prog w = .ok (.int .i64 x) w := fun _ => by kernel_rfl
  have i1 : ∀ w : World, (Instr.index 66 (.agg #[.int .i64 x, .int .i64 y, .int .i64 z]) (.int .i64 1)).run Tryz.prog w = .ok (.int .i64 y) w := fun _ => by kernel_rfl
  have i2 : ∀ w : World, (Instr.index 66 (.agg #[.int .i64 x, .int .i64 y, .int .i64 z]) (.int .i64 2)).run Tryz.prog w = .ok (.int .i64 z) w := fun _ => by kernel_rfl
  simp only [arr3]
  go_enter Tryz.func52, Tryz.ntmps52
  go_wp2
  refine wp_loop_rounds 4 ?_
  rw [rounds_succ]
  go_wp2
  rw [rounds_succ]
  go_wp2
  rw [rounds_succ]
  go_wp2
  rw [rounds_succ]
  go_wp2
  go_ret
  exact ⟨rfl, rfl⟩

end Go.Proofs.YtjofcmdlcoganaaGreatDoor

namespace Go.Proofs.YtjofcmdlcoganaaGreatDoor
open Go.RowKit

theorem listOwn (x y z : Int) (w : World) (hw : ∀ a ∈ [x, y, z], (Lit.int .i64 a).wf = true) :
    Calls Tryz.prog 52 #[arr3 x y z] w fun e w' => ∃ g, e = .returned (.slice (some ⟨g, 0, none⟩) 3 3) ∧ (Lay.sl Lay.int).OwnIn w' [.slice (some ⟨g, 0, none⟩) 3 3] [x, y, z] w.heap.size w'.heap.size ∧ Below w.heap.size w w' := by
  refine (listOf3 x y z w).mono ?_
  rintro e w' ⟨rfl, rfl⟩
  refine ⟨w.heap.size + 1, rfl, ?_, ((Below.refl _ _).alloc (Nat.le_refl _) _).alloc (by simp) _⟩
  refine Lay.ownInts (zs := [x, y, z]) (base := w.heap.size) (T := 2) hw (by simp) ?_
  exact own_new3 (W := w.alloc _) (by simp) (by simp)

end Go.Proofs.YtjofcmdlcoganaaGreatDoor

namespace Go.Proofs.YtjofcmdlcoganaaGreatDoor
open Go.RowKit

theorem numR_bd (l : Bytes) : -9999 ≤ (numR l).1 ∧ (numR l).1 ≤ 9999 := by
  unfold numR
  split
  · simp
  · next h =>
    split
    · next h2 =>
      have := dval_lt (bodyOf l) h2 (by omega)
      unfold signed
      split <;> simp <;> omega
    · simp

def vals (bs : List ByteArray) : List Int := bs.map fun b => (numR b.data.toList).1
theorem vals_wf (bs : List ByteArray) : ∀ z ∈ vals bs, (Lit.int .i64 z).wf = true := by
  intro z hz
  obtain ⟨b, _, rfl⟩ := List.mem_map.1 hz
  exact wf_of_bd (by have := numR_bd b.data.toList; omega)
theorem vals_snoc (bs : List ByteArray) (k : Nat) (hk : k < bs.length) : vals (bs.take (k + 1)) = vals (bs.take k) ++ [(numR bs[k].data.toList).1] := by
  unfold vals
  rw [List.take_succ_eq_append_getElem hk, List.map_append]
  rfl
theorem all_snoc (bs : List ByteArray) (k : Nat) (hk : k < bs.length) : (bs.take (k + 1)).all (fun b => (numR b.data.toList).2) = ((bs.take k).all (fun b => (numR b.data.toList).2) && (numR bs[k].data.toList).2) := by
  rw [List.take_succ_eq_append_getElem hk, List.all_append]
  simp
theorem all_bad (bs : List ByteArray) (k : Nat) (hk : k < bs.length) (h : (numR bs[k].data.toList).2 = false) : bs.all (fun b => (numR b.data.toList).2) = false := by
  rw [List.all_eq_false]
  exact ⟨bs[k], List.getElem_mem hk, by rw [h]; simp⟩

theorem modelP_of {l : Bytes} {bs : List ByteArray} (h : bs.map (fun b => b.data.toList) = cutA [] l) : modelP l = if bs.all (fun b => (numR b.data.toList).2) = true ∧ vecFault (vals bs) = 0 then some (vals bs) else none := by
  unfold modelP vals
  rw [← h]
  simp only [List.all_map, List.map_map]
  rfl

/-- What l1Parse leaves. -/
def ParsePost (l : Bytes) (w : World) (e : Ending) (w' : World) : Prop :=
  ∃ v b, e = .returned (.tuple #[v, .bool b]) ∧ ((b = true ∧ ∃ ms, modelP l = some ms ∧ (∀ z ∈ ms, (Lit.int .i64 z).wf = true) ∧ w'.ownsRow w.heap.size 2 1 v ms.length (ms.map (Value.int .i64))) ∨ (b = false ∧ modelP l = none ∧ ∃ ms : List Int, vecFault ms ≠ 0 ∧ (∀ z ∈ ms, (Lit.int .i64 z).wf = true) ∧ w'.ownsRow w.heap.size 2 1 v ms.length (ms.map (Value.int .i64)))) ∧ Below w.heap.size w w'

set_option maxRecDepth 100000 in
set_option maxHeartbeats 1600000 in
theorem parseC (s : ByteArray) (w : World) (hs : s.size ≤ 1048576) :
    Calls Tryz.prog 57 #[.string s] w (ParsePost s.data.toList w) := by
  go_enter Tryz.func57, Tryz.ntmps57
  go_wp2_with fail
  refine (cutC s w hs).mono ?_
  rintro e w1 ⟨v1, bs, rfl, hown, hcut, hlen, hsmall, hB1⟩
  have hne : bs ≠ [] := by
    rintro rfl
    exact cutA_ne [] s.data.toList hcut.symm
  have hpos : 0 < bs.length := by cases bs with | nil => exact absurd rfl hne | cons c r => simp
  obtain ⟨g, cap, rfl, hg, hcell⟩ : ∃ g cap, v1 = .slice (some ⟨g, 0, none⟩) bs.length cap ∧ g < w1.heap.size ∧ ∀ j (hj : j < bs.length), w1.cell? ⟨g, j, none⟩ = some (.string bs[j]) := by
    rcases hown.2 with ⟨_, h0⟩ | ⟨g, cap, cur, rfl, _, hh, _⟩
    · omega
    · refine ⟨g, cap, rfl, lt_of_block hh, fun j hj => ?_⟩
      rw [hown.cellAt j (by omega)]
      simp [hj]
  have HP := hide (modelP_of hcut)
  have HC := hide hcell
  have HS := hide hsmall
  have HB1 := hide hB1
  clear hown hcut hne hcell hsmall hB1
  have hw1 := (unhide HB1).size
  go_wp2_with fail
  go_loopw [5, 6] (fun v ii wr => ∃ k : Nat, k ≤ bs.length ∧ ii = .int .i64 k ∧ (bs.take k).all (fun b => (numR b.data.toList).2) = true ∧ wr.ownsRow w1.heap.size 2 1 v k ((vals (bs.take k)).map (Value.int .i64)) ∧ w1.heap.size ≤ wr.heap.size ∧ Below w1.heap.size w1 wr)
    (fun _ i _ => bs.length - (intOf i).toNat)
  case atStart => exact ⟨0, by omega, rfl, by simp, World.ownsRow_lit w1 #[] 0 (Nat.le_refl _) (by unfold maxLen; omega) rfl, by simp, (Below.refl _ _).alloc (Nat.le_refl _) _⟩
  case round =>
    obtain ⟨k, hk, rfl, hall, hown, hsz, hB⟩ := hrel
    have HA := hide hall
    have HB := hide hB
    clear hall hB
    by_cases hlt : k < bs.length
    · have hcx : wr.cell? ⟨g, k, none⟩ = some (.string bs[k]) := ((unhide HB).cell (p := ⟨g, k, none⟩) hg).trans (unhide HC k hlt)
      have hbk : bs[k].size ≤ 1048576 := unhide HS _ (List.getElem_mem hlt)
      obtain ⟨p, hp⟩ : ∃ p, p = bs[k] := ⟨_, rfl⟩
      rw [← hp] at hcx hbk
      have HPK := hide hp
      clear hp
      go_wp2_with fail
      refine (number p wr hbk).mono ?_
      rintro e w2 ⟨rfl, hb2⟩
      have hb := numR_bd p.data.toList
      cases hok : (numR p.data.toList).2 with
      | false =>
        have HM : Hid (modelP s.data.toList = none) := by
          show modelP s.data.toList = none
          rw [unhide HP, if_neg]
          rintro ⟨h, _⟩
          rw [all_bad bs k hlt (by rw [← unhide HPK]; exact hok)] at h
          simp at h
        have HB2 := hide (((unhide HB1).trans ((unhide HB).mono hw1)).trans (hb2.mono (by omega)))
        clear hb2 hok hcx HB hown
        go_wp2_with fail
        go_ret2
        exact ⟨_, false, rfl, Or.inr ⟨rfl, unhide HM, [], by decide, by simp, World.ownsRow_nil _ _ _ _⟩, unhide HB2⟩
      | true =>
        have hown2 := own_below hown hb2
        have HB2 := hide ((unhide HB).trans (hb2.mono hsz))
        have hsz2 := hb2.size
        have HOK := hide hok
        obtain ⟨i0, hi0, hz0, hz1, hz2⟩ := info_parts info2
        clear hb2 hok hcx HB hown
        generalize hq : (numR p.data.toList).1 = q at *
        have HQ := hide hq
        clear hq
        go_wp2_with (at_builtin; refine wpList_append_lies _ rfl _ _ 25 rfl w1.heap.size 2 i0 _ 1 8 Tryz.underlying25 hi0 hz0 hz1 hz2 rfl (by omega) _ k _ rfl (hown2.alloc _) ⟨w2.heap.size, 0, none⟩ 1 1 [.int .i64 q] rfl rfl (World.news_of_block (cs := #[.int .i64 q]) (t := 2) (fr := (0, 0)) (heap_alloc_new w2 _)) (by simp [Value.oneCell']) (by omega) (by unfold maxLen; omega) (by omega) (by simp; omega) (w2.heap.size + 1) (by simp) ?_)
        intro gg cap2 w3 hown3 hgrow _ _
        have hs3 := hgrow.size
        have hs3' : w1.heap.size ≤ w3.heap.size := by simp at hs3; omega
        have HB3 := hide (((unhide HB2).alloc (by omega) (.cells #[.int .i64 q] 2)).grown hgrow (by simp; omega) (fun j hj => (hown2.lt j hj).1))
        have HO3 : Hid (w3.ownsRow w1.heap.size 2 1 (.slice (some ⟨gg, 0, none⟩) (k + 1) cap2) (k + 1) ((vals (bs.take (k + 1))).map (Value.int .i64))) := by
          show w3.ownsRow w1.heap.size 2 1 (.slice (some ⟨gg, 0, none⟩) (k + 1) cap2) (k + 1) ((vals (bs.take (k + 1))).map (Value.int .i64))
          rw [vals_snoc bs k hlt, List.map_append, ← unhide HPK, unhide HQ]
          exact hown3
        have HA3 : Hid ((bs.take (k + 1)).all (fun b => (numR b.data.toList).2) = true) := by
          show (bs.take (k + 1)).all (fun b => (numR b.data.toList).2) = true
          rw [all_snoc bs k hlt, unhide HA, ← unhide HPK, unhide HOK]
          rfl
        clear hown2 hown3 hgrow HB2 hs3 hi0 hz0 hz1 hz2
        go_wp2
        go_roundw
        case rel => exact ⟨k + 1, by omega, by go_num, unhide HA3, unhide HO3, hs3', unhide HB3⟩
        case measure => simp [intOf]; omega
    · obtain rfl : k = bs.length := by omega
      rw [List.take_length] at hown
      have hA := unhide HA
      rw [List.take_length] at hA
      have hlv : (vals bs).length = bs.length := by simp [vals]
      have hi : IsInts wr _ (vals bs) := isInts_row (vals_wf bs) (by rw [hlv]; exact hown)
      have HO := hide hown
      have hAA := hide hA
      clear hA hown
      go_wp2_with fail
      refine (modelFault _ (vals bs) wr hi).mono ?_
      rintro e w2 ⟨rfl, rfl⟩
      by_cases hf : vecFault (vals bs) = 0
      · have e0 : (vecFault (vals bs) == 0) = true := by rw [hf]; rfl
        have HM := hide ((unhide HP).trans (if_pos ⟨unhide hAA, hf⟩))
        clear hf hi
        go_wp2_with fail
        go_ret2
        refine ⟨_, true, rfl, Or.inl ⟨rfl, vals bs, unhide HM, vals_wf bs, own_mono hw1 (by rw [hlv]; exact unhide HO)⟩, (unhide HB1).trans ((unhide HB).mono hw1)⟩
      · have e0 : (vecFault (vals bs) == 0) = false := by rw [beq_eq_false_iff_ne]; exact hf
        have HM := hide ((unhide HP).trans (if_neg (fun h => hf h.2)))
        have HF := hide hf
        clear hf hi
        go_wp2_with fail
        go_ret2
        exact ⟨_, false, rfl, Or.inr ⟨rfl, unhide HM, vals bs, unhide HF, vals_wf bs, own_mono hw1 (by rw [hlv]; exact unhide HO)⟩, (unhide HB1).trans ((unhide HB).mono hw1)⟩

end Go.Proofs.YtjofcmdlcoganaaGreatDoor

namespace Go.Proofs.YtjofcmdlcoganaaGreatDoor
open Go.RowKit

/-- Cut at each 32; acc: what stands ahead in this piece. -/
def cutS (acc : Bytes) : Bytes → List Bytes
  | [] => [acc]
  | c :: r => if c.toNat = 32 then acc :: cutS [] r else cutS (acc ++ [c]) r

/-- What holds ahead of each round. -/
def CutSInv (s : ByteArray) (i f : Nat) (bs : List ByteArray) : Prop :=
  (i ≤ s.size ∧ f ≤ i ∧ bs.map (fun b => b.data.toList) ++ cutS (seg s f i) (rest s i) = cutS [] s.data.toList) ∨ (i = s.size + 1 ∧ bs.map (fun b => b.data.toList) = cutS [] s.data.toList)

theorem cutS_end {s : ByteArray} {f : Nat} {bs : List ByteArray} (h : CutSInv s s.size f bs) : CutSInv s (s.size + 1) (s.size + 1) (bs ++ [s.extract f s.size]) := by
  rcases h with ⟨_, _, h⟩ | ⟨h, _⟩
  · right
    rw [rest_nil s s.size (by omega), cutS] at h
    refine ⟨rfl, ?_⟩
    rw [List.map_append, ← h]
    simp only [List.map_cons, List.map_nil, ext_seg]
  · omega
theorem cutS_blank {s : ByteArray} {i f : Nat} {bs : List ByteArray} (hi : i < s.size) (hc : s[i].toNat = 32) (h : CutSInv s i f bs) : CutSInv s (i + 1) (i + 1) (bs ++ [s.extract f i]) := by
  rcases h with ⟨_, _, h⟩ | ⟨h, _⟩
  · left
    rw [rest_cons s i hi, cutS, if_pos hc] at h
    refine ⟨by omega, by omega, ?_⟩
    rw [List.map_append, seg_start, ← h]
    simp only [List.map_cons, List.map_nil, ext_seg, List.append_assoc, List.cons_append, List.nil_append]
  · omega
theorem cutS_other {s : ByteArray} {i f : Nat} {bs : List ByteArray} (hi : i < s.size) (hc : s[i].toNat ≠ 32) (h : CutSInv s i f bs) : CutSInv s (i + 1) f bs := by
  rcases h with ⟨_, hf, h⟩ | ⟨h, _⟩
  · left
    rw [rest_cons s i hi, cutS, if_neg hc] at h
    refine ⟨by omega, by omega, ?_⟩
    rw [seg_snoc s f i hf hi]
    exact h
  · omega

set_option maxRecDepth 100000 in
set_option maxHeartbeats 1600000 in
theorem cutSpC (s : ByteArray) (w : World) (hs : s.size ≤ 1048576) :
    Calls Tryz.prog 29 #[.string s, .int .u8 32] w fun e w' => ∃ (v : Value) (bs : List ByteArray), e = .returned v ∧ w'.ownsRow w.heap.size 9 1 v bs.length (bs.map Value.string) ∧
      bs.map (fun b => b.data.toList) = cutS [] s.data.toList ∧ bs.length ≤ 1048577 ∧ (∀ b ∈ bs, b.size ≤ 1048576) ∧ Below w.heap.size w w' := by
  go_enter Tryz.func29, Tryz.ntmps29
  go_wp2
  go_loopw [5, 6, 7] (fun v ff ii wr => ∃ (i f : Nat) (bs : List ByteArray), i ≤ s.size + 1 ∧ (i ≤ s.size → f ≤ i) ∧ ii = .int .i64 i ∧ ff = .int .i64 f ∧ bs.length ≤ i ∧ (∀ b ∈ bs, b.size ≤ 1048576) ∧ CutSInv s i f bs ∧ wr.ownsRow w.heap.size 9 1 v bs.length (bs.map Value.string) ∧ Below w.heap.size w wr)
    (fun _ _ i _ => s.size + 1 - (intOf i).toNat)
  case atStart =>
    refine ⟨0, 0, [], by omega, fun _ => by omega, rfl, rfl, by simp, by simp, Or.inl ⟨by omega, by omega, by rw [seg_start]; rfl⟩, ?_, (Below.refl _ _).alloc (Nat.le_refl _) _⟩
    exact World.ownsRow_lit w #[] 0 (Nat.le_refl _) (by unfold maxLen; omega) rfl
  case round =>
    obtain ⟨i, f, bs, hi, hf, rfl, rfl, hbl, hbz, hinv, hown, hB⟩ := hrel
    by_cases hle : i ≤ s.size
    · have hf' := hf hle
      have HI := hide hinv
      have HZ := hide hbz
      have HB := hide hB
      have hsz := hB.size
      clear hinv hbz hB hf
      by_cases he : i = s.size
      · have e1 : ((i : Int) == (s.size : Int)) = true := by rw [beq_iff_eq]; omega
        have HE := hide he
        clear he
        obtain ⟨i0, hi0, hz0, hz1, hz2⟩ := info_parts infoSt
        go_wp2_with (at_builtin; refine wpList_append_lies _ rfl _ _ 57 rfl w.heap.size 9 i0 _ 1 16 Tryz.underlying57 hi0 hz0 hz1 hz2 rfl (by omega) _ bs.length _ rfl (hown.alloc _) ⟨wr.heap.size, 0, none⟩ 1 1 [.string (s.extract f i)] rfl rfl (World.news_of_block (cs := #[.string (s.extract f i)]) (t := 9) (fr := (0, 0)) (heap_alloc_new wr _)) (by simp [Value.oneCell']) (by omega) (by unfold maxLen; omega) (by omega) (by simp; omega) (wr.heap.size + 1) (by simp) ?_)
        intro g cap w1 hown1 hgrow _ _
        have HO := hide (map_snoc bs _ hown1)
        have HB1 := hide (((unhide HB).alloc hsz (.cells #[.string (s.extract f i)] 9)).grown hgrow (by simp; omega) (fun j hj => (hown.lt j hj).1))
        clear hown1 hgrow hown hi0 hz0 hz1 hz2 HB
        go_wp2
        go_roundw
        case rel => exact ⟨i + 1, i + 1, bs ++ [s.extract f i], by omega, fun _ => by omega, by go_num, by go_num, by simp; omega, small_snoc hs (unhide HZ), by have h := unhide HI; rw [unhide HE] at h ⊢; exact cutS_end h, unhide HO, unhide HB1⟩
        case measure => simp [intOf]; omega
      · have hlt : i < s.size := by omega
        have e1 : ((i : Int) == (s.size : Int)) = false := by rw [beq_eq_false_iff_ne]; omega
        clear he
        by_cases h32 : s[i].toNat = 32
        · have e2 : ((s[i].toNat : Int) == 32) = true := by rw [beq_iff_eq]; omega
          have H32 := hide h32
          clear h32
          obtain ⟨i0, hi0, hz0, hz1, hz2⟩ := info_parts infoSt
          go_wp2_with (at_builtin; refine wpList_append_lies _ rfl _ _ 57 rfl w.heap.size 9 i0 _ 1 16 Tryz.underlying57 hi0 hz0 hz1 hz2 rfl (by omega) _ bs.length _ rfl (hown.alloc _) ⟨wr.heap.size, 0, none⟩ 1 1 [.string (s.extract f i)] rfl rfl (World.news_of_block (cs := #[.string (s.extract f i)]) (t := 9) (fr := (0, 0)) (heap_alloc_new wr _)) (by simp [Value.oneCell']) (by omega) (by unfold maxLen; omega) (by omega) (by simp; omega) (wr.heap.size + 1) (by simp) ?_)
          intro g cap w1 hown1 hgrow _ _
          have HO := hide (map_snoc bs _ hown1)
          have HB1 := hide (((unhide HB).alloc hsz (.cells #[.string (s.extract f i)] 9)).grown hgrow (by simp; omega) (fun j hj => (hown.lt j hj).1))
          clear hown1 hgrow hown hi0 hz0 hz1 hz2 HB
          go_wp2
          go_roundw
          case rel => exact ⟨i + 1, i + 1, bs ++ [s.extract f i], by omega, fun _ => by omega, by go_num, by go_num, by simp; omega, small_snoc hs (unhide HZ), cutS_blank hlt (unhide H32) (unhide HI), unhide HO, unhide HB1⟩
          case measure => simp [intOf]; omega
        · have e2 : ((s[i].toNat : Int) == 32) = false := by rw [beq_eq_false_iff_ne]; omega
          have H32 := hide h32
          have HO := hide hown
          clear h32 hown
          go_wp2
          go_roundw
          case rel => exact ⟨i + 1, f, bs, by omega, fun _ => by omega, by go_num, rfl, by omega, unhide HZ, cutS_other hlt (unhide H32) (unhide HI), unhide HO, unhide HB⟩
          case measure => simp [intOf]; omega
    · have HO := hide hown
      have HB := hide hB
      have hend : bs.map (fun b => b.data.toList) = cutS [] s.data.toList := by
        rcases hinv with ⟨h, _⟩ | ⟨_, h⟩
        · omega
        · exact h
      have HE := hide hend
      have HZ := hide hbz
      clear hown hB hinv hend hbz hf
      go_wp2
      go_ret
      exact ⟨_, bs, rfl, unhide HO, unhide HE, by omega, unhide HZ, unhide HB⟩

end Go.Proofs.YtjofcmdlcoganaaGreatDoor

namespace Go.Proofs.YtjofcmdlcoganaaGreatDoor
open Go.RowKit

/-- Whether the three numbers are written so, and the write has no fault. -/
def tailOk (k : Int) (zs : List Int) (a b c : Bytes) : Bool := ((numR a).2 && (numR b).2 && (numR c).2) && (writeFault k (numR a).1 zs (numR b).1 (numR c).1 == 0)
def tailW (k : Int) (zs : List Int) (a b c : Bytes) : DWrite := ⟨k, (numR a).1, zs, (numR b).1, (numR c).1⟩

/-- What l3Read tells: a write, whether it is right. -/
def ToldR (w w' : World) (e : Ending) (x : DWrite) (ok : Bool) : Prop := ∃ cs, e = .returned (.tuple #[.agg cs.toArray, .bool ok]) ∧ Lay.tWrite.LiesIn w' cs x w.heap.size w'.heap.size ∧ Below w.heap.size w w'

theorem readsR {w : World} {x : DWrite} {v : Value} {lo hi : Nat} (h : (Lay.sl Lay.int).LiesIn w [v] x.vec lo hi) (h1 : (Lit.int .i64 x.kind).wf = true) (h2 : (Lit.int .i64 x.id).wf = true) (h3 : (Lit.int .i64 x.session).wf = true) (h4 : (Lit.int .i64 x.seq).wf = true) :
    Lay.tWrite.LiesIn w [.int .i64 x.kind, .int .i64 x.id, v, .int .i64 x.session, .int .i64 x.seq] x lo hi := by
  obtain ⟨bl, hl, hb⟩ := h
  have hl' := hl
  obtain ⟨ao, cap, e, -⟩ := hl'
  obtain rfl : v = .slice ao x.vec.length cap := by simpa using e
  exact ⟨bl, lies_Write.2 ⟨ao, cap, bl, rfl, rfl, h1, h2, hl, h3, h4⟩, hb⟩

/-- A write stored into the result's own block: what is known of the others stays. -/
theorem storeR {w wa : World} {sx hi : Nat} {xs cs : Array Value} {T T2 : TypeId} {cv : List Value} {zs : List Int} {vs : List Value} (hb : Below w.heap.size w wa) (bX : Box 0 xs T wa sx) (bR : Box 0 cs T2 wa w.heap.size) (hv : (Lay.sl Lay.int).LiesIn wa cv zs (sx + 1) hi) (hz : hi ≤ wa.heap.size) (hsx : w.heap.size < sx) (hl : cs.size = vs.length) :
    Below w.heap.size w (setAll wa w.heap.size 0 vs) ∧ Box 0 xs T (setAll wa w.heap.size 0 vs) sx ∧ (∃ cs' : Array Value, cs'.size = vs.length ∧ Box 0 cs' T2 (setAll wa w.heap.size 0 vs) w.heap.size) ∧ (Lay.sl Lay.int).LiesIn (setAll wa w.heap.size 0 vs) cv zs (sx + 1) hi ∧ hi ≤ (setAll wa w.heap.size 0 vs).heap.size := by
  have E := ext_setAll (fun q => q = w.heap.size) (Ext.refl _ wa) w.heap.size 0 vs rfl
  refine ⟨below_setAll hb _ _ _ (Nat.le_refl _), bX.ext E (by omega), ?_, hv.ext E (fun k h1 _ h3 => by omega), by rw [size_setAll]; exact hz⟩
  have : ∀ (l : List Value) (i : Nat) (W : World) (c : Array Value), Box 0 c T2 W w.heap.size → ∃ c' : Array Value, c'.size = c.size ∧ Box 0 c' T2 (setAll W w.heap.size i l) w.heap.size := by
    intro l
    induction l with
    | nil => intro i W c h; exact ⟨c, rfl, h⟩
    | cons v l ih =>
      intro i W c h
      obtain ⟨c', h1, h2⟩ := ih (i + 1) _ _ (h.set i v)
      exact ⟨c', by rw [h1]; simp, h2⟩
  obtain ⟨c', h1, h2⟩ := this vs 0 wa cs bR
  exact ⟨c', h1.trans hl, h2⟩

theorem str_of_list {s : ByteArray} {l : List UInt8} (h : s.toList = l) : s = ⟨l.toArray⟩ := by
  obtain ⟨⟨x⟩⟩ := s
  subst h
  simp

theorem own_big {w : World} {base T : Nat} {v : Value} {zs : List Int} (h : w.ownsRow base T 1 v zs.length (zs.map (Value.int .i64))) : zs.length ≤ 9223372036854775807 := by
  rcases h.2 with ⟨-, h0⟩ | ⟨g, cap, cur, -, -, -, h1, h2, -⟩
  · omega
  · unfold maxLen at h2; omega

/-- append of texts that lie somewhere onto a row of texts of the call's own, at a step of a region that draws its order. -/
theorem step_append_at {w1 : World} {base : Nat} {v : Value} {n : Nat} {xs : List Value} (hown : w1.ownsRow base 9 1 v n xs) (ad : Addr) (m c : Nat) (news : List Value) {ops : Array Oper} {o : Oper} {a : Act} {K : Act → World → Prop} {Q : Exit → Act → World → Prop} {E : Prop} (hgd : o.guard = none) (s x : Operand)
    (ho : o.op = .call { callee := .builtin .append, args := #[s, x], argTypes := #[57, 57] }) (hs : a.eval s = v) (hx : a.eval x = .slice (some ad) m c) (hl : news.length = m) (hnews : ∀ (j : Nat) (u : Value), news[j]? = some u → w1.cell? (ad.add j) = some u) (h1 : ∀ u ∈ news, u.oneCell' = true) (hm0 : 0 < m)
    (hn : n + m ≤ 100000000) (hbase : base ≤ w1.heap.size)
    (h : ∀ g cap w', w'.ownsRow base 9 1 (.slice (some ⟨g, 0, none⟩) (n + m) cap) (n + m) (xs ++ news) → Below base w1 w' → g < w'.heap.size → w1.heap.size ≤ w'.heap.size → K (a.put o.dst (.slice (some ⟨g, 0, none⟩) (n + m) cap)) w') :
    if Region.wanted o (yielded ops a.tmps) = true then Oper.wp Tryz.prog o a w1 K Q else E := by
  obtain ⟨i0, hi0, hz0, hz1, hz2⟩ := info_parts infoSt
  refine step_append_lies _ hgd s x 57 ho base 9 i0 _ 1 16 Tryz.underlying57 hi0 hz0 hz1 hz2 rfl (by omega) v n xs hs hown ad m c news hx (by omega) hnews h1 hm0 (by unfold maxLen; omega) (by omega) hbase w1.heap.size rfl ?_
  intro g cap w' h2 h3 _ h5
  exact h g cap w' h2 ((Below.refl _ _).grown h3 hbase (fun j hj => (hown.lt j hj).1)) h5 h3.size

/-- The kind and the vector stored into the write: what is known stays. -/
theorem storeP {w w3 : World} {sx : Nat} {k0 i0 v0 s0 q0 : Value} {T T2 : TypeId} {cs : Array Value} {cv : List Value} {zs : List Int} (k v : Value) (hsx : w.heap.size < sx) (bX : Box 0 #[k0, i0, v0, s0, q0] T w3 sx) (bR : Box 0 cs T2 w3 w.heap.size) (hb : Below w.heap.size w w3) (hv : (Lay.sl Lay.int).LiesIn w3 cv zs (sx + 1) w3.heap.size) :
    Box 0 #[k, i0, v, s0, q0] T ((w3.setCell ⟨sx, 0, none⟩ k).setCell ⟨sx, 2, none⟩ v) sx ∧ Box 0 cs T2 ((w3.setCell ⟨sx, 0, none⟩ k).setCell ⟨sx, 2, none⟩ v) w.heap.size ∧ Below w.heap.size w ((w3.setCell ⟨sx, 0, none⟩ k).setCell ⟨sx, 2, none⟩ v) ∧ (Lay.sl Lay.int).LiesIn ((w3.setCell ⟨sx, 0, none⟩ k).setCell ⟨sx, 2, none⟩ v) cv zs (sx + 1) ((w3.setCell ⟨sx, 0, none⟩ k).setCell ⟨sx, 2, none⟩ v).heap.size := by
  have b1 := (bX.set 0 k).set 2 v
  have E : Ext (fun q => q = sx) w3 ((w3.setCell ⟨sx, 0, none⟩ k).setCell ⟨sx, 2, none⟩ v) := ((Ext.refl (fun q => q = sx) w3).setCell ⟨sx, 0, none⟩ k rfl).setCell ⟨sx, 2, none⟩ v rfl
  have hs := E.size
  refine ⟨by simpa using b1, bR.ext E (by omega), hb.trans (E.below hb.size (fun k hk h => by omega)), (hv.ext E (fun q h1 h2 h3 => by omega)).mono (Nat.le_refl _) hs⟩

/-- Three numbers stored into the write: what is known stays. -/
theorem storeX {w w3 : World} {sx : Nat} {k0 i0 v0 s0 q0 : Value} {T T2 : TypeId} {cs : Array Value} {cv : List Value} {zs : List Int} (na ns nq : Value) (hsx : w.heap.size < sx) (bX : Box 0 #[k0, i0, v0, s0, q0] T w3 sx) (bR : Box 0 cs T2 w3 w.heap.size) (hb : Below w.heap.size w w3) (hv : (Lay.sl Lay.int).LiesIn w3 cv zs (sx + 1) w3.heap.size) :
    Box 0 #[k0, na, v0, ns, nq] T (((w3.setCell ⟨sx, 1, none⟩ na).setCell ⟨sx, 3, none⟩ ns).setCell ⟨sx, 4, none⟩ nq) sx ∧ Box 0 cs T2 (((w3.setCell ⟨sx, 1, none⟩ na).setCell ⟨sx, 3, none⟩ ns).setCell ⟨sx, 4, none⟩ nq) w.heap.size ∧ Below w.heap.size w (((w3.setCell ⟨sx, 1, none⟩ na).setCell ⟨sx, 3, none⟩ ns).setCell ⟨sx, 4, none⟩ nq) ∧ (Lay.sl Lay.int).LiesIn (((w3.setCell ⟨sx, 1, none⟩ na).setCell ⟨sx, 3, none⟩ ns).setCell ⟨sx, 4, none⟩ nq) cv zs (sx + 1) (((w3.setCell ⟨sx, 1, none⟩ na).setCell ⟨sx, 3, none⟩ ns).setCell ⟨sx, 4, none⟩ nq).heap.size := by
  have b1 := ((bX.set 1 na).set 3 ns).set 4 nq
  have E : Ext (fun q => q = sx) w3 (((w3.setCell ⟨sx, 1, none⟩ na).setCell ⟨sx, 3, none⟩ ns).setCell ⟨sx, 4, none⟩ nq) := (((Ext.refl (fun q => q = sx) w3).setCell ⟨sx, 1, none⟩ na rfl).setCell ⟨sx, 3, none⟩ ns rfl).setCell ⟨sx, 4, none⟩ nq rfl
  have hs := E.size
  refine ⟨by simpa using b1, bR.ext E (by omega), hb.trans (E.below hb.size (fun k hk h => by omega)), (hv.ext E (fun q h1 h2 h3 => by omega)).mono (Nat.le_refl _) hs⟩

end Go.Proofs.YtjofcmdlcoganaaGreatDoor

namespace Go.Proofs.YtjofcmdlcoganaaGreatDoor
open Go.RowKit

set_option maxRecDepth 100000 in
set_option maxHeartbeats 400000 in
theorem l3Read_no1 (ao : Option Addr) (n cap : Nat) (w : World) (h5 : n ≠ 5) (h6 : n ≠ 6) :
    Calls Tryz.prog 28 #[.slice ao n cap] w fun e w' => ToldR w w' e ⟨2, 0, [], 0, 0⟩ false := by
  have e5 : ((n : Int) != 5) = true := by rw [bne_iff_ne]; omega
  have e6 : ((n : Int) == 6) = false := by rw [beq_eq_false_iff_ne]; omega
  have nb : Below w.heap.size w ((w.alloc (.cells #[.int .i64 0, .int .i64 0, .slice none 0 0, .int .i64 0, .int .i64 0] 27)).alloc (.cells #[.int .i64 2, .int .i64 0, .slice none 0 0, .int .i64 0, .int .i64 0] 27)) := ((Below.refl _ _).alloc (Nat.le_refl _) _).alloc (by simp) _
  have HB : Hid (∀ o o', Below w.heap.size w ((w.alloc o).alloc o')) := fun o o' => ((Below.refl _ _).alloc (Nat.le_refl _) _).alloc (by simp) _
  clear nb
  go_enter Tryz.func28, Tryz.ntmps28
  go_wp2_with fail
  refine bodyPost_ret (v := .tuple #[.agg #[.int .i64 2, .int .i64 0, .slice none 0 0, .int .i64 0, .int .i64 0], .bool false]) (by simp [results, Tryz.results28, go_sem]) rfl ?_
  refine ⟨[.int .i64 2, .int .i64 0, .slice none 0 0, .int .i64 0, .int .i64 0], rfl, readsR (x := ⟨2, 0, [], 0, 0⟩) ⟨[], Lay.lies_ints.2 ⟨none, 0, rfl, ⟨by simp, by simp⟩, by simp, Or.inl ⟨rfl, rfl⟩⟩, by simp⟩ rfl rfl rfl rfl, ?_⟩
  exact unhide HB _ _

set_option maxRecDepth 100000 in
set_option maxHeartbeats 400000 in
theorem l3Read_no2 (g cap : Nat) (s : ByteArray) (w : World) (h0 : w.cell? ⟨g, 0, none⟩ = some (.string s)) (hs : s ≠ ⟨#[112, 117, 116]⟩) :
    Calls Tryz.prog 28 #[.slice (some ⟨g, 0, none⟩) 6 cap] w fun e w' => ToldR w w' e ⟨2, 0, [], 0, 0⟩ false := by
  have e0 : (s.toList == [112, 117, 116]) = false := by rw [beq_eq_false_iff_ne]; exact fun h => hs (str_of_list h)
  have nb : Below w.heap.size w ((w.alloc (.cells #[.int .i64 0, .int .i64 0, .slice none 0 0, .int .i64 0, .int .i64 0] 27)).alloc (.cells #[.int .i64 2, .int .i64 0, .slice none 0 0, .int .i64 0, .int .i64 0] 27)) := ((Below.refl _ _).alloc (Nat.le_refl _) _).alloc (by simp) _
  replace h0 := cell_keep nb h0
  have HB : Hid (∀ o o', Below w.heap.size w ((w.alloc o).alloc o')) := fun o o' => ((Below.refl _ _).alloc (Nat.le_refl _) _).alloc (by simp) _
  clear nb
  go_enter Tryz.func28, Tryz.ntmps28
  go_wp2_with fail
  refine bodyPost_ret (v := .tuple #[.agg #[.int .i64 2, .int .i64 0, .slice none 0 0, .int .i64 0, .int .i64 0], .bool false]) (by simp [results, Tryz.results28, go_sem]) rfl ?_
  refine ⟨[.int .i64 2, .int .i64 0, .slice none 0 0, .int .i64 0, .int .i64 0], rfl, readsR (x := ⟨2, 0, [], 0, 0⟩) ⟨[], Lay.lies_ints.2 ⟨none, 0, rfl, ⟨by simp, by simp⟩, by simp, Or.inl ⟨rfl, rfl⟩⟩, by simp⟩ rfl rfl rfl rfl, ?_⟩
  exact unhide HB _ _

set_option maxRecDepth 100000 in
set_option maxHeartbeats 400000 in
theorem l3Read_no3 (g cap : Nat) (s : ByteArray) (w : World) (h0 : w.cell? ⟨g, 0, none⟩ = some (.string s)) (hs : s ≠ ⟨#[100, 114, 111, 112]⟩) :
    Calls Tryz.prog 28 #[.slice (some ⟨g, 0, none⟩) 5 cap] w fun e w' => ToldR w w' e ⟨2, 0, [], 0, 0⟩ false := by
  have e0 : (s.toList == [100, 114, 111, 112]) = false := by rw [beq_eq_false_iff_ne]; exact fun h => hs (str_of_list h)
  have nb : Below w.heap.size w ((w.alloc (.cells #[.int .i64 0, .int .i64 0, .slice none 0 0, .int .i64 0, .int .i64 0] 27)).alloc (.cells #[.int .i64 2, .int .i64 0, .slice none 0 0, .int .i64 0, .int .i64 0] 27)) := ((Below.refl _ _).alloc (Nat.le_refl _) _).alloc (by simp) _
  replace h0 := cell_keep nb h0
  have HB : Hid (∀ o o', Below w.heap.size w ((w.alloc o).alloc o')) := fun o o' => ((Below.refl _ _).alloc (Nat.le_refl _) _).alloc (by simp) _
  clear nb
  go_enter Tryz.func28, Tryz.ntmps28
  go_wp2_with fail
  refine bodyPost_ret (v := .tuple #[.agg #[.int .i64 2, .int .i64 0, .slice none 0 0, .int .i64 0, .int .i64 0], .bool false]) (by simp [results, Tryz.results28, go_sem]) rfl ?_
  refine ⟨[.int .i64 2, .int .i64 0, .slice none 0 0, .int .i64 0, .int .i64 0], rfl, readsR (x := ⟨2, 0, [], 0, 0⟩) ⟨[], Lay.lies_ints.2 ⟨none, 0, rfl, ⟨by simp, by simp⟩, by simp, Or.inl ⟨rfl, rfl⟩⟩, by simp⟩ rfl rfl rfl rfl, ?_⟩
  exact unhide HB _ _

set_option maxRecDepth 100000 in
set_option maxHeartbeats 400000 in
theorem l3Read_no4 (g cap : Nat) (s : ByteArray) (w : World) (h0 : w.cell? ⟨g, 0, none⟩ = some (.string ⟨#[100, 114, 111, 112]⟩)) (h2 : w.cell? ⟨g, 2, none⟩ = some (.string s)) (hs : s ≠ ⟨#[98, 121]⟩) :
    Calls Tryz.prog 28 #[.slice (some ⟨g, 0, none⟩) 5 cap] w fun e w' => ToldR w w' e ⟨2, 0, [], 0, 0⟩ false := by
  have e0 : (s.toList == [98, 121]) = false := by rw [beq_eq_false_iff_ne]; exact fun h => hs (str_of_list h)
  have nb : Below w.heap.size w ((w.alloc (.cells #[.int .i64 0, .int .i64 0, .slice none 0 0, .int .i64 0, .int .i64 0] 27)).alloc (.cells #[.int .i64 2, .int .i64 0, .slice none 0 0, .int .i64 0, .int .i64 0] 27)) := ((Below.refl _ _).alloc (Nat.le_refl _) _).alloc (by simp) _
  replace h0 := cell_keep nb h0
  replace h2 := cell_keep nb h2
  have HB : Hid (∀ o o', Below w.heap.size w ((w.alloc o).alloc o')) := fun o o' => ((Below.refl _ _).alloc (Nat.le_refl _) _).alloc (by simp) _
  clear nb
  go_enter Tryz.func28, Tryz.ntmps28
  go_wp2_with fail
  refine bodyPost_ret (v := .tuple #[.agg #[.int .i64 2, .int .i64 0, .slice none 0 0, .int .i64 0, .int .i64 0], .bool false]) (by simp [results, Tryz.results28, go_sem]) rfl ?_
  refine ⟨[.int .i64 2, .int .i64 0, .slice none 0 0, .int .i64 0, .int .i64 0], rfl, readsR (x := ⟨2, 0, [], 0, 0⟩) ⟨[], Lay.lies_ints.2 ⟨none, 0, rfl, ⟨by simp, by simp⟩, by simp, Or.inl ⟨rfl, rfl⟩⟩, by simp⟩ rfl rfl rfl rfl, ?_⟩
  exact unhide HB _ _

end Go.Proofs.YtjofcmdlcoganaaGreatDoor
