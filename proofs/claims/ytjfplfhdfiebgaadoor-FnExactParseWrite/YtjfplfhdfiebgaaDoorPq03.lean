/-
  Texts of this proof in one: MkWrite, MkWriteResult, ReadPlain, NumPlain, Digits, ParsePlain, CutPlain, Number, Cut.
  Their conditions stand in their theorems.
-/
import Derived.Test.YtjfplfhdfiebgaaDoorPq02
import Derived.WalkKit
import Derived.Test.YtjfplfhdfiebgaaDoorChecked
import Derived.Test.YtjfplfhdfiebgaaDoorPq01
import Derived.Laws.BytesArg
import Derived.Laws.Concat
import Derived.Deep.RegionHeld3
import Derived.Deep.RegionWith
import Derived.Laws.Strings2
import Derived.Lib.Strings
import Derived.Deep.AppendLies

namespace Go.Proofs.YtjfplfhdfiebgaaDoor
open Go.RowKit

set_option maxRecDepth 10000 in
set_option maxHeartbeats 1000000 in
theorem held_Write (cs : List Value) (x : DWrite) (k : Int) (w : World) (h : Lay.tWrite.Reads w cs (Lay.tWrite.mkv k x)) (hk : 0 ≤ k) (hk2 : k + Lay.tWrite.vcnt x ≤ 1000000000) :
    Calls Tryd.prog 29 #[.agg cs.toArray, .int .i64 k] w fun e w' => e = .returned (.int .i64 (k + Lay.tWrite.vcnt x)) ∧ Below w.heap.size w w' := by
  rw [mkv_Write] at h
  rw [vcnt_Write] at hk2
  have HV := hide (vcnt_Write x)
  obtain ⟨a2, d2, rfl, R2⟩ := open_Write h
  clear h
  generalize hn2 : (⟨x.kind, x.id, (Lay.sl Lay.int).mkv (k) x.vec, x.session, x.seq⟩ : DWrite).vec.length = n2 at *
  clear hn2
  have HB0 : Below w.heap.size w (w.alloc (.cells #[.int .i64 x.kind, .int .i64 x.id, .slice a2 n2 d2, .int .i64 x.session, .int .i64 x.seq] 29)) := (Below.refl _ _).alloc (Nat.le_refl _) _
  have bA : Box w.heap.size #[.int .i64 x.kind, .int .i64 x.id, .slice a2 n2 d2, .int .i64 x.session, .int .i64 x.seq] 29 (w.alloc (.cells #[.int .i64 x.kind, .int .i64 x.id, .slice a2 n2 d2, .int .i64 x.session, .int .i64 x.seq] 29)) w.heap.size := newBox (Nat.le_refl _)
  go_enter Tryd.func29, Tryd.ntmps29
  go_wp2_with fail
  generalize w.alloc (.cells #[.int .i64 x.kind, .int .i64 x.id, .slice a2 n2 d2, .int .i64 x.session, .int .i64 x.seq] 29) = W0 at *
  replace R2 := R2.later HB0
  refine (held_Int64S _ x.vec (k) _ R2 (by omega) (by omega)).mono ?_
  rintro e w1 ⟨rfl, hb⟩
  replace HB0 := HB0.trans (hb.mono HB0.size)
  replace bA := bA.keep hb
  have HA := hide bA
  have HX := hide HB0
  clear bA HB0 hb R2
  have hq : decide (k + ((Lay.sl Lay.int).vcnt x.vec : Int) < 0) = false := by simp; omega
  go_wp2_with fail
  clear hq
  go_ret
  refine ⟨?_, unhide HX⟩
  rw [show k + (Lay.tWrite.vcnt x : Int) = k + ((Lay.sl Lay.int).vcnt x.vec : Int) by rw [unhide HV]]
  rfl

end Go.Proofs.YtjfplfhdfiebgaaDoor

namespace Go.Proofs.YtjfplfhdfiebgaaDoor
open Go.RowKit

set_option maxRecDepth 10000 in
set_option maxHeartbeats 1000000 in
theorem held_WriteResult (cs : List Value) (x : DWriteResult) (k : Int) (w : World) (h : Lay.tWriteResult.Reads w cs (Lay.tWriteResult.mkv k x)) (hk : 0 ≤ k) (hk2 : k + Lay.tWriteResult.vcnt x ≤ 1000000000) :
    Calls Tryd.prog 15 #[.agg cs.toArray, .int .i64 k] w fun e w' => e = .returned (.int .i64 (k + Lay.tWriteResult.vcnt x)) ∧ Below w.heap.size w w' := by
  rw [mkv_WriteResult] at h
  rw [vcnt_WriteResult] at hk2
  have HV := hide (vcnt_WriteResult x)
  obtain ⟨a3, d3, rfl, R1⟩ := open_WriteResult h
  clear h
  generalize hn3 : (⟨x.code, Lay.tWrite.mkv (k) x.write⟩ : DWriteResult).write.vec.length = n3 at *
  clear hn3
  generalize hn1 : (⟨x.code, Lay.tWrite.mkv (k) x.write⟩ : DWriteResult).write.kind = n1 at *
  generalize hn2 : (⟨x.code, Lay.tWrite.mkv (k) x.write⟩ : DWriteResult).write.id = n2 at *
  generalize hn4 : (⟨x.code, Lay.tWrite.mkv (k) x.write⟩ : DWriteResult).write.session = n4 at *
  generalize hn5 : (⟨x.code, Lay.tWrite.mkv (k) x.write⟩ : DWriteResult).write.seq = n5 at *
  clear hn1 hn2 hn4 hn5
  have HB0 : Below w.heap.size w (w.alloc (.cells #[.int .i64 x.code, .int .i64 n1, .int .i64 n2, .slice a3 n3 d3, .int .i64 n4, .int .i64 n5] 35)) := (Below.refl _ _).alloc (Nat.le_refl _) _
  have bA : Box w.heap.size #[.int .i64 x.code, .int .i64 n1, .int .i64 n2, .slice a3 n3 d3, .int .i64 n4, .int .i64 n5] 35 (w.alloc (.cells #[.int .i64 x.code, .int .i64 n1, .int .i64 n2, .slice a3 n3 d3, .int .i64 n4, .int .i64 n5] 35)) w.heap.size := newBox (Nat.le_refl _)
  go_enter Tryd.func15, Tryd.ntmps15
  go_wp2_with fail
  generalize w.alloc (.cells #[.int .i64 x.code, .int .i64 n1, .int .i64 n2, .slice a3 n3 d3, .int .i64 n4, .int .i64 n5] 35) = W0 at *
  replace R1 := R1.later HB0
  refine (held_Write _ x.write (k) _ R1 (by omega) (by omega)).mono ?_
  rintro e w1 ⟨rfl, hb⟩
  replace HB0 := HB0.trans (hb.mono HB0.size)
  replace bA := bA.keep hb
  have HA := hide bA
  have HX := hide HB0
  clear bA HB0 hb R1
  have hq : decide (k + (Lay.tWrite.vcnt x.write : Int) < 0) = false := by simp; omega
  go_wp2_with fail
  clear hq
  go_ret
  refine ⟨?_, unhide HX⟩
  rw [show k + (Lay.tWriteResult.vcnt x : Int) = k + (Lay.tWrite.vcnt x.write : Int) by rw [unhide HV]]
  rfl

end Go.Proofs.YtjfplfhdfiebgaaDoor

namespace Go.Proofs.YtjfplfhdfiebgaaDoor

abbrev Bytes := List UInt8

def isDig (c : UInt8) : Bool := decide (48 ≤ c.toNat) && decide (c.toNat ≤ 57)
def headDig : Bytes → Bool
  | [] => false
  | d :: _ => isDig d
def digs (n : Int) : Bytes → Option (Int × Bytes)
  | [] => none
  | c :: r => if 1000 < n * 10 + ((c.toNat : Int) - 48) then none else if headDig r then digs (n * 10 + ((c.toNat : Int) - 48)) r else some (n * 10 + ((c.toNat : Int) - 48), r)
def unsgn (σ : Int) : Bytes → Option (Int × Bytes)
  | [] => none
  | c :: r => if isDig c then (if c.toNat = 48 then (if σ < 0 then none else some (σ * 0, r)) else (digs 0 (c :: r)).map fun q => (σ * q.1, q.2)) else none
def rpart : Bytes → Option (Int × Bytes)
  | [] => none
  | c :: r => if c.toNat = 45 then unsgn (-1) r else unsgn 1 (c :: r)

abbrev Tri := Int × Int × Int
def setAt : Nat → Tri → Int → Tri
  | 0, t, v => (v, t.2.1, t.2.2)
  | 1, t, v => (t.1, v, t.2.2)
  | _, t, v => (t.1, t.2.1, v)
def fin3 (t : Tri) : Bytes → Option Tri
  | [] => some t
  | _ => none

/-- q places are left; the last one leaves the end. -/
def PP : Nat → Tri → Bytes → Option Tri
  | 0, _, _ => none
  | q + 1, t, r =>
    match rpart r with
    | none => none
    | some (v, r1) =>
      match q with
      | 0 => fin3 (setAt 2 t v) r1
      | q' + 1 =>
        match r1 with
        | [] => none
        | c :: r2 => if c.toNat = 44 then PP (q' + 1) (setAt (1 - q') t v) r2 else none

def EE (p : Nat) (t : Tri) (r : Bytes) : Option Tri :=
  if p = 2 then fin3 t r else match r with
    | [] => none
    | c :: r2 => if c.toNat = 44 then PP (2 - p) t r2 else none

theorem PP_eq (p : Nat) (hp : p ≤ 2) (t : Tri) (r : Bytes) : PP (3 - p) t r = match rpart r with | none => none | some (v, r1) => EE p (setAt p t v) r1 := by
  rcases (show p = 0 ∨ p = 1 ∨ p = 2 by omega) with rfl | rfl | rfl
  · show PP 3 t r = _
    rw [PP]
    cases rpart r with
    | none => rfl
    | some q => obtain ⟨v, r1⟩ := q; cases r1 <;> simp [EE]
  · show PP 2 t r = _
    rw [PP]
    cases rpart r with
    | none => rfl
    | some q => obtain ⟨v, r1⟩ := q; cases r1 <;> simp [EE]
  · show PP 1 t r = _
    rw [PP]
    cases rpart r with
    | none => rfl
    | some q => obtain ⟨v, r1⟩ := q; cases r1 <;> simp [EE]

def UU (p : Nat) (t : Tri) (σ : Int) (r : Bytes) : Option Tri := match unsgn σ r with | none => none | some (v, r1) => EE p (setAt p t v) r1
def DD (p : Nat) (t : Tri) (σ n : Int) (r : Bytes) : Option Tri := match digs n r with | none => none | some (v, r1) => EE p (setAt p t (σ * v)) r1

/-- The byte at k, 0 behind the end. -/
def bAt (s : ByteArray) (k : Nat) : Int := if h : k < s.size then (s[k].toNat : Int) else 0
def digB (b : Int) : Bool := decide (48 ≤ b) && decide (b ≤ 57)

def rest (s : ByteArray) (k : Nat) : Bytes := s.data.toList.drop k
theorem rest_nil (s : ByteArray) (k : Nat) (h : ¬ k < s.size) : rest s k = [] := by
  unfold rest
  exact List.drop_of_length_le (by simp; simpa using h)
theorem rest_cons (s : ByteArray) (k : Nat) (h : k < s.size) : rest s k = s[k] :: rest s (k + 1) := by
  unfold rest
  rw [List.drop_eq_getElem_cons (by simpa using h)]
  rfl
theorem bAt_lt (s : ByteArray) (k : Nat) (h : k < s.size) : bAt s k = (s[k].toNat : Int) := by simp [bAt, h]
theorem bAt_ge (s : ByteArray) (k : Nat) (h : ¬ k < s.size) : bAt s k = 0 := by simp [bAt, h]
theorem bAt_bd (s : ByteArray) (k : Nat) : 0 ≤ bAt s k ∧ bAt s k ≤ 255 := by
  unfold bAt
  split
  · have := s[k].toNat_lt; omega
  · omega
theorem lt_of_bAt (s : ByteArray) (k : Nat) (h : bAt s k ≠ 0) : k < s.size := by
  by_cases hk : k < s.size
  · exact hk
  · exact absurd (bAt_ge s k hk) h
theorem digB_lt (s : ByteArray) (k : Nat) (h : digB (bAt s k) = true) : k < s.size := by
  refine lt_of_bAt s k ?_
  simp [digB] at h
  omega
theorem isDig_at (s : ByteArray) (k : Nat) (h : k < s.size) : isDig s[k] = digB (bAt s k) := by
  rw [bAt_lt s k h]
  simp only [isDig, digB]
  congr 1
  · rw [decide_eq_decide]; omega
  · rw [decide_eq_decide]; omega
theorem headDig_at (s : ByteArray) (k : Nat) : headDig (rest s k) = digB (bAt s k) := by
  by_cases h : k < s.size
  · rw [rest_cons s k h]; exact isDig_at s k h
  · rw [rest_nil s k h, bAt_ge s k h]; rfl

theorem PP_minus (s : ByteArray) (k p : Nat) (t : Tri) (hp : p ≤ 2) (h : bAt s k = 45) : PP (3 - p) t (rest s k) = UU p t (-1) (rest s (k + 1)) := by
  have hk := lt_of_bAt s k (by omega)
  have h1 : s[k].toNat = 45 := by have := bAt_lt s k hk; omega
  rw [PP_eq p hp, rest_cons s k hk]
  simp [rpart, h1, UU]
theorem PP_plus (s : ByteArray) (k p : Nat) (t : Tri) (hp : p ≤ 2) (h : bAt s k ≠ 45) : PP (3 - p) t (rest s k) = UU p t 1 (rest s k) := by
  rw [PP_eq p hp]
  by_cases hk : k < s.size
  · have h1 : ¬ s[k].toNat = 45 := by have := bAt_lt s k hk; omega
    rw [rest_cons s k hk]
    simp [rpart, h1, UU]
  · rw [rest_nil s k hk]
    simp [rpart, UU, unsgn]
theorem UU_bad (s : ByteArray) (k p : Nat) (t : Tri) (σ : Int) (h : digB (bAt s k) = false) : UU p t σ (rest s k) = none := by
  by_cases hk : k < s.size
  · have := isDig_at s k hk
    rw [rest_cons s k hk]
    simp [UU, unsgn, this, h]
  · rw [rest_nil s k hk]
    simp [UU, unsgn]
theorem UU_digit (s : ByteArray) (k p : Nat) (t : Tri) (σ : Int) (h : digB (bAt s k) = true) (h0 : bAt s k ≠ 48) : UU p t σ (rest s k) = DD p t σ 0 (rest s k) := by
  have hk := digB_lt s k h
  have h1 := isDig_at s k hk
  have h2 : ¬ s[k].toNat = 48 := by have := bAt_lt s k hk; omega
  rw [rest_cons s k hk]
  simp only [UU, unsgn, h1, h, h2, if_true, if_false, DD]
  cases digs 0 (s[k] :: rest s (k + 1)) with
  | none => rfl
  | some q => rfl
theorem UU_zero_neg (s : ByteArray) (k p : Nat) (t : Tri) (h0 : bAt s k = 48) : UU p t (-1) (rest s k) = none := by
  have hk := lt_of_bAt s k (by omega)
  have h2 : s[k].toNat = 48 := by have := bAt_lt s k hk; omega
  have h1 := isDig_at s k hk
  have h : digB (bAt s k) = true := by rw [h0]; rfl
  rw [rest_cons s k hk]
  simp [UU, unsgn, h1, h, h2]
theorem UU_zero (s : ByteArray) (k p : Nat) (t : Tri) (h0 : bAt s k = 48) : UU p t 1 (rest s k) = EE p (setAt p t (1 * 0)) (rest s (k + 1)) := by
  have hk := lt_of_bAt s k (by omega)
  have h2 : s[k].toNat = 48 := by have := bAt_lt s k hk; omega
  have h1 := isDig_at s k hk
  have h : digB (bAt s k) = true := by rw [h0]; rfl
  rw [rest_cons s k hk]
  simp [UU, unsgn, h1, h, h2]
theorem DD_much (s : ByteArray) (k p : Nat) (t : Tri) (σ n : Int) (h : digB (bAt s k) = true) (hm : 1000 < n * 10 + (bAt s k - 48)) : DD p t σ n (rest s k) = none := by
  have hk := digB_lt s k h
  have e := bAt_lt s k hk
  rw [rest_cons s k hk]
  rw [e] at hm
  simp [DD, digs, hm]
theorem DD_more (s : ByteArray) (k p : Nat) (t : Tri) (σ n : Int) (h : digB (bAt s k) = true) (hm : ¬ 1000 < n * 10 + (bAt s k - 48)) (h2 : digB (bAt s (k + 1)) = true) : DD p t σ n (rest s k) = DD p t σ (n * 10 + (bAt s k - 48)) (rest s (k + 1)) := by
  have hk := digB_lt s k h
  have e := bAt_lt s k hk
  have e2 := headDig_at s (k + 1)
  rw [rest_cons s k hk]
  rw [e] at hm ⊢
  simp only [DD, digs, hm, if_false, e2, h2, if_true]
theorem DD_end (s : ByteArray) (k p : Nat) (t : Tri) (σ n : Int) (h : digB (bAt s k) = true) (hm : ¬ 1000 < n * 10 + (bAt s k - 48)) (h2 : digB (bAt s (k + 1)) = false) : DD p t σ n (rest s k) = EE p (setAt p t (σ * (n * 10 + (bAt s k - 48)))) (rest s (k + 1)) := by
  have hk := digB_lt s k h
  have e := bAt_lt s k hk
  have e2 := headDig_at s (k + 1)
  rw [rest_cons s k hk]
  rw [e] at hm ⊢
  simp [DD, digs, hm, e2, h2]
theorem EE_last (t : Tri) (r : Bytes) : EE 2 t r = fin3 t r := by simp [EE]
theorem EE_comma (s : ByteArray) (k p : Nat) (t : Tri) (hp : p < 2) (h : bAt s k = 44) : EE p t (rest s k) = PP (3 - (p + 1)) t (rest s (k + 1)) := by
  have hk := lt_of_bAt s k (by omega)
  have h2 : s[k].toNat = 44 := by have := bAt_lt s k hk; omega
  have hp2 : ¬ p = 2 := by omega
  rw [rest_cons s k hk]
  simp [EE, hp2, h2, show 3 - (p + 1) = 2 - p by omega]
theorem EE_wrong (s : ByteArray) (k p : Nat) (t : Tri) (hp : p < 2) (h : bAt s k ≠ 44) : EE p t (rest s k) = none := by
  have hp2 : ¬ p = 2 := by omega
  by_cases hk : k < s.size
  · have h2 : ¬ s[k].toNat = 44 := by have := bAt_lt s k hk; omega
    rw [rest_cons s k hk]
    simp [EE, hp2, h2]
  · rw [rest_nil s k hk]
    simp [EE, hp2]
theorem fin3_end (s : ByteArray) (k : Nat) (t : Tri) (h : ¬ k < s.size) : fin3 t (rest s k) = some t := by rw [rest_nil s k h]; rfl
theorem fin3_more (s : ByteArray) (k : Nat) (t : Tri) (h : k < s.size) : fin3 t (rest s k) = none := by rw [rest_cons s k h]; rfl

end Go.Proofs.YtjfplfhdfiebgaaDoor

namespace Go.Proofs.YtjfplfhdfiebgaaDoor

/-- What digits are worth, behind n. -/
def dval (n : Int) : Bytes → Int
  | [] => n
  | c :: r => dval (n * 10 + ((c.toNat : Int) - 48)) r
def allDig : Bytes → Bool
  | [] => true
  | c :: r => isDig c && allDig r

theorem isDig_bd {c : UInt8} (h : isDig c = true) : 48 ≤ c.toNat ∧ c.toNat ≤ 57 := by simpa [isDig] using h
theorem dval_ge (n : Int) (hn : 0 ≤ n) (l : Bytes) (h : allDig l = true) : n ≤ dval n l := by
  induction l generalizing n with
  | nil => exact Int.le_refl _
  | cons c r ih =>
    simp only [allDig, Bool.and_eq_true] at h
    have hb := isDig_bd h.1
    have := ih (n * 10 + ((c.toNat : Int) - 48)) (by omega) h.2
    simp only [dval]
    omega
theorem dval_snoc (n : Int) (l : Bytes) (c : UInt8) : dval n (l ++ [c]) = dval n l * 10 + ((c.toNat : Int) - 48) := by
  induction l generalizing n with
  | nil => rfl
  | cons d r ih => exact ih _
theorem allDig_snoc (l : Bytes) (c : UInt8) : allDig (l ++ [c]) = (allDig l && isDig c) := by
  induction l with
  | nil => simp [allDig]
  | cons d r ih => simp [allDig, ih, Bool.and_assoc]

/-- The machine's digits, at a text that opens with digits. -/
theorem digs_app (ds r : Bytes) (n : Int) (hn : 0 ≤ n) (h : allDig ds = true) (hne : ds ≠ []) (hr : headDig r = false) : digs n (ds ++ r) = if 1000 < dval n ds then none else some (dval n ds, r) := by
  induction ds generalizing n with
  | nil => exact absurd rfl hne
  | cons c ds ih =>
    simp only [allDig, Bool.and_eq_true] at h
    have hb := isDig_bd h.1
    have hge := dval_ge (n * 10 + ((c.toNat : Int) - 48)) (by omega) ds h.2
    simp only [List.cons_append, digs, dval]
    cases ds with
    | nil =>
      by_cases hm : 1000 < n * 10 + ((c.toNat : Int) - 48)
      · simp [hm, dval]
      · simp [hm, dval, hr]
    | cons d ds' =>
      have hd : headDig (d :: ds' ++ r) = true := by
        simp only [allDig, Bool.and_eq_true] at h
        exact h.2.1
      have h2 := ih (n * 10 + ((c.toNat : Int) - 48)) (by omega) h.2 (by simp)
      by_cases hm : 1000 < n * 10 + ((c.toNat : Int) - 48)
      · have : 1000 < dval (n * 10 + ((c.toNat : Int) - 48)) (d :: ds') := by omega
        simp only [hm, if_true, this]
      · rw [if_neg hm, if_pos hd]
        exact h2

/-- What the machine took were digits. -/
theorem digs_some (l : Bytes) (n v : Int) (r : Bytes) (hn : 0 ≤ n) (h0 : headDig l = true) (h : digs n l = some (v, r)) : ∃ ds, l = ds ++ r ∧ ds ≠ [] ∧ allDig ds = true ∧ dval n ds = v ∧ v ≤ 1000 ∧ headDig r = false := by
  induction l generalizing n with
  | nil => simp [digs] at h
  | cons c l ih =>
    simp only [digs] at h
    have hc : isDig c = true := h0
    have hb := isDig_bd hc
    by_cases hm : 1000 < n * 10 + ((c.toNat : Int) - 48)
    · simp [hm] at h
    · simp only [hm, if_false] at h
      cases hd : headDig l with
      | true =>
        simp only [hd, if_true] at h
        obtain ⟨ds, e1, e2, e3, e4, e5, e6⟩ := ih _ (by omega) hd h
        exact ⟨c :: ds, by rw [e1]; rfl, by simp, by simp [allDig, hc, e3], e4, e5, e6⟩
      | false =>
        simp only [hd] at h
        simp at h
        obtain ⟨rfl, rfl⟩ := h
        exact ⟨[c], rfl, by simp, by simp [allDig, hc], rfl, by omega, hd⟩

def dch (n : Nat) : UInt8 := UInt8.ofNat (48 + n)
def decF : Nat → Nat → Bytes
  | 0, _ => []
  | f + 1, n => if n < 10 then [dch n] else decF f (n / 10) ++ [dch (n % 10)]
def dec (n : Int) : Bytes := if n < 0 then 45 :: decF 4 n.natAbs else decF 4 n.toNat

theorem decF_len (f n : Nat) : (decF f n).length ≤ f := by
  induction f generalizing n with
  | zero => simp [decF]
  | succ f ih =>
    unfold decF
    split
    · simp
    · have := ih (n / 10)
      simp
      omega

theorem dch_nat (n : Nat) (h : n < 10) : (dch n).toNat = 48 + n := by
  unfold dch
  rw [UInt8.toNat_ofNat']
  omega
theorem dch_dig (n : Nat) (h : n < 10) : isDig (dch n) = true := by
  have := dch_nat n h
  simp [isDig, this]
  omega
theorem dch_of (c : UInt8) (h : isDig c = true) : dch (c.toNat - 48) = c := by
  have hb := isDig_bd h
  apply UInt8.toNat_inj.1
  rw [dch_nat _ (by omega)]
  omega

/-- What decF writes. -/
theorem decF_facts (f n : Nat) (hn : n < 10 ^ (f + 1)) : allDig (decF (f + 1) n) = true ∧ decF (f + 1) n ≠ [] ∧ dval 0 (decF (f + 1) n) = n ∧ (1 ≤ n → ∀ c r, decF (f + 1) n = c :: r → c.toNat ≠ 48) := by
  induction f generalizing n with
  | zero =>
    have h : n < 10 := by omega
    have e : decF (0 + 1) n = [dch n] := by rw [decF, if_pos h]
    have e2 := dch_nat n h
    rw [e]
    refine ⟨by simp [allDig, dch_dig n h], by simp, by simp [dval, e2]; omega, fun h1 c r hc => ?_⟩
    simp at hc
    obtain ⟨rfl, _⟩ := hc
    omega
  | succ f ih =>
    by_cases h : n < 10
    · have e : decF (f + 1 + 1) n = [dch n] := by rw [decF, if_pos h]
      have e2 := dch_nat n h
      rw [e]
      refine ⟨by simp [allDig, dch_dig n h], by simp, by simp [dval, e2]; omega, fun h1 c r hc => ?_⟩
      simp at hc
      obtain ⟨rfl, _⟩ := hc
      omega
    · have e : decF (f + 1 + 1) n = decF (f + 1) (n / 10) ++ [dch (n % 10)] := by rw [decF, if_neg h]
      have hq : n / 10 < 10 ^ (f + 1) := by
        rw [Nat.pow_succ] at hn
        omega
      obtain ⟨i1, i2, i3, i4⟩ := ih (n / 10) hq
      have hm : n % 10 < 10 := by omega
      rw [e]
      refine ⟨by rw [allDig_snoc, i1, dch_dig _ hm]; rfl, by simp, by rw [dval_snoc, i3, dch_nat _ hm]; omega, fun h1 c r hc => ?_⟩
      cases hl : decF (f + 1) (n / 10) with
      | nil => exact absurd hl i2
      | cons d ds =>
        rw [hl] at hc
        simp at hc
        obtain ⟨rfl, _⟩ := hc
        exact i4 (by omega) d ds hl

/-- One text alone. -/
theorem decF_of (f : Nat) : ∀ (ds : Bytes) (n : Nat), allDig ds = true → ds ≠ [] → (∀ c r, ds = c :: r → r ≠ [] → c.toNat ≠ 48) → dval 0 ds = n → n < 10 ^ (f + 1) → decF (f + 1) n = ds := by
  induction f with
  | zero =>
    intro ds n h1 h2 h3 h4 h5
    rcases List.eq_nil_or_concat ds with rfl | ⟨l, c, rfl⟩
    · exact absurd rfl h2
    · rw [List.concat_eq_append] at *
      rw [allDig_snoc, Bool.and_eq_true] at h1
      rw [dval_snoc] at h4
      have hb := isDig_bd h1.2
      have hl := dval_ge 0 (by omega) l h1.1
      have hn : n < 10 := by omega
      cases l with
      | nil =>
        rw [decF, if_pos hn]
        simp only [dval] at h4
        have : n = c.toNat - 48 := by omega
        rw [this, dch_of c h1.2]
        rfl
      | cons d ds =>
        exfalso
        have h6 := h3 d (ds ++ [c]) rfl (by simp)
        simp only [allDig, Bool.and_eq_true] at h1
        have hd := isDig_bd h1.1.1
        have := dval_ge (0 * 10 + ((d.toNat : Int) - 48)) (by omega) ds h1.1.2
        simp only [dval] at h4
        omega
  | succ f ih =>
    intro ds n h1 h2 h3 h4 h5
    rcases List.eq_nil_or_concat ds with rfl | ⟨l, c, rfl⟩
    · exact absurd rfl h2
    · rw [List.concat_eq_append] at *
      rw [allDig_snoc, Bool.and_eq_true] at h1
      rw [dval_snoc] at h4
      have hb := isDig_bd h1.2
      have hl := dval_ge 0 (by omega) l h1.1
      cases l with
      | nil =>
        simp only [dval] at h4
        have hn : n < 10 := by omega
        rw [decF, if_pos hn]
        have : n = c.toNat - 48 := by omega
        rw [this, dch_of c h1.2]
        rfl
      | cons d ds =>
        have h6 := h3 d (ds ++ [c]) rfl (by simp)
        have h7 := h1.1
        simp only [allDig, Bool.and_eq_true] at h7
        have hd := isDig_bd h7.1
        have h8 := dval_ge (0 * 10 + ((d.toNat : Int) - 48)) (by omega) ds h7.2
        have h9 : dval 0 (d :: ds) = dval (0 * 10 + ((d.toNat : Int) - 48)) ds := rfl
        have hn : ¬ n < 10 := by omega
        have hq : dval 0 (d :: ds) = ((n / 10 : Nat) : Int) := by omega
        rw [decF, if_neg hn, ih (d :: ds) (n / 10) h1.1 (by simp) (fun c' r' he hr => by simp at he; obtain ⟨rfl, _⟩ := he; exact h6) hq (by rw [Nat.pow_succ] at h5; omega)]
        have : n % 10 = c.toNat - 48 := by omega
        rw [this, dch_of c h1.2]

end Go.Proofs.YtjfplfhdfiebgaaDoor

namespace Go.Proofs.YtjfplfhdfiebgaaDoor
open Go.RowKit

def str (l : Bytes) : Value := .string ⟨l.toArray⟩

theorem below_keep {w W W' : World} (h : Below w.heap.size w W) (k : Below W.heap.size W W') : Below w.heap.size w W' := h.trans (k.mono h.size)

theorem below_undrew {W w1 : World} (h : Below W.drew.heap.size W.drew w1) : Below W.heap.size W w1 := ⟨h.os, h.tape, h.output, h.size, h.block⟩
theorem str_app (l m : Bytes) : (⟨l.toArray⟩ ++ ⟨m.toArray⟩ : ByteArray) = ⟨(l ++ m).toArray⟩ := by
  apply ByteArray.ext
  simp

theorem conv1 (w : World) (x : Int) : (convert 76 9 (.slice (some ⟨w.heap.size, 0, none⟩) 1 1)).run Tryd.prog (w.alloc (.cells #[.int .u8 x] 5)) = .ok (.string ⟨#[UInt8.ofNat x.toNat]⟩) (w.alloc (.cells #[.int .u8 x] 5)) := by
  have h := run_convert_bytes_arg (P := Tryd.prog) (w.alloc (.cells #[.int .u8 x] 5)) 76 5 Tryd.underlying76 Tryd.underlying5 w.heap.size 0 1 1 [x] rfl (fun i hi => by
    obtain rfl : i = 0 := by omega
    simp [go_sem]) 9 Tryd.underlying9
  exact h

theorem conv_later {w w1 : World} {x : Int} (hb : Below (w.alloc (.cells #[.int .u8 x] 5)).drew.heap.size (w.alloc (.cells #[.int .u8 x] 5)).drew w1) :
    (convert 76 9 (.slice (some ⟨w.heap.size, 0, none⟩) 1 1)).run Tryd.prog w1 = .ok (.string ⟨#[UInt8.ofNat x.toNat]⟩) w1 := by
  have h := run_convert_bytes_arg (P := Tryd.prog) w1 76 5 Tryd.underlying76 Tryd.underlying5 w.heap.size 0 1 1 [x] rfl (fun i hi => by
    obtain rfl : i = 0 := by omega
    rw [hb.cell (by show w.heap.size < (w.alloc (.cells #[.int .u8 x] 5)).heap.size; simp)]
    show (w.alloc (.cells #[.int .u8 x] 5)).cell? ⟨w.heap.size, 0 + 0, none⟩ = _
    simp [go_sem]) 9 Tryd.underlying9
  exact h

set_option maxRecDepth 100000 in
set_option maxHeartbeats 400000 in
theorem digits_one (n : Nat) (w : World) (hn : n < 10) :
    Calls Tryd.prog 34 #[.int .i64 (n : Int)] w fun e w' => e = .returned (str [dch n]) ∧ Below w.heap.size w w' := by
  have hcv := conv1 w (48 + (n : Int))
  go_enter Tryd.func34, Tryd.ntmps34
  go_wp2
  go_ret
  exact ⟨rfl, (Below.refl _ _).alloc (Nat.le_refl _) _⟩

set_option maxRecDepth 100000 in
set_option maxHeartbeats 400000 in
theorem digits_more (f n : Nat) (w : World) (hn : 10 ≤ n) (hn2 : n ≤ 99999) (hf : f ≤ 5)
    (ih : Hid (∀ W, Calls Tryd.prog 34 #[.int .i64 ((n / 10 : Nat) : Int)] W fun e w' => e = .returned (str (decF f (n / 10))) ∧ Below W.heap.size W w')) :
    Calls Tryd.prog 34 #[.int .i64 (n : Int)] w fun e w' => e = .returned (str (decF f (n / 10) ++ [dch (n % 10)])) ∧ Below w.heap.size w w' := by
  obtain ⟨d, hd⟩ : ∃ d : Nat, d = n % 10 := ⟨_, rfl⟩
  rw [← hd]
  have hd9 : d ≤ 9 := by omega
  have hcv := fun W => conv1 W (48 + (d : Int))
  have hcvd := conv_later (w := w) (x := 48 + (d : Int)) (Below.refl _ _)
  have hl := decF_len f (n / 10)
  generalize decF f (n / 10) = ds at *
  have hsum : ∀ W : World, (Op.stringOp .add ⟨ds.toArray⟩ ⟨#[UInt8.ofNat (48 + (d : Int)).toNat]⟩).run Tryd.prog W = .ok (.string (⟨ds.toArray⟩ ++ ⟨#[UInt8.ofNat (48 + (d : Int)).toNat]⟩)) W := fun W => run_string_add_sum W _ _ (by simp [ByteArray.size]; omega)
  have hw1 : IntKind.i64.wrap ((n : Int) / 10) = ((n / 10 : Nat) : Int) := by simp only [IntKind.wrap_i64]; omega
  have hw2 : IntKind.i64.wrap (48 + (n : Int).tmod 10) = 48 + (d : Int) := by
    rw [Int.tmod_eq_emod_of_nonneg (by omega)]
    simp only [IntKind.wrap_i64]
    omega
  have hw3 : IntKind.u8.wrap (48 + (d : Int)) = 48 + (d : Int) := by simp only [IntKind.wrap_u8]; omega
  have HD := hide hd
  clear hd
  simp only [str] at ih ⊢
  go_enter Tryd.func34, Tryd.ntmps34
  go_wp2_with fail
  go_region_with (go_at_call 34; refine (unhide ih _).mono ?_; rintro e w1 ⟨rfl, hb1⟩; (first | have hq := conv_later hb1 | skip))
  all_goals go_wp2_with fail
  all_goals go_ret
  all_goals refine ⟨congrArg (fun b => Ending.returned (Value.string b)) (str_app ds [dch d]), ?_⟩
  · exact (below_undrew hb1).alloc (below_undrew hb1).size _
  · exact ((Below.refl w.heap.size w).alloc (Nat.le_refl _) _).trans ((below_undrew hb1).mono (by simp))
  · exact ((Below.refl w.heap.size w).alloc (Nat.le_refl _) _).trans ((below_undrew hb1).mono (by simp))

/-- l1Digits at a number from 0 on. -/
theorem digits_nat (f : Nat) : ∀ (n : Nat) (w : World), n < 10 ^ (f + 1) → f ≤ 4 →
    Calls Tryd.prog 34 #[.int .i64 (n : Int)] w fun e w' => e = .returned (str (decF (f + 1) n)) ∧ Below w.heap.size w w' := by
  induction f with
  | zero =>
    intro n w hn _
    have e : decF (0 + 1) n = [dch n] := by simp [decF]; intro h; omega
    rw [e]
    exact digits_one n w (by omega)
  | succ f ih =>
    intro n w hn hf
    by_cases h : n < 10
    · have e : decF (f + 1 + 1) n = [dch n] := by rw [decF, if_pos h]
      rw [e]
      exact digits_one n w h
    · have e : decF (f + 1 + 1) n = decF (f + 1) (n / 10) ++ [dch (n % 10)] := by rw [decF, if_neg h]
      rw [e]
      have hp : n < 100000 := Nat.lt_of_lt_of_le hn (Nat.pow_le_pow_right (n := 10) (by omega) (show f + 1 + 1 ≤ 5 by omega))
      have hq : n / 10 < 10 ^ (f + 1) := by
        rw [Nat.pow_succ] at hn
        omega
      exact digits_more (f + 1) n w (by omega) (by omega) (by omega) (fun W => ih (n / 10) W hq (by omega))

set_option maxHeartbeats 400000 in
theorem digits_neg (n : Nat) (w : World) (hn : 1 ≤ n) (hn2 : n ≤ 9999) :
    Calls Tryd.prog 34 #[.int .i64 (-(n : Int))] w fun e w' => e = .returned (str (45 :: decF 4 n)) ∧ Below w.heap.size w w' := by
  have hl := decF_len 4 n
  have hsum : ∀ W : World, (Op.stringOp .add ⟨#[45]⟩ ⟨(decF 4 n).toArray⟩).run Tryd.prog W = .ok (.string (⟨#[45]⟩ ++ ⟨(decF 4 n).toArray⟩)) W := fun W => run_string_add_sum W _ _ (by simp [ByteArray.size]; omega)
  go_enter Tryd.func34, Tryd.ntmps34
  go_wp2_with fail
  refine (digits_nat 3 n w (by omega) (by omega)).mono ?_
  rintro e w1 ⟨rfl, hb1⟩
  simp only [str]
  have HB := hide hb1
  clear hb1
  go_wp2_with fail
  go_ret
  exact ⟨congrArg (fun b => Ending.returned (Value.string b)) (str_app [45] (decF 4 n)), unhide HB⟩

/-- l1Digits. -/
theorem digits (n : Int) (w : World) (h1 : -9999 ≤ n) (h2 : n ≤ 9999) :
    Calls Tryd.prog 34 #[.int .i64 n] w fun e w' => e = .returned (str (dec n)) ∧ Below w.heap.size w w' := by
  by_cases h : n < 0
  · obtain ⟨m, rfl⟩ : ∃ m : Nat, n = -(m : Int) := ⟨n.natAbs, by omega⟩
    have e : dec (-(m : Int)) = 45 :: decF 4 m := by simp [dec]; intro h; omega
    rw [e]
    exact digits_neg m w (by omega) (by omega)
  · obtain ⟨m, rfl⟩ := Int.eq_ofNat_of_zero_le (show 0 ≤ n by omega)
    have e : dec (m : Int) = decF 4 m := by simp [dec]
    rw [e]
    exact digits_nat 3 m w (by omega) (by omega)

end Go.Proofs.YtjfplfhdfiebgaaDoor

namespace Go.Proofs.YtjfplfhdfiebgaaDoor

theorem dec_neg {n : Int} (h : n < 0) : dec n = 45 :: decF 4 n.natAbs := by simp [dec, h]
theorem dec_pos {n : Int} (h : ¬ n < 0) : dec n = decF 4 n.toNat := by simp [dec, h]

theorem decF_one {d : Bytes} {n : Nat} (h : allDig d = true) (hne : d ≠ []) (h0 : ∀ c r, d = c :: r → c.toNat ≠ 48) (hv : dval 0 d = n) (hn : n ≤ 9999) : decF 4 n = d :=
  decF_of 3 d n h hne (fun c r e _ => h0 c r e) hv (by omega)

/-- What the machine reads as a part is that part's text. -/
theorem rpart_some {l r : Bytes} {v : Int} (h : rpart l = some (v, r)) : l = dec v ++ r ∧ -1000 ≤ v ∧ v ≤ 1000 := by
  have uns : ∀ (σ : Int) (l : Bytes) (v : Int), (σ = 1 ∨ σ = -1) → unsgn σ l = some (v, r) → ∃ n : Nat, l = decF 4 n ++ r ∧ n ≤ 1000 ∧ v = σ * n ∧ (σ = -1 → 1 ≤ n) := by
    intro σ l v hσ h
    cases l with
    | nil => simp [unsgn] at h
    | cons c l =>
      simp only [unsgn] at h
      by_cases hd : isDig c = true
      · simp only [hd, if_true] at h
        by_cases h48 : c.toNat = 48
        · simp only [h48, if_true] at h
          by_cases hs : σ < 0
          · simp [hs] at h
          · simp only [hs, if_false] at h
            simp at h
            obtain ⟨rfl, rfl⟩ := h
            refine ⟨0, ?_, by omega, by simp, fun e => by omega⟩
            have : dch 0 = c := by
              apply UInt8.toNat_inj.1
              rw [dch_nat 0 (by omega), h48]
            simp [decF, this]
        · simp only [h48, if_false] at h
          cases hg : digs 0 (c :: l) with
          | none => simp [hg] at h
          | some q =>
            obtain ⟨m, r'⟩ := q
            simp only [hg, Option.map_some, Option.some.injEq, Prod.mk.injEq] at h
            obtain ⟨rfl, rfl⟩ := h
            obtain ⟨ds, e1, e2, e3, e4, e5, e6⟩ := digs_some (c :: l) 0 m r' (by omega) hd hg
            have hm : 0 ≤ m := by have := dval_ge 0 (by omega) ds e3; omega
            obtain ⟨n, rfl⟩ := Int.eq_ofNat_of_zero_le hm
            have hc : ∀ c' r'', ds = c' :: r'' → c'.toNat ≠ 48 := by
              intro c' r'' he
              rw [he] at e1
              simp at e1
              rw [← e1.1]
              exact h48
            refine ⟨n, ?_, by omega, rfl, fun _ => ?_⟩
            · rw [decF_one e3 e2 hc e4 (by omega)]
              exact e1
            · cases ds with
              | nil => exact absurd rfl e2
              | cons c' ds' =>
                have h1 := hc c' ds' rfl
                simp only [allDig, Bool.and_eq_true] at e3
                have h2 := isDig_bd e3.1
                have h3 := dval_ge (0 * 10 + ((c'.toNat : Int) - 48)) (by omega) ds' e3.2
                simp only [dval] at e4
                omega
      · simp [hd] at h
  cases l with
  | nil => simp [rpart] at h
  | cons c l =>
    simp only [rpart] at h
    by_cases h45 : c.toNat = 45
    · simp only [h45, if_true] at h
      obtain ⟨n, e1, e2, e3, e4⟩ := uns (-1) l v (Or.inr rfl) h
      have h1 := e4 rfl
      have hneg : v < 0 := by omega
      have hc : c = 45 := UInt8.toNat_inj.1 (by rw [h45]; rfl)
      rw [dec_neg hneg, show v.natAbs = n by omega, e1, hc]
      exact ⟨rfl, by omega, by omega⟩
    · simp only [h45, if_false] at h
      obtain ⟨n, e1, e2, e3, _⟩ := uns 1 (c :: l) v (Or.inl rfl) h
      rw [dec_pos (by omega), show v.toNat = n by omega, e1]
      exact ⟨rfl, by omega, by omega⟩

/-- A part's text is read as that part. -/
theorem rpart_dec {v : Int} (h1 : -1000 ≤ v) (h2 : v ≤ 1000) {r : Bytes} (hr : headDig r = false) : rpart (dec v ++ r) = some (v, r) := by
  have uns : ∀ (σ : Int) (n : Nat), n ≤ 1000 → (σ = 1 ∨ (σ = -1 ∧ 1 ≤ n)) → unsgn σ (decF 4 n ++ r) = some (σ * n, r) := by
    intro σ n hn hσ
    obtain ⟨f1, f2, f3, f4⟩ := decF_facts 3 n (by omega)
    cases hd : decF 4 n with
    | nil => exact absurd hd f2
    | cons c ds =>
      rw [hd] at f1 f3
      have hc : isDig c = true := by
        simp only [allDig, Bool.and_eq_true] at f1
        exact f1.1
      simp only [List.cons_append, unsgn, hc, if_true]
      by_cases h0 : n = 0
      · subst h0
        have e : decF 4 0 = [dch 0] := rfl
        rw [e] at hd
        simp at hd
        obtain ⟨rfl, rfl⟩ := hd
        have : (dch 0).toNat = 48 := rfl
        have hs : ¬ σ < 0 := by omega
        simp [this, hs]
      · have h48 := f4 (by omega) c ds hd
        have hg := digs_app (c :: ds) r 0 (by omega) f1 (by simp) hr
        rw [f3, if_neg (by omega)] at hg
        simp only [List.cons_append] at hg
        simp only [h48, if_false, hg, Option.map_some]
  by_cases hv : v < 0
  · rw [dec_neg hv]
    have h := uns (-1) v.natAbs (by omega) (Or.inr ⟨rfl, by omega⟩)
    simp only [List.cons_append, rpart]
    have : (45 : UInt8).toNat = 45 := rfl
    simp only [this, if_true, h, Option.some.injEq, Prod.mk.injEq, and_true]
    omega
  · rw [dec_pos hv]
    have h := uns 1 v.toNat (by omega) (Or.inl rfl)
    obtain ⟨f1, f2, f3, f4⟩ := decF_facts 3 v.toNat (by omega)
    cases hd : decF 4 v.toNat with
    | nil => exact absurd hd f2
    | cons c ds =>
      rw [hd] at h f1
      have hc : isDig c = true := by
        simp only [allDig, Bool.and_eq_true] at f1
        exact f1.1
      have hb := isDig_bd hc
      have h45 : ¬ c.toNat = 45 := by omega
      simp only [List.cons_append, rpart, h45, if_false]
      rw [List.cons_append] at h
      rw [h]
      simp only [Option.some.injEq, Prod.mk.injEq, and_true]
      omega

/-- The machine's answer: three texts with commas between. -/
theorem PP_some {l : Bytes} {x y z : Int} (h : PP 3 (0, 0, 0) l = some (x, y, z)) : l = dec x ++ (44 :: (dec y ++ (44 :: dec z))) ∧ (-1000 ≤ x ∧ x ≤ 1000) ∧ (-1000 ≤ y ∧ y ≤ 1000) ∧ (-1000 ≤ z ∧ z ≤ 1000) := by
  rw [show (3 : Nat) = 3 - 0 from rfl, PP_eq 0 (by omega)] at h
  cases h0 : rpart l with
  | none => simp [h0] at h
  | some q0 =>
    obtain ⟨v0, r0⟩ := q0
    simp only [h0, EE] at h
    obtain ⟨e0, b0⟩ := rpart_some h0
    cases r0 with
    | nil => simp at h
    | cons c0 r0 =>
      simp only [show ¬ (0 = 2) by omega, if_false] at h
      by_cases k0 : c0.toNat = 44
      · simp only [k0, if_true] at h
        rw [show (2 - 0 : Nat) = 3 - 1 from rfl, PP_eq 1 (by omega)] at h
        cases h1 : rpart r0 with
        | none => simp [h1] at h
        | some q1 =>
          obtain ⟨v1, r1⟩ := q1
          simp only [h1, EE] at h
          obtain ⟨e1, b1⟩ := rpart_some h1
          cases r1 with
          | nil => simp at h
          | cons c1 r1 =>
            simp only [show ¬ (1 = 2) by omega, if_false] at h
            by_cases k1 : c1.toNat = 44
            · simp only [k1, if_true] at h
              rw [show (2 - 1 : Nat) = 3 - 2 from rfl, PP_eq 2 (by omega)] at h
              cases h2 : rpart r1 with
              | none => simp [h2] at h
              | some q2 =>
                obtain ⟨v2, r2⟩ := q2
                simp only [h2, EE] at h
                obtain ⟨e2, b2⟩ := rpart_some h2
                cases r2 with
                | cons c2 r2 => simp [fin3] at h
                | nil =>
                  simp [fin3, setAt] at h
                  obtain ⟨rfl, rfl, rfl⟩ := h
                  have hc0 : c0 = 44 := UInt8.toNat_inj.1 (by rw [k0]; rfl)
                  have hc1 : c1 = 44 := UInt8.toNat_inj.1 (by rw [k1]; rfl)
                  refine ⟨?_, b0, b1, b2⟩
                  rw [e0, e1, e2, hc0, hc1, List.append_nil]
            · simp [k1] at h
      · simp [k0] at h

theorem PP_dec {x y z : Int} (hx : -1000 ≤ x ∧ x ≤ 1000) (hy : -1000 ≤ y ∧ y ≤ 1000) (hz : -1000 ≤ z ∧ z ≤ 1000) : PP 3 (0, 0, 0) (dec x ++ (44 :: (dec y ++ (44 :: dec z)))) = some (x, y, z) := by
  have h44 : ∀ r : Bytes, headDig (44 :: r) = false := fun _ => rfl
  have k44 : (44 : UInt8).toNat = 44 := rfl
  have hz' := rpart_dec hz.1 hz.2 (r := []) rfl
  rw [List.append_nil] at hz'
  rw [show (3 : Nat) = 3 - 0 from rfl, PP_eq 0 (by omega), rpart_dec hx.1 hx.2 (h44 _)]
  simp only [EE, show ¬ (0 = 2) by omega, if_false, k44, if_true]
  rw [show (2 - 0 : Nat) = 3 - 1 from rfl, PP_eq 1 (by omega), rpart_dec hy.1 hy.2 (h44 _)]
  simp only [EE, show ¬ (1 = 2) by omega, if_false, k44, if_true]
  rw [show (2 - 1 : Nat) = 3 - 2 from rfl, PP_eq 2 (by omega), hz']
  simp [EE, fin3, setAt]

end Go.Proofs.YtjfplfhdfiebgaaDoor

namespace Go.Proofs.YtjfplfhdfiebgaaDoor

/-- Cut at each 44; acc: what stands ahead in this piece. -/
def cutA (acc : Bytes) : Bytes → List Bytes
  | [] => [acc]
  | c :: r => if c.toNat = 44 then acc :: cutA [] r else cutA (acc ++ [c]) r

/-- The minus ahead, and what is behind it. -/
def isNeg : Bytes → Bool
  | [] => false
  | c :: _ => decide (c.toNat = 45)
def bodyOf (l : Bytes) : Bytes := if isNeg l then l.tail else l
def signed (l : Bytes) (n : Int) : Int := if isNeg l then -n else n
/-- A piece as a number, and whether it is written so. -/
def numR (l : Bytes) : Int × Bool :=
  if (bodyOf l).length < 1 ∨ 4 < (bodyOf l).length then (0, false)
  else if allDig (bodyOf l) then (signed l (dval 0 (bodyOf l)), decide (dec (signed l (dval 0 (bodyOf l))) = l)) else (0, false)

theorem numR_true {l : Bytes} (h : (numR l).2 = true) : dec (numR l).1 = l := by
  unfold numR at h ⊢
  split at h
  · simp at h
  · next h1 =>
    split at h
    · next h2 =>
      rw [if_neg h1, if_pos h2]
      simpa using h
    · simp at h

theorem numR_dec {v : Int} (h1 : -1000 ≤ v) (h2 : v ≤ 1000) : numR (dec v) = (v, true) := by
  by_cases hv : v < 0
  · obtain ⟨f1, f2, f3, f4⟩ := decF_facts 3 v.natAbs (by omega)
    have hl := decF_len 4 v.natAbs
    have hn : isNeg (dec v) = true := by rw [dec_neg hv]; rfl
    have hb : bodyOf (dec v) = decF 4 v.natAbs := by unfold bodyOf; rw [hn, if_pos rfl, dec_neg hv]; rfl
    have hne : 1 ≤ (decF 4 v.natAbs).length := by cases h : decF 4 v.natAbs with | nil => exact absurd h f2 | cons c r => simp
    have hs : signed (dec v) (dval 0 (decF 4 v.natAbs)) = v := by unfold signed; rw [hn, if_pos rfl, f3]; omega
    unfold numR
    rw [hb, if_neg (by omega), if_pos f1, hs]
    simp
  · obtain ⟨f1, f2, f3, f4⟩ := decF_facts 3 v.toNat (by omega)
    have hl := decF_len 4 v.toNat
    have hn : isNeg (dec v) = false := by
      rw [dec_pos hv]
      cases h : decF 4 v.toNat with
      | nil => rfl
      | cons c r =>
        rw [h] at f1
        simp only [allDig, Bool.and_eq_true] at f1
        have := isDig_bd f1.1
        simp [isNeg]
        omega
    have hb : bodyOf (dec v) = decF 4 v.toNat := by unfold bodyOf; rw [hn, dec_pos hv]; rfl
    have hne : 1 ≤ (decF 4 v.toNat).length := by cases h : decF 4 v.toNat with | nil => exact absurd h f2 | cons c r => simp
    have hs : signed (dec v) (dval 0 (decF 4 v.toNat)) = v := by unfold signed; rw [hn]; simp [f3]; omega
    unfold numR
    rw [hb, if_neg (by omega), if_pos f1, hs]
    simp

theorem cutA_append (p acc r : Bytes) (h : ∀ c ∈ p, c.toNat ≠ 44) : cutA acc (p ++ r) = cutA (acc ++ p) r := by
  induction p generalizing acc with
  | nil => simp
  | cons c p ih =>
    have hc := h c (by simp)
    rw [List.cons_append, cutA, if_neg hc, ih (acc ++ [c]) (fun d hd => h d (by simp [hd]))]
    simp

theorem allDig_no {l : Bytes} (h : allDig l = true) : ∀ c ∈ l, c.toNat ≠ 44 := by
  induction l with
  | nil => simp
  | cons c l ih =>
    simp only [allDig, Bool.and_eq_true] at h
    have hb := isDig_bd h.1
    intro d hd
    rcases List.mem_cons.1 hd with rfl | hd
    · omega
    · exact ih h.2 d hd

theorem dec_no {v : Int} (h1 : -1000 ≤ v) (h2 : v ≤ 1000) : ∀ c ∈ dec v, c.toNat ≠ 44 := by
  by_cases hv : v < 0
  · rw [dec_neg hv]
    intro c hc
    rcases List.mem_cons.1 hc with rfl | hc
    · decide
    · exact allDig_no (decF_facts 3 v.natAbs (by omega)).1 c hc
  · rw [dec_pos hv]
    exact allDig_no (decF_facts 3 v.toNat (by omega)).1

/-- A text is its pieces with commas between. -/
def glue : List Bytes → Bytes
  | [] => []
  | [p] => p
  | p :: ps => p ++ (44 :: glue ps)
theorem cutA_ne (acc l : Bytes) : cutA acc l ≠ [] := by
  induction l generalizing acc with
  | nil => simp [cutA]
  | cons c l ih =>
    unfold cutA
    split
    · simp
    · exact ih _
theorem glue_cons (p : Bytes) {ps : List Bytes} (h : ps ≠ []) : glue (p :: ps) = p ++ (44 :: glue ps) := by
  cases ps with
  | nil => exact absurd rfl h
  | cons q ps => rfl
theorem glue_cut (acc l : Bytes) : glue (cutA acc l) = acc ++ l := by
  induction l generalizing acc with
  | nil => simp [cutA, glue]
  | cons c l ih =>
    unfold cutA
    split
    · next h =>
      have hc : c = 44 := UInt8.toNat_inj.1 (by rw [h]; rfl)
      rw [glue_cons _ (cutA_ne _ _), ih, hc]
      simp
    · rw [ih]
      simp

/-- The pieces as numbers, if all are written so and are a vector. -/
def modelP (l : Bytes) : Option (List Int) :=
  if (cutA [] l).all (fun p => (numR p).2) ∧ vecFault ((cutA [] l).map fun p => (numR p).1) = 0 then some ((cutA [] l).map fun p => (numR p).1) else none

theorem modelP_eq (l : Bytes) : modelP l = (PP 3 (0, 0, 0) l).map fun t => [t.1, t.2.1, t.2.2] := by
  cases h : PP 3 (0, 0, 0) l with
  | some t =>
    obtain ⟨x, y, z⟩ := t
    obtain ⟨rfl, hx, hy, hz⟩ := PP_some h
    have hcut : cutA [] (dec x ++ (44 :: (dec y ++ (44 :: dec z)))) = [dec x, dec y, dec z] := by
      have k44 : (44 : UInt8).toNat = 44 := rfl
      have e3 := cutA_append (dec z) [] [] (dec_no hz.1 hz.2)
      rw [List.append_nil] at e3
      rw [cutA_append _ _ _ (dec_no hx.1 hx.2), cutA, if_pos k44, cutA_append _ _ _ (dec_no hy.1 hy.2), cutA, if_pos k44, e3]
      simp [cutA]
    have n1 := numR_dec hx.1 hx.2
    have n2 := numR_dec hy.1 hy.2
    have n3 := numR_dec hz.1 hz.2
    have hv : vecFault [x, y, z] = 0 := by
      refine vecFault_ok rfl (fun j hj => ?_)
      rcases (show j = 0 ∨ j = 1 ∨ j = 2 by omega) with rfl | rfl | rfl
      · simp [partB, hx.1, hx.2]
      · simp [partB, hy.1, hy.2]
      · simp [partB, hz.1, hz.2]
    unfold modelP
    rw [hcut]
    simp [n1, n2, n3, hv]
  | none =>
    unfold modelP
    rw [if_neg]
    · rfl
    · rintro ⟨h1, h2⟩
      obtain ⟨h3, h4⟩ := vecFault_zero h2
      have hg := glue_cut [] l
      rw [List.nil_append] at hg
      match hc : cutA [] l, h3 with
      | [p, q, r], _ =>
        rw [hc] at h1 h4 hg
        simp only [List.all_cons, List.all_nil, Bool.and_true, Bool.and_eq_true] at h1
        have e1 := numR_true h1.1
        have e2 := numR_true h1.2.1
        have e3 := numR_true h1.2.2
        have b1 := h4 0 (by omega)
        have b2 := h4 1 (by omega)
        have b3 := h4 2 (by omega)
        simp at b1 b2 b3
        have := PP_dec b1 b2 b3
        rw [e1, e2, e3] at this
        have hl : p ++ (44 :: (q ++ (44 :: r))) = l := by rw [← hg]; rfl
        rw [hl, h] at this
        simp at this
      | [], h3 => simp at h3
      | [_], h3 => simp at h3
      | [_, _], h3 => simp at h3
      | _ :: _ :: _ :: _ :: _, h3 => simp at h3

end Go.Proofs.YtjfplfhdfiebgaaDoor

namespace Go.Proofs.YtjfplfhdfiebgaaDoor
open Go.RowKit

theorem dval_lt (l : Bytes) (h : allDig l = true) (hl : l.length ≤ 4) : 0 ≤ dval 0 l ∧ dval 0 l ≤ 9999 := by
  have step : ∀ (n : Int) (m : Int) (c : UInt8), isDig c = true → 0 ≤ n → n ≤ m → 0 ≤ n * 10 + ((c.toNat : Int) - 48) ∧ n * 10 + ((c.toNat : Int) - 48) ≤ m * 10 + 9 := by
    intro n m c hc h0 hm
    have := isDig_bd hc
    omega
  match l, h, hl with
  | [], _, _ => simp [dval]
  | [a], h, _ =>
    simp only [allDig, Bool.and_eq_true] at h
    have h1 := step 0 0 a h.1 (by omega) (by omega)
    simp only [dval]
    omega
  | [a, b], h, _ =>
    simp only [allDig, Bool.and_eq_true] at h
    have h1 := step 0 0 a h.1 (by omega) (by omega)
    have h2 := step _ 9 b h.2.1 h1.1 (by omega)
    simp only [dval]
    omega
  | [a, b, c], h, _ =>
    simp only [allDig, Bool.and_eq_true] at h
    have h1 := step 0 0 a h.1 (by omega) (by omega)
    have h2 := step _ 9 b h.2.1 h1.1 (by omega)
    have h3 := step _ 99 c h.2.2.1 h2.1 (by omega)
    simp only [dval]
    omega
  | [a, b, c, d], h, _ =>
    simp only [allDig, Bool.and_eq_true] at h
    have h1 := step 0 0 a h.1 (by omega) (by omega)
    have h2 := step _ 9 b h.2.1 h1.1 (by omega)
    have h3 := step _ 99 c h.2.2.1 h2.1 (by omega)
    have h4 := step _ 999 d h.2.2.2.1 h3.1 (by omega)
    simp only [dval]
    omega
  | _ :: _ :: _ :: _ :: _ :: _, _, hl => simp at hl

theorem toList_data (s : ByteArray) : s.toList = s.data.toList := by
  obtain ⟨⟨l⟩⟩ := s
  simp

/-- The piece without its first o bytes, as far as i. -/
def seg (b : ByteArray) (o i : Nat) : Bytes := (b.data.toList.take i).drop o
theorem seg_start (b : ByteArray) (o : Nat) : seg b o o = [] := by unfold seg; simp
theorem seg_all (b : ByteArray) (o : Nat) : seg b o b.size = b.data.toList.drop o := by
  unfold seg
  rw [List.take_of_length_le (by simp)]
theorem seg_snoc (b : ByteArray) (o i : Nat) (ho : o ≤ i) (hi : i < b.size) : seg b o (i + 1) = seg b o i ++ [b[i]] := by
  unfold seg
  rw [List.take_succ_eq_append_getElem (by simpa using hi), List.drop_append_of_le_length (by simp; omega)]
  rfl
theorem allDig_part (l m : Bytes) : allDig (l ++ m) = (allDig l && allDig m) := by
  induction l with
  | nil => simp [allDig]
  | cons c l ih => simp [allDig, ih, Bool.and_assoc]
theorem seg_bad (b : ByteArray) (o i : Nat) (ho : o ≤ i) (hi : i < b.size) (h : isDig b[i] = false) : allDig (b.data.toList.drop o) = false := by
  have e1 := seg_snoc b o i ho hi
  have e2 : b.data.toList.drop o = seg b o (i + 1) ++ b.data.toList.drop (i + 1) := by
    unfold seg
    rw [← List.drop_append_of_le_length (by simp; omega), List.take_append_drop]
  rw [e2, e1, allDig_part, allDig_snoc, h]
  simp

set_option maxRecDepth 100000 in
set_option maxHeartbeats 1600000 in
theorem number_0 (b : ByteArray) (w : World) (hs : b.size ≤ 1048576) (h0 : 0 < b.size) (hneg : isNeg b.data.toList = false) :
    Calls Tryd.prog 47 #[.string b] w fun e w' => e = .returned (.tuple #[.int .i64 (numR b.data.toList).1, .bool (numR b.data.toList).2]) ∧ Below w.heap.size w w' := by
  have hlen : b.data.toList.length = b.size := by simp
  have hbody : bodyOf b.data.toList = b.data.toList.drop 0 := by unfold bodyOf; rw [hneg]; rfl
  have hblen : (b.data.toList.drop 0).length = b.size - 0 := by simp
  have hfirst : (((b[0]'h0).toNat : Int) == 45) = false := by
    have e : b.data.toList = b[0] :: rest b 1 := rest_cons b 0 h0
    rw [e] at hneg
    simp [isNeg] at hneg
    rw [beq_eq_false_iff_ne]; omega
  have hp : (0 : Int) < (b.size : Int) := by omega
  have hdp : decide ((0 : Int) < (b.size : Int)) = true := by simp; omega
  by_cases hc : b.size - 0 < 1 ∨ 4 < b.size - 0
  · have HN : Hid (numR b.data.toList = (0, false)) := by
      show numR b.data.toList = (0, false)
      unfold numR
      rw [hbody, hblen, if_pos hc]
    clear hlen hbody hblen hneg
    by_cases hc1 : b.size - 0 < 1
    · omega
    · have hc2 : 4 < b.size - 0 := by omega
      have hd4 : decide ((4 : Int) < (b.size : Int)) = true := by simp; omega
      clear hc
      go_enter Tryd.func47, Tryd.ntmps47
      go_wp2
      go_ret2
      exact ⟨by rw [unhide HN]; rfl, Below.refl _ _⟩
  · have hc1 : 1 ≤ b.size - 0 := by omega
    have hc2 : b.size - 0 ≤ 4 := by omega
    have hd4 : decide ((4 : Int) < (b.size : Int)) = false := by simp; omega
    have HN : Hid (∀ r, (allDig (b.data.toList.drop 0) = false → (0, false) = r) → (allDig (b.data.toList.drop 0) = true → (signed b.data.toList (dval 0 (b.data.toList.drop 0)), decide (dec (signed b.data.toList (dval 0 (b.data.toList.drop 0))) = b.data.toList)) = r) → numR b.data.toList = r) := by
      intro r h1 h2
      unfold numR
      rw [hbody, hblen, if_neg hc]
      cases ha : allDig (b.data.toList.drop 0) with
      | true => rw [if_pos rfl]; exact h2 ha
      | false => rw [if_neg (by simp)]; exact h1 ha
    have HG := hide hneg
    have HB := hide hblen
    clear hlen hbody hblen hneg hc
    go_enter Tryd.func47, Tryd.ntmps47
    go_wp2
    go_loop [5, 6] (fun n i => ∃ k : Nat, 0 ≤ k ∧ k ≤ b.size ∧ i = .int .i64 k ∧ n = .int .i64 (dval 0 (seg b 0 k)) ∧ allDig (seg b 0 k) = true) (fun _ i => b.size - (intOf i).toNat)
    case atStart => exact ⟨0, by omega, by omega, rfl, by rw [seg_start]; rfl, by rw [seg_start]; rfl⟩
    case round =>
      obtain ⟨k, hk0, hk, rfl, rfl, hall⟩ := hrel
      have hsl : (seg b 0 k).length ≤ 4 := by unfold seg; simp; omega
      have hdb := dval_lt _ hall hsl
      by_cases hlt : k < b.size
      · have HS := hide (seg_snoc b 0 k hk0 hlt)
        have HA := hide hall
        cases hd : isDig b[k] with
        | true =>
          have hb := isDig_bd hd
          have hg : decide ((57 : Int) < (b[k].toNat : Int)) = false := by simp; omega
          have HD := hide hd
          obtain ⟨hb1, hb2⟩ := hb
          obtain ⟨hv1, hv2⟩ := hdb
          clear hd hall hfirst
          generalize hcc : dval 0 (seg b 0 k) = v at *
          have HV := hide hcc
          clear hcc
          go_wp2
          go_round
          case rel =>
            refine ⟨k + 1, by omega, by omega, by go_num, ?_, ?_⟩
            · rw [unhide HS, dval_snoc, unhide HV]
            · rw [unhide HS, allDig_snoc, unhide HA, unhide HD]; rfl
          case measure => simp [intOf]; omega
        | false =>
          have HX := hide (unhide HN (0, false) (fun _ => rfl) (fun h => by rw [seg_bad b 0 k hk0 hlt hd] at h; simp at h))
          have hbb : b[k].toNat < 48 ∨ 57 < b[k].toNat := by
            simp [isDig] at hd
            omega
          clear hd hall hfirst HN
          rcases hbb with hb | hb
          · go_wp2
            go_ret2
            exact ⟨by rw [unhide HX]; rfl, Below.refl _ _⟩
          · have hb1 : ¬ ((b[k].toNat : Int) < 48) := by omega
            have hg : decide ((57 : Int) < (b[k].toNat : Int)) = true := by simp; omega
            go_wp2
            go_ret2
            exact ⟨by rw [unhide HX]; rfl, Below.refl _ _⟩
      · obtain rfl : k = b.size := by omega
        rw [seg_all] at hall hdb hsl ⊢
        have hsg : signed b.data.toList (dval 0 (b.data.toList.drop 0)) = dval 0 (b.data.toList.drop 0) := by unfold signed; rw [unhide HG]; rfl
        have HX := hide (unhide HN _ (fun h => by rw [hall] at h; simp at h) (fun _ => rfl))
        rw [hsg] at HX
        obtain ⟨hv1, hv2⟩ := hdb
        generalize dval 0 (b.data.toList.drop 0) = v at *
        clear hall HN hsg HG hfirst
        go_wp2_with fail
        refine (digits (v) w (by omega) (by omega)).mono ?_
        rintro e w1 ⟨rfl, hb1⟩
        simp only [str]
        have HB1 := hide hb1
        clear hb1
        go_wp2_with fail
        go_ret2
        refine ⟨?_, unhide HB1⟩
        have e : (dec (v) == b.toList) = decide (dec (v) = b.data.toList) := by rw [toList_data, Bool.eq_iff_iff]; simp
        rw [unhide HX]
        show Ending.returned (.tuple #[.int .i64 (v), .bool (dec (v) == b.toList)]) = _
        rw [e]

set_option maxRecDepth 100000 in
set_option maxHeartbeats 1600000 in
theorem number_1 (b : ByteArray) (w : World) (hs : b.size ≤ 1048576) (h0 : 0 < b.size) (hneg : isNeg b.data.toList = true) :
    Calls Tryd.prog 47 #[.string b] w fun e w' => e = .returned (.tuple #[.int .i64 (numR b.data.toList).1, .bool (numR b.data.toList).2]) ∧ Below w.heap.size w w' := by
  have hlen : b.data.toList.length = b.size := by simp
  have hbody : bodyOf b.data.toList = b.data.toList.drop 1 := by unfold bodyOf; rw [hneg]; simp
  have hblen : (b.data.toList.drop 1).length = b.size - 1 := by simp
  have hfirst : (((b[0]'h0).toNat : Int) == 45) = true := by
    have e : b.data.toList = b[0] :: rest b 1 := rest_cons b 0 h0
    rw [e] at hneg
    simp [isNeg] at hneg
    rw [beq_iff_eq]; omega
  have hp : (0 : Int) < (b.size : Int) := by omega
  have hdp : decide ((0 : Int) < (b.size : Int)) = true := by simp; omega
  by_cases hc : b.size - 1 < 1 ∨ 4 < b.size - 1
  · have HN : Hid (numR b.data.toList = (0, false)) := by
      show numR b.data.toList = (0, false)
      unfold numR
      rw [hbody, hblen, if_pos hc]
    clear hlen hbody hblen hneg
    by_cases hc1 : b.size - 1 < 1
    · clear hc
      go_enter Tryd.func47, Tryd.ntmps47
      go_wp2
      go_ret2
      exact ⟨by rw [unhide HN]; rfl, Below.refl _ _⟩
    · have hc2 : 4 < b.size - 1 := by omega
      have hd4 : decide ((4 : Int) < (b.size : Int) - 1) = true := by simp; omega
      clear hc
      go_enter Tryd.func47, Tryd.ntmps47
      go_wp2
      go_ret2
      exact ⟨by rw [unhide HN]; rfl, Below.refl _ _⟩
  · have hc1 : 1 ≤ b.size - 1 := by omega
    have hc2 : b.size - 1 ≤ 4 := by omega
    have hd4 : decide ((4 : Int) < (b.size : Int) - 1) = false := by simp; omega
    have HN : Hid (∀ r, (allDig (b.data.toList.drop 1) = false → (0, false) = r) → (allDig (b.data.toList.drop 1) = true → (signed b.data.toList (dval 0 (b.data.toList.drop 1)), decide (dec (signed b.data.toList (dval 0 (b.data.toList.drop 1))) = b.data.toList)) = r) → numR b.data.toList = r) := by
      intro r h1 h2
      unfold numR
      rw [hbody, hblen, if_neg hc]
      cases ha : allDig (b.data.toList.drop 1) with
      | true => rw [if_pos rfl]; exact h2 ha
      | false => rw [if_neg (by simp)]; exact h1 ha
    have HG := hide hneg
    have HB := hide hblen
    clear hlen hbody hblen hneg hc
    go_enter Tryd.func47, Tryd.ntmps47
    go_wp2
    go_loop [5, 6] (fun n i => ∃ k : Nat, 1 ≤ k ∧ k ≤ b.size ∧ i = .int .i64 k ∧ n = .int .i64 (dval 0 (seg b 1 k)) ∧ allDig (seg b 1 k) = true) (fun _ i => b.size - (intOf i).toNat)
    case atStart => exact ⟨1, by omega, by omega, rfl, by rw [seg_start]; rfl, by rw [seg_start]; rfl⟩
    case round =>
      obtain ⟨k, hk0, hk, rfl, rfl, hall⟩ := hrel
      have hsl : (seg b 1 k).length ≤ 4 := by unfold seg; simp; omega
      have hdb := dval_lt _ hall hsl
      by_cases hlt : k < b.size
      · have HS := hide (seg_snoc b 1 k hk0 hlt)
        have HA := hide hall
        cases hd : isDig b[k] with
        | true =>
          have hb := isDig_bd hd
          have hg : decide ((57 : Int) < (b[k].toNat : Int)) = false := by simp; omega
          have HD := hide hd
          obtain ⟨hb1, hb2⟩ := hb
          obtain ⟨hv1, hv2⟩ := hdb
          clear hd hall hfirst
          generalize hcc : dval 0 (seg b 1 k) = v at *
          have HV := hide hcc
          clear hcc
          go_wp2
          go_round
          case rel =>
            refine ⟨k + 1, by omega, by omega, by go_num, ?_, ?_⟩
            · rw [unhide HS, dval_snoc, unhide HV]
            · rw [unhide HS, allDig_snoc, unhide HA, unhide HD]; rfl
          case measure => simp [intOf]; omega
        | false =>
          have HX := hide (unhide HN (0, false) (fun _ => rfl) (fun h => by rw [seg_bad b 1 k hk0 hlt hd] at h; simp at h))
          have hbb : b[k].toNat < 48 ∨ 57 < b[k].toNat := by
            simp [isDig] at hd
            omega
          clear hd hall hfirst HN
          rcases hbb with hb | hb
          · go_wp2
            go_ret2
            exact ⟨by rw [unhide HX]; rfl, Below.refl _ _⟩
          · have hb1 : ¬ ((b[k].toNat : Int) < 48) := by omega
            have hg : decide ((57 : Int) < (b[k].toNat : Int)) = true := by simp; omega
            go_wp2
            go_ret2
            exact ⟨by rw [unhide HX]; rfl, Below.refl _ _⟩
      · obtain rfl : k = b.size := by omega
        rw [seg_all] at hall hdb hsl ⊢
        have hsg : signed b.data.toList (dval 0 (b.data.toList.drop 1)) = -dval 0 (b.data.toList.drop 1) := by unfold signed; rw [unhide HG]; rfl
        have HX := hide (unhide HN _ (fun h => by rw [hall] at h; simp at h) (fun _ => rfl))
        rw [hsg] at HX
        obtain ⟨hv1, hv2⟩ := hdb
        generalize dval 0 (b.data.toList.drop 1) = v at *
        clear hall HN hsg HG hfirst
        go_wp2_with fail
        refine (digits (-v) w (by omega) (by omega)).mono ?_
        rintro e w1 ⟨rfl, hb1⟩
        simp only [str]
        have HB1 := hide hb1
        clear hb1
        go_wp2_with fail
        go_ret2
        refine ⟨?_, unhide HB1⟩
        have e : (dec (-v) == b.toList) = decide (dec (-v) = b.data.toList) := by rw [toList_data, Bool.eq_iff_iff]; simp
        rw [unhide HX]
        show Ending.returned (.tuple #[.int .i64 (-v), .bool (dec (-v) == b.toList)]) = _
        rw [e]

theorem number_empty (b : ByteArray) (w : World) (h0 : b.size = 0) :
    Calls Tryd.prog 47 #[.string b] w fun e w' => e = .returned (.tuple #[.int .i64 0, .bool false]) ∧ Below w.heap.size w w' := by
  have hp : decide ((0 : Int) < (b.size : Int)) = false := by rw [h0]; rfl
  go_enter Tryd.func47, Tryd.ntmps47
  go_wp2
  go_ret2
  exact ⟨rfl, Below.refl _ _⟩

/-- l1Number. -/
theorem number (b : ByteArray) (w : World) (hs : b.size ≤ 1048576) :
    Calls Tryd.prog 47 #[.string b] w fun e w' => e = .returned (.tuple #[.int .i64 (numR b.data.toList).1, .bool (numR b.data.toList).2]) ∧ Below w.heap.size w w' := by
  by_cases h0 : 0 < b.size
  · cases hneg : isNeg b.data.toList with
    | true => exact number_1 b w hs h0 hneg
    | false => exact number_0 b w hs h0 hneg
  · have e : b.data.toList = [] := rest_nil b 0 h0
    rw [e]
    exact number_empty b w (by omega)

end Go.Proofs.YtjfplfhdfiebgaaDoor

namespace Go.Proofs.YtjfplfhdfiebgaaDoor
open Go.RowKit

theorem infoSt : (Tryd.prog.info? 9).map (fun i => (i.zero, i.size, i.bytes)) = some (some (.string ⟨#[]⟩), 1, 16) := by kernel_rfl

theorem ext_seg (s : ByteArray) (f i : Nat) : (s.extract f i).data.toList = seg s f i := by
  rw [Lib.extract_data]
  unfold seg
  rw [List.drop_take]
theorem ext_size (s : ByteArray) (f i : Nat) : (s.extract f i).size ≤ s.size := by
  rw [ByteArray.size_extract]
  omega
theorem map_snoc (bs : List ByteArray) (b : ByteArray) {w : World} {B T : Nat} {v : Value} (h : w.ownsRow B T 1 v (bs.length + 1) (bs.map Value.string ++ [Value.string b])) : w.ownsRow B T 1 v (bs ++ [b]).length ((bs ++ [b]).map Value.string) := by
  rw [List.map_append, List.length_append]
  exact h
theorem small_snoc {s : ByteArray} {bs : List ByteArray} {f i : Nat} (hs : s.size ≤ 1048576) (h : ∀ b ∈ bs, b.size ≤ 1048576) : ∀ b ∈ bs ++ [s.extract f i], b.size ≤ 1048576 := by
  intro b hb
  rcases List.mem_append.1 hb with h1 | h1
  · exact h b h1
  · simp at h1
    subst h1
    exact Nat.le_trans (ext_size s f i) hs

/-- What holds ahead of each round. -/
def CutInv (s : ByteArray) (i f : Nat) (bs : List ByteArray) : Prop :=
  (i ≤ s.size ∧ f ≤ i ∧ bs.map (fun b => b.data.toList) ++ cutA (seg s f i) (rest s i) = cutA [] s.data.toList) ∨ (i = s.size + 1 ∧ bs.map (fun b => b.data.toList) = cutA [] s.data.toList)

theorem cut_end {s : ByteArray} {f : Nat} {bs : List ByteArray} (h : CutInv s s.size f bs) : CutInv s (s.size + 1) (s.size + 1) (bs ++ [s.extract f s.size]) := by
  rcases h with ⟨_, _, h⟩ | ⟨h, _⟩
  · right
    rw [rest_nil s s.size (by omega), cutA] at h
    refine ⟨rfl, ?_⟩
    rw [List.map_append, ← h]
    simp only [List.map_cons, List.map_nil, ext_seg]
  · omega
theorem cut_comma {s : ByteArray} {i f : Nat} {bs : List ByteArray} (hi : i < s.size) (hc : s[i].toNat = 44) (h : CutInv s i f bs) : CutInv s (i + 1) (i + 1) (bs ++ [s.extract f i]) := by
  rcases h with ⟨_, _, h⟩ | ⟨h, _⟩
  · left
    rw [rest_cons s i hi, cutA, if_pos hc] at h
    refine ⟨by omega, by omega, ?_⟩
    rw [List.map_append, seg_start, ← h]
    simp only [List.map_cons, List.map_nil, ext_seg, List.append_assoc, List.cons_append, List.nil_append]
  · omega
theorem cut_other {s : ByteArray} {i f : Nat} {bs : List ByteArray} (hi : i < s.size) (hc : s[i].toNat ≠ 44) (h : CutInv s i f bs) : CutInv s (i + 1) f bs := by
  rcases h with ⟨_, hf, h⟩ | ⟨h, _⟩
  · left
    rw [rest_cons s i hi, cutA, if_neg hc] at h
    refine ⟨by omega, by omega, ?_⟩
    rw [seg_snoc s f i hf hi]
    exact h
  · omega

set_option maxRecDepth 100000 in
set_option maxHeartbeats 1600000 in
theorem cutC (s : ByteArray) (w : World) (hs : s.size ≤ 1048576) :
    Calls Tryd.prog 26 #[.string s, .int .u8 44] w fun e w' => ∃ (v : Value) (bs : List ByteArray), e = .returned v ∧ w'.ownsRow w.heap.size 9 1 v bs.length (bs.map Value.string) ∧
      bs.map (fun b => b.data.toList) = cutA [] s.data.toList ∧ bs.length ≤ 1048577 ∧ (∀ b ∈ bs, b.size ≤ 1048576) ∧ Below w.heap.size w w' := by
  go_enter Tryd.func26, Tryd.ntmps26
  go_wp2
  go_loopw [5, 6, 7] (fun v ff ii wr => ∃ (i f : Nat) (bs : List ByteArray), i ≤ s.size + 1 ∧ (i ≤ s.size → f ≤ i) ∧ ii = .int .i64 i ∧ ff = .int .i64 f ∧ bs.length ≤ i ∧ (∀ b ∈ bs, b.size ≤ 1048576) ∧ CutInv s i f bs ∧ wr.ownsRow w.heap.size 9 1 v bs.length (bs.map Value.string) ∧ Below w.heap.size w wr)
    (fun _ _ i _ => s.size + 1 - (intOf i).toNat)
  case atStart =>
    refine ⟨0, 0, [], by omega, fun _ => by omega, rfl, rfl, by simp, by simp, Or.inl ⟨by omega, by omega, by rw [seg_start]; rfl⟩, ?_, (Below.refl _ _).alloc (Nat.le_refl _) _⟩
    exact World.ownsRow_lit w #[] 0 (Nat.le_refl _) (by unfold maxLen; omega) rfl
  case round =>
    obtain ⟨i, f, bs, hi, hf, rfl, rfl, hbl, hbz, hinv, hown, hB⟩ := hrel
    by_cases hle : i ≤ s.size
    · have hf' := hf hle
      have HI := hide hinv
      have HZ := hide hbz
      have HB := hide hB
      have hsz := hB.size
      clear hinv hbz hB hf
      by_cases he : i = s.size
      · have e1 : ((i : Int) == (s.size : Int)) = true := by rw [beq_iff_eq]; omega
        have HE := hide he
        clear he
        obtain ⟨i0, hi0, hz0, hz1, hz2⟩ := info_parts infoSt
        go_wp2_with (at_builtin; refine wpList_append_lies _ rfl _ _ 49 rfl w.heap.size 9 i0 _ 1 16 Tryd.underlying49 hi0 hz0 hz1 hz2 rfl (by omega) _ bs.length _ rfl (hown.alloc _) ⟨wr.heap.size, 0, none⟩ 1 1 [.string (s.extract f i)] rfl rfl (World.news_of_block (cs := #[.string (s.extract f i)]) (t := 9) (fr := (0, 0)) (heap_alloc_new wr _)) (by simp [Value.oneCell']) (by omega) (by unfold maxLen; omega) (by omega) (by simp; omega) (wr.heap.size + 1) (by simp) ?_)
        intro g cap w1 hown1 hgrow _ _
        have HO := hide (map_snoc bs _ hown1)
        have HB1 := hide (((unhide HB).alloc hsz (.cells #[.string (s.extract f i)] 9)).grown hgrow (by simp; omega) (fun j hj => (hown.lt j hj).1))
        clear hown1 hgrow hown hi0 hz0 hz1 hz2 HB
        go_wp2
        go_roundw
        case rel => exact ⟨i + 1, i + 1, bs ++ [s.extract f i], by omega, fun _ => by omega, by go_num, by go_num, by simp; omega, small_snoc hs (unhide HZ), by have h := unhide HI; rw [unhide HE] at h ⊢; exact cut_end h, unhide HO, unhide HB1⟩
        case measure => simp [intOf]; omega
      · have hlt : i < s.size := by omega
        have e1 : ((i : Int) == (s.size : Int)) = false := by rw [beq_eq_false_iff_ne]; omega
        clear he
        by_cases h44 : s[i].toNat = 44
        · have e2 : ((s[i].toNat : Int) == 44) = true := by rw [beq_iff_eq]; omega
          have H44 := hide h44
          clear h44
          obtain ⟨i0, hi0, hz0, hz1, hz2⟩ := info_parts infoSt
          go_wp2_with (at_builtin; refine wpList_append_lies _ rfl _ _ 49 rfl w.heap.size 9 i0 _ 1 16 Tryd.underlying49 hi0 hz0 hz1 hz2 rfl (by omega) _ bs.length _ rfl (hown.alloc _) ⟨wr.heap.size, 0, none⟩ 1 1 [.string (s.extract f i)] rfl rfl (World.news_of_block (cs := #[.string (s.extract f i)]) (t := 9) (fr := (0, 0)) (heap_alloc_new wr _)) (by simp [Value.oneCell']) (by omega) (by unfold maxLen; omega) (by omega) (by simp; omega) (wr.heap.size + 1) (by simp) ?_)
          intro g cap w1 hown1 hgrow _ _
          have HO := hide (map_snoc bs _ hown1)
          have HB1 := hide (((unhide HB).alloc hsz (.cells #[.string (s.extract f i)] 9)).grown hgrow (by simp; omega) (fun j hj => (hown.lt j hj).1))
          clear hown1 hgrow hown hi0 hz0 hz1 hz2 HB
          go_wp2
          go_roundw
          case rel => exact ⟨i + 1, i + 1, bs ++ [s.extract f i], by omega, fun _ => by omega, by go_num, by go_num, by simp; omega, small_snoc hs (unhide HZ), cut_comma hlt (unhide H44) (unhide HI), unhide HO, unhide HB1⟩
          case measure => simp [intOf]; omega
        · have e2 : ((s[i].toNat : Int) == 44) = false := by rw [beq_eq_false_iff_ne]; omega
          have H44 := hide h44
          have HO := hide hown
          clear h44 hown
          go_wp2
          go_roundw
          case rel => exact ⟨i + 1, f, bs, by omega, fun _ => by omega, by go_num, rfl, by omega, unhide HZ, cut_other hlt (unhide H44) (unhide HI), unhide HO, unhide HB⟩
          case measure => simp [intOf]; omega
    · have HO := hide hown
      have HB := hide hB
      have hend : bs.map (fun b => b.data.toList) = cutA [] s.data.toList := by
        rcases hinv with ⟨h, _⟩ | ⟨_, h⟩
        · omega
        · exact h
      have HE := hide hend
      have HZ := hide hbz
      clear hown hB hinv hend hbz hf
      go_wp2
      go_ret
      exact ⟨_, bs, rfl, unhide HO, unhide HE, by omega, unhide HZ, unhide HB⟩

end Go.Proofs.YtjfplfhdfiebgaaDoor
