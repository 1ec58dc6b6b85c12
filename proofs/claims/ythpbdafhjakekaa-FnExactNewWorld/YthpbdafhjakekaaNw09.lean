/-
  Texts of this proof in one: ReadPlain, NumPlain, ChainPlain, LayNetResult, SamePlain, NetPlain, NetsPlain, WorldPlain, OwnNetResult, StoreKit, NetKit, OwnChainResult, ChainKit, WorldOK.
  Their conditions stand in their theorems.
-/
import Derived.WalkKit
import Derived.Test.YthpbdafhjakekaaNw02
import Derived.Test.YthpbdafhjakekaaNw08
import Derived.Test.YthpbdafhjakekaaNw01
import Derived.Test.YthpbdafhjakekaaNw03
import Derived.Test.YthpbdafhjakekaaNw06
import Derived.Test.YthpbdafhjakekaaNw05

namespace Go.Proofs.Ythpbdafhjakekaa

abbrev Bytes := List UInt8

def isDig (c : UInt8) : Bool := decide (48 ≤ c.toNat) && decide (c.toNat ≤ 57)
def headDig : Bytes → Bool
  | [] => false
  | d :: _ => isDig d
def digs (n : Int) : Bytes → Option (Int × Bytes)
  | [] => none
  | c :: r => if 1000 < n * 10 + ((c.toNat : Int) - 48) then none else if headDig r then digs (n * 10 + ((c.toNat : Int) - 48)) r else some (n * 10 + ((c.toNat : Int) - 48), r)
def unsgn (σ : Int) : Bytes → Option (Int × Bytes)
  | [] => none
  | c :: r => if isDig c then (if c.toNat = 48 then (if σ < 0 then none else some (σ * 0, r)) else (digs 0 (c :: r)).map fun q => (σ * q.1, q.2)) else none
def rpart : Bytes → Option (Int × Bytes)
  | [] => none
  | c :: r => if c.toNat = 45 then unsgn (-1) r else unsgn 1 (c :: r)

abbrev Tri := Int × Int × Int
def setAt : Nat → Tri → Int → Tri
  | 0, t, v => (v, t.2.1, t.2.2)
  | 1, t, v => (t.1, v, t.2.2)
  | _, t, v => (t.1, t.2.1, v)
def fin3 (t : Tri) : Bytes → Option Tri
  | [] => some t
  | _ => none

/-- q places are left; the last one leaves the end. -/
def PP : Nat → Tri → Bytes → Option Tri
  | 0, _, _ => none
  | q + 1, t, r =>
    match rpart r with
    | none => none
    | some (v, r1) =>
      match q with
      | 0 => fin3 (setAt 2 t v) r1
      | q' + 1 =>
        match r1 with
        | [] => none
        | c :: r2 => if c.toNat = 44 then PP (q' + 1) (setAt (1 - q') t v) r2 else none

def EE (p : Nat) (t : Tri) (r : Bytes) : Option Tri :=
  if p = 2 then fin3 t r else match r with
    | [] => none
    | c :: r2 => if c.toNat = 44 then PP (2 - p) t r2 else none

theorem PP_eq (p : Nat) (hp : p ≤ 2) (t : Tri) (r : Bytes) : PP (3 - p) t r = match rpart r with | none => none | some (v, r1) => EE p (setAt p t v) r1 := by
  rcases (show p = 0 ∨ p = 1 ∨ p = 2 by omega) with rfl | rfl | rfl
  · show PP 3 t r = _
    rw [PP]
    cases rpart r with
    | none => rfl
    | some q => obtain ⟨v, r1⟩ := q; cases r1 <;> simp [EE]
  · show PP 2 t r = _
    rw [PP]
    cases rpart r with
    | none => rfl
    | some q => obtain ⟨v, r1⟩ := q; cases r1 <;> simp [EE]
  · show PP 1 t r = _
    rw [PP]
    cases rpart r with
    | none => rfl
    | some q => obtain ⟨v, r1⟩ := q; cases r1 <;> simp [EE]

def UU (p : Nat) (t : Tri) (σ : Int) (r : Bytes) : Option Tri := match unsgn σ r with | none => none | some (v, r1) => EE p (setAt p t v) r1
def DD (p : Nat) (t : Tri) (σ n : Int) (r : Bytes) : Option Tri := match digs n r with | none => none | some (v, r1) => EE p (setAt p t (σ * v)) r1

/-- The byte at k, 0 behind the end. -/
def bAt (s : ByteArray) (k : Nat) : Int := if h : k < s.size then (s[k].toNat : Int) else 0
def digB (b : Int) : Bool := decide (48 ≤ b) && decide (b ≤ 57)

def rest (s : ByteArray) (k : Nat) : Bytes := s.data.toList.drop k
theorem rest_nil (s : ByteArray) (k : Nat) (h : ¬ k < s.size) : rest s k = [] := by
  unfold rest
  exact List.drop_of_length_le (by simp; simpa using h)
theorem rest_cons (s : ByteArray) (k : Nat) (h : k < s.size) : rest s k = s[k] :: rest s (k + 1) := by
  unfold rest
  rw [List.drop_eq_getElem_cons (by simpa using h)]
  rfl
theorem bAt_lt (s : ByteArray) (k : Nat) (h : k < s.size) : bAt s k = (s[k].toNat : Int) := by simp [bAt, h]
theorem bAt_ge (s : ByteArray) (k : Nat) (h : ¬ k < s.size) : bAt s k = 0 := by simp [bAt, h]
theorem bAt_bd (s : ByteArray) (k : Nat) : 0 ≤ bAt s k ∧ bAt s k ≤ 255 := by
  unfold bAt
  split
  · have := s[k].toNat_lt; omega
  · omega
theorem lt_of_bAt (s : ByteArray) (k : Nat) (h : bAt s k ≠ 0) : k < s.size := by
  by_cases hk : k < s.size
  · exact hk
  · exact absurd (bAt_ge s k hk) h
theorem digB_lt (s : ByteArray) (k : Nat) (h : digB (bAt s k) = true) : k < s.size := by
  refine lt_of_bAt s k ?_
  simp [digB] at h
  omega
theorem isDig_at (s : ByteArray) (k : Nat) (h : k < s.size) : isDig s[k] = digB (bAt s k) := by
  rw [bAt_lt s k h]
  simp only [isDig, digB]
  congr 1
  · rw [decide_eq_decide]; omega
  · rw [decide_eq_decide]; omega
theorem headDig_at (s : ByteArray) (k : Nat) : headDig (rest s k) = digB (bAt s k) := by
  by_cases h : k < s.size
  · rw [rest_cons s k h]; exact isDig_at s k h
  · rw [rest_nil s k h, bAt_ge s k h]; rfl

theorem PP_minus (s : ByteArray) (k p : Nat) (t : Tri) (hp : p ≤ 2) (h : bAt s k = 45) : PP (3 - p) t (rest s k) = UU p t (-1) (rest s (k + 1)) := by
  have hk := lt_of_bAt s k (by omega)
  have h1 : s[k].toNat = 45 := by have := bAt_lt s k hk; omega
  rw [PP_eq p hp, rest_cons s k hk]
  simp [rpart, h1, UU]
theorem PP_plus (s : ByteArray) (k p : Nat) (t : Tri) (hp : p ≤ 2) (h : bAt s k ≠ 45) : PP (3 - p) t (rest s k) = UU p t 1 (rest s k) := by
  rw [PP_eq p hp]
  by_cases hk : k < s.size
  · have h1 : ¬ s[k].toNat = 45 := by have := bAt_lt s k hk; omega
    rw [rest_cons s k hk]
    simp [rpart, h1, UU]
  · rw [rest_nil s k hk]
    simp [rpart, UU, unsgn]
theorem UU_bad (s : ByteArray) (k p : Nat) (t : Tri) (σ : Int) (h : digB (bAt s k) = false) : UU p t σ (rest s k) = none := by
  by_cases hk : k < s.size
  · have := isDig_at s k hk
    rw [rest_cons s k hk]
    simp [UU, unsgn, this, h]
  · rw [rest_nil s k hk]
    simp [UU, unsgn]
theorem UU_digit (s : ByteArray) (k p : Nat) (t : Tri) (σ : Int) (h : digB (bAt s k) = true) (h0 : bAt s k ≠ 48) : UU p t σ (rest s k) = DD p t σ 0 (rest s k) := by
  have hk := digB_lt s k h
  have h1 := isDig_at s k hk
  have h2 : ¬ s[k].toNat = 48 := by have := bAt_lt s k hk; omega
  rw [rest_cons s k hk]
  simp only [UU, unsgn, h1, h, h2, if_true, if_false, DD]
  cases digs 0 (s[k] :: rest s (k + 1)) with
  | none => rfl
  | some q => rfl
theorem UU_zero_neg (s : ByteArray) (k p : Nat) (t : Tri) (h0 : bAt s k = 48) : UU p t (-1) (rest s k) = none := by
  have hk := lt_of_bAt s k (by omega)
  have h2 : s[k].toNat = 48 := by have := bAt_lt s k hk; omega
  have h1 := isDig_at s k hk
  have h : digB (bAt s k) = true := by rw [h0]; rfl
  rw [rest_cons s k hk]
  simp [UU, unsgn, h1, h, h2]
theorem UU_zero (s : ByteArray) (k p : Nat) (t : Tri) (h0 : bAt s k = 48) : UU p t 1 (rest s k) = EE p (setAt p t (1 * 0)) (rest s (k + 1)) := by
  have hk := lt_of_bAt s k (by omega)
  have h2 : s[k].toNat = 48 := by have := bAt_lt s k hk; omega
  have h1 := isDig_at s k hk
  have h : digB (bAt s k) = true := by rw [h0]; rfl
  rw [rest_cons s k hk]
  simp [UU, unsgn, h1, h, h2]
theorem DD_much (s : ByteArray) (k p : Nat) (t : Tri) (σ n : Int) (h : digB (bAt s k) = true) (hm : 1000 < n * 10 + (bAt s k - 48)) : DD p t σ n (rest s k) = none := by
  have hk := digB_lt s k h
  have e := bAt_lt s k hk
  rw [rest_cons s k hk]
  rw [e] at hm
  simp [DD, digs, hm]
theorem DD_more (s : ByteArray) (k p : Nat) (t : Tri) (σ n : Int) (h : digB (bAt s k) = true) (hm : ¬ 1000 < n * 10 + (bAt s k - 48)) (h2 : digB (bAt s (k + 1)) = true) : DD p t σ n (rest s k) = DD p t σ (n * 10 + (bAt s k - 48)) (rest s (k + 1)) := by
  have hk := digB_lt s k h
  have e := bAt_lt s k hk
  have e2 := headDig_at s (k + 1)
  rw [rest_cons s k hk]
  rw [e] at hm ⊢
  simp only [DD, digs, hm, if_false, e2, h2, if_true]
theorem DD_end (s : ByteArray) (k p : Nat) (t : Tri) (σ n : Int) (h : digB (bAt s k) = true) (hm : ¬ 1000 < n * 10 + (bAt s k - 48)) (h2 : digB (bAt s (k + 1)) = false) : DD p t σ n (rest s k) = EE p (setAt p t (σ * (n * 10 + (bAt s k - 48)))) (rest s (k + 1)) := by
  have hk := digB_lt s k h
  have e := bAt_lt s k hk
  have e2 := headDig_at s (k + 1)
  rw [rest_cons s k hk]
  rw [e] at hm ⊢
  simp [DD, digs, hm, e2, h2]
theorem EE_last (t : Tri) (r : Bytes) : EE 2 t r = fin3 t r := by simp [EE]
theorem EE_comma (s : ByteArray) (k p : Nat) (t : Tri) (hp : p < 2) (h : bAt s k = 44) : EE p t (rest s k) = PP (3 - (p + 1)) t (rest s (k + 1)) := by
  have hk := lt_of_bAt s k (by omega)
  have h2 : s[k].toNat = 44 := by have := bAt_lt s k hk; omega
  have hp2 : ¬ p = 2 := by omega
  rw [rest_cons s k hk]
  simp [EE, hp2, h2, show 3 - (p + 1) = 2 - p by omega]
theorem EE_wrong (s : ByteArray) (k p : Nat) (t : Tri) (hp : p < 2) (h : bAt s k ≠ 44) : EE p t (rest s k) = none := by
  have hp2 : ¬ p = 2 := by omega
  by_cases hk : k < s.size
  · have h2 : ¬ s[k].toNat = 44 := by have := bAt_lt s k hk; omega
    rw [rest_cons s k hk]
    simp [EE, hp2, h2]
  · rw [rest_nil s k hk]
    simp [EE, hp2]
theorem fin3_end (s : ByteArray) (k : Nat) (t : Tri) (h : ¬ k < s.size) : fin3 t (rest s k) = some t := by rw [rest_nil s k h]; rfl
theorem fin3_more (s : ByteArray) (k : Nat) (t : Tri) (h : k < s.size) : fin3 t (rest s k) = none := by rw [rest_cons s k h]; rfl

end Go.Proofs.Ythpbdafhjakekaa

namespace Go.Proofs.Ythpbdafhjakekaa

/-- What digits are worth, behind n. -/
def dval (n : Int) : Bytes → Int
  | [] => n
  | c :: r => dval (n * 10 + ((c.toNat : Int) - 48)) r
def allDig : Bytes → Bool
  | [] => true
  | c :: r => isDig c && allDig r

theorem isDig_bd {c : UInt8} (h : isDig c = true) : 48 ≤ c.toNat ∧ c.toNat ≤ 57 := by simpa [isDig] using h
theorem dval_ge (n : Int) (hn : 0 ≤ n) (l : Bytes) (h : allDig l = true) : n ≤ dval n l := by
  induction l generalizing n with
  | nil => exact Int.le_refl _
  | cons c r ih =>
    simp only [allDig, Bool.and_eq_true] at h
    have hb := isDig_bd h.1
    have := ih (n * 10 + ((c.toNat : Int) - 48)) (by omega) h.2
    simp only [dval]
    omega
theorem dval_snoc (n : Int) (l : Bytes) (c : UInt8) : dval n (l ++ [c]) = dval n l * 10 + ((c.toNat : Int) - 48) := by
  induction l generalizing n with
  | nil => rfl
  | cons d r ih => exact ih _
theorem allDig_snoc (l : Bytes) (c : UInt8) : allDig (l ++ [c]) = (allDig l && isDig c) := by
  induction l with
  | nil => simp [allDig]
  | cons d r ih => simp [allDig, ih, Bool.and_assoc]

/-- The machine's digits, at a text that opens with digits. -/
theorem digs_app (ds r : Bytes) (n : Int) (hn : 0 ≤ n) (h : allDig ds = true) (hne : ds ≠ []) (hr : headDig r = false) : digs n (ds ++ r) = if 1000 < dval n ds then none else some (dval n ds, r) := by
  induction ds generalizing n with
  | nil => exact absurd rfl hne
  | cons c ds ih =>
    simp only [allDig, Bool.and_eq_true] at h
    have hb := isDig_bd h.1
    have hge := dval_ge (n * 10 + ((c.toNat : Int) - 48)) (by omega) ds h.2
    simp only [List.cons_append, digs, dval]
    cases ds with
    | nil =>
      by_cases hm : 1000 < n * 10 + ((c.toNat : Int) - 48)
      · simp [hm, dval]
      · simp [hm, dval, hr]
    | cons d ds' =>
      have hd : headDig (d :: ds' ++ r) = true := by
        simp only [allDig, Bool.and_eq_true] at h
        exact h.2.1
      have h2 := ih (n * 10 + ((c.toNat : Int) - 48)) (by omega) h.2 (by simp)
      by_cases hm : 1000 < n * 10 + ((c.toNat : Int) - 48)
      · have : 1000 < dval (n * 10 + ((c.toNat : Int) - 48)) (d :: ds') := by omega
        simp only [hm, if_true, this]
      · rw [if_neg hm, if_pos hd]
        exact h2

/-- What the machine took were digits. -/
theorem digs_some (l : Bytes) (n v : Int) (r : Bytes) (hn : 0 ≤ n) (h0 : headDig l = true) (h : digs n l = some (v, r)) : ∃ ds, l = ds ++ r ∧ ds ≠ [] ∧ allDig ds = true ∧ dval n ds = v ∧ v ≤ 1000 ∧ headDig r = false := by
  induction l generalizing n with
  | nil => simp [digs] at h
  | cons c l ih =>
    simp only [digs] at h
    have hc : isDig c = true := h0
    have hb := isDig_bd hc
    by_cases hm : 1000 < n * 10 + ((c.toNat : Int) - 48)
    · simp [hm] at h
    · simp only [hm, if_false] at h
      cases hd : headDig l with
      | true =>
        simp only [hd, if_true] at h
        obtain ⟨ds, e1, e2, e3, e4, e5, e6⟩ := ih _ (by omega) hd h
        exact ⟨c :: ds, by rw [e1]; rfl, by simp, by simp [allDig, hc, e3], e4, e5, e6⟩
      | false =>
        simp only [hd] at h
        simp at h
        obtain ⟨rfl, rfl⟩ := h
        exact ⟨[c], rfl, by simp, by simp [allDig, hc], rfl, by omega, hd⟩

def dch (n : Nat) : UInt8 := UInt8.ofNat (48 + n)
def decF : Nat → Nat → Bytes
  | 0, _ => []
  | f + 1, n => if n < 10 then [dch n] else decF f (n / 10) ++ [dch (n % 10)]
def dec (n : Int) : Bytes := if n < 0 then 45 :: decF 4 n.natAbs else decF 4 n.toNat

theorem decF_len (f n : Nat) : (decF f n).length ≤ f := by
  induction f generalizing n with
  | zero => simp [decF]
  | succ f ih =>
    unfold decF
    split
    · simp
    · have := ih (n / 10)
      simp
      omega

theorem dch_nat (n : Nat) (h : n < 10) : (dch n).toNat = 48 + n := by
  unfold dch
  rw [UInt8.toNat_ofNat']
  omega
theorem dch_dig (n : Nat) (h : n < 10) : isDig (dch n) = true := by
  have := dch_nat n h
  simp [isDig, this]
  omega
theorem dch_of (c : UInt8) (h : isDig c = true) : dch (c.toNat - 48) = c := by
  have hb := isDig_bd h
  apply UInt8.toNat_inj.1
  rw [dch_nat _ (by omega)]
  omega

/-- What decF writes. -/
theorem decF_facts (f n : Nat) (hn : n < 10 ^ (f + 1)) : allDig (decF (f + 1) n) = true ∧ decF (f + 1) n ≠ [] ∧ dval 0 (decF (f + 1) n) = n ∧ (1 ≤ n → ∀ c r, decF (f + 1) n = c :: r → c.toNat ≠ 48) := by
  induction f generalizing n with
  | zero =>
    have h : n < 10 := by omega
    have e : decF (0 + 1) n = [dch n] := by rw [decF, if_pos h]
    have e2 := dch_nat n h
    rw [e]
    refine ⟨by simp [allDig, dch_dig n h], by simp, by simp [dval, e2]; omega, fun h1 c r hc => ?_⟩
    simp at hc
    obtain ⟨rfl, _⟩ := hc
    omega
  | succ f ih =>
    by_cases h : n < 10
    · have e : decF (f + 1 + 1) n = [dch n] := by rw [decF, if_pos h]
      have e2 := dch_nat n h
      rw [e]
      refine ⟨by simp [allDig, dch_dig n h], by simp, by simp [dval, e2]; omega, fun h1 c r hc => ?_⟩
      simp at hc
      obtain ⟨rfl, _⟩ := hc
      omega
    · have e : decF (f + 1 + 1) n = decF (f + 1) (n / 10) ++ [dch (n % 10)] := by rw [decF, if_neg h]
      have hq : n / 10 < 10 ^ (f + 1) := by
        rw [Nat.pow_succ] at hn
        omega
      obtain ⟨i1, i2, i3, i4⟩ := ih (n / 10) hq
      have hm : n % 10 < 10 := by omega
      rw [e]
      refine ⟨by rw [allDig_snoc, i1, dch_dig _ hm]; rfl, by simp, by rw [dval_snoc, i3, dch_nat _ hm]; omega, fun h1 c r hc => ?_⟩
      cases hl : decF (f + 1) (n / 10) with
      | nil => exact absurd hl i2
      | cons d ds =>
        rw [hl] at hc
        simp at hc
        obtain ⟨rfl, _⟩ := hc
        exact i4 (by omega) d ds hl

/-- One text alone. -/
theorem decF_of (f : Nat) : ∀ (ds : Bytes) (n : Nat), allDig ds = true → ds ≠ [] → (∀ c r, ds = c :: r → r ≠ [] → c.toNat ≠ 48) → dval 0 ds = n → n < 10 ^ (f + 1) → decF (f + 1) n = ds := by
  induction f with
  | zero =>
    intro ds n h1 h2 h3 h4 h5
    rcases List.eq_nil_or_concat ds with rfl | ⟨l, c, rfl⟩
    · exact absurd rfl h2
    · rw [List.concat_eq_append] at *
      rw [allDig_snoc, Bool.and_eq_true] at h1
      rw [dval_snoc] at h4
      have hb := isDig_bd h1.2
      have hl := dval_ge 0 (by omega) l h1.1
      have hn : n < 10 := by omega
      cases l with
      | nil =>
        rw [decF, if_pos hn]
        simp only [dval] at h4
        have : n = c.toNat - 48 := by omega
        rw [this, dch_of c h1.2]
        rfl
      | cons d ds =>
        exfalso
        have h6 := h3 d (ds ++ [c]) rfl (by simp)
        simp only [allDig, Bool.and_eq_true] at h1
        have hd := isDig_bd h1.1.1
        have := dval_ge (0 * 10 + ((d.toNat : Int) - 48)) (by omega) ds h1.1.2
        simp only [dval] at h4
        omega
  | succ f ih =>
    intro ds n h1 h2 h3 h4 h5
    rcases List.eq_nil_or_concat ds with rfl | ⟨l, c, rfl⟩
    · exact absurd rfl h2
    · rw [List.concat_eq_append] at *
      rw [allDig_snoc, Bool.and_eq_true] at h1
      rw [dval_snoc] at h4
      have hb := isDig_bd h1.2
      have hl := dval_ge 0 (by omega) l h1.1
      cases l with
      | nil =>
        simp only [dval] at h4
        have hn : n < 10 := by omega
        rw [decF, if_pos hn]
        have : n = c.toNat - 48 := by omega
        rw [this, dch_of c h1.2]
        rfl
      | cons d ds =>
        have h6 := h3 d (ds ++ [c]) rfl (by simp)
        have h7 := h1.1
        simp only [allDig, Bool.and_eq_true] at h7
        have hd := isDig_bd h7.1
        have h8 := dval_ge (0 * 10 + ((d.toNat : Int) - 48)) (by omega) ds h7.2
        have h9 : dval 0 (d :: ds) = dval (0 * 10 + ((d.toNat : Int) - 48)) ds := rfl
        have hn : ¬ n < 10 := by omega
        have hq : dval 0 (d :: ds) = ((n / 10 : Nat) : Int) := by omega
        rw [decF, if_neg hn, ih (d :: ds) (n / 10) h1.1 (by simp) (fun c' r' he hr => by simp at he; obtain ⟨rfl, _⟩ := he; exact h6) hq (by rw [Nat.pow_succ] at h5; omega)]
        have : n % 10 = c.toNat - 48 := by omega
        rw [this, dch_of c h1.2]

end Go.Proofs.Ythpbdafhjakekaa

namespace Go.Proofs.Ythpbdafhjakekaa
open Go.RowKit

/-- Where an id stands first; how many there are, where it doesn't. -/
def atC (ids : List Int) (id : Int) : Nat := ids.findIdx (· == id)
/-- The place as a number, -1 where there is none. -/
def placeC (ids : List Int) (id : Int) : Int := if atC ids id < ids.length then (atC ids id : Int) else -1
/-- The first fault among ids, pre: those ahead of them. -/
def idsF : List Int → List Int → Int
  | _, [] => 0
  | pre, z :: zs => if 1 ≤ z ∧ z ≤ 5 then (if z ∈ pre then 6 else idsF (pre ++ [z]) zs) else 3
def chainFault (x : DChain) : Int :=
  if 1 ≤ x.epoch ∧ x.epoch ≤ 999 then (if 1 ≤ x.ids.length ∧ x.ids.length ≤ 5 then idsF [] x.ids else 2) else 3
def noChain : DChain := ⟨0, []⟩
def badChain (c : Int) : DChainResult := ⟨c, noChain⟩
def upToC (n : Nat) : List Int := (List.range n).map fun (k : Nat) => (k : Int) + 1
def newChainR (n : Int) : DChainResult := if 1 ≤ n ∧ n ≤ 5 then ⟨0, ⟨1, upToC n.toNat⟩⟩ else badChain 3
/-- Who stands by behind id; 0: nobody. -/
def nextC (ids : List Int) (id : Int) (d : Int) : Int :=
  if placeC ids id < 0 ∨ placeC ids id + d < 0 ∨ (ids.length : Int) ≤ placeC ids id + d then 0 else ids.getD (placeC ids id + d).toNat 0
def besideR (x : DChain) (id d : Int) : DIntResult :=
  if chainFault x = 0 then
    if placeC x.ids id < 0 then ⟨4, 0⟩ else if nextC x.ids id d = 0 then ⟨8, 0⟩ else ⟨0, nextC x.ids id d⟩
  else ⟨chainFault x, 0⟩
def cutCh (x : DChain) (id : Int) : DChain := ⟨x.epoch + 1, x.ids.filter fun z => z != id⟩
def cutR (x : DChain) (id : Int) : DChainResult :=
  if chainFault x = 0 then
    if placeC x.ids id < 0 then badChain 4 else if x.ids.length = 1 then badChain 8 else if 999 ≤ x.epoch then badChain 2 else ⟨0, cutCh x id⟩
  else badChain (chainFault x)
def joinCh (x : DChain) (id : Int) : DChain := ⟨x.epoch + 1, x.ids ++ [id]⟩
def joinR (x : DChain) (id : Int) : DChainResult :=
  if chainFault x = 0 then
    if 1 ≤ id ∧ id ≤ 5 then (if 0 ≤ placeC x.ids id then badChain 6 else if 999 ≤ x.epoch then badChain 2 else ⟨0, joinCh x id⟩) else badChain 3
  else badChain (chainFault x)

theorem atC_le (ids : List Int) (id : Int) : atC ids id ≤ ids.length := List.findIdx_le_length
theorem placeC_bd (ids : List Int) (id : Int) : -1 ≤ placeC ids id ∧ placeC ids id < ids.length + 1 := by
  unfold placeC
  split <;> omega
theorem placeC_neg (ids : List Int) (id : Int) : placeC ids id < 0 ↔ id ∉ ids := by
  unfold placeC atC
  have h := List.findIdx_lt_length (p := fun z => z == id) (xs := ids)
  constructor
  · intro h1 hm
    rw [if_pos (h.2 ⟨id, hm, by simp⟩)] at h1
    omega
  · intro h1
    rw [if_neg]
    · omega
    · intro h2
      obtain ⟨z, hz, e⟩ := h.1 h2
      rw [beq_iff_eq] at e
      rw [e] at hz
      exact h1 hz
/-- No one of the first k is id, and the k-th is. -/
theorem placeC_at {ids : List Int} {id : Int} {k : Nat} (hk : k < ids.length) (h : ids[k] = id) (hb : ∀ j (hj : j < k), ids[j] ≠ id) : placeC ids id = (k : Int) := by
  have e : atC ids id = k := by
    unfold atC
    rw [List.findIdx_eq hk]
    exact ⟨by simpa using h, fun j hj => by simpa using hb j hj⟩
  rw [placeC, e, if_pos hk]
theorem placeC_none {ids : List Int} {id : Int} (hb : ∀ j (hj : j < ids.length), ids[j] ≠ id) : placeC ids id = -1 := by
  have h1 : placeC ids id < 0 := by
    rw [placeC_neg]
    intro hm
    obtain ⟨j, hj, e⟩ := List.getElem_of_mem hm
    exact hb j hj e
  have := placeC_bd ids id
  omega
theorem placeC_get {ids : List Int} {id : Int} (h : 0 ≤ placeC ids id) : ∃ (k : Nat) (hk : k < ids.length), placeC ids id = (k : Int) ∧ ids[k] = id ∧ ∀ j (hj : j < k), ids[j] ≠ id := by
  have hl : atC ids id < ids.length := by
    unfold placeC at h
    split at h
    · assumption
    · omega
  refine ⟨atC ids id, hl, by rw [placeC, if_pos hl], ?_, fun j hj => ?_⟩
  · have := List.findIdx_getElem (xs := ids) (p := fun z => z == id) (w := hl)
    exact beq_iff_eq.1 this
  · have := List.not_of_lt_findIdx (xs := ids) (p := fun z => z == id) hj
    simpa using this
theorem idsF_vals : ∀ (zs pre : List Int), 0 ≤ idsF pre zs ∧ idsF pre zs ≤ 6
  | [], _ => by simp [idsF]
  | z :: zs, pre => by
    rw [idsF]
    split
    · split
      · omega
      · exact idsF_vals zs _
    · omega
theorem chainFault_vals (x : DChain) : 0 ≤ chainFault x ∧ chainFault x ≤ 6 := by
  have := idsF_vals x.ids []
  unfold chainFault
  split
  · split <;> omega
  · omega
theorem chainFault_bd (x : DChain) : -1000000000 ≤ chainFault x ∧ chainFault x ≤ 1000000000 := by have := chainFault_vals x; omega
/-- From the k-th on: the loop's own spelling. -/
theorem idsF_step (ids : List Int) (k : Nat) (hk : k < ids.length) : idsF (ids.take k) (ids.drop k) = if 1 ≤ ids[k] ∧ ids[k] ≤ 5 then (if ids[k] ∈ ids.take k then 6 else idsF (ids.take (k + 1)) (ids.drop (k + 1))) else 3 := by
  conv => lhs; rw [List.drop_eq_getElem_cons hk, idsF]
  rw [List.take_succ_eq_append_getElem hk]
theorem idsF_end (ids : List Int) : idsF (ids.take ids.length) (ids.drop ids.length) = 0 := by simp [idsF]
/-- The k-th id stands first at k just if it isn't among those ahead. -/
theorem placeC_self {ids : List Int} {k : Nat} (hk : k < ids.length) : (placeC ids ids[k] = (k : Int)) ↔ ids[k] ∉ ids.take k := by
  constructor
  · intro h hm
    obtain ⟨j, hj, e⟩ := List.getElem_of_mem hm
    rw [List.length_take] at hj
    rw [List.getElem_take] at e
    obtain ⟨m, hm1, h1, h2, h3⟩ := placeC_get (ids := ids) (id := ids[k]) (by omega)
    obtain rfl : m = k := by omega
    exact h3 j (by omega) e
  · intro h
    refine placeC_at hk rfl fun j hj e => h ?_
    rw [List.mem_iff_getElem]
    exact ⟨j, by rw [List.length_take]; omega, by rw [List.getElem_take]; exact e⟩
/-- A chain without a fault. -/
structure ChainOK (x : DChain) : Prop where
  epoch : 1 ≤ x.epoch ∧ x.epoch ≤ 999
  len : 1 ≤ x.ids.length ∧ x.ids.length ≤ 5
  ids : ∀ z ∈ x.ids, 1 ≤ z ∧ z ≤ 5
  nodup : x.ids.Nodup
theorem idsF_zero : ∀ (zs pre : List Int), idsF pre zs = 0 → (∀ z ∈ zs, 1 ≤ z ∧ z ≤ 5) ∧ zs.Nodup ∧ ∀ z ∈ zs, z ∉ pre
  | [], _, _ => by simp
  | z :: zs, pre, h => by
    rw [idsF] at h
    split at h
    · rename_i h1
      split at h
      · simp at h
      · rename_i h2
        obtain ⟨q1, q2, q3⟩ := idsF_zero zs _ h
        refine ⟨?_, ?_, ?_⟩
        · intro u hu
          rcases List.mem_cons.1 hu with rfl | hu
          · exact h1
          · exact q1 u hu
        · refine List.nodup_cons.2 ⟨fun hm => q3 z hm (by simp), q2⟩
        · intro u hu hp
          rcases List.mem_cons.1 hu with rfl | hu
          · exact h2 hp
          · exact q3 u hu (List.mem_append_left _ hp)
    · simp at h
theorem idsF_ok : ∀ (zs pre : List Int), (∀ z ∈ zs, 1 ≤ z ∧ z ≤ 5) → zs.Nodup → (∀ z ∈ zs, z ∉ pre) → idsF pre zs = 0
  | [], _, _, _, _ => by simp [idsF]
  | z :: zs, pre, h1, h2, h3 => by
    rw [idsF, if_pos (h1 z (by simp)), if_neg (h3 z (by simp))]
    obtain ⟨n1, n2⟩ := List.nodup_cons.1 h2
    refine idsF_ok zs _ (fun u hu => h1 u (List.mem_cons_of_mem _ hu)) n2 fun u hu hp => ?_
    rcases List.mem_append.1 hp with hp | hp
    · exact h3 u (List.mem_cons_of_mem _ hu) hp
    · rw [List.mem_singleton.1 hp] at hu
      exact n1 hu
theorem chainFault_zero {x : DChain} (h : chainFault x = 0) : ChainOK x := by
  unfold chainFault at h
  split at h
  · rename_i h1
    split at h
    · rename_i h2
      obtain ⟨q1, q2, -⟩ := idsF_zero _ _ h
      exact ⟨h1, h2, q1, q2⟩
    · simp at h
  · simp at h
theorem ChainOK.fault {x : DChain} (h : ChainOK x) : chainFault x = 0 := by
  rw [chainFault, if_pos h.epoch, if_pos h.len]
  exact idsF_ok _ _ h.ids h.nodup (by simp)
theorem upToC_len (n : Nat) : (upToC n).length = n := by simp [upToC]
theorem upToC_succ (n : Nat) : upToC (n + 1) = upToC n ++ [(n : Int) + 1] := by simp [upToC, List.range_succ]
theorem upToC_bd {n : Nat} {z : Int} (h : z ∈ upToC n) : 1 ≤ z ∧ z ≤ n := by
  simp only [upToC, List.mem_map, List.mem_range] at h
  obtain ⟨k, hk, rfl⟩ := h
  omega
theorem besideR_bad {x : DChain} {id d : Int} (h : chainFault x ≠ 0) : besideR x id d = ⟨chainFault x, 0⟩ := by rw [besideR, if_neg h]
theorem cutR_bad {x : DChain} {id : Int} (h : chainFault x ≠ 0) : cutR x id = badChain (chainFault x) := by rw [cutR, if_neg h]
theorem joinR_bad {x : DChain} {id : Int} (h : chainFault x ≠ 0) : joinR x id = badChain (chainFault x) := by rw [joinR, if_neg h]
end Go.Proofs.Ythpbdafhjakekaa

namespace Go.Proofs.Ythpbdafhjakekaa
open Go.RowKit

structure DNetResult where
  code : Int
  msgs : List DMsg

def Lay.tNetResult : Lay DNetResult := Lay.via (Lay.pair Lay.int (Lay.sl Lay.tMsg)) (fun x => (x.code, x.msgs)) (fun p => ⟨p.1, p.2⟩)

theorem lies_NetResult {w : World} {cs : List Value} {x : DNetResult} {bl : List Nat} : Lay.tNetResult.lies w cs x bl ↔ ∃ (a1 : Option Addr) (d1 : Nat) (b1 : List Nat), cs = [.int .i64 x.code, .slice a1 x.msgs.length d1] ∧ bl = b1 ∧ (Lit.int .i64 x.code).wf = true ∧ (Lay.sl Lay.tMsg).lies w [.slice a1 x.msgs.length d1] x.msgs b1 := by
  constructor
  · intro h
    obtain ⟨c0_, r0_, e0_, s0_, rfl, rfl, h0, h1⟩ := h
    obtain ⟨rfl, w0, rfl⟩ := h0
    have k1 := h1
    obtain ⟨a1, d1, rfl, -⟩ := k1
    exact ⟨a1, d1, s0_, by simp, by simp, w0, h1⟩
  · rintro ⟨a1, d1, b1, rfl, hbl, w0, l1⟩
    rw [hbl]
    exact ⟨[.int .i64 x.code], [.slice a1 x.msgs.length d1], [], b1, rfl, by simp, ⟨rfl, w0, rfl⟩, l1⟩

theorem open_NetResult {w : World} {cs : List Value} {x : DNetResult} (h : Lay.tNetResult.Reads w cs x) : ∃ (a1 : Option Addr) (d1 : Nat), cs = [.int .i64 x.code, .slice a1 x.msgs.length d1] ∧ (Lay.sl Lay.tMsg).Reads w [.slice a1 x.msgs.length d1] x.msgs := by
  obtain ⟨bl, h⟩ := h
  obtain ⟨a1, d1, b1, rfl, -, w0, l1⟩ := lies_NetResult.1 h
  exact ⟨a1, d1, rfl, ⟨_, l1⟩⟩

end Go.Proofs.Ythpbdafhjakekaa

namespace Go.Proofs.Ythpbdafhjakekaa
open Go.RowKit

def sameW (x y : DWrite) : Bool := x.kind == y.kind && (x.id == y.id && (x.session == y.session && (x.seq == y.seq && decide (x.vec = y.vec))))
def sameWs : List DWrite → List DWrite → Bool
  | [], [] => true
  | x :: xs, y :: ys => sameW x y && sameWs xs ys
  | _, _ => false
theorem sameWs_len {xs ys : List DWrite} (h : xs.length ≠ ys.length) : sameWs xs ys = false := by
  induction xs generalizing ys with
  | nil => match ys, h with | y :: ys, _ => rfl
  | cons x xs ih =>
    match ys, h with
    | [], _ => rfl
    | y :: ys, h => rw [sameWs, ih (by simpa using h), Bool.and_false]
theorem sameWs_at {xs ys : List DWrite} (k : Nat) (h1 : k < xs.length) (h2 : k < ys.length) (h : sameW xs[k] ys[k] = false) : sameWs xs ys = false := by
  induction xs generalizing ys k with
  | nil => simp at h1
  | cons x xs ih =>
    match ys, k with
    | y :: ys, 0 => rw [sameWs, show sameW x y = false by simpa using h, Bool.false_and]
    | y :: ys, k + 1 => rw [sameWs, ih k (by simpa using h1) (by simpa using h2) (by simpa using h), Bool.and_false]
theorem sameWs_all {xs ys : List DWrite} (hl : xs.length = ys.length) (h : ∀ k (h1 : k < xs.length) (h2 : k < ys.length), sameW xs[k] ys[k] = true) : sameWs xs ys = true := by
  induction xs generalizing ys with
  | nil => match ys, hl with | [], _ => rfl
  | cons x xs ih =>
    match ys, hl with
    | y :: ys, hl =>
      rw [sameWs, show sameW x y = true from h 0 (by simp) (by simp), ih (by simpa using hl) fun k h1 h2 => h (k + 1) (by simpa using h1) (by simpa using h2), Bool.true_and]
theorem sameWs_refl_self (x : DWrite) : sameW x x = true := by simp [sameW]

end Go.Proofs.Ythpbdafhjakekaa

namespace Go.Proofs.Ythpbdafhjakekaa
open Go.RowKit

/-- A write that is none. -/
def noW (y : DWrite) : Prop := y.kind = 0 ∧ y.id = 0 ∧ y.session = 0 ∧ y.seq = 0 ∧ y.vec.length = 0
instance (y : DWrite) : Decidable (noW y) := by unfold noW; infer_instance
def msgFault (x : DMsg) : Int :=
  if ¬ (1 ≤ x.kind ∧ x.kind ≤ 2) ∨ x.src = x.dst ∨ (x.kind = 2 ∧ ¬ noW x.write) then 1
  else if ¬ (1 ≤ x.epoch ∧ x.epoch ≤ 999) ∨ ¬ (1 ≤ x.src ∧ x.src ≤ 5) ∨ ¬ (1 ≤ x.dst ∧ x.dst ≤ 5) ∨ ¬ (0 ≤ x.index ∧ x.index ≤ 40) ∨ (x.kind ≠ 2 ∧ x.index = 0) then 3
  else if x.kind = 2 then 0 else wF x.write
def msgsFrom : List DMsg → Int
  | [] => 0
  | x :: xs => if msgFault x = 0 then msgsFrom xs else msgFault x
def netFault (xs : List DMsg) : Int := if 40 < xs.length then 2 else msgsFrom xs
def sameM (x y : DMsg) : Bool := x.kind == y.kind && x.epoch == y.epoch && x.src == y.src && x.dst == y.dst && x.index == y.index && sameW x.write y.write
def badNet (c : Int) : DNetResult := ⟨c, []⟩
def sendM (xs : List DMsg) (x : DMsg) : DNetResult :=
  if xs.any (fun y => sameM y x) then ⟨0, xs⟩ else if 40 ≤ xs.length then badNet 2 else ⟨0, xs ++ [x]⟩
def sendR (xs : List DMsg) (x : DMsg) : DNetResult :=
  if netFault xs = 0 then (if msgFault x = 0 then sendM xs x else badNet (msgFault x)) else badNet (netFault xs)
def dropMR (xs : List DMsg) (i : Int) : DNetResult :=
  if netFault xs = 0 then (if 0 ≤ i ∧ i ≤ xs.length - 1 then ⟨0, xs.take i.toNat ++ xs.drop (i.toNat + 1)⟩ else badNet 3) else badNet (netFault xs)
def countM (xs : List DMsg) (z : Int) : Nat := (xs.filter fun y => y.dst == z).length
def countR (xs : List DMsg) (z : Int) : DIntResult := if netFault xs = 0 then ⟨0, countM xs z⟩ else ⟨netFault xs, 0⟩

theorem msgFault_vals (x : DMsg) : 0 ≤ msgFault x ∧ msgFault x ≤ 6 := by
  have := wF_vals x.write
  unfold msgFault
  split
  · omega
  · split
    · omega
    · split
      · omega
      · omega
theorem msgsFrom_vals : ∀ xs : List DMsg, 0 ≤ msgsFrom xs ∧ msgsFrom xs ≤ 6
  | [] => by simp [msgsFrom]
  | x :: xs => by
    rw [msgsFrom]
    split
    · exact msgsFrom_vals xs
    · exact msgFault_vals x
theorem netFault_vals (xs : List DMsg) : 0 ≤ netFault xs ∧ netFault xs ≤ 6 := by
  unfold netFault
  split
  · omega
  · exact msgsFrom_vals xs
theorem msgsFrom_zero : ∀ {xs : List DMsg}, msgsFrom xs = 0 → ∀ x ∈ xs, msgFault x = 0
  | [], _, _, h => by cases h
  | x :: xs, h, y, hy => by
    rw [msgsFrom] at h
    by_cases h1 : msgFault x = 0
    · rw [if_pos h1] at h
      rcases List.mem_cons.1 hy with rfl | hy
      · exact h1
      · exact msgsFrom_zero h y hy
    · rw [if_neg h1] at h
      exact absurd h h1
theorem msgsFrom_all : ∀ {xs : List DMsg}, (∀ x ∈ xs, msgFault x = 0) → msgsFrom xs = 0
  | [], _ => rfl
  | x :: xs, h => by
    rw [msgsFrom, if_pos (h x (by simp))]
    exact msgsFrom_all fun y hy => h y (List.mem_cons_of_mem _ hy)
theorem msgsFrom_at : ∀ {xs : List DMsg} {k : Nat} (hk : k < xs.length), (∀ j (hj : j < k), msgFault xs[j] = 0) → msgFault xs[k] ≠ 0 → msgsFrom xs = msgFault xs[k]
  | x :: xs, 0, hk, _, h => by
    have h1 : msgFault x ≠ 0 := h
    rw [msgsFrom, if_neg h1]
    rfl
  | x :: xs, k + 1, hk, hb, h => by
    have h1 : msgFault x = 0 := hb 0 (by omega)
    rw [msgsFrom, if_pos h1]
    exact msgsFrom_at (xs := xs) (k := k) (by simpa using hk) (fun j hj => hb (j + 1) (by omega)) h
end Go.Proofs.Ythpbdafhjakekaa

namespace Go.Proofs.Ythpbdafhjakekaa
open Go.RowKit

theorem sameW_refl (y : DWrite) : sameW y y = true := by simp [sameW]
theorem sameM_refl (x : DMsg) : sameM x x = true := by simp [sameM, sameW_refl]
theorem netFault_zero {xs : List DMsg} (h : netFault xs = 0) : xs.length ≤ 40 ∧ ∀ x ∈ xs, msgFault x = 0 := by
  unfold netFault at h
  split at h
  · simp at h
  · exact ⟨by omega, msgsFrom_zero h⟩
theorem netFault_ok {xs : List DMsg} (h : xs.length ≤ 40) (h2 : ∀ x ∈ xs, msgFault x = 0) : netFault xs = 0 := by
  rw [netFault, if_neg (by omega)]
  exact msgsFrom_all h2
theorem countM_le (xs : List DMsg) (z : Int) : countM xs z ≤ xs.length := List.length_filter_le _ _
theorem sendM_there {xs : List DMsg} {x : DMsg} (h : xs.any (fun y => sameM y x) = true) : sendM xs x = ⟨0, xs⟩ := by rw [sendM, if_pos h]
theorem sendM_new {xs : List DMsg} {x : DMsg} (h : xs.any (fun y => sameM y x) = false) (hl : xs.length < 40) : sendM xs x = ⟨0, xs ++ [x]⟩ := by rw [sendM, if_neg (by simp [h]), if_neg (by omega)]
theorem sendM_full {xs : List DMsg} {x : DMsg} (h : xs.any (fun y => sameM y x) = false) (hl : 40 ≤ xs.length) : sendM xs x = badNet 2 := by rw [sendM, if_neg (by simp [h]), if_pos hl]
theorem sendR_net {xs : List DMsg} {x : DMsg} (h : netFault xs ≠ 0) : sendR xs x = badNet (netFault xs) := by rw [sendR, if_neg h]
theorem sendR_msg {xs : List DMsg} {x : DMsg} (h : netFault xs = 0) (h2 : msgFault x ≠ 0) : sendR xs x = badNet (msgFault x) := by rw [sendR, if_pos h, if_neg h2]
theorem sendR_ok {xs : List DMsg} {x : DMsg} (h : netFault xs = 0) (h2 : msgFault x = 0) : sendR xs x = sendM xs x := by rw [sendR, if_pos h, if_pos h2]
/-- What holds behind a message that was sent. -/
structure Nets (xs : List DMsg) (x : DMsg) (ys : List DMsg) : Prop where
  nf : netFault xs = 0
  mf : msgFault x = 0
  send : sendR xs x = ⟨0, ys⟩
  again : sendR ys x = ⟨0, ys⟩
  yf : netFault ys = 0
  pos : 1 ≤ ys.length
  few : ys.length ≤ 40
  le : xs.length ≤ ys.length
  ca : countR xs x.dst = ⟨0, (countM xs x.dst : Nat)⟩
  cb : countR ys x.dst = ⟨0, (countM ys x.dst : Nat)⟩
  cd : countM ys x.dst = countM xs x.dst + (ys.length - xs.length)
  drop : dropMR ys ((ys.length : Int) - 1) = ⟨0, ys.take (ys.length - 1)⟩
theorem dropMR_last {ys : List DMsg} (h : netFault ys = 0) (hp : 1 ≤ ys.length) : dropMR ys ((ys.length : Int) - 1) = ⟨0, ys.take (ys.length - 1)⟩ := by
  have e : ((ys.length : Int) - 1).toNat = ys.length - 1 := by omega
  rw [dropMR, if_pos h, if_pos (by omega), e, List.drop_eq_nil_of_le (by omega), List.append_nil]
theorem nets_plain {xs : List DMsg} {x : DMsg} (h : (sendR xs x).code = 0) : ∃ ys, Nets xs x ys := by
  by_cases hn : netFault xs = 0
  · by_cases hm : msgFault x = 0
    · obtain ⟨hl, hall⟩ := netFault_zero hn
      cases ha : xs.any (fun y => sameM y x)
      · by_cases hf : xs.length < 40
        · have hyf : netFault (xs ++ [x]) = 0 := netFault_ok (by simp; omega) fun y hy => by
            rcases List.mem_append.1 hy with hy | hy
            · exact hall y hy
            · rw [List.mem_singleton.1 hy]; exact hm
          have hag : (xs ++ [x]).any (fun y => sameM y x) = true := by simp [sameM_refl]
          refine ⟨xs ++ [x], hn, hm, by rw [sendR_ok hn hm, sendM_new ha hf], by rw [sendR_ok hyf hm, sendM_there hag], hyf, by simp, by simp; omega, by simp, by rw [countR, if_pos hn], by rw [countR, if_pos hyf], ?_, dropMR_last hyf (by simp)⟩
          simp [countM, List.filter_append]
        · rw [sendR_ok hn hm, sendM_full ha (by omega)] at h
          simp [badNet] at h
      · have hp : 1 ≤ xs.length := by
          cases xs with
          | nil => simp at ha
          | cons y ys => simp
        exact ⟨xs, hn, hm, by rw [sendR_ok hn hm, sendM_there ha], by rw [sendR_ok hn hm, sendM_there ha], hn, hp, hl, Nat.le_refl _, by rw [countR, if_pos hn], by rw [countR, if_pos hn], by omega, dropMR_last hn hp⟩
    · rw [sendR_msg hn hm] at h
      exact absurd h hm
  · rw [sendR_net hn] at h
    exact absurd h hn
end Go.Proofs.Ythpbdafhjakekaa

namespace Go.Proofs.Ythpbdafhjakekaa
open Go.RowKit

def nodeIn (x : DWorld) (id : Int) : Bool := decide (1 ≤ id) && decide (id ≤ (x.nodes.length : Int))
/-- What is wrong with the nodes from the place i on. -/
def nodesF (c : DChain) : Nat → List DNode → Int
  | _, [] => 0
  | i, n :: ns =>
    if nodeFault n ≠ 0 then nodeFault n
    else if n.id ≠ (i : Int) + 1 then 1
    else if c.epoch < n.epoch ∨ (n.up = true ∧ 0 ≤ placeC c.ids n.id ∧ n.epoch ≠ c.epoch) then 7
    else nodesF c (i + 1) ns
def nodesFault (x : DWorld) : Int :=
  if nodesF x.chain 0 x.nodes ≠ 0 then nodesF x.chain 0 x.nodes
  else if x.chain.ids.all (nodeIn x) then 0 else 4
def entryB (x : DWorld) (e : DEntry) : Bool :=
  (decide (1 ≤ e.kind) && decide (e.kind ≤ 3)) && ((decide (1 ≤ e.start) && decide (e.start ≤ x.events)) && ((e.fin == 0 || (decide (e.start ≤ e.fin) && decide (e.fin ≤ x.events))) && (decide (0 ≤ e.place) && decide (e.place ≤ 40))))
def worldFault (x : DWorld) : Int :=
  if ¬ (0 ≤ x.now ∧ x.now ≤ 9000) ∨ ¬ (0 ≤ x.events ∧ x.events ≤ 9999) then 3
  else if chainFault x.chain ≠ 0 then chainFault x.chain
  else if x.nodes.length < 1 ∨ 5 < x.nodes.length then 2
  else if nodesFault x ≠ 0 then nodesFault x
  else if netFault x.msgs ≠ 0 then netFault x.msgs
  else if 60 < x.history.length then 2
  else if x.history.all (entryB x) then 0 else 3
def noWorld : DWorld := ⟨0, 0, noChain, [], [], []⟩
def badWorld (c : Int) : DWorldResult := ⟨c, false, noWorld⟩
def freshNode (k : Nat) : DNode := ⟨(k : Int) + 1, true, 1, 0, [], 0, 0⟩
def newWorldR (n : Int) : DWorldResult := if 1 ≤ n ∧ n ≤ 5 then ⟨0, false, ⟨0, 0, ⟨1, upToC n.toNat⟩, (List.range n.toNat).map freshNode, [], []⟩⟩ else badWorld 3
/-- The node that is told. -/
def nodeOf (x : DWorld) (id : Int) : DNode := x.nodes.getD (id - 1).toNat noNode
def memberB (x : DWorld) (id : Int) : Bool := (nodeOf x id).up && ((nodeOf x id).epoch == x.chain.epoch && decide (0 ≤ placeC x.chain.ids id))
def askedW (x : DWorld) (id : Int) : Int := if worldFault x ≠ 0 then worldFault x else if nodeIn x id = false then 4 else if 9999 ≤ x.events then 2 else 0
def nextW (x : DWorld) : DWorld := ⟨x.now, x.events + 1, x.chain, x.nodes, x.msgs, x.history⟩
def putNode (x : DWorld) (n : DNode) : DWorld := ⟨x.now, x.events, x.chain, x.nodes.set (n.id - 1).toNat n, x.msgs, x.history⟩
def toldB (s q : Int) (e : DEntry) : Bool := e.kind == 1 && (e.session == s && e.seq == q)
/-- What a node that is up takes: its writes, or a code. -/
def takeN (n : DNode) (y : DWrite) : Int × DNode :=
  if (appR n.writes y).code = 0 then (if 40 < (appR n.writes y).writes.length then (2, n) else (0, withWrites n (appR n.writes y).writes)) else ((appR n.writes y).code, n)
def entryW (y : DWrite) (at' : Int) : DEntry := ⟨1, y.session, y.seq, y.id, [], 0, at', 0, 0, [], []⟩
def askR (x : DWorld) (y : DWrite) : DWorldResult :=
  if worldFault x ≠ 0 then badWorld (worldFault x)
  else if 9999 ≤ x.events then badWorld 2
  else if wF y ≠ 0 then badWorld (wF y)
  else if memberB x (x.chain.ids.getD 0 0) = false then badWorld 10
  else if (takeN (nodeOf x (x.chain.ids.getD 0 0)) y).1 ≠ 0 then badWorld (takeN (nodeOf x (x.chain.ids.getD 0 0)) y).1
  else if x.history.any (toldB y.session y.seq) then ⟨0, true, putNode (nextW x) (takeN (nodeOf x (x.chain.ids.getD 0 0)) y).2⟩
  else if 60 ≤ x.history.length then badWorld 2
  else ⟨0, true, { putNode (nextW x) (takeN (nodeOf x (x.chain.ids.getD 0 0)) y).2 with history := x.history ++ [entryW y (x.events + 1)] }⟩
def sentW (x : DWorld) (m : DMsg) : DWorldResult :=
  if (sendM x.msgs m).code ≠ 0 then badWorld (sendM x.msgs m).code else ⟨0, true, { nextW x with msgs := (sendM x.msgs m).msgs }⟩
def sendWR (x : DWorld) (id i : Int) : DWorldResult :=
  if askedW x id ≠ 0 then badWorld (askedW x id)
  else if memberB x id = false then badWorld 10
  else if nextC x.chain.ids id 1 = 0 then badWorld 8
  else if ¬ (1 ≤ i ∧ i ≤ (nodeOf x id).sure) then badWorld 3
  else sentW x ⟨1, x.chain.epoch, id, nextC x.chain.ids id 1, i, (nodeOf x id).writes.getD (i - 1).toNat ⟨0, 0, [], 0, 0⟩⟩
def ackWR (x : DWorld) (id : Int) : DWorldResult :=
  if askedW x id ≠ 0 then badWorld (askedW x id)
  else if memberB x id = false then badWorld 10
  else if nextC x.chain.ids id (-1) = 0 then badWorld 8
  else sentW x ⟨2, x.chain.epoch, id, nextC x.chain.ids id (-1), if nextC x.chain.ids id 1 = 0 then (nodeOf x id).sure else (nodeOf x id).clean, ⟨0, 0, [], 0, 0⟩⟩
/-- A message heard: the node that it is to, if something changes. -/
def heardN (x : DWorld) (m : DMsg) : Option DNode :=
  if nodeIn x m.dst = false ∨ memberB x m.dst = false ∨ m.epoch ≠ x.chain.epoch then none
  else if m.kind = 2 then
    if nextC x.chain.ids m.dst 1 ≠ m.src then none
    else some { nodeOf x m.dst with clean := max (nodeOf x m.dst).clean (min m.index (nodeOf x m.dst).sure) }
  else if nextC x.chain.ids m.dst (-1) ≠ m.src ∨ m.index ≠ ((nodeOf x m.dst).writes.length : Int) + 1 then none
  else if 0 < seenI (nodeOf x m.dst).writes m.write.session m.write.seq then none
  else if (takeN (nodeOf x m.dst) m.write).1 = 0 then some (takeN (nodeOf x m.dst) m.write).2 else none
def noMsg : DMsg := ⟨0, 0, 0, 0, 0, ⟨0, 0, [], 0, 0⟩⟩
def hearWR (x : DWorld) (i : Int) : DWorldResult :=
  if worldFault x ≠ 0 then badWorld (worldFault x)
  else if 9999 ≤ x.events then badWorld 2
  else if ¬ (0 ≤ i ∧ i ≤ (x.msgs.length : Int) - 1) then badWorld 3
  else match heardN x (x.msgs.getD i.toNat noMsg) with
    | none => ⟨0, false, nextW x⟩
    | some n => ⟨0, true, putNode (nextW x) n⟩
def putWR (x : DWorld) (r : DNodeResult) : DWorldResult := if r.code ≠ 0 then badWorld r.code else ⟨0, true, putNode (nextW x) r.node⟩
def syncWR (x : DWorld) (id : Int) : DWorldResult := if askedW x id ≠ 0 then badWorld (askedW x id) else putWR x (syncR (nodeOf x id))
def crashWR (x : DWorld) (id k : Int) : DWorldResult := if askedW x id ≠ 0 then badWorld (askedW x id) else putWR x (crashR (nodeOf x id) k)
def startWR (x : DWorld) (id : Int) : DWorldResult :=
  if askedW x id ≠ 0 then badWorld (askedW x id)
  else if (nodeOf x id).up = true then badWorld 8
  else ⟨0, true, putNode (nextW x) { nodeOf x id with up := true, epoch := if 0 ≤ placeC x.chain.ids id then x.chain.epoch else (nodeOf x id).epoch }⟩

theorem nodesF_vals (c : DChain) : ∀ (i : Nat) (ns : List DNode), 0 ≤ nodesF c i ns ∧ nodesF c i ns ≤ 10
  | _, [] => by simp [nodesF]
  | i, n :: ns => by
    have h1 := nodeFault_vals n
    have h2 := nodesF_vals c (i + 1) ns
    rw [nodesF]
    split
    · omega
    · split
      · omega
      · split
        · omega
        · exact h2
theorem nodesFault_vals (x : DWorld) : 0 ≤ nodesFault x ∧ nodesFault x ≤ 10 := by
  have := nodesF_vals x.chain 0 x.nodes
  unfold nodesFault
  split
  · omega
  · split <;> omega
theorem worldFault_vals (x : DWorld) (hc : 0 ≤ chainFault x.chain ∧ chainFault x.chain ≤ 6) : 0 ≤ worldFault x ∧ worldFault x ≤ 10 := by
  have h1 := nodesFault_vals x
  have h2 := netFault_vals x.msgs
  unfold worldFault
  repeat' split
  all_goals omega
end Go.Proofs.Ythpbdafhjakekaa

namespace Go.Proofs.Ythpbdafhjakekaa
open Go.RowKit

theorem vcnt_NetResult (x : DNetResult) : Lay.tNetResult.vcnt x = (Lay.sl Lay.tMsg).vcnt x.msgs := by
  show 0 + ((Lay.sl Lay.tMsg).vcnt x.msgs) = (Lay.sl Lay.tMsg).vcnt x.msgs
  omega
theorem mkv_NetResult (k : Int) (x : DNetResult) : Lay.tNetResult.mkv k x = ⟨x.code, (Lay.sl Lay.tMsg).mkv (k) x.msgs⟩ := by
  simp [Lay.tNetResult, Lay.via, Lay.pair, Lay.int]
theorem own_NetResult {w : World} {cs : List Value} {x : DNetResult} {bl : List Nat} (h : Lay.tNetResult.Own w cs x bl) : ∃ (a1 : Option Addr) (d1 : Nat) (g1 : List Nat), cs = [.int .i64 x.code, .slice a1 x.msgs.length d1] ∧ bl = g1 ∧ (Lay.sl Lay.tMsg).Own w [.slice a1 x.msgs.length d1] x.msgs g1 ∧ (Lit.int .i64 x.code).wf = true := by
  obtain ⟨hl, hn, hf⟩ := h
  obtain ⟨a1, d1, b1, rfl, hbl, w0, l1⟩ := lies_NetResult.1 hl
  rw [hbl] at hn hf
  exact ⟨a1, d1, b1, rfl, hbl, ⟨l1, hn, hf⟩, w0⟩
theorem mkOwn_NetResult {w : World} {x : DNetResult} {c1 : List Value} {g1 : List Nat} (O1 : (Lay.sl Lay.tMsg).Own w c1 x.msgs g1) (v0 : (Lit.int .i64 x.code).wf = true) (hn : (g1).Nodup) : Lay.tNetResult.Own w ([.int .i64 x.code] ++ c1) x (g1) := by
  refine ⟨⟨[.int .i64 x.code], c1, [], g1, rfl, by simp, ⟨rfl, v0, rfl⟩, O1.1⟩, hn, ?_⟩
  intro b hb o
  exact O1.2.2 b hb o

end Go.Proofs.Ythpbdafhjakekaa

namespace Go.Proofs.Ythpbdafhjakekaa
open Go.RowKit

theorem lies_store {α : Type} {A : Lay α} {w w4 : World} {cs vs : List Value} {y : α} {lo hi : Nat} (h : A.LiesIn w4 cs y lo hi) (hlo : w.heap.size < lo) (hhi : hi ≤ w4.heap.size) :
    A.LiesIn (setAll w4 w.heap.size 0 vs) cs y w.heap.size (setAll w4 w.heap.size 0 vs).heap.size := by
  rw [size_setAll]
  exact (h.ext (ext_setAll (fun q => q = w.heap.size) (Ext.refl _ _) _ _ _ rfl) (fun q h1 h2 h3 => by omega)).mono (by omega) hhi
theorem own_store {α : Type} {A : Lay α} {w w4 : World} {cs vs : List Value} {y : α} {lo hi : Nat} (h : A.OwnIn w4 cs y lo hi) (hlo : w.heap.size < lo) (hhi : hi ≤ w4.heap.size) :
    A.OwnIn (setAll w4 w.heap.size 0 vs) cs y w.heap.size (setAll w4 w.heap.size 0 vs).heap.size := by
  rw [size_setAll]
  exact (h.ext (ext_setAll (fun q => q = w.heap.size) (Ext.refl _ _) _ _ _ rfl) (fun q h1 h2 h3 => by omega)).mono (by omega) hhi

/-- The block s alone may turn, and it is none of those that the answer lies in. -/
theorem lies_store' {α : Type} {A : Lay α} {w4 : World} {s : Nat} {cs vs : List Value} {y : α} {lo hi : Nat} (h : A.LiesIn w4 cs y lo hi) (hs : s < lo) : A.LiesIn (setAll w4 s 0 vs) cs y lo hi :=
  h.ext (ext_setAll (fun q => q = s) (Ext.refl _ _) _ _ _ rfl) (fun q h1 h2 h3 => by omega)
theorem own_store' {α : Type} {A : Lay α} {w4 : World} {s : Nat} {cs vs : List Value} {y : α} {lo hi : Nat} (h : A.OwnIn w4 cs y lo hi) (hs : s < lo) : A.OwnIn (setAll w4 s 0 vs) cs y lo hi :=
  h.ext (ext_setAll (fun q => q = s) (Ext.refl _ _) _ _ _ rfl) (fun q h1 h2 h3 => by omega)

theorem nil_own {α : Type} {A : Lay α} {w : World} {lo hi : Nat} : (Lay.sl A).OwnIn w [.slice none 0 0] [] lo hi := ⟨[], ⟨⟨none, 0, rfl, by simp, Or.inl ⟨rfl, rfl⟩⟩, by simp, by simp⟩, by simp⟩

end Go.Proofs.Ythpbdafhjakekaa

namespace Go.Proofs.Ythpbdafhjakekaa
open Go.RowKit

theorem own_netR {w : World} {c : Int} {v : Value} {xs : List DMsg} {lo hi : Nat} (hc : (Lit.int .i64 c).wf = true) (h : (Lay.sl Lay.tMsg).OwnIn w [v] xs lo hi) : Lay.tNetResult.OwnIn w [.int .i64 c, v] ⟨c, xs⟩ lo hi := by
  obtain ⟨bl, O, i⟩ := h
  exact ⟨bl, mkOwn_NetResult (x := ⟨c, xs⟩) O hc O.2.1, i⟩
theorem lies_netR {w : World} {c : Int} {a : Option Addr} {m d : Nat} {xs : List DMsg} {lo hi : Nat} (hc : (Lit.int .i64 c).wf = true) (h : (Lay.sl Lay.tMsg).LiesIn w [.slice a m d] xs lo hi) : Lay.tNetResult.LiesIn w [.int .i64 c, .slice a m d] ⟨c, xs⟩ lo hi := by
  obtain ⟨bl, l, i⟩ := h
  have hm : m = xs.length := (Lay.Reads.cap ⟨bl, l⟩).1
  subst hm
  exact ⟨bl, lies_NetResult.2 ⟨a, d, bl, rfl, rfl, hc, l⟩, i⟩
theorem own_badNet {w : World} {c : Int} {lo hi : Nat} (hc : -1000000000 ≤ c ∧ c ≤ 1000000000) : Lay.tNetResult.OwnIn w [.int .i64 c, .slice none 0 0] (badNet c) lo hi := own_netR (xs := []) (wf_of_bd hc) nil_own
theorem lies_badNet {w : World} {c : Int} {lo hi : Nat} (hc : -1000000000 ≤ c ∧ c ≤ 1000000000) : Lay.tNetResult.LiesIn w [.int .i64 c, .slice none 0 0] (badNet c) lo hi := (own_badNet hc).lies
theorem msg_vec {x : DMsg} (h : msgFault x = 0) : x.write.vec.length ≤ 100000000 := by
  unfold msgFault at h
  split at h
  · simp at h
  · rename_i h1
    split at h
    · simp at h
    · split at h
      · rename_i h3
        have h4 : noW x.write := Decidable.byContradiction fun q => h1 (Or.inr (Or.inr ⟨h3, q⟩))
        have := h4.2.2.2.2
        omega
      · obtain ⟨-, -, -, hk⟩ := writeFault_zero h
        rcases hk with ⟨-, hv⟩ | ⟨-, hv⟩
        · have := (vecFault_zero hv).1; omega
        · rw [hv]; simp
theorem msgs_vec {xs : List DMsg} (h : netFault xs = 0) : ∀ x ∈ xs, x.write.vec.length ≤ 100000000 := fun x hx => msg_vec ((netFault_zero h).2 x hx)
end Go.Proofs.Ythpbdafhjakekaa

namespace Go.Proofs.Ythpbdafhjakekaa
open Go.RowKit

theorem vcnt_ChainResult (x : DChainResult) : Lay.tChainResult.vcnt x = Lay.tChain.vcnt x.chain := by
  show 0 + (Lay.tChain.vcnt x.chain) = Lay.tChain.vcnt x.chain
  omega
theorem mkv_ChainResult (k : Int) (x : DChainResult) : Lay.tChainResult.mkv k x = ⟨x.code, Lay.tChain.mkv (k) x.chain⟩ := by
  simp [Lay.tChainResult, Lay.via, Lay.pair, Lay.int]
theorem own_ChainResult {w : World} {cs : List Value} {x : DChainResult} {bl : List Nat} (h : Lay.tChainResult.Own w cs x bl) : ∃ (a2 : Option Addr) (d2 : Nat) (g1 : List Nat), cs = [.int .i64 x.code, .int .i64 x.chain.epoch, .slice a2 x.chain.ids.length d2] ∧ bl = g1 ∧ Lay.tChain.Own w [.int .i64 x.chain.epoch, .slice a2 x.chain.ids.length d2] x.chain g1 ∧ (Lit.int .i64 x.code).wf = true := by
  obtain ⟨hl, hn, hf⟩ := h
  obtain ⟨a2, d2, b2, rfl, hbl, w0, w1, l2⟩ := lies_ChainResult.1 hl
  rw [hbl] at hn hf
  exact ⟨a2, d2, b2, rfl, hbl, ⟨lies_Chain.2 ⟨a2, d2, b2, rfl, rfl, w1, l2⟩, hn, hf⟩, w0⟩
theorem mkOwn_ChainResult {w : World} {x : DChainResult} {c1 : List Value} {g1 : List Nat} (O1 : Lay.tChain.Own w c1 x.chain g1) (v0 : (Lit.int .i64 x.code).wf = true) (hn : (g1).Nodup) : Lay.tChainResult.Own w ([.int .i64 x.code] ++ c1) x (g1) := by
  refine ⟨⟨[.int .i64 x.code], c1, [], g1, rfl, by simp, ⟨rfl, v0, rfl⟩, O1.1⟩, hn, ?_⟩
  intro b hb o
  exact O1.2.2 b hb o

end Go.Proofs.Ythpbdafhjakekaa

namespace Go.Proofs.Ythpbdafhjakekaa
open Go.RowKit

theorem int_cell {w : World} {b off cap k : Nat} {zs : List Int} (h : (Lay.sl Lay.int).Reads w [.slice (some ⟨b, off, none⟩) zs.length cap] zs) (hk : k < zs.length) : w.cell? ⟨b, off + k, none⟩ = some (.int .i64 zs[k]) := by
  obtain ⟨bl, h⟩ := h
  obtain ⟨ao, cp, e, -, -, h⟩ := Lay.lies_ints.1 h
  simp only [Value.slice.injEq] at e
  obtain ⟨rfl, -, rfl⟩ := e
  rcases h with ⟨rfl, -⟩ | ⟨b', off', e2, -, -, hj⟩
  · simp at hk
  · simp only [Option.some.injEq, Addr.mk.injEq, and_true] at e2
    obtain ⟨rfl, rfl⟩ := e2
    rw [hj k hk]
    simp [List.getD, hk]
theorem int_wf {w : World} {v : Value} {zs : List Int} (h : (Lay.sl Lay.int).Reads w [v] zs) : ∀ z ∈ zs, (Lit.int .i64 z).wf = true := (Lay.ints_reads h).wf
theorem own_chainR {w : World} {c : Int} {v : Value} {x : DChain} {lo hi : Nat} (hc : (Lit.int .i64 c).wf = true) (he : (Lit.int .i64 x.epoch).wf = true) (h : (Lay.sl Lay.int).OwnIn w [v] x.ids lo hi) : Lay.tChainResult.OwnIn w [.int .i64 c, .int .i64 x.epoch, v] ⟨c, x⟩ lo hi := by
  obtain ⟨bl, O, i⟩ := h
  exact ⟨bl, mkOwn_ChainResult (x := ⟨c, x⟩) (mkOwn_Chain O he O.2.1) hc O.2.1, i⟩
theorem lies_chainR {w : World} {c : Int} {a : Option Addr} {m d : Nat} {x : DChain} {lo hi : Nat} (hc : (Lit.int .i64 c).wf = true) (he : (Lit.int .i64 x.epoch).wf = true) (h : (Lay.sl Lay.int).LiesIn w [.slice a m d] x.ids lo hi) : Lay.tChainResult.LiesIn w [.int .i64 c, .int .i64 x.epoch, .slice a m d] ⟨c, x⟩ lo hi := by
  obtain ⟨bl, l, i⟩ := h
  have hm : m = x.ids.length := (Lay.Reads.cap ⟨bl, l⟩).1
  subst hm
  exact ⟨bl, lies_ChainResult.2 ⟨a, d, bl, rfl, rfl, hc, he, l⟩, i⟩
theorem own_badChain {w : World} {c : Int} {lo hi : Nat} (hc : -1000000000 ≤ c ∧ c ≤ 1000000000) : Lay.tChainResult.OwnIn w [.int .i64 c, .int .i64 0, .slice none 0 0] (badChain c) lo hi := own_chainR (x := noChain) (wf_of_bd hc) (by decide) nil_own
theorem own_intRC {w : World} {c n : Int} {lo hi : Nat} (hc : (Lit.int .i64 c).wf = true) (hn : (Lit.int .i64 n).wf = true) : Lay.tIntResult.OwnIn w [.int .i64 c, .int .i64 n] ⟨c, n⟩ lo hi :=
  ⟨[], ⟨lies_IntResult.2 ⟨rfl, rfl, hc, hn⟩, by simp, by simp⟩, by simp⟩
end Go.Proofs.Ythpbdafhjakekaa

namespace Go.Proofs.Ythpbdafhjakekaa
open Go.RowKit

structure WorldOK (x : DWorld) : Prop where
  now : 0 ≤ x.now ∧ x.now ≤ 9000
  events : 0 ≤ x.events ∧ x.events ≤ 9999
  chain : chainFault x.chain = 0
  some : 1 ≤ x.nodes.length ∧ x.nodes.length ≤ 5
  nodes : ∀ k (h : k < x.nodes.length), nodeFault x.nodes[k] = 0 ∧ x.nodes[k].id = (k : Int) + 1 ∧ x.nodes[k].epoch ≤ x.chain.epoch
  ids : ∀ z ∈ x.chain.ids, nodeIn x z = true
  net : netFault x.msgs = 0
  few : x.history.length ≤ 60
  told : ∀ e ∈ x.history, entryB x e = true
theorem nodesF_zero (c : DChain) : ∀ (ns : List DNode) (i : Nat), nodesF c i ns = 0 → ∀ k (h : k < ns.length), nodeFault ns[k] = 0 ∧ ns[k].id = ((i + k : Nat) : Int) + 1 ∧ ns[k].epoch ≤ c.epoch
  | [], _, _, k, h => by simp at h
  | n :: ns, i, h0, k, h => by
    rw [nodesF] at h0
    split at h0
    · rename_i q; exact absurd h0 q
    · rename_i q1
      split at h0
      · simp at h0
      · rename_i q2
        split at h0
        · simp at h0
        · rename_i q3
          cases k with
          | zero => exact ⟨by simpa using q1, by simpa using q2, by
              have : ¬ c.epoch < n.epoch := fun q => q3 (Or.inl q)
              simp
              omega⟩
          | succ k =>
            have := nodesF_zero c ns (i + 1) h0 k (by simpa using h)
            obtain ⟨a1, a2, a3⟩ := this
            refine ⟨by simpa using a1, ?_, by simpa using a3⟩
            simp only [List.getElem_cons_succ]
            rw [a2]
            omega
theorem worldFault_zero {x : DWorld} (h : worldFault x = 0) : WorldOK x := by
  unfold worldFault at h
  split at h
  · simp at h
  · rename_i h1
    split at h
    · rename_i q; exact absurd h q
    · rename_i h2
      split at h
      · simp at h
      · rename_i h3
        split at h
        · rename_i q; exact absurd h q
        · rename_i h4
          split at h
          · rename_i q; exact absurd h q
          · rename_i h5
            split at h
            · simp at h
            · rename_i h6
              split at h
              · rename_i h7
                have h4' : nodesFault x = 0 := by simpa using h4
                unfold nodesFault at h4'
                have h8 : nodesF x.chain 0 x.nodes = 0 ∧ x.chain.ids.all (nodeIn x) = true := by
                  split at h4'
                  · rename_i q; exact absurd h4' q
                  · rename_i q
                    split at h4'
                    · rename_i q2; exact ⟨by simpa using q, q2⟩
                    · simp at h4'
                refine ⟨by omega, by omega, by simpa using h2, by omega, fun k hk => ?_, fun z hz => List.all_eq_true.1 h8.2 z hz, by simpa using h5, by omega, fun e he => List.all_eq_true.1 h7 e he⟩
                have := nodesF_zero x.chain x.nodes 0 h8.1 k hk
                simpa using this
              · simp at h
/-- How long the lists of its entries are. -/
def Fits (x : DWorld) : Prop := ∀ e ∈ x.history, e.query.length ≤ 10000000 ∧ e.vec.length ≤ 10000000 ∧ e.hits.length ≤ 10000000
theorem fits_of_sz {x : DWorld} (h : Lay.tWorld.sz x ≤ 1048576) : Fits x := fun e he => by
  have h1 : Lay.tWorld.sz x = 0 + (0 + (Lay.tChain.sz x.chain + ((Lay.sl Lay.tNode).sz x.nodes + ((Lay.sl Lay.tMsg).sz x.msgs + (Lay.sl Lay.tEntry).sz x.history)))) := rfl
  obtain ⟨j, hj, rfl⟩ := List.getElem_of_mem he
  have h2 := Lay.sz_elem (A := Lay.tEntry) hj
  have h3 : Lay.tEntry.sz x.history[j] = 0 + (0 + (0 + (0 + ((Lay.sl Lay.int).sz x.history[j].query + (0 + (0 + (0 + (0 + ((Lay.sl Lay.int).sz x.history[j].vec + (Lay.sl Lay.tHit).sz x.history[j].hits))))))))) := rfl
  have h4 := Lay.sz_len (A := Lay.int) (xs := x.history[j].query)
  have h5 := Lay.sz_len (A := Lay.int) (xs := x.history[j].vec)
  have h6 := Lay.sz_len (A := Lay.tHit) (xs := x.history[j].hits)
  omega
theorem wf_World {w : World} {cs : List Value} {x : DWorld} (h : Lay.tWorld.Reads w cs x) : (Lit.int .i64 x.now).wf = true ∧ (Lit.int .i64 x.events).wf = true ∧ (Lit.int .i64 x.chain.epoch).wf = true := by
  obtain ⟨bl, h⟩ := h
  obtain ⟨_, _, _, _, _, _, _, _, _, _, _, _, -, -, w0, w1, w2, -⟩ := lies_World.1 h
  exact ⟨w0, w1, w2⟩
/-- A world of its lists, each in blocks of its own. -/
theorem own_worldC {w : World} {x : DWorld} {v3 v4 v5 v6 : Value} {l3 h3 l4 h4 l5 h5 l6 h6 : Nat} (p3 : (Lay.sl Lay.int).OwnIn w [v3] x.chain.ids l3 h3) (p4 : (Lay.sl Lay.tNode).OwnIn w [v4] x.nodes l4 h4) (p5 : (Lay.sl Lay.tMsg).OwnIn w [v5] x.msgs l5 h5) (p6 : (Lay.sl Lay.tEntry).OwnIn w [v6] x.history l6 h6)
    (e1 : h3 ≤ l4) (e2 : h4 ≤ l5) (e3 : h5 ≤ l6) (e4 : l3 ≤ h3) (e5 : l4 ≤ h4) (e6 : l5 ≤ h5) (e7 : l6 ≤ h6) (hw : (Lit.int .i64 x.now).wf = true ∧ (Lit.int .i64 x.events).wf = true ∧ (Lit.int .i64 x.chain.epoch).wf = true) :
    Lay.tWorld.OwnIn w [.int .i64 x.now, .int .i64 x.events, .int .i64 x.chain.epoch, v3, v4, v5, v6] x l3 h6 := by
  obtain ⟨b3, O3, i3⟩ := p3
  obtain ⟨b4, O4, i4⟩ := p4
  obtain ⟨b5, O5, i5⟩ := p5
  obtain ⟨b6, O6, i6⟩ := p6
  obtain ⟨w0, w1, w2⟩ := hw
  have hm : ∀ c, c ∈ b3 ++ (b4 ++ (b5 ++ b6)) → (l3 ≤ c ∧ c < h3 ∧ c ∈ b3) ∨ (l4 ≤ c ∧ c < h4 ∧ c ∈ b4) ∨ (l5 ≤ c ∧ c < h5 ∧ c ∈ b5) ∨ (l6 ≤ c ∧ c < h6 ∧ c ∈ b6) := by
    intro c hc
    simp only [List.mem_append] at hc
    rcases hc with hc | hc | hc | hc
    · exact Or.inl ⟨(i3 c hc).1, (i3 c hc).2, hc⟩
    · exact Or.inr (Or.inl ⟨(i4 c hc).1, (i4 c hc).2, hc⟩)
    · exact Or.inr (Or.inr (Or.inl ⟨(i5 c hc).1, (i5 c hc).2, hc⟩))
    · exact Or.inr (Or.inr (Or.inr ⟨(i6 c hc).1, (i6 c hc).2, hc⟩))
  refine ⟨b3 ++ (b4 ++ (b5 ++ b6)), mkOwn_World (mkOwn_Chain O3 w2 O3.2.1) O4 O5 O6 w0 w1 ?_, fun c hc => by have := hm c hc; omega⟩
  rw [List.nodup_append, List.nodup_append, List.nodup_append]
  refine ⟨O3.2.1, ⟨O4.2.1, ⟨O5.2.1, O6.2.1, fun a ha c hc e => ?_⟩, fun a ha c hc e => ?_⟩, fun a ha c hc e => ?_⟩
  · have := i5 a ha; have := i6 c hc; omega
  · have := i4 a ha
    rcases List.mem_append.1 hc with hc | hc
    · have := i5 c hc; omega
    · have := i6 c hc; omega
  · have := i3 a ha
    simp only [List.mem_append] at hc
    rcases hc with hc | hc | hc
    · have := i4 c hc; omega
    · have := i5 c hc; omega
    · have := i6 c hc; omega
theorem node_bounds {x : DNode} (h : nodeFault x = 0) : x.writes.length ≤ 1000000 ∧ ∀ y ∈ x.writes, y.vec.length ≤ 10000000 := by
  have hk := nodeFault_zero h
  refine ⟨by have := hk.len; omega, fun y hy => ?_⟩
  obtain ⟨-, -, -, hq⟩ := writeFault_zero (hk.ws y hy)
  rcases hq with ⟨-, hv⟩ | ⟨-, hv⟩
  · have := (vecFault_zero hv).1; omega
  · rw [hv]; simp
theorem msg_bounds {x : DMsg} (h : msgFault x = 0) : x.write.vec.length ≤ 10000000 := by
  unfold msgFault at h
  split at h
  · simp at h
  · rename_i h1
    split at h
    · simp at h
    · split at h
      · rename_i h3
        have h4 : noW x.write := Decidable.byContradiction fun q => h1 (Or.inr (Or.inr ⟨h3, q⟩))
        have := h4.2.2.2.2
        omega
      · obtain ⟨-, -, -, hk⟩ := writeFault_zero h
        rcases hk with ⟨-, hv⟩ | ⟨-, hv⟩
        · have := (vecFault_zero hv).1; omega
        · rw [hv]; simp
end Go.Proofs.Ythpbdafhjakekaa
