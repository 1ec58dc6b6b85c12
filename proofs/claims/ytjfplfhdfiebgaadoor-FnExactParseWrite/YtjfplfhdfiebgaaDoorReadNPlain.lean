/-
  A number that the program reads is one that is written so.
  No program is named here.
-/
import Derived.Test.YtjfplfhdfiebgaaDoorImplNum
namespace Go.Proofs.YtjfplfhdfiebgaaDoor

theorem readN_sound {d : Nat} {l : Bytes} {v : Int} (hd : d ≤ 4) (h : readN d l = (v, true)) : dec v = l ∧ 0 ≤ v ∧ v ≤ 9999 := by
  unfold readN at h
  split at h
  · simp at h
  next h0 =>
  split at h
  · simp at h
  next h1 =>
  split at h
  · simp at h
  next h2 =>
  split at h
  · next h3 =>
    obtain rfl : dval 0 l = v := by simpa using h
    have hb := dval_lt l h3 (by omega)
    refine ⟨?_, hb⟩
    rw [dec_pos (by omega)]
    refine decF_of 3 l _ h3 (fun e => h0 (by rw [e]; rfl)) ?_ (by omega) (by omega)
    intro c r e hr hc
    refine h2 ⟨?_, ?_⟩
    · rw [e]
      cases r with
      | nil => exact absurd rfl hr
      | cons a b => simp
    · rw [e]
      simp only [List.head?_cons, Option.some.injEq]
      exact UInt8.toNat_inj.1 hc
  · simp at h

theorem decF_short (k : Nat) : ∀ (f n : Nat), n < 10 ^ (k + 1) → (decF f n).length ≤ k + 1 := by
  induction k with
  | zero =>
    intro f n h
    cases f with
    | zero => simp [decF]
    | succ f => rw [decF, if_pos (by omega)]; simp
  | succ k ih =>
    intro f n h
    cases f with
    | zero => simp [decF]
    | succ f =>
      rw [decF]
      split
      · simp
      · have := ih f (n / 10) (by rw [Nat.pow_succ] at h; omega)
        simp
        omega

theorem readN_dec {k : Nat} {v : Int} (h1 : 1 ≤ v) (h2 : v.toNat < 10 ^ (k + 1)) (h3 : v ≤ 9999) : readN (k + 1) (dec v) = (v, true) := by
  obtain ⟨f1, f2, f3, f4⟩ := decF_facts 3 v.toNat (by omega)
  have hl := decF_short k 4 v.toNat h2
  rw [dec_pos (by omega)]
  unfold readN
  rw [if_neg (fun h => f2 (List.eq_nil_of_length_eq_zero h)), if_neg (by omega), if_neg ?_, if_pos f1, f3]
  · congr 1
    omega
  · rintro ⟨-, h⟩
    cases hc : decF 4 v.toNat with
    | nil => exact f2 hc
    | cons c r =>
      rw [hc] at h
      simp only [List.head?_cons, Option.some.injEq] at h
      exact f4 (by omega) c r hc (by rw [h]; rfl)

end Go.Proofs.YtjfplfhdfiebgaaDoor
