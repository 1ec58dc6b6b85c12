/-
  What strings.Split at a blank tells, in plain words: the words between the blanks.
  No program is named here.
-/
import Derived.Test.YtjfplfhdfiebgaaDoorCutSp
import Derived.Lib.SplitLaws
namespace Go.Proofs.YtjfplfhdfiebgaaDoor
open Go.RowKit

theorem index_blank : ∀ l : List UInt8, (Lib.index l [32] = -1 ∧ l.count 32 = 0) ∨ ∃ i : Nat, Lib.index l [32] = i ∧ i < l.length ∧ l.count 32 = (l.drop (i + 1)).count 32 + 1
  | [] => Or.inl ⟨rfl, rfl⟩
  | c :: r => by
    by_cases h : c = 32
    · subst h
      exact Or.inr ⟨0, by simp [Lib.index], by simp, by simp⟩
    · have hp : ([32] : List UInt8).isPrefixOf (c :: r) = false := by
        simp [List.isPrefixOf]
        exact fun e => h e.symm
      rcases index_blank r with ⟨h1, h2⟩ | ⟨i, h1, h2, h3⟩
      · exact Or.inl ⟨by simp [Lib.index, hp, h1], by simp [h2, h]⟩
      · refine Or.inr ⟨i + 1, ?_, by simp; omega, ?_⟩
        · have : ¬ (Lib.index r [32] == -1) = true := fun e => by have := beq_iff_eq.1 e; omega
          simp only [Lib.index, hp]
          rw [if_neg (by simp), if_neg this, h1]
          simp
        · rw [List.count_cons_of_ne h]
          simpa using h3
theorem cutS_index : ∀ (l acc : List UInt8), cutS acc l = if Lib.index l [32] = -1 then [acc ++ l] else (acc ++ l.take (Lib.index l [32]).toNat) :: cutS [] (l.drop ((Lib.index l [32]).toNat + 1))
  | [], acc => by simp [cutS, Lib.index]
  | c :: r, acc => by
    by_cases h : c = 32
    · subst h
      have : Lib.index ((32 : UInt8) :: r) [32] = 0 := by simp [Lib.index]
      rw [this, if_neg (by decide), cutS, if_pos (by decide)]
      simp
    · have hn : ¬ c.toNat = 32 := fun e => h (by apply UInt8.toNat_inj.1; simpa using e)
      have hp : ([32] : List UInt8).isPrefixOf (c :: r) = false := by
        simp [List.isPrefixOf]
        exact fun e => h e.symm
      rw [cutS, if_neg hn, cutS_index r (acc ++ [c])]
      by_cases h1 : Lib.index r [32] = -1
      · have : Lib.index (c :: r) [32] = -1 := by simp [Lib.index, hp, h1]
        rw [if_pos h1, if_pos this]
        simp
      · have hge := Lib.index_ge r [32]
        have : Lib.index (c :: r) [32] = Lib.index r [32] + 1 := by
          have hb : ¬ (Lib.index r [32] == -1) = true := fun e => h1 (beq_iff_eq.1 e)
          simp only [Lib.index, hp]
          rw [if_neg (by simp), if_neg hb]
        rw [if_neg h1, if_neg (by omega), this]
        obtain ⟨i, hi⟩ := Int.eq_ofNat_of_zero_le (show 0 ≤ Lib.index r [32] by omega)
        rw [hi]
        simp
theorem splitK_blank : ∀ (k : Nat) (l : List UInt8), l.count 32 ≤ k → Lib.splitK [32] 0 k l = cutS [] l
  | 0, l, h => by
    rcases index_blank l with ⟨h1, -⟩ | ⟨i, -, -, h3⟩
    · rw [cutS_index, if_pos h1]; rfl
    · omega
  | k + 1, l, h => by
    rw [cutS_index, Lib.splitK]
    rcases index_blank l with ⟨h1, -⟩ | ⟨i, h1, h2, h3⟩
    · rw [if_pos (by rw [h1]; rfl), if_pos h1]; rfl
    · have hb : ¬ (Lib.index l [32] == -1) = true := fun e => by have := beq_iff_eq.1 e; omega
      rw [if_neg hb, if_neg (by omega), h1]
      have := splitK_blank k (l.drop (i + 1)) (by omega)
      simp only [Int.toNat_natCast, Nat.add_zero, List.nil_append, List.length_singleton]
      rw [this]
theorem split_words (s : ByteArray) : (Lib.splitB ⟨#[32]⟩ 0 (Lib.countB s ⟨#[32]⟩) s).map (·.data.toList) = cutS [] s.data.toList := by
  rw [Lib.splitB_data]
  refine splitK_blank _ _ ?_
  show _ ≤ Lib.count s.data.toList [32]
  rw [Lib.count_one]
  exact Nat.le_refl _

end Go.Proofs.YtjfplfhdfiebgaaDoor
