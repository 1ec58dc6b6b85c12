/-
  What the program reads as a write is what the model reads, in plain words.
  No program is named here.
-/
import Derived.Test.YtjfplfhdfiebgaaDoorReadText
import Derived.Test.YtjfplfhdfiebgaaDoorReadNPlain
namespace Go.Proofs.YtjfplfhdfiebgaaDoor
open Go.RowKit

def tailI (k : Int) (zs : List Int) (a b c : Bytes) : Bool := ((readN 3 a).2 && (readN 1 b).2 && (readN 3 c).2) && (writeFault k (readN 3 a).1 zs (readN 1 b).1 (readN 3 c).1 == 0)
def tailX (k : Int) (zs : List Int) (a b c : Bytes) : DWrite := ⟨k, (readN 3 a).1, zs, (readN 1 b).1, (readN 3 c).1⟩
def readI : List Bytes → Option DWrite
  | [c0, c1, c2, c3, c4, c5] => if c0 = [112, 117, 116] ∧ c3 = [98, 121] then (match PP 3 (0, 0, 0) c2 with | none => none | some t => if tailI 1 [t.1, t.2.1, t.2.2] c1 c4 c5 = true then some (tailX 1 [t.1, t.2.1, t.2.2] c1 c4 c5) else none) else none
  | [c0, c1, c2, c3, c4] => if c0 = [100, 114, 111, 112] ∧ c2 = [98, 121] then (if tailI 2 [] c1 c3 c4 = true then some (tailX 2 [] c1 c3 c4) else none) else none
  | _ => none
theorem readN_numR {d : Nat} {a : Bytes} (hd : d ≤ 4) (h : (readN d a).2 = true) (h1 : 1 ≤ (readN d a).1) (h2 : (readN d a).1 ≤ 999) : numR a = ((readN d a).1, true) := by
  obtain ⟨e, -, -⟩ := readN_sound (v := (readN d a).1) hd (by rw [← h])
  have := numR_dec (v := (readN d a).1) (by omega) (by omega)
  rwa [e] at this
theorem numR_readN {k : Nat} {a : Bytes} (h : (numR a).2 = true) (h1 : 1 ≤ (numR a).1) (h2 : (numR a).1.toNat < 10 ^ (k + 1)) (h3 : (numR a).1 ≤ 9999) : readN (k + 1) a = ((numR a).1, true) := by
  have e := numR_true h
  have := readN_dec (k := k) h1 h2 h3
  rwa [e] at this
theorem tail_same (k : Int) (zs : List Int) (a b c : Bytes) : (if tailI k zs a b c = true then some (tailX k zs a b c) else none) = (if tailOk k zs a b c = true then some (tailW k zs a b c) else none) := by
  by_cases hI : tailI k zs a b c = true
  · have h := hI
    unfold tailI at h
    simp only [Bool.and_eq_true, beq_iff_eq] at h
    obtain ⟨⟨⟨ha, hb⟩, hc⟩, hf⟩ := h
    obtain ⟨w1, w2, w3, -⟩ := writeFault_zero hf
    have ea := readN_numR (by decide) ha w1.1 w1.2
    have eb := readN_numR (by decide) hb w2.1 (by omega)
    have ec := readN_numR (by decide) hc w3.1 w3.2
    have hO : tailOk k zs a b c = true := by
      unfold tailOk
      rw [ea, eb, ec, hf]
      rfl
    rw [if_pos hI, if_pos hO, tailX, tailW, ea, eb, ec]
  · rw [if_neg hI]
    by_cases hO : tailOk k zs a b c = true
    · exfalso
      have h := hO
      unfold tailOk at h
      simp only [Bool.and_eq_true, beq_iff_eq] at h
      obtain ⟨⟨⟨ha, hb⟩, hc⟩, hf⟩ := h
      obtain ⟨w1, w2, w3, -⟩ := writeFault_zero hf
      have ea := numR_readN (k := 2) ha w1.1 (by omega) (by omega)
      have eb := numR_readN (k := 0) hb w2.1 (by omega) (by omega)
      have ec := numR_readN (k := 2) hc w3.1 (by omega) (by omega)
      apply hI
      unfold tailI
      rw [ea, eb, ec, hf]
      rfl
    · rw [if_neg hO]
theorem readI_eq (l : List Bytes) : readI l = readM l := by
  unfold readI
  split
  · rename_i c0 c1 c2 c3 c4 c5
    show _ = readPut c0 c1 c2 c3 c4 c5
    unfold readPut
    by_cases hc : c0 = [112, 117, 116] ∧ c3 = [98, 121]
    · rw [if_pos hc, if_pos hc, modelP_eq]
      cases PP 3 (0, 0, 0) c2 with
      | none => rfl
      | some t => exact tail_same 1 [t.1, t.2.1, t.2.2] c1 c4 c5
    · rw [if_neg hc, if_neg hc]
  · rename_i c0 c1 c2 c3 c4
    show _ = readDrop c0 c1 c2 c3 c4
    unfold readDrop
    by_cases hc : c0 = [100, 114, 111, 112] ∧ c2 = [98, 121]
    · rw [if_pos hc, if_pos hc]
      exact tail_same 2 [] c1 c3 c4
    · rw [if_neg hc, if_neg hc]
  · rename_i h1 h2
    unfold readM
    split
    · exact absurd rfl (h1 _ _ _ _ _ _)
    · exact absurd rfl (h2 _ _ _ _ _)
    · rfl

end Go.Proofs.YtjfplfhdfiebgaaDoor
