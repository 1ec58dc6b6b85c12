/-
  The write that the model reads from words has these words as its text: the model's last question is always answered with yes.
  No program is named here.
-/
import Derived.Test.YtjfplfhdfiebgaaDoorSpecPW
import Derived.Test.YtjfplfhdfiebgaaDoorCutJoin
namespace Go.Proofs.YtjfplfhdfiebgaaDoor

theorem tail_parts {k : Int} {zs : List Int} {a b c : Bytes} (h : tailOk k zs a b c = true) : dec (numR a).1 = a ∧ dec (numR b).1 = b ∧ dec (numR c).1 = c ∧ writeFault k (numR a).1 zs (numR b).1 (numR c).1 = 0 := by
  unfold tailOk at h
  simp only [Bool.and_eq_true, beq_iff_eq] at h
  exact ⟨numR_true h.1.1.1, numR_true h.1.1.2, numR_true h.1.2, h.2⟩

theorem modelP_text {l : Bytes} {zs : List Int} (h : modelP l = some zs) : vecText zs = l := by
  rw [modelP_eq] at h
  cases hp : PP 3 (0, 0, 0) l with
  | none => rw [hp] at h; cases h
  | some t =>
    obtain ⟨x, y, z⟩ := t
    rw [hp] at h
    obtain rfl : [x, y, z] = zs := by simpa using h
    obtain ⟨e, bx, bY, bz⟩ := PP_some hp
    rw [vecText, if_pos (fault3_zero bx bY bz), e]
    simp [text3]

theorem readM_text {l : List Bytes} {x : DWrite} (h : readM l = some x) : writeText x.kind x.id x.vec x.session x.seq = joinS l := by
  unfold readM at h
  split at h
  · next c0 c1 c2 c3 c4 c5 =>
    unfold readPut at h
    split at h
    · next hc =>
      obtain ⟨rfl, rfl⟩ := hc
      split at h
      · cases h
      · next zs hm =>
        split at h
        · next ht =>
          cases h
          obtain ⟨e1, e2, e3, hf⟩ := tail_parts ht
          show writeText 1 (numR c1).1 zs (numR c4).1 (numR c5).1 = _
          rw [writeText, if_pos hf, writeTail, writeHead, if_pos rfl, modelP_text hm, e1, e2, e3]
          simp [joinS]
        · cases h
    · cases h
  · next c0 c1 c2 c3 c4 =>
    unfold readDrop at h
    split at h
    · next hc =>
      obtain ⟨rfl, rfl⟩ := hc
      split at h
      · next ht =>
        cases h
        obtain ⟨e1, e2, e3, hf⟩ := tail_parts ht
        show writeText 2 (numR c1).1 [] (numR c3).1 (numR c4).1 = _
        rw [writeText, if_pos hf, writeTail, writeHead, if_neg (by omega), e1, e2, e3]
        simp [joinS]
      · cases h
    · cases h
  · cases h

/-- What the model's ParseWrite tells, without its question for the text. -/
theorem parseM_eq (l : Bytes) : parseM l = match readM (cutS [] l) with | none => ⟨5, zeroW⟩ | some x => ⟨0, x⟩ := by
  unfold parseM
  cases h : readM (cutS [] l) with
  | none => rfl
  | some x =>
    have ht := readM_text h
    rw [cutS_join] at ht
    exact if_pos ht

end Go.Proofs.YtjfplfhdfiebgaaDoor
