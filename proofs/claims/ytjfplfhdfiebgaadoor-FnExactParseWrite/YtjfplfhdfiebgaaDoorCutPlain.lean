/-
  The model's way to read a vector's text, as plain functions: cut at commas, each piece a number that is written so; and that it reads what the machine reads.
  No program is named here.
-/
import Derived.Test.YtjfplfhdfiebgaaDoorParsePlain
namespace Go.Proofs.YtjfplfhdfiebgaaDoor

/-- Cut at each 44; acc: what stands ahead in this piece. -/
def cutA (acc : Bytes) : Bytes → List Bytes
  | [] => [acc]
  | c :: r => if c.toNat = 44 then acc :: cutA [] r else cutA (acc ++ [c]) r

/-- The minus ahead, and what is behind it. -/
def isNeg : Bytes → Bool
  | [] => false
  | c :: _ => decide (c.toNat = 45)
def bodyOf (l : Bytes) : Bytes := if isNeg l then l.tail else l
def signed (l : Bytes) (n : Int) : Int := if isNeg l then -n else n
/-- A piece as a number, and whether it is written so. -/
def numR (l : Bytes) : Int × Bool :=
  if (bodyOf l).length < 1 ∨ 4 < (bodyOf l).length then (0, false)
  else if allDig (bodyOf l) then (signed l (dval 0 (bodyOf l)), decide (dec (signed l (dval 0 (bodyOf l))) = l)) else (0, false)

theorem numR_true {l : Bytes} (h : (numR l).2 = true) : dec (numR l).1 = l := by
  unfold numR at h ⊢
  split at h
  · simp at h
  · next h1 =>
    split at h
    · next h2 =>
      rw [if_neg h1, if_pos h2]
      simpa using h
    · simp at h

theorem numR_dec {v : Int} (h1 : -1000 ≤ v) (h2 : v ≤ 1000) : numR (dec v) = (v, true) := by
  by_cases hv : v < 0
  · obtain ⟨f1, f2, f3, f4⟩ := decF_facts 3 v.natAbs (by omega)
    have hl := decF_len 4 v.natAbs
    have hn : isNeg (dec v) = true := by rw [dec_neg hv]; rfl
    have hb : bodyOf (dec v) = decF 4 v.natAbs := by unfold bodyOf; rw [hn, if_pos rfl, dec_neg hv]; rfl
    have hne : 1 ≤ (decF 4 v.natAbs).length := by cases h : decF 4 v.natAbs with | nil => exact absurd h f2 | cons c r => simp
    have hs : signed (dec v) (dval 0 (decF 4 v.natAbs)) = v := by unfold signed; rw [hn, if_pos rfl, f3]; omega
    unfold numR
    rw [hb, if_neg (by omega), if_pos f1, hs]
    simp
  · obtain ⟨f1, f2, f3, f4⟩ := decF_facts 3 v.toNat (by omega)
    have hl := decF_len 4 v.toNat
    have hn : isNeg (dec v) = false := by
      rw [dec_pos hv]
      cases h : decF 4 v.toNat with
      | nil => rfl
      | cons c r =>
        rw [h] at f1
        simp only [allDig, Bool.and_eq_true] at f1
        have := isDig_bd f1.1
        simp [isNeg]
        omega
    have hb : bodyOf (dec v) = decF 4 v.toNat := by unfold bodyOf; rw [hn, dec_pos hv]; rfl
    have hne : 1 ≤ (decF 4 v.toNat).length := by cases h : decF 4 v.toNat with | nil => exact absurd h f2 | cons c r => simp
    have hs : signed (dec v) (dval 0 (decF 4 v.toNat)) = v := by unfold signed; rw [hn]; simp [f3]; omega
    unfold numR
    rw [hb, if_neg (by omega), if_pos f1, hs]
    simp

theorem cutA_append (p acc r : Bytes) (h : ∀ c ∈ p, c.toNat ≠ 44) : cutA acc (p ++ r) = cutA (acc ++ p) r := by
  induction p generalizing acc with
  | nil => simp
  | cons c p ih =>
    have hc := h c (by simp)
    rw [List.cons_append, cutA, if_neg hc, ih (acc ++ [c]) (fun d hd => h d (by simp [hd]))]
    simp

theorem allDig_no {l : Bytes} (h : allDig l = true) : ∀ c ∈ l, c.toNat ≠ 44 := by
  induction l with
  | nil => simp
  | cons c l ih =>
    simp only [allDig, Bool.and_eq_true] at h
    have hb := isDig_bd h.1
    intro d hd
    rcases List.mem_cons.1 hd with rfl | hd
    · omega
    · exact ih h.2 d hd

theorem dec_no {v : Int} (h1 : -1000 ≤ v) (h2 : v ≤ 1000) : ∀ c ∈ dec v, c.toNat ≠ 44 := by
  by_cases hv : v < 0
  · rw [dec_neg hv]
    intro c hc
    rcases List.mem_cons.1 hc with rfl | hc
    · decide
    · exact allDig_no (decF_facts 3 v.natAbs (by omega)).1 c hc
  · rw [dec_pos hv]
    exact allDig_no (decF_facts 3 v.toNat (by omega)).1

/-- A text is its pieces with commas between. -/
def glue : List Bytes → Bytes
  | [] => []
  | [p] => p
  | p :: ps => p ++ (44 :: glue ps)
theorem cutA_ne (acc l : Bytes) : cutA acc l ≠ [] := by
  induction l generalizing acc with
  | nil => simp [cutA]
  | cons c l ih =>
    unfold cutA
    split
    · simp
    · exact ih _
theorem glue_cons (p : Bytes) {ps : List Bytes} (h : ps ≠ []) : glue (p :: ps) = p ++ (44 :: glue ps) := by
  cases ps with
  | nil => exact absurd rfl h
  | cons q ps => rfl
theorem glue_cut (acc l : Bytes) : glue (cutA acc l) = acc ++ l := by
  induction l generalizing acc with
  | nil => simp [cutA, glue]
  | cons c l ih =>
    unfold cutA
    split
    · next h =>
      have hc : c = 44 := UInt8.toNat_inj.1 (by rw [h]; rfl)
      rw [glue_cons _ (cutA_ne _ _), ih, hc]
      simp
    · rw [ih]
      simp

/-- The pieces as numbers, if all are written so and are a vector. -/
def modelP (l : Bytes) : Option (List Int) :=
  if (cutA [] l).all (fun p => (numR p).2) ∧ vecFault ((cutA [] l).map fun p => (numR p).1) = 0 then some ((cutA [] l).map fun p => (numR p).1) else none

theorem modelP_eq (l : Bytes) : modelP l = (PP 3 (0, 0, 0) l).map fun t => [t.1, t.2.1, t.2.2] := by
  cases h : PP 3 (0, 0, 0) l with
  | some t =>
    obtain ⟨x, y, z⟩ := t
    obtain ⟨rfl, hx, hy, hz⟩ := PP_some h
    have hcut : cutA [] (dec x ++ (44 :: (dec y ++ (44 :: dec z)))) = [dec x, dec y, dec z] := by
      have k44 : (44 : UInt8).toNat = 44 := rfl
      have e3 := cutA_append (dec z) [] [] (dec_no hz.1 hz.2)
      rw [List.append_nil] at e3
      rw [cutA_append _ _ _ (dec_no hx.1 hx.2), cutA, if_pos k44, cutA_append _ _ _ (dec_no hy.1 hy.2), cutA, if_pos k44, e3]
      simp [cutA]
    have n1 := numR_dec hx.1 hx.2
    have n2 := numR_dec hy.1 hy.2
    have n3 := numR_dec hz.1 hz.2
    have hv : vecFault [x, y, z] = 0 := by
      refine vecFault_ok rfl (fun j hj => ?_)
      rcases (show j = 0 ∨ j = 1 ∨ j = 2 by omega) with rfl | rfl | rfl
      · simp [partB, hx.1, hx.2]
      · simp [partB, hy.1, hy.2]
      · simp [partB, hz.1, hz.2]
    unfold modelP
    rw [hcut]
    simp [n1, n2, n3, hv]
  | none =>
    unfold modelP
    rw [if_neg]
    · rfl
    · rintro ⟨h1, h2⟩
      obtain ⟨h3, h4⟩ := vecFault_zero h2
      have hg := glue_cut [] l
      rw [List.nil_append] at hg
      match hc : cutA [] l, h3 with
      | [p, q, r], _ =>
        rw [hc] at h1 h4 hg
        simp only [List.all_cons, List.all_nil, Bool.and_true, Bool.and_eq_true] at h1
        have e1 := numR_true h1.1
        have e2 := numR_true h1.2.1
        have e3 := numR_true h1.2.2
        have b1 := h4 0 (by omega)
        have b2 := h4 1 (by omega)
        have b3 := h4 2 (by omega)
        simp at b1 b2 b3
        have := PP_dec b1 b2 b3
        rw [e1, e2, e3] at this
        have hl : p ++ (44 :: (q ++ (44 :: r))) = l := by rw [← hg]; rfl
        rw [hl, h] at this
        simp at this
      | [], h3 => simp at h3
      | [_], h3 => simp at h3
      | [_, _], h3 => simp at h3
      | _ :: _ :: _ :: _ :: _, h3 => simp at h3

end Go.Proofs.YtjfplfhdfiebgaaDoor
