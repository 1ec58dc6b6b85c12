/-
  A vector's text, cut at its commas and read piece by piece, is what the machine reads.
  No program is named here.
-/
import Derived.Test.YtjfplfhdfiebgaaDoorNumPlain
import Derived.Test.YtjfplfhdfiebgaaDoorTabGround
namespace Go.Proofs.YtjfplfhdfiebgaaDoor

theorem dec_neg {n : Int} (h : n < 0) : dec n = 45 :: decF 4 n.natAbs := by simp [dec, h]
theorem dec_pos {n : Int} (h : ¬ n < 0) : dec n = decF 4 n.toNat := by simp [dec, h]

theorem decF_one {d : Bytes} {n : Nat} (h : allDig d = true) (hne : d ≠ []) (h0 : ∀ c r, d = c :: r → c.toNat ≠ 48) (hv : dval 0 d = n) (hn : n ≤ 9999) : decF 4 n = d :=
  decF_of 3 d n h hne (fun c r e _ => h0 c r e) hv (by omega)

/-- What the machine reads as a part is that part's text. -/
theorem rpart_some {l r : Bytes} {v : Int} (h : rpart l = some (v, r)) : l = dec v ++ r ∧ -1000 ≤ v ∧ v ≤ 1000 := by
  have uns : ∀ (σ : Int) (l : Bytes) (v : Int), (σ = 1 ∨ σ = -1) → unsgn σ l = some (v, r) → ∃ n : Nat, l = decF 4 n ++ r ∧ n ≤ 1000 ∧ v = σ * n ∧ (σ = -1 → 1 ≤ n) := by
    intro σ l v hσ h
    cases l with
    | nil => simp [unsgn] at h
    | cons c l =>
      simp only [unsgn] at h
      by_cases hd : isDig c = true
      · simp only [hd, if_true] at h
        by_cases h48 : c.toNat = 48
        · simp only [h48, if_true] at h
          by_cases hs : σ < 0
          · simp [hs] at h
          · simp only [hs, if_false] at h
            simp at h
            obtain ⟨rfl, rfl⟩ := h
            refine ⟨0, ?_, by omega, by simp, fun e => by omega⟩
            have : dch 0 = c := by
              apply UInt8.toNat_inj.1
              rw [dch_nat 0 (by omega), h48]
            simp [decF, this]
        · simp only [h48, if_false] at h
          cases hg : digs 0 (c :: l) with
          | none => simp [hg] at h
          | some q =>
            obtain ⟨m, r'⟩ := q
            simp only [hg, Option.map_some, Option.some.injEq, Prod.mk.injEq] at h
            obtain ⟨rfl, rfl⟩ := h
            obtain ⟨ds, e1, e2, e3, e4, e5, e6⟩ := digs_some (c :: l) 0 m r' (by omega) hd hg
            have hm : 0 ≤ m := by have := dval_ge 0 (by omega) ds e3; omega
            obtain ⟨n, rfl⟩ := Int.eq_ofNat_of_zero_le hm
            have hc : ∀ c' r'', ds = c' :: r'' → c'.toNat ≠ 48 := by
              intro c' r'' he
              rw [he] at e1
              simp at e1
              rw [← e1.1]
              exact h48
            refine ⟨n, ?_, by omega, rfl, fun _ => ?_⟩
            · rw [decF_one e3 e2 hc e4 (by omega)]
              exact e1
            · cases ds with
              | nil => exact absurd rfl e2
              | cons c' ds' =>
                have h1 := hc c' ds' rfl
                simp only [allDig, Bool.and_eq_true] at e3
                have h2 := isDig_bd e3.1
                have h3 := dval_ge (0 * 10 + ((c'.toNat : Int) - 48)) (by omega) ds' e3.2
                simp only [dval] at e4
                omega
      · simp [hd] at h
  cases l with
  | nil => simp [rpart] at h
  | cons c l =>
    simp only [rpart] at h
    by_cases h45 : c.toNat = 45
    · simp only [h45, if_true] at h
      obtain ⟨n, e1, e2, e3, e4⟩ := uns (-1) l v (Or.inr rfl) h
      have h1 := e4 rfl
      have hneg : v < 0 := by omega
      have hc : c = 45 := UInt8.toNat_inj.1 (by rw [h45]; rfl)
      rw [dec_neg hneg, show v.natAbs = n by omega, e1, hc]
      exact ⟨rfl, by omega, by omega⟩
    · simp only [h45, if_false] at h
      obtain ⟨n, e1, e2, e3, _⟩ := uns 1 (c :: l) v (Or.inl rfl) h
      rw [dec_pos (by omega), show v.toNat = n by omega, e1]
      exact ⟨rfl, by omega, by omega⟩

/-- A part's text is read as that part. -/
theorem rpart_dec {v : Int} (h1 : -1000 ≤ v) (h2 : v ≤ 1000) {r : Bytes} (hr : headDig r = false) : rpart (dec v ++ r) = some (v, r) := by
  have uns : ∀ (σ : Int) (n : Nat), n ≤ 1000 → (σ = 1 ∨ (σ = -1 ∧ 1 ≤ n)) → unsgn σ (decF 4 n ++ r) = some (σ * n, r) := by
    intro σ n hn hσ
    obtain ⟨f1, f2, f3, f4⟩ := decF_facts 3 n (by omega)
    cases hd : decF 4 n with
    | nil => exact absurd hd f2
    | cons c ds =>
      rw [hd] at f1 f3
      have hc : isDig c = true := by
        simp only [allDig, Bool.and_eq_true] at f1
        exact f1.1
      simp only [List.cons_append, unsgn, hc, if_true]
      by_cases h0 : n = 0
      · subst h0
        have e : decF 4 0 = [dch 0] := rfl
        rw [e] at hd
        simp at hd
        obtain ⟨rfl, rfl⟩ := hd
        have : (dch 0).toNat = 48 := rfl
        have hs : ¬ σ < 0 := by omega
        simp [this, hs]
      · have h48 := f4 (by omega) c ds hd
        have hg := digs_app (c :: ds) r 0 (by omega) f1 (by simp) hr
        rw [f3, if_neg (by omega)] at hg
        simp only [List.cons_append] at hg
        simp only [h48, if_false, hg, Option.map_some]
  by_cases hv : v < 0
  · rw [dec_neg hv]
    have h := uns (-1) v.natAbs (by omega) (Or.inr ⟨rfl, by omega⟩)
    simp only [List.cons_append, rpart]
    have : (45 : UInt8).toNat = 45 := rfl
    simp only [this, if_true, h, Option.some.injEq, Prod.mk.injEq, and_true]
    omega
  · rw [dec_pos hv]
    have h := uns 1 v.toNat (by omega) (Or.inl rfl)
    obtain ⟨f1, f2, f3, f4⟩ := decF_facts 3 v.toNat (by omega)
    cases hd : decF 4 v.toNat with
    | nil => exact absurd hd f2
    | cons c ds =>
      rw [hd] at h f1
      have hc : isDig c = true := by
        simp only [allDig, Bool.and_eq_true] at f1
        exact f1.1
      have hb := isDig_bd hc
      have h45 : ¬ c.toNat = 45 := by omega
      simp only [List.cons_append, rpart, h45, if_false]
      rw [List.cons_append] at h
      rw [h]
      simp only [Option.some.injEq, Prod.mk.injEq, and_true]
      omega

/-- The machine's answer: three texts with commas between. -/
theorem PP_some {l : Bytes} {x y z : Int} (h : PP 3 (0, 0, 0) l = some (x, y, z)) : l = dec x ++ (44 :: (dec y ++ (44 :: dec z))) ∧ (-1000 ≤ x ∧ x ≤ 1000) ∧ (-1000 ≤ y ∧ y ≤ 1000) ∧ (-1000 ≤ z ∧ z ≤ 1000) := by
  rw [show (3 : Nat) = 3 - 0 from rfl, PP_eq 0 (by omega)] at h
  cases h0 : rpart l with
  | none => simp [h0] at h
  | some q0 =>
    obtain ⟨v0, r0⟩ := q0
    simp only [h0, EE] at h
    obtain ⟨e0, b0⟩ := rpart_some h0
    cases r0 with
    | nil => simp at h
    | cons c0 r0 =>
      simp only [show ¬ (0 = 2) by omega, if_false] at h
      by_cases k0 : c0.toNat = 44
      · simp only [k0, if_true] at h
        rw [show (2 - 0 : Nat) = 3 - 1 from rfl, PP_eq 1 (by omega)] at h
        cases h1 : rpart r0 with
        | none => simp [h1] at h
        | some q1 =>
          obtain ⟨v1, r1⟩ := q1
          simp only [h1, EE] at h
          obtain ⟨e1, b1⟩ := rpart_some h1
          cases r1 with
          | nil => simp at h
          | cons c1 r1 =>
            simp only [show ¬ (1 = 2) by omega, if_false] at h
            by_cases k1 : c1.toNat = 44
            · simp only [k1, if_true] at h
              rw [show (2 - 1 : Nat) = 3 - 2 from rfl, PP_eq 2 (by omega)] at h
              cases h2 : rpart r1 with
              | none => simp [h2] at h
              | some q2 =>
                obtain ⟨v2, r2⟩ := q2
                simp only [h2, EE] at h
                obtain ⟨e2, b2⟩ := rpart_some h2
                cases r2 with
                | cons c2 r2 => simp [fin3] at h
                | nil =>
                  simp [fin3, setAt] at h
                  obtain ⟨rfl, rfl, rfl⟩ := h
                  have hc0 : c0 = 44 := UInt8.toNat_inj.1 (by rw [k0]; rfl)
                  have hc1 : c1 = 44 := UInt8.toNat_inj.1 (by rw [k1]; rfl)
                  refine ⟨?_, b0, b1, b2⟩
                  rw [e0, e1, e2, hc0, hc1, List.append_nil]
            · simp [k1] at h
      · simp [k0] at h

theorem PP_dec {x y z : Int} (hx : -1000 ≤ x ∧ x ≤ 1000) (hy : -1000 ≤ y ∧ y ≤ 1000) (hz : -1000 ≤ z ∧ z ≤ 1000) : PP 3 (0, 0, 0) (dec x ++ (44 :: (dec y ++ (44 :: dec z)))) = some (x, y, z) := by
  have h44 : ∀ r : Bytes, headDig (44 :: r) = false := fun _ => rfl
  have k44 : (44 : UInt8).toNat = 44 := rfl
  have hz' := rpart_dec hz.1 hz.2 (r := []) rfl
  rw [List.append_nil] at hz'
  rw [show (3 : Nat) = 3 - 0 from rfl, PP_eq 0 (by omega), rpart_dec hx.1 hx.2 (h44 _)]
  simp only [EE, show ¬ (0 = 2) by omega, if_false, k44, if_true]
  rw [show (2 - 0 : Nat) = 3 - 1 from rfl, PP_eq 1 (by omega), rpart_dec hy.1 hy.2 (h44 _)]
  simp only [EE, show ¬ (1 = 2) by omega, if_false, k44, if_true]
  rw [show (2 - 1 : Nat) = 3 - 2 from rfl, PP_eq 2 (by omega), hz']
  simp [EE, fin3, setAt]

end Go.Proofs.YtjfplfhdfiebgaaDoor
