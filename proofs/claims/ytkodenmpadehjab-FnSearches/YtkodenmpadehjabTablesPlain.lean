/-
  What is put into a table and dropped again, in plain words.
  No program is named here.
-/
import Derived.Test.YtkodenmpadehjabTabGround
namespace Go.Proofs.Ytkodenmpadehjab
open Go.RowKit

theorem rising_inj {xs : List DItem} (h : Rising xs) {x y : DItem} (hx : x ∈ xs) (hy : y ∈ xs) (e : x.id = y.id) : x = y := by
  induction xs with
  | nil => cases hx
  | cons z zs ih =>
    obtain ⟨h1, h2⟩ := List.pairwise_cons.1 h
    rcases List.mem_cons.1 hx with e1 | hx1 <;> rcases List.mem_cons.1 hy with e2 | hy1
    · rw [e1, e2]
    · have := h1 y hy1; rw [e1] at e; omega
    · have := h1 x hx1; rw [e2] at e; omega
    · exact ih h2 hx1 hy1
theorem find_rising {xs : List DItem} (h : Rising xs) {x : DItem} (hx : x ∈ xs) : xs.find? (fun y => y.id == x.id) = some x := by
  cases hf : xs.find? (fun y => y.id == x.id) with
  | none => exact absurd rfl (hasI_false (find_none hf) x hx)
  | some y =>
    obtain ⟨h1, h2⟩ := find_at hf
    rw [rising_inj h h1 hx h2]
theorem getI_in {xs : List DItem} (h : Right xs) {x : DItem} (hx : x ∈ xs) : getI xs x.id = ⟨0, x.vec⟩ := by
  obtain ⟨-, ha, hr⟩ := tableFault_zero h
  rw [getI, if_pos (show tableFault xs = 0 from h), if_pos (ha x hx).1, find_rising hr hx]
  rfl
theorem dropI_insI (x : DItem) (ds : List DItem) (h : ∀ y ∈ ds, y.id ≠ x.id) : dropI (insI x ds) x.id = ds := by
  induction ds with
  | nil => simp [insI, dropI]
  | cons y ys ih =>
    have hy := h y (by simp)
    rw [insI]
    split
    · rw [show dropI (x :: y :: ys) x.id = dropI (y :: ys) x.id by simp [dropI], dropI_none h]
    · rw [show dropI (y :: insI x ys) x.id = y :: dropI (insI x ys) x.id by simp [dropI, hy], ih fun z hz => h z (List.mem_cons_of_mem _ hz)]
theorem dropI_putI (xs : List DItem) (id : Int) (vec : List Int) : dropI (putI xs id vec) id = dropI xs id := dropI_insI ⟨id, vec⟩ (dropI xs id) fun _ hy => (mem_dropI.1 hy).2
theorem putI_again (xs : List DItem) (id : Int) (vec : List Int) : putI (putI xs id vec) id vec = putI xs id vec := by
  show insI ⟨id, vec⟩ (dropI (putI xs id vec) id) = insI ⟨id, vec⟩ (dropI xs id)
  rw [dropI_putI]
theorem putR_zero {xs : List DItem} {id : Int} {vec : List Int} (h : (putR xs id vec).code = 0) : Right xs ∧ idB id = true ∧ vecFault vec = 0 ∧ roomB xs id = true ∧ putR xs id vec = ⟨0, putI xs id vec⟩ := by
  unfold putR at h ⊢
  by_cases h1 : tableFault xs = 0
  · rw [if_pos h1] at h ⊢
    by_cases h2 : idB id = true
    · rw [if_pos h2] at h ⊢
      by_cases h3 : vecFault vec = 0
      · rw [if_pos h3] at h ⊢
        by_cases h4 : roomB xs id = true
        · rw [if_pos h4]
          exact ⟨h1, h2, h3, h4, rfl⟩
        · rw [if_neg h4] at h; cases h
      · rw [if_neg h3] at h; exact absurd h h3
    · rw [if_neg h2] at h; cases h
  · rw [if_neg h1] at h; exact absurd h h1
/-- All that the law of tables asks. -/
structure Tabled (xs : List DItem) (id : Int) (vec : List Int) (ys ds : List DItem) : Prop where
  right : tableFault ys = 0
  drop : dropR ys id = ⟨0, ds⟩
  get : getI ys id = ⟨0, vec⟩
  gone : (getI ds id).code = 4
  len : ds.length + 1 = ys.length
  again : putR ys id vec = ⟨0, ys⟩
  old : ∀ x ∈ xs, x.id ≠ id → getI ys x.id = ⟨0, x.vec⟩ ∧ getI ds x.id = ⟨0, x.vec⟩
theorem tabled {xs : List DItem} {id : Int} {vec : List Int} (h : (putR xs id vec).code = 0) : Tabled xs id vec (putI xs id vec) (dropI xs id) := by
  obtain ⟨h1, h2, h3, h4, -⟩ := putR_zero h
  have hR : Right (putI xs id vec) := right_put h1 h2 h3 (room_true h4)
  have hD : Right (dropI xs id) := right_drop h1 id
  have hm : (⟨id, vec⟩ : DItem) ∈ putI xs id vec := mem_putI.2 (Or.inl rfl)
  refine ⟨hR, ?_, getI_in hR hm, ?_, ?_, ?_, fun x hx hn => ⟨getI_in hR (mem_putI.2 (Or.inr ⟨hx, hn⟩)), getI_in hD (mem_dropI.2 ⟨hx, hn⟩)⟩⟩
  · rw [dropR, if_pos (show tableFault (putI xs id vec) = 0 from hR), if_pos h2, dropI_putI]
  · have hf : (dropI xs id).find? (fun x => x.id == id) = none := by
      rw [List.find?_eq_none]
      intro x hx
      simpa using (mem_dropI.1 hx).2
    rw [getI, if_pos (show tableFault (dropI xs id) = 0 from hD), if_pos h2, hf]
    rfl
  · rw [putI, insI_len]
  · have hh : hasI (putI xs id vec) id = true := by
      rw [hasI, List.any_eq_true]
      exact ⟨_, hm, by simp⟩
    rw [putR, if_pos (show tableFault (putI xs id vec) = 0 from hR), if_pos h2, if_pos h3, if_pos (by rw [roomB, hh]; rfl), putI_again]

end Go.Proofs.Ytkodenmpadehjab
