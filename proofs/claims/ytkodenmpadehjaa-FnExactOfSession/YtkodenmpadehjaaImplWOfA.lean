/-
  writeOf of the program, for a write without a fault: the write in new memory; nothing old is written.
  No condition.
-/
import Derived.Test.YtkodenmpadehjaaImplWOf
import Derived.Test.YtkodenmpadehjaaTabGround
import Derived.Test.YtkodenmpadehjaaApplyPlain
namespace Go.Proofs.Ytkodenmpadehjaa
open Go.RowKit

theorem writeOfC (x : DWrite) (w : World) (hf : wF x = 0) :
    Calls Try.prog 45 #[deedV x.kind x.vec, .int .i64 x.id, .int .i64 x.session, .int .i64 x.seq] w fun e w' => ∃ cs, e = .returned (.agg cs.toArray) ∧ Lay.tWrite.OwnIn w' cs x w.heap.size w'.heap.size ∧ Below w.heap.size w w' := by
  obtain ⟨kd, id, vec, ss, sq⟩ := x
  obtain ⟨hi, hs, hq, hk⟩ := writeFault_zero hf
  simp only at hi hs hq hk
  have w1 : (Lit.int .i64 id).wf = true := wf_of_bd (by omega)
  have w3 : (Lit.int .i64 ss).wf = true := wf_of_bd (by omega)
  have w4 : (Lit.int .i64 sq).wf = true := wf_of_bd (by omega)
  rcases hk with ⟨rfl, hv⟩ | ⟨rfl, hv⟩
  · obtain ⟨hl, hb⟩ := vecFault_zero hv
    match vec, hl with
    | [p, q, r], _ =>
      refine (writeOf_put p q r id ss sq w).mono ?_
      rintro e w' ⟨a, c, rfl, hO, hb2⟩
      have hO2 := Lay.ownInts (zs := [p, q, r]) (fun z hz => wf_of_bd (by have h0 := hb 0 (by decide); have h1 := hb 1 (by decide); have h2 := hb 2 (by decide); simp at h0 h1 h2 hz; omega)) (by simp) hO
      obtain ⟨bl, O, hr⟩ := hO2
      exact ⟨_, rfl, ⟨bl, mkOwn_Write (x := ⟨1, id, [p, q, r], ss, sq⟩) O (show (Lit.int .i64 1).wf = true by decide) w1 w3 w4 O.2.1, hr⟩, hb2⟩
  · subst hv
    refine (writeOf_drop id ss sq w).mono ?_
    rintro e w' ⟨rfl, hb2⟩
    exact ⟨_, rfl, ⟨[], mkOwn_Write (x := ⟨2, id, [], ss, sq⟩) (c2 := [.slice none 0 0]) ⟨⟨none, 0, rfl, by simp, Or.inl ⟨rfl, rfl⟩⟩, by simp, by simp⟩ (show (Lit.int .i64 2).wf = true by decide) w1 w3 w4 (by simp), by simp⟩, hb2⟩

end Go.Proofs.Ytkodenmpadehjaa
