/-
  What LastSeq, SeenAt and OfSession tell, in plain words.
  No program is named here.
-/
import Derived.Test.YtkodenmpadehjaaSessPlain
import Derived.Test.YtkodenmpadehjaaLayIntResult
import Derived.Test.YtkodenmpadehjaaLayWritesResult
namespace Go.Proofs.Ytkodenmpadehjaa
open Go.RowKit

def lastR (ws : List DWrite) (s : Int) : DIntResult := if askedF ws s = 0 then ⟨0, lastI ws s⟩ else ⟨askedF ws s, 0⟩
def seenR (ws : List DWrite) (s q : Int) : DIntResult := if askedF ws s = 0 then (if 1 ≤ q ∧ q ≤ 999 then (if seenI ws s q = 0 then ⟨4, 0⟩ else ⟨0, seenI ws s q⟩) else ⟨3, 0⟩) else ⟨askedF ws s, 0⟩
def ofL (ws : List DWrite) (s : Int) : List DWrite := ws.filter fun x => decide (x.session = s)
def ofR (ws : List DWrite) (s : Int) : DWritesResult := if askedF ws s = 0 then ⟨0, ofL ws s⟩ else ⟨askedF ws s, []⟩
theorem asked_bad {ws : List DWrite} (s : Int) (h : writesF ws ≠ 0) : askedF ws s = writesF ws := by rw [askedF, if_neg h]
theorem asked_out {ws : List DWrite} {s : Int} (h : writesF ws = 0) (hs : ¬ (1 ≤ s ∧ s ≤ 9)) : askedF ws s = 3 := by rw [askedF, if_pos h, if_neg hs]
theorem asked_ok {ws : List DWrite} {s : Int} (h : writesF ws = 0) (hs : 1 ≤ s ∧ s ≤ 9) : askedF ws s = 0 := by rw [askedF, if_pos h, if_pos hs]
theorem last_bd {ws : List DWrite} (s : Int) (h : writesF ws = 0) : 0 ≤ lastI ws s ∧ lastI ws s ≤ 999 := ⟨lastI_nonneg ws s, lastI_le ws s fun x hx => (wF_seq ((writesF_zero h).2 x hx)).2.2.2⟩
theorem dec9 {s : Int} (hs : 1 ≤ s ∧ s ≤ 9) : (decide (1 ≤ s) && decide (s ≤ 9)) = true := by simp [hs.1, hs.2]
theorem dec9n {s : Int} (hs : ¬ (1 ≤ s ∧ s ≤ 9)) : (decide (1 ≤ s) && decide (s ≤ 9)) = false := by
  rw [Bool.eq_false_iff]
  intro hb
  simp only [Bool.and_eq_true, decide_eq_true_eq] at hb
  exact hs hb
theorem dec999 {s : Int} (hs : 1 ≤ s ∧ s ≤ 999) : (decide (1 ≤ s) && decide (s ≤ 999)) = true := by simp [hs.1, hs.2]
theorem dec999n {s : Int} (hs : ¬ (1 ≤ s ∧ s ≤ 999)) : (decide (1 ≤ s) && decide (s ≤ 999)) = false := by
  rw [Bool.eq_false_iff]
  intro hb
  simp only [Bool.and_eq_true, decide_eq_true_eq] at hb
  exact hs hb
theorem own_IntR {w : World} {c z : Int} {lo hi : Nat} (hc : (Lit.int .i64 c).wf = true) (hz : (Lit.int .i64 z).wf = true) : Lay.tIntResult.OwnIn w [.int .i64 c, .int .i64 z] ⟨c, z⟩ lo hi :=
  ⟨[], ⟨lies_IntResult.2 ⟨rfl, rfl, hc, hz⟩, by simp, by simp⟩, by simp⟩
theorem wsF_wf (ws : List DWrite) : (Lit.int .i64 (writesF ws)).wf = true := by
  have : 0 ≤ writesF ws ∧ writesF ws ≤ 3 := by
    unfold writesF
    split
    · omega
    · induction ws with
      | nil => simp [wsFrom]
      | cons x xs ih =>
        rw [wsFrom]
        split
        · exact ih (by rename_i h _; simp only [List.length_cons] at h; omega)
        · exact wF_vals x
  exact wf_of_bd (by omega)

end Go.Proofs.Ytkodenmpadehjaa
