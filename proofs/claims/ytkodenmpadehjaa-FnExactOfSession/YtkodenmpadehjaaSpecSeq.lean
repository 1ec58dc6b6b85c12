/-
  LastSeq and SeenAt of the model: what they tell, in new memory; nothing old is written.
  No condition.
-/
import Derived.Test.YtkodenmpadehjaaSpecSeen
import Derived.Test.YtkodenmpadehjaaSeqPlain
namespace Go.Proofs.Ytkodenmpadehjaa
open Go.RowKit

theorem asked_len {ws : List DWrite} {s : Int} (hf : askedF ws s = 0) : ws.length ≤ 10000000 := by
  unfold askedF at hf
  split at hf
  · rename_i h
    have := (writesF_zero h).1
    omega
  · rename_i h
    exact absurd hf h
theorem asked_wf (ws : List DWrite) (s : Int) : (Lit.int .i64 (askedF ws s)).wf = true := by
  unfold askedF
  split
  · split <;> decide
  · exact wsF_wf ws

set_option maxRecDepth 10000 in
set_option maxHeartbeats 1000000 in
theorem specLast (v : Value) (ws : List DWrite) (s : Int) (w : World) (h : (Lay.sl Lay.tWrite).Reads w [v] ws) :
    Calls Try.prog 8 #[v, .int .i64 s ] w fun e w' => ∃ cs, e = .returned (.agg cs.toArray) ∧ Lay.tIntResult.OwnIn w' cs (lastR ws s) w.heap.size w'.heap.size ∧ Below w.heap.size w w' := by
  have nb : Below w.heap.size w (w.alloc (.cells #[.int .i64 0, .int .i64 0] 25)) := (Below.refl _ _).alloc (Nat.le_refl _) _
  have bR0 : Box w.heap.size #[.int .i64 0, .int .i64 0] 25 (w.alloc (.cells #[.int .i64 0, .int .i64 0] 25)) w.heap.size := newBox (Nat.le_refl _)
  have HR := hide (h.later nb)
  have HB0 := hide nb
  have HBR := hide bR0
  obtain ⟨ao, cap, rfl⟩ := open_sl h
  clear nb bR0 h
  have HL := hide (l5AskedC _ ws s _ (unhide HR))
  go_enter Try.func8, Try.ntmps8
  go_wp2_with fail
  refine (unhide HL).mono ?_
  rintro e w2 ⟨rfl, rfl⟩
  have HB2 := HB0
  have bR := unhide HBR
  clear HL HB0 HBR
  generalize hW : w.alloc (.cells #[.int .i64 0, .int .i64 0] 25) = w2 at *
  by_cases hf : askedF ws s = 0
  · have hn := asked_len hf
    have HL := hide (l5LastC _ ws s _ (unhide HR) hn)
    have HG : Hid (lastR ws s = ⟨0, lastI ws s⟩) := by show lastR ws s = _; rw [lastR, if_pos hf]
    have HBD : Hid (0 ≤ lastI ws s ∧ lastI ws s ≤ 999) := last_bd s (by
      unfold askedF at hf
      split at hf
      · assumption
      · assumption)
    rw [hf]
    clear hf hW HR
    go_wp2_with fail
    refine (unhide HL).mono ?_
    rintro e w3 ⟨rfl, hw3⟩
    rw [hw3]
    clear hw3 w3
    clear HL
    have z0 : w2.cell? ⟨w.heap.size, 0, none⟩ = some (.int .i64 0) := bR.at 0 _ rfl
    have z1 : w2.cell? ⟨w.heap.size, 1, none⟩ = some (.int .i64 0) := bR.at 1 _ rfl
    have f0 := bR.soft 0
    have f1 := bR.soft 1
    have l0 := bR.lt
    clear bR
    go_wp2_with fail
    refine bodyPost_ret (v := .agg #[.int .i64 (0), .int .i64 (lastI ws s)]) (by simp [results, Try.results8, go_sem, z0, z1]) rfl ?_
    rw [unhide HG]
    exact ⟨_, rfl, own_IntR (by decide) (wf_of_bd (by have := unhide HBD; omega)), ((unhide HB2).setCell (by simp) _).setCell (by simp) _⟩
  · have HG : Hid (lastR ws s = ⟨askedF ws s, 0⟩) := by show lastR ws s = _; rw [lastR, if_neg hf]
    have hd : (askedF ws s != 0) = true := by simpa using hf
    have HWF := hide (asked_wf ws s)
    clear hf hW HR
    have z0 : w2.cell? ⟨w.heap.size, 0, none⟩ = some (.int .i64 0) := bR.at 0 _ rfl
    have z1 : w2.cell? ⟨w.heap.size, 1, none⟩ = some (.int .i64 0) := bR.at 1 _ rfl
    have f0 := bR.soft 0
    have f1 := bR.soft 1
    have l0 := bR.lt
    clear bR
    go_wp2_with fail
    refine bodyPost_ret (v := .agg #[.int .i64 (askedF ws s), .int .i64 (0)]) (by simp [results, Try.results8, go_sem, z0, z1]) rfl ?_
    rw [unhide HG]
    exact ⟨_, rfl, own_IntR (unhide HWF) (by decide), ((unhide HB2).setCell (by simp) _).setCell (by simp) _⟩

set_option maxRecDepth 10000 in
set_option maxHeartbeats 1000000 in
theorem specSeenAt (v : Value) (ws : List DWrite) (s q : Int) (w : World) (h : (Lay.sl Lay.tWrite).Reads w [v] ws) :
    Calls Try.prog 13 #[v, .int .i64 s , .int .i64 q] w fun e w' => ∃ cs, e = .returned (.agg cs.toArray) ∧ Lay.tIntResult.OwnIn w' cs (seenR ws s q) w.heap.size w'.heap.size ∧ Below w.heap.size w w' := by
  have nb : Below w.heap.size w (w.alloc (.cells #[.int .i64 0, .int .i64 0] 25)) := (Below.refl _ _).alloc (Nat.le_refl _) _
  have bR0 : Box w.heap.size #[.int .i64 0, .int .i64 0] 25 (w.alloc (.cells #[.int .i64 0, .int .i64 0] 25)) w.heap.size := newBox (Nat.le_refl _)
  have HR := hide (h.later nb)
  have HB0 := hide nb
  have HBR := hide bR0
  obtain ⟨ao, cap, rfl⟩ := open_sl h
  clear nb bR0 h
  have HL := hide (l5AskedC _ ws s _ (unhide HR))
  go_enter Try.func13, Try.ntmps13
  go_wp2_with fail
  refine (unhide HL).mono ?_
  rintro e w2 ⟨rfl, rfl⟩
  have HB2 := HB0
  have bR := unhide HBR
  clear HL HB0 HBR
  generalize hW : w.alloc (.cells #[.int .i64 0, .int .i64 0] 25) = w2 at *
  by_cases hf : askedF ws s = 0
  · have hn := asked_len hf
    have HQ := hide (inC q 1 999 w2)
    have HF := hide hf
    rw [hf]
    by_cases hq : 1 ≤ q ∧ q ≤ 999
    · rw [dec999 hq] at HQ
      have HL := hide (l5SeenC _ ws s q _ (unhide HR) hn)
      by_cases h0 : seenI ws s q = 0
      · have HG : Hid (seenR ws s q = ⟨4, 0⟩) := by show seenR ws s q = _; rw [seenR, if_pos hf, if_pos hq, if_pos h0]
        rw [h0] at HL
        clear hf hW HR h0 hq HF
        go_wp2_with fail
        refine (unhide HQ).mono ?_
        rintro e w3 ⟨rfl, hw3⟩
        rw [hw3]
        clear hw3 w3
        go_wp2_with fail
        refine (unhide HL).mono ?_
        rintro e w3 ⟨rfl, hw3⟩
        rw [hw3]
        clear hw3 w3
        clear HL HQ
        have z0 : w2.cell? ⟨w.heap.size, 0, none⟩ = some (.int .i64 0) := bR.at 0 _ rfl
        have z1 : w2.cell? ⟨w.heap.size, 1, none⟩ = some (.int .i64 0) := bR.at 1 _ rfl
        have f0 := bR.soft 0
        have f1 := bR.soft 1
        have l0 := bR.lt
        clear bR
        go_wp2_with fail
        refine bodyPost_ret (v := .agg #[.int .i64 (4), .int .i64 (0)]) (by simp [results, Try.results13, go_sem, z0, z1]) rfl ?_
        rw [unhide HG]
        exact ⟨_, rfl, own_IntR (by decide) (by decide), ((unhide HB2).setCell (by simp) _).setCell (by simp) _⟩
      · have HG : Hid (seenR ws s q = ⟨0, seenI ws s q⟩) := by show seenR ws s q = _; rw [seenR, if_pos hf, if_pos hq, if_neg h0]
        have d0 : ((seenI ws s q : Int) == 0) = false := by simpa using h0
        have HBD : Hid (seenI ws s q ≤ 10000000) := Nat.le_trans (seenI_le ws s q) hn
        clear hf hW HR h0 hq HF
        go_wp2_with fail
        refine (unhide HQ).mono ?_
        rintro e w3 ⟨rfl, hw3⟩
        rw [hw3]
        clear hw3 w3
        go_wp2_with fail
        refine (unhide HL).mono ?_
        rintro e w3 ⟨rfl, hw3⟩
        rw [hw3]
        clear hw3 w3
        clear HL HQ
        have z0 : w2.cell? ⟨w.heap.size, 0, none⟩ = some (.int .i64 0) := bR.at 0 _ rfl
        have z1 : w2.cell? ⟨w.heap.size, 1, none⟩ = some (.int .i64 0) := bR.at 1 _ rfl
        have f0 := bR.soft 0
        have f1 := bR.soft 1
        have l0 := bR.lt
        clear bR
        go_wp2_with fail
        refine bodyPost_ret (v := .agg #[.int .i64 (0), .int .i64 (seenI ws s q)]) (by simp [results, Try.results13, go_sem, z0, z1]) rfl ?_
        rw [unhide HG]
        exact ⟨_, rfl, own_IntR (by decide) (wf_of_bd (by have := unhide HBD; omega)), ((unhide HB2).setCell (by simp) _).setCell (by simp) _⟩
    · rw [dec999n hq] at HQ
      have HG : Hid (seenR ws s q = ⟨3, 0⟩) := by show seenR ws s q = _; rw [seenR, if_pos hf, if_neg hq]
      clear hf hW HR hq HF
      go_wp2_with fail
      refine (unhide HQ).mono ?_
      rintro e w3 ⟨rfl, hw3⟩
      rw [hw3]
      clear hw3 w3
      clear HQ
      have z0 : w2.cell? ⟨w.heap.size, 0, none⟩ = some (.int .i64 0) := bR.at 0 _ rfl
      have z1 : w2.cell? ⟨w.heap.size, 1, none⟩ = some (.int .i64 0) := bR.at 1 _ rfl
      have f0 := bR.soft 0
      have f1 := bR.soft 1
      have l0 := bR.lt
      clear bR
      go_wp2_with fail
      refine bodyPost_ret (v := .agg #[.int .i64 (3), .int .i64 (0)]) (by simp [results, Try.results13, go_sem, z0, z1]) rfl ?_
      rw [unhide HG]
      exact ⟨_, rfl, own_IntR (by decide) (by decide), ((unhide HB2).setCell (by simp) _).setCell (by simp) _⟩
  · have HG : Hid (seenR ws s q = ⟨askedF ws s, 0⟩) := by show seenR ws s q = _; rw [seenR, if_neg hf]
    have hd : (askedF ws s != 0) = true := by simpa using hf
    have HWF := hide (asked_wf ws s)
    clear hf hW HR
    have z0 : w2.cell? ⟨w.heap.size, 0, none⟩ = some (.int .i64 0) := bR.at 0 _ rfl
    have z1 : w2.cell? ⟨w.heap.size, 1, none⟩ = some (.int .i64 0) := bR.at 1 _ rfl
    have f0 := bR.soft 0
    have f1 := bR.soft 1
    have l0 := bR.lt
    clear bR
    go_wp2_with fail
    refine bodyPost_ret (v := .agg #[.int .i64 (askedF ws s), .int .i64 (0)]) (by simp [results, Try.results13, go_sem, z0, z1]) rfl ?_
    rw [unhide HG]
    exact ⟨_, rfl, own_IntR (unhide HWF) (by decide), ((unhide HB2).setCell (by simp) _).setCell (by simp) _⟩

end Go.Proofs.Ytkodenmpadehjaa
