/-
  LastSeq and SeenAt of the program: what they tell, in new memory; nothing old is written.
  No condition.
-/
import Derived.Test.YtkodenmpadehjaaImplStory
import Derived.Test.YtkodenmpadehjaaSeqPlain
namespace Go.Proofs.Ytkodenmpadehjaa
open Go.RowKit

set_option maxRecDepth 10000 in
set_option maxHeartbeats 1000000 in
theorem implLast (v : Value) (ws : List DWrite) (s : Int) (w : World) (h : (Lay.sl Lay.tWrite).Reads w [v] ws) :
    Calls Try.prog 10 #[v, .int .i64 s ] w fun e w' => ∃ cs, e = .returned (.agg cs.toArray) ∧ Lay.tIntResult.OwnIn w' cs (lastR ws s) w.heap.size w'.heap.size ∧ Below w.heap.size w w' := by
  have nb : Below w.heap.size w (w.alloc (.cells #[.int .i64 0, .int .i64 0] 25)) := (Below.refl _ _).alloc (Nat.le_refl _) _
  have bR0 : Box w.heap.size #[.int .i64 0, .int .i64 0] 25 (w.alloc (.cells #[.int .i64 0, .int .i64 0] 25)) w.heap.size := newBox (Nat.le_refl _)
  have HR := hide (h.later nb)
  have HB0 := hide nb
  have HBR := hide bR0
  obtain ⟨ao, cap, rfl⟩ := open_sl h
  clear nb bR0 h
  have HL := hide (storyC _ ws _ (unhide HR))
  go_enter Try.func10, Try.ntmps10
  go_wp2_with fail
  refine (unhide HL).mono ?_
  rintro e w2 ⟨r, rfl, g0, g1, hb⟩
  have bR := (unhide HBR).keep hb
  have HB2 := hide ((unhide HB0).trans (hb.mono (unhide HB0).size))
  have hsz : (w.alloc (.cells #[.int .i64 0, .int .i64 0] 25)).heap.size = w.heap.size + 1 := by simp
  rw [hsz] at g0
  clear hb HL HB0 HBR HR hsz
  by_cases hf : writesF ws = 0
  · obtain ⟨rfl, v2, rows, bls, hT⟩ := g0 hf
    clear g0 g1
    have HF := hide hf
    rw [hf]
    clear hf
    have HS := hide (isSessionC s w2)
    by_cases hs : 1 ≤ s ∧ s ≤ 9
    · rw [dec9 hs] at HS
      have HG : Hid (lastR ws s = ⟨0, lastI ws s⟩) := by show lastR ws s = _; rw [lastR, if_pos (asked_ok (unhide HF) hs)]
      have hsi : (s.toNat : Int) = s := by omega
      have zl : w2.cell? ⟨w.heap.size + 1 + 1, 2 + s.toNat, none⟩ = some (.int .i64 (lastI ws s)) := by
        have := hT.box.at _ _ (tcells_at v2 _ (lastI ws) s.toNat (by omega))
        rwa [hsi] at this
      have i1 : (0 : Int) ≤ s := by omega
      have i2 : s < 10 := by omega
      have HBD := hide (last_bd s (unhide HF))
      clear hs hT hsi
      go_wp2_with fail
      refine (unhide HS).mono ?_
      rintro e w3 ⟨rfl, hw3⟩
      rw [hw3]
      clear hw3 w3
      clear HS
      have z0 : w2.cell? ⟨w.heap.size, 0, none⟩ = some (.int .i64 0) := bR.at 0 _ rfl
      have z1 : w2.cell? ⟨w.heap.size, 1, none⟩ = some (.int .i64 0) := bR.at 1 _ rfl
      have f0 := bR.soft 0
      have f1 := bR.soft 1
      have l0 := bR.lt
      clear bR
      go_wp2_with fail
      refine bodyPost_ret (v := .agg #[.int .i64 (0), .int .i64 (lastI ws s)]) (by simp [results, Try.results10, go_sem, z0, z1]) rfl ?_
      rw [unhide HG]
      exact ⟨_, rfl, own_IntR (by decide) (wf_of_bd (by have := unhide HBD; omega)), ((unhide HB2).setCell (by simp) _).setCell (by simp) _⟩
    · rw [dec9n hs] at HS
      have HG : Hid (lastR ws s = ⟨3, 0⟩) := by show lastR ws s = _; rw [lastR, asked_out (unhide HF) hs, if_neg (by decide)]
      clear hs hT HF
      go_wp2_with fail
      refine (unhide HS).mono ?_
      rintro e w3 ⟨rfl, hw3⟩
      rw [hw3]
      clear hw3 w3
      clear HS
      have z0 : w2.cell? ⟨w.heap.size, 0, none⟩ = some (.int .i64 0) := bR.at 0 _ rfl
      have z1 : w2.cell? ⟨w.heap.size, 1, none⟩ = some (.int .i64 0) := bR.at 1 _ rfl
      have f0 := bR.soft 0
      have f1 := bR.soft 1
      have l0 := bR.lt
      clear bR
      go_wp2_with fail
      refine bodyPost_ret (v := .agg #[.int .i64 (3), .int .i64 (0)]) (by simp [results, Try.results10, go_sem, z0, z1]) rfl ?_
      rw [unhide HG]
      exact ⟨_, rfl, own_IntR (by decide) (by decide), ((unhide HB2).setCell (by simp) _).setCell (by simp) _⟩
  · obtain rfl := g1 hf
    clear g0 g1
    have HG : Hid (lastR ws s = ⟨writesF ws, 0⟩) := by show lastR ws s = _; rw [lastR, asked_bad s hf, if_neg hf]
    have HWF := hide (wsF_wf ws)
    have hd : (writesF ws != 0) = true := by simpa using hf
    clear hf
    have z0 : w2.cell? ⟨w.heap.size, 0, none⟩ = some (.int .i64 0) := bR.at 0 _ rfl
    have z1 : w2.cell? ⟨w.heap.size, 1, none⟩ = some (.int .i64 0) := bR.at 1 _ rfl
    have f0 := bR.soft 0
    have f1 := bR.soft 1
    have l0 := bR.lt
    clear bR
    go_wp2_with fail
    refine bodyPost_ret (v := .agg #[.int .i64 (writesF ws), .int .i64 (0)]) (by simp [results, Try.results10, go_sem, z0, z1]) rfl ?_
    rw [unhide HG]
    exact ⟨_, rfl, own_IntR (unhide HWF) (by decide), ((unhide HB2).setCell (by simp) _).setCell (by simp) _⟩

end Go.Proofs.Ytkodenmpadehjaa
