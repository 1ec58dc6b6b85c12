/-
  WriteText of the model: the fault, or the text; nothing old is written.
  No condition.
-/
import Derived.Test.YtgjjmbliahhhjaaDoorSpecWText
import Derived.Test.YtgjjmbliahhhjaaDoorLayTextResult
namespace Go.Proofs.YtgjjmbliahhhjaaDoor
open Go.RowKit

def wtextR (x : DWrite) : DTextResult := ⟨writeFault x.kind x.id x.vec x.session x.seq, ⟨(writeText x.kind x.id x.vec x.session x.seq).toArray⟩⟩
theorem fault_codes (k i : Int) (zs : List Int) (s q : Int) : (Lit.int .i64 (writeFault k i zs s q)).wf = true := by
  have hv : vecFault zs = 0 ∨ vecFault zs = 1 ∨ vecFault zs = 3 := by
    unfold vecFault
    split
    · split
      · exact Or.inl rfl
      · exact Or.inr (Or.inr rfl)
    · exact Or.inr (Or.inl rfl)
  unfold writeFault
  split
  · split
    · split
      · rcases hv with h | h | h <;> rw [h] <;> rfl
      · rfl
    · rfl
  · rfl
theorem own_text {w : World} {c : Int} {s : ByteArray} {lo hi : Nat} (h : (Lit.int .i64 c).wf = true) : Lay.tTextResult.OwnIn w [.int .i64 c, .string s] ⟨c, s⟩ lo hi :=
  ⟨[], ⟨lies_TextResult.2 ⟨rfl, rfl, h⟩, by simp, by simp⟩, by simp⟩
def ToldT (w w' : World) (e : Ending) (y : DTextResult) : Prop := ∃ cs, e = .returned (.agg cs.toArray) ∧ Lay.tTextResult.OwnIn w' cs y w.heap.size w'.heap.size ∧ Below w.heap.size w w'

set_option maxRecDepth 10000 in
set_option maxHeartbeats 1000000 in
theorem specWText (u : List Value) (x : DWrite) (w : World) (h : Lay.tWrite.Reads w u x) :
    Calls Tryd.prog 6 #[.agg u.toArray] w fun e w' => ToldT w w' e (wtextR x) := by
  obtain ⟨a2, d2, rfl, R2⟩ := open_Write h
  have hR := Lay.ints_reads R2
  clear h R2
  have W0 := 0
  have bA : Box w.heap.size #[.int .i64 x.kind, .int .i64 x.id, .slice a2 x.vec.length d2, .int .i64 x.session, .int .i64 x.seq] 29 ((w.alloc (.cells #[.int .i64 x.kind, .int .i64 x.id, .slice a2 x.vec.length d2, .int .i64 x.session, .int .i64 x.seq] 29)).alloc (.cells #[.int .i64 0, .string ⟨#[]⟩] 27)) w.heap.size := (newBox (Nat.le_refl _)).grow _
  have bR : Box w.heap.size #[.int .i64 0, .string ⟨#[]⟩] 27 ((w.alloc (.cells #[.int .i64 x.kind, .int .i64 x.id, .slice a2 x.vec.length d2, .int .i64 x.session, .int .i64 x.seq] 29)).alloc (.cells #[.int .i64 0, .string ⟨#[]⟩] 27)) (w.heap.size + 1) := newBoxAt (by omega) (by simp)
  have B0 : Below w.heap.size w ((w.alloc (.cells #[.int .i64 x.kind, .int .i64 x.id, .slice a2 x.vec.length d2, .int .i64 x.session, .int .i64 x.seq] 29)).alloc (.cells #[.int .i64 0, .string ⟨#[]⟩] 27)) := ((Below.refl _ _).alloc (Nat.le_refl _) _).alloc (by simp) _
  clear W0
  go_enter Tryd.func6, Tryd.ntmps6
  go_wp2_with fail
  generalize (w.alloc (.cells #[.int .i64 x.kind, .int .i64 x.id, .slice a2 x.vec.length d2, .int .i64 x.session, .int .i64 x.seq] 29)).alloc (.cells #[.int .i64 0, .string ⟨#[]⟩] 27) = W0 at *
  have wa : WriteAt W0 w.heap.size x.kind x.id (.slice a2 x.vec.length d2) x.session x.seq := ⟨bA.at 0 _ rfl, bA.at 1 _ rfl, bA.at 2 _ rfl, bA.at 3 _ rfl, bA.at 4 _ rfl⟩
  have hI := hR.later B0
  refine (l3Fault w.heap.size x.kind x.id _ x.session x.seq x.vec W0 wa hI).mono ?_
  rintro e w1 ⟨rfl, hw1⟩
  subst hw1
  have HC := hide (fault_codes x.kind x.id x.vec x.session x.seq)
  have HB := hide B0
  have HR := hide bR
  by_cases hf : writeFault x.kind x.id x.vec x.session x.seq = 0
  · have L := hide (l3Text w.heap.size x.kind x.id _ x.session x.seq x.vec w1 wa hI hf)
    have HE : Hid (wtextR x = ⟨0, ⟨(writeText x.kind x.id x.vec x.session x.seq).toArray⟩⟩) := by
      show wtextR x = _
      rw [wtextR, hf]
    rw [hf]
    clear hf bA bR B0 wa hI hR
    simp only [str] at L
    generalize writeText x.kind x.id x.vec x.session x.seq = t at *
    go_wp2_with fail
    refine (unhide L).mono ?_
    rintro e w2 ⟨rfl, hb⟩
    have bR := (unhide HR).keep hb
    have r0 := bR.at 0 _ rfl
    have r1 := bR.at 1 _ rfl
    have rf := bR.soft
    have rl := bR.lt
    replace HB := hide ((unhide HB).trans (hb.mono (unhide HB).size))
    clear hb bR HR L
    simp only [List.getElem_toArray, List.getElem_cons_zero, List.getElem_cons_succ] at r0 r1
    go_wp2_with fail
    refine bodyPost_ret (v := .agg #[.int .i64 0, .string ⟨t.toArray⟩]) (by simp [results, Tryd.results6, go_sem, r0, r1]) rfl ?_
    rw [unhide HE]
    exact ⟨[.int .i64 0, .string ⟨t.toArray⟩], rfl, own_text rfl, below_setAll (unhide HB) (w.heap.size + 1) 0 [.int .i64 0, .string ⟨t.toArray⟩] (by omega)⟩
  · have hne : (writeFault x.kind x.id x.vec x.session x.seq != 0) = true := by rw [bne_iff_ne]; exact hf
    have HE : Hid (wtextR x = ⟨writeFault x.kind x.id x.vec x.session x.seq, ⟨#[]⟩⟩) := by
      show wtextR x = _
      rw [wtextR, writeText, if_neg hf]
    clear hf bA B0 wa hI hR
    generalize writeFault x.kind x.id x.vec x.session x.seq = F at *
    have r0 := bR.at 0 _ rfl
    have r1 := bR.at 1 _ rfl
    have rf := bR.soft
    have rl := bR.lt
    clear bR
    simp only [List.getElem_toArray, List.getElem_cons_zero, List.getElem_cons_succ] at r0 r1
    go_wp2_with fail
    refine bodyPost_ret (v := .agg #[.int .i64 F, .string ⟨#[]⟩]) (by simp [results, Tryd.results6, go_sem, r0, r1]) rfl ?_
    rw [unhide HE]
    exact ⟨[.int .i64 F, .string ⟨#[]⟩], rfl, own_text (unhide HC), below_setAll (unhide HB) (w.heap.size + 1) 0 [.int .i64 F, .string ⟨#[]⟩] (by omega)⟩

end Go.Proofs.YtgjjmbliahhhjaaDoor
