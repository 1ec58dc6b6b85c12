/-
  The model's ParseWrite: the write whose text this is, or the code 5; nothing old is written.
  Condition: at most 1048576 bytes.
-/
import Derived.Test.YtjfplfhdfiebgaaDoorSpecRead
import Derived.Test.YtjfplfhdfiebgaaDoorSpecWText
import Derived.Test.YtjfplfhdfiebgaaDoorWResPlain
namespace Go.Proofs.YtjfplfhdfiebgaaDoor
open Go.RowKit

/-- The write whose text this is, as the model reads it. -/
def parseM (l : Bytes) : DWriteResult := match readM (cutS [] l) with
  | none => ⟨5, zeroW⟩
  | some x => if writeText x.kind x.id x.vec x.session x.seq = l then ⟨0, x⟩ else ⟨5, zeroW⟩

theorem tail_fault {k : Int} {zs : List Int} {a b c : Bytes} (h : tailOk k zs a b c = true) : writeFault (tailW k zs a b c).kind (tailW k zs a b c).id (tailW k zs a b c).vec (tailW k zs a b c).session (tailW k zs a b c).seq = 0 := by
  unfold tailOk at h
  simp only [Bool.and_eq_true, beq_iff_eq] at h
  exact h.2
theorem readM_fault {l : List Bytes} {x : DWrite} (h : readM l = some x) : writeFault x.kind x.id x.vec x.session x.seq = 0 := by
  unfold readM at h
  split at h
  · unfold readPut at h
    split at h
    · split at h
      · cases h
      · split at h
        · next ht => cases h; exact tail_fault ht
        · cases h
    · cases h
  · unfold readDrop at h
    split at h
    · split at h
      · next ht => cases h; exact tail_fault ht
      · cases h
    · cases h
  · cases h

/-- The answer stored into the result's own block. -/
theorem storeW {w w1 : World} {x : DWrite} {cs vs : List Value} {lo hi : Nat} (h : Lay.tWrite.LiesIn w1 cs x lo hi) (hlo : w.heap.size < lo) (hb : Below w.heap.size w w1) :
    ∃ cs', Ending.returned (.agg (.int .i64 0 :: cs).toArray) = .returned (.agg cs'.toArray) ∧ Lay.tWriteResult.Reads (setAll w1 w.heap.size 0 vs) cs' ⟨0, x⟩ ∧ Below w.heap.size w (setAll w1 w.heap.size 0 vs) := by
  have h2 := h.ext (ext_setAll (fun q => q = w.heap.size) (Ext.refl _ w1) w.heap.size 0 vs rfl) (fun q h1 h2 h3 => by omega)
  obtain ⟨bl, hl, -⟩ := h2
  exact ⟨_, rfl, ⟨bl, [.int .i64 0], cs, [], bl, rfl, rfl, ⟨rfl, rfl, rfl⟩, hl⟩, below_setAll hb _ _ _ (Nat.le_refl _)⟩

set_option maxRecDepth 10000 in
set_option maxHeartbeats 1000000 in
/-- The model's ParseWrite. -/
theorem specPW (s : ByteArray) (w : World) (hs : s.size ≤ 1048576) :
    Calls Tryd.prog 11 #[.string s] w fun e w' => ∃ cs, e = .returned (.agg cs.toArray) ∧ Lay.tWriteResult.Reads w' cs (parseM s.data.toList) ∧ Below w.heap.size w w' := by
  have nb : Below w.heap.size w (w.alloc (.cells #[.int .i64 0, .int .i64 0, .int .i64 0, .slice none 0 0, .int .i64 0, .int .i64 0] 35)) := (Below.refl _ _).alloc (Nat.le_refl _) _
  have bR : Box 0 #[.int .i64 0, .int .i64 0, .int .i64 0, .slice none 0 0, .int .i64 0, .int .i64 0] 35 (w.alloc (.cells #[.int .i64 0, .int .i64 0, .int .i64 0, .slice none 0 0, .int .i64 0, .int .i64 0] 35)) w.heap.size := newBox (Nat.zero_le _)
  have LC := hide (fun W => cutSpC s W hs)
  go_enter Tryd.func11, Tryd.ntmps11
  go_wp2_with fail
  generalize w.alloc (.cells #[.int .i64 0, .int .i64 0, .int .i64 0, .slice none 0 0, .int .i64 0, .int .i64 0] 35) = W0 at *
  refine (unhide LC _).mono ?_
  rintro e w1 ⟨v, bs, rfl, hown, hcut, -, hz, hb⟩
  have hR := bR.lt
  replace bR := bR.keep hb
  have HB := hide (nb.trans (hb.mono nb.size))
  have LR := hide (l3ReadC v bs _ w1 hown hz)
  rw [hcut] at LR
  have hz1 := hb.size
  clear hb nb LC hown hcut hz
  have HR := hide bR
  clear bR
  go_wp2_with fail
  refine (unhide LR).mono ?_
  rintro e w2 ⟨x, ok, ⟨cs, rfl, R, hb⟩, hu⟩
  have HU := hide hu
  have bR := (unhide HR).keep hb
  replace HB := hide ((unhide HB).trans (hb.mono (unhide HB).size))
  have hz2 := hb.size
  obtain ⟨a2, d2, rfl, hv⟩ := open_Write R.reads
  have HL := hide R
  have HV := hide (Lay.ints_reads hv)
  clear hb LR hu R HR hv
  cases ok with
  | false =>
    have HP : Hid (parseM s.data.toList = ⟨5, zeroW⟩) := by
      show parseM s.data.toList = ⟨5, zeroW⟩
      rw [parseM, unhide HU]
      simp
    have nb : Below w2.heap.size w2 (w2.alloc (.cells #[.int .i64 x.kind, .int .i64 x.id, .slice a2 x.vec.length d2, .int .i64 x.session, .int .i64 x.seq] 29)) := (Below.refl _ _).alloc (Nat.le_refl _) _
    replace bR := bR.keep nb
    replace HB := hide ((unhide HB).trans (nb.mono (unhide HB).size))
    have r0 := bR.at 0 _ rfl
    have r1 := bR.at 1 _ rfl
    have r2 := bR.at 2 _ rfl
    have r3 := bR.at 3 _ rfl
    have r4 := bR.at 4 _ rfl
    have r5 := bR.at 5 _ rfl
    have rf := bR.soft
    have hR1 := bR.lt
    clear bR nb HL HV HU
    simp only [List.getElem_toArray, List.getElem_cons_zero, List.getElem_cons_succ] at r0 r1 r2 r3 r4 r5
    go_wp2_with fail
    refine bodyPost_ret (v := .agg #[.int .i64 5, .int .i64 0, .int .i64 0, .slice none 0 0, .int .i64 0, .int .i64 0]) (by simp [results, Tryd.results11, go_sem, r0, r1, r2, r3, r4, r5]) rfl ?_
    rw [unhide HP]
    exact ⟨[.int .i64 5, .int .i64 0, .int .i64 0, .slice none 0 0, .int .i64 0, .int .i64 0], rfl, (own_badW rfl (lo := 0) (hi := 0)).reads, below_setAll (unhide HB) w.heap.size 0 [.int .i64 5, .int .i64 0, .int .i64 0, .slice none 0 0, .int .i64 0, .int .i64 0] (Nat.le_refl _)⟩
  | true =>
    have nb : Below w2.heap.size w2 (w2.alloc (.cells #[.int .i64 x.kind, .int .i64 x.id, .slice a2 x.vec.length d2, .int .i64 x.session, .int .i64 x.seq] 29)) := (Below.refl _ _).alloc (Nat.le_refl _) _
    have bX : Box 0 #[.int .i64 x.kind, .int .i64 x.id, .slice a2 x.vec.length d2, .int .i64 x.session, .int .i64 x.seq] 29 (w2.alloc (.cells #[.int .i64 x.kind, .int .i64 x.id, .slice a2 x.vec.length d2, .int .i64 x.session, .int .i64 x.seq] 29)) w2.heap.size := newBox (Nat.zero_le _)
    have LT := hide (l3Text w2.heap.size x.kind x.id (.slice a2 x.vec.length d2) x.session x.seq x.vec _ ⟨bX.at 0 _ rfl, bX.at 1 _ rfl, bX.at 2 _ rfl, bX.at 3 _ rfl, bX.at 4 _ rfl⟩ ((unhide HV).later nb) (readM_fault (unhide HU)))
    simp only [str] at LT
    have HL1 := hide ((unhide HL).later nb)
    replace bR := bR.keep nb
    replace HB := hide ((unhide HB).trans (nb.mono (unhide HB).size))
    have HX := hide bX
    have HR := hide bR
    clear nb bX bR HL HV
    go_wp2_with fail
    generalize w2.alloc (.cells #[.int .i64 x.kind, .int .i64 x.id, .slice a2 x.vec.length d2, .int .i64 x.session, .int .i64 x.seq] 29) = W2 at *
    refine (unhide LT).mono ?_
    rintro e w3 ⟨rfl, hb⟩
    have bX := (unhide HX).keep hb
    have bR := (unhide HR).keep hb
    have HL3 := hide ((unhide HL1).later hb)
    replace HB := hide ((unhide HB).trans (hb.mono (unhide HB).size))
    have x0 := bX.at 0 _ rfl
    have x1 := bX.at 1 _ rfl
    have x2 := bX.at 2 _ rfl
    have x3 := bX.at 3 _ rfl
    have x4 := bX.at 4 _ rfl
    have r0 := bR.at 0 _ rfl
    have r1 := bR.at 1 _ rfl
    have r2 := bR.at 2 _ rfl
    have r3 := bR.at 3 _ rfl
    have r4 := bR.at 4 _ rfl
    have r5 := bR.at 5 _ rfl
    have rf := bR.soft
    have hR1 := bR.lt
    clear hb bX bR HX HR HL1 LT
    simp only [List.getElem_toArray, List.getElem_cons_zero, List.getElem_cons_succ] at x0 x1 x2 x3 x4 r0 r1 r2 r3 r4 r5
    have HP : Hid (parseM s.data.toList = if writeText x.kind x.id x.vec x.session x.seq = s.data.toList then ⟨0, x⟩ else ⟨5, zeroW⟩) := by
      show parseM s.data.toList = _
      rw [parseM, unhide HU]
      rfl
    clear HU
    generalize writeText x.kind x.id x.vec x.session x.seq = tx at *
    by_cases heq : tx = s.data.toList
    · have e1 : (tx == s.toList) = true := by rw [toList_data]; simpa using heq
      have e2 : (tx != s.toList) = false := by simp [bne, e1]
      have HP2 : Hid (parseM s.data.toList = ⟨0, x⟩) := (unhide HP).trans (if_pos heq)
      clear HP heq
      go_wp2_with fail
      refine bodyPost_ret (v := .agg #[.int .i64 0, .int .i64 x.kind, .int .i64 x.id, .slice a2 x.vec.length d2, .int .i64 x.session, .int .i64 x.seq]) (by simp [results, Tryd.results11, go_sem, r0, r1, r2, r3, r4, r5]) rfl ?_
      rw [unhide HP2]
      exact storeW (vs := [.int .i64 0, .int .i64 x.kind, .int .i64 x.id, .slice a2 x.vec.length d2, .int .i64 x.session, .int .i64 x.seq]) (unhide HL3) (by omega) (unhide HB)
    · have e1 : (tx == s.toList) = false := by rw [toList_data, beq_eq_false_iff_ne]; exact heq
      have e2 : (tx != s.toList) = true := by simp [bne, e1]
      have HP2 : Hid (parseM s.data.toList = ⟨5, zeroW⟩) := (unhide HP).trans (if_neg heq)
      clear HP heq
      go_wp2_with fail
      refine bodyPost_ret (v := .agg #[.int .i64 5, .int .i64 0, .int .i64 0, .slice none 0 0, .int .i64 0, .int .i64 0]) (by simp [results, Tryd.results11, go_sem, r0, r1, r2, r3, r4, r5]) rfl ?_
      rw [unhide HP2]
      exact ⟨[.int .i64 5, .int .i64 0, .int .i64 0, .slice none 0 0, .int .i64 0, .int .i64 0], rfl, (own_badW rfl (lo := 0) (hi := 0)).reads, below_setAll (unhide HB) w.heap.size 0 [.int .i64 5, .int .i64 0, .int .i64 0, .slice none 0 0, .int .i64 0, .int .i64 0] (Nat.le_refl _)⟩

end Go.Proofs.YtjfplfhdfiebgaaDoor
