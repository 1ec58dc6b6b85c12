/-
  ParseWrite of the program: the write whose text this is, or the code 5, in new memory; nothing old is written.
  Condition: the library's own variables have their shapes; at most 1048576 bytes.
-/
import Derived.Test.YtjfplfhdfiebgaaDoorImplRead
import Derived.Test.YtjfplfhdfiebgaaDoorSpecPW
import Derived.Test.YtjfplfhdfiebgaaDoorOwnWriteResult
namespace Go.Proofs.YtjfplfhdfiebgaaDoor
open Go.RowKit

def ToldPW (w w' : World) (e : Ending) (y : DWriteResult) : Prop := ∃ cs, e = .returned (.agg cs.toArray) ∧ Lay.tWriteResult.OwnIn w' cs y w.heap.size w'.heap.size ∧ Below w.heap.size w w'
theorem toldPW_store {w w4 : World} {cs vs : List Value} {y : DWriteResult} {hi : Nat} (h : Lay.tWriteResult.OwnIn w4 cs y (w.heap.size + 1) hi) (hhi : hi ≤ w4.heap.size) (hb : Below w.heap.size w w4) : ToldPW w (setAll w4 w.heap.size 0 vs) (.returned (.agg cs.toArray)) y := by
  refine ⟨cs, rfl, ?_, below_setAll hb _ _ _ (Nat.le_refl _)⟩
  rw [size_setAll]
  exact (h.ext (ext_setAll (fun q => q = w.heap.size) (Ext.refl _ _) _ _ _ rfl) (fun q h1 h2 h3 => by omega)).mono (by omega) hhi

def resI : Option DWrite → DWriteResult
  | none => ⟨5, zeroW⟩
  | some x => ⟨0, x⟩
theorem parseM_I (l : Bytes) : parseM l = resI (readI (cutS [] l)) := by
  rw [parseM_eq, readI_eq]
  cases readM (cutS [] l) <;> rfl

set_option maxRecDepth 10000 in
set_option maxHeartbeats 1000000 in
/-- ParseWrite of the program. -/
theorem implPW (s : ByteArray) (w : World) (hs : s.size ≤ 1048576) (hsh : Shp w) :
    Calls Tryd.prog 12 #[.string s] w fun e w' => ToldPW w w' e (parseM s.data.toList) := by
  have nb : Below w.heap.size w (w.alloc (.cells #[.int .i64 0, .int .i64 0, .int .i64 0, .slice none 0 0, .int .i64 0, .int .i64 0] 35)) := (Below.refl _ _).alloc (Nat.le_refl _) _
  have bR : Box 0 #[.int .i64 0, .int .i64 0, .int .i64 0, .slice none 0 0, .int .i64 0, .int .i64 0] 35 (w.alloc (.cells #[.int .i64 0, .int .i64 0, .int .i64 0, .slice none 0 0, .int .i64 0, .int .i64 0] 35)) w.heap.size := newBox (Nat.zero_le _)
  have hs0 : (w.alloc (.cells #[.int .i64 0, .int .i64 0, .int .i64 0, .slice none 0 0, .int .i64 0, .int .i64 0] 35)).heap.size = w.heap.size + 1 := by simp
  have LC := hide (readWriteC s _ hs (hsh.later nb))
  rw [parseM_I]
  go_enter Tryd.func12, Tryd.ntmps12
  go_wp2_with fail
  generalize w.alloc (.cells #[.int .i64 0, .int .i64 0, .int .i64 0, .slice none 0 0, .int .i64 0, .int .i64 0] 35) = W0 at *
  refine (unhide LC).mono ?_
  rintro e w1 ⟨k, i, a, n, c, ss, q, ok, rfl, hyes, hno, hb⟩
  have nb2 : Below w1.heap.size w1 (w1.alloc (.cells #[.int .i64 k, .int .i64 i, .slice a n c, .int .i64 ss, .int .i64 q] 29)) := (Below.refl _ _).alloc (Nat.le_refl _) _
  have bX : Box 0 #[.int .i64 k, .int .i64 i, .slice a n c, .int .i64 ss, .int .i64 q] 29 (w1.alloc (.cells #[.int .i64 k, .int .i64 i, .slice a n c, .int .i64 ss, .int .i64 q] 29)) w1.heap.size := newBox (Nat.zero_le _)
  have bR2 := (bR.keep hb).keep nb2
  have HB := hide ((nb.trans (hb.mono nb.size)).trans (nb2.mono (Nat.le_trans nb.size hb.size)))
  have HY : Hid (ok = true → ∃ x, readI (cutS [] s.data.toList) = some x ∧ Lay.tWrite.OwnIn (w1.alloc (.cells #[.int .i64 k, .int .i64 i, .slice a n c, .int .i64 ss, .int .i64 q] 29)) [.int .i64 k, .int .i64 i, .slice a n c, .int .i64 ss, .int .i64 q] x (w.heap.size + 1) (w1.alloc (.cells #[.int .i64 k, .int .i64 i, .slice a n c, .int .i64 ss, .int .i64 q] 29)).heap.size) := by
    intro h
    obtain ⟨x, h1, h2⟩ := hyes h
    rw [hs0] at h2
    exact ⟨x, h1, (h2.later nb2).mono (Nat.le_refl _) nb2.size⟩
  have HN := hide hno
  have HBX := hide bX
  have HBR := hide bR2
  clear nb nb2 bX bR bR2 hb hyes hno LC hs0 hsh
  cases ok with
  | false =>
    have HN2 := hide (unhide HN rfl)
    clear HN
    go_upto_region 2 with fail
    generalize w1.alloc (.cells #[.int .i64 k, .int .i64 i, .slice a n c, .int .i64 ss, .int .i64 q] 29) = w2 at *
    have bR := unhide HBR
    have r0 := bR.at 0 _ rfl
    have r1 := bR.at 1 _ rfl
    have r2 := bR.at 2 _ rfl
    have r3 := bR.at 3 _ rfl
    have r4 := bR.at 4 _ rfl
    have r5 := bR.at 5 _ rfl
    have rf := bR.soft
    have hR1 := bR.lt
    clear bR HBR HBX HY
    simp only [List.getElem_toArray, List.getElem_cons_zero, List.getElem_cons_succ] at r0 r1 r2 r3 r4 r5
    go_wp2_with fail
    refine bodyPost_ret (v := .agg #[.int .i64 5, .int .i64 0, .int .i64 0, .slice none 0 0, .int .i64 0, .int .i64 0]) (by simp [results, Tryd.results12, go_sem, r0, r1, r2, r3, r4, r5]) rfl ?_
    rw [unhide HN2]
    exact ⟨[.int .i64 5, .int .i64 0, .int .i64 0, .slice none 0 0, .int .i64 0, .int .i64 0], rfl, own_badW rfl, below_setAll (unhide HB) w.heap.size 0 [.int .i64 5, .int .i64 0, .int .i64 0, .slice none 0 0, .int .i64 0, .int .i64 0] (Nat.le_refl _)⟩
  | true =>
    obtain ⟨x, hx, ho⟩ := unhide HY rfl
    have HO := hide ho
    have HX := hide hx
    clear hx ho HY HN
    go_upto_region 2 with fail
    generalize w1.alloc (.cells #[.int .i64 k, .int .i64 i, .slice a n c, .int .i64 ss, .int .i64 q] 29) = w2 at *
    have bR := unhide HBR
    have bX := unhide HBX
    have x0 := bX.at 0 _ rfl
    have x1 := bX.at 1 _ rfl
    have x2 := bX.at 2 _ rfl
    have x3 := bX.at 3 _ rfl
    have x4 := bX.at 4 _ rfl
    have r0 := bR.at 0 _ rfl
    have r1 := bR.at 1 _ rfl
    have r2 := bR.at 2 _ rfl
    have r3 := bR.at 3 _ rfl
    have r4 := bR.at 4 _ rfl
    have r5 := bR.at 5 _ rfl
    have rf := bR.soft
    have hR1 := bR.lt
    clear bR bX HBR HBX
    simp only [List.getElem_toArray, List.getElem_cons_zero, List.getElem_cons_succ] at x0 x1 x2 x3 x4 r0 r1 r2 r3 r4 r5
    go_wp2_with fail
    refine bodyPost_ret (v := .agg #[.int .i64 0, .int .i64 k, .int .i64 i, .slice a n c, .int .i64 ss, .int .i64 q]) (by simp [results, Tryd.results12, go_sem, r0, r1, r2, r3, r4, r5]) rfl ?_
    rw [unhide HX]
    obtain ⟨bl, O, hr⟩ := unhide HO
    have own2 : Lay.tWriteResult.OwnIn w2 [.int .i64 0, .int .i64 k, .int .i64 i, .slice a n c, .int .i64 ss, .int .i64 q] ⟨0, x⟩ (w.heap.size + 1) w2.heap.size := ⟨bl, mkOwn_WriteResult (x := ⟨0, x⟩) O (show (Lit.int .i64 0).wf = true by decide) O.2.1, hr⟩
    exact toldPW_store (vs := [.int .i64 0, .int .i64 k, .int .i64 i, .slice a n c, .int .i64 ss, .int .i64 q]) own2 (Nat.le_refl _) (unhide HB)

end Go.Proofs.YtjfplfhdfiebgaaDoor
