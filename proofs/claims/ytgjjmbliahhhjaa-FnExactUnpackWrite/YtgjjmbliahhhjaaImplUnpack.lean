/-
  UnpackWrite of the program: the write whose words a list is, in new memory; nothing old is written.
  No condition.
-/
import Derived.Test.YtgjjmbliahhhjaaImplPack
import Derived.Test.YtgjjmbliahhhjaaPackFacts
import Derived.Test.YtgjjmbliahhhjaaImplInts
import Derived.Test.YtgjjmbliahhhjaaImplClone
import Derived.Test.YtgjjmbliahhhjaaUnpackPlain
import Derived.Deep.RegionHeld3
namespace Go.Proofs.Ytgjjmbliahhhjaa
open Go.RowKit

def ToldW (w w' : World) (e : Ending) (y : DWriteResult) : Prop := ∃ cs, e = .returned (.agg cs.toArray) ∧ Lay.tWriteResult.OwnIn w' cs y w.heap.size w'.heap.size ∧ Below w.heap.size w w'

/-- The answer stored into the result's own block. -/
theorem toldW_store {w w4 : World} {cs vs : List Value} {y : DWriteResult} {hi : Nat} (h : Lay.tWriteResult.OwnIn w4 cs y (w.heap.size + 1) hi) (hhi : hi ≤ w4.heap.size) (hb : Below w.heap.size w w4) : ToldW w (setAll w4 w.heap.size 0 vs) (.returned (.agg cs.toArray)) y := by
  refine ⟨cs, rfl, ?_, below_setAll hb _ _ _ (Nat.le_refl _)⟩
  rw [size_setAll]
  exact (h.ext (ext_setAll (fun q => q = w.heap.size) (Ext.refl _ _) _ _ _ rfl) (fun q h1 h2 h3 => by omega)).mono (by omega) hhi

set_option maxHeartbeats 400000 in
theorem implUnpack_len (ao : Option Addr) (n cap : Nat) (w : World) (h : n ≠ 8) :
    Calls Try.prog 20 #[.slice ao n cap] w fun e w' => ToldW w w' e ⟨5, zeroW⟩ := by
  have hd : ((n : Int) != 8) = true := by rw [bne_iff_ne]; omega
  have HB : Hid (∀ o, Below w.heap.size w (w.alloc o)) := fun o => (Below.refl _ _).alloc (Nat.le_refl _) o
  go_enter Try.func20, Try.ntmps20
  go_wp2
  refine bodyPost_ret (v := .agg #[.int .i64 5, .int .i64 0, .int .i64 0, .slice none 0 0, .int .i64 0, .int .i64 0]) (by simp [results, Try.results20, go_sem]) rfl ?_
  exact ⟨[.int .i64 5, .int .i64 0, .int .i64 0, .slice none 0 0, .int .i64 0, .int .i64 0], rfl, own_badW rfl, unhide HB _⟩

set_option maxRecDepth 100000 in
set_option maxHeartbeats 4000000 in
theorem implUnpack_put (b off cap : Nat) (i s q x y z c : Int) (w : World) (h : IsInts w (.slice (some ⟨b, off, none⟩) 8 cap) [1, i, s, q, x, y, z, c]) (hcap : 8 ≤ cap) :
    Calls Try.prog 20 #[.slice (some ⟨b, off, none⟩) 8 cap] w fun e w' => ToldW w w' e (unpackR [1, i, s, q, x, y, z, c]) := by
  have hc : ∀ j, j < 8 → w.cell? ⟨b, off + j, none⟩ = some (.int .i64 ([1, i, s, q, x, y, z, c].getD j 0)) := by
    obtain ⟨ao, cp, e, -, hc⟩ := h
    obtain ⟨b', off', rfl, hc1⟩ := hc (by simp)
    simp only [Value.slice.injEq, Option.some.injEq, Addr.mk.injEq, and_true] at e
    obtain ⟨⟨rfl, rfl⟩, -, -⟩ := e
    exact hc1
  have c0 : w.cell? ⟨b, off, none⟩ = some (.int .i64 1) := hc 0 (by omega)
  have c1 : w.cell? ⟨b, off + 1, none⟩ = some (.int .i64 i) := hc 1 (by omega)
  have c2 : w.cell? ⟨b, off + 2, none⟩ = some (.int .i64 s) := hc 2 (by omega)
  have c3 : w.cell? ⟨b, off + 3, none⟩ = some (.int .i64 q) := hc 3 (by omega)
  have hwf := h.wf
  have f0 : (Lit.int .i64 1).wf = true := hwf 1 (by simp)
  have f1 : (Lit.int .i64 i).wf = true := hwf i (by simp)
  have f2 : (Lit.int .i64 s).wf = true := hwf s (by simp)
  have f3 : (Lit.int .i64 q).wf = true := hwf q (by simp)
  have HV : Hid (∀ u ∈ [x, y, z], (Lit.int .i64 u).wf = true) := fun u hu => hwf u (by simp at hu; rcases hu with rfl | rfl | rfl <;> simp)
  have hv : IsInts w (.slice (some ⟨b, off + 4, none⟩) 3 (cap - 4)) [x, y, z] := by
    refine ⟨_, _, rfl, fun u hu => hwf u (by simp at hu; rcases hu with rfl | rfl | rfl <;> simp), fun _ => ⟨b, off + 4, rfl, fun j hj => ?_⟩⟩
    have := hc (4 + j) (by simp at hj; omega)
    rw [Nat.add_assoc, this]
    simp at hj
    rcases j with _ | _ | _ | j <;> first | rfl | omega
  have HF := hide (And.intro f0 (And.intro f1 (And.intro f2 f3)))
  have H := hide h
  clear h hc hwf f0 f1 f2 f3
  have nb : Below w.heap.size w (w.alloc (.cells #[.int .i64 0, .int .i64 0, .int .i64 0, .slice none 0 0, .int .i64 0, .int .i64 0] 38)) := (Below.refl _ _).alloc (Nat.le_refl _) _
  have bR : Box w.heap.size #[.int .i64 0, .int .i64 0, .int .i64 0, .slice none 0 0, .int .i64 0, .int .i64 0] 38 (w.alloc (.cells #[.int .i64 0, .int .i64 0, .int .i64 0, .slice none 0 0, .int .i64 0, .int .i64 0] 38)) w.heap.size := newBox (Nat.le_refl _)
  have d0 := cell_keep nb c0
  have d1 := cell_keep nb c1
  have d2 := cell_keep nb c2
  have d3 := cell_keep nb c3
  clear c0 c1 c2 c3
  go_enter Try.func20, Try.ntmps20
  go_wp2_with fail
  generalize w.alloc (.cells #[.int .i64 0, .int .i64 0, .int .i64 0, .slice none 0 0, .int .i64 0, .int .i64 0] 38) = W0 at *
  first
    | go_region_held3 (fun w' => w'.cell? ⟨b, off, none⟩ = some (.int .i64 1) ∧ w'.cell? ⟨b, off + 1, none⟩ = some (.int .i64 i) ∧ w'.cell? ⟨b, off + 2, none⟩ = some (.int .i64 s) ∧ w'.cell? ⟨b, off + 3, none⟩ = some (.int .i64 q))
        (first
          | exact ⟨d0, d1, d2, d3⟩
          | (refine ⟨(World.grownBy_alloc _ _ none).cell ?_ (by simp), (World.grownBy_alloc _ _ none).cell ?_ (by simp), (World.grownBy_alloc _ _ none).cell ?_ (by simp), (World.grownBy_alloc _ _ none).cell ?_ (by simp)⟩ <;> assumption)
          | go_keep)
        (fail)
    | fail
  clear d0 d1 d2 d3
  have nb1 : Below W0.heap.size W0 (W0.alloc (.cells #[.int .i64 1, .int .i64 i, .slice none 0 0, .int .i64 s, .int .i64 q] 27)).drew := ((Below.refl _ _).alloc (Nat.le_refl _) _).drew
  have bX : Box W0.heap.size #[.int .i64 1, .int .i64 i, .slice none 0 0, .int .i64 s, .int .i64 q] 27 (W0.alloc (.cells #[.int .i64 1, .int .i64 i, .slice none 0 0, .int .i64 s, .int .i64 q] 27)).drew W0.heap.size := (newBox (Nat.le_refl _)).drew
  generalize (W0.alloc (.cells #[.int .i64 1, .int .i64 i, .slice none 0 0, .int .i64 s, .int .i64 q] 27)).drew = W1 at *
  have hX := bX.lt
  have hR := bR.lt
  replace bR := bR.keep nb1
  have HB1 := hide (nb.trans (nb1.mono nb.size))
  replace hv := (hv.later nb).later nb1
  clear nb nb1
  generalize hs0 : W0.heap.size = sx at *
  clear hs0
  have x0 := bX.at 0 _ rfl
  have x1 := bX.at 1 _ rfl
  have x2 := bX.at 2 _ rfl
  have x3 := bX.at 3 _ rfl
  have x4 := bX.at 4 _ rfl
  go_wp2_with fail
  refine (slClone _ _ [x, y, z] _ hv (by simp)).mono ?_
  rintro e w2 ⟨v2, rfl, O, hb⟩
  replace bR := bR.keep hb
  replace bX := bX.keep hb
  replace HB1 := hide ((unhide HB1).trans (hb.mono (unhide HB1).size))
  have hz2 := hb.size
  clear hb hv x0 x1 x2 x3 x4
  obtain ⟨a2, p2, rfl⟩ := own_shape O
  have x0 := bX.at 0 _ rfl
  have x1 := bX.at 1 _ rfl
  have x2 := bX.at 2 _ rfl
  have x3 := bX.at 3 _ rfl
  have x4 := bX.at 4 _ rfl
  have xf := bX.soft 2
  have hX2 := bX.lt
  have HO := hide O
  have HR := hide bR
  have HX := hide bX
  clear O bR bX
  simp only [List.length_cons, List.length_nil, Nat.zero_add, Nat.reduceAdd] at HO
  go_wp2_with fail
  have bX := (unhide HX).set 2 (.slice a2 3 p2)
  have bR := (unhide HR).other ⟨sx, 2, none⟩ (.slice a2 3 p2) (by simp; omega)
  have O := own_setC (a := ⟨sx, 2, none⟩) (unhide HO) (by simpa using hX) (.slice a2 3 p2)
  have HB2 : Hid (Below w.heap.size w (w2.setCell ⟨sx, 2, none⟩ (.slice a2 3 p2))) := (unhide HB1).setCell (by simp; omega) _
  clear HB1
  have HB1 := HB2
  clear HB2
  clear HX HR HO x0 x1 x2 x3 x4 xf
  have hz3 : w2.heap.size ≤ (w2.setCell ⟨sx, 2, none⟩ (.slice a2 3 p2)).heap.size := by simp
  generalize w2.setCell ⟨sx, 2, none⟩ (.slice a2 3 p2) = W2 at *
  have hvec : IsInts W2 (.slice a2 3 p2) [x, y, z] := isInts_row (unhide HV) O
  have HO : Hid ((Lay.sl Lay.int).OwnIn W2 [.slice a2 3 p2] [x, y, z] (w.heap.size + 1) W2.heap.size) := (Lay.ownInts (unhide HV) (by simp) O).mono (by omega) (Nat.le_refl _)
  clear O
  have HP : Hid (packD (unpackW [1, i, s, q, x, y, z, c]) = packList 1 i [x, y, z] s q) := by
    show packD (unpackW [1, i, s, q, x, y, z, c]) = packList 1 i [x, y, z] s q
    simp [packD, unpackW]
  refine (implPack 1 i _ s q [x, y, z] W2 hvec).mono ?_
  rintro e w3 ⟨r, rfl, Or, hb⟩
  replace bX := bX.keep hb
  replace bR := bR.keep hb
  replace HO := hide (((unhide HO).later hb).mono (Nat.le_refl _) hb.size)
  replace HB1 := hide ((unhide HB1).trans (hb.mono (unhide HB1).size))
  clear hb hvec
  have Ir := isInts_row packList_wf Or
  have hpl : (packList 1 i [x, y, z] s q).length ≤ 1152921504606846976 := Nat.le_trans packList_len (by omega)
  simp only [intsRes]
  generalize writeFault 1 i [x, y, z] s q = fc at *
  generalize packList 1 i [x, y, z] s q = pl at *
  have hfld : ∀ w : World, (Instr.field 32 (.agg #[.int .i64 fc, r]) 1).run Try.prog w = .ok r w := fun _ => by
    obtain ⟨ar, pr, rfl⟩ := own_shape Or
    kernel_rfl
  have HI := hide Ir
  have HR := hide bR
  have HX := hide bX
  clear Or Ir bR bX
  go_wp2_with fail
  clear hfld
  refine (slEqual _ _ pl [1, i, s, q, x, y, z, c] w3 (unhide HI) ((unhide H).later (unhide HB1)) hpl).mono ?_
  rintro e w4 ⟨rfl, hb⟩
  have bX := (unhide HX).keep hb
  have bR := (unhide HR).keep hb
  replace HO := hide (((unhide HO).later hb).mono (Nat.le_refl _) hb.size)
  replace HB1 := hide ((unhide HB1).trans (hb.mono (unhide HB1).size))
  clear hb HX HR HI hpl
  have x0 := bX.at 0 _ rfl
  have x1 := bX.at 1 _ rfl
  have x2 := bX.at 2 _ rfl
  have x3 := bX.at 3 _ rfl
  have x4 := bX.at 4 _ rfl
  have r0 := bR.at 0 _ rfl
  have r1 := bR.at 1 _ rfl
  have r2 := bR.at 2 _ rfl
  have r3 := bR.at 3 _ rfl
  have r4 := bR.at 4 _ rfl
  have r5 := bR.at 5 _ rfl
  have rf := bR.soft
  have rl := bR.lt
  clear bX bR
  simp only [List.getElem_toArray, List.getElem_cons_zero, List.getElem_cons_succ] at x0 x1 x2 x3 x4 r0 r1 r2 r3 r4 r5
  by_cases he : pl = [1, i, s, q, x, y, z, c]
  · have HU : Hid (unpackR [1, i, s, q, x, y, z, c] = ⟨0, unpackW [1, i, s, q, x, y, z, c]⟩) := by
      show unpackR [1, i, s, q, x, y, z, c] = ⟨0, unpackW [1, i, s, q, x, y, z, c]⟩
      rw [unpackR, if_pos ⟨rfl, (unhide HP).trans he⟩]
    rw [show decide (pl = [1, i, s, q, x, y, z, c]) = true by simpa using he]
    clear he HP
    go_wp2_with fail
    refine bodyPost_ret (v := .agg #[.int .i64 0, .int .i64 1, .int .i64 i, .slice a2 3 p2, .int .i64 s, .int .i64 q]) (by simp [results, Try.results20, go_sem, r0, r1, r2, r3, r4, r5]) rfl ?_
    rw [unhide HU]
    obtain ⟨f0, f1, f2, f3⟩ := unhide HF
    have own : (Lay.sl Lay.int).OwnIn w4 [.slice a2 3 p2] (unpackW [1, i, s, q, x, y, z, c]).vec (w.heap.size + 1) w4.heap.size := by
      rw [show (unpackW [1, i, s, q, x, y, z, c]).vec = [x, y, z] by simp [unpackW]]
      exact unhide HO
    have own2 := own_okW own f0 f1 f2 f3
    exact toldW_store (vs := [.int .i64 0, .int .i64 1, .int .i64 i, .slice a2 3 p2, .int .i64 s, .int .i64 q]) own2 (Nat.le_refl _) (unhide HB1)
  · have HU : Hid (unpackR [1, i, s, q, x, y, z, c] = ⟨5, zeroW⟩) := by
      show unpackR [1, i, s, q, x, y, z, c] = ⟨5, zeroW⟩
      rw [unpackR, if_neg (fun q => he ((unhide HP).symm.trans q.2))]
    rw [show decide (pl = [1, i, s, q, x, y, z, c]) = false by simpa using he]
    clear he HP
    go_wp2_with fail
    refine bodyPost_ret (v := .agg #[.int .i64 5, .int .i64 0, .int .i64 0, .slice none 0 0, .int .i64 0, .int .i64 0]) (by simp [results, Try.results20, go_sem, r0, r1, r2, r3, r4, r5]) rfl ?_
    rw [unhide HU]
    exact ⟨[.int .i64 5, .int .i64 0, .int .i64 0, .slice none 0 0, .int .i64 0, .int .i64 0], rfl, own_badW rfl, below_setAll (unhide HB1) w.heap.size 0 [.int .i64 5, .int .i64 0, .int .i64 0, .slice none 0 0, .int .i64 0, .int .i64 0] (Nat.le_refl _)⟩

set_option maxRecDepth 100000 in
set_option maxHeartbeats 4000000 in
theorem implUnpack_other (b off cap : Nat) (k i s q x y z c : Int) (w : World) (h : IsInts w (.slice (some ⟨b, off, none⟩) 8 cap) [k, i, s, q, x, y, z, c]) (hk : k ≠ 1) :
    Calls Try.prog 20 #[.slice (some ⟨b, off, none⟩) 8 cap] w fun e w' => ToldW w w' e (unpackR [k, i, s, q, x, y, z, c]) := by
  have hc : ∀ j, j < 8 → w.cell? ⟨b, off + j, none⟩ = some (.int .i64 ([k, i, s, q, x, y, z, c].getD j 0)) := by
    obtain ⟨ao, cp, e, -, hc⟩ := h
    obtain ⟨b', off', rfl, hc1⟩ := hc (by simp)
    simp only [Value.slice.injEq, Option.some.injEq, Addr.mk.injEq, and_true] at e
    obtain ⟨⟨rfl, rfl⟩, -, -⟩ := e
    exact hc1
  have c0 : w.cell? ⟨b, off, none⟩ = some (.int .i64 k) := hc 0 (by omega)
  have c1 : w.cell? ⟨b, off + 1, none⟩ = some (.int .i64 i) := hc 1 (by omega)
  have c2 : w.cell? ⟨b, off + 2, none⟩ = some (.int .i64 s) := hc 2 (by omega)
  have c3 : w.cell? ⟨b, off + 3, none⟩ = some (.int .i64 q) := hc 3 (by omega)
  have hwf := h.wf
  have f0 : (Lit.int .i64 k).wf = true := hwf k (by simp)
  have f1 : (Lit.int .i64 i).wf = true := hwf i (by simp)
  have f2 : (Lit.int .i64 s).wf = true := hwf s (by simp)
  have f3 : (Lit.int .i64 q).wf = true := hwf q (by simp)
  have HF := hide (And.intro f0 (And.intro f1 (And.intro f2 f3)))
  have H := hide h
  clear h hc hwf f0 f1 f2 f3
  have nb : Below w.heap.size w (w.alloc (.cells #[.int .i64 0, .int .i64 0, .int .i64 0, .slice none 0 0, .int .i64 0, .int .i64 0] 38)) := (Below.refl _ _).alloc (Nat.le_refl _) _
  have bR : Box w.heap.size #[.int .i64 0, .int .i64 0, .int .i64 0, .slice none 0 0, .int .i64 0, .int .i64 0] 38 (w.alloc (.cells #[.int .i64 0, .int .i64 0, .int .i64 0, .slice none 0 0, .int .i64 0, .int .i64 0] 38)) w.heap.size := newBox (Nat.le_refl _)
  have d0 := cell_keep nb c0
  have d1 := cell_keep nb c1
  have d2 := cell_keep nb c2
  have d3 := cell_keep nb c3
  clear c0 c1 c2 c3
  go_enter Try.func20, Try.ntmps20
  go_wp2_with fail
  generalize w.alloc (.cells #[.int .i64 0, .int .i64 0, .int .i64 0, .slice none 0 0, .int .i64 0, .int .i64 0] 38) = W0 at *
  first
    | go_region_held3 (fun w' => w'.cell? ⟨b, off, none⟩ = some (.int .i64 k) ∧ w'.cell? ⟨b, off + 1, none⟩ = some (.int .i64 i) ∧ w'.cell? ⟨b, off + 2, none⟩ = some (.int .i64 s) ∧ w'.cell? ⟨b, off + 3, none⟩ = some (.int .i64 q))
        (first
          | exact ⟨d0, d1, d2, d3⟩
          | (refine ⟨(World.grownBy_alloc _ _ none).cell ?_ (by simp), (World.grownBy_alloc _ _ none).cell ?_ (by simp), (World.grownBy_alloc _ _ none).cell ?_ (by simp), (World.grownBy_alloc _ _ none).cell ?_ (by simp)⟩ <;> assumption)
          | go_keep)
        (fail)
    | fail
  clear d0 d1 d2 d3
  have nb1 : Below W0.heap.size W0 (W0.alloc (.cells #[.int .i64 k, .int .i64 i, .slice none 0 0, .int .i64 s, .int .i64 q] 27)).drew := ((Below.refl _ _).alloc (Nat.le_refl _) _).drew
  have bX : Box W0.heap.size #[.int .i64 k, .int .i64 i, .slice none 0 0, .int .i64 s, .int .i64 q] 27 (W0.alloc (.cells #[.int .i64 k, .int .i64 i, .slice none 0 0, .int .i64 s, .int .i64 q] 27)).drew W0.heap.size := (newBox (Nat.le_refl _)).drew
  generalize (W0.alloc (.cells #[.int .i64 k, .int .i64 i, .slice none 0 0, .int .i64 s, .int .i64 q] 27)).drew = W1 at *
  have hX := bX.lt
  have hR := bR.lt
  replace bR := bR.keep nb1
  have HB1 := hide (nb.trans (nb1.mono nb.size))
  skip
  clear nb nb1
  generalize hs0 : W0.heap.size = sx at *
  clear hs0
  have x0 := bX.at 0 _ rfl
  have x1 := bX.at 1 _ rfl
  have x2 := bX.at 2 _ rfl
  have x3 := bX.at 3 _ rfl
  have x4 := bX.at 4 _ rfl
  have HR := hide bR
  have HX := hide bX
  clear bR bX
  go_wp2_with fail
  have bX := unhide HX
  have bR := unhide HR
  clear HX HR x0 x1 x2 x3 x4
  obtain ⟨W2, hW2⟩ : ∃ W2, W2 = W1 := ⟨_, rfl⟩
  subst hW2
  have hvec : IsInts W2 (.slice none 0 0) [] := ⟨none, 0, rfl, by simp, by simp⟩
  have HO : Hid ((Lay.sl Lay.int).OwnIn W2 [.slice none 0 0] [] (w.heap.size + 1) W2.heap.size) := ⟨[], ⟨Lay.lies_ints.2 ⟨none, 0, rfl, ⟨by simp, by simp⟩, by simp, Or.inl ⟨rfl, rfl⟩⟩, by simp, by simp⟩, by simp⟩
  have HP : Hid (packD (unpackW [k, i, s, q, x, y, z, c]) = packList k i [] s q) := by
    show packD (unpackW [k, i, s, q, x, y, z, c]) = packList k i [] s q
    simp [packD, unpackW, hk]
  refine (implPack k i _ s q [] W2 hvec).mono ?_
  rintro e w3 ⟨r, rfl, Or, hb⟩
  replace bX := bX.keep hb
  replace bR := bR.keep hb
  replace HO := hide (((unhide HO).later hb).mono (Nat.le_refl _) hb.size)
  replace HB1 := hide ((unhide HB1).trans (hb.mono (unhide HB1).size))
  clear hb hvec
  have Ir := isInts_row packList_wf Or
  have hpl : (packList k i [] s q).length ≤ 1152921504606846976 := Nat.le_trans packList_len (by omega)
  simp only [intsRes]
  generalize writeFault k i [] s q = fc at *
  generalize packList k i [] s q = pl at *
  have hfld : ∀ w : World, (Instr.field 32 (.agg #[.int .i64 fc, r]) 1).run Try.prog w = .ok r w := fun _ => by
    obtain ⟨ar, pr, rfl⟩ := own_shape Or
    kernel_rfl
  have HI := hide Ir
  have HR := hide bR
  have HX := hide bX
  clear Or Ir bR bX
  go_wp2_with fail
  clear hfld
  refine (slEqual _ _ pl [k, i, s, q, x, y, z, c] w3 (unhide HI) ((unhide H).later (unhide HB1)) hpl).mono ?_
  rintro e w4 ⟨rfl, hb⟩
  have bX := (unhide HX).keep hb
  have bR := (unhide HR).keep hb
  replace HO := hide (((unhide HO).later hb).mono (Nat.le_refl _) hb.size)
  replace HB1 := hide ((unhide HB1).trans (hb.mono (unhide HB1).size))
  clear hb HX HR HI hpl
  have x0 := bX.at 0 _ rfl
  have x1 := bX.at 1 _ rfl
  have x2 := bX.at 2 _ rfl
  have x3 := bX.at 3 _ rfl
  have x4 := bX.at 4 _ rfl
  have r0 := bR.at 0 _ rfl
  have r1 := bR.at 1 _ rfl
  have r2 := bR.at 2 _ rfl
  have r3 := bR.at 3 _ rfl
  have r4 := bR.at 4 _ rfl
  have r5 := bR.at 5 _ rfl
  have rf := bR.soft
  have rl := bR.lt
  clear bX bR
  simp only [List.getElem_toArray, List.getElem_cons_zero, List.getElem_cons_succ] at x0 x1 x2 x3 x4 r0 r1 r2 r3 r4 r5
  by_cases he : pl = [k, i, s, q, x, y, z, c]
  · have HU : Hid (unpackR [k, i, s, q, x, y, z, c] = ⟨0, unpackW [k, i, s, q, x, y, z, c]⟩) := by
      show unpackR [k, i, s, q, x, y, z, c] = ⟨0, unpackW [k, i, s, q, x, y, z, c]⟩
      rw [unpackR, if_pos ⟨rfl, (unhide HP).trans he⟩]
    rw [show decide (pl = [k, i, s, q, x, y, z, c]) = true by simpa using he]
    clear he HP
    go_wp2_with fail
    refine bodyPost_ret (v := .agg #[.int .i64 0, .int .i64 k, .int .i64 i, .slice none 0 0, .int .i64 s, .int .i64 q]) (by simp [results, Try.results20, go_sem, r0, r1, r2, r3, r4, r5]) rfl ?_
    rw [unhide HU]
    obtain ⟨f0, f1, f2, f3⟩ := unhide HF
    have own : (Lay.sl Lay.int).OwnIn w4 [.slice none 0 0] (unpackW [k, i, s, q, x, y, z, c]).vec (w.heap.size + 1) w4.heap.size := by
      rw [show (unpackW [k, i, s, q, x, y, z, c]).vec = [] by simp [unpackW, hk]]
      exact unhide HO
    have own2 := own_okW own f0 f1 f2 f3
    exact toldW_store (vs := [.int .i64 0, .int .i64 k, .int .i64 i, .slice none 0 0, .int .i64 s, .int .i64 q]) own2 (Nat.le_refl _) (unhide HB1)
  · have HU : Hid (unpackR [k, i, s, q, x, y, z, c] = ⟨5, zeroW⟩) := by
      show unpackR [k, i, s, q, x, y, z, c] = ⟨5, zeroW⟩
      rw [unpackR, if_neg (fun q => he ((unhide HP).symm.trans q.2))]
    rw [show decide (pl = [k, i, s, q, x, y, z, c]) = false by simpa using he]
    clear he HP
    go_wp2_with fail
    refine bodyPost_ret (v := .agg #[.int .i64 5, .int .i64 0, .int .i64 0, .slice none 0 0, .int .i64 0, .int .i64 0]) (by simp [results, Try.results20, go_sem, r0, r1, r2, r3, r4, r5]) rfl ?_
    rw [unhide HU]
    exact ⟨[.int .i64 5, .int .i64 0, .int .i64 0, .slice none 0 0, .int .i64 0, .int .i64 0], rfl, own_badW rfl, below_setAll (unhide HB1) w.heap.size 0 [.int .i64 5, .int .i64 0, .int .i64 0, .slice none 0 0, .int .i64 0, .int .i64 0] (Nat.le_refl _)⟩

/-- UnpackWrite of the program. -/
theorem implUnpack (v : Value) (zs : List Int) (w : World) (h : (Lay.sl Lay.int).Reads w [v] zs) :
    Calls Try.prog 20 #[v] w fun e w' => ToldW w w' e (unpackR zs) := by
  have hi := Lay.ints_reads h
  have hi' := hi
  obtain ⟨ao, cap, rfl, -, hc⟩ := hi'
  by_cases hl : zs.length = 8
  · obtain ⟨k, i, s, q, x, y, z, c, rfl⟩ := eight hl
    obtain ⟨b, off, rfl, -⟩ := hc (by simp)
    have hcap := h.cap.2
    by_cases hk : k = 1
    · subst hk
      exact implUnpack_put b off cap i s q x y z c w hi hcap
    · exact implUnpack_other b off cap k i s q x y z c w hi hk
  · rw [unpackR_len hl]
    exact implUnpack_len ao _ cap w hl

end Go.Proofs.Ytgjjmbliahhhjaa
