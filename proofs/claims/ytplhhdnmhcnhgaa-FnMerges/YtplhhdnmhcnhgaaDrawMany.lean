/-
  l2Many draws a list of hits: at most 300, in new memory.
  Condition: at most 1000000 numbers have been drawn.
-/
import Derived.Test.YtplhhdnmhcnhgaaDrawHits
namespace Go.Proofs.Ytplhhdnmhcnhgaa
open Go.RowKit

/-- One more hit at the end of a row. -/
theorem wf_snoc {hs : List (Int × Int)} {x y : Int} (h : ∀ p ∈ hs, Wf2 p) (hw : Wf2 (x, y)) : ∀ p ∈ hs ++ [(x, y)], Wf2 p := by
  intro p hp
  rcases List.mem_append.1 hp with h1 | h1
  · exact h p h1
  · simp at h1
    subst h1
    exact hw

set_option maxHeartbeats 1000000 in
theorem many (b m : Nat) (cv : Value) (w : World) (hs : SrcAt w b cv m) (hc : IsCode b w cv) (hm : m ≤ 1000000) :
    Calls Try.prog 37 #[.pointer (some ⟨b, 0, none⟩)] w (ManyPost b m 60 cv w) := by
  have hbw := hs.lt
  have s0 := hs.alloc (.cells #[] 31)
  have c0 := hc.alloc (Nat.le_of_lt hbw) (.cells #[] 31)
  have g0 := World.grownBy_alloc w (.cells #[] 31) (some b)
  have o0 : (w.alloc (.cells #[] 31)).ownsRow w.heap.size 31 2 (.slice (some ⟨w.heap.size, 0, none⟩) 0 0) 0 (cells2 []) := World.ownsRow_lit w #[] 0 (Nat.le_refl _) (by unfold maxLen; omega) rfl
  clear hs hc
  go_enter Try.func37, Try.ntmps37
  go_wp2_with fail
  refine (next b m cv 14 _ s0 c0 (by omega) (by omega) (by omega)).mono ?_
  rintro e w1 ⟨r, rfl, hr, s1, c1, g1⟩
  have o1 := o0.kept g1 (Or.inr (own_ne o0 hbw))
  have G1 := hide (grown_trans g0 g1)
  have hz1 : w.heap.size ≤ w1.heap.size := (unhide G1).size
  clear s0 c0 g0 o0 g1
  go_wp2_with fail
  go_loopw [3, 4] (fun v i wr => ∃ (j m' cp : Nat) (a : Option Addr) (hs : List (Int × Int)), i = .int .i64 j ∧ v = .slice a hs.length cp ∧ hs.length + j = r ∧ m' + 2 * j ≤ m + 30 ∧ (∀ p ∈ hs, Wf2 p) ∧ wr.ownsRow w.heap.size 31 2 v hs.length (cells2 hs) ∧ SrcAt wr b cv m' ∧ IsCode b wr cv ∧ w.grownBy wr (some b))
    (fun _ i _ => (intOf i).toNat)
  case atStart => exact ⟨r, m + 1, 0, _, [], rfl, rfl, by simp, by omega, by simp, o1, s1, c1, unhide G1⟩
  case round =>
    obtain ⟨j, m', cp, a, hs, rfl, rfl, hj, hmm, hwf, hown, s2, c2, g2⟩ := hrel
    have HWF := hide hwf
    have HW := hide g2
    have hwr := g2.size
    clear o1 s1 c1 hwf g2
    by_cases hp : 0 < j
    · have d1 : decide ((0 : Int) < (j : Int)) = true := by simp; omega
      go_wp2_with fail
      refine (drawHit b m' cv _ s2 c2 (by omega)).mono ?_
      rintro e w3 ⟨x, y, rfl, hxy, s3, c3, g3⟩
      have o3 := (hown.kept g3 (Or.inr (own_ne hown hbw))).alloc (.cells #[.int .i64 x, .int .i64 y] 31)
      have X3 : IsHits (w3.alloc (.cells #[.int .i64 x, .int .i64 y] 31)) (.slice (some ⟨w3.heap.size, 0, none⟩) 1 1) [(x, y)] := hit_new x y hxy
      have hz3 : w.heap.size ≤ w3.heap.size := by have := g3.size; omega
      have G4 := hide (grown_trans (grown_trans (unhide HW) g3) (World.grownBy_alloc w3 (.cells #[.int .i64 x, .int .i64 y] 31) _))
      have S4 := hide (s3.alloc (.cells #[.int .i64 x, .int .i64 y] 31))
      have C4 := hide (c3.alloc (by omega) (.cells #[.int .i64 x, .int .i64 y] 31))
      have HX := hide (wf_snoc (unhide HWF) hxy)
      clear hown s2 c2 g3 s3 c3 hxy HWF HW
      go_wp2_with (at_builtin; refine wpList_append_hits rfl _ _ rfl w.heap.size _ hs.length hs rfl o3 _ [(x, y)] rfl X3 (by simp; omega) (by simp; omega) ?_)
      intro v5 w5 o5 g5 _
      have S5 := hide ((unhide S4).keep g5 (Ne.symm (own_ne o3 hbw)))
      have C5 := hide ((unhide C4).later ((Below.refl b _).grown g5 (by simp; omega) (fun q hq => by have := (o3.lt q hq).1; omega)))
      have G5 := hide (grown_new (unhide G4) g5 (fun q hq => (o3.lt q hq).1))
      have O5 : Hid (w5.ownsRow w.heap.size 31 2 v5 (hs ++ [(x, y)]).length (cells2 (hs ++ [(x, y)]))) := by
        show w5.ownsRow w.heap.size 31 2 v5 (hs ++ [(x, y)]).length (cells2 (hs ++ [(x, y)]))
        rw [List.length_append]
        exact o5
      obtain ⟨a5, c5, rfl⟩ := own_shape (unhide O5)
      clear o3 X3 o5 g5 S4 C4 G4
      go_wp2_with fail
      go_roundw
      case rel => exact ⟨j - 1, m' + 2, c5, a5, hs ++ [(x, y)], by go_num, rfl, by simp; omega, by omega, unhide HX, unhide O5, unhide S5, unhide C5, unhide G5⟩
      case measure => simp [intOf]; omega
    · obtain rfl : j = 0 := by omega
      have hlen : hs.length ≤ 13 := by omega
      go_wp2_with fail
      refine (next b m' cv 14 _ s2 c2 (by omega) (by omega) (by omega)).mono ?_
      rintro e w3 ⟨q, rfl, hq, s3, c3, g3⟩
      have o3 := hown.kept g3 (Or.inr (own_ne hown hbw))
      have G3 := hide (grown_trans (unhide HW) g3)
      have hz3 : w.heap.size ≤ w3.heap.size := by have := g3.size; omega
      clear hown s2 c2 g3 HW
      rcases (show q = 0 ∨ q = 1 ∨ 2 ≤ q by omega) with rfl | rfl | h2
      · go_wp2_with fail
        have e := pick b (m' + 1) w3.heap.size cv [0, 999, 1000] (w3.alloc (.cells #[.int .i64 0, .int .i64 999, .int .i64 1000] 2)) (s3.alloc _) (c3.alloc (by omega) _) (by omega) (by simp) (by simp) (heap_alloc_new w3 _) (by omega)
        refine e.mono ?_
        clear e
        rintro e w4 ⟨x, rfl, hx, s4, c4, g4⟩
        have hxx : -1000000000 ≤ x ∧ x ≤ 1000000000 := by
          simp at hx
          omega
        have o4 := (o3.alloc (.cells #[.int .i64 0, .int .i64 999, .int .i64 1000] 2)).kept g4 (Or.inr (own_ne o3 hbw))
        have G4 := hide (grown_trans (grown_trans (unhide G3) (World.grownBy_alloc w3 (.cells #[.int .i64 0, .int .i64 999, .int .i64 1000] 2) _)) g4)
        have hz4 : w.heap.size ≤ w4.heap.size := (unhide G4).size
        clear o3 s3 c3 g4 G3 hx
        go_wp2_with fail
        have e := pick b (m' + 1 + 1) w4.heap.size cv [0, -1, 12000000, 12000001] (w4.alloc (.cells #[.int .i64 0, .int .i64 (-1), .int .i64 12000000, .int .i64 12000001] 2)) (s4.alloc _) (c4.alloc (by omega) _) (by omega) (by simp) (by simp) (heap_alloc_new w4 _) (by omega)
        refine e.mono ?_
        clear e
        rintro e w5 ⟨y, rfl, hy, s5, c5, g5⟩
        have hyy : -1000000000 ≤ y ∧ y ≤ 1000000000 := by
          simp at hy
          omega
        have hxy : Wf2 (x, y) := wf2_of hxx hyy
        have o5 := ((o4.alloc (.cells #[.int .i64 0, .int .i64 (-1), .int .i64 12000000, .int .i64 12000001] 2)).kept g5 (Or.inr (own_ne o4 hbw))).alloc (.cells #[.int .i64 x, .int .i64 y] 31)
        have G5 := hide (grown_trans (grown_trans (grown_trans (unhide G4) (World.grownBy_alloc w4 (.cells #[.int .i64 0, .int .i64 (-1), .int .i64 12000000, .int .i64 12000001] 2) _)) g5) (World.grownBy_alloc w5 (.cells #[.int .i64 x, .int .i64 y] 31) _))
        have hz5 : w.heap.size ≤ w5.heap.size := by have := g5.size; simp at this; omega
        have X5 : IsHits (w5.alloc (.cells #[.int .i64 x, .int .i64 y] 31)) (.slice (some ⟨w5.heap.size, 0, none⟩) 1 1) [(x, y)] := hit_new x y hxy
        have S5 := hide (s5.alloc (.cells #[.int .i64 x, .int .i64 y] 31))
        have C5 := hide (c5.alloc (by omega) (.cells #[.int .i64 x, .int .i64 y] 31))
        have HX := hide (wf_snoc (unhide HWF) hxy)
        clear o4 s4 c4 g5 G4 hy hxx hyy hxy s5 c5 HWF
        go_wp2_with (at_builtin; refine wpList_append_hits rfl _ _ rfl w.heap.size _ hs.length hs rfl o5 _ [(x, y)] rfl X5 (by simp; omega) (by simp; omega) ?_)
        intro v6 w6 o6 g6 _
        have S6 := hide ((unhide S5).keep g6 (Ne.symm (own_ne o5 hbw)))
        have C6 := hide ((unhide C5).later ((Below.refl b _).grown g6 (by simp; omega) (fun q hq => by have := (o5.lt q hq).1; omega)))
        have G6 := hide (grown_new (unhide G5) g6 (fun q hq => (o5.lt q hq).1))
        have O6 : Hid (w6.ownsRow w.heap.size 31 2 v6 (hs ++ [(x, y)]).length (cells2 (hs ++ [(x, y)]))) := by
          show w6.ownsRow w.heap.size 31 2 v6 (hs ++ [(x, y)]).length (cells2 (hs ++ [(x, y)]))
          rw [List.length_append]
          exact o6
        clear o5 X5 o6 g6 S5 C5 G5
        go_wp2_with fail
        go_ret
        exact ⟨v6, hs ++ [(x, y)], m' + 3, rfl, by simp; omega, unhide HX, unhide O6, by omega, unhide S6, unhide C6, unhide G6⟩
      · obtain ⟨i0, hi, hz0, hz1', hz2⟩ := info_parts infoHit
        go_wp2_with (at_make; refine wpList_make_full _ rfl _ _ 24 rfl w.heap.size 31 i0 _ 2 Try.underlying24 hi hz0 hz1' _ _ _ _ 201 rfl rfl rfl rfl ?c1 ?c2 ?c3 ?_)
        case c1 => rw [hz2]; omega
        case c2 => unfold maxLen; omega
        case c3 => omega
        intro w4 o4 g4
        rw [show (madeCells #[.int .i64 0, .int .i64 0] 402).toList = cells2 (List.replicate 201 (0, 0)) from made2 201] at o4
        have O4 := hide o4
        have S4 := hide (s3.keep g4 (by simp))
        have C4 := hide (c3.later ((Below.refl b _).grown g4 (by omega) (fun q hq => by simp at hq)))
        have G4 := hide (grown_new (unhide G3) g4 (fun q hq => by simp at hq))
        clear o3 s3 c3 o4 g4 G3 hi hz0 hz1' hz2
        go_wp2_with fail
        go_ret
        refine ⟨_, List.replicate 201 (0, 0), m' + 1, rfl, by rw [List.length_replicate]; omega, ?_, by rw [List.length_replicate]; exact unhide O4, by omega, unhide S4, unhide C4, unhide G4⟩
        intro p hp
        rw [List.eq_of_mem_replicate hp]
        exact wf2_of (by omega) (by omega)
      · have d0 : ((q : Int) == 0) = false := by rw [beq_eq_false_iff_ne]; omega
        have d1 : ((q : Int) == 1) = false := by rw [beq_eq_false_iff_ne]; omega
        have O3 := hide o3
        have S3 := hide s3
        have C3 := hide c3
        clear o3 s3 c3
        go_wp2_with fail
        go_ret
        exact ⟨_, hs, m' + 1, rfl, by omega, unhide HWF, unhide O3, by omega, unhide S3, unhide C3, unhide G3⟩

end Go.Proofs.Ytplhhdnmhcnhgaa
