/-
  l2Bent draws a list of hits that may be bent; DrawBestOf and DrawMergeHits draw the arguments of BestOf and MergeHits: all in new memory; nothing old is written.
  Condition: a code of at most 1048576 bytes.
-/
import Derived.Test.YtplhhdnmhcnhgaaDrawMany
import Derived.Test.YtplhhdnmhcnhgaaHitBest
namespace Go.Proofs.Ytplhhdnmhcnhgaa
open Go.RowKit

set_option maxHeartbeats 1000000 in
theorem bentHits (b m : Nat) (cv : Value) (w : World) (hs : SrcAt w b cv m) (hc : IsCode b w cv) (hm : m ≤ 1000000) :
    Calls Try.prog 46 #[.pointer (some ⟨b, 0, none⟩)] w (ManyPost b m 80 cv w) := by
  have hbw := hs.lt
  go_enter Try.func46, Try.ntmps46
  go_wp2_with fail
  refine (many b m cv w hs hc hm).mono ?_
  rintro e w1 ⟨v, ds, m', rfl, hl, hwf, o1, hm', s1, c1, g1⟩
  have I1 := isHits_row hwf o1
  have hz1 : w.heap.size ≤ w1.heap.size := g1.size
  have HWF := hide hwf
  have L := l2Best v ds 14 w1 I1 (by omega) (by omega)
  have hbl := best_len 14 ds
  clear hs hc hwf o1 I1
  go_wp2_with fail
  refine L.mono ?_
  rintro e w2 ⟨g, cp, rfl, o2, b2⟩
  have s2 : SrcAt w2 b cv m' := (b2.block b s1.lt).trans s1
  have c2 := c1.later (b2.mono (Nat.le_of_lt s1.lt))
  have g2 : w.grownBy w2 (some b) := ⟨b2.os.trans g1.os, b2.tape.trans g1.tape, b2.output.trans g1.output, Nat.le_trans g1.size b2.size, fun i hi hr => (b2.block i (by omega)).trans (g1.block i hi hr)⟩
  have hwb : ∀ p ∈ best 14 ds, Wf2 p := fun p hp => unhide HWF p (best_mem hp)
  have HWB := hide hwb
  replace o2 := own_mono hz1 o2
  have hz2 : w.heap.size ≤ w2.heap.size := g2.size
  obtain ⟨bs, hbs⟩ : ∃ bs, bs = best 14 ds := ⟨_, rfl⟩
  rw [← hbs] at o2 HWB hbl ⊢
  clear L s1 c1 g1 b2 hwb HWF hbs
  go_wp2_with fail
  refine (next b m' cv 10 _ s2 c2 (by omega) (by omega) (by omega)).mono ?_
  rintro e w3 ⟨q, rfl, hq, s3, c3, g3⟩
  have o3 := o2.kept g3 (Or.inr (own_ne o2 hbw))
  have G3 := hide (grown_trans g2 g3)
  have hz3 : w.heap.size ≤ w3.heap.size := (unhide G3).size
  clear o2 s2 c2 g2 g3
  rcases (show q = 0 ∨ q = 1 ∨ 2 ≤ q by omega) with rfl | rfl | h2
  · go_wp2_with fail
    refine (drawHit b (m' + 1) cv _ s3 c3 (by omega)).mono ?_
    rintro e w4 ⟨x, y, rfl, hxy, s4, c4, g4⟩
    have o4 := (o3.kept g4 (Or.inr (own_ne o3 hbw))).alloc (.cells #[.int .i64 x, .int .i64 y] 31)
    have X4 : IsHits (w4.alloc (.cells #[.int .i64 x, .int .i64 y] 31)) (.slice (some ⟨w4.heap.size, 0, none⟩) 1 1) [(x, y)] := hit_new x y hxy
    have hz4 : w.heap.size ≤ w4.heap.size := by have := g4.size; omega
    have G4 := hide (grown_trans (grown_trans (unhide G3) g4) (World.grownBy_alloc w4 (.cells #[.int .i64 x, .int .i64 y] 31) _))
    have S4 := hide (s4.alloc (.cells #[.int .i64 x, .int .i64 y] 31))
    have C4 := hide (c4.alloc (by omega) (.cells #[.int .i64 x, .int .i64 y] 31))
    have HX := hide (wf_snoc (unhide HWB) hxy)
    clear o3 s3 c3 g4 s4 c4 hxy HWB G3
    go_wp2_with (at_builtin; refine wpList_append_hits rfl _ _ rfl w.heap.size _ bs.length bs rfl o4 _ [(x, y)] rfl X4 (by simp; omega) (by simp; omega) ?_)
    intro v5 w5 o5 g5 _
    have S5 := hide ((unhide S4).keep g5 (Ne.symm (own_ne o4 hbw)))
    have C5 := hide ((unhide C4).later ((Below.refl b _).grown g5 (by simp; omega) (fun q hq => by have := (o4.lt q hq).1; omega)))
    have G5 := hide (grown_new (unhide G4) g5 (fun q hq => (o4.lt q hq).1))
    have O5 : Hid (w5.ownsRow w.heap.size 31 2 v5 (bs ++ [(x, y)]).length (cells2 (bs ++ [(x, y)]))) := by
      show w5.ownsRow w.heap.size 31 2 v5 (bs ++ [(x, y)]).length (cells2 (bs ++ [(x, y)]))
      rw [List.length_append]
      exact o5
    clear o4 X4 o5 g5 S4 C4 G4
    go_wp2_with fail
    go_ret
    exact ⟨v5, bs ++ [(x, y)], m' + 3, rfl, by simp; omega, unhide HX, unhide O5, by omega, unhide S5, unhide C5, unhide G5⟩
  · obtain ⟨i0, hi, hz0, hz1', hz2'⟩ := info_parts infoHit
    go_wp2_with (at_make; refine wpList_make_full _ rfl _ _ 24 rfl w.heap.size 31 i0 _ 2 Try.underlying24 hi hz0 hz1' _ _ _ _ 21 rfl rfl rfl rfl ?c1 ?c2 ?c3 ?_)
    case c1 => rw [hz2']; omega
    case c2 => unfold maxLen; omega
    case c3 => omega
    intro w4 o4 g4
    rw [show (madeCells #[.int .i64 0, .int .i64 0] 42).toList = cells2 (List.replicate 21 (0, 0)) from made2 21] at o4
    have O4 := hide o4
    have S4 := hide (s3.keep g4 (by simp))
    have C4 := hide (c3.later ((Below.refl b _).grown g4 (by omega) (fun q hq => by simp at hq)))
    have G4 := hide (grown_new (unhide G3) g4 (fun q hq => by simp at hq))
    clear o3 s3 c3 o4 g4 G3 hi hz0 hz1' hz2'
    go_wp2_with fail
    go_ret
    refine ⟨_, List.replicate 21 (0, 0), m' + 1, rfl, by rw [List.length_replicate]; omega, ?_, by rw [List.length_replicate]; exact unhide O4, by omega, unhide S4, unhide C4, unhide G4⟩
    intro p hp
    rw [List.eq_of_mem_replicate hp]
    exact wf2_of (by omega) (by omega)
  · have d0 : ((q : Int) == 0) = false := by rw [beq_eq_false_iff_ne]; omega
    have d1 : ((q : Int) == 1) = false := by rw [beq_eq_false_iff_ne]; omega
    have O3 := hide o3
    have S3 := hide s3
    have C3 := hide c3
    clear o3 s3 c3
    go_wp2_with fail
    go_ret
    exact ⟨_, bs, m' + 1, rfl, by omega, unhide HWB, unhide O3, by omega, unhide S3, unhide C3, unhide G3⟩

theorem hits_grown {w w' : World} {base T : Nat} {v : Value} {hs : List (Int × Int)} {b : Nat} (h : w.ownsRow base T 2 v hs.length (cells2 hs)) (hg : w.grownBy w' (some b)) (hb : b < base) : w'.ownsRow base T 2 v hs.length (cells2 hs) := h.kept hg (Or.inr (own_ne h hb))

set_option maxHeartbeats 400000 in
/-- DrawBestOf. -/
theorem drawBestOf (ao : Option Addr) (len cap : Nat) (w : World) (hc : IsCode w.heap.size w (.slice ao len cap)) :
    Calls Try.prog 12 #[.slice ao len cap] w fun e w' => ∃ (v : Value) (hs : List (Int × Int)) (k : Int), e = .returned (.tuple #[v, .int .i64 k]) ∧ hs.length ≤ 300 ∧ (Lit.int .i64 k).wf = true ∧ IsHits w' v hs ∧ Below w.heap.size w w' := by
  go_enter Try.func12, Try.ntmps12
  go_wp2_with fail
  refine (source ao len cap w).mono ?_
  rintro e w1 ⟨rfl, rfl⟩
  have s1 := src_new w (.slice ao len cap)
  have c1 := hc.alloc (Nat.le_refl _) (.cells #[.slice ao len cap, .int .i64 0] 68)
  have b1 : Below w.heap.size w (w.alloc (.cells #[.slice ao len cap, .int .i64 0] 68)) := (Below.refl _ _).alloc (Nat.le_refl _) _
  generalize w.alloc (.cells #[.slice ao len cap, .int .i64 0] 68) = w1 at *
  clear hc
  go_wp2_with fail
  refine (many w.heap.size 0 _ w1 s1 c1 (by omega)).mono ?_
  rintro e w2 ⟨v, hs, m', rfl, hl, hwf, o2, hm', s2, c2, g2⟩
  have hlt := s1.lt
  have b2 : Below w.heap.size w w2 := b1.grown g2 (Nat.le_of_lt hlt) (fun k hk => by simp at hk; omega)
  clear s1 c1 b1 g2
  go_wp2_with fail
  refine (drawK w.heap.size m' _ w2 s2 c2 (by omega)).mono ?_
  rintro e w3 ⟨k, rfl, hk, s3, c3, g3⟩
  have o3 := hits_grown o2 g3 hlt
  have I3 := hide (isHits_row hwf o3)
  have B3 := hide (b2.grown g3 b2.size (fun k hk => by simp at hk; omega))
  have HK := hide hk
  clear s2 c2 s3 c3 g3 o2 o3 b2 hwf hk
  go_wp2_with fail
  go_ret2
  exact ⟨v, hs, k, rfl, hl, unhide HK, unhide I3, unhide B3⟩

set_option maxHeartbeats 400000 in
/-- DrawMergeHits. -/
theorem drawMergeHits (ao : Option Addr) (len cap : Nat) (w : World) (hc : IsCode w.heap.size w (.slice ao len cap)) :
    Calls Try.prog 18 #[.slice ao len cap] w fun e w' => ∃ (u v : Value) (az bz : List (Int × Int)) (k : Int), e = .returned (.tuple #[u, v, .int .i64 k]) ∧ az.length ≤ 300 ∧ bz.length ≤ 300 ∧ (Lit.int .i64 k).wf = true ∧ IsHits w' u az ∧ IsHits w' v bz ∧ Below w.heap.size w w' := by
  go_enter Try.func18, Try.ntmps18
  go_wp2_with fail
  refine (source ao len cap w).mono ?_
  rintro e w1 ⟨rfl, rfl⟩
  have s1 := src_new w (.slice ao len cap)
  have c1 := hc.alloc (Nat.le_refl _) (.cells #[.slice ao len cap, .int .i64 0] 68)
  have b1 : Below w.heap.size w (w.alloc (.cells #[.slice ao len cap, .int .i64 0] 68)) := (Below.refl _ _).alloc (Nat.le_refl _) _
  generalize w.alloc (.cells #[.slice ao len cap, .int .i64 0] 68) = w1 at *
  clear hc
  go_wp2_with fail
  refine (bentHits w.heap.size 0 _ w1 s1 c1 (by omega)).mono ?_
  rintro e w2 ⟨u, az, m2, rfl, hla, hwa, o2, hm2, s2, c2, g2⟩
  have hlt := s1.lt
  have b2 : Below w.heap.size w w2 := b1.grown g2 (Nat.le_of_lt hlt) (fun k hk => by simp at hk; omega)
  have hz2 := g2.size
  clear s1 c1 b1 g2
  go_wp2_with fail
  refine (bentHits w.heap.size m2 _ w2 s2 c2 (by omega)).mono ?_
  rintro e w3 ⟨v, bz, m3, rfl, hlb, hwb, o3, hm3, s3, c3, g3⟩
  have o3' := hits_grown o2 g3 hlt
  have b3 : Below w.heap.size w w3 := b2.grown g3 b2.size (fun k hk => by simp at hk; omega)
  clear s2 c2 g3 o2 b2
  go_wp2_with fail
  refine (drawK w.heap.size m3 _ w3 s3 c3 (by omega)).mono ?_
  rintro e w4 ⟨k, rfl, hk, s4, c4, g4⟩
  have IA := hide (isHits_row hwa (hits_grown o3' g4 hlt))
  have IB := hide (isHits_row hwb (hits_grown o3 g4 (by omega)))
  have B4 := hide (b3.grown g4 b3.size (fun k hk => by simp at hk; omega))
  have HK := hide hk
  clear s3 c3 s4 c4 g4 o3 o3' b3 hwa hwb hk
  go_wp2_with fail
  go_ret3
  exact ⟨u, v, az, bz, k, rfl, hla, hlb, unhide HK, unhide IA, unhide IB, unhide B4⟩

end Go.Proofs.Ytplhhdnmhcnhgaa
