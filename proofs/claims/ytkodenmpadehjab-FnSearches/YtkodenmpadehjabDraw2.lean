/-
  l1Draw draws a vector: three numbers from -1000 to 1000, in new memory.
  Condition: at most 100000000 numbers have been drawn.
-/
import Derived.Test.YtkodenmpadehjabDrawKeep
import Derived.Deep.AppendLies
import Derived.Test.YtkodenmpadehjabInfo
namespace Go.Proofs.Ytkodenmpadehjab
open Go.RowKit

def inRange (ds : List Int) : Prop := ∀ d ∈ ds, -1000 ≤ d ∧ d ≤ 1000

set_option maxHeartbeats 1000000 in
theorem draw (b m : Nat) (cv : Value) (w : World) (hs : SrcAt w b cv m) (hc : IsCode b w cv) (hm : m ≤ 100000000) :
    Calls Try.prog 32 #[.pointer (some ⟨b, 0, none⟩)] w fun e w' => ∃ (v : Value) (ds : List Int), e = .returned v ∧ ds.length = 3 ∧ inRange ds ∧ w'.ownsRow w.heap.size 2 1 v 3 (ds.map (Value.int .i64)) ∧
      SrcAt w' b cv (m + 9) ∧ IsCode b w' cv ∧ w.grownBy w' (some b) := by
  obtain ⟨i0, hi0, hz0, hz1, hz2⟩ := info_parts info2
  go_enter Try.func32, Try.ntmps32
  go_wp2_with fail
  go_loopw [3, 4] (fun v i wr => ∃ (k : Nat) (ds : List Int), k ≤ 3 ∧ i = .int .i64 k ∧ ds.length = k ∧ inRange ds ∧ wr.ownsRow w.heap.size 2 1 v k (ds.map (Value.int .i64)) ∧ SrcAt wr b cv (m + 3 * k) ∧ IsCode b wr cv ∧ w.grownBy wr (some b))
    (fun _ i _ => 3 - (intOf i).toNat)
  case atStart =>
    refine ⟨0, [], by omega, rfl, rfl, fun d hd => by simp at hd, ?_, hs.alloc _, hc.alloc (Nat.le_of_lt hs.lt) _, World.grownBy_alloc w _ _⟩
    exact World.ownsRow_lit w #[] 0 (Nat.le_refl _) (by unfold maxLen; omega) rfl
  case round =>
    obtain ⟨k, ds, hk, rfl, hl, hd, hown, hs1, hc1, hg1⟩ := hrel
    have hbw := hs.lt
    have HW := hide hg1
    have hwr := hg1.size
    clear hs hc hg1
    by_cases hlt : k < 3
    · have HD := hide hd
      have HL := hide hl
      clear hd hl hi0 hz0 hz1 hz2
      go_wp2_with fail
      refine (next b (m + 3 * k) cv 9 _ hs1 hc1 (by omega) (by omega) (by omega)).mono ?_
      rintro e w1 ⟨x, rfl, hx, hs2, hc2, hg2⟩
      have hown2 := hown.kept hg2 (Or.inr (own_ne hown hbw))
      have HW2 := hide (grown_trans (unhide HW) hg2)
      have hw1 : wr.heap.size ≤ w1.heap.size := hg2.size
      clear hown hs1 hc1 hg2 HW
      go_wp2_with fail
      refine (next b (m + 3 * k + 1) cv 40 _ hs2 hc2 (by omega) (by omega) (by omega)).mono ?_
      rintro e w2 ⟨y, rfl, hy, hs3, hc3, hg3⟩
      have hown3 := hown2.kept hg3 (Or.inr (own_ne hown2 hbw))
      have HW3 := hide (grown_trans (unhide HW2) hg3)
      have hw2 : w1.heap.size ≤ w2.heap.size := hg3.size
      clear hown2 hs2 hc2 hg3 HW2
      go_wp2_with fail
      have e := pick b (m + 3 * k + 1 + 1) w2.heap.size cv [(x : Int) - 4, (y : Int) - 20, 0, 1000, -1000] (w2.alloc (.cells #[.int .i64 ((x : Int) - 4), .int .i64 ((y : Int) - 20), .int .i64 0, .int .i64 1000, .int .i64 (-1000)] 2)) (hs3.alloc _) (hc3.alloc (by omega) _) (by omega) (by simp) (by simp) (heap_alloc_new w2 _) (by omega)
      refine e.mono ?_
      clear e
      rintro e w3 ⟨r, rfl, hr, hs4, hc4, hg4⟩
      have hrr : -1000 ≤ r ∧ r ≤ 1000 := by
        simp at hr
        omega
      have hown4 := (hown3.alloc (.cells #[.int .i64 ((x : Int) - 4), .int .i64 ((y : Int) - 20), .int .i64 0, .int .i64 1000, .int .i64 (-1000)] 2)).kept hg4 (Or.inr (own_ne hown3 hbw))
      have HW4 := hide (grown_trans (grown_trans (unhide HW3) (World.grownBy_alloc w2 _ _)) hg4)
      have hw3 : w2.heap.size ≤ w3.heap.size := by have := hg4.size; simp at this; omega
      have HR := hide hrr
      clear hown3 hs3 hc3 hg4 HW3 hr hrr
      obtain ⟨i0, hi0, hz0, hz1, hz2⟩ := info_parts info2
      have HS := hide hs4
      have HC := hide hc4
      clear hs4 hc4
      go_wp2_with (at_builtin; refine wpList_append_lies _ rfl _ _ 25 rfl w.heap.size 2 i0 _ 1 8 Try.underlying25 hi0 hz0 hz1 hz2 rfl (by omega) _ k _ rfl (hown4.alloc _) ⟨w3.heap.size, 0, none⟩ 1 1 [.int .i64 r] rfl rfl (World.news_of_block (cs := #[.int .i64 r]) (t := 2) (fr := (0, 0)) (heap_alloc_new w3 _)) (by simp [Value.oneCell']) (by omega) (by unfold maxLen; omega) (by omega) (by simp; omega) (w3.heap.size + 1) (by simp) ?_)
      intro gg cap2 w4 hown5 hgr hat hlt4
      have hne := own_ne hown4 hbw
      have HS5 := hide (((unhide HS).alloc (.cells #[.int .i64 r] 2)).keep hgr (Ne.symm hne))
      have HW5 := hide (grown_new (grown_trans (unhide HW4) (World.grownBy_alloc w3 (.cells #[.int .i64 r] 2) _)) hgr (fun j hj => (hown4.lt j hj).1))
      have HC5 := hide (((unhide HC).alloc (by omega) (.cells #[.int .i64 r] 2)).later (((Below.refl b _).grown hgr (by simp; omega) (fun j hj => by have := (hown4.lt j hj).1; omega))))
      have HO5 : Hid (w4.ownsRow w.heap.size 2 1 (Value.slice (some ⟨gg, 0, none⟩) (k + 1) cap2) (k + 1) ((ds ++ [r]).map (Value.int .i64))) := by
        show w4.ownsRow w.heap.size 2 1 (Value.slice (some ⟨gg, 0, none⟩) (k + 1) cap2) (k + 1) ((ds ++ [r]).map (Value.int .i64))
        rw [List.map_append]
        exact hown5
      clear hown4 hown5 hgr hat HS HC HW4 hne hi0 hz0 hz1 hz2
      go_wp2
      go_roundw
      case rel =>
        refine ⟨k + 1, ds ++ [r], by omega, by go_num, by simp [unhide HL], fun d hd => ?_, unhide HO5, unhide HS5, unhide HC5, unhide HW5⟩
        rcases List.mem_append.1 hd with h | h
        · exact unhide HD d h
        · simp at h
          subst h
          exact unhide HR
      case measure => simp [intOf]; omega
    · obtain rfl : k = 3 := by omega
      have HD := hide hd
      have HL := hide hl
      have HO := hide hown
      have HS := hide hs1
      have HC := hide hc1
      clear hd hl hown hs1 hc1 hi0 hz0 hz1 hz2
      go_wp2
      go_ret
      exact ⟨_, ds, rfl, unhide HL, unhide HD, unhide HO, unhide HS, unhide HC, unhide HW⟩

end Go.Proofs.Ytkodenmpadehjab
