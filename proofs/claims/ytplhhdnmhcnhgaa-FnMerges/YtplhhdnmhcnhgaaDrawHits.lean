/-
  The draws of hits: l2Draw, l2Many, l2DrawK: what they give lies in new memory; of what was there only the source is written.
  Condition: at most 1000000 numbers have been drawn.
-/
import Derived.Test.YtplhhdnmhcnhgaaSource
import Derived.Test.YtplhhdnmhcnhgaaHitAdd
namespace Go.Proofs.Ytplhhdnmhcnhgaa
open Go.RowKit

theorem wf2_of {x y : Int} (hx : -1000000000 ≤ x ∧ x ≤ 1000000000) (hy : -1000000000 ≤ y ∧ y ≤ 1000000000) : Wf2 (x, y) := ⟨wf_of_bd hx, wf_of_bd hy⟩

set_option maxHeartbeats 400000 in
theorem drawHit (b m : Nat) (cv : Value) (w : World) (hs : SrcAt w b cv m) (hc : IsCode b w cv) (hm : m ≤ 100000000) :
    Calls Try.prog 55 #[.pointer (some ⟨b, 0, none⟩)] w fun e w' => ∃ x y : Int, e = .returned (.agg #[.int .i64 x, .int .i64 y]) ∧ Wf2 (x, y) ∧ SrcAt w' b cv (m + 2) ∧ IsCode b w' cv ∧ w.grownBy w' (some b) := by
  have hbw := hs.lt
  have g0 := World.grownBy_alloc w (.cells #[.int .i64 0, .int .i64 0] 31) (some b)
  obtain ⟨k0, k1⟩ := new_cells (w := w) (T := 31) (x := .int .i64 0) (y := .int .i64 0)
  have s0 := hs.alloc (.cells #[.int .i64 0, .int .i64 0] 31)
  have c0 := hc.alloc (Nat.le_of_lt hbw) (.cells #[.int .i64 0, .int .i64 0] 31)
  have f0 : ∀ o, (w.alloc (.cells #[.int .i64 0, .int .i64 0] 31)).frozen? ⟨w.heap.size, o, none⟩ = false := fun o => by simp [go_sem]
  have hsz : (w.alloc (.cells #[.int .i64 0, .int .i64 0] 31)).heap.size = w.heap.size + 1 := by simp
  clear hs hc
  go_enter Try.func55, Try.ntmps55
  go_wp2_with fail
  generalize w.alloc (.cells #[.int .i64 0, .int .i64 0] 31) = wa at *
  refine (next b m cv 9 _ s0 c0 (by omega) (by omega) (by omega)).mono ?_
  rintro e w1 ⟨x, rfl, hx, s1, c1, g1⟩
  have k2 := (g1.cell_far ⟨w.heap.size, 0, none⟩ (by simp; omega) (by simp; omega)).trans k0
  have k3 := (g1.cell_far ⟨w.heap.size, 1, none⟩ (by simp; omega) (by simp; omega)).trans k1
  have f1 : ∀ o, w1.frozen? ⟨w.heap.size, o, none⟩ = false := fun o => (g1.frozen_far ⟨w.heap.size, o, none⟩ (by simp; omega) (by simp; omega)).trans (f0 o)
  have hz1 := g1.size
  have G1 := hide (grown_trans g0 g1)
  clear g0 g1 k0 k1 s0 c0 f0
  go_wp2_with fail
  refine (next b (m + 1) cv 12 _ s1 c1 (by omega) (by omega) (by omega)).mono ?_
  rintro e w2 ⟨y, rfl, hy, s2, c2, g2⟩
  have k4 := (g2.cell_far ⟨w.heap.size, 0, none⟩ (by simp; omega) (by simp; omega)).trans k2
  have k5 := (g2.cell_far ⟨w.heap.size, 1, none⟩ (by simp; omega) (by simp; omega)).trans k3
  have f2 : ∀ o, w2.frozen? ⟨w.heap.size, o, none⟩ = false := fun o => (g2.frozen_far ⟨w.heap.size, o, none⟩ (by simp; omega) (by simp; omega)).trans (f1 o)
  have hz2 : w.heap.size < w2.heap.size := by have := g2.size; omega
  have G2 := hide (grown_trans (unhide G1) g2)
  have S2 := hide s2
  have C2 := hide c2
  clear g2 k2 k3 s1 c1 f1 G1 s2 c2
  go_wp2_with fail
  refine bodyPost_ret (v := .agg #[.int .i64 (1 + (x : Int)), .int .i64 y]) (by simp [results, Try.results55, go_sem, k4, k5]) rfl ?_
  have st1 := grown_set w2 w.heap.size 0 (.int .i64 (1 + (x : Int)))
  have st2 := grown_set (w2.setCell ⟨w.heap.size, 0, none⟩ (.int .i64 (1 + (x : Int)))) w.heap.size 1 (.int .i64 (y : Int))
  have ne : some b ≠ some w.heap.size := by simp; omega
  refine ⟨_, _, rfl, wf2_of (by omega) (by omega), ((unhide S2).keep st1 ne).keep st2 ne, ?_, grown_new (grown_new (unhide G2) st1 (fun j hj => by simp at hj; omega)) st2 (fun j hj => by simp at hj; omega)⟩
  refine ((unhide C2).later ((Below.refl b _).grown st1 (by omega) (fun j hj => by simp at hj; omega))).later ((Below.refl b _).grown st2 (by simp; omega) (fun j hj => by simp at hj; omega))

/-- What a draw of hits leaves. -/
def ManyPost (b m d : Nat) (cv : Value) (w : World) (e : Ending) (w' : World) : Prop :=
  ∃ (v : Value) (hs : List (Int × Int)) (m' : Nat), e = .returned v ∧ hs.length ≤ 300 ∧ (∀ p ∈ hs, Wf2 p) ∧ w'.ownsRow w.heap.size 31 2 v hs.length (cells2 hs) ∧ m' ≤ m + d ∧ SrcAt w' b cv m' ∧ IsCode b w' cv ∧ w.grownBy w' (some b)

set_option maxHeartbeats 400000 in
theorem drawK (b m : Nat) (cv : Value) (w : World) (hs : SrcAt w b cv m) (hc : IsCode b w cv) (hm : m ≤ 100000000) :
    Calls Try.prog 38 #[.pointer (some ⟨b, 0, none⟩)] w fun e w' => ∃ k : Int, e = .returned (.int .i64 k) ∧ (Lit.int .i64 k).wf = true ∧ SrcAt w' b cv (m + 3) ∧ IsCode b w' cv ∧ w.grownBy w' (some b) := by
  have hbw := hs.lt
  go_enter Try.func38, Try.ntmps38
  go_wp2_with fail
  refine (next b m cv 9 _ hs hc (by omega) (by omega) (by omega)).mono ?_
  rintro e w1 ⟨x, rfl, hx, s1, c1, g1⟩
  clear hs hc
  go_wp2_with fail
  refine (next b (m + 1) cv 21 _ s1 c1 (by omega) (by omega) (by omega)).mono ?_
  rintro e w2 ⟨y, rfl, hy, s2, c2, g2⟩
  have hz2 : b < w2.heap.size := s2.lt
  have G2 := hide (grown_trans g1 g2)
  clear g1 g2 s1 c1
  go_wp2_with fail
  have e := pick b (m + 1 + 1) w2.heap.size cv [3, (x : Int), (y : Int), 20, 21, -1] (w2.alloc (.cells #[.int .i64 3, .int .i64 (x : Int), .int .i64 (y : Int), .int .i64 20, .int .i64 21, .int .i64 (-1)] 2)) (s2.alloc _) (c2.alloc (by omega) _) (by omega) (by simp) (by simp) (heap_alloc_new w2 _) (by omega)
  refine e.mono ?_
  clear e
  rintro e w3 ⟨r, rfl, hr, s3, c3, g3⟩
  have hrr : -1000000000 ≤ r ∧ r ≤ 1000000000 := by
    simp at hr
    omega
  have G3 := hide (grown_trans (grown_trans (unhide G2) (World.grownBy_alloc w2 (.cells #[.int .i64 3, .int .i64 (x : Int), .int .i64 (y : Int), .int .i64 20, .int .i64 21, .int .i64 (-1)] 2) _)) g3)
  have S3 := hide s3
  have C3 := hide c3
  have HR := hide hrr
  clear g3 s3 c3 s2 c2 G2 hr hrr
  go_wp2_with fail
  go_ret
  exact ⟨r, rfl, wf_of_bd (unhide HR), unhide S3, unhide C3, unhide G3⟩

end Go.Proofs.Ytplhhdnmhcnhgaa
