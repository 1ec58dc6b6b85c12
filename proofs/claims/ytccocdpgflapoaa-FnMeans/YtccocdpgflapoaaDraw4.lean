/-
  DrawScoreOf draws two slices of at most four numbers, DrawMeanOf one and a number: in new memory; nothing old is written.
  Condition: at most 1048576 bytes.
-/
import Derived.Test.YtccocdpgflapoaaDraw3
namespace Go.Proofs.Ytccocdpgflapoaa
open Go.RowKit

theorem source (ao : Option Addr) (len cap : Nat) (w : World) :
    Calls Try.prog 20 #[.slice ao len cap] w fun e w' => e = .returned (.pointer (some ⟨w.heap.size, 0, none⟩)) ∧ w.alloc (.cells #[.slice ao len cap, .int .i64 0] 55) = w' := by
  go_enter Try.func20, Try.ntmps20
  go_wp2
  go_ret
  exact ⟨rfl, rfl⟩

theorem src_new (w : World) (cv : Value) : SrcAt (w.alloc (.cells #[cv, .int .i64 0] 55)) w.heap.size cv 0 := heap_alloc_new w _

/-- What a row's reading tells of a slice of bytes that came in. -/
theorem isCode_of_row {w : World} {a : Option Addr} {len cap : Nat} {zs : List Int} (h : (a = none ∧ len = 0 ∧ cap = 0 ∧ zs = []) ∨
    ∃ x, a = some x ∧ len ≤ cap ∧ cap ≤ maxLen ∧ zs.length = cap ∧ (∀ i, i < zs.length → w.cell? (x.add i) = some (.int .u8 (zs.getD i 0))) ∧ ∀ n ∈ zs, (Lit.int .u8 n).wf = true) (hn : len ≤ 1048576) :
    IsCode w.heap.size w (.slice a len cap) := by
  refine ⟨a, len, cap, rfl, hn, fun hp => ?_⟩
  rcases h with ⟨rfl, rfl, rfl, rfl⟩ | ⟨x, rfl, hl, hm, hz, hcell, hwz⟩
  · omega
  · obtain ⟨b, off, spot⟩ := x
    have hc := hcell 0 (by omega)
    have hspot : spot = none := by simpa [Addr.add] using World.cell?_spot hc
    subst hspot
    refine ⟨b, off, rfl, by simpa [Addr.add] using World.block_lt_of_cell? _ _ hc, fun j hj => ⟨zs.getD j 0, ?_, ?_⟩⟩
    · have h1 := hcell j (by omega)
      rwa [Addr.add_lit] at h1
    · have h1 := hwz (zs.getD j 0) (by simp [List.getD, show j < zs.length by omega])
      simpa [Lit.wf, IntKind.min, IntKind.max, IntKind.signed, IntKind.bits] using h1

/-- Two slices of numbers, drawn. -/
def TwoPost (w : World) (e : Ending) (w' : World) : Prop :=
  ∃ v1 v2 zs ys, e = .returned (.tuple #[v1, v2]) ∧ IsInts w' v1 zs ∧ IsInts w' v2 ys ∧ zs.length ≤ 4 ∧ ys.length ≤ 4 ∧ Below w.heap.size w w'

theorem both (ao : Option Addr) (len cap : Nat) (w : World) (hc : IsCode w.heap.size w (.slice ao len cap)) :
    Calls Try.prog 15 #[.slice ao len cap] w (TwoPost w) := by
  go_enter Try.func15, Try.ntmps15
  go_wp2_with fail
  refine (source ao len cap w).mono ?_
  rintro e w1 ⟨rfl, rfl⟩
  have hs1 := src_new w (.slice ao len cap)
  have hc1 := hc.alloc (Nat.le_refl _) (.cells #[.slice ao len cap, .int .i64 0] 55)
  have HB1 := hide ((Below.refl w.heap.size w).alloc (Nat.le_refl _) (.cells #[.slice ao len cap, .int .i64 0] 55))
  clear hc
  go_wp2_with fail
  refine (bent w.heap.size 0 _ _ hs1 hc1 (by omega)).mono ?_
  rintro e w2 ⟨v1, zs, m2, rfl, hl1, hn1, hm2, hs2, hc2, hg2⟩
  have HB2 := hide ((unhide HB1).grown hg2 (by simp) (fun k hk => by simp at hk; omega))
  clear hs1 hc1 hg2 HB1
  go_wp2_with fail
  refine (bent w.heap.size m2 _ _ hs2 hc2 (by omega)).mono ?_
  rintro e w3 ⟨v2, ys, m3, rfl, hl2, hn2, hm3, hs3, hc3, hg3⟩
  have hn1' := hn1.keep hg3 (by simp)
  have HB3 := hide ((unhide HB2).grown hg3 (unhide HB2).size (fun k hk => by simp at hk; omega))
  have HI1 := hide hn1'.ints
  have HI2 := hide hn2.ints
  clear hs2 hc2 hg3 HB2 hs3 hc3 hn1 hn1' hn2
  go_wp2_with fail
  go_ret2
  exact ⟨v1, v2, zs, ys, rfl, unhide HI1, unhide HI2, hl1, hl2, unhide HB3⟩

theorem drawScore (ao : Option Addr) (len cap : Nat) (w : World) (hc : IsCode w.heap.size w (.slice ao len cap)) :
    Calls Try.prog 6 #[.slice ao len cap] w (TwoPost w) := by
  go_enter Try.func6, Try.ntmps6
  go_wp2_with fail
  refine (both ao len cap w hc).mono ?_
  rintro e w1 ⟨v1, v2, zs, ys, rfl, h1, h2, l1, l2, hb⟩
  have H1 := hide h1
  have H2 := hide h2
  have HB := hide hb
  clear h1 h2 hb hc
  go_wp2_with fail
  go_ret2
  exact ⟨v1, v2, zs, ys, rfl, unhide H1, unhide H2, l1, l2, unhide HB⟩

theorem drawMean (ao : Option Addr) (len cap : Nat) (w : World) (hc : IsCode w.heap.size w (.slice ao len cap)) :
    Calls Try.prog 12 #[.slice ao len cap] w fun e w' => ∃ v zs n, e = .returned (.tuple #[v, .int .i64 n]) ∧ IsInts w' v zs ∧ zs.length ≤ 4 ∧ (0 ≤ n ∧ n ≤ 1001) ∧ Below w.heap.size w w' := by
  go_enter Try.func12, Try.ntmps12
  go_wp2_with fail
  refine (source ao len cap w).mono ?_
  rintro e w1 ⟨rfl, rfl⟩
  have hs1 := src_new w (.slice ao len cap)
  have hc1 := hc.alloc (Nat.le_refl _) (.cells #[.slice ao len cap, .int .i64 0] 55)
  have HB1 := hide ((Below.refl w.heap.size w).alloc (Nat.le_refl _) (.cells #[.slice ao len cap, .int .i64 0] 55))
  clear hc
  go_wp2_with fail
  refine (bent w.heap.size 0 _ _ hs1 hc1 (by omega)).mono ?_
  rintro e w2 ⟨v1, zs, m2, rfl, hl1, hn1, hm2, hs2, hc2, hg2⟩
  have HB2 := hide ((unhide HB1).grown hg2 (by simp) (fun k hk => by simp at hk; omega))
  have hz2 : w.heap.size < w2.heap.size := hs2.lt
  clear hs1 hc1 hg2 HB1
  go_wp2_with fail
  refine (next w.heap.size m2 _ 9 _ hs2 hc2 (by omega) (by omega) (by omega)).mono ?_
  rintro e w3 ⟨x, rfl, hx, hs3, hc3, hg3⟩
  have hn2 := hn1.keep hg3 (by simp)
  have HB3 := hide ((unhide HB2).grown hg3 (unhide HB2).size (fun k hk => by simp at hk; omega))
  clear hs2 hc2 hg3 HB2 hn1
  go_wp2_with fail
  refine (next w.heap.size (m2 + 1) _ 9 _ hs3 hc3 (by omega) (by omega) (by omega)).mono ?_
  rintro e w4 ⟨y, rfl, hy, hs4, hc4, hg4⟩
  have hn3 := hn2.keep hg4 (by simp)
  have HB4 := hide ((unhide HB3).grown hg4 (unhide HB3).size (fun k hk => by simp at hk; omega))
  have hz4 : w.heap.size < w4.heap.size := hs4.lt
  clear hs3 hc3 hg4 HB3 hn2
  go_wp2_with fail
  have e := pick w.heap.size (m2 + 1 + 1) w4.heap.size _ [1 + (x : Int), 1 + (y : Int), 1000, 0, 1001] (w4.alloc (.cells #[.int .i64 (1 + (x : Int)), .int .i64 (1 + (y : Int)), .int .i64 1000, .int .i64 0, .int .i64 1001] 2)) (hs4.alloc _) (hc4.alloc (by omega) _) (by omega) (by simp) (by simp) (heap_alloc_new w4 _) (by omega)
  refine e.mono ?_
  clear e
  rintro e w5 ⟨n, rfl, hn, hs5, hc5, hg5⟩
  have hnn : 0 ≤ n ∧ n ≤ 1001 := by
    simp at hn
    omega
  have hn4 := (hn3.keep (World.grownBy_alloc w4 (.cells #[.int .i64 (1 + (x : Int)), .int .i64 (1 + (y : Int)), .int .i64 1000, .int .i64 0, .int .i64 1001] 2) (some w.heap.size)) (by simp)).keep hg5 (by simp)
  have HB5 := hide (((unhide HB4).alloc (by omega) (.cells #[.int .i64 (1 + (x : Int)), .int .i64 (1 + (y : Int)), .int .i64 1000, .int .i64 0, .int .i64 1001] 2)).grown hg5 (by simp; omega) (fun k hk => by simp at hk; omega))
  have HI := hide hn4.ints
  have HN := hide hnn
  clear hs4 hc4 hg5 HB4 hn3 hn4 hs5 hc5 hn hnn
  go_wp2_with fail
  go_ret2
  exact ⟨v1, zs, n, rfl, unhide HI, hl1, unhide HN, unhide HB5⟩

end Go.Proofs.Ytccocdpgflapoaa
