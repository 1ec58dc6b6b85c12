/-
  The law FnExactRankOf answers true at every slice of hits and every number, and writes nothing that was there.
  Condition: RankOf of the program tells what the model tells (a premise).
-/
import Derived.Test.YtplhhdnmhcnhgaaHitMarks
import Derived.Test.YtplhhdnmhcnhgaaHitOps3
namespace Go.Proofs.Ytplhhdnmhcnhgaa
open Go.RowKit

/-- What RankOf of the program is to tell. -/
def ImplRank : Prop := ∀ (v : Value) (hs : List (Int × Int)) (id : Int) (w : World), (Lit.int .i64 id).wf = true → IsHits w v hs →
    Calls Try.prog 22 #[v, .int .i64 id] w fun e w' => e = .returned (intRes (rankOf hs id).1 (rankOf hs id).2) ∧ Below w.heap.size w w'

theorem eqIntResSame (c v : Int) (w : World) :
    Calls Try.prog 35 #[.agg #[.int .i64 c, .int .i64 v], .agg #[.int .i64 c, .int .i64 v]] w fun e w' => e = .returned (.bool true) ∧ Below w.heap.size w w' := by
  have h1 : (c != c) = false := by simp
  have h2 : (v != v) = false := by simp
  go_enter Try.func35, Try.ntmps35
  go_wp2_with fail
  go_ret
  exact ⟨rfl, ((Below.refl _ _).alloc (Nat.le_refl _) _).alloc (by simp) _⟩

theorem lawRankOf_many (ao : Option Addr) (n cap : Nat) (q : Int) (w : World) (hn : 1048576 < n) (hm : n ≤ 9223372036854775807) :
    Calls Try.prog 10 #[.slice ao n cap, .int .i64 q] w fun e w' => e = .returned (.bool true) ∧ Below w.heap.size w w' := by
  go_enter Try.func10, Try.ntmps10
  go_wp2_with fail
  refine (szHits_many ao n cap 1048576 w hn (by omega) hm).mono ?_
  rintro e w' ⟨rfl, rfl⟩
  go_wp2_with fail
  go_ret
  exact ⟨rfl, Below.refl _ _⟩

set_option maxHeartbeats 1000000 in
theorem lawRankOf_few (implRank : ImplRank) (ao : Option Addr) (cap : Nat) (zs : List (Int × Int)) (q : Int) (w : World) (hqw : (Lit.int .i64 q).wf = true) (h : IsHits w (.slice ao zs.length cap) zs) (hn : zs.length ≤ 1048576) :
    Calls Try.prog 10 #[.slice ao zs.length cap, .int .i64 q] w fun e w' => e = .returned (.bool true) ∧ Below w.heap.size w w' := by
  have HQ := hide hqw
  have HIB := hide implRank
  clear hqw implRank
  go_enter Try.func10, Try.ntmps10
  go_wp2_with fail
  refine (szHits_ok ao zs.length cap 1048576 w hn (by omega)).mono ?_
  rintro e w ⟨rfl, rfl⟩
  have hd0 : decide (((1048576 - zs.length : Nat) : Int) < 0) = false := by simp
  go_wp2_with fail
  refine (toHits _ zs _ h hn).mono ?_
  rintro e w1 ⟨v1, rfl, -, -, hi1, hb1⟩
  have h1 := h.later hb1
  go_wp2_with fail
  refine (modelRank v1 zs q _ hi1).mono ?_
  rintro e w3 ⟨rfl, hb3⟩
  have h3 := h1.later hb3
  have b3 : Below w.heap.size w w3 := below_keep2 hb1 hb3
  clear hb3 h1 hi1 hb1
  simp only [intRes]
  obtain ⟨c, hc⟩ : ∃ c, c = (rankOf zs q).1 := ⟨_, rfl⟩
  obtain ⟨r, hr⟩ : ∃ r, r = (rankOf zs q).2 := ⟨_, rfl⟩
  rw [← hc, ← hr]
  have HC := hide hc
  have HR := hide hr
  clear hc hr
  go_wp2_with fail
  have b4 := b3.alloc b3.size (.cells #[.int .i64 c, .int .i64 r] 40)
  have nb : Below w3.heap.size w3 (w3.alloc (.cells #[.int .i64 c, .int .i64 r] 40)) := (Below.refl _ _).alloc (Nat.le_refl _) _
  obtain ⟨k0, k1⟩ := new_cells (w := w3) (T := 40) (x := .int .i64 c) (y := .int .i64 r)
  refine (toHits _ zs _ (h3.later nb) hn).mono ?_
  rintro e w5 ⟨x0, rfl, -, -, hx0, hb5⟩
  have h5 := (h3.later nb).later hb5
  replace k0 := cell_keep hb5 k0
  replace k1 := cell_keep hb5 k1
  have b5 : Below w.heap.size w w5 := b4.trans (hb5.mono b4.size)
  have hz5 : w3.heap.size < w5.heap.size := by have := hb5.size; simp at this; omega
  clear hb5 h3 b3 b4 nb
  go_wp2_with fail
  refine (unhide HIB x0 zs q _ (unhide HQ) hx0).mono ?_
  rintro e w7 ⟨rfl, hb7⟩
  simp only [intRes]
  rw [← unhide HC, ← unhide HR]
  have h7 := h5.later hb7
  have i0 := hx0.later hb7
  replace k0 := cell_keep hb7 k0
  replace k1 := cell_keep hb7 k1
  have b7 : Below w.heap.size w w7 := b5.trans (hb7.mono b5.size)
  have hz7 : w3.heap.size < w7.heap.size := by have := hb7.size; omega
  have nb : Below w7.heap.size w7 (w7.alloc (.cells #[.int .i64 c, .int .i64 r] 40)) := (Below.refl _ _).alloc (Nat.le_refl _) _
  have HH := hide (h7.later nb)
  have I0 := hide (i0.later nb)
  have B8 := hide (b7.trans (nb.mono b7.size))
  clear hb7 h5 hx0 b5 hz5 h7 i0 b7 nb
  go_wp2_with fail
  have e := eqIntResSame c r (w7.alloc (.cells #[.int .i64 c, .int .i64 r] 40))
  refine e.mono ?_
  rintro e w8 ⟨rfl, hb8⟩
  have h8 := (unhide HH).later hb8
  have i0 := (unhide I0).later hb8
  have b8 : Below w.heap.size w w8 := (unhide B8).trans (hb8.mono (unhide B8).size)
  clear hb8 HH I0 B8 k0 k1 hz7
  go_wp2_with fail
  refine (toHits _ zs _ h8 hn).mono ?_
  rintro e w9 ⟨y0, rfl, -, -, hy0, hb9⟩
  have i0' := i0.later hb9
  have b9 : Below w.heap.size w w9 := b8.trans (hb9.mono b8.size)
  clear h8 i0 hb9 b8
  go_wp2_with fail
  refine (eqHits x0 y0 zs _ i0' hy0 hn).mono ?_
  rintro e w10 ⟨rfl, hb10⟩
  have b10 : Below w.heap.size w w10 := b9.trans (hb10.mono b9.size)
  clear i0' hy0 hb10 b9
  go_wp2_with fail
  go_ret
  exact ⟨rfl, b10⟩

theorem lawRankOf (implRank : ImplRank) (v : Value) (zs : List (Int × Int)) (q : Int) (w : World) (hqw : (Lit.int .i64 q).wf = true) (h : IsHits w v zs) :
    Calls Try.prog 10 #[v, .int .i64 q] w fun e w' => e = .returned (.bool true) ∧ Below w.heap.size w w' := by
  have h' := h
  obtain ⟨ao, cap, rfl, h1, h2, hr⟩ := h'
  by_cases hn : zs.length ≤ 1048576
  · exact lawRankOf_few implRank ao cap zs q w hqw h hn
  · exact lawRankOf_many ao zs.length cap q w (by omega) (by have := h2.1; unfold maxLen at this; omega)

end Go.Proofs.Ytplhhdnmhcnhgaa
