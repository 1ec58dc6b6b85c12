/-
  The draw DrawTableOf: some writes of the draw's own.
  Condition: the code is at most 1048576 long.
-/
import Derived.Test.YteekfapjfpkidabDrawWs
import Derived.WalkKit
namespace Go.Proofs.Yteekfapjfpkidab
open Go.RowKit

theorem made_flat (row : List Value) (n : Nat) (h0 : 0 < row.length) : (madeCells row.toArray (n * row.length)).toList = (List.replicate n row).flatten := by
  have hl : (List.replicate n row).flatten.length = n * row.length := by simp
  apply List.ext_getElem?
  intro i
  by_cases hi : i < n * row.length
  · have hm := Nat.mod_lt i h0
    have hj : i / row.length < n := (Nat.div_lt_iff_lt_mul h0).2 hi
    have e := Lay.flat_at (rows := List.replicate n row) (n := row.length) (fun r hr => by rw [List.eq_of_mem_replicate hr]) (i / row.length) (i % row.length) (by simpa using hj) hm
    rw [Nat.div_add_mod' i row.length] at e
    rw [e]
    simp [madeCells, hi, hm]
  · rw [List.getElem?_eq_none (by simp [madeCells]; omega), List.getElem?_eq_none (by omega)]
theorem made201 : (madeCells #[.int .i64 0, .int .i64 0, .slice none 0 0, .int .i64 0, .int .i64 0] 1005).toList = (List.replicate 201 [.int .i64 0, .int .i64 0, .slice none 0 0, .int .i64 0, .int .i64 0]).flatten :=
  made_flat [.int .i64 0, .int .i64 0, .slice none 0 0, .int .i64 0, .int .i64 0] 201 (by decide)
theorem zeroWrite (w : World) : Lay.tWrite.lies w [.int .i64 0, .int .i64 0, .slice none 0 0, .int .i64 0, .int .i64 0] ⟨0, 0, [], 0, 0⟩ [] :=
  lies_Write.2 ⟨none, 0, [], rfl, rfl, by decide, by decide, Lay.lies_ints.2 ⟨none, 0, rfl, by simp, by simp, Or.inl ⟨rfl, rfl⟩⟩, by decide, by decide⟩
theorem grow201 {w : World} {base : Nat} {v : Value} (h : w.ownsRow base 33 5 v 201 (madeCells #[.int .i64 0, .int .i64 0, .slice none 0 0, .int .i64 0, .int .i64 0] 1005).toList) :
    Grow Lay.tWrite w base 33 v (List.replicate 201 [.int .i64 0, .int .i64 0, .slice none 0 0, .int .i64 0, .int .i64 0]) (List.replicate 201 ⟨0, 0, [], 0, 0⟩) (List.replicate 201 []) := by
  rw [made201] at h
  refine ⟨by rw [List.length_replicate]; exact h, by rw [List.length_replicate, List.length_replicate], by rw [List.length_replicate, List.length_replicate], fun j h1 h2 h3 => ?_, ?_⟩
  · rw [List.getElem_replicate, List.getElem_replicate, List.getElem_replicate]
    exact zeroWrite w
  · intro b hb
    obtain ⟨l, h1, h2⟩ := List.mem_flatten.1 hb
    rw [List.eq_of_mem_replicate h1] at h2
    simp at h2

set_option maxRecDepth 10000 in
set_option maxHeartbeats 1000000 in
theorem drawTableOf (ao : Option Addr) (len cap : Nat) (w : World) (hc : IsCode w.heap.size w (.slice ao len cap)) :
    Calls Try.prog 44 #[.slice ao len cap] w fun e w' => ∃ (v : Value) (xs : List DWrite), e = .returned v ∧ (Lay.sl Lay.tWrite).Reads w' [v] xs ∧ xs.length ≤ 201 ∧ Below w.heap.size w w' := by
  go_enter Try.func44, Try.ntmps44
  go_wp2_with fail
  refine (source ao len cap w).mono ?_
  rintro e w1 ⟨rfl, rfl⟩
  have s1 := src_new w (.slice ao len cap)
  have c1 := hc.onW (Nat.le_refl _) ((Below.refl _ _).alloc (Nat.le_refl _) (.cells #[.slice ao len cap, .int .i64 0] 145))
  have b1 : Below w.heap.size w (w.alloc (.cells #[.slice ao len cap, .int .i64 0] 145)) := (Below.refl _ _).alloc (Nat.le_refl _) _
  generalize w.alloc (.cells #[.slice ao len cap, .int .i64 0] 145) = w1 at *
  have hlt := s1.lt
  have HL := hide (drawWrites w.heap.size 0 14 _ w1 s1 c1 (by omega) (by omega) (by omega))
  have HB1 := hide b1
  clear hc s1 c1 b1
  go_wp2_with fail
  refine (unhide HL).mono ?_
  rintro e w2 ⟨v, rows, xs, bls, m', rfl, hG, hsf, hlen, s2, hm', c2, g2⟩
  have HL2 := hide (next w.heap.size m' _ 12 w2 s2 c2 (by omega) (by omega) (by omega))
  have HG := hide hG
  have HSF := hide hsf
  have HZ2 : Hid (w1.heap.size ≤ w2.heap.size) := g2.size
  have HB2 := hide ((unhide HB1).grown g2 (Nat.le_of_lt hlt) (fun k hk => by simp at hk; omega))
  clear hG hsf s2 c2 g2 HL HB1
  go_wp2_with fail
  refine (unhide HL2).mono ?_
  rintro e w3 ⟨q, rfl, hq, s3, c3, g3⟩
  replace HG := hide ((unhide HG).grown g3 hlt (unhide HSF))
  have HZ3 : Hid (w1.heap.size ≤ w3.heap.size) := Nat.le_trans (unhide HZ2) g3.size
  have HB3 := hide ((unhide HB2).grown g3 (unhide HB2).size (fun k hk => by simp at hk; omega))
  have HS := hide s3
  have HC := hide c3
  clear s3 c3 g3 HL2 HB2
  have hw3 : w.heap.size ≤ w3.heap.size := (unhide HB3).size
  rcases (show q = 0 ∨ q = 1 ∨ 2 ≤ q by omega) with rfl | rfl | h2
  · have HL := hide (bentWrite w.heap.size (m' + 1) _ w3 (unhide HS) (unhide HC) (by omega))
    clear HS HC
    go_wp2_with fail
    refine (unhide HL).mono ?_
    rintro e w4 ⟨cs, x, bl, m4, rfl, hl, hbl, s4, hm4, c4, g4⟩
    have hG := (unhide HG).grown g4 hlt (unhide HSF)
    have hoff : ∀ c ∈ bl, v.ownBlock ≠ some c := fun c hc e => by
      have h1 := hbl c hc
      have h2 := ((unhide HG).own.lt c e).2
      omega
    have HB4 := hide ((unhide HB3).grown g4 (unhide HB3).size (fun k hk => by simp at hk; omega))
    have HZ : Hid (w1.heap.size ≤ w4.heap.size) := Nat.le_trans (unhide HZ3) g4.size
    obtain ⟨a2, d2, bv, rfl, rfl, -, -, -, -, -⟩ := lies_Write.1 hl
    clear s4 c4 g4 HL HG HSF HB3 hbl
    go_wp2_with (at_builtin; refine wpList_append_Write hG hl hoff rfl _ _ rfl rfl rfl (by omega) (unhide HZ) ?_)
    intro g cap w5 hG5 hb5 hE5 hg5 hz5 hor5
    have HR := hide (hG5.toReads (by simp; omega))
    have HB5 := hide ((unhide HB4).trans (hb5.mono (Nat.le_of_lt hlt)))
    clear hG hl hoff hG5 hb5 hE5 hg5 hz5 hor5 HB4
    go_wp2_with fail
    go_ret
    exact ⟨_, _, rfl, unhide HR, by simp; omega, unhide HB5⟩
  · obtain ⟨i0, hi, hz0, hz1, hz2⟩ := info_parts infoAppWrite
    clear HG HSF HS HC
    go_wp2_with (at_make; refine wpList_make_full _ rfl _ _ 45 rfl w.heap.size 33 i0 _ 5 Try.underlying45 hi hz0 hz1 _ _ _ _ 201 rfl rfl rfl rfl ?c1 ?c2 ?c3 ?_)
    case c1 => omega
    case c2 => unfold maxLen; omega
    case c3 => omega
    intro w4 o4 g4
    have HR := hide ((grow201 o4).toReads (by rw [List.length_replicate]; omega))
    have HB4 := hide ((unhide HB3).grown g4 (unhide HB3).size (by simp))
    clear o4 g4 hi hz0 hz1 hz2 HB3
    go_wp2_with fail
    go_ret
    exact ⟨_, _, rfl, unhide HR, by rw [List.length_replicate]; omega, unhide HB4⟩
  · have d0 : ((q : Int) == 0) = false := by rw [beq_eq_false_iff_ne]; omega
    have d1 : ((q : Int) == 1) = false := by rw [beq_eq_false_iff_ne]; omega
    have HR := hide ((unhide HG).toReads (by omega))
    clear HG HSF HS HC
    go_wp2_with fail
    go_ret
    exact ⟨_, _, rfl, unhide HR, by omega, unhide HB3⟩

end Go.Proofs.Yteekfapjfpkidab
