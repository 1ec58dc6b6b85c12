/-
  The draws of tables: l4Bent, l4Two: whatever is drawn is some list of items, of the draw's own.
  Condition: at most 1000000 numbers have been drawn before.
-/
import Derived.Test.YteekfapjfpkidabDrawItems
import Derived.Test.YteekfapjfpkidabAppItem
import Derived.WalkKit
namespace Go.Proofs.Yteekfapjfpkidab
open Go.RowKit

theorem flat_snocI {bls : List (List Nat)} {bl : List Nat} {P : Nat → Prop} (h : ∀ c ∈ bls.flatten, P c) (h2 : ∀ c ∈ bl, P c) : ∀ c ∈ (bls ++ [bl]).flatten, P c := by
  intro c hc
  rw [List.flatten_append] at hc
  rcases List.mem_append.1 hc with hc | hc
  · exact h c hc
  · exact h2 c (by simpa using hc)
theorem grown_lowI {a b c : World} {s : Option Nat} (h : a.grownBy b s) (k : Below a.heap.size b c) : a.grownBy c s :=
  ⟨k.os.trans h.os, k.tape.trans h.tape, k.output.trans h.output, Nat.le_trans h.size k.size, fun i hi hn => (k.block i hi).trans (h.block i hi hn)⟩
theorem made_flatI (row : List Value) (n : Nat) (h0 : 0 < row.length) : (madeCells row.toArray (n * row.length)).toList = (List.replicate n row).flatten := by
  have hl : (List.replicate n row).flatten.length = n * row.length := by simp
  apply List.ext_getElem?
  intro i
  by_cases hi : i < n * row.length
  · have hm := Nat.mod_lt i h0
    have hj : i / row.length < n := (Nat.div_lt_iff_lt_mul h0).2 hi
    have e := Lay.flat_at (rows := List.replicate n row) (n := row.length) (fun r hr => by rw [List.eq_of_mem_replicate hr]) (i / row.length) (i % row.length) (by simpa using hj) hm
    rw [Nat.div_add_mod' i row.length] at e
    rw [e]
    simp [madeCells, hi, hm]
  · rw [List.getElem?_eq_none (by simp [madeCells]; omega), List.getElem?_eq_none (by omega)]
theorem made31 : (madeCells #[.int .i64 0, .slice none 0 0] 62).toList = (List.replicate 31 [.int .i64 0, .slice none 0 0]).flatten :=
  made_flatI [.int .i64 0, .slice none 0 0] 31 (by decide)
theorem zeroItem (w : World) : Lay.tItem.lies w [.int .i64 0, .slice none 0 0] ⟨0, []⟩ [] :=
  lies_Item.2 ⟨none, 0, [], rfl, rfl, by decide, Lay.lies_ints.2 ⟨none, 0, rfl, by simp, by simp, Or.inl ⟨rfl, rfl⟩⟩⟩
theorem flat_none (n : Nat) : ∀ c ∈ (List.replicate n ([] : List Nat)).flatten, False := by
  intro c hc
  obtain ⟨l, h1, h2⟩ := List.mem_flatten.1 hc
  rw [List.eq_of_mem_replicate h1] at h2
  simp at h2
theorem grow31 {w : World} {base : Nat} {v : Value} (h : w.ownsRow base 60 2 v 31 (madeCells #[.int .i64 0, .slice none 0 0] 62).toList) :
    Grow Lay.tItem w base 60 v (List.replicate 31 [.int .i64 0, .slice none 0 0]) (List.replicate 31 ⟨0, []⟩) (List.replicate 31 []) := by
  rw [made31] at h
  refine ⟨by rw [List.length_replicate]; exact h, by rw [List.length_replicate, List.length_replicate], by rw [List.length_replicate, List.length_replicate], fun j h1 h2 h3 => ?_, fun b hb => (flat_none _ b hb).elim⟩
  rw [List.getElem_replicate, List.getElem_replicate, List.getElem_replicate]
  exact zeroItem w

set_option maxRecDepth 10000 in
set_option maxHeartbeats 1000000 in
theorem drawTab (b m : Nat) (cv : Value) (w : World) (hs : SrcAt w b cv m) (hc : IsCode b w cv) (hm : m ≤ 100000) :
    Calls Try.prog 80 #[.pointer (some ⟨b, 0, none⟩)] w (ItemsPost b m cv w) := by
  have hbw := hs.lt
  have HL := hide (drawRight b m cv w hs hc (by omega))
  clear hs hc
  go_enter Try.func80, Try.ntmps80
  go_wp2_with fail
  refine (unhide HL).mono ?_
  rintro e w2 ⟨v, rows, xs, bls, m', rfl, hG, hsf, hlen, s2, hm', c2, g2⟩
  have HL2 := hide (next b m' cv 14 w2 s2 c2 (by omega) (by omega) (by omega))
  have HG := hide hG
  have HSF := hide hsf
  have HGR := hide g2
  clear hG hsf s2 c2 g2 HL
  go_wp2_with fail
  refine (unhide HL2).mono ?_
  rintro e w3 ⟨q, rfl, hq, s3, c3, g3⟩
  replace HG := hide ((unhide HG).grown g3 hbw (unhide HSF))
  replace HGR := hide (grown_trans (unhide HGR) g3)
  have HS := hide s3
  have HC := hide c3
  clear s3 c3 g3 HL2
  have hw3 : w.heap.size ≤ w3.heap.size := (unhide HGR).size
  rcases (show q = 0 ∨ q = 1 ∨ 2 ≤ q by omega) with rfl | rfl | h2
  · have nb3 : Below w3.heap.size w3 (w3.alloc (.cells #[.int .i64 0, .int .i64 5, .int .i64 999, .int .i64 1000] 2)) := (Below.refl _ _).alloc (Nat.le_refl _) _
    have hg3 := heap_alloc_new w3 (.cells #[.int .i64 0, .int .i64 5, .int .i64 999, .int .i64 1000] 2)
    have L := hide (pick b (m' + 1) w3.heap.size cv [0, 5, 999, 1000] _ ((unhide HS).on nb3) ((unhide HC).on (by omega) nb3) (by omega) (by simp) (by simp) hg3 (by omega))
    replace HG := hide ((unhide HG).later nb3)
    replace HGR := hide (grown_on (unhide HGR) nb3)
    clear HS HC hg3 nb3
    go_wp2_with fail
    refine (unhide L).mono ?_
    generalize w3.alloc (.cells #[.int .i64 0, .int .i64 5, .int .i64 999, .int .i64 1000] 2) = W3 at *
    rintro e w4 ⟨p, rfl, hp, s4, c4, g4⟩
    have hpb : 0 ≤ p ∧ p ≤ 1000 := by
      simp only [List.mem_cons, List.not_mem_nil, or_false] at hp
      omega
    have L4 := hide (bent b (m' + 1 + 1) cv w4 s4 c4 (by omega))
    replace HG := hide ((unhide HG).grown g4 hbw (unhide HSF))
    replace HGR := hide (grown_trans (unhide HGR) g4)
    clear s4 c4 g4 L hp
    have hw4 : w.heap.size ≤ w4.heap.size := (unhide HGR).size
    go_wp2_with fail
    refine (unhide L4).mono ?_
    rintro e w5 ⟨v3, zs, m3, rfl, hzs, hNI, hm3, s5, c5, g5⟩
    obtain ⟨bz, hlz, hbz⟩ := hNI.lies (by omega)
    obtain ⟨a3, d3, rfl⟩ := open_sl ⟨bz, hlz⟩
    have hG := (unhide HG).grown g5 hbw (unhide HSF)
    have hoff : ∀ c ∈ bz, v.ownBlock ≠ some c := fun c hc e => by
      have h1 := hbz c hc
      have h2 := ((unhide HG).own.lt c e).2
      omega
    have hl : Lay.tItem.lies w5 [.int .i64 p, .slice a3 zs.length d3] ⟨p, zs⟩ bz := lies_Item.2 ⟨a3, d3, bz, rfl, rfl, (show (Lit.int .i64 p).wf = true from wf_of_bd (by omega)), hlz⟩
    replace HSF := hide (flat_snocI (unhide HSF) (fun c hc => Nat.le_trans hw4 (hbz c hc)))
    replace HGR := hide (grown_trans (unhide HGR) g5)
    have HS := hide s5
    have HC := hide c5
    have HZ : Hid (w.heap.size ≤ w5.heap.size) := (unhide HGR).size
    clear s5 c5 g5 L4 hNI hlz hbz HG
    go_wp2_with (at_builtin; refine wpList_append_Item hG hl hoff rfl _ _ rfl rfl rfl (by omega) (unhide HZ) ?_)
    intro g cap w6 hG6 hb6 hE6 hg6 hz6 hor6
    have HG6 := hide hG6
    have HS6 : Hid (SrcAt w6 b cv m3) := (hb6.block b hbw).trans (unhide HS)
    have HC6 := hide ((unhide HC).later (hb6.mono (Nat.le_of_lt hbw)))
    have HGR6 := hide (grown_lowI (unhide HGR) hb6)
    clear hG hl hoff hG6 hb6 hE6 hg6 hz6 hor6 HS HC HGR
    go_wp2_with fail
    go_ret
    exact ⟨_, _, _, _, m3, rfl, unhide HG6, unhide HSF, by simp; omega, unhide HS6, by omega, unhide HC6, unhide HGR6⟩
  · obtain ⟨i0, hi, hz0, hz1, hz2⟩ := info_parts infoAppItem
    clear HG HSF
    go_wp2_with (at_make; refine wpList_make_full _ rfl _ _ 28 rfl w.heap.size 60 i0 _ 2 Try.underlying28 hi hz0 hz1 _ _ _ _ 31 rfl rfl rfl rfl ?c1 ?c2 ?c3 ?_)
    case c1 => omega
    case c2 => unfold maxLen; omega
    case c3 => omega
    intro w4 o4 g4
    have hb4 : Below w3.heap.size w3 w4 := (Below.refl _ _).grown g4 (Nat.le_refl _) (by simp)
    have HG4 := hide (grow31 o4)
    have HS4 := hide ((unhide HS).on hb4)
    have HC4 := hide ((unhide HC).on (by omega) hb4)
    have HGR4 := hide (grown_on (unhide HGR) hb4)
    clear o4 g4 hi hz0 hz1 hz2 hb4 HS HC HGR
    go_wp2_with fail
    go_ret
    exact ⟨_, _, _, _, m' + 1, rfl, unhide HG4, fun c hc => (flat_none _ c hc).elim, by rw [List.length_replicate]; omega, unhide HS4, by omega, unhide HC4, unhide HGR4⟩
  · have d0 : ((q : Int) == 0) = false := by rw [beq_eq_false_iff_ne]; omega
    have d1 : ((q : Int) == 1) = false := by rw [beq_eq_false_iff_ne]; omega
    go_wp2_with fail
    go_ret
    exact ⟨v, rows, xs, bls, m' + 1, rfl, unhide HG, unhide HSF, by omega, unhide HS, by omega, unhide HC, unhide HGR⟩

set_option maxRecDepth 10000 in
set_option maxHeartbeats 1000000 in
/-- l4Two. -/
theorem drawTwo (ao : Option Addr) (len cap : Nat) (w : World) (hc : IsCode w.heap.size w (.slice ao len cap)) :
    Calls Try.prog 63 #[.slice ao len cap] w fun e w' => ∃ (v : Value) (rows : List (List Value)) (xs : List DItem) (bls : List (List Nat)) (id : Int), e = .returned (.tuple #[v, .int .i64 id]) ∧ Grow Lay.tItem w' w.heap.size 60 v rows xs bls ∧ xs.length ≤ 31 ∧ (0 ≤ id ∧ id ≤ 999) ∧ Below w.heap.size w w' := by
  go_enter Try.func63, Try.ntmps63
  go_wp2_with fail
  refine (source ao len cap w).mono ?_
  rintro e w1 ⟨rfl, rfl⟩
  have s1 := src_new w (.slice ao len cap)
  have c1 := hc.on (Nat.le_refl _) ((Below.refl _ _).alloc (Nat.le_refl _) (.cells #[.slice ao len cap, .int .i64 0] 145))
  have b1 : Below w.heap.size w (w.alloc (.cells #[.slice ao len cap, .int .i64 0] 145)) := (Below.refl _ _).alloc (Nat.le_refl _) _
  generalize w.alloc (.cells #[.slice ao len cap, .int .i64 0] 145) = w1 at *
  have hlt := s1.lt
  have HL := hide (drawTab w.heap.size 0 _ w1 s1 c1 (by omega))
  have HB1 := hide b1
  clear hc s1 c1 b1
  go_wp2_with fail
  refine (unhide HL).mono ?_
  rintro e w2 ⟨v, rows, xs, bls, m', rfl, hG, hsf, hlen, s2, hm', c2, g2⟩
  have HL2 := hide (next w.heap.size m' _ 14 w2 s2 c2 (by omega) (by omega) (by omega))
  have HG := hide hG
  have HSF := hide hsf
  have HB := hide ((unhide HB1).grown g2 (Nat.le_of_lt hlt) (fun k hk => by simp at hk; omega))
  clear hG hsf s2 c2 g2 HL HB1
  go_wp2_with fail
  refine (unhide HL2).mono ?_
  rintro e w3 ⟨q, rfl, hq, s3, c3, g3⟩
  replace HG := hide ((unhide HG).grown g3 hlt (unhide HSF))
  replace HB := hide ((unhide HB).grown g3 (unhide HB).size (fun k hk => by simp at hk; omega))
  have HL3 := hide (next w.heap.size (m' + 1) _ 14 w3 s3 c3 (by omega) (by omega) (by omega))
  clear s3 c3 g3 HL2
  go_wp2_with fail
  refine (unhide HL3).mono ?_
  rintro e w4 ⟨y, rfl, hy, s4, c4, g4⟩
  replace HG := hide ((unhide HG).grown g4 hlt (unhide HSF))
  replace HB := hide ((unhide HB).grown g4 (unhide HB).size (fun k hk => by simp at hk; omega))
  have hw4 : w.heap.size < w4.heap.size := s4.lt
  have nb5 : Below w4.heap.size w4 (w4.alloc (.cells #[.int .i64 (1 + (q : Int)), .int .i64 (1 + (y : Int)), .int .i64 999, .int .i64 0] 2)) := (Below.refl _ _).alloc (Nat.le_refl _) _
  have hg5 := heap_alloc_new w4 (.cells #[.int .i64 (1 + (q : Int)), .int .i64 (1 + (y : Int)), .int .i64 999, .int .i64 0] 2)
  have L := hide (pick w.heap.size (m' + 1 + 1) w4.heap.size _ [1 + (q : Int), 1 + (y : Int), 999, 0] _ (s4.on nb5) (c4.on (by omega) nb5) (by omega) (by simp) (by simp) hg5 (by omega))
  replace HG := hide ((unhide HG).later nb5)
  replace HB := hide ((unhide HB).trans (nb5.mono (unhide HB).size))
  clear s4 c4 g4 HL3 nb5 hg5
  go_wp2_with fail
  refine (unhide L).mono ?_
  generalize w4.alloc (.cells #[.int .i64 (1 + (q : Int)), .int .i64 (1 + (y : Int)), .int .i64 999, .int .i64 0] 2) = W5 at *
  rintro e w6 ⟨p, rfl, hp, s6, c6, g6⟩
  have hpb : 0 ≤ p ∧ p ≤ 999 := by
    simp only [List.mem_cons, List.not_mem_nil, or_false] at hp
    omega
  replace HG := hide (((unhide HG).grown g6 hlt (unhide HSF)).lower (Nat.le_of_lt hlt))
  replace HB := hide ((unhide HB).grown g6 (unhide HB).size (fun k hk => by simp at hk; omega))
  clear s6 c6 g6 hp L
  go_wp2_with fail
  go_ret2
  exact ⟨v, rows, xs, bls, p, rfl, unhide HG, hlen, hpb, unhide HB⟩

end Go.Proofs.Yteekfapjfpkidab
