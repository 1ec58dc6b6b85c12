/-
  Small laws that the other texts lean on, in one text: DrawItems, DrawTab, DrawKk, DrawSearch.
  No condition.
-/
import Derived.Test.YtkodenmpadehjabSpecSet2
import Derived.Test.YtkodenmpadehjabSource
import Derived.Test.YtkodenmpadehjabDraw3
import Derived.Test.YtkodenmpadehjabAppItem
import Derived.WalkKit
import Derived.Test.YtkodenmpadehjabDrawKeep

namespace Go.Proofs.Ytkodenmpadehjab
open Go.RowKit

theorem grown_on {a b c : World} {s : Option Nat} (h : a.grownBy b s) (k : Below b.heap.size b c) : a.grownBy c s :=
  ⟨k.os.trans h.os, k.tape.trans h.tape, k.output.trans h.output, Nat.le_trans h.size k.size, fun i hi hn => (k.block i (Nat.lt_of_lt_of_le hi h.size)).trans (h.block i hi hn)⟩
theorem SrcAt.on {w w' : World} {b m : Nat} {cv : Value} (h : SrcAt w b cv m) (hb : Below w.heap.size w w') : SrcAt w' b cv m := (hb.block b h.lt).trans h
theorem IsCode.on {B : Nat} {w w' : World} {cv : Value} (h : IsCode B w cv) (hB : B ≤ w.heap.size) (hb : Below w.heap.size w w') : IsCode B w' cv := h.later (hb.mono hB)
/-- Some items of the draw's own; the source has gone on. -/
def ItemsPost (b m : Nat) (cv : Value) (w : World) (e : Ending) (w' : World) : Prop :=
  ∃ (v : Value) (rows : List (List Value)) (xs : List DItem) (bls : List (List Nat)) (m' : Nat), e = .returned v ∧ Grow Lay.tItem w' w.heap.size 33 v rows xs bls ∧ (∀ c ∈ bls.flatten, w.heap.size ≤ c) ∧ xs.length ≤ 31 ∧
    SrcAt w' b cv m' ∧ m' ≤ m + 400 ∧ IsCode b w' cv ∧ w.grownBy w' (some b)

set_option maxRecDepth 10000 in
set_option maxHeartbeats 1000000 in
theorem drawRight (b m : Nat) (cv : Value) (w : World) (hs : SrcAt w b cv m) (hc : IsCode b w cv) (hm : m ≤ 1000000) :
    Calls Try.prog 29 #[.pointer (some ⟨b, 0, none⟩)] w fun e w' => ∃ (v : Value) (rows : List (List Value)) (xs : List DItem) (bls : List (List Nat)) (m' : Nat), e = .returned v ∧ Grow Lay.tItem w' w.heap.size 33 v rows xs bls ∧ (∀ c ∈ bls.flatten, w.heap.size ≤ c) ∧ xs.length ≤ 11 ∧
      SrcAt w' b cv m' ∧ m' ≤ m + 200 ∧ IsCode b w' cv ∧ w.grownBy w' (some b) := by
  have hbw := hs.lt
  have nb : Below w.heap.size w (w.alloc (.cells #[] 33)) := (Below.refl w.heap.size w).alloc (Nat.le_refl _) (.cells #[] 33)
  have G0 : Grow Lay.tItem (w.alloc (.cells #[] 33)) w.heap.size 33 (.slice (some ⟨w.heap.size, 0, none⟩) 0 0) [] [] [] := Grow.nil (World.ownsRow_lit w #[] 0 (Nat.le_refl _) (Nat.zero_le _) rfl)
  have L := next b m cv 12 (w.alloc (.cells #[] 33)) (hs.on nb) (hc.on (Nat.le_of_lt hbw) nb) (by omega) (by omega) (by omega)
  have HL := hide L
  have HG := hide G0
  have HN := hide nb
  clear L G0 nb hs hc
  go_enter Try.func29, Try.ntmps29
  go_wp2_with fail
  refine (unhide HL).mono ?_
  rintro e w1 ⟨r, rfl, hr, s1, c1, g1⟩
  have hr2 : r ≤ 11 := by omega
  have HG1 := hide ((unhide HG).grown g1 hbw (by simp))
  have HS1 := hide s1
  have HC1 := hide c1
  have HGR1 : Hid (w.grownBy w1 (some b)) := ⟨g1.os.trans (unhide HN).os, g1.tape.trans (unhide HN).tape, g1.output.trans (unhide HN).output, Nat.le_trans (unhide HN).size g1.size, fun i hi hn => (g1.block i (Nat.lt_of_lt_of_le hi (unhide HN).size) hn).trans ((unhide HN).block i hi)⟩
  clear s1 c1 g1 HL HG HN hr
  go_wp2_with fail
  go_loopw [3, 4] (fun v kk wr => ∃ (j : Nat) (rows : List (List Value)) (xs : List DItem) (bls : List (List Nat)) (m' : Nat), j ≤ 11 ∧ kk = .int .i64 j ∧ Grow Lay.tItem wr w.heap.size 33 v rows xs bls ∧ (∀ c ∈ bls.flatten, w.heap.size ≤ c) ∧ Rising xs ∧ (∀ x ∈ xs, x.vec.length = 3) ∧ xs.length + j ≤ 11 ∧
      SrcAt wr b cv m' ∧ m' + 10 * j ≤ m + 111 ∧ IsCode b wr cv ∧ w.grownBy wr (some b)) (fun _ kk _ => (intOf kk).toNat)
  case atStart => exact ⟨r, [], [], [], m + 1, hr2, rfl, unhide HG1, by simp, List.Pairwise.nil, by simp, by simp; exact hr2, unhide HS1, by omega, unhide HC1, unhide HGR1⟩
  case round =>
    obtain ⟨j, rows, xs, bls, m', hj, rfl, hG, hsf, hris, hv3, hlen, hS, hm', hC, hgr⟩ := hrel
    clear HG1 HS1 HC1 HGR1
    by_cases hlt : 0 < j
    · have L := next b m' cv 14 wr hS hC (by omega) (by omega) (by omega)
      have HL := hide L
      have HG := hide hG
      have HSF := hide hsf
      have HRI := hide hris
      have HV3 := hide hv3
      have HGR := hide hgr
      clear L hG hsf hris hv3 hS hC hgr
      go_wp2_with fail
      refine (unhide HL).mono ?_
      rintro e w2 ⟨r2, rfl, hr2', s2, c2, g2⟩
      have hz2 := g2.size
      have HG2 := hide ((unhide HG).grown g2 hbw (unhide HSF))
      have HGR2 : Hid (w.grownBy w2 (some b)) := grown_trans (unhide HGR) g2
      have L := draw b (m' + 1) cv w2 s2 c2 (by omega)
      have HL2 := hide L
      have hr3 : (r2 : Int) ≤ 13 := by omega
      clear L s2 c2 g2 HL HG HGR hr2'
      go_wp2_with fail
      refine (unhide HL2).mono ?_
      rintro e w3 ⟨vd, ds, rfl, hd3, hdr, hod, s3, c3, g3⟩
      have hz3 := g3.size
      have hG3 := (unhide HG2).grown g3 hbw (unhide HSF)
      have hGR3 : w.grownBy w3 (some b) := grown_trans (unhide HGR2) g3
      have hR := hG3.toReads (by omega)
      have hdw : ∀ z ∈ ds, (Lit.int .i64 z).wf = true := fun z hz => wf_of_bd (by have := hdr z hz; omega)
      rw [← hd3] at hod
      have hvd := (Lay.ownInts hdw (by omega) hod).reads
      have L := specSetG u3 xs (1 + (r2 : Int)) ds vd true w3 hR hvd (wf_of_bd (by omega)) (by omega) (fun x hx => by have := unhide HV3 x hx; omega) (by omega)
      rw [setM_put (unhide HRI)] at L
      have HL3 := hide L
      have HS3 := hide s3
      have HC3 := hide c3
      have HG3 := hide hG3
      have HGR3 := hide hGR3
      have hwz : w.heap.size ≤ w3.heap.size := hGR3.size
      have HRI2 := hide (putI_rising (unhide HRI) (1 + (r2 : Int)) ds)
      have HV2 : Hid (∀ x ∈ putI xs (1 + (r2 : Int)) ds, x.vec.length = 3) := by
        intro x hx
        rcases mem_putI.1 hx with rfl | ⟨hx, -⟩
        · exact hd3
        · exact unhide HV3 x hx
      have HLN : Hid ((putI xs (1 + (r2 : Int)) ds).length ≤ xs.length + 1) := by
        show (putI xs (1 + (r2 : Int)) ds).length ≤ xs.length + 1
        rw [putI_len (unhide HRI)]
        split <;> omega
      clear L hG3 hGR3 hR hvd hod hdw hdr s3 c3 g3 HL2 HG2 HGR2
      go_wp2_with fail
      refine (unhide HL3).mono ?_
      rintro e w4 ⟨v4, rfl, ⟨rows4, bls4, hG4, hs4⟩, hb4⟩
      have HG4 := hide (hG4.lower hwz)
      have HSF4 : Hid (∀ c ∈ bls4.flatten, w.heap.size ≤ c) := fun c hc => Nat.le_trans hwz (hs4 c hc)
      have HS4 := hide ((unhide HS3).on hb4)
      have HC4 := hide ((unhide HC3).on (by omega) hb4)
      have HGR4 := hide (grown_on (unhide HGR3) hb4)
      clear hG4 hs4 hb4 HL3 HS3 HC3 HG3 HGR3
      go_wp2_with fail
      go_roundw
      case rel => exact ⟨j - 1, rows4, putI xs (1 + (r2 : Int)) ds, bls4, m' + 1 + 9, by omega, by go_num, unhide HG4, unhide HSF4, unhide HRI2, unhide HV2, by have := unhide HLN; omega, unhide HS4, by omega, unhide HC4, unhide HGR4⟩
      case measure => simp [intOf]; omega
    · have HG := hide hG
      have HSF := hide hsf
      have HS := hide hS
      have HC := hide hC
      have HGR := hide hgr
      clear hG hsf hS hC hgr hris hv3
      have hd : decide ((0 : Int) < (j : Int)) = false := by simp; omega
      go_wp2_with fail
      go_ret
      exact ⟨_, rows, xs, bls, m', rfl, unhide HG, unhide HSF, by omega, unhide HS, by omega, unhide HC, unhide HGR⟩

end Go.Proofs.Ytkodenmpadehjab

namespace Go.Proofs.Ytkodenmpadehjab
open Go.RowKit

theorem flat_snocI {bls : List (List Nat)} {bl : List Nat} {P : Nat → Prop} (h : ∀ c ∈ bls.flatten, P c) (h2 : ∀ c ∈ bl, P c) : ∀ c ∈ (bls ++ [bl]).flatten, P c := by
  intro c hc
  rw [List.flatten_append] at hc
  rcases List.mem_append.1 hc with hc | hc
  · exact h c hc
  · exact h2 c (by simpa using hc)
theorem grown_lowI {a b c : World} {s : Option Nat} (h : a.grownBy b s) (k : Below a.heap.size b c) : a.grownBy c s :=
  ⟨k.os.trans h.os, k.tape.trans h.tape, k.output.trans h.output, Nat.le_trans h.size k.size, fun i hi hn => (k.block i hi).trans (h.block i hi hn)⟩
theorem made_flatI (row : List Value) (n : Nat) (h0 : 0 < row.length) : (madeCells row.toArray (n * row.length)).toList = (List.replicate n row).flatten := by
  have hl : (List.replicate n row).flatten.length = n * row.length := by simp
  apply List.ext_getElem?
  intro i
  by_cases hi : i < n * row.length
  · have hm := Nat.mod_lt i h0
    have hj : i / row.length < n := (Nat.div_lt_iff_lt_mul h0).2 hi
    have e := Lay.flat_at (rows := List.replicate n row) (n := row.length) (fun r hr => by rw [List.eq_of_mem_replicate hr]) (i / row.length) (i % row.length) (by simpa using hj) hm
    rw [Nat.div_add_mod' i row.length] at e
    rw [e]
    simp [madeCells, hi, hm]
  · rw [List.getElem?_eq_none (by simp [madeCells]; omega), List.getElem?_eq_none (by omega)]
theorem made31 : (madeCells #[.int .i64 0, .slice none 0 0] 62).toList = (List.replicate 31 [.int .i64 0, .slice none 0 0]).flatten :=
  made_flatI [.int .i64 0, .slice none 0 0] 31 (by decide)
theorem zeroItem (w : World) : Lay.tItem.lies w [.int .i64 0, .slice none 0 0] ⟨0, []⟩ [] :=
  lies_Item.2 ⟨none, 0, [], rfl, rfl, by decide, Lay.lies_ints.2 ⟨none, 0, rfl, by simp, by simp, Or.inl ⟨rfl, rfl⟩⟩⟩
theorem flat_none (n : Nat) : ∀ c ∈ (List.replicate n ([] : List Nat)).flatten, False := by
  intro c hc
  obtain ⟨l, h1, h2⟩ := List.mem_flatten.1 hc
  rw [List.eq_of_mem_replicate h1] at h2
  simp at h2
theorem grow31 {w : World} {base : Nat} {v : Value} (h : w.ownsRow base 33 2 v 31 (madeCells #[.int .i64 0, .slice none 0 0] 62).toList) :
    Grow Lay.tItem w base 33 v (List.replicate 31 [.int .i64 0, .slice none 0 0]) (List.replicate 31 ⟨0, []⟩) (List.replicate 31 []) := by
  rw [made31] at h
  refine ⟨by rw [List.length_replicate]; exact h, by rw [List.length_replicate, List.length_replicate], by rw [List.length_replicate, List.length_replicate], fun j h1 h2 h3 => ?_, fun b hb => (flat_none _ b hb).elim⟩
  rw [List.getElem_replicate, List.getElem_replicate, List.getElem_replicate]
  exact zeroItem w

set_option maxRecDepth 10000 in
set_option maxHeartbeats 1000000 in
theorem drawTab (b m : Nat) (cv : Value) (w : World) (hs : SrcAt w b cv m) (hc : IsCode b w cv) (hm : m ≤ 100000) :
    Calls Try.prog 14 #[.pointer (some ⟨b, 0, none⟩)] w (ItemsPost b m cv w) := by
  have hbw := hs.lt
  have HL := hide (drawRight b m cv w hs hc (by omega))
  clear hs hc
  go_enter Try.func14, Try.ntmps14
  go_wp2_with fail
  refine (unhide HL).mono ?_
  rintro e w2 ⟨v, rows, xs, bls, m', rfl, hG, hsf, hlen, s2, hm', c2, g2⟩
  have HL2 := hide (next b m' cv 14 w2 s2 c2 (by omega) (by omega) (by omega))
  have HG := hide hG
  have HSF := hide hsf
  have HGR := hide g2
  clear hG hsf s2 c2 g2 HL
  go_wp2_with fail
  refine (unhide HL2).mono ?_
  rintro e w3 ⟨q, rfl, hq, s3, c3, g3⟩
  replace HG := hide ((unhide HG).grown g3 hbw (unhide HSF))
  replace HGR := hide (grown_trans (unhide HGR) g3)
  have HS := hide s3
  have HC := hide c3
  clear s3 c3 g3 HL2
  have hw3 : w.heap.size ≤ w3.heap.size := (unhide HGR).size
  rcases (show q = 0 ∨ q = 1 ∨ 2 ≤ q by omega) with rfl | rfl | h2
  · have nb3 : Below w3.heap.size w3 (w3.alloc (.cells #[.int .i64 0, .int .i64 5, .int .i64 999, .int .i64 1000] 2)) := (Below.refl _ _).alloc (Nat.le_refl _) _
    have hg3 := heap_alloc_new w3 (.cells #[.int .i64 0, .int .i64 5, .int .i64 999, .int .i64 1000] 2)
    have L := hide (pick b (m' + 1) w3.heap.size cv [0, 5, 999, 1000] _ ((unhide HS).on nb3) ((unhide HC).on (by omega) nb3) (by omega) (by simp) (by simp) hg3 (by omega))
    replace HG := hide ((unhide HG).later nb3)
    replace HGR := hide (grown_on (unhide HGR) nb3)
    clear HS HC hg3 nb3
    go_wp2_with fail
    refine (unhide L).mono ?_
    generalize w3.alloc (.cells #[.int .i64 0, .int .i64 5, .int .i64 999, .int .i64 1000] 2) = W3 at *
    rintro e w4 ⟨p, rfl, hp, s4, c4, g4⟩
    have hpb : 0 ≤ p ∧ p ≤ 1000 := by
      simp only [List.mem_cons, List.not_mem_nil, or_false] at hp
      omega
    have L4 := hide (bent b (m' + 1 + 1) cv w4 s4 c4 (by omega))
    replace HG := hide ((unhide HG).grown g4 hbw (unhide HSF))
    replace HGR := hide (grown_trans (unhide HGR) g4)
    clear s4 c4 g4 L hp
    have hw4 : w.heap.size ≤ w4.heap.size := (unhide HGR).size
    go_wp2_with fail
    refine (unhide L4).mono ?_
    rintro e w5 ⟨v3, zs, m3, rfl, hzs, hNI, hm3, s5, c5, g5⟩
    obtain ⟨bz, hlz, hbz⟩ := hNI.lies (by omega)
    obtain ⟨a3, d3, rfl⟩ := open_sl ⟨bz, hlz⟩
    have hG := (unhide HG).grown g5 hbw (unhide HSF)
    have hoff : ∀ c ∈ bz, v.ownBlock ≠ some c := fun c hc e => by
      have h1 := hbz c hc
      have h2 := ((unhide HG).own.lt c e).2
      omega
    have hl : Lay.tItem.lies w5 [.int .i64 p, .slice a3 zs.length d3] ⟨p, zs⟩ bz := lies_Item.2 ⟨a3, d3, bz, rfl, rfl, (show (Lit.int .i64 p).wf = true from wf_of_bd (by omega)), hlz⟩
    replace HSF := hide (flat_snocI (unhide HSF) (fun c hc => Nat.le_trans hw4 (hbz c hc)))
    replace HGR := hide (grown_trans (unhide HGR) g5)
    have HS := hide s5
    have HC := hide c5
    have HZ : Hid (w.heap.size ≤ w5.heap.size) := (unhide HGR).size
    clear s5 c5 g5 L4 hNI hlz hbz HG
    go_wp2_with (at_builtin; refine wpList_append_Item hG hl hoff rfl _ _ rfl rfl rfl (by omega) (unhide HZ) ?_)
    intro g cap w6 hG6 hb6 hE6 hg6 hz6 hor6
    have HG6 := hide hG6
    have HS6 : Hid (SrcAt w6 b cv m3) := (hb6.block b hbw).trans (unhide HS)
    have HC6 := hide ((unhide HC).later (hb6.mono (Nat.le_of_lt hbw)))
    have HGR6 := hide (grown_lowI (unhide HGR) hb6)
    clear hG hl hoff hG6 hb6 hE6 hg6 hz6 hor6 HS HC HGR
    go_wp2_with fail
    go_ret
    exact ⟨_, _, _, _, m3, rfl, unhide HG6, unhide HSF, by simp; omega, unhide HS6, by omega, unhide HC6, unhide HGR6⟩
  · obtain ⟨i0, hi, hz0, hz1, hz2⟩ := info_parts infoAppItem
    clear HG HSF
    go_wp2_with (at_make; refine wpList_make_full _ rfl _ _ 24 rfl w.heap.size 33 i0 _ 2 Try.underlying24 hi hz0 hz1 _ _ _ _ 31 rfl rfl rfl rfl ?c1 ?c2 ?c3 ?_)
    case c1 => omega
    case c2 => unfold maxLen; omega
    case c3 => omega
    intro w4 o4 g4
    have hb4 : Below w3.heap.size w3 w4 := (Below.refl _ _).grown g4 (Nat.le_refl _) (by simp)
    have HG4 := hide (grow31 o4)
    have HS4 := hide ((unhide HS).on hb4)
    have HC4 := hide ((unhide HC).on (by omega) hb4)
    have HGR4 := hide (grown_on (unhide HGR) hb4)
    clear o4 g4 hi hz0 hz1 hz2 hb4 HS HC HGR
    go_wp2_with fail
    go_ret
    exact ⟨_, _, _, _, m' + 1, rfl, unhide HG4, fun c hc => (flat_none _ c hc).elim, by rw [List.length_replicate]; omega, unhide HS4, by omega, unhide HC4, unhide HGR4⟩
  · have d0 : ((q : Int) == 0) = false := by rw [beq_eq_false_iff_ne]; omega
    have d1 : ((q : Int) == 1) = false := by rw [beq_eq_false_iff_ne]; omega
    go_wp2_with fail
    go_ret
    exact ⟨v, rows, xs, bls, m' + 1, rfl, unhide HG, unhide HSF, by omega, unhide HS, by omega, unhide HC, unhide HGR⟩

end Go.Proofs.Ytkodenmpadehjab

namespace Go.Proofs.Ytkodenmpadehjab
open Go.RowKit

set_option maxHeartbeats 400000 in
theorem drawK (b m : Nat) (cv : Value) (w : World) (hs : SrcAt w b cv m) (hc : IsCode b w cv) (hm : m ≤ 100000000) :
    Calls Try.prog 16 #[.pointer (some ⟨b, 0, none⟩)] w fun e w' => ∃ k : Int, e = .returned (.int .i64 k) ∧ (Lit.int .i64 k).wf = true ∧ SrcAt w' b cv (m + 3) ∧ IsCode b w' cv ∧ w.grownBy w' (some b) := by
  have hbw := hs.lt
  go_enter Try.func16, Try.ntmps16
  go_wp2_with fail
  refine (next b m cv 9 _ hs hc (by omega) (by omega) (by omega)).mono ?_
  rintro e w1 ⟨x, rfl, hx, s1, c1, g1⟩
  clear hs hc
  go_wp2_with fail
  refine (next b (m + 1) cv 21 _ s1 c1 (by omega) (by omega) (by omega)).mono ?_
  rintro e w2 ⟨y, rfl, hy, s2, c2, g2⟩
  have hz2 : b < w2.heap.size := s2.lt
  have G2 := hide (grown_trans g1 g2)
  clear g1 g2 s1 c1
  go_wp2_with fail
  have e := pick b (m + 1 + 1) w2.heap.size cv [3, (x : Int), (y : Int), 20, 21, -1] (w2.alloc (.cells #[.int .i64 3, .int .i64 (x : Int), .int .i64 (y : Int), .int .i64 20, .int .i64 21, .int .i64 (-1)] 2)) (s2.alloc _) (c2.alloc (by omega) _) (by omega) (by simp) (by simp) (heap_alloc_new w2 _) (by omega)
  refine e.mono ?_
  clear e
  rintro e w3 ⟨r, rfl, hr, s3, c3, g3⟩
  have hrr : -1000000000 ≤ r ∧ r ≤ 1000000000 := by
    simp at hr
    omega
  have G3 := hide (grown_trans (grown_trans (unhide G2) (World.grownBy_alloc w2 (.cells #[.int .i64 3, .int .i64 (x : Int), .int .i64 (y : Int), .int .i64 20, .int .i64 21, .int .i64 (-1)] 2) _)) g3)
  have S3 := hide s3
  have C3 := hide c3
  have HR := hide hrr
  clear g3 s3 c3 s2 c2 G2 hr hrr
  go_wp2_with fail
  go_ret
  exact ⟨r, rfl, wf_of_bd (unhide HR), unhide S3, unhide C3, unhide G3⟩

end Go.Proofs.Ytkodenmpadehjab

namespace Go.Proofs.Ytkodenmpadehjab
open Go.RowKit

set_option maxRecDepth 10000 in
set_option maxHeartbeats 1000000 in
theorem drawSearch (ao : Option Addr) (len cap : Nat) (w : World) (hc : IsCode w.heap.size w (.slice ao len cap)) :
    Calls Try.prog 5 #[.slice ao len cap] w fun e w' => ∃ (v : Value) (xs : List DItem) (u : Value) (zs : List Int) (k : Int), e = .returned (.tuple #[v, u, .int .i64 k]) ∧ (Lay.sl Lay.tItem).Reads w' [v] xs ∧ xs.length ≤ 31 ∧ (Lay.sl Lay.int).Reads w' [u] zs ∧ zs.length ≤ 4 ∧ (Lit.int .i64 k).wf = true ∧ Below w.heap.size w w' := by
  go_enter Try.func5, Try.ntmps5
  go_wp2_with fail
  refine (source ao len cap w).mono ?_
  rintro e w1 ⟨rfl, rfl⟩
  have s1 := src_new w (.slice ao len cap)
  have c1 := hc.on (Nat.le_refl _) ((Below.refl _ _).alloc (Nat.le_refl _) (.cells #[.slice ao len cap, .int .i64 0] 60))
  have b1 : Below w.heap.size w (w.alloc (.cells #[.slice ao len cap, .int .i64 0] 60)) := (Below.refl _ _).alloc (Nat.le_refl _) _
  generalize w.alloc (.cells #[.slice ao len cap, .int .i64 0] 60) = w1 at *
  have hlt := s1.lt
  have HL := hide (drawTab w.heap.size 0 _ w1 s1 c1 (by omega))
  have HB := hide b1
  clear hc s1 c1 b1
  go_wp2_with fail
  refine (unhide HL).mono ?_
  rintro e w2 ⟨v, rows, xs, bls, m', rfl, hG, hsf, hlen, s2, hm', c2, g2⟩
  have HL2 := hide (bent w.heap.size m' _ w2 s2 c2 (by omega))
  have hw2 : w1.heap.size ≤ w2.heap.size := g2.size
  have HG := hide hG
  have HSF := hide hsf
  replace HB := hide ((unhide HB).grown g2 (Nat.le_of_lt hlt) (fun k hk => by simp at hk; omega))
  clear hG hsf s2 c2 g2 HL
  go_wp2_with fail
  refine (unhide HL2).mono ?_
  rintro e w3 ⟨u, zs, m3, rfl, hzs, hNI, hm3, s3, c3, g3⟩
  replace HG := hide ((unhide HG).grown g3 hlt (unhide HSF))
  replace HB := hide ((unhide HB).grown g3 (unhide HB).size (fun k hk => by simp at hk; omega))
  obtain ⟨bz, hlz, hbz⟩ := hNI.lies (by omega)
  have HLZ := hide hlz
  have HBZ : Hid (∀ c ∈ bz, w.heap.size < c) := fun c hc => by have := hbz c hc; omega
  have HL3 := hide (drawK w.heap.size m3 _ w3 s3 c3 (by omega))
  clear s3 c3 g3 HL2 hNI hlz hbz
  go_wp2_with fail
  refine (unhide HL3).mono ?_
  rintro e w4 ⟨k, rfl, hk, -, -, g4⟩
  have HR := hide (((unhide HG).grown g4 hlt (unhide HSF)).toReads (by omega))
  have HU : Hid ((Lay.sl Lay.int).Reads w4 [u] zs) := ⟨bz, (Lay.sl Lay.int).keep (unhide HLZ) fun c hc => g4.block c ((Lay.sl Lay.int).lt (unhide HLZ) c hc) (fun e => by
    have h1 := unhide HBZ c hc
    have h2 : c = w.heap.size := Option.some.inj e
    omega)⟩
  replace HB := hide ((unhide HB).grown g4 (unhide HB).size (fun k hk => by simp at hk; omega))
  have HK := hide hk
  clear g4 hk HL3 HG HLZ
  go_wp2_with fail
  refine bodyPost_ret (v := .tuple #[v, u, .int .i64 k]) (by simp [results, Try.results5, go_sem]) rfl ?_
  exact ⟨v, xs, u, zs, k, rfl, unhide HR, hlen, unhide HU, hzs, unhide HK, unhide HB⟩

end Go.Proofs.Ytkodenmpadehjab
