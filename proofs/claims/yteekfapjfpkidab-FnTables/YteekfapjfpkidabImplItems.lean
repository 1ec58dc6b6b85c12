/-
  The program's items of a map: the items, rising by Id, in new memory; nothing old is written.
  Condition: the map holds a right table (premise).
-/
import Derived.Test.YteekfapjfpkidabKeysC
import Derived.Test.YteekfapjfpkidabAppItem
import Derived.Test.YteekfapjfpkidabListC
import Derived.Test.YteekfapjfpkidabImplFrom
namespace Go.Proofs.Yteekfapjfpkidab
open Go.RowKit Go.Maps

theorem grown_of_ext {r : Option Nat} {w w' : World} (e : Ext (fun q => r = some q) w w') : w.grownBy w' r :=
  ⟨e.os, e.tape, e.output, e.size, fun i hi hn => e.block i hi fun h => hn h.symm⟩
theorem own_snoc {w w' : World} {base : Nat} {bls : List (List Nat)} {bl : List Nat} (hn : bls.flatten.Nodup) (hs : ∀ b ∈ bls.flatten, base ≤ b ∧ ∀ o, w.frozen? ⟨b, o, none⟩ = false) (hlt : ∀ b ∈ bls.flatten, b < w.heap.size)
    (hn2 : bl.Nodup) (hs2 : ∀ b ∈ bl, w.heap.size ≤ b ∧ ∀ o, w'.frozen? ⟨b, o, none⟩ = false) (hb : base ≤ w.heap.size) (hk : ∀ b ∈ bls.flatten, w'.heap[b]? = w.heap[b]?) :
    (bls ++ [bl]).flatten.Nodup ∧ ∀ b ∈ (bls ++ [bl]).flatten, base ≤ b ∧ ∀ o, w'.frozen? ⟨b, o, none⟩ = false := by
  refine ⟨?_, ?_⟩
  · rw [List.flatten_append, List.nodup_append]
    refine ⟨hn, by simpa using hn2, fun a ha c hc e => ?_⟩
    have := hlt a ha
    have := (hs2 c (by simpa using hc)).1
    omega
  · intro b hm
    rw [List.flatten_append] at hm
    rcases List.mem_append.1 hm with hm | hm
    · exact ⟨(hs b hm).1, fun o => (frozen_of_heap (hk b hm) o).trans ((hs b hm).2 o)⟩
    · have h2 := hs2 b (by simpa using hm)
      exact ⟨by omega, h2.2⟩

set_option maxRecDepth 100000 in
set_option maxHeartbeats 4000000 in
/-- items of the program. -/
theorem itemsC (b n : Nat) (xs : List DItem) (w : World) (hT : TabAt w b n xs) (hR : Right xs) :
    Calls Try.prog 56 #[.map (some b)] w fun e w' => ∃ v, e = .returned v ∧ (Lay.sl Lay.tItem).OwnIn w' [v] xs w.heap.size w'.heap.size ∧ Below w.heap.size w w' := by
  obtain ⟨hlen, hall, hris⟩ := tableFault_zero hR
  have hbw := hT.lt
  have hown : w.ownsMap Try.prog 2 vecR b n (mapD xs) := hT
  obtain ⟨i0, hi, hz0, hz1, hz2⟩ := info_parts infoAppItem
  have HT := hide hT
  have HA := hide hall
  have HI := hide hris
  have hsz : Maps.size (mapD xs) = xs.length := size_mapD xs
  clear hT hall hris hR
  go_enter Try.func56, Try.ntmps56
  go_wp2_with (first
    | (at_len; refine wpList_len_own _ rfl _ 89 rfl 2 109 Try.underlying89 vecR b n (mapD xs) rfl hown ?_; rw [hsz])
    | (at_make; refine wpList_make_own _ rfl _ _ 28 rfl w.heap.size 60 i0 _ 2 Try.underlying28 hi hz0 hz1 .i64 .i64 _ xs.length rfl rfl rfl (by rw [hz2]; omega) (by unfold maxLen; omega) (Nat.le_refl _) ?_))
  clear hown hsz
  intro w1 hown1 hg1
  have hB1 : Below w.heap.size w w1 := (Below.refl _ _).grown hg1 (Nat.le_refl _) (by simp)
  have hz1' : w.heap.size < w1.heap.size := (hown1.lt w.heap.size rfl).2
  have hT1 := (unhide HT).later hB1
  have LS := sortedKeys b n xs w1 hT1 (by omega)
  have hB2 : Below w1.heap.size w1 (w1.alloc (.cells #[.map (some b)] 89)) := (Below.refl _ _).alloc (Nat.le_refl _) _
  have HT2 := hide (hT1.later hB2)
  have HG2 := hide ((Grow.nil (A := Lay.tItem) hown1).later hB2)
  have HB2 := hide (hB1.trans (hB2.mono hB1.size))
  have HLS := hide LS
  clear hown1 hg1 hB1 hT1 hB2 LS HT hi hz0 hz1 hz2
  go_wp2_with fail
  refine (mapKeys (some b) w1).mono ?_
  rintro e w2 ⟨rfl, rfl⟩
  go_wp2_with fail
  refine (unhide HLS).mono ?_
  generalize w1.alloc (.cells #[.map (some b)] 89) = W2 at *
  rintro e w3 ⟨sv, ss, rfl, hS, hrow, hb⟩
  rw [intKeys_mapD] at hS
  have hsl : ss.length = xs.length := by rw [hS.length_eq, List.length_map]
  rw [sort_ids (unhide HI) hS, encZ_eq, hsl] at hrow
  have hT3 := (unhide HT2).later hb
  have hG3 := (unhide HG2).later hb
  have hB3 := (unhide HB2).trans (hb.mono (unhide HB2).size)
  have hov : w.heap.size < W2.heap.size := by have := ((unhide HG2).own.lt w.heap.size rfl).2; omega
  clear hS HLS HT2 HG2 HB2 hb hsl ss
  by_cases hp : 0 < xs.length
  · obtain ⟨sg, cap, rfl, hsg, hsgl⟩ : ∃ sg cap, sv = .slice (some ⟨sg, 0, none⟩) xs.length cap ∧ W2.heap.size ≤ sg ∧ sg < w3.heap.size := by
      rcases hrow.2 with ⟨-, h0⟩ | ⟨g, cap, cur, rfl, hg, hh, -⟩
      · omega
      · exact ⟨g, cap, rfl, hg, lt_of_block hh⟩
    have HT3 := hide hT3
    have HG3 := hide hG3
    have HB3 := hide hB3
    have HROW := hide hrow
    clear hT3 hG3 hB3 hrow
    have hbig : xs.length ≤ 30 := hlen
    go_wp2_with fail
    go_loopw [3, 13] (fun v i wr => ∃ (k : Nat) (rows : List (List Value)) (bls : List (List Nat)), k ≤ xs.length ∧ i = .int .i64 k ∧ Grow Lay.tItem wr w.heap.size 60 v rows (xs.take k) bls ∧
        (bls.flatten.Nodup ∧ ∀ b ∈ bls.flatten, w.heap.size ≤ b ∧ ∀ o, wr.frozen? ⟨b, o, none⟩ = false) ∧ wr.ownsRow W2.heap.size 2 1 (.slice (some ⟨sg, 0, none⟩) xs.length cap) xs.length ((xs.map (·.id)).map (Value.int .i64)) ∧ v.ownBlock ≠ some sg ∧ TabAt wr b n xs ∧ Below w.heap.size w wr) (fun _ i _ => xs.length - (intOf i).toNat)
    case atStart =>
      exact ⟨0, [], [], Nat.zero_le _, rfl, unhide HG3, ⟨by simp, by simp⟩, unhide HROW, fun e => by simp [Value.ownBlock] at e; omega, unhide HT3, unhide HB3⟩
    case round =>
      obtain ⟨k, rows, bls, hk, rfl, hG, ⟨hnd, hsf⟩, hrow, hne, hT, hB⟩ := hrel
      clear HT3 HG3 HB3 HROW
      by_cases hlt : k < xs.length
      · have hc : wr.cell? ⟨sg, k, none⟩ = some (.int .i64 xs[k].id) := by
          rw [hrow.cellAt k (by omega)]
          simp [hlt]
        obtain ⟨hid, hvf⟩ := unhide HA xs[k] (List.getElem_mem hlt)
        obtain ⟨p, q, r, hv3, -, hrun⟩ := hT.look (unhide HI) (id_wf hid) (List.getElem_mem hlt) rfl
        have HTK : Hid (xs.take (k + 1) = xs.take k ++ [xs[k]]) := List.take_succ_eq_append_getElem hlt
        have HL : Hid ((xs.take k).length = k) := by show (xs.take k).length = k; rw [List.length_take]; omega
        generalize hx : xs[k] = x at *
        clear hx
        rw [hv3] at hvf
        obtain ⟨⟨b1, b2⟩, ⟨b3, b4⟩, b5, b6⟩ := fault3 hvf
        have HWF : Hid (∀ z ∈ [p, q, r], (Lit.int .i64 z).wf = true) := by
          show ∀ z ∈ [p, q, r], (Lit.int .i64 z).wf = true
          intro z hz
          simp only [List.mem_cons, List.not_mem_nil, or_false] at hz
          rcases hz with rfl | rfl | rfl <;> exact wf_of_bd (by omega)
        have LL := listOwn p q r wr (unhide HWF)
        simp only [arr3] at hrun LL
        have HLL := hide LL
        have hwi := id_wf hid
        have HWI := hide hwi
        have HV3 := hide hv3
        have HG := hide hG
        have HND := hide hnd
        have HSF := hide hsf
        have HROW := hide hrow
        have HNE := hide hne
        have HT := hide hT
        have HB := hide hB
        clear hG hnd hsf hrow hne hT hB hid hvf b1 b2 b3 b4 b5 b6 LL hwi hv3
        go_wp2_with fail
        refine (unhide HLL).mono ?_
        rintro e w4 ⟨g2, rfl, hO, hb4⟩
        obtain ⟨bl2, ⟨hl2, hn2, hf2⟩, hr2⟩ := hO
        have hG4 := (unhide HG).later hb4
        have hz4 := hb4.size
        have hB4 := (unhide HB).trans (hb4.mono (unhide HB).size)
        have hlies : Lay.tItem.lies w4 [.int .i64 x.id, .slice (some ⟨g2, 0, none⟩) 3 3] x bl2 := by
          refine lies_Item.2 ⟨some ⟨g2, 0, none⟩, 3, bl2, by rw [unhide HV3]; rfl, rfl, unhide HWI, ?_⟩
          rw [unhide HV3]; exact hl2
        have hoff : ∀ c ∈ bl2, u3.ownBlock ≠ some c := fun c hc e => by have h1 := hr2 c hc; have h2 := ((unhide HG).own.lt c e).2; omega
        have HSN := hide (own_snoc (w' := w4) (unhide HND) (unhide HSF) (unhide HG).sub_lt hn2 (fun c hc => ⟨(hr2 c hc).1, hf2 c hc⟩) (unhide HB).size (fun c hc => hb4.block c ((unhide HG).sub_lt c hc)))
        have HROW4 := hide (own_below (unhide HROW) hb4)
        have HT4 := hide ((unhide HT).later hb4)
        have hkl := unhide HL
        have HLO := hide hoff
        have HLT : Hid (∀ c ∈ (bls ++ [bl2]).flatten, u3.ownBlock ≠ some c) := by
          intro c hc
          rw [List.flatten_append] at hc
          rcases List.mem_append.1 hc with hc | hc
          · exact (unhide HG).off c hc
          · exact unhide HLO c (by simpa using hc)
        have HLS : Hid (∀ c ∈ (bls ++ [bl2]).flatten, c < w4.heap.size) := by
          intro c hc
          rw [List.flatten_append] at hc
          rcases List.mem_append.1 hc with hc | hc
          · have := (unhide HG).sub_lt c hc; omega
          · have := (hr2 c (by simpa using hc)).2; omega
        have HB4 := hide hB4
        have HZ : Hid (w.heap.size ≤ w4.heap.size) := hB4.size
        have HSG : Hid (sg < w4.heap.size) := by show sg < w4.heap.size; have := (unhide HROW).lt sg rfl; omega
        clear HLL hb4 hl2 hn2 hf2 hr2 hB4 HND HSF HROW HT HB HWF HWI HV3 hrun hc
        go_wp2_with (at_builtin; refine wpList_append_Item hG4 hlies hoff rfl _ _ rfl rfl rfl (by omega) (unhide HZ) ?_)
        rintro g5 cp5 w5 hG5 hb5 hE5 hl5 hz5 hor
        clear hG4 hlies hoff hkl
        have HG5 := hide hG5
        have HB5 := hide ((unhide HB4).trans hb5)
        have HT5 := hide ((unhide HT4).ext hE5 (fun e => by have := ((unhide HG).own.lt b e).1; omega))
        have HROW5 := hide ((unhide HROW4).kept (grown_of_ext hE5) (Or.inr (fun e => unhide HNE e.symm)))
        have HNE5 : Hid (some g5 ≠ some sg) := by
          intro e
          have e1 : g5 = sg := by simpa using e
          rcases hor with h | h
          · exact unhide HNE (by rw [h, e1])
          · have := unhide HSG; omega
        have HSN5 : Hid ((bls ++ [bl2]).flatten.Nodup ∧ ∀ c ∈ (bls ++ [bl2]).flatten, w.heap.size ≤ c ∧ ∀ o, w5.frozen? ⟨c, o, none⟩ = false) := by
          obtain ⟨s1, s2⟩ := unhide HSN
          exact ⟨s1, fun c hc => ⟨(s2 c hc).1, fun o => (frozen_of_heap (hE5.block c (unhide HLS c hc) (unhide HLT c hc)) o).trans ((s2 c hc).2 o)⟩⟩
        clear hG5 hb5 hE5 hor HB4 HT4 HROW4 HSN HG HNE HLT HLS HLO
        go_wp2_with fail
        go_roundw
        case rel =>
          have hg := unhide HG5
          rw [← unhide HTK] at hg
          exact ⟨k + 1, _, _, by omega, by go_num, hg, unhide HSN5, unhide HROW5, unhide HNE5, unhide HT5, unhide HB5⟩
        case measure => simp [intOf]; omega
      · obtain rfl : k = xs.length := by omega
        rw [List.take_length] at hG
        have HO := hide (hG.toOwn (by omega) hnd hsf)
        have HB := hide hB
        clear hG hB hnd hsf hrow hne hT
        go_wp2_with fail
        go_ret
        exact ⟨_, rfl, unhide HO, unhide HB⟩
  · obtain rfl : xs = [] := List.eq_nil_of_length_eq_zero (by omega)
    have HO := hide (hG3.toOwn (by simp) (by simp) (by simp))
    have HB := hide hB3
    have hsv : ∃ ao cap, sv = .slice ao 0 cap := by
      rcases hrow.2 with ⟨rfl, -⟩ | ⟨g, cap, cur, rfl, -⟩
      · exact ⟨none, 0, rfl⟩
      · exact ⟨_, cap, rfl⟩
    obtain ⟨ao, cap, rfl⟩ := hsv
    clear hG3 hB3 hT3 hrow hp
    go_wp2_with fail
    refine wp_loop_rounds 1 ?_
    rw [rounds_succ]
    go_wp2_with fail
    go_ret
    exact ⟨_, rfl, unhide HO, unhide HB⟩

end Go.Proofs.Yteekfapjfpkidab
