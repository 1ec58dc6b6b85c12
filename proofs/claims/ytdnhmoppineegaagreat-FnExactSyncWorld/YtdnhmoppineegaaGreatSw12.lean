/-
  Texts of this proof in one: SpecWF, ImplNodeId, ImplEpoch, PartReads, ImplChainF, ImplUpTo, TickMap, ToldPlain, ImplTell, VecOf, ImplDeed, ListC, ImplWOf, ImplWOfA, LayOpen, ImplStory, ImplOnce, ImplWrF.
  Their conditions stand in their theorems.
-/
import Derived.Test.YtdnhmoppineegaaGreatSw11
import Derived.Test.YtdnhmoppineegaaGreatChecked
import Derived.Test.YtdnhmoppineegaaGreatSw01
import Derived.Test.YtdnhmoppineegaaGreatSw04
import Derived.Deep.CutRange
import Derived.Maps.OwnSet
import Derived.DeepKeys4
import Derived.Test.YtdnhmoppineegaaGreatSw05
import Derived.Test.YtdnhmoppineegaaGreatSw06
import Derived.Deep.RegionHeld3
import Derived.WalkSmall
import Derived.Outline
import Derived.ProofKit
import Derived.OpenShut
import Derived.Deep.Slices
import Derived.Carry

namespace Go.Proofs.YtdnhmoppineegaaGreat
open Go.RowKit

set_option maxRecDepth 100000 in
set_option maxHeartbeats 4000000 in
theorem l12FaultC (a3 : Option Addr) (d3 : Nat) (a4 : Option Addr) (d4 : Nat) (a5 : Option Addr) (d5 : Nat) (a6 : Option Addr) (d6 : Nat) (x : DWorld) (xb : Nat) (w : World) (hX : Box 0 #[.int .i64 x.now, .int .i64 x.events, .int .i64 x.chain.epoch, .slice a3 x.chain.ids.length d3, .slice a4 x.nodes.length d4, .slice a5 x.msgs.length d5, .slice a6 x.history.length d6] 36 w xb) (h : Lay.tWorld.Reads w [.int .i64 x.now, .int .i64 x.events, .int .i64 x.chain.epoch, .slice a3 x.chain.ids.length d3, .slice a4 x.nodes.length d4, .slice a5 x.msgs.length d5, .slice a6 x.history.length d6] x) :
    Calls Tryz.prog 92 #[.pointer (some ⟨xb, 0, none⟩)] w fun e w' => e = .returned (.int .i64 (worldFault x)) ∧ Below w.heap.size w w' := by
  have HX := hide hX
  have HR := hide h
  have HB := hide (Below.refl w.heap.size w)
  have HP : Hid (worldFault x = if (decide (0 ≤ x.now) && decide (x.now ≤ 9000)) = false ∨ (decide (0 ≤ x.events) && decide (x.events ≤ 9999)) = false then 3 else if chainFault x.chain ≠ 0 then chainFault x.chain
    else if x.nodes.length < 1 ∨ 5 < x.nodes.length then 2 else if nodesFault x ≠ 0 then nodesFault x else if netFault x.msgs ≠ 0 then netFault x.msgs
    else if 60 < x.history.length then 2 else if (x.history.drop 0).all (entryB x) = true then 0 else 3) := by
    have e1 : (¬ (0 ≤ x.now ∧ x.now ≤ 9000) ∨ ¬ (0 ≤ x.events ∧ x.events ≤ 9999)) ↔ ((decide (0 ≤ x.now) && decide (x.now ≤ 9000)) = false ∨ (decide (0 ≤ x.events) && decide (x.events ≤ 9999)) = false) := by
      simp only [Bool.and_eq_false_iff, decide_eq_false_iff_not]
      omega
    show worldFault x = _
    unfold worldFault
    by_cases h1 : (decide (0 ≤ x.now) && decide (x.now ≤ 9000)) = false ∨ (decide (0 ≤ x.events) && decide (x.events ≤ 9999)) = false
    · rw [if_pos (e1.2 h1), if_pos h1]
    · rw [if_neg (fun q => h1 (e1.1 q)), if_neg h1]
      rfl
  clear h hX
  generalize worldFault x = r at *
  have z0 := Box.at (unhide HX) 0 _ rfl
  have z1 := Box.at (unhide HX) 1 _ rfl
  have z2 := Box.at (unhide HX) 2 _ rfl
  have z3 := Box.at (unhide HX) 3 _ rfl
  have z4 := Box.at (unhide HX) 4 _ rfl
  have z5 := Box.at (unhide HX) 5 _ rfl
  have z6 := Box.at (unhide HX) 6 _ rfl
  simp only [List.getElem_toArray, List.getElem_cons_zero, List.getElem_cons_succ] at z0 z1 z2 z3 z4 z5 z6
  have xl := (unhide HX).lt
  go_enter Tryz.func92, Tryz.ntmps92
  go_wp2_with fail
  refine (inC x.now 0 9000 w).mono ?_
  rintro e w2 ⟨rfl, h2⟩
  subst w2
  cases d1 : (decide (0 ≤ x.now) && decide (x.now ≤ 9000))
  · replace HP := hide ((unhide HP).trans (if_pos (Or.inl d1)))
    clear d1
    go_wp2_with fail
    go_ret
    exact ⟨by rw [unhide HP]; rfl, unhide HB⟩
  · go_wp2_with fail
    refine (inC x.events 0 9999 w).mono ?_
    rintro e w2 ⟨rfl, h2⟩
    subst w2
    cases d2 : (decide (0 ≤ x.events) && decide (x.events ≤ 9999))
    · replace HP := hide ((unhide HP).trans (if_pos (Or.inr d2)))
      clear d1 d2
      go_wp2_with fail
      go_ret
      exact ⟨by rw [unhide HP]; rfl, unhide HB⟩
    · replace HP := hide ((unhide HP).trans (if_neg (by rw [d1, d2]; simp)))
      clear d1 d2
      go_wp2_with fail
      obtain ⟨_, _, _, _, _, _, _, _, hq, RC, -, -, -⟩ := open_World (unhide HR)
      simp only [List.cons.injEq, Value.slice.injEq, and_true, true_and] at hq
      obtain ⟨⟨rfl, rfl⟩, ⟨rfl, rfl⟩, ⟨rfl, rfl⟩, rfl, rfl⟩ := hq
      obtain ⟨_, _, hq, RI⟩ := open_Chain RC
      simp only [List.cons.injEq, Value.slice.injEq, and_true, true_and] at hq
      obtain ⟨rfl, rfl⟩ := hq
      refine (l10FaultO xb 2 _ _ x.chain w ⟨(unhide HX).at 2 _ rfl, (unhide HX).at 3 _ rfl⟩ RI).mono ?_
      rintro e w2 ⟨rfl, h2⟩
      subst w2
      clear RC RI
      by_cases d3 : chainFault x.chain ≠ 0
      · have hd : (chainFault x.chain != 0) = true := by simpa using d3
        replace HP := hide ((unhide HP).trans (if_pos d3))
        clear d3
        generalize chainFault x.chain = c at *
        go_wp2_with fail
        go_ret
        exact ⟨by rw [unhide HP]; rfl, unhide HB⟩
      · replace HP := hide ((unhide HP).trans (if_neg d3))
        have hd : chainFault x.chain = 0 := by simpa using d3
        clear d3
        rw [hd]
        clear hd
        have hbn := (show x.nodes.length ≤ 9223372036854775807 from by
          obtain ⟨_, _, _, _, _, _, _, _, hq, -, RN, -, -⟩ := open_World (unhide HR)
          exact RN.big)
        by_cases d4 : x.nodes.length < 1 ∨ 5 < x.nodes.length
        · replace HP := hide ((unhide HP).trans (if_pos d4))
          by_cases d5 : x.nodes.length < 1
          · have hd : decide ((x.nodes.length : Int) < 1) = true := by simp; omega
            clear d4 d5
            go_wp2_with fail
            go_ret
            exact ⟨by rw [unhide HP]; rfl, unhide HB⟩
          · have hd : decide ((x.nodes.length : Int) < 1) = false := by simp; omega
            have hd2 : decide ((5 : Int) < (x.nodes.length : Int)) = true := by simp; omega
            clear d4 d5
            go_wp2_with fail
            go_ret
            exact ⟨by rw [unhide HP]; rfl, unhide HB⟩
        · replace HP := hide ((unhide HP).trans (if_neg d4))
          have hd : decide ((x.nodes.length : Int) < 1) = false := by simp; omega
          have hd2 : decide ((5 : Int) < (x.nodes.length : Int)) = false := by simp; omega
          have hn5 : x.nodes.length ≤ 5 := by omega
          clear d4
          go_wp2_with fail
          refine (l12NodesC _ _ _ _ _ _ _ _ x xb w (unhide HX) (unhide HR)).mono ?_
          rintro e w4 ⟨rfl, hb⟩
          clear xl hn5 z0 z1 z2 z3 z4 z5 z6
          replace HX := hide ((unhide HX).keep hb)
          replace HR := hide ((unhide HR).later hb)
          replace HB := hide ((unhide HB).trans (hb.mono (unhide HB).size))
          clear hb
          have z0 := Box.at (unhide HX) 0 _ rfl
          have z1 := Box.at (unhide HX) 1 _ rfl
          have z2 := Box.at (unhide HX) 2 _ rfl
          have z3 := Box.at (unhide HX) 3 _ rfl
          have z4 := Box.at (unhide HX) 4 _ rfl
          have z5 := Box.at (unhide HX) 5 _ rfl
          have z6 := Box.at (unhide HX) 6 _ rfl
          simp only [List.getElem_toArray, List.getElem_cons_zero, List.getElem_cons_succ] at z0 z1 z2 z3 z4 z5 z6
          have xl := (unhide HX).lt
          by_cases d3 : nodesFault x ≠ 0
          · have hd : (nodesFault x != 0) = true := by simpa using d3
            replace HP := hide ((unhide HP).trans (if_pos d3))
            clear d3
            generalize nodesFault x = c at *
            go_wp2_with fail
            go_ret
            exact ⟨by rw [unhide HP]; rfl, unhide HB⟩
          · replace HP := hide ((unhide HP).trans (if_neg d3))
            have hd : nodesFault x = 0 := by simpa using d3
            clear d3
            rw [hd]
            clear hd
            go_wp2_with fail
            obtain ⟨_, _, _, _, _, _, _, _, hq, -, -, RM, -⟩ := open_World (unhide HR)
            simp only [List.cons.injEq, Value.slice.injEq, and_true, true_and] at hq
            obtain ⟨⟨rfl, rfl⟩, ⟨rfl, rfl⟩, ⟨rfl, rfl⟩, rfl, rfl⟩ := hq
            refine (l11FaultC _ x.msgs w4 RM).mono ?_
            rintro e w5 ⟨rfl, hb⟩
            clear RM xl z0 z1 z2 z3 z4 z5 z6
            replace HX := hide ((unhide HX).keep hb)
            replace HR := hide ((unhide HR).later hb)
            replace HB := hide ((unhide HB).trans (hb.mono (unhide HB).size))
            clear hb
            have z0 := Box.at (unhide HX) 0 _ rfl
            have z1 := Box.at (unhide HX) 1 _ rfl
            have z2 := Box.at (unhide HX) 2 _ rfl
            have z3 := Box.at (unhide HX) 3 _ rfl
            have z4 := Box.at (unhide HX) 4 _ rfl
            have z5 := Box.at (unhide HX) 5 _ rfl
            have z6 := Box.at (unhide HX) 6 _ rfl
            simp only [List.getElem_toArray, List.getElem_cons_zero, List.getElem_cons_succ] at z0 z1 z2 z3 z4 z5 z6
            have xl := (unhide HX).lt
            by_cases d3 : netFault x.msgs ≠ 0
            · have hd : (netFault x.msgs != 0) = true := by simpa using d3
              replace HP := hide ((unhide HP).trans (if_pos d3))
              clear d3
              generalize netFault x.msgs = c at *
              go_wp2_with fail
              go_ret
              exact ⟨by rw [unhide HP]; rfl, unhide HB⟩
            · replace HP := hide ((unhide HP).trans (if_neg d3))
              have hd : netFault x.msgs = 0 := by simpa using d3
              clear d3
              rw [hd]
              clear hd
              obtain ⟨_, _, _, _, _, _, _, _, hq, -, -, -, RE⟩ := open_World (unhide HR)
              simp only [List.cons.injEq, Value.slice.injEq, and_true, true_and] at hq
              obtain ⟨⟨rfl, rfl⟩, ⟨rfl, rfl⟩, ⟨rfl, rfl⟩, rfl, rfl⟩ := hq
              have HE := hide RE
              have hbig := RE.big
              clear RE
              by_cases d4 : 60 < x.history.length
              · replace HP := hide ((unhide HP).trans (if_pos d4))
                have hd : decide ((60 : Int) < (x.history.length : Int)) = true := by simp; omega
                clear d4
                go_wp2_with fail
                go_ret
                exact ⟨by rw [unhide HP]; rfl, unhide HB⟩
              · replace HP := hide ((unhide HP).trans (if_neg d4))
                have hd : decide ((60 : Int) < (x.history.length : Int)) = false := by simp; omega
                clear d4
                go_wp2_with fail
                clear z0 z1 z2 z3 z4 z5 z6 xl hd
                go_loopw [6] (fun i wr => ∃ k : Nat, k ≤ x.history.length ∧ i = .int .i64 k ∧ r = (if (x.history.drop k).all (entryB x) = true then 0 else 3) ∧ Below w5.heap.size w5 wr) (fun i _ => x.history.length - (intOf i).toNat)
                case atStart => exact ⟨0, Nat.zero_le _, rfl, unhide HP, Below.refl _ _⟩
                case round =>
                  obtain ⟨k, hk, rfl, hF, hB⟩ := hrel
                  clear HP
                  have hX2 := (unhide HX).keep hB
                  have y6 := Box.at hX2 6 _ rfl
                  simp only [List.getElem_toArray, List.getElem_cons_zero, List.getElem_cons_succ] at y6
                  have xl := hX2.lt
                  have HB3 := hide ((unhide HB).trans (hB.mono (unhide HB).size))
                  by_cases hlt : k < x.history.length
                  · obtain ⟨b, off, rfl, hbl⟩ := Lay.sl_addr (unhide HE) (by omega)
                    obtain ⟨row, hcl, hr⟩ := Lay.row_at (unhide HE) hlt
                    rw [List.drop_eq_getElem_cons hlt, List.all_cons] at hF
                    have hdl : decide ((k : Int) < (x.history.length : Int)) = true := by simp; omega
                    have hrl := hr.len
                    obtain ⟨aq, dq, av, dv, ah, dh, rfl, -⟩ := open_Entry hr
                    have hE : RowIn #[.int .i64 (x.history[k]).kind, .int .i64 (x.history[k]).session, .int .i64 (x.history[k]).seq, .int .i64 (x.history[k]).id, .slice aq (x.history[k]).query.length dq, .int .i64 (x.history[k]).k, .int .i64 (x.history[k]).start, .int .i64 (x.history[k]).fin, .int .i64 (x.history[k]).place, .slice av (x.history[k]).vec.length dv, .slice ah (x.history[k]).hits.length dh] wr b (off + k * 11) := RowIn.ofRow (A := Lay.tEntry) (k := k) (fun m hm => (hB.cell (p := ⟨b, off + k * 11 + m, none⟩) hbl).trans (hcl m hm)) hrl (Nat.lt_of_lt_of_le hbl hB.size)
                    have HL := hide (l12EntryC _ _ _ _ _ _ _ _ _ _ _ _ _ _ x _ xb b (off + k * 11) wr hX2 hE)
                    have HF := hide hF
                    have HBQ := hide hB
                    clear hF hX2 hB hr hrl hcl hE
                    generalize x.history[k] = z at *
                    go_wp2_with fail
                    refine (unhide HL).mono ?_
                    rintro e w5 ⟨rfl, hb⟩
                    replace HB3 := hide ((unhide HB3).trans (hb.mono (unhide HB3).size))
                    replace HBQ := hide ((unhide HBQ).trans (hb.mono (unhide HBQ).size))
                    clear HL hb y6
                    generalize entryB x z = q at *
                    cases q
                    · replace HF := hide ((unhide HF).trans (if_neg (by simp)))
                      go_wp2_with fail
                      go_ret
                      exact ⟨by rw [unhide HF]; rfl, unhide HB3⟩
                    · rw [Bool.true_and] at HF
                      go_wp2_with fail
                      go_roundw
                      case rel => exact ⟨k + 1, by omega, by go_num, unhide HF, unhide HBQ⟩
                      case measure => simp [intOf]; omega
                  · obtain rfl : k = x.history.length := by omega
                    rw [List.drop_length, List.all_nil, if_pos rfl] at hF
                    have hdl : decide ((x.history.length : Int) < (x.history.length : Int)) = false := by simp
                    have HF := hide hF
                    clear hF hB hX2
                    go_wp2_with fail
                    go_ret
                    exact ⟨by rw [unhide HF]; rfl, unhide HB3⟩
end Go.Proofs.YtdnhmoppineegaaGreat

namespace Go.Proofs.YtdnhmoppineegaaGreat
open Go.RowKit

theorem isNodeIdC (n : Int) (w : World) :
    Calls Tryz.prog 207 #[.int .i64 n] w fun e w' => e = .returned (.bool (decide (1 ≤ n) && decide (n ≤ 5))) ∧ w' = w := by
  by_cases h1 : 1 ≤ n
  · have d1 : decide (1 ≤ n) = true := by simpa using h1
    rw [d1]
    cases d2 : decide (n ≤ 5) <;>
    · go_enter Tryz.func207, Tryz.ntmps207
      go_wp2_with fail
      go_ret
      exact ⟨rfl, rfl⟩
  · have d1 : decide (1 ≤ n) = false := by simpa using h1
    rw [d1]
    go_enter Tryz.func207, Tryz.ntmps207
    go_wp2_with fail
    go_ret
    exact ⟨rfl, rfl⟩
end Go.Proofs.YtdnhmoppineegaaGreat

namespace Go.Proofs.YtdnhmoppineegaaGreat
open Go.RowKit

theorem isChainEpochC (n : Int) (w : World) :
    Calls Tryz.prog 191 #[.int .i64 n] w fun e w' => e = .returned (.bool (decide (1 ≤ n) && decide (n ≤ 999))) ∧ w' = w := by
  by_cases h1 : 1 ≤ n
  · have d1 : decide (1 ≤ n) = true := by simpa using h1
    rw [d1]
    cases d2 : decide (n ≤ 999) <;>
    · go_enter Tryz.func191, Tryz.ntmps191
      go_wp2_with fail
      go_ret
      exact ⟨rfl, rfl⟩
  · have d1 : decide (1 ≤ n) = false := by simpa using h1
    rw [d1]
    go_enter Tryz.func191, Tryz.ntmps191
    go_wp2_with fail
    go_ret
    exact ⟨rfl, rfl⟩
end Go.Proofs.YtdnhmoppineegaaGreat

namespace Go.Proofs.YtdnhmoppineegaaGreat
open Go.RowKit

/-- Any part of a list of numbers that stands in memory. -/
theorem part_reads {w : World} {b off cap : Nat} {zs : List Int} (h : (Lay.sl Lay.int).Reads w [.slice (some ⟨b, off, none⟩) zs.length cap] zs) (m n c : Nat) (hm : m + n ≤ zs.length) (hc : n ≤ c) :
    (Lay.sl Lay.int).Reads w [.slice (some ⟨b, off + m, none⟩) n c] ((zs.drop m).take n) := by
  have hi := Lay.ints_reads h
  have hbig := h.big
  obtain ⟨ao, cp, e, hwf, hcs⟩ := hi
  have hlen : ((zs.drop m).take n).length = n := by simp; omega
  refine Lay.reads_ints ?_ (fun ao' cap' e' => ?_) (by rw [hlen]; omega)
  · refine ⟨_, c, by rw [hlen], fun z hz => hwf z (List.mem_of_mem_drop (List.mem_of_mem_take hz)), fun hp => ⟨b, off + m, rfl, fun j hj => ?_⟩⟩
    rw [hlen] at hp hj
    obtain ⟨b', off', hao, hc1⟩ := hcs (by omega)
    simp only [Value.slice.injEq] at e
    obtain ⟨rfl, -, -⟩ := e
    simp only [Option.some.injEq, Addr.mk.injEq, and_true] at hao
    obtain ⟨rfl, rfl⟩ := hao
    rw [Nat.add_assoc, hc1 (m + j) (by omega)]
    simp only [List.getD]
    rw [List.getElem?_take, if_pos hj, List.getElem?_drop]
  · simp only [Value.slice.injEq] at e'
    rw [hlen]
    omega
/-- The first numbers of a list. -/
theorem take_reads {w : World} {ao : Option Addr} {n cap : Nat} {zs : List Int} (h : (Lay.sl Lay.int).Reads w [.slice ao n cap] zs) (k : Nat) (hk : k ≤ zs.length) :
    (Lay.sl Lay.int).Reads w [.slice ao k cap] (zs.take k) := by
  have hc := h.cap
  by_cases h0 : k = 0
  · subst h0
    rw [List.take_zero]
    exact Lay.reads_ints ⟨ao, cap, rfl, by simp, fun hp => by simp at hp⟩ (fun _ _ _ => by simp) (by simp)
  · have hi := Lay.ints_reads h
    obtain ⟨ao', cp, e, hwf, hcs⟩ := hi
    obtain ⟨b', off', hao, hc1⟩ := hcs (by omega)
    simp only [Value.slice.injEq] at e
    obtain ⟨rfl, rfl, rfl⟩ := e
    subst hao
    have := part_reads h 0 k cap (by omega) (by omega)
    simpa using this

end Go.Proofs.YtdnhmoppineegaaGreat

namespace Go.Proofs.YtdnhmoppineegaaGreat
open Go.RowKit

theorem isNodeCountC (n : Int) (w : World) :
    Calls Tryz.prog 193 #[.int .i64 n] w fun e w' => e = .returned (.bool (decide (1 ≤ n) && decide (n ≤ 5))) ∧ w' = w := by
  by_cases h1 : 1 ≤ n
  · have d1 : decide (1 ≤ n) = true := by simpa using h1
    rw [d1]
    cases d2 : decide (n ≤ 5) <;>
    · go_enter Tryz.func193, Tryz.ntmps193
      go_wp2_with fail
      go_ret
      exact ⟨rfl, rfl⟩
  · have d1 : decide (1 ≤ n) = false := by simpa using h1
    rw [d1]
    go_enter Tryz.func193, Tryz.ntmps193
    go_wp2_with fail
    go_ret
    exact ⟨rfl, rfl⟩

set_option maxRecDepth 10000 in
set_option maxHeartbeats 1000000 in
theorem indexI (v : Value) (ids : List Int) (id : Int) (w : World) (R : (Lay.sl Lay.int).Reads w [v] ids) :
    Calls Tryz.prog 203 #[v, .int .i64 id] w fun e w' => e = .returned (.int .i64 (placeC ids id)) ∧ w' = w := by
  obtain ⟨ao, cap, rfl⟩ := open_sl R
  have hbig := R.big
  have H := hide R
  clear R
  go_enter Tryz.func203, Tryz.ntmps203
  go_wp2_with fail
  go_loop [8] (fun i => ∃ k : Nat, k ≤ ids.length ∧ i = .int .i64 k ∧ (∀ j (hj : j < ids.length), j < k → ids[j] ≠ id)) (fun i => ids.length - (intOf i).toNat)
  case atStart => exact ⟨0, Nat.zero_le _, rfl, fun j _ h => by omega⟩
  case round =>
    obtain ⟨k, hk, rfl, hz⟩ := hrel
    by_cases hlt : k < ids.length
    · obtain ⟨b2, off, rfl, -⟩ := Lay.sl_addr (unhide H) (by omega)
      have c1 := int_cell (unhide H) hlt
      cases hq : (id == ids[k])
      · have HZ : Hid (∀ j (hj : j < ids.length), j < k + 1 → ids[j] ≠ id) := fun j hj hjk => by
          by_cases h2 : j < k
          · exact hz j hj h2
          · obtain rfl : j = k := by omega
            intro h3
            rw [h3] at hq
            simp at hq
        clear hz
        generalize ids[k] = z at *
        go_wp2_with fail
        go_round
        case rel => exact ⟨k + 1, by omega, by go_num, unhide HZ⟩
        case measure => simp [intOf]; omega
      · have HP := hide (placeC_at hlt (beq_iff_eq.1 hq).symm (fun j hj => hz j (by omega) hj))
        clear hz
        generalize ids[k] = z at *
        go_wp2_with fail
        go_ret
        exact ⟨by rw [unhide HP]; rfl, rfl⟩
    · obtain rfl : k = ids.length := by omega
      have HP := hide (placeC_none (id := id) (fun j hj => hz j hj hj))
      clear hz
      go_wp2_with fail
      go_ret
      exact ⟨by rw [unhide HP]; rfl, rfl⟩

theorem containsI (v : Value) (ids : List Int) (id : Int) (w : World) (R : (Lay.sl Lay.int).Reads w [v] ids) :
    Calls Tryz.prog 187 #[v, .int .i64 id] w fun e w' => e = .returned (.bool (decide (0 ≤ placeC ids id))) ∧ w' = w := by
  have HL := hide (indexI v ids id w R)
  obtain ⟨ao, cap, rfl⟩ := open_sl R
  generalize placeC ids id = n at *
  clear R
  go_enter Tryz.func187, Tryz.ntmps187
  go_wp2_with fail
  refine (unhide HL).mono ?_
  rintro e w1 ⟨rfl, h1⟩
  subst w1
  clear HL
  go_wp2_with fail
  go_ret
  exact ⟨rfl, rfl⟩

def idsFaultP (ids : List Int) : Int := if 1 ≤ ids.length ∧ ids.length ≤ 5 then idsF [] ids else 2
theorem idsFaultP_many {ids : List Int} (h : (decide (1 ≤ (ids.length : Int)) && decide ((ids.length : Int) ≤ 5)) = false) : idsFaultP ids = 2 := by
  rw [idsFaultP, if_neg]
  intro h2
  rw [decide_eq_true (by omega), decide_eq_true (by omega)] at h
  simp at h
theorem idsFaultP_few {ids : List Int} (h : (decide (1 ≤ (ids.length : Int)) && decide ((ids.length : Int) ≤ 5)) = true) : idsFaultP ids = idsF (ids.take 0) (ids.drop 0) := by
  rw [idsFaultP, if_pos]
  · simp
  · simp at h
    omega
theorem mem_place (ids : List Int) (z : Int) : decide (0 ≤ placeC ids z) = true ↔ z ∈ ids := by
  have h := placeC_neg ids z
  rw [decide_eq_true_iff]
  constructor
  · intro h1
    refine Decidable.byContradiction fun h2 => ?_
    have := h.2 h2
    omega
  · intro h1
    refine Decidable.byContradiction fun h2 => ?_
    exact h.1 (by omega) h1

set_option maxRecDepth 10000 in
set_option maxHeartbeats 1000000 in
theorem idsFaultC (v : Value) (ids : List Int) (w : World) (R : (Lay.sl Lay.int).Reads w [v] ids) :
    Calls Tryz.prog 192 #[v] w fun e w' => e = .returned (.int .i64 (idsFaultP ids)) ∧ w' = w := by
  obtain ⟨ao, cap, rfl⟩ := open_sl R
  have hbig := R.big
  have hcap := R.cap
  have H := hide R
  clear R
  go_enter Tryz.func192, Tryz.ntmps192
  go_wp2_with fail
  refine (isNodeCountC (ids.length : Int) w).mono ?_
  rintro e w1 ⟨rfl, h1⟩
  subst w1
  cases d1 : (decide (1 ≤ (ids.length : Int)) && decide ((ids.length : Int) ≤ 5))
  · have HF := hide (idsFaultP_many d1)
    clear d1
    go_wp2_with fail
    go_ret
    exact ⟨by rw [unhide HF]; rfl, rfl⟩
  · have HF := hide (idsFaultP_few d1)
    clear d1
    go_wp2_with fail
    go_loop [11] (fun i => ∃ k : Nat, k ≤ ids.length ∧ i = .int .i64 k ∧ idsFaultP ids = idsF (ids.take k) (ids.drop k)) (fun i => ids.length - (intOf i).toNat)
    case atStart => exact ⟨0, Nat.zero_le _, rfl, unhide HF⟩
    case round =>
      obtain ⟨k, hk, rfl, hz⟩ := hrel
      clear HF
      by_cases hlt : k < ids.length
      · rw [idsF_step ids k hlt] at hz
        obtain ⟨b2, off, rfl, -⟩ := Lay.sl_addr (unhide H) (by omega)
        have c1 := int_cell (unhide H) hlt
        have HC := hide (containsI (.slice (some ⟨b2, off, none⟩) k cap) (ids.take k) ids[k] w (take_reads (unhide H) k (by omega)))
        have HM := hide (mem_place (ids.take k) ids[k])
        have hdl : decide ((k : Int) < (ids.length : Int)) = true := by simp; omega
        have HZ := hide hz
        have hkc : k ≤ cap := by omega
        clear hz
        generalize ids[k] = z at *
        generalize ids.take k = zk at *
        go_wp2_with fail
        refine (isNodeIdC z w).mono ?_
        rintro e w1 ⟨rfl, h1⟩
        subst w1
        cases d2 : (decide (1 ≤ z) && decide (z ≤ 5))
        · have hz := unhide HZ
          rw [if_neg (by intro h; simp at d2; omega)] at hz
          have HF := hide hz
          clear hz HZ d2
          go_wp2_with fail
          go_ret
          exact ⟨by rw [unhide HF]; rfl, rfl⟩
        · have hz := unhide HZ
          rw [if_pos (by simpa using d2)] at hz
          clear HZ d2
          have HZ := hide hz
          clear hz
          go_wp2_with fail
          refine (unhide HC).mono ?_
          rintro e w1 ⟨rfl, h1⟩
          subst w1
          cases d3 : decide (0 ≤ placeC zk z)
          · have hz := unhide HZ
            rw [if_neg (fun hm => by rw [(unhide HM).2 hm] at d3; simp at d3)] at hz
            have HF := hide hz
            clear hz HZ d3 HM HC
            go_wp2_with fail
            go_round
            case rel => exact ⟨k + 1, by omega, by go_num, unhide HF⟩
            case measure => simp [intOf]; omega
          · have hz := unhide HZ
            rw [if_pos ((unhide HM).1 d3)] at hz
            have HF := hide hz
            clear hz HZ d3 HM HC
            go_wp2_with fail
            go_ret
            exact ⟨by rw [unhide HF]; rfl, rfl⟩
      · obtain rfl : k = ids.length := by omega
        rw [idsF_end] at hz
        have HF := hide hz
        clear hz
        go_wp2_with fail
        go_ret
        exact ⟨by rw [unhide HF]; rfl, rfl⟩

theorem cfi_out {x : DChain} (h : (decide (1 ≤ x.epoch) && decide (x.epoch ≤ 999)) = false) : chainFault x = 3 := by rw [chainFault, if_neg (by simp at h; omega)]
theorem cfi_ids {x : DChain} (h : (decide (1 ≤ x.epoch) && decide (x.epoch ≤ 999)) = true) : chainFault x = idsFaultP x.ids := by rw [chainFault, if_pos (by simp at h; omega), idsFaultP]

set_option maxRecDepth 10000 in
set_option maxHeartbeats 1000000 in
theorem implChainFault (cs : List Value) (x : DChain) (w : World) (h : Lay.tChain.Reads w cs x) :
    Calls Tryz.prog 137 #[.agg cs.toArray] w fun e w' => e = .returned (.int .i64 (chainFault x)) ∧ Below w.heap.size w w' := by
  obtain ⟨a, d, rfl, R⟩ := open_Chain h
  have nb : Below w.heap.size w (w.alloc (.cells #[.int .i64 x.epoch, .slice a x.ids.length d] 31)) := (Below.refl _ _).alloc (Nat.le_refl _) _
  have HR := hide (R.later nb)
  have HB := hide nb
  have HX : Hid (Box 0 #[.int .i64 x.epoch, .slice a x.ids.length d] 31 (w.alloc (.cells #[.int .i64 x.epoch, .slice a x.ids.length d] 31)) w.heap.size) := newBox (Nat.zero_le _)
  clear R h nb
  go_enter Tryz.func137, Tryz.ntmps137
  go_upto_region 1 with fail
  generalize w.alloc (.cells #[.int .i64 x.epoch, .slice a x.ids.length d] 31) = W at *
  have z0 : W.cell? ⟨w.heap.size, 0, none⟩ = some (.int .i64 x.epoch) := (unhide HX).at 0 _ rfl
  have z1 : W.cell? ⟨w.heap.size, 1, none⟩ = some (.slice a x.ids.length d) := (unhide HX).at 1 _ rfl
  clear HX
  cases d1 : (decide (1 ≤ x.epoch) && decide (x.epoch ≤ 999))
  · have HF := hide (cfi_out d1)
    have L := hide (isChainEpochC x.epoch W)
    rw [d1] at L
    clear d1
    go_wp2_with fail
    refine (unhide L).mono ?_
    rintro e w1 ⟨rfl, h1⟩
    subst w1
    clear L
    go_wp2_with fail
    go_ret
    exact ⟨by rw [unhide HF]; rfl, unhide HB⟩
  · have HF := hide (cfi_ids d1)
    have L := hide (isChainEpochC x.epoch W)
    rw [d1] at L
    clear d1
    go_wp2_with fail
    refine (unhide L).mono ?_
    rintro e w1 ⟨rfl, h1⟩
    subst w1
    clear L
    have L := hide (idsFaultC _ x.ids _ (unhide HR))
    go_wp2_with fail
    refine (unhide L).mono ?_
    rintro e w1 ⟨rfl, h1⟩
    subst w1
    clear L
    go_wp2_with fail
    go_ret
    exact ⟨by rw [unhide HF]; rfl, unhide HB⟩
end Go.Proofs.YtdnhmoppineegaaGreat

namespace Go.Proofs.YtdnhmoppineegaaGreat
open Go.RowKit

theorem isUpToC (n m : Int) (w : World) :
    Calls Tryz.prog 136 #[.int .i64 n, .int .i64 m] w fun e w' => e = .returned (.bool (decide (0 ≤ n) && decide (n ≤ m))) ∧ w' = w := by
  by_cases h1 : 0 ≤ n
  · have d1 : decide (0 ≤ n) = true := by simpa using h1
    rw [d1]
    cases d2 : decide (n ≤ m) <;>
    · go_enter Tryz.func136, Tryz.ntmps136
      go_wp2_with fail
      go_ret
      exact ⟨rfl, rfl⟩
  · have d1 : decide (0 ≤ n) = false := by simpa using h1
    rw [d1]
    go_enter Tryz.func136, Tryz.ntmps136
    go_wp2_with fail
    go_ret
    exact ⟨rfl, rfl⟩
end Go.Proofs.YtdnhmoppineegaaGreat

namespace Go.Proofs.YtdnhmoppineegaaGreat
open Go.RowKit Go.Maps

def tick (s q : Int) : Value := .agg #[.int .i64 s, .int .i64 q]
theorem tickLaid : laidOutB Tryz.prog = true := by kernel_rfl
theorem tickRow : (269 : TypeId) < Tryz.prog.types.size := of_decide_eq_true (by kernel_rfl)
theorem tickWide : (match Tryz.prog.underlying 269 with | some (.array _ _) | some (.struct _) => true | _ => false) = true := by kernel_rfl
set_option maxRecDepth 100000 in
theorem tickKeyed : Keyed Tryz.prog 269 := Keyed.of_law (deep_law_laid tickLaid (m := 2) (by omega) tickRow (by kernel_rfl) tickWide)
set_option maxRecDepth 100000 in
theorem tickKey {s q : Int} (hs : (Lit.int .i64 s).wf = true) (hq : (Lit.int .i64 q).wf = true) : keyOf Tryz.prog 269 (tick s q) = some (.string (keyBytes [.int .i64 s, .int .i64 q])) := by
  have hk : Tryz.prog.keyType 269 = true := by kernel_rfl
  have hc : Tryz.prog.cellsOf 269 = 2 := by kernel_rfl
  have hc1 : Tryz.prog.cellsOf 2 = 1 := by kernel_rfl
  have hf : (tick s q).formed Tryz.prog 269 = true := by simp [tick, Value.formed, Tryz.underlying269, hc]
  obtain ⟨m, hm⟩ : ∃ m, Tryz.prog.types.size = m + 1 := ⟨_, (Nat.succ_pred_eq_of_pos (Nat.lt_of_le_of_lt (Nat.zero_le _) tickRow)).symm⟩
  unfold keyOf
  simp only [Tryz.underlying269]
  rw [if_pos (by rw [hk, hf]; rfl), hm]
  unfold Program.keyLits
  simp only [Tryz.underlying269, tick, Value.cells]
  simp [hc, hc1, Program.keyLits, Tryz.underlying2, hs, hq]
theorem tickZero (w : World) : (zeroValue 2).run Tryz.prog w = .ok (.int .i64 0) w := by kernel_rfl

/-- Block b is a map of at most n entries that tells f. -/
def Ticks (w : World) (b n : Nat) (f : Int → Int → Nat) : Prop := ∃ D : DataW Unit, w.ownsMap Tryz.prog 269 (plainElem Tryz.prog 2) b n D ∧
  ∀ s q, (Lit.int .i64 s).wf = true → (Lit.int .i64 q).wf = true → Maps.has D (.string (keyBytes [.int .i64 s, .int .i64 q])) = decide (f s q ≠ 0) ∧ D.atKey (.string (keyBytes [.int .i64 s, .int .i64 q])) (.lit (.int .i64 0)) = .lit (.int .i64 (f s q))
theorem Ticks.ext {S : Nat → Prop} {w w' : World} {b n : Nat} {f : Int → Int → Nat} (h : Ticks w b n f) (e : Ext S w w') (hb : ¬ S b) : Ticks w' b n f := by
  obtain ⟨D, h, r⟩ := h
  have hlt := World.ownsMap.lt h
  obtain ⟨es, clock, hb', r'⟩ := h
  exact ⟨D, ⟨es, clock, (e.block b hlt hb).trans hb', r'⟩, r⟩
theorem Ticks.lt {w : World} {b n : Nat} {f : Int → Int → Nat} (h : Ticks w b n f) : b < w.heap.size := by
  obtain ⟨D, h, -⟩ := h
  exact World.ownsMap.lt h
theorem Ticks.mono {w : World} {b n n' : Nat} {f : Int → Int → Nat} (h : Ticks w b n f) (hn : n ≤ n') : Ticks w b n' f := by
  obtain ⟨D, h, r⟩ := h
  exact ⟨D, World.ownsMap.mono h hn, r⟩
theorem Ticks.congr {w : World} {b n : Nat} {f g : Int → Int → Nat} (h : Ticks w b n f) (e : ∀ s q, f s q = g s q) : Ticks w b n g := by
  obtain ⟨D, h, r⟩ := h
  exact ⟨D, h, fun s q hs hq => by rw [← e]; exact r s q hs hq⟩
theorem Ticks.look {w : World} {b n : Nat} {f : Int → Int → Nat} (h : Ticks w b n f) {s q : Int} (hs : (Lit.int .i64 s).wf = true) (hq : (Lit.int .i64 q).wf = true) :
    (Instr.lookup 263 (.map (some b)) (tick s q) true).run Tryz.prog w = .ok (.tuple #[.int .i64 (f s q), .bool (decide (f s q ≠ 0))]) w := by
  obtain ⟨D, h, r⟩ := h
  obtain ⟨r1, r2⟩ := r s q hs hq
  obtain ⟨v, ps, hrun, hv⟩ := World.ownsMap.look_ok h tickKeyed Tryz.underlying263 (tickZero w) (plainElem_int Tryz.underlying2 (by decide)) (tickKey hs hq)
  rw [r2] at hv
  obtain ⟨c, rfl, hc, -⟩ := plainElem_int_inv Tryz.underlying2 hv
  rw [r1] at hrun
  simp only [Prod.mk.injEq, DataW.lit.injEq, Lit.int.injEq, true_and] at hc
  rw [hc.1]
  exact hrun
theorem Ticks.put {w : World} {b n : Nat} {f : Int → Int → Nat} (h : Ticks w b n f) (hn : n < 100000) {s q : Int} (hs : (Lit.int .i64 s).wf = true) (hq : (Lit.int .i64 q).wf = true) {m : Nat} (hm : m ≠ 0) (hw : (Lit.int .i64 (m : Int)).wf = true) :
    ∃ w', (Instr.mapUpdate 263 (.map (some b)) (tick s q) (.int .i64 m)).run Tryz.prog w = .ok () w' ∧ Ticks w' b (n + 1) (fun s' q' => if s' = s ∧ q' = q then m else f s' q') ∧ Ext (fun c => c = b) w w' := by
  obtain ⟨D, h, r⟩ := h
  obtain ⟨w', h1, h2, h3⟩ := World.ownsMap.store h tickKeyed Tryz.underlying263 (by unfold maxLen; omega) (tickKey hs hq) (plainElem_int Tryz.underlying2 hw)
  refine ⟨w', h1, ⟨_, h2, fun s' q' hs' hq' => ?_⟩, ?_⟩
  · have hk : WideAt.IsKeyLit (.string (keyBytes [.int .i64 s, .int .i64 q])) := trivial
    by_cases e : s' = s ∧ q' = q
    · obtain ⟨rfl, rfl⟩ := e
      rw [Maps.has_put_same (World.ownsMap.isMap h) hk, Maps.atKey_put_same (World.ownsMap.isMap h) hk]
      simp [hm]
    · have hne : Lit.string (keyBytes [.int .i64 s', .int .i64 q']) ≠ Lit.string (keyBytes [.int .i64 s, .int .i64 q]) := by
        intro e2
        have k1 := tickKey hs' hq'
        rw [e2] at k1
        have k2 := tickKeyed.inj k1 (tickKey hs hq)
        simp only [tick, Value.agg.injEq, Array.mk.injEq, List.cons.injEq, Value.int.injEq, true_and, and_true] at k2
        exact e k2
      rw [Maps.has_put_other hne, Maps.atKey_put_other hne]
      simp only [if_neg e]
      exact r s' q' hs' hq'
  · have g := h3.grown
    obtain ⟨es, clock, es', clock', hb, rfl⟩ := h3
    exact ⟨rfl, rfl, rfl, by simp [ChangeMaps.setBlock], fun k hk hn => g.block k hk (fun e => hn (by simpa using e))⟩
theorem ticks_new (w : World) : Ticks (w.alloc (.map #[] 0)) w.heap.size 0 (fun _ _ => 0) := ⟨.map [], World.ownsMap_made w _ _ _, fun _ _ _ _ => ⟨rfl, rfl⟩⟩

end Go.Proofs.YtdnhmoppineegaaGreat

namespace Go.Proofs.YtdnhmoppineegaaGreat
open Go.RowKit

def tcells (v : Value) (mb : Nat) (f : Int → Int) : Array Value := #[v, .map (some mb), .int .i64 (f 0), .int .i64 (f 1), .int .i64 (f 2), .int .i64 (f 3), .int .i64 (f 4), .int .i64 (f 5), .int .i64 (f 6), .int .i64 (f 7), .int .i64 (f 8), .int .i64 (f 9)]
theorem tcells_at (v : Value) (mb : Nat) (f : Int → Int) (i : Nat) (h : i < 10) : (tcells v mb f)[2 + i]? = some (.int .i64 (f i)) := by
  match i, h with
  | 0, _ => rfl
  | 1, _ => rfl
  | 2, _ => rfl
  | 3, _ => rfl
  | 4, _ => rfl
  | 5, _ => rfl
  | 6, _ => rfl
  | 7, _ => rfl
  | 8, _ => rfl
  | 9, _ => rfl
theorem tcells_set (v : Value) (mb : Nat) (f : Int → Int) (i : Nat) (h : i < 10) (z : Int) : (tcells v mb f).setIfInBounds (2 + i) (.int .i64 z) = tcells v mb (fun j => if j = i then z else f j) := by
  match i, h with
  | 0, _ => rfl
  | 1, _ => rfl
  | 2, _ => rfl
  | 3, _ => rfl
  | 4, _ => rfl
  | 5, _ => rfl
  | 6, _ => rfl
  | 7, _ => rfl
  | 8, _ => rfl
  | 9, _ => rfl
theorem tcells_congr {v : Value} {mb : Nat} {f g : Int → Int} (h : ∀ j, f j = g j) : tcells v mb f = tcells v mb g := by rw [funext h]

theorem frozen_of_block {w w' : World} {b : Nat} (h : w'.heap[b]? = w.heap[b]?) (o : Nat) : w'.frozen? ⟨b, o, none⟩ = w.frozen? ⟨b, o, none⟩ := by
  unfold World.frozen?
  simp only [h]
/-- Block p is a story of the writes ws, with the last numbers f and the places g; its map is block mb; all that it holds lies below N. -/
structure Told0 (w : World) (p mb N n : Nat) (ws : List DWrite) (f : Int → Int) (g : Int → Int → Nat) (v : Value) (rows : List (List Value)) (bls : List (List Nat)) : Prop where
  lt : mb < p
  box : Box 0 (tcells v mb f) 265 w p
  grow : Grow Lay.tWrite w (p + 1) 94 v rows ws bls
  sub : ∀ b ∈ bls.flatten, p + 1 ≤ b ∧ ∀ o, w.frozen? ⟨b, o, none⟩ = false
  nd : bls.flatten.Nodup
  seen : Ticks w mb n g
  hiB : ∀ b ∈ bls.flatten, b < N
  hiV : ∀ b, v.ownBlock = some b → b < N
  pN : p < N
namespace Told0
variable {w w' : World} {p mb N n : Nat} {ws : List DWrite} {f : Int → Int} {g : Int → Int → Nat} {v : Value} {rows : List (List Value)} {bls : List (List Nat)}
theorem kept (h : Told0 w p mb N n ws f g v rows bls) {S : Nat → Prop} (e : Ext S w w') (hS : ∀ c, mb ≤ c → c < w.heap.size → ¬ S c) : Told0 w' p mb N n ws f g v rows bls := by
  have hs : ∀ b ∈ bls.flatten, w'.heap[b]? = w.heap[b]? := fun b hb => e.block b (h.grow.sub_lt b hb) (hS b (by have := (h.sub b hb).1; have := h.lt; omega) (h.grow.sub_lt b hb))
  refine ⟨h.lt, h.box.ext e (hS p (Nat.le_of_lt h.lt) h.box.lt), h.grow.kept ?_ hs, fun b hm => ⟨(h.sub b hm).1, fun o => (frozen_of_block (hs b hm) o).trans ((h.sub b hm).2 o)⟩, h.nd, h.seen.ext e (hS mb (Nat.le_refl _) h.seen.lt), h.hiB, h.hiV, h.pN⟩
  obtain ⟨h1, h2⟩ := h.grow.own
  refine ⟨h1, ?_⟩
  rcases h2 with h2 | ⟨gb, cap, cur, hv, hg, hh, r⟩
  · exact Or.inl h2
  · exact Or.inr ⟨gb, cap, cur, hv, hg, (e.block gb (lt_of_block hh) (hS gb (by have := h.lt; omega) (lt_of_block hh))).trans hh, r⟩
theorem later (h : Told0 w p mb N n ws f g v rows bls) (hb : Below w.heap.size w w') : Told0 w' p mb N n ws f g v rows bls := h.kept (ext_of_below hb (fun _ => False)) (fun _ _ _ e => e)
theorem raise (h : Told0 w p mb N n ws f g v rows bls) {N' : Nat} (hN : N ≤ N') : Told0 w p mb N' n ws f g v rows bls :=
  ⟨h.lt, h.box, h.grow, h.sub, h.nd, h.seen, fun b hb => Nat.lt_of_lt_of_le (h.hiB b hb) hN, fun b hb => Nat.lt_of_lt_of_le (h.hiV b hb) hN, Nat.lt_of_lt_of_le h.pN hN⟩
theorem top (h : Told0 w p mb N n ws f g v rows bls) : Told0 w p mb w.heap.size n ws f g v rows bls :=
  ⟨h.lt, h.box, h.grow, h.sub, h.nd, h.seen, fun b hb => h.grow.sub_lt b hb, fun b hb => (h.grow.own.lt b hb).2, h.box.lt⟩
theorem own (h : Told0 w p mb N n ws f g v rows bls) (hn : ws.length ≤ 9223372036854775807) : (Lay.sl Lay.tWrite).OwnIn w [v] ws (p + 1) w.heap.size := h.grow.toOwn hn h.nd h.sub
/-- The slice has grown, and stands in its cell. -/
theorem added (h : Told0 w p mb N n ws f g v rows bls) {v' : Value} {rows' : List (List Value)} {ws' : List DWrite} {bls' : List (List Nat)} (hG : Grow Lay.tWrite w' (p + 1) 94 v' rows' ws' bls') (hE : Ext (fun q => v.ownBlock = some q) w w') (hs : ∀ b ∈ bls'.flatten, p + 1 ≤ b ∧ ∀ o, w'.frozen? ⟨b, o, none⟩ = false) (hnd : bls'.flatten.Nodup) :
    Told0 (w'.setCell ⟨p, 0, none⟩ v') p mb (w'.setCell ⟨p, 0, none⟩ v').heap.size n ws' f g v' rows' bls' := by
  have hb : Box 0 (tcells v mb f) 265 w' p := h.box.ext hE (fun e => by have := (h.grow.own.lt p e).1; omega)
  have hb2 : Box 0 (tcells v' mb f) 265 (w'.setCell ⟨p, 0, none⟩ v') p := hb.set 0 v'
  have e2 : Ext (fun c => c = p) w' (w'.setCell ⟨p, 0, none⟩ v') := (Ext.refl (fun c => c = p) w').setCell ⟨p, 0, none⟩ v' rfl
  have hk : ∀ b ∈ bls'.flatten, (w'.setCell ⟨p, 0, none⟩ v').heap[b]? = w'.heap[b]? := fun b hb => e2.block b (hG.sub_lt b hb) (by have := (hs b hb).1; omega)
  have hG2 : Grow Lay.tWrite (w'.setCell ⟨p, 0, none⟩ v') (p + 1) 94 v' rows' ws' bls' := hG.kept (own_setC (a := ⟨p, 0, none⟩) hG.own (by simp) v') hk
  refine ⟨h.lt, hb2, hG2, fun b hm => ⟨(hs b hm).1, fun o => (frozen_of_block (hk b hm) o).trans ((hs b hm).2 o)⟩, hnd, ?_, fun b hm => hG2.sub_lt b hm, fun b hm => (hG2.own.lt b hm).2, hb2.lt⟩
  exact (h.seen.ext hE (fun e => by have := (h.grow.own.lt mb e).1; have := h.lt; omega)).ext e2 (by have := h.lt; omega)
/-- The map has turned. -/
theorem marked (h : Told0 w p mb N n ws f g v rows bls) {n' : Nat} {g' : Int → Int → Nat} (hE : Ext (fun c => c = mb) w w') (hT : Ticks w' mb n' g') : Told0 w' p mb N n' ws f g' v rows bls := by
  have hs : ∀ b ∈ bls.flatten, w'.heap[b]? = w.heap[b]? := fun b hb => hE.block b (h.grow.sub_lt b hb) (by have := (h.sub b hb).1; have := h.lt; omega)
  refine ⟨h.lt, h.box.ext hE (by have := h.lt; omega), h.grow.kept ?_ hs, fun b hm => ⟨(h.sub b hm).1, fun o => (frozen_of_block (hs b hm) o).trans ((h.sub b hm).2 o)⟩, h.nd, hT, h.hiB, h.hiV, h.pN⟩
  obtain ⟨h1, h2⟩ := h.grow.own
  refine ⟨h1, ?_⟩
  rcases h2 with h2 | ⟨gb, cap, cur, hv, hg, hh, r⟩
  · exact Or.inl h2
  · exact Or.inr ⟨gb, cap, cur, hv, hg, (hE.block gb (lt_of_block hh) (by have := h.lt; omega)).trans hh, r⟩
/-- A last number is another. -/
theorem lasted (h : Told0 w p mb N n ws f g v rows bls) (i : Nat) (hi : i < 10) (z : Int) : Told0 (w.setCell ⟨p, 2 + i, none⟩ (.int .i64 z)) p mb N n ws (fun j => if j = i then z else f j) g v rows bls := by
  have e2 : Ext (fun c => c = p) w (w.setCell ⟨p, 2 + i, none⟩ (.int .i64 z)) := (Ext.refl (fun c => c = p) w).setCell ⟨p, 2 + i, none⟩ _ rfl
  have hs : ∀ b ∈ bls.flatten, (w.setCell ⟨p, 2 + i, none⟩ (.int .i64 z)).heap[b]? = w.heap[b]? := fun b hb => e2.block b (h.grow.sub_lt b hb) (by have := (h.sub b hb).1; omega)
  refine ⟨h.lt, ?_, h.grow.kept (own_setC (a := ⟨p, 2 + i, none⟩) h.grow.own (by simp) _) hs, fun b hm => ⟨(h.sub b hm).1, fun o => (frozen_of_block (hs b hm) o).trans ((h.sub b hm).2 o)⟩, h.nd, h.seen.ext e2 (by have := h.lt; omega), h.hiB, h.hiV, h.pN⟩
  rw [← tcells_set v mb f i hi z]
  exact h.box.set (2 + i) _
theorem same (h : Told0 w p mb N n ws f g v rows bls) {n' : Nat} {f' : Int → Int} {g' : Int → Int → Nat} (hn : n ≤ n') (hf : ∀ j, f j = f' j) (hg : ∀ s q, g s q = g' s q) : Told0 w p mb N n' ws f' g' v rows bls := by
  rw [funext hf] at h
  exact ⟨h.lt, h.box, h.grow, h.sub, h.nd, (h.seen.mono hn).congr hg, h.hiB, h.hiV, h.pN⟩
end Told0
/-- Block p is a story of the writes ws. -/
abbrev Told (w : World) (p mb N : Nat) (ws : List DWrite) (v : Value) (rows : List (List Value)) (bls : List (List Nat)) : Prop := Told0 w p mb N ws.length ws (lastI ws) (fun s q => seenI ws s q) v rows bls
theorem told_new (w : World) : Told ((w.alloc (.map #[] 0)).alloc (.cells (tcells (.slice none 0 0) w.heap.size (lastI [])) 265)) (w.heap.size + 1) w.heap.size ((w.alloc (.map #[] 0)).alloc (.cells (tcells (.slice none 0 0) w.heap.size (lastI [])) 265)).heap.size [] (.slice none 0 0) [] [] := by
  have e : (w.alloc (.map #[] 0)).heap.size = w.heap.size + 1 := by simp
  have b : Box 0 (tcells (.slice none 0 0) w.heap.size (lastI [])) 265 ((w.alloc (.map #[] 0)).alloc (.cells (tcells (.slice none 0 0) w.heap.size (lastI [])) 265)) (w.alloc (.map #[] 0)).heap.size := newBox (Nat.zero_le _)
  rw [e] at b
  refine ⟨by omega, b, Grow.nil ⟨by simp, Or.inl ⟨rfl, rfl⟩⟩, by simp, by simp, ?_, by simp, by simp [Value.ownBlock], b.lt⟩
  exact (ticks_new w).ext (ext_of_below ((Below.refl _ _).alloc (Nat.le_refl _) _) (fun _ => False)) (fun h => h)

end Go.Proofs.YtdnhmoppineegaaGreat

namespace Go.Proofs.YtdnhmoppineegaaGreat
open Go.RowKit

theorem Ext.drew3 {S : Nat → Prop} {a b : World} (h : Ext S a b) : Ext S a b.drew := ⟨h.os, h.tape, h.output, h.size, h.block⟩
theorem Ext.alloc1 {S : Nat → Prop} {a b : World} (h : Ext S a b) (o : Obj) : Ext S a (b.alloc o) := h.trans (ext_of_below ((Below.refl _ _).alloc (Nat.le_refl _) o) S)

set_option maxRecDepth 10000 in
theorem ticketC (k i : Int) (u1 : Option Addr) (u2 u3 : Nat) (s q : Int) (w : World) :
    Calls Tryz.prog 265 #[.agg #[.int .i64 k, .int .i64 i, .slice u1 u2 u3, .int .i64 s, .int .i64 q]] w fun e w' => e = .returned (tick s q) ∧ Below w.heap.size w w' := by
  have HB : Hid (∀ o o', Below w.heap.size w ((w.alloc o).alloc o')) := fun o o' => ((Below.refl _ _).alloc (Nat.le_refl _) _).alloc (by simp) _
  go_enter Tryz.func265, Tryz.ntmps265
  go_wp2_with fail
  refine bodyPost_ret (v := .agg #[.int .i64 s, .int .i64 q]) (by simp [results, Tryz.results265, go_sem]) rfl ?_
  exact ⟨rfl, unhide HB _ _⟩

set_option maxRecDepth 100000 in
set_option maxHeartbeats 4000000 in
theorem tellC {w : World} {p mb N : Nat} {ws : List DWrite} {v : Value} {rows : List (List Value)} {bls : List (List Nat)} (h : Told w p mb N ws v rows bls) {cs : List Value} {x : DWrite} {bl : List Nat} (hl : Lay.tWrite.lies w cs x bl) (hX : ∀ b ∈ bl, N ≤ b ∧ ∀ o, w.frozen? ⟨b, o, none⟩ = false) (hnd : bl.Nodup) (hNw : N ≤ w.heap.size) (hf : wF x = 0) (hn : ws.length < 1000) :
    Calls Tryz.prog 262 #[.pointer (some ⟨p, 0, none⟩), .agg cs.toArray] w fun e w' => e = .returned (.tuple #[]) ∧ (∃ v' rows' bls', Told w' p mb w'.heap.size (ws ++ [x]) v' rows' bls') ∧ Below mb w w' := by
  obtain ⟨a2, d2, b2, rfl, rfl, -, -, -, k3, k4⟩ := lies_Write.1 hl
  have nb : Below w.heap.size w (w.alloc (.cells #[.int .i64 x.kind, .int .i64 x.id, .slice a2 x.vec.length d2, .int .i64 x.session, .int .i64 x.seq] 94)) := (Below.refl _ _).alloc (Nat.le_refl _) _
  have hQ0 : Box 0 #[.int .i64 x.kind, .int .i64 x.id, .slice a2 x.vec.length d2, .int .i64 x.session, .int .i64 x.seq] 94 (w.alloc (.cells #[.int .i64 x.kind, .int .i64 x.id, .slice a2 x.vec.length d2, .int .i64 x.session, .int .i64 x.seq] 94)) w.heap.size := newBox (Nat.zero_le _)
  have hT0 := h.later nb
  have hL0 : Lay.tWrite.lies (w.alloc (.cells #[.int .i64 x.kind, .int .i64 x.id, .slice a2 x.vec.length d2, .int .i64 x.session, .int .i64 x.seq] 94)) [.int .i64 x.kind, .int .i64 x.id, .slice a2 x.vec.length d2, .int .i64 x.session, .int .i64 x.seq] x bl := Lay.tWrite.keep hl fun b hb => nb.block b (Lay.tWrite.lt hl b hb)
  have hpw := h.box.lt
  have hmp := h.lt
  have HNW := hide hNw
  have hF0 : ∀ b ∈ bl, ∀ o, (w.alloc (.cells #[.int .i64 x.kind, .int .i64 x.id, .slice a2 x.vec.length d2, .int .i64 x.session, .int .i64 x.seq] 94)).frozen? ⟨b, o, none⟩ = false := fun b hb o => (frozen_of_block (nb.block b (Lay.tWrite.lt hl b hb)) o).trans ((hX b hb).2 o)
  have hBw : Below mb w (w.alloc (.cells #[.int .i64 x.kind, .int .i64 x.id, .slice a2 x.vec.length d2, .int .i64 x.session, .int .i64 x.seq] 94)) := nb.mono (by omega)
  go_enter Tryz.func262, Tryz.ntmps262
  go_wp2_with fail
  generalize hW0 : w.alloc (.cells #[.int .i64 x.kind, .int .i64 x.id, .slice a2 x.vec.length d2, .int .i64 x.session, .int .i64 x.seq] 94) = W0 at *
  clear hW0
  have hHD : Ext (fun c => c = p ∨ v.ownBlock = some c) W0 W0.drew := (Ext.refl _ _).drew3
  have hTD : Told W0.drew p mb N ws v rows bls := hT0.later (below_drawn (Below.refl _ _) 1)
  have hLD : Lay.tWrite.lies W0.drew [.int .i64 x.kind, .int .i64 x.id, .slice a2 x.vec.length d2, .int .i64 x.session, .int .i64 x.seq] x bl := hL0
  have hFD : ∀ b ∈ bl, ∀ o, W0.drew.frozen? ⟨b, o, none⟩ = false := hF0
  refine wp_region_noPanic ?_
  refine wp_region_held_drew (S := fun w' => Ext (fun c => c = p ∨ v.ownBlock = some c) W0 w') (by kernel_rfl) (Ext.refl _ _).drew3 (fun hHeld => ?_)
  generalize W0.drew = wD at hHeld hTD hLD hHD hFD ⊢
  refine wpAnyH_take (i := 0) (oi := { dst := some 7, op := Go.Op.move (Go.Operand.tmp 0), type := 252, pos := "l05_session.go:65", after := #[], guard := none }) (v := ?va0) rfl (by kernel_rfl) (by kernel_rfl) (by kernel_rfl) (fun _ _ _ h => h) (Or.inl ⟨by rfl, ?ha0⟩) hHeld ?ra0
  case ha0 =>
    intro wS hSw
    (try dsimp only at hSw)
    go_simp
    try with_reducible rfl
  case ra0 =>
  simp only [Act.put, List.setIfInBounds_toArray, List.set_cons_zero, List.set_cons_succ]
  refine wpAnyH_take (i := 1) (oi := { dst := some 8, op := Go.Op.move (Go.Operand.tmp 0), type := 252, pos := "l05_session.go:65", after := #[], guard := none }) (v := ?va1) rfl (by kernel_rfl) (by kernel_rfl) (by kernel_rfl) (fun _ _ _ h => h) (Or.inl ⟨by rfl, ?ha1⟩) hHeld ?ra1
  case ha1 =>
    intro wS hSw
    (try dsimp only at hSw)
    go_simp
    try with_reducible rfl
  case ra1 =>
  simp only [Act.put, List.setIfInBounds_toArray, List.set_cons_zero, List.set_cons_succ]
  refine wpAnyH_take (i := 2) (oi := { dst := some 9, op := Go.Op.nilCheck (Go.Operand.tmp 8), type := 0, pos := "l05_session.go:65", after := #[{ on := 1, ground := Go.Ground.data }], guard := none }) (v := ?va2) rfl (by kernel_rfl) (by kernel_rfl) (by kernel_rfl) (fun _ _ _ h => h) (Or.inl ⟨by rfl, ?ha2⟩) hHeld ?ra2
  case ha2 =>
    intro wS hSw
    (try dsimp only at hSw)
    go_simp
    try with_reducible rfl
  case ra2 =>
  simp only [Act.put, List.setIfInBounds_toArray, List.set_cons_zero, List.set_cons_succ]
  refine wpAnyH_take (i := 3) (oi := { dst := some 10, op := Go.Op.fieldAddr 265 (Go.Operand.tmp 9) 0, type := 0, pos := "l05_session.go:65", after := #[{ on := 2, ground := Go.Ground.data }], guard := none }) (v := ?va3) rfl (by kernel_rfl) (by kernel_rfl) (by kernel_rfl) (fun _ _ _ h => h) (Or.inl ⟨by rfl, ?ha3⟩) hHeld ?ra3
  case ha3 =>
    intro wS hSw
    (try dsimp only at hSw)
    go_simp
    try with_reducible rfl
  case ra3 =>
  simp only [Act.put, List.setIfInBounds_toArray, List.set_cons_zero, List.set_cons_succ]
  refine wpAnyH_take (i := 5) (oi := { dst := some 12, op := Go.Op.load 94 (Go.Operand.tmp 3), type := 94, pos := "l05_session.go:65", after := #[], guard := none }) (v := ?va5) rfl (by kernel_rfl) (by kernel_rfl) (by kernel_rfl) (fun _ _ _ h => h) (Or.inl ⟨by rfl, ?ha5⟩) hHeld ?ra5
  case ha5 =>
    intro wS hSw
    have y0 : wS.cell? ⟨w.heap.size, 0, none⟩ = some (.int .i64 x.kind) := (hQ0.ext hSw (by first | (rintro (e | e); omega; have := h.hiV _ e; have := unhide HNW; omega) | (intro e; omega) | exact fun e => e)).at 0 _ rfl
    have y1 : wS.cell? ⟨w.heap.size, 1, none⟩ = some (.int .i64 x.id) := (hQ0.ext hSw (by first | (rintro (e | e); omega; have := h.hiV _ e; have := unhide HNW; omega) | (intro e; omega) | exact fun e => e)).at 1 _ rfl
    have y2 : wS.cell? ⟨w.heap.size, 2, none⟩ = some (.slice a2 x.vec.length d2) := (hQ0.ext hSw (by first | (rintro (e | e); omega; have := h.hiV _ e; have := unhide HNW; omega) | (intro e; omega) | exact fun e => e)).at 2 _ rfl
    have y3 : wS.cell? ⟨w.heap.size, 3, none⟩ = some (.int .i64 x.session) := (hQ0.ext hSw (by first | (rintro (e | e); omega; have := h.hiV _ e; have := unhide HNW; omega) | (intro e; omega) | exact fun e => e)).at 3 _ rfl
    have y4 : wS.cell? ⟨w.heap.size, 4, none⟩ = some (.int .i64 x.seq) := (hQ0.ext hSw (by first | (rintro (e | e); omega; have := h.hiV _ e; have := unhide HNW; omega) | (intro e; omega) | exact fun e => e)).at 4 _ rfl
    clear hSw
    (try dsimp only at hSw)
    go_simp
    try with_reducible rfl
  case ra5 =>
  simp only [Act.put, List.setIfInBounds_toArray, List.set_cons_zero, List.set_cons_succ]
  refine (fun (REST : ?T) => ?main) ?rest
  case main =>
    refine wpAnyH_ready (rs := [4, 6]) (by kernel_rfl) (by simp) ?_
    refine AllReadyH.cons (o := { dst := some 11, op := Go.Op.load 61 (Go.Operand.tmp 10), type := 61, pos := "l05_session.go:65", after := #[{ on := 3, ground := Go.Ground.data }], guard := none }) rfl (fun K hK => ?first) (AllReadyH.cons (o := { dst := some 13, op := Go.Op.buildSlice 61 1 #[(0, Go.Operand.tmp 12)], type := 61, pos := "l05_session.go:65", after := #[{ on := 5, ground := Go.Ground.data }], guard := none }) rfl (fun K hK => ?second) AllReadyH.nil)
    case first =>
      have y0 : wD.cell? ⟨p, 0, none⟩ = some v := hTD.box.at 0 _ rfl
      have hp : p < wD.heap.size := hTD.box.lt
      have y1 : ∀ o, (wD.alloc o).cell? ⟨p, 0, none⟩ = some v := fun o => (World.cell?_alloc_lt _ _ _ hp).trans y0
      go_simp
      refine hK.out _ _ hHeld (fun hHeld => ?_)
      clear hK K
      try simp only [Act.put, List.setIfInBounds_toArray, List.set_cons_zero, List.set_cons_succ]
      refine wpAnyH_ready (rs := [6]) (by kernel_rfl) (by simp) ?_
      refine AllReadyH.cons (o := { dst := some 13, op := Go.Op.buildSlice 61 1 #[(0, Go.Operand.tmp 12)], type := 61, pos := "l05_session.go:65", after := #[{ on := 5, ground := Go.Ground.data }], guard := none }) rfl (fun K hK => ?_) AllReadyH.nil
      go_simp
      refine hK.out _ _ (hHeld.alloc1 _) (fun hHeld => ?_)
      clear hK K
      try simp only [Act.put, List.setIfInBounds_toArray, List.set_cons_zero, List.set_cons_succ]
      exact REST
    case second =>
      go_simp
      refine hK.out _ _ (hHeld.alloc1 _) (fun hHeld => ?_)
      clear hK K
      try simp only [Act.put, List.setIfInBounds_toArray, List.set_cons_zero, List.set_cons_succ]
      refine wpAnyH_ready (rs := [4]) (by kernel_rfl) (by simp) ?_
      refine AllReadyH.cons (o := { dst := some 11, op := Go.Op.load 61 (Go.Operand.tmp 10), type := 61, pos := "l05_session.go:65", after := #[{ on := 3, ground := Go.Ground.data }], guard := none }) rfl (fun K hK => ?_) AllReadyH.nil
      have y0 : wD.cell? ⟨p, 0, none⟩ = some v := hTD.box.at 0 _ rfl
      have hp : p < wD.heap.size := hTD.box.lt
      have y1 : ∀ o, (wD.alloc o).cell? ⟨p, 0, none⟩ = some v := fun o => (World.cell?_alloc_lt _ _ _ hp).trans y0
      go_simp
      refine hK.out _ _ hHeld (fun hHeld => ?_)
      clear hK K
      try simp only [Act.put, List.setIfInBounds_toArray, List.set_cons_zero, List.set_cons_succ]
      exact REST
  case rest =>
  replace hHeld := hHeld.alloc1 (.cells #[.int .i64 x.kind, .int .i64 x.id, .slice a2 x.vec.length d2, .int .i64 x.session, .int .i64 x.seq] 94)
  refine wpAnyH_ready (rs := [7]) (by kernel_rfl) (by simp) ?_
  refine AllReadyH.cons (o := { dst := some 14, op := Go.Op.call { callee := Go.Callee.builtin Go.Builtin.append, args := #[Go.Operand.tmp 11, Go.Operand.tmp 13], argTypes := #[61, 61] }, type := 61, pos := "l05_session.go:65", after := #[{ on := 4, ground := Go.Ground.data }, { on := 6, ground := Go.Ground.data }], guard := none }) rfl (fun K hK => ?_) AllReadyH.nil
  refine step_append_Write hTD.grow (row := [.int .i64 x.kind, .int .i64 x.id, .slice a2 x.vec.length d2, .int .i64 x.session, .int .i64 x.seq]) (x := x) (bl := bl) hLD (fun c hc e => by have h1 := (hX c hc).1; have h2 := hTD.hiV c e; omega) rfl _ _ rfl rfl rfl (by omega) (by have := hTD.box.lt; omega) ?_
  rintro g5 cp5 w5 hG5 hb5 hE5 hl5 hz5 hor5
  refine hK.out _ _ ((hHD.trans (hE5.mono (fun k _ h => Or.inr h)))) (fun hHeld => ?_)
  clear hK K
  try simp only [Act.put, List.setIfInBounds_toArray, List.set_cons_zero, List.set_cons_succ]
  refine wpAnyH_take (i := 8) (oi := { dst := some 15, op := Go.Op.nilCheck (Go.Operand.tmp 7), type := 0, pos := "l05_session.go:65", after := #[{ on := 0, ground := Go.Ground.data }, { on := 0, ground := Go.Ground.phase }, { on := 1, ground := Go.Ground.phase }, { on := 2, ground := Go.Ground.phase }, { on := 3, ground := Go.Ground.phase }, { on := 4, ground := Go.Ground.phase }, { on := 5, ground := Go.Ground.phase }, { on := 6, ground := Go.Ground.phase }, { on := 7, ground := Go.Ground.phase }], guard := none }) (v := ?va8) rfl (by kernel_rfl) (by kernel_rfl) (by kernel_rfl) (fun _ _ _ h => h) (Or.inl ⟨by rfl, ?ha8⟩) hHeld ?ra8
  case ha8 =>
    intro wS hSw
    (try dsimp only at hSw)
    go_simp
    try with_reducible rfl
  case ra8 =>
  simp only [Act.put, List.setIfInBounds_toArray, List.set_cons_zero, List.set_cons_succ]
  refine wpAnyH_take (i := 9) (oi := { dst := some 16, op := Go.Op.fieldAddr 265 (Go.Operand.tmp 15) 0, type := 0, pos := "l05_session.go:65", after := #[{ on := 8, ground := Go.Ground.data }, { on := 0, ground := Go.Ground.phase }, { on := 1, ground := Go.Ground.phase }, { on := 2, ground := Go.Ground.phase }, { on := 3, ground := Go.Ground.phase }, { on := 4, ground := Go.Ground.phase }, { on := 5, ground := Go.Ground.phase }, { on := 6, ground := Go.Ground.phase }, { on := 7, ground := Go.Ground.phase }], guard := none }) (v := ?va9) rfl (by kernel_rfl) (by kernel_rfl) (by kernel_rfl) (fun _ _ _ h => h) (Or.inl ⟨by rfl, ?ha9⟩) hHeld ?ra9
  case ha9 =>
    intro wS hSw
    (try dsimp only at hSw)
    go_simp
    try with_reducible rfl
  case ra9 =>
  simp only [Act.put, List.setIfInBounds_toArray, List.set_cons_zero, List.set_cons_succ]
  refine wpAnyH_ready (rs := [10]) (by kernel_rfl) (by simp) ?_
  refine AllReadyH.cons (o := { dst := none, op := Go.Op.store 61 (Go.Operand.tmp 16) (Go.Operand.tmp 14), type := 0, pos := "l05_session.go:65", after := #[{ on := 9, ground := Go.Ground.data }, { on := 7, ground := Go.Ground.data }, { on := 7, ground := Go.Ground.chain }, { on := 0, ground := Go.Ground.phase }, { on := 1, ground := Go.Ground.phase }, { on := 2, ground := Go.Ground.phase }, { on := 3, ground := Go.Ground.phase }, { on := 4, ground := Go.Ground.phase }, { on := 5, ground := Go.Ground.phase }, { on := 6, ground := Go.Ground.phase }, { on := 7, ground := Go.Ground.phase }], guard := none }) rfl (fun K hK => ?_) AllReadyH.nil
  have hb6 : Box 0 (tcells v mb (lastI ws)) 265 w5 p := hTD.box.ext hE5 (fun e => by have := (hTD.grow.own.lt p e).1; omega)
  have c6 : w5.cell? ⟨p, 0, none⟩ = some v := hb6.at 0 _ rfl
  have f6 := hb6.soft 0
  have l6 := hb6.lt
  go_simp
  refine hK.out _ _ ((hHD.trans (hE5.mono (fun k _ h => Or.inr h))).setCell ⟨p, 0, none⟩ _ (Or.inl rfl)) (fun hHeld => ?_)
  clear hK K
  try simp only [Act.put, List.setIfInBounds_toArray, List.set_cons_zero, List.set_cons_succ]
  refine wpAnyH_done (by kernel_rfl) ?_ _
  refine NoPanic.normal ?_
  have hnf : (bls ++ [bl]).flatten = bls.flatten ++ bl := by simp
  have hT6 := hTD.added hG5 hE5 (by
    intro b hb
    rw [hnf] at hb
    rcases List.mem_append.1 hb with hb | hb
    · exact ⟨(hTD.sub b hb).1, fun o => (frozen_of_block (hE5.block b (hTD.grow.sub_lt b hb) (fun e => hTD.grow.off b hb e)) o).trans ((hTD.sub b hb).2 o)⟩
    · refine ⟨by have := (hX b hb).1; have := hTD.pN; omega, fun o => (frozen_of_block (hE5.block b (Lay.tWrite.lt hLD b hb) (fun e => by have := hTD.hiV b e; have := (hX b hb).1; omega)) o).trans (hFD b hb o)⟩) (by
    rw [hnf, List.nodup_append]
    exact ⟨hTD.nd, hnd, fun b hb c hc e => by have := hTD.hiB b hb; have := (hX c hc).1; omega⟩)
  have hQ6 : Box 0 #[.int .i64 x.kind, .int .i64 x.id, .slice a2 x.vec.length d2, .int .i64 x.session, .int .i64 x.seq] 94 (w5.setCell ⟨p, 0, none⟩ (.slice (some ⟨g5, 0, none⟩) (ws.length + 1) cp5)) w.heap.size := hQ0.ext hHeld (by rintro (e | e); omega; have := h.hiV _ e; omega)
  have hB6 : Below mb w (w5.setCell ⟨p, 0, none⟩ (.slice (some ⟨g5, 0, none⟩) (ws.length + 1) cp5)) := hBw.trans (hHeld.below (by have := hBw.size; omega) (by rintro c hc (e | e); omega; have := (h.grow.own.lt c e).1; omega))
  clear hHeld hTD hLD hHD hFD hG5 hE5 hb5 hl5 hz5 hor5 hT0 hL0 hF0 hQ0 hBw h hl hX hnd nb hnf
  generalize w5.setCell ⟨p, 0, none⟩ (.slice (some ⟨g5, 0, none⟩) (ws.length + 1) cp5) = w6 at hT6 hQ6 hB6 ⊢
  have y0 : w6.cell? ⟨w.heap.size, 0, none⟩ = some (.int .i64 x.kind) := hQ6.at 0 _ rfl
  have y1 : w6.cell? ⟨w.heap.size, 1, none⟩ = some (.int .i64 x.id) := hQ6.at 1 _ rfl
  have y2 : w6.cell? ⟨w.heap.size, 2, none⟩ = some (.slice a2 x.vec.length d2) := hQ6.at 2 _ rfl
  have y3 : w6.cell? ⟨w.heap.size, 3, none⟩ = some (.int .i64 x.session) := hQ6.at 3 _ rfl
  have y4 : w6.cell? ⟨w.heap.size, 4, none⟩ = some (.int .i64 x.seq) := hQ6.at 4 _ rfl
  go_wp2_with fail
  clear y0 y1 y2 y3 y4
  refine (ticketC _ _ _ _ _ _ _ w6).mono ?_
  rintro e w7 ⟨rfl, hb7⟩
  have nb8 : Below w6.heap.size w6 (w7.alloc (.cells #[.int .i64 x.session, .int .i64 x.seq] 269)) := hb7.alloc hb7.size _
  have hT8 := hT6.later nb8
  have hQ8 := hQ6.keep nb8
  have hB8 := hB6.trans (nb8.mono (by have := hT6.lt; have := hT6.box.lt; omega))
  have hR8 : Box 0 #[.int .i64 x.session, .int .i64 x.seq] 269 (w7.alloc (.cells #[.int .i64 x.session, .int .i64 x.seq] 269)) w7.heap.size := newBox (Nat.zero_le _)
  have hrp : mb < w7.heap.size := by have := hT6.lt; have := hT6.box.lt; have := hb7.size; omega
  simp only [tick]
  go_wp2_with fail
  clear hT6 hQ6 hB6 hb7 nb8
  generalize w7.alloc (.cells #[.int .i64 x.session, .int .i64 x.seq] 269) = w8 at *
  generalize w7.heap.size = r at *
  have hT9 : Told0 w8.drew p mb _ ws.length (ws ++ [x]) (lastI ws) (fun s q => seenI ws s q) (.slice (some ⟨g5, 0, none⟩) (ws.length + 1) cp5) (rows ++ [[.int .i64 x.kind, .int .i64 x.id, .slice a2 x.vec.length d2, .int .i64 x.session, .int .i64 x.seq]]) (bls ++ [bl]) := hT8.later (below_drawn (Below.refl _ _) 1)
  have hQ9 : Box 0 #[.int .i64 x.kind, .int .i64 x.id, .slice a2 x.vec.length d2, .int .i64 x.session, .int .i64 x.seq] 94 w8.drew w.heap.size := hQ8
  have hR9 : Box 0 #[.int .i64 x.session, .int .i64 x.seq] 269 w8.drew r := hR8
  have hB9 : Below mb w w8.drew := hB8.drew
  obtain ⟨bs, hbs⟩ : ∃ bs, bs = decide (seenI ws x.session x.seq ≠ 0) := ⟨_, rfl⟩
  have HBS := hide hbs
  clear hbs
  refine wp_region_noPanic ?_
  refine wp_region_held_drew (S := fun w' => Ext (fun _ => False) w8 w') (by kernel_rfl) (Ext.refl _ _).drew3 (fun hHeld => ?_)
  generalize w8.drew = w9 at hHeld hT9 hQ9 hR9 hB9 ⊢
  refine wpAnyH_take (i := 0) (oi := { dst := some 20, op := Go.Op.move (Go.Operand.tmp 0), type := 252, pos := "l05_session.go:67", after := #[], guard := none }) (v := ?vc0) rfl (by kernel_rfl) (by kernel_rfl) (by kernel_rfl) (fun _ _ _ h => h) (Or.inl ⟨by rfl, ?hc0⟩) hHeld ?rc0
  case hc0 =>
    intro wS hSw
    (try dsimp only at hSw)
    go_simp
    try with_reducible rfl
  case rc0 =>
  simp only [Act.put, List.setIfInBounds_toArray, List.set_cons_zero, List.set_cons_succ]
  refine wpAnyH_take (i := 1) (oi := { dst := some 21, op := Go.Op.nilCheck (Go.Operand.tmp 20), type := 0, pos := "l05_session.go:67", after := #[{ on := 0, ground := Go.Ground.data }], guard := none }) (v := ?vc1) rfl (by kernel_rfl) (by kernel_rfl) (by kernel_rfl) (fun _ _ _ h => h) (Or.inl ⟨by rfl, ?hc1⟩) hHeld ?rc1
  case hc1 =>
    intro wS hSw
    (try dsimp only at hSw)
    go_simp
    try with_reducible rfl
  case rc1 =>
  simp only [Act.put, List.setIfInBounds_toArray, List.set_cons_zero, List.set_cons_succ]
  refine wpAnyH_take (i := 2) (oi := { dst := some 22, op := Go.Op.fieldAddr 265 (Go.Operand.tmp 21) 1, type := 0, pos := "l05_session.go:67", after := #[{ on := 1, ground := Go.Ground.data }], guard := none }) (v := ?vc2) rfl (by kernel_rfl) (by kernel_rfl) (by kernel_rfl) (fun _ _ _ h => h) (Or.inl ⟨by rfl, ?hc2⟩) hHeld ?rc2
  case hc2 =>
    intro wS hSw
    (try dsimp only at hSw)
    go_simp
    try with_reducible rfl
  case rc2 =>
  simp only [Act.put, List.setIfInBounds_toArray, List.set_cons_zero, List.set_cons_succ]
  refine wpAnyH_take (i := 3) (oi := { dst := some 23, op := Go.Op.load 263 (Go.Operand.tmp 22), type := 263, pos := "l05_session.go:67", after := #[{ on := 2, ground := Go.Ground.data }], guard := none }) (v := ?vc3) rfl (by kernel_rfl) (by kernel_rfl) (by kernel_rfl) (fun _ _ _ h => h) (Or.inl ⟨by rfl, ?hc3⟩) hHeld ?rc3
  case hc3 =>
    intro wS hSw
    have z1 : wS.cell? ⟨p, 1, none⟩ = some (.map (some mb)) := (hT8.box.ext hSw (fun e => e)).at 1 _ rfl
    have k0 : wS.cell? ⟨r, 0, none⟩ = some (.int .i64 x.session) := (hR8.ext hSw (fun e => e)).at 0 _ rfl
    have k1 : wS.cell? ⟨r, 1, none⟩ = some (.int .i64 x.seq) := (hR8.ext hSw (fun e => e)).at 1 _ rfl
    clear hSw
    (try dsimp only at hSw)
    go_simp
    try with_reducible rfl
  case rc3 =>
  simp only [Act.put, List.setIfInBounds_toArray, List.set_cons_zero, List.set_cons_succ]
  refine wpAnyH_take (i := 4) (oi := { dst := some 24, op := Go.Op.load 269 (Go.Operand.tmp 4), type := 269, pos := "l05_session.go:67", after := #[], guard := none }) (v := ?vc4) rfl (by kernel_rfl) (by kernel_rfl) (by kernel_rfl) (fun _ _ _ h => h) (Or.inl ⟨by rfl, ?hc4⟩) hHeld ?rc4
  case hc4 =>
    intro wS hSw
    have z1 : wS.cell? ⟨p, 1, none⟩ = some (.map (some mb)) := (hT8.box.ext hSw (fun e => e)).at 1 _ rfl
    have k0 : wS.cell? ⟨r, 0, none⟩ = some (.int .i64 x.session) := (hR8.ext hSw (fun e => e)).at 0 _ rfl
    have k1 : wS.cell? ⟨r, 1, none⟩ = some (.int .i64 x.seq) := (hR8.ext hSw (fun e => e)).at 1 _ rfl
    clear hSw
    (try dsimp only at hSw)
    go_simp
    try with_reducible rfl
  case rc4 =>
  simp only [Act.put, List.setIfInBounds_toArray, List.set_cons_zero, List.set_cons_succ]
  refine wpAnyH_take (i := 5) (oi := { dst := some 25, op := Go.Op.lookup 263 (Go.Operand.tmp 23) (Go.Operand.tmp 24) true, type := 271, pos := "l05_session.go:67", after := #[{ on := 3, ground := Go.Ground.data }, { on := 4, ground := Go.Ground.data }], guard := none }) (v := ?vc5) rfl (by kernel_rfl) (by kernel_rfl) (by kernel_rfl) (fun _ _ _ h => h) (Or.inl ⟨by rfl, ?hc5⟩) hHeld ?rc5
  case hc5 =>
    intro wS hSw
    have hlk := (hT8.seen.ext hSw (fun e => e)).look k3 k4
    simp only [tick] at hlk
    rw [← unhide HBS] at hlk
    clear hSw
    (try dsimp only at hSw)
    go_simp
    try with_reducible rfl
  case rc5 =>
  simp only [Act.put, List.setIfInBounds_toArray, List.set_cons_zero, List.set_cons_succ]
  refine wpAnyH_take (i := 6) (oi := { dst := some 19, op := Go.Op.move (Go.Operand.tmp 25), type := 271, pos := "l05_session.go:67", after := #[{ on := 5, ground := Go.Ground.data }], guard := none }) (v := ?vc6) rfl (by kernel_rfl) (by kernel_rfl) (by kernel_rfl) (fun _ _ _ h => h) (Or.inl ⟨by rfl, ?hc6⟩) hHeld ?rc6
  case hc6 =>
    intro wS hSw
    (try dsimp only at hSw)
    go_simp
    try with_reducible rfl
  case rc6 =>
  simp only [Act.put, List.setIfInBounds_toArray, List.set_cons_zero, List.set_cons_succ]
  refine wpAnyH_take (i := 7) (oi := { dst := some 26, op := Go.Op.extract (Go.Operand.tmp 19) 0, type := 2, pos := "l05_session.go:67", after := #[{ on := 6, ground := Go.Ground.data }], guard := none }) (v := ?vc7) rfl (by kernel_rfl) (by kernel_rfl) (by kernel_rfl) (fun _ _ _ h => h) (Or.inl ⟨by rfl, ?hc7⟩) hHeld ?rc7
  case hc7 =>
    intro wS hSw
    (try dsimp only at hSw)
    go_simp
    try with_reducible rfl
  case rc7 =>
  simp only [Act.put, List.setIfInBounds_toArray, List.set_cons_zero, List.set_cons_succ]
  refine wpAnyH_take (i := 8) (oi := { dst := some 27, op := Go.Op.extract (Go.Operand.tmp 19) 1, type := 4, pos := "l05_session.go:67", after := #[{ on := 6, ground := Go.Ground.data }, { on := 9, ground := Go.Ground.gcOnly Go.Departure.lateStores }], guard := none }) (v := ?vc8) rfl (by kernel_rfl) (by kernel_rfl) (by kernel_rfl) (fun _ _ _ h => h) (Or.inl ⟨by rfl, ?hc8⟩) hHeld ?rc8
  case hc8 =>
    intro wS hSw
    (try dsimp only at hSw)
    go_simp
    try with_reducible rfl
  case rc8 =>
  simp only [Act.put, List.setIfInBounds_toArray, List.set_cons_zero, List.set_cons_succ]
  refine wpAnyH_take (i := 9) (oi := { dst := some 5, op := Go.Op.assign (Go.Operand.tmp 26), type := 2, pos := "l05_session.go:67", after := #[{ on := 7, ground := Go.Ground.data }, { on := 0, ground := Go.Ground.phase }, { on := 1, ground := Go.Ground.phase }, { on := 2, ground := Go.Ground.phase }, { on := 3, ground := Go.Ground.phase }, { on := 4, ground := Go.Ground.phase }, { on := 5, ground := Go.Ground.phase }, { on := 6, ground := Go.Ground.phase }, { on := 7, ground := Go.Ground.phase }, { on := 8, ground := Go.Ground.textOnly Go.Departure.lateStores }], guard := none }) (v := ?vc9) rfl (by kernel_rfl) (by kernel_rfl) (by kernel_rfl) (fun _ _ _ h => h) (Or.inl ⟨by rfl, ?hc9⟩) hHeld ?rc9
  case hc9 =>
    intro wS hSw
    (try dsimp only at hSw)
    go_simp
    try with_reducible rfl
  case rc9 =>
  simp only [Act.put, List.setIfInBounds_toArray, List.set_cons_zero, List.set_cons_succ]
  refine wpAnyH_take (i := 10) (oi := { dst := some 6, op := Go.Op.assign (Go.Operand.tmp 27), type := 4, pos := "l05_session.go:67", after := #[{ on := 8, ground := Go.Ground.data }, { on := 9, ground := Go.Ground.chain }, { on := 0, ground := Go.Ground.phase }, { on := 1, ground := Go.Ground.phase }, { on := 2, ground := Go.Ground.phase }, { on := 3, ground := Go.Ground.phase }, { on := 4, ground := Go.Ground.phase }, { on := 5, ground := Go.Ground.phase }, { on := 6, ground := Go.Ground.phase }, { on := 7, ground := Go.Ground.phase }, { on := 8, ground := Go.Ground.phase }, { on := 9, ground := Go.Ground.phase }], guard := none }) (v := ?vc10) rfl (by kernel_rfl) (by kernel_rfl) (by kernel_rfl) (fun _ _ _ h => h) (Or.inl ⟨by rfl, ?hc10⟩) hHeld ?rc10
  case hc10 =>
    intro wS hSw
    (try dsimp only at hSw)
    go_simp
    try with_reducible rfl
  case rc10 =>
  simp only [Act.put, List.setIfInBounds_toArray, List.set_cons_zero, List.set_cons_succ]
  refine wpAnyH_done (by kernel_rfl) ?_ _
  refine NoPanic.normal ?_
  clear hHeld hT8 hQ8 hR8 hB8
  obtain ⟨b1, b9, q1, q9⟩ := wF_seq hf
  have hs9 : x.session.toNat < 10 := by omega
  have hsi : (x.session.toNat : Int) = x.session := by omega
  have i1 : (0 : Int) ≤ x.session := by omega
  have i2 : x.session < 10 := by omega
  have hlast : ∀ j : Int, (if j = (x.session.toNat : Int) then (if lastI ws x.session < x.seq then x.seq else lastI ws x.session) else lastI ws j) = lastI (ws ++ [x]) j := by
    intro j
    rw [lastI_snoc, hsi, show (if lastI ws x.session < x.seq then x.seq else lastI ws x.session) = max (lastI ws x.session) x.seq by split <;> omega]
    by_cases e : j = x.session
    · rw [if_pos e, if_pos e.symm, e]
    · rw [if_neg e, if_neg (fun h => e h.symm)]
  have hlen : Hid ((ws ++ [x]).length = ws.length + 1) := by show (ws ++ [x]).length = ws.length + 1; simp
  have HLAST := hide hlast
  clear hlast
  by_cases hsn : seenI ws x.session x.seq = 0
  · obtain rfl : bs = false := by rw [unhide HBS]; simpa using hsn
    have hseen : ∀ s q : Int, (if s = x.session ∧ q = x.seq then ws.length + 1 else seenI ws s q) = seenI (ws ++ [x]) s q := by
      intro s q
      rw [seenI_snoc]
      by_cases e : s = x.session ∧ q = x.seq
      · rw [if_pos e, e.1, e.2, hsn, if_pos rfl, if_pos ⟨rfl, rfl⟩]
      · rw [if_neg e]
        by_cases h0 : seenI ws s q = 0
        · rw [if_pos h0, if_neg (fun h => e ⟨h.1.symm, h.2.symm⟩), h0]
        · rw [if_neg h0]
    have HSEEN := hide hseen
    clear HBS hseen hsn
    go_wp2_with fail
    have hT10 : Told0 w9.drew p mb _ ws.length (ws ++ [x]) (lastI ws) (fun s q => seenI ws s q) (.slice (some ⟨g5, 0, none⟩) (ws.length + 1) cp5) (rows ++ [[.int .i64 x.kind, .int .i64 x.id, .slice a2 x.vec.length d2, .int .i64 x.session, .int .i64 x.seq]]) (bls ++ [bl]) := hT9.later (below_drawn (Below.refl _ _) 1)
    have hQ10 : Box 0 #[.int .i64 x.kind, .int .i64 x.id, .slice a2 x.vec.length d2, .int .i64 x.session, .int .i64 x.seq] 94 w9.drew w.heap.size := hQ9
    have hB10 : Below mb w w9.drew := hB9.drew
    refine wp_region_noPanic ?_
    refine wp_region_held_drew (S := fun w' => Ext (fun c => c = mb) w9 w') (by kernel_rfl) (Ext.refl _ _).drew3 (fun hHeld => ?_)
    generalize w9.drew = wE at hHeld hT10 hQ10 hB10 ⊢
    refine wpAnyH_take (i := 0) (oi := { dst := some 30, op := Go.Op.move (Go.Operand.tmp 0), type := 252, pos := "l05_session.go:68", after := #[], guard := none }) (v := ?ve0) rfl (by kernel_rfl) (by kernel_rfl) (by kernel_rfl) (fun _ _ _ h => h) (Or.inl ⟨by rfl, ?he0⟩) hHeld ?re0
    case he0 =>
      intro wS hSw
      (try dsimp only at hSw)
      go_simp
      try with_reducible rfl
    case re0 =>
    simp only [Act.put, List.setIfInBounds_toArray, List.set_cons_zero, List.set_cons_succ]
    refine wpAnyH_take (i := 1) (oi := { dst := some 31, op := Go.Op.nilCheck (Go.Operand.tmp 30), type := 0, pos := "l05_session.go:68", after := #[{ on := 0, ground := Go.Ground.data }], guard := none }) (v := ?ve1) rfl (by kernel_rfl) (by kernel_rfl) (by kernel_rfl) (fun _ _ _ h => h) (Or.inl ⟨by rfl, ?he1⟩) hHeld ?re1
    case he1 =>
      intro wS hSw
      (try dsimp only at hSw)
      go_simp
      try with_reducible rfl
    case re1 =>
    simp only [Act.put, List.setIfInBounds_toArray, List.set_cons_zero, List.set_cons_succ]
    refine wpAnyH_take (i := 2) (oi := { dst := some 32, op := Go.Op.fieldAddr 265 (Go.Operand.tmp 31) 1, type := 0, pos := "l05_session.go:68", after := #[{ on := 1, ground := Go.Ground.data }], guard := none }) (v := ?ve2) rfl (by kernel_rfl) (by kernel_rfl) (by kernel_rfl) (fun _ _ _ h => h) (Or.inl ⟨by rfl, ?he2⟩) hHeld ?re2
    case he2 =>
      intro wS hSw
      (try dsimp only at hSw)
      go_simp
      try with_reducible rfl
    case re2 =>
    simp only [Act.put, List.setIfInBounds_toArray, List.set_cons_zero, List.set_cons_succ]
    refine wpAnyH_take (i := 3) (oi := { dst := some 33, op := Go.Op.load 263 (Go.Operand.tmp 32), type := 263, pos := "l05_session.go:68", after := #[{ on := 2, ground := Go.Ground.data }], guard := none }) (v := ?ve3) rfl (by kernel_rfl) (by kernel_rfl) (by kernel_rfl) (fun _ _ _ h => h) (Or.inl ⟨by rfl, ?he3⟩) hHeld ?re3
    case he3 =>
      intro wS hSw
      have z1 : wS.cell? ⟨p, 1, none⟩ = some (.map (some mb)) := (hT9.box.ext hSw (by have := hT9.lt; have := hrp; omega)).at 1 _ rfl
      have k0 : wS.cell? ⟨r, 0, none⟩ = some (.int .i64 x.session) := (hR9.ext hSw (by have := hT9.lt; have := hrp; omega)).at 0 _ rfl
      have k1 : wS.cell? ⟨r, 1, none⟩ = some (.int .i64 x.seq) := (hR9.ext hSw (by have := hT9.lt; have := hrp; omega)).at 1 _ rfl
      have z0 : wS.cell? ⟨p, 0, none⟩ = some (.slice (some ⟨g5, 0, none⟩) (ws.length + 1) cp5) := (hT9.box.ext hSw (by have := hT9.lt; omega)).at 0 _ rfl
      clear hSw
      (try dsimp only at hSw)
      go_simp
      try with_reducible rfl
    case re3 =>
    simp only [Act.put, List.setIfInBounds_toArray, List.set_cons_zero, List.set_cons_succ]
    refine wpAnyH_take (i := 4) (oi := { dst := some 34, op := Go.Op.load 269 (Go.Operand.tmp 4), type := 269, pos := "l05_session.go:68", after := #[], guard := none }) (v := ?ve4) rfl (by kernel_rfl) (by kernel_rfl) (by kernel_rfl) (fun _ _ _ h => h) (Or.inl ⟨by rfl, ?he4⟩) hHeld ?re4
    case he4 =>
      intro wS hSw
      have z1 : wS.cell? ⟨p, 1, none⟩ = some (.map (some mb)) := (hT9.box.ext hSw (by have := hT9.lt; have := hrp; omega)).at 1 _ rfl
      have k0 : wS.cell? ⟨r, 0, none⟩ = some (.int .i64 x.session) := (hR9.ext hSw (by have := hT9.lt; have := hrp; omega)).at 0 _ rfl
      have k1 : wS.cell? ⟨r, 1, none⟩ = some (.int .i64 x.seq) := (hR9.ext hSw (by have := hT9.lt; have := hrp; omega)).at 1 _ rfl
      have z0 : wS.cell? ⟨p, 0, none⟩ = some (.slice (some ⟨g5, 0, none⟩) (ws.length + 1) cp5) := (hT9.box.ext hSw (by have := hT9.lt; omega)).at 0 _ rfl
      clear hSw
      (try dsimp only at hSw)
      go_simp
      try with_reducible rfl
    case re4 =>
    simp only [Act.put, List.setIfInBounds_toArray, List.set_cons_zero, List.set_cons_succ]
    refine wpAnyH_take (i := 5) (oi := { dst := some 35, op := Go.Op.move (Go.Operand.tmp 0), type := 252, pos := "l05_session.go:68", after := #[], guard := none }) (v := ?ve5) rfl (by kernel_rfl) (by kernel_rfl) (by kernel_rfl) (fun _ _ _ h => h) (Or.inl ⟨by rfl, ?he5⟩) hHeld ?re5
    case he5 =>
      intro wS hSw
      (try dsimp only at hSw)
      go_simp
      try with_reducible rfl
    case re5 =>
    simp only [Act.put, List.setIfInBounds_toArray, List.set_cons_zero, List.set_cons_succ]
    refine wpAnyH_take (i := 6) (oi := { dst := some 36, op := Go.Op.nilCheck (Go.Operand.tmp 35), type := 0, pos := "l05_session.go:68", after := #[{ on := 5, ground := Go.Ground.data }], guard := none }) (v := ?ve6) rfl (by kernel_rfl) (by kernel_rfl) (by kernel_rfl) (fun _ _ _ h => h) (Or.inl ⟨by rfl, ?he6⟩) hHeld ?re6
    case he6 =>
      intro wS hSw
      (try dsimp only at hSw)
      go_simp
      try with_reducible rfl
    case re6 =>
    simp only [Act.put, List.setIfInBounds_toArray, List.set_cons_zero, List.set_cons_succ]
    refine wpAnyH_take (i := 7) (oi := { dst := some 37, op := Go.Op.fieldAddr 265 (Go.Operand.tmp 36) 0, type := 0, pos := "l05_session.go:68", after := #[{ on := 6, ground := Go.Ground.data }], guard := none }) (v := ?ve7) rfl (by kernel_rfl) (by kernel_rfl) (by kernel_rfl) (fun _ _ _ h => h) (Or.inl ⟨by rfl, ?he7⟩) hHeld ?re7
    case he7 =>
      intro wS hSw
      (try dsimp only at hSw)
      go_simp
      try with_reducible rfl
    case re7 =>
    simp only [Act.put, List.setIfInBounds_toArray, List.set_cons_zero, List.set_cons_succ]
    refine wpAnyH_take (i := 8) (oi := { dst := some 38, op := Go.Op.load 61 (Go.Operand.tmp 37), type := 61, pos := "l05_session.go:68", after := #[{ on := 7, ground := Go.Ground.data }], guard := none }) (v := ?ve8) rfl (by kernel_rfl) (by kernel_rfl) (by kernel_rfl) (fun _ _ _ h => h) (Or.inl ⟨by rfl, ?he8⟩) hHeld ?re8
    case he8 =>
      intro wS hSw
      have z1 : wS.cell? ⟨p, 1, none⟩ = some (.map (some mb)) := (hT9.box.ext hSw (by have := hT9.lt; have := hrp; omega)).at 1 _ rfl
      have k0 : wS.cell? ⟨r, 0, none⟩ = some (.int .i64 x.session) := (hR9.ext hSw (by have := hT9.lt; have := hrp; omega)).at 0 _ rfl
      have k1 : wS.cell? ⟨r, 1, none⟩ = some (.int .i64 x.seq) := (hR9.ext hSw (by have := hT9.lt; have := hrp; omega)).at 1 _ rfl
      have z0 : wS.cell? ⟨p, 0, none⟩ = some (.slice (some ⟨g5, 0, none⟩) (ws.length + 1) cp5) := (hT9.box.ext hSw (by have := hT9.lt; omega)).at 0 _ rfl
      clear hSw
      (try dsimp only at hSw)
      go_simp
      try with_reducible rfl
    case re8 =>
    simp only [Act.put, List.setIfInBounds_toArray, List.set_cons_zero, List.set_cons_succ]
    refine wpAnyH_take (i := 9) (oi := { dst := some 39, op := Go.Op.call { callee := Go.Callee.builtin Go.Builtin.len, args := #[Go.Operand.tmp 38], argTypes := #[61] }, type := 3, pos := "l05_session.go:68", after := #[{ on := 8, ground := Go.Ground.data }], guard := none }) (v := ?ve9) rfl (by kernel_rfl) (by kernel_rfl) (by kernel_rfl) (fun _ _ _ h => h) (Or.inl ⟨by rfl, ?he9⟩) hHeld ?re9
    case he9 =>
      intro wS hSw
      (try dsimp only at hSw)
      go_simp
      try with_reducible rfl
    case re9 =>
    simp only [Act.put, List.setIfInBounds_toArray, List.set_cons_zero, List.set_cons_succ]
    refine wpAnyH_ready (rs := [10]) (by kernel_rfl) (by simp) ?_
    refine AllReadyH.cons (o := { dst := none, op := Go.Op.mapUpdate 263 (Go.Operand.tmp 33) (Go.Operand.tmp 34) (Go.Operand.tmp 39), type := 0, pos := "l05_session.go:68", after := #[{ on := 3, ground := Go.Ground.data }, { on := 4, ground := Go.Ground.data }, { on := 9, ground := Go.Ground.data }, { on := 0, ground := Go.Ground.phase }, { on := 1, ground := Go.Ground.phase }, { on := 2, ground := Go.Ground.phase }, { on := 3, ground := Go.Ground.phase }, { on := 4, ground := Go.Ground.phase }, { on := 5, ground := Go.Ground.phase }, { on := 6, ground := Go.Ground.phase }, { on := 7, ground := Go.Ground.phase }, { on := 8, ground := Go.Ground.phase }, { on := 9, ground := Go.Ground.phase }], guard := none }) rfl (fun K hK => ?_) AllReadyH.nil
    obtain ⟨w12, hrun, hTk, hE12⟩ := hT10.seen.put (by omega) k3 k4 (m := ws.length + 1) (by omega) (wf_of_bd (by omega))
    simp only [tick] at hrun
    have hrun2 : (Instr.mapUpdate 263 (.map (some mb)) (.agg #[.int .i64 x.session, .int .i64 x.seq]) (.int .i64 ((ws.length : Int) + 1))).run Tryz.prog wE = .ok () w12 := by simpa using hrun
    clear hrun
    go_simp
    refine hK.out _ _ (hHeld.trans hE12) (fun hHeld => ?_)
    clear hK K
    try simp only [Act.put, List.setIfInBounds_toArray, List.set_cons_zero, List.set_cons_succ]
    refine wpAnyH_done (by kernel_rfl) ?_ _
    refine NoPanic.normal ?_
    have hT12 := (hT10.marked hE12 hTk)
    have hQ12 := hQ10.ext hE12 (by omega)
    have hB12 := hB10.trans (hE12.below (by have := hT10.lt; have := hT10.box.lt; omega) (by intro c hc e; omega))
    clear hHeld hT9 hQ9 hR9 hB9 hT10 hQ10 hB10 hE12 hTk
    go_wp2_with fail
    have hTG : Told0 w12.drew p mb _ (ws.length + 1) (ws ++ [x]) (lastI ws) _ (.slice (some ⟨g5, 0, none⟩) (ws.length + 1) cp5) (rows ++ [[.int .i64 x.kind, .int .i64 x.id, .slice a2 x.vec.length d2, .int .i64 x.session, .int .i64 x.seq]]) (bls ++ [bl]) := hT12.later (below_drawn (Below.refl _ _) 1)
    have hBG : Below mb w w12.drew := hB12.drew
    refine wp_region_noPanic ?_
    refine wp_region_held_drew (S := fun w' => Ext (fun c => c = p) w12 w') (by kernel_rfl) (Ext.refl _ _).drew3 (fun hHeld => ?_)
    generalize w12.drew = wG at hHeld hTG hBG ⊢
    refine wpAnyH_take (i := 0) (oi := { dst := some 40, op := Go.Op.move (Go.Operand.tmp 0), type := 252, pos := "l05_session.go:70", after := #[], guard := none }) (v := ?vf0) rfl (by kernel_rfl) (by kernel_rfl) (by kernel_rfl) (fun _ _ _ h => h) (Or.inl ⟨by rfl, ?hf0⟩) hHeld ?rf0
    case hf0 =>
      intro wS hSw
      (try dsimp only at hSw)
      go_simp
      try with_reducible rfl
    case rf0 =>
    simp only [Act.put, List.setIfInBounds_toArray, List.set_cons_zero, List.set_cons_succ]
    refine wpAnyH_take (i := 1) (oi := { dst := some 41, op := Go.Op.fieldAddr 94 (Go.Operand.tmp 3) 3, type := 0, pos := "l05_session.go:70", after := #[], guard := none }) (v := ?vf1) rfl (by kernel_rfl) (by kernel_rfl) (by kernel_rfl) (fun _ _ _ h => h) (Or.inl ⟨by rfl, ?hf1⟩) hHeld ?rf1
    case hf1 =>
      intro wS hSw
      (try dsimp only at hSw)
      go_simp
      try with_reducible rfl
    case rf1 =>
    simp only [Act.put, List.setIfInBounds_toArray, List.set_cons_zero, List.set_cons_succ]
    refine wpAnyH_take (i := 2) (oi := { dst := some 42, op := Go.Op.load 2 (Go.Operand.tmp 41), type := 2, pos := "l05_session.go:70", after := #[{ on := 1, ground := Go.Ground.data }], guard := none }) (v := ?vf2) rfl (by kernel_rfl) (by kernel_rfl) (by kernel_rfl) (fun _ _ _ h => h) (Or.inl ⟨by rfl, ?hf2⟩) hHeld ?rf2
    case hf2 =>
      intro wS hSw
      have y3 : wS.cell? ⟨w.heap.size, 3, none⟩ = some (.int .i64 x.session) := (hQ12.ext hSw (by omega)).at 3 _ rfl
      have y4 : wS.cell? ⟨w.heap.size, 4, none⟩ = some (.int .i64 x.seq) := (hQ12.ext hSw (by omega)).at 4 _ rfl
      clear hSw
      (try dsimp only at hSw)
      go_simp
      try with_reducible rfl
    case rf2 =>
    simp only [Act.put, List.setIfInBounds_toArray, List.set_cons_zero, List.set_cons_succ]
    refine wpAnyH_take (i := 3) (oi := { dst := some 43, op := Go.Op.move (Go.Operand.tmp 0), type := 252, pos := "l05_session.go:70", after := #[], guard := none }) (v := ?vf3) rfl (by kernel_rfl) (by kernel_rfl) (by kernel_rfl) (fun _ _ _ h => h) (Or.inl ⟨by rfl, ?hf3⟩) hHeld ?rf3
    case hf3 =>
      intro wS hSw
      (try dsimp only at hSw)
      go_simp
      try with_reducible rfl
    case rf3 =>
    simp only [Act.put, List.setIfInBounds_toArray, List.set_cons_zero, List.set_cons_succ]
    refine wpAnyH_take (i := 4) (oi := { dst := some 44, op := Go.Op.fieldAddr 94 (Go.Operand.tmp 3) 3, type := 0, pos := "l05_session.go:70", after := #[], guard := none }) (v := ?vf4) rfl (by kernel_rfl) (by kernel_rfl) (by kernel_rfl) (fun _ _ _ h => h) (Or.inl ⟨by rfl, ?hf4⟩) hHeld ?rf4
    case hf4 =>
      intro wS hSw
      (try dsimp only at hSw)
      go_simp
      try with_reducible rfl
    case rf4 =>
    simp only [Act.put, List.setIfInBounds_toArray, List.set_cons_zero, List.set_cons_succ]
    refine wpAnyH_take (i := 5) (oi := { dst := some 45, op := Go.Op.load 2 (Go.Operand.tmp 44), type := 2, pos := "l05_session.go:70", after := #[{ on := 4, ground := Go.Ground.data }], guard := none }) (v := ?vf5) rfl (by kernel_rfl) (by kernel_rfl) (by kernel_rfl) (fun _ _ _ h => h) (Or.inl ⟨by rfl, ?hf5⟩) hHeld ?rf5
    case hf5 =>
      intro wS hSw
      have y3 : wS.cell? ⟨w.heap.size, 3, none⟩ = some (.int .i64 x.session) := (hQ12.ext hSw (by omega)).at 3 _ rfl
      have y4 : wS.cell? ⟨w.heap.size, 4, none⟩ = some (.int .i64 x.seq) := (hQ12.ext hSw (by omega)).at 4 _ rfl
      clear hSw
      (try dsimp only at hSw)
      go_simp
      try with_reducible rfl
    case rf5 =>
    simp only [Act.put, List.setIfInBounds_toArray, List.set_cons_zero, List.set_cons_succ]
    refine wpAnyH_take (i := 6) (oi := { dst := some 46, op := Go.Op.nilCheck (Go.Operand.tmp 43), type := 0, pos := "l05_session.go:70", after := #[{ on := 3, ground := Go.Ground.data }], guard := none }) (v := ?vf6) rfl (by kernel_rfl) (by kernel_rfl) (by kernel_rfl) (fun _ _ _ h => h) (Or.inl ⟨by rfl, ?hf6⟩) hHeld ?rf6
    case hf6 =>
      intro wS hSw
      (try dsimp only at hSw)
      go_simp
      try with_reducible rfl
    case rf6 =>
    simp only [Act.put, List.setIfInBounds_toArray, List.set_cons_zero, List.set_cons_succ]
    refine wpAnyH_take (i := 7) (oi := { dst := some 47, op := Go.Op.fieldAddr 265 (Go.Operand.tmp 46) 2, type := 0, pos := "l05_session.go:70", after := #[{ on := 6, ground := Go.Ground.data }], guard := none }) (v := ?vf7) rfl (by kernel_rfl) (by kernel_rfl) (by kernel_rfl) (fun _ _ _ h => h) (Or.inl ⟨by rfl, ?hf7⟩) hHeld ?rf7
    case hf7 =>
      intro wS hSw
      (try dsimp only at hSw)
      go_simp
      try with_reducible rfl
    case rf7 =>
    simp only [Act.put, List.setIfInBounds_toArray, List.set_cons_zero, List.set_cons_succ]
    refine wpAnyH_take (i := 8) (oi := { dst := some 48, op := Go.Op.indexAddr 255 (Go.Operand.tmp 47) (Go.Operand.tmp 45), type := 0, pos := "l05_session.go:70", after := #[{ on := 7, ground := Go.Ground.data }, { on := 5, ground := Go.Ground.data }], guard := none }) (v := ?vf8) rfl (by kernel_rfl) (by kernel_rfl) (by kernel_rfl) (fun _ _ _ h => h) (Or.inl ⟨by rfl, ?hf8⟩) hHeld ?rf8
    case hf8 =>
      intro wS hSw
      (try dsimp only at hSw)
      go_simp
      try with_reducible rfl
    case rf8 =>
    simp only [Act.put, List.setIfInBounds_toArray, List.set_cons_zero, List.set_cons_succ]
    refine wpAnyH_take (i := 10) (oi := { dst := some 50, op := Go.Op.fieldAddr 94 (Go.Operand.tmp 3) 4, type := 0, pos := "l05_session.go:70", after := #[], guard := none }) (v := ?vf10) rfl (by kernel_rfl) (by kernel_rfl) (by kernel_rfl) (fun _ _ _ h => h) (Or.inl ⟨by rfl, ?hf10⟩) hHeld ?rf10
    case hf10 =>
      intro wS hSw
      (try dsimp only at hSw)
      go_simp
      try with_reducible rfl
    case rf10 =>
    simp only [Act.put, List.setIfInBounds_toArray, List.set_cons_zero, List.set_cons_succ]
    refine wpAnyH_take (i := 11) (oi := { dst := some 51, op := Go.Op.load 2 (Go.Operand.tmp 50), type := 2, pos := "l05_session.go:70", after := #[{ on := 10, ground := Go.Ground.data }], guard := none }) (v := ?vf11) rfl (by kernel_rfl) (by kernel_rfl) (by kernel_rfl) (fun _ _ _ h => h) (Or.inl ⟨by rfl, ?hf11⟩) hHeld ?rf11
    case hf11 =>
      intro wS hSw
      have y3 : wS.cell? ⟨w.heap.size, 3, none⟩ = some (.int .i64 x.session) := (hQ12.ext hSw (by omega)).at 3 _ rfl
      have y4 : wS.cell? ⟨w.heap.size, 4, none⟩ = some (.int .i64 x.seq) := (hQ12.ext hSw (by omega)).at 4 _ rfl
      clear hSw
      (try dsimp only at hSw)
      go_simp
      try with_reducible rfl
    case rf11 =>
    simp only [Act.put, List.setIfInBounds_toArray, List.set_cons_zero, List.set_cons_succ]
    refine wpAnyH_take (i := 13) (oi := { dst := some 53, op := Go.Op.nilCheck (Go.Operand.tmp 40), type := 0, pos := "l05_session.go:70", after := #[{ on := 0, ground := Go.Ground.data }], guard := none }) (v := ?vf13) rfl (by kernel_rfl) (by kernel_rfl) (by kernel_rfl) (fun _ _ _ h => h) (Or.inl ⟨by rfl, ?hf13⟩) hHeld ?rf13
    case hf13 =>
      intro wS hSw
      (try dsimp only at hSw)
      go_simp
      try with_reducible rfl
    case rf13 =>
    simp only [Act.put, List.setIfInBounds_toArray, List.set_cons_zero, List.set_cons_succ]
    refine wpAnyH_take (i := 14) (oi := { dst := some 54, op := Go.Op.fieldAddr 265 (Go.Operand.tmp 53) 2, type := 0, pos := "l05_session.go:70", after := #[{ on := 13, ground := Go.Ground.data }], guard := none }) (v := ?vf14) rfl (by kernel_rfl) (by kernel_rfl) (by kernel_rfl) (fun _ _ _ h => h) (Or.inl ⟨by rfl, ?hf14⟩) hHeld ?rf14
    case hf14 =>
      intro wS hSw
      (try dsimp only at hSw)
      go_simp
      try with_reducible rfl
    case rf14 =>
    simp only [Act.put, List.setIfInBounds_toArray, List.set_cons_zero, List.set_cons_succ]
    refine wpAnyH_ready (rs := [9]) (by kernel_rfl) (by simp) ?_
    refine AllReadyH.cons (o := { dst := some 49, op := Go.Op.load 2 (Go.Operand.tmp 48), type := 2, pos := "l05_session.go:70", after := #[{ on := 8, ground := Go.Ground.data }], guard := none }) rfl (fun K hK => ?_) AllReadyH.nil
    have zl : wG.cell? ⟨p, 2 + x.session.toNat, none⟩ = some (.int .i64 (lastI ws x.session)) := by
      have := hTG.box.at _ _ (tcells_at (.slice (some ⟨g5, 0, none⟩) (ws.length + 1) cp5) mb (lastI ws) x.session.toNat hs9)
      rwa [hsi] at this
    go_simp
    refine hK.out _ _ hHeld (fun hHeld => ?_)
    clear hK K
    try simp only [Act.put, List.setIfInBounds_toArray, List.set_cons_zero, List.set_cons_succ]
    refine wpAnyH_take (i := 12) (oi := { dst := some 52, op := Go.Op.call { callee := Go.Callee.builtin Go.Builtin.max, args := #[Go.Operand.tmp 49, Go.Operand.tmp 51], argTypes := #[2, 2] }, type := 2, pos := "l05_session.go:70", after := #[{ on := 9, ground := Go.Ground.data }, { on := 11, ground := Go.Ground.data }], guard := none }) (v := ?vf12) rfl (by kernel_rfl) (by kernel_rfl) (by kernel_rfl) (fun _ _ _ h => h) (Or.inl ⟨by rfl, ?hf12⟩) hHeld ?rf12
    case hf12 =>
      intro wS hSw
      (try dsimp only at hSw)
      go_simp
      try with_reducible rfl
    case rf12 =>
    simp only [Act.put, List.setIfInBounds_toArray, List.set_cons_zero, List.set_cons_succ]
    refine wpAnyH_take (i := 15) (oi := { dst := some 55, op := Go.Op.indexAddr 255 (Go.Operand.tmp 54) (Go.Operand.tmp 42), type := 0, pos := "l05_session.go:70", after := #[{ on := 14, ground := Go.Ground.data }, { on := 2, ground := Go.Ground.data }, { on := 0, ground := Go.Ground.phase }, { on := 1, ground := Go.Ground.phase }, { on := 2, ground := Go.Ground.phase }, { on := 3, ground := Go.Ground.phase }, { on := 4, ground := Go.Ground.phase }, { on := 5, ground := Go.Ground.phase }, { on := 6, ground := Go.Ground.phase }, { on := 7, ground := Go.Ground.phase }, { on := 8, ground := Go.Ground.phase }, { on := 9, ground := Go.Ground.phase }, { on := 10, ground := Go.Ground.phase }, { on := 11, ground := Go.Ground.phase }, { on := 12, ground := Go.Ground.phase }], guard := none }) (v := ?vf15) rfl (by kernel_rfl) (by kernel_rfl) (by kernel_rfl) (fun _ _ _ h => h) (Or.inl ⟨by rfl, ?hf15⟩) hHeld ?rf15
    case hf15 =>
      intro wS hSw
      (try dsimp only at hSw)
      go_simp
      try with_reducible rfl
    case rf15 =>
    simp only [Act.put, List.setIfInBounds_toArray, List.set_cons_zero, List.set_cons_succ]
    refine wpAnyH_ready (rs := [16]) (by kernel_rfl) (by simp) ?_
    refine AllReadyH.cons (o := { dst := none, op := Go.Op.store 2 (Go.Operand.tmp 55) (Go.Operand.tmp 52), type := 0, pos := "l05_session.go:70", after := #[{ on := 15, ground := Go.Ground.data }, { on := 12, ground := Go.Ground.data }, { on := 0, ground := Go.Ground.phase }, { on := 1, ground := Go.Ground.phase }, { on := 2, ground := Go.Ground.phase }, { on := 3, ground := Go.Ground.phase }, { on := 4, ground := Go.Ground.phase }, { on := 5, ground := Go.Ground.phase }, { on := 6, ground := Go.Ground.phase }, { on := 7, ground := Go.Ground.phase }, { on := 8, ground := Go.Ground.phase }, { on := 9, ground := Go.Ground.phase }, { on := 10, ground := Go.Ground.phase }, { on := 11, ground := Go.Ground.phase }, { on := 12, ground := Go.Ground.phase }], guard := none }) rfl (fun K hK => ?_) AllReadyH.nil
    have zl : wG.cell? ⟨p, 2 + x.session.toNat, none⟩ = some (.int .i64 (lastI ws x.session)) := by
      have := hTG.box.at _ _ (tcells_at (.slice (some ⟨g5, 0, none⟩) (ws.length + 1) cp5) mb (lastI ws) x.session.toNat hs9)
      rwa [hsi] at this
    have f6 := hTG.box.soft (2 + x.session.toNat)
    have l6 := hTG.box.lt
    go_simp
    refine hK.out _ _ (hHeld.setCell ⟨p, 2 + x.session.toNat, none⟩ _ rfl) (fun hHeld => ?_)
    clear hK K
    try simp only [Act.put, List.setIfInBounds_toArray, List.set_cons_zero, List.set_cons_succ]
    refine wpAnyH_done (by kernel_rfl) ?_ _
    refine NoPanic.normal ?_
    have hTZ := ((hTG.lasted x.session.toNat hs9 ((if lastI ws x.session < x.seq then x.seq else lastI ws x.session))).same (Nat.le_of_eq (unhide hlen).symm) (unhide HLAST) (unhide HSEEN)).top
    have hBZ : Below mb w (wG.setCell ⟨p, 2 + x.session.toNat, none⟩ (.int .i64 ((if lastI ws x.session < x.seq then x.seq else lastI ws x.session)))) := hBG.setCell (by simp; omega) _
    clear hHeld hTG hBG
    generalize wG.setCell ⟨p, 2 + x.session.toNat, none⟩ (.int .i64 (if lastI ws x.session < x.seq then x.seq else lastI ws x.session)) = wZ at hTZ hBZ ⊢
    go_wp2_with fail
    all_goals
      refine bodyPost_end (v := .tuple #[]) (by simp [results, Tryz.results262, go_sem]) rfl ?_
      exact ⟨rfl, ⟨_, _, _, hTZ⟩, hBZ⟩
  · obtain rfl : bs = true := by rw [unhide HBS]; simpa using hsn
    have hseen : ∀ s q : Int, seenI ws s q = seenI (ws ++ [x]) s q := by
      intro s q
      rw [seenI_snoc]
      split
      · rename_i e
        rw [if_neg]
        · exact e
        · rintro ⟨rfl, rfl⟩
          exact hsn e
      · rfl
    have HSEEN := hide hseen
    clear HBS hseen hsn
    go_wp2_with fail
    have hTG : Told0 w9.drew p mb _ ws.length (ws ++ [x]) (lastI ws) (fun s q => seenI ws s q) (.slice (some ⟨g5, 0, none⟩) (ws.length + 1) cp5) (rows ++ [[.int .i64 x.kind, .int .i64 x.id, .slice a2 x.vec.length d2, .int .i64 x.session, .int .i64 x.seq]]) (bls ++ [bl]) := hT9.later (below_drawn (Below.refl _ _) 1)
    have hBG : Below mb w w9.drew := hB9.drew
    refine wp_region_noPanic ?_
    refine wp_region_held_drew (S := fun w' => Ext (fun c => c = p) w9 w') (by kernel_rfl) (Ext.refl _ _).drew3 (fun hHeld => ?_)
    generalize w9.drew = wG at hHeld hTG hBG ⊢
    refine wpAnyH_take (i := 0) (oi := { dst := some 40, op := Go.Op.move (Go.Operand.tmp 0), type := 252, pos := "l05_session.go:70", after := #[], guard := none }) (v := ?vg0) rfl (by kernel_rfl) (by kernel_rfl) (by kernel_rfl) (fun _ _ _ h => h) (Or.inl ⟨by rfl, ?hg0⟩) hHeld ?rg0
    case hg0 =>
      intro wS hSw
      (try dsimp only at hSw)
      go_simp
      try with_reducible rfl
    case rg0 =>
    simp only [Act.put, List.setIfInBounds_toArray, List.set_cons_zero, List.set_cons_succ]
    refine wpAnyH_take (i := 1) (oi := { dst := some 41, op := Go.Op.fieldAddr 94 (Go.Operand.tmp 3) 3, type := 0, pos := "l05_session.go:70", after := #[], guard := none }) (v := ?vg1) rfl (by kernel_rfl) (by kernel_rfl) (by kernel_rfl) (fun _ _ _ h => h) (Or.inl ⟨by rfl, ?hg1⟩) hHeld ?rg1
    case hg1 =>
      intro wS hSw
      (try dsimp only at hSw)
      go_simp
      try with_reducible rfl
    case rg1 =>
    simp only [Act.put, List.setIfInBounds_toArray, List.set_cons_zero, List.set_cons_succ]
    refine wpAnyH_take (i := 2) (oi := { dst := some 42, op := Go.Op.load 2 (Go.Operand.tmp 41), type := 2, pos := "l05_session.go:70", after := #[{ on := 1, ground := Go.Ground.data }], guard := none }) (v := ?vg2) rfl (by kernel_rfl) (by kernel_rfl) (by kernel_rfl) (fun _ _ _ h => h) (Or.inl ⟨by rfl, ?hg2⟩) hHeld ?rg2
    case hg2 =>
      intro wS hSw
      have y3 : wS.cell? ⟨w.heap.size, 3, none⟩ = some (.int .i64 x.session) := (hQ9.ext hSw (by omega)).at 3 _ rfl
      have y4 : wS.cell? ⟨w.heap.size, 4, none⟩ = some (.int .i64 x.seq) := (hQ9.ext hSw (by omega)).at 4 _ rfl
      clear hSw
      (try dsimp only at hSw)
      go_simp
      try with_reducible rfl
    case rg2 =>
    simp only [Act.put, List.setIfInBounds_toArray, List.set_cons_zero, List.set_cons_succ]
    refine wpAnyH_take (i := 3) (oi := { dst := some 43, op := Go.Op.move (Go.Operand.tmp 0), type := 252, pos := "l05_session.go:70", after := #[], guard := none }) (v := ?vg3) rfl (by kernel_rfl) (by kernel_rfl) (by kernel_rfl) (fun _ _ _ h => h) (Or.inl ⟨by rfl, ?hg3⟩) hHeld ?rg3
    case hg3 =>
      intro wS hSw
      (try dsimp only at hSw)
      go_simp
      try with_reducible rfl
    case rg3 =>
    simp only [Act.put, List.setIfInBounds_toArray, List.set_cons_zero, List.set_cons_succ]
    refine wpAnyH_take (i := 4) (oi := { dst := some 44, op := Go.Op.fieldAddr 94 (Go.Operand.tmp 3) 3, type := 0, pos := "l05_session.go:70", after := #[], guard := none }) (v := ?vg4) rfl (by kernel_rfl) (by kernel_rfl) (by kernel_rfl) (fun _ _ _ h => h) (Or.inl ⟨by rfl, ?hg4⟩) hHeld ?rg4
    case hg4 =>
      intro wS hSw
      (try dsimp only at hSw)
      go_simp
      try with_reducible rfl
    case rg4 =>
    simp only [Act.put, List.setIfInBounds_toArray, List.set_cons_zero, List.set_cons_succ]
    refine wpAnyH_take (i := 5) (oi := { dst := some 45, op := Go.Op.load 2 (Go.Operand.tmp 44), type := 2, pos := "l05_session.go:70", after := #[{ on := 4, ground := Go.Ground.data }], guard := none }) (v := ?vg5) rfl (by kernel_rfl) (by kernel_rfl) (by kernel_rfl) (fun _ _ _ h => h) (Or.inl ⟨by rfl, ?hg5⟩) hHeld ?rg5
    case hg5 =>
      intro wS hSw
      have y3 : wS.cell? ⟨w.heap.size, 3, none⟩ = some (.int .i64 x.session) := (hQ9.ext hSw (by omega)).at 3 _ rfl
      have y4 : wS.cell? ⟨w.heap.size, 4, none⟩ = some (.int .i64 x.seq) := (hQ9.ext hSw (by omega)).at 4 _ rfl
      clear hSw
      (try dsimp only at hSw)
      go_simp
      try with_reducible rfl
    case rg5 =>
    simp only [Act.put, List.setIfInBounds_toArray, List.set_cons_zero, List.set_cons_succ]
    refine wpAnyH_take (i := 6) (oi := { dst := some 46, op := Go.Op.nilCheck (Go.Operand.tmp 43), type := 0, pos := "l05_session.go:70", after := #[{ on := 3, ground := Go.Ground.data }], guard := none }) (v := ?vg6) rfl (by kernel_rfl) (by kernel_rfl) (by kernel_rfl) (fun _ _ _ h => h) (Or.inl ⟨by rfl, ?hg6⟩) hHeld ?rg6
    case hg6 =>
      intro wS hSw
      (try dsimp only at hSw)
      go_simp
      try with_reducible rfl
    case rg6 =>
    simp only [Act.put, List.setIfInBounds_toArray, List.set_cons_zero, List.set_cons_succ]
    refine wpAnyH_take (i := 7) (oi := { dst := some 47, op := Go.Op.fieldAddr 265 (Go.Operand.tmp 46) 2, type := 0, pos := "l05_session.go:70", after := #[{ on := 6, ground := Go.Ground.data }], guard := none }) (v := ?vg7) rfl (by kernel_rfl) (by kernel_rfl) (by kernel_rfl) (fun _ _ _ h => h) (Or.inl ⟨by rfl, ?hg7⟩) hHeld ?rg7
    case hg7 =>
      intro wS hSw
      (try dsimp only at hSw)
      go_simp
      try with_reducible rfl
    case rg7 =>
    simp only [Act.put, List.setIfInBounds_toArray, List.set_cons_zero, List.set_cons_succ]
    refine wpAnyH_take (i := 8) (oi := { dst := some 48, op := Go.Op.indexAddr 255 (Go.Operand.tmp 47) (Go.Operand.tmp 45), type := 0, pos := "l05_session.go:70", after := #[{ on := 7, ground := Go.Ground.data }, { on := 5, ground := Go.Ground.data }], guard := none }) (v := ?vg8) rfl (by kernel_rfl) (by kernel_rfl) (by kernel_rfl) (fun _ _ _ h => h) (Or.inl ⟨by rfl, ?hg8⟩) hHeld ?rg8
    case hg8 =>
      intro wS hSw
      (try dsimp only at hSw)
      go_simp
      try with_reducible rfl
    case rg8 =>
    simp only [Act.put, List.setIfInBounds_toArray, List.set_cons_zero, List.set_cons_succ]
    refine wpAnyH_take (i := 10) (oi := { dst := some 50, op := Go.Op.fieldAddr 94 (Go.Operand.tmp 3) 4, type := 0, pos := "l05_session.go:70", after := #[], guard := none }) (v := ?vg10) rfl (by kernel_rfl) (by kernel_rfl) (by kernel_rfl) (fun _ _ _ h => h) (Or.inl ⟨by rfl, ?hg10⟩) hHeld ?rg10
    case hg10 =>
      intro wS hSw
      (try dsimp only at hSw)
      go_simp
      try with_reducible rfl
    case rg10 =>
    simp only [Act.put, List.setIfInBounds_toArray, List.set_cons_zero, List.set_cons_succ]
    refine wpAnyH_take (i := 11) (oi := { dst := some 51, op := Go.Op.load 2 (Go.Operand.tmp 50), type := 2, pos := "l05_session.go:70", after := #[{ on := 10, ground := Go.Ground.data }], guard := none }) (v := ?vg11) rfl (by kernel_rfl) (by kernel_rfl) (by kernel_rfl) (fun _ _ _ h => h) (Or.inl ⟨by rfl, ?hg11⟩) hHeld ?rg11
    case hg11 =>
      intro wS hSw
      have y3 : wS.cell? ⟨w.heap.size, 3, none⟩ = some (.int .i64 x.session) := (hQ9.ext hSw (by omega)).at 3 _ rfl
      have y4 : wS.cell? ⟨w.heap.size, 4, none⟩ = some (.int .i64 x.seq) := (hQ9.ext hSw (by omega)).at 4 _ rfl
      clear hSw
      (try dsimp only at hSw)
      go_simp
      try with_reducible rfl
    case rg11 =>
    simp only [Act.put, List.setIfInBounds_toArray, List.set_cons_zero, List.set_cons_succ]
    refine wpAnyH_take (i := 13) (oi := { dst := some 53, op := Go.Op.nilCheck (Go.Operand.tmp 40), type := 0, pos := "l05_session.go:70", after := #[{ on := 0, ground := Go.Ground.data }], guard := none }) (v := ?vg13) rfl (by kernel_rfl) (by kernel_rfl) (by kernel_rfl) (fun _ _ _ h => h) (Or.inl ⟨by rfl, ?hg13⟩) hHeld ?rg13
    case hg13 =>
      intro wS hSw
      (try dsimp only at hSw)
      go_simp
      try with_reducible rfl
    case rg13 =>
    simp only [Act.put, List.setIfInBounds_toArray, List.set_cons_zero, List.set_cons_succ]
    refine wpAnyH_take (i := 14) (oi := { dst := some 54, op := Go.Op.fieldAddr 265 (Go.Operand.tmp 53) 2, type := 0, pos := "l05_session.go:70", after := #[{ on := 13, ground := Go.Ground.data }], guard := none }) (v := ?vg14) rfl (by kernel_rfl) (by kernel_rfl) (by kernel_rfl) (fun _ _ _ h => h) (Or.inl ⟨by rfl, ?hg14⟩) hHeld ?rg14
    case hg14 =>
      intro wS hSw
      (try dsimp only at hSw)
      go_simp
      try with_reducible rfl
    case rg14 =>
    simp only [Act.put, List.setIfInBounds_toArray, List.set_cons_zero, List.set_cons_succ]
    refine wpAnyH_ready (rs := [9]) (by kernel_rfl) (by simp) ?_
    refine AllReadyH.cons (o := { dst := some 49, op := Go.Op.load 2 (Go.Operand.tmp 48), type := 2, pos := "l05_session.go:70", after := #[{ on := 8, ground := Go.Ground.data }], guard := none }) rfl (fun K hK => ?_) AllReadyH.nil
    have zl : wG.cell? ⟨p, 2 + x.session.toNat, none⟩ = some (.int .i64 (lastI ws x.session)) := by
      have := hTG.box.at _ _ (tcells_at (.slice (some ⟨g5, 0, none⟩) (ws.length + 1) cp5) mb (lastI ws) x.session.toNat hs9)
      rwa [hsi] at this
    go_simp
    refine hK.out _ _ hHeld (fun hHeld => ?_)
    clear hK K
    try simp only [Act.put, List.setIfInBounds_toArray, List.set_cons_zero, List.set_cons_succ]
    refine wpAnyH_take (i := 12) (oi := { dst := some 52, op := Go.Op.call { callee := Go.Callee.builtin Go.Builtin.max, args := #[Go.Operand.tmp 49, Go.Operand.tmp 51], argTypes := #[2, 2] }, type := 2, pos := "l05_session.go:70", after := #[{ on := 9, ground := Go.Ground.data }, { on := 11, ground := Go.Ground.data }], guard := none }) (v := ?vg12) rfl (by kernel_rfl) (by kernel_rfl) (by kernel_rfl) (fun _ _ _ h => h) (Or.inl ⟨by rfl, ?hg12⟩) hHeld ?rg12
    case hg12 =>
      intro wS hSw
      (try dsimp only at hSw)
      go_simp
      try with_reducible rfl
    case rg12 =>
    simp only [Act.put, List.setIfInBounds_toArray, List.set_cons_zero, List.set_cons_succ]
    refine wpAnyH_take (i := 15) (oi := { dst := some 55, op := Go.Op.indexAddr 255 (Go.Operand.tmp 54) (Go.Operand.tmp 42), type := 0, pos := "l05_session.go:70", after := #[{ on := 14, ground := Go.Ground.data }, { on := 2, ground := Go.Ground.data }, { on := 0, ground := Go.Ground.phase }, { on := 1, ground := Go.Ground.phase }, { on := 2, ground := Go.Ground.phase }, { on := 3, ground := Go.Ground.phase }, { on := 4, ground := Go.Ground.phase }, { on := 5, ground := Go.Ground.phase }, { on := 6, ground := Go.Ground.phase }, { on := 7, ground := Go.Ground.phase }, { on := 8, ground := Go.Ground.phase }, { on := 9, ground := Go.Ground.phase }, { on := 10, ground := Go.Ground.phase }, { on := 11, ground := Go.Ground.phase }, { on := 12, ground := Go.Ground.phase }], guard := none }) (v := ?vg15) rfl (by kernel_rfl) (by kernel_rfl) (by kernel_rfl) (fun _ _ _ h => h) (Or.inl ⟨by rfl, ?hg15⟩) hHeld ?rg15
    case hg15 =>
      intro wS hSw
      (try dsimp only at hSw)
      go_simp
      try with_reducible rfl
    case rg15 =>
    simp only [Act.put, List.setIfInBounds_toArray, List.set_cons_zero, List.set_cons_succ]
    refine wpAnyH_ready (rs := [16]) (by kernel_rfl) (by simp) ?_
    refine AllReadyH.cons (o := { dst := none, op := Go.Op.store 2 (Go.Operand.tmp 55) (Go.Operand.tmp 52), type := 0, pos := "l05_session.go:70", after := #[{ on := 15, ground := Go.Ground.data }, { on := 12, ground := Go.Ground.data }, { on := 0, ground := Go.Ground.phase }, { on := 1, ground := Go.Ground.phase }, { on := 2, ground := Go.Ground.phase }, { on := 3, ground := Go.Ground.phase }, { on := 4, ground := Go.Ground.phase }, { on := 5, ground := Go.Ground.phase }, { on := 6, ground := Go.Ground.phase }, { on := 7, ground := Go.Ground.phase }, { on := 8, ground := Go.Ground.phase }, { on := 9, ground := Go.Ground.phase }, { on := 10, ground := Go.Ground.phase }, { on := 11, ground := Go.Ground.phase }, { on := 12, ground := Go.Ground.phase }], guard := none }) rfl (fun K hK => ?_) AllReadyH.nil
    have zl : wG.cell? ⟨p, 2 + x.session.toNat, none⟩ = some (.int .i64 (lastI ws x.session)) := by
      have := hTG.box.at _ _ (tcells_at (.slice (some ⟨g5, 0, none⟩) (ws.length + 1) cp5) mb (lastI ws) x.session.toNat hs9)
      rwa [hsi] at this
    have f6 := hTG.box.soft (2 + x.session.toNat)
    have l6 := hTG.box.lt
    go_simp
    refine hK.out _ _ (hHeld.setCell ⟨p, 2 + x.session.toNat, none⟩ _ rfl) (fun hHeld => ?_)
    clear hK K
    try simp only [Act.put, List.setIfInBounds_toArray, List.set_cons_zero, List.set_cons_succ]
    refine wpAnyH_done (by kernel_rfl) ?_ _
    refine NoPanic.normal ?_
    have hTZ := ((hTG.lasted x.session.toNat hs9 ((if lastI ws x.session < x.seq then x.seq else lastI ws x.session))).same (n' := (ws ++ [x]).length) (by rw [unhide hlen]; omega) (unhide HLAST) (unhide HSEEN)).top
    have hBZ : Below mb w (wG.setCell ⟨p, 2 + x.session.toNat, none⟩ (.int .i64 ((if lastI ws x.session < x.seq then x.seq else lastI ws x.session)))) := hBG.setCell (by simp; omega) _
    clear hHeld hTG hBG
    generalize wG.setCell ⟨p, 2 + x.session.toNat, none⟩ (.int .i64 (if lastI ws x.session < x.seq then x.seq else lastI ws x.session)) = wZ at hTZ hBZ ⊢
    go_wp2_with fail
    all_goals
      refine bodyPost_end (v := .tuple #[]) (by simp [results, Tryz.results262, go_sem]) rfl ?_
      exact ⟨rfl, ⟨_, _, _, hTZ⟩, hBZ⟩

end Go.Proofs.YtdnhmoppineegaaGreat

namespace Go.Proofs.YtdnhmoppineegaaGreat
open Go.RowKit

theorem bcell {W w1 : World} (hb : Below W.heap.size W w1) : (∀ b o, b < W.heap.size → w1.cell? ⟨b, o, none⟩ = W.cell? ⟨b, o, none⟩) ∧ (∀ b o, b < W.heap.size → w1.frozen? ⟨b, o, none⟩ = W.frozen? ⟨b, o, none⟩) :=
  ⟨fun b o h => hb.cell (p := ⟨b, o, none⟩) h, fun b o h => hb.frozen (p := ⟨b, o, none⟩) h⟩

/-- Two blocks of three cells that were laid ahead of a call are there behind it, and may be written. -/
theorem two_kept {w w1 : World} {T : TypeId} {x0 x1 x2 y0 y1 y2 : Value} (hb : Below ((w.alloc (.cells #[x0, x1, x2] T)).alloc (.cells #[y0, y1, y2] T)).heap.size ((w.alloc (.cells #[x0, x1, x2] T)).alloc (.cells #[y0, y1, y2] T)) w1) :
    (w1.cell? ⟨w.heap.size, 0, none⟩ = some x0 ∧ w1.cell? ⟨w.heap.size, 1, none⟩ = some x1 ∧ w1.cell? ⟨w.heap.size, 2, none⟩ = some x2) ∧
    (w1.cell? ⟨w.heap.size + 1, 0, none⟩ = some y0 ∧ w1.cell? ⟨w.heap.size + 1, 1, none⟩ = some y1 ∧ w1.cell? ⟨w.heap.size + 1, 2, none⟩ = some y2) ∧
    (∀ o, w1.frozen? ⟨w.heap.size, o, none⟩ = false) ∧ (∀ o, w1.frozen? ⟨w.heap.size + 1, o, none⟩ = false) := by
  refine ⟨⟨?_, ?_, ?_⟩, ⟨?_, ?_, ?_⟩, fun o => ?_, fun o => ?_⟩
  all_goals first | rw [hb.cell (by simp [World.size_alloc]; try omega)] | rw [hb.frozen (by simp [World.size_alloc]; try omega)]
  all_goals simp [go_sem]

/-- Three numbers as an array. -/
def arr3 (x y z : Int) : Value := .agg #[.int .i64 x, .int .i64 y, .int .i64 z]

theorem IsInts.three {w : World} {v : Value} {zs : List Int} (h : IsInts w v zs) (h3 : zs.length = 3) :
    ∃ b off cap x y z, zs = [x, y, z] ∧ v = .slice (some ⟨b, off, none⟩) 3 cap ∧ b < w.heap.size ∧ w.cell? ⟨b, off, none⟩ = some (.int .i64 x) ∧ w.cell? ⟨b, off + 1, none⟩ = some (.int .i64 y) ∧ w.cell? ⟨b, off + 2, none⟩ = some (.int .i64 z) := by
  obtain ⟨ao, cap, rfl, hwf, hc⟩ := h
  match zs, h3 with
  | [x, y, z], _ =>
    obtain ⟨b, off, rfl, hc1⟩ := hc (by simp)
    have c0 := hc1 0 (by simp)
    have c1 := hc1 1 (by simp)
    have c2 := hc1 2 (by simp)
    exact ⟨b, off, cap, x, y, z, rfl, rfl, World.block_lt_of_cell? _ _ c0, c0, c1, c2⟩

set_option maxHeartbeats 400000 in
theorem vectorOf_bad (v : Value) (zs : List Int) (w : World) (h : IsInts w v zs) (hf : vecFault zs ≠ 0) :
    Calls Tryz.prog 261 #[v] w fun e w' => e = .returned (.tuple #[arr3 0 0 0, .int .i64 (vecFault zs)]) ∧ Below w.heap.size w w' := by
  go_enter Tryz.func261, Tryz.ntmps261
  go_wp2_with fail
  refine (implFault v zs _ (h.later (((Below.refl _ _).alloc (Nat.le_refl _) _).alloc (by simp) _))).mono ?_
  rintro e w' ⟨rfl, rfl⟩
  have hne : (vecFault zs != 0) = true := by rw [bne_iff_ne]; exact hf
  go_wp2_with fail
  refine bodyPost_ret (v := .tuple #[arr3 0 0 0, .int .i64 (vecFault zs)]) (by simp [results, Tryz.results261, go_sem, arr3]) rfl ⟨rfl, ?_⟩
  exact ((Below.refl _ _).alloc (Nat.le_refl _) _).alloc (by simp) _

set_option maxHeartbeats 1000000 in
theorem vectorOf_three (b off cap : Nat) (x y z : Int) (w : World) (hbl : b < w.heap.size) (c0 : w.cell? ⟨b, off, none⟩ = some (.int .i64 x)) (c1 : w.cell? ⟨b, off + 1, none⟩ = some (.int .i64 y)) (c2 : w.cell? ⟨b, off + 2, none⟩ = some (.int .i64 z))
    (h : IsInts w (.slice (some ⟨b, off, none⟩) 3 cap) [x, y, z]) (hf : vecFault [x, y, z] = 0) :
    Calls Tryz.prog 261 #[.slice (some ⟨b, off, none⟩) 3 cap] w fun e w' => e = .returned (.tuple #[arr3 x y z, .int .i64 0]) ∧ Below w.heap.size w w' := by
  go_enter Tryz.func261, Tryz.ntmps261
  go_wp2_with fail
  refine (implFault _ [x, y, z] _ (h.later (((Below.refl _ _).alloc (Nat.le_refl _) _).alloc (by simp) _))).mono ?_
  rintro e w' ⟨rfl, rfl⟩
  rw [hf]
  clear h hf
  go_wp2_with fail
  refine wp_loop_rounds 4 ?_
  rw [rounds_succ]
  go_wp2
  rw [rounds_succ]
  go_wp2
  rw [rounds_succ]
  go_wp2
  rw [rounds_succ]
  go_wp2
  refine bodyPost_ret (v := .tuple #[arr3 x y z, .int .i64 0]) (by simp [results, Tryz.results261, go_sem, arr3]) rfl ⟨rfl, ?_⟩
  exact ((Below.refl _ _).alloc (Nat.le_refl _) _).alloc (by simp) _

theorem vectorOf_ok (v : Value) (x y z : Int) (w : World) (h : IsInts w v [x, y, z]) (hf : vecFault [x, y, z] = 0) :
    Calls Tryz.prog 261 #[v] w fun e w' => e = .returned (.tuple #[arr3 x y z, .int .i64 0]) ∧ Below w.heap.size w w' := by
  obtain ⟨b, off, cap, x', y', z', he, rfl, hbl, c0, c1, c2⟩ := h.three rfl
  simp only [List.cons.injEq, and_true] at he
  obtain ⟨rfl, rfl, rfl⟩ := he
  exact vectorOf_three b off cap x y z w hbl c0 c1 c2 h hf

end Go.Proofs.YtdnhmoppineegaaGreat

namespace Go.Proofs.YtdnhmoppineegaaGreat
open Go.RowKit

/-- A put of three parts, and a drop, as deeds. -/
def putV (x y z : Int) : Value := .iface 262 (.agg #[.int .i64 x, .int .i64 y, .int .i64 z])
def dropV : Value := .iface 257 (.agg #[])
def deedV (k : Int) (zs : List Int) : Value := if k = 1 then putV (zs.getD 0 0) (zs.getD 1 0) (zs.getD 2 0) else dropV
def deedRes (k i : Int) (zs : List Int) (s q : Int) : Value := if writeFault k i zs s q = 0 then deedV k zs else .nilIface

def Bds (i s q : Int) : Prop := (1 ≤ i ∧ i ≤ 999) ∧ (1 ≤ s ∧ s ≤ 9) ∧ 1 ≤ q ∧ q ≤ 999
theorem bound_yes {i s q : Int} (h : Bds i s q) : boundB i s q = true := by
  obtain ⟨⟨a, b⟩, ⟨c, d⟩, e, f⟩ := h
  simp [boundB, a, b, c, d, e, f]
theorem bound_no {i s q : Int} (h : ¬ Bds i s q) : boundB i s q = false := by
  rw [Bool.eq_false_iff]
  intro hb
  simp only [boundB, Bool.and_eq_true, decide_eq_true_eq] at hb
  exact h ⟨hb.1, hb.2.1, hb.2.2⟩
theorem fault_out {k i s q : Int} {zs : List Int} (hk : kindB k zs.length = true) (h : ¬ Bds i s q) : writeFault k i zs s q = 3 := by
  rw [writeFault, hk, if_pos rfl, bound_no h]; rfl
theorem fault_drop {i s q : Int} (h : Bds i s q) : writeFault 2 i [] s q = 0 := by
  rw [writeFault, show kindB 2 ([] : List Int).length = true from rfl, if_pos rfl, bound_yes h]; rfl
theorem fault_in {k i s q : Int} {zs : List Int} (hk : kindB k zs.length = true) (h : Bds i s q) : writeFault k i zs s q = if k = 1 then vecFault zs else 0 := by
  rw [writeFault, hk, if_pos rfl, bound_yes h, if_pos rfl]

def ToldDeed (w w' : World) (e : Ending) (k i : Int) (zs : List Int) (s q : Int) : Prop := e = .returned (.tuple #[deedRes k i zs s q, .int .i64 (writeFault k i zs s q)]) ∧ Below w.heap.size w w'
theorem toldDeed_bad {w w' : World} {k i s q c : Int} {zs : List Int} (hc : writeFault k i zs s q = c) (h0 : c ≠ 0) (hb : Below w.heap.size w w') : ToldDeed w w' (.returned (.tuple #[.nilIface, .int .i64 c])) k i zs s q := by
  refine ⟨?_, hb⟩
  rw [deedRes, hc, if_neg h0]
theorem toldDeed_ok {w w' : World} {k i s q : Int} {zs : List Int} {v : Value} (hc : writeFault k i zs s q = 0) (hv : v = deedV k zs) (hb : Below w.heap.size w w') : ToldDeed w w' (.returned (.tuple #[v, .int .i64 0])) k i zs s q := by
  refine ⟨?_, hb⟩
  rw [deedRes, hc, if_pos rfl, hv]

theorem isIdC (n : Int) (w : World) : Calls Tryz.prog 258 #[.int .i64 n] w fun e w' => e = .returned (.bool (decide (1 ≤ n) && decide (n ≤ 999))) ∧ w' = w := by
  by_cases h1 : 1 ≤ n
  · have d1 : decide (1 ≤ n) = true := by simpa using h1
    rw [d1]
    cases d2 : decide (n ≤ 999) <;>
    · go_enter Tryz.func258, Tryz.ntmps258
      go_wp2
      go_ret
      exact ⟨rfl, rfl⟩
  · have d1 : decide (1 ≤ n) = false := by simpa using h1
    rw [d1]
    go_enter Tryz.func258, Tryz.ntmps258
    go_wp2
    go_ret
    exact ⟨rfl, rfl⟩
theorem isSessionC (n : Int) (w : World) : Calls Tryz.prog 259 #[.int .i64 n] w fun e w' => e = .returned (.bool (decide (1 ≤ n) && decide (n ≤ 9))) ∧ w' = w := by
  by_cases h1 : 1 ≤ n
  · have d1 : decide (1 ≤ n) = true := by simpa using h1
    rw [d1]
    cases d2 : decide (n ≤ 9) <;>
    · go_enter Tryz.func259, Tryz.ntmps259
      go_wp2
      go_ret
      exact ⟨rfl, rfl⟩
  · have d1 : decide (1 ≤ n) = false := by simpa using h1
    rw [d1]
    go_enter Tryz.func259, Tryz.ntmps259
    go_wp2
    go_ret
    exact ⟨rfl, rfl⟩
theorem isSeqC (n : Int) (w : World) : Calls Tryz.prog 260 #[.int .i64 n] w fun e w' => e = .returned (.bool (decide (1 ≤ n) && decide (n ≤ 999))) ∧ w' = w := by
  by_cases h1 : 1 ≤ n
  · have d1 : decide (1 ≤ n) = true := by simpa using h1
    rw [d1]
    cases d2 : decide (n ≤ 999) <;>
    · go_enter Tryz.func260, Tryz.ntmps260
      go_wp2
      go_ret
      exact ⟨rfl, rfl⟩
  · have d1 : decide (1 ≤ n) = false := by simpa using h1
    rw [d1]
    go_enter Tryz.func260, Tryz.ntmps260
    go_wp2
    go_ret
    exact ⟨rfl, rfl⟩

set_option maxHeartbeats 2000000 in
theorem deedOf_put_out (i : Int) (ao : Option Addr) (cap : Nat) (s q : Int) (zs : List Int) (w : World) (hb : ¬ Bds i s q) :
    Calls Tryz.prog 254 #[.agg #[.int .i64 1, .int .i64 i, .slice ao zs.length cap, .int .i64 s, .int .i64 q]] w fun e w' => ToldDeed w w' e 1 i zs s q := by
  have HB : Hid (∀ o, Below w.heap.size w (w.alloc o)) := fun o => (Below.refl _ _).alloc (Nat.le_refl _) o
  have HF : Hid (writeFault 1 i zs s q = 3) := fault_out rfl hb
  have hbb := bound_no hb
  unfold boundB at hbb
  clear hb
  cases dI : (decide (1 ≤ i) && decide (i ≤ 999)) with
  | false =>
    clear hbb
    go_enter Tryz.func254, Tryz.ntmps254
    go_wp2_with fail
    refine (isIdC i _).mono ?_
    rintro e w1 ⟨rfl, rfl⟩
    rw [dI]
    go_wp2_with fail
    go_ret2
    exact toldDeed_bad (unhide HF) (by omega) (unhide HB _)
  | true =>
    cases dS : (decide (1 ≤ s) && decide (s ≤ 9)) with
    | false =>
      clear hbb
      go_enter Tryz.func254, Tryz.ntmps254
      go_wp2_with fail
      refine (isIdC i _).mono ?_
      rintro e w1 ⟨rfl, rfl⟩
      rw [dI]
      go_wp2_with fail
      refine (isSessionC s _).mono ?_
      rintro e w1 ⟨rfl, rfl⟩
      rw [dS]
      go_wp2_with fail
      go_ret2
      exact toldDeed_bad (unhide HF) (by omega) (unhide HB _)
    | true =>
      have dQ : (decide (1 ≤ q) && decide (q ≤ 999)) = false := by rw [dI, dS] at hbb; simpa using hbb
      clear hbb
      go_enter Tryz.func254, Tryz.ntmps254
      go_wp2_with fail
      refine (isIdC i _).mono ?_
      rintro e w1 ⟨rfl, rfl⟩
      rw [dI]
      go_wp2_with fail
      refine (isSessionC s _).mono ?_
      rintro e w1 ⟨rfl, rfl⟩
      rw [dS]
      go_wp2_with fail
      refine (isSeqC q _).mono ?_
      rintro e w1 ⟨rfl, rfl⟩
      rw [dQ]
      go_wp2_with fail
      go_ret2
      exact toldDeed_bad (unhide HF) (by omega) (unhide HB _)

set_option maxHeartbeats 2000000 in
theorem deedOf_drop_out (i : Int) (ao : Option Addr) (cap : Nat) (s q : Int) (w : World) (hb : ¬ Bds i s q) :
    Calls Tryz.prog 254 #[.agg #[.int .i64 2, .int .i64 i, .slice ao 0 cap, .int .i64 s, .int .i64 q]] w fun e w' => ToldDeed w w' e 2 i [] s q := by
  have HB : Hid (∀ o, Below w.heap.size w (w.alloc o)) := fun o => (Below.refl _ _).alloc (Nat.le_refl _) o
  have HF : Hid (writeFault 2 i [] s q = 3) := fault_out rfl hb
  have hbb := bound_no hb
  unfold boundB at hbb
  clear hb
  cases dI : (decide (1 ≤ i) && decide (i ≤ 999)) with
  | false =>
    clear hbb
    go_enter Tryz.func254, Tryz.ntmps254
    go_wp2_with fail
    refine (isIdC i _).mono ?_
    rintro e w1 ⟨rfl, rfl⟩
    rw [dI]
    go_wp2_with fail
    go_ret2
    exact toldDeed_bad (unhide HF) (by omega) (unhide HB _)
  | true =>
    cases dS : (decide (1 ≤ s) && decide (s ≤ 9)) with
    | false =>
      clear hbb
      go_enter Tryz.func254, Tryz.ntmps254
      go_wp2_with fail
      refine (isIdC i _).mono ?_
      rintro e w1 ⟨rfl, rfl⟩
      rw [dI]
      go_wp2_with fail
      refine (isSessionC s _).mono ?_
      rintro e w1 ⟨rfl, rfl⟩
      rw [dS]
      go_wp2_with fail
      go_ret2
      exact toldDeed_bad (unhide HF) (by omega) (unhide HB _)
    | true =>
      have dQ : (decide (1 ≤ q) && decide (q ≤ 999)) = false := by rw [dI, dS] at hbb; simpa using hbb
      clear hbb
      go_enter Tryz.func254, Tryz.ntmps254
      go_wp2_with fail
      refine (isIdC i _).mono ?_
      rintro e w1 ⟨rfl, rfl⟩
      rw [dI]
      go_wp2_with fail
      refine (isSessionC s _).mono ?_
      rintro e w1 ⟨rfl, rfl⟩
      rw [dS]
      go_wp2_with fail
      refine (isSeqC q _).mono ?_
      rintro e w1 ⟨rfl, rfl⟩
      rw [dQ]
      go_wp2_with fail
      go_ret2
      exact toldDeed_bad (unhide HF) (by omega) (unhide HB _)

set_option maxHeartbeats 2000000 in
theorem deedOf_drop (i : Int) (ao : Option Addr) (cap : Nat) (s q : Int) (w : World) (hb : Bds i s q) :
    Calls Tryz.prog 254 #[.agg #[.int .i64 2, .int .i64 i, .slice ao 0 cap, .int .i64 s, .int .i64 q]] w fun e w' => ToldDeed w w' e 2 i [] s q := by
  have HB : Hid (∀ o, Below w.heap.size w (w.alloc o)) := fun o => (Below.refl _ _).alloc (Nat.le_refl _) o
  have HF : Hid (writeFault 2 i [] s q = 0) := fault_drop hb
  obtain ⟨⟨i1, i2⟩, ⟨s1, s2⟩, q1, q2⟩ := hb
  have dI : (decide (1 ≤ i) && decide (i ≤ 999)) = true := by simp [i1, i2]
  have dS : (decide (1 ≤ s) && decide (s ≤ 9)) = true := by simp [s1, s2]
  have dQ : (decide (1 ≤ q) && decide (q ≤ 999)) = true := by simp [q1, q2]
  go_enter Tryz.func254, Tryz.ntmps254
  go_wp2_with fail
  refine (isIdC i _).mono ?_
  rintro e w1 ⟨rfl, rfl⟩
  rw [dI]
  go_wp2_with fail
  refine (isSessionC s _).mono ?_
  rintro e w1 ⟨rfl, rfl⟩
  rw [dS]
  go_wp2_with fail
  refine (isSeqC q _).mono ?_
  rintro e w1 ⟨rfl, rfl⟩
  rw [dQ]
  go_wp2_with fail
  go_ret2
  exact toldDeed_ok (unhide HF) rfl (unhide HB _)

set_option maxHeartbeats 1000000 in
theorem deedOf_many (i : Int) (ao : Option Addr) (cap n : Nat) (s q : Int) (zs : List Int) (w : World) (hn : zs.length = n + 1) :
    Calls Tryz.prog 254 #[.agg #[.int .i64 2, .int .i64 i, .slice ao (n + 1) cap, .int .i64 s, .int .i64 q]] w fun e w' => ToldDeed w w' e 2 i zs s q := by
  have B0 : ∀ o, Below w.heap.size w (w.alloc o) := fun o => (Below.refl _ _).alloc (Nat.le_refl _) o
  have HB := hide B0
  have hF : writeFault 2 i zs s q = 1 := by
    have : kindB 2 zs.length = false := by simp [kindB]; omega
    rw [writeFault, this]; rfl
  have HF := hide hF
  clear B0 hF hn
  go_enter Tryz.func254, Tryz.ntmps254
  go_wp2
  go_ret2
  exact toldDeed_bad (unhide HF) (by omega) (unhide HB _)

set_option maxHeartbeats 1000000 in
theorem deedOf_none (k i : Int) (ao : Option Addr) (cap : Nat) (s q : Int) (zs : List Int) (w : World) (h1 : k ≠ 1) (h2 : k ≠ 2) :
    Calls Tryz.prog 254 #[.agg #[.int .i64 k, .int .i64 i, .slice ao zs.length cap, .int .i64 s, .int .i64 q]] w fun e w' => ToldDeed w w' e k i zs s q := by
  have B0 : ∀ o, Below w.heap.size w (w.alloc o) := fun o => (Below.refl _ _).alloc (Nat.le_refl _) o
  have HB := hide B0
  have hF : writeFault k i zs s q = 1 := by
    have : kindB k zs.length = false := by simp [kindB]; omega
    rw [writeFault, this]; rfl
  have HF := hide hF
  clear B0 hF
  go_enter Tryz.func254, Tryz.ntmps254
  go_wp2
  go_ret2
  exact toldDeed_bad (unhide HF) (by omega) (unhide HB _)

theorem vectorOf_any (v : Value) (zs : List Int) (w : World) (h : IsInts w v zs) :
    Calls Tryz.prog 261 #[v] w fun e w' => e = .returned (.tuple #[if vecFault zs = 0 then arr3 (zs.getD 0 0) (zs.getD 1 0) (zs.getD 2 0) else arr3 0 0 0, .int .i64 (vecFault zs)]) ∧ Below w.heap.size w w' := by
  by_cases hf : vecFault zs = 0
  · obtain ⟨hl, -⟩ := vecFault_zero hf
    match zs, hl with
    | [x, y, z], _ =>
      rw [if_pos hf]
      refine (vectorOf_ok v x y z w h hf).mono ?_
      rintro e w' ⟨rfl, hb⟩
      exact ⟨by rw [hf]; rfl, hb⟩
  · rw [if_neg hf]
    exact vectorOf_bad v zs w h hf

set_option maxHeartbeats 2000000 in
theorem deedOf_put (i : Int) (ao : Option Addr) (cap : Nat) (s q : Int) (zs : List Int) (w : World) (h : IsInts w (.slice ao zs.length cap) zs) (hb : Bds i s q) :
    Calls Tryz.prog 254 #[.agg #[.int .i64 1, .int .i64 i, .slice ao zs.length cap, .int .i64 s, .int .i64 q]] w fun e w' => ToldDeed w w' e 1 i zs s q := by
  have B0 : Below w.heap.size w (w.alloc (.cells #[.int .i64 1, .int .i64 i, .slice ao zs.length cap, .int .i64 s, .int .i64 q] 94)) := (Below.refl _ _).alloc (Nat.le_refl _) _
  have HB := hide B0
  have H := hide (h.later B0)
  clear h B0
  have HF : Hid (writeFault 1 i zs s q = vecFault zs) := fault_in rfl hb
  obtain ⟨⟨i1, i2⟩, ⟨s1, s2⟩, q1, q2⟩ := hb
  have dI : (decide (1 ≤ i) && decide (i ≤ 999)) = true := by simp [i1, i2]
  have dS : (decide (1 ≤ s) && decide (s ≤ 9)) = true := by simp [s1, s2]
  have dQ : (decide (1 ≤ q) && decide (q ≤ 999)) = true := by simp [q1, q2]
  go_enter Tryz.func254, Tryz.ntmps254
  go_wp2_with fail
  refine (isIdC i _).mono ?_
  rintro e w1 ⟨rfl, rfl⟩
  rw [dI]
  go_wp2_with fail
  refine (isSessionC s _).mono ?_
  rintro e w1 ⟨rfl, rfl⟩
  rw [dS]
  go_wp2_with fail
  refine (isSeqC q _).mono ?_
  rintro e w1 ⟨rfl, rfl⟩
  rw [dQ]
  go_wp2_with fail
  refine (vectorOf_any _ zs _ (unhide H)).mono ?_
  rintro e w1 ⟨rfl, hb1⟩
  have HB1 := hide ((unhide HB).trans (hb1.mono (unhide HB).size))
  have hz : w.heap.size ≤ w1.heap.size := (unhide HB1).size
  clear HB hb1 H
  generalize hV : vecFault zs = F at *
  by_cases hf : F = 0
  · subst hf
    rw [if_pos rfl]
    simp only [arr3]
    go_wp2_with fail
    go_ret2
    refine toldDeed_ok (unhide HF) ?_ ?_
    · rw [deedV, if_pos rfl]; rfl
    · exact (unhide HB1).alloc hz _
  · rw [if_neg hf]
    have hd : (F != 0) = true := by rw [bne_iff_ne]; exact hf
    have HN := hide hf
    clear hf
    simp only [arr3]
    go_wp2_with fail
    go_ret2
    exact toldDeed_bad (unhide HF) (unhide HN) ((unhide HB1).alloc hz _)

/-- deedOf of the program. -/
theorem implDeed (k i : Int) (v : Value) (s q : Int) (zs : List Int) (w : World) (h : IsInts w v zs) :
    Calls Tryz.prog 254 #[.agg #[.int .i64 k, .int .i64 i, v, .int .i64 s, .int .i64 q]] w fun e w' => ToldDeed w w' e k i zs s q := by
  have h' := h
  obtain ⟨ao, cap, rfl, -⟩ := h'
  by_cases h1 : k = 1
  · subst h1
    by_cases hb : Bds i s q
    · exact deedOf_put i ao cap s q zs w h hb
    · exact deedOf_put_out i ao cap s q zs w hb
  · by_cases h2 : k = 2
    · subst h2
      rcases Nat.eq_zero_or_pos zs.length with h0 | h0
      · obtain rfl : zs = [] := List.eq_nil_of_length_eq_zero h0
        by_cases hb : Bds i s q
        · exact deedOf_drop i ao cap s q w hb
        · exact deedOf_drop_out i ao cap s q w hb
      · obtain ⟨n, hn⟩ : ∃ n, zs.length = n + 1 := ⟨zs.length - 1, by omega⟩
        rw [hn]
        exact deedOf_many i ao cap n s q zs w hn
    · exact deedOf_none k i ao cap s q zs w h1 h2

end Go.Proofs.YtdnhmoppineegaaGreat

namespace Go.Proofs.YtdnhmoppineegaaGreat
open Go.RowKit

set_option maxHeartbeats 400000 in
theorem listOf3 (x y z : Int) (w : World) :
    Calls Tryz.prog 266 #[arr3 x y z] w fun e w' => e = .returned (.slice (some ⟨w.heap.size + 1, 0, none⟩) 3 3) ∧
      (w.alloc (.cells #[.int .i64 x, .int .i64 y, .int .i64 z] 258)).alloc (.cells #[.int .i64 x, .int .i64 y, .int .i64 z] 2) = w' := by
  have hmk : ∀ w : World, (Instr.makeSlice 22 (.int .i64 3) (.int .i64 3)).run Tryz.prog w = .ok (.slice (some ⟨w.heap.size, 0, none⟩) 3 3) (w.alloc (.cells #[.int .i64 0, .int .i64 0, .int .i64 0] 2)) := fun _ => by kernel_rfl
  have i0 : ∀ w : World, (Instr.index 258 (.agg #[.int .i64 x, .int .i64 y, .int .i64 z]) (.int .i64 0)).run Tryz.prog w = .ok (.int .i64 x) w := fun _ => by kernel_rfl
  have i1 : ∀ w : World, (Instr.index 258 (.agg #[.int .i64 x, .int .i64 y, .int .i64 z]) (.int .i64 1)).run Tryz.prog w = .ok (.int .i64 y) w := fun _ => by kernel_rfl
  have i2 : ∀ w : World, (Instr.index 258 (.agg #[.int .i64 x, .int .i64 y, .int .i64 z]) (.int .i64 2)).run Tryz.prog w = .ok (.int .i64 z) w := fun _ => by kernel_rfl
  simp only [arr3]
  go_enter Tryz.func266, Tryz.ntmps266
  go_wp2
  refine wp_loop_rounds 4 ?_
  rw [rounds_succ]
  go_wp2
  rw [rounds_succ]
  go_wp2
  rw [rounds_succ]
  go_wp2
  rw [rounds_succ]
  go_wp2
  go_ret
  exact ⟨rfl, rfl⟩

end Go.Proofs.YtdnhmoppineegaaGreat

namespace Go.Proofs.YtdnhmoppineegaaGreat
open Go.RowKit

theorem listOwn (x y z : Int) (w : World) (hw : ∀ a ∈ [x, y, z], (Lit.int .i64 a).wf = true) :
    Calls Tryz.prog 266 #[arr3 x y z] w fun e w' => ∃ g, e = .returned (.slice (some ⟨g, 0, none⟩) 3 3) ∧ (Lay.sl Lay.int).OwnIn w' [.slice (some ⟨g, 0, none⟩) 3 3] [x, y, z] w.heap.size w'.heap.size ∧ Below w.heap.size w w' := by
  refine (listOf3 x y z w).mono ?_
  rintro e w' ⟨rfl, rfl⟩
  refine ⟨w.heap.size + 1, rfl, ?_, ((Below.refl _ _).alloc (Nat.le_refl _) _).alloc (by simp) _⟩
  refine Lay.ownInts (zs := [x, y, z]) (base := w.heap.size) (T := 2) hw (by simp) ?_
  exact own_new3 (W := w.alloc _) (by simp) (by simp)

end Go.Proofs.YtdnhmoppineegaaGreat

namespace Go.Proofs.YtdnhmoppineegaaGreat
open Go.RowKit

theorem assertDP (v : Value) (w : World) : (Instr.typeAssert (.iface 257 v) 249 262 true).run Tryz.prog w = .ok (.tuple #[.agg #[.int .i64 0, .int .i64 0, .int .i64 0], .bool false]) w := by kernel_rfl
theorem assertDD (v : Value) (w : World) : (Instr.typeAssert (.iface 257 v) 249 257 true).run Tryz.prog w = .ok (.tuple #[v, .bool true]) w := by kernel_rfl

set_option maxRecDepth 10000 in
set_option maxHeartbeats 400000 in
theorem writeOf_drop (i s q : Int) (w : World) :
    Calls Tryz.prog 263 #[dropV, .int .i64 i, .int .i64 s, .int .i64 q] w fun e w' => e = .returned (.agg #[.int .i64 2, .int .i64 i, .slice none 0 0, .int .i64 s, .int .i64 q]) ∧ Below w.heap.size w w' := by
  have a1 := assertDP
  have a2 := assertDD
  have HB : Hid (∀ o o' o'', Below w.heap.size w (((w.alloc o).alloc o').alloc o'')) := fun o o' o'' => (((Below.refl _ _).alloc (Nat.le_refl _) _).alloc (by simp) _).alloc (by simp; omega) _
  simp only [dropV] at *
  go_enter Tryz.func263, Tryz.ntmps263
  go_wp2_with fail
  refine bodyPost_ret (v := .agg #[.int .i64 2, .int .i64 i, .slice none 0 0, .int .i64 s, .int .i64 q]) (by simp [results, Tryz.results263, go_sem]) rfl ?_
  exact ⟨rfl, unhide HB _ _ _⟩

theorem assertPP (v : Value) (w : World) : (Instr.typeAssert (.iface 262 v) 249 262 true).run Tryz.prog w = .ok (.tuple #[v, .bool true]) w := by kernel_rfl

theorem listOfO (x y z : Int) (w : World) :
    Calls Tryz.prog 266 #[.agg #[.int .i64 x, .int .i64 y, .int .i64 z]] w fun e w' => ∃ a c, e = .returned (.slice a 3 c) ∧ w'.ownsRow w.heap.size 2 1 (.slice a 3 c) 3 [.int .i64 x, .int .i64 y, .int .i64 z] ∧ Below w.heap.size w w' := by
  refine (listOf3 x y z w).mono ?_
  rintro e w' ⟨rfl, rfl⟩
  exact ⟨_, _, rfl, own_new3 (W := w.alloc (.cells #[.int .i64 x, .int .i64 y, .int .i64 z] 258)) (base := w.heap.size) (T := 2) (by simp) (by simp), ((Below.refl _ _).alloc (Nat.le_refl _) _).alloc (by simp) _⟩

/-- The vector stored into the write, and the write into the result's block. -/
theorem storeO {w w1 : World} {sx : Nat} {u : Value} {xs : List Value} {B : Nat} {vs : List Value} (hsx : w.heap.size < sx) (hB : sx < B) (O : w1.ownsRow B 2 1 u 3 xs) (hb : Below w.heap.size w w1) :
    (setAll (w1.setCell ⟨sx, 2, none⟩ u) w.heap.size 0 vs).ownsRow B 2 1 u 3 xs ∧ Below w.heap.size w (setAll (w1.setCell ⟨sx, 2, none⟩ u) w.heap.size 0 vs) := by
  have h1 := own_setC (a := ⟨sx, 2, none⟩) O (by simpa using hB) u
  have h2 : Below w.heap.size w (w1.setCell ⟨sx, 2, none⟩ u) := hb.setCell (by simp; omega) _
  refine ⟨?_, below_setAll h2 _ _ _ (Nat.le_refl _)⟩
  have : ∀ (l : List Value) (i : Nat) (W : World), W.ownsRow B 2 1 u 3 xs → (setAll W w.heap.size i l).ownsRow B 2 1 u 3 xs := by
    intro l
    induction l with
    | nil => intro i W h; exact h
    | cons v l ih => intro i W h; exact ih (i + 1) _ (own_setC (a := ⟨w.heap.size, i, none⟩) h (by simp; omega) v)
  exact this vs 0 _ h1

set_option maxRecDepth 10000 in
set_option maxHeartbeats 600000 in
theorem writeOf_put (x y z i s q : Int) (w : World) :
    Calls Tryz.prog 263 #[putV x y z, .int .i64 i, .int .i64 s, .int .i64 q] w fun e w' => ∃ a c, e = .returned (.agg #[.int .i64 1, .int .i64 i, .slice a 3 c, .int .i64 s, .int .i64 q]) ∧ w'.ownsRow w.heap.size 2 1 (.slice a 3 c) 3 [.int .i64 x, .int .i64 y, .int .i64 z] ∧ Below w.heap.size w w' := by
  have a1 := assertPP
  have L := hide (fun W => listOfO x y z W)
  simp only [putV] at *
  go_enter Tryz.func263, Tryz.ntmps263
  go_wp2_with fail
  obtain ⟨W, hW⟩ : ∃ W, W = ((w.alloc (.cells #[.int .i64 0, .int .i64 0, .slice none 0 0, .int .i64 0, .int .i64 0] 94)).alloc (.cells #[.int .i64 1, .int .i64 i, .slice none 0 0, .int .i64 s, .int .i64 q] 94)).alloc (.cells #[.int .i64 x, .int .i64 y, .int .i64 z] 262) := ⟨_, rfl⟩
  have n1 : Below w.heap.size w (w.alloc (.cells #[.int .i64 0, .int .i64 0, .slice none 0 0, .int .i64 0, .int .i64 0] 94)) := (Below.refl _ _).alloc (Nat.le_refl _) _
  have bR : Box 0 #[.int .i64 0, .int .i64 0, .slice none 0 0, .int .i64 0, .int .i64 0] 94 W w.heap.size := by rw [hW]; exact ((newBox (Nat.zero_le _)).grow _).grow _
  have bX : Box 0 #[.int .i64 1, .int .i64 i, .slice none 0 0, .int .i64 s, .int .i64 q] 94 W (w.heap.size + 1) := by rw [hW]; exact (newBoxAt (by omega) (by simp)).grow _
  have HB : Hid (Below w.heap.size w W) := by rw [hW]; exact (n1.alloc (by simp) _).alloc (by simp; omega) _
  rw [← hW]
  clear hW n1
  refine (unhide L _).mono ?_
  rintro e w1 ⟨a, c, rfl, O, hb⟩
  have hsx : w.heap.size < w.heap.size + 1 := by omega
  generalize w.heap.size + 1 = sx at *
  have hX := bX.lt
  replace bR := bR.keep hb
  replace bX := bX.keep hb
  replace HB := hide ((unhide HB).trans (hb.mono (unhide HB).size))
  have x0 := bX.at 0 _ rfl
  have x1 := bX.at 1 _ rfl
  have x2 := bX.at 2 _ rfl
  have x3 := bX.at 3 _ rfl
  have x4 := bX.at 4 _ rfl
  have xf := bX.soft
  have xl := bX.lt
  have r0 := bR.at 0 _ rfl
  have r1 := bR.at 1 _ rfl
  have r2 := bR.at 2 _ rfl
  have r3 := bR.at 3 _ rfl
  have r4 := bR.at 4 _ rfl
  have rf := bR.soft
  have rl := bR.lt
  have HO := hide O
  clear bR bX hb O L
  simp only [List.getElem_toArray, List.getElem_cons_zero, List.getElem_cons_succ] at x0 x1 x2 x3 x4 r0 r1 r2 r3 r4
  go_wp2_with fail
  refine bodyPost_ret (v := .agg #[.int .i64 1, .int .i64 i, .slice a 3 c, .int .i64 s, .int .i64 q]) (by simp [results, Tryz.results263, go_sem, r0, r1, r2, r3, r4]) rfl ?_
  obtain ⟨s1, s2⟩ := storeO (vs := [.int .i64 1, .int .i64 i, .slice a 3 c, .int .i64 s, .int .i64 q]) hsx hX (unhide HO) (unhide HB)
  exact ⟨a, c, rfl, own_mono (by omega) s1, s2⟩

end Go.Proofs.YtdnhmoppineegaaGreat

namespace Go.Proofs.YtdnhmoppineegaaGreat
open Go.RowKit

theorem writeOfC (x : DWrite) (w : World) (hf : wF x = 0) :
    Calls Tryz.prog 263 #[deedV x.kind x.vec, .int .i64 x.id, .int .i64 x.session, .int .i64 x.seq] w fun e w' => ∃ cs, e = .returned (.agg cs.toArray) ∧ Lay.tWrite.OwnIn w' cs x w.heap.size w'.heap.size ∧ Below w.heap.size w w' := by
  obtain ⟨kd, id, vec, ss, sq⟩ := x
  obtain ⟨hi, hs, hq, hk⟩ := writeFault_zero hf
  simp only at hi hs hq hk
  have w1 : (Lit.int .i64 id).wf = true := wf_of_bd (by omega)
  have w3 : (Lit.int .i64 ss).wf = true := wf_of_bd (by omega)
  have w4 : (Lit.int .i64 sq).wf = true := wf_of_bd (by omega)
  rcases hk with ⟨rfl, hv⟩ | ⟨rfl, hv⟩
  · obtain ⟨hl, hb⟩ := vecFault_zero hv
    match vec, hl with
    | [p, q, r], _ =>
      refine (writeOf_put p q r id ss sq w).mono ?_
      rintro e w' ⟨a, c, rfl, hO, hb2⟩
      have hO2 := Lay.ownInts (zs := [p, q, r]) (fun z hz => wf_of_bd (by have h0 := hb 0 (by decide); have h1 := hb 1 (by decide); have h2 := hb 2 (by decide); simp at h0 h1 h2 hz; omega)) (by simp) hO
      obtain ⟨bl, O, hr⟩ := hO2
      exact ⟨_, rfl, ⟨bl, mkOwn_Write (x := ⟨1, id, [p, q, r], ss, sq⟩) O (show (Lit.int .i64 1).wf = true by decide) w1 w3 w4 O.2.1, hr⟩, hb2⟩
  · subst hv
    refine (writeOf_drop id ss sq w).mono ?_
    rintro e w' ⟨rfl, hb2⟩
    exact ⟨_, rfl, ⟨[], mkOwn_Write (x := ⟨2, id, [], ss, sq⟩) (c2 := [.slice none 0 0]) ⟨⟨none, 0, rfl, by simp, Or.inl ⟨rfl, rfl⟩⟩, by simp, by simp⟩ (show (Lit.int .i64 2).wf = true by decide) w1 w3 w4 (by simp), by simp⟩, hb2⟩

end Go.Proofs.YtdnhmoppineegaaGreat

namespace Go.Proofs.YtdnhmoppineegaaGreat
open Go.RowKit Go.ChangeShapes Go.WideShapes

/-- Whatever reads as data of the type t lies as A says. -/
def Opens {α : Type} (A : Lay α) (t : TypeId) : Prop :=
  ∀ {H : Type} (enc : TypeId × Value → H) (W : World) (base : Nat) (spare : Nat → Bool) (held : Bool) (fuel : Nat) (cs : List Value) (x : DataW H × List MemPlace), DataW.trod enc Tryz.prog W base spare held fuel t cs = some x → ∃ y, A.Reads W cs y

theorem reads_pair {α β : Type} {A : Lay α} {B : Lay β} {W : World} {c1 c2 : List Value} {x : α} {y : β} (h : A.Reads W c1 x) (k : B.Reads W c2 y) : (Lay.pair A B).Reads W (c1 ++ c2) (x, y) := by
  obtain ⟨b1, h⟩ := h
  obtain ⟨b2, k⟩ := k
  exact ⟨b1 ++ b2, c1, c2, b1, b2, rfl, rfl, h, k⟩

theorem opens_int {t : TypeId} (ht : Tryz.prog.underlying t = some (.int .i64)) : Opens Lay.int t := by
  intro H enc W base spare held fuel cs x h
  obtain ⟨n, rfl, -, hw⟩ := DataW.trod_int ht h
  exact ⟨n, [], rfl, hw, rfl⟩
theorem opens_bool {t : TypeId} (ht : Tryz.prog.underlying t = some .bool) : Opens Lay.bool t := by
  intro H enc W base spare held fuel cs x h
  obtain ⟨b, rfl, -⟩ := DataW.trod_bool ht h
  exact ⟨b, [], rfl, rfl⟩
theorem opens_str {t : TypeId} (ht : Tryz.prog.underlying t = some .string) : Opens Lay.str t := by
  intro H enc W base spare held fuel cs x h
  obtain ⟨s, rfl, -, -⟩ := DataW.trod_string ht h
  exact ⟨s, [], rfl, rfl⟩

theorem opens_sl {α : Type} {A : Lay α} {t e : TypeId} (ht : Tryz.prog.underlying t = some (.slice e)) (hn : Tryz.prog.cellsOf e = A.n) (h0 : 0 < A.n) (h : Opens A e) : Opens (Lay.sl A) t := by
  intro H enc W base spare held fuel cs x hx
  rcases Go.Deep.open_slice ht hx with ⟨rfl, -⟩ | ⟨a, len, cap, m, n, D, Pl, rfl, hb, hl, hm, hmm, -, hel⟩
  · exact ⟨[], [], none, 0, rfl, ⟨Nat.le_refl _, by simp⟩, Or.inl ⟨rfl, rfl⟩⟩
  · have hlm : len ≤ m := by rw [hmm]; split <;> omega
    rw [hn] at hel
    have each : ∀ i, i < len → ∃ q : List Value × α, (∀ j, j < A.n → W.cell? (a.add (i * A.n + j)) = q.1[j]?) ∧ q.1.length = A.n ∧ A.Reads W q.1 q.2 := by
      intro i hi
      obtain ⟨cs', h1, h2⟩ := hel i (by omega)
      obtain ⟨-, hlen, hc⟩ := World.cells?_some h1
      obtain ⟨y, hy⟩ := h enc W base spare held n cs' _ h2
      refine ⟨(cs', y), fun j hj => ?_, hlen, hy⟩
      have := hc j hj
      rw [Addr.add_add] at this
      exact this
    by_cases hp : 0 < len
    · obtain ⟨b, off, spot⟩ := a
      obtain ⟨q0, c0, l0, -⟩ := each 0 hp
      have hc0 := c0 0 h0
      have hs0 : ∃ v, W.cell? ((⟨b, off, spot⟩ : Addr).add (0 * A.n + 0)) = some v := ⟨_, hc0.trans (List.getElem?_eq_getElem (by omega))⟩
      obtain ⟨v0, hv0⟩ := hs0
      have hspot : spot = none := by simpa [Addr.add] using World.cell?_spot hv0
      subst hspot
      have hbl : b < W.heap.size := by
        have := World.block_lt_of_cell? _ _ hv0
        simpa [Addr.add] using this
      have pick : ∃ f : (i : Nat) → i < len → List Value × α, ∀ i (hi : i < len), (∀ j, j < A.n → W.cell? ((⟨b, off, none⟩ : Addr).add (i * A.n + j)) = (f i hi).1[j]?) ∧ (f i hi).1.length = A.n ∧ A.Reads W (f i hi).1 (f i hi).2 :=
        ⟨fun i hi => Classical.choose (each i hi), fun i hi => Classical.choose_spec (each i hi)⟩
      obtain ⟨f, hf⟩ := pick
      have pick2 : ∃ g : (i : Nat) → i < len → List Nat, ∀ i (hi : i < len), A.lies W (f i hi).1 (f i hi).2 (g i hi) :=
        ⟨fun i hi => Classical.choose (hf i hi).2.2, fun i hi => Classical.choose_spec (hf i hi).2.2⟩
      obtain ⟨g, hg⟩ := pick2
      refine ⟨(List.finRange len).map (fun i => (f i.1 i.2).2), b :: ((List.finRange len).map (fun i => g i.1 i.2)).flatten, some ⟨b, off, none⟩, cap, by simp, ⟨by simpa using hl, by simp; unfold maxLen at hm; omega⟩, Or.inr ⟨b, off, (List.finRange len).map (fun i => (f i.1 i.2).1), (List.finRange len).map (fun i => g i.1 i.2), rfl, hbl, rfl, by simp, by simp, fun j h1 h2 h3 => ?_⟩⟩
      have hj : j < len := by simpa using h1
      refine ⟨fun k hk => ?_, ?_⟩
      · have := (hf j hj).1 k hk
        rw [Addr.add_lit] at this
        simpa [Nat.add_assoc] using this
      · simpa using hg j hj
    · obtain rfl : len = 0 := by omega
      exact ⟨[], [], some a, cap, rfl, ⟨hl, by simp⟩, Or.inl ⟨rfl, rfl⟩⟩

theorem open_arg {α : Type} {A : Lay α} {t : TypeId} (O : Opens A t) {H : Type} {enc : TypeId × Value → H} {W : World} {base : Nat} {spare : Nat → Bool} {held : Bool} {a : Option Addr} {len cap : Nat} {d : DataW H} {p : List MemPlace}
    (h : DataW.Trod enc Tryz.prog W base spare held t (.slice a len cap) d p) : ∃ y, A.Reads W [.slice a len cap] y := by
  obtain ⟨fuel, hf⟩ := h
  exact O enc W base spare held fuel _ _ (by simpa [Value.cells] using hf)
theorem open_arg_st {α : Type} {A : Lay α} {t : TypeId} (O : Opens A t) {H : Type} {enc : TypeId × Value → H} {W : World} {base : Nat} {spare : Nat → Bool} {held : Bool} {cs : Array Value} {d : DataW H} {p : List MemPlace}
    (h : DataW.Trod enc Tryz.prog W base spare held t (.agg cs) d p) : ∃ y, A.Reads W cs.toList y := by
  obtain ⟨fuel, hf⟩ := h
  exact O enc W base spare held fuel _ _ (by simpa [Value.cells] using hf)

end Go.Proofs.YtdnhmoppineegaaGreat

namespace Go.Proofs.YtdnhmoppineegaaGreat
open Go.RowKit

/-- What storyOf answers. -/
def ToldAs (w w' : World) (e : Ending) (ws : List DWrite) : Prop := ∃ r, e = .returned (.tuple #[r, .int .i64 (writesF ws)]) ∧ (writesF ws = 0 → r = .pointer (some ⟨w.heap.size + 1, 0, none⟩) ∧ ∃ v rows bls, Told w' (w.heap.size + 1) w.heap.size w'.heap.size ws v rows bls) ∧ (writesF ws ≠ 0 → r = .pointer none) ∧ Below w.heap.size w w'
theorem told_start (w : World) : Told ((w.alloc (.map #[] 0)).alloc (.cells #[.slice none 0 0, .map (some w.heap.size), .int .i64 0, .int .i64 0, .int .i64 0, .int .i64 0, .int .i64 0, .int .i64 0, .int .i64 0, .int .i64 0, .int .i64 0, .int .i64 0] 265)) (w.heap.size + 1) w.heap.size ((w.alloc (.map #[] 0)).alloc (.cells #[.slice none 0 0, .map (some w.heap.size), .int .i64 0, .int .i64 0, .int .i64 0, .int .i64 0, .int .i64 0, .int .i64 0, .int .i64 0, .int .i64 0, .int .i64 0, .int .i64 0] 265)).heap.size [] (.slice none 0 0) [] [] := told_new w

set_option maxRecDepth 100000 in
set_option maxHeartbeats 4000000 in
theorem story_pos (b off cap : Nat) (ws : List DWrite) (w : World) (h : (Lay.sl Lay.tWrite).Reads w [.slice (some ⟨b, off, none⟩) ws.length cap] ws) (hbl : b < w.heap.size) (hn : ws.length ≤ 200) :
    Calls Tryz.prog 255 #[.slice (some ⟨b, off, none⟩) ws.length cap] w fun e w' => ToldAs w w' e ws := by
  have HW : Hid (writesF ws = wsFrom ws) := by show writesF ws = wsFrom ws; rw [writesF, if_neg (by omega)]
  have H := hide h
  clear h
  have HT0 := hide (told_start w)
  have HB0 := hide (((Below.refl w.heap.size w).alloc (Nat.le_refl _) (.map #[] 0)).alloc (by simp) (.cells #[.slice none 0 0, .map (some w.heap.size), .int .i64 0, .int .i64 0, .int .i64 0, .int .i64 0, .int .i64 0, .int .i64 0, .int .i64 0, .int .i64 0, .int .i64 0, .int .i64 0] 265))
  have hmk := @run_makeMap Tryz.prog
  go_enter Tryz.func255, Tryz.ntmps255
  go_wp2_with fail
  clear hmk
  generalize (w.alloc (.map #[] 0)).alloc (.cells #[.slice none 0 0, .map (some w.heap.size), .int .i64 0, .int .i64 0, .int .i64 0, .int .i64 0, .int .i64 0, .int .i64 0, .int .i64 0, .int .i64 0, .int .i64 0, .int .i64 0] 265) = W1 at *
  go_loopw [17] (fun i wr => ∃ k : Nat, k ≤ ws.length ∧ i = .int .i64 k ∧ (∀ j (hj : j < ws.length), j < k → wF ws[j] = 0) ∧ (∃ v rows bls, Told wr (w.heap.size + 1) w.heap.size wr.heap.size (ws.take k) v rows bls) ∧ Below w.heap.size w wr) (fun i _ => ws.length - (intOf i).toNat)
  case atStart => exact ⟨0, Nat.zero_le _, rfl, fun j _ hj => by omega, ⟨_, _, _, unhide HT0⟩, unhide HB0⟩
  case round =>
    obtain ⟨k, hk, rfl, hz, ⟨v, rows, bls, hT⟩, hB⟩ := hrel
    clear HT0 HB0
    by_cases hlt : k < ws.length
    · obtain ⟨row, hc, hr⟩ := Lay.row_at (unhide H) hlt
      replace hr := hr.later hB
      obtain ⟨a2, d2, rfl, R2⟩ := open_Write hr
      have c0 : wr.cell? ⟨b, off + k * 5, none⟩ = some (.int .i64 (ws[k]).kind) := (hB.cell (p := ⟨b, off + k * 5, none⟩) hbl).trans (hc 0 (by decide))
      have c1 : wr.cell? ⟨b, off + k * 5 + 1, none⟩ = some (.int .i64 (ws[k]).id) := (hB.cell (p := ⟨b, off + k * 5 + 1, none⟩) hbl).trans (hc 1 (by decide))
      have c2 : wr.cell? ⟨b, off + k * 5 + 2, none⟩ = some (.slice a2 (ws[k]).vec.length d2) := (hB.cell (p := ⟨b, off + k * 5 + 2, none⟩) hbl).trans (hc 2 (by decide))
      have c3 : wr.cell? ⟨b, off + k * 5 + 3, none⟩ = some (.int .i64 (ws[k]).session) := (hB.cell (p := ⟨b, off + k * 5 + 3, none⟩) hbl).trans (hc 3 (by decide))
      have c4 : wr.cell? ⟨b, off + k * 5 + 4, none⟩ = some (.int .i64 (ws[k]).seq) := (hB.cell (p := ⟨b, off + k * 5 + 4, none⟩) hbl).trans (hc 4 (by decide))
      have HZ := hide hz
      have HST : Hid (ws.take (k + 1) = ws.take k ++ [ws[k]]) := List.take_succ_eq_append_getElem hlt
      have HAT : Hid (wF ws[k] ≠ 0 → writesF ws = wF ws[k]) := fun hn => (unhide HW).trans (wsFrom_at ws k hlt hz hn)
      have HZ2 : Hid (wF ws[k] = 0 → ∀ j (hj : j < ws.length), j < k + 1 → wF ws[j] = 0) := by
        intro h0 j hj hjk
        by_cases hjk2 : j < k
        · exact unhide HZ j hj hjk2
        · obtain rfl : j = k := by omega
          exact h0
      have HLK : Hid ((ws.take k).length = k) := by show (ws.take k).length = k; rw [List.length_take]; omega
      clear hc hr hz HZ
      generalize hx : ws[k] = x at *
      clear hx
      have hbr : b < wr.heap.size := Nat.lt_of_lt_of_le hbl hB.size
      have nb : Below wr.heap.size wr (wr.alloc (.cells #[.int .i64 x.kind, .int .i64 x.id, .slice a2 x.vec.length d2, .int .i64 x.session, .int .i64 x.seq] 94)) := (Below.refl _ _).alloc (Nat.le_refl _) _
      have bI : Box wr.heap.size #[.int .i64 x.kind, .int .i64 x.id, .slice a2 x.vec.length d2, .int .i64 x.session, .int .i64 x.seq] 94 (wr.alloc (.cells #[.int .i64 x.kind, .int .i64 x.id, .slice a2 x.vec.length d2, .int .i64 x.session, .int .i64 x.seq] 94)) wr.heap.size := newBox (Nat.le_refl _)
      have L := implDeed x.kind x.id (.slice a2 x.vec.length d2) x.session x.seq x.vec _ ((Lay.ints_reads R2).later nb)
      simp only [ToldDeed] at L
      rw [show writeFault x.kind x.id x.vec x.session x.seq = wF x from rfl] at L
      have HL := hide L
      have HT := hide (hT.later nb)
      have HB := hide (hB.trans (nb.mono hB.size))
      have HBI := hide bI
      have HZW : Hid (w.heap.size ≤ wr.heap.size) := hB.size
      clear R2 hT hB nb bI L
      go_wp2_with fail
      clear c0 c1 c2 c3 c4
      refine (unhide HL).mono ?_
      generalize hW0 : wr.alloc (.cells #[.int .i64 x.kind, .int .i64 x.id, .slice a2 x.vec.length d2, .int .i64 x.session, .int .i64 x.seq] 94) = W0 at *
      clear hW0
      rintro e w2 ⟨rfl, hb⟩
      replace HT := hide ((unhide HT).later hb)
      replace HBI := hide ((unhide HBI).keep hb)
      replace HB := hide ((unhide HB).trans (hb.mono (unhide HB).size))
      clear hb HL
      by_cases hf : wF x = 0
      · rw [hf, show deedRes x.kind x.id x.vec x.session x.seq = deedV x.kind x.vec from if_pos hf]
        have hb1 : w2.cell? ⟨wr.heap.size, 1, none⟩ = some (.int .i64 x.id) := (unhide HBI).at 1 _ rfl
        have hb3 : w2.cell? ⟨wr.heap.size, 3, none⟩ = some (.int .i64 x.session) := (unhide HBI).at 3 _ rfl
        have hb4 : w2.cell? ⟨wr.heap.size, 4, none⟩ = some (.int .i64 x.seq) := (unhide HBI).at 4 _ rfl
        have hbl1 : wr.heap.size < w2.heap.size := (unhide HBI).lt
        have HZ3 := hide (unhide HZ2 hf)
        have HL := hide (writeOfC x w2 hf)
        have HF := hide hf
        generalize hdv : deedV x.kind x.vec = dv at *
        clear hf hdv HZ2 HAT HBI
        go_wp2_with fail
        refine (unhide HL).mono ?_
        rintro e w3 ⟨cs, rfl, ⟨bl, hO, hr⟩, hb3⟩
        have hT3 := (unhide HT).later hb3
        replace HB := hide ((unhide HB).trans (hb3.mono (unhide HB).size))
        have HC := hide (tellC (hT3.raise (Nat.le_trans (Nat.le_of_lt hbl1) (Nat.le_refl w2.heap.size))) hO.1 (fun c hc => ⟨(hr c hc).1, hO.2.2 c hc⟩) hO.2.1 hb3.size (unhide HF) (by rw [unhide HLK]; omega))
        rw [← unhide HST] at HC
        clear hO hr hb3 HL HT hT3 HF hb1 hb4 hbl1
        go_wp2_with fail
        refine (unhide HC).mono ?_
        rintro e w4 ⟨rfl, ⟨v4, rows4, bls4, hT4⟩, hb4⟩
        have HT4 := hide hT4
        have HB4 := hide ((unhide HB).trans hb4)
        clear hT4 hb4 HC HB
        go_wp2_with fail
        go_roundw
        case rel => exact ⟨k + 1, by omega, by go_num, unhide HZ3, ⟨_, _, _, unhide HT4⟩, unhide HB4⟩
        case measure => simp [intOf]; omega
      · have hd : (wF x != 0) = true := by simpa using hf
        have HG := hide (unhide HAT hf)
        have HF := hide hf
        generalize hdr : deedRes x.kind x.id x.vec x.session x.seq = dr at *
        clear hf hdr HZ2 HAT HST HT HBI
        go_wp2_with fail
        refine bodyPost_ret (v := .tuple #[.pointer none, .int .i64 (wF x)]) (by simp [results, Tryz.results255, go_sem]) rfl ?_
        exact ⟨.pointer none, by rw [unhide HG], fun e => absurd ((unhide HG).symm.trans e) (unhide HF), fun _ => rfl, unhide HB⟩
    · obtain rfl : k = ws.length := by omega
      have HG : Hid (writesF ws = 0) := (unhide HW).trans (wsFrom_all ws fun j hj => hz j hj hj)
      rw [List.take_length] at hT
      have HT := hide hT
      have HB := hide hB
      clear hT hB hz H HW
      go_wp2_with fail
      refine bodyPost_ret (v := .tuple #[.pointer (some ⟨w.heap.size + 1, 0, none⟩), .int .i64 0]) (by simp [results, Tryz.results255, go_sem]) rfl ?_
      exact ⟨.pointer (some ⟨w.heap.size + 1, 0, none⟩), by rw [unhide HG], fun _ => ⟨rfl, _, _, _, unhide HT⟩, fun e => absurd (unhide HG) e, unhide HB⟩

set_option maxRecDepth 10000 in
set_option maxHeartbeats 1000000 in
/-- storyOf of the program. -/
theorem storyC (v : Value) (ws : List DWrite) (w : World) (h : (Lay.sl Lay.tWrite).Reads w [v] ws) :
    Calls Tryz.prog 255 #[v] w fun e w' => ToldAs w w' e ws := by
  obtain ⟨ao, cap, rfl⟩ := open_sl h
  by_cases hn : ws.length ≤ 200
  · by_cases hp : 0 < ws.length
    · obtain ⟨b, off, rfl, hbl⟩ := Lay.sl_addr h hp
      exact story_pos b off cap ws w h hbl hn
    · obtain rfl : ws = [] := List.eq_nil_of_length_eq_zero (by omega)
      clear h hn hp
      have HT0 := hide (told_start w)
      have HB0 := hide (((Below.refl w.heap.size w).alloc (Nat.le_refl _) (.map #[] 0)).alloc (by simp) (.cells #[.slice none 0 0, .map (some w.heap.size), .int .i64 0, .int .i64 0, .int .i64 0, .int .i64 0, .int .i64 0, .int .i64 0, .int .i64 0, .int .i64 0, .int .i64 0, .int .i64 0] 265))
      have hmk := @run_makeMap Tryz.prog
      go_enter Tryz.func255, Tryz.ntmps255
      go_wp2_with fail
      clear hmk
      refine wp_loop_rounds 1 ?_
      rw [rounds_succ]
      go_wp2_with fail
      refine bodyPost_ret (v := .tuple #[.pointer (some ⟨w.heap.size + 1, 0, none⟩), .int .i64 0]) (by simp [results, Tryz.results255, go_sem]) rfl ?_
      exact ⟨.pointer (some ⟨w.heap.size + 1, 0, none⟩), rfl, fun _ => ⟨rfl, _, _, _, unhide HT0⟩, fun e => absurd rfl e, unhide HB0⟩
  · have e : writesF ws = 2 := by rw [writesF, if_pos (by omega)]
    have HG := hide e
    have hd : decide ((200 : Int) < (ws.length : Int)) = true := by simp; omega
    clear h e
    go_enter Tryz.func255, Tryz.ntmps255
    go_wp2_with fail
    refine bodyPost_ret (v := .tuple #[.pointer none, .int .i64 2]) (by simp [results, Tryz.results255, go_sem]) rfl ?_
    exact ⟨.pointer none, by rw [unhide HG], fun e => absurd ((unhide HG).symm.trans e) (by decide), fun _ => rfl, Below.refl _ _⟩

end Go.Proofs.YtdnhmoppineegaaGreat

namespace Go.Proofs.YtdnhmoppineegaaGreat
open Go.RowKit

def acells (f : Int → Int) : Array Value := #[.int .i64 (f 0), .int .i64 (f 1), .int .i64 (f 2), .int .i64 (f 3), .int .i64 (f 4), .int .i64 (f 5), .int .i64 (f 6), .int .i64 (f 7), .int .i64 (f 8), .int .i64 (f 9)]
theorem acells_at (f : Int → Int) (i : Nat) (h : i < 10) : (acells f)[i]? = some (.int .i64 (f i)) := by
  match i, h with
  | 0, _ => rfl
  | 1, _ => rfl
  | 2, _ => rfl
  | 3, _ => rfl
  | 4, _ => rfl
  | 5, _ => rfl
  | 6, _ => rfl
  | 7, _ => rfl
  | 8, _ => rfl
  | 9, _ => rfl
theorem acells_set (f : Int → Int) (i : Nat) (h : i < 10) (z : Int) : (acells f).setIfInBounds i (.int .i64 z) = acells (fun j => if j = i then z else f j) := by
  match i, h with
  | 0, _ => rfl
  | 1, _ => rfl
  | 2, _ => rfl
  | 3, _ => rfl
  | 4, _ => rfl
  | 5, _ => rfl
  | 6, _ => rfl
  | 7, _ => rfl
  | 8, _ => rfl
  | 9, _ => rfl

set_option maxRecDepth 100000 in
set_option maxHeartbeats 4000000 in
theorem onceRight_pos (b off cap : Nat) (ws : List DWrite) (w : World) (h : (Lay.sl Lay.tWrite).Reads w [.slice (some ⟨b, off, none⟩) ws.length cap] ws) (hbl : b < w.heap.size) (hf : writesF ws = 0) :
    Calls Tryz.prog 245 #[.slice (some ⟨b, off, none⟩) ws.length cap] w fun e w' => e = .returned (.bool (onceB [] ws)) ∧ Below w.heap.size w w' := by
  have HL := hide (storyC _ ws w h)
  have H := hide h
  obtain ⟨hlen, hall⟩ := writesF_zero hf
  have HA := hide hall
  have HF := hide hf
  clear h hall hf
  go_enter Tryz.func245, Tryz.ntmps245
  go_wp2_with fail
  refine (unhide HL).mono ?_
  rintro e w2 ⟨r, rfl, g0, -, hb⟩
  obtain ⟨rfl, -⟩ := g0 (unhide HF)
  rw [unhide HF]
  have HB0 := hide (hb.alloc hb.size (.cells #[.int .i64 0, .int .i64 0, .int .i64 0, .int .i64 0, .int .i64 0, .int .i64 0, .int .i64 0, .int .i64 0, .int .i64 0, .int .i64 0] 255))
  have HX0 : Hid (Box 0 (acells (lastI [])) 255 (w2.alloc (.cells #[.int .i64 0, .int .i64 0, .int .i64 0, .int .i64 0, .int .i64 0, .int .i64 0, .int .i64 0, .int .i64 0, .int .i64 0, .int .i64 0] 255)) w2.heap.size) := newBox (Nat.zero_le _)
  have hz2 := hb.size
  clear hb HL HF g0
  go_wp2_with fail
  generalize w2.alloc (.cells #[.int .i64 0, .int .i64 0, .int .i64 0, .int .i64 0, .int .i64 0, .int .i64 0, .int .i64 0, .int .i64 0, .int .i64 0, .int .i64 0] 255) = W1 at *
  generalize w2.heap.size = L at *
  go_loopw [17] (fun i wr => ∃ k : Nat, k ≤ ws.length ∧ i = .int .i64 k ∧ (∀ j (hj : j < ws.length), j < k → lastI ([] ++ ws.take j) (ws[j]).session < (ws[j]).seq) ∧ Box 0 (acells (lastI (ws.take k))) 255 wr L ∧ Below w.heap.size w wr) (fun i _ => ws.length - (intOf i).toNat)
  case atStart => exact ⟨0, Nat.zero_le _, rfl, fun j _ hj => by omega, unhide HX0, unhide HB0⟩
  case round =>
    obtain ⟨k, hk, rfl, hz, hX, hB⟩ := hrel
    clear HX0 HB0
    by_cases hlt : k < ws.length
    · obtain ⟨row, hc, hr⟩ := Lay.row_at (unhide H) hlt
      replace hr := hr.later hB
      obtain ⟨a2, d2, rfl, R2⟩ := open_Write hr
      have c0 : wr.cell? ⟨b, off + k * 5, none⟩ = some (.int .i64 (ws[k]).kind) := (hB.cell (p := ⟨b, off + k * 5, none⟩) hbl).trans (hc 0 (by decide))
      have c1 : wr.cell? ⟨b, off + k * 5 + 1, none⟩ = some (.int .i64 (ws[k]).id) := (hB.cell (p := ⟨b, off + k * 5 + 1, none⟩) hbl).trans (hc 1 (by decide))
      have c2 : wr.cell? ⟨b, off + k * 5 + 2, none⟩ = some (.slice a2 (ws[k]).vec.length d2) := (hB.cell (p := ⟨b, off + k * 5 + 2, none⟩) hbl).trans (hc 2 (by decide))
      have c3 : wr.cell? ⟨b, off + k * 5 + 3, none⟩ = some (.int .i64 (ws[k]).session) := (hB.cell (p := ⟨b, off + k * 5 + 3, none⟩) hbl).trans (hc 3 (by decide))
      have c4 : wr.cell? ⟨b, off + k * 5 + 4, none⟩ = some (.int .i64 (ws[k]).seq) := (hB.cell (p := ⟨b, off + k * 5 + 4, none⟩) hbl).trans (hc 4 (by decide))
      have hsq := wF_seq (unhide HA ws[k] (List.getElem_mem hlt))
      have HAT : Hid ((ws[k]).seq ≤ lastI (ws.take k) (ws[k]).session → onceB [] ws = false) := fun he => onceB_at ws [] k hlt (by simpa using he)
      have HZ2 : Hid (lastI (ws.take k) (ws[k]).session < (ws[k]).seq → ∀ j (hj : j < ws.length), j < k + 1 → lastI ([] ++ ws.take j) (ws[j]).session < (ws[j]).seq) := by
        intro h0 j hj hjk
        by_cases hjk2 : j < k
        · exact hz j hj hjk2
        · obtain rfl : j = k := by omega
          simpa using h0
      have HLT : Hid (lastI (ws.take k) (ws[k]).session < (ws[k]).seq → ∀ j : Int, (if j = ((ws[k]).session.toNat : Int) then (ws[k]).seq else lastI (ws.take k) j) = lastI (ws.take (k + 1)) j) := by
        intro h0 j
        have h9 := wF_seq (unhide HA ws[k] (List.getElem_mem hlt))
        rw [lastI_take ws k hlt, show ((ws[k]).session.toNat : Int) = (ws[k]).session by omega]
        by_cases e : j = (ws[k]).session
        · rw [if_pos e, if_pos e.symm, e]; omega
        · rw [if_neg e, if_neg (fun h => e h.symm)]
      clear hc hr hz R2
      generalize hx : ws[k] = x at *
      clear hx
      have hbr : b < wr.heap.size := Nat.lt_of_lt_of_le hbl hB.size
      have nb : Below wr.heap.size wr (wr.alloc (.cells #[.int .i64 x.kind, .int .i64 x.id, .slice a2 x.vec.length d2, .int .i64 x.session, .int .i64 x.seq] 94)) := (Below.refl _ _).alloc (Nat.le_refl _) _
      have bI : Box 0 #[.int .i64 x.kind, .int .i64 x.id, .slice a2 x.vec.length d2, .int .i64 x.session, .int .i64 x.seq] 94 (wr.alloc (.cells #[.int .i64 x.kind, .int .i64 x.id, .slice a2 x.vec.length d2, .int .i64 x.session, .int .i64 x.seq] 94)) wr.heap.size := newBox (Nat.zero_le _)
      have hLq := hX.lt
      have HX1 := hide (hX.keep nb)
      have HB1 := hide (hB.trans (nb.mono hB.size))
      have HBI := hide bI
      have hLw : w.heap.size ≤ L := hz2
      clear nb bI hX hB
      go_wp2_with fail
      clear c0 c1 c2 c3 c4
      generalize wr.alloc (.cells #[.int .i64 x.kind, .int .i64 x.id, .slice a2 x.vec.length d2, .int .i64 x.session, .int .i64 x.seq] 94) = W0 at *
      obtain ⟨b1, b9, q1, q9⟩ := hsq
      have hs9 : x.session.toNat < 10 := by omega
      have hsi : (x.session.toNat : Int) = x.session := by omega
      have i1 : (0 : Int) ≤ x.session := by omega
      have i2 : x.session < 10 := by omega
      have hXD := unhide HX1
      have hID := unhide HBI
      refine wp_region_noPanic ?_
      refine wp_region_held_drew (S := fun w' => w' = W0.drew) (by kernel_rfl) rfl (fun hHeld => ?_)
      refine wpAnyH_take (i := 0) (oi := { dst := some 21, op := Go.Op.fieldAddr 94 (Go.Operand.tmp 7) 4, type := 0, pos := "l05_session.go:155", after := #[], guard := none }) (v := ?vo0) rfl (by kernel_rfl) (by kernel_rfl) (by kernel_rfl) (fun _ _ _ h => h) (Or.inl ⟨by rfl, ?ho0⟩) hHeld ?ro0
      case ho0 =>
        intro wS hSw
        (try dsimp only at hSw)
        go_simp
        try with_reducible rfl
      case ro0 =>
      simp only [Act.put, List.setIfInBounds_toArray, List.set_cons_zero, List.set_cons_succ]
      refine wpAnyH_take (i := 1) (oi := { dst := some 22, op := Go.Op.load 2 (Go.Operand.tmp 21), type := 2, pos := "l05_session.go:155", after := #[{ on := 0, ground := Go.Ground.data }], guard := none }) (v := ?vo1) rfl (by kernel_rfl) (by kernel_rfl) (by kernel_rfl) (fun _ _ _ h => h) (Or.inl ⟨by rfl, ?ho1⟩) hHeld ?ro1
      case ho1 =>
        intro wS hSw
        have y3 : wS.cell? ⟨wr.heap.size, 3, none⟩ = some (.int .i64 x.session) := by rw [hSw]; exact hID.at 3 _ rfl
        have y4 : wS.cell? ⟨wr.heap.size, 4, none⟩ = some (.int .i64 x.seq) := by rw [hSw]; exact hID.at 4 _ rfl
        have yl : wS.cell? ⟨L, x.session.toNat, none⟩ = some (.int .i64 (lastI (ws.take k) x.session)) := by
          have := hXD.at _ _ (acells_at (lastI (ws.take k)) x.session.toNat hs9)
          rw [hsi] at this
          rw [hSw]; exact this
        clear hSw
        (try dsimp only at hSw)
        go_simp
        try with_reducible rfl
      case ro1 =>
      simp only [Act.put, List.setIfInBounds_toArray, List.set_cons_zero, List.set_cons_succ]
      refine wpAnyH_take (i := 2) (oi := { dst := some 23, op := Go.Op.fieldAddr 94 (Go.Operand.tmp 7) 3, type := 0, pos := "l05_session.go:155", after := #[], guard := none }) (v := ?vo2) rfl (by kernel_rfl) (by kernel_rfl) (by kernel_rfl) (fun _ _ _ h => h) (Or.inl ⟨by rfl, ?ho2⟩) hHeld ?ro2
      case ho2 =>
        intro wS hSw
        (try dsimp only at hSw)
        go_simp
        try with_reducible rfl
      case ro2 =>
      simp only [Act.put, List.setIfInBounds_toArray, List.set_cons_zero, List.set_cons_succ]
      refine wpAnyH_take (i := 3) (oi := { dst := some 24, op := Go.Op.load 2 (Go.Operand.tmp 23), type := 2, pos := "l05_session.go:155", after := #[{ on := 2, ground := Go.Ground.data }], guard := none }) (v := ?vo3) rfl (by kernel_rfl) (by kernel_rfl) (by kernel_rfl) (fun _ _ _ h => h) (Or.inl ⟨by rfl, ?ho3⟩) hHeld ?ro3
      case ho3 =>
        intro wS hSw
        have y3 : wS.cell? ⟨wr.heap.size, 3, none⟩ = some (.int .i64 x.session) := by rw [hSw]; exact hID.at 3 _ rfl
        have y4 : wS.cell? ⟨wr.heap.size, 4, none⟩ = some (.int .i64 x.seq) := by rw [hSw]; exact hID.at 4 _ rfl
        have yl : wS.cell? ⟨L, x.session.toNat, none⟩ = some (.int .i64 (lastI (ws.take k) x.session)) := by
          have := hXD.at _ _ (acells_at (lastI (ws.take k)) x.session.toNat hs9)
          rw [hsi] at this
          rw [hSw]; exact this
        clear hSw
        (try dsimp only at hSw)
        go_simp
        try with_reducible rfl
      case ro3 =>
      simp only [Act.put, List.setIfInBounds_toArray, List.set_cons_zero, List.set_cons_succ]
      refine wpAnyH_take (i := 4) (oi := { dst := some 25, op := Go.Op.indexAddr 255 (Go.Operand.tmp 5) (Go.Operand.tmp 24), type := 0, pos := "l05_session.go:155", after := #[{ on := 3, ground := Go.Ground.data }], guard := none }) (v := ?vo4) rfl (by kernel_rfl) (by kernel_rfl) (by kernel_rfl) (fun _ _ _ h => h) (Or.inl ⟨by rfl, ?ho4⟩) hHeld ?ro4
      case ho4 =>
        intro wS hSw
        (try dsimp only at hSw)
        go_simp
        try with_reducible rfl
      case ro4 =>
      simp only [Act.put, List.setIfInBounds_toArray, List.set_cons_zero, List.set_cons_succ]
      refine wpAnyH_take (i := 5) (oi := { dst := some 26, op := Go.Op.load 2 (Go.Operand.tmp 25), type := 2, pos := "l05_session.go:155", after := #[{ on := 4, ground := Go.Ground.data }], guard := none }) (v := ?vo5) rfl (by kernel_rfl) (by kernel_rfl) (by kernel_rfl) (fun _ _ _ h => h) (Or.inl ⟨by rfl, ?ho5⟩) hHeld ?ro5
      case ho5 =>
        intro wS hSw
        have y3 : wS.cell? ⟨wr.heap.size, 3, none⟩ = some (.int .i64 x.session) := by rw [hSw]; exact hID.at 3 _ rfl
        have y4 : wS.cell? ⟨wr.heap.size, 4, none⟩ = some (.int .i64 x.seq) := by rw [hSw]; exact hID.at 4 _ rfl
        have yl : wS.cell? ⟨L, x.session.toNat, none⟩ = some (.int .i64 (lastI (ws.take k) x.session)) := by
          have := hXD.at _ _ (acells_at (lastI (ws.take k)) x.session.toNat hs9)
          rw [hsi] at this
          rw [hSw]; exact this
        clear hSw
        (try dsimp only at hSw)
        go_simp
        try with_reducible rfl
      case ro5 =>
      simp only [Act.put, List.setIfInBounds_toArray, List.set_cons_zero, List.set_cons_succ]
      refine wpAnyH_take (i := 6) (oi := { dst := some 27, op := Go.Op.binOp Go.BinOp.leq 2 (Go.Operand.tmp 22) (Go.Operand.tmp 26) 2, type := 4, pos := "l05_session.go:155", after := #[{ on := 1, ground := Go.Ground.data }, { on := 5, ground := Go.Ground.data }], guard := none }) (v := ?vo6) rfl (by kernel_rfl) (by kernel_rfl) (by kernel_rfl) (fun _ _ _ h => h) (Or.inl ⟨by rfl, ?ho6⟩) hHeld ?ro6
      case ho6 =>
        intro wS hSw
        (try dsimp only at hSw)
        go_simp
        try with_reducible rfl
      case ro6 =>
      simp only [Act.put, List.setIfInBounds_toArray, List.set_cons_zero, List.set_cons_succ]
      refine wpAnyH_done (by kernel_rfl) ?_ _
      refine NoPanic.normal ?_
      clear hHeld
      have HBD := hide (unhide HB1).drew
      have hX2 : Box 0 (acells (lastI (ws.take k))) 255 W0.drew L := unhide HX1
      have hI2 : Box 0 #[.int .i64 x.kind, .int .i64 x.id, .slice a2 x.vec.length d2, .int .i64 x.session, .int .i64 x.seq] 94 W0.drew wr.heap.size := unhide HBI
      generalize W0.drew = W2 at *
      clear HX1 HBI HB1 hXD hID
      by_cases hq : x.seq ≤ lastI (ws.take k) x.session
      · have hd : decide (x.seq ≤ lastI (ws.take k) x.session) = true := by simpa using hq
        have HG := hide (unhide HAT hq)
        clear hq HAT HZ2 HLT hsi
        rw [hd]
        go_wp2_with fail
        go_ret
        exact ⟨by rw [unhide HG]; first | done | rfl, unhide HBD⟩
      · have hd : decide (x.seq ≤ lastI (ws.take k) x.session) = false := by simpa using hq
        have HZ := hide (unhide HZ2 (by omega))
        have HX3 : Hid (Box 0 (acells (lastI (ws.take (k + 1)))) 255 (W2.setCell ⟨L, x.session.toNat, none⟩ (.int .i64 x.seq)) L) := by
          have e := hX2.set x.session.toNat (.int .i64 x.seq)
          rw [acells_set _ _ hs9, funext (unhide HLT (by omega))] at e
          exact e
        have HB3 : Hid (Below w.heap.size w (W2.setCell ⟨L, x.session.toNat, none⟩ (.int .i64 x.seq))) := (unhide HBD).setCell (by simp; omega) _
        have y3 : W2.cell? ⟨wr.heap.size, 3, none⟩ = some (.int .i64 x.session) := hI2.at 3 _ rfl
        have y4 : W2.cell? ⟨wr.heap.size, 4, none⟩ = some (.int .i64 x.seq) := hI2.at 4 _ rfl
        have yl : W2.cell? ⟨L, x.session.toNat, none⟩ = some (.int .i64 (lastI (ws.take k) x.session)) := by
          have := hX2.at _ _ (acells_at (lastI (ws.take k)) x.session.toNat hs9)
          rwa [hsi] at this
        have fl := hX2.soft x.session.toNat
        have ll := hX2.lt
        clear hq HAT HZ2 HLT hsi hX2 hI2 HBD
        rw [hd]
        go_wp2_with fail
        go_roundw
        case rel => exact ⟨k + 1, by omega, by go_num, unhide HZ, unhide HX3, unhide HB3⟩
        case measure => simp [intOf]; omega
    · obtain rfl : k = ws.length := by omega
      have HG : Hid (onceB [] ws = true) := onceB_all ws [] fun j hj => hz j hj hj
      have HB := hide hB
      clear H hz hB hX
      go_wp2_with fail
      go_ret
      exact ⟨by rw [unhide HG]; first | done | rfl, unhide HB⟩

set_option maxRecDepth 10000 in
set_option maxHeartbeats 1000000 in
/-- OnceRight of the program. -/
theorem implOnce (v : Value) (ws : List DWrite) (w : World) (h : (Lay.sl Lay.tWrite).Reads w [v] ws) :
    Calls Tryz.prog 245 #[v] w fun e w' => e = .returned (.bool (onceR ws)) ∧ Below w.heap.size w w' := by
  obtain ⟨ao, cap, rfl⟩ := open_sl h
  by_cases hf : writesF ws = 0
  · have e1 : onceR ws = onceB [] ws := by simp [onceR, hf]
    rw [e1]
    by_cases hp : 0 < ws.length
    · obtain ⟨b, off, rfl, hbl⟩ := Lay.sl_addr h hp
      exact onceRight_pos b off cap ws w h hbl hf
    · obtain rfl : ws = [] := List.eq_nil_of_length_eq_zero (by omega)
      have HL := hide (storyC _ [] w h)
      clear h hp e1 hf
      go_enter Tryz.func245, Tryz.ntmps245
      go_wp2_with fail
      refine (unhide HL).mono ?_
      rintro e w2 ⟨r, rfl, g0, -, hb⟩
      obtain ⟨rfl, -⟩ := g0 rfl
      rw [show writesF [] = 0 from rfl]
      have HB0 := hide (hb.alloc hb.size (.cells #[.int .i64 0, .int .i64 0, .int .i64 0, .int .i64 0, .int .i64 0, .int .i64 0, .int .i64 0, .int .i64 0, .int .i64 0, .int .i64 0] 255))
      clear hb HL g0
      go_wp2_with fail
      refine wp_loop_rounds 1 ?_
      rw [rounds_succ]
      go_wp2_with fail
      go_ret
      exact ⟨rfl, unhide HB0⟩
  · have HL := hide (storyC _ ws w h)
    have HG : Hid (onceR ws = false) := by show onceR ws = _; simp [onceR, hf]
    have hd : (writesF ws != 0) = true := by simpa using hf
    clear h
    go_enter Tryz.func245, Tryz.ntmps245
    go_wp2_with fail
    refine (unhide HL).mono ?_
    rintro e w2 ⟨r, rfl, -, -, hb⟩
    have HB0 := hide hb
    clear hb HL hf
    go_wp2_with fail
    go_ret
    exact ⟨by rw [unhide HG]; first | done | rfl, unhide HB0⟩

end Go.Proofs.YtdnhmoppineegaaGreat

namespace Go.Proofs.YtdnhmoppineegaaGreat
open Go.RowKit

/-- WriteFault of the program. -/
theorem implWriteFault (k i : Int) (v : Value) (s q : Int) (zs : List Int) (w : World) (h : IsInts w v zs) :
    Calls Tryz.prog 244 #[.agg #[.int .i64 k, .int .i64 i, v, .int .i64 s, .int .i64 q]] w fun e w' => e = .returned (.int .i64 (writeFault k i zs s q)) ∧ Below w.heap.size w w' := by
  have h' := h
  obtain ⟨ao, cap, rfl, -⟩ := h'
  have B0 : Below w.heap.size w (w.alloc (.cells #[.int .i64 k, .int .i64 i, .slice ao zs.length cap, .int .i64 s, .int .i64 q] 94)) := (Below.refl _ _).alloc (Nat.le_refl _) _
  have L := hide (implDeed k i (.slice ao zs.length cap) s q zs _ (h.later B0))
  have HB := hide B0
  clear B0 h
  go_enter Tryz.func244, Tryz.ntmps244
  go_wp2_with fail
  refine (unhide L).mono ?_
  rintro e w1 ⟨rfl, hb1⟩
  have HB1 := hide ((unhide HB).trans (hb1.mono (unhide HB).size))
  clear hb1 HB L
  go_wp2_with fail
  go_ret
  exact ⟨rfl, unhide HB1⟩

end Go.Proofs.YtdnhmoppineegaaGreat
