/-
  Texts of this proof in one: SpecChainF, SpecChainO, SpecWN, SpecNetF.
  Their conditions stand in their theorems.
-/
import Derived.Test.YtdnhmoppineegaaGreatChecked
import Derived.Test.YtdnhmoppineegaaGreatSw04
import Derived.Test.YtdnhmoppineegaaGreatSw05
import Derived.Test.YtdnhmoppineegaaGreatSw09
import Derived.Test.YtdnhmoppineegaaGreatSw10
import Derived.Deep.RegionHeld3
import Derived.Test.YtdnhmoppineegaaGreatSw06
import Derived.Test.YtdnhmoppineegaaGreatSw01

namespace Go.Proofs.YtdnhmoppineegaaGreat
open Go.RowKit

/-- A chain in a block. -/
abbrev ChainAt (w : World) (b : Nat) (v : Value) (x : DChain) : Prop := Box 0 #[.int .i64 x.epoch, v] 31 w b
set_option maxRecDepth 10000 in
set_option maxHeartbeats 1000000 in
theorem l10AtC (b : Nat) (a : Option Addr) (d : Nat) (x : DChain) (id : Int) (w : World) (hX : ChainAt w b (.slice a x.ids.length d) x) (R : (Lay.sl Lay.int).Reads w [.slice a x.ids.length d] x.ids) :
    Calls Tryz.prog 71 #[.pointer (some ⟨b, 0, none⟩), .int .i64 id] w fun e w' => e = .returned (.int .i64 (placeC x.ids id)) ∧ w' = w := by
  have x1 := Box.at hX 1 _ rfl
  simp only [List.getElem_toArray, List.getElem_cons_zero, List.getElem_cons_succ] at x1
  have xl := Box.lt hX
  have hbig := R.big
  have H := hide R
  clear hX R
  generalize x.ids = ids at *
  go_enter Tryz.func71, Tryz.ntmps71
  go_wp2_with fail
  go_loop [5] (fun i => ∃ k : Nat, k ≤ ids.length ∧ i = .int .i64 k ∧ (∀ j (hj : j < ids.length), j < k → ids[j] ≠ id)) (fun i => ids.length - (intOf i).toNat)
  case atStart => exact ⟨0, Nat.zero_le _, rfl, fun j _ h => by omega⟩
  case round =>
    obtain ⟨k, hk, rfl, hz⟩ := hrel
    by_cases hlt : k < ids.length
    · obtain ⟨b2, off, rfl, -⟩ := Lay.sl_addr (unhide H) (by omega)
      have c1 := int_cell (unhide H) hlt
      cases hq : (ids[k] == id)
      · have HZ : Hid (∀ j (hj : j < ids.length), j < k + 1 → ids[j] ≠ id) := fun j hj hjk => by
          by_cases h2 : j < k
          · exact hz j hj h2
          · obtain rfl : j = k := by omega
            simpa using hq
        clear hz
        generalize ids[k] = z at *
        go_wp2_with fail
        go_round
        case rel => exact ⟨k + 1, by omega, by go_num, unhide HZ⟩
        case measure => simp [intOf]; omega
      · have HP := hide (placeC_at hlt (by simpa using hq) (fun j hj => hz j (by omega) hj))
        clear hz
        generalize ids[k] = z at *
        go_wp2_with fail
        go_ret
        exact ⟨by rw [unhide HP]; rfl, rfl⟩
    · obtain rfl : k = ids.length := by omega
      have HP := hide (placeC_none (id := id) (fun j hj => hz j hj hj))
      clear hz
      go_wp2_with fail
      go_ret
      exact ⟨by rw [unhide HP]; rfl, rfl⟩

theorem cf_epoch {x : DChain} (h : (decide (1 ≤ x.epoch) && decide (x.epoch ≤ 999)) = false) : chainFault x = 3 := by
  rw [chainFault, if_neg]
  simpa using h
theorem cf_len {x : DChain} (h : (decide (1 ≤ x.epoch) && decide (x.epoch ≤ 999)) = true) (hn : x.ids.length < 1 ∨ 5 < x.ids.length) : chainFault x = 2 := by
  rw [chainFault, if_pos (by simpa using h), if_neg (by omega)]
theorem cf_ids {x : DChain} (h : (decide (1 ≤ x.epoch) && decide (x.epoch ≤ 999)) = true) (hn : ¬ x.ids.length < 1) (hm : ¬ 5 < x.ids.length) : chainFault x = idsF (x.ids.take 0) (x.ids.drop 0) := by
  rw [chainFault, if_pos (by simpa using h), if_pos (by omega)]
  simp

set_option maxRecDepth 10000 in
set_option maxHeartbeats 1000000 in
theorem l10FaultC (b : Nat) (a : Option Addr) (d : Nat) (x : DChain) (w : World) (hX : ChainAt w b (.slice a x.ids.length d) x) (R : (Lay.sl Lay.int).Reads w [.slice a x.ids.length d] x.ids) :
    Calls Tryz.prog 149 #[.pointer (some ⟨b, 0, none⟩)] w fun e w' => e = .returned (.int .i64 (chainFault x)) ∧ w' = w := by
  have x0 := Box.at hX 0 _ rfl
  have x1 := Box.at hX 1 _ rfl
  simp only [List.getElem_toArray, List.getElem_cons_zero, List.getElem_cons_succ] at x0 x1
  have xl := Box.lt hX
  have hbig := R.big
  have HX := hide hX
  have H := hide R
  clear hX R
  go_enter Tryz.func149, Tryz.ntmps149
  go_wp2_with fail
  refine (inC x.epoch 1 999 w).mono ?_
  rintro e w1 ⟨rfl, h1⟩
  subst w1
  cases d1 : (decide (1 ≤ x.epoch) && decide (x.epoch ≤ 999))
  · have HF := hide (cf_epoch d1)
    clear d1
    go_wp2_with fail
    go_ret
    exact ⟨by rw [unhide HF]; rfl, rfl⟩
  · by_cases hn : x.ids.length < 1
    · have HF := hide (cf_len d1 (Or.inl hn))
      have hd : decide ((x.ids.length : Int) < 1) = true := by simp; omega
      clear d1
      go_wp2_with fail
      go_ret
      exact ⟨by rw [unhide HF]; rfl, rfl⟩
    · have hd : decide ((x.ids.length : Int) < 1) = false := by simp; omega
      by_cases hm : 5 < x.ids.length
      · have HF := hide (cf_len d1 (Or.inr hm))
        have hd2 : decide ((5 : Int) < (x.ids.length : Int)) = true := by simp; omega
        clear d1
        go_wp2_with fail
        go_ret
        exact ⟨by rw [unhide HF]; rfl, rfl⟩
      · have HF := hide (cf_ids d1 hn hm)
        have hd2 : decide ((5 : Int) < (x.ids.length : Int)) = false := by simp; omega
        clear d1
        go_wp2_with fail
        clear hd hd2
        go_loop [3] (fun i => ∃ k : Nat, k ≤ x.ids.length ∧ i = .int .i64 k ∧ chainFault x = idsF (x.ids.take k) (x.ids.drop k)) (fun i => x.ids.length - (intOf i).toNat)
        case atStart => exact ⟨0, Nat.zero_le _, rfl, unhide HF⟩
        case round =>
          obtain ⟨k, hk, rfl, hz⟩ := hrel
          clear HF
          by_cases hlt : k < x.ids.length
          · rw [idsF_step x.ids k hlt] at hz
            have hself := placeC_self hlt
            obtain ⟨b2, off, rfl, -⟩ := Lay.sl_addr (unhide H) (by omega)
            have c1 := int_cell (unhide H) hlt
            have HP := hide (l10AtC b (some ⟨b2, off, none⟩) d x x.ids[k] w (unhide HX) (unhide H))
            have hdl : decide ((k : Int) < (x.ids.length : Int)) = true := by simp; omega
            have HZ := hide hz
            have HS := hide hself
            clear hz hself
            generalize x.ids[k] = z at *
            go_wp2_with fail
            refine (node10C z w).mono ?_
            rintro e w1 ⟨rfl, h1⟩
            subst w1
            cases d2 : (decide (1 ≤ z) && decide (z ≤ 5))
            · have hz := unhide HZ
              rw [if_neg (by simpa using d2)] at hz
              have HF := hide hz
              clear d2 HZ HS hz
              go_wp2_with fail
              go_ret
              exact ⟨by rw [unhide HF]; rfl, rfl⟩
            · have hz := unhide HZ
              rw [if_pos (by simpa using d2)] at hz
              have HZ2 := hide hz
              clear d2 HZ hz
              go_wp2_with fail
              refine (unhide HP).mono ?_
              rintro e w1 ⟨rfl, h1⟩
              subst w1
              clear HP
              by_cases hq : placeC x.ids z = (k : Int)
              · have hz := unhide HZ2
                rw [if_neg ((unhide HS).1 hq)] at hz
                have HF := hide hz
                have hb : (placeC x.ids z != (k : Int)) = false := by rw [hq]; simp
                clear HZ2 HS hz hq
                generalize placeC x.ids z = p at *
                go_wp2_with fail
                go_round
                case rel => exact ⟨k + 1, by omega, by go_num, unhide HF⟩
                case measure => simp [intOf]; omega
              · have hz := unhide HZ2
                rw [if_pos (Classical.not_not.1 fun hc => hq ((unhide HS).2 hc))] at hz
                have HF := hide hz
                have hb : (placeC x.ids z != (k : Int)) = true := by rw [bne_iff_ne]; exact hq
                clear HZ2 HS hz hq
                generalize placeC x.ids z = p at *
                go_wp2_with fail
                go_ret
                exact ⟨by rw [unhide HF]; rfl, rfl⟩
          · obtain rfl : k = x.ids.length := by omega
            rw [idsF_end] at hz
            have hdl : decide ((x.ids.length : Int) < (x.ids.length : Int)) = false := by simp
            have HF := hide hz
            clear hz
            go_wp2_with fail
            go_ret
            exact ⟨by rw [unhide HF]; rfl, rfl⟩

end Go.Proofs.YtdnhmoppineegaaGreat

namespace Go.Proofs.YtdnhmoppineegaaGreat
open Go.RowKit

/-- A chain at a place. -/
def ChainAtO (w : World) (b o : Nat) (v : Value) (x : DChain) : Prop := w.cell? ⟨b, o, none⟩ = some (.int .i64 x.epoch) ∧ w.cell? ⟨b, o + 1, none⟩ = some v
theorem ChainAtO.later {w w' : World} {b o : Nat} {v : Value} {x : DChain} (h : ChainAtO w b o v x) (hb : Below w.heap.size w w') : ChainAtO w' b o v x := by
  have hl : b < w.heap.size := World.block_lt_of_cell? _ _ h.1
  exact ⟨(hb.cell (p := ⟨b, o, none⟩) hl).trans h.1, (hb.cell (p := ⟨b, o + 1, none⟩) hl).trans h.2⟩
set_option maxRecDepth 10000 in
set_option maxHeartbeats 1000000 in
theorem l10AtO (b o : Nat) (a : Option Addr) (d : Nat) (x : DChain) (id : Int) (w : World) (hX : ChainAtO w b o (.slice a x.ids.length d) x) (R : (Lay.sl Lay.int).Reads w [.slice a x.ids.length d] x.ids) :
    Calls Tryz.prog 71 #[.pointer (some ⟨b, o, none⟩), .int .i64 id] w fun e w' => e = .returned (.int .i64 (placeC x.ids id)) ∧ w' = w := by
  have x1 := hX.2
  have xl : b < w.heap.size := World.block_lt_of_cell? _ _ x1
  have hbig := R.big
  have H := hide R
  clear hX R
  generalize x.ids = ids at *
  go_enter Tryz.func71, Tryz.ntmps71
  go_wp2_with fail
  go_loop [5] (fun i => ∃ k : Nat, k ≤ ids.length ∧ i = .int .i64 k ∧ (∀ j (hj : j < ids.length), j < k → ids[j] ≠ id)) (fun i => ids.length - (intOf i).toNat)
  case atStart => exact ⟨0, Nat.zero_le _, rfl, fun j _ h => by omega⟩
  case round =>
    obtain ⟨k, hk, rfl, hz⟩ := hrel
    by_cases hlt : k < ids.length
    · obtain ⟨b2, off, rfl, -⟩ := Lay.sl_addr (unhide H) (by omega)
      have c1 := int_cell (unhide H) hlt
      cases hq : (ids[k] == id)
      · have HZ : Hid (∀ j (hj : j < ids.length), j < k + 1 → ids[j] ≠ id) := fun j hj hjk => by
          by_cases h2 : j < k
          · exact hz j hj h2
          · obtain rfl : j = k := by omega
            simpa using hq
        clear hz
        generalize ids[k] = z at *
        go_wp2_with fail
        go_round
        case rel => exact ⟨k + 1, by omega, by go_num, unhide HZ⟩
        case measure => simp [intOf]; omega
      · have HP := hide (placeC_at hlt (by simpa using hq) (fun j hj => hz j (by omega) hj))
        clear hz
        generalize ids[k] = z at *
        go_wp2_with fail
        go_ret
        exact ⟨by rw [unhide HP]; rfl, rfl⟩
    · obtain rfl : k = ids.length := by omega
      have HP := hide (placeC_none (id := id) (fun j hj => hz j hj hj))
      clear hz
      go_wp2_with fail
      go_ret
      exact ⟨by rw [unhide HP]; rfl, rfl⟩


set_option maxRecDepth 10000 in
set_option maxHeartbeats 1000000 in
theorem l10FaultO (b o : Nat) (a : Option Addr) (d : Nat) (x : DChain) (w : World) (hX : ChainAtO w b o (.slice a x.ids.length d) x) (R : (Lay.sl Lay.int).Reads w [.slice a x.ids.length d] x.ids) :
    Calls Tryz.prog 149 #[.pointer (some ⟨b, o, none⟩)] w fun e w' => e = .returned (.int .i64 (chainFault x)) ∧ w' = w := by
  have x0 := hX.1
  have x1 := hX.2
  have xl : b < w.heap.size := World.block_lt_of_cell? _ _ x1
  have hbig := R.big
  have HX := hide hX
  have H := hide R
  clear hX R
  go_enter Tryz.func149, Tryz.ntmps149
  go_wp2_with fail
  refine (inC x.epoch 1 999 w).mono ?_
  rintro e w1 ⟨rfl, h1⟩
  subst w1
  cases d1 : (decide (1 ≤ x.epoch) && decide (x.epoch ≤ 999))
  · have HF := hide (cf_epoch d1)
    clear d1
    go_wp2_with fail
    go_ret
    exact ⟨by rw [unhide HF]; rfl, rfl⟩
  · by_cases hn : x.ids.length < 1
    · have HF := hide (cf_len d1 (Or.inl hn))
      have hd : decide ((x.ids.length : Int) < 1) = true := by simp; omega
      clear d1
      go_wp2_with fail
      go_ret
      exact ⟨by rw [unhide HF]; rfl, rfl⟩
    · have hd : decide ((x.ids.length : Int) < 1) = false := by simp; omega
      by_cases hm : 5 < x.ids.length
      · have HF := hide (cf_len d1 (Or.inr hm))
        have hd2 : decide ((5 : Int) < (x.ids.length : Int)) = true := by simp; omega
        clear d1
        go_wp2_with fail
        go_ret
        exact ⟨by rw [unhide HF]; rfl, rfl⟩
      · have HF := hide (cf_ids d1 hn hm)
        have hd2 : decide ((5 : Int) < (x.ids.length : Int)) = false := by simp; omega
        clear d1
        go_wp2_with fail
        clear hd hd2
        go_loop [3] (fun i => ∃ k : Nat, k ≤ x.ids.length ∧ i = .int .i64 k ∧ chainFault x = idsF (x.ids.take k) (x.ids.drop k)) (fun i => x.ids.length - (intOf i).toNat)
        case atStart => exact ⟨0, Nat.zero_le _, rfl, unhide HF⟩
        case round =>
          obtain ⟨k, hk, rfl, hz⟩ := hrel
          clear HF
          by_cases hlt : k < x.ids.length
          · rw [idsF_step x.ids k hlt] at hz
            have hself := placeC_self hlt
            obtain ⟨b2, off, rfl, -⟩ := Lay.sl_addr (unhide H) (by omega)
            have c1 := int_cell (unhide H) hlt
            have HP := hide (l10AtO b o (some ⟨b2, off, none⟩) d x x.ids[k] w (unhide HX) (unhide H))
            have hdl : decide ((k : Int) < (x.ids.length : Int)) = true := by simp; omega
            have HZ := hide hz
            have HS := hide hself
            clear hz hself
            generalize x.ids[k] = z at *
            go_wp2_with fail
            refine (node10C z w).mono ?_
            rintro e w1 ⟨rfl, h1⟩
            subst w1
            cases d2 : (decide (1 ≤ z) && decide (z ≤ 5))
            · have hz := unhide HZ
              rw [if_neg (by simpa using d2)] at hz
              have HF := hide hz
              clear d2 HZ HS hz
              go_wp2_with fail
              go_ret
              exact ⟨by rw [unhide HF]; rfl, rfl⟩
            · have hz := unhide HZ
              rw [if_pos (by simpa using d2)] at hz
              have HZ2 := hide hz
              clear d2 HZ hz
              go_wp2_with fail
              refine (unhide HP).mono ?_
              rintro e w1 ⟨rfl, h1⟩
              subst w1
              clear HP
              by_cases hq : placeC x.ids z = (k : Int)
              · have hz := unhide HZ2
                rw [if_neg ((unhide HS).1 hq)] at hz
                have HF := hide hz
                have hb : (placeC x.ids z != (k : Int)) = false := by rw [hq]; simp
                clear HZ2 HS hz hq
                generalize placeC x.ids z = p at *
                go_wp2_with fail
                go_round
                case rel => exact ⟨k + 1, by omega, by go_num, unhide HF⟩
                case measure => simp [intOf]; omega
              · have hz := unhide HZ2
                rw [if_pos (Classical.not_not.1 fun hc => hq ((unhide HS).2 hc))] at hz
                have HF := hide hz
                have hb : (placeC x.ids z != (k : Int)) = true := by rw [bne_iff_ne]; exact hq
                clear HZ2 HS hz hq
                generalize placeC x.ids z = p at *
                go_wp2_with fail
                go_ret
                exact ⟨by rw [unhide HF]; rfl, rfl⟩
          · obtain rfl : k = x.ids.length := by omega
            rw [idsF_end] at hz
            have hdl : decide ((x.ids.length : Int) < (x.ids.length : Int)) = false := by simp
            have HF := hide hz
            clear hz
            go_wp2_with fail
            go_ret
            exact ⟨by rw [unhide HF]; rfl, rfl⟩


set_option maxRecDepth 10000 in
set_option maxHeartbeats 1000000 in
theorem l10NextO (b o : Nat) (a : Option Addr) (d : Nat) (x : DChain) (id dd : Int) (w : World) (hX : ChainAtO w b o (.slice a x.ids.length d) x) (R : (Lay.sl Lay.int).Reads w [.slice a x.ids.length d] x.ids) (hn : x.ids.length ≤ 1000) (hd : -1 ≤ dd ∧ dd ≤ 1) :
    Calls Tryz.prog 74 #[.pointer (some ⟨b, o, none⟩), .int .i64 id, .int .i64 dd] w fun e w' => e = .returned (.int .i64 (nextC x.ids id dd)) ∧ w' = w := by
  have x1 := hX.2
  have xl : b < w.heap.size := World.block_lt_of_cell? _ _ x1
  have HP := hide (l10AtO b o a d x id w hX R)
  have H := hide R
  clear hX R
  go_enter Tryz.func74, Tryz.ntmps74
  go_wp2_with fail
  refine (unhide HP).mono ?_
  rintro e w1 ⟨rfl, h1⟩
  subst w1
  clear HP
  have hb := placeC_bd x.ids id
  have HV : Hid (nextC x.ids id dd = if placeC x.ids id < 0 ∨ placeC x.ids id + dd < 0 ∨ (x.ids.length : Int) ≤ placeC x.ids id + dd then 0 else x.ids.getD (placeC x.ids id + dd).toNat 0) := rfl
  generalize placeC x.ids id = p at *
  by_cases h0 : p < 0
  · have HF := hide ((unhide HV).trans (if_pos (Or.inl h0)))
    have hd0 : decide (p < 0) = true := by simpa using h0
    clear HV
    go_wp2_with fail
    go_ret
    exact ⟨by rw [unhide HF]; rfl, rfl⟩
  · have hd0 : decide (p < 0) = false := by simpa using h0
    by_cases h1 : p + dd < 0
    · have HF := hide ((unhide HV).trans (if_pos (Or.inr (Or.inl h1))))
      have hd1 : decide (p + dd < 0) = true := by simpa using h1
      clear HV
      go_wp2_with fail
      go_ret
      exact ⟨by rw [unhide HF]; rfl, rfl⟩
    · have hd1 : decide (p + dd < 0) = false := by simpa using h1
      by_cases h2 : (x.ids.length : Int) ≤ p + dd
      · have HF := hide ((unhide HV).trans (if_pos (Or.inr (Or.inr h2))))
        have hd2 : decide ((x.ids.length : Int) ≤ p + dd) = true := by simpa using h2
        clear HV
        go_wp2_with fail
        go_ret
        exact ⟨by rw [unhide HF]; rfl, rfl⟩
      · have hd2 : decide ((x.ids.length : Int) ≤ p + dd) = false := by simp; omega
        obtain ⟨m, hm⟩ : ∃ m : Nat, p + dd = (m : Int) := ⟨(p + dd).toNat, by omega⟩
        have hml : m < x.ids.length := by omega
        have HF : Hid (nextC x.ids id dd = x.ids[m]) := by
          refine (unhide HV).trans ?_
          rw [if_neg (by omega), hm]
          simp [List.getD, hml]
        obtain ⟨b2, off, rfl, -⟩ := Lay.sl_addr (unhide H) (by omega)
        have c1 := int_cell (unhide H) hml
        clear HV
        generalize x.ids[m] = z at *
        rw [hm] at hd1 hd2
        go_wp2_with fail
        go_ret
        exact ⟨by rw [unhide HF]; rfl, rfl⟩
end Go.Proofs.YtdnhmoppineegaaGreat

namespace Go.Proofs.YtdnhmoppineegaaGreat
open Go.RowKit

theorem nodesF_dropS (c : DChain) {xs : List DNode} {k : Nat} (hk : k < xs.length) : nodesF c k (xs.drop k) = if nodeFault xs[k] ≠ 0 then nodeFault xs[k] else if (xs[k].id != (k : Int) + 1) = true then 1 else if (decide (c.epoch < xs[k].epoch) || ((xs[k].up && decide (0 ≤ placeC c.ids xs[k].id)) && (xs[k].epoch != c.epoch))) = true then 7 else nodesF c (k + 1) (xs.drop (k + 1)) := by
  rw [List.drop_eq_getElem_cons hk, nodesF]
  by_cases h1 : nodeFault xs[k] ≠ 0
  · rw [if_pos h1, if_pos h1]
  · rw [if_neg h1, if_neg h1]
    by_cases h2 : xs[k].id ≠ (k : Int) + 1
    · have b2 : (xs[k].id != (k : Int) + 1) = true := by simpa using h2
      rw [if_pos h2, b2, if_pos rfl]
    · have b2 : (xs[k].id != (k : Int) + 1) = false := by simpa using h2
      rw [if_neg h2, b2, if_neg (show ¬ (false = true) by simp)]
      by_cases h3 : c.epoch < xs[k].epoch ∨ (xs[k].up = true ∧ 0 ≤ placeC c.ids xs[k].id ∧ xs[k].epoch ≠ c.epoch)
      · have b3 : (decide (c.epoch < xs[k].epoch) || ((xs[k].up && decide (0 ≤ placeC c.ids xs[k].id)) && (xs[k].epoch != c.epoch))) = true := by
          rcases h3 with h3 | ⟨h4, h5, h6⟩
          · simp [h3]
          · simp [h4, h5, h6]
        rw [if_pos h3, b3, if_pos rfl]
      · rw [if_neg h3, if_neg]
        intro q
        apply h3
        simp only [Bool.or_eq_true, Bool.and_eq_true, decide_eq_true_eq, bne_iff_ne] at q
        rcases q with q | ⟨⟨q1, q2⟩, q3⟩
        · exact Or.inl q
        · exact Or.inr ⟨q1, q2, q3⟩
set_option maxRecDepth 100000 in
set_option maxHeartbeats 4000000 in
theorem l12NodesC (a3 : Option Addr) (d3 : Nat) (a4 : Option Addr) (d4 : Nat) (a5 : Option Addr) (d5 : Nat) (a6 : Option Addr) (d6 : Nat) (x : DWorld) (xb : Nat) (w : World) (hX : Box 0 #[.int .i64 x.now, .int .i64 x.events, .int .i64 x.chain.epoch, .slice a3 x.chain.ids.length d3, .slice a4 x.nodes.length d4, .slice a5 x.msgs.length d5, .slice a6 x.history.length d6] 36 w xb) (h : Lay.tWorld.Reads w [.int .i64 x.now, .int .i64 x.events, .int .i64 x.chain.epoch, .slice a3 x.chain.ids.length d3, .slice a4 x.nodes.length d4, .slice a5 x.msgs.length d5, .slice a6 x.history.length d6] x) :
    Calls Tryz.prog 164 #[.pointer (some ⟨xb, 0, none⟩)] w fun e w' => e = .returned (.int .i64 (nodesFault x)) ∧ Below w.heap.size w w' := by
  obtain ⟨_, _, _, _, _, _, _, _, hq, RC, RN, -, -⟩ := open_World h
  simp only [List.cons.injEq, Value.slice.injEq, and_true, true_and] at hq
  obtain ⟨⟨rfl, rfl⟩, ⟨rfl, rfl⟩, ⟨rfl, rfl⟩, rfl, rfl⟩ := hq
  obtain ⟨_, _, hq, RI⟩ := open_Chain RC
  simp only [List.cons.injEq, Value.slice.injEq, and_true, true_and] at hq
  obtain ⟨rfl, rfl⟩ := hq
  have hbig := RI.big
  have hbn := RN.big
  have HI := hide RI
  have HN := hide RN
  have HX := hide hX
  have HQ : Hid (nodesFault x = if nodesF x.chain 0 (x.nodes.drop 0) ≠ 0 then nodesF x.chain 0 (x.nodes.drop 0) else if (x.chain.ids.drop 0).all (nodeIn x) = true then 0 else 4) := by
    show nodesFault x = _
    unfold nodesFault
    rfl
  have HV : Hid (∀ n, nodesF x.chain 0 (x.nodes.drop 0) = n → n ≠ 0 → nodesFault x = n) := fun n h1 h2 => by rw [unhide HQ, h1, if_pos h2]
  have HV0 : Hid (nodesF x.chain 0 (x.nodes.drop 0) = 0 → nodesFault x = if (x.chain.ids.drop 0).all (nodeIn x) = true then 0 else 4) := fun h1 => by rw [unhide HQ, h1]; rfl
  clear RC RN RI h hX HQ
  generalize nodesFault x = r at *
  generalize hF0 : nodesF x.chain 0 (x.nodes.drop 0) = f0 at *
  replace hF0 := hF0.symm
  go_enter Tryz.func164, Tryz.ntmps164
  go_wp2_with fail
  go_loopw [3] (fun i wr => ∃ k : Nat, k ≤ x.nodes.length ∧ i = .int .i64 k ∧ f0 = nodesF x.chain k (x.nodes.drop k) ∧ Below w.heap.size w wr) (fun i _ => x.nodes.length - (intOf i).toNat)
  case atStart => exact ⟨0, Nat.zero_le _, rfl, hF0, Below.refl _ _⟩
  case round =>
    obtain ⟨k, hk, rfl, hF, hB⟩ := hrel
    clear hF0
    have hX1 := (unhide HX).keep hB
    have v2 := Box.at hX1 2 _ rfl
    have v3 := Box.at hX1 4 _ rfl
    have w3 := Box.at hX1 3 _ rfl
    simp only [List.getElem_toArray, List.getElem_cons_zero, List.getElem_cons_succ] at v2 v3 w3
    have xl := hX1.lt
    have HX1 := hide hX1
    clear hX1 w3
    by_cases hlt : k < x.nodes.length
    · obtain ⟨b, off, rfl, hbl⟩ := Lay.sl_addr (unhide HN) (by omega)
      obtain ⟨row, hcl, hr⟩ := Lay.row_at (unhide HN) hlt
      replace hr := hr.later hB
      rw [nodesF_dropS x.chain hlt] at hF
      have hdl : decide ((k : Int) < (x.nodes.length : Int)) = true := by simp; omega
      have hrl := hr.len
      obtain ⟨a4n, d4n, rfl, RW⟩ := open_Node hr
      have hRI : RowIn #[.int .i64 (x.nodes[k]).id, .bool (x.nodes[k]).up, .int .i64 (x.nodes[k]).epoch, .int .i64 (x.nodes[k]).lease, .slice a4n (x.nodes[k]).writes.length d4n, .int .i64 (x.nodes[k]).sure, .int .i64 (x.nodes[k]).clean] wr b (off + k * 7) := RowIn.ofRow (A := Lay.tNode) (k := k) (fun m hm => (hB.cell (p := ⟨b, off + k * 7 + m, none⟩) hbl).trans (hcl m hm)) hrl (Nat.lt_of_lt_of_le hbl hB.size)
      have hI := (unhide HI).later hB
      have HL := hide (l9FaultO b (off + k * 7) a4n d4n _ wr hRI RW)
      have HRI := hide hRI
      have HB := hide hB
      have HF := hide hF
      have HI1 := hide hI
      clear hF hB hr hrl hcl hRI hI RW
      generalize hx : x.nodes[k] = n at *
      clear hx
      go_wp2_with fail
      refine (unhide HL).mono ?_
      rintro e w5 ⟨rfl, hb⟩
      replace HX1 := hide ((unhide HX1).keep hb)
      replace HRI := hide ((unhide HRI).keep hb)
      replace HI1 := hide ((unhide HI1).later hb)
      replace HB := hide ((unhide HB).trans (hb.mono (unhide HB).size))
      clear hb HL v2 v3
      by_cases e1 : nodeFault n ≠ 0
      · have hd : (nodeFault n != 0) = true := by simpa using e1
        have HE := hide (unhide HV _ ((unhide HF).trans (if_pos e1)) e1)
        clear e1
        generalize nodeFault n = c at *
        go_wp2_with fail
        go_ret
        exact ⟨by rw [unhide HE]; rfl, unhide HB⟩
      · replace HF := hide ((unhide HF).trans (if_neg e1))
        have hd : nodeFault n = 0 := by simpa using e1
        clear e1
        rw [hd]
        clear hd
        have HB0 := HB
        replace HB := hide (unhide HB).drew
        have z0' := (unhide HRI).at 0 _ rfl
        have z0 := (unhide HRI).drew.at 0 _ rfl
        have z1 := (unhide HRI).drew.at 1 _ rfl
        have z2 := (unhide HRI).drew.at 2 _ rfl
        have y2 := Box.at (unhide HX1).drew 2 _ rfl
        simp only [List.getElem_toArray, List.getElem_cons_zero, List.getElem_cons_succ, Nat.add_zero] at z0' z0 z1 z2 y2
        have xl5 := (unhide HX1).lt
        have rl5 := (unhide HRI).lt
        have LA : Hid (Calls Tryz.prog 71 #[.pointer (some ⟨xb, 2, none⟩), .int .i64 n.id] w5.drew fun e w' => e = .returned (.int .i64 (placeC x.chain.ids n.id)) ∧ w' = w5.drew) := l10AtO xb 2 _ _ x.chain n.id w5.drew ⟨(unhide HX1).drew.at 2 _ rfl, (unhide HX1).drew.at 3 _ rfl⟩ ((unhide HI1).drew 1)
        generalize hid : n.id = id at *
        cases e2 : (id != (k : Int) + 1)
        · replace HF := hide ((unhide HF).trans (if_neg (by rw [e2]; simp)))
          clear hid
          generalize hup : n.up = up at *
          generalize hep : n.epoch = ep at *
          generalize hce : x.chain.epoch = ce at *
          generalize placeC x.chain.ids id = p at *
          clear hup hep hce
          cases e3 : decide (ce < ep)
          · cases up
            · replace HF := hide ((unhide HF).trans (if_neg (by rw [e3]; simp)))
              go_wp2_with fail
              refine wp_region_noPanic ?_
              refine wp_region_held_drew (S := fun w' => w' = w5.drew) (by kernel_rfl) rfl (fun hHeld => ?_)
              generalize w5.drew = wD at hHeld z0 z1 z2 y2 HB LA ⊢
              refine wpAnyH_take (i := 0) (oi := { dst := some 34, op := Go.Op.move (Go.Operand.tmp 4), type := 102, pos := "l12_world.go:18", after := #[], guard := none }) (v := ?vq1_0) rfl (by kernel_rfl) (by kernel_rfl) (by kernel_rfl) (fun _ _ _ h => h) (Or.inl ⟨by rfl, ?hq1_0⟩) hHeld ?rq1_0
              case hq1_0 =>
                intro wS hSw
                subst hSw
                (try dsimp only at hSw)
                go_simp
                try with_reducible rfl
              case rq1_0 =>
              simp only [Act.put, List.setIfInBounds_toArray, List.set_cons_zero, List.set_cons_succ]
              refine wpAnyH_take (i := 1) (oi := { dst := some 35, op := Go.Op.nilCheck (Go.Operand.tmp 34), type := 0, pos := "l12_world.go:18", after := #[{ on := 0, ground := Go.Ground.data }], guard := none }) (v := ?vq1_1) rfl (by kernel_rfl) (by kernel_rfl) (by kernel_rfl) (fun _ _ _ h => h) (Or.inl ⟨by rfl, ?hq1_1⟩) hHeld ?rq1_1
              case hq1_1 =>
                intro wS hSw
                subst hSw
                (try dsimp only at hSw)
                go_simp
                try with_reducible rfl
              case rq1_1 =>
              simp only [Act.put, List.setIfInBounds_toArray, List.set_cons_zero, List.set_cons_succ]
              refine wpAnyH_take (i := 2) (oi := { dst := some 36, op := Go.Op.fieldAddr 63 (Go.Operand.tmp 35) 2, type := 0, pos := "l12_world.go:18", after := #[{ on := 1, ground := Go.Ground.data }], guard := none }) (v := ?vq1_2) rfl (by kernel_rfl) (by kernel_rfl) (by kernel_rfl) (fun _ _ _ h => h) (Or.inl ⟨by rfl, ?hq1_2⟩) hHeld ?rq1_2
              case hq1_2 =>
                intro wS hSw
                subst hSw
                (try dsimp only at hSw)
                go_simp
                try with_reducible rfl
              case rq1_2 =>
              simp only [Act.put, List.setIfInBounds_toArray, List.set_cons_zero, List.set_cons_succ]
              refine wpAnyH_take (i := 3) (oi := { dst := some 37, op := Go.Op.load 2 (Go.Operand.tmp 36), type := 2, pos := "l12_world.go:18", after := #[{ on := 2, ground := Go.Ground.data }], guard := none }) (v := ?vq1_3) rfl (by kernel_rfl) (by kernel_rfl) (by kernel_rfl) (fun _ _ _ h => h) (Or.inl ⟨by rfl, ?hq1_3⟩) hHeld ?rq1_3
              case hq1_3 =>
                intro wS hSw
                subst hSw
                (try dsimp only at hSw)
                go_simp
                try with_reducible rfl
              case rq1_3 =>
              simp only [Act.put, List.setIfInBounds_toArray, List.set_cons_zero, List.set_cons_succ]
              refine wpAnyH_take (i := 4) (oi := { dst := some 38, op := Go.Op.move (Go.Operand.tmp 0), type := 58, pos := "l12_world.go:18", after := #[], guard := none }) (v := ?vq1_4) rfl (by kernel_rfl) (by kernel_rfl) (by kernel_rfl) (fun _ _ _ h => h) (Or.inl ⟨by rfl, ?hq1_4⟩) hHeld ?rq1_4
              case hq1_4 =>
                intro wS hSw
                subst hSw
                (try dsimp only at hSw)
                go_simp
                try with_reducible rfl
              case rq1_4 =>
              simp only [Act.put, List.setIfInBounds_toArray, List.set_cons_zero, List.set_cons_succ]
              refine wpAnyH_take (i := 5) (oi := { dst := some 39, op := Go.Op.nilCheck (Go.Operand.tmp 38), type := 0, pos := "l12_world.go:18", after := #[{ on := 4, ground := Go.Ground.data }], guard := none }) (v := ?vq1_5) rfl (by kernel_rfl) (by kernel_rfl) (by kernel_rfl) (fun _ _ _ h => h) (Or.inl ⟨by rfl, ?hq1_5⟩) hHeld ?rq1_5
              case hq1_5 =>
                intro wS hSw
                subst hSw
                (try dsimp only at hSw)
                go_simp
                try with_reducible rfl
              case rq1_5 =>
              simp only [Act.put, List.setIfInBounds_toArray, List.set_cons_zero, List.set_cons_succ]
              refine wpAnyH_take (i := 6) (oi := { dst := some 40, op := Go.Op.fieldAddr 36 (Go.Operand.tmp 39) 2, type := 0, pos := "l12_world.go:18", after := #[{ on := 5, ground := Go.Ground.data }], guard := none }) (v := ?vq1_6) rfl (by kernel_rfl) (by kernel_rfl) (by kernel_rfl) (fun _ _ _ h => h) (Or.inl ⟨by rfl, ?hq1_6⟩) hHeld ?rq1_6
              case hq1_6 =>
                intro wS hSw
                subst hSw
                (try dsimp only at hSw)
                go_simp
                try with_reducible rfl
              case rq1_6 =>
              simp only [Act.put, List.setIfInBounds_toArray, List.set_cons_zero, List.set_cons_succ]
              refine wpAnyH_take (i := 7) (oi := { dst := some 41, op := Go.Op.fieldAddr 31 (Go.Operand.tmp 40) 0, type := 0, pos := "l12_world.go:18", after := #[{ on := 6, ground := Go.Ground.data }], guard := none }) (v := ?vq1_7) rfl (by kernel_rfl) (by kernel_rfl) (by kernel_rfl) (fun _ _ _ h => h) (Or.inl ⟨by rfl, ?hq1_7⟩) hHeld ?rq1_7
              case hq1_7 =>
                intro wS hSw
                subst hSw
                (try dsimp only at hSw)
                go_simp
                try with_reducible rfl
              case rq1_7 =>
              simp only [Act.put, List.setIfInBounds_toArray, List.set_cons_zero, List.set_cons_succ]
              refine wpAnyH_take (i := 8) (oi := { dst := some 42, op := Go.Op.load 2 (Go.Operand.tmp 41), type := 2, pos := "l12_world.go:18", after := #[{ on := 7, ground := Go.Ground.data }], guard := none }) (v := ?vq1_8) rfl (by kernel_rfl) (by kernel_rfl) (by kernel_rfl) (fun _ _ _ h => h) (Or.inl ⟨by rfl, ?hq1_8⟩) hHeld ?rq1_8
              case hq1_8 =>
                intro wS hSw
                subst hSw
                (try dsimp only at hSw)
                go_simp
                try with_reducible rfl
              case rq1_8 =>
              simp only [Act.put, List.setIfInBounds_toArray, List.set_cons_zero, List.set_cons_succ]
              refine wpAnyH_take (i := 9) (oi := { dst := some 43, op := Go.Op.binOp Go.BinOp.gtr 2 (Go.Operand.tmp 37) (Go.Operand.tmp 42) 2, type := 4, pos := "l12_world.go:18", after := #[{ on := 3, ground := Go.Ground.data }, { on := 8, ground := Go.Ground.data }], guard := none }) (v := ?vq1_9) rfl (by kernel_rfl) (by kernel_rfl) (by kernel_rfl) (fun _ _ _ h => h) (Or.inl ⟨by rfl, ?hq1_9⟩) hHeld ?rq1_9
              case hq1_9 =>
                intro wS hSw
                subst hSw
                (try dsimp only at hSw)
                go_simp
                try with_reducible rfl
              case rq1_9 =>
              simp only [Act.put, List.setIfInBounds_toArray, List.set_cons_zero, List.set_cons_succ]
              refine wpAnyH_take (i := 10) (oi := { dst := some 44, op := Go.Op.move (Go.Operand.tmp 43), type := 4, pos := "l12_world.go:18", after := #[{ on := 9, ground := Go.Ground.data }], guard := none }) (v := ?vq1_10) rfl (by kernel_rfl) (by kernel_rfl) (by kernel_rfl) (fun _ _ _ h => h) (Or.inl ⟨by rfl, ?hq1_10⟩) hHeld ?rq1_10
              case hq1_10 =>
                intro wS hSw
                subst hSw
                (try dsimp only at hSw)
                go_simp
                try with_reducible rfl
              case rq1_10 =>
              simp only [Act.put, List.setIfInBounds_toArray, List.set_cons_zero, List.set_cons_succ]
              refine wpAnyH_take (i := 11) (oi := { dst := some 45, op := Go.Op.move (Go.Operand.tmp 4), type := 102, pos := "l12_world.go:18", after := #[{ on := 10, ground := Go.Ground.guard }], guard := some (10, false) }) (v := ?vq1_11) rfl (by kernel_rfl) (by kernel_rfl) (by kernel_rfl) (fun _ _ _ h => h) (Or.inl ⟨by rfl, ?hq1_11⟩) hHeld ?rq1_11
              case hq1_11 =>
                intro wS hSw
                subst hSw
                (try dsimp only at hSw)
                go_simp
                try with_reducible rfl
              case rq1_11 =>
              simp only [Act.put, List.setIfInBounds_toArray, List.set_cons_zero, List.set_cons_succ]
              refine wpAnyH_take (i := 12) (oi := { dst := some 46, op := Go.Op.nilCheck (Go.Operand.tmp 45), type := 0, pos := "l12_world.go:18", after := #[{ on := 11, ground := Go.Ground.data }, { on := 10, ground := Go.Ground.guard }], guard := some (10, false) }) (v := ?vq1_12) rfl (by kernel_rfl) (by kernel_rfl) (by kernel_rfl) (fun _ _ _ h => h) (Or.inl ⟨by rfl, ?hq1_12⟩) hHeld ?rq1_12
              case hq1_12 =>
                intro wS hSw
                subst hSw
                (try dsimp only at hSw)
                go_simp
                try with_reducible rfl
              case rq1_12 =>
              simp only [Act.put, List.setIfInBounds_toArray, List.set_cons_zero, List.set_cons_succ]
              refine wpAnyH_take (i := 13) (oi := { dst := some 47, op := Go.Op.fieldAddr 63 (Go.Operand.tmp 46) 1, type := 0, pos := "l12_world.go:18", after := #[{ on := 12, ground := Go.Ground.data }, { on := 10, ground := Go.Ground.guard }], guard := some (10, false) }) (v := ?vq1_13) rfl (by kernel_rfl) (by kernel_rfl) (by kernel_rfl) (fun _ _ _ h => h) (Or.inl ⟨by rfl, ?hq1_13⟩) hHeld ?rq1_13
              case hq1_13 =>
                intro wS hSw
                subst hSw
                (try dsimp only at hSw)
                go_simp
                try with_reducible rfl
              case rq1_13 =>
              simp only [Act.put, List.setIfInBounds_toArray, List.set_cons_zero, List.set_cons_succ]
              refine wpAnyH_take (i := 14) (oi := { dst := some 48, op := Go.Op.load 4 (Go.Operand.tmp 47), type := 4, pos := "l12_world.go:18", after := #[{ on := 13, ground := Go.Ground.data }, { on := 10, ground := Go.Ground.guard }], guard := some (10, false) }) (v := ?vq1_14) rfl (by kernel_rfl) (by kernel_rfl) (by kernel_rfl) (fun _ _ _ h => h) (Or.inl ⟨by rfl, ?hq1_14⟩) hHeld ?rq1_14
              case hq1_14 =>
                intro wS hSw
                subst hSw
                (try dsimp only at hSw)
                go_simp
                try with_reducible rfl
              case rq1_14 =>
              simp only [Act.put, List.setIfInBounds_toArray, List.set_cons_zero, List.set_cons_succ]
              refine wpAnyH_take (i := 15) (oi := { dst := some 49, op := Go.Op.move (Go.Operand.tmp 48), type := 4, pos := "l12_world.go:18", after := #[{ on := 14, ground := Go.Ground.data }, { on := 10, ground := Go.Ground.chain }, { on := 10, ground := Go.Ground.guard }], guard := some (10, false) }) (v := ?vq1_15) rfl (by kernel_rfl) (by kernel_rfl) (by kernel_rfl) (fun _ _ _ h => h) (Or.inl ⟨by rfl, ?hq1_15⟩) hHeld ?rq1_15
              case hq1_15 =>
                intro wS hSw
                subst hSw
                (try dsimp only at hSw)
                go_simp
                try with_reducible rfl
              case rq1_15 =>
              simp only [Act.put, List.setIfInBounds_toArray, List.set_cons_zero, List.set_cons_succ]
              refine wpAnyH_take (i := 16) (oi := { dst := some 50, op := Go.Op.move (Go.Operand.tmp 0), type := 58, pos := "l12_world.go:18", after := #[{ on := 15, ground := Go.Ground.guard }], guard := some (15, true) }) (v := undef) rfl (by kernel_rfl) (by kernel_rfl) (by kernel_rfl) (fun _ _ _ h => h) (Or.inr ⟨by rfl, rfl⟩) hHeld ?_
              simp only [Act.put, List.setIfInBounds_toArray, List.set_cons_zero, List.set_cons_succ]
              refine wpAnyH_take (i := 17) (oi := { dst := some 51, op := Go.Op.nilCheck (Go.Operand.tmp 50), type := 0, pos := "l12_world.go:18", after := #[{ on := 16, ground := Go.Ground.data }, { on := 15, ground := Go.Ground.guard }], guard := some (15, true) }) (v := undef) rfl (by kernel_rfl) (by kernel_rfl) (by kernel_rfl) (fun _ _ _ h => h) (Or.inr ⟨by rfl, rfl⟩) hHeld ?_
              simp only [Act.put, List.setIfInBounds_toArray, List.set_cons_zero, List.set_cons_succ]
              refine wpAnyH_take (i := 18) (oi := { dst := some 52, op := Go.Op.fieldAddr 36 (Go.Operand.tmp 51) 2, type := 0, pos := "l12_world.go:18", after := #[{ on := 17, ground := Go.Ground.data }, { on := 15, ground := Go.Ground.guard }], guard := some (15, true) }) (v := undef) rfl (by kernel_rfl) (by kernel_rfl) (by kernel_rfl) (fun _ _ _ h => h) (Or.inr ⟨by rfl, rfl⟩) hHeld ?_
              simp only [Act.put, List.setIfInBounds_toArray, List.set_cons_zero, List.set_cons_succ]
              refine wpAnyH_take (i := 19) (oi := { dst := some 53, op := Go.Op.move (Go.Operand.tmp 4), type := 102, pos := "l12_world.go:18", after := #[{ on := 15, ground := Go.Ground.guard }], guard := some (15, true) }) (v := undef) rfl (by kernel_rfl) (by kernel_rfl) (by kernel_rfl) (fun _ _ _ h => h) (Or.inr ⟨by rfl, rfl⟩) hHeld ?_
              simp only [Act.put, List.setIfInBounds_toArray, List.set_cons_zero, List.set_cons_succ]
              refine wpAnyH_take (i := 20) (oi := { dst := some 54, op := Go.Op.nilCheck (Go.Operand.tmp 53), type := 0, pos := "l12_world.go:18", after := #[{ on := 19, ground := Go.Ground.data }, { on := 15, ground := Go.Ground.guard }], guard := some (15, true) }) (v := undef) rfl (by kernel_rfl) (by kernel_rfl) (by kernel_rfl) (fun _ _ _ h => h) (Or.inr ⟨by rfl, rfl⟩) hHeld ?_
              simp only [Act.put, List.setIfInBounds_toArray, List.set_cons_zero, List.set_cons_succ]
              refine wpAnyH_take (i := 21) (oi := { dst := some 55, op := Go.Op.fieldAddr 63 (Go.Operand.tmp 54) 0, type := 0, pos := "l12_world.go:18", after := #[{ on := 20, ground := Go.Ground.data }, { on := 15, ground := Go.Ground.guard }], guard := some (15, true) }) (v := undef) rfl (by kernel_rfl) (by kernel_rfl) (by kernel_rfl) (fun _ _ _ h => h) (Or.inr ⟨by rfl, rfl⟩) hHeld ?_
              simp only [Act.put, List.setIfInBounds_toArray, List.set_cons_zero, List.set_cons_succ]
              refine wpAnyH_take (i := 22) (oi := { dst := some 56, op := Go.Op.load 2 (Go.Operand.tmp 55), type := 2, pos := "l12_world.go:18", after := #[{ on := 21, ground := Go.Ground.data }, { on := 15, ground := Go.Ground.guard }], guard := some (15, true) }) (v := undef) rfl (by kernel_rfl) (by kernel_rfl) (by kernel_rfl) (fun _ _ _ h => h) (Or.inr ⟨by rfl, rfl⟩) hHeld ?_
              simp only [Act.put, List.setIfInBounds_toArray, List.set_cons_zero, List.set_cons_succ]
              refine wpAnyH_take (i := 23) (oi := { dst := some 57, op := Go.Op.call { callee := Go.Callee.value (Go.Operand.func 71), args := #[Go.Operand.tmp 52, Go.Operand.tmp 56], argTypes := #[88, 2] }, type := 3, pos := "l12_world.go:18", after := #[{ on := 18, ground := Go.Ground.data }, { on := 22, ground := Go.Ground.data }, { on := 15, ground := Go.Ground.chain }, { on := 15, ground := Go.Ground.guard }], guard := some (15, true) }) (v := undef) rfl (by kernel_rfl) (by kernel_rfl) (by kernel_rfl) (fun _ _ _ h => h) (Or.inr ⟨by rfl, rfl⟩) hHeld ?_
              simp only [Act.put, List.setIfInBounds_toArray, List.set_cons_zero, List.set_cons_succ]
              refine wpAnyH_take (i := 24) (oi := { dst := some 58, op := Go.Op.binOp Go.BinOp.geq 3 (Go.Operand.tmp 57) (Go.Operand.const (Go.Value.int Go.IntKind.i64 0)) 3, type := 4, pos := "l12_world.go:18", after := #[{ on := 23, ground := Go.Ground.data }, { on := 15, ground := Go.Ground.guard }], guard := some (15, true) }) (v := undef) rfl (by kernel_rfl) (by kernel_rfl) (by kernel_rfl) (fun _ _ _ h => h) (Or.inr ⟨by rfl, rfl⟩) hHeld ?_
              simp only [Act.put, List.setIfInBounds_toArray, List.set_cons_zero, List.set_cons_succ]
              refine wpAnyH_take (i := 25) (oi := { dst := some 59, op := Go.Op.pick (Go.Operand.tmp 49) (Go.Operand.tmp 58) (Go.Operand.const (Go.Value.bool false)), type := 4, pos := "l12_world.go:18", after := #[{ on := 15, ground := Go.Ground.data }, { on := 24, ground := Go.Ground.data }, { on := 10, ground := Go.Ground.guard }], guard := some (10, false) }) (v := ?vq1_25) rfl (by kernel_rfl) (by kernel_rfl) (by kernel_rfl) (fun _ _ _ h => h) (Or.inl ⟨by rfl, ?hq1_25⟩) hHeld ?rq1_25
              case hq1_25 =>
                intro wS hSw
                subst hSw
                (try dsimp only at hSw)
                go_simp
                try with_reducible rfl
              case rq1_25 =>
              simp only [Act.put, List.setIfInBounds_toArray, List.set_cons_zero, List.set_cons_succ]
              refine wpAnyH_take (i := 26) (oi := { dst := some 60, op := Go.Op.move (Go.Operand.tmp 59), type := 4, pos := "l12_world.go:18", after := #[{ on := 25, ground := Go.Ground.data }, { on := 23, ground := Go.Ground.chain }, { on := 10, ground := Go.Ground.guard }], guard := some (10, false) }) (v := ?vq1_26) rfl (by kernel_rfl) (by kernel_rfl) (by kernel_rfl) (fun _ _ _ h => h) (Or.inl ⟨by rfl, ?hq1_26⟩) hHeld ?rq1_26
              case hq1_26 =>
                intro wS hSw
                subst hSw
                (try dsimp only at hSw)
                go_simp
                try with_reducible rfl
              case rq1_26 =>
              simp only [Act.put, List.setIfInBounds_toArray, List.set_cons_zero, List.set_cons_succ]
              refine wpAnyH_take (i := 27) (oi := { dst := some 61, op := Go.Op.move (Go.Operand.tmp 4), type := 102, pos := "l12_world.go:18", after := #[{ on := 26, ground := Go.Ground.guard }], guard := some (26, true) }) (v := undef) rfl (by kernel_rfl) (by kernel_rfl) (by kernel_rfl) (fun _ _ _ h => h) (Or.inr ⟨by rfl, rfl⟩) hHeld ?_
              simp only [Act.put, List.setIfInBounds_toArray, List.set_cons_zero, List.set_cons_succ]
              refine wpAnyH_take (i := 28) (oi := { dst := some 62, op := Go.Op.nilCheck (Go.Operand.tmp 61), type := 0, pos := "l12_world.go:18", after := #[{ on := 27, ground := Go.Ground.data }, { on := 26, ground := Go.Ground.guard }], guard := some (26, true) }) (v := undef) rfl (by kernel_rfl) (by kernel_rfl) (by kernel_rfl) (fun _ _ _ h => h) (Or.inr ⟨by rfl, rfl⟩) hHeld ?_
              simp only [Act.put, List.setIfInBounds_toArray, List.set_cons_zero, List.set_cons_succ]
              refine wpAnyH_take (i := 29) (oi := { dst := some 63, op := Go.Op.fieldAddr 63 (Go.Operand.tmp 62) 2, type := 0, pos := "l12_world.go:18", after := #[{ on := 28, ground := Go.Ground.data }, { on := 26, ground := Go.Ground.guard }], guard := some (26, true) }) (v := undef) rfl (by kernel_rfl) (by kernel_rfl) (by kernel_rfl) (fun _ _ _ h => h) (Or.inr ⟨by rfl, rfl⟩) hHeld ?_
              simp only [Act.put, List.setIfInBounds_toArray, List.set_cons_zero, List.set_cons_succ]
              refine wpAnyH_take (i := 30) (oi := { dst := some 64, op := Go.Op.load 2 (Go.Operand.tmp 63), type := 2, pos := "l12_world.go:18", after := #[{ on := 29, ground := Go.Ground.data }, { on := 26, ground := Go.Ground.guard }], guard := some (26, true) }) (v := undef) rfl (by kernel_rfl) (by kernel_rfl) (by kernel_rfl) (fun _ _ _ h => h) (Or.inr ⟨by rfl, rfl⟩) hHeld ?_
              simp only [Act.put, List.setIfInBounds_toArray, List.set_cons_zero, List.set_cons_succ]
              refine wpAnyH_take (i := 31) (oi := { dst := some 65, op := Go.Op.move (Go.Operand.tmp 0), type := 58, pos := "l12_world.go:18", after := #[{ on := 26, ground := Go.Ground.guard }], guard := some (26, true) }) (v := undef) rfl (by kernel_rfl) (by kernel_rfl) (by kernel_rfl) (fun _ _ _ h => h) (Or.inr ⟨by rfl, rfl⟩) hHeld ?_
              simp only [Act.put, List.setIfInBounds_toArray, List.set_cons_zero, List.set_cons_succ]
              refine wpAnyH_take (i := 32) (oi := { dst := some 66, op := Go.Op.nilCheck (Go.Operand.tmp 65), type := 0, pos := "l12_world.go:18", after := #[{ on := 31, ground := Go.Ground.data }, { on := 26, ground := Go.Ground.guard }], guard := some (26, true) }) (v := undef) rfl (by kernel_rfl) (by kernel_rfl) (by kernel_rfl) (fun _ _ _ h => h) (Or.inr ⟨by rfl, rfl⟩) hHeld ?_
              simp only [Act.put, List.setIfInBounds_toArray, List.set_cons_zero, List.set_cons_succ]
              refine wpAnyH_take (i := 33) (oi := { dst := some 67, op := Go.Op.fieldAddr 36 (Go.Operand.tmp 66) 2, type := 0, pos := "l12_world.go:18", after := #[{ on := 32, ground := Go.Ground.data }, { on := 26, ground := Go.Ground.guard }], guard := some (26, true) }) (v := undef) rfl (by kernel_rfl) (by kernel_rfl) (by kernel_rfl) (fun _ _ _ h => h) (Or.inr ⟨by rfl, rfl⟩) hHeld ?_
              simp only [Act.put, List.setIfInBounds_toArray, List.set_cons_zero, List.set_cons_succ]
              refine wpAnyH_take (i := 34) (oi := { dst := some 68, op := Go.Op.fieldAddr 31 (Go.Operand.tmp 67) 0, type := 0, pos := "l12_world.go:18", after := #[{ on := 33, ground := Go.Ground.data }, { on := 26, ground := Go.Ground.guard }], guard := some (26, true) }) (v := undef) rfl (by kernel_rfl) (by kernel_rfl) (by kernel_rfl) (fun _ _ _ h => h) (Or.inr ⟨by rfl, rfl⟩) hHeld ?_
              simp only [Act.put, List.setIfInBounds_toArray, List.set_cons_zero, List.set_cons_succ]
              refine wpAnyH_take (i := 35) (oi := { dst := some 69, op := Go.Op.load 2 (Go.Operand.tmp 68), type := 2, pos := "l12_world.go:18", after := #[{ on := 34, ground := Go.Ground.data }, { on := 26, ground := Go.Ground.guard }], guard := some (26, true) }) (v := undef) rfl (by kernel_rfl) (by kernel_rfl) (by kernel_rfl) (fun _ _ _ h => h) (Or.inr ⟨by rfl, rfl⟩) hHeld ?_
              simp only [Act.put, List.setIfInBounds_toArray, List.set_cons_zero, List.set_cons_succ]
              refine wpAnyH_take (i := 36) (oi := { dst := some 70, op := Go.Op.binOp Go.BinOp.neq 2 (Go.Operand.tmp 64) (Go.Operand.tmp 69) 2, type := 4, pos := "l12_world.go:18", after := #[{ on := 30, ground := Go.Ground.data }, { on := 35, ground := Go.Ground.data }, { on := 26, ground := Go.Ground.guard }], guard := some (26, true) }) (v := undef) rfl (by kernel_rfl) (by kernel_rfl) (by kernel_rfl) (fun _ _ _ h => h) (Or.inr ⟨by rfl, rfl⟩) hHeld ?_
              simp only [Act.put, List.setIfInBounds_toArray, List.set_cons_zero, List.set_cons_succ]
              refine wpAnyH_take (i := 37) (oi := { dst := some 71, op := Go.Op.pick (Go.Operand.tmp 60) (Go.Operand.tmp 70) (Go.Operand.const (Go.Value.bool false)), type := 4, pos := "l12_world.go:18", after := #[{ on := 26, ground := Go.Ground.data }, { on := 36, ground := Go.Ground.data }, { on := 10, ground := Go.Ground.guard }], guard := some (10, false) }) (v := ?vq1_37) rfl (by kernel_rfl) (by kernel_rfl) (by kernel_rfl) (fun _ _ _ h => h) (Or.inl ⟨by rfl, ?hq1_37⟩) hHeld ?rq1_37
              case hq1_37 =>
                intro wS hSw
                subst hSw
                (try dsimp only at hSw)
                go_simp
                try with_reducible rfl
              case rq1_37 =>
              simp only [Act.put, List.setIfInBounds_toArray, List.set_cons_zero, List.set_cons_succ]
              refine wpAnyH_take (i := 38) (oi := { dst := some 72, op := Go.Op.pick (Go.Operand.tmp 44) (Go.Operand.const (Go.Value.bool true)) (Go.Operand.tmp 71), type := 4, pos := "l12_world.go:18", after := #[{ on := 10, ground := Go.Ground.data }, { on := 37, ground := Go.Ground.data }], guard := none }) (v := ?vq1_38) rfl (by kernel_rfl) (by kernel_rfl) (by kernel_rfl) (fun _ _ _ h => h) (Or.inl ⟨by rfl, ?hq1_38⟩) hHeld ?rq1_38
              case hq1_38 =>
                intro wS hSw
                subst hSw
                (try dsimp only at hSw)
                go_simp
                try with_reducible rfl
              case rq1_38 =>
              simp only [Act.put, List.setIfInBounds_toArray, List.set_cons_zero, List.set_cons_succ]
              refine wpAnyH_done (by kernel_rfl) ?_ _
              refine NoPanic.normal ?_
              clear hHeld
              go_wp2_with fail
              go_roundw
              case rel => exact ⟨k + 1, by omega, by go_num, unhide HF, unhide HB⟩
              case measure => simp [intOf]; omega
            · cases e4 : decide (0 ≤ p)
              · replace HF := hide ((unhide HF).trans (if_neg (by rw [e3, e4]; simp)))
                go_wp2_with fail
                refine wp_region_noPanic ?_
                refine wp_region_held_drew (S := fun w' => w' = w5.drew) (by kernel_rfl) rfl (fun hHeld => ?_)
                generalize w5.drew = wD at hHeld z0 z1 z2 y2 HB LA ⊢
                refine wpAnyH_take (i := 0) (oi := { dst := some 34, op := Go.Op.move (Go.Operand.tmp 4), type := 102, pos := "l12_world.go:18", after := #[], guard := none }) (v := ?vq2_0) rfl (by kernel_rfl) (by kernel_rfl) (by kernel_rfl) (fun _ _ _ h => h) (Or.inl ⟨by rfl, ?hq2_0⟩) hHeld ?rq2_0
                case hq2_0 =>
                  intro wS hSw
                  subst hSw
                  (try dsimp only at hSw)
                  go_simp
                  try with_reducible rfl
                case rq2_0 =>
                simp only [Act.put, List.setIfInBounds_toArray, List.set_cons_zero, List.set_cons_succ]
                refine wpAnyH_take (i := 1) (oi := { dst := some 35, op := Go.Op.nilCheck (Go.Operand.tmp 34), type := 0, pos := "l12_world.go:18", after := #[{ on := 0, ground := Go.Ground.data }], guard := none }) (v := ?vq2_1) rfl (by kernel_rfl) (by kernel_rfl) (by kernel_rfl) (fun _ _ _ h => h) (Or.inl ⟨by rfl, ?hq2_1⟩) hHeld ?rq2_1
                case hq2_1 =>
                  intro wS hSw
                  subst hSw
                  (try dsimp only at hSw)
                  go_simp
                  try with_reducible rfl
                case rq2_1 =>
                simp only [Act.put, List.setIfInBounds_toArray, List.set_cons_zero, List.set_cons_succ]
                refine wpAnyH_take (i := 2) (oi := { dst := some 36, op := Go.Op.fieldAddr 63 (Go.Operand.tmp 35) 2, type := 0, pos := "l12_world.go:18", after := #[{ on := 1, ground := Go.Ground.data }], guard := none }) (v := ?vq2_2) rfl (by kernel_rfl) (by kernel_rfl) (by kernel_rfl) (fun _ _ _ h => h) (Or.inl ⟨by rfl, ?hq2_2⟩) hHeld ?rq2_2
                case hq2_2 =>
                  intro wS hSw
                  subst hSw
                  (try dsimp only at hSw)
                  go_simp
                  try with_reducible rfl
                case rq2_2 =>
                simp only [Act.put, List.setIfInBounds_toArray, List.set_cons_zero, List.set_cons_succ]
                refine wpAnyH_take (i := 3) (oi := { dst := some 37, op := Go.Op.load 2 (Go.Operand.tmp 36), type := 2, pos := "l12_world.go:18", after := #[{ on := 2, ground := Go.Ground.data }], guard := none }) (v := ?vq2_3) rfl (by kernel_rfl) (by kernel_rfl) (by kernel_rfl) (fun _ _ _ h => h) (Or.inl ⟨by rfl, ?hq2_3⟩) hHeld ?rq2_3
                case hq2_3 =>
                  intro wS hSw
                  subst hSw
                  (try dsimp only at hSw)
                  go_simp
                  try with_reducible rfl
                case rq2_3 =>
                simp only [Act.put, List.setIfInBounds_toArray, List.set_cons_zero, List.set_cons_succ]
                refine wpAnyH_take (i := 4) (oi := { dst := some 38, op := Go.Op.move (Go.Operand.tmp 0), type := 58, pos := "l12_world.go:18", after := #[], guard := none }) (v := ?vq2_4) rfl (by kernel_rfl) (by kernel_rfl) (by kernel_rfl) (fun _ _ _ h => h) (Or.inl ⟨by rfl, ?hq2_4⟩) hHeld ?rq2_4
                case hq2_4 =>
                  intro wS hSw
                  subst hSw
                  (try dsimp only at hSw)
                  go_simp
                  try with_reducible rfl
                case rq2_4 =>
                simp only [Act.put, List.setIfInBounds_toArray, List.set_cons_zero, List.set_cons_succ]
                refine wpAnyH_take (i := 5) (oi := { dst := some 39, op := Go.Op.nilCheck (Go.Operand.tmp 38), type := 0, pos := "l12_world.go:18", after := #[{ on := 4, ground := Go.Ground.data }], guard := none }) (v := ?vq2_5) rfl (by kernel_rfl) (by kernel_rfl) (by kernel_rfl) (fun _ _ _ h => h) (Or.inl ⟨by rfl, ?hq2_5⟩) hHeld ?rq2_5
                case hq2_5 =>
                  intro wS hSw
                  subst hSw
                  (try dsimp only at hSw)
                  go_simp
                  try with_reducible rfl
                case rq2_5 =>
                simp only [Act.put, List.setIfInBounds_toArray, List.set_cons_zero, List.set_cons_succ]
                refine wpAnyH_take (i := 6) (oi := { dst := some 40, op := Go.Op.fieldAddr 36 (Go.Operand.tmp 39) 2, type := 0, pos := "l12_world.go:18", after := #[{ on := 5, ground := Go.Ground.data }], guard := none }) (v := ?vq2_6) rfl (by kernel_rfl) (by kernel_rfl) (by kernel_rfl) (fun _ _ _ h => h) (Or.inl ⟨by rfl, ?hq2_6⟩) hHeld ?rq2_6
                case hq2_6 =>
                  intro wS hSw
                  subst hSw
                  (try dsimp only at hSw)
                  go_simp
                  try with_reducible rfl
                case rq2_6 =>
                simp only [Act.put, List.setIfInBounds_toArray, List.set_cons_zero, List.set_cons_succ]
                refine wpAnyH_take (i := 7) (oi := { dst := some 41, op := Go.Op.fieldAddr 31 (Go.Operand.tmp 40) 0, type := 0, pos := "l12_world.go:18", after := #[{ on := 6, ground := Go.Ground.data }], guard := none }) (v := ?vq2_7) rfl (by kernel_rfl) (by kernel_rfl) (by kernel_rfl) (fun _ _ _ h => h) (Or.inl ⟨by rfl, ?hq2_7⟩) hHeld ?rq2_7
                case hq2_7 =>
                  intro wS hSw
                  subst hSw
                  (try dsimp only at hSw)
                  go_simp
                  try with_reducible rfl
                case rq2_7 =>
                simp only [Act.put, List.setIfInBounds_toArray, List.set_cons_zero, List.set_cons_succ]
                refine wpAnyH_take (i := 8) (oi := { dst := some 42, op := Go.Op.load 2 (Go.Operand.tmp 41), type := 2, pos := "l12_world.go:18", after := #[{ on := 7, ground := Go.Ground.data }], guard := none }) (v := ?vq2_8) rfl (by kernel_rfl) (by kernel_rfl) (by kernel_rfl) (fun _ _ _ h => h) (Or.inl ⟨by rfl, ?hq2_8⟩) hHeld ?rq2_8
                case hq2_8 =>
                  intro wS hSw
                  subst hSw
                  (try dsimp only at hSw)
                  go_simp
                  try with_reducible rfl
                case rq2_8 =>
                simp only [Act.put, List.setIfInBounds_toArray, List.set_cons_zero, List.set_cons_succ]
                refine wpAnyH_take (i := 9) (oi := { dst := some 43, op := Go.Op.binOp Go.BinOp.gtr 2 (Go.Operand.tmp 37) (Go.Operand.tmp 42) 2, type := 4, pos := "l12_world.go:18", after := #[{ on := 3, ground := Go.Ground.data }, { on := 8, ground := Go.Ground.data }], guard := none }) (v := ?vq2_9) rfl (by kernel_rfl) (by kernel_rfl) (by kernel_rfl) (fun _ _ _ h => h) (Or.inl ⟨by rfl, ?hq2_9⟩) hHeld ?rq2_9
                case hq2_9 =>
                  intro wS hSw
                  subst hSw
                  (try dsimp only at hSw)
                  go_simp
                  try with_reducible rfl
                case rq2_9 =>
                simp only [Act.put, List.setIfInBounds_toArray, List.set_cons_zero, List.set_cons_succ]
                refine wpAnyH_take (i := 10) (oi := { dst := some 44, op := Go.Op.move (Go.Operand.tmp 43), type := 4, pos := "l12_world.go:18", after := #[{ on := 9, ground := Go.Ground.data }], guard := none }) (v := ?vq2_10) rfl (by kernel_rfl) (by kernel_rfl) (by kernel_rfl) (fun _ _ _ h => h) (Or.inl ⟨by rfl, ?hq2_10⟩) hHeld ?rq2_10
                case hq2_10 =>
                  intro wS hSw
                  subst hSw
                  (try dsimp only at hSw)
                  go_simp
                  try with_reducible rfl
                case rq2_10 =>
                simp only [Act.put, List.setIfInBounds_toArray, List.set_cons_zero, List.set_cons_succ]
                refine wpAnyH_take (i := 11) (oi := { dst := some 45, op := Go.Op.move (Go.Operand.tmp 4), type := 102, pos := "l12_world.go:18", after := #[{ on := 10, ground := Go.Ground.guard }], guard := some (10, false) }) (v := ?vq2_11) rfl (by kernel_rfl) (by kernel_rfl) (by kernel_rfl) (fun _ _ _ h => h) (Or.inl ⟨by rfl, ?hq2_11⟩) hHeld ?rq2_11
                case hq2_11 =>
                  intro wS hSw
                  subst hSw
                  (try dsimp only at hSw)
                  go_simp
                  try with_reducible rfl
                case rq2_11 =>
                simp only [Act.put, List.setIfInBounds_toArray, List.set_cons_zero, List.set_cons_succ]
                refine wpAnyH_take (i := 12) (oi := { dst := some 46, op := Go.Op.nilCheck (Go.Operand.tmp 45), type := 0, pos := "l12_world.go:18", after := #[{ on := 11, ground := Go.Ground.data }, { on := 10, ground := Go.Ground.guard }], guard := some (10, false) }) (v := ?vq2_12) rfl (by kernel_rfl) (by kernel_rfl) (by kernel_rfl) (fun _ _ _ h => h) (Or.inl ⟨by rfl, ?hq2_12⟩) hHeld ?rq2_12
                case hq2_12 =>
                  intro wS hSw
                  subst hSw
                  (try dsimp only at hSw)
                  go_simp
                  try with_reducible rfl
                case rq2_12 =>
                simp only [Act.put, List.setIfInBounds_toArray, List.set_cons_zero, List.set_cons_succ]
                refine wpAnyH_take (i := 13) (oi := { dst := some 47, op := Go.Op.fieldAddr 63 (Go.Operand.tmp 46) 1, type := 0, pos := "l12_world.go:18", after := #[{ on := 12, ground := Go.Ground.data }, { on := 10, ground := Go.Ground.guard }], guard := some (10, false) }) (v := ?vq2_13) rfl (by kernel_rfl) (by kernel_rfl) (by kernel_rfl) (fun _ _ _ h => h) (Or.inl ⟨by rfl, ?hq2_13⟩) hHeld ?rq2_13
                case hq2_13 =>
                  intro wS hSw
                  subst hSw
                  (try dsimp only at hSw)
                  go_simp
                  try with_reducible rfl
                case rq2_13 =>
                simp only [Act.put, List.setIfInBounds_toArray, List.set_cons_zero, List.set_cons_succ]
                refine wpAnyH_take (i := 14) (oi := { dst := some 48, op := Go.Op.load 4 (Go.Operand.tmp 47), type := 4, pos := "l12_world.go:18", after := #[{ on := 13, ground := Go.Ground.data }, { on := 10, ground := Go.Ground.guard }], guard := some (10, false) }) (v := ?vq2_14) rfl (by kernel_rfl) (by kernel_rfl) (by kernel_rfl) (fun _ _ _ h => h) (Or.inl ⟨by rfl, ?hq2_14⟩) hHeld ?rq2_14
                case hq2_14 =>
                  intro wS hSw
                  subst hSw
                  (try dsimp only at hSw)
                  go_simp
                  try with_reducible rfl
                case rq2_14 =>
                simp only [Act.put, List.setIfInBounds_toArray, List.set_cons_zero, List.set_cons_succ]
                refine wpAnyH_take (i := 15) (oi := { dst := some 49, op := Go.Op.move (Go.Operand.tmp 48), type := 4, pos := "l12_world.go:18", after := #[{ on := 14, ground := Go.Ground.data }, { on := 10, ground := Go.Ground.chain }, { on := 10, ground := Go.Ground.guard }], guard := some (10, false) }) (v := ?vq2_15) rfl (by kernel_rfl) (by kernel_rfl) (by kernel_rfl) (fun _ _ _ h => h) (Or.inl ⟨by rfl, ?hq2_15⟩) hHeld ?rq2_15
                case hq2_15 =>
                  intro wS hSw
                  subst hSw
                  (try dsimp only at hSw)
                  go_simp
                  try with_reducible rfl
                case rq2_15 =>
                simp only [Act.put, List.setIfInBounds_toArray, List.set_cons_zero, List.set_cons_succ]
                refine wpAnyH_take (i := 16) (oi := { dst := some 50, op := Go.Op.move (Go.Operand.tmp 0), type := 58, pos := "l12_world.go:18", after := #[{ on := 15, ground := Go.Ground.guard }], guard := some (15, true) }) (v := ?vq2_16) rfl (by kernel_rfl) (by kernel_rfl) (by kernel_rfl) (fun _ _ _ h => h) (Or.inl ⟨by rfl, ?hq2_16⟩) hHeld ?rq2_16
                case hq2_16 =>
                  intro wS hSw
                  subst hSw
                  (try dsimp only at hSw)
                  go_simp
                  try with_reducible rfl
                case rq2_16 =>
                simp only [Act.put, List.setIfInBounds_toArray, List.set_cons_zero, List.set_cons_succ]
                refine wpAnyH_take (i := 17) (oi := { dst := some 51, op := Go.Op.nilCheck (Go.Operand.tmp 50), type := 0, pos := "l12_world.go:18", after := #[{ on := 16, ground := Go.Ground.data }, { on := 15, ground := Go.Ground.guard }], guard := some (15, true) }) (v := ?vq2_17) rfl (by kernel_rfl) (by kernel_rfl) (by kernel_rfl) (fun _ _ _ h => h) (Or.inl ⟨by rfl, ?hq2_17⟩) hHeld ?rq2_17
                case hq2_17 =>
                  intro wS hSw
                  subst hSw
                  (try dsimp only at hSw)
                  go_simp
                  try with_reducible rfl
                case rq2_17 =>
                simp only [Act.put, List.setIfInBounds_toArray, List.set_cons_zero, List.set_cons_succ]
                refine wpAnyH_take (i := 18) (oi := { dst := some 52, op := Go.Op.fieldAddr 36 (Go.Operand.tmp 51) 2, type := 0, pos := "l12_world.go:18", after := #[{ on := 17, ground := Go.Ground.data }, { on := 15, ground := Go.Ground.guard }], guard := some (15, true) }) (v := ?vq2_18) rfl (by kernel_rfl) (by kernel_rfl) (by kernel_rfl) (fun _ _ _ h => h) (Or.inl ⟨by rfl, ?hq2_18⟩) hHeld ?rq2_18
                case hq2_18 =>
                  intro wS hSw
                  subst hSw
                  (try dsimp only at hSw)
                  go_simp
                  try with_reducible rfl
                case rq2_18 =>
                simp only [Act.put, List.setIfInBounds_toArray, List.set_cons_zero, List.set_cons_succ]
                refine wpAnyH_take (i := 19) (oi := { dst := some 53, op := Go.Op.move (Go.Operand.tmp 4), type := 102, pos := "l12_world.go:18", after := #[{ on := 15, ground := Go.Ground.guard }], guard := some (15, true) }) (v := ?vq2_19) rfl (by kernel_rfl) (by kernel_rfl) (by kernel_rfl) (fun _ _ _ h => h) (Or.inl ⟨by rfl, ?hq2_19⟩) hHeld ?rq2_19
                case hq2_19 =>
                  intro wS hSw
                  subst hSw
                  (try dsimp only at hSw)
                  go_simp
                  try with_reducible rfl
                case rq2_19 =>
                simp only [Act.put, List.setIfInBounds_toArray, List.set_cons_zero, List.set_cons_succ]
                refine wpAnyH_take (i := 20) (oi := { dst := some 54, op := Go.Op.nilCheck (Go.Operand.tmp 53), type := 0, pos := "l12_world.go:18", after := #[{ on := 19, ground := Go.Ground.data }, { on := 15, ground := Go.Ground.guard }], guard := some (15, true) }) (v := ?vq2_20) rfl (by kernel_rfl) (by kernel_rfl) (by kernel_rfl) (fun _ _ _ h => h) (Or.inl ⟨by rfl, ?hq2_20⟩) hHeld ?rq2_20
                case hq2_20 =>
                  intro wS hSw
                  subst hSw
                  (try dsimp only at hSw)
                  go_simp
                  try with_reducible rfl
                case rq2_20 =>
                simp only [Act.put, List.setIfInBounds_toArray, List.set_cons_zero, List.set_cons_succ]
                refine wpAnyH_take (i := 21) (oi := { dst := some 55, op := Go.Op.fieldAddr 63 (Go.Operand.tmp 54) 0, type := 0, pos := "l12_world.go:18", after := #[{ on := 20, ground := Go.Ground.data }, { on := 15, ground := Go.Ground.guard }], guard := some (15, true) }) (v := ?vq2_21) rfl (by kernel_rfl) (by kernel_rfl) (by kernel_rfl) (fun _ _ _ h => h) (Or.inl ⟨by rfl, ?hq2_21⟩) hHeld ?rq2_21
                case hq2_21 =>
                  intro wS hSw
                  subst hSw
                  (try dsimp only at hSw)
                  go_simp
                  try with_reducible rfl
                case rq2_21 =>
                simp only [Act.put, List.setIfInBounds_toArray, List.set_cons_zero, List.set_cons_succ]
                refine wpAnyH_take (i := 22) (oi := { dst := some 56, op := Go.Op.load 2 (Go.Operand.tmp 55), type := 2, pos := "l12_world.go:18", after := #[{ on := 21, ground := Go.Ground.data }, { on := 15, ground := Go.Ground.guard }], guard := some (15, true) }) (v := ?vq2_22) rfl (by kernel_rfl) (by kernel_rfl) (by kernel_rfl) (fun _ _ _ h => h) (Or.inl ⟨by rfl, ?hq2_22⟩) hHeld ?rq2_22
                case hq2_22 =>
                  intro wS hSw
                  subst hSw
                  (try dsimp only at hSw)
                  go_simp
                  try with_reducible rfl
                case rq2_22 =>
                simp only [Act.put, List.setIfInBounds_toArray, List.set_cons_zero, List.set_cons_succ]
                refine wpAnyH_ready (rs := [23]) (by kernel_rfl) (by simp) ?_
                refine AllReadyH.cons (o := { dst := some 57, op := Go.Op.call { callee := Go.Callee.value (Go.Operand.func 71), args := #[Go.Operand.tmp 52, Go.Operand.tmp 56], argTypes := #[88, 2] }, type := 3, pos := "l12_world.go:18", after := #[{ on := 18, ground := Go.Ground.data }, { on := 22, ground := Go.Ground.data }, { on := 15, ground := Go.Ground.chain }, { on := 15, ground := Go.Ground.guard }], guard := some (15, true) }) rfl (fun K hK => ?_) AllReadyH.nil
                go_simp
                go_at_call 71
                refine (unhide LA).mono ?_
                rintro e u1 ⟨rfl, h1⟩
                subst u1
                try go_wp2_with fail
                refine hK.out _ _ rfl (fun hHeld => ?_)
                clear hK K
                try simp only [Act.put, List.setIfInBounds_toArray, List.set_cons_zero, List.set_cons_succ]
                refine wpAnyH_take (i := 24) (oi := { dst := some 58, op := Go.Op.binOp Go.BinOp.geq 3 (Go.Operand.tmp 57) (Go.Operand.const (Go.Value.int Go.IntKind.i64 0)) 3, type := 4, pos := "l12_world.go:18", after := #[{ on := 23, ground := Go.Ground.data }, { on := 15, ground := Go.Ground.guard }], guard := some (15, true) }) (v := ?vq2_24) rfl (by kernel_rfl) (by kernel_rfl) (by kernel_rfl) (fun _ _ _ h => h) (Or.inl ⟨by rfl, ?hq2_24⟩) hHeld ?rq2_24
                case hq2_24 =>
                  intro wS hSw
                  subst hSw
                  (try dsimp only at hSw)
                  go_simp
                  try with_reducible rfl
                case rq2_24 =>
                simp only [Act.put, List.setIfInBounds_toArray, List.set_cons_zero, List.set_cons_succ]
                refine wpAnyH_take (i := 25) (oi := { dst := some 59, op := Go.Op.pick (Go.Operand.tmp 49) (Go.Operand.tmp 58) (Go.Operand.const (Go.Value.bool false)), type := 4, pos := "l12_world.go:18", after := #[{ on := 15, ground := Go.Ground.data }, { on := 24, ground := Go.Ground.data }, { on := 10, ground := Go.Ground.guard }], guard := some (10, false) }) (v := ?vq2_25) rfl (by kernel_rfl) (by kernel_rfl) (by kernel_rfl) (fun _ _ _ h => h) (Or.inl ⟨by rfl, ?hq2_25⟩) hHeld ?rq2_25
                case hq2_25 =>
                  intro wS hSw
                  subst hSw
                  (try dsimp only at hSw)
                  go_simp
                  try with_reducible rfl
                case rq2_25 =>
                simp only [Act.put, List.setIfInBounds_toArray, List.set_cons_zero, List.set_cons_succ]
                refine wpAnyH_take (i := 26) (oi := { dst := some 60, op := Go.Op.move (Go.Operand.tmp 59), type := 4, pos := "l12_world.go:18", after := #[{ on := 25, ground := Go.Ground.data }, { on := 23, ground := Go.Ground.chain }, { on := 10, ground := Go.Ground.guard }], guard := some (10, false) }) (v := ?vq2_26) rfl (by kernel_rfl) (by kernel_rfl) (by kernel_rfl) (fun _ _ _ h => h) (Or.inl ⟨by rfl, ?hq2_26⟩) hHeld ?rq2_26
                case hq2_26 =>
                  intro wS hSw
                  subst hSw
                  (try dsimp only at hSw)
                  go_simp
                  try with_reducible rfl
                case rq2_26 =>
                simp only [Act.put, List.setIfInBounds_toArray, List.set_cons_zero, List.set_cons_succ]
                refine wpAnyH_take (i := 27) (oi := { dst := some 61, op := Go.Op.move (Go.Operand.tmp 4), type := 102, pos := "l12_world.go:18", after := #[{ on := 26, ground := Go.Ground.guard }], guard := some (26, true) }) (v := undef) rfl (by kernel_rfl) (by kernel_rfl) (by kernel_rfl) (fun _ _ _ h => h) (Or.inr ⟨by rfl, rfl⟩) hHeld ?_
                simp only [Act.put, List.setIfInBounds_toArray, List.set_cons_zero, List.set_cons_succ]
                refine wpAnyH_take (i := 28) (oi := { dst := some 62, op := Go.Op.nilCheck (Go.Operand.tmp 61), type := 0, pos := "l12_world.go:18", after := #[{ on := 27, ground := Go.Ground.data }, { on := 26, ground := Go.Ground.guard }], guard := some (26, true) }) (v := undef) rfl (by kernel_rfl) (by kernel_rfl) (by kernel_rfl) (fun _ _ _ h => h) (Or.inr ⟨by rfl, rfl⟩) hHeld ?_
                simp only [Act.put, List.setIfInBounds_toArray, List.set_cons_zero, List.set_cons_succ]
                refine wpAnyH_take (i := 29) (oi := { dst := some 63, op := Go.Op.fieldAddr 63 (Go.Operand.tmp 62) 2, type := 0, pos := "l12_world.go:18", after := #[{ on := 28, ground := Go.Ground.data }, { on := 26, ground := Go.Ground.guard }], guard := some (26, true) }) (v := undef) rfl (by kernel_rfl) (by kernel_rfl) (by kernel_rfl) (fun _ _ _ h => h) (Or.inr ⟨by rfl, rfl⟩) hHeld ?_
                simp only [Act.put, List.setIfInBounds_toArray, List.set_cons_zero, List.set_cons_succ]
                refine wpAnyH_take (i := 30) (oi := { dst := some 64, op := Go.Op.load 2 (Go.Operand.tmp 63), type := 2, pos := "l12_world.go:18", after := #[{ on := 29, ground := Go.Ground.data }, { on := 26, ground := Go.Ground.guard }], guard := some (26, true) }) (v := undef) rfl (by kernel_rfl) (by kernel_rfl) (by kernel_rfl) (fun _ _ _ h => h) (Or.inr ⟨by rfl, rfl⟩) hHeld ?_
                simp only [Act.put, List.setIfInBounds_toArray, List.set_cons_zero, List.set_cons_succ]
                refine wpAnyH_take (i := 31) (oi := { dst := some 65, op := Go.Op.move (Go.Operand.tmp 0), type := 58, pos := "l12_world.go:18", after := #[{ on := 26, ground := Go.Ground.guard }], guard := some (26, true) }) (v := undef) rfl (by kernel_rfl) (by kernel_rfl) (by kernel_rfl) (fun _ _ _ h => h) (Or.inr ⟨by rfl, rfl⟩) hHeld ?_
                simp only [Act.put, List.setIfInBounds_toArray, List.set_cons_zero, List.set_cons_succ]
                refine wpAnyH_take (i := 32) (oi := { dst := some 66, op := Go.Op.nilCheck (Go.Operand.tmp 65), type := 0, pos := "l12_world.go:18", after := #[{ on := 31, ground := Go.Ground.data }, { on := 26, ground := Go.Ground.guard }], guard := some (26, true) }) (v := undef) rfl (by kernel_rfl) (by kernel_rfl) (by kernel_rfl) (fun _ _ _ h => h) (Or.inr ⟨by rfl, rfl⟩) hHeld ?_
                simp only [Act.put, List.setIfInBounds_toArray, List.set_cons_zero, List.set_cons_succ]
                refine wpAnyH_take (i := 33) (oi := { dst := some 67, op := Go.Op.fieldAddr 36 (Go.Operand.tmp 66) 2, type := 0, pos := "l12_world.go:18", after := #[{ on := 32, ground := Go.Ground.data }, { on := 26, ground := Go.Ground.guard }], guard := some (26, true) }) (v := undef) rfl (by kernel_rfl) (by kernel_rfl) (by kernel_rfl) (fun _ _ _ h => h) (Or.inr ⟨by rfl, rfl⟩) hHeld ?_
                simp only [Act.put, List.setIfInBounds_toArray, List.set_cons_zero, List.set_cons_succ]
                refine wpAnyH_take (i := 34) (oi := { dst := some 68, op := Go.Op.fieldAddr 31 (Go.Operand.tmp 67) 0, type := 0, pos := "l12_world.go:18", after := #[{ on := 33, ground := Go.Ground.data }, { on := 26, ground := Go.Ground.guard }], guard := some (26, true) }) (v := undef) rfl (by kernel_rfl) (by kernel_rfl) (by kernel_rfl) (fun _ _ _ h => h) (Or.inr ⟨by rfl, rfl⟩) hHeld ?_
                simp only [Act.put, List.setIfInBounds_toArray, List.set_cons_zero, List.set_cons_succ]
                refine wpAnyH_take (i := 35) (oi := { dst := some 69, op := Go.Op.load 2 (Go.Operand.tmp 68), type := 2, pos := "l12_world.go:18", after := #[{ on := 34, ground := Go.Ground.data }, { on := 26, ground := Go.Ground.guard }], guard := some (26, true) }) (v := undef) rfl (by kernel_rfl) (by kernel_rfl) (by kernel_rfl) (fun _ _ _ h => h) (Or.inr ⟨by rfl, rfl⟩) hHeld ?_
                simp only [Act.put, List.setIfInBounds_toArray, List.set_cons_zero, List.set_cons_succ]
                refine wpAnyH_take (i := 36) (oi := { dst := some 70, op := Go.Op.binOp Go.BinOp.neq 2 (Go.Operand.tmp 64) (Go.Operand.tmp 69) 2, type := 4, pos := "l12_world.go:18", after := #[{ on := 30, ground := Go.Ground.data }, { on := 35, ground := Go.Ground.data }, { on := 26, ground := Go.Ground.guard }], guard := some (26, true) }) (v := undef) rfl (by kernel_rfl) (by kernel_rfl) (by kernel_rfl) (fun _ _ _ h => h) (Or.inr ⟨by rfl, rfl⟩) hHeld ?_
                simp only [Act.put, List.setIfInBounds_toArray, List.set_cons_zero, List.set_cons_succ]
                refine wpAnyH_take (i := 37) (oi := { dst := some 71, op := Go.Op.pick (Go.Operand.tmp 60) (Go.Operand.tmp 70) (Go.Operand.const (Go.Value.bool false)), type := 4, pos := "l12_world.go:18", after := #[{ on := 26, ground := Go.Ground.data }, { on := 36, ground := Go.Ground.data }, { on := 10, ground := Go.Ground.guard }], guard := some (10, false) }) (v := ?vq2_37) rfl (by kernel_rfl) (by kernel_rfl) (by kernel_rfl) (fun _ _ _ h => h) (Or.inl ⟨by rfl, ?hq2_37⟩) hHeld ?rq2_37
                case hq2_37 =>
                  intro wS hSw
                  subst hSw
                  (try dsimp only at hSw)
                  go_simp
                  try with_reducible rfl
                case rq2_37 =>
                simp only [Act.put, List.setIfInBounds_toArray, List.set_cons_zero, List.set_cons_succ]
                refine wpAnyH_take (i := 38) (oi := { dst := some 72, op := Go.Op.pick (Go.Operand.tmp 44) (Go.Operand.const (Go.Value.bool true)) (Go.Operand.tmp 71), type := 4, pos := "l12_world.go:18", after := #[{ on := 10, ground := Go.Ground.data }, { on := 37, ground := Go.Ground.data }], guard := none }) (v := ?vq2_38) rfl (by kernel_rfl) (by kernel_rfl) (by kernel_rfl) (fun _ _ _ h => h) (Or.inl ⟨by rfl, ?hq2_38⟩) hHeld ?rq2_38
                case hq2_38 =>
                  intro wS hSw
                  subst hSw
                  (try dsimp only at hSw)
                  go_simp
                  try with_reducible rfl
                case rq2_38 =>
                simp only [Act.put, List.setIfInBounds_toArray, List.set_cons_zero, List.set_cons_succ]
                refine wpAnyH_done (by kernel_rfl) ?_ _
                refine NoPanic.normal ?_
                clear hHeld
                go_wp2_with fail
                go_roundw
                case rel => exact ⟨k + 1, by omega, by go_num, unhide HF, unhide HB⟩
                case measure => simp [intOf]; omega
              · cases e5 : (ep != ce)
                · replace HF := hide ((unhide HF).trans (if_neg (by rw [e3, e4, e5]; simp)))
                  go_wp2_with fail
                  refine wp_region_noPanic ?_
                  refine wp_region_held_drew (S := fun w' => w' = w5.drew) (by kernel_rfl) rfl (fun hHeld => ?_)
                  generalize w5.drew = wD at hHeld z0 z1 z2 y2 HB LA ⊢
                  refine wpAnyH_take (i := 0) (oi := { dst := some 34, op := Go.Op.move (Go.Operand.tmp 4), type := 102, pos := "l12_world.go:18", after := #[], guard := none }) (v := ?vq3_0) rfl (by kernel_rfl) (by kernel_rfl) (by kernel_rfl) (fun _ _ _ h => h) (Or.inl ⟨by rfl, ?hq3_0⟩) hHeld ?rq3_0
                  case hq3_0 =>
                    intro wS hSw
                    subst hSw
                    (try dsimp only at hSw)
                    go_simp
                    try with_reducible rfl
                  case rq3_0 =>
                  simp only [Act.put, List.setIfInBounds_toArray, List.set_cons_zero, List.set_cons_succ]
                  refine wpAnyH_take (i := 1) (oi := { dst := some 35, op := Go.Op.nilCheck (Go.Operand.tmp 34), type := 0, pos := "l12_world.go:18", after := #[{ on := 0, ground := Go.Ground.data }], guard := none }) (v := ?vq3_1) rfl (by kernel_rfl) (by kernel_rfl) (by kernel_rfl) (fun _ _ _ h => h) (Or.inl ⟨by rfl, ?hq3_1⟩) hHeld ?rq3_1
                  case hq3_1 =>
                    intro wS hSw
                    subst hSw
                    (try dsimp only at hSw)
                    go_simp
                    try with_reducible rfl
                  case rq3_1 =>
                  simp only [Act.put, List.setIfInBounds_toArray, List.set_cons_zero, List.set_cons_succ]
                  refine wpAnyH_take (i := 2) (oi := { dst := some 36, op := Go.Op.fieldAddr 63 (Go.Operand.tmp 35) 2, type := 0, pos := "l12_world.go:18", after := #[{ on := 1, ground := Go.Ground.data }], guard := none }) (v := ?vq3_2) rfl (by kernel_rfl) (by kernel_rfl) (by kernel_rfl) (fun _ _ _ h => h) (Or.inl ⟨by rfl, ?hq3_2⟩) hHeld ?rq3_2
                  case hq3_2 =>
                    intro wS hSw
                    subst hSw
                    (try dsimp only at hSw)
                    go_simp
                    try with_reducible rfl
                  case rq3_2 =>
                  simp only [Act.put, List.setIfInBounds_toArray, List.set_cons_zero, List.set_cons_succ]
                  refine wpAnyH_take (i := 3) (oi := { dst := some 37, op := Go.Op.load 2 (Go.Operand.tmp 36), type := 2, pos := "l12_world.go:18", after := #[{ on := 2, ground := Go.Ground.data }], guard := none }) (v := ?vq3_3) rfl (by kernel_rfl) (by kernel_rfl) (by kernel_rfl) (fun _ _ _ h => h) (Or.inl ⟨by rfl, ?hq3_3⟩) hHeld ?rq3_3
                  case hq3_3 =>
                    intro wS hSw
                    subst hSw
                    (try dsimp only at hSw)
                    go_simp
                    try with_reducible rfl
                  case rq3_3 =>
                  simp only [Act.put, List.setIfInBounds_toArray, List.set_cons_zero, List.set_cons_succ]
                  refine wpAnyH_take (i := 4) (oi := { dst := some 38, op := Go.Op.move (Go.Operand.tmp 0), type := 58, pos := "l12_world.go:18", after := #[], guard := none }) (v := ?vq3_4) rfl (by kernel_rfl) (by kernel_rfl) (by kernel_rfl) (fun _ _ _ h => h) (Or.inl ⟨by rfl, ?hq3_4⟩) hHeld ?rq3_4
                  case hq3_4 =>
                    intro wS hSw
                    subst hSw
                    (try dsimp only at hSw)
                    go_simp
                    try with_reducible rfl
                  case rq3_4 =>
                  simp only [Act.put, List.setIfInBounds_toArray, List.set_cons_zero, List.set_cons_succ]
                  refine wpAnyH_take (i := 5) (oi := { dst := some 39, op := Go.Op.nilCheck (Go.Operand.tmp 38), type := 0, pos := "l12_world.go:18", after := #[{ on := 4, ground := Go.Ground.data }], guard := none }) (v := ?vq3_5) rfl (by kernel_rfl) (by kernel_rfl) (by kernel_rfl) (fun _ _ _ h => h) (Or.inl ⟨by rfl, ?hq3_5⟩) hHeld ?rq3_5
                  case hq3_5 =>
                    intro wS hSw
                    subst hSw
                    (try dsimp only at hSw)
                    go_simp
                    try with_reducible rfl
                  case rq3_5 =>
                  simp only [Act.put, List.setIfInBounds_toArray, List.set_cons_zero, List.set_cons_succ]
                  refine wpAnyH_take (i := 6) (oi := { dst := some 40, op := Go.Op.fieldAddr 36 (Go.Operand.tmp 39) 2, type := 0, pos := "l12_world.go:18", after := #[{ on := 5, ground := Go.Ground.data }], guard := none }) (v := ?vq3_6) rfl (by kernel_rfl) (by kernel_rfl) (by kernel_rfl) (fun _ _ _ h => h) (Or.inl ⟨by rfl, ?hq3_6⟩) hHeld ?rq3_6
                  case hq3_6 =>
                    intro wS hSw
                    subst hSw
                    (try dsimp only at hSw)
                    go_simp
                    try with_reducible rfl
                  case rq3_6 =>
                  simp only [Act.put, List.setIfInBounds_toArray, List.set_cons_zero, List.set_cons_succ]
                  refine wpAnyH_take (i := 7) (oi := { dst := some 41, op := Go.Op.fieldAddr 31 (Go.Operand.tmp 40) 0, type := 0, pos := "l12_world.go:18", after := #[{ on := 6, ground := Go.Ground.data }], guard := none }) (v := ?vq3_7) rfl (by kernel_rfl) (by kernel_rfl) (by kernel_rfl) (fun _ _ _ h => h) (Or.inl ⟨by rfl, ?hq3_7⟩) hHeld ?rq3_7
                  case hq3_7 =>
                    intro wS hSw
                    subst hSw
                    (try dsimp only at hSw)
                    go_simp
                    try with_reducible rfl
                  case rq3_7 =>
                  simp only [Act.put, List.setIfInBounds_toArray, List.set_cons_zero, List.set_cons_succ]
                  refine wpAnyH_take (i := 8) (oi := { dst := some 42, op := Go.Op.load 2 (Go.Operand.tmp 41), type := 2, pos := "l12_world.go:18", after := #[{ on := 7, ground := Go.Ground.data }], guard := none }) (v := ?vq3_8) rfl (by kernel_rfl) (by kernel_rfl) (by kernel_rfl) (fun _ _ _ h => h) (Or.inl ⟨by rfl, ?hq3_8⟩) hHeld ?rq3_8
                  case hq3_8 =>
                    intro wS hSw
                    subst hSw
                    (try dsimp only at hSw)
                    go_simp
                    try with_reducible rfl
                  case rq3_8 =>
                  simp only [Act.put, List.setIfInBounds_toArray, List.set_cons_zero, List.set_cons_succ]
                  refine wpAnyH_take (i := 9) (oi := { dst := some 43, op := Go.Op.binOp Go.BinOp.gtr 2 (Go.Operand.tmp 37) (Go.Operand.tmp 42) 2, type := 4, pos := "l12_world.go:18", after := #[{ on := 3, ground := Go.Ground.data }, { on := 8, ground := Go.Ground.data }], guard := none }) (v := ?vq3_9) rfl (by kernel_rfl) (by kernel_rfl) (by kernel_rfl) (fun _ _ _ h => h) (Or.inl ⟨by rfl, ?hq3_9⟩) hHeld ?rq3_9
                  case hq3_9 =>
                    intro wS hSw
                    subst hSw
                    (try dsimp only at hSw)
                    go_simp
                    try with_reducible rfl
                  case rq3_9 =>
                  simp only [Act.put, List.setIfInBounds_toArray, List.set_cons_zero, List.set_cons_succ]
                  refine wpAnyH_take (i := 10) (oi := { dst := some 44, op := Go.Op.move (Go.Operand.tmp 43), type := 4, pos := "l12_world.go:18", after := #[{ on := 9, ground := Go.Ground.data }], guard := none }) (v := ?vq3_10) rfl (by kernel_rfl) (by kernel_rfl) (by kernel_rfl) (fun _ _ _ h => h) (Or.inl ⟨by rfl, ?hq3_10⟩) hHeld ?rq3_10
                  case hq3_10 =>
                    intro wS hSw
                    subst hSw
                    (try dsimp only at hSw)
                    go_simp
                    try with_reducible rfl
                  case rq3_10 =>
                  simp only [Act.put, List.setIfInBounds_toArray, List.set_cons_zero, List.set_cons_succ]
                  refine wpAnyH_take (i := 11) (oi := { dst := some 45, op := Go.Op.move (Go.Operand.tmp 4), type := 102, pos := "l12_world.go:18", after := #[{ on := 10, ground := Go.Ground.guard }], guard := some (10, false) }) (v := ?vq3_11) rfl (by kernel_rfl) (by kernel_rfl) (by kernel_rfl) (fun _ _ _ h => h) (Or.inl ⟨by rfl, ?hq3_11⟩) hHeld ?rq3_11
                  case hq3_11 =>
                    intro wS hSw
                    subst hSw
                    (try dsimp only at hSw)
                    go_simp
                    try with_reducible rfl
                  case rq3_11 =>
                  simp only [Act.put, List.setIfInBounds_toArray, List.set_cons_zero, List.set_cons_succ]
                  refine wpAnyH_take (i := 12) (oi := { dst := some 46, op := Go.Op.nilCheck (Go.Operand.tmp 45), type := 0, pos := "l12_world.go:18", after := #[{ on := 11, ground := Go.Ground.data }, { on := 10, ground := Go.Ground.guard }], guard := some (10, false) }) (v := ?vq3_12) rfl (by kernel_rfl) (by kernel_rfl) (by kernel_rfl) (fun _ _ _ h => h) (Or.inl ⟨by rfl, ?hq3_12⟩) hHeld ?rq3_12
                  case hq3_12 =>
                    intro wS hSw
                    subst hSw
                    (try dsimp only at hSw)
                    go_simp
                    try with_reducible rfl
                  case rq3_12 =>
                  simp only [Act.put, List.setIfInBounds_toArray, List.set_cons_zero, List.set_cons_succ]
                  refine wpAnyH_take (i := 13) (oi := { dst := some 47, op := Go.Op.fieldAddr 63 (Go.Operand.tmp 46) 1, type := 0, pos := "l12_world.go:18", after := #[{ on := 12, ground := Go.Ground.data }, { on := 10, ground := Go.Ground.guard }], guard := some (10, false) }) (v := ?vq3_13) rfl (by kernel_rfl) (by kernel_rfl) (by kernel_rfl) (fun _ _ _ h => h) (Or.inl ⟨by rfl, ?hq3_13⟩) hHeld ?rq3_13
                  case hq3_13 =>
                    intro wS hSw
                    subst hSw
                    (try dsimp only at hSw)
                    go_simp
                    try with_reducible rfl
                  case rq3_13 =>
                  simp only [Act.put, List.setIfInBounds_toArray, List.set_cons_zero, List.set_cons_succ]
                  refine wpAnyH_take (i := 14) (oi := { dst := some 48, op := Go.Op.load 4 (Go.Operand.tmp 47), type := 4, pos := "l12_world.go:18", after := #[{ on := 13, ground := Go.Ground.data }, { on := 10, ground := Go.Ground.guard }], guard := some (10, false) }) (v := ?vq3_14) rfl (by kernel_rfl) (by kernel_rfl) (by kernel_rfl) (fun _ _ _ h => h) (Or.inl ⟨by rfl, ?hq3_14⟩) hHeld ?rq3_14
                  case hq3_14 =>
                    intro wS hSw
                    subst hSw
                    (try dsimp only at hSw)
                    go_simp
                    try with_reducible rfl
                  case rq3_14 =>
                  simp only [Act.put, List.setIfInBounds_toArray, List.set_cons_zero, List.set_cons_succ]
                  refine wpAnyH_take (i := 15) (oi := { dst := some 49, op := Go.Op.move (Go.Operand.tmp 48), type := 4, pos := "l12_world.go:18", after := #[{ on := 14, ground := Go.Ground.data }, { on := 10, ground := Go.Ground.chain }, { on := 10, ground := Go.Ground.guard }], guard := some (10, false) }) (v := ?vq3_15) rfl (by kernel_rfl) (by kernel_rfl) (by kernel_rfl) (fun _ _ _ h => h) (Or.inl ⟨by rfl, ?hq3_15⟩) hHeld ?rq3_15
                  case hq3_15 =>
                    intro wS hSw
                    subst hSw
                    (try dsimp only at hSw)
                    go_simp
                    try with_reducible rfl
                  case rq3_15 =>
                  simp only [Act.put, List.setIfInBounds_toArray, List.set_cons_zero, List.set_cons_succ]
                  refine wpAnyH_take (i := 16) (oi := { dst := some 50, op := Go.Op.move (Go.Operand.tmp 0), type := 58, pos := "l12_world.go:18", after := #[{ on := 15, ground := Go.Ground.guard }], guard := some (15, true) }) (v := ?vq3_16) rfl (by kernel_rfl) (by kernel_rfl) (by kernel_rfl) (fun _ _ _ h => h) (Or.inl ⟨by rfl, ?hq3_16⟩) hHeld ?rq3_16
                  case hq3_16 =>
                    intro wS hSw
                    subst hSw
                    (try dsimp only at hSw)
                    go_simp
                    try with_reducible rfl
                  case rq3_16 =>
                  simp only [Act.put, List.setIfInBounds_toArray, List.set_cons_zero, List.set_cons_succ]
                  refine wpAnyH_take (i := 17) (oi := { dst := some 51, op := Go.Op.nilCheck (Go.Operand.tmp 50), type := 0, pos := "l12_world.go:18", after := #[{ on := 16, ground := Go.Ground.data }, { on := 15, ground := Go.Ground.guard }], guard := some (15, true) }) (v := ?vq3_17) rfl (by kernel_rfl) (by kernel_rfl) (by kernel_rfl) (fun _ _ _ h => h) (Or.inl ⟨by rfl, ?hq3_17⟩) hHeld ?rq3_17
                  case hq3_17 =>
                    intro wS hSw
                    subst hSw
                    (try dsimp only at hSw)
                    go_simp
                    try with_reducible rfl
                  case rq3_17 =>
                  simp only [Act.put, List.setIfInBounds_toArray, List.set_cons_zero, List.set_cons_succ]
                  refine wpAnyH_take (i := 18) (oi := { dst := some 52, op := Go.Op.fieldAddr 36 (Go.Operand.tmp 51) 2, type := 0, pos := "l12_world.go:18", after := #[{ on := 17, ground := Go.Ground.data }, { on := 15, ground := Go.Ground.guard }], guard := some (15, true) }) (v := ?vq3_18) rfl (by kernel_rfl) (by kernel_rfl) (by kernel_rfl) (fun _ _ _ h => h) (Or.inl ⟨by rfl, ?hq3_18⟩) hHeld ?rq3_18
                  case hq3_18 =>
                    intro wS hSw
                    subst hSw
                    (try dsimp only at hSw)
                    go_simp
                    try with_reducible rfl
                  case rq3_18 =>
                  simp only [Act.put, List.setIfInBounds_toArray, List.set_cons_zero, List.set_cons_succ]
                  refine wpAnyH_take (i := 19) (oi := { dst := some 53, op := Go.Op.move (Go.Operand.tmp 4), type := 102, pos := "l12_world.go:18", after := #[{ on := 15, ground := Go.Ground.guard }], guard := some (15, true) }) (v := ?vq3_19) rfl (by kernel_rfl) (by kernel_rfl) (by kernel_rfl) (fun _ _ _ h => h) (Or.inl ⟨by rfl, ?hq3_19⟩) hHeld ?rq3_19
                  case hq3_19 =>
                    intro wS hSw
                    subst hSw
                    (try dsimp only at hSw)
                    go_simp
                    try with_reducible rfl
                  case rq3_19 =>
                  simp only [Act.put, List.setIfInBounds_toArray, List.set_cons_zero, List.set_cons_succ]
                  refine wpAnyH_take (i := 20) (oi := { dst := some 54, op := Go.Op.nilCheck (Go.Operand.tmp 53), type := 0, pos := "l12_world.go:18", after := #[{ on := 19, ground := Go.Ground.data }, { on := 15, ground := Go.Ground.guard }], guard := some (15, true) }) (v := ?vq3_20) rfl (by kernel_rfl) (by kernel_rfl) (by kernel_rfl) (fun _ _ _ h => h) (Or.inl ⟨by rfl, ?hq3_20⟩) hHeld ?rq3_20
                  case hq3_20 =>
                    intro wS hSw
                    subst hSw
                    (try dsimp only at hSw)
                    go_simp
                    try with_reducible rfl
                  case rq3_20 =>
                  simp only [Act.put, List.setIfInBounds_toArray, List.set_cons_zero, List.set_cons_succ]
                  refine wpAnyH_take (i := 21) (oi := { dst := some 55, op := Go.Op.fieldAddr 63 (Go.Operand.tmp 54) 0, type := 0, pos := "l12_world.go:18", after := #[{ on := 20, ground := Go.Ground.data }, { on := 15, ground := Go.Ground.guard }], guard := some (15, true) }) (v := ?vq3_21) rfl (by kernel_rfl) (by kernel_rfl) (by kernel_rfl) (fun _ _ _ h => h) (Or.inl ⟨by rfl, ?hq3_21⟩) hHeld ?rq3_21
                  case hq3_21 =>
                    intro wS hSw
                    subst hSw
                    (try dsimp only at hSw)
                    go_simp
                    try with_reducible rfl
                  case rq3_21 =>
                  simp only [Act.put, List.setIfInBounds_toArray, List.set_cons_zero, List.set_cons_succ]
                  refine wpAnyH_take (i := 22) (oi := { dst := some 56, op := Go.Op.load 2 (Go.Operand.tmp 55), type := 2, pos := "l12_world.go:18", after := #[{ on := 21, ground := Go.Ground.data }, { on := 15, ground := Go.Ground.guard }], guard := some (15, true) }) (v := ?vq3_22) rfl (by kernel_rfl) (by kernel_rfl) (by kernel_rfl) (fun _ _ _ h => h) (Or.inl ⟨by rfl, ?hq3_22⟩) hHeld ?rq3_22
                  case hq3_22 =>
                    intro wS hSw
                    subst hSw
                    (try dsimp only at hSw)
                    go_simp
                    try with_reducible rfl
                  case rq3_22 =>
                  simp only [Act.put, List.setIfInBounds_toArray, List.set_cons_zero, List.set_cons_succ]
                  refine wpAnyH_ready (rs := [23]) (by kernel_rfl) (by simp) ?_
                  refine AllReadyH.cons (o := { dst := some 57, op := Go.Op.call { callee := Go.Callee.value (Go.Operand.func 71), args := #[Go.Operand.tmp 52, Go.Operand.tmp 56], argTypes := #[88, 2] }, type := 3, pos := "l12_world.go:18", after := #[{ on := 18, ground := Go.Ground.data }, { on := 22, ground := Go.Ground.data }, { on := 15, ground := Go.Ground.chain }, { on := 15, ground := Go.Ground.guard }], guard := some (15, true) }) rfl (fun K hK => ?_) AllReadyH.nil
                  go_simp
                  go_at_call 71
                  refine (unhide LA).mono ?_
                  rintro e u1 ⟨rfl, h1⟩
                  subst u1
                  try go_wp2_with fail
                  refine hK.out _ _ rfl (fun hHeld => ?_)
                  clear hK K
                  try simp only [Act.put, List.setIfInBounds_toArray, List.set_cons_zero, List.set_cons_succ]
                  refine wpAnyH_take (i := 24) (oi := { dst := some 58, op := Go.Op.binOp Go.BinOp.geq 3 (Go.Operand.tmp 57) (Go.Operand.const (Go.Value.int Go.IntKind.i64 0)) 3, type := 4, pos := "l12_world.go:18", after := #[{ on := 23, ground := Go.Ground.data }, { on := 15, ground := Go.Ground.guard }], guard := some (15, true) }) (v := ?vq3_24) rfl (by kernel_rfl) (by kernel_rfl) (by kernel_rfl) (fun _ _ _ h => h) (Or.inl ⟨by rfl, ?hq3_24⟩) hHeld ?rq3_24
                  case hq3_24 =>
                    intro wS hSw
                    subst hSw
                    (try dsimp only at hSw)
                    go_simp
                    try with_reducible rfl
                  case rq3_24 =>
                  simp only [Act.put, List.setIfInBounds_toArray, List.set_cons_zero, List.set_cons_succ]
                  refine wpAnyH_take (i := 25) (oi := { dst := some 59, op := Go.Op.pick (Go.Operand.tmp 49) (Go.Operand.tmp 58) (Go.Operand.const (Go.Value.bool false)), type := 4, pos := "l12_world.go:18", after := #[{ on := 15, ground := Go.Ground.data }, { on := 24, ground := Go.Ground.data }, { on := 10, ground := Go.Ground.guard }], guard := some (10, false) }) (v := ?vq3_25) rfl (by kernel_rfl) (by kernel_rfl) (by kernel_rfl) (fun _ _ _ h => h) (Or.inl ⟨by rfl, ?hq3_25⟩) hHeld ?rq3_25
                  case hq3_25 =>
                    intro wS hSw
                    subst hSw
                    (try dsimp only at hSw)
                    go_simp
                    try with_reducible rfl
                  case rq3_25 =>
                  simp only [Act.put, List.setIfInBounds_toArray, List.set_cons_zero, List.set_cons_succ]
                  refine wpAnyH_take (i := 26) (oi := { dst := some 60, op := Go.Op.move (Go.Operand.tmp 59), type := 4, pos := "l12_world.go:18", after := #[{ on := 25, ground := Go.Ground.data }, { on := 23, ground := Go.Ground.chain }, { on := 10, ground := Go.Ground.guard }], guard := some (10, false) }) (v := ?vq3_26) rfl (by kernel_rfl) (by kernel_rfl) (by kernel_rfl) (fun _ _ _ h => h) (Or.inl ⟨by rfl, ?hq3_26⟩) hHeld ?rq3_26
                  case hq3_26 =>
                    intro wS hSw
                    subst hSw
                    (try dsimp only at hSw)
                    go_simp
                    try with_reducible rfl
                  case rq3_26 =>
                  simp only [Act.put, List.setIfInBounds_toArray, List.set_cons_zero, List.set_cons_succ]
                  refine wpAnyH_take (i := 27) (oi := { dst := some 61, op := Go.Op.move (Go.Operand.tmp 4), type := 102, pos := "l12_world.go:18", after := #[{ on := 26, ground := Go.Ground.guard }], guard := some (26, true) }) (v := ?vq3_27) rfl (by kernel_rfl) (by kernel_rfl) (by kernel_rfl) (fun _ _ _ h => h) (Or.inl ⟨by rfl, ?hq3_27⟩) hHeld ?rq3_27
                  case hq3_27 =>
                    intro wS hSw
                    subst hSw
                    (try dsimp only at hSw)
                    go_simp
                    try with_reducible rfl
                  case rq3_27 =>
                  simp only [Act.put, List.setIfInBounds_toArray, List.set_cons_zero, List.set_cons_succ]
                  refine wpAnyH_take (i := 28) (oi := { dst := some 62, op := Go.Op.nilCheck (Go.Operand.tmp 61), type := 0, pos := "l12_world.go:18", after := #[{ on := 27, ground := Go.Ground.data }, { on := 26, ground := Go.Ground.guard }], guard := some (26, true) }) (v := ?vq3_28) rfl (by kernel_rfl) (by kernel_rfl) (by kernel_rfl) (fun _ _ _ h => h) (Or.inl ⟨by rfl, ?hq3_28⟩) hHeld ?rq3_28
                  case hq3_28 =>
                    intro wS hSw
                    subst hSw
                    (try dsimp only at hSw)
                    go_simp
                    try with_reducible rfl
                  case rq3_28 =>
                  simp only [Act.put, List.setIfInBounds_toArray, List.set_cons_zero, List.set_cons_succ]
                  refine wpAnyH_take (i := 29) (oi := { dst := some 63, op := Go.Op.fieldAddr 63 (Go.Operand.tmp 62) 2, type := 0, pos := "l12_world.go:18", after := #[{ on := 28, ground := Go.Ground.data }, { on := 26, ground := Go.Ground.guard }], guard := some (26, true) }) (v := ?vq3_29) rfl (by kernel_rfl) (by kernel_rfl) (by kernel_rfl) (fun _ _ _ h => h) (Or.inl ⟨by rfl, ?hq3_29⟩) hHeld ?rq3_29
                  case hq3_29 =>
                    intro wS hSw
                    subst hSw
                    (try dsimp only at hSw)
                    go_simp
                    try with_reducible rfl
                  case rq3_29 =>
                  simp only [Act.put, List.setIfInBounds_toArray, List.set_cons_zero, List.set_cons_succ]
                  refine wpAnyH_take (i := 30) (oi := { dst := some 64, op := Go.Op.load 2 (Go.Operand.tmp 63), type := 2, pos := "l12_world.go:18", after := #[{ on := 29, ground := Go.Ground.data }, { on := 26, ground := Go.Ground.guard }], guard := some (26, true) }) (v := ?vq3_30) rfl (by kernel_rfl) (by kernel_rfl) (by kernel_rfl) (fun _ _ _ h => h) (Or.inl ⟨by rfl, ?hq3_30⟩) hHeld ?rq3_30
                  case hq3_30 =>
                    intro wS hSw
                    subst hSw
                    (try dsimp only at hSw)
                    go_simp
                    try with_reducible rfl
                  case rq3_30 =>
                  simp only [Act.put, List.setIfInBounds_toArray, List.set_cons_zero, List.set_cons_succ]
                  refine wpAnyH_take (i := 31) (oi := { dst := some 65, op := Go.Op.move (Go.Operand.tmp 0), type := 58, pos := "l12_world.go:18", after := #[{ on := 26, ground := Go.Ground.guard }], guard := some (26, true) }) (v := ?vq3_31) rfl (by kernel_rfl) (by kernel_rfl) (by kernel_rfl) (fun _ _ _ h => h) (Or.inl ⟨by rfl, ?hq3_31⟩) hHeld ?rq3_31
                  case hq3_31 =>
                    intro wS hSw
                    subst hSw
                    (try dsimp only at hSw)
                    go_simp
                    try with_reducible rfl
                  case rq3_31 =>
                  simp only [Act.put, List.setIfInBounds_toArray, List.set_cons_zero, List.set_cons_succ]
                  refine wpAnyH_take (i := 32) (oi := { dst := some 66, op := Go.Op.nilCheck (Go.Operand.tmp 65), type := 0, pos := "l12_world.go:18", after := #[{ on := 31, ground := Go.Ground.data }, { on := 26, ground := Go.Ground.guard }], guard := some (26, true) }) (v := ?vq3_32) rfl (by kernel_rfl) (by kernel_rfl) (by kernel_rfl) (fun _ _ _ h => h) (Or.inl ⟨by rfl, ?hq3_32⟩) hHeld ?rq3_32
                  case hq3_32 =>
                    intro wS hSw
                    subst hSw
                    (try dsimp only at hSw)
                    go_simp
                    try with_reducible rfl
                  case rq3_32 =>
                  simp only [Act.put, List.setIfInBounds_toArray, List.set_cons_zero, List.set_cons_succ]
                  refine wpAnyH_take (i := 33) (oi := { dst := some 67, op := Go.Op.fieldAddr 36 (Go.Operand.tmp 66) 2, type := 0, pos := "l12_world.go:18", after := #[{ on := 32, ground := Go.Ground.data }, { on := 26, ground := Go.Ground.guard }], guard := some (26, true) }) (v := ?vq3_33) rfl (by kernel_rfl) (by kernel_rfl) (by kernel_rfl) (fun _ _ _ h => h) (Or.inl ⟨by rfl, ?hq3_33⟩) hHeld ?rq3_33
                  case hq3_33 =>
                    intro wS hSw
                    subst hSw
                    (try dsimp only at hSw)
                    go_simp
                    try with_reducible rfl
                  case rq3_33 =>
                  simp only [Act.put, List.setIfInBounds_toArray, List.set_cons_zero, List.set_cons_succ]
                  refine wpAnyH_take (i := 34) (oi := { dst := some 68, op := Go.Op.fieldAddr 31 (Go.Operand.tmp 67) 0, type := 0, pos := "l12_world.go:18", after := #[{ on := 33, ground := Go.Ground.data }, { on := 26, ground := Go.Ground.guard }], guard := some (26, true) }) (v := ?vq3_34) rfl (by kernel_rfl) (by kernel_rfl) (by kernel_rfl) (fun _ _ _ h => h) (Or.inl ⟨by rfl, ?hq3_34⟩) hHeld ?rq3_34
                  case hq3_34 =>
                    intro wS hSw
                    subst hSw
                    (try dsimp only at hSw)
                    go_simp
                    try with_reducible rfl
                  case rq3_34 =>
                  simp only [Act.put, List.setIfInBounds_toArray, List.set_cons_zero, List.set_cons_succ]
                  refine wpAnyH_take (i := 35) (oi := { dst := some 69, op := Go.Op.load 2 (Go.Operand.tmp 68), type := 2, pos := "l12_world.go:18", after := #[{ on := 34, ground := Go.Ground.data }, { on := 26, ground := Go.Ground.guard }], guard := some (26, true) }) (v := ?vq3_35) rfl (by kernel_rfl) (by kernel_rfl) (by kernel_rfl) (fun _ _ _ h => h) (Or.inl ⟨by rfl, ?hq3_35⟩) hHeld ?rq3_35
                  case hq3_35 =>
                    intro wS hSw
                    subst hSw
                    (try dsimp only at hSw)
                    go_simp
                    try with_reducible rfl
                  case rq3_35 =>
                  simp only [Act.put, List.setIfInBounds_toArray, List.set_cons_zero, List.set_cons_succ]
                  refine wpAnyH_take (i := 36) (oi := { dst := some 70, op := Go.Op.binOp Go.BinOp.neq 2 (Go.Operand.tmp 64) (Go.Operand.tmp 69) 2, type := 4, pos := "l12_world.go:18", after := #[{ on := 30, ground := Go.Ground.data }, { on := 35, ground := Go.Ground.data }, { on := 26, ground := Go.Ground.guard }], guard := some (26, true) }) (v := ?vq3_36) rfl (by kernel_rfl) (by kernel_rfl) (by kernel_rfl) (fun _ _ _ h => h) (Or.inl ⟨by rfl, ?hq3_36⟩) hHeld ?rq3_36
                  case hq3_36 =>
                    intro wS hSw
                    subst hSw
                    (try dsimp only at hSw)
                    go_simp
                    try with_reducible rfl
                  case rq3_36 =>
                  simp only [Act.put, List.setIfInBounds_toArray, List.set_cons_zero, List.set_cons_succ]
                  refine wpAnyH_take (i := 37) (oi := { dst := some 71, op := Go.Op.pick (Go.Operand.tmp 60) (Go.Operand.tmp 70) (Go.Operand.const (Go.Value.bool false)), type := 4, pos := "l12_world.go:18", after := #[{ on := 26, ground := Go.Ground.data }, { on := 36, ground := Go.Ground.data }, { on := 10, ground := Go.Ground.guard }], guard := some (10, false) }) (v := ?vq3_37) rfl (by kernel_rfl) (by kernel_rfl) (by kernel_rfl) (fun _ _ _ h => h) (Or.inl ⟨by rfl, ?hq3_37⟩) hHeld ?rq3_37
                  case hq3_37 =>
                    intro wS hSw
                    subst hSw
                    (try dsimp only at hSw)
                    go_simp
                    try with_reducible rfl
                  case rq3_37 =>
                  simp only [Act.put, List.setIfInBounds_toArray, List.set_cons_zero, List.set_cons_succ]
                  refine wpAnyH_take (i := 38) (oi := { dst := some 72, op := Go.Op.pick (Go.Operand.tmp 44) (Go.Operand.const (Go.Value.bool true)) (Go.Operand.tmp 71), type := 4, pos := "l12_world.go:18", after := #[{ on := 10, ground := Go.Ground.data }, { on := 37, ground := Go.Ground.data }], guard := none }) (v := ?vq3_38) rfl (by kernel_rfl) (by kernel_rfl) (by kernel_rfl) (fun _ _ _ h => h) (Or.inl ⟨by rfl, ?hq3_38⟩) hHeld ?rq3_38
                  case hq3_38 =>
                    intro wS hSw
                    subst hSw
                    (try dsimp only at hSw)
                    go_simp
                    try with_reducible rfl
                  case rq3_38 =>
                  simp only [Act.put, List.setIfInBounds_toArray, List.set_cons_zero, List.set_cons_succ]
                  refine wpAnyH_done (by kernel_rfl) ?_ _
                  refine NoPanic.normal ?_
                  clear hHeld
                  go_wp2_with fail
                  go_roundw
                  case rel => exact ⟨k + 1, by omega, by go_num, unhide HF, unhide HB⟩
                  case measure => simp [intOf]; omega
                · have HE := hide (unhide HV _ ((unhide HF).trans (if_pos (by rw [e3, e4, e5]; simp))) (by decide))
                  go_wp2_with fail
                  refine wp_region_noPanic ?_
                  refine wp_region_held_drew (S := fun w' => w' = w5.drew) (by kernel_rfl) rfl (fun hHeld => ?_)
                  generalize w5.drew = wD at hHeld z0 z1 z2 y2 HB LA ⊢
                  refine wpAnyH_take (i := 0) (oi := { dst := some 34, op := Go.Op.move (Go.Operand.tmp 4), type := 102, pos := "l12_world.go:18", after := #[], guard := none }) (v := ?vq4_0) rfl (by kernel_rfl) (by kernel_rfl) (by kernel_rfl) (fun _ _ _ h => h) (Or.inl ⟨by rfl, ?hq4_0⟩) hHeld ?rq4_0
                  case hq4_0 =>
                    intro wS hSw
                    subst hSw
                    (try dsimp only at hSw)
                    go_simp
                    try with_reducible rfl
                  case rq4_0 =>
                  simp only [Act.put, List.setIfInBounds_toArray, List.set_cons_zero, List.set_cons_succ]
                  refine wpAnyH_take (i := 1) (oi := { dst := some 35, op := Go.Op.nilCheck (Go.Operand.tmp 34), type := 0, pos := "l12_world.go:18", after := #[{ on := 0, ground := Go.Ground.data }], guard := none }) (v := ?vq4_1) rfl (by kernel_rfl) (by kernel_rfl) (by kernel_rfl) (fun _ _ _ h => h) (Or.inl ⟨by rfl, ?hq4_1⟩) hHeld ?rq4_1
                  case hq4_1 =>
                    intro wS hSw
                    subst hSw
                    (try dsimp only at hSw)
                    go_simp
                    try with_reducible rfl
                  case rq4_1 =>
                  simp only [Act.put, List.setIfInBounds_toArray, List.set_cons_zero, List.set_cons_succ]
                  refine wpAnyH_take (i := 2) (oi := { dst := some 36, op := Go.Op.fieldAddr 63 (Go.Operand.tmp 35) 2, type := 0, pos := "l12_world.go:18", after := #[{ on := 1, ground := Go.Ground.data }], guard := none }) (v := ?vq4_2) rfl (by kernel_rfl) (by kernel_rfl) (by kernel_rfl) (fun _ _ _ h => h) (Or.inl ⟨by rfl, ?hq4_2⟩) hHeld ?rq4_2
                  case hq4_2 =>
                    intro wS hSw
                    subst hSw
                    (try dsimp only at hSw)
                    go_simp
                    try with_reducible rfl
                  case rq4_2 =>
                  simp only [Act.put, List.setIfInBounds_toArray, List.set_cons_zero, List.set_cons_succ]
                  refine wpAnyH_take (i := 3) (oi := { dst := some 37, op := Go.Op.load 2 (Go.Operand.tmp 36), type := 2, pos := "l12_world.go:18", after := #[{ on := 2, ground := Go.Ground.data }], guard := none }) (v := ?vq4_3) rfl (by kernel_rfl) (by kernel_rfl) (by kernel_rfl) (fun _ _ _ h => h) (Or.inl ⟨by rfl, ?hq4_3⟩) hHeld ?rq4_3
                  case hq4_3 =>
                    intro wS hSw
                    subst hSw
                    (try dsimp only at hSw)
                    go_simp
                    try with_reducible rfl
                  case rq4_3 =>
                  simp only [Act.put, List.setIfInBounds_toArray, List.set_cons_zero, List.set_cons_succ]
                  refine wpAnyH_take (i := 4) (oi := { dst := some 38, op := Go.Op.move (Go.Operand.tmp 0), type := 58, pos := "l12_world.go:18", after := #[], guard := none }) (v := ?vq4_4) rfl (by kernel_rfl) (by kernel_rfl) (by kernel_rfl) (fun _ _ _ h => h) (Or.inl ⟨by rfl, ?hq4_4⟩) hHeld ?rq4_4
                  case hq4_4 =>
                    intro wS hSw
                    subst hSw
                    (try dsimp only at hSw)
                    go_simp
                    try with_reducible rfl
                  case rq4_4 =>
                  simp only [Act.put, List.setIfInBounds_toArray, List.set_cons_zero, List.set_cons_succ]
                  refine wpAnyH_take (i := 5) (oi := { dst := some 39, op := Go.Op.nilCheck (Go.Operand.tmp 38), type := 0, pos := "l12_world.go:18", after := #[{ on := 4, ground := Go.Ground.data }], guard := none }) (v := ?vq4_5) rfl (by kernel_rfl) (by kernel_rfl) (by kernel_rfl) (fun _ _ _ h => h) (Or.inl ⟨by rfl, ?hq4_5⟩) hHeld ?rq4_5
                  case hq4_5 =>
                    intro wS hSw
                    subst hSw
                    (try dsimp only at hSw)
                    go_simp
                    try with_reducible rfl
                  case rq4_5 =>
                  simp only [Act.put, List.setIfInBounds_toArray, List.set_cons_zero, List.set_cons_succ]
                  refine wpAnyH_take (i := 6) (oi := { dst := some 40, op := Go.Op.fieldAddr 36 (Go.Operand.tmp 39) 2, type := 0, pos := "l12_world.go:18", after := #[{ on := 5, ground := Go.Ground.data }], guard := none }) (v := ?vq4_6) rfl (by kernel_rfl) (by kernel_rfl) (by kernel_rfl) (fun _ _ _ h => h) (Or.inl ⟨by rfl, ?hq4_6⟩) hHeld ?rq4_6
                  case hq4_6 =>
                    intro wS hSw
                    subst hSw
                    (try dsimp only at hSw)
                    go_simp
                    try with_reducible rfl
                  case rq4_6 =>
                  simp only [Act.put, List.setIfInBounds_toArray, List.set_cons_zero, List.set_cons_succ]
                  refine wpAnyH_take (i := 7) (oi := { dst := some 41, op := Go.Op.fieldAddr 31 (Go.Operand.tmp 40) 0, type := 0, pos := "l12_world.go:18", after := #[{ on := 6, ground := Go.Ground.data }], guard := none }) (v := ?vq4_7) rfl (by kernel_rfl) (by kernel_rfl) (by kernel_rfl) (fun _ _ _ h => h) (Or.inl ⟨by rfl, ?hq4_7⟩) hHeld ?rq4_7
                  case hq4_7 =>
                    intro wS hSw
                    subst hSw
                    (try dsimp only at hSw)
                    go_simp
                    try with_reducible rfl
                  case rq4_7 =>
                  simp only [Act.put, List.setIfInBounds_toArray, List.set_cons_zero, List.set_cons_succ]
                  refine wpAnyH_take (i := 8) (oi := { dst := some 42, op := Go.Op.load 2 (Go.Operand.tmp 41), type := 2, pos := "l12_world.go:18", after := #[{ on := 7, ground := Go.Ground.data }], guard := none }) (v := ?vq4_8) rfl (by kernel_rfl) (by kernel_rfl) (by kernel_rfl) (fun _ _ _ h => h) (Or.inl ⟨by rfl, ?hq4_8⟩) hHeld ?rq4_8
                  case hq4_8 =>
                    intro wS hSw
                    subst hSw
                    (try dsimp only at hSw)
                    go_simp
                    try with_reducible rfl
                  case rq4_8 =>
                  simp only [Act.put, List.setIfInBounds_toArray, List.set_cons_zero, List.set_cons_succ]
                  refine wpAnyH_take (i := 9) (oi := { dst := some 43, op := Go.Op.binOp Go.BinOp.gtr 2 (Go.Operand.tmp 37) (Go.Operand.tmp 42) 2, type := 4, pos := "l12_world.go:18", after := #[{ on := 3, ground := Go.Ground.data }, { on := 8, ground := Go.Ground.data }], guard := none }) (v := ?vq4_9) rfl (by kernel_rfl) (by kernel_rfl) (by kernel_rfl) (fun _ _ _ h => h) (Or.inl ⟨by rfl, ?hq4_9⟩) hHeld ?rq4_9
                  case hq4_9 =>
                    intro wS hSw
                    subst hSw
                    (try dsimp only at hSw)
                    go_simp
                    try with_reducible rfl
                  case rq4_9 =>
                  simp only [Act.put, List.setIfInBounds_toArray, List.set_cons_zero, List.set_cons_succ]
                  refine wpAnyH_take (i := 10) (oi := { dst := some 44, op := Go.Op.move (Go.Operand.tmp 43), type := 4, pos := "l12_world.go:18", after := #[{ on := 9, ground := Go.Ground.data }], guard := none }) (v := ?vq4_10) rfl (by kernel_rfl) (by kernel_rfl) (by kernel_rfl) (fun _ _ _ h => h) (Or.inl ⟨by rfl, ?hq4_10⟩) hHeld ?rq4_10
                  case hq4_10 =>
                    intro wS hSw
                    subst hSw
                    (try dsimp only at hSw)
                    go_simp
                    try with_reducible rfl
                  case rq4_10 =>
                  simp only [Act.put, List.setIfInBounds_toArray, List.set_cons_zero, List.set_cons_succ]
                  refine wpAnyH_take (i := 11) (oi := { dst := some 45, op := Go.Op.move (Go.Operand.tmp 4), type := 102, pos := "l12_world.go:18", after := #[{ on := 10, ground := Go.Ground.guard }], guard := some (10, false) }) (v := ?vq4_11) rfl (by kernel_rfl) (by kernel_rfl) (by kernel_rfl) (fun _ _ _ h => h) (Or.inl ⟨by rfl, ?hq4_11⟩) hHeld ?rq4_11
                  case hq4_11 =>
                    intro wS hSw
                    subst hSw
                    (try dsimp only at hSw)
                    go_simp
                    try with_reducible rfl
                  case rq4_11 =>
                  simp only [Act.put, List.setIfInBounds_toArray, List.set_cons_zero, List.set_cons_succ]
                  refine wpAnyH_take (i := 12) (oi := { dst := some 46, op := Go.Op.nilCheck (Go.Operand.tmp 45), type := 0, pos := "l12_world.go:18", after := #[{ on := 11, ground := Go.Ground.data }, { on := 10, ground := Go.Ground.guard }], guard := some (10, false) }) (v := ?vq4_12) rfl (by kernel_rfl) (by kernel_rfl) (by kernel_rfl) (fun _ _ _ h => h) (Or.inl ⟨by rfl, ?hq4_12⟩) hHeld ?rq4_12
                  case hq4_12 =>
                    intro wS hSw
                    subst hSw
                    (try dsimp only at hSw)
                    go_simp
                    try with_reducible rfl
                  case rq4_12 =>
                  simp only [Act.put, List.setIfInBounds_toArray, List.set_cons_zero, List.set_cons_succ]
                  refine wpAnyH_take (i := 13) (oi := { dst := some 47, op := Go.Op.fieldAddr 63 (Go.Operand.tmp 46) 1, type := 0, pos := "l12_world.go:18", after := #[{ on := 12, ground := Go.Ground.data }, { on := 10, ground := Go.Ground.guard }], guard := some (10, false) }) (v := ?vq4_13) rfl (by kernel_rfl) (by kernel_rfl) (by kernel_rfl) (fun _ _ _ h => h) (Or.inl ⟨by rfl, ?hq4_13⟩) hHeld ?rq4_13
                  case hq4_13 =>
                    intro wS hSw
                    subst hSw
                    (try dsimp only at hSw)
                    go_simp
                    try with_reducible rfl
                  case rq4_13 =>
                  simp only [Act.put, List.setIfInBounds_toArray, List.set_cons_zero, List.set_cons_succ]
                  refine wpAnyH_take (i := 14) (oi := { dst := some 48, op := Go.Op.load 4 (Go.Operand.tmp 47), type := 4, pos := "l12_world.go:18", after := #[{ on := 13, ground := Go.Ground.data }, { on := 10, ground := Go.Ground.guard }], guard := some (10, false) }) (v := ?vq4_14) rfl (by kernel_rfl) (by kernel_rfl) (by kernel_rfl) (fun _ _ _ h => h) (Or.inl ⟨by rfl, ?hq4_14⟩) hHeld ?rq4_14
                  case hq4_14 =>
                    intro wS hSw
                    subst hSw
                    (try dsimp only at hSw)
                    go_simp
                    try with_reducible rfl
                  case rq4_14 =>
                  simp only [Act.put, List.setIfInBounds_toArray, List.set_cons_zero, List.set_cons_succ]
                  refine wpAnyH_take (i := 15) (oi := { dst := some 49, op := Go.Op.move (Go.Operand.tmp 48), type := 4, pos := "l12_world.go:18", after := #[{ on := 14, ground := Go.Ground.data }, { on := 10, ground := Go.Ground.chain }, { on := 10, ground := Go.Ground.guard }], guard := some (10, false) }) (v := ?vq4_15) rfl (by kernel_rfl) (by kernel_rfl) (by kernel_rfl) (fun _ _ _ h => h) (Or.inl ⟨by rfl, ?hq4_15⟩) hHeld ?rq4_15
                  case hq4_15 =>
                    intro wS hSw
                    subst hSw
                    (try dsimp only at hSw)
                    go_simp
                    try with_reducible rfl
                  case rq4_15 =>
                  simp only [Act.put, List.setIfInBounds_toArray, List.set_cons_zero, List.set_cons_succ]
                  refine wpAnyH_take (i := 16) (oi := { dst := some 50, op := Go.Op.move (Go.Operand.tmp 0), type := 58, pos := "l12_world.go:18", after := #[{ on := 15, ground := Go.Ground.guard }], guard := some (15, true) }) (v := ?vq4_16) rfl (by kernel_rfl) (by kernel_rfl) (by kernel_rfl) (fun _ _ _ h => h) (Or.inl ⟨by rfl, ?hq4_16⟩) hHeld ?rq4_16
                  case hq4_16 =>
                    intro wS hSw
                    subst hSw
                    (try dsimp only at hSw)
                    go_simp
                    try with_reducible rfl
                  case rq4_16 =>
                  simp only [Act.put, List.setIfInBounds_toArray, List.set_cons_zero, List.set_cons_succ]
                  refine wpAnyH_take (i := 17) (oi := { dst := some 51, op := Go.Op.nilCheck (Go.Operand.tmp 50), type := 0, pos := "l12_world.go:18", after := #[{ on := 16, ground := Go.Ground.data }, { on := 15, ground := Go.Ground.guard }], guard := some (15, true) }) (v := ?vq4_17) rfl (by kernel_rfl) (by kernel_rfl) (by kernel_rfl) (fun _ _ _ h => h) (Or.inl ⟨by rfl, ?hq4_17⟩) hHeld ?rq4_17
                  case hq4_17 =>
                    intro wS hSw
                    subst hSw
                    (try dsimp only at hSw)
                    go_simp
                    try with_reducible rfl
                  case rq4_17 =>
                  simp only [Act.put, List.setIfInBounds_toArray, List.set_cons_zero, List.set_cons_succ]
                  refine wpAnyH_take (i := 18) (oi := { dst := some 52, op := Go.Op.fieldAddr 36 (Go.Operand.tmp 51) 2, type := 0, pos := "l12_world.go:18", after := #[{ on := 17, ground := Go.Ground.data }, { on := 15, ground := Go.Ground.guard }], guard := some (15, true) }) (v := ?vq4_18) rfl (by kernel_rfl) (by kernel_rfl) (by kernel_rfl) (fun _ _ _ h => h) (Or.inl ⟨by rfl, ?hq4_18⟩) hHeld ?rq4_18
                  case hq4_18 =>
                    intro wS hSw
                    subst hSw
                    (try dsimp only at hSw)
                    go_simp
                    try with_reducible rfl
                  case rq4_18 =>
                  simp only [Act.put, List.setIfInBounds_toArray, List.set_cons_zero, List.set_cons_succ]
                  refine wpAnyH_take (i := 19) (oi := { dst := some 53, op := Go.Op.move (Go.Operand.tmp 4), type := 102, pos := "l12_world.go:18", after := #[{ on := 15, ground := Go.Ground.guard }], guard := some (15, true) }) (v := ?vq4_19) rfl (by kernel_rfl) (by kernel_rfl) (by kernel_rfl) (fun _ _ _ h => h) (Or.inl ⟨by rfl, ?hq4_19⟩) hHeld ?rq4_19
                  case hq4_19 =>
                    intro wS hSw
                    subst hSw
                    (try dsimp only at hSw)
                    go_simp
                    try with_reducible rfl
                  case rq4_19 =>
                  simp only [Act.put, List.setIfInBounds_toArray, List.set_cons_zero, List.set_cons_succ]
                  refine wpAnyH_take (i := 20) (oi := { dst := some 54, op := Go.Op.nilCheck (Go.Operand.tmp 53), type := 0, pos := "l12_world.go:18", after := #[{ on := 19, ground := Go.Ground.data }, { on := 15, ground := Go.Ground.guard }], guard := some (15, true) }) (v := ?vq4_20) rfl (by kernel_rfl) (by kernel_rfl) (by kernel_rfl) (fun _ _ _ h => h) (Or.inl ⟨by rfl, ?hq4_20⟩) hHeld ?rq4_20
                  case hq4_20 =>
                    intro wS hSw
                    subst hSw
                    (try dsimp only at hSw)
                    go_simp
                    try with_reducible rfl
                  case rq4_20 =>
                  simp only [Act.put, List.setIfInBounds_toArray, List.set_cons_zero, List.set_cons_succ]
                  refine wpAnyH_take (i := 21) (oi := { dst := some 55, op := Go.Op.fieldAddr 63 (Go.Operand.tmp 54) 0, type := 0, pos := "l12_world.go:18", after := #[{ on := 20, ground := Go.Ground.data }, { on := 15, ground := Go.Ground.guard }], guard := some (15, true) }) (v := ?vq4_21) rfl (by kernel_rfl) (by kernel_rfl) (by kernel_rfl) (fun _ _ _ h => h) (Or.inl ⟨by rfl, ?hq4_21⟩) hHeld ?rq4_21
                  case hq4_21 =>
                    intro wS hSw
                    subst hSw
                    (try dsimp only at hSw)
                    go_simp
                    try with_reducible rfl
                  case rq4_21 =>
                  simp only [Act.put, List.setIfInBounds_toArray, List.set_cons_zero, List.set_cons_succ]
                  refine wpAnyH_take (i := 22) (oi := { dst := some 56, op := Go.Op.load 2 (Go.Operand.tmp 55), type := 2, pos := "l12_world.go:18", after := #[{ on := 21, ground := Go.Ground.data }, { on := 15, ground := Go.Ground.guard }], guard := some (15, true) }) (v := ?vq4_22) rfl (by kernel_rfl) (by kernel_rfl) (by kernel_rfl) (fun _ _ _ h => h) (Or.inl ⟨by rfl, ?hq4_22⟩) hHeld ?rq4_22
                  case hq4_22 =>
                    intro wS hSw
                    subst hSw
                    (try dsimp only at hSw)
                    go_simp
                    try with_reducible rfl
                  case rq4_22 =>
                  simp only [Act.put, List.setIfInBounds_toArray, List.set_cons_zero, List.set_cons_succ]
                  refine wpAnyH_ready (rs := [23]) (by kernel_rfl) (by simp) ?_
                  refine AllReadyH.cons (o := { dst := some 57, op := Go.Op.call { callee := Go.Callee.value (Go.Operand.func 71), args := #[Go.Operand.tmp 52, Go.Operand.tmp 56], argTypes := #[88, 2] }, type := 3, pos := "l12_world.go:18", after := #[{ on := 18, ground := Go.Ground.data }, { on := 22, ground := Go.Ground.data }, { on := 15, ground := Go.Ground.chain }, { on := 15, ground := Go.Ground.guard }], guard := some (15, true) }) rfl (fun K hK => ?_) AllReadyH.nil
                  go_simp
                  go_at_call 71
                  refine (unhide LA).mono ?_
                  rintro e u1 ⟨rfl, h1⟩
                  subst u1
                  try go_wp2_with fail
                  refine hK.out _ _ rfl (fun hHeld => ?_)
                  clear hK K
                  try simp only [Act.put, List.setIfInBounds_toArray, List.set_cons_zero, List.set_cons_succ]
                  refine wpAnyH_take (i := 24) (oi := { dst := some 58, op := Go.Op.binOp Go.BinOp.geq 3 (Go.Operand.tmp 57) (Go.Operand.const (Go.Value.int Go.IntKind.i64 0)) 3, type := 4, pos := "l12_world.go:18", after := #[{ on := 23, ground := Go.Ground.data }, { on := 15, ground := Go.Ground.guard }], guard := some (15, true) }) (v := ?vq4_24) rfl (by kernel_rfl) (by kernel_rfl) (by kernel_rfl) (fun _ _ _ h => h) (Or.inl ⟨by rfl, ?hq4_24⟩) hHeld ?rq4_24
                  case hq4_24 =>
                    intro wS hSw
                    subst hSw
                    (try dsimp only at hSw)
                    go_simp
                    try with_reducible rfl
                  case rq4_24 =>
                  simp only [Act.put, List.setIfInBounds_toArray, List.set_cons_zero, List.set_cons_succ]
                  refine wpAnyH_take (i := 25) (oi := { dst := some 59, op := Go.Op.pick (Go.Operand.tmp 49) (Go.Operand.tmp 58) (Go.Operand.const (Go.Value.bool false)), type := 4, pos := "l12_world.go:18", after := #[{ on := 15, ground := Go.Ground.data }, { on := 24, ground := Go.Ground.data }, { on := 10, ground := Go.Ground.guard }], guard := some (10, false) }) (v := ?vq4_25) rfl (by kernel_rfl) (by kernel_rfl) (by kernel_rfl) (fun _ _ _ h => h) (Or.inl ⟨by rfl, ?hq4_25⟩) hHeld ?rq4_25
                  case hq4_25 =>
                    intro wS hSw
                    subst hSw
                    (try dsimp only at hSw)
                    go_simp
                    try with_reducible rfl
                  case rq4_25 =>
                  simp only [Act.put, List.setIfInBounds_toArray, List.set_cons_zero, List.set_cons_succ]
                  refine wpAnyH_take (i := 26) (oi := { dst := some 60, op := Go.Op.move (Go.Operand.tmp 59), type := 4, pos := "l12_world.go:18", after := #[{ on := 25, ground := Go.Ground.data }, { on := 23, ground := Go.Ground.chain }, { on := 10, ground := Go.Ground.guard }], guard := some (10, false) }) (v := ?vq4_26) rfl (by kernel_rfl) (by kernel_rfl) (by kernel_rfl) (fun _ _ _ h => h) (Or.inl ⟨by rfl, ?hq4_26⟩) hHeld ?rq4_26
                  case hq4_26 =>
                    intro wS hSw
                    subst hSw
                    (try dsimp only at hSw)
                    go_simp
                    try with_reducible rfl
                  case rq4_26 =>
                  simp only [Act.put, List.setIfInBounds_toArray, List.set_cons_zero, List.set_cons_succ]
                  refine wpAnyH_take (i := 27) (oi := { dst := some 61, op := Go.Op.move (Go.Operand.tmp 4), type := 102, pos := "l12_world.go:18", after := #[{ on := 26, ground := Go.Ground.guard }], guard := some (26, true) }) (v := ?vq4_27) rfl (by kernel_rfl) (by kernel_rfl) (by kernel_rfl) (fun _ _ _ h => h) (Or.inl ⟨by rfl, ?hq4_27⟩) hHeld ?rq4_27
                  case hq4_27 =>
                    intro wS hSw
                    subst hSw
                    (try dsimp only at hSw)
                    go_simp
                    try with_reducible rfl
                  case rq4_27 =>
                  simp only [Act.put, List.setIfInBounds_toArray, List.set_cons_zero, List.set_cons_succ]
                  refine wpAnyH_take (i := 28) (oi := { dst := some 62, op := Go.Op.nilCheck (Go.Operand.tmp 61), type := 0, pos := "l12_world.go:18", after := #[{ on := 27, ground := Go.Ground.data }, { on := 26, ground := Go.Ground.guard }], guard := some (26, true) }) (v := ?vq4_28) rfl (by kernel_rfl) (by kernel_rfl) (by kernel_rfl) (fun _ _ _ h => h) (Or.inl ⟨by rfl, ?hq4_28⟩) hHeld ?rq4_28
                  case hq4_28 =>
                    intro wS hSw
                    subst hSw
                    (try dsimp only at hSw)
                    go_simp
                    try with_reducible rfl
                  case rq4_28 =>
                  simp only [Act.put, List.setIfInBounds_toArray, List.set_cons_zero, List.set_cons_succ]
                  refine wpAnyH_take (i := 29) (oi := { dst := some 63, op := Go.Op.fieldAddr 63 (Go.Operand.tmp 62) 2, type := 0, pos := "l12_world.go:18", after := #[{ on := 28, ground := Go.Ground.data }, { on := 26, ground := Go.Ground.guard }], guard := some (26, true) }) (v := ?vq4_29) rfl (by kernel_rfl) (by kernel_rfl) (by kernel_rfl) (fun _ _ _ h => h) (Or.inl ⟨by rfl, ?hq4_29⟩) hHeld ?rq4_29
                  case hq4_29 =>
                    intro wS hSw
                    subst hSw
                    (try dsimp only at hSw)
                    go_simp
                    try with_reducible rfl
                  case rq4_29 =>
                  simp only [Act.put, List.setIfInBounds_toArray, List.set_cons_zero, List.set_cons_succ]
                  refine wpAnyH_take (i := 30) (oi := { dst := some 64, op := Go.Op.load 2 (Go.Operand.tmp 63), type := 2, pos := "l12_world.go:18", after := #[{ on := 29, ground := Go.Ground.data }, { on := 26, ground := Go.Ground.guard }], guard := some (26, true) }) (v := ?vq4_30) rfl (by kernel_rfl) (by kernel_rfl) (by kernel_rfl) (fun _ _ _ h => h) (Or.inl ⟨by rfl, ?hq4_30⟩) hHeld ?rq4_30
                  case hq4_30 =>
                    intro wS hSw
                    subst hSw
                    (try dsimp only at hSw)
                    go_simp
                    try with_reducible rfl
                  case rq4_30 =>
                  simp only [Act.put, List.setIfInBounds_toArray, List.set_cons_zero, List.set_cons_succ]
                  refine wpAnyH_take (i := 31) (oi := { dst := some 65, op := Go.Op.move (Go.Operand.tmp 0), type := 58, pos := "l12_world.go:18", after := #[{ on := 26, ground := Go.Ground.guard }], guard := some (26, true) }) (v := ?vq4_31) rfl (by kernel_rfl) (by kernel_rfl) (by kernel_rfl) (fun _ _ _ h => h) (Or.inl ⟨by rfl, ?hq4_31⟩) hHeld ?rq4_31
                  case hq4_31 =>
                    intro wS hSw
                    subst hSw
                    (try dsimp only at hSw)
                    go_simp
                    try with_reducible rfl
                  case rq4_31 =>
                  simp only [Act.put, List.setIfInBounds_toArray, List.set_cons_zero, List.set_cons_succ]
                  refine wpAnyH_take (i := 32) (oi := { dst := some 66, op := Go.Op.nilCheck (Go.Operand.tmp 65), type := 0, pos := "l12_world.go:18", after := #[{ on := 31, ground := Go.Ground.data }, { on := 26, ground := Go.Ground.guard }], guard := some (26, true) }) (v := ?vq4_32) rfl (by kernel_rfl) (by kernel_rfl) (by kernel_rfl) (fun _ _ _ h => h) (Or.inl ⟨by rfl, ?hq4_32⟩) hHeld ?rq4_32
                  case hq4_32 =>
                    intro wS hSw
                    subst hSw
                    (try dsimp only at hSw)
                    go_simp
                    try with_reducible rfl
                  case rq4_32 =>
                  simp only [Act.put, List.setIfInBounds_toArray, List.set_cons_zero, List.set_cons_succ]
                  refine wpAnyH_take (i := 33) (oi := { dst := some 67, op := Go.Op.fieldAddr 36 (Go.Operand.tmp 66) 2, type := 0, pos := "l12_world.go:18", after := #[{ on := 32, ground := Go.Ground.data }, { on := 26, ground := Go.Ground.guard }], guard := some (26, true) }) (v := ?vq4_33) rfl (by kernel_rfl) (by kernel_rfl) (by kernel_rfl) (fun _ _ _ h => h) (Or.inl ⟨by rfl, ?hq4_33⟩) hHeld ?rq4_33
                  case hq4_33 =>
                    intro wS hSw
                    subst hSw
                    (try dsimp only at hSw)
                    go_simp
                    try with_reducible rfl
                  case rq4_33 =>
                  simp only [Act.put, List.setIfInBounds_toArray, List.set_cons_zero, List.set_cons_succ]
                  refine wpAnyH_take (i := 34) (oi := { dst := some 68, op := Go.Op.fieldAddr 31 (Go.Operand.tmp 67) 0, type := 0, pos := "l12_world.go:18", after := #[{ on := 33, ground := Go.Ground.data }, { on := 26, ground := Go.Ground.guard }], guard := some (26, true) }) (v := ?vq4_34) rfl (by kernel_rfl) (by kernel_rfl) (by kernel_rfl) (fun _ _ _ h => h) (Or.inl ⟨by rfl, ?hq4_34⟩) hHeld ?rq4_34
                  case hq4_34 =>
                    intro wS hSw
                    subst hSw
                    (try dsimp only at hSw)
                    go_simp
                    try with_reducible rfl
                  case rq4_34 =>
                  simp only [Act.put, List.setIfInBounds_toArray, List.set_cons_zero, List.set_cons_succ]
                  refine wpAnyH_take (i := 35) (oi := { dst := some 69, op := Go.Op.load 2 (Go.Operand.tmp 68), type := 2, pos := "l12_world.go:18", after := #[{ on := 34, ground := Go.Ground.data }, { on := 26, ground := Go.Ground.guard }], guard := some (26, true) }) (v := ?vq4_35) rfl (by kernel_rfl) (by kernel_rfl) (by kernel_rfl) (fun _ _ _ h => h) (Or.inl ⟨by rfl, ?hq4_35⟩) hHeld ?rq4_35
                  case hq4_35 =>
                    intro wS hSw
                    subst hSw
                    (try dsimp only at hSw)
                    go_simp
                    try with_reducible rfl
                  case rq4_35 =>
                  simp only [Act.put, List.setIfInBounds_toArray, List.set_cons_zero, List.set_cons_succ]
                  refine wpAnyH_take (i := 36) (oi := { dst := some 70, op := Go.Op.binOp Go.BinOp.neq 2 (Go.Operand.tmp 64) (Go.Operand.tmp 69) 2, type := 4, pos := "l12_world.go:18", after := #[{ on := 30, ground := Go.Ground.data }, { on := 35, ground := Go.Ground.data }, { on := 26, ground := Go.Ground.guard }], guard := some (26, true) }) (v := ?vq4_36) rfl (by kernel_rfl) (by kernel_rfl) (by kernel_rfl) (fun _ _ _ h => h) (Or.inl ⟨by rfl, ?hq4_36⟩) hHeld ?rq4_36
                  case hq4_36 =>
                    intro wS hSw
                    subst hSw
                    (try dsimp only at hSw)
                    go_simp
                    try with_reducible rfl
                  case rq4_36 =>
                  simp only [Act.put, List.setIfInBounds_toArray, List.set_cons_zero, List.set_cons_succ]
                  refine wpAnyH_take (i := 37) (oi := { dst := some 71, op := Go.Op.pick (Go.Operand.tmp 60) (Go.Operand.tmp 70) (Go.Operand.const (Go.Value.bool false)), type := 4, pos := "l12_world.go:18", after := #[{ on := 26, ground := Go.Ground.data }, { on := 36, ground := Go.Ground.data }, { on := 10, ground := Go.Ground.guard }], guard := some (10, false) }) (v := ?vq4_37) rfl (by kernel_rfl) (by kernel_rfl) (by kernel_rfl) (fun _ _ _ h => h) (Or.inl ⟨by rfl, ?hq4_37⟩) hHeld ?rq4_37
                  case hq4_37 =>
                    intro wS hSw
                    subst hSw
                    (try dsimp only at hSw)
                    go_simp
                    try with_reducible rfl
                  case rq4_37 =>
                  simp only [Act.put, List.setIfInBounds_toArray, List.set_cons_zero, List.set_cons_succ]
                  refine wpAnyH_take (i := 38) (oi := { dst := some 72, op := Go.Op.pick (Go.Operand.tmp 44) (Go.Operand.const (Go.Value.bool true)) (Go.Operand.tmp 71), type := 4, pos := "l12_world.go:18", after := #[{ on := 10, ground := Go.Ground.data }, { on := 37, ground := Go.Ground.data }], guard := none }) (v := ?vq4_38) rfl (by kernel_rfl) (by kernel_rfl) (by kernel_rfl) (fun _ _ _ h => h) (Or.inl ⟨by rfl, ?hq4_38⟩) hHeld ?rq4_38
                  case hq4_38 =>
                    intro wS hSw
                    subst hSw
                    (try dsimp only at hSw)
                    go_simp
                    try with_reducible rfl
                  case rq4_38 =>
                  simp only [Act.put, List.setIfInBounds_toArray, List.set_cons_zero, List.set_cons_succ]
                  refine wpAnyH_done (by kernel_rfl) ?_ _
                  refine NoPanic.normal ?_
                  clear hHeld
                  go_wp2_with fail
                  go_ret
                  exact ⟨by rw [unhide HE]; rfl, unhide HB⟩
          · have HE := hide (unhide HV _ ((unhide HF).trans (if_pos (by rw [e3]; simp))) (by decide))
            go_wp2_with fail
            refine wp_region_noPanic ?_
            refine wp_region_held_drew (S := fun w' => w' = w5.drew) (by kernel_rfl) rfl (fun hHeld => ?_)
            generalize w5.drew = wD at hHeld z0 z1 z2 y2 HB LA ⊢
            refine wpAnyH_take (i := 0) (oi := { dst := some 34, op := Go.Op.move (Go.Operand.tmp 4), type := 102, pos := "l12_world.go:18", after := #[], guard := none }) (v := ?vq5_0) rfl (by kernel_rfl) (by kernel_rfl) (by kernel_rfl) (fun _ _ _ h => h) (Or.inl ⟨by rfl, ?hq5_0⟩) hHeld ?rq5_0
            case hq5_0 =>
              intro wS hSw
              subst hSw
              (try dsimp only at hSw)
              go_simp
              try with_reducible rfl
            case rq5_0 =>
            simp only [Act.put, List.setIfInBounds_toArray, List.set_cons_zero, List.set_cons_succ]
            refine wpAnyH_take (i := 1) (oi := { dst := some 35, op := Go.Op.nilCheck (Go.Operand.tmp 34), type := 0, pos := "l12_world.go:18", after := #[{ on := 0, ground := Go.Ground.data }], guard := none }) (v := ?vq5_1) rfl (by kernel_rfl) (by kernel_rfl) (by kernel_rfl) (fun _ _ _ h => h) (Or.inl ⟨by rfl, ?hq5_1⟩) hHeld ?rq5_1
            case hq5_1 =>
              intro wS hSw
              subst hSw
              (try dsimp only at hSw)
              go_simp
              try with_reducible rfl
            case rq5_1 =>
            simp only [Act.put, List.setIfInBounds_toArray, List.set_cons_zero, List.set_cons_succ]
            refine wpAnyH_take (i := 2) (oi := { dst := some 36, op := Go.Op.fieldAddr 63 (Go.Operand.tmp 35) 2, type := 0, pos := "l12_world.go:18", after := #[{ on := 1, ground := Go.Ground.data }], guard := none }) (v := ?vq5_2) rfl (by kernel_rfl) (by kernel_rfl) (by kernel_rfl) (fun _ _ _ h => h) (Or.inl ⟨by rfl, ?hq5_2⟩) hHeld ?rq5_2
            case hq5_2 =>
              intro wS hSw
              subst hSw
              (try dsimp only at hSw)
              go_simp
              try with_reducible rfl
            case rq5_2 =>
            simp only [Act.put, List.setIfInBounds_toArray, List.set_cons_zero, List.set_cons_succ]
            refine wpAnyH_take (i := 3) (oi := { dst := some 37, op := Go.Op.load 2 (Go.Operand.tmp 36), type := 2, pos := "l12_world.go:18", after := #[{ on := 2, ground := Go.Ground.data }], guard := none }) (v := ?vq5_3) rfl (by kernel_rfl) (by kernel_rfl) (by kernel_rfl) (fun _ _ _ h => h) (Or.inl ⟨by rfl, ?hq5_3⟩) hHeld ?rq5_3
            case hq5_3 =>
              intro wS hSw
              subst hSw
              (try dsimp only at hSw)
              go_simp
              try with_reducible rfl
            case rq5_3 =>
            simp only [Act.put, List.setIfInBounds_toArray, List.set_cons_zero, List.set_cons_succ]
            refine wpAnyH_take (i := 4) (oi := { dst := some 38, op := Go.Op.move (Go.Operand.tmp 0), type := 58, pos := "l12_world.go:18", after := #[], guard := none }) (v := ?vq5_4) rfl (by kernel_rfl) (by kernel_rfl) (by kernel_rfl) (fun _ _ _ h => h) (Or.inl ⟨by rfl, ?hq5_4⟩) hHeld ?rq5_4
            case hq5_4 =>
              intro wS hSw
              subst hSw
              (try dsimp only at hSw)
              go_simp
              try with_reducible rfl
            case rq5_4 =>
            simp only [Act.put, List.setIfInBounds_toArray, List.set_cons_zero, List.set_cons_succ]
            refine wpAnyH_take (i := 5) (oi := { dst := some 39, op := Go.Op.nilCheck (Go.Operand.tmp 38), type := 0, pos := "l12_world.go:18", after := #[{ on := 4, ground := Go.Ground.data }], guard := none }) (v := ?vq5_5) rfl (by kernel_rfl) (by kernel_rfl) (by kernel_rfl) (fun _ _ _ h => h) (Or.inl ⟨by rfl, ?hq5_5⟩) hHeld ?rq5_5
            case hq5_5 =>
              intro wS hSw
              subst hSw
              (try dsimp only at hSw)
              go_simp
              try with_reducible rfl
            case rq5_5 =>
            simp only [Act.put, List.setIfInBounds_toArray, List.set_cons_zero, List.set_cons_succ]
            refine wpAnyH_take (i := 6) (oi := { dst := some 40, op := Go.Op.fieldAddr 36 (Go.Operand.tmp 39) 2, type := 0, pos := "l12_world.go:18", after := #[{ on := 5, ground := Go.Ground.data }], guard := none }) (v := ?vq5_6) rfl (by kernel_rfl) (by kernel_rfl) (by kernel_rfl) (fun _ _ _ h => h) (Or.inl ⟨by rfl, ?hq5_6⟩) hHeld ?rq5_6
            case hq5_6 =>
              intro wS hSw
              subst hSw
              (try dsimp only at hSw)
              go_simp
              try with_reducible rfl
            case rq5_6 =>
            simp only [Act.put, List.setIfInBounds_toArray, List.set_cons_zero, List.set_cons_succ]
            refine wpAnyH_take (i := 7) (oi := { dst := some 41, op := Go.Op.fieldAddr 31 (Go.Operand.tmp 40) 0, type := 0, pos := "l12_world.go:18", after := #[{ on := 6, ground := Go.Ground.data }], guard := none }) (v := ?vq5_7) rfl (by kernel_rfl) (by kernel_rfl) (by kernel_rfl) (fun _ _ _ h => h) (Or.inl ⟨by rfl, ?hq5_7⟩) hHeld ?rq5_7
            case hq5_7 =>
              intro wS hSw
              subst hSw
              (try dsimp only at hSw)
              go_simp
              try with_reducible rfl
            case rq5_7 =>
            simp only [Act.put, List.setIfInBounds_toArray, List.set_cons_zero, List.set_cons_succ]
            refine wpAnyH_take (i := 8) (oi := { dst := some 42, op := Go.Op.load 2 (Go.Operand.tmp 41), type := 2, pos := "l12_world.go:18", after := #[{ on := 7, ground := Go.Ground.data }], guard := none }) (v := ?vq5_8) rfl (by kernel_rfl) (by kernel_rfl) (by kernel_rfl) (fun _ _ _ h => h) (Or.inl ⟨by rfl, ?hq5_8⟩) hHeld ?rq5_8
            case hq5_8 =>
              intro wS hSw
              subst hSw
              (try dsimp only at hSw)
              go_simp
              try with_reducible rfl
            case rq5_8 =>
            simp only [Act.put, List.setIfInBounds_toArray, List.set_cons_zero, List.set_cons_succ]
            refine wpAnyH_take (i := 9) (oi := { dst := some 43, op := Go.Op.binOp Go.BinOp.gtr 2 (Go.Operand.tmp 37) (Go.Operand.tmp 42) 2, type := 4, pos := "l12_world.go:18", after := #[{ on := 3, ground := Go.Ground.data }, { on := 8, ground := Go.Ground.data }], guard := none }) (v := ?vq5_9) rfl (by kernel_rfl) (by kernel_rfl) (by kernel_rfl) (fun _ _ _ h => h) (Or.inl ⟨by rfl, ?hq5_9⟩) hHeld ?rq5_9
            case hq5_9 =>
              intro wS hSw
              subst hSw
              (try dsimp only at hSw)
              go_simp
              try with_reducible rfl
            case rq5_9 =>
            simp only [Act.put, List.setIfInBounds_toArray, List.set_cons_zero, List.set_cons_succ]
            refine wpAnyH_take (i := 10) (oi := { dst := some 44, op := Go.Op.move (Go.Operand.tmp 43), type := 4, pos := "l12_world.go:18", after := #[{ on := 9, ground := Go.Ground.data }], guard := none }) (v := ?vq5_10) rfl (by kernel_rfl) (by kernel_rfl) (by kernel_rfl) (fun _ _ _ h => h) (Or.inl ⟨by rfl, ?hq5_10⟩) hHeld ?rq5_10
            case hq5_10 =>
              intro wS hSw
              subst hSw
              (try dsimp only at hSw)
              go_simp
              try with_reducible rfl
            case rq5_10 =>
            simp only [Act.put, List.setIfInBounds_toArray, List.set_cons_zero, List.set_cons_succ]
            refine wpAnyH_take (i := 11) (oi := { dst := some 45, op := Go.Op.move (Go.Operand.tmp 4), type := 102, pos := "l12_world.go:18", after := #[{ on := 10, ground := Go.Ground.guard }], guard := some (10, false) }) (v := undef) rfl (by kernel_rfl) (by kernel_rfl) (by kernel_rfl) (fun _ _ _ h => h) (Or.inr ⟨by rfl, rfl⟩) hHeld ?_
            simp only [Act.put, List.setIfInBounds_toArray, List.set_cons_zero, List.set_cons_succ]
            refine wpAnyH_take (i := 12) (oi := { dst := some 46, op := Go.Op.nilCheck (Go.Operand.tmp 45), type := 0, pos := "l12_world.go:18", after := #[{ on := 11, ground := Go.Ground.data }, { on := 10, ground := Go.Ground.guard }], guard := some (10, false) }) (v := undef) rfl (by kernel_rfl) (by kernel_rfl) (by kernel_rfl) (fun _ _ _ h => h) (Or.inr ⟨by rfl, rfl⟩) hHeld ?_
            simp only [Act.put, List.setIfInBounds_toArray, List.set_cons_zero, List.set_cons_succ]
            refine wpAnyH_take (i := 13) (oi := { dst := some 47, op := Go.Op.fieldAddr 63 (Go.Operand.tmp 46) 1, type := 0, pos := "l12_world.go:18", after := #[{ on := 12, ground := Go.Ground.data }, { on := 10, ground := Go.Ground.guard }], guard := some (10, false) }) (v := undef) rfl (by kernel_rfl) (by kernel_rfl) (by kernel_rfl) (fun _ _ _ h => h) (Or.inr ⟨by rfl, rfl⟩) hHeld ?_
            simp only [Act.put, List.setIfInBounds_toArray, List.set_cons_zero, List.set_cons_succ]
            refine wpAnyH_take (i := 14) (oi := { dst := some 48, op := Go.Op.load 4 (Go.Operand.tmp 47), type := 4, pos := "l12_world.go:18", after := #[{ on := 13, ground := Go.Ground.data }, { on := 10, ground := Go.Ground.guard }], guard := some (10, false) }) (v := undef) rfl (by kernel_rfl) (by kernel_rfl) (by kernel_rfl) (fun _ _ _ h => h) (Or.inr ⟨by rfl, rfl⟩) hHeld ?_
            simp only [Act.put, List.setIfInBounds_toArray, List.set_cons_zero, List.set_cons_succ]
            refine wpAnyH_take (i := 15) (oi := { dst := some 49, op := Go.Op.move (Go.Operand.tmp 48), type := 4, pos := "l12_world.go:18", after := #[{ on := 14, ground := Go.Ground.data }, { on := 10, ground := Go.Ground.chain }, { on := 10, ground := Go.Ground.guard }], guard := some (10, false) }) (v := undef) rfl (by kernel_rfl) (by kernel_rfl) (by kernel_rfl) (fun _ _ _ h => h) (Or.inr ⟨by rfl, rfl⟩) hHeld ?_
            simp only [Act.put, List.setIfInBounds_toArray, List.set_cons_zero, List.set_cons_succ]
            refine wpAnyH_take (i := 16) (oi := { dst := some 50, op := Go.Op.move (Go.Operand.tmp 0), type := 58, pos := "l12_world.go:18", after := #[{ on := 15, ground := Go.Ground.guard }], guard := some (15, true) }) (v := undef) rfl (by kernel_rfl) (by kernel_rfl) (by kernel_rfl) (fun _ _ _ h => h) (Or.inr ⟨by rfl, rfl⟩) hHeld ?_
            simp only [Act.put, List.setIfInBounds_toArray, List.set_cons_zero, List.set_cons_succ]
            refine wpAnyH_take (i := 17) (oi := { dst := some 51, op := Go.Op.nilCheck (Go.Operand.tmp 50), type := 0, pos := "l12_world.go:18", after := #[{ on := 16, ground := Go.Ground.data }, { on := 15, ground := Go.Ground.guard }], guard := some (15, true) }) (v := undef) rfl (by kernel_rfl) (by kernel_rfl) (by kernel_rfl) (fun _ _ _ h => h) (Or.inr ⟨by rfl, rfl⟩) hHeld ?_
            simp only [Act.put, List.setIfInBounds_toArray, List.set_cons_zero, List.set_cons_succ]
            refine wpAnyH_take (i := 18) (oi := { dst := some 52, op := Go.Op.fieldAddr 36 (Go.Operand.tmp 51) 2, type := 0, pos := "l12_world.go:18", after := #[{ on := 17, ground := Go.Ground.data }, { on := 15, ground := Go.Ground.guard }], guard := some (15, true) }) (v := undef) rfl (by kernel_rfl) (by kernel_rfl) (by kernel_rfl) (fun _ _ _ h => h) (Or.inr ⟨by rfl, rfl⟩) hHeld ?_
            simp only [Act.put, List.setIfInBounds_toArray, List.set_cons_zero, List.set_cons_succ]
            refine wpAnyH_take (i := 19) (oi := { dst := some 53, op := Go.Op.move (Go.Operand.tmp 4), type := 102, pos := "l12_world.go:18", after := #[{ on := 15, ground := Go.Ground.guard }], guard := some (15, true) }) (v := undef) rfl (by kernel_rfl) (by kernel_rfl) (by kernel_rfl) (fun _ _ _ h => h) (Or.inr ⟨by rfl, rfl⟩) hHeld ?_
            simp only [Act.put, List.setIfInBounds_toArray, List.set_cons_zero, List.set_cons_succ]
            refine wpAnyH_take (i := 20) (oi := { dst := some 54, op := Go.Op.nilCheck (Go.Operand.tmp 53), type := 0, pos := "l12_world.go:18", after := #[{ on := 19, ground := Go.Ground.data }, { on := 15, ground := Go.Ground.guard }], guard := some (15, true) }) (v := undef) rfl (by kernel_rfl) (by kernel_rfl) (by kernel_rfl) (fun _ _ _ h => h) (Or.inr ⟨by rfl, rfl⟩) hHeld ?_
            simp only [Act.put, List.setIfInBounds_toArray, List.set_cons_zero, List.set_cons_succ]
            refine wpAnyH_take (i := 21) (oi := { dst := some 55, op := Go.Op.fieldAddr 63 (Go.Operand.tmp 54) 0, type := 0, pos := "l12_world.go:18", after := #[{ on := 20, ground := Go.Ground.data }, { on := 15, ground := Go.Ground.guard }], guard := some (15, true) }) (v := undef) rfl (by kernel_rfl) (by kernel_rfl) (by kernel_rfl) (fun _ _ _ h => h) (Or.inr ⟨by rfl, rfl⟩) hHeld ?_
            simp only [Act.put, List.setIfInBounds_toArray, List.set_cons_zero, List.set_cons_succ]
            refine wpAnyH_take (i := 22) (oi := { dst := some 56, op := Go.Op.load 2 (Go.Operand.tmp 55), type := 2, pos := "l12_world.go:18", after := #[{ on := 21, ground := Go.Ground.data }, { on := 15, ground := Go.Ground.guard }], guard := some (15, true) }) (v := undef) rfl (by kernel_rfl) (by kernel_rfl) (by kernel_rfl) (fun _ _ _ h => h) (Or.inr ⟨by rfl, rfl⟩) hHeld ?_
            simp only [Act.put, List.setIfInBounds_toArray, List.set_cons_zero, List.set_cons_succ]
            refine wpAnyH_take (i := 23) (oi := { dst := some 57, op := Go.Op.call { callee := Go.Callee.value (Go.Operand.func 71), args := #[Go.Operand.tmp 52, Go.Operand.tmp 56], argTypes := #[88, 2] }, type := 3, pos := "l12_world.go:18", after := #[{ on := 18, ground := Go.Ground.data }, { on := 22, ground := Go.Ground.data }, { on := 15, ground := Go.Ground.chain }, { on := 15, ground := Go.Ground.guard }], guard := some (15, true) }) (v := undef) rfl (by kernel_rfl) (by kernel_rfl) (by kernel_rfl) (fun _ _ _ h => h) (Or.inr ⟨by rfl, rfl⟩) hHeld ?_
            simp only [Act.put, List.setIfInBounds_toArray, List.set_cons_zero, List.set_cons_succ]
            refine wpAnyH_take (i := 24) (oi := { dst := some 58, op := Go.Op.binOp Go.BinOp.geq 3 (Go.Operand.tmp 57) (Go.Operand.const (Go.Value.int Go.IntKind.i64 0)) 3, type := 4, pos := "l12_world.go:18", after := #[{ on := 23, ground := Go.Ground.data }, { on := 15, ground := Go.Ground.guard }], guard := some (15, true) }) (v := undef) rfl (by kernel_rfl) (by kernel_rfl) (by kernel_rfl) (fun _ _ _ h => h) (Or.inr ⟨by rfl, rfl⟩) hHeld ?_
            simp only [Act.put, List.setIfInBounds_toArray, List.set_cons_zero, List.set_cons_succ]
            refine wpAnyH_take (i := 25) (oi := { dst := some 59, op := Go.Op.pick (Go.Operand.tmp 49) (Go.Operand.tmp 58) (Go.Operand.const (Go.Value.bool false)), type := 4, pos := "l12_world.go:18", after := #[{ on := 15, ground := Go.Ground.data }, { on := 24, ground := Go.Ground.data }, { on := 10, ground := Go.Ground.guard }], guard := some (10, false) }) (v := undef) rfl (by kernel_rfl) (by kernel_rfl) (by kernel_rfl) (fun _ _ _ h => h) (Or.inr ⟨by rfl, rfl⟩) hHeld ?_
            simp only [Act.put, List.setIfInBounds_toArray, List.set_cons_zero, List.set_cons_succ]
            refine wpAnyH_take (i := 26) (oi := { dst := some 60, op := Go.Op.move (Go.Operand.tmp 59), type := 4, pos := "l12_world.go:18", after := #[{ on := 25, ground := Go.Ground.data }, { on := 23, ground := Go.Ground.chain }, { on := 10, ground := Go.Ground.guard }], guard := some (10, false) }) (v := undef) rfl (by kernel_rfl) (by kernel_rfl) (by kernel_rfl) (fun _ _ _ h => h) (Or.inr ⟨by rfl, rfl⟩) hHeld ?_
            simp only [Act.put, List.setIfInBounds_toArray, List.set_cons_zero, List.set_cons_succ]
            refine wpAnyH_take (i := 27) (oi := { dst := some 61, op := Go.Op.move (Go.Operand.tmp 4), type := 102, pos := "l12_world.go:18", after := #[{ on := 26, ground := Go.Ground.guard }], guard := some (26, true) }) (v := undef) rfl (by kernel_rfl) (by kernel_rfl) (by kernel_rfl) (fun _ _ _ h => h) (Or.inr ⟨by rfl, rfl⟩) hHeld ?_
            simp only [Act.put, List.setIfInBounds_toArray, List.set_cons_zero, List.set_cons_succ]
            refine wpAnyH_take (i := 28) (oi := { dst := some 62, op := Go.Op.nilCheck (Go.Operand.tmp 61), type := 0, pos := "l12_world.go:18", after := #[{ on := 27, ground := Go.Ground.data }, { on := 26, ground := Go.Ground.guard }], guard := some (26, true) }) (v := undef) rfl (by kernel_rfl) (by kernel_rfl) (by kernel_rfl) (fun _ _ _ h => h) (Or.inr ⟨by rfl, rfl⟩) hHeld ?_
            simp only [Act.put, List.setIfInBounds_toArray, List.set_cons_zero, List.set_cons_succ]
            refine wpAnyH_take (i := 29) (oi := { dst := some 63, op := Go.Op.fieldAddr 63 (Go.Operand.tmp 62) 2, type := 0, pos := "l12_world.go:18", after := #[{ on := 28, ground := Go.Ground.data }, { on := 26, ground := Go.Ground.guard }], guard := some (26, true) }) (v := undef) rfl (by kernel_rfl) (by kernel_rfl) (by kernel_rfl) (fun _ _ _ h => h) (Or.inr ⟨by rfl, rfl⟩) hHeld ?_
            simp only [Act.put, List.setIfInBounds_toArray, List.set_cons_zero, List.set_cons_succ]
            refine wpAnyH_take (i := 30) (oi := { dst := some 64, op := Go.Op.load 2 (Go.Operand.tmp 63), type := 2, pos := "l12_world.go:18", after := #[{ on := 29, ground := Go.Ground.data }, { on := 26, ground := Go.Ground.guard }], guard := some (26, true) }) (v := undef) rfl (by kernel_rfl) (by kernel_rfl) (by kernel_rfl) (fun _ _ _ h => h) (Or.inr ⟨by rfl, rfl⟩) hHeld ?_
            simp only [Act.put, List.setIfInBounds_toArray, List.set_cons_zero, List.set_cons_succ]
            refine wpAnyH_take (i := 31) (oi := { dst := some 65, op := Go.Op.move (Go.Operand.tmp 0), type := 58, pos := "l12_world.go:18", after := #[{ on := 26, ground := Go.Ground.guard }], guard := some (26, true) }) (v := undef) rfl (by kernel_rfl) (by kernel_rfl) (by kernel_rfl) (fun _ _ _ h => h) (Or.inr ⟨by rfl, rfl⟩) hHeld ?_
            simp only [Act.put, List.setIfInBounds_toArray, List.set_cons_zero, List.set_cons_succ]
            refine wpAnyH_take (i := 32) (oi := { dst := some 66, op := Go.Op.nilCheck (Go.Operand.tmp 65), type := 0, pos := "l12_world.go:18", after := #[{ on := 31, ground := Go.Ground.data }, { on := 26, ground := Go.Ground.guard }], guard := some (26, true) }) (v := undef) rfl (by kernel_rfl) (by kernel_rfl) (by kernel_rfl) (fun _ _ _ h => h) (Or.inr ⟨by rfl, rfl⟩) hHeld ?_
            simp only [Act.put, List.setIfInBounds_toArray, List.set_cons_zero, List.set_cons_succ]
            refine wpAnyH_take (i := 33) (oi := { dst := some 67, op := Go.Op.fieldAddr 36 (Go.Operand.tmp 66) 2, type := 0, pos := "l12_world.go:18", after := #[{ on := 32, ground := Go.Ground.data }, { on := 26, ground := Go.Ground.guard }], guard := some (26, true) }) (v := undef) rfl (by kernel_rfl) (by kernel_rfl) (by kernel_rfl) (fun _ _ _ h => h) (Or.inr ⟨by rfl, rfl⟩) hHeld ?_
            simp only [Act.put, List.setIfInBounds_toArray, List.set_cons_zero, List.set_cons_succ]
            refine wpAnyH_take (i := 34) (oi := { dst := some 68, op := Go.Op.fieldAddr 31 (Go.Operand.tmp 67) 0, type := 0, pos := "l12_world.go:18", after := #[{ on := 33, ground := Go.Ground.data }, { on := 26, ground := Go.Ground.guard }], guard := some (26, true) }) (v := undef) rfl (by kernel_rfl) (by kernel_rfl) (by kernel_rfl) (fun _ _ _ h => h) (Or.inr ⟨by rfl, rfl⟩) hHeld ?_
            simp only [Act.put, List.setIfInBounds_toArray, List.set_cons_zero, List.set_cons_succ]
            refine wpAnyH_take (i := 35) (oi := { dst := some 69, op := Go.Op.load 2 (Go.Operand.tmp 68), type := 2, pos := "l12_world.go:18", after := #[{ on := 34, ground := Go.Ground.data }, { on := 26, ground := Go.Ground.guard }], guard := some (26, true) }) (v := undef) rfl (by kernel_rfl) (by kernel_rfl) (by kernel_rfl) (fun _ _ _ h => h) (Or.inr ⟨by rfl, rfl⟩) hHeld ?_
            simp only [Act.put, List.setIfInBounds_toArray, List.set_cons_zero, List.set_cons_succ]
            refine wpAnyH_take (i := 36) (oi := { dst := some 70, op := Go.Op.binOp Go.BinOp.neq 2 (Go.Operand.tmp 64) (Go.Operand.tmp 69) 2, type := 4, pos := "l12_world.go:18", after := #[{ on := 30, ground := Go.Ground.data }, { on := 35, ground := Go.Ground.data }, { on := 26, ground := Go.Ground.guard }], guard := some (26, true) }) (v := undef) rfl (by kernel_rfl) (by kernel_rfl) (by kernel_rfl) (fun _ _ _ h => h) (Or.inr ⟨by rfl, rfl⟩) hHeld ?_
            simp only [Act.put, List.setIfInBounds_toArray, List.set_cons_zero, List.set_cons_succ]
            refine wpAnyH_take (i := 37) (oi := { dst := some 71, op := Go.Op.pick (Go.Operand.tmp 60) (Go.Operand.tmp 70) (Go.Operand.const (Go.Value.bool false)), type := 4, pos := "l12_world.go:18", after := #[{ on := 26, ground := Go.Ground.data }, { on := 36, ground := Go.Ground.data }, { on := 10, ground := Go.Ground.guard }], guard := some (10, false) }) (v := undef) rfl (by kernel_rfl) (by kernel_rfl) (by kernel_rfl) (fun _ _ _ h => h) (Or.inr ⟨by rfl, rfl⟩) hHeld ?_
            simp only [Act.put, List.setIfInBounds_toArray, List.set_cons_zero, List.set_cons_succ]
            refine wpAnyH_take (i := 38) (oi := { dst := some 72, op := Go.Op.pick (Go.Operand.tmp 44) (Go.Operand.const (Go.Value.bool true)) (Go.Operand.tmp 71), type := 4, pos := "l12_world.go:18", after := #[{ on := 10, ground := Go.Ground.data }, { on := 37, ground := Go.Ground.data }], guard := none }) (v := ?vq5_38) rfl (by kernel_rfl) (by kernel_rfl) (by kernel_rfl) (fun _ _ _ h => h) (Or.inl ⟨by rfl, ?hq5_38⟩) hHeld ?rq5_38
            case hq5_38 =>
              intro wS hSw
              subst hSw
              (try dsimp only at hSw)
              go_simp
              try with_reducible rfl
            case rq5_38 =>
            simp only [Act.put, List.setIfInBounds_toArray, List.set_cons_zero, List.set_cons_succ]
            refine wpAnyH_done (by kernel_rfl) ?_ _
            refine NoPanic.normal ?_
            clear hHeld
            go_wp2_with fail
            go_ret
            exact ⟨by rw [unhide HE]; rfl, unhide HB⟩
        · have HE := hide (unhide HV _ ((unhide HF).trans (if_pos e2)) (by decide))
          go_wp2_with fail
          go_ret
          exact ⟨by rw [unhide HE]; rfl, unhide HB0⟩
    · obtain rfl : k = x.nodes.length := by omega
      rw [List.drop_length] at hF
      have hdl : decide ((x.nodes.length : Int) < (x.nodes.length : Int)) = false := by simp
      have HZ := hide (unhide HV0 hF)
      have HB1 := hide hB
      clear hF hB HV HV0
      go_wp2_with fail
      clear hdl v2 v3
      go_loopw [6] (fun i wq => ∃ k : Nat, k ≤ x.chain.ids.length ∧ i = .int .i64 k ∧ r = (if (x.chain.ids.drop k).all (nodeIn x) = true then 0 else 4) ∧ Below wr.heap.size wr wq) (fun i _ => x.chain.ids.length - (intOf i).toNat)
      case atStart => exact ⟨0, Nat.zero_le _, rfl, unhide HZ, Below.refl _ _⟩
      case round =>
        obtain ⟨k, hk, rfl, hF, hB⟩ := hrel
        clear HZ
        have hX2 := (unhide HX1).keep hB
        have y3 := Box.at hX2 3 _ rfl
        simp only [List.getElem_toArray, List.getElem_cons_zero, List.getElem_cons_succ] at y3
        have xl2 := hX2.lt
        have HB := hide ((unhide HB1).trans (hB.mono (unhide HB1).size))
        by_cases hlt : k < x.chain.ids.length
        · obtain ⟨b, off, rfl, hbl⟩ := Lay.sl_addr (unhide HI) (by omega)
          have c1 := ((unhide HB).cell (p := ⟨b, off + k, none⟩) hbl).trans (int_cell (unhide HI) hlt)
          have hdl : decide ((k : Int) < (x.chain.ids.length : Int)) = true := by simp; omega
          rw [List.drop_eq_getElem_cons hlt, List.all_cons] at hF
          have HL := hide (l12NodeC _ _ _ _ _ _ _ _ x x.chain.ids[k] xb wr hX2)
          have HF := hide hF
          have HBQ := hide hB
          clear hF hX2 hB
          generalize x.chain.ids[k] = z at *
          go_wp2_with fail
          refine (unhide HL).mono ?_
          rintro e w5 ⟨rfl, h5⟩
          subst w5
          clear HL
          generalize nodeIn x z = q at *
          cases q
          · replace HF := hide ((unhide HF).trans (if_neg (by simp)))
            go_wp2_with fail
            go_ret
            exact ⟨by rw [unhide HF]; rfl, unhide HB⟩
          · rw [Bool.true_and] at HF
            go_wp2_with fail
            go_roundw
            case rel => exact ⟨k + 1, by omega, by go_num, unhide HF, unhide HBQ⟩
            case measure => simp [intOf]; omega
        · obtain rfl : k = x.chain.ids.length := by omega
          rw [List.drop_length, List.all_nil, if_pos rfl] at hF
          have hdl : decide ((x.chain.ids.length : Int) < (x.chain.ids.length : Int)) = false := by simp
          have HF := hide hF
          clear hF hB hX2
          go_wp2_with fail
          go_ret
          exact ⟨by rw [unhide HF]; rfl, unhide HB⟩
end Go.Proofs.YtdnhmoppineegaaGreat

namespace Go.Proofs.YtdnhmoppineegaaGreat
open Go.RowKit

/-- A message of a list, at its place. -/
theorem msg_row {w : World} {b off cap : Nat} {xs : List DMsg} (h : (Lay.sl Lay.tMsg).Reads w [.slice (some ⟨b, off, none⟩) xs.length cap] xs) {k : Nat} (hk : k < xs.length) : ∃ a d, MsgAt w b (off + k * 10) xs[k] (.slice a xs[k].write.vec.length d) ∧ (Lay.sl Lay.int).Reads w [.slice a xs[k].write.vec.length d] xs[k].write.vec := by
  obtain ⟨row, hc, hr⟩ := Lay.row_at h hk
  obtain ⟨a, d, rfl, R⟩ := open_Msg hr
  exact ⟨a, d, ⟨hc 0 (by decide), hc 1 (by decide), hc 2 (by decide), hc 3 (by decide), hc 4 (by decide), hc 5 (by decide), hc 6 (by decide), hc 7 (by decide), hc 8 (by decide), hc 9 (by decide)⟩, write_vec R⟩
theorem nf_many {xs : List DMsg} (h : 40 < xs.length) : netFault xs = 2 := by rw [netFault, if_pos h]
theorem nf_few {xs : List DMsg} (h : ¬ 40 < xs.length) : netFault xs = msgsFrom xs := by rw [netFault, if_neg h]

set_option maxRecDepth 10000 in
set_option maxHeartbeats 1000000 in
theorem l11FaultC (v : Value) (xs : List DMsg) (w : World) (h : (Lay.sl Lay.tMsg).Reads w [v] xs) :
    Calls Tryz.prog 160 #[v] w fun e w' => e = .returned (.int .i64 (netFault xs)) ∧ Below w.heap.size w w' := by
  obtain ⟨ao, cap, rfl⟩ := open_sl h
  have hbig := h.big
  have H := hide h
  clear h
  by_cases h40 : 40 < xs.length
  · have HF := hide (nf_many h40)
    have hd : decide ((40 : Int) < (xs.length : Int)) = true := by simp; omega
    go_enter Tryz.func160, Tryz.ntmps160
    go_wp2_with fail
    go_ret
    exact ⟨by rw [unhide HF]; rfl, Below.refl _ _⟩
  · have HF := hide (nf_few h40)
    have hd : decide ((40 : Int) < (xs.length : Int)) = false := by simp; omega
    go_enter Tryz.func160, Tryz.ntmps160
    go_wp2_with fail
    clear hd
    go_loopw [3] (fun i wr => ∃ k : Nat, k ≤ xs.length ∧ i = .int .i64 k ∧ (∀ j (hj : j < xs.length), j < k → msgFault xs[j] = 0) ∧ Below w.heap.size w wr) (fun i _ => xs.length - (intOf i).toNat)
    case atStart => exact ⟨0, Nat.zero_le _, rfl, fun j _ hj => by omega, Below.refl _ _⟩
    case round =>
      obtain ⟨k, hk, rfl, hz, hB⟩ := hrel
      by_cases hlt : k < xs.length
      · obtain ⟨b, off, rfl, hbl⟩ := Lay.sl_addr (unhide H) (by omega)
        obtain ⟨a, d, hM, R⟩ := msg_row ((unhide H).later hB) hlt
        have HL := hide (l11MsgC b (off + k * 10) a d xs[k] wr hM R)
        have hbr : b < wr.heap.size := Nat.lt_of_lt_of_le hbl hB.size
        have hdl : decide ((k : Int) < (xs.length : Int)) = true := by simp; omega
        have HB := hide hB
        have HAT : Hid (msgFault xs[k] ≠ 0 → msgsFrom xs = msgFault xs[k]) := fun q => msgsFrom_at hlt (fun j hj => hz j (by omega) hj) q
        have HZ2 : Hid (msgFault xs[k] = 0 → ∀ j (hj : j < xs.length), j < k + 1 → msgFault xs[j] = 0) := by
          intro h0 j hj hjk
          by_cases hjk2 : j < k
          · exact hz j hj hjk2
          · obtain rfl : j = k := by omega
            exact h0
        clear hz hM R hB
        generalize msgFault xs[k] = f at *
        go_wp2_with fail
        refine (unhide HL).mono ?_
        rintro e w2 ⟨rfl, hb⟩
        have HB2 := hide ((unhide HB).trans (hb.mono (unhide HB).size))
        clear hb HL HB
        by_cases hf : f = 0
        · have HZ3 := hide (unhide HZ2 hf)
          subst hf
          clear HZ2 HAT
          go_wp2_with fail
          go_roundw
          case rel => exact ⟨k + 1, by omega, by go_num, unhide HZ3, unhide HB2⟩
          case measure => simp [intOf]; omega
        · have HA := hide ((unhide HF).trans (unhide HAT hf))
          have hd : (f != 0) = true := by simpa using hf
          clear HZ2 HAT hf
          go_wp2_with fail
          go_ret
          exact ⟨by rw [unhide HA]; rfl, unhide HB2⟩
      · obtain rfl : k = xs.length := by omega
        have hdl : decide ((xs.length : Int) < (xs.length : Int)) = false := by simp
        have HA := hide ((unhide HF).trans (msgsFrom_all fun x hx => by obtain ⟨j, hj, rfl⟩ := List.getElem_of_mem hx; exact hz j hj hj))
        have HB := hide hB
        clear hB hz
        go_wp2_with fail
        go_ret
        exact ⟨by rw [unhide HA]; rfl, unhide HB⟩

end Go.Proofs.YtdnhmoppineegaaGreat
