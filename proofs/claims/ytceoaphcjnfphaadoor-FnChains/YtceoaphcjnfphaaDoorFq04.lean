/-
  Texts of this proof in one: BesideKit, ImplNodeId, ImplEpoch, PartReads, ImplChainF, ImplBeside, Ints, IntConcat, ImplChanged, ImplCutC, ImplClone, ImplJoinC, Shelf, Fmt, Decimal, AppStr, ImplCText, LawFnChains.
  Their conditions stand in their theorems.
-/
import Derived.Test.YtceoaphcjnfphaaDoorFq01
import Derived.Test.YtceoaphcjnfphaaDoorChecked
import Derived.Deep.CutRange
import Derived.BigQuiet
import Derived.Deep.QuietTactic
import Derived.WalkSmall
import Derived.Lib.AppendZerosOnto
import Derived.Deep.RegionHeld3
import Derived.Shelf.Strings.Builder1
import Derived.Shelf.Strings.Builder2
import Derived.Shelf.Strings.OnBuilder
import Derived.Shelf.Strconv.Itoa0
import Derived.Shelf.Strconv.Itoa1
import Derived.Shelf.LaysM
import Derived.Shelf.Strconv.Itoa2
import Derived.Shelf.Strconv.Itoa3
import Derived.Shelf.Strconv.Itoa4
import Derived.Ground.SlgnProg
import Derived.Shelf.SlicesE.Clone
import Derived.Test.YtceoaphcjnfphaaDoorProg
import Derived.Test.YtceoaphcjnfphaaDoorFq02
import Derived.Lib.LaidTab
import Derived.Lib.AppendIntMem
import Derived.Test.YtceoaphcjnfphaaDoorFq03

namespace Go.Proofs.YtceoaphcjnfphaaDoor
open Go.RowKit

theorem besideR_wf {x : DChain} (h : ∀ z ∈ x.ids, (Lit.int .i64 z).wf = true) (id dd : Int) : (Lit.int .i64 (besideR x id dd).code).wf = true ∧ (Lit.int .i64 (besideR x id dd).value).wf = true := by
  unfold besideR
  split
  · split
    · exact ⟨by decide, by decide⟩
    · split
      · exact ⟨by decide, by decide⟩
      · refine ⟨by show (Lit.int .i64 0).wf = true; decide, ?_⟩
        show (Lit.int .i64 (nextC x.ids id dd)).wf = true
        unfold nextC
        split
        · decide
        · rw [List.getD]
          cases hg : x.ids[(placeC x.ids id + dd).toNat]? with
          | none => simp; decide
          | some z => exact h z (List.mem_of_getElem? hg)
  · exact ⟨wf_of_bd (chainFault_bd x), by show (Lit.int .i64 0).wf = true; decide⟩
end Go.Proofs.YtceoaphcjnfphaaDoor

namespace Go.Proofs.YtceoaphcjnfphaaDoor
open Go.RowKit

theorem isNodeIdC (n : Int) (w : World) :
    Calls Tryd.prog 29 #[.int .i64 n] w fun e w' => e = .returned (.bool (decide (1 ≤ n) && decide (n ≤ 5))) ∧ w' = w := by
  by_cases h1 : 1 ≤ n
  · have d1 : decide (1 ≤ n) = true := by simpa using h1
    rw [d1]
    cases d2 : decide (n ≤ 5) <;>
    · go_enter Tryd.func29, Tryd.ntmps29
      go_wp2_with fail
      go_ret
      exact ⟨rfl, rfl⟩
  · have d1 : decide (1 ≤ n) = false := by simpa using h1
    rw [d1]
    go_enter Tryd.func29, Tryd.ntmps29
    go_wp2_with fail
    go_ret
    exact ⟨rfl, rfl⟩
end Go.Proofs.YtceoaphcjnfphaaDoor

namespace Go.Proofs.YtceoaphcjnfphaaDoor
open Go.RowKit

theorem isChainEpochC (n : Int) (w : World) :
    Calls Tryd.prog 27 #[.int .i64 n] w fun e w' => e = .returned (.bool (decide (1 ≤ n) && decide (n ≤ 999))) ∧ w' = w := by
  by_cases h1 : 1 ≤ n
  · have d1 : decide (1 ≤ n) = true := by simpa using h1
    rw [d1]
    cases d2 : decide (n ≤ 999) <;>
    · go_enter Tryd.func27, Tryd.ntmps27
      go_wp2_with fail
      go_ret
      exact ⟨rfl, rfl⟩
  · have d1 : decide (1 ≤ n) = false := by simpa using h1
    rw [d1]
    go_enter Tryd.func27, Tryd.ntmps27
    go_wp2_with fail
    go_ret
    exact ⟨rfl, rfl⟩
end Go.Proofs.YtceoaphcjnfphaaDoor

namespace Go.Proofs.YtceoaphcjnfphaaDoor
open Go.RowKit

/-- Any part of a list of numbers that stands in memory. -/
theorem part_reads {w : World} {b off cap : Nat} {zs : List Int} (h : (Lay.sl Lay.int).Reads w [.slice (some ⟨b, off, none⟩) zs.length cap] zs) (m n c : Nat) (hm : m + n ≤ zs.length) (hc : n ≤ c) :
    (Lay.sl Lay.int).Reads w [.slice (some ⟨b, off + m, none⟩) n c] ((zs.drop m).take n) := by
  have hi := Lay.ints_reads h
  have hbig := h.big
  obtain ⟨ao, cp, e, hwf, hcs⟩ := hi
  have hlen : ((zs.drop m).take n).length = n := by simp; omega
  refine Lay.reads_ints ?_ (fun ao' cap' e' => ?_) (by rw [hlen]; omega)
  · refine ⟨_, c, by rw [hlen], fun z hz => hwf z (List.mem_of_mem_drop (List.mem_of_mem_take hz)), fun hp => ⟨b, off + m, rfl, fun j hj => ?_⟩⟩
    rw [hlen] at hp hj
    obtain ⟨b', off', hao, hc1⟩ := hcs (by omega)
    simp only [Value.slice.injEq] at e
    obtain ⟨rfl, -, -⟩ := e
    simp only [Option.some.injEq, Addr.mk.injEq, and_true] at hao
    obtain ⟨rfl, rfl⟩ := hao
    rw [Nat.add_assoc, hc1 (m + j) (by omega)]
    simp only [List.getD]
    rw [List.getElem?_take, if_pos hj, List.getElem?_drop]
  · simp only [Value.slice.injEq] at e'
    rw [hlen]
    omega
/-- The first numbers of a list. -/
theorem take_reads {w : World} {ao : Option Addr} {n cap : Nat} {zs : List Int} (h : (Lay.sl Lay.int).Reads w [.slice ao n cap] zs) (k : Nat) (hk : k ≤ zs.length) :
    (Lay.sl Lay.int).Reads w [.slice ao k cap] (zs.take k) := by
  have hc := h.cap
  by_cases h0 : k = 0
  · subst h0
    rw [List.take_zero]
    exact Lay.reads_ints ⟨ao, cap, rfl, by simp, fun hp => by simp at hp⟩ (fun _ _ _ => by simp) (by simp)
  · have hi := Lay.ints_reads h
    obtain ⟨ao', cp, e, hwf, hcs⟩ := hi
    obtain ⟨b', off', hao, hc1⟩ := hcs (by omega)
    simp only [Value.slice.injEq] at e
    obtain ⟨rfl, rfl, rfl⟩ := e
    subst hao
    have := part_reads h 0 k cap (by omega) (by omega)
    simpa using this

end Go.Proofs.YtceoaphcjnfphaaDoor

namespace Go.Proofs.YtceoaphcjnfphaaDoor
open Go.RowKit

theorem isNodeCountC (n : Int) (w : World) :
    Calls Tryd.prog 45 #[.int .i64 n] w fun e w' => e = .returned (.bool (decide (1 ≤ n) && decide (n ≤ 5))) ∧ w' = w := by
  by_cases h1 : 1 ≤ n
  · have d1 : decide (1 ≤ n) = true := by simpa using h1
    rw [d1]
    cases d2 : decide (n ≤ 5) <;>
    · go_enter Tryd.func45, Tryd.ntmps45
      go_wp2_with fail
      go_ret
      exact ⟨rfl, rfl⟩
  · have d1 : decide (1 ≤ n) = false := by simpa using h1
    rw [d1]
    go_enter Tryd.func45, Tryd.ntmps45
    go_wp2_with fail
    go_ret
    exact ⟨rfl, rfl⟩

set_option maxRecDepth 10000 in
set_option maxHeartbeats 1000000 in
theorem indexI (v : Value) (ids : List Int) (id : Int) (w : World) (R : (Lay.sl Lay.int).Reads w [v] ids) :
    Calls Tryd.prog 21 #[v, .int .i64 id] w fun e w' => e = .returned (.int .i64 (placeC ids id)) ∧ w' = w := by
  obtain ⟨ao, cap, rfl⟩ := open_sl R
  have hbig := R.big
  have H := hide R
  clear R
  go_enter Tryd.func21, Tryd.ntmps21
  go_wp2_with fail
  go_loop [8] (fun i => ∃ k : Nat, k ≤ ids.length ∧ i = .int .i64 k ∧ (∀ j (hj : j < ids.length), j < k → ids[j] ≠ id)) (fun i => ids.length - (intOf i).toNat)
  case atStart => exact ⟨0, Nat.zero_le _, rfl, fun j _ h => by omega⟩
  case round =>
    obtain ⟨k, hk, rfl, hz⟩ := hrel
    by_cases hlt : k < ids.length
    · obtain ⟨b2, off, rfl, -⟩ := Lay.sl_addr (unhide H) (by omega)
      have c1 := int_cell (unhide H) hlt
      cases hq : (id == ids[k])
      · have HZ : Hid (∀ j (hj : j < ids.length), j < k + 1 → ids[j] ≠ id) := fun j hj hjk => by
          by_cases h2 : j < k
          · exact hz j hj h2
          · obtain rfl : j = k := by omega
            intro h3
            rw [h3] at hq
            simp at hq
        clear hz
        generalize ids[k] = z at *
        go_wp2_with fail
        go_round
        case rel => exact ⟨k + 1, by omega, by go_num, unhide HZ⟩
        case measure => simp [intOf]; omega
      · have HP := hide (placeC_at hlt (beq_iff_eq.1 hq).symm (fun j hj => hz j (by omega) hj))
        clear hz
        generalize ids[k] = z at *
        go_wp2_with fail
        go_ret
        exact ⟨by rw [unhide HP]; rfl, rfl⟩
    · obtain rfl : k = ids.length := by omega
      have HP := hide (placeC_none (id := id) (fun j hj => hz j hj hj))
      clear hz
      go_wp2_with fail
      go_ret
      exact ⟨by rw [unhide HP]; rfl, rfl⟩

theorem containsI (v : Value) (ids : List Int) (id : Int) (w : World) (R : (Lay.sl Lay.int).Reads w [v] ids) :
    Calls Tryd.prog 30 #[v, .int .i64 id] w fun e w' => e = .returned (.bool (decide (0 ≤ placeC ids id))) ∧ w' = w := by
  have HL := hide (indexI v ids id w R)
  obtain ⟨ao, cap, rfl⟩ := open_sl R
  generalize placeC ids id = n at *
  clear R
  go_enter Tryd.func30, Tryd.ntmps30
  go_wp2_with fail
  refine (unhide HL).mono ?_
  rintro e w1 ⟨rfl, h1⟩
  subst w1
  clear HL
  go_wp2_with fail
  go_ret
  exact ⟨rfl, rfl⟩

def idsFaultP (ids : List Int) : Int := if 1 ≤ ids.length ∧ ids.length ≤ 5 then idsF [] ids else 2
theorem idsFaultP_many {ids : List Int} (h : (decide (1 ≤ (ids.length : Int)) && decide ((ids.length : Int) ≤ 5)) = false) : idsFaultP ids = 2 := by
  rw [idsFaultP, if_neg]
  intro h2
  rw [decide_eq_true (by omega), decide_eq_true (by omega)] at h
  simp at h
theorem idsFaultP_few {ids : List Int} (h : (decide (1 ≤ (ids.length : Int)) && decide ((ids.length : Int) ≤ 5)) = true) : idsFaultP ids = idsF (ids.take 0) (ids.drop 0) := by
  rw [idsFaultP, if_pos]
  · simp
  · simp at h
    omega
theorem mem_place (ids : List Int) (z : Int) : decide (0 ≤ placeC ids z) = true ↔ z ∈ ids := by
  have h := placeC_neg ids z
  rw [decide_eq_true_iff]
  constructor
  · intro h1
    refine Decidable.byContradiction fun h2 => ?_
    have := h.2 h2
    omega
  · intro h1
    refine Decidable.byContradiction fun h2 => ?_
    exact h.1 (by omega) h1

set_option maxRecDepth 10000 in
set_option maxHeartbeats 1000000 in
theorem idsFaultC (v : Value) (ids : List Int) (w : World) (R : (Lay.sl Lay.int).Reads w [v] ids) :
    Calls Tryd.prog 28 #[v] w fun e w' => e = .returned (.int .i64 (idsFaultP ids)) ∧ w' = w := by
  obtain ⟨ao, cap, rfl⟩ := open_sl R
  have hbig := R.big
  have hcap := R.cap
  have H := hide R
  clear R
  go_enter Tryd.func28, Tryd.ntmps28
  go_wp2_with fail
  refine (isNodeCountC (ids.length : Int) w).mono ?_
  rintro e w1 ⟨rfl, h1⟩
  subst w1
  cases d1 : (decide (1 ≤ (ids.length : Int)) && decide ((ids.length : Int) ≤ 5))
  · have HF := hide (idsFaultP_many d1)
    clear d1
    go_wp2_with fail
    go_ret
    exact ⟨by rw [unhide HF]; rfl, rfl⟩
  · have HF := hide (idsFaultP_few d1)
    clear d1
    go_wp2_with fail
    go_loop [11] (fun i => ∃ k : Nat, k ≤ ids.length ∧ i = .int .i64 k ∧ idsFaultP ids = idsF (ids.take k) (ids.drop k)) (fun i => ids.length - (intOf i).toNat)
    case atStart => exact ⟨0, Nat.zero_le _, rfl, unhide HF⟩
    case round =>
      obtain ⟨k, hk, rfl, hz⟩ := hrel
      clear HF
      by_cases hlt : k < ids.length
      · rw [idsF_step ids k hlt] at hz
        obtain ⟨b2, off, rfl, -⟩ := Lay.sl_addr (unhide H) (by omega)
        have c1 := int_cell (unhide H) hlt
        have HC := hide (containsI (.slice (some ⟨b2, off, none⟩) k cap) (ids.take k) ids[k] w (take_reads (unhide H) k (by omega)))
        have HM := hide (mem_place (ids.take k) ids[k])
        have hdl : decide ((k : Int) < (ids.length : Int)) = true := by simp; omega
        have HZ := hide hz
        have hkc : k ≤ cap := by omega
        clear hz
        generalize ids[k] = z at *
        generalize ids.take k = zk at *
        go_wp2_with fail
        refine (isNodeIdC z w).mono ?_
        rintro e w1 ⟨rfl, h1⟩
        subst w1
        cases d2 : (decide (1 ≤ z) && decide (z ≤ 5))
        · have hz := unhide HZ
          rw [if_neg (by intro h; simp at d2; omega)] at hz
          have HF := hide hz
          clear hz HZ d2
          go_wp2_with fail
          go_ret
          exact ⟨by rw [unhide HF]; rfl, rfl⟩
        · have hz := unhide HZ
          rw [if_pos (by simpa using d2)] at hz
          clear HZ d2
          have HZ := hide hz
          clear hz
          go_wp2_with fail
          refine (unhide HC).mono ?_
          rintro e w1 ⟨rfl, h1⟩
          subst w1
          cases d3 : decide (0 ≤ placeC zk z)
          · have hz := unhide HZ
            rw [if_neg (fun hm => by rw [(unhide HM).2 hm] at d3; simp at d3)] at hz
            have HF := hide hz
            clear hz HZ d3 HM HC
            go_wp2_with fail
            go_round
            case rel => exact ⟨k + 1, by omega, by go_num, unhide HF⟩
            case measure => simp [intOf]; omega
          · have hz := unhide HZ
            rw [if_pos ((unhide HM).1 d3)] at hz
            have HF := hide hz
            clear hz HZ d3 HM HC
            go_wp2_with fail
            go_ret
            exact ⟨by rw [unhide HF]; rfl, rfl⟩
      · obtain rfl : k = ids.length := by omega
        rw [idsF_end] at hz
        have HF := hide hz
        clear hz
        go_wp2_with fail
        go_ret
        exact ⟨by rw [unhide HF]; rfl, rfl⟩

theorem cfi_out {x : DChain} (h : (decide (1 ≤ x.epoch) && decide (x.epoch ≤ 999)) = false) : chainFault x = 3 := by rw [chainFault, if_neg (by simp at h; omega)]
theorem cfi_ids {x : DChain} (h : (decide (1 ≤ x.epoch) && decide (x.epoch ≤ 999)) = true) : chainFault x = idsFaultP x.ids := by rw [chainFault, if_pos (by simp at h; omega), idsFaultP]

set_option maxRecDepth 10000 in
set_option maxHeartbeats 1000000 in
theorem implChainFault (cs : List Value) (x : DChain) (w : World) (h : Lay.tChain.Reads w cs x) :
    Calls Tryd.prog 9 #[.agg cs.toArray] w fun e w' => e = .returned (.int .i64 (chainFault x)) ∧ Below w.heap.size w w' := by
  obtain ⟨a, d, rfl, R⟩ := open_Chain h
  have nb : Below w.heap.size w (w.alloc (.cells #[.int .i64 x.epoch, .slice a x.ids.length d] 26)) := (Below.refl _ _).alloc (Nat.le_refl _) _
  have HR := hide (R.later nb)
  have HB := hide nb
  have HX : Hid (Box 0 #[.int .i64 x.epoch, .slice a x.ids.length d] 26 (w.alloc (.cells #[.int .i64 x.epoch, .slice a x.ids.length d] 26)) w.heap.size) := newBox (Nat.zero_le _)
  clear R h nb
  go_enter Tryd.func9, Tryd.ntmps9
  go_upto_region 1 with fail
  generalize w.alloc (.cells #[.int .i64 x.epoch, .slice a x.ids.length d] 26) = W at *
  have z0 : W.cell? ⟨w.heap.size, 0, none⟩ = some (.int .i64 x.epoch) := (unhide HX).at 0 _ rfl
  have z1 : W.cell? ⟨w.heap.size, 1, none⟩ = some (.slice a x.ids.length d) := (unhide HX).at 1 _ rfl
  clear HX
  cases d1 : (decide (1 ≤ x.epoch) && decide (x.epoch ≤ 999))
  · have HF := hide (cfi_out d1)
    have L := hide (isChainEpochC x.epoch W)
    rw [d1] at L
    clear d1
    go_wp2_with fail
    refine (unhide L).mono ?_
    rintro e w1 ⟨rfl, h1⟩
    subst w1
    clear L
    go_wp2_with fail
    go_ret
    exact ⟨by rw [unhide HF]; rfl, unhide HB⟩
  · have HF := hide (cfi_ids d1)
    have L := hide (isChainEpochC x.epoch W)
    rw [d1] at L
    clear d1
    go_wp2_with fail
    refine (unhide L).mono ?_
    rintro e w1 ⟨rfl, h1⟩
    subst w1
    clear L
    have L := hide (idsFaultC _ x.ids _ (unhide HR))
    go_wp2_with fail
    refine (unhide L).mono ?_
    rintro e w1 ⟨rfl, h1⟩
    subst w1
    clear L
    go_wp2_with fail
    go_ret
    exact ⟨by rw [unhide HF]; rfl, unhide HB⟩
end Go.Proofs.YtceoaphcjnfphaaDoor

namespace Go.Proofs.YtceoaphcjnfphaaDoor
open Go.RowKit

theorem besideR_none {x : DChain} {id dd : Int} (hf : chainFault x = 0) (h : placeC x.ids id < 0) : besideR x id dd = ⟨4, 0⟩ := by rw [besideR, if_pos hf, if_pos h]
theorem besideR_end {x : DChain} {id dd : Int} (hf : chainFault x = 0) (h : 0 ≤ placeC x.ids id) (h2 : placeC x.ids id + dd < 0 ∨ (x.ids.length : Int) ≤ placeC x.ids id + dd) : besideR x id dd = ⟨8, 0⟩ := by
  rw [besideR, if_pos hf, if_neg (by omega), if_pos]
  rw [nextC, if_pos (Or.inr h2)]
theorem besideR_at {x : DChain} {id dd : Int} (hf : chainFault x = 0) (h : 0 ≤ placeC x.ids id) {m : Nat} (hm : placeC x.ids id + dd = (m : Int)) (hl : m < x.ids.length) : besideR x id dd = ⟨0, x.ids[m]⟩ := by
  have e : nextC x.ids id dd = x.ids[m] := by
    rw [nextC, if_neg (by omega), hm]
    simp [List.getD, hl]
  have hz := (chainFault_zero hf).ids x.ids[m] (List.getElem_mem hl)
  rw [besideR, if_pos hf, if_neg (by omega), if_neg (by rw [e]; omega), e]

set_option maxRecDepth 10000 in
set_option maxHeartbeats 1000000 in
theorem beside1C (b bs : Nat) (a : Option Addr) (d : Nat) (x : DChain) (id dd : Int) (w : World) (hX : ChainAt w b (.slice a x.ids.length d) x) (hS : Box 0 #[.int .i64 dd] 3 w bs) (R : (Lay.sl Lay.int).Reads w [.slice a x.ids.length d] x.ids) (hf : chainFault x = 0) (hd : -1 ≤ dd ∧ dd ≤ 1) :
    Calls Tryd.prog 46 #[.int .i64 id, .pointer (some ⟨b, 0, none⟩), .pointer (some ⟨bs, 0, none⟩)] w fun e w' => e = .returned (.agg #[.int .i64 (besideR x id dd).code, .int .i64 (besideR x id dd).value]) ∧ Below w.heap.size w w' := by
  have HB : Hid (Below w.heap.size w (w.alloc (.cells #[.int .i64 0, .int .i64 0] 34))) := (Below.refl _ _).alloc (Nat.le_refl _) _
  have HR : Hid (Box 0 #[.int .i64 0, .int .i64 0] 34 (w.alloc (.cells #[.int .i64 0, .int .i64 0] 34)) w.heap.size) := newBox (Nat.zero_le _)
  have HX := hide (hX.keep (unhide HB))
  have HS := hide (hS.keep (unhide HB))
  have H := hide (R.later (unhide HB))
  have hxb := hX.lt
  have hsb := hS.lt
  have hlen := (chainFault_zero hf).len
  have HP := hide (indexI _ x.ids id _ (unhide H))
  have HN := hide (besideR_none (id := id) (dd := dd) hf)
  have HE := hide (besideR_end (id := id) (dd := dd) hf)
  have HA := hide (fun h m hm hl => besideR_at (id := id) (dd := dd) hf h (m := m) hm hl)
  clear hX hS R hf
  go_enter Tryd.func46, Tryd.ntmps46
  have x1 : (w.alloc (.cells #[.int .i64 0, .int .i64 0] 34)).cell? ⟨b, 1, none⟩ = some (.slice a x.ids.length d) := (unhide HX).at 1 _ rfl
  have s0 : (w.alloc (.cells #[.int .i64 0, .int .i64 0] 34)).cell? ⟨bs, 0, none⟩ = some (.int .i64 dd) := (unhide HS).at 0 _ rfl
  have z0 : (w.alloc (.cells #[.int .i64 0, .int .i64 0] 34)).cell? ⟨w.heap.size, 0, none⟩ = some (.int .i64 0) := (unhide HR).at 0 _ rfl
  have z1 : (w.alloc (.cells #[.int .i64 0, .int .i64 0] 34)).cell? ⟨w.heap.size, 1, none⟩ = some (.int .i64 0) := (unhide HR).at 1 _ rfl
  have ff := (unhide HR).soft
  have l0 := (unhide HR).lt
  go_wp2_with fail
  generalize w.alloc (.cells #[.int .i64 0, .int .i64 0] 34) = W at *
  refine (unhide HP).mono ?_
  rintro e w1 ⟨rfl, h1⟩
  subst w1
  clear HP
  have hb := placeC_bd x.ids id
  generalize placeC x.ids id = p at *
  have HB1 := hide (fun vs => below_setAll (unhide HB) w.heap.size 0 vs (Nat.le_refl _))
  clear HB HR HX HS
  by_cases h0 : p < 0
  · have HF := hide (unhide HN h0)
    have hd0 : decide (p < 0) = true := by simpa using h0
    clear HN HE HA
    go_wp2_with fail
    refine bodyPost_ret (v := .agg #[.int .i64 4, .int .i64 0]) (by simp [results, Tryd.results46, go_sem, z0, z1]) rfl ?_
    exact ⟨by rw [unhide HF], unhide HB1 [_, _]⟩
  · have hd0 : decide (p < 0) = false := by simpa using h0
    by_cases h1 : p + dd < 0
    · have HF := hide (unhide HE (by omega) (Or.inl h1))
      have hd1 : decide (p + dd < 0) = true := by simpa using h1
      clear HN HE HA
      go_wp2_with fail
      refine bodyPost_ret (v := .agg #[.int .i64 8, .int .i64 0]) (by simp [results, Tryd.results46, go_sem, z0, z1]) rfl ?_
      exact ⟨by rw [unhide HF], unhide HB1 [_, _]⟩
    · have hd1 : decide (p + dd < 0) = false := by simpa using h1
      by_cases h2 : (x.ids.length : Int) ≤ p + dd
      · have HF := hide (unhide HE (by omega) (Or.inr h2))
        have hd2 : decide ((x.ids.length : Int) ≤ p + dd) = true := by simpa using h2
        clear HN HE HA
        go_wp2_with fail
        refine bodyPost_ret (v := .agg #[.int .i64 8, .int .i64 0]) (by simp [results, Tryd.results46, go_sem, z0, z1]) rfl ?_
        exact ⟨by rw [unhide HF], unhide HB1 [_, _]⟩
      · have hd2 : decide ((x.ids.length : Int) ≤ p + dd) = false := by simp; omega
        obtain ⟨m, hm⟩ : ∃ m : Nat, p + dd = (m : Int) := ⟨(p + dd).toNat, by omega⟩
        have hml : m < x.ids.length := by omega
        have HF := hide (unhide HA (by omega) m hm hml)
        obtain ⟨b2, off, rfl, -⟩ := Lay.sl_addr (unhide H) (by omega)
        have c1 := int_cell (unhide H) hml
        clear HN HE HA
        generalize x.ids[m] = z at *
        rw [hm] at hd1 hd2
        go_wp2_with fail
        refine bodyPost_ret (v := .agg #[.int .i64 0, .int .i64 z]) (by simp [results, Tryd.results46, go_sem, z0, z1]) rfl ?_
        exact ⟨by rw [unhide HF], unhide HB1 [_, _]⟩

set_option maxRecDepth 10000 in
theorem besideInC (a : Option Addr) (d : Nat) (x : DChain) (dd : Int) (w : World) :
    Calls Tryd.prog 32 #[.agg #[.int .i64 x.epoch, .slice a x.ids.length d], .int .i64 dd] w fun e w' => ∃ b bs, e = .returned (.func (.func 46) #[] #[.pointer (some ⟨b, 0, none⟩), .pointer (some ⟨bs, 0, none⟩)]) ∧ ChainAt w' b (.slice a x.ids.length d) x ∧ Box 0 #[.int .i64 dd] 3 w' bs ∧ Below w.heap.size w w' := by
  have HB : Hid (Below w.heap.size w ((w.alloc (.cells #[.int .i64 x.epoch, .slice a x.ids.length d] 26)).alloc (.cells #[.int .i64 dd] 3))) := ((Below.refl _ _).alloc (Nat.le_refl _) _).alloc (by simp) _
  have HX : Hid (ChainAt ((w.alloc (.cells #[.int .i64 x.epoch, .slice a x.ids.length d] 26)).alloc (.cells #[.int .i64 dd] 3)) w.heap.size (.slice a x.ids.length d) x) := (newBox (Nat.zero_le _)).grow _
  have HS : Hid (Box 0 #[.int .i64 dd] 3 ((w.alloc (.cells #[.int .i64 x.epoch, .slice a x.ids.length d] 26)).alloc (.cells #[.int .i64 dd] 3)) (w.heap.size + 1)) := newBoxAt (Nat.zero_le _) (by simp)
  go_enter Tryd.func32, Tryd.ntmps32
  go_wp2_with fail
  go_ret
  exact ⟨_, _, rfl, unhide HX, unhide HS, unhide HB⟩

set_option maxRecDepth 10000 in
set_option maxHeartbeats 1000000 in
theorem implNextIn (cs : List Value) (x : DChain) (id : Int) (w : World) (h : Lay.tChain.Reads w cs x) :
    Calls Tryd.prog 12 #[.agg cs.toArray, .int .i64 id] w fun e w' => ∃ cs, e = .returned (.agg cs.toArray) ∧ Lay.tIntResult.OwnIn w' cs (besideR x id 1) w.heap.size w'.heap.size ∧ Below w.heap.size w w' := by
  obtain ⟨a, d, rfl, R⟩ := open_Chain h
  have nb : Below w.heap.size w ((w.alloc (.cells #[.int .i64 x.epoch, .slice a x.ids.length d] 26)).alloc (.cells #[.int .i64 0, .int .i64 0] 34)) := ((Below.refl _ _).alloc (Nat.le_refl _) _).alloc (by simp) _
  have hX : ChainAt ((w.alloc (.cells #[.int .i64 x.epoch, .slice a x.ids.length d] 26)).alloc (.cells #[.int .i64 0, .int .i64 0] 34)) w.heap.size (.slice a x.ids.length d) x := (newBox (Nat.zero_le _)).grow _
  have bR : Box 0 #[.int .i64 0, .int .i64 0] 34 ((w.alloc (.cells #[.int .i64 x.epoch, .slice a x.ids.length d] 26)).alloc (.cells #[.int .i64 0, .int .i64 0] 34)) (w.heap.size + 1) := newBoxAt (Nat.zero_le _) (by simp)
  have HL := hide (implChainFault _ x _ (h.later nb))
  have HW : Hid ((Lit.int .i64 (besideR x id 1).code).wf = true ∧ (Lit.int .i64 (besideR x id 1).value).wf = true) := besideR_wf (int_wf R) id 1
  have HRd := hide (R.later nb)
  have HB := hide nb
  have HR := hide bR
  have HX := hide hX
  have x0 : ((w.alloc (.cells #[.int .i64 x.epoch, .slice a x.ids.length d] 26)).alloc (.cells #[.int .i64 0, .int .i64 0] 34)).cell? ⟨w.heap.size, 0, none⟩ = some (.int .i64 x.epoch) := hX.at 0 _ rfl
  have x1 : ((w.alloc (.cells #[.int .i64 x.epoch, .slice a x.ids.length d] 26)).alloc (.cells #[.int .i64 0, .int .i64 0] 34)).cell? ⟨w.heap.size, 1, none⟩ = some (.slice a x.ids.length d) := hX.at 1 _ rfl
  clear h R nb hX bR
  go_enter Tryd.func12, Tryd.ntmps12
  go_wp2_with fail
  generalize (w.alloc (.cells #[.int .i64 x.epoch, .slice a x.ids.length d] 26)).alloc (.cells #[.int .i64 0, .int .i64 0] 34) = W at *
  refine (unhide HL).mono ?_
  rintro e w1 ⟨rfl, hb⟩
  replace HX := hide ((unhide HX).keep hb)
  replace HR := hide ((unhide HR).keep hb)
  replace HRd := hide ((unhide HRd).later hb)
  replace HB := hide ((unhide HB).trans (hb.mono (unhide HB).size))
  clear HL hb x0 x1
  have x0 : w1.cell? ⟨w.heap.size, 0, none⟩ = some (.int .i64 x.epoch) := (unhide HX).at 0 _ rfl
  have x1 : w1.cell? ⟨w.heap.size, 1, none⟩ = some (.slice a x.ids.length d) := (unhide HX).at 1 _ rfl
  have xl := (unhide HX).lt
  by_cases hf : chainFault x = 0
  · rw [hf]
    have HO : Hid (∀ W', Lay.tIntResult.OwnIn W' [.int .i64 (besideR x id 1).code, .int .i64 (besideR x id 1).value] (besideR x id 1) w.heap.size W'.heap.size) := fun W' => own_intRC (unhide HW).1 (unhide HW).2
    have HK : Hid (∀ (b bs : Nat) W', ChainAt W' b (.slice a x.ids.length d) x → Box 0 #[.int .i64 1] 3 W' bs → (Lay.sl Lay.int).Reads W' [.slice a x.ids.length d] x.ids → Calls Tryd.prog 46 #[.int .i64 id, .pointer (some ⟨b, 0, none⟩), .pointer (some ⟨bs, 0, none⟩)] W' fun e w' => e = .returned (.agg #[.int .i64 (besideR x id 1).code, .int .i64 (besideR x id 1).value]) ∧ Below W'.heap.size W' w') := fun b bs W' q1 q2 q3 => beside1C b bs a d x id 1 W' q1 q2 q3 hf (by omega)
    generalize (besideR x id 1).code = yc at *
    generalize (besideR x id 1).value = yv at *
    clear hf HW
    go_wp2_with fail
    refine (besideInC a d x 1 w1).mono ?_
    rintro e w2 ⟨b, bs, rfl, hX2, hS2, hb⟩
    have HX2 := hide hX2
    have HS2 := hide hS2
    replace HR := hide ((unhide HR).keep hb)
    replace HRd := hide ((unhide HRd).later hb)
    replace HB := hide ((unhide HB).trans (hb.mono (unhide HB).size))
    clear hX2 hS2 hb x0 x1 xl HX
    go_wp2_with fail
    refine (unhide HK b bs w2 (unhide HX2) (unhide HS2) (unhide HRd)).mono ?_
    rintro e w3 ⟨rfl, hb⟩
    have bR := (unhide HR).keep hb
    have z0 : w3.cell? ⟨w.heap.size + 1, 0, none⟩ = some (.int .i64 0) := bR.at 0 _ rfl
    have z1 : w3.cell? ⟨w.heap.size + 1, 1, none⟩ = some (.int .i64 0) := bR.at 1 _ rfl
    have ff := bR.soft
    have l0 := bR.lt
    have HB2 := hide (below_setAll ((unhide HB).trans (hb.mono (unhide HB).size)) (w.heap.size + 1) 0 [.int .i64 yc, .int .i64 yv] (by omega))
    clear HB HR bR hb HX2 HS2 HRd HK
    go_wp2_with fail
    refine bodyPost_ret (v := .agg #[.int .i64 yc, .int .i64 yv]) (by simp [results, Tryd.results12, go_sem, z0, z1]) rfl ?_
    exact ⟨_, rfl, unhide HO _, unhide HB2⟩
  · have HV := hide (besideR_bad (id := id) (d := 1) hf)
    have hd : (chainFault x != 0) = true := by simpa using hf
    have HC := hide (chainFault_bd x)
    have z0 : w1.cell? ⟨w.heap.size + 1, 0, none⟩ = some (.int .i64 0) := (unhide HR).at 0 _ rfl
    have z1 : w1.cell? ⟨w.heap.size + 1, 1, none⟩ = some (.int .i64 0) := (unhide HR).at 1 _ rfl
    have ff := (unhide HR).soft
    have l0 := (unhide HR).lt
    generalize chainFault x = c at *
    have HB2 := hide (below_setAll (unhide HB) (w.heap.size + 1) 0 [.int .i64 c, .int .i64 0] (by omega))
    clear HB HR HX HRd hf HW
    go_wp2_with fail
    refine bodyPost_ret (v := .agg #[.int .i64 c, .int .i64 0]) (by simp [results, Tryd.results12, go_sem, z0, z1]) rfl ?_
    rw [unhide HV]
    exact ⟨[_, _], rfl, own_intRC (wf_of_bd (unhide HC)) (by decide), unhide HB2⟩

set_option maxRecDepth 10000 in
set_option maxHeartbeats 1000000 in
theorem implPrevIn (cs : List Value) (x : DChain) (id : Int) (w : World) (h : Lay.tChain.Reads w cs x) :
    Calls Tryd.prog 13 #[.agg cs.toArray, .int .i64 id] w fun e w' => ∃ cs, e = .returned (.agg cs.toArray) ∧ Lay.tIntResult.OwnIn w' cs (besideR x id (-1)) w.heap.size w'.heap.size ∧ Below w.heap.size w w' := by
  obtain ⟨a, d, rfl, R⟩ := open_Chain h
  have nb : Below w.heap.size w ((w.alloc (.cells #[.int .i64 x.epoch, .slice a x.ids.length d] 26)).alloc (.cells #[.int .i64 0, .int .i64 0] 34)) := ((Below.refl _ _).alloc (Nat.le_refl _) _).alloc (by simp) _
  have hX : ChainAt ((w.alloc (.cells #[.int .i64 x.epoch, .slice a x.ids.length d] 26)).alloc (.cells #[.int .i64 0, .int .i64 0] 34)) w.heap.size (.slice a x.ids.length d) x := (newBox (Nat.zero_le _)).grow _
  have bR : Box 0 #[.int .i64 0, .int .i64 0] 34 ((w.alloc (.cells #[.int .i64 x.epoch, .slice a x.ids.length d] 26)).alloc (.cells #[.int .i64 0, .int .i64 0] 34)) (w.heap.size + 1) := newBoxAt (Nat.zero_le _) (by simp)
  have HL := hide (implChainFault _ x _ (h.later nb))
  have HW : Hid ((Lit.int .i64 (besideR x id (-1)).code).wf = true ∧ (Lit.int .i64 (besideR x id (-1)).value).wf = true) := besideR_wf (int_wf R) id (-1)
  have HRd := hide (R.later nb)
  have HB := hide nb
  have HR := hide bR
  have HX := hide hX
  have x0 : ((w.alloc (.cells #[.int .i64 x.epoch, .slice a x.ids.length d] 26)).alloc (.cells #[.int .i64 0, .int .i64 0] 34)).cell? ⟨w.heap.size, 0, none⟩ = some (.int .i64 x.epoch) := hX.at 0 _ rfl
  have x1 : ((w.alloc (.cells #[.int .i64 x.epoch, .slice a x.ids.length d] 26)).alloc (.cells #[.int .i64 0, .int .i64 0] 34)).cell? ⟨w.heap.size, 1, none⟩ = some (.slice a x.ids.length d) := hX.at 1 _ rfl
  clear h R nb hX bR
  go_enter Tryd.func13, Tryd.ntmps13
  go_wp2_with fail
  generalize (w.alloc (.cells #[.int .i64 x.epoch, .slice a x.ids.length d] 26)).alloc (.cells #[.int .i64 0, .int .i64 0] 34) = W at *
  refine (unhide HL).mono ?_
  rintro e w1 ⟨rfl, hb⟩
  replace HX := hide ((unhide HX).keep hb)
  replace HR := hide ((unhide HR).keep hb)
  replace HRd := hide ((unhide HRd).later hb)
  replace HB := hide ((unhide HB).trans (hb.mono (unhide HB).size))
  clear HL hb x0 x1
  have x0 : w1.cell? ⟨w.heap.size, 0, none⟩ = some (.int .i64 x.epoch) := (unhide HX).at 0 _ rfl
  have x1 : w1.cell? ⟨w.heap.size, 1, none⟩ = some (.slice a x.ids.length d) := (unhide HX).at 1 _ rfl
  have xl := (unhide HX).lt
  by_cases hf : chainFault x = 0
  · rw [hf]
    have HO : Hid (∀ W', Lay.tIntResult.OwnIn W' [.int .i64 (besideR x id (-1)).code, .int .i64 (besideR x id (-1)).value] (besideR x id (-1)) w.heap.size W'.heap.size) := fun W' => own_intRC (unhide HW).1 (unhide HW).2
    have HK : Hid (∀ (b bs : Nat) W', ChainAt W' b (.slice a x.ids.length d) x → Box 0 #[.int .i64 (-1)] 3 W' bs → (Lay.sl Lay.int).Reads W' [.slice a x.ids.length d] x.ids → Calls Tryd.prog 46 #[.int .i64 id, .pointer (some ⟨b, 0, none⟩), .pointer (some ⟨bs, 0, none⟩)] W' fun e w' => e = .returned (.agg #[.int .i64 (besideR x id (-1)).code, .int .i64 (besideR x id (-1)).value]) ∧ Below W'.heap.size W' w') := fun b bs W' q1 q2 q3 => beside1C b bs a d x id (-1) W' q1 q2 q3 hf (by omega)
    generalize (besideR x id (-1)).code = yc at *
    generalize (besideR x id (-1)).value = yv at *
    clear hf HW
    go_wp2_with fail
    refine (besideInC a d x (-1) w1).mono ?_
    rintro e w2 ⟨b, bs, rfl, hX2, hS2, hb⟩
    have HX2 := hide hX2
    have HS2 := hide hS2
    replace HR := hide ((unhide HR).keep hb)
    replace HRd := hide ((unhide HRd).later hb)
    replace HB := hide ((unhide HB).trans (hb.mono (unhide HB).size))
    clear hX2 hS2 hb x0 x1 xl HX
    go_wp2_with fail
    refine (unhide HK b bs w2 (unhide HX2) (unhide HS2) (unhide HRd)).mono ?_
    rintro e w3 ⟨rfl, hb⟩
    have bR := (unhide HR).keep hb
    have z0 : w3.cell? ⟨w.heap.size + 1, 0, none⟩ = some (.int .i64 0) := bR.at 0 _ rfl
    have z1 : w3.cell? ⟨w.heap.size + 1, 1, none⟩ = some (.int .i64 0) := bR.at 1 _ rfl
    have ff := bR.soft
    have l0 := bR.lt
    have HB2 := hide (below_setAll ((unhide HB).trans (hb.mono (unhide HB).size)) (w.heap.size + 1) 0 [.int .i64 yc, .int .i64 yv] (by omega))
    clear HB HR bR hb HX2 HS2 HRd HK
    go_wp2_with fail
    refine bodyPost_ret (v := .agg #[.int .i64 yc, .int .i64 yv]) (by simp [results, Tryd.results13, go_sem, z0, z1]) rfl ?_
    exact ⟨_, rfl, unhide HO _, unhide HB2⟩
  · have HV := hide (besideR_bad (id := id) (d := (-1)) hf)
    have hd : (chainFault x != 0) = true := by simpa using hf
    have HC := hide (chainFault_bd x)
    have z0 : w1.cell? ⟨w.heap.size + 1, 0, none⟩ = some (.int .i64 0) := (unhide HR).at 0 _ rfl
    have z1 : w1.cell? ⟨w.heap.size + 1, 1, none⟩ = some (.int .i64 0) := (unhide HR).at 1 _ rfl
    have ff := (unhide HR).soft
    have l0 := (unhide HR).lt
    generalize chainFault x = c at *
    have HB2 := hide (below_setAll (unhide HB) (w.heap.size + 1) 0 [.int .i64 c, .int .i64 0] (by omega))
    clear HB HR HX HRd hf HW
    go_wp2_with fail
    refine bodyPost_ret (v := .agg #[.int .i64 c, .int .i64 0]) (by simp [results, Tryd.results13, go_sem, z0, z1]) rfl ?_
    rw [unhide HV]
    exact ⟨[_, _], rfl, own_intRC (wf_of_bd (unhide HC)) (by decide), unhide HB2⟩
end Go.Proofs.YtceoaphcjnfphaaDoor

namespace Go.Proofs.YtceoaphcjnfphaaDoor
open Go.RowKit

set_option maxHeartbeats 400000 in
theorem toInts_pos (b off cap : Nat) (zs : List Int) (w : World) (hn : zs.length ≤ 1048576) (hc : ∀ j, j < zs.length → w.cell? ⟨b, off + j, none⟩ = some (.int .i64 (zs.getD j 0))) :
    Calls Tryd.prog 37 #[.slice (some ⟨b, off, none⟩) zs.length cap] w fun e w' => e = .returned (.slice (some ⟨w.heap.size, 0, none⟩) zs.length zs.length) ∧
      w'.ownsRow w.heap.size 2 1 (.slice (some ⟨w.heap.size, 0, none⟩) zs.length zs.length) zs.length (zs.map (Value.int .i64)) ∧ Below w.heap.size w w' := by
  obtain ⟨i0, hi, hz0, hz1, hz2⟩ := info_parts info2
  go_enter Tryd.func37, Tryd.ntmps37
  go_wp2_with (at_make; refine wpList_make_full _ rfl _ _ 24 rfl w.heap.size 2 i0 (.int .i64 0) 1 Tryd.underlying24 hi hz0 hz1 _ _ _ _ zs.length rfl rfl rfl rfl ?c1 ?c2 ?c3 ?_)
  case c1 => rw [hz2]; omega
  case c2 => unfold maxLen; omega
  case c3 => exact Nat.le_refl _
  intro w1 hown1 hgrow1
  have hB1 : Below w.heap.size w w1 := (Below.refl _ _).grown hgrow1 (Nat.le_refl _) (by simp)
  rw [toList_madeCells_one] at hown1
  clear hgrow1 hi hz0 hz1 hz2
  go_wp2
  go_loopw [4] (fun i wr => ∃ k : Nat, k ≤ zs.length ∧ i = .int .i64 k ∧ wr.ownsRow w.heap.size 2 1 (.slice (some ⟨w.heap.size, 0, none⟩) zs.length zs.length) zs.length ((zs.take k).map (Value.int .i64) ++ List.replicate (zs.length - k) (Value.int .i64 0)) ∧ Below w.heap.size w wr)
    (fun i _ => zs.length - (intOf i).toNat)
  case atStart => exact ⟨0, Nat.zero_le _, rfl, by simpa using hown1, hB1⟩
  case round =>
    obtain ⟨k, hk, rfl, hown, hB⟩ := hrel
    clear hown1 hB1
    by_cases hlt : k < zs.length
    · have hcx : wr.cell? ⟨b, off + k, none⟩ = some (.int .i64 (zs.getD k 0)) := (hB.cell (World.block_lt_of_cell? _ _ (hc k hlt))).trans (hc k hlt)
      have hcd : ∃ u, wr.cell? ⟨w.heap.size, k, none⟩ = some u := by
        rw [hown.cellAt k (by omega)]
        exact ⟨_, List.getElem?_eq_getElem (by simp; omega)⟩
      obtain ⟨u, hcd⟩ := hcd
      have hfz := hown.frozenAt k
      have hst := hown.stored k (.int .i64 (zs.getD k 0))
      rw [set_fill zs k hlt] at hst
      have R := hst.1
      have hB2 : Below w.heap.size w (wr.setCell ⟨w.heap.size, k, none⟩ (.int .i64 (zs.getD k 0))) := hB.setCell (by simp) _
      clear hst hown hB
      go_wp2
      go_roundw
      case rel => exact ⟨k + 1, by omega, by go_num, by simpa [hlt] using R, by simpa [hlt] using hB2⟩
      case measure => simp [intOf]; omega
    · have hk2 : k = zs.length := by omega
      go_wp2
      go_ret
      subst hk2
      exact ⟨rfl, by simpa using hown, hB⟩

set_option maxHeartbeats 400000 in
theorem toInts_zero (ao : Option Addr) (cap : Nat) (w : World) :
    Calls Tryd.prog 37 #[.slice ao 0 cap] w fun e w' => e = .returned (.slice (some ⟨w.heap.size, 0, none⟩) 0 0) ∧
      w'.ownsRow w.heap.size 2 1 (.slice (some ⟨w.heap.size, 0, none⟩) 0 0) 0 [] ∧ Below w.heap.size w w' := by
  obtain ⟨i0, hi, hz0, hz1, hz2⟩ := info_parts info2
  go_enter Tryd.func37, Tryd.ntmps37
  go_wp2_with (at_make; refine wpList_make_full _ rfl _ _ 24 rfl w.heap.size 2 i0 (.int .i64 0) 1 Tryd.underlying24 hi hz0 hz1 _ _ _ _ 0 rfl rfl rfl rfl ?c1 ?c2 ?c3 ?_)
  case c1 => rw [hz2]; omega
  case c2 => unfold maxLen; omega
  case c3 => exact Nat.le_refl _
  intro w1 hown1 hgrow1
  have hB1 : Below w.heap.size w w1 := (Below.refl _ _).grown hgrow1 (Nat.le_refl _) (by simp)
  clear hgrow1 hi hz0 hz1 hz2
  rw [toList_madeCells_one] at hown1
  go_wp2
  refine wp_loop_rounds 1 ?_
  rw [rounds_succ]
  go_wp2
  go_ret
  exact ⟨rfl, by simpa using hown1, hB1⟩

/-- toInt64S: a new slice of the same numbers. -/
theorem toInts (v : Value) (zs : List Int) (w : World) (h : IsInts w v zs) (hn : zs.length ≤ 1048576) :
    Calls Tryd.prog 37 #[v] w fun e w' => ∃ v', e = .returned v' ∧ v' = .slice (some ⟨w.heap.size, 0, none⟩) zs.length zs.length ∧
      w'.ownsRow w.heap.size 2 1 v' zs.length (zs.map (Value.int .i64)) ∧ IsInts w' v' zs ∧ Below w.heap.size w w' := by
  obtain ⟨ao, cap, rfl, hwf, hc⟩ := h
  by_cases hp : 0 < zs.length
  · obtain ⟨b, off, rfl, hc1⟩ := hc hp
    refine (toInts_pos b off cap zs w hn hc1).mono ?_
    rintro e w' ⟨rfl, ho, hb⟩
    exact ⟨_, rfl, rfl, ho, isInts_owned hwf ho, hb⟩
  · have hz : zs = [] := List.eq_nil_of_length_eq_zero (by omega)
    subst hz
    refine (toInts_zero ao cap w).mono ?_
    rintro e w' ⟨rfl, ho, hb⟩
    exact ⟨_, rfl, rfl, ho, isInts_owned hwf ho, hb⟩

set_option maxHeartbeats 400000 in
theorem eqInts_pos (b off cap b2 off2 cap2 : Nat) (zs : List Int) (w : World) (hn : zs.length ≤ 9223372036854775807) (hc : ∀ j, j < zs.length → w.cell? ⟨b, off + j, none⟩ = some (.int .i64 (zs.getD j 0)))
    (hc2 : ∀ j, j < zs.length → w.cell? ⟨b2, off2 + j, none⟩ = some (.int .i64 (zs.getD j 0))) :
    Calls Tryd.prog 38 #[.slice (some ⟨b, off, none⟩) zs.length cap, .slice (some ⟨b2, off2, none⟩) zs.length cap2] w fun e w' => e = .returned (.bool true) ∧ Below w.heap.size w w' := by
  go_enter Tryd.func38, Tryd.ntmps38
  go_wp2
  go_loopw [5] (fun i wr => ∃ k : Nat, k ≤ zs.length ∧ i = .int .i64 k ∧ Below w.heap.size w wr) (fun i _ => zs.length - (intOf i).toNat)
  case atStart => exact ⟨0, Nat.zero_le _, rfl, Below.refl _ _⟩
  case round =>
    obtain ⟨k, hk, rfl, hB⟩ := hrel
    by_cases hlt : k < zs.length
    · have hcx : wr.cell? ⟨b, off + k, none⟩ = some (.int .i64 (zs.getD k 0)) := (hB.cell (World.block_lt_of_cell? _ _ (hc k hlt))).trans (hc k hlt)
      have hcy : wr.cell? ⟨b2, off2 + k, none⟩ = some (.int .i64 (zs.getD k 0)) := (hB.cell (World.block_lt_of_cell? _ _ (hc2 k hlt))).trans (hc2 k hlt)
      clear hc hc2
      go_wp2
      go_quiet (fail)
      go_wp2
      go_roundw
      case rel => exact ⟨k + 1, by omega, by go_num, below_drewN hB _⟩
      case measure => simp [intOf]; omega
    · go_wp2
      go_ret
      exact ⟨rfl, hB⟩

set_option maxHeartbeats 400000 in
theorem eqInts_zero (ao ao2 : Option Addr) (cap cap2 : Nat) (w : World) :
    Calls Tryd.prog 38 #[.slice ao 0 cap, .slice ao2 0 cap2] w fun e w' => e = .returned (.bool true) ∧ Below w.heap.size w w' := by
  go_enter Tryd.func38, Tryd.ntmps38
  go_wp2
  refine wp_loop_rounds 1 ?_
  rw [rounds_succ]
  go_wp2
  go_ret
  exact ⟨rfl, Below.refl _ _⟩

/-- eqInt64S: two slices of the same numbers are the same. -/
theorem eqIntsBig (v v2 : Value) (zs : List Int) (w : World) (h : IsInts w v zs) (h2 : IsInts w v2 zs) (hn : zs.length ≤ 9223372036854775807) :
    Calls Tryd.prog 38 #[v, v2] w fun e w' => e = .returned (.bool true) ∧ Below w.heap.size w w' := by
  obtain ⟨ao, cap, rfl, hwf, hc⟩ := h
  obtain ⟨ao2, cap2, rfl, _, hc2⟩ := h2
  by_cases hp : 0 < zs.length
  · obtain ⟨b, off, rfl, hc1⟩ := hc hp
    obtain ⟨b2, off2, rfl, hc3⟩ := hc2 hp
    exact eqInts_pos b off cap b2 off2 cap2 zs w hn hc1 hc3
  · have hz : zs = [] := List.eq_nil_of_length_eq_zero (by omega)
    subst hz
    exact eqInts_zero ao ao2 cap cap2 w
theorem eqInts (v v2 : Value) (zs : List Int) (w : World) (h : IsInts w v zs) (h2 : IsInts w v2 zs) (hn : zs.length ≤ 1048576) :
    Calls Tryd.prog 38 #[v, v2] w fun e w' => e = .returned (.bool true) ∧ Below w.heap.size w w' := eqIntsBig v v2 zs w h h2 (by omega)

end Go.Proofs.YtceoaphcjnfphaaDoor

namespace Go.Proofs.YtceoaphcjnfphaaDoor
open Go.RowKit

theorem run_append_zeros_nilI (w : World) (k : Nat) (h0 : 0 < k) (hbig : k ≤ 100000000) (ty : TypeId) :
    ∃ G w1, (Builtin.append_ #[24, 3] ty #[.slice none 0 0, .int .i64 k]).run Tryd.prog w = .ok (.slice (some ⟨w.heap.size, 0, none⟩) k G) w1 ∧ k ≤ G ∧
      w1.ownsRow w.heap.size 2 1 (.slice (some ⟨w.heap.size, 0, none⟩) 0 G) 0 [] ∧ Below w.heap.size w w1 := by
  obtain ⟨i0, hi, hz0, hz1, hz2⟩ := info_parts info2
  have hr := Lib.run_append_nil_zeros w 24 3 ty 2 i0 _ .i64 .i64 Tryd.underlying24 Tryd.underlying3 hi hz0 k h0 (by omega) (by omega) (by rw [hz2]; omega)
  have hge := grownCap_ge w k 0 2
  have hle := grownCap_le_maxLen w k 0 2 (by unfold maxLen; omega)
  generalize grownCap w k 0 2 = G at *
  have hzl : ∀ q, (Builtin.zeroCells (Value.int .i64 0).cells q).size = q * 1 := fun q => by rw [size_zeroCells]; rfl
  refine ⟨G, _, hr, hge, ⟨rfl, .inr ⟨w.heap.size, G, _, rfl, Nat.le_refl _, heap_alloc_new w.drew _, Nat.zero_le _, hle, ?_, by simp⟩⟩, ?_⟩
  · rw [Array.size_append, hzl, hzl]
    omega
  · exact ((Below.refl _ _).drew).alloc (Nat.le_refl _) _

set_option maxRecDepth 100000 in
set_option maxHeartbeats 400000 in
theorem implGrowI (n : Nat) (w : World) (hn : n ≤ 100000000) :
    Calls Tryd.prog 42 #[.slice none 0 0, .int .i64 n] w fun e w' => ∃ r, e = .returned r ∧ w'.ownsRow w.heap.size 2 1 r 0 [] ∧ Below w.heap.size w w' := by
  have hneg : ¬ ((n : Int) < 0) := by omega
  by_cases h0 : n = 0
  · subst h0
    go_enter Tryd.func42, Tryd.ntmps42
    go_wp2_with fail
    go_ret
    exact ⟨_, rfl, World.ownsRow_nil _ _ _ _, Below.refl _ _⟩
  · obtain ⟨G, w1, hr, hG, O1, B1⟩ := run_append_zeros_nilI w n (by omega) hn 24
    have HO := hide O1
    have HB := hide B1
    have hpos : decide ((0 : Int) < (n : Int)) = true := by simp; omega
    clear O1 B1
    go_enter Tryd.func42, Tryd.ntmps42
    go_wp2_with (at_builtin; refine Lib.wpList_append_run _ rfl _ _ _ _ rfl _ _ rfl rfl _ _ hr ?_)
    go_ret
    exact ⟨_, rfl, unhide HO, unhide HB⟩

set_option maxRecDepth 100000 in
set_option maxHeartbeats 1000000 in
theorem implConcatI (vb : Nat) (u v : Value) (a b : List Int) (w : World) (k0 : w.cell? ⟨vb, 0, none⟩ = some u) (k1 : w.cell? ⟨vb, 1, none⟩ = some v) (ha : IsInts w u a) (hb : IsInts w v b) (hna : a.length ≤ 1000) (hnb : b.length ≤ 1000) :
    Calls Tryd.prog 23 #[.slice (some ⟨vb, 0, none⟩) 2 2] w fun e w' => ∃ r, e = .returned r ∧ w'.ownsRow w.heap.size 2 1 r (a ++ b).length ((a ++ b).map (Value.int .i64)) ∧ Below w.heap.size w w' := by
  have HA := hide ha
  have HBv := hide hb
  obtain ⟨au, cu, rfl, -⟩ := ha
  obtain ⟨av, cv, rfl, -⟩ := hb
  have HVB := hide (World.block_lt_of_cell? _ _ k1)
  have HK1 := hide k1
  have hn1 : ¬ ((a.length : Int) < 0) := by omega
  have hn2 : ¬ ((a.length : Int) + (b.length : Int) < 0) := by omega
  go_enter Tryd.func23, Tryd.ntmps23
  go_wp2_with fail
  refine wp_loop_rounds 3 ?_
  rw [rounds_succ]
  go_wp2_with fail
  rw [rounds_succ]
  go_wp2_with fail
  rw [rounds_succ]
  go_wp2_with fail
  have e1 : (a.length : Int) + (b.length : Int) = ((a.length + b.length : Nat) : Int) := by omega
  rw [e1]
  refine (implGrowI (a.length + b.length) _ (by omega)).mono ?_
  rintro e w1 ⟨r, rfl, O1, B1⟩
  obtain ⟨a1, c1, rfl⟩ := own_shape O1
  have hvb := unhide HVB
  replace k0 : w1.cell? ⟨vb, 0, none⟩ = some _ := (B1.cell (p := ⟨vb, 0, none⟩) hvb).trans k0
  replace k1 : w1.cell? ⟨vb, 1, none⟩ = some _ := (B1.cell (p := ⟨vb, 1, none⟩) hvb).trans k1
  have I1 := (unhide HA).later B1
  have HB1 := hide B1
  have hs1 := B1.size
  clear B1 e1
  go_wp2_with fail
  refine wp_loop_rounds 3 ?_
  rw [rounds_succ]
  go_wp2_with (at_builtin; refine wpList_append_ints O1 I1 rfl _ _ rfl rfl rfl (by omega) hs1 ?_)
  intro v2 w2 O2 G2 _
  have hown1 := O1
  have B2 : Below w.heap.size w w2 := (unhide HB1).grown G2 hs1 (fun q hq => (hown1.lt q hq).1)
  obtain ⟨a2, c2, rfl⟩ := own_shape O2
  have k2 : w2.cell? ⟨vb, 1, none⟩ = some (.slice av b.length cv) := (B2.cell (p := ⟨vb, 1, none⟩) hvb).trans (unhide HK1)
  have I2 := (unhide HBv).later B2
  have hs2 := B2.size
  have HB2 := hide B2
  clear O1 I1 G2 k0 k1 B2 hs1 HB1 hown1
  go_wp2_with fail
  rw [rounds_succ]
  go_wp2_with (at_builtin; refine wpList_append_ints O2 I2 rfl _ _ rfl rfl rfl (by omega) hs2 ?_)
  intro v3 w3 O3 G3 _
  have B3 : Below w.heap.size w w3 := (unhide HB2).grown G3 hs2 (fun q hq => (O2.lt q hq).1)
  have HO3 := hide O3
  have HB3 := hide B3
  clear O2 I2 G3 k2 B3 O3 HB2
  go_wp2_with fail
  rw [rounds_succ]
  go_wp2_with fail
  go_ret
  refine ⟨_, rfl, ?_, unhide HB3⟩
  have h9 := unhide HO3
  simpa using h9

end Go.Proofs.YtceoaphcjnfphaaDoor

namespace Go.Proofs.YtceoaphcjnfphaaDoor
open Go.RowKit

set_option maxRecDepth 10000 in
set_option maxHeartbeats 1000000 in
theorem changedC (ep : Int) (a : Option Addr) (n d : Nat) (a2 : Option Addr) (n2 d2 : Nat) (w : World) (hep : 1 ≤ ep ∧ ep ≤ 999) :
    Calls Tryd.prog 22 #[.agg #[.int .i64 ep, .slice a n d], .slice a2 n2 d2] w fun e w' => ∃ c e2 a3 n3 d3, e = .returned (.agg #[.int .i64 c, .int .i64 e2, .slice a3 n3 d3]) ∧ (ep = 999 ∧ c = 2 ∧ e2 = 0 ∧ (a3 = none ∧ n3 = 0 ∧ d3 = 0) ∨ ep < 999 ∧ c = 0 ∧ e2 = ep + 1 ∧ (a3 = a2 ∧ n3 = n2 ∧ d3 = d2)) ∧ Below w.heap.size w w' := by
  have HB : Hid (∀ o1 o2, Below w.heap.size w ((w.alloc o1).alloc o2)) := fun o1 o2 => ((Below.refl _ _).alloc (Nat.le_refl _) o1).alloc (by simp) o2
  by_cases h : ep = 999
  · have hd : (ep == 999) = true := by simpa using h
    have HE := hide h
    clear h
    go_enter Tryd.func22, Tryd.ntmps22
    go_wp2_with fail
    refine bodyPost_ret (v := .agg #[.int .i64 2, .int .i64 0, .slice none 0 0]) (by simp [results, Tryd.results22, go_sem]) rfl ?_
    exact ⟨_, _, _, _, _, rfl, Or.inl ⟨unhide HE, rfl, rfl, rfl, rfl, rfl⟩, unhide HB _ _⟩
  · have hd : (ep == 999) = false := by simpa using h
    have HE : Hid (ep < 999) := by show ep < 999; omega
    clear h
    go_enter Tryd.func22, Tryd.ntmps22
    go_wp2_with fail
    refine bodyPost_ret (v := .agg #[.int .i64 0, .int .i64 (ep + 1), .slice a2 n2 d2]) (by simp [results, Tryd.results22, go_sem]) rfl ?_
    exact ⟨_, _, _, _, _, rfl, Or.inr ⟨unhide HE, rfl, rfl, rfl, rfl, rfl⟩, unhide HB _ _⟩
end Go.Proofs.YtceoaphcjnfphaaDoor

namespace Go.Proofs.YtceoaphcjnfphaaDoor
open Go.RowKit

theorem cut_parts {x : DChain} (ok : ChainOK x) {id : Int} {k : Nat} (hk : k < x.ids.length) (hat : x.ids[k] = id) (hb : ∀ j (hj : j < k), x.ids[j] ≠ id) : (x.ids.filter fun z => z != id) = x.ids.take k ++ x.ids.drop (k + 1) := by
  have e : x.ids = x.ids.take k ++ (id :: x.ids.drop (k + 1)) := by
    rw [← hat, ← List.drop_eq_getElem_cons hk, List.take_append_drop]
  have hnd := ok.nodup
  rw [e] at hnd
  obtain ⟨-, h2, -⟩ := List.nodup_append.1 hnd
  have h3 := (List.nodup_cons.1 h2).1
  conv => lhs; rw [e]
  rw [List.filter_append, List.filter_cons_of_neg (by simp)]
  congr 1
  · rw [List.filter_eq_self]
    intro z hz
    obtain ⟨j, hj, rfl⟩ := List.getElem_of_mem hz
    rw [List.length_take] at hj
    rw [List.getElem_take]
    simpa using hb j (by omega)
  · rw [List.filter_eq_self]
    intro z hz
    simp only [bne_iff_ne, ne_eq]
    intro e2
    rw [e2] at hz
    exact h3 hz
set_option maxRecDepth 10000 in
set_option maxHeartbeats 2000000 in
theorem implCutChain (cs : List Value) (x : DChain) (id : Int) (w : World) (h : Lay.tChain.Reads w cs x) :
    Calls Tryd.prog 7 #[.agg cs.toArray, .int .i64 id] w fun e w' => ∃ cs, e = .returned (.agg cs.toArray) ∧ Lay.tChainResult.OwnIn w' cs (cutR x id) w.heap.size w'.heap.size ∧ Below w.heap.size w w' := by
  obtain ⟨a, d, rfl, R⟩ := open_Chain h
  have nb : Below w.heap.size w ((w.alloc (.cells #[.int .i64 x.epoch, .slice a x.ids.length d] 26)).alloc (.cells #[.int .i64 0, .int .i64 0, .slice none 0 0] 30)) := ((Below.refl _ _).alloc (Nat.le_refl _) _).alloc (by simp) _
  have hX : ChainAt ((w.alloc (.cells #[.int .i64 x.epoch, .slice a x.ids.length d] 26)).alloc (.cells #[.int .i64 0, .int .i64 0, .slice none 0 0] 30)) w.heap.size (.slice a x.ids.length d) x := (newBox (Nat.zero_le _)).grow _
  have bR : Box 0 #[.int .i64 0, .int .i64 0, .slice none 0 0] 30 ((w.alloc (.cells #[.int .i64 x.epoch, .slice a x.ids.length d] 26)).alloc (.cells #[.int .i64 0, .int .i64 0, .slice none 0 0] 30)) (w.heap.size + 1) := newBoxAt (Nat.zero_le _) (by simp)
  have HF := hide (implChainFault _ x _ (h.later nb))
  have HR1 := hide R
  have HWF := hide (int_wf R)
  have HB := hide nb
  have HX := hide hX
  have HR := hide bR
  have x0 : ((w.alloc (.cells #[.int .i64 x.epoch, .slice a x.ids.length d] 26)).alloc (.cells #[.int .i64 0, .int .i64 0, .slice none 0 0] 30)).cell? ⟨w.heap.size, 0, none⟩ = some (.int .i64 x.epoch) := hX.at 0 _ rfl
  have x1 : ((w.alloc (.cells #[.int .i64 x.epoch, .slice a x.ids.length d] 26)).alloc (.cells #[.int .i64 0, .int .i64 0, .slice none 0 0] 30)).cell? ⟨w.heap.size, 1, none⟩ = some (.slice a x.ids.length d) := hX.at 1 _ rfl
  clear h R nb hX bR
  go_enter Tryd.func7, Tryd.ntmps7
  go_wp2_with fail
  generalize (w.alloc (.cells #[.int .i64 x.epoch, .slice a x.ids.length d] 26)).alloc (.cells #[.int .i64 0, .int .i64 0, .slice none 0 0] 30) = W0 at *
  refine (unhide HF).mono ?_
  rintro e W ⟨rfl, hb⟩
  replace HX := hide ((unhide HX).keep hb)
  replace HR := hide ((unhide HR).keep hb)
  replace HB := hide ((unhide HB).trans (hb.mono (unhide HB).size))
  clear HF hb x0 x1
  have x0 : W.cell? ⟨w.heap.size, 0, none⟩ = some (.int .i64 x.epoch) := (unhide HX).at 0 _ rfl
  have x1 : W.cell? ⟨w.heap.size, 1, none⟩ = some (.slice a x.ids.length d) := (unhide HX).at 1 _ rfl
  have z0 : W.cell? ⟨w.heap.size + 1, 0, none⟩ = some (.int .i64 0) := (unhide HR).at 0 _ rfl
  have z1 : W.cell? ⟨w.heap.size + 1, 1, none⟩ = some (.int .i64 0) := (unhide HR).at 1 _ rfl
  have z2 : W.cell? ⟨w.heap.size + 1, 2, none⟩ = some (.slice none 0 0) := (unhide HR).at 2 _ rfl
  have ff := (unhide HR).soft
  have l0 := (unhide HR).lt
  have xl := (unhide HX).lt
  have H := hide ((unhide HR1).later (unhide HB))
  by_cases hc : chainFault x = 0
  · have ok := chainFault_zero hc
    have hlen := ok.len
    have hep := ok.epoch
    have HOK := hide ok
    have HV0 : Hid (cutR x id = _) := (if_pos hc)
    rw [hc]
    clear hc ok
    have HA := hide (indexI _ x.ids id W (unhide H))
    go_wp2_with fail
    refine (unhide HA).mono ?_
    rintro e w1 ⟨rfl, h1⟩
    subst w1
    clear HA
    by_cases h0 : placeC x.ids id < 0
    · have HV : Hid (cutR x id = badChain 4) := (unhide HV0).trans (if_pos h0)
      have hd0 : decide (placeC x.ids id < 0) = true := by simpa using h0
      clear HV0
      generalize placeC x.ids id = p at *
      have HB2 := hide (below_setAll (unhide HB) (w.heap.size + 1) 0 [.int .i64 (4), .int .i64 0, .slice none 0 0] (by omega))
      clear HB
      go_wp2_with fail
      refine bodyPost_ret (v := .agg #[.int .i64 (4), .int .i64 0, .slice none 0 0]) (by simp [results, Tryd.results7, go_sem, z0, z1, z2]) rfl ?_
      rw [unhide HV]
      exact ⟨_, rfl, own_badChain (by omega), unhide HB2⟩
    · obtain ⟨k, hk, hpk, hat, hbef⟩ := placeC_get (by omega : 0 ≤ placeC x.ids id)
      have HCUT := hide (cut_parts (unhide HOK) hk hat hbef)
      have HV1 := hide ((unhide HV0).trans (if_neg h0))
      rw [hpk]
      clear HV0 h0 hat hbef hpk
      by_cases h1 : x.ids.length = 1
      · have HV : Hid (cutR x id = badChain 8) := (unhide HV1).trans (if_pos h1)
        have hd1 : ((x.ids.length : Int) == 1) = true := by rw [h1]; rfl
        clear HV1 h1
        have HB2 := hide (below_setAll (unhide HB) (w.heap.size + 1) 0 [.int .i64 (8), .int .i64 0, .slice none 0 0] (by omega))
        clear HB
        go_wp2_with fail
        refine bodyPost_ret (v := .agg #[.int .i64 (8), .int .i64 0, .slice none 0 0]) (by simp [results, Tryd.results7, go_sem, z0, z1, z2]) rfl ?_
        rw [unhide HV]
        exact ⟨_, rfl, own_badChain (by omega), unhide HB2⟩
      · have HV2 : Hid (cutR x id = if 999 ≤ x.epoch then badChain 2 else ⟨0, ⟨x.epoch + 1, x.ids.take k ++ x.ids.drop (k + 1)⟩⟩) := by
          refine ((unhide HV1).trans (if_neg h1)).trans ?_
          rw [cutCh, unhide HCUT]
        have hd1 : ((x.ids.length : Int) == 1) = false := by rw [beq_eq_false_iff_ne]; omega
        have hcap := (unhide H).cap
        clear HV1 h1 HCUT
        obtain ⟨b2, off, rfl, -⟩ := Lay.sl_addr (unhide H) (by omega)
        have HWJ : Hid (∀ z ∈ x.ids.take k ++ x.ids.drop (k + 1), (Lit.int .i64 z).wf = true) := fun z hz => by
          rcases List.mem_append.1 hz with hz | hz
          · exact unhide HWF z (List.mem_of_mem_take hz)
          · exact unhide HWF z (List.mem_of_mem_drop hz)
        have HP1 : Hid (∀ w', Below (w.heap.size + 1) W w' → (Lay.sl Lay.int).Reads w' [.slice (some ⟨b2, off, none⟩) k d] (x.ids.take k)) := fun w' hw => take_reads ((unhide HR1).later ((unhide HB).trans (hw.mono (by omega)))) k (by omega)
        have hkd : k ≤ d := by omega
        by_cases hend : k + 1 = d
        · have HP2 : Hid (∀ w', Below (w.heap.size + 1) W w' → (Lay.sl Lay.int).Reads w' [.slice (some ⟨b2, off, none⟩) 0 0] (x.ids.drop (k + 1))) := fun w' hw => by
            have e0 : x.ids.drop (k + 1) = [] := List.drop_eq_nil_of_le (by omega)
            rw [e0]
            exact Lay.reads_ints ⟨_, _, rfl, by simp, fun hp => by simp at hp⟩ (fun _ _ e => by simp) (by simp)
          have hln : x.ids.length = k + 1 := by omega
          have HLN := hide hln
          clear hln
          clear z0 z1 z2 ff
          have hRD := Box.drew (unhide HR)
          have hzD : W.heap.size ≤ W.drew.heap.size := Nat.le_refl _
          have hlW := l0
          clear l0
          go_wp2_with fail
          refine wp_region_noPanic ?_
          refine wp_region_held_drew (S := fun w' => Below (w.heap.size + 1) W w') (by kernel_rfl) (Below.refl _ _).drew (fun hHeld => ?_)
          generalize W.drew = wD at hHeld hRD hzD ⊢
          refine wpAnyH_take (i := 0) (oi := { dst := some 25, op := Go.Op.load 26 (Go.Operand.tmp 2), type := 26, pos := "l10_chain.go:114", after := #[], guard := none }) (v := ?vc0_1) rfl (by kernel_rfl) (by kernel_rfl) (by kernel_rfl) (fun _ _ _ h => h) (Or.inl ⟨by rfl, ?hc0_1⟩) hHeld ?rc0_1
          case hc0_1 =>
            intro wS hSw
            have e0 : wS.cell? ⟨w.heap.size, 0, none⟩ = some (.int .i64 x.epoch) := (hSw.cell (p := ⟨w.heap.size, 0, none⟩) (by show w.heap.size < w.heap.size + 1; omega)).trans x0
            have e1 : wS.cell? ⟨w.heap.size, 1, none⟩ = some (.slice (some ⟨b2, off, none⟩) x.ids.length d) := (hSw.cell (p := ⟨w.heap.size, 1, none⟩) (by show w.heap.size < w.heap.size + 1; omega)).trans x1
            clear hSw
            (try dsimp only at hSw)
            go_simp
            try with_reducible rfl
          case rc0_1 =>
          simp only [Act.put, List.setIfInBounds_toArray, List.set_cons_zero, List.set_cons_succ]
          refine wpAnyH_take (i := 1) (oi := { dst := some 26, op := Go.Op.fieldAddr 26 (Go.Operand.tmp 2) 1, type := 0, pos := "l10_chain.go:114", after := #[], guard := none }) (v := ?vc1_2) rfl (by kernel_rfl) (by kernel_rfl) (by kernel_rfl) (fun _ _ _ h => h) (Or.inl ⟨by rfl, ?hc1_2⟩) hHeld ?rc1_2
          case hc1_2 =>
            intro wS hSw
            (try dsimp only at hSw)
            go_simp
            try with_reducible rfl
          case rc1_2 =>
          simp only [Act.put, List.setIfInBounds_toArray, List.set_cons_zero, List.set_cons_succ]
          refine wpAnyH_take (i := 2) (oi := { dst := some 27, op := Go.Op.load 24 (Go.Operand.tmp 26), type := 24, pos := "l10_chain.go:114", after := #[{ on := 1, ground := Go.Ground.data }], guard := none }) (v := ?vc2_3) rfl (by kernel_rfl) (by kernel_rfl) (by kernel_rfl) (fun _ _ _ h => h) (Or.inl ⟨by rfl, ?hc2_3⟩) hHeld ?rc2_3
          case hc2_3 =>
            intro wS hSw
            have e1 : wS.cell? ⟨w.heap.size, 1, none⟩ = some (.slice (some ⟨b2, off, none⟩) x.ids.length d) := (hSw.cell (p := ⟨w.heap.size, 1, none⟩) (by show w.heap.size < w.heap.size + 1; omega)).trans x1
            clear hSw
            (try dsimp only at hSw)
            go_simp
            try with_reducible rfl
          case rc2_3 =>
          simp only [Act.put, List.setIfInBounds_toArray, List.set_cons_zero, List.set_cons_succ]
          refine wpAnyH_take (i := 3) (oi := { dst := some 28, op := Go.Op.move (Go.Operand.tmp 6), type := 3, pos := "l10_chain.go:114", after := #[], guard := none }) (v := ?vc3_4) rfl (by kernel_rfl) (by kernel_rfl) (by kernel_rfl) (fun _ _ _ h => h) (Or.inl ⟨by rfl, ?hc3_4⟩) hHeld ?rc3_4
          case hc3_4 =>
            intro wS hSw
            (try dsimp only at hSw)
            go_simp
            try with_reducible rfl
          case rc3_4 =>
          simp only [Act.put, List.setIfInBounds_toArray, List.set_cons_zero, List.set_cons_succ]
          refine wpAnyH_take (i := 4) (oi := { dst := some 29, op := Go.Op.slice 24 (Go.Operand.tmp 27) none (some (Go.Operand.tmp 28)) none, type := 24, pos := "l10_chain.go:114", after := #[{ on := 2, ground := Go.Ground.data }, { on := 3, ground := Go.Ground.data }], guard := none }) (v := ?vc4_5) rfl (by kernel_rfl) (by kernel_rfl) (by kernel_rfl) (fun _ _ _ h => h) (Or.inl ⟨by rfl, ?hc4_5⟩) hHeld ?rc4_5
          case hc4_5 =>
            intro wS hSw
            clear hSw
            (try dsimp only at hSw)
            go_simp
            try with_reducible rfl
          case rc4_5 =>
          simp only [Act.put, List.setIfInBounds_toArray, List.set_cons_zero, List.set_cons_succ]
          refine wpAnyH_take (i := 5) (oi := { dst := some 30, op := Go.Op.fieldAddr 26 (Go.Operand.tmp 2) 1, type := 0, pos := "l10_chain.go:114", after := #[], guard := none }) (v := ?vc5_6) rfl (by kernel_rfl) (by kernel_rfl) (by kernel_rfl) (fun _ _ _ h => h) (Or.inl ⟨by rfl, ?hc5_6⟩) hHeld ?rc5_6
          case hc5_6 =>
            intro wS hSw
            (try dsimp only at hSw)
            go_simp
            try with_reducible rfl
          case rc5_6 =>
          simp only [Act.put, List.setIfInBounds_toArray, List.set_cons_zero, List.set_cons_succ]
          refine wpAnyH_take (i := 6) (oi := { dst := some 31, op := Go.Op.load 24 (Go.Operand.tmp 30), type := 24, pos := "l10_chain.go:114", after := #[{ on := 5, ground := Go.Ground.data }], guard := none }) (v := ?vc6_7) rfl (by kernel_rfl) (by kernel_rfl) (by kernel_rfl) (fun _ _ _ h => h) (Or.inl ⟨by rfl, ?hc6_7⟩) hHeld ?rc6_7
          case hc6_7 =>
            intro wS hSw
            have e1 : wS.cell? ⟨w.heap.size, 1, none⟩ = some (.slice (some ⟨b2, off, none⟩) x.ids.length d) := (hSw.cell (p := ⟨w.heap.size, 1, none⟩) (by show w.heap.size < w.heap.size + 1; omega)).trans x1
            clear hSw
            (try dsimp only at hSw)
            go_simp
            try with_reducible rfl
          case rc6_7 =>
          simp only [Act.put, List.setIfInBounds_toArray, List.set_cons_zero, List.set_cons_succ]
          refine wpAnyH_take (i := 7) (oi := { dst := some 32, op := Go.Op.move (Go.Operand.tmp 6), type := 3, pos := "l10_chain.go:114", after := #[], guard := none }) (v := ?vc7_8) rfl (by kernel_rfl) (by kernel_rfl) (by kernel_rfl) (fun _ _ _ h => h) (Or.inl ⟨by rfl, ?hc7_8⟩) hHeld ?rc7_8
          case hc7_8 =>
            intro wS hSw
            (try dsimp only at hSw)
            go_simp
            try with_reducible rfl
          case rc7_8 =>
          simp only [Act.put, List.setIfInBounds_toArray, List.set_cons_zero, List.set_cons_succ]
          refine wpAnyH_take (i := 8) (oi := { dst := some 33, op := Go.Op.binOp Go.BinOp.add 3 (Go.Operand.tmp 32) (Go.Operand.const (Go.Value.int Go.IntKind.i64 1)) 3, type := 3, pos := "l10_chain.go:114", after := #[{ on := 7, ground := Go.Ground.data }], guard := none }) (v := ?vc8_9) rfl (by kernel_rfl) (by kernel_rfl) (by kernel_rfl) (fun _ _ _ h => h) (Or.inl ⟨by rfl, ?hc8_9⟩) hHeld ?rc8_9
          case hc8_9 =>
            intro wS hSw
            clear hSw
            have hwr : IntKind.i64.wrap ((k : Int) + 1) = (k : Int) + 1 := by rw [IntKind.wrap_i64]; omega
            (try dsimp only at hSw)
            go_simp
            try with_reducible rfl
          case rc8_9 =>
          simp only [Act.put, List.setIfInBounds_toArray, List.set_cons_zero, List.set_cons_succ]
          refine wpAnyH_take (i := 9) (oi := { dst := some 34, op := Go.Op.slice 24 (Go.Operand.tmp 31) (some (Go.Operand.tmp 33)) none none, type := 24, pos := "l10_chain.go:114", after := #[{ on := 6, ground := Go.Ground.data }, { on := 8, ground := Go.Ground.data }], guard := none }) (v := ?vc9_10) rfl (by kernel_rfl) (by kernel_rfl) (by kernel_rfl) (fun _ _ _ h => h) (Or.inl ⟨by rfl, ?hc9_10⟩) hHeld ?rc9_10
          case hc9_10 =>
            intro wS hSw
            clear hSw
            have h8 : (0 : Int) ≤ (k : Int) + 1 := by omega
            have h9 : (k : Int) + 1 ≤ (x.ids.length : Int) := by omega
            (try dsimp only at hSw)
            go_simp
            try with_reducible rfl
          case rc9_10 =>
          simp only [Act.put, List.setIfInBounds_toArray, List.set_cons_zero, List.set_cons_succ]
          refine wpAnyH_ready (rs := [10]) (by kernel_rfl) (by simp) ?_
          refine AllReadyH.cons (o := { dst := some 35, op := Go.Op.buildSlice 68 2 #[(0, Go.Operand.tmp 29), (1, Go.Operand.tmp 34)], type := 68, pos := "l10_chain.go:114", after := #[{ on := 4, ground := Go.Ground.data }, { on := 9, ground := Go.Ground.data }], guard := none }) rfl (fun K hK => ?_) AllReadyH.nil
          have b7 : Box 0 #[.slice (some ⟨b2, off, none⟩) k d, .slice (some ⟨b2, off, none⟩) 0 0] 24 (wD.alloc (.cells #[.slice (some ⟨b2, off, none⟩) k d, .slice (some ⟨b2, off, none⟩) 0 0] 24)) wD.heap.size := newBox (Nat.zero_le _)
          have nb7 : Below wD.heap.size wD (wD.alloc (.cells #[.slice (some ⟨b2, off, none⟩) k d, .slice (some ⟨b2, off, none⟩) 0 0] 24)) := (Below.refl _ _).alloc (Nat.le_refl _) _
          have hR7 := hRD.keep nb7
          have hS7 := hHeld.trans (nb7.mono (by omega))
          have hz7 := nb7.size
          go_simp
          try go_wp2_with fail
          refine hK.out _ _ hS7 (fun hHeld => ?_)
          clear hK K
          try simp only [Act.put, List.setIfInBounds_toArray, List.set_cons_zero, List.set_cons_succ]
          refine wpAnyH_ready (rs := [11]) (by kernel_rfl) (by simp) ?_
          refine AllReadyH.cons (o := { dst := some 36, op := Go.Op.call { callee := Go.Callee.value (Go.Operand.func 23), args := #[Go.Operand.tmp 35], argTypes := #[68] }, type := 24, pos := "l10_chain.go:114", after := #[{ on := 10, ground := Go.Ground.data }], guard := none }) rfl (fun K hK => ?_) AllReadyH.nil
          go_simp
          go_at_call 23
          refine (implConcatI _ _ _ (x.ids.take k) (x.ids.drop (k + 1)) _ (b7.at 0 _ rfl) (b7.at 1 _ rfl) (Lay.ints_reads (unhide HP1 _ hHeld)) (Lay.ints_reads (unhide HP2 _ hHeld)) (by rw [List.length_take]; omega) (by rw [List.length_drop]; omega)).mono ?_
          rintro e w5 ⟨v5, rfl, O5, hb5⟩
          obtain ⟨m, hm⟩ : ∃ m, m = (x.ids.take k ++ x.ids.drop (k + 1)).length := ⟨_, rfl⟩
          rw [← hm] at O5
          have HM := hide hm
          clear hm
          obtain ⟨a9, c9, rfl⟩ := own_shape O5
          have hS5 := hS7.trans (hb5.mono (by omega))
          have hR5 := hR7.keep hb5
          replace O5 := own_mono (b' := W.heap.size) (by omega) O5
          try go_wp2_with fail
          refine hK.out _ _ hS5 (fun hHeld => ?_)
          clear hK K
          try simp only [Act.put, List.setIfInBounds_toArray, List.set_cons_zero, List.set_cons_succ]
          refine wpAnyH_ready (rs := [12]) (by kernel_rfl) (by simp) ?_
          refine AllReadyH.cons (o := { dst := some 37, op := Go.Op.call { callee := Go.Callee.value (Go.Operand.func 22), args := #[Go.Operand.tmp 25, Go.Operand.tmp 36], argTypes := #[26, 24] }, type := 30, pos := "l10_chain.go:114", after := #[{ on := 0, ground := Go.Ground.data }, { on := 11, ground := Go.Ground.data }, { on := 11, ground := Go.Ground.chain }], guard := none }) rfl (fun K hK => ?_) AllReadyH.nil
          go_simp
          go_at_call 22
          have hz5 := hS5.size
          refine (changedC x.epoch _ _ _ _ _ _ w5 (by omega)).mono ?_
          rintro e w6 ⟨c, e2, a3, n3, d3, rfl, hch, hb6⟩
          have hS6 := hS5.trans (hb6.mono (by omega))
          have hR6 := hR5.keep hb6
          have O6 := own_below O5 hb6
          have hz6 := hb6.size
          have z0 := Box.at hR6 0 _ rfl
          have z1 := Box.at hR6 1 _ rfl
          have z2 := Box.at hR6 2 _ rfl
          simp only [List.getElem_toArray, List.getElem_cons_zero, List.getElem_cons_succ] at z0 z1 z2
          have ff := Box.soft hR6
          have l0 := Box.lt hR6
          have HOW : Hid (Lay.tChainResult.OwnIn w6 [.int .i64 c, .int .i64 e2, .slice a3 n3 d3] (cutR x id) W.heap.size w6.heap.size) := by
            rcases hch with ⟨h9, rfl, rfl, q3⟩ | ⟨h9, rfl, rfl, q3⟩
            · obtain ⟨rfl, rfl, rfl⟩ := q3
              rw [unhide HV2, if_pos (by omega)]
              exact own_badChain (by decide)
            · obtain ⟨rfl, rfl, rfl⟩ := q3
              rw [unhide HV2, if_neg (by omega)]
              refine own_chainR (c := 0) (x := ⟨x.epoch + 1, x.ids.take k ++ x.ids.drop (k + 1)⟩) (by decide) (wf_of_bd (by simp only; omega)) (own_intsC (zs := x.ids.take k ++ x.ids.drop (k + 1)) (unhide HWJ) (by rw [List.length_append, List.length_take, List.length_drop]; omega) ?_)
              first | exact O6 | (rw [← unhide HM]; exact O6) | simpa using O6
          clear hch
          try go_wp2_with fail
          refine hK.out _ _ hS6 (fun hHeld => ?_)
          clear hK K
          try simp only [Act.put, List.setIfInBounds_toArray, List.set_cons_zero, List.set_cons_succ]
          refine wpAnyH_ready (rs := [13]) (by kernel_rfl) (by simp) ?_
          refine AllReadyH.cons (o := { dst := none, op := Go.Op.store 30 (Go.Operand.tmp 4) (Go.Operand.tmp 37), type := 0, pos := "l10_chain.go:114", after := #[{ on := 12, ground := Go.Ground.data }, { on := 12, ground := Go.Ground.chain }, { on := 0, ground := Go.Ground.phase }, { on := 1, ground := Go.Ground.phase }, { on := 2, ground := Go.Ground.phase }, { on := 3, ground := Go.Ground.phase }, { on := 4, ground := Go.Ground.phase }, { on := 5, ground := Go.Ground.phase }, { on := 6, ground := Go.Ground.phase }, { on := 7, ground := Go.Ground.phase }, { on := 8, ground := Go.Ground.phase }, { on := 9, ground := Go.Ground.phase }, { on := 10, ground := Go.Ground.phase }, { on := 11, ground := Go.Ground.phase }, { on := 12, ground := Go.Ground.phase }], guard := none }) rfl (fun K hK => ?_) AllReadyH.nil
          go_simp
          try go_wp2_with fail
          refine hK.out _ _ (below_setAll hS6 (w.heap.size + 1) 0 [.int .i64 c, .int .i64 e2, .slice a3 n3 d3] (by omega)) (fun hHeld => ?_)
          clear hK K
          try simp only [Act.put, List.setIfInBounds_toArray, List.set_cons_zero, List.set_cons_succ]
          refine wpAnyH_done (by kernel_rfl) ?_ _
          refine NoPanic.normal ?_
          have HO3 : Hid (Lay.tChainResult.OwnIn (setAll w6 (w.heap.size + 1) 0 [.int .i64 c, .int .i64 e2, .slice a3 n3 d3]) [.int .i64 c, .int .i64 e2, .slice a3 n3 d3] (cutR x id) W.heap.size w6.heap.size) := own_store' (s := w.heap.size + 1) (vs := [.int .i64 c, .int .i64 e2, .slice a3 n3 d3]) (unhide HOW) hlW
          have HB2 := hide ((unhide HB).trans ((below_setAll hS6 (w.heap.size + 1) 0 [.int .i64 c, .int .i64 e2, .slice a3 n3 d3] (by omega)).mono (by omega)))
          have HSF := hide (size_setAll w6 (w.heap.size + 1) 0 [.int .i64 c, .int .i64 e2, .slice a3 n3 d3])
          have hlo : w.heap.size ≤ W.heap.size := by omega
          clear hHeld hS5 hR5 O5 hS6 hR6 O6 hb6 hRD HOW
          go_wp2_with fail
          refine bodyPost_ret (v := .agg #[.int .i64 c, .int .i64 e2, .slice a3 n3 d3]) (by simp [results, Tryd.results7, go_sem, z0, z1, z2]) rfl ?_
          exact ⟨[.int .i64 c, .int .i64 e2, .slice a3 n3 d3], rfl, (unhide HO3).mono hlo (Nat.le_of_eq (unhide HSF).symm), unhide HB2⟩
        · have HP2 : Hid (∀ w', Below (w.heap.size + 1) W w' → (Lay.sl Lay.int).Reads w' [.slice (some ⟨b2, off + (k + 1), none⟩) (x.ids.length - (k + 1)) (d - (k + 1))] (x.ids.drop (k + 1))) := fun w' hw => by
            have q := part_reads ((unhide HR1).later ((unhide HB).trans (hw.mono (by omega)))) (k + 1) (x.ids.length - (k + 1)) (d - (k + 1)) (by omega) (by omega)
            rw [List.take_of_length_le (by rw [List.length_drop]; exact Nat.le_refl _)] at q
            exact q
          clear z0 z1 z2 ff
          have hRD := Box.drew (unhide HR)
          have hzD : W.heap.size ≤ W.drew.heap.size := Nat.le_refl _
          have hlW := l0
          clear l0
          go_wp2_with fail
          refine wp_region_noPanic ?_
          refine wp_region_held_drew (S := fun w' => Below (w.heap.size + 1) W w') (by kernel_rfl) (Below.refl _ _).drew (fun hHeld => ?_)
          generalize W.drew = wD at hHeld hRD hzD ⊢
          refine wpAnyH_take (i := 0) (oi := { dst := some 25, op := Go.Op.load 26 (Go.Operand.tmp 2), type := 26, pos := "l10_chain.go:114", after := #[], guard := none }) (v := ?vd0_1) rfl (by kernel_rfl) (by kernel_rfl) (by kernel_rfl) (fun _ _ _ h => h) (Or.inl ⟨by rfl, ?hd0_1⟩) hHeld ?rd0_1
          case hd0_1 =>
            intro wS hSw
            have e0 : wS.cell? ⟨w.heap.size, 0, none⟩ = some (.int .i64 x.epoch) := (hSw.cell (p := ⟨w.heap.size, 0, none⟩) (by show w.heap.size < w.heap.size + 1; omega)).trans x0
            have e1 : wS.cell? ⟨w.heap.size, 1, none⟩ = some (.slice (some ⟨b2, off, none⟩) x.ids.length d) := (hSw.cell (p := ⟨w.heap.size, 1, none⟩) (by show w.heap.size < w.heap.size + 1; omega)).trans x1
            clear hSw
            (try dsimp only at hSw)
            go_simp
            try with_reducible rfl
          case rd0_1 =>
          simp only [Act.put, List.setIfInBounds_toArray, List.set_cons_zero, List.set_cons_succ]
          refine wpAnyH_take (i := 1) (oi := { dst := some 26, op := Go.Op.fieldAddr 26 (Go.Operand.tmp 2) 1, type := 0, pos := "l10_chain.go:114", after := #[], guard := none }) (v := ?vd1_2) rfl (by kernel_rfl) (by kernel_rfl) (by kernel_rfl) (fun _ _ _ h => h) (Or.inl ⟨by rfl, ?hd1_2⟩) hHeld ?rd1_2
          case hd1_2 =>
            intro wS hSw
            (try dsimp only at hSw)
            go_simp
            try with_reducible rfl
          case rd1_2 =>
          simp only [Act.put, List.setIfInBounds_toArray, List.set_cons_zero, List.set_cons_succ]
          refine wpAnyH_take (i := 2) (oi := { dst := some 27, op := Go.Op.load 24 (Go.Operand.tmp 26), type := 24, pos := "l10_chain.go:114", after := #[{ on := 1, ground := Go.Ground.data }], guard := none }) (v := ?vd2_3) rfl (by kernel_rfl) (by kernel_rfl) (by kernel_rfl) (fun _ _ _ h => h) (Or.inl ⟨by rfl, ?hd2_3⟩) hHeld ?rd2_3
          case hd2_3 =>
            intro wS hSw
            have e1 : wS.cell? ⟨w.heap.size, 1, none⟩ = some (.slice (some ⟨b2, off, none⟩) x.ids.length d) := (hSw.cell (p := ⟨w.heap.size, 1, none⟩) (by show w.heap.size < w.heap.size + 1; omega)).trans x1
            clear hSw
            (try dsimp only at hSw)
            go_simp
            try with_reducible rfl
          case rd2_3 =>
          simp only [Act.put, List.setIfInBounds_toArray, List.set_cons_zero, List.set_cons_succ]
          refine wpAnyH_take (i := 3) (oi := { dst := some 28, op := Go.Op.move (Go.Operand.tmp 6), type := 3, pos := "l10_chain.go:114", after := #[], guard := none }) (v := ?vd3_4) rfl (by kernel_rfl) (by kernel_rfl) (by kernel_rfl) (fun _ _ _ h => h) (Or.inl ⟨by rfl, ?hd3_4⟩) hHeld ?rd3_4
          case hd3_4 =>
            intro wS hSw
            (try dsimp only at hSw)
            go_simp
            try with_reducible rfl
          case rd3_4 =>
          simp only [Act.put, List.setIfInBounds_toArray, List.set_cons_zero, List.set_cons_succ]
          refine wpAnyH_take (i := 4) (oi := { dst := some 29, op := Go.Op.slice 24 (Go.Operand.tmp 27) none (some (Go.Operand.tmp 28)) none, type := 24, pos := "l10_chain.go:114", after := #[{ on := 2, ground := Go.Ground.data }, { on := 3, ground := Go.Ground.data }], guard := none }) (v := ?vd4_5) rfl (by kernel_rfl) (by kernel_rfl) (by kernel_rfl) (fun _ _ _ h => h) (Or.inl ⟨by rfl, ?hd4_5⟩) hHeld ?rd4_5
          case hd4_5 =>
            intro wS hSw
            clear hSw
            (try dsimp only at hSw)
            go_simp
            try with_reducible rfl
          case rd4_5 =>
          simp only [Act.put, List.setIfInBounds_toArray, List.set_cons_zero, List.set_cons_succ]
          refine wpAnyH_take (i := 5) (oi := { dst := some 30, op := Go.Op.fieldAddr 26 (Go.Operand.tmp 2) 1, type := 0, pos := "l10_chain.go:114", after := #[], guard := none }) (v := ?vd5_6) rfl (by kernel_rfl) (by kernel_rfl) (by kernel_rfl) (fun _ _ _ h => h) (Or.inl ⟨by rfl, ?hd5_6⟩) hHeld ?rd5_6
          case hd5_6 =>
            intro wS hSw
            (try dsimp only at hSw)
            go_simp
            try with_reducible rfl
          case rd5_6 =>
          simp only [Act.put, List.setIfInBounds_toArray, List.set_cons_zero, List.set_cons_succ]
          refine wpAnyH_take (i := 6) (oi := { dst := some 31, op := Go.Op.load 24 (Go.Operand.tmp 30), type := 24, pos := "l10_chain.go:114", after := #[{ on := 5, ground := Go.Ground.data }], guard := none }) (v := ?vd6_7) rfl (by kernel_rfl) (by kernel_rfl) (by kernel_rfl) (fun _ _ _ h => h) (Or.inl ⟨by rfl, ?hd6_7⟩) hHeld ?rd6_7
          case hd6_7 =>
            intro wS hSw
            have e1 : wS.cell? ⟨w.heap.size, 1, none⟩ = some (.slice (some ⟨b2, off, none⟩) x.ids.length d) := (hSw.cell (p := ⟨w.heap.size, 1, none⟩) (by show w.heap.size < w.heap.size + 1; omega)).trans x1
            clear hSw
            (try dsimp only at hSw)
            go_simp
            try with_reducible rfl
          case rd6_7 =>
          simp only [Act.put, List.setIfInBounds_toArray, List.set_cons_zero, List.set_cons_succ]
          refine wpAnyH_take (i := 7) (oi := { dst := some 32, op := Go.Op.move (Go.Operand.tmp 6), type := 3, pos := "l10_chain.go:114", after := #[], guard := none }) (v := ?vd7_8) rfl (by kernel_rfl) (by kernel_rfl) (by kernel_rfl) (fun _ _ _ h => h) (Or.inl ⟨by rfl, ?hd7_8⟩) hHeld ?rd7_8
          case hd7_8 =>
            intro wS hSw
            (try dsimp only at hSw)
            go_simp
            try with_reducible rfl
          case rd7_8 =>
          simp only [Act.put, List.setIfInBounds_toArray, List.set_cons_zero, List.set_cons_succ]
          refine wpAnyH_take (i := 8) (oi := { dst := some 33, op := Go.Op.binOp Go.BinOp.add 3 (Go.Operand.tmp 32) (Go.Operand.const (Go.Value.int Go.IntKind.i64 1)) 3, type := 3, pos := "l10_chain.go:114", after := #[{ on := 7, ground := Go.Ground.data }], guard := none }) (v := ?vd8_9) rfl (by kernel_rfl) (by kernel_rfl) (by kernel_rfl) (fun _ _ _ h => h) (Or.inl ⟨by rfl, ?hd8_9⟩) hHeld ?rd8_9
          case hd8_9 =>
            intro wS hSw
            clear hSw
            have hwr : IntKind.i64.wrap ((k : Int) + 1) = (k : Int) + 1 := by rw [IntKind.wrap_i64]; omega
            (try dsimp only at hSw)
            go_simp
            try with_reducible rfl
          case rd8_9 =>
          simp only [Act.put, List.setIfInBounds_toArray, List.set_cons_zero, List.set_cons_succ]
          refine wpAnyH_take (i := 9) (oi := { dst := some 34, op := Go.Op.slice 24 (Go.Operand.tmp 31) (some (Go.Operand.tmp 33)) none none, type := 24, pos := "l10_chain.go:114", after := #[{ on := 6, ground := Go.Ground.data }, { on := 8, ground := Go.Ground.data }], guard := none }) (v := ?vd9_10) rfl (by kernel_rfl) (by kernel_rfl) (by kernel_rfl) (fun _ _ _ h => h) (Or.inl ⟨by rfl, ?hd9_10⟩) hHeld ?rd9_10
          case hd9_10 =>
            intro wS hSw
            clear hSw
            have h8 : (0 : Int) ≤ (k : Int) + 1 := by omega
            have h9 : (k : Int) + 1 ≤ (x.ids.length : Int) := by omega
            (try dsimp only at hSw)
            go_simp
            try with_reducible rfl
          case rd9_10 =>
          simp only [Act.put, List.setIfInBounds_toArray, List.set_cons_zero, List.set_cons_succ]
          refine wpAnyH_ready (rs := [10]) (by kernel_rfl) (by simp) ?_
          refine AllReadyH.cons (o := { dst := some 35, op := Go.Op.buildSlice 68 2 #[(0, Go.Operand.tmp 29), (1, Go.Operand.tmp 34)], type := 68, pos := "l10_chain.go:114", after := #[{ on := 4, ground := Go.Ground.data }, { on := 9, ground := Go.Ground.data }], guard := none }) rfl (fun K hK => ?_) AllReadyH.nil
          have b7 : Box 0 #[.slice (some ⟨b2, off, none⟩) k d, .slice (some ⟨b2, off + (k + 1), none⟩) (x.ids.length - (k + 1)) (d - (k + 1))] 24 (wD.alloc (.cells #[.slice (some ⟨b2, off, none⟩) k d, .slice (some ⟨b2, off + (k + 1), none⟩) (x.ids.length - (k + 1)) (d - (k + 1))] 24)) wD.heap.size := newBox (Nat.zero_le _)
          have nb7 : Below wD.heap.size wD (wD.alloc (.cells #[.slice (some ⟨b2, off, none⟩) k d, .slice (some ⟨b2, off + (k + 1), none⟩) (x.ids.length - (k + 1)) (d - (k + 1))] 24)) := (Below.refl _ _).alloc (Nat.le_refl _) _
          have hR7 := hRD.keep nb7
          have hS7 := hHeld.trans (nb7.mono (by omega))
          have hz7 := nb7.size
          go_simp
          try go_wp2_with fail
          refine hK.out _ _ hS7 (fun hHeld => ?_)
          clear hK K
          try simp only [Act.put, List.setIfInBounds_toArray, List.set_cons_zero, List.set_cons_succ]
          refine wpAnyH_ready (rs := [11]) (by kernel_rfl) (by simp) ?_
          refine AllReadyH.cons (o := { dst := some 36, op := Go.Op.call { callee := Go.Callee.value (Go.Operand.func 23), args := #[Go.Operand.tmp 35], argTypes := #[68] }, type := 24, pos := "l10_chain.go:114", after := #[{ on := 10, ground := Go.Ground.data }], guard := none }) rfl (fun K hK => ?_) AllReadyH.nil
          go_simp
          go_at_call 23
          refine (implConcatI _ _ _ (x.ids.take k) (x.ids.drop (k + 1)) _ (b7.at 0 _ rfl) (b7.at 1 _ rfl) (Lay.ints_reads (unhide HP1 _ hHeld)) (Lay.ints_reads (unhide HP2 _ hHeld)) (by rw [List.length_take]; omega) (by rw [List.length_drop]; omega)).mono ?_
          rintro e w5 ⟨v5, rfl, O5, hb5⟩
          obtain ⟨m, hm⟩ : ∃ m, m = (x.ids.take k ++ x.ids.drop (k + 1)).length := ⟨_, rfl⟩
          rw [← hm] at O5
          have HM := hide hm
          clear hm
          obtain ⟨a9, c9, rfl⟩ := own_shape O5
          have hS5 := hS7.trans (hb5.mono (by omega))
          have hR5 := hR7.keep hb5
          replace O5 := own_mono (b' := W.heap.size) (by omega) O5
          try go_wp2_with fail
          refine hK.out _ _ hS5 (fun hHeld => ?_)
          clear hK K
          try simp only [Act.put, List.setIfInBounds_toArray, List.set_cons_zero, List.set_cons_succ]
          refine wpAnyH_ready (rs := [12]) (by kernel_rfl) (by simp) ?_
          refine AllReadyH.cons (o := { dst := some 37, op := Go.Op.call { callee := Go.Callee.value (Go.Operand.func 22), args := #[Go.Operand.tmp 25, Go.Operand.tmp 36], argTypes := #[26, 24] }, type := 30, pos := "l10_chain.go:114", after := #[{ on := 0, ground := Go.Ground.data }, { on := 11, ground := Go.Ground.data }, { on := 11, ground := Go.Ground.chain }], guard := none }) rfl (fun K hK => ?_) AllReadyH.nil
          go_simp
          go_at_call 22
          have hz5 := hS5.size
          refine (changedC x.epoch _ _ _ _ _ _ w5 (by omega)).mono ?_
          rintro e w6 ⟨c, e2, a3, n3, d3, rfl, hch, hb6⟩
          have hS6 := hS5.trans (hb6.mono (by omega))
          have hR6 := hR5.keep hb6
          have O6 := own_below O5 hb6
          have hz6 := hb6.size
          have z0 := Box.at hR6 0 _ rfl
          have z1 := Box.at hR6 1 _ rfl
          have z2 := Box.at hR6 2 _ rfl
          simp only [List.getElem_toArray, List.getElem_cons_zero, List.getElem_cons_succ] at z0 z1 z2
          have ff := Box.soft hR6
          have l0 := Box.lt hR6
          have HOW : Hid (Lay.tChainResult.OwnIn w6 [.int .i64 c, .int .i64 e2, .slice a3 n3 d3] (cutR x id) W.heap.size w6.heap.size) := by
            rcases hch with ⟨h9, rfl, rfl, q3⟩ | ⟨h9, rfl, rfl, q3⟩
            · obtain ⟨rfl, rfl, rfl⟩ := q3
              rw [unhide HV2, if_pos (by omega)]
              exact own_badChain (by decide)
            · obtain ⟨rfl, rfl, rfl⟩ := q3
              rw [unhide HV2, if_neg (by omega)]
              refine own_chainR (c := 0) (x := ⟨x.epoch + 1, x.ids.take k ++ x.ids.drop (k + 1)⟩) (by decide) (wf_of_bd (by simp only; omega)) (own_intsC (zs := x.ids.take k ++ x.ids.drop (k + 1)) (unhide HWJ) (by rw [List.length_append, List.length_take, List.length_drop]; omega) ?_)
              first | exact O6 | (rw [← unhide HM]; exact O6) | simpa using O6
          clear hch
          try go_wp2_with fail
          refine hK.out _ _ hS6 (fun hHeld => ?_)
          clear hK K
          try simp only [Act.put, List.setIfInBounds_toArray, List.set_cons_zero, List.set_cons_succ]
          refine wpAnyH_ready (rs := [13]) (by kernel_rfl) (by simp) ?_
          refine AllReadyH.cons (o := { dst := none, op := Go.Op.store 30 (Go.Operand.tmp 4) (Go.Operand.tmp 37), type := 0, pos := "l10_chain.go:114", after := #[{ on := 12, ground := Go.Ground.data }, { on := 12, ground := Go.Ground.chain }, { on := 0, ground := Go.Ground.phase }, { on := 1, ground := Go.Ground.phase }, { on := 2, ground := Go.Ground.phase }, { on := 3, ground := Go.Ground.phase }, { on := 4, ground := Go.Ground.phase }, { on := 5, ground := Go.Ground.phase }, { on := 6, ground := Go.Ground.phase }, { on := 7, ground := Go.Ground.phase }, { on := 8, ground := Go.Ground.phase }, { on := 9, ground := Go.Ground.phase }, { on := 10, ground := Go.Ground.phase }, { on := 11, ground := Go.Ground.phase }, { on := 12, ground := Go.Ground.phase }], guard := none }) rfl (fun K hK => ?_) AllReadyH.nil
          go_simp
          try go_wp2_with fail
          refine hK.out _ _ (below_setAll hS6 (w.heap.size + 1) 0 [.int .i64 c, .int .i64 e2, .slice a3 n3 d3] (by omega)) (fun hHeld => ?_)
          clear hK K
          try simp only [Act.put, List.setIfInBounds_toArray, List.set_cons_zero, List.set_cons_succ]
          refine wpAnyH_done (by kernel_rfl) ?_ _
          refine NoPanic.normal ?_
          have HO3 : Hid (Lay.tChainResult.OwnIn (setAll w6 (w.heap.size + 1) 0 [.int .i64 c, .int .i64 e2, .slice a3 n3 d3]) [.int .i64 c, .int .i64 e2, .slice a3 n3 d3] (cutR x id) W.heap.size w6.heap.size) := own_store' (s := w.heap.size + 1) (vs := [.int .i64 c, .int .i64 e2, .slice a3 n3 d3]) (unhide HOW) hlW
          have HB2 := hide ((unhide HB).trans ((below_setAll hS6 (w.heap.size + 1) 0 [.int .i64 c, .int .i64 e2, .slice a3 n3 d3] (by omega)).mono (by omega)))
          have HSF := hide (size_setAll w6 (w.heap.size + 1) 0 [.int .i64 c, .int .i64 e2, .slice a3 n3 d3])
          have hlo : w.heap.size ≤ W.heap.size := by omega
          clear hHeld hS5 hR5 O5 hS6 hR6 O6 hb6 hRD HOW
          go_wp2_with fail
          refine bodyPost_ret (v := .agg #[.int .i64 c, .int .i64 e2, .slice a3 n3 d3]) (by simp [results, Tryd.results7, go_sem, z0, z1, z2]) rfl ?_
          exact ⟨[.int .i64 c, .int .i64 e2, .slice a3 n3 d3], rfl, (unhide HO3).mono hlo (Nat.le_of_eq (unhide HSF).symm), unhide HB2⟩
  · have HV := hide (cutR_bad (id := id) hc)
    have hv := chainFault_vals x
    have hc2 : (chainFault x != 0) = true := by simpa using hc
    clear hc
    generalize chainFault x = f at *
    have HB2 := hide (below_setAll (unhide HB) (w.heap.size + 1) 0 [.int .i64 (f), .int .i64 0, .slice none 0 0] (by omega))
    clear HB
    go_wp2_with fail
    refine bodyPost_ret (v := .agg #[.int .i64 (f), .int .i64 0, .slice none 0 0]) (by simp [results, Tryd.results7, go_sem, z0, z1, z2]) rfl ?_
    rw [unhide HV]
    exact ⟨_, rfl, own_badChain (by omega), unhide HB2⟩
end Go.Proofs.YtceoaphcjnfphaaDoor

namespace Go.Proofs.YtceoaphcjnfphaaDoor
open Go.RowKit

set_option maxHeartbeats 400000 in
theorem slClone (ad : Addr) (cap : Nat) (zs : List Int) (w : World) (h : IsInts w (.slice (some ad) zs.length cap) zs) (hn : zs.length ≤ 100000000) :
    Calls Tryd.prog 31 #[.slice (some ad) zs.length cap] w fun e w' => ∃ v', e = .returned v' ∧ w'.ownsRow w.heap.size 2 1 v' zs.length (zs.map (Value.int .i64)) ∧ Below w.heap.size w w' := by
  have nb : Below w.heap.size w (w.alloc (.cells #[] 2)) := (Below.refl _ _).alloc (Nat.le_refl _) _
  have O : (w.alloc (.cells #[] 2)).ownsRow w.heap.size 2 1 (.slice (some ⟨w.heap.size, 0, none⟩) 0 0) 0 [] := World.ownsRow_lit w _ 0 (Nat.le_refl _) (by unfold maxLen; omega) rfl
  have h1 := h.later nb
  have HB := hide nb
  have hnil : ∀ w : World, (binOp .eql 24 (.slice (some ad) zs.length cap) (.slice none 0 0)).run Tryd.prog w = .ok (.bool false) w := fun _ => by kernel_rfl
  clear nb h
  go_enter Tryd.func31, Tryd.ntmps31
  go_wp2_with (at_builtin; refine wpList_append_ints O h1 rfl _ _ rfl rfl rfl (by omega) (by simp) ?_)
  rintro v' w' O2 - hb
  have HB2 := hide ((unhide HB).trans hb)
  clear O h1 hb HB
  go_wp2_with fail
  go_ret
  exact ⟨v', rfl, by simpa using O2, unhide HB2⟩

end Go.Proofs.YtceoaphcjnfphaaDoor

namespace Go.Proofs.YtceoaphcjnfphaaDoor
open Go.RowKit

set_option maxRecDepth 10000 in
set_option maxHeartbeats 2000000 in
theorem implJoinChain (cs : List Value) (x : DChain) (id : Int) (w : World) (h : Lay.tChain.Reads w cs x) :
    Calls Tryd.prog 11 #[.agg cs.toArray, .int .i64 id] w fun e w' => ∃ cs, e = .returned (.agg cs.toArray) ∧ Lay.tChainResult.OwnIn w' cs (joinR x id) w.heap.size w'.heap.size ∧ Below w.heap.size w w' := by
  obtain ⟨a, d, rfl, R⟩ := open_Chain h
  have nb : Below w.heap.size w ((w.alloc (.cells #[.int .i64 x.epoch, .slice a x.ids.length d] 26)).alloc (.cells #[.int .i64 0, .int .i64 0, .slice none 0 0] 30)) := ((Below.refl _ _).alloc (Nat.le_refl _) _).alloc (by simp) _
  have hX : ChainAt ((w.alloc (.cells #[.int .i64 x.epoch, .slice a x.ids.length d] 26)).alloc (.cells #[.int .i64 0, .int .i64 0, .slice none 0 0] 30)) w.heap.size (.slice a x.ids.length d) x := (newBox (Nat.zero_le _)).grow _
  have bR : Box 0 #[.int .i64 0, .int .i64 0, .slice none 0 0] 30 ((w.alloc (.cells #[.int .i64 x.epoch, .slice a x.ids.length d] 26)).alloc (.cells #[.int .i64 0, .int .i64 0, .slice none 0 0] 30)) (w.heap.size + 1) := newBoxAt (Nat.zero_le _) (by simp)
  have HF := hide (implChainFault _ x _ (h.later nb))
  have HR1 := hide R
  have HWF := hide (int_wf R)
  have HB := hide nb
  have HX := hide hX
  have HR := hide bR
  have x0 : ((w.alloc (.cells #[.int .i64 x.epoch, .slice a x.ids.length d] 26)).alloc (.cells #[.int .i64 0, .int .i64 0, .slice none 0 0] 30)).cell? ⟨w.heap.size, 0, none⟩ = some (.int .i64 x.epoch) := hX.at 0 _ rfl
  have x1 : ((w.alloc (.cells #[.int .i64 x.epoch, .slice a x.ids.length d] 26)).alloc (.cells #[.int .i64 0, .int .i64 0, .slice none 0 0] 30)).cell? ⟨w.heap.size, 1, none⟩ = some (.slice a x.ids.length d) := hX.at 1 _ rfl
  clear h R nb hX bR
  go_enter Tryd.func11, Tryd.ntmps11
  go_wp2_with fail
  generalize (w.alloc (.cells #[.int .i64 x.epoch, .slice a x.ids.length d] 26)).alloc (.cells #[.int .i64 0, .int .i64 0, .slice none 0 0] 30) = W0 at *
  refine (unhide HF).mono ?_
  rintro e W ⟨rfl, hb⟩
  replace HX := hide ((unhide HX).keep hb)
  replace HR := hide ((unhide HR).keep hb)
  replace HB := hide ((unhide HB).trans (hb.mono (unhide HB).size))
  clear HF hb x0 x1
  have x0 : W.cell? ⟨w.heap.size, 0, none⟩ = some (.int .i64 x.epoch) := (unhide HX).at 0 _ rfl
  have x1 : W.cell? ⟨w.heap.size, 1, none⟩ = some (.slice a x.ids.length d) := (unhide HX).at 1 _ rfl
  have z0 : W.cell? ⟨w.heap.size + 1, 0, none⟩ = some (.int .i64 0) := (unhide HR).at 0 _ rfl
  have z1 : W.cell? ⟨w.heap.size + 1, 1, none⟩ = some (.int .i64 0) := (unhide HR).at 1 _ rfl
  have z2 : W.cell? ⟨w.heap.size + 1, 2, none⟩ = some (.slice none 0 0) := (unhide HR).at 2 _ rfl
  have ff := (unhide HR).soft
  have l0 := (unhide HR).lt
  have xl := (unhide HX).lt
  have H := hide ((unhide HR1).later (unhide HB))
  by_cases hc : chainFault x = 0
  · have ok := chainFault_zero hc
    have hlen := ok.len
    have hep := ok.epoch
    have HOK := hide ok
    have HV0 : Hid (joinR x id = _) := (if_pos hc)
    rw [hc]
    clear hc ok
    go_wp2_with fail
    refine (isNodeIdC id W).mono ?_
    rintro e w1 ⟨rfl, h1⟩
    subst w1
    cases d1 : (decide (1 ≤ id) && decide (id ≤ 5))
    · have HV : Hid (joinR x id = badChain 3) := (unhide HV0).trans (if_neg (by simpa using d1))
      clear HV0 d1
      have HB2 := hide (below_setAll (unhide HB) (w.heap.size + 1) 0 [.int .i64 (3), .int .i64 0, .slice none 0 0] (by omega))
      clear HB
      go_wp2_with fail
      refine bodyPost_ret (v := .agg #[.int .i64 (3), .int .i64 0, .slice none 0 0]) (by simp [results, Tryd.results11, go_sem, z0, z1, z2]) rfl ?_
      rw [unhide HV]
      exact ⟨_, rfl, own_badChain (by omega), unhide HB2⟩
    · have hid : 1 ≤ id ∧ id ≤ 5 := by simpa using d1
      have HV1 := hide ((unhide HV0).trans (if_pos hid))
      have HA := hide (containsI _ x.ids id W (unhide H))
      clear HV0 d1
      go_wp2_with fail
      refine (unhide HA).mono ?_
      rintro e w1 ⟨rfl, h1⟩
      subst w1
      clear HA
      by_cases h0 : 0 ≤ placeC x.ids id
      · have HV : Hid (joinR x id = badChain 6) := (unhide HV1).trans (if_pos h0)
        have hd0 : decide (0 ≤ placeC x.ids id) = true := by simpa using h0
        rw [hd0]
        clear HV1 hd0 h0
        have HB2 := hide (below_setAll (unhide HB) (w.heap.size + 1) 0 [.int .i64 (6), .int .i64 0, .slice none 0 0] (by omega))
        clear HB
        go_wp2_with fail
        refine bodyPost_ret (v := .agg #[.int .i64 (6), .int .i64 0, .slice none 0 0]) (by simp [results, Tryd.results11, go_sem, z0, z1, z2]) rfl ?_
        rw [unhide HV]
        exact ⟨_, rfl, own_badChain (by omega), unhide HB2⟩
      · have hd0 : decide (0 ≤ placeC x.ids id) = false := by simpa using h0
        have HV2 : Hid (joinR x id = if 999 ≤ x.epoch then badChain 2 else ⟨0, ⟨x.epoch + 1, x.ids ++ [id]⟩⟩) := (unhide HV1).trans (if_neg h0)
        rw [hd0]
        clear HV1 h0 hd0
        have HRI : Hid (∀ w', Below (w.heap.size + 1) W w' → (Lay.sl Lay.int).Reads w' [.slice a x.ids.length d] x.ids) := fun w' hw => (unhide HR1).later ((unhide HB).trans (hw.mono (by omega)))
        have HWJ : Hid (∀ z ∈ x.ids ++ [id], (Lit.int .i64 z).wf = true) := fun z hz => by
          rcases List.mem_append.1 hz with hz | hz
          · exact unhide HWF z hz
          · rw [List.mem_singleton.1 hz]; exact wf_of_bd (by omega)
        obtain ⟨b2, off, rfl, -⟩ := Lay.sl_addr (unhide H) (by omega)
        clear z0 z1 z2 ff
        have hRD := Box.drew (unhide HR)
        have hzD : W.heap.size ≤ W.drew.heap.size := Nat.le_refl _
        have hlW := l0
        clear l0
        go_wp2_with fail
        refine wp_region_noPanic ?_
        refine wp_region_held_drew (S := fun w' => Below (w.heap.size + 1) W w') (by kernel_rfl) (Below.refl _ _).drew (fun hHeld => ?_)
        generalize W.drew = wD at hHeld hRD hzD ⊢
        refine wpAnyH_take (i := 0) (oi := { dst := some 21, op := Go.Op.load 26 (Go.Operand.tmp 2), type := 26, pos := "l10_chain.go:127", after := #[], guard := none }) (v := ?vj0_1) rfl (by kernel_rfl) (by kernel_rfl) (by kernel_rfl) (fun _ _ _ h => h) (Or.inl ⟨by rfl, ?hj0_1⟩) hHeld ?rj0_1
        case hj0_1 =>
          intro wS hSw
          have e0 : wS.cell? ⟨w.heap.size, 0, none⟩ = some (.int .i64 x.epoch) := (hSw.cell (p := ⟨w.heap.size, 0, none⟩) (by show w.heap.size < w.heap.size + 1; omega)).trans x0
          have e1 : wS.cell? ⟨w.heap.size, 1, none⟩ = some (.slice (some ⟨b2, off, none⟩) x.ids.length d) := (hSw.cell (p := ⟨w.heap.size, 1, none⟩) (by show w.heap.size < w.heap.size + 1; omega)).trans x1
          clear hSw
          (try dsimp only at hSw)
          go_simp
          try with_reducible rfl
        case rj0_1 =>
        simp only [Act.put, List.setIfInBounds_toArray, List.set_cons_zero, List.set_cons_succ]
        refine wpAnyH_take (i := 1) (oi := { dst := some 22, op := Go.Op.fieldAddr 26 (Go.Operand.tmp 2) 1, type := 0, pos := "l10_chain.go:127", after := #[], guard := none }) (v := ?vj1_2) rfl (by kernel_rfl) (by kernel_rfl) (by kernel_rfl) (fun _ _ _ h => h) (Or.inl ⟨by rfl, ?hj1_2⟩) hHeld ?rj1_2
        case hj1_2 =>
          intro wS hSw
          (try dsimp only at hSw)
          go_simp
          try with_reducible rfl
        case rj1_2 =>
        simp only [Act.put, List.setIfInBounds_toArray, List.set_cons_zero, List.set_cons_succ]
        refine wpAnyH_take (i := 2) (oi := { dst := some 23, op := Go.Op.load 24 (Go.Operand.tmp 22), type := 24, pos := "l10_chain.go:127", after := #[{ on := 1, ground := Go.Ground.data }], guard := none }) (v := ?vj2_3) rfl (by kernel_rfl) (by kernel_rfl) (by kernel_rfl) (fun _ _ _ h => h) (Or.inl ⟨by rfl, ?hj2_3⟩) hHeld ?rj2_3
        case hj2_3 =>
          intro wS hSw
          have e1 : wS.cell? ⟨w.heap.size, 1, none⟩ = some (.slice (some ⟨b2, off, none⟩) x.ids.length d) := (hSw.cell (p := ⟨w.heap.size, 1, none⟩) (by show w.heap.size < w.heap.size + 1; omega)).trans x1
          clear hSw
          (try dsimp only at hSw)
          go_simp
          try with_reducible rfl
        case rj2_3 =>
        simp only [Act.put, List.setIfInBounds_toArray, List.set_cons_zero, List.set_cons_succ]
        refine wpAnyH_take (i := 4) (oi := { dst := some 25, op := Go.Op.move (Go.Operand.tmp 1), type := 2, pos := "l10_chain.go:127", after := #[], guard := none }) (v := ?vj4_4) rfl (by kernel_rfl) (by kernel_rfl) (by kernel_rfl) (fun _ _ _ h => h) (Or.inl ⟨by rfl, ?hj4_4⟩) hHeld ?rj4_4
        case hj4_4 =>
          intro wS hSw
          (try dsimp only at hSw)
          go_simp
          try with_reducible rfl
        case rj4_4 =>
        simp only [Act.put, List.setIfInBounds_toArray, List.set_cons_zero, List.set_cons_succ]
        refine wpAnyH_ready (rs := [3, 5]) (by kernel_rfl) (by simp) ?_
        refine AllReadyH.cons (o := { dst := some 24, op := Go.Op.call { callee := Go.Callee.value (Go.Operand.func 31), args := #[Go.Operand.tmp 23], argTypes := #[24] }, type := 24, pos := "l10_chain.go:127", after := #[{ on := 2, ground := Go.Ground.data }], guard := none }) rfl (fun K hK => ?oj3_5) (AllReadyH.cons (o := { dst := some 26, op := Go.Op.buildSlice 24 1 #[(0, Go.Operand.tmp 25)], type := 24, pos := "l10_chain.go:127", after := #[{ on := 4, ground := Go.Ground.data }], guard := none }) rfl (fun K hK => ?oj5_5) (AllReadyH.nil))
        case oj3_5 =>
          go_simp
          go_at_call 31
          refine (slClone _ _ x.ids _ (Lay.ints_reads (unhide HRI _ hHeld)) (by omega)).mono ?_
          rintro e w4 ⟨v4, rfl, O4, hb4⟩
          have hS4 := hHeld.trans (hb4.mono (by omega))
          have hz4 := hb4.size
          have hR4 := hRD.keep hb4
          replace O4 := own_mono (b' := W.heap.size) (by omega) O4
          try go_wp2_with fail
          refine hK.out _ _ hS4 (fun hHeld => ?_)
          clear hK K
          try simp only [Act.put, List.setIfInBounds_toArray, List.set_cons_zero, List.set_cons_succ]
          refine wpAnyH_ready (rs := [5]) (by kernel_rfl) (by simp) ?_
          refine AllReadyH.cons (o := { dst := some 26, op := Go.Op.buildSlice 24 1 #[(0, Go.Operand.tmp 25)], type := 24, pos := "l10_chain.go:127", after := #[{ on := 4, ground := Go.Ground.data }], guard := none }) rfl (fun K hK => ?_) AllReadyH.nil
          have b7 : Box 0 #[.int .i64 id] 2 (w4.alloc (.cells #[.int .i64 id] 2)) w4.heap.size := newBox (Nat.zero_le _)
          have nb7 : Below w4.heap.size w4 (w4.alloc (.cells #[.int .i64 id] 2)) := (Below.refl _ _).alloc (Nat.le_refl _) _
          replace O4 := own_below O4 nb7
          replace hR4 := hR4.keep nb7
          have hS7 := hS4.trans (nb7.mono (by omega))
          go_simp
          try go_wp2_with fail
          refine hK.out _ _ hS7 (fun hHeld => ?_)
          clear hK K
          try simp only [Act.put, List.setIfInBounds_toArray, List.set_cons_zero, List.set_cons_succ]
          refine wpAnyH_ready (rs := [6]) (by kernel_rfl) (by simp) ?_
          refine AllReadyH.cons (o := { dst := some 27, op := Go.Op.call { callee := Go.Callee.builtin Go.Builtin.append, args := #[Go.Operand.tmp 24, Go.Operand.tmp 26], argTypes := #[24, 24] }, type := 24, pos := "l10_chain.go:127", after := #[{ on := 3, ground := Go.Ground.data }, { on := 5, ground := Go.Ground.data }, { on := 3, ground := Go.Ground.chain }], guard := none }) rfl (fun K hK => ?_) AllReadyH.nil
          refine step_append_ints O4 (one_ints b7 (wf_of_bd (by omega))) rfl _ _ rfl rfl rfl (by simp; omega) (by simp; omega) ?_
          rintro v5 w5 O5 - hb5
          obtain ⟨a9, c9, rfl⟩ := own_shape O5
          have hS5 := hS7.trans (hb5.mono (by omega))
          have hR5 := box_lowC hR4 hb5 (by omega)
          refine hK.out _ _ hS5 (fun hHeld => ?_)
          clear hK K
          try simp only [Act.put, List.setIfInBounds_toArray, List.set_cons_zero, List.set_cons_succ]
          refine wpAnyH_ready (rs := [7]) (by kernel_rfl) (by simp) ?_
          refine AllReadyH.cons (o := { dst := some 28, op := Go.Op.call { callee := Go.Callee.value (Go.Operand.func 22), args := #[Go.Operand.tmp 21, Go.Operand.tmp 27], argTypes := #[26, 24] }, type := 30, pos := "l10_chain.go:127", after := #[{ on := 0, ground := Go.Ground.data }, { on := 6, ground := Go.Ground.data }, { on := 6, ground := Go.Ground.chain }], guard := none }) rfl (fun K hK => ?_) AllReadyH.nil
          go_simp
          go_at_call 22
          have hz5 := hS5.size
          refine (changedC x.epoch _ _ _ _ _ _ w5 (by omega)).mono ?_
          rintro e w6 ⟨c, e2, a3, n3, d3, rfl, hch, hb6⟩
          have hS6 := hS5.trans (hb6.mono (by omega))
          have hR6 := hR5.keep hb6
          have O6 := own_below O5 hb6
          have hz6 := hb6.size
          have z0 := Box.at hR6 0 _ rfl
          have z1 := Box.at hR6 1 _ rfl
          have z2 := Box.at hR6 2 _ rfl
          simp only [List.getElem_toArray, List.getElem_cons_zero, List.getElem_cons_succ] at z0 z1 z2
          have ff := Box.soft hR6
          have l0 := Box.lt hR6
          have HOW : Hid (Lay.tChainResult.OwnIn w6 [.int .i64 c, .int .i64 e2, .slice a3 n3 d3] (joinR x id) W.heap.size w6.heap.size) := by
            rcases hch with ⟨h9, rfl, rfl, q3⟩ | ⟨h9, rfl, rfl, q3⟩
            · obtain ⟨rfl, rfl, rfl⟩ := q3
              rw [unhide HV2, if_pos (by omega)]
              exact own_badChain (by decide)
            · obtain ⟨rfl, rfl, rfl⟩ := q3
              rw [unhide HV2, if_neg (by omega)]
              refine own_chainR (c := 0) (x := ⟨x.epoch + 1, x.ids ++ [id]⟩) (by decide) (wf_of_bd (by simp only; omega)) (own_intsC (zs := x.ids ++ [id]) (unhide HWJ) (by rw [List.length_append]; simp; omega) ?_)
              first | exact O6 | (rw [← unhide HM]; exact O6) | simpa using O6
          clear hch
          try go_wp2_with fail
          refine hK.out _ _ hS6 (fun hHeld => ?_)
          clear hK K
          try simp only [Act.put, List.setIfInBounds_toArray, List.set_cons_zero, List.set_cons_succ]
          refine wpAnyH_ready (rs := [8]) (by kernel_rfl) (by simp) ?_
          refine AllReadyH.cons (o := { dst := none, op := Go.Op.store 30 (Go.Operand.tmp 4) (Go.Operand.tmp 28), type := 0, pos := "l10_chain.go:127", after := #[{ on := 7, ground := Go.Ground.data }, { on := 7, ground := Go.Ground.chain }, { on := 0, ground := Go.Ground.phase }, { on := 1, ground := Go.Ground.phase }, { on := 2, ground := Go.Ground.phase }, { on := 3, ground := Go.Ground.phase }, { on := 4, ground := Go.Ground.phase }, { on := 5, ground := Go.Ground.phase }, { on := 6, ground := Go.Ground.phase }, { on := 7, ground := Go.Ground.phase }], guard := none }) rfl (fun K hK => ?_) AllReadyH.nil
          go_simp
          try go_wp2_with fail
          refine hK.out _ _ (below_setAll hS6 (w.heap.size + 1) 0 [.int .i64 c, .int .i64 e2, .slice a3 n3 d3] (by omega)) (fun hHeld => ?_)
          clear hK K
          try simp only [Act.put, List.setIfInBounds_toArray, List.set_cons_zero, List.set_cons_succ]
          refine wpAnyH_done (by kernel_rfl) ?_ _
          refine NoPanic.normal ?_
          have HO3 : Hid (Lay.tChainResult.OwnIn (setAll w6 (w.heap.size + 1) 0 [.int .i64 c, .int .i64 e2, .slice a3 n3 d3]) [.int .i64 c, .int .i64 e2, .slice a3 n3 d3] (joinR x id) W.heap.size w6.heap.size) := own_store' (s := w.heap.size + 1) (vs := [.int .i64 c, .int .i64 e2, .slice a3 n3 d3]) (unhide HOW) hlW
          have HB2 := hide ((unhide HB).trans ((below_setAll hS6 (w.heap.size + 1) 0 [.int .i64 c, .int .i64 e2, .slice a3 n3 d3] (by omega)).mono (by omega)))
          have HSF := hide (size_setAll w6 (w.heap.size + 1) 0 [.int .i64 c, .int .i64 e2, .slice a3 n3 d3])
          have hlo : w.heap.size ≤ W.heap.size := by omega
          clear hHeld hS5 hR5 O5 hS6 hR6 O6 hb6 hRD HOW
          go_wp2_with fail
          refine bodyPost_ret (v := .agg #[.int .i64 c, .int .i64 e2, .slice a3 n3 d3]) (by simp [results, Tryd.results11, go_sem, z0, z1, z2]) rfl ?_
          exact ⟨[.int .i64 c, .int .i64 e2, .slice a3 n3 d3], rfl, (unhide HO3).mono hlo (Nat.le_of_eq (unhide HSF).symm), unhide HB2⟩
        case oj5_5 =>
          have b7 : Box 0 #[.int .i64 id] 2 (wD.alloc (.cells #[.int .i64 id] 2)) wD.heap.size := newBox (Nat.zero_le _)
          have nb7 : Below wD.heap.size wD (wD.alloc (.cells #[.int .i64 id] 2)) := (Below.refl _ _).alloc (Nat.le_refl _) _
          have hR7 := hRD.keep nb7
          have hS7 := hHeld.trans (nb7.mono (by omega))
          have hz7 := nb7.size
          go_simp
          try go_wp2_with fail
          refine hK.out _ _ hS7 (fun hHeld => ?_)
          clear hK K
          try simp only [Act.put, List.setIfInBounds_toArray, List.set_cons_zero, List.set_cons_succ]
          refine wpAnyH_ready (rs := [3]) (by kernel_rfl) (by simp) ?_
          refine AllReadyH.cons (o := { dst := some 24, op := Go.Op.call { callee := Go.Callee.value (Go.Operand.func 31), args := #[Go.Operand.tmp 23], argTypes := #[24] }, type := 24, pos := "l10_chain.go:127", after := #[{ on := 2, ground := Go.Ground.data }], guard := none }) rfl (fun K hK => ?_) AllReadyH.nil
          go_simp
          go_at_call 31
          refine (slClone _ _ x.ids _ (Lay.ints_reads (unhide HRI _ hHeld)) (by omega)).mono ?_
          rintro e w4 ⟨v4, rfl, O4, hb4⟩
          have hS4 := hHeld.trans (hb4.mono (by omega))
          have hz4 := hb4.size
          have hR4 := hR7.keep hb4
          replace O4 := own_mono (b' := W.heap.size) (by omega) O4
          replace b7 := b7.keep hb4
          try go_wp2_with fail
          refine hK.out _ _ hS4 (fun hHeld => ?_)
          clear hK K
          try simp only [Act.put, List.setIfInBounds_toArray, List.set_cons_zero, List.set_cons_succ]
          refine wpAnyH_ready (rs := [6]) (by kernel_rfl) (by simp) ?_
          refine AllReadyH.cons (o := { dst := some 27, op := Go.Op.call { callee := Go.Callee.builtin Go.Builtin.append, args := #[Go.Operand.tmp 24, Go.Operand.tmp 26], argTypes := #[24, 24] }, type := 24, pos := "l10_chain.go:127", after := #[{ on := 3, ground := Go.Ground.data }, { on := 5, ground := Go.Ground.data }, { on := 3, ground := Go.Ground.chain }], guard := none }) rfl (fun K hK => ?_) AllReadyH.nil
          refine step_append_ints O4 (one_ints b7 (wf_of_bd (by omega))) rfl _ _ rfl rfl rfl (by simp; omega) (by omega) ?_
          rintro v5 w5 O5 - hb5
          obtain ⟨a9, c9, rfl⟩ := own_shape O5
          have hS5 := hS4.trans (hb5.mono (by omega))
          have hR5 := box_lowC hR4 hb5 (by omega)
          refine hK.out _ _ hS5 (fun hHeld => ?_)
          clear hK K
          try simp only [Act.put, List.setIfInBounds_toArray, List.set_cons_zero, List.set_cons_succ]
          refine wpAnyH_ready (rs := [7]) (by kernel_rfl) (by simp) ?_
          refine AllReadyH.cons (o := { dst := some 28, op := Go.Op.call { callee := Go.Callee.value (Go.Operand.func 22), args := #[Go.Operand.tmp 21, Go.Operand.tmp 27], argTypes := #[26, 24] }, type := 30, pos := "l10_chain.go:127", after := #[{ on := 0, ground := Go.Ground.data }, { on := 6, ground := Go.Ground.data }, { on := 6, ground := Go.Ground.chain }], guard := none }) rfl (fun K hK => ?_) AllReadyH.nil
          go_simp
          go_at_call 22
          have hz5 := hS5.size
          refine (changedC x.epoch _ _ _ _ _ _ w5 (by omega)).mono ?_
          rintro e w6 ⟨c, e2, a3, n3, d3, rfl, hch, hb6⟩
          have hS6 := hS5.trans (hb6.mono (by omega))
          have hR6 := hR5.keep hb6
          have O6 := own_below O5 hb6
          have hz6 := hb6.size
          have z0 := Box.at hR6 0 _ rfl
          have z1 := Box.at hR6 1 _ rfl
          have z2 := Box.at hR6 2 _ rfl
          simp only [List.getElem_toArray, List.getElem_cons_zero, List.getElem_cons_succ] at z0 z1 z2
          have ff := Box.soft hR6
          have l0 := Box.lt hR6
          have HOW : Hid (Lay.tChainResult.OwnIn w6 [.int .i64 c, .int .i64 e2, .slice a3 n3 d3] (joinR x id) W.heap.size w6.heap.size) := by
            rcases hch with ⟨h9, rfl, rfl, q3⟩ | ⟨h9, rfl, rfl, q3⟩
            · obtain ⟨rfl, rfl, rfl⟩ := q3
              rw [unhide HV2, if_pos (by omega)]
              exact own_badChain (by decide)
            · obtain ⟨rfl, rfl, rfl⟩ := q3
              rw [unhide HV2, if_neg (by omega)]
              refine own_chainR (c := 0) (x := ⟨x.epoch + 1, x.ids ++ [id]⟩) (by decide) (wf_of_bd (by simp only; omega)) (own_intsC (zs := x.ids ++ [id]) (unhide HWJ) (by rw [List.length_append]; simp; omega) ?_)
              first | exact O6 | (rw [← unhide HM]; exact O6) | simpa using O6
          clear hch
          try go_wp2_with fail
          refine hK.out _ _ hS6 (fun hHeld => ?_)
          clear hK K
          try simp only [Act.put, List.setIfInBounds_toArray, List.set_cons_zero, List.set_cons_succ]
          refine wpAnyH_ready (rs := [8]) (by kernel_rfl) (by simp) ?_
          refine AllReadyH.cons (o := { dst := none, op := Go.Op.store 30 (Go.Operand.tmp 4) (Go.Operand.tmp 28), type := 0, pos := "l10_chain.go:127", after := #[{ on := 7, ground := Go.Ground.data }, { on := 7, ground := Go.Ground.chain }, { on := 0, ground := Go.Ground.phase }, { on := 1, ground := Go.Ground.phase }, { on := 2, ground := Go.Ground.phase }, { on := 3, ground := Go.Ground.phase }, { on := 4, ground := Go.Ground.phase }, { on := 5, ground := Go.Ground.phase }, { on := 6, ground := Go.Ground.phase }, { on := 7, ground := Go.Ground.phase }], guard := none }) rfl (fun K hK => ?_) AllReadyH.nil
          go_simp
          try go_wp2_with fail
          refine hK.out _ _ (below_setAll hS6 (w.heap.size + 1) 0 [.int .i64 c, .int .i64 e2, .slice a3 n3 d3] (by omega)) (fun hHeld => ?_)
          clear hK K
          try simp only [Act.put, List.setIfInBounds_toArray, List.set_cons_zero, List.set_cons_succ]
          refine wpAnyH_done (by kernel_rfl) ?_ _
          refine NoPanic.normal ?_
          have HO3 : Hid (Lay.tChainResult.OwnIn (setAll w6 (w.heap.size + 1) 0 [.int .i64 c, .int .i64 e2, .slice a3 n3 d3]) [.int .i64 c, .int .i64 e2, .slice a3 n3 d3] (joinR x id) W.heap.size w6.heap.size) := own_store' (s := w.heap.size + 1) (vs := [.int .i64 c, .int .i64 e2, .slice a3 n3 d3]) (unhide HOW) hlW
          have HB2 := hide ((unhide HB).trans ((below_setAll hS6 (w.heap.size + 1) 0 [.int .i64 c, .int .i64 e2, .slice a3 n3 d3] (by omega)).mono (by omega)))
          have HSF := hide (size_setAll w6 (w.heap.size + 1) 0 [.int .i64 c, .int .i64 e2, .slice a3 n3 d3])
          have hlo : w.heap.size ≤ W.heap.size := by omega
          clear hHeld hS5 hR5 O5 hS6 hR6 O6 hb6 hRD HOW
          go_wp2_with fail
          refine bodyPost_ret (v := .agg #[.int .i64 c, .int .i64 e2, .slice a3 n3 d3]) (by simp [results, Tryd.results11, go_sem, z0, z1, z2]) rfl ?_
          exact ⟨[.int .i64 c, .int .i64 e2, .slice a3 n3 d3], rfl, (unhide HO3).mono hlo (Nat.le_of_eq (unhide HSF).symm), unhide HB2⟩
  · have HV := hide (joinR_bad (id := id) hc)
    have hv := chainFault_vals x
    have hc2 : (chainFault x != 0) = true := by simpa using hc
    clear hc
    generalize chainFault x = f at *
    have HB2 := hide (below_setAll (unhide HB) (w.heap.size + 1) 0 [.int .i64 (f), .int .i64 0, .slice none 0 0] (by omega))
    clear HB
    go_wp2_with fail
    refine bodyPost_ret (v := .agg #[.int .i64 (f), .int .i64 0, .slice none 0 0]) (by simp [results, Tryd.results11, go_sem, z0, z1, z2]) rfl ?_
    rw [unhide HV]
    exact ⟨_, rfl, own_badChain (by omega), unhide HB2⟩
end Go.Proofs.YtceoaphcjnfphaaDoor

namespace Go.Proofs
open Go.Shelf
def Tryd.lays156_ren : Go.Shelf.Ren := ⟨fun | 156 => 34 | 165 => 48 | 166 => 49 | 169 => 50 | 240 => 57 | 241 => 58 | 276 => 64 | 277 => 65 | n => n, fun | 31 => 59 | 9 => 9 | 3 => 3 | 4 => 4 | 0 => 0 | 20 => 20 | 72 => 74 | 76 => 78 | 70 => 72 | 37 => 22 | 75 => 77 | 127 => 86 | 164 => 94 | 5 => 5 | 80 => 80 | n => n, fun | n => n⟩
theorem Tryd.lays156 : Go.Proofs.Lays.n156 Tryd.prog Tryd.lays156_ren := {
  mixed := by kernel_rfl
  f156 := Tryd.func34.trans (congrArg some (by kernel_rfl))
  f165 := Tryd.func48.trans (congrArg some (by kernel_rfl))
  f166 := Tryd.func49.trans (congrArg some (by kernel_rfl))
  f169 := Tryd.func50.trans (congrArg some (by kernel_rfl))
  f240 := Tryd.func57.trans (congrArg some (by kernel_rfl))
  f241 := Tryd.func58.trans (congrArg some (by kernel_rfl))
  f276 := Tryd.func64.trans (congrArg some (by kernel_rfl))
  f277 := Tryd.func65.trans (congrArg some (by kernel_rfl))
  t0 := Tryd.underlying0
  a0 := Tryd.isAgg0
  z0 := Tryd.sizeOf0
  v0 := Tryd.zeroValue0
  t3 := Tryd.underlying3
  a3 := Tryd.isAgg3
  z3 := Tryd.sizeOf3
  v3 := Tryd.zeroValue3
  t4 := Tryd.underlying4
  a4 := Tryd.isAgg4
  z4 := Tryd.sizeOf4
  v4 := Tryd.zeroValue4
  t9 := Tryd.underlying9
  a9 := Tryd.isAgg9
  z9 := Tryd.sizeOf9
  v9 := Tryd.zeroValue9
  t20 := Tryd.underlying20
  a20 := Tryd.isAgg20
  z20 := Tryd.sizeOf20
  v20 := Tryd.zeroValue20
  t31 := Tryd.underlying59
  a31 := Tryd.isAgg59
  z31 := Tryd.sizeOf59
  v31 := Tryd.zeroValue59
  t37 := Tryd.underlying22
  a37 := Tryd.isAgg22
  z37 := Tryd.sizeOf22
  v37 := Tryd.zeroValue22
  t70 := Tryd.underlying72
  a70 := Tryd.isAgg72
  z70 := Tryd.sizeOf72
  v70 := Tryd.zeroValue72
  t72 := Tryd.underlying74
  a72 := Tryd.isAgg74
  z72 := Tryd.sizeOf74
  v72 := Tryd.zeroValue74
  t75 := Tryd.underlying77
  a75 := Tryd.isAgg77
  z75 := Tryd.sizeOf77
  v75 := Tryd.zeroValue77
  t76 := Tryd.underlying78
  a76 := Tryd.isAgg78
  z76 := Tryd.sizeOf78
  v76 := Tryd.zeroValue78
  t127 := Tryd.underlying86
  a127 := Tryd.isAgg86
  z127 := Tryd.sizeOf86
  v127 := Tryd.zeroValue86
  t164 := Tryd.underlying94
  a164 := Tryd.isAgg94
  z164 := Tryd.sizeOf94
  v164 := Tryd.zeroValue94 }
theorem Tryd.Builder_Extra_156 : Builder.Extra Tryd.prog Tryd.lays156_ren := {
  sizeBuilder := by kernel_rfl
  liesBuilder := by kernel_rfl
  t5 := Tryd.underlying5
  a5 := Tryd.isAgg5
  z5 := Tryd.sizeOf5
  v5 := Tryd.zeroValue5
  infoByte := by kernel_rfl
  cellsByte := by kernel_rfl
  sizeByte := by kernel_rfl
  neB5 := by decide }
open Go.RowKit in
theorem Tryd.strings_Join (bk o c : Nat) (xs : List ByteArray) (sep : ByteArray) (w : World) (hcells : ∀ (j : Nat) x, xs[j]? = some x → w.cell? ⟨bk, o + j, none⟩ = some (.string x)) (hbk : bk < w.heap.size) (hN : xs.length ≤ 140737488355328) (hcap : xs.length ≤ c) (hlen : (Lib.join (xs.map (·.data.toList)) sep.data.toList).length ≤ 140737488355328) :
    Calls Tryd.prog 34 #[.slice (some ⟨bk, o, none⟩) xs.length c, .string sep] w fun e w' => e = .returned (.string ⟨(Lib.join (xs.map (·.data.toList)) sep.data.toList).toArray⟩) ∧ Below w.heap.size w w' := Any.strings_Join Tryd.lays156 Tryd.Builder_Extra_156 bk o c xs sep w hcells hbk hN hcap hlen
def Tryd.laysM173_ren : Go.Shelf.Ren := ⟨fun | 173 => 47 | 246 => 56 | 283 => 60 | 284 => 61 | 285 => 62 | 286 => 63 | 129 => 67 | 317 => 66 | 318 => 68 | 319 => 69 | 320 => 70 | 337 => 71 | 338 => 72 | n => n, fun | 2 => 2 | 3 => 3 | 9 => 9 | 4 => 4 | 171 => 88 | 0 => 0 | 53 => 89 | 37 => 22 | 5 => 5 | 173 => 92 | 212 => 99 | 51 => 100 | 20 => 20 | 213 => 101 | 46 => 103 | 232 => 106 | 233 => 107 | n => n, fun | 17 => 0 | 18 => 2 | 19 => 3 | n => n⟩
theorem Tryd.laysM173 : Go.Proofs.LaysM.n173 Tryd.prog Tryd.laysM173_ren := {
  mixed := by kernel_rfl
  f129 := Tryd.func67.trans (congrArg some (by kernel_rfl))
  f173 := Tryd.func47.trans (congrArg some (by kernel_rfl))
  f246 := Tryd.func56.trans (congrArg some (by kernel_rfl))
  f283 := Tryd.func60.trans (congrArg some (by kernel_rfl))
  f284 := Tryd.func61.trans (congrArg some (by kernel_rfl))
  f285 := Tryd.func62.trans (congrArg some (by kernel_rfl))
  f286 := Tryd.func63.trans (congrArg some (by kernel_rfl))
  f317 := Tryd.func66.trans (congrArg some (by kernel_rfl))
  f318 := Tryd.func68.trans (congrArg some (by kernel_rfl))
  f319 := Tryd.func69.trans (congrArg some (by kernel_rfl))
  f320 := Tryd.func70.trans (congrArg some (by kernel_rfl))
  f337 := Tryd.func71.trans (congrArg some (by kernel_rfl))
  f338 := Tryd.func72.trans (congrArg some (by kernel_rfl))
  t0 := Tryd.underlying0
  a0 := Tryd.isAgg0
  z0 := Tryd.sizeOf0
  v0 := Tryd.zeroValue0
  t2 := Tryd.underlying2
  a2 := Tryd.isAgg2
  z2 := Tryd.sizeOf2
  v2 := Tryd.zeroValue2
  t3 := Tryd.underlying3
  a3 := Tryd.isAgg3
  z3 := Tryd.sizeOf3
  v3 := Tryd.zeroValue3
  t4 := Tryd.underlying4
  a4 := Tryd.isAgg4
  z4 := Tryd.sizeOf4
  v4 := Tryd.zeroValue4
  t5 := Tryd.underlying5
  a5 := Tryd.isAgg5
  z5 := Tryd.sizeOf5
  v5 := Tryd.zeroValue5
  t9 := Tryd.underlying9
  a9 := Tryd.isAgg9
  z9 := Tryd.sizeOf9
  v9 := Tryd.zeroValue9
  t20 := Tryd.underlying20
  a20 := Tryd.isAgg20
  z20 := Tryd.sizeOf20
  v20 := Tryd.zeroValue20
  t37 := Tryd.underlying22
  a37 := Tryd.isAgg22
  z37 := Tryd.sizeOf22
  v37 := Tryd.zeroValue22
  t46 := Tryd.underlying103
  a46 := Tryd.isAgg103
  z46 := Tryd.sizeOf103
  v46 := Tryd.zeroValue103
  t51 := Tryd.underlying100
  a51 := Tryd.isAgg100
  z51 := Tryd.sizeOf100
  v51 := Tryd.zeroValue100
  t53 := Tryd.underlying89
  a53 := Tryd.isAgg89
  z53 := Tryd.sizeOf89
  v53 := Tryd.zeroValue89
  t171 := Tryd.underlying88
  a171 := Tryd.isAgg88
  z171 := Tryd.sizeOf88
  v171 := Tryd.zeroValue88
  t173 := Tryd.underlying92
  a173 := Tryd.isAgg92
  z173 := Tryd.sizeOf92
  v173 := Tryd.zeroValue92
  t212 := Tryd.underlying99
  a212 := Tryd.isAgg99
  z212 := Tryd.sizeOf99
  v212 := Tryd.zeroValue99
  t213 := Tryd.underlying101
  a213 := Tryd.isAgg101
  z213 := Tryd.sizeOf101
  t232 := Tryd.underlying106
  a232 := Tryd.isAgg106
  z232 := Tryd.sizeOf106
  v232 := Tryd.zeroValue106
  t233 := Tryd.underlying107
  a233 := Tryd.isAgg107
  z233 := Tryd.sizeOf107
  v233 := Tryd.zeroValue107
  g17 := by kernel_rfl
  g18 := by kernel_rfl
  g19 := by kernel_rfl
  i0 := by kernel_rfl
  i2 := by kernel_rfl
  i3 := by kernel_rfl
  i4 := by kernel_rfl
  i5 := by kernel_rfl
  i9 := by kernel_rfl
  i20 := by kernel_rfl
  i37 := by kernel_rfl
  i46 := by kernel_rfl
  i51 := by kernel_rfl
  i53 := by kernel_rfl
  i171 := by kernel_rfl
  i173 := by kernel_rfl
  i212 := by kernel_rfl
  i232 := by kernel_rfl
  i233 := by kernel_rfl
  m17 := by kernel_rfl
  m18 := by kernel_rfl
  m19 := by kernel_rfl }
open Go.RowKit Go.Sort Go.Lib in
theorem Tryd.strconv_FormatInt_10 (n : Int) (h0 : -9223372036854775808 ≤ n) (h1 : n ≤ 9223372036854775807) (w : World) (htab : Lib.TabIs Tryd.prog w "internal/strconv.uint64pow10" .u64 Lib.pow10Tab) :
    Calls Tryd.prog 47 #[.int .i64 n, .int .i64 10] w fun e w' => e = .returned (.string ⟨(Lib.itoa n).toArray⟩) ∧ ∃ k os, w' = grow (w.drewN k) os := Any.strconv_FormatInt_10 Tryd.laysM173 n h0 h1 w htab
end Go.Proofs

namespace Go.Proofs.YtceoaphcjnfphaaDoor
open Go.RowKit

theorem decF_digits (f : Nat) : ∀ n, n < 10 ^ (f + 1) → decF (f + 1) n = Lib.decDigits n := by
  induction f with
  | zero =>
    intro n hn
    have h : n < 10 := by omega
    rw [decF, if_pos h, Lib.decDigits, dif_pos h]
    rfl
  | succ f ih =>
    intro n hn
    by_cases h : n < 10
    · rw [decF, if_pos h, Lib.decDigits, dif_pos h]
      rfl
    · rw [decF, if_neg h, Lib.decDigits, dif_neg h, ih (n / 10) (by rw [Nat.pow_succ] at hn; omega)]
      rfl
theorem dec_itoa (n : Int) (h1 : -9999 ≤ n) (h2 : n ≤ 9999) : Lib.itoa n = dec n := by
  unfold Lib.itoa dec
  by_cases h : n < 0
  · rw [if_pos h, if_pos h, decF_digits 3 _ (by omega)]
  · rw [if_neg h, if_neg h, decF_digits 3 _ (by omega)]

def Tab (w : World) : Prop := Lib.TabIs Tryd.prog w "internal/strconv.uint64pow10" .u64 Lib.pow10Tab
theorem Tab.later {w w' : World} (h : Tab w) (hb : Below w.heap.size w w') : Tab w' := Lib.tabBelow_of_tabIs h w' hb

theorem grow_below (w : World) (k : Nat) (os : Array Obj) : Below w.heap.size w (Go.Sort.grow (w.drewN k) os) :=
  ⟨rfl, rfl, rfl, by simp [Go.Sort.grow], fun i hi => by simp [Go.Sort.grow, Array.getElem?_append, hi]⟩

theorem formatC (n : Int) (w : World) (h1 : -9999 ≤ n) (h2 : n ≤ 9999) (ht : Tab w) :
    Calls Tryd.prog 47 #[.int .i64 n, .int .i64 10] w fun e w' => e = .returned (str (dec n)) ∧ Below w.heap.size w w' := by
  refine (Tryd.strconv_FormatInt_10 n (by omega) (by omega) w ht).mono ?_
  rintro e w' ⟨rfl, k, os, rfl⟩
  rw [dec_itoa n h1 h2]
  exact ⟨rfl, grow_below _ _ _⟩


end Go.Proofs.YtceoaphcjnfphaaDoor

namespace Go.Proofs.YtceoaphcjnfphaaDoor
open Go.RowKit

theorem decimalC (n : Int) (w : World) (h1 : -9999 ≤ n) (h2 : n ≤ 9999) (ht : Tab w) :
    Calls Tryd.prog 33 #[.int .i64 n] w fun e w' => e = .returned (str (dec n)) ∧ Below w.heap.size w w' := by
  have L := hide (formatC n w h1 h2 ht)
  clear ht
  go_enter Tryd.func33, Tryd.ntmps33
  go_wp2_with fail
  refine (unhide L).mono ?_
  rintro e w1 ⟨rfl, hb⟩
  have HB := hide hb
  clear hb L
  simp only [str]
  go_wp2_with fail
  go_ret
  exact ⟨rfl, unhide HB⟩

end Go.Proofs.YtceoaphcjnfphaaDoor

namespace Go.Proofs.YtceoaphcjnfphaaDoor
open Go.RowKit

theorem infoS : (Tryd.prog.info? 9).map (fun i => (i.zero, i.size, i.bytes)) = some (some (.string ⟨#[]⟩), 1, 16) := by kernel_rfl

/-- At an operation of a plain region: the new texts lie in a block of their own. -/
theorem wpList_append_strs {w1 : World} {base : Nat} {v : Value} {n : Nat} {xs : List Value} (hown : w1.ownsRow base 9 1 v n xs) (cs : List ByteArray) {ops : Array Oper} {rest : List Oper} {o : Oper} {a : Act} {Q : Exit → Act → World → Prop} (hgd : o.guard = none) (s x : Operand)
    (ho : o.op = .call { callee := .builtin .append, args := #[s, x], argTypes := #[59, 59] }) (hs : a.eval s = v) (m : Nat) (hx : a.eval x = .slice (some ⟨w1.heap.size, 0, none⟩) m m) (hm : cs.length = m) (hm0 : 0 < m)
    (hn : n + m ≤ 100000000) (hbase : base ≤ w1.heap.size)
    (h : ∀ g cap w', w'.ownsRow base 9 1 (.slice (some ⟨g, 0, none⟩) (n + m) cap) (n + m) (xs ++ cs.map Value.string) → w1.grownBy w' v.ownBlock → Below base w1 w' → g < w'.heap.size → w1.heap.size < w'.heap.size → wpList Tryd.prog ops Q rest (a.put o.dst (.slice (some ⟨g, 0, none⟩) (n + m) cap)) w') :
    wpList Tryd.prog ops Q (o :: rest) a (w1.alloc (.cells (cs.map Value.string).toArray 9)) := by
  obtain ⟨i0, hi0, hz0, hz1, hz2⟩ := info_parts infoS
  refine wpList_append_lies _ hgd s x 59 ho base 9 i0 _ 1 16 Tryd.underlying59 hi0 hz0 hz1 hz2 rfl (by omega) v n xs hs (hown.alloc _) ⟨w1.heap.size, 0, none⟩ m m (cs.map Value.string) hx (by simp [hm]) (World.news_of_block (cs := (cs.map Value.string).toArray) (t := 9) (fr := (0, 0)) (heap_alloc_new w1 _)) (by simp [Value.oneCell']) hm0 (by unfold maxLen; omega) (by omega) (by simp; omega) (w1.heap.size + 1) (by simp) ?_
  intro g cap w' h2 h3 _ h5
  have hg := grown_alloc h3
  have hsz := h3.size
  simp only [World.size_alloc] at hsz
  exact h g cap w' h2 hg ((Below.refl _ _).grown hg hbase (fun j hj => (hown.lt j hj).1)) h5 (by omega)

/-- At a step of a region that draws its order. -/
theorem step_append_strs {w1 : World} {base : Nat} {v : Value} {n : Nat} {xs : List Value} (hown : w1.ownsRow base 9 1 v n xs) (cs : List ByteArray) {ops : Array Oper} {o : Oper} {a : Act} {K : Act → World → Prop} {Q : Exit → Act → World → Prop} {E : Prop} (hgd : o.guard = none) (s x : Operand)
    (ho : o.op = .call { callee := .builtin .append, args := #[s, x], argTypes := #[59, 59] }) (hs : a.eval s = v) (m B : Nat) (hx : a.eval x = .slice (some ⟨B, 0, none⟩) m m) (hB : w1.heap[B]? = some (.cells (cs.map Value.string).toArray 9 (0, 0))) (hm : cs.length = m) (hm0 : 0 < m)
    (hn : n + m ≤ 100000000) (hbase : base ≤ w1.heap.size)
    (h : ∀ g cap w', w'.ownsRow base 9 1 (.slice (some ⟨g, 0, none⟩) (n + m) cap) (n + m) (xs ++ cs.map Value.string) → Below base w1 w' → g < w'.heap.size → w1.heap.size ≤ w'.heap.size → K (a.put o.dst (.slice (some ⟨g, 0, none⟩) (n + m) cap)) w') :
    if Region.wanted o (yielded ops a.tmps) = true then Oper.wp Tryd.prog o a w1 K Q else E := by
  obtain ⟨i0, hi0, hz0, hz1, hz2⟩ := info_parts infoS
  refine step_append_lies _ hgd s x 59 ho base 9 i0 _ 1 16 Tryd.underlying59 hi0 hz0 hz1 hz2 rfl (by omega) v n xs hs hown ⟨B, 0, none⟩ m m (cs.map Value.string) hx (by simp [hm]) (World.news_of_block (cs := (cs.map Value.string).toArray) (t := 9) (fr := (0, 0)) hB) (by simp [Value.oneCell']) hm0 (by unfold maxLen; omega) (by omega) hbase w1.heap.size rfl ?_
  intro g cap w' h2 h3 _ h5
  exact h g cap w' h2 ((Below.refl _ _).grown h3 hbase (fun j hj => (hown.lt j hj).1)) h5 h3.size

end Go.Proofs.YtceoaphcjnfphaaDoor

namespace Go.Proofs.YtceoaphcjnfphaaDoor
open Go.RowKit

theorem join_cons (s a : Bytes) (l : List Bytes) : Lib.join (a :: l) s = a ++ l.flatMap fun z => s ++ z := by
  induction l generalizing a with
  | nil => simp [Lib.join, List.intercalate]
  | cons b l ih =>
    have e : Lib.join (a :: b :: l) s = a ++ (s ++ Lib.join (b :: l) s) := by simp [Lib.join, List.intercalate]
    rw [e, ih b, List.flatMap_cons]
    simp only [List.append_assoc]
/-- The words of a chain's text. -/
def wordsC (e : Int) (ids : List Int) : List Bytes := [101, 112, 111, 99, 104] :: dec e :: [58] :: ids.map dec
theorem wordsC_len (e : Int) (ids : List Int) : (wordsC e ids).length = 3 + ids.length := by simp [wordsC]; omega
theorem wordsC_join (e : Int) (ids : List Int) : Lib.join (wordsC e ids) [32] = textC e ids := by
  rw [wordsC, join_cons, textC]
  simp only [List.flatMap_cons, List.flatMap_map, List.append_assoc]
  simp
theorem wordsC_step (e : Int) (ids : List Int) (k : Nat) (hk : k < ids.length) : (wordsC e (ids.take (k + 1))).map str = (wordsC e (ids.take k)).map str ++ [str (dec ids[k])] := by
  rw [List.take_succ_eq_append_getElem hk]
  simp only [wordsC, List.map_cons, List.map_append, List.map_nil, List.cons_append]

set_option maxRecDepth 100000 in
set_option maxHeartbeats 4000000 in
theorem implCText_ok (a : Option Addr) (d : Nat) (x : DChain) (w : World) (h : Lay.tChain.Reads w [.int .i64 x.epoch, .slice a x.ids.length d] x) (R : (Lay.sl Lay.int).Reads w [.slice a x.ids.length d] x.ids) (hf : chainFault x = 0) (ht : Tab w) :
    Calls Tryd.prog 14 #[.agg #[.int .i64 x.epoch, .slice a x.ids.length d]] w fun e w' => e = .returned (.agg #[.int .i64 0, .string ⟨(textC x.epoch x.ids).toArray⟩]) ∧ Below w.heap.size w w' := by
  have nb : Below w.heap.size w ((w.alloc (.cells #[.int .i64 x.epoch, .slice a x.ids.length d] 26)).alloc (.cells #[.int .i64 0, .string ⟨#[]⟩] 37)) := ((Below.refl _ _).alloc (Nat.le_refl _) _).alloc (by simp) _
  have hX : ChainAt ((w.alloc (.cells #[.int .i64 x.epoch, .slice a x.ids.length d] 26)).alloc (.cells #[.int .i64 0, .string ⟨#[]⟩] 37)) w.heap.size (.slice a x.ids.length d) x := (newBox (Nat.zero_le _)).grow _
  have bR : Box 0 #[.int .i64 0, .string ⟨#[]⟩] 37 ((w.alloc (.cells #[.int .i64 x.epoch, .slice a x.ids.length d] 26)).alloc (.cells #[.int .i64 0, .string ⟨#[]⟩] 37)) (w.heap.size + 1) := newBoxAt (Nat.zero_le _) (by simp)
  have HF := hide (implChainFault _ x _ (h.later nb))
  have HR1 := hide R
  have HB := hide nb
  have HX := hide hX
  have HR := hide bR
  have HT := hide ht
  have ok := chainFault_zero hf
  have hlen := ok.len
  have hep := ok.epoch
  have HID := hide ok.ids
  have x0 : ((w.alloc (.cells #[.int .i64 x.epoch, .slice a x.ids.length d] 26)).alloc (.cells #[.int .i64 0, .string ⟨#[]⟩] 37)).cell? ⟨w.heap.size, 0, none⟩ = some (.int .i64 x.epoch) := hX.at 0 _ rfl
  have x1 : ((w.alloc (.cells #[.int .i64 x.epoch, .slice a x.ids.length d] 26)).alloc (.cells #[.int .i64 0, .string ⟨#[]⟩] 37)).cell? ⟨w.heap.size, 1, none⟩ = some (.slice a x.ids.length d) := hX.at 1 _ rfl
  rw [hf] at HF
  clear h R nb hX bR ht ok hf
  go_enter Tryd.func14, Tryd.ntmps14
  go_wp2_with fail
  generalize (w.alloc (.cells #[.int .i64 x.epoch, .slice a x.ids.length d] 26)).alloc (.cells #[.int .i64 0, .string ⟨#[]⟩] 37) = W0 at *
  refine (unhide HF).mono ?_
  rintro e W ⟨rfl, hb⟩
  replace HX := hide ((unhide HX).keep hb)
  replace HR := hide ((unhide HR).keep hb)
  replace HB := hide ((unhide HB).trans (hb.mono (unhide HB).size))
  clear HF hb x0 x1
  have x0 : W.cell? ⟨w.heap.size, 0, none⟩ = some (.int .i64 x.epoch) := (unhide HX).at 0 _ rfl
  have xl := (unhide HX).lt
  have HL0 := hide (unhide HR).lt
  have L := hide (decimalC x.epoch W (by omega) (by omega) ((unhide HT).later (unhide HB)))
  simp only [str] at L
  go_wp2_with fail
  refine (unhide L).mono ?_
  rintro e W1 ⟨rfl, hb⟩
  have nb1 : Below W1.heap.size W1 (W1.alloc (.cells #[.string ⟨#[101, 112, 111, 99, 104]⟩, .string ⟨(dec x.epoch).toArray⟩, .string ⟨#[58]⟩] 9)) := (Below.refl _ _).alloc (Nat.le_refl _) _
  have HO : Hid (World.ownsRow (W1.alloc (.cells #[.string ⟨#[101, 112, 111, 99, 104]⟩, .string ⟨(dec x.epoch).toArray⟩, .string ⟨#[58]⟩] 9)) W1.heap.size 9 1 (.slice (some ⟨W1.heap.size, 0, none⟩) 3 3) 3 [.string ⟨#[101, 112, 111, 99, 104]⟩, .string ⟨(dec x.epoch).toArray⟩, .string ⟨#[58]⟩]) := World.ownsRow_lit W1 _ 3 (Nat.le_refl _) (by unfold maxLen; omega) rfl
  have HLT : Hid (W1.heap.size < (W1.alloc (.cells #[.string ⟨#[101, 112, 111, 99, 104]⟩, .string ⟨(dec x.epoch).toArray⟩, .string ⟨#[58]⟩] 9)).heap.size) := by show W1.heap.size < (W1.alloc (.cells #[.string ⟨#[101, 112, 111, 99, 104]⟩, .string ⟨(dec x.epoch).toArray⟩, .string ⟨#[58]⟩] 9)).heap.size; simp
  replace HX := hide (((unhide HX).keep hb).keep nb1)
  replace HR := hide (((unhide HR).keep hb).keep nb1)
  replace HL0 : Hid (w.heap.size + 1 < W1.heap.size) := Nat.lt_of_lt_of_le (unhide HL0) hb.size
  replace HB := hide (((unhide HB).trans (hb.mono (unhide HB).size)).trans (nb1.mono (Nat.le_trans (unhide HB).size hb.size)))
  clear L hb nb1 x0 xl
  have x1 : (W1.alloc (.cells #[.string ⟨#[101, 112, 111, 99, 104]⟩, .string ⟨(dec x.epoch).toArray⟩, .string ⟨#[58]⟩] 9)).cell? ⟨w.heap.size, 1, none⟩ = some (.slice a x.ids.length d) := (unhide HX).at 1 _ rfl
  have xl := (unhide HX).lt
  go_wp2_with fail
  generalize hW2 : W1.alloc (.cells #[.string ⟨#[101, 112, 111, 99, 104]⟩, .string ⟨(dec x.epoch).toArray⟩, .string ⟨#[58]⟩] 9) = W2 at *
  clear hW2 x1 xl HX
  go_loopw [4, 20] (fun v i wr => ∃ (k g cap : Nat), k ≤ x.ids.length ∧ i = .int .i64 k ∧ v = .slice (some ⟨g, 0, none⟩) (3 + k) cap ∧ wr.ownsRow W1.heap.size 9 1 (.slice (some ⟨g, 0, none⟩) (3 + k) cap) (3 + k) ((wordsC x.epoch (x.ids.take k)).map str) ∧ W1.heap.size < wr.heap.size ∧ Below W1.heap.size W2 wr) (fun _ i _ => x.ids.length - (intOf i).toNat)
  case atStart => exact ⟨0, W1.heap.size, 3, Nat.zero_le _, rfl, rfl, unhide HO, unhide HLT, Below.refl _ _⟩
  case round =>
    obtain ⟨k, g, cap, hk, rfl, rfl, hO, hz, hB⟩ := hrel
    clear HO HLT
    have hBw : Below w.heap.size w wr := (unhide HB).trans (hB.mono (by have := unhide HL0; omega))
    by_cases hlt : k < x.ids.length
    · obtain ⟨b2, off, rfl, hbl⟩ := Lay.sl_addr (unhide HR1) (by omega)
      have c1 := int_cell ((unhide HR1).later hBw) hlt
      have hzi := unhide HID x.ids[k] (List.getElem_mem hlt)
      have L := hide (decimalC x.ids[k] wr (by omega) (by omega) ((unhide HT).later hBw))
      have HST := hide (wordsC_step x.epoch x.ids k hlt)
      have hdl : decide ((k : Int) < (x.ids.length : Int)) = true := by simp; omega
      have hbr : b2 < wr.heap.size := Nat.lt_of_lt_of_le hbl hBw.size
      simp only [str] at L
      have HOr := hide hO
      have HBr := hide hB
      clear hO hB hBw
      generalize x.ids[k] = z at *
      go_wp2_with fail
      refine (unhide L).mono ?_
      rintro e w3 ⟨rfl, hb⟩
      have O3 := own_below (unhide HOr) hb
      have hz3 : W1.heap.size < w3.heap.size := Nat.lt_of_lt_of_le hz hb.size
      have HB3 := hide ((unhide HBr).trans (hb.mono (Nat.le_of_lt hz)))
      clear L hb HOr HBr c1
      go_wp2_with (at_builtin; refine wpList_append_strs O3 [⟨(dec z).toArray⟩] rfl _ _ rfl rfl 1 rfl rfl (by omega) (by omega) (by omega) ?_)
      intro g5 cap5 w5 O5 hg5 hb5 hgl hz5
      have HO5 : Hid (w5.ownsRow W1.heap.size 9 1 (.slice (some ⟨g5, 0, none⟩) (3 + (k + 1)) cap5) (3 + (k + 1)) ((wordsC x.epoch (x.ids.take (k + 1))).map str)) := by
        rw [unhide HST]
        exact O5
      have HB5 := hide ((unhide HB3).trans (hb5.mono (Nat.le_refl _)))
      have hz9 : W1.heap.size < w5.heap.size := by omega
      clear O3 O5 hg5 hb5 HB3 HST
      go_wp2_with fail
      go_roundw
      case rel => exact ⟨k + 1, g5, cap5, by omega, by go_num, rfl, unhide HO5, hz9, unhide HB5⟩
      case measure => simp [intOf]; omega
    · obtain rfl : k = x.ids.length := by omega
      rw [List.take_length] at hO
      have hcells : ∀ (j : Nat) (y : ByteArray), ((wordsC x.epoch x.ids).map fun l => (⟨l.toArray⟩ : ByteArray))[j]? = some y → wr.cell? ⟨g, 0 + j, none⟩ = some (.string y) := by
        intro j y hy
        rw [List.getElem?_map, Option.map_eq_some_iff] at hy
        obtain ⟨l, hl, rfl⟩ := hy
        have hj : j < (wordsC x.epoch x.ids).length := by
          rw [List.getElem?_eq_some_iff] at hl
          exact hl.1
        rw [wordsC_len] at hj
        rw [Nat.zero_add, hO.cellAt j (by omega), List.getElem?_map, hl]
        rfl
      have hgl := (hO.lt g rfl).2
      have hcp : 3 + x.ids.length ≤ cap := by
        obtain ⟨-, hor⟩ := hO
        rcases hor with h | ⟨b9, c9, cs9, e9, -, -, h9, -⟩
        · simp at h
        · simp only [Value.slice.injEq] at e9
          omega
      have hdat : ((wordsC x.epoch x.ids).map fun l => (⟨l.toArray⟩ : ByteArray)).map (·.data.toList) = wordsC x.epoch x.ids := by
        rw [List.map_map]
        conv => rhs; rw [← List.map_id (wordsC x.epoch x.ids)]
        exact List.map_congr_left fun l _ => by simp
      have hjn := wordsC_join x.epoch x.ids
      have htl := textC_few x.epoch x.ids
      have LJ := Tryd.strings_Join g 0 cap ((wordsC x.epoch x.ids).map fun l => (⟨l.toArray⟩ : ByteArray)) ⟨#[32]⟩ wr hcells hgl (by rw [List.length_map, wordsC_len]; omega) (by rw [List.length_map, wordsC_len]; exact hcp) (by rw [hdat]; show (Lib.join (wordsC x.epoch x.ids) [32]).length ≤ _; rw [hjn]; omega)
      rw [hdat, List.length_map, wordsC_len] at LJ
      replace LJ : Calls Tryd.prog 34 #[.slice (some ⟨g, 0, none⟩) (3 + x.ids.length) cap, .string ⟨#[32]⟩] wr fun e w' => e = .returned (.string ⟨(Lib.join (wordsC x.epoch x.ids) [32]).toArray⟩) ∧ Below wr.heap.size wr w' := LJ
      rw [hjn] at LJ
      have HLJ := hide LJ
      have hR := box_lowC (unhide HR) hB (unhide HL0)
      have HRr := hide hR
      have HBw := hide hBw
      have hdl : decide ((x.ids.length : Int) < (x.ids.length : Int)) = false := by simp
      clear LJ hcells hdat hjn htl hO hB hBw hR hcp hgl
      obtain ⟨t, htt⟩ : ∃ t, t = textC x.epoch x.ids := ⟨_, rfl⟩
      rw [← htt] at HLJ
      have HTT := hide htt
      clear htt
      go_wp2_with fail
      refine (unhide HLJ).mono ?_
      rintro e w4 ⟨rfl, hb⟩
      have bR := (unhide HRr).keep hb
      have z0 : w4.cell? ⟨w.heap.size + 1, 0, none⟩ = some (.int .i64 0) := bR.at 0 _ rfl
      have z1 : w4.cell? ⟨w.heap.size + 1, 1, none⟩ = some (.string ⟨#[]⟩) := bR.at 1 _ rfl
      have ff := bR.soft
      have l0 := bR.lt
      have HB2 := hide (below_setAll ((unhide HBw).trans (hb.mono (unhide HBw).size)) (w.heap.size + 1) 0 [.int .i64 0, .string ⟨t.toArray⟩] (by omega))
      clear hb bR HLJ HRr HBw
      go_wp2_with fail
      refine bodyPost_ret (v := .agg #[.int .i64 0, .string ⟨t.toArray⟩]) (by simp [results, Tryd.results14, go_sem, z0, z1]) rfl ?_
      exact ⟨by rw [unhide HTT], unhide HB2⟩

set_option maxRecDepth 10000 in
set_option maxHeartbeats 1000000 in
theorem implCText_bad (a : Option Addr) (d : Nat) (x : DChain) (w : World) (h : Lay.tChain.Reads w [.int .i64 x.epoch, .slice a x.ids.length d] x) (hf : chainFault x ≠ 0) :
    Calls Tryd.prog 14 #[.agg #[.int .i64 x.epoch, .slice a x.ids.length d]] w fun e w' => e = .returned (.agg #[.int .i64 (chainFault x), .string ⟨#[]⟩]) ∧ Below w.heap.size w w' := by
  have nb : Below w.heap.size w ((w.alloc (.cells #[.int .i64 x.epoch, .slice a x.ids.length d] 26)).alloc (.cells #[.int .i64 0, .string ⟨#[]⟩] 37)) := ((Below.refl _ _).alloc (Nat.le_refl _) _).alloc (by simp) _
  have hX : ChainAt ((w.alloc (.cells #[.int .i64 x.epoch, .slice a x.ids.length d] 26)).alloc (.cells #[.int .i64 0, .string ⟨#[]⟩] 37)) w.heap.size (.slice a x.ids.length d) x := (newBox (Nat.zero_le _)).grow _
  have bR : Box 0 #[.int .i64 0, .string ⟨#[]⟩] 37 ((w.alloc (.cells #[.int .i64 x.epoch, .slice a x.ids.length d] 26)).alloc (.cells #[.int .i64 0, .string ⟨#[]⟩] 37)) (w.heap.size + 1) := newBoxAt (Nat.zero_le _) (by simp)
  have HF := hide (implChainFault _ x _ (h.later nb))
  have HB := hide nb
  have HR := hide bR
  have hd : (chainFault x != 0) = true := by simpa using hf
  have x0 : ((w.alloc (.cells #[.int .i64 x.epoch, .slice a x.ids.length d] 26)).alloc (.cells #[.int .i64 0, .string ⟨#[]⟩] 37)).cell? ⟨w.heap.size, 0, none⟩ = some (.int .i64 x.epoch) := hX.at 0 _ rfl
  have x1 : ((w.alloc (.cells #[.int .i64 x.epoch, .slice a x.ids.length d] 26)).alloc (.cells #[.int .i64 0, .string ⟨#[]⟩] 37)).cell? ⟨w.heap.size, 1, none⟩ = some (.slice a x.ids.length d) := hX.at 1 _ rfl
  clear h nb hX bR hf
  go_enter Tryd.func14, Tryd.ntmps14
  go_wp2_with fail
  generalize (w.alloc (.cells #[.int .i64 x.epoch, .slice a x.ids.length d] 26)).alloc (.cells #[.int .i64 0, .string ⟨#[]⟩] 37) = W0 at *
  refine (unhide HF).mono ?_
  rintro e W ⟨rfl, hb⟩
  have bR := (unhide HR).keep hb
  have z0 : W.cell? ⟨w.heap.size + 1, 0, none⟩ = some (.int .i64 0) := bR.at 0 _ rfl
  have z1 : W.cell? ⟨w.heap.size + 1, 1, none⟩ = some (.string ⟨#[]⟩) := bR.at 1 _ rfl
  have ff := bR.soft
  have l0 := bR.lt
  obtain ⟨c, hcc⟩ : ∃ c, c = chainFault x := ⟨_, rfl⟩
  rw [← hcc] at hd ⊢
  have HCC := hide hcc
  clear hcc
  have HB2 := hide (below_setAll ((unhide HB).trans (hb.mono (unhide HB).size)) (w.heap.size + 1) 0 [.int .i64 c, .string ⟨#[]⟩] (by omega))
  clear hb bR HF HB HR x0 x1
  go_wp2_with fail
  refine bodyPost_ret (v := .agg #[.int .i64 c, .string ⟨#[]⟩]) (by simp [results, Tryd.results14, go_sem, z0, z1]) rfl ?_
  exact ⟨by rw [unhide HCC], unhide HB2⟩

theorem implChainText (cs : List Value) (x : DChain) (w : World) (ht : Tab w) (h : Lay.tChain.Reads w cs x) :
    Calls Tryd.prog 14 #[.agg cs.toArray] w fun e w' => ∃ cs, e = .returned (.agg cs.toArray) ∧ Lay.tTextResult.OwnIn w' cs (textR x) w.heap.size w'.heap.size ∧ Below w.heap.size w w' := by
  obtain ⟨a, d, rfl, R⟩ := open_Chain h
  by_cases hf : chainFault x = 0
  · refine (implCText_ok a d x w h R hf ht).mono ?_
    rintro e w' ⟨rfl, hb⟩
    rw [textR, if_pos hf]
    exact ⟨[_, _], rfl, lies_textR (by decide), hb⟩
  · refine (implCText_bad a d x w h hf).mono ?_
    rintro e w' ⟨rfl, hb⟩
    rw [textR, if_neg hf]
    exact ⟨[_, _], rfl, lies_textR (wf_of_bd (chainFault_bd x)), hb⟩
end Go.Proofs.YtceoaphcjnfphaaDoor

namespace Go.Proofs.YtceoaphcjnfphaaDoor
open Go.RowKit

theorem implC : ImplC Tab where
  later := fun _ _ h hb => h.later hb
  fault := implChainFault
  next := implNextIn
  prev := implPrevIn
  cut := implCutChain
  join := implJoinChain
  text := implChainText

theorem lawFnChainsT (ao : Option Addr) (len cap : Nat) (zs : List Int) (w : World) (h : (ao = none ∧ len = 0 ∧ cap = 0 ∧ zs = []) ∨
    ∃ x, ao = some x ∧ len ≤ cap ∧ cap ≤ maxLen ∧ zs.length = cap ∧ (∀ i, i < zs.length → w.cell? (x.add i) = some (.int .u8 (zs.getD i 0))) ∧ ∀ n ∈ zs, (Lit.int .u8 n).wf = true) (ht : Tab w) :
    Calls Tryd.prog 3 #[.slice ao len cap] w fun e w' => e = .returned (.bool true) ∧ Below w.heap.size w w' := lawFnChains implC ao len cap zs w h ht

end Go.Proofs.YtceoaphcjnfphaaDoor
