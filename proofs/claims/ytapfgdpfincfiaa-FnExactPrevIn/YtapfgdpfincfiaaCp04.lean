/-
  Texts of this proof in one: ImplBeside, LawPrevIn, LayOpen, OpenChain.
  Their conditions stand in their theorems.
-/
import Derived.Test.YtapfgdpfincfiaaCp03
import Derived.Test.YtapfgdpfincfiaaCp02
import Derived.Test.YtapfgdpfincfiaaChecked
import Derived.Test.YtapfgdpfincfiaaCp01
import Derived.ProofKit
import Derived.OpenShut
import Derived.Deep.Slices

namespace Go.Proofs.Ytapfgdpfincfiaa
open Go.RowKit

theorem besideR_none {x : DChain} {id dd : Int} (hf : chainFault x = 0) (h : placeC x.ids id < 0) : besideR x id dd = ⟨4, 0⟩ := by rw [besideR, if_pos hf, if_pos h]
theorem besideR_end {x : DChain} {id dd : Int} (hf : chainFault x = 0) (h : 0 ≤ placeC x.ids id) (h2 : placeC x.ids id + dd < 0 ∨ (x.ids.length : Int) ≤ placeC x.ids id + dd) : besideR x id dd = ⟨8, 0⟩ := by
  rw [besideR, if_pos hf, if_neg (by omega), if_pos]
  rw [nextC, if_pos (Or.inr h2)]
theorem besideR_at {x : DChain} {id dd : Int} (hf : chainFault x = 0) (h : 0 ≤ placeC x.ids id) {m : Nat} (hm : placeC x.ids id + dd = (m : Int)) (hl : m < x.ids.length) : besideR x id dd = ⟨0, x.ids[m]⟩ := by
  have e : nextC x.ids id dd = x.ids[m] := by
    rw [nextC, if_neg (by omega), hm]
    simp [List.getD, hl]
  have hz := (chainFault_zero hf).ids x.ids[m] (List.getElem_mem hl)
  rw [besideR, if_pos hf, if_neg (by omega), if_neg (by rw [e]; omega), e]

set_option maxRecDepth 10000 in
set_option maxHeartbeats 1000000 in
theorem beside1C (b bs : Nat) (a : Option Addr) (d : Nat) (x : DChain) (id dd : Int) (w : World) (hX : ChainAt w b (.slice a x.ids.length d) x) (hS : Box 0 #[.int .i64 dd] 3 w bs) (R : (Lay.sl Lay.int).Reads w [.slice a x.ids.length d] x.ids) (hf : chainFault x = 0) (hd : -1 ≤ dd ∧ dd ≤ 1) :
    Calls Try.prog 53 #[.int .i64 id, .pointer (some ⟨b, 0, none⟩), .pointer (some ⟨bs, 0, none⟩)] w fun e w' => e = .returned (.agg #[.int .i64 (besideR x id dd).code, .int .i64 (besideR x id dd).value]) ∧ Below w.heap.size w w' := by
  have HB : Hid (Below w.heap.size w (w.alloc (.cells #[.int .i64 0, .int .i64 0] 38))) := (Below.refl _ _).alloc (Nat.le_refl _) _
  have HR : Hid (Box 0 #[.int .i64 0, .int .i64 0] 38 (w.alloc (.cells #[.int .i64 0, .int .i64 0] 38)) w.heap.size) := newBox (Nat.zero_le _)
  have HX := hide (hX.keep (unhide HB))
  have HS := hide (hS.keep (unhide HB))
  have H := hide (R.later (unhide HB))
  have hxb := hX.lt
  have hsb := hS.lt
  have hlen := (chainFault_zero hf).len
  have HP := hide (indexI _ x.ids id _ (unhide H))
  have HN := hide (besideR_none (id := id) (dd := dd) hf)
  have HE := hide (besideR_end (id := id) (dd := dd) hf)
  have HA := hide (fun h m hm hl => besideR_at (id := id) (dd := dd) hf h (m := m) hm hl)
  clear hX hS R hf
  go_enter Try.func53, Try.ntmps53
  have x1 : (w.alloc (.cells #[.int .i64 0, .int .i64 0] 38)).cell? ⟨b, 1, none⟩ = some (.slice a x.ids.length d) := (unhide HX).at 1 _ rfl
  have s0 : (w.alloc (.cells #[.int .i64 0, .int .i64 0] 38)).cell? ⟨bs, 0, none⟩ = some (.int .i64 dd) := (unhide HS).at 0 _ rfl
  have z0 : (w.alloc (.cells #[.int .i64 0, .int .i64 0] 38)).cell? ⟨w.heap.size, 0, none⟩ = some (.int .i64 0) := (unhide HR).at 0 _ rfl
  have z1 : (w.alloc (.cells #[.int .i64 0, .int .i64 0] 38)).cell? ⟨w.heap.size, 1, none⟩ = some (.int .i64 0) := (unhide HR).at 1 _ rfl
  have ff := (unhide HR).soft
  have l0 := (unhide HR).lt
  go_wp2_with fail
  generalize w.alloc (.cells #[.int .i64 0, .int .i64 0] 38) = W at *
  refine (unhide HP).mono ?_
  rintro e w1 ⟨rfl, h1⟩
  subst w1
  clear HP
  have hb := placeC_bd x.ids id
  generalize placeC x.ids id = p at *
  have HB1 := hide (fun vs => below_setAll (unhide HB) w.heap.size 0 vs (Nat.le_refl _))
  clear HB HR HX HS
  by_cases h0 : p < 0
  · have HF := hide (unhide HN h0)
    have hd0 : decide (p < 0) = true := by simpa using h0
    clear HN HE HA
    go_wp2_with fail
    refine bodyPost_ret (v := .agg #[.int .i64 4, .int .i64 0]) (by simp [results, Try.results53, go_sem, z0, z1]) rfl ?_
    exact ⟨by rw [unhide HF], unhide HB1 [_, _]⟩
  · have hd0 : decide (p < 0) = false := by simpa using h0
    by_cases h1 : p + dd < 0
    · have HF := hide (unhide HE (by omega) (Or.inl h1))
      have hd1 : decide (p + dd < 0) = true := by simpa using h1
      clear HN HE HA
      go_wp2_with fail
      refine bodyPost_ret (v := .agg #[.int .i64 8, .int .i64 0]) (by simp [results, Try.results53, go_sem, z0, z1]) rfl ?_
      exact ⟨by rw [unhide HF], unhide HB1 [_, _]⟩
    · have hd1 : decide (p + dd < 0) = false := by simpa using h1
      by_cases h2 : (x.ids.length : Int) ≤ p + dd
      · have HF := hide (unhide HE (by omega) (Or.inr h2))
        have hd2 : decide ((x.ids.length : Int) ≤ p + dd) = true := by simpa using h2
        clear HN HE HA
        go_wp2_with fail
        refine bodyPost_ret (v := .agg #[.int .i64 8, .int .i64 0]) (by simp [results, Try.results53, go_sem, z0, z1]) rfl ?_
        exact ⟨by rw [unhide HF], unhide HB1 [_, _]⟩
      · have hd2 : decide ((x.ids.length : Int) ≤ p + dd) = false := by simp; omega
        obtain ⟨m, hm⟩ : ∃ m : Nat, p + dd = (m : Int) := ⟨(p + dd).toNat, by omega⟩
        have hml : m < x.ids.length := by omega
        have HF := hide (unhide HA (by omega) m hm hml)
        obtain ⟨b2, off, rfl, -⟩ := Lay.sl_addr (unhide H) (by omega)
        have c1 := int_cell (unhide H) hml
        clear HN HE HA
        generalize x.ids[m] = z at *
        rw [hm] at hd1 hd2
        go_wp2_with fail
        refine bodyPost_ret (v := .agg #[.int .i64 0, .int .i64 z]) (by simp [results, Try.results53, go_sem, z0, z1]) rfl ?_
        exact ⟨by rw [unhide HF], unhide HB1 [_, _]⟩

set_option maxRecDepth 10000 in
theorem besideInC (a : Option Addr) (d : Nat) (x : DChain) (dd : Int) (w : World) :
    Calls Try.prog 39 #[.agg #[.int .i64 x.epoch, .slice a x.ids.length d], .int .i64 dd] w fun e w' => ∃ b bs, e = .returned (.func (.func 53) #[] #[.pointer (some ⟨b, 0, none⟩), .pointer (some ⟨bs, 0, none⟩)]) ∧ ChainAt w' b (.slice a x.ids.length d) x ∧ Box 0 #[.int .i64 dd] 3 w' bs ∧ Below w.heap.size w w' := by
  have HB : Hid (Below w.heap.size w ((w.alloc (.cells #[.int .i64 x.epoch, .slice a x.ids.length d] 27)).alloc (.cells #[.int .i64 dd] 3))) := ((Below.refl _ _).alloc (Nat.le_refl _) _).alloc (by simp) _
  have HX : Hid (ChainAt ((w.alloc (.cells #[.int .i64 x.epoch, .slice a x.ids.length d] 27)).alloc (.cells #[.int .i64 dd] 3)) w.heap.size (.slice a x.ids.length d) x) := (newBox (Nat.zero_le _)).grow _
  have HS : Hid (Box 0 #[.int .i64 dd] 3 ((w.alloc (.cells #[.int .i64 x.epoch, .slice a x.ids.length d] 27)).alloc (.cells #[.int .i64 dd] 3)) (w.heap.size + 1)) := newBoxAt (Nat.zero_le _) (by simp)
  go_enter Try.func39, Try.ntmps39
  go_wp2_with fail
  go_ret
  exact ⟨_, _, rfl, unhide HX, unhide HS, unhide HB⟩

set_option maxRecDepth 10000 in
set_option maxHeartbeats 1000000 in
theorem implNextIn (cs : List Value) (x : DChain) (id : Int) (w : World) (h : Lay.tChain.Reads w cs x) :
    Calls Try.prog 20 #[.agg cs.toArray, .int .i64 id] w fun e w' => ∃ cs, e = .returned (.agg cs.toArray) ∧ Lay.tIntResult.OwnIn w' cs (besideR x id 1) w.heap.size w'.heap.size ∧ Below w.heap.size w w' := by
  obtain ⟨a, d, rfl, R⟩ := open_Chain h
  have nb : Below w.heap.size w ((w.alloc (.cells #[.int .i64 x.epoch, .slice a x.ids.length d] 27)).alloc (.cells #[.int .i64 0, .int .i64 0] 38)) := ((Below.refl _ _).alloc (Nat.le_refl _) _).alloc (by simp) _
  have hX : ChainAt ((w.alloc (.cells #[.int .i64 x.epoch, .slice a x.ids.length d] 27)).alloc (.cells #[.int .i64 0, .int .i64 0] 38)) w.heap.size (.slice a x.ids.length d) x := (newBox (Nat.zero_le _)).grow _
  have bR : Box 0 #[.int .i64 0, .int .i64 0] 38 ((w.alloc (.cells #[.int .i64 x.epoch, .slice a x.ids.length d] 27)).alloc (.cells #[.int .i64 0, .int .i64 0] 38)) (w.heap.size + 1) := newBoxAt (Nat.zero_le _) (by simp)
  have HL := hide (implChainFault _ x _ (h.later nb))
  have HW : Hid ((Lit.int .i64 (besideR x id 1).code).wf = true ∧ (Lit.int .i64 (besideR x id 1).value).wf = true) := besideR_wf (int_wf R) id 1
  have HRd := hide (R.later nb)
  have HB := hide nb
  have HR := hide bR
  have HX := hide hX
  have x0 : ((w.alloc (.cells #[.int .i64 x.epoch, .slice a x.ids.length d] 27)).alloc (.cells #[.int .i64 0, .int .i64 0] 38)).cell? ⟨w.heap.size, 0, none⟩ = some (.int .i64 x.epoch) := hX.at 0 _ rfl
  have x1 : ((w.alloc (.cells #[.int .i64 x.epoch, .slice a x.ids.length d] 27)).alloc (.cells #[.int .i64 0, .int .i64 0] 38)).cell? ⟨w.heap.size, 1, none⟩ = some (.slice a x.ids.length d) := hX.at 1 _ rfl
  clear h R nb hX bR
  go_enter Try.func20, Try.ntmps20
  go_wp2_with fail
  generalize (w.alloc (.cells #[.int .i64 x.epoch, .slice a x.ids.length d] 27)).alloc (.cells #[.int .i64 0, .int .i64 0] 38) = W at *
  refine (unhide HL).mono ?_
  rintro e w1 ⟨rfl, hb⟩
  replace HX := hide ((unhide HX).keep hb)
  replace HR := hide ((unhide HR).keep hb)
  replace HRd := hide ((unhide HRd).later hb)
  replace HB := hide ((unhide HB).trans (hb.mono (unhide HB).size))
  clear HL hb x0 x1
  have x0 : w1.cell? ⟨w.heap.size, 0, none⟩ = some (.int .i64 x.epoch) := (unhide HX).at 0 _ rfl
  have x1 : w1.cell? ⟨w.heap.size, 1, none⟩ = some (.slice a x.ids.length d) := (unhide HX).at 1 _ rfl
  have xl := (unhide HX).lt
  by_cases hf : chainFault x = 0
  · rw [hf]
    have HO : Hid (∀ W', Lay.tIntResult.OwnIn W' [.int .i64 (besideR x id 1).code, .int .i64 (besideR x id 1).value] (besideR x id 1) w.heap.size W'.heap.size) := fun W' => own_intRC (unhide HW).1 (unhide HW).2
    have HK : Hid (∀ (b bs : Nat) W', ChainAt W' b (.slice a x.ids.length d) x → Box 0 #[.int .i64 1] 3 W' bs → (Lay.sl Lay.int).Reads W' [.slice a x.ids.length d] x.ids → Calls Try.prog 53 #[.int .i64 id, .pointer (some ⟨b, 0, none⟩), .pointer (some ⟨bs, 0, none⟩)] W' fun e w' => e = .returned (.agg #[.int .i64 (besideR x id 1).code, .int .i64 (besideR x id 1).value]) ∧ Below W'.heap.size W' w') := fun b bs W' q1 q2 q3 => beside1C b bs a d x id 1 W' q1 q2 q3 hf (by omega)
    generalize (besideR x id 1).code = yc at *
    generalize (besideR x id 1).value = yv at *
    clear hf HW
    go_wp2_with fail
    refine (besideInC a d x 1 w1).mono ?_
    rintro e w2 ⟨b, bs, rfl, hX2, hS2, hb⟩
    have HX2 := hide hX2
    have HS2 := hide hS2
    replace HR := hide ((unhide HR).keep hb)
    replace HRd := hide ((unhide HRd).later hb)
    replace HB := hide ((unhide HB).trans (hb.mono (unhide HB).size))
    clear hX2 hS2 hb x0 x1 xl HX
    go_wp2_with fail
    refine (unhide HK b bs w2 (unhide HX2) (unhide HS2) (unhide HRd)).mono ?_
    rintro e w3 ⟨rfl, hb⟩
    have bR := (unhide HR).keep hb
    have z0 : w3.cell? ⟨w.heap.size + 1, 0, none⟩ = some (.int .i64 0) := bR.at 0 _ rfl
    have z1 : w3.cell? ⟨w.heap.size + 1, 1, none⟩ = some (.int .i64 0) := bR.at 1 _ rfl
    have ff := bR.soft
    have l0 := bR.lt
    have HB2 := hide (below_setAll ((unhide HB).trans (hb.mono (unhide HB).size)) (w.heap.size + 1) 0 [.int .i64 yc, .int .i64 yv] (by omega))
    clear HB HR bR hb HX2 HS2 HRd HK
    go_wp2_with fail
    refine bodyPost_ret (v := .agg #[.int .i64 yc, .int .i64 yv]) (by simp [results, Try.results20, go_sem, z0, z1]) rfl ?_
    exact ⟨_, rfl, unhide HO _, unhide HB2⟩
  · have HV := hide (besideR_bad (id := id) (d := 1) hf)
    have hd : (chainFault x != 0) = true := by simpa using hf
    have HC := hide (chainFault_bd x)
    have z0 : w1.cell? ⟨w.heap.size + 1, 0, none⟩ = some (.int .i64 0) := (unhide HR).at 0 _ rfl
    have z1 : w1.cell? ⟨w.heap.size + 1, 1, none⟩ = some (.int .i64 0) := (unhide HR).at 1 _ rfl
    have ff := (unhide HR).soft
    have l0 := (unhide HR).lt
    generalize chainFault x = c at *
    have HB2 := hide (below_setAll (unhide HB) (w.heap.size + 1) 0 [.int .i64 c, .int .i64 0] (by omega))
    clear HB HR HX HRd hf HW
    go_wp2_with fail
    refine bodyPost_ret (v := .agg #[.int .i64 c, .int .i64 0]) (by simp [results, Try.results20, go_sem, z0, z1]) rfl ?_
    rw [unhide HV]
    exact ⟨[_, _], rfl, own_intRC (wf_of_bd (unhide HC)) (by decide), unhide HB2⟩

set_option maxRecDepth 10000 in
set_option maxHeartbeats 1000000 in
theorem implPrevIn (cs : List Value) (x : DChain) (id : Int) (w : World) (h : Lay.tChain.Reads w cs x) :
    Calls Try.prog 23 #[.agg cs.toArray, .int .i64 id] w fun e w' => ∃ cs, e = .returned (.agg cs.toArray) ∧ Lay.tIntResult.OwnIn w' cs (besideR x id (-1)) w.heap.size w'.heap.size ∧ Below w.heap.size w w' := by
  obtain ⟨a, d, rfl, R⟩ := open_Chain h
  have nb : Below w.heap.size w ((w.alloc (.cells #[.int .i64 x.epoch, .slice a x.ids.length d] 27)).alloc (.cells #[.int .i64 0, .int .i64 0] 38)) := ((Below.refl _ _).alloc (Nat.le_refl _) _).alloc (by simp) _
  have hX : ChainAt ((w.alloc (.cells #[.int .i64 x.epoch, .slice a x.ids.length d] 27)).alloc (.cells #[.int .i64 0, .int .i64 0] 38)) w.heap.size (.slice a x.ids.length d) x := (newBox (Nat.zero_le _)).grow _
  have bR : Box 0 #[.int .i64 0, .int .i64 0] 38 ((w.alloc (.cells #[.int .i64 x.epoch, .slice a x.ids.length d] 27)).alloc (.cells #[.int .i64 0, .int .i64 0] 38)) (w.heap.size + 1) := newBoxAt (Nat.zero_le _) (by simp)
  have HL := hide (implChainFault _ x _ (h.later nb))
  have HW : Hid ((Lit.int .i64 (besideR x id (-1)).code).wf = true ∧ (Lit.int .i64 (besideR x id (-1)).value).wf = true) := besideR_wf (int_wf R) id (-1)
  have HRd := hide (R.later nb)
  have HB := hide nb
  have HR := hide bR
  have HX := hide hX
  have x0 : ((w.alloc (.cells #[.int .i64 x.epoch, .slice a x.ids.length d] 27)).alloc (.cells #[.int .i64 0, .int .i64 0] 38)).cell? ⟨w.heap.size, 0, none⟩ = some (.int .i64 x.epoch) := hX.at 0 _ rfl
  have x1 : ((w.alloc (.cells #[.int .i64 x.epoch, .slice a x.ids.length d] 27)).alloc (.cells #[.int .i64 0, .int .i64 0] 38)).cell? ⟨w.heap.size, 1, none⟩ = some (.slice a x.ids.length d) := hX.at 1 _ rfl
  clear h R nb hX bR
  go_enter Try.func23, Try.ntmps23
  go_wp2_with fail
  generalize (w.alloc (.cells #[.int .i64 x.epoch, .slice a x.ids.length d] 27)).alloc (.cells #[.int .i64 0, .int .i64 0] 38) = W at *
  refine (unhide HL).mono ?_
  rintro e w1 ⟨rfl, hb⟩
  replace HX := hide ((unhide HX).keep hb)
  replace HR := hide ((unhide HR).keep hb)
  replace HRd := hide ((unhide HRd).later hb)
  replace HB := hide ((unhide HB).trans (hb.mono (unhide HB).size))
  clear HL hb x0 x1
  have x0 : w1.cell? ⟨w.heap.size, 0, none⟩ = some (.int .i64 x.epoch) := (unhide HX).at 0 _ rfl
  have x1 : w1.cell? ⟨w.heap.size, 1, none⟩ = some (.slice a x.ids.length d) := (unhide HX).at 1 _ rfl
  have xl := (unhide HX).lt
  by_cases hf : chainFault x = 0
  · rw [hf]
    have HO : Hid (∀ W', Lay.tIntResult.OwnIn W' [.int .i64 (besideR x id (-1)).code, .int .i64 (besideR x id (-1)).value] (besideR x id (-1)) w.heap.size W'.heap.size) := fun W' => own_intRC (unhide HW).1 (unhide HW).2
    have HK : Hid (∀ (b bs : Nat) W', ChainAt W' b (.slice a x.ids.length d) x → Box 0 #[.int .i64 (-1)] 3 W' bs → (Lay.sl Lay.int).Reads W' [.slice a x.ids.length d] x.ids → Calls Try.prog 53 #[.int .i64 id, .pointer (some ⟨b, 0, none⟩), .pointer (some ⟨bs, 0, none⟩)] W' fun e w' => e = .returned (.agg #[.int .i64 (besideR x id (-1)).code, .int .i64 (besideR x id (-1)).value]) ∧ Below W'.heap.size W' w') := fun b bs W' q1 q2 q3 => beside1C b bs a d x id (-1) W' q1 q2 q3 hf (by omega)
    generalize (besideR x id (-1)).code = yc at *
    generalize (besideR x id (-1)).value = yv at *
    clear hf HW
    go_wp2_with fail
    refine (besideInC a d x (-1) w1).mono ?_
    rintro e w2 ⟨b, bs, rfl, hX2, hS2, hb⟩
    have HX2 := hide hX2
    have HS2 := hide hS2
    replace HR := hide ((unhide HR).keep hb)
    replace HRd := hide ((unhide HRd).later hb)
    replace HB := hide ((unhide HB).trans (hb.mono (unhide HB).size))
    clear hX2 hS2 hb x0 x1 xl HX
    go_wp2_with fail
    refine (unhide HK b bs w2 (unhide HX2) (unhide HS2) (unhide HRd)).mono ?_
    rintro e w3 ⟨rfl, hb⟩
    have bR := (unhide HR).keep hb
    have z0 : w3.cell? ⟨w.heap.size + 1, 0, none⟩ = some (.int .i64 0) := bR.at 0 _ rfl
    have z1 : w3.cell? ⟨w.heap.size + 1, 1, none⟩ = some (.int .i64 0) := bR.at 1 _ rfl
    have ff := bR.soft
    have l0 := bR.lt
    have HB2 := hide (below_setAll ((unhide HB).trans (hb.mono (unhide HB).size)) (w.heap.size + 1) 0 [.int .i64 yc, .int .i64 yv] (by omega))
    clear HB HR bR hb HX2 HS2 HRd HK
    go_wp2_with fail
    refine bodyPost_ret (v := .agg #[.int .i64 yc, .int .i64 yv]) (by simp [results, Try.results23, go_sem, z0, z1]) rfl ?_
    exact ⟨_, rfl, unhide HO _, unhide HB2⟩
  · have HV := hide (besideR_bad (id := id) (d := (-1)) hf)
    have hd : (chainFault x != 0) = true := by simpa using hf
    have HC := hide (chainFault_bd x)
    have z0 : w1.cell? ⟨w.heap.size + 1, 0, none⟩ = some (.int .i64 0) := (unhide HR).at 0 _ rfl
    have z1 : w1.cell? ⟨w.heap.size + 1, 1, none⟩ = some (.int .i64 0) := (unhide HR).at 1 _ rfl
    have ff := (unhide HR).soft
    have l0 := (unhide HR).lt
    generalize chainFault x = c at *
    have HB2 := hide (below_setAll (unhide HB) (w.heap.size + 1) 0 [.int .i64 c, .int .i64 0] (by omega))
    clear HB HR HX HRd hf HW
    go_wp2_with fail
    refine bodyPost_ret (v := .agg #[.int .i64 c, .int .i64 0]) (by simp [results, Try.results23, go_sem, z0, z1]) rfl ?_
    rw [unhide HV]
    exact ⟨[_, _], rfl, own_intRC (wf_of_bd (unhide HC)) (by decide), unhide HB2⟩
end Go.Proofs.Ytapfgdpfincfiaa

namespace Go.Proofs.Ytapfgdpfincfiaa
open Go.RowKit

theorem lawPrevIn (cs : List Value) (x : DChain) (id : Int) (w : World) (h : Lay.tChain.Reads w cs x) :
    Calls Try.prog 6 #[.agg cs.toArray, .int .i64 id] w fun e w' => e = .returned (.bool true) ∧ Below w.heap.size w w' := by
  by_cases hn : Lay.tChain.sz x ≤ 1048576
  · refine lawx_PrevIn cs x id (besideR x id (-1)) w h hn (fun W a ha => (specPrevIn a x id W ha).mono fun e w' q => ?_) (fun W a ha => implPrevIn a x id W ha)
    obtain ⟨cs, q1, q2, q3⟩ := q
    exact ⟨cs, q1, q2.reads, q3⟩
  · exact lawover_PrevIn cs x id w h (by omega)

end Go.Proofs.Ytapfgdpfincfiaa

namespace Go.Proofs.Ytapfgdpfincfiaa
open Go.RowKit Go.ChangeShapes Go.WideShapes

/-- Whatever reads as data of the type t lies as A says. -/
def Opens {α : Type} (A : Lay α) (t : TypeId) : Prop :=
  ∀ {H : Type} (enc : TypeId × Value → H) (W : World) (base : Nat) (spare : Nat → Bool) (held : Bool) (fuel : Nat) (cs : List Value) (x : DataW H × List MemPlace), DataW.trod enc Try.prog W base spare held fuel t cs = some x → ∃ y, A.Reads W cs y

theorem reads_pair {α β : Type} {A : Lay α} {B : Lay β} {W : World} {c1 c2 : List Value} {x : α} {y : β} (h : A.Reads W c1 x) (k : B.Reads W c2 y) : (Lay.pair A B).Reads W (c1 ++ c2) (x, y) := by
  obtain ⟨b1, h⟩ := h
  obtain ⟨b2, k⟩ := k
  exact ⟨b1 ++ b2, c1, c2, b1, b2, rfl, rfl, h, k⟩

theorem opens_int {t : TypeId} (ht : Try.prog.underlying t = some (.int .i64)) : Opens Lay.int t := by
  intro H enc W base spare held fuel cs x h
  obtain ⟨n, rfl, -, hw⟩ := DataW.trod_int ht h
  exact ⟨n, [], rfl, hw, rfl⟩
theorem opens_bool {t : TypeId} (ht : Try.prog.underlying t = some .bool) : Opens Lay.bool t := by
  intro H enc W base spare held fuel cs x h
  obtain ⟨b, rfl, -⟩ := DataW.trod_bool ht h
  exact ⟨b, [], rfl, rfl⟩
theorem opens_str {t : TypeId} (ht : Try.prog.underlying t = some .string) : Opens Lay.str t := by
  intro H enc W base spare held fuel cs x h
  obtain ⟨s, rfl, -, -⟩ := DataW.trod_string ht h
  exact ⟨s, [], rfl, rfl⟩

theorem opens_sl {α : Type} {A : Lay α} {t e : TypeId} (ht : Try.prog.underlying t = some (.slice e)) (hn : Try.prog.cellsOf e = A.n) (h0 : 0 < A.n) (h : Opens A e) : Opens (Lay.sl A) t := by
  intro H enc W base spare held fuel cs x hx
  rcases Go.Deep.open_slice ht hx with ⟨rfl, -⟩ | ⟨a, len, cap, m, n, D, Pl, rfl, hb, hl, hm, hmm, -, hel⟩
  · exact ⟨[], [], none, 0, rfl, ⟨Nat.le_refl _, by simp⟩, Or.inl ⟨rfl, rfl⟩⟩
  · have hlm : len ≤ m := by rw [hmm]; split <;> omega
    rw [hn] at hel
    have each : ∀ i, i < len → ∃ q : List Value × α, (∀ j, j < A.n → W.cell? (a.add (i * A.n + j)) = q.1[j]?) ∧ q.1.length = A.n ∧ A.Reads W q.1 q.2 := by
      intro i hi
      obtain ⟨cs', h1, h2⟩ := hel i (by omega)
      obtain ⟨-, hlen, hc⟩ := World.cells?_some h1
      obtain ⟨y, hy⟩ := h enc W base spare held n cs' _ h2
      refine ⟨(cs', y), fun j hj => ?_, hlen, hy⟩
      have := hc j hj
      rw [Addr.add_add] at this
      exact this
    by_cases hp : 0 < len
    · obtain ⟨b, off, spot⟩ := a
      obtain ⟨q0, c0, l0, -⟩ := each 0 hp
      have hc0 := c0 0 h0
      have hs0 : ∃ v, W.cell? ((⟨b, off, spot⟩ : Addr).add (0 * A.n + 0)) = some v := ⟨_, hc0.trans (List.getElem?_eq_getElem (by omega))⟩
      obtain ⟨v0, hv0⟩ := hs0
      have hspot : spot = none := by simpa [Addr.add] using World.cell?_spot hv0
      subst hspot
      have hbl : b < W.heap.size := by
        have := World.block_lt_of_cell? _ _ hv0
        simpa [Addr.add] using this
      have pick : ∃ f : (i : Nat) → i < len → List Value × α, ∀ i (hi : i < len), (∀ j, j < A.n → W.cell? ((⟨b, off, none⟩ : Addr).add (i * A.n + j)) = (f i hi).1[j]?) ∧ (f i hi).1.length = A.n ∧ A.Reads W (f i hi).1 (f i hi).2 :=
        ⟨fun i hi => Classical.choose (each i hi), fun i hi => Classical.choose_spec (each i hi)⟩
      obtain ⟨f, hf⟩ := pick
      have pick2 : ∃ g : (i : Nat) → i < len → List Nat, ∀ i (hi : i < len), A.lies W (f i hi).1 (f i hi).2 (g i hi) :=
        ⟨fun i hi => Classical.choose (hf i hi).2.2, fun i hi => Classical.choose_spec (hf i hi).2.2⟩
      obtain ⟨g, hg⟩ := pick2
      refine ⟨(List.finRange len).map (fun i => (f i.1 i.2).2), b :: ((List.finRange len).map (fun i => g i.1 i.2)).flatten, some ⟨b, off, none⟩, cap, by simp, ⟨by simpa using hl, by simp; unfold maxLen at hm; omega⟩, Or.inr ⟨b, off, (List.finRange len).map (fun i => (f i.1 i.2).1), (List.finRange len).map (fun i => g i.1 i.2), rfl, hbl, rfl, by simp, by simp, fun j h1 h2 h3 => ?_⟩⟩
      have hj : j < len := by simpa using h1
      refine ⟨fun k hk => ?_, ?_⟩
      · have := (hf j hj).1 k hk
        rw [Addr.add_lit] at this
        simpa [Nat.add_assoc] using this
      · simpa using hg j hj
    · obtain rfl : len = 0 := by omega
      exact ⟨[], [], some a, cap, rfl, ⟨hl, by simp⟩, Or.inl ⟨rfl, rfl⟩⟩

theorem open_arg {α : Type} {A : Lay α} {t : TypeId} (O : Opens A t) {H : Type} {enc : TypeId × Value → H} {W : World} {base : Nat} {spare : Nat → Bool} {held : Bool} {a : Option Addr} {len cap : Nat} {d : DataW H} {p : List MemPlace}
    (h : DataW.Trod enc Try.prog W base spare held t (.slice a len cap) d p) : ∃ y, A.Reads W [.slice a len cap] y := by
  obtain ⟨fuel, hf⟩ := h
  exact O enc W base spare held fuel _ _ (by simpa [Value.cells] using hf)
theorem open_arg_st {α : Type} {A : Lay α} {t : TypeId} (O : Opens A t) {H : Type} {enc : TypeId × Value → H} {W : World} {base : Nat} {spare : Nat → Bool} {held : Bool} {cs : Array Value} {d : DataW H} {p : List MemPlace}
    (h : DataW.Trod enc Try.prog W base spare held t (.agg cs) d p) : ∃ y, A.Reads W cs.toList y := by
  obtain ⟨fuel, hf⟩ := h
  exact O enc W base spare held fuel _ _ (by simpa [Value.cells] using hf)

end Go.Proofs.Ytapfgdpfincfiaa

namespace Go.Proofs.Ytapfgdpfincfiaa
open Go.RowKit

set_option maxRecDepth 10000 in
theorem opens_Chain : Opens Lay.tChain 24 := by
  intro H enc W base spare held fuel cs x h
  obtain ⟨xs, n, _, _, hlen, hl, hfi⟩ := DataW.trod_struct Try.underlying24 h
  rw [show Try.prog.cellsOf 24 = 2 by kernel_rfl] at hlen
  match cs, hlen with
  | [c0, c1], _ =>
  match xs, hl with
  | [y0, y1], _ =>
  have z0 : Try.prog.cellsOf 2 = 1 := by kernel_rfl
  have z1 : Try.prog.cellsOf 22 = 1 := by kernel_rfl
  have f0 : DataW.trod enc Try.prog W base spare held n 2 (([c0, c1].drop 0).take (Try.prog.cellsOf 2)) = some y0 := hfi 0 _ rfl
  rw [z0] at f0
  obtain ⟨d0, r0⟩ := (opens_int Try.underlying2) enc W base spare held n _ _ f0
  have f1 : DataW.trod enc Try.prog W base spare held n 22 (([c0, c1].drop 1).take (Try.prog.cellsOf 22)) = some y1 := hfi 1 _ rfl
  rw [z1] at f1
  obtain ⟨d1, r1⟩ := (opens_sl Try.underlying22 (by kernel_rfl) (by decide) (opens_int Try.underlying2)) enc W base spare held n _ _ f1
  exact ⟨⟨d0, d1⟩, (reads_pair r0 r1)⟩

end Go.Proofs.Ytapfgdpfincfiaa
