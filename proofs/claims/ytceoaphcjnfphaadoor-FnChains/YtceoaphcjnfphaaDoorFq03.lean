/-
  The law FnChains answers true at every slice of bytes, and writes nothing that was there.
  Condition: the contracts of the program's functions, and what they ask of the world.
-/
import Derived.Test.YtceoaphcjnfphaaDoorFq02
import Derived.Deep.RegionHeld3
import Derived.Deep.CutRange

namespace Go.Proofs.YtceoaphcjnfphaaDoor
open Go.RowKit

/-- The contracts of the program's chains. -/
structure ImplC (Q : World → Prop) : Prop where
  later : ∀ w w', Q w → Below w.heap.size w w' → Q w'
  fault : ∀ cs x w, Lay.tChain.Reads w cs x → Calls Tryd.prog 9 #[.agg cs.toArray] w fun e w' => e = .returned (.int .i64 (chainFault x)) ∧ Below w.heap.size w w'
  next : ∀ cs x (id : Int) w, Lay.tChain.Reads w cs x → Calls Tryd.prog 12 #[.agg cs.toArray, .int .i64 id] w fun e w' => ∃ cs, e = .returned (.agg cs.toArray) ∧ Lay.tIntResult.OwnIn w' cs (besideR x id 1) w.heap.size w'.heap.size ∧ Below w.heap.size w w'
  prev : ∀ cs x (id : Int) w, Lay.tChain.Reads w cs x → Calls Tryd.prog 13 #[.agg cs.toArray, .int .i64 id] w fun e w' => ∃ cs, e = .returned (.agg cs.toArray) ∧ Lay.tIntResult.OwnIn w' cs (besideR x id (-1)) w.heap.size w'.heap.size ∧ Below w.heap.size w w'
  cut : ∀ cs x (id : Int) w, Lay.tChain.Reads w cs x → Calls Tryd.prog 7 #[.agg cs.toArray, .int .i64 id] w fun e w' => ∃ cs, e = .returned (.agg cs.toArray) ∧ Lay.tChainResult.OwnIn w' cs (cutR x id) w.heap.size w'.heap.size ∧ Below w.heap.size w w'
  join : ∀ cs x (id : Int) w, Lay.tChain.Reads w cs x → Calls Tryd.prog 11 #[.agg cs.toArray, .int .i64 id] w fun e w' => ∃ cs, e = .returned (.agg cs.toArray) ∧ Lay.tChainResult.OwnIn w' cs (joinR x id) w.heap.size w'.heap.size ∧ Below w.heap.size w w'
  text : ∀ cs x w, Q w → Lay.tChain.Reads w cs x → Calls Tryd.prog 14 #[.agg cs.toArray] w fun e w' => ∃ cs, e = .returned (.agg cs.toArray) ∧ Lay.tTextResult.OwnIn w' cs (textR x) w.heap.size w'.heap.size ∧ Below w.heap.size w w'
theorem fieldCC0 (c e : Int) (a : Option Addr) (n cp : Nat) (w : World) : (Instr.field 30 (.agg #[.int .i64 c, .int .i64 e, .slice a n cp]) 0).run Tryd.prog w = .ok (.int .i64 c) w := by kernel_rfl
theorem fieldCI0 (c n : Int) (w : World) : (Instr.field 34 (.agg #[.int .i64 c, .int .i64 n]) 0).run Tryd.prog w = .ok (.int .i64 c) w := by kernel_rfl
theorem fieldCI1 (c n : Int) (w : World) : (Instr.field 34 (.agg #[.int .i64 c, .int .i64 n]) 1).run Tryd.prog w = .ok (.int .i64 n) w := by kernel_rfl
theorem fieldCT1 (c : Int) (s : ByteArray) (w : World) : (Instr.field 37 (.agg #[.int .i64 c, .string s]) 1).run Tryd.prog w = .ok (.string s) w := by kernel_rfl
theorem ba_refl (t : ByteArray) : (t == t) = true := by
  first | exact beq_self_eq_true t | (cases t with | mk d => exact beq_self_eq_true d)
theorem int_parts {w : World} {cs : List Value} {y : DIntResult} {lo hi : Nat} (h : Lay.tIntResult.OwnIn w cs y lo hi) : cs = [.int .i64 y.code, .int .i64 y.value] := by
  obtain ⟨bl, l⟩ := h.reads
  exact (lies_IntResult.1 l).1
theorem text_parts {w : World} {cs : List Value} {y : DTextResult} {lo hi : Nat} (h : Lay.tTextResult.OwnIn w cs y lo hi) : cs = [.int .i64 y.code, .string y.text] := by
  obtain ⟨bl, l⟩ := h.reads
  exact (lies_TextResult.1 l).1

set_option maxRecDepth 10000 in
theorem lawChains_many (ao : Option Addr) (len cap : Nat) (w : World) (hn : 1048576 < len) :
    Calls Tryd.prog 3 #[.slice ao len cap] w fun e w' => e = .returned (.bool true) ∧ Below w.heap.size w w' := by
  go_enter Tryd.func3, Tryd.ntmps3
  go_wp2_with fail
  refine (big_yes ao len cap w hn).mono ?_
  rintro e w' ⟨rfl, rfl⟩
  go_wp2_with fail
  go_ret
  exact ⟨rfl, Below.refl _ _⟩

set_option maxRecDepth 100000 in
set_option maxHeartbeats 8000000 in
theorem lawChains_few {Q : World → Prop} (I : ImplC Q) (ao : Option Addr) (len cap : Nat) (w : World) (hn : len ≤ 1048576) (hcode : IsCode w.heap.size w (.slice ao len cap)) (hQ : Q w) :
    Calls Tryd.prog 3 #[.slice ao len cap] w fun e w' => e = .returned (.bool true) ∧ Below w.heap.size w w' := by
  have HC := hide hcode
  have HQ := hide hQ
  have HII := hide I
  clear hcode hQ I
  go_enter Tryd.func3, Tryd.ntmps3
  go_wp2_with fail
  refine (big_no ao len cap w hn).mono ?_
  rintro e w ⟨rfl, rfl⟩
  go_wp2_with fail
  refine (drawCut10 ao len cap w (unhide HC)).mono ?_
  rintro e w1 ⟨cs, x, id, rfl, hXL, hlen, hep, hid, hb1⟩
  have hX := hXL.reads
  obtain ⟨a8, c8, rfl, hW⟩ := open_Chain hX
  have nb1 : Below w1.heap.size w1 (w1.alloc (.cells #[.int .i64 x.epoch, .slice a8 x.ids.length c8] 26)) := (Below.refl _ _).alloc (Nat.le_refl _) _
  have HX3 : Hid (Box 0 #[.int .i64 x.epoch, .slice a8 x.ids.length c8] 26 (w1.alloc (.cells #[.int .i64 x.epoch, .slice a8 x.ids.length c8] 26)) w1.heap.size) := newBox (Nat.zero_le _)
  have z0 : (w1.alloc (.cells #[.int .i64 x.epoch, .slice a8 x.ids.length c8] 26)).cell? ⟨w1.heap.size, 0, none⟩ = some (.int .i64 x.epoch) := (unhide HX3).at 0 _ rfl
  have z1 : (w1.alloc (.cells #[.int .i64 x.epoch, .slice a8 x.ids.length c8] 26)).cell? ⟨w1.heap.size, 1, none⟩ = some (.slice a8 x.ids.length c8) := (unhide HX3).at 1 _ rfl
  have HRX := hide (hX.later nb1)
  have HRI := hide (hW.later nb1)
  have HB := hide (hb1.trans (nb1.mono hb1.size))
  replace HQ := hide ((unhide HII).later _ _ (unhide HQ) (unhide HB))
  have L2 := hide ((unhide HII).cut _ x id _ (unhide HRX))
  clear hX hW hXL hb1 nb1 HC
  go_wp2_with fail
  generalize w1.alloc (.cells #[.int .i64 x.epoch, .slice a8 x.ids.length c8] 26) = W1 at *
  clear z0 z1
  refine (unhide L2).mono ?_
  rintro e w2 ⟨cs, rfl, O, hb2⟩
  obtain ⟨a2, d2, rfl, R2⟩ := open_ChainResult O.reads
  clear O L2
  by_cases hf : (cutR x id).code = 0
  · obtain ⟨y, K⟩ := chains_plain hf
    rw [K.cut] at R2 ⊢
    replace R2 : Lay.tChain.Reads w2 [.int .i64 y.epoch, .slice a2 y.ids.length d2] y := R2
    simp only at ⊢
    have hxl := K.xok.len
    have hyl := K.len
    have HK := hide K
    clear K hf
    have nb2 : Below w2.heap.size w2 (w2.alloc (.cells #[.int .i64 0, .int .i64 y.epoch, .slice a2 y.ids.length d2] 30)) := (Below.refl _ _).alloc (Nat.le_refl _) _
    have HB2 : Hid (Box 0 #[.int .i64 0, .int .i64 y.epoch, .slice a2 y.ids.length d2] 30 (w2.alloc (.cells #[.int .i64 0, .int .i64 y.epoch, .slice a2 y.ids.length d2] 30)) w2.heap.size) := newBox (Nat.zero_le _)
    replace HX3 := hide (((unhide HX3).keep hb2).keep nb2)
    replace HRX := hide (((unhide HRX).later hb2).later nb2)
    replace HRI := hide (((unhide HRI).later hb2).later nb2)
    have HR2 := hide (R2.later nb2)
    replace HB := hide (((unhide HB).trans (hb2.mono (unhide HB).size)).trans (nb2.mono (Nat.le_trans (unhide HB).size hb2.size)))
    replace HQ := hide ((unhide HII).later _ _ ((unhide HII).later _ _ (unhide HQ) hb2) nb2)
    have z0 : (w2.alloc (.cells #[.int .i64 0, .int .i64 y.epoch, .slice a2 y.ids.length d2] 30)).cell? ⟨w2.heap.size, 0, none⟩ = some (.int .i64 0) := (unhide HB2).at 0 _ rfl
    have z1 : (w2.alloc (.cells #[.int .i64 0, .int .i64 y.epoch, .slice a2 y.ids.length d2] 30)).cell? ⟨w2.heap.size, 1, none⟩ = some (.int .i64 y.epoch) := (unhide HB2).at 1 _ rfl
    have z2 : (w2.alloc (.cells #[.int .i64 0, .int .i64 y.epoch, .slice a2 y.ids.length d2] 30)).cell? ⟨w2.heap.size, 2, none⟩ = some (.slice a2 y.ids.length d2) := (unhide HB2).at 2 _ rfl
    have L3 := hide ((unhide HII).join _ y id _ (unhide HR2))
    clear R2 nb2 hb2
    go_wp2_with fail
    generalize w2.alloc (.cells #[.int .i64 0, .int .i64 y.epoch, .slice a2 y.ids.length d2] 30) = W2 at *
    clear z0 z1 z2
    refine (unhide L3).mono ?_
    rintro e w3 ⟨cs, rfl, O, hb3⟩
    obtain ⟨a3, d3, rfl, R3⟩ := open_ChainResult O.reads
    clear O L3
    have HJ : Hid (joinR y id = badChain 2 ∨ joinR y id = ⟨0, ⟨y.epoch + 1, y.ids ++ [id]⟩⟩) := (unhide HK).join
    obtain ⟨jr, hjr⟩ : ∃ jr, joinR y id = jr := ⟨_, rfl⟩
    rw [hjr] at R3 HJ ⊢
    obtain ⟨jc, jx⟩ := jr
    replace R3 : Lay.tChain.Reads w3 [.int .i64 jx.epoch, .slice a3 jx.ids.length d3] jx := R3
    simp only at ⊢
    clear hjr
    have nb3 : Below w3.heap.size w3 (w3.alloc (.cells #[.int .i64 jc, .int .i64 jx.epoch, .slice a3 jx.ids.length d3] 30)) := (Below.refl _ _).alloc (Nat.le_refl _) _
    have HB3 : Hid (Box 0 #[.int .i64 jc, .int .i64 jx.epoch, .slice a3 jx.ids.length d3] 30 (w3.alloc (.cells #[.int .i64 jc, .int .i64 jx.epoch, .slice a3 jx.ids.length d3] 30)) w3.heap.size) := newBox (Nat.zero_le _)
    replace HX3 := hide (((unhide HX3).keep hb3).keep nb3)
    replace HB2 := hide (((unhide HB2).keep hb3).keep nb3)
    replace HRX := hide (((unhide HRX).later hb3).later nb3)
    replace HRI := hide (((unhide HRI).later hb3).later nb3)
    replace HR2 := hide (((unhide HR2).later hb3).later nb3)
    have HR3 := hide (R3.later nb3)
    replace HB := hide (((unhide HB).trans (hb3.mono (unhide HB).size)).trans (nb3.mono (Nat.le_trans (unhide HB).size hb3.size)))
    replace HQ := hide ((unhide HII).later _ _ ((unhide HII).later _ _ (unhide HQ) hb3) nb3)
    clear R3 nb3 hb3
    go_wp2_with fail
    generalize w3.alloc (.cells #[.int .i64 jc, .int .i64 jx.epoch, .slice a3 jx.ids.length d3] 30) = wz at *
    have KEEP : Hid (∀ W, Below wz.heap.size wz W → W.cell? ⟨w1.heap.size, 0, none⟩ = some (.int .i64 x.epoch) ∧ W.cell? ⟨w1.heap.size, 1, none⟩ = some (.slice a8 x.ids.length c8) ∧ W.cell? ⟨w2.heap.size, 0, none⟩ = some (.int .i64 0) ∧ W.cell? ⟨w2.heap.size, 1, none⟩ = some (.int .i64 y.epoch) ∧ W.cell? ⟨w2.heap.size, 2, none⟩ = some (.slice a2 y.ids.length d2) ∧ W.cell? ⟨w3.heap.size, 0, none⟩ = some (.int .i64 jc) ∧ W.cell? ⟨w3.heap.size, 1, none⟩ = some (.int .i64 jx.epoch) ∧ W.cell? ⟨w3.heap.size, 2, none⟩ = some (.slice a3 jx.ids.length d3)) := fun W hW =>
      ⟨((unhide HX3).keep hW).at 0 _ rfl, ((unhide HX3).keep hW).at 1 _ rfl, ((unhide HB2).keep hW).at 0 _ rfl, ((unhide HB2).keep hW).at 1 _ rfl, ((unhide HB2).keep hW).at 2 _ rfl, ((unhide HB3).keep hW).at 0 _ rfl, ((unhide HB3).keep hW).at 1 _ rfl, ((unhide HB3).keep hW).at 2 _ rfl⟩
    have HXL : Hid (w1.heap.size < wz.heap.size) := (unhide HX3).lt
    go_loopw [7] (fun v7 wr => ∃ i : Nat, i ≤ x.ids.length ∧ v7 = .int .i64 i ∧ Below wz.heap.size wz wr) (fun v7 _ => x.ids.length - (intOf v7).toNat)
    case atStart => exact ⟨0, Nat.zero_le _, rfl, Below.refl _ _⟩
    case round =>
    obtain ⟨i, hi, rfl, hBr⟩ := hrel
    by_cases hlt : i < x.ids.length
    · have HBR := hide hBr
      have hdl : decide ((i : Int) < (x.ids.length : Int)) = true := by simp; omega
      obtain ⟨b, off, rfl, hbl⟩ := Lay.sl_addr (unhide HRI) (by omega)
      have HZC : Hid (∀ W, Below wz.heap.size wz W → W.cell? ⟨b, off + i, none⟩ = some (.int .i64 x.ids[i])) := fun W hW => int_cell ((unhide HRI).later hW) hlt
      obtain ⟨-, yx1, -, -, -, -, -, -⟩ := unhide KEEP _ hBr
      have HLN : Hid (∀ W, Below wz.heap.size wz W → Calls Tryd.prog 12 #[.agg #[.int .i64 x.epoch, .slice (some ⟨b, off, none⟩) x.ids.length c8], .int .i64 x.ids[i]] W fun e w' => e = .returned (.agg #[.int .i64 (besideR x x.ids[i] 1).code, .int .i64 (besideR x x.ids[i] 1).value]) ∧ Below W.heap.size W w') := fun W hW => by
        refine ((unhide HII).next _ x x.ids[i] W ((unhide HRX).later hW)).mono ?_
        rintro e w' ⟨cs, rfl, O, hb⟩
        obtain rfl := int_parts O
        exact ⟨rfl, hb⟩
      have HMORE : Hid (∀ h : i + 1 < x.ids.length, besideR x x.ids[i] 1 = ⟨0, x.ids[i + 1]⟩ ∧ besideR x x.ids[i + 1] (-1) = ⟨0, x.ids[i]⟩) := fun h => ⟨beside_more (unhide HK).xok h, beside_prev (unhide HK).xok h⟩
      have HLAST : Hid (i + 1 = x.ids.length → besideR x x.ids[i] 1 = ⟨8, 0⟩) := fun h => beside_last (unhide HK).xok hlt h
      clear hBr
      go_upto_region 11 with fail
      clear yx1
      obtain ⟨wo, hwo⟩ : ∃ wo, wo = wr := ⟨_, rfl⟩
      subst hwo
      obtain ⟨z, hzz⟩ : ∃ z, z = x.ids[i] := ⟨_, rfl⟩
      rw [← hzz] at HZC HLN HMORE HLAST
      have HZZ := hide hzz
      clear hzz
      obtain ⟨nr, hnr⟩ : ∃ nr, nr = besideR x z 1 := ⟨_, rfl⟩
      rw [← hnr] at HLN HMORE HLAST
      clear hnr
      obtain ⟨nc, nv⟩ := nr
      simp only at HLN
      go_cut [8] from 48 to 54 (fun s8 wx => ∃ B, s8 = .pointer (some ⟨B, 0, none⟩) ∧ Box 0 #[.int .i64 nc, .int .i64 nv] 34 wx B ∧ Below wz.heap.size wz wx)
      case first =>
        refine wp_region_noPanic ?_
        refine wp_region_held_drew (S := fun w' => Below wz.heap.size wz w') (by kernel_rfl) (unhide HBR).drew (fun hHeld => ?_)
        generalize wo.drew = wD at hHeld ⊢
        refine wpAnyH_take (i := 0) (oi := { dst := some 48, op := Go.Op.load 26 (Go.Operand.tmp 3), type := 26, pos := "laws.go:441", after := #[], guard := none }) (v := ?vn0_1) rfl (by kernel_rfl) (by kernel_rfl) (by kernel_rfl) (fun _ _ _ h => h) (Or.inl ⟨by rfl, ?hn0_1⟩) hHeld ?rn0_1
        case hn0_1 =>
          intro wS hSw
          obtain ⟨yx0, yx1, -, -, -, -, -, -⟩ := unhide KEEP _ hSw
          clear hSw
          (try dsimp only at hSw)
          go_simp
          try with_reducible rfl
        case rn0_1 =>
        simp only [Act.put, List.setIfInBounds_toArray, List.set_cons_zero, List.set_cons_succ]
        refine wpAnyH_take (i := 1) (oi := { dst := some 49, op := Go.Op.fieldAddr 26 (Go.Operand.tmp 3) 1, type := 0, pos := "laws.go:441", after := #[], guard := none }) (v := ?vn1_2) rfl (by kernel_rfl) (by kernel_rfl) (by kernel_rfl) (fun _ _ _ h => h) (Or.inl ⟨by rfl, ?hn1_2⟩) hHeld ?rn1_2
        case hn1_2 =>
          intro wS hSw
          (try dsimp only at hSw)
          go_simp
          try with_reducible rfl
        case rn1_2 =>
        simp only [Act.put, List.setIfInBounds_toArray, List.set_cons_zero, List.set_cons_succ]
        refine wpAnyH_take (i := 2) (oi := { dst := some 50, op := Go.Op.load 24 (Go.Operand.tmp 49), type := 24, pos := "laws.go:441", after := #[{ on := 1, ground := Go.Ground.data }], guard := none }) (v := ?vn2_3) rfl (by kernel_rfl) (by kernel_rfl) (by kernel_rfl) (fun _ _ _ h => h) (Or.inl ⟨by rfl, ?hn2_3⟩) hHeld ?rn2_3
        case hn2_3 =>
          intro wS hSw
          obtain ⟨yx0, yx1, -, -, -, -, -, -⟩ := unhide KEEP _ hSw
          clear hSw
          (try dsimp only at hSw)
          go_simp
          try with_reducible rfl
        case rn2_3 =>
        simp only [Act.put, List.setIfInBounds_toArray, List.set_cons_zero, List.set_cons_succ]
        refine wpAnyH_take (i := 3) (oi := { dst := some 51, op := Go.Op.move (Go.Operand.tmp 7), type := 3, pos := "laws.go:441", after := #[], guard := none }) (v := ?vn3_4) rfl (by kernel_rfl) (by kernel_rfl) (by kernel_rfl) (fun _ _ _ h => h) (Or.inl ⟨by rfl, ?hn3_4⟩) hHeld ?rn3_4
        case hn3_4 =>
          intro wS hSw
          (try dsimp only at hSw)
          go_simp
          try with_reducible rfl
        case rn3_4 =>
        simp only [Act.put, List.setIfInBounds_toArray, List.set_cons_zero, List.set_cons_succ]
        refine wpAnyH_take (i := 4) (oi := { dst := some 52, op := Go.Op.indexAddr 24 (Go.Operand.tmp 50) (Go.Operand.tmp 51), type := 0, pos := "laws.go:441", after := #[{ on := 2, ground := Go.Ground.data }, { on := 3, ground := Go.Ground.data }], guard := none }) (v := ?vn4_5) rfl (by kernel_rfl) (by kernel_rfl) (by kernel_rfl) (fun _ _ _ h => h) (Or.inl ⟨by rfl, ?hn4_5⟩) hHeld ?rn4_5
        case hn4_5 =>
          intro wS hSw
          clear hSw
          have q1 : (i : Int) < (x.ids.length : Int) := by omega
          have q2 : (0 : Int) ≤ (i : Int) := by omega
          (try dsimp only at hSw)
          go_simp
          try with_reducible rfl
        case rn4_5 =>
        simp only [Act.put, List.setIfInBounds_toArray, List.set_cons_zero, List.set_cons_succ]
        refine wpAnyH_take (i := 5) (oi := { dst := some 53, op := Go.Op.load 2 (Go.Operand.tmp 52), type := 2, pos := "laws.go:441", after := #[{ on := 4, ground := Go.Ground.data }], guard := none }) (v := ?vn5_6) rfl (by kernel_rfl) (by kernel_rfl) (by kernel_rfl) (fun _ _ _ h => h) (Or.inl ⟨by rfl, ?hn5_6⟩) hHeld ?rn5_6
        case hn5_6 =>
          intro wS hSw
          have zc := unhide HZC _ hSw
          clear hSw
          (try dsimp only at hSw)
          go_simp
          try with_reducible rfl
        case rn5_6 =>
        simp only [Act.put, List.setIfInBounds_toArray, List.set_cons_zero, List.set_cons_succ]
        refine wpAnyH_ready (rs := [6, 7]) (by kernel_rfl) (by simp) ?_
        refine AllReadyH.cons (o := { dst := some 54, op := Go.Op.call { callee := Go.Callee.value (Go.Operand.func 12), args := #[Go.Operand.tmp 48, Go.Operand.tmp 53], argTypes := #[26, 2] }, type := 34, pos := "laws.go:441", after := #[{ on := 0, ground := Go.Ground.data }, { on := 5, ground := Go.Ground.data }], guard := none }) rfl (fun K hK => ?on6_7) (AllReadyH.cons (o := { dst := some 8, op := Go.Op.alloc 34, type := 0, pos := "laws.go:441", after := #[], guard := none }) rfl (fun K hK => ?on7_7) (AllReadyH.nil))
        case on6_7 =>
          go_simp
          go_at_call 12
          refine (unhide HLN _ hHeld).mono ?_
          rintro e u6 ⟨rfl, hbw⟩
          have hS6 := hHeld.trans (hbw.mono hHeld.size)
          try go_wp2_with fail
          refine hK.out _ _ hS6 (fun hHeld => ?_)
          clear hK K
          try simp only [Act.put, List.setIfInBounds_toArray, List.set_cons_zero, List.set_cons_succ]
          refine wpAnyH_ready (rs := [7]) (by kernel_rfl) (by simp) ?_
          refine AllReadyH.cons (o := { dst := some 8, op := Go.Op.alloc 34, type := 0, pos := "laws.go:441", after := #[], guard := none }) rfl (fun K hK => ?_) AllReadyH.nil
          have nb7 : Below (u6).heap.size (u6) ((u6).alloc (.cells #[.int .i64 0, .int .i64 0] 34)) := (Below.refl _ _).alloc (Nat.le_refl _) _
          have b7 : Box 0 #[.int .i64 0, .int .i64 0] 34 ((u6).alloc (.cells #[.int .i64 0, .int .i64 0] 34)) (u6).heap.size := newBox (Nat.zero_le _)
          have hl7 : wz.heap.size ≤ (u6).heap.size := hHeld.size
          have hS7 := hHeld.trans (nb7.mono hHeld.size)
          go_simp
          try go_wp2_with fail
          refine hK.out _ _ hS7 (fun hHeld => ?_)
          clear hK K
          try simp only [Act.put, List.setIfInBounds_toArray, List.set_cons_zero, List.set_cons_succ]
          refine wpAnyH_ready (rs := [8]) (by kernel_rfl) (by simp) ?_
          refine AllReadyH.cons (o := { dst := none, op := Go.Op.store 34 (Go.Operand.tmp 8) (Go.Operand.tmp 54), type := 0, pos := "laws.go:441", after := #[{ on := 7, ground := Go.Ground.data }, { on := 6, ground := Go.Ground.data }, { on := 6, ground := Go.Ground.chain }, { on := 0, ground := Go.Ground.phase }, { on := 1, ground := Go.Ground.phase }, { on := 2, ground := Go.Ground.phase }, { on := 3, ground := Go.Ground.phase }, { on := 4, ground := Go.Ground.phase }, { on := 5, ground := Go.Ground.phase }, { on := 6, ground := Go.Ground.phase }, { on := 7, ground := Go.Ground.phase }], guard := none }) rfl (fun K hK => ?_) AllReadyH.nil
          have z0 := Box.at b7 0 _ rfl
          have z1 := Box.at b7 1 _ rfl
          simp only [List.getElem_toArray, List.getElem_cons_zero, List.getElem_cons_succ] at z0 z1
          have zf := Box.soft b7
          have zl := Box.lt b7
          have HX9 : Hid (Box 0 #[.int .i64 nc, .int .i64 nv] 34 (u6.alloc (.cells #[.int .i64 nc, .int .i64 nv] 34)) u6.heap.size) := newBox (Nat.zero_le _)
          have hS8 := hS6.trans (((Below.refl u6.heap.size u6).alloc (Nat.le_refl _) (.cells #[.int .i64 nc, .int .i64 nv] 34)).mono hS6.size)
          go_simp
          try go_wp2_with fail
          refine hK.out _ _ hS8 (fun hHeld => ?_)
          clear hK K
          try simp only [Act.put, List.setIfInBounds_toArray, List.set_cons_zero, List.set_cons_succ]
          refine wpAnyH_done (by kernel_rfl) ?_ _
          refine NoPanic.normal ?_
          have HS9 := hide hHeld
          clear hHeld
          go_wp2_with fail
          go_meet
          exact ⟨_, rfl, unhide HX9, unhide HS9⟩
        case on7_7 =>
          have nb7 : Below (wD).heap.size (wD) ((wD).alloc (.cells #[.int .i64 0, .int .i64 0] 34)) := (Below.refl _ _).alloc (Nat.le_refl _) _
          have b7 : Box 0 #[.int .i64 0, .int .i64 0] 34 ((wD).alloc (.cells #[.int .i64 0, .int .i64 0] 34)) (wD).heap.size := newBox (Nat.zero_le _)
          have hl7 : wz.heap.size ≤ (wD).heap.size := hHeld.size
          have hS7 := hHeld.trans (nb7.mono hHeld.size)
          go_simp
          try go_wp2_with fail
          refine hK.out _ _ hS7 (fun hHeld => ?_)
          clear hK K
          try simp only [Act.put, List.setIfInBounds_toArray, List.set_cons_zero, List.set_cons_succ]
          refine wpAnyH_ready (rs := [6]) (by kernel_rfl) (by simp) ?_
          refine AllReadyH.cons (o := { dst := some 54, op := Go.Op.call { callee := Go.Callee.value (Go.Operand.func 12), args := #[Go.Operand.tmp 48, Go.Operand.tmp 53], argTypes := #[26, 2] }, type := 34, pos := "laws.go:441", after := #[{ on := 0, ground := Go.Ground.data }, { on := 5, ground := Go.Ground.data }], guard := none }) rfl (fun K hK => ?_) AllReadyH.nil
          go_simp
          go_at_call 12
          refine (unhide HLN _ hHeld).mono ?_
          rintro e u6 ⟨rfl, hbw⟩
          have hS6 := hHeld.trans (hbw.mono hHeld.size)
          replace b7 := b7.keep hbw
          try go_wp2_with fail
          refine hK.out _ _ hS6 (fun hHeld => ?_)
          clear hK K
          try simp only [Act.put, List.setIfInBounds_toArray, List.set_cons_zero, List.set_cons_succ]
          refine wpAnyH_ready (rs := [8]) (by kernel_rfl) (by simp) ?_
          refine AllReadyH.cons (o := { dst := none, op := Go.Op.store 34 (Go.Operand.tmp 8) (Go.Operand.tmp 54), type := 0, pos := "laws.go:441", after := #[{ on := 7, ground := Go.Ground.data }, { on := 6, ground := Go.Ground.data }, { on := 6, ground := Go.Ground.chain }, { on := 0, ground := Go.Ground.phase }, { on := 1, ground := Go.Ground.phase }, { on := 2, ground := Go.Ground.phase }, { on := 3, ground := Go.Ground.phase }, { on := 4, ground := Go.Ground.phase }, { on := 5, ground := Go.Ground.phase }, { on := 6, ground := Go.Ground.phase }, { on := 7, ground := Go.Ground.phase }], guard := none }) rfl (fun K hK => ?_) AllReadyH.nil
          have z0 := Box.at b7 0 _ rfl
          have z1 := Box.at b7 1 _ rfl
          simp only [List.getElem_toArray, List.getElem_cons_zero, List.getElem_cons_succ] at z0 z1
          have zf := Box.soft b7
          have zl := Box.lt b7
          have HX9 : Hid (Box 0 #[.int .i64 nc, .int .i64 nv] 34 ((u6.setCell ⟨(wD).heap.size, 0, none⟩ (.int .i64 nc)).setCell ⟨(wD).heap.size, 1, none⟩ (.int .i64 nv)) (wD).heap.size) := by
            have q := Box.set (Box.set b7 0 (.int .i64 nc)) 1 (.int .i64 nv)
            simp only [List.setIfInBounds_toArray, List.set_cons_zero, List.set_cons_succ] at q
            exact q
          have hS8 := (hS6.setCell (p := ⟨(wD).heap.size, 0, none⟩) hl7 (.int .i64 nc)).setCell (p := ⟨(wD).heap.size, 1, none⟩) hl7 (.int .i64 nv)
          go_simp
          try go_wp2_with fail
          refine hK.out _ _ hS8 (fun hHeld => ?_)
          clear hK K
          try simp only [Act.put, List.setIfInBounds_toArray, List.set_cons_zero, List.set_cons_succ]
          refine wpAnyH_done (by kernel_rfl) ?_ _
          refine NoPanic.normal ?_
          have HS9 := hide hHeld
          clear hHeld
          go_wp2_with fail
          go_meet
          exact ⟨_, rfl, unhide HX9, unhide HS9⟩
      case rest =>
        obtain ⟨B, rfl, hXB, hbx⟩ := hcut
        have HXB := hide hXB
        have HBX := hide hbx
        clear hXB hbx
        have hlast : IntKind.i64.wrap ((x.ids.length : Int) - 1) = (x.ids.length : Int) - 1 := by rw [IntKind.wrap_i64]; omega
        go_upto_region 12 with fail
        obtain ⟨wq, hwq⟩ : ∃ wq, wq = wc := ⟨_, rfl⟩
        subst hwq
        have HUP : Hid (∀ W, Below wq.heap.size wq W → Below wz.heap.size wz W) := fun W hW => (unhide HBX).trans (hW.mono (unhide HBX).size)
        have KEEPN : Hid (∀ W, Below wq.heap.size wq W → W.cell? ⟨B, 0, none⟩ = some (.int .i64 nc) ∧ W.cell? ⟨B, 1, none⟩ = some (.int .i64 nv)) := fun W hW => ⟨((unhide HXB).keep hW).at 0 _ rfl, ((unhide HXB).keep hW).at 1 _ rfl⟩
        by_cases hm : i + 1 < x.ids.length
        · obtain ⟨e1, e2⟩ := unhide HMORE hm
          simp only [DIntResult.mk.injEq] at e1
          obtain ⟨rfl, rfl⟩ := e1
          have LP : Hid (∀ W, Below wz.heap.size wz W → Calls Tryd.prog 13 #[.agg #[.int .i64 x.epoch, .slice (some ⟨b, off, none⟩) x.ids.length c8], .int .i64 x.ids[i + 1]] W fun e w' => e = .returned (.agg #[.int .i64 0, .int .i64 z]) ∧ Below W.heap.size W w') := fun W hW => by
            refine ((unhide HII).prev _ x x.ids[i + 1] W ((unhide HRX).later hW)).mono ?_
            rintro e w' ⟨cs, rfl, O, hb⟩
            obtain rfl := int_parts O
            rw [e2]
            exact ⟨rfl, hb⟩
          have hf1 := fun w => fieldCI1 0 z w
          have g0 : ((0 : Int) == 8) = false := by decide
          have g1 : ((i : Int) == (x.ids.length : Int) - 1) = false := by rw [beq_eq_false_iff_ne]; omega
          have g2 : ((0 : Int) == 0) = true := by decide
          have g3 : (z != z) = false := by simp
          have g4 : (false != false) = false := by decide
          clear e2 HMORE HLAST HLN
          generalize x.ids[i + 1] = zn at *
          refine wp_region_noPanic ?_
          refine wp_region_held_drew (S := fun w' => Below wq.heap.size wq w') (by kernel_rfl) (Below.refl _ _).drew (fun hHeld => ?_)
          generalize wq.drew = wD at hHeld ⊢
          refine wpAnyH_take (i := 0) (oi := { dst := some 55, op := Go.Op.fieldAddr 34 (Go.Operand.tmp 8) 0, type := 0, pos := "laws.go:442", after := #[], guard := none }) (v := ?vm0_1) rfl (by kernel_rfl) (by kernel_rfl) (by kernel_rfl) (fun _ _ _ h => h) (Or.inl ⟨by rfl, ?hm0_1⟩) hHeld ?rm0_1
          case hm0_1 =>
            intro wS hSw
            (try dsimp only at hSw)
            go_simp
            try with_reducible rfl
          case rm0_1 =>
          simp only [Act.put, List.setIfInBounds_toArray, List.set_cons_zero, List.set_cons_succ]
          refine wpAnyH_take (i := 1) (oi := { dst := some 56, op := Go.Op.load 2 (Go.Operand.tmp 55), type := 2, pos := "laws.go:442", after := #[{ on := 0, ground := Go.Ground.data }], guard := none }) (v := ?vm1_2) rfl (by kernel_rfl) (by kernel_rfl) (by kernel_rfl) (fun _ _ _ h => h) (Or.inl ⟨by rfl, ?hm1_2⟩) hHeld ?rm1_2
          case hm1_2 =>
            intro wS hSw
            obtain ⟨yx0, yx1, -, -, -, -, -, -⟩ := unhide KEEP _ (unhide HUP _ hSw)
            obtain ⟨n0, n1⟩ := unhide KEEPN _ hSw
            clear hSw
            (try dsimp only at hSw)
            go_simp
            try with_reducible rfl
          case rm1_2 =>
          simp only [Act.put, List.setIfInBounds_toArray, List.set_cons_zero, List.set_cons_succ]
          refine wpAnyH_take (i := 2) (oi := { dst := some 57, op := Go.Op.binOp Go.BinOp.eql 2 (Go.Operand.tmp 56) (Go.Operand.const (Go.Value.int Go.IntKind.i64 8)) 2, type := 4, pos := "laws.go:442", after := #[{ on := 1, ground := Go.Ground.data }], guard := none }) (v := ?vm2_3) rfl (by kernel_rfl) (by kernel_rfl) (by kernel_rfl) (fun _ _ _ h => h) (Or.inl ⟨by rfl, ?hm2_3⟩) hHeld ?rm2_3
          case hm2_3 =>
            intro wS hSw
            (try dsimp only at hSw)
            go_simp
            try with_reducible rfl
          case rm2_3 =>
          simp only [Act.put, List.setIfInBounds_toArray, List.set_cons_zero, List.set_cons_succ]
          refine wpAnyH_take (i := 3) (oi := { dst := some 58, op := Go.Op.move (Go.Operand.tmp 7), type := 3, pos := "laws.go:442", after := #[], guard := none }) (v := ?vm3_4) rfl (by kernel_rfl) (by kernel_rfl) (by kernel_rfl) (fun _ _ _ h => h) (Or.inl ⟨by rfl, ?hm3_4⟩) hHeld ?rm3_4
          case hm3_4 =>
            intro wS hSw
            (try dsimp only at hSw)
            go_simp
            try with_reducible rfl
          case rm3_4 =>
          simp only [Act.put, List.setIfInBounds_toArray, List.set_cons_zero, List.set_cons_succ]
          refine wpAnyH_take (i := 4) (oi := { dst := some 59, op := Go.Op.fieldAddr 26 (Go.Operand.tmp 3) 1, type := 0, pos := "laws.go:442", after := #[], guard := none }) (v := ?vm4_5) rfl (by kernel_rfl) (by kernel_rfl) (by kernel_rfl) (fun _ _ _ h => h) (Or.inl ⟨by rfl, ?hm4_5⟩) hHeld ?rm4_5
          case hm4_5 =>
            intro wS hSw
            (try dsimp only at hSw)
            go_simp
            try with_reducible rfl
          case rm4_5 =>
          simp only [Act.put, List.setIfInBounds_toArray, List.set_cons_zero, List.set_cons_succ]
          refine wpAnyH_take (i := 5) (oi := { dst := some 60, op := Go.Op.load 24 (Go.Operand.tmp 59), type := 24, pos := "laws.go:442", after := #[{ on := 4, ground := Go.Ground.data }], guard := none }) (v := ?vm5_6) rfl (by kernel_rfl) (by kernel_rfl) (by kernel_rfl) (fun _ _ _ h => h) (Or.inl ⟨by rfl, ?hm5_6⟩) hHeld ?rm5_6
          case hm5_6 =>
            intro wS hSw
            obtain ⟨yx0, yx1, -, -, -, -, -, -⟩ := unhide KEEP _ (unhide HUP _ hSw)
            obtain ⟨n0, n1⟩ := unhide KEEPN _ hSw
            clear hSw
            (try dsimp only at hSw)
            go_simp
            try with_reducible rfl
          case rm5_6 =>
          simp only [Act.put, List.setIfInBounds_toArray, List.set_cons_zero, List.set_cons_succ]
          refine wpAnyH_take (i := 6) (oi := { dst := some 61, op := Go.Op.call { callee := Go.Callee.builtin Go.Builtin.len, args := #[Go.Operand.tmp 60], argTypes := #[24] }, type := 3, pos := "laws.go:442", after := #[{ on := 5, ground := Go.Ground.data }], guard := none }) (v := ?vm6_7) rfl (by kernel_rfl) (by kernel_rfl) (by kernel_rfl) (fun _ _ _ h => h) (Or.inl ⟨by rfl, ?hm6_7⟩) hHeld ?rm6_7
          case hm6_7 =>
            intro wS hSw
            (try dsimp only at hSw)
            go_simp
            try with_reducible rfl
          case rm6_7 =>
          simp only [Act.put, List.setIfInBounds_toArray, List.set_cons_zero, List.set_cons_succ]
          refine wpAnyH_take (i := 7) (oi := { dst := some 62, op := Go.Op.binOp Go.BinOp.sub 3 (Go.Operand.tmp 61) (Go.Operand.const (Go.Value.int Go.IntKind.i64 1)) 3, type := 3, pos := "laws.go:442", after := #[{ on := 6, ground := Go.Ground.data }], guard := none }) (v := ?vm7_8) rfl (by kernel_rfl) (by kernel_rfl) (by kernel_rfl) (fun _ _ _ h => h) (Or.inl ⟨by rfl, ?hm7_8⟩) hHeld ?rm7_8
          case hm7_8 =>
            intro wS hSw
            clear hSw
            have hl9 : IntKind.i64.wrap ((x.ids.length : Int) - 1) = (x.ids.length : Int) - 1 := hlast
            (try dsimp only at hSw)
            go_simp
            try with_reducible rfl
          case rm7_8 =>
          simp only [Act.put, List.setIfInBounds_toArray, List.set_cons_zero, List.set_cons_succ]
          refine wpAnyH_take (i := 8) (oi := { dst := some 63, op := Go.Op.binOp Go.BinOp.eql 3 (Go.Operand.tmp 58) (Go.Operand.tmp 62) 3, type := 4, pos := "laws.go:442", after := #[{ on := 3, ground := Go.Ground.data }, { on := 7, ground := Go.Ground.data }], guard := none }) (v := ?vm8_9) rfl (by kernel_rfl) (by kernel_rfl) (by kernel_rfl) (fun _ _ _ h => h) (Or.inl ⟨by rfl, ?hm8_9⟩) hHeld ?rm8_9
          case hm8_9 =>
            intro wS hSw
            clear hSw
            have hl9 : IntKind.i64.wrap ((x.ids.length : Int) - 1) = (x.ids.length : Int) - 1 := hlast
            (try dsimp only at hSw)
            go_simp
            try with_reducible rfl
          case rm8_9 =>
          simp only [Act.put, List.setIfInBounds_toArray, List.set_cons_zero, List.set_cons_succ]
          refine wpAnyH_take (i := 9) (oi := { dst := some 64, op := Go.Op.binOp Go.BinOp.neq 4 (Go.Operand.tmp 57) (Go.Operand.tmp 63) 4, type := 4, pos := "laws.go:442", after := #[{ on := 2, ground := Go.Ground.data }, { on := 8, ground := Go.Ground.data }], guard := none }) (v := ?vm9_10) rfl (by kernel_rfl) (by kernel_rfl) (by kernel_rfl) (fun _ _ _ h => h) (Or.inl ⟨by rfl, ?hm9_10⟩) hHeld ?rm9_10
          case hm9_10 =>
            intro wS hSw
            (try dsimp only at hSw)
            go_simp
            try with_reducible rfl
          case rm9_10 =>
          simp only [Act.put, List.setIfInBounds_toArray, List.set_cons_zero, List.set_cons_succ]
          refine wpAnyH_take (i := 10) (oi := { dst := some 65, op := Go.Op.move (Go.Operand.tmp 64), type := 4, pos := "laws.go:442", after := #[{ on := 9, ground := Go.Ground.data }], guard := none }) (v := ?vm10_11) rfl (by kernel_rfl) (by kernel_rfl) (by kernel_rfl) (fun _ _ _ h => h) (Or.inl ⟨by rfl, ?hm10_11⟩) hHeld ?rm10_11
          case hm10_11 =>
            intro wS hSw
            (try dsimp only at hSw)
            go_simp
            try with_reducible rfl
          case rm10_11 =>
          simp only [Act.put, List.setIfInBounds_toArray, List.set_cons_zero, List.set_cons_succ]
          refine wpAnyH_take (i := 11) (oi := { dst := some 66, op := Go.Op.fieldAddr 34 (Go.Operand.tmp 8) 0, type := 0, pos := "laws.go:442", after := #[{ on := 10, ground := Go.Ground.guard }], guard := some (10, false) }) (v := ?vm11_12) rfl (by kernel_rfl) (by kernel_rfl) (by kernel_rfl) (fun _ _ _ h => h) (Or.inl ⟨by rfl, ?hm11_12⟩) hHeld ?rm11_12
          case hm11_12 =>
            intro wS hSw
            (try dsimp only at hSw)
            go_simp
            try with_reducible rfl
          case rm11_12 =>
          simp only [Act.put, List.setIfInBounds_toArray, List.set_cons_zero, List.set_cons_succ]
          refine wpAnyH_take (i := 12) (oi := { dst := some 67, op := Go.Op.load 2 (Go.Operand.tmp 66), type := 2, pos := "laws.go:442", after := #[{ on := 11, ground := Go.Ground.data }, { on := 10, ground := Go.Ground.guard }], guard := some (10, false) }) (v := ?vm12_13) rfl (by kernel_rfl) (by kernel_rfl) (by kernel_rfl) (fun _ _ _ h => h) (Or.inl ⟨by rfl, ?hm12_13⟩) hHeld ?rm12_13
          case hm12_13 =>
            intro wS hSw
            obtain ⟨yx0, yx1, -, -, -, -, -, -⟩ := unhide KEEP _ (unhide HUP _ hSw)
            obtain ⟨n0, n1⟩ := unhide KEEPN _ hSw
            clear hSw
            (try dsimp only at hSw)
            go_simp
            try with_reducible rfl
          case rm12_13 =>
          simp only [Act.put, List.setIfInBounds_toArray, List.set_cons_zero, List.set_cons_succ]
          refine wpAnyH_take (i := 13) (oi := { dst := some 68, op := Go.Op.binOp Go.BinOp.eql 2 (Go.Operand.tmp 67) (Go.Operand.const (Go.Value.int Go.IntKind.i64 0)) 2, type := 4, pos := "laws.go:442", after := #[{ on := 12, ground := Go.Ground.data }, { on := 10, ground := Go.Ground.guard }], guard := some (10, false) }) (v := ?vm13_14) rfl (by kernel_rfl) (by kernel_rfl) (by kernel_rfl) (fun _ _ _ h => h) (Or.inl ⟨by rfl, ?hm13_14⟩) hHeld ?rm13_14
          case hm13_14 =>
            intro wS hSw
            (try dsimp only at hSw)
            go_simp
            try with_reducible rfl
          case rm13_14 =>
          simp only [Act.put, List.setIfInBounds_toArray, List.set_cons_zero, List.set_cons_succ]
          refine wpAnyH_take (i := 14) (oi := { dst := some 69, op := Go.Op.move (Go.Operand.tmp 68), type := 4, pos := "laws.go:442", after := #[{ on := 13, ground := Go.Ground.data }, { on := 10, ground := Go.Ground.chain }, { on := 10, ground := Go.Ground.guard }], guard := some (10, false) }) (v := ?vm14_15) rfl (by kernel_rfl) (by kernel_rfl) (by kernel_rfl) (fun _ _ _ h => h) (Or.inl ⟨by rfl, ?hm14_15⟩) hHeld ?rm14_15
          case hm14_15 =>
            intro wS hSw
            (try dsimp only at hSw)
            go_simp
            try with_reducible rfl
          case rm14_15 =>
          simp only [Act.put, List.setIfInBounds_toArray, List.set_cons_zero, List.set_cons_succ]
          refine wpAnyH_take (i := 15) (oi := { dst := some 70, op := Go.Op.load 26 (Go.Operand.tmp 3), type := 26, pos := "laws.go:442", after := #[{ on := 14, ground := Go.Ground.guard }], guard := some (14, true) }) (v := ?vm15_16) rfl (by kernel_rfl) (by kernel_rfl) (by kernel_rfl) (fun _ _ _ h => h) (Or.inl ⟨by rfl, ?hm15_16⟩) hHeld ?rm15_16
          case hm15_16 =>
            intro wS hSw
            obtain ⟨yx0, yx1, -, -, -, -, -, -⟩ := unhide KEEP _ (unhide HUP _ hSw)
            obtain ⟨n0, n1⟩ := unhide KEEPN _ hSw
            clear hSw
            (try dsimp only at hSw)
            go_simp
            try with_reducible rfl
          case rm15_16 =>
          simp only [Act.put, List.setIfInBounds_toArray, List.set_cons_zero, List.set_cons_succ]
          refine wpAnyH_take (i := 16) (oi := { dst := some 71, op := Go.Op.fieldAddr 34 (Go.Operand.tmp 8) 1, type := 0, pos := "laws.go:442", after := #[{ on := 14, ground := Go.Ground.guard }], guard := some (14, true) }) (v := ?vm16_17) rfl (by kernel_rfl) (by kernel_rfl) (by kernel_rfl) (fun _ _ _ h => h) (Or.inl ⟨by rfl, ?hm16_17⟩) hHeld ?rm16_17
          case hm16_17 =>
            intro wS hSw
            (try dsimp only at hSw)
            go_simp
            try with_reducible rfl
          case rm16_17 =>
          simp only [Act.put, List.setIfInBounds_toArray, List.set_cons_zero, List.set_cons_succ]
          refine wpAnyH_take (i := 17) (oi := { dst := some 72, op := Go.Op.load 2 (Go.Operand.tmp 71), type := 2, pos := "laws.go:442", after := #[{ on := 16, ground := Go.Ground.data }, { on := 14, ground := Go.Ground.guard }], guard := some (14, true) }) (v := ?vm17_18) rfl (by kernel_rfl) (by kernel_rfl) (by kernel_rfl) (fun _ _ _ h => h) (Or.inl ⟨by rfl, ?hm17_18⟩) hHeld ?rm17_18
          case hm17_18 =>
            intro wS hSw
            obtain ⟨yx0, yx1, -, -, -, -, -, -⟩ := unhide KEEP _ (unhide HUP _ hSw)
            obtain ⟨n0, n1⟩ := unhide KEEPN _ hSw
            clear hSw
            (try dsimp only at hSw)
            go_simp
            try with_reducible rfl
          case rm17_18 =>
          simp only [Act.put, List.setIfInBounds_toArray, List.set_cons_zero, List.set_cons_succ]
          refine wpAnyH_take (i := 20) (oi := { dst := some 75, op := Go.Op.fieldAddr 26 (Go.Operand.tmp 3) 1, type := 0, pos := "laws.go:442", after := #[{ on := 14, ground := Go.Ground.guard }], guard := some (14, true) }) (v := ?vm20_19) rfl (by kernel_rfl) (by kernel_rfl) (by kernel_rfl) (fun _ _ _ h => h) (Or.inl ⟨by rfl, ?hm20_19⟩) hHeld ?rm20_19
          case hm20_19 =>
            intro wS hSw
            (try dsimp only at hSw)
            go_simp
            try with_reducible rfl
          case rm20_19 =>
          simp only [Act.put, List.setIfInBounds_toArray, List.set_cons_zero, List.set_cons_succ]
          refine wpAnyH_take (i := 21) (oi := { dst := some 76, op := Go.Op.load 24 (Go.Operand.tmp 75), type := 24, pos := "laws.go:442", after := #[{ on := 20, ground := Go.Ground.data }, { on := 14, ground := Go.Ground.guard }], guard := some (14, true) }) (v := ?vm21_20) rfl (by kernel_rfl) (by kernel_rfl) (by kernel_rfl) (fun _ _ _ h => h) (Or.inl ⟨by rfl, ?hm21_20⟩) hHeld ?rm21_20
          case hm21_20 =>
            intro wS hSw
            obtain ⟨yx0, yx1, -, -, -, -, -, -⟩ := unhide KEEP _ (unhide HUP _ hSw)
            obtain ⟨n0, n1⟩ := unhide KEEPN _ hSw
            clear hSw
            (try dsimp only at hSw)
            go_simp
            try with_reducible rfl
          case rm21_20 =>
          simp only [Act.put, List.setIfInBounds_toArray, List.set_cons_zero, List.set_cons_succ]
          refine wpAnyH_take (i := 22) (oi := { dst := some 77, op := Go.Op.move (Go.Operand.tmp 7), type := 3, pos := "laws.go:442", after := #[{ on := 14, ground := Go.Ground.guard }], guard := some (14, true) }) (v := ?vm22_21) rfl (by kernel_rfl) (by kernel_rfl) (by kernel_rfl) (fun _ _ _ h => h) (Or.inl ⟨by rfl, ?hm22_21⟩) hHeld ?rm22_21
          case hm22_21 =>
            intro wS hSw
            (try dsimp only at hSw)
            go_simp
            try with_reducible rfl
          case rm22_21 =>
          simp only [Act.put, List.setIfInBounds_toArray, List.set_cons_zero, List.set_cons_succ]
          refine wpAnyH_take (i := 23) (oi := { dst := some 78, op := Go.Op.indexAddr 24 (Go.Operand.tmp 76) (Go.Operand.tmp 77), type := 0, pos := "laws.go:442", after := #[{ on := 21, ground := Go.Ground.data }, { on := 22, ground := Go.Ground.data }, { on := 14, ground := Go.Ground.guard }], guard := some (14, true) }) (v := ?vm23_22) rfl (by kernel_rfl) (by kernel_rfl) (by kernel_rfl) (fun _ _ _ h => h) (Or.inl ⟨by rfl, ?hm23_22⟩) hHeld ?rm23_22
          case hm23_22 =>
            intro wS hSw
            clear hSw
            have q1 : (i : Int) < (x.ids.length : Int) := by omega
            have q2 : (0 : Int) ≤ (i : Int) := by omega
            (try dsimp only at hSw)
            go_simp
            try with_reducible rfl
          case rm23_22 =>
          simp only [Act.put, List.setIfInBounds_toArray, List.set_cons_zero, List.set_cons_succ]
          refine wpAnyH_take (i := 24) (oi := { dst := some 79, op := Go.Op.load 2 (Go.Operand.tmp 78), type := 2, pos := "laws.go:442", after := #[{ on := 23, ground := Go.Ground.data }, { on := 14, ground := Go.Ground.guard }], guard := some (14, true) }) (v := ?vm24_23) rfl (by kernel_rfl) (by kernel_rfl) (by kernel_rfl) (fun _ _ _ h => h) (Or.inl ⟨by rfl, ?hm24_23⟩) hHeld ?rm24_23
          case hm24_23 =>
            intro wS hSw
            have zc := unhide HZC _ (unhide HUP _ hSw)
            clear hSw
            (try dsimp only at hSw)
            go_simp
            try with_reducible rfl
          case rm24_23 =>
          simp only [Act.put, List.setIfInBounds_toArray, List.set_cons_zero, List.set_cons_succ]
          refine wpAnyH_ready (rs := [18]) (by kernel_rfl) (by simp) ?_
          refine AllReadyH.cons (o := { dst := some 73, op := Go.Op.call { callee := Go.Callee.value (Go.Operand.func 13), args := #[Go.Operand.tmp 70, Go.Operand.tmp 72], argTypes := #[26, 2] }, type := 34, pos := "laws.go:442", after := #[{ on := 15, ground := Go.Ground.data }, { on := 17, ground := Go.Ground.data }, { on := 14, ground := Go.Ground.chain }, { on := 14, ground := Go.Ground.guard }], guard := some (14, true) }) rfl (fun K hK => ?_) AllReadyH.nil
          go_simp
          go_at_call 13
          refine (unhide LP _ (unhide HUP _ hHeld)).mono ?_
          rintro e v1 ⟨rfl, hbw⟩
          try go_wp2_with fail
          refine hK.out _ _ (hHeld.trans (hbw.mono hHeld.size)) (fun hHeld => ?_)
          clear hK K
          try simp only [Act.put, List.setIfInBounds_toArray, List.set_cons_zero, List.set_cons_succ]
          refine wpAnyH_take (i := 19) (oi := { dst := some 74, op := Go.Op.field 34 (Go.Operand.tmp 73) 1, type := 2, pos := "laws.go:442", after := #[{ on := 18, ground := Go.Ground.data }, { on := 14, ground := Go.Ground.guard }], guard := some (14, true) }) (v := ?vm19_24) rfl (by kernel_rfl) (by kernel_rfl) (by kernel_rfl) (fun _ _ _ h => h) (Or.inl ⟨by rfl, ?hm19_24⟩) hHeld ?rm19_24
          case hm19_24 =>
            intro wS hSw
            have yf := hf1
            clear hSw
            (try dsimp only at hSw)
            go_simp
            try with_reducible rfl
          case rm19_24 =>
          simp only [Act.put, List.setIfInBounds_toArray, List.set_cons_zero, List.set_cons_succ]
          refine wpAnyH_take (i := 25) (oi := { dst := some 80, op := Go.Op.binOp Go.BinOp.neq 2 (Go.Operand.tmp 74) (Go.Operand.tmp 79) 2, type := 4, pos := "laws.go:442", after := #[{ on := 19, ground := Go.Ground.data }, { on := 24, ground := Go.Ground.data }, { on := 14, ground := Go.Ground.guard }], guard := some (14, true) }) (v := ?vm25_25) rfl (by kernel_rfl) (by kernel_rfl) (by kernel_rfl) (fun _ _ _ h => h) (Or.inl ⟨by rfl, ?hm25_25⟩) hHeld ?rm25_25
          case hm25_25 =>
            intro wS hSw
            (try dsimp only at hSw)
            go_simp
            try with_reducible rfl
          case rm25_25 =>
          simp only [Act.put, List.setIfInBounds_toArray, List.set_cons_zero, List.set_cons_succ]
          refine wpAnyH_take (i := 26) (oi := { dst := some 81, op := Go.Op.pick (Go.Operand.tmp 69) (Go.Operand.tmp 80) (Go.Operand.const (Go.Value.bool false)), type := 4, pos := "laws.go:442", after := #[{ on := 14, ground := Go.Ground.data }, { on := 25, ground := Go.Ground.data }, { on := 10, ground := Go.Ground.guard }], guard := some (10, false) }) (v := ?vm26_26) rfl (by kernel_rfl) (by kernel_rfl) (by kernel_rfl) (fun _ _ _ h => h) (Or.inl ⟨by rfl, ?hm26_26⟩) hHeld ?rm26_26
          case hm26_26 =>
            intro wS hSw
            (try dsimp only at hSw)
            go_simp
            try with_reducible rfl
          case rm26_26 =>
          simp only [Act.put, List.setIfInBounds_toArray, List.set_cons_zero, List.set_cons_succ]
          refine wpAnyH_take (i := 27) (oi := { dst := some 82, op := Go.Op.pick (Go.Operand.tmp 65) (Go.Operand.const (Go.Value.bool true)) (Go.Operand.tmp 81), type := 4, pos := "laws.go:442", after := #[{ on := 10, ground := Go.Ground.data }, { on := 26, ground := Go.Ground.data }], guard := none }) (v := ?vm27_27) rfl (by kernel_rfl) (by kernel_rfl) (by kernel_rfl) (fun _ _ _ h => h) (Or.inl ⟨by rfl, ?hm27_27⟩) hHeld ?rm27_27
          case hm27_27 =>
            intro wS hSw
            (try dsimp only at hSw)
            go_simp
            try with_reducible rfl
          case rm27_27 =>
          simp only [Act.put, List.setIfInBounds_toArray, List.set_cons_zero, List.set_cons_succ]
          refine wpAnyH_done (by kernel_rfl) ?_ _
          refine NoPanic.normal ?_
          have HB9 := hide (unhide HUP _ hHeld)
          clear hHeld
          go_wp2_with fail
          go_roundw
          case rel => exact ⟨i + 1, by omega, by go_num, unhide HB9⟩
          case measure => simp [intOf]; omega
        · have e1 := unhide HLAST (by omega)
          simp only [DIntResult.mk.injEq] at e1
          obtain ⟨rfl, rfl⟩ := e1
          have g0 : ((8 : Int) == 8) = true := by decide
          have g1 : ((i : Int) == (x.ids.length : Int) - 1) = true := by rw [beq_iff_eq]; omega
          have g2 : ((8 : Int) == 0) = false := by decide
          have g4 : (true != true) = false := by decide
          clear HMORE HLAST HLN
          refine wp_region_noPanic ?_
          refine wp_region_held_drew (S := fun w' => Below wq.heap.size wq w') (by kernel_rfl) (Below.refl _ _).drew (fun hHeld => ?_)
          generalize wq.drew = wD at hHeld ⊢
          refine wpAnyH_take (i := 0) (oi := { dst := some 55, op := Go.Op.fieldAddr 34 (Go.Operand.tmp 8) 0, type := 0, pos := "laws.go:442", after := #[], guard := none }) (v := ?vl0_1) rfl (by kernel_rfl) (by kernel_rfl) (by kernel_rfl) (fun _ _ _ h => h) (Or.inl ⟨by rfl, ?hl0_1⟩) hHeld ?rl0_1
          case hl0_1 =>
            intro wS hSw
            (try dsimp only at hSw)
            go_simp
            try with_reducible rfl
          case rl0_1 =>
          simp only [Act.put, List.setIfInBounds_toArray, List.set_cons_zero, List.set_cons_succ]
          refine wpAnyH_take (i := 1) (oi := { dst := some 56, op := Go.Op.load 2 (Go.Operand.tmp 55), type := 2, pos := "laws.go:442", after := #[{ on := 0, ground := Go.Ground.data }], guard := none }) (v := ?vl1_2) rfl (by kernel_rfl) (by kernel_rfl) (by kernel_rfl) (fun _ _ _ h => h) (Or.inl ⟨by rfl, ?hl1_2⟩) hHeld ?rl1_2
          case hl1_2 =>
            intro wS hSw
            obtain ⟨yx0, yx1, -, -, -, -, -, -⟩ := unhide KEEP _ (unhide HUP _ hSw)
            obtain ⟨n0, n1⟩ := unhide KEEPN _ hSw
            clear hSw
            (try dsimp only at hSw)
            go_simp
            try with_reducible rfl
          case rl1_2 =>
          simp only [Act.put, List.setIfInBounds_toArray, List.set_cons_zero, List.set_cons_succ]
          refine wpAnyH_take (i := 2) (oi := { dst := some 57, op := Go.Op.binOp Go.BinOp.eql 2 (Go.Operand.tmp 56) (Go.Operand.const (Go.Value.int Go.IntKind.i64 8)) 2, type := 4, pos := "laws.go:442", after := #[{ on := 1, ground := Go.Ground.data }], guard := none }) (v := ?vl2_3) rfl (by kernel_rfl) (by kernel_rfl) (by kernel_rfl) (fun _ _ _ h => h) (Or.inl ⟨by rfl, ?hl2_3⟩) hHeld ?rl2_3
          case hl2_3 =>
            intro wS hSw
            (try dsimp only at hSw)
            go_simp
            try with_reducible rfl
          case rl2_3 =>
          simp only [Act.put, List.setIfInBounds_toArray, List.set_cons_zero, List.set_cons_succ]
          refine wpAnyH_take (i := 3) (oi := { dst := some 58, op := Go.Op.move (Go.Operand.tmp 7), type := 3, pos := "laws.go:442", after := #[], guard := none }) (v := ?vl3_4) rfl (by kernel_rfl) (by kernel_rfl) (by kernel_rfl) (fun _ _ _ h => h) (Or.inl ⟨by rfl, ?hl3_4⟩) hHeld ?rl3_4
          case hl3_4 =>
            intro wS hSw
            (try dsimp only at hSw)
            go_simp
            try with_reducible rfl
          case rl3_4 =>
          simp only [Act.put, List.setIfInBounds_toArray, List.set_cons_zero, List.set_cons_succ]
          refine wpAnyH_take (i := 4) (oi := { dst := some 59, op := Go.Op.fieldAddr 26 (Go.Operand.tmp 3) 1, type := 0, pos := "laws.go:442", after := #[], guard := none }) (v := ?vl4_5) rfl (by kernel_rfl) (by kernel_rfl) (by kernel_rfl) (fun _ _ _ h => h) (Or.inl ⟨by rfl, ?hl4_5⟩) hHeld ?rl4_5
          case hl4_5 =>
            intro wS hSw
            (try dsimp only at hSw)
            go_simp
            try with_reducible rfl
          case rl4_5 =>
          simp only [Act.put, List.setIfInBounds_toArray, List.set_cons_zero, List.set_cons_succ]
          refine wpAnyH_take (i := 5) (oi := { dst := some 60, op := Go.Op.load 24 (Go.Operand.tmp 59), type := 24, pos := "laws.go:442", after := #[{ on := 4, ground := Go.Ground.data }], guard := none }) (v := ?vl5_6) rfl (by kernel_rfl) (by kernel_rfl) (by kernel_rfl) (fun _ _ _ h => h) (Or.inl ⟨by rfl, ?hl5_6⟩) hHeld ?rl5_6
          case hl5_6 =>
            intro wS hSw
            obtain ⟨yx0, yx1, -, -, -, -, -, -⟩ := unhide KEEP _ (unhide HUP _ hSw)
            obtain ⟨n0, n1⟩ := unhide KEEPN _ hSw
            clear hSw
            (try dsimp only at hSw)
            go_simp
            try with_reducible rfl
          case rl5_6 =>
          simp only [Act.put, List.setIfInBounds_toArray, List.set_cons_zero, List.set_cons_succ]
          refine wpAnyH_take (i := 6) (oi := { dst := some 61, op := Go.Op.call { callee := Go.Callee.builtin Go.Builtin.len, args := #[Go.Operand.tmp 60], argTypes := #[24] }, type := 3, pos := "laws.go:442", after := #[{ on := 5, ground := Go.Ground.data }], guard := none }) (v := ?vl6_7) rfl (by kernel_rfl) (by kernel_rfl) (by kernel_rfl) (fun _ _ _ h => h) (Or.inl ⟨by rfl, ?hl6_7⟩) hHeld ?rl6_7
          case hl6_7 =>
            intro wS hSw
            (try dsimp only at hSw)
            go_simp
            try with_reducible rfl
          case rl6_7 =>
          simp only [Act.put, List.setIfInBounds_toArray, List.set_cons_zero, List.set_cons_succ]
          refine wpAnyH_take (i := 7) (oi := { dst := some 62, op := Go.Op.binOp Go.BinOp.sub 3 (Go.Operand.tmp 61) (Go.Operand.const (Go.Value.int Go.IntKind.i64 1)) 3, type := 3, pos := "laws.go:442", after := #[{ on := 6, ground := Go.Ground.data }], guard := none }) (v := ?vl7_8) rfl (by kernel_rfl) (by kernel_rfl) (by kernel_rfl) (fun _ _ _ h => h) (Or.inl ⟨by rfl, ?hl7_8⟩) hHeld ?rl7_8
          case hl7_8 =>
            intro wS hSw
            clear hSw
            have hl9 : IntKind.i64.wrap ((x.ids.length : Int) - 1) = (x.ids.length : Int) - 1 := hlast
            (try dsimp only at hSw)
            go_simp
            try with_reducible rfl
          case rl7_8 =>
          simp only [Act.put, List.setIfInBounds_toArray, List.set_cons_zero, List.set_cons_succ]
          refine wpAnyH_take (i := 8) (oi := { dst := some 63, op := Go.Op.binOp Go.BinOp.eql 3 (Go.Operand.tmp 58) (Go.Operand.tmp 62) 3, type := 4, pos := "laws.go:442", after := #[{ on := 3, ground := Go.Ground.data }, { on := 7, ground := Go.Ground.data }], guard := none }) (v := ?vl8_9) rfl (by kernel_rfl) (by kernel_rfl) (by kernel_rfl) (fun _ _ _ h => h) (Or.inl ⟨by rfl, ?hl8_9⟩) hHeld ?rl8_9
          case hl8_9 =>
            intro wS hSw
            clear hSw
            have hl9 : IntKind.i64.wrap ((x.ids.length : Int) - 1) = (x.ids.length : Int) - 1 := hlast
            (try dsimp only at hSw)
            go_simp
            try with_reducible rfl
          case rl8_9 =>
          simp only [Act.put, List.setIfInBounds_toArray, List.set_cons_zero, List.set_cons_succ]
          refine wpAnyH_take (i := 9) (oi := { dst := some 64, op := Go.Op.binOp Go.BinOp.neq 4 (Go.Operand.tmp 57) (Go.Operand.tmp 63) 4, type := 4, pos := "laws.go:442", after := #[{ on := 2, ground := Go.Ground.data }, { on := 8, ground := Go.Ground.data }], guard := none }) (v := ?vl9_10) rfl (by kernel_rfl) (by kernel_rfl) (by kernel_rfl) (fun _ _ _ h => h) (Or.inl ⟨by rfl, ?hl9_10⟩) hHeld ?rl9_10
          case hl9_10 =>
            intro wS hSw
            (try dsimp only at hSw)
            go_simp
            try with_reducible rfl
          case rl9_10 =>
          simp only [Act.put, List.setIfInBounds_toArray, List.set_cons_zero, List.set_cons_succ]
          refine wpAnyH_take (i := 10) (oi := { dst := some 65, op := Go.Op.move (Go.Operand.tmp 64), type := 4, pos := "laws.go:442", after := #[{ on := 9, ground := Go.Ground.data }], guard := none }) (v := ?vl10_11) rfl (by kernel_rfl) (by kernel_rfl) (by kernel_rfl) (fun _ _ _ h => h) (Or.inl ⟨by rfl, ?hl10_11⟩) hHeld ?rl10_11
          case hl10_11 =>
            intro wS hSw
            (try dsimp only at hSw)
            go_simp
            try with_reducible rfl
          case rl10_11 =>
          simp only [Act.put, List.setIfInBounds_toArray, List.set_cons_zero, List.set_cons_succ]
          refine wpAnyH_take (i := 11) (oi := { dst := some 66, op := Go.Op.fieldAddr 34 (Go.Operand.tmp 8) 0, type := 0, pos := "laws.go:442", after := #[{ on := 10, ground := Go.Ground.guard }], guard := some (10, false) }) (v := ?vl11_12) rfl (by kernel_rfl) (by kernel_rfl) (by kernel_rfl) (fun _ _ _ h => h) (Or.inl ⟨by rfl, ?hl11_12⟩) hHeld ?rl11_12
          case hl11_12 =>
            intro wS hSw
            (try dsimp only at hSw)
            go_simp
            try with_reducible rfl
          case rl11_12 =>
          simp only [Act.put, List.setIfInBounds_toArray, List.set_cons_zero, List.set_cons_succ]
          refine wpAnyH_take (i := 12) (oi := { dst := some 67, op := Go.Op.load 2 (Go.Operand.tmp 66), type := 2, pos := "laws.go:442", after := #[{ on := 11, ground := Go.Ground.data }, { on := 10, ground := Go.Ground.guard }], guard := some (10, false) }) (v := ?vl12_13) rfl (by kernel_rfl) (by kernel_rfl) (by kernel_rfl) (fun _ _ _ h => h) (Or.inl ⟨by rfl, ?hl12_13⟩) hHeld ?rl12_13
          case hl12_13 =>
            intro wS hSw
            obtain ⟨yx0, yx1, -, -, -, -, -, -⟩ := unhide KEEP _ (unhide HUP _ hSw)
            obtain ⟨n0, n1⟩ := unhide KEEPN _ hSw
            clear hSw
            (try dsimp only at hSw)
            go_simp
            try with_reducible rfl
          case rl12_13 =>
          simp only [Act.put, List.setIfInBounds_toArray, List.set_cons_zero, List.set_cons_succ]
          refine wpAnyH_take (i := 13) (oi := { dst := some 68, op := Go.Op.binOp Go.BinOp.eql 2 (Go.Operand.tmp 67) (Go.Operand.const (Go.Value.int Go.IntKind.i64 0)) 2, type := 4, pos := "laws.go:442", after := #[{ on := 12, ground := Go.Ground.data }, { on := 10, ground := Go.Ground.guard }], guard := some (10, false) }) (v := ?vl13_14) rfl (by kernel_rfl) (by kernel_rfl) (by kernel_rfl) (fun _ _ _ h => h) (Or.inl ⟨by rfl, ?hl13_14⟩) hHeld ?rl13_14
          case hl13_14 =>
            intro wS hSw
            (try dsimp only at hSw)
            go_simp
            try with_reducible rfl
          case rl13_14 =>
          simp only [Act.put, List.setIfInBounds_toArray, List.set_cons_zero, List.set_cons_succ]
          refine wpAnyH_take (i := 14) (oi := { dst := some 69, op := Go.Op.move (Go.Operand.tmp 68), type := 4, pos := "laws.go:442", after := #[{ on := 13, ground := Go.Ground.data }, { on := 10, ground := Go.Ground.chain }, { on := 10, ground := Go.Ground.guard }], guard := some (10, false) }) (v := ?vl14_15) rfl (by kernel_rfl) (by kernel_rfl) (by kernel_rfl) (fun _ _ _ h => h) (Or.inl ⟨by rfl, ?hl14_15⟩) hHeld ?rl14_15
          case hl14_15 =>
            intro wS hSw
            (try dsimp only at hSw)
            go_simp
            try with_reducible rfl
          case rl14_15 =>
          simp only [Act.put, List.setIfInBounds_toArray, List.set_cons_zero, List.set_cons_succ]
          refine wpAnyH_take (i := 15) (oi := { dst := some 70, op := Go.Op.load 26 (Go.Operand.tmp 3), type := 26, pos := "laws.go:442", after := #[{ on := 14, ground := Go.Ground.guard }], guard := some (14, true) }) (v := undef) rfl (by kernel_rfl) (by kernel_rfl) (by kernel_rfl) (fun _ _ _ h => h) (Or.inr ⟨by rfl, rfl⟩) hHeld ?_
          simp only [Act.put, List.setIfInBounds_toArray, List.set_cons_zero, List.set_cons_succ]
          refine wpAnyH_take (i := 16) (oi := { dst := some 71, op := Go.Op.fieldAddr 34 (Go.Operand.tmp 8) 1, type := 0, pos := "laws.go:442", after := #[{ on := 14, ground := Go.Ground.guard }], guard := some (14, true) }) (v := undef) rfl (by kernel_rfl) (by kernel_rfl) (by kernel_rfl) (fun _ _ _ h => h) (Or.inr ⟨by rfl, rfl⟩) hHeld ?_
          simp only [Act.put, List.setIfInBounds_toArray, List.set_cons_zero, List.set_cons_succ]
          refine wpAnyH_take (i := 17) (oi := { dst := some 72, op := Go.Op.load 2 (Go.Operand.tmp 71), type := 2, pos := "laws.go:442", after := #[{ on := 16, ground := Go.Ground.data }, { on := 14, ground := Go.Ground.guard }], guard := some (14, true) }) (v := undef) rfl (by kernel_rfl) (by kernel_rfl) (by kernel_rfl) (fun _ _ _ h => h) (Or.inr ⟨by rfl, rfl⟩) hHeld ?_
          simp only [Act.put, List.setIfInBounds_toArray, List.set_cons_zero, List.set_cons_succ]
          refine wpAnyH_take (i := 18) (oi := { dst := some 73, op := Go.Op.call { callee := Go.Callee.value (Go.Operand.func 13), args := #[Go.Operand.tmp 70, Go.Operand.tmp 72], argTypes := #[26, 2] }, type := 34, pos := "laws.go:442", after := #[{ on := 15, ground := Go.Ground.data }, { on := 17, ground := Go.Ground.data }, { on := 14, ground := Go.Ground.chain }, { on := 14, ground := Go.Ground.guard }], guard := some (14, true) }) (v := undef) rfl (by kernel_rfl) (by kernel_rfl) (by kernel_rfl) (fun _ _ _ h => h) (Or.inr ⟨by rfl, rfl⟩) hHeld ?_
          simp only [Act.put, List.setIfInBounds_toArray, List.set_cons_zero, List.set_cons_succ]
          refine wpAnyH_take (i := 19) (oi := { dst := some 74, op := Go.Op.field 34 (Go.Operand.tmp 73) 1, type := 2, pos := "laws.go:442", after := #[{ on := 18, ground := Go.Ground.data }, { on := 14, ground := Go.Ground.guard }], guard := some (14, true) }) (v := undef) rfl (by kernel_rfl) (by kernel_rfl) (by kernel_rfl) (fun _ _ _ h => h) (Or.inr ⟨by rfl, rfl⟩) hHeld ?_
          simp only [Act.put, List.setIfInBounds_toArray, List.set_cons_zero, List.set_cons_succ]
          refine wpAnyH_take (i := 20) (oi := { dst := some 75, op := Go.Op.fieldAddr 26 (Go.Operand.tmp 3) 1, type := 0, pos := "laws.go:442", after := #[{ on := 14, ground := Go.Ground.guard }], guard := some (14, true) }) (v := undef) rfl (by kernel_rfl) (by kernel_rfl) (by kernel_rfl) (fun _ _ _ h => h) (Or.inr ⟨by rfl, rfl⟩) hHeld ?_
          simp only [Act.put, List.setIfInBounds_toArray, List.set_cons_zero, List.set_cons_succ]
          refine wpAnyH_take (i := 21) (oi := { dst := some 76, op := Go.Op.load 24 (Go.Operand.tmp 75), type := 24, pos := "laws.go:442", after := #[{ on := 20, ground := Go.Ground.data }, { on := 14, ground := Go.Ground.guard }], guard := some (14, true) }) (v := undef) rfl (by kernel_rfl) (by kernel_rfl) (by kernel_rfl) (fun _ _ _ h => h) (Or.inr ⟨by rfl, rfl⟩) hHeld ?_
          simp only [Act.put, List.setIfInBounds_toArray, List.set_cons_zero, List.set_cons_succ]
          refine wpAnyH_take (i := 22) (oi := { dst := some 77, op := Go.Op.move (Go.Operand.tmp 7), type := 3, pos := "laws.go:442", after := #[{ on := 14, ground := Go.Ground.guard }], guard := some (14, true) }) (v := undef) rfl (by kernel_rfl) (by kernel_rfl) (by kernel_rfl) (fun _ _ _ h => h) (Or.inr ⟨by rfl, rfl⟩) hHeld ?_
          simp only [Act.put, List.setIfInBounds_toArray, List.set_cons_zero, List.set_cons_succ]
          refine wpAnyH_take (i := 23) (oi := { dst := some 78, op := Go.Op.indexAddr 24 (Go.Operand.tmp 76) (Go.Operand.tmp 77), type := 0, pos := "laws.go:442", after := #[{ on := 21, ground := Go.Ground.data }, { on := 22, ground := Go.Ground.data }, { on := 14, ground := Go.Ground.guard }], guard := some (14, true) }) (v := undef) rfl (by kernel_rfl) (by kernel_rfl) (by kernel_rfl) (fun _ _ _ h => h) (Or.inr ⟨by rfl, rfl⟩) hHeld ?_
          simp only [Act.put, List.setIfInBounds_toArray, List.set_cons_zero, List.set_cons_succ]
          refine wpAnyH_take (i := 24) (oi := { dst := some 79, op := Go.Op.load 2 (Go.Operand.tmp 78), type := 2, pos := "laws.go:442", after := #[{ on := 23, ground := Go.Ground.data }, { on := 14, ground := Go.Ground.guard }], guard := some (14, true) }) (v := undef) rfl (by kernel_rfl) (by kernel_rfl) (by kernel_rfl) (fun _ _ _ h => h) (Or.inr ⟨by rfl, rfl⟩) hHeld ?_
          simp only [Act.put, List.setIfInBounds_toArray, List.set_cons_zero, List.set_cons_succ]
          refine wpAnyH_take (i := 25) (oi := { dst := some 80, op := Go.Op.binOp Go.BinOp.neq 2 (Go.Operand.tmp 74) (Go.Operand.tmp 79) 2, type := 4, pos := "laws.go:442", after := #[{ on := 19, ground := Go.Ground.data }, { on := 24, ground := Go.Ground.data }, { on := 14, ground := Go.Ground.guard }], guard := some (14, true) }) (v := undef) rfl (by kernel_rfl) (by kernel_rfl) (by kernel_rfl) (fun _ _ _ h => h) (Or.inr ⟨by rfl, rfl⟩) hHeld ?_
          simp only [Act.put, List.setIfInBounds_toArray, List.set_cons_zero, List.set_cons_succ]
          refine wpAnyH_take (i := 26) (oi := { dst := some 81, op := Go.Op.pick (Go.Operand.tmp 69) (Go.Operand.tmp 80) (Go.Operand.const (Go.Value.bool false)), type := 4, pos := "laws.go:442", after := #[{ on := 14, ground := Go.Ground.data }, { on := 25, ground := Go.Ground.data }, { on := 10, ground := Go.Ground.guard }], guard := some (10, false) }) (v := ?vl26_27) rfl (by kernel_rfl) (by kernel_rfl) (by kernel_rfl) (fun _ _ _ h => h) (Or.inl ⟨by rfl, ?hl26_27⟩) hHeld ?rl26_27
          case hl26_27 =>
            intro wS hSw
            (try dsimp only at hSw)
            go_simp
            try with_reducible rfl
          case rl26_27 =>
          simp only [Act.put, List.setIfInBounds_toArray, List.set_cons_zero, List.set_cons_succ]
          refine wpAnyH_take (i := 27) (oi := { dst := some 82, op := Go.Op.pick (Go.Operand.tmp 65) (Go.Operand.const (Go.Value.bool true)) (Go.Operand.tmp 81), type := 4, pos := "laws.go:442", after := #[{ on := 10, ground := Go.Ground.data }, { on := 26, ground := Go.Ground.data }], guard := none }) (v := ?vl27_28) rfl (by kernel_rfl) (by kernel_rfl) (by kernel_rfl) (fun _ _ _ h => h) (Or.inl ⟨by rfl, ?hl27_28⟩) hHeld ?rl27_28
          case hl27_28 =>
            intro wS hSw
            (try dsimp only at hSw)
            go_simp
            try with_reducible rfl
          case rl27_28 =>
          simp only [Act.put, List.setIfInBounds_toArray, List.set_cons_zero, List.set_cons_succ]
          refine wpAnyH_done (by kernel_rfl) ?_ _
          refine NoPanic.normal ?_
          have HB9 := hide (unhide HUP _ hHeld)
          clear hHeld
          go_wp2_with fail
          go_roundw
          case rel => exact ⟨i + 1, by omega, by go_num, unhide HB9⟩
          case measure => simp [intOf]; omega
    · obtain rfl : i = x.ids.length := by omega
      have HBR := hide hBr
      have hdl : decide ((x.ids.length : Int) < (x.ids.length : Int)) = false := by simp
      have LT : Hid (∀ W, Below wz.heap.size wz W → Calls Tryd.prog 14 #[.agg #[.int .i64 y.epoch, .slice a2 y.ids.length d2]] W fun e w' => e = .returned (.agg #[.int .i64 0, .string ⟨(textC y.epoch y.ids).toArray⟩]) ∧ Below W.heap.size W w') := fun W hW => by
        refine ((unhide HII).text _ y W ((unhide HII).later _ _ (unhide HQ) hW) ((unhide HR2).later hW)).mono ?_
        rintro e w' ⟨cs, rfl, O, hb⟩
        obtain rfl := text_parts O
        rw [show textR y = ⟨0, ⟨(textC y.epoch y.ids).toArray⟩⟩ from if_pos (unhide HK).yok.fault]
        exact ⟨rfl, hb⟩
      have LST : Hid (∀ W, Below wz.heap.size wz W → Calls Tryd.prog 15 #[.agg #[.int .i64 y.epoch, .slice a2 y.ids.length d2]] W fun e w' => e = .returned (.agg #[.int .i64 0, .string ⟨(textC y.epoch y.ids).toArray⟩]) ∧ Below W.heap.size W w') := fun W hW => by
        refine (specChainText _ y W ((unhide HR2).later hW)).mono ?_
        rintro e w' ⟨cs, rfl, O, hb⟩
        obtain rfl := text_parts O
        rw [show textR y = ⟨0, ⟨(textC y.epoch y.ids).toArray⟩⟩ from if_pos (unhide HK).yok.fault]
        exact ⟨rfl, hb⟩
      obtain ⟨tx, htx⟩ : ∃ tx : ByteArray, tx = ⟨(textC y.epoch y.ids).toArray⟩ := ⟨_, rfl⟩
      rw [← htx] at LT LST
      clear htx
      obtain ⟨-, yx1, -, yr1, yr2, -, -, -⟩ := unhide KEEP _ hBr
      have HLT := hide (unhide LT wr hBr)
      clear hBr LT
      go_wp2_with fail
      refine (unhide HLT).mono ?_
      rintro e w5 ⟨rfl, hb5⟩
      clear HLT yx1 yr1 yr2
      have nb5 : Below w5.heap.size w5 (w5.alloc (.cells #[.int .i64 0, .string tx] 37)) := (Below.refl _ _).alloc (Nat.le_refl _) _
      have HB5 : Hid (Box 0 #[.int .i64 0, .string tx] 37 (w5.alloc (.cells #[.int .i64 0, .string tx] 37)) w5.heap.size) := newBox (Nat.zero_le _)
      have hbz := (unhide HBR).trans (hb5.mono (unhide HBR).size)
      have HBz := hide (hbz.trans (nb5.mono hbz.size))
      clear nb5 hbz hb5 HBR
      go_wp2_with fail
      generalize w5.alloc (.cells #[.int .i64 0, .string tx] 37) = wq at *
      have HUP : Hid (∀ W, Below wq.heap.size wq W → Below wz.heap.size wz W) := fun W hW => (unhide HBz).trans (hW.mono (unhide HBz).size)
      have KEEPT : Hid (∀ W, Below wq.heap.size wq W → W.cell? ⟨w5.heap.size, 0, none⟩ = some (.int .i64 0) ∧ W.cell? ⟨w5.heap.size, 1, none⟩ = some (.string tx)) := fun W hW => ⟨((unhide HB5).keep hW).at 0 _ rfl, ((unhide HB5).keep hW).at 1 _ rfl⟩
      have LF : Hid (∀ W, Below wz.heap.size wz W → Calls Tryd.prog 9 #[.agg #[.int .i64 y.epoch, .slice a2 y.ids.length d2]] W fun e w' => e = .returned (.int .i64 0) ∧ Below W.heap.size W w') := fun W hW => by
        have h9 := (unhide HII).fault _ y W ((unhide HR2).later hW)
        rwa [(unhide HK).yok.fault] at h9
      have LN : Hid (∀ W, Below wz.heap.size wz W → Calls Tryd.prog 12 #[.agg #[.int .i64 y.epoch, .slice a2 y.ids.length d2], .int .i64 id] W fun e w' => e = .returned (.agg #[.int .i64 4, .int .i64 0]) ∧ Below W.heap.size W w') := fun W hW => by
        refine ((unhide HII).next _ y id W ((unhide HR2).later hW)).mono ?_
        rintro e w' ⟨cs, rfl, O, hb⟩
        obtain rfl := int_parts O
        rw [(unhide HK).none]
        exact ⟨rfl, hb⟩
      have hep2 : y.epoch = x.epoch + 1 := (unhide HK).ep
      have hf0 := fun w => fieldCI0 4 0 w
      have hft := fun w => fieldCT1 0 tx w
      have e0 : ((0 : Int) == 0) = true := by decide
      have e1 : (y.epoch == x.epoch + 1) = true := by rw [beq_iff_eq]; exact hep2
      have e2 : ((y.ids.length : Int) == (x.ids.length : Int) - 1) = true := by rw [beq_iff_eq]; omega
      have e3 : ((4 : Int) == 4) = true := by decide
      have e5 : (tx == tx) = true := ba_refl tx
      have w1 : IntKind.i64.wrap (x.epoch + 1) = x.epoch + 1 := by rw [IntKind.wrap_i64]; omega
      have w2 : IntKind.i64.wrap ((x.ids.length : Int) - 1) = (x.ids.length : Int) - 1 := by rw [IntKind.wrap_i64]; omega
      have HJI : Hid (∀ k (h : k < jx.ids.length) b off, a3 = some ⟨b, off, none⟩ → ∀ W, Below wz.heap.size wz W → W.cell? ⟨b, off + k, none⟩ = some (.int .i64 jx.ids[k])) := fun k h b off e W hW => by
        subst e
        obtain ⟨_, _, e9, R9⟩ := open_Chain ((unhide HR3).later hW)
        simp only [List.cons.injEq, Value.slice.injEq, true_and, and_true] at e9
        obtain ⟨rfl, rfl⟩ := e9
        exact int_cell R9 h
      have HJA : Hid (0 < jx.ids.length → ∃ b off, a3 = some ⟨b, off, none⟩) := fun h => by
        obtain ⟨_, _, e9, R9⟩ := open_Chain (unhide HR3)
        simp only [List.cons.injEq, Value.slice.injEq, true_and, and_true] at e9
        obtain ⟨rfl, rfl⟩ := e9
        obtain ⟨b, off, e, -⟩ := Lay.sl_addr R9 h
        exact ⟨b, off, e⟩
      clear hep2
      rcases unhide HJ with hj | hj
      · simp only [badChain, DChainResult.mk.injEq] at hj
        obtain ⟨rfl, rfl⟩ := hj
        have f0 : ((2 : Int) == 2) = true := by decide
        clear HJI HJA HJ
        refine wp_region_noPanic ?_
        refine wp_region_held_drew (S := fun w' => Below wq.heap.size wq w') (by kernel_rfl) (Below.refl _ _).drew (fun hHeld => ?_)
        generalize wq.drew = wD at hHeld ⊢
        refine wpAnyH_take (i := 0) (oi := { dst := some 86, op := Go.Op.fieldAddr 30 (Go.Operand.tmp 5) 1, type := 0, pos := "laws.go:447", after := #[], guard := none }) (v := ?vp0_1) rfl (by kernel_rfl) (by kernel_rfl) (by kernel_rfl) (fun _ _ _ h => h) (Or.inl ⟨by rfl, ?hp0_1⟩) hHeld ?rp0_1
        case hp0_1 =>
          intro wS hSw
          (try dsimp only at hSw)
          go_simp
          try with_reducible rfl
        case rp0_1 =>
        simp only [Act.put, List.setIfInBounds_toArray, List.set_cons_zero, List.set_cons_succ]
        refine wpAnyH_take (i := 1) (oi := { dst := some 87, op := Go.Op.load 26 (Go.Operand.tmp 86), type := 26, pos := "laws.go:447", after := #[{ on := 0, ground := Go.Ground.data }], guard := none }) (v := ?vp1_2) rfl (by kernel_rfl) (by kernel_rfl) (by kernel_rfl) (fun _ _ _ h => h) (Or.inl ⟨by rfl, ?hp1_2⟩) hHeld ?rp1_2
        case hp1_2 =>
          intro wS hSw
          obtain ⟨yx0, yx1, yr0, yr1, yr2, yj0, yj1, yj2⟩ := unhide KEEP _ (unhide HUP _ hSw)
          obtain ⟨t0, t1⟩ := unhide KEEPT _ hSw
          clear hSw
          (try dsimp only at hSw)
          go_simp
          try with_reducible rfl
        case rp1_2 =>
        simp only [Act.put, List.setIfInBounds_toArray, List.set_cons_zero, List.set_cons_succ]
        refine wpAnyH_ready (rs := [2]) (by kernel_rfl) (by simp) ?_
        refine AllReadyH.cons (o := { dst := some 88, op := Go.Op.call { callee := Go.Callee.value (Go.Operand.func 9), args := #[Go.Operand.tmp 87], argTypes := #[26] }, type := 2, pos := "laws.go:447", after := #[{ on := 1, ground := Go.Ground.data }], guard := none }) rfl (fun K hK => ?_) AllReadyH.nil
        go_simp
        go_at_call 9
        refine (unhide LF _ (unhide HUP _ hHeld)).mono ?_
        rintro e v1 ⟨rfl, hbw⟩
        try go_wp2_with fail
        refine hK.out _ _ (hHeld.trans (hbw.mono hHeld.size)) (fun hHeld => ?_)
        clear hK K
        try simp only [Act.put, List.setIfInBounds_toArray, List.set_cons_zero, List.set_cons_succ]
        refine wpAnyH_take (i := 3) (oi := { dst := some 89, op := Go.Op.binOp Go.BinOp.eql 2 (Go.Operand.tmp 88) (Go.Operand.const (Go.Value.int Go.IntKind.i64 0)) 2, type := 4, pos := "laws.go:447", after := #[{ on := 2, ground := Go.Ground.data }], guard := none }) (v := ?vp3_3) rfl (by kernel_rfl) (by kernel_rfl) (by kernel_rfl) (fun _ _ _ h => h) (Or.inl ⟨by rfl, ?hp3_3⟩) hHeld ?rp3_3
        case hp3_3 =>
          intro wS hSw
          (try dsimp only at hSw)
          go_simp
          try with_reducible rfl
        case rp3_3 =>
        simp only [Act.put, List.setIfInBounds_toArray, List.set_cons_zero, List.set_cons_succ]
        refine wpAnyH_take (i := 4) (oi := { dst := some 90, op := Go.Op.move (Go.Operand.tmp 89), type := 4, pos := "laws.go:447", after := #[{ on := 3, ground := Go.Ground.data }, { on := 2, ground := Go.Ground.chain }], guard := none }) (v := ?vp4_4) rfl (by kernel_rfl) (by kernel_rfl) (by kernel_rfl) (fun _ _ _ h => h) (Or.inl ⟨by rfl, ?hp4_4⟩) hHeld ?rp4_4
        case hp4_4 =>
          intro wS hSw
          (try dsimp only at hSw)
          go_simp
          try with_reducible rfl
        case rp4_4 =>
        simp only [Act.put, List.setIfInBounds_toArray, List.set_cons_zero, List.set_cons_succ]
        refine wpAnyH_take (i := 5) (oi := { dst := some 91, op := Go.Op.fieldAddr 30 (Go.Operand.tmp 5) 1, type := 0, pos := "laws.go:447", after := #[{ on := 4, ground := Go.Ground.guard }], guard := some (4, true) }) (v := ?vp5_5) rfl (by kernel_rfl) (by kernel_rfl) (by kernel_rfl) (fun _ _ _ h => h) (Or.inl ⟨by rfl, ?hp5_5⟩) hHeld ?rp5_5
        case hp5_5 =>
          intro wS hSw
          (try dsimp only at hSw)
          go_simp
          try with_reducible rfl
        case rp5_5 =>
        simp only [Act.put, List.setIfInBounds_toArray, List.set_cons_zero, List.set_cons_succ]
        refine wpAnyH_take (i := 6) (oi := { dst := some 92, op := Go.Op.fieldAddr 26 (Go.Operand.tmp 91) 0, type := 0, pos := "laws.go:447", after := #[{ on := 5, ground := Go.Ground.data }, { on := 4, ground := Go.Ground.guard }], guard := some (4, true) }) (v := ?vp6_6) rfl (by kernel_rfl) (by kernel_rfl) (by kernel_rfl) (fun _ _ _ h => h) (Or.inl ⟨by rfl, ?hp6_6⟩) hHeld ?rp6_6
        case hp6_6 =>
          intro wS hSw
          (try dsimp only at hSw)
          go_simp
          try with_reducible rfl
        case rp6_6 =>
        simp only [Act.put, List.setIfInBounds_toArray, List.set_cons_zero, List.set_cons_succ]
        refine wpAnyH_take (i := 7) (oi := { dst := some 93, op := Go.Op.load 2 (Go.Operand.tmp 92), type := 2, pos := "laws.go:447", after := #[{ on := 6, ground := Go.Ground.data }, { on := 4, ground := Go.Ground.guard }], guard := some (4, true) }) (v := ?vp7_7) rfl (by kernel_rfl) (by kernel_rfl) (by kernel_rfl) (fun _ _ _ h => h) (Or.inl ⟨by rfl, ?hp7_7⟩) hHeld ?rp7_7
        case hp7_7 =>
          intro wS hSw
          obtain ⟨yx0, yx1, yr0, yr1, yr2, yj0, yj1, yj2⟩ := unhide KEEP _ (unhide HUP _ hSw)
          obtain ⟨t0, t1⟩ := unhide KEEPT _ hSw
          clear hSw
          (try dsimp only at hSw)
          go_simp
          try with_reducible rfl
        case rp7_7 =>
        simp only [Act.put, List.setIfInBounds_toArray, List.set_cons_zero, List.set_cons_succ]
        refine wpAnyH_take (i := 8) (oi := { dst := some 94, op := Go.Op.fieldAddr 26 (Go.Operand.tmp 3) 0, type := 0, pos := "laws.go:447", after := #[{ on := 4, ground := Go.Ground.guard }], guard := some (4, true) }) (v := ?vp8_8) rfl (by kernel_rfl) (by kernel_rfl) (by kernel_rfl) (fun _ _ _ h => h) (Or.inl ⟨by rfl, ?hp8_8⟩) hHeld ?rp8_8
        case hp8_8 =>
          intro wS hSw
          (try dsimp only at hSw)
          go_simp
          try with_reducible rfl
        case rp8_8 =>
        simp only [Act.put, List.setIfInBounds_toArray, List.set_cons_zero, List.set_cons_succ]
        refine wpAnyH_take (i := 9) (oi := { dst := some 95, op := Go.Op.load 2 (Go.Operand.tmp 94), type := 2, pos := "laws.go:447", after := #[{ on := 8, ground := Go.Ground.data }, { on := 4, ground := Go.Ground.guard }], guard := some (4, true) }) (v := ?vp9_9) rfl (by kernel_rfl) (by kernel_rfl) (by kernel_rfl) (fun _ _ _ h => h) (Or.inl ⟨by rfl, ?hp9_9⟩) hHeld ?rp9_9
        case hp9_9 =>
          intro wS hSw
          obtain ⟨yx0, yx1, yr0, yr1, yr2, yj0, yj1, yj2⟩ := unhide KEEP _ (unhide HUP _ hSw)
          obtain ⟨t0, t1⟩ := unhide KEEPT _ hSw
          clear hSw
          (try dsimp only at hSw)
          go_simp
          try with_reducible rfl
        case rp9_9 =>
        simp only [Act.put, List.setIfInBounds_toArray, List.set_cons_zero, List.set_cons_succ]
        refine wpAnyH_take (i := 10) (oi := { dst := some 96, op := Go.Op.binOp Go.BinOp.add 2 (Go.Operand.tmp 95) (Go.Operand.const (Go.Value.int Go.IntKind.i64 1)) 2, type := 2, pos := "laws.go:447", after := #[{ on := 9, ground := Go.Ground.data }, { on := 4, ground := Go.Ground.guard }], guard := some (4, true) }) (v := ?vp10_10) rfl (by kernel_rfl) (by kernel_rfl) (by kernel_rfl) (fun _ _ _ h => h) (Or.inl ⟨by rfl, ?hp10_10⟩) hHeld ?rp10_10
        case hp10_10 =>
          intro wS hSw
          clear hSw
          have v1 := w1
          (try dsimp only at hSw)
          go_simp
          try with_reducible rfl
        case rp10_10 =>
        simp only [Act.put, List.setIfInBounds_toArray, List.set_cons_zero, List.set_cons_succ]
        refine wpAnyH_take (i := 11) (oi := { dst := some 97, op := Go.Op.binOp Go.BinOp.eql 2 (Go.Operand.tmp 93) (Go.Operand.tmp 96) 2, type := 4, pos := "laws.go:447", after := #[{ on := 7, ground := Go.Ground.data }, { on := 10, ground := Go.Ground.data }, { on := 4, ground := Go.Ground.guard }], guard := some (4, true) }) (v := ?vp11_11) rfl (by kernel_rfl) (by kernel_rfl) (by kernel_rfl) (fun _ _ _ h => h) (Or.inl ⟨by rfl, ?hp11_11⟩) hHeld ?rp11_11
        case hp11_11 =>
          intro wS hSw
          clear hSw
          have v1 := w1
          (try dsimp only at hSw)
          go_simp
          try with_reducible rfl
        case rp11_11 =>
        simp only [Act.put, List.setIfInBounds_toArray, List.set_cons_zero, List.set_cons_succ]
        refine wpAnyH_take (i := 12) (oi := { dst := some 98, op := Go.Op.pick (Go.Operand.tmp 90) (Go.Operand.tmp 97) (Go.Operand.const (Go.Value.bool false)), type := 4, pos := "laws.go:447", after := #[{ on := 4, ground := Go.Ground.data }, { on := 11, ground := Go.Ground.data }], guard := none }) (v := ?vp12_12) rfl (by kernel_rfl) (by kernel_rfl) (by kernel_rfl) (fun _ _ _ h => h) (Or.inl ⟨by rfl, ?hp12_12⟩) hHeld ?rp12_12
        case hp12_12 =>
          intro wS hSw
          (try dsimp only at hSw)
          go_simp
          try with_reducible rfl
        case rp12_12 =>
        simp only [Act.put, List.setIfInBounds_toArray, List.set_cons_zero, List.set_cons_succ]
        refine wpAnyH_take (i := 13) (oi := { dst := some 99, op := Go.Op.move (Go.Operand.tmp 98), type := 4, pos := "laws.go:447", after := #[{ on := 12, ground := Go.Ground.data }, { on := 4, ground := Go.Ground.chain }], guard := none }) (v := ?vp13_13) rfl (by kernel_rfl) (by kernel_rfl) (by kernel_rfl) (fun _ _ _ h => h) (Or.inl ⟨by rfl, ?hp13_13⟩) hHeld ?rp13_13
        case hp13_13 =>
          intro wS hSw
          (try dsimp only at hSw)
          go_simp
          try with_reducible rfl
        case rp13_13 =>
        simp only [Act.put, List.setIfInBounds_toArray, List.set_cons_zero, List.set_cons_succ]
        refine wpAnyH_take (i := 14) (oi := { dst := some 100, op := Go.Op.fieldAddr 30 (Go.Operand.tmp 5) 1, type := 0, pos := "laws.go:447", after := #[{ on := 13, ground := Go.Ground.guard }], guard := some (13, true) }) (v := ?vp14_14) rfl (by kernel_rfl) (by kernel_rfl) (by kernel_rfl) (fun _ _ _ h => h) (Or.inl ⟨by rfl, ?hp14_14⟩) hHeld ?rp14_14
        case hp14_14 =>
          intro wS hSw
          (try dsimp only at hSw)
          go_simp
          try with_reducible rfl
        case rp14_14 =>
        simp only [Act.put, List.setIfInBounds_toArray, List.set_cons_zero, List.set_cons_succ]
        refine wpAnyH_take (i := 15) (oi := { dst := some 101, op := Go.Op.fieldAddr 26 (Go.Operand.tmp 100) 1, type := 0, pos := "laws.go:447", after := #[{ on := 14, ground := Go.Ground.data }, { on := 13, ground := Go.Ground.guard }], guard := some (13, true) }) (v := ?vp15_15) rfl (by kernel_rfl) (by kernel_rfl) (by kernel_rfl) (fun _ _ _ h => h) (Or.inl ⟨by rfl, ?hp15_15⟩) hHeld ?rp15_15
        case hp15_15 =>
          intro wS hSw
          (try dsimp only at hSw)
          go_simp
          try with_reducible rfl
        case rp15_15 =>
        simp only [Act.put, List.setIfInBounds_toArray, List.set_cons_zero, List.set_cons_succ]
        refine wpAnyH_take (i := 16) (oi := { dst := some 102, op := Go.Op.load 24 (Go.Operand.tmp 101), type := 24, pos := "laws.go:447", after := #[{ on := 15, ground := Go.Ground.data }, { on := 13, ground := Go.Ground.guard }], guard := some (13, true) }) (v := ?vp16_16) rfl (by kernel_rfl) (by kernel_rfl) (by kernel_rfl) (fun _ _ _ h => h) (Or.inl ⟨by rfl, ?hp16_16⟩) hHeld ?rp16_16
        case hp16_16 =>
          intro wS hSw
          obtain ⟨yx0, yx1, yr0, yr1, yr2, yj0, yj1, yj2⟩ := unhide KEEP _ (unhide HUP _ hSw)
          obtain ⟨t0, t1⟩ := unhide KEEPT _ hSw
          clear hSw
          (try dsimp only at hSw)
          go_simp
          try with_reducible rfl
        case rp16_16 =>
        simp only [Act.put, List.setIfInBounds_toArray, List.set_cons_zero, List.set_cons_succ]
        refine wpAnyH_take (i := 17) (oi := { dst := some 103, op := Go.Op.call { callee := Go.Callee.builtin Go.Builtin.len, args := #[Go.Operand.tmp 102], argTypes := #[24] }, type := 3, pos := "laws.go:447", after := #[{ on := 16, ground := Go.Ground.data }, { on := 13, ground := Go.Ground.guard }], guard := some (13, true) }) (v := ?vp17_17) rfl (by kernel_rfl) (by kernel_rfl) (by kernel_rfl) (fun _ _ _ h => h) (Or.inl ⟨by rfl, ?hp17_17⟩) hHeld ?rp17_17
        case hp17_17 =>
          intro wS hSw
          (try dsimp only at hSw)
          go_simp
          try with_reducible rfl
        case rp17_17 =>
        simp only [Act.put, List.setIfInBounds_toArray, List.set_cons_zero, List.set_cons_succ]
        refine wpAnyH_take (i := 18) (oi := { dst := some 104, op := Go.Op.fieldAddr 26 (Go.Operand.tmp 3) 1, type := 0, pos := "laws.go:447", after := #[{ on := 13, ground := Go.Ground.guard }], guard := some (13, true) }) (v := ?vp18_18) rfl (by kernel_rfl) (by kernel_rfl) (by kernel_rfl) (fun _ _ _ h => h) (Or.inl ⟨by rfl, ?hp18_18⟩) hHeld ?rp18_18
        case hp18_18 =>
          intro wS hSw
          (try dsimp only at hSw)
          go_simp
          try with_reducible rfl
        case rp18_18 =>
        simp only [Act.put, List.setIfInBounds_toArray, List.set_cons_zero, List.set_cons_succ]
        refine wpAnyH_take (i := 19) (oi := { dst := some 105, op := Go.Op.load 24 (Go.Operand.tmp 104), type := 24, pos := "laws.go:447", after := #[{ on := 18, ground := Go.Ground.data }, { on := 13, ground := Go.Ground.guard }], guard := some (13, true) }) (v := ?vp19_19) rfl (by kernel_rfl) (by kernel_rfl) (by kernel_rfl) (fun _ _ _ h => h) (Or.inl ⟨by rfl, ?hp19_19⟩) hHeld ?rp19_19
        case hp19_19 =>
          intro wS hSw
          obtain ⟨yx0, yx1, yr0, yr1, yr2, yj0, yj1, yj2⟩ := unhide KEEP _ (unhide HUP _ hSw)
          obtain ⟨t0, t1⟩ := unhide KEEPT _ hSw
          clear hSw
          (try dsimp only at hSw)
          go_simp
          try with_reducible rfl
        case rp19_19 =>
        simp only [Act.put, List.setIfInBounds_toArray, List.set_cons_zero, List.set_cons_succ]
        refine wpAnyH_take (i := 20) (oi := { dst := some 106, op := Go.Op.call { callee := Go.Callee.builtin Go.Builtin.len, args := #[Go.Operand.tmp 105], argTypes := #[24] }, type := 3, pos := "laws.go:447", after := #[{ on := 19, ground := Go.Ground.data }, { on := 13, ground := Go.Ground.guard }], guard := some (13, true) }) (v := ?vp20_20) rfl (by kernel_rfl) (by kernel_rfl) (by kernel_rfl) (fun _ _ _ h => h) (Or.inl ⟨by rfl, ?hp20_20⟩) hHeld ?rp20_20
        case hp20_20 =>
          intro wS hSw
          (try dsimp only at hSw)
          go_simp
          try with_reducible rfl
        case rp20_20 =>
        simp only [Act.put, List.setIfInBounds_toArray, List.set_cons_zero, List.set_cons_succ]
        refine wpAnyH_take (i := 21) (oi := { dst := some 107, op := Go.Op.binOp Go.BinOp.sub 3 (Go.Operand.tmp 106) (Go.Operand.const (Go.Value.int Go.IntKind.i64 1)) 3, type := 3, pos := "laws.go:447", after := #[{ on := 20, ground := Go.Ground.data }, { on := 13, ground := Go.Ground.guard }], guard := some (13, true) }) (v := ?vp21_21) rfl (by kernel_rfl) (by kernel_rfl) (by kernel_rfl) (fun _ _ _ h => h) (Or.inl ⟨by rfl, ?hp21_21⟩) hHeld ?rp21_21
        case hp21_21 =>
          intro wS hSw
          clear hSw
          have v2 := w2
          (try dsimp only at hSw)
          go_simp
          try with_reducible rfl
        case rp21_21 =>
        simp only [Act.put, List.setIfInBounds_toArray, List.set_cons_zero, List.set_cons_succ]
        refine wpAnyH_take (i := 22) (oi := { dst := some 108, op := Go.Op.binOp Go.BinOp.eql 3 (Go.Operand.tmp 103) (Go.Operand.tmp 107) 3, type := 4, pos := "laws.go:447", after := #[{ on := 17, ground := Go.Ground.data }, { on := 21, ground := Go.Ground.data }, { on := 13, ground := Go.Ground.guard }], guard := some (13, true) }) (v := ?vp22_22) rfl (by kernel_rfl) (by kernel_rfl) (by kernel_rfl) (fun _ _ _ h => h) (Or.inl ⟨by rfl, ?hp22_22⟩) hHeld ?rp22_22
        case hp22_22 =>
          intro wS hSw
          clear hSw
          have v2 := w2
          (try dsimp only at hSw)
          go_simp
          try with_reducible rfl
        case rp22_22 =>
        simp only [Act.put, List.setIfInBounds_toArray, List.set_cons_zero, List.set_cons_succ]
        refine wpAnyH_take (i := 23) (oi := { dst := some 109, op := Go.Op.pick (Go.Operand.tmp 99) (Go.Operand.tmp 108) (Go.Operand.const (Go.Value.bool false)), type := 4, pos := "laws.go:447", after := #[{ on := 13, ground := Go.Ground.data }, { on := 22, ground := Go.Ground.data }], guard := none }) (v := ?vp23_23) rfl (by kernel_rfl) (by kernel_rfl) (by kernel_rfl) (fun _ _ _ h => h) (Or.inl ⟨by rfl, ?hp23_23⟩) hHeld ?rp23_23
        case hp23_23 =>
          intro wS hSw
          (try dsimp only at hSw)
          go_simp
          try with_reducible rfl
        case rp23_23 =>
        simp only [Act.put, List.setIfInBounds_toArray, List.set_cons_zero, List.set_cons_succ]
        refine wpAnyH_take (i := 24) (oi := { dst := some 110, op := Go.Op.move (Go.Operand.tmp 109), type := 4, pos := "laws.go:447", after := #[{ on := 23, ground := Go.Ground.data }, { on := 13, ground := Go.Ground.chain }], guard := none }) (v := ?vp24_24) rfl (by kernel_rfl) (by kernel_rfl) (by kernel_rfl) (fun _ _ _ h => h) (Or.inl ⟨by rfl, ?hp24_24⟩) hHeld ?rp24_24
        case hp24_24 =>
          intro wS hSw
          (try dsimp only at hSw)
          go_simp
          try with_reducible rfl
        case rp24_24 =>
        simp only [Act.put, List.setIfInBounds_toArray, List.set_cons_zero, List.set_cons_succ]
        refine wpAnyH_take (i := 25) (oi := { dst := some 111, op := Go.Op.fieldAddr 30 (Go.Operand.tmp 5) 1, type := 0, pos := "laws.go:447", after := #[{ on := 24, ground := Go.Ground.guard }], guard := some (24, true) }) (v := ?vp25_25) rfl (by kernel_rfl) (by kernel_rfl) (by kernel_rfl) (fun _ _ _ h => h) (Or.inl ⟨by rfl, ?hp25_25⟩) hHeld ?rp25_25
        case hp25_25 =>
          intro wS hSw
          (try dsimp only at hSw)
          go_simp
          try with_reducible rfl
        case rp25_25 =>
        simp only [Act.put, List.setIfInBounds_toArray, List.set_cons_zero, List.set_cons_succ]
        refine wpAnyH_take (i := 26) (oi := { dst := some 112, op := Go.Op.load 26 (Go.Operand.tmp 111), type := 26, pos := "laws.go:447", after := #[{ on := 25, ground := Go.Ground.data }, { on := 24, ground := Go.Ground.guard }], guard := some (24, true) }) (v := ?vp26_26) rfl (by kernel_rfl) (by kernel_rfl) (by kernel_rfl) (fun _ _ _ h => h) (Or.inl ⟨by rfl, ?hp26_26⟩) hHeld ?rp26_26
        case hp26_26 =>
          intro wS hSw
          obtain ⟨yx0, yx1, yr0, yr1, yr2, yj0, yj1, yj2⟩ := unhide KEEP _ (unhide HUP _ hSw)
          obtain ⟨t0, t1⟩ := unhide KEEPT _ hSw
          clear hSw
          (try dsimp only at hSw)
          go_simp
          try with_reducible rfl
        case rp26_26 =>
        simp only [Act.put, List.setIfInBounds_toArray, List.set_cons_zero, List.set_cons_succ]
        refine wpAnyH_take (i := 27) (oi := { dst := some 113, op := Go.Op.move (Go.Operand.tmp 4), type := 2, pos := "laws.go:447", after := #[{ on := 24, ground := Go.Ground.guard }], guard := some (24, true) }) (v := ?vp27_27) rfl (by kernel_rfl) (by kernel_rfl) (by kernel_rfl) (fun _ _ _ h => h) (Or.inl ⟨by rfl, ?hp27_27⟩) hHeld ?rp27_27
        case hp27_27 =>
          intro wS hSw
          (try dsimp only at hSw)
          go_simp
          try with_reducible rfl
        case rp27_27 =>
        simp only [Act.put, List.setIfInBounds_toArray, List.set_cons_zero, List.set_cons_succ]
        refine wpAnyH_ready (rs := [28]) (by kernel_rfl) (by simp) ?_
        refine AllReadyH.cons (o := { dst := some 114, op := Go.Op.call { callee := Go.Callee.value (Go.Operand.func 12), args := #[Go.Operand.tmp 112, Go.Operand.tmp 113], argTypes := #[26, 2] }, type := 34, pos := "laws.go:447", after := #[{ on := 26, ground := Go.Ground.data }, { on := 27, ground := Go.Ground.data }, { on := 24, ground := Go.Ground.chain }, { on := 24, ground := Go.Ground.guard }], guard := some (24, true) }) rfl (fun K hK => ?_) AllReadyH.nil
        go_simp
        go_at_call 12
        refine (unhide LN _ (unhide HUP _ hHeld)).mono ?_
        rintro e v2 ⟨rfl, hbw⟩
        try go_wp2_with fail
        refine hK.out _ _ (hHeld.trans (hbw.mono hHeld.size)) (fun hHeld => ?_)
        clear hK K
        try simp only [Act.put, List.setIfInBounds_toArray, List.set_cons_zero, List.set_cons_succ]
        refine wpAnyH_take (i := 29) (oi := { dst := some 115, op := Go.Op.field 34 (Go.Operand.tmp 114) 0, type := 2, pos := "laws.go:447", after := #[{ on := 28, ground := Go.Ground.data }, { on := 24, ground := Go.Ground.guard }], guard := some (24, true) }) (v := ?vp29_28) rfl (by kernel_rfl) (by kernel_rfl) (by kernel_rfl) (fun _ _ _ h => h) (Or.inl ⟨by rfl, ?hp29_28⟩) hHeld ?rp29_28
        case hp29_28 =>
          intro wS hSw
          have yf := hf0
          clear hSw
          (try dsimp only at hSw)
          go_simp
          try with_reducible rfl
        case rp29_28 =>
        simp only [Act.put, List.setIfInBounds_toArray, List.set_cons_zero, List.set_cons_succ]
        refine wpAnyH_take (i := 30) (oi := { dst := some 116, op := Go.Op.binOp Go.BinOp.eql 2 (Go.Operand.tmp 115) (Go.Operand.const (Go.Value.int Go.IntKind.i64 4)) 2, type := 4, pos := "laws.go:447", after := #[{ on := 29, ground := Go.Ground.data }, { on := 24, ground := Go.Ground.guard }], guard := some (24, true) }) (v := ?vp30_29) rfl (by kernel_rfl) (by kernel_rfl) (by kernel_rfl) (fun _ _ _ h => h) (Or.inl ⟨by rfl, ?hp30_29⟩) hHeld ?rp30_29
        case hp30_29 =>
          intro wS hSw
          (try dsimp only at hSw)
          go_simp
          try with_reducible rfl
        case rp30_29 =>
        simp only [Act.put, List.setIfInBounds_toArray, List.set_cons_zero, List.set_cons_succ]
        refine wpAnyH_take (i := 31) (oi := { dst := some 117, op := Go.Op.pick (Go.Operand.tmp 110) (Go.Operand.tmp 116) (Go.Operand.const (Go.Value.bool false)), type := 4, pos := "laws.go:447", after := #[{ on := 24, ground := Go.Ground.data }, { on := 30, ground := Go.Ground.data }], guard := none }) (v := ?vp31_30) rfl (by kernel_rfl) (by kernel_rfl) (by kernel_rfl) (fun _ _ _ h => h) (Or.inl ⟨by rfl, ?hp31_30⟩) hHeld ?rp31_30
        case hp31_30 =>
          intro wS hSw
          (try dsimp only at hSw)
          go_simp
          try with_reducible rfl
        case rp31_30 =>
        simp only [Act.put, List.setIfInBounds_toArray, List.set_cons_zero, List.set_cons_succ]
        refine wpAnyH_take (i := 32) (oi := { dst := some 118, op := Go.Op.move (Go.Operand.tmp 117), type := 4, pos := "laws.go:447", after := #[{ on := 31, ground := Go.Ground.data }, { on := 28, ground := Go.Ground.chain }], guard := none }) (v := ?vp32_31) rfl (by kernel_rfl) (by kernel_rfl) (by kernel_rfl) (fun _ _ _ h => h) (Or.inl ⟨by rfl, ?hp32_31⟩) hHeld ?rp32_31
        case hp32_31 =>
          intro wS hSw
          (try dsimp only at hSw)
          go_simp
          try with_reducible rfl
        case rp32_31 =>
        simp only [Act.put, List.setIfInBounds_toArray, List.set_cons_zero, List.set_cons_succ]
        refine wpAnyH_take (i := 33) (oi := { dst := some 119, op := Go.Op.fieldAddr 30 (Go.Operand.tmp 6) 0, type := 0, pos := "laws.go:447", after := #[{ on := 32, ground := Go.Ground.guard }], guard := some (32, true) }) (v := ?vp33_32) rfl (by kernel_rfl) (by kernel_rfl) (by kernel_rfl) (fun _ _ _ h => h) (Or.inl ⟨by rfl, ?hp33_32⟩) hHeld ?rp33_32
        case hp33_32 =>
          intro wS hSw
          (try dsimp only at hSw)
          go_simp
          try with_reducible rfl
        case rp33_32 =>
        simp only [Act.put, List.setIfInBounds_toArray, List.set_cons_zero, List.set_cons_succ]
        refine wpAnyH_take (i := 34) (oi := { dst := some 120, op := Go.Op.load 2 (Go.Operand.tmp 119), type := 2, pos := "laws.go:447", after := #[{ on := 33, ground := Go.Ground.data }, { on := 32, ground := Go.Ground.guard }], guard := some (32, true) }) (v := ?vp34_33) rfl (by kernel_rfl) (by kernel_rfl) (by kernel_rfl) (fun _ _ _ h => h) (Or.inl ⟨by rfl, ?hp34_33⟩) hHeld ?rp34_33
        case hp34_33 =>
          intro wS hSw
          obtain ⟨yx0, yx1, yr0, yr1, yr2, yj0, yj1, yj2⟩ := unhide KEEP _ (unhide HUP _ hSw)
          obtain ⟨t0, t1⟩ := unhide KEEPT _ hSw
          clear hSw
          (try dsimp only at hSw)
          go_simp
          try with_reducible rfl
        case rp34_33 =>
        simp only [Act.put, List.setIfInBounds_toArray, List.set_cons_zero, List.set_cons_succ]
        refine wpAnyH_take (i := 35) (oi := { dst := some 121, op := Go.Op.binOp Go.BinOp.eql 2 (Go.Operand.tmp 120) (Go.Operand.const (Go.Value.int Go.IntKind.i64 2)) 2, type := 4, pos := "laws.go:447", after := #[{ on := 34, ground := Go.Ground.data }, { on := 32, ground := Go.Ground.guard }], guard := some (32, true) }) (v := ?vp35_34) rfl (by kernel_rfl) (by kernel_rfl) (by kernel_rfl) (fun _ _ _ h => h) (Or.inl ⟨by rfl, ?hp35_34⟩) hHeld ?rp35_34
        case hp35_34 =>
          intro wS hSw
          (try dsimp only at hSw)
          go_simp
          try with_reducible rfl
        case rp35_34 =>
        simp only [Act.put, List.setIfInBounds_toArray, List.set_cons_zero, List.set_cons_succ]
        refine wpAnyH_take (i := 36) (oi := { dst := some 122, op := Go.Op.move (Go.Operand.tmp 121), type := 4, pos := "laws.go:447", after := #[{ on := 35, ground := Go.Ground.data }, { on := 32, ground := Go.Ground.chain }, { on := 32, ground := Go.Ground.guard }], guard := some (32, true) }) (v := ?vp36_35) rfl (by kernel_rfl) (by kernel_rfl) (by kernel_rfl) (fun _ _ _ h => h) (Or.inl ⟨by rfl, ?hp36_35⟩) hHeld ?rp36_35
        case hp36_35 =>
          intro wS hSw
          (try dsimp only at hSw)
          go_simp
          try with_reducible rfl
        case rp36_35 =>
        simp only [Act.put, List.setIfInBounds_toArray, List.set_cons_zero, List.set_cons_succ]
        refine wpAnyH_take (i := 37) (oi := { dst := some 123, op := Go.Op.fieldAddr 30 (Go.Operand.tmp 6) 0, type := 0, pos := "laws.go:447", after := #[{ on := 36, ground := Go.Ground.guard }], guard := some (36, false) }) (v := undef) rfl (by kernel_rfl) (by kernel_rfl) (by kernel_rfl) (fun _ _ _ h => h) (Or.inr ⟨by rfl, rfl⟩) hHeld ?_
        simp only [Act.put, List.setIfInBounds_toArray, List.set_cons_zero, List.set_cons_succ]
        refine wpAnyH_take (i := 38) (oi := { dst := some 124, op := Go.Op.load 2 (Go.Operand.tmp 123), type := 2, pos := "laws.go:447", after := #[{ on := 37, ground := Go.Ground.data }, { on := 36, ground := Go.Ground.guard }], guard := some (36, false) }) (v := undef) rfl (by kernel_rfl) (by kernel_rfl) (by kernel_rfl) (fun _ _ _ h => h) (Or.inr ⟨by rfl, rfl⟩) hHeld ?_
        simp only [Act.put, List.setIfInBounds_toArray, List.set_cons_zero, List.set_cons_succ]
        refine wpAnyH_take (i := 39) (oi := { dst := some 125, op := Go.Op.binOp Go.BinOp.eql 2 (Go.Operand.tmp 124) (Go.Operand.const (Go.Value.int Go.IntKind.i64 0)) 2, type := 4, pos := "laws.go:447", after := #[{ on := 38, ground := Go.Ground.data }, { on := 36, ground := Go.Ground.guard }], guard := some (36, false) }) (v := undef) rfl (by kernel_rfl) (by kernel_rfl) (by kernel_rfl) (fun _ _ _ h => h) (Or.inr ⟨by rfl, rfl⟩) hHeld ?_
        simp only [Act.put, List.setIfInBounds_toArray, List.set_cons_zero, List.set_cons_succ]
        refine wpAnyH_take (i := 40) (oi := { dst := some 126, op := Go.Op.move (Go.Operand.tmp 125), type := 4, pos := "laws.go:447", after := #[{ on := 39, ground := Go.Ground.data }, { on := 36, ground := Go.Ground.chain }, { on := 36, ground := Go.Ground.guard }], guard := some (36, false) }) (v := undef) rfl (by kernel_rfl) (by kernel_rfl) (by kernel_rfl) (fun _ _ _ h => h) (Or.inr ⟨by rfl, rfl⟩) hHeld ?_
        simp only [Act.put, List.setIfInBounds_toArray, List.set_cons_zero, List.set_cons_succ]
        refine wpAnyH_take (i := 41) (oi := { dst := some 127, op := Go.Op.fieldAddr 30 (Go.Operand.tmp 6) 1, type := 0, pos := "laws.go:447", after := #[{ on := 40, ground := Go.Ground.guard }], guard := some (40, true) }) (v := undef) rfl (by kernel_rfl) (by kernel_rfl) (by kernel_rfl) (fun _ _ _ h => h) (Or.inr ⟨by rfl, rfl⟩) hHeld ?_
        simp only [Act.put, List.setIfInBounds_toArray, List.set_cons_zero, List.set_cons_succ]
        refine wpAnyH_take (i := 42) (oi := { dst := some 128, op := Go.Op.fieldAddr 26 (Go.Operand.tmp 127) 1, type := 0, pos := "laws.go:447", after := #[{ on := 41, ground := Go.Ground.data }, { on := 40, ground := Go.Ground.guard }], guard := some (40, true) }) (v := undef) rfl (by kernel_rfl) (by kernel_rfl) (by kernel_rfl) (fun _ _ _ h => h) (Or.inr ⟨by rfl, rfl⟩) hHeld ?_
        simp only [Act.put, List.setIfInBounds_toArray, List.set_cons_zero, List.set_cons_succ]
        refine wpAnyH_take (i := 43) (oi := { dst := some 129, op := Go.Op.load 24 (Go.Operand.tmp 128), type := 24, pos := "laws.go:447", after := #[{ on := 42, ground := Go.Ground.data }, { on := 40, ground := Go.Ground.guard }], guard := some (40, true) }) (v := undef) rfl (by kernel_rfl) (by kernel_rfl) (by kernel_rfl) (fun _ _ _ h => h) (Or.inr ⟨by rfl, rfl⟩) hHeld ?_
        simp only [Act.put, List.setIfInBounds_toArray, List.set_cons_zero, List.set_cons_succ]
        refine wpAnyH_take (i := 44) (oi := { dst := some 130, op := Go.Op.call { callee := Go.Callee.builtin Go.Builtin.len, args := #[Go.Operand.tmp 129], argTypes := #[24] }, type := 3, pos := "laws.go:447", after := #[{ on := 43, ground := Go.Ground.data }, { on := 40, ground := Go.Ground.guard }], guard := some (40, true) }) (v := undef) rfl (by kernel_rfl) (by kernel_rfl) (by kernel_rfl) (fun _ _ _ h => h) (Or.inr ⟨by rfl, rfl⟩) hHeld ?_
        simp only [Act.put, List.setIfInBounds_toArray, List.set_cons_zero, List.set_cons_succ]
        refine wpAnyH_take (i := 45) (oi := { dst := some 131, op := Go.Op.fieldAddr 26 (Go.Operand.tmp 3) 1, type := 0, pos := "laws.go:447", after := #[{ on := 40, ground := Go.Ground.guard }], guard := some (40, true) }) (v := undef) rfl (by kernel_rfl) (by kernel_rfl) (by kernel_rfl) (fun _ _ _ h => h) (Or.inr ⟨by rfl, rfl⟩) hHeld ?_
        simp only [Act.put, List.setIfInBounds_toArray, List.set_cons_zero, List.set_cons_succ]
        refine wpAnyH_take (i := 46) (oi := { dst := some 132, op := Go.Op.load 24 (Go.Operand.tmp 131), type := 24, pos := "laws.go:447", after := #[{ on := 45, ground := Go.Ground.data }, { on := 40, ground := Go.Ground.guard }], guard := some (40, true) }) (v := undef) rfl (by kernel_rfl) (by kernel_rfl) (by kernel_rfl) (fun _ _ _ h => h) (Or.inr ⟨by rfl, rfl⟩) hHeld ?_
        simp only [Act.put, List.setIfInBounds_toArray, List.set_cons_zero, List.set_cons_succ]
        refine wpAnyH_take (i := 47) (oi := { dst := some 133, op := Go.Op.call { callee := Go.Callee.builtin Go.Builtin.len, args := #[Go.Operand.tmp 132], argTypes := #[24] }, type := 3, pos := "laws.go:447", after := #[{ on := 46, ground := Go.Ground.data }, { on := 40, ground := Go.Ground.guard }], guard := some (40, true) }) (v := undef) rfl (by kernel_rfl) (by kernel_rfl) (by kernel_rfl) (fun _ _ _ h => h) (Or.inr ⟨by rfl, rfl⟩) hHeld ?_
        simp only [Act.put, List.setIfInBounds_toArray, List.set_cons_zero, List.set_cons_succ]
        refine wpAnyH_take (i := 48) (oi := { dst := some 134, op := Go.Op.binOp Go.BinOp.eql 3 (Go.Operand.tmp 130) (Go.Operand.tmp 133) 3, type := 4, pos := "laws.go:447", after := #[{ on := 44, ground := Go.Ground.data }, { on := 47, ground := Go.Ground.data }, { on := 40, ground := Go.Ground.guard }], guard := some (40, true) }) (v := undef) rfl (by kernel_rfl) (by kernel_rfl) (by kernel_rfl) (fun _ _ _ h => h) (Or.inr ⟨by rfl, rfl⟩) hHeld ?_
        simp only [Act.put, List.setIfInBounds_toArray, List.set_cons_zero, List.set_cons_succ]
        refine wpAnyH_take (i := 49) (oi := { dst := some 135, op := Go.Op.pick (Go.Operand.tmp 126) (Go.Operand.tmp 134) (Go.Operand.const (Go.Value.bool false)), type := 4, pos := "laws.go:447", after := #[{ on := 40, ground := Go.Ground.data }, { on := 48, ground := Go.Ground.data }, { on := 36, ground := Go.Ground.guard }], guard := some (36, false) }) (v := undef) rfl (by kernel_rfl) (by kernel_rfl) (by kernel_rfl) (fun _ _ _ h => h) (Or.inr ⟨by rfl, rfl⟩) hHeld ?_
        simp only [Act.put, List.setIfInBounds_toArray, List.set_cons_zero, List.set_cons_succ]
        refine wpAnyH_take (i := 50) (oi := { dst := some 136, op := Go.Op.move (Go.Operand.tmp 135), type := 4, pos := "laws.go:447", after := #[{ on := 49, ground := Go.Ground.data }, { on := 40, ground := Go.Ground.chain }, { on := 36, ground := Go.Ground.guard }], guard := some (36, false) }) (v := undef) rfl (by kernel_rfl) (by kernel_rfl) (by kernel_rfl) (fun _ _ _ h => h) (Or.inr ⟨by rfl, rfl⟩) hHeld ?_
        simp only [Act.put, List.setIfInBounds_toArray, List.set_cons_zero, List.set_cons_succ]
        refine wpAnyH_take (i := 51) (oi := { dst := some 137, op := Go.Op.fieldAddr 30 (Go.Operand.tmp 6) 1, type := 0, pos := "laws.go:447", after := #[{ on := 50, ground := Go.Ground.guard }], guard := some (50, true) }) (v := undef) rfl (by kernel_rfl) (by kernel_rfl) (by kernel_rfl) (fun _ _ _ h => h) (Or.inr ⟨by rfl, rfl⟩) hHeld ?_
        simp only [Act.put, List.setIfInBounds_toArray, List.set_cons_zero, List.set_cons_succ]
        refine wpAnyH_take (i := 52) (oi := { dst := some 138, op := Go.Op.fieldAddr 26 (Go.Operand.tmp 137) 1, type := 0, pos := "laws.go:447", after := #[{ on := 51, ground := Go.Ground.data }, { on := 50, ground := Go.Ground.guard }], guard := some (50, true) }) (v := undef) rfl (by kernel_rfl) (by kernel_rfl) (by kernel_rfl) (fun _ _ _ h => h) (Or.inr ⟨by rfl, rfl⟩) hHeld ?_
        simp only [Act.put, List.setIfInBounds_toArray, List.set_cons_zero, List.set_cons_succ]
        refine wpAnyH_take (i := 53) (oi := { dst := some 139, op := Go.Op.load 24 (Go.Operand.tmp 138), type := 24, pos := "laws.go:447", after := #[{ on := 52, ground := Go.Ground.data }, { on := 50, ground := Go.Ground.guard }], guard := some (50, true) }) (v := undef) rfl (by kernel_rfl) (by kernel_rfl) (by kernel_rfl) (fun _ _ _ h => h) (Or.inr ⟨by rfl, rfl⟩) hHeld ?_
        simp only [Act.put, List.setIfInBounds_toArray, List.set_cons_zero, List.set_cons_succ]
        refine wpAnyH_take (i := 54) (oi := { dst := some 140, op := Go.Op.fieldAddr 26 (Go.Operand.tmp 3) 1, type := 0, pos := "laws.go:447", after := #[{ on := 50, ground := Go.Ground.guard }], guard := some (50, true) }) (v := undef) rfl (by kernel_rfl) (by kernel_rfl) (by kernel_rfl) (fun _ _ _ h => h) (Or.inr ⟨by rfl, rfl⟩) hHeld ?_
        simp only [Act.put, List.setIfInBounds_toArray, List.set_cons_zero, List.set_cons_succ]
        refine wpAnyH_take (i := 55) (oi := { dst := some 141, op := Go.Op.load 24 (Go.Operand.tmp 140), type := 24, pos := "laws.go:447", after := #[{ on := 54, ground := Go.Ground.data }, { on := 50, ground := Go.Ground.guard }], guard := some (50, true) }) (v := undef) rfl (by kernel_rfl) (by kernel_rfl) (by kernel_rfl) (fun _ _ _ h => h) (Or.inr ⟨by rfl, rfl⟩) hHeld ?_
        simp only [Act.put, List.setIfInBounds_toArray, List.set_cons_zero, List.set_cons_succ]
        refine wpAnyH_take (i := 56) (oi := { dst := some 142, op := Go.Op.call { callee := Go.Callee.builtin Go.Builtin.len, args := #[Go.Operand.tmp 141], argTypes := #[24] }, type := 3, pos := "laws.go:447", after := #[{ on := 55, ground := Go.Ground.data }, { on := 50, ground := Go.Ground.guard }], guard := some (50, true) }) (v := undef) rfl (by kernel_rfl) (by kernel_rfl) (by kernel_rfl) (fun _ _ _ h => h) (Or.inr ⟨by rfl, rfl⟩) hHeld ?_
        simp only [Act.put, List.setIfInBounds_toArray, List.set_cons_zero, List.set_cons_succ]
        refine wpAnyH_take (i := 57) (oi := { dst := some 143, op := Go.Op.binOp Go.BinOp.sub 3 (Go.Operand.tmp 142) (Go.Operand.const (Go.Value.int Go.IntKind.i64 1)) 3, type := 3, pos := "laws.go:447", after := #[{ on := 56, ground := Go.Ground.data }, { on := 50, ground := Go.Ground.guard }], guard := some (50, true) }) (v := undef) rfl (by kernel_rfl) (by kernel_rfl) (by kernel_rfl) (fun _ _ _ h => h) (Or.inr ⟨by rfl, rfl⟩) hHeld ?_
        simp only [Act.put, List.setIfInBounds_toArray, List.set_cons_zero, List.set_cons_succ]
        refine wpAnyH_take (i := 58) (oi := { dst := some 144, op := Go.Op.indexAddr 24 (Go.Operand.tmp 139) (Go.Operand.tmp 143), type := 0, pos := "laws.go:447", after := #[{ on := 53, ground := Go.Ground.data }, { on := 57, ground := Go.Ground.data }, { on := 50, ground := Go.Ground.guard }], guard := some (50, true) }) (v := undef) rfl (by kernel_rfl) (by kernel_rfl) (by kernel_rfl) (fun _ _ _ h => h) (Or.inr ⟨by rfl, rfl⟩) hHeld ?_
        simp only [Act.put, List.setIfInBounds_toArray, List.set_cons_zero, List.set_cons_succ]
        refine wpAnyH_take (i := 59) (oi := { dst := some 145, op := Go.Op.load 2 (Go.Operand.tmp 144), type := 2, pos := "laws.go:447", after := #[{ on := 58, ground := Go.Ground.data }, { on := 50, ground := Go.Ground.guard }], guard := some (50, true) }) (v := undef) rfl (by kernel_rfl) (by kernel_rfl) (by kernel_rfl) (fun _ _ _ h => h) (Or.inr ⟨by rfl, rfl⟩) hHeld ?_
        simp only [Act.put, List.setIfInBounds_toArray, List.set_cons_zero, List.set_cons_succ]
        refine wpAnyH_take (i := 60) (oi := { dst := some 146, op := Go.Op.move (Go.Operand.tmp 4), type := 2, pos := "laws.go:447", after := #[{ on := 50, ground := Go.Ground.guard }], guard := some (50, true) }) (v := undef) rfl (by kernel_rfl) (by kernel_rfl) (by kernel_rfl) (fun _ _ _ h => h) (Or.inr ⟨by rfl, rfl⟩) hHeld ?_
        simp only [Act.put, List.setIfInBounds_toArray, List.set_cons_zero, List.set_cons_succ]
        refine wpAnyH_take (i := 61) (oi := { dst := some 147, op := Go.Op.binOp Go.BinOp.eql 2 (Go.Operand.tmp 145) (Go.Operand.tmp 146) 2, type := 4, pos := "laws.go:447", after := #[{ on := 59, ground := Go.Ground.data }, { on := 60, ground := Go.Ground.data }, { on := 50, ground := Go.Ground.guard }], guard := some (50, true) }) (v := undef) rfl (by kernel_rfl) (by kernel_rfl) (by kernel_rfl) (fun _ _ _ h => h) (Or.inr ⟨by rfl, rfl⟩) hHeld ?_
        simp only [Act.put, List.setIfInBounds_toArray, List.set_cons_zero, List.set_cons_succ]
        refine wpAnyH_take (i := 62) (oi := { dst := some 148, op := Go.Op.pick (Go.Operand.tmp 136) (Go.Operand.tmp 147) (Go.Operand.const (Go.Value.bool false)), type := 4, pos := "laws.go:447", after := #[{ on := 50, ground := Go.Ground.data }, { on := 61, ground := Go.Ground.data }, { on := 36, ground := Go.Ground.guard }], guard := some (36, false) }) (v := undef) rfl (by kernel_rfl) (by kernel_rfl) (by kernel_rfl) (fun _ _ _ h => h) (Or.inr ⟨by rfl, rfl⟩) hHeld ?_
        simp only [Act.put, List.setIfInBounds_toArray, List.set_cons_zero, List.set_cons_succ]
        refine wpAnyH_take (i := 63) (oi := { dst := some 149, op := Go.Op.pick (Go.Operand.tmp 122) (Go.Operand.const (Go.Value.bool true)) (Go.Operand.tmp 148), type := 4, pos := "laws.go:447", after := #[{ on := 36, ground := Go.Ground.data }, { on := 62, ground := Go.Ground.data }, { on := 32, ground := Go.Ground.guard }], guard := some (32, true) }) (v := ?vp63_62) rfl (by kernel_rfl) (by kernel_rfl) (by kernel_rfl) (fun _ _ _ h => h) (Or.inl ⟨by rfl, ?hp63_62⟩) hHeld ?rp63_62
        case hp63_62 =>
          intro wS hSw
          (try dsimp only at hSw)
          go_simp
          try with_reducible rfl
        case rp63_62 =>
        simp only [Act.put, List.setIfInBounds_toArray, List.set_cons_zero, List.set_cons_succ]
        refine wpAnyH_take (i := 64) (oi := { dst := some 150, op := Go.Op.pick (Go.Operand.tmp 118) (Go.Operand.tmp 149) (Go.Operand.const (Go.Value.bool false)), type := 4, pos := "laws.go:447", after := #[{ on := 32, ground := Go.Ground.data }, { on := 63, ground := Go.Ground.data }], guard := none }) (v := ?vp64_63) rfl (by kernel_rfl) (by kernel_rfl) (by kernel_rfl) (fun _ _ _ h => h) (Or.inl ⟨by rfl, ?hp64_63⟩) hHeld ?rp64_63
        case hp64_63 =>
          intro wS hSw
          (try dsimp only at hSw)
          go_simp
          try with_reducible rfl
        case rp64_63 =>
        simp only [Act.put, List.setIfInBounds_toArray, List.set_cons_zero, List.set_cons_succ]
        refine wpAnyH_take (i := 65) (oi := { dst := some 151, op := Go.Op.move (Go.Operand.tmp 150), type := 4, pos := "laws.go:447", after := #[{ on := 64, ground := Go.Ground.data }, { on := 50, ground := Go.Ground.chain }], guard := none }) (v := ?vp65_64) rfl (by kernel_rfl) (by kernel_rfl) (by kernel_rfl) (fun _ _ _ h => h) (Or.inl ⟨by rfl, ?hp65_64⟩) hHeld ?rp65_64
        case hp65_64 =>
          intro wS hSw
          (try dsimp only at hSw)
          go_simp
          try with_reducible rfl
        case rp65_64 =>
        simp only [Act.put, List.setIfInBounds_toArray, List.set_cons_zero, List.set_cons_succ]
        refine wpAnyH_take (i := 66) (oi := { dst := some 152, op := Go.Op.fieldAddr 37 (Go.Operand.tmp 9) 0, type := 0, pos := "laws.go:447", after := #[{ on := 65, ground := Go.Ground.guard }], guard := some (65, true) }) (v := ?vp66_65) rfl (by kernel_rfl) (by kernel_rfl) (by kernel_rfl) (fun _ _ _ h => h) (Or.inl ⟨by rfl, ?hp66_65⟩) hHeld ?rp66_65
        case hp66_65 =>
          intro wS hSw
          (try dsimp only at hSw)
          go_simp
          try with_reducible rfl
        case rp66_65 =>
        simp only [Act.put, List.setIfInBounds_toArray, List.set_cons_zero, List.set_cons_succ]
        refine wpAnyH_take (i := 67) (oi := { dst := some 153, op := Go.Op.load 2 (Go.Operand.tmp 152), type := 2, pos := "laws.go:447", after := #[{ on := 66, ground := Go.Ground.data }, { on := 65, ground := Go.Ground.guard }], guard := some (65, true) }) (v := ?vp67_66) rfl (by kernel_rfl) (by kernel_rfl) (by kernel_rfl) (fun _ _ _ h => h) (Or.inl ⟨by rfl, ?hp67_66⟩) hHeld ?rp67_66
        case hp67_66 =>
          intro wS hSw
          obtain ⟨yx0, yx1, yr0, yr1, yr2, yj0, yj1, yj2⟩ := unhide KEEP _ (unhide HUP _ hSw)
          obtain ⟨t0, t1⟩ := unhide KEEPT _ hSw
          clear hSw
          (try dsimp only at hSw)
          go_simp
          try with_reducible rfl
        case rp67_66 =>
        simp only [Act.put, List.setIfInBounds_toArray, List.set_cons_zero, List.set_cons_succ]
        refine wpAnyH_take (i := 68) (oi := { dst := some 154, op := Go.Op.binOp Go.BinOp.eql 2 (Go.Operand.tmp 153) (Go.Operand.const (Go.Value.int Go.IntKind.i64 0)) 2, type := 4, pos := "laws.go:447", after := #[{ on := 67, ground := Go.Ground.data }, { on := 65, ground := Go.Ground.guard }], guard := some (65, true) }) (v := ?vp68_67) rfl (by kernel_rfl) (by kernel_rfl) (by kernel_rfl) (fun _ _ _ h => h) (Or.inl ⟨by rfl, ?hp68_67⟩) hHeld ?rp68_67
        case hp68_67 =>
          intro wS hSw
          (try dsimp only at hSw)
          go_simp
          try with_reducible rfl
        case rp68_67 =>
        simp only [Act.put, List.setIfInBounds_toArray, List.set_cons_zero, List.set_cons_succ]
        refine wpAnyH_take (i := 69) (oi := { dst := some 155, op := Go.Op.pick (Go.Operand.tmp 151) (Go.Operand.tmp 154) (Go.Operand.const (Go.Value.bool false)), type := 4, pos := "laws.go:447", after := #[{ on := 65, ground := Go.Ground.data }, { on := 68, ground := Go.Ground.data }], guard := none }) (v := ?vp69_68) rfl (by kernel_rfl) (by kernel_rfl) (by kernel_rfl) (fun _ _ _ h => h) (Or.inl ⟨by rfl, ?hp69_68⟩) hHeld ?rp69_68
        case hp69_68 =>
          intro wS hSw
          (try dsimp only at hSw)
          go_simp
          try with_reducible rfl
        case rp69_68 =>
        simp only [Act.put, List.setIfInBounds_toArray, List.set_cons_zero, List.set_cons_succ]
        refine wpAnyH_take (i := 70) (oi := { dst := some 156, op := Go.Op.move (Go.Operand.tmp 155), type := 4, pos := "laws.go:447", after := #[{ on := 69, ground := Go.Ground.data }, { on := 65, ground := Go.Ground.chain }], guard := none }) (v := ?vp70_69) rfl (by kernel_rfl) (by kernel_rfl) (by kernel_rfl) (fun _ _ _ h => h) (Or.inl ⟨by rfl, ?hp70_69⟩) hHeld ?rp70_69
        case hp70_69 =>
          intro wS hSw
          (try dsimp only at hSw)
          go_simp
          try with_reducible rfl
        case rp70_69 =>
        simp only [Act.put, List.setIfInBounds_toArray, List.set_cons_zero, List.set_cons_succ]
        refine wpAnyH_take (i := 71) (oi := { dst := some 157, op := Go.Op.fieldAddr 37 (Go.Operand.tmp 9) 1, type := 0, pos := "laws.go:447", after := #[{ on := 70, ground := Go.Ground.guard }], guard := some (70, true) }) (v := ?vp71_70) rfl (by kernel_rfl) (by kernel_rfl) (by kernel_rfl) (fun _ _ _ h => h) (Or.inl ⟨by rfl, ?hp71_70⟩) hHeld ?rp71_70
        case hp71_70 =>
          intro wS hSw
          (try dsimp only at hSw)
          go_simp
          try with_reducible rfl
        case rp71_70 =>
        simp only [Act.put, List.setIfInBounds_toArray, List.set_cons_zero, List.set_cons_succ]
        refine wpAnyH_take (i := 72) (oi := { dst := some 158, op := Go.Op.load 9 (Go.Operand.tmp 157), type := 9, pos := "laws.go:447", after := #[{ on := 71, ground := Go.Ground.data }, { on := 70, ground := Go.Ground.guard }], guard := some (70, true) }) (v := ?vp72_71) rfl (by kernel_rfl) (by kernel_rfl) (by kernel_rfl) (fun _ _ _ h => h) (Or.inl ⟨by rfl, ?hp72_71⟩) hHeld ?rp72_71
        case hp72_71 =>
          intro wS hSw
          obtain ⟨yx0, yx1, yr0, yr1, yr2, yj0, yj1, yj2⟩ := unhide KEEP _ (unhide HUP _ hSw)
          obtain ⟨t0, t1⟩ := unhide KEEPT _ hSw
          clear hSw
          (try dsimp only at hSw)
          go_simp
          try with_reducible rfl
        case rp72_71 =>
        simp only [Act.put, List.setIfInBounds_toArray, List.set_cons_zero, List.set_cons_succ]
        refine wpAnyH_take (i := 73) (oi := { dst := some 159, op := Go.Op.fieldAddr 30 (Go.Operand.tmp 5) 1, type := 0, pos := "laws.go:447", after := #[{ on := 70, ground := Go.Ground.guard }], guard := some (70, true) }) (v := ?vp73_72) rfl (by kernel_rfl) (by kernel_rfl) (by kernel_rfl) (fun _ _ _ h => h) (Or.inl ⟨by rfl, ?hp73_72⟩) hHeld ?rp73_72
        case hp73_72 =>
          intro wS hSw
          (try dsimp only at hSw)
          go_simp
          try with_reducible rfl
        case rp73_72 =>
        simp only [Act.put, List.setIfInBounds_toArray, List.set_cons_zero, List.set_cons_succ]
        refine wpAnyH_take (i := 74) (oi := { dst := some 160, op := Go.Op.load 26 (Go.Operand.tmp 159), type := 26, pos := "laws.go:447", after := #[{ on := 73, ground := Go.Ground.data }, { on := 70, ground := Go.Ground.guard }], guard := some (70, true) }) (v := ?vp74_73) rfl (by kernel_rfl) (by kernel_rfl) (by kernel_rfl) (fun _ _ _ h => h) (Or.inl ⟨by rfl, ?hp74_73⟩) hHeld ?rp74_73
        case hp74_73 =>
          intro wS hSw
          obtain ⟨yx0, yx1, yr0, yr1, yr2, yj0, yj1, yj2⟩ := unhide KEEP _ (unhide HUP _ hSw)
          obtain ⟨t0, t1⟩ := unhide KEEPT _ hSw
          clear hSw
          (try dsimp only at hSw)
          go_simp
          try with_reducible rfl
        case rp74_73 =>
        simp only [Act.put, List.setIfInBounds_toArray, List.set_cons_zero, List.set_cons_succ]
        refine wpAnyH_ready (rs := [75]) (by kernel_rfl) (by simp) ?_
        refine AllReadyH.cons (o := { dst := some 161, op := Go.Op.call { callee := Go.Callee.value (Go.Operand.func 15), args := #[Go.Operand.tmp 160], argTypes := #[26] }, type := 37, pos := "laws.go:447", after := #[{ on := 74, ground := Go.Ground.data }, { on := 70, ground := Go.Ground.chain }, { on := 70, ground := Go.Ground.guard }], guard := some (70, true) }) rfl (fun K hK => ?_) AllReadyH.nil
        go_simp
        go_at_call 15
        refine (unhide LST _ (unhide HUP _ hHeld)).mono ?_
        rintro e v3 ⟨rfl, hbw⟩
        try go_wp2_with fail
        refine hK.out _ _ (hHeld.trans (hbw.mono hHeld.size)) (fun hHeld => ?_)
        clear hK K
        try simp only [Act.put, List.setIfInBounds_toArray, List.set_cons_zero, List.set_cons_succ]
        refine wpAnyH_take (i := 76) (oi := { dst := some 162, op := Go.Op.field 37 (Go.Operand.tmp 161) 1, type := 9, pos := "laws.go:447", after := #[{ on := 75, ground := Go.Ground.data }, { on := 70, ground := Go.Ground.guard }], guard := some (70, true) }) (v := ?vp76_74) rfl (by kernel_rfl) (by kernel_rfl) (by kernel_rfl) (fun _ _ _ h => h) (Or.inl ⟨by rfl, ?hp76_74⟩) hHeld ?rp76_74
        case hp76_74 =>
          intro wS hSw
          have yf := hft
          clear hSw
          (try dsimp only at hSw)
          go_simp
          try with_reducible rfl
        case rp76_74 =>
        simp only [Act.put, List.setIfInBounds_toArray, List.set_cons_zero, List.set_cons_succ]
        refine wpAnyH_take (i := 77) (oi := { dst := some 163, op := Go.Op.binOp Go.BinOp.eql 9 (Go.Operand.tmp 158) (Go.Operand.tmp 162) 9, type := 4, pos := "laws.go:447", after := #[{ on := 72, ground := Go.Ground.data }, { on := 76, ground := Go.Ground.data }, { on := 70, ground := Go.Ground.guard }], guard := some (70, true) }) (v := ?vp77_75) rfl (by kernel_rfl) (by kernel_rfl) (by kernel_rfl) (fun _ _ _ h => h) (Or.inl ⟨by rfl, ?hp77_75⟩) hHeld ?rp77_75
        case hp77_75 =>
          intro wS hSw
          (try dsimp only at hSw)
          go_simp
          try with_reducible rfl
        case rp77_75 =>
        simp only [Act.put, List.setIfInBounds_toArray, List.set_cons_zero, List.set_cons_succ]
        refine wpAnyH_take (i := 78) (oi := { dst := some 164, op := Go.Op.pick (Go.Operand.tmp 156) (Go.Operand.tmp 163) (Go.Operand.const (Go.Value.bool false)), type := 4, pos := "laws.go:447", after := #[{ on := 70, ground := Go.Ground.data }, { on := 77, ground := Go.Ground.data }], guard := none }) (v := ?vp78_76) rfl (by kernel_rfl) (by kernel_rfl) (by kernel_rfl) (fun _ _ _ h => h) (Or.inl ⟨by rfl, ?hp78_76⟩) hHeld ?rp78_76
        case hp78_76 =>
          intro wS hSw
          (try dsimp only at hSw)
          go_simp
          try with_reducible rfl
        case rp78_76 =>
        simp only [Act.put, List.setIfInBounds_toArray, List.set_cons_zero, List.set_cons_succ]
        refine wpAnyH_take (i := 79) (oi := { dst := some 2, op := Go.Op.assign (Go.Operand.tmp 164), type := 4, pos := "laws.go:447", after := ([{ on := 78, ground := Go.Ground.data }, { on := 75, ground := Go.Ground.chain }, { on := 0, ground := Go.Ground.phase }, { on := 1, ground := Go.Ground.phase }, { on := 2, ground := Go.Ground.phase }, { on := 3, ground := Go.Ground.phase }, { on := 4, ground := Go.Ground.phase }, { on := 5, ground := Go.Ground.phase }, { on := 6, ground := Go.Ground.phase }, { on := 7, ground := Go.Ground.phase }, { on := 8, ground := Go.Ground.phase }, { on := 9, ground := Go.Ground.phase }, { on := 10, ground := Go.Ground.phase }, { on := 11, ground := Go.Ground.phase }, { on := 12, ground := Go.Ground.phase }, { on := 13, ground := Go.Ground.phase }, { on := 14, ground := Go.Ground.phase }, { on := 15, ground := Go.Ground.phase }, { on := 16, ground := Go.Ground.phase }, { on := 17, ground := Go.Ground.phase }, { on := 18, ground := Go.Ground.phase }, { on := 19, ground := Go.Ground.phase }, { on := 20, ground := Go.Ground.phase }, { on := 21, ground := Go.Ground.phase }, { on := 22, ground := Go.Ground.phase }, { on := 23, ground := Go.Ground.phase }, { on := 24, ground := Go.Ground.phase }, { on := 25, ground := Go.Ground.phase }, { on := 26, ground := Go.Ground.phase }, { on := 27, ground := Go.Ground.phase }, { on := 28, ground := Go.Ground.phase }, { on := 29, ground := Go.Ground.phase }, { on := 30, ground := Go.Ground.phase }, { on := 31, ground := Go.Ground.phase }, { on := 32, ground := Go.Ground.phase }, { on := 33, ground := Go.Ground.phase }, { on := 34, ground := Go.Ground.phase }, { on := 35, ground := Go.Ground.phase }, { on := 36, ground := Go.Ground.phase }, { on := 37, ground := Go.Ground.phase }].append [{ on := 38, ground := Go.Ground.phase }, { on := 39, ground := Go.Ground.phase }, { on := 40, ground := Go.Ground.phase }, { on := 41, ground := Go.Ground.phase }, { on := 42, ground := Go.Ground.phase }, { on := 43, ground := Go.Ground.phase }, { on := 44, ground := Go.Ground.phase }, { on := 45, ground := Go.Ground.phase }, { on := 46, ground := Go.Ground.phase }, { on := 47, ground := Go.Ground.phase }, { on := 48, ground := Go.Ground.phase }, { on := 49, ground := Go.Ground.phase }, { on := 50, ground := Go.Ground.phase }, { on := 51, ground := Go.Ground.phase }, { on := 52, ground := Go.Ground.phase }, { on := 53, ground := Go.Ground.phase }, { on := 54, ground := Go.Ground.phase }, { on := 55, ground := Go.Ground.phase }, { on := 56, ground := Go.Ground.phase }, { on := 57, ground := Go.Ground.phase }, { on := 58, ground := Go.Ground.phase }, { on := 59, ground := Go.Ground.phase }, { on := 60, ground := Go.Ground.phase }, { on := 61, ground := Go.Ground.phase }, { on := 62, ground := Go.Ground.phase }, { on := 63, ground := Go.Ground.phase }, { on := 64, ground := Go.Ground.phase }, { on := 65, ground := Go.Ground.phase }, { on := 66, ground := Go.Ground.phase }, { on := 67, ground := Go.Ground.phase }, { on := 68, ground := Go.Ground.phase }, { on := 69, ground := Go.Ground.phase }, { on := 70, ground := Go.Ground.phase }, { on := 71, ground := Go.Ground.phase }, { on := 72, ground := Go.Ground.phase }, { on := 73, ground := Go.Ground.phase }, { on := 74, ground := Go.Ground.phase }, { on := 75, ground := Go.Ground.phase }, { on := 76, ground := Go.Ground.phase }, { on := 77, ground := Go.Ground.phase }, { on := 78, ground := Go.Ground.phase }]).toArray, guard := none }) (v := ?vp79_77) rfl (by kernel_rfl) (by kernel_rfl) (by kernel_rfl) (fun _ _ _ h => h) (Or.inl ⟨by rfl, ?hp79_77⟩) hHeld ?rp79_77
        case hp79_77 =>
          intro wS hSw
          (try dsimp only at hSw)
          go_simp
          try with_reducible rfl
        case rp79_77 =>
        simp only [Act.put, List.setIfInBounds_toArray, List.set_cons_zero, List.set_cons_succ]
        refine wpAnyH_done (by kernel_rfl) ?_ _
        refine NoPanic.normal ?_
        have HB9 := hide ((unhide HB).trans ((unhide HUP _ hHeld).mono (unhide HB).size))
        clear hHeld
        go_wp2_with fail
        go_ret
        exact ⟨rfl, unhide HB9⟩
      · simp only [DChainResult.mk.injEq] at hj
        obtain ⟨rfl, rfl⟩ := hj
        have f0 : ((0 : Int) == 2) = false := by decide
        have hjl : (y.ids ++ [id]).length = x.ids.length := by rw [List.length_append]; simp; omega
        obtain ⟨bj, oj, rfl⟩ := unhide HJA (by show 0 < (y.ids ++ [id]).length; omega)
        have HJZ : Hid (∀ W, Below wz.heap.size wz W → W.cell? ⟨bj, oj + y.ids.length, none⟩ = some (.int .i64 id)) := fun W hW => by
          have h9 := unhide HJI y.ids.length (by simp) bj oj rfl W hW
          simpa using h9
        have f1 : (id == id) = true := by simp
        have f2 : ((x.ids.length : Int) == (x.ids.length : Int)) = true := by simp
        simp only [hjl] at KEEP
        clear HJI HJA HJ hjl
        refine wp_region_noPanic ?_
        refine wp_region_held_drew (S := fun w' => Below wq.heap.size wq w') (by kernel_rfl) (Below.refl _ _).drew (fun hHeld => ?_)
        generalize wq.drew = wD at hHeld ⊢
        refine wpAnyH_take (i := 0) (oi := { dst := some 86, op := Go.Op.fieldAddr 30 (Go.Operand.tmp 5) 1, type := 0, pos := "laws.go:447", after := #[], guard := none }) (v := ?vq0_1) rfl (by kernel_rfl) (by kernel_rfl) (by kernel_rfl) (fun _ _ _ h => h) (Or.inl ⟨by rfl, ?hq0_1⟩) hHeld ?rq0_1
        case hq0_1 =>
          intro wS hSw
          (try dsimp only at hSw)
          go_simp
          try with_reducible rfl
        case rq0_1 =>
        simp only [Act.put, List.setIfInBounds_toArray, List.set_cons_zero, List.set_cons_succ]
        refine wpAnyH_take (i := 1) (oi := { dst := some 87, op := Go.Op.load 26 (Go.Operand.tmp 86), type := 26, pos := "laws.go:447", after := #[{ on := 0, ground := Go.Ground.data }], guard := none }) (v := ?vq1_2) rfl (by kernel_rfl) (by kernel_rfl) (by kernel_rfl) (fun _ _ _ h => h) (Or.inl ⟨by rfl, ?hq1_2⟩) hHeld ?rq1_2
        case hq1_2 =>
          intro wS hSw
          obtain ⟨yx0, yx1, yr0, yr1, yr2, yj0, yj1, yj2⟩ := unhide KEEP _ (unhide HUP _ hSw)
          obtain ⟨t0, t1⟩ := unhide KEEPT _ hSw
          clear hSw
          (try dsimp only at hSw)
          go_simp
          try with_reducible rfl
        case rq1_2 =>
        simp only [Act.put, List.setIfInBounds_toArray, List.set_cons_zero, List.set_cons_succ]
        refine wpAnyH_ready (rs := [2]) (by kernel_rfl) (by simp) ?_
        refine AllReadyH.cons (o := { dst := some 88, op := Go.Op.call { callee := Go.Callee.value (Go.Operand.func 9), args := #[Go.Operand.tmp 87], argTypes := #[26] }, type := 2, pos := "laws.go:447", after := #[{ on := 1, ground := Go.Ground.data }], guard := none }) rfl (fun K hK => ?_) AllReadyH.nil
        go_simp
        go_at_call 9
        refine (unhide LF _ (unhide HUP _ hHeld)).mono ?_
        rintro e v1 ⟨rfl, hbw⟩
        try go_wp2_with fail
        refine hK.out _ _ (hHeld.trans (hbw.mono hHeld.size)) (fun hHeld => ?_)
        clear hK K
        try simp only [Act.put, List.setIfInBounds_toArray, List.set_cons_zero, List.set_cons_succ]
        refine wpAnyH_take (i := 3) (oi := { dst := some 89, op := Go.Op.binOp Go.BinOp.eql 2 (Go.Operand.tmp 88) (Go.Operand.const (Go.Value.int Go.IntKind.i64 0)) 2, type := 4, pos := "laws.go:447", after := #[{ on := 2, ground := Go.Ground.data }], guard := none }) (v := ?vq3_3) rfl (by kernel_rfl) (by kernel_rfl) (by kernel_rfl) (fun _ _ _ h => h) (Or.inl ⟨by rfl, ?hq3_3⟩) hHeld ?rq3_3
        case hq3_3 =>
          intro wS hSw
          (try dsimp only at hSw)
          go_simp
          try with_reducible rfl
        case rq3_3 =>
        simp only [Act.put, List.setIfInBounds_toArray, List.set_cons_zero, List.set_cons_succ]
        refine wpAnyH_take (i := 4) (oi := { dst := some 90, op := Go.Op.move (Go.Operand.tmp 89), type := 4, pos := "laws.go:447", after := #[{ on := 3, ground := Go.Ground.data }, { on := 2, ground := Go.Ground.chain }], guard := none }) (v := ?vq4_4) rfl (by kernel_rfl) (by kernel_rfl) (by kernel_rfl) (fun _ _ _ h => h) (Or.inl ⟨by rfl, ?hq4_4⟩) hHeld ?rq4_4
        case hq4_4 =>
          intro wS hSw
          (try dsimp only at hSw)
          go_simp
          try with_reducible rfl
        case rq4_4 =>
        simp only [Act.put, List.setIfInBounds_toArray, List.set_cons_zero, List.set_cons_succ]
        refine wpAnyH_take (i := 5) (oi := { dst := some 91, op := Go.Op.fieldAddr 30 (Go.Operand.tmp 5) 1, type := 0, pos := "laws.go:447", after := #[{ on := 4, ground := Go.Ground.guard }], guard := some (4, true) }) (v := ?vq5_5) rfl (by kernel_rfl) (by kernel_rfl) (by kernel_rfl) (fun _ _ _ h => h) (Or.inl ⟨by rfl, ?hq5_5⟩) hHeld ?rq5_5
        case hq5_5 =>
          intro wS hSw
          (try dsimp only at hSw)
          go_simp
          try with_reducible rfl
        case rq5_5 =>
        simp only [Act.put, List.setIfInBounds_toArray, List.set_cons_zero, List.set_cons_succ]
        refine wpAnyH_take (i := 6) (oi := { dst := some 92, op := Go.Op.fieldAddr 26 (Go.Operand.tmp 91) 0, type := 0, pos := "laws.go:447", after := #[{ on := 5, ground := Go.Ground.data }, { on := 4, ground := Go.Ground.guard }], guard := some (4, true) }) (v := ?vq6_6) rfl (by kernel_rfl) (by kernel_rfl) (by kernel_rfl) (fun _ _ _ h => h) (Or.inl ⟨by rfl, ?hq6_6⟩) hHeld ?rq6_6
        case hq6_6 =>
          intro wS hSw
          (try dsimp only at hSw)
          go_simp
          try with_reducible rfl
        case rq6_6 =>
        simp only [Act.put, List.setIfInBounds_toArray, List.set_cons_zero, List.set_cons_succ]
        refine wpAnyH_take (i := 7) (oi := { dst := some 93, op := Go.Op.load 2 (Go.Operand.tmp 92), type := 2, pos := "laws.go:447", after := #[{ on := 6, ground := Go.Ground.data }, { on := 4, ground := Go.Ground.guard }], guard := some (4, true) }) (v := ?vq7_7) rfl (by kernel_rfl) (by kernel_rfl) (by kernel_rfl) (fun _ _ _ h => h) (Or.inl ⟨by rfl, ?hq7_7⟩) hHeld ?rq7_7
        case hq7_7 =>
          intro wS hSw
          obtain ⟨yx0, yx1, yr0, yr1, yr2, yj0, yj1, yj2⟩ := unhide KEEP _ (unhide HUP _ hSw)
          obtain ⟨t0, t1⟩ := unhide KEEPT _ hSw
          clear hSw
          (try dsimp only at hSw)
          go_simp
          try with_reducible rfl
        case rq7_7 =>
        simp only [Act.put, List.setIfInBounds_toArray, List.set_cons_zero, List.set_cons_succ]
        refine wpAnyH_take (i := 8) (oi := { dst := some 94, op := Go.Op.fieldAddr 26 (Go.Operand.tmp 3) 0, type := 0, pos := "laws.go:447", after := #[{ on := 4, ground := Go.Ground.guard }], guard := some (4, true) }) (v := ?vq8_8) rfl (by kernel_rfl) (by kernel_rfl) (by kernel_rfl) (fun _ _ _ h => h) (Or.inl ⟨by rfl, ?hq8_8⟩) hHeld ?rq8_8
        case hq8_8 =>
          intro wS hSw
          (try dsimp only at hSw)
          go_simp
          try with_reducible rfl
        case rq8_8 =>
        simp only [Act.put, List.setIfInBounds_toArray, List.set_cons_zero, List.set_cons_succ]
        refine wpAnyH_take (i := 9) (oi := { dst := some 95, op := Go.Op.load 2 (Go.Operand.tmp 94), type := 2, pos := "laws.go:447", after := #[{ on := 8, ground := Go.Ground.data }, { on := 4, ground := Go.Ground.guard }], guard := some (4, true) }) (v := ?vq9_9) rfl (by kernel_rfl) (by kernel_rfl) (by kernel_rfl) (fun _ _ _ h => h) (Or.inl ⟨by rfl, ?hq9_9⟩) hHeld ?rq9_9
        case hq9_9 =>
          intro wS hSw
          obtain ⟨yx0, yx1, yr0, yr1, yr2, yj0, yj1, yj2⟩ := unhide KEEP _ (unhide HUP _ hSw)
          obtain ⟨t0, t1⟩ := unhide KEEPT _ hSw
          clear hSw
          (try dsimp only at hSw)
          go_simp
          try with_reducible rfl
        case rq9_9 =>
        simp only [Act.put, List.setIfInBounds_toArray, List.set_cons_zero, List.set_cons_succ]
        refine wpAnyH_take (i := 10) (oi := { dst := some 96, op := Go.Op.binOp Go.BinOp.add 2 (Go.Operand.tmp 95) (Go.Operand.const (Go.Value.int Go.IntKind.i64 1)) 2, type := 2, pos := "laws.go:447", after := #[{ on := 9, ground := Go.Ground.data }, { on := 4, ground := Go.Ground.guard }], guard := some (4, true) }) (v := ?vq10_10) rfl (by kernel_rfl) (by kernel_rfl) (by kernel_rfl) (fun _ _ _ h => h) (Or.inl ⟨by rfl, ?hq10_10⟩) hHeld ?rq10_10
        case hq10_10 =>
          intro wS hSw
          clear hSw
          have v1 := w1
          (try dsimp only at hSw)
          go_simp
          try with_reducible rfl
        case rq10_10 =>
        simp only [Act.put, List.setIfInBounds_toArray, List.set_cons_zero, List.set_cons_succ]
        refine wpAnyH_take (i := 11) (oi := { dst := some 97, op := Go.Op.binOp Go.BinOp.eql 2 (Go.Operand.tmp 93) (Go.Operand.tmp 96) 2, type := 4, pos := "laws.go:447", after := #[{ on := 7, ground := Go.Ground.data }, { on := 10, ground := Go.Ground.data }, { on := 4, ground := Go.Ground.guard }], guard := some (4, true) }) (v := ?vq11_11) rfl (by kernel_rfl) (by kernel_rfl) (by kernel_rfl) (fun _ _ _ h => h) (Or.inl ⟨by rfl, ?hq11_11⟩) hHeld ?rq11_11
        case hq11_11 =>
          intro wS hSw
          clear hSw
          have v1 := w1
          (try dsimp only at hSw)
          go_simp
          try with_reducible rfl
        case rq11_11 =>
        simp only [Act.put, List.setIfInBounds_toArray, List.set_cons_zero, List.set_cons_succ]
        refine wpAnyH_take (i := 12) (oi := { dst := some 98, op := Go.Op.pick (Go.Operand.tmp 90) (Go.Operand.tmp 97) (Go.Operand.const (Go.Value.bool false)), type := 4, pos := "laws.go:447", after := #[{ on := 4, ground := Go.Ground.data }, { on := 11, ground := Go.Ground.data }], guard := none }) (v := ?vq12_12) rfl (by kernel_rfl) (by kernel_rfl) (by kernel_rfl) (fun _ _ _ h => h) (Or.inl ⟨by rfl, ?hq12_12⟩) hHeld ?rq12_12
        case hq12_12 =>
          intro wS hSw
          (try dsimp only at hSw)
          go_simp
          try with_reducible rfl
        case rq12_12 =>
        simp only [Act.put, List.setIfInBounds_toArray, List.set_cons_zero, List.set_cons_succ]
        refine wpAnyH_take (i := 13) (oi := { dst := some 99, op := Go.Op.move (Go.Operand.tmp 98), type := 4, pos := "laws.go:447", after := #[{ on := 12, ground := Go.Ground.data }, { on := 4, ground := Go.Ground.chain }], guard := none }) (v := ?vq13_13) rfl (by kernel_rfl) (by kernel_rfl) (by kernel_rfl) (fun _ _ _ h => h) (Or.inl ⟨by rfl, ?hq13_13⟩) hHeld ?rq13_13
        case hq13_13 =>
          intro wS hSw
          (try dsimp only at hSw)
          go_simp
          try with_reducible rfl
        case rq13_13 =>
        simp only [Act.put, List.setIfInBounds_toArray, List.set_cons_zero, List.set_cons_succ]
        refine wpAnyH_take (i := 14) (oi := { dst := some 100, op := Go.Op.fieldAddr 30 (Go.Operand.tmp 5) 1, type := 0, pos := "laws.go:447", after := #[{ on := 13, ground := Go.Ground.guard }], guard := some (13, true) }) (v := ?vq14_14) rfl (by kernel_rfl) (by kernel_rfl) (by kernel_rfl) (fun _ _ _ h => h) (Or.inl ⟨by rfl, ?hq14_14⟩) hHeld ?rq14_14
        case hq14_14 =>
          intro wS hSw
          (try dsimp only at hSw)
          go_simp
          try with_reducible rfl
        case rq14_14 =>
        simp only [Act.put, List.setIfInBounds_toArray, List.set_cons_zero, List.set_cons_succ]
        refine wpAnyH_take (i := 15) (oi := { dst := some 101, op := Go.Op.fieldAddr 26 (Go.Operand.tmp 100) 1, type := 0, pos := "laws.go:447", after := #[{ on := 14, ground := Go.Ground.data }, { on := 13, ground := Go.Ground.guard }], guard := some (13, true) }) (v := ?vq15_15) rfl (by kernel_rfl) (by kernel_rfl) (by kernel_rfl) (fun _ _ _ h => h) (Or.inl ⟨by rfl, ?hq15_15⟩) hHeld ?rq15_15
        case hq15_15 =>
          intro wS hSw
          (try dsimp only at hSw)
          go_simp
          try with_reducible rfl
        case rq15_15 =>
        simp only [Act.put, List.setIfInBounds_toArray, List.set_cons_zero, List.set_cons_succ]
        refine wpAnyH_take (i := 16) (oi := { dst := some 102, op := Go.Op.load 24 (Go.Operand.tmp 101), type := 24, pos := "laws.go:447", after := #[{ on := 15, ground := Go.Ground.data }, { on := 13, ground := Go.Ground.guard }], guard := some (13, true) }) (v := ?vq16_16) rfl (by kernel_rfl) (by kernel_rfl) (by kernel_rfl) (fun _ _ _ h => h) (Or.inl ⟨by rfl, ?hq16_16⟩) hHeld ?rq16_16
        case hq16_16 =>
          intro wS hSw
          obtain ⟨yx0, yx1, yr0, yr1, yr2, yj0, yj1, yj2⟩ := unhide KEEP _ (unhide HUP _ hSw)
          obtain ⟨t0, t1⟩ := unhide KEEPT _ hSw
          clear hSw
          (try dsimp only at hSw)
          go_simp
          try with_reducible rfl
        case rq16_16 =>
        simp only [Act.put, List.setIfInBounds_toArray, List.set_cons_zero, List.set_cons_succ]
        refine wpAnyH_take (i := 17) (oi := { dst := some 103, op := Go.Op.call { callee := Go.Callee.builtin Go.Builtin.len, args := #[Go.Operand.tmp 102], argTypes := #[24] }, type := 3, pos := "laws.go:447", after := #[{ on := 16, ground := Go.Ground.data }, { on := 13, ground := Go.Ground.guard }], guard := some (13, true) }) (v := ?vq17_17) rfl (by kernel_rfl) (by kernel_rfl) (by kernel_rfl) (fun _ _ _ h => h) (Or.inl ⟨by rfl, ?hq17_17⟩) hHeld ?rq17_17
        case hq17_17 =>
          intro wS hSw
          (try dsimp only at hSw)
          go_simp
          try with_reducible rfl
        case rq17_17 =>
        simp only [Act.put, List.setIfInBounds_toArray, List.set_cons_zero, List.set_cons_succ]
        refine wpAnyH_take (i := 18) (oi := { dst := some 104, op := Go.Op.fieldAddr 26 (Go.Operand.tmp 3) 1, type := 0, pos := "laws.go:447", after := #[{ on := 13, ground := Go.Ground.guard }], guard := some (13, true) }) (v := ?vq18_18) rfl (by kernel_rfl) (by kernel_rfl) (by kernel_rfl) (fun _ _ _ h => h) (Or.inl ⟨by rfl, ?hq18_18⟩) hHeld ?rq18_18
        case hq18_18 =>
          intro wS hSw
          (try dsimp only at hSw)
          go_simp
          try with_reducible rfl
        case rq18_18 =>
        simp only [Act.put, List.setIfInBounds_toArray, List.set_cons_zero, List.set_cons_succ]
        refine wpAnyH_take (i := 19) (oi := { dst := some 105, op := Go.Op.load 24 (Go.Operand.tmp 104), type := 24, pos := "laws.go:447", after := #[{ on := 18, ground := Go.Ground.data }, { on := 13, ground := Go.Ground.guard }], guard := some (13, true) }) (v := ?vq19_19) rfl (by kernel_rfl) (by kernel_rfl) (by kernel_rfl) (fun _ _ _ h => h) (Or.inl ⟨by rfl, ?hq19_19⟩) hHeld ?rq19_19
        case hq19_19 =>
          intro wS hSw
          obtain ⟨yx0, yx1, yr0, yr1, yr2, yj0, yj1, yj2⟩ := unhide KEEP _ (unhide HUP _ hSw)
          obtain ⟨t0, t1⟩ := unhide KEEPT _ hSw
          clear hSw
          (try dsimp only at hSw)
          go_simp
          try with_reducible rfl
        case rq19_19 =>
        simp only [Act.put, List.setIfInBounds_toArray, List.set_cons_zero, List.set_cons_succ]
        refine wpAnyH_take (i := 20) (oi := { dst := some 106, op := Go.Op.call { callee := Go.Callee.builtin Go.Builtin.len, args := #[Go.Operand.tmp 105], argTypes := #[24] }, type := 3, pos := "laws.go:447", after := #[{ on := 19, ground := Go.Ground.data }, { on := 13, ground := Go.Ground.guard }], guard := some (13, true) }) (v := ?vq20_20) rfl (by kernel_rfl) (by kernel_rfl) (by kernel_rfl) (fun _ _ _ h => h) (Or.inl ⟨by rfl, ?hq20_20⟩) hHeld ?rq20_20
        case hq20_20 =>
          intro wS hSw
          (try dsimp only at hSw)
          go_simp
          try with_reducible rfl
        case rq20_20 =>
        simp only [Act.put, List.setIfInBounds_toArray, List.set_cons_zero, List.set_cons_succ]
        refine wpAnyH_take (i := 21) (oi := { dst := some 107, op := Go.Op.binOp Go.BinOp.sub 3 (Go.Operand.tmp 106) (Go.Operand.const (Go.Value.int Go.IntKind.i64 1)) 3, type := 3, pos := "laws.go:447", after := #[{ on := 20, ground := Go.Ground.data }, { on := 13, ground := Go.Ground.guard }], guard := some (13, true) }) (v := ?vq21_21) rfl (by kernel_rfl) (by kernel_rfl) (by kernel_rfl) (fun _ _ _ h => h) (Or.inl ⟨by rfl, ?hq21_21⟩) hHeld ?rq21_21
        case hq21_21 =>
          intro wS hSw
          clear hSw
          have v2 := w2
          (try dsimp only at hSw)
          go_simp
          try with_reducible rfl
        case rq21_21 =>
        simp only [Act.put, List.setIfInBounds_toArray, List.set_cons_zero, List.set_cons_succ]
        refine wpAnyH_take (i := 22) (oi := { dst := some 108, op := Go.Op.binOp Go.BinOp.eql 3 (Go.Operand.tmp 103) (Go.Operand.tmp 107) 3, type := 4, pos := "laws.go:447", after := #[{ on := 17, ground := Go.Ground.data }, { on := 21, ground := Go.Ground.data }, { on := 13, ground := Go.Ground.guard }], guard := some (13, true) }) (v := ?vq22_22) rfl (by kernel_rfl) (by kernel_rfl) (by kernel_rfl) (fun _ _ _ h => h) (Or.inl ⟨by rfl, ?hq22_22⟩) hHeld ?rq22_22
        case hq22_22 =>
          intro wS hSw
          clear hSw
          have v2 := w2
          (try dsimp only at hSw)
          go_simp
          try with_reducible rfl
        case rq22_22 =>
        simp only [Act.put, List.setIfInBounds_toArray, List.set_cons_zero, List.set_cons_succ]
        refine wpAnyH_take (i := 23) (oi := { dst := some 109, op := Go.Op.pick (Go.Operand.tmp 99) (Go.Operand.tmp 108) (Go.Operand.const (Go.Value.bool false)), type := 4, pos := "laws.go:447", after := #[{ on := 13, ground := Go.Ground.data }, { on := 22, ground := Go.Ground.data }], guard := none }) (v := ?vq23_23) rfl (by kernel_rfl) (by kernel_rfl) (by kernel_rfl) (fun _ _ _ h => h) (Or.inl ⟨by rfl, ?hq23_23⟩) hHeld ?rq23_23
        case hq23_23 =>
          intro wS hSw
          (try dsimp only at hSw)
          go_simp
          try with_reducible rfl
        case rq23_23 =>
        simp only [Act.put, List.setIfInBounds_toArray, List.set_cons_zero, List.set_cons_succ]
        refine wpAnyH_take (i := 24) (oi := { dst := some 110, op := Go.Op.move (Go.Operand.tmp 109), type := 4, pos := "laws.go:447", after := #[{ on := 23, ground := Go.Ground.data }, { on := 13, ground := Go.Ground.chain }], guard := none }) (v := ?vq24_24) rfl (by kernel_rfl) (by kernel_rfl) (by kernel_rfl) (fun _ _ _ h => h) (Or.inl ⟨by rfl, ?hq24_24⟩) hHeld ?rq24_24
        case hq24_24 =>
          intro wS hSw
          (try dsimp only at hSw)
          go_simp
          try with_reducible rfl
        case rq24_24 =>
        simp only [Act.put, List.setIfInBounds_toArray, List.set_cons_zero, List.set_cons_succ]
        refine wpAnyH_take (i := 25) (oi := { dst := some 111, op := Go.Op.fieldAddr 30 (Go.Operand.tmp 5) 1, type := 0, pos := "laws.go:447", after := #[{ on := 24, ground := Go.Ground.guard }], guard := some (24, true) }) (v := ?vq25_25) rfl (by kernel_rfl) (by kernel_rfl) (by kernel_rfl) (fun _ _ _ h => h) (Or.inl ⟨by rfl, ?hq25_25⟩) hHeld ?rq25_25
        case hq25_25 =>
          intro wS hSw
          (try dsimp only at hSw)
          go_simp
          try with_reducible rfl
        case rq25_25 =>
        simp only [Act.put, List.setIfInBounds_toArray, List.set_cons_zero, List.set_cons_succ]
        refine wpAnyH_take (i := 26) (oi := { dst := some 112, op := Go.Op.load 26 (Go.Operand.tmp 111), type := 26, pos := "laws.go:447", after := #[{ on := 25, ground := Go.Ground.data }, { on := 24, ground := Go.Ground.guard }], guard := some (24, true) }) (v := ?vq26_26) rfl (by kernel_rfl) (by kernel_rfl) (by kernel_rfl) (fun _ _ _ h => h) (Or.inl ⟨by rfl, ?hq26_26⟩) hHeld ?rq26_26
        case hq26_26 =>
          intro wS hSw
          obtain ⟨yx0, yx1, yr0, yr1, yr2, yj0, yj1, yj2⟩ := unhide KEEP _ (unhide HUP _ hSw)
          obtain ⟨t0, t1⟩ := unhide KEEPT _ hSw
          clear hSw
          (try dsimp only at hSw)
          go_simp
          try with_reducible rfl
        case rq26_26 =>
        simp only [Act.put, List.setIfInBounds_toArray, List.set_cons_zero, List.set_cons_succ]
        refine wpAnyH_take (i := 27) (oi := { dst := some 113, op := Go.Op.move (Go.Operand.tmp 4), type := 2, pos := "laws.go:447", after := #[{ on := 24, ground := Go.Ground.guard }], guard := some (24, true) }) (v := ?vq27_27) rfl (by kernel_rfl) (by kernel_rfl) (by kernel_rfl) (fun _ _ _ h => h) (Or.inl ⟨by rfl, ?hq27_27⟩) hHeld ?rq27_27
        case hq27_27 =>
          intro wS hSw
          (try dsimp only at hSw)
          go_simp
          try with_reducible rfl
        case rq27_27 =>
        simp only [Act.put, List.setIfInBounds_toArray, List.set_cons_zero, List.set_cons_succ]
        refine wpAnyH_ready (rs := [28]) (by kernel_rfl) (by simp) ?_
        refine AllReadyH.cons (o := { dst := some 114, op := Go.Op.call { callee := Go.Callee.value (Go.Operand.func 12), args := #[Go.Operand.tmp 112, Go.Operand.tmp 113], argTypes := #[26, 2] }, type := 34, pos := "laws.go:447", after := #[{ on := 26, ground := Go.Ground.data }, { on := 27, ground := Go.Ground.data }, { on := 24, ground := Go.Ground.chain }, { on := 24, ground := Go.Ground.guard }], guard := some (24, true) }) rfl (fun K hK => ?_) AllReadyH.nil
        go_simp
        go_at_call 12
        refine (unhide LN _ (unhide HUP _ hHeld)).mono ?_
        rintro e v2 ⟨rfl, hbw⟩
        try go_wp2_with fail
        refine hK.out _ _ (hHeld.trans (hbw.mono hHeld.size)) (fun hHeld => ?_)
        clear hK K
        try simp only [Act.put, List.setIfInBounds_toArray, List.set_cons_zero, List.set_cons_succ]
        refine wpAnyH_take (i := 29) (oi := { dst := some 115, op := Go.Op.field 34 (Go.Operand.tmp 114) 0, type := 2, pos := "laws.go:447", after := #[{ on := 28, ground := Go.Ground.data }, { on := 24, ground := Go.Ground.guard }], guard := some (24, true) }) (v := ?vq29_28) rfl (by kernel_rfl) (by kernel_rfl) (by kernel_rfl) (fun _ _ _ h => h) (Or.inl ⟨by rfl, ?hq29_28⟩) hHeld ?rq29_28
        case hq29_28 =>
          intro wS hSw
          have yf := hf0
          clear hSw
          (try dsimp only at hSw)
          go_simp
          try with_reducible rfl
        case rq29_28 =>
        simp only [Act.put, List.setIfInBounds_toArray, List.set_cons_zero, List.set_cons_succ]
        refine wpAnyH_take (i := 30) (oi := { dst := some 116, op := Go.Op.binOp Go.BinOp.eql 2 (Go.Operand.tmp 115) (Go.Operand.const (Go.Value.int Go.IntKind.i64 4)) 2, type := 4, pos := "laws.go:447", after := #[{ on := 29, ground := Go.Ground.data }, { on := 24, ground := Go.Ground.guard }], guard := some (24, true) }) (v := ?vq30_29) rfl (by kernel_rfl) (by kernel_rfl) (by kernel_rfl) (fun _ _ _ h => h) (Or.inl ⟨by rfl, ?hq30_29⟩) hHeld ?rq30_29
        case hq30_29 =>
          intro wS hSw
          (try dsimp only at hSw)
          go_simp
          try with_reducible rfl
        case rq30_29 =>
        simp only [Act.put, List.setIfInBounds_toArray, List.set_cons_zero, List.set_cons_succ]
        refine wpAnyH_take (i := 31) (oi := { dst := some 117, op := Go.Op.pick (Go.Operand.tmp 110) (Go.Operand.tmp 116) (Go.Operand.const (Go.Value.bool false)), type := 4, pos := "laws.go:447", after := #[{ on := 24, ground := Go.Ground.data }, { on := 30, ground := Go.Ground.data }], guard := none }) (v := ?vq31_30) rfl (by kernel_rfl) (by kernel_rfl) (by kernel_rfl) (fun _ _ _ h => h) (Or.inl ⟨by rfl, ?hq31_30⟩) hHeld ?rq31_30
        case hq31_30 =>
          intro wS hSw
          (try dsimp only at hSw)
          go_simp
          try with_reducible rfl
        case rq31_30 =>
        simp only [Act.put, List.setIfInBounds_toArray, List.set_cons_zero, List.set_cons_succ]
        refine wpAnyH_take (i := 32) (oi := { dst := some 118, op := Go.Op.move (Go.Operand.tmp 117), type := 4, pos := "laws.go:447", after := #[{ on := 31, ground := Go.Ground.data }, { on := 28, ground := Go.Ground.chain }], guard := none }) (v := ?vq32_31) rfl (by kernel_rfl) (by kernel_rfl) (by kernel_rfl) (fun _ _ _ h => h) (Or.inl ⟨by rfl, ?hq32_31⟩) hHeld ?rq32_31
        case hq32_31 =>
          intro wS hSw
          (try dsimp only at hSw)
          go_simp
          try with_reducible rfl
        case rq32_31 =>
        simp only [Act.put, List.setIfInBounds_toArray, List.set_cons_zero, List.set_cons_succ]
        refine wpAnyH_take (i := 33) (oi := { dst := some 119, op := Go.Op.fieldAddr 30 (Go.Operand.tmp 6) 0, type := 0, pos := "laws.go:447", after := #[{ on := 32, ground := Go.Ground.guard }], guard := some (32, true) }) (v := ?vq33_32) rfl (by kernel_rfl) (by kernel_rfl) (by kernel_rfl) (fun _ _ _ h => h) (Or.inl ⟨by rfl, ?hq33_32⟩) hHeld ?rq33_32
        case hq33_32 =>
          intro wS hSw
          (try dsimp only at hSw)
          go_simp
          try with_reducible rfl
        case rq33_32 =>
        simp only [Act.put, List.setIfInBounds_toArray, List.set_cons_zero, List.set_cons_succ]
        refine wpAnyH_take (i := 34) (oi := { dst := some 120, op := Go.Op.load 2 (Go.Operand.tmp 119), type := 2, pos := "laws.go:447", after := #[{ on := 33, ground := Go.Ground.data }, { on := 32, ground := Go.Ground.guard }], guard := some (32, true) }) (v := ?vq34_33) rfl (by kernel_rfl) (by kernel_rfl) (by kernel_rfl) (fun _ _ _ h => h) (Or.inl ⟨by rfl, ?hq34_33⟩) hHeld ?rq34_33
        case hq34_33 =>
          intro wS hSw
          obtain ⟨yx0, yx1, yr0, yr1, yr2, yj0, yj1, yj2⟩ := unhide KEEP _ (unhide HUP _ hSw)
          obtain ⟨t0, t1⟩ := unhide KEEPT _ hSw
          clear hSw
          (try dsimp only at hSw)
          go_simp
          try with_reducible rfl
        case rq34_33 =>
        simp only [Act.put, List.setIfInBounds_toArray, List.set_cons_zero, List.set_cons_succ]
        refine wpAnyH_take (i := 35) (oi := { dst := some 121, op := Go.Op.binOp Go.BinOp.eql 2 (Go.Operand.tmp 120) (Go.Operand.const (Go.Value.int Go.IntKind.i64 2)) 2, type := 4, pos := "laws.go:447", after := #[{ on := 34, ground := Go.Ground.data }, { on := 32, ground := Go.Ground.guard }], guard := some (32, true) }) (v := ?vq35_34) rfl (by kernel_rfl) (by kernel_rfl) (by kernel_rfl) (fun _ _ _ h => h) (Or.inl ⟨by rfl, ?hq35_34⟩) hHeld ?rq35_34
        case hq35_34 =>
          intro wS hSw
          (try dsimp only at hSw)
          go_simp
          try with_reducible rfl
        case rq35_34 =>
        simp only [Act.put, List.setIfInBounds_toArray, List.set_cons_zero, List.set_cons_succ]
        refine wpAnyH_take (i := 36) (oi := { dst := some 122, op := Go.Op.move (Go.Operand.tmp 121), type := 4, pos := "laws.go:447", after := #[{ on := 35, ground := Go.Ground.data }, { on := 32, ground := Go.Ground.chain }, { on := 32, ground := Go.Ground.guard }], guard := some (32, true) }) (v := ?vq36_35) rfl (by kernel_rfl) (by kernel_rfl) (by kernel_rfl) (fun _ _ _ h => h) (Or.inl ⟨by rfl, ?hq36_35⟩) hHeld ?rq36_35
        case hq36_35 =>
          intro wS hSw
          (try dsimp only at hSw)
          go_simp
          try with_reducible rfl
        case rq36_35 =>
        simp only [Act.put, List.setIfInBounds_toArray, List.set_cons_zero, List.set_cons_succ]
        refine wpAnyH_take (i := 37) (oi := { dst := some 123, op := Go.Op.fieldAddr 30 (Go.Operand.tmp 6) 0, type := 0, pos := "laws.go:447", after := #[{ on := 36, ground := Go.Ground.guard }], guard := some (36, false) }) (v := ?vq37_36) rfl (by kernel_rfl) (by kernel_rfl) (by kernel_rfl) (fun _ _ _ h => h) (Or.inl ⟨by rfl, ?hq37_36⟩) hHeld ?rq37_36
        case hq37_36 =>
          intro wS hSw
          (try dsimp only at hSw)
          go_simp
          try with_reducible rfl
        case rq37_36 =>
        simp only [Act.put, List.setIfInBounds_toArray, List.set_cons_zero, List.set_cons_succ]
        refine wpAnyH_take (i := 38) (oi := { dst := some 124, op := Go.Op.load 2 (Go.Operand.tmp 123), type := 2, pos := "laws.go:447", after := #[{ on := 37, ground := Go.Ground.data }, { on := 36, ground := Go.Ground.guard }], guard := some (36, false) }) (v := ?vq38_37) rfl (by kernel_rfl) (by kernel_rfl) (by kernel_rfl) (fun _ _ _ h => h) (Or.inl ⟨by rfl, ?hq38_37⟩) hHeld ?rq38_37
        case hq38_37 =>
          intro wS hSw
          obtain ⟨yx0, yx1, yr0, yr1, yr2, yj0, yj1, yj2⟩ := unhide KEEP _ (unhide HUP _ hSw)
          obtain ⟨t0, t1⟩ := unhide KEEPT _ hSw
          clear hSw
          (try dsimp only at hSw)
          go_simp
          try with_reducible rfl
        case rq38_37 =>
        simp only [Act.put, List.setIfInBounds_toArray, List.set_cons_zero, List.set_cons_succ]
        refine wpAnyH_take (i := 39) (oi := { dst := some 125, op := Go.Op.binOp Go.BinOp.eql 2 (Go.Operand.tmp 124) (Go.Operand.const (Go.Value.int Go.IntKind.i64 0)) 2, type := 4, pos := "laws.go:447", after := #[{ on := 38, ground := Go.Ground.data }, { on := 36, ground := Go.Ground.guard }], guard := some (36, false) }) (v := ?vq39_38) rfl (by kernel_rfl) (by kernel_rfl) (by kernel_rfl) (fun _ _ _ h => h) (Or.inl ⟨by rfl, ?hq39_38⟩) hHeld ?rq39_38
        case hq39_38 =>
          intro wS hSw
          (try dsimp only at hSw)
          go_simp
          try with_reducible rfl
        case rq39_38 =>
        simp only [Act.put, List.setIfInBounds_toArray, List.set_cons_zero, List.set_cons_succ]
        refine wpAnyH_take (i := 40) (oi := { dst := some 126, op := Go.Op.move (Go.Operand.tmp 125), type := 4, pos := "laws.go:447", after := #[{ on := 39, ground := Go.Ground.data }, { on := 36, ground := Go.Ground.chain }, { on := 36, ground := Go.Ground.guard }], guard := some (36, false) }) (v := ?vq40_39) rfl (by kernel_rfl) (by kernel_rfl) (by kernel_rfl) (fun _ _ _ h => h) (Or.inl ⟨by rfl, ?hq40_39⟩) hHeld ?rq40_39
        case hq40_39 =>
          intro wS hSw
          (try dsimp only at hSw)
          go_simp
          try with_reducible rfl
        case rq40_39 =>
        simp only [Act.put, List.setIfInBounds_toArray, List.set_cons_zero, List.set_cons_succ]
        refine wpAnyH_take (i := 41) (oi := { dst := some 127, op := Go.Op.fieldAddr 30 (Go.Operand.tmp 6) 1, type := 0, pos := "laws.go:447", after := #[{ on := 40, ground := Go.Ground.guard }], guard := some (40, true) }) (v := ?vq41_40) rfl (by kernel_rfl) (by kernel_rfl) (by kernel_rfl) (fun _ _ _ h => h) (Or.inl ⟨by rfl, ?hq41_40⟩) hHeld ?rq41_40
        case hq41_40 =>
          intro wS hSw
          (try dsimp only at hSw)
          go_simp
          try with_reducible rfl
        case rq41_40 =>
        simp only [Act.put, List.setIfInBounds_toArray, List.set_cons_zero, List.set_cons_succ]
        refine wpAnyH_take (i := 42) (oi := { dst := some 128, op := Go.Op.fieldAddr 26 (Go.Operand.tmp 127) 1, type := 0, pos := "laws.go:447", after := #[{ on := 41, ground := Go.Ground.data }, { on := 40, ground := Go.Ground.guard }], guard := some (40, true) }) (v := ?vq42_41) rfl (by kernel_rfl) (by kernel_rfl) (by kernel_rfl) (fun _ _ _ h => h) (Or.inl ⟨by rfl, ?hq42_41⟩) hHeld ?rq42_41
        case hq42_41 =>
          intro wS hSw
          (try dsimp only at hSw)
          go_simp
          try with_reducible rfl
        case rq42_41 =>
        simp only [Act.put, List.setIfInBounds_toArray, List.set_cons_zero, List.set_cons_succ]
        refine wpAnyH_take (i := 43) (oi := { dst := some 129, op := Go.Op.load 24 (Go.Operand.tmp 128), type := 24, pos := "laws.go:447", after := #[{ on := 42, ground := Go.Ground.data }, { on := 40, ground := Go.Ground.guard }], guard := some (40, true) }) (v := ?vq43_42) rfl (by kernel_rfl) (by kernel_rfl) (by kernel_rfl) (fun _ _ _ h => h) (Or.inl ⟨by rfl, ?hq43_42⟩) hHeld ?rq43_42
        case hq43_42 =>
          intro wS hSw
          obtain ⟨yx0, yx1, yr0, yr1, yr2, yj0, yj1, yj2⟩ := unhide KEEP _ (unhide HUP _ hSw)
          obtain ⟨t0, t1⟩ := unhide KEEPT _ hSw
          clear hSw
          (try dsimp only at hSw)
          go_simp
          try with_reducible rfl
        case rq43_42 =>
        simp only [Act.put, List.setIfInBounds_toArray, List.set_cons_zero, List.set_cons_succ]
        refine wpAnyH_take (i := 44) (oi := { dst := some 130, op := Go.Op.call { callee := Go.Callee.builtin Go.Builtin.len, args := #[Go.Operand.tmp 129], argTypes := #[24] }, type := 3, pos := "laws.go:447", after := #[{ on := 43, ground := Go.Ground.data }, { on := 40, ground := Go.Ground.guard }], guard := some (40, true) }) (v := ?vq44_43) rfl (by kernel_rfl) (by kernel_rfl) (by kernel_rfl) (fun _ _ _ h => h) (Or.inl ⟨by rfl, ?hq44_43⟩) hHeld ?rq44_43
        case hq44_43 =>
          intro wS hSw
          (try dsimp only at hSw)
          go_simp
          try with_reducible rfl
        case rq44_43 =>
        simp only [Act.put, List.setIfInBounds_toArray, List.set_cons_zero, List.set_cons_succ]
        refine wpAnyH_take (i := 45) (oi := { dst := some 131, op := Go.Op.fieldAddr 26 (Go.Operand.tmp 3) 1, type := 0, pos := "laws.go:447", after := #[{ on := 40, ground := Go.Ground.guard }], guard := some (40, true) }) (v := ?vq45_44) rfl (by kernel_rfl) (by kernel_rfl) (by kernel_rfl) (fun _ _ _ h => h) (Or.inl ⟨by rfl, ?hq45_44⟩) hHeld ?rq45_44
        case hq45_44 =>
          intro wS hSw
          (try dsimp only at hSw)
          go_simp
          try with_reducible rfl
        case rq45_44 =>
        simp only [Act.put, List.setIfInBounds_toArray, List.set_cons_zero, List.set_cons_succ]
        refine wpAnyH_take (i := 46) (oi := { dst := some 132, op := Go.Op.load 24 (Go.Operand.tmp 131), type := 24, pos := "laws.go:447", after := #[{ on := 45, ground := Go.Ground.data }, { on := 40, ground := Go.Ground.guard }], guard := some (40, true) }) (v := ?vq46_45) rfl (by kernel_rfl) (by kernel_rfl) (by kernel_rfl) (fun _ _ _ h => h) (Or.inl ⟨by rfl, ?hq46_45⟩) hHeld ?rq46_45
        case hq46_45 =>
          intro wS hSw
          obtain ⟨yx0, yx1, yr0, yr1, yr2, yj0, yj1, yj2⟩ := unhide KEEP _ (unhide HUP _ hSw)
          obtain ⟨t0, t1⟩ := unhide KEEPT _ hSw
          clear hSw
          (try dsimp only at hSw)
          go_simp
          try with_reducible rfl
        case rq46_45 =>
        simp only [Act.put, List.setIfInBounds_toArray, List.set_cons_zero, List.set_cons_succ]
        refine wpAnyH_take (i := 47) (oi := { dst := some 133, op := Go.Op.call { callee := Go.Callee.builtin Go.Builtin.len, args := #[Go.Operand.tmp 132], argTypes := #[24] }, type := 3, pos := "laws.go:447", after := #[{ on := 46, ground := Go.Ground.data }, { on := 40, ground := Go.Ground.guard }], guard := some (40, true) }) (v := ?vq47_46) rfl (by kernel_rfl) (by kernel_rfl) (by kernel_rfl) (fun _ _ _ h => h) (Or.inl ⟨by rfl, ?hq47_46⟩) hHeld ?rq47_46
        case hq47_46 =>
          intro wS hSw
          (try dsimp only at hSw)
          go_simp
          try with_reducible rfl
        case rq47_46 =>
        simp only [Act.put, List.setIfInBounds_toArray, List.set_cons_zero, List.set_cons_succ]
        refine wpAnyH_take (i := 48) (oi := { dst := some 134, op := Go.Op.binOp Go.BinOp.eql 3 (Go.Operand.tmp 130) (Go.Operand.tmp 133) 3, type := 4, pos := "laws.go:447", after := #[{ on := 44, ground := Go.Ground.data }, { on := 47, ground := Go.Ground.data }, { on := 40, ground := Go.Ground.guard }], guard := some (40, true) }) (v := ?vq48_47) rfl (by kernel_rfl) (by kernel_rfl) (by kernel_rfl) (fun _ _ _ h => h) (Or.inl ⟨by rfl, ?hq48_47⟩) hHeld ?rq48_47
        case hq48_47 =>
          intro wS hSw
          (try dsimp only at hSw)
          go_simp
          try with_reducible rfl
        case rq48_47 =>
        simp only [Act.put, List.setIfInBounds_toArray, List.set_cons_zero, List.set_cons_succ]
        refine wpAnyH_take (i := 49) (oi := { dst := some 135, op := Go.Op.pick (Go.Operand.tmp 126) (Go.Operand.tmp 134) (Go.Operand.const (Go.Value.bool false)), type := 4, pos := "laws.go:447", after := #[{ on := 40, ground := Go.Ground.data }, { on := 48, ground := Go.Ground.data }, { on := 36, ground := Go.Ground.guard }], guard := some (36, false) }) (v := ?vq49_48) rfl (by kernel_rfl) (by kernel_rfl) (by kernel_rfl) (fun _ _ _ h => h) (Or.inl ⟨by rfl, ?hq49_48⟩) hHeld ?rq49_48
        case hq49_48 =>
          intro wS hSw
          (try dsimp only at hSw)
          go_simp
          try with_reducible rfl
        case rq49_48 =>
        simp only [Act.put, List.setIfInBounds_toArray, List.set_cons_zero, List.set_cons_succ]
        refine wpAnyH_take (i := 50) (oi := { dst := some 136, op := Go.Op.move (Go.Operand.tmp 135), type := 4, pos := "laws.go:447", after := #[{ on := 49, ground := Go.Ground.data }, { on := 40, ground := Go.Ground.chain }, { on := 36, ground := Go.Ground.guard }], guard := some (36, false) }) (v := ?vq50_49) rfl (by kernel_rfl) (by kernel_rfl) (by kernel_rfl) (fun _ _ _ h => h) (Or.inl ⟨by rfl, ?hq50_49⟩) hHeld ?rq50_49
        case hq50_49 =>
          intro wS hSw
          (try dsimp only at hSw)
          go_simp
          try with_reducible rfl
        case rq50_49 =>
        simp only [Act.put, List.setIfInBounds_toArray, List.set_cons_zero, List.set_cons_succ]
        refine wpAnyH_take (i := 51) (oi := { dst := some 137, op := Go.Op.fieldAddr 30 (Go.Operand.tmp 6) 1, type := 0, pos := "laws.go:447", after := #[{ on := 50, ground := Go.Ground.guard }], guard := some (50, true) }) (v := ?vq51_50) rfl (by kernel_rfl) (by kernel_rfl) (by kernel_rfl) (fun _ _ _ h => h) (Or.inl ⟨by rfl, ?hq51_50⟩) hHeld ?rq51_50
        case hq51_50 =>
          intro wS hSw
          (try dsimp only at hSw)
          go_simp
          try with_reducible rfl
        case rq51_50 =>
        simp only [Act.put, List.setIfInBounds_toArray, List.set_cons_zero, List.set_cons_succ]
        refine wpAnyH_take (i := 52) (oi := { dst := some 138, op := Go.Op.fieldAddr 26 (Go.Operand.tmp 137) 1, type := 0, pos := "laws.go:447", after := #[{ on := 51, ground := Go.Ground.data }, { on := 50, ground := Go.Ground.guard }], guard := some (50, true) }) (v := ?vq52_51) rfl (by kernel_rfl) (by kernel_rfl) (by kernel_rfl) (fun _ _ _ h => h) (Or.inl ⟨by rfl, ?hq52_51⟩) hHeld ?rq52_51
        case hq52_51 =>
          intro wS hSw
          (try dsimp only at hSw)
          go_simp
          try with_reducible rfl
        case rq52_51 =>
        simp only [Act.put, List.setIfInBounds_toArray, List.set_cons_zero, List.set_cons_succ]
        refine wpAnyH_take (i := 53) (oi := { dst := some 139, op := Go.Op.load 24 (Go.Operand.tmp 138), type := 24, pos := "laws.go:447", after := #[{ on := 52, ground := Go.Ground.data }, { on := 50, ground := Go.Ground.guard }], guard := some (50, true) }) (v := ?vq53_52) rfl (by kernel_rfl) (by kernel_rfl) (by kernel_rfl) (fun _ _ _ h => h) (Or.inl ⟨by rfl, ?hq53_52⟩) hHeld ?rq53_52
        case hq53_52 =>
          intro wS hSw
          obtain ⟨yx0, yx1, yr0, yr1, yr2, yj0, yj1, yj2⟩ := unhide KEEP _ (unhide HUP _ hSw)
          obtain ⟨t0, t1⟩ := unhide KEEPT _ hSw
          clear hSw
          (try dsimp only at hSw)
          go_simp
          try with_reducible rfl
        case rq53_52 =>
        simp only [Act.put, List.setIfInBounds_toArray, List.set_cons_zero, List.set_cons_succ]
        refine wpAnyH_take (i := 54) (oi := { dst := some 140, op := Go.Op.fieldAddr 26 (Go.Operand.tmp 3) 1, type := 0, pos := "laws.go:447", after := #[{ on := 50, ground := Go.Ground.guard }], guard := some (50, true) }) (v := ?vq54_53) rfl (by kernel_rfl) (by kernel_rfl) (by kernel_rfl) (fun _ _ _ h => h) (Or.inl ⟨by rfl, ?hq54_53⟩) hHeld ?rq54_53
        case hq54_53 =>
          intro wS hSw
          (try dsimp only at hSw)
          go_simp
          try with_reducible rfl
        case rq54_53 =>
        simp only [Act.put, List.setIfInBounds_toArray, List.set_cons_zero, List.set_cons_succ]
        refine wpAnyH_take (i := 55) (oi := { dst := some 141, op := Go.Op.load 24 (Go.Operand.tmp 140), type := 24, pos := "laws.go:447", after := #[{ on := 54, ground := Go.Ground.data }, { on := 50, ground := Go.Ground.guard }], guard := some (50, true) }) (v := ?vq55_54) rfl (by kernel_rfl) (by kernel_rfl) (by kernel_rfl) (fun _ _ _ h => h) (Or.inl ⟨by rfl, ?hq55_54⟩) hHeld ?rq55_54
        case hq55_54 =>
          intro wS hSw
          obtain ⟨yx0, yx1, yr0, yr1, yr2, yj0, yj1, yj2⟩ := unhide KEEP _ (unhide HUP _ hSw)
          obtain ⟨t0, t1⟩ := unhide KEEPT _ hSw
          clear hSw
          (try dsimp only at hSw)
          go_simp
          try with_reducible rfl
        case rq55_54 =>
        simp only [Act.put, List.setIfInBounds_toArray, List.set_cons_zero, List.set_cons_succ]
        refine wpAnyH_take (i := 56) (oi := { dst := some 142, op := Go.Op.call { callee := Go.Callee.builtin Go.Builtin.len, args := #[Go.Operand.tmp 141], argTypes := #[24] }, type := 3, pos := "laws.go:447", after := #[{ on := 55, ground := Go.Ground.data }, { on := 50, ground := Go.Ground.guard }], guard := some (50, true) }) (v := ?vq56_55) rfl (by kernel_rfl) (by kernel_rfl) (by kernel_rfl) (fun _ _ _ h => h) (Or.inl ⟨by rfl, ?hq56_55⟩) hHeld ?rq56_55
        case hq56_55 =>
          intro wS hSw
          (try dsimp only at hSw)
          go_simp
          try with_reducible rfl
        case rq56_55 =>
        simp only [Act.put, List.setIfInBounds_toArray, List.set_cons_zero, List.set_cons_succ]
        refine wpAnyH_take (i := 57) (oi := { dst := some 143, op := Go.Op.binOp Go.BinOp.sub 3 (Go.Operand.tmp 142) (Go.Operand.const (Go.Value.int Go.IntKind.i64 1)) 3, type := 3, pos := "laws.go:447", after := #[{ on := 56, ground := Go.Ground.data }, { on := 50, ground := Go.Ground.guard }], guard := some (50, true) }) (v := ?vq57_56) rfl (by kernel_rfl) (by kernel_rfl) (by kernel_rfl) (fun _ _ _ h => h) (Or.inl ⟨by rfl, ?hq57_56⟩) hHeld ?rq57_56
        case hq57_56 =>
          intro wS hSw
          clear hSw
          have v2 := w2
          (try dsimp only at hSw)
          go_simp
          try with_reducible rfl
        case rq57_56 =>
        simp only [Act.put, List.setIfInBounds_toArray, List.set_cons_zero, List.set_cons_succ]
        refine wpAnyH_take (i := 58) (oi := { dst := some 144, op := Go.Op.indexAddr 24 (Go.Operand.tmp 139) (Go.Operand.tmp 143), type := 0, pos := "laws.go:447", after := #[{ on := 53, ground := Go.Ground.data }, { on := 57, ground := Go.Ground.data }, { on := 50, ground := Go.Ground.guard }], guard := some (50, true) }) (v := ?vq58_57) rfl (by kernel_rfl) (by kernel_rfl) (by kernel_rfl) (fun _ _ _ h => h) (Or.inl ⟨by rfl, ?hq58_57⟩) hHeld ?rq58_57
        case hq58_57 =>
          intro wS hSw
          clear hSw
          have v2 := w2
          have q1 : (x.ids.length : Int) - 1 = ((y.ids.length : Nat) : Int) := by omega
          have q2 : ((y.ids.length : Nat) : Int) < (x.ids.length : Int) := by omega
          (try dsimp only at hSw)
          go_simp
          try with_reducible rfl
        case rq58_57 =>
        simp only [Act.put, List.setIfInBounds_toArray, List.set_cons_zero, List.set_cons_succ]
        refine wpAnyH_take (i := 59) (oi := { dst := some 145, op := Go.Op.load 2 (Go.Operand.tmp 144), type := 2, pos := "laws.go:447", after := #[{ on := 58, ground := Go.Ground.data }, { on := 50, ground := Go.Ground.guard }], guard := some (50, true) }) (v := ?vq59_58) rfl (by kernel_rfl) (by kernel_rfl) (by kernel_rfl) (fun _ _ _ h => h) (Or.inl ⟨by rfl, ?hq59_58⟩) hHeld ?rq59_58
        case hq59_58 =>
          intro wS hSw
          have zc := unhide HJZ _ (unhide HUP _ hSw)
          clear hSw
          (try dsimp only at hSw)
          go_simp
          try with_reducible rfl
        case rq59_58 =>
        simp only [Act.put, List.setIfInBounds_toArray, List.set_cons_zero, List.set_cons_succ]
        refine wpAnyH_take (i := 60) (oi := { dst := some 146, op := Go.Op.move (Go.Operand.tmp 4), type := 2, pos := "laws.go:447", after := #[{ on := 50, ground := Go.Ground.guard }], guard := some (50, true) }) (v := ?vq60_59) rfl (by kernel_rfl) (by kernel_rfl) (by kernel_rfl) (fun _ _ _ h => h) (Or.inl ⟨by rfl, ?hq60_59⟩) hHeld ?rq60_59
        case hq60_59 =>
          intro wS hSw
          (try dsimp only at hSw)
          go_simp
          try with_reducible rfl
        case rq60_59 =>
        simp only [Act.put, List.setIfInBounds_toArray, List.set_cons_zero, List.set_cons_succ]
        refine wpAnyH_take (i := 61) (oi := { dst := some 147, op := Go.Op.binOp Go.BinOp.eql 2 (Go.Operand.tmp 145) (Go.Operand.tmp 146) 2, type := 4, pos := "laws.go:447", after := #[{ on := 59, ground := Go.Ground.data }, { on := 60, ground := Go.Ground.data }, { on := 50, ground := Go.Ground.guard }], guard := some (50, true) }) (v := ?vq61_60) rfl (by kernel_rfl) (by kernel_rfl) (by kernel_rfl) (fun _ _ _ h => h) (Or.inl ⟨by rfl, ?hq61_60⟩) hHeld ?rq61_60
        case hq61_60 =>
          intro wS hSw
          (try dsimp only at hSw)
          go_simp
          try with_reducible rfl
        case rq61_60 =>
        simp only [Act.put, List.setIfInBounds_toArray, List.set_cons_zero, List.set_cons_succ]
        refine wpAnyH_take (i := 62) (oi := { dst := some 148, op := Go.Op.pick (Go.Operand.tmp 136) (Go.Operand.tmp 147) (Go.Operand.const (Go.Value.bool false)), type := 4, pos := "laws.go:447", after := #[{ on := 50, ground := Go.Ground.data }, { on := 61, ground := Go.Ground.data }, { on := 36, ground := Go.Ground.guard }], guard := some (36, false) }) (v := ?vq62_61) rfl (by kernel_rfl) (by kernel_rfl) (by kernel_rfl) (fun _ _ _ h => h) (Or.inl ⟨by rfl, ?hq62_61⟩) hHeld ?rq62_61
        case hq62_61 =>
          intro wS hSw
          (try dsimp only at hSw)
          go_simp
          try with_reducible rfl
        case rq62_61 =>
        simp only [Act.put, List.setIfInBounds_toArray, List.set_cons_zero, List.set_cons_succ]
        refine wpAnyH_take (i := 63) (oi := { dst := some 149, op := Go.Op.pick (Go.Operand.tmp 122) (Go.Operand.const (Go.Value.bool true)) (Go.Operand.tmp 148), type := 4, pos := "laws.go:447", after := #[{ on := 36, ground := Go.Ground.data }, { on := 62, ground := Go.Ground.data }, { on := 32, ground := Go.Ground.guard }], guard := some (32, true) }) (v := ?vq63_62) rfl (by kernel_rfl) (by kernel_rfl) (by kernel_rfl) (fun _ _ _ h => h) (Or.inl ⟨by rfl, ?hq63_62⟩) hHeld ?rq63_62
        case hq63_62 =>
          intro wS hSw
          (try dsimp only at hSw)
          go_simp
          try with_reducible rfl
        case rq63_62 =>
        simp only [Act.put, List.setIfInBounds_toArray, List.set_cons_zero, List.set_cons_succ]
        refine wpAnyH_take (i := 64) (oi := { dst := some 150, op := Go.Op.pick (Go.Operand.tmp 118) (Go.Operand.tmp 149) (Go.Operand.const (Go.Value.bool false)), type := 4, pos := "laws.go:447", after := #[{ on := 32, ground := Go.Ground.data }, { on := 63, ground := Go.Ground.data }], guard := none }) (v := ?vq64_63) rfl (by kernel_rfl) (by kernel_rfl) (by kernel_rfl) (fun _ _ _ h => h) (Or.inl ⟨by rfl, ?hq64_63⟩) hHeld ?rq64_63
        case hq64_63 =>
          intro wS hSw
          (try dsimp only at hSw)
          go_simp
          try with_reducible rfl
        case rq64_63 =>
        simp only [Act.put, List.setIfInBounds_toArray, List.set_cons_zero, List.set_cons_succ]
        refine wpAnyH_take (i := 65) (oi := { dst := some 151, op := Go.Op.move (Go.Operand.tmp 150), type := 4, pos := "laws.go:447", after := #[{ on := 64, ground := Go.Ground.data }, { on := 50, ground := Go.Ground.chain }], guard := none }) (v := ?vq65_64) rfl (by kernel_rfl) (by kernel_rfl) (by kernel_rfl) (fun _ _ _ h => h) (Or.inl ⟨by rfl, ?hq65_64⟩) hHeld ?rq65_64
        case hq65_64 =>
          intro wS hSw
          (try dsimp only at hSw)
          go_simp
          try with_reducible rfl
        case rq65_64 =>
        simp only [Act.put, List.setIfInBounds_toArray, List.set_cons_zero, List.set_cons_succ]
        refine wpAnyH_take (i := 66) (oi := { dst := some 152, op := Go.Op.fieldAddr 37 (Go.Operand.tmp 9) 0, type := 0, pos := "laws.go:447", after := #[{ on := 65, ground := Go.Ground.guard }], guard := some (65, true) }) (v := ?vq66_65) rfl (by kernel_rfl) (by kernel_rfl) (by kernel_rfl) (fun _ _ _ h => h) (Or.inl ⟨by rfl, ?hq66_65⟩) hHeld ?rq66_65
        case hq66_65 =>
          intro wS hSw
          (try dsimp only at hSw)
          go_simp
          try with_reducible rfl
        case rq66_65 =>
        simp only [Act.put, List.setIfInBounds_toArray, List.set_cons_zero, List.set_cons_succ]
        refine wpAnyH_take (i := 67) (oi := { dst := some 153, op := Go.Op.load 2 (Go.Operand.tmp 152), type := 2, pos := "laws.go:447", after := #[{ on := 66, ground := Go.Ground.data }, { on := 65, ground := Go.Ground.guard }], guard := some (65, true) }) (v := ?vq67_66) rfl (by kernel_rfl) (by kernel_rfl) (by kernel_rfl) (fun _ _ _ h => h) (Or.inl ⟨by rfl, ?hq67_66⟩) hHeld ?rq67_66
        case hq67_66 =>
          intro wS hSw
          obtain ⟨yx0, yx1, yr0, yr1, yr2, yj0, yj1, yj2⟩ := unhide KEEP _ (unhide HUP _ hSw)
          obtain ⟨t0, t1⟩ := unhide KEEPT _ hSw
          clear hSw
          (try dsimp only at hSw)
          go_simp
          try with_reducible rfl
        case rq67_66 =>
        simp only [Act.put, List.setIfInBounds_toArray, List.set_cons_zero, List.set_cons_succ]
        refine wpAnyH_take (i := 68) (oi := { dst := some 154, op := Go.Op.binOp Go.BinOp.eql 2 (Go.Operand.tmp 153) (Go.Operand.const (Go.Value.int Go.IntKind.i64 0)) 2, type := 4, pos := "laws.go:447", after := #[{ on := 67, ground := Go.Ground.data }, { on := 65, ground := Go.Ground.guard }], guard := some (65, true) }) (v := ?vq68_67) rfl (by kernel_rfl) (by kernel_rfl) (by kernel_rfl) (fun _ _ _ h => h) (Or.inl ⟨by rfl, ?hq68_67⟩) hHeld ?rq68_67
        case hq68_67 =>
          intro wS hSw
          (try dsimp only at hSw)
          go_simp
          try with_reducible rfl
        case rq68_67 =>
        simp only [Act.put, List.setIfInBounds_toArray, List.set_cons_zero, List.set_cons_succ]
        refine wpAnyH_take (i := 69) (oi := { dst := some 155, op := Go.Op.pick (Go.Operand.tmp 151) (Go.Operand.tmp 154) (Go.Operand.const (Go.Value.bool false)), type := 4, pos := "laws.go:447", after := #[{ on := 65, ground := Go.Ground.data }, { on := 68, ground := Go.Ground.data }], guard := none }) (v := ?vq69_68) rfl (by kernel_rfl) (by kernel_rfl) (by kernel_rfl) (fun _ _ _ h => h) (Or.inl ⟨by rfl, ?hq69_68⟩) hHeld ?rq69_68
        case hq69_68 =>
          intro wS hSw
          (try dsimp only at hSw)
          go_simp
          try with_reducible rfl
        case rq69_68 =>
        simp only [Act.put, List.setIfInBounds_toArray, List.set_cons_zero, List.set_cons_succ]
        refine wpAnyH_take (i := 70) (oi := { dst := some 156, op := Go.Op.move (Go.Operand.tmp 155), type := 4, pos := "laws.go:447", after := #[{ on := 69, ground := Go.Ground.data }, { on := 65, ground := Go.Ground.chain }], guard := none }) (v := ?vq70_69) rfl (by kernel_rfl) (by kernel_rfl) (by kernel_rfl) (fun _ _ _ h => h) (Or.inl ⟨by rfl, ?hq70_69⟩) hHeld ?rq70_69
        case hq70_69 =>
          intro wS hSw
          (try dsimp only at hSw)
          go_simp
          try with_reducible rfl
        case rq70_69 =>
        simp only [Act.put, List.setIfInBounds_toArray, List.set_cons_zero, List.set_cons_succ]
        refine wpAnyH_take (i := 71) (oi := { dst := some 157, op := Go.Op.fieldAddr 37 (Go.Operand.tmp 9) 1, type := 0, pos := "laws.go:447", after := #[{ on := 70, ground := Go.Ground.guard }], guard := some (70, true) }) (v := ?vq71_70) rfl (by kernel_rfl) (by kernel_rfl) (by kernel_rfl) (fun _ _ _ h => h) (Or.inl ⟨by rfl, ?hq71_70⟩) hHeld ?rq71_70
        case hq71_70 =>
          intro wS hSw
          (try dsimp only at hSw)
          go_simp
          try with_reducible rfl
        case rq71_70 =>
        simp only [Act.put, List.setIfInBounds_toArray, List.set_cons_zero, List.set_cons_succ]
        refine wpAnyH_take (i := 72) (oi := { dst := some 158, op := Go.Op.load 9 (Go.Operand.tmp 157), type := 9, pos := "laws.go:447", after := #[{ on := 71, ground := Go.Ground.data }, { on := 70, ground := Go.Ground.guard }], guard := some (70, true) }) (v := ?vq72_71) rfl (by kernel_rfl) (by kernel_rfl) (by kernel_rfl) (fun _ _ _ h => h) (Or.inl ⟨by rfl, ?hq72_71⟩) hHeld ?rq72_71
        case hq72_71 =>
          intro wS hSw
          obtain ⟨yx0, yx1, yr0, yr1, yr2, yj0, yj1, yj2⟩ := unhide KEEP _ (unhide HUP _ hSw)
          obtain ⟨t0, t1⟩ := unhide KEEPT _ hSw
          clear hSw
          (try dsimp only at hSw)
          go_simp
          try with_reducible rfl
        case rq72_71 =>
        simp only [Act.put, List.setIfInBounds_toArray, List.set_cons_zero, List.set_cons_succ]
        refine wpAnyH_take (i := 73) (oi := { dst := some 159, op := Go.Op.fieldAddr 30 (Go.Operand.tmp 5) 1, type := 0, pos := "laws.go:447", after := #[{ on := 70, ground := Go.Ground.guard }], guard := some (70, true) }) (v := ?vq73_72) rfl (by kernel_rfl) (by kernel_rfl) (by kernel_rfl) (fun _ _ _ h => h) (Or.inl ⟨by rfl, ?hq73_72⟩) hHeld ?rq73_72
        case hq73_72 =>
          intro wS hSw
          (try dsimp only at hSw)
          go_simp
          try with_reducible rfl
        case rq73_72 =>
        simp only [Act.put, List.setIfInBounds_toArray, List.set_cons_zero, List.set_cons_succ]
        refine wpAnyH_take (i := 74) (oi := { dst := some 160, op := Go.Op.load 26 (Go.Operand.tmp 159), type := 26, pos := "laws.go:447", after := #[{ on := 73, ground := Go.Ground.data }, { on := 70, ground := Go.Ground.guard }], guard := some (70, true) }) (v := ?vq74_73) rfl (by kernel_rfl) (by kernel_rfl) (by kernel_rfl) (fun _ _ _ h => h) (Or.inl ⟨by rfl, ?hq74_73⟩) hHeld ?rq74_73
        case hq74_73 =>
          intro wS hSw
          obtain ⟨yx0, yx1, yr0, yr1, yr2, yj0, yj1, yj2⟩ := unhide KEEP _ (unhide HUP _ hSw)
          obtain ⟨t0, t1⟩ := unhide KEEPT _ hSw
          clear hSw
          (try dsimp only at hSw)
          go_simp
          try with_reducible rfl
        case rq74_73 =>
        simp only [Act.put, List.setIfInBounds_toArray, List.set_cons_zero, List.set_cons_succ]
        refine wpAnyH_ready (rs := [75]) (by kernel_rfl) (by simp) ?_
        refine AllReadyH.cons (o := { dst := some 161, op := Go.Op.call { callee := Go.Callee.value (Go.Operand.func 15), args := #[Go.Operand.tmp 160], argTypes := #[26] }, type := 37, pos := "laws.go:447", after := #[{ on := 74, ground := Go.Ground.data }, { on := 70, ground := Go.Ground.chain }, { on := 70, ground := Go.Ground.guard }], guard := some (70, true) }) rfl (fun K hK => ?_) AllReadyH.nil
        go_simp
        go_at_call 15
        refine (unhide LST _ (unhide HUP _ hHeld)).mono ?_
        rintro e v3 ⟨rfl, hbw⟩
        try go_wp2_with fail
        refine hK.out _ _ (hHeld.trans (hbw.mono hHeld.size)) (fun hHeld => ?_)
        clear hK K
        try simp only [Act.put, List.setIfInBounds_toArray, List.set_cons_zero, List.set_cons_succ]
        refine wpAnyH_take (i := 76) (oi := { dst := some 162, op := Go.Op.field 37 (Go.Operand.tmp 161) 1, type := 9, pos := "laws.go:447", after := #[{ on := 75, ground := Go.Ground.data }, { on := 70, ground := Go.Ground.guard }], guard := some (70, true) }) (v := ?vq76_74) rfl (by kernel_rfl) (by kernel_rfl) (by kernel_rfl) (fun _ _ _ h => h) (Or.inl ⟨by rfl, ?hq76_74⟩) hHeld ?rq76_74
        case hq76_74 =>
          intro wS hSw
          have yf := hft
          clear hSw
          (try dsimp only at hSw)
          go_simp
          try with_reducible rfl
        case rq76_74 =>
        simp only [Act.put, List.setIfInBounds_toArray, List.set_cons_zero, List.set_cons_succ]
        refine wpAnyH_take (i := 77) (oi := { dst := some 163, op := Go.Op.binOp Go.BinOp.eql 9 (Go.Operand.tmp 158) (Go.Operand.tmp 162) 9, type := 4, pos := "laws.go:447", after := #[{ on := 72, ground := Go.Ground.data }, { on := 76, ground := Go.Ground.data }, { on := 70, ground := Go.Ground.guard }], guard := some (70, true) }) (v := ?vq77_75) rfl (by kernel_rfl) (by kernel_rfl) (by kernel_rfl) (fun _ _ _ h => h) (Or.inl ⟨by rfl, ?hq77_75⟩) hHeld ?rq77_75
        case hq77_75 =>
          intro wS hSw
          (try dsimp only at hSw)
          go_simp
          try with_reducible rfl
        case rq77_75 =>
        simp only [Act.put, List.setIfInBounds_toArray, List.set_cons_zero, List.set_cons_succ]
        refine wpAnyH_take (i := 78) (oi := { dst := some 164, op := Go.Op.pick (Go.Operand.tmp 156) (Go.Operand.tmp 163) (Go.Operand.const (Go.Value.bool false)), type := 4, pos := "laws.go:447", after := #[{ on := 70, ground := Go.Ground.data }, { on := 77, ground := Go.Ground.data }], guard := none }) (v := ?vq78_76) rfl (by kernel_rfl) (by kernel_rfl) (by kernel_rfl) (fun _ _ _ h => h) (Or.inl ⟨by rfl, ?hq78_76⟩) hHeld ?rq78_76
        case hq78_76 =>
          intro wS hSw
          (try dsimp only at hSw)
          go_simp
          try with_reducible rfl
        case rq78_76 =>
        simp only [Act.put, List.setIfInBounds_toArray, List.set_cons_zero, List.set_cons_succ]
        refine wpAnyH_take (i := 79) (oi := { dst := some 2, op := Go.Op.assign (Go.Operand.tmp 164), type := 4, pos := "laws.go:447", after := ([{ on := 78, ground := Go.Ground.data }, { on := 75, ground := Go.Ground.chain }, { on := 0, ground := Go.Ground.phase }, { on := 1, ground := Go.Ground.phase }, { on := 2, ground := Go.Ground.phase }, { on := 3, ground := Go.Ground.phase }, { on := 4, ground := Go.Ground.phase }, { on := 5, ground := Go.Ground.phase }, { on := 6, ground := Go.Ground.phase }, { on := 7, ground := Go.Ground.phase }, { on := 8, ground := Go.Ground.phase }, { on := 9, ground := Go.Ground.phase }, { on := 10, ground := Go.Ground.phase }, { on := 11, ground := Go.Ground.phase }, { on := 12, ground := Go.Ground.phase }, { on := 13, ground := Go.Ground.phase }, { on := 14, ground := Go.Ground.phase }, { on := 15, ground := Go.Ground.phase }, { on := 16, ground := Go.Ground.phase }, { on := 17, ground := Go.Ground.phase }, { on := 18, ground := Go.Ground.phase }, { on := 19, ground := Go.Ground.phase }, { on := 20, ground := Go.Ground.phase }, { on := 21, ground := Go.Ground.phase }, { on := 22, ground := Go.Ground.phase }, { on := 23, ground := Go.Ground.phase }, { on := 24, ground := Go.Ground.phase }, { on := 25, ground := Go.Ground.phase }, { on := 26, ground := Go.Ground.phase }, { on := 27, ground := Go.Ground.phase }, { on := 28, ground := Go.Ground.phase }, { on := 29, ground := Go.Ground.phase }, { on := 30, ground := Go.Ground.phase }, { on := 31, ground := Go.Ground.phase }, { on := 32, ground := Go.Ground.phase }, { on := 33, ground := Go.Ground.phase }, { on := 34, ground := Go.Ground.phase }, { on := 35, ground := Go.Ground.phase }, { on := 36, ground := Go.Ground.phase }, { on := 37, ground := Go.Ground.phase }].append [{ on := 38, ground := Go.Ground.phase }, { on := 39, ground := Go.Ground.phase }, { on := 40, ground := Go.Ground.phase }, { on := 41, ground := Go.Ground.phase }, { on := 42, ground := Go.Ground.phase }, { on := 43, ground := Go.Ground.phase }, { on := 44, ground := Go.Ground.phase }, { on := 45, ground := Go.Ground.phase }, { on := 46, ground := Go.Ground.phase }, { on := 47, ground := Go.Ground.phase }, { on := 48, ground := Go.Ground.phase }, { on := 49, ground := Go.Ground.phase }, { on := 50, ground := Go.Ground.phase }, { on := 51, ground := Go.Ground.phase }, { on := 52, ground := Go.Ground.phase }, { on := 53, ground := Go.Ground.phase }, { on := 54, ground := Go.Ground.phase }, { on := 55, ground := Go.Ground.phase }, { on := 56, ground := Go.Ground.phase }, { on := 57, ground := Go.Ground.phase }, { on := 58, ground := Go.Ground.phase }, { on := 59, ground := Go.Ground.phase }, { on := 60, ground := Go.Ground.phase }, { on := 61, ground := Go.Ground.phase }, { on := 62, ground := Go.Ground.phase }, { on := 63, ground := Go.Ground.phase }, { on := 64, ground := Go.Ground.phase }, { on := 65, ground := Go.Ground.phase }, { on := 66, ground := Go.Ground.phase }, { on := 67, ground := Go.Ground.phase }, { on := 68, ground := Go.Ground.phase }, { on := 69, ground := Go.Ground.phase }, { on := 70, ground := Go.Ground.phase }, { on := 71, ground := Go.Ground.phase }, { on := 72, ground := Go.Ground.phase }, { on := 73, ground := Go.Ground.phase }, { on := 74, ground := Go.Ground.phase }, { on := 75, ground := Go.Ground.phase }, { on := 76, ground := Go.Ground.phase }, { on := 77, ground := Go.Ground.phase }, { on := 78, ground := Go.Ground.phase }]).toArray, guard := none }) (v := ?vq79_77) rfl (by kernel_rfl) (by kernel_rfl) (by kernel_rfl) (fun _ _ _ h => h) (Or.inl ⟨by rfl, ?hq79_77⟩) hHeld ?rq79_77
        case hq79_77 =>
          intro wS hSw
          (try dsimp only at hSw)
          go_simp
          try with_reducible rfl
        case rq79_77 =>
        simp only [Act.put, List.setIfInBounds_toArray, List.set_cons_zero, List.set_cons_succ]
        refine wpAnyH_done (by kernel_rfl) ?_ _
        refine NoPanic.normal ?_
        have HB9 := hide ((unhide HB).trans ((unhide HUP _ hHeld).mono (unhide HB).size))
        clear hHeld
        go_wp2_with fail
        go_ret
        exact ⟨rfl, unhide HB9⟩
  · have hne : ((cutR x id).code != 0) = true := by rw [bne_iff_ne]; exact hf
    have heq : ((cutR x id).code == (cutR x id).code) = true := by simp
    have heq2 : (chainFault x == chainFault x) = true := by simp
    clear hf R2
    generalize hfc : (cutR x id).code = fc at *
    generalize (cutR x id).chain.epoch = fe at *
    generalize (cutR x id).chain.ids.length = fl at *
    have HFC := hide hfc
    clear hfc
    have nb2 : Below w2.heap.size w2 (w2.alloc (.cells #[.int .i64 fc, .int .i64 fe, .slice a2 fl d2] 30)) := (Below.refl _ _).alloc (Nat.le_refl _) _
    have HX6 : Hid (Box 0 #[.int .i64 fc, .int .i64 fe, .slice a2 fl d2] 30 (w2.alloc (.cells #[.int .i64 fc, .int .i64 fe, .slice a2 fl d2] 30)) w2.heap.size) := newBox (Nat.zero_le _)
    have z0 : (w2.alloc (.cells #[.int .i64 fc, .int .i64 fe, .slice a2 fl d2] 30)).cell? ⟨w2.heap.size, 0, none⟩ = some (.int .i64 fc) := (unhide HX6).at 0 _ rfl
    replace HX3 := hide (((unhide HX3).keep hb2).keep nb2)
    replace HRX := hide (((unhide HRX).later hb2).later nb2)
    replace HB := hide (((unhide HB).trans (hb2.mono (unhide HB).size)).trans (nb2.mono (Nat.le_trans (unhide HB).size hb2.size)))
    have LM : Hid (∀ W, Below (w2.alloc (.cells #[.int .i64 fc, .int .i64 fe, .slice a2 fl d2] 30)).heap.size (w2.alloc (.cells #[.int .i64 fc, .int .i64 fe, .slice a2 fl d2] 30)) W → Calls Tryd.prog 8 #[.agg #[.int .i64 x.epoch, .slice a8 x.ids.length c8], .int .i64 id] W fun e w' => ∃ (e1 : Int) (b1 : Option Addr) (l1 k1 : Nat), e = .returned (.agg #[.int .i64 fc, .int .i64 e1, .slice b1 l1 k1]) ∧ Below W.heap.size W w') := fun W hW => by
      refine (specCutChain _ x id W ((unhide HRX).later hW)).mono ?_
      rintro e w' ⟨cs, rfl, O, hb⟩
      obtain ⟨b1, k1, rfl, -⟩ := open_ChainResult O.reads
      rw [unhide HFC]
      exact ⟨_, b1, _, k1, rfl, hb⟩
    have LI : Hid (∀ W, Below (w2.alloc (.cells #[.int .i64 fc, .int .i64 fe, .slice a2 fl d2] 30)).heap.size (w2.alloc (.cells #[.int .i64 fc, .int .i64 fe, .slice a2 fl d2] 30)) W → Calls Tryd.prog 9 #[.agg #[.int .i64 x.epoch, .slice a8 x.ids.length c8]] W fun e w' => e = .returned (.int .i64 (chainFault x)) ∧ Below W.heap.size W w') := fun W hW => (unhide HII).fault _ x W ((unhide HRX).later hW)
    have LS : Hid (∀ W, Below (w2.alloc (.cells #[.int .i64 fc, .int .i64 fe, .slice a2 fl d2] 30)).heap.size (w2.alloc (.cells #[.int .i64 fc, .int .i64 fe, .slice a2 fl d2] 30)) W → Calls Tryd.prog 10 #[.agg #[.int .i64 x.epoch, .slice a8 x.ids.length c8]] W fun e w' => e = .returned (.int .i64 (chainFault x)) ∧ Below W.heap.size W w') := fun W hW => specChainFault _ x W ((unhide HRX).later hW)
    have hfl := fun e1 a l k w => fieldCC0 fc e1 a l k w
    generalize chainFault x = cf at *
    clear nb2 hb2 HRX HRI
    go_wp2_with fail
    clear z0
    generalize w2.alloc (.cells #[.int .i64 fc, .int .i64 fe, .slice a2 fl d2] 30) = wz at *
    refine wp_region_noPanic ?_
    refine wp_region_held_drew (S := fun w' => Below wz.heap.size wz w') (by kernel_rfl) (Below.refl _ _).drew (fun hHeld => ?_)
    generalize wz.drew = wD at hHeld ⊢
    refine wpAnyH_take (i := 0) (oi := { dst := some 23, op := Go.Op.load 26 (Go.Operand.tmp 3), type := 26, pos := "laws.go:437", after := #[], guard := none }) (v := ?vc0_1) rfl (by kernel_rfl) (by kernel_rfl) (by kernel_rfl) (fun _ _ _ h => h) (Or.inl ⟨by rfl, ?hc0_1⟩) hHeld ?rc0_1
    case hc0_1 =>
      intro wS hSw
      have x0 := ((unhide HX3).keep hSw).at 0 _ rfl
      have x1 := ((unhide HX3).keep hSw).at 1 _ rfl
      simp only [List.getElem_toArray, List.getElem_cons_zero, List.getElem_cons_succ] at x0 x1
      clear hSw
      (try dsimp only at hSw)
      go_simp
      try with_reducible rfl
    case rc0_1 =>
    simp only [Act.put, List.setIfInBounds_toArray, List.set_cons_zero, List.set_cons_succ]
    refine wpAnyH_take (i := 1) (oi := { dst := some 24, op := Go.Op.move (Go.Operand.tmp 4), type := 2, pos := "laws.go:437", after := #[], guard := none }) (v := ?vc1_2) rfl (by kernel_rfl) (by kernel_rfl) (by kernel_rfl) (fun _ _ _ h => h) (Or.inl ⟨by rfl, ?hc1_2⟩) hHeld ?rc1_2
    case hc1_2 =>
      intro wS hSw
      (try dsimp only at hSw)
      go_simp
      try with_reducible rfl
    case rc1_2 =>
    simp only [Act.put, List.setIfInBounds_toArray, List.set_cons_zero, List.set_cons_succ]
    refine wpAnyH_take (i := 4) (oi := { dst := some 27, op := Go.Op.fieldAddr 30 (Go.Operand.tmp 5) 0, type := 0, pos := "laws.go:437", after := #[], guard := none }) (v := ?vc4_3) rfl (by kernel_rfl) (by kernel_rfl) (by kernel_rfl) (fun _ _ _ h => h) (Or.inl ⟨by rfl, ?hc4_3⟩) hHeld ?rc4_3
    case hc4_3 =>
      intro wS hSw
      (try dsimp only at hSw)
      go_simp
      try with_reducible rfl
    case rc4_3 =>
    simp only [Act.put, List.setIfInBounds_toArray, List.set_cons_zero, List.set_cons_succ]
    refine wpAnyH_take (i := 5) (oi := { dst := some 28, op := Go.Op.load 2 (Go.Operand.tmp 27), type := 2, pos := "laws.go:437", after := #[{ on := 4, ground := Go.Ground.data }], guard := none }) (v := ?vc5_4) rfl (by kernel_rfl) (by kernel_rfl) (by kernel_rfl) (fun _ _ _ h => h) (Or.inl ⟨by rfl, ?hc5_4⟩) hHeld ?rc5_4
    case hc5_4 =>
      intro wS hSw
      have y6 := ((unhide HX6).keep hSw).at 0 _ rfl
      simp only [List.getElem_toArray, List.getElem_cons_zero] at y6
      clear hSw
      (try dsimp only at hSw)
      go_simp
      try with_reducible rfl
    case rc5_4 =>
    simp only [Act.put, List.setIfInBounds_toArray, List.set_cons_zero, List.set_cons_succ]
    refine wpAnyH_ready (rs := [2]) (by kernel_rfl) (by simp) ?_
    refine AllReadyH.cons (o := { dst := some 25, op := Go.Op.call { callee := Go.Callee.value (Go.Operand.func 8), args := #[Go.Operand.tmp 23, Go.Operand.tmp 24], argTypes := #[26, 2] }, type := 30, pos := "laws.go:437", after := #[{ on := 0, ground := Go.Ground.data }, { on := 1, ground := Go.Ground.data }], guard := none }) rfl (fun K hK => ?_) AllReadyH.nil
    go_simp
    go_at_call 8
    refine (unhide LM _ hHeld).mono ?_
    rintro e v1 ⟨e1, b1, l1, k1, rfl, hbw⟩
    try go_wp2_with fail
    refine hK.out _ _ (hHeld.trans (hbw.mono hHeld.size)) (fun hHeld => ?_)
    clear hK K
    try simp only [Act.put, List.setIfInBounds_toArray, List.set_cons_zero, List.set_cons_succ]
    refine wpAnyH_take (i := 3) (oi := { dst := some 26, op := Go.Op.field 30 (Go.Operand.tmp 25) 0, type := 2, pos := "laws.go:437", after := #[{ on := 2, ground := Go.Ground.data }], guard := none }) (v := ?vc3_5) rfl (by kernel_rfl) (by kernel_rfl) (by kernel_rfl) (fun _ _ _ h => h) (Or.inl ⟨by rfl, ?hc3_5⟩) hHeld ?rc3_5
    case hc3_5 =>
      intro wS hSw
      have yf := hfl e1 b1 l1 k1
      clear hSw
      (try dsimp only at hSw)
      go_simp
      try with_reducible rfl
    case rc3_5 =>
    simp only [Act.put, List.setIfInBounds_toArray, List.set_cons_zero, List.set_cons_succ]
    refine wpAnyH_take (i := 6) (oi := { dst := some 29, op := Go.Op.binOp Go.BinOp.eql 2 (Go.Operand.tmp 26) (Go.Operand.tmp 28) 2, type := 4, pos := "laws.go:437", after := #[{ on := 3, ground := Go.Ground.data }, { on := 5, ground := Go.Ground.data }], guard := none }) (v := ?vc6_6) rfl (by kernel_rfl) (by kernel_rfl) (by kernel_rfl) (fun _ _ _ h => h) (Or.inl ⟨by rfl, ?hc6_6⟩) hHeld ?rc6_6
    case hc6_6 =>
      intro wS hSw
      (try dsimp only at hSw)
      go_simp
      try with_reducible rfl
    case rc6_6 =>
    simp only [Act.put, List.setIfInBounds_toArray, List.set_cons_zero, List.set_cons_succ]
    refine wpAnyH_take (i := 7) (oi := { dst := some 30, op := Go.Op.move (Go.Operand.tmp 29), type := 4, pos := "laws.go:437", after := #[{ on := 6, ground := Go.Ground.data }, { on := 2, ground := Go.Ground.chain }], guard := none }) (v := ?vc7_7) rfl (by kernel_rfl) (by kernel_rfl) (by kernel_rfl) (fun _ _ _ h => h) (Or.inl ⟨by rfl, ?hc7_7⟩) hHeld ?rc7_7
    case hc7_7 =>
      intro wS hSw
      (try dsimp only at hSw)
      go_simp
      try with_reducible rfl
    case rc7_7 =>
    simp only [Act.put, List.setIfInBounds_toArray, List.set_cons_zero, List.set_cons_succ]
    refine wpAnyH_take (i := 8) (oi := { dst := some 31, op := Go.Op.load 26 (Go.Operand.tmp 3), type := 26, pos := "laws.go:437", after := #[{ on := 7, ground := Go.Ground.guard }], guard := some (7, true) }) (v := ?vc8_8) rfl (by kernel_rfl) (by kernel_rfl) (by kernel_rfl) (fun _ _ _ h => h) (Or.inl ⟨by rfl, ?hc8_8⟩) hHeld ?rc8_8
    case hc8_8 =>
      intro wS hSw
      have x0 := ((unhide HX3).keep hSw).at 0 _ rfl
      have x1 := ((unhide HX3).keep hSw).at 1 _ rfl
      simp only [List.getElem_toArray, List.getElem_cons_zero, List.getElem_cons_succ] at x0 x1
      clear hSw
      (try dsimp only at hSw)
      go_simp
      try with_reducible rfl
    case rc8_8 =>
    simp only [Act.put, List.setIfInBounds_toArray, List.set_cons_zero, List.set_cons_succ]
    refine wpAnyH_take (i := 10) (oi := { dst := some 33, op := Go.Op.load 26 (Go.Operand.tmp 3), type := 26, pos := "laws.go:437", after := #[{ on := 7, ground := Go.Ground.guard }], guard := some (7, true) }) (v := ?vc10_9) rfl (by kernel_rfl) (by kernel_rfl) (by kernel_rfl) (fun _ _ _ h => h) (Or.inl ⟨by rfl, ?hc10_9⟩) hHeld ?rc10_9
    case hc10_9 =>
      intro wS hSw
      have x0 := ((unhide HX3).keep hSw).at 0 _ rfl
      have x1 := ((unhide HX3).keep hSw).at 1 _ rfl
      simp only [List.getElem_toArray, List.getElem_cons_zero, List.getElem_cons_succ] at x0 x1
      clear hSw
      (try dsimp only at hSw)
      go_simp
      try with_reducible rfl
    case rc10_9 =>
    simp only [Act.put, List.setIfInBounds_toArray, List.set_cons_zero, List.set_cons_succ]
    refine wpAnyH_ready (rs := [9]) (by kernel_rfl) (by simp) ?_
    refine AllReadyH.cons (o := { dst := some 32, op := Go.Op.call { callee := Go.Callee.value (Go.Operand.func 9), args := #[Go.Operand.tmp 31], argTypes := #[26] }, type := 2, pos := "laws.go:437", after := #[{ on := 8, ground := Go.Ground.data }, { on := 7, ground := Go.Ground.chain }, { on := 7, ground := Go.Ground.guard }], guard := some (7, true) }) rfl (fun K hK => ?_) AllReadyH.nil
    go_simp
    go_at_call 9
    refine (unhide LI _ hHeld).mono ?_
    rintro e v2 ⟨rfl, hbw⟩
    try go_wp2_with fail
    refine hK.out _ _ (hHeld.trans (hbw.mono hHeld.size)) (fun hHeld => ?_)
    clear hK K
    try simp only [Act.put, List.setIfInBounds_toArray, List.set_cons_zero, List.set_cons_succ]
    refine wpAnyH_ready (rs := [11]) (by kernel_rfl) (by simp) ?_
    refine AllReadyH.cons (o := { dst := some 34, op := Go.Op.call { callee := Go.Callee.value (Go.Operand.func 10), args := #[Go.Operand.tmp 33], argTypes := #[26] }, type := 2, pos := "laws.go:437", after := #[{ on := 10, ground := Go.Ground.data }, { on := 9, ground := Go.Ground.chain }, { on := 7, ground := Go.Ground.guard }], guard := some (7, true) }) rfl (fun K hK => ?_) AllReadyH.nil
    go_simp
    go_at_call 10
    refine (unhide LS _ hHeld).mono ?_
    rintro e v3 ⟨rfl, hbw⟩
    try go_wp2_with fail
    refine hK.out _ _ (hHeld.trans (hbw.mono hHeld.size)) (fun hHeld => ?_)
    clear hK K
    try simp only [Act.put, List.setIfInBounds_toArray, List.set_cons_zero, List.set_cons_succ]
    refine wpAnyH_take (i := 12) (oi := { dst := some 35, op := Go.Op.binOp Go.BinOp.eql 2 (Go.Operand.tmp 32) (Go.Operand.tmp 34) 2, type := 4, pos := "laws.go:437", after := #[{ on := 9, ground := Go.Ground.data }, { on := 11, ground := Go.Ground.data }, { on := 7, ground := Go.Ground.guard }], guard := some (7, true) }) (v := ?vc12_10) rfl (by kernel_rfl) (by kernel_rfl) (by kernel_rfl) (fun _ _ _ h => h) (Or.inl ⟨by rfl, ?hc12_10⟩) hHeld ?rc12_10
    case hc12_10 =>
      intro wS hSw
      (try dsimp only at hSw)
      go_simp
      try with_reducible rfl
    case rc12_10 =>
    simp only [Act.put, List.setIfInBounds_toArray, List.set_cons_zero, List.set_cons_succ]
    refine wpAnyH_take (i := 13) (oi := { dst := some 36, op := Go.Op.pick (Go.Operand.tmp 30) (Go.Operand.tmp 35) (Go.Operand.const (Go.Value.bool false)), type := 4, pos := "laws.go:437", after := #[{ on := 7, ground := Go.Ground.data }, { on := 12, ground := Go.Ground.data }], guard := none }) (v := ?vc13_11) rfl (by kernel_rfl) (by kernel_rfl) (by kernel_rfl) (fun _ _ _ h => h) (Or.inl ⟨by rfl, ?hc13_11⟩) hHeld ?rc13_11
    case hc13_11 =>
      intro wS hSw
      (try dsimp only at hSw)
      go_simp
      try with_reducible rfl
    case rc13_11 =>
    simp only [Act.put, List.setIfInBounds_toArray, List.set_cons_zero, List.set_cons_succ]
    refine wpAnyH_take (i := 14) (oi := { dst := some 2, op := Go.Op.assign (Go.Operand.tmp 36), type := 4, pos := "laws.go:437", after := #[{ on := 13, ground := Go.Ground.data }, { on := 11, ground := Go.Ground.chain }, { on := 0, ground := Go.Ground.phase }, { on := 1, ground := Go.Ground.phase }, { on := 2, ground := Go.Ground.phase }, { on := 3, ground := Go.Ground.phase }, { on := 4, ground := Go.Ground.phase }, { on := 5, ground := Go.Ground.phase }, { on := 6, ground := Go.Ground.phase }, { on := 7, ground := Go.Ground.phase }, { on := 8, ground := Go.Ground.phase }, { on := 9, ground := Go.Ground.phase }, { on := 10, ground := Go.Ground.phase }, { on := 11, ground := Go.Ground.phase }, { on := 12, ground := Go.Ground.phase }, { on := 13, ground := Go.Ground.phase }], guard := none }) (v := ?vc14_12) rfl (by kernel_rfl) (by kernel_rfl) (by kernel_rfl) (fun _ _ _ h => h) (Or.inl ⟨by rfl, ?hc14_12⟩) hHeld ?rc14_12
    case hc14_12 =>
      intro wS hSw
      (try dsimp only at hSw)
      go_simp
      try with_reducible rfl
    case rc14_12 =>
    simp only [Act.put, List.setIfInBounds_toArray, List.set_cons_zero, List.set_cons_succ]
    refine wpAnyH_done (by kernel_rfl) ?_ _
    refine NoPanic.normal ?_
    have HB9 := hide ((unhide HB).trans (hHeld.mono (unhide HB).size))
    clear hHeld
    go_wp2_with fail
    go_ret
    exact ⟨rfl, unhide HB9⟩

theorem lawFnChains {Q : World → Prop} (I : ImplC Q) (ao : Option Addr) (len cap : Nat) (zs : List Int) (w : World) (h : (ao = none ∧ len = 0 ∧ cap = 0 ∧ zs = []) ∨
    ∃ x, ao = some x ∧ len ≤ cap ∧ cap ≤ maxLen ∧ zs.length = cap ∧ (∀ i, i < zs.length → w.cell? (x.add i) = some (.int .u8 (zs.getD i 0))) ∧ ∀ n ∈ zs, (Lit.int .u8 n).wf = true) (hQ : Q w) :
    Calls Tryd.prog 3 #[.slice ao len cap] w fun e w' => e = .returned (.bool true) ∧ Below w.heap.size w w' := by
  by_cases hn : len ≤ 1048576
  · exact lawChains_few I ao len cap w hn (isCode_of_row h hn) hQ
  · exact lawChains_many ao len cap w (by omega)

end Go.Proofs.YtceoaphcjnfphaaDoor
