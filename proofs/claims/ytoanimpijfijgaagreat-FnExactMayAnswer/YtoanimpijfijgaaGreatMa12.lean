/-
  l12Nodes of the model: what is wrong with the nodes; nothing old is written.
  No condition.
-/
import Derived.Test.YtoanimpijfijgaaGreatMa10
import Derived.Test.YtoanimpijfijgaaGreatMa11
import Derived.Test.YtoanimpijfijgaaGreatMa05
import Derived.Deep.RegionHeld3
import Derived.Test.YtoanimpijfijgaaGreatMa00
set_option maxRecDepth 100000
set_option maxHeartbeats 4000000
namespace Go.Proofs.YtoanimpijfijgaaGreat
open Go.RowKit
abbrev o148x1 : Oper := ⟨some 34, .move (.tmp 4), 113, "l12_world.go:18", #[], none⟩
abbrev o148x2 : Oper := ⟨some 35, .nilCheck (.tmp 34), 0, "l12_world.go:18", #[⟨0, .data⟩], none⟩
abbrev o148x3 : Oper := ⟨some 36, .fieldAddr 84 (.tmp 35) 2, 0, "l12_world.go:18", #[⟨1, .data⟩], none⟩
abbrev o148x4 : Oper := ⟨some 37, .load 2 (.tmp 36), 2, "l12_world.go:18", #[⟨2, .data⟩], none⟩
abbrev o148x5 : Oper := ⟨some 38, .move (.tmp 0), 76, "l12_world.go:18", #[], none⟩
abbrev o148x6 : Oper := ⟨some 39, .nilCheck (.tmp 38), 0, "l12_world.go:18", #[⟨4, .data⟩], none⟩
abbrev o148x7 : Oper := ⟨some 40, .fieldAddr 36 (.tmp 39) 2, 0, "l12_world.go:18", #[⟨5, .data⟩], none⟩
abbrev o148x8 : Oper := ⟨some 41, .fieldAddr 31 (.tmp 40) 0, 0, "l12_world.go:18", #[⟨6, .data⟩], none⟩
abbrev o148x9 : Oper := ⟨some 42, .load 2 (.tmp 41), 2, "l12_world.go:18", #[⟨7, .data⟩], none⟩
abbrev o148x10 : Oper := ⟨some 43, .binOp .gtr 2 (.tmp 37) (.tmp 42) 2, 4, "l12_world.go:18", #[⟨3, .data⟩, ⟨8, .data⟩], none⟩
abbrev o148x11 : Oper := ⟨some 44, .move (.tmp 43), 4, "l12_world.go:18", #[⟨9, .data⟩], none⟩
abbrev o148x12 : Oper := ⟨some 45, .move (.tmp 4), 113, "l12_world.go:18", #[⟨10, .guard⟩], some (10, false)⟩
abbrev o148x13 : Oper := ⟨some 46, .nilCheck (.tmp 45), 0, "l12_world.go:18", #[⟨11, .data⟩, ⟨10, .guard⟩], some (10, false)⟩
abbrev o148x14 : Oper := ⟨some 47, .fieldAddr 84 (.tmp 46) 1, 0, "l12_world.go:18", #[⟨12, .data⟩, ⟨10, .guard⟩], some (10, false)⟩
abbrev o148x15 : Oper := ⟨some 48, .load 4 (.tmp 47), 4, "l12_world.go:18", #[⟨13, .data⟩, ⟨10, .guard⟩], some (10, false)⟩
abbrev o148x16 : Oper := ⟨some 49, .move (.tmp 48), 4, "l12_world.go:18", #[⟨14, .data⟩, ⟨10, .chain⟩, ⟨10, .guard⟩], some (10, false)⟩
abbrev o148x17 : Oper := ⟨some 50, .move (.tmp 0), 76, "l12_world.go:18", #[⟨15, .guard⟩], some (15, true)⟩
abbrev o148x18 : Oper := ⟨some 51, .nilCheck (.tmp 50), 0, "l12_world.go:18", #[⟨16, .data⟩, ⟨15, .guard⟩], some (15, true)⟩
abbrev o148x19 : Oper := ⟨some 52, .fieldAddr 36 (.tmp 51) 2, 0, "l12_world.go:18", #[⟨17, .data⟩, ⟨15, .guard⟩], some (15, true)⟩
abbrev o148x20 : Oper := ⟨some 53, .move (.tmp 4), 113, "l12_world.go:18", #[⟨15, .guard⟩], some (15, true)⟩
abbrev o148x21 : Oper := ⟨some 54, .nilCheck (.tmp 53), 0, "l12_world.go:18", #[⟨19, .data⟩, ⟨15, .guard⟩], some (15, true)⟩
abbrev o148x22 : Oper := ⟨some 55, .fieldAddr 84 (.tmp 54) 0, 0, "l12_world.go:18", #[⟨20, .data⟩, ⟨15, .guard⟩], some (15, true)⟩
abbrev o148x23 : Oper := ⟨some 56, .load 2 (.tmp 55), 2, "l12_world.go:18", #[⟨21, .data⟩, ⟨15, .guard⟩], some (15, true)⟩
abbrev o148x24 : Oper := ⟨some 57, .call { callee := .value (.func 131), args := #[.tmp 52, .tmp 56], argTypes := #[80, 2] }, 3, "l12_world.go:18", #[⟨18, .data⟩, ⟨22, .data⟩, ⟨15, .chain⟩, ⟨15, .guard⟩], some (15, true)⟩
abbrev o148x25 : Oper := ⟨some 58, .binOp .geq 3 (.tmp 57) (.const (.int .i64 0)) 3, 4, "l12_world.go:18", #[⟨23, .data⟩, ⟨15, .guard⟩], some (15, true)⟩
abbrev o148x26 : Oper := ⟨some 59, .pick (.tmp 49) (.tmp 58) (.const (.bool false)), 4, "l12_world.go:18", #[⟨15, .data⟩, ⟨24, .data⟩, ⟨10, .guard⟩], some (10, false)⟩
abbrev o148x27 : Oper := ⟨some 60, .move (.tmp 59), 4, "l12_world.go:18", #[⟨25, .data⟩, ⟨23, .chain⟩, ⟨10, .guard⟩], some (10, false)⟩
abbrev o148x28 : Oper := ⟨some 61, .move (.tmp 4), 113, "l12_world.go:18", #[⟨26, .guard⟩], some (26, true)⟩
abbrev o148x29 : Oper := ⟨some 62, .nilCheck (.tmp 61), 0, "l12_world.go:18", #[⟨27, .data⟩, ⟨26, .guard⟩], some (26, true)⟩
abbrev o148x30 : Oper := ⟨some 63, .fieldAddr 84 (.tmp 62) 2, 0, "l12_world.go:18", #[⟨28, .data⟩, ⟨26, .guard⟩], some (26, true)⟩
abbrev o148x31 : Oper := ⟨some 64, .load 2 (.tmp 63), 2, "l12_world.go:18", #[⟨29, .data⟩, ⟨26, .guard⟩], some (26, true)⟩
abbrev o148x32 : Oper := ⟨some 65, .move (.tmp 0), 76, "l12_world.go:18", #[⟨26, .guard⟩], some (26, true)⟩
abbrev o148x33 : Oper := ⟨some 66, .nilCheck (.tmp 65), 0, "l12_world.go:18", #[⟨31, .data⟩, ⟨26, .guard⟩], some (26, true)⟩
abbrev o148x34 : Oper := ⟨some 67, .fieldAddr 36 (.tmp 66) 2, 0, "l12_world.go:18", #[⟨32, .data⟩, ⟨26, .guard⟩], some (26, true)⟩
abbrev o148x35 : Oper := ⟨some 68, .fieldAddr 31 (.tmp 67) 0, 0, "l12_world.go:18", #[⟨33, .data⟩, ⟨26, .guard⟩], some (26, true)⟩
abbrev o148x36 : Oper := ⟨some 69, .load 2 (.tmp 68), 2, "l12_world.go:18", #[⟨34, .data⟩, ⟨26, .guard⟩], some (26, true)⟩
abbrev o148x37 : Oper := ⟨some 70, .binOp .neq 2 (.tmp 64) (.tmp 69) 2, 4, "l12_world.go:18", #[⟨30, .data⟩, ⟨35, .data⟩, ⟨26, .guard⟩], some (26, true)⟩
abbrev o148x38 : Oper := ⟨some 71, .pick (.tmp 60) (.tmp 70) (.const (.bool false)), 4, "l12_world.go:18", #[⟨26, .data⟩, ⟨36, .data⟩, ⟨10, .guard⟩], some (10, false)⟩
abbrev o148x39 : Oper := ⟨some 72, .pick (.tmp 44) (.const (.bool true)) (.tmp 71), 4, "l12_world.go:18", #[⟨10, .data⟩, ⟨37, .data⟩], none⟩
theorem nodesF_dropS (c : DChain) {xs : List DNode} {k : Nat} (hk : k < xs.length) : nodesF c k (xs.drop k) = if nodeFault xs[k] ≠ 0 then nodeFault xs[k] else if (xs[k].id != (k : Int) + 1) = true then 1 else if (decide (c.epoch < xs[k].epoch) || ((xs[k].up && decide (0 ≤ placeC c.ids xs[k].id)) && (xs[k].epoch != c.epoch))) = true then 7 else nodesF c (k + 1) (xs.drop (k + 1)) := by
 rw [List.drop_eq_getElem_cons hk, nodesF]
 by_cases h1 : nodeFault xs[k] ≠ 0
 ·
  rw [if_pos h1, if_pos h1]
 rw [if_neg h1, if_neg h1]
 by_cases h2 : xs[k].id ≠ (k : Int) + 1
 ·
  have b2 : (xs[k].id != (k : Int) + 1) = true := by simpa using h2
  rw [if_pos h2, b2, if_pos rfl]
 have b2 : (xs[k].id != (k : Int) + 1) = false := by simpa using h2
 rw [if_neg h2, b2, if_neg (show ¬ (false = true) by simp)]
 by_cases h3 : c.epoch < xs[k].epoch ∨ (xs[k].up = true ∧ 0 ≤ placeC c.ids xs[k].id ∧ xs[k].epoch ≠ c.epoch)
 ·
  have b3 : (decide (c.epoch < xs[k].epoch) || ((xs[k].up && decide (0 ≤ placeC c.ids xs[k].id)) && (xs[k].epoch != c.epoch))) = true := by
   rcases h3 with h3 | ⟨h4, h5, h6⟩
   ·
    simp [h3]
   simp [h4, h5, h6]
  rw [if_pos h3, b3, if_pos rfl]
 rw [if_neg h3, if_neg]
 intro q
 apply h3
 simp only [Bool.or_eq_true, Bool.and_eq_true, decide_eq_true_eq, bne_iff_ne] at q
 rcases q with q | ⟨⟨q1, q2⟩, q3⟩
 ·
  exact Or.inl q
 exact Or.inr ⟨q1, q2, q3⟩
theorem l12NodesC (a3 : Option Addr) (d3 : Nat) (a4 : Option Addr) (d4 : Nat) (a5 : Option Addr) (d5 : Nat) (a6 : Option Addr) (d6 : Nat) (x : DWorld) (xb : Nat) (w : World) (hX : Box 0 #[.int .i64 x.now, .int .i64 x.events, .int .i64 x.chain.epoch, .slice a3 x.chain.ids.length d3, .slice a4 x.nodes.length d4, .slice a5 x.msgs.length d5, .slice a6 x.history.length d6] 36 w xb) (h : Lay.tWorld.Reads w [.int .i64 x.now, .int .i64 x.events, .int .i64 x.chain.epoch, .slice a3 x.chain.ids.length d3, .slice a4 x.nodes.length d4, .slice a5 x.msgs.length d5, .slice a6 x.history.length d6] x) :
  Calls Tryz.prog 179 #[.pointer (some ⟨xb, 0, none⟩)] w fun e w' => e = .returned (.int .i64 (nodesFault x)) ∧ Below w.heap.size w w' := by
 obtain ⟨_, _, _, _, _, _, _, _, hq, RC, RN, -, -⟩ := open_World h
 simp only [List.cons.injEq, Value.slice.injEq, and_true, true_and] at hq
 obtain ⟨⟨rfl, rfl⟩, ⟨rfl, rfl⟩, ⟨rfl, rfl⟩, rfl, rfl⟩ := hq
 obtain ⟨_, _, hq, RI⟩ := open_Chain RC
 simp only [List.cons.injEq, Value.slice.injEq, and_true, true_and] at hq
 obtain ⟨rfl, rfl⟩ := hq
 have hbig := RI.big
 have hbn := RN.big
 have HI := yh RI
 have HN := yh RN
 have HX := yh hX
 have HQ : Hid (nodesFault x = if nodesF x.chain 0 (x.nodes.drop 0) ≠ 0 then nodesF x.chain 0 (x.nodes.drop 0) else if (x.chain.ids.drop 0).all (nodeIn x) = true then 0 else 4) := by
  show nodesFault x = _
  unfold nodesFault
  rfl
 have HV : Hid (∀ n, nodesF x.chain 0 (x.nodes.drop 0) = n → n ≠ 0 → nodesFault x = n) := fun n h1 h2 => by rw [uh HQ, h1, if_pos h2]
 have HV0 : Hid (nodesF x.chain 0 (x.nodes.drop 0) = 0 → nodesFault x = if (x.chain.ids.drop 0).all (nodeIn x) = true then 0 else 4) := fun h1 => by rw [uh HQ, h1]; rfl
 clear RC RN RI h hX HQ
 generalize nodesFault x = r at *
 generalize hF0 : nodesF x.chain 0 (x.nodes.drop 0) = f0 at *
 replace hF0 := hF0.symm
 go_enter Tryz.func179, Tryz.ntmps179
 go_wp2_with fail
 go_loopw [3] (fun i wr => ∃ k : Nat, k ≤ x.nodes.length ∧ i = .int .i64 k ∧ f0 = nodesF x.chain k (x.nodes.drop k) ∧ Below w.heap.size w wr) (fun i _ => x.nodes.length - (intOf i).toNat)
 case atStart => exact ⟨0, Nat.zero_le _, rfl, hF0, Below.refl _ _⟩
 case round =>
  obtain ⟨k, hk, rfl, hF, hB⟩ := hrel
  clear hF0
  have hX1 := (uh HX).keep hB
  have v2 := Box.at hX1 2 _ rfl
  have v3 := Box.at hX1 4 _ rfl
  have w3 := Box.at hX1 3 _ rfl
  simp only [ga, gb, gc] at v2 v3 w3
  have xl := hX1.lt
  have HX1 := yh hX1
  clear hX1 w3
  by_cases hlt : k < x.nodes.length
  ·
   obtain ⟨b, off, rfl, hbl⟩ := Lay.sl_addr (uh HN) (by omega)
   obtain ⟨row, hcl, hr⟩ := Lay.row_at (uh HN) hlt
   replace hr := hr.later hB
   rw [nodesF_dropS x.chain hlt] at hF
   have hdl : decide ((k : Int) < (x.nodes.length : Int)) = true := by simp; omega
   have hrl := hr.len
   obtain ⟨a4n, d4n, rfl, RW⟩ := open_Node hr
   have hRI : RowIn #[.int .i64 (x.nodes[k]).id, .bool (x.nodes[k]).up, .int .i64 (x.nodes[k]).epoch, .int .i64 (x.nodes[k]).lease, .slice a4n (x.nodes[k]).writes.length d4n, .int .i64 (x.nodes[k]).sure, .int .i64 (x.nodes[k]).clean] wr b (off + k * 7) := RowIn.ofRow (A := Lay.tNode) (k := k) (fun m hm => (hB.cell (p := ⟨b, off + k * 7 + m, none⟩) hbl).trans (hcl m hm)) hrl (Nat.lt_of_lt_of_le hbl hB.size)
   have hI := (uh HI).later hB
   have HL := yh (l9FaultO b (off + k * 7) a4n d4n _ wr hRI RW)
   have HRI := yh hRI
   have HB := yh hB
   have HF := yh hF
   have HI1 := yh hI
   clear hF hB hr hrl hcl hRI hI RW
   generalize hx : x.nodes[k] = n at *
   clear hx
   go_wp2_with fail
   refine (uh HL).mono ?_
   rintro e w5 ⟨rfl, hb⟩
   replace HX1 := yh ((uh HX1).keep hb)
   replace HRI := yh ((uh HRI).keep hb)
   replace HI1 := yh ((uh HI1).later hb)
   replace HB := yh ((uh HB).trans (hb.mono (uh HB).size))
   clear hb HL v2 v3
   by_cases e1 : nodeFault n ≠ 0
   ·
    have hd : (nodeFault n != 0) = true := by simpa using e1
    have HE := yh (uh HV _ ((uh HF).trans (if_pos e1)) e1)
    clear e1
    generalize nodeFault n = c at *
    go_wp2_with fail
    go_ret
    exact ⟨by rw [uh HE]; rfl, uh HB⟩
   replace HF := yh ((uh HF).trans (if_neg e1))
   have hd : nodeFault n = 0 := by simpa using e1
   clear e1
   rw [hd]
   clear hd
   have HB0 := HB
   replace HB := yh (uh HB).drew
   have z0' := (uh HRI).at 0 _ rfl
   have z0 := (uh HRI).drew.at 0 _ rfl
   have z1 := (uh HRI).drew.at 1 _ rfl
   have z2 := (uh HRI).drew.at 2 _ rfl
   have y2 := Box.at (uh HX1).drew 2 _ rfl
   simp only [List.getElem_toArray, List.getElem_cons_zero, List.getElem_cons_succ, Nat.add_zero] at z0' z0 z1 z2 y2
   have xl5 := (uh HX1).lt
   have rl5 := (uh HRI).lt
   have LA : Hid (Calls Tryz.prog 131 #[.pointer (some ⟨xb, 2, none⟩), .int .i64 n.id] w5.drew fun e w' => e = .returned (.int .i64 (placeC x.chain.ids n.id)) ∧ w' = w5.drew) := l10AtO xb 2 _ _ x.chain n.id w5.drew ⟨(uh HX1).drew.at 2 _ rfl, (uh HX1).drew.at 3 _ rfl⟩ ((uh HI1).drew 1)
   generalize hid : n.id = id at *
   cases e2 : (id != (k : Int) + 1)
   ·
    replace HF := yh ((uh HF).trans (if_neg (by rw [e2]; simp)))
    clear hid
    generalize hup : n.up = up at *
    generalize hep : n.epoch = ep at *
    generalize hce : x.chain.epoch = ce at *
    generalize placeC x.chain.ids id = p at *
    clear hup hep hce
    cases e3 : decide (ce < ep)
    ·
     cases up
     ·
      replace HF := yh ((uh HF).trans (if_neg (by rw [e3]; simp)))
      go_wp2_with fail
      refine wp_region_noPanic ?_
      refine wp_region_held_drew (S := fun w' => w' = w5.drew) (by kernel_rfl) rfl (fun zq => ?_)
      generalize w5.drew = wD at zq z0 z1 z2 y2 HB LA ⊢
      refine tkH (i := 0) (oi := o148x1) (v := ?vq1_0) rfl ?hq1_0 zq ?rq1_0
      case hq1_0 =>
       intro wS hSw
       subst hSw
       (try dsimp only at hSw)
       go_simp
       try with_reducible rfl
      refine tkH (i := 1) (oi := o148x2) (v := ?vq1_1) rfl ?hq1_1 zq ?rq1_1
      case hq1_1 =>
       intro wS hSw
       subst hSw
       (try dsimp only at hSw)
       go_simp
       try with_reducible rfl
      refine tkH (i := 2) (oi := o148x3) (v := ?vq1_2) rfl ?hq1_2 zq ?rq1_2
      case hq1_2 =>
       intro wS hSw
       subst hSw
       (try dsimp only at hSw)
       go_simp
       try with_reducible rfl
      refine tkH (i := 3) (oi := o148x4) (v := ?vq1_3) rfl ?hq1_3 zq ?rq1_3
      case hq1_3 =>
       intro wS hSw
       subst hSw
       (try dsimp only at hSw)
       go_simp
       try with_reducible rfl
      refine tkH (i := 4) (oi := o148x5) (v := ?vq1_4) rfl ?hq1_4 zq ?rq1_4
      case hq1_4 =>
       intro wS hSw
       subst hSw
       (try dsimp only at hSw)
       go_simp
       try with_reducible rfl
      refine tkH (i := 5) (oi := o148x6) (v := ?vq1_5) rfl ?hq1_5 zq ?rq1_5
      case hq1_5 =>
       intro wS hSw
       subst hSw
       (try dsimp only at hSw)
       go_simp
       try with_reducible rfl
      refine tkH (i := 6) (oi := o148x7) (v := ?vq1_6) rfl ?hq1_6 zq ?rq1_6
      case hq1_6 =>
       intro wS hSw
       subst hSw
       (try dsimp only at hSw)
       go_simp
       try with_reducible rfl
      refine tkH (i := 7) (oi := o148x8) (v := ?vq1_7) rfl ?hq1_7 zq ?rq1_7
      case hq1_7 =>
       intro wS hSw
       subst hSw
       (try dsimp only at hSw)
       go_simp
       try with_reducible rfl
      refine tkH (i := 8) (oi := o148x9) (v := ?vq1_8) rfl ?hq1_8 zq ?rq1_8
      case hq1_8 =>
       intro wS hSw
       subst hSw
       (try dsimp only at hSw)
       go_simp
       try with_reducible rfl
      refine tkH (i := 9) (oi := o148x10) (v := ?vq1_9) rfl ?hq1_9 zq ?rq1_9
      case hq1_9 =>
       intro wS hSw
       subst hSw
       (try dsimp only at hSw)
       go_simp
       try with_reducible rfl
      refine tkH (i := 10) (oi := o148x11) (v := ?vq1_10) rfl ?hq1_10 zq ?rq1_10
      case hq1_10 =>
       intro wS hSw
       subst hSw
       (try dsimp only at hSw)
       go_simp
       try with_reducible rfl
      refine tkH (i := 11) (oi := o148x12) (v := ?vq1_11) rfl ?hq1_11 zq ?rq1_11
      case hq1_11 =>
       intro wS hSw
       subst hSw
       (try dsimp only at hSw)
       go_simp
       try with_reducible rfl
      refine tkH (i := 12) (oi := o148x13) (v := ?vq1_12) rfl ?hq1_12 zq ?rq1_12
      case hq1_12 =>
       intro wS hSw
       subst hSw
       (try dsimp only at hSw)
       go_simp
       try with_reducible rfl
      refine tkH (i := 13) (oi := o148x14) (v := ?vq1_13) rfl ?hq1_13 zq ?rq1_13
      case hq1_13 =>
       intro wS hSw
       subst hSw
       (try dsimp only at hSw)
       go_simp
       try with_reducible rfl
      refine tkH (i := 14) (oi := o148x15) (v := ?vq1_14) rfl ?hq1_14 zq ?rq1_14
      case hq1_14 =>
       intro wS hSw
       subst hSw
       (try dsimp only at hSw)
       go_simp
       try with_reducible rfl
      refine tkH (i := 15) (oi := o148x16) (v := ?vq1_15) rfl ?hq1_15 zq ?rq1_15
      case hq1_15 =>
       intro wS hSw
       subst hSw
       (try dsimp only at hSw)
       go_simp
       try with_reducible rfl
      refine skH (i := 16) (oi := o148x17) rfl zq ?_
      refine skH (i := 17) (oi := o148x18) rfl zq ?_
      refine skH (i := 18) (oi := o148x19) rfl zq ?_
      refine skH (i := 19) (oi := o148x20) rfl zq ?_
      refine skH (i := 20) (oi := o148x21) rfl zq ?_
      refine skH (i := 21) (oi := o148x22) rfl zq ?_
      refine skH (i := 22) (oi := o148x23) rfl zq ?_
      refine skH (i := 23) (oi := o148x24) rfl zq ?_
      refine skH (i := 24) (oi := o148x25) rfl zq ?_
      refine tkH (i := 25) (oi := o148x26) (v := ?vq1_25) rfl ?hq1_25 zq ?rq1_25
      case hq1_25 =>
       intro wS hSw
       subst hSw
       (try dsimp only at hSw)
       go_simp
       try with_reducible rfl
      refine tkH (i := 26) (oi := o148x27) (v := ?vq1_26) rfl ?hq1_26 zq ?rq1_26
      case hq1_26 =>
       intro wS hSw
       subst hSw
       (try dsimp only at hSw)
       go_simp
       try with_reducible rfl
      refine skH (i := 27) (oi := o148x28) rfl zq ?_
      refine skH (i := 28) (oi := o148x29) rfl zq ?_
      refine skH (i := 29) (oi := o148x30) rfl zq ?_
      refine skH (i := 30) (oi := o148x31) rfl zq ?_
      refine skH (i := 31) (oi := o148x32) rfl zq ?_
      refine skH (i := 32) (oi := o148x33) rfl zq ?_
      refine skH (i := 33) (oi := o148x34) rfl zq ?_
      refine skH (i := 34) (oi := o148x35) rfl zq ?_
      refine skH (i := 35) (oi := o148x36) rfl zq ?_
      refine skH (i := 36) (oi := o148x37) rfl zq ?_
      refine tkH (i := 37) (oi := o148x38) (v := ?vq1_37) rfl ?hq1_37 zq ?rq1_37
      case hq1_37 =>
       intro wS hSw
       subst hSw
       (try dsimp only at hSw)
       go_simp
       try with_reducible rfl
      refine tkH (i := 38) (oi := o148x39) (v := ?vq1_38) rfl ?hq1_38 zq ?rq1_38
      case hq1_38 =>
       intro wS hSw
       subst hSw
       (try dsimp only at hSw)
       go_simp
       try with_reducible rfl
      refine wpAnyH_done (by kernel_rfl) ?_ _
      refine NoPanic.normal ?_
      clear zq
      go_wp2_with fail
      go_roundw
      case rel => exact ⟨k + 1, by omega, by go_num, uh HF, uh HB⟩
      case measure => simp [intOf]; omega
     cases e4 : decide (0 ≤ p)
     ·
      replace HF := yh ((uh HF).trans (if_neg (by rw [e3, e4]; simp)))
      go_wp2_with fail
      refine wp_region_noPanic ?_
      refine wp_region_held_drew (S := fun w' => w' = w5.drew) (by kernel_rfl) rfl (fun zq => ?_)
      generalize w5.drew = wD at zq z0 z1 z2 y2 HB LA ⊢
      refine tkH (i := 0) (oi := o148x1) (v := ?vq2_0) rfl ?hq2_0 zq ?rq2_0
      case hq2_0 =>
       intro wS hSw
       subst hSw
       (try dsimp only at hSw)
       go_simp
       try with_reducible rfl
      refine tkH (i := 1) (oi := o148x2) (v := ?vq2_1) rfl ?hq2_1 zq ?rq2_1
      case hq2_1 =>
       intro wS hSw
       subst hSw
       (try dsimp only at hSw)
       go_simp
       try with_reducible rfl
      refine tkH (i := 2) (oi := o148x3) (v := ?vq2_2) rfl ?hq2_2 zq ?rq2_2
      case hq2_2 =>
       intro wS hSw
       subst hSw
       (try dsimp only at hSw)
       go_simp
       try with_reducible rfl
      refine tkH (i := 3) (oi := o148x4) (v := ?vq2_3) rfl ?hq2_3 zq ?rq2_3
      case hq2_3 =>
       intro wS hSw
       subst hSw
       (try dsimp only at hSw)
       go_simp
       try with_reducible rfl
      refine tkH (i := 4) (oi := o148x5) (v := ?vq2_4) rfl ?hq2_4 zq ?rq2_4
      case hq2_4 =>
       intro wS hSw
       subst hSw
       (try dsimp only at hSw)
       go_simp
       try with_reducible rfl
      refine tkH (i := 5) (oi := o148x6) (v := ?vq2_5) rfl ?hq2_5 zq ?rq2_5
      case hq2_5 =>
       intro wS hSw
       subst hSw
       (try dsimp only at hSw)
       go_simp
       try with_reducible rfl
      refine tkH (i := 6) (oi := o148x7) (v := ?vq2_6) rfl ?hq2_6 zq ?rq2_6
      case hq2_6 =>
       intro wS hSw
       subst hSw
       (try dsimp only at hSw)
       go_simp
       try with_reducible rfl
      refine tkH (i := 7) (oi := o148x8) (v := ?vq2_7) rfl ?hq2_7 zq ?rq2_7
      case hq2_7 =>
       intro wS hSw
       subst hSw
       (try dsimp only at hSw)
       go_simp
       try with_reducible rfl
      refine tkH (i := 8) (oi := o148x9) (v := ?vq2_8) rfl ?hq2_8 zq ?rq2_8
      case hq2_8 =>
       intro wS hSw
       subst hSw
       (try dsimp only at hSw)
       go_simp
       try with_reducible rfl
      refine tkH (i := 9) (oi := o148x10) (v := ?vq2_9) rfl ?hq2_9 zq ?rq2_9
      case hq2_9 =>
       intro wS hSw
       subst hSw
       (try dsimp only at hSw)
       go_simp
       try with_reducible rfl
      refine tkH (i := 10) (oi := o148x11) (v := ?vq2_10) rfl ?hq2_10 zq ?rq2_10
      case hq2_10 =>
       intro wS hSw
       subst hSw
       (try dsimp only at hSw)
       go_simp
       try with_reducible rfl
      refine tkH (i := 11) (oi := o148x12) (v := ?vq2_11) rfl ?hq2_11 zq ?rq2_11
      case hq2_11 =>
       intro wS hSw
       subst hSw
       (try dsimp only at hSw)
       go_simp
       try with_reducible rfl
      refine tkH (i := 12) (oi := o148x13) (v := ?vq2_12) rfl ?hq2_12 zq ?rq2_12
      case hq2_12 =>
       intro wS hSw
       subst hSw
       (try dsimp only at hSw)
       go_simp
       try with_reducible rfl
      refine tkH (i := 13) (oi := o148x14) (v := ?vq2_13) rfl ?hq2_13 zq ?rq2_13
      case hq2_13 =>
       intro wS hSw
       subst hSw
       (try dsimp only at hSw)
       go_simp
       try with_reducible rfl
      refine tkH (i := 14) (oi := o148x15) (v := ?vq2_14) rfl ?hq2_14 zq ?rq2_14
      case hq2_14 =>
       intro wS hSw
       subst hSw
       (try dsimp only at hSw)
       go_simp
       try with_reducible rfl
      refine tkH (i := 15) (oi := o148x16) (v := ?vq2_15) rfl ?hq2_15 zq ?rq2_15
      case hq2_15 =>
       intro wS hSw
       subst hSw
       (try dsimp only at hSw)
       go_simp
       try with_reducible rfl
      refine tkH (i := 16) (oi := o148x17) (v := ?vq2_16) rfl ?hq2_16 zq ?rq2_16
      case hq2_16 =>
       intro wS hSw
       subst hSw
       (try dsimp only at hSw)
       go_simp
       try with_reducible rfl
      refine tkH (i := 17) (oi := o148x18) (v := ?vq2_17) rfl ?hq2_17 zq ?rq2_17
      case hq2_17 =>
       intro wS hSw
       subst hSw
       (try dsimp only at hSw)
       go_simp
       try with_reducible rfl
      refine tkH (i := 18) (oi := o148x19) (v := ?vq2_18) rfl ?hq2_18 zq ?rq2_18
      case hq2_18 =>
       intro wS hSw
       subst hSw
       (try dsimp only at hSw)
       go_simp
       try with_reducible rfl
      refine tkH (i := 19) (oi := o148x20) (v := ?vq2_19) rfl ?hq2_19 zq ?rq2_19
      case hq2_19 =>
       intro wS hSw
       subst hSw
       (try dsimp only at hSw)
       go_simp
       try with_reducible rfl
      refine tkH (i := 20) (oi := o148x21) (v := ?vq2_20) rfl ?hq2_20 zq ?rq2_20
      case hq2_20 =>
       intro wS hSw
       subst hSw
       (try dsimp only at hSw)
       go_simp
       try with_reducible rfl
      refine tkH (i := 21) (oi := o148x22) (v := ?vq2_21) rfl ?hq2_21 zq ?rq2_21
      case hq2_21 =>
       intro wS hSw
       subst hSw
       (try dsimp only at hSw)
       go_simp
       try with_reducible rfl
      refine tkH (i := 22) (oi := o148x23) (v := ?vq2_22) rfl ?hq2_22 zq ?rq2_22
      case hq2_22 =>
       intro wS hSw
       subst hSw
       (try dsimp only at hSw)
       go_simp
       try with_reducible rfl
      refine rdH (i := 23) (oi := o148x24) rfl (fun K hK => ?_)
      go_simp
      go_at_call 131
      refine (uh LA).mono ?_
      rintro e u1 ⟨rfl, h1⟩
      subst u1
      try go_wp2_with fail
      refine hK.out _ _ rfl (fun zq => ?_)
      clear hK K
      try simp only [Act.put, pz, py, px]
      refine tkH (i := 24) (oi := o148x25) (v := ?vq2_24) rfl ?hq2_24 zq ?rq2_24
      case hq2_24 =>
       intro wS hSw
       subst hSw
       (try dsimp only at hSw)
       go_simp
       try with_reducible rfl
      refine tkH (i := 25) (oi := o148x26) (v := ?vq2_25) rfl ?hq2_25 zq ?rq2_25
      case hq2_25 =>
       intro wS hSw
       subst hSw
       (try dsimp only at hSw)
       go_simp
       try with_reducible rfl
      refine tkH (i := 26) (oi := o148x27) (v := ?vq2_26) rfl ?hq2_26 zq ?rq2_26
      case hq2_26 =>
       intro wS hSw
       subst hSw
       (try dsimp only at hSw)
       go_simp
       try with_reducible rfl
      refine skH (i := 27) (oi := o148x28) rfl zq ?_
      refine skH (i := 28) (oi := o148x29) rfl zq ?_
      refine skH (i := 29) (oi := o148x30) rfl zq ?_
      refine skH (i := 30) (oi := o148x31) rfl zq ?_
      refine skH (i := 31) (oi := o148x32) rfl zq ?_
      refine skH (i := 32) (oi := o148x33) rfl zq ?_
      refine skH (i := 33) (oi := o148x34) rfl zq ?_
      refine skH (i := 34) (oi := o148x35) rfl zq ?_
      refine skH (i := 35) (oi := o148x36) rfl zq ?_
      refine skH (i := 36) (oi := o148x37) rfl zq ?_
      refine tkH (i := 37) (oi := o148x38) (v := ?vq2_37) rfl ?hq2_37 zq ?rq2_37
      case hq2_37 =>
       intro wS hSw
       subst hSw
       (try dsimp only at hSw)
       go_simp
       try with_reducible rfl
      refine tkH (i := 38) (oi := o148x39) (v := ?vq2_38) rfl ?hq2_38 zq ?rq2_38
      case hq2_38 =>
       intro wS hSw
       subst hSw
       (try dsimp only at hSw)
       go_simp
       try with_reducible rfl
      refine wpAnyH_done (by kernel_rfl) ?_ _
      refine NoPanic.normal ?_
      clear zq
      go_wp2_with fail
      go_roundw
      case rel => exact ⟨k + 1, by omega, by go_num, uh HF, uh HB⟩
      case measure => simp [intOf]; omega
     cases e5 : (ep != ce)
     ·
      replace HF := yh ((uh HF).trans (if_neg (by rw [e3, e4, e5]; simp)))
      go_wp2_with fail
      refine wp_region_noPanic ?_
      refine wp_region_held_drew (S := fun w' => w' = w5.drew) (by kernel_rfl) rfl (fun zq => ?_)
      generalize w5.drew = wD at zq z0 z1 z2 y2 HB LA ⊢
      refine tkH (i := 0) (oi := o148x1) (v := ?vq3_0) rfl ?hq3_0 zq ?rq3_0
      case hq3_0 =>
       intro wS hSw
       subst hSw
       (try dsimp only at hSw)
       go_simp
       try with_reducible rfl
      refine tkH (i := 1) (oi := o148x2) (v := ?vq3_1) rfl ?hq3_1 zq ?rq3_1
      case hq3_1 =>
       intro wS hSw
       subst hSw
       (try dsimp only at hSw)
       go_simp
       try with_reducible rfl
      refine tkH (i := 2) (oi := o148x3) (v := ?vq3_2) rfl ?hq3_2 zq ?rq3_2
      case hq3_2 =>
       intro wS hSw
       subst hSw
       (try dsimp only at hSw)
       go_simp
       try with_reducible rfl
      refine tkH (i := 3) (oi := o148x4) (v := ?vq3_3) rfl ?hq3_3 zq ?rq3_3
      case hq3_3 =>
       intro wS hSw
       subst hSw
       (try dsimp only at hSw)
       go_simp
       try with_reducible rfl
      refine tkH (i := 4) (oi := o148x5) (v := ?vq3_4) rfl ?hq3_4 zq ?rq3_4
      case hq3_4 =>
       intro wS hSw
       subst hSw
       (try dsimp only at hSw)
       go_simp
       try with_reducible rfl
      refine tkH (i := 5) (oi := o148x6) (v := ?vq3_5) rfl ?hq3_5 zq ?rq3_5
      case hq3_5 =>
       intro wS hSw
       subst hSw
       (try dsimp only at hSw)
       go_simp
       try with_reducible rfl
      refine tkH (i := 6) (oi := o148x7) (v := ?vq3_6) rfl ?hq3_6 zq ?rq3_6
      case hq3_6 =>
       intro wS hSw
       subst hSw
       (try dsimp only at hSw)
       go_simp
       try with_reducible rfl
      refine tkH (i := 7) (oi := o148x8) (v := ?vq3_7) rfl ?hq3_7 zq ?rq3_7
      case hq3_7 =>
       intro wS hSw
       subst hSw
       (try dsimp only at hSw)
       go_simp
       try with_reducible rfl
      refine tkH (i := 8) (oi := o148x9) (v := ?vq3_8) rfl ?hq3_8 zq ?rq3_8
      case hq3_8 =>
       intro wS hSw
       subst hSw
       (try dsimp only at hSw)
       go_simp
       try with_reducible rfl
      refine tkH (i := 9) (oi := o148x10) (v := ?vq3_9) rfl ?hq3_9 zq ?rq3_9
      case hq3_9 =>
       intro wS hSw
       subst hSw
       (try dsimp only at hSw)
       go_simp
       try with_reducible rfl
      refine tkH (i := 10) (oi := o148x11) (v := ?vq3_10) rfl ?hq3_10 zq ?rq3_10
      case hq3_10 =>
       intro wS hSw
       subst hSw
       (try dsimp only at hSw)
       go_simp
       try with_reducible rfl
      refine tkH (i := 11) (oi := o148x12) (v := ?vq3_11) rfl ?hq3_11 zq ?rq3_11
      case hq3_11 =>
       intro wS hSw
       subst hSw
       (try dsimp only at hSw)
       go_simp
       try with_reducible rfl
      refine tkH (i := 12) (oi := o148x13) (v := ?vq3_12) rfl ?hq3_12 zq ?rq3_12
      case hq3_12 =>
       intro wS hSw
       subst hSw
       (try dsimp only at hSw)
       go_simp
       try with_reducible rfl
      refine tkH (i := 13) (oi := o148x14) (v := ?vq3_13) rfl ?hq3_13 zq ?rq3_13
      case hq3_13 =>
       intro wS hSw
       subst hSw
       (try dsimp only at hSw)
       go_simp
       try with_reducible rfl
      refine tkH (i := 14) (oi := o148x15) (v := ?vq3_14) rfl ?hq3_14 zq ?rq3_14
      case hq3_14 =>
       intro wS hSw
       subst hSw
       (try dsimp only at hSw)
       go_simp
       try with_reducible rfl
      refine tkH (i := 15) (oi := o148x16) (v := ?vq3_15) rfl ?hq3_15 zq ?rq3_15
      case hq3_15 =>
       intro wS hSw
       subst hSw
       (try dsimp only at hSw)
       go_simp
       try with_reducible rfl
      refine tkH (i := 16) (oi := o148x17) (v := ?vq3_16) rfl ?hq3_16 zq ?rq3_16
      case hq3_16 =>
       intro wS hSw
       subst hSw
       (try dsimp only at hSw)
       go_simp
       try with_reducible rfl
      refine tkH (i := 17) (oi := o148x18) (v := ?vq3_17) rfl ?hq3_17 zq ?rq3_17
      case hq3_17 =>
       intro wS hSw
       subst hSw
       (try dsimp only at hSw)
       go_simp
       try with_reducible rfl
      refine tkH (i := 18) (oi := o148x19) (v := ?vq3_18) rfl ?hq3_18 zq ?rq3_18
      case hq3_18 =>
       intro wS hSw
       subst hSw
       (try dsimp only at hSw)
       go_simp
       try with_reducible rfl
      refine tkH (i := 19) (oi := o148x20) (v := ?vq3_19) rfl ?hq3_19 zq ?rq3_19
      case hq3_19 =>
       intro wS hSw
       subst hSw
       (try dsimp only at hSw)
       go_simp
       try with_reducible rfl
      refine tkH (i := 20) (oi := o148x21) (v := ?vq3_20) rfl ?hq3_20 zq ?rq3_20
      case hq3_20 =>
       intro wS hSw
       subst hSw
       (try dsimp only at hSw)
       go_simp
       try with_reducible rfl
      refine tkH (i := 21) (oi := o148x22) (v := ?vq3_21) rfl ?hq3_21 zq ?rq3_21
      case hq3_21 =>
       intro wS hSw
       subst hSw
       (try dsimp only at hSw)
       go_simp
       try with_reducible rfl
      refine tkH (i := 22) (oi := o148x23) (v := ?vq3_22) rfl ?hq3_22 zq ?rq3_22
      case hq3_22 =>
       intro wS hSw
       subst hSw
       (try dsimp only at hSw)
       go_simp
       try with_reducible rfl
      refine rdH (i := 23) (oi := o148x24) rfl (fun K hK => ?_)
      go_simp
      go_at_call 131
      refine (uh LA).mono ?_
      rintro e u1 ⟨rfl, h1⟩
      subst u1
      try go_wp2_with fail
      refine hK.out _ _ rfl (fun zq => ?_)
      clear hK K
      try simp only [Act.put, pz, py, px]
      refine tkH (i := 24) (oi := o148x25) (v := ?vq3_24) rfl ?hq3_24 zq ?rq3_24
      case hq3_24 =>
       intro wS hSw
       subst hSw
       (try dsimp only at hSw)
       go_simp
       try with_reducible rfl
      refine tkH (i := 25) (oi := o148x26) (v := ?vq3_25) rfl ?hq3_25 zq ?rq3_25
      case hq3_25 =>
       intro wS hSw
       subst hSw
       (try dsimp only at hSw)
       go_simp
       try with_reducible rfl
      refine tkH (i := 26) (oi := o148x27) (v := ?vq3_26) rfl ?hq3_26 zq ?rq3_26
      case hq3_26 =>
       intro wS hSw
       subst hSw
       (try dsimp only at hSw)
       go_simp
       try with_reducible rfl
      refine tkH (i := 27) (oi := o148x28) (v := ?vq3_27) rfl ?hq3_27 zq ?rq3_27
      case hq3_27 =>
       intro wS hSw
       subst hSw
       (try dsimp only at hSw)
       go_simp
       try with_reducible rfl
      refine tkH (i := 28) (oi := o148x29) (v := ?vq3_28) rfl ?hq3_28 zq ?rq3_28
      case hq3_28 =>
       intro wS hSw
       subst hSw
       (try dsimp only at hSw)
       go_simp
       try with_reducible rfl
      refine tkH (i := 29) (oi := o148x30) (v := ?vq3_29) rfl ?hq3_29 zq ?rq3_29
      case hq3_29 =>
       intro wS hSw
       subst hSw
       (try dsimp only at hSw)
       go_simp
       try with_reducible rfl
      refine tkH (i := 30) (oi := o148x31) (v := ?vq3_30) rfl ?hq3_30 zq ?rq3_30
      case hq3_30 =>
       intro wS hSw
       subst hSw
       (try dsimp only at hSw)
       go_simp
       try with_reducible rfl
      refine tkH (i := 31) (oi := o148x32) (v := ?vq3_31) rfl ?hq3_31 zq ?rq3_31
      case hq3_31 =>
       intro wS hSw
       subst hSw
       (try dsimp only at hSw)
       go_simp
       try with_reducible rfl
      refine tkH (i := 32) (oi := o148x33) (v := ?vq3_32) rfl ?hq3_32 zq ?rq3_32
      case hq3_32 =>
       intro wS hSw
       subst hSw
       (try dsimp only at hSw)
       go_simp
       try with_reducible rfl
      refine tkH (i := 33) (oi := o148x34) (v := ?vq3_33) rfl ?hq3_33 zq ?rq3_33
      case hq3_33 =>
       intro wS hSw
       subst hSw
       (try dsimp only at hSw)
       go_simp
       try with_reducible rfl
      refine tkH (i := 34) (oi := o148x35) (v := ?vq3_34) rfl ?hq3_34 zq ?rq3_34
      case hq3_34 =>
       intro wS hSw
       subst hSw
       (try dsimp only at hSw)
       go_simp
       try with_reducible rfl
      refine tkH (i := 35) (oi := o148x36) (v := ?vq3_35) rfl ?hq3_35 zq ?rq3_35
      case hq3_35 =>
       intro wS hSw
       subst hSw
       (try dsimp only at hSw)
       go_simp
       try with_reducible rfl
      refine tkH (i := 36) (oi := o148x37) (v := ?vq3_36) rfl ?hq3_36 zq ?rq3_36
      case hq3_36 =>
       intro wS hSw
       subst hSw
       (try dsimp only at hSw)
       go_simp
       try with_reducible rfl
      refine tkH (i := 37) (oi := o148x38) (v := ?vq3_37) rfl ?hq3_37 zq ?rq3_37
      case hq3_37 =>
       intro wS hSw
       subst hSw
       (try dsimp only at hSw)
       go_simp
       try with_reducible rfl
      refine tkH (i := 38) (oi := o148x39) (v := ?vq3_38) rfl ?hq3_38 zq ?rq3_38
      case hq3_38 =>
       intro wS hSw
       subst hSw
       (try dsimp only at hSw)
       go_simp
       try with_reducible rfl
      refine wpAnyH_done (by kernel_rfl) ?_ _
      refine NoPanic.normal ?_
      clear zq
      go_wp2_with fail
      go_roundw
      case rel => exact ⟨k + 1, by omega, by go_num, uh HF, uh HB⟩
      case measure => simp [intOf]; omega
     have HE := yh (uh HV _ ((uh HF).trans (if_pos (by rw [e3, e4, e5]; simp))) (by decide))
     go_wp2_with fail
     refine wp_region_noPanic ?_
     refine wp_region_held_drew (S := fun w' => w' = w5.drew) (by kernel_rfl) rfl (fun zq => ?_)
     generalize w5.drew = wD at zq z0 z1 z2 y2 HB LA ⊢
     refine tkH (i := 0) (oi := o148x1) (v := ?vq4_0) rfl ?hq4_0 zq ?rq4_0
     case hq4_0 =>
      intro wS hSw
      subst hSw
      (try dsimp only at hSw)
      go_simp
      try with_reducible rfl
     refine tkH (i := 1) (oi := o148x2) (v := ?vq4_1) rfl ?hq4_1 zq ?rq4_1
     case hq4_1 =>
      intro wS hSw
      subst hSw
      (try dsimp only at hSw)
      go_simp
      try with_reducible rfl
     refine tkH (i := 2) (oi := o148x3) (v := ?vq4_2) rfl ?hq4_2 zq ?rq4_2
     case hq4_2 =>
      intro wS hSw
      subst hSw
      (try dsimp only at hSw)
      go_simp
      try with_reducible rfl
     refine tkH (i := 3) (oi := o148x4) (v := ?vq4_3) rfl ?hq4_3 zq ?rq4_3
     case hq4_3 =>
      intro wS hSw
      subst hSw
      (try dsimp only at hSw)
      go_simp
      try with_reducible rfl
     refine tkH (i := 4) (oi := o148x5) (v := ?vq4_4) rfl ?hq4_4 zq ?rq4_4
     case hq4_4 =>
      intro wS hSw
      subst hSw
      (try dsimp only at hSw)
      go_simp
      try with_reducible rfl
     refine tkH (i := 5) (oi := o148x6) (v := ?vq4_5) rfl ?hq4_5 zq ?rq4_5
     case hq4_5 =>
      intro wS hSw
      subst hSw
      (try dsimp only at hSw)
      go_simp
      try with_reducible rfl
     refine tkH (i := 6) (oi := o148x7) (v := ?vq4_6) rfl ?hq4_6 zq ?rq4_6
     case hq4_6 =>
      intro wS hSw
      subst hSw
      (try dsimp only at hSw)
      go_simp
      try with_reducible rfl
     refine tkH (i := 7) (oi := o148x8) (v := ?vq4_7) rfl ?hq4_7 zq ?rq4_7
     case hq4_7 =>
      intro wS hSw
      subst hSw
      (try dsimp only at hSw)
      go_simp
      try with_reducible rfl
     refine tkH (i := 8) (oi := o148x9) (v := ?vq4_8) rfl ?hq4_8 zq ?rq4_8
     case hq4_8 =>
      intro wS hSw
      subst hSw
      (try dsimp only at hSw)
      go_simp
      try with_reducible rfl
     refine tkH (i := 9) (oi := o148x10) (v := ?vq4_9) rfl ?hq4_9 zq ?rq4_9
     case hq4_9 =>
      intro wS hSw
      subst hSw
      (try dsimp only at hSw)
      go_simp
      try with_reducible rfl
     refine tkH (i := 10) (oi := o148x11) (v := ?vq4_10) rfl ?hq4_10 zq ?rq4_10
     case hq4_10 =>
      intro wS hSw
      subst hSw
      (try dsimp only at hSw)
      go_simp
      try with_reducible rfl
     refine tkH (i := 11) (oi := o148x12) (v := ?vq4_11) rfl ?hq4_11 zq ?rq4_11
     case hq4_11 =>
      intro wS hSw
      subst hSw
      (try dsimp only at hSw)
      go_simp
      try with_reducible rfl
     refine tkH (i := 12) (oi := o148x13) (v := ?vq4_12) rfl ?hq4_12 zq ?rq4_12
     case hq4_12 =>
      intro wS hSw
      subst hSw
      (try dsimp only at hSw)
      go_simp
      try with_reducible rfl
     refine tkH (i := 13) (oi := o148x14) (v := ?vq4_13) rfl ?hq4_13 zq ?rq4_13
     case hq4_13 =>
      intro wS hSw
      subst hSw
      (try dsimp only at hSw)
      go_simp
      try with_reducible rfl
     refine tkH (i := 14) (oi := o148x15) (v := ?vq4_14) rfl ?hq4_14 zq ?rq4_14
     case hq4_14 =>
      intro wS hSw
      subst hSw
      (try dsimp only at hSw)
      go_simp
      try with_reducible rfl
     refine tkH (i := 15) (oi := o148x16) (v := ?vq4_15) rfl ?hq4_15 zq ?rq4_15
     case hq4_15 =>
      intro wS hSw
      subst hSw
      (try dsimp only at hSw)
      go_simp
      try with_reducible rfl
     refine tkH (i := 16) (oi := o148x17) (v := ?vq4_16) rfl ?hq4_16 zq ?rq4_16
     case hq4_16 =>
      intro wS hSw
      subst hSw
      (try dsimp only at hSw)
      go_simp
      try with_reducible rfl
     refine tkH (i := 17) (oi := o148x18) (v := ?vq4_17) rfl ?hq4_17 zq ?rq4_17
     case hq4_17 =>
      intro wS hSw
      subst hSw
      (try dsimp only at hSw)
      go_simp
      try with_reducible rfl
     refine tkH (i := 18) (oi := o148x19) (v := ?vq4_18) rfl ?hq4_18 zq ?rq4_18
     case hq4_18 =>
      intro wS hSw
      subst hSw
      (try dsimp only at hSw)
      go_simp
      try with_reducible rfl
     refine tkH (i := 19) (oi := o148x20) (v := ?vq4_19) rfl ?hq4_19 zq ?rq4_19
     case hq4_19 =>
      intro wS hSw
      subst hSw
      (try dsimp only at hSw)
      go_simp
      try with_reducible rfl
     refine tkH (i := 20) (oi := o148x21) (v := ?vq4_20) rfl ?hq4_20 zq ?rq4_20
     case hq4_20 =>
      intro wS hSw
      subst hSw
      (try dsimp only at hSw)
      go_simp
      try with_reducible rfl
     refine tkH (i := 21) (oi := o148x22) (v := ?vq4_21) rfl ?hq4_21 zq ?rq4_21
     case hq4_21 =>
      intro wS hSw
      subst hSw
      (try dsimp only at hSw)
      go_simp
      try with_reducible rfl
     refine tkH (i := 22) (oi := o148x23) (v := ?vq4_22) rfl ?hq4_22 zq ?rq4_22
     case hq4_22 =>
      intro wS hSw
      subst hSw
      (try dsimp only at hSw)
      go_simp
      try with_reducible rfl
     refine rdH (i := 23) (oi := o148x24) rfl (fun K hK => ?_)
     go_simp
     go_at_call 131
     refine (uh LA).mono ?_
     rintro e u1 ⟨rfl, h1⟩
     subst u1
     try go_wp2_with fail
     refine hK.out _ _ rfl (fun zq => ?_)
     clear hK K
     try simp only [Act.put, pz, py, px]
     refine tkH (i := 24) (oi := o148x25) (v := ?vq4_24) rfl ?hq4_24 zq ?rq4_24
     case hq4_24 =>
      intro wS hSw
      subst hSw
      (try dsimp only at hSw)
      go_simp
      try with_reducible rfl
     refine tkH (i := 25) (oi := o148x26) (v := ?vq4_25) rfl ?hq4_25 zq ?rq4_25
     case hq4_25 =>
      intro wS hSw
      subst hSw
      (try dsimp only at hSw)
      go_simp
      try with_reducible rfl
     refine tkH (i := 26) (oi := o148x27) (v := ?vq4_26) rfl ?hq4_26 zq ?rq4_26
     case hq4_26 =>
      intro wS hSw
      subst hSw
      (try dsimp only at hSw)
      go_simp
      try with_reducible rfl
     refine tkH (i := 27) (oi := o148x28) (v := ?vq4_27) rfl ?hq4_27 zq ?rq4_27
     case hq4_27 =>
      intro wS hSw
      subst hSw
      (try dsimp only at hSw)
      go_simp
      try with_reducible rfl
     refine tkH (i := 28) (oi := o148x29) (v := ?vq4_28) rfl ?hq4_28 zq ?rq4_28
     case hq4_28 =>
      intro wS hSw
      subst hSw
      (try dsimp only at hSw)
      go_simp
      try with_reducible rfl
     refine tkH (i := 29) (oi := o148x30) (v := ?vq4_29) rfl ?hq4_29 zq ?rq4_29
     case hq4_29 =>
      intro wS hSw
      subst hSw
      (try dsimp only at hSw)
      go_simp
      try with_reducible rfl
     refine tkH (i := 30) (oi := o148x31) (v := ?vq4_30) rfl ?hq4_30 zq ?rq4_30
     case hq4_30 =>
      intro wS hSw
      subst hSw
      (try dsimp only at hSw)
      go_simp
      try with_reducible rfl
     refine tkH (i := 31) (oi := o148x32) (v := ?vq4_31) rfl ?hq4_31 zq ?rq4_31
     case hq4_31 =>
      intro wS hSw
      subst hSw
      (try dsimp only at hSw)
      go_simp
      try with_reducible rfl
     refine tkH (i := 32) (oi := o148x33) (v := ?vq4_32) rfl ?hq4_32 zq ?rq4_32
     case hq4_32 =>
      intro wS hSw
      subst hSw
      (try dsimp only at hSw)
      go_simp
      try with_reducible rfl
     refine tkH (i := 33) (oi := o148x34) (v := ?vq4_33) rfl ?hq4_33 zq ?rq4_33
     case hq4_33 =>
      intro wS hSw
      subst hSw
      (try dsimp only at hSw)
      go_simp
      try with_reducible rfl
     refine tkH (i := 34) (oi := o148x35) (v := ?vq4_34) rfl ?hq4_34 zq ?rq4_34
     case hq4_34 =>
      intro wS hSw
      subst hSw
      (try dsimp only at hSw)
      go_simp
      try with_reducible rfl
     refine tkH (i := 35) (oi := o148x36) (v := ?vq4_35) rfl ?hq4_35 zq ?rq4_35
     case hq4_35 =>
      intro wS hSw
      subst hSw
      (try dsimp only at hSw)
      go_simp
      try with_reducible rfl
     refine tkH (i := 36) (oi := o148x37) (v := ?vq4_36) rfl ?hq4_36 zq ?rq4_36
     case hq4_36 =>
      intro wS hSw
      subst hSw
      (try dsimp only at hSw)
      go_simp
      try with_reducible rfl
     refine tkH (i := 37) (oi := o148x38) (v := ?vq4_37) rfl ?hq4_37 zq ?rq4_37
     case hq4_37 =>
      intro wS hSw
      subst hSw
      (try dsimp only at hSw)
      go_simp
      try with_reducible rfl
     refine tkH (i := 38) (oi := o148x39) (v := ?vq4_38) rfl ?hq4_38 zq ?rq4_38
     case hq4_38 =>
      intro wS hSw
      subst hSw
      (try dsimp only at hSw)
      go_simp
      try with_reducible rfl
     refine wpAnyH_done (by kernel_rfl) ?_ _
     refine NoPanic.normal ?_
     clear zq
     go_wp2_with fail
     go_ret
     exact ⟨by rw [uh HE]; rfl, uh HB⟩
    have HE := yh (uh HV _ ((uh HF).trans (if_pos (by rw [e3]; simp))) (by decide))
    go_wp2_with fail
    refine wp_region_noPanic ?_
    refine wp_region_held_drew (S := fun w' => w' = w5.drew) (by kernel_rfl) rfl (fun zq => ?_)
    generalize w5.drew = wD at zq z0 z1 z2 y2 HB LA ⊢
    refine tkH (i := 0) (oi := o148x1) (v := ?vq5_0) rfl ?hq5_0 zq ?rq5_0
    case hq5_0 =>
     intro wS hSw
     subst hSw
     (try dsimp only at hSw)
     go_simp
     try with_reducible rfl
    refine tkH (i := 1) (oi := o148x2) (v := ?vq5_1) rfl ?hq5_1 zq ?rq5_1
    case hq5_1 =>
     intro wS hSw
     subst hSw
     (try dsimp only at hSw)
     go_simp
     try with_reducible rfl
    refine tkH (i := 2) (oi := o148x3) (v := ?vq5_2) rfl ?hq5_2 zq ?rq5_2
    case hq5_2 =>
     intro wS hSw
     subst hSw
     (try dsimp only at hSw)
     go_simp
     try with_reducible rfl
    refine tkH (i := 3) (oi := o148x4) (v := ?vq5_3) rfl ?hq5_3 zq ?rq5_3
    case hq5_3 =>
     intro wS hSw
     subst hSw
     (try dsimp only at hSw)
     go_simp
     try with_reducible rfl
    refine tkH (i := 4) (oi := o148x5) (v := ?vq5_4) rfl ?hq5_4 zq ?rq5_4
    case hq5_4 =>
     intro wS hSw
     subst hSw
     (try dsimp only at hSw)
     go_simp
     try with_reducible rfl
    refine tkH (i := 5) (oi := o148x6) (v := ?vq5_5) rfl ?hq5_5 zq ?rq5_5
    case hq5_5 =>
     intro wS hSw
     subst hSw
     (try dsimp only at hSw)
     go_simp
     try with_reducible rfl
    refine tkH (i := 6) (oi := o148x7) (v := ?vq5_6) rfl ?hq5_6 zq ?rq5_6
    case hq5_6 =>
     intro wS hSw
     subst hSw
     (try dsimp only at hSw)
     go_simp
     try with_reducible rfl
    refine tkH (i := 7) (oi := o148x8) (v := ?vq5_7) rfl ?hq5_7 zq ?rq5_7
    case hq5_7 =>
     intro wS hSw
     subst hSw
     (try dsimp only at hSw)
     go_simp
     try with_reducible rfl
    refine tkH (i := 8) (oi := o148x9) (v := ?vq5_8) rfl ?hq5_8 zq ?rq5_8
    case hq5_8 =>
     intro wS hSw
     subst hSw
     (try dsimp only at hSw)
     go_simp
     try with_reducible rfl
    refine tkH (i := 9) (oi := o148x10) (v := ?vq5_9) rfl ?hq5_9 zq ?rq5_9
    case hq5_9 =>
     intro wS hSw
     subst hSw
     (try dsimp only at hSw)
     go_simp
     try with_reducible rfl
    refine tkH (i := 10) (oi := o148x11) (v := ?vq5_10) rfl ?hq5_10 zq ?rq5_10
    case hq5_10 =>
     intro wS hSw
     subst hSw
     (try dsimp only at hSw)
     go_simp
     try with_reducible rfl
    refine skH (i := 11) (oi := o148x12) rfl zq ?_
    refine skH (i := 12) (oi := o148x13) rfl zq ?_
    refine skH (i := 13) (oi := o148x14) rfl zq ?_
    refine skH (i := 14) (oi := o148x15) rfl zq ?_
    refine skH (i := 15) (oi := o148x16) rfl zq ?_
    refine skH (i := 16) (oi := o148x17) rfl zq ?_
    refine skH (i := 17) (oi := o148x18) rfl zq ?_
    refine skH (i := 18) (oi := o148x19) rfl zq ?_
    refine skH (i := 19) (oi := o148x20) rfl zq ?_
    refine skH (i := 20) (oi := o148x21) rfl zq ?_
    refine skH (i := 21) (oi := o148x22) rfl zq ?_
    refine skH (i := 22) (oi := o148x23) rfl zq ?_
    refine skH (i := 23) (oi := o148x24) rfl zq ?_
    refine skH (i := 24) (oi := o148x25) rfl zq ?_
    refine skH (i := 25) (oi := o148x26) rfl zq ?_
    refine skH (i := 26) (oi := o148x27) rfl zq ?_
    refine skH (i := 27) (oi := o148x28) rfl zq ?_
    refine skH (i := 28) (oi := o148x29) rfl zq ?_
    refine skH (i := 29) (oi := o148x30) rfl zq ?_
    refine skH (i := 30) (oi := o148x31) rfl zq ?_
    refine skH (i := 31) (oi := o148x32) rfl zq ?_
    refine skH (i := 32) (oi := o148x33) rfl zq ?_
    refine skH (i := 33) (oi := o148x34) rfl zq ?_
    refine skH (i := 34) (oi := o148x35) rfl zq ?_
    refine skH (i := 35) (oi := o148x36) rfl zq ?_
    refine skH (i := 36) (oi := o148x37) rfl zq ?_
    refine skH (i := 37) (oi := o148x38) rfl zq ?_
    refine tkH (i := 38) (oi := o148x39) (v := ?vq5_38) rfl ?hq5_38 zq ?rq5_38
    case hq5_38 =>
     intro wS hSw
     subst hSw
     (try dsimp only at hSw)
     go_simp
     try with_reducible rfl
    refine wpAnyH_done (by kernel_rfl) ?_ _
    refine NoPanic.normal ?_
    clear zq
    go_wp2_with fail
    go_ret
    exact ⟨by rw [uh HE]; rfl, uh HB⟩
   have HE := yh (uh HV _ ((uh HF).trans (if_pos e2)) (by decide))
   go_wp2_with fail
   go_ret
   exact ⟨by rw [uh HE]; rfl, uh HB0⟩
  obtain rfl : k = x.nodes.length := by omega
  rw [List.drop_length] at hF
  have hdl : decide ((x.nodes.length : Int) < (x.nodes.length : Int)) = false := by simp
  have HZ := yh (uh HV0 hF)
  have HB1 := yh hB
  clear hF hB HV HV0
  go_wp2_with fail
  clear hdl v2 v3
  go_loopw [6] (fun i wq => ∃ k : Nat, k ≤ x.chain.ids.length ∧ i = .int .i64 k ∧ r = (if (x.chain.ids.drop k).all (nodeIn x) = true then 0 else 4) ∧ Below wr.heap.size wr wq) (fun i _ => x.chain.ids.length - (intOf i).toNat)
  case atStart => exact ⟨0, Nat.zero_le _, rfl, uh HZ, Below.refl _ _⟩
  case round =>
   obtain ⟨k, hk, rfl, hF, hB⟩ := hrel
   clear HZ
   have hX2 := (uh HX1).keep hB
   have y3 := Box.at hX2 3 _ rfl
   simp only [ga, gb, gc] at y3
   have xl2 := hX2.lt
   have HB := yh ((uh HB1).trans (hB.mono (uh HB1).size))
   by_cases hlt : k < x.chain.ids.length
   ·
    obtain ⟨b, off, rfl, hbl⟩ := Lay.sl_addr (uh HI) (by omega)
    have c1 := ((uh HB).cell (p := ⟨b, off + k, none⟩) hbl).trans (int_cell (uh HI) hlt)
    have hdl : decide ((k : Int) < (x.chain.ids.length : Int)) = true := by simp; omega
    rw [List.drop_eq_getElem_cons hlt, List.all_cons] at hF
    have HL := yh (l12NodeC _ _ _ _ _ _ _ _ x x.chain.ids[k] xb wr hX2)
    have HF := yh hF
    have HBQ := yh hB
    clear hF hX2 hB
    generalize x.chain.ids[k] = z at *
    go_wp2_with fail
    refine (uh HL).mono ?_
    rintro e w5 ⟨rfl, h5⟩
    subst w5
    clear HL
    generalize nodeIn x z = q at *
    cases q
    ·
     replace HF := yh ((uh HF).trans (if_neg (by simp)))
     go_wp2_with fail
     go_ret
     exact ⟨by rw [uh HF]; rfl, uh HB⟩
    rw [Bool.true_and] at HF
    go_wp2_with fail
    go_roundw
    case rel => exact ⟨k + 1, by omega, by go_num, uh HF, uh HBQ⟩
    case measure => simp [intOf]; omega
   obtain rfl : k = x.chain.ids.length := by omega
   rw [List.drop_length, List.all_nil, if_pos rfl] at hF
   have hdl : decide ((x.chain.ids.length : Int) < (x.chain.ids.length : Int)) = false := by simp
   have HF := yh hF
   clear hF hB hX2
   go_wp2_with fail
   go_ret
   exact ⟨by rw [uh HF]; rfl, uh HB⟩
end Go.Proofs.YtoanimpijfijgaaGreat
