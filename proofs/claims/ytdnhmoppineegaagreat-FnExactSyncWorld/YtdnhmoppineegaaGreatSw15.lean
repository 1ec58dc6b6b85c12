/-
  Texts of this proof in one: SpecSyncW, ImplSetN, ImplNodeOf, ImplNodeM, ImplSyncN, ImplSyncS, ImplSyncW, NodeFew, WorldFew, LawSyncW, OpenChain, OpenWrite.
  Their conditions stand in their theorems.
-/
import Derived.Test.YtdnhmoppineegaaGreatSw14
import Derived.Deep.RegionHeld3
import Derived.Test.YtdnhmoppineegaaGreatSw06
import Derived.Test.YtdnhmoppineegaaGreatSw05
import Derived.Deep.CutRange
import Derived.Test.YtdnhmoppineegaaGreatSw13
import Derived.Test.YtdnhmoppineegaaGreatSw03
import Derived.Test.YtdnhmoppineegaaGreatSw04
import Derived.Test.YtdnhmoppineegaaGreatSw12
import Derived.Test.YtdnhmoppineegaaGreatSw01

namespace Go.Proofs.YtdnhmoppineegaaGreat
open Go.RowKit

set_option maxRecDepth 100000 in
set_option maxHeartbeats 2000000 in
theorem specSyncWorld (cs : List Value) (x : DWorld) (id : Int) (w : World) (h : Lay.tWorld.Reads w cs x) (hf : Fits x) :
    Calls Tryz.prog 15 #[.agg cs.toArray, .int .i64 id] w fun e w' => ∃ cs', e = .returned (.agg cs'.toArray) ∧ Lay.tWorldResult.Reads w' cs' (syncWR x id) ∧ Below w.heap.size w w' := by
  have HP : Hid (syncWR x id = if askedW x id ≠ 0 then badWorld (askedW x id) else putWR x (syncR (nodeOf x id))) := rfl
  obtain ⟨a3, d3, a4, d4, a5, d5, a6, d6, rfl, -, -, -, -⟩ := open_World h
  have HBN : Hid (∀ b off, a4 = some ⟨b, off, none⟩ → 0 < x.nodes.length → b < w.heap.size) := fun b off e hp => by
    obtain ⟨_, _, _, _, _, _, _, _, hq, -, RN, -, -⟩ := open_World h
    simp only [List.cons.injEq, Value.slice.injEq, and_true, true_and] at hq
    obtain ⟨-, ⟨rfl, rfl⟩, -, -, -⟩ := hq
    obtain ⟨b', off', e', hb⟩ := Lay.sl_addr RN hp
    rw [e] at e'
    simp only [Option.some.injEq, Addr.mk.injEq, and_true] at e'
    obtain ⟨rfl, -⟩ := e'
    exact hb
  have nb : Below w.heap.size w ((w.alloc (.cells #[.int .i64 x.now, .int .i64 x.events, .int .i64 x.chain.epoch, .slice a3 x.chain.ids.length d3, .slice a4 x.nodes.length d4, .slice a5 x.msgs.length d5, .slice a6 x.history.length d6] 36)).alloc (.cells #[.int .i64 0, .bool false, .int .i64 0, .int .i64 0, .int .i64 0, .slice none 0 0, .slice none 0 0, .slice none 0 0, .slice none 0 0] 38)) := ((Below.refl _ _).alloc (Nat.le_refl _) _).alloc (by simp) _
  have HX : Hid (Box 0 #[.int .i64 x.now, .int .i64 x.events, .int .i64 x.chain.epoch, .slice a3 x.chain.ids.length d3, .slice a4 x.nodes.length d4, .slice a5 x.msgs.length d5, .slice a6 x.history.length d6] 36 ((w.alloc (.cells #[.int .i64 x.now, .int .i64 x.events, .int .i64 x.chain.epoch, .slice a3 x.chain.ids.length d3, .slice a4 x.nodes.length d4, .slice a5 x.msgs.length d5, .slice a6 x.history.length d6] 36)).alloc (.cells #[.int .i64 0, .bool false, .int .i64 0, .int .i64 0, .int .i64 0, .slice none 0 0, .slice none 0 0, .slice none 0 0, .slice none 0 0] 38)) w.heap.size) := ((newBox (Nat.zero_le _)).grow _)
  have HY : Hid (Box 0 #[.int .i64 0, .bool false, .int .i64 0, .int .i64 0, .int .i64 0, .slice none 0 0, .slice none 0 0, .slice none 0 0, .slice none 0 0] 38 ((w.alloc (.cells #[.int .i64 x.now, .int .i64 x.events, .int .i64 x.chain.epoch, .slice a3 x.chain.ids.length d3, .slice a4 x.nodes.length d4, .slice a5 x.msgs.length d5, .slice a6 x.history.length d6] 36)).alloc (.cells #[.int .i64 0, .bool false, .int .i64 0, .int .i64 0, .int .i64 0, .slice none 0 0, .slice none 0 0, .slice none 0 0, .slice none 0 0] 38)) (w.heap.size + 1)) := newBoxAt (Nat.zero_le _) (by simp)
  have hz0 : ((w.alloc (.cells #[.int .i64 x.now, .int .i64 x.events, .int .i64 x.chain.epoch, .slice a3 x.chain.ids.length d3, .slice a4 x.nodes.length d4, .slice a5 x.msgs.length d5, .slice a6 x.history.length d6] 36)).alloc (.cells #[.int .i64 0, .bool false, .int .i64 0, .int .i64 0, .int .i64 0, .slice none 0 0, .slice none 0 0, .slice none 0 0, .slice none 0 0] 38)).heap.size = w.heap.size + 2 := by simp
  have HR := hide (h.later nb)
  have HB := hide nb
  clear nb
  clear h
  generalize syncWR x id = R at *
  go_enter Tryz.func15, Tryz.ntmps15
  go_upto_region 1 with fail
  generalize ((w.alloc (.cells #[.int .i64 x.now, .int .i64 x.events, .int .i64 x.chain.epoch, .slice a3 x.chain.ids.length d3, .slice a4 x.nodes.length d4, .slice a5 x.msgs.length d5, .slice a6 x.history.length d6] 36)).alloc (.cells #[.int .i64 0, .bool false, .int .i64 0, .int .i64 0, .int .i64 0, .slice none 0 0, .slice none 0 0, .slice none 0 0, .slice none 0 0] 38)) = W0 at *
  go_wp2_with fail
  refine (l12AskedC a3 d3 a4 d4 a5 d5 a6 d6 x id w.heap.size W0 (unhide HX) (unhide HR)).mono ?_
  rintro e wa ⟨rfl, hb⟩
  replace HX := hide ((unhide HX).keep hb)
  replace HR := hide ((unhide HR).later hb)
  replace HY := hide ((unhide HY).keep hb)
  replace HB := hide ((unhide HB).trans (hb.mono (unhide HB).size))
  have hza := hb.size
  clear hb
  by_cases d1 : askedW x id ≠ 0
  · have hd : (askedW x id != 0) = true := by simpa using d1
    replace HP := hide ((unhide HP).trans (if_pos d1))
    have HC := hide (asked_bd x id)
    clear d1 hf 
    generalize askedW x id = c at *
    go_wp2_with fail
    refine (l12BadCZ (c) _).mono ?_
    rintro e wB ⟨rfl, hbB⟩
    have hyB := (unhide HY).keep hbB
    have z0 := Box.at hyB 0 _ rfl
    have z1 := Box.at hyB 1 _ rfl
    have z2 := Box.at hyB 2 _ rfl
    have z3 := Box.at hyB 3 _ rfl
    have z4 := Box.at hyB 4 _ rfl
    have z5 := Box.at hyB 5 _ rfl
    have z6 := Box.at hyB 6 _ rfl
    have z7 := Box.at hyB 7 _ rfl
    have z8 := Box.at hyB 8 _ rfl
    simp only [List.getElem_toArray, List.getElem_cons_zero, List.getElem_cons_succ] at z0 z1 z2 z3 z4 z5 z6 z7 z8
    have zf := Box.soft hyB
    have zl := hyB.lt
    have HB9 := hide (below_setAll ((unhide HB).trans (hbB.mono (unhide HB).size)) (w.heap.size + 1) 0 [.int .i64 c, .bool false, .int .i64 0, .int .i64 0, .int .i64 0, .slice none 0 0, .slice none 0 0, .slice none 0 0, .slice none 0 0] (by omega))
    clear hyB hbB HY HB
    go_wp2_with fail
    refine bodyPost_ret (v := .agg #[.int .i64 c, .bool false, .int .i64 0, .int .i64 0, .int .i64 0, .slice none 0 0, .slice none 0 0, .slice none 0 0, .slice none 0 0]) (by simp [results, Tryz.results15, go_sem, z0, z1, z2, z3, z4, z5, z6, z7, z8]) rfl ?_
    rw [unhide HP]
    exact ⟨[.int .i64 c, .bool false, .int .i64 0, .int .i64 0, .int .i64 0, .slice none 0 0, .slice none 0 0, .slice none 0 0, .slice none 0 0], rfl, (own_badW (unhide HC) (lo := 0) (hi := 0) (Nat.le_refl 0)).lies.reads, unhide HB9⟩
  · replace HP := hide ((unhide HP).trans (if_neg d1))
    have hd0 : askedW x id = 0 := by simpa using d1
    obtain ⟨hwf, hni⟩ := asked_zero hd0
    have hok := worldFault_zero hwf
    obtain ⟨k, hk, rfl⟩ := nodeIn_at hni
    rw [hd0]
    clear d1 hd0 hwf hni
    have hn := hok.nodes k hk
    obtain ⟨_, _, _, _, _, _, _, _, hq, -, RN, -, -⟩ := open_World (unhide HR)
    simp only [List.cons.injEq, Value.slice.injEq, and_true, true_and] at hq
    obtain ⟨-, ⟨rfl, rfl⟩, -, -, -⟩ := hq
    obtain ⟨b, off, rfl, hbl⟩ := Lay.sl_addr RN (by omega)
    have hbw := unhide HBN b off rfl (by omega)
    obtain ⟨row, hcl, hr⟩ := Lay.row_at RN hk
    obtain ⟨an, dn, rfl, -⟩ := open_Node hr
    have x0 : wa.cell? ⟨b, off + k * 7, none⟩ = some (.int .i64 (x.nodes[k]).id) := hcl 0 (by decide)
    have x1 : wa.cell? ⟨b, off + k * 7 + 1, none⟩ = some (.bool (x.nodes[k]).up) := hcl 1 (by decide)
    have x2 : wa.cell? ⟨b, off + k * 7 + 2, none⟩ = some (.int .i64 (x.nodes[k]).epoch) := hcl 2 (by decide)
    have x3 : wa.cell? ⟨b, off + k * 7 + 3, none⟩ = some (.int .i64 (x.nodes[k]).lease) := hcl 3 (by decide)
    have x4 : wa.cell? ⟨b, off + k * 7 + 4, none⟩ = some (.slice an (x.nodes[k]).writes.length dn) := hcl 4 (by decide)
    have x5 : wa.cell? ⟨b, off + k * 7 + 5, none⟩ = some (.int .i64 (x.nodes[k]).sure) := hcl 5 (by decide)
    have x6 : wa.cell? ⟨b, off + k * 7 + 6, none⟩ = some (.int .i64 (x.nodes[k]).clean) := hcl 6 (by decide)
    rw [nodeOf_at hk] at HP
    have HID : Hid ((syncR x.nodes[k]).code = 0 → (syncR x.nodes[k]).node.id = (k : Int) + 1) := syncR_id hn.1 hn.2.1
    have HL := hide (specSyncNode _ x.nodes[k] wa.drew (hr.drew 1))
    have HRD : Hid (Lay.tWorld.Reads wa.drew _ x) := (unhide HR).drew 1
    have hzD : w.heap.size + 2 ≤ wa.drew.heap.size := by show w.heap.size + 2 ≤ wa.heap.size; omega
    have HYD := hide (unhide HY).drew
    have HBD := hide (unhide HB).drew
    have HOK := hide hok
    have hx : Box 0 #[.int .i64 x.now, .int .i64 x.events, .int .i64 x.chain.epoch, .slice a3 x.chain.ids.length d3, .slice (some ⟨b, off, none⟩) x.nodes.length d4, .slice a5 x.msgs.length d5, .slice a6 x.history.length d6] 36 wa w.heap.size := unhide HX
    have hxl := hx.lt
    have z4 := Box.at hx 4 _ rfl
    simp only [List.getElem_toArray, List.getElem_cons_zero, List.getElem_cons_succ] at z4
    have hw1 : IntKind.i64.wrap (k : Int) = (k : Int) := by
      have := hok.some
      rw [IntKind.wrap_i64]
      omega
    have hki : (k : Int) < (x.nodes.length : Int) := by omega
    have hki0 : (0 : Int) ≤ (k : Int) := by omega
    clear hn RN hcl hr HX HR HY HB hok
    generalize hnn : x.nodes[k] = n at *
    clear hnn
    go_upto_region 4 with fail
    refine wp_region_noPanic ?_
    refine wp_region_held_drew (S := fun w' => Ext (fun q => w.heap.size < q) wa w') (by kernel_rfl) ((Ext.refl _ _).drew 1) (fun hHeld => ?_)
    generalize wa.drew = wD at hHeld HL HRD HYD HBD hzD ⊢
    refine wpAnyH_take (i := 0) (oi := { dst := some 12, op := Go.Op.load 36 (Go.Operand.tmp 2), type := 36, pos := "l12_world.go:258", after := #[], guard := none }) (v := ?vp0) rfl (by kernel_rfl) (by kernel_rfl) (by kernel_rfl) (fun _ _ _ h => h) (Or.inl ⟨by rfl, ?hp0⟩) hHeld ?rp0
    case hp0 =>
      intro wS hSw
      have bS := hx.ext hSw (fun e => Nat.lt_irrefl _ e)
      have q0 := Box.at bS 0 _ rfl
      have q1 := Box.at bS 1 _ rfl
      have q2 := Box.at bS 2 _ rfl
      have q3 := Box.at bS 3 _ rfl
      have q4 := Box.at bS 4 _ rfl
      have q5 := Box.at bS 5 _ rfl
      have q6 := Box.at bS 6 _ rfl
      simp only [List.getElem_toArray, List.getElem_cons_zero, List.getElem_cons_succ] at q0 q1 q2 q3 q4 q5 q6
      clear bS hSw
      (try dsimp only at hSw)
      go_simp
      try with_reducible rfl
    case rp0 =>
    simp only [Act.put, List.setIfInBounds_toArray, List.set_cons_zero, List.set_cons_succ]
    refine wpAnyH_take (i := 1) (oi := { dst := some 13, op := Go.Op.fieldAddr 36 (Go.Operand.tmp 2) 3, type := 0, pos := "l12_world.go:258", after := #[], guard := none }) (v := ?vp1) rfl (by kernel_rfl) (by kernel_rfl) (by kernel_rfl) (fun _ _ _ h => h) (Or.inl ⟨by rfl, ?hp1⟩) hHeld ?rp1
    case hp1 =>
      intro wS hSw
      (try dsimp only at hSw)
      go_simp
      try with_reducible rfl
    case rp1 =>
    simp only [Act.put, List.setIfInBounds_toArray, List.set_cons_zero, List.set_cons_succ]
    refine wpAnyH_take (i := 2) (oi := { dst := some 14, op := Go.Op.load 32 (Go.Operand.tmp 13), type := 32, pos := "l12_world.go:258", after := #[{ on := 1, ground := Go.Ground.data }], guard := none }) (v := ?vp2) rfl (by kernel_rfl) (by kernel_rfl) (by kernel_rfl) (fun _ _ _ h => h) (Or.inl ⟨by rfl, ?hp2⟩) hHeld ?rp2
    case hp2 =>
      intro wS hSw
      have q4 := (cell_of_heap (hSw.block w.heap.size hxl (fun e => Nat.lt_irrefl _ e)) 4).trans z4
      clear hSw
      (try dsimp only at hSw)
      go_simp
      try with_reducible rfl
    case rp2 =>
    simp only [Act.put, List.setIfInBounds_toArray, List.set_cons_zero, List.set_cons_succ]
    refine wpAnyH_take (i := 3) (oi := { dst := some 15, op := Go.Op.move (Go.Operand.tmp 1), type := 2, pos := "l12_world.go:258", after := #[], guard := none }) (v := ?vp3) rfl (by kernel_rfl) (by kernel_rfl) (by kernel_rfl) (fun _ _ _ h => h) (Or.inl ⟨by rfl, ?hp3⟩) hHeld ?rp3
    case hp3 =>
      intro wS hSw
      (try dsimp only at hSw)
      go_simp
      try with_reducible rfl
    case rp3 =>
    simp only [Act.put, List.setIfInBounds_toArray, List.set_cons_zero, List.set_cons_succ]
    refine wpAnyH_take (i := 4) (oi := { dst := some 16, op := Go.Op.binOp Go.BinOp.sub 2 (Go.Operand.tmp 15) (Go.Operand.const (Go.Value.int Go.IntKind.i64 1)) 2, type := 2, pos := "l12_world.go:258", after := #[{ on := 3, ground := Go.Ground.data }], guard := none }) (v := ?vp4) rfl (by kernel_rfl) (by kernel_rfl) (by kernel_rfl) (fun _ _ _ h => h) (Or.inl ⟨by rfl, ?hp4⟩) hHeld ?rp4
    case hp4 =>
      intro wS hSw
      (try dsimp only at hSw)
      go_simp
      try with_reducible rfl
    case rp4 =>
    simp only [Act.put, List.setIfInBounds_toArray, List.set_cons_zero, List.set_cons_succ]
    refine wpAnyH_take (i := 5) (oi := { dst := some 17, op := Go.Op.indexAddr 32 (Go.Operand.tmp 14) (Go.Operand.tmp 16), type := 0, pos := "l12_world.go:258", after := #[{ on := 2, ground := Go.Ground.data }, { on := 4, ground := Go.Ground.data }], guard := none }) (v := ?vp5) rfl (by kernel_rfl) (by kernel_rfl) (by kernel_rfl) (fun _ _ _ h => h) (Or.inl ⟨by rfl, ?hp5⟩) hHeld ?rp5
    case hp5 =>
      intro wS hSw
      (try dsimp only at hSw)
      go_simp
      try with_reducible rfl
    case rp5 =>
    simp only [Act.put, List.setIfInBounds_toArray, List.set_cons_zero, List.set_cons_succ]
    refine wpAnyH_take (i := 6) (oi := { dst := some 18, op := Go.Op.load 63 (Go.Operand.tmp 17), type := 63, pos := "l12_world.go:258", after := #[{ on := 5, ground := Go.Ground.data }], guard := none }) (v := ?vp6) rfl (by kernel_rfl) (by kernel_rfl) (by kernel_rfl) (fun _ _ _ h => h) (Or.inl ⟨by rfl, ?hp6⟩) hHeld ?rp6
    case hp6 =>
      intro wS hSw
      have q0 := (cell_of_heap (hSw.block b hbl (fun e => by omega)) (off + k * 7)).trans x0
      have q1 := (cell_of_heap (hSw.block b hbl (fun e => by omega)) (off + k * 7 + 1)).trans x1
      have q2 := (cell_of_heap (hSw.block b hbl (fun e => by omega)) (off + k * 7 + 2)).trans x2
      have q3 := (cell_of_heap (hSw.block b hbl (fun e => by omega)) (off + k * 7 + 3)).trans x3
      have q4 := (cell_of_heap (hSw.block b hbl (fun e => by omega)) (off + k * 7 + 4)).trans x4
      have q5 := (cell_of_heap (hSw.block b hbl (fun e => by omega)) (off + k * 7 + 5)).trans x5
      have q6 := (cell_of_heap (hSw.block b hbl (fun e => by omega)) (off + k * 7 + 6)).trans x6
      clear hSw
      (try dsimp only at hSw)
      go_simp
      try with_reducible rfl
    case rp6 =>
    simp only [Act.put, List.setIfInBounds_toArray, List.set_cons_zero, List.set_cons_succ]
    refine wpAnyH_ready (rs := [7]) (by kernel_rfl) (by simp) ?_
    refine AllReadyH.cons (o := { dst := some 19, op := Go.Op.call { callee := Go.Callee.value (Go.Operand.func 51), args := #[Go.Operand.tmp 18], argTypes := #[63] }, type := 65, pos := "l12_world.go:258", after := #[{ on := 6, ground := Go.Ground.data }], guard := none }) rfl (fun K hK => ?_) AllReadyH.nil
    go_simp
    go_at_call 51
    refine (unhide HL).mono ?_
    rintro e w3 ⟨us, rfl, O, hb3⟩
    try go_wp2_with fail
    refine hK.out _ _ (hHeld.trans (ext_of_below hb3 _)) (fun hHeld => ?_)
    clear hK K
    try simp only [Act.put, List.setIfInBounds_toArray, List.set_cons_zero, List.set_cons_succ]
    refine wpAnyH_ready (rs := [8]) (by kernel_rfl) (by simp) ?_
    refine AllReadyH.cons (o := { dst := some 20, op := Go.Op.call { callee := Go.Callee.value (Go.Operand.func 50), args := #[Go.Operand.tmp 12, Go.Operand.tmp 19], argTypes := #[36, 65] }, type := 38, pos := "l12_world.go:258", after := #[{ on := 0, ground := Go.Ground.data }, { on := 7, ground := Go.Ground.data }, { on := 7, ground := Go.Ground.chain }], guard := none }) rfl (fun K hK => ?_) AllReadyH.nil
    go_simp
    go_at_call 50
    refine (l12PutC _ us x _ k wD.heap.size w3 ((unhide HRD).later hb3) O hb3.size (unhide HOK) hf hk (syncR_bd _) (unhide HID)).mono ?_
    rintro e w4 ⟨cs, rfl, O4, hb4⟩
    obtain ⟨a5r, d5r, a6r, d6r, a7r, d7r, a8r, d8r, rfl, -⟩ := open_WorldResult O4.reads
    have hy := ((unhide HYD).keep hb3).keep hb4
    have hB4 := (unhide HBD).trans ((hb3.trans (hb4.mono hb3.size)).mono (unhide HBD).size)
    try go_wp2_with fail
    refine hK.out _ _ (hHeld.trans (ext_of_below hb4 _)) (fun hHeld => ?_)
    clear hK K
    try simp only [Act.put, List.setIfInBounds_toArray, List.set_cons_zero, List.set_cons_succ]
    refine wpAnyH_ready (rs := [9]) (by kernel_rfl) (by simp) ?_
    refine AllReadyH.cons (o := { dst := none, op := Go.Op.store 38 (Go.Operand.tmp 4) (Go.Operand.tmp 20), type := 0, pos := "l12_world.go:258", after := #[{ on := 8, ground := Go.Ground.data }, { on := 8, ground := Go.Ground.chain }, { on := 0, ground := Go.Ground.phase }, { on := 1, ground := Go.Ground.phase }, { on := 2, ground := Go.Ground.phase }, { on := 3, ground := Go.Ground.phase }, { on := 4, ground := Go.Ground.phase }, { on := 5, ground := Go.Ground.phase }, { on := 6, ground := Go.Ground.phase }, { on := 7, ground := Go.Ground.phase }, { on := 8, ground := Go.Ground.phase }], guard := none }) rfl (fun K hK => ?_) AllReadyH.nil
    generalize putWR x (syncR n) = yr at *
    have r0 := Box.at hy 0 _ rfl
    have r1 := Box.at hy 1 _ rfl
    have r2 := Box.at hy 2 _ rfl
    have r3 := Box.at hy 3 _ rfl
    have r4 := Box.at hy 4 _ rfl
    have r5 := Box.at hy 5 _ rfl
    have r6 := Box.at hy 6 _ rfl
    have r7 := Box.at hy 7 _ rfl
    have r8 := Box.at hy 8 _ rfl
    simp only [List.getElem_toArray, List.getElem_cons_zero, List.getElem_cons_succ] at r0 r1 r2 r3 r4 r5 r6 r7 r8
    have rf := Box.soft hy
    have rl := hy.lt
    go_simp
    refine hK.out _ _ (Ext.setCell (Ext.setCell (Ext.setCell (Ext.setCell (Ext.setCell (Ext.setCell (Ext.setCell (Ext.setCell (Ext.setCell hHeld ⟨w.heap.size + 1, 0, none⟩ (.int .i64 yr.code) (Nat.lt_succ_self _)) ⟨w.heap.size + 1, 1, none⟩ (.bool yr.moved) (Nat.lt_succ_self _)) ⟨w.heap.size + 1, 2, none⟩ (.int .i64 yr.world.now) (Nat.lt_succ_self _)) ⟨w.heap.size + 1, 3, none⟩ (.int .i64 yr.world.events) (Nat.lt_succ_self _)) ⟨w.heap.size + 1, 4, none⟩ (.int .i64 yr.world.chain.epoch) (Nat.lt_succ_self _)) ⟨w.heap.size + 1, 5, none⟩ (.slice a5r yr.world.chain.ids.length d5r) (Nat.lt_succ_self _)) ⟨w.heap.size + 1, 6, none⟩ (.slice a6r yr.world.nodes.length d6r) (Nat.lt_succ_self _)) ⟨w.heap.size + 1, 7, none⟩ (.slice a7r yr.world.msgs.length d7r) (Nat.lt_succ_self _)) ⟨w.heap.size + 1, 8, none⟩ (.slice a8r yr.world.history.length d8r) (Nat.lt_succ_self _)) (fun hHeld => ?_)
    clear hK K
    try simp only [Act.put, List.setIfInBounds_toArray, List.set_cons_zero, List.set_cons_succ]
    refine wpAnyH_done (by kernel_rfl) ?_ _
    refine NoPanic.normal ?_
    have hy9 := box_set9W hy (.int .i64 yr.code) (.bool yr.moved) (.int .i64 yr.world.now) (.int .i64 yr.world.events) (.int .i64 yr.world.chain.epoch) (.slice a5r yr.world.chain.ids.length d5r) (.slice a6r yr.world.nodes.length d6r) (.slice a7r yr.world.msgs.length d7r) (.slice a8r yr.world.history.length d8r)
    have e2 : Ext (fun q => q = w.heap.size + 1) w4 (setAll w4 (w.heap.size + 1) 0 [.int .i64 yr.code, .bool yr.moved, .int .i64 yr.world.now, .int .i64 yr.world.events, .int .i64 yr.world.chain.epoch, .slice a5r yr.world.chain.ids.length d5r, .slice a6r yr.world.nodes.length d6r, .slice a7r yr.world.msgs.length d7r, .slice a8r yr.world.history.length d8r]) := ext_setAll _ (Ext.refl _ _) _ _ _ rfl
    have HO9 := hide (O4.ext e2 (fun q h1 h2 h3 => by omega))
    have HB9 := hide (below_setAll hB4 (w.heap.size + 1) 0 [.int .i64 yr.code, .bool yr.moved, .int .i64 yr.world.now, .int .i64 yr.world.events, .int .i64 yr.world.chain.epoch, .slice a5r yr.world.chain.ids.length d5r, .slice a6r yr.world.nodes.length d6r, .slice a7r yr.world.msgs.length d7r, .slice a8r yr.world.history.length d8r] (by omega))
    clear r0 r1 r2 r3 r4 r5 r6 r7 r8 rf rl
    have r0 := Box.at hy9 0 _ rfl
    have r1 := Box.at hy9 1 _ rfl
    have r2 := Box.at hy9 2 _ rfl
    have r3 := Box.at hy9 3 _ rfl
    have r4 := Box.at hy9 4 _ rfl
    have r5 := Box.at hy9 5 _ rfl
    have r6 := Box.at hy9 6 _ rfl
    have r7 := Box.at hy9 7 _ rfl
    have r8 := Box.at hy9 8 _ rfl
    simp only [List.getElem_toArray, List.getElem_cons_zero, List.getElem_cons_succ] at r0 r1 r2 r3 r4 r5 r6 r7 r8
    clear hy9 e2
    clear hHeld O O4 hb3 hb4 hy hB4 HRD HYD HBD HL
    go_wp2_with fail
    refine bodyPost_ret (v := .agg #[.int .i64 yr.code, .bool yr.moved, .int .i64 yr.world.now, .int .i64 yr.world.events, .int .i64 yr.world.chain.epoch, .slice a5r yr.world.chain.ids.length d5r, .slice a6r yr.world.nodes.length d6r, .slice a7r yr.world.msgs.length d7r, .slice a8r yr.world.history.length d8r]) (by simp only [setAll] at r0 r1 r2 r3 r4 r5 r6 r7 r8; simp [results, Tryz.results15, go_sem, r0, r1, r2, r3, r4, r5, r6, r7, r8]) rfl ?_
    rw [unhide HP]
    exact ⟨_, rfl, (unhide HO9).reads, unhide HB9⟩
end Go.Proofs.YtdnhmoppineegaaGreat

namespace Go.Proofs.YtdnhmoppineegaaGreat
open Go.RowKit

set_option maxRecDepth 10000 in
set_option maxHeartbeats 2000000 in
theorem setNode_bad (g : Nat) (us : List Value) (r : DNodeResult) (W : World) (h : Lay.tNodeResult.Reads W us r) (hc : r.code ≠ 0) :
    Calls Tryz.prog 109 #[.pointer (some ⟨g, 0, none⟩), .agg us.toArray] W fun e W' => e = .returned (.tuple #[.bool false, .int .i64 r.code]) ∧ Below W.heap.size W W' := by
  obtain ⟨a6, d6, rfl, -⟩ := open_NodeResult h
  have nb : Below W.heap.size W (W.alloc (.cells #[.int .i64 r.code, .int .i64 r.place, .int .i64 r.node.id, .bool r.node.up, .int .i64 r.node.epoch, .int .i64 r.node.lease, .slice a6 r.node.writes.length d6, .int .i64 r.node.sure, .int .i64 r.node.clean] 65)) := (Below.refl _ _).alloc (Nat.le_refl _) _
  have HX : Hid (Box 0 #[.int .i64 r.code, .int .i64 r.place, .int .i64 r.node.id, .bool r.node.up, .int .i64 r.node.epoch, .int .i64 r.node.lease, .slice a6 r.node.writes.length d6, .int .i64 r.node.sure, .int .i64 r.node.clean] 65 (W.alloc (.cells #[.int .i64 r.code, .int .i64 r.place, .int .i64 r.node.id, .bool r.node.up, .int .i64 r.node.epoch, .int .i64 r.node.lease, .slice a6 r.node.writes.length d6, .int .i64 r.node.sure, .int .i64 r.node.clean] 65)) W.heap.size) := newBox (Nat.zero_le _)
  have HB := hide nb
  have hd : (r.code != 0) = true := by simpa using hc
  clear nb h hc
  go_enter Tryz.func109, Tryz.ntmps109
  go_upto_region 1 with fail
  generalize W.alloc (.cells #[.int .i64 r.code, .int .i64 r.place, .int .i64 r.node.id, .bool r.node.up, .int .i64 r.node.epoch, .int .i64 r.node.lease, .slice a6 r.node.writes.length d6, .int .i64 r.node.sure, .int .i64 r.node.clean] 65) = w1 at *
  have z0 := Box.at (unhide HX) 0 _ rfl
  simp only [List.getElem_toArray, List.getElem_cons_zero] at z0
  go_upto_region 2 with fail
  clear z0
  have z0 := Box.at (unhide HX).drew 0 _ rfl
  simp only [List.getElem_toArray, List.getElem_cons_zero] at z0
  replace HB := hide (unhide HB).drew
  refine wp_region_noPanic ?_
  refine wp_region_held_drew (S := fun w' => w' = w1.drew) (by kernel_rfl) rfl (fun hHeld => ?_)
  generalize w1.drew = wD at hHeld z0 HB HX ⊢
  refine wpAnyH_take (i := 0) (oi := { dst := some 9, op := Go.Op.fieldAddr 65 (Go.Operand.tmp 3) 0, type := 0, pos := "l12_world.go:218", after := #[{ on := 2, ground := Go.Ground.gcOnly Go.Departure.lateStores }], guard := none }) (v := ?vb0) rfl (by kernel_rfl) (by kernel_rfl) (by kernel_rfl) (fun _ _ _ h => h) (Or.inl ⟨by rfl, ?hb0⟩) hHeld ?rb0
  case hb0 =>
    intro wS hSw
    subst hSw
    (try dsimp only at hSw)
    go_simp
    try with_reducible rfl
  case rb0 =>
  simp only [Act.put, List.setIfInBounds_toArray, List.set_cons_zero, List.set_cons_succ]
  refine wpAnyH_take (i := 1) (oi := { dst := some 10, op := Go.Op.load 2 (Go.Operand.tmp 9), type := 2, pos := "l12_world.go:218", after := #[{ on := 0, ground := Go.Ground.data }, { on := 2, ground := Go.Ground.gcOnly Go.Departure.lateStores }], guard := none }) (v := ?vb1) rfl (by kernel_rfl) (by kernel_rfl) (by kernel_rfl) (fun _ _ _ h => h) (Or.inl ⟨by rfl, ?hb1⟩) hHeld ?rb1
  case hb1 =>
    intro wS hSw
    subst hSw
    (try dsimp only at hSw)
    go_simp
    try with_reducible rfl
  case rb1 =>
  simp only [Act.put, List.setIfInBounds_toArray, List.set_cons_zero, List.set_cons_succ]
  refine wpAnyH_take (i := 2) (oi := { dst := some 4, op := Go.Op.assign (Go.Operand.const (Go.Value.bool false)), type := 4, pos := "l12_world.go:218", after := #[{ on := 0, ground := Go.Ground.textOnly Go.Departure.lateStores }, { on := 1, ground := Go.Ground.textOnly Go.Departure.lateStores }], guard := none }) (v := ?vb2) rfl (by kernel_rfl) (by kernel_rfl) (by kernel_rfl) (fun _ _ _ h => h) (Or.inl ⟨by rfl, ?hb2⟩) hHeld ?rb2
  case hb2 =>
    intro wS hSw
    subst hSw
    (try dsimp only at hSw)
    go_simp
    try with_reducible rfl
  case rb2 =>
  simp only [Act.put, List.setIfInBounds_toArray, List.set_cons_zero, List.set_cons_succ]
  refine wpAnyH_take (i := 3) (oi := { dst := some 5, op := Go.Op.assign (Go.Operand.tmp 10), type := 2, pos := "l12_world.go:218", after := #[{ on := 1, ground := Go.Ground.data }, { on := 2, ground := Go.Ground.chain }, { on := 0, ground := Go.Ground.phase }, { on := 1, ground := Go.Ground.phase }, { on := 2, ground := Go.Ground.phase }], guard := none }) (v := ?vb3) rfl (by kernel_rfl) (by kernel_rfl) (by kernel_rfl) (fun _ _ _ h => h) (Or.inl ⟨by rfl, ?hb3⟩) hHeld ?rb3
  case hb3 =>
    intro wS hSw
    subst hSw
    (try dsimp only at hSw)
    go_simp
    try with_reducible rfl
  case rb3 =>
  simp only [Act.put, List.setIfInBounds_toArray, List.set_cons_zero, List.set_cons_succ]
  refine wpAnyH_done (by kernel_rfl) ?_ _
  refine NoPanic.normal ?_
  clear hHeld
  go_wp2_with fail
  go_ret2
  exact ⟨rfl, unhide HB⟩
set_option maxRecDepth 100000 in
set_option maxHeartbeats 4000000 in
theorem setNode_ok (g lo k : Nat) (v3 v4 v5 v6 : Value) (y : DWorld) (us : List Value) (r : DNodeResult) (W0 W : World) (hg : Box 0 #[.int .i64 y.now, .int .i64 y.events, .int .i64 y.chain.epoch, v3, v4, v5, v6] 36 W0 g) (hO : WOwn W0 lo g [.int .i64 y.now, .int .i64 y.events, .int .i64 y.chain.epoch, v3, v4, v5, v6] y) (hb : Below W0.heap.size W0 W) (hr : Lay.tNodeResult.OwnIn W us r W0.heap.size W.heap.size)
    (hc : r.code = 0) (hk : k < y.nodes.length) (hn5 : y.nodes.length ≤ 5) (hid : r.node.id = (k : Int) + 1) :
    Calls Tryz.prog 109 #[.pointer (some ⟨g, 0, none⟩), .agg us.toArray] W fun e W' => e = .returned (.tuple #[.bool true, .int .i64 0]) ∧ (∃ (u3 u4 u5 u6 : Value), Box 0 #[.int .i64 y.now, .int .i64 y.events, .int .i64 y.chain.epoch, u3, u4, u5, u6] 36 W' g ∧ WOwn W' lo g [.int .i64 y.now, .int .i64 y.events, .int .i64 y.chain.epoch, u3, u4, u5, u6] (putNode y r.node)) ∧ Ext (fun q => lo ≤ q ∧ q ≠ g) W W' := by
  obtain ⟨rc, rp, ri, ru, re, rl, rws, rs, rcl⟩ := r
  obtain rfl : rc = 0 := hc
  obtain rfl : ri = (k : Int) + 1 := hid
  obtain ⟨blr, hOr, hbr⟩ := hr
  obtain ⟨a6, d6, g2, hq, rfl, hOn, -, -⟩ := own_NodeResult hOr
  dsimp only at hq hOn
  subst hq
  have nb : Below W.heap.size W (W.alloc (.cells #[.int .i64 0, .int .i64 rp, .int .i64 ((k : Int) + 1), .bool ru, .int .i64 re, .int .i64 rl, .slice a6 rws.length d6, .int .i64 rs, .int .i64 rcl] 65)) := (Below.refl _ _).alloc (Nat.le_refl _) _
  have bX : Box 0 #[.int .i64 0, .int .i64 rp, .int .i64 ((k : Int) + 1), .bool ru, .int .i64 re, .int .i64 rl, .slice a6 rws.length d6, .int .i64 rs, .int .i64 rcl] 65 (W.alloc (.cells #[.int .i64 0, .int .i64 rp, .int .i64 ((k : Int) + 1), .bool ru, .int .i64 re, .int .i64 rl, .slice a6 rws.length d6, .int .i64 rs, .int .i64 rcl] 65)) W.heap.size := newBox (Nat.zero_le _)
  have hOn1 : Lay.tNode.OwnIn (W.alloc (.cells #[.int .i64 0, .int .i64 rp, .int .i64 ((k : Int) + 1), .bool ru, .int .i64 re, .int .i64 rl, .slice a6 rws.length d6, .int .i64 rs, .int .i64 rcl] 65)) _ ⟨(k : Int) + 1, ru, re, rl, rws, rs, rcl⟩ W0.heap.size (W.alloc (.cells #[.int .i64 0, .int .i64 rp, .int .i64 ((k : Int) + 1), .bool ru, .int .i64 re, .int .i64 rl, .slice a6 rws.length d6, .int .i64 rs, .int .i64 rcl] 65)).heap.size := ⟨blr, hOn.later nb, fun c hc => ⟨(hbr c hc).1, Nat.lt_of_lt_of_le (hbr c hc).2 nb.size⟩⟩
  obtain ⟨b, off, cap, row0, rfl, hb1, hb2, hbg, hR0, -, hput⟩ := wown_put hO (hb.trans (nb.mono hb.size)) hg.lt hOn1 hk
  have hgx := hg.keep (hb.trans (nb.mono hb.size))
  have hbx : b ≠ W.heap.size := by have := hb.size; omega
  have hxl := bX.lt
  have hgl := hgx.lt
  have hbl : b < (W.alloc (.cells #[.int .i64 0, .int .i64 rp, .int .i64 ((k : Int) + 1), .bool ru, .int .i64 re, .int .i64 rl, .slice a6 rws.length d6, .int .i64 rs, .int .i64 rcl] 65)).heap.size := by have := hb.size; simp; omega
  have c4 := Box.at hgx 4 _ rfl
  have z0 := Box.at bX 0 _ rfl
  have z1 := Box.at bX 1 _ rfl
  have z2 := Box.at bX 2 _ rfl
  have z3 := Box.at bX 3 _ rfl
  have z4 := Box.at bX 4 _ rfl
  have z5 := Box.at bX 5 _ rfl
  have z6 := Box.at bX 6 _ rfl
  have z7 := Box.at bX 7 _ rfl
  have z8 := Box.at bX 8 _ rfl
  simp only [List.getElem_toArray, List.getElem_cons_zero, List.getElem_cons_succ] at z0 z1 z2 z3 z4 z5 z6 z7 z8
  simp only [List.getElem_toArray, List.getElem_cons_zero, List.getElem_cons_succ] at c4
  have HE : Hid (Ext (fun q => lo ≤ q ∧ q ≠ g) W (W.alloc (.cells #[.int .i64 0, .int .i64 rp, .int .i64 ((k : Int) + 1), .bool ru, .int .i64 re, .int .i64 rl, .slice a6 rws.length d6, .int .i64 rs, .int .i64 rcl] 65))) := ext_of_below nb _
  have hgb : (fun q => q = b) g → False := fun e => hbg e.symm
  have HG := hide hgx
  have HP := hide hput
  have HR0 := hide hR0
  have hLO : lo ≤ b := hb1
  have hw1 : IntKind.i64.wrap (k : Int) = (k : Int) := by
    have hk5 := hn5
    rw [IntKind.wrap_i64]
    omega
  have hki : (k : Int) < (y.nodes.length : Int) := by omega
  have hki0 : (0 : Int) ≤ (k : Int) := by omega
  clear nb hO hb hg hOn1 hOn hOr hbr hgx bX hput hR0 hb2 hgb
  go_enter Tryz.func109, Tryz.ntmps109
  go_upto_region 1 with fail
  generalize hWW : W.alloc (.cells #[.int .i64 0, .int .i64 rp, .int .i64 ((k : Int) + 1), .bool ru, .int .i64 re, .int .i64 rl, .slice a6 rws.length d6, .int .i64 rs, .int .i64 rcl] 65) = w1 at *
  go_upto_region 3 with fail
  have HRD : Hid (RowAt w1 w1.drew b (off + k * 7) 7 row0 []) := ⟨(unhide HR0).len, (unhide HR0).cells, (unhide HR0).others, (unhide HR0).soft, (unhide HR0).lt, (Ext.refl _ _).drew 1⟩
  have s0 := (unhide HRD).soft (off + k * 7)
  have s1 := (unhide HRD).soft (off + k * 7 + 1)
  have s2 := (unhide HRD).soft (off + k * 7 + 2)
  have s3 := (unhide HRD).soft (off + k * 7 + 3)
  have s4 := (unhide HRD).soft (off + k * 7 + 4)
  have s5 := (unhide HRD).soft (off + k * 7 + 5)
  have s6 := (unhide HRD).soft (off + k * 7 + 6)
  obtain ⟨o0, x0⟩ : ∃ u, w1.drew.cell? ⟨b, off + k * 7, none⟩ = some u := ⟨_, ((unhide HRD).cells 0 (by decide)).trans (List.getElem?_eq_getElem (by rw [(unhide HRD).len]; decide))⟩
  obtain ⟨o1, x1⟩ : ∃ u, w1.drew.cell? ⟨b, off + k * 7 + 1, none⟩ = some u := ⟨_, ((unhide HRD).cells 1 (by decide)).trans (List.getElem?_eq_getElem (by rw [(unhide HRD).len]; decide))⟩
  obtain ⟨o2, x2⟩ : ∃ u, w1.drew.cell? ⟨b, off + k * 7 + 2, none⟩ = some u := ⟨_, ((unhide HRD).cells 2 (by decide)).trans (List.getElem?_eq_getElem (by rw [(unhide HRD).len]; decide))⟩
  obtain ⟨o3, x3⟩ : ∃ u, w1.drew.cell? ⟨b, off + k * 7 + 3, none⟩ = some u := ⟨_, ((unhide HRD).cells 3 (by decide)).trans (List.getElem?_eq_getElem (by rw [(unhide HRD).len]; decide))⟩
  obtain ⟨o4, x4⟩ : ∃ u, w1.drew.cell? ⟨b, off + k * 7 + 4, none⟩ = some u := ⟨_, ((unhide HRD).cells 4 (by decide)).trans (List.getElem?_eq_getElem (by rw [(unhide HRD).len]; decide))⟩
  obtain ⟨o5, x5⟩ : ∃ u, w1.drew.cell? ⟨b, off + k * 7 + 5, none⟩ = some u := ⟨_, ((unhide HRD).cells 5 (by decide)).trans (List.getElem?_eq_getElem (by rw [(unhide HRD).len]; decide))⟩
  obtain ⟨o6, x6⟩ : ∃ u, w1.drew.cell? ⟨b, off + k * 7 + 6, none⟩ = some u := ⟨_, ((unhide HRD).cells 6 (by decide)).trans (List.getElem?_eq_getElem (by rw [(unhide HRD).len]; decide))⟩
  refine wp_region_noPanic ?_
  refine wp_region_held_drew (S := fun w' => Ext (fun q => q = b) w1 w') (by kernel_rfl) ((Ext.refl _ _).drew 1) (fun hHeld => ?_)
  generalize w1.drew = wD at hHeld HRD s0 x0 s1 x1 s2 x2 s3 x3 s4 x4 s5 x5 s6 x6 ⊢
  refine wpAnyH_take (i := 0) (oi := { dst := some 11, op := Go.Op.move (Go.Operand.tmp 0), type := 58, pos := "l12_world.go:220", after := #[], guard := none }) (v := ?vs0) rfl (by kernel_rfl) (by kernel_rfl) (by kernel_rfl) (fun _ _ _ h => h) (Or.inl ⟨by rfl, ?hs0⟩) hHeld ?rs0
  case hs0 =>
    intro wS hSw
    (try dsimp only at hSw)
    go_simp
    try with_reducible rfl
  case rs0 =>
  simp only [Act.put, List.setIfInBounds_toArray, List.set_cons_zero, List.set_cons_succ]
  refine wpAnyH_take (i := 1) (oi := { dst := some 12, op := Go.Op.nilCheck (Go.Operand.tmp 11), type := 0, pos := "l12_world.go:220", after := #[{ on := 0, ground := Go.Ground.data }], guard := none }) (v := ?vs1) rfl (by kernel_rfl) (by kernel_rfl) (by kernel_rfl) (fun _ _ _ h => h) (Or.inl ⟨by rfl, ?hs1⟩) hHeld ?rs1
  case hs1 =>
    intro wS hSw
    (try dsimp only at hSw)
    go_simp
    try with_reducible rfl
  case rs1 =>
  simp only [Act.put, List.setIfInBounds_toArray, List.set_cons_zero, List.set_cons_succ]
  refine wpAnyH_take (i := 2) (oi := { dst := some 13, op := Go.Op.fieldAddr 36 (Go.Operand.tmp 12) 3, type := 0, pos := "l12_world.go:220", after := #[{ on := 1, ground := Go.Ground.data }], guard := none }) (v := ?vs2) rfl (by kernel_rfl) (by kernel_rfl) (by kernel_rfl) (fun _ _ _ h => h) (Or.inl ⟨by rfl, ?hs2⟩) hHeld ?rs2
  case hs2 =>
    intro wS hSw
    (try dsimp only at hSw)
    go_simp
    try with_reducible rfl
  case rs2 =>
  simp only [Act.put, List.setIfInBounds_toArray, List.set_cons_zero, List.set_cons_succ]
  refine wpAnyH_take (i := 3) (oi := { dst := some 14, op := Go.Op.load 32 (Go.Operand.tmp 13), type := 32, pos := "l12_world.go:220", after := #[{ on := 2, ground := Go.Ground.data }], guard := none }) (v := ?vs3) rfl (by kernel_rfl) (by kernel_rfl) (by kernel_rfl) (fun _ _ _ h => h) (Or.inl ⟨by rfl, ?hs3⟩) hHeld ?rs3
  case hs3 =>
    intro wS hSw
    have q := (cell_of_heap (hSw.block g hgl (fun e => hbg e.symm)) 4).trans c4
    clear hSw
    (try dsimp only at hSw)
    go_simp
    try with_reducible rfl
  case rs3 =>
  simp only [Act.put, List.setIfInBounds_toArray, List.set_cons_zero, List.set_cons_succ]
  refine wpAnyH_take (i := 4) (oi := { dst := some 15, op := Go.Op.fieldAddr 65 (Go.Operand.tmp 3) 2, type := 0, pos := "l12_world.go:220", after := #[], guard := none }) (v := ?vs4) rfl (by kernel_rfl) (by kernel_rfl) (by kernel_rfl) (fun _ _ _ h => h) (Or.inl ⟨by rfl, ?hs4⟩) hHeld ?rs4
  case hs4 =>
    intro wS hSw
    (try dsimp only at hSw)
    go_simp
    try with_reducible rfl
  case rs4 =>
  simp only [Act.put, List.setIfInBounds_toArray, List.set_cons_zero, List.set_cons_succ]
  refine wpAnyH_take (i := 5) (oi := { dst := some 16, op := Go.Op.fieldAddr 63 (Go.Operand.tmp 15) 0, type := 0, pos := "l12_world.go:220", after := #[{ on := 4, ground := Go.Ground.data }], guard := none }) (v := ?vs5) rfl (by kernel_rfl) (by kernel_rfl) (by kernel_rfl) (fun _ _ _ h => h) (Or.inl ⟨by rfl, ?hs5⟩) hHeld ?rs5
  case hs5 =>
    intro wS hSw
    (try dsimp only at hSw)
    go_simp
    try with_reducible rfl
  case rs5 =>
  simp only [Act.put, List.setIfInBounds_toArray, List.set_cons_zero, List.set_cons_succ]
  refine wpAnyH_take (i := 6) (oi := { dst := some 17, op := Go.Op.load 2 (Go.Operand.tmp 16), type := 2, pos := "l12_world.go:220", after := #[{ on := 5, ground := Go.Ground.data }], guard := none }) (v := ?vs6) rfl (by kernel_rfl) (by kernel_rfl) (by kernel_rfl) (fun _ _ _ h => h) (Or.inl ⟨by rfl, ?hs6⟩) hHeld ?rs6
  case hs6 =>
    intro wS hSw
    have q := (cell_of_heap (hSw.block W.heap.size hxl (fun e => hbx e.symm)) 2).trans z2
    clear hSw
    (try dsimp only at hSw)
    go_simp
    try with_reducible rfl
  case rs6 =>
  simp only [Act.put, List.setIfInBounds_toArray, List.set_cons_zero, List.set_cons_succ]
  refine wpAnyH_take (i := 7) (oi := { dst := some 18, op := Go.Op.binOp Go.BinOp.sub 2 (Go.Operand.tmp 17) (Go.Operand.const (Go.Value.int Go.IntKind.i64 1)) 2, type := 2, pos := "l12_world.go:220", after := #[{ on := 6, ground := Go.Ground.data }], guard := none }) (v := ?vs7) rfl (by kernel_rfl) (by kernel_rfl) (by kernel_rfl) (fun _ _ _ h => h) (Or.inl ⟨by rfl, ?hs7⟩) hHeld ?rs7
  case hs7 =>
    intro wS hSw
    (try dsimp only at hSw)
    go_simp
    try with_reducible rfl
  case rs7 =>
  simp only [Act.put, List.setIfInBounds_toArray, List.set_cons_zero, List.set_cons_succ]
  refine wpAnyH_take (i := 8) (oi := { dst := some 19, op := Go.Op.fieldAddr 65 (Go.Operand.tmp 3) 2, type := 0, pos := "l12_world.go:220", after := #[], guard := none }) (v := ?vs8) rfl (by kernel_rfl) (by kernel_rfl) (by kernel_rfl) (fun _ _ _ h => h) (Or.inl ⟨by rfl, ?hs8⟩) hHeld ?rs8
  case hs8 =>
    intro wS hSw
    (try dsimp only at hSw)
    go_simp
    try with_reducible rfl
  case rs8 =>
  simp only [Act.put, List.setIfInBounds_toArray, List.set_cons_zero, List.set_cons_succ]
  refine wpAnyH_take (i := 9) (oi := { dst := some 20, op := Go.Op.load 63 (Go.Operand.tmp 19), type := 63, pos := "l12_world.go:220", after := #[{ on := 8, ground := Go.Ground.data }], guard := none }) (v := ?vs9) rfl (by kernel_rfl) (by kernel_rfl) (by kernel_rfl) (fun _ _ _ h => h) (Or.inl ⟨by rfl, ?hs9⟩) hHeld ?rs9
  case hs9 =>
    intro wS hSw
    have q2 := (cell_of_heap (hSw.block W.heap.size hxl (fun e => hbx e.symm)) 2).trans z2
    have q3 := (cell_of_heap (hSw.block W.heap.size hxl (fun e => hbx e.symm)) 3).trans z3
    have q4 := (cell_of_heap (hSw.block W.heap.size hxl (fun e => hbx e.symm)) 4).trans z4
    have q5 := (cell_of_heap (hSw.block W.heap.size hxl (fun e => hbx e.symm)) 5).trans z5
    have q6 := (cell_of_heap (hSw.block W.heap.size hxl (fun e => hbx e.symm)) 6).trans z6
    have q7 := (cell_of_heap (hSw.block W.heap.size hxl (fun e => hbx e.symm)) 7).trans z7
    have q8 := (cell_of_heap (hSw.block W.heap.size hxl (fun e => hbx e.symm)) 8).trans z8
    clear hSw
    (try dsimp only at hSw)
    go_simp
    try with_reducible rfl
  case rs9 =>
  simp only [Act.put, List.setIfInBounds_toArray, List.set_cons_zero, List.set_cons_succ]
  refine wpAnyH_take (i := 10) (oi := { dst := some 21, op := Go.Op.indexAddr 32 (Go.Operand.tmp 14) (Go.Operand.tmp 18), type := 0, pos := "l12_world.go:220", after := #[{ on := 3, ground := Go.Ground.data }, { on := 7, ground := Go.Ground.data }, { on := 0, ground := Go.Ground.phase }, { on := 1, ground := Go.Ground.phase }, { on := 2, ground := Go.Ground.phase }, { on := 3, ground := Go.Ground.phase }, { on := 4, ground := Go.Ground.phase }, { on := 5, ground := Go.Ground.phase }, { on := 6, ground := Go.Ground.phase }, { on := 7, ground := Go.Ground.phase }, { on := 8, ground := Go.Ground.phase }, { on := 9, ground := Go.Ground.phase }], guard := none }) (v := ?vs10) rfl (by kernel_rfl) (by kernel_rfl) (by kernel_rfl) (fun _ _ _ h => h) (Or.inl ⟨by rfl, ?hs10⟩) hHeld ?rs10
  case hs10 =>
    intro wS hSw
    (try dsimp only at hSw)
    go_simp
    try with_reducible rfl
  case rs10 =>
  simp only [Act.put, List.setIfInBounds_toArray, List.set_cons_zero, List.set_cons_succ]
  refine wpAnyH_ready (rs := [11]) (by kernel_rfl) (by simp) ?_
  refine AllReadyH.cons (o := { dst := none, op := Go.Op.store 63 (Go.Operand.tmp 21) (Go.Operand.tmp 20), type := 0, pos := "l12_world.go:220", after := #[{ on := 10, ground := Go.Ground.data }, { on := 9, ground := Go.Ground.data }, { on := 0, ground := Go.Ground.phase }, { on := 1, ground := Go.Ground.phase }, { on := 2, ground := Go.Ground.phase }, { on := 3, ground := Go.Ground.phase }, { on := 4, ground := Go.Ground.phase }, { on := 5, ground := Go.Ground.phase }, { on := 6, ground := Go.Ground.phase }, { on := 7, ground := Go.Ground.phase }, { on := 8, ground := Go.Ground.phase }, { on := 9, ground := Go.Ground.phase }], guard := none }) rfl (fun K hK => ?_) AllReadyH.nil
  go_simp
  refine hK.out _ _ (Ext.setCell (Ext.setCell (Ext.setCell (Ext.setCell (Ext.setCell (Ext.setCell (Ext.setCell hHeld ⟨b, off + k * 7, none⟩ (.int .i64 ((k : Int) + 1)) rfl) ⟨b, off + k * 7 + 1, none⟩ (.bool ru) rfl) ⟨b, off + k * 7 + 2, none⟩ (.int .i64 re) rfl) ⟨b, off + k * 7 + 3, none⟩ (.int .i64 rl) rfl) ⟨b, off + k * 7 + 4, none⟩ (.slice a6 rws.length d6) rfl) ⟨b, off + k * 7 + 5, none⟩ (.int .i64 rs) rfl) ⟨b, off + k * 7 + 6, none⟩ (.int .i64 rcl) rfl) (fun hHeld => ?_)
  clear hK K
  try simp only [Act.put, List.setIfInBounds_toArray, List.set_cons_zero, List.set_cons_succ]
  refine wpAnyH_done (by kernel_rfl) ?_ _
  refine NoPanic.normal ?_
  have hRW := RowAt.set7 (unhide HRD) (.int .i64 ((k : Int) + 1)) (.bool ru) (.int .i64 re) (.int .i64 rl) (.slice a6 rws.length d6) (.int .i64 rs) (.int .i64 rcl)
  have hOW := unhide HP _ hRW
  have hEW : Ext (fun q => lo ≤ q ∧ q ≠ g) w1 (((((((wD.setCell ⟨b, off + k * 7, none⟩ (.int .i64 ((k : Int) + 1))).setCell ⟨b, off + k * 7 + 1, none⟩ (.bool ru)).setCell ⟨b, off + k * 7 + 2, none⟩ (.int .i64 re)).setCell ⟨b, off + k * 7 + 3, none⟩ (.int .i64 rl)).setCell ⟨b, off + k * 7 + 4, none⟩ (.slice a6 rws.length d6)).setCell ⟨b, off + k * 7 + 5, none⟩ (.int .i64 rs)).setCell ⟨b, off + k * 7 + 6, none⟩ (.int .i64 rcl)) := (hHeld.mono (fun q _ e => by rw [e]; exact ⟨hLO, hbg⟩))
  have hGW := (unhide HG).ext hHeld (fun e => hbg e.symm)
  have HOW := hide hOW
  have HGW := hide hGW
  have HEW := hide ((unhide HE).trans hEW)
  clear hRW hOW hEW hGW hHeld
  go_wp2_with fail
  go_ret2
  exact ⟨rfl, ⟨_, _, _, _, by rw [putNode_eq (k := k) rfl]; exact ⟨unhide HGW, unhide HOW⟩⟩, unhide HEW⟩
end Go.Proofs.YtdnhmoppineegaaGreat

namespace Go.Proofs.YtdnhmoppineegaaGreat
open Go.RowKit

/-- A node that is pointed at: its writes are v, and so many of them are sure. -/
def HeldAt (w : World) (g : Nat) (v : Value) (x : DNode) : Prop := Box 0 #[v, .int .i64 x.sure, .int .i64 x.id, .bool x.up, .int .i64 x.epoch, .int .i64 x.lease, .int .i64 x.clean] 183 w g
theorem HeldAt.keep {w w' : World} {g : Nat} {v : Value} {x : DNode} (h : HeldAt w g v x) (hb : Below w.heap.size w w') : HeldAt w' g v x := Box.keep h hb
theorem HeldAt.lt {w : World} {g : Nat} {v : Value} {x : DNode} (h : HeldAt w g v x) : g < w.heap.size := Box.lt h
theorem node_vecs {x : DNode} (h : NodeOK x) : ∀ y ∈ x.writes, y.vec.length ≤ 10000000 := fun y hy => by
  obtain ⟨-, -, -, hk⟩ := writeFault_zero (h.ws y hy)
  rcases hk with ⟨-, hv⟩ | ⟨-, hv⟩
  · have := (vecFault_zero hv).1; omega
  · rw [hv]; simp

set_option maxRecDepth 10000 in
set_option maxHeartbeats 1000000 in
theorem nodeOf_bad (cs : List Value) (x : DNode) (w : World) (h : Lay.tNode.Reads w cs x) (hf : nodeFault x ≠ 0) :
    Calls Tryz.prog 220 #[.agg cs.toArray] w fun e w' => e = .returned (.tuple #[.pointer none, .int .i64 (nodeFault x)]) ∧ Below w.heap.size w w' := by
  have hN := h
  obtain ⟨a4, d4, rfl, R4⟩ := open_Node h
  have nb : Below w.heap.size w (w.alloc (.cells #[.int .i64 x.id, .bool x.up, .int .i64 x.epoch, .int .i64 x.lease, .slice a4 x.writes.length d4, .int .i64 x.sure, .int .i64 x.clean] 63)) := (Below.refl _ _).alloc (Nat.le_refl _) _
  have bX : Box w.heap.size #[.int .i64 x.id, .bool x.up, .int .i64 x.epoch, .int .i64 x.lease, .slice a4 x.writes.length d4, .int .i64 x.sure, .int .i64 x.clean] 63 (w.alloc (.cells #[.int .i64 x.id, .bool x.up, .int .i64 x.epoch, .int .i64 x.lease, .slice a4 x.writes.length d4, .int .i64 x.sure, .int .i64 x.clean] 63)) w.heap.size := newBox (Nat.le_refl _)
  have HL := hide (implNodeFault _ x _ (hN.later nb))
  have HB := hide nb
  have hd : (nodeFault x != 0) = true := by simpa using hf
  clear h hN nb bX R4 hf
  generalize nodeFault x = c at *
  go_enter Tryz.func220, Tryz.ntmps220
  go_wp2_with fail
  refine (unhide HL).mono ?_
  rintro e w1 ⟨rfl, hb⟩
  have HB1 := hide ((unhide HB).trans (hb.mono (unhide HB).size))
  clear hb HL HB
  go_wp2_with fail
  refine bodyPost_ret (v := .tuple #[.pointer none, .int .i64 c]) (by simp [results, Tryz.results220, go_sem]) rfl ?_
  exact ⟨rfl, unhide HB1⟩

set_option maxRecDepth 10000 in
set_option maxHeartbeats 2000000 in
theorem nodeOf_ok (cs : List Value) (x : DNode) (w : World) (h : Lay.tNode.Reads w cs x) (hf : nodeFault x = 0) :
    Calls Tryz.prog 220 #[.agg cs.toArray] w fun e w' => ∃ g gw, e = .returned (.tuple #[.pointer (some ⟨g, 0, none⟩), .int .i64 0]) ∧ HeldAt w' g (.slice (some ⟨gw, 0, none⟩) x.writes.length x.writes.length) x ∧ (Lay.sl Lay.tWrite).OwnIn w' [.slice (some ⟨gw, 0, none⟩) x.writes.length x.writes.length] x.writes (g + 1) w'.heap.size ∧ w.heap.size ≤ g ∧ Below w.heap.size w w' := by
  have hN := h
  obtain ⟨a4, d4, rfl, R4⟩ := open_Node h
  have nb : Below w.heap.size w (w.alloc (.cells #[.int .i64 x.id, .bool x.up, .int .i64 x.epoch, .int .i64 x.lease, .slice a4 x.writes.length d4, .int .i64 x.sure, .int .i64 x.clean] 63)) := (Below.refl _ _).alloc (Nat.le_refl _) _
  have bX : Box w.heap.size #[.int .i64 x.id, .bool x.up, .int .i64 x.epoch, .int .i64 x.lease, .slice a4 x.writes.length d4, .int .i64 x.sure, .int .i64 x.clean] 63 (w.alloc (.cells #[.int .i64 x.id, .bool x.up, .int .i64 x.epoch, .int .i64 x.lease, .slice a4 x.writes.length d4, .int .i64 x.sure, .int .i64 x.clean] 63)) w.heap.size := newBox (Nat.le_refl _)
  have hok := nodeFault_zero hf
  have HL := hide (implNodeFault _ x _ (hN.later nb))
  rw [hf] at HL
  have hlen := hok.len
  have HV := hide (node_vecs hok)
  have HB := hide nb
  have HX := hide bX
  have HR := hide (R4.later nb)
  clear h hN nb bX R4 hf hok
  go_enter Tryz.func220, Tryz.ntmps220
  go_wp2_with fail
  generalize w.alloc (.cells #[.int .i64 x.id, .bool x.up, .int .i64 x.epoch, .int .i64 x.lease, .slice a4 x.writes.length d4, .int .i64 x.sure, .int .i64 x.clean] 63) = W0 at *
  refine (unhide HL).mono ?_
  rintro e w1 ⟨rfl, hb⟩
  have bX1 := (unhide HX).keep hb
  have HB1 := hide ((unhide HB).trans (hb.mono (unhide HB).size))
  have HR1 := hide ((unhide HR).later hb)
  have x0 := bX1.at 0 _ rfl
  have x1 := bX1.at 1 _ rfl
  have x2 := bX1.at 2 _ rfl
  have x3 := bX1.at 3 _ rfl
  have x4 := bX1.at 4 _ rfl
  have x5 := bX1.at 5 _ rfl
  have x6 := bX1.at 6 _ rfl
  simp only [List.getElem_toArray, List.getElem_cons_zero, List.getElem_cons_succ] at x0 x1 x2 x3 x4 x5 x6
  have xl := bX1.lt
  have hgs := (unhide HB1).size
  have nb2 : Below w1.heap.size w1 (w1.alloc (.cells #[.slice none 0 0, .int .i64 0, .int .i64 x.id, .bool x.up, .int .i64 x.epoch, .int .i64 x.lease, .int .i64 x.clean] 183)) := (Below.refl _ _).alloc (Nat.le_refl _) _
  have bH : Box 0 #[.slice none 0 0, .int .i64 0, .int .i64 x.id, .bool x.up, .int .i64 x.epoch, .int .i64 x.lease, .int .i64 x.clean] 183 (w1.alloc (.cells #[.slice none 0 0, .int .i64 0, .int .i64 x.id, .bool x.up, .int .i64 x.epoch, .int .i64 x.lease, .int .i64 x.clean] 183)) w1.heap.size := newBox (Nat.zero_le _)
  have HC := hide (copiedC _ x.writes _ ((unhide HR1).later nb2) (by omega) (unhide HV))
  have HX2 := hide (bX1.keep nb2)
  have HB2 := hide ((unhide HB1).trans (nb2.mono (unhide HB1).size))
  have HH := hide bH
  have hz2 : (w1.alloc (.cells #[.slice none 0 0, .int .i64 0, .int .i64 x.id, .bool x.up, .int .i64 x.epoch, .int .i64 x.lease, .int .i64 x.clean] 183)).heap.size = w1.heap.size + 1 := by simp
  have HZ2 : Hid (w1.heap.size + 1 ≤ (w1.alloc (.cells #[.slice none 0 0, .int .i64 0, .int .i64 x.id, .bool x.up, .int .i64 x.epoch, .int .i64 x.lease, .int .i64 x.clean] 183)).heap.size) := Nat.le_of_eq hz2.symm
  clear hb HL HB HX HR HR1 bX1 nb2 bH HB1 hz2
  go_wp2_with fail
  clear x0 x1 x2 x3 x4 x5 x6 xl
  refine (unhide HC).mono ?_
  generalize w1.alloc (.cells #[.slice none 0 0, .int .i64 0, .int .i64 x.id, .bool x.up, .int .i64 x.epoch, .int .i64 x.lease, .int .i64 x.clean] 183) = W2 at *
  rintro e w3 ⟨gw, rfl, O, hb⟩
  have bX3 := (unhide HX2).keep hb
  have bH3 := (unhide HH).keep hb
  have x5 := bX3.at 5 _ rfl
  have y0 := bH3.at 0 _ rfl
  have y1 := bH3.at 1 _ rfl
  have yf := bH3.soft
  have yl := bH3.lt
  have xl := bX3.lt
  have hxy : w.heap.size ≠ w1.heap.size := by
    have h1 := (unhide HX2).lt
    intro e
    have q1 := (unhide HX2).2
    have q2 := (unhide HH).2
    rw [e, q2] at q1
    simp at q1
  have hwlt : w.heap.size < w1.heap.size := by omega
  simp only [List.getElem_toArray, List.getElem_cons_zero, List.getElem_cons_succ] at x5 y0 y1
  have HF3 : Hid (HeldAt ((w3.setCell ⟨w1.heap.size, 0, none⟩ (.slice (some ⟨gw, 0, none⟩) x.writes.length x.writes.length)).setCell ⟨w1.heap.size, 1, none⟩ (.int .i64 x.sure)) w1.heap.size (.slice (some ⟨gw, 0, none⟩) x.writes.length x.writes.length) x) := (bH3.set 0 (.slice (some ⟨gw, 0, none⟩) x.writes.length x.writes.length)).set 1 (.int .i64 x.sure)
  have hzb := unhide HZ2
  have E : Ext (fun q => q = w1.heap.size) w3 ((w3.setCell ⟨w1.heap.size, 0, none⟩ (.slice (some ⟨gw, 0, none⟩) x.writes.length x.writes.length)).setCell ⟨w1.heap.size, 1, none⟩ (.int .i64 x.sure)) := ((Ext.refl (fun q => q = w1.heap.size) _).setCell ⟨w1.heap.size, 0, none⟩ _ rfl).setCell ⟨w1.heap.size, 1, none⟩ _ rfl
  have HO3 := hide ((O.ext E (fun q h1 h2 h3 => by omega)).mono (lo' := w1.heap.size + 1) (hi' := ((w3.setCell ⟨w1.heap.size, 0, none⟩ (.slice (some ⟨gw, 0, none⟩) x.writes.length x.writes.length)).setCell ⟨w1.heap.size, 1, none⟩ (.int .i64 x.sure)).heap.size) hzb (by simp))
  have HB3 : Hid (Below w.heap.size w ((w3.setCell ⟨w1.heap.size, 0, none⟩ (.slice (some ⟨gw, 0, none⟩) x.writes.length x.writes.length)).setCell ⟨w1.heap.size, 1, none⟩ (.int .i64 x.sure))) := (((unhide HB2).trans (hb.mono (unhide HB2).size)).setCell (by simpa using hgs) _).setCell (by simpa using hgs) _
  clear hb O bX3 bH3 E HC HX2 HH HB2 HZ2
  go_wp2_with fail
  refine bodyPost_ret (v := .tuple #[.pointer (some ⟨w1.heap.size, 0, none⟩), .int .i64 0]) (by simp [results, Tryz.results220, go_sem]) rfl ?_
  exact ⟨w1.heap.size, gw, rfl, unhide HF3, unhide HO3, hgs, unhide HB3⟩

set_option maxRecDepth 10000 in
set_option maxHeartbeats 1000000 in
theorem upNode_bad (cs : List Value) (x : DNode) (w : World) (h : Lay.tNode.Reads w cs x) (hf : askedN x ≠ 0) :
    Calls Tryz.prog 174 #[.agg cs.toArray] w fun e w' => e = .returned (.tuple #[.pointer none, .int .i64 (askedN x)]) ∧ Below w.heap.size w w' := by
  have hN := h
  obtain ⟨a4, d4, rfl, R4⟩ := open_Node h
  have nb : Below w.heap.size w (w.alloc (.cells #[.int .i64 x.id, .bool x.up, .int .i64 x.epoch, .int .i64 x.lease, .slice a4 x.writes.length d4, .int .i64 x.sure, .int .i64 x.clean] 63)) := (Below.refl _ _).alloc (Nat.le_refl _) _
  have bX : Box w.heap.size #[.int .i64 x.id, .bool x.up, .int .i64 x.epoch, .int .i64 x.lease, .slice a4 x.writes.length d4, .int .i64 x.sure, .int .i64 x.clean] 63 (w.alloc (.cells #[.int .i64 x.id, .bool x.up, .int .i64 x.epoch, .int .i64 x.lease, .slice a4 x.writes.length d4, .int .i64 x.sure, .int .i64 x.clean] 63)) w.heap.size := newBox (Nat.le_refl _)
  by_cases hn : nodeFault x = 0
  · have HL := hide (nodeOf_ok _ x _ (hN.later nb) hn)
    have ha : askedN x = 10 ∧ x.up = false := by
      unfold askedN at hf ⊢
      rw [if_pos hn] at hf ⊢
      cases hu : x.up
      · exact ⟨by simp, rfl⟩
      · rw [hu] at hf; simp at hf
    have HU := hide ha.2
    rw [ha.1]
    have HB := hide nb
    clear h hN nb bX R4 hf hn ha
    go_enter Tryz.func174, Tryz.ntmps174
    go_wp2_with fail
    refine (unhide HL).mono ?_
    rintro e w1 ⟨g, gw, rfl, hH, -, -, hb⟩
    have y3 := Box.at hH 3 _ rfl
    have yl := hH.lt
    simp only [List.getElem_toArray, List.getElem_cons_zero, List.getElem_cons_succ] at y3
    rw [unhide HU] at y3
    have HB1 := hide ((unhide HB).trans (hb.mono (unhide HB).size))
    clear hb HL HB hH
    go_wp2_with fail
    refine bodyPost_ret (v := .tuple #[.pointer none, .int .i64 10]) (by simp [results, Tryz.results174, go_sem]) rfl ?_
    exact ⟨rfl, unhide HB1⟩
  · have HL := hide (nodeOf_bad _ x _ (hN.later nb) hn)
    have ha : askedN x = nodeFault x := by rw [askedN, if_neg hn]
    rw [ha]
    have HB := hide nb
    have hd : (nodeFault x == 0) = false := by simpa using hn
    clear h hN nb bX R4 hf hn ha
    generalize nodeFault x = c at *
    go_enter Tryz.func174, Tryz.ntmps174
    go_wp2_with fail
    refine (unhide HL).mono ?_
    rintro e w1 ⟨rfl, hb⟩
    have HB1 := hide ((unhide HB).trans (hb.mono (unhide HB).size))
    clear hb HL HB
    go_wp2_with fail
    refine bodyPost_ret (v := .tuple #[.pointer none, .int .i64 c]) (by simp [results, Tryz.results174, go_sem]) rfl ?_
    exact ⟨rfl, unhide HB1⟩

set_option maxRecDepth 10000 in
set_option maxHeartbeats 1000000 in
theorem upNode_ok (cs : List Value) (x : DNode) (w : World) (h : Lay.tNode.Reads w cs x) (hf : askedN x = 0) :
    Calls Tryz.prog 174 #[.agg cs.toArray] w fun e w' => ∃ g gw, e = .returned (.tuple #[.pointer (some ⟨g, 0, none⟩), .int .i64 0]) ∧ HeldAt w' g (.slice (some ⟨gw, 0, none⟩) x.writes.length x.writes.length) x ∧ (Lay.sl Lay.tWrite).OwnIn w' [.slice (some ⟨gw, 0, none⟩) x.writes.length x.writes.length] x.writes (g + 1) w'.heap.size ∧ w.heap.size ≤ g ∧ Below w.heap.size w w' := by
  obtain ⟨hok, hu⟩ := askedN_zero hf
  have HU := hide hu
  clear hu
  have hN := h
  obtain ⟨a4, d4, rfl, R4⟩ := open_Node h
  have nb : Below w.heap.size w (w.alloc (.cells #[.int .i64 x.id, .bool x.up, .int .i64 x.epoch, .int .i64 x.lease, .slice a4 x.writes.length d4, .int .i64 x.sure, .int .i64 x.clean] 63)) := (Below.refl _ _).alloc (Nat.le_refl _) _
  have bX : Box w.heap.size #[.int .i64 x.id, .bool x.up, .int .i64 x.epoch, .int .i64 x.lease, .slice a4 x.writes.length d4, .int .i64 x.sure, .int .i64 x.clean] 63 (w.alloc (.cells #[.int .i64 x.id, .bool x.up, .int .i64 x.epoch, .int .i64 x.lease, .slice a4 x.writes.length d4, .int .i64 x.sure, .int .i64 x.clean] 63)) w.heap.size := newBox (Nat.le_refl _)
  have HL := hide (nodeOf_ok _ x _ (hN.later nb) hok.fault)
  have HB := hide nb
  clear h hN nb bX R4 hf hok
  go_enter Tryz.func174, Tryz.ntmps174
  go_wp2_with fail
  refine (unhide HL).mono ?_
  rintro e w1 ⟨g, gw, rfl, hH, O, hg, hb⟩
  have y3 := Box.at hH 3 _ rfl
  have yl := hH.lt
  simp only [List.getElem_toArray, List.getElem_cons_zero, List.getElem_cons_succ] at y3
  rw [unhide HU] at y3
  have HB1 := hide ((unhide HB).trans (hb.mono (unhide HB).size))
  have HH := hide hH
  have HO := hide O
  have HG := hide (Nat.le_trans (unhide HB).size hg)
  clear hb HL HB hH O hg
  go_wp2_with fail
  refine bodyPost_ret (v := .tuple #[.pointer (some ⟨g, 0, none⟩), .int .i64 0]) (by simp [results, Tryz.results174, go_sem]) rfl ?_
  exact ⟨g, gw, rfl, unhide HH, unhide HO, unhide HG, unhide HB1⟩

end Go.Proofs.YtdnhmoppineegaaGreat

namespace Go.Proofs.YtdnhmoppineegaaGreat
open Go.RowKit

theorem learn_val (a b i : Int) : (if a < (if b < i then b else i) then (if b < i then b else i) else a) = max a (min i b) := by
  by_cases h : b < i
  · rw [if_pos h]; split <;> omega
  · rw [if_neg h]; split <;> omega
theorem countC (g : Nat) (a : Option Addr) (n c : Nat) (x : DNode) (w : World) (h : HeldAt w g (.slice a n c) x) :
    Calls Tryz.prog 176 #[.pointer (some ⟨g, 0, none⟩)] w fun e w' => e = .returned (.int .i64 (n : Int)) ∧ w' = w := by
  have y0 := Box.at h 0 _ rfl
  simp only [List.getElem_toArray, List.getElem_cons_zero] at y0
  have yl := h.lt
  clear h
  go_enter Tryz.func176, Tryz.ntmps176
  go_wp2_with fail
  go_ret
  exact ⟨rfl, rfl⟩
set_option maxRecDepth 10000 in
set_option maxHeartbeats 1000000 in
theorem looseC (g : Nat) (a : Option Addr) (n c : Nat) (x : DNode) (w : World) (h : HeldAt w g (.slice a n c) x) (hs : 0 ≤ x.sure ∧ x.sure ≤ n) (hn : n ≤ 1000) :
    Calls Tryz.prog 184 #[.pointer (some ⟨g, 0, none⟩)] w fun e w' => e = .returned (.int .i64 ((n : Int) - x.sure)) ∧ Below w.heap.size w w' := by
  have hHD : HeldAt w.drew g (.slice a n c) x := h
  go_enter Tryz.func184, Tryz.ntmps184
  go_wp2_with fail
  refine wp_region_noPanic ?_
  refine wp_region_held_drew (S := fun w' => w' = w.drew) (by kernel_rfl) rfl (fun hHeld => ?_)
  refine wpAnyH_take (i := 0) (oi := { dst := some 3, op := Go.Op.move (Go.Operand.tmp 0), type := 222, pos := "l09_node.go:37", after := #[], guard := none }) (v := ?vo0) rfl (by kernel_rfl) (by kernel_rfl) (by kernel_rfl) (fun _ _ _ h => h) (Or.inl ⟨by rfl, ?ho0⟩) hHeld ?ro0
  case ho0 =>
    intro wS hSw
    (try dsimp only at hSw)
    go_simp
    try with_reducible rfl
  case ro0 =>
  simp only [Act.put, List.setIfInBounds_toArray, List.set_cons_zero, List.set_cons_succ]
  refine wpAnyH_take (i := 2) (oi := { dst := some 5, op := Go.Op.move (Go.Operand.tmp 0), type := 222, pos := "l09_node.go:37", after := #[], guard := none }) (v := ?vo2) rfl (by kernel_rfl) (by kernel_rfl) (by kernel_rfl) (fun _ _ _ h => h) (Or.inl ⟨by rfl, ?ho2⟩) hHeld ?ro2
  case ho2 =>
    intro wS hSw
    (try dsimp only at hSw)
    go_simp
    try with_reducible rfl
  case ro2 =>
  simp only [Act.put, List.setIfInBounds_toArray, List.set_cons_zero, List.set_cons_succ]
  refine wpAnyH_take (i := 3) (oi := { dst := some 6, op := Go.Op.nilCheck (Go.Operand.tmp 5), type := 0, pos := "l09_node.go:37", after := #[{ on := 2, ground := Go.Ground.data }], guard := none }) (v := ?vo3) rfl (by kernel_rfl) (by kernel_rfl) (by kernel_rfl) (fun _ _ _ h => h) (Or.inl ⟨by rfl, ?ho3⟩) hHeld ?ro3
  case ho3 =>
    intro wS hSw
    (try dsimp only at hSw)
    go_simp
    try with_reducible rfl
  case ro3 =>
  simp only [Act.put, List.setIfInBounds_toArray, List.set_cons_zero, List.set_cons_succ]
  refine wpAnyH_take (i := 4) (oi := { dst := some 7, op := Go.Op.fieldAddr 181 (Go.Operand.tmp 6) 1, type := 0, pos := "l09_node.go:37", after := #[{ on := 3, ground := Go.Ground.data }], guard := none }) (v := ?vo4) rfl (by kernel_rfl) (by kernel_rfl) (by kernel_rfl) (fun _ _ _ h => h) (Or.inl ⟨by rfl, ?ho4⟩) hHeld ?ro4
  case ho4 =>
    intro wS hSw
    (try dsimp only at hSw)
    go_simp
    try with_reducible rfl
  case ro4 =>
  simp only [Act.put, List.setIfInBounds_toArray, List.set_cons_zero, List.set_cons_succ]
  refine wpAnyH_take (i := 5) (oi := { dst := some 8, op := Go.Op.load 2 (Go.Operand.tmp 7), type := 2, pos := "l09_node.go:37", after := #[{ on := 4, ground := Go.Ground.data }], guard := none }) (v := ?vo5) rfl (by kernel_rfl) (by kernel_rfl) (by kernel_rfl) (fun _ _ _ h => h) (Or.inl ⟨by rfl, ?ho5⟩) hHeld ?ro5
  case ho5 =>
    intro wS hSw
    have y1 : wS.cell? ⟨g, 1, none⟩ = some (.int .i64 x.sure) := by rw [hSw]; exact Box.at hHD 1 _ rfl
    clear hSw
    (try dsimp only at hSw)
    go_simp
    try with_reducible rfl
  case ro5 =>
  simp only [Act.put, List.setIfInBounds_toArray, List.set_cons_zero, List.set_cons_succ]
  refine wpAnyH_ready (rs := [1]) (by kernel_rfl) (by simp) ?_
  refine AllReadyH.cons (o := { dst := some 4, op := Go.Op.call { callee := Go.Callee.value (Go.Operand.func 176), args := #[Go.Operand.tmp 3], argTypes := #[222] }, type := 2, pos := "l09_node.go:37", after := #[{ on := 0, ground := Go.Ground.data }], guard := none }) rfl (fun K hK => ?_) AllReadyH.nil
  go_simp
  go_at_call 176
  refine (countC g a n c x _ hHD).mono ?_
  rintro e w3 ⟨rfl, rfl⟩
  try go_wp2_with fail
  refine hK.out _ _ rfl (fun hHeld => ?_)
  clear hK K
  try simp only [Act.put, List.setIfInBounds_toArray, List.set_cons_zero, List.set_cons_succ]
  refine wpAnyH_take (i := 6) (oi := { dst := some 9, op := Go.Op.binOp Go.BinOp.sub 2 (Go.Operand.tmp 4) (Go.Operand.tmp 8) 2, type := 2, pos := "l09_node.go:37", after := #[{ on := 1, ground := Go.Ground.data }, { on := 5, ground := Go.Ground.data }], guard := none }) (v := ?vo6) rfl (by kernel_rfl) (by kernel_rfl) (by kernel_rfl) (fun _ _ _ h => h) (Or.inl ⟨by rfl, ?ho6⟩) hHeld ?ro6
  case ho6 =>
    intro wS hSw
    (try dsimp only at hSw)
    go_simp
    try with_reducible rfl
  case ro6 =>
  simp only [Act.put, List.setIfInBounds_toArray, List.set_cons_zero, List.set_cons_succ]
  refine wpAnyH_take (i := 7) (oi := { dst := some 2, op := Go.Op.assign (Go.Operand.tmp 9), type := 2, pos := "l09_node.go:37", after := #[{ on := 6, ground := Go.Ground.data }, { on := 1, ground := Go.Ground.chain }, { on := 0, ground := Go.Ground.phase }, { on := 1, ground := Go.Ground.phase }, { on := 2, ground := Go.Ground.phase }, { on := 3, ground := Go.Ground.phase }, { on := 4, ground := Go.Ground.phase }, { on := 5, ground := Go.Ground.phase }, { on := 6, ground := Go.Ground.phase }], guard := none }) (v := ?vo7) rfl (by kernel_rfl) (by kernel_rfl) (by kernel_rfl) (fun _ _ _ h => h) (Or.inl ⟨by rfl, ?ho7⟩) hHeld ?ro7
  case ho7 =>
    intro wS hSw
    (try dsimp only at hSw)
    go_simp
    try with_reducible rfl
  case ro7 =>
  simp only [Act.put, List.setIfInBounds_toArray, List.set_cons_zero, List.set_cons_succ]
  refine wpAnyH_done (by kernel_rfl) ?_ _
  refine NoPanic.normal ?_
  clear hHeld
  have hwr : IntKind.i64.wrap ((n : Int) - x.sure) = (n : Int) - x.sure := (by rw [IntKind.wrap_i64]; omega)
  go_wp2_with fail
  go_ret
  simp only [hwr]
  exact ⟨rfl, (Below.refl _ _).drew⟩
set_option maxRecDepth 10000 in
set_option maxHeartbeats 1000000 in
theorem syncC (g : Nat) (a : Option Addr) (n c : Nat) (x : DNode) (w : World) (h : HeldAt w g (.slice a n c) x) :
    Calls Tryz.prog 175 #[.pointer (some ⟨g, 0, none⟩)] w fun e w' => e = .returned (.tuple #[]) ∧ HeldAt w' g (.slice a n c) ⟨x.id, x.up, x.epoch, x.lease, x.writes, (n : Int), x.clean⟩ ∧ Ext (fun q => q = g) w w' := by
  have L := hide (countC g a n c x w h)
  have y1 := Box.at h 1 _ rfl
  simp only [List.getElem_toArray, List.getElem_cons_zero, List.getElem_cons_succ] at y1
  have yf := Box.soft h
  have yl := h.lt
  have HH : Hid (HeldAt (w.setCell ⟨g, 1, none⟩ (.int .i64 (n : Int))) g (.slice a n c) ⟨x.id, x.up, x.epoch, x.lease, x.writes, (n : Int), x.clean⟩) := Box.set h 1 (.int .i64 (n : Int))
  have HE : Hid (Ext (fun q => q = g) w (w.setCell ⟨g, 1, none⟩ (.int .i64 (n : Int)))) := (Ext.refl (fun q => q = g) _).setCell ⟨g, 1, none⟩ _ rfl
  clear h
  go_enter Tryz.func175, Tryz.ntmps175
  go_wp2_with fail
  refine (unhide L).mono ?_
  rintro e w1 ⟨rfl, h1⟩
  subst w1
  go_wp2_with fail
  refine bodyPost_end (v := .tuple #[]) (by simp [results, Tryz.results175, go_sem]) rfl ?_
  exact ⟨rfl, unhide HH, unhide HE⟩
set_option maxRecDepth 10000 in
set_option maxHeartbeats 2000000 in
theorem toldC (g : Nat) (a : Option Addr) (n c : Nat) (x : DNode) (w : World) (h : HeldAt w g (.slice a n c) x) :
    Calls Tryz.prog 177 #[.pointer (some ⟨g, 0, none⟩)] w fun e w' => e = .returned (.agg #[.int .i64 x.id, .bool x.up, .int .i64 x.epoch, .int .i64 x.lease, .slice a n c, .int .i64 x.sure, .int .i64 x.clean]) ∧ Below w.heap.size w w' := by
  have k0 := Box.at h 0 _ rfl
  have k1 := Box.at h 1 _ rfl
  have k2 := Box.at h 2 _ rfl
  have k3 := Box.at h 3 _ rfl
  have k4 := Box.at h 4 _ rfl
  have k5 := Box.at h 5 _ rfl
  have k6 := Box.at h 6 _ rfl
  simp only [List.getElem_toArray, List.getElem_cons_zero, List.getElem_cons_succ] at k0 k1 k2 k3 k4 k5 k6
  have hgl := h.lt
  have HB0 := hide ((Below.refl w.heap.size w).alloc (Nat.le_refl _) (.cells #[.int .i64 0, .bool false, .int .i64 0, .int .i64 0, .slice none 0 0, .int .i64 0, .int .i64 0] 63))
  have hRD : Box 0 #[.int .i64 0, .bool false, .int .i64 0, .int .i64 0, .slice none 0 0, .int .i64 0, .int .i64 0] 63 (w.alloc (.cells #[.int .i64 0, .bool false, .int .i64 0, .int .i64 0, .slice none 0 0, .int .i64 0, .int .i64 0] 63)).drew w.heap.size := (newBox (Nat.zero_le _)).drew
  clear h
  go_enter Tryz.func177, Tryz.ntmps177
  go_wp2_with fail
  generalize w.alloc (.cells #[.int .i64 0, .bool false, .int .i64 0, .int .i64 0, .slice none 0 0, .int .i64 0, .int .i64 0] 63) = W0 at *
  refine wp_region_noPanic ?_
  refine wp_region_held_drew (S := fun w' => Below w.heap.size w w') (by kernel_rfl) (unhide HB0).drew (fun hHeld => ?_)
  generalize W0.drew = wD at hHeld hRD ⊢
  refine wpAnyH_take (i := 0) (oi := { dst := some 3, op := Go.Op.move (Go.Operand.tmp 0), type := 177, pos := "l09_node.go:148", after := #[], guard := none }) (v := ?vt0) rfl (by kernel_rfl) (by kernel_rfl) (by kernel_rfl) (fun _ _ _ h => h) (Or.inl ⟨by rfl, ?ht0⟩) hHeld ?rt0
  case ht0 =>
    intro wS hSw
    (try dsimp only at hSw)
    go_simp
    try with_reducible rfl
  case rt0 =>
  simp only [Act.put, List.setIfInBounds_toArray, List.set_cons_zero, List.set_cons_succ]
  refine wpAnyH_take (i := 1) (oi := { dst := some 4, op := Go.Op.nilCheck (Go.Operand.tmp 3), type := 0, pos := "l09_node.go:148", after := #[{ on := 0, ground := Go.Ground.data }], guard := none }) (v := ?vt1) rfl (by kernel_rfl) (by kernel_rfl) (by kernel_rfl) (fun _ _ _ h => h) (Or.inl ⟨by rfl, ?ht1⟩) hHeld ?rt1
  case ht1 =>
    intro wS hSw
    (try dsimp only at hSw)
    go_simp
    try with_reducible rfl
  case rt1 =>
  simp only [Act.put, List.setIfInBounds_toArray, List.set_cons_zero, List.set_cons_succ]
  refine wpAnyH_take (i := 2) (oi := { dst := some 5, op := Go.Op.fieldAddr 183 (Go.Operand.tmp 4) 1, type := 0, pos := "l09_node.go:148", after := #[{ on := 1, ground := Go.Ground.data }], guard := none }) (v := ?vt2) rfl (by kernel_rfl) (by kernel_rfl) (by kernel_rfl) (fun _ _ _ h => h) (Or.inl ⟨by rfl, ?ht2⟩) hHeld ?rt2
  case ht2 =>
    intro wS hSw
    (try dsimp only at hSw)
    go_simp
    try with_reducible rfl
  case rt2 =>
  simp only [Act.put, List.setIfInBounds_toArray, List.set_cons_zero, List.set_cons_succ]
  refine wpAnyH_take (i := 3) (oi := { dst := some 6, op := Go.Op.load 2 (Go.Operand.tmp 5), type := 2, pos := "l09_node.go:148", after := #[{ on := 2, ground := Go.Ground.data }], guard := none }) (v := ?vt3) rfl (by kernel_rfl) (by kernel_rfl) (by kernel_rfl) (fun _ _ _ h => h) (Or.inl ⟨by rfl, ?ht3⟩) hHeld ?rt3
  case ht3 =>
    intro wS hSw
    have y2 : wS.cell? ⟨g, 2, none⟩ = some (.int .i64 x.id) := (hSw.cell (p := ⟨g, 2, none⟩) hgl).trans k2
    clear hSw
    (try dsimp only at hSw)
    go_simp
    try with_reducible rfl
  case rt3 =>
  simp only [Act.put, List.setIfInBounds_toArray, List.set_cons_zero, List.set_cons_succ]
  refine wpAnyH_take (i := 4) (oi := { dst := some 7, op := Go.Op.move (Go.Operand.tmp 0), type := 177, pos := "l09_node.go:148", after := #[], guard := none }) (v := ?vt4) rfl (by kernel_rfl) (by kernel_rfl) (by kernel_rfl) (fun _ _ _ h => h) (Or.inl ⟨by rfl, ?ht4⟩) hHeld ?rt4
  case ht4 =>
    intro wS hSw
    (try dsimp only at hSw)
    go_simp
    try with_reducible rfl
  case rt4 =>
  simp only [Act.put, List.setIfInBounds_toArray, List.set_cons_zero, List.set_cons_succ]
  refine wpAnyH_take (i := 5) (oi := { dst := some 8, op := Go.Op.nilCheck (Go.Operand.tmp 7), type := 0, pos := "l09_node.go:148", after := #[{ on := 4, ground := Go.Ground.data }], guard := none }) (v := ?vt5) rfl (by kernel_rfl) (by kernel_rfl) (by kernel_rfl) (fun _ _ _ h => h) (Or.inl ⟨by rfl, ?ht5⟩) hHeld ?rt5
  case ht5 =>
    intro wS hSw
    (try dsimp only at hSw)
    go_simp
    try with_reducible rfl
  case rt5 =>
  simp only [Act.put, List.setIfInBounds_toArray, List.set_cons_zero, List.set_cons_succ]
  refine wpAnyH_take (i := 6) (oi := { dst := some 9, op := Go.Op.fieldAddr 183 (Go.Operand.tmp 8) 2, type := 0, pos := "l09_node.go:148", after := #[{ on := 5, ground := Go.Ground.data }], guard := none }) (v := ?vt6) rfl (by kernel_rfl) (by kernel_rfl) (by kernel_rfl) (fun _ _ _ h => h) (Or.inl ⟨by rfl, ?ht6⟩) hHeld ?rt6
  case ht6 =>
    intro wS hSw
    (try dsimp only at hSw)
    go_simp
    try with_reducible rfl
  case rt6 =>
  simp only [Act.put, List.setIfInBounds_toArray, List.set_cons_zero, List.set_cons_succ]
  refine wpAnyH_take (i := 7) (oi := { dst := some 10, op := Go.Op.load 4 (Go.Operand.tmp 9), type := 4, pos := "l09_node.go:148", after := #[{ on := 6, ground := Go.Ground.data }], guard := none }) (v := ?vt7) rfl (by kernel_rfl) (by kernel_rfl) (by kernel_rfl) (fun _ _ _ h => h) (Or.inl ⟨by rfl, ?ht7⟩) hHeld ?rt7
  case ht7 =>
    intro wS hSw
    have y3 : wS.cell? ⟨g, 3, none⟩ = some (.bool x.up) := (hSw.cell (p := ⟨g, 3, none⟩) hgl).trans k3
    clear hSw
    (try dsimp only at hSw)
    go_simp
    try with_reducible rfl
  case rt7 =>
  simp only [Act.put, List.setIfInBounds_toArray, List.set_cons_zero, List.set_cons_succ]
  refine wpAnyH_take (i := 8) (oi := { dst := some 11, op := Go.Op.move (Go.Operand.tmp 0), type := 177, pos := "l09_node.go:148", after := #[], guard := none }) (v := ?vt8) rfl (by kernel_rfl) (by kernel_rfl) (by kernel_rfl) (fun _ _ _ h => h) (Or.inl ⟨by rfl, ?ht8⟩) hHeld ?rt8
  case ht8 =>
    intro wS hSw
    (try dsimp only at hSw)
    go_simp
    try with_reducible rfl
  case rt8 =>
  simp only [Act.put, List.setIfInBounds_toArray, List.set_cons_zero, List.set_cons_succ]
  refine wpAnyH_take (i := 9) (oi := { dst := some 12, op := Go.Op.nilCheck (Go.Operand.tmp 11), type := 0, pos := "l09_node.go:148", after := #[{ on := 8, ground := Go.Ground.data }], guard := none }) (v := ?vt9) rfl (by kernel_rfl) (by kernel_rfl) (by kernel_rfl) (fun _ _ _ h => h) (Or.inl ⟨by rfl, ?ht9⟩) hHeld ?rt9
  case ht9 =>
    intro wS hSw
    (try dsimp only at hSw)
    go_simp
    try with_reducible rfl
  case rt9 =>
  simp only [Act.put, List.setIfInBounds_toArray, List.set_cons_zero, List.set_cons_succ]
  refine wpAnyH_take (i := 10) (oi := { dst := some 13, op := Go.Op.fieldAddr 183 (Go.Operand.tmp 12) 3, type := 0, pos := "l09_node.go:148", after := #[{ on := 9, ground := Go.Ground.data }], guard := none }) (v := ?vt10) rfl (by kernel_rfl) (by kernel_rfl) (by kernel_rfl) (fun _ _ _ h => h) (Or.inl ⟨by rfl, ?ht10⟩) hHeld ?rt10
  case ht10 =>
    intro wS hSw
    (try dsimp only at hSw)
    go_simp
    try with_reducible rfl
  case rt10 =>
  simp only [Act.put, List.setIfInBounds_toArray, List.set_cons_zero, List.set_cons_succ]
  refine wpAnyH_take (i := 11) (oi := { dst := some 14, op := Go.Op.load 2 (Go.Operand.tmp 13), type := 2, pos := "l09_node.go:148", after := #[{ on := 10, ground := Go.Ground.data }], guard := none }) (v := ?vt11) rfl (by kernel_rfl) (by kernel_rfl) (by kernel_rfl) (fun _ _ _ h => h) (Or.inl ⟨by rfl, ?ht11⟩) hHeld ?rt11
  case ht11 =>
    intro wS hSw
    have y4 : wS.cell? ⟨g, 4, none⟩ = some (.int .i64 x.epoch) := (hSw.cell (p := ⟨g, 4, none⟩) hgl).trans k4
    clear hSw
    (try dsimp only at hSw)
    go_simp
    try with_reducible rfl
  case rt11 =>
  simp only [Act.put, List.setIfInBounds_toArray, List.set_cons_zero, List.set_cons_succ]
  refine wpAnyH_take (i := 12) (oi := { dst := some 15, op := Go.Op.move (Go.Operand.tmp 0), type := 177, pos := "l09_node.go:148", after := #[], guard := none }) (v := ?vt12) rfl (by kernel_rfl) (by kernel_rfl) (by kernel_rfl) (fun _ _ _ h => h) (Or.inl ⟨by rfl, ?ht12⟩) hHeld ?rt12
  case ht12 =>
    intro wS hSw
    (try dsimp only at hSw)
    go_simp
    try with_reducible rfl
  case rt12 =>
  simp only [Act.put, List.setIfInBounds_toArray, List.set_cons_zero, List.set_cons_succ]
  refine wpAnyH_take (i := 13) (oi := { dst := some 16, op := Go.Op.nilCheck (Go.Operand.tmp 15), type := 0, pos := "l09_node.go:148", after := #[{ on := 12, ground := Go.Ground.data }], guard := none }) (v := ?vt13) rfl (by kernel_rfl) (by kernel_rfl) (by kernel_rfl) (fun _ _ _ h => h) (Or.inl ⟨by rfl, ?ht13⟩) hHeld ?rt13
  case ht13 =>
    intro wS hSw
    (try dsimp only at hSw)
    go_simp
    try with_reducible rfl
  case rt13 =>
  simp only [Act.put, List.setIfInBounds_toArray, List.set_cons_zero, List.set_cons_succ]
  refine wpAnyH_take (i := 14) (oi := { dst := some 17, op := Go.Op.fieldAddr 183 (Go.Operand.tmp 16) 4, type := 0, pos := "l09_node.go:148", after := #[{ on := 13, ground := Go.Ground.data }], guard := none }) (v := ?vt14) rfl (by kernel_rfl) (by kernel_rfl) (by kernel_rfl) (fun _ _ _ h => h) (Or.inl ⟨by rfl, ?ht14⟩) hHeld ?rt14
  case ht14 =>
    intro wS hSw
    (try dsimp only at hSw)
    go_simp
    try with_reducible rfl
  case rt14 =>
  simp only [Act.put, List.setIfInBounds_toArray, List.set_cons_zero, List.set_cons_succ]
  refine wpAnyH_take (i := 15) (oi := { dst := some 18, op := Go.Op.load 2 (Go.Operand.tmp 17), type := 2, pos := "l09_node.go:148", after := #[{ on := 14, ground := Go.Ground.data }], guard := none }) (v := ?vt15) rfl (by kernel_rfl) (by kernel_rfl) (by kernel_rfl) (fun _ _ _ h => h) (Or.inl ⟨by rfl, ?ht15⟩) hHeld ?rt15
  case ht15 =>
    intro wS hSw
    have y5 : wS.cell? ⟨g, 5, none⟩ = some (.int .i64 x.lease) := (hSw.cell (p := ⟨g, 5, none⟩) hgl).trans k5
    clear hSw
    (try dsimp only at hSw)
    go_simp
    try with_reducible rfl
  case rt15 =>
  simp only [Act.put, List.setIfInBounds_toArray, List.set_cons_zero, List.set_cons_succ]
  refine wpAnyH_take (i := 16) (oi := { dst := some 19, op := Go.Op.move (Go.Operand.tmp 0), type := 177, pos := "l09_node.go:148", after := #[], guard := none }) (v := ?vt16) rfl (by kernel_rfl) (by kernel_rfl) (by kernel_rfl) (fun _ _ _ h => h) (Or.inl ⟨by rfl, ?ht16⟩) hHeld ?rt16
  case ht16 =>
    intro wS hSw
    (try dsimp only at hSw)
    go_simp
    try with_reducible rfl
  case rt16 =>
  simp only [Act.put, List.setIfInBounds_toArray, List.set_cons_zero, List.set_cons_succ]
  refine wpAnyH_take (i := 17) (oi := { dst := some 20, op := Go.Op.nilCheck (Go.Operand.tmp 19), type := 0, pos := "l09_node.go:148", after := #[{ on := 16, ground := Go.Ground.data }], guard := none }) (v := ?vt17) rfl (by kernel_rfl) (by kernel_rfl) (by kernel_rfl) (fun _ _ _ h => h) (Or.inl ⟨by rfl, ?ht17⟩) hHeld ?rt17
  case ht17 =>
    intro wS hSw
    (try dsimp only at hSw)
    go_simp
    try with_reducible rfl
  case rt17 =>
  simp only [Act.put, List.setIfInBounds_toArray, List.set_cons_zero, List.set_cons_succ]
  refine wpAnyH_take (i := 18) (oi := { dst := some 21, op := Go.Op.fieldAddr 183 (Go.Operand.tmp 20) 0, type := 0, pos := "l09_node.go:148", after := #[{ on := 17, ground := Go.Ground.data }], guard := none }) (v := ?vt18) rfl (by kernel_rfl) (by kernel_rfl) (by kernel_rfl) (fun _ _ _ h => h) (Or.inl ⟨by rfl, ?ht18⟩) hHeld ?rt18
  case ht18 =>
    intro wS hSw
    (try dsimp only at hSw)
    go_simp
    try with_reducible rfl
  case rt18 =>
  simp only [Act.put, List.setIfInBounds_toArray, List.set_cons_zero, List.set_cons_succ]
  refine wpAnyH_take (i := 19) (oi := { dst := some 22, op := Go.Op.fieldAddr 181 (Go.Operand.tmp 21) 0, type := 0, pos := "l09_node.go:148", after := #[{ on := 18, ground := Go.Ground.data }], guard := none }) (v := ?vt19) rfl (by kernel_rfl) (by kernel_rfl) (by kernel_rfl) (fun _ _ _ h => h) (Or.inl ⟨by rfl, ?ht19⟩) hHeld ?rt19
  case ht19 =>
    intro wS hSw
    (try dsimp only at hSw)
    go_simp
    try with_reducible rfl
  case rt19 =>
  simp only [Act.put, List.setIfInBounds_toArray, List.set_cons_zero, List.set_cons_succ]
  refine wpAnyH_take (i := 20) (oi := { dst := some 23, op := Go.Op.load 61 (Go.Operand.tmp 22), type := 61, pos := "l09_node.go:148", after := #[{ on := 19, ground := Go.Ground.data }], guard := none }) (v := ?vt20) rfl (by kernel_rfl) (by kernel_rfl) (by kernel_rfl) (fun _ _ _ h => h) (Or.inl ⟨by rfl, ?ht20⟩) hHeld ?rt20
  case ht20 =>
    intro wS hSw
    have y0 : wS.cell? ⟨g, 0, none⟩ = some (.slice a n c) := (hSw.cell (p := ⟨g, 0, none⟩) hgl).trans k0
    clear hSw
    (try dsimp only at hSw)
    go_simp
    try with_reducible rfl
  case rt20 =>
  simp only [Act.put, List.setIfInBounds_toArray, List.set_cons_zero, List.set_cons_succ]
  refine wpAnyH_take (i := 21) (oi := { dst := some 24, op := Go.Op.move (Go.Operand.tmp 0), type := 177, pos := "l09_node.go:148", after := #[], guard := none }) (v := ?vt21) rfl (by kernel_rfl) (by kernel_rfl) (by kernel_rfl) (fun _ _ _ h => h) (Or.inl ⟨by rfl, ?ht21⟩) hHeld ?rt21
  case ht21 =>
    intro wS hSw
    (try dsimp only at hSw)
    go_simp
    try with_reducible rfl
  case rt21 =>
  simp only [Act.put, List.setIfInBounds_toArray, List.set_cons_zero, List.set_cons_succ]
  refine wpAnyH_take (i := 22) (oi := { dst := some 25, op := Go.Op.nilCheck (Go.Operand.tmp 24), type := 0, pos := "l09_node.go:148", after := #[{ on := 21, ground := Go.Ground.data }], guard := none }) (v := ?vt22) rfl (by kernel_rfl) (by kernel_rfl) (by kernel_rfl) (fun _ _ _ h => h) (Or.inl ⟨by rfl, ?ht22⟩) hHeld ?rt22
  case ht22 =>
    intro wS hSw
    (try dsimp only at hSw)
    go_simp
    try with_reducible rfl
  case rt22 =>
  simp only [Act.put, List.setIfInBounds_toArray, List.set_cons_zero, List.set_cons_succ]
  refine wpAnyH_take (i := 23) (oi := { dst := some 26, op := Go.Op.fieldAddr 183 (Go.Operand.tmp 25) 0, type := 0, pos := "l09_node.go:148", after := #[{ on := 22, ground := Go.Ground.data }], guard := none }) (v := ?vt23) rfl (by kernel_rfl) (by kernel_rfl) (by kernel_rfl) (fun _ _ _ h => h) (Or.inl ⟨by rfl, ?ht23⟩) hHeld ?rt23
  case ht23 =>
    intro wS hSw
    (try dsimp only at hSw)
    go_simp
    try with_reducible rfl
  case rt23 =>
  simp only [Act.put, List.setIfInBounds_toArray, List.set_cons_zero, List.set_cons_succ]
  refine wpAnyH_take (i := 24) (oi := { dst := some 27, op := Go.Op.fieldAddr 181 (Go.Operand.tmp 26) 1, type := 0, pos := "l09_node.go:148", after := #[{ on := 23, ground := Go.Ground.data }], guard := none }) (v := ?vt24) rfl (by kernel_rfl) (by kernel_rfl) (by kernel_rfl) (fun _ _ _ h => h) (Or.inl ⟨by rfl, ?ht24⟩) hHeld ?rt24
  case ht24 =>
    intro wS hSw
    (try dsimp only at hSw)
    go_simp
    try with_reducible rfl
  case rt24 =>
  simp only [Act.put, List.setIfInBounds_toArray, List.set_cons_zero, List.set_cons_succ]
  refine wpAnyH_take (i := 25) (oi := { dst := some 28, op := Go.Op.load 2 (Go.Operand.tmp 27), type := 2, pos := "l09_node.go:148", after := #[{ on := 24, ground := Go.Ground.data }], guard := none }) (v := ?vt25) rfl (by kernel_rfl) (by kernel_rfl) (by kernel_rfl) (fun _ _ _ h => h) (Or.inl ⟨by rfl, ?ht25⟩) hHeld ?rt25
  case ht25 =>
    intro wS hSw
    have y1 : wS.cell? ⟨g, 1, none⟩ = some (.int .i64 x.sure) := (hSw.cell (p := ⟨g, 1, none⟩) hgl).trans k1
    clear hSw
    (try dsimp only at hSw)
    go_simp
    try with_reducible rfl
  case rt25 =>
  simp only [Act.put, List.setIfInBounds_toArray, List.set_cons_zero, List.set_cons_succ]
  refine wpAnyH_take (i := 26) (oi := { dst := some 29, op := Go.Op.move (Go.Operand.tmp 0), type := 177, pos := "l09_node.go:148", after := #[], guard := none }) (v := ?vt26) rfl (by kernel_rfl) (by kernel_rfl) (by kernel_rfl) (fun _ _ _ h => h) (Or.inl ⟨by rfl, ?ht26⟩) hHeld ?rt26
  case ht26 =>
    intro wS hSw
    (try dsimp only at hSw)
    go_simp
    try with_reducible rfl
  case rt26 =>
  simp only [Act.put, List.setIfInBounds_toArray, List.set_cons_zero, List.set_cons_succ]
  refine wpAnyH_take (i := 27) (oi := { dst := some 30, op := Go.Op.nilCheck (Go.Operand.tmp 29), type := 0, pos := "l09_node.go:148", after := #[{ on := 26, ground := Go.Ground.data }], guard := none }) (v := ?vt27) rfl (by kernel_rfl) (by kernel_rfl) (by kernel_rfl) (fun _ _ _ h => h) (Or.inl ⟨by rfl, ?ht27⟩) hHeld ?rt27
  case ht27 =>
    intro wS hSw
    (try dsimp only at hSw)
    go_simp
    try with_reducible rfl
  case rt27 =>
  simp only [Act.put, List.setIfInBounds_toArray, List.set_cons_zero, List.set_cons_succ]
  refine wpAnyH_take (i := 28) (oi := { dst := some 31, op := Go.Op.fieldAddr 183 (Go.Operand.tmp 30) 5, type := 0, pos := "l09_node.go:148", after := #[{ on := 27, ground := Go.Ground.data }], guard := none }) (v := ?vt28) rfl (by kernel_rfl) (by kernel_rfl) (by kernel_rfl) (fun _ _ _ h => h) (Or.inl ⟨by rfl, ?ht28⟩) hHeld ?rt28
  case ht28 =>
    intro wS hSw
    (try dsimp only at hSw)
    go_simp
    try with_reducible rfl
  case rt28 =>
  simp only [Act.put, List.setIfInBounds_toArray, List.set_cons_zero, List.set_cons_succ]
  refine wpAnyH_take (i := 29) (oi := { dst := some 32, op := Go.Op.load 2 (Go.Operand.tmp 31), type := 2, pos := "l09_node.go:148", after := #[{ on := 28, ground := Go.Ground.data }], guard := none }) (v := ?vt29) rfl (by kernel_rfl) (by kernel_rfl) (by kernel_rfl) (fun _ _ _ h => h) (Or.inl ⟨by rfl, ?ht29⟩) hHeld ?rt29
  case ht29 =>
    intro wS hSw
    have y6 : wS.cell? ⟨g, 6, none⟩ = some (.int .i64 x.clean) := (hSw.cell (p := ⟨g, 6, none⟩) hgl).trans k6
    clear hSw
    (try dsimp only at hSw)
    go_simp
    try with_reducible rfl
  case rt29 =>
  simp only [Act.put, List.setIfInBounds_toArray, List.set_cons_zero, List.set_cons_succ]
  refine wpAnyH_take (i := 30) (oi := { dst := some 33, op := Go.Op.build 63 #[(0, Go.Operand.tmp 6), (1, Go.Operand.tmp 10), (2, Go.Operand.tmp 14), (3, Go.Operand.tmp 18), (4, Go.Operand.tmp 23), (5, Go.Operand.tmp 28), (6, Go.Operand.tmp 32)], type := 63, pos := "l09_node.go:148", after := #[{ on := 3, ground := Go.Ground.data }, { on := 7, ground := Go.Ground.data }, { on := 11, ground := Go.Ground.data }, { on := 15, ground := Go.Ground.data }, { on := 20, ground := Go.Ground.data }, { on := 25, ground := Go.Ground.data }, { on := 29, ground := Go.Ground.data }], guard := none }) (v := ?vt30) rfl (by kernel_rfl) (by kernel_rfl) (by kernel_rfl) (fun _ _ _ h => h) (Or.inl ⟨by rfl, ?ht30⟩) hHeld ?rt30
  case ht30 =>
    intro wS hSw
    (try dsimp only at hSw)
    go_simp
    try with_reducible rfl
  case rt30 =>
  simp only [Act.put, List.setIfInBounds_toArray, List.set_cons_zero, List.set_cons_succ]
  refine wpAnyH_ready (rs := [31]) (by kernel_rfl) (by simp) ?_
  refine AllReadyH.cons (o := { dst := none, op := Go.Op.store 63 (Go.Operand.tmp 2) (Go.Operand.tmp 33), type := 0, pos := "l09_node.go:148", after := #[{ on := 30, ground := Go.Ground.data }, { on := 0, ground := Go.Ground.phase }, { on := 1, ground := Go.Ground.phase }, { on := 2, ground := Go.Ground.phase }, { on := 3, ground := Go.Ground.phase }, { on := 4, ground := Go.Ground.phase }, { on := 5, ground := Go.Ground.phase }, { on := 6, ground := Go.Ground.phase }, { on := 7, ground := Go.Ground.phase }, { on := 8, ground := Go.Ground.phase }, { on := 9, ground := Go.Ground.phase }, { on := 10, ground := Go.Ground.phase }, { on := 11, ground := Go.Ground.phase }, { on := 12, ground := Go.Ground.phase }, { on := 13, ground := Go.Ground.phase }, { on := 14, ground := Go.Ground.phase }, { on := 15, ground := Go.Ground.phase }, { on := 16, ground := Go.Ground.phase }, { on := 17, ground := Go.Ground.phase }, { on := 18, ground := Go.Ground.phase }, { on := 19, ground := Go.Ground.phase }, { on := 20, ground := Go.Ground.phase }, { on := 21, ground := Go.Ground.phase }, { on := 22, ground := Go.Ground.phase }, { on := 23, ground := Go.Ground.phase }, { on := 24, ground := Go.Ground.phase }, { on := 25, ground := Go.Ground.phase }, { on := 26, ground := Go.Ground.phase }, { on := 27, ground := Go.Ground.phase }, { on := 28, ground := Go.Ground.phase }, { on := 29, ground := Go.Ground.phase }, { on := 30, ground := Go.Ground.phase }], guard := none }) rfl (fun K hK => ?_) AllReadyH.nil
  have z0 := Box.at hRD 0 _ rfl
  have z1 := Box.at hRD 1 _ rfl
  have z2 := Box.at hRD 2 _ rfl
  have z3 := Box.at hRD 3 _ rfl
  have z4 := Box.at hRD 4 _ rfl
  have z5 := Box.at hRD 5 _ rfl
  have z6 := Box.at hRD 6 _ rfl
  simp only [List.getElem_toArray, List.getElem_cons_zero, List.getElem_cons_succ] at z0 z1 z2 z3 z4 z5 z6
  have ff := Box.soft hRD
  have l0 := Box.lt hRD
  go_simp
  try go_wp2_with fail
  refine hK.out _ _ (below_setAll hHeld w.heap.size 0 [.int .i64 x.id, .bool x.up, .int .i64 x.epoch, .int .i64 x.lease, .slice a n c, .int .i64 x.sure, .int .i64 x.clean] (Nat.le_refl _)) (fun hHeld => ?_)
  clear hK K
  try simp only [Act.put, List.setIfInBounds_toArray, List.set_cons_zero, List.set_cons_succ]
  refine wpAnyH_done (by kernel_rfl) ?_ _
  refine NoPanic.normal ?_
  have HB9 := hide (hHeld)
  clear hHeld
  go_wp2_with fail
  refine bodyPost_ret (v := .agg #[.int .i64 x.id, .bool x.up, .int .i64 x.epoch, .int .i64 x.lease, .slice a n c, .int .i64 x.sure, .int .i64 x.clean]) (by simp [results, Tryz.results177, go_sem, z0, z1, z2, z3, z4, z5, z6]) rfl ?_
  exact ⟨rfl, unhide HB9⟩
set_option maxRecDepth 10000 in
set_option maxHeartbeats 2000000 in
theorem tearC (g gw n s k t : Nat) (x : DNode) (w : World) (h : HeldAt w g (.slice (some ⟨gw, 0, none⟩) n n) ⟨x.id, x.up, x.epoch, x.lease, x.writes, (s : Int), x.clean⟩) (h1 : t ≤ s + k) (h2 : s + k ≤ t) (hk : t ≤ n) (hn : n ≤ 1000) :
    Calls Tryz.prog 222 #[.pointer (some ⟨g, 0, none⟩), .int .i64 (k : Int)] w fun e w' => e = .returned (.tuple #[]) ∧ HeldAt w' g (.slice (some ⟨gw, 0, none⟩) t n) ⟨x.id, x.up, x.epoch, x.lease, x.writes, (t : Int), x.clean⟩ ∧ Ext (fun q => q = g) w w' := by
  have hHD : HeldAt w.drew g (.slice (some ⟨gw, 0, none⟩) n n) ⟨x.id, x.up, x.epoch, x.lease, x.writes, (s : Int), x.clean⟩ := h
  have k0 := Box.at hHD 0 _ rfl
  have k1 := Box.at hHD 1 _ rfl
  have k6 := Box.at hHD 6 _ rfl
  have kf := Box.soft hHD
  have kl := Box.lt hHD
  simp only [List.getElem_toArray, List.getElem_cons_zero, List.getElem_cons_succ] at k0 k1 k6
  clear h
  go_enter Tryz.func222, Tryz.ntmps222
  go_wp2_with fail
  refine wp_region_noPanic ?_
  refine wp_region_held_drew (S := fun w' => Ext (fun q => q = g) w w') (by kernel_rfl) ((Ext.refl _ _).drew 1) (fun hHeld => ?_)
  generalize w.drew = wD at hHeld k0 k1 k6 kf kl hHD ⊢
  refine wpAnyH_take (i := 0) (oi := { dst := some 4, op := Go.Op.move (Go.Operand.tmp 0), type := 222, pos := "l09_node.go:60", after := #[], guard := none }) (v := ?vr0_1) rfl (by kernel_rfl) (by kernel_rfl) (by kernel_rfl) (fun _ _ _ h => h) (Or.inl ⟨by rfl, ?hr0_1⟩) hHeld ?rr0_1
  case hr0_1 =>
    intro wS hSw
    (try dsimp only at hSw)
    go_simp
    try with_reducible rfl
  case rr0_1 =>
  simp only [Act.put, List.setIfInBounds_toArray, List.set_cons_zero, List.set_cons_succ]
  refine wpAnyH_take (i := 1) (oi := { dst := some 5, op := Go.Op.move (Go.Operand.tmp 0), type := 222, pos := "l09_node.go:60", after := #[], guard := none }) (v := ?vr1_2) rfl (by kernel_rfl) (by kernel_rfl) (by kernel_rfl) (fun _ _ _ h => h) (Or.inl ⟨by rfl, ?hr1_2⟩) hHeld ?rr1_2
  case hr1_2 =>
    intro wS hSw
    (try dsimp only at hSw)
    go_simp
    try with_reducible rfl
  case rr1_2 =>
  simp only [Act.put, List.setIfInBounds_toArray, List.set_cons_zero, List.set_cons_succ]
  refine wpAnyH_take (i := 2) (oi := { dst := some 6, op := Go.Op.nilCheck (Go.Operand.tmp 5), type := 0, pos := "l09_node.go:60", after := #[{ on := 1, ground := Go.Ground.data }], guard := none }) (v := ?vr2_3) rfl (by kernel_rfl) (by kernel_rfl) (by kernel_rfl) (fun _ _ _ h => h) (Or.inl ⟨by rfl, ?hr2_3⟩) hHeld ?rr2_3
  case hr2_3 =>
    intro wS hSw
    (try dsimp only at hSw)
    go_simp
    try with_reducible rfl
  case rr2_3 =>
  simp only [Act.put, List.setIfInBounds_toArray, List.set_cons_zero, List.set_cons_succ]
  refine wpAnyH_take (i := 3) (oi := { dst := some 7, op := Go.Op.fieldAddr 181 (Go.Operand.tmp 6) 0, type := 0, pos := "l09_node.go:60", after := #[{ on := 2, ground := Go.Ground.data }], guard := none }) (v := ?vr3_4) rfl (by kernel_rfl) (by kernel_rfl) (by kernel_rfl) (fun _ _ _ h => h) (Or.inl ⟨by rfl, ?hr3_4⟩) hHeld ?rr3_4
  case hr3_4 =>
    intro wS hSw
    (try dsimp only at hSw)
    go_simp
    try with_reducible rfl
  case rr3_4 =>
  simp only [Act.put, List.setIfInBounds_toArray, List.set_cons_zero, List.set_cons_succ]
  refine wpAnyH_take (i := 5) (oi := { dst := some 9, op := Go.Op.move (Go.Operand.tmp 0), type := 222, pos := "l09_node.go:60", after := #[], guard := none }) (v := ?vr5_5) rfl (by kernel_rfl) (by kernel_rfl) (by kernel_rfl) (fun _ _ _ h => h) (Or.inl ⟨by rfl, ?hr5_5⟩) hHeld ?rr5_5
  case hr5_5 =>
    intro wS hSw
    (try dsimp only at hSw)
    go_simp
    try with_reducible rfl
  case rr5_5 =>
  simp only [Act.put, List.setIfInBounds_toArray, List.set_cons_zero, List.set_cons_succ]
  refine wpAnyH_take (i := 6) (oi := { dst := some 10, op := Go.Op.nilCheck (Go.Operand.tmp 9), type := 0, pos := "l09_node.go:60", after := #[{ on := 5, ground := Go.Ground.data }], guard := none }) (v := ?vr6_6) rfl (by kernel_rfl) (by kernel_rfl) (by kernel_rfl) (fun _ _ _ h => h) (Or.inl ⟨by rfl, ?hr6_6⟩) hHeld ?rr6_6
  case hr6_6 =>
    intro wS hSw
    (try dsimp only at hSw)
    go_simp
    try with_reducible rfl
  case rr6_6 =>
  simp only [Act.put, List.setIfInBounds_toArray, List.set_cons_zero, List.set_cons_succ]
  refine wpAnyH_take (i := 7) (oi := { dst := some 11, op := Go.Op.fieldAddr 181 (Go.Operand.tmp 10) 1, type := 0, pos := "l09_node.go:60", after := #[{ on := 6, ground := Go.Ground.data }], guard := none }) (v := ?vr7_7) rfl (by kernel_rfl) (by kernel_rfl) (by kernel_rfl) (fun _ _ _ h => h) (Or.inl ⟨by rfl, ?hr7_7⟩) hHeld ?rr7_7
  case hr7_7 =>
    intro wS hSw
    (try dsimp only at hSw)
    go_simp
    try with_reducible rfl
  case rr7_7 =>
  simp only [Act.put, List.setIfInBounds_toArray, List.set_cons_zero, List.set_cons_succ]
  refine wpAnyH_take (i := 9) (oi := { dst := some 13, op := Go.Op.move (Go.Operand.tmp 1), type := 2, pos := "l09_node.go:60", after := #[], guard := none }) (v := ?vr9_8) rfl (by kernel_rfl) (by kernel_rfl) (by kernel_rfl) (fun _ _ _ h => h) (Or.inl ⟨by rfl, ?hr9_8⟩) hHeld ?rr9_8
  case hr9_8 =>
    intro wS hSw
    (try dsimp only at hSw)
    go_simp
    try with_reducible rfl
  case rr9_8 =>
  simp only [Act.put, List.setIfInBounds_toArray, List.set_cons_zero, List.set_cons_succ]
  refine wpAnyH_ready (rs := [4, 8]) (by kernel_rfl) (by simp) ?_
  refine AllReadyH.cons (o := { dst := some 8, op := Go.Op.load 61 (Go.Operand.tmp 7), type := 61, pos := "l09_node.go:60", after := #[{ on := 3, ground := Go.Ground.data }], guard := none }) rfl (fun K hK => ?or4_9) (AllReadyH.cons (o := { dst := some 12, op := Go.Op.load 2 (Go.Operand.tmp 11), type := 2, pos := "l09_node.go:60", after := #[{ on := 7, ground := Go.Ground.data }], guard := none }) rfl (fun K hK => ?or8_9) (AllReadyH.nil))
  case or4_9 =>
    go_simp
    refine hK.out _ _ hHeld (fun hHeld => ?_)
    clear hK K
    try simp only [Act.put, List.setIfInBounds_toArray, List.set_cons_zero, List.set_cons_succ]
    refine wpAnyH_ready (rs := [8]) (by kernel_rfl) (by simp) ?_
    refine AllReadyH.cons (o := { dst := some 12, op := Go.Op.load 2 (Go.Operand.tmp 11), type := 2, pos := "l09_node.go:60", after := #[{ on := 7, ground := Go.Ground.data }], guard := none }) rfl (fun K hK => ?_) AllReadyH.nil
    go_simp
    refine hK.out _ _ hHeld (fun hHeld => ?_)
    clear hK K
    try simp only [Act.put, List.setIfInBounds_toArray, List.set_cons_zero, List.set_cons_succ]
    refine wpAnyH_take (i := 10) (oi := { dst := some 14, op := Go.Op.binOp Go.BinOp.add 2 (Go.Operand.tmp 12) (Go.Operand.tmp 13) 2, type := 2, pos := "l09_node.go:60", after := #[{ on := 8, ground := Go.Ground.data }, { on := 9, ground := Go.Ground.data }], guard := none }) (v := ?vr10_10) rfl (by kernel_rfl) (by kernel_rfl) (by kernel_rfl) (fun _ _ _ h => h) (Or.inl ⟨by rfl, ?hr10_10⟩) hHeld ?rr10_10
    case hr10_10 =>
      intro wS hSw
      have hst : (s : Int) + (k : Int) = (t : Int) := by omega
      have hwr : IntKind.i64.wrap (t : Int) = (t : Int) := by rw [IntKind.wrap_i64]; omega
      (try dsimp only at hSw)
      go_simp
      try with_reducible rfl
    case rr10_10 =>
    simp only [Act.put, List.setIfInBounds_toArray, List.set_cons_zero, List.set_cons_succ]
    refine wpAnyH_take (i := 11) (oi := { dst := some 15, op := Go.Op.slice 61 (Go.Operand.tmp 8) none (some (Go.Operand.tmp 14)) none, type := 61, pos := "l09_node.go:60", after := #[{ on := 4, ground := Go.Ground.data }, { on := 10, ground := Go.Ground.data }], guard := none }) (v := ?vr11_11) rfl (by kernel_rfl) (by kernel_rfl) (by kernel_rfl) (fun _ _ _ h => h) (Or.inl ⟨by rfl, ?hr11_11⟩) hHeld ?rr11_11
    case hr11_11 =>
      intro wS hSw
      have hst : (s : Int) + (k : Int) = (t : Int) := by omega
      have hwr : IntKind.i64.wrap (t : Int) = (t : Int) := by rw [IntKind.wrap_i64]; omega
      (try dsimp only at hSw)
      go_simp
      try with_reducible rfl
    case rr11_11 =>
    simp only [Act.put, List.setIfInBounds_toArray, List.set_cons_zero, List.set_cons_succ]
    refine wpAnyH_take (i := 12) (oi := { dst := some 16, op := Go.Op.nilCheck (Go.Operand.tmp 4), type := 0, pos := "l09_node.go:60", after := #[{ on := 0, ground := Go.Ground.data }, { on := 0, ground := Go.Ground.phase }, { on := 1, ground := Go.Ground.phase }, { on := 2, ground := Go.Ground.phase }, { on := 3, ground := Go.Ground.phase }, { on := 4, ground := Go.Ground.phase }, { on := 5, ground := Go.Ground.phase }, { on := 6, ground := Go.Ground.phase }, { on := 7, ground := Go.Ground.phase }, { on := 8, ground := Go.Ground.phase }, { on := 9, ground := Go.Ground.phase }, { on := 10, ground := Go.Ground.phase }, { on := 11, ground := Go.Ground.phase }], guard := none }) (v := ?vr12_12) rfl (by kernel_rfl) (by kernel_rfl) (by kernel_rfl) (fun _ _ _ h => h) (Or.inl ⟨by rfl, ?hr12_12⟩) hHeld ?rr12_12
    case hr12_12 =>
      intro wS hSw
      (try dsimp only at hSw)
      go_simp
      try with_reducible rfl
    case rr12_12 =>
    simp only [Act.put, List.setIfInBounds_toArray, List.set_cons_zero, List.set_cons_succ]
    refine wpAnyH_take (i := 13) (oi := { dst := some 17, op := Go.Op.fieldAddr 181 (Go.Operand.tmp 16) 0, type := 0, pos := "l09_node.go:60", after := #[{ on := 12, ground := Go.Ground.data }, { on := 0, ground := Go.Ground.phase }, { on := 1, ground := Go.Ground.phase }, { on := 2, ground := Go.Ground.phase }, { on := 3, ground := Go.Ground.phase }, { on := 4, ground := Go.Ground.phase }, { on := 5, ground := Go.Ground.phase }, { on := 6, ground := Go.Ground.phase }, { on := 7, ground := Go.Ground.phase }, { on := 8, ground := Go.Ground.phase }, { on := 9, ground := Go.Ground.phase }, { on := 10, ground := Go.Ground.phase }, { on := 11, ground := Go.Ground.phase }], guard := none }) (v := ?vr13_13) rfl (by kernel_rfl) (by kernel_rfl) (by kernel_rfl) (fun _ _ _ h => h) (Or.inl ⟨by rfl, ?hr13_13⟩) hHeld ?rr13_13
    case hr13_13 =>
      intro wS hSw
      (try dsimp only at hSw)
      go_simp
      try with_reducible rfl
    case rr13_13 =>
    simp only [Act.put, List.setIfInBounds_toArray, List.set_cons_zero, List.set_cons_succ]
    refine wpAnyH_ready (rs := [14]) (by kernel_rfl) (by simp) ?_
    refine AllReadyH.cons (o := { dst := none, op := Go.Op.store 61 (Go.Operand.tmp 17) (Go.Operand.tmp 15), type := 0, pos := "l09_node.go:60", after := #[{ on := 13, ground := Go.Ground.data }, { on := 11, ground := Go.Ground.data }, { on := 0, ground := Go.Ground.phase }, { on := 1, ground := Go.Ground.phase }, { on := 2, ground := Go.Ground.phase }, { on := 3, ground := Go.Ground.phase }, { on := 4, ground := Go.Ground.phase }, { on := 5, ground := Go.Ground.phase }, { on := 6, ground := Go.Ground.phase }, { on := 7, ground := Go.Ground.phase }, { on := 8, ground := Go.Ground.phase }, { on := 9, ground := Go.Ground.phase }, { on := 10, ground := Go.Ground.phase }, { on := 11, ground := Go.Ground.phase }], guard := none }) rfl (fun K hK => ?_) AllReadyH.nil
    go_simp
    refine hK.out _ _ (hHeld.setCell ⟨g, 0, none⟩ _ rfl) (fun hHeld => ?_)
    clear hK K
    try simp only [Act.put, List.setIfInBounds_toArray, List.set_cons_zero, List.set_cons_succ]
    refine wpAnyH_done (by kernel_rfl) ?_ _
    refine NoPanic.normal ?_
    have HE := hide hHeld
    have HL := hide (syncC g (some ⟨gw, 0, none⟩) t n ⟨x.id, x.up, x.epoch, x.lease, x.writes, (s : Int), x.clean⟩ (wD.setCell ⟨g, 0, none⟩ (.slice (some ⟨gw, 0, none⟩) t n)) (Box.set hHD 0 (.slice (some ⟨gw, 0, none⟩) t n)))
    clear hHeld hHD k0 k1 k6 kf kl
    go_wp2_with fail
    refine (unhide HL).mono ?_
    rintro e w3 ⟨rfl, hH3, hE3⟩
    have HE3 := hide ((unhide HE).trans hE3)
    have HH3 := hide hH3
    clear hH3 hE3 HL HE
    go_wp2_with fail
    refine bodyPost_end (v := .tuple #[]) (by simp [results, Tryz.results222, go_sem]) rfl ?_
    exact ⟨rfl, unhide HH3, unhide HE3⟩
  case or8_9 =>
    go_simp
    refine hK.out _ _ hHeld (fun hHeld => ?_)
    clear hK K
    try simp only [Act.put, List.setIfInBounds_toArray, List.set_cons_zero, List.set_cons_succ]
    refine wpAnyH_take (i := 10) (oi := { dst := some 14, op := Go.Op.binOp Go.BinOp.add 2 (Go.Operand.tmp 12) (Go.Operand.tmp 13) 2, type := 2, pos := "l09_node.go:60", after := #[{ on := 8, ground := Go.Ground.data }, { on := 9, ground := Go.Ground.data }], guard := none }) (v := ?vr10_14) rfl (by kernel_rfl) (by kernel_rfl) (by kernel_rfl) (fun _ _ _ h => h) (Or.inl ⟨by rfl, ?hr10_14⟩) hHeld ?rr10_14
    case hr10_14 =>
      intro wS hSw
      have hst : (s : Int) + (k : Int) = (t : Int) := by omega
      have hwr : IntKind.i64.wrap (t : Int) = (t : Int) := by rw [IntKind.wrap_i64]; omega
      (try dsimp only at hSw)
      go_simp
      try with_reducible rfl
    case rr10_14 =>
    simp only [Act.put, List.setIfInBounds_toArray, List.set_cons_zero, List.set_cons_succ]
    refine wpAnyH_ready (rs := [4]) (by kernel_rfl) (by simp) ?_
    refine AllReadyH.cons (o := { dst := some 8, op := Go.Op.load 61 (Go.Operand.tmp 7), type := 61, pos := "l09_node.go:60", after := #[{ on := 3, ground := Go.Ground.data }], guard := none }) rfl (fun K hK => ?_) AllReadyH.nil
    go_simp
    refine hK.out _ _ hHeld (fun hHeld => ?_)
    clear hK K
    try simp only [Act.put, List.setIfInBounds_toArray, List.set_cons_zero, List.set_cons_succ]
    refine wpAnyH_take (i := 11) (oi := { dst := some 15, op := Go.Op.slice 61 (Go.Operand.tmp 8) none (some (Go.Operand.tmp 14)) none, type := 61, pos := "l09_node.go:60", after := #[{ on := 4, ground := Go.Ground.data }, { on := 10, ground := Go.Ground.data }], guard := none }) (v := ?vr11_15) rfl (by kernel_rfl) (by kernel_rfl) (by kernel_rfl) (fun _ _ _ h => h) (Or.inl ⟨by rfl, ?hr11_15⟩) hHeld ?rr11_15
    case hr11_15 =>
      intro wS hSw
      have hst : (s : Int) + (k : Int) = (t : Int) := by omega
      have hwr : IntKind.i64.wrap (t : Int) = (t : Int) := by rw [IntKind.wrap_i64]; omega
      (try dsimp only at hSw)
      go_simp
      try with_reducible rfl
    case rr11_15 =>
    simp only [Act.put, List.setIfInBounds_toArray, List.set_cons_zero, List.set_cons_succ]
    refine wpAnyH_take (i := 12) (oi := { dst := some 16, op := Go.Op.nilCheck (Go.Operand.tmp 4), type := 0, pos := "l09_node.go:60", after := #[{ on := 0, ground := Go.Ground.data }, { on := 0, ground := Go.Ground.phase }, { on := 1, ground := Go.Ground.phase }, { on := 2, ground := Go.Ground.phase }, { on := 3, ground := Go.Ground.phase }, { on := 4, ground := Go.Ground.phase }, { on := 5, ground := Go.Ground.phase }, { on := 6, ground := Go.Ground.phase }, { on := 7, ground := Go.Ground.phase }, { on := 8, ground := Go.Ground.phase }, { on := 9, ground := Go.Ground.phase }, { on := 10, ground := Go.Ground.phase }, { on := 11, ground := Go.Ground.phase }], guard := none }) (v := ?vr12_16) rfl (by kernel_rfl) (by kernel_rfl) (by kernel_rfl) (fun _ _ _ h => h) (Or.inl ⟨by rfl, ?hr12_16⟩) hHeld ?rr12_16
    case hr12_16 =>
      intro wS hSw
      (try dsimp only at hSw)
      go_simp
      try with_reducible rfl
    case rr12_16 =>
    simp only [Act.put, List.setIfInBounds_toArray, List.set_cons_zero, List.set_cons_succ]
    refine wpAnyH_take (i := 13) (oi := { dst := some 17, op := Go.Op.fieldAddr 181 (Go.Operand.tmp 16) 0, type := 0, pos := "l09_node.go:60", after := #[{ on := 12, ground := Go.Ground.data }, { on := 0, ground := Go.Ground.phase }, { on := 1, ground := Go.Ground.phase }, { on := 2, ground := Go.Ground.phase }, { on := 3, ground := Go.Ground.phase }, { on := 4, ground := Go.Ground.phase }, { on := 5, ground := Go.Ground.phase }, { on := 6, ground := Go.Ground.phase }, { on := 7, ground := Go.Ground.phase }, { on := 8, ground := Go.Ground.phase }, { on := 9, ground := Go.Ground.phase }, { on := 10, ground := Go.Ground.phase }, { on := 11, ground := Go.Ground.phase }], guard := none }) (v := ?vr13_17) rfl (by kernel_rfl) (by kernel_rfl) (by kernel_rfl) (fun _ _ _ h => h) (Or.inl ⟨by rfl, ?hr13_17⟩) hHeld ?rr13_17
    case hr13_17 =>
      intro wS hSw
      (try dsimp only at hSw)
      go_simp
      try with_reducible rfl
    case rr13_17 =>
    simp only [Act.put, List.setIfInBounds_toArray, List.set_cons_zero, List.set_cons_succ]
    refine wpAnyH_ready (rs := [14]) (by kernel_rfl) (by simp) ?_
    refine AllReadyH.cons (o := { dst := none, op := Go.Op.store 61 (Go.Operand.tmp 17) (Go.Operand.tmp 15), type := 0, pos := "l09_node.go:60", after := #[{ on := 13, ground := Go.Ground.data }, { on := 11, ground := Go.Ground.data }, { on := 0, ground := Go.Ground.phase }, { on := 1, ground := Go.Ground.phase }, { on := 2, ground := Go.Ground.phase }, { on := 3, ground := Go.Ground.phase }, { on := 4, ground := Go.Ground.phase }, { on := 5, ground := Go.Ground.phase }, { on := 6, ground := Go.Ground.phase }, { on := 7, ground := Go.Ground.phase }, { on := 8, ground := Go.Ground.phase }, { on := 9, ground := Go.Ground.phase }, { on := 10, ground := Go.Ground.phase }, { on := 11, ground := Go.Ground.phase }], guard := none }) rfl (fun K hK => ?_) AllReadyH.nil
    go_simp
    refine hK.out _ _ (hHeld.setCell ⟨g, 0, none⟩ _ rfl) (fun hHeld => ?_)
    clear hK K
    try simp only [Act.put, List.setIfInBounds_toArray, List.set_cons_zero, List.set_cons_succ]
    refine wpAnyH_done (by kernel_rfl) ?_ _
    refine NoPanic.normal ?_
    have HE := hide hHeld
    have HL := hide (syncC g (some ⟨gw, 0, none⟩) t n ⟨x.id, x.up, x.epoch, x.lease, x.writes, (s : Int), x.clean⟩ (wD.setCell ⟨g, 0, none⟩ (.slice (some ⟨gw, 0, none⟩) t n)) (Box.set hHD 0 (.slice (some ⟨gw, 0, none⟩) t n)))
    clear hHeld hHD k0 k1 k6 kf kl
    go_wp2_with fail
    refine (unhide HL).mono ?_
    rintro e w3 ⟨rfl, hH3, hE3⟩
    have HE3 := hide ((unhide HE).trans hE3)
    have HH3 := hide hH3
    clear hH3 hE3 HL HE
    go_wp2_with fail
    refine bodyPost_end (v := .tuple #[]) (by simp [results, Tryz.results222, go_sem]) rfl ?_
    exact ⟨rfl, unhide HH3, unhide HE3⟩
set_option maxRecDepth 10000 in
set_option maxHeartbeats 2000000 in
theorem crashC (g gw n s k t : Nat) (x : DNode) (w : World) (h : HeldAt w g (.slice (some ⟨gw, 0, none⟩) n n) ⟨x.id, x.up, x.epoch, x.lease, x.writes, (s : Int), x.clean⟩) (h1 : t ≤ s + k) (h2 : s + k ≤ t) (hk : t ≤ n) (hn : n ≤ 1000) :
    Calls Tryz.prog 185 #[.pointer (some ⟨g, 0, none⟩), .int .i64 (k : Int)] w fun e w' => e = .returned (.tuple #[]) ∧ HeldAt w' g (.slice (some ⟨gw, 0, none⟩) t n) ⟨x.id, false, x.epoch, 0, x.writes, (t : Int), 0⟩ ∧ Ext (fun q => q = g) w w' := by
  have HL := hide (tearC g gw n s k t x w h h1 h2 hk hn)
  clear h
  go_enter Tryz.func185, Tryz.ntmps185
  go_wp2_with fail
  refine (unhide HL).mono ?_
  rintro e w3 ⟨rfl, hH3, hE3⟩
  have k3 := Box.at hH3 3 _ rfl
  have k5 := Box.at hH3 5 _ rfl
  have k6 := Box.at hH3 6 _ rfl
  have kf := Box.soft hH3
  have kl := Box.lt hH3
  simp only [List.getElem_toArray, List.getElem_cons_zero, List.getElem_cons_succ] at k3 k5 k6
  have HH9 : Hid (HeldAt (((w3.setCell ⟨g, 3, none⟩ (.bool false)).setCell ⟨g, 6, none⟩ (.int .i64 0)).setCell ⟨g, 5, none⟩ (.int .i64 0)) g (.slice (some ⟨gw, 0, none⟩) t n) ⟨x.id, false, x.epoch, 0, x.writes, (t : Int), 0⟩) := ((Box.set hH3 3 (.bool false)).set 6 (.int .i64 0)).set 5 (.int .i64 0)
  have HE9 : Hid (Ext (fun q => q = g) w (((w3.setCell ⟨g, 3, none⟩ (.bool false)).setCell ⟨g, 6, none⟩ (.int .i64 0)).setCell ⟨g, 5, none⟩ (.int .i64 0))) := ((hE3.setCell ⟨g, 3, none⟩ _ rfl).setCell ⟨g, 6, none⟩ _ rfl).setCell ⟨g, 5, none⟩ _ rfl
  clear hH3 hE3 HL
  go_wp2_with fail
  refine bodyPost_end (v := .tuple #[]) (by simp [results, Tryz.results185, go_sem]) rfl ?_
  exact ⟨rfl, unhide HH9, unhide HE9⟩
end Go.Proofs.YtdnhmoppineegaaGreat

namespace Go.Proofs.YtdnhmoppineegaaGreat
open Go.RowKit

set_option maxRecDepth 10000 in
set_option maxHeartbeats 2000000 in
theorem implSyncNode (cs : List Value) (x : DNode) (w : World) (h : Lay.tNode.Reads w cs x) :
    Calls Tryz.prog 110 #[.agg cs.toArray] w fun e w' => ∃ cs, e = .returned (.agg cs.toArray) ∧ Lay.tNodeResult.OwnIn w' cs (syncR x) w.heap.size w'.heap.size ∧ Below w.heap.size w w' := by
  have hN := h
  obtain ⟨a4, d4, rfl, R4⟩ := open_Node h
  have nb : Below w.heap.size w ((w.alloc (.cells #[.int .i64 x.id, .bool x.up, .int .i64 x.epoch, .int .i64 x.lease, .slice a4 x.writes.length d4, .int .i64 x.sure, .int .i64 x.clean] 63)).alloc (.cells #[.int .i64 0, .int .i64 0, .int .i64 0, .bool false, .int .i64 0, .int .i64 0, .slice none 0 0, .int .i64 0, .int .i64 0] 65)) := ((Below.refl _ _).alloc (Nat.le_refl _) _).alloc (by simp) _
  have bR : Box 0 #[.int .i64 0, .int .i64 0, .int .i64 0, .bool false, .int .i64 0, .int .i64 0, .slice none 0 0, .int .i64 0, .int .i64 0] 65 ((w.alloc (.cells #[.int .i64 x.id, .bool x.up, .int .i64 x.epoch, .int .i64 x.lease, .slice a4 x.writes.length d4, .int .i64 x.sure, .int .i64 x.clean] 63)).alloc (.cells #[.int .i64 0, .int .i64 0, .int .i64 0, .bool false, .int .i64 0, .int .i64 0, .slice none 0 0, .int .i64 0, .int .i64 0] 65)) (w.heap.size + 1) := newBoxAt (Nat.zero_le _) (by simp)
  by_cases hf : askedN x = 0
  · have hok := (askedN_zero hf).1
    have HL := hide (upNode_ok _ x _ (hN.later nb) hf)
    have HA := hide hf
    have HOK := hide hok
    have HB0 := hide nb
    have HR0 := hide bR
    clear hN nb bR R4 hf hok
    go_enter Tryz.func110, Tryz.ntmps110
    go_wp2_with fail
    generalize (w.alloc (.cells #[.int .i64 x.id, .bool x.up, .int .i64 x.epoch, .int .i64 x.lease, .slice a4 x.writes.length d4, .int .i64 x.sure, .int .i64 x.clean] 63)).alloc (.cells #[.int .i64 0, .int .i64 0, .int .i64 0, .bool false, .int .i64 0, .int .i64 0, .slice none 0 0, .int .i64 0, .int .i64 0] 65) = W0 at *
    refine (unhide HL).mono ?_
    rintro e w1 ⟨g, gw, rfl, hH, O, hg, hb⟩
    have HR1 := hide ((unhide HR0).keep hb)
    have hgr : w.heap.size + 1 < g := by have := (unhide HR0).lt; omega
    have HB1 := hide ((unhide HB0).trans (hb.mono (unhide HB0).size))
    have HH1 := hide hH
    have HO1 := hide O
    have hgl := hH.lt
    clear hb HL HB0 HR0 hH O hg
    have HL2 := hide (syncC g _ _ _ x w1 (unhide HH1))
    go_wp2_with fail
    refine (unhide HL2).mono ?_
    rintro e w2 ⟨rfl, hH2, hE2⟩
    have HR2 := hide ((unhide HR1).ext hE2 (by omega))
    have HO2 := hide ((unhide HO1).ext hE2 (fun q h1 h2 h3 => by omega))
    have HB2 := hide ((unhide HB1).trans (hE2.below (unhide HB1).size (fun q hq e => by omega)))
    have hz2 := hE2.size
    have HH2 := hide hH2
    clear hE2 hH2 HL2 HR1 HO1 HB1 HH1
    have HC := hide (countC g _ _ _ _ w2 (unhide HH2))
    go_wp2_with fail
    refine (unhide HC).mono ?_
    rintro e w3 ⟨rfl, h3⟩
    subst w3
    clear HC
    have HT := hide (toldC g _ _ _ _ w2 (unhide HH2))
    go_wp2_with fail
    refine (unhide HT).mono ?_
    rintro e w9 ⟨rfl, hb9⟩
    have bR9 := (unhide HR2).keep hb9
    have z0 := Box.at bR9 0 _ rfl
    have z1 := Box.at bR9 1 _ rfl
    have z2 := Box.at bR9 2 _ rfl
    have z3 := Box.at bR9 3 _ rfl
    have z4 := Box.at bR9 4 _ rfl
    have z5 := Box.at bR9 5 _ rfl
    have z6 := Box.at bR9 6 _ rfl
    have z7 := Box.at bR9 7 _ rfl
    have z8 := Box.at bR9 8 _ rfl
    simp only [List.getElem_toArray, List.getElem_cons_zero, List.getElem_cons_succ] at z0 z1 z2 z3 z4 z5 z6 z7 z8
    have ff := Box.soft bR9
    have l0 := Box.lt bR9
    have HO9 := hide ((unhide HO2).later hb9)
    have HB9 := hide ((unhide HB2).trans (hb9.mono (unhide HB2).size))
    have hz9 := hb9.size
    clear hb9 HT bR9
    go_wp2_with fail
    refine bodyPost_ret (v := .agg #[.int .i64 0, .int .i64 (x.writes.length : Int), .int .i64 x.id, .bool x.up, .int .i64 x.epoch, .int .i64 x.lease, .slice (some ⟨gw, 0, none⟩) x.writes.length x.writes.length, .int .i64 (x.writes.length : Int), .int .i64 x.clean]) (by simp [results, Tryz.results110, go_sem, z0, z1, z2, z3, z4, z5, z6, z7, z8]) rfl ?_
    rw [syncR, if_pos (unhide HA)]
    obtain ⟨i1, i2, i3, i4, -, -, i7, i8, -⟩ := unhide HOK
    have hB9 := below_setAll (unhide HB9) (w.heap.size + 1) 0 [.int .i64 0, .int .i64 (x.writes.length : Int), .int .i64 x.id, .bool x.up, .int .i64 x.epoch, .int .i64 x.lease, .slice (some ⟨gw, 0, none⟩) x.writes.length x.writes.length, .int .i64 (x.writes.length : Int), .int .i64 x.clean] (by omega)
    refine ⟨[.int .i64 0, .int .i64 (x.writes.length : Int), .int .i64 x.id, .bool x.up, .int .i64 x.epoch, .int .i64 x.lease, .slice (some ⟨gw, 0, none⟩) x.writes.length x.writes.length, .int .i64 (x.writes.length : Int), .int .i64 x.clean], rfl, ?_, hB9⟩
    have o1 := own_store' (s := w.heap.size + 1) (vs := [.int .i64 0, .int .i64 (x.writes.length : Int), .int .i64 x.id, .bool x.up, .int .i64 x.epoch, .int .i64 x.lease, .slice (some ⟨gw, 0, none⟩) x.writes.length x.writes.length, .int .i64 (x.writes.length : Int), .int .i64 x.clean]) (unhide HO9) (by omega)
    exact own_nodeR (x := ⟨x.id, x.up, x.epoch, x.lease, x.writes, (x.writes.length : Int), x.clean⟩) (c := 0) (n := (x.writes.length : Int)) (by omega) (by omega) (o1.mono (by omega) (Nat.le_trans (by omega : w1.heap.size ≤ w9.heap.size) (Nat.le_of_eq (size_setAll w9 (w.heap.size + 1) 0 [.int .i64 0, .int .i64 (x.writes.length : Int), .int .i64 x.id, .bool x.up, .int .i64 x.epoch, .int .i64 x.lease, .slice (some ⟨gw, 0, none⟩) x.writes.length x.writes.length, .int .i64 (x.writes.length : Int), .int .i64 x.clean]).symm))) (by simp only; omega) (by simp only; omega) (by simp only; omega) (by simp only; omega) (by simp only; omega)
  · have HL := hide (upNode_bad _ x _ (hN.later nb) hf)
    have hd : (askedN x != 0) = true := by simpa using hf
    have HY := hide (syncR_bad (x := x) hf)
    have HW := hide (askedN_bd x)
    have HB0 := hide nb
    have HR0 := hide bR
    clear hN nb bR R4 hf
    generalize askedN x = c at *
    go_enter Tryz.func110, Tryz.ntmps110
    go_wp2_with fail
    generalize (w.alloc (.cells #[.int .i64 x.id, .bool x.up, .int .i64 x.epoch, .int .i64 x.lease, .slice a4 x.writes.length d4, .int .i64 x.sure, .int .i64 x.clean] 63)).alloc (.cells #[.int .i64 0, .int .i64 0, .int .i64 0, .bool false, .int .i64 0, .int .i64 0, .slice none 0 0, .int .i64 0, .int .i64 0] 65) = W0 at *
    refine (unhide HL).mono ?_
    rintro e w1 ⟨rfl, hb⟩
    have bR1 := (unhide HR0).keep hb
    have z0 := Box.at bR1 0 _ rfl
    have z1 := Box.at bR1 1 _ rfl
    have z2 := Box.at bR1 2 _ rfl
    have z3 := Box.at bR1 3 _ rfl
    have z4 := Box.at bR1 4 _ rfl
    have z5 := Box.at bR1 5 _ rfl
    have z6 := Box.at bR1 6 _ rfl
    have z7 := Box.at bR1 7 _ rfl
    have z8 := Box.at bR1 8 _ rfl
    simp only [List.getElem_toArray, List.getElem_cons_zero, List.getElem_cons_succ] at z0 z1 z2 z3 z4 z5 z6 z7 z8
    have ff := Box.soft bR1
    have l0 := Box.lt bR1
    have HB1 := hide ((unhide HB0).trans (hb.mono (unhide HB0).size))
    clear hb HL HB0 HR0 bR1
    go_wp2_with fail
    refine bodyPost_ret (v := .agg #[.int .i64 c, .int .i64 0, .int .i64 0, .bool false, .int .i64 0, .int .i64 0, .slice none 0 0, .int .i64 0, .int .i64 0]) (by simp [results, Tryz.results110, go_sem, z0, z1, z2, z3, z4, z5, z6, z7, z8]) rfl ?_
    rw [unhide HY]
    have hB9 := below_setAll (unhide HB1) (w.heap.size + 1) 0 [.int .i64 c, .int .i64 0, .int .i64 0, .bool false, .int .i64 0, .int .i64 0, .slice none 0 0, .int .i64 0, .int .i64 0] (by omega)
    exact ⟨[.int .i64 c, .int .i64 0, .int .i64 0, .bool false, .int .i64 0, .int .i64 0, .slice none 0 0, .int .i64 0, .int .i64 0], rfl, own_badNode (unhide HW), hB9⟩

end Go.Proofs.YtdnhmoppineegaaGreat

namespace Go.Proofs.YtdnhmoppineegaaGreat
open Go.RowKit

set_option maxRecDepth 100000 in
set_option maxHeartbeats 4000000 in
theorem syncStepC (L k : Nat) (p : Nat) (y : DWorld) (W : World) (hp : Box 0 #[.int .i64 ((k : Int) + 1)] 2 W p) (lp : p < L) (hk : k < y.nodes.length) (hn5 : y.nodes.length ≤ 5) (hid : (syncR (y.nodes[k])).code = 0 → (syncR (y.nodes[k])).node.id = (k : Int) + 1) :
    StepC L 108 #[.pointer (some ⟨p, 0, none⟩)] y (syncR (y.nodes[k])).code true (putNode y (syncR (y.nodes[k])).node) W := by
  intro g lo v3 v4 v5 v6 hL hg hlo hO
  show Calls Tryz.prog 108 #[.pointer (some ⟨g, 0, none⟩), .pointer (some ⟨p, 0, none⟩)] W _
  obtain ⟨a3, d3, a4, d4, a5, d5, a6, d6, hq, -, RNs, -, -⟩ := open_World hO.reads
  simp only [List.cons.injEq, and_true, true_and] at hq
  obtain ⟨rfl, rfl, rfl, rfl⟩ := hq
  obtain ⟨b, off, rfl, hbl⟩ := Lay.sl_addr RNs (by omega)
  obtain ⟨row, hcl, hr⟩ := Lay.row_at RNs hk
  obtain ⟨an, dn, rfl, -⟩ := open_Node hr
  have x0 : W.drew.cell? ⟨b, off + k * 7, none⟩ = some (.int .i64 (y.nodes[k]).id) := hcl 0 (by decide)
  have x1 : W.drew.cell? ⟨b, off + k * 7 + 1, none⟩ = some (.bool (y.nodes[k]).up) := hcl 1 (by decide)
  have x2 : W.drew.cell? ⟨b, off + k * 7 + 2, none⟩ = some (.int .i64 (y.nodes[k]).epoch) := hcl 2 (by decide)
  have x3 : W.drew.cell? ⟨b, off + k * 7 + 3, none⟩ = some (.int .i64 (y.nodes[k]).lease) := hcl 3 (by decide)
  have x4 : W.drew.cell? ⟨b, off + k * 7 + 4, none⟩ = some (.slice an (y.nodes[k]).writes.length dn) := hcl 4 (by decide)
  have x5 : W.drew.cell? ⟨b, off + k * 7 + 5, none⟩ = some (.int .i64 (y.nodes[k]).sure) := hcl 5 (by decide)
  have x6 : W.drew.cell? ⟨b, off + k * 7 + 6, none⟩ = some (.int .i64 (y.nodes[k]).clean) := hcl 6 (by decide)
  have g4 := Box.at hg 4 _ rfl
  simp only [List.getElem_toArray, List.getElem_cons_zero, List.getElem_cons_succ] at g4
  have hp0 := Box.at hp 0 _ rfl
  have hpl := hp.lt
  simp only [List.getElem_toArray, List.getElem_cons_zero] at hp0
  have hgl := hg.lt
  have hw1 : IntKind.i64.wrap (k : Int) = (k : Int) := by
    rw [IntKind.wrap_i64]
    omega
  have hki : (k : Int) < (y.nodes.length : Int) := by omega
  have hki0 : (0 : Int) ≤ (k : Int) := by omega
  have HL := hide (implSyncNode _ (y.nodes[k]) W.drew (hr.drew 1))
  have HG : Hid (Box 0 _ 36 W.drew g) := hg
  have HO : Hid (WOwn W.drew lo g _ y) := hO.ext (S := nowhere) ((Ext.refl _ _).drew 1) (fun _ _ _ _ q => q)
  by_cases hc : (syncR (y.nodes[k])).code = 0
  · have HC := hide hc
    have HI := hide (hid hc)
    clear hc hid hg hO hr hcl RNs hp
    generalize hnn : y.nodes[k] = n at *
    clear hnn
    go_enter Tryz.func108, Tryz.ntmps108
    go_upto_region 1 with fail
    refine wp_region_noPanic ?_
    refine wp_region_held_drew (S := fun w' => Ext (fun q => lo ≤ q ∧ q ≠ g) W w') (by kernel_rfl) ((Ext.refl _ _).drew 1) (fun hHeld => ?_)
    generalize W.drew = wD at hHeld HL HG HO x0 x1 x2 x3 x4 x5 x6 ⊢
    refine wpAnyH_take (i := 0) (oi := { dst := some 5, op := Go.Op.move (Go.Operand.tmp 0), type := 58, pos := "l12_world.go:359", after := #[], guard := none }) (v := ?vo0) rfl (by kernel_rfl) (by kernel_rfl) (by kernel_rfl) (fun _ _ _ h => h) (Or.inl ⟨by rfl, ?ho0⟩) hHeld ?ro0
    case ho0 =>
      intro wS hSw
      (try dsimp only at hSw)
      go_simp
      try with_reducible rfl
    case ro0 =>
    simp only [Act.put, List.setIfInBounds_toArray, List.set_cons_zero, List.set_cons_succ]
    refine wpAnyH_take (i := 1) (oi := { dst := some 6, op := Go.Op.move (Go.Operand.tmp 0), type := 58, pos := "l12_world.go:359", after := #[], guard := none }) (v := ?vo1) rfl (by kernel_rfl) (by kernel_rfl) (by kernel_rfl) (fun _ _ _ h => h) (Or.inl ⟨by rfl, ?ho1⟩) hHeld ?ro1
    case ho1 =>
      intro wS hSw
      (try dsimp only at hSw)
      go_simp
      try with_reducible rfl
    case ro1 =>
    simp only [Act.put, List.setIfInBounds_toArray, List.set_cons_zero, List.set_cons_succ]
    refine wpAnyH_take (i := 2) (oi := { dst := some 7, op := Go.Op.nilCheck (Go.Operand.tmp 6), type := 0, pos := "l12_world.go:359", after := #[{ on := 1, ground := Go.Ground.data }], guard := none }) (v := ?vo2) rfl (by kernel_rfl) (by kernel_rfl) (by kernel_rfl) (fun _ _ _ h => h) (Or.inl ⟨by rfl, ?ho2⟩) hHeld ?ro2
    case ho2 =>
      intro wS hSw
      (try dsimp only at hSw)
      go_simp
      try with_reducible rfl
    case ro2 =>
    simp only [Act.put, List.setIfInBounds_toArray, List.set_cons_zero, List.set_cons_succ]
    refine wpAnyH_take (i := 3) (oi := { dst := some 8, op := Go.Op.fieldAddr 36 (Go.Operand.tmp 7) 3, type := 0, pos := "l12_world.go:359", after := #[{ on := 2, ground := Go.Ground.data }], guard := none }) (v := ?vo3) rfl (by kernel_rfl) (by kernel_rfl) (by kernel_rfl) (fun _ _ _ h => h) (Or.inl ⟨by rfl, ?ho3⟩) hHeld ?ro3
    case ho3 =>
      intro wS hSw
      (try dsimp only at hSw)
      go_simp
      try with_reducible rfl
    case ro3 =>
    simp only [Act.put, List.setIfInBounds_toArray, List.set_cons_zero, List.set_cons_succ]
    refine wpAnyH_take (i := 4) (oi := { dst := some 9, op := Go.Op.load 32 (Go.Operand.tmp 8), type := 32, pos := "l12_world.go:359", after := #[{ on := 3, ground := Go.Ground.data }], guard := none }) (v := ?vo4) rfl (by kernel_rfl) (by kernel_rfl) (by kernel_rfl) (fun _ _ _ h => h) (Or.inl ⟨by rfl, ?ho4⟩) hHeld ?ro4
    case ho4 =>
      intro wS hSw
      have q := (cell_of_heap (hSw.block g hgl (fun e => e.2 rfl)) 4).trans g4
      clear hSw
      (try dsimp only at hSw)
      go_simp
      try with_reducible rfl
    case ro4 =>
    simp only [Act.put, List.setIfInBounds_toArray, List.set_cons_zero, List.set_cons_succ]
    refine wpAnyH_take (i := 5) (oi := { dst := some 10, op := Go.Op.load 2 (Go.Operand.tmp 1), type := 2, pos := "l12_world.go:359", after := #[], guard := none }) (v := ?vo5) rfl (by kernel_rfl) (by kernel_rfl) (by kernel_rfl) (fun _ _ _ h => h) (Or.inl ⟨by rfl, ?ho5⟩) hHeld ?ro5
    case ho5 =>
      intro wS hSw
      have q := (cell_of_heap (hSw.block p hpl (fun e => by have := e.1; omega)) 0).trans hp0
      clear hSw
      (try dsimp only at hSw)
      go_simp
      try with_reducible rfl
    case ro5 =>
    simp only [Act.put, List.setIfInBounds_toArray, List.set_cons_zero, List.set_cons_succ]
    refine wpAnyH_take (i := 6) (oi := { dst := some 11, op := Go.Op.binOp Go.BinOp.sub 2 (Go.Operand.tmp 10) (Go.Operand.const (Go.Value.int Go.IntKind.i64 1)) 2, type := 2, pos := "l12_world.go:359", after := #[{ on := 5, ground := Go.Ground.data }], guard := none }) (v := ?vo6) rfl (by kernel_rfl) (by kernel_rfl) (by kernel_rfl) (fun _ _ _ h => h) (Or.inl ⟨by rfl, ?ho6⟩) hHeld ?ro6
    case ho6 =>
      intro wS hSw
      (try dsimp only at hSw)
      go_simp
      try with_reducible rfl
    case ro6 =>
    simp only [Act.put, List.setIfInBounds_toArray, List.set_cons_zero, List.set_cons_succ]
    refine wpAnyH_take (i := 7) (oi := { dst := some 12, op := Go.Op.indexAddr 32 (Go.Operand.tmp 9) (Go.Operand.tmp 11), type := 0, pos := "l12_world.go:359", after := #[{ on := 4, ground := Go.Ground.data }, { on := 6, ground := Go.Ground.data }], guard := none }) (v := ?vo7) rfl (by kernel_rfl) (by kernel_rfl) (by kernel_rfl) (fun _ _ _ h => h) (Or.inl ⟨by rfl, ?ho7⟩) hHeld ?ro7
    case ho7 =>
      intro wS hSw
      (try dsimp only at hSw)
      go_simp
      try with_reducible rfl
    case ro7 =>
    simp only [Act.put, List.setIfInBounds_toArray, List.set_cons_zero, List.set_cons_succ]
    refine wpAnyH_ready (rs := [8]) (by kernel_rfl) (by simp) ?_
    refine AllReadyH.cons (o := { dst := some 13, op := Go.Op.load 63 (Go.Operand.tmp 12), type := 63, pos := "l12_world.go:359", after := #[{ on := 7, ground := Go.Ground.data }], guard := none }) rfl (fun K hK => ?_) AllReadyH.nil
    go_simp
    refine hK.out _ _ hHeld (fun hHeld => ?_)
    clear hK K
    try simp only [Act.put, List.setIfInBounds_toArray, List.set_cons_zero, List.set_cons_succ]
    refine wpAnyH_ready (rs := [9]) (by kernel_rfl) (by simp) ?_
    refine AllReadyH.cons (o := { dst := some 14, op := Go.Op.call { callee := Go.Callee.value (Go.Operand.func 110), args := #[Go.Operand.tmp 13], argTypes := #[63] }, type := 65, pos := "l12_world.go:359", after := #[{ on := 8, ground := Go.Ground.data }], guard := none }) rfl (fun K hK => ?_) AllReadyH.nil
    go_simp
    go_at_call 110
    refine (unhide HL).mono ?_
    rintro e w3 ⟨us, rfl, O, hb3⟩
    try go_wp2_with fail
    refine hK.out _ _ (hHeld.trans (ext_of_below hb3 _)) (fun hHeld => ?_)
    clear hK K
    try simp only [Act.put, List.setIfInBounds_toArray, List.set_cons_zero, List.set_cons_succ]
    refine wpAnyH_ready (rs := [10]) (by kernel_rfl) (by simp) ?_
    refine AllReadyH.cons (o := { dst := some 15, op := Go.Op.call { callee := Go.Callee.value (Go.Operand.func 109), args := #[Go.Operand.tmp 5, Go.Operand.tmp 14], argTypes := #[58, 65] }, type := 134, pos := "l12_world.go:359", after := #[{ on := 0, ground := Go.Ground.data }, { on := 9, ground := Go.Ground.data }, { on := 9, ground := Go.Ground.chain }], guard := none }) rfl (fun K hK => ?_) AllReadyH.nil
    go_simp
    go_at_call 109
    refine (setNode_ok g lo k _ _ _ _ y us _ wD w3 (unhide HG) (unhide HO) hb3 O (unhide HC) hk hn5 (unhide HI)).mono ?_
    rintro e w5 ⟨rfl, ⟨u3, u4, u5, u6, hgz, hOz⟩, he5⟩
    try go_wp2_with fail
    refine hK.out _ _ (hHeld.trans he5) (fun hHeld => ?_)
    clear hK K
    try simp only [Act.put, List.setIfInBounds_toArray, List.set_cons_zero, List.set_cons_succ]
    refine wpAnyH_take (i := 11) (oi := { dst := some 16, op := Go.Op.extract (Go.Operand.tmp 15) 0, type := 4, pos := "l12_world.go:359", after := #[{ on := 10, ground := Go.Ground.data }], guard := none }) (v := ?vo11) rfl (by kernel_rfl) (by kernel_rfl) (by kernel_rfl) (fun _ _ _ h => h) (Or.inl ⟨by rfl, ?ho11⟩) hHeld ?ro11
    case ho11 =>
      intro wS hSw
      (try dsimp only at hSw)
      go_simp
      try with_reducible rfl
    case ro11 =>
    simp only [Act.put, List.setIfInBounds_toArray, List.set_cons_zero, List.set_cons_succ]
    refine wpAnyH_take (i := 12) (oi := { dst := some 17, op := Go.Op.extract (Go.Operand.tmp 15) 1, type := 2, pos := "l12_world.go:359", after := #[{ on := 10, ground := Go.Ground.data }], guard := none }) (v := ?vo12) rfl (by kernel_rfl) (by kernel_rfl) (by kernel_rfl) (fun _ _ _ h => h) (Or.inl ⟨by rfl, ?ho12⟩) hHeld ?ro12
    case ho12 =>
      intro wS hSw
      (try dsimp only at hSw)
      go_simp
      try with_reducible rfl
    case ro12 =>
    simp only [Act.put, List.setIfInBounds_toArray, List.set_cons_zero, List.set_cons_succ]
    refine wpAnyH_take (i := 13) (oi := { dst := some 3, op := Go.Op.assign (Go.Operand.tmp 16), type := 4, pos := "l12_world.go:359", after := #[{ on := 11, ground := Go.Ground.data }, { on := 10, ground := Go.Ground.chain }, { on := 0, ground := Go.Ground.phase }, { on := 1, ground := Go.Ground.phase }, { on := 2, ground := Go.Ground.phase }, { on := 3, ground := Go.Ground.phase }, { on := 4, ground := Go.Ground.phase }, { on := 5, ground := Go.Ground.phase }, { on := 6, ground := Go.Ground.phase }, { on := 7, ground := Go.Ground.phase }, { on := 8, ground := Go.Ground.phase }, { on := 9, ground := Go.Ground.phase }, { on := 10, ground := Go.Ground.phase }, { on := 11, ground := Go.Ground.phase }, { on := 12, ground := Go.Ground.phase }], guard := none }) (v := ?vo13) rfl (by kernel_rfl) (by kernel_rfl) (by kernel_rfl) (fun _ _ _ h => h) (Or.inl ⟨by rfl, ?ho13⟩) hHeld ?ro13
    case ho13 =>
      intro wS hSw
      (try dsimp only at hSw)
      go_simp
      try with_reducible rfl
    case ro13 =>
    simp only [Act.put, List.setIfInBounds_toArray, List.set_cons_zero, List.set_cons_succ]
    refine wpAnyH_take (i := 14) (oi := { dst := some 4, op := Go.Op.assign (Go.Operand.tmp 17), type := 2, pos := "l12_world.go:359", after := #[{ on := 12, ground := Go.Ground.data }, { on := 13, ground := Go.Ground.chain }, { on := 0, ground := Go.Ground.phase }, { on := 1, ground := Go.Ground.phase }, { on := 2, ground := Go.Ground.phase }, { on := 3, ground := Go.Ground.phase }, { on := 4, ground := Go.Ground.phase }, { on := 5, ground := Go.Ground.phase }, { on := 6, ground := Go.Ground.phase }, { on := 7, ground := Go.Ground.phase }, { on := 8, ground := Go.Ground.phase }, { on := 9, ground := Go.Ground.phase }, { on := 10, ground := Go.Ground.phase }, { on := 11, ground := Go.Ground.phase }, { on := 12, ground := Go.Ground.phase }, { on := 13, ground := Go.Ground.phase }], guard := none }) (v := ?vo14) rfl (by kernel_rfl) (by kernel_rfl) (by kernel_rfl) (fun _ _ _ h => h) (Or.inl ⟨by rfl, ?ho14⟩) hHeld ?ro14
    case ho14 =>
      intro wS hSw
      (try dsimp only at hSw)
      go_simp
      try with_reducible rfl
    case ro14 =>
    simp only [Act.put, List.setIfInBounds_toArray, List.set_cons_zero, List.set_cons_succ]
    refine wpAnyH_done (by kernel_rfl) ?_ _
    refine NoPanic.normal ?_
    have HF := hide (And.intro hgz hOz)
    have HE := hide (hHeld.mono (fun q _ e => e.1) : Ext (fun q => lo ≤ q) W w5)
    clear hHeld hgz hOz he5 hb3 O HL HG HO
    go_wp2_with fail
    go_ret2
    exact ⟨true, by rw [unhide HC]; rfl, fun _ => ⟨rfl, u3, u4, u5, u6, unhide HF⟩, unhide HE⟩
  · have HC := hide hc
    clear hc hid hg hO hr hcl RNs hp
    generalize hnn : y.nodes[k] = n at *
    clear hnn
    go_enter Tryz.func108, Tryz.ntmps108
    go_upto_region 1 with fail
    refine wp_region_noPanic ?_
    refine wp_region_held_drew (S := fun w' => Ext (fun q => lo ≤ q ∧ q ≠ g) W w') (by kernel_rfl) ((Ext.refl _ _).drew 1) (fun hHeld => ?_)
    generalize W.drew = wD at hHeld HL HG HO x0 x1 x2 x3 x4 x5 x6 ⊢
    refine wpAnyH_take (i := 0) (oi := { dst := some 5, op := Go.Op.move (Go.Operand.tmp 0), type := 58, pos := "l12_world.go:359", after := #[], guard := none }) (v := ?vb0) rfl (by kernel_rfl) (by kernel_rfl) (by kernel_rfl) (fun _ _ _ h => h) (Or.inl ⟨by rfl, ?hb0⟩) hHeld ?rb0
    case hb0 =>
      intro wS hSw
      (try dsimp only at hSw)
      go_simp
      try with_reducible rfl
    case rb0 =>
    simp only [Act.put, List.setIfInBounds_toArray, List.set_cons_zero, List.set_cons_succ]
    refine wpAnyH_take (i := 1) (oi := { dst := some 6, op := Go.Op.move (Go.Operand.tmp 0), type := 58, pos := "l12_world.go:359", after := #[], guard := none }) (v := ?vb1) rfl (by kernel_rfl) (by kernel_rfl) (by kernel_rfl) (fun _ _ _ h => h) (Or.inl ⟨by rfl, ?hb1⟩) hHeld ?rb1
    case hb1 =>
      intro wS hSw
      (try dsimp only at hSw)
      go_simp
      try with_reducible rfl
    case rb1 =>
    simp only [Act.put, List.setIfInBounds_toArray, List.set_cons_zero, List.set_cons_succ]
    refine wpAnyH_take (i := 2) (oi := { dst := some 7, op := Go.Op.nilCheck (Go.Operand.tmp 6), type := 0, pos := "l12_world.go:359", after := #[{ on := 1, ground := Go.Ground.data }], guard := none }) (v := ?vb2) rfl (by kernel_rfl) (by kernel_rfl) (by kernel_rfl) (fun _ _ _ h => h) (Or.inl ⟨by rfl, ?hb2⟩) hHeld ?rb2
    case hb2 =>
      intro wS hSw
      (try dsimp only at hSw)
      go_simp
      try with_reducible rfl
    case rb2 =>
    simp only [Act.put, List.setIfInBounds_toArray, List.set_cons_zero, List.set_cons_succ]
    refine wpAnyH_take (i := 3) (oi := { dst := some 8, op := Go.Op.fieldAddr 36 (Go.Operand.tmp 7) 3, type := 0, pos := "l12_world.go:359", after := #[{ on := 2, ground := Go.Ground.data }], guard := none }) (v := ?vb3) rfl (by kernel_rfl) (by kernel_rfl) (by kernel_rfl) (fun _ _ _ h => h) (Or.inl ⟨by rfl, ?hb3⟩) hHeld ?rb3
    case hb3 =>
      intro wS hSw
      (try dsimp only at hSw)
      go_simp
      try with_reducible rfl
    case rb3 =>
    simp only [Act.put, List.setIfInBounds_toArray, List.set_cons_zero, List.set_cons_succ]
    refine wpAnyH_take (i := 4) (oi := { dst := some 9, op := Go.Op.load 32 (Go.Operand.tmp 8), type := 32, pos := "l12_world.go:359", after := #[{ on := 3, ground := Go.Ground.data }], guard := none }) (v := ?vb4) rfl (by kernel_rfl) (by kernel_rfl) (by kernel_rfl) (fun _ _ _ h => h) (Or.inl ⟨by rfl, ?hb4⟩) hHeld ?rb4
    case hb4 =>
      intro wS hSw
      have q := (cell_of_heap (hSw.block g hgl (fun e => e.2 rfl)) 4).trans g4
      clear hSw
      (try dsimp only at hSw)
      go_simp
      try with_reducible rfl
    case rb4 =>
    simp only [Act.put, List.setIfInBounds_toArray, List.set_cons_zero, List.set_cons_succ]
    refine wpAnyH_take (i := 5) (oi := { dst := some 10, op := Go.Op.load 2 (Go.Operand.tmp 1), type := 2, pos := "l12_world.go:359", after := #[], guard := none }) (v := ?vb5) rfl (by kernel_rfl) (by kernel_rfl) (by kernel_rfl) (fun _ _ _ h => h) (Or.inl ⟨by rfl, ?hb5⟩) hHeld ?rb5
    case hb5 =>
      intro wS hSw
      have q := (cell_of_heap (hSw.block p hpl (fun e => by have := e.1; omega)) 0).trans hp0
      clear hSw
      (try dsimp only at hSw)
      go_simp
      try with_reducible rfl
    case rb5 =>
    simp only [Act.put, List.setIfInBounds_toArray, List.set_cons_zero, List.set_cons_succ]
    refine wpAnyH_take (i := 6) (oi := { dst := some 11, op := Go.Op.binOp Go.BinOp.sub 2 (Go.Operand.tmp 10) (Go.Operand.const (Go.Value.int Go.IntKind.i64 1)) 2, type := 2, pos := "l12_world.go:359", after := #[{ on := 5, ground := Go.Ground.data }], guard := none }) (v := ?vb6) rfl (by kernel_rfl) (by kernel_rfl) (by kernel_rfl) (fun _ _ _ h => h) (Or.inl ⟨by rfl, ?hb6⟩) hHeld ?rb6
    case hb6 =>
      intro wS hSw
      (try dsimp only at hSw)
      go_simp
      try with_reducible rfl
    case rb6 =>
    simp only [Act.put, List.setIfInBounds_toArray, List.set_cons_zero, List.set_cons_succ]
    refine wpAnyH_take (i := 7) (oi := { dst := some 12, op := Go.Op.indexAddr 32 (Go.Operand.tmp 9) (Go.Operand.tmp 11), type := 0, pos := "l12_world.go:359", after := #[{ on := 4, ground := Go.Ground.data }, { on := 6, ground := Go.Ground.data }], guard := none }) (v := ?vb7) rfl (by kernel_rfl) (by kernel_rfl) (by kernel_rfl) (fun _ _ _ h => h) (Or.inl ⟨by rfl, ?hb7⟩) hHeld ?rb7
    case hb7 =>
      intro wS hSw
      (try dsimp only at hSw)
      go_simp
      try with_reducible rfl
    case rb7 =>
    simp only [Act.put, List.setIfInBounds_toArray, List.set_cons_zero, List.set_cons_succ]
    refine wpAnyH_ready (rs := [8]) (by kernel_rfl) (by simp) ?_
    refine AllReadyH.cons (o := { dst := some 13, op := Go.Op.load 63 (Go.Operand.tmp 12), type := 63, pos := "l12_world.go:359", after := #[{ on := 7, ground := Go.Ground.data }], guard := none }) rfl (fun K hK => ?_) AllReadyH.nil
    go_simp
    refine hK.out _ _ hHeld (fun hHeld => ?_)
    clear hK K
    try simp only [Act.put, List.setIfInBounds_toArray, List.set_cons_zero, List.set_cons_succ]
    refine wpAnyH_ready (rs := [9]) (by kernel_rfl) (by simp) ?_
    refine AllReadyH.cons (o := { dst := some 14, op := Go.Op.call { callee := Go.Callee.value (Go.Operand.func 110), args := #[Go.Operand.tmp 13], argTypes := #[63] }, type := 65, pos := "l12_world.go:359", after := #[{ on := 8, ground := Go.Ground.data }], guard := none }) rfl (fun K hK => ?_) AllReadyH.nil
    go_simp
    go_at_call 110
    refine (unhide HL).mono ?_
    rintro e w3 ⟨us, rfl, O, hb3⟩
    try go_wp2_with fail
    refine hK.out _ _ (hHeld.trans (ext_of_below hb3 _)) (fun hHeld => ?_)
    clear hK K
    try simp only [Act.put, List.setIfInBounds_toArray, List.set_cons_zero, List.set_cons_succ]
    refine wpAnyH_ready (rs := [10]) (by kernel_rfl) (by simp) ?_
    refine AllReadyH.cons (o := { dst := some 15, op := Go.Op.call { callee := Go.Callee.value (Go.Operand.func 109), args := #[Go.Operand.tmp 5, Go.Operand.tmp 14], argTypes := #[58, 65] }, type := 134, pos := "l12_world.go:359", after := #[{ on := 0, ground := Go.Ground.data }, { on := 9, ground := Go.Ground.data }, { on := 9, ground := Go.Ground.chain }], guard := none }) rfl (fun K hK => ?_) AllReadyH.nil
    go_simp
    go_at_call 109
    refine (setNode_bad g us _ w3 O.reads (unhide HC)).mono ?_
    rintro e w5 ⟨rfl, hb5⟩
    try go_wp2_with fail
    refine hK.out _ _ (hHeld.trans (ext_of_below hb5 _)) (fun hHeld => ?_)
    clear hK K
    try simp only [Act.put, List.setIfInBounds_toArray, List.set_cons_zero, List.set_cons_succ]
    refine wpAnyH_take (i := 11) (oi := { dst := some 16, op := Go.Op.extract (Go.Operand.tmp 15) 0, type := 4, pos := "l12_world.go:359", after := #[{ on := 10, ground := Go.Ground.data }], guard := none }) (v := ?vb11) rfl (by kernel_rfl) (by kernel_rfl) (by kernel_rfl) (fun _ _ _ h => h) (Or.inl ⟨by rfl, ?hb11⟩) hHeld ?rb11
    case hb11 =>
      intro wS hSw
      (try dsimp only at hSw)
      go_simp
      try with_reducible rfl
    case rb11 =>
    simp only [Act.put, List.setIfInBounds_toArray, List.set_cons_zero, List.set_cons_succ]
    refine wpAnyH_take (i := 12) (oi := { dst := some 17, op := Go.Op.extract (Go.Operand.tmp 15) 1, type := 2, pos := "l12_world.go:359", after := #[{ on := 10, ground := Go.Ground.data }], guard := none }) (v := ?vb12) rfl (by kernel_rfl) (by kernel_rfl) (by kernel_rfl) (fun _ _ _ h => h) (Or.inl ⟨by rfl, ?hb12⟩) hHeld ?rb12
    case hb12 =>
      intro wS hSw
      (try dsimp only at hSw)
      go_simp
      try with_reducible rfl
    case rb12 =>
    simp only [Act.put, List.setIfInBounds_toArray, List.set_cons_zero, List.set_cons_succ]
    refine wpAnyH_take (i := 13) (oi := { dst := some 3, op := Go.Op.assign (Go.Operand.tmp 16), type := 4, pos := "l12_world.go:359", after := #[{ on := 11, ground := Go.Ground.data }, { on := 10, ground := Go.Ground.chain }, { on := 0, ground := Go.Ground.phase }, { on := 1, ground := Go.Ground.phase }, { on := 2, ground := Go.Ground.phase }, { on := 3, ground := Go.Ground.phase }, { on := 4, ground := Go.Ground.phase }, { on := 5, ground := Go.Ground.phase }, { on := 6, ground := Go.Ground.phase }, { on := 7, ground := Go.Ground.phase }, { on := 8, ground := Go.Ground.phase }, { on := 9, ground := Go.Ground.phase }, { on := 10, ground := Go.Ground.phase }, { on := 11, ground := Go.Ground.phase }, { on := 12, ground := Go.Ground.phase }], guard := none }) (v := ?vb13) rfl (by kernel_rfl) (by kernel_rfl) (by kernel_rfl) (fun _ _ _ h => h) (Or.inl ⟨by rfl, ?hb13⟩) hHeld ?rb13
    case hb13 =>
      intro wS hSw
      (try dsimp only at hSw)
      go_simp
      try with_reducible rfl
    case rb13 =>
    simp only [Act.put, List.setIfInBounds_toArray, List.set_cons_zero, List.set_cons_succ]
    refine wpAnyH_take (i := 14) (oi := { dst := some 4, op := Go.Op.assign (Go.Operand.tmp 17), type := 2, pos := "l12_world.go:359", after := #[{ on := 12, ground := Go.Ground.data }, { on := 13, ground := Go.Ground.chain }, { on := 0, ground := Go.Ground.phase }, { on := 1, ground := Go.Ground.phase }, { on := 2, ground := Go.Ground.phase }, { on := 3, ground := Go.Ground.phase }, { on := 4, ground := Go.Ground.phase }, { on := 5, ground := Go.Ground.phase }, { on := 6, ground := Go.Ground.phase }, { on := 7, ground := Go.Ground.phase }, { on := 8, ground := Go.Ground.phase }, { on := 9, ground := Go.Ground.phase }, { on := 10, ground := Go.Ground.phase }, { on := 11, ground := Go.Ground.phase }, { on := 12, ground := Go.Ground.phase }, { on := 13, ground := Go.Ground.phase }], guard := none }) (v := ?vb14) rfl (by kernel_rfl) (by kernel_rfl) (by kernel_rfl) (fun _ _ _ h => h) (Or.inl ⟨by rfl, ?hb14⟩) hHeld ?rb14
    case hb14 =>
      intro wS hSw
      (try dsimp only at hSw)
      go_simp
      try with_reducible rfl
    case rb14 =>
    simp only [Act.put, List.setIfInBounds_toArray, List.set_cons_zero, List.set_cons_succ]
    refine wpAnyH_done (by kernel_rfl) ?_ _
    refine NoPanic.normal ?_
    have HE := hide (hHeld.mono (fun q _ e => e.1) : Ext (fun q => lo ≤ q) W w5)
    clear hHeld hb5 hb3 O HL HG HO
    go_wp2_with fail
    go_ret2
    exact ⟨false, rfl, fun h0 => absurd h0 (unhide HC), unhide HE⟩
end Go.Proofs.YtdnhmoppineegaaGreat

namespace Go.Proofs.YtdnhmoppineegaaGreat
open Go.RowKit

set_option maxRecDepth 10000 in
set_option maxHeartbeats 2000000 in
theorem syncMake (id : Int) (w : World) :
    Calls Tryz.prog 58 #[.int .i64 id] w fun e w' => e = .returned (.func (.func 108) #[] #[.pointer (some ⟨w.heap.size, 0, none⟩)]) ∧ w' = (w.alloc (.cells #[.int .i64 id] 2)) := by
  have hmf : ∀ (fn : Fn) (first cap : Array Value) (w : World), (Instr.makeFunc fn first cap).run Tryz.prog w = .ok (.func fn first cap) w := fun _ _ _ _ => rfl
  go_enter Tryz.func58, Tryz.ntmps58
  go_wp2_with fail
  go_ret
  exact ⟨rfl, rfl⟩
set_option maxRecDepth 100000 in
set_option maxHeartbeats 4000000 in
theorem implSyncWorld (cs : List Value) (x : DWorld) (id : Int) (w : World) (h : Lay.tWorld.Reads w cs x) (hf : Fits x) :
    Calls Tryz.prog 17 #[.agg cs.toArray, .int .i64 id] w fun e w' => ∃ cs', e = .returned (.agg cs'.toArray) ∧ Lay.tWorldResult.OwnIn w' cs' (syncWR x id) w.heap.size w'.heap.size ∧ Below w.heap.size w w' := by
  obtain ⟨a3, d3, a4, d4, a5, d5, a6, d6, rfl, -, -, -, -⟩ := open_World h
  have nb1 : Below w.heap.size w (w.alloc (.cells #[.int .i64 x.now, .int .i64 x.events, .int .i64 x.chain.epoch, .slice a3 x.chain.ids.length d3, .slice a4 x.nodes.length d4, .slice a5 x.msgs.length d5, .slice a6 x.history.length d6] 36)) := (Below.refl _ _).alloc (Nat.le_refl _) _
  have nb : Below w.heap.size w ((w.alloc (.cells #[.int .i64 x.now, .int .i64 x.events, .int .i64 x.chain.epoch, .slice a3 x.chain.ids.length d3, .slice a4 x.nodes.length d4, .slice a5 x.msgs.length d5, .slice a6 x.history.length d6] 36)).alloc (.cells #[.int .i64 0, .bool false, .int .i64 0, .int .i64 0, .int .i64 0, .slice none 0 0, .slice none 0 0, .slice none 0 0, .slice none 0 0] 38)) := nb1.alloc (by simp) _
  have HX : Hid (Box 0 #[.int .i64 x.now, .int .i64 x.events, .int .i64 x.chain.epoch, .slice a3 x.chain.ids.length d3, .slice a4 x.nodes.length d4, .slice a5 x.msgs.length d5, .slice a6 x.history.length d6] 36 ((w.alloc (.cells #[.int .i64 x.now, .int .i64 x.events, .int .i64 x.chain.epoch, .slice a3 x.chain.ids.length d3, .slice a4 x.nodes.length d4, .slice a5 x.msgs.length d5, .slice a6 x.history.length d6] 36)).alloc (.cells #[.int .i64 0, .bool false, .int .i64 0, .int .i64 0, .int .i64 0, .slice none 0 0, .slice none 0 0, .slice none 0 0, .slice none 0 0] 38)) w.heap.size) := (newBox (Nat.zero_le _)).grow _
  have HY : Hid (Box 0 #[.int .i64 0, .bool false, .int .i64 0, .int .i64 0, .int .i64 0, .slice none 0 0, .slice none 0 0, .slice none 0 0, .slice none 0 0] 38 ((w.alloc (.cells #[.int .i64 x.now, .int .i64 x.events, .int .i64 x.chain.epoch, .slice a3 x.chain.ids.length d3, .slice a4 x.nodes.length d4, .slice a5 x.msgs.length d5, .slice a6 x.history.length d6] 36)).alloc (.cells #[.int .i64 0, .bool false, .int .i64 0, .int .i64 0, .int .i64 0, .slice none 0 0, .slice none 0 0, .slice none 0 0, .slice none 0 0] 38)) (w.heap.size + 1)) := newBoxAt (Nat.zero_le _) (by simp)
  have hz0 : ((w.alloc (.cells #[.int .i64 x.now, .int .i64 x.events, .int .i64 x.chain.epoch, .slice a3 x.chain.ids.length d3, .slice a4 x.nodes.length d4, .slice a5 x.msgs.length d5, .slice a6 x.history.length d6] 36)).alloc (.cells #[.int .i64 0, .bool false, .int .i64 0, .int .i64 0, .int .i64 0, .slice none 0 0, .slice none 0 0, .slice none 0 0, .slice none 0 0] 38)).heap.size = w.heap.size + 2 := by simp
  have HR := hide (h.later nb)
  have HB := hide nb
  have HFT := hide hf
  clear nb1 nb h hf
  go_enter Tryz.func17, Tryz.ntmps17
  go_upto_region 1 with fail
  generalize (w.alloc (.cells #[.int .i64 x.now, .int .i64 x.events, .int .i64 x.chain.epoch, .slice a3 x.chain.ids.length d3, .slice a4 x.nodes.length d4, .slice a5 x.msgs.length d5, .slice a6 x.history.length d6] 36)).alloc (.cells #[.int .i64 0, .bool false, .int .i64 0, .int .i64 0, .int .i64 0, .slice none 0 0, .slice none 0 0, .slice none 0 0, .slice none 0 0] 38) = W1 at *
  have LI : Hid (∀ V, Below W1.heap.size W1 V → Calls Tryz.prog 57 #[.agg #[.int .i64 x.now, .int .i64 x.events, .int .i64 x.chain.epoch, .slice a3 x.chain.ids.length d3, .slice a4 x.nodes.length d4, .slice a5 x.msgs.length d5, .slice a6 x.history.length d6], .int .i64 id] V fun e w' => e = .returned (.int .i64 (idFaultR x id)) ∧ Below V.heap.size V w') := fun V hV => idFaultC _ x id V ((unhide HR).later hV)
  have LS : Hid (∀ V, Below W1.heap.size W1 V → Calls Tryz.prog 56 #[.agg #[.int .i64 x.now, .int .i64 x.events, .int .i64 x.chain.epoch, .slice a3 x.chain.ids.length d3, .slice a4 x.nodes.length d4, .slice a5 x.msgs.length d5, .slice a6 x.history.length d6], .int .i64 (idFaultR x id), .func (.func 108) #[] #[.pointer (some ⟨V.heap.size, 0, none⟩)]] (V.alloc (.cells #[.int .i64 id] 2)) fun e w' => ∃ cs', e = .returned (.agg cs'.toArray) ∧ Lay.tWorldResult.OwnIn w' cs' (syncWR x id) V.heap.size w'.heap.size ∧ Below V.heap.size V w') := by
    intro V hV
    have nv : Below V.heap.size V (V.alloc (.cells #[.int .i64 id] 2)) := (Below.refl _ _).alloc (Nat.le_refl _) _
    refine (steppedC 108 _ _ x (idFaultR x id) (syncR (nodeOf x id)).code true (putNode (nextW x) (syncR (nodeOf x id)).node) _ (fun a W => rfl) ((unhide HR).later (hV.trans (nv.mono hV.size))) (fun h0 => worldFault_zero (idFault_zero h0).1) (unhide HFT) (syncR_bd _) (idFault_bd x id) (fun h0 W hW => ?_)).mono ?_
    · obtain ⟨h1, h2⟩ := idFault_zero h0
      have hok := worldFault_zero h1
      obtain ⟨k, hk, rfl⟩ := nodeIn_at h2
      have hn := hok.nodes k hk
      rw [nodeOf_at hk]
      exact syncStepC _ k (V.heap.size) (nextW x) W (Box.keep (newBox (Nat.zero_le _)) hW) (by simp) hk hok.some.2 (syncR_id hn.1 hn.2.1)
    · rintro e w' ⟨cs', rfl, O, hb⟩
      rw [syncW_eq] at O
      exact ⟨cs', rfl, O.mono nv.size (Nat.le_refl _), nv.trans (hb.mono nv.size)⟩
  have hx := unhide HX
  have hxl := hx.lt
  have HD : Hid (Below W1.heap.size W1 W1.drew) := (Below.refl _ _).drew
  replace HY : Hid (Box 0 #[.int .i64 0, .bool false, .int .i64 0, .int .i64 0, .int .i64 0, .slice none 0 0, .slice none 0 0, .slice none 0 0, .slice none 0 0] 38 W1.drew (w.heap.size + 1)) := (unhide HY)
  refine wp_region_noPanic ?_
  refine wp_region_held_drew (S := fun w' => Ext (fun q => w.heap.size < q) W1 w') (by kernel_rfl) ((Ext.refl _ _).drew 1) (fun hHeld => ?_)
  generalize W1.drew = wD at hHeld HD HY ⊢
  refine wpAnyH_take (i := 0) (oi := { dst := some 5, op := Go.Op.load 36 (Go.Operand.tmp 2), type := 36, pos := "l12_world.go:416", after := #[], guard := none }) (v := ?vf0) rfl (by kernel_rfl) (by kernel_rfl) (by kernel_rfl) (fun _ _ _ h => h) (Or.inl ⟨by rfl, ?hf0⟩) hHeld ?rf0
  case hf0 =>
    intro wS hSw
    have bS := hx.ext hSw (fun e => Nat.lt_irrefl _ e)
    have q0 := Box.at bS 0 _ rfl
    have q1 := Box.at bS 1 _ rfl
    have q2 := Box.at bS 2 _ rfl
    have q3 := Box.at bS 3 _ rfl
    have q4 := Box.at bS 4 _ rfl
    have q5 := Box.at bS 5 _ rfl
    have q6 := Box.at bS 6 _ rfl
    simp only [List.getElem_toArray, List.getElem_cons_zero, List.getElem_cons_succ] at q0 q1 q2 q3 q4 q5 q6
    clear bS hSw
    (try dsimp only at hSw)
    go_simp
    try with_reducible rfl
  case rf0 =>
  simp only [Act.put, List.setIfInBounds_toArray, List.set_cons_zero, List.set_cons_succ]
  refine wpAnyH_take (i := 1) (oi := { dst := some 6, op := Go.Op.load 36 (Go.Operand.tmp 2), type := 36, pos := "l12_world.go:416", after := #[], guard := none }) (v := ?vf1) rfl (by kernel_rfl) (by kernel_rfl) (by kernel_rfl) (fun _ _ _ h => h) (Or.inl ⟨by rfl, ?hf1⟩) hHeld ?rf1
  case hf1 =>
    intro wS hSw
    have bS := hx.ext hSw (fun e => Nat.lt_irrefl _ e)
    have q0 := Box.at bS 0 _ rfl
    have q1 := Box.at bS 1 _ rfl
    have q2 := Box.at bS 2 _ rfl
    have q3 := Box.at bS 3 _ rfl
    have q4 := Box.at bS 4 _ rfl
    have q5 := Box.at bS 5 _ rfl
    have q6 := Box.at bS 6 _ rfl
    simp only [List.getElem_toArray, List.getElem_cons_zero, List.getElem_cons_succ] at q0 q1 q2 q3 q4 q5 q6
    clear bS hSw
    (try dsimp only at hSw)
    go_simp
    try with_reducible rfl
  case rf1 =>
  simp only [Act.put, List.setIfInBounds_toArray, List.set_cons_zero, List.set_cons_succ]
  refine wpAnyH_take (i := 2) (oi := { dst := some 7, op := Go.Op.move (Go.Operand.tmp 1), type := 2, pos := "l12_world.go:416", after := #[], guard := none }) (v := ?vf2) rfl (by kernel_rfl) (by kernel_rfl) (by kernel_rfl) (fun _ _ _ h => h) (Or.inl ⟨by rfl, ?hf2⟩) hHeld ?rf2
  case hf2 =>
    intro wS hSw
    (try dsimp only at hSw)
    go_simp
    try with_reducible rfl
  case rf2 =>
  simp only [Act.put, List.setIfInBounds_toArray, List.set_cons_zero, List.set_cons_succ]
  refine wpAnyH_take (i := 4) (oi := { dst := some 9, op := Go.Op.move (Go.Operand.tmp 1), type := 2, pos := "l12_world.go:416", after := #[], guard := none }) (v := ?vf4) rfl (by kernel_rfl) (by kernel_rfl) (by kernel_rfl) (fun _ _ _ h => h) (Or.inl ⟨by rfl, ?hf4⟩) hHeld ?rf4
  case hf4 =>
    intro wS hSw
    (try dsimp only at hSw)
    go_simp
    try with_reducible rfl
  case rf4 =>
  simp only [Act.put, List.setIfInBounds_toArray, List.set_cons_zero, List.set_cons_succ]
  refine wpAnyH_ready (rs := [3]) (by kernel_rfl) (by simp) ?_
  refine AllReadyH.cons (o := { dst := some 8, op := Go.Op.call { callee := Go.Callee.value (Go.Operand.func 57), args := #[Go.Operand.tmp 6, Go.Operand.tmp 7], argTypes := #[36, 2] }, type := 2, pos := "l12_world.go:416", after := #[{ on := 1, ground := Go.Ground.data }, { on := 2, ground := Go.Ground.data }], guard := none }) rfl (fun K hK => ?_) AllReadyH.nil
  go_simp
  go_at_call 57
  refine (unhide LI _ (unhide HD)).mono ?_
  rintro e u1 ⟨rfl, hb1⟩
  have HD1 := hide ((unhide HD).trans (hb1.mono (unhide HD).size))
  have HY1 := hide ((unhide HY).keep hb1)
  try go_wp2_with fail
  have hH1 := hHeld.trans (ext_of_below hb1 (fun q => w.heap.size < q))
  refine hK.out _ _ (hHeld.trans (ext_of_below hb1 _)) (fun hHeld => ?_)
  clear hK K
  try simp only [Act.put, List.setIfInBounds_toArray, List.set_cons_zero, List.set_cons_succ]
  refine wpAnyH_ready (rs := [5]) (by kernel_rfl) (by simp) ?_
  refine AllReadyH.cons (o := { dst := some 10, op := Go.Op.call { callee := Go.Callee.value (Go.Operand.func 58), args := #[Go.Operand.tmp 9], argTypes := #[2] }, type := 74, pos := "l12_world.go:416", after := #[{ on := 4, ground := Go.Ground.data }, { on := 3, ground := Go.Ground.chain }], guard := none }) rfl (fun K hK => ?_) AllReadyH.nil
  go_simp
  go_at_call 58
  refine (syncMake id _).mono ?_
  rintro e u2 ⟨rfl, rfl⟩
  try go_wp2_with fail
  refine hK.out _ _ (hHeld.trans (ext_of_below ((Below.refl _ _).alloc (Nat.le_refl _) _) _)) (fun hHeld => ?_)
  clear hK K
  try simp only [Act.put, List.setIfInBounds_toArray, List.set_cons_zero, List.set_cons_succ]
  refine wpAnyH_ready (rs := [6]) (by kernel_rfl) (by simp) ?_
  refine AllReadyH.cons (o := { dst := some 11, op := Go.Op.call { callee := Go.Callee.value (Go.Operand.func 56), args := #[Go.Operand.tmp 5, Go.Operand.tmp 8, Go.Operand.tmp 10], argTypes := #[36, 2, 74] }, type := 38, pos := "l12_world.go:416", after := #[{ on := 0, ground := Go.Ground.data }, { on := 3, ground := Go.Ground.data }, { on := 5, ground := Go.Ground.data }, { on := 5, ground := Go.Ground.chain }], guard := none }) rfl (fun K hK => ?_) AllReadyH.nil
  go_simp
  go_at_call 56
  refine (unhide LS u1 (unhide HD1)).mono ?_
  rintro e u3 ⟨cs, rfl, O, hb3⟩
  obtain ⟨a5r, d5r, a6r, d6r, a7r, d7r, a8r, d8r, rfl, -⟩ := open_WorldResult O.reads
  have hy := (unhide HY1).keep hb3
  try go_wp2_with fail
  refine hK.out _ _ (hH1.trans (ext_of_below hb3 _)) (fun hHeld => ?_)
  clear hK K
  try simp only [Act.put, List.setIfInBounds_toArray, List.set_cons_zero, List.set_cons_succ]
  refine wpAnyH_ready (rs := [7]) (by kernel_rfl) (by simp) ?_
  refine AllReadyH.cons (o := { dst := none, op := Go.Op.store 38 (Go.Operand.tmp 4) (Go.Operand.tmp 11), type := 0, pos := "l12_world.go:416", after := #[{ on := 6, ground := Go.Ground.data }, { on := 6, ground := Go.Ground.chain }, { on := 0, ground := Go.Ground.phase }, { on := 1, ground := Go.Ground.phase }, { on := 2, ground := Go.Ground.phase }, { on := 3, ground := Go.Ground.phase }, { on := 4, ground := Go.Ground.phase }, { on := 5, ground := Go.Ground.phase }, { on := 6, ground := Go.Ground.phase }], guard := none }) rfl (fun K hK => ?_) AllReadyH.nil
  generalize hyr : syncWR x id = yr at *
  have HYR := hide hyr
  clear hyr
  have r0 := Box.at hy 0 _ rfl
  have r1 := Box.at hy 1 _ rfl
  have r2 := Box.at hy 2 _ rfl
  have r3 := Box.at hy 3 _ rfl
  have r4 := Box.at hy 4 _ rfl
  have r5 := Box.at hy 5 _ rfl
  have r6 := Box.at hy 6 _ rfl
  have r7 := Box.at hy 7 _ rfl
  have r8 := Box.at hy 8 _ rfl
  simp only [List.getElem_toArray, List.getElem_cons_zero, List.getElem_cons_succ] at r0 r1 r2 r3 r4 r5 r6 r7 r8
  have rf := Box.soft hy
  have rl := hy.lt
  go_simp
  refine hK.out _ _ (Ext.setCell (Ext.setCell (Ext.setCell (Ext.setCell (Ext.setCell (Ext.setCell (Ext.setCell (Ext.setCell (Ext.setCell hHeld ⟨w.heap.size + 1, 0, none⟩ (.int .i64 yr.code) (Nat.lt_succ_self _)) ⟨w.heap.size + 1, 1, none⟩ (.bool yr.moved) (Nat.lt_succ_self _)) ⟨w.heap.size + 1, 2, none⟩ (.int .i64 yr.world.now) (Nat.lt_succ_self _)) ⟨w.heap.size + 1, 3, none⟩ (.int .i64 yr.world.events) (Nat.lt_succ_self _)) ⟨w.heap.size + 1, 4, none⟩ (.int .i64 yr.world.chain.epoch) (Nat.lt_succ_self _)) ⟨w.heap.size + 1, 5, none⟩ (.slice a5r yr.world.chain.ids.length d5r) (Nat.lt_succ_self _)) ⟨w.heap.size + 1, 6, none⟩ (.slice a6r yr.world.nodes.length d6r) (Nat.lt_succ_self _)) ⟨w.heap.size + 1, 7, none⟩ (.slice a7r yr.world.msgs.length d7r) (Nat.lt_succ_self _)) ⟨w.heap.size + 1, 8, none⟩ (.slice a8r yr.world.history.length d8r) (Nat.lt_succ_self _)) (fun hHeld => ?_)
  clear hK K
  try simp only [Act.put, List.setIfInBounds_toArray, List.set_cons_zero, List.set_cons_succ]
  refine wpAnyH_done (by kernel_rfl) ?_ _
  refine NoPanic.normal ?_
  have hy9 := box_set9W hy (.int .i64 yr.code) (.bool yr.moved) (.int .i64 yr.world.now) (.int .i64 yr.world.events) (.int .i64 yr.world.chain.epoch) (.slice a5r yr.world.chain.ids.length d5r) (.slice a6r yr.world.nodes.length d6r) (.slice a7r yr.world.msgs.length d7r) (.slice a8r yr.world.history.length d8r)
  have e2 : Ext (fun q => q = w.heap.size + 1) u3 (setAll u3 (w.heap.size + 1) 0 [.int .i64 yr.code, .bool yr.moved, .int .i64 yr.world.now, .int .i64 yr.world.events, .int .i64 yr.world.chain.epoch, .slice a5r yr.world.chain.ids.length d5r, .slice a6r yr.world.nodes.length d6r, .slice a7r yr.world.msgs.length d7r, .slice a8r yr.world.history.length d8r]) := ext_setAll _ (Ext.refl _ _) _ _ _ rfl
  have hs1 := hb1.size
  have hs2 := (unhide HB).size
  have hs3 := (unhide HD).size
  have HO := hide (O.ext e2 (fun q h1 h2 h3 => by omega))
  have HB9 := hide (below_setAll (((unhide HB).trans ((unhide HD1).mono (unhide HB).size)).trans (hb3.mono (by omega))) (w.heap.size + 1) 0 [.int .i64 yr.code, .bool yr.moved, .int .i64 yr.world.now, .int .i64 yr.world.events, .int .i64 yr.world.chain.epoch, .slice a5r yr.world.chain.ids.length d5r, .slice a6r yr.world.nodes.length d6r, .slice a7r yr.world.msgs.length d7r, .slice a8r yr.world.history.length d8r] (by omega))
  have hsz : Hid ((setAll u3 (w.heap.size + 1) 0 [.int .i64 yr.code, .bool yr.moved, .int .i64 yr.world.now, .int .i64 yr.world.events, .int .i64 yr.world.chain.epoch, .slice a5r yr.world.chain.ids.length d5r, .slice a6r yr.world.nodes.length d6r, .slice a7r yr.world.msgs.length d7r, .slice a8r yr.world.history.length d8r]).heap.size = u3.heap.size) := size_setAll _ _ _ _
  clear r0 r1 r2 r3 r4 r5 r6 r7 r8 rf rl
  have r0 := Box.at hy9 0 _ rfl
  have r1 := Box.at hy9 1 _ rfl
  have r2 := Box.at hy9 2 _ rfl
  have r3 := Box.at hy9 3 _ rfl
  have r4 := Box.at hy9 4 _ rfl
  have r5 := Box.at hy9 5 _ rfl
  have r6 := Box.at hy9 6 _ rfl
  have r7 := Box.at hy9 7 _ rfl
  have r8 := Box.at hy9 8 _ rfl
  simp only [List.getElem_toArray, List.getElem_cons_zero, List.getElem_cons_succ] at r0 r1 r2 r3 r4 r5 r6 r7 r8
  clear hy hy9 hHeld e2 O hb3 hb1
  go_wp2_with fail
  refine bodyPost_ret (v := .agg #[.int .i64 yr.code, .bool yr.moved, .int .i64 yr.world.now, .int .i64 yr.world.events, .int .i64 yr.world.chain.epoch, .slice a5r yr.world.chain.ids.length d5r, .slice a6r yr.world.nodes.length d6r, .slice a7r yr.world.msgs.length d7r, .slice a8r yr.world.history.length d8r]) (by simp only [setAll] at r0 r1 r2 r3 r4 r5 r6 r7 r8; simp [results, Tryz.results17, go_sem, r0, r1, r2, r3, r4, r5, r6, r7, r8]) rfl ?_
  rw [unhide HYR]
  exact ⟨_, rfl, (unhide HO).mono (by omega) (Nat.le_of_eq (unhide hsz).symm), unhide HB9⟩
end Go.Proofs.YtdnhmoppineegaaGreat

namespace Go.Proofs.YtdnhmoppineegaaGreat
open Go.RowKit

theorem writes_few9 {ws : List DWrite} (h : ∀ x ∈ ws, wF x = 0) : cntAll Lay.tWrite.cnt ws ≤ 10 * ws.length := by
  induction ws with
  | nil => simp [cntAll]
  | cons x xs ih =>
    have h1 := ih fun y hy => h y (List.mem_cons_of_mem _ hy)
    have h2 : x.vec.length ≤ 3 := by
      obtain ⟨-, -, -, hk⟩ := writeFault_zero (h x (by simp))
      rcases hk with ⟨-, hv⟩ | ⟨-, hv⟩
      · have := (vecFault_zero hv).1; omega
      · rw [hv]; simp
    have h3 : Lay.tWrite.cnt x = x.vec.length + 4 := by
      have e : cntAll Lay.int.cnt x.vec = x.vec.length := by
        generalize x.vec = l
        induction l with
        | nil => rfl
        | cons y ys ihy => simp only [cntAll, List.length_cons, ihy]; show 1 + ys.length = _; omega
      show 1 + (1 + (cntAll Lay.int.cnt x.vec + (1 + 1))) = _
      omega
    simp only [cntAll, List.length_cons]
    omega
theorem node_few (y : DNodeResult) (h : ∀ x ∈ y.node.writes, wF x = 0) (hl : y.node.writes.length ≤ 1000) : Lay.tNodeResult.vcnt y ≤ 100000000 := by
  rw [vcnt_NodeResult, vcnt_Node]
  show cntAll Lay.tWrite.cnt y.node.writes ≤ 100000000
  have := writes_few9 h
  omega
theorem bad_few (c : Int) : Lay.tNodeResult.vcnt (badNode c) ≤ 100000000 := node_few _ (fun x hx => by cases hx) (by simp [badNode, noNode])
theorem syncR_few (x : DNode) : Lay.tNodeResult.vcnt (syncR x) ≤ 100000000 := by
  unfold syncR
  split
  · rename_i h
    have hok := (askedN_zero h).1
    exact node_few _ hok.ws (by have := hok.len; simp only; omega)
  · exact bad_few _
theorem cleanR_few (x : DNode) (i : Int) : Lay.tNodeResult.vcnt (cleanR x i) ≤ 100000000 := by
  unfold cleanR
  split
  · rename_i h
    have hok := (askedN_zero h).1
    split
    · exact node_few _ hok.ws (by have := hok.len; simp only; omega)
    · exact bad_few _
  · exact bad_few _
theorem crashR_few (x : DNode) (i : Int) : Lay.tNodeResult.vcnt (crashR x i) ≤ 100000000 := by
  unfold crashR
  split
  · rename_i h
    have hok := (askedN_zero h).1
    split
    · exact node_few _ (fun y hy => hok.ws y (List.mem_of_mem_take hy)) (by have := hok.len; simp only [crashN, List.length_take]; omega)
    · exact bad_few _
  · exact bad_few _
end Go.Proofs.YtdnhmoppineegaaGreat

namespace Go.Proofs.YtdnhmoppineegaaGreat
open Go.RowKit

theorem ints_cnt (l : List Int) : cntAll Lay.int.cnt l = l.length := by
  induction l with
  | nil => rfl
  | cons y ys ih => simp only [cntAll, List.length_cons, ih]; show 1 + ys.length = _; omega
structure FewW (y : DWorld) : Prop where
  ids : y.chain.ids.length ≤ 1000
  len : y.nodes.length ≤ 1000
  nodes : ∀ n ∈ y.nodes, n.writes.length ≤ 1000 ∧ ∀ v ∈ n.writes, wF v = 0
  mlen : y.msgs.length ≤ 1000
  msgs : ∀ m ∈ y.msgs, m.write.vec.length ≤ 1000
  hist : cntAll Lay.tEntry.cnt y.history ≤ 20000000
theorem nodes_cnt {ns : List DNode} (h : ∀ n ∈ ns, n.writes.length ≤ 1000 ∧ ∀ v ∈ n.writes, wF v = 0) : cntAll Lay.tNode.cnt ns ≤ 10006 * ns.length := by
  induction ns with
  | nil => simp [cntAll]
  | cons n ns ih =>
    have h1 := ih fun m hm => h m (List.mem_cons_of_mem _ hm)
    obtain ⟨h2, h3⟩ := h n (by simp)
    have h4 := writes_few9 h3
    have h5 : Lay.tNode.cnt n = cntAll Lay.tWrite.cnt n.writes + 6 := by
      show 1 + (1 + (1 + (1 + (cntAll Lay.tWrite.cnt n.writes + (1 + 1))))) = _
      omega
    simp only [cntAll, List.length_cons]
    omega
theorem msg_vec9 {x : DMsg} (h : msgFault x = 0) : x.write.vec.length ≤ 3 := by
  unfold msgFault at h
  split at h
  · simp at h
  · rename_i h1
    split at h
    · simp at h
    · split at h
      · rename_i h3
        have h4 : noW x.write := Decidable.byContradiction fun q => h1 (Or.inr (Or.inr ⟨h3, q⟩))
        have := h4.2.2.2.2
        omega
      · obtain ⟨-, -, -, hk⟩ := writeFault_zero h
        rcases hk with ⟨-, hv⟩ | ⟨-, hv⟩
        · have := (vecFault_zero hv).1; omega
        · rw [hv]; simp
theorem msgs_cnt {ms : List DMsg} (h : ∀ m ∈ ms, m.write.vec.length ≤ 1000) : cntAll Lay.tMsg.cnt ms ≤ 1009 * ms.length := by
  induction ms with
  | nil => simp [cntAll]
  | cons m ms ih =>
    have h1 := ih fun q hq => h q (List.mem_cons_of_mem _ hq)
    have h2 := h m (by simp)
    have h5 : Lay.tMsg.cnt m = m.write.vec.length + 9 := by
      show 1 + (1 + (1 + (1 + (1 + (1 + (1 + (cntAll Lay.int.cnt m.write.vec + (1 + 1)))))))) = _
      rw [ints_cnt]
      omega
    simp only [cntAll, List.length_cons]
    omega
theorem hits_cnt (hs : List DHit) : cntAll Lay.tHit.cnt hs = 2 * hs.length := by
  induction hs with
  | nil => rfl
  | cons y ys ih => simp only [cntAll, List.length_cons, ih]; show 1 + 1 + 2 * ys.length = _; omega
theorem entries_cnt (es : List DEntry) : cntAll Lay.tEntry.cnt es ≤ 8 * es.length + 2 * cntAll Lay.tEntry.sz es := by
  induction es with
  | nil => simp [cntAll]
  | cons e es ih =>
    have h1 : Lay.tEntry.cnt e = 8 + e.query.length + e.vec.length + 2 * e.hits.length := by
      show 1 + (1 + (1 + (1 + (cntAll Lay.int.cnt e.query + (1 + (1 + (1 + (1 + (cntAll Lay.int.cnt e.vec + cntAll Lay.tHit.cnt e.hits))))))))) = _
      rw [ints_cnt, ints_cnt, hits_cnt]
      omega
    have h2 : e.query.length + e.vec.length + e.hits.length ≤ Lay.tEntry.sz e := by
      show _ ≤ 0 + (0 + (0 + (0 + ((e.query.length + cntAll Lay.int.sz e.query) + (0 + (0 + (0 + (0 + ((e.vec.length + cntAll Lay.int.sz e.vec) + (e.hits.length + cntAll Lay.tHit.sz e.hits))))))))))
      omega
    simp only [cntAll, List.length_cons]
    omega
theorem askedW_ok {x : DWorld} {id : Int} (h : askedW x id = 0) : worldFault x = 0 := by
  unfold askedW at h
  split at h
  · rename_i q; exact absurd h q
  · rename_i q; simpa using q
theorem few_of_ok {x : DWorld} (h : WorldOK x) (hs : Lay.tWorld.sz x ≤ 1048576) : FewW x := by
  have hx : Lay.tWorld.sz x = 0 + (0 + ((0 + (x.chain.ids.length + cntAll Lay.int.sz x.chain.ids)) + ((x.nodes.length + cntAll Lay.tNode.sz x.nodes) + ((x.msgs.length + cntAll Lay.tMsg.sz x.msgs) + (x.history.length + cntAll Lay.tEntry.sz x.history))))) := rfl
  have h1 := (chainFault_zero h.chain).len
  have h2 := entries_cnt x.history
  refine ⟨by omega, by have := h.some; omega, fun n hn => ?_, by have := (netFault_zero h.net).1; omega, fun m hm => ?_, by omega⟩
  · obtain ⟨k, hk, rfl⟩ := List.getElem_of_mem hn
    have hok := nodeFault_zero (h.nodes k hk).1
    exact ⟨by have := hok.len; omega, hok.ws⟩
  · have := msg_vec9 ((netFault_zero h.net).2 m hm)
    omega
theorem few_vcnt {y : DWorldResult} (h : FewW y.world) : Lay.tWorldResult.vcnt y ≤ 100000000 := by
  rw [vcnt_WorldResult, vcnt_World, vcnt_Chain]
  show cntAll Lay.int.cnt y.world.chain.ids + cntAll Lay.tNode.cnt y.world.nodes + cntAll Lay.tMsg.cnt y.world.msgs + cntAll Lay.tEntry.cnt y.world.history ≤ 100000000
  rw [ints_cnt]
  have h1 := nodes_cnt h.nodes
  have h2 := msgs_cnt h.msgs
  have h3 := h.ids
  have h4 := h.len
  have h5 := h.mlen
  have h6 := h.hist
  omega
theorem badW_few (c : Int) : Lay.tWorldResult.vcnt (badWorld c) ≤ 100000000 := few_vcnt ⟨by simp [badWorld, noWorld, noChain], by simp [badWorld, noWorld], by simp [badWorld, noWorld], by simp [badWorld, noWorld], by simp [badWorld, noWorld], by simp [badWorld, noWorld, cntAll]⟩
theorem few_next {x : DWorld} (h : FewW x) : FewW (nextW x) := ⟨h.ids, h.len, h.nodes, h.mlen, h.msgs, h.hist⟩
theorem few_setN {y : DWorld} {k : Nat} {n : DNode} (h : FewW y) (hn : n.writes.length ≤ 1000 ∧ ∀ v ∈ n.writes, wF v = 0) : FewW (setN y k n) := by
  refine ⟨h.ids, by show (y.nodes.set k n).length ≤ 1000; simpa using h.len, fun m hm => ?_, h.mlen, h.msgs, h.hist⟩
  rcases List.mem_or_eq_of_mem_set hm with q | rfl
  · exact h.nodes m q
  · exact hn
theorem few_put {y : DWorld} {n : DNode} (h : FewW y) (hn : n.writes.length ≤ 1000 ∧ ∀ v ∈ n.writes, wF v = 0) : FewW (putNode y n) := few_setN (k := (n.id - 1).toNat) h hn
theorem putWR_few {x : DWorld} {r : DNodeResult} (h : FewW x) (hr : r.code = 0 → r.node.writes.length ≤ 1000 ∧ ∀ v ∈ r.node.writes, wF v = 0) : Lay.tWorldResult.vcnt (putWR x r) ≤ 100000000 := by
  unfold putWR
  split
  · exact badW_few _
  · rename_i q
    exact few_vcnt (few_put (few_next h) (hr (by simpa using q)))
theorem syncR_ws (n : DNode) : (syncR n).node.writes.length ≤ 1000 ∧ ∀ v ∈ (syncR n).node.writes, wF v = 0 := by
  unfold syncR
  split
  · rename_i h
    have hok := (askedN_zero h).1
    exact ⟨by have := hok.len; simp only; omega, hok.ws⟩
  · exact ⟨by simp [badNode, noNode], fun v hv => by simp [badNode, noNode] at hv⟩
theorem crashR_ws (n : DNode) (k : Int) : (crashR n k).node.writes.length ≤ 1000 ∧ ∀ v ∈ (crashR n k).node.writes, wF v = 0 := by
  unfold crashR
  split
  · rename_i h
    have hok := (askedN_zero h).1
    split
    · exact ⟨by have := hok.len; simp only [crashN, List.length_take]; omega, fun y hy => hok.ws y (List.mem_of_mem_take hy)⟩
    · exact ⟨by simp [badNode, noNode], fun v hv => by simp [badNode, noNode] at hv⟩
  · exact ⟨by simp [badNode, noNode], fun v hv => by simp [badNode, noNode] at hv⟩
theorem nodeOf_ws {x : DWorld} (h : FewW x) (id : Int) : (nodeOf x id).writes.length ≤ 1000 ∧ ∀ v ∈ (nodeOf x id).writes, wF v = 0 := by
  by_cases hk : (id - 1).toNat < x.nodes.length
  · have e : nodeOf x id = x.nodes[(id - 1).toNat] := by
      unfold nodeOf
      generalize (id - 1).toNat = j at *
      simp [List.getD, hk]
    rw [e]
    exact h.nodes _ (List.getElem_mem hk)
  · have e : nodeOf x id = noNode := by
      unfold nodeOf
      generalize (id - 1).toNat = j at *
      simp [List.getD, List.getElem?_eq_none (by omega : x.nodes.length ≤ j)]
    rw [e]
    exact ⟨by simp [noNode], fun v hv => by simp [noNode] at hv⟩
theorem syncWR_few {x : DWorld} {id : Int} (hs : Lay.tWorld.sz x ≤ 1048576) : Lay.tWorldResult.vcnt (syncWR x id) ≤ 100000000 := by
  unfold syncWR
  split
  · exact badW_few _
  · rename_i q
    exact putWR_few (few_of_ok (worldFault_zero (askedW_ok (by simpa using q))) hs) (fun _ => syncR_ws _)
theorem crashWR_few {x : DWorld} {id k : Int} (hs : Lay.tWorld.sz x ≤ 1048576) : Lay.tWorldResult.vcnt (crashWR x id k) ≤ 100000000 := by
  unfold crashWR
  split
  · exact badW_few _
  · rename_i q
    exact putWR_few (few_of_ok (worldFault_zero (askedW_ok (by simpa using q))) hs) (fun _ => crashR_ws _ _)
theorem startWR_few {x : DWorld} {id : Int} (hs : Lay.tWorld.sz x ≤ 1048576) : Lay.tWorldResult.vcnt (startWR x id) ≤ 100000000 := by
  unfold startWR
  split
  · exact badW_few _
  · rename_i q
    have hF := few_of_ok (worldFault_zero (askedW_ok (by simpa using q))) hs
    split
    · exact badW_few _
    · exact few_vcnt (few_put (few_next hF) (nodeOf_ws hF id))
end Go.Proofs.YtdnhmoppineegaaGreat

namespace Go.Proofs.YtdnhmoppineegaaGreat
open Go.RowKit

theorem lawSyncWorld (cs : List Value) (x : DWorld) (id : Int) (w : World) (h : Lay.tWorld.Reads w cs x) :
    Calls Tryz.prog 3 #[.agg cs.toArray, .int .i64 id] w fun e w' => e = .returned (.bool true) ∧ Below w.heap.size w w' := by
  by_cases hn : Lay.tWorld.sz x ≤ 1048576
  · refine lawx_SyncWorld cs x id (syncWR x id) w h hn (fun W a ha => specSyncWorld a x id W ha (fits_of_sz hn)) (fun W a ha => implSyncWorld a x id W ha (fits_of_sz hn)) (syncWR_few hn)
  · exact lawover_SyncWorld cs x id w h (by omega)

end Go.Proofs.YtdnhmoppineegaaGreat

namespace Go.Proofs.YtdnhmoppineegaaGreat
open Go.RowKit

set_option maxRecDepth 10000 in
theorem opens_Chain : Opens Lay.tChain 24 := by
  intro H enc W base spare held fuel cs x h
  obtain ⟨xs, n, _, _, hlen, hl, hfi⟩ := DataW.trod_struct Tryz.underlying24 h
  rw [show Tryz.prog.cellsOf 24 = 2 by kernel_rfl] at hlen
  match cs, hlen with
  | [c0, c1], _ =>
  match xs, hl with
  | [y0, y1], _ =>
  have z0 : Tryz.prog.cellsOf 2 = 1 := by kernel_rfl
  have z1 : Tryz.prog.cellsOf 22 = 1 := by kernel_rfl
  have f0 : DataW.trod enc Tryz.prog W base spare held n 2 (([c0, c1].drop 0).take (Tryz.prog.cellsOf 2)) = some y0 := hfi 0 _ rfl
  rw [z0] at f0
  obtain ⟨d0, r0⟩ := (opens_int Tryz.underlying2) enc W base spare held n _ _ f0
  have f1 : DataW.trod enc Tryz.prog W base spare held n 22 (([c0, c1].drop 1).take (Tryz.prog.cellsOf 22)) = some y1 := hfi 1 _ rfl
  rw [z1] at f1
  obtain ⟨d1, r1⟩ := (opens_sl Tryz.underlying22 (by kernel_rfl) (by decide) (opens_int Tryz.underlying2)) enc W base spare held n _ _ f1
  exact ⟨⟨d0, d1⟩, (reads_pair r0 r1)⟩

end Go.Proofs.YtdnhmoppineegaaGreat

namespace Go.Proofs.YtdnhmoppineegaaGreat
open Go.RowKit

set_option maxRecDepth 10000 in
theorem opens_Write : Opens Lay.tWrite 116 := by
  intro H enc W base spare held fuel cs x h
  obtain ⟨xs, n, _, _, hlen, hl, hfi⟩ := DataW.trod_struct Tryz.underlying116 h
  rw [show Tryz.prog.cellsOf 116 = 5 by kernel_rfl] at hlen
  match cs, hlen with
  | [c0, c1, c2, c3, c4], _ =>
  match xs, hl with
  | [y0, y1, y2, y3, y4], _ =>
  have z0 : Tryz.prog.cellsOf 2 = 1 := by kernel_rfl
  have z1 : Tryz.prog.cellsOf 22 = 1 := by kernel_rfl
  have f0 : DataW.trod enc Tryz.prog W base spare held n 2 (([c0, c1, c2, c3, c4].drop 0).take (Tryz.prog.cellsOf 2)) = some y0 := hfi 0 _ rfl
  rw [z0] at f0
  obtain ⟨d0, r0⟩ := (opens_int Tryz.underlying2) enc W base spare held n _ _ f0
  have f1 : DataW.trod enc Tryz.prog W base spare held n 2 (([c0, c1, c2, c3, c4].drop 1).take (Tryz.prog.cellsOf 2)) = some y1 := hfi 1 _ rfl
  rw [z0] at f1
  obtain ⟨d1, r1⟩ := (opens_int Tryz.underlying2) enc W base spare held n _ _ f1
  have f2 : DataW.trod enc Tryz.prog W base spare held n 22 (([c0, c1, c2, c3, c4].drop 2).take (Tryz.prog.cellsOf 22)) = some y2 := hfi 2 _ rfl
  rw [z1] at f2
  obtain ⟨d2, r2⟩ := (opens_sl Tryz.underlying22 (by kernel_rfl) (by decide) (opens_int Tryz.underlying2)) enc W base spare held n _ _ f2
  have f3 : DataW.trod enc Tryz.prog W base spare held n 2 (([c0, c1, c2, c3, c4].drop 3).take (Tryz.prog.cellsOf 2)) = some y3 := hfi 3 _ rfl
  rw [z0] at f3
  obtain ⟨d3, r3⟩ := (opens_int Tryz.underlying2) enc W base spare held n _ _ f3
  have f4 : DataW.trod enc Tryz.prog W base spare held n 2 (([c0, c1, c2, c3, c4].drop 4).take (Tryz.prog.cellsOf 2)) = some y4 := hfi 4 _ rfl
  rw [z0] at f4
  obtain ⟨d4, r4⟩ := (opens_int Tryz.underlying2) enc W base spare held n _ _ f4
  exact ⟨⟨d0, d1, d2, d3, d4⟩, (reads_pair r0 (reads_pair r1 (reads_pair r2 (reads_pair r3 r4))))⟩

end Go.Proofs.YtdnhmoppineegaaGreat
