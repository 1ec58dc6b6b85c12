/-
  Texts of this proof in one: ImplTakeW, SpecSeen, AppWriteAt, SpecApp5, SpecTake, SpecTakeW, ImplSyncN, ImplCrashN, ImplInts, ImplSame, ImplLast, ImplSeenAt.
  Their conditions stand in their theorems.
-/
import Derived.Test.YtbogjepkdcknfaaGreatDoorNo06
import Derived.Test.YtbogjepkdcknfaaGreatDoorNo02
import Derived.Deep.RegionHeld3
import Derived.Test.YtbogjepkdcknfaaGreatDoorNo04
import Derived.Test.YtbogjepkdcknfaaGreatDoorNo01
import Derived.Test.YtbogjepkdcknfaaGreatDoorChecked
import Derived.BigQuiet
import Derived.Deep.QuietTactic
import Derived.WalkSmall
import Derived.Test.YtbogjepkdcknfaaGreatDoorNo05

namespace Go.Proofs.YtbogjepkdcknfaaGreatDoor
open Go.RowKit

set_option maxRecDepth 10000 in
set_option maxHeartbeats 4000000 in
theorem implTakeWrite (cs : List Value) (x : DNode) (us : List Value) (y : DWrite) (w : World) (hE : Errs w) (h : Lay.tNode.Reads w cs x) (hy : Lay.tWrite.Reads w us y) :
    Calls Tryz.prog 6 #[.agg cs.toArray, .agg us.toArray] w fun e w' => ∃ cs, e = .returned (.agg cs.toArray) ∧ Lay.tNodeResult.OwnIn w' cs (takeR x y) w.heap.size w'.heap.size ∧ Below w.heap.size w w' := by
  have hN := h
  have hV := hy
  obtain ⟨a4, d4, rfl, R4⟩ := open_Node h
  obtain ⟨a2, d2, rfl, R2⟩ := open_Write hy
  clear h hy
  have nb : Below w.heap.size w (((w.alloc (.cells #[.int .i64 x.id, .bool x.up, .int .i64 x.epoch, .int .i64 x.lease, .slice a4 x.writes.length d4, .int .i64 x.sure, .int .i64 x.clean] 26)).alloc (.cells #[.int .i64 y.kind, .int .i64 y.id, .slice a2 y.vec.length d2, .int .i64 y.session, .int .i64 y.seq] 29)).alloc (.cells #[.int .i64 0, .int .i64 0, .int .i64 0, .bool false, .int .i64 0, .int .i64 0, .slice none 0 0, .int .i64 0, .int .i64 0] 33)) := (((Below.refl _ _).alloc (Nat.le_refl _) _).alloc (by simp) _).alloc (by simp; omega) _
  have bX : Box 0 #[.int .i64 x.id, .bool x.up, .int .i64 x.epoch, .int .i64 x.lease, .slice a4 x.writes.length d4, .int .i64 x.sure, .int .i64 x.clean] 26 (((w.alloc (.cells #[.int .i64 x.id, .bool x.up, .int .i64 x.epoch, .int .i64 x.lease, .slice a4 x.writes.length d4, .int .i64 x.sure, .int .i64 x.clean] 26)).alloc (.cells #[.int .i64 y.kind, .int .i64 y.id, .slice a2 y.vec.length d2, .int .i64 y.session, .int .i64 y.seq] 29)).alloc (.cells #[.int .i64 0, .int .i64 0, .int .i64 0, .bool false, .int .i64 0, .int .i64 0, .slice none 0 0, .int .i64 0, .int .i64 0] 33)) w.heap.size := ((newBox (Nat.zero_le _)).grow _).grow _
  have bY : Box 0 #[.int .i64 y.kind, .int .i64 y.id, .slice a2 y.vec.length d2, .int .i64 y.session, .int .i64 y.seq] 29 (((w.alloc (.cells #[.int .i64 x.id, .bool x.up, .int .i64 x.epoch, .int .i64 x.lease, .slice a4 x.writes.length d4, .int .i64 x.sure, .int .i64 x.clean] 26)).alloc (.cells #[.int .i64 y.kind, .int .i64 y.id, .slice a2 y.vec.length d2, .int .i64 y.session, .int .i64 y.seq] 29)).alloc (.cells #[.int .i64 0, .int .i64 0, .int .i64 0, .bool false, .int .i64 0, .int .i64 0, .slice none 0 0, .int .i64 0, .int .i64 0] 33)) (w.heap.size + 1) := (newBoxAt (Nat.zero_le _) (by simp)).grow _
  have bR : Box 0 #[.int .i64 0, .int .i64 0, .int .i64 0, .bool false, .int .i64 0, .int .i64 0, .slice none 0 0, .int .i64 0, .int .i64 0] 33 (((w.alloc (.cells #[.int .i64 x.id, .bool x.up, .int .i64 x.epoch, .int .i64 x.lease, .slice a4 x.writes.length d4, .int .i64 x.sure, .int .i64 x.clean] 26)).alloc (.cells #[.int .i64 y.kind, .int .i64 y.id, .slice a2 y.vec.length d2, .int .i64 y.session, .int .i64 y.seq] 29)).alloc (.cells #[.int .i64 0, .int .i64 0, .int .i64 0, .bool false, .int .i64 0, .int .i64 0, .slice none 0 0, .int .i64 0, .int .i64 0] 33)) (w.heap.size + 2) := newBoxAt (Nat.zero_le _) (by simp)
  by_cases hf : askedN x = 0
  · have hok := (askedN_zero hf).1
    have HL := hide (upNode_ok _ x _ (hN.later nb) hf)
    have HA := hide hf
    have HOK := hide hok
    have HB0 := hide nb
    have HR0 := hide bR
    have HY0 := hide bY
    have HV := hide hV
    have HE := hide hE
    clear hN nb bR bY bX R4 R2 hf hok hV hE
    go_enter Tryz.func6, Tryz.ntmps6
    go_wp2_with fail
    generalize ((w.alloc (.cells #[.int .i64 x.id, .bool x.up, .int .i64 x.epoch, .int .i64 x.lease, .slice a4 x.writes.length d4, .int .i64 x.sure, .int .i64 x.clean] 26)).alloc (.cells #[.int .i64 y.kind, .int .i64 y.id, .slice a2 y.vec.length d2, .int .i64 y.session, .int .i64 y.seq] 29)).alloc (.cells #[.int .i64 0, .int .i64 0, .int .i64 0, .bool false, .int .i64 0, .int .i64 0, .slice none 0 0, .int .i64 0, .int .i64 0] 33) = W0 at *
    refine (unhide HL).mono ?_
    rintro e w1 ⟨g, gw, rfl, hH, O, hg, hb⟩
    have hgr : w.heap.size + 2 < g := by have := (unhide HR0).lt; omega
    have hBD : Below w.heap.size w w1.drew := ((unhide HB0).trans (hb.mono (unhide HB0).size)).drew
    have hHD : HeldAt w1.drew g (.slice (some ⟨gw, 0, none⟩) x.writes.length x.writes.length) x := hH
    have hOD : (Lay.sl Lay.tWrite).OwnIn w1.drew [.slice (some ⟨gw, 0, none⟩) x.writes.length x.writes.length] x.writes (g + 1) w1.heap.size := O.later (Below.refl _ _).drew
    have hRD : Box 0 #[.int .i64 0, .int .i64 0, .int .i64 0, .bool false, .int .i64 0, .int .i64 0, .slice none 0 0, .int .i64 0, .int .i64 0] 33 w1.drew (w.heap.size + 2) := ((unhide HR0).keep hb).drew
    have bY1 := (unhide HY0).keep hb
    have q0 := Box.at bY1 0 _ rfl
    have q1 := Box.at bY1 1 _ rfl
    have q2 := Box.at bY1 2 _ rfl
    have q3 := Box.at bY1 3 _ rfl
    have q4 := Box.at bY1 4 _ rfl
    simp only [List.getElem_toArray, List.getElem_cons_zero, List.getElem_cons_succ] at q0 q1 q2 q3 q4
    have hyl := bY1.lt
    have hE := unhide HE
    have hV := unhide HV
    clear hb HL HB0 HR0 HY0 hH O hg bY1 HE HV
    go_wp2_with fail
    refine wp_region_noPanic ?_
    refine wp_region_held_drew (S := fun w' => Ext (fun q => q = g) w1 w') (by kernel_rfl) ((Ext.refl _ _).drew 1) (fun hHeld => ?_)
    generalize w1.drew = wD at hHeld hBD hHD hOD hRD ⊢
    refine wpAnyH_take (i := 0) (oi := { dst := some 18, op := Go.Op.move (Go.Operand.tmp 5), type := 49, pos := "l09_node.go:190", after := #[], guard := none }) (v := ?vw0) rfl (by kernel_rfl) (by kernel_rfl) (by kernel_rfl) (fun _ _ _ h => h) (Or.inl ⟨by rfl, ?hw0⟩) hHeld ?rw0
    case hw0 =>
      intro wS hSw
      (try dsimp only at hSw)
      go_simp
      try with_reducible rfl
    case rw0 =>
    simp only [Act.put, List.setIfInBounds_toArray, List.set_cons_zero, List.set_cons_succ]
    refine wpAnyH_take (i := 1) (oi := { dst := some 19, op := Go.Op.nilCheck (Go.Operand.tmp 18), type := 0, pos := "l09_node.go:190", after := #[{ on := 0, ground := Go.Ground.data }], guard := none }) (v := ?vw1) rfl (by kernel_rfl) (by kernel_rfl) (by kernel_rfl) (fun _ _ _ h => h) (Or.inl ⟨by rfl, ?hw1⟩) hHeld ?rw1
    case hw1 =>
      intro wS hSw
      (try dsimp only at hSw)
      go_simp
      try with_reducible rfl
    case rw1 =>
    simp only [Act.put, List.setIfInBounds_toArray, List.set_cons_zero, List.set_cons_succ]
    refine wpAnyH_take (i := 2) (oi := { dst := some 20, op := Go.Op.fieldAddr 57 (Go.Operand.tmp 19) 0, type := 0, pos := "l09_node.go:190", after := #[{ on := 1, ground := Go.Ground.data }], guard := none }) (v := ?vw2) rfl (by kernel_rfl) (by kernel_rfl) (by kernel_rfl) (fun _ _ _ h => h) (Or.inl ⟨by rfl, ?hw2⟩) hHeld ?rw2
    case hw2 =>
      intro wS hSw
      (try dsimp only at hSw)
      go_simp
      try with_reducible rfl
    case rw2 =>
    simp only [Act.put, List.setIfInBounds_toArray, List.set_cons_zero, List.set_cons_succ]
    refine wpAnyH_take (i := 3) (oi := { dst := some 21, op := Go.Op.load 29 (Go.Operand.tmp 3), type := 29, pos := "l09_node.go:190", after := #[], guard := none }) (v := ?vw3) rfl (by kernel_rfl) (by kernel_rfl) (by kernel_rfl) (fun _ _ _ h => h) (Or.inl ⟨by rfl, ?hw3⟩) hHeld ?rw3
    case hw3 =>
      intro wS hSw
      have v0 : wS.cell? ⟨w.heap.size + 1, 0, none⟩ = some (.int .i64 y.kind) := (cell_of_heap (hSw.block (w.heap.size + 1) hyl (by omega)) 0).trans q0
      have v1 : wS.cell? ⟨w.heap.size + 1, 1, none⟩ = some (.int .i64 y.id) := (cell_of_heap (hSw.block (w.heap.size + 1) hyl (by omega)) 1).trans q1
      have v2 : wS.cell? ⟨w.heap.size + 1, 2, none⟩ = some (.slice a2 y.vec.length d2) := (cell_of_heap (hSw.block (w.heap.size + 1) hyl (by omega)) 2).trans q2
      have v3 : wS.cell? ⟨w.heap.size + 1, 3, none⟩ = some (.int .i64 y.session) := (cell_of_heap (hSw.block (w.heap.size + 1) hyl (by omega)) 3).trans q3
      have v4 : wS.cell? ⟨w.heap.size + 1, 4, none⟩ = some (.int .i64 y.seq) := (cell_of_heap (hSw.block (w.heap.size + 1) hyl (by omega)) 4).trans q4
      clear hSw
      (try dsimp only at hSw)
      go_simp
      try with_reducible rfl
    case rw3 =>
    simp only [Act.put, List.setIfInBounds_toArray, List.set_cons_zero, List.set_cons_succ]
    refine wpAnyH_ready (rs := [4]) (by kernel_rfl) (by simp) ?_
    refine AllReadyH.cons (o := { dst := some 22, op := Go.Op.call { callee := Go.Callee.value (Go.Operand.func 20), args := #[Go.Operand.tmp 20, Go.Operand.tmp 21], argTypes := #[55, 29] }, type := 52, pos := "l09_node.go:190", after := #[{ on := 2, ground := Go.Ground.data }, { on := 3, ground := Go.Ground.data }], guard := none }) rfl (fun K hK => ?_) AllReadyH.nil
    go_simp
    go_at_call 20
    refine (takeC g gw x _ y _ (hE.later hBD) hHD hOD.reads (hV.later hBD)).mono ?_
    rintro e w3 ⟨at', rfl, hq, hE3⟩
    have hz3 := hE3.size
    try go_wp2_with fail
    refine hK.out _ _ (hHeld.trans hE3) (fun hHeld => ?_)
    clear hK K
    try simp only [Act.put, List.setIfInBounds_toArray, List.set_cons_zero, List.set_cons_succ]
    refine wpAnyH_take (i := 5) (oi := { dst := some 17, op := Go.Op.move (Go.Operand.tmp 22), type := 52, pos := "l09_node.go:190", after := #[{ on := 4, ground := Go.Ground.data }], guard := none }) (v := ?vw5) rfl (by kernel_rfl) (by kernel_rfl) (by kernel_rfl) (fun _ _ _ h => h) (Or.inl ⟨by rfl, ?hw5⟩) hHeld ?rw5
    case hw5 =>
      intro wS hSw
      (try dsimp only at hSw)
      go_simp
      try with_reducible rfl
    case rw5 =>
    simp only [Act.put, List.setIfInBounds_toArray, List.set_cons_zero, List.set_cons_succ]
    refine wpAnyH_take (i := 6) (oi := { dst := some 23, op := Go.Op.extract (Go.Operand.tmp 17) 0, type := 2, pos := "l09_node.go:190", after := #[{ on := 5, ground := Go.Ground.data }], guard := none }) (v := ?vw6) rfl (by kernel_rfl) (by kernel_rfl) (by kernel_rfl) (fun _ _ _ h => h) (Or.inl ⟨by rfl, ?hw6⟩) hHeld ?rw6
    case hw6 =>
      intro wS hSw
      (try dsimp only at hSw)
      go_simp
      try with_reducible rfl
    case rw6 =>
    simp only [Act.put, List.setIfInBounds_toArray, List.set_cons_zero, List.set_cons_succ]
    refine wpAnyH_take (i := 7) (oi := { dst := some 24, op := Go.Op.extract (Go.Operand.tmp 17) 1, type := 2, pos := "l09_node.go:190", after := #[{ on := 5, ground := Go.Ground.data }, { on := 8, ground := Go.Ground.gcOnly Go.Departure.lateStores }], guard := none }) (v := ?vw7) rfl (by kernel_rfl) (by kernel_rfl) (by kernel_rfl) (fun _ _ _ h => h) (Or.inl ⟨by rfl, ?hw7⟩) hHeld ?rw7
    case hw7 =>
      intro wS hSw
      (try dsimp only at hSw)
      go_simp
      try with_reducible rfl
    case rw7 =>
    simp only [Act.put, List.setIfInBounds_toArray, List.set_cons_zero, List.set_cons_succ]
    refine wpAnyH_take (i := 8) (oi := { dst := some 7, op := Go.Op.assign (Go.Operand.tmp 23), type := 2, pos := "l09_node.go:190", after := #[{ on := 6, ground := Go.Ground.data }, { on := 4, ground := Go.Ground.chain }, { on := 0, ground := Go.Ground.phase }, { on := 1, ground := Go.Ground.phase }, { on := 2, ground := Go.Ground.phase }, { on := 3, ground := Go.Ground.phase }, { on := 4, ground := Go.Ground.phase }, { on := 5, ground := Go.Ground.phase }, { on := 6, ground := Go.Ground.phase }, { on := 7, ground := Go.Ground.textOnly Go.Departure.lateStores }], guard := none }) (v := ?vw8) rfl (by kernel_rfl) (by kernel_rfl) (by kernel_rfl) (fun _ _ _ h => h) (Or.inl ⟨by rfl, ?hw8⟩) hHeld ?rw8
    case hw8 =>
      intro wS hSw
      (try dsimp only at hSw)
      go_simp
      try with_reducible rfl
    case rw8 =>
    simp only [Act.put, List.setIfInBounds_toArray, List.set_cons_zero, List.set_cons_succ]
    refine wpAnyH_take (i := 9) (oi := { dst := some 6, op := Go.Op.assign (Go.Operand.tmp 24), type := 2, pos := "l09_node.go:190", after := #[{ on := 7, ground := Go.Ground.data }, { on := 8, ground := Go.Ground.chain }, { on := 0, ground := Go.Ground.phase }, { on := 1, ground := Go.Ground.phase }, { on := 2, ground := Go.Ground.phase }, { on := 3, ground := Go.Ground.phase }, { on := 4, ground := Go.Ground.phase }, { on := 5, ground := Go.Ground.phase }, { on := 6, ground := Go.Ground.phase }, { on := 7, ground := Go.Ground.phase }, { on := 8, ground := Go.Ground.phase }], guard := none }) (v := ?vw9) rfl (by kernel_rfl) (by kernel_rfl) (by kernel_rfl) (fun _ _ _ h => h) (Or.inl ⟨by rfl, ?hw9⟩) hHeld ?rw9
    case hw9 =>
      intro wS hSw
      (try dsimp only at hSw)
      go_simp
      try with_reducible rfl
    case rw9 =>
    simp only [Act.put, List.setIfInBounds_toArray, List.set_cons_zero, List.set_cons_succ]
    refine wpAnyH_done (by kernel_rfl) ?_ _
    refine NoPanic.normal ?_
    clear hHeld
    have hgl : g < wD.heap.size := hHD.lt
    have hR3 := Box.ext hRD hE3 (by omega)
    have hB3 := hBD.trans (hE3.below hBD.size (fun q hq e => by omega))
    have HR3 := hide hR3
    have HB3 := hide hB3
    clear hR3 hB3 hBD hHD hOD hRD hE3 hE hV q0 q1 q2 q3 q4 hyl
    have HAB := hide (appR_bd (y := y) (unhide HOK).writesF)
    have HTB := hide (takeCode_bd (y := y) (unhide HOK).writesF)
    by_cases hc : takeCode (appR x.writes y) = 0
    · obtain ⟨rfl, a, n, c, hH3, O3⟩ := hq hc
      have HY := hide (takeR_ok (unhide HA) hc)
      rw [hc]
      have HO3 := hide O3
      have HT := hide (toldC g a n c x w3 hH3)
      clear hq hc hH3 O3
      go_wp2_with fail
      refine (unhide HT).mono ?_
      rintro e w9 ⟨rfl, hb9⟩
      have bR9 := (unhide HR3).keep hb9
      have z0 := Box.at bR9 0 _ rfl
      have z1 := Box.at bR9 1 _ rfl
      have z2 := Box.at bR9 2 _ rfl
      have z3 := Box.at bR9 3 _ rfl
      have z4 := Box.at bR9 4 _ rfl
      have z5 := Box.at bR9 5 _ rfl
      have z6 := Box.at bR9 6 _ rfl
      have z7 := Box.at bR9 7 _ rfl
      have z8 := Box.at bR9 8 _ rfl
      simp only [List.getElem_toArray, List.getElem_cons_zero, List.getElem_cons_succ] at z0 z1 z2 z3 z4 z5 z6 z7 z8
      have ff := Box.soft bR9
      have l0 := Box.lt bR9
      have HO9 := hide ((unhide HO3).later hb9)
      have HB9 := hide ((unhide HB3).trans (hb9.mono (unhide HB3).size))
      have hz9 := hb9.size
      clear hb9 HT bR9 HO3 HR3 HB3
      go_wp2_with fail
      refine bodyPost_ret (v := .agg #[.int .i64 0, .int .i64 (appR x.writes y).place, .int .i64 x.id, .bool x.up, .int .i64 x.epoch, .int .i64 x.lease, .slice a n c, .int .i64 x.sure, .int .i64 x.clean]) (by simp [results, Tryz.results6, go_sem, z0, z1, z2, z3, z4, z5, z6, z7, z8]) rfl ?_
      rw [unhide HY]
      have hB9 := below_setAll (unhide HB9) (w.heap.size + 2) 0 [.int .i64 0, .int .i64 (appR x.writes y).place, .int .i64 x.id, .bool x.up, .int .i64 x.epoch, .int .i64 x.lease, .slice a n c, .int .i64 x.sure, .int .i64 x.clean] (by omega)
      refine ⟨[.int .i64 0, .int .i64 (appR x.writes y).place, .int .i64 x.id, .bool x.up, .int .i64 x.epoch, .int .i64 x.lease, .slice a n c, .int .i64 x.sure, .int .i64 x.clean], rfl, ?_, hB9⟩
      have o1 := own_store' (s := w.heap.size + 2) (vs := [.int .i64 0, .int .i64 (appR x.writes y).place, .int .i64 x.id, .bool x.up, .int .i64 x.epoch, .int .i64 x.lease, .slice a n c, .int .i64 x.sure, .int .i64 x.clean]) (unhide HO9) (by omega)
      obtain ⟨i1, i2, i3, i4, -, -, i7, i8, -⟩ := unhide HOK
      have hpl := (unhide HAB).2
      exact own_nodeR (x := withWrites x (appR x.writes y).writes) (c := 0) (n := (appR x.writes y).place) (by omega) (by omega) (o1.mono (by omega) (Nat.le_trans hz9 (Nat.le_of_eq (size_setAll w9 (w.heap.size + 2) 0 [.int .i64 0, .int .i64 (appR x.writes y).place, .int .i64 x.id, .bool x.up, .int .i64 x.epoch, .int .i64 x.lease, .slice a n c, .int .i64 x.sure, .int .i64 x.clean]).symm))) (by simp only [withWrites]; omega) (by simp only [withWrites]; omega) (by simp only [withWrites]; omega) (by simp only [withWrites]; omega) (by simp only [withWrites]; omega)
    · have HY := hide (takeR_code (unhide HA) hc)
      have hd : (takeCode (appR x.writes y) != 0) = true := by simpa using hc
      clear hq hc
      generalize takeCode (appR x.writes y) = tc at *
      have bR9 := (unhide HR3)
      have z0 := Box.at bR9 0 _ rfl
      have z1 := Box.at bR9 1 _ rfl
      have z2 := Box.at bR9 2 _ rfl
      have z3 := Box.at bR9 3 _ rfl
      have z4 := Box.at bR9 4 _ rfl
      have z5 := Box.at bR9 5 _ rfl
      have z6 := Box.at bR9 6 _ rfl
      have z7 := Box.at bR9 7 _ rfl
      have z8 := Box.at bR9 8 _ rfl
      simp only [List.getElem_toArray, List.getElem_cons_zero, List.getElem_cons_succ] at z0 z1 z2 z3 z4 z5 z6 z7 z8
      have ff := Box.soft bR9
      have l0 := Box.lt bR9
      clear bR9
      go_wp2_with fail
      refine bodyPost_ret (v := .agg #[.int .i64 tc, .int .i64 0, .int .i64 0, .bool false, .int .i64 0, .int .i64 0, .slice none 0 0, .int .i64 0, .int .i64 0]) (by simp [results, Tryz.results6, go_sem, z0, z1, z2, z3, z4, z5, z6, z7, z8]) rfl ?_
      rw [unhide HY]
      have hB9 := below_setAll (unhide HB3) (w.heap.size + 2) 0 [.int .i64 tc, .int .i64 0, .int .i64 0, .bool false, .int .i64 0, .int .i64 0, .slice none 0 0, .int .i64 0, .int .i64 0] (by omega)
      exact ⟨[.int .i64 tc, .int .i64 0, .int .i64 0, .bool false, .int .i64 0, .int .i64 0, .slice none 0 0, .int .i64 0, .int .i64 0], rfl, own_badNode (by have := unhide HTB; omega), hB9⟩
  · have HL := hide (upNode_bad _ x _ (hN.later nb) hf)
    have hd : (askedN x != 0) = true := by simpa using hf
    have HY := hide (takeR_bad (y := y) hf)
    have HW := hide (askedN_bd x)
    have HB0 := hide nb
    have HR0 := hide bR
    clear hN nb bR bX bY R4 R2 hf hV hE
    generalize askedN x = ac at *
    go_enter Tryz.func6, Tryz.ntmps6
    go_wp2_with fail
    generalize ((w.alloc (.cells #[.int .i64 x.id, .bool x.up, .int .i64 x.epoch, .int .i64 x.lease, .slice a4 x.writes.length d4, .int .i64 x.sure, .int .i64 x.clean] 26)).alloc (.cells #[.int .i64 y.kind, .int .i64 y.id, .slice a2 y.vec.length d2, .int .i64 y.session, .int .i64 y.seq] 29)).alloc (.cells #[.int .i64 0, .int .i64 0, .int .i64 0, .bool false, .int .i64 0, .int .i64 0, .slice none 0 0, .int .i64 0, .int .i64 0] 33) = W0 at *
    refine (unhide HL).mono ?_
    rintro e w1 ⟨rfl, hb⟩
    have HB1 := hide ((unhide HB0).trans (hb.mono (unhide HB0).size))
    have HR1 := hide ((unhide HR0).keep hb)
    clear hb HL HB0 HR0
    have bR9 := (unhide HR1)
    have z0 := Box.at bR9 0 _ rfl
    have z1 := Box.at bR9 1 _ rfl
    have z2 := Box.at bR9 2 _ rfl
    have z3 := Box.at bR9 3 _ rfl
    have z4 := Box.at bR9 4 _ rfl
    have z5 := Box.at bR9 5 _ rfl
    have z6 := Box.at bR9 6 _ rfl
    have z7 := Box.at bR9 7 _ rfl
    have z8 := Box.at bR9 8 _ rfl
    simp only [List.getElem_toArray, List.getElem_cons_zero, List.getElem_cons_succ] at z0 z1 z2 z3 z4 z5 z6 z7 z8
    have ff := Box.soft bR9
    have l0 := Box.lt bR9
    clear bR9
    go_wp2_with fail
    refine bodyPost_ret (v := .agg #[.int .i64 ac, .int .i64 0, .int .i64 0, .bool false, .int .i64 0, .int .i64 0, .slice none 0 0, .int .i64 0, .int .i64 0]) (by simp [results, Tryz.results6, go_sem, z0, z1, z2, z3, z4, z5, z6, z7, z8]) rfl ?_
    rw [unhide HY]
    have hB9 := below_setAll (unhide HB1) (w.heap.size + 2) 0 [.int .i64 ac, .int .i64 0, .int .i64 0, .bool false, .int .i64 0, .int .i64 0, .slice none 0 0, .int .i64 0, .int .i64 0] (by omega)
    exact ⟨[.int .i64 ac, .int .i64 0, .int .i64 0, .bool false, .int .i64 0, .int .i64 0, .slice none 0 0, .int .i64 0, .int .i64 0], rfl, own_badNode (unhide HW), hB9⟩

end Go.Proofs.YtbogjepkdcknfaaGreatDoor

namespace Go.Proofs.YtbogjepkdcknfaaGreatDoor
open Go.RowKit

set_option maxRecDepth 10000 in
set_option maxHeartbeats 1000000 in
theorem l5Seen_pos (b off cap : Nat) (ws : List DWrite) (s q : Int) (w : World) (h : (Lay.sl Lay.tWrite).Reads w [.slice (some ⟨b, off, none⟩) ws.length cap] ws)  (hn : ws.length ≤ 10000000) :
    Calls Tryz.prog 73 #[.slice (some ⟨b, off, none⟩) ws.length cap, .int .i64 s, .int .i64 q] w fun e w' => e = .returned (.int .i64 (seenI ws s q)) ∧ w' = w := by
  have H := hide h
  clear h
  go_enter Tryz.func73, Tryz.ntmps73
  go_wp2_with fail
  go_loop [7] (fun i => ∃ k : Nat, k ≤ ws.length ∧ i = .int .i64 k ∧ (∀ j (hj : j < ws.length), j < k → ¬ (ws[j].session = s ∧ ws[j].seq = q))) (fun i => ws.length - (intOf i).toNat)
  case atStart => exact ⟨0, Nat.zero_le _, rfl, fun j _ hj => by omega⟩
  case round =>
    obtain ⟨k, hk, rfl, hz⟩ := hrel
    by_cases hlt : k < ws.length
    · obtain ⟨row, hc, hr⟩ := Lay.row_at (unhide H) hlt
      obtain ⟨a2, d2, rfl, R2⟩ := open_Write hr
      have c3 : w.cell? ⟨b, off + k * 5 + 3, none⟩ = some (.int .i64 (ws[k]).session) := hc 3 (by decide)
      have c4 : w.cell? ⟨b, off + k * 5 + 4, none⟩ = some (.int .i64 (ws[k]).seq) := hc 4 (by decide)
      have HAT : Hid (ws[k].session = s ∧ ws[k].seq = q → seenI ws s q = k + 1) := fun he => seenI_at hlt hz he
      have HZ2 : Hid (¬ (ws[k].session = s ∧ ws[k].seq = q) → ∀ j (hj : j < ws.length), j < k + 1 → ¬ (ws[j].session = s ∧ ws[j].seq = q)) := by
        intro h0 j hj hjk
        by_cases hjk2 : j < k
        · exact hz j hj hjk2
        · obtain rfl : j = k := by omega
          exact h0
      clear hc hr R2 hz
      generalize hx : ws[k] = x at *
      clear hx
      have hwr : IntKind.i64.wrap ((k : Int) + 1) = (k : Int) + 1 := by rw [IntKind.wrap_i64]; omega
      by_cases hs : x.session = s
      · have ds : (x.session == s) = true := by simpa using hs
        by_cases hq : x.seq = q
        · have dq : (x.seq == q) = true := by simpa using hq
          have HG := hide (unhide HAT ⟨hs, hq⟩)
          clear HAT HZ2 hs hq
          go_wp2_with fail
          go_ret
          exact ⟨by rw [unhide HG]; simp, rfl⟩
        · have dq : (x.seq == q) = false := by simpa using hq
          have HZ := hide (unhide HZ2 fun e => hq e.2)
          clear HAT HZ2 hs hq hwr
          go_wp2_with fail
          go_round
          case rel => exact ⟨k + 1, by omega, by go_num, unhide HZ⟩
          case measure => simp [intOf]; omega
      · have ds : (x.session == s) = false := by simpa using hs
        have HZ := hide (unhide HZ2 fun e => hs e.1)
        clear HAT HZ2 hs hwr
        go_wp2_with fail
        go_round
        case rel => exact ⟨k + 1, by omega, by go_num, unhide HZ⟩
        case measure => simp [intOf]; omega
    · obtain rfl : k = ws.length := by omega
      have HG : Hid (seenI ws s q = 0) := seenI_none fun j hj => hz j hj hj
      clear H hz
      go_wp2_with fail
      go_ret
      exact ⟨by rw [unhide HG]; rfl, rfl⟩

theorem l5SeenC (v : Value) (ws : List DWrite) (s q : Int) (w : World) (h : (Lay.sl Lay.tWrite).Reads w [v] ws) (hn : ws.length ≤ 10000000) :
    Calls Tryz.prog 73 #[v, .int .i64 s, .int .i64 q] w fun e w' => e = .returned (.int .i64 (seenI ws s q)) ∧ w' = w := by
  obtain ⟨ao, cap, rfl⟩ := open_sl h
  by_cases hp : 0 < ws.length
  · obtain ⟨b, off, rfl, -⟩ := Lay.sl_addr h hp
    exact l5Seen_pos b off cap ws s q w h hn
  · obtain rfl : ws = [] := List.eq_nil_of_length_eq_zero (by omega)
    clear h hn hp
    go_enter Tryz.func73, Tryz.ntmps73
    go_wp2_with fail
    refine wp_loop_rounds 1 ?_
    rw [rounds_succ]
    go_wp2_with fail
    go_ret
    exact ⟨rfl, rfl⟩

end Go.Proofs.YtbogjepkdcknfaaGreatDoor

namespace Go.Proofs.YtbogjepkdcknfaaGreatDoor
open Go.RowKit

/-- At a step of a region that draws its order: the new one lies in any block. -/
theorem step_append_WriteAt {bR : Nat} {w1 : World} {base : Nat} {v : Value} {rows : List (List Value)} {xs : List DWrite} {bls : List (List Nat)} (hG : Grow Lay.tWrite w1 base 29 v rows xs bls) {row : List Value} {x : DWrite} {bl : List Nat} (hR : w1.heap[bR]? = some (.cells row.toArray 29 (0, 0))) (hl : Lay.tWrite.lies w1 row x bl) (hbl : ∀ b ∈ bl, v.ownBlock ≠ some b) {ops : Array Oper} {o : Oper} {a : Act} {K : Act → World → Prop} {Q : Exit → Act → World → Prop} {E : Prop} (hgd : o.guard = none) (s y : Operand)
    (ho : o.op = .call { callee := .builtin .append, args := #[s, y], argTypes := #[24, 24] }) (hs : a.eval s = v) (hy : a.eval y = .slice (some ⟨bR, 0, none⟩) 1 1) (hn : xs.length + 1 ≤ 100000000) (hbase : base ≤ w1.heap.size)
    (h : ∀ g cap w', Grow Lay.tWrite w' base 29 (.slice (some ⟨g, 0, none⟩) (xs.length + 1) cap) (rows ++ [row]) (xs ++ [x]) (bls ++ [bl]) → Below base w1 w' → Ext (fun q => v.ownBlock = some q) w1 w' → g < w'.heap.size → w1.heap.size ≤ w'.heap.size → (v.ownBlock = some g ∨ w1.heap.size ≤ g) → K (a.put o.dst (.slice (some ⟨g, 0, none⟩) (xs.length + 1) cap)) w') :
    if Region.wanted o (yielded ops a.tmps) = true then Oper.wp Tryz.prog o a w1 K Q else E := by
  obtain ⟨i0, hi0, hz0, hz1, hz2⟩ := info_parts infoAppWrite
  obtain ⟨h1, hlen⟩ := one_Write hl
  refine step_append_lies _ hgd s y 24 ho base 29 i0 _ 5 56 Tryz.underlying24 hi0 hz0 hz1 hz2 rfl (by omega) v xs.length rows.flatten hs hG.own ⟨bR, 0, none⟩ 1 1 row hy hlen (World.news_of_block (cs := row.toArray) (t := 29) (fr := (0, 0)) hR) h1 (by omega) (by unfold maxLen; omega) (by omega) (by first | omega | (simp; omega)) w1.heap.size rfl ?_
  intro g cap w' h2 h3 h4 h5
  have hg := h3
  have hbw : Below base w1 w' := (Below.refl _ _).grown hg hbase (fun j hj => (hG.own.lt j hj).1)
  have hor : v.ownBlock = some g ∨ w1.heap.size ≤ g := by
    rcases h4 with h4 | h4
    · exact Or.inl h4
    · exact Or.inr (by rw [h4]; exact Nat.le_refl _)
  exact h g cap w' (hG.snoc hl hbl h2 hg hor) hbw ⟨hbw.os, hbw.tape, hbw.output, hbw.size, fun k hk hn => hg.block k hk (fun e => hn e.symm)⟩ h5 hbw.size hor

end Go.Proofs.YtbogjepkdcknfaaGreatDoor

namespace Go.Proofs.YtbogjepkdcknfaaGreatDoor
open Go.RowKit

theorem vec_few5 {x : DWrite} (h : wF x = 0) : x.vec.length ≤ 3 := by
  obtain ⟨-, -, -, hk⟩ := writeFault_zero h
  rcases hk with ⟨-, hv⟩ | ⟨-, hv⟩
  · have := (vecFault_zero hv).1; omega
  · rw [hv]; simp
theorem wF_wf4 {x : DWrite} (h : wF x = 0) : (Lit.int .i64 x.kind).wf = true ∧ (Lit.int .i64 x.id).wf = true ∧ (Lit.int .i64 x.session).wf = true ∧ (Lit.int .i64 x.seq).wf = true := by
  obtain ⟨hi, hs, hq, hk⟩ := writeFault_zero h
  refine ⟨wf_of_bd ?_, wf_of_bd (by omega), wf_of_bd (by omega), wf_of_bd (by omega)⟩
  rcases hk with ⟨e, -⟩ | ⟨e, -⟩ <;> omega
theorem lies_none {w : World} {lo hi : Nat} : (Lay.sl Lay.tWrite).LiesIn w [.slice none 0 0] [] lo hi := ⟨[], ⟨none, 0, rfl, by simp, Or.inl ⟨rfl, rfl⟩⟩, by simp⟩

set_option maxRecDepth 100000 in
set_option maxHeartbeats 4000000 in
theorem l5AppendC (v : Value) (ws : List DWrite) (b : Nat) (a2 : Option Addr) (d2 : Nat) (x : DWrite) (w : World) (h : (Lay.sl Lay.tWrite).Reads w [v] ws) (hQ : Box 0 #[.int .i64 x.kind, .int .i64 x.id, .slice a2 x.vec.length d2, .int .i64 x.session, .int .i64 x.seq] 29 w b) (R2 : (Lay.sl Lay.int).Reads w [.slice a2 x.vec.length d2] x.vec) (hfw : writesF ws = 0) (hf : wF x = 0) :
    Calls Tryz.prog 53 #[v, .pointer (some ⟨b, 0, none⟩)] w fun e w' => ∃ (a : Option Addr) (n c : Nat), e = .returned (.tuple #[.slice a n c, .int .i64 (appR ws x).place, .int .i64 (appR ws x).code]) ∧ n = (appR ws x).writes.length ∧ (Lay.sl Lay.tWrite).LiesIn w' [.slice a n c] (appR ws x).writes w.heap.size w'.heap.size ∧ Below w.heap.size w w' := by
  obtain ⟨hlen, hall⟩ := writesF_zero hfw
  have HVF : Hid (∀ y ∈ ws, y.vec.length ≤ 100000000) := fun y hy => Nat.le_trans (vec_few5 (hall y hy)) (by decide)
  have hd0 : Below w.heap.size w w.drew := (Below.refl _ _).drew
  have HS1 := hide (l5SeenC v ws x.session x.seq w.drew (h.later hd0) (by omega))
  have HFW := hide hfw
  have HF := hide hf
  have HR := hide (h.later hd0)
  have HR2 := hide (R2.later hd0)
  have HB1 := hide hd0
  obtain ⟨ao, cap, rfl⟩ := open_sl h
  clear h R2 hfw hf hall hd0
  go_enter Tryz.func53, Tryz.ntmps53
  go_wp2_with fail
  refine wp_region_noPanic ?_
  refine wp_region_held_drew (S := fun w' => w' = w.drew) (by kernel_rfl) rfl (fun hHeld => ?_)
  refine wpAnyH_take (i := 0) (oi := { dst := some 9, op := Go.Op.move (Go.Operand.tmp 0), type := 24, pos := "l05_session.go:60", after := #[], guard := none }) (v := ?va0) rfl (by kernel_rfl) (by kernel_rfl) (by kernel_rfl) (fun _ _ _ h => h) (Or.inl ⟨by rfl, ?ha0⟩) hHeld ?ra0
  case ha0 =>
    intro wS hSw
    (try dsimp only at hSw)
    go_simp
    try with_reducible rfl
  case ra0 =>
  simp only [Act.put, List.setIfInBounds_toArray, List.set_cons_zero, List.set_cons_succ]
  refine wpAnyH_take (i := 1) (oi := { dst := some 10, op := Go.Op.move (Go.Operand.tmp 1), type := 62, pos := "l05_session.go:60", after := #[], guard := none }) (v := ?va1) rfl (by kernel_rfl) (by kernel_rfl) (by kernel_rfl) (fun _ _ _ h => h) (Or.inl ⟨by rfl, ?ha1⟩) hHeld ?ra1
  case ha1 =>
    intro wS hSw
    (try dsimp only at hSw)
    go_simp
    try with_reducible rfl
  case ra1 =>
  simp only [Act.put, List.setIfInBounds_toArray, List.set_cons_zero, List.set_cons_succ]
  refine wpAnyH_take (i := 2) (oi := { dst := some 11, op := Go.Op.nilCheck (Go.Operand.tmp 10), type := 0, pos := "l05_session.go:60", after := #[{ on := 1, ground := Go.Ground.data }], guard := none }) (v := ?va2) rfl (by kernel_rfl) (by kernel_rfl) (by kernel_rfl) (fun _ _ _ h => h) (Or.inl ⟨by rfl, ?ha2⟩) hHeld ?ra2
  case ha2 =>
    intro wS hSw
    (try dsimp only at hSw)
    go_simp
    try with_reducible rfl
  case ra2 =>
  simp only [Act.put, List.setIfInBounds_toArray, List.set_cons_zero, List.set_cons_succ]
  refine wpAnyH_take (i := 3) (oi := { dst := some 12, op := Go.Op.fieldAddr 29 (Go.Operand.tmp 11) 3, type := 0, pos := "l05_session.go:60", after := #[{ on := 2, ground := Go.Ground.data }], guard := none }) (v := ?va3) rfl (by kernel_rfl) (by kernel_rfl) (by kernel_rfl) (fun _ _ _ h => h) (Or.inl ⟨by rfl, ?ha3⟩) hHeld ?ra3
  case ha3 =>
    intro wS hSw
    (try dsimp only at hSw)
    go_simp
    try with_reducible rfl
  case ra3 =>
  simp only [Act.put, List.setIfInBounds_toArray, List.set_cons_zero, List.set_cons_succ]
  refine wpAnyH_take (i := 4) (oi := { dst := some 13, op := Go.Op.load 2 (Go.Operand.tmp 12), type := 2, pos := "l05_session.go:60", after := #[{ on := 3, ground := Go.Ground.data }], guard := none }) (v := ?va4) rfl (by kernel_rfl) (by kernel_rfl) (by kernel_rfl) (fun _ _ _ h => h) (Or.inl ⟨by rfl, ?ha4⟩) hHeld ?ra4
  case ha4 =>
    intro wS hSw
    have y3 : wS.cell? ⟨b, 3, none⟩ = some (.int .i64 x.session) := by rw [hSw]; exact hQ.at 3 _ rfl
    have y4 : wS.cell? ⟨b, 4, none⟩ = some (.int .i64 x.seq) := by rw [hSw]; exact hQ.at 4 _ rfl
    clear hSw
    (try dsimp only at hSw)
    go_simp
    try with_reducible rfl
  case ra4 =>
  simp only [Act.put, List.setIfInBounds_toArray, List.set_cons_zero, List.set_cons_succ]
  refine wpAnyH_take (i := 5) (oi := { dst := some 14, op := Go.Op.move (Go.Operand.tmp 1), type := 62, pos := "l05_session.go:60", after := #[], guard := none }) (v := ?va5) rfl (by kernel_rfl) (by kernel_rfl) (by kernel_rfl) (fun _ _ _ h => h) (Or.inl ⟨by rfl, ?ha5⟩) hHeld ?ra5
  case ha5 =>
    intro wS hSw
    (try dsimp only at hSw)
    go_simp
    try with_reducible rfl
  case ra5 =>
  simp only [Act.put, List.setIfInBounds_toArray, List.set_cons_zero, List.set_cons_succ]
  refine wpAnyH_take (i := 6) (oi := { dst := some 15, op := Go.Op.nilCheck (Go.Operand.tmp 14), type := 0, pos := "l05_session.go:60", after := #[{ on := 5, ground := Go.Ground.data }], guard := none }) (v := ?va6) rfl (by kernel_rfl) (by kernel_rfl) (by kernel_rfl) (fun _ _ _ h => h) (Or.inl ⟨by rfl, ?ha6⟩) hHeld ?ra6
  case ha6 =>
    intro wS hSw
    (try dsimp only at hSw)
    go_simp
    try with_reducible rfl
  case ra6 =>
  simp only [Act.put, List.setIfInBounds_toArray, List.set_cons_zero, List.set_cons_succ]
  refine wpAnyH_take (i := 7) (oi := { dst := some 16, op := Go.Op.fieldAddr 29 (Go.Operand.tmp 15) 4, type := 0, pos := "l05_session.go:60", after := #[{ on := 6, ground := Go.Ground.data }], guard := none }) (v := ?va7) rfl (by kernel_rfl) (by kernel_rfl) (by kernel_rfl) (fun _ _ _ h => h) (Or.inl ⟨by rfl, ?ha7⟩) hHeld ?ra7
  case ha7 =>
    intro wS hSw
    (try dsimp only at hSw)
    go_simp
    try with_reducible rfl
  case ra7 =>
  simp only [Act.put, List.setIfInBounds_toArray, List.set_cons_zero, List.set_cons_succ]
  refine wpAnyH_take (i := 8) (oi := { dst := some 17, op := Go.Op.load 2 (Go.Operand.tmp 16), type := 2, pos := "l05_session.go:60", after := #[{ on := 7, ground := Go.Ground.data }], guard := none }) (v := ?va8) rfl (by kernel_rfl) (by kernel_rfl) (by kernel_rfl) (fun _ _ _ h => h) (Or.inl ⟨by rfl, ?ha8⟩) hHeld ?ra8
  case ha8 =>
    intro wS hSw
    have y3 : wS.cell? ⟨b, 3, none⟩ = some (.int .i64 x.session) := by rw [hSw]; exact hQ.at 3 _ rfl
    have y4 : wS.cell? ⟨b, 4, none⟩ = some (.int .i64 x.seq) := by rw [hSw]; exact hQ.at 4 _ rfl
    clear hSw
    (try dsimp only at hSw)
    go_simp
    try with_reducible rfl
  case ra8 =>
  simp only [Act.put, List.setIfInBounds_toArray, List.set_cons_zero, List.set_cons_succ]
  refine wpAnyH_ready (rs := [9]) (by kernel_rfl) (by simp) ?_
  refine AllReadyH.cons (o := { dst := some 18, op := Go.Op.call { callee := Go.Callee.value (Go.Operand.func 73), args := #[Go.Operand.tmp 9, Go.Operand.tmp 13, Go.Operand.tmp 17], argTypes := #[24, 2, 2] }, type := 2, pos := "l05_session.go:60", after := #[{ on := 0, ground := Go.Ground.data }, { on := 4, ground := Go.Ground.data }, { on := 8, ground := Go.Ground.data }], guard := none }) rfl (fun K hK => ?_) AllReadyH.nil
  go_simp
  go_at_call 73
  refine (unhide HS1).mono ?_
  rintro e w3 ⟨rfl, rfl⟩
  try go_wp2_with fail
  refine hK.out _ _ rfl (fun hHeld => ?_)
  clear hK K
  try simp only [Act.put, List.setIfInBounds_toArray, List.set_cons_zero, List.set_cons_succ]
  refine wpAnyH_take (i := 10) (oi := { dst := some 7, op := Go.Op.assign (Go.Operand.tmp 18), type := 2, pos := "l05_session.go:60", after := #[{ on := 9, ground := Go.Ground.data }, { on := 9, ground := Go.Ground.chain }, { on := 0, ground := Go.Ground.phase }, { on := 1, ground := Go.Ground.phase }, { on := 2, ground := Go.Ground.phase }, { on := 3, ground := Go.Ground.phase }, { on := 4, ground := Go.Ground.phase }, { on := 5, ground := Go.Ground.phase }, { on := 6, ground := Go.Ground.phase }, { on := 7, ground := Go.Ground.phase }, { on := 8, ground := Go.Ground.phase }, { on := 9, ground := Go.Ground.phase }], guard := none }) (v := ?va10) rfl (by kernel_rfl) (by kernel_rfl) (by kernel_rfl) (fun _ _ _ h => h) (Or.inl ⟨by rfl, ?ha10⟩) hHeld ?ra10
  case ha10 =>
    intro wS hSw
    (try dsimp only at hSw)
    go_simp
    try with_reducible rfl
  case ra10 =>
  simp only [Act.put, List.setIfInBounds_toArray, List.set_cons_zero, List.set_cons_succ]
  refine wpAnyH_done (by kernel_rfl) ?_ _
  refine NoPanic.normal ?_
  clear hHeld HS1
  have hQ1 : Box 0 #[.int .i64 x.kind, .int .i64 x.id, .slice a2 x.vec.length d2, .int .i64 x.session, .int .i64 x.seq] 29 w.drew b := hQ
  have HZ1 : Hid (w.heap.size ≤ w.drew.heap.size) := Nat.le_refl _
  clear hQ
  generalize w.drew = w1 at *
  by_cases hsn : seenI ws x.session x.seq = 0
  · have hg : decide ((0 : Int) < (seenI ws x.session x.seq : Int)) = false := by simp [hsn]
    have HS2 := hide (l5LastC _ ws x.session w1.drew ((unhide HR).later (Below.refl _ _).drew) (by omega))
    have HSN := hide hsn
    rw [hsn] at hg
    rw [hsn]
    clear hsn
    go_wp2_with fail
    refine wp_region_noPanic ?_
    refine wp_region_held_drew (S := fun w' => w' = w1.drew) (by kernel_rfl) rfl (fun hHeld => ?_)
    refine wpAnyH_take (i := 0) (oi := { dst := some 24, op := Go.Op.move (Go.Operand.tmp 1), type := 62, pos := "l05_session.go:63", after := #[], guard := none }) (v := ?vb0) rfl (by kernel_rfl) (by kernel_rfl) (by kernel_rfl) (fun _ _ _ h => h) (Or.inl ⟨by rfl, ?hb0⟩) hHeld ?rb0
    case hb0 =>
      intro wS hSw
      (try dsimp only at hSw)
      go_simp
      try with_reducible rfl
    case rb0 =>
    simp only [Act.put, List.setIfInBounds_toArray, List.set_cons_zero, List.set_cons_succ]
    refine wpAnyH_take (i := 1) (oi := { dst := some 25, op := Go.Op.nilCheck (Go.Operand.tmp 24), type := 0, pos := "l05_session.go:63", after := #[{ on := 0, ground := Go.Ground.data }], guard := none }) (v := ?vb1) rfl (by kernel_rfl) (by kernel_rfl) (by kernel_rfl) (fun _ _ _ h => h) (Or.inl ⟨by rfl, ?hb1⟩) hHeld ?rb1
    case hb1 =>
      intro wS hSw
      (try dsimp only at hSw)
      go_simp
      try with_reducible rfl
    case rb1 =>
    simp only [Act.put, List.setIfInBounds_toArray, List.set_cons_zero, List.set_cons_succ]
    refine wpAnyH_take (i := 2) (oi := { dst := some 26, op := Go.Op.fieldAddr 29 (Go.Operand.tmp 25) 4, type := 0, pos := "l05_session.go:63", after := #[{ on := 1, ground := Go.Ground.data }], guard := none }) (v := ?vb2) rfl (by kernel_rfl) (by kernel_rfl) (by kernel_rfl) (fun _ _ _ h => h) (Or.inl ⟨by rfl, ?hb2⟩) hHeld ?rb2
    case hb2 =>
      intro wS hSw
      (try dsimp only at hSw)
      go_simp
      try with_reducible rfl
    case rb2 =>
    simp only [Act.put, List.setIfInBounds_toArray, List.set_cons_zero, List.set_cons_succ]
    refine wpAnyH_take (i := 3) (oi := { dst := some 27, op := Go.Op.load 2 (Go.Operand.tmp 26), type := 2, pos := "l05_session.go:63", after := #[{ on := 2, ground := Go.Ground.data }], guard := none }) (v := ?vb3) rfl (by kernel_rfl) (by kernel_rfl) (by kernel_rfl) (fun _ _ _ h => h) (Or.inl ⟨by rfl, ?hb3⟩) hHeld ?rb3
    case hb3 =>
      intro wS hSw
      have y3 : wS.cell? ⟨b, 3, none⟩ = some (.int .i64 x.session) := by rw [hSw]; exact hQ1.at 3 _ rfl
      have y4 : wS.cell? ⟨b, 4, none⟩ = some (.int .i64 x.seq) := by rw [hSw]; exact hQ1.at 4 _ rfl
      clear hSw
      (try dsimp only at hSw)
      go_simp
      try with_reducible rfl
    case rb3 =>
    simp only [Act.put, List.setIfInBounds_toArray, List.set_cons_zero, List.set_cons_succ]
    refine wpAnyH_take (i := 4) (oi := { dst := some 28, op := Go.Op.move (Go.Operand.tmp 0), type := 24, pos := "l05_session.go:63", after := #[], guard := none }) (v := ?vb4) rfl (by kernel_rfl) (by kernel_rfl) (by kernel_rfl) (fun _ _ _ h => h) (Or.inl ⟨by rfl, ?hb4⟩) hHeld ?rb4
    case hb4 =>
      intro wS hSw
      (try dsimp only at hSw)
      go_simp
      try with_reducible rfl
    case rb4 =>
    simp only [Act.put, List.setIfInBounds_toArray, List.set_cons_zero, List.set_cons_succ]
    refine wpAnyH_take (i := 5) (oi := { dst := some 29, op := Go.Op.move (Go.Operand.tmp 1), type := 62, pos := "l05_session.go:63", after := #[], guard := none }) (v := ?vb5) rfl (by kernel_rfl) (by kernel_rfl) (by kernel_rfl) (fun _ _ _ h => h) (Or.inl ⟨by rfl, ?hb5⟩) hHeld ?rb5
    case hb5 =>
      intro wS hSw
      (try dsimp only at hSw)
      go_simp
      try with_reducible rfl
    case rb5 =>
    simp only [Act.put, List.setIfInBounds_toArray, List.set_cons_zero, List.set_cons_succ]
    refine wpAnyH_take (i := 6) (oi := { dst := some 30, op := Go.Op.nilCheck (Go.Operand.tmp 29), type := 0, pos := "l05_session.go:63", after := #[{ on := 5, ground := Go.Ground.data }], guard := none }) (v := ?vb6) rfl (by kernel_rfl) (by kernel_rfl) (by kernel_rfl) (fun _ _ _ h => h) (Or.inl ⟨by rfl, ?hb6⟩) hHeld ?rb6
    case hb6 =>
      intro wS hSw
      (try dsimp only at hSw)
      go_simp
      try with_reducible rfl
    case rb6 =>
    simp only [Act.put, List.setIfInBounds_toArray, List.set_cons_zero, List.set_cons_succ]
    refine wpAnyH_take (i := 7) (oi := { dst := some 31, op := Go.Op.fieldAddr 29 (Go.Operand.tmp 30) 3, type := 0, pos := "l05_session.go:63", after := #[{ on := 6, ground := Go.Ground.data }], guard := none }) (v := ?vb7) rfl (by kernel_rfl) (by kernel_rfl) (by kernel_rfl) (fun _ _ _ h => h) (Or.inl ⟨by rfl, ?hb7⟩) hHeld ?rb7
    case hb7 =>
      intro wS hSw
      (try dsimp only at hSw)
      go_simp
      try with_reducible rfl
    case rb7 =>
    simp only [Act.put, List.setIfInBounds_toArray, List.set_cons_zero, List.set_cons_succ]
    refine wpAnyH_take (i := 8) (oi := { dst := some 32, op := Go.Op.load 2 (Go.Operand.tmp 31), type := 2, pos := "l05_session.go:63", after := #[{ on := 7, ground := Go.Ground.data }], guard := none }) (v := ?vb8) rfl (by kernel_rfl) (by kernel_rfl) (by kernel_rfl) (fun _ _ _ h => h) (Or.inl ⟨by rfl, ?hb8⟩) hHeld ?rb8
    case hb8 =>
      intro wS hSw
      have y3 : wS.cell? ⟨b, 3, none⟩ = some (.int .i64 x.session) := by rw [hSw]; exact hQ1.at 3 _ rfl
      have y4 : wS.cell? ⟨b, 4, none⟩ = some (.int .i64 x.seq) := by rw [hSw]; exact hQ1.at 4 _ rfl
      clear hSw
      (try dsimp only at hSw)
      go_simp
      try with_reducible rfl
    case rb8 =>
    simp only [Act.put, List.setIfInBounds_toArray, List.set_cons_zero, List.set_cons_succ]
    refine wpAnyH_ready (rs := [9]) (by kernel_rfl) (by simp) ?_
    refine AllReadyH.cons (o := { dst := some 33, op := Go.Op.call { callee := Go.Callee.value (Go.Operand.func 18), args := #[Go.Operand.tmp 28, Go.Operand.tmp 32], argTypes := #[24, 2] }, type := 2, pos := "l05_session.go:63", after := #[{ on := 4, ground := Go.Ground.data }, { on := 8, ground := Go.Ground.data }], guard := none }) rfl (fun K hK => ?_) AllReadyH.nil
    go_simp
    go_at_call 18
    refine (unhide HS2).mono ?_
    rintro e w3 ⟨rfl, rfl⟩
    try go_wp2_with fail
    refine hK.out _ _ rfl (fun hHeld => ?_)
    clear hK K
    try simp only [Act.put, List.setIfInBounds_toArray, List.set_cons_zero, List.set_cons_succ]
    refine wpAnyH_take (i := 10) (oi := { dst := some 34, op := Go.Op.binOp Go.BinOp.lss 2 (Go.Operand.tmp 27) (Go.Operand.tmp 33) 2, type := 4, pos := "l05_session.go:63", after := #[{ on := 3, ground := Go.Ground.data }, { on := 9, ground := Go.Ground.data }], guard := none }) (v := ?vb10) rfl (by kernel_rfl) (by kernel_rfl) (by kernel_rfl) (fun _ _ _ h => h) (Or.inl ⟨by rfl, ?hb10⟩) hHeld ?rb10
    case hb10 =>
      intro wS hSw
      (try dsimp only at hSw)
      go_simp
      try with_reducible rfl
    case rb10 =>
    simp only [Act.put, List.setIfInBounds_toArray, List.set_cons_zero, List.set_cons_succ]
    refine wpAnyH_done (by kernel_rfl) ?_ _
    refine NoPanic.normal ?_
    clear hHeld HS2
    have hQ2 : Box 0 #[.int .i64 x.kind, .int .i64 x.id, .slice a2 x.vec.length d2, .int .i64 x.session, .int .i64 x.seq] 29 w1.drew b := hQ1
    have HB2 := hide (unhide HB1).drew
    have HR3 := hide ((unhide HR).later (Below.refl _ _).drew)
    have HR4 := hide ((unhide HR2).later (Below.refl _ _).drew)
    have HZ2 : Hid (w.heap.size ≤ w1.drew.heap.size) := unhide HZ1
    clear hQ1 HB1 HR HR2 HZ1
    generalize w1.drew = w2 at *
    by_cases c1 : x.seq < lastI ws x.session
    · have hd : decide (x.seq < lastI ws x.session) = true := by simpa using c1
      have HG : Hid (appR ws x = ⟨7, false, 0, []⟩) := appR_old (unhide HFW) (unhide HF) (unhide HSN) c1
      clear c1 HSN
      rw [hd]
      go_wp2_with fail
      refine bodyPost_ret (v := .tuple #[.slice none 0 0, .int .i64 0, .int .i64 7]) (by simp [results, Tryz.results53, go_sem]) rfl ?_
      rw [unhide HG]
      exact ⟨_, _, _, rfl, rfl, lies_none, unhide HB2⟩
    · have hd : decide (x.seq < lastI ws x.session) = false := by simpa using c1
      rw [hd]
      by_cases c2 : 200 ≤ ws.length
      · have hd2 : decide ((200 : Int) ≤ (ws.length : Int)) = true := by simp; omega
        have HG : Hid (appR ws x = ⟨2, false, 0, []⟩) := appR_full (unhide HFW) (unhide HF) (unhide HSN) c1 c2
        clear c1 c2 HSN
        go_wp2_with fail
        refine bodyPost_ret (v := .tuple #[.slice none 0 0, .int .i64 0, .int .i64 2]) (by simp [results, Tryz.results53, go_sem]) rfl ?_
        rw [unhide HG]
        exact ⟨_, _, _, rfl, rfl, lies_none, unhide HB2⟩
      · have hd2 : decide ((200 : Int) ≤ (ws.length : Int)) = false := by simp; omega
        have HG : Hid (appR ws x = ⟨0, true, (ws.length : Int) + 1, ws ++ [x]⟩) := appR_new (unhide HFW) (unhide HF) (unhide HSN) c1 c2
        clear c1 c2 HSN
        have HRW := HR3
        have y0 : w2.cell? ⟨b, 0, none⟩ = some (.int .i64 x.kind) := hQ2.at 0 _ rfl
        have y1 : w2.cell? ⟨b, 1, none⟩ = some (.int .i64 x.id) := hQ2.at 1 _ rfl
        have y2 : w2.cell? ⟨b, 2, none⟩ = some (.slice a2 x.vec.length d2) := hQ2.at 2 _ rfl
        have y3 : w2.cell? ⟨b, 3, none⟩ = some (.int .i64 x.session) := hQ2.at 3 _ rfl
        have y4 : w2.cell? ⟨b, 4, none⟩ = some (.int .i64 x.seq) := hQ2.at 4 _ rfl
        have hbw : b < w2.heap.size := hQ2.lt
        have nb : Below w2.heap.size w2 (w2.alloc (.cells #[.int .i64 x.kind, .int .i64 x.id, .slice a2 x.vec.length d2, .int .i64 x.session, .int .i64 x.seq] 29)) := (Below.refl _ _).alloc (Nat.le_refl _) _
        have HQB := hide (hQ2.keep nb)
        have HQ4 : Hid (Box 0 #[.int .i64 x.kind, .int .i64 x.id, .slice a2 x.vec.length d2, .int .i64 x.session, .int .i64 x.seq] 29 (w2.alloc (.cells #[.int .i64 x.kind, .int .i64 x.id, .slice a2 x.vec.length d2, .int .i64 x.session, .int .i64 x.seq] 29)) w2.heap.size) := newBox (Nat.zero_le _)
        have HI := hide (l1Ints _ x.vec _ (Lay.ints_reads ((unhide HR4).later nb)) (Nat.le_trans (vec_few5 (unhide HF)) (by decide)))
        have HWV := hide (Lay.ints_reads (unhide HR4)).wf
        have HRA := hide ((unhide HR3).later nb)
        have HBW := hide nb
        have HBA := hide ((unhide HB2).trans (nb.mono (unhide HB2).size))
        clear nb HR3 HR4 HB2 hQ2
        go_upto_region 9 with fail
        clear y0 y1 y2 y3 y4
        generalize hw4 : w2.alloc (.cells #[.int .i64 x.kind, .int .i64 x.id, .slice a2 x.vec.length d2, .int .i64 x.session, .int .i64 x.seq] 29) = WA at *
        clear hw4
        have y2 : WA.cell? ⟨b, 2, none⟩ = some (.slice a2 x.vec.length d2) := (unhide HQB).at 2 _ rfl
        go_wp2_with fail
        clear y2 HQB
        refine (unhide HI).mono ?_
        rintro e w3 ⟨v3, rfl, hO, hb3⟩
        have hO2 := Lay.ownInts (unhide HWV) (by have := vec_few5 (unhide HF); omega) hO
        obtain ⟨ao2, cp2, rfl⟩ := open_sl hO2.reads
        obtain ⟨bl2, ⟨hl2, -, -⟩, hr2⟩ := hO2
        have bI := (unhide HQ4).keep hb3
        have z2 : w3.cell? ⟨w2.heap.size, 2, none⟩ = some (.slice a2 x.vec.length d2) := bI.at 2 _ rfl
        have f2 := bI.soft 2
        have l2 := bI.lt
        have hqA : w2.heap.size < WA.heap.size := (unhide HQ4).lt
        have hE : Ext (fun c => c = w2.heap.size) w3 (w3.setCell ⟨w2.heap.size, 2, none⟩ (.slice ao2 x.vec.length cp2)) := (Ext.refl (fun c => c = w2.heap.size) w3).setCell ⟨w2.heap.size, 2, none⟩ _ rfl
        have HL5 : Hid (Lay.tWrite.lies (w3.setCell ⟨w2.heap.size, 2, none⟩ (.slice ao2 x.vec.length cp2)) [.int .i64 x.kind, .int .i64 x.id, .slice ao2 x.vec.length cp2, .int .i64 x.session, .int .i64 x.seq] x bl2) := lies_Write.2 ⟨ao2, cp2, bl2, rfl, rfl, (wF_wf4 (unhide HF)).1, (wF_wf4 (unhide HF)).2.1, (Lay.sl Lay.int).keep hl2 (fun c hc => hE.block c ((Lay.sl Lay.int).lt hl2 c hc) (by have := (hr2 c hc).1; omega)), (wF_wf4 (unhide HF)).2.2.1, (wF_wf4 (unhide HF)).2.2.2⟩
        have HLB : Hid (∀ c ∈ bl2, w.heap.size ≤ c) := fun c hc => by have := (hr2 c hc).1; have := unhide HZ2; omega
        have hQ5 : Box 0 #[.int .i64 x.kind, .int .i64 x.id, .slice ao2 x.vec.length cp2, .int .i64 x.session, .int .i64 x.seq] 29 (w3.setCell ⟨w2.heap.size, 2, none⟩ (.slice ao2 x.vec.length cp2)) w2.heap.size := bI.set 2 (.slice ao2 x.vec.length cp2)
        have hR5a := (unhide HRA).later hb3
        have HR5 : Hid ((Lay.sl Lay.tWrite).Reads (w3.setCell ⟨w2.heap.size, 2, none⟩ (.slice ao2 x.vec.length cp2)) [.slice ao ws.length cap] ws) := by
          obtain ⟨blR, lR⟩ := unhide HRW
          refine ⟨blR, (Lay.sl Lay.tWrite).keep lR fun c hc => ?_⟩
          have hcl := (Lay.sl Lay.tWrite).lt lR c hc
          exact (hE.block c (by have := (unhide HBW).size; have := hb3.size; omega) (by omega)).trans ((hb3.block c (by omega)).trans ((unhide HBW).block c hcl))
        have HB5 : Hid (Below w.heap.size w (w3.setCell ⟨w2.heap.size, 2, none⟩ (.slice ao2 x.vec.length cp2))) := ((unhide HBA).trans (hb3.mono (unhide HBA).size)).setCell (by simpa using unhide HZ2) _
        have HZ5 : Hid (w.heap.size ≤ (w3.setCell ⟨w2.heap.size, 2, none⟩ (.slice ao2 x.vec.length cp2)).heap.size) := (unhide HB5).size
        clear hO hb3 hl2 hr2 bI hE HI HQ4 HRA HBA hR5a
        go_upto_region 10 with fail
        clear z2 f2 l2
        generalize hw5 : w3.setCell ⟨w2.heap.size, 2, none⟩ (.slice ao2 x.vec.length cp2) = w5 at *
        clear hw5
        have hwr : IntKind.i64.wrap ((ws.length : Int) + 1) = (ws.length : Int) + 1 := by rw [IntKind.wrap_i64]; omega
        have HDZ : Hid (w5.heap.size ≤ w5.drew.heap.size) := Nat.le_refl _
        generalize w2 = w4 at *
        refine wp_region_noPanic ?_
        refine wp_region_held_drew (S := fun w' => Below w5.heap.size w5 w') (by kernel_rfl) (Below.refl _ _).drew (fun hHeld => ?_)
        generalize w5.drew = wD at hHeld HDZ ⊢
        refine wpAnyH_take (i := 0) (oi := { dst := some 47, op := Go.Op.move (Go.Operand.tmp 0), type := 24, pos := "l05_session.go:71", after := #[], guard := none }) (v := ?vc0_1) rfl (by kernel_rfl) (by kernel_rfl) (by kernel_rfl) (fun _ _ _ h => h) (Or.inl ⟨by rfl, ?hc0_1⟩) hHeld ?rc0_1
        case hc0_1 =>
          intro wS hSw
          (try dsimp only at hSw)
          go_simp
          try with_reducible rfl
        case rc0_1 =>
        simp only [Act.put, List.setIfInBounds_toArray, List.set_cons_zero, List.set_cons_succ]
        refine wpAnyH_take (i := 2) (oi := { dst := some 49, op := Go.Op.load 29 (Go.Operand.tmp 8), type := 29, pos := "l05_session.go:71", after := #[], guard := none }) (v := ?vc2_2) rfl (by kernel_rfl) (by kernel_rfl) (by kernel_rfl) (fun _ _ _ h => h) (Or.inl ⟨by rfl, ?hc2_2⟩) hHeld ?rc2_2
        case hc2_2 =>
          intro wS hSw
          have y0 : wS.cell? ⟨w4.heap.size, 0, none⟩ = some (.int .i64 x.kind) := (hQ5.keep hSw).at 0 _ rfl
          have y1 : wS.cell? ⟨w4.heap.size, 1, none⟩ = some (.int .i64 x.id) := (hQ5.keep hSw).at 1 _ rfl
          have y2 : wS.cell? ⟨w4.heap.size, 2, none⟩ = some (.slice ao2 x.vec.length cp2) := (hQ5.keep hSw).at 2 _ rfl
          have y3 : wS.cell? ⟨w4.heap.size, 3, none⟩ = some (.int .i64 x.session) := (hQ5.keep hSw).at 3 _ rfl
          have y4 : wS.cell? ⟨w4.heap.size, 4, none⟩ = some (.int .i64 x.seq) := (hQ5.keep hSw).at 4 _ rfl
          clear hSw
          (try dsimp only at hSw)
          go_simp
          try with_reducible rfl
        case rc2_2 =>
        simp only [Act.put, List.setIfInBounds_toArray, List.set_cons_zero, List.set_cons_succ]
        refine wpAnyH_take (i := 5) (oi := { dst := some 52, op := Go.Op.move (Go.Operand.tmp 0), type := 24, pos := "l05_session.go:71", after := #[], guard := none }) (v := ?vc5_3) rfl (by kernel_rfl) (by kernel_rfl) (by kernel_rfl) (fun _ _ _ h => h) (Or.inl ⟨by rfl, ?hc5_3⟩) hHeld ?rc5_3
        case hc5_3 =>
          intro wS hSw
          (try dsimp only at hSw)
          go_simp
          try with_reducible rfl
        case rc5_3 =>
        simp only [Act.put, List.setIfInBounds_toArray, List.set_cons_zero, List.set_cons_succ]
        refine wpAnyH_take (i := 6) (oi := { dst := some 53, op := Go.Op.call { callee := Go.Callee.builtin Go.Builtin.len, args := #[Go.Operand.tmp 52], argTypes := #[24] }, type := 3, pos := "l05_session.go:71", after := #[{ on := 5, ground := Go.Ground.data }], guard := none }) (v := ?vc6_4) rfl (by kernel_rfl) (by kernel_rfl) (by kernel_rfl) (fun _ _ _ h => h) (Or.inl ⟨by rfl, ?hc6_4⟩) hHeld ?rc6_4
        case hc6_4 =>
          intro wS hSw
          (try dsimp only at hSw)
          go_simp
          try with_reducible rfl
        case rc6_4 =>
        simp only [Act.put, List.setIfInBounds_toArray, List.set_cons_zero, List.set_cons_succ]
        refine wpAnyH_take (i := 7) (oi := { dst := some 54, op := Go.Op.binOp Go.BinOp.add 2 (Go.Operand.tmp 53) (Go.Operand.const (Go.Value.int Go.IntKind.i64 1)) 2, type := 2, pos := "l05_session.go:71", after := #[{ on := 6, ground := Go.Ground.data }, { on := 8, ground := Go.Ground.gcOnly Go.Departure.lateStores }], guard := none }) (v := ?vc7_5) rfl (by kernel_rfl) (by kernel_rfl) (by kernel_rfl) (fun _ _ _ h => h) (Or.inl ⟨by rfl, ?hc7_5⟩) hHeld ?rc7_5
        case hc7_5 =>
          intro wS hSw
          (try dsimp only at hSw)
          go_simp
          try with_reducible rfl
        case rc7_5 =>
        simp only [Act.put, List.setIfInBounds_toArray, List.set_cons_zero, List.set_cons_succ]
        refine wpAnyH_ready (rs := [1, 3]) (by kernel_rfl) (by simp) ?_
        refine AllReadyH.cons (o := { dst := some 48, op := Go.Op.call { callee := Go.Callee.value (Go.Operand.func 52), args := #[Go.Operand.tmp 47], argTypes := #[24] }, type := 24, pos := "l05_session.go:71", after := #[{ on := 0, ground := Go.Ground.data }], guard := none }) rfl (fun K hK => ?o1) (AllReadyH.cons (o := { dst := some 50, op := Go.Op.buildSlice 24 1 #[(0, Go.Operand.tmp 49)], type := 24, pos := "l05_session.go:71", after := #[{ on := 2, ground := Go.Ground.data }], guard := none }) rfl (fun K hK => ?o3) AllReadyH.nil)
        case o1 =>
          go_simp
          go_at_call 52
          refine (wcopyC _ ws _ ((unhide HR5).later hHeld) (by omega) (unhide HVF)).mono ?_
          rintro e w6 ⟨v6, rfl, ⟨rows6, bls6, hG6, hS6⟩, hb6⟩
          try go_wp2_with fail
          refine hK.out _ _ (hHeld.trans (hb6.mono hHeld.size)) (fun hHeld => ?_)
          clear hK K
          try simp only [Act.put, List.setIfInBounds_toArray, List.set_cons_zero, List.set_cons_succ]
          refine wpAnyH_ready (rs := [3]) (by kernel_rfl) (by simp) ?_
          refine AllReadyH.cons (o := { dst := some 50, op := Go.Op.buildSlice 24 1 #[(0, Go.Operand.tmp 49)], type := 24, pos := "l05_session.go:71", after := #[{ on := 2, ground := Go.Ground.data }], guard := none }) rfl (fun K hK => ?_) AllReadyH.nil
          have hH6 := hHeld
          go_simp
          refine hK.out _ _ (hHeld.alloc hHeld.size _) (fun hHeld => ?_)
          clear hK K
          try simp only [Act.put, List.setIfInBounds_toArray, List.set_cons_zero, List.set_cons_succ]
          refine wpAnyH_ready (rs := [4]) (by kernel_rfl) (by simp) ?_
          refine AllReadyH.cons (o := { dst := some 51, op := Go.Op.call { callee := Go.Callee.builtin Go.Builtin.append, args := #[Go.Operand.tmp 48, Go.Operand.tmp 50], argTypes := #[24, 24] }, type := 24, pos := "l05_session.go:71", after := #[{ on := 1, ground := Go.Ground.data }, { on := 3, ground := Go.Ground.data }, { on := 1, ground := Go.Ground.chain }], guard := none }) rfl (fun K hK => ?_) AllReadyH.nil
          refine step_append_Write hG6 (row := [.int .i64 x.kind, .int .i64 x.id, .slice ao2 x.vec.length cp2, .int .i64 x.session, .int .i64 x.seq]) (x := x) (bl := bl2) (Lay.tWrite.keep (unhide HL5) fun c hc => hH6.block c (Lay.tWrite.lt (unhide HL5) c hc)) (fun c hc e => by have h1 := (hG6.own.lt c e).1; have h2 := Lay.tWrite.lt (unhide HL5) c hc; have := unhide HDZ; omega) rfl _ _ rfl rfl rfl (by omega) (by have := hH6.size; have := hb6.size; omega) ?_
          rintro g9 cp9 w9 hG9 hb9 hE9 hg9 hz9 hor9
          refine hK.out _ _ (hH6.trans (hb9.mono (unhide HDZ))) (fun hHeld => ?_)
          clear hK K
          try simp only [Act.put, List.setIfInBounds_toArray, List.set_cons_zero, List.set_cons_succ]
          refine wpAnyH_take (i := 8) (oi := { dst := some 4, op := Go.Op.assign (Go.Operand.tmp 51), type := 24, pos := "l05_session.go:71", after := #[{ on := 4, ground := Go.Ground.data }, { on := 4, ground := Go.Ground.chain }, { on := 0, ground := Go.Ground.phase }, { on := 1, ground := Go.Ground.phase }, { on := 2, ground := Go.Ground.phase }, { on := 3, ground := Go.Ground.phase }, { on := 4, ground := Go.Ground.phase }, { on := 5, ground := Go.Ground.textOnly Go.Departure.lateStores }, { on := 6, ground := Go.Ground.textOnly Go.Departure.lateStoresUnsure }, { on := 7, ground := Go.Ground.textOnly Go.Departure.lateStores }], guard := none }) (v := ?vc8_6) rfl (by kernel_rfl) (by kernel_rfl) (by kernel_rfl) (fun _ _ _ h => h) (Or.inl ⟨by rfl, ?hc8_6⟩) hHeld ?rc8_6
          case hc8_6 =>
            intro wS hSw
            (try dsimp only at hSw)
            go_simp
            try with_reducible rfl
          case rc8_6 =>
          simp only [Act.put, List.setIfInBounds_toArray, List.set_cons_zero, List.set_cons_succ]
          refine wpAnyH_take (i := 9) (oi := { dst := some 5, op := Go.Op.assign (Go.Operand.tmp 54), type := 2, pos := "l05_session.go:71", after := #[{ on := 7, ground := Go.Ground.data }, { on := 8, ground := Go.Ground.chain }, { on := 0, ground := Go.Ground.phase }, { on := 1, ground := Go.Ground.phase }, { on := 2, ground := Go.Ground.phase }, { on := 3, ground := Go.Ground.phase }, { on := 4, ground := Go.Ground.phase }, { on := 5, ground := Go.Ground.phase }, { on := 6, ground := Go.Ground.phase }, { on := 7, ground := Go.Ground.phase }, { on := 8, ground := Go.Ground.phase }], guard := none }) (v := ?vc9_7) rfl (by kernel_rfl) (by kernel_rfl) (by kernel_rfl) (fun _ _ _ h => h) (Or.inl ⟨by rfl, ?hc9_7⟩) hHeld ?rc9_7
          case hc9_7 =>
            intro wS hSw
            (try dsimp only at hSw)
            go_simp
            try with_reducible rfl
          case rc9_7 =>
          simp only [Act.put, List.setIfInBounds_toArray, List.set_cons_zero, List.set_cons_succ]
          refine wpAnyH_take (i := 10) (oi := { dst := some 6, op := Go.Op.assign (Go.Operand.const (Go.Value.int Go.IntKind.i64 0)), type := 2, pos := "l05_session.go:71", after := #[{ on := 9, ground := Go.Ground.chain }, { on := 0, ground := Go.Ground.phase }, { on := 1, ground := Go.Ground.phase }, { on := 2, ground := Go.Ground.phase }, { on := 3, ground := Go.Ground.phase }, { on := 4, ground := Go.Ground.phase }, { on := 5, ground := Go.Ground.phase }, { on := 6, ground := Go.Ground.phase }, { on := 7, ground := Go.Ground.phase }, { on := 8, ground := Go.Ground.phase }, { on := 9, ground := Go.Ground.phase }], guard := none }) (v := ?vc10_8) rfl (by kernel_rfl) (by kernel_rfl) (by kernel_rfl) (fun _ _ _ h => h) (Or.inl ⟨by rfl, ?hc10_8⟩) hHeld ?rc10_8
          case hc10_8 =>
            intro wS hSw
            (try dsimp only at hSw)
            go_simp
            try with_reducible rfl
          case rc10_8 =>
          simp only [Act.put, List.setIfInBounds_toArray, List.set_cons_zero, List.set_cons_succ]
          refine wpAnyH_done (by kernel_rfl) ?_ _
          refine NoPanic.normal ?_
          have HX := hide hH6
          clear hH6
          have HF9 : Hid (∀ c ∈ (bls6 ++ [bl2]).flatten, w.heap.size ≤ c) := by
            intro c hc
            rw [List.flatten_append] at hc
            rcases List.mem_append.1 hc with hc | hc
            · have := hS6 c hc; have := unhide HDZ; have := unhide HZ5; omega
            · have := unhide HLB c (by simpa using hc); omega
          have HB9 := hide ((unhide HB5).trans (hHeld.mono (unhide HB5).size))
          have HG9 := hide (hG9.lower (b' := w.heap.size) (by have := unhide HDZ; have := unhide HZ5; omega))
          clear hG9 hb9 hE9 hg9 hz9 hor9 hHeld hG6 hS6 hb6 HX
          go_wp2_with fail
          refine bodyPost_ret (v := .tuple #[.slice (some ⟨g9, 0, none⟩) (ws.length + 1) cp9, .int .i64 ((ws.length : Int) + 1), .int .i64 0]) (by simp [results, Tryz.results53, go_sem]) rfl ?_
          rw [unhide HG]
          refine ⟨_, _, _, rfl, by simp, ?_, unhide HB9⟩
          have := (unhide HG9).toLies (by simp; omega) (unhide HF9)
          simpa using this
        case o3 =>
          have hH6 := hHeld
          go_simp
          refine hK.out _ _ (hHeld.alloc hHeld.size _) (fun hHeld => ?_)
          clear hK K
          try simp only [Act.put, List.setIfInBounds_toArray, List.set_cons_zero, List.set_cons_succ]
          refine wpAnyH_ready (rs := [1]) (by kernel_rfl) (by simp) ?_
          refine AllReadyH.cons (o := { dst := some 48, op := Go.Op.call { callee := Go.Callee.value (Go.Operand.func 52), args := #[Go.Operand.tmp 47], argTypes := #[24] }, type := 24, pos := "l05_session.go:71", after := #[{ on := 0, ground := Go.Ground.data }], guard := none }) rfl (fun K hK => ?_) AllReadyH.nil
          have hR6 : (wD.alloc (.cells #[.int .i64 x.kind, .int .i64 x.id, .slice ao2 x.vec.length cp2, .int .i64 x.session, .int .i64 x.seq] 29)).heap[wD.heap.size]? = some (.cells #[.int .i64 x.kind, .int .i64 x.id, .slice ao2 x.vec.length cp2, .int .i64 x.session, .int .i64 x.seq] 29 (0, 0)) := heap_alloc_new wD _
          go_simp
          go_at_call 52
          refine (wcopyC _ ws _ ((unhide HR5).later hHeld) (by omega) (unhide HVF)).mono ?_
          rintro e w6 ⟨v6, rfl, ⟨rows6, bls6, hG6, hS6⟩, hb6⟩
          try go_wp2_with fail
          have hR7 := (hb6.block _ (lt_of_block hR6)).trans hR6
          have hH7 := hHeld.trans (hb6.mono hHeld.size)
          refine hK.out _ _ (hHeld.trans (hb6.mono hHeld.size)) (fun hHeld => ?_)
          clear hK K
          try simp only [Act.put, List.setIfInBounds_toArray, List.set_cons_zero, List.set_cons_succ]
          refine wpAnyH_ready (rs := [4]) (by kernel_rfl) (by simp) ?_
          refine AllReadyH.cons (o := { dst := some 51, op := Go.Op.call { callee := Go.Callee.builtin Go.Builtin.append, args := #[Go.Operand.tmp 48, Go.Operand.tmp 50], argTypes := #[24, 24] }, type := 24, pos := "l05_session.go:71", after := #[{ on := 1, ground := Go.Ground.data }, { on := 3, ground := Go.Ground.data }, { on := 1, ground := Go.Ground.chain }], guard := none }) rfl (fun K hK => ?_) AllReadyH.nil
          refine step_append_WriteAt hG6 (bR := wD.heap.size) (row := [.int .i64 x.kind, .int .i64 x.id, .slice ao2 x.vec.length cp2, .int .i64 x.session, .int .i64 x.seq]) (x := x) (bl := bl2) hR7 (Lay.tWrite.keep (unhide HL5) fun c hc => hH7.block c (Lay.tWrite.lt (unhide HL5) c hc)) (fun c hc e => by have h1 := (hG6.own.lt c e).1; have h2 := Lay.tWrite.lt (unhide HL5) c hc; have h3 := hH6.size; have h4 : (wD.alloc (.cells #[.int .i64 x.kind, .int .i64 x.id, .slice ao2 x.vec.length cp2, .int .i64 x.session, .int .i64 x.seq] 29)).heap.size = wD.heap.size + 1 := (by simp); omega) rfl _ _ rfl rfl rfl (by omega) hb6.size ?_
          rintro g9 cp9 w9 hG9 hb9 hE9 hg9 hz9 hor9
          refine hK.out _ _ (hH7.trans (hb9.mono (by have h3 := hH6.size; have h4 : (wD.alloc (.cells #[.int .i64 x.kind, .int .i64 x.id, .slice ao2 x.vec.length cp2, .int .i64 x.session, .int .i64 x.seq] 29)).heap.size = wD.heap.size + 1 := (by simp); omega))) (fun hHeld => ?_)
          clear hK K
          try simp only [Act.put, List.setIfInBounds_toArray, List.set_cons_zero, List.set_cons_succ]
          refine wpAnyH_take (i := 8) (oi := { dst := some 4, op := Go.Op.assign (Go.Operand.tmp 51), type := 24, pos := "l05_session.go:71", after := #[{ on := 4, ground := Go.Ground.data }, { on := 4, ground := Go.Ground.chain }, { on := 0, ground := Go.Ground.phase }, { on := 1, ground := Go.Ground.phase }, { on := 2, ground := Go.Ground.phase }, { on := 3, ground := Go.Ground.phase }, { on := 4, ground := Go.Ground.phase }, { on := 5, ground := Go.Ground.textOnly Go.Departure.lateStores }, { on := 6, ground := Go.Ground.textOnly Go.Departure.lateStoresUnsure }, { on := 7, ground := Go.Ground.textOnly Go.Departure.lateStores }], guard := none }) (v := ?vc8_9) rfl (by kernel_rfl) (by kernel_rfl) (by kernel_rfl) (fun _ _ _ h => h) (Or.inl ⟨by rfl, ?hc8_9⟩) hHeld ?rc8_9
          case hc8_9 =>
            intro wS hSw
            (try dsimp only at hSw)
            go_simp
            try with_reducible rfl
          case rc8_9 =>
          simp only [Act.put, List.setIfInBounds_toArray, List.set_cons_zero, List.set_cons_succ]
          refine wpAnyH_take (i := 9) (oi := { dst := some 5, op := Go.Op.assign (Go.Operand.tmp 54), type := 2, pos := "l05_session.go:71", after := #[{ on := 7, ground := Go.Ground.data }, { on := 8, ground := Go.Ground.chain }, { on := 0, ground := Go.Ground.phase }, { on := 1, ground := Go.Ground.phase }, { on := 2, ground := Go.Ground.phase }, { on := 3, ground := Go.Ground.phase }, { on := 4, ground := Go.Ground.phase }, { on := 5, ground := Go.Ground.phase }, { on := 6, ground := Go.Ground.phase }, { on := 7, ground := Go.Ground.phase }, { on := 8, ground := Go.Ground.phase }], guard := none }) (v := ?vc9_10) rfl (by kernel_rfl) (by kernel_rfl) (by kernel_rfl) (fun _ _ _ h => h) (Or.inl ⟨by rfl, ?hc9_10⟩) hHeld ?rc9_10
          case hc9_10 =>
            intro wS hSw
            (try dsimp only at hSw)
            go_simp
            try with_reducible rfl
          case rc9_10 =>
          simp only [Act.put, List.setIfInBounds_toArray, List.set_cons_zero, List.set_cons_succ]
          refine wpAnyH_take (i := 10) (oi := { dst := some 6, op := Go.Op.assign (Go.Operand.const (Go.Value.int Go.IntKind.i64 0)), type := 2, pos := "l05_session.go:71", after := #[{ on := 9, ground := Go.Ground.chain }, { on := 0, ground := Go.Ground.phase }, { on := 1, ground := Go.Ground.phase }, { on := 2, ground := Go.Ground.phase }, { on := 3, ground := Go.Ground.phase }, { on := 4, ground := Go.Ground.phase }, { on := 5, ground := Go.Ground.phase }, { on := 6, ground := Go.Ground.phase }, { on := 7, ground := Go.Ground.phase }, { on := 8, ground := Go.Ground.phase }, { on := 9, ground := Go.Ground.phase }], guard := none }) (v := ?vc10_11) rfl (by kernel_rfl) (by kernel_rfl) (by kernel_rfl) (fun _ _ _ h => h) (Or.inl ⟨by rfl, ?hc10_11⟩) hHeld ?rc10_11
          case hc10_11 =>
            intro wS hSw
            (try dsimp only at hSw)
            go_simp
            try with_reducible rfl
          case rc10_11 =>
          simp only [Act.put, List.setIfInBounds_toArray, List.set_cons_zero, List.set_cons_succ]
          refine wpAnyH_done (by kernel_rfl) ?_ _
          refine NoPanic.normal ?_
          have HX := hide hH6
          have h4 : (wD.alloc (.cells #[.int .i64 x.kind, .int .i64 x.id, .slice ao2 x.vec.length cp2, .int .i64 x.session, .int .i64 x.seq] 29)).heap.size = wD.heap.size + 1 := (by simp)
          have h3 := hH6.size
          clear hH6 hR6 hR7 hH7
          have HF9 : Hid (∀ c ∈ (bls6 ++ [bl2]).flatten, w.heap.size ≤ c) := by
            intro c hc
            rw [List.flatten_append] at hc
            rcases List.mem_append.1 hc with hc | hc
            · have := hS6 c hc; have := unhide HZ5; omega
            · have := unhide HLB c (by simpa using hc); omega
          have HB9 := hide ((unhide HB5).trans (hHeld.mono (unhide HB5).size))
          have HG9 := hide (hG9.lower (b' := w.heap.size) (by have := unhide HZ5; omega))
          clear hG9 hb9 hE9 hg9 hz9 hor9 hHeld hG6 hS6 hb6 HX
          go_wp2_with fail
          refine bodyPost_ret (v := .tuple #[.slice (some ⟨g9, 0, none⟩) (ws.length + 1) cp9, .int .i64 ((ws.length : Int) + 1), .int .i64 0]) (by simp [results, Tryz.results53, go_sem]) rfl ?_
          rw [unhide HG]
          refine ⟨_, _, _, rfl, by simp, ?_, unhide HB9⟩
          have := (unhide HG9).toLies (by simp; omega) (unhide HF9)
          simpa using this
  · have HG : Hid (appR ws x = ⟨0, false, seenI ws x.session x.seq, ws⟩) := appR_seen (unhide HFW) (unhide HF) hsn
    have HC := hide (wcopyC _ ws w1 (unhide HR) (by omega) (unhide HVF))
    generalize seenI ws x.session x.seq = k9 at *
    obtain ⟨m9, rfl⟩ : ∃ m, k9 = m + 1 := ⟨k9 - 1, by omega⟩
    have hg : decide ((0 : Int) < (m9 : Int) + 1) = true := decide_eq_true (by omega)
    clear hsn hQ1
    go_wp2_with fail
    refine (unhide HC).mono ?_
    rintro e w4 ⟨v4, rfl, ⟨rows4, bls4, hG4, hS4⟩, hb4⟩
    have hLI := hG4.toLies (by omega) hS4
    obtain ⟨ao9, cp9, rfl⟩ := open_sl hLI.reads
    have HL9 := hide (hLI.mono (lo' := w.heap.size) (unhide HZ1) (Nat.le_refl _))
    have HB9 := hide ((unhide HB1).trans (hb4.mono (unhide HB1).size))
    clear hG4 hS4 hb4 hLI HC
    go_wp2_with fail
    refine bodyPost_ret (v := .tuple #[.slice ao9 ws.length cp9, .int .i64 ((m9 : Int) + 1), .int .i64 0]) (by simp [results, Tryz.results53, go_sem]) rfl ?_
    rw [unhide HG]
    exact ⟨_, _, _, by simp, rfl, unhide HL9, unhide HB9⟩

end Go.Proofs.YtbogjepkdcknfaaGreatDoor

namespace Go.Proofs.YtbogjepkdcknfaaGreatDoor
open Go.RowKit

set_option maxRecDepth 10000 in
set_option maxHeartbeats 2000000 in
theorem l9TakeC (bn yb : Nat) (a6 : Option Addr) (d6 : Nat) (a2 : Option Addr) (d2 : Nat) (x : DNode) (y : DWrite) (w : World) (hX : Box 0 #[.int .i64 x.id, .bool x.up, .int .i64 x.epoch, .int .i64 x.lease, .slice a6 x.writes.length d6, .int .i64 x.sure, .int .i64 x.clean] 26 w bn) (hY : Box 0 #[.int .i64 y.kind, .int .i64 y.id, .slice a2 y.vec.length d2, .int .i64 y.session, .int .i64 y.seq] 29 w yb) (R4 : (Lay.sl Lay.tWrite).Reads w [.slice a6 x.writes.length d6] x.writes) (R2 : (Lay.sl Lay.int).Reads w [.slice a2 y.vec.length d2] y.vec) (hfw : writesF x.writes = 0) (hf : wF y = 0) :
    Calls Tryz.prog 25 #[.pointer (some ⟨bn, 0, none⟩), .pointer (some ⟨yb, 0, none⟩)] w fun e w' => ∃ at' : Int, e = .returned (.tuple #[.int .i64 at', .int .i64 (takeCode (appR x.writes y))]) ∧ (takeCode (appR x.writes y) = 0 → at' = (appR x.writes y).place ∧ ∃ a n c, Box 0 #[.int .i64 x.id, .bool x.up, .int .i64 x.epoch, .int .i64 x.lease, .slice a n c, .int .i64 x.sure, .int .i64 x.clean] 26 w' bn ∧ (Lay.sl Lay.tWrite).LiesIn w' [.slice a n c] (appR x.writes y).writes w.heap.size w'.heap.size) ∧ Ext (fun q => q = bn) w w' := by
  have HL := hide (l5AppendC _ x.writes yb a2 d2 y w R4 hY R2 hfw hf)
  have hlen := (writesF_zero hfw).1
  have HAL : Hid ((appR x.writes y).writes.length ≤ 201) := by
    show (appR x.writes y).writes.length ≤ 201
    by_cases hs : seenI x.writes y.session y.seq = 0
    · by_cases c : y.seq < lastI x.writes y.session
      · rw [appR_old hfw hf hs c]; simp
      · by_cases c2 : 200 ≤ x.writes.length
        · rw [appR_full hfw hf hs c c2]; simp
        · rw [appR_new hfw hf hs c c2]; simp; omega
    · rw [appR_seen hfw hf hs]; simp only; omega
  have x4 := hX.at 4 _ rfl
  simp only [List.getElem_toArray, List.getElem_cons_zero, List.getElem_cons_succ] at x4
  have xl := hX.lt
  have HX := hide hX
  clear hX hY R4 R2 hfw hf hlen
  generalize hr : appR x.writes y = r at *
  clear hr
  go_enter Tryz.func25, Tryz.ntmps25
  go_wp2_with fail
  refine (unhide HL).mono ?_
  rintro e w1 ⟨a, n, c, rfl, hn, O, hb⟩
  have hX1 := (unhide HX).keep hb
  have x4 := hX1.at 4 _ rfl
  simp only [List.getElem_toArray, List.getElem_cons_zero, List.getElem_cons_succ] at x4
  have xl1 := hX1.lt
  have xf := hX1.soft
  have HB := hide hb
  have HO := hide O
  have hnl : n ≤ 201 := by rw [hn]; exact unhide HAL
  have HN := hide hn
  have HX1 := hide hX1
  clear hb O hn hX1 HX HL
  by_cases hc : r.code = 0
  · rw [hc]
    by_cases h40 : 40 < n
    · have HT : Hid (takeCode r = 2) := by show takeCode r = 2; rw [takeCode, if_pos hc, if_pos (by rw [← unhide HN]; exact h40)]
      have hd : decide ((40 : Int) < (n : Int)) = true := by simp; omega
      clear hc
      go_wp2_with fail
      refine bodyPost_ret (v := .tuple #[.int .i64 0, .int .i64 2]) (by simp [results, Tryz.results25, go_sem]) rfl ?_
      refine ⟨0, by rw [unhide HT], fun h0 => ?_, ext_of_below (unhide HB) _⟩
      rw [unhide HT] at h0
      exact absurd h0 (by decide)
    · have HT : Hid (takeCode r = 0) := by show takeCode r = 0; rw [takeCode, if_pos hc, if_neg (by rw [← unhide HN]; exact h40)]
      have hd : decide ((40 : Int) < (n : Int)) = false := by simp; omega
      have HBX : Hid (Box 0 #[.int .i64 x.id, .bool x.up, .int .i64 x.epoch, .int .i64 x.lease, .slice a n c, .int .i64 x.sure, .int .i64 x.clean] 26 (w1.setCell ⟨bn, 4, none⟩ (.slice a n c)) bn) := Box.set (unhide HX1) 4 (.slice a n c)
      have e1 : Ext (fun q => q = bn) w1 (w1.setCell ⟨bn, 4, none⟩ (.slice a n c)) := (Ext.refl (fun q => q = bn) _).setCell ⟨bn, 4, none⟩ _ rfl
      have HE1 := hide ((ext_of_below (unhide HB) _).trans e1)
      have HO1 : Hid ((Lay.sl Lay.tWrite).LiesIn (w1.setCell ⟨bn, 4, none⟩ (.slice a n c)) [.slice a n c] r.writes w.heap.size (w1.setCell ⟨bn, 4, none⟩ (.slice a n c)).heap.size) := ((unhide HO).ext e1 (fun q h1 h2 h3 => by omega)).mono (Nat.le_refl _) (by simp)
      clear hc e1
      go_wp2_with fail
      refine bodyPost_ret (v := .tuple #[.int .i64 r.place, .int .i64 0]) (by simp [results, Tryz.results25, go_sem]) rfl ?_
      exact ⟨r.place, by rw [unhide HT], fun _ => ⟨rfl, a, n, c, unhide HBX, unhide HO1⟩, unhide HE1⟩
  · have HT : Hid (takeCode r = r.code) := by show takeCode r = r.code; rw [takeCode, if_neg hc]
    have HC := hide hc
    have hd : (r.code != 0) = true := by simpa using hc
    clear hc
    generalize r.code = cc at *
    go_wp2_with fail
    refine bodyPost_ret (v := .tuple #[.int .i64 0, .int .i64 cc]) (by simp [results, Tryz.results25, go_sem]) rfl ?_
    refine ⟨0, by rw [unhide HT], fun h0 => ?_, ext_of_below (unhide HB) _⟩
    rw [unhide HT] at h0
    exact absurd h0 (unhide HC)


end Go.Proofs.YtbogjepkdcknfaaGreatDoor

namespace Go.Proofs.YtbogjepkdcknfaaGreatDoor
open Go.RowKit

set_option maxRecDepth 10000 in
set_option maxHeartbeats 4000000 in
theorem specTakeWrite (cs : List Value) (x : DNode) (us : List Value) (y : DWrite) (w : World) (h : Lay.tNode.Reads w cs x) (hy : Lay.tWrite.Reads w us y) :
    Calls Tryz.prog 7 #[.agg cs.toArray, .agg us.toArray] w fun e w' => ∃ cs, e = .returned (.agg cs.toArray) ∧ Lay.tNodeResult.LiesIn w' cs (takeR x y) w.heap.size w'.heap.size ∧ Below w.heap.size w w' := by
  have hN := h
  have hV := hy
  obtain ⟨a4, d4, rfl, R4⟩ := open_Node h
  obtain ⟨a2, d2, rfl, R2⟩ := open_Write hy
  clear h hy
  have nb : Below w.heap.size w (((w.alloc (.cells #[.int .i64 x.id, .bool x.up, .int .i64 x.epoch, .int .i64 x.lease, .slice a4 x.writes.length d4, .int .i64 x.sure, .int .i64 x.clean] 26)).alloc (.cells #[.int .i64 y.kind, .int .i64 y.id, .slice a2 y.vec.length d2, .int .i64 y.session, .int .i64 y.seq] 29)).alloc (.cells #[.int .i64 0, .int .i64 0, .int .i64 0, .bool false, .int .i64 0, .int .i64 0, .slice none 0 0, .int .i64 0, .int .i64 0] 33)) := (((Below.refl _ _).alloc (Nat.le_refl _) _).alloc (by simp) _).alloc (by simp; omega) _
  have bX : Box 0 #[.int .i64 x.id, .bool x.up, .int .i64 x.epoch, .int .i64 x.lease, .slice a4 x.writes.length d4, .int .i64 x.sure, .int .i64 x.clean] 26 (((w.alloc (.cells #[.int .i64 x.id, .bool x.up, .int .i64 x.epoch, .int .i64 x.lease, .slice a4 x.writes.length d4, .int .i64 x.sure, .int .i64 x.clean] 26)).alloc (.cells #[.int .i64 y.kind, .int .i64 y.id, .slice a2 y.vec.length d2, .int .i64 y.session, .int .i64 y.seq] 29)).alloc (.cells #[.int .i64 0, .int .i64 0, .int .i64 0, .bool false, .int .i64 0, .int .i64 0, .slice none 0 0, .int .i64 0, .int .i64 0] 33)) w.heap.size := ((newBox (Nat.zero_le _)).grow _).grow _
  have bY : Box 0 #[.int .i64 y.kind, .int .i64 y.id, .slice a2 y.vec.length d2, .int .i64 y.session, .int .i64 y.seq] 29 (((w.alloc (.cells #[.int .i64 x.id, .bool x.up, .int .i64 x.epoch, .int .i64 x.lease, .slice a4 x.writes.length d4, .int .i64 x.sure, .int .i64 x.clean] 26)).alloc (.cells #[.int .i64 y.kind, .int .i64 y.id, .slice a2 y.vec.length d2, .int .i64 y.session, .int .i64 y.seq] 29)).alloc (.cells #[.int .i64 0, .int .i64 0, .int .i64 0, .bool false, .int .i64 0, .int .i64 0, .slice none 0 0, .int .i64 0, .int .i64 0] 33)) (w.heap.size + 1) := (newBoxAt (Nat.zero_le _) (by simp)).grow _
  have bR : Box 0 #[.int .i64 0, .int .i64 0, .int .i64 0, .bool false, .int .i64 0, .int .i64 0, .slice none 0 0, .int .i64 0, .int .i64 0] 33 (((w.alloc (.cells #[.int .i64 x.id, .bool x.up, .int .i64 x.epoch, .int .i64 x.lease, .slice a4 x.writes.length d4, .int .i64 x.sure, .int .i64 x.clean] 26)).alloc (.cells #[.int .i64 y.kind, .int .i64 y.id, .slice a2 y.vec.length d2, .int .i64 y.session, .int .i64 y.seq] 29)).alloc (.cells #[.int .i64 0, .int .i64 0, .int .i64 0, .bool false, .int .i64 0, .int .i64 0, .slice none 0 0, .int .i64 0, .int .i64 0] 33)) (w.heap.size + 2) := newBoxAt (Nat.zero_le _) (by simp)
  have HL := hide (l9AskedC w.heap.size a4 d4 x _ bX (R4.later nb))
  have HN := hide (hN.later nb)
  have HX0 := hide bX
  have HY0 := hide bY
  have HR0 := hide bR
  have HB0 := hide nb
  have H2 := hide (R2.later nb)
  clear hN nb bX bR bY R4 R2 hV
  go_enter Tryz.func7, Tryz.ntmps7
  go_wp2_with fail
  generalize ((w.alloc (.cells #[.int .i64 x.id, .bool x.up, .int .i64 x.epoch, .int .i64 x.lease, .slice a4 x.writes.length d4, .int .i64 x.sure, .int .i64 x.clean] 26)).alloc (.cells #[.int .i64 y.kind, .int .i64 y.id, .slice a2 y.vec.length d2, .int .i64 y.session, .int .i64 y.seq] 29)).alloc (.cells #[.int .i64 0, .int .i64 0, .int .i64 0, .bool false, .int .i64 0, .int .i64 0, .slice none 0 0, .int .i64 0, .int .i64 0] 33) = W0 at *
  refine (unhide HL).mono ?_
  rintro e w1 ⟨rfl, hb⟩
  have HX := hide ((unhide HX0).keep hb)
  have HYb := hide ((unhide HY0).keep hb)
  have HR := hide ((unhide HR0).keep hb)
  have HB1 := hide ((unhide HB0).trans (hb.mono (unhide HB0).size))
  replace HN := hide ((unhide HN).later hb)
  replace H2 := hide ((unhide H2).later hb)
  clear hb HL HX0 HY0 HR0 HB0
  by_cases hf : askedN x = 0
  · rw [hf]
    have hok := (askedN_zero hf).1
    have HA := hide hf
    have HOK := hide hok
    clear hf
    have hyb := unhide HYb
    have HF := l3Fault (w.heap.size + 1) y.kind y.id (.slice a2 y.vec.length d2) y.session y.seq y.vec w1 ⟨hyb.at 0 _ rfl, hyb.at 1 _ rfl, hyb.at 2 _ rfl, hyb.at 3 _ rfl, hyb.at 4 _ rfl⟩ (Lay.ints_reads (unhide H2))
    rw [show writeFault y.kind y.id y.vec y.session y.seq = wF y from rfl] at HF
    have HF1 := hide HF
    clear HF hyb
    go_wp2_with fail
    refine (unhide HF1).mono ?_
    rintro e w9 ⟨rfl, h9⟩
    subst w9
    clear HF1
    have HAB := hide (appR_bd (y := y) (unhide HOK).writesF)
    have HTB := hide (takeCode_bd (y := y) (unhide HOK).writesF)
    by_cases hy0 : wF y = 0
    · rw [hy0]
      have x0 := Box.at (unhide HX) 0 _ rfl
      have x1 := Box.at (unhide HX) 1 _ rfl
      have x2 := Box.at (unhide HX) 2 _ rfl
      have x3 := Box.at (unhide HX) 3 _ rfl
      have x4 := Box.at (unhide HX) 4 _ rfl
      have x5 := Box.at (unhide HX) 5 _ rfl
      have x6 := Box.at (unhide HX) 6 _ rfl
      simp only [List.getElem_toArray, List.getElem_cons_zero, List.getElem_cons_succ] at x0 x1 x2 x3 x4 x5 x6
      have xl := (unhide HX).lt
      have HC := hide (ncopyC _ x w1 (unhide HN) (by have := hok.len; omega) (node_vecs9 hok))
      have HWF := hide hok.writesF
      have HY0 := hide hy0
      clear hok HN hy0
      go_wp2_with fail
      clear x0 x1 x2 x3 x4 x5 x6 xl
      refine (unhide HC).mono ?_
      rintro e w2 ⟨a6, d6, rfl, O, hb⟩
      have hrl : w.heap.size + 2 < w1.heap.size := (unhide HR).lt
      have nb3 : Below w2.heap.size w2 (w2.alloc (.cells #[.int .i64 x.id, .bool x.up, .int .i64 x.epoch, .int .i64 x.lease, .slice a6 x.writes.length d6, .int .i64 x.sure, .int .i64 x.clean] 26)) := (Below.refl _ _).alloc (Nat.le_refl _) _
      have hR3 := Box.grow ((unhide HR).keep hb) (.cells #[.int .i64 x.id, .bool x.up, .int .i64 x.epoch, .int .i64 x.lease, .slice a6 x.writes.length d6, .int .i64 x.sure, .int .i64 x.clean] 26)
      have hY3 := Box.grow ((unhide HYb).keep hb) (.cells #[.int .i64 x.id, .bool x.up, .int .i64 x.epoch, .int .i64 x.lease, .slice a6 x.writes.length d6, .int .i64 x.sure, .int .i64 x.clean] 26)
      have hU3 : Box 0 #[.int .i64 x.id, .bool x.up, .int .i64 x.epoch, .int .i64 x.lease, .slice a6 x.writes.length d6, .int .i64 x.sure, .int .i64 x.clean] 26 (w2.alloc (.cells #[.int .i64 x.id, .bool x.up, .int .i64 x.epoch, .int .i64 x.lease, .slice a6 x.writes.length d6, .int .i64 x.sure, .int .i64 x.clean] 26)) w2.heap.size := newBox (Nat.zero_le _)
      have hO3 := O.later nb3
      have h23 := ((unhide H2).later hb).later nb3
      have hB3 := ((unhide HB1).trans (hb.mono (unhide HB1).size)).trans (nb3.mono (Nat.le_trans (unhide HB1).size hb.size))
      have hz2 := hb.size
      have HT := hide (l9TakeC w2.heap.size (w.heap.size + 1) a6 d6 a2 d2 x y _ hU3 hY3 hO3.reads h23 (unhide HWF) (unhide HY0))
      have HR3 := hide hR3
      have HB3 := hide hB3
      have hz3 := nb3.size
      clear hb O nb3 hR3 hY3 hU3 hO3 h23 hB3 HC HX HR HB1 HYb H2
      go_wp2_with fail
      generalize w2.alloc (.cells #[.int .i64 x.id, .bool x.up, .int .i64 x.epoch, .int .i64 x.lease, .slice a6 x.writes.length d6, .int .i64 x.sure, .int .i64 x.clean] 26) = W3 at *
      refine (unhide HT).mono ?_
      rintro e w4 ⟨at', rfl, hq, hE4⟩
      have hR4 := Box.ext (unhide HR3) hE4 (by omega)
      have HR4 := hide hR4
      have hB4 := (unhide HB3).trans (hE4.below (unhide HB3).size (fun q hq e => by have := (unhide HB3).size; omega))
      have HB4 := hide hB4
      have hz4 := hE4.size
      clear hR4 hB4 hE4 HR3 HB3 HT
      by_cases hc : takeCode (appR x.writes y) = 0
      · obtain ⟨rfl, a, n, c, hU4, O4⟩ := hq hc
        have HY := hide (takeR_ok (unhide HA) hc)
        rw [hc]
        have bR9 := unhide HR4
        have z0 := Box.at bR9 0 _ rfl
        have z1 := Box.at bR9 1 _ rfl
        have z2 := Box.at bR9 2 _ rfl
        have z3 := Box.at bR9 3 _ rfl
        have z4 := Box.at bR9 4 _ rfl
        have z5 := Box.at bR9 5 _ rfl
        have z6 := Box.at bR9 6 _ rfl
        have z7 := Box.at bR9 7 _ rfl
        have z8 := Box.at bR9 8 _ rfl
        simp only [List.getElem_toArray, List.getElem_cons_zero, List.getElem_cons_succ] at z0 z1 z2 z3 z4 z5 z6 z7 z8
        have ff := Box.soft bR9
        have l0 := Box.lt bR9
        have u0 := Box.at hU4 0 _ rfl
        have u1 := Box.at hU4 1 _ rfl
        have u2 := Box.at hU4 2 _ rfl
        have u3 := Box.at hU4 3 _ rfl
        have u4 := Box.at hU4 4 _ rfl
        have u5 := Box.at hU4 5 _ rfl
        have u6 := Box.at hU4 6 _ rfl
        simp only [List.getElem_toArray, List.getElem_cons_zero, List.getElem_cons_succ] at u0 u1 u2 u3 u4 u5 u6
        have ul := Box.lt hU4
        have HO9 := hide O4
        clear hq hc O4 bR9 hU4 HR4
        go_wp2_with fail
        refine bodyPost_ret (v := .agg #[.int .i64 0, .int .i64 (appR x.writes y).place, .int .i64 x.id, .bool x.up, .int .i64 x.epoch, .int .i64 x.lease, .slice a n c, .int .i64 x.sure, .int .i64 x.clean]) (by simp [results, Tryz.results7, go_sem, z0, z1, z2, z3, z4, z5, z6, z7, z8]) rfl ?_
        rw [unhide HY]
        have hB9 := below_setAll (unhide HB4) (w.heap.size + 2) 0 [.int .i64 0, .int .i64 (appR x.writes y).place, .int .i64 x.id, .bool x.up, .int .i64 x.epoch, .int .i64 x.lease, .slice a n c, .int .i64 x.sure, .int .i64 x.clean] (by omega)
        refine ⟨[.int .i64 0, .int .i64 (appR x.writes y).place, .int .i64 x.id, .bool x.up, .int .i64 x.epoch, .int .i64 x.lease, .slice a n c, .int .i64 x.sure, .int .i64 x.clean], rfl, ?_, hB9⟩
        have o1 := lies_store' (s := w.heap.size + 2) (vs := [.int .i64 0, .int .i64 (appR x.writes y).place, .int .i64 x.id, .bool x.up, .int .i64 x.epoch, .int .i64 x.lease, .slice a n c, .int .i64 x.sure, .int .i64 x.clean]) (unhide HO9) (by omega)
        obtain ⟨i1, i2, i3, i4, -, -, i7, i8, -⟩ := unhide HOK
        have hpl := (unhide HAB).2
        exact lies_nodeR (x := withWrites x (appR x.writes y).writes) (c := 0) (n := (appR x.writes y).place) (by omega) (by omega) (o1.mono (by omega) (Nat.le_of_eq (size_setAll w4 (w.heap.size + 2) 0 [.int .i64 0, .int .i64 (appR x.writes y).place, .int .i64 x.id, .bool x.up, .int .i64 x.epoch, .int .i64 x.lease, .slice a n c, .int .i64 x.sure, .int .i64 x.clean]).symm)) (by simp only [withWrites]; omega) (by simp only [withWrites]; omega) (by simp only [withWrites]; omega) (by simp only [withWrites]; omega) (by simp only [withWrites]; omega)
      · have HY := hide (takeR_code (unhide HA) hc)
        have hd : (takeCode (appR x.writes y) != 0) = true := by simpa using hc
        clear hq hc
        generalize takeCode (appR x.writes y) = tc at *
        have bR9 := (unhide HR4)
        have z0 := Box.at bR9 0 _ rfl
        have z1 := Box.at bR9 1 _ rfl
        have z2 := Box.at bR9 2 _ rfl
        have z3 := Box.at bR9 3 _ rfl
        have z4 := Box.at bR9 4 _ rfl
        have z5 := Box.at bR9 5 _ rfl
        have z6 := Box.at bR9 6 _ rfl
        have z7 := Box.at bR9 7 _ rfl
        have z8 := Box.at bR9 8 _ rfl
        simp only [List.getElem_toArray, List.getElem_cons_zero, List.getElem_cons_succ] at z0 z1 z2 z3 z4 z5 z6 z7 z8
        have ff := Box.soft bR9
        have l0 := Box.lt bR9
        clear bR9
        go_wp2_with fail
        refine bodyPost_ret (v := .agg #[.int .i64 tc, .int .i64 0, .int .i64 0, .bool false, .int .i64 0, .int .i64 0, .slice none 0 0, .int .i64 0, .int .i64 0]) (by simp [results, Tryz.results7, go_sem, z0, z1, z2, z3, z4, z5, z6, z7, z8]) rfl ?_
        rw [unhide HY]
        have hB9 := below_setAll (unhide HB4) (w.heap.size + 2) 0 [.int .i64 tc, .int .i64 0, .int .i64 0, .bool false, .int .i64 0, .int .i64 0, .slice none 0 0, .int .i64 0, .int .i64 0] (by omega)
        exact ⟨[.int .i64 tc, .int .i64 0, .int .i64 0, .bool false, .int .i64 0, .int .i64 0, .slice none 0 0, .int .i64 0, .int .i64 0], rfl, (own_badNode (by have := unhide HTB; omega)).lies, hB9⟩
    · have hcc : takeCode (appR x.writes y) = wF y := by rw [takeCode, appR_bad (unhide HOK).writesF hy0]; exact if_neg hy0
      have HY := hide (takeR_code (y := y) (unhide HA) (by rw [hcc]; exact hy0))
      rw [hcc] at HY HTB
      have hd : (wF y != 0) = true := by simpa using hy0
      clear hcc hy0 hok
      generalize wF y = tc at *
      have bR9 := (unhide HR)
      have z0 := Box.at bR9 0 _ rfl
      have z1 := Box.at bR9 1 _ rfl
      have z2 := Box.at bR9 2 _ rfl
      have z3 := Box.at bR9 3 _ rfl
      have z4 := Box.at bR9 4 _ rfl
      have z5 := Box.at bR9 5 _ rfl
      have z6 := Box.at bR9 6 _ rfl
      have z7 := Box.at bR9 7 _ rfl
      have z8 := Box.at bR9 8 _ rfl
      simp only [List.getElem_toArray, List.getElem_cons_zero, List.getElem_cons_succ] at z0 z1 z2 z3 z4 z5 z6 z7 z8
      have ff := Box.soft bR9
      have l0 := Box.lt bR9
      clear bR9
      go_wp2_with fail
      refine bodyPost_ret (v := .agg #[.int .i64 tc, .int .i64 0, .int .i64 0, .bool false, .int .i64 0, .int .i64 0, .slice none 0 0, .int .i64 0, .int .i64 0]) (by simp [results, Tryz.results7, go_sem, z0, z1, z2, z3, z4, z5, z6, z7, z8]) rfl ?_
      rw [unhide HY]
      have hB9 := below_setAll (unhide HB1) (w.heap.size + 2) 0 [.int .i64 tc, .int .i64 0, .int .i64 0, .bool false, .int .i64 0, .int .i64 0, .slice none 0 0, .int .i64 0, .int .i64 0] (by omega)
      exact ⟨[.int .i64 tc, .int .i64 0, .int .i64 0, .bool false, .int .i64 0, .int .i64 0, .slice none 0 0, .int .i64 0, .int .i64 0], rfl, (own_badNode (by have := unhide HTB; omega)).lies, hB9⟩
  · have hd : (askedN x != 0) = true := by simpa using hf
    have HY := hide (takeR_bad (y := y) hf)
    have HW := hide (askedN_bd x)
    clear hf
    generalize askedN x = ac at *
    have bR9 := (unhide HR)
    have z0 := Box.at bR9 0 _ rfl
    have z1 := Box.at bR9 1 _ rfl
    have z2 := Box.at bR9 2 _ rfl
    have z3 := Box.at bR9 3 _ rfl
    have z4 := Box.at bR9 4 _ rfl
    have z5 := Box.at bR9 5 _ rfl
    have z6 := Box.at bR9 6 _ rfl
    have z7 := Box.at bR9 7 _ rfl
    have z8 := Box.at bR9 8 _ rfl
    simp only [List.getElem_toArray, List.getElem_cons_zero, List.getElem_cons_succ] at z0 z1 z2 z3 z4 z5 z6 z7 z8
    have ff := Box.soft bR9
    have l0 := Box.lt bR9
    clear bR9
    go_wp2_with fail
    refine bodyPost_ret (v := .agg #[.int .i64 ac, .int .i64 0, .int .i64 0, .bool false, .int .i64 0, .int .i64 0, .slice none 0 0, .int .i64 0, .int .i64 0]) (by simp [results, Tryz.results7, go_sem, z0, z1, z2, z3, z4, z5, z6, z7, z8]) rfl ?_
    rw [unhide HY]
    have hB9 := below_setAll (unhide HB1) (w.heap.size + 2) 0 [.int .i64 ac, .int .i64 0, .int .i64 0, .bool false, .int .i64 0, .int .i64 0, .slice none 0 0, .int .i64 0, .int .i64 0] (by omega)
    exact ⟨[.int .i64 ac, .int .i64 0, .int .i64 0, .bool false, .int .i64 0, .int .i64 0, .slice none 0 0, .int .i64 0, .int .i64 0], rfl, (own_badNode (unhide HW)).lies, hB9⟩

end Go.Proofs.YtbogjepkdcknfaaGreatDoor

namespace Go.Proofs.YtbogjepkdcknfaaGreatDoor
open Go.RowKit

set_option maxRecDepth 10000 in
set_option maxHeartbeats 2000000 in
theorem implSyncNode (cs : List Value) (x : DNode) (w : World) (h : Lay.tNode.Reads w cs x) :
    Calls Tryz.prog 8 #[.agg cs.toArray] w fun e w' => ∃ cs, e = .returned (.agg cs.toArray) ∧ Lay.tNodeResult.OwnIn w' cs (syncR x) w.heap.size w'.heap.size ∧ Below w.heap.size w w' := by
  have hN := h
  obtain ⟨a4, d4, rfl, R4⟩ := open_Node h
  have nb : Below w.heap.size w ((w.alloc (.cells #[.int .i64 x.id, .bool x.up, .int .i64 x.epoch, .int .i64 x.lease, .slice a4 x.writes.length d4, .int .i64 x.sure, .int .i64 x.clean] 26)).alloc (.cells #[.int .i64 0, .int .i64 0, .int .i64 0, .bool false, .int .i64 0, .int .i64 0, .slice none 0 0, .int .i64 0, .int .i64 0] 33)) := ((Below.refl _ _).alloc (Nat.le_refl _) _).alloc (by simp) _
  have bR : Box 0 #[.int .i64 0, .int .i64 0, .int .i64 0, .bool false, .int .i64 0, .int .i64 0, .slice none 0 0, .int .i64 0, .int .i64 0] 33 ((w.alloc (.cells #[.int .i64 x.id, .bool x.up, .int .i64 x.epoch, .int .i64 x.lease, .slice a4 x.writes.length d4, .int .i64 x.sure, .int .i64 x.clean] 26)).alloc (.cells #[.int .i64 0, .int .i64 0, .int .i64 0, .bool false, .int .i64 0, .int .i64 0, .slice none 0 0, .int .i64 0, .int .i64 0] 33)) (w.heap.size + 1) := newBoxAt (Nat.zero_le _) (by simp)
  by_cases hf : askedN x = 0
  · have hok := (askedN_zero hf).1
    have HL := hide (upNode_ok _ x _ (hN.later nb) hf)
    have HA := hide hf
    have HOK := hide hok
    have HB0 := hide nb
    have HR0 := hide bR
    clear hN nb bR R4 hf hok
    go_enter Tryz.func8, Tryz.ntmps8
    go_wp2_with fail
    generalize (w.alloc (.cells #[.int .i64 x.id, .bool x.up, .int .i64 x.epoch, .int .i64 x.lease, .slice a4 x.writes.length d4, .int .i64 x.sure, .int .i64 x.clean] 26)).alloc (.cells #[.int .i64 0, .int .i64 0, .int .i64 0, .bool false, .int .i64 0, .int .i64 0, .slice none 0 0, .int .i64 0, .int .i64 0] 33) = W0 at *
    refine (unhide HL).mono ?_
    rintro e w1 ⟨g, gw, rfl, hH, O, hg, hb⟩
    have HR1 := hide ((unhide HR0).keep hb)
    have hgr : w.heap.size + 1 < g := by have := (unhide HR0).lt; omega
    have HB1 := hide ((unhide HB0).trans (hb.mono (unhide HB0).size))
    have HH1 := hide hH
    have HO1 := hide O
    have hgl := hH.lt
    clear hb HL HB0 HR0 hH O hg
    have HL2 := hide (syncC g _ _ _ x w1 (unhide HH1))
    go_wp2_with fail
    refine (unhide HL2).mono ?_
    rintro e w2 ⟨rfl, hH2, hE2⟩
    have HR2 := hide ((unhide HR1).ext hE2 (by omega))
    have HO2 := hide ((unhide HO1).ext hE2 (fun q h1 h2 h3 => by omega))
    have HB2 := hide ((unhide HB1).trans (hE2.below (unhide HB1).size (fun q hq e => by omega)))
    have hz2 := hE2.size
    have HH2 := hide hH2
    clear hE2 hH2 HL2 HR1 HO1 HB1 HH1
    have HC := hide (countC g _ _ _ _ w2 (unhide HH2))
    go_wp2_with fail
    refine (unhide HC).mono ?_
    rintro e w3 ⟨rfl, h3⟩
    subst w3
    clear HC
    have HT := hide (toldC g _ _ _ _ w2 (unhide HH2))
    go_wp2_with fail
    refine (unhide HT).mono ?_
    rintro e w9 ⟨rfl, hb9⟩
    have bR9 := (unhide HR2).keep hb9
    have z0 := Box.at bR9 0 _ rfl
    have z1 := Box.at bR9 1 _ rfl
    have z2 := Box.at bR9 2 _ rfl
    have z3 := Box.at bR9 3 _ rfl
    have z4 := Box.at bR9 4 _ rfl
    have z5 := Box.at bR9 5 _ rfl
    have z6 := Box.at bR9 6 _ rfl
    have z7 := Box.at bR9 7 _ rfl
    have z8 := Box.at bR9 8 _ rfl
    simp only [List.getElem_toArray, List.getElem_cons_zero, List.getElem_cons_succ] at z0 z1 z2 z3 z4 z5 z6 z7 z8
    have ff := Box.soft bR9
    have l0 := Box.lt bR9
    have HO9 := hide ((unhide HO2).later hb9)
    have HB9 := hide ((unhide HB2).trans (hb9.mono (unhide HB2).size))
    have hz9 := hb9.size
    clear hb9 HT bR9
    go_wp2_with fail
    refine bodyPost_ret (v := .agg #[.int .i64 0, .int .i64 (x.writes.length : Int), .int .i64 x.id, .bool x.up, .int .i64 x.epoch, .int .i64 x.lease, .slice (some ⟨gw, 0, none⟩) x.writes.length x.writes.length, .int .i64 (x.writes.length : Int), .int .i64 x.clean]) (by simp [results, Tryz.results8, go_sem, z0, z1, z2, z3, z4, z5, z6, z7, z8]) rfl ?_
    rw [syncR, if_pos (unhide HA)]
    obtain ⟨i1, i2, i3, i4, -, -, i7, i8, -⟩ := unhide HOK
    have hB9 := below_setAll (unhide HB9) (w.heap.size + 1) 0 [.int .i64 0, .int .i64 (x.writes.length : Int), .int .i64 x.id, .bool x.up, .int .i64 x.epoch, .int .i64 x.lease, .slice (some ⟨gw, 0, none⟩) x.writes.length x.writes.length, .int .i64 (x.writes.length : Int), .int .i64 x.clean] (by omega)
    refine ⟨[.int .i64 0, .int .i64 (x.writes.length : Int), .int .i64 x.id, .bool x.up, .int .i64 x.epoch, .int .i64 x.lease, .slice (some ⟨gw, 0, none⟩) x.writes.length x.writes.length, .int .i64 (x.writes.length : Int), .int .i64 x.clean], rfl, ?_, hB9⟩
    have o1 := own_store' (s := w.heap.size + 1) (vs := [.int .i64 0, .int .i64 (x.writes.length : Int), .int .i64 x.id, .bool x.up, .int .i64 x.epoch, .int .i64 x.lease, .slice (some ⟨gw, 0, none⟩) x.writes.length x.writes.length, .int .i64 (x.writes.length : Int), .int .i64 x.clean]) (unhide HO9) (by omega)
    exact own_nodeR (x := ⟨x.id, x.up, x.epoch, x.lease, x.writes, (x.writes.length : Int), x.clean⟩) (c := 0) (n := (x.writes.length : Int)) (by omega) (by omega) (o1.mono (by omega) (Nat.le_trans (by omega : w1.heap.size ≤ w9.heap.size) (Nat.le_of_eq (size_setAll w9 (w.heap.size + 1) 0 [.int .i64 0, .int .i64 (x.writes.length : Int), .int .i64 x.id, .bool x.up, .int .i64 x.epoch, .int .i64 x.lease, .slice (some ⟨gw, 0, none⟩) x.writes.length x.writes.length, .int .i64 (x.writes.length : Int), .int .i64 x.clean]).symm))) (by simp only; omega) (by simp only; omega) (by simp only; omega) (by simp only; omega) (by simp only; omega)
  · have HL := hide (upNode_bad _ x _ (hN.later nb) hf)
    have hd : (askedN x != 0) = true := by simpa using hf
    have HY := hide (syncR_bad (x := x) hf)
    have HW := hide (askedN_bd x)
    have HB0 := hide nb
    have HR0 := hide bR
    clear hN nb bR R4 hf
    generalize askedN x = c at *
    go_enter Tryz.func8, Tryz.ntmps8
    go_wp2_with fail
    generalize (w.alloc (.cells #[.int .i64 x.id, .bool x.up, .int .i64 x.epoch, .int .i64 x.lease, .slice a4 x.writes.length d4, .int .i64 x.sure, .int .i64 x.clean] 26)).alloc (.cells #[.int .i64 0, .int .i64 0, .int .i64 0, .bool false, .int .i64 0, .int .i64 0, .slice none 0 0, .int .i64 0, .int .i64 0] 33) = W0 at *
    refine (unhide HL).mono ?_
    rintro e w1 ⟨rfl, hb⟩
    have bR1 := (unhide HR0).keep hb
    have z0 := Box.at bR1 0 _ rfl
    have z1 := Box.at bR1 1 _ rfl
    have z2 := Box.at bR1 2 _ rfl
    have z3 := Box.at bR1 3 _ rfl
    have z4 := Box.at bR1 4 _ rfl
    have z5 := Box.at bR1 5 _ rfl
    have z6 := Box.at bR1 6 _ rfl
    have z7 := Box.at bR1 7 _ rfl
    have z8 := Box.at bR1 8 _ rfl
    simp only [List.getElem_toArray, List.getElem_cons_zero, List.getElem_cons_succ] at z0 z1 z2 z3 z4 z5 z6 z7 z8
    have ff := Box.soft bR1
    have l0 := Box.lt bR1
    have HB1 := hide ((unhide HB0).trans (hb.mono (unhide HB0).size))
    clear hb HL HB0 HR0 bR1
    go_wp2_with fail
    refine bodyPost_ret (v := .agg #[.int .i64 c, .int .i64 0, .int .i64 0, .bool false, .int .i64 0, .int .i64 0, .slice none 0 0, .int .i64 0, .int .i64 0]) (by simp [results, Tryz.results8, go_sem, z0, z1, z2, z3, z4, z5, z6, z7, z8]) rfl ?_
    rw [unhide HY]
    have hB9 := below_setAll (unhide HB1) (w.heap.size + 1) 0 [.int .i64 c, .int .i64 0, .int .i64 0, .bool false, .int .i64 0, .int .i64 0, .slice none 0 0, .int .i64 0, .int .i64 0] (by omega)
    exact ⟨[.int .i64 c, .int .i64 0, .int .i64 0, .bool false, .int .i64 0, .int .i64 0, .slice none 0 0, .int .i64 0, .int .i64 0], rfl, own_badNode (unhide HW), hB9⟩

end Go.Proofs.YtbogjepkdcknfaaGreatDoor

namespace Go.Proofs.YtbogjepkdcknfaaGreatDoor
open Go.RowKit

set_option maxRecDepth 10000 in
set_option maxHeartbeats 2000000 in
theorem implCrashNode (cs : List Value) (x : DNode) (i : Int) (w : World) (h : Lay.tNode.Reads w cs x) :
    Calls Tryz.prog 9 #[.agg cs.toArray, .int .i64 i] w fun e w' => ∃ cs, e = .returned (.agg cs.toArray) ∧ Lay.tNodeResult.OwnIn w' cs (crashR x i) w.heap.size w'.heap.size ∧ Below w.heap.size w w' := by
  have hN := h
  obtain ⟨a4, d4, rfl, R4⟩ := open_Node h
  have nb : Below w.heap.size w ((w.alloc (.cells #[.int .i64 x.id, .bool x.up, .int .i64 x.epoch, .int .i64 x.lease, .slice a4 x.writes.length d4, .int .i64 x.sure, .int .i64 x.clean] 26)).alloc (.cells #[.int .i64 0, .int .i64 0, .int .i64 0, .bool false, .int .i64 0, .int .i64 0, .slice none 0 0, .int .i64 0, .int .i64 0] 33)) := ((Below.refl _ _).alloc (Nat.le_refl _) _).alloc (by simp) _
  have bR : Box 0 #[.int .i64 0, .int .i64 0, .int .i64 0, .bool false, .int .i64 0, .int .i64 0, .slice none 0 0, .int .i64 0, .int .i64 0] 33 ((w.alloc (.cells #[.int .i64 x.id, .bool x.up, .int .i64 x.epoch, .int .i64 x.lease, .slice a4 x.writes.length d4, .int .i64 x.sure, .int .i64 x.clean] 26)).alloc (.cells #[.int .i64 0, .int .i64 0, .int .i64 0, .bool false, .int .i64 0, .int .i64 0, .slice none 0 0, .int .i64 0, .int .i64 0] 33)) (w.heap.size + 1) := newBoxAt (Nat.zero_le _) (by simp)
  by_cases hf : askedN x = 0
  · have hok := (askedN_zero hf).1
    have HL := hide (upNode_ok _ x _ (hN.later nb) hf)
    have HA := hide hf
    have HOK := hide hok
    have HB0 := hide nb
    have HR0 := hide bR
    clear hN nb bR R4 hf hok
    go_enter Tryz.func9, Tryz.ntmps9
    go_wp2_with fail
    generalize (w.alloc (.cells #[.int .i64 x.id, .bool x.up, .int .i64 x.epoch, .int .i64 x.lease, .slice a4 x.writes.length d4, .int .i64 x.sure, .int .i64 x.clean] 26)).alloc (.cells #[.int .i64 0, .int .i64 0, .int .i64 0, .bool false, .int .i64 0, .int .i64 0, .slice none 0 0, .int .i64 0, .int .i64 0] 33) = W0 at *
    refine (unhide HL).mono ?_
    rintro e w1 ⟨g, gw, rfl, hH, O, hg, hb⟩
    have HR1 := hide ((unhide HR0).keep hb)
    have hgr : w.heap.size + 1 < g := by have := (unhide HR0).lt; omega
    have HB1 := hide ((unhide HB0).trans (hb.mono (unhide HB0).size))
    have HH1 := hide hH
    have HO1 := hide O
    have hgl := hH.lt
    clear hb HL HB0 HR0 hH O hg
    have hsr := (unhide HOK).sure
    have hln := (unhide HOK).len
    obtain ⟨s, hs⟩ : ∃ s : Nat, x.sure = (s : Int) := ⟨x.sure.toNat, by omega⟩
    have HS := hide hs
    have LO := hide (looseC g _ _ _ x w1 (unhide HH1) hsr (by omega))
    have hsn : s ≤ x.writes.length := by omega
    clear hs
    go_wp2_with fail
    refine (unhide LO).mono ?_
    rintro e w5 ⟨rfl, hb5⟩
    replace HR1 := hide ((unhide HR1).keep hb5)
    replace HO1 := hide ((unhide HO1).later hb5)
    replace HH1 := hide ((unhide HH1).keep hb5)
    have hz5 := hb5.size
    replace HB1 := hide ((unhide HB1).trans (hb5.mono (unhide HB1).size))
    replace hgl := Nat.lt_of_lt_of_le hgl hz5
    clear hb5 LO
    have LU := hide (isUpToC i ((x.writes.length : Int) - x.sure) w5)
    go_wp2_with fail
    refine (unhide LU).mono ?_
    rintro e w2 ⟨rfl, h2⟩
    subst w2
    clear LU
    by_cases hi : 0 ≤ i ∧ i ≤ (x.writes.length : Int) - x.sure
    · have hd2 : (decide (0 ≤ i) && decide (i ≤ (x.writes.length : Int) - x.sure)) = true := by simpa using hi
      rw [hd2]
      clear hd2
      obtain ⟨k, rfl⟩ : ∃ k : Nat, i = (k : Int) := ⟨i.toNat, by omega⟩
      obtain ⟨t, ht⟩ : ∃ t : Nat, t = s + k := ⟨_, rfl⟩
      have hs0 := unhide HS
      have htn : t ≤ x.writes.length := by omega
      have h1t : t ≤ s + k := by omega
      have h2t : s + k ≤ t := by omega
      have hH' : HeldAt w5 g (.slice (some ⟨gw, 0, none⟩) x.writes.length x.writes.length) ⟨x.id, x.up, x.epoch, x.lease, x.writes, (s : Int), x.clean⟩ := by rw [← hs0]; exact unhide HH1
      have HL2 := hide (crashC g gw x.writes.length s k t x w5 hH' h1t h2t htn (by omega))
      have HYY : Hid (crashR x (k : Int) = ⟨0, 0, ⟨x.id, false, x.epoch, 0, x.writes.take t, (t : Int), 0⟩⟩) := by
        show crashR x (k : Int) = _
        rw [crashR, if_pos (unhide HA), if_pos hi, crashN, hs0, show ((s : Int) + (k : Int)) = (t : Int) by omega, Int.toNat_natCast]
      clear hs0 ht hi hH'
      go_wp2_with fail
      refine (unhide HL2).mono ?_
      rintro e w2 ⟨rfl, hH2, hE2⟩
      have HR2 := hide ((unhide HR1).ext hE2 (by omega))
      have HO2 := hide ((unhide HO1).ext hE2 (fun q h1 h2 h3 => by omega))
      have HB2 := hide ((unhide HB1).trans (hE2.below (unhide HB1).size (fun q hq e => by omega)))
      have hz2 := hE2.size
      have HH2 := hide hH2
      clear hE2 hH2 HL2 HR1 HO1 HB1 HH1
      have HO3 := hide (sl_take_own (unhide HO2) t htn)
      have HT := hide (toldC g _ _ _ _ w2 (unhide HH2))
      go_wp2_with fail
      refine (unhide HT).mono ?_
      rintro e w9 ⟨rfl, hb9⟩
      have bR9 := (unhide HR2).keep hb9
      have z0 := Box.at bR9 0 _ rfl
      have z1 := Box.at bR9 1 _ rfl
      have z2 := Box.at bR9 2 _ rfl
      have z3 := Box.at bR9 3 _ rfl
      have z4 := Box.at bR9 4 _ rfl
      have z5 := Box.at bR9 5 _ rfl
      have z6 := Box.at bR9 6 _ rfl
      have z7 := Box.at bR9 7 _ rfl
      have z8 := Box.at bR9 8 _ rfl
      simp only [List.getElem_toArray, List.getElem_cons_zero, List.getElem_cons_succ] at z0 z1 z2 z3 z4 z5 z6 z7 z8
      have ff := Box.soft bR9
      have l0 := Box.lt bR9
      have HO9 := hide ((unhide HO3).later hb9)
      have HB9 := hide ((unhide HB2).trans (hb9.mono (unhide HB2).size))
      have hz9 := hb9.size
      clear hb9 HT bR9
      go_wp2_with fail
      refine bodyPost_ret (v := .agg #[.int .i64 0, .int .i64 0, .int .i64 x.id, .bool false, .int .i64 x.epoch, .int .i64 0, .slice (some ⟨gw, 0, none⟩) t x.writes.length, .int .i64 (t : Int), .int .i64 0]) (by simp [results, Tryz.results9, go_sem, z0, z1, z2, z3, z4, z5, z6, z7, z8]) rfl ?_
      rw [unhide HYY]
      obtain ⟨i1, i2, i3, i4, -, -, i7, i8, -⟩ := unhide HOK
      have hB9 := below_setAll (unhide HB9) (w.heap.size + 1) 0 [.int .i64 0, .int .i64 0, .int .i64 x.id, .bool false, .int .i64 x.epoch, .int .i64 0, .slice (some ⟨gw, 0, none⟩) t x.writes.length, .int .i64 (t : Int), .int .i64 0] (by omega)
      refine ⟨[.int .i64 0, .int .i64 0, .int .i64 x.id, .bool false, .int .i64 x.epoch, .int .i64 0, .slice (some ⟨gw, 0, none⟩) t x.writes.length, .int .i64 (t : Int), .int .i64 0], rfl, ?_, hB9⟩
      have o1 := own_store' (s := w.heap.size + 1) (vs := [.int .i64 0, .int .i64 0, .int .i64 x.id, .bool false, .int .i64 x.epoch, .int .i64 0, .slice (some ⟨gw, 0, none⟩) t x.writes.length, .int .i64 (t : Int), .int .i64 0]) (unhide HO9) (by omega)
      exact own_nodeR (x := ⟨x.id, false, x.epoch, 0, x.writes.take t, (t : Int), 0⟩) (c := 0) (n := 0) (by omega) (by omega) (o1.mono (by omega) (Nat.le_trans (by omega : w1.heap.size ≤ w9.heap.size) (Nat.le_of_eq (size_setAll w9 (w.heap.size + 1) 0 [.int .i64 0, .int .i64 0, .int .i64 x.id, .bool false, .int .i64 x.epoch, .int .i64 0, .slice (some ⟨gw, 0, none⟩) t x.writes.length, .int .i64 (t : Int), .int .i64 0]).symm))) (by simp only; omega) (by simp only; omega) (by simp only; omega) (by simp only; omega) (by simp only; omega)
    · have hd2 : (decide (0 ≤ i) && decide (i ≤ (x.writes.length : Int) - x.sure)) = false := by
        by_cases h1 : 0 ≤ i
        · simp [h1]; omega
        · simp [h1]
      rw [hd2]
      clear hd2
      have bR1 := unhide HR1
      have HY : Hid (crashR x i = badNode 3) := by show crashR x i = _; rw [crashR, if_pos (unhide HA), if_neg hi]
      have z0 := Box.at bR1 0 _ rfl
      have z1 := Box.at bR1 1 _ rfl
      have z2 := Box.at bR1 2 _ rfl
      have z3 := Box.at bR1 3 _ rfl
      have z4 := Box.at bR1 4 _ rfl
      have z5 := Box.at bR1 5 _ rfl
      have z6 := Box.at bR1 6 _ rfl
      have z7 := Box.at bR1 7 _ rfl
      have z8 := Box.at bR1 8 _ rfl
      simp only [List.getElem_toArray, List.getElem_cons_zero, List.getElem_cons_succ] at z0 z1 z2 z3 z4 z5 z6 z7 z8
      have ff := Box.soft bR1
      have l0 := Box.lt bR1
      clear bR1
      go_wp2_with fail
      refine bodyPost_ret (v := .agg #[.int .i64 3, .int .i64 0, .int .i64 0, .bool false, .int .i64 0, .int .i64 0, .slice none 0 0, .int .i64 0, .int .i64 0]) (by simp [results, Tryz.results9, go_sem, z0, z1, z2, z3, z4, z5, z6, z7, z8]) rfl ?_
      rw [unhide HY]
      have hB9 := below_setAll (unhide HB1) (w.heap.size + 1) 0 [.int .i64 3, .int .i64 0, .int .i64 0, .bool false, .int .i64 0, .int .i64 0, .slice none 0 0, .int .i64 0, .int .i64 0] (by omega)
      exact ⟨[.int .i64 3, .int .i64 0, .int .i64 0, .bool false, .int .i64 0, .int .i64 0, .slice none 0 0, .int .i64 0, .int .i64 0], rfl, own_badNode (by decide), hB9⟩
  · have HL := hide (upNode_bad _ x _ (hN.later nb) hf)
    have hd : (askedN x != 0) = true := by simpa using hf
    have HY := hide (crashR_bad (x := x) (i := i) hf)
    have HW := hide (askedN_bd x)
    have HB0 := hide nb
    have HR0 := hide bR
    clear hN nb bR R4 hf
    generalize askedN x = c at *
    go_enter Tryz.func9, Tryz.ntmps9
    go_wp2_with fail
    generalize (w.alloc (.cells #[.int .i64 x.id, .bool x.up, .int .i64 x.epoch, .int .i64 x.lease, .slice a4 x.writes.length d4, .int .i64 x.sure, .int .i64 x.clean] 26)).alloc (.cells #[.int .i64 0, .int .i64 0, .int .i64 0, .bool false, .int .i64 0, .int .i64 0, .slice none 0 0, .int .i64 0, .int .i64 0] 33) = W0 at *
    refine (unhide HL).mono ?_
    rintro e w1 ⟨rfl, hb⟩
    have bR1 := (unhide HR0).keep hb
    have z0 := Box.at bR1 0 _ rfl
    have z1 := Box.at bR1 1 _ rfl
    have z2 := Box.at bR1 2 _ rfl
    have z3 := Box.at bR1 3 _ rfl
    have z4 := Box.at bR1 4 _ rfl
    have z5 := Box.at bR1 5 _ rfl
    have z6 := Box.at bR1 6 _ rfl
    have z7 := Box.at bR1 7 _ rfl
    have z8 := Box.at bR1 8 _ rfl
    simp only [List.getElem_toArray, List.getElem_cons_zero, List.getElem_cons_succ] at z0 z1 z2 z3 z4 z5 z6 z7 z8
    have ff := Box.soft bR1
    have l0 := Box.lt bR1
    have HB1 := hide ((unhide HB0).trans (hb.mono (unhide HB0).size))
    clear hb HL HB0 HR0 bR1
    go_wp2_with fail
    refine bodyPost_ret (v := .agg #[.int .i64 c, .int .i64 0, .int .i64 0, .bool false, .int .i64 0, .int .i64 0, .slice none 0 0, .int .i64 0, .int .i64 0]) (by simp [results, Tryz.results9, go_sem, z0, z1, z2, z3, z4, z5, z6, z7, z8]) rfl ?_
    rw [unhide HY]
    have hB9 := below_setAll (unhide HB1) (w.heap.size + 1) 0 [.int .i64 c, .int .i64 0, .int .i64 0, .bool false, .int .i64 0, .int .i64 0, .slice none 0 0, .int .i64 0, .int .i64 0] (by omega)
    exact ⟨[.int .i64 c, .int .i64 0, .int .i64 0, .bool false, .int .i64 0, .int .i64 0, .slice none 0 0, .int .i64 0, .int .i64 0], rfl, own_badNode (unhide HW), hB9⟩

end Go.Proofs.YtbogjepkdcknfaaGreatDoor

namespace Go.Proofs.YtbogjepkdcknfaaGreatDoor
open Go.RowKit

theorem ne_at_slEqual {ps qs : List Int} {k : Nat} (h : ps.getD k 0 ≠ qs.getD k 0) : decide (ps = qs) = false := by
  simp only [decide_eq_false_iff_not]
  rintro rfl
  exact h rfl
theorem eq_all_slEqual {ps qs : List Int} (hl : ps.length = qs.length) (h : ∀ j, j < ps.length → ps.getD j 0 = qs.getD j 0) : decide (ps = qs) = true := by
  simp only [decide_eq_true_eq]
  refine List.ext_getElem hl fun j h1 h2 => ?_
  have := h j h1
  simpa [List.getD, h1, h2] using this

set_option maxHeartbeats 800000 in
theorem slEqual_pos (b off cap b2 off2 cap2 : Nat) (ps qs : List Int) (w : World) (hl : ps.length = qs.length) (hn : ps.length ≤ 9223372036854775807) (hc : ∀ j, j < ps.length → w.cell? ⟨b, off + j, none⟩ = some (.int .i64 (ps.getD j 0)))
    (hc2 : ∀ j, j < ps.length → w.cell? ⟨b2, off2 + j, none⟩ = some (.int .i64 (qs.getD j 0))) :
    Calls Tryz.prog 57 #[.slice (some ⟨b, off, none⟩) ps.length cap, .slice (some ⟨b2, off2, none⟩) ps.length cap2] w fun e w' => e = .returned (.bool (decide (ps = qs))) ∧ Below w.heap.size w w' := by
  have HL := hide hl
  clear hl
  go_enter Tryz.func57, Tryz.ntmps57
  go_wp2
  go_loopw [13] (fun i wr => ∃ k : Nat, k ≤ ps.length ∧ i = .int .i64 k ∧ Below w.heap.size w wr ∧ ∀ j, j < k → ps.getD j 0 = qs.getD j 0) (fun i _ => ps.length - (intOf i).toNat)
  case atStart => exact ⟨0, Nat.zero_le _, rfl, Below.refl _ _, fun j hj => by omega⟩
  case round =>
    obtain ⟨k, hk, rfl, hB, hq⟩ := hrel
    by_cases hlt : k < ps.length
    · have hcx : wr.cell? ⟨b, off + k, none⟩ = some (.int .i64 (ps.getD k 0)) := (hB.cell (World.block_lt_of_cell? _ _ (hc k hlt))).trans (hc k hlt)
      have hcy : wr.cell? ⟨b2, off2 + k, none⟩ = some (.int .i64 (qs.getD k 0)) := (hB.cell (World.block_lt_of_cell? _ _ (hc2 k hlt))).trans (hc2 k hlt)
      have HQ := hide hq
      have HB := hide hB
      clear hc hc2 hq hB
      by_cases he : ps.getD k 0 = qs.getD k 0
      · have HE := hide he
        rw [← he] at hcy
        clear he
        generalize ps.getD k 0 = x at hcx hcy
        have hxx : (x != x) = false := by simp
        go_wp2
        go_quiet (fail)
        go_wp2
        go_roundw
        case rel =>
          refine ⟨k + 1, by omega, by go_num, below_drewN (unhide HB) _, fun j hj => ?_⟩
          by_cases hjk : j < k
          · exact unhide HQ j hjk
          · obtain rfl : j = k := by omega
            exact unhide HE
        case measure => simp [intOf]; omega
      · have HN := hide (ne_at_slEqual he)
        have hxy : (ps.getD k 0 != qs.getD k 0) = true := by rw [bne_iff_ne]; exact he
        clear he
        generalize ps.getD k 0 = x at hcx hxy
        generalize qs.getD k 0 = y at hcy hxy
        go_wp2
        go_quiet (fail)
        go_wp2
        go_ret
        exact ⟨by rw [unhide HN]; rfl, below_drewN (unhide HB) _⟩
    · obtain rfl : k = ps.length := by omega
      have HN := hide (eq_all_slEqual (unhide HL) hq)
      have HB := hide hB
      clear hc hc2 hq hB
      go_wp2
      go_ret
      exact ⟨by rw [unhide HN]; rfl, unhide HB⟩
set_option maxHeartbeats 400000 in
theorem slEqual_len (ao ao2 : Option Addr) (n m cap cap2 : Nat) (w : World) (h : n ≠ m) :
    Calls Tryz.prog 57 #[.slice ao n cap, .slice ao2 m cap2] w fun e w' => e = .returned (.bool false) ∧ Below w.heap.size w w' := by
  have hd : ((n : Int) != (m : Int)) = true := by rw [bne_iff_ne]; omega
  go_enter Tryz.func57, Tryz.ntmps57
  go_wp2
  go_ret
  exact ⟨rfl, Below.refl _ _⟩
theorem slEqual_zero (ao ao2 : Option Addr) (cap cap2 : Nat) (w : World) :
    Calls Tryz.prog 57 #[.slice ao 0 cap, .slice ao2 0 cap2] w fun e w' => e = .returned (.bool true) ∧ Below w.heap.size w w' := by
  go_enter Tryz.func57, Tryz.ntmps57
  go_wp2
  refine wp_loop_rounds 1 ?_
  rw [rounds_succ]
  go_wp2
  go_ret
  exact ⟨rfl, Below.refl _ _⟩
/-- Whether two lists of numbers are the same. -/
theorem slEqual (v v2 : Value) (ps qs : List Int) (w : World) (h : IsInts w v ps) (h2 : IsInts w v2 qs) (hn : ps.length ≤ 9223372036854775807) :
    Calls Tryz.prog 57 #[v, v2] w fun e w' => e = .returned (.bool (decide (ps = qs))) ∧ Below w.heap.size w w' := by
  obtain ⟨ao, cap, rfl, hwf, hc⟩ := h
  obtain ⟨ao2, cap2, rfl, _, hc2⟩ := h2
  by_cases hl : ps.length = qs.length
  · by_cases hp : 0 < ps.length
    · obtain ⟨b, off, rfl, hc1⟩ := hc hp
      obtain ⟨b2, off2, rfl, hc3⟩ := hc2 (by omega)
      rw [← hl] at hc3 ⊢
      exact slEqual_pos b off cap b2 off2 cap2 ps qs w hl hn hc1 hc3
    · obtain rfl : ps = [] := List.eq_nil_of_length_eq_zero (by omega)
      obtain rfl : qs = [] := List.eq_nil_of_length_eq_zero (by simpa using hl.symm)
      exact slEqual_zero ao ao2 cap cap2 w
  · rw [show decide (ps = qs) = false by simp only [decide_eq_false_iff_not]; rintro rfl; exact hl rfl]
    exact slEqual_len ao ao2 _ _ cap cap2 w hl

end Go.Proofs.YtbogjepkdcknfaaGreatDoor

namespace Go.Proofs.YtbogjepkdcknfaaGreatDoor
open Go.RowKit

set_option maxRecDepth 10000 in
set_option maxHeartbeats 2000000 in
theorem sameWrite (cs cs2 : List Value) (x y : DWrite) (w : World) (h : Lay.tWrite.Reads w cs x) (h2 : Lay.tWrite.Reads w cs2 y) :
    Calls Tryz.prog 35 #[.agg cs.toArray, .agg cs2.toArray] w fun e w' => e = .returned (.bool (sameW x y)) ∧ Below w.heap.size w w' := by
  obtain ⟨a2, d2, rfl, R2⟩ := open_Write h
  obtain ⟨a2z, d2z, rfl, R2z⟩ := open_Write h2
  clear h h2
  have HB : Hid (Below w.heap.size w ((w.alloc (.cells #[.int .i64 x.kind, .int .i64 x.id, .slice a2 x.vec.length d2, .int .i64 x.session, .int .i64 x.seq] 29)).alloc (.cells #[.int .i64 y.kind, .int .i64 y.id, .slice a2z y.vec.length d2z, .int .i64 y.session, .int .i64 y.seq] 29))) := ((Below.refl _ _).alloc (Nat.le_refl _) _).alloc (by simp) _
  cases e0 : (x.kind == y.kind) with
  | false =>
    have HS : Hid (sameW x y = false) := by
      show sameW x y = false
      simp [sameW, e0]
    go_enter Tryz.func35, Tryz.ntmps35
    go_wp2_with fail
    go_ret
    exact ⟨by rw [unhide HS]; rfl, unhide HB⟩
  | true =>
    cases e1 : (x.id == y.id) with
    | false =>
      have HS : Hid (sameW x y = false) := by
        show sameW x y = false
        simp [sameW, e0, e1]
      go_enter Tryz.func35, Tryz.ntmps35
      go_wp2_with fail
      go_ret
      exact ⟨by rw [unhide HS]; rfl, unhide HB⟩
    | true =>
      cases e2 : (x.session == y.session) with
      | false =>
        have HS : Hid (sameW x y = false) := by
          show sameW x y = false
          simp [sameW, e0, e1, e2]
        go_enter Tryz.func35, Tryz.ntmps35
        go_wp2_with fail
        go_ret
        exact ⟨by rw [unhide HS]; rfl, unhide HB⟩
      | true =>
        cases e3 : (x.seq == y.seq) with
        | false =>
          have HS : Hid (sameW x y = false) := by
            show sameW x y = false
            simp [sameW, e0, e1, e2, e3]
          go_enter Tryz.func35, Tryz.ntmps35
          go_wp2_with fail
          go_ret
          exact ⟨by rw [unhide HS]; rfl, unhide HB⟩
        | true =>
          have HS : Hid (sameW x y = decide (x.vec = y.vec)) := by
            show sameW x y = decide (x.vec = y.vec)
            simp [sameW, e0, e1, e2, e3]
          have L := hide (slEqual _ _ x.vec y.vec _ ((Lay.ints_reads R2).later (unhide HB)) ((Lay.ints_reads R2z).later (unhide HB)) R2.big)
          clear R2 R2z
          go_enter Tryz.func35, Tryz.ntmps35
          go_wp2_with fail
          refine (unhide L).mono ?_
          rintro e w1 ⟨rfl, hb⟩
          have HB1 := hide ((unhide HB).trans (hb.mono (unhide HB).size))
          clear hb L HB
          go_wp2_with fail
          go_ret
          exact ⟨by rw [unhide HS]; rfl, unhide HB1⟩

set_option maxRecDepth 10000 in
set_option maxHeartbeats 2000000 in
theorem equalFunc_pos (b off cap b2 off2 cap2 : Nat) (xs ys : List DWrite) (w : World) (hl : xs.length = ys.length) (h : (Lay.sl Lay.tWrite).Reads w [.slice (some ⟨b, off, none⟩) xs.length cap] xs) (h2 : (Lay.sl Lay.tWrite).Reads w [.slice (some ⟨b2, off2, none⟩) ys.length cap2] ys) (hbl : b < w.heap.size) (hbl2 : b2 < w.heap.size) :
    Calls Tryz.prog 34 #[.slice (some ⟨b, off, none⟩) xs.length cap, .slice (some ⟨b2, off2, none⟩) xs.length cap2, .func (.func 35) #[] #[]] w fun e w' => e = .returned (.bool (sameWs xs ys)) ∧ Below w.heap.size w w' := by
  have hbig := h.big
  have H := hide h
  have H2 := hide h2
  have HL := hide hl
  clear h h2 hl
  go_enter Tryz.func34, Tryz.ntmps34
  go_wp2_with fail
  go_loopw [17] (fun i wr => ∃ k : Nat, k ≤ xs.length ∧ i = .int .i64 k ∧ (∀ j (h1 : j < xs.length) (h2 : j < ys.length), j < k → sameW xs[j] ys[j] = true) ∧ Below w.heap.size w wr) (fun i _ => xs.length - (intOf i).toNat)
  case atStart => exact ⟨0, Nat.zero_le _, rfl, fun j _ _ hj => by omega, Below.refl _ _⟩
  case round =>
    obtain ⟨k, hk, rfl, hq, hB⟩ := hrel
    by_cases hlt : k < xs.length
    · have hlt2 : k < ys.length := by have := unhide HL; omega
      obtain ⟨row, hc, hr⟩ := Lay.row_at (unhide H) hlt
      obtain ⟨rowz, hcz, hrz⟩ := Lay.row_at (unhide H2) hlt2
      replace hr := hr.later hB
      replace hrz := hrz.later hB
      have hr2 := hr
      obtain ⟨a2, d2, rfl, -⟩ := open_Write hr2
      have hrz2 := hrz
      obtain ⟨a2z, d2z, rfl, -⟩ := open_Write hrz2
      have c0 : wr.cell? ⟨b, off + k * 5, none⟩ = some (.int .i64 (xs[k]).kind) := (hB.cell (p := ⟨b, off + k * 5, none⟩) hbl).trans (hc 0 (by decide))
      have c1 : wr.cell? ⟨b, off + k * 5 + 1, none⟩ = some (.int .i64 (xs[k]).id) := (hB.cell (p := ⟨b, off + k * 5 + 1, none⟩) hbl).trans (hc 1 (by decide))
      have c2 : wr.cell? ⟨b, off + k * 5 + 2, none⟩ = some (.slice a2 (xs[k]).vec.length d2) := (hB.cell (p := ⟨b, off + k * 5 + 2, none⟩) hbl).trans (hc 2 (by decide))
      have c3 : wr.cell? ⟨b, off + k * 5 + 3, none⟩ = some (.int .i64 (xs[k]).session) := (hB.cell (p := ⟨b, off + k * 5 + 3, none⟩) hbl).trans (hc 3 (by decide))
      have c4 : wr.cell? ⟨b, off + k * 5 + 4, none⟩ = some (.int .i64 (xs[k]).seq) := (hB.cell (p := ⟨b, off + k * 5 + 4, none⟩) hbl).trans (hc 4 (by decide))
      have c0z : wr.cell? ⟨b2, off2 + k * 5, none⟩ = some (.int .i64 (ys[k]).kind) := (hB.cell (p := ⟨b2, off2 + k * 5, none⟩) hbl2).trans (hcz 0 (by decide))
      have c1z : wr.cell? ⟨b2, off2 + k * 5 + 1, none⟩ = some (.int .i64 (ys[k]).id) := (hB.cell (p := ⟨b2, off2 + k * 5 + 1, none⟩) hbl2).trans (hcz 1 (by decide))
      have c2z : wr.cell? ⟨b2, off2 + k * 5 + 2, none⟩ = some (.slice a2z (ys[k]).vec.length d2z) := (hB.cell (p := ⟨b2, off2 + k * 5 + 2, none⟩) hbl2).trans (hcz 2 (by decide))
      have c3z : wr.cell? ⟨b2, off2 + k * 5 + 3, none⟩ = some (.int .i64 (ys[k]).session) := (hB.cell (p := ⟨b2, off2 + k * 5 + 3, none⟩) hbl2).trans (hcz 3 (by decide))
      have c4z : wr.cell? ⟨b2, off2 + k * 5 + 4, none⟩ = some (.int .i64 (ys[k]).seq) := (hB.cell (p := ⟨b2, off2 + k * 5 + 4, none⟩) hbl2).trans (hcz 4 (by decide))
      have l1 : b < wr.heap.size := Nat.lt_of_lt_of_le hbl hB.size
      have l2 : b2 < wr.heap.size := Nat.lt_of_lt_of_le hbl2 hB.size
      have HQ := hide hq
      have HB := hide hB
      have HR := hide hr
      have HRZ := hide hrz
      have HX : Hid (sameW xs[k] ys[k] = false → sameWs xs ys = false) := sameWs_at k hlt hlt2
      have HY : Hid (sameW xs[k] ys[k] = true → ∀ j (h1 : j < xs.length) (h2 : j < ys.length), j < k + 1 → sameW xs[j] ys[j] = true) := by
        intro h j h1 h2 hj
        by_cases hjk : j < k
        · exact unhide HQ j h1 h2 hjk
        · obtain rfl : j = k := by omega
          exact h
      clear hq hB hr hrz hc hcz HQ
      generalize hx : xs[k] = x at *
      generalize hy : ys[k] = y at *
      clear hx hy
      have nb : Below wr.heap.size wr ((wr.alloc (.cells #[.int .i64 x.kind, .int .i64 x.id, .slice a2 x.vec.length d2, .int .i64 x.session, .int .i64 x.seq] 29)).alloc (.cells #[.int .i64 y.kind, .int .i64 y.id, .slice a2z y.vec.length d2z, .int .i64 y.session, .int .i64 y.seq] 29)) := ((Below.refl _ _).alloc (Nat.le_refl _) _).alloc (by simp) _
      have L := hide (sameWrite _ _ x y _ ((unhide HR).later nb) ((unhide HRZ).later nb))
      replace HB := hide ((unhide HB).trans (nb.mono (unhide HB).size))
      clear nb HR HRZ
      go_wp2_with fail
      refine (unhide L).mono ?_
      rintro e w3 ⟨rfl, hb⟩
      replace HB := hide ((unhide HB).trans (hb.mono (unhide HB).size))
      clear hb L c0 c1 c2 c3 c4 c0z c1z c2z c3z c4z
      cases hs : sameW x y with
      | true =>
        have HZ := hide (unhide HY hs)
        clear hs HX HY
        go_wp2_with fail
        go_roundw
        case rel => exact ⟨k + 1, by omega, by go_num, unhide HZ, unhide HB⟩
        case measure => simp [intOf]; omega
      | false =>
        have HZ := hide (unhide HX hs)
        clear hs HX HY
        go_wp2_with fail
        go_ret
        exact ⟨by rw [unhide HZ]; rfl, unhide HB⟩
    · have HZ := hide (sameWs_all (unhide HL) fun j h1 h2 => hq j h1 h2 (by omega))
      have HB := hide hB
      clear hq hB
      go_wp2_with fail
      go_ret
      exact ⟨by rw [unhide HZ]; rfl, unhide HB⟩

theorem equalFunc_len (ao ao2 : Option Addr) (n m cap cap2 : Nat) (f : Value) (w : World) (h : n ≠ m) :
    Calls Tryz.prog 34 #[.slice ao n cap, .slice ao2 m cap2, f] w fun e w' => e = .returned (.bool false) ∧ Below w.heap.size w w' := by
  have hd : ((n : Int) != (m : Int)) = true := by rw [bne_iff_ne]; omega
  go_enter Tryz.func34, Tryz.ntmps34
  go_wp2_with fail
  go_ret
  exact ⟨rfl, Below.refl _ _⟩
theorem equalFunc_zero (ao ao2 : Option Addr) (cap cap2 : Nat) (f : Value) (w : World) :
    Calls Tryz.prog 34 #[.slice ao 0 cap, .slice ao2 0 cap2, f] w fun e w' => e = .returned (.bool true) ∧ Below w.heap.size w w' := by
  go_enter Tryz.func34, Tryz.ntmps34
  go_wp2_with fail
  refine wp_loop_rounds 1 ?_
  rw [rounds_succ]
  go_wp2_with fail
  go_ret
  exact ⟨rfl, Below.refl _ _⟩

/-- SameWrites of the program. -/
theorem implSame (v v2 : Value) (xs ys : List DWrite) (w : World) (h : (Lay.sl Lay.tWrite).Reads w [v] xs) (h2 : (Lay.sl Lay.tWrite).Reads w [v2] ys) :
    Calls Tryz.prog 11 #[v, v2] w fun e w' => e = .returned (.bool (sameWs xs ys)) ∧ Below w.heap.size w w' := by
  obtain ⟨ao, cap, rfl⟩ := open_sl h
  obtain ⟨ao2, cap2, rfl⟩ := open_sl h2
  have L : Hid (Calls Tryz.prog 34 #[.slice ao xs.length cap, .slice ao2 ys.length cap2, .func (.func 35) #[] #[]] w fun e w' => e = .returned (.bool (sameWs xs ys)) ∧ Below w.heap.size w w') := by
    show Calls Tryz.prog 34 #[.slice ao xs.length cap, .slice ao2 ys.length cap2, .func (.func 35) #[] #[]] w fun e w' => e = .returned (.bool (sameWs xs ys)) ∧ Below w.heap.size w w'
    by_cases hl : xs.length = ys.length
    · by_cases hp : 0 < xs.length
      · obtain ⟨b, off, rfl, hbl⟩ := Lay.sl_addr h hp
        obtain ⟨b2, off2, rfl, hbl2⟩ := Lay.sl_addr h2 (by omega)
        rw [← hl]
        exact equalFunc_pos b off cap b2 off2 cap2 xs ys w hl h (by rw [← hl] at h2 ⊢; exact h2) hbl hbl2
      · obtain rfl : xs = [] := List.eq_nil_of_length_eq_zero (by omega)
        obtain rfl : ys = [] := List.eq_nil_of_length_eq_zero (by simpa using hl.symm)
        exact equalFunc_zero ao ao2 cap cap2 _ w
    · rw [sameWs_len hl]
      exact equalFunc_len ao ao2 _ _ cap cap2 _ w hl
  clear h h2
  go_enter Tryz.func11, Tryz.ntmps11
  go_wp2_with fail
  refine (unhide L).mono ?_
  rintro e w1 ⟨rfl, hb⟩
  have HB := hide hb
  clear hb L
  go_wp2_with fail
  go_ret
  exact ⟨rfl, unhide HB⟩

end Go.Proofs.YtbogjepkdcknfaaGreatDoor

namespace Go.Proofs.YtbogjepkdcknfaaGreatDoor
open Go.RowKit

end Go.Proofs.YtbogjepkdcknfaaGreatDoor

namespace Go.Proofs.YtbogjepkdcknfaaGreatDoor
open Go.RowKit

set_option maxRecDepth 10000 in
set_option maxHeartbeats 1000000 in
theorem implSeenAt (v : Value) (ws : List DWrite) (s q : Int) (w : World) (h : (Lay.sl Lay.tWrite).Reads w [v] ws) :
    Calls Tryz.prog 12 #[v, .int .i64 s , .int .i64 q] w fun e w' => ∃ cs, e = .returned (.agg cs.toArray) ∧ Lay.tIntResult.OwnIn w' cs (seenR ws s q) w.heap.size w'.heap.size ∧ Below w.heap.size w w' := by
  have nb : Below w.heap.size w (w.alloc (.cells #[.int .i64 0, .int .i64 0] 40)) := (Below.refl _ _).alloc (Nat.le_refl _) _
  have bR0 : Box w.heap.size #[.int .i64 0, .int .i64 0] 40 (w.alloc (.cells #[.int .i64 0, .int .i64 0] 40)) w.heap.size := newBox (Nat.le_refl _)
  have HR := hide (h.later nb)
  have HB0 := hide nb
  have HBR := hide bR0
  obtain ⟨ao, cap, rfl⟩ := open_sl h
  clear nb bR0 h
  have HL := hide (storyC _ ws _ (unhide HR))
  go_enter Tryz.func12, Tryz.ntmps12
  go_wp2_with fail
  refine (unhide HL).mono ?_
  rintro e w2 ⟨r, rfl, g0, g1, hb⟩
  have bR := (unhide HBR).keep hb
  have HB2 := hide ((unhide HB0).trans (hb.mono (unhide HB0).size))
  have hsz : (w.alloc (.cells #[.int .i64 0, .int .i64 0] 40)).heap.size = w.heap.size + 1 := by simp
  rw [hsz] at g0
  clear hb HL HB0 HBR HR hsz
  by_cases hf : writesF ws = 0
  · obtain ⟨rfl, v2, rows, bls, hT⟩ := g0 hf
    clear g0 g1
    have HF := hide hf
    rw [hf]
    clear hf
    have HS := hide (isSessionC s w2)
    by_cases hs : 1 ≤ s ∧ s ≤ 9
    · rw [dec9 hs] at HS
      have HQ := hide (isSeqC q w2)
      by_cases hq : 1 ≤ q ∧ q ≤ 999
      · rw [dec999 hq] at HQ
        have hlk := hT.seen.look (s := s) (q := q) (wf_of_bd (by omega)) (wf_of_bd (by omega))
        simp only [tick] at hlk
        have zm : w2.cell? ⟨w.heap.size + 1 + 1, 1, none⟩ = some (.map (some (w.heap.size + 1))) := hT.box.at 1 _ rfl
        by_cases h0 : seenI ws s q = 0
        · have HG : Hid (seenR ws s q = ⟨4, 0⟩) := by show seenR ws s q = _; rw [seenR, if_pos (asked_ok (unhide HF) hs), if_pos hq, if_pos h0]
          have hlk2 : (Instr.lookup 77 (.map (some (w.heap.size + 1))) (.agg #[.int .i64 s, .int .i64 q]) true).run Tryz.prog w2 = .ok (.tuple #[.int .i64 0, .bool false]) w2 := by rw [hlk, h0]; rfl
          clear hlk h0 hs hq hT HF
          go_wp2_with fail
          refine (unhide HS).mono ?_
          rintro e w3 ⟨rfl, hw3⟩
          rw [hw3]
          clear hw3 w3
          go_wp2_with fail
          refine (unhide HQ).mono ?_
          rintro e w3 ⟨rfl, hw3⟩
          rw [hw3]
          clear hw3 w3
          clear HS HQ
          have z0 : w2.cell? ⟨w.heap.size, 0, none⟩ = some (.int .i64 0) := bR.at 0 _ rfl
          have z1 : w2.cell? ⟨w.heap.size, 1, none⟩ = some (.int .i64 0) := bR.at 1 _ rfl
          have f0 := bR.soft 0
          have f1 := bR.soft 1
          have l0 := bR.lt
          clear bR
          go_wp2_with fail
          refine bodyPost_ret (v := .agg #[.int .i64 (4), .int .i64 (0)]) (by simp [results, Tryz.results12, go_sem, z0, z1]) rfl ?_
          rw [unhide HG]
          exact ⟨_, rfl, own_IntR (by decide) (by decide), ((unhide HB2).setCell (by simp) _).setCell (by simp) _⟩
        · have HG : Hid (seenR ws s q = ⟨0, seenI ws s q⟩) := by show seenR ws s q = _; rw [seenR, if_pos (asked_ok (unhide HF) hs), if_pos hq, if_neg h0]
          have HBD : Hid (seenI ws s q ≤ 200) := Nat.le_trans (seenI_le ws s q) (writesF_zero (unhide HF)).1
          have hlk2 : (Instr.lookup 77 (.map (some (w.heap.size + 1))) (.agg #[.int .i64 s, .int .i64 q]) true).run Tryz.prog w2 = .ok (.tuple #[.int .i64 (seenI ws s q), .bool true]) w2 := by rw [hlk]; simp [h0]
          clear hlk h0 hs hq hT HF
          go_wp2_with fail
          refine (unhide HS).mono ?_
          rintro e w3 ⟨rfl, hw3⟩
          rw [hw3]
          clear hw3 w3
          go_wp2_with fail
          refine (unhide HQ).mono ?_
          rintro e w3 ⟨rfl, hw3⟩
          rw [hw3]
          clear hw3 w3
          clear HS HQ
          have z0 : w2.cell? ⟨w.heap.size, 0, none⟩ = some (.int .i64 0) := bR.at 0 _ rfl
          have z1 : w2.cell? ⟨w.heap.size, 1, none⟩ = some (.int .i64 0) := bR.at 1 _ rfl
          have f0 := bR.soft 0
          have f1 := bR.soft 1
          have l0 := bR.lt
          clear bR
          go_wp2_with fail
          refine bodyPost_ret (v := .agg #[.int .i64 (0), .int .i64 (seenI ws s q)]) (by simp [results, Tryz.results12, go_sem, z0, z1]) rfl ?_
          rw [unhide HG]
          exact ⟨_, rfl, own_IntR (by decide) (wf_of_bd (by have := unhide HBD; omega)), ((unhide HB2).setCell (by simp) _).setCell (by simp) _⟩
      · rw [dec999n hq] at HQ
        have HG : Hid (seenR ws s q = ⟨3, 0⟩) := by show seenR ws s q = _; rw [seenR, if_pos (asked_ok (unhide HF) hs), if_neg hq]
        clear hs hq hT HF
        go_wp2_with fail
        refine (unhide HS).mono ?_
        rintro e w3 ⟨rfl, hw3⟩
        rw [hw3]
        clear hw3 w3
        go_wp2_with fail
        refine (unhide HQ).mono ?_
        rintro e w3 ⟨rfl, hw3⟩
        rw [hw3]
        clear hw3 w3
        clear HS HQ
        have z0 : w2.cell? ⟨w.heap.size, 0, none⟩ = some (.int .i64 0) := bR.at 0 _ rfl
        have z1 : w2.cell? ⟨w.heap.size, 1, none⟩ = some (.int .i64 0) := bR.at 1 _ rfl
        have f0 := bR.soft 0
        have f1 := bR.soft 1
        have l0 := bR.lt
        clear bR
        go_wp2_with fail
        refine bodyPost_ret (v := .agg #[.int .i64 (3), .int .i64 (0)]) (by simp [results, Tryz.results12, go_sem, z0, z1]) rfl ?_
        rw [unhide HG]
        exact ⟨_, rfl, own_IntR (by decide) (by decide), ((unhide HB2).setCell (by simp) _).setCell (by simp) _⟩
    · rw [dec9n hs] at HS
      have HG : Hid (seenR ws s q = ⟨3, 0⟩) := by show seenR ws s q = _; rw [seenR, asked_out (unhide HF) hs, if_neg (by decide)]
      clear hs hT HF
      go_wp2_with fail
      refine (unhide HS).mono ?_
      rintro e w3 ⟨rfl, hw3⟩
      rw [hw3]
      clear hw3 w3
      clear HS
      have z0 : w2.cell? ⟨w.heap.size, 0, none⟩ = some (.int .i64 0) := bR.at 0 _ rfl
      have z1 : w2.cell? ⟨w.heap.size, 1, none⟩ = some (.int .i64 0) := bR.at 1 _ rfl
      have f0 := bR.soft 0
      have f1 := bR.soft 1
      have l0 := bR.lt
      clear bR
      go_wp2_with fail
      refine bodyPost_ret (v := .agg #[.int .i64 (3), .int .i64 (0)]) (by simp [results, Tryz.results12, go_sem, z0, z1]) rfl ?_
      rw [unhide HG]
      exact ⟨_, rfl, own_IntR (by decide) (by decide), ((unhide HB2).setCell (by simp) _).setCell (by simp) _⟩
  · obtain rfl := g1 hf
    clear g0 g1
    have HG : Hid (seenR ws s q = ⟨writesF ws, 0⟩) := by show seenR ws s q = _; rw [seenR, asked_bad s hf, if_neg hf]
    have HWF := hide (wsF_wf ws)
    have hd : (writesF ws != 0) = true := by simpa using hf
    clear hf
    have z0 : w2.cell? ⟨w.heap.size, 0, none⟩ = some (.int .i64 0) := bR.at 0 _ rfl
    have z1 : w2.cell? ⟨w.heap.size, 1, none⟩ = some (.int .i64 0) := bR.at 1 _ rfl
    have f0 := bR.soft 0
    have f1 := bR.soft 1
    have l0 := bR.lt
    clear bR
    go_wp2_with fail
    refine bodyPost_ret (v := .agg #[.int .i64 (writesF ws), .int .i64 (0)]) (by simp [results, Tryz.results12, go_sem, z0, z1]) rfl ?_
    rw [unhide HG]
    exact ⟨_, rfl, own_IntR (unhide HWF) (by decide), ((unhide HB2).setCell (by simp) _).setCell (by simp) _⟩

end Go.Proofs.YtbogjepkdcknfaaGreatDoor
