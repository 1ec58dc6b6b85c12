/-
  The law FnNodes answers true at every slice of bytes, and writes nothing that was there.
  Condition: errors.errorType holds the handle of the type error, impl.errFull an error of errors.New's make.
-/
import Derived.Test.YtbogjepkdcknfaaGreatDoorNo04
import Derived.Test.YtbogjepkdcknfaaGreatDoorNo07
import Derived.Test.YtbogjepkdcknfaaGreatDoorNo05
import Derived.Deep.RegionHeld3

namespace Go.Proofs.YtbogjepkdcknfaaGreatDoor
open Go.RowKit

theorem fieldNN0 (c0 n0 i0 : Int) (u0 : Bool) (e0 l0 : Int) (a0 : Option Addr) (m0 d0 : Nat) (s0 k0 : Int) (w : World) : (Instr.field 33 (.agg #[.int .i64 c0, .int .i64 n0, .int .i64 i0, .bool u0, .int .i64 e0, .int .i64 l0, .slice a0 m0 d0, .int .i64 s0, .int .i64 k0]) 0).run Tryz.prog w = .ok (.int .i64 c0) w := by kernel_rfl
theorem fieldIR9 (c n : Int) (w : World) : (Instr.field 40 (.agg #[.int .i64 c, .int .i64 n]) 1).run Tryz.prog w = .ok (.int .i64 n) w := by kernel_rfl
theorem sl_prefixN {α : Type} {A : Lay α} {w : World} {xs : List α} {ao : Option Addr} {cap k : Nat} (h : (Lay.sl A).Reads w [.slice ao xs.length cap] xs) (hk : k ≤ xs.length) : (Lay.sl A).Reads w [.slice ao k cap] (xs.take k) := by
  obtain ⟨bl, ao', cp, e, ⟨h1, h2⟩, h⟩ := h
  simp only [List.cons.injEq, Value.slice.injEq, and_true] at e
  obtain ⟨rfl, -, rfl⟩ := e
  have hl : (xs.take k).length = k := by simp; omega
  rcases h with ⟨rfl, -⟩ | ⟨b, off, rows, bls, rfl, hb, -, hr, hbl, hj⟩
  · obtain rfl : k = 0 := by simpa using hk
    exact ⟨[], ao, cap, by simp, by simp, Or.inl ⟨by simp, rfl⟩⟩
  · refine ⟨_, _, cap, by rw [hl], ⟨by omega, by omega⟩, Or.inr ⟨b, off, rows.take k, bls.take k, rfl, hb, rfl, by simp [hr], by simp [hbl], fun j h1 h2 h3 => ?_⟩⟩
    have := hj j (by rw [hl] at h1; omega) (by simp at h2; omega) (by simp at h3; omega)
    simpa using this

theorem lawNodes_many (ao : Option Addr) (len cap : Nat) (w : World) (hn : 1048576 < len) :
    Calls Tryz.prog 3 #[.slice ao len cap] w fun e w' => e = .returned (.bool true) ∧ Below w.heap.size w w' := by
  go_enter Tryz.func3, Tryz.ntmps3
  go_wp2_with fail
  refine (big_yes ao len cap w hn).mono ?_
  rintro e w' ⟨rfl, rfl⟩
  go_wp2_with fail
  go_ret
  exact ⟨rfl, Below.refl _ _⟩

set_option maxRecDepth 100000 in
set_option maxHeartbeats 8000000 in
theorem lawNodes_few (ao : Option Addr) (len cap : Nat) (w : World) (hn : len ≤ 1048576) (hcode : IsCode w.heap.size w (.slice ao len cap)) (hE : Errs w) :
    Calls Tryz.prog 3 #[.slice ao len cap] w fun e w' => e = .returned (.bool true) ∧ Below w.heap.size w w' := by
  have HC := hide hcode
  have HE := hide hE
  clear hcode hE
  go_enter Tryz.func3, Tryz.ntmps3
  go_wp2_with fail
  refine (big_no ao len cap w hn).mono ?_
  rintro e w ⟨rfl, rfl⟩
  go_wp2_with fail
  refine (drawTake ao len cap w (unhide HC)).mono ?_
  rintro e w1 ⟨cs, x, us, y, rfl, hX, hY, hlen, hb1⟩
  obtain ⟨a8, c8, rfl, hW⟩ := open_Node hX
  obtain ⟨a7, c7, rfl, -⟩ := open_Write hY
  have nb1 : Below w1.heap.size w1 ((w1.alloc (.cells #[.int .i64 x.id, .bool x.up, .int .i64 x.epoch, .int .i64 x.lease, .slice a8 x.writes.length c8, .int .i64 x.sure, .int .i64 x.clean] 26)).alloc (.cells #[.int .i64 y.kind, .int .i64 y.id, .slice a7 y.vec.length c7, .int .i64 y.session, .int .i64 y.seq] 29)) := ((Below.refl _ _).alloc (Nat.le_refl _) _).alloc (by simp) _
  have HX3 : Hid (Box 0 #[.int .i64 x.id, .bool x.up, .int .i64 x.epoch, .int .i64 x.lease, .slice a8 x.writes.length c8, .int .i64 x.sure, .int .i64 x.clean] 26 ((w1.alloc (.cells #[.int .i64 x.id, .bool x.up, .int .i64 x.epoch, .int .i64 x.lease, .slice a8 x.writes.length c8, .int .i64 x.sure, .int .i64 x.clean] 26)).alloc (.cells #[.int .i64 y.kind, .int .i64 y.id, .slice a7 y.vec.length c7, .int .i64 y.session, .int .i64 y.seq] 29)) w1.heap.size) := (newBox (Nat.zero_le _)).grow _
  have HY3 : Hid (Box 0 #[.int .i64 y.kind, .int .i64 y.id, .slice a7 y.vec.length c7, .int .i64 y.session, .int .i64 y.seq] 29 ((w1.alloc (.cells #[.int .i64 x.id, .bool x.up, .int .i64 x.epoch, .int .i64 x.lease, .slice a8 x.writes.length c8, .int .i64 x.sure, .int .i64 x.clean] 26)).alloc (.cells #[.int .i64 y.kind, .int .i64 y.id, .slice a7 y.vec.length c7, .int .i64 y.session, .int .i64 y.seq] 29)) (w1.heap.size + 1)) := newBoxAt (Nat.zero_le _) (by simp)
  have z0 : ((w1.alloc (.cells #[.int .i64 x.id, .bool x.up, .int .i64 x.epoch, .int .i64 x.lease, .slice a8 x.writes.length c8, .int .i64 x.sure, .int .i64 x.clean] 26)).alloc (.cells #[.int .i64 y.kind, .int .i64 y.id, .slice a7 y.vec.length c7, .int .i64 y.session, .int .i64 y.seq] 29)).cell? ⟨w1.heap.size, 0, none⟩ = some (.int .i64 x.id) := (unhide HX3).at 0 _ rfl
  have z1 : ((w1.alloc (.cells #[.int .i64 x.id, .bool x.up, .int .i64 x.epoch, .int .i64 x.lease, .slice a8 x.writes.length c8, .int .i64 x.sure, .int .i64 x.clean] 26)).alloc (.cells #[.int .i64 y.kind, .int .i64 y.id, .slice a7 y.vec.length c7, .int .i64 y.session, .int .i64 y.seq] 29)).cell? ⟨w1.heap.size, 1, none⟩ = some (.bool x.up) := (unhide HX3).at 1 _ rfl
  have z2 : ((w1.alloc (.cells #[.int .i64 x.id, .bool x.up, .int .i64 x.epoch, .int .i64 x.lease, .slice a8 x.writes.length c8, .int .i64 x.sure, .int .i64 x.clean] 26)).alloc (.cells #[.int .i64 y.kind, .int .i64 y.id, .slice a7 y.vec.length c7, .int .i64 y.session, .int .i64 y.seq] 29)).cell? ⟨w1.heap.size, 2, none⟩ = some (.int .i64 x.epoch) := (unhide HX3).at 2 _ rfl
  have z3 : ((w1.alloc (.cells #[.int .i64 x.id, .bool x.up, .int .i64 x.epoch, .int .i64 x.lease, .slice a8 x.writes.length c8, .int .i64 x.sure, .int .i64 x.clean] 26)).alloc (.cells #[.int .i64 y.kind, .int .i64 y.id, .slice a7 y.vec.length c7, .int .i64 y.session, .int .i64 y.seq] 29)).cell? ⟨w1.heap.size, 3, none⟩ = some (.int .i64 x.lease) := (unhide HX3).at 3 _ rfl
  have z4 : ((w1.alloc (.cells #[.int .i64 x.id, .bool x.up, .int .i64 x.epoch, .int .i64 x.lease, .slice a8 x.writes.length c8, .int .i64 x.sure, .int .i64 x.clean] 26)).alloc (.cells #[.int .i64 y.kind, .int .i64 y.id, .slice a7 y.vec.length c7, .int .i64 y.session, .int .i64 y.seq] 29)).cell? ⟨w1.heap.size, 4, none⟩ = some (.slice a8 x.writes.length c8) := (unhide HX3).at 4 _ rfl
  have z5 : ((w1.alloc (.cells #[.int .i64 x.id, .bool x.up, .int .i64 x.epoch, .int .i64 x.lease, .slice a8 x.writes.length c8, .int .i64 x.sure, .int .i64 x.clean] 26)).alloc (.cells #[.int .i64 y.kind, .int .i64 y.id, .slice a7 y.vec.length c7, .int .i64 y.session, .int .i64 y.seq] 29)).cell? ⟨w1.heap.size, 5, none⟩ = some (.int .i64 x.sure) := (unhide HX3).at 5 _ rfl
  have z6 : ((w1.alloc (.cells #[.int .i64 x.id, .bool x.up, .int .i64 x.epoch, .int .i64 x.lease, .slice a8 x.writes.length c8, .int .i64 x.sure, .int .i64 x.clean] 26)).alloc (.cells #[.int .i64 y.kind, .int .i64 y.id, .slice a7 y.vec.length c7, .int .i64 y.session, .int .i64 y.seq] 29)).cell? ⟨w1.heap.size, 6, none⟩ = some (.int .i64 x.clean) := (unhide HX3).at 6 _ rfl
  have t0 : ((w1.alloc (.cells #[.int .i64 x.id, .bool x.up, .int .i64 x.epoch, .int .i64 x.lease, .slice a8 x.writes.length c8, .int .i64 x.sure, .int .i64 x.clean] 26)).alloc (.cells #[.int .i64 y.kind, .int .i64 y.id, .slice a7 y.vec.length c7, .int .i64 y.session, .int .i64 y.seq] 29)).cell? ⟨w1.heap.size + 1, 0, none⟩ = some (.int .i64 y.kind) := (unhide HY3).at 0 _ rfl
  have t1 : ((w1.alloc (.cells #[.int .i64 x.id, .bool x.up, .int .i64 x.epoch, .int .i64 x.lease, .slice a8 x.writes.length c8, .int .i64 x.sure, .int .i64 x.clean] 26)).alloc (.cells #[.int .i64 y.kind, .int .i64 y.id, .slice a7 y.vec.length c7, .int .i64 y.session, .int .i64 y.seq] 29)).cell? ⟨w1.heap.size + 1, 1, none⟩ = some (.int .i64 y.id) := (unhide HY3).at 1 _ rfl
  have t2 : ((w1.alloc (.cells #[.int .i64 x.id, .bool x.up, .int .i64 x.epoch, .int .i64 x.lease, .slice a8 x.writes.length c8, .int .i64 x.sure, .int .i64 x.clean] 26)).alloc (.cells #[.int .i64 y.kind, .int .i64 y.id, .slice a7 y.vec.length c7, .int .i64 y.session, .int .i64 y.seq] 29)).cell? ⟨w1.heap.size + 1, 2, none⟩ = some (.slice a7 y.vec.length c7) := (unhide HY3).at 2 _ rfl
  have t3 : ((w1.alloc (.cells #[.int .i64 x.id, .bool x.up, .int .i64 x.epoch, .int .i64 x.lease, .slice a8 x.writes.length c8, .int .i64 x.sure, .int .i64 x.clean] 26)).alloc (.cells #[.int .i64 y.kind, .int .i64 y.id, .slice a7 y.vec.length c7, .int .i64 y.session, .int .i64 y.seq] 29)).cell? ⟨w1.heap.size + 1, 3, none⟩ = some (.int .i64 y.session) := (unhide HY3).at 3 _ rfl
  have t4 : ((w1.alloc (.cells #[.int .i64 x.id, .bool x.up, .int .i64 x.epoch, .int .i64 x.lease, .slice a8 x.writes.length c8, .int .i64 x.sure, .int .i64 x.clean] 26)).alloc (.cells #[.int .i64 y.kind, .int .i64 y.id, .slice a7 y.vec.length c7, .int .i64 y.session, .int .i64 y.seq] 29)).cell? ⟨w1.heap.size + 1, 4, none⟩ = some (.int .i64 y.seq) := (unhide HY3).at 4 _ rfl
  have HRX := hide (hX.later nb1)
  have HRW := hide (hW.later nb1)
  have HRY := hide (hY.later nb1)
  have HB := hide (hb1.trans (nb1.mono hb1.size))
  replace HE := hide ((unhide HE).later (unhide HB)) 
  have L2 := hide (implTakeWrite _ x _ y _ (unhide HE) (unhide HRX) (unhide HRY))
  clear hX hW hY hb1 nb1 HC
  go_wp2_with fail
  generalize (w1.alloc (.cells #[.int .i64 x.id, .bool x.up, .int .i64 x.epoch, .int .i64 x.lease, .slice a8 x.writes.length c8, .int .i64 x.sure, .int .i64 x.clean] 26)).alloc (.cells #[.int .i64 y.kind, .int .i64 y.id, .slice a7 y.vec.length c7, .int .i64 y.session, .int .i64 y.seq] 29) = W1 at *
  clear z0 z1 z2 z3 z4 z5 z6 t0 t1 t2 t3 t4
  refine (unhide L2).mono ?_
  rintro e w2 ⟨cs, rfl, O, hb2⟩
  obtain ⟨a2, d2, rfl, R2⟩ := open_NodeResult O.reads
  clear O L2
  by_cases hf : (takeR x y).code = 0
  · obtain ⟨ws, at_, t, s, c, d, K⟩ := nodes_plain hf
    rw [K.take] at R2 ⊢
    obtain rfl := K.tw
    obtain ⟨k, hk, hkl, hdw⟩ := K.dw
    replace R2 : Lay.tNode.Reads w2 [.int .i64 t.id, .bool t.up, .int .i64 t.epoch, .int .i64 t.lease, .slice a2 t.writes.length d2, .int .i64 t.sure, .int .i64 t.clean] t := R2
    simp only at ⊢
    have HK := hide K
    have HDW := hide hdw
    rw [hk] at HX3
    clear K hf hdw hk
    have nb2 : Below w2.heap.size w2 (w2.alloc (.cells #[.int .i64 0, .int .i64 at_, .int .i64 t.id, .bool t.up, .int .i64 t.epoch, .int .i64 t.lease, .slice a2 t.writes.length d2, .int .i64 t.sure, .int .i64 t.clean] 33)) := (Below.refl _ _).alloc (Nat.le_refl _) _
    replace HX3 := hide (((unhide HX3).keep hb2).keep nb2)
    replace HY3 := hide (((unhide HY3).keep hb2).keep nb2)
    replace HRX := hide (((unhide HRX).later hb2).later nb2)
    replace HRW := hide (((unhide HRW).later hb2).later nb2)
    replace HRY := hide (((unhide HRY).later hb2).later nb2)
    replace HE := hide (((unhide HE).later hb2).later nb2)
    have HB2 : Hid (Box 0 #[.int .i64 0, .int .i64 at_, .int .i64 t.id, .bool t.up, .int .i64 t.epoch, .int .i64 t.lease, .slice a2 t.writes.length d2, .int .i64 t.sure, .int .i64 t.clean] 33 (w2.alloc (.cells #[.int .i64 0, .int .i64 at_, .int .i64 t.id, .bool t.up, .int .i64 t.epoch, .int .i64 t.lease, .slice a2 t.writes.length d2, .int .i64 t.sure, .int .i64 t.clean] 33)) w2.heap.size) := newBox (Nat.zero_le _)
    have HR2 := hide (R2.later nb2)
    replace HB := hide (((unhide HB).trans (hb2.mono (unhide HB).size)).trans (nb2.mono (Nat.le_trans (unhide HB).size hb2.size)))
    clear R2 nb2 hb2
    have z0 : (w2.alloc (.cells #[.int .i64 0, .int .i64 at_, .int .i64 t.id, .bool t.up, .int .i64 t.epoch, .int .i64 t.lease, .slice a2 t.writes.length d2, .int .i64 t.sure, .int .i64 t.clean] 33)).cell? ⟨w2.heap.size, 0, none⟩ = some (.int .i64 0) := (unhide HB2).at 0 _ rfl
    have z2 : (w2.alloc (.cells #[.int .i64 0, .int .i64 at_, .int .i64 t.id, .bool t.up, .int .i64 t.epoch, .int .i64 t.lease, .slice a2 t.writes.length d2, .int .i64 t.sure, .int .i64 t.clean] 33)).cell? ⟨w2.heap.size, 2, none⟩ = some (.int .i64 t.id) := (unhide HB2).at 2 _ rfl
    have z3 : (w2.alloc (.cells #[.int .i64 0, .int .i64 at_, .int .i64 t.id, .bool t.up, .int .i64 t.epoch, .int .i64 t.lease, .slice a2 t.writes.length d2, .int .i64 t.sure, .int .i64 t.clean] 33)).cell? ⟨w2.heap.size, 3, none⟩ = some (.bool t.up) := (unhide HB2).at 3 _ rfl
    have z4 : (w2.alloc (.cells #[.int .i64 0, .int .i64 at_, .int .i64 t.id, .bool t.up, .int .i64 t.epoch, .int .i64 t.lease, .slice a2 t.writes.length d2, .int .i64 t.sure, .int .i64 t.clean] 33)).cell? ⟨w2.heap.size, 4, none⟩ = some (.int .i64 t.epoch) := (unhide HB2).at 4 _ rfl
    have z5 : (w2.alloc (.cells #[.int .i64 0, .int .i64 at_, .int .i64 t.id, .bool t.up, .int .i64 t.epoch, .int .i64 t.lease, .slice a2 t.writes.length d2, .int .i64 t.sure, .int .i64 t.clean] 33)).cell? ⟨w2.heap.size, 5, none⟩ = some (.int .i64 t.lease) := (unhide HB2).at 5 _ rfl
    have z6 : (w2.alloc (.cells #[.int .i64 0, .int .i64 at_, .int .i64 t.id, .bool t.up, .int .i64 t.epoch, .int .i64 t.lease, .slice a2 t.writes.length d2, .int .i64 t.sure, .int .i64 t.clean] 33)).cell? ⟨w2.heap.size, 6, none⟩ = some (.slice a2 t.writes.length d2) := (unhide HB2).at 6 _ rfl
    have z7 : (w2.alloc (.cells #[.int .i64 0, .int .i64 at_, .int .i64 t.id, .bool t.up, .int .i64 t.epoch, .int .i64 t.lease, .slice a2 t.writes.length d2, .int .i64 t.sure, .int .i64 t.clean] 33)).cell? ⟨w2.heap.size, 7, none⟩ = some (.int .i64 t.sure) := (unhide HB2).at 7 _ rfl
    have z8 : (w2.alloc (.cells #[.int .i64 0, .int .i64 at_, .int .i64 t.id, .bool t.up, .int .i64 t.epoch, .int .i64 t.lease, .slice a2 t.writes.length d2, .int .i64 t.sure, .int .i64 t.clean] 33)).cell? ⟨w2.heap.size, 8, none⟩ = some (.int .i64 t.clean) := (unhide HB2).at 8 _ rfl
    have L3 := implSyncNode _ t _ (unhide HR2)
    rw [(unhide HK).sync] at L3
    have HL3 := hide L3
    clear L3
    go_wp2_with fail
    generalize w2.alloc (.cells #[.int .i64 0, .int .i64 at_, .int .i64 t.id, .bool t.up, .int .i64 t.epoch, .int .i64 t.lease, .slice a2 t.writes.length d2, .int .i64 t.sure, .int .i64 t.clean] 33) = W2 at *
    clear z2 z3 z4 z5 z6 z7 z8
    refine (unhide HL3).mono ?_
    rintro e w3 ⟨cs, rfl, O, hb3⟩
    obtain ⟨a3, d3, rfl, R3⟩ := open_NodeResult O.reads
    replace R3 : Lay.tNode.Reads w3 [.int .i64 s.id, .bool s.up, .int .i64 s.epoch, .int .i64 s.lease, .slice a3 s.writes.length d3, .int .i64 s.sure, .int .i64 s.clean] s := R3
    simp only at ⊢
    clear O HL3
    clear z0
    have nb3 : Below w3.heap.size w3 (w3.alloc (.cells #[.int .i64 0, .int .i64 (t.writes.length : Int), .int .i64 s.id, .bool s.up, .int .i64 s.epoch, .int .i64 s.lease, .slice a3 s.writes.length d3, .int .i64 s.sure, .int .i64 s.clean] 33)) := (Below.refl _ _).alloc (Nat.le_refl _) _
    replace HX3 := hide (((unhide HX3).keep hb3).keep nb3)
    replace HY3 := hide (((unhide HY3).keep hb3).keep nb3)
    replace HB2 := hide (((unhide HB2).keep hb3).keep nb3)
    replace HRX := hide (((unhide HRX).later hb3).later nb3)
    replace HRW := hide (((unhide HRW).later hb3).later nb3)
    replace HRY := hide (((unhide HRY).later hb3).later nb3)
    replace HE := hide (((unhide HE).later hb3).later nb3)
    replace HR2 := hide (((unhide HR2).later hb3).later nb3)
    have HB3 : Hid (Box 0 #[.int .i64 0, .int .i64 (t.writes.length : Int), .int .i64 s.id, .bool s.up, .int .i64 s.epoch, .int .i64 s.lease, .slice a3 s.writes.length d3, .int .i64 s.sure, .int .i64 s.clean] 33 (w3.alloc (.cells #[.int .i64 0, .int .i64 (t.writes.length : Int), .int .i64 s.id, .bool s.up, .int .i64 s.epoch, .int .i64 s.lease, .slice a3 s.writes.length d3, .int .i64 s.sure, .int .i64 s.clean] 33)) w3.heap.size) := newBox (Nat.zero_le _)
    have HR3 := hide (R3.later nb3)
    replace HB := hide (((unhide HB).trans (hb3.mono (unhide HB).size)).trans (nb3.mono (Nat.le_trans (unhide HB).size hb3.size)))
    clear R3 nb3 hb3
    have z2 : (w3.alloc (.cells #[.int .i64 0, .int .i64 (t.writes.length : Int), .int .i64 s.id, .bool s.up, .int .i64 s.epoch, .int .i64 s.lease, .slice a3 s.writes.length d3, .int .i64 s.sure, .int .i64 s.clean] 33)).cell? ⟨w3.heap.size, 2, none⟩ = some (.int .i64 s.id) := (unhide HB3).at 2 _ rfl
    have z3 : (w3.alloc (.cells #[.int .i64 0, .int .i64 (t.writes.length : Int), .int .i64 s.id, .bool s.up, .int .i64 s.epoch, .int .i64 s.lease, .slice a3 s.writes.length d3, .int .i64 s.sure, .int .i64 s.clean] 33)).cell? ⟨w3.heap.size, 3, none⟩ = some (.bool s.up) := (unhide HB3).at 3 _ rfl
    have z4 : (w3.alloc (.cells #[.int .i64 0, .int .i64 (t.writes.length : Int), .int .i64 s.id, .bool s.up, .int .i64 s.epoch, .int .i64 s.lease, .slice a3 s.writes.length d3, .int .i64 s.sure, .int .i64 s.clean] 33)).cell? ⟨w3.heap.size, 4, none⟩ = some (.int .i64 s.epoch) := (unhide HB3).at 4 _ rfl
    have z5 : (w3.alloc (.cells #[.int .i64 0, .int .i64 (t.writes.length : Int), .int .i64 s.id, .bool s.up, .int .i64 s.epoch, .int .i64 s.lease, .slice a3 s.writes.length d3, .int .i64 s.sure, .int .i64 s.clean] 33)).cell? ⟨w3.heap.size, 5, none⟩ = some (.int .i64 s.lease) := (unhide HB3).at 5 _ rfl
    have z6 : (w3.alloc (.cells #[.int .i64 0, .int .i64 (t.writes.length : Int), .int .i64 s.id, .bool s.up, .int .i64 s.epoch, .int .i64 s.lease, .slice a3 s.writes.length d3, .int .i64 s.sure, .int .i64 s.clean] 33)).cell? ⟨w3.heap.size, 6, none⟩ = some (.slice a3 s.writes.length d3) := (unhide HB3).at 6 _ rfl
    have z7 : (w3.alloc (.cells #[.int .i64 0, .int .i64 (t.writes.length : Int), .int .i64 s.id, .bool s.up, .int .i64 s.epoch, .int .i64 s.lease, .slice a3 s.writes.length d3, .int .i64 s.sure, .int .i64 s.clean] 33)).cell? ⟨w3.heap.size, 7, none⟩ = some (.int .i64 s.sure) := (unhide HB3).at 7 _ rfl
    have z8 : (w3.alloc (.cells #[.int .i64 0, .int .i64 (t.writes.length : Int), .int .i64 s.id, .bool s.up, .int .i64 s.epoch, .int .i64 s.lease, .slice a3 s.writes.length d3, .int .i64 s.sure, .int .i64 s.clean] 33)).cell? ⟨w3.heap.size, 8, none⟩ = some (.int .i64 s.clean) := (unhide HB3).at 8 _ rfl
    have L4 := implCrashNode _ s 0 _ (unhide HR3)
    rw [(unhide HK).crash] at L4
    have HL4 := hide L4
    clear L4
    go_wp2_with fail
    generalize w3.alloc (.cells #[.int .i64 0, .int .i64 (t.writes.length : Int), .int .i64 s.id, .bool s.up, .int .i64 s.epoch, .int .i64 s.lease, .slice a3 s.writes.length d3, .int .i64 s.sure, .int .i64 s.clean] 33) = W3 at *
    clear z2 z3 z4 z5 z6 z7 z8
    refine (unhide HL4).mono ?_
    rintro e w4 ⟨cs, rfl, O, hb4⟩
    obtain ⟨a4, d4, rfl, R4⟩ := open_NodeResult O.reads
    replace R4 : Lay.tNode.Reads w4 [.int .i64 c.id, .bool c.up, .int .i64 c.epoch, .int .i64 c.lease, .slice a4 c.writes.length d4, .int .i64 c.sure, .int .i64 c.clean] c := R4
    simp only at ⊢
    clear O HL4
    have nb4 : Below w4.heap.size w4 (w4.alloc (.cells #[.int .i64 0, .int .i64 0, .int .i64 c.id, .bool c.up, .int .i64 c.epoch, .int .i64 c.lease, .slice a4 c.writes.length d4, .int .i64 c.sure, .int .i64 c.clean] 33)) := (Below.refl _ _).alloc (Nat.le_refl _) _
    replace HX3 := hide (((unhide HX3).keep hb4).keep nb4)
    replace HY3 := hide (((unhide HY3).keep hb4).keep nb4)
    replace HB2 := hide (((unhide HB2).keep hb4).keep nb4)
    replace HB3 := hide (((unhide HB3).keep hb4).keep nb4)
    replace HRX := hide (((unhide HRX).later hb4).later nb4)
    replace HRW := hide (((unhide HRW).later hb4).later nb4)
    replace HRY := hide (((unhide HRY).later hb4).later nb4)
    replace HE := hide (((unhide HE).later hb4).later nb4)
    replace HR2 := hide (((unhide HR2).later hb4).later nb4)
    replace HR3 := hide (((unhide HR3).later hb4).later nb4)
    have HB4 : Hid (Box 0 #[.int .i64 0, .int .i64 0, .int .i64 c.id, .bool c.up, .int .i64 c.epoch, .int .i64 c.lease, .slice a4 c.writes.length d4, .int .i64 c.sure, .int .i64 c.clean] 33 (w4.alloc (.cells #[.int .i64 0, .int .i64 0, .int .i64 c.id, .bool c.up, .int .i64 c.epoch, .int .i64 c.lease, .slice a4 c.writes.length d4, .int .i64 c.sure, .int .i64 c.clean] 33)) w4.heap.size) := newBox (Nat.zero_le _)
    have HR4 := hide (R4.later nb4)
    replace HB := hide (((unhide HB).trans (hb4.mono (unhide HB).size)).trans (nb4.mono (Nat.le_trans (unhide HB).size hb4.size)))
    clear R4 nb4 hb4
    have z2 : (w4.alloc (.cells #[.int .i64 0, .int .i64 0, .int .i64 c.id, .bool c.up, .int .i64 c.epoch, .int .i64 c.lease, .slice a4 c.writes.length d4, .int .i64 c.sure, .int .i64 c.clean] 33)).cell? ⟨w2.heap.size, 2, none⟩ = some (.int .i64 t.id) := (unhide HB2).at 2 _ rfl
    have z3 : (w4.alloc (.cells #[.int .i64 0, .int .i64 0, .int .i64 c.id, .bool c.up, .int .i64 c.epoch, .int .i64 c.lease, .slice a4 c.writes.length d4, .int .i64 c.sure, .int .i64 c.clean] 33)).cell? ⟨w2.heap.size, 3, none⟩ = some (.bool t.up) := (unhide HB2).at 3 _ rfl
    have z4 : (w4.alloc (.cells #[.int .i64 0, .int .i64 0, .int .i64 c.id, .bool c.up, .int .i64 c.epoch, .int .i64 c.lease, .slice a4 c.writes.length d4, .int .i64 c.sure, .int .i64 c.clean] 33)).cell? ⟨w2.heap.size, 4, none⟩ = some (.int .i64 t.epoch) := (unhide HB2).at 4 _ rfl
    have z5 : (w4.alloc (.cells #[.int .i64 0, .int .i64 0, .int .i64 c.id, .bool c.up, .int .i64 c.epoch, .int .i64 c.lease, .slice a4 c.writes.length d4, .int .i64 c.sure, .int .i64 c.clean] 33)).cell? ⟨w2.heap.size, 5, none⟩ = some (.int .i64 t.lease) := (unhide HB2).at 5 _ rfl
    have z6 : (w4.alloc (.cells #[.int .i64 0, .int .i64 0, .int .i64 c.id, .bool c.up, .int .i64 c.epoch, .int .i64 c.lease, .slice a4 c.writes.length d4, .int .i64 c.sure, .int .i64 c.clean] 33)).cell? ⟨w2.heap.size, 6, none⟩ = some (.slice a2 t.writes.length d2) := (unhide HB2).at 6 _ rfl
    have z7 : (w4.alloc (.cells #[.int .i64 0, .int .i64 0, .int .i64 c.id, .bool c.up, .int .i64 c.epoch, .int .i64 c.lease, .slice a4 c.writes.length d4, .int .i64 c.sure, .int .i64 c.clean] 33)).cell? ⟨w2.heap.size, 7, none⟩ = some (.int .i64 t.sure) := (unhide HB2).at 7 _ rfl
    have z8 : (w4.alloc (.cells #[.int .i64 0, .int .i64 0, .int .i64 c.id, .bool c.up, .int .i64 c.epoch, .int .i64 c.lease, .slice a4 c.writes.length d4, .int .i64 c.sure, .int .i64 c.clean] 33)).cell? ⟨w2.heap.size, 8, none⟩ = some (.int .i64 t.clean) := (unhide HB2).at 8 _ rfl
    have L5 := implCrashNode _ t 0 _ (unhide HR2)
    rw [(unhide HK).dcrash] at L5
    have HL5 := hide L5
    clear L5
    go_wp2_with fail
    generalize w4.alloc (.cells #[.int .i64 0, .int .i64 0, .int .i64 c.id, .bool c.up, .int .i64 c.epoch, .int .i64 c.lease, .slice a4 c.writes.length d4, .int .i64 c.sure, .int .i64 c.clean] 33) = W4 at *
    clear z2 z3 z4 z5 z6 z7 z8
    refine (unhide HL5).mono ?_
    rintro e w5 ⟨cs, rfl, O, hb5⟩
    obtain ⟨a5, d5, rfl, R5⟩ := open_NodeResult O.reads
    replace R5 : Lay.tNode.Reads w5 [.int .i64 d.id, .bool d.up, .int .i64 d.epoch, .int .i64 d.lease, .slice a5 d.writes.length d5, .int .i64 d.sure, .int .i64 d.clean] d := R5
    simp only at ⊢
    clear O HL5
    have nb5 : Below w5.heap.size w5 (w5.alloc (.cells #[.int .i64 0, .int .i64 0, .int .i64 d.id, .bool d.up, .int .i64 d.epoch, .int .i64 d.lease, .slice a5 d.writes.length d5, .int .i64 d.sure, .int .i64 d.clean] 33)) := (Below.refl _ _).alloc (Nat.le_refl _) _
    replace HX3 := hide (((unhide HX3).keep hb5).keep nb5)
    replace HY3 := hide (((unhide HY3).keep hb5).keep nb5)
    replace HB2 := hide (((unhide HB2).keep hb5).keep nb5)
    replace HB3 := hide (((unhide HB3).keep hb5).keep nb5)
    replace HB4 := hide (((unhide HB4).keep hb5).keep nb5)
    replace HRX := hide (((unhide HRX).later hb5).later nb5)
    replace HRW := hide (((unhide HRW).later hb5).later nb5)
    replace HRY := hide (((unhide HRY).later hb5).later nb5)
    replace HE := hide (((unhide HE).later hb5).later nb5)
    replace HR2 := hide (((unhide HR2).later hb5).later nb5)
    replace HR3 := hide (((unhide HR3).later hb5).later nb5)
    replace HR4 := hide (((unhide HR4).later hb5).later nb5)
    have HB5 : Hid (Box 0 #[.int .i64 0, .int .i64 0, .int .i64 d.id, .bool d.up, .int .i64 d.epoch, .int .i64 d.lease, .slice a5 d.writes.length d5, .int .i64 d.sure, .int .i64 d.clean] 33 (w5.alloc (.cells #[.int .i64 0, .int .i64 0, .int .i64 d.id, .bool d.up, .int .i64 d.epoch, .int .i64 d.lease, .slice a5 d.writes.length d5, .int .i64 d.sure, .int .i64 d.clean] 33)) w5.heap.size) := newBox (Nat.zero_le _)
    have HR5 := hide (R5.later nb5)
    replace HB := hide (((unhide HB).trans (hb5.mono (unhide HB).size)).trans (nb5.mono (Nat.le_trans (unhide HB).size hb5.size)))
    clear R5 nb5 hb5
    go_wp2_with fail
    generalize w5.alloc (.cells #[.int .i64 0, .int .i64 0, .int .i64 d.id, .bool d.up, .int .i64 d.epoch, .int .i64 d.lease, .slice a5 d.writes.length d5, .int .i64 d.sure, .int .i64 d.clean] 33) = wz at *
    have KEEP : Hid (∀ W, Below wz.heap.size wz W → W.cell? ⟨w1.heap.size, 4, none⟩ = some (.slice a8 x.writes.length c8) ∧ W.cell? ⟨w1.heap.size, 5, none⟩ = some (.int .i64 (k : Int)) ∧ W.cell? ⟨w1.heap.size + 1, 0, none⟩ = some (.int .i64 y.kind) ∧ W.cell? ⟨w1.heap.size + 1, 1, none⟩ = some (.int .i64 y.id) ∧ W.cell? ⟨w1.heap.size + 1, 2, none⟩ = some (.slice a7 y.vec.length c7) ∧ W.cell? ⟨w1.heap.size + 1, 3, none⟩ = some (.int .i64 y.session) ∧ W.cell? ⟨w1.heap.size + 1, 4, none⟩ = some (.int .i64 y.seq) ∧ W.cell? ⟨w2.heap.size, 1, none⟩ = some (.int .i64 at_) ∧ W.cell? ⟨w2.heap.size, 2, none⟩ = some (.int .i64 t.id) ∧ W.cell? ⟨w2.heap.size, 3, none⟩ = some (.bool t.up) ∧ W.cell? ⟨w2.heap.size, 4, none⟩ = some (.int .i64 t.epoch) ∧ W.cell? ⟨w2.heap.size, 5, none⟩ = some (.int .i64 t.lease) ∧ W.cell? ⟨w2.heap.size, 6, none⟩ = some (.slice a2 t.writes.length d2) ∧ W.cell? ⟨w2.heap.size, 7, none⟩ = some (.int .i64 t.sure) ∧ W.cell? ⟨w2.heap.size, 8, none⟩ = some (.int .i64 t.clean) ∧ W.cell? ⟨w3.heap.size, 0, none⟩ = some (.int .i64 0) ∧ W.cell? ⟨w3.heap.size, 1, none⟩ = some (.int .i64 (t.writes.length : Int)) ∧ W.cell? ⟨w4.heap.size, 0, none⟩ = some (.int .i64 0) ∧ W.cell? ⟨w4.heap.size, 2, none⟩ = some (.int .i64 c.id) ∧ W.cell? ⟨w4.heap.size, 3, none⟩ = some (.bool c.up) ∧ W.cell? ⟨w4.heap.size, 4, none⟩ = some (.int .i64 c.epoch) ∧ W.cell? ⟨w4.heap.size, 5, none⟩ = some (.int .i64 c.lease) ∧ W.cell? ⟨w4.heap.size, 6, none⟩ = some (.slice a4 c.writes.length d4) ∧ W.cell? ⟨w4.heap.size, 7, none⟩ = some (.int .i64 c.sure) ∧ W.cell? ⟨w4.heap.size, 8, none⟩ = some (.int .i64 c.clean) ∧ W.cell? ⟨w5.heap.size, 0, none⟩ = some (.int .i64 0) ∧ W.cell? ⟨w5.heap.size, 6, none⟩ = some (.slice a5 d.writes.length d5)) := fun W hW =>
      ⟨((unhide HX3).keep hW).at 4 _ rfl, ((unhide HX3).keep hW).at 5 _ rfl, ((unhide HY3).keep hW).at 0 _ rfl, ((unhide HY3).keep hW).at 1 _ rfl, ((unhide HY3).keep hW).at 2 _ rfl, ((unhide HY3).keep hW).at 3 _ rfl, ((unhide HY3).keep hW).at 4 _ rfl, ((unhide HB2).keep hW).at 1 _ rfl, ((unhide HB2).keep hW).at 2 _ rfl, ((unhide HB2).keep hW).at 3 _ rfl, ((unhide HB2).keep hW).at 4 _ rfl, ((unhide HB2).keep hW).at 5 _ rfl, ((unhide HB2).keep hW).at 6 _ rfl, ((unhide HB2).keep hW).at 7 _ rfl, ((unhide HB2).keep hW).at 8 _ rfl, ((unhide HB3).keep hW).at 0 _ rfl, ((unhide HB3).keep hW).at 1 _ rfl, ((unhide HB4).keep hW).at 0 _ rfl, ((unhide HB4).keep hW).at 2 _ rfl, ((unhide HB4).keep hW).at 3 _ rfl, ((unhide HB4).keep hW).at 4 _ rfl, ((unhide HB4).keep hW).at 5 _ rfl, ((unhide HB4).keep hW).at 6 _ rfl, ((unhide HB4).keep hW).at 7 _ rfl, ((unhide HB4).keep hW).at 8 _ rfl, ((unhide HB5).keep hW).at 0 _ rfl, ((unhide HB5).keep hW).at 6 _ rfl⟩
    have LF1 : Hid (∀ W, Below wz.heap.size wz W → Calls Tryz.prog 10 #[.agg #[.int .i64 t.id, .bool t.up, .int .i64 t.epoch, .int .i64 t.lease, .slice a2 t.writes.length d2, .int .i64 t.sure, .int .i64 t.clean]] W fun e w' => e = .returned (.int .i64 0) ∧ Below W.heap.size W w') := fun W hW => by
      have h9 := implNodeFault _ t W ((unhide HR2).later hW)
      rwa [(unhide HK).ok] at h9
    have LF2 : Hid (∀ W, Below wz.heap.size wz W → Calls Tryz.prog 10 #[.agg #[.int .i64 c.id, .bool c.up, .int .i64 c.epoch, .int .i64 c.lease, .slice a4 c.writes.length d4, .int .i64 c.sure, .int .i64 c.clean]] W fun e w' => e = .returned (.int .i64 0) ∧ Below W.heap.size W w') := fun W hW => by
      have h9 := implNodeFault _ c W ((unhide HR4).later hW)
      rwa [(unhide HK).cok] at h9
    have HWT : Hid (∀ W, Below wz.heap.size wz W → (Lay.sl Lay.tWrite).Reads W [.slice a2 t.writes.length d2] t.writes) := fun W hW => by
      obtain ⟨a6, d6, e6, R6⟩ := open_Node ((unhide HR2).later hW)
      simp only [List.cons.injEq, Value.slice.injEq, true_and, and_true] at e6
      obtain ⟨rfl, rfl⟩ := e6
      exact R6
    have HWC : Hid (∀ W, Below wz.heap.size wz W → (Lay.sl Lay.tWrite).Reads W [.slice a4 c.writes.length d4] c.writes) := fun W hW => by
      obtain ⟨a6, d6, e6, R6⟩ := open_Node ((unhide HR4).later hW)
      simp only [List.cons.injEq, Value.slice.injEq, true_and, and_true] at e6
      obtain ⟨rfl, rfl⟩ := e6
      exact R6
    have HWD : Hid (∀ W, Below wz.heap.size wz W → (Lay.sl Lay.tWrite).Reads W [.slice a5 d.writes.length d5] d.writes) := fun W hW => by
      obtain ⟨a6, d6, e6, R6⟩ := open_Node ((unhide HR5).later hW)
      simp only [List.cons.injEq, Value.slice.injEq, true_and, and_true] at e6
      obtain ⟨rfl, rfl⟩ := e6
      exact R6
    have LS1 : Hid (∀ W, Below wz.heap.size wz W → Calls Tryz.prog 11 #[.slice a4 c.writes.length d4, .slice a2 t.writes.length d2] W fun e w' => e = .returned (.bool true) ∧ Below W.heap.size W w') := fun W hW => by
      have h9 := implSame _ _ c.writes t.writes W (unhide HWC W hW) (unhide HWT W hW)
      rwa [show sameWs c.writes t.writes = true by rw [(unhide HK).cw]; exact same_self9 _] at h9
    have LS2 : Hid (∀ W, Below wz.heap.size wz W → Calls Tryz.prog 11 #[.slice a5 d.writes.length d5, .slice a8 k c8] W fun e w' => e = .returned (.bool true) ∧ Below W.heap.size W w') := fun W hW => by
      have h9 := implSame _ _ d.writes (x.writes.take k) W (unhide HWD W hW) (sl_prefixN ((unhide HRW).later hW) hkl)
      rwa [show sameWs d.writes (x.writes.take k) = true by rw [unhide HDW]; exact same_self9 _] at h9

    have LA : Hid (∀ W, Below wz.heap.size wz W → Calls Tryz.prog 12 #[.slice a2 t.writes.length d2, .int .i64 y.session, .int .i64 y.seq] W fun e w' => e = .returned (.agg #[.int .i64 0, .int .i64 at_]) ∧ Below W.heap.size W w') := fun W hW => by
      have h9 := implSeenAt _ t.writes y.session y.seq W (unhide HWT W hW)
      rw [(unhide HK).seen] at h9
      refine h9.mono ?_
      rintro e w' ⟨cs, rfl, O, hb⟩
      obtain ⟨bl4, hl4⟩ := O.reads
      obtain ⟨rfl, -, -, -⟩ := lies_IntResult.1 hl4
      exact ⟨rfl, hb⟩
    have LT : Hid (∀ W, Below wz.heap.size wz W → Calls Tryz.prog 6 #[.agg #[.int .i64 c.id, .bool c.up, .int .i64 c.epoch, .int .i64 c.lease, .slice a4 c.writes.length d4, .int .i64 c.sure, .int .i64 c.clean], .agg #[.int .i64 y.kind, .int .i64 y.id, .slice a7 y.vec.length c7, .int .i64 y.session, .int .i64 y.seq]] W fun e w' => ∃ (n0 i0 : Int) (u0 : Bool) (e0 l0 : Int) (a0 : Option Addr) (m0 d0 : Nat) (s0 k0 : Int), e = .returned (.agg #[.int .i64 10, .int .i64 n0, .int .i64 i0, .bool u0, .int .i64 e0, .int .i64 l0, .slice a0 m0 d0, .int .i64 s0, .int .i64 k0]) ∧ Below W.heap.size W w') := fun W hW => by
      have h9 := implTakeWrite _ c _ y W ((unhide HE).later hW) ((unhide HR4).later hW) ((unhide HRY).later hW)
      rw [(unhide HK).down] at h9
      refine h9.mono ?_
      rintro e w' ⟨cs, rfl, O, hb⟩
      obtain ⟨b1, k1, rfl, -⟩ := open_NodeResult O.reads
      exact ⟨_, _, _, _, _, b1, _, k1, _, _, rfl, hb⟩
    have hcap : x.writes.length ≤ c8 := (unhide HRW).cap.2
    have i0 : k ≤ c8 := by omega
    have e0 : ((0 : Int) == 0) = true := by decide
    have e1 : ((t.writes.length : Int) == (t.writes.length : Int)) = true := by simp
    have e2 : (at_ == at_) = true := by simp
    have e3 : ((10 : Int) == 10) = true := by decide
    have hf1 := fun w => fieldIR9 0 at_ w
    have hfl := fun n0 i0 u0 e0 l0 a0 m0 d0 s0 k0 w => fieldNN0 10 n0 i0 u0 e0 l0 a0 m0 d0 s0 k0 w
    clear HX3 HY3 HB2 HB3 HB4 HB5 HRX HRW HRY HE HR2 HR3 HR4 HR5 HK HDW hcap HWT HWC HWD
    refine wp_region_noPanic ?_
    refine wp_region_held_drew (S := fun w' => Below wz.heap.size wz w') (by kernel_rfl) (Below.refl _ _).drew (fun hHeld => ?_)
    generalize wz.drew = wD at hHeld ⊢
    refine wpAnyH_take (i := 0) (oi := { dst := some 38, op := Go.Op.fieldAddr 33 (Go.Operand.tmp 5) 2, type := 0, pos := "laws.go:403", after := #[], guard := none }) (v := ?vp0_1) rfl (by kernel_rfl) (by kernel_rfl) (by kernel_rfl) (fun _ _ _ h => h) (Or.inl ⟨by rfl, ?hp0_1⟩) hHeld ?rp0_1
    case hp0_1 =>
      intro wS hSw
      (try dsimp only at hSw)
      go_simp
      try with_reducible rfl
    case rp0_1 =>
    simp only [Act.put, List.setIfInBounds_toArray, List.set_cons_zero, List.set_cons_succ]
    refine wpAnyH_take (i := 1) (oi := { dst := some 39, op := Go.Op.load 26 (Go.Operand.tmp 38), type := 26, pos := "laws.go:403", after := #[{ on := 0, ground := Go.Ground.data }], guard := none }) (v := ?vp1_2) rfl (by kernel_rfl) (by kernel_rfl) (by kernel_rfl) (fun _ _ _ h => h) (Or.inl ⟨by rfl, ?hp1_2⟩) hHeld ?rp1_2
    case hp1_2 =>
      intro wS hSw
      obtain ⟨yx4, yx5, yv0, yv1, yv2, yv3, yv4, yt1, yt2, yt3, yt4, yt5, yt6, yt7, yt8, ys0, ys1, yc0, yc2, yc3, yc4, yc5, yc6, yc7, yc8, yd0, yd6⟩ := unhide KEEP _ hSw
      clear hSw
      (try dsimp only at hSw)
      go_simp
      try with_reducible rfl
    case rp1_2 =>
    simp only [Act.put, List.setIfInBounds_toArray, List.set_cons_zero, List.set_cons_succ]
    refine wpAnyH_ready (rs := [2]) (by kernel_rfl) (by simp) ?_
    refine AllReadyH.cons (o := { dst := some 40, op := Go.Op.call { callee := Go.Callee.value (Go.Operand.func 10), args := #[Go.Operand.tmp 39], argTypes := #[26] }, type := 2, pos := "laws.go:403", after := #[{ on := 1, ground := Go.Ground.data }], guard := none }) rfl (fun K hK => ?_) AllReadyH.nil
    go_simp
    go_at_call 10
    refine (unhide LF1 _ hHeld).mono ?_
    rintro e v1 ⟨rfl, hbw⟩
    try go_wp2_with fail
    refine hK.out _ _ (hHeld.trans (hbw.mono hHeld.size)) (fun hHeld => ?_)
    clear hK K
    try simp only [Act.put, List.setIfInBounds_toArray, List.set_cons_zero, List.set_cons_succ]
    refine wpAnyH_take (i := 3) (oi := { dst := some 41, op := Go.Op.binOp Go.BinOp.eql 2 (Go.Operand.tmp 40) (Go.Operand.const (Go.Value.int Go.IntKind.i64 0)) 2, type := 4, pos := "laws.go:403", after := #[{ on := 2, ground := Go.Ground.data }], guard := none }) (v := ?vp3_3) rfl (by kernel_rfl) (by kernel_rfl) (by kernel_rfl) (fun _ _ _ h => h) (Or.inl ⟨by rfl, ?hp3_3⟩) hHeld ?rp3_3
    case hp3_3 =>
      intro wS hSw
      (try dsimp only at hSw)
      go_simp
      try with_reducible rfl
    case rp3_3 =>
    simp only [Act.put, List.setIfInBounds_toArray, List.set_cons_zero, List.set_cons_succ]
    refine wpAnyH_take (i := 4) (oi := { dst := some 42, op := Go.Op.move (Go.Operand.tmp 41), type := 4, pos := "laws.go:403", after := #[{ on := 3, ground := Go.Ground.data }, { on := 2, ground := Go.Ground.chain }], guard := none }) (v := ?vp4_4) rfl (by kernel_rfl) (by kernel_rfl) (by kernel_rfl) (fun _ _ _ h => h) (Or.inl ⟨by rfl, ?hp4_4⟩) hHeld ?rp4_4
    case hp4_4 =>
      intro wS hSw
      (try dsimp only at hSw)
      go_simp
      try with_reducible rfl
    case rp4_4 =>
    simp only [Act.put, List.setIfInBounds_toArray, List.set_cons_zero, List.set_cons_succ]
    refine wpAnyH_take (i := 5) (oi := { dst := some 43, op := Go.Op.fieldAddr 33 (Go.Operand.tmp 6) 0, type := 0, pos := "laws.go:403", after := #[{ on := 4, ground := Go.Ground.guard }], guard := some (4, true) }) (v := ?vp5_5) rfl (by kernel_rfl) (by kernel_rfl) (by kernel_rfl) (fun _ _ _ h => h) (Or.inl ⟨by rfl, ?hp5_5⟩) hHeld ?rp5_5
    case hp5_5 =>
      intro wS hSw
      (try dsimp only at hSw)
      go_simp
      try with_reducible rfl
    case rp5_5 =>
    simp only [Act.put, List.setIfInBounds_toArray, List.set_cons_zero, List.set_cons_succ]
    refine wpAnyH_take (i := 6) (oi := { dst := some 44, op := Go.Op.load 2 (Go.Operand.tmp 43), type := 2, pos := "laws.go:403", after := #[{ on := 5, ground := Go.Ground.data }, { on := 4, ground := Go.Ground.guard }], guard := some (4, true) }) (v := ?vp6_6) rfl (by kernel_rfl) (by kernel_rfl) (by kernel_rfl) (fun _ _ _ h => h) (Or.inl ⟨by rfl, ?hp6_6⟩) hHeld ?rp6_6
    case hp6_6 =>
      intro wS hSw
      obtain ⟨yx4, yx5, yv0, yv1, yv2, yv3, yv4, yt1, yt2, yt3, yt4, yt5, yt6, yt7, yt8, ys0, ys1, yc0, yc2, yc3, yc4, yc5, yc6, yc7, yc8, yd0, yd6⟩ := unhide KEEP _ hSw
      clear hSw
      (try dsimp only at hSw)
      go_simp
      try with_reducible rfl
    case rp6_6 =>
    simp only [Act.put, List.setIfInBounds_toArray, List.set_cons_zero, List.set_cons_succ]
    refine wpAnyH_take (i := 7) (oi := { dst := some 45, op := Go.Op.binOp Go.BinOp.eql 2 (Go.Operand.tmp 44) (Go.Operand.const (Go.Value.int Go.IntKind.i64 0)) 2, type := 4, pos := "laws.go:403", after := #[{ on := 6, ground := Go.Ground.data }, { on := 4, ground := Go.Ground.guard }], guard := some (4, true) }) (v := ?vp7_7) rfl (by kernel_rfl) (by kernel_rfl) (by kernel_rfl) (fun _ _ _ h => h) (Or.inl ⟨by rfl, ?hp7_7⟩) hHeld ?rp7_7
    case hp7_7 =>
      intro wS hSw
      (try dsimp only at hSw)
      go_simp
      try with_reducible rfl
    case rp7_7 =>
    simp only [Act.put, List.setIfInBounds_toArray, List.set_cons_zero, List.set_cons_succ]
    refine wpAnyH_take (i := 8) (oi := { dst := some 46, op := Go.Op.pick (Go.Operand.tmp 42) (Go.Operand.tmp 45) (Go.Operand.const (Go.Value.bool false)), type := 4, pos := "laws.go:403", after := #[{ on := 4, ground := Go.Ground.data }, { on := 7, ground := Go.Ground.data }], guard := none }) (v := ?vp8_8) rfl (by kernel_rfl) (by kernel_rfl) (by kernel_rfl) (fun _ _ _ h => h) (Or.inl ⟨by rfl, ?hp8_8⟩) hHeld ?rp8_8
    case hp8_8 =>
      intro wS hSw
      (try dsimp only at hSw)
      go_simp
      try with_reducible rfl
    case rp8_8 =>
    simp only [Act.put, List.setIfInBounds_toArray, List.set_cons_zero, List.set_cons_succ]
    refine wpAnyH_take (i := 9) (oi := { dst := some 47, op := Go.Op.move (Go.Operand.tmp 46), type := 4, pos := "laws.go:403", after := #[{ on := 8, ground := Go.Ground.data }, { on := 4, ground := Go.Ground.chain }], guard := none }) (v := ?vp9_9) rfl (by kernel_rfl) (by kernel_rfl) (by kernel_rfl) (fun _ _ _ h => h) (Or.inl ⟨by rfl, ?hp9_9⟩) hHeld ?rp9_9
    case hp9_9 =>
      intro wS hSw
      (try dsimp only at hSw)
      go_simp
      try with_reducible rfl
    case rp9_9 =>
    simp only [Act.put, List.setIfInBounds_toArray, List.set_cons_zero, List.set_cons_succ]
    refine wpAnyH_take (i := 10) (oi := { dst := some 48, op := Go.Op.fieldAddr 33 (Go.Operand.tmp 6) 1, type := 0, pos := "laws.go:403", after := #[{ on := 9, ground := Go.Ground.guard }], guard := some (9, true) }) (v := ?vp10_10) rfl (by kernel_rfl) (by kernel_rfl) (by kernel_rfl) (fun _ _ _ h => h) (Or.inl ⟨by rfl, ?hp10_10⟩) hHeld ?rp10_10
    case hp10_10 =>
      intro wS hSw
      (try dsimp only at hSw)
      go_simp
      try with_reducible rfl
    case rp10_10 =>
    simp only [Act.put, List.setIfInBounds_toArray, List.set_cons_zero, List.set_cons_succ]
    refine wpAnyH_take (i := 11) (oi := { dst := some 49, op := Go.Op.load 2 (Go.Operand.tmp 48), type := 2, pos := "laws.go:403", after := #[{ on := 10, ground := Go.Ground.data }, { on := 9, ground := Go.Ground.guard }], guard := some (9, true) }) (v := ?vp11_11) rfl (by kernel_rfl) (by kernel_rfl) (by kernel_rfl) (fun _ _ _ h => h) (Or.inl ⟨by rfl, ?hp11_11⟩) hHeld ?rp11_11
    case hp11_11 =>
      intro wS hSw
      obtain ⟨yx4, yx5, yv0, yv1, yv2, yv3, yv4, yt1, yt2, yt3, yt4, yt5, yt6, yt7, yt8, ys0, ys1, yc0, yc2, yc3, yc4, yc5, yc6, yc7, yc8, yd0, yd6⟩ := unhide KEEP _ hSw
      clear hSw
      (try dsimp only at hSw)
      go_simp
      try with_reducible rfl
    case rp11_11 =>
    simp only [Act.put, List.setIfInBounds_toArray, List.set_cons_zero, List.set_cons_succ]
    refine wpAnyH_take (i := 12) (oi := { dst := some 50, op := Go.Op.fieldAddr 33 (Go.Operand.tmp 5) 2, type := 0, pos := "laws.go:403", after := #[{ on := 9, ground := Go.Ground.guard }], guard := some (9, true) }) (v := ?vp12_12) rfl (by kernel_rfl) (by kernel_rfl) (by kernel_rfl) (fun _ _ _ h => h) (Or.inl ⟨by rfl, ?hp12_12⟩) hHeld ?rp12_12
    case hp12_12 =>
      intro wS hSw
      (try dsimp only at hSw)
      go_simp
      try with_reducible rfl
    case rp12_12 =>
    simp only [Act.put, List.setIfInBounds_toArray, List.set_cons_zero, List.set_cons_succ]
    refine wpAnyH_take (i := 13) (oi := { dst := some 51, op := Go.Op.fieldAddr 26 (Go.Operand.tmp 50) 4, type := 0, pos := "laws.go:403", after := #[{ on := 12, ground := Go.Ground.data }, { on := 9, ground := Go.Ground.guard }], guard := some (9, true) }) (v := ?vp13_13) rfl (by kernel_rfl) (by kernel_rfl) (by kernel_rfl) (fun _ _ _ h => h) (Or.inl ⟨by rfl, ?hp13_13⟩) hHeld ?rp13_13
    case hp13_13 =>
      intro wS hSw
      (try dsimp only at hSw)
      go_simp
      try with_reducible rfl
    case rp13_13 =>
    simp only [Act.put, List.setIfInBounds_toArray, List.set_cons_zero, List.set_cons_succ]
    refine wpAnyH_take (i := 14) (oi := { dst := some 52, op := Go.Op.load 24 (Go.Operand.tmp 51), type := 24, pos := "laws.go:403", after := #[{ on := 13, ground := Go.Ground.data }, { on := 9, ground := Go.Ground.guard }], guard := some (9, true) }) (v := ?vp14_14) rfl (by kernel_rfl) (by kernel_rfl) (by kernel_rfl) (fun _ _ _ h => h) (Or.inl ⟨by rfl, ?hp14_14⟩) hHeld ?rp14_14
    case hp14_14 =>
      intro wS hSw
      obtain ⟨yx4, yx5, yv0, yv1, yv2, yv3, yv4, yt1, yt2, yt3, yt4, yt5, yt6, yt7, yt8, ys0, ys1, yc0, yc2, yc3, yc4, yc5, yc6, yc7, yc8, yd0, yd6⟩ := unhide KEEP _ hSw
      clear hSw
      (try dsimp only at hSw)
      go_simp
      try with_reducible rfl
    case rp14_14 =>
    simp only [Act.put, List.setIfInBounds_toArray, List.set_cons_zero, List.set_cons_succ]
    refine wpAnyH_take (i := 15) (oi := { dst := some 53, op := Go.Op.call { callee := Go.Callee.builtin Go.Builtin.len, args := #[Go.Operand.tmp 52], argTypes := #[24] }, type := 3, pos := "laws.go:403", after := #[{ on := 14, ground := Go.Ground.data }, { on := 9, ground := Go.Ground.guard }], guard := some (9, true) }) (v := ?vp15_15) rfl (by kernel_rfl) (by kernel_rfl) (by kernel_rfl) (fun _ _ _ h => h) (Or.inl ⟨by rfl, ?hp15_15⟩) hHeld ?rp15_15
    case hp15_15 =>
      intro wS hSw
      (try dsimp only at hSw)
      go_simp
      try with_reducible rfl
    case rp15_15 =>
    simp only [Act.put, List.setIfInBounds_toArray, List.set_cons_zero, List.set_cons_succ]
    refine wpAnyH_take (i := 16) (oi := { dst := some 54, op := Go.Op.binOp Go.BinOp.eql 2 (Go.Operand.tmp 49) (Go.Operand.tmp 53) 2, type := 4, pos := "laws.go:403", after := #[{ on := 11, ground := Go.Ground.data }, { on := 15, ground := Go.Ground.data }, { on := 9, ground := Go.Ground.guard }], guard := some (9, true) }) (v := ?vp16_16) rfl (by kernel_rfl) (by kernel_rfl) (by kernel_rfl) (fun _ _ _ h => h) (Or.inl ⟨by rfl, ?hp16_16⟩) hHeld ?rp16_16
    case hp16_16 =>
      intro wS hSw
      (try dsimp only at hSw)
      go_simp
      try with_reducible rfl
    case rp16_16 =>
    simp only [Act.put, List.setIfInBounds_toArray, List.set_cons_zero, List.set_cons_succ]
    refine wpAnyH_take (i := 17) (oi := { dst := some 55, op := Go.Op.pick (Go.Operand.tmp 47) (Go.Operand.tmp 54) (Go.Operand.const (Go.Value.bool false)), type := 4, pos := "laws.go:403", after := #[{ on := 9, ground := Go.Ground.data }, { on := 16, ground := Go.Ground.data }], guard := none }) (v := ?vp17_17) rfl (by kernel_rfl) (by kernel_rfl) (by kernel_rfl) (fun _ _ _ h => h) (Or.inl ⟨by rfl, ?hp17_17⟩) hHeld ?rp17_17
    case hp17_17 =>
      intro wS hSw
      (try dsimp only at hSw)
      go_simp
      try with_reducible rfl
    case rp17_17 =>
    simp only [Act.put, List.setIfInBounds_toArray, List.set_cons_zero, List.set_cons_succ]
    refine wpAnyH_take (i := 18) (oi := { dst := some 56, op := Go.Op.move (Go.Operand.tmp 55), type := 4, pos := "laws.go:403", after := #[{ on := 17, ground := Go.Ground.data }, { on := 9, ground := Go.Ground.chain }], guard := none }) (v := ?vp18_18) rfl (by kernel_rfl) (by kernel_rfl) (by kernel_rfl) (fun _ _ _ h => h) (Or.inl ⟨by rfl, ?hp18_18⟩) hHeld ?rp18_18
    case hp18_18 =>
      intro wS hSw
      (try dsimp only at hSw)
      go_simp
      try with_reducible rfl
    case rp18_18 =>
    simp only [Act.put, List.setIfInBounds_toArray, List.set_cons_zero, List.set_cons_succ]
    refine wpAnyH_take (i := 19) (oi := { dst := some 57, op := Go.Op.fieldAddr 33 (Go.Operand.tmp 7) 0, type := 0, pos := "laws.go:403", after := #[{ on := 18, ground := Go.Ground.guard }], guard := some (18, true) }) (v := ?vp19_19) rfl (by kernel_rfl) (by kernel_rfl) (by kernel_rfl) (fun _ _ _ h => h) (Or.inl ⟨by rfl, ?hp19_19⟩) hHeld ?rp19_19
    case hp19_19 =>
      intro wS hSw
      (try dsimp only at hSw)
      go_simp
      try with_reducible rfl
    case rp19_19 =>
    simp only [Act.put, List.setIfInBounds_toArray, List.set_cons_zero, List.set_cons_succ]
    refine wpAnyH_take (i := 20) (oi := { dst := some 58, op := Go.Op.load 2 (Go.Operand.tmp 57), type := 2, pos := "laws.go:403", after := #[{ on := 19, ground := Go.Ground.data }, { on := 18, ground := Go.Ground.guard }], guard := some (18, true) }) (v := ?vp20_20) rfl (by kernel_rfl) (by kernel_rfl) (by kernel_rfl) (fun _ _ _ h => h) (Or.inl ⟨by rfl, ?hp20_20⟩) hHeld ?rp20_20
    case hp20_20 =>
      intro wS hSw
      obtain ⟨yx4, yx5, yv0, yv1, yv2, yv3, yv4, yt1, yt2, yt3, yt4, yt5, yt6, yt7, yt8, ys0, ys1, yc0, yc2, yc3, yc4, yc5, yc6, yc7, yc8, yd0, yd6⟩ := unhide KEEP _ hSw
      clear hSw
      (try dsimp only at hSw)
      go_simp
      try with_reducible rfl
    case rp20_20 =>
    simp only [Act.put, List.setIfInBounds_toArray, List.set_cons_zero, List.set_cons_succ]
    refine wpAnyH_take (i := 21) (oi := { dst := some 59, op := Go.Op.binOp Go.BinOp.eql 2 (Go.Operand.tmp 58) (Go.Operand.const (Go.Value.int Go.IntKind.i64 0)) 2, type := 4, pos := "laws.go:403", after := #[{ on := 20, ground := Go.Ground.data }, { on := 18, ground := Go.Ground.guard }], guard := some (18, true) }) (v := ?vp21_21) rfl (by kernel_rfl) (by kernel_rfl) (by kernel_rfl) (fun _ _ _ h => h) (Or.inl ⟨by rfl, ?hp21_21⟩) hHeld ?rp21_21
    case hp21_21 =>
      intro wS hSw
      (try dsimp only at hSw)
      go_simp
      try with_reducible rfl
    case rp21_21 =>
    simp only [Act.put, List.setIfInBounds_toArray, List.set_cons_zero, List.set_cons_succ]
    refine wpAnyH_take (i := 22) (oi := { dst := some 60, op := Go.Op.pick (Go.Operand.tmp 56) (Go.Operand.tmp 59) (Go.Operand.const (Go.Value.bool false)), type := 4, pos := "laws.go:403", after := #[{ on := 18, ground := Go.Ground.data }, { on := 21, ground := Go.Ground.data }], guard := none }) (v := ?vp22_22) rfl (by kernel_rfl) (by kernel_rfl) (by kernel_rfl) (fun _ _ _ h => h) (Or.inl ⟨by rfl, ?hp22_22⟩) hHeld ?rp22_22
    case hp22_22 =>
      intro wS hSw
      (try dsimp only at hSw)
      go_simp
      try with_reducible rfl
    case rp22_22 =>
    simp only [Act.put, List.setIfInBounds_toArray, List.set_cons_zero, List.set_cons_succ]
    refine wpAnyH_take (i := 23) (oi := { dst := some 61, op := Go.Op.move (Go.Operand.tmp 60), type := 4, pos := "laws.go:403", after := #[{ on := 22, ground := Go.Ground.data }, { on := 18, ground := Go.Ground.chain }], guard := none }) (v := ?vp23_23) rfl (by kernel_rfl) (by kernel_rfl) (by kernel_rfl) (fun _ _ _ h => h) (Or.inl ⟨by rfl, ?hp23_23⟩) hHeld ?rp23_23
    case hp23_23 =>
      intro wS hSw
      (try dsimp only at hSw)
      go_simp
      try with_reducible rfl
    case rp23_23 =>
    simp only [Act.put, List.setIfInBounds_toArray, List.set_cons_zero, List.set_cons_succ]
    refine wpAnyH_take (i := 24) (oi := { dst := some 62, op := Go.Op.fieldAddr 33 (Go.Operand.tmp 7) 2, type := 0, pos := "laws.go:403", after := #[{ on := 23, ground := Go.Ground.guard }], guard := some (23, true) }) (v := ?vp24_24) rfl (by kernel_rfl) (by kernel_rfl) (by kernel_rfl) (fun _ _ _ h => h) (Or.inl ⟨by rfl, ?hp24_24⟩) hHeld ?rp24_24
    case hp24_24 =>
      intro wS hSw
      (try dsimp only at hSw)
      go_simp
      try with_reducible rfl
    case rp24_24 =>
    simp only [Act.put, List.setIfInBounds_toArray, List.set_cons_zero, List.set_cons_succ]
    refine wpAnyH_take (i := 25) (oi := { dst := some 63, op := Go.Op.fieldAddr 26 (Go.Operand.tmp 62) 4, type := 0, pos := "laws.go:403", after := #[{ on := 24, ground := Go.Ground.data }, { on := 23, ground := Go.Ground.guard }], guard := some (23, true) }) (v := ?vp25_25) rfl (by kernel_rfl) (by kernel_rfl) (by kernel_rfl) (fun _ _ _ h => h) (Or.inl ⟨by rfl, ?hp25_25⟩) hHeld ?rp25_25
    case hp25_25 =>
      intro wS hSw
      (try dsimp only at hSw)
      go_simp
      try with_reducible rfl
    case rp25_25 =>
    simp only [Act.put, List.setIfInBounds_toArray, List.set_cons_zero, List.set_cons_succ]
    refine wpAnyH_take (i := 26) (oi := { dst := some 64, op := Go.Op.load 24 (Go.Operand.tmp 63), type := 24, pos := "laws.go:403", after := #[{ on := 25, ground := Go.Ground.data }, { on := 23, ground := Go.Ground.guard }], guard := some (23, true) }) (v := ?vp26_26) rfl (by kernel_rfl) (by kernel_rfl) (by kernel_rfl) (fun _ _ _ h => h) (Or.inl ⟨by rfl, ?hp26_26⟩) hHeld ?rp26_26
    case hp26_26 =>
      intro wS hSw
      obtain ⟨yx4, yx5, yv0, yv1, yv2, yv3, yv4, yt1, yt2, yt3, yt4, yt5, yt6, yt7, yt8, ys0, ys1, yc0, yc2, yc3, yc4, yc5, yc6, yc7, yc8, yd0, yd6⟩ := unhide KEEP _ hSw
      clear hSw
      (try dsimp only at hSw)
      go_simp
      try with_reducible rfl
    case rp26_26 =>
    simp only [Act.put, List.setIfInBounds_toArray, List.set_cons_zero, List.set_cons_succ]
    refine wpAnyH_take (i := 27) (oi := { dst := some 65, op := Go.Op.fieldAddr 33 (Go.Operand.tmp 5) 2, type := 0, pos := "laws.go:403", after := #[{ on := 23, ground := Go.Ground.guard }], guard := some (23, true) }) (v := ?vp27_27) rfl (by kernel_rfl) (by kernel_rfl) (by kernel_rfl) (fun _ _ _ h => h) (Or.inl ⟨by rfl, ?hp27_27⟩) hHeld ?rp27_27
    case hp27_27 =>
      intro wS hSw
      (try dsimp only at hSw)
      go_simp
      try with_reducible rfl
    case rp27_27 =>
    simp only [Act.put, List.setIfInBounds_toArray, List.set_cons_zero, List.set_cons_succ]
    refine wpAnyH_take (i := 28) (oi := { dst := some 66, op := Go.Op.fieldAddr 26 (Go.Operand.tmp 65) 4, type := 0, pos := "laws.go:403", after := #[{ on := 27, ground := Go.Ground.data }, { on := 23, ground := Go.Ground.guard }], guard := some (23, true) }) (v := ?vp28_28) rfl (by kernel_rfl) (by kernel_rfl) (by kernel_rfl) (fun _ _ _ h => h) (Or.inl ⟨by rfl, ?hp28_28⟩) hHeld ?rp28_28
    case hp28_28 =>
      intro wS hSw
      (try dsimp only at hSw)
      go_simp
      try with_reducible rfl
    case rp28_28 =>
    simp only [Act.put, List.setIfInBounds_toArray, List.set_cons_zero, List.set_cons_succ]
    refine wpAnyH_take (i := 29) (oi := { dst := some 67, op := Go.Op.load 24 (Go.Operand.tmp 66), type := 24, pos := "laws.go:403", after := #[{ on := 28, ground := Go.Ground.data }, { on := 23, ground := Go.Ground.guard }], guard := some (23, true) }) (v := ?vp29_29) rfl (by kernel_rfl) (by kernel_rfl) (by kernel_rfl) (fun _ _ _ h => h) (Or.inl ⟨by rfl, ?hp29_29⟩) hHeld ?rp29_29
    case hp29_29 =>
      intro wS hSw
      obtain ⟨yx4, yx5, yv0, yv1, yv2, yv3, yv4, yt1, yt2, yt3, yt4, yt5, yt6, yt7, yt8, ys0, ys1, yc0, yc2, yc3, yc4, yc5, yc6, yc7, yc8, yd0, yd6⟩ := unhide KEEP _ hSw
      clear hSw
      (try dsimp only at hSw)
      go_simp
      try with_reducible rfl
    case rp29_29 =>
    simp only [Act.put, List.setIfInBounds_toArray, List.set_cons_zero, List.set_cons_succ]
    refine wpAnyH_ready (rs := [30]) (by kernel_rfl) (by simp) ?_
    refine AllReadyH.cons (o := { dst := some 68, op := Go.Op.call { callee := Go.Callee.value (Go.Operand.func 11), args := #[Go.Operand.tmp 64, Go.Operand.tmp 67], argTypes := #[24, 24] }, type := 4, pos := "laws.go:403", after := #[{ on := 26, ground := Go.Ground.data }, { on := 29, ground := Go.Ground.data }, { on := 23, ground := Go.Ground.chain }, { on := 23, ground := Go.Ground.guard }], guard := some (23, true) }) rfl (fun K hK => ?_) AllReadyH.nil
    go_simp
    go_at_call 11
    refine (unhide LS1 _ hHeld).mono ?_
    rintro e v2 ⟨rfl, hbw⟩
    try go_wp2_with fail
    refine hK.out _ _ (hHeld.trans (hbw.mono hHeld.size)) (fun hHeld => ?_)
    clear hK K
    try simp only [Act.put, List.setIfInBounds_toArray, List.set_cons_zero, List.set_cons_succ]
    refine wpAnyH_take (i := 31) (oi := { dst := some 69, op := Go.Op.pick (Go.Operand.tmp 61) (Go.Operand.tmp 68) (Go.Operand.const (Go.Value.bool false)), type := 4, pos := "laws.go:403", after := #[{ on := 23, ground := Go.Ground.data }, { on := 30, ground := Go.Ground.data }], guard := none }) (v := ?vp31_30) rfl (by kernel_rfl) (by kernel_rfl) (by kernel_rfl) (fun _ _ _ h => h) (Or.inl ⟨by rfl, ?hp31_30⟩) hHeld ?rp31_30
    case hp31_30 =>
      intro wS hSw
      (try dsimp only at hSw)
      go_simp
      try with_reducible rfl
    case rp31_30 =>
    simp only [Act.put, List.setIfInBounds_toArray, List.set_cons_zero, List.set_cons_succ]
    refine wpAnyH_take (i := 32) (oi := { dst := some 70, op := Go.Op.move (Go.Operand.tmp 69), type := 4, pos := "laws.go:403", after := #[{ on := 31, ground := Go.Ground.data }, { on := 30, ground := Go.Ground.chain }], guard := none }) (v := ?vp32_31) rfl (by kernel_rfl) (by kernel_rfl) (by kernel_rfl) (fun _ _ _ h => h) (Or.inl ⟨by rfl, ?hp32_31⟩) hHeld ?rp32_31
    case hp32_31 =>
      intro wS hSw
      (try dsimp only at hSw)
      go_simp
      try with_reducible rfl
    case rp32_31 =>
    simp only [Act.put, List.setIfInBounds_toArray, List.set_cons_zero, List.set_cons_succ]
    refine wpAnyH_take (i := 33) (oi := { dst := some 71, op := Go.Op.fieldAddr 33 (Go.Operand.tmp 7) 2, type := 0, pos := "laws.go:403", after := #[{ on := 32, ground := Go.Ground.guard }], guard := some (32, true) }) (v := ?vp33_32) rfl (by kernel_rfl) (by kernel_rfl) (by kernel_rfl) (fun _ _ _ h => h) (Or.inl ⟨by rfl, ?hp33_32⟩) hHeld ?rp33_32
    case hp33_32 =>
      intro wS hSw
      (try dsimp only at hSw)
      go_simp
      try with_reducible rfl
    case rp33_32 =>
    simp only [Act.put, List.setIfInBounds_toArray, List.set_cons_zero, List.set_cons_succ]
    refine wpAnyH_take (i := 34) (oi := { dst := some 72, op := Go.Op.load 26 (Go.Operand.tmp 71), type := 26, pos := "laws.go:403", after := #[{ on := 33, ground := Go.Ground.data }, { on := 32, ground := Go.Ground.guard }], guard := some (32, true) }) (v := ?vp34_33) rfl (by kernel_rfl) (by kernel_rfl) (by kernel_rfl) (fun _ _ _ h => h) (Or.inl ⟨by rfl, ?hp34_33⟩) hHeld ?rp34_33
    case hp34_33 =>
      intro wS hSw
      obtain ⟨yx4, yx5, yv0, yv1, yv2, yv3, yv4, yt1, yt2, yt3, yt4, yt5, yt6, yt7, yt8, ys0, ys1, yc0, yc2, yc3, yc4, yc5, yc6, yc7, yc8, yd0, yd6⟩ := unhide KEEP _ hSw
      clear hSw
      (try dsimp only at hSw)
      go_simp
      try with_reducible rfl
    case rp34_33 =>
    simp only [Act.put, List.setIfInBounds_toArray, List.set_cons_zero, List.set_cons_succ]
    refine wpAnyH_ready (rs := [35]) (by kernel_rfl) (by simp) ?_
    refine AllReadyH.cons (o := { dst := some 73, op := Go.Op.call { callee := Go.Callee.value (Go.Operand.func 10), args := #[Go.Operand.tmp 72], argTypes := #[26] }, type := 2, pos := "laws.go:403", after := #[{ on := 34, ground := Go.Ground.data }, { on := 32, ground := Go.Ground.chain }, { on := 32, ground := Go.Ground.guard }], guard := some (32, true) }) rfl (fun K hK => ?_) AllReadyH.nil
    go_simp
    go_at_call 10
    refine (unhide LF2 _ hHeld).mono ?_
    rintro e v3 ⟨rfl, hbw⟩
    try go_wp2_with fail
    refine hK.out _ _ (hHeld.trans (hbw.mono hHeld.size)) (fun hHeld => ?_)
    clear hK K
    try simp only [Act.put, List.setIfInBounds_toArray, List.set_cons_zero, List.set_cons_succ]
    refine wpAnyH_take (i := 36) (oi := { dst := some 74, op := Go.Op.binOp Go.BinOp.eql 2 (Go.Operand.tmp 73) (Go.Operand.const (Go.Value.int Go.IntKind.i64 0)) 2, type := 4, pos := "laws.go:403", after := #[{ on := 35, ground := Go.Ground.data }, { on := 32, ground := Go.Ground.guard }], guard := some (32, true) }) (v := ?vp36_34) rfl (by kernel_rfl) (by kernel_rfl) (by kernel_rfl) (fun _ _ _ h => h) (Or.inl ⟨by rfl, ?hp36_34⟩) hHeld ?rp36_34
    case hp36_34 =>
      intro wS hSw
      (try dsimp only at hSw)
      go_simp
      try with_reducible rfl
    case rp36_34 =>
    simp only [Act.put, List.setIfInBounds_toArray, List.set_cons_zero, List.set_cons_succ]
    refine wpAnyH_take (i := 37) (oi := { dst := some 75, op := Go.Op.pick (Go.Operand.tmp 70) (Go.Operand.tmp 74) (Go.Operand.const (Go.Value.bool false)), type := 4, pos := "laws.go:403", after := #[{ on := 32, ground := Go.Ground.data }, { on := 36, ground := Go.Ground.data }], guard := none }) (v := ?vp37_35) rfl (by kernel_rfl) (by kernel_rfl) (by kernel_rfl) (fun _ _ _ h => h) (Or.inl ⟨by rfl, ?hp37_35⟩) hHeld ?rp37_35
    case hp37_35 =>
      intro wS hSw
      (try dsimp only at hSw)
      go_simp
      try with_reducible rfl
    case rp37_35 =>
    simp only [Act.put, List.setIfInBounds_toArray, List.set_cons_zero, List.set_cons_succ]
    refine wpAnyH_take (i := 38) (oi := { dst := some 76, op := Go.Op.move (Go.Operand.tmp 75), type := 4, pos := "laws.go:403", after := #[{ on := 37, ground := Go.Ground.data }, { on := 35, ground := Go.Ground.chain }], guard := none }) (v := ?vp38_36) rfl (by kernel_rfl) (by kernel_rfl) (by kernel_rfl) (fun _ _ _ h => h) (Or.inl ⟨by rfl, ?hp38_36⟩) hHeld ?rp38_36
    case hp38_36 =>
      intro wS hSw
      (try dsimp only at hSw)
      go_simp
      try with_reducible rfl
    case rp38_36 =>
    simp only [Act.put, List.setIfInBounds_toArray, List.set_cons_zero, List.set_cons_succ]
    refine wpAnyH_take (i := 39) (oi := { dst := some 77, op := Go.Op.fieldAddr 33 (Go.Operand.tmp 8) 0, type := 0, pos := "laws.go:403", after := #[{ on := 38, ground := Go.Ground.guard }], guard := some (38, true) }) (v := ?vp39_37) rfl (by kernel_rfl) (by kernel_rfl) (by kernel_rfl) (fun _ _ _ h => h) (Or.inl ⟨by rfl, ?hp39_37⟩) hHeld ?rp39_37
    case hp39_37 =>
      intro wS hSw
      (try dsimp only at hSw)
      go_simp
      try with_reducible rfl
    case rp39_37 =>
    simp only [Act.put, List.setIfInBounds_toArray, List.set_cons_zero, List.set_cons_succ]
    refine wpAnyH_take (i := 40) (oi := { dst := some 78, op := Go.Op.load 2 (Go.Operand.tmp 77), type := 2, pos := "laws.go:403", after := #[{ on := 39, ground := Go.Ground.data }, { on := 38, ground := Go.Ground.guard }], guard := some (38, true) }) (v := ?vp40_38) rfl (by kernel_rfl) (by kernel_rfl) (by kernel_rfl) (fun _ _ _ h => h) (Or.inl ⟨by rfl, ?hp40_38⟩) hHeld ?rp40_38
    case hp40_38 =>
      intro wS hSw
      obtain ⟨yx4, yx5, yv0, yv1, yv2, yv3, yv4, yt1, yt2, yt3, yt4, yt5, yt6, yt7, yt8, ys0, ys1, yc0, yc2, yc3, yc4, yc5, yc6, yc7, yc8, yd0, yd6⟩ := unhide KEEP _ hSw
      clear hSw
      (try dsimp only at hSw)
      go_simp
      try with_reducible rfl
    case rp40_38 =>
    simp only [Act.put, List.setIfInBounds_toArray, List.set_cons_zero, List.set_cons_succ]
    refine wpAnyH_take (i := 41) (oi := { dst := some 79, op := Go.Op.binOp Go.BinOp.eql 2 (Go.Operand.tmp 78) (Go.Operand.const (Go.Value.int Go.IntKind.i64 0)) 2, type := 4, pos := "laws.go:403", after := #[{ on := 40, ground := Go.Ground.data }, { on := 38, ground := Go.Ground.guard }], guard := some (38, true) }) (v := ?vp41_39) rfl (by kernel_rfl) (by kernel_rfl) (by kernel_rfl) (fun _ _ _ h => h) (Or.inl ⟨by rfl, ?hp41_39⟩) hHeld ?rp41_39
    case hp41_39 =>
      intro wS hSw
      (try dsimp only at hSw)
      go_simp
      try with_reducible rfl
    case rp41_39 =>
    simp only [Act.put, List.setIfInBounds_toArray, List.set_cons_zero, List.set_cons_succ]
    refine wpAnyH_take (i := 42) (oi := { dst := some 80, op := Go.Op.pick (Go.Operand.tmp 76) (Go.Operand.tmp 79) (Go.Operand.const (Go.Value.bool false)), type := 4, pos := "laws.go:403", after := #[{ on := 38, ground := Go.Ground.data }, { on := 41, ground := Go.Ground.data }], guard := none }) (v := ?vp42_40) rfl (by kernel_rfl) (by kernel_rfl) (by kernel_rfl) (fun _ _ _ h => h) (Or.inl ⟨by rfl, ?hp42_40⟩) hHeld ?rp42_40
    case hp42_40 =>
      intro wS hSw
      (try dsimp only at hSw)
      go_simp
      try with_reducible rfl
    case rp42_40 =>
    simp only [Act.put, List.setIfInBounds_toArray, List.set_cons_zero, List.set_cons_succ]
    refine wpAnyH_take (i := 43) (oi := { dst := some 81, op := Go.Op.move (Go.Operand.tmp 80), type := 4, pos := "laws.go:403", after := #[{ on := 42, ground := Go.Ground.data }, { on := 38, ground := Go.Ground.chain }], guard := none }) (v := ?vp43_41) rfl (by kernel_rfl) (by kernel_rfl) (by kernel_rfl) (fun _ _ _ h => h) (Or.inl ⟨by rfl, ?hp43_41⟩) hHeld ?rp43_41
    case hp43_41 =>
      intro wS hSw
      (try dsimp only at hSw)
      go_simp
      try with_reducible rfl
    case rp43_41 =>
    simp only [Act.put, List.setIfInBounds_toArray, List.set_cons_zero, List.set_cons_succ]
    refine wpAnyH_take (i := 44) (oi := { dst := some 82, op := Go.Op.fieldAddr 33 (Go.Operand.tmp 8) 2, type := 0, pos := "laws.go:403", after := #[{ on := 43, ground := Go.Ground.guard }], guard := some (43, true) }) (v := ?vp44_42) rfl (by kernel_rfl) (by kernel_rfl) (by kernel_rfl) (fun _ _ _ h => h) (Or.inl ⟨by rfl, ?hp44_42⟩) hHeld ?rp44_42
    case hp44_42 =>
      intro wS hSw
      (try dsimp only at hSw)
      go_simp
      try with_reducible rfl
    case rp44_42 =>
    simp only [Act.put, List.setIfInBounds_toArray, List.set_cons_zero, List.set_cons_succ]
    refine wpAnyH_take (i := 45) (oi := { dst := some 83, op := Go.Op.fieldAddr 26 (Go.Operand.tmp 82) 4, type := 0, pos := "laws.go:403", after := #[{ on := 44, ground := Go.Ground.data }, { on := 43, ground := Go.Ground.guard }], guard := some (43, true) }) (v := ?vp45_43) rfl (by kernel_rfl) (by kernel_rfl) (by kernel_rfl) (fun _ _ _ h => h) (Or.inl ⟨by rfl, ?hp45_43⟩) hHeld ?rp45_43
    case hp45_43 =>
      intro wS hSw
      (try dsimp only at hSw)
      go_simp
      try with_reducible rfl
    case rp45_43 =>
    simp only [Act.put, List.setIfInBounds_toArray, List.set_cons_zero, List.set_cons_succ]
    refine wpAnyH_take (i := 46) (oi := { dst := some 84, op := Go.Op.load 24 (Go.Operand.tmp 83), type := 24, pos := "laws.go:403", after := #[{ on := 45, ground := Go.Ground.data }, { on := 43, ground := Go.Ground.guard }], guard := some (43, true) }) (v := ?vp46_44) rfl (by kernel_rfl) (by kernel_rfl) (by kernel_rfl) (fun _ _ _ h => h) (Or.inl ⟨by rfl, ?hp46_44⟩) hHeld ?rp46_44
    case hp46_44 =>
      intro wS hSw
      obtain ⟨yx4, yx5, yv0, yv1, yv2, yv3, yv4, yt1, yt2, yt3, yt4, yt5, yt6, yt7, yt8, ys0, ys1, yc0, yc2, yc3, yc4, yc5, yc6, yc7, yc8, yd0, yd6⟩ := unhide KEEP _ hSw
      clear hSw
      (try dsimp only at hSw)
      go_simp
      try with_reducible rfl
    case rp46_44 =>
    simp only [Act.put, List.setIfInBounds_toArray, List.set_cons_zero, List.set_cons_succ]
    refine wpAnyH_take (i := 47) (oi := { dst := some 85, op := Go.Op.fieldAddr 26 (Go.Operand.tmp 3) 4, type := 0, pos := "laws.go:403", after := #[{ on := 43, ground := Go.Ground.guard }], guard := some (43, true) }) (v := ?vp47_45) rfl (by kernel_rfl) (by kernel_rfl) (by kernel_rfl) (fun _ _ _ h => h) (Or.inl ⟨by rfl, ?hp47_45⟩) hHeld ?rp47_45
    case hp47_45 =>
      intro wS hSw
      (try dsimp only at hSw)
      go_simp
      try with_reducible rfl
    case rp47_45 =>
    simp only [Act.put, List.setIfInBounds_toArray, List.set_cons_zero, List.set_cons_succ]
    refine wpAnyH_take (i := 48) (oi := { dst := some 86, op := Go.Op.load 24 (Go.Operand.tmp 85), type := 24, pos := "laws.go:403", after := #[{ on := 47, ground := Go.Ground.data }, { on := 43, ground := Go.Ground.guard }], guard := some (43, true) }) (v := ?vp48_46) rfl (by kernel_rfl) (by kernel_rfl) (by kernel_rfl) (fun _ _ _ h => h) (Or.inl ⟨by rfl, ?hp48_46⟩) hHeld ?rp48_46
    case hp48_46 =>
      intro wS hSw
      obtain ⟨yx4, yx5, yv0, yv1, yv2, yv3, yv4, yt1, yt2, yt3, yt4, yt5, yt6, yt7, yt8, ys0, ys1, yc0, yc2, yc3, yc4, yc5, yc6, yc7, yc8, yd0, yd6⟩ := unhide KEEP _ hSw
      clear hSw
      (try dsimp only at hSw)
      go_simp
      try with_reducible rfl
    case rp48_46 =>
    simp only [Act.put, List.setIfInBounds_toArray, List.set_cons_zero, List.set_cons_succ]
    refine wpAnyH_take (i := 49) (oi := { dst := some 87, op := Go.Op.fieldAddr 26 (Go.Operand.tmp 3) 5, type := 0, pos := "laws.go:403", after := #[{ on := 43, ground := Go.Ground.guard }], guard := some (43, true) }) (v := ?vp49_47) rfl (by kernel_rfl) (by kernel_rfl) (by kernel_rfl) (fun _ _ _ h => h) (Or.inl ⟨by rfl, ?hp49_47⟩) hHeld ?rp49_47
    case hp49_47 =>
      intro wS hSw
      (try dsimp only at hSw)
      go_simp
      try with_reducible rfl
    case rp49_47 =>
    simp only [Act.put, List.setIfInBounds_toArray, List.set_cons_zero, List.set_cons_succ]
    refine wpAnyH_take (i := 50) (oi := { dst := some 88, op := Go.Op.load 2 (Go.Operand.tmp 87), type := 2, pos := "laws.go:403", after := #[{ on := 49, ground := Go.Ground.data }, { on := 43, ground := Go.Ground.guard }], guard := some (43, true) }) (v := ?vp50_48) rfl (by kernel_rfl) (by kernel_rfl) (by kernel_rfl) (fun _ _ _ h => h) (Or.inl ⟨by rfl, ?hp50_48⟩) hHeld ?rp50_48
    case hp50_48 =>
      intro wS hSw
      obtain ⟨yx4, yx5, yv0, yv1, yv2, yv3, yv4, yt1, yt2, yt3, yt4, yt5, yt6, yt7, yt8, ys0, ys1, yc0, yc2, yc3, yc4, yc5, yc6, yc7, yc8, yd0, yd6⟩ := unhide KEEP _ hSw
      clear hSw
      (try dsimp only at hSw)
      go_simp
      try with_reducible rfl
    case rp50_48 =>
    simp only [Act.put, List.setIfInBounds_toArray, List.set_cons_zero, List.set_cons_succ]
    refine wpAnyH_take (i := 51) (oi := { dst := some 89, op := Go.Op.slice 24 (Go.Operand.tmp 86) none (some (Go.Operand.tmp 88)) none, type := 24, pos := "laws.go:403", after := #[{ on := 48, ground := Go.Ground.data }, { on := 50, ground := Go.Ground.data }, { on := 43, ground := Go.Ground.guard }], guard := some (43, true) }) (v := ?vp51_49) rfl (by kernel_rfl) (by kernel_rfl) (by kernel_rfl) (fun _ _ _ h => h) (Or.inl ⟨by rfl, ?hp51_49⟩) hHeld ?rp51_49
    case hp51_49 =>
      intro wS hSw
      clear hSw
      have j0 : k ≤ c8 := i0
      (try dsimp only at hSw)
      go_simp
      try with_reducible rfl
    case rp51_49 =>
    simp only [Act.put, List.setIfInBounds_toArray, List.set_cons_zero, List.set_cons_succ]
    refine wpAnyH_ready (rs := [52]) (by kernel_rfl) (by simp) ?_
    refine AllReadyH.cons (o := { dst := some 90, op := Go.Op.call { callee := Go.Callee.value (Go.Operand.func 11), args := #[Go.Operand.tmp 84, Go.Operand.tmp 89], argTypes := #[24, 24] }, type := 4, pos := "laws.go:403", after := #[{ on := 46, ground := Go.Ground.data }, { on := 51, ground := Go.Ground.data }, { on := 43, ground := Go.Ground.chain }, { on := 43, ground := Go.Ground.guard }], guard := some (43, true) }) rfl (fun K hK => ?_) AllReadyH.nil
    go_simp
    go_at_call 11
    refine (unhide LS2 _ hHeld).mono ?_
    rintro e v4 ⟨rfl, hbw⟩
    try go_wp2_with fail
    refine hK.out _ _ (hHeld.trans (hbw.mono hHeld.size)) (fun hHeld => ?_)
    clear hK K
    try simp only [Act.put, List.setIfInBounds_toArray, List.set_cons_zero, List.set_cons_succ]
    refine wpAnyH_take (i := 53) (oi := { dst := some 91, op := Go.Op.pick (Go.Operand.tmp 81) (Go.Operand.tmp 90) (Go.Operand.const (Go.Value.bool false)), type := 4, pos := "laws.go:403", after := #[{ on := 43, ground := Go.Ground.data }, { on := 52, ground := Go.Ground.data }], guard := none }) (v := ?vp53_50) rfl (by kernel_rfl) (by kernel_rfl) (by kernel_rfl) (fun _ _ _ h => h) (Or.inl ⟨by rfl, ?hp53_50⟩) hHeld ?rp53_50
    case hp53_50 =>
      intro wS hSw
      (try dsimp only at hSw)
      go_simp
      try with_reducible rfl
    case rp53_50 =>
    simp only [Act.put, List.setIfInBounds_toArray, List.set_cons_zero, List.set_cons_succ]
    refine wpAnyH_take (i := 54) (oi := { dst := some 92, op := Go.Op.move (Go.Operand.tmp 91), type := 4, pos := "laws.go:403", after := #[{ on := 53, ground := Go.Ground.data }, { on := 52, ground := Go.Ground.chain }], guard := none }) (v := ?vp54_51) rfl (by kernel_rfl) (by kernel_rfl) (by kernel_rfl) (fun _ _ _ h => h) (Or.inl ⟨by rfl, ?hp54_51⟩) hHeld ?rp54_51
    case hp54_51 =>
      intro wS hSw
      (try dsimp only at hSw)
      go_simp
      try with_reducible rfl
    case rp54_51 =>
    simp only [Act.put, List.setIfInBounds_toArray, List.set_cons_zero, List.set_cons_succ]
    refine wpAnyH_take (i := 55) (oi := { dst := some 93, op := Go.Op.fieldAddr 33 (Go.Operand.tmp 5) 2, type := 0, pos := "laws.go:403", after := #[{ on := 54, ground := Go.Ground.guard }], guard := some (54, true) }) (v := ?vp55_52) rfl (by kernel_rfl) (by kernel_rfl) (by kernel_rfl) (fun _ _ _ h => h) (Or.inl ⟨by rfl, ?hp55_52⟩) hHeld ?rp55_52
    case hp55_52 =>
      intro wS hSw
      (try dsimp only at hSw)
      go_simp
      try with_reducible rfl
    case rp55_52 =>
    simp only [Act.put, List.setIfInBounds_toArray, List.set_cons_zero, List.set_cons_succ]
    refine wpAnyH_take (i := 56) (oi := { dst := some 94, op := Go.Op.fieldAddr 26 (Go.Operand.tmp 93) 4, type := 0, pos := "laws.go:403", after := #[{ on := 55, ground := Go.Ground.data }, { on := 54, ground := Go.Ground.guard }], guard := some (54, true) }) (v := ?vp56_53) rfl (by kernel_rfl) (by kernel_rfl) (by kernel_rfl) (fun _ _ _ h => h) (Or.inl ⟨by rfl, ?hp56_53⟩) hHeld ?rp56_53
    case hp56_53 =>
      intro wS hSw
      (try dsimp only at hSw)
      go_simp
      try with_reducible rfl
    case rp56_53 =>
    simp only [Act.put, List.setIfInBounds_toArray, List.set_cons_zero, List.set_cons_succ]
    refine wpAnyH_take (i := 57) (oi := { dst := some 95, op := Go.Op.load 24 (Go.Operand.tmp 94), type := 24, pos := "laws.go:403", after := #[{ on := 56, ground := Go.Ground.data }, { on := 54, ground := Go.Ground.guard }], guard := some (54, true) }) (v := ?vp57_54) rfl (by kernel_rfl) (by kernel_rfl) (by kernel_rfl) (fun _ _ _ h => h) (Or.inl ⟨by rfl, ?hp57_54⟩) hHeld ?rp57_54
    case hp57_54 =>
      intro wS hSw
      obtain ⟨yx4, yx5, yv0, yv1, yv2, yv3, yv4, yt1, yt2, yt3, yt4, yt5, yt6, yt7, yt8, ys0, ys1, yc0, yc2, yc3, yc4, yc5, yc6, yc7, yc8, yd0, yd6⟩ := unhide KEEP _ hSw
      clear hSw
      (try dsimp only at hSw)
      go_simp
      try with_reducible rfl
    case rp57_54 =>
    simp only [Act.put, List.setIfInBounds_toArray, List.set_cons_zero, List.set_cons_succ]
    refine wpAnyH_take (i := 58) (oi := { dst := some 96, op := Go.Op.fieldAddr 29 (Go.Operand.tmp 4) 3, type := 0, pos := "laws.go:403", after := #[{ on := 54, ground := Go.Ground.guard }], guard := some (54, true) }) (v := ?vp58_55) rfl (by kernel_rfl) (by kernel_rfl) (by kernel_rfl) (fun _ _ _ h => h) (Or.inl ⟨by rfl, ?hp58_55⟩) hHeld ?rp58_55
    case hp58_55 =>
      intro wS hSw
      (try dsimp only at hSw)
      go_simp
      try with_reducible rfl
    case rp58_55 =>
    simp only [Act.put, List.setIfInBounds_toArray, List.set_cons_zero, List.set_cons_succ]
    refine wpAnyH_take (i := 59) (oi := { dst := some 97, op := Go.Op.load 2 (Go.Operand.tmp 96), type := 2, pos := "laws.go:403", after := #[{ on := 58, ground := Go.Ground.data }, { on := 54, ground := Go.Ground.guard }], guard := some (54, true) }) (v := ?vp59_56) rfl (by kernel_rfl) (by kernel_rfl) (by kernel_rfl) (fun _ _ _ h => h) (Or.inl ⟨by rfl, ?hp59_56⟩) hHeld ?rp59_56
    case hp59_56 =>
      intro wS hSw
      obtain ⟨yx4, yx5, yv0, yv1, yv2, yv3, yv4, yt1, yt2, yt3, yt4, yt5, yt6, yt7, yt8, ys0, ys1, yc0, yc2, yc3, yc4, yc5, yc6, yc7, yc8, yd0, yd6⟩ := unhide KEEP _ hSw
      clear hSw
      (try dsimp only at hSw)
      go_simp
      try with_reducible rfl
    case rp59_56 =>
    simp only [Act.put, List.setIfInBounds_toArray, List.set_cons_zero, List.set_cons_succ]
    refine wpAnyH_take (i := 60) (oi := { dst := some 98, op := Go.Op.fieldAddr 29 (Go.Operand.tmp 4) 4, type := 0, pos := "laws.go:403", after := #[{ on := 54, ground := Go.Ground.guard }], guard := some (54, true) }) (v := ?vp60_57) rfl (by kernel_rfl) (by kernel_rfl) (by kernel_rfl) (fun _ _ _ h => h) (Or.inl ⟨by rfl, ?hp60_57⟩) hHeld ?rp60_57
    case hp60_57 =>
      intro wS hSw
      (try dsimp only at hSw)
      go_simp
      try with_reducible rfl
    case rp60_57 =>
    simp only [Act.put, List.setIfInBounds_toArray, List.set_cons_zero, List.set_cons_succ]
    refine wpAnyH_take (i := 61) (oi := { dst := some 99, op := Go.Op.load 2 (Go.Operand.tmp 98), type := 2, pos := "laws.go:403", after := #[{ on := 60, ground := Go.Ground.data }, { on := 54, ground := Go.Ground.guard }], guard := some (54, true) }) (v := ?vp61_58) rfl (by kernel_rfl) (by kernel_rfl) (by kernel_rfl) (fun _ _ _ h => h) (Or.inl ⟨by rfl, ?hp61_58⟩) hHeld ?rp61_58
    case hp61_58 =>
      intro wS hSw
      obtain ⟨yx4, yx5, yv0, yv1, yv2, yv3, yv4, yt1, yt2, yt3, yt4, yt5, yt6, yt7, yt8, ys0, ys1, yc0, yc2, yc3, yc4, yc5, yc6, yc7, yc8, yd0, yd6⟩ := unhide KEEP _ hSw
      clear hSw
      (try dsimp only at hSw)
      go_simp
      try with_reducible rfl
    case rp61_58 =>
    simp only [Act.put, List.setIfInBounds_toArray, List.set_cons_zero, List.set_cons_succ]
    refine wpAnyH_take (i := 64) (oi := { dst := some 102, op := Go.Op.fieldAddr 33 (Go.Operand.tmp 5) 1, type := 0, pos := "laws.go:403", after := #[{ on := 54, ground := Go.Ground.guard }], guard := some (54, true) }) (v := ?vp64_59) rfl (by kernel_rfl) (by kernel_rfl) (by kernel_rfl) (fun _ _ _ h => h) (Or.inl ⟨by rfl, ?hp64_59⟩) hHeld ?rp64_59
    case hp64_59 =>
      intro wS hSw
      (try dsimp only at hSw)
      go_simp
      try with_reducible rfl
    case rp64_59 =>
    simp only [Act.put, List.setIfInBounds_toArray, List.set_cons_zero, List.set_cons_succ]
    refine wpAnyH_take (i := 65) (oi := { dst := some 103, op := Go.Op.load 2 (Go.Operand.tmp 102), type := 2, pos := "laws.go:403", after := #[{ on := 64, ground := Go.Ground.data }, { on := 54, ground := Go.Ground.guard }], guard := some (54, true) }) (v := ?vp65_60) rfl (by kernel_rfl) (by kernel_rfl) (by kernel_rfl) (fun _ _ _ h => h) (Or.inl ⟨by rfl, ?hp65_60⟩) hHeld ?rp65_60
    case hp65_60 =>
      intro wS hSw
      obtain ⟨yx4, yx5, yv0, yv1, yv2, yv3, yv4, yt1, yt2, yt3, yt4, yt5, yt6, yt7, yt8, ys0, ys1, yc0, yc2, yc3, yc4, yc5, yc6, yc7, yc8, yd0, yd6⟩ := unhide KEEP _ hSw
      clear hSw
      (try dsimp only at hSw)
      go_simp
      try with_reducible rfl
    case rp65_60 =>
    simp only [Act.put, List.setIfInBounds_toArray, List.set_cons_zero, List.set_cons_succ]
    refine wpAnyH_ready (rs := [62]) (by kernel_rfl) (by simp) ?_
    refine AllReadyH.cons (o := { dst := some 100, op := Go.Op.call { callee := Go.Callee.value (Go.Operand.func 12), args := #[Go.Operand.tmp 95, Go.Operand.tmp 97, Go.Operand.tmp 99], argTypes := #[24, 2, 2] }, type := 40, pos := "laws.go:403", after := #[{ on := 57, ground := Go.Ground.data }, { on := 59, ground := Go.Ground.data }, { on := 61, ground := Go.Ground.data }, { on := 54, ground := Go.Ground.chain }, { on := 54, ground := Go.Ground.guard }], guard := some (54, true) }) rfl (fun K hK => ?_) AllReadyH.nil
    go_simp
    go_at_call 12
    refine (unhide LA _ hHeld).mono ?_
    rintro e v5 ⟨rfl, hbw⟩
    try go_wp2_with fail
    refine hK.out _ _ (hHeld.trans (hbw.mono hHeld.size)) (fun hHeld => ?_)
    clear hK K
    try simp only [Act.put, List.setIfInBounds_toArray, List.set_cons_zero, List.set_cons_succ]
    refine wpAnyH_take (i := 63) (oi := { dst := some 101, op := Go.Op.field 40 (Go.Operand.tmp 100) 1, type := 2, pos := "laws.go:403", after := #[{ on := 62, ground := Go.Ground.data }, { on := 54, ground := Go.Ground.guard }], guard := some (54, true) }) (v := ?vp63_61) rfl (by kernel_rfl) (by kernel_rfl) (by kernel_rfl) (fun _ _ _ h => h) (Or.inl ⟨by rfl, ?hp63_61⟩) hHeld ?rp63_61
    case hp63_61 =>
      intro wS hSw
      have yf := hf1
      clear hSw
      (try dsimp only at hSw)
      go_simp
      try with_reducible rfl
    case rp63_61 =>
    simp only [Act.put, List.setIfInBounds_toArray, List.set_cons_zero, List.set_cons_succ]
    refine wpAnyH_take (i := 66) (oi := { dst := some 104, op := Go.Op.binOp Go.BinOp.eql 2 (Go.Operand.tmp 101) (Go.Operand.tmp 103) 2, type := 4, pos := "laws.go:403", after := #[{ on := 63, ground := Go.Ground.data }, { on := 65, ground := Go.Ground.data }, { on := 54, ground := Go.Ground.guard }], guard := some (54, true) }) (v := ?vp66_62) rfl (by kernel_rfl) (by kernel_rfl) (by kernel_rfl) (fun _ _ _ h => h) (Or.inl ⟨by rfl, ?hp66_62⟩) hHeld ?rp66_62
    case hp66_62 =>
      intro wS hSw
      (try dsimp only at hSw)
      go_simp
      try with_reducible rfl
    case rp66_62 =>
    simp only [Act.put, List.setIfInBounds_toArray, List.set_cons_zero, List.set_cons_succ]
    refine wpAnyH_take (i := 67) (oi := { dst := some 105, op := Go.Op.pick (Go.Operand.tmp 92) (Go.Operand.tmp 104) (Go.Operand.const (Go.Value.bool false)), type := 4, pos := "laws.go:403", after := #[{ on := 54, ground := Go.Ground.data }, { on := 66, ground := Go.Ground.data }], guard := none }) (v := ?vp67_63) rfl (by kernel_rfl) (by kernel_rfl) (by kernel_rfl) (fun _ _ _ h => h) (Or.inl ⟨by rfl, ?hp67_63⟩) hHeld ?rp67_63
    case hp67_63 =>
      intro wS hSw
      (try dsimp only at hSw)
      go_simp
      try with_reducible rfl
    case rp67_63 =>
    simp only [Act.put, List.setIfInBounds_toArray, List.set_cons_zero, List.set_cons_succ]
    refine wpAnyH_take (i := 68) (oi := { dst := some 106, op := Go.Op.move (Go.Operand.tmp 105), type := 4, pos := "laws.go:403", after := #[{ on := 67, ground := Go.Ground.data }, { on := 62, ground := Go.Ground.chain }], guard := none }) (v := ?vp68_64) rfl (by kernel_rfl) (by kernel_rfl) (by kernel_rfl) (fun _ _ _ h => h) (Or.inl ⟨by rfl, ?hp68_64⟩) hHeld ?rp68_64
    case hp68_64 =>
      intro wS hSw
      (try dsimp only at hSw)
      go_simp
      try with_reducible rfl
    case rp68_64 =>
    simp only [Act.put, List.setIfInBounds_toArray, List.set_cons_zero, List.set_cons_succ]
    refine wpAnyH_take (i := 69) (oi := { dst := some 107, op := Go.Op.fieldAddr 33 (Go.Operand.tmp 7) 2, type := 0, pos := "laws.go:403", after := #[{ on := 68, ground := Go.Ground.guard }], guard := some (68, true) }) (v := ?vp69_65) rfl (by kernel_rfl) (by kernel_rfl) (by kernel_rfl) (fun _ _ _ h => h) (Or.inl ⟨by rfl, ?hp69_65⟩) hHeld ?rp69_65
    case hp69_65 =>
      intro wS hSw
      (try dsimp only at hSw)
      go_simp
      try with_reducible rfl
    case rp69_65 =>
    simp only [Act.put, List.setIfInBounds_toArray, List.set_cons_zero, List.set_cons_succ]
    refine wpAnyH_take (i := 70) (oi := { dst := some 108, op := Go.Op.load 26 (Go.Operand.tmp 107), type := 26, pos := "laws.go:403", after := #[{ on := 69, ground := Go.Ground.data }, { on := 68, ground := Go.Ground.guard }], guard := some (68, true) }) (v := ?vp70_66) rfl (by kernel_rfl) (by kernel_rfl) (by kernel_rfl) (fun _ _ _ h => h) (Or.inl ⟨by rfl, ?hp70_66⟩) hHeld ?rp70_66
    case hp70_66 =>
      intro wS hSw
      obtain ⟨yx4, yx5, yv0, yv1, yv2, yv3, yv4, yt1, yt2, yt3, yt4, yt5, yt6, yt7, yt8, ys0, ys1, yc0, yc2, yc3, yc4, yc5, yc6, yc7, yc8, yd0, yd6⟩ := unhide KEEP _ hSw
      clear hSw
      (try dsimp only at hSw)
      go_simp
      try with_reducible rfl
    case rp70_66 =>
    simp only [Act.put, List.setIfInBounds_toArray, List.set_cons_zero, List.set_cons_succ]
    refine wpAnyH_take (i := 71) (oi := { dst := some 109, op := Go.Op.load 29 (Go.Operand.tmp 4), type := 29, pos := "laws.go:403", after := #[{ on := 68, ground := Go.Ground.guard }], guard := some (68, true) }) (v := ?vp71_67) rfl (by kernel_rfl) (by kernel_rfl) (by kernel_rfl) (fun _ _ _ h => h) (Or.inl ⟨by rfl, ?hp71_67⟩) hHeld ?rp71_67
    case hp71_67 =>
      intro wS hSw
      obtain ⟨yx4, yx5, yv0, yv1, yv2, yv3, yv4, yt1, yt2, yt3, yt4, yt5, yt6, yt7, yt8, ys0, ys1, yc0, yc2, yc3, yc4, yc5, yc6, yc7, yc8, yd0, yd6⟩ := unhide KEEP _ hSw
      clear hSw
      (try dsimp only at hSw)
      go_simp
      try with_reducible rfl
    case rp71_67 =>
    simp only [Act.put, List.setIfInBounds_toArray, List.set_cons_zero, List.set_cons_succ]
    refine wpAnyH_ready (rs := [72]) (by kernel_rfl) (by simp) ?_
    refine AllReadyH.cons (o := { dst := some 110, op := Go.Op.call { callee := Go.Callee.value (Go.Operand.func 6), args := #[Go.Operand.tmp 108, Go.Operand.tmp 109], argTypes := #[26, 29] }, type := 33, pos := "laws.go:403", after := #[{ on := 70, ground := Go.Ground.data }, { on := 71, ground := Go.Ground.data }, { on := 68, ground := Go.Ground.chain }, { on := 68, ground := Go.Ground.guard }], guard := some (68, true) }) rfl (fun K hK => ?_) AllReadyH.nil
    go_simp
    go_at_call 6
    refine (unhide LT _ hHeld).mono ?_
    rintro e v6 ⟨n0, i0, u0, e0, l0, a0, m0, d0, s0, k0, rfl, hbw⟩
    try go_wp2_with fail
    refine hK.out _ _ (hHeld.trans (hbw.mono hHeld.size)) (fun hHeld => ?_)
    clear hK K
    try simp only [Act.put, List.setIfInBounds_toArray, List.set_cons_zero, List.set_cons_succ]
    refine wpAnyH_take (i := 73) (oi := { dst := some 111, op := Go.Op.field 33 (Go.Operand.tmp 110) 0, type := 2, pos := "laws.go:403", after := #[{ on := 72, ground := Go.Ground.data }, { on := 68, ground := Go.Ground.guard }], guard := some (68, true) }) (v := ?vp73_68) rfl (by kernel_rfl) (by kernel_rfl) (by kernel_rfl) (fun _ _ _ h => h) (Or.inl ⟨by rfl, ?hp73_68⟩) hHeld ?rp73_68
    case hp73_68 =>
      intro wS hSw
      have yf := hfl n0 i0 u0 e0 l0 a0 m0 d0 s0 k0
      clear hSw
      (try dsimp only at hSw)
      go_simp
      try with_reducible rfl
    case rp73_68 =>
    simp only [Act.put, List.setIfInBounds_toArray, List.set_cons_zero, List.set_cons_succ]
    refine wpAnyH_take (i := 74) (oi := { dst := some 112, op := Go.Op.binOp Go.BinOp.eql 2 (Go.Operand.tmp 111) (Go.Operand.const (Go.Value.int Go.IntKind.i64 10)) 2, type := 4, pos := "laws.go:403", after := #[{ on := 73, ground := Go.Ground.data }, { on := 68, ground := Go.Ground.guard }], guard := some (68, true) }) (v := ?vp74_69) rfl (by kernel_rfl) (by kernel_rfl) (by kernel_rfl) (fun _ _ _ h => h) (Or.inl ⟨by rfl, ?hp74_69⟩) hHeld ?rp74_69
    case hp74_69 =>
      intro wS hSw
      (try dsimp only at hSw)
      go_simp
      try with_reducible rfl
    case rp74_69 =>
    simp only [Act.put, List.setIfInBounds_toArray, List.set_cons_zero, List.set_cons_succ]
    refine wpAnyH_take (i := 75) (oi := { dst := some 113, op := Go.Op.pick (Go.Operand.tmp 106) (Go.Operand.tmp 112) (Go.Operand.const (Go.Value.bool false)), type := 4, pos := "laws.go:403", after := #[{ on := 68, ground := Go.Ground.data }, { on := 74, ground := Go.Ground.data }], guard := none }) (v := ?vp75_70) rfl (by kernel_rfl) (by kernel_rfl) (by kernel_rfl) (fun _ _ _ h => h) (Or.inl ⟨by rfl, ?hp75_70⟩) hHeld ?rp75_70
    case hp75_70 =>
      intro wS hSw
      (try dsimp only at hSw)
      go_simp
      try with_reducible rfl
    case rp75_70 =>
    simp only [Act.put, List.setIfInBounds_toArray, List.set_cons_zero, List.set_cons_succ]
    refine wpAnyH_take (i := 76) (oi := { dst := some 2, op := Go.Op.assign (Go.Operand.tmp 113), type := 4, pos := "laws.go:403", after := ([{ on := 75, ground := Go.Ground.data }, { on := 72, ground := Go.Ground.chain }, { on := 0, ground := Go.Ground.phase }, { on := 1, ground := Go.Ground.phase }, { on := 2, ground := Go.Ground.phase }, { on := 3, ground := Go.Ground.phase }, { on := 4, ground := Go.Ground.phase }, { on := 5, ground := Go.Ground.phase }, { on := 6, ground := Go.Ground.phase }, { on := 7, ground := Go.Ground.phase }, { on := 8, ground := Go.Ground.phase }, { on := 9, ground := Go.Ground.phase }, { on := 10, ground := Go.Ground.phase }, { on := 11, ground := Go.Ground.phase }, { on := 12, ground := Go.Ground.phase }, { on := 13, ground := Go.Ground.phase }, { on := 14, ground := Go.Ground.phase }, { on := 15, ground := Go.Ground.phase }, { on := 16, ground := Go.Ground.phase }, { on := 17, ground := Go.Ground.phase }, { on := 18, ground := Go.Ground.phase }, { on := 19, ground := Go.Ground.phase }, { on := 20, ground := Go.Ground.phase }, { on := 21, ground := Go.Ground.phase }, { on := 22, ground := Go.Ground.phase }, { on := 23, ground := Go.Ground.phase }, { on := 24, ground := Go.Ground.phase }, { on := 25, ground := Go.Ground.phase }, { on := 26, ground := Go.Ground.phase }, { on := 27, ground := Go.Ground.phase }, { on := 28, ground := Go.Ground.phase }, { on := 29, ground := Go.Ground.phase }, { on := 30, ground := Go.Ground.phase }, { on := 31, ground := Go.Ground.phase }, { on := 32, ground := Go.Ground.phase }, { on := 33, ground := Go.Ground.phase }, { on := 34, ground := Go.Ground.phase }, { on := 35, ground := Go.Ground.phase }, { on := 36, ground := Go.Ground.phase }].append [{ on := 37, ground := Go.Ground.phase }, { on := 38, ground := Go.Ground.phase }, { on := 39, ground := Go.Ground.phase }, { on := 40, ground := Go.Ground.phase }, { on := 41, ground := Go.Ground.phase }, { on := 42, ground := Go.Ground.phase }, { on := 43, ground := Go.Ground.phase }, { on := 44, ground := Go.Ground.phase }, { on := 45, ground := Go.Ground.phase }, { on := 46, ground := Go.Ground.phase }, { on := 47, ground := Go.Ground.phase }, { on := 48, ground := Go.Ground.phase }, { on := 49, ground := Go.Ground.phase }, { on := 50, ground := Go.Ground.phase }, { on := 51, ground := Go.Ground.phase }, { on := 52, ground := Go.Ground.phase }, { on := 53, ground := Go.Ground.phase }, { on := 54, ground := Go.Ground.phase }, { on := 55, ground := Go.Ground.phase }, { on := 56, ground := Go.Ground.phase }, { on := 57, ground := Go.Ground.phase }, { on := 58, ground := Go.Ground.phase }, { on := 59, ground := Go.Ground.phase }, { on := 60, ground := Go.Ground.phase }, { on := 61, ground := Go.Ground.phase }, { on := 62, ground := Go.Ground.phase }, { on := 63, ground := Go.Ground.phase }, { on := 64, ground := Go.Ground.phase }, { on := 65, ground := Go.Ground.phase }, { on := 66, ground := Go.Ground.phase }, { on := 67, ground := Go.Ground.phase }, { on := 68, ground := Go.Ground.phase }, { on := 69, ground := Go.Ground.phase }, { on := 70, ground := Go.Ground.phase }, { on := 71, ground := Go.Ground.phase }, { on := 72, ground := Go.Ground.phase }, { on := 73, ground := Go.Ground.phase }, { on := 74, ground := Go.Ground.phase }, { on := 75, ground := Go.Ground.phase }]).toArray, guard := none }) (v := ?vp76_71) rfl (by kernel_rfl) (by kernel_rfl) (by kernel_rfl) (fun _ _ _ h => h) (Or.inl ⟨by rfl, ?hp76_71⟩) hHeld ?rp76_71
    case hp76_71 =>
      intro wS hSw
      (try dsimp only at hSw)
      go_simp
      try with_reducible rfl
    case rp76_71 =>
    simp only [Act.put, List.setIfInBounds_toArray, List.set_cons_zero, List.set_cons_succ]
    refine wpAnyH_done (by kernel_rfl) ?_ _
    refine NoPanic.normal ?_
    have HB9 := hide ((unhide HB).trans (hHeld.mono (unhide HB).size))
    clear hHeld
    go_wp2_with fail
    go_ret
    exact ⟨rfl, unhide HB9⟩
  · have hne : ((takeR x y).code != 0) = true := by rw [bne_iff_ne]; exact hf
    have heq : ((takeR x y).code == (takeR x y).code) = true := by simp
    clear hf R2
    generalize hfc : (takeR x y).code = fc at *
    generalize (takeR x y).place = fn at *
    generalize (takeR x y).node.id = f1 at *
    generalize (takeR x y).node.up = f2 at *
    generalize (takeR x y).node.epoch = f3 at *
    generalize (takeR x y).node.lease = f4 at *
    generalize (takeR x y).node.writes.length = f5 at *
    generalize (takeR x y).node.sure = f6 at *
    generalize (takeR x y).node.clean = f7 at *
    have HFC := hide hfc
    clear hfc
    have nb2 : Below w2.heap.size w2 (w2.alloc (.cells #[.int .i64 fc, .int .i64 fn, .int .i64 f1, .bool f2, .int .i64 f3, .int .i64 f4, .slice a2 f5 d2, .int .i64 f6, .int .i64 f7] 33)) := (Below.refl _ _).alloc (Nat.le_refl _) _
    have HX6 : Hid (Box 0 #[.int .i64 fc, .int .i64 fn, .int .i64 f1, .bool f2, .int .i64 f3, .int .i64 f4, .slice a2 f5 d2, .int .i64 f6, .int .i64 f7] 33 (w2.alloc (.cells #[.int .i64 fc, .int .i64 fn, .int .i64 f1, .bool f2, .int .i64 f3, .int .i64 f4, .slice a2 f5 d2, .int .i64 f6, .int .i64 f7] 33)) w2.heap.size) := newBox (Nat.zero_le _)
    have z0 : (w2.alloc (.cells #[.int .i64 fc, .int .i64 fn, .int .i64 f1, .bool f2, .int .i64 f3, .int .i64 f4, .slice a2 f5 d2, .int .i64 f6, .int .i64 f7] 33)).cell? ⟨w2.heap.size, 0, none⟩ = some (.int .i64 fc) := (unhide HX6).at 0 _ rfl
    replace HX3 := hide (((unhide HX3).keep hb2).keep nb2)
    replace HY3 := hide (((unhide HY3).keep hb2).keep nb2)
    replace HRX := hide (((unhide HRX).later hb2).later nb2)
    replace HRY := hide (((unhide HRY).later hb2).later nb2)
    replace HB := hide (((unhide HB).trans (hb2.mono (unhide HB).size)).trans (nb2.mono (Nat.le_trans (unhide HB).size hb2.size)))
    have LM : Hid (∀ W, Below (w2.alloc (.cells #[.int .i64 fc, .int .i64 fn, .int .i64 f1, .bool f2, .int .i64 f3, .int .i64 f4, .slice a2 f5 d2, .int .i64 f6, .int .i64 f7] 33)).heap.size (w2.alloc (.cells #[.int .i64 fc, .int .i64 fn, .int .i64 f1, .bool f2, .int .i64 f3, .int .i64 f4, .slice a2 f5 d2, .int .i64 f6, .int .i64 f7] 33)) W → Calls Tryz.prog 7 #[.agg #[.int .i64 x.id, .bool x.up, .int .i64 x.epoch, .int .i64 x.lease, .slice a8 x.writes.length c8, .int .i64 x.sure, .int .i64 x.clean], .agg #[.int .i64 y.kind, .int .i64 y.id, .slice a7 y.vec.length c7, .int .i64 y.session, .int .i64 y.seq]] W fun e w' => ∃ (n0 i0 : Int) (u0 : Bool) (e0 l0 : Int) (a0 : Option Addr) (m0 d0 : Nat) (s0 k0 : Int), e = .returned (.agg #[.int .i64 fc, .int .i64 n0, .int .i64 i0, .bool u0, .int .i64 e0, .int .i64 l0, .slice a0 m0 d0, .int .i64 s0, .int .i64 k0]) ∧ Below W.heap.size W w') := fun W hW => by
      refine (specTakeWrite _ x _ y W ((unhide HRX).later hW) ((unhide HRY).later hW)).mono ?_
      rintro e w' ⟨cs, rfl, O, hb⟩
      obtain ⟨b1, k1, rfl, -⟩ := open_NodeResult O.reads
      rw [unhide HFC]
      exact ⟨_, _, _, _, _, b1, _, k1, _, _, rfl, hb⟩
    have hfl := fun n0 i0 u0 e0 l0 a0 m0 d0 s0 k0 w => fieldNN0 fc n0 i0 u0 e0 l0 a0 m0 d0 s0 k0 w
    clear nb2 hb2 HRX HRW HRY HE
    go_wp2_with fail
    clear z0
    generalize w2.alloc (.cells #[.int .i64 fc, .int .i64 fn, .int .i64 f1, .bool f2, .int .i64 f3, .int .i64 f4, .slice a2 f5 d2, .int .i64 f6, .int .i64 f7] 33) = wz at *
    refine wp_region_noPanic ?_
    refine wp_region_held_drew (S := fun w' => Below wz.heap.size wz w') (by kernel_rfl) (Below.refl _ _).drew (fun hHeld => ?_)
    generalize wz.drew = wD at hHeld ⊢
    refine wpAnyH_take (i := 0) (oi := { dst := some 22, op := Go.Op.load 26 (Go.Operand.tmp 3), type := 26, pos := "laws.go:398", after := #[], guard := none }) (v := ?vc0_1) rfl (by kernel_rfl) (by kernel_rfl) (by kernel_rfl) (fun _ _ _ h => h) (Or.inl ⟨by rfl, ?hc0_1⟩) hHeld ?rc0_1
    case hc0_1 =>
      intro wS hSw
      have x0 := ((unhide HX3).keep hSw).at 0 _ rfl
      have x1 := ((unhide HX3).keep hSw).at 1 _ rfl
      have x2 := ((unhide HX3).keep hSw).at 2 _ rfl
      have x3 := ((unhide HX3).keep hSw).at 3 _ rfl
      have x4 := ((unhide HX3).keep hSw).at 4 _ rfl
      have x5 := ((unhide HX3).keep hSw).at 5 _ rfl
      have x6 := ((unhide HX3).keep hSw).at 6 _ rfl
      simp only [List.getElem_toArray, List.getElem_cons_zero, List.getElem_cons_succ] at x0 x1 x2 x3 x4 x5 x6
      clear hSw
      (try dsimp only at hSw)
      go_simp
      try with_reducible rfl
    case rc0_1 =>
    simp only [Act.put, List.setIfInBounds_toArray, List.set_cons_zero, List.set_cons_succ]
    refine wpAnyH_take (i := 1) (oi := { dst := some 23, op := Go.Op.load 29 (Go.Operand.tmp 4), type := 29, pos := "laws.go:398", after := #[], guard := none }) (v := ?vc1_2) rfl (by kernel_rfl) (by kernel_rfl) (by kernel_rfl) (fun _ _ _ h => h) (Or.inl ⟨by rfl, ?hc1_2⟩) hHeld ?rc1_2
    case hc1_2 =>
      intro wS hSw
      have v0 := ((unhide HY3).keep hSw).at 0 _ rfl
      have v1 := ((unhide HY3).keep hSw).at 1 _ rfl
      have v2 := ((unhide HY3).keep hSw).at 2 _ rfl
      have v3 := ((unhide HY3).keep hSw).at 3 _ rfl
      have v4 := ((unhide HY3).keep hSw).at 4 _ rfl
      simp only [List.getElem_toArray, List.getElem_cons_zero, List.getElem_cons_succ] at v0 v1 v2 v3 v4
      clear hSw
      (try dsimp only at hSw)
      go_simp
      try with_reducible rfl
    case rc1_2 =>
    simp only [Act.put, List.setIfInBounds_toArray, List.set_cons_zero, List.set_cons_succ]
    refine wpAnyH_take (i := 4) (oi := { dst := some 26, op := Go.Op.fieldAddr 33 (Go.Operand.tmp 5) 0, type := 0, pos := "laws.go:398", after := #[], guard := none }) (v := ?vc4_3) rfl (by kernel_rfl) (by kernel_rfl) (by kernel_rfl) (fun _ _ _ h => h) (Or.inl ⟨by rfl, ?hc4_3⟩) hHeld ?rc4_3
    case hc4_3 =>
      intro wS hSw
      (try dsimp only at hSw)
      go_simp
      try with_reducible rfl
    case rc4_3 =>
    simp only [Act.put, List.setIfInBounds_toArray, List.set_cons_zero, List.set_cons_succ]
    refine wpAnyH_take (i := 5) (oi := { dst := some 27, op := Go.Op.load 2 (Go.Operand.tmp 26), type := 2, pos := "laws.go:398", after := #[{ on := 4, ground := Go.Ground.data }], guard := none }) (v := ?vc5_4) rfl (by kernel_rfl) (by kernel_rfl) (by kernel_rfl) (fun _ _ _ h => h) (Or.inl ⟨by rfl, ?hc5_4⟩) hHeld ?rc5_4
    case hc5_4 =>
      intro wS hSw
      have y6 := ((unhide HX6).keep hSw).at 0 _ rfl
      simp only [List.getElem_toArray, List.getElem_cons_zero] at y6
      clear hSw
      (try dsimp only at hSw)
      go_simp
      try with_reducible rfl
    case rc5_4 =>
    simp only [Act.put, List.setIfInBounds_toArray, List.set_cons_zero, List.set_cons_succ]
    refine wpAnyH_ready (rs := [2]) (by kernel_rfl) (by simp) ?_
    refine AllReadyH.cons (o := { dst := some 24, op := Go.Op.call { callee := Go.Callee.value (Go.Operand.func 7), args := #[Go.Operand.tmp 22, Go.Operand.tmp 23], argTypes := #[26, 29] }, type := 33, pos := "laws.go:398", after := #[{ on := 0, ground := Go.Ground.data }, { on := 1, ground := Go.Ground.data }], guard := none }) rfl (fun K hK => ?_) AllReadyH.nil
    go_simp
    go_at_call 7
    refine (unhide LM _ hHeld).mono ?_
    rintro e v1 ⟨n0, i0, u0, e0, l0, a0, m0, d0, s0, k0, rfl, hbw⟩
    try go_wp2_with fail
    refine hK.out _ _ (hHeld.trans (hbw.mono hHeld.size)) (fun hHeld => ?_)
    clear hK K
    try simp only [Act.put, List.setIfInBounds_toArray, List.set_cons_zero, List.set_cons_succ]
    refine wpAnyH_take (i := 3) (oi := { dst := some 25, op := Go.Op.field 33 (Go.Operand.tmp 24) 0, type := 2, pos := "laws.go:398", after := #[{ on := 2, ground := Go.Ground.data }], guard := none }) (v := ?vc3_5) rfl (by kernel_rfl) (by kernel_rfl) (by kernel_rfl) (fun _ _ _ h => h) (Or.inl ⟨by rfl, ?hc3_5⟩) hHeld ?rc3_5
    case hc3_5 =>
      intro wS hSw
      have yf := hfl n0 i0 u0 e0 l0 a0 m0 d0 s0 k0
      clear hSw
      (try dsimp only at hSw)
      go_simp
      try with_reducible rfl
    case rc3_5 =>
    simp only [Act.put, List.setIfInBounds_toArray, List.set_cons_zero, List.set_cons_succ]
    refine wpAnyH_take (i := 6) (oi := { dst := some 28, op := Go.Op.binOp Go.BinOp.eql 2 (Go.Operand.tmp 25) (Go.Operand.tmp 27) 2, type := 4, pos := "laws.go:398", after := #[{ on := 3, ground := Go.Ground.data }, { on := 5, ground := Go.Ground.data }], guard := none }) (v := ?vc6_6) rfl (by kernel_rfl) (by kernel_rfl) (by kernel_rfl) (fun _ _ _ h => h) (Or.inl ⟨by rfl, ?hc6_6⟩) hHeld ?rc6_6
    case hc6_6 =>
      intro wS hSw
      (try dsimp only at hSw)
      go_simp
      try with_reducible rfl
    case rc6_6 =>
    simp only [Act.put, List.setIfInBounds_toArray, List.set_cons_zero, List.set_cons_succ]
    refine wpAnyH_take (i := 7) (oi := { dst := some 2, op := Go.Op.assign (Go.Operand.tmp 28), type := 4, pos := "laws.go:398", after := #[{ on := 6, ground := Go.Ground.data }, { on := 2, ground := Go.Ground.chain }, { on := 0, ground := Go.Ground.phase }, { on := 1, ground := Go.Ground.phase }, { on := 2, ground := Go.Ground.phase }, { on := 3, ground := Go.Ground.phase }, { on := 4, ground := Go.Ground.phase }, { on := 5, ground := Go.Ground.phase }, { on := 6, ground := Go.Ground.phase }], guard := none }) (v := ?vc7_7) rfl (by kernel_rfl) (by kernel_rfl) (by kernel_rfl) (fun _ _ _ h => h) (Or.inl ⟨by rfl, ?hc7_7⟩) hHeld ?rc7_7
    case hc7_7 =>
      intro wS hSw
      (try dsimp only at hSw)
      go_simp
      try with_reducible rfl
    case rc7_7 =>
    simp only [Act.put, List.setIfInBounds_toArray, List.set_cons_zero, List.set_cons_succ]
    refine wpAnyH_done (by kernel_rfl) ?_ _
    refine NoPanic.normal ?_
    have HB9 := hide ((unhide HB).trans (hHeld.mono (unhide HB).size))
    clear hHeld
    go_wp2_with fail
    go_ret
    exact ⟨rfl, unhide HB9⟩

theorem lawFnNodes (ao : Option Addr) (len cap : Nat) (zs : List Int) (w : World) (h : (ao = none ∧ len = 0 ∧ cap = 0 ∧ zs = []) ∨
    ∃ x, ao = some x ∧ len ≤ cap ∧ cap ≤ maxLen ∧ zs.length = cap ∧ (∀ i, i < zs.length → w.cell? (x.add i) = some (.int .u8 (zs.getD i 0))) ∧ ∀ n ∈ zs, (Lit.int .u8 n).wf = true) (hE : Errs w) :
    Calls Tryz.prog 3 #[.slice ao len cap] w fun e w' => e = .returned (.bool true) ∧ Below w.heap.size w w' := by
  by_cases hn : len ≤ 1048576
  · exact lawNodes_few ao len cap w hn (isCode_of_row h hn) hE
  · exact lawNodes_many ao len cap w (by omega)

end Go.Proofs.YtbogjepkdcknfaaGreatDoor
