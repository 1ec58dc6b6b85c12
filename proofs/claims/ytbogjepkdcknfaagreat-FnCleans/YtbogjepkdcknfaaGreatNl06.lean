/-
  Texts of this proof in one: ImplNodeOf, ImplNodeM, ImplCleanN, SpecCleanN, ImplDirty, ImplId, ImplTab, MapTab, ImplFrom, ImplPutM, ImplDropM, ImplDo, Iter, KeysC, AppItem, ImplItems.
  Their conditions stand in their theorems.
-/
import Derived.Test.YtbogjepkdcknfaaGreatNl05
import Derived.Deep.RegionHeld3
import Derived.Test.YtbogjepkdcknfaaGreatNl02
import Derived.Test.YtbogjepkdcknfaaGreatNl04
import Derived.Test.YtbogjepkdcknfaaGreatChecked
import Derived.Test.YtbogjepkdcknfaaGreatNl01
import Derived.BigQuiet
import Derived.Deep.QuietTactic
import Derived.Shelf.SlIterI.Nil
import Derived.Shelf.SortM.Plain
import Derived.Shelf.SortM.SortNone
import Derived.Ground.GgzProg
import Derived.Ground.SlgmProg
import Derived.Shelf.SlGeneric
import Derived.Test.YtbogjepkdcknfaaGreatProg

namespace Go.Proofs.YtbogjepkdcknfaaGreat
open Go.RowKit

/-- A node that is pointed at: its writes are v, and so many of them are sure. -/
def HeldAt (w : World) (g : Nat) (v : Value) (x : DNode) : Prop := Box 0 #[v, .int .i64 x.sure, .int .i64 x.id, .bool x.up, .int .i64 x.epoch, .int .i64 x.lease, .int .i64 x.clean] 64 w g
theorem HeldAt.keep {w w' : World} {g : Nat} {v : Value} {x : DNode} (h : HeldAt w g v x) (hb : Below w.heap.size w w') : HeldAt w' g v x := Box.keep h hb
theorem HeldAt.lt {w : World} {g : Nat} {v : Value} {x : DNode} (h : HeldAt w g v x) : g < w.heap.size := Box.lt h
theorem node_vecs {x : DNode} (h : NodeOK x) : ∀ y ∈ x.writes, y.vec.length ≤ 10000000 := fun y hy => by
  obtain ⟨-, -, -, hk⟩ := writeFault_zero (h.ws y hy)
  rcases hk with ⟨-, hv⟩ | ⟨-, hv⟩
  · have := (vecFault_zero hv).1; omega
  · rw [hv]; simp

set_option maxRecDepth 10000 in
set_option maxHeartbeats 1000000 in
theorem nodeOf_bad (cs : List Value) (x : DNode) (w : World) (h : Lay.tNode.Reads w cs x) (hf : nodeFault x ≠ 0) :
    Calls Tryz.prog 26 #[.agg cs.toArray] w fun e w' => e = .returned (.tuple #[.pointer none, .int .i64 (nodeFault x)]) ∧ Below w.heap.size w w' := by
  have hN := h
  obtain ⟨a4, d4, rfl, R4⟩ := open_Node h
  have nb : Below w.heap.size w (w.alloc (.cells #[.int .i64 x.id, .bool x.up, .int .i64 x.epoch, .int .i64 x.lease, .slice a4 x.writes.length d4, .int .i64 x.sure, .int .i64 x.clean] 26)) := (Below.refl _ _).alloc (Nat.le_refl _) _
  have bX : Box w.heap.size #[.int .i64 x.id, .bool x.up, .int .i64 x.epoch, .int .i64 x.lease, .slice a4 x.writes.length d4, .int .i64 x.sure, .int .i64 x.clean] 26 (w.alloc (.cells #[.int .i64 x.id, .bool x.up, .int .i64 x.epoch, .int .i64 x.lease, .slice a4 x.writes.length d4, .int .i64 x.sure, .int .i64 x.clean] 26)) w.heap.size := newBox (Nat.le_refl _)
  have HL := hide (implNodeFault _ x _ (hN.later nb))
  have HB := hide nb
  have hd : (nodeFault x != 0) = true := by simpa using hf
  clear h hN nb bX R4 hf
  generalize nodeFault x = c at *
  go_enter Tryz.func26, Tryz.ntmps26
  go_wp2_with fail
  refine (unhide HL).mono ?_
  rintro e w1 ⟨rfl, hb⟩
  have HB1 := hide ((unhide HB).trans (hb.mono (unhide HB).size))
  clear hb HL HB
  go_wp2_with fail
  refine bodyPost_ret (v := .tuple #[.pointer none, .int .i64 c]) (by simp [results, Tryz.results26, go_sem]) rfl ?_
  exact ⟨rfl, unhide HB1⟩

set_option maxRecDepth 10000 in
set_option maxHeartbeats 2000000 in
theorem nodeOf_ok (cs : List Value) (x : DNode) (w : World) (h : Lay.tNode.Reads w cs x) (hf : nodeFault x = 0) :
    Calls Tryz.prog 26 #[.agg cs.toArray] w fun e w' => ∃ g gw, e = .returned (.tuple #[.pointer (some ⟨g, 0, none⟩), .int .i64 0]) ∧ HeldAt w' g (.slice (some ⟨gw, 0, none⟩) x.writes.length x.writes.length) x ∧ (Lay.sl Lay.tWrite).OwnIn w' [.slice (some ⟨gw, 0, none⟩) x.writes.length x.writes.length] x.writes (g + 1) w'.heap.size ∧ w.heap.size ≤ g ∧ Below w.heap.size w w' := by
  have hN := h
  obtain ⟨a4, d4, rfl, R4⟩ := open_Node h
  have nb : Below w.heap.size w (w.alloc (.cells #[.int .i64 x.id, .bool x.up, .int .i64 x.epoch, .int .i64 x.lease, .slice a4 x.writes.length d4, .int .i64 x.sure, .int .i64 x.clean] 26)) := (Below.refl _ _).alloc (Nat.le_refl _) _
  have bX : Box w.heap.size #[.int .i64 x.id, .bool x.up, .int .i64 x.epoch, .int .i64 x.lease, .slice a4 x.writes.length d4, .int .i64 x.sure, .int .i64 x.clean] 26 (w.alloc (.cells #[.int .i64 x.id, .bool x.up, .int .i64 x.epoch, .int .i64 x.lease, .slice a4 x.writes.length d4, .int .i64 x.sure, .int .i64 x.clean] 26)) w.heap.size := newBox (Nat.le_refl _)
  have hok := nodeFault_zero hf
  have HL := hide (implNodeFault _ x _ (hN.later nb))
  rw [hf] at HL
  have hlen := hok.len
  have HV := hide (node_vecs hok)
  have HB := hide nb
  have HX := hide bX
  have HR := hide (R4.later nb)
  clear h hN nb bX R4 hf hok
  go_enter Tryz.func26, Tryz.ntmps26
  go_wp2_with fail
  generalize w.alloc (.cells #[.int .i64 x.id, .bool x.up, .int .i64 x.epoch, .int .i64 x.lease, .slice a4 x.writes.length d4, .int .i64 x.sure, .int .i64 x.clean] 26) = W0 at *
  refine (unhide HL).mono ?_
  rintro e w1 ⟨rfl, hb⟩
  have bX1 := (unhide HX).keep hb
  have HB1 := hide ((unhide HB).trans (hb.mono (unhide HB).size))
  have HR1 := hide ((unhide HR).later hb)
  have x0 := bX1.at 0 _ rfl
  have x1 := bX1.at 1 _ rfl
  have x2 := bX1.at 2 _ rfl
  have x3 := bX1.at 3 _ rfl
  have x4 := bX1.at 4 _ rfl
  have x5 := bX1.at 5 _ rfl
  have x6 := bX1.at 6 _ rfl
  simp only [List.getElem_toArray, List.getElem_cons_zero, List.getElem_cons_succ] at x0 x1 x2 x3 x4 x5 x6
  have xl := bX1.lt
  have hgs := (unhide HB1).size
  have nb2 : Below w1.heap.size w1 (w1.alloc (.cells #[.slice none 0 0, .int .i64 0, .int .i64 x.id, .bool x.up, .int .i64 x.epoch, .int .i64 x.lease, .int .i64 x.clean] 64)) := (Below.refl _ _).alloc (Nat.le_refl _) _
  have bH : Box 0 #[.slice none 0 0, .int .i64 0, .int .i64 x.id, .bool x.up, .int .i64 x.epoch, .int .i64 x.lease, .int .i64 x.clean] 64 (w1.alloc (.cells #[.slice none 0 0, .int .i64 0, .int .i64 x.id, .bool x.up, .int .i64 x.epoch, .int .i64 x.lease, .int .i64 x.clean] 64)) w1.heap.size := newBox (Nat.zero_le _)
  have HC := hide (copiedC _ x.writes _ ((unhide HR1).later nb2) (by omega) (unhide HV))
  have HX2 := hide (bX1.keep nb2)
  have HB2 := hide ((unhide HB1).trans (nb2.mono (unhide HB1).size))
  have HH := hide bH
  have hz2 : (w1.alloc (.cells #[.slice none 0 0, .int .i64 0, .int .i64 x.id, .bool x.up, .int .i64 x.epoch, .int .i64 x.lease, .int .i64 x.clean] 64)).heap.size = w1.heap.size + 1 := by simp
  have HZ2 : Hid (w1.heap.size + 1 ≤ (w1.alloc (.cells #[.slice none 0 0, .int .i64 0, .int .i64 x.id, .bool x.up, .int .i64 x.epoch, .int .i64 x.lease, .int .i64 x.clean] 64)).heap.size) := Nat.le_of_eq hz2.symm
  clear hb HL HB HX HR HR1 bX1 nb2 bH HB1 hz2
  go_wp2_with fail
  clear x0 x1 x2 x3 x4 x5 x6 xl
  refine (unhide HC).mono ?_
  generalize w1.alloc (.cells #[.slice none 0 0, .int .i64 0, .int .i64 x.id, .bool x.up, .int .i64 x.epoch, .int .i64 x.lease, .int .i64 x.clean] 64) = W2 at *
  rintro e w3 ⟨gw, rfl, O, hb⟩
  have bX3 := (unhide HX2).keep hb
  have bH3 := (unhide HH).keep hb
  have x5 := bX3.at 5 _ rfl
  have y0 := bH3.at 0 _ rfl
  have y1 := bH3.at 1 _ rfl
  have yf := bH3.soft
  have yl := bH3.lt
  have xl := bX3.lt
  have hxy : w.heap.size ≠ w1.heap.size := by
    have h1 := (unhide HX2).lt
    intro e
    have q1 := (unhide HX2).2
    have q2 := (unhide HH).2
    rw [e, q2] at q1
    simp at q1
  have hwlt : w.heap.size < w1.heap.size := by omega
  simp only [List.getElem_toArray, List.getElem_cons_zero, List.getElem_cons_succ] at x5 y0 y1
  have HF3 : Hid (HeldAt ((w3.setCell ⟨w1.heap.size, 0, none⟩ (.slice (some ⟨gw, 0, none⟩) x.writes.length x.writes.length)).setCell ⟨w1.heap.size, 1, none⟩ (.int .i64 x.sure)) w1.heap.size (.slice (some ⟨gw, 0, none⟩) x.writes.length x.writes.length) x) := (bH3.set 0 (.slice (some ⟨gw, 0, none⟩) x.writes.length x.writes.length)).set 1 (.int .i64 x.sure)
  have hzb := unhide HZ2
  have E : Ext (fun q => q = w1.heap.size) w3 ((w3.setCell ⟨w1.heap.size, 0, none⟩ (.slice (some ⟨gw, 0, none⟩) x.writes.length x.writes.length)).setCell ⟨w1.heap.size, 1, none⟩ (.int .i64 x.sure)) := ((Ext.refl (fun q => q = w1.heap.size) _).setCell ⟨w1.heap.size, 0, none⟩ _ rfl).setCell ⟨w1.heap.size, 1, none⟩ _ rfl
  have HO3 := hide ((O.ext E (fun q h1 h2 h3 => by omega)).mono (lo' := w1.heap.size + 1) (hi' := ((w3.setCell ⟨w1.heap.size, 0, none⟩ (.slice (some ⟨gw, 0, none⟩) x.writes.length x.writes.length)).setCell ⟨w1.heap.size, 1, none⟩ (.int .i64 x.sure)).heap.size) hzb (by simp))
  have HB3 : Hid (Below w.heap.size w ((w3.setCell ⟨w1.heap.size, 0, none⟩ (.slice (some ⟨gw, 0, none⟩) x.writes.length x.writes.length)).setCell ⟨w1.heap.size, 1, none⟩ (.int .i64 x.sure))) := (((unhide HB2).trans (hb.mono (unhide HB2).size)).setCell (by simpa using hgs) _).setCell (by simpa using hgs) _
  clear hb O bX3 bH3 E HC HX2 HH HB2 HZ2
  go_wp2_with fail
  refine bodyPost_ret (v := .tuple #[.pointer (some ⟨w1.heap.size, 0, none⟩), .int .i64 0]) (by simp [results, Tryz.results26, go_sem]) rfl ?_
  exact ⟨w1.heap.size, gw, rfl, unhide HF3, unhide HO3, hgs, unhide HB3⟩

set_option maxRecDepth 10000 in
set_option maxHeartbeats 1000000 in
theorem upNode_bad (cs : List Value) (x : DNode) (w : World) (h : Lay.tNode.Reads w cs x) (hf : askedN x ≠ 0) :
    Calls Tryz.prog 17 #[.agg cs.toArray] w fun e w' => e = .returned (.tuple #[.pointer none, .int .i64 (askedN x)]) ∧ Below w.heap.size w w' := by
  have hN := h
  obtain ⟨a4, d4, rfl, R4⟩ := open_Node h
  have nb : Below w.heap.size w (w.alloc (.cells #[.int .i64 x.id, .bool x.up, .int .i64 x.epoch, .int .i64 x.lease, .slice a4 x.writes.length d4, .int .i64 x.sure, .int .i64 x.clean] 26)) := (Below.refl _ _).alloc (Nat.le_refl _) _
  have bX : Box w.heap.size #[.int .i64 x.id, .bool x.up, .int .i64 x.epoch, .int .i64 x.lease, .slice a4 x.writes.length d4, .int .i64 x.sure, .int .i64 x.clean] 26 (w.alloc (.cells #[.int .i64 x.id, .bool x.up, .int .i64 x.epoch, .int .i64 x.lease, .slice a4 x.writes.length d4, .int .i64 x.sure, .int .i64 x.clean] 26)) w.heap.size := newBox (Nat.le_refl _)
  by_cases hn : nodeFault x = 0
  · have HL := hide (nodeOf_ok _ x _ (hN.later nb) hn)
    have ha : askedN x = 10 ∧ x.up = false := by
      unfold askedN at hf ⊢
      rw [if_pos hn] at hf ⊢
      cases hu : x.up
      · exact ⟨by simp, rfl⟩
      · rw [hu] at hf; simp at hf
    have HU := hide ha.2
    rw [ha.1]
    have HB := hide nb
    clear h hN nb bX R4 hf hn ha
    go_enter Tryz.func17, Tryz.ntmps17
    go_wp2_with fail
    refine (unhide HL).mono ?_
    rintro e w1 ⟨g, gw, rfl, hH, -, -, hb⟩
    have y3 := Box.at hH 3 _ rfl
    have yl := hH.lt
    simp only [List.getElem_toArray, List.getElem_cons_zero, List.getElem_cons_succ] at y3
    rw [unhide HU] at y3
    have HB1 := hide ((unhide HB).trans (hb.mono (unhide HB).size))
    clear hb HL HB hH
    go_wp2_with fail
    refine bodyPost_ret (v := .tuple #[.pointer none, .int .i64 10]) (by simp [results, Tryz.results17, go_sem]) rfl ?_
    exact ⟨rfl, unhide HB1⟩
  · have HL := hide (nodeOf_bad _ x _ (hN.later nb) hn)
    have ha : askedN x = nodeFault x := by rw [askedN, if_neg hn]
    rw [ha]
    have HB := hide nb
    have hd : (nodeFault x == 0) = false := by simpa using hn
    clear h hN nb bX R4 hf hn ha
    generalize nodeFault x = c at *
    go_enter Tryz.func17, Tryz.ntmps17
    go_wp2_with fail
    refine (unhide HL).mono ?_
    rintro e w1 ⟨rfl, hb⟩
    have HB1 := hide ((unhide HB).trans (hb.mono (unhide HB).size))
    clear hb HL HB
    go_wp2_with fail
    refine bodyPost_ret (v := .tuple #[.pointer none, .int .i64 c]) (by simp [results, Tryz.results17, go_sem]) rfl ?_
    exact ⟨rfl, unhide HB1⟩

set_option maxRecDepth 10000 in
set_option maxHeartbeats 1000000 in
theorem upNode_ok (cs : List Value) (x : DNode) (w : World) (h : Lay.tNode.Reads w cs x) (hf : askedN x = 0) :
    Calls Tryz.prog 17 #[.agg cs.toArray] w fun e w' => ∃ g gw, e = .returned (.tuple #[.pointer (some ⟨g, 0, none⟩), .int .i64 0]) ∧ HeldAt w' g (.slice (some ⟨gw, 0, none⟩) x.writes.length x.writes.length) x ∧ (Lay.sl Lay.tWrite).OwnIn w' [.slice (some ⟨gw, 0, none⟩) x.writes.length x.writes.length] x.writes (g + 1) w'.heap.size ∧ w.heap.size ≤ g ∧ Below w.heap.size w w' := by
  obtain ⟨hok, hu⟩ := askedN_zero hf
  have HU := hide hu
  clear hu
  have hN := h
  obtain ⟨a4, d4, rfl, R4⟩ := open_Node h
  have nb : Below w.heap.size w (w.alloc (.cells #[.int .i64 x.id, .bool x.up, .int .i64 x.epoch, .int .i64 x.lease, .slice a4 x.writes.length d4, .int .i64 x.sure, .int .i64 x.clean] 26)) := (Below.refl _ _).alloc (Nat.le_refl _) _
  have bX : Box w.heap.size #[.int .i64 x.id, .bool x.up, .int .i64 x.epoch, .int .i64 x.lease, .slice a4 x.writes.length d4, .int .i64 x.sure, .int .i64 x.clean] 26 (w.alloc (.cells #[.int .i64 x.id, .bool x.up, .int .i64 x.epoch, .int .i64 x.lease, .slice a4 x.writes.length d4, .int .i64 x.sure, .int .i64 x.clean] 26)) w.heap.size := newBox (Nat.le_refl _)
  have HL := hide (nodeOf_ok _ x _ (hN.later nb) hok.fault)
  have HB := hide nb
  clear h hN nb bX R4 hf hok
  go_enter Tryz.func17, Tryz.ntmps17
  go_wp2_with fail
  refine (unhide HL).mono ?_
  rintro e w1 ⟨g, gw, rfl, hH, O, hg, hb⟩
  have y3 := Box.at hH 3 _ rfl
  have yl := hH.lt
  simp only [List.getElem_toArray, List.getElem_cons_zero, List.getElem_cons_succ] at y3
  rw [unhide HU] at y3
  have HB1 := hide ((unhide HB).trans (hb.mono (unhide HB).size))
  have HH := hide hH
  have HO := hide O
  have HG := hide (Nat.le_trans (unhide HB).size hg)
  clear hb HL HB hH O hg
  go_wp2_with fail
  refine bodyPost_ret (v := .tuple #[.pointer (some ⟨g, 0, none⟩), .int .i64 0]) (by simp [results, Tryz.results17, go_sem]) rfl ?_
  exact ⟨g, gw, rfl, unhide HH, unhide HO, unhide HG, unhide HB1⟩

end Go.Proofs.YtbogjepkdcknfaaGreat

namespace Go.Proofs.YtbogjepkdcknfaaGreat
open Go.RowKit

theorem learn_val (a b i : Int) : (if a < (if b < i then b else i) then (if b < i then b else i) else a) = max a (min i b) := by
  by_cases h : b < i
  · rw [if_pos h]; split <;> omega
  · rw [if_neg h]; split <;> omega
theorem countC (g : Nat) (a : Option Addr) (n c : Nat) (x : DNode) (w : World) (h : HeldAt w g (.slice a n c) x) :
    Calls Tryz.prog 28 #[.pointer (some ⟨g, 0, none⟩)] w fun e w' => e = .returned (.int .i64 (n : Int)) ∧ w' = w := by
  have y0 := Box.at h 0 _ rfl
  simp only [List.getElem_toArray, List.getElem_cons_zero] at y0
  have yl := h.lt
  clear h
  go_enter Tryz.func28, Tryz.ntmps28
  go_wp2_with fail
  go_ret
  exact ⟨rfl, rfl⟩
set_option maxRecDepth 10000 in
set_option maxHeartbeats 2000000 in
theorem toldC (g : Nat) (a : Option Addr) (n c : Nat) (x : DNode) (w : World) (h : HeldAt w g (.slice a n c) x) :
    Calls Tryz.prog 20 #[.pointer (some ⟨g, 0, none⟩)] w fun e w' => e = .returned (.agg #[.int .i64 x.id, .bool x.up, .int .i64 x.epoch, .int .i64 x.lease, .slice a n c, .int .i64 x.sure, .int .i64 x.clean]) ∧ Below w.heap.size w w' := by
  have k0 := Box.at h 0 _ rfl
  have k1 := Box.at h 1 _ rfl
  have k2 := Box.at h 2 _ rfl
  have k3 := Box.at h 3 _ rfl
  have k4 := Box.at h 4 _ rfl
  have k5 := Box.at h 5 _ rfl
  have k6 := Box.at h 6 _ rfl
  simp only [List.getElem_toArray, List.getElem_cons_zero, List.getElem_cons_succ] at k0 k1 k2 k3 k4 k5 k6
  have hgl := h.lt
  have HB0 := hide ((Below.refl w.heap.size w).alloc (Nat.le_refl _) (.cells #[.int .i64 0, .bool false, .int .i64 0, .int .i64 0, .slice none 0 0, .int .i64 0, .int .i64 0] 26))
  have hRD : Box 0 #[.int .i64 0, .bool false, .int .i64 0, .int .i64 0, .slice none 0 0, .int .i64 0, .int .i64 0] 26 (w.alloc (.cells #[.int .i64 0, .bool false, .int .i64 0, .int .i64 0, .slice none 0 0, .int .i64 0, .int .i64 0] 26)).drew w.heap.size := (newBox (Nat.zero_le _)).drew
  clear h
  go_enter Tryz.func20, Tryz.ntmps20
  go_wp2_with fail
  generalize w.alloc (.cells #[.int .i64 0, .bool false, .int .i64 0, .int .i64 0, .slice none 0 0, .int .i64 0, .int .i64 0] 26) = W0 at *
  refine wp_region_noPanic ?_
  refine wp_region_held_drew (S := fun w' => Below w.heap.size w w') (by kernel_rfl) (unhide HB0).drew (fun hHeld => ?_)
  generalize W0.drew = wD at hHeld hRD ⊢
  refine wpAnyH_take (i := 0) (oi := { dst := some 3, op := Go.Op.move (Go.Operand.tmp 0), type := 48, pos := "l09_node.go:148", after := #[], guard := none }) (v := ?vt0) rfl (by kernel_rfl) (by kernel_rfl) (by kernel_rfl) (fun _ _ _ h => h) (Or.inl ⟨by rfl, ?ht0⟩) hHeld ?rt0
  case ht0 =>
    intro wS hSw
    (try dsimp only at hSw)
    go_simp
    try with_reducible rfl
  case rt0 =>
  simp only [Act.put, List.setIfInBounds_toArray, List.set_cons_zero, List.set_cons_succ]
  refine wpAnyH_take (i := 1) (oi := { dst := some 4, op := Go.Op.nilCheck (Go.Operand.tmp 3), type := 0, pos := "l09_node.go:148", after := #[{ on := 0, ground := Go.Ground.data }], guard := none }) (v := ?vt1) rfl (by kernel_rfl) (by kernel_rfl) (by kernel_rfl) (fun _ _ _ h => h) (Or.inl ⟨by rfl, ?ht1⟩) hHeld ?rt1
  case ht1 =>
    intro wS hSw
    (try dsimp only at hSw)
    go_simp
    try with_reducible rfl
  case rt1 =>
  simp only [Act.put, List.setIfInBounds_toArray, List.set_cons_zero, List.set_cons_succ]
  refine wpAnyH_take (i := 2) (oi := { dst := some 5, op := Go.Op.fieldAddr 64 (Go.Operand.tmp 4) 1, type := 0, pos := "l09_node.go:148", after := #[{ on := 1, ground := Go.Ground.data }], guard := none }) (v := ?vt2) rfl (by kernel_rfl) (by kernel_rfl) (by kernel_rfl) (fun _ _ _ h => h) (Or.inl ⟨by rfl, ?ht2⟩) hHeld ?rt2
  case ht2 =>
    intro wS hSw
    (try dsimp only at hSw)
    go_simp
    try with_reducible rfl
  case rt2 =>
  simp only [Act.put, List.setIfInBounds_toArray, List.set_cons_zero, List.set_cons_succ]
  refine wpAnyH_take (i := 3) (oi := { dst := some 6, op := Go.Op.load 2 (Go.Operand.tmp 5), type := 2, pos := "l09_node.go:148", after := #[{ on := 2, ground := Go.Ground.data }], guard := none }) (v := ?vt3) rfl (by kernel_rfl) (by kernel_rfl) (by kernel_rfl) (fun _ _ _ h => h) (Or.inl ⟨by rfl, ?ht3⟩) hHeld ?rt3
  case ht3 =>
    intro wS hSw
    have y2 : wS.cell? ⟨g, 2, none⟩ = some (.int .i64 x.id) := (hSw.cell (p := ⟨g, 2, none⟩) hgl).trans k2
    clear hSw
    (try dsimp only at hSw)
    go_simp
    try with_reducible rfl
  case rt3 =>
  simp only [Act.put, List.setIfInBounds_toArray, List.set_cons_zero, List.set_cons_succ]
  refine wpAnyH_take (i := 4) (oi := { dst := some 7, op := Go.Op.move (Go.Operand.tmp 0), type := 48, pos := "l09_node.go:148", after := #[], guard := none }) (v := ?vt4) rfl (by kernel_rfl) (by kernel_rfl) (by kernel_rfl) (fun _ _ _ h => h) (Or.inl ⟨by rfl, ?ht4⟩) hHeld ?rt4
  case ht4 =>
    intro wS hSw
    (try dsimp only at hSw)
    go_simp
    try with_reducible rfl
  case rt4 =>
  simp only [Act.put, List.setIfInBounds_toArray, List.set_cons_zero, List.set_cons_succ]
  refine wpAnyH_take (i := 5) (oi := { dst := some 8, op := Go.Op.nilCheck (Go.Operand.tmp 7), type := 0, pos := "l09_node.go:148", after := #[{ on := 4, ground := Go.Ground.data }], guard := none }) (v := ?vt5) rfl (by kernel_rfl) (by kernel_rfl) (by kernel_rfl) (fun _ _ _ h => h) (Or.inl ⟨by rfl, ?ht5⟩) hHeld ?rt5
  case ht5 =>
    intro wS hSw
    (try dsimp only at hSw)
    go_simp
    try with_reducible rfl
  case rt5 =>
  simp only [Act.put, List.setIfInBounds_toArray, List.set_cons_zero, List.set_cons_succ]
  refine wpAnyH_take (i := 6) (oi := { dst := some 9, op := Go.Op.fieldAddr 64 (Go.Operand.tmp 8) 2, type := 0, pos := "l09_node.go:148", after := #[{ on := 5, ground := Go.Ground.data }], guard := none }) (v := ?vt6) rfl (by kernel_rfl) (by kernel_rfl) (by kernel_rfl) (fun _ _ _ h => h) (Or.inl ⟨by rfl, ?ht6⟩) hHeld ?rt6
  case ht6 =>
    intro wS hSw
    (try dsimp only at hSw)
    go_simp
    try with_reducible rfl
  case rt6 =>
  simp only [Act.put, List.setIfInBounds_toArray, List.set_cons_zero, List.set_cons_succ]
  refine wpAnyH_take (i := 7) (oi := { dst := some 10, op := Go.Op.load 4 (Go.Operand.tmp 9), type := 4, pos := "l09_node.go:148", after := #[{ on := 6, ground := Go.Ground.data }], guard := none }) (v := ?vt7) rfl (by kernel_rfl) (by kernel_rfl) (by kernel_rfl) (fun _ _ _ h => h) (Or.inl ⟨by rfl, ?ht7⟩) hHeld ?rt7
  case ht7 =>
    intro wS hSw
    have y3 : wS.cell? ⟨g, 3, none⟩ = some (.bool x.up) := (hSw.cell (p := ⟨g, 3, none⟩) hgl).trans k3
    clear hSw
    (try dsimp only at hSw)
    go_simp
    try with_reducible rfl
  case rt7 =>
  simp only [Act.put, List.setIfInBounds_toArray, List.set_cons_zero, List.set_cons_succ]
  refine wpAnyH_take (i := 8) (oi := { dst := some 11, op := Go.Op.move (Go.Operand.tmp 0), type := 48, pos := "l09_node.go:148", after := #[], guard := none }) (v := ?vt8) rfl (by kernel_rfl) (by kernel_rfl) (by kernel_rfl) (fun _ _ _ h => h) (Or.inl ⟨by rfl, ?ht8⟩) hHeld ?rt8
  case ht8 =>
    intro wS hSw
    (try dsimp only at hSw)
    go_simp
    try with_reducible rfl
  case rt8 =>
  simp only [Act.put, List.setIfInBounds_toArray, List.set_cons_zero, List.set_cons_succ]
  refine wpAnyH_take (i := 9) (oi := { dst := some 12, op := Go.Op.nilCheck (Go.Operand.tmp 11), type := 0, pos := "l09_node.go:148", after := #[{ on := 8, ground := Go.Ground.data }], guard := none }) (v := ?vt9) rfl (by kernel_rfl) (by kernel_rfl) (by kernel_rfl) (fun _ _ _ h => h) (Or.inl ⟨by rfl, ?ht9⟩) hHeld ?rt9
  case ht9 =>
    intro wS hSw
    (try dsimp only at hSw)
    go_simp
    try with_reducible rfl
  case rt9 =>
  simp only [Act.put, List.setIfInBounds_toArray, List.set_cons_zero, List.set_cons_succ]
  refine wpAnyH_take (i := 10) (oi := { dst := some 13, op := Go.Op.fieldAddr 64 (Go.Operand.tmp 12) 3, type := 0, pos := "l09_node.go:148", after := #[{ on := 9, ground := Go.Ground.data }], guard := none }) (v := ?vt10) rfl (by kernel_rfl) (by kernel_rfl) (by kernel_rfl) (fun _ _ _ h => h) (Or.inl ⟨by rfl, ?ht10⟩) hHeld ?rt10
  case ht10 =>
    intro wS hSw
    (try dsimp only at hSw)
    go_simp
    try with_reducible rfl
  case rt10 =>
  simp only [Act.put, List.setIfInBounds_toArray, List.set_cons_zero, List.set_cons_succ]
  refine wpAnyH_take (i := 11) (oi := { dst := some 14, op := Go.Op.load 2 (Go.Operand.tmp 13), type := 2, pos := "l09_node.go:148", after := #[{ on := 10, ground := Go.Ground.data }], guard := none }) (v := ?vt11) rfl (by kernel_rfl) (by kernel_rfl) (by kernel_rfl) (fun _ _ _ h => h) (Or.inl ⟨by rfl, ?ht11⟩) hHeld ?rt11
  case ht11 =>
    intro wS hSw
    have y4 : wS.cell? ⟨g, 4, none⟩ = some (.int .i64 x.epoch) := (hSw.cell (p := ⟨g, 4, none⟩) hgl).trans k4
    clear hSw
    (try dsimp only at hSw)
    go_simp
    try with_reducible rfl
  case rt11 =>
  simp only [Act.put, List.setIfInBounds_toArray, List.set_cons_zero, List.set_cons_succ]
  refine wpAnyH_take (i := 12) (oi := { dst := some 15, op := Go.Op.move (Go.Operand.tmp 0), type := 48, pos := "l09_node.go:148", after := #[], guard := none }) (v := ?vt12) rfl (by kernel_rfl) (by kernel_rfl) (by kernel_rfl) (fun _ _ _ h => h) (Or.inl ⟨by rfl, ?ht12⟩) hHeld ?rt12
  case ht12 =>
    intro wS hSw
    (try dsimp only at hSw)
    go_simp
    try with_reducible rfl
  case rt12 =>
  simp only [Act.put, List.setIfInBounds_toArray, List.set_cons_zero, List.set_cons_succ]
  refine wpAnyH_take (i := 13) (oi := { dst := some 16, op := Go.Op.nilCheck (Go.Operand.tmp 15), type := 0, pos := "l09_node.go:148", after := #[{ on := 12, ground := Go.Ground.data }], guard := none }) (v := ?vt13) rfl (by kernel_rfl) (by kernel_rfl) (by kernel_rfl) (fun _ _ _ h => h) (Or.inl ⟨by rfl, ?ht13⟩) hHeld ?rt13
  case ht13 =>
    intro wS hSw
    (try dsimp only at hSw)
    go_simp
    try with_reducible rfl
  case rt13 =>
  simp only [Act.put, List.setIfInBounds_toArray, List.set_cons_zero, List.set_cons_succ]
  refine wpAnyH_take (i := 14) (oi := { dst := some 17, op := Go.Op.fieldAddr 64 (Go.Operand.tmp 16) 4, type := 0, pos := "l09_node.go:148", after := #[{ on := 13, ground := Go.Ground.data }], guard := none }) (v := ?vt14) rfl (by kernel_rfl) (by kernel_rfl) (by kernel_rfl) (fun _ _ _ h => h) (Or.inl ⟨by rfl, ?ht14⟩) hHeld ?rt14
  case ht14 =>
    intro wS hSw
    (try dsimp only at hSw)
    go_simp
    try with_reducible rfl
  case rt14 =>
  simp only [Act.put, List.setIfInBounds_toArray, List.set_cons_zero, List.set_cons_succ]
  refine wpAnyH_take (i := 15) (oi := { dst := some 18, op := Go.Op.load 2 (Go.Operand.tmp 17), type := 2, pos := "l09_node.go:148", after := #[{ on := 14, ground := Go.Ground.data }], guard := none }) (v := ?vt15) rfl (by kernel_rfl) (by kernel_rfl) (by kernel_rfl) (fun _ _ _ h => h) (Or.inl ⟨by rfl, ?ht15⟩) hHeld ?rt15
  case ht15 =>
    intro wS hSw
    have y5 : wS.cell? ⟨g, 5, none⟩ = some (.int .i64 x.lease) := (hSw.cell (p := ⟨g, 5, none⟩) hgl).trans k5
    clear hSw
    (try dsimp only at hSw)
    go_simp
    try with_reducible rfl
  case rt15 =>
  simp only [Act.put, List.setIfInBounds_toArray, List.set_cons_zero, List.set_cons_succ]
  refine wpAnyH_take (i := 16) (oi := { dst := some 19, op := Go.Op.move (Go.Operand.tmp 0), type := 48, pos := "l09_node.go:148", after := #[], guard := none }) (v := ?vt16) rfl (by kernel_rfl) (by kernel_rfl) (by kernel_rfl) (fun _ _ _ h => h) (Or.inl ⟨by rfl, ?ht16⟩) hHeld ?rt16
  case ht16 =>
    intro wS hSw
    (try dsimp only at hSw)
    go_simp
    try with_reducible rfl
  case rt16 =>
  simp only [Act.put, List.setIfInBounds_toArray, List.set_cons_zero, List.set_cons_succ]
  refine wpAnyH_take (i := 17) (oi := { dst := some 20, op := Go.Op.nilCheck (Go.Operand.tmp 19), type := 0, pos := "l09_node.go:148", after := #[{ on := 16, ground := Go.Ground.data }], guard := none }) (v := ?vt17) rfl (by kernel_rfl) (by kernel_rfl) (by kernel_rfl) (fun _ _ _ h => h) (Or.inl ⟨by rfl, ?ht17⟩) hHeld ?rt17
  case ht17 =>
    intro wS hSw
    (try dsimp only at hSw)
    go_simp
    try with_reducible rfl
  case rt17 =>
  simp only [Act.put, List.setIfInBounds_toArray, List.set_cons_zero, List.set_cons_succ]
  refine wpAnyH_take (i := 18) (oi := { dst := some 21, op := Go.Op.fieldAddr 64 (Go.Operand.tmp 20) 0, type := 0, pos := "l09_node.go:148", after := #[{ on := 17, ground := Go.Ground.data }], guard := none }) (v := ?vt18) rfl (by kernel_rfl) (by kernel_rfl) (by kernel_rfl) (fun _ _ _ h => h) (Or.inl ⟨by rfl, ?ht18⟩) hHeld ?rt18
  case ht18 =>
    intro wS hSw
    (try dsimp only at hSw)
    go_simp
    try with_reducible rfl
  case rt18 =>
  simp only [Act.put, List.setIfInBounds_toArray, List.set_cons_zero, List.set_cons_succ]
  refine wpAnyH_take (i := 19) (oi := { dst := some 22, op := Go.Op.fieldAddr 62 (Go.Operand.tmp 21) 0, type := 0, pos := "l09_node.go:148", after := #[{ on := 18, ground := Go.Ground.data }], guard := none }) (v := ?vt19) rfl (by kernel_rfl) (by kernel_rfl) (by kernel_rfl) (fun _ _ _ h => h) (Or.inl ⟨by rfl, ?ht19⟩) hHeld ?rt19
  case ht19 =>
    intro wS hSw
    (try dsimp only at hSw)
    go_simp
    try with_reducible rfl
  case rt19 =>
  simp only [Act.put, List.setIfInBounds_toArray, List.set_cons_zero, List.set_cons_succ]
  refine wpAnyH_take (i := 20) (oi := { dst := some 23, op := Go.Op.load 24 (Go.Operand.tmp 22), type := 24, pos := "l09_node.go:148", after := #[{ on := 19, ground := Go.Ground.data }], guard := none }) (v := ?vt20) rfl (by kernel_rfl) (by kernel_rfl) (by kernel_rfl) (fun _ _ _ h => h) (Or.inl ⟨by rfl, ?ht20⟩) hHeld ?rt20
  case ht20 =>
    intro wS hSw
    have y0 : wS.cell? ⟨g, 0, none⟩ = some (.slice a n c) := (hSw.cell (p := ⟨g, 0, none⟩) hgl).trans k0
    clear hSw
    (try dsimp only at hSw)
    go_simp
    try with_reducible rfl
  case rt20 =>
  simp only [Act.put, List.setIfInBounds_toArray, List.set_cons_zero, List.set_cons_succ]
  refine wpAnyH_take (i := 21) (oi := { dst := some 24, op := Go.Op.move (Go.Operand.tmp 0), type := 48, pos := "l09_node.go:148", after := #[], guard := none }) (v := ?vt21) rfl (by kernel_rfl) (by kernel_rfl) (by kernel_rfl) (fun _ _ _ h => h) (Or.inl ⟨by rfl, ?ht21⟩) hHeld ?rt21
  case ht21 =>
    intro wS hSw
    (try dsimp only at hSw)
    go_simp
    try with_reducible rfl
  case rt21 =>
  simp only [Act.put, List.setIfInBounds_toArray, List.set_cons_zero, List.set_cons_succ]
  refine wpAnyH_take (i := 22) (oi := { dst := some 25, op := Go.Op.nilCheck (Go.Operand.tmp 24), type := 0, pos := "l09_node.go:148", after := #[{ on := 21, ground := Go.Ground.data }], guard := none }) (v := ?vt22) rfl (by kernel_rfl) (by kernel_rfl) (by kernel_rfl) (fun _ _ _ h => h) (Or.inl ⟨by rfl, ?ht22⟩) hHeld ?rt22
  case ht22 =>
    intro wS hSw
    (try dsimp only at hSw)
    go_simp
    try with_reducible rfl
  case rt22 =>
  simp only [Act.put, List.setIfInBounds_toArray, List.set_cons_zero, List.set_cons_succ]
  refine wpAnyH_take (i := 23) (oi := { dst := some 26, op := Go.Op.fieldAddr 64 (Go.Operand.tmp 25) 0, type := 0, pos := "l09_node.go:148", after := #[{ on := 22, ground := Go.Ground.data }], guard := none }) (v := ?vt23) rfl (by kernel_rfl) (by kernel_rfl) (by kernel_rfl) (fun _ _ _ h => h) (Or.inl ⟨by rfl, ?ht23⟩) hHeld ?rt23
  case ht23 =>
    intro wS hSw
    (try dsimp only at hSw)
    go_simp
    try with_reducible rfl
  case rt23 =>
  simp only [Act.put, List.setIfInBounds_toArray, List.set_cons_zero, List.set_cons_succ]
  refine wpAnyH_take (i := 24) (oi := { dst := some 27, op := Go.Op.fieldAddr 62 (Go.Operand.tmp 26) 1, type := 0, pos := "l09_node.go:148", after := #[{ on := 23, ground := Go.Ground.data }], guard := none }) (v := ?vt24) rfl (by kernel_rfl) (by kernel_rfl) (by kernel_rfl) (fun _ _ _ h => h) (Or.inl ⟨by rfl, ?ht24⟩) hHeld ?rt24
  case ht24 =>
    intro wS hSw
    (try dsimp only at hSw)
    go_simp
    try with_reducible rfl
  case rt24 =>
  simp only [Act.put, List.setIfInBounds_toArray, List.set_cons_zero, List.set_cons_succ]
  refine wpAnyH_take (i := 25) (oi := { dst := some 28, op := Go.Op.load 2 (Go.Operand.tmp 27), type := 2, pos := "l09_node.go:148", after := #[{ on := 24, ground := Go.Ground.data }], guard := none }) (v := ?vt25) rfl (by kernel_rfl) (by kernel_rfl) (by kernel_rfl) (fun _ _ _ h => h) (Or.inl ⟨by rfl, ?ht25⟩) hHeld ?rt25
  case ht25 =>
    intro wS hSw
    have y1 : wS.cell? ⟨g, 1, none⟩ = some (.int .i64 x.sure) := (hSw.cell (p := ⟨g, 1, none⟩) hgl).trans k1
    clear hSw
    (try dsimp only at hSw)
    go_simp
    try with_reducible rfl
  case rt25 =>
  simp only [Act.put, List.setIfInBounds_toArray, List.set_cons_zero, List.set_cons_succ]
  refine wpAnyH_take (i := 26) (oi := { dst := some 29, op := Go.Op.move (Go.Operand.tmp 0), type := 48, pos := "l09_node.go:148", after := #[], guard := none }) (v := ?vt26) rfl (by kernel_rfl) (by kernel_rfl) (by kernel_rfl) (fun _ _ _ h => h) (Or.inl ⟨by rfl, ?ht26⟩) hHeld ?rt26
  case ht26 =>
    intro wS hSw
    (try dsimp only at hSw)
    go_simp
    try with_reducible rfl
  case rt26 =>
  simp only [Act.put, List.setIfInBounds_toArray, List.set_cons_zero, List.set_cons_succ]
  refine wpAnyH_take (i := 27) (oi := { dst := some 30, op := Go.Op.nilCheck (Go.Operand.tmp 29), type := 0, pos := "l09_node.go:148", after := #[{ on := 26, ground := Go.Ground.data }], guard := none }) (v := ?vt27) rfl (by kernel_rfl) (by kernel_rfl) (by kernel_rfl) (fun _ _ _ h => h) (Or.inl ⟨by rfl, ?ht27⟩) hHeld ?rt27
  case ht27 =>
    intro wS hSw
    (try dsimp only at hSw)
    go_simp
    try with_reducible rfl
  case rt27 =>
  simp only [Act.put, List.setIfInBounds_toArray, List.set_cons_zero, List.set_cons_succ]
  refine wpAnyH_take (i := 28) (oi := { dst := some 31, op := Go.Op.fieldAddr 64 (Go.Operand.tmp 30) 5, type := 0, pos := "l09_node.go:148", after := #[{ on := 27, ground := Go.Ground.data }], guard := none }) (v := ?vt28) rfl (by kernel_rfl) (by kernel_rfl) (by kernel_rfl) (fun _ _ _ h => h) (Or.inl ⟨by rfl, ?ht28⟩) hHeld ?rt28
  case ht28 =>
    intro wS hSw
    (try dsimp only at hSw)
    go_simp
    try with_reducible rfl
  case rt28 =>
  simp only [Act.put, List.setIfInBounds_toArray, List.set_cons_zero, List.set_cons_succ]
  refine wpAnyH_take (i := 29) (oi := { dst := some 32, op := Go.Op.load 2 (Go.Operand.tmp 31), type := 2, pos := "l09_node.go:148", after := #[{ on := 28, ground := Go.Ground.data }], guard := none }) (v := ?vt29) rfl (by kernel_rfl) (by kernel_rfl) (by kernel_rfl) (fun _ _ _ h => h) (Or.inl ⟨by rfl, ?ht29⟩) hHeld ?rt29
  case ht29 =>
    intro wS hSw
    have y6 : wS.cell? ⟨g, 6, none⟩ = some (.int .i64 x.clean) := (hSw.cell (p := ⟨g, 6, none⟩) hgl).trans k6
    clear hSw
    (try dsimp only at hSw)
    go_simp
    try with_reducible rfl
  case rt29 =>
  simp only [Act.put, List.setIfInBounds_toArray, List.set_cons_zero, List.set_cons_succ]
  refine wpAnyH_take (i := 30) (oi := { dst := some 33, op := Go.Op.build 26 #[(0, Go.Operand.tmp 6), (1, Go.Operand.tmp 10), (2, Go.Operand.tmp 14), (3, Go.Operand.tmp 18), (4, Go.Operand.tmp 23), (5, Go.Operand.tmp 28), (6, Go.Operand.tmp 32)], type := 26, pos := "l09_node.go:148", after := #[{ on := 3, ground := Go.Ground.data }, { on := 7, ground := Go.Ground.data }, { on := 11, ground := Go.Ground.data }, { on := 15, ground := Go.Ground.data }, { on := 20, ground := Go.Ground.data }, { on := 25, ground := Go.Ground.data }, { on := 29, ground := Go.Ground.data }], guard := none }) (v := ?vt30) rfl (by kernel_rfl) (by kernel_rfl) (by kernel_rfl) (fun _ _ _ h => h) (Or.inl ⟨by rfl, ?ht30⟩) hHeld ?rt30
  case ht30 =>
    intro wS hSw
    (try dsimp only at hSw)
    go_simp
    try with_reducible rfl
  case rt30 =>
  simp only [Act.put, List.setIfInBounds_toArray, List.set_cons_zero, List.set_cons_succ]
  refine wpAnyH_ready (rs := [31]) (by kernel_rfl) (by simp) ?_
  refine AllReadyH.cons (o := { dst := none, op := Go.Op.store 26 (Go.Operand.tmp 2) (Go.Operand.tmp 33), type := 0, pos := "l09_node.go:148", after := #[{ on := 30, ground := Go.Ground.data }, { on := 0, ground := Go.Ground.phase }, { on := 1, ground := Go.Ground.phase }, { on := 2, ground := Go.Ground.phase }, { on := 3, ground := Go.Ground.phase }, { on := 4, ground := Go.Ground.phase }, { on := 5, ground := Go.Ground.phase }, { on := 6, ground := Go.Ground.phase }, { on := 7, ground := Go.Ground.phase }, { on := 8, ground := Go.Ground.phase }, { on := 9, ground := Go.Ground.phase }, { on := 10, ground := Go.Ground.phase }, { on := 11, ground := Go.Ground.phase }, { on := 12, ground := Go.Ground.phase }, { on := 13, ground := Go.Ground.phase }, { on := 14, ground := Go.Ground.phase }, { on := 15, ground := Go.Ground.phase }, { on := 16, ground := Go.Ground.phase }, { on := 17, ground := Go.Ground.phase }, { on := 18, ground := Go.Ground.phase }, { on := 19, ground := Go.Ground.phase }, { on := 20, ground := Go.Ground.phase }, { on := 21, ground := Go.Ground.phase }, { on := 22, ground := Go.Ground.phase }, { on := 23, ground := Go.Ground.phase }, { on := 24, ground := Go.Ground.phase }, { on := 25, ground := Go.Ground.phase }, { on := 26, ground := Go.Ground.phase }, { on := 27, ground := Go.Ground.phase }, { on := 28, ground := Go.Ground.phase }, { on := 29, ground := Go.Ground.phase }, { on := 30, ground := Go.Ground.phase }], guard := none }) rfl (fun K hK => ?_) AllReadyH.nil
  have z0 := Box.at hRD 0 _ rfl
  have z1 := Box.at hRD 1 _ rfl
  have z2 := Box.at hRD 2 _ rfl
  have z3 := Box.at hRD 3 _ rfl
  have z4 := Box.at hRD 4 _ rfl
  have z5 := Box.at hRD 5 _ rfl
  have z6 := Box.at hRD 6 _ rfl
  simp only [List.getElem_toArray, List.getElem_cons_zero, List.getElem_cons_succ] at z0 z1 z2 z3 z4 z5 z6
  have ff := Box.soft hRD
  have l0 := Box.lt hRD
  go_simp
  try go_wp2_with fail
  refine hK.out _ _ (below_setAll hHeld w.heap.size 0 [.int .i64 x.id, .bool x.up, .int .i64 x.epoch, .int .i64 x.lease, .slice a n c, .int .i64 x.sure, .int .i64 x.clean] (Nat.le_refl _)) (fun hHeld => ?_)
  clear hK K
  try simp only [Act.put, List.setIfInBounds_toArray, List.set_cons_zero, List.set_cons_succ]
  refine wpAnyH_done (by kernel_rfl) ?_ _
  refine NoPanic.normal ?_
  have HB9 := hide (hHeld)
  clear hHeld
  go_wp2_with fail
  refine bodyPost_ret (v := .agg #[.int .i64 x.id, .bool x.up, .int .i64 x.epoch, .int .i64 x.lease, .slice a n c, .int .i64 x.sure, .int .i64 x.clean]) (by simp [results, Tryz.results20, go_sem, z0, z1, z2, z3, z4, z5, z6]) rfl ?_
  exact ⟨rfl, unhide HB9⟩
set_option maxRecDepth 10000 in
set_option maxHeartbeats 2000000 in
theorem learnC (g : Nat) (a : Option Addr) (n c : Nat) (x : DNode) (i : Int) (w : World) (h : HeldAt w g (.slice a n c) x) :
    Calls Tryz.prog 19 #[.pointer (some ⟨g, 0, none⟩), .int .i64 i] w fun e w' => e = .returned (.tuple #[]) ∧ HeldAt w' g (.slice a n c) ⟨x.id, x.up, x.epoch, x.lease, x.writes, x.sure, max x.clean (min i x.sure)⟩ ∧ Ext (fun q => q = g) w w' := by
  have hHD : HeldAt w.drew g (.slice a n c) x := h
  have k0 := Box.at hHD 0 _ rfl
  have k1 := Box.at hHD 1 _ rfl
  have k6 := Box.at hHD 6 _ rfl
  have kf := Box.soft hHD
  have kl := Box.lt hHD
  simp only [List.getElem_toArray, List.getElem_cons_zero, List.getElem_cons_succ] at k0 k1 k6
  clear h
  go_enter Tryz.func19, Tryz.ntmps19
  go_wp2_with fail
  refine wp_region_noPanic ?_
  refine wp_region_held_drew (S := fun w' => Ext (fun q => q = g) w w') (by kernel_rfl) ((Ext.refl _ _).drew 1) (fun hHeld => ?_)
  generalize w.drew = wD at hHeld k0 k1 k6 kf kl hHD ⊢
  refine wpAnyH_take (i := 0) (oi := { dst := some 4, op := Go.Op.move (Go.Operand.tmp 0), type := 48, pos := "l09_node.go:162", after := #[], guard := none }) (v := ?vl0_1) rfl (by kernel_rfl) (by kernel_rfl) (by kernel_rfl) (fun _ _ _ h => h) (Or.inl ⟨by rfl, ?hl0_1⟩) hHeld ?rl0_1
  case hl0_1 =>
    intro wS hSw
    (try dsimp only at hSw)
    go_simp
    try with_reducible rfl
  case rl0_1 =>
  simp only [Act.put, List.setIfInBounds_toArray, List.set_cons_zero, List.set_cons_succ]
  refine wpAnyH_take (i := 1) (oi := { dst := some 5, op := Go.Op.move (Go.Operand.tmp 0), type := 48, pos := "l09_node.go:162", after := #[], guard := none }) (v := ?vl1_2) rfl (by kernel_rfl) (by kernel_rfl) (by kernel_rfl) (fun _ _ _ h => h) (Or.inl ⟨by rfl, ?hl1_2⟩) hHeld ?rl1_2
  case hl1_2 =>
    intro wS hSw
    (try dsimp only at hSw)
    go_simp
    try with_reducible rfl
  case rl1_2 =>
  simp only [Act.put, List.setIfInBounds_toArray, List.set_cons_zero, List.set_cons_succ]
  refine wpAnyH_take (i := 2) (oi := { dst := some 6, op := Go.Op.nilCheck (Go.Operand.tmp 5), type := 0, pos := "l09_node.go:162", after := #[{ on := 1, ground := Go.Ground.data }], guard := none }) (v := ?vl2_3) rfl (by kernel_rfl) (by kernel_rfl) (by kernel_rfl) (fun _ _ _ h => h) (Or.inl ⟨by rfl, ?hl2_3⟩) hHeld ?rl2_3
  case hl2_3 =>
    intro wS hSw
    (try dsimp only at hSw)
    go_simp
    try with_reducible rfl
  case rl2_3 =>
  simp only [Act.put, List.setIfInBounds_toArray, List.set_cons_zero, List.set_cons_succ]
  refine wpAnyH_take (i := 3) (oi := { dst := some 7, op := Go.Op.fieldAddr 64 (Go.Operand.tmp 6) 5, type := 0, pos := "l09_node.go:162", after := #[{ on := 2, ground := Go.Ground.data }], guard := none }) (v := ?vl3_4) rfl (by kernel_rfl) (by kernel_rfl) (by kernel_rfl) (fun _ _ _ h => h) (Or.inl ⟨by rfl, ?hl3_4⟩) hHeld ?rl3_4
  case hl3_4 =>
    intro wS hSw
    (try dsimp only at hSw)
    go_simp
    try with_reducible rfl
  case rl3_4 =>
  simp only [Act.put, List.setIfInBounds_toArray, List.set_cons_zero, List.set_cons_succ]
  refine wpAnyH_take (i := 5) (oi := { dst := some 9, op := Go.Op.move (Go.Operand.tmp 1), type := 2, pos := "l09_node.go:162", after := #[], guard := none }) (v := ?vl5_5) rfl (by kernel_rfl) (by kernel_rfl) (by kernel_rfl) (fun _ _ _ h => h) (Or.inl ⟨by rfl, ?hl5_5⟩) hHeld ?rl5_5
  case hl5_5 =>
    intro wS hSw
    (try dsimp only at hSw)
    go_simp
    try with_reducible rfl
  case rl5_5 =>
  simp only [Act.put, List.setIfInBounds_toArray, List.set_cons_zero, List.set_cons_succ]
  refine wpAnyH_take (i := 6) (oi := { dst := some 10, op := Go.Op.move (Go.Operand.tmp 0), type := 48, pos := "l09_node.go:162", after := #[], guard := none }) (v := ?vl6_6) rfl (by kernel_rfl) (by kernel_rfl) (by kernel_rfl) (fun _ _ _ h => h) (Or.inl ⟨by rfl, ?hl6_6⟩) hHeld ?rl6_6
  case hl6_6 =>
    intro wS hSw
    (try dsimp only at hSw)
    go_simp
    try with_reducible rfl
  case rl6_6 =>
  simp only [Act.put, List.setIfInBounds_toArray, List.set_cons_zero, List.set_cons_succ]
  refine wpAnyH_take (i := 7) (oi := { dst := some 11, op := Go.Op.nilCheck (Go.Operand.tmp 10), type := 0, pos := "l09_node.go:162", after := #[{ on := 6, ground := Go.Ground.data }], guard := none }) (v := ?vl7_7) rfl (by kernel_rfl) (by kernel_rfl) (by kernel_rfl) (fun _ _ _ h => h) (Or.inl ⟨by rfl, ?hl7_7⟩) hHeld ?rl7_7
  case hl7_7 =>
    intro wS hSw
    (try dsimp only at hSw)
    go_simp
    try with_reducible rfl
  case rl7_7 =>
  simp only [Act.put, List.setIfInBounds_toArray, List.set_cons_zero, List.set_cons_succ]
  refine wpAnyH_take (i := 8) (oi := { dst := some 12, op := Go.Op.fieldAddr 64 (Go.Operand.tmp 11) 0, type := 0, pos := "l09_node.go:162", after := #[{ on := 7, ground := Go.Ground.data }], guard := none }) (v := ?vl8_8) rfl (by kernel_rfl) (by kernel_rfl) (by kernel_rfl) (fun _ _ _ h => h) (Or.inl ⟨by rfl, ?hl8_8⟩) hHeld ?rl8_8
  case hl8_8 =>
    intro wS hSw
    (try dsimp only at hSw)
    go_simp
    try with_reducible rfl
  case rl8_8 =>
  simp only [Act.put, List.setIfInBounds_toArray, List.set_cons_zero, List.set_cons_succ]
  refine wpAnyH_take (i := 9) (oi := { dst := some 13, op := Go.Op.fieldAddr 62 (Go.Operand.tmp 12) 1, type := 0, pos := "l09_node.go:162", after := #[{ on := 8, ground := Go.Ground.data }], guard := none }) (v := ?vl9_9) rfl (by kernel_rfl) (by kernel_rfl) (by kernel_rfl) (fun _ _ _ h => h) (Or.inl ⟨by rfl, ?hl9_9⟩) hHeld ?rl9_9
  case hl9_9 =>
    intro wS hSw
    (try dsimp only at hSw)
    go_simp
    try with_reducible rfl
  case rl9_9 =>
  simp only [Act.put, List.setIfInBounds_toArray, List.set_cons_zero, List.set_cons_succ]
  refine wpAnyH_ready (rs := [4, 10]) (by kernel_rfl) (by simp) ?_
  refine AllReadyH.cons (o := { dst := some 8, op := Go.Op.load 2 (Go.Operand.tmp 7), type := 2, pos := "l09_node.go:162", after := #[{ on := 3, ground := Go.Ground.data }], guard := none }) rfl (fun K hK => ?ol4_10) (AllReadyH.cons (o := { dst := some 14, op := Go.Op.load 2 (Go.Operand.tmp 13), type := 2, pos := "l09_node.go:162", after := #[{ on := 9, ground := Go.Ground.data }], guard := none }) rfl (fun K hK => ?ol10_10) (AllReadyH.nil))
  case ol4_10 =>
    go_simp
    refine hK.out _ _ hHeld (fun hHeld => ?_)
    clear hK K
    try simp only [Act.put, List.setIfInBounds_toArray, List.set_cons_zero, List.set_cons_succ]
    refine wpAnyH_ready (rs := [10]) (by kernel_rfl) (by simp) ?_
    refine AllReadyH.cons (o := { dst := some 14, op := Go.Op.load 2 (Go.Operand.tmp 13), type := 2, pos := "l09_node.go:162", after := #[{ on := 9, ground := Go.Ground.data }], guard := none }) rfl (fun K hK => ?_) AllReadyH.nil
    go_simp
    refine hK.out _ _ hHeld (fun hHeld => ?_)
    clear hK K
    try simp only [Act.put, List.setIfInBounds_toArray, List.set_cons_zero, List.set_cons_succ]
    refine wpAnyH_take (i := 11) (oi := { dst := some 15, op := Go.Op.call { callee := Go.Callee.builtin Go.Builtin.min, args := #[Go.Operand.tmp 9, Go.Operand.tmp 14], argTypes := #[2, 2] }, type := 2, pos := "l09_node.go:162", after := #[{ on := 5, ground := Go.Ground.data }, { on := 10, ground := Go.Ground.data }], guard := none }) (v := ?vl11_11) rfl (by kernel_rfl) (by kernel_rfl) (by kernel_rfl) (fun _ _ _ h => h) (Or.inl ⟨by rfl, ?hl11_11⟩) hHeld ?rl11_11
    case hl11_11 =>
      intro wS hSw
      (try dsimp only at hSw)
      go_simp
      try with_reducible rfl
    case rl11_11 =>
    simp only [Act.put, List.setIfInBounds_toArray, List.set_cons_zero, List.set_cons_succ]
    refine wpAnyH_take (i := 12) (oi := { dst := some 16, op := Go.Op.call { callee := Go.Callee.builtin Go.Builtin.max, args := #[Go.Operand.tmp 8, Go.Operand.tmp 15], argTypes := #[2, 2] }, type := 2, pos := "l09_node.go:162", after := #[{ on := 4, ground := Go.Ground.data }, { on := 11, ground := Go.Ground.data }], guard := none }) (v := ?vl12_12) rfl (by kernel_rfl) (by kernel_rfl) (by kernel_rfl) (fun _ _ _ h => h) (Or.inl ⟨by rfl, ?hl12_12⟩) hHeld ?rl12_12
    case hl12_12 =>
      intro wS hSw
      (try dsimp only at hSw)
      go_simp
      try with_reducible rfl
    case rl12_12 =>
    simp only [Act.put, List.setIfInBounds_toArray, List.set_cons_zero, List.set_cons_succ]
    refine wpAnyH_take (i := 13) (oi := { dst := some 17, op := Go.Op.nilCheck (Go.Operand.tmp 4), type := 0, pos := "l09_node.go:162", after := #[{ on := 0, ground := Go.Ground.data }, { on := 0, ground := Go.Ground.phase }, { on := 1, ground := Go.Ground.phase }, { on := 2, ground := Go.Ground.phase }, { on := 3, ground := Go.Ground.phase }, { on := 4, ground := Go.Ground.phase }, { on := 5, ground := Go.Ground.phase }, { on := 6, ground := Go.Ground.phase }, { on := 7, ground := Go.Ground.phase }, { on := 8, ground := Go.Ground.phase }, { on := 9, ground := Go.Ground.phase }, { on := 10, ground := Go.Ground.phase }, { on := 11, ground := Go.Ground.phase }, { on := 12, ground := Go.Ground.phase }], guard := none }) (v := ?vl13_13) rfl (by kernel_rfl) (by kernel_rfl) (by kernel_rfl) (fun _ _ _ h => h) (Or.inl ⟨by rfl, ?hl13_13⟩) hHeld ?rl13_13
    case hl13_13 =>
      intro wS hSw
      (try dsimp only at hSw)
      go_simp
      try with_reducible rfl
    case rl13_13 =>
    simp only [Act.put, List.setIfInBounds_toArray, List.set_cons_zero, List.set_cons_succ]
    refine wpAnyH_take (i := 14) (oi := { dst := some 18, op := Go.Op.fieldAddr 64 (Go.Operand.tmp 17) 5, type := 0, pos := "l09_node.go:162", after := #[{ on := 13, ground := Go.Ground.data }, { on := 0, ground := Go.Ground.phase }, { on := 1, ground := Go.Ground.phase }, { on := 2, ground := Go.Ground.phase }, { on := 3, ground := Go.Ground.phase }, { on := 4, ground := Go.Ground.phase }, { on := 5, ground := Go.Ground.phase }, { on := 6, ground := Go.Ground.phase }, { on := 7, ground := Go.Ground.phase }, { on := 8, ground := Go.Ground.phase }, { on := 9, ground := Go.Ground.phase }, { on := 10, ground := Go.Ground.phase }, { on := 11, ground := Go.Ground.phase }, { on := 12, ground := Go.Ground.phase }], guard := none }) (v := ?vl14_14) rfl (by kernel_rfl) (by kernel_rfl) (by kernel_rfl) (fun _ _ _ h => h) (Or.inl ⟨by rfl, ?hl14_14⟩) hHeld ?rl14_14
    case hl14_14 =>
      intro wS hSw
      (try dsimp only at hSw)
      go_simp
      try with_reducible rfl
    case rl14_14 =>
    simp only [Act.put, List.setIfInBounds_toArray, List.set_cons_zero, List.set_cons_succ]
    refine wpAnyH_ready (rs := [15]) (by kernel_rfl) (by simp) ?_
    refine AllReadyH.cons (o := { dst := none, op := Go.Op.store 2 (Go.Operand.tmp 18) (Go.Operand.tmp 16), type := 0, pos := "l09_node.go:162", after := #[{ on := 14, ground := Go.Ground.data }, { on := 12, ground := Go.Ground.data }, { on := 0, ground := Go.Ground.phase }, { on := 1, ground := Go.Ground.phase }, { on := 2, ground := Go.Ground.phase }, { on := 3, ground := Go.Ground.phase }, { on := 4, ground := Go.Ground.phase }, { on := 5, ground := Go.Ground.phase }, { on := 6, ground := Go.Ground.phase }, { on := 7, ground := Go.Ground.phase }, { on := 8, ground := Go.Ground.phase }, { on := 9, ground := Go.Ground.phase }, { on := 10, ground := Go.Ground.phase }, { on := 11, ground := Go.Ground.phase }, { on := 12, ground := Go.Ground.phase }], guard := none }) rfl (fun K hK => ?_) AllReadyH.nil
    go_simp
    refine hK.out _ _ (hHeld.setCell ⟨g, 6, none⟩ _ rfl) (fun hHeld => ?_)
    clear hK K
    try simp only [Act.put, List.setIfInBounds_toArray, List.set_cons_zero, List.set_cons_succ]
    refine wpAnyH_done (by kernel_rfl) ?_ _
    refine NoPanic.normal ?_
    have HE := hide hHeld
    have HH := hide (Box.set hHD 6 (.int .i64 (max x.clean (min i x.sure))))
    clear hHeld hHD
    first | rw [learn_val] at HE ⊢ | skip
    generalize (if x.sure < i then x.sure else i) = mn
    go_wp2_with fail
    refine bodyPost_end (v := .tuple #[]) (by simp [results, Tryz.results19, go_sem]) rfl ?_
    exact ⟨rfl, unhide HH, unhide HE⟩
  case ol10_10 =>
    go_simp
    refine hK.out _ _ hHeld (fun hHeld => ?_)
    clear hK K
    try simp only [Act.put, List.setIfInBounds_toArray, List.set_cons_zero, List.set_cons_succ]
    refine wpAnyH_take (i := 11) (oi := { dst := some 15, op := Go.Op.call { callee := Go.Callee.builtin Go.Builtin.min, args := #[Go.Operand.tmp 9, Go.Operand.tmp 14], argTypes := #[2, 2] }, type := 2, pos := "l09_node.go:162", after := #[{ on := 5, ground := Go.Ground.data }, { on := 10, ground := Go.Ground.data }], guard := none }) (v := ?vl11_15) rfl (by kernel_rfl) (by kernel_rfl) (by kernel_rfl) (fun _ _ _ h => h) (Or.inl ⟨by rfl, ?hl11_15⟩) hHeld ?rl11_15
    case hl11_15 =>
      intro wS hSw
      (try dsimp only at hSw)
      go_simp
      try with_reducible rfl
    case rl11_15 =>
    simp only [Act.put, List.setIfInBounds_toArray, List.set_cons_zero, List.set_cons_succ]
    refine wpAnyH_ready (rs := [4]) (by kernel_rfl) (by simp) ?_
    refine AllReadyH.cons (o := { dst := some 8, op := Go.Op.load 2 (Go.Operand.tmp 7), type := 2, pos := "l09_node.go:162", after := #[{ on := 3, ground := Go.Ground.data }], guard := none }) rfl (fun K hK => ?_) AllReadyH.nil
    go_simp
    refine hK.out _ _ hHeld (fun hHeld => ?_)
    clear hK K
    try simp only [Act.put, List.setIfInBounds_toArray, List.set_cons_zero, List.set_cons_succ]
    refine wpAnyH_take (i := 12) (oi := { dst := some 16, op := Go.Op.call { callee := Go.Callee.builtin Go.Builtin.max, args := #[Go.Operand.tmp 8, Go.Operand.tmp 15], argTypes := #[2, 2] }, type := 2, pos := "l09_node.go:162", after := #[{ on := 4, ground := Go.Ground.data }, { on := 11, ground := Go.Ground.data }], guard := none }) (v := ?vl12_16) rfl (by kernel_rfl) (by kernel_rfl) (by kernel_rfl) (fun _ _ _ h => h) (Or.inl ⟨by rfl, ?hl12_16⟩) hHeld ?rl12_16
    case hl12_16 =>
      intro wS hSw
      (try dsimp only at hSw)
      go_simp
      try with_reducible rfl
    case rl12_16 =>
    simp only [Act.put, List.setIfInBounds_toArray, List.set_cons_zero, List.set_cons_succ]
    refine wpAnyH_take (i := 13) (oi := { dst := some 17, op := Go.Op.nilCheck (Go.Operand.tmp 4), type := 0, pos := "l09_node.go:162", after := #[{ on := 0, ground := Go.Ground.data }, { on := 0, ground := Go.Ground.phase }, { on := 1, ground := Go.Ground.phase }, { on := 2, ground := Go.Ground.phase }, { on := 3, ground := Go.Ground.phase }, { on := 4, ground := Go.Ground.phase }, { on := 5, ground := Go.Ground.phase }, { on := 6, ground := Go.Ground.phase }, { on := 7, ground := Go.Ground.phase }, { on := 8, ground := Go.Ground.phase }, { on := 9, ground := Go.Ground.phase }, { on := 10, ground := Go.Ground.phase }, { on := 11, ground := Go.Ground.phase }, { on := 12, ground := Go.Ground.phase }], guard := none }) (v := ?vl13_17) rfl (by kernel_rfl) (by kernel_rfl) (by kernel_rfl) (fun _ _ _ h => h) (Or.inl ⟨by rfl, ?hl13_17⟩) hHeld ?rl13_17
    case hl13_17 =>
      intro wS hSw
      (try dsimp only at hSw)
      go_simp
      try with_reducible rfl
    case rl13_17 =>
    simp only [Act.put, List.setIfInBounds_toArray, List.set_cons_zero, List.set_cons_succ]
    refine wpAnyH_take (i := 14) (oi := { dst := some 18, op := Go.Op.fieldAddr 64 (Go.Operand.tmp 17) 5, type := 0, pos := "l09_node.go:162", after := #[{ on := 13, ground := Go.Ground.data }, { on := 0, ground := Go.Ground.phase }, { on := 1, ground := Go.Ground.phase }, { on := 2, ground := Go.Ground.phase }, { on := 3, ground := Go.Ground.phase }, { on := 4, ground := Go.Ground.phase }, { on := 5, ground := Go.Ground.phase }, { on := 6, ground := Go.Ground.phase }, { on := 7, ground := Go.Ground.phase }, { on := 8, ground := Go.Ground.phase }, { on := 9, ground := Go.Ground.phase }, { on := 10, ground := Go.Ground.phase }, { on := 11, ground := Go.Ground.phase }, { on := 12, ground := Go.Ground.phase }], guard := none }) (v := ?vl14_18) rfl (by kernel_rfl) (by kernel_rfl) (by kernel_rfl) (fun _ _ _ h => h) (Or.inl ⟨by rfl, ?hl14_18⟩) hHeld ?rl14_18
    case hl14_18 =>
      intro wS hSw
      (try dsimp only at hSw)
      go_simp
      try with_reducible rfl
    case rl14_18 =>
    simp only [Act.put, List.setIfInBounds_toArray, List.set_cons_zero, List.set_cons_succ]
    refine wpAnyH_ready (rs := [15]) (by kernel_rfl) (by simp) ?_
    refine AllReadyH.cons (o := { dst := none, op := Go.Op.store 2 (Go.Operand.tmp 18) (Go.Operand.tmp 16), type := 0, pos := "l09_node.go:162", after := #[{ on := 14, ground := Go.Ground.data }, { on := 12, ground := Go.Ground.data }, { on := 0, ground := Go.Ground.phase }, { on := 1, ground := Go.Ground.phase }, { on := 2, ground := Go.Ground.phase }, { on := 3, ground := Go.Ground.phase }, { on := 4, ground := Go.Ground.phase }, { on := 5, ground := Go.Ground.phase }, { on := 6, ground := Go.Ground.phase }, { on := 7, ground := Go.Ground.phase }, { on := 8, ground := Go.Ground.phase }, { on := 9, ground := Go.Ground.phase }, { on := 10, ground := Go.Ground.phase }, { on := 11, ground := Go.Ground.phase }, { on := 12, ground := Go.Ground.phase }], guard := none }) rfl (fun K hK => ?_) AllReadyH.nil
    go_simp
    refine hK.out _ _ (hHeld.setCell ⟨g, 6, none⟩ _ rfl) (fun hHeld => ?_)
    clear hK K
    try simp only [Act.put, List.setIfInBounds_toArray, List.set_cons_zero, List.set_cons_succ]
    refine wpAnyH_done (by kernel_rfl) ?_ _
    refine NoPanic.normal ?_
    have HE := hide hHeld
    have HH := hide (Box.set hHD 6 (.int .i64 (max x.clean (min i x.sure))))
    clear hHeld hHD
    first | rw [learn_val] at HE ⊢ | skip
    generalize (if x.sure < i then x.sure else i) = mn
    go_wp2_with fail
    refine bodyPost_end (v := .tuple #[]) (by simp [results, Tryz.results19, go_sem]) rfl ?_
    exact ⟨rfl, unhide HH, unhide HE⟩
end Go.Proofs.YtbogjepkdcknfaaGreat

namespace Go.Proofs.YtbogjepkdcknfaaGreat
open Go.RowKit

set_option maxRecDepth 10000 in
set_option maxHeartbeats 2000000 in
theorem implCleanNode (cs : List Value) (x : DNode) (i : Int) (w : World) (h : Lay.tNode.Reads w cs x) :
    Calls Tryz.prog 6 #[.agg cs.toArray, .int .i64 i] w fun e w' => ∃ cs, e = .returned (.agg cs.toArray) ∧ Lay.tNodeResult.OwnIn w' cs (cleanR x i) w.heap.size w'.heap.size ∧ Below w.heap.size w w' := by
  have hN := h
  obtain ⟨a4, d4, rfl, R4⟩ := open_Node h
  have nb : Below w.heap.size w ((w.alloc (.cells #[.int .i64 x.id, .bool x.up, .int .i64 x.epoch, .int .i64 x.lease, .slice a4 x.writes.length d4, .int .i64 x.sure, .int .i64 x.clean] 26)).alloc (.cells #[.int .i64 0, .int .i64 0, .int .i64 0, .bool false, .int .i64 0, .int .i64 0, .slice none 0 0, .int .i64 0, .int .i64 0] 30)) := ((Below.refl _ _).alloc (Nat.le_refl _) _).alloc (by simp) _
  have bR : Box 0 #[.int .i64 0, .int .i64 0, .int .i64 0, .bool false, .int .i64 0, .int .i64 0, .slice none 0 0, .int .i64 0, .int .i64 0] 30 ((w.alloc (.cells #[.int .i64 x.id, .bool x.up, .int .i64 x.epoch, .int .i64 x.lease, .slice a4 x.writes.length d4, .int .i64 x.sure, .int .i64 x.clean] 26)).alloc (.cells #[.int .i64 0, .int .i64 0, .int .i64 0, .bool false, .int .i64 0, .int .i64 0, .slice none 0 0, .int .i64 0, .int .i64 0] 30)) (w.heap.size + 1) := newBoxAt (Nat.zero_le _) (by simp)
  by_cases hf : askedN x = 0
  · have hok := (askedN_zero hf).1
    have HL := hide (upNode_ok _ x _ (hN.later nb) hf)
    have HA := hide hf
    have HOK := hide hok
    have HB0 := hide nb
    have HR0 := hide bR
    clear hN nb bR R4 hf hok
    go_enter Tryz.func6, Tryz.ntmps6
    go_wp2_with fail
    generalize (w.alloc (.cells #[.int .i64 x.id, .bool x.up, .int .i64 x.epoch, .int .i64 x.lease, .slice a4 x.writes.length d4, .int .i64 x.sure, .int .i64 x.clean] 26)).alloc (.cells #[.int .i64 0, .int .i64 0, .int .i64 0, .bool false, .int .i64 0, .int .i64 0, .slice none 0 0, .int .i64 0, .int .i64 0] 30) = W0 at *
    refine (unhide HL).mono ?_
    rintro e w1 ⟨g, gw, rfl, hH, O, hg, hb⟩
    have HR1 := hide ((unhide HR0).keep hb)
    have hgr : w.heap.size + 1 < g := by have := (unhide HR0).lt; omega
    have HB1 := hide ((unhide HB0).trans (hb.mono (unhide HB0).size))
    have HH1 := hide hH
    have HO1 := hide O
    have hgl := hH.lt
    clear hb HL HB0 HR0 hH O hg
    have LU := hide (isUpToC i 40 w1)
    go_wp2_with fail
    refine (unhide LU).mono ?_
    rintro e w2 ⟨rfl, h2⟩
    subst w2
    clear LU
    by_cases hi : 0 ≤ i ∧ i ≤ 40
    · have hd2 : (decide (0 ≤ i) && decide (i ≤ 40)) = true := by simpa using hi
      rw [hd2]
      clear hd2
      have HL2 := hide (learnC g _ _ _ x i w1 (unhide HH1))
      go_wp2_with fail
      refine (unhide HL2).mono ?_
      rintro e w2 ⟨rfl, hH2, hE2⟩
      have HR2 := hide ((unhide HR1).ext hE2 (by omega))
      have HO2 := hide ((unhide HO1).ext hE2 (fun q h1 h2 h3 => by omega))
      have HB2 := hide ((unhide HB1).trans (hE2.below (unhide HB1).size (fun q hq e => by omega)))
      have hz2 := hE2.size
      have HH2 := hide hH2
      clear hE2 hH2 HL2 HR1 HO1 HB1 HH1
      have HT := hide (toldC g _ _ _ _ w2 (unhide HH2))
      go_wp2_with fail
      refine (unhide HT).mono ?_
      rintro e w9 ⟨rfl, hb9⟩
      have bR9 := (unhide HR2).keep hb9
      have z0 := Box.at bR9 0 _ rfl
      have z1 := Box.at bR9 1 _ rfl
      have z2 := Box.at bR9 2 _ rfl
      have z3 := Box.at bR9 3 _ rfl
      have z4 := Box.at bR9 4 _ rfl
      have z5 := Box.at bR9 5 _ rfl
      have z6 := Box.at bR9 6 _ rfl
      have z7 := Box.at bR9 7 _ rfl
      have z8 := Box.at bR9 8 _ rfl
      simp only [List.getElem_toArray, List.getElem_cons_zero, List.getElem_cons_succ] at z0 z1 z2 z3 z4 z5 z6 z7 z8
      have ff := Box.soft bR9
      have l0 := Box.lt bR9
      have HO9 := hide ((unhide HO2).later hb9)
      have HB9 := hide ((unhide HB2).trans (hb9.mono (unhide HB2).size))
      have hz9 := hb9.size
      clear hb9 HT bR9
      go_wp2_with fail
      refine bodyPost_ret (v := .agg #[.int .i64 0, .int .i64 0, .int .i64 x.id, .bool x.up, .int .i64 x.epoch, .int .i64 x.lease, .slice (some ⟨gw, 0, none⟩) x.writes.length x.writes.length, .int .i64 x.sure, .int .i64 (max x.clean (min i x.sure))]) (by simp [results, Tryz.results6, go_sem, z0, z1, z2, z3, z4, z5, z6, z7, z8]) rfl ?_
      rw [cleanR, if_pos (unhide HA), if_pos hi]
      obtain ⟨i1, i2, i3, i4, -, -, i7, i8, -⟩ := unhide HOK
      have hB9 := below_setAll (unhide HB9) (w.heap.size + 1) 0 [.int .i64 0, .int .i64 0, .int .i64 x.id, .bool x.up, .int .i64 x.epoch, .int .i64 x.lease, .slice (some ⟨gw, 0, none⟩) x.writes.length x.writes.length, .int .i64 x.sure, .int .i64 (max x.clean (min i x.sure))] (by omega)
      refine ⟨[.int .i64 0, .int .i64 0, .int .i64 x.id, .bool x.up, .int .i64 x.epoch, .int .i64 x.lease, .slice (some ⟨gw, 0, none⟩) x.writes.length x.writes.length, .int .i64 x.sure, .int .i64 (max x.clean (min i x.sure))], rfl, ?_, hB9⟩
      have o1 := own_store' (s := w.heap.size + 1) (vs := [.int .i64 0, .int .i64 0, .int .i64 x.id, .bool x.up, .int .i64 x.epoch, .int .i64 x.lease, .slice (some ⟨gw, 0, none⟩) x.writes.length x.writes.length, .int .i64 x.sure, .int .i64 (max x.clean (min i x.sure))]) (unhide HO9) (by omega)
      exact own_nodeR (x := ⟨x.id, x.up, x.epoch, x.lease, x.writes, x.sure, max x.clean (min i x.sure)⟩) (c := 0) (n := 0) (by omega) (by omega) (o1.mono (by omega) (Nat.le_trans (by omega : w1.heap.size ≤ w9.heap.size) (Nat.le_of_eq (size_setAll w9 (w.heap.size + 1) 0 [.int .i64 0, .int .i64 0, .int .i64 x.id, .bool x.up, .int .i64 x.epoch, .int .i64 x.lease, .slice (some ⟨gw, 0, none⟩) x.writes.length x.writes.length, .int .i64 x.sure, .int .i64 (max x.clean (min i x.sure))]).symm))) (by simp only; omega) (by simp only; omega) (by simp only; omega) (by simp only; omega) (by simp only; omega)
    · have hd2 : (decide (0 ≤ i) && decide (i ≤ 40)) = false := by
        by_cases h1 : 0 ≤ i
        · simp [h1]; omega
        · simp [h1]
      rw [hd2]
      clear hd2
      have bR1 := unhide HR1
      have HY : Hid (cleanR x i = badNode 3) := by show cleanR x i = _; rw [cleanR, if_pos (unhide HA), if_neg hi]
      have z0 := Box.at bR1 0 _ rfl
      have z1 := Box.at bR1 1 _ rfl
      have z2 := Box.at bR1 2 _ rfl
      have z3 := Box.at bR1 3 _ rfl
      have z4 := Box.at bR1 4 _ rfl
      have z5 := Box.at bR1 5 _ rfl
      have z6 := Box.at bR1 6 _ rfl
      have z7 := Box.at bR1 7 _ rfl
      have z8 := Box.at bR1 8 _ rfl
      simp only [List.getElem_toArray, List.getElem_cons_zero, List.getElem_cons_succ] at z0 z1 z2 z3 z4 z5 z6 z7 z8
      have ff := Box.soft bR1
      have l0 := Box.lt bR1
      clear bR1
      go_wp2_with fail
      refine bodyPost_ret (v := .agg #[.int .i64 3, .int .i64 0, .int .i64 0, .bool false, .int .i64 0, .int .i64 0, .slice none 0 0, .int .i64 0, .int .i64 0]) (by simp [results, Tryz.results6, go_sem, z0, z1, z2, z3, z4, z5, z6, z7, z8]) rfl ?_
      rw [unhide HY]
      have hB9 := below_setAll (unhide HB1) (w.heap.size + 1) 0 [.int .i64 3, .int .i64 0, .int .i64 0, .bool false, .int .i64 0, .int .i64 0, .slice none 0 0, .int .i64 0, .int .i64 0] (by omega)
      exact ⟨[.int .i64 3, .int .i64 0, .int .i64 0, .bool false, .int .i64 0, .int .i64 0, .slice none 0 0, .int .i64 0, .int .i64 0], rfl, own_badNode (by decide), hB9⟩
  · have HL := hide (upNode_bad _ x _ (hN.later nb) hf)
    have hd : (askedN x != 0) = true := by simpa using hf
    have HY := hide (cleanR_bad (x := x) (i := i) hf)
    have HW := hide (askedN_bd x)
    have HB0 := hide nb
    have HR0 := hide bR
    clear hN nb bR R4 hf
    generalize askedN x = c at *
    go_enter Tryz.func6, Tryz.ntmps6
    go_wp2_with fail
    generalize (w.alloc (.cells #[.int .i64 x.id, .bool x.up, .int .i64 x.epoch, .int .i64 x.lease, .slice a4 x.writes.length d4, .int .i64 x.sure, .int .i64 x.clean] 26)).alloc (.cells #[.int .i64 0, .int .i64 0, .int .i64 0, .bool false, .int .i64 0, .int .i64 0, .slice none 0 0, .int .i64 0, .int .i64 0] 30) = W0 at *
    refine (unhide HL).mono ?_
    rintro e w1 ⟨rfl, hb⟩
    have bR1 := (unhide HR0).keep hb
    have z0 := Box.at bR1 0 _ rfl
    have z1 := Box.at bR1 1 _ rfl
    have z2 := Box.at bR1 2 _ rfl
    have z3 := Box.at bR1 3 _ rfl
    have z4 := Box.at bR1 4 _ rfl
    have z5 := Box.at bR1 5 _ rfl
    have z6 := Box.at bR1 6 _ rfl
    have z7 := Box.at bR1 7 _ rfl
    have z8 := Box.at bR1 8 _ rfl
    simp only [List.getElem_toArray, List.getElem_cons_zero, List.getElem_cons_succ] at z0 z1 z2 z3 z4 z5 z6 z7 z8
    have ff := Box.soft bR1
    have l0 := Box.lt bR1
    have HB1 := hide ((unhide HB0).trans (hb.mono (unhide HB0).size))
    clear hb HL HB0 HR0 bR1
    go_wp2_with fail
    refine bodyPost_ret (v := .agg #[.int .i64 c, .int .i64 0, .int .i64 0, .bool false, .int .i64 0, .int .i64 0, .slice none 0 0, .int .i64 0, .int .i64 0]) (by simp [results, Tryz.results6, go_sem, z0, z1, z2, z3, z4, z5, z6, z7, z8]) rfl ?_
    rw [unhide HY]
    have hB9 := below_setAll (unhide HB1) (w.heap.size + 1) 0 [.int .i64 c, .int .i64 0, .int .i64 0, .bool false, .int .i64 0, .int .i64 0, .slice none 0 0, .int .i64 0, .int .i64 0] (by omega)
    exact ⟨[.int .i64 c, .int .i64 0, .int .i64 0, .bool false, .int .i64 0, .int .i64 0, .slice none 0 0, .int .i64 0, .int .i64 0], rfl, own_badNode (unhide HW), hB9⟩

end Go.Proofs.YtbogjepkdcknfaaGreat

namespace Go.Proofs.YtbogjepkdcknfaaGreat
open Go.RowKit

theorem minC (a b : Int) (w : World) : Calls Tryz.prog 25 #[.int .i64 a, .int .i64 b] w fun e w' => e = .returned (.int .i64 (min a b)) ∧ w' = w := by
  by_cases h : a < b
  · have hd : decide (a < b) = true := by simpa using h
    rw [show min a b = a by omega]
    go_enter Tryz.func25, Tryz.ntmps25
    go_wp2_with fail
    go_ret
    exact ⟨rfl, rfl⟩
  · have hd : decide (a < b) = false := by simpa using h
    rw [show min a b = b by omega]
    go_enter Tryz.func25, Tryz.ntmps25
    go_wp2_with fail
    go_ret
    exact ⟨rfl, rfl⟩
set_option maxRecDepth 10000 in
set_option maxHeartbeats 4000000 in
theorem specCleanNode (cs : List Value) (x : DNode) (i : Int) (w : World) (h : Lay.tNode.Reads w cs x) :
    Calls Tryz.prog 7 #[.agg cs.toArray, .int .i64 i] w fun e w' => ∃ cs, e = .returned (.agg cs.toArray) ∧ Lay.tNodeResult.LiesIn w' cs (cleanR x i) w.heap.size w'.heap.size ∧ Below w.heap.size w w' := by
  have hN := h
  obtain ⟨a4, d4, rfl, R4⟩ := open_Node h
  have nb : Below w.heap.size w ((w.alloc (.cells #[.int .i64 x.id, .bool x.up, .int .i64 x.epoch, .int .i64 x.lease, .slice a4 x.writes.length d4, .int .i64 x.sure, .int .i64 x.clean] 26)).alloc (.cells #[.int .i64 0, .int .i64 0, .int .i64 0, .bool false, .int .i64 0, .int .i64 0, .slice none 0 0, .int .i64 0, .int .i64 0] 30)) := ((Below.refl _ _).alloc (Nat.le_refl _) _).alloc (by simp) _
  have bX : Box 0 #[.int .i64 x.id, .bool x.up, .int .i64 x.epoch, .int .i64 x.lease, .slice a4 x.writes.length d4, .int .i64 x.sure, .int .i64 x.clean] 26 ((w.alloc (.cells #[.int .i64 x.id, .bool x.up, .int .i64 x.epoch, .int .i64 x.lease, .slice a4 x.writes.length d4, .int .i64 x.sure, .int .i64 x.clean] 26)).alloc (.cells #[.int .i64 0, .int .i64 0, .int .i64 0, .bool false, .int .i64 0, .int .i64 0, .slice none 0 0, .int .i64 0, .int .i64 0] 30)) w.heap.size := (newBox (Nat.zero_le _)).grow _
  have bR : Box 0 #[.int .i64 0, .int .i64 0, .int .i64 0, .bool false, .int .i64 0, .int .i64 0, .slice none 0 0, .int .i64 0, .int .i64 0] 30 ((w.alloc (.cells #[.int .i64 x.id, .bool x.up, .int .i64 x.epoch, .int .i64 x.lease, .slice a4 x.writes.length d4, .int .i64 x.sure, .int .i64 x.clean] 26)).alloc (.cells #[.int .i64 0, .int .i64 0, .int .i64 0, .bool false, .int .i64 0, .int .i64 0, .slice none 0 0, .int .i64 0, .int .i64 0] 30)) (w.heap.size + 1) := newBoxAt (Nat.zero_le _) (by simp)
  have HL := hide (l9AskedC w.heap.size a4 d4 x _ bX (R4.later nb))
  have HN := hide (hN.later nb)
  have HX0 := hide bX
  have HR0 := hide bR
  have HB0 := hide nb
  clear h hN nb bX bR R4
  go_enter Tryz.func7, Tryz.ntmps7
  go_wp2_with fail
  generalize (w.alloc (.cells #[.int .i64 x.id, .bool x.up, .int .i64 x.epoch, .int .i64 x.lease, .slice a4 x.writes.length d4, .int .i64 x.sure, .int .i64 x.clean] 26)).alloc (.cells #[.int .i64 0, .int .i64 0, .int .i64 0, .bool false, .int .i64 0, .int .i64 0, .slice none 0 0, .int .i64 0, .int .i64 0] 30) = W0 at *
  refine (unhide HL).mono ?_
  rintro e w1 ⟨rfl, hb⟩
  have HX := hide ((unhide HX0).keep hb)
  have HR := hide ((unhide HR0).keep hb)
  have HB1 := hide ((unhide HB0).trans (hb.mono (unhide HB0).size))
  replace HN := hide ((unhide HN).later hb)
  clear hb HL HX0 HR0 HB0
  by_cases hf : askedN x = 0
  · rw [hf]
    have hok := (askedN_zero hf).1
    have HA := hide hf
    have HOK := hide hok
    clear hf
    have x0 := Box.at (unhide HX) 0 _ rfl
    have x1 := Box.at (unhide HX) 1 _ rfl
    have x2 := Box.at (unhide HX) 2 _ rfl
    have x3 := Box.at (unhide HX) 3 _ rfl
    have x4 := Box.at (unhide HX) 4 _ rfl
    have x5 := Box.at (unhide HX) 5 _ rfl
    have x6 := Box.at (unhide HX) 6 _ rfl
    simp only [List.getElem_toArray, List.getElem_cons_zero, List.getElem_cons_succ] at x0 x1 x2 x3 x4 x5 x6
    have xl := (unhide HX).lt
    have LU := hide (inC i 0 40 w1)
    go_wp2_with fail
    refine (unhide LU).mono ?_
    rintro e w9 ⟨rfl, h9⟩
    subst w9
    clear LU
    by_cases hi : 0 ≤ i ∧ i ≤ 40
    · have hd2 : (decide (0 ≤ i) && decide (i ≤ 40)) = true := by simpa using hi
      rw [hd2]
      clear hd2
      have HC := hide (ncopyC _ x w1 (unhide HN) (by have := hok.len; omega) (node_vecs9 hok))
      clear hok HN
      go_wp2_with fail
      clear x0 x1 x2 x3 x4 x5 x6 xl
      refine (unhide HC).mono ?_
      rintro e w2 ⟨a6, d6, rfl, O, hb⟩
      have hrl : w.heap.size + 1 < w1.heap.size := (unhide HR).lt
      have bX2 := (unhide HX).keep hb
      have bR2 := (unhide HR).keep hb
      have HBw := hide ((unhide HB1).trans (hb.mono (unhide HB1).size))
      have HOw := hide O
      have hz2 := hb.size
      clear hb O HC HX HR HB1
      have hne : w.heap.size + 1 < w2.heap.size := by omega
      have hXD : Box 0 #[.int .i64 x.id, .bool x.up, .int .i64 x.epoch, .int .i64 x.lease, .slice a4 x.writes.length d4, .int .i64 x.sure, .int .i64 x.clean] 26 (w2.alloc (.cells #[.int .i64 x.id, .bool x.up, .int .i64 x.epoch, .int .i64 x.lease, .slice a6 x.writes.length d6, .int .i64 x.sure, .int .i64 x.clean] 26)).drew w.heap.size := (Box.grow bX2 _).drew
      have hRD : Box 0 #[.int .i64 0, .int .i64 0, .int .i64 0, .bool false, .int .i64 0, .int .i64 0, .slice none 0 0, .int .i64 0, .int .i64 0] 30 (w2.alloc (.cells #[.int .i64 x.id, .bool x.up, .int .i64 x.epoch, .int .i64 x.lease, .slice a6 x.writes.length d6, .int .i64 x.sure, .int .i64 x.clean] 26)).drew (w.heap.size + 1) := (Box.grow bR2 _).drew
      have hUD : Box 0 #[.int .i64 x.id, .bool x.up, .int .i64 x.epoch, .int .i64 x.lease, .slice a6 x.writes.length d6, .int .i64 x.sure, .int .i64 x.clean] 26 (w2.alloc (.cells #[.int .i64 x.id, .bool x.up, .int .i64 x.epoch, .int .i64 x.lease, .slice a6 x.writes.length d6, .int .i64 x.sure, .int .i64 x.clean] 26)).drew w2.heap.size := Box.drew (newBox (Nat.zero_le _))
      have nb3 : Below w2.heap.size w2 (w2.alloc (.cells #[.int .i64 x.id, .bool x.up, .int .i64 x.epoch, .int .i64 x.lease, .slice a6 x.writes.length d6, .int .i64 x.sure, .int .i64 x.clean] 26)).drew := ((Below.refl _ _).alloc (Nat.le_refl _) _).drew
      have hOD : (Lay.sl Lay.tWrite).LiesIn (w2.alloc (.cells #[.int .i64 x.id, .bool x.up, .int .i64 x.epoch, .int .i64 x.lease, .slice a6 x.writes.length d6, .int .i64 x.sure, .int .i64 x.clean] 26)).drew [.slice a6 x.writes.length d6] x.writes w1.heap.size w2.heap.size := (unhide HOw).later nb3
      have hBD : Below w.heap.size w (w2.alloc (.cells #[.int .i64 x.id, .bool x.up, .int .i64 x.epoch, .int .i64 x.lease, .slice a6 x.writes.length d6, .int .i64 x.sure, .int .i64 x.clean] 26)).drew := (unhide HBw).trans (nb3.mono (Nat.le_trans (unhide HBw).size (Nat.le_refl _)))
      have q5 := Box.at (Box.grow bX2 (.cells #[.int .i64 x.id, .bool x.up, .int .i64 x.epoch, .int .i64 x.lease, .slice a6 x.writes.length d6, .int .i64 x.sure, .int .i64 x.clean] 26)) 5 _ rfl
      have q6 := Box.at (Box.grow bX2 (.cells #[.int .i64 x.id, .bool x.up, .int .i64 x.epoch, .int .i64 x.lease, .slice a6 x.writes.length d6, .int .i64 x.sure, .int .i64 x.clean] 26)) 6 _ rfl
      simp only [List.getElem_toArray, List.getElem_cons_zero, List.getElem_cons_succ] at q5 q6
      have hw3 : w2.heap.size < (w2.alloc (.cells #[.int .i64 x.id, .bool x.up, .int .i64 x.epoch, .int .i64 x.lease, .slice a6 x.writes.length d6, .int .i64 x.sure, .int .i64 x.clean] 26)).heap.size := by simp
      clear bX2 bR2 nb3 HOw HBw
      go_wp2_with fail
      generalize w2.alloc (.cells #[.int .i64 x.id, .bool x.up, .int .i64 x.epoch, .int .i64 x.lease, .slice a6 x.writes.length d6, .int .i64 x.sure, .int .i64 x.clean] 26) = W3 at *
      refine wp_region_noPanic ?_
      refine wp_region_held_drew (S := fun w' => Below w2.heap.size W3 w') (by kernel_rfl) (Below.refl _ _).drew (fun hHeld => ?_)
      generalize W3.drew = wD at hHeld hXD hRD hUD hOD hBD ⊢
      refine wpAnyH_take (i := 0) (oi := { dst := some 18, op := Go.Op.fieldAddr 26 (Go.Operand.tmp 2) 6, type := 0, pos := "l09_node.go:100", after := #[], guard := none }) (v := ?vc0) rfl (by kernel_rfl) (by kernel_rfl) (by kernel_rfl) (fun _ _ _ h => h) (Or.inl ⟨by rfl, ?hc0⟩) hHeld ?rc0
      case hc0 =>
        intro wS hSw
        (try dsimp only at hSw)
        go_simp
        try with_reducible rfl
      case rc0 =>
      simp only [Act.put, List.setIfInBounds_toArray, List.set_cons_zero, List.set_cons_succ]
      refine wpAnyH_take (i := 1) (oi := { dst := some 19, op := Go.Op.load 2 (Go.Operand.tmp 18), type := 2, pos := "l09_node.go:100", after := #[{ on := 0, ground := Go.Ground.data }], guard := none }) (v := ?vc1) rfl (by kernel_rfl) (by kernel_rfl) (by kernel_rfl) (fun _ _ _ h => h) (Or.inl ⟨by rfl, ?hc1⟩) hHeld ?rc1
      case hc1 =>
        intro wS hSw
        have y6 : wS.cell? ⟨w.heap.size, 6, none⟩ = some (.int .i64 x.clean) := (hSw.cell (p := ⟨w.heap.size, 6, none⟩) (by simp; omega)).trans q6
        clear hSw
        (try dsimp only at hSw)
        go_simp
        try with_reducible rfl
      case rc1 =>
      simp only [Act.put, List.setIfInBounds_toArray, List.set_cons_zero, List.set_cons_succ]
      refine wpAnyH_take (i := 2) (oi := { dst := some 20, op := Go.Op.move (Go.Operand.tmp 1), type := 2, pos := "l09_node.go:100", after := #[], guard := none }) (v := ?vc2) rfl (by kernel_rfl) (by kernel_rfl) (by kernel_rfl) (fun _ _ _ h => h) (Or.inl ⟨by rfl, ?hc2⟩) hHeld ?rc2
      case hc2 =>
        intro wS hSw
        (try dsimp only at hSw)
        go_simp
        try with_reducible rfl
      case rc2 =>
      simp only [Act.put, List.setIfInBounds_toArray, List.set_cons_zero, List.set_cons_succ]
      refine wpAnyH_take (i := 3) (oi := { dst := some 21, op := Go.Op.fieldAddr 26 (Go.Operand.tmp 2) 5, type := 0, pos := "l09_node.go:100", after := #[], guard := none }) (v := ?vc3) rfl (by kernel_rfl) (by kernel_rfl) (by kernel_rfl) (fun _ _ _ h => h) (Or.inl ⟨by rfl, ?hc3⟩) hHeld ?rc3
      case hc3 =>
        intro wS hSw
        (try dsimp only at hSw)
        go_simp
        try with_reducible rfl
      case rc3 =>
      simp only [Act.put, List.setIfInBounds_toArray, List.set_cons_zero, List.set_cons_succ]
      refine wpAnyH_take (i := 4) (oi := { dst := some 22, op := Go.Op.load 2 (Go.Operand.tmp 21), type := 2, pos := "l09_node.go:100", after := #[{ on := 3, ground := Go.Ground.data }], guard := none }) (v := ?vc4) rfl (by kernel_rfl) (by kernel_rfl) (by kernel_rfl) (fun _ _ _ h => h) (Or.inl ⟨by rfl, ?hc4⟩) hHeld ?rc4
      case hc4 =>
        intro wS hSw
        have y5 : wS.cell? ⟨w.heap.size, 5, none⟩ = some (.int .i64 x.sure) := (hSw.cell (p := ⟨w.heap.size, 5, none⟩) (by simp; omega)).trans q5
        clear hSw
        (try dsimp only at hSw)
        go_simp
        try with_reducible rfl
      case rc4 =>
      simp only [Act.put, List.setIfInBounds_toArray, List.set_cons_zero, List.set_cons_succ]
      refine wpAnyH_ready (rs := [5]) (by kernel_rfl) (by simp) ?_
      refine AllReadyH.cons (o := { dst := some 23, op := Go.Op.call { callee := Go.Callee.value (Go.Operand.func 25), args := #[Go.Operand.tmp 20, Go.Operand.tmp 22], argTypes := #[2, 2] }, type := 2, pos := "l09_node.go:100", after := #[{ on := 2, ground := Go.Ground.data }, { on := 4, ground := Go.Ground.data }], guard := none }) rfl (fun K hK => ?_) AllReadyH.nil
      go_simp
      go_at_call 25
      refine (minC i x.sure _).mono ?_
      rintro e w5 ⟨rfl, h5⟩
      subst w5
      try go_wp2_with fail
      refine hK.out _ _ hHeld (fun hHeld => ?_)
      clear hK K
      try simp only [Act.put, List.setIfInBounds_toArray, List.set_cons_zero, List.set_cons_succ]
      refine wpAnyH_ready (rs := [6]) (by kernel_rfl) (by simp) ?_
      refine AllReadyH.cons (o := { dst := some 24, op := Go.Op.call { callee := Go.Callee.value (Go.Operand.func 24), args := #[Go.Operand.tmp 19, Go.Operand.tmp 23], argTypes := #[2, 2] }, type := 2, pos := "l09_node.go:100", after := #[{ on := 1, ground := Go.Ground.data }, { on := 5, ground := Go.Ground.data }, { on := 5, ground := Go.Ground.chain }], guard := none }) rfl (fun K hK => ?_) AllReadyH.nil
      go_simp
      go_at_call 24
      refine (l1MaxC x.clean (min i x.sure) _).mono ?_
      rintro e w6 ⟨rfl, h6⟩
      subst w6
      try go_wp2_with fail
      refine hK.out _ _ hHeld (fun hHeld => ?_)
      clear hK K
      try simp only [Act.put, List.setIfInBounds_toArray, List.set_cons_zero, List.set_cons_succ]
      refine wpAnyH_take (i := 7) (oi := { dst := some 25, op := Go.Op.fieldAddr 26 (Go.Operand.tmp 6) 6, type := 0, pos := "l09_node.go:100", after := #[{ on := 0, ground := Go.Ground.phase }, { on := 1, ground := Go.Ground.phase }, { on := 2, ground := Go.Ground.phase }, { on := 3, ground := Go.Ground.phase }, { on := 4, ground := Go.Ground.phase }, { on := 5, ground := Go.Ground.phase }, { on := 6, ground := Go.Ground.phase }], guard := none }) (v := ?vc7) rfl (by kernel_rfl) (by kernel_rfl) (by kernel_rfl) (fun _ _ _ h => h) (Or.inl ⟨by rfl, ?hc7⟩) hHeld ?rc7
      case hc7 =>
        intro wS hSw
        (try dsimp only at hSw)
        go_simp
        try with_reducible rfl
      case rc7 =>
      simp only [Act.put, List.setIfInBounds_toArray, List.set_cons_zero, List.set_cons_succ]
      refine wpAnyH_ready (rs := [8]) (by kernel_rfl) (by simp) ?_
      refine AllReadyH.cons (o := { dst := none, op := Go.Op.store 2 (Go.Operand.tmp 25) (Go.Operand.tmp 24), type := 0, pos := "l09_node.go:100", after := #[{ on := 7, ground := Go.Ground.data }, { on := 6, ground := Go.Ground.data }, { on := 6, ground := Go.Ground.chain }, { on := 0, ground := Go.Ground.phase }, { on := 1, ground := Go.Ground.phase }, { on := 2, ground := Go.Ground.phase }, { on := 3, ground := Go.Ground.phase }, { on := 4, ground := Go.Ground.phase }, { on := 5, ground := Go.Ground.phase }, { on := 6, ground := Go.Ground.phase }], guard := none }) rfl (fun K hK => ?_) AllReadyH.nil
      have u6 := Box.at hUD 6 _ rfl
      simp only [List.getElem_toArray, List.getElem_cons_zero, List.getElem_cons_succ] at u6
      have uf := Box.soft hUD
      have ul := Box.lt hUD
      go_simp
      refine hK.out _ _ (hHeld.setCell (by simp) _) (fun hHeld => ?_)
      clear hK K
      try simp only [Act.put, List.setIfInBounds_toArray, List.set_cons_zero, List.set_cons_succ]
      refine wpAnyH_done (by kernel_rfl) ?_ _
      refine NoPanic.normal ?_
      clear hHeld
      have bR5 : Box 0 #[.int .i64 0, .int .i64 0, .int .i64 0, .bool false, .int .i64 0, .int .i64 0, .slice none 0 0, .int .i64 0, .int .i64 0] 30 (wD.setCell ⟨w2.heap.size, 6, none⟩ (.int .i64 (max x.clean (min i x.sure)))) (w.heap.size + 1) := Box.other hRD ⟨w2.heap.size, 6, none⟩ _ (by simp; omega)
      have bF : Box 0 #[.int .i64 0, .int .i64 0, .int .i64 x.id, .bool x.up, .int .i64 x.epoch, .int .i64 x.lease, .slice a6 x.writes.length d6, .int .i64 x.sure, .int .i64 (max x.clean (min i x.sure))] 30 ((((((((((wD.setCell ⟨w2.heap.size, 6, none⟩ (.int .i64 (max x.clean (min i x.sure)))).setCell ⟨w.heap.size + 1, 0, none⟩ (.int .i64 0)).setCell ⟨w.heap.size + 1, 1, none⟩ (.int .i64 0)).setCell ⟨w.heap.size + 1, 2, none⟩ (.int .i64 x.id)).setCell ⟨w.heap.size + 1, 3, none⟩ (.bool x.up)).setCell ⟨w.heap.size + 1, 4, none⟩ (.int .i64 x.epoch)).setCell ⟨w.heap.size + 1, 5, none⟩ (.int .i64 x.lease)).setCell ⟨w.heap.size + 1, 6, none⟩ (.slice a6 x.writes.length d6)).setCell ⟨w.heap.size + 1, 7, none⟩ (.int .i64 x.sure)).setCell ⟨w.heap.size + 1, 8, none⟩ (.int .i64 (max x.clean (min i x.sure)))) (w.heap.size + 1) := (box_set9 bR5 (.int .i64 0) (.int .i64 0) (.int .i64 x.id) (.bool x.up) (.int .i64 x.epoch) (.int .i64 x.lease) (.slice a6 x.writes.length d6) (.int .i64 x.sure) (.int .i64 (max x.clean (min i x.sure))))
      have HK := hide bF
      have z0 := Box.at hRD 0 _ rfl
      have z1 := Box.at hRD 1 _ rfl
      have z2 := Box.at hRD 2 _ rfl
      have z3 := Box.at hRD 3 _ rfl
      have z4 := Box.at hRD 4 _ rfl
      have z5 := Box.at hRD 5 _ rfl
      have z6 := Box.at hRD 6 _ rfl
      have z7 := Box.at hRD 7 _ rfl
      have z8 := Box.at hRD 8 _ rfl
      simp only [List.getElem_toArray, List.getElem_cons_zero, List.getElem_cons_succ] at z0 z1 z2 z3 z4 z5 z6 z7 z8
      have u0 := Box.at hUD 0 _ rfl
      have u1 := Box.at hUD 1 _ rfl
      have u2 := Box.at hUD 2 _ rfl
      have u3 := Box.at hUD 3 _ rfl
      have u4 := Box.at hUD 4 _ rfl
      have u5 := Box.at hUD 5 _ rfl
      simp only [List.getElem_toArray, List.getElem_cons_zero, List.getElem_cons_succ] at u0 u1 u2 u3 u4 u5
      have ff := Box.soft hRD
      have l0 := Box.lt hRD
      have e5 : Ext (fun q => q = w2.heap.size) wD (wD.setCell ⟨w2.heap.size, 6, none⟩ (.int .i64 (max x.clean (min i x.sure)))) := (Ext.refl (fun q => q = w2.heap.size) _).setCell ⟨w2.heap.size, 6, none⟩ _ rfl
      have o5 := hOD.ext e5 (fun q h1 h2 h3 => by omega)
      have hB5 : Below w.heap.size w (wD.setCell ⟨w2.heap.size, 6, none⟩ (.int .i64 (max x.clean (min i x.sure)))) := hBD.setCell (by simp; omega) _
      have HBF := hide (below_setAll hB5 (w.heap.size + 1) 0 [.int .i64 0, .int .i64 0, .int .i64 x.id, .bool x.up, .int .i64 x.epoch, .int .i64 x.lease, .slice a6 x.writes.length d6, .int .i64 x.sure, .int .i64 (max x.clean (min i x.sure))] (by omega))
      have HOF := hide (lies_store' (s := w.heap.size + 1) (vs := [.int .i64 0, .int .i64 0, .int .i64 x.id, .bool x.up, .int .i64 x.epoch, .int .i64 x.lease, .slice a6 x.writes.length d6, .int .i64 x.sure, .int .i64 (max x.clean (min i x.sure))]) o5 (by omega))
      have HZF := hide (size_setAll (wD.setCell ⟨w2.heap.size, 6, none⟩ (.int .i64 (max x.clean (min i x.sure)))) (w.heap.size + 1) 0 [.int .i64 0, .int .i64 0, .int .i64 x.id, .bool x.up, .int .i64 x.epoch, .int .i64 x.lease, .slice a6 x.writes.length d6, .int .i64 x.sure, .int .i64 (max x.clean (min i x.sure))])
      have HZG : Hid (w2.heap.size ≤ (wD.setCell ⟨w2.heap.size, 6, none⟩ (.int .i64 (max x.clean (min i x.sure)))).heap.size) := by show w2.heap.size ≤ _; simp; omega
      clear bF bR5 e5 o5 hB5 hOD hBD hXD hRD hUD q5 q6
      go_wp2_with fail
      have bF := unhide HK
      have k0 := Box.at bF 0 _ rfl
      have k1 := Box.at bF 1 _ rfl
      have k2 := Box.at bF 2 _ rfl
      have k3 := Box.at bF 3 _ rfl
      have k4 := Box.at bF 4 _ rfl
      have k5 := Box.at bF 5 _ rfl
      have k6 := Box.at bF 6 _ rfl
      have k7 := Box.at bF 7 _ rfl
      have k8 := Box.at bF 8 _ rfl
      simp only [List.getElem_toArray, List.getElem_cons_zero, List.getElem_cons_succ] at k0 k1 k2 k3 k4 k5 k6 k7 k8
      refine bodyPost_ret (v := .agg #[.int .i64 0, .int .i64 0, .int .i64 x.id, .bool x.up, .int .i64 x.epoch, .int .i64 x.lease, .slice a6 x.writes.length d6, .int .i64 x.sure, .int .i64 (max x.clean (min i x.sure))]) (by simp [results, Tryz.results7, go_sem, k0, k1, k2, k3, k4, k5, k6, k7, k8]) rfl ?_
      rw [cleanR, if_pos (unhide HA), if_pos hi]
      obtain ⟨i1, i2, i3, i4, -, -, i7, i8, -⟩ := unhide HOK
      refine ⟨[.int .i64 0, .int .i64 0, .int .i64 x.id, .bool x.up, .int .i64 x.epoch, .int .i64 x.lease, .slice a6 x.writes.length d6, .int .i64 x.sure, .int .i64 (max x.clean (min i x.sure))], rfl, ?_, unhide HBF⟩
      exact lies_nodeR (x := ⟨x.id, x.up, x.epoch, x.lease, x.writes, x.sure, max x.clean (min i x.sure)⟩) (c := 0) (n := 0) (by omega) (by omega) ((unhide HOF).mono (by omega) (Nat.le_trans (unhide HZG) (Nat.le_of_eq (unhide HZF).symm))) (by simp only; omega) (by simp only; omega) (by simp only; omega) (by simp only; omega) (by simp only; omega)
    · have hd2 : (decide (0 ≤ i) && decide (i ≤ 40)) = false := by
        by_cases h1 : 0 ≤ i
        · simp [h1]; omega
        · simp [h1]
      rw [hd2]
      clear hd2
      have HY : Hid (cleanR x i = badNode 3) := by show cleanR x i = _; rw [cleanR, if_pos (unhide HA), if_neg hi]
      have bR := (unhide HR)
      have z0 := Box.at bR 0 _ rfl
      have z1 := Box.at bR 1 _ rfl
      have z2 := Box.at bR 2 _ rfl
      have z3 := Box.at bR 3 _ rfl
      have z4 := Box.at bR 4 _ rfl
      have z5 := Box.at bR 5 _ rfl
      have z6 := Box.at bR 6 _ rfl
      have z7 := Box.at bR 7 _ rfl
      have z8 := Box.at bR 8 _ rfl
      simp only [List.getElem_toArray, List.getElem_cons_zero, List.getElem_cons_succ] at z0 z1 z2 z3 z4 z5 z6 z7 z8
      have ff := Box.soft bR
      have l0 := Box.lt bR
      clear bR
      go_wp2_with fail
      refine bodyPost_ret (v := .agg #[.int .i64 3, .int .i64 0, .int .i64 0, .bool false, .int .i64 0, .int .i64 0, .slice none 0 0, .int .i64 0, .int .i64 0]) (by simp [results, Tryz.results7, go_sem, z0, z1, z2, z3, z4, z5, z6, z7, z8]) rfl ?_
      rw [unhide HY]
      have hB9 := below_setAll (unhide HB1) (w.heap.size + 1) 0 [.int .i64 3, .int .i64 0, .int .i64 0, .bool false, .int .i64 0, .int .i64 0, .slice none 0 0, .int .i64 0, .int .i64 0] (by omega)
      exact ⟨[.int .i64 3, .int .i64 0, .int .i64 0, .bool false, .int .i64 0, .int .i64 0, .slice none 0 0, .int .i64 0, .int .i64 0], rfl, (own_badNode (by decide)).lies, hB9⟩
  · have hd : (askedN x != 0) = true := by simpa using hf
    have HY := hide (cleanR_bad (x := x) (i := i) hf)
    have HW := hide (askedN_bd x)
    clear hf
    generalize askedN x = c at *
    have bR := (unhide HR)
    have z0 := Box.at bR 0 _ rfl
    have z1 := Box.at bR 1 _ rfl
    have z2 := Box.at bR 2 _ rfl
    have z3 := Box.at bR 3 _ rfl
    have z4 := Box.at bR 4 _ rfl
    have z5 := Box.at bR 5 _ rfl
    have z6 := Box.at bR 6 _ rfl
    have z7 := Box.at bR 7 _ rfl
    have z8 := Box.at bR 8 _ rfl
    simp only [List.getElem_toArray, List.getElem_cons_zero, List.getElem_cons_succ] at z0 z1 z2 z3 z4 z5 z6 z7 z8
    have ff := Box.soft bR
    have l0 := Box.lt bR
    clear bR
    go_wp2_with fail
    refine bodyPost_ret (v := .agg #[.int .i64 c, .int .i64 0, .int .i64 0, .bool false, .int .i64 0, .int .i64 0, .slice none 0 0, .int .i64 0, .int .i64 0]) (by simp [results, Tryz.results7, go_sem, z0, z1, z2, z3, z4, z5, z6, z7, z8]) rfl ?_
    rw [unhide HY]
    have hB9 := below_setAll (unhide HB1) (w.heap.size + 1) 0 [.int .i64 c, .int .i64 0, .int .i64 0, .bool false, .int .i64 0, .int .i64 0, .slice none 0 0, .int .i64 0, .int .i64 0] (by omega)
    exact ⟨[.int .i64 c, .int .i64 0, .int .i64 0, .bool false, .int .i64 0, .int .i64 0, .slice none 0 0, .int .i64 0, .int .i64 0], rfl, (own_badNode (unhide HW)).lies, hB9⟩

end Go.Proofs.YtbogjepkdcknfaaGreat

namespace Go.Proofs.YtbogjepkdcknfaaGreat
open Go.RowKit

theorem sl_drop_reads {α : Type} {A : Lay α} {w : World} {xs : List α} {b off cap n : Nat} (h : (Lay.sl A).Reads w [.slice (some ⟨b, off, none⟩) n cap] xs) (k : Nat) (hk : k ≤ n) : (Lay.sl A).Reads w [.slice (some ⟨b, off + k * A.n, none⟩) (n - k) (cap - k)] (xs.drop k) := by
  obtain ⟨bl, ao, cap', he, ⟨h1, h2⟩, hor⟩ := h
  simp only [List.cons.injEq, Value.slice.injEq, and_true] at he
  obtain ⟨rfl, rfl, rfl⟩ := he
  have hl : (xs.drop k).length = xs.length - k := List.length_drop
  rcases hor with ⟨rfl, -⟩ | ⟨b', off', rows, bls, he, hb, rfl, n1, n2, hj⟩
  · obtain rfl : k = 0 := by simpa using hk
    exact ⟨[], _, _, rfl, ⟨by simp, by simp⟩, Or.inl ⟨by simp, rfl⟩⟩
  · simp only [Option.some.injEq, Addr.mk.injEq, and_true] at he
    obtain ⟨rfl, rfl⟩ := he
    refine ⟨b :: (bls.drop k).flatten, _, _, by rw [hl], ⟨by omega, by omega⟩, Or.inr ⟨b, off + k * A.n, rows.drop k, bls.drop k, rfl, hb, rfl, by simp [n1], by simp [n2], fun j q1 q2 q3 => ?_⟩⟩
    simp only [List.getElem_drop]
    rw [List.length_drop] at q1 q2 q3
    have := hj (k + j) (by omega) (by omega) (by omega)
    refine ⟨fun m hm => ?_, this.2⟩
    rw [← this.1 m hm, Nat.add_mul, Nat.add_assoc off]

set_option maxRecDepth 10000 in
set_option maxHeartbeats 1000000 in
theorem dirty1C (row : List Value) (y : DWrite) (bi : Nat) (id : Int) (w : World) (h : Lay.tWrite.Reads w row y) (hi : w.cell? ⟨bi, 0, none⟩ = some (.int .i64 id)) :
    Calls Tryz.prog 43 #[.agg row.toArray, .pointer (some ⟨bi, 0, none⟩)] w fun e w' => e = .returned (.bool (y.id == id)) ∧ Below w.heap.size w w' := by
  obtain ⟨a2, d2, rfl, -⟩ := open_Write h
  have hlt := World.block_lt_of_cell? _ _ hi
  have HB := hide ((Below.refl w.heap.size w).alloc (Nat.le_refl _) (.cells #[.int .i64 y.kind, .int .i64 y.id, .slice a2 y.vec.length d2, .int .i64 y.session, .int .i64 y.seq] 34))
  clear h
  go_enter Tryz.func43, Tryz.ntmps43
  go_wp2_with fail
  go_ret
  exact ⟨rfl, unhide HB⟩

theorem any_at {ws : List DWrite} {id : Int} (k : Nat) (hk : k < ws.length) (h : (ws[k].id == id) = true) : (ws.any fun y => y.id == id) = true := by
  rw [List.any_eq_true]
  exact ⟨ws[k], List.getElem_mem _, h⟩
theorem any_none {ws : List DWrite} {id : Int} (h : ∀ j (hj : j < ws.length), (ws[j].id == id) = false) : (ws.any fun y => y.id == id) = false := by
  rw [List.any_eq_false]
  intro y hy
  obtain ⟨j, hj, rfl⟩ := List.getElem_of_mem hy
  rw [h j hj]
  simp

set_option maxRecDepth 100000 in
set_option maxHeartbeats 2000000 in
theorem indexC (v : Value) (ws : List DWrite) (bi : Nat) (id : Int) (w : World) (h : (Lay.sl Lay.tWrite).Reads w [v] ws) (hn : ws.length ≤ 1000) (hi : w.cell? ⟨bi, 0, none⟩ = some (.int .i64 id)) :
    Calls Tryz.prog 66 #[v, .func (.func 43) #[] #[.pointer (some ⟨bi, 0, none⟩)]] w fun e w' => ∃ n : Int, e = .returned (.int .i64 n) ∧ decide (0 ≤ n) = (ws.any fun y => y.id == id) ∧ Below w.heap.size w w' := by
  obtain ⟨ao, cap, rfl⟩ := open_sl h
  have H := hide h
  have hil := World.block_lt_of_cell? _ _ hi
  have HI := hide hi
  clear h hi
  go_enter Tryz.func66, Tryz.ntmps66
  go_wp2_with fail
  go_loopw [8] (fun i wr => ∃ k : Nat, k ≤ ws.length ∧ i = .int .i64 k ∧ (∀ j (hj : j < ws.length), j < k → (ws[j].id == id) = false) ∧ Below w.heap.size w wr) (fun i _ => ws.length - (intOf i).toNat)
  case atStart => exact ⟨0, Nat.zero_le _, rfl, fun j _ hj => by omega, Below.refl _ _⟩
  case round =>
    obtain ⟨k, hk, rfl, hz, hB⟩ := hrel
    by_cases hlt : k < ws.length
    · obtain ⟨b, off, rfl, hbl⟩ := Lay.sl_addr (unhide H) (by omega)
      obtain ⟨row, hc, hr⟩ := Lay.row_at (unhide H) hlt
      replace hr := hr.later hB
      have hr2 := hr
      obtain ⟨a2, d2, rfl, -⟩ := open_Write hr2
      have c0 : wr.cell? ⟨b, off + k * 5, none⟩ = some (.int .i64 (ws[k]).kind) := (hB.cell (p := ⟨b, off + k * 5, none⟩) hbl).trans (hc 0 (by decide))
      have c1 : wr.cell? ⟨b, off + k * 5 + 1, none⟩ = some (.int .i64 (ws[k]).id) := (hB.cell (p := ⟨b, off + k * 5 + 1, none⟩) hbl).trans (hc 1 (by decide))
      have c2 : wr.cell? ⟨b, off + k * 5 + 2, none⟩ = some (.slice a2 (ws[k]).vec.length d2) := (hB.cell (p := ⟨b, off + k * 5 + 2, none⟩) hbl).trans (hc 2 (by decide))
      have c3 : wr.cell? ⟨b, off + k * 5 + 3, none⟩ = some (.int .i64 (ws[k]).session) := (hB.cell (p := ⟨b, off + k * 5 + 3, none⟩) hbl).trans (hc 3 (by decide))
      have c4 : wr.cell? ⟨b, off + k * 5 + 4, none⟩ = some (.int .i64 (ws[k]).seq) := (hB.cell (p := ⟨b, off + k * 5 + 4, none⟩) hbl).trans (hc 4 (by decide))
      have HZ := hide hz
      have HAN : Hid ((ws[k].id == id) = true → (ws.any fun y => y.id == id) = true) := fun q => any_at k hlt q
      have HZ2 : Hid ((ws[k].id == id) = false → ∀ j (hj : j < ws.length), j < k + 1 → (ws[j].id == id) = false) := by
        intro h0 j hj hjk
        by_cases hjk2 : j < k
        · exact unhide HZ j hj hjk2
        · obtain rfl : j = k := by omega
          exact h0
      clear hc hz HZ hr2
      generalize hx : ws[k] = y at *
      clear hx
      have hbr : b < wr.heap.size := Nat.lt_of_lt_of_le hbl hB.size
      have HL := hide (dirty1C _ y bi id wr hr ((hB.cell (p := ⟨bi, 0, none⟩) hil).trans (unhide HI)))
      have HB := hide hB
      clear hr hB
      go_wp2_with fail
      refine (unhide HL).mono ?_
      rintro e w2 ⟨rfl, hb⟩
      have HB2 := hide ((unhide HB).trans (hb.mono (unhide HB).size))
      clear hb HL HB
      cases hq : (y.id == id)
      · have HZ3 := hide (unhide HZ2 hq)
        clear hq HZ2 HAN c0 c1 c2 c3 c4
        go_wp2_with fail
        go_roundw
        case rel => exact ⟨k + 1, by omega, by go_num, unhide HZ3, unhide HB2⟩
        case measure => simp [intOf]; omega
      · have HA := hide (unhide HAN hq)
        clear hq HZ2 HAN c0 c1 c2 c3 c4
        go_wp2_with fail
        go_ret
        exact ⟨(k : Int), rfl, by rw [unhide HA]; simp, unhide HB2⟩
    · obtain rfl : k = ws.length := by omega
      have HA := hide (any_none (fun j hj => hz j hj hj))
      have HB := hide hB
      clear hB hz
      go_wp2_with fail
      go_ret
      exact ⟨-1, rfl, by rw [unhide HA]; rfl, unhide HB⟩

set_option maxRecDepth 10000 in
set_option maxHeartbeats 1000000 in
theorem containsC (v : Value) (ws : List DWrite) (bi : Nat) (id : Int) (w : World) (h : (Lay.sl Lay.tWrite).Reads w [v] ws) (hn : ws.length ≤ 1000) (hi : w.cell? ⟨bi, 0, none⟩ = some (.int .i64 id)) :
    Calls Tryz.prog 42 #[v, .func (.func 43) #[] #[.pointer (some ⟨bi, 0, none⟩)]] w fun e w' => e = .returned (.bool (ws.any fun y => y.id == id)) ∧ Below w.heap.size w w' := by
  have HL := hide (indexC v ws bi id w h hn hi)
  obtain ⟨ao, cap, rfl⟩ := open_sl h
  clear h hi
  go_enter Tryz.func42, Tryz.ntmps42
  go_wp2_with fail
  refine (unhide HL).mono ?_
  rintro e w1 ⟨n, rfl, hq, hb⟩
  have HB := hide hb
  have HQ := hide hq
  clear hb hq HL
  cases hd : decide (0 ≤ n)
  · have HQ2 : Hid ((ws.any fun y => y.id == id) = false) := (unhide HQ).symm.trans hd
    go_wp2_with fail
    go_ret
    exact ⟨by rw [unhide HQ2]; rfl, unhide HB⟩
  · have HQ2 : Hid ((ws.any fun y => y.id == id) = true) := (unhide HQ).symm.trans hd
    go_wp2_with fail
    go_ret
    exact ⟨by rw [unhide HQ2]; rfl, unhide HB⟩

set_option maxRecDepth 10000 in
set_option maxHeartbeats 2000000 in
theorem isDirtyC (g gw c : Nat) (x : DNode) (id : Int) (w : World) (h : HeldAt w g (.slice (some ⟨gw, 0, none⟩) x.writes.length x.writes.length) ⟨x.id, x.up, x.epoch, x.lease, x.writes, x.sure, (c : Int)⟩) (R : (Lay.sl Lay.tWrite).Reads w [.slice (some ⟨gw, 0, none⟩) x.writes.length x.writes.length] x.writes) (hn : x.writes.length ≤ 40) (hc : c ≤ x.writes.length) :
    Calls Tryz.prog 27 #[.pointer (some ⟨g, 0, none⟩), .int .i64 id] w fun e w' => e = .returned (.bool ((x.writes.drop c).any fun y => y.id == id)) ∧ Below w.heap.size w w' := by
  have nb : Below w.heap.size w (w.alloc (.cells #[.int .i64 id] 2)) := (Below.refl _ _).alloc (Nat.le_refl _) _
  have k0 := Box.at h 0 _ rfl
  have k6 := Box.at h 6 _ rfl
  simp only [List.getElem_toArray, List.getElem_cons_zero, List.getElem_cons_succ] at k0 k6
  have hgl := h.lt
  have hiD : (w.alloc (.cells #[.int .i64 id] 2)).drew.cell? ⟨w.heap.size, 0, none⟩ = some (.int .i64 id) := (newBox (lo := 0) (Nat.zero_le _)).drew.at 0 _ rfl
  have hRD : (Lay.sl Lay.tWrite).Reads (w.alloc (.cells #[.int .i64 id] 2)).drew [.slice (some ⟨gw, 0, none⟩) x.writes.length x.writes.length] x.writes := (R.later nb).later (Below.refl _ _).drew
  have HNB := hide nb
  clear h R nb
  go_enter Tryz.func27, Tryz.ntmps27
  go_wp2_with fail
  generalize w.alloc (.cells #[.int .i64 id] 2) = W0 at *
  by_cases hcn : c = x.writes.length
  · have HAN : Hid (((x.writes.drop c).any fun y => y.id == id) = false) := by show ((x.writes.drop c).any fun y => y.id == id) = false; rw [hcn, List.drop_length]; rfl
    have hcc : c ≤ x.writes.length := by omega
    have hcd : x.writes.length ≤ c := by omega
    clear hcn
    refine wp_region_noPanic ?_
    refine wp_region_held_drew (S := fun w' => Below w.heap.size w w') (by kernel_rfl) (unhide HNB).drew (fun hHeld => ?_)
    generalize W0.drew = wD at hHeld hiD hRD ⊢
    refine wpAnyH_take (i := 0) (oi := { dst := some 5, op := Go.Op.move (Go.Operand.tmp 0), type := 48, pos := "l09_node.go:173", after := #[], guard := none }) (v := ?va0) rfl (by kernel_rfl) (by kernel_rfl) (by kernel_rfl) (fun _ _ _ h => h) (Or.inl ⟨by rfl, ?ha0⟩) hHeld ?ra0
    case ha0 =>
      intro wS hSw
      (try dsimp only at hSw)
      go_simp
      try with_reducible rfl
    case ra0 =>
    simp only [Act.put, List.setIfInBounds_toArray, List.set_cons_zero, List.set_cons_succ]
    refine wpAnyH_take (i := 1) (oi := { dst := some 6, op := Go.Op.nilCheck (Go.Operand.tmp 5), type := 0, pos := "l09_node.go:173", after := #[{ on := 0, ground := Go.Ground.data }], guard := none }) (v := ?va1) rfl (by kernel_rfl) (by kernel_rfl) (by kernel_rfl) (fun _ _ _ h => h) (Or.inl ⟨by rfl, ?ha1⟩) hHeld ?ra1
    case ha1 =>
      intro wS hSw
      (try dsimp only at hSw)
      go_simp
      try with_reducible rfl
    case ra1 =>
    simp only [Act.put, List.setIfInBounds_toArray, List.set_cons_zero, List.set_cons_succ]
    refine wpAnyH_take (i := 2) (oi := { dst := some 7, op := Go.Op.fieldAddr 64 (Go.Operand.tmp 6) 0, type := 0, pos := "l09_node.go:173", after := #[{ on := 1, ground := Go.Ground.data }], guard := none }) (v := ?va2) rfl (by kernel_rfl) (by kernel_rfl) (by kernel_rfl) (fun _ _ _ h => h) (Or.inl ⟨by rfl, ?ha2⟩) hHeld ?ra2
    case ha2 =>
      intro wS hSw
      (try dsimp only at hSw)
      go_simp
      try with_reducible rfl
    case ra2 =>
    simp only [Act.put, List.setIfInBounds_toArray, List.set_cons_zero, List.set_cons_succ]
    refine wpAnyH_take (i := 3) (oi := { dst := some 8, op := Go.Op.fieldAddr 62 (Go.Operand.tmp 7) 0, type := 0, pos := "l09_node.go:173", after := #[{ on := 2, ground := Go.Ground.data }], guard := none }) (v := ?va3) rfl (by kernel_rfl) (by kernel_rfl) (by kernel_rfl) (fun _ _ _ h => h) (Or.inl ⟨by rfl, ?ha3⟩) hHeld ?ra3
    case ha3 =>
      intro wS hSw
      (try dsimp only at hSw)
      go_simp
      try with_reducible rfl
    case ra3 =>
    simp only [Act.put, List.setIfInBounds_toArray, List.set_cons_zero, List.set_cons_succ]
    refine wpAnyH_take (i := 4) (oi := { dst := some 9, op := Go.Op.load 24 (Go.Operand.tmp 8), type := 24, pos := "l09_node.go:173", after := #[{ on := 3, ground := Go.Ground.data }], guard := none }) (v := ?va4) rfl (by kernel_rfl) (by kernel_rfl) (by kernel_rfl) (fun _ _ _ h => h) (Or.inl ⟨by rfl, ?ha4⟩) hHeld ?ra4
    case ha4 =>
      intro wS hSw
      have y0 : wS.cell? ⟨g, 0, none⟩ = some (.slice (some ⟨gw, 0, none⟩) x.writes.length x.writes.length) := (hSw.cell (p := ⟨g, 0, none⟩) hgl).trans k0
      clear hSw
      (try dsimp only at hSw)
      go_simp
      try with_reducible rfl
    case ra4 =>
    simp only [Act.put, List.setIfInBounds_toArray, List.set_cons_zero, List.set_cons_succ]
    refine wpAnyH_take (i := 5) (oi := { dst := some 10, op := Go.Op.move (Go.Operand.tmp 0), type := 48, pos := "l09_node.go:173", after := #[], guard := none }) (v := ?va5) rfl (by kernel_rfl) (by kernel_rfl) (by kernel_rfl) (fun _ _ _ h => h) (Or.inl ⟨by rfl, ?ha5⟩) hHeld ?ra5
    case ha5 =>
      intro wS hSw
      (try dsimp only at hSw)
      go_simp
      try with_reducible rfl
    case ra5 =>
    simp only [Act.put, List.setIfInBounds_toArray, List.set_cons_zero, List.set_cons_succ]
    refine wpAnyH_take (i := 6) (oi := { dst := some 11, op := Go.Op.nilCheck (Go.Operand.tmp 10), type := 0, pos := "l09_node.go:173", after := #[{ on := 5, ground := Go.Ground.data }], guard := none }) (v := ?va6) rfl (by kernel_rfl) (by kernel_rfl) (by kernel_rfl) (fun _ _ _ h => h) (Or.inl ⟨by rfl, ?ha6⟩) hHeld ?ra6
    case ha6 =>
      intro wS hSw
      (try dsimp only at hSw)
      go_simp
      try with_reducible rfl
    case ra6 =>
    simp only [Act.put, List.setIfInBounds_toArray, List.set_cons_zero, List.set_cons_succ]
    refine wpAnyH_take (i := 7) (oi := { dst := some 12, op := Go.Op.fieldAddr 64 (Go.Operand.tmp 11) 5, type := 0, pos := "l09_node.go:173", after := #[{ on := 6, ground := Go.Ground.data }], guard := none }) (v := ?va7) rfl (by kernel_rfl) (by kernel_rfl) (by kernel_rfl) (fun _ _ _ h => h) (Or.inl ⟨by rfl, ?ha7⟩) hHeld ?ra7
    case ha7 =>
      intro wS hSw
      (try dsimp only at hSw)
      go_simp
      try with_reducible rfl
    case ra7 =>
    simp only [Act.put, List.setIfInBounds_toArray, List.set_cons_zero, List.set_cons_succ]
    refine wpAnyH_take (i := 8) (oi := { dst := some 13, op := Go.Op.load 2 (Go.Operand.tmp 12), type := 2, pos := "l09_node.go:173", after := #[{ on := 7, ground := Go.Ground.data }], guard := none }) (v := ?va8) rfl (by kernel_rfl) (by kernel_rfl) (by kernel_rfl) (fun _ _ _ h => h) (Or.inl ⟨by rfl, ?ha8⟩) hHeld ?ra8
    case ha8 =>
      intro wS hSw
      have y6 : wS.cell? ⟨g, 6, none⟩ = some (.int .i64 (c : Int)) := (hSw.cell (p := ⟨g, 6, none⟩) hgl).trans k6
      clear hSw
      (try dsimp only at hSw)
      go_simp
      try with_reducible rfl
    case ra8 =>
    simp only [Act.put, List.setIfInBounds_toArray, List.set_cons_zero, List.set_cons_succ]
    refine wpAnyH_take (i := 9) (oi := { dst := some 14, op := Go.Op.slice 24 (Go.Operand.tmp 9) (some (Go.Operand.tmp 13)) none none, type := 24, pos := "l09_node.go:173", after := #[{ on := 4, ground := Go.Ground.data }, { on := 8, ground := Go.Ground.data }], guard := none }) (v := ?va9) rfl (by kernel_rfl) (by kernel_rfl) (by kernel_rfl) (fun _ _ _ h => h) (Or.inl ⟨by rfl, ?ha9⟩) hHeld ?ra9
    case ha9 =>
      intro wS hSw
      (try dsimp only at hSw)
      go_simp
      try with_reducible rfl
    case ra9 =>
    simp only [Act.put, List.setIfInBounds_toArray, List.set_cons_zero, List.set_cons_succ]
    refine wpAnyH_take (i := 10) (oi := { dst := some 15, op := Go.Op.makeFunc (Go.Fn.func 43) #[] #[Go.Operand.tmp 3], type := 84, pos := "l09_node.go:173", after := #[], guard := none }) (v := ?va10) rfl (by kernel_rfl) (by kernel_rfl) (by kernel_rfl) (fun _ _ _ h => h) (Or.inl ⟨by rfl, ?ha10⟩) hHeld ?ra10
    case ha10 =>
      intro wS hSw
      (try dsimp only at hSw)
      go_simp
      try with_reducible rfl
    case ra10 =>
    simp only [Act.put, List.setIfInBounds_toArray, List.set_cons_zero, List.set_cons_succ]
    refine wpAnyH_ready (rs := [11]) (by kernel_rfl) (by simp) ?_
    refine AllReadyH.cons (o := { dst := some 16, op := Go.Op.call { callee := Go.Callee.value (Go.Operand.func 42), args := #[Go.Operand.tmp 14, Go.Operand.tmp 15], argTypes := #[24, 84] }, type := 4, pos := "l09_node.go:173", after := #[{ on := 9, ground := Go.Ground.data }, { on := 10, ground := Go.Ground.data }], guard := none }) rfl (fun K hK => ?_) AllReadyH.nil
    go_simp
    go_at_call 42
    refine (containsC (.slice _ 0 0) [] w.heap.size id _ ⟨[], _, _, rfl, by simp, Or.inl ⟨rfl, rfl⟩⟩ (by simp) hiD).mono ?_
    rintro e w3 ⟨rfl, hbw⟩
    try go_wp2_with fail
    refine hK.out _ _ (hHeld.trans (hbw.mono hHeld.size)) (fun hHeld => ?_)
    clear hK K
    try simp only [Act.put, List.setIfInBounds_toArray, List.set_cons_zero, List.set_cons_succ]
    refine wpAnyH_take (i := 12) (oi := { dst := some 4, op := Go.Op.assign (Go.Operand.tmp 16), type := 4, pos := "l09_node.go:173", after := #[{ on := 11, ground := Go.Ground.data }, { on := 11, ground := Go.Ground.chain }, { on := 0, ground := Go.Ground.phase }, { on := 1, ground := Go.Ground.phase }, { on := 2, ground := Go.Ground.phase }, { on := 3, ground := Go.Ground.phase }, { on := 4, ground := Go.Ground.phase }, { on := 5, ground := Go.Ground.phase }, { on := 6, ground := Go.Ground.phase }, { on := 7, ground := Go.Ground.phase }, { on := 8, ground := Go.Ground.phase }, { on := 9, ground := Go.Ground.phase }, { on := 10, ground := Go.Ground.phase }, { on := 11, ground := Go.Ground.phase }], guard := none }) (v := ?va12) rfl (by kernel_rfl) (by kernel_rfl) (by kernel_rfl) (fun _ _ _ h => h) (Or.inl ⟨by rfl, ?ha12⟩) hHeld ?ra12
    case ha12 =>
      intro wS hSw
      (try dsimp only at hSw)
      go_simp
      try with_reducible rfl
    case ra12 =>
    simp only [Act.put, List.setIfInBounds_toArray, List.set_cons_zero, List.set_cons_succ]
    refine wpAnyH_done (by kernel_rfl) ?_ _
    refine NoPanic.normal ?_
    have HB9 := hide hHeld
    clear hHeld
    go_wp2_with fail
    go_ret
    exact ⟨by rw [unhide HAN]; rfl, unhide HB9⟩
  · have hcl : c < x.writes.length := by omega
    have hne : (x.writes.length = c) = False := by simp; omega
    clear hcn
    refine wp_region_noPanic ?_
    refine wp_region_held_drew (S := fun w' => Below w.heap.size w w') (by kernel_rfl) (unhide HNB).drew (fun hHeld => ?_)
    generalize W0.drew = wD at hHeld hiD hRD ⊢
    refine wpAnyH_take (i := 0) (oi := { dst := some 5, op := Go.Op.move (Go.Operand.tmp 0), type := 48, pos := "l09_node.go:173", after := #[], guard := none }) (v := ?vb0) rfl (by kernel_rfl) (by kernel_rfl) (by kernel_rfl) (fun _ _ _ h => h) (Or.inl ⟨by rfl, ?hb0⟩) hHeld ?rb0
    case hb0 =>
      intro wS hSw
      (try dsimp only at hSw)
      go_simp
      try with_reducible rfl
    case rb0 =>
    simp only [Act.put, List.setIfInBounds_toArray, List.set_cons_zero, List.set_cons_succ]
    refine wpAnyH_take (i := 1) (oi := { dst := some 6, op := Go.Op.nilCheck (Go.Operand.tmp 5), type := 0, pos := "l09_node.go:173", after := #[{ on := 0, ground := Go.Ground.data }], guard := none }) (v := ?vb1) rfl (by kernel_rfl) (by kernel_rfl) (by kernel_rfl) (fun _ _ _ h => h) (Or.inl ⟨by rfl, ?hb1⟩) hHeld ?rb1
    case hb1 =>
      intro wS hSw
      (try dsimp only at hSw)
      go_simp
      try with_reducible rfl
    case rb1 =>
    simp only [Act.put, List.setIfInBounds_toArray, List.set_cons_zero, List.set_cons_succ]
    refine wpAnyH_take (i := 2) (oi := { dst := some 7, op := Go.Op.fieldAddr 64 (Go.Operand.tmp 6) 0, type := 0, pos := "l09_node.go:173", after := #[{ on := 1, ground := Go.Ground.data }], guard := none }) (v := ?vb2) rfl (by kernel_rfl) (by kernel_rfl) (by kernel_rfl) (fun _ _ _ h => h) (Or.inl ⟨by rfl, ?hb2⟩) hHeld ?rb2
    case hb2 =>
      intro wS hSw
      (try dsimp only at hSw)
      go_simp
      try with_reducible rfl
    case rb2 =>
    simp only [Act.put, List.setIfInBounds_toArray, List.set_cons_zero, List.set_cons_succ]
    refine wpAnyH_take (i := 3) (oi := { dst := some 8, op := Go.Op.fieldAddr 62 (Go.Operand.tmp 7) 0, type := 0, pos := "l09_node.go:173", after := #[{ on := 2, ground := Go.Ground.data }], guard := none }) (v := ?vb3) rfl (by kernel_rfl) (by kernel_rfl) (by kernel_rfl) (fun _ _ _ h => h) (Or.inl ⟨by rfl, ?hb3⟩) hHeld ?rb3
    case hb3 =>
      intro wS hSw
      (try dsimp only at hSw)
      go_simp
      try with_reducible rfl
    case rb3 =>
    simp only [Act.put, List.setIfInBounds_toArray, List.set_cons_zero, List.set_cons_succ]
    refine wpAnyH_take (i := 4) (oi := { dst := some 9, op := Go.Op.load 24 (Go.Operand.tmp 8), type := 24, pos := "l09_node.go:173", after := #[{ on := 3, ground := Go.Ground.data }], guard := none }) (v := ?vb4) rfl (by kernel_rfl) (by kernel_rfl) (by kernel_rfl) (fun _ _ _ h => h) (Or.inl ⟨by rfl, ?hb4⟩) hHeld ?rb4
    case hb4 =>
      intro wS hSw
      have y0 : wS.cell? ⟨g, 0, none⟩ = some (.slice (some ⟨gw, 0, none⟩) x.writes.length x.writes.length) := (hSw.cell (p := ⟨g, 0, none⟩) hgl).trans k0
      clear hSw
      (try dsimp only at hSw)
      go_simp
      try with_reducible rfl
    case rb4 =>
    simp only [Act.put, List.setIfInBounds_toArray, List.set_cons_zero, List.set_cons_succ]
    refine wpAnyH_take (i := 5) (oi := { dst := some 10, op := Go.Op.move (Go.Operand.tmp 0), type := 48, pos := "l09_node.go:173", after := #[], guard := none }) (v := ?vb5) rfl (by kernel_rfl) (by kernel_rfl) (by kernel_rfl) (fun _ _ _ h => h) (Or.inl ⟨by rfl, ?hb5⟩) hHeld ?rb5
    case hb5 =>
      intro wS hSw
      (try dsimp only at hSw)
      go_simp
      try with_reducible rfl
    case rb5 =>
    simp only [Act.put, List.setIfInBounds_toArray, List.set_cons_zero, List.set_cons_succ]
    refine wpAnyH_take (i := 6) (oi := { dst := some 11, op := Go.Op.nilCheck (Go.Operand.tmp 10), type := 0, pos := "l09_node.go:173", after := #[{ on := 5, ground := Go.Ground.data }], guard := none }) (v := ?vb6) rfl (by kernel_rfl) (by kernel_rfl) (by kernel_rfl) (fun _ _ _ h => h) (Or.inl ⟨by rfl, ?hb6⟩) hHeld ?rb6
    case hb6 =>
      intro wS hSw
      (try dsimp only at hSw)
      go_simp
      try with_reducible rfl
    case rb6 =>
    simp only [Act.put, List.setIfInBounds_toArray, List.set_cons_zero, List.set_cons_succ]
    refine wpAnyH_take (i := 7) (oi := { dst := some 12, op := Go.Op.fieldAddr 64 (Go.Operand.tmp 11) 5, type := 0, pos := "l09_node.go:173", after := #[{ on := 6, ground := Go.Ground.data }], guard := none }) (v := ?vb7) rfl (by kernel_rfl) (by kernel_rfl) (by kernel_rfl) (fun _ _ _ h => h) (Or.inl ⟨by rfl, ?hb7⟩) hHeld ?rb7
    case hb7 =>
      intro wS hSw
      (try dsimp only at hSw)
      go_simp
      try with_reducible rfl
    case rb7 =>
    simp only [Act.put, List.setIfInBounds_toArray, List.set_cons_zero, List.set_cons_succ]
    refine wpAnyH_take (i := 8) (oi := { dst := some 13, op := Go.Op.load 2 (Go.Operand.tmp 12), type := 2, pos := "l09_node.go:173", after := #[{ on := 7, ground := Go.Ground.data }], guard := none }) (v := ?vb8) rfl (by kernel_rfl) (by kernel_rfl) (by kernel_rfl) (fun _ _ _ h => h) (Or.inl ⟨by rfl, ?hb8⟩) hHeld ?rb8
    case hb8 =>
      intro wS hSw
      have y6 : wS.cell? ⟨g, 6, none⟩ = some (.int .i64 (c : Int)) := (hSw.cell (p := ⟨g, 6, none⟩) hgl).trans k6
      clear hSw
      (try dsimp only at hSw)
      go_simp
      try with_reducible rfl
    case rb8 =>
    simp only [Act.put, List.setIfInBounds_toArray, List.set_cons_zero, List.set_cons_succ]
    refine wpAnyH_take (i := 9) (oi := { dst := some 14, op := Go.Op.slice 24 (Go.Operand.tmp 9) (some (Go.Operand.tmp 13)) none none, type := 24, pos := "l09_node.go:173", after := #[{ on := 4, ground := Go.Ground.data }, { on := 8, ground := Go.Ground.data }], guard := none }) (v := ?vb9) rfl (by kernel_rfl) (by kernel_rfl) (by kernel_rfl) (fun _ _ _ h => h) (Or.inl ⟨by rfl, ?hb9⟩) hHeld ?rb9
    case hb9 =>
      intro wS hSw
      (try dsimp only at hSw)
      go_simp
      try with_reducible rfl
    case rb9 =>
    simp only [Act.put, List.setIfInBounds_toArray, List.set_cons_zero, List.set_cons_succ]
    refine wpAnyH_take (i := 10) (oi := { dst := some 15, op := Go.Op.makeFunc (Go.Fn.func 43) #[] #[Go.Operand.tmp 3], type := 84, pos := "l09_node.go:173", after := #[], guard := none }) (v := ?vb10) rfl (by kernel_rfl) (by kernel_rfl) (by kernel_rfl) (fun _ _ _ h => h) (Or.inl ⟨by rfl, ?hb10⟩) hHeld ?rb10
    case hb10 =>
      intro wS hSw
      (try dsimp only at hSw)
      go_simp
      try with_reducible rfl
    case rb10 =>
    simp only [Act.put, List.setIfInBounds_toArray, List.set_cons_zero, List.set_cons_succ]
    refine wpAnyH_ready (rs := [11]) (by kernel_rfl) (by simp) ?_
    refine AllReadyH.cons (o := { dst := some 16, op := Go.Op.call { callee := Go.Callee.value (Go.Operand.func 42), args := #[Go.Operand.tmp 14, Go.Operand.tmp 15], argTypes := #[24, 84] }, type := 4, pos := "l09_node.go:173", after := #[{ on := 9, ground := Go.Ground.data }, { on := 10, ground := Go.Ground.data }], guard := none }) rfl (fun K hK => ?_) AllReadyH.nil
    go_simp
    go_at_call 42
    refine (containsC (.slice (some ⟨gw, c * 5, none⟩) (x.writes.length - c) (x.writes.length - c)) (x.writes.drop c) w.heap.size id _ (by have := sl_drop_reads hRD c (by omega); rw [Nat.zero_add] at this; exact this) (by rw [List.length_drop]; omega) hiD).mono ?_
    rintro e w3 ⟨rfl, hbw⟩
    try go_wp2_with fail
    refine hK.out _ _ (hHeld.trans (hbw.mono hHeld.size)) (fun hHeld => ?_)
    clear hK K
    try simp only [Act.put, List.setIfInBounds_toArray, List.set_cons_zero, List.set_cons_succ]
    refine wpAnyH_take (i := 12) (oi := { dst := some 4, op := Go.Op.assign (Go.Operand.tmp 16), type := 4, pos := "l09_node.go:173", after := #[{ on := 11, ground := Go.Ground.data }, { on := 11, ground := Go.Ground.chain }, { on := 0, ground := Go.Ground.phase }, { on := 1, ground := Go.Ground.phase }, { on := 2, ground := Go.Ground.phase }, { on := 3, ground := Go.Ground.phase }, { on := 4, ground := Go.Ground.phase }, { on := 5, ground := Go.Ground.phase }, { on := 6, ground := Go.Ground.phase }, { on := 7, ground := Go.Ground.phase }, { on := 8, ground := Go.Ground.phase }, { on := 9, ground := Go.Ground.phase }, { on := 10, ground := Go.Ground.phase }, { on := 11, ground := Go.Ground.phase }], guard := none }) (v := ?vb12) rfl (by kernel_rfl) (by kernel_rfl) (by kernel_rfl) (fun _ _ _ h => h) (Or.inl ⟨by rfl, ?hb12⟩) hHeld ?rb12
    case hb12 =>
      intro wS hSw
      (try dsimp only at hSw)
      go_simp
      try with_reducible rfl
    case rb12 =>
    simp only [Act.put, List.setIfInBounds_toArray, List.set_cons_zero, List.set_cons_succ]
    refine wpAnyH_done (by kernel_rfl) ?_ _
    refine NoPanic.normal ?_
    have HB9 := hide hHeld
    clear hHeld
    go_wp2_with fail
    go_ret
    exact ⟨rfl, unhide HB9⟩

set_option maxRecDepth 10000 in
set_option maxHeartbeats 1000000 in
/-- DirtyIn of the program. -/
theorem implDirtyIn (cs : List Value) (x : DNode) (id : Int) (w : World) (h : Lay.tNode.Reads w cs x) :
    Calls Tryz.prog 8 #[.agg cs.toArray, .int .i64 id] w fun e w' => e = .returned (.bool (dirtyR x id)) ∧ Below w.heap.size w w' := by
  have hN := h
  obtain ⟨a4, d4, rfl, R4⟩ := open_Node h
  have nb : Below w.heap.size w (w.alloc (.cells #[.int .i64 x.id, .bool x.up, .int .i64 x.epoch, .int .i64 x.lease, .slice a4 x.writes.length d4, .int .i64 x.sure, .int .i64 x.clean] 26)) := (Below.refl _ _).alloc (Nat.le_refl _) _
  by_cases hf : nodeFault x = 0
  · have hok := nodeFault_zero hf
    have HL := hide (nodeOf_ok _ x _ (hN.later nb) hf)
    have HE : Hid (dirtyR x id = dirtyB x id) := by show dirtyR x id = _; rw [dirtyR, decide_eq_true hf]; rfl
    have HOK := hide hok
    have HB := hide nb
    clear hN nb R4 hf hok h
    go_enter Tryz.func8, Tryz.ntmps8
    go_wp2_with fail
    refine (unhide HL).mono ?_
    rintro e w1 ⟨g, gw, rfl, hH, O, hg, hb⟩
    have hcl := (unhide HOK).clean
    have hsr := (unhide HOK).sure
    have hln := (unhide HOK).len
    obtain ⟨c, hc⟩ : ∃ c : Nat, x.clean = (c : Int) := ⟨x.clean.toNat, by omega⟩
    have hH' : HeldAt w1 g (.slice (some ⟨gw, 0, none⟩) x.writes.length x.writes.length) ⟨x.id, x.up, x.epoch, x.lease, x.writes, x.sure, (c : Int)⟩ := by rw [← hc]; exact hH
    have HD := hide (isDirtyC g gw c x id w1 hH' O.reads (by omega) (by omega))
    have HB1 := hide ((unhide HB).trans (hb.mono (unhide HB).size))
    have HC : Hid (dirtyB x id = ((x.writes.drop c).any fun y => y.id == id)) := by show dirtyB x id = _; rw [dirtyB, hc, Int.toNat_natCast]
    clear hb HL HB hH O hg hc hH' hcl hsr hln
    go_wp2_with fail
    refine (unhide HD).mono ?_
    rintro e w2 ⟨rfl, hb⟩
    have HB2 := hide ((unhide HB1).trans (hb.mono (unhide HB1).size))
    clear hb HD HB1
    generalize ((x.writes.drop c).any fun y => y.id == id) = bb at *
    go_wp2_with fail
    go_ret
    exact ⟨by rw [unhide HE, unhide HC]; rfl, unhide HB2⟩
  · have HL := hide (nodeOf_bad _ x _ (hN.later nb) hf)
    have HE : Hid (dirtyR x id = false) := by show dirtyR x id = _; rw [dirtyR, decide_eq_false hf]; rfl
    have HB := hide nb
    have hd : (nodeFault x == 0) = false := by simpa using hf
    clear hN nb R4 hf h
    generalize nodeFault x = c at *
    go_enter Tryz.func8, Tryz.ntmps8
    go_wp2_with fail
    refine (unhide HL).mono ?_
    rintro e w1 ⟨rfl, hb⟩
    have HB1 := hide ((unhide HB).trans (hb.mono (unhide HB).size))
    clear hb HL HB
    go_wp2_with fail
    go_ret
    exact ⟨by rw [unhide HE]; rfl, unhide HB1⟩
end Go.Proofs.YtbogjepkdcknfaaGreat

namespace Go.Proofs.YtbogjepkdcknfaaGreat
open Go.RowKit

theorem implId (v : Int) (w : World) :
    Calls Tryz.prog 47 #[.int .i64 v] w fun e w' => e = .returned (.bool (decide (1 ≤ v) && decide (v ≤ 999))) ∧ w' = w := by
  by_cases h1 : 1 ≤ v
  · have d1 : decide (1 ≤ v) = true := by simpa using h1
    rw [d1]
    cases d2 : decide (v ≤ 999) <;>
    · go_enter Tryz.func47, Tryz.ntmps47
      go_wp2_with fail
      go_ret
      exact ⟨rfl, rfl⟩
  · have d1 : decide (1 ≤ v) = false := by simpa using h1
    rw [d1]
    go_enter Tryz.func47, Tryz.ntmps47
    go_wp2_with fail
    go_ret
    exact ⟨rfl, rfl⟩

end Go.Proofs.YtbogjepkdcknfaaGreat

namespace Go.Proofs.YtbogjepkdcknfaaGreat
open Go.RowKit


end Go.Proofs.YtbogjepkdcknfaaGreat

namespace Go.Proofs.YtbogjepkdcknfaaGreat
open Go.RowKit Go.Maps

def vecR : Value → Option (DataW Unit × List MemPlace)
  | .agg cs => match cs.toList with
    | [.int .i64 a, .int .i64 b, .int .i64 c] => some (vecD [a, b, c], [])
    | _ => none
  | _ => none
theorem vecR_mk (a b c : Int) : vecR (arr3 a b c) = some (vecD [a, b, c], []) := rfl
theorem vecR_inv {v : Value} {z : DataW Unit × List MemPlace} (h : vecR v = some z) : ∃ a b c, v = arr3 a b c ∧ z = (vecD [a, b, c], []) := by
  unfold vecR at h
  split at h
  · rename_i cs
    split at h
    · rename_i a b c he
      cases h
      refine ⟨a, b, c, ?_, rfl⟩
      obtain ⟨l⟩ := cs
      simp only at he
      rw [he]; rfl
    · cases h
  · cases h
theorem keyed64 : Keyed Tryz.prog 2 := int_keyed Tryz.underlying2
theorem zeroVec (w : World) : (zeroValue 92).run Tryz.prog w = .ok (arr3 0 0 0) w := by kernel_rfl
/-- Block b is a map that holds the items xs. -/
def TabAt (w : World) (b n : Nat) (xs : List DItem) : Prop := w.ownsMap Tryz.prog 2 vecR b n (mapD xs)
theorem TabAt.ext {S : Nat → Prop} {w w' : World} {b n : Nat} {xs : List DItem} (h : TabAt w b n xs) (e : Ext S w w') (hb : ¬ S b) : TabAt w' b n xs := by
  have hlt := World.ownsMap.lt h
  obtain ⟨es, clock, hb', r⟩ := h
  exact ⟨es, clock, (e.block b hlt hb).trans hb', r⟩
theorem TabAt.later {w w' : World} {b n : Nat} {xs : List DItem} (h : TabAt w b n xs) (e : Below w.heap.size w w') : TabAt w' b n xs := h.ext (ext_of_below e nowhere) (fun h => h)
theorem TabAt.lt {w : World} {b n : Nat} {xs : List DItem} (h : TabAt w b n xs) : b < w.heap.size := World.ownsMap.lt h
theorem TabAt.mono {w : World} {b n n' : Nat} {xs : List DItem} (h : TabAt w b n xs) (hn : n ≤ n') : TabAt w b n' xs := World.ownsMap.mono h hn
theorem ext_of_turned {w w' : World} {b : Nat} (h : w.mapTurned w' b) : Ext (fun q => q = b) w w' := by
  have g := h.grown
  obtain ⟨es, clock, es', clock', hb, rfl⟩ := h
  exact ⟨rfl, rfl, rfl, by simp [ChangeMaps.setBlock], fun k hk hn => g.block k hk (fun e => hn (by simpa using e))⟩
theorem key64 {a : Int} (h : (Lit.int .i64 a).wf = true) : keyOf Tryz.prog 2 (.int .i64 a) = some (.int .i64 a) := keyOf_int_mk Tryz.underlying2 h
/-- m[id] = vec. -/
theorem TabAt.put {w : World} {b n : Nat} {xs : List DItem} (h : TabAt w b n xs) (hn : n < 1000) {id : Int} (hw : (Lit.int .i64 id).wf = true) (x y z : Int) :
    ∃ w', (Instr.mapUpdate 72 (.map (some b)) (.int .i64 id) (arr3 x y z)).run Tryz.prog w = .ok () w' ∧ TabAt w' b (n + 1) (putI xs id [x, y, z]) ∧ Ext (fun q => q = b) w w' := by
  obtain ⟨w', h1, h2, h3⟩ := World.ownsMap.store h keyed64 Tryz.underlying72 (by unfold maxLen; omega) (key64 hw) (vecR_mk x y z)
  rw [put_mapD] at h2
  exact ⟨w', h1, h2, ext_of_turned h3⟩
/-- delete(m, id). -/
theorem TabAt.drop {w : World} {b n : Nat} {xs : List DItem} (h : TabAt w b n xs) {id : Int} (hw : (Lit.int .i64 id).wf = true) (ty : TypeId) :
    ∃ w', (Builtin.delete_ #[72, 2] ty #[.map (some b), .int .i64 id]).run Tryz.prog w = .ok (.tuple #[]) w' ∧ TabAt w' b n (dropI xs id) ∧ Ext (fun q => q = b) w w' := by
  obtain ⟨w', h1, h2, h3⟩ := World.ownsMap.drop h keyed64 Tryz.underlying72 (key64 hw) ty
  rw [del_mapD] at h2
  exact ⟨w', h1, h2, ext_of_turned h3⟩
/-- v, ok := m[id], where it is there. -/
theorem TabAt.look {w : World} {b n : Nat} {xs : List DItem} (h : TabAt w b n xs) (hr : Rising xs) {id : Int} (hw : (Lit.int .i64 id).wf = true) {x : DItem} (hx : x ∈ xs) (hid : x.id = id) :
    ∃ p q r, x.vec = [p, q, r] ∧ (Instr.lookup 72 (.map (some b)) (.int .i64 id) true).run Tryz.prog w = .ok (.tuple #[arr3 p q r, .bool true]) w ∧ (Instr.lookup 72 (.map (some b)) (.int .i64 id) false).run Tryz.prog w = .ok (arr3 p q r) w := by
  subst hid
  have hh : hasI xs x.id = true := by simp only [hasI, List.any_eq_true]; exact ⟨x, hx, by simp⟩
  obtain ⟨v, ps, hrun, hv⟩ := World.ownsMap.look_ok h keyed64 Tryz.underlying72 (zeroVec w) (vecR_mk 0 0 0) (key64 hw)
  obtain ⟨v2, ps2, hrun2, hv2⟩ := World.ownsMap.lookup h keyed64 Tryz.underlying72 (zeroVec w) (vecR_mk 0 0 0) (key64 hw)
  rw [at_mapD hr hx] at hv hv2
  obtain ⟨p, q, r, rfl, e⟩ := vecR_inv hv
  obtain ⟨p2, q2, r2, rfl, e2⟩ := vecR_inv hv2
  rw [has_mapD, hh] at hrun
  have k1 : x.vec = [p, q, r] := vecD_inj (congrArg Prod.fst e)
  have k2 : x.vec = [p2, q2, r2] := vecD_inj (congrArg Prod.fst e2)
  rw [k1] at k2
  simp only [List.cons.injEq, and_true] at k2
  obtain ⟨rfl, rfl, rfl⟩ := k2
  exact ⟨p, q, r, k1, hrun, hrun2⟩
theorem TabAt.miss {w : World} {b n : Nat} {xs : List DItem} (h : TabAt w b n xs) {id : Int} (hw : (Lit.int .i64 id).wf = true) (hi : hasI xs id = false) :
    ∃ p q r, (Instr.lookup 72 (.map (some b)) (.int .i64 id) true).run Tryz.prog w = .ok (.tuple #[arr3 p q r, .bool false]) w := by
  obtain ⟨v, ps, hrun, hv⟩ := World.ownsMap.look_ok h keyed64 Tryz.underlying72 (zeroVec w) (vecR_mk 0 0 0) (key64 hw)
  have hh : Maps.has (mapD xs) (.int .i64 id) = false := by rw [has_mapD]; exact hi
  rw [Maps.atKey_of_not_has hh] at hv
  obtain ⟨p, q, r, rfl, e⟩ := vecR_inv hv
  rw [hh] at hrun
  exact ⟨p, q, r, hrun⟩
theorem TabAt.len {w : World} {b n : Nat} {xs : List DItem} (h : TabAt w b n xs) (ty : TypeId) : (Builtin.len_ #[72] ty #[.map (some b)]).run Tryz.prog w = .ok (.int .i64 xs.length) w := by
  have := World.ownsMap.len h Tryz.underlying72 ty
  rwa [size_mapD] at this
theorem tabAt_new (w : World) : TabAt (w.alloc (.map #[] 0)) w.heap.size 0 [] := World.ownsMap_made w _ _ _

end Go.Proofs.YtbogjepkdcknfaaGreat

namespace Go.Proofs.YtbogjepkdcknfaaGreat
open Go.RowKit

theorem vec3 {zs : List Int} (h : vecFault zs = 0) : ∃ p q r, zs = [p, q, r] := by
  have hl := (vecFault_zero h).1
  match zs, hl with
  | [p, q, r], _ => exact ⟨p, q, r, rfl⟩
theorem Ext.drew1 {S : Nat → Prop} {a b : World} (h : Ext S a b) : Ext S a b.drew := ⟨h.os, h.tape, h.output, h.size, h.block⟩


end Go.Proofs.YtbogjepkdcknfaaGreat

namespace Go.Proofs.YtbogjepkdcknfaaGreat
open Go.RowKit Go.Maps

set_option maxRecDepth 10000 in
set_option maxHeartbeats 1000000 in
theorem putM_there (b n : Nat) (xs : List DItem) (id x y z : Int) (w : World) (hT : TabAt w b n xs) (hr : Rising xs) (hn : n < 1000) (hw : (Lit.int .i64 id).wf = true) (hi : hasI xs id = true) :
    Calls Tryz.prog 51 #[.map (some b), .int .i64 id, arr3 x y z] w fun e w' => e = .returned (.bool true) ∧ TabAt w' b (n + 1) (putI xs id [x, y, z]) ∧ Ext (fun q => q = b) w w' := by
  obtain ⟨a, ha, hai⟩ := hasI_true hi
  have n1 : Below w.heap.size w (w.alloc (.cells #[.int .i64 x, .int .i64 y, .int .i64 z] 92)) := (Below.refl _ _).alloc (Nat.le_refl _) _
  obtain ⟨p, q, r, -, hrun, -⟩ := (hT.later n1).look hr hw ha hai
  have n2 : Below w.heap.size w ((w.alloc (.cells #[.int .i64 x, .int .i64 y, .int .i64 z] 92)).alloc (.cells #[.int .i64 p, .int .i64 q, .int .i64 r] 92)) := n1.alloc (by simp) _
  obtain ⟨w5, hrun5, hT5, hE5⟩ := (hT.later n2).put hn hw x y z
  have HT := hide hT5
  have HE := hide ((ext_of_below n2 (fun q => q = b)).trans hE5)
  simp only [arr3] at hrun hrun5 ⊢
  clear hT5 hE5 n1 n2 hT hr ha hai hi a hw
  go_enter Tryz.func51, Tryz.ntmps51
  go_wp2_with fail
  go_ret
  exact ⟨rfl, unhide HT, unhide HE⟩

set_option maxRecDepth 10000 in
set_option maxHeartbeats 1000000 in
theorem putM_new (b n : Nat) (xs : List DItem) (id x y z : Int) (w : World) (hT : TabAt w b n xs) (hn : n < 1000) (hw : (Lit.int .i64 id).wf = true) (hi : hasI xs id = false) (hl : xs.length < 30) :
    Calls Tryz.prog 51 #[.map (some b), .int .i64 id, arr3 x y z] w fun e w' => e = .returned (.bool true) ∧ TabAt w' b (n + 1) (putI xs id [x, y, z]) ∧ Ext (fun q => q = b) w w' := by
  have n1 : Below w.heap.size w (w.alloc (.cells #[.int .i64 x, .int .i64 y, .int .i64 z] 92)) := (Below.refl _ _).alloc (Nat.le_refl _) _
  obtain ⟨p, q, r, hrun⟩ := (hT.later n1).miss hw hi
  have n2 : Below w.heap.size w ((w.alloc (.cells #[.int .i64 x, .int .i64 y, .int .i64 z] 92)).alloc (.cells #[.int .i64 p, .int .i64 q, .int .i64 r] 92)) := n1.alloc (by simp) _
  have hlen := (hT.later n2).len 3
  obtain ⟨w5, hrun5, hT5, hE5⟩ := (hT.later n2).put hn hw x y z
  have HT := hide hT5
  have HE := hide ((ext_of_below n2 (fun q => q = b)).trans hE5)
  have hd : decide ((30 : Int) ≤ (xs.length : Int)) = false := by simp; omega
  simp only [arr3] at hrun hrun5 ⊢
  clear hT5 hE5 n1 n2 hT hi hw
  go_enter Tryz.func51, Tryz.ntmps51
  go_wp2_with fail
  go_ret
  exact ⟨rfl, unhide HT, unhide HE⟩

set_option maxRecDepth 10000 in
set_option maxHeartbeats 1000000 in
theorem putM_full (b n : Nat) (xs : List DItem) (id x y z : Int) (w : World) (hT : TabAt w b n xs) (hw : (Lit.int .i64 id).wf = true) (hi : hasI xs id = false) (hl : 30 ≤ xs.length) :
    Calls Tryz.prog 51 #[.map (some b), .int .i64 id, arr3 x y z] w fun e w' => e = .returned (.bool false) ∧ Below w.heap.size w w' := by
  have n1 : Below w.heap.size w (w.alloc (.cells #[.int .i64 x, .int .i64 y, .int .i64 z] 92)) := (Below.refl _ _).alloc (Nat.le_refl _) _
  obtain ⟨p, q, r, hrun⟩ := (hT.later n1).miss hw hi
  have n2 : Below w.heap.size w ((w.alloc (.cells #[.int .i64 x, .int .i64 y, .int .i64 z] 92)).alloc (.cells #[.int .i64 p, .int .i64 q, .int .i64 r] 92)) := n1.alloc (by simp) _
  have hlen := (hT.later n2).len 3
  have HE := hide n2
  have hd : decide ((30 : Int) ≤ (xs.length : Int)) = true := by simp; omega
  simp only [arr3] at hrun ⊢
  clear n1 n2 hT hi hw
  go_enter Tryz.func51, Tryz.ntmps51
  go_wp2_with fail
  go_ret
  exact ⟨rfl, unhide HE⟩

end Go.Proofs.YtbogjepkdcknfaaGreat

namespace Go.Proofs.YtbogjepkdcknfaaGreat
open Go.RowKit Go.Maps

theorem dropM (b n : Nat) (xs : List DItem) (id : Int) (w : World) (hT : TabAt w b n xs) (hw : (Lit.int .i64 id).wf = true) :
    Calls Tryz.prog 52 #[.map (some b), .int .i64 id] w fun e w' => e = .returned (.tuple #[]) ∧ TabAt w' b n (dropI xs id) ∧ Ext (fun q => q = b) w w' := by
  have hown : w.ownsMap Tryz.prog 2 vecR b n (mapD xs) := hT
  have hkey := key64 hw
  clear hT hw
  go_enter Tryz.func52, Tryz.ntmps52
  go_wp2_with (at_delete; refine wpList_delete_own _ rfl _ _ 72 2 rfl 92 keyed64 Tryz.underlying72 vecR b n (mapD xs) rfl hown _ _ rfl hkey ?_)
  intro w1 h1 ht
  rw [del_mapD] at h1
  have HT : Hid (TabAt w1 b n (dropI xs id)) := h1
  have HE := hide (ext_of_turned ht)
  clear h1 ht hown hkey
  go_wp2_with fail
  refine bodyPost_end (v := .tuple #[]) (by simp [results, Tryz.results52, go_sem]) rfl ?_
  exact ⟨rfl, unhide HT, unhide HE⟩

end Go.Proofs.YtbogjepkdcknfaaGreat

namespace Go.Proofs.YtbogjepkdcknfaaGreat
open Go.RowKit

theorem asPut (v : Value) (w : World) : (Instr.typeAssert (.iface 96 v) 74 96 true).run Tryz.prog w = .ok (.tuple #[v, .bool true]) w := by kernel_rfl
theorem asNoPut (v : Value) (w : World) : (Instr.typeAssert (.iface 90 v) 74 96 true).run Tryz.prog w = .ok (.tuple #[.agg #[.int .i64 0, .int .i64 0, .int .i64 0], .bool false]) w := by kernel_rfl
theorem asDrop (v : Value) (w : World) : (Instr.typeAssert (.iface 90 v) 74 90 true).run Tryz.prog w = .ok (.tuple #[v, .bool true]) w := by kernel_rfl

set_option maxRecDepth 10000 in
set_option maxHeartbeats 1000000 in
theorem do_put (b n : Nat) (xs : List DItem) (id x y z : Int) (w : World) (hT : TabAt w b n xs) (hR : Right xs) (hn : n < 1000) (hw : (Lit.int .i64 id).wf = true) :
    Calls Tryz.prog 35 #[.map (some b), putV x y z, .int .i64 id] w fun e w' => e = .returned (.tuple #[]) ∧ TabAt w' b (n + 1) (if roomB xs id then putI xs id [x, y, z] else xs) ∧ Ext (fun q => q = b) w w' := by
  have a1 := asPut
  have nb : Below w.heap.size w (w.alloc (.cells #[.int .i64 x, .int .i64 y, .int .i64 z] 96)) := (Below.refl _ _).alloc (Nat.le_refl _) _
  have hT1 := hT.later nb
  have L : Hid (Calls Tryz.prog 51 #[.map (some b), .int .i64 id, .agg #[.int .i64 x, .int .i64 y, .int .i64 z]] (w.alloc (.cells #[.int .i64 x, .int .i64 y, .int .i64 z] 96)) fun e w' => ∃ r, e = .returned (.bool r) ∧ TabAt w' b (n + 1) (if roomB xs id then putI xs id [x, y, z] else xs) ∧ Ext (fun q => q = b) w w') := by
    show Calls _ _ _ _ _
    cases hr : roomB xs id with
    | true =>
      rw [if_pos rfl]
      have E0 := ext_of_below nb (fun q => q = b)
      cases hh : hasI xs id with
      | true => exact (putM_there b n xs id x y z _ hT1 (tableFault_zero hR).2.2 hn hw hh).mono fun e w' ⟨h1, h2, h3⟩ => ⟨_, h1, h2, E0.trans h3⟩
      | false =>
        rcases room_true hr with h | h
        · rw [hh] at h; cases h
        · exact (putM_new b n xs id x y z _ hT1 hn hw hh h).mono fun e w' ⟨h1, h2, h3⟩ => ⟨_, h1, h2, E0.trans h3⟩
    | false =>
      rw [if_neg (by simp)]
      obtain ⟨h1, h2⟩ := room_false hr
      exact (putM_full b n xs id x y z _ hT1 hw h1 h2).mono fun e w' ⟨k1, k2⟩ => ⟨_, k1, (hT1.later k2).mono (by omega), (ext_of_below nb _).trans (ext_of_below k2 _)⟩
  clear hT hR hT1 nb hw
  generalize (if roomB xs id then putI xs id [x, y, z] else xs) = Y at *
  simp only [putV]
  go_enter Tryz.func35, Tryz.ntmps35
  go_wp2_with fail
  refine (unhide L).mono ?_
  rintro e w1 ⟨r, rfl, hT, hE⟩
  have HT := hide hT
  have HE := hide hE
  clear hT hE L
  go_wp2_with fail
  refine bodyPost_end (v := .tuple #[]) (by simp [results, Tryz.results35, go_sem]) rfl ?_
  exact ⟨rfl, unhide HT, unhide HE⟩

set_option maxRecDepth 10000 in
set_option maxHeartbeats 1000000 in
theorem do_drop (b n : Nat) (xs : List DItem) (id : Int) (w : World) (hT : TabAt w b n xs) (hw : (Lit.int .i64 id).wf = true) :
    Calls Tryz.prog 35 #[.map (some b), dropV, .int .i64 id] w fun e w' => e = .returned (.tuple #[]) ∧ TabAt w' b (n + 1) (dropI xs id) ∧ Ext (fun q => q = b) w w' := by
  have a1 := asNoPut
  have a2 := asDrop
  have nb : ∀ o, Below w.heap.size w (w.alloc o) := fun o => (Below.refl _ _).alloc (Nat.le_refl _) _
  have L : Hid (∀ o, Calls Tryz.prog 52 #[.map (some b), .int .i64 id] (w.alloc o) fun e w' => e = .returned (.tuple #[]) ∧ TabAt w' b (n + 1) (dropI xs id) ∧ Ext (fun q => q = b) w w') := fun o =>
    (dropM b n xs id _ (hT.later (nb o)) hw).mono fun e w' ⟨h1, h2, h3⟩ => ⟨h1, h2.mono (by omega), (ext_of_below (nb o) _).trans h3⟩
  clear hT hw nb
  simp only [dropV]
  go_enter Tryz.func35, Tryz.ntmps35
  go_wp2_with fail
  refine (unhide L _).mono ?_
  rintro e w1 ⟨rfl, hT, hE⟩
  have HT := hide hT
  have HE := hide hE
  clear hT hE L
  go_wp2_with fail
  refine bodyPost_end (v := .tuple #[]) (by simp [results, Tryz.results35, go_sem]) rfl ?_
  exact ⟨rfl, unhide HT, unhide HE⟩

/-- do of the program. -/
theorem doC (b n : Nat) (xs : List DItem) (x : DWrite) (w : World) (hT : TabAt w b n xs) (hR : Right xs) (hn : n < 1000) (hx : wF x = 0) :
    Calls Tryz.prog 35 #[.map (some b), deedV x.kind x.vec, .int .i64 x.id] w fun e w' => e = .returned (.tuple #[]) ∧ TabAt w' b (n + 1) (applyI xs x) ∧ Ext (fun q => q = b) w w' := by
  obtain ⟨hi, -, -, hk⟩ := writeFault_zero hx
  have hw := id_wf (idB_of hi)
  rcases hk with ⟨h1, hv⟩ | ⟨h2, -⟩
  · obtain ⟨p, q, r, e⟩ := vec3 hv
    rw [deedV, if_pos h1, applyI, if_neg (by omega), e]
    exact do_put b n xs x.id p q r w hT hR hn hw
  · rw [deedV, if_neg (by omega), applyI, if_pos h2]
    exact do_drop b n xs x.id w hT hw

end Go.Proofs.YtbogjepkdcknfaaGreat

namespace Go.Proofs
open Go.Shelf
def Tryz.keys54_ren : Go.Shelf.Ren := ⟨fun | 7 => 54 | 10 => 71 | n => n, fun | 23 => 72 | 26 => 2 | 3 => 92 | 28 => 100 | 0 => 0 | 27 => 99 | 33 => 59 | 4 => 4 | n => n, fun | n => n⟩
theorem Tryz.keys54 : Go.Proofs.SlLaysZI.n7 Tryz.prog Tryz.keys54_ren := {
  mixed := by kernel_rfl
  f7 := ⟨Tryz.f54.name, by decide, Tryz.func54.trans (congrArg some (by kernel_rfl))⟩
  f10 := ⟨Tryz.f71.name, by decide, Tryz.func71.trans (congrArg some (by kernel_rfl))⟩
  t0 := Tryz.underlying0
  a0 := Tryz.isAgg0
  z0 := Tryz.sizeOf0
  v0 := Tryz.zeroValue0
  t4 := Tryz.underlying4
  a4 := Tryz.isAgg4
  z4 := Tryz.sizeOf4
  v4 := Tryz.zeroValue4
  t23 := Tryz.underlying72
  a23 := Tryz.isAgg72
  z23 := Tryz.sizeOf72
  v23 := Tryz.zeroValue72
  t26 := Tryz.underlying2
  a26 := Tryz.isAgg2
  z26 := Tryz.sizeOf2
  v26 := Tryz.zeroValue2
  t27 := Tryz.underlying99
  a27 := Tryz.isAgg99
  z27 := Tryz.sizeOf99
  v27 := Tryz.zeroValue99
  t28 := Tryz.underlying100
  a28 := Tryz.isAgg100
  z28 := Tryz.sizeOf100
  v28 := Tryz.zeroValue100
  t33 := Tryz.underlying59
  a33 := Tryz.isAgg59
  z33 := Tryz.sizeOf59
  v33 := Tryz.zeroValue59 }
def Tryz.sorted53_ren : Go.Shelf.Ren := ⟨fun | 6 => 53 | 8 => 69 | 9 => 70 | 11 => 78 | 13 => 80 | 12 => 79 | 23 => 94 | 24 => 95 | 14 => 85 | 15 => 86 | 16 => 87 | 17 => 88 | 18 => 89 | 19 => 90 | 20 => 91 | 21 => 92 | 22 => 93 | 25 => 97 | 26 => 98 | 27 => 99 | 28 => 100 | 29 => 101 | 30 => 102 | 31 => 103 | n => n, fun | 26 => 2 | 28 => 100 | 24 => 32 | 0 => 0 | 3 => 3 | 37 => 127 | 48 => 141 | 50 => 143 | 4 => 4 | 40 => 134 | 39 => 133 | 45 => 138 | 5 => 5 | 9 => 9 | 51 => 144 | 55 => 148 | 57 => 150 | 58 => 151 | 33 => 59 | n => n, fun | n => n⟩
theorem Tryz.sorted53 : Go.Proofs.SlLaysZI.n6 Tryz.prog Tryz.sorted53_ren := {
  mixed := by kernel_rfl
  f6 := ⟨Tryz.f53.name, by decide, Tryz.func53.trans (congrArg some (by kernel_rfl))⟩
  f8 := ⟨Tryz.f69.name, by decide, Tryz.func69.trans (congrArg some (by kernel_rfl))⟩
  f11 := ⟨Tryz.f78.name, by decide, Tryz.func78.trans (congrArg some (by kernel_rfl))⟩
  t0 := Tryz.underlying0
  a0 := Tryz.isAgg0
  z0 := Tryz.sizeOf0
  v0 := Tryz.zeroValue0
  t24 := Tryz.underlying32
  a24 := Tryz.isAgg32
  z24 := Tryz.sizeOf32
  v24 := Tryz.zeroValue32
  t26 := Tryz.underlying2
  a26 := Tryz.isAgg2
  z26 := Tryz.sizeOf2
  v26 := Tryz.zeroValue2
  t28 := Tryz.underlying100
  a28 := Tryz.isAgg100
  z28 := Tryz.sizeOf100
  v28 := Tryz.zeroValue100
  i26 := by kernel_rfl }
def Tryz.sort70_ren : Go.Shelf.Ren := ⟨fun | 5 => 70 | 8 => 80 | 7 => 79 | 19 => 94 | 20 => 95 | 10 => 85 | 11 => 86 | 12 => 87 | 13 => 88 | 14 => 89 | 15 => 90 | 16 => 91 | 17 => 92 | 18 => 93 | 30 => 97 | 31 => 98 | 32 => 99 | 33 => 100 | 34 => 101 | 35 => 102 | 40 => 103 | n => n, fun | 23 => 32 | 25 => 2 | 3 => 3 | 32 => 127 | 22 => 32 | 0 => 0 | 44 => 141 | 46 => 143 | 4 => 4 | 36 => 134 | 35 => 133 | 41 => 138 | 5 => 5 | 9 => 9 | 53 => 144 | 57 => 148 | 63 => 150 | 64 => 151 | n => n, fun | n => n⟩
theorem Tryz.sort70 : Go.Proofs.SlLaysM.n5 Tryz.prog Tryz.sort70_ren := {
  mixed := by kernel_rfl
  f5 := ⟨Tryz.f70.name, by decide, Tryz.func70.trans (congrArg some (by kernel_rfl))⟩
  f7 := ⟨Tryz.f79.name, by decide, Tryz.func79.trans (congrArg some (by kernel_rfl))⟩
  f8 := Tryz.func80.trans (congrArg some (by kernel_rfl))
  f10 := ⟨Tryz.f85.name, by decide, Tryz.func85.trans (congrArg some (by kernel_rfl))⟩
  f11 := ⟨Tryz.f86.name, by decide, Tryz.func86.trans (congrArg some (by kernel_rfl))⟩
  f12 := ⟨Tryz.f87.name, by decide, Tryz.func87.trans (congrArg some (by kernel_rfl))⟩
  f13 := ⟨Tryz.f88.name, by decide, Tryz.func88.trans (congrArg some (by kernel_rfl))⟩
  f14 := ⟨Tryz.f89.name, by decide, Tryz.func89.trans (congrArg some (by kernel_rfl))⟩
  f15 := ⟨Tryz.f90.name, by decide, Tryz.func90.trans (congrArg some (by kernel_rfl))⟩
  f16 := ⟨Tryz.f91.name, by decide, Tryz.func91.trans (congrArg some (by kernel_rfl))⟩
  f17 := ⟨Tryz.f92.name, by decide, Tryz.func92.trans (congrArg some (by kernel_rfl))⟩
  f18 := ⟨Tryz.f93.name, by decide, Tryz.func93.trans (congrArg some (by kernel_rfl))⟩
  f19 := Tryz.func94.trans (congrArg some (by kernel_rfl))
  f20 := Tryz.func95.trans (congrArg some (by kernel_rfl))
  f30 := ⟨Tryz.f97.name, by decide, Tryz.func97.trans (congrArg some (by kernel_rfl))⟩
  f31 := Tryz.func98.trans (congrArg some (by kernel_rfl))
  f32 := Tryz.func99.trans (congrArg some (by kernel_rfl))
  f33 := ⟨Tryz.f100.name, by decide, Tryz.func100.trans (congrArg some (by kernel_rfl))⟩
  f34 := ⟨Tryz.f101.name, by decide, Tryz.func101.trans (congrArg some (by kernel_rfl))⟩
  f35 := ⟨Tryz.f102.name, by decide, Tryz.func102.trans (congrArg some (by kernel_rfl))⟩
  f40 := ⟨Tryz.f103.name, by decide, Tryz.func103.trans (congrArg some (by kernel_rfl))⟩
  t0 := Tryz.underlying0
  a0 := Tryz.isAgg0
  z0 := Tryz.sizeOf0
  v0 := Tryz.zeroValue0
  t3 := Tryz.underlying3
  a3 := Tryz.isAgg3
  z3 := Tryz.sizeOf3
  v3 := Tryz.zeroValue3
  t4 := Tryz.underlying4
  a4 := Tryz.isAgg4
  z4 := Tryz.sizeOf4
  v4 := Tryz.zeroValue4
  t5 := Tryz.underlying5
  a5 := Tryz.isAgg5
  z5 := Tryz.sizeOf5
  v5 := Tryz.zeroValue5
  t9 := Tryz.underlying9
  a9 := Tryz.isAgg9
  z9 := Tryz.sizeOf9
  v9 := Tryz.zeroValue9
  t22 := Tryz.underlying32
  a22 := Tryz.isAgg32
  z22 := Tryz.sizeOf32
  v22 := Tryz.zeroValue32
  t23 := Tryz.underlying32
  a23 := Tryz.isAgg32
  z23 := Tryz.sizeOf32
  v23 := Tryz.zeroValue32
  t25 := Tryz.underlying2
  a25 := Tryz.isAgg2
  z25 := Tryz.sizeOf2
  v25 := Tryz.zeroValue2
  t32 := Tryz.underlying127
  a32 := Tryz.isAgg127
  z32 := Tryz.sizeOf127
  v32 := Tryz.zeroValue127
  t35 := Tryz.underlying133
  a35 := Tryz.isAgg133
  z35 := Tryz.sizeOf133
  v35 := Tryz.zeroValue133
  t36 := Tryz.underlying134
  a36 := Tryz.isAgg134
  z36 := Tryz.sizeOf134
  v36 := Tryz.zeroValue134
  t41 := Tryz.underlying138
  a41 := Tryz.isAgg138
  z41 := Tryz.sizeOf138
  v41 := Tryz.zeroValue138
  t44 := Tryz.underlying141
  a44 := Tryz.isAgg141
  z44 := Tryz.sizeOf141
  v44 := Tryz.zeroValue141
  t46 := Tryz.underlying143
  a46 := Tryz.isAgg143
  z46 := Tryz.sizeOf143
  v46 := Tryz.zeroValue143
  t53 := Tryz.underlying144
  a53 := Tryz.isAgg144
  z53 := Tryz.sizeOf144
  v53 := Tryz.zeroValue144
  t57 := Tryz.underlying148
  a57 := Tryz.isAgg148
  z57 := Tryz.sizeOf148
  v57 := Tryz.zeroValue148
  t63 := Tryz.underlying150
  a63 := Tryz.isAgg150
  z63 := Tryz.sizeOf150
  v63 := Tryz.zeroValue150
  t64 := Tryz.underlying151
  a64 := Tryz.isAgg151
  z64 := Tryz.sizeOf151
  v64 := Tryz.zeroValue151 }
end Go.Proofs

namespace Go.Proofs.YtbogjepkdcknfaaGreat
open Go.RowKit Go.Maps Go.Sort Go.Shelf

theorem sorts64 (m : Nat) : AnyZI.SortsIn Tryz.prog Tryz.sorted53_ren Fence.wide m :=
  ⟨fun blk off cap ss W hH hblk hsz => callsIn_wide.2 (AnyM.slices_Sort_int Tryz.sort70 blk off cap ss W hH hblk hsz),
   fun p cap W => callsIn_wide.2 (AnyM.slices_Sort_int_none Tryz.sort70 p cap W)⟩
/-- maps.Keys. -/
theorem mapKeys (mb : Option Nat) (W : World) : Calls Tryz.prog 54 #[.map mb] W fun e w' => e = .returned (.func (.func 71) #[] #[.pointer (some ⟨W.heap.size, 0, none⟩)]) ∧ w' = W.alloc (.cells #[.map mb] 72) :=
  (callsIn_wide (n := 5)).1 (AnyZI.keys_in Tryz.keys54 Fence.wide 5 trivial rfl mb W)

set_option maxHeartbeats 1000000 in
/-- slices.Sorted of them. -/
theorem sortedKeys (b n : Nat) (xs : List DItem) (w : World) (hT : TabAt w b n xs) (hx : xs.length ≤ 1000) :
    Calls Tryz.prog 53 #[.func (.func 71) #[] #[.pointer (some ⟨w.heap.size, 0, none⟩)]] (w.alloc (.cells #[.map (some b)] 72)) fun e w' => ∃ (v : Value) (ss : List Int), e = .returned v ∧ ss.Perm (intKeys (mapD xs)) ∧
      w'.ownsRow (w.alloc (.cells #[.map (some b)] 72)).heap.size 2 1 v ss.length ((ss.mergeSort (fun x y => decide (x ≤ y))).map encZ) ∧ Below (w.alloc (.cells #[.map (some b)] 72)).heap.size (w.alloc (.cells #[.map (some b)] 72)) w' := by
  have hown : w.ownsMap Tryz.prog 2 vecR b n (mapD xs) := hT
  have hbl := hown.lt
  have hmax : Maps.size (mapD xs) ≤ maxLen := by rw [size_mapD]; unfold maxLen; omega
  have hbytes : Maps.size (mapD xs) * 8 ≤ 140737488355328 := by rw [size_mapD]; omega
  have hseq : SeqGives Fence.wide 2 Tryz.prog 71 #[.pointer (some ⟨w.heap.size, 0, none⟩)] encZ (fun ss => ss.Perm (intKeys (mapD xs))) (Maps.size (mapD xs)) (w.alloc (.cells #[.map (some b)] 72)) :=
    AnyZI.keys_gives (ρ := Tryz.keys54_ren) { Tryz.keys54 with } Fence.wide _ trivial rfl (by omega) w.heap.size b n (mapD xs) _ (by simp) (by simp) (by
      obtain ⟨es, clock, hb, Ft, hs, hD⟩ := hown
      exact ⟨es, clock, (Below.heap_alloc _ _ b hbl).trans hb, Ft, hs, hD⟩)
  have cS := AnyZI.sorted_in Tryz.sorted53 Fence.wide 5 trivial trivial trivial trivial rfl (by omega) (sorts64 _) (enters_of Tryz.func70 (by kernel_rfl) rfl) 71 #[.pointer (some ⟨w.heap.size, 0, none⟩)] trivial (enters_of Tryz.func71 (by kernel_rfl) rfl) _ _ hmax hbytes _ hseq
  change CallsIn _ _ Tryz.prog 53 _ _ _ at cS
  refine ((callsIn_wide (n := 5)).1 cS).mono ?_
  rintro e w' ⟨v, ss, rfl, hS, hrow, -, hb⟩
  exact ⟨v, ss, rfl, hS, hrow, hb⟩

theorem encZ_eq : encZ = Value.int .i64 := rfl
theorem intKeys_mapD (xs : List DItem) : intKeys (mapD xs) = xs.map (·.id) := by
  simp only [intKeys, mapD, mapL, List.map_map]
  exact List.map_congr_left fun _ _ => rfl
/-- Rising Ids sort to themselves. -/
theorem sort_ids {xs : List DItem} (h : Rising xs) {ss : List Int} (hp : ss.Perm (xs.map (·.id))) : ss.mergeSort (fun x y => decide (x ≤ y)) = xs.map (·.id) := by
  have tr : ∀ a b c : Int, decide (a ≤ b) = true → decide (b ≤ c) = true → decide (a ≤ c) = true := fun a b c h1 h2 => by simp only [decide_eq_true_eq] at *; omega
  have tot : ∀ a b : Int, (decide (a ≤ b) || decide (b ≤ a)) = true := fun a b => by simp only [Bool.or_eq_true, decide_eq_true_eq]; omega
  refine List.Perm.eq_of_pairwise (le := fun a b => decide (a ≤ b) = true) (fun a b _ _ h1 h2 => ?_) (List.pairwise_mergeSort tr tot ss) ?_ ((List.mergeSort_perm ss _).trans hp)
  · simp only [decide_eq_true_eq] at h1 h2
    omega
  · refine List.pairwise_map.2 (h.imp fun {a b} hab => ?_)
    simp only [decide_eq_true_eq]
    omega

end Go.Proofs.YtbogjepkdcknfaaGreat

namespace Go.Proofs.YtbogjepkdcknfaaGreat
open Go.RowKit

theorem infoAppItem : (Tryz.prog.info? 69).map (fun i => (i.zero, i.size, i.bytes)) = some (some (.agg #[.int .i64 0, .slice none 0 0]), 2, 32) := by kernel_rfl
theorem one_Item {w : World} {row : List Value} {x : DItem} {bl : List Nat} (h : Lay.tItem.lies w row x bl) : (∀ u ∈ row, u.oneCell' = true) ∧ row.length = 1 * 2 := by
  obtain ⟨_, _, _, rfl, -⟩ := lies_Item.1 h
  simp [Value.oneCell']

/-- At an operation of a plain region: the new one lies in a block of its own. -/
theorem wpList_append_Item {w1 : World} {base : Nat} {v : Value} {rows : List (List Value)} {xs : List DItem} {bls : List (List Nat)} (hG : Grow Lay.tItem w1 base 69 v rows xs bls) {row : List Value} {x : DItem} {bl : List Nat} (hl : Lay.tItem.lies w1 row x bl) (hbl : ∀ b ∈ bl, v.ownBlock ≠ some b) {ops : Array Oper} {rest : List Oper} {o : Oper} {a : Act} {Q : Exit → Act → World → Prop} (hgd : o.guard = none) (s y : Operand)
    (ho : o.op = .call { callee := .builtin .append, args := #[s, y], argTypes := #[36, 36] }) (hs : a.eval s = v) (hy : a.eval y = .slice (some ⟨w1.heap.size, 0, none⟩) 1 1) (hn : xs.length + 1 ≤ 100000000) (hbase : base ≤ w1.heap.size)
    (h : ∀ g cap w', Grow Lay.tItem w' base 69 (.slice (some ⟨g, 0, none⟩) (xs.length + 1) cap) (rows ++ [row]) (xs ++ [x]) (bls ++ [bl]) → Below base w1 w' → Ext (fun q => v.ownBlock = some q) w1 w' → g < w'.heap.size → w1.heap.size ≤ w'.heap.size → (v.ownBlock = some g ∨ w1.heap.size ≤ g) → wpList Tryz.prog ops Q rest (a.put o.dst (.slice (some ⟨g, 0, none⟩) (xs.length + 1) cap)) w') :
    wpList Tryz.prog ops Q (o :: rest) a (w1.alloc (.cells row.toArray 69)) := by
  obtain ⟨i0, hi0, hz0, hz1, hz2⟩ := info_parts infoAppItem
  obtain ⟨h1, hlen⟩ := one_Item hl
  refine wpList_append_lies _ hgd s y 36 ho base 69 i0 _ 2 32 Tryz.underlying36 hi0 hz0 hz1 hz2 rfl (by omega) v xs.length rows.flatten hs (hG.own.alloc _) ⟨w1.heap.size, 0, none⟩ 1 1 row hy hlen (World.news_of_block (cs := row.toArray) (t := 69) (fr := (0, 0)) (heap_alloc_new w1 _)) h1 (by omega) (by unfold maxLen; omega) (by omega) (by simp; omega) (w1.alloc (.cells row.toArray 69)).heap.size rfl ?_
  intro g cap w' h2 h3 h4 h5
  have hg := grown_alloc h3
  have hbw : Below base w1 w' := (Below.refl _ _).grown hg hbase (fun j hj => (hG.own.lt j hj).1)
  have hor : v.ownBlock = some g ∨ w1.heap.size ≤ g := by
    rcases h4 with h4 | h4
    · exact Or.inl h4
    · exact Or.inr (by rw [h4]; simp)
  exact h g cap w' (hG.snoc hl hbl h2 hg hor) hbw ⟨hbw.os, hbw.tape, hbw.output, hbw.size, fun k hk hn => hg.block k hk (fun e => hn e.symm)⟩ h5 hbw.size hor

/-- At a step of a region that draws its order. -/
theorem step_append_Item {w1 : World} {base : Nat} {v : Value} {rows : List (List Value)} {xs : List DItem} {bls : List (List Nat)} (hG : Grow Lay.tItem w1 base 69 v rows xs bls) {row : List Value} {x : DItem} {bl : List Nat} (hl : Lay.tItem.lies w1 row x bl) (hbl : ∀ b ∈ bl, v.ownBlock ≠ some b) {ops : Array Oper} {o : Oper} {a : Act} {K : Act → World → Prop} {Q : Exit → Act → World → Prop} {E : Prop} (hgd : o.guard = none) (s y : Operand)
    (ho : o.op = .call { callee := .builtin .append, args := #[s, y], argTypes := #[36, 36] }) (hs : a.eval s = v) (hy : a.eval y = .slice (some ⟨w1.heap.size, 0, none⟩) 1 1) (hn : xs.length + 1 ≤ 100000000) (hbase : base ≤ w1.heap.size)
    (h : ∀ g cap w', Grow Lay.tItem w' base 69 (.slice (some ⟨g, 0, none⟩) (xs.length + 1) cap) (rows ++ [row]) (xs ++ [x]) (bls ++ [bl]) → Below base w1 w' → Ext (fun q => v.ownBlock = some q) w1 w' → g < w'.heap.size → w1.heap.size ≤ w'.heap.size → (v.ownBlock = some g ∨ w1.heap.size ≤ g) → K (a.put o.dst (.slice (some ⟨g, 0, none⟩) (xs.length + 1) cap)) w') :
    if Region.wanted o (yielded ops a.tmps) = true then Oper.wp Tryz.prog o a (w1.alloc (.cells row.toArray 69)) K Q else E := by
  obtain ⟨i0, hi0, hz0, hz1, hz2⟩ := info_parts infoAppItem
  obtain ⟨h1, hlen⟩ := one_Item hl
  refine step_append_lies _ hgd s y 36 ho base 69 i0 _ 2 32 Tryz.underlying36 hi0 hz0 hz1 hz2 rfl (by omega) v xs.length rows.flatten hs (hG.own.alloc _) ⟨w1.heap.size, 0, none⟩ 1 1 row hy hlen (World.news_of_block (cs := row.toArray) (t := 69) (fr := (0, 0)) (heap_alloc_new w1 _)) h1 (by omega) (by unfold maxLen; omega) (by omega) (by simp; omega) (w1.alloc (.cells row.toArray 69)).heap.size rfl ?_
  intro g cap w' h2 h3 h4 h5
  have hg := grown_alloc h3
  have hbw : Below base w1 w' := (Below.refl _ _).grown hg hbase (fun j hj => (hG.own.lt j hj).1)
  have hor : v.ownBlock = some g ∨ w1.heap.size ≤ g := by
    rcases h4 with h4 | h4
    · exact Or.inl h4
    · exact Or.inr (by rw [h4]; simp)
  exact h g cap w' (hG.snoc hl hbl h2 hg hor) hbw ⟨hbw.os, hbw.tape, hbw.output, hbw.size, fun k hk hn => hg.block k hk (fun e => hn e.symm)⟩ h5 hbw.size hor

end Go.Proofs.YtbogjepkdcknfaaGreat

namespace Go.Proofs.YtbogjepkdcknfaaGreat
open Go.RowKit Go.Maps

theorem grown_of_ext {r : Option Nat} {w w' : World} (e : Ext (fun q => r = some q) w w') : w.grownBy w' r :=
  ⟨e.os, e.tape, e.output, e.size, fun i hi hn => e.block i hi fun h => hn h.symm⟩
theorem own_snoc {w w' : World} {base : Nat} {bls : List (List Nat)} {bl : List Nat} (hn : bls.flatten.Nodup) (hs : ∀ b ∈ bls.flatten, base ≤ b ∧ ∀ o, w.frozen? ⟨b, o, none⟩ = false) (hlt : ∀ b ∈ bls.flatten, b < w.heap.size)
    (hn2 : bl.Nodup) (hs2 : ∀ b ∈ bl, w.heap.size ≤ b ∧ ∀ o, w'.frozen? ⟨b, o, none⟩ = false) (hb : base ≤ w.heap.size) (hk : ∀ b ∈ bls.flatten, w'.heap[b]? = w.heap[b]?) :
    (bls ++ [bl]).flatten.Nodup ∧ ∀ b ∈ (bls ++ [bl]).flatten, base ≤ b ∧ ∀ o, w'.frozen? ⟨b, o, none⟩ = false := by
  refine ⟨?_, ?_⟩
  · rw [List.flatten_append, List.nodup_append]
    refine ⟨hn, by simpa using hn2, fun a ha c hc e => ?_⟩
    have := hlt a ha
    have := (hs2 c (by simpa using hc)).1
    omega
  · intro b hm
    rw [List.flatten_append] at hm
    rcases List.mem_append.1 hm with hm | hm
    · exact ⟨(hs b hm).1, fun o => (frozen_of_heap (hk b hm) o).trans ((hs b hm).2 o)⟩
    · have h2 := hs2 b (by simpa using hm)
      exact ⟨by omega, h2.2⟩

set_option maxRecDepth 100000 in
set_option maxHeartbeats 4000000 in
/-- items of the program. -/
theorem itemsC (b n : Nat) (xs : List DItem) (w : World) (hT : TabAt w b n xs) (hR : Right xs) :
    Calls Tryz.prog 36 #[.map (some b)] w fun e w' => ∃ v, e = .returned v ∧ (Lay.sl Lay.tItem).OwnIn w' [v] xs w.heap.size w'.heap.size ∧ Below w.heap.size w w' := by
  obtain ⟨hlen, hall, hris⟩ := tableFault_zero hR
  have hbw := hT.lt
  have hown : w.ownsMap Tryz.prog 2 vecR b n (mapD xs) := hT
  obtain ⟨i0, hi, hz0, hz1, hz2⟩ := info_parts infoAppItem
  have HT := hide hT
  have HA := hide hall
  have HI := hide hris
  have hsz : Maps.size (mapD xs) = xs.length := size_mapD xs
  clear hT hall hris hR
  go_enter Tryz.func36, Tryz.ntmps36
  go_wp2_with (first
    | (at_len; refine wpList_len_own _ rfl _ 72 rfl 2 92 Tryz.underlying72 vecR b n (mapD xs) rfl hown ?_; rw [hsz])
    | (at_make; refine wpList_make_own _ rfl _ _ 36 rfl w.heap.size 69 i0 _ 2 Tryz.underlying36 hi hz0 hz1 .i64 .i64 _ xs.length rfl rfl rfl (by rw [hz2]; omega) (by unfold maxLen; omega) (Nat.le_refl _) ?_))
  clear hown hsz
  intro w1 hown1 hg1
  have hB1 : Below w.heap.size w w1 := (Below.refl _ _).grown hg1 (Nat.le_refl _) (by simp)
  have hz1' : w.heap.size < w1.heap.size := (hown1.lt w.heap.size rfl).2
  have hT1 := (unhide HT).later hB1
  have LS := sortedKeys b n xs w1 hT1 (by omega)
  have hB2 : Below w1.heap.size w1 (w1.alloc (.cells #[.map (some b)] 72)) := (Below.refl _ _).alloc (Nat.le_refl _) _
  have HT2 := hide (hT1.later hB2)
  have HG2 := hide ((Grow.nil (A := Lay.tItem) hown1).later hB2)
  have HB2 := hide (hB1.trans (hB2.mono hB1.size))
  have HLS := hide LS
  clear hown1 hg1 hB1 hT1 hB2 LS HT hi hz0 hz1 hz2
  go_wp2_with fail
  refine (mapKeys (some b) w1).mono ?_
  rintro e w2 ⟨rfl, rfl⟩
  go_wp2_with fail
  refine (unhide HLS).mono ?_
  generalize w1.alloc (.cells #[.map (some b)] 72) = W2 at *
  rintro e w3 ⟨sv, ss, rfl, hS, hrow, hb⟩
  rw [intKeys_mapD] at hS
  have hsl : ss.length = xs.length := by rw [hS.length_eq, List.length_map]
  rw [sort_ids (unhide HI) hS, encZ_eq, hsl] at hrow
  have hT3 := (unhide HT2).later hb
  have hG3 := (unhide HG2).later hb
  have hB3 := (unhide HB2).trans (hb.mono (unhide HB2).size)
  have hov : w.heap.size < W2.heap.size := by have := ((unhide HG2).own.lt w.heap.size rfl).2; omega
  clear hS HLS HT2 HG2 HB2 hb hsl ss
  by_cases hp : 0 < xs.length
  · obtain ⟨sg, cap, rfl, hsg, hsgl⟩ : ∃ sg cap, sv = .slice (some ⟨sg, 0, none⟩) xs.length cap ∧ W2.heap.size ≤ sg ∧ sg < w3.heap.size := by
      rcases hrow.2 with ⟨-, h0⟩ | ⟨g, cap, cur, rfl, hg, hh, -⟩
      · omega
      · exact ⟨g, cap, rfl, hg, lt_of_block hh⟩
    have HT3 := hide hT3
    have HG3 := hide hG3
    have HB3 := hide hB3
    have HROW := hide hrow
    clear hT3 hG3 hB3 hrow
    have hbig : xs.length ≤ 30 := hlen
    go_wp2_with fail
    go_loopw [3, 13] (fun v i wr => ∃ (k : Nat) (rows : List (List Value)) (bls : List (List Nat)), k ≤ xs.length ∧ i = .int .i64 k ∧ Grow Lay.tItem wr w.heap.size 69 v rows (xs.take k) bls ∧
        (bls.flatten.Nodup ∧ ∀ b ∈ bls.flatten, w.heap.size ≤ b ∧ ∀ o, wr.frozen? ⟨b, o, none⟩ = false) ∧ wr.ownsRow W2.heap.size 2 1 (.slice (some ⟨sg, 0, none⟩) xs.length cap) xs.length ((xs.map (·.id)).map (Value.int .i64)) ∧ v.ownBlock ≠ some sg ∧ TabAt wr b n xs ∧ Below w.heap.size w wr) (fun _ i _ => xs.length - (intOf i).toNat)
    case atStart =>
      exact ⟨0, [], [], Nat.zero_le _, rfl, unhide HG3, ⟨by simp, by simp⟩, unhide HROW, fun e => by simp [Value.ownBlock] at e; omega, unhide HT3, unhide HB3⟩
    case round =>
      obtain ⟨k, rows, bls, hk, rfl, hG, ⟨hnd, hsf⟩, hrow, hne, hT, hB⟩ := hrel
      clear HT3 HG3 HB3 HROW
      by_cases hlt : k < xs.length
      · have hc : wr.cell? ⟨sg, k, none⟩ = some (.int .i64 xs[k].id) := by
          rw [hrow.cellAt k (by omega)]
          simp [hlt]
        obtain ⟨hid, hvf⟩ := unhide HA xs[k] (List.getElem_mem hlt)
        obtain ⟨p, q, r, hv3, -, hrun⟩ := hT.look (unhide HI) (id_wf hid) (List.getElem_mem hlt) rfl
        have HTK : Hid (xs.take (k + 1) = xs.take k ++ [xs[k]]) := List.take_succ_eq_append_getElem hlt
        have HL : Hid ((xs.take k).length = k) := by show (xs.take k).length = k; rw [List.length_take]; omega
        generalize hx : xs[k] = x at *
        clear hx
        rw [hv3] at hvf
        obtain ⟨⟨b1, b2⟩, ⟨b3, b4⟩, b5, b6⟩ := fault3 hvf
        have HWF : Hid (∀ z ∈ [p, q, r], (Lit.int .i64 z).wf = true) := by
          show ∀ z ∈ [p, q, r], (Lit.int .i64 z).wf = true
          intro z hz
          simp only [List.mem_cons, List.not_mem_nil, or_false] at hz
          rcases hz with rfl | rfl | rfl <;> exact wf_of_bd (by omega)
        have LL := listOwn p q r wr (unhide HWF)
        simp only [arr3] at hrun LL
        have HLL := hide LL
        have hwi := id_wf hid
        have HWI := hide hwi
        have HV3 := hide hv3
        have HG := hide hG
        have HND := hide hnd
        have HSF := hide hsf
        have HROW := hide hrow
        have HNE := hide hne
        have HT := hide hT
        have HB := hide hB
        clear hG hnd hsf hrow hne hT hB hid hvf b1 b2 b3 b4 b5 b6 LL hwi hv3
        go_wp2_with fail
        refine (unhide HLL).mono ?_
        rintro e w4 ⟨g2, rfl, hO, hb4⟩
        obtain ⟨bl2, ⟨hl2, hn2, hf2⟩, hr2⟩ := hO
        have hG4 := (unhide HG).later hb4
        have hz4 := hb4.size
        have hB4 := (unhide HB).trans (hb4.mono (unhide HB).size)
        have hlies : Lay.tItem.lies w4 [.int .i64 x.id, .slice (some ⟨g2, 0, none⟩) 3 3] x bl2 := by
          refine lies_Item.2 ⟨some ⟨g2, 0, none⟩, 3, bl2, by rw [unhide HV3]; rfl, rfl, unhide HWI, ?_⟩
          rw [unhide HV3]; exact hl2
        have hoff : ∀ c ∈ bl2, u3.ownBlock ≠ some c := fun c hc e => by have h1 := hr2 c hc; have h2 := ((unhide HG).own.lt c e).2; omega
        have HSN := hide (own_snoc (w' := w4) (unhide HND) (unhide HSF) (unhide HG).sub_lt hn2 (fun c hc => ⟨(hr2 c hc).1, hf2 c hc⟩) (unhide HB).size (fun c hc => hb4.block c ((unhide HG).sub_lt c hc)))
        have HROW4 := hide (own_below (unhide HROW) hb4)
        have HT4 := hide ((unhide HT).later hb4)
        have hkl := unhide HL
        have HLO := hide hoff
        have HLT : Hid (∀ c ∈ (bls ++ [bl2]).flatten, u3.ownBlock ≠ some c) := by
          intro c hc
          rw [List.flatten_append] at hc
          rcases List.mem_append.1 hc with hc | hc
          · exact (unhide HG).off c hc
          · exact unhide HLO c (by simpa using hc)
        have HLS : Hid (∀ c ∈ (bls ++ [bl2]).flatten, c < w4.heap.size) := by
          intro c hc
          rw [List.flatten_append] at hc
          rcases List.mem_append.1 hc with hc | hc
          · have := (unhide HG).sub_lt c hc; omega
          · have := (hr2 c (by simpa using hc)).2; omega
        have HB4 := hide hB4
        have HZ : Hid (w.heap.size ≤ w4.heap.size) := hB4.size
        have HSG : Hid (sg < w4.heap.size) := by show sg < w4.heap.size; have := (unhide HROW).lt sg rfl; omega
        clear HLL hb4 hl2 hn2 hf2 hr2 hB4 HND HSF HROW HT HB HWF HWI HV3 hrun hc
        go_wp2_with (at_builtin; refine wpList_append_Item hG4 hlies hoff rfl _ _ rfl rfl rfl (by omega) (unhide HZ) ?_)
        rintro g5 cp5 w5 hG5 hb5 hE5 hl5 hz5 hor
        clear hG4 hlies hoff hkl
        have HG5 := hide hG5
        have HB5 := hide ((unhide HB4).trans hb5)
        have HT5 := hide ((unhide HT4).ext hE5 (fun e => by have := ((unhide HG).own.lt b e).1; omega))
        have HROW5 := hide ((unhide HROW4).kept (grown_of_ext hE5) (Or.inr (fun e => unhide HNE e.symm)))
        have HNE5 : Hid (some g5 ≠ some sg) := by
          intro e
          have e1 : g5 = sg := by simpa using e
          rcases hor with h | h
          · exact unhide HNE (by rw [h, e1])
          · have := unhide HSG; omega
        have HSN5 : Hid ((bls ++ [bl2]).flatten.Nodup ∧ ∀ c ∈ (bls ++ [bl2]).flatten, w.heap.size ≤ c ∧ ∀ o, w5.frozen? ⟨c, o, none⟩ = false) := by
          obtain ⟨s1, s2⟩ := unhide HSN
          exact ⟨s1, fun c hc => ⟨(s2 c hc).1, fun o => (frozen_of_heap (hE5.block c (unhide HLS c hc) (unhide HLT c hc)) o).trans ((s2 c hc).2 o)⟩⟩
        clear hG5 hb5 hE5 hor HB4 HT4 HROW4 HSN HG HNE HLT HLS HLO
        go_wp2_with fail
        go_roundw
        case rel =>
          have hg := unhide HG5
          rw [← unhide HTK] at hg
          exact ⟨k + 1, _, _, by omega, by go_num, hg, unhide HSN5, unhide HROW5, unhide HNE5, unhide HT5, unhide HB5⟩
        case measure => simp [intOf]; omega
      · obtain rfl : k = xs.length := by omega
        rw [List.take_length] at hG
        have HO := hide (hG.toOwn (by omega) hnd hsf)
        have HB := hide hB
        clear hG hB hnd hsf hrow hne hT
        go_wp2_with fail
        go_ret
        exact ⟨_, rfl, unhide HO, unhide HB⟩
  · obtain rfl : xs = [] := List.eq_nil_of_length_eq_zero (by omega)
    have HO := hide (hG3.toOwn (by simp) (by simp) (by simp))
    have HB := hide hB3
    have hsv : ∃ ao cap, sv = .slice ao 0 cap := by
      rcases hrow.2 with ⟨rfl, -⟩ | ⟨g, cap, cur, rfl, -⟩
      · exact ⟨none, 0, rfl⟩
      · exact ⟨_, cap, rfl⟩
    obtain ⟨ao, cap, rfl⟩ := hsv
    clear hG3 hB3 hT3 hrow hp
    go_wp2_with fail
    refine wp_loop_rounds 1 ?_
    rw [rounds_succ]
    go_wp2_with fail
    go_ret
    exact ⟨_, rfl, unhide HO, unhide HB⟩

end Go.Proofs.YtbogjepkdcknfaaGreat
