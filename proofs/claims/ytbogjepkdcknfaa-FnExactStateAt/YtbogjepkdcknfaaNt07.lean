/-
  Texts of this proof in one: MapTab, ImplFrom, ImplPutM, ImplDropM, ImplDo, Iter, KeysC, ImplItems, ImplTOf, ImplStateAt, LawStateN, OpenWrite, OpenNode.
  Their conditions stand in their theorems.
-/
import Derived.Test.YtbogjepkdcknfaaChecked
import Derived.Test.YtbogjepkdcknfaaNt01
import Derived.Test.YtbogjepkdcknfaaNt05
import Derived.Test.YtbogjepkdcknfaaNt06
import Derived.Deep.RegionHeld3
import Derived.Test.YtbogjepkdcknfaaNt02
import Derived.Shelf.SlIterI.Nil
import Derived.Shelf.SortM.Plain
import Derived.Shelf.SortM.SortNone
import Derived.Ground.GgzProg
import Derived.Ground.SlgmProg
import Derived.Shelf.SlGeneric
import Derived.Test.YtbogjepkdcknfaaProg
import Derived.Test.YtbogjepkdcknfaaNt03

namespace Go.Proofs.Ytbogjepkdcknfaa
open Go.RowKit Go.Maps

def vecR : Value → Option (DataW Unit × List MemPlace)
  | .agg cs => match cs.toList with
    | [.int .i64 a, .int .i64 b, .int .i64 c] => some (vecD [a, b, c], [])
    | _ => none
  | _ => none
theorem vecR_mk (a b c : Int) : vecR (arr3 a b c) = some (vecD [a, b, c], []) := rfl
theorem vecR_inv {v : Value} {z : DataW Unit × List MemPlace} (h : vecR v = some z) : ∃ a b c, v = arr3 a b c ∧ z = (vecD [a, b, c], []) := by
  unfold vecR at h
  split at h
  · rename_i cs
    split at h
    · rename_i a b c he
      cases h
      refine ⟨a, b, c, ?_, rfl⟩
      obtain ⟨l⟩ := cs
      simp only at he
      rw [he]; rfl
    · cases h
  · cases h
theorem keyed64 : Keyed Try.prog 2 := int_keyed Try.underlying2
theorem zeroVec (w : World) : (zeroValue 120).run Try.prog w = .ok (arr3 0 0 0) w := by kernel_rfl
/-- Block b is a map that holds the items xs. -/
def TabAt (w : World) (b n : Nat) (xs : List DItem) : Prop := w.ownsMap Try.prog 2 vecR b n (mapD xs)
theorem TabAt.ext {S : Nat → Prop} {w w' : World} {b n : Nat} {xs : List DItem} (h : TabAt w b n xs) (e : Ext S w w') (hb : ¬ S b) : TabAt w' b n xs := by
  have hlt := World.ownsMap.lt h
  obtain ⟨es, clock, hb', r⟩ := h
  exact ⟨es, clock, (e.block b hlt hb).trans hb', r⟩
theorem TabAt.later {w w' : World} {b n : Nat} {xs : List DItem} (h : TabAt w b n xs) (e : Below w.heap.size w w') : TabAt w' b n xs := h.ext (ext_of_below e nowhere) (fun h => h)
theorem TabAt.lt {w : World} {b n : Nat} {xs : List DItem} (h : TabAt w b n xs) : b < w.heap.size := World.ownsMap.lt h
theorem TabAt.mono {w : World} {b n n' : Nat} {xs : List DItem} (h : TabAt w b n xs) (hn : n ≤ n') : TabAt w b n' xs := World.ownsMap.mono h hn
theorem ext_of_turned {w w' : World} {b : Nat} (h : w.mapTurned w' b) : Ext (fun q => q = b) w w' := by
  have g := h.grown
  obtain ⟨es, clock, es', clock', hb, rfl⟩ := h
  exact ⟨rfl, rfl, rfl, by simp [ChangeMaps.setBlock], fun k hk hn => g.block k hk (fun e => hn (by simpa using e))⟩
theorem key64 {a : Int} (h : (Lit.int .i64 a).wf = true) : keyOf Try.prog 2 (.int .i64 a) = some (.int .i64 a) := keyOf_int_mk Try.underlying2 h
/-- m[id] = vec. -/
theorem TabAt.put {w : World} {b n : Nat} {xs : List DItem} (h : TabAt w b n xs) (hn : n < 1000) {id : Int} (hw : (Lit.int .i64 id).wf = true) (x y z : Int) :
    ∃ w', (Instr.mapUpdate 95 (.map (some b)) (.int .i64 id) (arr3 x y z)).run Try.prog w = .ok () w' ∧ TabAt w' b (n + 1) (putI xs id [x, y, z]) ∧ Ext (fun q => q = b) w w' := by
  obtain ⟨w', h1, h2, h3⟩ := World.ownsMap.store h keyed64 Try.underlying95 (by unfold maxLen; omega) (key64 hw) (vecR_mk x y z)
  rw [put_mapD] at h2
  exact ⟨w', h1, h2, ext_of_turned h3⟩
/-- delete(m, id). -/
theorem TabAt.drop {w : World} {b n : Nat} {xs : List DItem} (h : TabAt w b n xs) {id : Int} (hw : (Lit.int .i64 id).wf = true) (ty : TypeId) :
    ∃ w', (Builtin.delete_ #[95, 2] ty #[.map (some b), .int .i64 id]).run Try.prog w = .ok (.tuple #[]) w' ∧ TabAt w' b n (dropI xs id) ∧ Ext (fun q => q = b) w w' := by
  obtain ⟨w', h1, h2, h3⟩ := World.ownsMap.drop h keyed64 Try.underlying95 (key64 hw) ty
  rw [del_mapD] at h2
  exact ⟨w', h1, h2, ext_of_turned h3⟩
/-- v, ok := m[id], where it is there. -/
theorem TabAt.look {w : World} {b n : Nat} {xs : List DItem} (h : TabAt w b n xs) (hr : Rising xs) {id : Int} (hw : (Lit.int .i64 id).wf = true) {x : DItem} (hx : x ∈ xs) (hid : x.id = id) :
    ∃ p q r, x.vec = [p, q, r] ∧ (Instr.lookup 95 (.map (some b)) (.int .i64 id) true).run Try.prog w = .ok (.tuple #[arr3 p q r, .bool true]) w ∧ (Instr.lookup 95 (.map (some b)) (.int .i64 id) false).run Try.prog w = .ok (arr3 p q r) w := by
  subst hid
  have hh : hasI xs x.id = true := by simp only [hasI, List.any_eq_true]; exact ⟨x, hx, by simp⟩
  obtain ⟨v, ps, hrun, hv⟩ := World.ownsMap.look_ok h keyed64 Try.underlying95 (zeroVec w) (vecR_mk 0 0 0) (key64 hw)
  obtain ⟨v2, ps2, hrun2, hv2⟩ := World.ownsMap.lookup h keyed64 Try.underlying95 (zeroVec w) (vecR_mk 0 0 0) (key64 hw)
  rw [at_mapD hr hx] at hv hv2
  obtain ⟨p, q, r, rfl, e⟩ := vecR_inv hv
  obtain ⟨p2, q2, r2, rfl, e2⟩ := vecR_inv hv2
  rw [has_mapD, hh] at hrun
  have k1 : x.vec = [p, q, r] := vecD_inj (congrArg Prod.fst e)
  have k2 : x.vec = [p2, q2, r2] := vecD_inj (congrArg Prod.fst e2)
  rw [k1] at k2
  simp only [List.cons.injEq, and_true] at k2
  obtain ⟨rfl, rfl, rfl⟩ := k2
  exact ⟨p, q, r, k1, hrun, hrun2⟩
theorem TabAt.miss {w : World} {b n : Nat} {xs : List DItem} (h : TabAt w b n xs) {id : Int} (hw : (Lit.int .i64 id).wf = true) (hi : hasI xs id = false) :
    ∃ p q r, (Instr.lookup 95 (.map (some b)) (.int .i64 id) true).run Try.prog w = .ok (.tuple #[arr3 p q r, .bool false]) w := by
  obtain ⟨v, ps, hrun, hv⟩ := World.ownsMap.look_ok h keyed64 Try.underlying95 (zeroVec w) (vecR_mk 0 0 0) (key64 hw)
  have hh : Maps.has (mapD xs) (.int .i64 id) = false := by rw [has_mapD]; exact hi
  rw [Maps.atKey_of_not_has hh] at hv
  obtain ⟨p, q, r, rfl, e⟩ := vecR_inv hv
  rw [hh] at hrun
  exact ⟨p, q, r, hrun⟩
theorem TabAt.len {w : World} {b n : Nat} {xs : List DItem} (h : TabAt w b n xs) (ty : TypeId) : (Builtin.len_ #[95] ty #[.map (some b)]).run Try.prog w = .ok (.int .i64 xs.length) w := by
  have := World.ownsMap.len h Try.underlying95 ty
  rwa [size_mapD] at this
theorem tabAt_new (w : World) : TabAt (w.alloc (.map #[] 0)) w.heap.size 0 [] := World.ownsMap_made w _ _ _

end Go.Proofs.Ytbogjepkdcknfaa

namespace Go.Proofs.Ytbogjepkdcknfaa
open Go.RowKit

theorem vec3 {zs : List Int} (h : vecFault zs = 0) : ∃ p q r, zs = [p, q, r] := by
  have hl := (vecFault_zero h).1
  match zs, hl with
  | [p, q, r], _ => exact ⟨p, q, r, rfl⟩
theorem Ext.drew1 {S : Nat → Prop} {a b : World} (h : Ext S a b) : Ext S a b.drew := ⟨h.os, h.tape, h.output, h.size, h.block⟩


end Go.Proofs.Ytbogjepkdcknfaa

namespace Go.Proofs.Ytbogjepkdcknfaa
open Go.RowKit Go.Maps

set_option maxRecDepth 10000 in
set_option maxHeartbeats 1000000 in
theorem putM_there (b n : Nat) (xs : List DItem) (id x y z : Int) (w : World) (hT : TabAt w b n xs) (hr : Rising xs) (hn : n < 1000) (hw : (Lit.int .i64 id).wf = true) (hi : hasI xs id = true) :
    Calls Try.prog 102 #[.map (some b), .int .i64 id, arr3 x y z] w fun e w' => e = .returned (.bool true) ∧ TabAt w' b (n + 1) (putI xs id [x, y, z]) ∧ Ext (fun q => q = b) w w' := by
  obtain ⟨a, ha, hai⟩ := hasI_true hi
  have n1 : Below w.heap.size w (w.alloc (.cells #[.int .i64 x, .int .i64 y, .int .i64 z] 120)) := (Below.refl _ _).alloc (Nat.le_refl _) _
  obtain ⟨p, q, r, -, hrun, -⟩ := (hT.later n1).look hr hw ha hai
  have n2 : Below w.heap.size w ((w.alloc (.cells #[.int .i64 x, .int .i64 y, .int .i64 z] 120)).alloc (.cells #[.int .i64 p, .int .i64 q, .int .i64 r] 120)) := n1.alloc (by simp) _
  obtain ⟨w5, hrun5, hT5, hE5⟩ := (hT.later n2).put hn hw x y z
  have HT := hide hT5
  have HE := hide ((ext_of_below n2 (fun q => q = b)).trans hE5)
  simp only [arr3] at hrun hrun5 ⊢
  clear hT5 hE5 n1 n2 hT hr ha hai hi a hw
  go_enter Try.func102, Try.ntmps102
  go_wp2_with fail
  go_ret
  exact ⟨rfl, unhide HT, unhide HE⟩

set_option maxRecDepth 10000 in
set_option maxHeartbeats 1000000 in
theorem putM_new (b n : Nat) (xs : List DItem) (id x y z : Int) (w : World) (hT : TabAt w b n xs) (hn : n < 1000) (hw : (Lit.int .i64 id).wf = true) (hi : hasI xs id = false) (hl : xs.length < 30) :
    Calls Try.prog 102 #[.map (some b), .int .i64 id, arr3 x y z] w fun e w' => e = .returned (.bool true) ∧ TabAt w' b (n + 1) (putI xs id [x, y, z]) ∧ Ext (fun q => q = b) w w' := by
  have n1 : Below w.heap.size w (w.alloc (.cells #[.int .i64 x, .int .i64 y, .int .i64 z] 120)) := (Below.refl _ _).alloc (Nat.le_refl _) _
  obtain ⟨p, q, r, hrun⟩ := (hT.later n1).miss hw hi
  have n2 : Below w.heap.size w ((w.alloc (.cells #[.int .i64 x, .int .i64 y, .int .i64 z] 120)).alloc (.cells #[.int .i64 p, .int .i64 q, .int .i64 r] 120)) := n1.alloc (by simp) _
  have hlen := (hT.later n2).len 3
  obtain ⟨w5, hrun5, hT5, hE5⟩ := (hT.later n2).put hn hw x y z
  have HT := hide hT5
  have HE := hide ((ext_of_below n2 (fun q => q = b)).trans hE5)
  have hd : decide ((30 : Int) ≤ (xs.length : Int)) = false := by simp; omega
  simp only [arr3] at hrun hrun5 ⊢
  clear hT5 hE5 n1 n2 hT hi hw
  go_enter Try.func102, Try.ntmps102
  go_wp2_with fail
  go_ret
  exact ⟨rfl, unhide HT, unhide HE⟩

set_option maxRecDepth 10000 in
set_option maxHeartbeats 1000000 in
theorem putM_full (b n : Nat) (xs : List DItem) (id x y z : Int) (w : World) (hT : TabAt w b n xs) (hw : (Lit.int .i64 id).wf = true) (hi : hasI xs id = false) (hl : 30 ≤ xs.length) :
    Calls Try.prog 102 #[.map (some b), .int .i64 id, arr3 x y z] w fun e w' => e = .returned (.bool false) ∧ Below w.heap.size w w' := by
  have n1 : Below w.heap.size w (w.alloc (.cells #[.int .i64 x, .int .i64 y, .int .i64 z] 120)) := (Below.refl _ _).alloc (Nat.le_refl _) _
  obtain ⟨p, q, r, hrun⟩ := (hT.later n1).miss hw hi
  have n2 : Below w.heap.size w ((w.alloc (.cells #[.int .i64 x, .int .i64 y, .int .i64 z] 120)).alloc (.cells #[.int .i64 p, .int .i64 q, .int .i64 r] 120)) := n1.alloc (by simp) _
  have hlen := (hT.later n2).len 3
  have HE := hide n2
  have hd : decide ((30 : Int) ≤ (xs.length : Int)) = true := by simp; omega
  simp only [arr3] at hrun ⊢
  clear n1 n2 hT hi hw
  go_enter Try.func102, Try.ntmps102
  go_wp2_with fail
  go_ret
  exact ⟨rfl, unhide HE⟩

end Go.Proofs.Ytbogjepkdcknfaa

namespace Go.Proofs.Ytbogjepkdcknfaa
open Go.RowKit Go.Maps

theorem dropM (b n : Nat) (xs : List DItem) (id : Int) (w : World) (hT : TabAt w b n xs) (hw : (Lit.int .i64 id).wf = true) :
    Calls Try.prog 103 #[.map (some b), .int .i64 id] w fun e w' => e = .returned (.tuple #[]) ∧ TabAt w' b n (dropI xs id) ∧ Ext (fun q => q = b) w w' := by
  have hown : w.ownsMap Try.prog 2 vecR b n (mapD xs) := hT
  have hkey := key64 hw
  clear hT hw
  go_enter Try.func103, Try.ntmps103
  go_wp2_with (at_delete; refine wpList_delete_own _ rfl _ _ 95 2 rfl 120 keyed64 Try.underlying95 vecR b n (mapD xs) rfl hown _ _ rfl hkey ?_)
  intro w1 h1 ht
  rw [del_mapD] at h1
  have HT : Hid (TabAt w1 b n (dropI xs id)) := h1
  have HE := hide (ext_of_turned ht)
  clear h1 ht hown hkey
  go_wp2_with fail
  refine bodyPost_end (v := .tuple #[]) (by simp [results, Try.results103, go_sem]) rfl ?_
  exact ⟨rfl, unhide HT, unhide HE⟩

end Go.Proofs.Ytbogjepkdcknfaa

namespace Go.Proofs.Ytbogjepkdcknfaa
open Go.RowKit

theorem asPut (v : Value) (w : World) : (Instr.typeAssert (.iface 124 v) 97 124 true).run Try.prog w = .ok (.tuple #[v, .bool true]) w := by kernel_rfl
theorem asNoPut (v : Value) (w : World) : (Instr.typeAssert (.iface 118 v) 97 124 true).run Try.prog w = .ok (.tuple #[.agg #[.int .i64 0, .int .i64 0, .int .i64 0], .bool false]) w := by kernel_rfl
theorem asDrop (v : Value) (w : World) : (Instr.typeAssert (.iface 118 v) 97 118 true).run Try.prog w = .ok (.tuple #[v, .bool true]) w := by kernel_rfl

set_option maxRecDepth 10000 in
set_option maxHeartbeats 1000000 in
theorem do_put (b n : Nat) (xs : List DItem) (id x y z : Int) (w : World) (hT : TabAt w b n xs) (hR : Right xs) (hn : n < 1000) (hw : (Lit.int .i64 id).wf = true) :
    Calls Try.prog 82 #[.map (some b), putV x y z, .int .i64 id] w fun e w' => e = .returned (.tuple #[]) ∧ TabAt w' b (n + 1) (if roomB xs id then putI xs id [x, y, z] else xs) ∧ Ext (fun q => q = b) w w' := by
  have a1 := asPut
  have nb : Below w.heap.size w (w.alloc (.cells #[.int .i64 x, .int .i64 y, .int .i64 z] 124)) := (Below.refl _ _).alloc (Nat.le_refl _) _
  have hT1 := hT.later nb
  have L : Hid (Calls Try.prog 102 #[.map (some b), .int .i64 id, .agg #[.int .i64 x, .int .i64 y, .int .i64 z]] (w.alloc (.cells #[.int .i64 x, .int .i64 y, .int .i64 z] 124)) fun e w' => ∃ r, e = .returned (.bool r) ∧ TabAt w' b (n + 1) (if roomB xs id then putI xs id [x, y, z] else xs) ∧ Ext (fun q => q = b) w w') := by
    show Calls _ _ _ _ _
    cases hr : roomB xs id with
    | true =>
      rw [if_pos rfl]
      have E0 := ext_of_below nb (fun q => q = b)
      cases hh : hasI xs id with
      | true => exact (putM_there b n xs id x y z _ hT1 (tableFault_zero hR).2.2 hn hw hh).mono fun e w' ⟨h1, h2, h3⟩ => ⟨_, h1, h2, E0.trans h3⟩
      | false =>
        rcases room_true hr with h | h
        · rw [hh] at h; cases h
        · exact (putM_new b n xs id x y z _ hT1 hn hw hh h).mono fun e w' ⟨h1, h2, h3⟩ => ⟨_, h1, h2, E0.trans h3⟩
    | false =>
      rw [if_neg (by simp)]
      obtain ⟨h1, h2⟩ := room_false hr
      exact (putM_full b n xs id x y z _ hT1 hw h1 h2).mono fun e w' ⟨k1, k2⟩ => ⟨_, k1, (hT1.later k2).mono (by omega), (ext_of_below nb _).trans (ext_of_below k2 _)⟩
  clear hT hR hT1 nb hw
  generalize (if roomB xs id then putI xs id [x, y, z] else xs) = Y at *
  simp only [putV]
  go_enter Try.func82, Try.ntmps82
  go_wp2_with fail
  refine (unhide L).mono ?_
  rintro e w1 ⟨r, rfl, hT, hE⟩
  have HT := hide hT
  have HE := hide hE
  clear hT hE L
  go_wp2_with fail
  refine bodyPost_end (v := .tuple #[]) (by simp [results, Try.results82, go_sem]) rfl ?_
  exact ⟨rfl, unhide HT, unhide HE⟩

set_option maxRecDepth 10000 in
set_option maxHeartbeats 1000000 in
theorem do_drop (b n : Nat) (xs : List DItem) (id : Int) (w : World) (hT : TabAt w b n xs) (hw : (Lit.int .i64 id).wf = true) :
    Calls Try.prog 82 #[.map (some b), dropV, .int .i64 id] w fun e w' => e = .returned (.tuple #[]) ∧ TabAt w' b (n + 1) (dropI xs id) ∧ Ext (fun q => q = b) w w' := by
  have a1 := asNoPut
  have a2 := asDrop
  have nb : ∀ o, Below w.heap.size w (w.alloc o) := fun o => (Below.refl _ _).alloc (Nat.le_refl _) _
  have L : Hid (∀ o, Calls Try.prog 103 #[.map (some b), .int .i64 id] (w.alloc o) fun e w' => e = .returned (.tuple #[]) ∧ TabAt w' b (n + 1) (dropI xs id) ∧ Ext (fun q => q = b) w w') := fun o =>
    (dropM b n xs id _ (hT.later (nb o)) hw).mono fun e w' ⟨h1, h2, h3⟩ => ⟨h1, h2.mono (by omega), (ext_of_below (nb o) _).trans h3⟩
  clear hT hw nb
  simp only [dropV]
  go_enter Try.func82, Try.ntmps82
  go_wp2_with fail
  refine (unhide L _).mono ?_
  rintro e w1 ⟨rfl, hT, hE⟩
  have HT := hide hT
  have HE := hide hE
  clear hT hE L
  go_wp2_with fail
  refine bodyPost_end (v := .tuple #[]) (by simp [results, Try.results82, go_sem]) rfl ?_
  exact ⟨rfl, unhide HT, unhide HE⟩

/-- do of the program. -/
theorem doC (b n : Nat) (xs : List DItem) (x : DWrite) (w : World) (hT : TabAt w b n xs) (hR : Right xs) (hn : n < 1000) (hx : wF x = 0) :
    Calls Try.prog 82 #[.map (some b), deedV x.kind x.vec, .int .i64 x.id] w fun e w' => e = .returned (.tuple #[]) ∧ TabAt w' b (n + 1) (applyI xs x) ∧ Ext (fun q => q = b) w w' := by
  obtain ⟨hi, -, -, hk⟩ := writeFault_zero hx
  have hw := id_wf (idB_of hi)
  rcases hk with ⟨h1, hv⟩ | ⟨h2, -⟩
  · obtain ⟨p, q, r, e⟩ := vec3 hv
    rw [deedV, if_pos h1, applyI, if_neg (by omega), e]
    exact do_put b n xs x.id p q r w hT hR hn hw
  · rw [deedV, if_neg (by omega), applyI, if_pos h2]
    exact do_drop b n xs x.id w hT hw

end Go.Proofs.Ytbogjepkdcknfaa

namespace Go.Proofs
open Go.Shelf
def Try.keys105_ren : Go.Shelf.Ren := ⟨fun | 7 => 105 | 10 => 115 | n => n, fun | 23 => 95 | 26 => 2 | 3 => 120 | 28 => 128 | 0 => 0 | 27 => 127 | 33 => 38 | 4 => 4 | n => n, fun | n => n⟩
theorem Try.keys105 : Go.Proofs.SlLaysZI.n7 Try.prog Try.keys105_ren := {
  mixed := by kernel_rfl
  f7 := ⟨Try.f105.name, by decide, Try.func105.trans (congrArg some (by kernel_rfl))⟩
  f10 := ⟨Try.f115.name, by decide, Try.func115.trans (congrArg some (by kernel_rfl))⟩
  t0 := Try.underlying0
  a0 := Try.isAgg0
  z0 := Try.sizeOf0
  v0 := Try.zeroValue0
  t4 := Try.underlying4
  a4 := Try.isAgg4
  z4 := Try.sizeOf4
  v4 := Try.zeroValue4
  t23 := Try.underlying95
  a23 := Try.isAgg95
  z23 := Try.sizeOf95
  v23 := Try.zeroValue95
  t26 := Try.underlying2
  a26 := Try.isAgg2
  z26 := Try.sizeOf2
  v26 := Try.zeroValue2
  t27 := Try.underlying127
  a27 := Try.isAgg127
  z27 := Try.sizeOf127
  v27 := Try.zeroValue127
  t28 := Try.underlying128
  a28 := Try.isAgg128
  z28 := Try.sizeOf128
  v28 := Try.zeroValue128
  t33 := Try.underlying38
  a33 := Try.isAgg38
  z33 := Try.sizeOf38
  v33 := Try.zeroValue38 }
def Try.sorted104_ren : Go.Shelf.Ren := ⟨fun | 6 => 104 | 8 => 113 | 9 => 114 | 11 => 119 | 13 => 121 | 12 => 120 | 23 => 131 | 24 => 132 | 14 => 122 | 15 => 123 | 16 => 124 | 17 => 125 | 18 => 126 | 19 => 127 | 20 => 128 | 21 => 129 | 22 => 130 | 25 => 133 | 26 => 134 | 27 => 135 | 28 => 136 | 29 => 137 | 30 => 138 | 31 => 139 | n => n, fun | 26 => 2 | 28 => 128 | 24 => 79 | 0 => 0 | 3 => 3 | 37 => 146 | 48 => 156 | 50 => 158 | 4 => 4 | 40 => 149 | 39 => 148 | 45 => 153 | 5 => 5 | 9 => 9 | 51 => 159 | 55 => 163 | 57 => 165 | 58 => 166 | 33 => 38 | n => n, fun | n => n⟩
theorem Try.sorted104 : Go.Proofs.SlLaysZI.n6 Try.prog Try.sorted104_ren := {
  mixed := by kernel_rfl
  f6 := ⟨Try.f104.name, by decide, Try.func104.trans (congrArg some (by kernel_rfl))⟩
  f8 := ⟨Try.f113.name, by decide, Try.func113.trans (congrArg some (by kernel_rfl))⟩
  f11 := ⟨Try.f119.name, by decide, Try.func119.trans (congrArg some (by kernel_rfl))⟩
  t0 := Try.underlying0
  a0 := Try.isAgg0
  z0 := Try.sizeOf0
  v0 := Try.zeroValue0
  t24 := Try.underlying79
  a24 := Try.isAgg79
  z24 := Try.sizeOf79
  v24 := Try.zeroValue79
  t26 := Try.underlying2
  a26 := Try.isAgg2
  z26 := Try.sizeOf2
  v26 := Try.zeroValue2
  t28 := Try.underlying128
  a28 := Try.isAgg128
  z28 := Try.sizeOf128
  v28 := Try.zeroValue128
  i26 := by kernel_rfl }
def Try.sort114_ren : Go.Shelf.Ren := ⟨fun | 5 => 114 | 8 => 121 | 7 => 120 | 19 => 131 | 20 => 132 | 10 => 122 | 11 => 123 | 12 => 124 | 13 => 125 | 14 => 126 | 15 => 127 | 16 => 128 | 17 => 129 | 18 => 130 | 30 => 133 | 31 => 134 | 32 => 135 | 33 => 136 | 34 => 137 | 35 => 138 | 40 => 139 | n => n, fun | 23 => 79 | 25 => 2 | 3 => 3 | 32 => 146 | 22 => 79 | 0 => 0 | 44 => 156 | 46 => 158 | 4 => 4 | 36 => 149 | 35 => 148 | 41 => 153 | 5 => 5 | 9 => 9 | 53 => 159 | 57 => 163 | 63 => 165 | 64 => 166 | n => n, fun | n => n⟩
theorem Try.sort114 : Go.Proofs.SlLaysM.n5 Try.prog Try.sort114_ren := {
  mixed := by kernel_rfl
  f5 := ⟨Try.f114.name, by decide, Try.func114.trans (congrArg some (by kernel_rfl))⟩
  f7 := ⟨Try.f120.name, by decide, Try.func120.trans (congrArg some (by kernel_rfl))⟩
  f8 := Try.func121.trans (congrArg some (by kernel_rfl))
  f10 := ⟨Try.f122.name, by decide, Try.func122.trans (congrArg some (by kernel_rfl))⟩
  f11 := ⟨Try.f123.name, by decide, Try.func123.trans (congrArg some (by kernel_rfl))⟩
  f12 := ⟨Try.f124.name, by decide, Try.func124.trans (congrArg some (by kernel_rfl))⟩
  f13 := ⟨Try.f125.name, by decide, Try.func125.trans (congrArg some (by kernel_rfl))⟩
  f14 := ⟨Try.f126.name, by decide, Try.func126.trans (congrArg some (by kernel_rfl))⟩
  f15 := ⟨Try.f127.name, by decide, Try.func127.trans (congrArg some (by kernel_rfl))⟩
  f16 := ⟨Try.f128.name, by decide, Try.func128.trans (congrArg some (by kernel_rfl))⟩
  f17 := ⟨Try.f129.name, by decide, Try.func129.trans (congrArg some (by kernel_rfl))⟩
  f18 := ⟨Try.f130.name, by decide, Try.func130.trans (congrArg some (by kernel_rfl))⟩
  f19 := Try.func131.trans (congrArg some (by kernel_rfl))
  f20 := Try.func132.trans (congrArg some (by kernel_rfl))
  f30 := ⟨Try.f133.name, by decide, Try.func133.trans (congrArg some (by kernel_rfl))⟩
  f31 := Try.func134.trans (congrArg some (by kernel_rfl))
  f32 := Try.func135.trans (congrArg some (by kernel_rfl))
  f33 := ⟨Try.f136.name, by decide, Try.func136.trans (congrArg some (by kernel_rfl))⟩
  f34 := ⟨Try.f137.name, by decide, Try.func137.trans (congrArg some (by kernel_rfl))⟩
  f35 := ⟨Try.f138.name, by decide, Try.func138.trans (congrArg some (by kernel_rfl))⟩
  f40 := ⟨Try.f139.name, by decide, Try.func139.trans (congrArg some (by kernel_rfl))⟩
  t0 := Try.underlying0
  a0 := Try.isAgg0
  z0 := Try.sizeOf0
  v0 := Try.zeroValue0
  t3 := Try.underlying3
  a3 := Try.isAgg3
  z3 := Try.sizeOf3
  v3 := Try.zeroValue3
  t4 := Try.underlying4
  a4 := Try.isAgg4
  z4 := Try.sizeOf4
  v4 := Try.zeroValue4
  t5 := Try.underlying5
  a5 := Try.isAgg5
  z5 := Try.sizeOf5
  v5 := Try.zeroValue5
  t9 := Try.underlying9
  a9 := Try.isAgg9
  z9 := Try.sizeOf9
  v9 := Try.zeroValue9
  t22 := Try.underlying79
  a22 := Try.isAgg79
  z22 := Try.sizeOf79
  v22 := Try.zeroValue79
  t23 := Try.underlying79
  a23 := Try.isAgg79
  z23 := Try.sizeOf79
  v23 := Try.zeroValue79
  t25 := Try.underlying2
  a25 := Try.isAgg2
  z25 := Try.sizeOf2
  v25 := Try.zeroValue2
  t32 := Try.underlying146
  a32 := Try.isAgg146
  z32 := Try.sizeOf146
  v32 := Try.zeroValue146
  t35 := Try.underlying148
  a35 := Try.isAgg148
  z35 := Try.sizeOf148
  v35 := Try.zeroValue148
  t36 := Try.underlying149
  a36 := Try.isAgg149
  z36 := Try.sizeOf149
  v36 := Try.zeroValue149
  t41 := Try.underlying153
  a41 := Try.isAgg153
  z41 := Try.sizeOf153
  v41 := Try.zeroValue153
  t44 := Try.underlying156
  a44 := Try.isAgg156
  z44 := Try.sizeOf156
  v44 := Try.zeroValue156
  t46 := Try.underlying158
  a46 := Try.isAgg158
  z46 := Try.sizeOf158
  v46 := Try.zeroValue158
  t53 := Try.underlying159
  a53 := Try.isAgg159
  z53 := Try.sizeOf159
  v53 := Try.zeroValue159
  t57 := Try.underlying163
  a57 := Try.isAgg163
  z57 := Try.sizeOf163
  v57 := Try.zeroValue163
  t63 := Try.underlying165
  a63 := Try.isAgg165
  z63 := Try.sizeOf165
  v63 := Try.zeroValue165
  t64 := Try.underlying166
  a64 := Try.isAgg166
  z64 := Try.sizeOf166
  v64 := Try.zeroValue166 }
end Go.Proofs

namespace Go.Proofs.Ytbogjepkdcknfaa
open Go.RowKit Go.Maps Go.Sort Go.Shelf

theorem sorts64 (m : Nat) : AnyZI.SortsIn Try.prog Try.sorted104_ren Fence.wide m :=
  ⟨fun blk off cap ss W hH hblk hsz => callsIn_wide.2 (AnyM.slices_Sort_int Try.sort114 blk off cap ss W hH hblk hsz),
   fun p cap W => callsIn_wide.2 (AnyM.slices_Sort_int_none Try.sort114 p cap W)⟩
/-- maps.Keys. -/
theorem mapKeys (mb : Option Nat) (W : World) : Calls Try.prog 105 #[.map mb] W fun e w' => e = .returned (.func (.func 115) #[] #[.pointer (some ⟨W.heap.size, 0, none⟩)]) ∧ w' = W.alloc (.cells #[.map mb] 95) :=
  (callsIn_wide (n := 5)).1 (AnyZI.keys_in Try.keys105 Fence.wide 5 trivial rfl mb W)

set_option maxHeartbeats 1000000 in
/-- slices.Sorted of them. -/
theorem sortedKeys (b n : Nat) (xs : List DItem) (w : World) (hT : TabAt w b n xs) (hx : xs.length ≤ 1000) :
    Calls Try.prog 104 #[.func (.func 115) #[] #[.pointer (some ⟨w.heap.size, 0, none⟩)]] (w.alloc (.cells #[.map (some b)] 95)) fun e w' => ∃ (v : Value) (ss : List Int), e = .returned v ∧ ss.Perm (intKeys (mapD xs)) ∧
      w'.ownsRow (w.alloc (.cells #[.map (some b)] 95)).heap.size 2 1 v ss.length ((ss.mergeSort (fun x y => decide (x ≤ y))).map encZ) ∧ Below (w.alloc (.cells #[.map (some b)] 95)).heap.size (w.alloc (.cells #[.map (some b)] 95)) w' := by
  have hown : w.ownsMap Try.prog 2 vecR b n (mapD xs) := hT
  have hbl := hown.lt
  have hmax : Maps.size (mapD xs) ≤ maxLen := by rw [size_mapD]; unfold maxLen; omega
  have hbytes : Maps.size (mapD xs) * 8 ≤ 140737488355328 := by rw [size_mapD]; omega
  have hseq : SeqGives Fence.wide 2 Try.prog 115 #[.pointer (some ⟨w.heap.size, 0, none⟩)] encZ (fun ss => ss.Perm (intKeys (mapD xs))) (Maps.size (mapD xs)) (w.alloc (.cells #[.map (some b)] 95)) :=
    AnyZI.keys_gives (ρ := Try.keys105_ren) { Try.keys105 with } Fence.wide _ trivial rfl (by omega) w.heap.size b n (mapD xs) _ (by simp) (by simp) (by
      obtain ⟨es, clock, hb, Ft, hs, hD⟩ := hown
      exact ⟨es, clock, (Below.heap_alloc _ _ b hbl).trans hb, Ft, hs, hD⟩)
  have cS := AnyZI.sorted_in Try.sorted104 Fence.wide 5 trivial trivial trivial trivial rfl (by omega) (sorts64 _) (enters_of Try.func114 (by kernel_rfl) rfl) 115 #[.pointer (some ⟨w.heap.size, 0, none⟩)] trivial (enters_of Try.func115 (by kernel_rfl) rfl) _ _ hmax hbytes _ hseq
  change CallsIn _ _ Try.prog 104 _ _ _ at cS
  refine ((callsIn_wide (n := 5)).1 cS).mono ?_
  rintro e w' ⟨v, ss, rfl, hS, hrow, -, hb⟩
  exact ⟨v, ss, rfl, hS, hrow, hb⟩

theorem encZ_eq : encZ = Value.int .i64 := rfl
theorem intKeys_mapD (xs : List DItem) : intKeys (mapD xs) = xs.map (·.id) := by
  simp only [intKeys, mapD, mapL, List.map_map]
  exact List.map_congr_left fun _ _ => rfl
/-- Rising Ids sort to themselves. -/
theorem sort_ids {xs : List DItem} (h : Rising xs) {ss : List Int} (hp : ss.Perm (xs.map (·.id))) : ss.mergeSort (fun x y => decide (x ≤ y)) = xs.map (·.id) := by
  have tr : ∀ a b c : Int, decide (a ≤ b) = true → decide (b ≤ c) = true → decide (a ≤ c) = true := fun a b c h1 h2 => by simp only [decide_eq_true_eq] at *; omega
  have tot : ∀ a b : Int, (decide (a ≤ b) || decide (b ≤ a)) = true := fun a b => by simp only [Bool.or_eq_true, decide_eq_true_eq]; omega
  refine List.Perm.eq_of_pairwise (le := fun a b => decide (a ≤ b) = true) (fun a b _ _ h1 h2 => ?_) (List.pairwise_mergeSort tr tot ss) ?_ ((List.mergeSort_perm ss _).trans hp)
  · simp only [decide_eq_true_eq] at h1 h2
    omega
  · refine List.pairwise_map.2 (h.imp fun {a b} hab => ?_)
    simp only [decide_eq_true_eq]
    omega

end Go.Proofs.Ytbogjepkdcknfaa

namespace Go.Proofs.Ytbogjepkdcknfaa
open Go.RowKit Go.Maps

theorem grown_of_ext {r : Option Nat} {w w' : World} (e : Ext (fun q => r = some q) w w') : w.grownBy w' r :=
  ⟨e.os, e.tape, e.output, e.size, fun i hi hn => e.block i hi fun h => hn h.symm⟩
theorem own_snoc {w w' : World} {base : Nat} {bls : List (List Nat)} {bl : List Nat} (hn : bls.flatten.Nodup) (hs : ∀ b ∈ bls.flatten, base ≤ b ∧ ∀ o, w.frozen? ⟨b, o, none⟩ = false) (hlt : ∀ b ∈ bls.flatten, b < w.heap.size)
    (hn2 : bl.Nodup) (hs2 : ∀ b ∈ bl, w.heap.size ≤ b ∧ ∀ o, w'.frozen? ⟨b, o, none⟩ = false) (hb : base ≤ w.heap.size) (hk : ∀ b ∈ bls.flatten, w'.heap[b]? = w.heap[b]?) :
    (bls ++ [bl]).flatten.Nodup ∧ ∀ b ∈ (bls ++ [bl]).flatten, base ≤ b ∧ ∀ o, w'.frozen? ⟨b, o, none⟩ = false := by
  refine ⟨?_, ?_⟩
  · rw [List.flatten_append, List.nodup_append]
    refine ⟨hn, by simpa using hn2, fun a ha c hc e => ?_⟩
    have := hlt a ha
    have := (hs2 c (by simpa using hc)).1
    omega
  · intro b hm
    rw [List.flatten_append] at hm
    rcases List.mem_append.1 hm with hm | hm
    · exact ⟨(hs b hm).1, fun o => (frozen_of_heap (hk b hm) o).trans ((hs b hm).2 o)⟩
    · have h2 := hs2 b (by simpa using hm)
      exact ⟨by omega, h2.2⟩

set_option maxRecDepth 100000 in
set_option maxHeartbeats 4000000 in
/-- items of the program. -/
theorem itemsC (b n : Nat) (xs : List DItem) (w : World) (hT : TabAt w b n xs) (hR : Right xs) :
    Calls Try.prog 83 #[.map (some b)] w fun e w' => ∃ v, e = .returned v ∧ (Lay.sl Lay.tItem).OwnIn w' [v] xs w.heap.size w'.heap.size ∧ Below w.heap.size w w' := by
  obtain ⟨hlen, hall, hris⟩ := tableFault_zero hR
  have hbw := hT.lt
  have hown : w.ownsMap Try.prog 2 vecR b n (mapD xs) := hT
  obtain ⟨i0, hi, hz0, hz1, hz2⟩ := info_parts infoAppItem
  have HT := hide hT
  have HA := hide hall
  have HI := hide hris
  have hsz : Maps.size (mapD xs) = xs.length := size_mapD xs
  clear hT hall hris hR
  go_enter Try.func83, Try.ntmps83
  go_wp2_with (first
    | (at_len; refine wpList_len_own _ rfl _ 95 rfl 2 120 Try.underlying95 vecR b n (mapD xs) rfl hown ?_; rw [hsz])
    | (at_make; refine wpList_make_own _ rfl _ _ 44 rfl w.heap.size 104 i0 _ 2 Try.underlying44 hi hz0 hz1 .i64 .i64 _ xs.length rfl rfl rfl (by rw [hz2]; omega) (by unfold maxLen; omega) (Nat.le_refl _) ?_))
  clear hown hsz
  intro w1 hown1 hg1
  have hB1 : Below w.heap.size w w1 := (Below.refl _ _).grown hg1 (Nat.le_refl _) (by simp)
  have hz1' : w.heap.size < w1.heap.size := (hown1.lt w.heap.size rfl).2
  have hT1 := (unhide HT).later hB1
  have LS := sortedKeys b n xs w1 hT1 (by omega)
  have hB2 : Below w1.heap.size w1 (w1.alloc (.cells #[.map (some b)] 95)) := (Below.refl _ _).alloc (Nat.le_refl _) _
  have HT2 := hide (hT1.later hB2)
  have HG2 := hide ((Grow.nil (A := Lay.tItem) hown1).later hB2)
  have HB2 := hide (hB1.trans (hB2.mono hB1.size))
  have HLS := hide LS
  clear hown1 hg1 hB1 hT1 hB2 LS HT hi hz0 hz1 hz2
  go_wp2_with fail
  refine (mapKeys (some b) w1).mono ?_
  rintro e w2 ⟨rfl, rfl⟩
  go_wp2_with fail
  refine (unhide HLS).mono ?_
  generalize w1.alloc (.cells #[.map (some b)] 95) = W2 at *
  rintro e w3 ⟨sv, ss, rfl, hS, hrow, hb⟩
  rw [intKeys_mapD] at hS
  have hsl : ss.length = xs.length := by rw [hS.length_eq, List.length_map]
  rw [sort_ids (unhide HI) hS, encZ_eq, hsl] at hrow
  have hT3 := (unhide HT2).later hb
  have hG3 := (unhide HG2).later hb
  have hB3 := (unhide HB2).trans (hb.mono (unhide HB2).size)
  have hov : w.heap.size < W2.heap.size := by have := ((unhide HG2).own.lt w.heap.size rfl).2; omega
  clear hS HLS HT2 HG2 HB2 hb hsl ss
  by_cases hp : 0 < xs.length
  · obtain ⟨sg, cap, rfl, hsg, hsgl⟩ : ∃ sg cap, sv = .slice (some ⟨sg, 0, none⟩) xs.length cap ∧ W2.heap.size ≤ sg ∧ sg < w3.heap.size := by
      rcases hrow.2 with ⟨-, h0⟩ | ⟨g, cap, cur, rfl, hg, hh, -⟩
      · omega
      · exact ⟨g, cap, rfl, hg, lt_of_block hh⟩
    have HT3 := hide hT3
    have HG3 := hide hG3
    have HB3 := hide hB3
    have HROW := hide hrow
    clear hT3 hG3 hB3 hrow
    have hbig : xs.length ≤ 30 := hlen
    go_wp2_with fail
    go_loopw [3, 13] (fun v i wr => ∃ (k : Nat) (rows : List (List Value)) (bls : List (List Nat)), k ≤ xs.length ∧ i = .int .i64 k ∧ Grow Lay.tItem wr w.heap.size 104 v rows (xs.take k) bls ∧
        (bls.flatten.Nodup ∧ ∀ b ∈ bls.flatten, w.heap.size ≤ b ∧ ∀ o, wr.frozen? ⟨b, o, none⟩ = false) ∧ wr.ownsRow W2.heap.size 2 1 (.slice (some ⟨sg, 0, none⟩) xs.length cap) xs.length ((xs.map (·.id)).map (Value.int .i64)) ∧ v.ownBlock ≠ some sg ∧ TabAt wr b n xs ∧ Below w.heap.size w wr) (fun _ i _ => xs.length - (intOf i).toNat)
    case atStart =>
      exact ⟨0, [], [], Nat.zero_le _, rfl, unhide HG3, ⟨by simp, by simp⟩, unhide HROW, fun e => by simp [Value.ownBlock] at e; omega, unhide HT3, unhide HB3⟩
    case round =>
      obtain ⟨k, rows, bls, hk, rfl, hG, ⟨hnd, hsf⟩, hrow, hne, hT, hB⟩ := hrel
      clear HT3 HG3 HB3 HROW
      by_cases hlt : k < xs.length
      · have hc : wr.cell? ⟨sg, k, none⟩ = some (.int .i64 xs[k].id) := by
          rw [hrow.cellAt k (by omega)]
          simp [hlt]
        obtain ⟨hid, hvf⟩ := unhide HA xs[k] (List.getElem_mem hlt)
        obtain ⟨p, q, r, hv3, -, hrun⟩ := hT.look (unhide HI) (id_wf hid) (List.getElem_mem hlt) rfl
        have HTK : Hid (xs.take (k + 1) = xs.take k ++ [xs[k]]) := List.take_succ_eq_append_getElem hlt
        have HL : Hid ((xs.take k).length = k) := by show (xs.take k).length = k; rw [List.length_take]; omega
        generalize hx : xs[k] = x at *
        clear hx
        rw [hv3] at hvf
        obtain ⟨⟨b1, b2⟩, ⟨b3, b4⟩, b5, b6⟩ := fault3 hvf
        have HWF : Hid (∀ z ∈ [p, q, r], (Lit.int .i64 z).wf = true) := by
          show ∀ z ∈ [p, q, r], (Lit.int .i64 z).wf = true
          intro z hz
          simp only [List.mem_cons, List.not_mem_nil, or_false] at hz
          rcases hz with rfl | rfl | rfl <;> exact wf_of_bd (by omega)
        have LL := listOwn p q r wr (unhide HWF)
        simp only [arr3] at hrun LL
        have HLL := hide LL
        have hwi := id_wf hid
        have HWI := hide hwi
        have HV3 := hide hv3
        have HG := hide hG
        have HND := hide hnd
        have HSF := hide hsf
        have HROW := hide hrow
        have HNE := hide hne
        have HT := hide hT
        have HB := hide hB
        clear hG hnd hsf hrow hne hT hB hid hvf b1 b2 b3 b4 b5 b6 LL hwi hv3
        go_wp2_with fail
        refine (unhide HLL).mono ?_
        rintro e w4 ⟨g2, rfl, hO, hb4⟩
        obtain ⟨bl2, ⟨hl2, hn2, hf2⟩, hr2⟩ := hO
        have hG4 := (unhide HG).later hb4
        have hz4 := hb4.size
        have hB4 := (unhide HB).trans (hb4.mono (unhide HB).size)
        have hlies : Lay.tItem.lies w4 [.int .i64 x.id, .slice (some ⟨g2, 0, none⟩) 3 3] x bl2 := by
          refine lies_Item.2 ⟨some ⟨g2, 0, none⟩, 3, bl2, by rw [unhide HV3]; rfl, rfl, unhide HWI, ?_⟩
          rw [unhide HV3]; exact hl2
        have hoff : ∀ c ∈ bl2, u3.ownBlock ≠ some c := fun c hc e => by have h1 := hr2 c hc; have h2 := ((unhide HG).own.lt c e).2; omega
        have HSN := hide (own_snoc (w' := w4) (unhide HND) (unhide HSF) (unhide HG).sub_lt hn2 (fun c hc => ⟨(hr2 c hc).1, hf2 c hc⟩) (unhide HB).size (fun c hc => hb4.block c ((unhide HG).sub_lt c hc)))
        have HROW4 := hide (own_below (unhide HROW) hb4)
        have HT4 := hide ((unhide HT).later hb4)
        have hkl := unhide HL
        have HLO := hide hoff
        have HLT : Hid (∀ c ∈ (bls ++ [bl2]).flatten, u3.ownBlock ≠ some c) := by
          intro c hc
          rw [List.flatten_append] at hc
          rcases List.mem_append.1 hc with hc | hc
          · exact (unhide HG).off c hc
          · exact unhide HLO c (by simpa using hc)
        have HLS : Hid (∀ c ∈ (bls ++ [bl2]).flatten, c < w4.heap.size) := by
          intro c hc
          rw [List.flatten_append] at hc
          rcases List.mem_append.1 hc with hc | hc
          · have := (unhide HG).sub_lt c hc; omega
          · have := (hr2 c (by simpa using hc)).2; omega
        have HB4 := hide hB4
        have HZ : Hid (w.heap.size ≤ w4.heap.size) := hB4.size
        have HSG : Hid (sg < w4.heap.size) := by show sg < w4.heap.size; have := (unhide HROW).lt sg rfl; omega
        clear HLL hb4 hl2 hn2 hf2 hr2 hB4 HND HSF HROW HT HB HWF HWI HV3 hrun hc
        go_wp2_with (at_builtin; refine wpList_append_Item hG4 hlies hoff rfl _ _ rfl rfl rfl (by omega) (unhide HZ) ?_)
        rintro g5 cp5 w5 hG5 hb5 hE5 hl5 hz5 hor
        clear hG4 hlies hoff hkl
        have HG5 := hide hG5
        have HB5 := hide ((unhide HB4).trans hb5)
        have HT5 := hide ((unhide HT4).ext hE5 (fun e => by have := ((unhide HG).own.lt b e).1; omega))
        have HROW5 := hide ((unhide HROW4).kept (grown_of_ext hE5) (Or.inr (fun e => unhide HNE e.symm)))
        have HNE5 : Hid (some g5 ≠ some sg) := by
          intro e
          have e1 : g5 = sg := by simpa using e
          rcases hor with h | h
          · exact unhide HNE (by rw [h, e1])
          · have := unhide HSG; omega
        have HSN5 : Hid ((bls ++ [bl2]).flatten.Nodup ∧ ∀ c ∈ (bls ++ [bl2]).flatten, w.heap.size ≤ c ∧ ∀ o, w5.frozen? ⟨c, o, none⟩ = false) := by
          obtain ⟨s1, s2⟩ := unhide HSN
          exact ⟨s1, fun c hc => ⟨(s2 c hc).1, fun o => (frozen_of_heap (hE5.block c (unhide HLS c hc) (unhide HLT c hc)) o).trans ((s2 c hc).2 o)⟩⟩
        clear hG5 hb5 hE5 hor HB4 HT4 HROW4 HSN HG HNE HLT HLS HLO
        go_wp2_with fail
        go_roundw
        case rel =>
          have hg := unhide HG5
          rw [← unhide HTK] at hg
          exact ⟨k + 1, _, _, by omega, by go_num, hg, unhide HSN5, unhide HROW5, unhide HNE5, unhide HT5, unhide HB5⟩
        case measure => simp [intOf]; omega
      · obtain rfl : k = xs.length := by omega
        rw [List.take_length] at hG
        have HO := hide (hG.toOwn (by omega) hnd hsf)
        have HB := hide hB
        clear hG hB hnd hsf hrow hne hT
        go_wp2_with fail
        go_ret
        exact ⟨_, rfl, unhide HO, unhide HB⟩
  · obtain rfl : xs = [] := List.eq_nil_of_length_eq_zero (by omega)
    have HO := hide (hG3.toOwn (by simp) (by simp) (by simp))
    have HB := hide hB3
    have hsv : ∃ ao cap, sv = .slice ao 0 cap := by
      rcases hrow.2 with ⟨rfl, -⟩ | ⟨g, cap, cur, rfl, -⟩
      · exact ⟨none, 0, rfl⟩
      · exact ⟨_, cap, rfl⟩
    obtain ⟨ao, cap, rfl⟩ := hsv
    clear hG3 hB3 hT3 hrow hp
    go_wp2_with fail
    refine wp_loop_rounds 1 ?_
    rw [rounds_succ]
    go_wp2_with fail
    go_ret
    exact ⟨_, rfl, unhide HO, unhide HB⟩

end Go.Proofs.Ytbogjepkdcknfaa

namespace Go.Proofs.Ytbogjepkdcknfaa
open Go.RowKit

set_option maxRecDepth 100000 in
set_option maxHeartbeats 2000000 in
theorem implTOf_pos (b off cap : Nat) (ws : List DWrite) (w : World) (h : (Lay.sl Lay.tWrite).Reads w [.slice (some ⟨b, off, none⟩) ws.length cap] ws) (hbl : b < w.heap.size) (hn : ws.length ≤ 200) :
    Calls Try.prog 62 #[.slice (some ⟨b, off, none⟩) ws.length cap] w fun e w' => ∃ cs, e = .returned (.agg cs.toArray) ∧ Lay.tTableResult.OwnIn w' cs (tableOfR ws) w.heap.size w'.heap.size ∧ Below w.heap.size w w' := by
  have HW : Hid (writesF ws = wsFrom ws) := by show writesF ws = wsFrom ws; rw [writesF, if_neg (by omega)]
  have HB0 : Below w.heap.size w (w.alloc (.cells #[.int .i64 0, .slice none 0 0] 46)) := (Below.refl _ _).alloc (Nat.le_refl _) _
  have bR : Box w.heap.size #[.int .i64 0, .slice none 0 0] 46 (w.alloc (.cells #[.int .i64 0, .slice none 0 0] 46)) w.heap.size := newBox (Nat.le_refl _)
  have H := hide h
  clear h
  have nb : Below (w.alloc (.cells #[.int .i64 0, .slice none 0 0] 46)).heap.size (w.alloc (.cells #[.int .i64 0, .slice none 0 0] 46)) ((w.alloc (.cells #[.int .i64 0, .slice none 0 0] 46)).alloc (.map #[] 0)) := (Below.refl _ _).alloc (Nat.le_refl _) _
  have HT0 := hide (tabAt_new (w.alloc (.cells #[.int .i64 0, .slice none 0 0] 46)))
  have HBB := hide (HB0.trans (nb.mono HB0.size))
  have HRR := hide (bR.keep nb)
  have hQ : (w.alloc (.cells #[.int .i64 0, .slice none 0 0] 46)).heap.size = w.heap.size + 1 := by simp
  rw [hQ] at HT0
  clear HB0 bR nb hQ
  have hmk := @run_makeMap Try.prog
  go_enter Try.func62, Try.ntmps62
  go_wp2_with fail
  clear hmk
  go_loopw [15] (fun i wr => ∃ k : Nat, k ≤ ws.length ∧ i = .int .i64 k ∧ (∀ j (hj : j < ws.length), j < k → wF ws[j] = 0) ∧ TabAt wr (w.heap.size + 1) k (ofI (ws.take k)) ∧ Box w.heap.size #[.int .i64 0, .slice none 0 0] 46 wr w.heap.size ∧ Below w.heap.size w wr) (fun i _ => ws.length - (intOf i).toNat)
  case atStart => exact ⟨0, Nat.zero_le _, rfl, fun j _ hj => by omega, unhide HT0, unhide HRR, unhide HBB⟩
  case round =>
    obtain ⟨k, hk, rfl, hz, hT, bR, hB⟩ := hrel
    clear HT0 HRR HBB
    by_cases hlt : k < ws.length
    · obtain ⟨row, hc, hr⟩ := Lay.row_at (unhide H) hlt
      replace hr := hr.later hB
      obtain ⟨a2, d2, rfl, R2⟩ := open_Write hr
      have c0 : wr.cell? ⟨b, off + k * 5, none⟩ = some (.int .i64 (ws[k]).kind) := (hB.cell (p := ⟨b, off + k * 5, none⟩) hbl).trans (hc 0 (by decide))
      have c1 : wr.cell? ⟨b, off + k * 5 + 1, none⟩ = some (.int .i64 (ws[k]).id) := (hB.cell (p := ⟨b, off + k * 5 + 1, none⟩) hbl).trans (hc 1 (by decide))
      have c2 : wr.cell? ⟨b, off + k * 5 + 2, none⟩ = some (.slice a2 (ws[k]).vec.length d2) := (hB.cell (p := ⟨b, off + k * 5 + 2, none⟩) hbl).trans (hc 2 (by decide))
      have c3 : wr.cell? ⟨b, off + k * 5 + 3, none⟩ = some (.int .i64 (ws[k]).session) := (hB.cell (p := ⟨b, off + k * 5 + 3, none⟩) hbl).trans (hc 3 (by decide))
      have c4 : wr.cell? ⟨b, off + k * 5 + 4, none⟩ = some (.int .i64 (ws[k]).seq) := (hB.cell (p := ⟨b, off + k * 5 + 4, none⟩) hbl).trans (hc 4 (by decide))
      have HZ := hide hz
      have HST := hide (ofI_snoc ws k hlt)
      have HAT : Hid (wF ws[k] ≠ 0 → writesF ws = wF ws[k]) := fun hn => (unhide HW).trans (wsFrom_at ws k hlt hz hn)
      have HRT := hide (right_of_writes (ws.take k) fun x hx => by
        obtain ⟨j, hj, rfl⟩ := List.getElem_of_mem hx
        rw [List.length_take] at hj
        rw [List.getElem_take]
        exact hz j (by omega) (by omega))
      have HZ2 : Hid (wF ws[k] = 0 → ∀ j (hj : j < ws.length), j < k + 1 → wF ws[j] = 0) := by
        intro h0 j hj hjk
        by_cases hjk2 : j < k
        · exact unhide HZ j hj hjk2
        · obtain rfl : j = k := by omega
          exact h0
      clear hc hr hz HZ
      generalize hx : ws[k] = x at *
      clear hx
      have hbr : b < wr.heap.size := Nat.lt_of_lt_of_le hbl hB.size
      have hTl := hT.lt
      have nb : Below wr.heap.size wr (wr.alloc (.cells #[.int .i64 x.kind, .int .i64 x.id, .slice a2 x.vec.length d2, .int .i64 x.session, .int .i64 x.seq] 83)) := (Below.refl _ _).alloc (Nat.le_refl _) _
      have bI : Box wr.heap.size #[.int .i64 x.kind, .int .i64 x.id, .slice a2 x.vec.length d2, .int .i64 x.session, .int .i64 x.seq] 83 (wr.alloc (.cells #[.int .i64 x.kind, .int .i64 x.id, .slice a2 x.vec.length d2, .int .i64 x.session, .int .i64 x.seq] 83)) wr.heap.size := newBox (Nat.le_refl _)
      have L := implDeed x.kind x.id (.slice a2 x.vec.length d2) x.session x.seq x.vec _ ((Lay.ints_reads R2).later nb)
      simp only [ToldDeed] at L
      rw [show writeFault x.kind x.id x.vec x.session x.seq = wF x from rfl] at L
      have HL := hide L
      have HT := hide (hT.later nb)
      have HB := hide (hB.trans (nb.mono hB.size))
      have HR := hide (bR.keep nb)
      have HBI := hide bI
      clear R2 hT hB bR nb bI L
      go_wp2_with fail
      clear c0 c1 c2 c3 c4
      refine (unhide HL).mono ?_
      generalize hW0 : wr.alloc (.cells #[.int .i64 x.kind, .int .i64 x.id, .slice a2 x.vec.length d2, .int .i64 x.session, .int .i64 x.seq] 83) = W0 at *
      clear hW0
      rintro e w2 ⟨rfl, hb⟩
      replace HT := hide ((unhide HT).later hb)
      replace HR := hide ((unhide HR).keep hb)
      replace HBI := hide ((unhide HBI).keep hb)
      replace HB := hide ((unhide HB).trans (hb.mono (unhide HB).size))
      clear hb HL
      have hb1 : w2.cell? ⟨wr.heap.size, 1, none⟩ = some (.int .i64 x.id) := (unhide HBI).at 1 _ rfl
      have hbl1 : wr.heap.size < w2.heap.size := (unhide HBI).lt
      by_cases hf : wF x = 0
      · rw [hf, show deedRes x.kind x.id x.vec x.session x.seq = deedV x.kind x.vec from if_pos hf]
        have L := doC (w.heap.size + 1) k (ofI (ws.take k)) x w2 (unhide HT) (unhide HRT) (by omega) hf
        rw [← unhide HST] at L
        have HL := hide L
        have HZ3 := hide (unhide HZ2 hf)
        generalize hdv : deedV x.kind x.vec = dv at *
        clear L hf hdv HZ2 HAT HST HRT
        go_wp2_with fail
        refine (unhide HL).mono ?_
        rintro e w3 ⟨rfl, hT3, hE3⟩
        have HT3 := hide hT3
        have HR3 := hide ((unhide HR).ext hE3 (by omega))
        have HB3 := hide ((unhide HB).trans (hE3.below (unhide HB).size (fun c hc e => by omega)))
        clear hT3 hE3 HT HR HB HL HBI hb1 hbl1
        go_wp2_with fail
        go_roundw
        case rel => exact ⟨k + 1, by omega, by go_num, unhide HZ3, unhide HT3, unhide HR3, unhide HB3⟩
        case measure => simp [intOf]; omega
      · have hd : (wF x != 0) = true := by simpa using hf
        have HG : Hid (tableOfR ws = ⟨wF x, []⟩) := by
          show tableOfR ws = _
          rw [tableOfR, if_neg (by rw [unhide HAT hf]; exact hf), unhide HAT hf]
        have bR := unhide HR
        have z0 : w2.cell? ⟨w.heap.size, 0, none⟩ = some (.int .i64 0) := bR.at 0 _ rfl
        have z1 : w2.cell? ⟨w.heap.size, 1, none⟩ = some (.slice none 0 0) := bR.at 1 _ rfl
        have f0 := bR.soft 0
        have f1 := bR.soft 1
        have l0 := bR.lt
        generalize hdr : deedRes x.kind x.id x.vec x.session x.seq = dr at *
        clear hf hdr HZ2 HAT HST HRT bR HT
        go_wp2_with fail
        refine bodyPost_ret (v := .agg #[.int .i64 (wF x), .slice none 0 0]) (by simp [results, Try.results62, go_sem, z0, z1]) rfl ?_
        rw [unhide HG]
        exact ⟨[.int .i64 (wF x), .slice none 0 0], rfl, own_codeItems (wF_wf x), ((unhide HB).setCell (by simp) _).setCell (by simp) _⟩
    · obtain rfl : k = ws.length := by omega
      have hall : ∀ x ∈ ws, wF x = 0 := fun x hx => by
        obtain ⟨j, hj, rfl⟩ := List.getElem_of_mem hx
        exact hz j hj hj
      have HG : Hid (tableOfR ws = ⟨0, ofI ws⟩) := by
        show tableOfR ws = _
        rw [tableOfR, if_pos (by rw [unhide HW]; exact wsFrom_all ws fun j hj => hz j hj hj)]
      rw [List.take_length] at hT
      have HL := hide (itemsC (w.heap.size + 1) ws.length (ofI ws) wr hT (right_of_writes ws hall))
      have HR := hide bR
      have HB := hide hB
      clear hT bR hB hz hall H HW
      go_wp2_with fail
      refine (unhide HL).mono ?_
      rintro e w3 ⟨v9, rfl, hO, hb⟩
      obtain ⟨ao9, cp9, rfl⟩ := open_sl hO.reads
      have bR := (unhide HR).keep hb
      have z0 : w3.cell? ⟨w.heap.size, 0, none⟩ = some (.int .i64 0) := bR.at 0 _ rfl
      have z1 : w3.cell? ⟨w.heap.size, 1, none⟩ = some (.slice none 0 0) := bR.at 1 _ rfl
      have f0 := bR.soft 0
      have f1 := bR.soft 1
      have l0 := bR.lt
      have HB9 := hide ((unhide HB).trans (hb.mono (unhide HB).size))
      have HO9 := hide (hO.mono (lo' := w.heap.size + 1) (by have := (unhide HR).lt; omega) (Nat.le_refl _))
      clear hO hb bR
      go_wp2_with fail
      refine bodyPost_ret (v := .agg #[.int .i64 0, .slice ao9 (ofI ws).length cp9]) (by simp [results, Try.results62, go_sem, z0, z1]) rfl ?_
      rw [unhide HG]
      have hE : Ext (fun c => c = w.heap.size) w3 ((w3.setCell ⟨w.heap.size, 0, none⟩ (.int .i64 0)).setCell ⟨w.heap.size, 1, none⟩ (.slice ao9 (ofI ws).length cp9)) := ((Ext.refl (fun c => c = w.heap.size) _).setCell ⟨w.heap.size, 0, none⟩ _ rfl).setCell ⟨w.heap.size, 1, none⟩ _ rfl
      refine ⟨[.int .i64 0, .slice ao9 (ofI ws).length cp9], rfl, own_items (by decide) ?_, ((unhide HB9).setCell (by simp) _).setCell (by simp) _⟩
      exact ((unhide HO9).ext hE (fun c h1 _ h3 => by omega)).mono (by omega) (by simp)

set_option maxRecDepth 10000 in
set_option maxHeartbeats 1000000 in
theorem implTOf_zero (ao : Option Addr) (cap : Nat) (w : World) :
    Calls Try.prog 62 #[.slice ao 0 cap] w fun e w' => ∃ cs, e = .returned (.agg cs.toArray) ∧ Lay.tTableResult.OwnIn w' cs (tableOfR []) w.heap.size w'.heap.size ∧ Below w.heap.size w w' := by
  have HB0 : Below w.heap.size w (w.alloc (.cells #[.int .i64 0, .slice none 0 0] 46)) := (Below.refl _ _).alloc (Nat.le_refl _) _
  have bR : Box w.heap.size #[.int .i64 0, .slice none 0 0] 46 (w.alloc (.cells #[.int .i64 0, .slice none 0 0] 46)) w.heap.size := newBox (Nat.le_refl _)
  have nb : Below (w.alloc (.cells #[.int .i64 0, .slice none 0 0] 46)).heap.size (w.alloc (.cells #[.int .i64 0, .slice none 0 0] 46)) ((w.alloc (.cells #[.int .i64 0, .slice none 0 0] 46)).alloc (.map #[] 0)) := (Below.refl _ _).alloc (Nat.le_refl _) _
  have hT := tabAt_new (w.alloc (.cells #[.int .i64 0, .slice none 0 0] 46))
  have HB := hide (HB0.trans (nb.mono HB0.size))
  have HR := hide (bR.keep nb)
  have hQ : (w.alloc (.cells #[.int .i64 0, .slice none 0 0] 46)).heap.size = w.heap.size + 1 := by simp
  rw [hQ] at hT
  have HL := hide (itemsC (w.heap.size + 1) 0 [] _ hT right_nil)
  have HG : Hid (tableOfR [] = ⟨0, []⟩) := rfl
  clear HB0 bR nb hQ hT
  have hmk := @run_makeMap Try.prog
  go_enter Try.func62, Try.ntmps62
  go_wp2_with fail
  clear hmk
  refine wp_loop_rounds 1 ?_
  rw [rounds_succ]
  go_wp2_with fail
  refine (unhide HL).mono ?_
  rintro e w3 ⟨v9, rfl, hO, hb⟩
  obtain ⟨ao9, cp9, rfl⟩ := open_sl hO.reads
  have bR := (unhide HR).keep hb
  have z0 : w3.cell? ⟨w.heap.size, 0, none⟩ = some (.int .i64 0) := bR.at 0 _ rfl
  have z1 : w3.cell? ⟨w.heap.size, 1, none⟩ = some (.slice none 0 0) := bR.at 1 _ rfl
  have f0 := bR.soft 0
  have f1 := bR.soft 1
  have l0 := bR.lt
  have HB9 := hide ((unhide HB).trans (hb.mono (unhide HB).size))
  have HO9 := hide (hO.mono (lo' := w.heap.size + 1) (by have := (unhide HR).lt; omega) (Nat.le_refl _))
  clear hO hb bR
  go_wp2_with fail
  refine bodyPost_ret (v := .agg #[.int .i64 0, .slice ao9 (([] : List DItem)).length cp9]) (by simp [results, Try.results62, go_sem, z0, z1]) rfl ?_
  rw [unhide HG]
  have hE : Ext (fun c => c = w.heap.size) w3 ((w3.setCell ⟨w.heap.size, 0, none⟩ (.int .i64 0)).setCell ⟨w.heap.size, 1, none⟩ (.slice ao9 (([] : List DItem)).length cp9)) := ((Ext.refl (fun c => c = w.heap.size) _).setCell ⟨w.heap.size, 0, none⟩ _ rfl).setCell ⟨w.heap.size, 1, none⟩ _ rfl
  refine ⟨[.int .i64 0, .slice ao9 (([] : List DItem)).length cp9], rfl, own_items (by decide) ?_, ((unhide HB9).setCell (by simp) _).setCell (by simp) _⟩
  exact ((unhide HO9).ext hE (fun c h1 _ h3 => by omega)).mono (by omega) (by simp)

set_option maxRecDepth 10000 in
/-- TableOf of the program. -/
theorem implTOf (v : Value) (ws : List DWrite) (w : World) (h : (Lay.sl Lay.tWrite).Reads w [v] ws) :
    Calls Try.prog 62 #[v] w fun e w' => ∃ cs, e = .returned (.agg cs.toArray) ∧ Lay.tTableResult.OwnIn w' cs (tableOfR ws) w.heap.size w'.heap.size ∧ Below w.heap.size w w' := by
  obtain ⟨ao, cap, rfl⟩ := open_sl h
  by_cases hn : ws.length ≤ 200
  · by_cases hp : 0 < ws.length
    · obtain ⟨b, off, rfl, hbl⟩ := Lay.sl_addr h hp
      exact implTOf_pos b off cap ws w h hbl hn
    · obtain rfl : ws = [] := List.eq_nil_of_length_eq_zero (by omega)
      exact implTOf_zero ao cap w
  · have e : writesF ws = 2 := by rw [writesF, if_pos (by omega)]
    have HG : Hid (tableOfR ws = ⟨2, []⟩) := by show tableOfR ws = _; rw [tableOfR, if_neg (by rw [e]; decide), e]
    have hd : decide ((200 : Int) < (ws.length : Int)) = true := by simp; omega
    have HB := hide ((Below.refl w.heap.size w).alloc (Nat.le_refl _) (.cells #[.int .i64 2, .slice none 0 0] 46))
    clear h e
    go_enter Try.func62, Try.ntmps62
    go_wp2_with fail
    refine bodyPost_ret (v := .agg #[.int .i64 2, .slice none 0 0]) (by simp [results, Try.results62, go_sem]) rfl ?_
    rw [unhide HG]
    exact ⟨[.int .i64 2, .slice none 0 0], rfl, own_codeItems (by decide), unhide HB⟩

end Go.Proofs.Ytbogjepkdcknfaa

namespace Go.Proofs.Ytbogjepkdcknfaa
open Go.RowKit

set_option maxRecDepth 10000 in
set_option maxHeartbeats 2000000 in
theorem implStateAt (cs : List Value) (x : DNode) (c : Int) (w : World) (h : Lay.tNode.Reads w cs x) :
    Calls Try.prog 30 #[.agg cs.toArray, .int .i64 c] w fun e w' => ∃ cs, e = .returned (.agg cs.toArray) ∧ Lay.tTableResult.OwnIn w' cs (stateR x c) w.heap.size w'.heap.size ∧ Below w.heap.size w w' := by
  have hN := h
  obtain ⟨a4, d4, rfl, R4⟩ := open_Node h
  have nb : Below w.heap.size w ((w.alloc (.cells #[.int .i64 x.id, .bool x.up, .int .i64 x.epoch, .int .i64 x.lease, .slice a4 x.writes.length d4, .int .i64 x.sure, .int .i64 x.clean] 29)).alloc (.cells #[.int .i64 0, .slice none 0 0] 46)) := ((Below.refl _ _).alloc (Nat.le_refl _) _).alloc (by simp) _
  have bX : Box 0 #[.int .i64 x.id, .bool x.up, .int .i64 x.epoch, .int .i64 x.lease, .slice a4 x.writes.length d4, .int .i64 x.sure, .int .i64 x.clean] 29 ((w.alloc (.cells #[.int .i64 x.id, .bool x.up, .int .i64 x.epoch, .int .i64 x.lease, .slice a4 x.writes.length d4, .int .i64 x.sure, .int .i64 x.clean] 29)).alloc (.cells #[.int .i64 0, .slice none 0 0] 46)) w.heap.size := (newBox (Nat.zero_le _)).grow _
  have bR : Box 0 #[.int .i64 0, .slice none 0 0] 46 ((w.alloc (.cells #[.int .i64 x.id, .bool x.up, .int .i64 x.epoch, .int .i64 x.lease, .slice a4 x.writes.length d4, .int .i64 x.sure, .int .i64 x.clean] 29)).alloc (.cells #[.int .i64 0, .slice none 0 0] 46)) (w.heap.size + 1) := newBoxAt (Nat.zero_le _) (by simp)
  by_cases hf : nodeFault x = 0
  · have hok := nodeFault_zero hf
    have HL := hide (nodeOf_ok _ x _ (hN.later nb) hf)
    have HF := hide hf
    have HOK := hide hok
    have hln := hok.len
    have HB0 := hide nb
    have HR0 := hide bR
    clear h hN nb bX bR R4 hf hok
    go_enter Try.func30, Try.ntmps30
    go_wp2_with fail
    generalize (w.alloc (.cells #[.int .i64 x.id, .bool x.up, .int .i64 x.epoch, .int .i64 x.lease, .slice a4 x.writes.length d4, .int .i64 x.sure, .int .i64 x.clean] 29)).alloc (.cells #[.int .i64 0, .slice none 0 0] 46) = W0 at *
    refine (unhide HL).mono ?_
    rintro e w1 ⟨g, gw, rfl, hH, O, hg, hb⟩
    have HRR := hide ((unhide HR0).keep hb)
    have hgr : w.heap.size + 1 < g := by have := (unhide HR0).lt; omega
    have HB1 := hide ((unhide HB0).trans (hb.mono (unhide HB0).size))
    have HO1 := hide O
    have hgl := hH.lt
    have y0 := Box.at hH 0 _ rfl
    simp only [List.getElem_toArray, List.getElem_cons_zero] at y0
    have LC := hide (countC g _ _ _ x w1 hH)
    clear hb HL HB0 HR0 hH O hg
    go_wp2_with fail
    refine (unhide LC).mono ?_
    rintro e w9 ⟨rfl, h9⟩
    subst w9
    have LU := hide (isUpToC c (x.writes.length : Int) w1)
    clear LC
    go_wp2_with fail
    refine (unhide LU).mono ?_
    rintro e w9 ⟨rfl, h9⟩
    subst w9
    clear LU
    by_cases hc : 0 ≤ c ∧ c ≤ (x.writes.length : Int)
    · have hd2 : (decide (0 ≤ c) && decide (c ≤ (x.writes.length : Int))) = true := by simpa using hc
      rw [hd2]
      clear hd2
      obtain ⟨k, rfl⟩ : ∃ k : Nat, c = (k : Int) := ⟨c.toNat, by omega⟩
      have hk : k ≤ x.writes.length := by omega
      have HY : Hid (stateR x (k : Int) = ⟨0, ofI (x.writes.take k)⟩) := by show stateR x (k : Int) = _; rw [stateR, if_pos (unhide HF), if_pos hc, Int.toNat_natCast]
      have HT := hide (sl_take_own (unhide HO1) k hk)
      have HQ := implTOf _ (x.writes.take k) w1 (unhide HT).reads
      have hw0 : writesF (x.writes.take k) = 0 := by
        rw [writesF, if_neg (by rw [List.length_take]; omega)]
        exact wsFrom_all _ fun j hj => (unhide HOK).ws _ (List.mem_of_mem_take (List.getElem_mem _))
      rw [show tableOfR (x.writes.take k) = ⟨0, ofI (x.writes.take k)⟩ by rw [tableOfR, if_pos hw0]] at HQ
      have HO := hide HQ
      clear hc HQ hw0
      go_wp2_with fail
      refine (unhide HO).mono ?_
      rintro e w2 ⟨cs9, rfl, O9, hb⟩
      obtain ⟨a9, d9, rfl, -⟩ := open_TableResult O9.reads
      have bR := (unhide HRR).keep hb
      have hrl : w.heap.size + 1 < w1.heap.size := (unhide HRR).lt
      have z0 := Box.at bR 0 _ rfl
      have z1 := Box.at bR 1 _ rfl
      simp only [List.getElem_toArray, List.getElem_cons_zero, List.getElem_cons_succ] at z0 z1
      have ff := Box.soft bR
      have l0 := Box.lt bR
      have HBF := hide (below_setAll ((unhide HB1).trans (hb.mono (unhide HB1).size)) (w.heap.size + 1) 0 [.int .i64 0, .slice a9 (ofI (x.writes.take k)).length d9] (by omega))
      have HOF := hide (own_store' (s := w.heap.size + 1) (vs := [.int .i64 0, .slice a9 (ofI (x.writes.take k)).length d9]) O9 (by omega))
      have HZF := hide (size_setAll w2 (w.heap.size + 1) 0 [.int .i64 0, .slice a9 (ofI (x.writes.take k)).length d9])
      clear bR hb O9 HO HT HO1 HRR HB1
      generalize (ofI (x.writes.take k)).length = nn at *
      go_wp2_with fail
      refine bodyPost_ret (v := .agg #[.int .i64 0, .slice a9 nn d9]) (by simp [results, Try.results30, go_sem, z0, z1]) rfl ?_
      rw [unhide HY]
      exact ⟨[.int .i64 0, .slice a9 nn d9], rfl, (unhide HOF).mono (by omega) (Nat.le_of_eq (unhide HZF).symm), unhide HBF⟩
    · have hd2 : (decide (0 ≤ c) && decide (c ≤ (x.writes.length : Int))) = false := by
        by_cases h1 : 0 ≤ c
        · simp [h1]; omega
        · simp [h1]
      rw [hd2]
      clear hd2
      have HY : Hid (stateR x c = ⟨3, []⟩) := by show stateR x c = _; rw [stateR, if_pos (unhide HF), if_neg hc]
      have bR := unhide HRR
      have z0 := Box.at bR 0 _ rfl
      have z1 := Box.at bR 1 _ rfl
      simp only [List.getElem_toArray, List.getElem_cons_zero, List.getElem_cons_succ] at z0 z1
      have ff := Box.soft bR
      have l0 := Box.lt bR
      clear bR
      go_wp2_with fail
      refine bodyPost_ret (v := .agg #[.int .i64 3, .slice none 0 0]) (by simp [results, Try.results30, go_sem, z0, z1]) rfl ?_
      rw [unhide HY]
      have hB9 := below_setAll (unhide HB1) (w.heap.size + 1) 0 [.int .i64 3, .slice none 0 0] (by omega)
      exact ⟨[.int .i64 3, .slice none 0 0], rfl, own_codeItems (by decide), hB9⟩
  · have HL := hide (nodeOf_bad _ x _ (hN.later nb) hf)
    have hd : (nodeFault x != 0) = true := by simpa using hf
    have HY : Hid (stateR x c = ⟨nodeFault x, []⟩) := by show stateR x c = _; rw [stateR, if_neg hf]
    have HW := hide (nodeFault_wf x)
    have HB0 := hide nb
    have HR0 := hide bR
    clear h hN nb bX bR R4 hf
    generalize nodeFault x = cc at *
    go_enter Try.func30, Try.ntmps30
    go_wp2_with fail
    generalize (w.alloc (.cells #[.int .i64 x.id, .bool x.up, .int .i64 x.epoch, .int .i64 x.lease, .slice a4 x.writes.length d4, .int .i64 x.sure, .int .i64 x.clean] 29)).alloc (.cells #[.int .i64 0, .slice none 0 0] 46) = W0 at *
    refine (unhide HL).mono ?_
    rintro e w1 ⟨rfl, hb⟩
    have bR := (unhide HR0).keep hb
    have HB1 := hide ((unhide HB0).trans (hb.mono (unhide HB0).size))
    clear hb HL HB0 HR0
    have z0 := Box.at bR 0 _ rfl
    have z1 := Box.at bR 1 _ rfl
    simp only [List.getElem_toArray, List.getElem_cons_zero, List.getElem_cons_succ] at z0 z1
    have ff := Box.soft bR
    have l0 := Box.lt bR
    clear bR
    go_wp2_with fail
    refine bodyPost_ret (v := .agg #[.int .i64 cc, .slice none 0 0]) (by simp [results, Try.results30, go_sem, z0, z1]) rfl ?_
    rw [unhide HY]
    have hB9 := below_setAll (unhide HB1) (w.heap.size + 1) 0 [.int .i64 cc, .slice none 0 0] (by omega)
    exact ⟨[.int .i64 cc, .slice none 0 0], rfl, own_codeItems (unhide HW), hB9⟩

end Go.Proofs.Ytbogjepkdcknfaa

namespace Go.Proofs.Ytbogjepkdcknfaa
open Go.RowKit

theorem stateR_few (x : DNode) (c : Int) : Lay.tTableResult.vcnt (stateR x c) ≤ 100000000 := by
  rw [vcnt_TableResult]
  show cntAll Lay.tItem.cnt (stateR x c).items ≤ 100000000
  unfold stateR
  split
  · rename_i hf
    split
    · exact Nat.le_trans (right_few (right_of_writes _ fun y hy => (nodeFault_zero hf).ws y (List.mem_of_mem_take hy))) (by decide)
    · exact Nat.zero_le _
  · exact Nat.zero_le _
theorem lawStateAt (cs : List Value) (x : DNode) (i : Int) (w : World) (h : Lay.tNode.Reads w cs x) :
    Calls Try.prog 9 #[.agg cs.toArray, .int .i64 i] w fun e w' => e = .returned (.bool true) ∧ Below w.heap.size w w' := by
  by_cases hn : Lay.tNode.sz x ≤ 1048576
  · exact lawx_StateAt cs x i (stateR x i) w h hn (fun W a ha => specStateAt a x i W ha) (fun W a ha => implStateAt a x i W ha) (stateR_few x i)
  · exact lawover_StateAt cs x i w h (by omega)

end Go.Proofs.Ytbogjepkdcknfaa

namespace Go.Proofs.Ytbogjepkdcknfaa
open Go.RowKit

set_option maxRecDepth 10000 in
theorem opens_Write : Opens Lay.tWrite 81 := by
  intro H enc W base spare held fuel cs x h
  obtain ⟨xs, n, _, _, hlen, hl, hfi⟩ := DataW.trod_struct Try.underlying81 h
  rw [show Try.prog.cellsOf 81 = 5 by kernel_rfl] at hlen
  match cs, hlen with
  | [c0, c1, c2, c3, c4], _ =>
  match xs, hl with
  | [y0, y1, y2, y3, y4], _ =>
  have z0 : Try.prog.cellsOf 2 = 1 := by kernel_rfl
  have z1 : Try.prog.cellsOf 79 = 1 := by kernel_rfl
  have f0 : DataW.trod enc Try.prog W base spare held n 2 (([c0, c1, c2, c3, c4].drop 0).take (Try.prog.cellsOf 2)) = some y0 := hfi 0 _ rfl
  rw [z0] at f0
  obtain ⟨d0, r0⟩ := (opens_int Try.underlying2) enc W base spare held n _ _ f0
  have f1 : DataW.trod enc Try.prog W base spare held n 2 (([c0, c1, c2, c3, c4].drop 1).take (Try.prog.cellsOf 2)) = some y1 := hfi 1 _ rfl
  rw [z0] at f1
  obtain ⟨d1, r1⟩ := (opens_int Try.underlying2) enc W base spare held n _ _ f1
  have f2 : DataW.trod enc Try.prog W base spare held n 79 (([c0, c1, c2, c3, c4].drop 2).take (Try.prog.cellsOf 79)) = some y2 := hfi 2 _ rfl
  rw [z1] at f2
  obtain ⟨d2, r2⟩ := (opens_sl Try.underlying79 (by kernel_rfl) (by decide) (opens_int Try.underlying2)) enc W base spare held n _ _ f2
  have f3 : DataW.trod enc Try.prog W base spare held n 2 (([c0, c1, c2, c3, c4].drop 3).take (Try.prog.cellsOf 2)) = some y3 := hfi 3 _ rfl
  rw [z0] at f3
  obtain ⟨d3, r3⟩ := (opens_int Try.underlying2) enc W base spare held n _ _ f3
  have f4 : DataW.trod enc Try.prog W base spare held n 2 (([c0, c1, c2, c3, c4].drop 4).take (Try.prog.cellsOf 2)) = some y4 := hfi 4 _ rfl
  rw [z0] at f4
  obtain ⟨d4, r4⟩ := (opens_int Try.underlying2) enc W base spare held n _ _ f4
  exact ⟨⟨d0, d1, d2, d3, d4⟩, (reads_pair r0 (reads_pair r1 (reads_pair r2 (reads_pair r3 r4))))⟩

end Go.Proofs.Ytbogjepkdcknfaa

namespace Go.Proofs.Ytbogjepkdcknfaa
open Go.RowKit

set_option maxRecDepth 10000 in
theorem opens_Node : Opens Lay.tNode 24 := by
  intro H enc W base spare held fuel cs x h
  obtain ⟨xs, n, _, _, hlen, hl, hfi⟩ := DataW.trod_struct Try.underlying24 h
  rw [show Try.prog.cellsOf 24 = 7 by kernel_rfl] at hlen
  match cs, hlen with
  | [c0, c1, c2, c3, c4, c5, c6], _ =>
  match xs, hl with
  | [y0, y1, y2, y3, y4, y5, y6], _ =>
  have z0 : Try.prog.cellsOf 2 = 1 := by kernel_rfl
  have z1 : Try.prog.cellsOf 4 = 1 := by kernel_rfl
  have z2 : Try.prog.cellsOf 22 = 1 := by kernel_rfl
  have f0 : DataW.trod enc Try.prog W base spare held n 2 (([c0, c1, c2, c3, c4, c5, c6].drop 0).take (Try.prog.cellsOf 2)) = some y0 := hfi 0 _ rfl
  rw [z0] at f0
  obtain ⟨d0, r0⟩ := (opens_int Try.underlying2) enc W base spare held n _ _ f0
  have f1 : DataW.trod enc Try.prog W base spare held n 4 (([c0, c1, c2, c3, c4, c5, c6].drop 1).take (Try.prog.cellsOf 4)) = some y1 := hfi 1 _ rfl
  rw [z1] at f1
  obtain ⟨d1, r1⟩ := (opens_bool Try.underlying4) enc W base spare held n _ _ f1
  have f2 : DataW.trod enc Try.prog W base spare held n 2 (([c0, c1, c2, c3, c4, c5, c6].drop 2).take (Try.prog.cellsOf 2)) = some y2 := hfi 2 _ rfl
  rw [z0] at f2
  obtain ⟨d2, r2⟩ := (opens_int Try.underlying2) enc W base spare held n _ _ f2
  have f3 : DataW.trod enc Try.prog W base spare held n 2 (([c0, c1, c2, c3, c4, c5, c6].drop 3).take (Try.prog.cellsOf 2)) = some y3 := hfi 3 _ rfl
  rw [z0] at f3
  obtain ⟨d3, r3⟩ := (opens_int Try.underlying2) enc W base spare held n _ _ f3
  have f4 : DataW.trod enc Try.prog W base spare held n 22 (([c0, c1, c2, c3, c4, c5, c6].drop 4).take (Try.prog.cellsOf 22)) = some y4 := hfi 4 _ rfl
  rw [z2] at f4
  obtain ⟨d4, r4⟩ := (opens_sl Try.underlying22 (by kernel_rfl) (by decide) opens_Write) enc W base spare held n _ _ f4
  have f5 : DataW.trod enc Try.prog W base spare held n 2 (([c0, c1, c2, c3, c4, c5, c6].drop 5).take (Try.prog.cellsOf 2)) = some y5 := hfi 5 _ rfl
  rw [z0] at f5
  obtain ⟨d5, r5⟩ := (opens_int Try.underlying2) enc W base spare held n _ _ f5
  have f6 : DataW.trod enc Try.prog W base spare held n 2 (([c0, c1, c2, c3, c4, c5, c6].drop 6).take (Try.prog.cellsOf 2)) = some y6 := hfi 6 _ rfl
  rw [z0] at f6
  obtain ⟨d6, r6⟩ := (opens_int Try.underlying2) enc W base spare held n _ _ f6
  exact ⟨⟨d0, d1, d2, d3, d4, d5, d6⟩, (reads_pair r0 (reads_pair r1 (reads_pair r2 (reads_pair r3 (reads_pair r4 (reads_pair r5 r6))))))⟩

end Go.Proofs.Ytbogjepkdcknfaa
