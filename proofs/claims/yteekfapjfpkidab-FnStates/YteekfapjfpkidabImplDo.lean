/-
  The program's do: a put or a drop in a map of vectors by Ids.
  Condition: the map holds a right table, the write has no fault (premises).
-/
import Derived.Test.YteekfapjfpkidabApplyPlain
import Derived.Test.YteekfapjfpkidabImplDeed
import Derived.Test.YteekfapjfpkidabImplPutM
import Derived.Test.YteekfapjfpkidabImplDropM
namespace Go.Proofs.Yteekfapjfpkidab
open Go.RowKit

theorem asPut (v : Value) (w : World) : (Instr.typeAssert (.iface 138 v) 93 138 true).run Try.prog w = .ok (.tuple #[v, .bool true]) w := by kernel_rfl
theorem asNoPut (v : Value) (w : World) : (Instr.typeAssert (.iface 136 v) 93 138 true).run Try.prog w = .ok (.tuple #[.agg #[.int .i64 0, .int .i64 0, .int .i64 0], .bool false]) w := by kernel_rfl
theorem asDrop (v : Value) (w : World) : (Instr.typeAssert (.iface 136 v) 93 136 true).run Try.prog w = .ok (.tuple #[v, .bool true]) w := by kernel_rfl

set_option maxRecDepth 10000 in
set_option maxHeartbeats 1000000 in
theorem do_put (b n : Nat) (xs : List DItem) (id x y z : Int) (w : World) (hT : TabAt w b n xs) (hR : Right xs) (hn : n < 1000) (hw : (Lit.int .i64 id).wf = true) :
    Calls Try.prog 55 #[.map (some b), putV x y z, .int .i64 id] w fun e w' => e = .returned (.tuple #[]) ∧ TabAt w' b (n + 1) (if roomB xs id then putI xs id [x, y, z] else xs) ∧ Ext (fun q => q = b) w w' := by
  have a1 := asPut
  have nb : Below w.heap.size w (w.alloc (.cells #[.int .i64 x, .int .i64 y, .int .i64 z] 138)) := (Below.refl _ _).alloc (Nat.le_refl _) _
  have hT1 := hT.later nb
  have L : Hid (Calls Try.prog 69 #[.map (some b), .int .i64 id, .agg #[.int .i64 x, .int .i64 y, .int .i64 z]] (w.alloc (.cells #[.int .i64 x, .int .i64 y, .int .i64 z] 138)) fun e w' => ∃ r, e = .returned (.bool r) ∧ TabAt w' b (n + 1) (if roomB xs id then putI xs id [x, y, z] else xs) ∧ Ext (fun q => q = b) w w') := by
    show Calls _ _ _ _ _
    cases hr : roomB xs id with
    | true =>
      rw [if_pos rfl]
      have E0 := ext_of_below nb (fun q => q = b)
      cases hh : hasI xs id with
      | true => exact (putM_there b n xs id x y z _ hT1 (tableFault_zero hR).2.2 hn hw hh).mono fun e w' ⟨h1, h2, h3⟩ => ⟨_, h1, h2, E0.trans h3⟩
      | false =>
        rcases room_true hr with h | h
        · rw [hh] at h; cases h
        · exact (putM_new b n xs id x y z _ hT1 hn hw hh h).mono fun e w' ⟨h1, h2, h3⟩ => ⟨_, h1, h2, E0.trans h3⟩
    | false =>
      rw [if_neg (by simp)]
      obtain ⟨h1, h2⟩ := room_false hr
      exact (putM_full b n xs id x y z _ hT1 hw h1 h2).mono fun e w' ⟨k1, k2⟩ => ⟨_, k1, (hT1.later k2).mono (by omega), (ext_of_below nb _).trans (ext_of_below k2 _)⟩
  clear hT hR hT1 nb hw
  generalize (if roomB xs id then putI xs id [x, y, z] else xs) = Y at *
  simp only [putV]
  go_enter Try.func55, Try.ntmps55
  go_wp2_with fail
  refine (unhide L).mono ?_
  rintro e w1 ⟨r, rfl, hT, hE⟩
  have HT := hide hT
  have HE := hide hE
  clear hT hE L
  go_wp2_with fail
  refine bodyPost_end (v := .tuple #[]) (by simp [results, Try.results55, go_sem]) rfl ?_
  exact ⟨rfl, unhide HT, unhide HE⟩

set_option maxRecDepth 10000 in
set_option maxHeartbeats 1000000 in
theorem do_drop (b n : Nat) (xs : List DItem) (id : Int) (w : World) (hT : TabAt w b n xs) (hw : (Lit.int .i64 id).wf = true) :
    Calls Try.prog 55 #[.map (some b), dropV, .int .i64 id] w fun e w' => e = .returned (.tuple #[]) ∧ TabAt w' b (n + 1) (dropI xs id) ∧ Ext (fun q => q = b) w w' := by
  have a1 := asNoPut
  have a2 := asDrop
  have nb : ∀ o, Below w.heap.size w (w.alloc o) := fun o => (Below.refl _ _).alloc (Nat.le_refl _) _
  have L : Hid (∀ o, Calls Try.prog 74 #[.map (some b), .int .i64 id] (w.alloc o) fun e w' => e = .returned (.tuple #[]) ∧ TabAt w' b (n + 1) (dropI xs id) ∧ Ext (fun q => q = b) w w') := fun o =>
    (dropM b n xs id _ (hT.later (nb o)) hw).mono fun e w' ⟨h1, h2, h3⟩ => ⟨h1, h2.mono (by omega), (ext_of_below (nb o) _).trans h3⟩
  clear hT hw nb
  simp only [dropV]
  go_enter Try.func55, Try.ntmps55
  go_wp2_with fail
  refine (unhide L _).mono ?_
  rintro e w1 ⟨rfl, hT, hE⟩
  have HT := hide hT
  have HE := hide hE
  clear hT hE L
  go_wp2_with fail
  refine bodyPost_end (v := .tuple #[]) (by simp [results, Try.results55, go_sem]) rfl ?_
  exact ⟨rfl, unhide HT, unhide HE⟩

/-- do of the program. -/
theorem doC (b n : Nat) (xs : List DItem) (x : DWrite) (w : World) (hT : TabAt w b n xs) (hR : Right xs) (hn : n < 1000) (hx : wF x = 0) :
    Calls Try.prog 55 #[.map (some b), deedV x.kind x.vec, .int .i64 x.id] w fun e w' => e = .returned (.tuple #[]) ∧ TabAt w' b (n + 1) (applyI xs x) ∧ Ext (fun q => q = b) w w' := by
  obtain ⟨hi, -, -, hk⟩ := writeFault_zero hx
  have hw := id_wf (idB_of hi)
  rcases hk with ⟨h1, hv⟩ | ⟨h2, -⟩
  · obtain ⟨p, q, r, e⟩ := vec3 hv
    rw [deedV, if_pos h1, applyI, if_neg (by omega), e]
    exact do_put b n xs x.id p q r w hT hR hn hw
  · rw [deedV, if_neg (by omega), applyI, if_pos h2]
    exact do_drop b n xs x.id w hT hw

end Go.Proofs.Yteekfapjfpkidab
