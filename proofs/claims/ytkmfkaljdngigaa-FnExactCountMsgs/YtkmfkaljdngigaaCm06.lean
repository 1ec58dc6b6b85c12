/-
  Texts of this proof in one: ImplFaced, ImplNetF, ImplCount, LawCount.
  Their conditions stand in their theorems.
-/
import Derived.Test.YtkmfkaljdngigaaCm05
import Derived.Defers
import Derived.Recover
import Derived.Laws.Pointers
import Derived.Test.YtkmfkaljdngigaaCm03

namespace Go.Proofs.Ytkmfkaljdngigaa
open Go.RowKit

theorem asWrong (v : Value) (w : World) : (Instr.typeAssert (.iface 95 v) 20 95 true).run Try.prog w = .ok (.tuple #[v, .bool true]) w := by kernel_rfl
set_option maxRecDepth 10000 in
theorem wrongCodeC (c : Int) (w : World) :
    Calls Try.prog 59 #[.iface 95 (.agg #[.int .i64 c])] w fun e w' => e = .returned (.int .i64 c) ∧ Below w.heap.size w w' := by
  have HB : Hid (Below w.heap.size w (w.alloc (.cells #[.int .i64 c] 95))) := hide ((Below.refl _ _).alloc (Nat.le_refl _) _)
  have q := asWrong
  go_enter Try.func59, Try.ntmps59
  go_wp2_with fail
  go_ret
  exact ⟨rfl, unhide HB⟩
theorem cell_new (w : World) (v : Value) (T : TypeId) : (w.alloc (.cells #[v] T)).cell? ⟨w.heap.size, 0, none⟩ = some v := (newBox (lo := 0) (Nat.zero_le _) : Box 0 #[v] T (w.alloc (.cells #[v] T)) w.heap.size).at 0 _ rfl
set_option maxRecDepth 10000 in
theorem catch_bad_bool (p : Addr) (x c : Int) (w : World) (hc : w.cell? p = some (.int .i64 x)) (hz : w.frozen? p = false) (hp : p.block < w.heap.size) :
    CallsD Try.prog 58 #[.pointer (some p)] (.panicking (wrongP c)) w fun e u' w' =>
      e = .returned (.tuple #[]) ∧ u' = .panicking [{ v := .iface 95 (.agg #[.int .i64 c]), recovered := true }] ∧ ∃ w1, w' = w1.setCell p (.int .i64 c) ∧ Below w.heap.size w w1 := by
  refine callsD_of_wpS Try.func58 rfl fun c₀ cs hu => ?_
  apply wpS_seq
  apply wpS_region
  simp [wpOpsS, go_sem, recoverD, hu, Try.ntmps58, Exit.thenS, wrongP]
  refine wpS_of_wp ?_
  have HL := hide (wrongCodeC c w)
  go_wp2_with fail
  refine (unhide HL).mono ?_
  rintro e w1 ⟨rfl, hb⟩
  have hc1 : w1.cell? p = some (.int .i64 x) := (hb.cell (p := p) hp).trans hc
  have hz1 : w1.frozen? p = false := (World.frozen?_of_block (hb.block _ hp)).trans hz
  have hp1 : p.block < w1.heap.size := Nat.lt_of_lt_of_le hp hb.size
  have HB := hide hb
  clear hb HL hc hz
  go_wp2_with fail
  refine ⟨rfl, _, rfl, .tuple #[], ?_, rfl, rfl, w1, rfl, unhide HB⟩
  simp [results, Try.results58, go_sem]
set_option maxRecDepth 10000 in
theorem catch_ok_bool (p : Addr) (w : World) :
    CallsD Try.prog 58 #[.pointer (some p)] .returning w fun e u' w' => e = .returned (.tuple #[]) ∧ u' = .returning ∧ w' = w := by
  refine callsD_of_wpS Try.func58 rfl fun c₀ cs hu => ?_
  apply wpS_seq
  apply wpS_region
  simp [wpOpsS, go_sem, recoverD, hu, Try.ntmps58, Exit.thenS]
  refine wpS_of_wp ?_
  go_wp2_with fail
  cases c₀
  simp_all [bodyPostS, results, Try.results58, go_sem]
set_option maxRecDepth 10000 in
theorem faced_bad_bool (N : Nat) (cap : Array Value) (c : Int) (w : World) (hf : ∀ W : World, (callFunc N cap).run Try.prog W = .ok (.enter N cap) W)
    (h : Calls Try.prog N cap (w.alloc (.cells #[.int .i64 0] 2)) fun e w' => e = .panicked (wrongP c) ∧ Below (w.heap.size + 1) (w.alloc (.cells #[.int .i64 0] 2)) w') :
    Calls Try.prog 33 #[.func (.func N) #[] cap] w fun e w' => e = .returned (.tuple #[.bool false, .int .i64 c]) ∧ Below w.heap.size w w' := by
  have hmf : ∀ (fn : Fn) (first cap : Array Value) (w : World), (Instr.makeFunc fn first cap).run Try.prog w = .ok (.func fn first cap) w := fun _ _ _ _ => rfl
  have HL := hide h
  have nb : Below w.heap.size w (w.alloc (.cells #[.int .i64 0] 2)) := (Below.refl _ _).alloc (Nat.le_refl _) _
  have HX : Hid (Box 0 #[.int .i64 0] 2 (w.alloc (.cells #[.int .i64 0] 2)) w.heap.size) := newBox (Nat.zero_le _)
  have HN := hide nb
  clear h nb
  go_enter_defers Try.func33, Try.ntmps33
  go_wp2_with fail
  refine (unhide HL).mono ?_
  rintro e w1 ⟨rfl, hb⟩
  replace HN := hide ((unhide HN).trans (hb.mono (by omega)))
  have hX := (unhide HX).keep (hb.mono (by simp))
  have z0 : w1.cell? ⟨w.heap.size, 0, none⟩ = some (.int .i64 0) := hX.at 0 _ rfl
  have zf : w1.frozen? ⟨w.heap.size, 0, none⟩ = false := hX.soft 0
  have zl := hX.lt
  clear HL HX hX hb
  go_wp2_with fail
  refine leaves_cons (f := 58) (args := #[.pointer (some ⟨w.heap.size, 0, none⟩)]) (by simp) (by simp [go_sem]) ?_
  refine (catch_bad_bool ⟨w.heap.size, 0, none⟩ 0 c w1 z0 zf zl).mono ?_
  rintro e u' w2 ⟨rfl, rfl, w3, rfl, hb⟩
  have hN : Below w.heap.size w (w3.setCell ⟨w.heap.size, 0, none⟩ (.int .i64 c)) := ((unhide HN).trans (hb.mono (unhide HN).size)).setCell (by simp) _
  have z1 : (w3.setCell ⟨w.heap.size, 0, none⟩ (.int .i64 c)).cell? ⟨w.heap.size, 0, none⟩ = some (.int .i64 c) := World.cell?_setCell_same _ _ _ ((hb.cell (p := ⟨w.heap.size, 0, none⟩) zl).trans z0)
  simp [Leaves, settle, results, Try.results33, go_sem, z1]
  exact hN
set_option maxRecDepth 10000 in
theorem faced_ok_bool (N : Nat) (cap : Array Value) (w : World) (Q : Value → World → Prop) (hf : ∀ W : World, (callFunc N cap).run Try.prog W = .ok (.enter N cap) W)
    (h : Calls Try.prog N cap (w.alloc (.cells #[.int .i64 0] 2)) fun e w' => ∃ v, e = .returned v ∧ Q v w' ∧ Below (w.heap.size + 1) (w.alloc (.cells #[.int .i64 0] 2)) w') :
    Calls Try.prog 33 #[.func (.func N) #[] cap] w fun e w' => ∃ v w1, e = .returned (.tuple #[v, .int .i64 0]) ∧ Q v w1 ∧ w' = w1.setCell ⟨w.heap.size, 0, none⟩ (.int .i64 0) ∧ Below w.heap.size w w' ∧ w.heap.size < w1.heap.size := by
  have hmf : ∀ (fn : Fn) (first cap : Array Value) (w : World), (Instr.makeFunc fn first cap).run Try.prog w = .ok (.func fn first cap) w := fun _ _ _ _ => rfl
  have HL := hide h
  have nb : Below w.heap.size w (w.alloc (.cells #[.int .i64 0] 2)) := (Below.refl _ _).alloc (Nat.le_refl _) _
  have HX : Hid (Box 0 #[.int .i64 0] 2 (w.alloc (.cells #[.int .i64 0] 2)) w.heap.size) := newBox (Nat.zero_le _)
  have HN := hide nb
  clear h nb
  go_enter_defers Try.func33, Try.ntmps33
  go_wp2_with fail
  refine (unhide HL).mono ?_
  rintro e w1 ⟨v, rfl, hq, hb⟩
  have HQ := hide hq
  replace HN := hide ((unhide HN).trans (hb.mono (by omega)))
  have hX := (unhide HX).keep (hb.mono (by simp))
  have z0 : w1.cell? ⟨w.heap.size, 0, none⟩ = some (.int .i64 0) := hX.at 0 _ rfl
  have zf : w1.frozen? ⟨w.heap.size, 0, none⟩ = false := hX.soft 0
  have zl := hX.lt
  clear HL HX hX hb hq
  go_wp2_with fail
  refine leaves_cons (f := 58) (args := #[.pointer (some ⟨w.heap.size, 0, none⟩)]) (by simp) (by simp [go_sem]) ?_
  refine (catch_ok_bool ⟨w.heap.size, 0, none⟩ _).mono ?_
  rintro e u' w2 ⟨rfl, rfl, rfl⟩
  have hN : Below w.heap.size w (w1.setCell ⟨w.heap.size, 0, none⟩ (.int .i64 0)) := (unhide HN).setCell (by simp) _
  have z1 : (w1.setCell ⟨w.heap.size, 0, none⟩ (.int .i64 0)).cell? ⟨w.heap.size, 0, none⟩ = some (.int .i64 0) := World.cell?_setCell_same _ _ _ z0
  refine ⟨.tuple #[v, .int .i64 0], by simp [results, Try.results33, go_sem, z1], v, w1, rfl, unhide HQ, rfl, hN, zl⟩
set_option maxRecDepth 10000 in
theorem catch_bad_int (p : Addr) (x c : Int) (w : World) (hc : w.cell? p = some (.int .i64 x)) (hz : w.frozen? p = false) (hp : p.block < w.heap.size) :
    CallsD Try.prog 77 #[.pointer (some p)] (.panicking (wrongP c)) w fun e u' w' =>
      e = .returned (.tuple #[]) ∧ u' = .panicking [{ v := .iface 95 (.agg #[.int .i64 c]), recovered := true }] ∧ ∃ w1, w' = w1.setCell p (.int .i64 c) ∧ Below w.heap.size w w1 := by
  refine callsD_of_wpS Try.func77 rfl fun c₀ cs hu => ?_
  apply wpS_seq
  apply wpS_region
  simp [wpOpsS, go_sem, recoverD, hu, Try.ntmps77, Exit.thenS, wrongP]
  refine wpS_of_wp ?_
  have HL := hide (wrongCodeC c w)
  go_wp2_with fail
  refine (unhide HL).mono ?_
  rintro e w1 ⟨rfl, hb⟩
  have hc1 : w1.cell? p = some (.int .i64 x) := (hb.cell (p := p) hp).trans hc
  have hz1 : w1.frozen? p = false := (World.frozen?_of_block (hb.block _ hp)).trans hz
  have hp1 : p.block < w1.heap.size := Nat.lt_of_lt_of_le hp hb.size
  have HB := hide hb
  clear hb HL hc hz
  go_wp2_with fail
  refine ⟨rfl, _, rfl, .tuple #[], ?_, rfl, rfl, w1, rfl, unhide HB⟩
  simp [results, Try.results77, go_sem]
set_option maxRecDepth 10000 in
theorem catch_ok_int (p : Addr) (w : World) :
    CallsD Try.prog 77 #[.pointer (some p)] .returning w fun e u' w' => e = .returned (.tuple #[]) ∧ u' = .returning ∧ w' = w := by
  refine callsD_of_wpS Try.func77 rfl fun c₀ cs hu => ?_
  apply wpS_seq
  apply wpS_region
  simp [wpOpsS, go_sem, recoverD, hu, Try.ntmps77, Exit.thenS]
  refine wpS_of_wp ?_
  go_wp2_with fail
  cases c₀
  simp_all [bodyPostS, results, Try.results77, go_sem]
set_option maxRecDepth 10000 in
theorem faced_bad_int (N : Nat) (cap : Array Value) (c : Int) (w : World) (hf : ∀ W : World, (callFunc N cap).run Try.prog W = .ok (.enter N cap) W)
    (h : Calls Try.prog N cap (w.alloc (.cells #[.int .i64 0] 2)) fun e w' => e = .panicked (wrongP c) ∧ Below (w.heap.size + 1) (w.alloc (.cells #[.int .i64 0] 2)) w') :
    Calls Try.prog 51 #[.func (.func N) #[] cap] w fun e w' => e = .returned (.tuple #[.int .i64 0, .int .i64 c]) ∧ Below w.heap.size w w' := by
  have hmf : ∀ (fn : Fn) (first cap : Array Value) (w : World), (Instr.makeFunc fn first cap).run Try.prog w = .ok (.func fn first cap) w := fun _ _ _ _ => rfl
  have HL := hide h
  have nb : Below w.heap.size w (w.alloc (.cells #[.int .i64 0] 2)) := (Below.refl _ _).alloc (Nat.le_refl _) _
  have HX : Hid (Box 0 #[.int .i64 0] 2 (w.alloc (.cells #[.int .i64 0] 2)) w.heap.size) := newBox (Nat.zero_le _)
  have HN := hide nb
  clear h nb
  go_enter_defers Try.func51, Try.ntmps51
  go_wp2_with fail
  refine (unhide HL).mono ?_
  rintro e w1 ⟨rfl, hb⟩
  replace HN := hide ((unhide HN).trans (hb.mono (by omega)))
  have hX := (unhide HX).keep (hb.mono (by simp))
  have z0 : w1.cell? ⟨w.heap.size, 0, none⟩ = some (.int .i64 0) := hX.at 0 _ rfl
  have zf : w1.frozen? ⟨w.heap.size, 0, none⟩ = false := hX.soft 0
  have zl := hX.lt
  clear HL HX hX hb
  go_wp2_with fail
  refine leaves_cons (f := 77) (args := #[.pointer (some ⟨w.heap.size, 0, none⟩)]) (by simp) (by simp [go_sem]) ?_
  refine (catch_bad_int ⟨w.heap.size, 0, none⟩ 0 c w1 z0 zf zl).mono ?_
  rintro e u' w2 ⟨rfl, rfl, w3, rfl, hb⟩
  have hN : Below w.heap.size w (w3.setCell ⟨w.heap.size, 0, none⟩ (.int .i64 c)) := ((unhide HN).trans (hb.mono (unhide HN).size)).setCell (by simp) _
  have z1 : (w3.setCell ⟨w.heap.size, 0, none⟩ (.int .i64 c)).cell? ⟨w.heap.size, 0, none⟩ = some (.int .i64 c) := World.cell?_setCell_same _ _ _ ((hb.cell (p := ⟨w.heap.size, 0, none⟩) zl).trans z0)
  simp [Leaves, settle, results, Try.results51, go_sem, z1]
  exact hN
set_option maxRecDepth 10000 in
theorem faced_ok_int (N : Nat) (cap : Array Value) (w : World) (Q : Value → World → Prop) (hf : ∀ W : World, (callFunc N cap).run Try.prog W = .ok (.enter N cap) W)
    (h : Calls Try.prog N cap (w.alloc (.cells #[.int .i64 0] 2)) fun e w' => ∃ v, e = .returned v ∧ Q v w' ∧ Below (w.heap.size + 1) (w.alloc (.cells #[.int .i64 0] 2)) w') :
    Calls Try.prog 51 #[.func (.func N) #[] cap] w fun e w' => ∃ v w1, e = .returned (.tuple #[v, .int .i64 0]) ∧ Q v w1 ∧ w' = w1.setCell ⟨w.heap.size, 0, none⟩ (.int .i64 0) ∧ Below w.heap.size w w' ∧ w.heap.size < w1.heap.size := by
  have hmf : ∀ (fn : Fn) (first cap : Array Value) (w : World), (Instr.makeFunc fn first cap).run Try.prog w = .ok (.func fn first cap) w := fun _ _ _ _ => rfl
  have HL := hide h
  have nb : Below w.heap.size w (w.alloc (.cells #[.int .i64 0] 2)) := (Below.refl _ _).alloc (Nat.le_refl _) _
  have HX : Hid (Box 0 #[.int .i64 0] 2 (w.alloc (.cells #[.int .i64 0] 2)) w.heap.size) := newBox (Nat.zero_le _)
  have HN := hide nb
  clear h nb
  go_enter_defers Try.func51, Try.ntmps51
  go_wp2_with fail
  refine (unhide HL).mono ?_
  rintro e w1 ⟨v, rfl, hq, hb⟩
  have HQ := hide hq
  replace HN := hide ((unhide HN).trans (hb.mono (by omega)))
  have hX := (unhide HX).keep (hb.mono (by simp))
  have z0 : w1.cell? ⟨w.heap.size, 0, none⟩ = some (.int .i64 0) := hX.at 0 _ rfl
  have zf : w1.frozen? ⟨w.heap.size, 0, none⟩ = false := hX.soft 0
  have zl := hX.lt
  clear HL HX hX hb hq
  go_wp2_with fail
  refine leaves_cons (f := 77) (args := #[.pointer (some ⟨w.heap.size, 0, none⟩)]) (by simp) (by simp [go_sem]) ?_
  refine (catch_ok_int ⟨w.heap.size, 0, none⟩ _).mono ?_
  rintro e u' w2 ⟨rfl, rfl, rfl⟩
  have hN : Below w.heap.size w (w1.setCell ⟨w.heap.size, 0, none⟩ (.int .i64 0)) := (unhide HN).setCell (by simp) _
  have z1 : (w1.setCell ⟨w.heap.size, 0, none⟩ (.int .i64 0)).cell? ⟨w.heap.size, 0, none⟩ = some (.int .i64 0) := World.cell?_setCell_same _ _ _ z0
  refine ⟨.tuple #[v, .int .i64 0], by simp [results, Try.results51, go_sem, z1], v, w1, rfl, unhide HQ, rfl, hN, zl⟩
end Go.Proofs.Ytkmfkaljdngigaa

namespace Go.Proofs.Ytkmfkaljdngigaa
open Go.RowKit

theorem msgsFrom_drop {xs : List DMsg} {k : Nat} (hk : k < xs.length) : msgsFrom (xs.drop k) = if msgFault xs[k] = 0 then msgsFrom (xs.drop (k + 1)) else msgFault xs[k] := by
  rw [List.drop_eq_getElem_cons hk, msgsFrom]
set_option maxRecDepth 10000 in
set_option maxHeartbeats 4000000 in
theorem mustBeNetC (v : Value) (xs : List DMsg) (w : World) (h : (Lay.sl Lay.tMsg).Reads w [v] xs) :
    Calls Try.prog 39 #[v] w fun e w' => e = wrongE (netFault xs) ∧ Below w.heap.size w w' := by
  have hbig := h.big
  obtain ⟨ao, cap, rfl⟩ := open_sl h
  have H := hide h
  clear h
  go_enter Try.func39, Try.ntmps39
  cases e1 : decide ((xs.length : Int) ≤ 40)
  · have HF : Hid (netFault xs = 2) := by show netFault xs = 2; rw [netFault, if_pos (by simp at e1; omega)]
    go_wp2_with fail
    refine (mustF 2 _).mono ?_
    rintro e w9 ⟨rfl, h9⟩
    subst w9
    go_wp2_with fail
    exact ⟨rfl, by rw [unhide HF]; rfl, Below.refl _ _⟩
  · have HF : Hid (netFault xs = msgsFrom (xs.drop 0)) := by show netFault xs = _; rw [netFault, if_neg (by simp at e1; omega)]; rfl
    go_wp2_with fail
    refine (mustT 2 _).mono ?_
    rintro e w9 ⟨rfl, h9⟩
    subst w9
    clear e1
    go_wp2_with fail
    go_loopw [10] (fun i wr => ∃ k : Nat, k ≤ xs.length ∧ i = .int .i64 k ∧ netFault xs = msgsFrom (xs.drop k) ∧ Below w.heap.size w wr) (fun i _ => xs.length - (intOf i).toNat)
    case atStart => exact ⟨0, Nat.zero_le _, rfl, unhide HF, Below.refl _ _⟩
    case round =>
      obtain ⟨k, hk, rfl, hF, hB⟩ := hrel
      clear HF
      by_cases hlt : k < xs.length
      · obtain ⟨b, off, rfl, hbl⟩ := Lay.sl_addr (unhide H) (by omega)
        obtain ⟨row, hc, hr⟩ := Lay.row_at (unhide H) hlt
        replace hr := hr.later hB
        rw [msgsFrom_drop hlt] at hF
        have hdl : decide ((k : Int) < (xs.length : Int)) = true := by simp; omega
        obtain ⟨a, d, rfl, -⟩ := open_Msg hr
        have c0 : wr.cell? ⟨b, off + k * 10, none⟩ = some (.int .i64 (xs[k]).kind) := (hB.cell (p := ⟨b, off + k * 10, none⟩) hbl).trans (hc 0 (by decide))
        have c1 : wr.cell? ⟨b, off + k * 10 + 1, none⟩ = some (.int .i64 (xs[k]).epoch) := (hB.cell (p := ⟨b, off + k * 10 + 1, none⟩) hbl).trans (hc 1 (by decide))
        have c2 : wr.cell? ⟨b, off + k * 10 + 2, none⟩ = some (.int .i64 (xs[k]).src) := (hB.cell (p := ⟨b, off + k * 10 + 2, none⟩) hbl).trans (hc 2 (by decide))
        have c3 : wr.cell? ⟨b, off + k * 10 + 3, none⟩ = some (.int .i64 (xs[k]).dst) := (hB.cell (p := ⟨b, off + k * 10 + 3, none⟩) hbl).trans (hc 3 (by decide))
        have c4 : wr.cell? ⟨b, off + k * 10 + 4, none⟩ = some (.int .i64 (xs[k]).index) := (hB.cell (p := ⟨b, off + k * 10 + 4, none⟩) hbl).trans (hc 4 (by decide))
        have c5 : wr.cell? ⟨b, off + k * 10 + 5, none⟩ = some (.int .i64 (xs[k]).write.kind) := (hB.cell (p := ⟨b, off + k * 10 + 5, none⟩) hbl).trans (hc 5 (by decide))
        have c6 : wr.cell? ⟨b, off + k * 10 + 6, none⟩ = some (.int .i64 (xs[k]).write.id) := (hB.cell (p := ⟨b, off + k * 10 + 6, none⟩) hbl).trans (hc 6 (by decide))
        have c7 : wr.cell? ⟨b, off + k * 10 + 7, none⟩ = some (.slice a (xs[k]).write.vec.length d) := (hB.cell (p := ⟨b, off + k * 10 + 7, none⟩) hbl).trans (hc 7 (by decide))
        have c8 : wr.cell? ⟨b, off + k * 10 + 8, none⟩ = some (.int .i64 (xs[k]).write.session) := (hB.cell (p := ⟨b, off + k * 10 + 8, none⟩) hbl).trans (hc 8 (by decide))
        have c9 : wr.cell? ⟨b, off + k * 10 + 9, none⟩ = some (.int .i64 (xs[k]).write.seq) := (hB.cell (p := ⟨b, off + k * 10 + 9, none⟩) hbl).trans (hc 9 (by decide))
        have HF := hide hF
        have HR := hide hr
        have HB := hide hB
        clear hF hr hB hc
        generalize hx : xs[k] = x at *
        clear hx
        have nb : Below wr.heap.size wr (wr.alloc (.cells #[.int .i64 x.kind, .int .i64 x.epoch, .int .i64 x.src, .int .i64 x.dst, .int .i64 x.index, .int .i64 x.write.kind, .int .i64 x.write.id, .slice a x.write.vec.length d, .int .i64 x.write.session, .int .i64 x.write.seq] 31)) := (Below.refl _ _).alloc (Nat.le_refl _) _
        have HL := hide (mustBeMsgC _ x _ ((unhide HR).later nb))
        replace HB := hide ((unhide HB).trans (nb.mono (unhide HB).size))
        clear nb
        go_wp2_with fail
        refine (unhide HL).mono ?_
        generalize wr.alloc (.cells #[.int .i64 x.kind, .int .i64 x.epoch, .int .i64 x.src, .int .i64 x.dst, .int .i64 x.index, .int .i64 x.write.kind, .int .i64 x.write.id, .slice a x.write.vec.length d, .int .i64 x.write.session, .int .i64 x.write.seq] 31) = W1 at *
        rintro e W2 ⟨he, hb⟩
        replace HB := hide ((unhide HB).trans (hb.mono (unhide HB).size))
        clear hb HL c0 c1 c2 c3 c4 c5 c6 c7 c8 c9
        by_cases hf : msgFault x = 0
        · rw [wrongE_ok hf] at he
          subst he
          replace HF := hide ((unhide HF).trans (if_pos hf))
          clear hf
          go_wp2_with fail
          go_roundw
          case rel => exact ⟨k + 1, by omega, by go_num, unhide HF, unhide HB⟩
          case measure => simp [intOf]; omega
        · rw [wrongE_bad hf] at he
          subst he
          replace HF := hide ((unhide HF).trans (if_neg hf))
          have HG := hide hf
          clear hf
          go_wp2_with fail
          exact ⟨rfl, by rw [unhide HF]; exact (wrongE_bad (unhide HG)).symm, unhide HB⟩
      · obtain rfl : k = xs.length := by omega
        rw [List.drop_length] at hF
        have hdl : decide ((xs.length : Int) < (xs.length : Int)) = false := by simp
        have HF := hide hF
        have HB := hide hB
        clear hF hB
        go_wp2_with fail
        go_end0
        exact ⟨by rw [unhide HF]; rfl, unhide HB⟩
set_option maxRecDepth 10000 in
theorem msgFaultWork (a : Option Addr) (d : Nat) (x : DMsg) (g : Nat) (w : World) (h : Lay.tMsg.Reads w [.int .i64 x.kind, .int .i64 x.epoch, .int .i64 x.src, .int .i64 x.dst, .int .i64 x.index, .int .i64 x.write.kind, .int .i64 x.write.id, .slice a x.write.vec.length d, .int .i64 x.write.session, .int .i64 x.write.seq] x) (hx : Box 0 #[.int .i64 x.kind, .int .i64 x.epoch, .int .i64 x.src, .int .i64 x.dst, .int .i64 x.index, .int .i64 x.write.kind, .int .i64 x.write.id, .slice a x.write.vec.length d, .int .i64 x.write.session, .int .i64 x.write.seq] 31 w g) :
    Calls Try.prog 34 #[.pointer (some ⟨g, 0, none⟩)] w fun e w' => e = workE (.bool true) (msgFault x) ∧ Below w.heap.size w w' := by
  have HX := hide hx
  have HL := hide (mustBeMsgC _ x w h)
  clear hx h
  have z0 : w.cell? ⟨g, 0, none⟩ = some (.int .i64 x.kind) := (unhide HX).at 0 _ rfl
  have z1 : w.cell? ⟨g, 1, none⟩ = some (.int .i64 x.epoch) := (unhide HX).at 1 _ rfl
  have z2 : w.cell? ⟨g, 2, none⟩ = some (.int .i64 x.src) := (unhide HX).at 2 _ rfl
  have z3 : w.cell? ⟨g, 3, none⟩ = some (.int .i64 x.dst) := (unhide HX).at 3 _ rfl
  have z4 : w.cell? ⟨g, 4, none⟩ = some (.int .i64 x.index) := (unhide HX).at 4 _ rfl
  have z5 : w.cell? ⟨g, 5, none⟩ = some (.int .i64 x.write.kind) := (unhide HX).at 5 _ rfl
  have z6 : w.cell? ⟨g, 6, none⟩ = some (.int .i64 x.write.id) := (unhide HX).at 6 _ rfl
  have z7 : w.cell? ⟨g, 7, none⟩ = some (.slice a x.write.vec.length d) := (unhide HX).at 7 _ rfl
  have z8 : w.cell? ⟨g, 8, none⟩ = some (.int .i64 x.write.session) := (unhide HX).at 8 _ rfl
  have z9 : w.cell? ⟨g, 9, none⟩ = some (.int .i64 x.write.seq) := (unhide HX).at 9 _ rfl
  go_enter Try.func34, Try.ntmps34
  go_wp2_with fail
  refine (unhide HL).mono ?_
  rintro e W2 ⟨he, hb⟩
  have HB := hide hb
  clear hb HL z0 z1 z2 z3 z4 z5 z6 z7 z8 z9
  by_cases hf : msgFault x = 0
  · rw [wrongE_ok hf] at he
    subst he
    have HF := hide hf
    clear hf
    go_wp2_with fail
    go_ret
    exact ⟨(workE_ok (unhide HF)).symm, unhide HB⟩
  · rw [wrongE_bad hf] at he
    subst he
    have HF := hide hf
    clear hf
    go_wp2_with fail
    exact ⟨rfl, (workE_bad (unhide HF)).symm, unhide HB⟩
set_option maxRecDepth 10000 in
set_option maxHeartbeats 1000000 in
theorem implMsgFault (cs : List Value) (x : DMsg) (w : World) (h : Lay.tMsg.Reads w cs x) :
    Calls Try.prog 11 #[.agg cs.toArray] w fun e w' => e = .returned (.int .i64 (msgFault x)) ∧ Below w.heap.size w w' := by
  have hmf : ∀ (fn : Fn) (first cap : Array Value) (w : World), (Instr.makeFunc fn first cap).run Try.prog w = .ok (.func fn first cap) w := fun _ _ _ _ => rfl
  obtain ⟨a, d, rfl, -⟩ := open_Msg h
  have nb : Below w.heap.size w (w.alloc (.cells #[.int .i64 x.kind, .int .i64 x.epoch, .int .i64 x.src, .int .i64 x.dst, .int .i64 x.index, .int .i64 x.write.kind, .int .i64 x.write.id, .slice a x.write.vec.length d, .int .i64 x.write.session, .int .i64 x.write.seq] 31)) := (Below.refl _ _).alloc (Nat.le_refl _) _
  have HR := hide (h.later nb)
  have HB := hide nb
  have HX : Hid (Box 0 #[.int .i64 x.kind, .int .i64 x.epoch, .int .i64 x.src, .int .i64 x.dst, .int .i64 x.index, .int .i64 x.write.kind, .int .i64 x.write.id, .slice a x.write.vec.length d, .int .i64 x.write.session, .int .i64 x.write.seq] 31 (w.alloc (.cells #[.int .i64 x.kind, .int .i64 x.epoch, .int .i64 x.src, .int .i64 x.dst, .int .i64 x.index, .int .i64 x.write.kind, .int .i64 x.write.id, .slice a x.write.vec.length d, .int .i64 x.write.session, .int .i64 x.write.seq] 31)) w.heap.size) := newBox (Nat.zero_le _)
  clear h nb
  go_enter Try.func11, Try.ntmps11
  go_upto_region 1 with fail
  generalize w.alloc (.cells #[.int .i64 x.kind, .int .i64 x.epoch, .int .i64 x.src, .int .i64 x.dst, .int .i64 x.index, .int .i64 x.write.kind, .int .i64 x.write.id, .slice a x.write.vec.length d, .int .i64 x.write.session, .int .i64 x.write.seq] 31) = W1 at *
  have nb : Below W1.heap.size W1 (W1.alloc (.cells #[.int .i64 0] 2)) := (Below.refl _ _).alloc (Nat.le_refl _) _
  have HW := hide (msgFaultWork a d x w.heap.size _ ((unhide HR).later nb) ((unhide HX).keep nb))
  have hz : (W1.alloc (.cells #[.int .i64 0] 2)).heap.size = W1.heap.size + 1 := by simp
  have HZ := hide hz
  clear nb hz
  by_cases hf : msgFault x = 0
  · have HL := hide (faced_ok_bool 34 #[.pointer (some ⟨w.heap.size, 0, none⟩)] W1 (fun v _ => v = .bool true) (fun _ => by rfl) ((unhide HW).mono (by
      rintro e w' ⟨he, hb⟩
      rw [workE_ok hf] at he
      rw [unhide HZ] at hb
      exact ⟨_, he, rfl, hb⟩)))
    have HF := hide hf
    clear hf HW HZ
    go_wp2_with fail
    refine (unhide HL).mono ?_
    rintro e W2 ⟨v, W3, rfl, rfl, hW, hb, -⟩
    replace HB := hide ((unhide HB).trans (hb.mono (unhide HB).size))
    clear hW hb HL
    go_wp2_with fail
    go_ret
    exact ⟨by rw [unhide HF]; rfl, unhide HB⟩
  · have HL := hide (faced_bad_bool 34 #[.pointer (some ⟨w.heap.size, 0, none⟩)] (msgFault x) W1 (fun _ => by rfl) ((unhide HW).mono (by
      rintro e w' ⟨he, hb⟩
      rw [workE_bad hf] at he
      rw [unhide HZ] at hb
      exact ⟨he, hb⟩)))
    clear hf HW HZ
    go_wp2_with fail
    refine (unhide HL).mono ?_
    rintro e W2 ⟨rfl, hb⟩
    replace HB := hide ((unhide HB).trans (hb.mono (unhide HB).size))
    clear hb HL
    go_wp2_with fail
    go_ret
    exact ⟨rfl, unhide HB⟩
set_option maxRecDepth 10000 in
theorem netFaultWork (v : Value) (xs : List DMsg) (g : Nat) (w : World) (h : (Lay.sl Lay.tMsg).Reads w [v] xs) (hx : Box 0 #[v] 38 w g) :
    Calls Try.prog 38 #[.pointer (some ⟨g, 0, none⟩)] w fun e w' => e = workE (.bool true) (netFault xs) ∧ Below w.heap.size w w' := by
  have HL := hide (mustBeNetC v xs w h)
  obtain ⟨ao, cap, rfl⟩ := open_sl h
  have HX := hide hx
  clear hx h
  have z0 : w.cell? ⟨g, 0, none⟩ = some (.slice ao xs.length cap) := (unhide HX).at 0 _ rfl
  go_enter Try.func38, Try.ntmps38
  go_wp2_with fail
  refine (unhide HL).mono ?_
  rintro e W2 ⟨he, hb⟩
  have HB := hide hb
  clear hb HL z0
  by_cases hf : netFault xs = 0
  · rw [wrongE_ok hf] at he
    subst he
    have HF := hide hf
    clear hf
    go_wp2_with fail
    go_ret
    exact ⟨(workE_ok (unhide HF)).symm, unhide HB⟩
  · rw [wrongE_bad hf] at he
    subst he
    have HF := hide hf
    clear hf
    go_wp2_with fail
    exact ⟨rfl, (workE_bad (unhide HF)).symm, unhide HB⟩
set_option maxRecDepth 10000 in
set_option maxHeartbeats 1000000 in
theorem implNetFault (v : Value) (xs : List DMsg) (w : World) (h : (Lay.sl Lay.tMsg).Reads w [v] xs) :
    Calls Try.prog 16 #[v] w fun e w' => e = .returned (.int .i64 (netFault xs)) ∧ Below w.heap.size w w' := by
  have hmf : ∀ (fn : Fn) (first cap : Array Value) (w : World), (Instr.makeFunc fn first cap).run Try.prog w = .ok (.func fn first cap) w := fun _ _ _ _ => rfl
  obtain ⟨ao, cap, rfl⟩ := open_sl h
  have nb : Below w.heap.size w (w.alloc (.cells #[.slice ao xs.length cap] 38)) := (Below.refl _ _).alloc (Nat.le_refl _) _
  have HR := hide (h.later nb)
  have HB := hide nb
  have HX : Hid (Box 0 #[.slice ao xs.length cap] 38 (w.alloc (.cells #[.slice ao xs.length cap] 38)) w.heap.size) := newBox (Nat.zero_le _)
  clear h nb
  go_enter Try.func16, Try.ntmps16
  go_upto_region 1 with fail
  generalize w.alloc (.cells #[.slice ao xs.length cap] 38) = W1 at *
  have nb : Below W1.heap.size W1 (W1.alloc (.cells #[.int .i64 0] 2)) := (Below.refl _ _).alloc (Nat.le_refl _) _
  have HW := hide (netFaultWork _ xs w.heap.size _ ((unhide HR).later nb) ((unhide HX).keep nb))
  have hz : (W1.alloc (.cells #[.int .i64 0] 2)).heap.size = W1.heap.size + 1 := by simp
  have HZ := hide hz
  clear nb hz
  by_cases hf : netFault xs = 0
  · have HL := hide (faced_ok_bool 38 #[.pointer (some ⟨w.heap.size, 0, none⟩)] W1 (fun v _ => v = .bool true) (fun _ => by rfl) ((unhide HW).mono (by
      rintro e w' ⟨he, hb⟩
      rw [workE_ok hf] at he
      rw [unhide HZ] at hb
      exact ⟨_, he, rfl, hb⟩)))
    have HF := hide hf
    clear hf HW HZ
    go_wp2_with fail
    refine (unhide HL).mono ?_
    rintro e W2 ⟨v, W3, rfl, rfl, hW, hb, -⟩
    replace HB := hide ((unhide HB).trans (hb.mono (unhide HB).size))
    clear hW hb HL
    go_wp2_with fail
    go_ret
    exact ⟨by rw [unhide HF]; rfl, unhide HB⟩
  · have HL := hide (faced_bad_bool 38 #[.pointer (some ⟨w.heap.size, 0, none⟩)] (netFault xs) W1 (fun _ => by rfl) ((unhide HW).mono (by
      rintro e w' ⟨he, hb⟩
      rw [workE_bad hf] at he
      rw [unhide HZ] at hb
      exact ⟨he, hb⟩)))
    clear hf HW HZ
    go_wp2_with fail
    refine (unhide HL).mono ?_
    rintro e W2 ⟨rfl, hb⟩
    replace HB := hide ((unhide HB).trans (hb.mono (unhide HB).size))
    clear hb HL
    go_wp2_with fail
    go_ret
    exact ⟨rfl, unhide HB⟩
end Go.Proofs.Ytkmfkaljdngigaa

namespace Go.Proofs.Ytkmfkaljdngigaa
open Go.RowKit

set_option maxRecDepth 10000 in
set_option maxHeartbeats 4000000 in
theorem countToC (v : Value) (xs : List DMsg) (z : Int) (w : World) (h : (Lay.sl Lay.tMsg).Reads w [v] xs) :
    Calls Try.prog 53 #[v, .int .i64 z] w fun e w' => e = workE (.int .i64 (countM xs z : Nat)) (netFault xs) ∧ Below w.heap.size w w' := by
  have hbig := h.big
  have HL := hide (mustBeNetC v xs w h)
  obtain ⟨ao, cap, rfl⟩ := open_sl h
  have H := hide h
  clear h
  go_enter Try.func53, Try.ntmps53
  go_wp2_with fail
  refine (unhide HL).mono ?_
  rintro e W1 ⟨he, hb⟩
  have HB := hide hb
  clear hb HL
  by_cases hf : netFault xs = 0
  · rw [wrongE_ok hf] at he
    subst he
    have hlen := (netFault_zero hf).1
    have HE : Hid (workE (.int .i64 (countM xs z : Nat)) (netFault xs) = .returned (.int .i64 (countM xs z : Nat))) := workE_ok hf
    clear hf
    go_wp2_with fail
    go_loopw [5, 12] (fun n i wr => ∃ k : Nat, k ≤ xs.length ∧ i = .int .i64 k ∧ n = .int .i64 (countM (xs.take k) z : Nat) ∧ Below w.heap.size w wr) (fun _ i _ => xs.length - (intOf i).toNat)
    case atStart => exact ⟨0, Nat.zero_le _, rfl, rfl, unhide HB⟩
    case round =>
      obtain ⟨k, hk, rfl, rfl, hB⟩ := hrel
      clear HB
      by_cases hlt : k < xs.length
      · obtain ⟨b, off, rfl, hbl⟩ := Lay.sl_addr (unhide H) (by omega)
        obtain ⟨row, hc, hr⟩ := Lay.row_at (unhide H) hlt
        have hdl : decide ((k : Int) < (xs.length : Int)) = true := by simp; omega
        obtain ⟨a, d, rfl, -⟩ := open_Msg hr
        have c0 : wr.cell? ⟨b, off + k * 10, none⟩ = some (.int .i64 (xs[k]).kind) := (hB.cell (p := ⟨b, off + k * 10, none⟩) hbl).trans (hc 0 (by decide))
        have c1 : wr.cell? ⟨b, off + k * 10 + 1, none⟩ = some (.int .i64 (xs[k]).epoch) := (hB.cell (p := ⟨b, off + k * 10 + 1, none⟩) hbl).trans (hc 1 (by decide))
        have c2 : wr.cell? ⟨b, off + k * 10 + 2, none⟩ = some (.int .i64 (xs[k]).src) := (hB.cell (p := ⟨b, off + k * 10 + 2, none⟩) hbl).trans (hc 2 (by decide))
        have c3 : wr.cell? ⟨b, off + k * 10 + 3, none⟩ = some (.int .i64 (xs[k]).dst) := (hB.cell (p := ⟨b, off + k * 10 + 3, none⟩) hbl).trans (hc 3 (by decide))
        have c4 : wr.cell? ⟨b, off + k * 10 + 4, none⟩ = some (.int .i64 (xs[k]).index) := (hB.cell (p := ⟨b, off + k * 10 + 4, none⟩) hbl).trans (hc 4 (by decide))
        have c5 : wr.cell? ⟨b, off + k * 10 + 5, none⟩ = some (.int .i64 (xs[k]).write.kind) := (hB.cell (p := ⟨b, off + k * 10 + 5, none⟩) hbl).trans (hc 5 (by decide))
        have c6 : wr.cell? ⟨b, off + k * 10 + 6, none⟩ = some (.int .i64 (xs[k]).write.id) := (hB.cell (p := ⟨b, off + k * 10 + 6, none⟩) hbl).trans (hc 6 (by decide))
        have c7 : wr.cell? ⟨b, off + k * 10 + 7, none⟩ = some (.slice a (xs[k]).write.vec.length d) := (hB.cell (p := ⟨b, off + k * 10 + 7, none⟩) hbl).trans (hc 7 (by decide))
        have c8 : wr.cell? ⟨b, off + k * 10 + 8, none⟩ = some (.int .i64 (xs[k]).write.session) := (hB.cell (p := ⟨b, off + k * 10 + 8, none⟩) hbl).trans (hc 8 (by decide))
        have c9 : wr.cell? ⟨b, off + k * 10 + 9, none⟩ = some (.int .i64 (xs[k]).write.seq) := (hB.cell (p := ⟨b, off + k * 10 + 9, none⟩) hbl).trans (hc 9 (by decide))
        have hst := countM_step xs z k hlt
        have hle := countM_le (xs.take k) z
        rw [List.length_take] at hle
        have hle2 : countM (xs.take k) z ≤ 40 := by omega
        have HST := hide hst
        have HB := hide hB
        clear hr hB hc hst hle
        generalize hx : xs[k] = x at *
        generalize countM (xs.take k) z = m at *
        clear hx
        have nb : Below wr.heap.size wr (wr.alloc (.cells #[.int .i64 x.kind, .int .i64 x.epoch, .int .i64 x.src, .int .i64 x.dst, .int .i64 x.index, .int .i64 x.write.kind, .int .i64 x.write.id, .slice a x.write.vec.length d, .int .i64 x.write.session, .int .i64 x.write.seq] 31)) := (Below.refl _ _).alloc (Nat.le_refl _) _
        replace HB := hide ((unhide HB).trans (nb.mono (unhide HB).size))
        clear nb
        cases e1 : (x.dst == z)
        · have HN : Hid (countM (xs.take (k + 1)) z = m) := by have q := unhide HST; rw [e1] at q; exact q
          clear HST
          go_wp2_with fail
          go_roundw
          case rel => exact ⟨k + 1, by omega, by go_num, by rw [unhide HN], unhide HB⟩
          case measure => simp [intOf]; omega
        · have HN : Hid (countM (xs.take (k + 1)) z = m + 1) := by have q := unhide HST; rw [e1] at q; exact q
          clear HST
          go_wp2_with fail
          go_roundw
          case rel => exact ⟨k + 1, by omega, by go_num, by rw [unhide HN]; go_num, unhide HB⟩
          case measure => simp [intOf]; omega
      · obtain rfl : k = xs.length := by omega
        have hdl : decide ((xs.length : Int) < (xs.length : Int)) = false := by simp
        rw [List.take_length]
        have HB := hide hB
        clear hB
        go_wp2_with fail
        go_ret
        exact ⟨(unhide HE).symm, unhide HB⟩
  · rw [wrongE_bad hf] at he
    subst he
    have HF := hide hf
    clear hf
    go_wp2_with fail
    exact ⟨rfl, (workE_bad (unhide HF)).symm, unhide HB⟩
set_option maxRecDepth 10000 in
theorem countWork (v : Value) (xs : List DMsg) (z : Int) (g g2 : Nat) (w : World) (h : (Lay.sl Lay.tMsg).Reads w [v] xs) (hx : Box 0 #[v] 38 w g) (hx2 : Box 0 #[.int .i64 z] 2 w g2) :
    Calls Try.prog 52 #[.pointer (some ⟨g, 0, none⟩), .pointer (some ⟨g2, 0, none⟩)] w fun e w' => e = workE (.int .i64 (countM xs z : Nat)) (netFault xs) ∧ Below w.heap.size w w' := by
  have HL := hide (countToC v xs z w h)
  obtain ⟨ao, cap, rfl⟩ := open_sl h
  have z0 : w.cell? ⟨g, 0, none⟩ = some (.slice ao xs.length cap) := hx.at 0 _ rfl
  have z1 : w.cell? ⟨g2, 0, none⟩ = some (.int .i64 z) := hx2.at 0 _ rfl
  clear hx h hx2
  go_enter Try.func52, Try.ntmps52
  go_wp2_with fail
  refine (unhide HL).mono ?_
  rintro e W2 ⟨he, hb⟩
  have HB := hide hb
  clear hb HL z0 z1
  by_cases hf : netFault xs = 0
  · rw [workE_ok hf] at he
    subst he
    have HF := hide hf
    clear hf
    go_wp2_with fail
    go_ret
    exact ⟨(workE_ok (unhide HF)).symm, unhide HB⟩
  · rw [workE_bad hf] at he
    subst he
    have HF := hide hf
    clear hf
    go_wp2_with fail
    exact ⟨rfl, (workE_bad (unhide HF)).symm, unhide HB⟩
set_option maxRecDepth 10000 in
set_option maxHeartbeats 1000000 in
theorem implCountMsgs (v : Value) (xs : List DMsg) (z : Int) (w : World) (h : (Lay.sl Lay.tMsg).Reads w [v] xs) :
    Calls Try.prog 28 #[v, .int .i64 z] w fun e w' => ∃ cs, e = .returned (.agg cs.toArray) ∧ Lay.tIntResult.OwnIn w' cs (countR xs z) w.heap.size w'.heap.size ∧ Below w.heap.size w w' := by
  have hmf : ∀ (fn : Fn) (first cap : Array Value) (w : World), (Instr.makeFunc fn first cap).run Try.prog w = .ok (.func fn first cap) w := fun _ _ _ _ => rfl
  obtain ⟨ao, cap, rfl⟩ := open_sl h
  have nb1 : Below w.heap.size w (w.alloc (.cells #[.slice ao xs.length cap] 38)) := (Below.refl _ _).alloc (Nat.le_refl _) _
  have x1 : Box 0 #[.slice ao xs.length cap] 38 (w.alloc (.cells #[.slice ao xs.length cap] 38)) w.heap.size := newBox (Nat.zero_le _)
  have s1 : (w.alloc (.cells #[.slice ao xs.length cap] 38)).heap.size = w.heap.size + 1 := by simp
  have R1 := h.later nb1
  generalize hA1 : w.alloc (.cells #[.slice ao xs.length cap] 38) = A1 at *
  have nb2 : Below A1.heap.size A1 (A1.alloc (.cells #[.int .i64 z] 2)) := (Below.refl _ _).alloc (Nat.le_refl _) _
  have x2 : Box 0 #[.int .i64 z] 2 (A1.alloc (.cells #[.int .i64 z] 2)) A1.heap.size := newBox (Nat.zero_le _)
  have s2 : (A1.alloc (.cells #[.int .i64 z] 2)).heap.size = A1.heap.size + 1 := by simp
  replace x1 := x1.keep nb2
  have R2 := R1.later nb2
  generalize hA2 : A1.alloc (.cells #[.int .i64 z] 2) = A2 at *
  have nb3 : Below A2.heap.size A2 (A2.alloc (.cells #[.int .i64 0, .int .i64 0] 53)) := (Below.refl _ _).alloc (Nat.le_refl _) _
  have x3 : Box 0 #[.int .i64 0, .int .i64 0] 53 (A2.alloc (.cells #[.int .i64 0, .int .i64 0] 53)) A2.heap.size := newBox (Nat.zero_le _)
  have s3 : (A2.alloc (.cells #[.int .i64 0, .int .i64 0] 53)).heap.size = A2.heap.size + 1 := by simp
  replace x1 := x1.keep nb3
  replace x2 := x2.keep nb3
  have R3 := R2.later nb3
  have B3 : Below w.heap.size w (A2.alloc (.cells #[.int .i64 0, .int .i64 0] 53)) := (nb1.trans (nb2.mono (by omega))).trans (nb3.mono (by omega))
  have HB := hide B3
  rw [s2, s1] at s3 x3
  rw [s1] at x2
  have HX1 := hide x1
  have HX2 := hide x2
  have HX3 := hide x3
  have HR := hide R3
  subst hA2
  subst hA1
  clear nb1 nb2 nb3 x1 x2 x3 R1 R2 R3 B3 s1 s2 h
  go_enter Try.func28, Try.ntmps28
  go_upto_region 1 with fail
  generalize ((w.alloc (.cells #[.slice ao xs.length cap] 38)).alloc (.cells #[.int .i64 z] 2)).alloc (.cells #[.int .i64 0, .int .i64 0] 53) = W1 at *
  have nb : Below W1.heap.size W1 (W1.alloc (.cells #[.int .i64 0] 2)) := (Below.refl _ _).alloc (Nat.le_refl _) _
  have HW := hide (countWork _ xs z w.heap.size (w.heap.size + 1) _ ((unhide HR).later nb) ((unhide HX1).keep nb) ((unhide HX2).keep nb))
  have hz : (W1.alloc (.cells #[.int .i64 0] 2)).heap.size = W1.heap.size + 1 := by simp
  have HZ := hide hz
  have HS := hide s3
  clear nb hz s3
  by_cases hf : netFault xs = 0
  · have HL := hide (faced_ok_int 52 #[.pointer (some ⟨w.heap.size, 0, none⟩), .pointer (some ⟨w.heap.size + 1, 0, none⟩)] W1 (fun v w' => v = .int .i64 (countM xs z : Nat) ∧ Below (W1.heap.size + 1) (W1.alloc (.cells #[.int .i64 0] 2)) w') (fun _ => by rfl) ((unhide HW).mono (by
      rintro e w' ⟨he, hb⟩
      rw [workE_ok hf] at he
      rw [unhide HZ] at hb
      exact ⟨_, he, ⟨rfl, hb⟩, hb⟩)))
    have HF : Hid (countR xs z = ⟨0, (countM xs z : Nat)⟩) := by show countR xs z = _; rw [countR, if_pos hf]
    have hle := countM_le xs z
    have hlen := (netFault_zero hf).1
    have hle2 : countM xs z ≤ 40 := by omega
    clear hf HW hle hlen
    go_wp2_with fail
    refine (unhide HL).mono ?_
    rintro e W2 ⟨v, W3, rfl, ⟨rfl, -⟩, -, hb, -⟩
    replace HX3 := hide ((unhide HX3).keep hb)
    replace HB := hide ((unhide HB).trans (hb.mono (unhide HB).size))
    generalize countM xs z = m at *
    have z0 : W2.cell? ⟨w.heap.size + 1 + 1, 0, none⟩ = some (.int .i64 0) := (unhide HX3).at 0 _ rfl
    have z1 : W2.cell? ⟨w.heap.size + 1 + 1, 1, none⟩ = some (.int .i64 0) := (unhide HX3).at 1 _ rfl
    have ff := (unhide HX3).soft
    have l0 := (unhide HX3).lt
    have HB2 := hide (below_setAll (unhide HB) (w.heap.size + 1 + 1) 0 [.int .i64 0, .int .i64 (m : Nat)] (by omega))
    clear hb HL HX1 HX2 HX3 HR HB HZ HS
    go_wp2_with fail
    refine bodyPost_ret (v := .agg #[.int .i64 0, .int .i64 (m : Nat)]) (by simp [results, Try.results28, go_sem, z0, z1]) rfl ?_
    rw [unhide HF]
    exact ⟨[_, _], rfl, own_intRM (by decide) (by omega), unhide HB2⟩
  · have HL := hide (faced_bad_int 52 #[.pointer (some ⟨w.heap.size, 0, none⟩), .pointer (some ⟨w.heap.size + 1, 0, none⟩)] (netFault xs) W1 (fun _ => by rfl) ((unhide HW).mono (by
      rintro e w' ⟨he, hb⟩
      rw [workE_bad hf] at he
      rw [unhide HZ] at hb
      exact ⟨he, hb⟩)))
    have HF : Hid (countR xs z = ⟨netFault xs, 0⟩) := by show countR xs z = _; rw [countR, if_neg hf]
    have hv := netFault_vals xs
    clear hf HW HZ HS
    go_wp2_with fail
    refine (unhide HL).mono ?_
    rintro e W2 ⟨rfl, hb⟩
    replace HX3 := hide ((unhide HX3).keep hb)
    replace HB := hide ((unhide HB).trans (hb.mono (unhide HB).size))
    generalize netFault xs = f at *
    have z0 : W2.cell? ⟨w.heap.size + 1 + 1, 0, none⟩ = some (.int .i64 0) := (unhide HX3).at 0 _ rfl
    have z1 : W2.cell? ⟨w.heap.size + 1 + 1, 1, none⟩ = some (.int .i64 0) := (unhide HX3).at 1 _ rfl
    have ff := (unhide HX3).soft
    have l0 := (unhide HX3).lt
    have HB2 := hide (below_setAll (unhide HB) (w.heap.size + 1 + 1) 0 [.int .i64 f, .int .i64 0] (by omega))
    clear hb HL HX1 HX2 HX3 HR HB
    go_wp2_with fail
    refine bodyPost_ret (v := .agg #[.int .i64 f, .int .i64 0]) (by simp [results, Try.results28, go_sem, z0, z1]) rfl ?_
    rw [unhide HF]
    exact ⟨[_, _], rfl, own_intRM (by omega) (by decide), unhide HB2⟩
end Go.Proofs.Ytkmfkaljdngigaa

namespace Go.Proofs.Ytkmfkaljdngigaa
open Go.RowKit

theorem lawCountMsgs (v : Value) (xs : List DMsg) (z : Int) (w : World) (h : (Lay.sl Lay.tMsg).Reads w [v] xs) :
    Calls Try.prog 7 #[v, .int .i64 z] w fun e w' => e = .returned (.bool true) ∧ Below w.heap.size w w' := by
  by_cases hn : (Lay.sl Lay.tMsg).sz xs ≤ 1048576
  · exact lawx_CountMsgs v xs z (countR xs z) w h hn (fun W a ha => (specCountMsgs a xs z W ha).mono (by rintro e w' ⟨cs, h1, h2, h3⟩; exact ⟨cs, h1, h2.reads, h3⟩)) (fun W a ha => implCountMsgs a xs z W ha)
  · exact lawover_CountMsgs v xs z w h (by omega)

end Go.Proofs.Ytkmfkaljdngigaa
