/-
  Texts of this proof in one: ImplNetF, LawNetF.
  Their conditions stand in their theorems.
-/
import Derived.Test.YtkmfkaljdngigaaNf05
import Derived.Test.YtkmfkaljdngigaaNf03

namespace Go.Proofs.Ytkmfkaljdngigaa
open Go.RowKit

theorem msgsFrom_drop {xs : List DMsg} {k : Nat} (hk : k < xs.length) : msgsFrom (xs.drop k) = if msgFault xs[k] = 0 then msgsFrom (xs.drop (k + 1)) else msgFault xs[k] := by
  rw [List.drop_eq_getElem_cons hk, msgsFrom]
set_option maxRecDepth 10000 in
set_option maxHeartbeats 4000000 in
theorem mustBeNetC (v : Value) (xs : List DMsg) (w : World) (h : (Lay.sl Lay.tMsg).Reads w [v] xs) :
    Calls Try.prog 39 #[v] w fun e w' => e = wrongE (netFault xs) ∧ Below w.heap.size w w' := by
  have hbig := h.big
  obtain ⟨ao, cap, rfl⟩ := open_sl h
  have H := hide h
  clear h
  go_enter Try.func39, Try.ntmps39
  cases e1 : decide ((xs.length : Int) ≤ 40)
  · have HF : Hid (netFault xs = 2) := by show netFault xs = 2; rw [netFault, if_pos (by simp at e1; omega)]
    go_wp2_with fail
    refine (mustF 2 _).mono ?_
    rintro e w9 ⟨rfl, h9⟩
    subst w9
    go_wp2_with fail
    exact ⟨rfl, by rw [unhide HF]; rfl, Below.refl _ _⟩
  · have HF : Hid (netFault xs = msgsFrom (xs.drop 0)) := by show netFault xs = _; rw [netFault, if_neg (by simp at e1; omega)]; rfl
    go_wp2_with fail
    refine (mustT 2 _).mono ?_
    rintro e w9 ⟨rfl, h9⟩
    subst w9
    clear e1
    go_wp2_with fail
    go_loopw [10] (fun i wr => ∃ k : Nat, k ≤ xs.length ∧ i = .int .i64 k ∧ netFault xs = msgsFrom (xs.drop k) ∧ Below w.heap.size w wr) (fun i _ => xs.length - (intOf i).toNat)
    case atStart => exact ⟨0, Nat.zero_le _, rfl, unhide HF, Below.refl _ _⟩
    case round =>
      obtain ⟨k, hk, rfl, hF, hB⟩ := hrel
      clear HF
      by_cases hlt : k < xs.length
      · obtain ⟨b, off, rfl, hbl⟩ := Lay.sl_addr (unhide H) (by omega)
        obtain ⟨row, hc, hr⟩ := Lay.row_at (unhide H) hlt
        replace hr := hr.later hB
        rw [msgsFrom_drop hlt] at hF
        have hdl : decide ((k : Int) < (xs.length : Int)) = true := by simp; omega
        obtain ⟨a, d, rfl, -⟩ := open_Msg hr
        have c0 : wr.cell? ⟨b, off + k * 10, none⟩ = some (.int .i64 (xs[k]).kind) := (hB.cell (p := ⟨b, off + k * 10, none⟩) hbl).trans (hc 0 (by decide))
        have c1 : wr.cell? ⟨b, off + k * 10 + 1, none⟩ = some (.int .i64 (xs[k]).epoch) := (hB.cell (p := ⟨b, off + k * 10 + 1, none⟩) hbl).trans (hc 1 (by decide))
        have c2 : wr.cell? ⟨b, off + k * 10 + 2, none⟩ = some (.int .i64 (xs[k]).src) := (hB.cell (p := ⟨b, off + k * 10 + 2, none⟩) hbl).trans (hc 2 (by decide))
        have c3 : wr.cell? ⟨b, off + k * 10 + 3, none⟩ = some (.int .i64 (xs[k]).dst) := (hB.cell (p := ⟨b, off + k * 10 + 3, none⟩) hbl).trans (hc 3 (by decide))
        have c4 : wr.cell? ⟨b, off + k * 10 + 4, none⟩ = some (.int .i64 (xs[k]).index) := (hB.cell (p := ⟨b, off + k * 10 + 4, none⟩) hbl).trans (hc 4 (by decide))
        have c5 : wr.cell? ⟨b, off + k * 10 + 5, none⟩ = some (.int .i64 (xs[k]).write.kind) := (hB.cell (p := ⟨b, off + k * 10 + 5, none⟩) hbl).trans (hc 5 (by decide))
        have c6 : wr.cell? ⟨b, off + k * 10 + 6, none⟩ = some (.int .i64 (xs[k]).write.id) := (hB.cell (p := ⟨b, off + k * 10 + 6, none⟩) hbl).trans (hc 6 (by decide))
        have c7 : wr.cell? ⟨b, off + k * 10 + 7, none⟩ = some (.slice a (xs[k]).write.vec.length d) := (hB.cell (p := ⟨b, off + k * 10 + 7, none⟩) hbl).trans (hc 7 (by decide))
        have c8 : wr.cell? ⟨b, off + k * 10 + 8, none⟩ = some (.int .i64 (xs[k]).write.session) := (hB.cell (p := ⟨b, off + k * 10 + 8, none⟩) hbl).trans (hc 8 (by decide))
        have c9 : wr.cell? ⟨b, off + k * 10 + 9, none⟩ = some (.int .i64 (xs[k]).write.seq) := (hB.cell (p := ⟨b, off + k * 10 + 9, none⟩) hbl).trans (hc 9 (by decide))
        have HF := hide hF
        have HR := hide hr
        have HB := hide hB
        clear hF hr hB hc
        generalize hx : xs[k] = x at *
        clear hx
        have nb : Below wr.heap.size wr (wr.alloc (.cells #[.int .i64 x.kind, .int .i64 x.epoch, .int .i64 x.src, .int .i64 x.dst, .int .i64 x.index, .int .i64 x.write.kind, .int .i64 x.write.id, .slice a x.write.vec.length d, .int .i64 x.write.session, .int .i64 x.write.seq] 31)) := (Below.refl _ _).alloc (Nat.le_refl _) _
        have HL := hide (mustBeMsgC _ x _ ((unhide HR).later nb))
        replace HB := hide ((unhide HB).trans (nb.mono (unhide HB).size))
        clear nb
        go_wp2_with fail
        refine (unhide HL).mono ?_
        generalize wr.alloc (.cells #[.int .i64 x.kind, .int .i64 x.epoch, .int .i64 x.src, .int .i64 x.dst, .int .i64 x.index, .int .i64 x.write.kind, .int .i64 x.write.id, .slice a x.write.vec.length d, .int .i64 x.write.session, .int .i64 x.write.seq] 31) = W1 at *
        rintro e W2 ⟨he, hb⟩
        replace HB := hide ((unhide HB).trans (hb.mono (unhide HB).size))
        clear hb HL c0 c1 c2 c3 c4 c5 c6 c7 c8 c9
        by_cases hf : msgFault x = 0
        · rw [wrongE_ok hf] at he
          subst he
          replace HF := hide ((unhide HF).trans (if_pos hf))
          clear hf
          go_wp2_with fail
          go_roundw
          case rel => exact ⟨k + 1, by omega, by go_num, unhide HF, unhide HB⟩
          case measure => simp [intOf]; omega
        · rw [wrongE_bad hf] at he
          subst he
          replace HF := hide ((unhide HF).trans (if_neg hf))
          have HG := hide hf
          clear hf
          go_wp2_with fail
          exact ⟨rfl, by rw [unhide HF]; exact (wrongE_bad (unhide HG)).symm, unhide HB⟩
      · obtain rfl : k = xs.length := by omega
        rw [List.drop_length] at hF
        have hdl : decide ((xs.length : Int) < (xs.length : Int)) = false := by simp
        have HF := hide hF
        have HB := hide hB
        clear hF hB
        go_wp2_with fail
        go_end0
        exact ⟨by rw [unhide HF]; rfl, unhide HB⟩
set_option maxRecDepth 10000 in
theorem msgFaultWork (a : Option Addr) (d : Nat) (x : DMsg) (g : Nat) (w : World) (h : Lay.tMsg.Reads w [.int .i64 x.kind, .int .i64 x.epoch, .int .i64 x.src, .int .i64 x.dst, .int .i64 x.index, .int .i64 x.write.kind, .int .i64 x.write.id, .slice a x.write.vec.length d, .int .i64 x.write.session, .int .i64 x.write.seq] x) (hx : Box 0 #[.int .i64 x.kind, .int .i64 x.epoch, .int .i64 x.src, .int .i64 x.dst, .int .i64 x.index, .int .i64 x.write.kind, .int .i64 x.write.id, .slice a x.write.vec.length d, .int .i64 x.write.session, .int .i64 x.write.seq] 31 w g) :
    Calls Try.prog 34 #[.pointer (some ⟨g, 0, none⟩)] w fun e w' => e = workE (.bool true) (msgFault x) ∧ Below w.heap.size w w' := by
  have HX := hide hx
  have HL := hide (mustBeMsgC _ x w h)
  clear hx h
  have z0 : w.cell? ⟨g, 0, none⟩ = some (.int .i64 x.kind) := (unhide HX).at 0 _ rfl
  have z1 : w.cell? ⟨g, 1, none⟩ = some (.int .i64 x.epoch) := (unhide HX).at 1 _ rfl
  have z2 : w.cell? ⟨g, 2, none⟩ = some (.int .i64 x.src) := (unhide HX).at 2 _ rfl
  have z3 : w.cell? ⟨g, 3, none⟩ = some (.int .i64 x.dst) := (unhide HX).at 3 _ rfl
  have z4 : w.cell? ⟨g, 4, none⟩ = some (.int .i64 x.index) := (unhide HX).at 4 _ rfl
  have z5 : w.cell? ⟨g, 5, none⟩ = some (.int .i64 x.write.kind) := (unhide HX).at 5 _ rfl
  have z6 : w.cell? ⟨g, 6, none⟩ = some (.int .i64 x.write.id) := (unhide HX).at 6 _ rfl
  have z7 : w.cell? ⟨g, 7, none⟩ = some (.slice a x.write.vec.length d) := (unhide HX).at 7 _ rfl
  have z8 : w.cell? ⟨g, 8, none⟩ = some (.int .i64 x.write.session) := (unhide HX).at 8 _ rfl
  have z9 : w.cell? ⟨g, 9, none⟩ = some (.int .i64 x.write.seq) := (unhide HX).at 9 _ rfl
  go_enter Try.func34, Try.ntmps34
  go_wp2_with fail
  refine (unhide HL).mono ?_
  rintro e W2 ⟨he, hb⟩
  have HB := hide hb
  clear hb HL z0 z1 z2 z3 z4 z5 z6 z7 z8 z9
  by_cases hf : msgFault x = 0
  · rw [wrongE_ok hf] at he
    subst he
    have HF := hide hf
    clear hf
    go_wp2_with fail
    go_ret
    exact ⟨(workE_ok (unhide HF)).symm, unhide HB⟩
  · rw [wrongE_bad hf] at he
    subst he
    have HF := hide hf
    clear hf
    go_wp2_with fail
    exact ⟨rfl, (workE_bad (unhide HF)).symm, unhide HB⟩
set_option maxRecDepth 10000 in
set_option maxHeartbeats 1000000 in
theorem implMsgFault (cs : List Value) (x : DMsg) (w : World) (h : Lay.tMsg.Reads w cs x) :
    Calls Try.prog 11 #[.agg cs.toArray] w fun e w' => e = .returned (.int .i64 (msgFault x)) ∧ Below w.heap.size w w' := by
  have hmf : ∀ (fn : Fn) (first cap : Array Value) (w : World), (Instr.makeFunc fn first cap).run Try.prog w = .ok (.func fn first cap) w := fun _ _ _ _ => rfl
  obtain ⟨a, d, rfl, -⟩ := open_Msg h
  have nb : Below w.heap.size w (w.alloc (.cells #[.int .i64 x.kind, .int .i64 x.epoch, .int .i64 x.src, .int .i64 x.dst, .int .i64 x.index, .int .i64 x.write.kind, .int .i64 x.write.id, .slice a x.write.vec.length d, .int .i64 x.write.session, .int .i64 x.write.seq] 31)) := (Below.refl _ _).alloc (Nat.le_refl _) _
  have HR := hide (h.later nb)
  have HB := hide nb
  have HX : Hid (Box 0 #[.int .i64 x.kind, .int .i64 x.epoch, .int .i64 x.src, .int .i64 x.dst, .int .i64 x.index, .int .i64 x.write.kind, .int .i64 x.write.id, .slice a x.write.vec.length d, .int .i64 x.write.session, .int .i64 x.write.seq] 31 (w.alloc (.cells #[.int .i64 x.kind, .int .i64 x.epoch, .int .i64 x.src, .int .i64 x.dst, .int .i64 x.index, .int .i64 x.write.kind, .int .i64 x.write.id, .slice a x.write.vec.length d, .int .i64 x.write.session, .int .i64 x.write.seq] 31)) w.heap.size) := newBox (Nat.zero_le _)
  clear h nb
  go_enter Try.func11, Try.ntmps11
  go_upto_region 1 with fail
  generalize w.alloc (.cells #[.int .i64 x.kind, .int .i64 x.epoch, .int .i64 x.src, .int .i64 x.dst, .int .i64 x.index, .int .i64 x.write.kind, .int .i64 x.write.id, .slice a x.write.vec.length d, .int .i64 x.write.session, .int .i64 x.write.seq] 31) = W1 at *
  have nb : Below W1.heap.size W1 (W1.alloc (.cells #[.int .i64 0] 2)) := (Below.refl _ _).alloc (Nat.le_refl _) _
  have HW := hide (msgFaultWork a d x w.heap.size _ ((unhide HR).later nb) ((unhide HX).keep nb))
  have hz : (W1.alloc (.cells #[.int .i64 0] 2)).heap.size = W1.heap.size + 1 := by simp
  have HZ := hide hz
  clear nb hz
  by_cases hf : msgFault x = 0
  · have HL := hide (faced_ok_bool 34 #[.pointer (some ⟨w.heap.size, 0, none⟩)] W1 (fun v _ => v = .bool true) (fun _ => by rfl) ((unhide HW).mono (by
      rintro e w' ⟨he, hb⟩
      rw [workE_ok hf] at he
      rw [unhide HZ] at hb
      exact ⟨_, he, rfl, hb⟩)))
    have HF := hide hf
    clear hf HW HZ
    go_wp2_with fail
    refine (unhide HL).mono ?_
    rintro e W2 ⟨v, W3, rfl, rfl, hW, hb, -⟩
    replace HB := hide ((unhide HB).trans (hb.mono (unhide HB).size))
    clear hW hb HL
    go_wp2_with fail
    go_ret
    exact ⟨by rw [unhide HF]; rfl, unhide HB⟩
  · have HL := hide (faced_bad_bool 34 #[.pointer (some ⟨w.heap.size, 0, none⟩)] (msgFault x) W1 (fun _ => by rfl) ((unhide HW).mono (by
      rintro e w' ⟨he, hb⟩
      rw [workE_bad hf] at he
      rw [unhide HZ] at hb
      exact ⟨he, hb⟩)))
    clear hf HW HZ
    go_wp2_with fail
    refine (unhide HL).mono ?_
    rintro e W2 ⟨rfl, hb⟩
    replace HB := hide ((unhide HB).trans (hb.mono (unhide HB).size))
    clear hb HL
    go_wp2_with fail
    go_ret
    exact ⟨rfl, unhide HB⟩
set_option maxRecDepth 10000 in
theorem netFaultWork (v : Value) (xs : List DMsg) (g : Nat) (w : World) (h : (Lay.sl Lay.tMsg).Reads w [v] xs) (hx : Box 0 #[v] 38 w g) :
    Calls Try.prog 38 #[.pointer (some ⟨g, 0, none⟩)] w fun e w' => e = workE (.bool true) (netFault xs) ∧ Below w.heap.size w w' := by
  have HL := hide (mustBeNetC v xs w h)
  obtain ⟨ao, cap, rfl⟩ := open_sl h
  have HX := hide hx
  clear hx h
  have z0 : w.cell? ⟨g, 0, none⟩ = some (.slice ao xs.length cap) := (unhide HX).at 0 _ rfl
  go_enter Try.func38, Try.ntmps38
  go_wp2_with fail
  refine (unhide HL).mono ?_
  rintro e W2 ⟨he, hb⟩
  have HB := hide hb
  clear hb HL z0
  by_cases hf : netFault xs = 0
  · rw [wrongE_ok hf] at he
    subst he
    have HF := hide hf
    clear hf
    go_wp2_with fail
    go_ret
    exact ⟨(workE_ok (unhide HF)).symm, unhide HB⟩
  · rw [wrongE_bad hf] at he
    subst he
    have HF := hide hf
    clear hf
    go_wp2_with fail
    exact ⟨rfl, (workE_bad (unhide HF)).symm, unhide HB⟩
set_option maxRecDepth 10000 in
set_option maxHeartbeats 1000000 in
theorem implNetFault (v : Value) (xs : List DMsg) (w : World) (h : (Lay.sl Lay.tMsg).Reads w [v] xs) :
    Calls Try.prog 16 #[v] w fun e w' => e = .returned (.int .i64 (netFault xs)) ∧ Below w.heap.size w w' := by
  have hmf : ∀ (fn : Fn) (first cap : Array Value) (w : World), (Instr.makeFunc fn first cap).run Try.prog w = .ok (.func fn first cap) w := fun _ _ _ _ => rfl
  obtain ⟨ao, cap, rfl⟩ := open_sl h
  have nb : Below w.heap.size w (w.alloc (.cells #[.slice ao xs.length cap] 38)) := (Below.refl _ _).alloc (Nat.le_refl _) _
  have HR := hide (h.later nb)
  have HB := hide nb
  have HX : Hid (Box 0 #[.slice ao xs.length cap] 38 (w.alloc (.cells #[.slice ao xs.length cap] 38)) w.heap.size) := newBox (Nat.zero_le _)
  clear h nb
  go_enter Try.func16, Try.ntmps16
  go_upto_region 1 with fail
  generalize w.alloc (.cells #[.slice ao xs.length cap] 38) = W1 at *
  have nb : Below W1.heap.size W1 (W1.alloc (.cells #[.int .i64 0] 2)) := (Below.refl _ _).alloc (Nat.le_refl _) _
  have HW := hide (netFaultWork _ xs w.heap.size _ ((unhide HR).later nb) ((unhide HX).keep nb))
  have hz : (W1.alloc (.cells #[.int .i64 0] 2)).heap.size = W1.heap.size + 1 := by simp
  have HZ := hide hz
  clear nb hz
  by_cases hf : netFault xs = 0
  · have HL := hide (faced_ok_bool 38 #[.pointer (some ⟨w.heap.size, 0, none⟩)] W1 (fun v _ => v = .bool true) (fun _ => by rfl) ((unhide HW).mono (by
      rintro e w' ⟨he, hb⟩
      rw [workE_ok hf] at he
      rw [unhide HZ] at hb
      exact ⟨_, he, rfl, hb⟩)))
    have HF := hide hf
    clear hf HW HZ
    go_wp2_with fail
    refine (unhide HL).mono ?_
    rintro e W2 ⟨v, W3, rfl, rfl, hW, hb, -⟩
    replace HB := hide ((unhide HB).trans (hb.mono (unhide HB).size))
    clear hW hb HL
    go_wp2_with fail
    go_ret
    exact ⟨by rw [unhide HF]; rfl, unhide HB⟩
  · have HL := hide (faced_bad_bool 38 #[.pointer (some ⟨w.heap.size, 0, none⟩)] (netFault xs) W1 (fun _ => by rfl) ((unhide HW).mono (by
      rintro e w' ⟨he, hb⟩
      rw [workE_bad hf] at he
      rw [unhide HZ] at hb
      exact ⟨he, hb⟩)))
    clear hf HW HZ
    go_wp2_with fail
    refine (unhide HL).mono ?_
    rintro e W2 ⟨rfl, hb⟩
    replace HB := hide ((unhide HB).trans (hb.mono (unhide HB).size))
    clear hb HL
    go_wp2_with fail
    go_ret
    exact ⟨rfl, unhide HB⟩
end Go.Proofs.Ytkmfkaljdngigaa

namespace Go.Proofs.Ytkmfkaljdngigaa
open Go.RowKit

theorem lawNetFault (v : Value) (xs : List DMsg) (w : World) (h : (Lay.sl Lay.tMsg).Reads w [v] xs) :
    Calls Try.prog 4 #[v] w fun e w' => e = .returned (.bool true) ∧ Below w.heap.size w w' := by
  by_cases hn : (Lay.sl Lay.tMsg).sz xs ≤ 1048576
  · exact lawx_NetFault v xs (netFault xs) w h hn (fun W a ha => specNetFault a xs W ha) (fun W a ha => implNetFault a xs W ha)
  · exact lawover_NetFault v xs w h (by omega)

end Go.Proofs.Ytkmfkaljdngigaa
