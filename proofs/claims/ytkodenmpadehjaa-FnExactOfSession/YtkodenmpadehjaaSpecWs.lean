/-
  The model's l4Writes: what is wrong with some writes.
  No condition.
-/
import Derived.Test.YtkodenmpadehjaaApplyPlain
import Derived.Test.YtkodenmpadehjaaWrFault
namespace Go.Proofs.Ytkodenmpadehjaa
open Go.RowKit

set_option maxRecDepth 10000 in
set_option maxHeartbeats 1000000 in
theorem specWrites_pos (b off cap : Nat) (ws : List DWrite) (w : World) (h : (Lay.sl Lay.tWrite).Reads w [.slice (some ⟨b, off, none⟩) ws.length cap] ws) (hbl : b < w.heap.size) (hn : ws.length ≤ 200) :
    Calls Try.prog 33 #[.slice (some ⟨b, off, none⟩) ws.length cap] w fun e w' => e = .returned (.int .i64 (writesF ws)) ∧ w' = w := by
  have HW : Hid (writesF ws = wsFrom ws) := by show writesF ws = wsFrom ws; rw [writesF, if_neg (by omega)]
  have H := hide h
  clear h
  go_enter Try.func33, Try.ntmps33
  go_wp2_with fail
  go_loop [3] (fun i => ∃ k : Nat, k ≤ ws.length ∧ i = .int .i64 k ∧ (∀ j (hj : j < ws.length), j < k → wF ws[j] = 0)) (fun i => ws.length - (intOf i).toNat)
  case atStart => exact ⟨0, Nat.zero_le _, rfl, fun j _ hj => by omega⟩
  case round =>
    obtain ⟨k, hk, rfl, hz⟩ := hrel
    by_cases hlt : k < ws.length
    · obtain ⟨row, hc, hr⟩ := Lay.row_at (unhide H) hlt
      obtain ⟨a2, d2, rfl, R2⟩ := open_Write hr
      have c0 : w.cell? ⟨b, off + k * 5, none⟩ = some (.int .i64 (ws[k]).kind) := ((Below.refl w.heap.size w).cell (p := ⟨b, off + k * 5, none⟩) hbl).trans (hc 0 (by decide))
      have c1 : w.cell? ⟨b, off + k * 5 + 1, none⟩ = some (.int .i64 (ws[k]).id) := ((Below.refl w.heap.size w).cell (p := ⟨b, off + k * 5 + 1, none⟩) hbl).trans (hc 1 (by decide))
      have c2 : w.cell? ⟨b, off + k * 5 + 2, none⟩ = some (.slice a2 (ws[k]).vec.length d2) := ((Below.refl w.heap.size w).cell (p := ⟨b, off + k * 5 + 2, none⟩) hbl).trans (hc 2 (by decide))
      have c3 : w.cell? ⟨b, off + k * 5 + 3, none⟩ = some (.int .i64 (ws[k]).session) := ((Below.refl w.heap.size w).cell (p := ⟨b, off + k * 5 + 3, none⟩) hbl).trans (hc 3 (by decide))
      have c4 : w.cell? ⟨b, off + k * 5 + 4, none⟩ = some (.int .i64 (ws[k]).seq) := ((Below.refl w.heap.size w).cell (p := ⟨b, off + k * 5 + 4, none⟩) hbl).trans (hc 4 (by decide))
      have HZ := hide hz
      have HAT : Hid (wF ws[k] ≠ 0 → writesF ws = wF ws[k]) := fun hn => (unhide HW).trans (wsFrom_at ws k hlt hz hn)
      have HZ2 : Hid (wF ws[k] = 0 → ∀ j (hj : j < ws.length), j < k + 1 → wF ws[j] = 0) := by
        intro h0 j hj hjk
        by_cases hjk2 : j < k
        · exact unhide HZ j hj hjk2
        · obtain rfl : j = k := by omega
          exact h0
      clear hc hr hz HZ
      generalize hx : ws[k] = x at *
      clear hx
      have L := l3FaultO b (off + k * 5) x.kind x.id _ x.session x.seq x.vec w ⟨c0, c1, c2, c3, c4⟩ (Lay.ints_reads R2)
      rw [show writeFault x.kind x.id x.vec x.session x.seq = wF x from rfl] at L
      have HL := hide L
      clear L R2 c0 c1 c2 c3 c4
      go_wp2_with fail
      refine (unhide HL).mono ?_
      rintro e w ⟨rfl, rfl⟩
      by_cases hf : wF x = 0
      · rw [hf]
        have HZ3 := hide (unhide HZ2 hf)
        clear hf HZ2 HAT HL
        go_wp2_with fail
        go_round
        case rel => exact ⟨k + 1, by omega, by go_num, unhide HZ3⟩
        case measure => simp [intOf]; omega
      · have hd : (wF x != 0) = true := by simpa using hf
        have HG := hide (unhide HAT hf)
        clear hf HZ2 HAT HL
        go_wp2_with fail
        go_ret
        exact ⟨by rw [unhide HG]; rfl, rfl⟩
    · have HG : Hid (writesF ws = 0) := (unhide HW).trans (wsFrom_all ws fun j hj => hz j hj (by omega))
      clear hz H
      go_wp2_with fail
      go_ret
      exact ⟨by rw [unhide HG]; rfl, rfl⟩

set_option maxRecDepth 10000 in
theorem specWrites (v : Value) (ws : List DWrite) (w : World) (h : (Lay.sl Lay.tWrite).Reads w [v] ws) :
    Calls Try.prog 33 #[v] w fun e w' => e = .returned (.int .i64 (writesF ws)) ∧ w' = w := by
  obtain ⟨ao, cap, rfl⟩ := open_sl h
  by_cases hn : ws.length ≤ 200
  · by_cases hp : 0 < ws.length
    · obtain ⟨b, off, rfl, hbl⟩ := Lay.sl_addr h hp
      exact specWrites_pos b off cap ws w h hbl hn
    · obtain rfl : ws = [] := List.eq_nil_of_length_eq_zero (by omega)
      clear h hn hp
      go_enter Try.func33, Try.ntmps33
      go_wp2_with fail
      refine wp_loop_rounds 1 ?_
      rw [rounds_succ]
      go_wp2_with fail
      go_ret
      exact ⟨rfl, rfl⟩
  · have e : writesF ws = 2 := by rw [writesF, if_pos (by omega)]
    rw [e]
    have hd : decide ((200 : Int) < (ws.length : Int)) = true := by simp; omega
    clear h e
    go_enter Try.func33, Try.ntmps33
    go_wp2_with fail
    go_ret
    exact ⟨rfl, rfl⟩

end Go.Proofs.Ytkodenmpadehjaa
