/-
  The model's l5Last, l5Seen, l5Asked: the last number of a session, where a write was seen, what is wrong with what is asked; nothing is written.
  No condition.
-/
import Derived.Test.YtkodenmpadehjaaSessPlain
import Derived.Test.YtkodenmpadehjaaSpecWs
import Derived.Test.YtkodenmpadehjaaGround
namespace Go.Proofs.Ytkodenmpadehjaa
open Go.RowKit

theorem l1MaxC (x y : Int) (w : World) : Calls Try.prog 41 #[.int .i64 x, .int .i64 y] w fun e w' => e = .returned (.int .i64 (max x y)) ∧ w' = w := by
  by_cases h : y < x
  · have d : decide (y < x) = true := by simpa using h
    have e : max x y = x := by omega
    rw [e]
    go_enter Try.func41, Try.ntmps41
    go_wp2
    go_ret
    exact ⟨rfl, rfl⟩
  · have d : decide (y < x) = false := by simpa using h
    have e : max x y = y := by omega
    rw [e]
    go_enter Try.func41, Try.ntmps41
    go_wp2
    go_ret
    exact ⟨rfl, rfl⟩

set_option maxRecDepth 10000 in
set_option maxHeartbeats 1000000 in
theorem l5Last_pos (b off cap : Nat) (ws : List DWrite) (s : Int) (w : World) (h : (Lay.sl Lay.tWrite).Reads w [.slice (some ⟨b, off, none⟩) ws.length cap] ws) (hbl : b < w.heap.size) (hn : ws.length ≤ 10000000) :
    Calls Try.prog 25 #[.slice (some ⟨b, off, none⟩) ws.length cap, .int .i64 s] w fun e w' => e = .returned (.int .i64 (lastI ws s)) ∧ w' = w := by
  have H := hide h
  clear h
  go_enter Try.func25, Try.ntmps25
  go_wp2_with fail
  go_loop [5, 6] (fun m i => ∃ k : Nat, k ≤ ws.length ∧ i = .int .i64 k ∧ m = .int .i64 (lastI (ws.take k) s)) (fun _ i => ws.length - (intOf i).toNat)
  case atStart => exact ⟨0, Nat.zero_le _, rfl, rfl⟩
  case round =>
    obtain ⟨k, hk, rfl, rfl⟩ := hrel
    by_cases hlt : k < ws.length
    · obtain ⟨row, hc, hr⟩ := Lay.row_at (unhide H) hlt
      obtain ⟨a2, d2, rfl, R2⟩ := open_Write hr
      have c3 : w.cell? ⟨b, off + k * 5 + 3, none⟩ = some (.int .i64 (ws[k]).session) := hc 3 (by decide)
      have c4 : w.cell? ⟨b, off + k * 5 + 4, none⟩ = some (.int .i64 (ws[k]).seq) := hc 4 (by decide)
      have HT := hide (lastI_take ws k hlt s)
      clear hc hr R2
      generalize hx : ws[k] = x at *
      clear hx
      by_cases hs : x.session = s
      · have ds : (x.session == s) = true := by simpa using hs
        have HL := hide (fun W => l1MaxC (lastI (ws.take k) s) x.seq W)
        have HT2 : Hid (lastI (ws.take (k + 1)) s = max (lastI (ws.take k) s) x.seq) := by
          have := unhide HT
          rw [if_pos hs] at this
          exact this
        clear HT hs
        generalize hl : lastI (ws.take k) s = l at *
        clear hl
        go_wp2_with fail
        refine (unhide HL _).mono ?_
        rintro e w2 ⟨rfl, rfl⟩
        go_wp2_with fail
        go_round
        case rel => exact ⟨k + 1, by omega, by go_num, by rw [unhide HT2]⟩
        case measure => simp [intOf]; omega
      · have ds : (x.session == s) = false := by simpa using hs
        have HT2 : Hid (lastI (ws.take (k + 1)) s = lastI (ws.take k) s) := by
          have := unhide HT
          rw [if_neg hs] at this
          exact this
        clear HT hs
        go_wp2_with fail
        go_round
        case rel => exact ⟨k + 1, by omega, by go_num, by rw [unhide HT2]⟩
        case measure => simp [intOf]; omega
    · obtain rfl : k = ws.length := by omega
      rw [List.take_length]
      clear H
      go_wp2_with fail
      go_ret
      exact ⟨rfl, rfl⟩

theorem l5LastC (v : Value) (ws : List DWrite) (s : Int) (w : World) (h : (Lay.sl Lay.tWrite).Reads w [v] ws) (hn : ws.length ≤ 10000000) :
    Calls Try.prog 25 #[v, .int .i64 s] w fun e w' => e = .returned (.int .i64 (lastI ws s)) ∧ w' = w := by
  obtain ⟨ao, cap, rfl⟩ := open_sl h
  by_cases hp : 0 < ws.length
  · obtain ⟨b, off, rfl, hbl⟩ := Lay.sl_addr h hp
    exact l5Last_pos b off cap ws s w h hbl hn
  · obtain rfl : ws = [] := List.eq_nil_of_length_eq_zero (by omega)
    clear h hn hp
    go_enter Try.func25, Try.ntmps25
    go_wp2_with fail
    refine wp_loop_rounds 1 ?_
    rw [rounds_succ]
    go_wp2_with fail
    go_ret
    exact ⟨rfl, rfl⟩

theorem l5AskedC (v : Value) (ws : List DWrite) (s : Int) (w : World) (h : (Lay.sl Lay.tWrite).Reads w [v] ws) :
    Calls Try.prog 24 #[v, .int .i64 s] w fun e w' => e = .returned (.int .i64 (askedF ws s)) ∧ w' = w := by
  have HL := hide (specWrites v ws w h)
  have HS := hide (sessionC s w)
  clear h
  by_cases hf : writesF ws = 0
  · rw [hf] at HL
    by_cases hs : 1 ≤ s ∧ s ≤ 9
    · have e : askedF ws s = 0 := by rw [askedF, if_pos hf, if_pos hs]
      have d : (decide (1 ≤ s) && decide (s ≤ 9)) = true := by simp [hs.1, hs.2]
      rw [d] at HS
      rw [e]
      clear hf hs e d
      go_enter Try.func24, Try.ntmps24
      go_wp2_with fail
      refine (unhide HL).mono ?_
      rintro e w2 ⟨rfl, rfl⟩
      go_wp2_with fail
      refine (unhide HS).mono ?_
      rintro e w2 ⟨rfl, rfl⟩
      go_wp2_with fail
      go_ret
      exact ⟨rfl, rfl⟩
    · have e : askedF ws s = 3 := by rw [askedF, if_pos hf, if_neg hs]
      have d : (decide (1 ≤ s) && decide (s ≤ 9)) = false := by
        rw [Bool.eq_false_iff]
        intro hb
        simp only [Bool.and_eq_true, decide_eq_true_eq] at hb
        exact hs hb
      rw [d] at HS
      rw [e]
      clear hf hs e d
      go_enter Try.func24, Try.ntmps24
      go_wp2_with fail
      refine (unhide HL).mono ?_
      rintro e w2 ⟨rfl, rfl⟩
      go_wp2_with fail
      refine (unhide HS).mono ?_
      rintro e w2 ⟨rfl, rfl⟩
      go_wp2_with fail
      go_ret
      exact ⟨rfl, rfl⟩
  · have e : askedF ws s = writesF ws := by rw [askedF, if_neg hf]
    have d : (writesF ws != 0) = true := by simpa using hf
    rw [e]
    clear hf e HS
    go_enter Try.func24, Try.ntmps24
    go_wp2_with fail
    refine (unhide HL).mono ?_
    rintro e w2 ⟨rfl, rfl⟩
    go_wp2_with fail
    go_ret
    exact ⟨rfl, rfl⟩

end Go.Proofs.Ytkodenmpadehjaa
