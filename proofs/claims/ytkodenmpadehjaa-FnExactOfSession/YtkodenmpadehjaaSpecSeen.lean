/-
  The model's l5Seen: where a write was seen; nothing is written.
  No condition.
-/
import Derived.Test.YtkodenmpadehjaaSpecSess
namespace Go.Proofs.Ytkodenmpadehjaa
open Go.RowKit

set_option maxRecDepth 10000 in
set_option maxHeartbeats 1000000 in
theorem l5Seen_pos (b off cap : Nat) (ws : List DWrite) (s q : Int) (w : World) (h : (Lay.sl Lay.tWrite).Reads w [.slice (some ⟨b, off, none⟩) ws.length cap] ws)  (hn : ws.length ≤ 10000000) :
    Calls Try.prog 31 #[.slice (some ⟨b, off, none⟩) ws.length cap, .int .i64 s, .int .i64 q] w fun e w' => e = .returned (.int .i64 (seenI ws s q)) ∧ w' = w := by
  have H := hide h
  clear h
  go_enter Try.func31, Try.ntmps31
  go_wp2_with fail
  go_loop [7] (fun i => ∃ k : Nat, k ≤ ws.length ∧ i = .int .i64 k ∧ (∀ j (hj : j < ws.length), j < k → ¬ (ws[j].session = s ∧ ws[j].seq = q))) (fun i => ws.length - (intOf i).toNat)
  case atStart => exact ⟨0, Nat.zero_le _, rfl, fun j _ hj => by omega⟩
  case round =>
    obtain ⟨k, hk, rfl, hz⟩ := hrel
    by_cases hlt : k < ws.length
    · obtain ⟨row, hc, hr⟩ := Lay.row_at (unhide H) hlt
      obtain ⟨a2, d2, rfl, R2⟩ := open_Write hr
      have c3 : w.cell? ⟨b, off + k * 5 + 3, none⟩ = some (.int .i64 (ws[k]).session) := hc 3 (by decide)
      have c4 : w.cell? ⟨b, off + k * 5 + 4, none⟩ = some (.int .i64 (ws[k]).seq) := hc 4 (by decide)
      have HAT : Hid (ws[k].session = s ∧ ws[k].seq = q → seenI ws s q = k + 1) := fun he => seenI_at hlt hz he
      have HZ2 : Hid (¬ (ws[k].session = s ∧ ws[k].seq = q) → ∀ j (hj : j < ws.length), j < k + 1 → ¬ (ws[j].session = s ∧ ws[j].seq = q)) := by
        intro h0 j hj hjk
        by_cases hjk2 : j < k
        · exact hz j hj hjk2
        · obtain rfl : j = k := by omega
          exact h0
      clear hc hr R2 hz
      generalize hx : ws[k] = x at *
      clear hx
      have hwr : IntKind.i64.wrap ((k : Int) + 1) = (k : Int) + 1 := by rw [IntKind.wrap_i64]; omega
      by_cases hs : x.session = s
      · have ds : (x.session == s) = true := by simpa using hs
        by_cases hq : x.seq = q
        · have dq : (x.seq == q) = true := by simpa using hq
          have HG := hide (unhide HAT ⟨hs, hq⟩)
          clear HAT HZ2 hs hq
          go_wp2_with fail
          go_ret
          exact ⟨by rw [unhide HG]; simp, rfl⟩
        · have dq : (x.seq == q) = false := by simpa using hq
          have HZ := hide (unhide HZ2 fun e => hq e.2)
          clear HAT HZ2 hs hq hwr
          go_wp2_with fail
          go_round
          case rel => exact ⟨k + 1, by omega, by go_num, unhide HZ⟩
          case measure => simp [intOf]; omega
      · have ds : (x.session == s) = false := by simpa using hs
        have HZ := hide (unhide HZ2 fun e => hs e.1)
        clear HAT HZ2 hs hwr
        go_wp2_with fail
        go_round
        case rel => exact ⟨k + 1, by omega, by go_num, unhide HZ⟩
        case measure => simp [intOf]; omega
    · obtain rfl : k = ws.length := by omega
      have HG : Hid (seenI ws s q = 0) := seenI_none fun j hj => hz j hj hj
      clear H hz
      go_wp2_with fail
      go_ret
      exact ⟨by rw [unhide HG]; rfl, rfl⟩

theorem l5SeenC (v : Value) (ws : List DWrite) (s q : Int) (w : World) (h : (Lay.sl Lay.tWrite).Reads w [v] ws) (hn : ws.length ≤ 10000000) :
    Calls Try.prog 31 #[v, .int .i64 s, .int .i64 q] w fun e w' => e = .returned (.int .i64 (seenI ws s q)) ∧ w' = w := by
  obtain ⟨ao, cap, rfl⟩ := open_sl h
  by_cases hp : 0 < ws.length
  · obtain ⟨b, off, rfl, -⟩ := Lay.sl_addr h hp
    exact l5Seen_pos b off cap ws s q w h hn
  · obtain rfl : ws = [] := List.eq_nil_of_length_eq_zero (by omega)
    clear h hn hp
    go_enter Try.func31, Try.ntmps31
    go_wp2_with fail
    refine wp_loop_rounds 1 ?_
    rw [rounds_succ]
    go_wp2_with fail
    go_ret
    exact ⟨rfl, rfl⟩

end Go.Proofs.Ytkodenmpadehjaa
