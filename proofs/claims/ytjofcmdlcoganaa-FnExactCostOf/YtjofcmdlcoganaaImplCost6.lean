/-
  The program's totalCost: the sum of the scores of the items and their nearest centers; nothing old is written.
  Condition: the centers and the items are right (premises).
-/
import Derived.Test.YtjofcmdlcoganaaImplNear
import Derived.Test.YtjofcmdlcoganaaCenRes
namespace Go.Proofs.Ytjofcmdlcoganaa
open Go.RowKit

set_option maxRecDepth 100000 in
set_option maxHeartbeats 2000000 in
theorem implCost_pos (v : Value) (cs : List DCenter) (b off cap : Nat) (xs : List DItem) (w : World) (hcs : (Lay.sl Lay.tCenter).Reads w [v] cs) (h : (Lay.sl Lay.tItem).Reads w [.slice (some ⟨b, off, none⟩) xs.length cap] xs) (hbl : b < w.heap.size) (hc0 : centersFault cs = 0) (ht : tableFault xs = 0) :
    Calls Try.prog 48 #[v, .slice (some ⟨b, off, none⟩) xs.length cap] w fun e w' => e = .returned (.int .i64 (cost cs xs)) ∧ Below w.heap.size w w' := by
  obtain ⟨hlen, hall, -⟩ := tableFault_zero ht
  have hxv : ∀ x ∈ xs, vecFault x.vec = 0 := fun x hm => (hall x hm).2
  have HXV := hide hxv
  have HC := hide hcs
  have HCF := hide hc0
  have H := hide h
  clear h hcs hall hc0 hxv ht
  go_enter Try.func48, Try.ntmps48
  go_wp2_with fail
  go_loopw [5, 12] (fun a i wr => ∃ k : Nat, k ≤ xs.length ∧ i = .int .i64 k ∧ a = .int .i64 (costK cs xs k) ∧ Below w.heap.size w wr) (fun _ i _ => xs.length - (intOf i).toNat)
  case atStart => exact ⟨0, Nat.zero_le _, rfl, rfl, Below.refl _ _⟩
  case round =>
    obtain ⟨k, hk, rfl, rfl, hB⟩ := hrel
    by_cases hlt : k < xs.length
    · obtain ⟨row, hc, hr⟩ := Lay.row_at (unhide H) hlt
      replace hr := hr.later hB
      obtain ⟨a1, d1, rfl, R1⟩ := open_Item hr
      have c0 : wr.cell? ⟨b, off + k * 2, none⟩ = some (.int .i64 (xs[k]).id) := (hB.cell (p := ⟨b, off + k * 2, none⟩) hbl).trans (hc 0 (by decide))
      have c1 : wr.cell? ⟨b, off + k * 2 + 1, none⟩ = some (.slice a1 (xs[k]).vec.length d1) := (hB.cell (p := ⟨b, off + k * 2 + 1, none⟩) hbl).trans (hc 1 (by decide))
      have hvx := unhide HXV xs[k] (List.getElem_mem hlt)
      have hb1 := costK_bd (unhide HCF) (unhide HXV) k hk
      have hstep := costK_step cs xs k hlt
      clear hc hr
      generalize hx : xs[k] = x at *
      clear hx
      have hml := near_lt (unhide HCF) hvx
      obtain ⟨-, hs1, hs2⟩ := nearS_eq (unhide HCF) hvx hml
      have HST := hide hstep
      have nb : Below wr.heap.size wr (wr.alloc (.cells #[.int .i64 x.id, .slice a1 x.vec.length d1] 41)) := (Below.refl _ _).alloc (Nat.le_refl _) _
      have L := hide (nearC _ cs _ x.vec _ (((unhide HC).later hB).later nb) ((Lay.ints_reads R1).later nb) (unhide HCF) hvx)
      have HB := hide (hB.trans (nb.mono hB.size))
      clear R1 hB hvx hstep nb
      generalize costK cs xs k = ck at *
      generalize nearS cs x.vec = ns at *
      generalize near cs x.vec = nr at *
      go_wp2_with fail
      refine (unhide L).mono ?_
      rintro e w2 ⟨rfl, hb⟩
      have HB3 := hide ((unhide HB).trans (hb.mono (unhide HB).size))
      clear hb L HB c0 c1
      go_wp2_with fail
      go_roundw
      case rel => exact ⟨k + 1, by omega, by go_num, by rw [unhide HST], unhide HB3⟩
      case measure => simp [intOf]; omega
    · obtain rfl : k = xs.length := by omega
      have HB := hide hB
      clear hB H
      go_wp2_with fail
      go_ret
      exact ⟨rfl, unhide HB⟩

theorem implCost_zero (v : Value) (ao : Option Addr) (cap : Nat) (w : World) :
    Calls Try.prog 48 #[v, .slice ao 0 cap] w fun e w' => e = .returned (.int .i64 0) ∧ Below w.heap.size w w' := by
  go_enter Try.func48, Try.ntmps48
  go_wp2_with fail
  refine wp_loop_rounds 1 ?_
  rw [rounds_succ]
  go_wp2_with fail
  go_ret
  exact ⟨rfl, Below.refl _ _⟩

/-- totalCost of the program. -/
theorem implCost (v : Value) (cs : List DCenter) (vx : Value) (xs : List DItem) (w : World) (hcs : (Lay.sl Lay.tCenter).Reads w [v] cs) (h : (Lay.sl Lay.tItem).Reads w [vx] xs) (hc0 : centersFault cs = 0) (ht : tableFault xs = 0) :
    Calls Try.prog 48 #[v, vx] w fun e w' => e = .returned (.int .i64 (cost cs xs)) ∧ Below w.heap.size w w' := by
  obtain ⟨ao, cap, rfl⟩ := open_sl h
  by_cases hp : 0 < xs.length
  · obtain ⟨b, off, rfl, hbl⟩ := Lay.sl_addr h hp
    exact implCost_pos v cs b off cap xs w hcs h hbl hc0 ht
  · obtain rfl : xs = [] := List.eq_nil_of_length_eq_zero (by omega)
    exact implCost_zero _ ao cap w

end Go.Proofs.Ytjofcmdlcoganaa
