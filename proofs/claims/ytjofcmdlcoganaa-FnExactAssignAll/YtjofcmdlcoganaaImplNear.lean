/-
  The program's nearestTo: the place of the nearest center, and its score; nothing old is written.
  Condition: the centers and the vector are right (premises).
-/
import Derived.Test.YtjofcmdlcoganaaChecked
import Derived.Test.YtjofcmdlcoganaaCenRow
import Derived.Test.YtjofcmdlcoganaaCenScoreC
import Derived.Test.YtjofcmdlcoganaaImplCen
namespace Go.Proofs.Ytjofcmdlcoganaa
open Go.RowKit

set_option maxRecDepth 100000 in
set_option maxHeartbeats 1000000 in
theorem nearC_pos (b off cap : Nat) (cs : List DCenter) (a2 : Option Addr) (d2 : Nat) (q : List Int) (w : World) (h : (Lay.sl Lay.tCenter).Reads w [.slice (some ⟨b, off, none⟩) cs.length cap] cs) (hbl : b < w.heap.size) (hq : IsInts w (.slice a2 q.length d2) q) (hc0 : centersFault cs = 0) (hv : vecFault q = 0) :
    Calls Try.prog 56 #[.slice (some ⟨b, off, none⟩) cs.length cap, .slice a2 q.length d2] w fun e w' => e = .returned (.tuple #[.int .i64 (near cs q : Nat), .int .i64 (nearS cs q)]) ∧ Below w.heap.size w w' := by
  obtain ⟨hn, hall⟩ := centersFault_zero hc0
  have HQ := hide hq
  have HA := hide hall
  have HV := hide hv
  have H := hide h
  have HN : Hid ((near cs q = (nearK cs q cs.length).1) ∧ (nearS cs q = (nearK cs q cs.length).2)) := ⟨rfl, rfl⟩
  clear h hq hall hc0 hv
  go_enter Try.func56, Try.ntmps56
  go_wp2_with fail
  go_loopw [6, 7, 12] (fun a l i wr => ∃ k : Nat, k ≤ cs.length ∧ i = .int .i64 k ∧ a = .int .i64 ((nearK cs q k).1 : Nat) ∧ l = .int .i64 (nearK cs q k).2 ∧ Below w.heap.size w wr) (fun _ _ i _ => cs.length - (intOf i).toNat)
  case atStart => exact ⟨0, Nat.zero_le _, rfl, rfl, rfl, Below.refl _ _⟩
  case round =>
    obtain ⟨k, hk, rfl, rfl, rfl, hB⟩ := hrel
    by_cases hlt : k < cs.length
    · obtain ⟨row, hc, hr⟩ := Lay.row_at (unhide H) hlt
      replace hr := hr.later hB
      obtain ⟨a1, d1, rfl, R1⟩ := open_Center hr
      have c1 : wr.cell? ⟨b, off + k, none⟩ = some (.slice a1 (cs[k]).vec.length d1) := (hB.cell (p := ⟨b, off + k, none⟩) hbl).trans (cen_cell (hc 0 (by decide)))
      have HS := hide (nearK_step cs q k hlt)
      have hbd := nearK_bd (unhide HA) (unhide HV) k hk
      have hvx := unhide HA cs[k] (List.getElem_mem hlt)
      clear hc hr
      generalize hx : cs[k] = x at *
      clear hx
      have hsb := cscore_bd hvx (unhide HV)
      have I1 := hide (Lay.ints_reads R1)
      have I2 := hide ((unhide HQ).later hB)
      have HX := hide hvx
      have HB := hide hB
      clear R1 hB hvx
      have L := hide (implScore3 _ _ x.vec q wr (unhide I1) (unhide I2) (unhide HX) (unhide HV))
      generalize score3 x.vec q = sc at *
      generalize hs : nearK cs q k = s at *
      clear hs
      obtain ⟨sa, sl⟩ := s
      simp only at hbd
      have hfl : ∀ W : World, (Instr.field 33 (.agg #[.int .i64 0, .int .i64 sc]) 1).run Try.prog W = .ok (.int .i64 sc) W := fun _ => by kernel_rfl
      go_wp2_with fail
      refine (unhide L).mono ?_
      rintro e w1 ⟨rfl, hb⟩
      have HB2 := hide ((unhide HB).trans (hb.mono (unhide HB).size))
      clear hb L HB I1 I2 c1
      cases hd : decide (sc < sl) with
      | true =>
        have HS2 : Hid (nearK cs q (k + 1) = (k, sc)) := (unhide HS).trans (if_pos (by simpa using hd))
        clear HS
        go_wp2_with fail
        go_roundw
        case rel => exact ⟨k + 1, by omega, by go_num, by rw [unhide HS2], by rw [unhide HS2], unhide HB2⟩
        case measure => simp [intOf]; omega
      | false =>
        have HS2 : Hid (nearK cs q (k + 1) = (sa, sl)) := (unhide HS).trans (if_neg (by simpa using hd))
        clear HS
        go_wp2_with fail
        go_roundw
        case rel => exact ⟨k + 1, by omega, by go_num, by rw [unhide HS2], by rw [unhide HS2], unhide HB2⟩
        case measure => simp [intOf]; omega
    · obtain rfl : k = cs.length := by omega
      have HB := hide hB
      clear hB H
      go_wp2_with fail
      refine bodyPost_ret (v := .tuple #[.int .i64 ((nearK cs q cs.length).1 : Nat), .int .i64 (nearK cs q cs.length).2]) (by simp [results, Try.results56, go_sem]) rfl ⟨rfl, unhide HB⟩

theorem nearC (v : Value) (cs : List DCenter) (vq : Value) (q : List Int) (w : World) (h : (Lay.sl Lay.tCenter).Reads w [v] cs) (hq : IsInts w vq q) (hc : centersFault cs = 0) (hv : vecFault q = 0) :
    Calls Try.prog 56 #[v, vq] w fun e w' => e = .returned (.tuple #[.int .i64 (near cs q : Nat), .int .i64 (nearS cs q)]) ∧ Below w.heap.size w w' := by
  obtain ⟨ao, cap, rfl⟩ := open_sl h
  have hvq : ∃ a d, vq = .slice a q.length d := by obtain ⟨a, d, e, -⟩ := hq; exact ⟨a, d, e⟩
  obtain ⟨a2, d2, rfl⟩ := hvq
  obtain ⟨b, off, rfl, hbl⟩ := Lay.sl_addr h (centersFault_zero hc).1.1
  exact nearC_pos b off cap cs a2 d2 q w h hbl hq hc hv

end Go.Proofs.Ytjofcmdlcoganaa
