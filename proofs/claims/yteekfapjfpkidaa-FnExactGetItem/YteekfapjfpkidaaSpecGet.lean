/-
  The model's GetItem tells an item's vector in new memory, or what is wrong; nothing old is written.
  No condition.
-/
import Derived.Test.YteekfapjfpkidaaSpecAt
import Derived.Test.YteekfapjfpkidaaSpecInts
namespace Go.Proofs.Yteekfapjfpkidaa
open Go.RowKit

theorem askF_vals (xs : List DItem) (id : Int) : 0 ≤ askF xs id ∧ askF xs id ≤ 3 := by
  unfold askF
  have := tableFault_vals xs
  split
  · split <;> decide
  · exact this

set_option maxRecDepth 10000 in
set_option maxHeartbeats 1000000 in
theorem specGet (v : Value) (xs : List DItem) (id : Int) (w : World) (h : (Lay.sl Lay.tItem).Reads w [v] xs) :
    Calls Try.prog 25 #[v, .int .i64 id] w fun e w' => ∃ cs, e = .returned (.agg cs.toArray) ∧ Lay.tIntsResult.Reads w' cs (getI xs id) ∧ Below w.heap.size w w' := by
  have HB0 : Below w.heap.size w (w.alloc (.cells #[.int .i64 0, .slice none 0 0] 43)) := (Below.refl _ _).alloc (Nat.le_refl _) _
  have bR : Box w.heap.size #[.int .i64 0, .slice none 0 0] 43 (w.alloc (.cells #[.int .i64 0, .slice none 0 0] 43)) w.heap.size := newBox (Nat.le_refl _)
  have h0 := h.later HB0
  obtain ⟨ao, cap, rfl⟩ := open_sl h
  clear h
  go_enter Try.func25, Try.ntmps25
  go_wp2_with fail
  generalize w.alloc (.cells #[.int .i64 0, .slice none 0 0] 43) = W0 at *
  refine (specAsked _ xs id W0 h0).mono ?_
  rintro e w1 ⟨rfl, hb⟩
  have h1 := h0.later hb
  replace bR := bR.keep hb
  replace HB0 := HB0.trans (hb.mono HB0.size)
  have hz0 := HB0.size
  have z0 : w1.cell? ⟨w.heap.size, 0, none⟩ = some (.int .i64 0) := bR.at 0 _ rfl
  have z1 : w1.cell? ⟨w.heap.size, 1, none⟩ = some (.slice none 0 0) := bR.at 1 _ rfl
  have f0 := bR.soft 0
  have f1 := bR.soft 1
  have l0 := bR.lt
  have HB := hide HB0
  have HR := hide bR
  have H := hide h1
  clear hb HB0 bR h0 h1
  by_cases hf : askF xs id = 0
  · rw [hf]
    have hq : tableFault xs = 0 ∧ idB id = true := by
      unfold askF at hf
      by_cases h1 : tableFault xs = 0
      · rw [if_pos h1] at hf
        cases h2 : idB id with
        | true => exact ⟨h1, rfl⟩
        | false => rw [h2] at hf; cases hf
      · rw [if_neg h1] at hf; exact absurd hf h1
    obtain ⟨h1, h2⟩ := hq
    have HG : Hid (getI xs id = pickI (xs.find? (fun x => x.id == id))) := by
      show getI xs id = _
      rw [getI, if_pos h1, h2, if_pos rfl]
    have HV := hide (tableFault_zero h1).2.1
    clear hf h1 h2
    go_wp2_with fail
    refine (specAt _ xs id _ (unhide H)).mono ?_
    rintro e w1 ⟨⟨r, rfl, hA⟩, rfl⟩
    rcases hA with ⟨rfl, hno⟩ | ⟨k, hk, rfl, hfd⟩
    · have HG2 : Hid (getI xs id = ⟨4, []⟩) := by
        show getI xs id = ⟨4, []⟩
        rw [unhide HG]
        cases hfd : xs.find? (fun x => x.id == id) with
        | none => rfl
        | some x =>
          obtain ⟨hx, hxi⟩ := find_at hfd
          exact absurd hxi (hasI_false hno x hx)
      clear hno HG H HV
      go_wp2_with fail
      refine bodyPost_ret (v := .agg #[.int .i64 4, .slice none 0 0]) (by simp [results, Try.results25, go_sem, z0, z1]) rfl ?_
      rw [unhide HG2]
      exact ⟨[.int .i64 4, .slice none 0 0], rfl, (own_codeInts (lo := 0) (hi := 0) (by decide)).reads, ((unhide HB).setCell (by simp) _).setCell (by simp) _⟩
    · have HG2 : Hid (getI xs id = ⟨0, xs[k].vec⟩) := by
        show getI xs id = ⟨0, xs[k].vec⟩
        rw [unhide HG, hfd]
        rfl
      obtain ⟨b, off, rfl, hbl⟩ := Lay.sl_addr (unhide H) (by omega)
      obtain ⟨row, hc, hr⟩ := Lay.row_at (unhide H) hk
      obtain ⟨a1, d1, rfl, R1⟩ := open_Item hr
      have c1 : w1.cell? ⟨b, off + k * 2 + 1, none⟩ = some (.slice a1 (xs[k]).vec.length d1) := hc 1 (by decide)
      have hv3 := (vecFault_zero (unhide HV xs[k] (List.getElem_mem hk)).2).1
      have hbig := (unhide H).big
      clear hc hr hfd HG HV H
      generalize xs[k] = x at *
      have L := hide (l1Ints _ x.vec w1 (Lay.ints_reads R1) (by omega))
      have hwf := (Lay.ints_reads R1).wf
      have HW := hide hwf
      have HL3 := hide hv3
      clear R1 hwf hv3
      have i1 : (0 : Int) ≤ (k : Int) := by omega
      have i2 : (k : Int) < (xs.length : Int) := by omega
      have i3 : decide ((k : Int) < 0) = false := by simp
      go_wp2_with fail
      clear z0 z1 f0 f1 l0 c1
      refine (unhide L).mono ?_
      rintro e w2 ⟨v2, rfl, hO, hb⟩
      have hO2 := Lay.ownInts (unhide HW) (by have := unhide HL3; omega) hO
      obtain ⟨ao2, cp2, rfl⟩ := open_sl hO2.reads
      have bR := (unhide HR).keep hb
      have z0 : w2.cell? ⟨w.heap.size, 0, none⟩ = some (.int .i64 0) := bR.at 0 _ rfl
      have z1 : w2.cell? ⟨w.heap.size, 1, none⟩ = some (.slice none 0 0) := bR.at 1 _ rfl
      have f0 := bR.soft 0
      have f1 := bR.soft 1
      have l0 := bR.lt
      have HB2 := hide ((unhide HB).trans (hb.mono (unhide HB).size))
      have HO := hide (hO2.mono (lo' := w.heap.size + 1) (by have := (unhide HR).lt; omega) (Nat.le_refl _))
      clear hO hO2 hb bR L
      go_wp2_with fail
      refine bodyPost_ret (v := .agg #[.int .i64 0, .slice ao2 x.vec.length cp2]) (by simp [results, Try.results25, go_sem, z0, z1]) rfl ?_
      rw [unhide HG2]
      have hE : Ext (fun c => c = w.heap.size) w2 ((w2.setCell ⟨w.heap.size, 0, none⟩ (.int .i64 0)).setCell ⟨w.heap.size, 1, none⟩ (.slice ao2 x.vec.length cp2)) := ((Ext.refl (fun c => c = w.heap.size) _).setCell ⟨w.heap.size, 0, none⟩ _ rfl).setCell ⟨w.heap.size, 1, none⟩ _ rfl
      refine ⟨[.int .i64 0, .slice ao2 x.vec.length cp2], rfl, (own_ints (by decide) ((unhide HO).ext hE (fun c h1 _ h3 => by omega))).reads, ((unhide HB2).setCell (by simp) _).setCell (by simp) _⟩
  · have HG : Hid (getI xs id = ⟨askF xs id, []⟩) := by
      show getI xs id = ⟨askF xs id, []⟩
      unfold getI askF
      unfold askF at hf
      by_cases h1 : tableFault xs = 0
      · rw [if_pos h1] at hf ⊢
        rw [if_pos h1]
        cases h2 : idB id with
        | true => rw [h2] at hf; exact absurd rfl hf
        | false => rfl
      · rw [if_neg h1, if_neg h1]
    have hd : (askF xs id != 0) = true := by simpa using hf
    have hcw : (Lit.int .i64 (askF xs id)).wf = true := wf_of_bd (by have := askF_vals xs id; omega)
    have HC := hide hcw
    clear hf hcw H
    go_wp2_with fail
    refine bodyPost_ret (v := .agg #[.int .i64 (askF xs id), .slice none 0 0]) (by simp [results, Try.results25, go_sem, z0, z1]) rfl ?_
    rw [unhide HG]
    exact ⟨[.int .i64 (askF xs id), .slice none 0 0], rfl, (own_codeInts (lo := 0) (hi := 0) (unhide HC)).reads, ((unhide HB).setCell (by simp) _).setCell (by simp) _⟩

end Go.Proofs.Yteekfapjfpkidaa
