/-
  The model's BestOf and AddHit: code and hits in plain words; the hits lie in new memory; nothing old is written.
  No condition but that a list has at most 1048576 hits.
-/
import Derived.Test.YtplhhdnmhcnhgaaHitBest
namespace Go.Proofs.Ytplhhdnmhcnhgaa
open Go.RowKit

def kB (k : Int) : Bool := decide (0 ≤ k) && decide (k ≤ 20)
def bestCode (hs : List (Int × Int)) (k : Int) : Int := if kB k then (if 200 < hs.length then 2 else if hs.all oneB then 0 else 3) else 3
def bestList (hs : List (Int × Int)) (k : Int) : List (Int × Int) := if bestCode hs k = 0 then best k.toNat hs else []
def addCode (hs : List (Int × Int)) (h : Int × Int) (k : Int) : Int := if kB k then (if hitsFault hs = 0 then (if oneB h then 0 else 3) else hitsFault hs) else 3
def addList (hs : List (Int × Int)) (h : Int × Int) (k : Int) : List (Int × Int) := if addCode hs h k = 0 then (ins hs h).take k.toNat else []

theorem own_set {w : World} {base e size : Nat} {v : Value} {n : Nat} {xs : List Value} {a : Addr} (h : w.ownsRow base e size v n xs) (ha : a.block < base) (u : Value) : (w.setCell a u).ownsRow base e size v n xs := by
  refine ⟨h.1, ?_⟩
  rcases h.2 with h2 | ⟨g, cap, cur, hv, hg, hh, r⟩
  · exact Or.inl h2
  · exact Or.inr ⟨g, cap, cur, hv, hg, (heap_setCell_other w a g u (by omega)).trans hh, r⟩

/-- The result's own variable, a new block of (0, nil), as later worlds have it. -/
theorem resVar {w W : World} {T : TypeId} (h : Below (w.alloc (.cells #[.int .i64 0, .slice none 0 0] T)).heap.size (w.alloc (.cells #[.int .i64 0, .slice none 0 0] T)) W) :
    W.cell? ⟨w.heap.size, 0, none⟩ = some (.int .i64 0) ∧ W.cell? ⟨w.heap.size, 1, none⟩ = some (.slice none 0 0) ∧ (∀ o, W.frozen? ⟨w.heap.size, o, none⟩ = false) ∧ w.heap.size < W.heap.size := by
  refine ⟨(h.cell (p := ⟨w.heap.size, 0, none⟩) (by simp)).trans (by simp [go_sem]), (h.cell (p := ⟨w.heap.size, 1, none⟩) (by simp)).trans (by simp [go_sem]), fun o => (h.frozen (p := ⟨w.heap.size, o, none⟩) (by simp)).trans (by simp [go_sem]), ?_⟩
  have := h.size
  simp at this
  omega

set_option maxRecDepth 100000 in
set_option maxHeartbeats 1000000 in
theorem modelBest_ok (v : Value) (hs : List (Int × Int)) (k : Nat) (w : World) (h : IsHits w v hs) (hk : k ≤ 20) (hn : hs.length ≤ 200) (ho : hs.all oneB = true) :
    Calls Try.prog 14 #[v, .int .i64 k] w fun e w' => ∃ r, e = .returned (intsRes 0 r) ∧ w'.ownsRow w.heap.size 31 2 r (best k hs).length (cells2 (best k hs)) ∧ Below w.heap.size w w' := by
  have h' := h
  obtain ⟨ao, cap, rfl, h1, h2, hwf, hc⟩ := h'
  have HH := hide h
  have HO := hide ho
  clear h hwf ho h1 h2
  go_enter Try.func14, Try.ntmps14
  go_wp2_with fail
  refine (l2K (k : Int) _).mono ?_
  rintro e w1 ⟨rfl, rfl⟩
  have e1 : (decide ((0 : Int) ≤ (k : Int)) && decide ((k : Int) ≤ 20)) = true := by simp; omega
  rw [e1]
  have e2 : decide ((200 : Int) < (hs.length : Int)) = false := by simp; omega
  go_wp2_with fail
  generalize hwa : w.alloc (.cells #[.int .i64 0, .slice none 0 0] 28) = wa at *
  go_loopw [5] (fun i wr => ∃ j : Nat, j ≤ hs.length ∧ i = .int .i64 j ∧ Below wa.heap.size wa wr) (fun i _ => hs.length - (intOf i).toNat)
  case atStart => exact ⟨0, Nat.zero_le _, rfl, Below.refl _ _⟩
  case round =>
    obtain ⟨j, hj, rfl, hB⟩ := hrel
    have ba : Below w.heap.size w wa := by rw [← hwa]; exact (Below.refl _ _).alloc (Nat.le_refl _) _
    have bw : Below w.heap.size w wr := below_keep2 ba hB
    by_cases hlt : j < hs.length
    · obtain ⟨x, y, hxy⟩ : ∃ x y, hs[j]? = some (x, y) := ⟨hs[j].1, hs[j].2, by simp [hlt]⟩
      obtain ⟨b, off, rfl, hc1⟩ := hc (by omega)
      have c1 := (bw.cell (World.block_lt_of_cell? _ _ (hc1 j x y hxy).1)).trans (hc1 j x y hxy).1
      have c2 := (bw.cell (World.block_lt_of_cell? _ _ (hc1 j x y hxy).2)).trans (hc1 j x y hxy).2
      have hone : oneB (x, y) = true := List.all_eq_true.1 (unhide HO) _ (List.mem_of_getElem? hxy)
      have HB := hide hB
      clear hc hc1 hxy hB ba bw hwa
      go_wp2_with fail
      refine (l2One x y _).mono ?_
      rintro e w2 ⟨rfl, hb2⟩
      rw [hone]
      have HB2 := hide (below_keep2 (unhide HB) hb2)
      clear hb2 HB c1 c2 hone
      go_wp2_with fail
      go_roundw
      case rel => exact ⟨j + 1, by omega, by go_num, unhide HB2⟩
      case measure => simp [intOf]; omega
    · obtain rfl : j = hs.length := by omega
      have L := l2Best (.slice ao hs.length cap) hs k wr ((unhide HH).later bw) (by omega) (by omega)
      have HBW := hide bw
      have HB := hide hB
      have HWA := hide hwa
      clear hc ba bw hB hwa
      go_wp2_with fail
      refine L.mono ?_
      rintro e w2 ⟨g, cp, rfl, hown, hb2⟩
      have hb3 := below_keep2 (unhide HB) hb2
      rw [← unhide HWA] at hb3
      obtain ⟨z0, z1, z2, z3⟩ := resVar hb3
      have hbw := hide (below_keep2 (unhide HBW) hb2)
      have hsz : w.heap.size + 1 ≤ wr.heap.size := by
        have := (unhide HB).size
        rw [← unhide HWA] at this
        simp at this
        omega
      have HO2 := hide (own_mono hsz hown)
      generalize hln : (best k hs).length = n at *
      clear L hown hb2 hb3 HB HBW
      go_wp2_with fail
      refine bodyPost_ret (v := intsRes 0 (.slice (some ⟨g, 0, none⟩) n cp)) (by simp [results, Try.results14, go_sem, intsRes, z0, z1]) rfl ⟨_, rfl, ?_, ?_⟩
      · rw [hln]
        exact own_mono (Nat.le_succ _) (own_set (base := w.heap.size + 1) (own_set (base := w.heap.size + 1) (unhide HO2) (Nat.lt_succ_self _) _) (Nat.lt_succ_self _) _)
      · exact ((unhide hbw).setCell (by simp) _).setCell (by simp) _


set_option maxHeartbeats 400000 in
theorem modelBest_k (v : Value) (k : Int) (w : World) (hk : kB k = false) :
    Calls Try.prog 14 #[v, .int .i64 k] w fun e w' => e = .returned (intsRes 3 (.slice none 0 0)) ∧ Below w.heap.size w w' := by
  go_enter Try.func14, Try.ntmps14
  go_wp2_with fail
  refine (l2K k _).mono ?_
  rintro e w1 ⟨rfl, rfl⟩
  unfold kB at hk
  rw [hk]
  clear hk
  go_wp2_with fail
  refine bodyPost_ret (v := intsRes 3 (.slice none 0 0)) (by simp [results, Try.results14, go_sem, intsRes]) rfl ⟨rfl, ?_⟩
  exact (Below.refl _ _).alloc (Nat.le_refl _) _

set_option maxHeartbeats 400000 in
theorem modelBest_many (ao : Option Addr) (n cap : Nat) (k : Int) (w : World) (hk : kB k = true) (hn : 200 < n) :
    Calls Try.prog 14 #[.slice ao n cap, .int .i64 k] w fun e w' => e = .returned (intsRes 2 (.slice none 0 0)) ∧ Below w.heap.size w w' := by
  have e2 : decide ((200 : Int) < (n : Int)) = true := by simp; omega
  go_enter Try.func14, Try.ntmps14
  go_wp2_with fail
  refine (l2K k _).mono ?_
  rintro e w1 ⟨rfl, rfl⟩
  unfold kB at hk
  rw [hk]
  clear hk
  go_wp2_with fail
  refine bodyPost_ret (v := intsRes 2 (.slice none 0 0)) (by simp [results, Try.results14, go_sem, intsRes]) rfl ⟨rfl, ?_⟩
  exact (Below.refl _ _).alloc (Nat.le_refl _) _

set_option maxRecDepth 100000 in
set_option maxHeartbeats 1000000 in
theorem modelBest_bad (v : Value) (hs : List (Int × Int)) (k : Int) (w : World) (h : IsHits w v hs) (hk : kB k = true) (hn : hs.length ≤ 200) (ho : hs.all oneB = false) :
    Calls Try.prog 14 #[v, .int .i64 k] w fun e w' => e = .returned (intsRes 3 (.slice none 0 0)) ∧ Below w.heap.size w w' := by
  obtain ⟨ao, cap, rfl, h1, h2, hwf, hc⟩ := h
  have HO := hide ho
  clear hwf ho h1 h2
  go_enter Try.func14, Try.ntmps14
  go_wp2_with fail
  refine (l2K k _).mono ?_
  rintro e w1 ⟨rfl, rfl⟩
  unfold kB at hk
  rw [hk]
  have e2 : decide ((200 : Int) < (hs.length : Int)) = false := by simp; omega
  clear hk
  go_wp2_with fail
  generalize hwa : w.alloc (.cells #[.int .i64 0, .slice none 0 0] 28) = wa at *
  go_loopw [5] (fun i wr => ∃ j : Nat, j ≤ hs.length ∧ i = .int .i64 j ∧ (hs.take j).all oneB = true ∧ Below wa.heap.size wa wr) (fun i _ => hs.length - (intOf i).toNat)
  case atStart => exact ⟨0, Nat.zero_le _, rfl, by simp, Below.refl _ _⟩
  case round =>
    obtain ⟨j, hj, rfl, hall, hB⟩ := hrel
    by_cases hlt : j < hs.length
    · have ba : Below w.heap.size w wa := by rw [← hwa]; exact (Below.refl _ _).alloc (Nat.le_refl _) _
      have bw : Below w.heap.size w wr := below_keep2 ba hB
      obtain ⟨x, y, hxy⟩ : ∃ x y, hs[j]? = some (x, y) := ⟨hs[j].1, hs[j].2, by simp [hlt]⟩
      obtain ⟨b, off, rfl, hc1⟩ := hc (by omega)
      have c1 := (bw.cell (World.block_lt_of_cell? _ _ (hc1 j x y hxy).1)).trans (hc1 j x y hxy).1
      have c2 := (bw.cell (World.block_lt_of_cell? _ _ (hc1 j x y hxy).2)).trans (hc1 j x y hxy).2
      have HX := hide hxy
      have HA := hide hall
      have HB := hide hB
      have HBW := hide bw
      have HWA := hide hwa
      clear hc hc1 hxy hB ba bw hwa hall
      go_wp2_with fail
      refine (l2One x y _).mono ?_
      rintro e w2 ⟨rfl, hb2⟩
      have HB2 := hide (below_keep2 (unhide HB) hb2)
      have HBW2 := hide (below_keep2 (unhide HBW) hb2)
      clear hb2 HB HBW c1 c2
      cases hone : oneB (x, y) with
      | true =>
        have hn1 : (hs.take (j + 1)).all oneB = true := by
          have he : hs[j] = (x, y) := by simpa [hlt] using unhide HX
          rw [List.take_succ_eq_append_getElem hlt, he, List.all_append, unhide HA]
          simp [hone]
        have HN := hide hn1
        clear hn1 hone HX HA
        go_wp2_with fail
        go_roundw
        case rel => exact ⟨j + 1, by omega, by go_num, unhide HN, unhide HB2⟩
        case measure => simp [intOf]; omega
      | false =>
        have hb3 := unhide HB2
        rw [← unhide HWA] at hb3
        obtain ⟨z0, z1, z2, z3⟩ := resVar hb3
        clear hone HX HA hb3 HB2
        go_wp2_with fail
        refine bodyPost_ret (v := intsRes 3 (.slice none 0 0)) (by simp [results, Try.results14, go_sem, intsRes, z0, z1]) rfl ⟨rfl, ?_⟩
        exact ((unhide HBW2).setCell (by simp) _).setCell (by simp) _
    · obtain rfl : j = hs.length := by omega
      rw [List.take_length] at hall
      have := unhide HO
      rw [hall] at this
      cases this

/-- BestOf of the model. -/
theorem modelBest (v : Value) (hs : List (Int × Int)) (k : Int) (w : World) (h : IsHits w v hs) :
    Calls Try.prog 14 #[v, .int .i64 k] w fun e w' => ∃ r, e = .returned (intsRes (bestCode hs k) r) ∧ w'.ownsRow w.heap.size 31 2 r (bestList hs k).length (cells2 (bestList hs k)) ∧ Below w.heap.size w w' := by
  have empty : ∀ (c : Int), c ≠ 0 → bestCode hs k = c → ∀ e w', e = Ending.returned (intsRes c (.slice none 0 0)) ∧ Below w.heap.size w w' →
      ∃ r, e = .returned (intsRes (bestCode hs k) r) ∧ w'.ownsRow w.heap.size 31 2 r (bestList hs k).length (cells2 (bestList hs k)) ∧ Below w.heap.size w w' := by
    rintro c hc hb e w' ⟨rfl, hbl⟩
    have e1 : bestList hs k = [] := by simp [bestList, hb, hc]
    rw [e1, hb]
    exact ⟨_, rfl, World.ownsRow_nil _ _ _ _, hbl⟩
  cases hk : kB k with
  | false => exact (modelBest_k v k w hk).mono fun e w' => empty 3 (by omega) (by simp [bestCode, hk]) e w'
  | true =>
    by_cases hn : 200 < hs.length
    · have h' := h
      obtain ⟨ao, cap, rfl, _⟩ := h'
      exact (modelBest_many ao hs.length cap k w hk hn).mono fun e w' => empty 2 (by omega) (by simp [bestCode, hk, hn]) e w'
    · cases ho : hs.all oneB with
      | false => exact (modelBest_bad v hs k w h hk (by omega) ho).mono fun e w' => empty 3 (by omega) (by simp only [bestCode, hk, hn, ho]; simp) e w'
      | true =>
        have hkk : 0 ≤ k ∧ k ≤ 20 := by simpa [kB] using hk
        obtain ⟨m, rfl⟩ : ∃ m : Nat, k = m := ⟨k.toNat, by omega⟩
        have e0 : bestCode hs m = 0 := by simp only [bestCode, hk, hn, ho]; simp
        have e1 : bestList hs m = best m hs := by simp [bestList, e0]
        rw [e0, e1]
        exact modelBest_ok v hs m w h (by omega) (by omega) ho

end Go.Proofs.Ytplhhdnmhcnhgaa
