/-
  The model's l4Asked and l4At: what is wrong with a table and an Id; the place of an item. Nothing old is written.
  No condition.
-/
import Derived.Test.YteekfapjfpkidabSpecTab
import Derived.Test.YteekfapjfpkidabTabGround
namespace Go.Proofs.Yteekfapjfpkidab
open Go.RowKit

def askF (xs : List DItem) (id : Int) : Int := if tableFault xs = 0 then (if idB id then 0 else 3) else tableFault xs
theorem find_first {xs : List DItem} {id : Int} (k : Nat) (hk : k < xs.length) (h : ∀ j (hj : j < xs.length), j < k → xs[j].id ≠ id) (e : xs[k].id = id) : xs.find? (fun x => x.id == id) = some xs[k] := by
  induction xs generalizing k with
  | nil => simp at hk
  | cons x xs ih =>
    match k with
    | 0 => rw [List.find?_cons_of_pos (by simpa using e)]; rfl
    | k + 1 =>
      have h0 : x.id ≠ id := h 0 (by simp) (by omega)
      rw [List.find?_cons_of_neg (by simpa using h0)]
      exact ih k (by simpa using hk) (fun j hj hjk => h (j + 1) (by simpa using hj) (by omega)) (by simpa using e)
theorem has_none {xs : List DItem} {id : Int} (h : ∀ j (hj : j < xs.length), xs[j].id ≠ id) : hasI xs id = false := by
  simp only [hasI, List.any_eq_false, beq_iff_eq]
  intro x hx
  obtain ⟨j, hj, rfl⟩ := List.getElem_of_mem hx
  exact h j hj

theorem specAsked (v : Value) (xs : List DItem) (id : Int) (w : World) (h : (Lay.sl Lay.tItem).Reads w [v] xs) :
    Calls Try.prog 70 #[v, .int .i64 id] w fun e w' => e = .returned (.int .i64 (askF xs id)) ∧ Below w.heap.size w w' := by
  have L := hide (specTab v xs w h)
  obtain ⟨ao, cap, rfl⟩ := open_sl h
  clear h
  go_enter Try.func70, Try.ntmps70
  go_wp2_with fail
  refine (unhide L).mono ?_
  rintro e w1 ⟨rfl, hb⟩
  have HB := hide hb
  clear hb L
  by_cases hf : tableFault xs = 0
  · rw [hf]
    have e0 : askF xs id = if idB id then 0 else 3 := by rw [askF, if_pos hf]
    clear hf
    go_wp2_with fail
    refine (idC id _).mono ?_
    rintro e w1 ⟨rfl, rfl⟩
    rw [show (decide (1 ≤ id) && decide (id ≤ 999)) = idB id from rfl]
    cases hid : idB id with
    | false =>
      have HE : Hid (askF xs id = 3) := by show askF xs id = 3; rw [e0, hid]; rfl
      clear e0 hid
      go_wp2_with fail
      go_ret
      exact ⟨by rw [unhide HE]; rfl, unhide HB⟩
    | true =>
      have HE : Hid (askF xs id = 0) := by show askF xs id = 0; rw [e0, hid]; rfl
      clear e0 hid
      go_wp2_with fail
      go_ret
      exact ⟨by rw [unhide HE]; rfl, unhide HB⟩
  · have HE : Hid (askF xs id = tableFault xs) := by show askF xs id = tableFault xs; rw [askF, if_neg hf]
    have hd : (tableFault xs != 0) = true := by simpa using hf
    clear hf
    go_wp2_with fail
    go_ret
    exact ⟨by rw [unhide HE]; rfl, unhide HB⟩

/-- Where an item is: its place, or -1. -/
def AtI (xs : List DItem) (id r : Int) : Prop := (r = -1 ∧ hasI xs id = false) ∨ ∃ (k : Nat) (h : k < xs.length), r = k ∧ xs.find? (fun x => x.id == id) = some xs[k]

set_option maxRecDepth 10000 in
set_option maxHeartbeats 1000000 in
theorem specAt_pos (b off cap : Nat) (xs : List DItem) (id : Int) (w : World) (h : (Lay.sl Lay.tItem).Reads w [.slice (some ⟨b, off, none⟩) xs.length cap] xs) :
    Calls Try.prog 72 #[.slice (some ⟨b, off, none⟩) xs.length cap, .int .i64 id] w fun e w' => (∃ r, e = .returned (.int .i64 r) ∧ AtI xs id r) ∧ w' = w := by
  have hbig := h.big
  have H := hide h
  clear h
  go_enter Try.func72, Try.ntmps72
  go_wp2_with fail
  go_loop [5] (fun i => ∃ k : Nat, k ≤ xs.length ∧ i = .int .i64 k ∧ ∀ j (hj : j < xs.length), j < k → xs[j].id ≠ id) (fun i => xs.length - (intOf i).toNat)
  case atStart => exact ⟨0, Nat.zero_le _, rfl, fun j _ hj => by omega⟩
  case round =>
    obtain ⟨k, hk, rfl, hq⟩ := hrel
    have HQ := hide hq
    clear hq
    by_cases hlt : k < xs.length
    · obtain ⟨row, hc, hr⟩ := Lay.row_at (unhide H) hlt
      obtain ⟨a1, d1, rfl, -⟩ := open_Item hr
      have c0 : w.cell? ⟨b, off + k * 2, none⟩ = some (.int .i64 (xs[k]).id) := hc 0 (by decide)
      clear hc hr
      by_cases e : xs[k].id = id
      · have HA : Hid (AtI xs id k) := Or.inr ⟨k, hlt, rfl, find_first k hlt (unhide HQ) e⟩
        have hd : (xs[k].id == id) = true := by simpa using e
        clear e
        go_wp2_with fail
        go_ret
        exact ⟨⟨_, rfl, unhide HA⟩, rfl⟩
      · have hd : (xs[k].id == id) = false := by simpa using e
        have HE := hide e
        clear e
        go_wp2_with fail
        go_round
        case rel =>
          refine ⟨k + 1, by omega, by go_num, fun j hj hjk => ?_⟩
          by_cases hjk2 : j < k
          · exact unhide HQ j hj hjk2
          · obtain rfl : j = k := by omega
            exact unhide HE
        case measure => simp [intOf]; omega
    · have HA : Hid (AtI xs id (-1)) := Or.inl ⟨rfl, has_none fun j hj => unhide HQ j hj (by omega)⟩
      clear H HQ
      go_wp2_with fail
      go_ret
      exact ⟨⟨_, rfl, unhide HA⟩, rfl⟩

/-- l4At of the model. -/
theorem specAt (v : Value) (xs : List DItem) (id : Int) (w : World) (h : (Lay.sl Lay.tItem).Reads w [v] xs) :
    Calls Try.prog 72 #[v, .int .i64 id] w fun e w' => (∃ r, e = .returned (.int .i64 r) ∧ AtI xs id r) ∧ w' = w := by
  obtain ⟨ao, cap, rfl⟩ := open_sl h
  by_cases hp : 0 < xs.length
  · obtain ⟨b, off, rfl, hbl⟩ := Lay.sl_addr h hp
    exact specAt_pos b off cap xs id w h
  · obtain rfl : xs = [] := List.eq_nil_of_length_eq_zero (by omega)
    clear h hp
    go_enter Try.func72, Try.ntmps72
    go_wp2_with fail
    refine wp_loop_rounds 1 ?_
    rw [rounds_succ]
    go_wp2_with fail
    go_ret
    exact ⟨⟨_, rfl, Or.inl ⟨rfl, rfl⟩⟩, rfl⟩

end Go.Proofs.Yteekfapjfpkidab
