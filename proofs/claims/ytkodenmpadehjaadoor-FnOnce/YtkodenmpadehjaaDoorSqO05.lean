/-
  Texts of this proof in one: WrFault, WrZero, ApplyPlain, SessPlain, SpecWs, SpecLast5, Draw5, DrawB5, NextBig.
  Their conditions stand in their theorems.
-/
import Derived.Test.YtkodenmpadehjaaDoorSqO04
import Derived.Test.YtkodenmpadehjaaDoorSqO03
import Derived.Test.YtkodenmpadehjaaDoorSqO01
import Derived.Deep.CutRange
import Derived.WalkKit
import Derived.OpenShut
import Derived.Test.YtkodenmpadehjaaDoorSqO02

namespace Go.Proofs.YtkodenmpadehjaaDoor
open Go.RowKit

def kindB (k : Int) (n : Nat) : Bool := (decide (1 ≤ k) && decide (k ≤ 2)) && !(k == 2 && decide (0 < (n : Int)))
def boundB (i s q : Int) : Bool := (decide (1 ≤ i) && decide (i ≤ 999)) && ((decide (1 ≤ s) && decide (s ≤ 9)) && (decide (1 ≤ q) && decide (q ≤ 999)))
/-- What is wrong with a write. -/
def writeFault (k i : Int) (zs : List Int) (s q : Int) : Int :=
  if kindB k zs.length then (if boundB i s q then (if k = 1 then vecFault zs else 0) else 3) else 1

/-- The write that the pointer b points at. -/
def WriteAt (w : World) (b : Nat) (k i : Int) (v : Value) (s q : Int) : Prop :=
  w.cell? ⟨b, 0, none⟩ = some (.int .i64 k) ∧ w.cell? ⟨b, 1, none⟩ = some (.int .i64 i) ∧ w.cell? ⟨b, 2, none⟩ = some v ∧ w.cell? ⟨b, 3, none⟩ = some (.int .i64 s) ∧ w.cell? ⟨b, 4, none⟩ = some (.int .i64 q)
theorem WriteAt.later {w w' : World} {b : Nat} {k i s q : Int} {v : Value} (h : WriteAt w b k i v s q) (hb : Below w.heap.size w w') : WriteAt w' b k i v s q :=
  ⟨cell_keep hb h.1, cell_keep hb h.2.1, cell_keep hb h.2.2.1, cell_keep hb h.2.2.2.1, cell_keep hb h.2.2.2.2⟩

/-- The write at an element's place. -/
def WriteAtO (w : World) (b o : Nat) (k i : Int) (v : Value) (s q : Int) : Prop :=
  w.cell? ⟨b, o, none⟩ = some (.int .i64 k) ∧ w.cell? ⟨b, o + 1, none⟩ = some (.int .i64 i) ∧ w.cell? ⟨b, o + 2, none⟩ = some v ∧ w.cell? ⟨b, o + 3, none⟩ = some (.int .i64 s) ∧ w.cell? ⟨b, o + 4, none⟩ = some (.int .i64 q)

set_option maxRecDepth 100000 in
set_option maxHeartbeats 1000000 in
theorem l3FaultO (b o : Nat) (k i : Int) (v : Value) (s q : Int) (zs : List Int) (w : World) (hc : WriteAtO w b o k i v s q) (h : IsInts w v zs) :
    Calls Tryd.prog 38 #[.pointer (some ⟨b, o, none⟩)] w fun e w' => e = .returned (.int .i64 (writeFault k i zs s q)) ∧ w' = w := by
  have hv : ∃ a c, v = .slice a zs.length c := by obtain ⟨a, c, h, -⟩ := h; exact ⟨a, c, h⟩
  obtain ⟨av, cv, rfl⟩ := hv
  obtain ⟨c0, c1, c2, c3, c4⟩ := hc
  have HH := hide h
  clear h
  generalize hF : writeFault k i zs s q = F
  have HF := hide hF
  clear hF
  cases d1 : (decide (1 ≤ k) && decide (k ≤ 2)) with
  | false =>
    have hE : F = 1 := by rw [← unhide HF, writeFault, kindB, d1]; rfl
    subst hE
    go_enter Tryd.func38, Tryd.ntmps38
    go_wp2_with fail
    refine (inC k 1 2 _).mono ?_
    rintro e w1 ⟨rfl, rfl⟩
    rw [d1]
    go_wp2_with fail
    go_ret
    exact ⟨rfl, rfl⟩
  | true =>
    have hk : k = 1 ∨ k = 2 := by
      simp only [Bool.and_eq_true, decide_eq_true_eq] at d1
      omega
    clear d1
    rcases hk with rfl | rfl
    · have hK : kindB 1 zs.length = true := rfl
      cases dI : (decide (1 ≤ i) && decide (i ≤ 999)) with
      | false =>
        have hE : F = 3 := by rw [← unhide HF, writeFault, hK, if_pos rfl, boundB, dI]; rfl
        subst hE
        go_enter Tryd.func38, Tryd.ntmps38
        go_wp2_with fail
        refine (inC 1 1 2 _).mono ?_
        rintro e w1 ⟨rfl, rfl⟩
        go_wp2_with fail
        refine (idC i _).mono ?_
        rintro e w1 ⟨rfl, rfl⟩
        rw [dI]
        go_wp2_with fail
        go_ret
        exact ⟨rfl, rfl⟩
      | true =>
        cases dS : (decide (1 ≤ s) && decide (s ≤ 9)) with
        | false =>
          have hE : F = 3 := by rw [← unhide HF, writeFault, hK, if_pos rfl, boundB, dI, dS]; rfl
          subst hE
          go_enter Tryd.func38, Tryd.ntmps38
          go_wp2_with fail
          refine (inC 1 1 2 _).mono ?_
          rintro e w1 ⟨rfl, rfl⟩
          go_wp2_with fail
          refine (idC i _).mono ?_
          rintro e w1 ⟨rfl, rfl⟩
          rw [dI]
          go_wp2_with fail
          refine (sessionC s _).mono ?_
          rintro e w1 ⟨rfl, rfl⟩
          rw [dS]
          go_wp2_with fail
          go_ret
          exact ⟨rfl, rfl⟩
        | true =>
          cases dQ : (decide (1 ≤ q) && decide (q ≤ 999)) with
          | false =>
            have hE : F = 3 := by rw [← unhide HF, writeFault, hK, if_pos rfl, boundB, dI, dS, dQ]; rfl
            subst hE
            go_enter Tryd.func38, Tryd.ntmps38
            go_wp2_with fail
            refine (inC 1 1 2 _).mono ?_
            rintro e w1 ⟨rfl, rfl⟩
            go_wp2_with fail
            refine (idC i _).mono ?_
            rintro e w1 ⟨rfl, rfl⟩
            rw [dI]
            go_wp2_with fail
            refine (sessionC s _).mono ?_
            rintro e w1 ⟨rfl, rfl⟩
            rw [dS]
            go_wp2_with fail
            refine (inC q 1 999 _).mono ?_
            rintro e w1 ⟨rfl, rfl⟩
            rw [dQ]
            go_wp2_with fail
            go_ret
            exact ⟨rfl, rfl⟩
          | true =>
            have hE : F = vecFault zs := by rw [← unhide HF, writeFault, hK, if_pos rfl, boundB, dI, dS, dQ]; rfl
            subst hE
            go_enter Tryd.func38, Tryd.ntmps38
            go_wp2_with fail
            refine (inC 1 1 2 _).mono ?_
            rintro e w1 ⟨rfl, rfl⟩
            go_wp2_with fail
            refine (idC i _).mono ?_
            rintro e w1 ⟨rfl, rfl⟩
            rw [dI]
            go_wp2_with fail
            refine (sessionC s _).mono ?_
            rintro e w1 ⟨rfl, rfl⟩
            rw [dS]
            go_wp2_with fail
            refine (inC q 1 999 _).mono ?_
            rintro e w1 ⟨rfl, rfl⟩
            rw [dQ]
            go_wp2_with fail
            refine (modelFault _ zs _ (unhide HH)).mono ?_
            rintro e w1 ⟨rfl, rfl⟩
            go_wp2_with fail
            go_ret
            exact ⟨rfl, rfl⟩
    · by_cases hz : zs.length = 0
      · obtain rfl : zs = [] := List.eq_nil_of_length_eq_zero hz
        have hK : kindB 2 ([] : List Int).length = true := rfl
        simp only [List.length_nil] at c2 hK
        clear hz
        cases dI : (decide (1 ≤ i) && decide (i ≤ 999)) with
        | false =>
          have hE : F = 3 := by rw [← unhide HF, writeFault, show kindB 2 ([] : List Int).length = true from rfl, if_pos rfl, boundB, dI]; rfl
          subst hE
          go_enter Tryd.func38, Tryd.ntmps38
          go_wp2_with fail
          refine (inC 2 1 2 _).mono ?_
          rintro e w1 ⟨rfl, rfl⟩
          go_wp2_with fail
          refine (idC i _).mono ?_
          rintro e w1 ⟨rfl, rfl⟩
          rw [dI]
          go_wp2_with fail
          go_ret
          exact ⟨rfl, rfl⟩
        | true =>
          cases dS : (decide (1 ≤ s) && decide (s ≤ 9)) with
          | false =>
            have hE : F = 3 := by rw [← unhide HF, writeFault, show kindB 2 ([] : List Int).length = true from rfl, if_pos rfl, boundB, dI, dS]; rfl
            subst hE
            go_enter Tryd.func38, Tryd.ntmps38
            go_wp2_with fail
            refine (inC 2 1 2 _).mono ?_
            rintro e w1 ⟨rfl, rfl⟩
            go_wp2_with fail
            refine (idC i _).mono ?_
            rintro e w1 ⟨rfl, rfl⟩
            rw [dI]
            go_wp2_with fail
            refine (sessionC s _).mono ?_
            rintro e w1 ⟨rfl, rfl⟩
            rw [dS]
            go_wp2_with fail
            go_ret
            exact ⟨rfl, rfl⟩
          | true =>
            cases dQ : (decide (1 ≤ q) && decide (q ≤ 999)) with
            | false =>
              have hE : F = 3 := by rw [← unhide HF, writeFault, show kindB 2 ([] : List Int).length = true from rfl, if_pos rfl, boundB, dI, dS, dQ]; rfl
              subst hE
              go_enter Tryd.func38, Tryd.ntmps38
              go_wp2_with fail
              refine (inC 2 1 2 _).mono ?_
              rintro e w1 ⟨rfl, rfl⟩
              go_wp2_with fail
              refine (idC i _).mono ?_
              rintro e w1 ⟨rfl, rfl⟩
              rw [dI]
              go_wp2_with fail
              refine (sessionC s _).mono ?_
              rintro e w1 ⟨rfl, rfl⟩
              rw [dS]
              go_wp2_with fail
              refine (inC q 1 999 _).mono ?_
              rintro e w1 ⟨rfl, rfl⟩
              rw [dQ]
              go_wp2_with fail
              go_ret
              exact ⟨rfl, rfl⟩
            | true =>
              have hE : F = 0 := by rw [← unhide HF, writeFault, show kindB 2 ([] : List Int).length = true from rfl, if_pos rfl, boundB, dI, dS, dQ]; rfl
              subst hE
              go_enter Tryd.func38, Tryd.ntmps38
              go_wp2_with fail
              refine (inC 2 1 2 _).mono ?_
              rintro e w1 ⟨rfl, rfl⟩
              go_wp2_with fail
              refine (idC i _).mono ?_
              rintro e w1 ⟨rfl, rfl⟩
              rw [dI]
              go_wp2_with fail
              refine (sessionC s _).mono ?_
              rintro e w1 ⟨rfl, rfl⟩
              rw [dS]
              go_wp2_with fail
              refine (inC q 1 999 _).mono ?_
              rintro e w1 ⟨rfl, rfl⟩
              rw [dQ]
              go_wp2_with fail
              go_ret
              exact ⟨rfl, rfl⟩
      · have hE : F = 1 := by
          have : kindB 2 zs.length = false := by simp [kindB]; omega
          rw [← unhide HF, writeFault, this]; rfl
        subst hE
        obtain ⟨m, hm⟩ : ∃ m, zs.length = m + 1 := ⟨zs.length - 1, by omega⟩
        rw [hm] at c2
        clear hz hm
        go_enter Tryd.func38, Tryd.ntmps38
        go_wp2_with fail
        refine (inC 2 1 2 _).mono ?_
        rintro e w1 ⟨rfl, rfl⟩
        go_wp2_with fail
        go_ret
        exact ⟨rfl, rfl⟩

theorem l3Fault (b : Nat) (k i : Int) (v : Value) (s q : Int) (zs : List Int) (w : World) (hc : WriteAt w b k i v s q) (h : IsInts w v zs) :
    Calls Tryd.prog 38 #[.pointer (some ⟨b, 0, none⟩)] w fun e w' => e = .returned (.int .i64 (writeFault k i zs s q)) ∧ w' = w :=
  l3FaultO b 0 k i v s q zs w hc h

end Go.Proofs.YtkodenmpadehjaaDoor

namespace Go.Proofs.YtkodenmpadehjaaDoor
open Go.RowKit

/-- A write without a fault. -/
theorem writeFault_zero {k i s q : Int} {zs : List Int} (h : writeFault k i zs s q = 0) : (1 ≤ i ∧ i ≤ 999) ∧ (1 ≤ s ∧ s ≤ 9) ∧ (1 ≤ q ∧ q ≤ 999) ∧ ((k = 1 ∧ vecFault zs = 0) ∨ (k = 2 ∧ zs = [])) := by
  unfold writeFault at h
  split at h
  · next hk =>
    split at h
    · next hb =>
      simp only [kindB, Bool.and_eq_true, decide_eq_true_eq, Bool.not_eq_true', Bool.and_eq_false_iff] at hk
      simp only [boundB, Bool.and_eq_true, decide_eq_true_eq] at hb
      refine ⟨hb.1, hb.2.1, hb.2.2, ?_⟩
      by_cases h1 : k = 1
      · rw [if_pos h1] at h
        exact Or.inl ⟨h1, h⟩
      · have h2 : k = 2 := by omega
        refine Or.inr ⟨h2, ?_⟩
        rcases hk.2 with h3 | h3
        · simp [h2] at h3
        · simp at h3
          exact h3
    · omega
  · omega

end Go.Proofs.YtkodenmpadehjaaDoor

namespace Go.Proofs.YtkodenmpadehjaaDoor
open Go.RowKit

def wF (x : DWrite) : Int := writeFault x.kind x.id x.vec x.session x.seq
def applyI (xs : List DItem) (x : DWrite) : List DItem := if x.kind = 2 then dropI xs x.id else if roomB xs x.id then putI xs x.id x.vec else xs
def ofI (ws : List DWrite) : List DItem := ws.foldl applyI []
def wsFrom : List DWrite → Int
  | [] => 0
  | x :: xs => if wF x = 0 then wsFrom xs else wF x
def writesF (ws : List DWrite) : Int := if 200 < ws.length then 2 else wsFrom ws
def applyR (xs : List DItem) (x : DWrite) : DTableResult := if tableFault xs = 0 then (if wF x = 0 then ⟨0, applyI xs x⟩ else ⟨wF x, []⟩) else ⟨tableFault xs, []⟩
def tableOfR (ws : List DWrite) : DTableResult := if writesF ws = 0 then ⟨0, ofI ws⟩ else ⟨writesF ws, []⟩

theorem idB_of {z : Int} (h : 1 ≤ z ∧ z ≤ 999) : idB z = true := by simp only [idB, Bool.and_eq_true, decide_eq_true_eq]; exact h
theorem right_apply {xs : List DItem} (h : Right xs) {x : DWrite} (hx : wF x = 0) : Right (applyI xs x) := by
  obtain ⟨hi, -, -, hk⟩ := writeFault_zero hx
  unfold applyI
  split
  · exact right_drop h _
  · rename_i h2
    split
    · rename_i hr
      rcases hk with ⟨-, hv⟩ | ⟨hk, -⟩
      · exact right_put h (idB_of hi) hv (room_true hr)
      · exact absurd hk h2
    · exact h
theorem ofI_snoc (ws : List DWrite) (k : Nat) (h : k < ws.length) : ofI (ws.take (k + 1)) = applyI (ofI (ws.take k)) ws[k] := by
  rw [ofI, List.take_succ_eq_append_getElem h, List.foldl_append]
  rfl
theorem right_of_writes (ws : List DWrite) (h : ∀ x ∈ ws, wF x = 0) : Right (ofI ws) := by
  have : ∀ (ys : List DWrite) (xs : List DItem), Right xs → (∀ x ∈ ys, wF x = 0) → Right (ys.foldl applyI xs) := by
    intro ys
    induction ys with
    | nil => intro xs hx _; exact hx
    | cons y ys ih =>
      intro xs hx hy
      exact ih _ (right_apply hx (hy y (by simp))) fun x hx => hy x (List.mem_cons_of_mem _ hx)
  exact this ws [] right_nil h
theorem wsFrom_at (ws : List DWrite) (k : Nat) (h : k < ws.length) (hz : ∀ j (hj : j < ws.length), j < k → wF ws[j] = 0) (hn : wF ws[k] ≠ 0) : wsFrom ws = wF ws[k] := by
  induction ws generalizing k with
  | nil => simp at h
  | cons x xs ih =>
    match k with
    | 0 => rw [wsFrom, if_neg (by simpa using hn)]; rfl
    | k + 1 =>
      have h0 : wF x = 0 := hz 0 (by simp) (by omega)
      rw [wsFrom, if_pos h0]
      exact ih k (by simpa using h) (fun j hj hjk => hz (j + 1) (by simpa using hj) (by omega)) (by simpa using hn)
theorem wsFrom_all (ws : List DWrite) (hz : ∀ j (hj : j < ws.length), wF ws[j] = 0) : wsFrom ws = 0 := by
  induction ws with
  | nil => rfl
  | cons x xs ih =>
    have h0 : wF x = 0 := hz 0 (by simp)
    rw [wsFrom, if_pos h0]
    exact ih fun j hj => hz (j + 1) (by simpa using hj)
theorem wsFrom_zero {ws : List DWrite} (h : wsFrom ws = 0) : ∀ x ∈ ws, wF x = 0 := by
  induction ws with
  | nil => simp
  | cons x xs ih =>
    rw [wsFrom] at h
    by_cases h0 : wF x = 0
    · rw [if_pos h0] at h
      intro y hy
      rcases List.mem_cons.1 hy with rfl | hy
      · exact h0
      · exact ih h y hy
    · rw [if_neg h0] at h; exact absurd h h0
theorem writesF_zero {ws : List DWrite} (h : writesF ws = 0) : ws.length ≤ 200 ∧ ∀ x ∈ ws, wF x = 0 := by
  unfold writesF at h
  by_cases hn : 200 < ws.length
  · rw [if_pos hn] at h; cases h
  · rw [if_neg hn] at h; exact ⟨by omega, wsFrom_zero h⟩
theorem wF_vals (x : DWrite) : 0 ≤ wF x ∧ wF x ≤ 3 := by
  have hv := vecFault_vals x.vec
  unfold wF writeFault
  split
  · split
    · split
      · exact hv
      · decide
    · decide
  · decide
theorem wF_wf (x : DWrite) : (Lit.int .i64 (wF x)).wf = true := wf_of_bd (by have := wF_vals x; omega)
theorem wsFrom_vals (ws : List DWrite) : 0 ≤ wsFrom ws ∧ wsFrom ws ≤ 3 := by
  induction ws with
  | nil => decide
  | cons x xs ih =>
    rw [wsFrom]
    split
    · exact ih
    · exact wF_vals x
theorem writesF_wf (ws : List DWrite) : (Lit.int .i64 (writesF ws)).wf = true := by
  have := wsFrom_vals ws
  unfold writesF
  split
  · decide
  · exact wf_of_bd (by omega)

end Go.Proofs.YtkodenmpadehjaaDoor

namespace Go.Proofs.YtkodenmpadehjaaDoor
open Go.RowKit

def ofB (s : Int) (x : DWrite) : Bool := decide (x.session = s)
def sameB (s q : Int) (x : DWrite) : Bool := decide (x.session = s) && decide (x.seq = q)
/-- The greatest number of a session. -/
def lastI (ws : List DWrite) (s : Int) : Int := ws.foldl (fun n x => if x.session = s then max n x.seq else n) 0
/-- How many writes there are up to the first one of a session and number; 0: there is none. -/
def seenFrom (s q : Int) : Nat → List DWrite → Nat
  | _, [] => 0
  | n, x :: xs => if x.session = s ∧ x.seq = q then n + 1 else seenFrom s q (n + 1) xs
def seenI (ws : List DWrite) (s q : Int) : Nat := seenFrom s q 0 ws
/-- Of each session the numbers rise. -/
def onceB : List DWrite → List DWrite → Bool
  | _, [] => true
  | pre, x :: xs => decide (lastI pre x.session < x.seq) && onceB (pre ++ [x]) xs
def askedF (ws : List DWrite) (s : Int) : Int := if writesF ws = 0 then (if 1 ≤ s ∧ s ≤ 9 then 0 else 3) else writesF ws

theorem lastI_nil (s : Int) : lastI [] s = 0 := rfl
theorem lastI_snoc (ws : List DWrite) (x : DWrite) (s : Int) : lastI (ws ++ [x]) s = if x.session = s then max (lastI ws s) x.seq else lastI ws s := by
  simp [lastI]
theorem lastI_take (ws : List DWrite) (k : Nat) (h : k < ws.length) (s : Int) : lastI (ws.take (k + 1)) s = if ws[k].session = s then max (lastI (ws.take k) s) ws[k].seq else lastI (ws.take k) s := by
  rw [List.take_succ_eq_append_getElem h, lastI_snoc]
theorem seenFrom_snoc (s q : Int) (x : DWrite) : ∀ (ws : List DWrite) (n : Nat), seenFrom s q n (ws ++ [x]) = if seenFrom s q n ws = 0 then (if x.session = s ∧ x.seq = q then n + ws.length + 1 else 0) else seenFrom s q n ws
  | [], n => by simp [seenFrom]
  | y :: ws, n => by
    rw [List.cons_append, seenFrom, seenFrom]
    by_cases h : y.session = s ∧ y.seq = q
    · rw [if_pos h, if_pos h, if_neg (by omega)]
    · rw [if_neg h, if_neg h, seenFrom_snoc s q x ws (n + 1)]
      simp only [List.length_cons]
      rw [show n + 1 + ws.length + 1 = n + (ws.length + 1) + 1 by omega]
theorem seenI_snoc (ws : List DWrite) (x : DWrite) (s q : Int) : seenI (ws ++ [x]) s q = if seenI ws s q = 0 then (if x.session = s ∧ x.seq = q then ws.length + 1 else 0) else seenI ws s q := by
  have := seenFrom_snoc s q x ws 0
  rw [Nat.zero_add] at this
  exact this
theorem seenI_le (ws : List DWrite) (s q : Int) : seenI ws s q ≤ ws.length := by
  have : ∀ (ws : List DWrite) (n : Nat), seenFrom s q n ws ≤ n + ws.length := by
    intro ws
    induction ws with
    | nil => intro n; simp [seenFrom]
    | cons x xs ih =>
      intro n
      rw [seenFrom]
      split
      · simp only [List.length_cons]; omega
      · have := ih (n + 1)
        simp only [List.length_cons]
        omega
  have := this ws 0
  rw [Nat.zero_add] at this
  exact this
theorem seenFrom_at (s q : Int) : ∀ (ws : List DWrite) (n k : Nat) (h : k < ws.length), (∀ j (hj : j < ws.length), j < k → ¬ (ws[j].session = s ∧ ws[j].seq = q)) → (ws[k].session = s ∧ ws[k].seq = q) → seenFrom s q n ws = n + k + 1
  | [], _, _, h, _, _ => by simp at h
  | x :: xs, n, 0, _, _, hk => by rw [seenFrom, if_pos (by simpa using hk)]
  | x :: xs, n, k + 1, h, hn, hk => by
    have h0 := hn 0 (by simp) (by omega)
    rw [seenFrom, if_neg (by simpa using h0), seenFrom_at s q xs (n + 1) k (by simpa using h) (fun j hj hjk => by have := hn (j + 1) (by simpa using hj) (by omega); simpa using this) (by simpa using hk)]
    omega
theorem seenI_at {s q : Int} {ws : List DWrite} {k : Nat} (h : k < ws.length) (hn : ∀ j (hj : j < ws.length), j < k → ¬ (ws[j].session = s ∧ ws[j].seq = q)) (hk : ws[k].session = s ∧ ws[k].seq = q) : seenI ws s q = k + 1 := by
  have := seenFrom_at s q ws 0 k h hn hk
  rw [Nat.zero_add] at this
  exact this
theorem seenI_none {s q : Int} {ws : List DWrite} (hn : ∀ j (hj : j < ws.length), ¬ (ws[j].session = s ∧ ws[j].seq = q)) : seenI ws s q = 0 := by
  have : ∀ (ws : List DWrite) (n : Nat), (∀ j (hj : j < ws.length), ¬ (ws[j].session = s ∧ ws[j].seq = q)) → seenFrom s q n ws = 0 := by
    intro ws
    induction ws with
    | nil => intro n _; rfl
    | cons x xs ih =>
      intro n hn
      have h0 := hn 0 (by simp)
      rw [seenFrom, if_neg (by simpa using h0)]
      exact ih (n + 1) fun j hj => by have := hn (j + 1) (by simpa using hj); simpa using this
  exact this ws 0 hn
theorem seenI_zero {ws : List DWrite} {s q : Int} (h : seenI ws s q = 0) : ∀ x ∈ ws, ¬ (x.session = s ∧ x.seq = q) := by
  have : ∀ (ws : List DWrite) (n : Nat), seenFrom s q n ws = 0 → ∀ x ∈ ws, ¬ (x.session = s ∧ x.seq = q) := by
    intro ws
    induction ws with
    | nil => intro n _ x hx; simp at hx
    | cons y xs ih =>
      intro n h x hx
      rw [seenFrom] at h
      split at h
      · omega
      · rename_i hy
        rcases List.mem_cons.1 hx with rfl | hx
        · exact hy
        · exact ih (n + 1) h x hx
  exact this ws 0 h
theorem lastI_nonneg (ws : List DWrite) (s : Int) : 0 ≤ lastI ws s := by
  have : ∀ (ws : List DWrite) (n : Int), 0 ≤ n → 0 ≤ ws.foldl (fun n x => if x.session = s then max n x.seq else n) n := by
    intro ws
    induction ws with
    | nil => intro n h; exact h
    | cons x xs ih =>
      intro n h
      rw [List.foldl_cons]
      apply ih
      split <;> omega
  exact this ws 0 (Int.le_refl _)
theorem lastI_le (ws : List DWrite) (s : Int) (h : ∀ x ∈ ws, x.seq ≤ 999) : lastI ws s ≤ 999 := by
  have : ∀ (ws : List DWrite) (n : Int), n ≤ 999 → (∀ x ∈ ws, x.seq ≤ 999) → ws.foldl (fun n x => if x.session = s then max n x.seq else n) n ≤ 999 := by
    intro ws
    induction ws with
    | nil => intro n h _; exact h
    | cons x xs ih =>
      intro n h hx
      rw [List.foldl_cons]
      apply ih
      · have := hx x (by simp)
        split <;> omega
      · intro y hy; exact hx y (List.mem_cons_of_mem _ hy)
  exact this ws 0 (by omega) h
theorem onceB_at : ∀ (ws pre : List DWrite) (k : Nat) (h : k < ws.length), (ws[k]).seq ≤ lastI (pre ++ ws.take k) (ws[k]).session → onceB pre ws = false
  | [], _, _, h, _ => by simp at h
  | x :: xs, pre, 0, _, hk => by
    have : ¬ (lastI pre x.session < x.seq) := by simpa using hk
    simp [onceB, this]
  | x :: xs, pre, k + 1, h, hk => by
    rw [onceB, onceB_at xs (pre ++ [x]) k (by simpa using h) (by simpa using hk), Bool.and_false]
theorem onceB_all : ∀ (ws pre : List DWrite), (∀ k (h : k < ws.length), lastI (pre ++ ws.take k) (ws[k]).session < (ws[k]).seq) → onceB pre ws = true
  | [], _, _ => rfl
  | x :: xs, pre, h => by
    have h0 := h 0 (by simp)
    rw [onceB, onceB_all xs (pre ++ [x]) fun k hk => by have := h (k + 1) (by simpa using hk); simpa using this]
    simpa using h0
def onceR (ws : List DWrite) : Bool := decide (writesF ws = 0) && onceB [] ws
theorem wF_seq {x : DWrite} (h : wF x = 0) : 1 ≤ x.session ∧ x.session ≤ 9 ∧ 1 ≤ x.seq ∧ x.seq ≤ 999 := by
  obtain ⟨-, h1, h2, -⟩ := writeFault_zero h
  exact ⟨h1.1, h1.2, h2.1, h2.2⟩

end Go.Proofs.YtkodenmpadehjaaDoor

namespace Go.Proofs.YtkodenmpadehjaaDoor
open Go.RowKit

set_option maxRecDepth 10000 in
set_option maxHeartbeats 1000000 in
theorem specWrites_pos (b off cap : Nat) (ws : List DWrite) (w : World) (h : (Lay.sl Lay.tWrite).Reads w [.slice (some ⟨b, off, none⟩) ws.length cap] ws) (hbl : b < w.heap.size) (hn : ws.length ≤ 200) :
    Calls Tryd.prog 37 #[.slice (some ⟨b, off, none⟩) ws.length cap] w fun e w' => e = .returned (.int .i64 (writesF ws)) ∧ w' = w := by
  have HW : Hid (writesF ws = wsFrom ws) := by show writesF ws = wsFrom ws; rw [writesF, if_neg (by omega)]
  have H := hide h
  clear h
  go_enter Tryd.func37, Tryd.ntmps37
  go_wp2_with fail
  go_loop [3] (fun i => ∃ k : Nat, k ≤ ws.length ∧ i = .int .i64 k ∧ (∀ j (hj : j < ws.length), j < k → wF ws[j] = 0)) (fun i => ws.length - (intOf i).toNat)
  case atStart => exact ⟨0, Nat.zero_le _, rfl, fun j _ hj => by omega⟩
  case round =>
    obtain ⟨k, hk, rfl, hz⟩ := hrel
    by_cases hlt : k < ws.length
    · obtain ⟨row, hc, hr⟩ := Lay.row_at (unhide H) hlt
      obtain ⟨a2, d2, rfl, R2⟩ := open_Write hr
      have c0 : w.cell? ⟨b, off + k * 5, none⟩ = some (.int .i64 (ws[k]).kind) := ((Below.refl w.heap.size w).cell (p := ⟨b, off + k * 5, none⟩) hbl).trans (hc 0 (by decide))
      have c1 : w.cell? ⟨b, off + k * 5 + 1, none⟩ = some (.int .i64 (ws[k]).id) := ((Below.refl w.heap.size w).cell (p := ⟨b, off + k * 5 + 1, none⟩) hbl).trans (hc 1 (by decide))
      have c2 : w.cell? ⟨b, off + k * 5 + 2, none⟩ = some (.slice a2 (ws[k]).vec.length d2) := ((Below.refl w.heap.size w).cell (p := ⟨b, off + k * 5 + 2, none⟩) hbl).trans (hc 2 (by decide))
      have c3 : w.cell? ⟨b, off + k * 5 + 3, none⟩ = some (.int .i64 (ws[k]).session) := ((Below.refl w.heap.size w).cell (p := ⟨b, off + k * 5 + 3, none⟩) hbl).trans (hc 3 (by decide))
      have c4 : w.cell? ⟨b, off + k * 5 + 4, none⟩ = some (.int .i64 (ws[k]).seq) := ((Below.refl w.heap.size w).cell (p := ⟨b, off + k * 5 + 4, none⟩) hbl).trans (hc 4 (by decide))
      have HZ := hide hz
      have HAT : Hid (wF ws[k] ≠ 0 → writesF ws = wF ws[k]) := fun hn => (unhide HW).trans (wsFrom_at ws k hlt hz hn)
      have HZ2 : Hid (wF ws[k] = 0 → ∀ j (hj : j < ws.length), j < k + 1 → wF ws[j] = 0) := by
        intro h0 j hj hjk
        by_cases hjk2 : j < k
        · exact unhide HZ j hj hjk2
        · obtain rfl : j = k := by omega
          exact h0
      clear hc hr hz HZ
      generalize hx : ws[k] = x at *
      clear hx
      have L := l3FaultO b (off + k * 5) x.kind x.id _ x.session x.seq x.vec w ⟨c0, c1, c2, c3, c4⟩ (Lay.ints_reads R2)
      rw [show writeFault x.kind x.id x.vec x.session x.seq = wF x from rfl] at L
      have HL := hide L
      clear L R2 c0 c1 c2 c3 c4
      go_wp2_with fail
      refine (unhide HL).mono ?_
      rintro e w ⟨rfl, rfl⟩
      by_cases hf : wF x = 0
      · rw [hf]
        have HZ3 := hide (unhide HZ2 hf)
        clear hf HZ2 HAT HL
        go_wp2_with fail
        go_round
        case rel => exact ⟨k + 1, by omega, by go_num, unhide HZ3⟩
        case measure => simp [intOf]; omega
      · have hd : (wF x != 0) = true := by simpa using hf
        have HG := hide (unhide HAT hf)
        clear hf HZ2 HAT HL
        go_wp2_with fail
        go_ret
        exact ⟨by rw [unhide HG]; rfl, rfl⟩
    · have HG : Hid (writesF ws = 0) := (unhide HW).trans (wsFrom_all ws fun j hj => hz j hj (by omega))
      clear hz H
      go_wp2_with fail
      go_ret
      exact ⟨by rw [unhide HG]; rfl, rfl⟩

set_option maxRecDepth 10000 in
theorem specWrites (v : Value) (ws : List DWrite) (w : World) (h : (Lay.sl Lay.tWrite).Reads w [v] ws) :
    Calls Tryd.prog 37 #[v] w fun e w' => e = .returned (.int .i64 (writesF ws)) ∧ w' = w := by
  obtain ⟨ao, cap, rfl⟩ := open_sl h
  by_cases hn : ws.length ≤ 200
  · by_cases hp : 0 < ws.length
    · obtain ⟨b, off, rfl, hbl⟩ := Lay.sl_addr h hp
      exact specWrites_pos b off cap ws w h hbl hn
    · obtain rfl : ws = [] := List.eq_nil_of_length_eq_zero (by omega)
      clear h hn hp
      go_enter Tryd.func37, Tryd.ntmps37
      go_wp2_with fail
      refine wp_loop_rounds 1 ?_
      rw [rounds_succ]
      go_wp2_with fail
      go_ret
      exact ⟨rfl, rfl⟩
  · have e : writesF ws = 2 := by rw [writesF, if_pos (by omega)]
    rw [e]
    have hd : decide ((200 : Int) < (ws.length : Int)) = true := by simp; omega
    clear h e
    go_enter Tryd.func37, Tryd.ntmps37
    go_wp2_with fail
    go_ret
    exact ⟨rfl, rfl⟩

end Go.Proofs.YtkodenmpadehjaaDoor

namespace Go.Proofs.YtkodenmpadehjaaDoor
open Go.RowKit

theorem l1MaxC (x y : Int) (w : World) : Calls Tryd.prog 75 #[.int .i64 x, .int .i64 y] w fun e w' => e = .returned (.int .i64 (max x y)) ∧ w' = w := by
  by_cases h : y < x
  · have d : decide (y < x) = true := by simpa using h
    have e : max x y = x := by omega
    rw [e]
    go_enter Tryd.func75, Tryd.ntmps75
    go_wp2
    go_ret
    exact ⟨rfl, rfl⟩
  · have d : decide (y < x) = false := by simpa using h
    have e : max x y = y := by omega
    rw [e]
    go_enter Tryd.func75, Tryd.ntmps75
    go_wp2
    go_ret
    exact ⟨rfl, rfl⟩

set_option maxRecDepth 10000 in
set_option maxHeartbeats 1000000 in
theorem l5Last_pos (b off cap : Nat) (ws : List DWrite) (s : Int) (w : World) (h : (Lay.sl Lay.tWrite).Reads w [.slice (some ⟨b, off, none⟩) ws.length cap] ws) (hbl : b < w.heap.size) (hn : ws.length ≤ 10000000) :
    Calls Tryd.prog 64 #[.slice (some ⟨b, off, none⟩) ws.length cap, .int .i64 s] w fun e w' => e = .returned (.int .i64 (lastI ws s)) ∧ w' = w := by
  have H := hide h
  clear h
  go_enter Tryd.func64, Tryd.ntmps64
  go_wp2_with fail
  go_loop [5, 6] (fun m i => ∃ k : Nat, k ≤ ws.length ∧ i = .int .i64 k ∧ m = .int .i64 (lastI (ws.take k) s)) (fun _ i => ws.length - (intOf i).toNat)
  case atStart => exact ⟨0, Nat.zero_le _, rfl, rfl⟩
  case round =>
    obtain ⟨k, hk, rfl, rfl⟩ := hrel
    by_cases hlt : k < ws.length
    · obtain ⟨row, hc, hr⟩ := Lay.row_at (unhide H) hlt
      obtain ⟨a2, d2, rfl, R2⟩ := open_Write hr
      have c3 : w.cell? ⟨b, off + k * 5 + 3, none⟩ = some (.int .i64 (ws[k]).session) := hc 3 (by decide)
      have c4 : w.cell? ⟨b, off + k * 5 + 4, none⟩ = some (.int .i64 (ws[k]).seq) := hc 4 (by decide)
      have HT := hide (lastI_take ws k hlt s)
      clear hc hr R2
      generalize hx : ws[k] = x at *
      clear hx
      by_cases hs : x.session = s
      · have ds : (x.session == s) = true := by simpa using hs
        have HL := hide (fun W => l1MaxC (lastI (ws.take k) s) x.seq W)
        have HT2 : Hid (lastI (ws.take (k + 1)) s = max (lastI (ws.take k) s) x.seq) := by
          have := unhide HT
          rw [if_pos hs] at this
          exact this
        clear HT hs
        generalize hl : lastI (ws.take k) s = l at *
        clear hl
        go_wp2_with fail
        refine (unhide HL _).mono ?_
        rintro e w2 ⟨rfl, rfl⟩
        go_wp2_with fail
        go_round
        case rel => exact ⟨k + 1, by omega, by go_num, by rw [unhide HT2]⟩
        case measure => simp [intOf]; omega
      · have ds : (x.session == s) = false := by simpa using hs
        have HT2 : Hid (lastI (ws.take (k + 1)) s = lastI (ws.take k) s) := by
          have := unhide HT
          rw [if_neg hs] at this
          exact this
        clear HT hs
        go_wp2_with fail
        go_round
        case rel => exact ⟨k + 1, by omega, by go_num, by rw [unhide HT2]⟩
        case measure => simp [intOf]; omega
    · obtain rfl : k = ws.length := by omega
      rw [List.take_length]
      clear H
      go_wp2_with fail
      go_ret
      exact ⟨rfl, rfl⟩

theorem l5LastC (v : Value) (ws : List DWrite) (s : Int) (w : World) (h : (Lay.sl Lay.tWrite).Reads w [v] ws) (hn : ws.length ≤ 10000000) :
    Calls Tryd.prog 64 #[v, .int .i64 s] w fun e w' => e = .returned (.int .i64 (lastI ws s)) ∧ w' = w := by
  obtain ⟨ao, cap, rfl⟩ := open_sl h
  by_cases hp : 0 < ws.length
  · obtain ⟨b, off, rfl, hbl⟩ := Lay.sl_addr h hp
    exact l5Last_pos b off cap ws s w h hbl hn
  · obtain rfl : ws = [] := List.eq_nil_of_length_eq_zero (by omega)
    clear h hn hp
    go_enter Tryd.func64, Tryd.ntmps64
    go_wp2_with fail
    refine wp_loop_rounds 1 ?_
    rw [rounds_succ]
    go_wp2_with fail
    go_ret
    exact ⟨rfl, rfl⟩

end Go.Proofs.YtkodenmpadehjaaDoor

namespace Go.Proofs.YtkodenmpadehjaaDoor
open Go.RowKit

theorem grown_low5 {a b c : World} {s : Option Nat} (h : a.grownBy b s) (k : Below a.heap.size b c) : a.grownBy c s :=
  ⟨k.os.trans h.os, k.tape.trans h.tape, k.output.trans h.output, Nat.le_trans h.size k.size, fun i hi hn => (k.block i hi).trans (h.block i hi hn)⟩
theorem flat_snoc5 {bls : List (List Nat)} {bl : List Nat} {P : Nat → Prop} (h : ∀ c ∈ bls.flatten, P c) (h2 : ∀ c ∈ bl, P c) : ∀ c ∈ (bls ++ [bl]).flatten, P c := by
  intro c hc
  rw [List.flatten_append] at hc
  rcases List.mem_append.1 hc with hc | hc
  · exact h c hc
  · exact h2 c (by simpa using hc)
theorem chance5 (b m : Nat) (cv : Value) (w : World) (hs : SrcAt w b cv m) (hc : IsCode b w cv) (hm : m ≤ 100000000) (n : Int) (hn : 1 ≤ n) (hn2 : n ≤ 200) :
    Calls Tryd.prog 28 #[.pointer (some ⟨b, 0, none⟩), .int .i64 n] w fun e w' => ∃ r : Bool, e = .returned (.bool r) ∧ SrcAt w' b cv (m + 1) ∧ IsCode b w' cv ∧ w.grownBy w' (some b) := by
  have HL := hide (next b m cv n w hs hc (by omega) hn (by omega))
  clear hs hc
  go_enter Tryd.func28, Tryd.ntmps28
  go_wp2_with fail
  refine (unhide HL).mono ?_
  rintro e w1 ⟨r, rfl, hr, s1, c1, g1⟩
  have HS := hide s1
  have HC := hide c1
  have HG := hide g1
  clear s1 c1 g1 HL
  go_wp2_with fail
  go_ret
  exact ⟨_, rfl, unhide HS, unhide HC, unhide HG⟩

set_option maxRecDepth 100000 in
set_option maxHeartbeats 4000000 in
theorem drawRight (b m n : Nat) (cv : Value) (w : World) (hs : SrcAt w b cv m) (hc : IsCode b w cv) (hm : m ≤ 100000) (hn0 : 0 < n) (hn : n ≤ 100) :
    Calls Tryd.prog 50 #[.pointer (some ⟨b, 0, none⟩), .int .i64 n] w fun e w' => ∃ (v : Value) (rows : List (List Value)) (xs : List DWrite) (bls : List (List Nat)) (m' : Nat), e = .returned v ∧ Grow Lay.tWrite w' w.heap.size 27 v rows xs bls ∧ (∀ c ∈ bls.flatten, w.heap.size ≤ c) ∧ xs.length ≤ n ∧
      SrcAt w' b cv m' ∧ m' ≤ m + 1 + 101 * n ∧ IsCode b w' cv ∧ w.grownBy w' (some b) := by
  have hbw := hs.lt
  have nb : Below w.heap.size w (w.alloc (.cells #[] 27)) := (Below.refl w.heap.size w).alloc (Nat.le_refl _) (.cells #[] 27)
  have G0 : Grow Lay.tWrite (w.alloc (.cells #[] 27)) w.heap.size 27 (.slice (some ⟨w.heap.size, 0, none⟩) 0 0) [] [] [] := Grow.nil (World.ownsRow_lit w #[] 0 (Nat.le_refl _) (Nat.zero_le _) rfl)
  have L := next b m cv n (w.alloc (.cells #[] 27)) (hs.onW nb) (hc.onW (Nat.le_of_lt hbw) nb) (by omega) (by omega) (by omega)
  have HL := hide L
  have HG := hide G0
  have HN := hide nb
  clear L G0 nb hs hc
  go_enter Tryd.func50, Tryd.ntmps50
  go_wp2_with fail
  refine (unhide HL).mono ?_
  rintro e w1 ⟨r, rfl, hr, s1, c1, g1⟩
  have hr2 : r ≤ n := by omega
  have HG1 := hide ((unhide HG).grown g1 hbw (by simp))
  have HS1 := hide s1
  have HC1 := hide c1
  have HGR1 : Hid (w.grownBy w1 (some b)) := ⟨g1.os.trans (unhide HN).os, g1.tape.trans (unhide HN).tape, g1.output.trans (unhide HN).output, Nat.le_trans (unhide HN).size g1.size, fun i hi hn => (g1.block i (Nat.lt_of_lt_of_le hi (unhide HN).size) hn).trans ((unhide HN).block i hi)⟩
  clear s1 c1 g1 HL HG HN hr
  go_wp2_with fail
  go_loopw [5, 6] (fun v kk wr => ∃ (j : Nat) (rows : List (List Value)) (xs : List DWrite) (bls : List (List Nat)) (m' : Nat), j ≤ n ∧ kk = .int .i64 j ∧ Grow Lay.tWrite wr w.heap.size 27 v rows xs bls ∧ (∀ c ∈ bls.flatten, w.heap.size ≤ c) ∧ xs.length + j ≤ n ∧
      SrcAt wr b cv m' ∧ m' + 101 * j ≤ m + 1 + 101 * n ∧ IsCode b wr cv ∧ w.grownBy wr (some b)) (fun _ kk _ => (intOf kk).toNat)
  case atStart => exact ⟨r, [], [], [], m + 1, hr2, rfl, unhide HG1, by simp, by simp; exact hr2, unhide HS1, by omega, unhide HC1, unhide HGR1⟩
  case round =>
    obtain ⟨j, rows, xs, bls, m', hj, rfl, hG, hsf, hlen, hS, hm', hC, hgr⟩ := hrel
    clear HG1 HS1 HC1 HGR1
    by_cases hlt : 0 < j
    · have HL := hide (drawWrite b m' cv wr hS hC (by omega))
      have HG := hide hG
      have HSF := hide hsf
      have HGR := hide hgr
      have d1 : decide ((0 : Int) < (j : Int)) = true := by simp; omega
      have hwr := hgr.size
      clear hG hsf hS hC hgr
      go_wp2_with fail
      refine (unhide HL).mono ?_
      rintro e w3 ⟨cs, x, bl, m3, rfl, hl, hbl, s3, hm3, c3, g3⟩
      obtain ⟨a2, d2, bv, rfl, rfl, k0, k1, hvl, k3, k4⟩ := lies_Write.1 hl
      have nb : Below w3.heap.size w3 (w3.alloc (.cells #[.int .i64 x.kind, .int .i64 x.id, .slice a2 x.vec.length d2, .int .i64 x.session, .int .i64 x.seq] 27)) := (Below.refl _ _).alloc (Nat.le_refl _) _
      have HQ : Hid (Box 0 #[.int .i64 x.kind, .int .i64 x.id, .slice a2 x.vec.length d2, .int .i64 x.session, .int .i64 x.seq] 27 (w3.alloc (.cells #[.int .i64 x.kind, .int .i64 x.id, .slice a2 x.vec.length d2, .int .i64 x.session, .int .i64 x.seq] 27)) w3.heap.size) := newBox (Nat.zero_le _)
      have hG3 := ((unhide HG).grown g3 hbw (unhide HSF))
      have HG4 := hide (hG3.later nb)
      have HLS := hide (l5LastC u5 xs x.session _ ((unhide HG4).toReads (by omega)) (by omega))
      have HNX := hide (next b m3 cv 2 _ (s3.onW nb) (c3.onW (by have := s3.lt; omega) nb) (by omega) (by omega) (by omega))
      have HVL := hide ((Lay.sl Lay.int).keep hvl fun c hc => nb.block c ((Lay.sl Lay.int).lt hvl c hc))
      have HBL : Hid (∀ c ∈ bl, wr.heap.size ≤ c ∧ c < w3.heap.size) := hbl
      have HGR3 : Hid (w.grownBy (w3.alloc (.cells #[.int .i64 x.kind, .int .i64 x.id, .slice a2 x.vec.length d2, .int .i64 x.session, .int .i64 x.seq] 27)) (some b)) := grown_low5 (grown_trans (unhide HGR) g3) (nb.mono (Nat.le_trans hwr g3.size))
      have hz3 : wr.heap.size ≤ w3.heap.size := g3.size
      have HWF := hide (And.intro k0 (And.intro k1 k3))
      have hGo : ∀ c, u5.ownBlock = some c → w.heap.size ≤ c ∧ c < wr.heap.size := fun c hc => (unhide HG).own.lt c hc
      have HSL : Hid (∀ c ∈ bls.flatten, c < wr.heap.size) := fun c hc => (unhide HG).sub_lt c hc
      have HGO := hide hGo
      clear hl hbl s3 c3 g3 HL HG HGR k0 k1 hvl k3 k4 hG3 hGo nb
      go_upto_region 6 with fail
      generalize w3.alloc (.cells #[.int .i64 x.kind, .int .i64 x.id, .slice a2 x.vec.length d2, .int .i64 x.session, .int .i64 x.seq] 27) = W4 at *
      have y3 : W4.cell? ⟨w3.heap.size, 3, none⟩ = some (.int .i64 x.session) := (unhide HQ).at 3 _ rfl
      go_wp2_with fail
      refine (unhide HLS).mono ?_
      rintro e w9 ⟨rfl, hw9⟩
      rw [hw9]
      clear hw9 w9 HLS y3
      go_wp2_with fail
      refine (unhide HNX).mono ?_
      rintro e w5 ⟨r5, rfl, hr5, s5, c5, g5⟩
      have hq4 : w3.heap.size < W4.heap.size := (unhide HQ).lt
      have hQ5 := (unhide HQ).ext (ext_grown g5) (by omega)
      have l5 := hQ5.lt
      have f5 := hQ5.soft 4
      have y4 : w5.cell? ⟨w3.heap.size, 4, none⟩ = some (.int .i64 x.seq) := hQ5.at 4 _ rfl
      have HG5 := hide ((unhide HG4).grown g5 hbw (unhide HSF))
      have HVL5 := hide ((Lay.sl Lay.int).keep (unhide HVL) fun c hc => g5.block c ((Lay.sl Lay.int).lt (unhide HVL) c hc) (fun e => by have := (unhide HBL c hc).1; have e2 : c = b := Option.some.inj e; omega))
      have HS5 := hide s5
      have HC5 := hide c5
      have HGR5 := hide (grown_trans (unhide HGR3) g5)
      have HQ5 := hide hQ5
      clear s5 c5 g5 HNX HQ HG4 HVL HGR3 hQ5
      go_upto_region 7 with fail
      have hzw : (Lit.int .i64 (wrap64 (wrap64 (lastI xs x.session + 1) + (r5 : Int)))).wf = true := by first | exact wf_wrap .i64 _ | (unfold wrap64; rw [← IntKind.wrap_i64]; exact wf_wrap _ _) | (rw [← wrap64_eq]; exact wf_wrap _ _) | (simp only [wrap64]; exact wf_of_bd (by omega))
      generalize wrap64 (wrap64 (lastI xs x.session + 1) + (r5 : Int)) = z at *
      have hE : Ext (fun c => c = w3.heap.size) w5 (w5.setCell ⟨w3.heap.size, 4, none⟩ (.int .i64 z)) := (Ext.refl (fun c => c = w3.heap.size) w5).setCell ⟨w3.heap.size, 4, none⟩ _ rfl
      have hQ6 : Box 0 #[.int .i64 x.kind, .int .i64 x.id, .slice a2 x.vec.length d2, .int .i64 x.session, .int .i64 z] 27 (w5.setCell ⟨w3.heap.size, 4, none⟩ (.int .i64 z)) w3.heap.size := (unhide HQ5).set 4 (.int .i64 z)
      have hl6 : Lay.tWrite.lies (w5.setCell ⟨w3.heap.size, 4, none⟩ (.int .i64 z)) [.int .i64 x.kind, .int .i64 x.id, .slice a2 x.vec.length d2, .int .i64 x.session, .int .i64 z] { x with seq := z } bl := lies_Write.2 ⟨a2, d2, bl, rfl, rfl, (unhide HWF).1, (unhide HWF).2.1, (Lay.sl Lay.int).keep (unhide HVL5) (fun c hc => hE.block c ((Lay.sl Lay.int).lt (unhide HVL5) c hc) (by have := (unhide HBL c hc).2; omega)), (unhide HWF).2.2, hzw⟩
      have hG6 : Grow Lay.tWrite (w5.setCell ⟨w3.heap.size, 4, none⟩ (.int .i64 z)) w.heap.size 27 u5 rows xs bls := (unhide HG5).kept (by
        obtain ⟨h1, h2⟩ := (unhide HG5).own
        refine ⟨h1, ?_⟩
        rcases h2 with h2 | ⟨gb, cap', cur, hv, hg, hh, r⟩
        · exact Or.inl h2
        · exact Or.inr ⟨gb, cap', cur, hv, hg, (hE.block gb (lt_of_block hh) (by have := (unhide HGO gb (by rw [hv]; rfl)).2; omega)).trans hh, r⟩) (fun c hc => hE.block c ((unhide HG5).sub_lt c hc) (by have := unhide HSL c hc; omega))
      have hoff : ∀ c ∈ bl, u5.ownBlock ≠ some c := fun c hc e => by
        have h1 := (unhide HBL c hc).1
        have h2 := (unhide HGO c e).2
        omega
      have hw5 : w.heap.size ≤ w5.heap.size := (unhide HGR5).size
      have HS6 := hide ((unhide HS5).extW hE (by omega))
      have HC6 := hide ((unhide HC5).extW (by omega) hE (fun k hk e => by omega))
      have HGR6 := hide (grown_low5 (unhide HGR5) (hE.below (B := w.heap.size) hw5 (fun k hk e => by omega)))
      have y0 : (w5.setCell ⟨w3.heap.size, 4, none⟩ (.int .i64 z)).cell? ⟨w3.heap.size, 0, none⟩ = some (.int .i64 x.kind) := hQ6.at 0 _ rfl
      have y1 : (w5.setCell ⟨w3.heap.size, 4, none⟩ (.int .i64 z)).cell? ⟨w3.heap.size, 1, none⟩ = some (.int .i64 x.id) := hQ6.at 1 _ rfl
      have y2 : (w5.setCell ⟨w3.heap.size, 4, none⟩ (.int .i64 z)).cell? ⟨w3.heap.size, 2, none⟩ = some (.slice a2 x.vec.length d2) := hQ6.at 2 _ rfl
      have y3 : (w5.setCell ⟨w3.heap.size, 4, none⟩ (.int .i64 z)).cell? ⟨w3.heap.size, 3, none⟩ = some (.int .i64 x.session) := hQ6.at 3 _ rfl
      have y5 : (w5.setCell ⟨w3.heap.size, 4, none⟩ (.int .i64 z)).cell? ⟨w3.heap.size, 4, none⟩ = some (.int .i64 z) := hQ6.at 4 _ rfl
      have hZ : w.heap.size ≤ (w5.setCell ⟨w3.heap.size, 4, none⟩ (.int .i64 z)).heap.size := by simpa using hw5
      have HSF2 : Hid (∀ c ∈ (bls ++ [bl]).flatten, w.heap.size ≤ c) := flat_snoc5 (unhide HSF) (fun c hc => Nat.le_trans hwr (unhide HBL c hc).1)
      clear y4 f5 l5 hE hQ6 HQ5 HVL5 HG5 HS5 HC5 HGR5 HBL HGO HSL HWF HSF hzw
      generalize w5.setCell ⟨w3.heap.size, 4, none⟩ (.int .i64 z) = W6 at *
      go_wp2_with (at_builtin; refine wpList_append_Write hG6 hl6 hoff rfl _ _ rfl rfl rfl (by omega) hZ ?_)
      intro g cap w7 hG7 hb7 hE7 hg7 hz7 hor7
      have HG7 := hide hG7
      have HS7 : Hid (SrcAt w7 b cv (m3 + 1)) := (hb7.block b hbw).trans (unhide HS6)
      have HC7 := hide ((unhide HC6).later (hb7.mono (Nat.le_of_lt hbw)))
      have HGR7 := hide (grown_low5 (unhide HGR6) hb7)
      clear hG6 hl6 hoff hG7 hb7 hE7 hg7 hz7 hor7 HS6 HC6 HGR6 y0 y1 y2 y3 y5
      go_wp2_with fail
      go_roundw
      case rel => exact ⟨j - 1, _, _, _, m3 + 1, by omega, by go_num, unhide HG7, unhide HSF2, by simp; omega, unhide HS7, by omega, unhide HC7, unhide HGR7⟩
      case measure => simp [intOf]; omega
    · obtain rfl : j = 0 := by omega
      have HG := hide hG
      have HSF := hide hsf
      have HGR := hide hgr
      have HS := hide hS
      have HC := hide hC
      clear hG hsf hS hC hgr
      go_wp2_with fail
      go_ret
      exact ⟨u5, rows, xs, bls, m', rfl, unhide HG, unhide HSF, by omega, unhide HS, by omega, unhide HC, unhide HGR⟩

end Go.Proofs.YtkodenmpadehjaaDoor

namespace Go.Proofs.YtkodenmpadehjaaDoor
open Go.RowKit

theorem made_flat5 (row : List Value) (n : Nat) (h0 : 0 < row.length) : (madeCells row.toArray (n * row.length)).toList = (List.replicate n row).flatten := by
  have hl : (List.replicate n row).flatten.length = n * row.length := by simp
  apply List.ext_getElem?
  intro i
  by_cases hi : i < n * row.length
  · have hm := Nat.mod_lt i h0
    have hj : i / row.length < n := (Nat.div_lt_iff_lt_mul h0).2 hi
    have e := Lay.flat_at (rows := List.replicate n row) (n := row.length) (fun r hr => by rw [List.eq_of_mem_replicate hr]) (i / row.length) (i % row.length) (by simpa using hj) hm
    rw [Nat.div_add_mod' i row.length] at e
    rw [e]
    simp [madeCells, hi, hm]
  · rw [List.getElem?_eq_none (by simp [madeCells]; omega), List.getElem?_eq_none (by omega)]
theorem made201b : (madeCells #[.int .i64 0, .int .i64 0, .slice none 0 0, .int .i64 0, .int .i64 0] 1005).toList = (List.replicate 201 [.int .i64 0, .int .i64 0, .slice none 0 0, .int .i64 0, .int .i64 0]).flatten :=
  made_flat5 [.int .i64 0, .int .i64 0, .slice none 0 0, .int .i64 0, .int .i64 0] 201 (by decide)
theorem zeroWrite5 (w : World) : Lay.tWrite.lies w [.int .i64 0, .int .i64 0, .slice none 0 0, .int .i64 0, .int .i64 0] ⟨0, 0, [], 0, 0⟩ [] :=
  lies_Write.2 ⟨none, 0, [], rfl, rfl, by decide, by decide, Lay.lies_ints.2 ⟨none, 0, rfl, by simp, by simp, Or.inl ⟨rfl, rfl⟩⟩, by decide, by decide⟩
theorem grow201b {w : World} {base : Nat} {v : Value} (h : w.ownsRow base 27 5 v 201 (madeCells #[.int .i64 0, .int .i64 0, .slice none 0 0, .int .i64 0, .int .i64 0] 1005).toList) :
    Grow Lay.tWrite w base 27 v (List.replicate 201 [.int .i64 0, .int .i64 0, .slice none 0 0, .int .i64 0, .int .i64 0]) (List.replicate 201 ⟨0, 0, [], 0, 0⟩) (List.replicate 201 []) := by
  rw [made201b] at h
  refine ⟨by rw [List.length_replicate]; exact h, by rw [List.length_replicate, List.length_replicate], by rw [List.length_replicate, List.length_replicate], fun j h1 h2 h3 => ?_, ?_⟩
  · rw [List.getElem_replicate, List.getElem_replicate, List.getElem_replicate]
    exact zeroWrite5 w
  · intro b hb
    obtain ⟨l, h1, h2⟩ := List.mem_flatten.1 hb
    rw [List.eq_of_mem_replicate h1] at h2
    simp at h2

set_option maxRecDepth 100000 in
set_option maxHeartbeats 4000000 in
theorem drawBent5 (b m : Nat) (cv : Value) (w : World) (hs : SrcAt w b cv m) (hc : IsCode b w cv) (hm : m ≤ 1000) :
    Calls Tryd.prog 26 #[.pointer (some ⟨b, 0, none⟩)] w fun e w' => ∃ (v : Value) (rows : List (List Value)) (xs : List DWrite) (bls : List (List Nat)) (m' : Nat), e = .returned v ∧ Grow Lay.tWrite w' w.heap.size 27 v rows xs bls ∧ (∀ c ∈ bls.flatten, w.heap.size ≤ c) ∧ xs.length ≤ 201 ∧
      SrcAt w' b cv m' ∧ m' ≤ 5000 ∧ IsCode b w' cv ∧ w.grownBy w' (some b) := by
  have hbw := hs.lt
  have HL := hide (drawRight b m 12 cv w hs hc (by omega) (by omega) (by omega))
  clear hs hc
  go_enter Tryd.func26, Tryd.ntmps26
  go_wp2_with fail
  refine (unhide HL).mono ?_
  rintro e w2 ⟨v, rows, xs, bls, m', rfl, hG, hsf, hlen, s2, hm', c2, g2⟩
  have HL2 := hide (next b m' cv 12 w2 s2 c2 (by omega) (by omega) (by omega))
  have HG := hide hG
  have HSF := hide hsf
  have HGR2 := hide g2
  clear hG hsf s2 c2 g2 HL
  go_wp2_with fail
  refine (unhide HL2).mono ?_
  rintro e w3 ⟨q, rfl, hq, s3, c3, g3⟩
  replace HG := hide ((unhide HG).grown g3 hbw (unhide HSF))
  have HGR3 := hide (grown_trans (unhide HGR2) g3)
  have HS := hide s3
  have HC := hide c3
  clear s3 c3 g3 HL2 HGR2
  have hw3 : w.heap.size ≤ w3.heap.size := (unhide HGR3).size
  rcases (show q = 0 ∨ q = 1 ∨ 2 ≤ q by omega) with rfl | rfl | h2
  · have HL := hide (bentWrite b (m' + 1) _ w3 (unhide HS) (unhide HC) (by omega))
    clear HS HC
    go_wp2_with fail
    refine (unhide HL).mono ?_
    rintro e w4 ⟨cs, x, bl, m4, rfl, hl, hbl, s4, hm4, c4, g4⟩
    have hG := (unhide HG).grown g4 hbw (unhide HSF)
    have hoff : ∀ c ∈ bl, v.ownBlock ≠ some c := fun c hc e => by
      have h1 := hbl c hc
      have h2 := ((unhide HG).own.lt c e).2
      omega
    have HSF2 : Hid (∀ c ∈ (bls ++ [bl]).flatten, w.heap.size ≤ c) := flat_snoc5 (unhide HSF) (fun c hc => Nat.le_trans hw3 (hbl c hc).1)
    have HGR4 := hide (grown_trans (unhide HGR3) g4)
    have HS4 := hide s4
    have HC4 := hide c4
    have hZ : w.heap.size ≤ w4.heap.size := Nat.le_trans hw3 g4.size
    obtain ⟨a2, d2, bv, rfl, rfl, -, -, -, -, -⟩ := lies_Write.1 hl
    clear s4 c4 g4 HL HG HSF HGR3 hbl
    go_wp2_with (at_builtin; refine wpList_append_Write hG hl hoff rfl _ _ rfl rfl rfl (by omega) hZ ?_)
    intro g cap w5 hG5 hb5 hE5 hg5 hz5 hor5
    have HG5 := hide hG5
    have HS5 : Hid (SrcAt w5 b cv m4) := (hb5.block b hbw).trans (unhide HS4)
    have HC5 := hide ((unhide HC4).later (hb5.mono (Nat.le_of_lt hbw)))
    have HGR5 := hide (grown_low5 (unhide HGR4) hb5)
    clear hG hl hoff hG5 hb5 hE5 hg5 hz5 hor5 HGR4 HS4 HC4
    go_wp2_with fail
    go_ret
    exact ⟨_, _, _, _, m4, rfl, unhide HG5, unhide HSF2, by simp; omega, unhide HS5, by omega, unhide HC5, unhide HGR5⟩
  · obtain ⟨i0, hi, hz0, hz1, hz2⟩ := info_parts infoAppWrite
    clear HG HSF
    go_wp2_with (at_make; refine wpList_make_full _ rfl _ _ 24 rfl w.heap.size 27 i0 _ 5 Tryd.underlying24 hi hz0 hz1 _ _ _ _ 201 rfl rfl rfl rfl ?c1 ?c2 ?c3 ?_)
    case c1 => omega
    case c2 => unfold maxLen; omega
    case c3 => omega
    intro w4 o4 g4
    have HG4 := hide (grow201b o4)
    have HB4 : Hid (Below w3.heap.size w3 w4) := (Below.refl _ _).grown g4 (Nat.le_refl _) (by simp)
    clear o4 g4 hi hz0 hz1 hz2
    have HS4 : Hid (SrcAt w4 b cv (m' + 1)) := (unhide HS).onW (unhide HB4)
    have HC4 : Hid (IsCode b w4 cv) := (unhide HC).onW (Nat.le_of_lt (unhide HS).lt) (unhide HB4)
    have HGR4 := hide (grown_low5 (unhide HGR3) ((unhide HB4).mono hw3))
    clear HS HC HGR3 HB4
    go_wp2_with fail
    go_ret
    exact ⟨_, _, _, _, m' + 1, rfl, unhide HG4, by intro c hc; obtain ⟨l, h1, h2⟩ := List.mem_flatten.1 hc; rw [List.eq_of_mem_replicate h1] at h2; simp at h2, by rw [List.length_replicate]; omega, unhide HS4, by omega, unhide HC4, unhide HGR4⟩
  · have d0 : ((q : Int) == 0) = false := by rw [beq_eq_false_iff_ne]; omega
    have d1 : ((q : Int) == 1) = false := by rw [beq_eq_false_iff_ne]; omega
    go_wp2_with fail
    go_ret
    exact ⟨_, _, _, _, m' + 1, rfl, unhide HG, unhide HSF, by omega, unhide HS, by omega, unhide HC, unhide HGR3⟩

end Go.Proofs.YtkodenmpadehjaaDoor

namespace Go.Proofs.YtkodenmpadehjaaDoor
open Go.RowKit

set_option maxHeartbeats 2000000 in
theorem nextB_some (b m cb off k cap : Nat) (n : Int) (w : World) (hs : SrcAt w b (.slice (some ⟨cb, off, none⟩) k cap) m) (hm : m ≤ 1000000000) (hn : 200 < n) (hn2 : n ≤ 1000) (hk : 0 < k) (hk2 : k ≤ 1048576) (hcb : cb < b)
    (hc : ∀ j, j < k → ∃ z : Int, w.cell? ⟨cb, off + j, none⟩ = some (.int .u8 z) ∧ 0 ≤ z ∧ z ≤ 255) :
    Calls Tryd.prog 29 #[.pointer (some ⟨b, 0, none⟩), .int .i64 n] w fun e w' => ∃ r : Int, e = .returned (.int .i64 r) ∧ (0 ≤ r ∧ r < n) ∧ SrcAt w' b (.slice (some ⟨cb, off, none⟩) k cap) (m + 1) ∧ w.grownBy w' (some b) := by
  have c0 := hs.c0
  have c1 := hs.c1
  have fz := hs.fz
  have HS := hide hs.set
  clear hs
  obtain ⟨z, hz, z1, z2⟩ := hc (m % k) (Nat.mod_lt _ hk)
  obtain ⟨y, hy, y1, y2⟩ := hc ((m + 1) % k) (Nat.mod_lt _ hk)
  obtain ⟨q1, q2⟩ := quot_bd m k hm
  have hd : (n == 0) = false := by rw [beq_eq_false_iff_ne]; omega
  have hd2 : ((k : Int) == 0) = false := by rw [beq_eq_false_iff_ne]; omega
  have hne : ¬ cb = b := by omega
  have hne2 : ¬ b = cb := by omega
  have r1 : 0 ≤ (m : Int) % (k : Int) := Int.emod_nonneg _ (by omega)
  have r2 : (m : Int) % (k : Int) < (k : Int) := Int.emod_lt_of_pos _ (by omega)
  have r3 : 0 ≤ ((m : Int) + 1) % (k : Int) := Int.emod_nonneg _ (by omega)
  have r4 : ((m : Int) + 1) % (k : Int) < (k : Int) := Int.emod_lt_of_pos _ (by omega)
  have e1 : (((m : Int) + 1) % (k : Int)).toNat = (m + 1) % k := by
    have h : ((m : Int) + 1) % (k : Int) = (((m + 1) % k : Nat) : Int) := by rw [Int.natCast_emod]; rfl
    rw [h]
    exact Int.toNat_natCast _
  clear hc
  go_enter Tryd.func29, Tryd.ntmps29
  go_wp2
  go_quiet (fail)
  go_wp2
  go_quiet (fail)
  go_wp2
  go_ret
  exact ⟨_, rfl, ⟨Int.emod_nonneg _ (by omega), Int.emod_lt_of_pos _ (by omega)⟩, unhide HS, grown_drawn (grown_set _ _ _ _) _⟩

/-- l1Next: a number below n. -/
theorem nextAll (b m : Nat) (cv : Value) (n : Int) (w : World) (hs : SrcAt w b cv m) (hc : IsCode b w cv) (hm : m ≤ 1000000000) (hn : 1 ≤ n) (hn2 : n ≤ 1000) :
    Calls Tryd.prog 29 #[.pointer (some ⟨b, 0, none⟩), .int .i64 n] w fun e w' => ∃ r : Nat, e = .returned (.int .i64 r) ∧ (r : Int) < n ∧ SrcAt w' b cv (m + 1) ∧ IsCode b w' cv ∧ w.grownBy w' (some b) := by
  by_cases h2 : n ≤ 200
  · exact next b m cv n w hs hc hm hn h2
  · have fin : ∀ (e : Ending) (w' : World), (∃ r : Int, e = .returned (.int .i64 r) ∧ (0 ≤ r ∧ r < n) ∧ SrcAt w' b cv (m + 1) ∧ w.grownBy w' (some b)) → ∃ r : Nat, e = .returned (.int .i64 r) ∧ (r : Int) < n ∧ SrcAt w' b cv (m + 1) ∧ IsCode b w' cv ∧ w.grownBy w' (some b) := by
      rintro e w' ⟨r, rfl, ⟨h1, h2⟩, h3, h4⟩
      obtain ⟨j, rfl⟩ := Int.eq_ofNat_of_zero_le h1
      exact ⟨j, rfl, h2, h3, hc.later (below_of_grown h4 (Nat.le_of_lt hs.lt)), h4⟩
    obtain ⟨ao, len, cap, rfl, hl, hc1⟩ := hc
    by_cases hp : 0 < len
    · obtain ⟨cb, off, rfl, hB, hc2⟩ := hc1 hp
      exact (nextB_some b m cb off len cap n w hs hm (by omega) hn2 hp hl hB hc2).mono fin
    · obtain rfl : len = 0 := by omega
      exact (next_empty b m ao cap n w hs hm hn).mono fin

end Go.Proofs.YtkodenmpadehjaaDoor
