/-
  Texts of this proof in one: WrFault, WrZero, ApplyPlain, SessPlain, SamePlain, NetPlain, SpecNode9, LayOpen, OpenWrite, OpenMsg.
  Their conditions stand in their theorems.
-/
import Derived.Test.YtkmfkaljdngigaaDm03
import Derived.Test.YtkmfkaljdngigaaDm02
import Derived.Test.YtkmfkaljdngigaaDm01
import Derived.Test.YtkmfkaljdngigaaChecked
import Derived.ProofKit
import Derived.OpenShut
import Derived.Deep.Slices

namespace Go.Proofs.Ytkmfkaljdngigaa
open Go.RowKit

def kindB (k : Int) (n : Nat) : Bool := (decide (1 ≤ k) && decide (k ≤ 2)) && !(k == 2 && decide (0 < (n : Int)))
def boundB (i s q : Int) : Bool := (decide (1 ≤ i) && decide (i ≤ 999)) && ((decide (1 ≤ s) && decide (s ≤ 9)) && (decide (1 ≤ q) && decide (q ≤ 999)))
/-- What is wrong with a write. -/
def writeFault (k i : Int) (zs : List Int) (s q : Int) : Int :=
  if kindB k zs.length then (if boundB i s q then (if k = 1 then vecFault zs else 0) else 3) else 1

/-- The write that the pointer b points at. -/
def WriteAt (w : World) (b : Nat) (k i : Int) (v : Value) (s q : Int) : Prop :=
  w.cell? ⟨b, 0, none⟩ = some (.int .i64 k) ∧ w.cell? ⟨b, 1, none⟩ = some (.int .i64 i) ∧ w.cell? ⟨b, 2, none⟩ = some v ∧ w.cell? ⟨b, 3, none⟩ = some (.int .i64 s) ∧ w.cell? ⟨b, 4, none⟩ = some (.int .i64 q)
theorem WriteAt.later {w w' : World} {b : Nat} {k i s q : Int} {v : Value} (h : WriteAt w b k i v s q) (hb : Below w.heap.size w w') : WriteAt w' b k i v s q :=
  ⟨cell_keep hb h.1, cell_keep hb h.2.1, cell_keep hb h.2.2.1, cell_keep hb h.2.2.2.1, cell_keep hb h.2.2.2.2⟩

/-- The write at an element's place. -/
def WriteAtO (w : World) (b o : Nat) (k i : Int) (v : Value) (s q : Int) : Prop :=
  w.cell? ⟨b, o, none⟩ = some (.int .i64 k) ∧ w.cell? ⟨b, o + 1, none⟩ = some (.int .i64 i) ∧ w.cell? ⟨b, o + 2, none⟩ = some v ∧ w.cell? ⟨b, o + 3, none⟩ = some (.int .i64 s) ∧ w.cell? ⟨b, o + 4, none⟩ = some (.int .i64 q)

set_option maxRecDepth 100000 in
set_option maxHeartbeats 1000000 in
theorem l3FaultO (b o : Nat) (k i : Int) (v : Value) (s q : Int) (zs : List Int) (w : World) (hc : WriteAtO w b o k i v s q) (h : IsInts w v zs) :
    Calls Try.prog 56 #[.pointer (some ⟨b, o, none⟩)] w fun e w' => e = .returned (.int .i64 (writeFault k i zs s q)) ∧ w' = w := by
  have hv : ∃ a c, v = .slice a zs.length c := by obtain ⟨a, c, h, -⟩ := h; exact ⟨a, c, h⟩
  obtain ⟨av, cv, rfl⟩ := hv
  obtain ⟨c0, c1, c2, c3, c4⟩ := hc
  have HH := hide h
  clear h
  generalize hF : writeFault k i zs s q = F
  have HF := hide hF
  clear hF
  cases d1 : (decide (1 ≤ k) && decide (k ≤ 2)) with
  | false =>
    have hE : F = 1 := by rw [← unhide HF, writeFault, kindB, d1]; rfl
    subst hE
    go_enter Try.func56, Try.ntmps56
    go_wp2_with fail
    refine (inC k 1 2 _).mono ?_
    rintro e w1 ⟨rfl, rfl⟩
    rw [d1]
    go_wp2_with fail
    go_ret
    exact ⟨rfl, rfl⟩
  | true =>
    have hk : k = 1 ∨ k = 2 := by
      simp only [Bool.and_eq_true, decide_eq_true_eq] at d1
      omega
    clear d1
    rcases hk with rfl | rfl
    · have hK : kindB 1 zs.length = true := rfl
      cases dI : (decide (1 ≤ i) && decide (i ≤ 999)) with
      | false =>
        have hE : F = 3 := by rw [← unhide HF, writeFault, hK, if_pos rfl, boundB, dI]; rfl
        subst hE
        go_enter Try.func56, Try.ntmps56
        go_wp2_with fail
        refine (inC 1 1 2 _).mono ?_
        rintro e w1 ⟨rfl, rfl⟩
        go_wp2_with fail
        refine (idC i _).mono ?_
        rintro e w1 ⟨rfl, rfl⟩
        rw [dI]
        go_wp2_with fail
        go_ret
        exact ⟨rfl, rfl⟩
      | true =>
        cases dS : (decide (1 ≤ s) && decide (s ≤ 9)) with
        | false =>
          have hE : F = 3 := by rw [← unhide HF, writeFault, hK, if_pos rfl, boundB, dI, dS]; rfl
          subst hE
          go_enter Try.func56, Try.ntmps56
          go_wp2_with fail
          refine (inC 1 1 2 _).mono ?_
          rintro e w1 ⟨rfl, rfl⟩
          go_wp2_with fail
          refine (idC i _).mono ?_
          rintro e w1 ⟨rfl, rfl⟩
          rw [dI]
          go_wp2_with fail
          refine (sessionC s _).mono ?_
          rintro e w1 ⟨rfl, rfl⟩
          rw [dS]
          go_wp2_with fail
          go_ret
          exact ⟨rfl, rfl⟩
        | true =>
          cases dQ : (decide (1 ≤ q) && decide (q ≤ 999)) with
          | false =>
            have hE : F = 3 := by rw [← unhide HF, writeFault, hK, if_pos rfl, boundB, dI, dS, dQ]; rfl
            subst hE
            go_enter Try.func56, Try.ntmps56
            go_wp2_with fail
            refine (inC 1 1 2 _).mono ?_
            rintro e w1 ⟨rfl, rfl⟩
            go_wp2_with fail
            refine (idC i _).mono ?_
            rintro e w1 ⟨rfl, rfl⟩
            rw [dI]
            go_wp2_with fail
            refine (sessionC s _).mono ?_
            rintro e w1 ⟨rfl, rfl⟩
            rw [dS]
            go_wp2_with fail
            refine (inC q 1 999 _).mono ?_
            rintro e w1 ⟨rfl, rfl⟩
            rw [dQ]
            go_wp2_with fail
            go_ret
            exact ⟨rfl, rfl⟩
          | true =>
            have hE : F = vecFault zs := by rw [← unhide HF, writeFault, hK, if_pos rfl, boundB, dI, dS, dQ]; rfl
            subst hE
            go_enter Try.func56, Try.ntmps56
            go_wp2_with fail
            refine (inC 1 1 2 _).mono ?_
            rintro e w1 ⟨rfl, rfl⟩
            go_wp2_with fail
            refine (idC i _).mono ?_
            rintro e w1 ⟨rfl, rfl⟩
            rw [dI]
            go_wp2_with fail
            refine (sessionC s _).mono ?_
            rintro e w1 ⟨rfl, rfl⟩
            rw [dS]
            go_wp2_with fail
            refine (inC q 1 999 _).mono ?_
            rintro e w1 ⟨rfl, rfl⟩
            rw [dQ]
            go_wp2_with fail
            refine (modelFault _ zs _ (unhide HH)).mono ?_
            rintro e w1 ⟨rfl, rfl⟩
            go_wp2_with fail
            go_ret
            exact ⟨rfl, rfl⟩
    · by_cases hz : zs.length = 0
      · obtain rfl : zs = [] := List.eq_nil_of_length_eq_zero hz
        have hK : kindB 2 ([] : List Int).length = true := rfl
        simp only [List.length_nil] at c2 hK
        clear hz
        cases dI : (decide (1 ≤ i) && decide (i ≤ 999)) with
        | false =>
          have hE : F = 3 := by rw [← unhide HF, writeFault, show kindB 2 ([] : List Int).length = true from rfl, if_pos rfl, boundB, dI]; rfl
          subst hE
          go_enter Try.func56, Try.ntmps56
          go_wp2_with fail
          refine (inC 2 1 2 _).mono ?_
          rintro e w1 ⟨rfl, rfl⟩
          go_wp2_with fail
          refine (idC i _).mono ?_
          rintro e w1 ⟨rfl, rfl⟩
          rw [dI]
          go_wp2_with fail
          go_ret
          exact ⟨rfl, rfl⟩
        | true =>
          cases dS : (decide (1 ≤ s) && decide (s ≤ 9)) with
          | false =>
            have hE : F = 3 := by rw [← unhide HF, writeFault, show kindB 2 ([] : List Int).length = true from rfl, if_pos rfl, boundB, dI, dS]; rfl
            subst hE
            go_enter Try.func56, Try.ntmps56
            go_wp2_with fail
            refine (inC 2 1 2 _).mono ?_
            rintro e w1 ⟨rfl, rfl⟩
            go_wp2_with fail
            refine (idC i _).mono ?_
            rintro e w1 ⟨rfl, rfl⟩
            rw [dI]
            go_wp2_with fail
            refine (sessionC s _).mono ?_
            rintro e w1 ⟨rfl, rfl⟩
            rw [dS]
            go_wp2_with fail
            go_ret
            exact ⟨rfl, rfl⟩
          | true =>
            cases dQ : (decide (1 ≤ q) && decide (q ≤ 999)) with
            | false =>
              have hE : F = 3 := by rw [← unhide HF, writeFault, show kindB 2 ([] : List Int).length = true from rfl, if_pos rfl, boundB, dI, dS, dQ]; rfl
              subst hE
              go_enter Try.func56, Try.ntmps56
              go_wp2_with fail
              refine (inC 2 1 2 _).mono ?_
              rintro e w1 ⟨rfl, rfl⟩
              go_wp2_with fail
              refine (idC i _).mono ?_
              rintro e w1 ⟨rfl, rfl⟩
              rw [dI]
              go_wp2_with fail
              refine (sessionC s _).mono ?_
              rintro e w1 ⟨rfl, rfl⟩
              rw [dS]
              go_wp2_with fail
              refine (inC q 1 999 _).mono ?_
              rintro e w1 ⟨rfl, rfl⟩
              rw [dQ]
              go_wp2_with fail
              go_ret
              exact ⟨rfl, rfl⟩
            | true =>
              have hE : F = 0 := by rw [← unhide HF, writeFault, show kindB 2 ([] : List Int).length = true from rfl, if_pos rfl, boundB, dI, dS, dQ]; rfl
              subst hE
              go_enter Try.func56, Try.ntmps56
              go_wp2_with fail
              refine (inC 2 1 2 _).mono ?_
              rintro e w1 ⟨rfl, rfl⟩
              go_wp2_with fail
              refine (idC i _).mono ?_
              rintro e w1 ⟨rfl, rfl⟩
              rw [dI]
              go_wp2_with fail
              refine (sessionC s _).mono ?_
              rintro e w1 ⟨rfl, rfl⟩
              rw [dS]
              go_wp2_with fail
              refine (inC q 1 999 _).mono ?_
              rintro e w1 ⟨rfl, rfl⟩
              rw [dQ]
              go_wp2_with fail
              go_ret
              exact ⟨rfl, rfl⟩
      · have hE : F = 1 := by
          have : kindB 2 zs.length = false := by simp [kindB]; omega
          rw [← unhide HF, writeFault, this]; rfl
        subst hE
        obtain ⟨m, hm⟩ : ∃ m, zs.length = m + 1 := ⟨zs.length - 1, by omega⟩
        rw [hm] at c2
        clear hz hm
        go_enter Try.func56, Try.ntmps56
        go_wp2_with fail
        refine (inC 2 1 2 _).mono ?_
        rintro e w1 ⟨rfl, rfl⟩
        go_wp2_with fail
        go_ret
        exact ⟨rfl, rfl⟩

theorem l3Fault (b : Nat) (k i : Int) (v : Value) (s q : Int) (zs : List Int) (w : World) (hc : WriteAt w b k i v s q) (h : IsInts w v zs) :
    Calls Try.prog 56 #[.pointer (some ⟨b, 0, none⟩)] w fun e w' => e = .returned (.int .i64 (writeFault k i zs s q)) ∧ w' = w :=
  l3FaultO b 0 k i v s q zs w hc h

end Go.Proofs.Ytkmfkaljdngigaa

namespace Go.Proofs.Ytkmfkaljdngigaa
open Go.RowKit

/-- A write without a fault. -/
theorem writeFault_zero {k i s q : Int} {zs : List Int} (h : writeFault k i zs s q = 0) : (1 ≤ i ∧ i ≤ 999) ∧ (1 ≤ s ∧ s ≤ 9) ∧ (1 ≤ q ∧ q ≤ 999) ∧ ((k = 1 ∧ vecFault zs = 0) ∨ (k = 2 ∧ zs = [])) := by
  unfold writeFault at h
  split at h
  · next hk =>
    split at h
    · next hb =>
      simp only [kindB, Bool.and_eq_true, decide_eq_true_eq, Bool.not_eq_true', Bool.and_eq_false_iff] at hk
      simp only [boundB, Bool.and_eq_true, decide_eq_true_eq] at hb
      refine ⟨hb.1, hb.2.1, hb.2.2, ?_⟩
      by_cases h1 : k = 1
      · rw [if_pos h1] at h
        exact Or.inl ⟨h1, h⟩
      · have h2 : k = 2 := by omega
        refine Or.inr ⟨h2, ?_⟩
        rcases hk.2 with h3 | h3
        · simp [h2] at h3
        · simp at h3
          exact h3
    · omega
  · omega

end Go.Proofs.Ytkmfkaljdngigaa

namespace Go.Proofs.Ytkmfkaljdngigaa
open Go.RowKit

def wF (x : DWrite) : Int := writeFault x.kind x.id x.vec x.session x.seq
def applyI (xs : List DItem) (x : DWrite) : List DItem := if x.kind = 2 then dropI xs x.id else if roomB xs x.id then putI xs x.id x.vec else xs
def ofI (ws : List DWrite) : List DItem := ws.foldl applyI []
def wsFrom : List DWrite → Int
  | [] => 0
  | x :: xs => if wF x = 0 then wsFrom xs else wF x
def writesF (ws : List DWrite) : Int := if 200 < ws.length then 2 else wsFrom ws
def applyR (xs : List DItem) (x : DWrite) : DTableResult := if tableFault xs = 0 then (if wF x = 0 then ⟨0, applyI xs x⟩ else ⟨wF x, []⟩) else ⟨tableFault xs, []⟩
def tableOfR (ws : List DWrite) : DTableResult := if writesF ws = 0 then ⟨0, ofI ws⟩ else ⟨writesF ws, []⟩

theorem idB_of {z : Int} (h : 1 ≤ z ∧ z ≤ 999) : idB z = true := by simp only [idB, Bool.and_eq_true, decide_eq_true_eq]; exact h
theorem right_apply {xs : List DItem} (h : Right xs) {x : DWrite} (hx : wF x = 0) : Right (applyI xs x) := by
  obtain ⟨hi, -, -, hk⟩ := writeFault_zero hx
  unfold applyI
  split
  · exact right_drop h _
  · rename_i h2
    split
    · rename_i hr
      rcases hk with ⟨-, hv⟩ | ⟨hk, -⟩
      · exact right_put h (idB_of hi) hv (room_true hr)
      · exact absurd hk h2
    · exact h
theorem ofI_snoc (ws : List DWrite) (k : Nat) (h : k < ws.length) : ofI (ws.take (k + 1)) = applyI (ofI (ws.take k)) ws[k] := by
  rw [ofI, List.take_succ_eq_append_getElem h, List.foldl_append]
  rfl
theorem right_of_writes (ws : List DWrite) (h : ∀ x ∈ ws, wF x = 0) : Right (ofI ws) := by
  have : ∀ (ys : List DWrite) (xs : List DItem), Right xs → (∀ x ∈ ys, wF x = 0) → Right (ys.foldl applyI xs) := by
    intro ys
    induction ys with
    | nil => intro xs hx _; exact hx
    | cons y ys ih =>
      intro xs hx hy
      exact ih _ (right_apply hx (hy y (by simp))) fun x hx => hy x (List.mem_cons_of_mem _ hx)
  exact this ws [] right_nil h
theorem wsFrom_at (ws : List DWrite) (k : Nat) (h : k < ws.length) (hz : ∀ j (hj : j < ws.length), j < k → wF ws[j] = 0) (hn : wF ws[k] ≠ 0) : wsFrom ws = wF ws[k] := by
  induction ws generalizing k with
  | nil => simp at h
  | cons x xs ih =>
    match k with
    | 0 => rw [wsFrom, if_neg (by simpa using hn)]; rfl
    | k + 1 =>
      have h0 : wF x = 0 := hz 0 (by simp) (by omega)
      rw [wsFrom, if_pos h0]
      exact ih k (by simpa using h) (fun j hj hjk => hz (j + 1) (by simpa using hj) (by omega)) (by simpa using hn)
theorem wsFrom_all (ws : List DWrite) (hz : ∀ j (hj : j < ws.length), wF ws[j] = 0) : wsFrom ws = 0 := by
  induction ws with
  | nil => rfl
  | cons x xs ih =>
    have h0 : wF x = 0 := hz 0 (by simp)
    rw [wsFrom, if_pos h0]
    exact ih fun j hj => hz (j + 1) (by simpa using hj)
theorem wsFrom_zero {ws : List DWrite} (h : wsFrom ws = 0) : ∀ x ∈ ws, wF x = 0 := by
  induction ws with
  | nil => simp
  | cons x xs ih =>
    rw [wsFrom] at h
    by_cases h0 : wF x = 0
    · rw [if_pos h0] at h
      intro y hy
      rcases List.mem_cons.1 hy with rfl | hy
      · exact h0
      · exact ih h y hy
    · rw [if_neg h0] at h; exact absurd h h0
theorem writesF_zero {ws : List DWrite} (h : writesF ws = 0) : ws.length ≤ 200 ∧ ∀ x ∈ ws, wF x = 0 := by
  unfold writesF at h
  by_cases hn : 200 < ws.length
  · rw [if_pos hn] at h; cases h
  · rw [if_neg hn] at h; exact ⟨by omega, wsFrom_zero h⟩
theorem wF_vals (x : DWrite) : 0 ≤ wF x ∧ wF x ≤ 3 := by
  have hv := vecFault_vals x.vec
  unfold wF writeFault
  split
  · split
    · split
      · exact hv
      · decide
    · decide
  · decide
theorem wF_wf (x : DWrite) : (Lit.int .i64 (wF x)).wf = true := wf_of_bd (by have := wF_vals x; omega)
theorem wsFrom_vals (ws : List DWrite) : 0 ≤ wsFrom ws ∧ wsFrom ws ≤ 3 := by
  induction ws with
  | nil => decide
  | cons x xs ih =>
    rw [wsFrom]
    split
    · exact ih
    · exact wF_vals x
theorem writesF_wf (ws : List DWrite) : (Lit.int .i64 (writesF ws)).wf = true := by
  have := wsFrom_vals ws
  unfold writesF
  split
  · decide
  · exact wf_of_bd (by omega)

end Go.Proofs.Ytkmfkaljdngigaa

namespace Go.Proofs.Ytkmfkaljdngigaa
open Go.RowKit

def ofB (s : Int) (x : DWrite) : Bool := decide (x.session = s)
def sameB (s q : Int) (x : DWrite) : Bool := decide (x.session = s) && decide (x.seq = q)
/-- The greatest number of a session. -/
def lastI (ws : List DWrite) (s : Int) : Int := ws.foldl (fun n x => if x.session = s then max n x.seq else n) 0
/-- How many writes there are up to the first one of a session and number; 0: there is none. -/
def seenFrom (s q : Int) : Nat → List DWrite → Nat
  | _, [] => 0
  | n, x :: xs => if x.session = s ∧ x.seq = q then n + 1 else seenFrom s q (n + 1) xs
def seenI (ws : List DWrite) (s q : Int) : Nat := seenFrom s q 0 ws
/-- Of each session the numbers rise. -/
def onceB : List DWrite → List DWrite → Bool
  | _, [] => true
  | pre, x :: xs => decide (lastI pre x.session < x.seq) && onceB (pre ++ [x]) xs
def askedF (ws : List DWrite) (s : Int) : Int := if writesF ws = 0 then (if 1 ≤ s ∧ s ≤ 9 then 0 else 3) else writesF ws

theorem lastI_nil (s : Int) : lastI [] s = 0 := rfl
theorem lastI_snoc (ws : List DWrite) (x : DWrite) (s : Int) : lastI (ws ++ [x]) s = if x.session = s then max (lastI ws s) x.seq else lastI ws s := by
  simp [lastI]
theorem lastI_take (ws : List DWrite) (k : Nat) (h : k < ws.length) (s : Int) : lastI (ws.take (k + 1)) s = if ws[k].session = s then max (lastI (ws.take k) s) ws[k].seq else lastI (ws.take k) s := by
  rw [List.take_succ_eq_append_getElem h, lastI_snoc]
theorem seenFrom_snoc (s q : Int) (x : DWrite) : ∀ (ws : List DWrite) (n : Nat), seenFrom s q n (ws ++ [x]) = if seenFrom s q n ws = 0 then (if x.session = s ∧ x.seq = q then n + ws.length + 1 else 0) else seenFrom s q n ws
  | [], n => by simp [seenFrom]
  | y :: ws, n => by
    rw [List.cons_append, seenFrom, seenFrom]
    by_cases h : y.session = s ∧ y.seq = q
    · rw [if_pos h, if_pos h, if_neg (by omega)]
    · rw [if_neg h, if_neg h, seenFrom_snoc s q x ws (n + 1)]
      simp only [List.length_cons]
      rw [show n + 1 + ws.length + 1 = n + (ws.length + 1) + 1 by omega]
theorem seenI_snoc (ws : List DWrite) (x : DWrite) (s q : Int) : seenI (ws ++ [x]) s q = if seenI ws s q = 0 then (if x.session = s ∧ x.seq = q then ws.length + 1 else 0) else seenI ws s q := by
  have := seenFrom_snoc s q x ws 0
  rw [Nat.zero_add] at this
  exact this
theorem seenI_le (ws : List DWrite) (s q : Int) : seenI ws s q ≤ ws.length := by
  have : ∀ (ws : List DWrite) (n : Nat), seenFrom s q n ws ≤ n + ws.length := by
    intro ws
    induction ws with
    | nil => intro n; simp [seenFrom]
    | cons x xs ih =>
      intro n
      rw [seenFrom]
      split
      · simp only [List.length_cons]; omega
      · have := ih (n + 1)
        simp only [List.length_cons]
        omega
  have := this ws 0
  rw [Nat.zero_add] at this
  exact this
theorem seenFrom_at (s q : Int) : ∀ (ws : List DWrite) (n k : Nat) (h : k < ws.length), (∀ j (hj : j < ws.length), j < k → ¬ (ws[j].session = s ∧ ws[j].seq = q)) → (ws[k].session = s ∧ ws[k].seq = q) → seenFrom s q n ws = n + k + 1
  | [], _, _, h, _, _ => by simp at h
  | x :: xs, n, 0, _, _, hk => by rw [seenFrom, if_pos (by simpa using hk)]
  | x :: xs, n, k + 1, h, hn, hk => by
    have h0 := hn 0 (by simp) (by omega)
    rw [seenFrom, if_neg (by simpa using h0), seenFrom_at s q xs (n + 1) k (by simpa using h) (fun j hj hjk => by have := hn (j + 1) (by simpa using hj) (by omega); simpa using this) (by simpa using hk)]
    omega
theorem seenI_at {s q : Int} {ws : List DWrite} {k : Nat} (h : k < ws.length) (hn : ∀ j (hj : j < ws.length), j < k → ¬ (ws[j].session = s ∧ ws[j].seq = q)) (hk : ws[k].session = s ∧ ws[k].seq = q) : seenI ws s q = k + 1 := by
  have := seenFrom_at s q ws 0 k h hn hk
  rw [Nat.zero_add] at this
  exact this
theorem seenI_none {s q : Int} {ws : List DWrite} (hn : ∀ j (hj : j < ws.length), ¬ (ws[j].session = s ∧ ws[j].seq = q)) : seenI ws s q = 0 := by
  have : ∀ (ws : List DWrite) (n : Nat), (∀ j (hj : j < ws.length), ¬ (ws[j].session = s ∧ ws[j].seq = q)) → seenFrom s q n ws = 0 := by
    intro ws
    induction ws with
    | nil => intro n _; rfl
    | cons x xs ih =>
      intro n hn
      have h0 := hn 0 (by simp)
      rw [seenFrom, if_neg (by simpa using h0)]
      exact ih (n + 1) fun j hj => by have := hn (j + 1) (by simpa using hj); simpa using this
  exact this ws 0 hn
theorem seenI_zero {ws : List DWrite} {s q : Int} (h : seenI ws s q = 0) : ∀ x ∈ ws, ¬ (x.session = s ∧ x.seq = q) := by
  have : ∀ (ws : List DWrite) (n : Nat), seenFrom s q n ws = 0 → ∀ x ∈ ws, ¬ (x.session = s ∧ x.seq = q) := by
    intro ws
    induction ws with
    | nil => intro n _ x hx; simp at hx
    | cons y xs ih =>
      intro n h x hx
      rw [seenFrom] at h
      split at h
      · omega
      · rename_i hy
        rcases List.mem_cons.1 hx with rfl | hx
        · exact hy
        · exact ih (n + 1) h x hx
  exact this ws 0 h
theorem lastI_nonneg (ws : List DWrite) (s : Int) : 0 ≤ lastI ws s := by
  have : ∀ (ws : List DWrite) (n : Int), 0 ≤ n → 0 ≤ ws.foldl (fun n x => if x.session = s then max n x.seq else n) n := by
    intro ws
    induction ws with
    | nil => intro n h; exact h
    | cons x xs ih =>
      intro n h
      rw [List.foldl_cons]
      apply ih
      split <;> omega
  exact this ws 0 (Int.le_refl _)
theorem lastI_le (ws : List DWrite) (s : Int) (h : ∀ x ∈ ws, x.seq ≤ 999) : lastI ws s ≤ 999 := by
  have : ∀ (ws : List DWrite) (n : Int), n ≤ 999 → (∀ x ∈ ws, x.seq ≤ 999) → ws.foldl (fun n x => if x.session = s then max n x.seq else n) n ≤ 999 := by
    intro ws
    induction ws with
    | nil => intro n h _; exact h
    | cons x xs ih =>
      intro n h hx
      rw [List.foldl_cons]
      apply ih
      · have := hx x (by simp)
        split <;> omega
      · intro y hy; exact hx y (List.mem_cons_of_mem _ hy)
  exact this ws 0 (by omega) h
theorem onceB_at : ∀ (ws pre : List DWrite) (k : Nat) (h : k < ws.length), (ws[k]).seq ≤ lastI (pre ++ ws.take k) (ws[k]).session → onceB pre ws = false
  | [], _, _, h, _ => by simp at h
  | x :: xs, pre, 0, _, hk => by
    have : ¬ (lastI pre x.session < x.seq) := by simpa using hk
    simp [onceB, this]
  | x :: xs, pre, k + 1, h, hk => by
    rw [onceB, onceB_at xs (pre ++ [x]) k (by simpa using h) (by simpa using hk), Bool.and_false]
theorem onceB_all : ∀ (ws pre : List DWrite), (∀ k (h : k < ws.length), lastI (pre ++ ws.take k) (ws[k]).session < (ws[k]).seq) → onceB pre ws = true
  | [], _, _ => rfl
  | x :: xs, pre, h => by
    have h0 := h 0 (by simp)
    rw [onceB, onceB_all xs (pre ++ [x]) fun k hk => by have := h (k + 1) (by simpa using hk); simpa using this]
    simpa using h0
def onceR (ws : List DWrite) : Bool := decide (writesF ws = 0) && onceB [] ws
theorem wF_seq {x : DWrite} (h : wF x = 0) : 1 ≤ x.session ∧ x.session ≤ 9 ∧ 1 ≤ x.seq ∧ x.seq ≤ 999 := by
  obtain ⟨-, h1, h2, -⟩ := writeFault_zero h
  exact ⟨h1.1, h1.2, h2.1, h2.2⟩

end Go.Proofs.Ytkmfkaljdngigaa

namespace Go.Proofs.Ytkmfkaljdngigaa
open Go.RowKit

def sameW (x y : DWrite) : Bool := x.kind == y.kind && (x.id == y.id && (x.session == y.session && (x.seq == y.seq && decide (x.vec = y.vec))))
def sameWs : List DWrite → List DWrite → Bool
  | [], [] => true
  | x :: xs, y :: ys => sameW x y && sameWs xs ys
  | _, _ => false
theorem sameWs_len {xs ys : List DWrite} (h : xs.length ≠ ys.length) : sameWs xs ys = false := by
  induction xs generalizing ys with
  | nil => match ys, h with | y :: ys, _ => rfl
  | cons x xs ih =>
    match ys, h with
    | [], _ => rfl
    | y :: ys, h => rw [sameWs, ih (by simpa using h), Bool.and_false]
theorem sameWs_at {xs ys : List DWrite} (k : Nat) (h1 : k < xs.length) (h2 : k < ys.length) (h : sameW xs[k] ys[k] = false) : sameWs xs ys = false := by
  induction xs generalizing ys k with
  | nil => simp at h1
  | cons x xs ih =>
    match ys, k with
    | y :: ys, 0 => rw [sameWs, show sameW x y = false by simpa using h, Bool.false_and]
    | y :: ys, k + 1 => rw [sameWs, ih k (by simpa using h1) (by simpa using h2) (by simpa using h), Bool.and_false]
theorem sameWs_all {xs ys : List DWrite} (hl : xs.length = ys.length) (h : ∀ k (h1 : k < xs.length) (h2 : k < ys.length), sameW xs[k] ys[k] = true) : sameWs xs ys = true := by
  induction xs generalizing ys with
  | nil => match ys, hl with | [], _ => rfl
  | cons x xs ih =>
    match ys, hl with
    | y :: ys, hl =>
      rw [sameWs, show sameW x y = true from h 0 (by simp) (by simp), ih (by simpa using hl) fun k h1 h2 => h (k + 1) (by simpa using h1) (by simpa using h2), Bool.true_and]
theorem sameWs_refl_self (x : DWrite) : sameW x x = true := by simp [sameW]

end Go.Proofs.Ytkmfkaljdngigaa

namespace Go.Proofs.Ytkmfkaljdngigaa
open Go.RowKit

/-- A write that is none. -/
def noW (y : DWrite) : Prop := y.kind = 0 ∧ y.id = 0 ∧ y.session = 0 ∧ y.seq = 0 ∧ y.vec.length = 0
instance (y : DWrite) : Decidable (noW y) := by unfold noW; infer_instance
def msgFault (x : DMsg) : Int :=
  if ¬ (1 ≤ x.kind ∧ x.kind ≤ 2) ∨ x.src = x.dst ∨ (x.kind = 2 ∧ ¬ noW x.write) then 1
  else if ¬ (1 ≤ x.epoch ∧ x.epoch ≤ 999) ∨ ¬ (1 ≤ x.src ∧ x.src ≤ 5) ∨ ¬ (1 ≤ x.dst ∧ x.dst ≤ 5) ∨ ¬ (0 ≤ x.index ∧ x.index ≤ 40) ∨ (x.kind ≠ 2 ∧ x.index = 0) then 3
  else if x.kind = 2 then 0 else wF x.write
def msgsFrom : List DMsg → Int
  | [] => 0
  | x :: xs => if msgFault x = 0 then msgsFrom xs else msgFault x
def netFault (xs : List DMsg) : Int := if 40 < xs.length then 2 else msgsFrom xs
def sameM (x y : DMsg) : Bool := x.kind == y.kind && x.epoch == y.epoch && x.src == y.src && x.dst == y.dst && x.index == y.index && sameW x.write y.write
def badNet (c : Int) : DNetResult := ⟨c, []⟩
def sendM (xs : List DMsg) (x : DMsg) : DNetResult :=
  if xs.any (fun y => sameM y x) then ⟨0, xs⟩ else if 40 ≤ xs.length then badNet 2 else ⟨0, xs ++ [x]⟩
def sendR (xs : List DMsg) (x : DMsg) : DNetResult :=
  if netFault xs = 0 then (if msgFault x = 0 then sendM xs x else badNet (msgFault x)) else badNet (netFault xs)
def dropMR (xs : List DMsg) (i : Int) : DNetResult :=
  if netFault xs = 0 then (if 0 ≤ i ∧ i ≤ xs.length - 1 then ⟨0, xs.take i.toNat ++ xs.drop (i.toNat + 1)⟩ else badNet 3) else badNet (netFault xs)
def countM (xs : List DMsg) (z : Int) : Nat := (xs.filter fun y => y.dst == z).length
def countR (xs : List DMsg) (z : Int) : DIntResult := if netFault xs = 0 then ⟨0, countM xs z⟩ else ⟨netFault xs, 0⟩

theorem msgFault_vals (x : DMsg) : 0 ≤ msgFault x ∧ msgFault x ≤ 6 := by
  have := wF_vals x.write
  unfold msgFault
  split
  · omega
  · split
    · omega
    · split
      · omega
      · omega
theorem msgsFrom_vals : ∀ xs : List DMsg, 0 ≤ msgsFrom xs ∧ msgsFrom xs ≤ 6
  | [] => by simp [msgsFrom]
  | x :: xs => by
    rw [msgsFrom]
    split
    · exact msgsFrom_vals xs
    · exact msgFault_vals x
theorem netFault_vals (xs : List DMsg) : 0 ≤ netFault xs ∧ netFault xs ≤ 6 := by
  unfold netFault
  split
  · omega
  · exact msgsFrom_vals xs
theorem msgsFrom_zero : ∀ {xs : List DMsg}, msgsFrom xs = 0 → ∀ x ∈ xs, msgFault x = 0
  | [], _, _, h => by cases h
  | x :: xs, h, y, hy => by
    rw [msgsFrom] at h
    by_cases h1 : msgFault x = 0
    · rw [if_pos h1] at h
      rcases List.mem_cons.1 hy with rfl | hy
      · exact h1
      · exact msgsFrom_zero h y hy
    · rw [if_neg h1] at h
      exact absurd h h1
theorem msgsFrom_all : ∀ {xs : List DMsg}, (∀ x ∈ xs, msgFault x = 0) → msgsFrom xs = 0
  | [], _ => rfl
  | x :: xs, h => by
    rw [msgsFrom, if_pos (h x (by simp))]
    exact msgsFrom_all fun y hy => h y (List.mem_cons_of_mem _ hy)
theorem msgsFrom_at : ∀ {xs : List DMsg} {k : Nat} (hk : k < xs.length), (∀ j (hj : j < k), msgFault xs[j] = 0) → msgFault xs[k] ≠ 0 → msgsFrom xs = msgFault xs[k]
  | x :: xs, 0, hk, _, h => by
    have h1 : msgFault x ≠ 0 := h
    rw [msgsFrom, if_neg h1]
    rfl
  | x :: xs, k + 1, hk, hb, h => by
    have h1 : msgFault x = 0 := hb 0 (by omega)
    rw [msgsFrom, if_pos h1]
    exact msgsFrom_at (xs := xs) (k := k) (by simpa using hk) (fun j hj => hb (j + 1) (by omega)) h
end Go.Proofs.Ytkmfkaljdngigaa

namespace Go.Proofs.Ytkmfkaljdngigaa
open Go.RowKit

theorem node10C (x : Int) (w : World) : Calls Try.prog 55 #[.int .i64 x] w fun e w' => e = .returned (.bool (decide (1 ≤ x) && decide (x ≤ 5))) ∧ w' = w := by
  go_enter Try.func55, Try.ntmps55
  go_wp2_with fail
  refine (inC x 1 5 _).mono ?_
  rintro e w1 ⟨rfl, rfl⟩
  go_wp2_with fail
  go_ret
  exact ⟨rfl, rfl⟩

end Go.Proofs.Ytkmfkaljdngigaa

namespace Go.Proofs.Ytkmfkaljdngigaa
open Go.RowKit Go.ChangeShapes Go.WideShapes

/-- Whatever reads as data of the type t lies as A says. -/
def Opens {α : Type} (A : Lay α) (t : TypeId) : Prop :=
  ∀ {H : Type} (enc : TypeId × Value → H) (W : World) (base : Nat) (spare : Nat → Bool) (held : Bool) (fuel : Nat) (cs : List Value) (x : DataW H × List MemPlace), DataW.trod enc Try.prog W base spare held fuel t cs = some x → ∃ y, A.Reads W cs y

theorem reads_pair {α β : Type} {A : Lay α} {B : Lay β} {W : World} {c1 c2 : List Value} {x : α} {y : β} (h : A.Reads W c1 x) (k : B.Reads W c2 y) : (Lay.pair A B).Reads W (c1 ++ c2) (x, y) := by
  obtain ⟨b1, h⟩ := h
  obtain ⟨b2, k⟩ := k
  exact ⟨b1 ++ b2, c1, c2, b1, b2, rfl, rfl, h, k⟩

theorem opens_int {t : TypeId} (ht : Try.prog.underlying t = some (.int .i64)) : Opens Lay.int t := by
  intro H enc W base spare held fuel cs x h
  obtain ⟨n, rfl, -, hw⟩ := DataW.trod_int ht h
  exact ⟨n, [], rfl, hw, rfl⟩
theorem opens_bool {t : TypeId} (ht : Try.prog.underlying t = some .bool) : Opens Lay.bool t := by
  intro H enc W base spare held fuel cs x h
  obtain ⟨b, rfl, -⟩ := DataW.trod_bool ht h
  exact ⟨b, [], rfl, rfl⟩
theorem opens_str {t : TypeId} (ht : Try.prog.underlying t = some .string) : Opens Lay.str t := by
  intro H enc W base spare held fuel cs x h
  obtain ⟨s, rfl, -, -⟩ := DataW.trod_string ht h
  exact ⟨s, [], rfl, rfl⟩

theorem opens_sl {α : Type} {A : Lay α} {t e : TypeId} (ht : Try.prog.underlying t = some (.slice e)) (hn : Try.prog.cellsOf e = A.n) (h0 : 0 < A.n) (h : Opens A e) : Opens (Lay.sl A) t := by
  intro H enc W base spare held fuel cs x hx
  rcases Go.Deep.open_slice ht hx with ⟨rfl, -⟩ | ⟨a, len, cap, m, n, D, Pl, rfl, hb, hl, hm, hmm, -, hel⟩
  · exact ⟨[], [], none, 0, rfl, ⟨Nat.le_refl _, by simp⟩, Or.inl ⟨rfl, rfl⟩⟩
  · have hlm : len ≤ m := by rw [hmm]; split <;> omega
    rw [hn] at hel
    have each : ∀ i, i < len → ∃ q : List Value × α, (∀ j, j < A.n → W.cell? (a.add (i * A.n + j)) = q.1[j]?) ∧ q.1.length = A.n ∧ A.Reads W q.1 q.2 := by
      intro i hi
      obtain ⟨cs', h1, h2⟩ := hel i (by omega)
      obtain ⟨-, hlen, hc⟩ := World.cells?_some h1
      obtain ⟨y, hy⟩ := h enc W base spare held n cs' _ h2
      refine ⟨(cs', y), fun j hj => ?_, hlen, hy⟩
      have := hc j hj
      rw [Addr.add_add] at this
      exact this
    by_cases hp : 0 < len
    · obtain ⟨b, off, spot⟩ := a
      obtain ⟨q0, c0, l0, -⟩ := each 0 hp
      have hc0 := c0 0 h0
      have hs0 : ∃ v, W.cell? ((⟨b, off, spot⟩ : Addr).add (0 * A.n + 0)) = some v := ⟨_, hc0.trans (List.getElem?_eq_getElem (by omega))⟩
      obtain ⟨v0, hv0⟩ := hs0
      have hspot : spot = none := by simpa [Addr.add] using World.cell?_spot hv0
      subst hspot
      have hbl : b < W.heap.size := by
        have := World.block_lt_of_cell? _ _ hv0
        simpa [Addr.add] using this
      have pick : ∃ f : (i : Nat) → i < len → List Value × α, ∀ i (hi : i < len), (∀ j, j < A.n → W.cell? ((⟨b, off, none⟩ : Addr).add (i * A.n + j)) = (f i hi).1[j]?) ∧ (f i hi).1.length = A.n ∧ A.Reads W (f i hi).1 (f i hi).2 :=
        ⟨fun i hi => Classical.choose (each i hi), fun i hi => Classical.choose_spec (each i hi)⟩
      obtain ⟨f, hf⟩ := pick
      have pick2 : ∃ g : (i : Nat) → i < len → List Nat, ∀ i (hi : i < len), A.lies W (f i hi).1 (f i hi).2 (g i hi) :=
        ⟨fun i hi => Classical.choose (hf i hi).2.2, fun i hi => Classical.choose_spec (hf i hi).2.2⟩
      obtain ⟨g, hg⟩ := pick2
      refine ⟨(List.finRange len).map (fun i => (f i.1 i.2).2), b :: ((List.finRange len).map (fun i => g i.1 i.2)).flatten, some ⟨b, off, none⟩, cap, by simp, ⟨by simpa using hl, by simp; unfold maxLen at hm; omega⟩, Or.inr ⟨b, off, (List.finRange len).map (fun i => (f i.1 i.2).1), (List.finRange len).map (fun i => g i.1 i.2), rfl, hbl, rfl, by simp, by simp, fun j h1 h2 h3 => ?_⟩⟩
      have hj : j < len := by simpa using h1
      refine ⟨fun k hk => ?_, ?_⟩
      · have := (hf j hj).1 k hk
        rw [Addr.add_lit] at this
        simpa [Nat.add_assoc] using this
      · simpa using hg j hj
    · obtain rfl : len = 0 := by omega
      exact ⟨[], [], some a, cap, rfl, ⟨hl, by simp⟩, Or.inl ⟨rfl, rfl⟩⟩

theorem open_arg {α : Type} {A : Lay α} {t : TypeId} (O : Opens A t) {H : Type} {enc : TypeId × Value → H} {W : World} {base : Nat} {spare : Nat → Bool} {held : Bool} {a : Option Addr} {len cap : Nat} {d : DataW H} {p : List MemPlace}
    (h : DataW.Trod enc Try.prog W base spare held t (.slice a len cap) d p) : ∃ y, A.Reads W [.slice a len cap] y := by
  obtain ⟨fuel, hf⟩ := h
  exact O enc W base spare held fuel _ _ (by simpa [Value.cells] using hf)
theorem open_arg_st {α : Type} {A : Lay α} {t : TypeId} (O : Opens A t) {H : Type} {enc : TypeId × Value → H} {W : World} {base : Nat} {spare : Nat → Bool} {held : Bool} {cs : Array Value} {d : DataW H} {p : List MemPlace}
    (h : DataW.Trod enc Try.prog W base spare held t (.agg cs) d p) : ∃ y, A.Reads W cs.toList y := by
  obtain ⟨fuel, hf⟩ := h
  exact O enc W base spare held fuel _ _ (by simpa [Value.cells] using hf)

end Go.Proofs.Ytkmfkaljdngigaa

namespace Go.Proofs.Ytkmfkaljdngigaa
open Go.RowKit

set_option maxRecDepth 10000 in
theorem opens_Write : Opens Lay.tWrite 24 := by
  intro H enc W base spare held fuel cs x h
  obtain ⟨xs, n, _, _, hlen, hl, hfi⟩ := DataW.trod_struct Try.underlying24 h
  rw [show Try.prog.cellsOf 24 = 5 by kernel_rfl] at hlen
  match cs, hlen with
  | [c0, c1, c2, c3, c4], _ =>
  match xs, hl with
  | [y0, y1, y2, y3, y4], _ =>
  have z0 : Try.prog.cellsOf 2 = 1 := by kernel_rfl
  have z1 : Try.prog.cellsOf 22 = 1 := by kernel_rfl
  have f0 : DataW.trod enc Try.prog W base spare held n 2 (([c0, c1, c2, c3, c4].drop 0).take (Try.prog.cellsOf 2)) = some y0 := hfi 0 _ rfl
  rw [z0] at f0
  obtain ⟨d0, r0⟩ := (opens_int Try.underlying2) enc W base spare held n _ _ f0
  have f1 : DataW.trod enc Try.prog W base spare held n 2 (([c0, c1, c2, c3, c4].drop 1).take (Try.prog.cellsOf 2)) = some y1 := hfi 1 _ rfl
  rw [z0] at f1
  obtain ⟨d1, r1⟩ := (opens_int Try.underlying2) enc W base spare held n _ _ f1
  have f2 : DataW.trod enc Try.prog W base spare held n 22 (([c0, c1, c2, c3, c4].drop 2).take (Try.prog.cellsOf 22)) = some y2 := hfi 2 _ rfl
  rw [z1] at f2
  obtain ⟨d2, r2⟩ := (opens_sl Try.underlying22 (by kernel_rfl) (by decide) (opens_int Try.underlying2)) enc W base spare held n _ _ f2
  have f3 : DataW.trod enc Try.prog W base spare held n 2 (([c0, c1, c2, c3, c4].drop 3).take (Try.prog.cellsOf 2)) = some y3 := hfi 3 _ rfl
  rw [z0] at f3
  obtain ⟨d3, r3⟩ := (opens_int Try.underlying2) enc W base spare held n _ _ f3
  have f4 : DataW.trod enc Try.prog W base spare held n 2 (([c0, c1, c2, c3, c4].drop 4).take (Try.prog.cellsOf 2)) = some y4 := hfi 4 _ rfl
  rw [z0] at f4
  obtain ⟨d4, r4⟩ := (opens_int Try.underlying2) enc W base spare held n _ _ f4
  exact ⟨⟨d0, d1, d2, d3, d4⟩, (reads_pair r0 (reads_pair r1 (reads_pair r2 (reads_pair r3 r4))))⟩

end Go.Proofs.Ytkmfkaljdngigaa

namespace Go.Proofs.Ytkmfkaljdngigaa
open Go.RowKit

set_option maxRecDepth 10000 in
theorem opens_Msg : Opens Lay.tMsg 26 := by
  intro H enc W base spare held fuel cs x h
  obtain ⟨xs, n, _, _, hlen, hl, hfi⟩ := DataW.trod_struct Try.underlying26 h
  rw [show Try.prog.cellsOf 26 = 10 by kernel_rfl] at hlen
  match cs, hlen with
  | [c0, c1, c2, c3, c4, c5, c6, c7, c8, c9], _ =>
  match xs, hl with
  | [y0, y1, y2, y3, y4, y5], _ =>
  have z0 : Try.prog.cellsOf 2 = 1 := by kernel_rfl
  have z1 : Try.prog.cellsOf 24 = 5 := by kernel_rfl
  have f0 : DataW.trod enc Try.prog W base spare held n 2 (([c0, c1, c2, c3, c4, c5, c6, c7, c8, c9].drop 0).take (Try.prog.cellsOf 2)) = some y0 := hfi 0 _ rfl
  rw [z0] at f0
  obtain ⟨d0, r0⟩ := (opens_int Try.underlying2) enc W base spare held n _ _ f0
  have f1 : DataW.trod enc Try.prog W base spare held n 2 (([c0, c1, c2, c3, c4, c5, c6, c7, c8, c9].drop 1).take (Try.prog.cellsOf 2)) = some y1 := hfi 1 _ rfl
  rw [z0] at f1
  obtain ⟨d1, r1⟩ := (opens_int Try.underlying2) enc W base spare held n _ _ f1
  have f2 : DataW.trod enc Try.prog W base spare held n 2 (([c0, c1, c2, c3, c4, c5, c6, c7, c8, c9].drop 2).take (Try.prog.cellsOf 2)) = some y2 := hfi 2 _ rfl
  rw [z0] at f2
  obtain ⟨d2, r2⟩ := (opens_int Try.underlying2) enc W base spare held n _ _ f2
  have f3 : DataW.trod enc Try.prog W base spare held n 2 (([c0, c1, c2, c3, c4, c5, c6, c7, c8, c9].drop 3).take (Try.prog.cellsOf 2)) = some y3 := hfi 3 _ rfl
  rw [z0] at f3
  obtain ⟨d3, r3⟩ := (opens_int Try.underlying2) enc W base spare held n _ _ f3
  have f4 : DataW.trod enc Try.prog W base spare held n 2 (([c0, c1, c2, c3, c4, c5, c6, c7, c8, c9].drop 4).take (Try.prog.cellsOf 2)) = some y4 := hfi 4 _ rfl
  rw [z0] at f4
  obtain ⟨d4, r4⟩ := (opens_int Try.underlying2) enc W base spare held n _ _ f4
  have f5 : DataW.trod enc Try.prog W base spare held n 24 (([c0, c1, c2, c3, c4, c5, c6, c7, c8, c9].drop 5).take (Try.prog.cellsOf 24)) = some y5 := hfi 5 _ rfl
  rw [z1] at f5
  obtain ⟨d5, r5⟩ := (opens_Write) enc W base spare held n _ _ f5
  exact ⟨⟨d0, d1, d2, d3, d4, d5⟩, (reads_pair r0 (reads_pair r1 (reads_pair r2 (reads_pair r3 (reads_pair r4 r5)))))⟩

end Go.Proofs.Ytkmfkaljdngigaa
