/-
  Texts of this proof in one: WrFault, WrZero, ApplyPlain, DrawWrR, DrawWrB, AppInt.
  Their conditions stand in their theorems.
-/
import Derived.Test.YtipomhpimmnchaaLq03
import Derived.Test.YtipomhpimmnchaaLq01
import Derived.Test.YtipomhpimmnchaaLq02
import Derived.Deep.AppendLies

namespace Go.Proofs.Ytipomhpimmnchaa
open Go.RowKit

def kindB (k : Int) (n : Nat) : Bool := (decide (1 ≤ k) && decide (k ≤ 2)) && !(k == 2 && decide (0 < (n : Int)))
def boundB (i s q : Int) : Bool := (decide (1 ≤ i) && decide (i ≤ 999)) && ((decide (1 ≤ s) && decide (s ≤ 9)) && (decide (1 ≤ q) && decide (q ≤ 999)))
/-- What is wrong with a write. -/
def writeFault (k i : Int) (zs : List Int) (s q : Int) : Int :=
  if kindB k zs.length then (if boundB i s q then (if k = 1 then vecFault zs else 0) else 3) else 1

/-- The write that the pointer b points at. -/
def WriteAt (w : World) (b : Nat) (k i : Int) (v : Value) (s q : Int) : Prop :=
  w.cell? ⟨b, 0, none⟩ = some (.int .i64 k) ∧ w.cell? ⟨b, 1, none⟩ = some (.int .i64 i) ∧ w.cell? ⟨b, 2, none⟩ = some v ∧ w.cell? ⟨b, 3, none⟩ = some (.int .i64 s) ∧ w.cell? ⟨b, 4, none⟩ = some (.int .i64 q)
theorem WriteAt.later {w w' : World} {b : Nat} {k i s q : Int} {v : Value} (h : WriteAt w b k i v s q) (hb : Below w.heap.size w w') : WriteAt w' b k i v s q :=
  ⟨cell_keep hb h.1, cell_keep hb h.2.1, cell_keep hb h.2.2.1, cell_keep hb h.2.2.2.1, cell_keep hb h.2.2.2.2⟩

/-- The write at an element's place. -/
def WriteAtO (w : World) (b o : Nat) (k i : Int) (v : Value) (s q : Int) : Prop :=
  w.cell? ⟨b, o, none⟩ = some (.int .i64 k) ∧ w.cell? ⟨b, o + 1, none⟩ = some (.int .i64 i) ∧ w.cell? ⟨b, o + 2, none⟩ = some v ∧ w.cell? ⟨b, o + 3, none⟩ = some (.int .i64 s) ∧ w.cell? ⟨b, o + 4, none⟩ = some (.int .i64 q)

set_option maxRecDepth 100000 in
set_option maxHeartbeats 1000000 in
theorem l3FaultO (b o : Nat) (k i : Int) (v : Value) (s q : Int) (zs : List Int) (w : World) (hc : WriteAtO w b o k i v s q) (h : IsInts w v zs) :
    Calls Try.prog 53 #[.pointer (some ⟨b, o, none⟩)] w fun e w' => e = .returned (.int .i64 (writeFault k i zs s q)) ∧ w' = w := by
  have hv : ∃ a c, v = .slice a zs.length c := by obtain ⟨a, c, h, -⟩ := h; exact ⟨a, c, h⟩
  obtain ⟨av, cv, rfl⟩ := hv
  obtain ⟨c0, c1, c2, c3, c4⟩ := hc
  have HH := hide h
  clear h
  generalize hF : writeFault k i zs s q = F
  have HF := hide hF
  clear hF
  cases d1 : (decide (1 ≤ k) && decide (k ≤ 2)) with
  | false =>
    have hE : F = 1 := by rw [← unhide HF, writeFault, kindB, d1]; rfl
    subst hE
    go_enter Try.func53, Try.ntmps53
    go_wp2_with fail
    refine (inC k 1 2 _).mono ?_
    rintro e w1 ⟨rfl, rfl⟩
    rw [d1]
    go_wp2_with fail
    go_ret
    exact ⟨rfl, rfl⟩
  | true =>
    have hk : k = 1 ∨ k = 2 := by
      simp only [Bool.and_eq_true, decide_eq_true_eq] at d1
      omega
    clear d1
    rcases hk with rfl | rfl
    · have hK : kindB 1 zs.length = true := rfl
      cases dI : (decide (1 ≤ i) && decide (i ≤ 999)) with
      | false =>
        have hE : F = 3 := by rw [← unhide HF, writeFault, hK, if_pos rfl, boundB, dI]; rfl
        subst hE
        go_enter Try.func53, Try.ntmps53
        go_wp2_with fail
        refine (inC 1 1 2 _).mono ?_
        rintro e w1 ⟨rfl, rfl⟩
        go_wp2_with fail
        refine (idC i _).mono ?_
        rintro e w1 ⟨rfl, rfl⟩
        rw [dI]
        go_wp2_with fail
        go_ret
        exact ⟨rfl, rfl⟩
      | true =>
        cases dS : (decide (1 ≤ s) && decide (s ≤ 9)) with
        | false =>
          have hE : F = 3 := by rw [← unhide HF, writeFault, hK, if_pos rfl, boundB, dI, dS]; rfl
          subst hE
          go_enter Try.func53, Try.ntmps53
          go_wp2_with fail
          refine (inC 1 1 2 _).mono ?_
          rintro e w1 ⟨rfl, rfl⟩
          go_wp2_with fail
          refine (idC i _).mono ?_
          rintro e w1 ⟨rfl, rfl⟩
          rw [dI]
          go_wp2_with fail
          refine (sessionC s _).mono ?_
          rintro e w1 ⟨rfl, rfl⟩
          rw [dS]
          go_wp2_with fail
          go_ret
          exact ⟨rfl, rfl⟩
        | true =>
          cases dQ : (decide (1 ≤ q) && decide (q ≤ 999)) with
          | false =>
            have hE : F = 3 := by rw [← unhide HF, writeFault, hK, if_pos rfl, boundB, dI, dS, dQ]; rfl
            subst hE
            go_enter Try.func53, Try.ntmps53
            go_wp2_with fail
            refine (inC 1 1 2 _).mono ?_
            rintro e w1 ⟨rfl, rfl⟩
            go_wp2_with fail
            refine (idC i _).mono ?_
            rintro e w1 ⟨rfl, rfl⟩
            rw [dI]
            go_wp2_with fail
            refine (sessionC s _).mono ?_
            rintro e w1 ⟨rfl, rfl⟩
            rw [dS]
            go_wp2_with fail
            refine (inC q 1 999 _).mono ?_
            rintro e w1 ⟨rfl, rfl⟩
            rw [dQ]
            go_wp2_with fail
            go_ret
            exact ⟨rfl, rfl⟩
          | true =>
            have hE : F = vecFault zs := by rw [← unhide HF, writeFault, hK, if_pos rfl, boundB, dI, dS, dQ]; rfl
            subst hE
            go_enter Try.func53, Try.ntmps53
            go_wp2_with fail
            refine (inC 1 1 2 _).mono ?_
            rintro e w1 ⟨rfl, rfl⟩
            go_wp2_with fail
            refine (idC i _).mono ?_
            rintro e w1 ⟨rfl, rfl⟩
            rw [dI]
            go_wp2_with fail
            refine (sessionC s _).mono ?_
            rintro e w1 ⟨rfl, rfl⟩
            rw [dS]
            go_wp2_with fail
            refine (inC q 1 999 _).mono ?_
            rintro e w1 ⟨rfl, rfl⟩
            rw [dQ]
            go_wp2_with fail
            refine (modelFault _ zs _ (unhide HH)).mono ?_
            rintro e w1 ⟨rfl, rfl⟩
            go_wp2_with fail
            go_ret
            exact ⟨rfl, rfl⟩
    · by_cases hz : zs.length = 0
      · obtain rfl : zs = [] := List.eq_nil_of_length_eq_zero hz
        have hK : kindB 2 ([] : List Int).length = true := rfl
        simp only [List.length_nil] at c2 hK
        clear hz
        cases dI : (decide (1 ≤ i) && decide (i ≤ 999)) with
        | false =>
          have hE : F = 3 := by rw [← unhide HF, writeFault, show kindB 2 ([] : List Int).length = true from rfl, if_pos rfl, boundB, dI]; rfl
          subst hE
          go_enter Try.func53, Try.ntmps53
          go_wp2_with fail
          refine (inC 2 1 2 _).mono ?_
          rintro e w1 ⟨rfl, rfl⟩
          go_wp2_with fail
          refine (idC i _).mono ?_
          rintro e w1 ⟨rfl, rfl⟩
          rw [dI]
          go_wp2_with fail
          go_ret
          exact ⟨rfl, rfl⟩
        | true =>
          cases dS : (decide (1 ≤ s) && decide (s ≤ 9)) with
          | false =>
            have hE : F = 3 := by rw [← unhide HF, writeFault, show kindB 2 ([] : List Int).length = true from rfl, if_pos rfl, boundB, dI, dS]; rfl
            subst hE
            go_enter Try.func53, Try.ntmps53
            go_wp2_with fail
            refine (inC 2 1 2 _).mono ?_
            rintro e w1 ⟨rfl, rfl⟩
            go_wp2_with fail
            refine (idC i _).mono ?_
            rintro e w1 ⟨rfl, rfl⟩
            rw [dI]
            go_wp2_with fail
            refine (sessionC s _).mono ?_
            rintro e w1 ⟨rfl, rfl⟩
            rw [dS]
            go_wp2_with fail
            go_ret
            exact ⟨rfl, rfl⟩
          | true =>
            cases dQ : (decide (1 ≤ q) && decide (q ≤ 999)) with
            | false =>
              have hE : F = 3 := by rw [← unhide HF, writeFault, show kindB 2 ([] : List Int).length = true from rfl, if_pos rfl, boundB, dI, dS, dQ]; rfl
              subst hE
              go_enter Try.func53, Try.ntmps53
              go_wp2_with fail
              refine (inC 2 1 2 _).mono ?_
              rintro e w1 ⟨rfl, rfl⟩
              go_wp2_with fail
              refine (idC i _).mono ?_
              rintro e w1 ⟨rfl, rfl⟩
              rw [dI]
              go_wp2_with fail
              refine (sessionC s _).mono ?_
              rintro e w1 ⟨rfl, rfl⟩
              rw [dS]
              go_wp2_with fail
              refine (inC q 1 999 _).mono ?_
              rintro e w1 ⟨rfl, rfl⟩
              rw [dQ]
              go_wp2_with fail
              go_ret
              exact ⟨rfl, rfl⟩
            | true =>
              have hE : F = 0 := by rw [← unhide HF, writeFault, show kindB 2 ([] : List Int).length = true from rfl, if_pos rfl, boundB, dI, dS, dQ]; rfl
              subst hE
              go_enter Try.func53, Try.ntmps53
              go_wp2_with fail
              refine (inC 2 1 2 _).mono ?_
              rintro e w1 ⟨rfl, rfl⟩
              go_wp2_with fail
              refine (idC i _).mono ?_
              rintro e w1 ⟨rfl, rfl⟩
              rw [dI]
              go_wp2_with fail
              refine (sessionC s _).mono ?_
              rintro e w1 ⟨rfl, rfl⟩
              rw [dS]
              go_wp2_with fail
              refine (inC q 1 999 _).mono ?_
              rintro e w1 ⟨rfl, rfl⟩
              rw [dQ]
              go_wp2_with fail
              go_ret
              exact ⟨rfl, rfl⟩
      · have hE : F = 1 := by
          have : kindB 2 zs.length = false := by simp [kindB]; omega
          rw [← unhide HF, writeFault, this]; rfl
        subst hE
        obtain ⟨m, hm⟩ : ∃ m, zs.length = m + 1 := ⟨zs.length - 1, by omega⟩
        rw [hm] at c2
        clear hz hm
        go_enter Try.func53, Try.ntmps53
        go_wp2_with fail
        refine (inC 2 1 2 _).mono ?_
        rintro e w1 ⟨rfl, rfl⟩
        go_wp2_with fail
        go_ret
        exact ⟨rfl, rfl⟩

theorem l3Fault (b : Nat) (k i : Int) (v : Value) (s q : Int) (zs : List Int) (w : World) (hc : WriteAt w b k i v s q) (h : IsInts w v zs) :
    Calls Try.prog 53 #[.pointer (some ⟨b, 0, none⟩)] w fun e w' => e = .returned (.int .i64 (writeFault k i zs s q)) ∧ w' = w :=
  l3FaultO b 0 k i v s q zs w hc h

end Go.Proofs.Ytipomhpimmnchaa

namespace Go.Proofs.Ytipomhpimmnchaa
open Go.RowKit

/-- A write without a fault. -/
theorem writeFault_zero {k i s q : Int} {zs : List Int} (h : writeFault k i zs s q = 0) : (1 ≤ i ∧ i ≤ 999) ∧ (1 ≤ s ∧ s ≤ 9) ∧ (1 ≤ q ∧ q ≤ 999) ∧ ((k = 1 ∧ vecFault zs = 0) ∨ (k = 2 ∧ zs = [])) := by
  unfold writeFault at h
  split at h
  · next hk =>
    split at h
    · next hb =>
      simp only [kindB, Bool.and_eq_true, decide_eq_true_eq, Bool.not_eq_true', Bool.and_eq_false_iff] at hk
      simp only [boundB, Bool.and_eq_true, decide_eq_true_eq] at hb
      refine ⟨hb.1, hb.2.1, hb.2.2, ?_⟩
      by_cases h1 : k = 1
      · rw [if_pos h1] at h
        exact Or.inl ⟨h1, h⟩
      · have h2 : k = 2 := by omega
        refine Or.inr ⟨h2, ?_⟩
        rcases hk.2 with h3 | h3
        · simp [h2] at h3
        · simp at h3
          exact h3
    · omega
  · omega

end Go.Proofs.Ytipomhpimmnchaa

namespace Go.Proofs.Ytipomhpimmnchaa
open Go.RowKit

def wF (x : DWrite) : Int := writeFault x.kind x.id x.vec x.session x.seq
def applyI (xs : List DItem) (x : DWrite) : List DItem := if x.kind = 2 then dropI xs x.id else if roomB xs x.id then putI xs x.id x.vec else xs
def ofI (ws : List DWrite) : List DItem := ws.foldl applyI []
def wsFrom : List DWrite → Int
  | [] => 0
  | x :: xs => if wF x = 0 then wsFrom xs else wF x
def writesF (ws : List DWrite) : Int := if 200 < ws.length then 2 else wsFrom ws
def applyR (xs : List DItem) (x : DWrite) : DTableResult := if tableFault xs = 0 then (if wF x = 0 then ⟨0, applyI xs x⟩ else ⟨wF x, []⟩) else ⟨tableFault xs, []⟩
def tableOfR (ws : List DWrite) : DTableResult := if writesF ws = 0 then ⟨0, ofI ws⟩ else ⟨writesF ws, []⟩

theorem idB_of {z : Int} (h : 1 ≤ z ∧ z ≤ 999) : idB z = true := by simp only [idB, Bool.and_eq_true, decide_eq_true_eq]; exact h
theorem right_apply {xs : List DItem} (h : Right xs) {x : DWrite} (hx : wF x = 0) : Right (applyI xs x) := by
  obtain ⟨hi, -, -, hk⟩ := writeFault_zero hx
  unfold applyI
  split
  · exact right_drop h _
  · rename_i h2
    split
    · rename_i hr
      rcases hk with ⟨-, hv⟩ | ⟨hk, -⟩
      · exact right_put h (idB_of hi) hv (room_true hr)
      · exact absurd hk h2
    · exact h
theorem ofI_snoc (ws : List DWrite) (k : Nat) (h : k < ws.length) : ofI (ws.take (k + 1)) = applyI (ofI (ws.take k)) ws[k] := by
  rw [ofI, List.take_succ_eq_append_getElem h, List.foldl_append]
  rfl
theorem right_of_writes (ws : List DWrite) (h : ∀ x ∈ ws, wF x = 0) : Right (ofI ws) := by
  have : ∀ (ys : List DWrite) (xs : List DItem), Right xs → (∀ x ∈ ys, wF x = 0) → Right (ys.foldl applyI xs) := by
    intro ys
    induction ys with
    | nil => intro xs hx _; exact hx
    | cons y ys ih =>
      intro xs hx hy
      exact ih _ (right_apply hx (hy y (by simp))) fun x hx => hy x (List.mem_cons_of_mem _ hx)
  exact this ws [] right_nil h
theorem wsFrom_at (ws : List DWrite) (k : Nat) (h : k < ws.length) (hz : ∀ j (hj : j < ws.length), j < k → wF ws[j] = 0) (hn : wF ws[k] ≠ 0) : wsFrom ws = wF ws[k] := by
  induction ws generalizing k with
  | nil => simp at h
  | cons x xs ih =>
    match k with
    | 0 => rw [wsFrom, if_neg (by simpa using hn)]; rfl
    | k + 1 =>
      have h0 : wF x = 0 := hz 0 (by simp) (by omega)
      rw [wsFrom, if_pos h0]
      exact ih k (by simpa using h) (fun j hj hjk => hz (j + 1) (by simpa using hj) (by omega)) (by simpa using hn)
theorem wsFrom_all (ws : List DWrite) (hz : ∀ j (hj : j < ws.length), wF ws[j] = 0) : wsFrom ws = 0 := by
  induction ws with
  | nil => rfl
  | cons x xs ih =>
    have h0 : wF x = 0 := hz 0 (by simp)
    rw [wsFrom, if_pos h0]
    exact ih fun j hj => hz (j + 1) (by simpa using hj)
theorem wsFrom_zero {ws : List DWrite} (h : wsFrom ws = 0) : ∀ x ∈ ws, wF x = 0 := by
  induction ws with
  | nil => simp
  | cons x xs ih =>
    rw [wsFrom] at h
    by_cases h0 : wF x = 0
    · rw [if_pos h0] at h
      intro y hy
      rcases List.mem_cons.1 hy with rfl | hy
      · exact h0
      · exact ih h y hy
    · rw [if_neg h0] at h; exact absurd h h0
theorem writesF_zero {ws : List DWrite} (h : writesF ws = 0) : ws.length ≤ 200 ∧ ∀ x ∈ ws, wF x = 0 := by
  unfold writesF at h
  by_cases hn : 200 < ws.length
  · rw [if_pos hn] at h; cases h
  · rw [if_neg hn] at h; exact ⟨by omega, wsFrom_zero h⟩
theorem wF_vals (x : DWrite) : 0 ≤ wF x ∧ wF x ≤ 3 := by
  have hv := vecFault_vals x.vec
  unfold wF writeFault
  split
  · split
    · split
      · exact hv
      · decide
    · decide
  · decide
theorem wF_wf (x : DWrite) : (Lit.int .i64 (wF x)).wf = true := wf_of_bd (by have := wF_vals x; omega)
theorem wsFrom_vals (ws : List DWrite) : 0 ≤ wsFrom ws ∧ wsFrom ws ≤ 3 := by
  induction ws with
  | nil => decide
  | cons x xs ih =>
    rw [wsFrom]
    split
    · exact ih
    · exact wF_vals x
theorem writesF_wf (ws : List DWrite) : (Lit.int .i64 (writesF ws)).wf = true := by
  have := wsFrom_vals ws
  unfold writesF
  split
  · decide
  · exact wf_of_bd (by omega)

end Go.Proofs.Ytipomhpimmnchaa

namespace Go.Proofs.Ytipomhpimmnchaa
open Go.RowKit

theorem vecR8 {ds : List Int} (h1 : ds.length = 3) (h2 : inRange ds) : vecFault ds = 0 := by
  match ds, h1 with
  | [a, b, c], _ =>
    have hp : ∀ z, -1000 ≤ z ∧ z ≤ 1000 → partB z = true := fun z hz => by unfold partB; simp [hz.1, hz.2]
    unfold vecFault
    simp [hp a (h2 a (by simp)), hp b (h2 b (by simp)), hp c (h2 c (by simp))]
theorem writeFault_of {k i s q : Int} {zs : List Int} (hi : 1 ≤ i ∧ i ≤ 999) (hs : 1 ≤ s ∧ s ≤ 9) (hq : 1 ≤ q ∧ q ≤ 999) (hk : (k = 1 ∧ vecFault zs = 0) ∨ (k = 2 ∧ zs = [])) : writeFault k i zs s q = 0 := by
  have hb : boundB i s q = true := by simp [boundB, hi.1, hi.2, hs.1, hs.2, hq.1, hq.2]
  rcases hk with ⟨rfl, hv⟩ | ⟨rfl, rfl⟩
  · rw [writeFault, if_pos (by simp [kindB]), if_pos hb, if_pos rfl, hv]
  · rw [writeFault, if_pos (by simp [kindB]), if_pos hb, if_neg (by decide)]

/-- Some write of the draw's own; the source has gone on. -/
def WritePostR (b m : Nat) (cv : Value) (w : World) (e : Ending) (w' : World) : Prop :=
  ∃ (cs : List Value) (x : DWrite) (bl : List Nat) (m' : Nat), e = .returned (.agg cs.toArray) ∧ Lay.tWrite.lies w' cs x bl ∧ (∀ c ∈ bl, w.heap.size ≤ c ∧ c < w'.heap.size) ∧ SrcAt w' b cv m' ∧ m' ≤ m + 100 ∧ IsCode b w' cv ∧ w.grownBy w' (some b) ∧ wF x = 0 ∧ x.seq ≤ 9

theorem closeWR {b m m' s : Nat} {cv : Value} {w W F : World} {cs : List Value} {x : DWrite} {bl : List Nat} (hE : Ext (fun q => q = b ∨ w.heap.size ≤ q) w W) (hF : Ext (fun q => q = s ∨ q = w.heap.size) W F) (hs : w.heap.size ≤ s) (hb : b < w.heap.size)
    (hS : SrcAt W b cv m') (hC : IsCode b W cv) (hm : m' ≤ m + 100) (hl : Lay.tWrite.lies W cs x bl) (hbl : ∀ c ∈ bl, w.heap.size < c ∧ c ≠ s) (hwf : wF x = 0 ∧ x.seq ≤ 9) : WritePostR b m cv w (.returned (.agg cs.toArray)) F := by
  have hz := hE.size
  refine ⟨cs, x, bl, m', rfl, Lay.tWrite.keep hl fun c hc => hF.block c (Lay.tWrite.lt hl c hc) (fun e => ?_), fun c hc => ⟨by have := hbl c hc; omega, Nat.lt_of_lt_of_le (Lay.tWrite.lt hl c hc) hF.size⟩, hS.extW hF (fun e => by omega), hm, hC.extW (by omega) hF (fun k hk e => by omega), ?_, hwf.1, hwf.2⟩
  · have := hbl c hc
    omega
  · exact ⟨hF.os.trans hE.os, hF.tape.trans hE.tape, hF.output.trans hE.output, Nat.le_trans hE.size hF.size, fun i hi hn => (hF.block i (by omega) (fun e => by omega)).trans (hE.block i hi (fun e => by
      rcases e with e | e
      · exact hn (by rw [e])
      · omega))⟩

set_option maxRecDepth 10000 in
set_option maxHeartbeats 1000000 in
theorem drawWriteR (b m : Nat) (cv : Value) (w : World) (hs : SrcAt w b cv m) (hc : IsCode b w cv) (hm : m ≤ 1000000) :
    Calls Try.prog 91 #[.pointer (some ⟨b, 0, none⟩)] w (WritePostR b m cv w) := by
  have hbw := hs.lt
  have nb : Below w.heap.size w ((w.alloc (.cells #[.int .i64 0, .int .i64 0, .slice none 0 0, .int .i64 0, .int .i64 0] 58)).alloc (.cells #[.int .i64 1, .int .i64 1, .int .i64 1, .int .i64 2] 2)) := ((Below.refl _ _).alloc (Nat.le_refl _) _).alloc (by simp) _
  have bR : Box w.heap.size #[.int .i64 0, .int .i64 0, .slice none 0 0, .int .i64 0, .int .i64 0] 58 ((w.alloc (.cells #[.int .i64 0, .int .i64 0, .slice none 0 0, .int .i64 0, .int .i64 0] 58)).alloc (.cells #[.int .i64 1, .int .i64 1, .int .i64 1, .int .i64 2] 2)) w.heap.size := (newBox (Nat.le_refl _)).grow _
  have bP : Box w.heap.size #[.int .i64 1, .int .i64 1, .int .i64 1, .int .i64 2] 2 ((w.alloc (.cells #[.int .i64 0, .int .i64 0, .slice none 0 0, .int .i64 0, .int .i64 0] 58)).alloc (.cells #[.int .i64 1, .int .i64 1, .int .i64 1, .int .i64 2] 2)) (w.heap.size + 1) := newBoxAt (by omega) (by simp)
  have s0 := hs.onW nb
  have c0 := hc.onW (Nat.le_of_lt hbw) nb
  clear hs hc
  go_enter Try.func91, Try.ntmps91
  go_wp2_with fail
  generalize (w.alloc (.cells #[.int .i64 0, .int .i64 0, .slice none 0 0, .int .i64 0, .int .i64 0] 58)).alloc (.cells #[.int .i64 1, .int .i64 1, .int .i64 1, .int .i64 2] 2) = W0 at *
  refine (pick b m (w.heap.size + 1) cv [1, 1, 1, 2] W0 s0 c0 (by omega) (by simp) (by simp) bP.2 (by omega)).mono ?_
  rintro e w1 ⟨r, rfl, hr, s1, c1, g1⟩
  have hr2 : r = 1 ∨ r = 2 := by simpa using hr
  have E1 : Ext (fun q => q = b ∨ w.heap.size ≤ q) w w1 := (ext_of_below nb _).trans ((ext_grown g1).mono fun k _ h => Or.inl h)
  have bR1 := bR.ext (ext_grown g1) (by omega)
  have HE := hide E1
  have HR := hide bR1
  have HS := hide s1
  have HC := hide c1
  clear nb bR bP s0 c0 s1 c1 g1 E1 bR1 hr
  have L := hide (next b (m + 1) cv 5 w1 (unhide HS) (unhide HC) (by omega) (by omega) (by omega))
  go_wp2_with fail
  refine (unhide L).mono ?_
  rintro e w2 ⟨i, rfl, hi, s2, c2, g2⟩
  replace HE := hide ((unhide HE).trans ((ext_grown g2).mono fun k _ h => Or.inl h))
  replace HR := hide ((unhide HR).ext (ext_grown g2) (by omega))
  replace HS := hide s2
  replace HC := hide c2
  clear s2 c2 g2 L
  have L := hide (next b (m + 1 + 1) cv 3 w2 (unhide HS) (unhide HC) (by omega) (by omega) (by omega))
  go_wp2_with fail
  refine (unhide L).mono ?_
  rintro e w3 ⟨s, rfl, hss, s3, c3, g3⟩
  replace HE := hide ((unhide HE).trans ((ext_grown g3).mono fun k _ h => Or.inl h))
  replace HR := hide ((unhide HR).ext (ext_grown g3) (by omega))
  replace HS := hide s3
  replace HC := hide c3
  clear s3 c3 g3 L
  have L := hide (next b (m + 1 + 1 + 1) cv 9 w3 (unhide HS) (unhide HC) (by omega) (by omega) (by omega))
  go_wp2_with fail
  refine (unhide L).mono ?_
  rintro e w4 ⟨q, rfl, hq, s4, c4, g4⟩
  replace HE := hide ((unhide HE).trans ((ext_grown g4).mono fun k _ h => Or.inl h))
  replace HR := hide ((unhide HR).ext (ext_grown g4) (by omega))
  replace HS := hide s4
  replace HC := hide c4
  clear s4 c4 g4 L
  have hz4 : w.heap.size < w4.heap.size := (unhide HR).lt
  have nb : Below w4.heap.size w4 (w4.alloc (.cells #[.int .i64 r, .int .i64 (1 + i), .slice none 0 0, .int .i64 (1 + s), .int .i64 (1 + q)] 58)) := (Below.refl _ _).alloc (Nat.le_refl _) _
  have bX : Box w4.heap.size #[.int .i64 r, .int .i64 (1 + i), .slice none 0 0, .int .i64 (1 + s), .int .i64 (1 + q)] 58 (w4.alloc (.cells #[.int .i64 r, .int .i64 (1 + i), .slice none 0 0, .int .i64 (1 + s), .int .i64 (1 + q)] 58)) w4.heap.size := newBox (Nat.le_refl _)
  rcases hr2 with rfl | rfl
  · have L := hide (draw b (m + 1 + 1 + 1 + 1) cv _ ((unhide HS).onW nb) ((unhide HC).onW (by omega) nb) (by omega))
    have HE5 := hide ((unhide HE).trans (ext_of_below nb _))
    have HR5 := hide ((unhide HR).keep nb)
    have HX5 := hide bX
    have HNB := hide nb.size
    clear nb bX HE HR HS HC
    go_wp2_with fail
    refine (unhide L).mono ?_
    generalize w4.alloc (.cells #[.int .i64 1, .int .i64 (1 + i), .slice none 0 0, .int .i64 (1 + s), .int .i64 (1 + q)] 58) = W5 at *
    rintro e w6 ⟨v, ds, rfl, hd3, hdr, hod, s6, c6, g6⟩
    have HVF := hide (vecR8 hd3 hdr)
    rw [← hd3] at hod
    have hdw : ∀ z ∈ ds, (Lit.int .i64 z).wf = true := fun z hz => wf_of_bd (by have := hdr z hz; omega)
    have hO := Lay.ownInts hdw (by omega) hod
    obtain ⟨ao, cp, rfl⟩ := open_sl hO.reads
    have bX := (unhide HX5).ext (ext_grown g6) (by omega)
    have bR := (unhide HR5).ext (ext_grown g6) (by omega)
    have E6 := (unhide HE5).trans ((ext_grown g6).mono fun k _ h => Or.inl h)
    have hX0 := (unhide HX5).lt
    have x0 : w6.cell? ⟨w4.heap.size, 0, none⟩ = some (.int .i64 1) := bX.at 0 _ rfl
    have x1 : w6.cell? ⟨w4.heap.size, 1, none⟩ = some (.int .i64 (1 + i)) := bX.at 1 _ rfl
    have x2 : w6.cell? ⟨w4.heap.size, 2, none⟩ = some (.slice none 0 0) := bX.at 2 _ rfl
    have x3 : w6.cell? ⟨w4.heap.size, 3, none⟩ = some (.int .i64 (1 + s)) := bX.at 3 _ rfl
    have x4 : w6.cell? ⟨w4.heap.size, 4, none⟩ = some (.int .i64 (1 + q)) := bX.at 4 _ rfl
    have xf := bX.soft
    have xl := bX.lt
    have z0 : w6.cell? ⟨w.heap.size, 0, none⟩ = some (.int .i64 0) := bR.at 0 _ rfl
    have z1 : w6.cell? ⟨w.heap.size, 1, none⟩ = some (.int .i64 0) := bR.at 1 _ rfl
    have z2 : w6.cell? ⟨w.heap.size, 2, none⟩ = some (.slice none 0 0) := bR.at 2 _ rfl
    have z3 : w6.cell? ⟨w.heap.size, 3, none⟩ = some (.int .i64 0) := bR.at 3 _ rfl
    have z4 : w6.cell? ⟨w.heap.size, 4, none⟩ = some (.int .i64 0) := bR.at 4 _ rfl
    have zf := bR.soft
    have zl := bR.lt
    have HO := hide hO
    have HX := hide bX
    have HR := hide bR
    have HE := hide E6
    have HS := hide s6
    have HC := hide c6
    clear hod hdr hO bX bR E6 s6 c6 g6 L HE5 HR5 HX5 hdw
    go_wp2_with fail
    have hE9 : ∀ u0 u1 u2 u3 u4 u5, Ext (fun c => c = w4.heap.size ∨ c = w.heap.size) w6 ((((((w6.setCell ⟨w4.heap.size, 2, none⟩ u0).setCell ⟨w.heap.size, 0, none⟩ u1).setCell ⟨w.heap.size, 1, none⟩ u2).setCell ⟨w.heap.size, 2, none⟩ u3).setCell ⟨w.heap.size, 3, none⟩ u4).setCell ⟨w.heap.size, 4, none⟩ u5) := fun u0 u1 u2 u3 u4 u5 => ((((((Ext.refl _ _).setCell _ _ (Or.inl rfl)).setCell _ _ (Or.inr rfl)).setCell _ _ (Or.inr rfl)).setCell _ _ (Or.inr rfl)).setCell _ _ (Or.inr rfl)).setCell _ _ (Or.inr rfl)
    obtain ⟨bl, ⟨hl, -, -⟩, hbl⟩ := unhide HO
    have hlw : Lay.tWrite.lies w6 [.int .i64 1, .int .i64 (1 + i), .slice ao 3 cp, .int .i64 (1 + s), .int .i64 (1 + q)] ⟨1, 1 + (i : Int), ds, 1 + (s : Int), 1 + (q : Int)⟩ bl := by
      refine lies_Write.2 ⟨ao, cp, bl, by rw [hd3], rfl, (show (Lit.int .i64 (1)).wf = true from wf_of_bd (by omega)), (show (Lit.int .i64 (1 + (i : Int))).wf = true from wf_of_bd (by omega)), ?_, (show (Lit.int .i64 (1 + (s : Int))).wf = true from wf_of_bd (by omega)), (show (Lit.int .i64 (1 + (q : Int))).wf = true from wf_of_bd (by omega))⟩
      exact hl
    refine bodyPost_ret (v := .agg #[.int .i64 1, .int .i64 (1 + i), .slice ao 3 cp, .int .i64 (1 + s), .int .i64 (1 + q)]) (by simp [results, Try.results91, go_sem, z0, z1, z2, z3, z4]) rfl ?_
    exact closeWR (unhide HE) (hE9 _ _ _ _ _ _) (Nat.le_of_lt hz4) hbw (unhide HS) (unhide HC) (by omega) hlw (fun c hc => by have := hbl c hc; omega) ⟨show writeFault 1 (1 + (i : Int)) ds (1 + (s : Int)) (1 + (q : Int)) = 0 from writeFault_of (by omega) (by omega) (by omega) (Or.inl ⟨rfl, unhide HVF⟩), by show 1 + (q : Int) ≤ 9; omega⟩
  · have HE4 := HE
    have HS4 := HS
    have HC4 := HC
    clear bX nb
    have z0 : w4.cell? ⟨w.heap.size, 0, none⟩ = some (.int .i64 0) := (unhide HR).at 0 _ rfl
    have z1 : w4.cell? ⟨w.heap.size, 1, none⟩ = some (.int .i64 0) := (unhide HR).at 1 _ rfl
    have z2 : w4.cell? ⟨w.heap.size, 2, none⟩ = some (.slice none 0 0) := (unhide HR).at 2 _ rfl
    have z3 : w4.cell? ⟨w.heap.size, 3, none⟩ = some (.int .i64 0) := (unhide HR).at 3 _ rfl
    have z4 : w4.cell? ⟨w.heap.size, 4, none⟩ = some (.int .i64 0) := (unhide HR).at 4 _ rfl
    have zf := (unhide HR).soft
    have y0 : ∀ u0 u1 u2 u3 u4 o, ((((((w4.setCell ⟨w.heap.size, 0, none⟩ u0).setCell ⟨w.heap.size, 1, none⟩ u1).setCell ⟨w.heap.size, 2, none⟩ u2).setCell ⟨w.heap.size, 3, none⟩ u3).setCell ⟨w.heap.size, 4, none⟩ u4).alloc o).cell? ⟨w.heap.size, 0, none⟩ = some u0 := fun u0 u1 u2 u3 u4 o => (((((((unhide HR).set 0 u0).set 1 u1).set 2 u2).set 3 u3).set 4 u4).grow o).at 0 u0 rfl
    have y1 : ∀ u0 u1 u2 u3 u4 o, ((((((w4.setCell ⟨w.heap.size, 0, none⟩ u0).setCell ⟨w.heap.size, 1, none⟩ u1).setCell ⟨w.heap.size, 2, none⟩ u2).setCell ⟨w.heap.size, 3, none⟩ u3).setCell ⟨w.heap.size, 4, none⟩ u4).alloc o).cell? ⟨w.heap.size, 1, none⟩ = some u1 := fun u0 u1 u2 u3 u4 o => (((((((unhide HR).set 0 u0).set 1 u1).set 2 u2).set 3 u3).set 4 u4).grow o).at 1 u1 rfl
    have y2 : ∀ u0 u1 u2 u3 u4 o, ((((((w4.setCell ⟨w.heap.size, 0, none⟩ u0).setCell ⟨w.heap.size, 1, none⟩ u1).setCell ⟨w.heap.size, 2, none⟩ u2).setCell ⟨w.heap.size, 3, none⟩ u3).setCell ⟨w.heap.size, 4, none⟩ u4).alloc o).cell? ⟨w.heap.size, 2, none⟩ = some u2 := fun u0 u1 u2 u3 u4 o => (((((((unhide HR).set 0 u0).set 1 u1).set 2 u2).set 3 u3).set 4 u4).grow o).at 2 u2 rfl
    have y3 : ∀ u0 u1 u2 u3 u4 o, ((((((w4.setCell ⟨w.heap.size, 0, none⟩ u0).setCell ⟨w.heap.size, 1, none⟩ u1).setCell ⟨w.heap.size, 2, none⟩ u2).setCell ⟨w.heap.size, 3, none⟩ u3).setCell ⟨w.heap.size, 4, none⟩ u4).alloc o).cell? ⟨w.heap.size, 3, none⟩ = some u3 := fun u0 u1 u2 u3 u4 o => (((((((unhide HR).set 0 u0).set 1 u1).set 2 u2).set 3 u3).set 4 u4).grow o).at 3 u3 rfl
    have y4 : ∀ u0 u1 u2 u3 u4 o, ((((((w4.setCell ⟨w.heap.size, 0, none⟩ u0).setCell ⟨w.heap.size, 1, none⟩ u1).setCell ⟨w.heap.size, 2, none⟩ u2).setCell ⟨w.heap.size, 3, none⟩ u3).setCell ⟨w.heap.size, 4, none⟩ u4).alloc o).cell? ⟨w.heap.size, 4, none⟩ = some u4 := fun u0 u1 u2 u3 u4 o => (((((((unhide HR).set 0 u0).set 1 u1).set 2 u2).set 3 u3).set 4 u4).grow o).at 4 u4 rfl
    have hE9 : ∀ u0 u1 u2 u3 u4 o, Ext (fun c => c = w.heap.size ∨ c = w.heap.size) w4 ((((((w4.setCell ⟨w.heap.size, 0, none⟩ u0).setCell ⟨w.heap.size, 1, none⟩ u1).setCell ⟨w.heap.size, 2, none⟩ u2).setCell ⟨w.heap.size, 3, none⟩ u3).setCell ⟨w.heap.size, 4, none⟩ u4).alloc o) := fun u0 u1 u2 u3 u4 o => ((((((Ext.refl _ _).setCell _ _ (Or.inr rfl)).setCell _ _ (Or.inr rfl)).setCell _ _ (Or.inr rfl)).setCell _ _ (Or.inr rfl)).setCell _ _ (Or.inr rfl)).trans (ext_of_below ((Below.refl _ _).alloc (Nat.le_refl _) o) _)
    go_wp2_with fail
    refine bodyPost_ret (v := .agg #[.int .i64 2, .int .i64 (1 + i), .slice none 0 0, .int .i64 (1 + s), .int .i64 (1 + q)]) (by simp [results, Try.results91, go_sem, y0, y1, y2, y3, y4]) rfl ?_
    have hlw : Lay.tWrite.lies w4 [.int .i64 2, .int .i64 (1 + i), .slice none 0 0, .int .i64 (1 + s), .int .i64 (1 + q)] ⟨2, 1 + (i : Int), [], 1 + (s : Int), 1 + (q : Int)⟩ [] := by
      refine lies_Write.2 ⟨none, 0, [], rfl, rfl, (show (Lit.int .i64 (2)).wf = true from wf_of_bd (by omega)), (show (Lit.int .i64 (1 + (i : Int))).wf = true from wf_of_bd (by omega)), ?_, (show (Lit.int .i64 (1 + (s : Int))).wf = true from wf_of_bd (by omega)), (show (Lit.int .i64 (1 + (q : Int))).wf = true from wf_of_bd (by omega))⟩
      exact Lay.lies_ints.2 ⟨none, 0, rfl, by simp, by simp, Or.inl ⟨rfl, rfl⟩⟩
    exact closeWR (s := w.heap.size) (unhide HE4) (hE9 _ _ _ _ _ _) (Nat.le_refl _) hbw (unhide HS4) (unhide HC4) (by omega) hlw (by simp) ⟨show writeFault 2 (1 + (i : Int)) [] (1 + (s : Int)) (1 + (q : Int)) = 0 from writeFault_of (by omega) (by omega) (by omega) (Or.inr ⟨rfl, rfl⟩), by show 1 + (q : Int) ≤ 9; omega⟩

end Go.Proofs.Ytipomhpimmnchaa

namespace Go.Proofs.Ytipomhpimmnchaa
open Go.RowKit

set_option maxRecDepth 10000 in
set_option maxHeartbeats 4000000 in
theorem bentWrite (b m : Nat) (cv : Value) (w : World) (hs : SrcAt w b cv m) (hc : IsCode b w cv) (hm : m ≤ 1000000) :
    Calls Try.prog 75 #[.pointer (some ⟨b, 0, none⟩)] w fun e w' => ∃ (cs : List Value) (x : DWrite) (bl : List Nat) (m' : Nat), e = .returned (.agg cs.toArray) ∧ Lay.tWrite.lies w' cs x bl ∧ (∀ c ∈ bl, w.heap.size ≤ c ∧ c < w'.heap.size) ∧ SrcAt w' b cv m' ∧ m' ≤ m + 200 ∧ IsCode b w' cv ∧ w.grownBy w' (some b) := by
  have hbw := hs.lt
  have nb : Below w.heap.size w (w.alloc (.cells #[.int .i64 0, .int .i64 0, .slice none 0 0, .int .i64 0, .int .i64 0] 58)) := (Below.refl _ _).alloc (Nat.le_refl _) _
  have bR : Box w.heap.size #[.int .i64 0, .int .i64 0, .slice none 0 0, .int .i64 0, .int .i64 0] 58 (w.alloc (.cells #[.int .i64 0, .int .i64 0, .slice none 0 0, .int .i64 0, .int .i64 0] 58)) w.heap.size := newBox (Nat.le_refl _)
  have s0 := hs.onW nb
  have c0 := hc.onW (Nat.le_of_lt hbw) nb
  clear hs hc
  go_enter Try.func75, Try.ntmps75
  go_wp2_with fail
  generalize w.alloc (.cells #[.int .i64 0, .int .i64 0, .slice none 0 0, .int .i64 0, .int .i64 0] 58) = W0 at *
  refine (drawWrite b m cv W0 s0 c0 hm).mono ?_
  rintro e w1 ⟨cs, x, bl, m', rfl, hl, hbl, s1, hm', c1, g1⟩
  obtain ⟨a2, d2, bv, rfl, rfl, wk, wi, hlv, wse, wsq⟩ := lies_Write.1 hl
  have hW0 := bR.lt
  have E1 : Ext (fun q => q = b ∨ w.heap.size ≤ q) w w1 := (ext_of_below nb _).trans ((ext_grown g1).mono fun k _ h => Or.inl h)
  have bR1 := bR.ext (ext_grown g1) (by omega)
  have nb2 : Below w1.heap.size w1 (w1.alloc (.cells #[.int .i64 x.kind, .int .i64 x.id, .slice a2 x.vec.length d2, .int .i64 x.session, .int .i64 x.seq] 58)) := (Below.refl _ _).alloc (Nat.le_refl _) _
  have bX : Box w1.heap.size #[.int .i64 x.kind, .int .i64 x.id, .slice a2 x.vec.length d2, .int .i64 x.session, .int .i64 x.seq] 58 (w1.alloc (.cells #[.int .i64 x.kind, .int .i64 x.id, .slice a2 x.vec.length d2, .int .i64 x.session, .int .i64 x.seq] 58)) w1.heap.size := newBox (Nat.le_refl _)
  have hz1 : w.heap.size < w1.heap.size := bR1.lt
  have L := hide (next b m' cv 12 _ (s1.onW nb2) (c1.onW (by omega) nb2) (by omega) (by omega) (by omega))
  have HE := hide (E1.trans (ext_of_below nb2 _))
  have HR := hide (bR1.keep nb2)
  have HX := hide bX
  have HLV := hide ((Lay.sl Lay.int).keep hlv fun c hc => nb2.block c ((Lay.sl Lay.int).lt hlv c hc))
  have HBL : Hid (∀ c ∈ bl, w.heap.size < c ∧ c < w1.heap.size) := fun c hc => by have := hbl c hc; omega
  clear nb bR s0 c0 hl hbl s1 c1 g1 E1 bR1 nb2 bX hlv
  go_wp2_with fail
  refine (unhide L).mono ?_
  generalize w1.alloc (.cells #[.int .i64 x.kind, .int .i64 x.id, .slice a2 x.vec.length d2, .int .i64 x.session, .int .i64 x.seq] 58) = W2 at *
  rintro e w2 ⟨r, rfl, hr, s2, c2, g2⟩
  have hX2 := (unhide HX).lt
  replace HE := hide ((unhide HE).trans ((ext_grown g2).mono fun k _ h => Or.inl h))
  replace HR := hide ((unhide HR).ext (ext_grown g2) (by omega))
  replace HX := hide ((unhide HX).ext (ext_grown g2) (by omega))
  replace HLV := hide ((Lay.sl Lay.int).keep (unhide HLV) fun c hc => g2.block c ((Lay.sl Lay.int).lt (unhide HLV) c hc) (fun e => by
    have h1 := unhide HBL c hc
    have h2 : c = b := Option.some.inj e
    omega))
  have HS := hide s2
  have HC := hide c2
  clear s2 c2 g2 L hr
  by_cases h0 : r = 0
  · subst h0
    have nb3 : Below w2.heap.size w2 (w2.alloc (.cells #[.int .i64 0, .int .i64 1, .int .i64 2, .int .i64 3] 2)) := (Below.refl _ _).alloc (Nat.le_refl _) _
    have hg3 := heap_alloc_new w2 (.cells #[.int .i64 0, .int .i64 1, .int .i64 2, .int .i64 3] 2)
    have hz2 : w1.heap.size < w2.heap.size := (unhide HX).lt
    have L := hide (pick b (m' + 1) w2.heap.size cv [0, 1, 2, 3] _ ((unhide HS).onW nb3) ((unhide HC).onW (by omega) nb3) (by omega) (by simp) (by simp) hg3 (by omega))
    replace HE := hide ((unhide HE).trans (ext_of_below nb3 _))
    replace HR := hide ((unhide HR).keep nb3)
    replace HX := hide ((unhide HX).keep nb3)
    replace HLV := hide ((Lay.sl Lay.int).keep (unhide HLV) fun c hc => nb3.block c ((Lay.sl Lay.int).lt (unhide HLV) c hc))
    clear nb3 hg3 HS HC
    go_wp2_with fail
    refine (unhide L).mono ?_
    generalize w2.alloc (.cells #[.int .i64 0, .int .i64 1, .int .i64 2, .int .i64 3] 2) = W3 at *
    rintro e w3 ⟨p, rfl, hp, s3, c3, g3⟩
    have hpb : 0 ≤ p ∧ p ≤ 1000 := by
      simp only [List.mem_cons, List.not_mem_nil, or_false] at hp
      omega
    replace HE := hide ((unhide HE).trans ((ext_grown g3).mono fun k _ h => Or.inl h))
    replace HR := hide ((unhide HR).ext (ext_grown g3) (by omega))
    replace HX := hide ((unhide HX).ext (ext_grown g3) (by omega))
    replace HLV := hide ((Lay.sl Lay.int).keep (unhide HLV) fun c hc => g3.block c ((Lay.sl Lay.int).lt (unhide HLV) c hc) (fun e => by
      have h1 := unhide HBL c hc
      have h2 : c = b := Option.some.inj e
      omega))
    have HS := hide s3
    have HC := hide c3
    clear s3 c3 g3 L
    have x0 : w3.cell? ⟨w1.heap.size, 0, none⟩ = some (.int .i64 x.kind) := (unhide HX).at 0 _ rfl
    have x1 : w3.cell? ⟨w1.heap.size, 1, none⟩ = some (.int .i64 x.id) := (unhide HX).at 1 _ rfl
    have x2 : w3.cell? ⟨w1.heap.size, 2, none⟩ = some (.slice a2 x.vec.length d2) := (unhide HX).at 2 _ rfl
    have x3 : w3.cell? ⟨w1.heap.size, 3, none⟩ = some (.int .i64 x.session) := (unhide HX).at 3 _ rfl
    have x4 : w3.cell? ⟨w1.heap.size, 4, none⟩ = some (.int .i64 x.seq) := (unhide HX).at 4 _ rfl
    have xf := (unhide HX).soft
    have xl := (unhide HX).lt
    have z0 : w3.cell? ⟨w.heap.size, 0, none⟩ = some (.int .i64 0) := (unhide HR).at 0 _ rfl
    have z1 : w3.cell? ⟨w.heap.size, 1, none⟩ = some (.int .i64 0) := (unhide HR).at 1 _ rfl
    have z2 : w3.cell? ⟨w.heap.size, 2, none⟩ = some (.slice none 0 0) := (unhide HR).at 2 _ rfl
    have z3 : w3.cell? ⟨w.heap.size, 3, none⟩ = some (.int .i64 0) := (unhide HR).at 3 _ rfl
    have z4 : w3.cell? ⟨w.heap.size, 4, none⟩ = some (.int .i64 0) := (unhide HR).at 4 _ rfl
    have zf := (unhide HR).soft
    have zl := (unhide HR).lt
    have hE9 : ∀ u0 u1 u2 u3 u4 u5, Ext (fun c => c = w1.heap.size ∨ c = w.heap.size) w3 ((((((w3.setCell ⟨w1.heap.size, 0, none⟩ u0).setCell ⟨w.heap.size, 0, none⟩ u1).setCell ⟨w.heap.size, 1, none⟩ u2).setCell ⟨w.heap.size, 2, none⟩ u3).setCell ⟨w.heap.size, 3, none⟩ u4).setCell ⟨w.heap.size, 4, none⟩ u5) := fun u0 u1 u2 u3 u4 u5 => (((((((Ext.refl _ _).setCell _ _ (Or.inl rfl)).setCell _ _ (Or.inr rfl)).setCell _ _ (Or.inr rfl)).setCell _ _ (Or.inr rfl)).setCell _ _ (Or.inr rfl)).setCell _ _ (Or.inr rfl))
    go_wp2_with fail
    refine bodyPost_ret (v := .agg #[.int .i64 p, .int .i64 x.id, .slice a2 x.vec.length d2, .int .i64 x.session, .int .i64 x.seq]) (by simp [results, Try.results75, go_sem, z0, z1, z2, z3, z4]) rfl ?_
    have hlw : Lay.tWrite.lies w3 [.int .i64 p, .int .i64 x.id, .slice a2 x.vec.length d2, .int .i64 x.session, .int .i64 x.seq] ⟨p, x.id, x.vec, x.session, x.seq⟩ bl := lies_Write.2 ⟨a2, d2, bl, rfl, rfl, (show (Lit.int .i64 p).wf = true from wf_of_bd (by omega)), wi, unhide HLV, wse, wsq⟩
    have hbl9 : ∀ c ∈ bl, w.heap.size < c ∧ c ≠ w1.heap.size := fun c hc => by have := unhide HBL c hc; omega
    obtain ⟨cs9, x9, bl9, m9, e9, q1, q2, q3, q4, q5, q6⟩ := closeW (m := m + 100) (unhide HE) (hE9 _ _ _ _ _ _) (Nat.le_of_lt hz1) hbw (unhide HS) (unhide HC) (by omega) hlw hbl9
    exact ⟨cs9, x9, bl9, m9, e9, q1, q2, q3, by omega, q5, q6⟩
  · have n0 : ((r : Int) == 0) = false := by simp; omega
    by_cases h1 : r = 1
    · subst h1
      have nb3 : Below w2.heap.size w2 (w2.alloc (.cells #[.int .i64 0, .int .i64 999, .int .i64 1000] 2)) := (Below.refl _ _).alloc (Nat.le_refl _) _
      have hg3 := heap_alloc_new w2 (.cells #[.int .i64 0, .int .i64 999, .int .i64 1000] 2)
      have hz2 : w1.heap.size < w2.heap.size := (unhide HX).lt
      have L := hide (pick b (m' + 1) w2.heap.size cv [0, 999, 1000] _ ((unhide HS).onW nb3) ((unhide HC).onW (by omega) nb3) (by omega) (by simp) (by simp) hg3 (by omega))
      replace HE := hide ((unhide HE).trans (ext_of_below nb3 _))
      replace HR := hide ((unhide HR).keep nb3)
      replace HX := hide ((unhide HX).keep nb3)
      replace HLV := hide ((Lay.sl Lay.int).keep (unhide HLV) fun c hc => nb3.block c ((Lay.sl Lay.int).lt (unhide HLV) c hc))
      clear nb3 hg3 HS HC
      go_wp2_with fail
      refine (unhide L).mono ?_
      generalize w2.alloc (.cells #[.int .i64 0, .int .i64 999, .int .i64 1000] 2) = W3 at *
      rintro e w3 ⟨p, rfl, hp, s3, c3, g3⟩
      have hpb : 0 ≤ p ∧ p ≤ 1000 := by
        simp only [List.mem_cons, List.not_mem_nil, or_false] at hp
        omega
      replace HE := hide ((unhide HE).trans ((ext_grown g3).mono fun k _ h => Or.inl h))
      replace HR := hide ((unhide HR).ext (ext_grown g3) (by omega))
      replace HX := hide ((unhide HX).ext (ext_grown g3) (by omega))
      replace HLV := hide ((Lay.sl Lay.int).keep (unhide HLV) fun c hc => g3.block c ((Lay.sl Lay.int).lt (unhide HLV) c hc) (fun e => by
        have h1 := unhide HBL c hc
        have h2 : c = b := Option.some.inj e
        omega))
      have HS := hide s3
      have HC := hide c3
      clear s3 c3 g3 L
      have x0 : w3.cell? ⟨w1.heap.size, 0, none⟩ = some (.int .i64 x.kind) := (unhide HX).at 0 _ rfl
      have x1 : w3.cell? ⟨w1.heap.size, 1, none⟩ = some (.int .i64 x.id) := (unhide HX).at 1 _ rfl
      have x2 : w3.cell? ⟨w1.heap.size, 2, none⟩ = some (.slice a2 x.vec.length d2) := (unhide HX).at 2 _ rfl
      have x3 : w3.cell? ⟨w1.heap.size, 3, none⟩ = some (.int .i64 x.session) := (unhide HX).at 3 _ rfl
      have x4 : w3.cell? ⟨w1.heap.size, 4, none⟩ = some (.int .i64 x.seq) := (unhide HX).at 4 _ rfl
      have xf := (unhide HX).soft
      have xl := (unhide HX).lt
      have z0 : w3.cell? ⟨w.heap.size, 0, none⟩ = some (.int .i64 0) := (unhide HR).at 0 _ rfl
      have z1 : w3.cell? ⟨w.heap.size, 1, none⟩ = some (.int .i64 0) := (unhide HR).at 1 _ rfl
      have z2 : w3.cell? ⟨w.heap.size, 2, none⟩ = some (.slice none 0 0) := (unhide HR).at 2 _ rfl
      have z3 : w3.cell? ⟨w.heap.size, 3, none⟩ = some (.int .i64 0) := (unhide HR).at 3 _ rfl
      have z4 : w3.cell? ⟨w.heap.size, 4, none⟩ = some (.int .i64 0) := (unhide HR).at 4 _ rfl
      have zf := (unhide HR).soft
      have zl := (unhide HR).lt
      have hE9 : ∀ u0 u1 u2 u3 u4 u5, Ext (fun c => c = w1.heap.size ∨ c = w.heap.size) w3 ((((((w3.setCell ⟨w1.heap.size, 1, none⟩ u0).setCell ⟨w.heap.size, 0, none⟩ u1).setCell ⟨w.heap.size, 1, none⟩ u2).setCell ⟨w.heap.size, 2, none⟩ u3).setCell ⟨w.heap.size, 3, none⟩ u4).setCell ⟨w.heap.size, 4, none⟩ u5) := fun u0 u1 u2 u3 u4 u5 => (((((((Ext.refl _ _).setCell _ _ (Or.inl rfl)).setCell _ _ (Or.inr rfl)).setCell _ _ (Or.inr rfl)).setCell _ _ (Or.inr rfl)).setCell _ _ (Or.inr rfl)).setCell _ _ (Or.inr rfl))
      go_wp2_with fail
      refine bodyPost_ret (v := .agg #[.int .i64 x.kind, .int .i64 p, .slice a2 x.vec.length d2, .int .i64 x.session, .int .i64 x.seq]) (by simp [results, Try.results75, go_sem, z0, z1, z2, z3, z4]) rfl ?_
      have hlw : Lay.tWrite.lies w3 [.int .i64 x.kind, .int .i64 p, .slice a2 x.vec.length d2, .int .i64 x.session, .int .i64 x.seq] ⟨x.kind, p, x.vec, x.session, x.seq⟩ bl := lies_Write.2 ⟨a2, d2, bl, rfl, rfl, wk, (show (Lit.int .i64 p).wf = true from wf_of_bd (by omega)), unhide HLV, wse, wsq⟩
      have hbl9 : ∀ c ∈ bl, w.heap.size < c ∧ c ≠ w1.heap.size := fun c hc => by have := unhide HBL c hc; omega
      obtain ⟨cs9, x9, bl9, m9, e9, q1, q2, q3, q4, q5, q6⟩ := closeW (m := m + 100) (unhide HE) (hE9 _ _ _ _ _ _) (Nat.le_of_lt hz1) hbw (unhide HS) (unhide HC) (by omega) hlw hbl9
      exact ⟨cs9, x9, bl9, m9, e9, q1, q2, q3, by omega, q5, q6⟩
    · have n1 : ((r : Int) == 1) = false := by simp; omega
      by_cases h2 : r = 2
      · subst h2
        have nb3 : Below w2.heap.size w2 (w2.alloc (.cells #[.int .i64 0, .int .i64 9, .int .i64 10] 2)) := (Below.refl _ _).alloc (Nat.le_refl _) _
        have hg3 := heap_alloc_new w2 (.cells #[.int .i64 0, .int .i64 9, .int .i64 10] 2)
        have hz2 : w1.heap.size < w2.heap.size := (unhide HX).lt
        have L := hide (pick b (m' + 1) w2.heap.size cv [0, 9, 10] _ ((unhide HS).onW nb3) ((unhide HC).onW (by omega) nb3) (by omega) (by simp) (by simp) hg3 (by omega))
        replace HE := hide ((unhide HE).trans (ext_of_below nb3 _))
        replace HR := hide ((unhide HR).keep nb3)
        replace HX := hide ((unhide HX).keep nb3)
        replace HLV := hide ((Lay.sl Lay.int).keep (unhide HLV) fun c hc => nb3.block c ((Lay.sl Lay.int).lt (unhide HLV) c hc))
        clear nb3 hg3 HS HC
        go_wp2_with fail
        refine (unhide L).mono ?_
        generalize w2.alloc (.cells #[.int .i64 0, .int .i64 9, .int .i64 10] 2) = W3 at *
        rintro e w3 ⟨p, rfl, hp, s3, c3, g3⟩
        have hpb : 0 ≤ p ∧ p ≤ 1000 := by
          simp only [List.mem_cons, List.not_mem_nil, or_false] at hp
          omega
        replace HE := hide ((unhide HE).trans ((ext_grown g3).mono fun k _ h => Or.inl h))
        replace HR := hide ((unhide HR).ext (ext_grown g3) (by omega))
        replace HX := hide ((unhide HX).ext (ext_grown g3) (by omega))
        replace HLV := hide ((Lay.sl Lay.int).keep (unhide HLV) fun c hc => g3.block c ((Lay.sl Lay.int).lt (unhide HLV) c hc) (fun e => by
          have h1 := unhide HBL c hc
          have h2 : c = b := Option.some.inj e
          omega))
        have HS := hide s3
        have HC := hide c3
        clear s3 c3 g3 L
        have x0 : w3.cell? ⟨w1.heap.size, 0, none⟩ = some (.int .i64 x.kind) := (unhide HX).at 0 _ rfl
        have x1 : w3.cell? ⟨w1.heap.size, 1, none⟩ = some (.int .i64 x.id) := (unhide HX).at 1 _ rfl
        have x2 : w3.cell? ⟨w1.heap.size, 2, none⟩ = some (.slice a2 x.vec.length d2) := (unhide HX).at 2 _ rfl
        have x3 : w3.cell? ⟨w1.heap.size, 3, none⟩ = some (.int .i64 x.session) := (unhide HX).at 3 _ rfl
        have x4 : w3.cell? ⟨w1.heap.size, 4, none⟩ = some (.int .i64 x.seq) := (unhide HX).at 4 _ rfl
        have xf := (unhide HX).soft
        have xl := (unhide HX).lt
        have z0 : w3.cell? ⟨w.heap.size, 0, none⟩ = some (.int .i64 0) := (unhide HR).at 0 _ rfl
        have z1 : w3.cell? ⟨w.heap.size, 1, none⟩ = some (.int .i64 0) := (unhide HR).at 1 _ rfl
        have z2 : w3.cell? ⟨w.heap.size, 2, none⟩ = some (.slice none 0 0) := (unhide HR).at 2 _ rfl
        have z3 : w3.cell? ⟨w.heap.size, 3, none⟩ = some (.int .i64 0) := (unhide HR).at 3 _ rfl
        have z4 : w3.cell? ⟨w.heap.size, 4, none⟩ = some (.int .i64 0) := (unhide HR).at 4 _ rfl
        have zf := (unhide HR).soft
        have zl := (unhide HR).lt
        have hE9 : ∀ u0 u1 u2 u3 u4 u5, Ext (fun c => c = w1.heap.size ∨ c = w.heap.size) w3 ((((((w3.setCell ⟨w1.heap.size, 3, none⟩ u0).setCell ⟨w.heap.size, 0, none⟩ u1).setCell ⟨w.heap.size, 1, none⟩ u2).setCell ⟨w.heap.size, 2, none⟩ u3).setCell ⟨w.heap.size, 3, none⟩ u4).setCell ⟨w.heap.size, 4, none⟩ u5) := fun u0 u1 u2 u3 u4 u5 => (((((((Ext.refl _ _).setCell _ _ (Or.inl rfl)).setCell _ _ (Or.inr rfl)).setCell _ _ (Or.inr rfl)).setCell _ _ (Or.inr rfl)).setCell _ _ (Or.inr rfl)).setCell _ _ (Or.inr rfl))
        go_wp2_with fail
        refine bodyPost_ret (v := .agg #[.int .i64 x.kind, .int .i64 x.id, .slice a2 x.vec.length d2, .int .i64 p, .int .i64 x.seq]) (by simp [results, Try.results75, go_sem, z0, z1, z2, z3, z4]) rfl ?_
        have hlw : Lay.tWrite.lies w3 [.int .i64 x.kind, .int .i64 x.id, .slice a2 x.vec.length d2, .int .i64 p, .int .i64 x.seq] ⟨x.kind, x.id, x.vec, p, x.seq⟩ bl := lies_Write.2 ⟨a2, d2, bl, rfl, rfl, wk, wi, unhide HLV, (show (Lit.int .i64 p).wf = true from wf_of_bd (by omega)), wsq⟩
        have hbl9 : ∀ c ∈ bl, w.heap.size < c ∧ c ≠ w1.heap.size := fun c hc => by have := unhide HBL c hc; omega
        obtain ⟨cs9, x9, bl9, m9, e9, q1, q2, q3, q4, q5, q6⟩ := closeW (m := m + 100) (unhide HE) (hE9 _ _ _ _ _ _) (Nat.le_of_lt hz1) hbw (unhide HS) (unhide HC) (by omega) hlw hbl9
        exact ⟨cs9, x9, bl9, m9, e9, q1, q2, q3, by omega, q5, q6⟩
      · have n2 : ((r : Int) == 2) = false := by simp; omega
        by_cases h3 : r = 3
        · subst h3
          have nb3 : Below w2.heap.size w2 (w2.alloc (.cells #[.int .i64 0, .int .i64 999, .int .i64 1000] 2)) := (Below.refl _ _).alloc (Nat.le_refl _) _
          have hg3 := heap_alloc_new w2 (.cells #[.int .i64 0, .int .i64 999, .int .i64 1000] 2)
          have hz2 : w1.heap.size < w2.heap.size := (unhide HX).lt
          have L := hide (pick b (m' + 1) w2.heap.size cv [0, 999, 1000] _ ((unhide HS).onW nb3) ((unhide HC).onW (by omega) nb3) (by omega) (by simp) (by simp) hg3 (by omega))
          replace HE := hide ((unhide HE).trans (ext_of_below nb3 _))
          replace HR := hide ((unhide HR).keep nb3)
          replace HX := hide ((unhide HX).keep nb3)
          replace HLV := hide ((Lay.sl Lay.int).keep (unhide HLV) fun c hc => nb3.block c ((Lay.sl Lay.int).lt (unhide HLV) c hc))
          clear nb3 hg3 HS HC
          go_wp2_with fail
          refine (unhide L).mono ?_
          generalize w2.alloc (.cells #[.int .i64 0, .int .i64 999, .int .i64 1000] 2) = W3 at *
          rintro e w3 ⟨p, rfl, hp, s3, c3, g3⟩
          have hpb : 0 ≤ p ∧ p ≤ 1000 := by
            simp only [List.mem_cons, List.not_mem_nil, or_false] at hp
            omega
          replace HE := hide ((unhide HE).trans ((ext_grown g3).mono fun k _ h => Or.inl h))
          replace HR := hide ((unhide HR).ext (ext_grown g3) (by omega))
          replace HX := hide ((unhide HX).ext (ext_grown g3) (by omega))
          replace HLV := hide ((Lay.sl Lay.int).keep (unhide HLV) fun c hc => g3.block c ((Lay.sl Lay.int).lt (unhide HLV) c hc) (fun e => by
            have h1 := unhide HBL c hc
            have h2 : c = b := Option.some.inj e
            omega))
          have HS := hide s3
          have HC := hide c3
          clear s3 c3 g3 L
          have x0 : w3.cell? ⟨w1.heap.size, 0, none⟩ = some (.int .i64 x.kind) := (unhide HX).at 0 _ rfl
          have x1 : w3.cell? ⟨w1.heap.size, 1, none⟩ = some (.int .i64 x.id) := (unhide HX).at 1 _ rfl
          have x2 : w3.cell? ⟨w1.heap.size, 2, none⟩ = some (.slice a2 x.vec.length d2) := (unhide HX).at 2 _ rfl
          have x3 : w3.cell? ⟨w1.heap.size, 3, none⟩ = some (.int .i64 x.session) := (unhide HX).at 3 _ rfl
          have x4 : w3.cell? ⟨w1.heap.size, 4, none⟩ = some (.int .i64 x.seq) := (unhide HX).at 4 _ rfl
          have xf := (unhide HX).soft
          have xl := (unhide HX).lt
          have z0 : w3.cell? ⟨w.heap.size, 0, none⟩ = some (.int .i64 0) := (unhide HR).at 0 _ rfl
          have z1 : w3.cell? ⟨w.heap.size, 1, none⟩ = some (.int .i64 0) := (unhide HR).at 1 _ rfl
          have z2 : w3.cell? ⟨w.heap.size, 2, none⟩ = some (.slice none 0 0) := (unhide HR).at 2 _ rfl
          have z3 : w3.cell? ⟨w.heap.size, 3, none⟩ = some (.int .i64 0) := (unhide HR).at 3 _ rfl
          have z4 : w3.cell? ⟨w.heap.size, 4, none⟩ = some (.int .i64 0) := (unhide HR).at 4 _ rfl
          have zf := (unhide HR).soft
          have zl := (unhide HR).lt
          have hE9 : ∀ u0 u1 u2 u3 u4 u5, Ext (fun c => c = w1.heap.size ∨ c = w.heap.size) w3 ((((((w3.setCell ⟨w1.heap.size, 4, none⟩ u0).setCell ⟨w.heap.size, 0, none⟩ u1).setCell ⟨w.heap.size, 1, none⟩ u2).setCell ⟨w.heap.size, 2, none⟩ u3).setCell ⟨w.heap.size, 3, none⟩ u4).setCell ⟨w.heap.size, 4, none⟩ u5) := fun u0 u1 u2 u3 u4 u5 => (((((((Ext.refl _ _).setCell _ _ (Or.inl rfl)).setCell _ _ (Or.inr rfl)).setCell _ _ (Or.inr rfl)).setCell _ _ (Or.inr rfl)).setCell _ _ (Or.inr rfl)).setCell _ _ (Or.inr rfl))
          go_wp2_with fail
          refine bodyPost_ret (v := .agg #[.int .i64 x.kind, .int .i64 x.id, .slice a2 x.vec.length d2, .int .i64 x.session, .int .i64 p]) (by simp [results, Try.results75, go_sem, z0, z1, z2, z3, z4]) rfl ?_
          have hlw : Lay.tWrite.lies w3 [.int .i64 x.kind, .int .i64 x.id, .slice a2 x.vec.length d2, .int .i64 x.session, .int .i64 p] ⟨x.kind, x.id, x.vec, x.session, p⟩ bl := lies_Write.2 ⟨a2, d2, bl, rfl, rfl, wk, wi, unhide HLV, wse, (show (Lit.int .i64 p).wf = true from wf_of_bd (by omega))⟩
          have hbl9 : ∀ c ∈ bl, w.heap.size < c ∧ c ≠ w1.heap.size := fun c hc => by have := unhide HBL c hc; omega
          obtain ⟨cs9, x9, bl9, m9, e9, q1, q2, q3, q4, q5, q6⟩ := closeW (m := m + 100) (unhide HE) (hE9 _ _ _ _ _ _) (Nat.le_of_lt hz1) hbw (unhide HS) (unhide HC) (by omega) hlw hbl9
          exact ⟨cs9, x9, bl9, m9, e9, q1, q2, q3, by omega, q5, q6⟩
        · have n3 : ((r : Int) == 3) = false := by simp; omega
          by_cases h4 : r = 4
          · subst h4
            have L := hide (bent b (m' + 1) cv w2 (unhide HS) (unhide HC) (by omega))
            have hz2 : w1.heap.size < w2.heap.size := (unhide HX).lt
            clear HS HC
            go_wp2_with fail
            refine (unhide L).mono ?_
            rintro e w3 ⟨v3, zs, m3, rfl, hzs, hNI, hm3, s3, c3, g3⟩
            obtain ⟨bz, hlz, hbz⟩ := hNI.lies (by omega)
            obtain ⟨a3, d3, rfl⟩ := open_sl ⟨bz, hlz⟩
            replace HE := hide ((unhide HE).trans ((ext_grown g3).mono fun k _ h => Or.inl h))
            replace HR := hide ((unhide HR).ext (ext_grown g3) (by omega))
            replace HX := hide ((unhide HX).ext (ext_grown g3) (by omega))
            replace HLV := hide ((Lay.sl Lay.int).keep (unhide HLV) fun c hc => g3.block c ((Lay.sl Lay.int).lt (unhide HLV) c hc) (fun e => by
              have h1 := unhide HBL c hc
              have h2 : c = b := Option.some.inj e
              omega))
            have HS := hide s3
            have HC := hide c3
            clear s3 c3 g3 L
            have x0 : w3.cell? ⟨w1.heap.size, 0, none⟩ = some (.int .i64 x.kind) := (unhide HX).at 0 _ rfl
            have x1 : w3.cell? ⟨w1.heap.size, 1, none⟩ = some (.int .i64 x.id) := (unhide HX).at 1 _ rfl
            have x2 : w3.cell? ⟨w1.heap.size, 2, none⟩ = some (.slice a2 x.vec.length d2) := (unhide HX).at 2 _ rfl
            have x3 : w3.cell? ⟨w1.heap.size, 3, none⟩ = some (.int .i64 x.session) := (unhide HX).at 3 _ rfl
            have x4 : w3.cell? ⟨w1.heap.size, 4, none⟩ = some (.int .i64 x.seq) := (unhide HX).at 4 _ rfl
            have xf := (unhide HX).soft
            have xl := (unhide HX).lt
            have z0 : w3.cell? ⟨w.heap.size, 0, none⟩ = some (.int .i64 0) := (unhide HR).at 0 _ rfl
            have z1 : w3.cell? ⟨w.heap.size, 1, none⟩ = some (.int .i64 0) := (unhide HR).at 1 _ rfl
            have z2 : w3.cell? ⟨w.heap.size, 2, none⟩ = some (.slice none 0 0) := (unhide HR).at 2 _ rfl
            have z3 : w3.cell? ⟨w.heap.size, 3, none⟩ = some (.int .i64 0) := (unhide HR).at 3 _ rfl
            have z4 : w3.cell? ⟨w.heap.size, 4, none⟩ = some (.int .i64 0) := (unhide HR).at 4 _ rfl
            have zf := (unhide HR).soft
            have zl := (unhide HR).lt
            have hE9 : ∀ u0 u1 u2 u3 u4 u5, Ext (fun c => c = w1.heap.size ∨ c = w.heap.size) w3 ((((((w3.setCell ⟨w1.heap.size, 2, none⟩ u0).setCell ⟨w.heap.size, 0, none⟩ u1).setCell ⟨w.heap.size, 1, none⟩ u2).setCell ⟨w.heap.size, 2, none⟩ u3).setCell ⟨w.heap.size, 3, none⟩ u4).setCell ⟨w.heap.size, 4, none⟩ u5) := fun u0 u1 u2 u3 u4 u5 => (((((((Ext.refl _ _).setCell _ _ (Or.inl rfl)).setCell _ _ (Or.inr rfl)).setCell _ _ (Or.inr rfl)).setCell _ _ (Or.inr rfl)).setCell _ _ (Or.inr rfl)).setCell _ _ (Or.inr rfl))
            go_wp2_with fail
            refine bodyPost_ret (v := .agg #[.int .i64 x.kind, .int .i64 x.id, .slice a3 zs.length d3, .int .i64 x.session, .int .i64 x.seq]) (by simp [results, Try.results75, go_sem, z0, z1, z2, z3, z4]) rfl ?_
            have hlw : Lay.tWrite.lies w3 [.int .i64 x.kind, .int .i64 x.id, .slice a3 zs.length d3, .int .i64 x.session, .int .i64 x.seq] ⟨x.kind, x.id, zs, x.session, x.seq⟩ bz := lies_Write.2 ⟨a3, d3, bz, rfl, rfl, wk, wi, hlz, wse, wsq⟩
            have hbl9 : ∀ c ∈ bz, w.heap.size < c ∧ c ≠ w1.heap.size := fun c hc => by have := hbz c hc; omega
            obtain ⟨cs9, x9, bl9, m9, e9, q1, q2, q3, q4, q5, q6⟩ := closeW (m := m + 100) (unhide HE) (hE9 _ _ _ _ _ _) (Nat.le_of_lt hz1) hbw (unhide HS) (unhide HC) (by omega) hlw hbl9
            exact ⟨cs9, x9, bl9, m9, e9, q1, q2, q3, by omega, q5, q6⟩
          · have n4 : ((r : Int) == 4) = false := by simp; omega
            have x0 : w2.cell? ⟨w1.heap.size, 0, none⟩ = some (.int .i64 x.kind) := (unhide HX).at 0 _ rfl
            have x1 : w2.cell? ⟨w1.heap.size, 1, none⟩ = some (.int .i64 x.id) := (unhide HX).at 1 _ rfl
            have x2 : w2.cell? ⟨w1.heap.size, 2, none⟩ = some (.slice a2 x.vec.length d2) := (unhide HX).at 2 _ rfl
            have x3 : w2.cell? ⟨w1.heap.size, 3, none⟩ = some (.int .i64 x.session) := (unhide HX).at 3 _ rfl
            have x4 : w2.cell? ⟨w1.heap.size, 4, none⟩ = some (.int .i64 x.seq) := (unhide HX).at 4 _ rfl
            have xf := (unhide HX).soft
            have xl := (unhide HX).lt
            have z0 : w2.cell? ⟨w.heap.size, 0, none⟩ = some (.int .i64 0) := (unhide HR).at 0 _ rfl
            have z1 : w2.cell? ⟨w.heap.size, 1, none⟩ = some (.int .i64 0) := (unhide HR).at 1 _ rfl
            have z2 : w2.cell? ⟨w.heap.size, 2, none⟩ = some (.slice none 0 0) := (unhide HR).at 2 _ rfl
            have z3 : w2.cell? ⟨w.heap.size, 3, none⟩ = some (.int .i64 0) := (unhide HR).at 3 _ rfl
            have z4 : w2.cell? ⟨w.heap.size, 4, none⟩ = some (.int .i64 0) := (unhide HR).at 4 _ rfl
            have zf := (unhide HR).soft
            have zl := (unhide HR).lt
            have hE9 : ∀ u0 u1 u2 u3 u4, Ext (fun c => c = w1.heap.size ∨ c = w.heap.size) w2 (((((w2.setCell ⟨w.heap.size, 0, none⟩ u0).setCell ⟨w.heap.size, 1, none⟩ u1).setCell ⟨w.heap.size, 2, none⟩ u2).setCell ⟨w.heap.size, 3, none⟩ u3).setCell ⟨w.heap.size, 4, none⟩ u4) := fun u0 u1 u2 u3 u4 => ((((((Ext.refl _ _).setCell _ _ (Or.inr rfl)).setCell _ _ (Or.inr rfl)).setCell _ _ (Or.inr rfl)).setCell _ _ (Or.inr rfl)).setCell _ _ (Or.inr rfl))
            go_wp2_with fail
            refine bodyPost_ret (v := .agg #[.int .i64 x.kind, .int .i64 x.id, .slice a2 x.vec.length d2, .int .i64 x.session, .int .i64 x.seq]) (by simp [results, Try.results75, go_sem, z0, z1, z2, z3, z4]) rfl ?_
            have hlw : Lay.tWrite.lies w2 [.int .i64 x.kind, .int .i64 x.id, .slice a2 x.vec.length d2, .int .i64 x.session, .int .i64 x.seq] x bl := lies_Write.2 ⟨a2, d2, bl, rfl, rfl, wk, wi, unhide HLV, wse, wsq⟩
            have hbl9 : ∀ c ∈ bl, w.heap.size < c ∧ c ≠ w1.heap.size := fun c hc => by have := unhide HBL c hc; omega
            obtain ⟨cs9, x9, bl9, m9, e9, q1, q2, q3, q4, q5, q6⟩ := closeW (m := m + 100) (unhide HE) (hE9 _ _ _ _ _) (Nat.le_of_lt hz1) hbw (unhide HS) (unhide HC) (by omega) hlw hbl9
            exact ⟨cs9, x9, bl9, m9, e9, q1, q2, q3, by omega, q5, q6⟩

end Go.Proofs.Ytipomhpimmnchaa

namespace Go.Proofs.Ytipomhpimmnchaa
open Go.RowKit

theorem grown_alloc {w w' : World} {o : Obj} {r : Option Nat} (h : (w.alloc o).grownBy w' r) : w.grownBy w' r := grown_trans (World.grownBy_alloc w o r) h

/-- At an operation of a plain region: 'append(s, q)', q laid into a block of its own first. -/
theorem wpList_append_int {w1 : World} {base : Nat} {v : Value} {n : Nat} {xs : List Value} (hown : w1.ownsRow base 2 1 v n xs) (q : Int) {ops : Array Oper} {rest : List Oper} {o : Oper} {a : Act} {Q : Exit → Act → World → Prop} (hgd : o.guard = none) (s x : Operand)
    (ho : o.op = .call { callee := .builtin .append, args := #[s, x], argTypes := #[24, 24] }) (hs : a.eval s = v) (hx : a.eval x = .slice (some ⟨w1.heap.size, 0, none⟩) 1 1)
    (hn : n ≤ 100000000) (hbase : base ≤ w1.heap.size)
    (h : ∀ g cap w', w'.ownsRow base 2 1 (.slice (some ⟨g, 0, none⟩) (n + 1) cap) (n + 1) (xs ++ [.int .i64 q]) → w1.grownBy w' v.ownBlock → Below base w1 w' → g < w'.heap.size → w1.heap.size < w'.heap.size → wpList Try.prog ops Q rest (a.put o.dst (.slice (some ⟨g, 0, none⟩) (n + 1) cap)) w') :
    wpList Try.prog ops Q (o :: rest) a (w1.alloc (.cells #[.int .i64 q] 2)) := by
  obtain ⟨i0, hi0, hz0, hz1, hz2⟩ := info_parts info2
  refine wpList_append_lies _ hgd s x 24 ho base 2 i0 _ 1 8 Try.underlying24 hi0 hz0 hz1 hz2 rfl (by omega) v n xs hs (hown.alloc _) ⟨w1.heap.size, 0, none⟩ 1 1 [.int .i64 q] hx rfl (World.news_of_block (cs := #[.int .i64 q]) (t := 2) (fr := (0, 0)) (heap_alloc_new w1 _)) (by simp [Value.oneCell']) (by omega) (by unfold maxLen; omega) (by omega) (by simp; omega) (w1.heap.size + 1) (by simp) ?_
  intro g cap w' h2 h3 _ h5
  have hg := grown_alloc h3
  have hsz := h3.size
  simp only [World.size_alloc] at hsz
  exact h g cap w' h2 hg ((Below.refl _ _).grown hg hbase (fun j hj => (hown.lt j hj).1)) h5 (by omega)

end Go.Proofs.Ytipomhpimmnchaa
