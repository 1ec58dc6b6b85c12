/-
  Texts of this proof in one: ChainPlain, LayNetResult, SamePlain, NetPlain, NetsPlain, WorldPlain, RowIn.
  Their conditions stand in their theorems.
-/
import Derived.Test.YthpbdafhjakekaaGreatWf01
import Derived.Test.YthpbdafhjakekaaGreatWf03

namespace Go.Proofs.YthpbdafhjakekaaGreat
open Go.RowKit

/-- Where an id stands first; how many there are, where it doesn't. -/
def atC (ids : List Int) (id : Int) : Nat := ids.findIdx (· == id)
/-- The place as a number, -1 where there is none. -/
def placeC (ids : List Int) (id : Int) : Int := if atC ids id < ids.length then (atC ids id : Int) else -1
/-- The first fault among ids, pre: those ahead of them. -/
def idsF : List Int → List Int → Int
  | _, [] => 0
  | pre, z :: zs => if 1 ≤ z ∧ z ≤ 5 then (if z ∈ pre then 6 else idsF (pre ++ [z]) zs) else 3
def chainFault (x : DChain) : Int :=
  if 1 ≤ x.epoch ∧ x.epoch ≤ 999 then (if 1 ≤ x.ids.length ∧ x.ids.length ≤ 5 then idsF [] x.ids else 2) else 3
def noChain : DChain := ⟨0, []⟩
def badChain (c : Int) : DChainResult := ⟨c, noChain⟩
def upToC (n : Nat) : List Int := (List.range n).map fun (k : Nat) => (k : Int) + 1
def newChainR (n : Int) : DChainResult := if 1 ≤ n ∧ n ≤ 5 then ⟨0, ⟨1, upToC n.toNat⟩⟩ else badChain 3
/-- Who stands by behind id; 0: nobody. -/
def nextC (ids : List Int) (id : Int) (d : Int) : Int :=
  if placeC ids id < 0 ∨ placeC ids id + d < 0 ∨ (ids.length : Int) ≤ placeC ids id + d then 0 else ids.getD (placeC ids id + d).toNat 0
def besideR (x : DChain) (id d : Int) : DIntResult :=
  if chainFault x = 0 then
    if placeC x.ids id < 0 then ⟨4, 0⟩ else if nextC x.ids id d = 0 then ⟨8, 0⟩ else ⟨0, nextC x.ids id d⟩
  else ⟨chainFault x, 0⟩
def cutCh (x : DChain) (id : Int) : DChain := ⟨x.epoch + 1, x.ids.filter fun z => z != id⟩
def cutR (x : DChain) (id : Int) : DChainResult :=
  if chainFault x = 0 then
    if placeC x.ids id < 0 then badChain 4 else if x.ids.length = 1 then badChain 8 else if 999 ≤ x.epoch then badChain 2 else ⟨0, cutCh x id⟩
  else badChain (chainFault x)
def joinCh (x : DChain) (id : Int) : DChain := ⟨x.epoch + 1, x.ids ++ [id]⟩
def joinR (x : DChain) (id : Int) : DChainResult :=
  if chainFault x = 0 then
    if 1 ≤ id ∧ id ≤ 5 then (if 0 ≤ placeC x.ids id then badChain 6 else if 999 ≤ x.epoch then badChain 2 else ⟨0, joinCh x id⟩) else badChain 3
  else badChain (chainFault x)

theorem atC_le (ids : List Int) (id : Int) : atC ids id ≤ ids.length := List.findIdx_le_length
theorem placeC_bd (ids : List Int) (id : Int) : -1 ≤ placeC ids id ∧ placeC ids id < ids.length + 1 := by
  unfold placeC
  split <;> omega
theorem placeC_neg (ids : List Int) (id : Int) : placeC ids id < 0 ↔ id ∉ ids := by
  unfold placeC atC
  have h := List.findIdx_lt_length (p := fun z => z == id) (xs := ids)
  constructor
  · intro h1 hm
    rw [if_pos (h.2 ⟨id, hm, by simp⟩)] at h1
    omega
  · intro h1
    rw [if_neg]
    · omega
    · intro h2
      obtain ⟨z, hz, e⟩ := h.1 h2
      rw [beq_iff_eq] at e
      rw [e] at hz
      exact h1 hz
/-- No one of the first k is id, and the k-th is. -/
theorem placeC_at {ids : List Int} {id : Int} {k : Nat} (hk : k < ids.length) (h : ids[k] = id) (hb : ∀ j (hj : j < k), ids[j] ≠ id) : placeC ids id = (k : Int) := by
  have e : atC ids id = k := by
    unfold atC
    rw [List.findIdx_eq hk]
    exact ⟨by simpa using h, fun j hj => by simpa using hb j hj⟩
  rw [placeC, e, if_pos hk]
theorem placeC_none {ids : List Int} {id : Int} (hb : ∀ j (hj : j < ids.length), ids[j] ≠ id) : placeC ids id = -1 := by
  have h1 : placeC ids id < 0 := by
    rw [placeC_neg]
    intro hm
    obtain ⟨j, hj, e⟩ := List.getElem_of_mem hm
    exact hb j hj e
  have := placeC_bd ids id
  omega
theorem placeC_get {ids : List Int} {id : Int} (h : 0 ≤ placeC ids id) : ∃ (k : Nat) (hk : k < ids.length), placeC ids id = (k : Int) ∧ ids[k] = id ∧ ∀ j (hj : j < k), ids[j] ≠ id := by
  have hl : atC ids id < ids.length := by
    unfold placeC at h
    split at h
    · assumption
    · omega
  refine ⟨atC ids id, hl, by rw [placeC, if_pos hl], ?_, fun j hj => ?_⟩
  · have := List.findIdx_getElem (xs := ids) (p := fun z => z == id) (w := hl)
    exact beq_iff_eq.1 this
  · have := List.not_of_lt_findIdx (xs := ids) (p := fun z => z == id) hj
    simpa using this
theorem idsF_vals : ∀ (zs pre : List Int), 0 ≤ idsF pre zs ∧ idsF pre zs ≤ 6
  | [], _ => by simp [idsF]
  | z :: zs, pre => by
    rw [idsF]
    split
    · split
      · omega
      · exact idsF_vals zs _
    · omega
theorem chainFault_vals (x : DChain) : 0 ≤ chainFault x ∧ chainFault x ≤ 6 := by
  have := idsF_vals x.ids []
  unfold chainFault
  split
  · split <;> omega
  · omega
theorem chainFault_bd (x : DChain) : -1000000000 ≤ chainFault x ∧ chainFault x ≤ 1000000000 := by have := chainFault_vals x; omega
/-- From the k-th on: the loop's own spelling. -/
theorem idsF_step (ids : List Int) (k : Nat) (hk : k < ids.length) : idsF (ids.take k) (ids.drop k) = if 1 ≤ ids[k] ∧ ids[k] ≤ 5 then (if ids[k] ∈ ids.take k then 6 else idsF (ids.take (k + 1)) (ids.drop (k + 1))) else 3 := by
  conv => lhs; rw [List.drop_eq_getElem_cons hk, idsF]
  rw [List.take_succ_eq_append_getElem hk]
theorem idsF_end (ids : List Int) : idsF (ids.take ids.length) (ids.drop ids.length) = 0 := by simp [idsF]
/-- The k-th id stands first at k just if it isn't among those ahead. -/
theorem placeC_self {ids : List Int} {k : Nat} (hk : k < ids.length) : (placeC ids ids[k] = (k : Int)) ↔ ids[k] ∉ ids.take k := by
  constructor
  · intro h hm
    obtain ⟨j, hj, e⟩ := List.getElem_of_mem hm
    rw [List.length_take] at hj
    rw [List.getElem_take] at e
    obtain ⟨m, hm1, h1, h2, h3⟩ := placeC_get (ids := ids) (id := ids[k]) (by omega)
    obtain rfl : m = k := by omega
    exact h3 j (by omega) e
  · intro h
    refine placeC_at hk rfl fun j hj e => h ?_
    rw [List.mem_iff_getElem]
    exact ⟨j, by rw [List.length_take]; omega, by rw [List.getElem_take]; exact e⟩
/-- A chain without a fault. -/
structure ChainOK (x : DChain) : Prop where
  epoch : 1 ≤ x.epoch ∧ x.epoch ≤ 999
  len : 1 ≤ x.ids.length ∧ x.ids.length ≤ 5
  ids : ∀ z ∈ x.ids, 1 ≤ z ∧ z ≤ 5
  nodup : x.ids.Nodup
theorem idsF_zero : ∀ (zs pre : List Int), idsF pre zs = 0 → (∀ z ∈ zs, 1 ≤ z ∧ z ≤ 5) ∧ zs.Nodup ∧ ∀ z ∈ zs, z ∉ pre
  | [], _, _ => by simp
  | z :: zs, pre, h => by
    rw [idsF] at h
    split at h
    · rename_i h1
      split at h
      · simp at h
      · rename_i h2
        obtain ⟨q1, q2, q3⟩ := idsF_zero zs _ h
        refine ⟨?_, ?_, ?_⟩
        · intro u hu
          rcases List.mem_cons.1 hu with rfl | hu
          · exact h1
          · exact q1 u hu
        · refine List.nodup_cons.2 ⟨fun hm => q3 z hm (by simp), q2⟩
        · intro u hu hp
          rcases List.mem_cons.1 hu with rfl | hu
          · exact h2 hp
          · exact q3 u hu (List.mem_append_left _ hp)
    · simp at h
theorem idsF_ok : ∀ (zs pre : List Int), (∀ z ∈ zs, 1 ≤ z ∧ z ≤ 5) → zs.Nodup → (∀ z ∈ zs, z ∉ pre) → idsF pre zs = 0
  | [], _, _, _, _ => by simp [idsF]
  | z :: zs, pre, h1, h2, h3 => by
    rw [idsF, if_pos (h1 z (by simp)), if_neg (h3 z (by simp))]
    obtain ⟨n1, n2⟩ := List.nodup_cons.1 h2
    refine idsF_ok zs _ (fun u hu => h1 u (List.mem_cons_of_mem _ hu)) n2 fun u hu hp => ?_
    rcases List.mem_append.1 hp with hp | hp
    · exact h3 u (List.mem_cons_of_mem _ hu) hp
    · rw [List.mem_singleton.1 hp] at hu
      exact n1 hu
theorem chainFault_zero {x : DChain} (h : chainFault x = 0) : ChainOK x := by
  unfold chainFault at h
  split at h
  · rename_i h1
    split at h
    · rename_i h2
      obtain ⟨q1, q2, -⟩ := idsF_zero _ _ h
      exact ⟨h1, h2, q1, q2⟩
    · simp at h
  · simp at h
theorem ChainOK.fault {x : DChain} (h : ChainOK x) : chainFault x = 0 := by
  rw [chainFault, if_pos h.epoch, if_pos h.len]
  exact idsF_ok _ _ h.ids h.nodup (by simp)
theorem upToC_len (n : Nat) : (upToC n).length = n := by simp [upToC]
theorem upToC_succ (n : Nat) : upToC (n + 1) = upToC n ++ [(n : Int) + 1] := by simp [upToC, List.range_succ]
theorem upToC_bd {n : Nat} {z : Int} (h : z ∈ upToC n) : 1 ≤ z ∧ z ≤ n := by
  simp only [upToC, List.mem_map, List.mem_range] at h
  obtain ⟨k, hk, rfl⟩ := h
  omega
theorem besideR_bad {x : DChain} {id d : Int} (h : chainFault x ≠ 0) : besideR x id d = ⟨chainFault x, 0⟩ := by rw [besideR, if_neg h]
theorem cutR_bad {x : DChain} {id : Int} (h : chainFault x ≠ 0) : cutR x id = badChain (chainFault x) := by rw [cutR, if_neg h]
theorem joinR_bad {x : DChain} {id : Int} (h : chainFault x ≠ 0) : joinR x id = badChain (chainFault x) := by rw [joinR, if_neg h]
end Go.Proofs.YthpbdafhjakekaaGreat

namespace Go.Proofs.YthpbdafhjakekaaGreat
open Go.RowKit

structure DNetResult where
  code : Int
  msgs : List DMsg

def Lay.tNetResult : Lay DNetResult := Lay.via (Lay.pair Lay.int (Lay.sl Lay.tMsg)) (fun x => (x.code, x.msgs)) (fun p => ⟨p.1, p.2⟩)

theorem lies_NetResult {w : World} {cs : List Value} {x : DNetResult} {bl : List Nat} : Lay.tNetResult.lies w cs x bl ↔ ∃ (a1 : Option Addr) (d1 : Nat) (b1 : List Nat), cs = [.int .i64 x.code, .slice a1 x.msgs.length d1] ∧ bl = b1 ∧ (Lit.int .i64 x.code).wf = true ∧ (Lay.sl Lay.tMsg).lies w [.slice a1 x.msgs.length d1] x.msgs b1 := by
  constructor
  · intro h
    obtain ⟨c0_, r0_, e0_, s0_, rfl, rfl, h0, h1⟩ := h
    obtain ⟨rfl, w0, rfl⟩ := h0
    have k1 := h1
    obtain ⟨a1, d1, rfl, -⟩ := k1
    exact ⟨a1, d1, s0_, by simp, by simp, w0, h1⟩
  · rintro ⟨a1, d1, b1, rfl, hbl, w0, l1⟩
    rw [hbl]
    exact ⟨[.int .i64 x.code], [.slice a1 x.msgs.length d1], [], b1, rfl, by simp, ⟨rfl, w0, rfl⟩, l1⟩

theorem open_NetResult {w : World} {cs : List Value} {x : DNetResult} (h : Lay.tNetResult.Reads w cs x) : ∃ (a1 : Option Addr) (d1 : Nat), cs = [.int .i64 x.code, .slice a1 x.msgs.length d1] ∧ (Lay.sl Lay.tMsg).Reads w [.slice a1 x.msgs.length d1] x.msgs := by
  obtain ⟨bl, h⟩ := h
  obtain ⟨a1, d1, b1, rfl, -, w0, l1⟩ := lies_NetResult.1 h
  exact ⟨a1, d1, rfl, ⟨_, l1⟩⟩

end Go.Proofs.YthpbdafhjakekaaGreat

namespace Go.Proofs.YthpbdafhjakekaaGreat
open Go.RowKit

def sameW (x y : DWrite) : Bool := x.kind == y.kind && (x.id == y.id && (x.session == y.session && (x.seq == y.seq && decide (x.vec = y.vec))))
def sameWs : List DWrite → List DWrite → Bool
  | [], [] => true
  | x :: xs, y :: ys => sameW x y && sameWs xs ys
  | _, _ => false
theorem sameWs_len {xs ys : List DWrite} (h : xs.length ≠ ys.length) : sameWs xs ys = false := by
  induction xs generalizing ys with
  | nil => match ys, h with | y :: ys, _ => rfl
  | cons x xs ih =>
    match ys, h with
    | [], _ => rfl
    | y :: ys, h => rw [sameWs, ih (by simpa using h), Bool.and_false]
theorem sameWs_at {xs ys : List DWrite} (k : Nat) (h1 : k < xs.length) (h2 : k < ys.length) (h : sameW xs[k] ys[k] = false) : sameWs xs ys = false := by
  induction xs generalizing ys k with
  | nil => simp at h1
  | cons x xs ih =>
    match ys, k with
    | y :: ys, 0 => rw [sameWs, show sameW x y = false by simpa using h, Bool.false_and]
    | y :: ys, k + 1 => rw [sameWs, ih k (by simpa using h1) (by simpa using h2) (by simpa using h), Bool.and_false]
theorem sameWs_all {xs ys : List DWrite} (hl : xs.length = ys.length) (h : ∀ k (h1 : k < xs.length) (h2 : k < ys.length), sameW xs[k] ys[k] = true) : sameWs xs ys = true := by
  induction xs generalizing ys with
  | nil => match ys, hl with | [], _ => rfl
  | cons x xs ih =>
    match ys, hl with
    | y :: ys, hl =>
      rw [sameWs, show sameW x y = true from h 0 (by simp) (by simp), ih (by simpa using hl) fun k h1 h2 => h (k + 1) (by simpa using h1) (by simpa using h2), Bool.true_and]
theorem sameWs_refl_self (x : DWrite) : sameW x x = true := by simp [sameW]

end Go.Proofs.YthpbdafhjakekaaGreat

namespace Go.Proofs.YthpbdafhjakekaaGreat
open Go.RowKit

/-- A write that is none. -/
def noW (y : DWrite) : Prop := y.kind = 0 ∧ y.id = 0 ∧ y.session = 0 ∧ y.seq = 0 ∧ y.vec.length = 0
instance (y : DWrite) : Decidable (noW y) := by unfold noW; infer_instance
def msgFault (x : DMsg) : Int :=
  if ¬ (1 ≤ x.kind ∧ x.kind ≤ 2) ∨ x.src = x.dst ∨ (x.kind = 2 ∧ ¬ noW x.write) then 1
  else if ¬ (1 ≤ x.epoch ∧ x.epoch ≤ 999) ∨ ¬ (1 ≤ x.src ∧ x.src ≤ 5) ∨ ¬ (1 ≤ x.dst ∧ x.dst ≤ 5) ∨ ¬ (0 ≤ x.index ∧ x.index ≤ 40) ∨ (x.kind ≠ 2 ∧ x.index = 0) then 3
  else if x.kind = 2 then 0 else wF x.write
def msgsFrom : List DMsg → Int
  | [] => 0
  | x :: xs => if msgFault x = 0 then msgsFrom xs else msgFault x
def netFault (xs : List DMsg) : Int := if 40 < xs.length then 2 else msgsFrom xs
def sameM (x y : DMsg) : Bool := x.kind == y.kind && x.epoch == y.epoch && x.src == y.src && x.dst == y.dst && x.index == y.index && sameW x.write y.write
def badNet (c : Int) : DNetResult := ⟨c, []⟩
def sendM (xs : List DMsg) (x : DMsg) : DNetResult :=
  if xs.any (fun y => sameM y x) then ⟨0, xs⟩ else if 40 ≤ xs.length then badNet 2 else ⟨0, xs ++ [x]⟩
def sendR (xs : List DMsg) (x : DMsg) : DNetResult :=
  if netFault xs = 0 then (if msgFault x = 0 then sendM xs x else badNet (msgFault x)) else badNet (netFault xs)
def dropMR (xs : List DMsg) (i : Int) : DNetResult :=
  if netFault xs = 0 then (if 0 ≤ i ∧ i ≤ xs.length - 1 then ⟨0, xs.take i.toNat ++ xs.drop (i.toNat + 1)⟩ else badNet 3) else badNet (netFault xs)
def countM (xs : List DMsg) (z : Int) : Nat := (xs.filter fun y => y.dst == z).length
def countR (xs : List DMsg) (z : Int) : DIntResult := if netFault xs = 0 then ⟨0, countM xs z⟩ else ⟨netFault xs, 0⟩

theorem msgFault_vals (x : DMsg) : 0 ≤ msgFault x ∧ msgFault x ≤ 6 := by
  have := wF_vals x.write
  unfold msgFault
  split
  · omega
  · split
    · omega
    · split
      · omega
      · omega
theorem msgsFrom_vals : ∀ xs : List DMsg, 0 ≤ msgsFrom xs ∧ msgsFrom xs ≤ 6
  | [] => by simp [msgsFrom]
  | x :: xs => by
    rw [msgsFrom]
    split
    · exact msgsFrom_vals xs
    · exact msgFault_vals x
theorem netFault_vals (xs : List DMsg) : 0 ≤ netFault xs ∧ netFault xs ≤ 6 := by
  unfold netFault
  split
  · omega
  · exact msgsFrom_vals xs
theorem msgsFrom_zero : ∀ {xs : List DMsg}, msgsFrom xs = 0 → ∀ x ∈ xs, msgFault x = 0
  | [], _, _, h => by cases h
  | x :: xs, h, y, hy => by
    rw [msgsFrom] at h
    by_cases h1 : msgFault x = 0
    · rw [if_pos h1] at h
      rcases List.mem_cons.1 hy with rfl | hy
      · exact h1
      · exact msgsFrom_zero h y hy
    · rw [if_neg h1] at h
      exact absurd h h1
theorem msgsFrom_all : ∀ {xs : List DMsg}, (∀ x ∈ xs, msgFault x = 0) → msgsFrom xs = 0
  | [], _ => rfl
  | x :: xs, h => by
    rw [msgsFrom, if_pos (h x (by simp))]
    exact msgsFrom_all fun y hy => h y (List.mem_cons_of_mem _ hy)
theorem msgsFrom_at : ∀ {xs : List DMsg} {k : Nat} (hk : k < xs.length), (∀ j (hj : j < k), msgFault xs[j] = 0) → msgFault xs[k] ≠ 0 → msgsFrom xs = msgFault xs[k]
  | x :: xs, 0, hk, _, h => by
    have h1 : msgFault x ≠ 0 := h
    rw [msgsFrom, if_neg h1]
    rfl
  | x :: xs, k + 1, hk, hb, h => by
    have h1 : msgFault x = 0 := hb 0 (by omega)
    rw [msgsFrom, if_pos h1]
    exact msgsFrom_at (xs := xs) (k := k) (by simpa using hk) (fun j hj => hb (j + 1) (by omega)) h
end Go.Proofs.YthpbdafhjakekaaGreat

namespace Go.Proofs.YthpbdafhjakekaaGreat
open Go.RowKit

theorem sameW_refl (y : DWrite) : sameW y y = true := by simp [sameW]
theorem sameM_refl (x : DMsg) : sameM x x = true := by simp [sameM, sameW_refl]
theorem netFault_zero {xs : List DMsg} (h : netFault xs = 0) : xs.length ≤ 40 ∧ ∀ x ∈ xs, msgFault x = 0 := by
  unfold netFault at h
  split at h
  · simp at h
  · exact ⟨by omega, msgsFrom_zero h⟩
theorem netFault_ok {xs : List DMsg} (h : xs.length ≤ 40) (h2 : ∀ x ∈ xs, msgFault x = 0) : netFault xs = 0 := by
  rw [netFault, if_neg (by omega)]
  exact msgsFrom_all h2
theorem countM_le (xs : List DMsg) (z : Int) : countM xs z ≤ xs.length := List.length_filter_le _ _
theorem sendM_there {xs : List DMsg} {x : DMsg} (h : xs.any (fun y => sameM y x) = true) : sendM xs x = ⟨0, xs⟩ := by rw [sendM, if_pos h]
theorem sendM_new {xs : List DMsg} {x : DMsg} (h : xs.any (fun y => sameM y x) = false) (hl : xs.length < 40) : sendM xs x = ⟨0, xs ++ [x]⟩ := by rw [sendM, if_neg (by simp [h]), if_neg (by omega)]
theorem sendM_full {xs : List DMsg} {x : DMsg} (h : xs.any (fun y => sameM y x) = false) (hl : 40 ≤ xs.length) : sendM xs x = badNet 2 := by rw [sendM, if_neg (by simp [h]), if_pos hl]
theorem sendR_net {xs : List DMsg} {x : DMsg} (h : netFault xs ≠ 0) : sendR xs x = badNet (netFault xs) := by rw [sendR, if_neg h]
theorem sendR_msg {xs : List DMsg} {x : DMsg} (h : netFault xs = 0) (h2 : msgFault x ≠ 0) : sendR xs x = badNet (msgFault x) := by rw [sendR, if_pos h, if_neg h2]
theorem sendR_ok {xs : List DMsg} {x : DMsg} (h : netFault xs = 0) (h2 : msgFault x = 0) : sendR xs x = sendM xs x := by rw [sendR, if_pos h, if_pos h2]
/-- What holds behind a message that was sent. -/
structure Nets (xs : List DMsg) (x : DMsg) (ys : List DMsg) : Prop where
  nf : netFault xs = 0
  mf : msgFault x = 0
  send : sendR xs x = ⟨0, ys⟩
  again : sendR ys x = ⟨0, ys⟩
  yf : netFault ys = 0
  pos : 1 ≤ ys.length
  few : ys.length ≤ 40
  le : xs.length ≤ ys.length
  ca : countR xs x.dst = ⟨0, (countM xs x.dst : Nat)⟩
  cb : countR ys x.dst = ⟨0, (countM ys x.dst : Nat)⟩
  cd : countM ys x.dst = countM xs x.dst + (ys.length - xs.length)
  drop : dropMR ys ((ys.length : Int) - 1) = ⟨0, ys.take (ys.length - 1)⟩
theorem dropMR_last {ys : List DMsg} (h : netFault ys = 0) (hp : 1 ≤ ys.length) : dropMR ys ((ys.length : Int) - 1) = ⟨0, ys.take (ys.length - 1)⟩ := by
  have e : ((ys.length : Int) - 1).toNat = ys.length - 1 := by omega
  rw [dropMR, if_pos h, if_pos (by omega), e, List.drop_eq_nil_of_le (by omega), List.append_nil]
theorem nets_plain {xs : List DMsg} {x : DMsg} (h : (sendR xs x).code = 0) : ∃ ys, Nets xs x ys := by
  by_cases hn : netFault xs = 0
  · by_cases hm : msgFault x = 0
    · obtain ⟨hl, hall⟩ := netFault_zero hn
      cases ha : xs.any (fun y => sameM y x)
      · by_cases hf : xs.length < 40
        · have hyf : netFault (xs ++ [x]) = 0 := netFault_ok (by simp; omega) fun y hy => by
            rcases List.mem_append.1 hy with hy | hy
            · exact hall y hy
            · rw [List.mem_singleton.1 hy]; exact hm
          have hag : (xs ++ [x]).any (fun y => sameM y x) = true := by simp [sameM_refl]
          refine ⟨xs ++ [x], hn, hm, by rw [sendR_ok hn hm, sendM_new ha hf], by rw [sendR_ok hyf hm, sendM_there hag], hyf, by simp, by simp; omega, by simp, by rw [countR, if_pos hn], by rw [countR, if_pos hyf], ?_, dropMR_last hyf (by simp)⟩
          simp [countM, List.filter_append]
        · rw [sendR_ok hn hm, sendM_full ha (by omega)] at h
          simp [badNet] at h
      · have hp : 1 ≤ xs.length := by
          cases xs with
          | nil => simp at ha
          | cons y ys => simp
        exact ⟨xs, hn, hm, by rw [sendR_ok hn hm, sendM_there ha], by rw [sendR_ok hn hm, sendM_there ha], hn, hp, hl, Nat.le_refl _, by rw [countR, if_pos hn], by rw [countR, if_pos hn], by omega, dropMR_last hn hp⟩
    · rw [sendR_msg hn hm] at h
      exact absurd h hm
  · rw [sendR_net hn] at h
    exact absurd h hn
end Go.Proofs.YthpbdafhjakekaaGreat

namespace Go.Proofs.YthpbdafhjakekaaGreat
open Go.RowKit

def nodeIn (x : DWorld) (id : Int) : Bool := decide (1 ≤ id) && decide (id ≤ (x.nodes.length : Int))
/-- What is wrong with the nodes from the place i on. -/
def nodesF (c : DChain) : Nat → List DNode → Int
  | _, [] => 0
  | i, n :: ns =>
    if nodeFault n ≠ 0 then nodeFault n
    else if n.id ≠ (i : Int) + 1 then 1
    else if c.epoch < n.epoch ∨ (n.up = true ∧ 0 ≤ placeC c.ids n.id ∧ n.epoch ≠ c.epoch) then 7
    else nodesF c (i + 1) ns
def nodesFault (x : DWorld) : Int :=
  if nodesF x.chain 0 x.nodes ≠ 0 then nodesF x.chain 0 x.nodes
  else if x.chain.ids.all (nodeIn x) then 0 else 4
def entryB (x : DWorld) (e : DEntry) : Bool :=
  (decide (1 ≤ e.kind) && decide (e.kind ≤ 3)) && ((decide (1 ≤ e.start) && decide (e.start ≤ x.events)) && ((e.fin == 0 || (decide (e.start ≤ e.fin) && decide (e.fin ≤ x.events))) && (decide (0 ≤ e.place) && decide (e.place ≤ 40))))
def worldFault (x : DWorld) : Int :=
  if ¬ (0 ≤ x.now ∧ x.now ≤ 9000) ∨ ¬ (0 ≤ x.events ∧ x.events ≤ 9999) then 3
  else if chainFault x.chain ≠ 0 then chainFault x.chain
  else if x.nodes.length < 1 ∨ 5 < x.nodes.length then 2
  else if nodesFault x ≠ 0 then nodesFault x
  else if netFault x.msgs ≠ 0 then netFault x.msgs
  else if 60 < x.history.length then 2
  else if x.history.all (entryB x) then 0 else 3
def noWorld : DWorld := ⟨0, 0, noChain, [], [], []⟩
def badWorld (c : Int) : DWorldResult := ⟨c, false, noWorld⟩
def freshNode (k : Nat) : DNode := ⟨(k : Int) + 1, true, 1, 0, [], 0, 0⟩
def newWorldR (n : Int) : DWorldResult := if 1 ≤ n ∧ n ≤ 5 then ⟨0, false, ⟨0, 0, ⟨1, upToC n.toNat⟩, (List.range n.toNat).map freshNode, [], []⟩⟩ else badWorld 3
/-- The node that is told. -/
def nodeOf (x : DWorld) (id : Int) : DNode := x.nodes.getD (id - 1).toNat noNode
def memberB (x : DWorld) (id : Int) : Bool := (nodeOf x id).up && ((nodeOf x id).epoch == x.chain.epoch && decide (0 ≤ placeC x.chain.ids id))
def askedW (x : DWorld) (id : Int) : Int := if worldFault x ≠ 0 then worldFault x else if nodeIn x id = false then 4 else if 9999 ≤ x.events then 2 else 0
def nextW (x : DWorld) : DWorld := ⟨x.now, x.events + 1, x.chain, x.nodes, x.msgs, x.history⟩
def putNode (x : DWorld) (n : DNode) : DWorld := ⟨x.now, x.events, x.chain, x.nodes.set (n.id - 1).toNat n, x.msgs, x.history⟩
def toldB (s q : Int) (e : DEntry) : Bool := e.kind == 1 && (e.session == s && e.seq == q)
/-- What a node that is up takes: its writes, or a code. -/
def takeN (n : DNode) (y : DWrite) : Int × DNode :=
  if (appR n.writes y).code = 0 then (if 40 < (appR n.writes y).writes.length then (2, n) else (0, withWrites n (appR n.writes y).writes)) else ((appR n.writes y).code, n)
def entryW (y : DWrite) (at' : Int) : DEntry := ⟨1, y.session, y.seq, y.id, [], 0, at', 0, 0, [], []⟩
def askR (x : DWorld) (y : DWrite) : DWorldResult :=
  if worldFault x ≠ 0 then badWorld (worldFault x)
  else if 9999 ≤ x.events then badWorld 2
  else if wF y ≠ 0 then badWorld (wF y)
  else if memberB x (x.chain.ids.getD 0 0) = false then badWorld 10
  else if (takeN (nodeOf x (x.chain.ids.getD 0 0)) y).1 ≠ 0 then badWorld (takeN (nodeOf x (x.chain.ids.getD 0 0)) y).1
  else if x.history.any (toldB y.session y.seq) then ⟨0, true, putNode (nextW x) (takeN (nodeOf x (x.chain.ids.getD 0 0)) y).2⟩
  else if 60 ≤ x.history.length then badWorld 2
  else ⟨0, true, { putNode (nextW x) (takeN (nodeOf x (x.chain.ids.getD 0 0)) y).2 with history := x.history ++ [entryW y (x.events + 1)] }⟩
def sentW (x : DWorld) (m : DMsg) : DWorldResult :=
  if (sendM x.msgs m).code ≠ 0 then badWorld (sendM x.msgs m).code else ⟨0, true, { nextW x with msgs := (sendM x.msgs m).msgs }⟩
def sendWR (x : DWorld) (id i : Int) : DWorldResult :=
  if askedW x id ≠ 0 then badWorld (askedW x id)
  else if memberB x id = false then badWorld 10
  else if nextC x.chain.ids id 1 = 0 then badWorld 8
  else if ¬ (1 ≤ i ∧ i ≤ (nodeOf x id).sure) then badWorld 3
  else sentW x ⟨1, x.chain.epoch, id, nextC x.chain.ids id 1, i, (nodeOf x id).writes.getD (i - 1).toNat ⟨0, 0, [], 0, 0⟩⟩
def ackWR (x : DWorld) (id : Int) : DWorldResult :=
  if askedW x id ≠ 0 then badWorld (askedW x id)
  else if memberB x id = false then badWorld 10
  else if nextC x.chain.ids id (-1) = 0 then badWorld 8
  else sentW x ⟨2, x.chain.epoch, id, nextC x.chain.ids id (-1), if nextC x.chain.ids id 1 = 0 then (nodeOf x id).sure else (nodeOf x id).clean, ⟨0, 0, [], 0, 0⟩⟩
/-- A message heard: the node that it is to, if something changes. -/
def heardN (x : DWorld) (m : DMsg) : Option DNode :=
  if nodeIn x m.dst = false ∨ memberB x m.dst = false ∨ m.epoch ≠ x.chain.epoch then none
  else if m.kind = 2 then
    if nextC x.chain.ids m.dst 1 ≠ m.src then none
    else some { nodeOf x m.dst with clean := max (nodeOf x m.dst).clean (min m.index (nodeOf x m.dst).sure) }
  else if nextC x.chain.ids m.dst (-1) ≠ m.src ∨ m.index ≠ ((nodeOf x m.dst).writes.length : Int) + 1 then none
  else if 0 < seenI (nodeOf x m.dst).writes m.write.session m.write.seq then none
  else if (takeN (nodeOf x m.dst) m.write).1 = 0 then some (takeN (nodeOf x m.dst) m.write).2 else none
def noMsg : DMsg := ⟨0, 0, 0, 0, 0, ⟨0, 0, [], 0, 0⟩⟩
def hearWR (x : DWorld) (i : Int) : DWorldResult :=
  if worldFault x ≠ 0 then badWorld (worldFault x)
  else if 9999 ≤ x.events then badWorld 2
  else if ¬ (0 ≤ i ∧ i ≤ (x.msgs.length : Int) - 1) then badWorld 3
  else match heardN x (x.msgs.getD i.toNat noMsg) with
    | none => ⟨0, false, nextW x⟩
    | some n => ⟨0, true, putNode (nextW x) n⟩
def putWR (x : DWorld) (r : DNodeResult) : DWorldResult := if r.code ≠ 0 then badWorld r.code else ⟨0, true, putNode (nextW x) r.node⟩
def syncWR (x : DWorld) (id : Int) : DWorldResult := if askedW x id ≠ 0 then badWorld (askedW x id) else putWR x (syncR (nodeOf x id))
def crashWR (x : DWorld) (id k : Int) : DWorldResult := if askedW x id ≠ 0 then badWorld (askedW x id) else putWR x (crashR (nodeOf x id) k)
def startWR (x : DWorld) (id : Int) : DWorldResult :=
  if askedW x id ≠ 0 then badWorld (askedW x id)
  else if (nodeOf x id).up = true then badWorld 8
  else ⟨0, true, putNode (nextW x) { nodeOf x id with up := true, epoch := if 0 ≤ placeC x.chain.ids id then x.chain.epoch else (nodeOf x id).epoch }⟩

theorem nodesF_vals (c : DChain) : ∀ (i : Nat) (ns : List DNode), 0 ≤ nodesF c i ns ∧ nodesF c i ns ≤ 10
  | _, [] => by simp [nodesF]
  | i, n :: ns => by
    have h1 := nodeFault_vals n
    have h2 := nodesF_vals c (i + 1) ns
    rw [nodesF]
    split
    · omega
    · split
      · omega
      · split
        · omega
        · exact h2
theorem nodesFault_vals (x : DWorld) : 0 ≤ nodesFault x ∧ nodesFault x ≤ 10 := by
  have := nodesF_vals x.chain 0 x.nodes
  unfold nodesFault
  split
  · omega
  · split <;> omega
theorem worldFault_vals (x : DWorld) (hc : 0 ≤ chainFault x.chain ∧ chainFault x.chain ≤ 6) : 0 ≤ worldFault x ∧ worldFault x ≤ 10 := by
  have h1 := nodesFault_vals x
  have h2 := netFault_vals x.msgs
  unfold worldFault
  repeat' split
  all_goals omega
end Go.Proofs.YthpbdafhjakekaaGreat

namespace Go.Proofs.YthpbdafhjakekaaGreat
open Go.RowKit

/-- The cells cs lie from the place o of the block b on. -/
structure RowIn (cs : Array Value) (w : World) (b o : Nat) : Prop where
  lt : b < w.heap.size
  cells : ∀ (i : Nat) (v : Value), cs[i]? = some v → w.cell? ⟨b, o + i, none⟩ = some v
variable {cs : Array Value} {w w' : World} {b o : Nat}
theorem RowIn.at (h : RowIn cs w b o) (i : Nat) (v : Value) (hi : cs[i]? = some v) : w.cell? ⟨b, o + i, none⟩ = some v := h.cells i v hi
theorem RowIn.keep (h : RowIn cs w b o) (hb : Below w.heap.size w w') : RowIn cs w' b o := ⟨Nat.lt_of_lt_of_le h.lt hb.size, fun i v hi => (hb.cell (p := ⟨b, o + i, none⟩) h.lt).trans (h.cells i v hi)⟩
theorem RowIn.ext {S : Nat → Prop} (h : RowIn cs w b o) (e : Ext S w w') (hs : ¬ S b) : RowIn cs w' b o := ⟨Nat.lt_of_lt_of_le h.lt e.size, fun i v hi => (cell_of_heap (e.block b h.lt hs) _).trans (h.cells i v hi)⟩
theorem RowIn.drew (h : RowIn cs w b o) : RowIn cs w.drew b o := ⟨h.lt, h.cells⟩
theorem RowIn.ofBox {lo : Nat} {T : TypeId} (h : Box lo cs T w b) : RowIn cs w b 0 := ⟨h.lt, fun i v hi => by rw [Nat.zero_add]; exact h.at i v hi⟩
/-- An element of a list. -/
theorem RowIn.ofRow {α : Type} {A : Lay α} {off k : Nat} {row : List Value} (hc : ∀ m, m < A.n → w.cell? ⟨b, off + k * A.n + m, none⟩ = row[m]?) (hl : row.length = A.n) (hb : b < w.heap.size) : RowIn row.toArray w b (off + k * A.n) := ⟨hb, fun i v hi => by
  have h1 : row[i]? = some v := by simpa using hi
  have h2 : i < A.n := by
    rw [← hl]
    rcases Nat.lt_or_ge i row.length with q | q
    · exact q
    · rw [List.getElem?_eq_none q] at h1; simp at h1
  rw [hc i h2, h1]⟩
end Go.Proofs.YthpbdafhjakekaaGreat
