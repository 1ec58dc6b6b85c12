/-
  Texts of this proof in one: IvfPlain, RangeKit, RegIn, HitGround, HitInfo, HitModelB, HitFaultB, HitAppend, HitEq.
  Their conditions stand in their theorems.
-/
import Derived.Test.YtfgadegpdknocaaIr06
import Derived.Test.YtfgadegpdknocaaIr02
import Derived.Test.YtfgadegpdknocaaIr01
import Derived.RangeFuncNested
import Derived.RangeFuncBound
import Derived.RangeFuncCalls
import Derived.RangeFuncLeaves
import Derived.Shelf.Abstract
import Derived.Shelf.RegionOpen
import Derived.WalkKit
import Derived.OwnWalkIn
import Derived.TacticsInMore
import Derived.LoopNIn
import Derived.LoopIn
import Derived.Deep.RegionHeld3
import Derived.Maps.AppendAt
import Derived.Deep.AppendLies
import Derived.Test.YtfgadegpdknocaaChecked
import Derived.BigQuiet
import Derived.Deep.QuietTactic
import Derived.Deep.RegionWith
import Derived.Laws.StructEq

namespace Go.Proofs.Ytfgadegpdknocaa
open Go.RowKit

/-- All of list i are nearest to center i. -/
def atB (cs : List DCenter) (i : Nat) (xs : List DItem) : Bool := xs.all fun x => near cs x.vec == i
def listFault (cs : List DCenter) (i : Nat) (xs : List DItem) : Int := if tableFault xs = 0 then (if atB cs i xs then 0 else 1) else tableFault xs
def listsFrom (cs : List DCenter) : Nat → List DIvfList → Int
  | _, [] => 0
  | i, l :: ls => if listFault cs i l.items = 0 then listsFrom cs (i + 1) ls else listFault cs i l.items
/-- All items, put one behind the other. -/
def gatherI (out : List DItem) (xs : List DItem) : List DItem := xs.foldl (fun o x => putI o x.id x.vec) out
def allIs (ls : List DIvfList) : List DItem := ls.foldl (fun o l => gatherI o l.items) []
def countIs : List DIvfList → Nat
  | [] => 0
  | l :: ls => l.items.length + countIs ls
def ivfFault (x : DIvf) : Int :=
  if centersFault x.centers = 0 then (if x.lists.length = x.centers.length then (if listsFrom x.centers 0 x.lists = 0 then (if (allIs x.lists).length = countIs x.lists then (if countIs x.lists ≤ 30 then 0 else 2) else 6) else listsFrom x.centers 0 x.lists) else 1) else centersFault x.centers
/-- The items of center i. -/
def mineI (cs : List DCenter) (xs : List DItem) (i : Nat) : List DItem := xs.filter fun x => near cs x.vec == i
def buildI (cs : List DCenter) (xs : List DItem) : DIvf := ⟨cs, (List.range cs.length).map fun i => ⟨mineI cs xs i⟩⟩
def emptyI : DIvf := ⟨[], []⟩
def buildIvfR (cs : List DCenter) (xs : List DItem) : DIvfResult := if askFault cs xs = 0 then ⟨0, buildI cs xs⟩ else ⟨askFault cs xs, emptyI⟩
def askedI (x : DIvf) (id : Int) : Int := if ivfFault x = 0 then (if idB id then 0 else 3) else ivfFault x
def addIvfR (x : DIvf) (id : Int) (vec : List Int) : DIvfResult :=
  if askedI x id = 0 then (if vecFault vec = 0 then (if 30 ≤ (allIs x.lists).length ∧ hasI (allIs x.lists) id = false then ⟨2, emptyI⟩ else ⟨0, buildI x.centers (putI (allIs x.lists) id vec)⟩) else ⟨vecFault vec, emptyI⟩) else ⟨askedI x id, emptyI⟩
def dropIvfR (x : DIvf) (id : Int) : DIvfResult := if askedI x id = 0 then ⟨0, buildI x.centers (dropI (allIs x.lists) id)⟩ else ⟨askedI x id, emptyI⟩
def itemsIvfR (x : DIvf) : DTableResult := if ivfFault x = 0 then ⟨0, allIs x.lists⟩ else ⟨ivfFault x, []⟩

theorem listsFrom_step (cs : List DCenter) (ls : List DIvfList) (k : Nat) (h : k < ls.length) : listsFrom cs k (ls.drop k) = if listFault cs k ls[k].items = 0 then listsFrom cs (k + 1) (ls.drop (k + 1)) else listFault cs k ls[k].items := by
  rw [List.drop_eq_getElem_cons h]
  rfl
theorem listFault_zero {cs : List DCenter} {i : Nat} {xs : List DItem} (h : listFault cs i xs = 0) : tableFault xs = 0 ∧ atB cs i xs = true := by
  unfold listFault at h
  by_cases h1 : tableFault xs = 0
  · rw [if_pos h1] at h
    by_cases h2 : atB cs i xs = true
    · exact ⟨h1, h2⟩
    · rw [if_neg h2] at h; cases h
  · rw [if_neg h1] at h; exact absurd h h1
theorem listsFrom_zero {cs : List DCenter} {i : Nat} {ls : List DIvfList} (h : listsFrom cs i ls = 0) : ∀ j (hj : j < ls.length), tableFault ls[j].items = 0 ∧ atB cs (i + j) ls[j].items = true := by
  induction ls generalizing i with
  | nil => intro j hj; simp at hj
  | cons l ls ih =>
    rw [listsFrom] at h
    by_cases h1 : listFault cs i l.items = 0
    · rw [if_pos h1] at h
      intro j hj
      match j with
      | 0 => exact listFault_zero h1
      | j + 1 =>
        have := ih h j (by simpa using hj)
        simpa [Nat.add_comm, Nat.add_left_comm] using this
    · rw [if_neg h1] at h; exact absurd h h1
theorem listFault_bd (cs : List DCenter) (i : Nat) (xs : List DItem) : 0 ≤ listFault cs i xs ∧ listFault cs i xs ≤ 3 := by
  unfold listFault
  split
  · split <;> decide
  · exact tableFault_bd xs
theorem listsFrom_bd (cs : List DCenter) (i : Nat) (ls : List DIvfList) : 0 ≤ listsFrom cs i ls ∧ listsFrom cs i ls ≤ 3 := by
  induction ls generalizing i with
  | nil => show (0 : Int) ≤ 0 ∧ (0 : Int) ≤ 3; decide
  | cons l ls ih =>
    rw [listsFrom]
    split
    · exact ih _
    · exact listFault_bd _ _ _
theorem ivfFault_bd (x : DIvf) : 0 ≤ ivfFault x ∧ ivfFault x ≤ 6 := by
  unfold ivfFault
  split
  · split
    · split
      · split
        · split <;> decide
        · decide
      · have := listsFrom_bd x.centers 0 x.lists; omega
    · decide
  · have := centersFault_bd x.centers; omega
theorem ivfFault_wf (x : DIvf) : (Lit.int .i64 (ivfFault x)).wf = true := wf_of_bd (by have := ivfFault_bd x; omega)
theorem ivfFault_zero {x : DIvf} (h : ivfFault x = 0) : centersFault x.centers = 0 ∧ x.lists.length = x.centers.length ∧ listsFrom x.centers 0 x.lists = 0 ∧ (allIs x.lists).length = countIs x.lists ∧ countIs x.lists ≤ 30 := by
  unfold ivfFault at h
  by_cases h1 : centersFault x.centers = 0
  · rw [if_pos h1] at h
    by_cases h2 : x.lists.length = x.centers.length
    · rw [if_pos h2] at h
      by_cases h3 : listsFrom x.centers 0 x.lists = 0
      · rw [if_pos h3] at h
        by_cases h4 : (allIs x.lists).length = countIs x.lists
        · rw [if_pos h4] at h
          by_cases h5 : countIs x.lists ≤ 30
          · exact ⟨h1, h2, h3, h4, h5⟩
          · rw [if_neg h5] at h; cases h
        · rw [if_neg h4] at h; cases h
      · rw [if_neg h3] at h; exact absurd h h3
    · rw [if_neg h2] at h; cases h
  · rw [if_neg h1] at h; exact absurd h h1
theorem gatherI_step (out xs : List DItem) (k : Nat) (h : k < xs.length) : gatherI out (xs.take (k + 1)) = putI (gatherI out (xs.take k)) xs[k].id xs[k].vec := by
  rw [gatherI, List.take_succ_eq_append_getElem h, List.foldl_append]
  rfl
theorem allIs_step (ls : List DIvfList) (k : Nat) (h : k < ls.length) : allIs (ls.take (k + 1)) = gatherI (allIs (ls.take k)) ls[k].items := by
  rw [allIs, List.take_succ_eq_append_getElem h, List.foldl_append]
  rfl
theorem gatherI_rising {out : List DItem} (h : Rising out) (xs : List DItem) : Rising (gatherI out xs) := by
  induction xs generalizing out with
  | nil => exact h
  | cons x xs ih => exact ih (putI_rising h x.id x.vec)
theorem allIs_rising (ls : List DIvfList) : Rising (allIs ls) := by
  have : ∀ (o : List DItem), Rising o → Rising (ls.foldl (fun o l => gatherI o l.items) o) := by
    induction ls with
    | nil => exact fun o h => h
    | cons l ls ih => exact fun o h => ih _ (gatherI_rising h l.items)
  exact this [] List.Pairwise.nil
theorem putI_len_le {xs : List DItem} (h : Rising xs) (id : Int) (vec : List Int) : (putI xs id vec).length ≤ xs.length + 1 := by
  rw [putI_len h]
  split <;> omega
theorem gatherI_len {out : List DItem} (h : Rising out) (xs : List DItem) : (gatherI out xs).length ≤ out.length + xs.length := by
  induction xs generalizing out with
  | nil => exact Nat.le_refl _
  | cons x xs ih =>
    have h1 := ih (putI_rising h x.id x.vec)
    have h2 := putI_len_le h x.id x.vec
    have e : gatherI out (x :: xs) = gatherI (putI out x.id x.vec) xs := rfl
    rw [e, List.length_cons]
    omega
theorem gatherI_mem {out xs : List DItem} {y : DItem} (h : y ∈ gatherI out xs) : y ∈ out ∨ y ∈ xs := by
  induction xs generalizing out with
  | nil => exact Or.inl h
  | cons x xs ih =>
    rcases ih h with h1 | h1
    · rcases mem_putI.1 h1 with rfl | ⟨h2, -⟩
      · exact Or.inr (by cases x; simp)
      · exact Or.inl h2
    · exact Or.inr (List.mem_cons_of_mem _ h1)
theorem foldIs_mem (ls : List DIvfList) (o : List DItem) {y : DItem} (h : y ∈ ls.foldl (fun o l => gatherI o l.items) o) : y ∈ o ∨ ∃ l ∈ ls, y ∈ l.items := by
  induction ls generalizing o with
  | nil => exact Or.inl h
  | cons l ls ih =>
    rcases ih _ h with h1 | ⟨m, h1, h2⟩
    · rcases gatherI_mem h1 with h3 | h3
      · exact Or.inl h3
      · exact Or.inr ⟨l, by simp, h3⟩
    · exact Or.inr ⟨m, List.mem_cons_of_mem _ h1, h2⟩
theorem allIs_mem {ls : List DIvfList} {y : DItem} (h : y ∈ allIs ls) : ∃ l ∈ ls, y ∈ l.items := by
  rcases foldIs_mem ls [] h with h1 | h1
  · cases h1
  · exact h1
theorem allIs_len (ls : List DIvfList) : (allIs ls).length ≤ countIs ls := by
  have : ∀ (o : List DItem), Rising o → (ls.foldl (fun o l => gatherI o l.items) o).length ≤ o.length + countIs ls := by
    induction ls with
    | nil => exact fun o _ => Nat.le_refl _
    | cons l ls ih =>
      intro o ho
      have h1 := ih (gatherI o l.items) (gatherI_rising ho l.items)
      have h2 := gatherI_len ho l.items
      simp only [List.foldl_cons, countIs]
      omega
  have := this [] List.Pairwise.nil
  rw [List.length_nil, Nat.zero_add] at this
  exact this
theorem countIs_take (ls : List DIvfList) (k : Nat) (h : k < ls.length) : countIs (ls.take (k + 1)) = countIs (ls.take k) + ls[k].items.length := by
  induction ls generalizing k with
  | nil => simp at h
  | cons l ls ih =>
    match k with
    | 0 => simp [countIs]
    | k + 1 =>
      have := ih k (by simpa using h)
      simp only [List.take_succ_cons, countIs, List.getElem_cons_succ]
      omega
theorem countIs_le {ls : List DIvfList} (h : ∀ l ∈ ls, l.items.length ≤ 30) : countIs ls ≤ 30 * ls.length := by
  induction ls with
  | nil => simp [countIs]
  | cons l ls ih =>
    have h1 := h l (by simp)
    have h2 := ih fun m hm => h m (List.mem_cons_of_mem _ hm)
    simp only [countIs, List.length_cons]
    omega
theorem mineI_step (cs : List DCenter) (xs : List DItem) (i k : Nat) (h : k < xs.length) : mineI cs (xs.take (k + 1)) i = if near cs xs[k].vec == i then mineI cs (xs.take k) i ++ [xs[k]] else mineI cs (xs.take k) i := by
  rw [mineI, List.take_succ_eq_append_getElem h, List.filter_append]
  split
  · next h1 => simp [mineI, h1]
  · next h1 => simp [mineI, h1]
theorem mineI_len (cs : List DCenter) (xs : List DItem) (i : Nat) : (mineI cs xs i).length ≤ xs.length := List.length_filter_le _ _
theorem buildI_take (cs : List DCenter) (xs : List DItem) (k : Nat) (h : k < cs.length) : (buildI cs xs).lists.take (k + 1) = (buildI cs xs).lists.take k ++ [⟨mineI cs xs k⟩] := by
  show ((List.range cs.length).map _).take (k + 1) = _
  rw [List.take_succ_eq_append_getElem (by simpa using h)]
  simp [buildI]
theorem buildI_len (cs : List DCenter) (xs : List DItem) : (buildI cs xs).lists.length = cs.length := by simp [buildI]
theorem list_facts {x : DIvf} (h1 : listsFrom x.centers 0 x.lists = 0) : ∀ l ∈ x.lists, tableFault l.items = 0 := by
  intro l hl
  obtain ⟨j, hj, rfl⟩ := List.getElem_of_mem hl
  exact (listsFrom_zero h1 j hj).1
theorem allIs_right {x : DIvf} (h : ivfFault x = 0) : tableFault (allIs x.lists) = 0 := by
  obtain ⟨h1, h2, h3, h4, h5⟩ := ivfFault_zero h
  refine tableFault_of (by omega) (fun y hy => ?_) (allIs_rising _)
  obtain ⟨l, hl, hy⟩ := allIs_mem hy
  exact (tableFault_zero (list_facts h3 l hl)).2.1 y hy

end Go.Proofs.Ytfgadegpdknocaa

namespace Go.Proofs.Ytfgadegpdknocaa
open Go.RowKit

/-- Blocks below n that are not in S are as they were. -/
def KpS (n : Nat) (S : Nat → Prop) (W W' : World) : Prop := W.heap.size ≤ W'.heap.size ∧ ∀ b, b < n → ¬ S b → W'.heap[b]? = W.heap[b]?
theorem KpS.refl (n : Nat) (S : Nat → Prop) (W : World) : KpS n S W W := ⟨Nat.le_refl _, fun _ _ _ => rfl⟩
theorem KpS.trans {n : Nat} {S : Nat → Prop} {a b c : World} (h : KpS n S a b) (k : KpS n S b c) : KpS n S a c := ⟨Nat.le_trans h.1 k.1, fun i h1 h2 => (k.2 i h1 h2).trans (h.2 i h1 h2)⟩
theorem KpS.put {n : Nat} (S : Nat → Prop) (W : World) (l : Nat) (o' : Obj) (hl : n ≤ l) : KpS n S W (W.putObj l o') :=
  ⟨by simp, fun b hb _ => World.putObj_heap_other (by omega)⟩
theorem KpS.of_ext {n : Nat} {S T : Nat → Prop} {a b : World} (h : Ext T a b) (hn : n ≤ a.heap.size) (hs : ∀ k, k < n → T k → S k) : KpS n S a b :=
  ⟨h.size, fun k hk hS => h.block k (by omega) fun ht => hS (hs k hk ht)⟩
theorem KpS.of_below {n : Nat} (S : Nat → Prop) {a b : World} (h : Below a.heap.size a b) (hn : n ≤ a.heap.size) : KpS n S a b := ⟨h.size, fun k hk _ => h.block k (by omega)⟩
theorem ext_of_grownBy {A B : World} {row : Option Nat} (h : A.grownBy B row) : Ext (fun q => row = some q) A B := ⟨h.os, h.tape, h.output, h.size, fun k hk hn => h.block k hk fun e => hn e.symm⟩
theorem keepsFrom_ext {B : Nat} {S : Nat → Prop} {a b : World} (h : Ext S a b) (hs : ∀ k o, B ≤ k → a.heap[k]? = some o → o.isCells = false → ¬ S k) : KeepsFrom B a b :=
  ⟨h.size, fun k o hB hk ho => (h.block k (Array.getElem?_eq_some_iff.1 hk).1 (hs k o hB hk ho)).trans hk⟩
theorem keepsFrom_below {B : Nat} {a b : World} (h : Below a.heap.size a b) : KeepsFrom B a b :=
  ⟨h.size, fun k _ _ hk _ => (h.block k (Array.getElem?_eq_some_iff.1 hk).1).trans hk⟩
/-- A block of cells is not turned. -/
theorem grown_cells {A B : World} {row : Option Nat} (h : A.grownBy B row) {n : Nat} (hr : ∀ r, row = some r → n ≤ r ∧ ∃ o : Obj, A.heap[r]? = some o ∧ o.isCells = false) {b : Nat} {o : Obj} (hb : A.heap[b]? = some o) (ho : b < n ∨ o.isCells = true) : B.heap[b]? = some o := by
  refine (h.block b (Array.getElem?_eq_some_iff.1 hb).1 fun e => ?_).trans hb
  obtain ⟨h1, o', h2, h3⟩ := hr b e.symm
  rcases ho with ho | ho
  · omega
  · rw [hb] at h2
    cases h2
    rw [ho] at h3
    cases h3
theorem box_grown {A B : World} {row : Option Nat} (h : A.grownBy B row) {n lo : Nat} (hr : ∀ r, row = some r → n ≤ r ∧ ∃ o : Obj, A.heap[r]? = some o ∧ o.isCells = false) {cs : Array Value} {T s : Nat} (hb : Box lo cs T A s) : Box lo cs T B s :=
  ⟨hb.1, grown_cells h hr hb.2 (Or.inr rfl)⟩
theorem below_grown {A B w : World} {row : Option Nat} (h : A.grownBy B row) {n m : Nat} (hr : ∀ r, row = some r → n ≤ r ∧ ∃ o : Obj, A.heap[r]? = some o ∧ o.isCells = false) (hb : Below m w A) (hm : m ≤ n) (hw : m ≤ w.heap.size) : Below m w B :=
  hb.grown h (Nat.le_trans hw hb.size) fun k e => by have := (hr k e).1; omega

end Go.Proofs.Ytfgadegpdknocaa

namespace Go.Proofs.Ytfgadegpdknocaa
open Go.RowKit

variable {P : Program} {ops : Array Oper} {Q : Exit → Act → World → Prop}

def noDefer (o : Oper) : Bool := match o.op with | .defer _ => false | _ => true
theorem upon_in (l n : Nat) {o : Oper} {a : Act} {K : Act → World → Prop} {r : Result Next} (h : o.upon P a K Q r) : o.uponIn (Fence.wide.inRound l) n P a K Q r := by
  cases r with
  | ok x w' =>
    cases x with
    | value v => exact h
    | skip => exact h
    | defer d => exact h
    | enter f args => exact ⟨fun e => by simp [Fence.wide] at e, CallsIn.inRound l (callsIn_wide.2 h)⟩
    | row row args =>
      refine ⟨fun e => by simp [Fence.wide] at e, fun c cs _ => ?_⟩
      obtain ⟨v, w2, h1, h2⟩ := h c cs
      exact ⟨v, w2, h1, stepsIn_wide.2 h2⟩
    | _ => exact h.elim
  | halt x w' =>
    cases x with
    | panic v => exact h
    | _ => exact h.elim
theorem wp_in (l n : Nat) {o : Oper} {a : Act} {w : World} {K : Act → World → Prop} (hd : noDefer o = true) (h : o.wp P a w K Q) : o.wpIn (Fence.wide.inRound l) n P a w K Q := by
  refine ⟨fun _ _ => trivial, ?_⟩
  rw [show (Fence.wide.inRound l).round = some l from rfl, Oper.semAt_some l _ _ (by intro c hc; rw [noDefer, hc] at hd; cases hd)]
  exact upon_in l n h
theorem any_in (l n : Nat) {md : Region.Mode} (hd : ∀ (i : Nat) (o : Oper), ops[i]? = some o → noDefer o = true) (hL : ¬ LetsOut Q) : ∀ (fuel : Nat) (listed : Array Bool) (a : Act) (w : World), wpAny P md ops Q fuel listed a w → wpAnyIn (Fence.wide.inRound l) n P md ops Q fuel listed a w
  | 0, _, _, _, h => h
  | fuel + 1, listed, a, w, h => by
    refine ⟨h.1, fun i hi => ?_⟩
    have h2 := h.2 i hi
    unfold wpOp at h2
    unfold wpOpIn
    cases ho : ops[i]? with
    | none => rw [ho] at h2; exact any_in l n hd hL fuel _ _ _ h2
    | some o =>
      rw [ho] at h2
      simp only at h2 ⊢
      by_cases hw : Region.wanted o (yielded ops a.tmps) = true
      · rw [if_pos hw] at h2 ⊢
        rcases h2 with h2 | h2
        · exact Oper.wpIn_mono (any_in l n hd hL fuel _) (wp_in l n (hd i o ho) h2)
        · exact absurd h2.2 hL
      · rw [if_neg hw] at h2 ⊢
        exact ⟨fun _ _ => trivial, any_in l n hd hL fuel _ _ _ h2⟩
theorem noDefers (h : ops.all noDefer = true) : ∀ (i : Nat) (o : Oper), ops[i]? = some o → noDefer o = true := fun i o ho => by
  obtain ⟨hi, rfl⟩ := Array.getElem?_eq_some_iff.1 ho
  rw [Array.all_eq_true] at h
  exact h i hi
/-- Only the way behind the region. -/
def OnlyN (Q : Exit → Act → World → Prop) : Exit → Act → World → Prop
  | .normal, a, w => Q .normal a w
  | _, _, _ => False
theorem OnlyN.normal {a : Act} {w : World} (h : Q .normal a w) : OnlyN Q .normal a w := h
/-- The first move of a walk through such a region. -/
theorem wpIn_region_np {l n id : Nat} {S : World → Prop} {a : Act} {w : World} (hm : P.follows .mixedOrders = true) (hd : ops.all noDefer = true) (hS : S w.drew)
    (h : S w.drew → wpAnyH P .any ops (OnlyN Q) S ops.size (Array.replicate ops.size false) a w.drew) : (Code.region id ops true).wpIn (Fence.wide.inRound l) n P Q a w := by
  refine wpIn_mono (Q := OnlyN Q) (wpIn_region_any hm (any_in l n (noDefers hd) ?_ _ _ _ _ (wpAny_of_held _ _ _ _ (h hS)))) ?_
  · rintro ⟨a2, w2, h2⟩
    exact (show False from h2)
  · intro e a2 w2 h2
    cases e with
    | normal => exact h2
    | _ => exact (show False from h2).elim

end Go.Proofs.Ytfgadegpdknocaa

namespace Go.Proofs.Ytfgadegpdknocaa
open Go.RowKit

/-- The cells of hits. -/
def cells2 : List (Int × Int) → List Value
  | [] => []
  | h :: r => .int .i64 h.1 :: .int .i64 h.2 :: cells2 r
theorem cells2_len (hs : List (Int × Int)) : (cells2 hs).length = hs.length * 2 := by
  induction hs with
  | nil => rfl
  | cons h r ih => simp [cells2, ih]; omega
theorem cells2_app (a b : List (Int × Int)) : cells2 (a ++ b) = cells2 a ++ cells2 b := by
  induction a with
  | nil => rfl
  | cons h r ih => simp [cells2, ih]
theorem cells2_take (hs : List (Int × Int)) (k : Nat) : (cells2 hs).take (k * 2) = cells2 (hs.take k) := by
  induction hs generalizing k with
  | nil => simp [cells2]
  | cons h r ih =>
    cases k with
    | zero => simp [cells2]
    | succ k => simp [cells2, ih, Nat.add_mul]
theorem cells2_at (hs : List (Int × Int)) (j : Nat) (x y : Int) (h : hs[j]? = some (x, y)) : (cells2 hs)[j * 2]? = some (.int .i64 x) ∧ (cells2 hs)[j * 2 + 1]? = some (.int .i64 y) := by
  induction hs generalizing j with
  | nil => simp at h
  | cons p r ih =>
    cases j with
    | zero =>
      simp at h
      subst h
      simp [cells2]
    | succ j =>
      have := ih j (by simpa using h)
      simpa [cells2, Nat.add_mul] using this
theorem cells2_one (hs : List (Int × Int)) : ∀ u ∈ cells2 hs, u.oneCell' = true := by
  induction hs with
  | nil => simp [cells2]
  | cons h r ih =>
    intro u hu
    simp [cells2] at hu
    rcases hu with rfl | rfl | hu
    · rfl
    · rfl
    · exact ih u hu
theorem cells2_get (hs : List (Int × Int)) (j : Nat) (u : Value) (h : (cells2 hs)[j]? = some u) : ∃ k x y, hs[k]? = some (x, y) ∧ ((j = k * 2 ∧ u = .int .i64 x) ∨ (j = k * 2 + 1 ∧ u = .int .i64 y)) := by
  induction hs generalizing j with
  | nil => simp [cells2] at h
  | cons p r ih =>
    match j with
    | 0 =>
      simp [cells2] at h
      exact ⟨0, p.1, p.2, by simp, Or.inl ⟨rfl, h.symm⟩⟩
    | 1 =>
      simp [cells2] at h
      exact ⟨0, p.1, p.2, by simp, Or.inr ⟨rfl, h.symm⟩⟩
    | j + 2 =>
      obtain ⟨k, x, y, h1, h2⟩ := ih j (by simpa [cells2] using h)
      refine ⟨k + 1, x, y, by simpa using h1, ?_⟩
      rcases h2 with ⟨h2, h3⟩ | ⟨h2, h3⟩
      · exact Or.inl ⟨by omega, h3⟩
      · exact Or.inr ⟨by omega, h3⟩

/-- Both numbers are int64. -/
def Wf2 (h : Int × Int) : Prop := (Lit.int .i64 h.1).wf = true ∧ (Lit.int .i64 h.2).wf = true
theorem Wf2.bd {x y : Int} (h : Wf2 (x, y)) : (-9223372036854775808 ≤ x ∧ x ≤ 9223372036854775807) ∧ (-9223372036854775808 ≤ y ∧ y ≤ 9223372036854775807) := by
  simpa [Wf2, Lit.wf, IntKind.min, IntKind.max, IntKind.signed, IntKind.bits] using h

/-- The slice v holds the hits hs. -/
def IsHits (w : World) (v : Value) (hs : List (Int × Int)) : Prop :=
  ∃ ao cap, v = .slice ao hs.length cap ∧ hs.length ≤ cap ∧ (cap ≤ maxLen ∧ (ao = none → cap = 0)) ∧ (∀ h ∈ hs, Wf2 h) ∧
    (0 < hs.length → ∃ b off, ao = some ⟨b, off, none⟩ ∧ ∀ j x y, hs[j]? = some (x, y) → w.cell? ⟨b, off + j * 2, none⟩ = some (.int .i64 x) ∧ w.cell? ⟨b, off + j * 2 + 1, none⟩ = some (.int .i64 y))

theorem IsHits.wf {w : World} {v : Value} {hs : List (Int × Int)} (h : IsHits w v hs) : ∀ p ∈ hs, Wf2 p := by
  obtain ⟨_, _, _, _, _, hwf, _⟩ := h
  exact hwf
theorem IsHits.later {w w' : World} {v : Value} {hs : List (Int × Int)} (h : IsHits w v hs) (hb : Below w.heap.size w w') : IsHits w' v hs := by
  obtain ⟨ao, cap, rfl, h1, h2, hwf, hc⟩ := h
  refine ⟨ao, cap, rfl, h1, h2, hwf, fun hp => ?_⟩
  obtain ⟨b, off, hao, hc1⟩ := hc hp
  exact ⟨b, off, hao, fun j x y hj => ⟨cell_keep hb (hc1 j x y hj).1, cell_keep hb (hc1 j x y hj).2⟩⟩

/-- Whatever owns a row of hits holds them. -/
theorem isHits_row {w : World} {base T : Nat} {v : Value} {hs : List (Int × Int)} (hwf : ∀ p ∈ hs, Wf2 p)
    (h : w.ownsRow base T 2 v hs.length (cells2 hs)) : IsHits w v hs := by
  rcases h.2 with ⟨rfl, h0⟩ | ⟨g, cap, cur, rfl, _, _, h1, h2, _⟩
  · have : hs = [] := List.eq_nil_of_length_eq_zero h0
    subst this
    exact ⟨none, 0, rfl, by simp, ⟨Nat.zero_le _, fun _ => rfl⟩, by simp, by simp⟩
  · refine ⟨_, _, rfl, h1, ⟨h2, by simp⟩, hwf, fun hp => ⟨g, 0, rfl, fun j x y hj => ?_⟩⟩
    have hj2 : j < hs.length := by
      rcases Nat.lt_or_ge j hs.length with h | h
      · exact h
      · rw [List.getElem?_eq_none h] at hj; cases hj
    have := cells2_at hs j x y hj
    rw [Nat.zero_add, h.cellAt (j * 2) (by omega), h.cellAt (j * 2 + 1) (by omega)]
    exact this

theorem IsHits.take {w : World} {ao : Option Addr} {n cap : Nat} {hs : List (Int × Int)} (h : IsHits w (.slice ao n cap) hs) (k : Nat) (hk : k ≤ n) : IsHits w (.slice ao k cap) (hs.take k) := by
  obtain ⟨ao', cap', he, h1, h2, hwf, hc⟩ := h
  simp only [Value.slice.injEq] at he
  obtain ⟨rfl, rfl, rfl⟩ := he
  have hl : (hs.take k).length = k := by simp; omega
  refine ⟨ao, cap, by rw [hl], by omega, h2, fun p hp => hwf p (List.mem_of_mem_take hp), fun hp => ?_⟩
  obtain ⟨b, off, hao, hc1⟩ := hc (by omega)
  refine ⟨b, off, hao, fun j x y hj => hc1 j x y ?_⟩
  rw [List.getElem?_take] at hj
  split at hj
  · exact hj
  · cases hj
theorem IsHits.drop {w : World} {b off n cap : Nat} {hs : List (Int × Int)} (h : IsHits w (.slice (some ⟨b, off, none⟩) n cap) hs) (k : Nat) (hk : k ≤ n) (o2 : Nat) (ho : k < n → o2 = off + k * 2) : IsHits w (.slice (some ⟨b, o2, none⟩) (n - k) (cap - k)) (hs.drop k) := by
  obtain ⟨ao', cap', he, h1, h2, hwf, hc⟩ := h
  simp only [Value.slice.injEq] at he
  obtain ⟨rfl, rfl, rfl⟩ := he
  refine ⟨_, _, by rw [List.length_drop], by rw [List.length_drop]; omega, ⟨by omega, by simp⟩, fun p hp => hwf p (List.mem_of_mem_drop hp), fun hp => ?_⟩
  rw [List.length_drop] at hp
  obtain ⟨b', off', hao, hc1⟩ := hc (by omega)
  simp only [Option.some.injEq, Addr.mk.injEq, and_true] at hao
  obtain ⟨rfl, rfl⟩ := hao
  have ho2 := ho (by omega)
  subst ho2
  refine ⟨b, _, rfl, fun j x y hj => ?_⟩
  have := hc1 (k + j) x y (by simpa [List.getElem?_drop] using hj)
  rw [show off + k * 2 + j * 2 = off + (k + j) * 2 by omega]
  exact this

/-- The cells that append reads. -/
theorem IsHits.news {w : World} {b off n cap : Nat} {hs : List (Int × Int)} (h : IsHits w (.slice (some ⟨b, off, none⟩) n cap) hs) : ∀ j u, (cells2 hs)[j]? = some u → w.cell? ((⟨b, off, none⟩ : Addr).add j) = some u := by
  intro j u hj
  obtain ⟨k, x, y, h1, h2⟩ := cells2_get hs j u hj
  obtain ⟨ao', cap', he, h3, h4, hwf, hc⟩ := h
  simp only [Value.slice.injEq] at he
  obtain ⟨rfl, rfl, rfl⟩ := he
  have hk : k < hs.length := by
    rcases Nat.lt_or_ge k hs.length with h | h
    · exact h
    · rw [List.getElem?_eq_none h] at h1; cases h1
  obtain ⟨b', off', hao, hc1⟩ := hc (by omega)
  simp only [Option.some.injEq, Addr.mk.injEq, and_true] at hao
  obtain ⟨rfl, rfl⟩ := hao
  have hadd : (⟨b, off, none⟩ : Addr).add j = ⟨b, off + j, none⟩ := Addr.add_lit _ _ _
  rw [hadd]
  have := hc1 k x y h1
  rcases h2 with ⟨rfl, rfl⟩ | ⟨rfl, rfl⟩
  · exact this.1
  · exact this.2

end Go.Proofs.Ytfgadegpdknocaa

namespace Go.Proofs.Ytfgadegpdknocaa

/-- A hit is (id, score): the lower score is better, then the lower id. -/
def bet (a b : Int × Int) : Bool := decide (a.2 < b.2) || (decide (a.2 = b.2) && decide (a.1 < b.1))
theorem bet_iff (a b : Int × Int) : bet a b = true ↔ a.2 < b.2 ∨ (a.2 = b.2 ∧ a.1 < b.1) := by simp [bet]
theorem bet_irrefl (a : Int × Int) : bet a a = false := by simp [bet]
theorem bet_trans {a b c : Int × Int} (h : bet a b = true) (k : bet b c = true) : bet a c = true := by
  rw [bet_iff] at *
  omega
theorem bet_asymm {a b : Int × Int} (h : bet a b = true) : bet b a = false := by
  cases k : bet b a with
  | false => rfl
  | true =>
    have := bet_trans h k
    rw [bet_irrefl] at this
    cases this
theorem bet_total {a b : Int × Int} (h : bet a b = false) (hne : a ≠ b) : bet b a = true := by
  rw [bet_iff]
  have h1 : ¬ (a.2 < b.2 ∨ (a.2 = b.2 ∧ a.1 < b.1)) := by rw [← bet_iff, h]; simp
  have h2 : ¬ (a.1 = b.1 ∧ a.2 = b.2) := fun ⟨e1, e2⟩ => hne (Prod.ext e1 e2)
  omega

/-- The id and the score are in their ranges. -/
def oneB (h : Int × Int) : Bool := (decide (1 ≤ h.1) && decide (h.1 ≤ 999)) && (decide (0 ≤ h.2) && decide (h.2 ≤ 12000000))

/-- What is wrong with a list of hits behind p. -/
def faultFrom : Option (Int × Int) → List (Int × Int) → Int
  | _, [] => 0
  | p, h :: r => if oneB h then (if p.all (bet · h) then faultFrom (some h) r else 1) else 3
def hitsFault (hs : List (Int × Int)) : Int := if 20 < hs.length then 2 else faultFrom none hs
/-- The hit ahead of place k. -/
def ahead (hs : List (Int × Int)) (k : Nat) : Option (Int × Int) := if k = 0 then none else hs[k - 1]?

def Sorted (hs : List (Int × Int)) : Prop := hs.Pairwise (fun a b => bet a b = true)

theorem faultFrom_zero {p : Option (Int × Int)} {hs : List (Int × Int)} (h : faultFrom p hs = 0) : (∀ x ∈ hs, oneB x = true) ∧ Sorted hs ∧ ∀ q, p = some q → ∀ x ∈ hs, bet q x = true := by
  induction hs generalizing p with
  | nil => exact ⟨by simp, List.Pairwise.nil, by simp⟩
  | cons a r ih =>
    unfold faultFrom at h
    split at h
    · next h1 =>
      split at h
      · next h2 =>
        obtain ⟨i1, i2, i3⟩ := ih h
        refine ⟨fun x hx => ?_, List.Pairwise.cons (fun x hx => i3 a rfl x hx) i2, fun q hq x hx => ?_⟩
        · rcases List.mem_cons.1 hx with rfl | hx
          · exact h1
          · exact i1 x hx
        · subst hq
          simp at h2
          rcases List.mem_cons.1 hx with rfl | hx
          · exact h2
          · exact bet_trans h2 (i3 a rfl x hx)
      · simp at h
    · simp at h
theorem hitsFault_zero {hs : List (Int × Int)} (h : hitsFault hs = 0) : hs.length ≤ 20 ∧ (∀ x ∈ hs, oneB x = true) ∧ Sorted hs := by
  unfold hitsFault at h
  split at h
  · simp at h
  · next hl =>
    obtain ⟨h1, h2, _⟩ := faultFrom_zero h
    exact ⟨by omega, h1, h2⟩
theorem hitsFault_of {hs : List (Int × Int)} (hl : hs.length ≤ 20) (h1 : ∀ x ∈ hs, oneB x = true) (h2 : Sorted hs) : hitsFault hs = 0 := by
  have key : ∀ (hs : List (Int × Int)) (p : Option (Int × Int)), (∀ x ∈ hs, oneB x = true) → Sorted hs → (∀ q, p = some q → ∀ x ∈ hs, bet q x = true) → faultFrom p hs = 0 := by
    intro hs
    induction hs with
    | nil => intros; rfl
    | cons a r ih =>
      intro p h1 h2 h3
      unfold faultFrom
      rw [if_pos (h1 a (by simp)), if_pos]
      · exact ih (some a) (fun x hx => h1 x (by simp [hx])) h2.of_cons (fun q hq x hx => by cases hq; exact List.rel_of_pairwise_cons h2 hx)
      · cases p with
        | none => rfl
        | some q => simpa using h3 q rfl a (by simp)
  unfold hitsFault
  rw [if_neg (by omega)]
  exact key hs none h1 h2 (by simp)

/-- A hit put into a list. -/
def ins : List (Int × Int) → Int × Int → List (Int × Int)
  | [], h => [h]
  | x :: r, h => if bet x h then x :: ins r h else if x = h then x :: r else h :: x :: r
theorem ins_mem {hs : List (Int × Int)} {h x : Int × Int} : x ∈ ins hs h ↔ x = h ∨ x ∈ hs := by
  induction hs with
  | nil => simp [ins]
  | cons a r ih =>
    unfold ins
    split
    · simp [ih]
      constructor
      · rintro (h | h | h) <;> simp [h]
      · rintro (h | h | h) <;> simp [h]
    · split
      · next e => subst e; simp
      · simp
theorem ins_sorted {hs : List (Int × Int)} (hs1 : Sorted hs) (h : Int × Int) : Sorted (ins hs h) := by
  induction hs with
  | nil => exact List.pairwise_singleton _ _
  | cons a r ih =>
    unfold ins
    split
    · next h1 =>
      refine List.Pairwise.cons (fun x hx => ?_) (ih hs1.of_cons)
      rcases ins_mem.1 hx with rfl | hx
      · exact h1
      · exact List.rel_of_pairwise_cons hs1 hx
    · next h1 =>
      split
      · exact hs1
      · next h2 =>
        have h3 := bet_total (by simpa using h1) h2
        refine List.Pairwise.cons (fun x hx => ?_) hs1
        rcases List.mem_cons.1 hx with rfl | hx
        · exact h3
        · exact bet_trans h3 (List.rel_of_pairwise_cons hs1 hx)
theorem ins_len (hs : List (Int × Int)) (h : Int × Int) : (ins hs h).length ≤ hs.length + 1 := by
  induction hs with
  | nil => simp [ins]
  | cons a r ih =>
    unfold ins
    split
    · simp; omega
    · split <;> simp

/-- Two lists in order with the same members are the same. -/
theorem sorted_ext {a b : List (Int × Int)} (ha : Sorted a) (hb : Sorted b) (h : ∀ x, x ∈ a ↔ x ∈ b) : a = b := by
  induction a generalizing b with
  | nil =>
    cases b with
    | nil => rfl
    | cons y s => exact absurd ((h y).2 (by simp)) (by simp)
  | cons x r ih =>
    cases b with
    | nil => exact absurd ((h x).1 (by simp)) (by simp)
    | cons y s =>
      have hxy : x = y := by
        rcases List.mem_cons.1 ((h x).1 (by simp)) with e | hx
        · exact e
        · rcases List.mem_cons.1 ((h y).2 (by simp)) with e | hy
          · exact e.symm
          · have h1 := List.rel_of_pairwise_cons ha hy
            have h2 := List.rel_of_pairwise_cons hb hx
            rw [bet_asymm h1] at h2
            cases h2
      subst hxy
      congr 1
      refine ih ha.of_cons hb.of_cons (fun z => ?_)
      constructor
      · intro hz
        rcases List.mem_cons.1 ((h z).1 (by simp [hz])) with e | hz2
        · subst e
          have := List.rel_of_pairwise_cons ha hz
          rw [bet_irrefl] at this
          cases this
        · exact hz2
      · intro hz
        rcases List.mem_cons.1 ((h z).2 (by simp [hz])) with e | hz2
        · subst e
          have := List.rel_of_pairwise_cons hb hz
          rw [bet_irrefl] at this
          cases this
        · exact hz2

/-- All hits of a list, in order. -/
def allOf (hs : List (Int × Int)) : List (Int × Int) := hs.foldl ins []
theorem foldl_sorted {a : List (Int × Int)} (ha : Sorted a) (hs : List (Int × Int)) : Sorted (hs.foldl ins a) := by
  induction hs generalizing a with
  | nil => exact ha
  | cons h r ih => exact ih (ins_sorted ha h)
theorem foldl_mem {a hs : List (Int × Int)} {x : Int × Int} : x ∈ hs.foldl ins a ↔ x ∈ a ∨ x ∈ hs := by
  induction hs generalizing a with
  | nil => simp
  | cons h r ih =>
    simp only [List.foldl_cons, ih, ins_mem, List.mem_cons]
    constructor
    · rintro ((h | h) | h) <;> simp [h]
    · rintro (h | h | h) <;> simp [h]
theorem allOf_sorted (hs : List (Int × Int)) : Sorted (allOf hs) := foldl_sorted List.Pairwise.nil hs
theorem allOf_mem {hs : List (Int × Int)} {x : Int × Int} : x ∈ allOf hs ↔ x ∈ hs := by simp [allOf, foldl_mem]
theorem allOf_of_sorted {hs : List (Int × Int)} (h : Sorted hs) : allOf hs = hs := sorted_ext (allOf_sorted hs) h (fun _ => allOf_mem)
theorem ins_allOf (hs : List (Int × Int)) (h : Int × Int) : ins (allOf hs) h = allOf (hs ++ [h]) := by simp [allOf, List.foldl_append]

/-- Cut to k ahead or behind: the first k are the same. -/
theorem ins_take {hs : List (Int × Int)} (h : Int × Int) (k : Nat) : (ins (hs.take k) h).take k = (ins hs h).take k := by
  induction hs generalizing k with
  | nil => simp
  | cons a r ih =>
    cases k with
    | zero => simp
    | succ k =>
      simp only [List.take_succ_cons]
      unfold ins
      split
      · simp [ih]
      · split
        · simp [List.take_take]
        · cases k with
          | zero => simp
          | succ k => simp [List.take_take]; try omega

/-- The best k of a list, as they are reckoned one by one. -/
def best (k : Nat) (hs : List (Int × Int)) : List (Int × Int) := hs.foldl (fun out h => (ins out h).take k) []
theorem best_eq (k : Nat) (hs : List (Int × Int)) : best k hs = (allOf hs).take k := by
  have key : ∀ (hs a : List (Int × Int)), hs.foldl (fun out h => (ins out h).take k) (a.take k) = (hs.foldl ins a).take k := by
    intro hs
    induction hs with
    | nil => intro a; rfl
    | cons h r ih =>
      intro a
      simp only [List.foldl_cons]
      rw [ins_take, ih]
  have := key hs []
  simpa [best, allOf] using this
theorem best_sorted (k : Nat) (hs : List (Int × Int)) : Sorted (best k hs) := by
  rw [best_eq]
  exact (allOf_sorted hs).sublist (List.take_sublist _ _)
theorem best_mem {k : Nat} {hs : List (Int × Int)} {x : Int × Int} (h : x ∈ best k hs) : x ∈ hs := by
  rw [best_eq] at h
  exact allOf_mem.1 (List.mem_of_mem_take h)
theorem best_len (k : Nat) (hs : List (Int × Int)) : (best k hs).length ≤ k := by
  rw [best_eq]
  simp
  omega
theorem allOf_congr {a b : List (Int × Int)} (h : ∀ x, x ∈ a ↔ x ∈ b) : allOf a = allOf b := sorted_ext (allOf_sorted a) (allOf_sorted b) (fun x => by rw [allOf_mem, allOf_mem, h])
theorem best_congr (k : Nat) {a b : List (Int × Int)} (h : ∀ x, x ∈ a ↔ x ∈ b) : best k a = best k b := by rw [best_eq, best_eq, allOf_congr h]

end Go.Proofs.Ytfgadegpdknocaa

namespace Go.Proofs.Ytfgadegpdknocaa
open Go.RowKit

structure DHit where
  id : Int
  score : Int

def Lay.tHit : Lay DHit := Lay.via (Lay.pair Lay.int Lay.int) (fun x => (x.id, x.score)) (fun p => ⟨p.1, p.2⟩)

theorem lies_Hit {w : World} {cs : List Value} {x : DHit} {bl : List Nat} : Lay.tHit.lies w cs x bl ↔ cs = [.int .i64 x.id, .int .i64 x.score] ∧ bl = [] ∧ (Lit.int .i64 x.id).wf = true ∧ (Lit.int .i64 x.score).wf = true := by
  constructor
  · intro h
    obtain ⟨c0_, r0_, e0_, s0_, rfl, rfl, h0, h1⟩ := h
    obtain ⟨rfl, w0, rfl⟩ := h0
    obtain ⟨rfl, w1, rfl⟩ := h1
    exact ⟨by simp, by simp, w0, w1⟩
  · rintro ⟨rfl, hbl, w0, w1⟩
    rw [hbl]
    exact ⟨[.int .i64 x.id], [.int .i64 x.score], [], [], rfl, by simp, ⟨rfl, w0, rfl⟩, ⟨rfl, w1, rfl⟩⟩

end Go.Proofs.Ytfgadegpdknocaa

namespace Go.Proofs.Ytfgadegpdknocaa
open Go.RowKit

structure DHitsResult where
  code : Int
  hits : List DHit

def Lay.tHitsResult : Lay DHitsResult := Lay.via (Lay.pair Lay.int (Lay.sl Lay.tHit)) (fun x => (x.code, x.hits)) (fun p => ⟨p.1, p.2⟩)

theorem lies_HitsResult {w : World} {cs : List Value} {x : DHitsResult} {bl : List Nat} : Lay.tHitsResult.lies w cs x bl ↔ ∃ (a1 : Option Addr) (d1 : Nat) (b1 : List Nat), cs = [.int .i64 x.code, .slice a1 x.hits.length d1] ∧ bl = b1 ∧ (Lit.int .i64 x.code).wf = true ∧ (Lay.sl Lay.tHit).lies w [.slice a1 x.hits.length d1] x.hits b1 := by
  constructor
  · intro h
    obtain ⟨c0_, r0_, e0_, s0_, rfl, rfl, h0, h1⟩ := h
    obtain ⟨rfl, w0, rfl⟩ := h0
    have k1 := h1
    obtain ⟨a1, d1, rfl, -⟩ := k1
    exact ⟨a1, d1, s0_, by simp, by simp, w0, h1⟩
  · rintro ⟨a1, d1, b1, rfl, hbl, w0, l1⟩
    rw [hbl]
    exact ⟨[.int .i64 x.code], [.slice a1 x.hits.length d1], [], b1, rfl, by simp, ⟨rfl, w0, rfl⟩, l1⟩

theorem open_HitsResult {w : World} {cs : List Value} {x : DHitsResult} (h : Lay.tHitsResult.Reads w cs x) : ∃ (a1 : Option Addr) (d1 : Nat), cs = [.int .i64 x.code, .slice a1 x.hits.length d1] ∧ (Lay.sl Lay.tHit).Reads w [.slice a1 x.hits.length d1] x.hits := by
  obtain ⟨bl, h⟩ := h
  obtain ⟨a1, d1, b1, rfl, -, w0, l1⟩ := lies_HitsResult.1 h
  exact ⟨a1, d1, rfl, ⟨_, l1⟩⟩

end Go.Proofs.Ytfgadegpdknocaa

namespace Go.Proofs.Ytfgadegpdknocaa
open Go.RowKit

theorem vcnt_HitsResult (x : DHitsResult) : Lay.tHitsResult.vcnt x = (Lay.sl Lay.tHit).vcnt x.hits := by
  show 0 + ((Lay.sl Lay.tHit).vcnt x.hits) = (Lay.sl Lay.tHit).vcnt x.hits
  omega
theorem mkv_HitsResult (k : Int) (x : DHitsResult) : Lay.tHitsResult.mkv k x = ⟨x.code, (Lay.sl Lay.tHit).mkv (k) x.hits⟩ := by
  simp [Lay.tHitsResult, Lay.via, Lay.pair, Lay.int]
theorem own_HitsResult {w : World} {cs : List Value} {x : DHitsResult} {bl : List Nat} (h : Lay.tHitsResult.Own w cs x bl) : ∃ (a1 : Option Addr) (d1 : Nat) (g1 : List Nat), cs = [.int .i64 x.code, .slice a1 x.hits.length d1] ∧ bl = g1 ∧ (Lay.sl Lay.tHit).Own w [.slice a1 x.hits.length d1] x.hits g1 ∧ (Lit.int .i64 x.code).wf = true := by
  obtain ⟨hl, hn, hf⟩ := h
  obtain ⟨a1, d1, b1, rfl, hbl, w0, l1⟩ := lies_HitsResult.1 hl
  rw [hbl] at hn hf
  exact ⟨a1, d1, b1, rfl, hbl, ⟨l1, hn, hf⟩, w0⟩
theorem mkOwn_HitsResult {w : World} {x : DHitsResult} {c1 : List Value} {g1 : List Nat} (O1 : (Lay.sl Lay.tHit).Own w c1 x.hits g1) (v0 : (Lit.int .i64 x.code).wf = true) (hn : (g1).Nodup) : Lay.tHitsResult.Own w ([.int .i64 x.code] ++ c1) x (g1) := by
  refine ⟨⟨[.int .i64 x.code], c1, [], g1, rfl, by simp, ⟨rfl, v0, rfl⟩, O1.1⟩, hn, ?_⟩
  intro b hb o
  exact O1.2.2 b hb o

end Go.Proofs.Ytfgadegpdknocaa

namespace Go.Proofs.Ytfgadegpdknocaa
open Go.RowKit

theorem infoHit : (Try.prog.info? 77).map (fun i => (i.zero, i.size, i.bytes)) = some (some (.agg #[.int .i64 0, .int .i64 0]), 2, 16) := by kernel_rfl

theorem made2 (n : Nat) : (madeCells #[.int .i64 0, .int .i64 0] (n * 2)).toList = cells2 (List.replicate n (0, 0)) := by
  apply List.ext_getElem?
  intro j
  by_cases hj : j < n * 2
  · obtain ⟨u, hu⟩ : ∃ u, (cells2 (List.replicate n (0, 0)))[j]? = some u := ⟨_, List.getElem?_eq_getElem (by rw [cells2_len]; simpa using hj)⟩
    obtain ⟨k, x, y, h1, h2⟩ := cells2_get _ _ _ hu
    rw [hu]
    simp [List.getElem?_replicate] at h1
    obtain ⟨h3, rfl, rfl⟩ := h1
    have hm : j % 2 = 0 ∨ j % 2 = 1 := by omega
    rcases h2 with ⟨-, rfl⟩ | ⟨-, rfl⟩ <;> rcases hm with hm | hm <;> simp [madeCells, hj, hm]
  · have h1 : (cells2 (List.replicate n ((0 : Int), (0 : Int)))).length = n * 2 := by rw [cells2_len]; simp
    rw [List.getElem?_eq_none (l := cells2 _) (by rw [h1]; omega)]
    simp [madeCells, hj]

/-- Hits that are filled in, up to k. -/
theorem set_fill2 (hs : List (Int × Int)) (k : Nat) (x y : Int) (hk : hs[k]? = some (x, y)) :
    ((cells2 (hs.take k ++ List.replicate (hs.length - k) (0, 0))).set (k * 2) (.int .i64 x)).set (k * 2 + 1) (.int .i64 y) = cells2 (hs.take (k + 1) ++ List.replicate (hs.length - (k + 1)) (0, 0)) := by
  have hlt : k < hs.length := by
    rcases Nat.lt_or_ge k hs.length with h | h
    · exact h
    · rw [List.getElem?_eq_none h] at hk; cases hk
  have hl : (cells2 (hs.take k)).length = k * 2 := by rw [cells2_len]; simp; omega
  rw [cells2_app, List.set_append_right _ _ (by omega), List.set_append_right _ _ (by omega), hl, Nat.sub_self, show k * 2 + 1 - k * 2 = 1 by omega]
  obtain ⟨m, hm⟩ : ∃ m, hs.length - k = m + 1 := ⟨hs.length - k - 1, by omega⟩
  rw [hm, show hs.length - (k + 1) = m by omega, List.replicate_succ, List.take_succ_eq_append_getElem hlt, cells2_app, cells2_app]
  have he : hs[k] = (x, y) := by simpa [hlt] using hk
  rw [he]
  simp [cells2]

theorem below_keep2 {w W W' : World} (h : Below w.heap.size w W) (k : Below W.heap.size W W') : Below w.heap.size w W' := h.trans (k.mono h.size)

end Go.Proofs.Ytfgadegpdknocaa

namespace Go.Proofs.Ytfgadegpdknocaa
open Go.RowKit

theorem l1In (v lo hi : Int) (w : World) :
    Calls Try.prog 119 #[.int .i64 v, .int .i64 lo, .int .i64 hi] w fun e w' => e = .returned (.bool (decide (lo ≤ v) && decide (v ≤ hi))) ∧ w' = w := by
  by_cases h1 : lo ≤ v
  · by_cases h2 : v ≤ hi
    · have d1 : decide (lo ≤ v) = true := by simpa using h1
      have d2 : decide (v ≤ hi) = true := by simpa using h2
      rw [d1, d2]
      go_enter Try.func119, Try.ntmps119
      go_wp2_with fail
      go_ret
      exact ⟨rfl, rfl⟩
    · have d1 : decide (lo ≤ v) = true := by simpa using h1
      have d2 : decide (v ≤ hi) = false := by simpa using h2
      rw [d1, d2]
      go_enter Try.func119, Try.ntmps119
      go_wp2_with fail
      go_ret
      exact ⟨rfl, rfl⟩
  · have d1 : decide (lo ≤ v) = false := by simpa using h1
    rw [d1]
    go_enter Try.func119, Try.ntmps119
    go_wp2_with fail
    go_ret
    exact ⟨rfl, rfl⟩

set_option maxHeartbeats 400000 in
theorem l2Better (x y a b : Int) (w : World) :
    Calls Try.prog 152 #[.agg #[.int .i64 x, .int .i64 y], .agg #[.int .i64 a, .int .i64 b]] w fun e w' => e = .returned (.bool (bet (x, y) (a, b))) ∧ Below w.heap.size w w' := by
  have B : ∀ o o2, Below w.heap.size w ((w.alloc o).alloc o2) := fun o o2 => ((Below.refl _ _).alloc (Nat.le_refl _) o).alloc (by simp) o2
  by_cases h1 : y < b
  · have d1 : decide (y < b) = true := by simpa using h1
    have e : bet (x, y) (a, b) = true := by simp [bet, h1]
    rw [e]
    go_enter Try.func152, Try.ntmps152
    go_wp2_with fail
    go_ret
    exact ⟨rfl, B _ _⟩
  · have d1 : decide (y < b) = false := by simpa using h1
    by_cases h2 : y = b
    · subst h2
      have d2 : (y == y) = true := by simp
      have e : bet (x, y) (a, y) = decide (x < a) := by simp [bet]
      rw [e]
      cases d3 : decide (x < a) <;>
      · go_enter Try.func152, Try.ntmps152
        go_wp2_with fail
        go_ret
        exact ⟨rfl, B _ _⟩
    · have d2 : (y == b) = false := by simpa using h2
      have e : bet (x, y) (a, b) = false := by simp [bet, h1, h2]
      rw [e]
      go_enter Try.func152, Try.ntmps152
      go_wp2_with fail
      go_ret
      exact ⟨rfl, B _ _⟩

theorem l1Min (a b : Int) (w : World) :
    Calls Try.prog 153 #[.int .i64 a, .int .i64 b] w fun e w' => e = .returned (.int .i64 (min a b)) ∧ w' = w := by
  by_cases h : a < b
  · have e : min a b = a := by omega
    rw [e]
    go_enter Try.func153, Try.ntmps153
    go_wp2_with fail
    go_ret
    exact ⟨rfl, rfl⟩
  · have e : min a b = b := by omega
    rw [e]
    go_enter Try.func153, Try.ntmps153
    go_wp2_with fail
    go_ret
    exact ⟨rfl, rfl⟩

end Go.Proofs.Ytfgadegpdknocaa

namespace Go.Proofs.Ytfgadegpdknocaa
open Go.RowKit

theorem at_some {α : Type} {l : List α} {k : Nat} {x : α} (h : l[k]? = some x) : k < l.length := by
  rcases Nat.lt_or_ge k l.length with h2 | h2
  · exact h2
  · rw [List.getElem?_eq_none h2] at h; cases h

theorem drop_at {α : Type} {l : List α} {k : Nat} {x : α} (h : l[k]? = some x) : l.drop k = x :: l.drop (k + 1) := by
  have hk := at_some h
  rw [List.drop_eq_getElem_cons hk]
  congr 1
  simpa [hk] using h

theorem faultFrom_step (hs : List (Int × Int)) (k : Nat) (x y : Int) (h : hs[k]? = some (x, y)) :
    faultFrom (ahead hs k) (hs.drop k) = if oneB (x, y) then (if (ahead hs k).all (bet · (x, y)) then faultFrom (ahead hs (k + 1)) (hs.drop (k + 1)) else 1) else 3 := by
  rw [drop_at h]
  have : ahead hs (k + 1) = some (x, y) := by simpa [ahead] using h
  rw [this]
  rfl

end Go.Proofs.Ytfgadegpdknocaa

namespace Go.Proofs.Ytfgadegpdknocaa
open Go.RowKit

theorem append_none {P : Program} (t ty e : TypeId) (i : TypeInfo) (ht : P.underlying t = some (.slice e)) (hi : P.info? e = some i) (bo : Option Addr) (n cap c : Nat) (hn : n ≤ cap) (w : World) :
    (Builtin.append_ #[t, t] ty #[.slice bo n cap, .slice none 0 c]).run P w = (Builtin.append_ #[t, t] ty #[.slice bo n cap, .slice (some ⟨0, 0, none⟩) 0 c]).run P w := by
  simp [Builtin.append_, run_underlying ht, sizeOf, typeInfo, hi, Builtin.lenOf, hn, Builtin.firstCells, loadCells, loadCellsFrom]

theorem run_append_hits {w : World} (base ty : Nat) (v : Value) (n : Nat) (hs : List (Int × Int)) (hown : w.ownsRow base 77 2 v n (cells2 hs)) (x : Value) (ks : List (Int × Int)) (hx : IsHits w x ks)
    (hn : n + ks.length ≤ 100000000) (hbase : base ≤ w.heap.size) :
    ∃ v' w', (Builtin.append_ #[71, 71] ty #[v, x]).run Try.prog w = .ok v' w' ∧ w'.ownsRow base 77 2 v' (n + ks.length) (cells2 (hs ++ ks)) ∧ w.grownBy w' v.ownBlock ∧
      (v'.ownBlock = v.ownBlock ∨ v'.ownBlock = some w.heap.size) := by
  obtain ⟨i0, hi, hz0, hz1, hz2⟩ := info_parts infoHit
  have hml : n + ks.length ≤ maxLen := by unfold maxLen; omega
  rw [cells2_app]
  by_cases hp : 0 < ks.length
  · have hx' := hx
    obtain ⟨ao, cap, rfl, h1, h2, hwf, hc⟩ := hx'
    obtain ⟨b, off, rfl, hc1⟩ := hc hp
    obtain ⟨v', w', r1, r2, r3, -, r5⟩ := run_append_own_at (P := Try.prog) w base 71 ty 77 i0 _ 2 16 Try.underlying71 hi hz0 hz1 hz2 rfl (by omega) v n (cells2 hs) hown ⟨b, off, none⟩ ks.length cap (cells2 ks) (cells2_len ks) hx.news (cells2_one ks) hml (by omega) hbase
    exact ⟨v', w', r1, r2, r3, r5⟩
  · obtain rfl : ks = [] := List.eq_nil_of_length_eq_zero (by omega)
    obtain ⟨ao, cap, rfl, h1, h2, hwf, hc⟩ := hx
    cases ao with
    | none =>
      obtain ⟨v', w', r1, r2, r3, -, r5⟩ := run_append_own_at (P := Try.prog) w base 71 ty 77 i0 _ 2 16 Try.underlying71 hi hz0 hz1 hz2 rfl (by omega) v n (cells2 hs) hown ⟨0, 0, none⟩ 0 cap [] rfl (by simp) (by simp) hml (by simp at hn; omega) hbase
      refine ⟨v', w', ?_, r2, r3, r5⟩
      rcases hown.2 with ⟨rfl, h0⟩ | ⟨g, cp, cur, rfl, _, _, hle, _⟩
      · exact (append_none _ _ _ i0 Try.underlying71 hi none 0 0 cap (Nat.le_refl _) w).trans r1
      · exact (append_none _ _ _ i0 Try.underlying71 hi _ n cp cap hle w).trans r1
    | some ad =>
      obtain ⟨v', w', r1, r2, r3, -, r5⟩ := run_append_own_at (P := Try.prog) w base 71 ty 77 i0 _ 2 16 Try.underlying71 hi hz0 hz1 hz2 rfl (by omega) v n (cells2 hs) hown ad 0 cap [] rfl (by simp) (by simp) hml (by simp at hn; omega) hbase
      exact ⟨v', w', r1, r2, r3, r5⟩

/-- The same at an operation of a plain region. -/
theorem wpList_append_hits {w : World} {ops : Array Oper} {rest : List Oper} {o : Oper} {a : Act} {Q : Exit → Act → World → Prop} (hgd : o.guard = none) (s x : Operand)
    (ho : o.op = .call { callee := .builtin .append, args := #[s, x], argTypes := #[71, 71] })
    (base : Nat) (v : Value) (n : Nat) (hs : List (Int × Int)) (hv : a.eval s = v) (hown : w.ownsRow base 77 2 v n (cells2 hs)) (X : Value) (ks : List (Int × Int)) (hX : a.eval x = X) (hx : IsHits w X ks)
    (hn : n + ks.length ≤ 100000000) (hbase : base ≤ w.heap.size)
    (h : ∀ v' w', w'.ownsRow base 77 2 v' (n + ks.length) (cells2 (hs ++ ks)) → w.grownBy w' v.ownBlock → (v'.ownBlock = v.ownBlock ∨ v'.ownBlock = some w.heap.size) → wpList Try.prog ops Q rest (a.put o.dst v') w') :
    wpList Try.prog ops Q (o :: rest) a w := by
  refine wpList_plain hgd fun K hK => ?_
  obtain ⟨v', w', hr, h2, h3, h4⟩ := run_append_hits base o.type v n hs hown X ks hx hn hbase
  unfold Oper.wp execOp
  simp only [ho, resolve, invoke, builtin, Sem.run_bind, Sem.run_pure, Result.andThen_ok, List.map_toArray, List.map_cons, List.map_nil, hv, hX, hr]
  exact hK _ _ (h v' w' h2 h3 h4)

/-- .. onto a row that has a block: the new slice written out. -/
theorem wpList_append_row {w : World} {ops : Array Oper} {rest : List Oper} {o : Oper} {a : Act} {Q : Exit → Act → World → Prop} (hgd : o.guard = none) (s x : Operand)
    (ho : o.op = .call { callee := .builtin .append, args := #[s, x], argTypes := #[71, 71] })
    (base g n cp : Nat) (hs : List (Int × Int)) (hv : a.eval s = .slice (some ⟨g, 0, none⟩) n cp) (hown : w.ownsRow base 77 2 (.slice (some ⟨g, 0, none⟩) n cp) n (cells2 hs)) (X : Value) (ks : List (Int × Int)) (hX : a.eval x = X) (hx : IsHits w X ks)
    (m : Nat) (hm : n + ks.length = m) (hn : m ≤ 100000000) (hbase : base ≤ w.heap.size)
    (h : ∀ g' cp' w', w'.ownsRow base 77 2 (.slice (some ⟨g', 0, none⟩) m cp') m (cells2 (hs ++ ks)) → w.grownBy w' (some g) → (g' = g ∨ g' = w.heap.size) → wpList Try.prog ops Q rest (a.put o.dst (.slice (some ⟨g', 0, none⟩) m cp')) w') :
    wpList Try.prog ops Q (o :: rest) a w := by
  subst hm
  refine wpList_append_hits hgd s x ho base _ n hs hv hown X ks hX hx hn hbase fun v' w' h2 h3 h4 => ?_
  rcases h2.2 with ⟨rfl, h0⟩ | ⟨g', cap', cur, rfl, _⟩
  · rcases h4 with h4 | h4 <;> simp [Value.ownBlock] at h4
  · exact h g' cap' w' h2 h3 (by rcases h4 with h4 | h4 <;> simp [Value.ownBlock] at h4 <;> simp [h4])

/-- A row's first hits are a row. -/
theorem own_take {w : World} {base T g n cap : Nat} {hs : List (Int × Int)} (h : w.ownsRow base T 2 (.slice (some ⟨g, 0, none⟩) n cap) n (cells2 hs)) (k : Nat) (hk : k ≤ n) :
    w.ownsRow base T 2 (.slice (some ⟨g, 0, none⟩) k cap) k (cells2 (hs.take k)) := by
  have hl : (cells2 hs).length = n * 2 := h.1
  rcases h.2 with ⟨h', _⟩ | ⟨g', cap', cur, h', hb, hg, hnc, hcm, hcs, htake⟩
  · simp at h'
  · simp only [Value.slice.injEq, Option.some.injEq, Addr.mk.injEq, and_true, true_and] at h'
    obtain ⟨rfl, rfl⟩ := h'
    refine ⟨?_, .inr ⟨g, cap, cur, rfl, hb, hg, by omega, hcm, hcs, ?_⟩⟩
    · rw [cells2_len] at hl ⊢
      simp
      omega
    · rw [← cells2_take, ← htake, List.take_take]
      congr 1
      omega

end Go.Proofs.Ytfgadegpdknocaa

namespace Go.Proofs.Ytfgadegpdknocaa
open Go.RowKit

theorem eqIn2 (a b c d : Int) (w : World) : (Op.equalIn 10000 77 (.agg #[.int .i64 a, .int .i64 b]) (.agg #[.int .i64 c, .int .i64 d])).run Try.prog w = .ok (a == c && b == d) w := by
  have u3 := Try.underlying2
  have a3 := Try.isAgg2
  have z3 := Try.sizeOf2
  have hS : Try.prog.underlying 77 = some (.struct (Try.prog.fieldsOf 77)) := by kernel_rfl
  have hp : Try.prog.stoodInHeld 77 = false := by kernel_rfl
  rw [show (10000 : Nat) = 9999 + 1 from rfl, run_equalIn_agg w 9999 77 _ _ hS hp]
  simp only [Program.fieldsOf, Try.underlying77]
  go_simp
  by_cases h1 : a = c <;> by_cases h2 : b = d <;> simp [h1, h2]
theorem neq2 (a b c d : Int) (w : World) : (binOp .neq 77 (.agg #[.int .i64 a, .int .i64 b]) (.agg #[.int .i64 c, .int .i64 d])).run Try.prog w = .ok (.bool (!(a == c && b == d))) w := by
  simp only [binOp]
  simp only [Op.equal, Op.maxDepth]
  simp [eqIn2]
theorem eql2 (a b c d : Int) (w : World) : (binOp .eql 77 (.agg #[.int .i64 a, .int .i64 b]) (.agg #[.int .i64 c, .int .i64 d])).run Try.prog w = .ok (.bool (a == c && b == d)) w := by
  simp only [binOp]
  simp only [Op.equal, Op.maxDepth]
  simp [eqIn2]

end Go.Proofs.Ytfgadegpdknocaa
