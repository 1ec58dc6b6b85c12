/-
  Texts of this proof in one: RangeKit, RegIn, ChunkPlain, ImplChunk, AppWriteIn, WsGrow, VecOf, ImplDeed, ImplPack.
  Their conditions stand in their theorems.
-/
import Derived.Test.YtipomhpimmnchaaCq01
import Derived.RangeFuncNested
import Derived.RangeFuncBound
import Derived.RangeFuncCalls
import Derived.RangeFuncLeaves
import Derived.Shelf.Abstract
import Derived.Shelf.RegionOpen
import Derived.WalkKit
import Derived.OwnWalkIn
import Derived.TacticsInMore
import Derived.LoopNIn
import Derived.LoopIn
import Derived.Deep.RegionHeld3
import Derived.Test.YtipomhpimmnchaaCq07
import Derived.Test.YtipomhpimmnchaaChecked
import Derived.Test.YtipomhpimmnchaaCq04
import Derived.WalkSmall
import Derived.Outline
import Derived.Test.YtipomhpimmnchaaCq05

namespace Go.Proofs.Ytipomhpimmnchaa
open Go.RowKit

/-- Blocks below n that are not in S are as they were. -/
def KpS (n : Nat) (S : Nat → Prop) (W W' : World) : Prop := W.heap.size ≤ W'.heap.size ∧ ∀ b, b < n → ¬ S b → W'.heap[b]? = W.heap[b]?
theorem KpS.refl (n : Nat) (S : Nat → Prop) (W : World) : KpS n S W W := ⟨Nat.le_refl _, fun _ _ _ => rfl⟩
theorem KpS.trans {n : Nat} {S : Nat → Prop} {a b c : World} (h : KpS n S a b) (k : KpS n S b c) : KpS n S a c := ⟨Nat.le_trans h.1 k.1, fun i h1 h2 => (k.2 i h1 h2).trans (h.2 i h1 h2)⟩
theorem KpS.put {n : Nat} (S : Nat → Prop) (W : World) (l : Nat) (o' : Obj) (hl : n ≤ l) : KpS n S W (W.putObj l o') :=
  ⟨by simp, fun b hb _ => World.putObj_heap_other (by omega)⟩
theorem KpS.of_ext {n : Nat} {S T : Nat → Prop} {a b : World} (h : Ext T a b) (hn : n ≤ a.heap.size) (hs : ∀ k, k < n → T k → S k) : KpS n S a b :=
  ⟨h.size, fun k hk hS => h.block k (by omega) fun ht => hS (hs k hk ht)⟩
theorem KpS.of_below {n : Nat} (S : Nat → Prop) {a b : World} (h : Below a.heap.size a b) (hn : n ≤ a.heap.size) : KpS n S a b := ⟨h.size, fun k hk _ => h.block k (by omega)⟩
theorem ext_of_grownBy {A B : World} {row : Option Nat} (h : A.grownBy B row) : Ext (fun q => row = some q) A B := ⟨h.os, h.tape, h.output, h.size, fun k hk hn => h.block k hk fun e => hn e.symm⟩
theorem keepsFrom_ext {B : Nat} {S : Nat → Prop} {a b : World} (h : Ext S a b) (hs : ∀ k o, B ≤ k → a.heap[k]? = some o → o.isCells = false → ¬ S k) : KeepsFrom B a b :=
  ⟨h.size, fun k o hB hk ho => (h.block k (Array.getElem?_eq_some_iff.1 hk).1 (hs k o hB hk ho)).trans hk⟩
theorem keepsFrom_below {B : Nat} {a b : World} (h : Below a.heap.size a b) : KeepsFrom B a b :=
  ⟨h.size, fun k _ _ hk _ => (h.block k (Array.getElem?_eq_some_iff.1 hk).1).trans hk⟩
/-- A block of cells is not turned. -/
theorem grown_cells {A B : World} {row : Option Nat} (h : A.grownBy B row) {n : Nat} (hr : ∀ r, row = some r → n ≤ r ∧ ∃ o : Obj, A.heap[r]? = some o ∧ o.isCells = false) {b : Nat} {o : Obj} (hb : A.heap[b]? = some o) (ho : b < n ∨ o.isCells = true) : B.heap[b]? = some o := by
  refine (h.block b (Array.getElem?_eq_some_iff.1 hb).1 fun e => ?_).trans hb
  obtain ⟨h1, o', h2, h3⟩ := hr b e.symm
  rcases ho with ho | ho
  · omega
  · rw [hb] at h2
    cases h2
    rw [ho] at h3
    cases h3
theorem box_grown {A B : World} {row : Option Nat} (h : A.grownBy B row) {n lo : Nat} (hr : ∀ r, row = some r → n ≤ r ∧ ∃ o : Obj, A.heap[r]? = some o ∧ o.isCells = false) {cs : Array Value} {T s : Nat} (hb : Box lo cs T A s) : Box lo cs T B s :=
  ⟨hb.1, grown_cells h hr hb.2 (Or.inr rfl)⟩
theorem below_grown {A B w : World} {row : Option Nat} (h : A.grownBy B row) {n m : Nat} (hr : ∀ r, row = some r → n ≤ r ∧ ∃ o : Obj, A.heap[r]? = some o ∧ o.isCells = false) (hb : Below m w A) (hm : m ≤ n) (hw : m ≤ w.heap.size) : Below m w B :=
  hb.grown h (Nat.le_trans hw hb.size) fun k e => by have := (hr k e).1; omega

end Go.Proofs.Ytipomhpimmnchaa

namespace Go.Proofs.Ytipomhpimmnchaa
open Go.RowKit

variable {P : Program} {ops : Array Oper} {Q : Exit → Act → World → Prop}

def noDefer (o : Oper) : Bool := match o.op with | .defer _ => false | _ => true
theorem upon_in (l n : Nat) {o : Oper} {a : Act} {K : Act → World → Prop} {r : Result Next} (h : o.upon P a K Q r) : o.uponIn (Fence.wide.inRound l) n P a K Q r := by
  cases r with
  | ok x w' =>
    cases x with
    | value v => exact h
    | skip => exact h
    | defer d => exact h
    | enter f args => exact ⟨fun e => by simp [Fence.wide] at e, CallsIn.inRound l (callsIn_wide.2 h)⟩
    | row row args =>
      refine ⟨fun e => by simp [Fence.wide] at e, fun c cs _ => ?_⟩
      obtain ⟨v, w2, h1, h2⟩ := h c cs
      exact ⟨v, w2, h1, stepsIn_wide.2 h2⟩
    | _ => exact h.elim
  | halt x w' =>
    cases x with
    | panic v => exact h
    | _ => exact h.elim
theorem wp_in (l n : Nat) {o : Oper} {a : Act} {w : World} {K : Act → World → Prop} (hd : noDefer o = true) (h : o.wp P a w K Q) : o.wpIn (Fence.wide.inRound l) n P a w K Q := by
  refine ⟨fun _ _ => trivial, ?_⟩
  rw [show (Fence.wide.inRound l).round = some l from rfl, Oper.semAt_some l _ _ (by intro c hc; rw [noDefer, hc] at hd; cases hd)]
  exact upon_in l n h
theorem any_in (l n : Nat) {md : Region.Mode} (hd : ∀ (i : Nat) (o : Oper), ops[i]? = some o → noDefer o = true) (hL : ¬ LetsOut Q) : ∀ (fuel : Nat) (listed : Array Bool) (a : Act) (w : World), wpAny P md ops Q fuel listed a w → wpAnyIn (Fence.wide.inRound l) n P md ops Q fuel listed a w
  | 0, _, _, _, h => h
  | fuel + 1, listed, a, w, h => by
    refine ⟨h.1, fun i hi => ?_⟩
    have h2 := h.2 i hi
    unfold wpOp at h2
    unfold wpOpIn
    cases ho : ops[i]? with
    | none => rw [ho] at h2; exact any_in l n hd hL fuel _ _ _ h2
    | some o =>
      rw [ho] at h2
      simp only at h2 ⊢
      by_cases hw : Region.wanted o (yielded ops a.tmps) = true
      · rw [if_pos hw] at h2 ⊢
        rcases h2 with h2 | h2
        · exact Oper.wpIn_mono (any_in l n hd hL fuel _) (wp_in l n (hd i o ho) h2)
        · exact absurd h2.2 hL
      · rw [if_neg hw] at h2 ⊢
        exact ⟨fun _ _ => trivial, any_in l n hd hL fuel _ _ _ h2⟩
theorem noDefers (h : ops.all noDefer = true) : ∀ (i : Nat) (o : Oper), ops[i]? = some o → noDefer o = true := fun i o ho => by
  obtain ⟨hi, rfl⟩ := Array.getElem?_eq_some_iff.1 ho
  rw [Array.all_eq_true] at h
  exact h i hi
/-- Only the way behind the region. -/
def OnlyN (Q : Exit → Act → World → Prop) : Exit → Act → World → Prop
  | .normal, a, w => Q .normal a w
  | _, _, _ => False
theorem OnlyN.normal {a : Act} {w : World} (h : Q .normal a w) : OnlyN Q .normal a w := h
/-- The first move of a walk through such a region. -/
theorem wpIn_region_np {l n id : Nat} {S : World → Prop} {a : Act} {w : World} (hm : P.follows .mixedOrders = true) (hd : ops.all noDefer = true) (hS : S w.drew)
    (h : S w.drew → wpAnyH P .any ops (OnlyN Q) S ops.size (Array.replicate ops.size false) a w.drew) : (Code.region id ops true).wpIn (Fence.wide.inRound l) n P Q a w := by
  refine wpIn_mono (Q := OnlyN Q) (wpIn_region_any hm (any_in l n (noDefers hd) ?_ _ _ _ _ (wpAny_of_held _ _ _ _ (h hS)))) ?_
  · rintro ⟨a2, w2, h2⟩
    exact (show False from h2)
  · intro e a2 w2 h2
    cases e with
    | normal => exact h2
    | _ => exact (show False from h2).elim

end Go.Proofs.Ytipomhpimmnchaa

namespace Go.Proofs.Ytipomhpimmnchaa
open Go.RowKit

/-- A piece's place. -/
abbrev Pc (m : Nat) := { j : Nat // j < m }
def allPc (m : Nat) : List (Pc m) := (List.range m).pmap (fun j h => ⟨j, h⟩) (fun _ h => List.mem_range.1 h)
theorem allPc_len (m : Nat) : (allPc m).length = m := by simp [allPc]
theorem allPc_at (m i : Nat) (h : i < (allPc m).length) : (allPc m)[i].1 = i := by simp [allPc]
/-- How many pieces there are. -/
def np (zs : List Int) : Nat := (zs.length + 7) / 8
theorem np_lt {zs : List Int} {j : Nat} : j < np zs ↔ 8 * j < zs.length := by unfold np; omega
theorem pre_at {m : Nat} {pre : List (Pc m)} (h : pre <+: allPc m) (i : Nat) (hi : i < pre.length) : pre[i].1 = i := by
  have h2 : i < (allPc m).length := Nat.lt_of_lt_of_le hi h.length_le
  rw [h.getElem hi, allPc_at m i h2]
theorem pre_range {m : Nat} {pre : List (Pc m)} (h : pre <+: allPc m) : pre.map (·.1) = List.range pre.length := by
  refine List.ext_getElem (by simp) fun i h1 h2 => ?_
  rw [List.getElem_map, List.getElem_range]
  exact pre_at h i (by simpa using h1)
/-- The writes of the pieces so far. -/
def wsP (zs : List Int) {m : Nat} (pre : List (Pc m)) : List DWrite := pre.map fun p => wAt zs p.1
theorem wsP_range {zs : List Int} {m : Nat} {pre : List (Pc m)} (h : pre <+: allPc m) : wsP zs pre = (List.range pre.length).map (wAt zs) := by
  rw [← pre_range h, List.map_map]
  rfl
theorem wsP_snoc (zs : List Int) {m : Nat} (pre : List (Pc m)) (p : Pc m) : wsP zs (pre ++ [p]) = wsP zs pre ++ [wAt zs p.1] := by simp [wsP]
theorem wsP_len (zs : List Int) {m : Nat} (pre : List (Pc m)) : (wsP zs pre).length = pre.length := by simp [wsP]
/-- All pieces are writes. -/
theorem read_all {zs : List Int} (h : ∀ p ∈ allPc (np zs), okAt zs p.1 = true) : readL zs = wsP zs (allPc (np zs)) := by
  rw [wsP_range (List.prefix_refl _), allPc_len]
  refine read_of (fun j hj => ?_) (ok_short (by unfold np; omega))
  have h1 : j < (allPc (np zs)).length := by rw [allPc_len]; exact hj
  have := h _ (List.getElem_mem h1)
  rwa [allPc_at] at this
/-- The first pieces are writes, the next is none. -/
theorem read_stop {zs : List Int} {pre : List (Pc (np zs))} {p : Pc (np zs)} (hp : pre ++ [p] <+: allPc (np zs)) (h : ∀ q ∈ pre, okAt zs q.1 = true) (hn : okAt zs p.1 = false) : readL zs = wsP zs pre := by
  have hpre : pre <+: allPc (np zs) := (List.prefix_append _ _).trans hp
  rw [wsP_range hpre]
  refine read_of (fun j hj => ?_) ?_
  · have := h _ (List.getElem_mem hj)
    rwa [pre_at hpre] at this
  · have := pre_at hp pre.length (by simp)
    simp only [List.getElem_append_right (Nat.le_refl _), Nat.sub_self, List.getElem_cons_zero] at this
    rw [← this]
    exact hn
/-- The piece as a slice. -/
def pcV (b off : Nat) (zs : List Int) (j : Nat) : Value := .slice (some ⟨b, off + 8 * j, none⟩) (min 8 (zs.length - 8 * j)) (min 8 (zs.length - 8 * j))
theorem pcV_reads {w : World} {b off cap : Nat} {zs : List Int} (h : (Lay.sl Lay.int).Reads w [.slice (some ⟨b, off, none⟩) zs.length cap] zs) (j : Nat) (hj : 8 * j < zs.length) : (Lay.sl Lay.int).Reads w [pcV b off zs j] (pieceAt zs j) := by
  have := part_reads h (8 * j) (min 8 (zs.length - 8 * j)) (min 8 (zs.length - 8 * j)) (by omega) (Nat.le_refl _)
  have e : (zs.drop (8 * j)).take (min 8 (zs.length - 8 * j)) = pieceAt zs j := by
    rw [pieceAt]
    by_cases h8 : 8 ≤ zs.length - 8 * j
    · rw [Nat.min_eq_left h8]
    · rw [Nat.min_eq_right (by omega), List.take_of_length_le (by simp), List.take_of_length_le (by simp; omega)]
  rw [e] at this
  exact this

end Go.Proofs.Ytipomhpimmnchaa

namespace Go.Proofs.Ytipomhpimmnchaa
open Go.RowKit Go.Shelf
attribute [local go_sem] Oper.semAt_some

set_option maxRecDepth 100000 in
set_option maxHeartbeats 2000000 in
theorem chunk1 (l n Bs Bn b off cap : Nat) (ao : Option Addr) (zs : List Int) (N : Nat) (S : Nat → Prop) (hzs : zs.length ≤ 100000) (hcap : zs.length ≤ cap) (hao : 0 < zs.length → ao = some ⟨b, off, none⟩)
    (k1 : Bs < N ∧ ¬ S Bs) (k2 : Bn < N ∧ ¬ S Bn) (J Jx : List (Pc (np zs)) → World → Prop) (hab : ∀ pre W m, J pre W → J pre (W.drewN m))
    (hY : ∀ pre x W, J pre W → pre.length < np zs → YieldAt Fence.wide (n - 1) Try.prog l #[pcV b off zs x.1] W fun e W' =>
      (e = .returned (.bool true) ∧ J (pre ++ [x]) W' ∧ KpS N S W W') ∨ (e = .returned (.bool false) ∧ Jx (pre ++ [x]) W'))
    (W : World) (hs : W.cell? ⟨Bs, 0, none⟩ = some (.slice ao zs.length cap)) (hn : W.cell? ⟨Bn, 0, none⟩ = some (.int .i64 8)) (h0 : J [] W) :
    CallsIn Fence.wide n Try.prog 88 #[.func (.yield l) #[] #[], .pointer (some ⟨Bs, 0, none⟩), .pointer (some ⟨Bn, 0, none⟩)] W fun e W' => (∃ v, e = .returned v) ∧
      ((∃ ys, ys = allPc (np zs) ∧ J ys W') ∨ (∃ pre, pre <+: allPc (np zs) ∧ Jx pre W')) := by
  refine callsIn_of_wp Try.func88 rfl trivial ?_ rfl
  simp only [Try.ntmps88, List.size_toArray, List.length_cons, List.length_nil, Nat.reduceAdd, Nat.reduceSub, Array.replicate_succ, Array.replicate_zero, List.push_toArray, List.append_toArray, List.nil_append, List.cons_append]
  gi_wp2
  gi_loopw [4] (fun i wr => ∃ k : Nat, k ≤ np zs ∧ i = .int .i64 ((8 * k : Nat) : Int) ∧ J ((allPc (np zs)).take k) wr ∧ wr.cell? ⟨Bs, 0, none⟩ = some (.slice ao zs.length cap) ∧ wr.cell? ⟨Bn, 0, none⟩ = some (.int .i64 8)) (fun i _ => zs.length + 8 - (intOf i).toNat)
  case atStart => exact ⟨0, Nat.zero_le _, rfl, h0, hs, hn⟩
  case round =>
    obtain ⟨k, hk, rfl, hJ, hs1, hn1⟩ := hrel
    clear hs hn h0
    have hlen := allPc_len (np zs)
    by_cases hlt : 8 * k < zs.length
    · have hkn : k < np zs := np_lt.2 hlt
      obtain rfl := hao (by omega)
      obtain ⟨x, hxv, htk⟩ : ∃ x : Pc (np zs), x.1 = k ∧ (allPc (np zs)).take (k + 1) = (allPc (np zs)).take k ++ [x] := ⟨(allPc (np zs))[k]'(by omega), allPc_at (np zs) k (by omega), List.take_succ_eq_append_getElem (by omega)⟩
      have HPL : Hid (((allPc (np zs)).take k).length < np zs) := by show _ < _; rw [List.length_take]; omega
      have HXV := hide hxv
      have hi1 : (8 * k : Nat) ≤ cap := by omega
      have hi2 : ¬ cap = 8 * k := by omega
      have HTK := hide htk
      have HJ := hide hJ
      clear htk hJ hlen hxv
      gi_wp2
      refine wpIn_wide.2 ?_
      go_quiet (fail)
      have hJ2 := hab _ _ nq (unhide HJ)
      have hs2 : (wr.drewN nq).cell? ⟨Bs, 0, none⟩ = some (.slice (some ⟨b, off, none⟩) zs.length cap) := hs1
      have hn2 : (wr.drewN nq).cell? ⟨Bn, 0, none⟩ = some (.int .i64 8) := hn1
      obtain ⟨e, he⟩ : ∃ e, e = min 8 (zs.length - 8 * k) := ⟨_, rfl⟩
      have he1 : e ≤ 8 := by omega
      have he2 : 8 * k + e ≤ zs.length := by omega
      have he3 : 0 < e := by omega
      have he4 : e = 8 ∨ 8 * k + e = zs.length := by omega
      have hE : (if ((zs.length - 8 * k : Nat) : Int) < 8 then ((zs.length - 8 * k : Nat) : Int) else 8) = ((e : Nat) : Int) := by split <;> omega
      rw [hE]
      have HPV : Hid (pcV b off zs x.1 = .slice (some ⟨b, off + 8 * k, none⟩) e e) := by show pcV b off zs x.1 = _; rw [unhide HXV, pcV, he]
      obtain ⟨fn, tmps, assign, body, hy, hR⟩ := hY _ x _ hJ2 (unhide HPL)
      rw [unhide HPV] at hy
      generalize wr.drewN nq = W2 at *
      clear hs1 hn1 HJ hJ2 hE he HPL HPV
      gi_wp2
      refine ⟨fun h => by simp [Fence.wide] at h, hR.mono ?_⟩
      rintro e9 W3 (⟨rfl, hJ3, hk3⟩ | ⟨rfl, hJx3⟩)
      · have s3 : W3.cell? ⟨Bs, 0, none⟩ = some (.slice (some ⟨b, off, none⟩) zs.length cap) := (cell_of_heap (hk3.2 Bs k1.1 k1.2) 0).trans hs2
        have n3 : W3.cell? ⟨Bn, 0, none⟩ = some (.int .i64 8) := (cell_of_heap (hk3.2 Bn k2.1 k2.2) 0).trans hn2
        clear hs2 hn2 hy
        gi_wp2
        go_roundw
        case rel => exact ⟨k + 1, by omega, by go_num, by rw [unhide HTK]; exact hJ3, s3, n3⟩
        case measure => simp [intOf]; omega
      · clear hs2 hn2 hy
        gi_wp2
        refine bodyPost_ret (results_none rfl _ _ _) rfl ?_
        exact ⟨⟨_, rfl⟩, .inr ⟨_, by rw [← unhide HTK]; exact List.take_prefix _ _, hJx3⟩⟩
    · have hkn : k = np zs := by have := np_lt (zs := zs) (j := k); omega
      have hJ2 : J (allPc (np zs)) wr := by
        rw [List.take_of_length_le (by omega)] at hJ
        exact hJ
      clear hJ
      gi_wp2
      go_end0
      exact ⟨⟨_, rfl⟩, .inl ⟨_, rfl, hJ2⟩⟩

/-- What slices.Chunk hands back tells the pieces, all or the first ones. -/
theorem chunk_stops (n Bs Bn b off cap : Nat) (ao : Option Addr) (zs : List Int) (N : Nat) (S : Nat → Prop) (hzs : zs.length ≤ 100000) (hcap : zs.length ≤ cap) (hao : 0 < zs.length → ao = some ⟨b, off, none⟩)
    (k1 : Bs < N ∧ ¬ S Bs) (k2 : Bn < N ∧ ¬ S Bn) (w : World) (l1 : Bs < w.heap.size) (l2 : Bn < w.heap.size) (hs : w.cell? ⟨Bs, 0, none⟩ = some (.slice ao zs.length cap)) (hn : w.cell? ⟨Bn, 0, none⟩ = some (.int .i64 8)) :
    SeqStopsK Fence.wide n Try.prog 88 #[.pointer (some ⟨Bs, 0, none⟩), .pointer (some ⟨Bn, 0, none⟩)] (fun x : Pc (np zs) => #[pcV b off zs x.1]) (KpS N S) (fun ys => ys = allPc (np zs)) (fun pre => pre <+: allPc (np zs)) (np zs) w :=
  fun l J Jx W hW hJ _ hY h0 => chunk1 l n Bs Bn b off cap ao zs N S hzs hcap hao k1 k2 J Jx (fun pre W m h => hJ pre W (W.drewN m) none h ⟨rfl, rfl, rfl, Nat.le_refl _, fun _ _ _ => rfl⟩ (fun r e => by cases e)) hY W ((hW.cell (p := ⟨Bs, 0, none⟩) l1).trans hs) ((hW.cell (p := ⟨Bn, 0, none⟩) l2).trans hn) h0

/-- slices.Chunk: the list and the length of a piece are boxed; the function value captures the boxes. -/
theorem implChunk (ap : Option Addr) (m cp : Nat) (w : World) :
    Calls Try.prog 58 #[.slice ap m cp, .int .i64 8] w fun e w' => e = .returned (.func (.func 88) #[] #[.pointer (some ⟨w.heap.size, 0, none⟩), .pointer (some ⟨w.heap.size + 1, 0, none⟩)]) ∧ w' = (w.alloc (.cells #[.slice ap m cp] 24)).alloc (.cells #[.int .i64 8] 3) := by
  go_enter Try.func58, Try.ntmps58
  go_wp2_with fail
  go_ret
  exact ⟨rfl, rfl⟩

end Go.Proofs.Ytipomhpimmnchaa

namespace Go.Proofs.Ytipomhpimmnchaa
open Go.RowKit

theorem wpListIn_append_Write {l nF : Nat} {w1 : World} {base : Nat} {v : Value} {rows : List (List Value)} {xs : List DWrite} {bls : List (List Nat)} (hG : Grow Lay.tWrite w1 base 58 v rows xs bls) {row : List Value} {x : DWrite} {bl : List Nat} (hl : Lay.tWrite.lies w1 row x bl) (hbl : ∀ b ∈ bl, v.ownBlock ≠ some b) {ops : Array Oper} {rest : List Oper} {o : Oper} {a : Act} {Q : Exit → Act → World → Prop} (hgd : o.guard = none) (s y : Operand)
    (ho : o.op = .call { callee := .builtin .append, args := #[s, y], argTypes := #[28, 28] }) (hs : a.eval s = v) (hy : a.eval y = .slice (some ⟨w1.heap.size, 0, none⟩) 1 1) (hn : xs.length + 1 ≤ 100000000) (hbase : base ≤ w1.heap.size)
    (h : ∀ g cap w', Grow Lay.tWrite w' base 58 (.slice (some ⟨g, 0, none⟩) (xs.length + 1) cap) (rows ++ [row]) (xs ++ [x]) (bls ++ [bl]) → Below base w1 w' → Ext (fun q => v.ownBlock = some q) w1 w' → g < w'.heap.size → w1.heap.size ≤ w'.heap.size → (v.ownBlock = some g ∨ w1.heap.size ≤ g) → wpListIn (Fence.wide.inRound l) nF Try.prog ops Q rest (a.put o.dst (.slice (some ⟨g, 0, none⟩) (xs.length + 1) cap)) w') :
    wpListIn (Fence.wide.inRound l) nF Try.prog ops Q (o :: rest) a (w1.alloc (.cells row.toArray 58)) := by
  refine wpListIn_plain hgd fun K hK => wp_in l nF (by simp [noDefer, ho]) ?_
  have := step_append_Write (ops := ops) (K := K) (Q := Q) (E := True) hG hl hbl hgd s y ho hs hy hn hbase (fun g cap w' q1 q2 q3 q4 q5 q6 => hK _ _ (h g cap w' q1 q2 q3 q4 q5 q6))
  rwa [if_pos (show Region.wanted o (yielded ops a.tmps) = true by simp [Region.wanted, hgd])] at this

theorem wpListIn_append_WriteH {l nF : Nat} {w1 : World} {base : Nat} {v : Value} {rows : List (List Value)} {xs : List DWrite} {bls : List (List Nat)} (hG : Grow Lay.tWrite w1 base 58 v rows xs bls) {row : List Value} {x : DWrite} {bl : List Nat} (hl : Lay.tWrite.lies w1 row x bl) (hbl : ∀ b ∈ bl, v.ownBlock ≠ some b) {ops : Array Oper} {rest : List Oper} {o : Oper} {a : Act} {Q : Exit → Act → World → Prop} (hgd : o.guard = none) (s y : Operand)
    (ho : o.op = .call { callee := .builtin .append, args := #[s, y], argTypes := #[28, 28] }) (hs : a.eval s = v) {H : Nat} (hH : w1.heap.size = H) (hy : a.eval y = .slice (some ⟨H, 0, none⟩) 1 1) (hn : xs.length + 1 ≤ 100000000) (hbase : base ≤ w1.heap.size)
    (h : ∀ g cap w', Grow Lay.tWrite w' base 58 (.slice (some ⟨g, 0, none⟩) (xs.length + 1) cap) (rows ++ [row]) (xs ++ [x]) (bls ++ [bl]) → Below base w1 w' → Ext (fun q => v.ownBlock = some q) w1 w' → g < w'.heap.size → w1.heap.size ≤ w'.heap.size → (v.ownBlock = some g ∨ w1.heap.size ≤ g) → wpListIn (Fence.wide.inRound l) nF Try.prog ops Q rest (a.put o.dst (.slice (some ⟨g, 0, none⟩) (xs.length + 1) cap)) w') :
    wpListIn (Fence.wide.inRound l) nF Try.prog ops Q (o :: rest) a (w1.alloc (.cells row.toArray 58)) :=
  wpListIn_append_Write hG hl hbl hgd s y ho hs (by rw [hH]; exact hy) hn hbase h

end Go.Proofs.Ytipomhpimmnchaa

namespace Go.Proofs.Ytipomhpimmnchaa
open Go.RowKit

/-- A block of cells that may be written. -/
def SoftB (W : World) (c : Nat) : Prop := (∃ o : Obj, W.heap[c]? = some o ∧ o.isCells = true) ∧ ∀ o, W.frozen? ⟨c, o, none⟩ = false
theorem SoftB.keep {W W' : World} {c : Nat} (h : SoftB W c) (hk : W'.heap[c]? = W.heap[c]?) : SoftB W' c := by
  obtain ⟨⟨o, h1, h2⟩, h3⟩ := h
  exact ⟨⟨o, hk.trans h1, h2⟩, fun o => (frozen_of_heap hk o).trans (h3 o)⟩
theorem cells_of_cell {W : World} {b o : Nat} {v : Value} (h : W.cell? ⟨b, o, none⟩ = some v) : ∃ ob : Obj, W.heap[b]? = some ob ∧ ob.isCells = true := by
  unfold World.cell? at h
  simp only at h
  cases hb : W.heap[b]? with
  | none => rw [hb] at h; simp at h
  | some ob =>
    rw [hb] at h
    cases ob with
    | cells cs T fr => exact ⟨_, rfl, rfl⟩
    | _ => simp at h
theorem ints_soft {w : World} {v : Value} {zs : List Int} {bl : List Nat} (h : (Lay.sl Lay.int).Own w [v] zs bl) : ∃ bl', (Lay.sl Lay.int).lies w [v] zs bl' ∧ bl'.Nodup ∧ ∀ b ∈ bl', b ∈ bl ∧ SoftB w b := by
  obtain ⟨hl, hd, hf⟩ := h
  obtain ⟨ao, cap, h1, h2, h3, h4⟩ := Lay.lies_ints.1 hl
  by_cases h0 : zs = []
  · exact ⟨[], Lay.lies_ints.2 ⟨ao, cap, h1, h2, h3, Or.inl ⟨h0, rfl⟩⟩, by simp, by simp⟩
  · rcases h4 with ⟨h5, -⟩ | ⟨b, off, ha, hb, rfl, hc⟩
    · exact absurd h5 h0
    · refine ⟨[b], hl, hd, fun c hcc => ⟨hcc, ?_⟩⟩
      rw [List.mem_singleton.1 hcc]
      exact ⟨cells_of_cell (hc 0 (List.length_pos_iff.2 h0)), hf b (by simp)⟩
theorem write_soft {w : World} {cs : List Value} {x : DWrite} {lo hi : Nat} (h : Lay.tWrite.OwnIn w cs x lo hi) : ∃ bl, Lay.tWrite.lies w cs x bl ∧ bl.Nodup ∧ ∀ b ∈ bl, (lo ≤ b ∧ b < hi) ∧ SoftB w b := by
  obtain ⟨bl, ⟨hl, hd, hf⟩, hr⟩ := h
  obtain ⟨a2, d2, b2, rfl, rfl, q1, q2, q3, q4, q5⟩ := lies_Write.1 hl
  obtain ⟨bl', k1, k2, k3⟩ := ints_soft ⟨q3, hd, hf⟩
  exact ⟨bl', lies_Write.2 ⟨a2, d2, bl', rfl, rfl, q1, q2, k1, q4, q5⟩, k2, fun b hb => ⟨hr b (k3 b hb).1, (k3 b hb).2⟩⟩

/-- A row of writes of the call's own. -/
def Ws (W : World) (base : Nat) (v : Value) (xs : List DWrite) : Prop := ∃ rows bls, Grow Lay.tWrite W base 58 v rows xs bls ∧ bls.flatten.Nodup ∧ ∀ c ∈ bls.flatten, base ≤ c ∧ SoftB W c
theorem Ws.nil (W : World) (base : Nat) : Ws W base (.slice none 0 0) [] := ⟨[], [], Grow.nil (World.ownsRow_nil _ _ _ _), by simp, by simp⟩
theorem Ws.own {W : World} {base : Nat} {v : Value} {xs : List DWrite} (h : Ws W base v xs) (hn : xs.length ≤ 9223372036854775807) : (Lay.sl Lay.tWrite).OwnIn W [v] xs base W.heap.size := by
  obtain ⟨rows, bls, hG, hd, hs⟩ := h
  exact hG.toOwn hn hd fun c hc => ⟨(hs c hc).1, (hs c hc).2.2⟩
theorem Ws.keep {W W' : World} {base : Nat} {v : Value} {xs : List DWrite} (h : Ws W base v xs) (hk : ∀ c (o : Obj), base ≤ c → W.heap[c]? = some o → o.isCells = true → W'.heap[c]? = W.heap[c]?) : Ws W' base v xs := by
  obtain ⟨rows, bls, hG, hd, hs⟩ := h
  have hb : ∀ c ∈ bls.flatten, W'.heap[c]? = W.heap[c]? := fun c hc => by
    obtain ⟨h1, ⟨o, h2, h3⟩, -⟩ := hs c hc
    exact hk c o h1 h2 h3
  refine ⟨rows, bls, hG.kept ?_ hb, hd, fun c hc => ⟨(hs c hc).1, (hs c hc).2.keep (hb c hc)⟩⟩
  obtain ⟨h1, h2⟩ := hG.own
  refine ⟨h1, ?_⟩
  rcases h2 with h2 | ⟨gb, cap', cur, hv, hg, hh, r⟩
  · exact Or.inl h2
  · exact Or.inr ⟨gb, cap', cur, hv, hg, (hk gb _ hg hh rfl).trans hh, r⟩
theorem Ws.later {W W' : World} {base : Nat} {v : Value} {xs : List DWrite} (h : Ws W base v xs) (hb : Below W.heap.size W W') : Ws W' base v xs := h.keep fun c _ _ ho _ => hb.block c (Array.getElem?_eq_some_iff.1 ho).1
theorem Ws.form {W : World} {base : Nat} {v : Value} {xs : List DWrite} (h : Ws W base v xs) : ∃ ao cap, v = .slice ao xs.length cap := by
  obtain ⟨rows, bls, hG, -, -⟩ := h
  rcases hG.form with ⟨rfl, rfl⟩ | ⟨g, cap, rfl, -⟩
  · exact ⟨none, 0, rfl⟩
  · exact ⟨_, cap, rfl⟩
theorem Ws.block {W : World} {base : Nat} {v : Value} {xs : List DWrite} (h : Ws W base v xs) {c : Nat} (e : v.ownBlock = some c) : base ≤ c ∧ c < W.heap.size ∧ ∃ o : Obj, W.heap[c]? = some o ∧ o.isCells = true := by
  obtain ⟨rows, bls, hG, -, -⟩ := h
  refine ⟨(hG.own.lt c e).1, (hG.own.lt c e).2, ?_⟩
  obtain ⟨-, h2⟩ := hG.own
  rcases h2 with ⟨rfl, -⟩ | ⟨gb, cap', cur, rfl, hg, hh, -⟩
  · simp [Value.ownBlock] at e
  · obtain rfl : gb = c := by simpa [Value.ownBlock] using e
    exact ⟨_, hh, rfl⟩

end Go.Proofs.Ytipomhpimmnchaa

namespace Go.Proofs.Ytipomhpimmnchaa
open Go.RowKit

theorem bcell {W w1 : World} (hb : Below W.heap.size W w1) : (∀ b o, b < W.heap.size → w1.cell? ⟨b, o, none⟩ = W.cell? ⟨b, o, none⟩) ∧ (∀ b o, b < W.heap.size → w1.frozen? ⟨b, o, none⟩ = W.frozen? ⟨b, o, none⟩) :=
  ⟨fun b o h => hb.cell (p := ⟨b, o, none⟩) h, fun b o h => hb.frozen (p := ⟨b, o, none⟩) h⟩

/-- Two blocks of three cells that were laid ahead of a call are there behind it, and may be written. -/
theorem two_kept {w w1 : World} {T : TypeId} {x0 x1 x2 y0 y1 y2 : Value} (hb : Below ((w.alloc (.cells #[x0, x1, x2] T)).alloc (.cells #[y0, y1, y2] T)).heap.size ((w.alloc (.cells #[x0, x1, x2] T)).alloc (.cells #[y0, y1, y2] T)) w1) :
    (w1.cell? ⟨w.heap.size, 0, none⟩ = some x0 ∧ w1.cell? ⟨w.heap.size, 1, none⟩ = some x1 ∧ w1.cell? ⟨w.heap.size, 2, none⟩ = some x2) ∧
    (w1.cell? ⟨w.heap.size + 1, 0, none⟩ = some y0 ∧ w1.cell? ⟨w.heap.size + 1, 1, none⟩ = some y1 ∧ w1.cell? ⟨w.heap.size + 1, 2, none⟩ = some y2) ∧
    (∀ o, w1.frozen? ⟨w.heap.size, o, none⟩ = false) ∧ (∀ o, w1.frozen? ⟨w.heap.size + 1, o, none⟩ = false) := by
  refine ⟨⟨?_, ?_, ?_⟩, ⟨?_, ?_, ?_⟩, fun o => ?_, fun o => ?_⟩
  all_goals first | rw [hb.cell (by simp [World.size_alloc]; try omega)] | rw [hb.frozen (by simp [World.size_alloc]; try omega)]
  all_goals simp [go_sem]

/-- Three numbers as an array. -/
def arr3 (x y z : Int) : Value := .agg #[.int .i64 x, .int .i64 y, .int .i64 z]

theorem IsInts.three {w : World} {v : Value} {zs : List Int} (h : IsInts w v zs) (h3 : zs.length = 3) :
    ∃ b off cap x y z, zs = [x, y, z] ∧ v = .slice (some ⟨b, off, none⟩) 3 cap ∧ b < w.heap.size ∧ w.cell? ⟨b, off, none⟩ = some (.int .i64 x) ∧ w.cell? ⟨b, off + 1, none⟩ = some (.int .i64 y) ∧ w.cell? ⟨b, off + 2, none⟩ = some (.int .i64 z) := by
  obtain ⟨ao, cap, rfl, hwf, hc⟩ := h
  match zs, h3 with
  | [x, y, z], _ =>
    obtain ⟨b, off, rfl, hc1⟩ := hc (by simp)
    have c0 := hc1 0 (by simp)
    have c1 := hc1 1 (by simp)
    have c2 := hc1 2 (by simp)
    exact ⟨b, off, cap, x, y, z, rfl, rfl, World.block_lt_of_cell? _ _ c0, by simpa using c0, by simpa using c1, by simpa using c2⟩

set_option maxHeartbeats 400000 in
theorem vectorOf_bad (v : Value) (zs : List Int) (w : World) (h : IsInts w v zs) (hf : vecFault zs ≠ 0) :
    Calls Try.prog 99 #[v] w fun e w' => e = .returned (.tuple #[arr3 0 0 0, .int .i64 (vecFault zs)]) ∧ Below w.heap.size w w' := by
  go_enter Try.func99, Try.ntmps99
  go_wp2_with fail
  refine (implFault v zs _ (h.later (((Below.refl _ _).alloc (Nat.le_refl _) _).alloc (by simp) _))).mono ?_
  rintro e w' ⟨rfl, rfl⟩
  have hne : (vecFault zs != 0) = true := by rw [bne_iff_ne]; exact hf
  go_wp2_with fail
  refine bodyPost_ret (v := .tuple #[arr3 0 0 0, .int .i64 (vecFault zs)]) (by simp [results, Try.results99, go_sem, arr3]) rfl ⟨rfl, ?_⟩
  exact ((Below.refl _ _).alloc (Nat.le_refl _) _).alloc (by simp) _

set_option maxHeartbeats 1000000 in
theorem vectorOf_three (b off cap : Nat) (x y z : Int) (w : World) (hbl : b < w.heap.size) (c0 : w.cell? ⟨b, off, none⟩ = some (.int .i64 x)) (c1 : w.cell? ⟨b, off + 1, none⟩ = some (.int .i64 y)) (c2 : w.cell? ⟨b, off + 2, none⟩ = some (.int .i64 z))
    (h : IsInts w (.slice (some ⟨b, off, none⟩) 3 cap) [x, y, z]) (hf : vecFault [x, y, z] = 0) :
    Calls Try.prog 99 #[.slice (some ⟨b, off, none⟩) 3 cap] w fun e w' => e = .returned (.tuple #[arr3 x y z, .int .i64 0]) ∧ Below w.heap.size w w' := by
  go_enter Try.func99, Try.ntmps99
  go_wp2_with fail
  refine (implFault _ [x, y, z] _ (h.later (((Below.refl _ _).alloc (Nat.le_refl _) _).alloc (by simp) _))).mono ?_
  rintro e w' ⟨rfl, rfl⟩
  rw [hf]
  clear h hf
  go_wp2_with fail
  refine wp_loop_rounds 4 ?_
  rw [rounds_succ]
  go_wp2
  rw [rounds_succ]
  go_wp2
  rw [rounds_succ]
  go_wp2
  rw [rounds_succ]
  go_wp2
  refine bodyPost_ret (v := .tuple #[arr3 x y z, .int .i64 0]) (by simp [results, Try.results99, go_sem, arr3]) rfl ⟨rfl, ?_⟩
  exact ((Below.refl _ _).alloc (Nat.le_refl _) _).alloc (by simp) _

theorem vectorOf_ok (v : Value) (x y z : Int) (w : World) (h : IsInts w v [x, y, z]) (hf : vecFault [x, y, z] = 0) :
    Calls Try.prog 99 #[v] w fun e w' => e = .returned (.tuple #[arr3 x y z, .int .i64 0]) ∧ Below w.heap.size w w' := by
  obtain ⟨b, off, cap, x', y', z', he, rfl, hbl, c0, c1, c2⟩ := h.three rfl
  simp only [List.cons.injEq, and_true] at he
  obtain ⟨rfl, rfl, rfl⟩ := he
  exact vectorOf_three b off cap x y z w hbl c0 c1 c2 h hf

end Go.Proofs.Ytipomhpimmnchaa

namespace Go.Proofs.Ytipomhpimmnchaa
open Go.RowKit

/-- A put of three parts, and a drop, as deeds. -/
def putV (x y z : Int) : Value := .iface 123 (.agg #[.int .i64 x, .int .i64 y, .int .i64 z])
def dropV : Value := .iface 119 (.agg #[])
def deedV (k : Int) (zs : List Int) : Value := if k = 1 then putV (zs.getD 0 0) (zs.getD 1 0) (zs.getD 2 0) else dropV
def deedRes (k i : Int) (zs : List Int) (s q : Int) : Value := if writeFault k i zs s q = 0 then deedV k zs else .nilIface

def Bds (i s q : Int) : Prop := (1 ≤ i ∧ i ≤ 999) ∧ (1 ≤ s ∧ s ≤ 9) ∧ 1 ≤ q ∧ q ≤ 999
theorem bound_yes {i s q : Int} (h : Bds i s q) : boundB i s q = true := by
  obtain ⟨⟨a, b⟩, ⟨c, d⟩, e, f⟩ := h
  simp [boundB, a, b, c, d, e, f]
theorem bound_no {i s q : Int} (h : ¬ Bds i s q) : boundB i s q = false := by
  rw [Bool.eq_false_iff]
  intro hb
  simp only [boundB, Bool.and_eq_true, decide_eq_true_eq] at hb
  exact h ⟨hb.1, hb.2.1, hb.2.2⟩
theorem fault_out {k i s q : Int} {zs : List Int} (hk : kindB k zs.length = true) (h : ¬ Bds i s q) : writeFault k i zs s q = 3 := by
  rw [writeFault, hk, if_pos rfl, bound_no h]; rfl
theorem fault_drop {i s q : Int} (h : Bds i s q) : writeFault 2 i [] s q = 0 := by
  rw [writeFault, show kindB 2 ([] : List Int).length = true from rfl, if_pos rfl, bound_yes h]; rfl
theorem fault_in {k i s q : Int} {zs : List Int} (hk : kindB k zs.length = true) (h : Bds i s q) : writeFault k i zs s q = if k = 1 then vecFault zs else 0 := by
  rw [writeFault, hk, if_pos rfl, bound_yes h, if_pos rfl]

def ToldDeed (w w' : World) (e : Ending) (k i : Int) (zs : List Int) (s q : Int) : Prop := e = .returned (.tuple #[deedRes k i zs s q, .int .i64 (writeFault k i zs s q)]) ∧ Below w.heap.size w w'
theorem toldDeed_bad {w w' : World} {k i s q c : Int} {zs : List Int} (hc : writeFault k i zs s q = c) (h0 : c ≠ 0) (hb : Below w.heap.size w w') : ToldDeed w w' (.returned (.tuple #[.nilIface, .int .i64 c])) k i zs s q := by
  refine ⟨?_, hb⟩
  rw [deedRes, hc, if_neg h0]
theorem toldDeed_ok {w w' : World} {k i s q : Int} {zs : List Int} {v : Value} (hc : writeFault k i zs s q = 0) (hv : v = deedV k zs) (hb : Below w.heap.size w w') : ToldDeed w w' (.returned (.tuple #[v, .int .i64 0])) k i zs s q := by
  refine ⟨?_, hb⟩
  rw [deedRes, hc, if_pos rfl, hv]

theorem isIdC (n : Int) (w : World) : Calls Try.prog 96 #[.int .i64 n] w fun e w' => e = .returned (.bool (decide (1 ≤ n) && decide (n ≤ 999))) ∧ w' = w := by
  by_cases h1 : 1 ≤ n
  · have d1 : decide (1 ≤ n) = true := by simpa using h1
    rw [d1]
    cases d2 : decide (n ≤ 999) <;>
    · go_enter Try.func96, Try.ntmps96
      go_wp2
      go_ret
      exact ⟨rfl, rfl⟩
  · have d1 : decide (1 ≤ n) = false := by simpa using h1
    rw [d1]
    go_enter Try.func96, Try.ntmps96
    go_wp2
    go_ret
    exact ⟨rfl, rfl⟩
theorem isSessionC (n : Int) (w : World) : Calls Try.prog 97 #[.int .i64 n] w fun e w' => e = .returned (.bool (decide (1 ≤ n) && decide (n ≤ 9))) ∧ w' = w := by
  by_cases h1 : 1 ≤ n
  · have d1 : decide (1 ≤ n) = true := by simpa using h1
    rw [d1]
    cases d2 : decide (n ≤ 9) <;>
    · go_enter Try.func97, Try.ntmps97
      go_wp2
      go_ret
      exact ⟨rfl, rfl⟩
  · have d1 : decide (1 ≤ n) = false := by simpa using h1
    rw [d1]
    go_enter Try.func97, Try.ntmps97
    go_wp2
    go_ret
    exact ⟨rfl, rfl⟩
theorem isSeqC (n : Int) (w : World) : Calls Try.prog 98 #[.int .i64 n] w fun e w' => e = .returned (.bool (decide (1 ≤ n) && decide (n ≤ 999))) ∧ w' = w := by
  by_cases h1 : 1 ≤ n
  · have d1 : decide (1 ≤ n) = true := by simpa using h1
    rw [d1]
    cases d2 : decide (n ≤ 999) <;>
    · go_enter Try.func98, Try.ntmps98
      go_wp2
      go_ret
      exact ⟨rfl, rfl⟩
  · have d1 : decide (1 ≤ n) = false := by simpa using h1
    rw [d1]
    go_enter Try.func98, Try.ntmps98
    go_wp2
    go_ret
    exact ⟨rfl, rfl⟩

set_option maxHeartbeats 2000000 in
theorem deedOf_put_out (i : Int) (ao : Option Addr) (cap : Nat) (s q : Int) (zs : List Int) (w : World) (hb : ¬ Bds i s q) :
    Calls Try.prog 84 #[.agg #[.int .i64 1, .int .i64 i, .slice ao zs.length cap, .int .i64 s, .int .i64 q]] w fun e w' => ToldDeed w w' e 1 i zs s q := by
  have HB : Hid (∀ o, Below w.heap.size w (w.alloc o)) := fun o => (Below.refl _ _).alloc (Nat.le_refl _) o
  have HF : Hid (writeFault 1 i zs s q = 3) := fault_out rfl hb
  have hbb := bound_no hb
  unfold boundB at hbb
  clear hb
  cases dI : (decide (1 ≤ i) && decide (i ≤ 999)) with
  | false =>
    clear hbb
    go_enter Try.func84, Try.ntmps84
    go_wp2_with fail
    refine (isIdC i _).mono ?_
    rintro e w1 ⟨rfl, rfl⟩
    rw [dI]
    go_wp2_with fail
    go_ret2
    exact toldDeed_bad (unhide HF) (by omega) (unhide HB _)
  | true =>
    cases dS : (decide (1 ≤ s) && decide (s ≤ 9)) with
    | false =>
      clear hbb
      go_enter Try.func84, Try.ntmps84
      go_wp2_with fail
      refine (isIdC i _).mono ?_
      rintro e w1 ⟨rfl, rfl⟩
      rw [dI]
      go_wp2_with fail
      refine (isSessionC s _).mono ?_
      rintro e w1 ⟨rfl, rfl⟩
      rw [dS]
      go_wp2_with fail
      go_ret2
      exact toldDeed_bad (unhide HF) (by omega) (unhide HB _)
    | true =>
      have dQ : (decide (1 ≤ q) && decide (q ≤ 999)) = false := by rw [dI, dS] at hbb; simpa using hbb
      clear hbb
      go_enter Try.func84, Try.ntmps84
      go_wp2_with fail
      refine (isIdC i _).mono ?_
      rintro e w1 ⟨rfl, rfl⟩
      rw [dI]
      go_wp2_with fail
      refine (isSessionC s _).mono ?_
      rintro e w1 ⟨rfl, rfl⟩
      rw [dS]
      go_wp2_with fail
      refine (isSeqC q _).mono ?_
      rintro e w1 ⟨rfl, rfl⟩
      rw [dQ]
      go_wp2_with fail
      go_ret2
      exact toldDeed_bad (unhide HF) (by omega) (unhide HB _)

set_option maxHeartbeats 2000000 in
theorem deedOf_drop_out (i : Int) (ao : Option Addr) (cap : Nat) (s q : Int) (w : World) (hb : ¬ Bds i s q) :
    Calls Try.prog 84 #[.agg #[.int .i64 2, .int .i64 i, .slice ao 0 cap, .int .i64 s, .int .i64 q]] w fun e w' => ToldDeed w w' e 2 i [] s q := by
  have HB : Hid (∀ o, Below w.heap.size w (w.alloc o)) := fun o => (Below.refl _ _).alloc (Nat.le_refl _) o
  have HF : Hid (writeFault 2 i [] s q = 3) := fault_out rfl hb
  have hbb := bound_no hb
  unfold boundB at hbb
  clear hb
  cases dI : (decide (1 ≤ i) && decide (i ≤ 999)) with
  | false =>
    clear hbb
    go_enter Try.func84, Try.ntmps84
    go_wp2_with fail
    refine (isIdC i _).mono ?_
    rintro e w1 ⟨rfl, rfl⟩
    rw [dI]
    go_wp2_with fail
    go_ret2
    exact toldDeed_bad (unhide HF) (by omega) (unhide HB _)
  | true =>
    cases dS : (decide (1 ≤ s) && decide (s ≤ 9)) with
    | false =>
      clear hbb
      go_enter Try.func84, Try.ntmps84
      go_wp2_with fail
      refine (isIdC i _).mono ?_
      rintro e w1 ⟨rfl, rfl⟩
      rw [dI]
      go_wp2_with fail
      refine (isSessionC s _).mono ?_
      rintro e w1 ⟨rfl, rfl⟩
      rw [dS]
      go_wp2_with fail
      go_ret2
      exact toldDeed_bad (unhide HF) (by omega) (unhide HB _)
    | true =>
      have dQ : (decide (1 ≤ q) && decide (q ≤ 999)) = false := by rw [dI, dS] at hbb; simpa using hbb
      clear hbb
      go_enter Try.func84, Try.ntmps84
      go_wp2_with fail
      refine (isIdC i _).mono ?_
      rintro e w1 ⟨rfl, rfl⟩
      rw [dI]
      go_wp2_with fail
      refine (isSessionC s _).mono ?_
      rintro e w1 ⟨rfl, rfl⟩
      rw [dS]
      go_wp2_with fail
      refine (isSeqC q _).mono ?_
      rintro e w1 ⟨rfl, rfl⟩
      rw [dQ]
      go_wp2_with fail
      go_ret2
      exact toldDeed_bad (unhide HF) (by omega) (unhide HB _)

set_option maxHeartbeats 2000000 in
theorem deedOf_drop (i : Int) (ao : Option Addr) (cap : Nat) (s q : Int) (w : World) (hb : Bds i s q) :
    Calls Try.prog 84 #[.agg #[.int .i64 2, .int .i64 i, .slice ao 0 cap, .int .i64 s, .int .i64 q]] w fun e w' => ToldDeed w w' e 2 i [] s q := by
  have HB : Hid (∀ o, Below w.heap.size w (w.alloc o)) := fun o => (Below.refl _ _).alloc (Nat.le_refl _) o
  have HF : Hid (writeFault 2 i [] s q = 0) := fault_drop hb
  obtain ⟨⟨i1, i2⟩, ⟨s1, s2⟩, q1, q2⟩ := hb
  have dI : (decide (1 ≤ i) && decide (i ≤ 999)) = true := by simp [i1, i2]
  have dS : (decide (1 ≤ s) && decide (s ≤ 9)) = true := by simp [s1, s2]
  have dQ : (decide (1 ≤ q) && decide (q ≤ 999)) = true := by simp [q1, q2]
  go_enter Try.func84, Try.ntmps84
  go_wp2_with fail
  refine (isIdC i _).mono ?_
  rintro e w1 ⟨rfl, rfl⟩
  rw [dI]
  go_wp2_with fail
  refine (isSessionC s _).mono ?_
  rintro e w1 ⟨rfl, rfl⟩
  rw [dS]
  go_wp2_with fail
  refine (isSeqC q _).mono ?_
  rintro e w1 ⟨rfl, rfl⟩
  rw [dQ]
  go_wp2_with fail
  go_ret2
  exact toldDeed_ok (unhide HF) rfl (unhide HB _)

set_option maxHeartbeats 1000000 in
theorem deedOf_many (i : Int) (ao : Option Addr) (cap n : Nat) (s q : Int) (zs : List Int) (w : World) (hn : zs.length = n + 1) :
    Calls Try.prog 84 #[.agg #[.int .i64 2, .int .i64 i, .slice ao (n + 1) cap, .int .i64 s, .int .i64 q]] w fun e w' => ToldDeed w w' e 2 i zs s q := by
  have B0 : ∀ o, Below w.heap.size w (w.alloc o) := fun o => (Below.refl _ _).alloc (Nat.le_refl _) o
  have HB := hide B0
  have hF : writeFault 2 i zs s q = 1 := by
    have : kindB 2 zs.length = false := by simp [kindB]; omega
    rw [writeFault, this]; rfl
  have HF := hide hF
  clear B0 hF hn
  go_enter Try.func84, Try.ntmps84
  go_wp2
  go_ret2
  exact toldDeed_bad (unhide HF) (by omega) (unhide HB _)

set_option maxHeartbeats 1000000 in
theorem deedOf_none (k i : Int) (ao : Option Addr) (cap : Nat) (s q : Int) (zs : List Int) (w : World) (h1 : k ≠ 1) (h2 : k ≠ 2) :
    Calls Try.prog 84 #[.agg #[.int .i64 k, .int .i64 i, .slice ao zs.length cap, .int .i64 s, .int .i64 q]] w fun e w' => ToldDeed w w' e k i zs s q := by
  have B0 : ∀ o, Below w.heap.size w (w.alloc o) := fun o => (Below.refl _ _).alloc (Nat.le_refl _) o
  have HB := hide B0
  have hF : writeFault k i zs s q = 1 := by
    have : kindB k zs.length = false := by simp [kindB]; omega
    rw [writeFault, this]; rfl
  have HF := hide hF
  clear B0 hF
  go_enter Try.func84, Try.ntmps84
  go_wp2
  go_ret2
  exact toldDeed_bad (unhide HF) (by omega) (unhide HB _)

theorem vectorOf_any (v : Value) (zs : List Int) (w : World) (h : IsInts w v zs) :
    Calls Try.prog 99 #[v] w fun e w' => e = .returned (.tuple #[if vecFault zs = 0 then arr3 (zs.getD 0 0) (zs.getD 1 0) (zs.getD 2 0) else arr3 0 0 0, .int .i64 (vecFault zs)]) ∧ Below w.heap.size w w' := by
  by_cases hf : vecFault zs = 0
  · obtain ⟨hl, -⟩ := vecFault_zero hf
    match zs, hl with
    | [x, y, z], _ =>
      rw [if_pos hf]
      refine (vectorOf_ok v x y z w h hf).mono ?_
      rintro e w' ⟨rfl, hb⟩
      exact ⟨by rw [hf]; rfl, hb⟩
  · rw [if_neg hf]
    exact vectorOf_bad v zs w h hf

set_option maxHeartbeats 2000000 in
theorem deedOf_put (i : Int) (ao : Option Addr) (cap : Nat) (s q : Int) (zs : List Int) (w : World) (h : IsInts w (.slice ao zs.length cap) zs) (hb : Bds i s q) :
    Calls Try.prog 84 #[.agg #[.int .i64 1, .int .i64 i, .slice ao zs.length cap, .int .i64 s, .int .i64 q]] w fun e w' => ToldDeed w w' e 1 i zs s q := by
  have B0 : Below w.heap.size w (w.alloc (.cells #[.int .i64 1, .int .i64 i, .slice ao zs.length cap, .int .i64 s, .int .i64 q] 58)) := (Below.refl _ _).alloc (Nat.le_refl _) _
  have HB := hide B0
  have H := hide (h.later B0)
  clear h B0
  have HF : Hid (writeFault 1 i zs s q = vecFault zs) := fault_in rfl hb
  obtain ⟨⟨i1, i2⟩, ⟨s1, s2⟩, q1, q2⟩ := hb
  have dI : (decide (1 ≤ i) && decide (i ≤ 999)) = true := by simp [i1, i2]
  have dS : (decide (1 ≤ s) && decide (s ≤ 9)) = true := by simp [s1, s2]
  have dQ : (decide (1 ≤ q) && decide (q ≤ 999)) = true := by simp [q1, q2]
  go_enter Try.func84, Try.ntmps84
  go_wp2_with fail
  refine (isIdC i _).mono ?_
  rintro e w1 ⟨rfl, rfl⟩
  rw [dI]
  go_wp2_with fail
  refine (isSessionC s _).mono ?_
  rintro e w1 ⟨rfl, rfl⟩
  rw [dS]
  go_wp2_with fail
  refine (isSeqC q _).mono ?_
  rintro e w1 ⟨rfl, rfl⟩
  rw [dQ]
  go_wp2_with fail
  refine (vectorOf_any _ zs _ (unhide H)).mono ?_
  rintro e w1 ⟨rfl, hb1⟩
  have HB1 := hide ((unhide HB).trans (hb1.mono (unhide HB).size))
  have hz : w.heap.size ≤ w1.heap.size := (unhide HB1).size
  clear HB hb1 H
  generalize hV : vecFault zs = F at *
  by_cases hf : F = 0
  · subst hf
    rw [if_pos rfl]
    simp only [arr3]
    go_wp2_with fail
    go_ret2
    refine toldDeed_ok (unhide HF) ?_ ?_
    · rw [deedV, if_pos rfl]; rfl
    · exact (unhide HB1).alloc hz _
  · rw [if_neg hf]
    have hd : (F != 0) = true := by rw [bne_iff_ne]; exact hf
    have HN := hide hf
    clear hf
    simp only [arr3]
    go_wp2_with fail
    go_ret2
    exact toldDeed_bad (unhide HF) (unhide HN) ((unhide HB1).alloc hz _)

/-- deedOf of the program. -/
theorem implDeed (k i : Int) (v : Value) (s q : Int) (zs : List Int) (w : World) (h : IsInts w v zs) :
    Calls Try.prog 84 #[.agg #[.int .i64 k, .int .i64 i, v, .int .i64 s, .int .i64 q]] w fun e w' => ToldDeed w w' e k i zs s q := by
  have h' := h
  obtain ⟨ao, cap, rfl, -⟩ := h'
  by_cases h1 : k = 1
  · subst h1
    by_cases hb : Bds i s q
    · exact deedOf_put i ao cap s q zs w h hb
    · exact deedOf_put_out i ao cap s q zs w hb
  · by_cases h2 : k = 2
    · subst h2
      rcases Nat.eq_zero_or_pos zs.length with h0 | h0
      · obtain rfl : zs = [] := List.eq_nil_of_length_eq_zero h0
        by_cases hb : Bds i s q
        · exact deedOf_drop i ao cap s q w hb
        · exact deedOf_drop_out i ao cap s q w hb
      · obtain ⟨n, hn⟩ : ∃ n, zs.length = n + 1 := ⟨zs.length - 1, by omega⟩
        rw [hn]
        exact deedOf_many i ao cap n s q zs w hn
    · exact deedOf_none k i ao cap s q zs w h1 h2

end Go.Proofs.Ytipomhpimmnchaa

namespace Go.Proofs.Ytipomhpimmnchaa
open Go.RowKit

theorem assertPut (v : Value) (w : World) : (Instr.typeAssert (.iface 123 v) 106 123 true).run Try.prog w = .ok (.tuple #[v, .bool true]) w := by kernel_rfl
theorem assertDrop (v : Value) (w : World) : (Instr.typeAssert (.iface 119 v) 106 123 true).run Try.prog w = .ok (.tuple #[.agg #[.int .i64 0, .int .i64 0, .int .i64 0], .bool false]) w := by kernel_rfl

theorem partsPut (x y z : Int) (w : World) : Calls Try.prog 85 #[putV x y z] w fun e w' => e = .returned (arr3 x y z) ∧ Below w.heap.size w w' := by
  simp only [putV]
  have a1 := assertPut
  have HB : Hid (∀ o p, Below w.heap.size w ((w.alloc o).alloc p)) := fun o p => ((Below.refl _ _).alloc (Nat.le_refl _) o).alloc (by simp) p
  go_enter Try.func85, Try.ntmps85
  go_wp2
  refine bodyPost_ret (v := arr3 x y z) (by simp [results, Try.results85, go_sem, arr3]) rfl ⟨rfl, ?_⟩
  exact unhide HB _ _
theorem partsDrop (w : World) : Calls Try.prog 85 #[dropV] w fun e w' => e = .returned (arr3 0 0 0) ∧ Below w.heap.size w w' := by
  simp only [dropV]
  have a1 := assertDrop
  go_enter Try.func85, Try.ntmps85
  go_wp2
  refine bodyPost_ret (v := arr3 0 0 0) (by simp [results, Try.results85, go_sem, arr3]) rfl ⟨rfl, ?_⟩
  exact (Below.refl _ _).alloc (Nat.le_refl _) _
set_option maxHeartbeats 1000000 in
theorem sealC (g cap : Nat) (a b c d x y z : Int) (w : World)
    (c0 : w.cell? ⟨g, 0, none⟩ = some (.int .i64 a)) (c1 : w.cell? ⟨g, 1, none⟩ = some (.int .i64 b)) (c2 : w.cell? ⟨g, 2, none⟩ = some (.int .i64 c)) (c3 : w.cell? ⟨g, 3, none⟩ = some (.int .i64 d))
    (c4 : w.cell? ⟨g, 4, none⟩ = some (.int .i64 x)) (c5 : w.cell? ⟨g, 5, none⟩ = some (.int .i64 y)) (c6 : w.cell? ⟨g, 6, none⟩ = some (.int .i64 z))
    (ba : 1 ≤ a ∧ a ≤ 2) (bb : 1 ≤ b ∧ b ≤ 999) (bc : 1 ≤ c ∧ c ≤ 9) (bd : 1 ≤ d ∧ d ≤ 999) (bx : -1000 ≤ x ∧ x ≤ 1000) (bY : -1000 ≤ y ∧ y ≤ 1000) (bz : -1000 ≤ z ∧ z ≤ 1000) :
    Calls Try.prog 86 #[.slice (some ⟨g, 0, none⟩) 7 cap] w fun e w' => e = .returned (.int .i64 (checkOf (packSum a b c d x y z))) ∧ Below w.heap.size w w' := by
  have hgl : g < w.heap.size := World.block_lt_of_cell? _ _ c0
  obtain ⟨a1, a2⟩ := ba
  obtain ⟨b1, b2⟩ := bb
  obtain ⟨e1, e2⟩ := bc
  obtain ⟨d1, d2⟩ := bd
  obtain ⟨m1, m2⟩ := bx
  obtain ⟨m3, m4⟩ := bY
  obtain ⟨m5, m6⟩ := bz
  have x0 : ∀ w : World, (Instr.index 124 (.agg #[.int .i64 1, .int .i64 3, .int .i64 5, .int .i64 7, .int .i64 11, .int .i64 13, .int .i64 17]) (.int .i64 0)).run Try.prog w = .ok (.int .i64 1) w := fun _ => by kernel_rfl
  have x1 : ∀ w : World, (Instr.index 124 (.agg #[.int .i64 1, .int .i64 3, .int .i64 5, .int .i64 7, .int .i64 11, .int .i64 13, .int .i64 17]) (.int .i64 1)).run Try.prog w = .ok (.int .i64 3) w := fun _ => by kernel_rfl
  have x2 : ∀ w : World, (Instr.index 124 (.agg #[.int .i64 1, .int .i64 3, .int .i64 5, .int .i64 7, .int .i64 11, .int .i64 13, .int .i64 17]) (.int .i64 2)).run Try.prog w = .ok (.int .i64 5) w := fun _ => by kernel_rfl
  have x3 : ∀ w : World, (Instr.index 124 (.agg #[.int .i64 1, .int .i64 3, .int .i64 5, .int .i64 7, .int .i64 11, .int .i64 13, .int .i64 17]) (.int .i64 3)).run Try.prog w = .ok (.int .i64 7) w := fun _ => by kernel_rfl
  have x4 : ∀ w : World, (Instr.index 124 (.agg #[.int .i64 1, .int .i64 3, .int .i64 5, .int .i64 7, .int .i64 11, .int .i64 13, .int .i64 17]) (.int .i64 4)).run Try.prog w = .ok (.int .i64 11) w := fun _ => by kernel_rfl
  have x5 : ∀ w : World, (Instr.index 124 (.agg #[.int .i64 1, .int .i64 3, .int .i64 5, .int .i64 7, .int .i64 11, .int .i64 13, .int .i64 17]) (.int .i64 5)).run Try.prog w = .ok (.int .i64 13) w := fun _ => by kernel_rfl
  have x6 : ∀ w : World, (Instr.index 124 (.agg #[.int .i64 1, .int .i64 3, .int .i64 5, .int .i64 7, .int .i64 11, .int .i64 13, .int .i64 17]) (.int .i64 6)).run Try.prog w = .ok (.int .i64 17) w := fun _ => by kernel_rfl
  go_enter Try.func86, Try.ntmps86
  go_wp2
  refine wp_loop_rounds 8 ?_
  rw [rounds_succ]
  go_wp2
  rw [rounds_succ]
  go_wp2
  rw [rounds_succ]
  go_wp2
  rw [rounds_succ]
  go_wp2
  rw [rounds_succ]
  go_wp2
  rw [rounds_succ]
  go_wp2
  rw [rounds_succ]
  go_wp2
  rw [rounds_succ]
  go_wp2
  go_ret
  refine ⟨?_, (Below.refl _ _).alloc (Nat.le_refl _) _⟩
  have hT := tmod_bd (a + 3 * b + 5 * c + 7 * d + 11 * x + 13 * y + 17 * z)
  have hW : wrap64 ((a + 3 * b + 5 * c + 7 * d + 11 * x + 13 * y + 17 * z).tmod 997 + 997) = (a + 3 * b + 5 * c + 7 * d + 11 * x + 13 * y + 17 * z).tmod 997 + 997 := by
    unfold wrap64
    omega
  simp [checkOf, packSum, hW]

theorem partsC (k : Int) (zs : List Int) (w : World) : Calls Try.prog 85 #[deedV k zs] w fun e w' => e = .returned (arr3 ((partsOf k zs).getD 0 0) ((partsOf k zs).getD 1 0) ((partsOf k zs).getD 2 0)) ∧ Below w.heap.size w w' := by
  by_cases hk : k = 1
  · simp only [deedV, partsOf, if_pos hk]
    exact partsPut _ _ _ w
  · simp only [deedV, partsOf, if_neg hk]
    exact partsDrop w

theorem partsBd {k i s q : Int} {zs : List Int} (h : writeFault k i zs s q = 0) : ∀ j, -1000 ≤ (partsOf k zs).getD j 0 ∧ (partsOf k zs).getD j 0 ≤ 1000 := by
  intro j
  obtain ⟨-, -, -, hk⟩ := writeFault_zero h
  rcases hk with ⟨rfl, hv⟩ | ⟨rfl, rfl⟩
  · obtain ⟨hl, -⟩ := vecFault_zero hv
    match zs, hl with
    | [x, y, z], _ =>
    obtain ⟨b1, b2, b3⟩ := fault3 hv
    rw [partsOf, if_pos rfl]
    match j with
    | 0 => exact b1
    | 1 => exact b2
    | 2 => exact b3
    | n + 3 => simp
  · rw [partsOf, if_neg (by omega)]
    match j with
    | 0 => simp
    | 1 => simp
    | 2 => simp
    | n + 3 => simp

set_option maxHeartbeats 2000000 in
theorem packOk (k i : Int) (ao : Option Addr) (cap : Nat) (s q : Int) (zs : List Int) (w : World) (h : IsInts w (.slice ao zs.length cap) zs) (hf : writeFault k i zs s q = 0) :
    Calls Try.prog 55 #[.agg #[.int .i64 k, .int .i64 i, .slice ao zs.length cap, .int .i64 s, .int .i64 q]] w fun e w' => ToldInts w w' e 0 (wordsOf k i zs s q) := by
  have B0 : Below w.heap.size w ((w.alloc (.cells #[.int .i64 k, .int .i64 i, .slice ao zs.length cap, .int .i64 s, .int .i64 q] 58)).alloc (.cells #[.int .i64 0, .slice none 0 0] 26)) := ((Below.refl _ _).alloc (Nat.le_refl _) _).alloc (by simp) _
  have bA : Box w.heap.size #[.int .i64 k, .int .i64 i, .slice ao zs.length cap, .int .i64 s, .int .i64 q] 58 ((w.alloc (.cells #[.int .i64 k, .int .i64 i, .slice ao zs.length cap, .int .i64 s, .int .i64 q] 58)).alloc (.cells #[.int .i64 0, .slice none 0 0] 26)) w.heap.size := (newBox (Nat.le_refl _)).alloc _
  have bR : Box w.heap.size #[.int .i64 0, .slice none 0 0] 26 ((w.alloc (.cells #[.int .i64 k, .int .i64 i, .slice ao zs.length cap, .int .i64 s, .int .i64 q] 58)).alloc (.cells #[.int .i64 0, .slice none 0 0] 26)) (w.heap.size + 1) := by
    have := newBox (lo := w.heap.size) (cs := #[.int .i64 0, .slice none 0 0]) (T := 26) (W := w.alloc (.cells #[.int .i64 k, .int .i64 i, .slice ao zs.length cap, .int .i64 s, .int .i64 q] 58)) (by simp)
    simpa using this
  have hz0 : ((w.alloc (.cells #[.int .i64 k, .int .i64 i, .slice ao zs.length cap, .int .i64 s, .int .i64 q] 58)).alloc (.cells #[.int .i64 0, .slice none 0 0] 26)).heap.size = w.heap.size + 2 := by simp
  have L := hide (implDeed k i _ s q zs _ (h.later B0))
  have hd : deedRes k i zs s q = deedV k zs := by rw [deedRes, if_pos hf]
  have HW : Hid (wordsOf k i zs s q = [k, i, s, q, (partsOf k zs).getD 0 0, (partsOf k zs).getD 1 0, (partsOf k zs).getD 2 0, checkOf (packSum k i s q ((partsOf k zs).getD 0 0) ((partsOf k zs).getD 1 0) ((partsOf k zs).getD 2 0))]) := rfl
  have PB := partsBd hf
  obtain ⟨i1, s1, q1, hk⟩ := writeFault_zero hf
  have k1 : 1 ≤ k ∧ k ≤ 2 := by omega
  have HD := hide hd
  have HF := hide hf
  clear h hd hf hk
  go_enter Try.func55, Try.ntmps55
  go_wp2_with fail
  generalize (w.alloc (.cells #[.int .i64 k, .int .i64 i, .slice ao zs.length cap, .int .i64 s, .int .i64 q] 58)).alloc (.cells #[.int .i64 0, .slice none 0 0] 26) = W0 at *
  refine (unhide L).mono ?_
  rintro e w1 ⟨rfl, hb1⟩
  rw [unhide HD, unhide HF]
  replace bA := bA.keep hb1
  replace bR := bR.keep hb1
  have HB1 := hide (B0.trans (hb1.mono B0.size))
  have hz1 : w.heap.size + 2 ≤ w1.heap.size := by have := hb1.size; omega
  clear hb1 B0 L HD HF
  obtain ⟨⟨a0, a1, a2, a3, a4⟩, -, al⟩ := bA.five
  obtain ⟨r0, r1, r2, r3⟩ := bR.two
  go_wp2_with fail
  have O1 : (w1.alloc (.cells #[.int .i64 k, .int .i64 i, .int .i64 s, .int .i64 q] 2)).ownsRow w1.heap.size 2 1 (.slice (some ⟨w1.heap.size, 0, none⟩) 4 4) 4 ([.int .i64 k, .int .i64 i, .int .i64 s, .int .i64 q]) := World.ownsRow_lit w1 _ 4 (Nat.le_refl _) (by unfold maxLen; omega) rfl
  refine (partsC k zs _).mono ?_
  rintro e w2 ⟨rfl, hb2⟩
  replace O1 := own_below O1 hb2
  have nb1 : Below w1.heap.size w1 (w1.alloc (.cells #[.int .i64 k, .int .i64 i, .int .i64 s, .int .i64 q] 2)) := (Below.refl _ _).alloc (Nat.le_refl _) _
  have HB2 := hide (nb1.trans (hb2.mono nb1.size))
  have hz2 : w1.heap.size < w2.heap.size := by have := hb2.size; simp at this; omega
  clear hb2 nb1 a0 a1 a2 a3 a4 r0 r1 r2 r3 bA
  have P0 := PB 0
  have P1 := PB 1
  have P2 := PB 2
  generalize (partsOf k zs).getD 0 0 = x at *
  generalize (partsOf k zs).getD 1 0 = y at *
  generalize (partsOf k zs).getD 2 0 = z at *
  clear PB
  have j0 : ∀ w : World, (Instr.index 110 (.agg #[.int .i64 x, .int .i64 y, .int .i64 z]) (.int .i64 0)).run Try.prog w = .ok (.int .i64 x) w := fun _ => by kernel_rfl
  have j1 : ∀ w : World, (Instr.index 110 (.agg #[.int .i64 x, .int .i64 y, .int .i64 z]) (.int .i64 1)).run Try.prog w = .ok (.int .i64 y) w := fun _ => by kernel_rfl
  have j2 : ∀ w : World, (Instr.index 110 (.agg #[.int .i64 x, .int .i64 y, .int .i64 z]) (.int .i64 2)).run Try.prog w = .ok (.int .i64 z) w := fun _ => by kernel_rfl
  simp only [arr3]
  go_wp2_with fail
  refine wp_loop_rounds 4 ?_
  rw [rounds_succ]
  go_wp2_with (at_builtin; refine wpList_append_int O1 x rfl _ _ rfl rfl rfl (by omega) (by omega) ?_)
  rintro g1 d1 w3 O2 - hb3 hl3 hz3
  replace HB2 := hide ((unhide HB2).trans hb3)
  clear O1 hb3
  go_wp2_with fail
  rw [rounds_succ]
  go_wp2_with (at_builtin; refine wpList_append_int O2 y rfl _ _ rfl rfl rfl (by omega) (by omega) ?_)
  rintro g2 d2 w4 O3 - hb4 hl4 hz4
  replace HB2 := hide ((unhide HB2).trans hb4)
  clear O2 hb4
  go_wp2_with fail
  rw [rounds_succ]
  go_wp2_with (at_builtin; refine wpList_append_int O3 z rfl _ _ rfl rfl rfl (by omega) (by omega) ?_)
  rintro g3 d3 w5 O4 - hb5 hl5 hz5
  replace HB2 := hide ((unhide HB2).trans hb5)
  clear O3 hb5
  go_wp2_with fail
  rw [rounds_succ]
  go_wp2_with fail
  have Lq := sealC g3 d3 k i s q x y z w5 (by rw [O4.cellAt 0 (by omega)]; rfl) (by rw [O4.cellAt 1 (by omega)]; rfl) (by rw [O4.cellAt 2 (by omega)]; rfl) (by rw [O4.cellAt 3 (by omega)]; rfl) (by rw [O4.cellAt 4 (by omega)]; rfl) (by rw [O4.cellAt 5 (by omega)]; rfl) (by rw [O4.cellAt 6 (by omega)]; rfl) k1 i1 s1 q1 P0 P1 P2
  refine Lq.mono ?_
  rintro e w6 ⟨rfl, hb6⟩
  replace O4 := own_below O4 hb6
  replace HB2 := hide ((unhide HB2).trans (hb6.mono (by omega)))
  have hz6 := hb6.size
  clear hb6 Lq j0 j1 j2
  generalize checkOf (packSum k i s q x y z) = c at *
  go_wp2_with (at_builtin; refine wpList_append_int O4 c rfl _ _ rfl rfl rfl (by omega) (by omega) ?_)
  rintro g4 d4 w7 O5 - hb7 hl7 hz7
  replace HB2 := hide ((unhide HB2).trans hb7)
  clear O4 hb7
  obtain ⟨r0, r1, r2, r3⟩ := (bR.keep (unhide HB2)).two
  go_wp2_with fail
  refine bodyPost_ret (v := intsRes 0 (.slice (some ⟨g4, 0, none⟩) 8 d4)) (by simp [results, Try.results55, go_sem, intsRes, r0, r1]) rfl ?_
  rw [unhide HW]
  refine ⟨_, rfl, own_mono (b := w1.heap.size) (by omega) ?_, (((unhide HB1).trans ((unhide HB2).mono (by omega))).setCell (by simp) _).setCell (by simp) _⟩
  exact own_setC (own_setC O5 (by simp; omega) _) (by simp; omega) _

set_option maxHeartbeats 2000000 in
theorem packBad (k i : Int) (ao : Option Addr) (cap : Nat) (s q : Int) (zs : List Int) (w : World) (h : IsInts w (.slice ao zs.length cap) zs) (hf : writeFault k i zs s q ≠ 0) :
    Calls Try.prog 55 #[.agg #[.int .i64 k, .int .i64 i, .slice ao zs.length cap, .int .i64 s, .int .i64 q]] w fun e w' => ToldInts w w' e (writeFault k i zs s q) [] := by
  have B0 : Below w.heap.size w ((w.alloc (.cells #[.int .i64 k, .int .i64 i, .slice ao zs.length cap, .int .i64 s, .int .i64 q] 58)).alloc (.cells #[.int .i64 0, .slice none 0 0] 26)) := ((Below.refl _ _).alloc (Nat.le_refl _) _).alloc (by simp) _
  have bR : Box w.heap.size #[.int .i64 0, .slice none 0 0] 26 ((w.alloc (.cells #[.int .i64 k, .int .i64 i, .slice ao zs.length cap, .int .i64 s, .int .i64 q] 58)).alloc (.cells #[.int .i64 0, .slice none 0 0] 26)) (w.heap.size + 1) := by
    have := newBox (lo := w.heap.size) (cs := #[.int .i64 0, .slice none 0 0]) (T := 26) (W := w.alloc (.cells #[.int .i64 k, .int .i64 i, .slice ao zs.length cap, .int .i64 s, .int .i64 q] 58)) (by simp)
    simpa using this
  have L := hide (implDeed k i _ s q zs _ (h.later B0))
  have HD : Hid (deedRes k i zs s q = .nilIface) := by
    show deedRes k i zs s q = .nilIface
    rw [deedRes, if_neg hf]
  have hne : (writeFault k i zs s q != 0) = true := by rw [bne_iff_ne]; exact hf
  clear h hf
  go_enter Try.func55, Try.ntmps55
  go_wp2_with fail
  generalize (w.alloc (.cells #[.int .i64 k, .int .i64 i, .slice ao zs.length cap, .int .i64 s, .int .i64 q] 58)).alloc (.cells #[.int .i64 0, .slice none 0 0] 26) = W0 at *
  refine (unhide L).mono ?_
  rintro e w1 ⟨rfl, hb1⟩
  rw [unhide HD]
  replace bR := bR.keep hb1
  have HB1 := hide (B0.trans (hb1.mono B0.size))
  clear hb1 B0 L HD
  obtain ⟨r0, r1, r2, r3⟩ := bR.two
  generalize hF : writeFault k i zs s q = F at *
  have HF := hide hF
  clear hF
  go_wp2_with fail
  refine bodyPost_ret (v := intsRes F (.slice none 0 0)) (by simp [results, Try.results55, go_sem, intsRes, r0, r1]) rfl ?_
  rw [unhide HF]
  refine toldInts_nil ?_
  exact ((unhide HB1).setCell (by simp) _).setCell (by simp) _

/-- PackWrite of the program. -/
theorem implPack (k i : Int) (v : Value) (s q : Int) (zs : List Int) (w : World) (h : IsInts w v zs) :
    Calls Try.prog 55 #[.agg #[.int .i64 k, .int .i64 i, v, .int .i64 s, .int .i64 q]] w fun e w' => ToldInts w w' e (writeFault k i zs s q) (packList k i zs s q) := by
  have h' := h
  obtain ⟨ao, cap, rfl, -⟩ := h'
  by_cases hf : writeFault k i zs s q = 0
  · rw [packList, if_pos hf, hf]
    exact packOk k i ao cap s q zs w h hf
  · rw [packList, if_neg hf]
    exact packBad k i ao cap s q zs w h hf

end Go.Proofs.Ytipomhpimmnchaa
