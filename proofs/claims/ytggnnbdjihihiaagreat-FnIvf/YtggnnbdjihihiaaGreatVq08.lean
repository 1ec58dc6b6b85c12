/-
  Texts of this proof in one: RegIn, SortPlain, Ints, ImplPlaces, ImplIter, IvfAt, PlPlain, ListsFill, FirstPlain, ImplFirstOf, ImplCmp, ImplTab, MapTab, ImplFrom.
  Their conditions stand in their theorems.
-/
import Derived.Test.YtggnnbdjihihiaaGreatVq07
import Derived.Deep.RegionHeld3
import Derived.Test.YtggnnbdjihihiaaGreatChecked
import Derived.Test.YtggnnbdjihihiaaGreatVq01
import Derived.BigQuiet
import Derived.Deep.QuietTactic
import Derived.WalkSmall
import Derived.Test.YtggnnbdjihihiaaGreatVq03
import Derived.Test.YtggnnbdjihihiaaGreatVq02

namespace Go.Proofs.YtggnnbdjihihiaaGreat
open Go.RowKit

variable {P : Program} {ops : Array Oper} {Q : Exit → Act → World → Prop}

def noDefer (o : Oper) : Bool := match o.op with | .defer _ => false | _ => true
theorem upon_in (l n : Nat) {o : Oper} {a : Act} {K : Act → World → Prop} {r : Result Next} (h : o.upon P a K Q r) : o.uponIn (Fence.wide.inRound l) n P a K Q r := by
  cases r with
  | ok x w' =>
    cases x with
    | value v => exact h
    | skip => exact h
    | defer d => exact h
    | enter f args => exact ⟨fun e => by simp [Fence.wide] at e, CallsIn.inRound l (callsIn_wide.2 h)⟩
    | row row args =>
      refine ⟨fun e => by simp [Fence.wide] at e, fun c cs _ => ?_⟩
      obtain ⟨v, w2, h1, h2⟩ := h c cs
      exact ⟨v, w2, h1, stepsIn_wide.2 h2⟩
    | _ => exact h.elim
  | halt x w' =>
    cases x with
    | panic v => exact h
    | _ => exact h.elim
theorem wp_in (l n : Nat) {o : Oper} {a : Act} {w : World} {K : Act → World → Prop} (hd : noDefer o = true) (h : o.wp P a w K Q) : o.wpIn (Fence.wide.inRound l) n P a w K Q := by
  refine ⟨fun _ _ => trivial, ?_⟩
  rw [show (Fence.wide.inRound l).round = some l from rfl, Oper.semAt_some l _ _ (by intro c hc; rw [noDefer, hc] at hd; cases hd)]
  exact upon_in l n h
theorem any_in (l n : Nat) {md : Region.Mode} (hd : ∀ (i : Nat) (o : Oper), ops[i]? = some o → noDefer o = true) (hL : ¬ LetsOut Q) : ∀ (fuel : Nat) (listed : Array Bool) (a : Act) (w : World), wpAny P md ops Q fuel listed a w → wpAnyIn (Fence.wide.inRound l) n P md ops Q fuel listed a w
  | 0, _, _, _, h => h
  | fuel + 1, listed, a, w, h => by
    refine ⟨h.1, fun i hi => ?_⟩
    have h2 := h.2 i hi
    unfold wpOp at h2
    unfold wpOpIn
    cases ho : ops[i]? with
    | none => rw [ho] at h2; exact any_in l n hd hL fuel _ _ _ h2
    | some o =>
      rw [ho] at h2
      simp only at h2 ⊢
      by_cases hw : Region.wanted o (yielded ops a.tmps) = true
      · rw [if_pos hw] at h2 ⊢
        rcases h2 with h2 | h2
        · exact Oper.wpIn_mono (any_in l n hd hL fuel _) (wp_in l n (hd i o ho) h2)
        · exact absurd h2.2 hL
      · rw [if_neg hw] at h2 ⊢
        exact ⟨fun _ _ => trivial, any_in l n hd hL fuel _ _ _ h2⟩
theorem noDefers (h : ops.all noDefer = true) : ∀ (i : Nat) (o : Oper), ops[i]? = some o → noDefer o = true := fun i o ho => by
  obtain ⟨hi, rfl⟩ := Array.getElem?_eq_some_iff.1 ho
  rw [Array.all_eq_true] at h
  exact h i hi
/-- Only the way behind the region. -/
def OnlyN (Q : Exit → Act → World → Prop) : Exit → Act → World → Prop
  | .normal, a, w => Q .normal a w
  | _, _, _ => False
theorem OnlyN.normal {a : Act} {w : World} (h : Q .normal a w) : OnlyN Q .normal a w := h
/-- The first move of a walk through such a region. -/
theorem wpIn_region_np {l n id : Nat} {S : World → Prop} {a : Act} {w : World} (hm : P.follows .mixedOrders = true) (hd : ops.all noDefer = true) (hS : S w.drew)
    (h : S w.drew → wpAnyH P .any ops (OnlyN Q) S ops.size (Array.replicate ops.size false) a w.drew) : (Code.region id ops true).wpIn (Fence.wide.inRound l) n P Q a w := by
  refine wpIn_mono (Q := OnlyN Q) (wpIn_region_any hm (any_in l n (noDefers hd) ?_ _ _ _ _ (wpAny_of_held _ _ _ _ (h hS)))) ?_
  · rintro ⟨a2, w2, h2⟩
    exact (show False from h2)
  · intro e a2 w2 h2
    cases e with
    | normal => exact h2
    | _ => exact (show False from h2).elim

end Go.Proofs.YtggnnbdjihihiaaGreat

namespace Go.Proofs.YtggnnbdjihihiaaGreat
open Go.RowKit

/-- A place's hit. -/
def hitAt (cs : List DCenter) (q : List Int) (p : Nat) : Int × Int := ((p : Int), score3 (cs.getD p ⟨[]⟩).vec q)
theorem probeL_hits (cs : List DCenter) (q : List Int) (k : Nat) : (probeL cs q k).map pairH = (List.range k).map (hitAt cs q) := by
  rw [probeL, List.map_map]
  rfl
/-- Places in order, all of them: their first n are those that are looked at. -/
theorem places_probes {cs : List DCenter} {q : List Int} {d : List Nat} (hs : Sorted (d.map (hitAt cs q))) (hm : ∀ p, p ∈ d ↔ p < cs.length) (n : Nat) : (d.take n).map (fun p : Nat => (p : Int)) = probesI cs q n := by
  have e : allOf ((probeL cs q cs.length).map pairH) = d.map (hitAt cs q) := by
    refine sorted_ext (allOf_sorted _) hs fun x => ?_
    rw [allOf_mem, probeL_hits, List.mem_map, List.mem_map]
    constructor
    · rintro ⟨p, hp, rfl⟩
      exact ⟨p, (hm p).2 (List.mem_range.1 hp), rfl⟩
    · rintro ⟨p, hp, rfl⟩
      exact ⟨p, List.mem_range.2 ((hm p).1 hp), rfl⟩
  rw [probesI, best_eq, e, ← List.map_take, List.map_map]
  rfl
/-- The outer loop's state: the first i places in order, the others as they were. -/
def InsO (h : Nat → Int × Int) (n i : Nat) (d : List Nat) : Prop :=
  ∃ P : List Nat, P.length = i ∧ Sorted (P.map h) ∧ (∀ p, p ∈ P ↔ p < i) ∧ d = P ++ (List.range n).drop i
/-- The inner loop's state: place i stands at j, behind it what is farther. -/
def InsI (h : Nat → Int × Int) (n i j : Nat) (d : List Nat) : Prop :=
  ∃ L R : List Nat, L.length = j ∧ L.length + R.length = i ∧ Sorted ((L ++ R).map h) ∧ (∀ p, p ∈ L ++ R ↔ p < i) ∧ (∀ r ∈ R, (h i).2 < (h r).2) ∧ d = L ++ i :: (R ++ (List.range n).drop (i + 1))
theorem insO_start (h : Nat → Int × Int) {n : Nat} (hn : 0 < n) : InsO h n 1 (List.range n) := by
  refine ⟨[0], rfl, List.pairwise_singleton _ _, fun p => ?_, ?_⟩
  · rw [List.mem_singleton]; omega
  · cases n with
    | zero => omega
    | succ n => rw [List.range_succ_eq_map]; rfl
theorem InsO.inner {h : Nat → Int × Int} {n i : Nat} {d : List Nat} (hi : i < n) (o : InsO h n i d) : InsI h n i i d := by
  obtain ⟨P, h1, h2, h3, rfl⟩ := o
  refine ⟨P, [], h1, by simpa using h1, by simpa using h2, by simpa using h3, by simp, ?_⟩
  rw [List.drop_eq_getElem_cons (by simpa using hi)]
  simp
theorem InsI.len {h : Nat → Int × Int} {n i j : Nat} {d : List Nat} (hi : i < n) (o : InsI h n i j d) : d.length = n ∧ j ≤ i := by
  obtain ⟨L, R, h1, h2, -, -, -, rfl⟩ := o
  simp
  omega
theorem InsO.len {h : Nat → Int × Int} {n i : Nat} {d : List Nat} (hi : i ≤ n) (o : InsO h n i d) : d.length = n := by
  obtain ⟨P, h1, -, -, rfl⟩ := o
  simp
  omega
theorem InsO.below {h : Nat → Int × Int} {n i : Nat} {d : List Nat} (hi : i ≤ n) (o : InsO h n i d) : ∀ p ∈ d, p < n := by
  obtain ⟨P, -, -, h3, rfl⟩ := o
  intro p hp
  rcases List.mem_append.1 hp with hp | hp
  · have := (h3 p).1 hp; omega
  · exact List.mem_range.1 (List.mem_of_mem_drop hp)
theorem InsI.below {h : Nat → Int × Int} {n i j : Nat} {d : List Nat} (hi : i < n) (o : InsI h n i j d) : ∀ p ∈ d, p < n := by
  obtain ⟨L, R, -, -, -, h4, -, rfl⟩ := o
  intro p hp
  rcases List.mem_append.1 hp with hp | hp
  · have := (h4 p).1 (List.mem_append.2 (Or.inl hp)); omega
  · rcases List.mem_cons.1 hp with rfl | hp
    · exact hi
    · rcases List.mem_append.1 hp with hp | hp
      · have := (h4 p).1 (List.mem_append.2 (Or.inr hp)); omega
      · exact List.mem_range.1 (List.mem_of_mem_drop hp)
/-- What stands at j and ahead of it. -/
theorem InsI.at {h : Nat → Int × Int} {n i j : Nat} {d : List Nat} (o : InsI h n i j d) : d[j]? = some i := by
  obtain ⟨L, R, h1, -, -, -, -, rfl⟩ := o
  rw [List.getElem?_append_right (by omega), h1, Nat.sub_self]
  rfl
theorem InsI.swap {h : Nat → Int × Int} {n i j p : Nat} {d : List Nat} (o : InsI h n i (j + 1) d) (hp : d[j]? = some p) (hlt : (h i).2 < (h p).2) : InsI h n i j ((d.set (j + 1) p).set j i) := by
  obtain ⟨L, R, h1, h2, h3, h4, h5, rfl⟩ := o
  obtain ⟨K, z, rfl⟩ : ∃ K z, L = K ++ [z] := ⟨L.dropLast, L.getLast (by intro e; rw [e] at h1; cases h1), (List.dropLast_concat_getLast _).symm⟩
  have hK : K.length = j := by simpa using h1
  have hz : z = p := by
    rw [List.append_assoc, List.getElem?_append_right (by omega), hK, Nat.sub_self] at hp
    simpa using hp
  subst hz
  refine ⟨K, z :: R, hK, ?_, ?_, ?_, ?_, ?_⟩
  · simp at h2 ⊢; omega
  · simpa using h3
  · intro p; rw [← h4 p]; simp
  · intro r hr
    rcases List.mem_cons.1 hr with rfl | hr
    · exact hlt
    · exact h5 r hr
  · rw [List.append_assoc, List.set_append_right _ _ (by omega), List.set_append_right _ _ (by omega), hK, Nat.sub_self, Nat.add_sub_cancel_left]
    rfl
theorem InsI.stop {h : Nat → Int × Int} {n i j : Nat} {d : List Nat} (hf : ∀ p, (h p).1 = (p : Int)) (o : InsI h n i j d) (hs : ∀ p, 0 < j → d[j - 1]? = some p → (h p).2 ≤ (h i).2) : InsO h n (i + 1) d := by
  obtain ⟨L, R, h1, h2, h3, h4, h5, rfl⟩ := o
  have hL : ∀ l ∈ L, bet (h l) (h i) = true := by
    intro l hl
    obtain ⟨K, z, rfl⟩ : ∃ K z, L = K ++ [z] := ⟨L.dropLast, L.getLast (by intro e; rw [e] at hl; cases hl), (List.dropLast_concat_getLast _).symm⟩
    have hj : j = K.length + 1 := by rw [← h1]; simp
    have hz : (h z).2 ≤ (h i).2 := hs z (by omega) (by
      rw [hj, Nat.add_sub_cancel, List.append_assoc, List.getElem?_append_right (Nat.le_refl _), Nat.sub_self]
      rfl)
    have li : l < i := (h4 l).1 (List.mem_append.2 (Or.inl hl))
    have hlz : (h l).2 ≤ (h z).2 := by
      rcases List.mem_append.1 hl with hl | hl
      · have h6 : Sorted ((K ++ [z]).map h) := by rw [List.map_append] at h3; exact (List.pairwise_append.1 h3).1
        rw [List.map_append] at h6
        have := (List.pairwise_append.1 h6).2.2 (h l) (List.mem_map_of_mem hl) (h z) (by simp)
        rw [bet_iff] at this
        omega
      · rw [List.mem_singleton.1 hl]; exact Int.le_refl _
    rw [bet_iff, hf, hf]
    omega
  have hR : ∀ r ∈ R, bet (h i) (h r) = true := fun r hr => by rw [bet_iff]; exact Or.inl (h5 r hr)
  refine ⟨L ++ i :: R, by simp; omega, ?_, fun p => ?_, by simp⟩
  · rw [List.map_append] at h3
    obtain ⟨q1, q2, q3⟩ := List.pairwise_append.1 h3
    rw [List.map_append, List.map_cons]
    refine List.pairwise_append.2 ⟨q1, List.Pairwise.cons (fun y hy => ?_) q2, fun y hy z hz => ?_⟩
    · obtain ⟨r, hr, rfl⟩ := List.mem_map.1 hy
      exact hR r hr
    · rcases List.mem_cons.1 hz with rfl | hz
      · obtain ⟨l, hl, rfl⟩ := List.mem_map.1 hy
        exact hL l hl
      · exact q3 y hy z hz
  · have := h4 p
    rw [List.mem_append] at this
    rw [List.mem_append, List.mem_cons]
    constructor
    · rintro (hp | rfl | hp)
      · have := this.1 (Or.inl hp); omega
      · omega
      · have := this.1 (Or.inr hp); omega
    · intro hp
      by_cases e : p = i
      · exact Or.inr (Or.inl e)
      · rcases this.2 (by omega) with h | h
        · exact Or.inl h
        · exact Or.inr (Or.inr h)
theorem insO_end {h : Nat → Int × Int} {n : Nat} {d : List Nat} (o : InsO h n n d) : Sorted (d.map h) ∧ (∀ p, p ∈ d ↔ p < n) ∧ d.length = n := by
  obtain ⟨P, h1, h2, h3, rfl⟩ := o
  rw [List.drop_eq_nil_of_le (by simp), List.append_nil]
  exact ⟨h2, h3, h1⟩

end Go.Proofs.YtggnnbdjihihiaaGreat

namespace Go.Proofs.YtggnnbdjihihiaaGreat
open Go.RowKit

set_option maxHeartbeats 400000 in
theorem toInts_pos (b off cap : Nat) (zs : List Int) (w : World) (hn : zs.length ≤ 1048576) (hc : ∀ j, j < zs.length → w.cell? ⟨b, off + j, none⟩ = some (.int .i64 (zs.getD j 0))) :
    Calls Tryz.prog 21 #[.slice (some ⟨b, off, none⟩) zs.length cap] w fun e w' => e = .returned (.slice (some ⟨w.heap.size, 0, none⟩) zs.length zs.length) ∧
      w'.ownsRow w.heap.size 2 1 (.slice (some ⟨w.heap.size, 0, none⟩) zs.length zs.length) zs.length (zs.map (Value.int .i64)) ∧ Below w.heap.size w w' := by
  obtain ⟨i0, hi, hz0, hz1, hz2⟩ := info_parts info2
  go_enter Tryz.func21, Tryz.ntmps21
  go_wp2_with (at_make; refine wpList_make_full _ rfl _ _ 28 rfl w.heap.size 2 i0 (.int .i64 0) 1 Tryz.underlying28 hi hz0 hz1 _ _ _ _ zs.length rfl rfl rfl rfl ?c1 ?c2 ?c3 ?_)
  case c1 => rw [hz2]; omega
  case c2 => unfold maxLen; omega
  case c3 => exact Nat.le_refl _
  intro w1 hown1 hgrow1
  have hB1 : Below w.heap.size w w1 := (Below.refl _ _).grown hgrow1 (Nat.le_refl _) (by simp)
  rw [toList_madeCells_one] at hown1
  clear hgrow1 hi hz0 hz1 hz2
  go_wp2
  go_loopw [4] (fun i wr => ∃ k : Nat, k ≤ zs.length ∧ i = .int .i64 k ∧ wr.ownsRow w.heap.size 2 1 (.slice (some ⟨w.heap.size, 0, none⟩) zs.length zs.length) zs.length ((zs.take k).map (Value.int .i64) ++ List.replicate (zs.length - k) (Value.int .i64 0)) ∧ Below w.heap.size w wr)
    (fun i _ => zs.length - (intOf i).toNat)
  case atStart => exact ⟨0, Nat.zero_le _, rfl, by simpa using hown1, hB1⟩
  case round =>
    obtain ⟨k, hk, rfl, hown, hB⟩ := hrel
    clear hown1 hB1
    by_cases hlt : k < zs.length
    · have hcx : wr.cell? ⟨b, off + k, none⟩ = some (.int .i64 (zs.getD k 0)) := (hB.cell (World.block_lt_of_cell? _ _ (hc k hlt))).trans (hc k hlt)
      have hcd : ∃ u, wr.cell? ⟨w.heap.size, k, none⟩ = some u := by
        rw [hown.cellAt k (by omega)]
        exact ⟨_, List.getElem?_eq_getElem (by simp; omega)⟩
      obtain ⟨u, hcd⟩ := hcd
      have hfz := hown.frozenAt k
      have hst := hown.stored k (.int .i64 (zs.getD k 0))
      rw [set_fill zs k hlt] at hst
      have R := hst.1
      have hB2 : Below w.heap.size w (wr.setCell ⟨w.heap.size, k, none⟩ (.int .i64 (zs.getD k 0))) := hB.setCell (by simp) _
      clear hst hown hB
      go_wp2
      go_roundw
      case rel => exact ⟨k + 1, by omega, by go_num, by simpa [hlt] using R, by simpa [hlt] using hB2⟩
      case measure => simp [intOf]; omega
    · have hk2 : k = zs.length := by omega
      go_wp2
      go_ret
      subst hk2
      exact ⟨rfl, by simpa using hown, hB⟩

set_option maxHeartbeats 400000 in
theorem toInts_zero (ao : Option Addr) (cap : Nat) (w : World) :
    Calls Tryz.prog 21 #[.slice ao 0 cap] w fun e w' => e = .returned (.slice (some ⟨w.heap.size, 0, none⟩) 0 0) ∧
      w'.ownsRow w.heap.size 2 1 (.slice (some ⟨w.heap.size, 0, none⟩) 0 0) 0 [] ∧ Below w.heap.size w w' := by
  obtain ⟨i0, hi, hz0, hz1, hz2⟩ := info_parts info2
  go_enter Tryz.func21, Tryz.ntmps21
  go_wp2_with (at_make; refine wpList_make_full _ rfl _ _ 28 rfl w.heap.size 2 i0 (.int .i64 0) 1 Tryz.underlying28 hi hz0 hz1 _ _ _ _ 0 rfl rfl rfl rfl ?c1 ?c2 ?c3 ?_)
  case c1 => rw [hz2]; omega
  case c2 => unfold maxLen; omega
  case c3 => exact Nat.le_refl _
  intro w1 hown1 hgrow1
  have hB1 : Below w.heap.size w w1 := (Below.refl _ _).grown hgrow1 (Nat.le_refl _) (by simp)
  clear hgrow1 hi hz0 hz1 hz2
  rw [toList_madeCells_one] at hown1
  go_wp2
  refine wp_loop_rounds 1 ?_
  rw [rounds_succ]
  go_wp2
  go_ret
  exact ⟨rfl, by simpa using hown1, hB1⟩

/-- toInt64S: a new slice of the same numbers. -/
theorem toInts (v : Value) (zs : List Int) (w : World) (h : IsInts w v zs) (hn : zs.length ≤ 1048576) :
    Calls Tryz.prog 21 #[v] w fun e w' => ∃ v', e = .returned v' ∧ v' = .slice (some ⟨w.heap.size, 0, none⟩) zs.length zs.length ∧
      w'.ownsRow w.heap.size 2 1 v' zs.length (zs.map (Value.int .i64)) ∧ IsInts w' v' zs ∧ Below w.heap.size w w' := by
  obtain ⟨ao, cap, rfl, hwf, hc⟩ := h
  by_cases hp : 0 < zs.length
  · obtain ⟨b, off, rfl, hc1⟩ := hc hp
    refine (toInts_pos b off cap zs w hn hc1).mono ?_
    rintro e w' ⟨rfl, ho, hb⟩
    exact ⟨_, rfl, rfl, ho, isInts_owned hwf ho, hb⟩
  · have hz : zs = [] := List.eq_nil_of_length_eq_zero (by omega)
    subst hz
    refine (toInts_zero ao cap w).mono ?_
    rintro e w' ⟨rfl, ho, hb⟩
    exact ⟨_, rfl, rfl, ho, isInts_owned hwf ho, hb⟩

set_option maxHeartbeats 400000 in
theorem eqInts_pos (b off cap b2 off2 cap2 : Nat) (zs : List Int) (w : World) (hn : zs.length ≤ 9223372036854775807) (hc : ∀ j, j < zs.length → w.cell? ⟨b, off + j, none⟩ = some (.int .i64 (zs.getD j 0)))
    (hc2 : ∀ j, j < zs.length → w.cell? ⟨b2, off2 + j, none⟩ = some (.int .i64 (zs.getD j 0))) :
    Calls Tryz.prog 25 #[.slice (some ⟨b, off, none⟩) zs.length cap, .slice (some ⟨b2, off2, none⟩) zs.length cap2] w fun e w' => e = .returned (.bool true) ∧ Below w.heap.size w w' := by
  go_enter Tryz.func25, Tryz.ntmps25
  go_wp2
  go_loopw [5] (fun i wr => ∃ k : Nat, k ≤ zs.length ∧ i = .int .i64 k ∧ Below w.heap.size w wr) (fun i _ => zs.length - (intOf i).toNat)
  case atStart => exact ⟨0, Nat.zero_le _, rfl, Below.refl _ _⟩
  case round =>
    obtain ⟨k, hk, rfl, hB⟩ := hrel
    by_cases hlt : k < zs.length
    · have hcx : wr.cell? ⟨b, off + k, none⟩ = some (.int .i64 (zs.getD k 0)) := (hB.cell (World.block_lt_of_cell? _ _ (hc k hlt))).trans (hc k hlt)
      have hcy : wr.cell? ⟨b2, off2 + k, none⟩ = some (.int .i64 (zs.getD k 0)) := (hB.cell (World.block_lt_of_cell? _ _ (hc2 k hlt))).trans (hc2 k hlt)
      clear hc hc2
      go_wp2
      go_quiet (fail)
      go_wp2
      go_roundw
      case rel => exact ⟨k + 1, by omega, by go_num, below_drewN hB _⟩
      case measure => simp [intOf]; omega
    · go_wp2
      go_ret
      exact ⟨rfl, hB⟩

set_option maxHeartbeats 400000 in
theorem eqInts_zero (ao ao2 : Option Addr) (cap cap2 : Nat) (w : World) :
    Calls Tryz.prog 25 #[.slice ao 0 cap, .slice ao2 0 cap2] w fun e w' => e = .returned (.bool true) ∧ Below w.heap.size w w' := by
  go_enter Tryz.func25, Tryz.ntmps25
  go_wp2
  refine wp_loop_rounds 1 ?_
  rw [rounds_succ]
  go_wp2
  go_ret
  exact ⟨rfl, Below.refl _ _⟩

/-- eqInt64S: two slices of the same numbers are the same. -/
theorem eqIntsBig (v v2 : Value) (zs : List Int) (w : World) (h : IsInts w v zs) (h2 : IsInts w v2 zs) (hn : zs.length ≤ 9223372036854775807) :
    Calls Tryz.prog 25 #[v, v2] w fun e w' => e = .returned (.bool true) ∧ Below w.heap.size w w' := by
  obtain ⟨ao, cap, rfl, hwf, hc⟩ := h
  obtain ⟨ao2, cap2, rfl, _, hc2⟩ := h2
  by_cases hp : 0 < zs.length
  · obtain ⟨b, off, rfl, hc1⟩ := hc hp
    obtain ⟨b2, off2, rfl, hc3⟩ := hc2 hp
    exact eqInts_pos b off cap b2 off2 cap2 zs w hn hc1 hc3
  · have hz : zs = [] := List.eq_nil_of_length_eq_zero (by omega)
    subst hz
    exact eqInts_zero ao ao2 cap cap2 w
theorem eqInts (v v2 : Value) (zs : List Int) (w : World) (h : IsInts w v zs) (h2 : IsInts w v2 zs) (hn : zs.length ≤ 1048576) :
    Calls Tryz.prog 25 #[v, v2] w fun e w' => e = .returned (.bool true) ∧ Below w.heap.size w w' := eqIntsBig v v2 zs w h h2 (by omega)

end Go.Proofs.YtggnnbdjihihiaaGreat

namespace Go.Proofs.YtggnnbdjihihiaaGreat
open Go.RowKit

/-- Places as cells. -/
def plV (d : List Nat) : List Value := d.map fun p : Nat => Value.int .i64 (p : Int)
theorem plV_len (d : List Nat) : (plV d).length = d.length := by simp [plV]
theorem plV_at {d : List Nat} {j p : Nat} (h : d[j]? = some p) : (plV d)[j]? = some (.int .i64 (p : Int)) := by simp [plV, h]
/-- The first k places are written, the others are 0. -/
def upTo (n k : Nat) : List Nat := (List.range n).map fun i => if i < k then i else 0
theorem upTo_zero (n : Nat) : plV (upTo n 0) = List.replicate n (.int .i64 0) := by
  rw [plV, upTo, List.map_map]
  refine List.ext_getElem (by simp) fun i h1 h2 => by simp
theorem upTo_set {n k : Nat} : (plV (upTo n k)).set k (.int .i64 (k : Int)) = plV (upTo n (k + 1)) := by
  refine List.ext_getElem (by simp [plV, upTo]) fun i h1 h2 => ?_
  rw [List.getElem_set]
  by_cases e : k = i
  · subst e
    simp [plV, upTo]
  · rw [if_neg e]
    simp only [plV, upTo, List.getElem_map, List.getElem_range]
    by_cases h3 : i < k
    · rw [if_pos h3, if_pos (by omega)]
    · rw [if_neg h3, if_neg (by omega)]
theorem upTo_all (n : Nat) : upTo n n = List.range n := by
  refine List.ext_getElem (by simp [upTo]) fun i h1 h2 => ?_
  have : i < n := by simpa using h2
  simp [upTo, this]

set_option maxRecDepth 100000 in
set_option maxHeartbeats 2000000 in
theorem implPlaces (ao : Option Addr) (n cap : Nat) (w : World) (hn : n ≤ 1000) :
    Calls Tryz.prog 123 #[.slice ao n cap] w fun e w' => e = .returned (.slice (some ⟨w.heap.size, 0, none⟩) n n) ∧ w'.ownsRow w.heap.size 2 1 (.slice (some ⟨w.heap.size, 0, none⟩) n n) n (plV (List.range n)) ∧ Below w.heap.size w w' := by
  obtain ⟨i0, hi, hz0, hz1, hz2⟩ := info_parts info2
  go_enter Tryz.func123, Tryz.ntmps123
  go_wp2_with (at_make; refine wpList_make_full _ rfl _ _ 28 rfl w.heap.size 2 i0 (.int .i64 0) 1 Tryz.underlying28 hi hz0 hz1 _ _ _ _ n rfl rfl rfl rfl ?c1 ?c2 ?c3 ?_)
  case c1 => rw [hz2]; omega
  case c2 => unfold maxLen; omega
  case c3 => exact Nat.le_refl _
  intro w2 hown1 hgrow1
  have hB1 : Below w.heap.size w w2 := (Below.refl _ _).grown hgrow1 (Nat.le_refl _) (by simp)
  rw [toList_madeCells_one] at hown1
  have HO1 := hide hown1
  have HB1 := hide hB1
  clear hgrow1 hi hz0 hz1 hz2 hown1 hB1
  go_wp2_with fail
  go_loopw [10] (fun i wr => ∃ k : Nat, k ≤ n ∧ i = .int .i64 k ∧ wr.ownsRow w.heap.size 2 1 (.slice (some ⟨w.heap.size, 0, none⟩) n n) n (plV (upTo n k)) ∧ Below w.heap.size w wr) (fun i _ => n - (intOf i).toNat)
  case atStart => exact ⟨0, Nat.zero_le _, rfl, by rw [upTo_zero]; exact unhide HO1, unhide HB1⟩
  case round =>
    obtain ⟨k, hk, rfl, hown, hB⟩ := hrel
    clear HO1 HB1
    by_cases hlt : k < n
    · have hcd : ∃ u, wr.cell? ⟨w.heap.size, k, none⟩ = some u := by
        rw [hown.cellAt k (by have : (plV (upTo n k)).length = n * 1 := hown.1; omega)]
        exact ⟨_, List.getElem?_eq_getElem (by simp [plV, upTo]; omega)⟩
      obtain ⟨u, hcd⟩ := hcd
      have hfz := hown.frozenAt k
      have hlg := (hown.lt w.heap.size rfl).2
      have hst := hown.stored k (.int .i64 (k : Int))
      rw [upTo_set] at hst
      have HO3 := hide hst.1
      have HB3 : Hid (Below w.heap.size w (wr.setCell ⟨w.heap.size, k, none⟩ (.int .i64 (k : Int)))) := hB.setCell (by simp) _
      clear hst hown hB
      go_wp2_with fail
      go_roundw
      case rel => exact ⟨k + 1, by omega, by go_num, unhide HO3, unhide HB3⟩
      case measure => simp [intOf]; omega
    · obtain rfl : k = n := by omega
      rw [upTo_all] at hown
      have HO := hide hown
      have HB := hide hB
      clear hown hB
      go_wp2_with fail
      go_ret
      exact ⟨rfl, unhide HO, unhide HB⟩

end Go.Proofs.YtggnnbdjihihiaaGreat

namespace Go.Proofs.YtggnnbdjihihiaaGreat
open Go.RowKit Go.Shelf
attribute [local go_sem] Oper.semAt_some

/-- A place of a list. -/
abbrev Pl (m : Nat) := { j : Nat // j < m }
/-- What the iterator reads: the lists' row in the index's box, and the places. -/
structure ItAt (W : World) (Bx bL oL m dL : Nat) (ia : Nat → Option Addr) (il ic : Nat → Nat) (bP oP : Nat) (zs : List (Pl m)) : Prop where
  box : W.cell? ⟨Bx, 1, none⟩ = some (.slice (some ⟨bL, oL, none⟩) m dL)
  lists : ∀ j, j < m → W.cell? ⟨bL, oL + j, none⟩ = some (.slice (ia j) (il j) (ic j))
  places : ∀ i (h : i < zs.length), W.cell? ⟨bP, oP + i, none⟩ = some (.int .i64 (zs[i].1 : Int))
theorem ItAt.keep {W W' : World} {Bx bL oL m dL : Nat} {ia : Nat → Option Addr} {il ic : Nat → Nat} {bP oP : Nat} {zs : List (Pl m)} (h : ItAt W Bx bL oL m dL ia il ic bP oP zs) (h1 : W'.heap[Bx]? = W.heap[Bx]?) (h2 : W'.heap[bL]? = W.heap[bL]?) (h3 : W'.heap[bP]? = W.heap[bP]?) : ItAt W' Bx bL oL m dL ia il ic bP oP zs :=
  ⟨(cell_of_heap h1 1).trans h.box, fun j hj => (cell_of_heap h2 _).trans (h.lists j hj), fun i hi => (cell_of_heap h3 _).trans (h.places i hi)⟩
theorem take_pre {α : Type} {zs : List α} {k : Nat} : zs.take k <+: zs := List.take_prefix k zs

set_option maxRecDepth 100000 in
set_option maxHeartbeats 2000000 in
theorem listsAt1 (l n Bp Bx bL oL m dL cP : Nat) (ia : Nat → Option Addr) (il ic : Nat → Nat) (bP oP : Nat) (zs : List (Pl m)) (N : Nat) (S : Nat → Prop) (hzs : zs.length ≤ 1000)
    (k1 : Bx < N ∧ ¬ S Bx) (k2 : bL < N ∧ ¬ S bL) (k3 : bP < N ∧ ¬ S bP) (J Jx : List (Pl m) → World → Prop)
    (hY : ∀ pre x W, J pre W → pre.length < zs.length → YieldAt Fence.wide (n - 1) Tryz.prog l #[.agg #[.int .i64 (x.1 : Int), .slice (ia x.1) (il x.1) (ic x.1)]] W fun e W' =>
      (e = .returned (.bool true) ∧ J (pre ++ [x]) W' ∧ KpS N S W W') ∨ (e = .returned (.bool false) ∧ Jx (pre ++ [x]) W'))
    (W : World) (hbp : W.cell? ⟨Bp, 0, none⟩ = some (.slice (some ⟨bP, oP, none⟩) zs.length cP)) (hit : ItAt W Bx bL oL m dL ia il ic bP oP zs) (h0 : J [] W) :
    CallsIn Fence.wide n Tryz.prog 122 #[.func (.yield l) #[] #[], .pointer (some ⟨Bp, 0, none⟩), .pointer (some ⟨Bx, 0, none⟩)] W fun e W' => (∃ v, e = .returned v) ∧
      ((∃ ys, ys = zs ∧ J ys W') ∨ (∃ pre, pre <+: zs ∧ Jx pre W')) := by
  refine callsIn_of_wp Tryz.func122 rfl trivial ?_ rfl
  simp only [Tryz.ntmps122, List.size_toArray, List.length_cons, List.length_nil, Nat.reduceAdd, Nat.reduceSub, Array.replicate_succ, Array.replicate_zero, List.push_toArray, List.append_toArray, List.nil_append, List.cons_append]
  have HIT := hide hit
  clear hit
  gi_wp2
  clear hbp
  gi_loopw [8] (fun i wr => ∃ k : Nat, k ≤ zs.length ∧ i = .int .i64 k ∧ J (zs.take k) wr ∧ ItAt wr Bx bL oL m dL ia il ic bP oP zs) (fun i _ => zs.length - (intOf i).toNat)
  case atStart => exact ⟨0, Nat.zero_le _, rfl, h0, unhide HIT⟩
  case round =>
    obtain ⟨k, hk, rfl, hJ, hit⟩ := hrel
    clear HIT h0
    by_cases hlt : k < zs.length
    · have cb := hit.box
      have cp := hit.places k hlt
      have cl := hit.lists zs[k].1 zs[k].2
      have hx2 := zs[k].2
      have htk : zs.take (k + 1) = zs.take k ++ [zs[k]] := List.take_succ_eq_append_getElem hlt
      obtain ⟨fn, tmps, assign, body, hy, hR⟩ := hY (zs.take k) zs[k] wr hJ (by rw [List.length_take]; omega)
      generalize zs[k] = x at *
      obtain ⟨q, hq⟩ := x
      dsimp only at hy cp cl hx2
      have HTK := hide htk
      have HIT := hide hit
      clear htk hit hJ
      gi_wp2
      refine ⟨fun h => by simp [Fence.wide] at h, hR.mono ?_⟩
      rintro e W3 (⟨rfl, hJ3, hk3⟩ | ⟨rfl, hJx3⟩)
      · have it3 := (unhide HIT).keep (hk3.2 Bx k1.1 k1.2) (hk3.2 bL k2.1 k2.2) (hk3.2 bP k3.1 k3.2)
        clear cb cp cl
        gi_wp2
        go_roundw
        case rel => exact ⟨k + 1, by omega, by go_num, by rw [unhide HTK]; exact hJ3, it3⟩
        case measure => simp [intOf]; omega
      · clear cb cp cl
        gi_wp2
        refine bodyPost_ret (results_none rfl _ _ _) rfl ?_
        exact ⟨⟨_, rfl⟩, .inr ⟨_, by rw [← unhide HTK]; exact take_pre, hJx3⟩⟩
    · obtain rfl : k = zs.length := by omega
      rw [List.take_length] at hJ
      clear hit
      gi_wp2
      go_end0
      exact ⟨⟨_, rfl⟩, .inl ⟨_, rfl, hJ⟩⟩

/-- What listsAt hands back tells the lists at those places, all or the first ones. -/
theorem listsAt_stops (n Bp Bx bL oL m dL cP : Nat) (ia : Nat → Option Addr) (il ic : Nat → Nat) (bP oP : Nat) (zs : List (Pl m)) (N : Nat) (S : Nat → Prop) (hzs : zs.length ≤ 1000)
    (k1 : Bx < N ∧ ¬ S Bx) (k2 : bL < N ∧ ¬ S bL) (k3 : bP < N ∧ ¬ S bP) (w : World) (l0 : Bp < w.heap.size) (hN : N ≤ w.heap.size) (hbp : w.cell? ⟨Bp, 0, none⟩ = some (.slice (some ⟨bP, oP, none⟩) zs.length cP)) (hit : ItAt w Bx bL oL m dL ia il ic bP oP zs) :
    SeqStopsK Fence.wide n Tryz.prog 122 #[.pointer (some ⟨Bp, 0, none⟩), .pointer (some ⟨Bx, 0, none⟩)] (fun x : Pl m => #[.agg #[.int .i64 (x.1 : Int), .slice (ia x.1) (il x.1) (ic x.1)]]) (KpS N S) (fun ys => ys = zs) (fun pre => pre <+: zs) zs.length w :=
  fun l J Jx W hW _ _ hY h0 => listsAt1 l n Bp Bx bL oL m dL cP ia il ic bP oP zs N S hzs k1 k2 k3 J Jx hY W ((hW.cell (p := ⟨Bp, 0, none⟩) l0).trans hbp) (hit.keep (hW.block _ (by omega)) (hW.block _ (by omega)) (hW.block _ (by omega))) h0

/-- listsAt: the index and the places are boxed; the function value captures the boxes. -/
theorem implListsAt (cv lv : Value) (ap : Option Addr) (np cp : Nat) (w : World) (h1 : ∃ a n c, cv = .slice a n c) (h2 : ∃ a n c, lv = .slice a n c) :
    Calls Tryz.prog 88 #[.agg #[cv, lv], .slice ap np cp] w fun e w' => e = .returned (.func (.func 122) #[] #[.pointer (some ⟨w.heap.size + 1, 0, none⟩), .pointer (some ⟨w.heap.size, 0, none⟩)]) ∧ w' = (w.alloc (.cells #[cv, lv] 27)).alloc (.cells #[.slice ap np cp] 28) := by
  obtain ⟨a1, n1, c1, rfl⟩ := h1
  obtain ⟨a2, n2, c2, rfl⟩ := h2
  go_enter Tryz.func88, Tryz.ntmps88
  go_wp2_with fail
  go_ret
  exact ⟨rfl, rfl⟩

end Go.Proofs.YtggnnbdjihihiaaGreat

namespace Go.Proofs.YtggnnbdjihihiaaGreat
open Go.RowKit

theorem one_cell {w : World} {b off k : Nat} {u : Option Value} (h : w.cell? ⟨b, off + k * Lay.tIvfList.n + 0, none⟩ = u) : w.cell? ⟨b, off + k, none⟩ = u := by
  have q : w.cell? ⟨b, off + k * 1 + 0, none⟩ = u := h
  rw [Nat.mul_one, Nat.add_zero] at q
  exact q
structure IvfAt (w : World) (b : Nat) (x : DIvf) (ac : Option Addr) (dc : Nat) (al : Option Addr) (dl : Nat) : Prop where
  c0 : w.cell? ⟨b, 0, none⟩ = some (.slice ac x.centers.length dc)
  c1 : w.cell? ⟨b, 1, none⟩ = some (.slice al x.lists.length dl)
  cens : (Lay.sl Lay.tCenter).Reads w [.slice ac x.centers.length dc] x.centers
  lists : (Lay.sl Lay.tIvfList).Reads w [.slice al x.lists.length dl] x.lists
theorem IvfAt.later {w w' : World} {b : Nat} {x : DIvf} {ac : Option Addr} {dc : Nat} {al : Option Addr} {dl : Nat} (h : IvfAt w b x ac dc al dl) (hb : Below w.heap.size w w') : IvfAt w' b x ac dc al dl :=
  ⟨cell_keep hb h.c0, cell_keep hb h.c1, h.cens.later hb, h.lists.later hb⟩
theorem ivfAt_box {lo : Nat} {w : World} {b T : Nat} {x : DIvf} {ac : Option Addr} {dc : Nat} {al : Option Addr} {dl : Nat} (h : Box lo #[.slice ac x.centers.length dc, .slice al x.lists.length dl] T w b) (h1 : (Lay.sl Lay.tCenter).Reads w [.slice ac x.centers.length dc] x.centers) (h2 : (Lay.sl Lay.tIvfList).Reads w [.slice al x.lists.length dl] x.lists) : IvfAt w b x ac dc al dl :=
  ⟨h.at 0 _ rfl, h.at 1 _ rfl, h1, h2⟩

end Go.Proofs.YtggnnbdjihihiaaGreat

namespace Go.Proofs.YtggnnbdjihihiaaGreat
open Go.RowKit

/-- What is wrong with an index, but for what stands in two lists, and how much it is in all. -/
def formF (x : DIvf) : Int := if centersFault x.centers = 0 then (if x.lists.length = x.centers.length then listsFrom x.centers 0 x.lists else 1) else centersFault x.centers
/-- All places. -/
def allPl (m : Nat) : List (Pl m) := (List.range m).pmap (fun j h => ⟨j, h⟩) (fun _ h => List.mem_range.1 h)
theorem allPl_len (m : Nat) : (allPl m).length = m := by simp [allPl]
theorem allPl_at (m i : Nat) (h : i < (allPl m).length) : (allPl m)[i].1 = i := by simp [allPl]
/-- What is wrong with one list. -/
def faultAt (x : DIvf) (p : Nat) : Int := listFault x.centers p (x.lists.getD p ⟨[]⟩).items
theorem faultAt_eq (x : DIvf) {p : Nat} (h : p < x.lists.length) : faultAt x p = listFault x.centers p x.lists[p].items := by
  unfold faultAt
  simp [List.getD, List.getElem?_eq_getElem h]
theorem listsFrom_all {cs : List DCenter} {i : Nat} {ls : List DIvfList} (h : ∀ j (hj : j < ls.length), listFault cs (i + j) ls[j].items = 0) : listsFrom cs i ls = 0 := by
  induction ls generalizing i with
  | nil => rfl
  | cons l ls ih =>
    rw [listsFrom]
    have h0 := h 0 (by simp)
    simp only [Nat.add_zero, List.getElem_cons_zero] at h0
    rw [if_pos h0]
    refine ih fun j hj => ?_
    have := h (j + 1) (by simpa using hj)
    simpa [Nat.add_comm, Nat.add_left_comm] using this
theorem listsFrom_at {cs : List DCenter} {i k : Nat} {ls : List DIvfList} (hk : k < ls.length) (h : ∀ j (hj : j < k), listFault cs (i + j) (ls[j]'(by omega)).items = 0) (hn : listFault cs (i + k) ls[k].items ≠ 0) : listsFrom cs i ls = listFault cs (i + k) ls[k].items := by
  induction ls generalizing i k with
  | nil => simp at hk
  | cons l ls ih =>
    rw [listsFrom]
    match k with
    | 0 =>
      simp only [Nat.add_zero, List.getElem_cons_zero] at hn ⊢
      rw [if_neg hn]
    | k + 1 =>
      have h0 := h 0 (by omega)
      simp only [Nat.add_zero, List.getElem_cons_zero] at h0
      rw [if_pos h0]
      have e : i + (k + 1) = i + 1 + k := by omega
      have hk2 : k < ls.length := by simpa using hk
      rw [List.getElem_cons_succ, e] at hn ⊢
      refine ih hk2 (fun j hj => ?_) hn
      have := h (j + 1) (by omega)
      have e2 : i + (j + 1) = i + 1 + j := by omega
      rw [List.getElem_cons_succ, e2] at this
      exact this
theorem form_all {x : DIvf} (hc : centersFault x.centers = 0) (hl : x.lists.length = x.centers.length) (h : ∀ p ∈ allPl x.lists.length, faultAt x p.1 = 0) : formF x = 0 := by
  rw [formF, if_pos hc, if_pos hl]
  refine listsFrom_all fun j hj => ?_
  have hj2 : j < (allPl x.lists.length).length := by rw [allPl_len]; exact hj
  have := h _ (List.getElem_mem hj2)
  rw [allPl_at, faultAt_eq x hj] at this
  rw [Nat.zero_add]
  exact this
theorem pre_at {m : Nat} {pre : List (Pl m)} {p : Pl m} (h : pre ++ [p] <+: allPl m) : p.1 = pre.length ∧ ∀ j (hj : j < pre.length), pre[j].1 = j := by
  have hlen := h.length_le
  rw [List.length_append, List.length_singleton] at hlen
  have key : ∀ j (hj : j < (pre ++ [p]).length), (pre ++ [p])[j].1 = j := fun j hj => by
    have e := h.getElem hj
    rw [e]
    exact allPl_at m j _
  constructor
  · have := key pre.length (by simp)
    simpa using this
  · intro j hj
    have := key j (by simp; omega)
    rw [List.getElem_append_left hj] at this
    exact this
theorem form_at {x : DIvf} {pre : List (Pl x.lists.length)} {p : Pl x.lists.length} (hc : centersFault x.centers = 0) (hl : x.lists.length = x.centers.length) (hp : pre ++ [p] <+: allPl x.lists.length) (h : ∀ q ∈ pre, faultAt x q.1 = 0) (hn : faultAt x p.1 ≠ 0) : formF x = faultAt x p.1 := by
  obtain ⟨h1, h2⟩ := pre_at hp
  rw [formF, if_pos hc, if_pos hl]
  have hk : p.1 < x.lists.length := p.2
  rw [faultAt_eq x hk] at hn ⊢
  have := listsFrom_at (cs := x.centers) (i := 0) (ls := x.lists) (k := p.1) hk (fun j hj => ?_) (by rw [Nat.zero_add]; exact hn)
  · rw [Nat.zero_add] at this
    exact this
  · have hj2 : j < pre.length := by omega
    have h3 := h _ (List.getElem_mem hj2)
    rw [h2 j hj2, faultAt_eq x (by omega)] at h3
    rw [Nat.zero_add]
    exact h3
/-- The items of list j. -/
def itsL (ls : List DIvfList) (j : Nat) : List DItem := (ls.getD j ⟨[]⟩).items
theorem itsL_eq {ls : List DIvfList} {j : Nat} (h : j < ls.length) : itsL ls j = ls[j].items := by simp [itsL, List.getD, List.getElem?_eq_getElem h]
theorem lists_at {w : World} {al : Option Addr} {dl : Nat} {ls : List DIvfList} (h : (Lay.sl Lay.tIvfList).Reads w [.slice al ls.length dl] ls) (hp : 0 < ls.length) : ∃ (bL oL : Nat) (ia : Nat → Option Addr) (ic : Nat → Nat), al = some ⟨bL, oL, none⟩ ∧ bL < w.heap.size ∧
    ∀ j, j < ls.length → w.cell? ⟨bL, oL + j, none⟩ = some (.slice (ia j) (itsL ls j).length (ic j)) ∧ (Lay.sl Lay.tItem).Reads w [.slice (ia j) (itsL ls j).length (ic j)] (itsL ls j) := by
  obtain ⟨bL, oL, rfl, hbl⟩ := Lay.sl_addr h hp
  have key : ∀ j : Nat, ∃ q : Option Addr × Nat, j < ls.length → w.cell? ⟨bL, oL + j, none⟩ = some (.slice q.1 (itsL ls j).length q.2) ∧ (Lay.sl Lay.tItem).Reads w [.slice q.1 (itsL ls j).length q.2] (itsL ls j) := fun j => by
    by_cases hj : j < ls.length
    · obtain ⟨row, hc, hr⟩ := Lay.row_at h hj
      obtain ⟨a5, d5, rfl, R5⟩ := open_IvfList hr
      refine ⟨(a5, d5), fun _ => ?_⟩
      rw [itsL_eq hj]
      exact ⟨one_cell (hc 0 (by decide)), R5⟩
    · exact ⟨(none, 0), fun h => absurd h hj⟩
  obtain ⟨f, hf⟩ := Classical.axiomOfChoice key
  exact ⟨bL, oL, fun j => (f j).1, fun j => (f j).2, rfl, hbl, hf⟩

end Go.Proofs.YtggnnbdjihihiaaGreat

namespace Go.Proofs.YtggnnbdjihihiaaGreat
open Go.RowKit

/-- A list of items of the call's own; its blocks are B. -/
def GrowO (w : World) (lo : Nat) (v : Value) (ys : List DItem) (B : List Nat) : Prop :=
  ∃ rows bls, Grow Lay.tItem w lo 139 v rows ys bls ∧ bls.flatten.Nodup ∧ (∀ b ∈ bls.flatten, lo ≤ b ∧ ∀ o, w.frozen? ⟨b, o, none⟩ = false) ∧ B = v.ownBlock.toList ++ bls.flatten
theorem GrowO.nil (w : World) (lo : Nat) : GrowO w lo (.slice none 0 0) [] [] :=
  ⟨[], [], Grow.nil (World.ownsRow_nil _ _ _ _), by simp, by simp, by simp [Value.ownBlock]⟩
theorem own_kept {w w' : World} {base T sz : Nat} {v : Value} {n : Nat} {xs : List Value} (h : w.ownsRow base T sz v n xs) (hk : ∀ c, v.ownBlock = some c → w'.heap[c]? = w.heap[c]?) : w'.ownsRow base T sz v n xs := by
  refine ⟨h.1, ?_⟩
  rcases h.2 with h2 | ⟨g, cap, cur, hv, hg, hh, r⟩
  · exact Or.inl h2
  · exact Or.inr ⟨g, cap, cur, hv, hg, (hk g (by rw [hv]; rfl)).trans hh, r⟩
theorem GrowO.keep {w w' : World} {lo : Nat} {v : Value} {ys : List DItem} {B : List Nat} (h : GrowO w lo v ys B) (hk : ∀ b ∈ B, w'.heap[b]? = w.heap[b]?) : GrowO w' lo v ys B := by
  obtain ⟨rows, bls, h1, h2, h3, rfl⟩ := h
  have k1 : ∀ b ∈ bls.flatten, w'.heap[b]? = w.heap[b]? := fun b hb => hk b (List.mem_append.2 (Or.inr hb))
  exact ⟨rows, bls, h1.kept (own_kept h1.own fun c hc => hk c (List.mem_append.2 (Or.inl (by rw [hc]; simp)))) k1, h2, fun b hb => ⟨(h3 b hb).1, fun o => (frozen_of_heap (k1 b hb) o).trans ((h3 b hb).2 o)⟩, rfl⟩
theorem GrowO.lt {w : World} {lo : Nat} {v : Value} {ys : List DItem} {B : List Nat} (h : GrowO w lo v ys B) : ∀ b ∈ B, lo ≤ b ∧ b < w.heap.size := by
  obtain ⟨rows, bls, h1, h2, h3, rfl⟩ := h
  intro b hb
  rcases List.mem_append.1 hb with hb | hb
  · exact h1.own.lt b (by simpa using hb)
  · exact ⟨(h3 b hb).1, h1.sub_lt b hb⟩
theorem GrowO.done {w : World} {lo : Nat} {v : Value} {ys : List DItem} {B : List Nat} (h : GrowO w lo v ys B) (hn : ys.length ≤ 1000) : ∃ bl, (Lay.sl Lay.tItem).lies w [v] ys bl ∧ bl.Nodup ∧ (∀ b ∈ bl, ∀ o, w.frozen? ⟨b, o, none⟩ = false) ∧ ∀ b ∈ bl, b ∈ B := by
  obtain ⟨rows, bls, h1, h2, h3, rfl⟩ := h
  have hr := h1.reads (by omega)
  rcases h1.form with ⟨rfl, rfl⟩ | ⟨g, cap, rfl, hg, hgl, hcap⟩
  · exact ⟨[], ⟨none, 0, rfl, ⟨by simp, by simp⟩, Or.inl ⟨rfl, rfl⟩⟩, by simp, by simp, by simp⟩
  · by_cases h0 : ys = []
    · subst h0
      exact ⟨[], ⟨_, cap, rfl, ⟨hcap, by simp⟩, Or.inl ⟨rfl, rfl⟩⟩, by simp, by simp, by simp⟩
    · simp only [if_neg h0] at hr
      rcases hr with hr | ⟨h4, -⟩
      · refine ⟨_, hr, ?_, ?_, ?_⟩
        · rw [List.nodup_cons]
          exact ⟨fun hm => h1.off g hm rfl, h2⟩
        · intro b hm o
          rcases List.mem_cons.1 hm with rfl | hm
          · exact h1.own.frozenAt o
          · exact (h3 b hm).2 o
        · intro b hm
          rcases List.mem_cons.1 hm with rfl | hm
          · simp [Value.ownBlock]
          · exact List.mem_append.2 (Or.inr hm)
      · exact absurd h4 h0

/-- A row with data behind it, in blocks from lo on. -/
theorem subs_own {α : Type} {A : Lay α} {w : World} {rows : List (List Value)} {xs : List α} {base T g cap lo hi : Nat} (hown : w.ownsRow base T A.n (.slice (some ⟨g, 0, none⟩) xs.length cap) xs.length rows.flatten) (h : Lay.Subs A w rows xs lo hi) (hg : g < lo) (hn : xs.length ≤ 9223372036854775807) :
    ∃ bl, (Lay.sl A).Own w [.slice (some ⟨g, 0, none⟩) xs.length cap] xs bl ∧ ∀ b ∈ bl, b = g ∨ lo ≤ b := by
  obtain ⟨bls, hr, hb, hl, hnd, hi', hf⟩ := h
  have hG : Grow A w base T (.slice (some ⟨g, 0, none⟩) xs.length cap) rows xs bls := ⟨hown, hr, hb, hl, fun b hm e => by
    have e2 : g = b := by simpa [Value.ownBlock] using e
    have := (hi' b hm).1
    omega⟩
  have hrd := hG.reads hn
  by_cases h0 : xs = []
  · subst h0
    rcases hG.form with ⟨e, -⟩ | ⟨g2, cap2, e, -, -, hcap⟩
    · cases e
    · exact ⟨[], ⟨⟨_, cap, rfl, ⟨by simp, by simp⟩, Or.inl ⟨rfl, rfl⟩⟩, by simp, by simp⟩, by simp⟩
  · simp only [if_neg h0] at hrd
    rcases hrd with hrd | ⟨h4, -⟩
    · refine ⟨_, ⟨hrd, ?_, ?_⟩, ?_⟩
      · rw [List.nodup_cons]
        exact ⟨fun hm => hG.off g hm rfl, hnd⟩
      · intro b hm o
        rcases List.mem_cons.1 hm with rfl | hm
        · exact hown.frozenAt o
        · exact hf b hm o
      · intro b hm
        rcases List.mem_cons.1 hm with rfl | hm
        · exact Or.inl rfl
        · exact Or.inr (hi' b hm).1
    · exact absurd h4 h0
/-- The row in block GL holds n lists; list i holds f i. -/
def ListsO (w : World) (GL lo n : Nat) (f : Nat → List DItem) : Prop :=
  (GL < lo ∧ lo ≤ w.heap.size) ∧ ∃ (vs : List Value) (B : Nat → List Nat), w.ownsRow GL 91 1 (.slice (some ⟨GL, 0, none⟩) n n) n vs ∧ (∀ i (h : i < vs.length), GrowO w lo vs[i] (f i) (B i)) ∧ ∀ i j, i < vs.length → j < vs.length → i ≠ j → ∀ b ∈ B i, b ∉ B j
theorem ListsO.start {w : World} {GL lo n : Nat} (hlo : GL < lo ∧ lo ≤ w.heap.size) (h : w.ownsRow GL 91 1 (.slice (some ⟨GL, 0, none⟩) n n) n (List.replicate n (.slice none 0 0))) : ListsO w GL lo n fun _ => [] :=
  ⟨hlo, _, fun _ => [], h, fun i hi => by rw [List.getElem_replicate]; exact GrowO.nil _ _, by simp⟩
theorem ListsO.later {w w' : World} {GL lo n : Nat} {f : Nat → List DItem} (h : ListsO w GL lo n f) (hb : Below w.heap.size w w') : ListsO w' GL lo n f := by
  obtain ⟨hlo, vs, B, h1, h2, h3⟩ := h
  exact ⟨⟨hlo.1, Nat.le_trans hlo.2 hb.size⟩, vs, B, own_below h1 hb, fun i hi => (h2 i hi).keep fun b hm => hb.block b ((h2 i hi).lt b hm).2, h3⟩
theorem ListsO.kept {w w' : World} {GL lo n : Nat} {f : Nat → List DItem} (h : ListsO w GL lo n f) (hz : w.heap.size ≤ w'.heap.size) (hk : ∀ b, GL ≤ b → b < w.heap.size → w'.heap[b]? = w.heap[b]?) : ListsO w' GL lo n f := by
  obtain ⟨hlo, vs, B, h1, h2, h3⟩ := h
  exact ⟨⟨hlo.1, Nat.le_trans hlo.2 hz⟩, vs, B, own_kept h1 fun c hc => hk c (h1.lt c hc).1 (h1.lt c hc).2, fun i hi => (h2 i hi).keep fun b hm => hk b (by have := ((h2 i hi).lt b hm).1; have := hlo.1; omega) ((h2 i hi).lt b hm).2, h3⟩
theorem ListsO.congr {w : World} {GL lo n : Nat} {f g : Nat → List DItem} (h : ListsO w GL lo n f) (e : ∀ i, i < n → f i = g i) : ListsO w GL lo n g := by
  obtain ⟨hlo, vs, B, h1, h2, h3⟩ := h
  have hl : vs.length = n * 1 := h1.1
  exact ⟨hlo, vs, B, h1, fun i hi => by rw [← e i (by omega)]; exact h2 i hi, h3⟩
theorem ListsO.open {w : World} {GL lo n : Nat} {f : Nat → List DItem} (h : ListsO w GL lo n f) {p : Nat} (hp : p < n) : ∃ v rows bls, w.cell? ⟨GL, p, none⟩ = some v ∧ w.frozen? ⟨GL, p, none⟩ = false ∧ Grow Lay.tItem w lo 139 v rows (f p) bls ∧
    ∀ (w1 w' : World) (row : List Value) (x : DItem) (bl : List Nat) (g cap : Nat), Below w.heap.size w w1 → Lay.tItem.Own w1 row x bl → (∀ b ∈ bl, w.heap.size ≤ b ∧ b < w1.heap.size) →
      Grow Lay.tItem w' lo 139 (.slice (some ⟨g, 0, none⟩) ((f p).length + 1) cap) (rows ++ [row]) (f p ++ [x]) (bls ++ [bl]) → Ext (fun q => v.ownBlock = some q) w1 w' → (v.ownBlock = some g ∨ w1.heap.size ≤ g) →
      ListsO (w'.setCell ⟨GL, p, none⟩ (.slice (some ⟨g, 0, none⟩) ((f p).length + 1) cap)) GL lo n fun i => if i = p then f p ++ [x] else f i := by
  obtain ⟨hlo, vs, B, h1, h2, h3⟩ := h
  have hl : vs.length = n * 1 := h1.1
  have hp' : p < vs.length := by omega
  obtain ⟨rows, bls, g1, g2, g3, g4⟩ := h2 p hp'
  refine ⟨vs[p], rows, bls, ?_, h1.frozenAt p, g1, ?_⟩
  · rw [h1.cellAt p (by omega)]
    exact List.getElem?_eq_getElem hp'
  intro w1 w' row x bl g cap hb ho hbl hG hE hor
  have hGL := (h1.lt GL rfl).2
  have hlo1 := hlo.1
  have hlo2 := hlo.2
  have hs1 := hb.size
  have hvo : ∀ c, vs[p].ownBlock = some c → c ∈ B p := fun c hc => by rw [g4]; exact List.mem_append.2 (Or.inl (by rw [hc]; simp))
  have hlt : ∀ i (hi : i < vs.length), ∀ b ∈ B i, lo ≤ b ∧ b < w.heap.size := fun i hi => (h2 i hi).lt
  have kp : ∀ b, b < w.heap.size → b ∉ B p → (w'.setCell ⟨GL, p, none⟩ (.slice (some ⟨g, 0, none⟩) ((f p).length + 1) cap)).heap[b]? = w.heap[b]? ∨ b = GL := fun b hb1 hb2 => by
    by_cases e : b = GL
    · exact Or.inr e
    · refine Or.inl ?_
      rw [heap_setCell_other _ _ _ _ (by simpa using e)]
      exact (hE.block b (by omega) fun hq => hb2 (hvo b hq)).trans (hb.block b hb1)
  have hGLp : GL ∉ B p := fun hm => by have := (hlt p hp' GL hm).1; omega
  have hG' : w'.heap[GL]? = w.heap[GL]? := (hE.block GL (by omega) fun hq => hGLp (hvo GL hq)).trans (hb.block GL hGL)
  have o1 : w'.ownsRow GL 91 1 (.slice (some ⟨GL, 0, none⟩) n n) n vs := own_kept h1 fun c hc => by
    obtain rfl : GL = c := by simpa [Value.ownBlock] using hc
    exact hG'
  have o2 := own_setAll o1 p [.slice (some ⟨g, 0, none⟩) ((f p).length + 1) cap]
  have hgw := (hG.own.lt g rfl)
  have hgG : g ≠ GL := by have := hgw.1; omega
  have nb : ∀ b ∈ bl, b ≠ GL ∧ w'.heap[b]? = w1.heap[b]? := fun b hm => ⟨by have := hbl b hm; omega, hE.block b (hbl b hm).2 fun hq => by have := (hlt p hp' b (hvo b hq)).2; have := (hbl b hm).1; omega⟩
  have ob : ∀ b ∈ bls.flatten, b ≠ GL ∧ b < w.heap.size ∧ w'.heap[b]? = w.heap[b]? := fun b hm => by
    have hbB : b ∈ B p := by rw [g4]; exact List.mem_append.2 (Or.inr hm)
    have hbl2 := hlt p hp' b hbB
    exact ⟨by omega, hbl2.2, (hE.block b (by omega) fun hq => g1.off b hm hq).trans (hb.block b hbl2.2)⟩
  refine ⟨⟨hlo.1, by have := hE.size; simp; omega⟩, vs.set p (.slice (some ⟨g, 0, none⟩) ((f p).length + 1) cap), fun i => if i = p then g :: (bls ++ [bl]).flatten else B i, ?_, ?_, ?_⟩
  · have e : setFrom vs p [.slice (some ⟨g, 0, none⟩) ((f p).length + 1) cap] = vs.set p (.slice (some ⟨g, 0, none⟩) ((f p).length + 1) cap) := rfl
    rw [← e]
    exact o2
  · intro i hi
    have hi' : i < vs.length := by simpa using hi
    by_cases e : i = p
    · subst e
      rw [List.getElem_set_self]
      dsimp only
      rw [if_pos rfl, if_pos rfl]
      refine ⟨rows ++ [row], bls ++ [bl], hG.kept (own_kept hG.own fun c hc => ?_) fun b hm => ?_, ?_, fun b hm => ?_, rfl⟩
      · obtain rfl : g = c := by simpa [Value.ownBlock] using hc
        exact heap_setCell_other _ _ _ _ (by simpa using hgG)
      · rw [List.flatten_append] at hm
        rcases List.mem_append.1 hm with hm | hm
        · exact heap_setCell_other _ _ _ _ (by simpa using (ob b hm).1)
        · exact heap_setCell_other _ _ _ _ (by simpa using (nb b (by simpa using hm)).1)
      · rw [List.flatten_append, List.nodup_append]
        refine ⟨g2, by simpa using ho.2.1, fun b hm c hc => ?_⟩
        have h5 := (ob b hm).2.1
        have h6 := (hbl c (by simpa using hc)).1
        omega
      · rw [List.flatten_append] at hm
        rcases List.mem_append.1 hm with hm | hm
        · refine ⟨(g3 b hm).1, fun o => ?_⟩
          rw [World.frozen?_setCell, frozen_of_heap (ob b hm).2.2 o]
          exact (g3 b hm).2 o
        · have hm' : b ∈ bl := by simpa using hm
          refine ⟨by have := (hbl b hm').1; omega, fun o => ?_⟩
          rw [World.frozen?_setCell, frozen_of_heap (nb b hm').2 o]
          exact ho.2.2 b hm' o
    · rw [List.getElem_set_ne (fun h => e h.symm)]
      dsimp only
      rw [if_neg e, if_neg e]
      refine (h2 i hi').keep fun b hm => ?_
      have h5 := hlt i hi' b hm
      rcases kp b h5.2 (h3 i p hi' hp' e b hm) with h6 | h6
      · exact h6
      · omega
  · have key : ∀ i, i < vs.length → i ≠ p → ∀ b ∈ B i, b ∉ g :: (bls ++ [bl]).flatten := fun i hi e b hm hm2 => by
      have h5 := hlt i hi b hm
      rcases List.mem_cons.1 hm2 with rfl | hm2
      · rcases hor with h6 | h6
        · exact h3 i p hi hp' e b hm (hvo b h6)
        · omega
      · rw [List.flatten_append] at hm2
        rcases List.mem_append.1 hm2 with hm2 | hm2
        · exact h3 i p hi hp' e b hm (by rw [g4]; exact List.mem_append.2 (Or.inr hm2))
        · have := (hbl b (by simpa using hm2)).1; omega
    intro i j hi hj hij b hbi hbj
    have hi' : i < vs.length := by simpa using hi
    have hj' : j < vs.length := by simpa using hj
    simp only at hbi hbj
    by_cases e1 : i = p
    · by_cases e2 : j = p
      · omega
      · rw [if_pos e1] at hbi
        rw [if_neg e2] at hbj
        exact key j hj' e2 b hbj hbi
    · rw [if_neg e1] at hbi
      by_cases e2 : j = p
      · rw [if_pos e2] at hbj
        exact key i hi' e1 b hbi hbj
      · rw [if_neg e2] at hbj
        exact h3 i j hi' hj' hij b hbi hbj
theorem nodup_map {is : List Nat} (bl : Nat → List Nat) (h0 : is.Nodup) (h1 : ∀ i ∈ is, (bl i).Nodup) (h2 : ∀ i ∈ is, ∀ j ∈ is, i ≠ j → ∀ b ∈ bl i, b ∉ bl j) : (is.map bl).flatten.Nodup := by
  induction is with
  | nil => simp
  | cons i is ih =>
    rw [List.nodup_cons] at h0
    rw [List.map_cons, List.flatten_cons, List.nodup_append]
    refine ⟨h1 i (by simp), ih h0.2 (fun j hj => h1 j (by simp [hj])) (fun j hj k hk => h2 j (by simp [hj]) k (by simp [hk])), fun b hb c hc e => ?_⟩
    obtain ⟨l, hl, hcl⟩ := List.mem_flatten.1 hc
    obtain ⟨j, hj, rfl⟩ := List.mem_map.1 hl
    exact h2 i (by simp) j (by simp [hj]) (fun e => h0.1 (e ▸ hj)) b hb (e ▸ hcl)
theorem ListsO.done {w : World} {GL lo n : Nat} {f : Nat → List DItem} (h : ListsO w GL lo n f) (hn : n ≤ 1000) (hf : ∀ i, i < n → (f i).length ≤ 1000) : ∃ bl, (Lay.sl Lay.tIvfList).Own w [.slice (some ⟨GL, 0, none⟩) n n] ((List.range n).map fun i => ⟨f i⟩) bl ∧ ∀ b ∈ bl, b = GL ∨ lo ≤ b := by
  obtain ⟨hlo, vs, B, h1, h2, h3⟩ := h
  have hl : vs.length = n * 1 := h1.1
  have hl2 : vs.length = n := by omega
  have hbl : ∀ i : Nat, ∃ bl : List Nat, ∀ h : i < vs.length, (Lay.sl Lay.tItem).lies w [vs[i]] (f i) bl ∧ bl.Nodup ∧ (∀ b ∈ bl, ∀ o, w.frozen? ⟨b, o, none⟩ = false) ∧ ∀ b ∈ bl, b ∈ B i := fun i => by
    by_cases hi : i < vs.length
    · obtain ⟨bl, q⟩ := (h2 i hi).done (hf i (by omega))
      exact ⟨bl, fun _ => q⟩
    · exact ⟨[], fun h => absurd h hi⟩
  obtain ⟨bl, hq⟩ := Classical.axiomOfChoice hbl
  have hmem : ∀ b ∈ ((List.range n).map bl).flatten, ∃ i, ∃ _ : i < vs.length, b ∈ bl i := fun b hb => by
    obtain ⟨l, hl1, hb1⟩ := List.mem_flatten.1 hb
    obtain ⟨i, hi, rfl⟩ := List.mem_map.1 hl1
    exact ⟨i, by rw [hl2]; exact List.mem_range.1 hi, hb1⟩
  have hS : Lay.Subs Lay.tIvfList w (vs.map fun v => [v]) ((List.range n).map fun i => (⟨f i⟩ : DIvfList)) lo w.heap.size := by
    refine ⟨(List.range n).map bl, by simp [hl2], by simp, fun j j1 j2 j3 => ?_, ?_, fun b hb => ?_, fun b hb => ?_⟩
    · have hj : j < vs.length := by simpa using j2
      have := (hq j hj).1
      simp only [List.getElem_map, List.getElem_range]
      exact this
    · refine nodup_map bl List.nodup_range (fun i hi => (hq i (by rw [hl2]; exact List.mem_range.1 hi)).2.1) fun i hi j hj hij b hb1 hb2 => ?_
      have hi' : i < vs.length := by rw [hl2]; exact List.mem_range.1 hi
      have hj' : j < vs.length := by rw [hl2]; exact List.mem_range.1 hj
      exact h3 i j hi' hj' hij b ((hq i hi').2.2.2 b hb1) ((hq j hj').2.2.2 b hb2)
    · obtain ⟨i, hi, hm⟩ := hmem b hb
      exact (h2 i hi).lt b ((hq i hi).2.2.2 b hm)
    · obtain ⟨i, hi, hm⟩ := hmem b hb
      exact (hq i hi).2.2.1 b hm
  have hflat : (vs.map fun v => [v]).flatten = vs := by
    clear h1 h2 h3 hq hmem hS hl hl2 hbl
    induction vs with
    | nil => rfl
    | cons v vs ih => rw [List.map_cons, List.flatten_cons, ih]; rfl
  have hlen : ((List.range n).map fun i => (⟨f i⟩ : DIvfList)).length = n := by simp
  have hown : w.ownsRow GL 91 1 (.slice (some ⟨GL, 0, none⟩) ((List.range n).map fun i => (⟨f i⟩ : DIvfList)).length n) ((List.range n).map fun i => (⟨f i⟩ : DIvfList)).length (vs.map fun v => [v]).flatten := by rw [hflat, hlen]; exact h1
  obtain ⟨bl2, q1, q2⟩ := subs_own (A := Lay.tIvfList) hown hS hlo.1 (by rw [hlen]; omega)
  rw [hlen] at q1
  exact ⟨bl2, q1, q2⟩

end Go.Proofs.YtggnnbdjihihiaaGreat

namespace Go.Proofs.YtggnnbdjihihiaaGreat
open Go.RowKit

/-- The cells of placed lists. -/
def cellsP {m : Nat} (ia : Nat → Option Addr) (il ic : Nat → Nat) (zs : List (Pl m)) : List Value := (zs.map fun y => [Value.int .i64 (y.1 : Int), Value.slice (ia y.1) (il y.1) (ic y.1)]).flatten
theorem cellsP_snoc {m : Nat} (ia : Nat → Option Addr) (il ic : Nat → Nat) (zs : List (Pl m)) (y : Pl m) : cellsP ia il ic (zs ++ [y]) = cellsP ia il ic zs ++ [Value.int .i64 (y.1 : Int), Value.slice (ia y.1) (il y.1) (ic y.1)] := by simp [cellsP]
theorem own_grown {A B : World} {row : Option Nat} (h : A.grownBy B row) {n : Nat} (hr : ∀ r, row = some r → n ≤ r ∧ ∃ o : Obj, A.heap[r]? = some o ∧ o.isCells = false) {base T sz : Nat} {v : Value} {k : Nat} {xs : List Value} (ho : A.ownsRow base T sz v k xs) : B.ownsRow base T sz v k xs := by
  refine ⟨ho.1, ?_⟩
  rcases ho.2 with h2 | ⟨g, cap, cur, hv, hg, hh, r⟩
  · exact Or.inl h2
  · exact Or.inr ⟨g, cap, cur, hv, hg, grown_cells h hr hh (Or.inr rfl), r⟩
theorem own_cells {A : World} {base T sz : Nat} {v : Value} {k : Nat} {xs : List Value} (ho : A.ownsRow base T sz v k xs) {g : Nat} (hg : v.ownBlock = some g) {o : Obj} (hb : A.heap[g]? = some o) : o.isCells = true := by
  rcases ho.2 with ⟨rfl, -⟩ | ⟨g2, cap, cur, rfl, -, hh, -⟩
  · cases hg
  · have e : g2 = g := Option.some.inj hg
    rw [e] at hh
    rw [hh] at hb
    cases hb
    rfl
theorem own_form {A : World} {base T sz : Nat} {v : Value} {k : Nat} {xs : List Value} (ho : A.ownsRow base T sz v k xs) : ∃ a c, v = .slice a k c := by
  rcases ho.2 with ⟨rfl, rfl⟩ | ⟨g, cap, cur, rfl, -⟩
  · exact ⟨none, 0, rfl⟩
  · exact ⟨_, cap, rfl⟩
theorem listIn_op {P : Program} {ops : Array Oper} {Q : Exit → Act → World → Prop} {l n : Nat} {o : Oper} {rest : List Oper} {a : Act} {w : World} (hg : o.guard = none) (hd : noDefer o = true) (h : o.wp P a w (wpListIn (Fence.wide.inRound l) n P ops Q rest) Q) : wpListIn (Fence.wide.inRound l) n P ops Q (o :: rest) a w := by
  have hw : Region.wanted o (yielded ops a.tmps) = true := by simp [Region.wanted, hg]
  unfold wpListIn
  rw [if_pos hw]
  exact wp_in l n hd h

end Go.Proofs.YtggnnbdjihihiaaGreat

namespace Go.Proofs.YtggnnbdjihihiaaGreat
open Go.RowKit Go.Shelf
attribute [local go_sem] Oper.semAt_some

theorem infoPl : (Tryz.prog.info? 83).map (fun i => (i.zero, i.size, i.bytes)) = some (some (.agg #[.int .i64 0, .slice none 0 0]), 2, 32) := by kernel_rfl

set_option maxRecDepth 100000 in
set_option maxHeartbeats 8000000 in
theorem firstOfC {m : Nat} (zs : List (Pl m)) (ia : Nat → Option Addr) (il ic : Nat → Nat) (lb : Array Value) (n : Nat) (w : World) (hn : n ≤ 6) (hz : zs.length ≤ 6)
    (hseq : SeqStopsK Fence.wide 8 Tryz.prog 122 lb (fun x : Pl m => #[.agg #[.int .i64 (x.1 : Int), .slice (ia x.1) (il x.1) (ic x.1)]]) (KpS w.heap.size (fun _ => False)) (fun ys => ys = zs) (fun pre => pre <+: zs) zs.length w) :
    Calls Tryz.prog 87 #[.func (.func 122) #[] lb, .int .i64 (n : Int)] w fun e w' => ∃ v, e = .returned v ∧ w'.ownsRow w.heap.size 83 2 v (zs.take n).length (cellsP ia il ic (zs.take n)) ∧ Below w.heap.size w w' := by
  have nb : Below w.heap.size w ((w.alloc (.cells #[.int .i64 (n : Int)] 2)).alloc (.cells #[.slice none 0 0] 80)) := ((Below.refl _ _).alloc (Nat.le_refl _) _).alloc (by simp) _
  have bN : Box w.heap.size #[.int .i64 (n : Int)] 2 ((w.alloc (.cells #[.int .i64 (n : Int)] 2)).alloc (.cells #[.slice none 0 0] 80)) w.heap.size := (newBox (Nat.le_refl _)).grow _
  have bF : Box w.heap.size #[.slice none 0 0] 80 ((w.alloc (.cells #[.int .i64 (n : Int)] 2)).alloc (.cells #[.slice none 0 0] 80)) (w.heap.size + 1) := newBoxAt (by omega) (by simp)
  obtain ⟨i0, hi0, hz0, hz1, hz2⟩ := info_parts infoPl
  have HNB := hide nb
  refine (callsIn_wide (n := 9)).1 ?_
  refine callsIn_of_wp_marks Tryz.func87 rfl trivial ?_ rfl
  refine wpIn_wide.2 ?_
  simp only [Tryz.ntmps87, List.size_toArray, List.length_cons, List.length_nil, Nat.reduceAdd, Nat.reduceSub, Array.replicate_succ, Array.replicate_zero, List.push_toArray, List.append_toArray, List.nil_append, List.cons_append]
  go_wp2_with fail
  generalize (w.alloc (.cells #[.int .i64 (n : Int)] 2)).alloc (.cells #[.slice none 0 0] 80) = WL at *
  have hlw : w.heap.size + 1 < WL.heap.size := bF.lt
  refine wpIn_wide.1 (wpIn_rangeFunc_ownH (F := Fence.wide) (n := 9) rfl (by decide) (gf := 122) (lb := lb) rfl trivial (enters_of Tryz.func122 (by kernel_rfl) rfl)
    hseq KpS.trans (fun W l _ o' hl _ _ _ => KpS.put _ W l o' (by omega)) (unhide HNB) (fun _ => rfl)
    (fun pre W => (w.heap.size ≤ W.heap.size ∧ pre.length ≤ n) ∧ Box w.heap.size #[.int .i64 (n : Int)] 2 W w.heap.size ∧ (∃ v, Box w.heap.size #[v] 80 W (w.heap.size + 1) ∧ W.ownsRow (w.heap.size + 2) 83 2 v pre.length (cellsP ia il ic pre)) ∧ Below w.heap.size w W)
    (fun c pre W => c = .exit 0 ∧ ∃ pre' p v, pre = pre' ++ [p] ∧ pre'.length = n ∧ Box w.heap.size #[v] 80 W (w.heap.size + 1) ∧ W.ownsRow (w.heap.size + 2) 83 2 v pre'.length (cellsP ia il ic pre') ∧ Below w.heap.size w W)
    (fun s A B row hs hg hr => by
      obtain ⟨⟨q1, q2⟩, q3, ⟨v, q4, q5⟩, q6⟩ := hs
      exact ⟨⟨Nat.le_trans q1 hg.size, q2⟩, box_grown hg hr q3, ⟨v, box_grown hg hr q4, own_grown hg hr q5⟩, below_grown hg hr q6 (by omega) (Nat.le_refl _)⟩)
    (fun c s A B row hs hg hr => by
      obtain ⟨rfl, pre', p, v, rfl, q1, q4, q5, q6⟩ := hs
      exact ⟨rfl, pre', p, v, rfl, q1, box_grown hg hr q4, own_grown hg hr q5, below_grown hg hr q6 (by omega) (Nat.le_refl _)⟩)
    ⟨⟨(unhide HNB).size, Nat.zero_le _⟩, bN, ⟨_, bF, World.ownsRow_nil _ _ _ _⟩, unhide HNB⟩
    (fun y a' W => ∃ Bo, Box (w.heap.size + 2) #[.int .i64 (y.1 : Int), .slice (ia y.1) (il y.1) (ic y.1)] 83 W Bo ∧ a' = { tmps := #[.func (.func 122) #[] lb, .int .i64 (n : Int), undef, .pointer (some ⟨w.heap.size, 0, none⟩), .slice none 0 0, .pointer (some ⟨w.heap.size + 1, 0, none⟩), .pointer (some ⟨Bo, 0, none⟩), .func (.func 122) #[] lb, .agg #[.int .i64 (y.1 : Int), .slice (ia y.1) (il y.1) (ic y.1)], undef, undef, undef, undef, undef, undef, undef, undef, undef], defers := [] })
    (fun y a' _ A B row hs hg hr => by
      obtain ⟨Bo, q1, q2⟩ := hs
      exact ⟨Bo, box_grown hg hr q1, q2⟩)
    ?assign ?body ?done ?stop)
  case assign =>
    rintro l pre y W K ⟨⟨hs, hp⟩, b1, ⟨v, b2, ho⟩, hB1⟩ hK
    have hbn : Below W.heap.size W (W.alloc (.cells #[.int .i64 (y.1 : Int), .slice (ia y.1) (il y.1) (ic y.1)] 83)) := (Below.refl _ _).alloc (Nat.le_refl _) _
    have l2 := b2.lt
    gi_wp2
    exact hK _ _ (keepsFrom_below hbn) (KpS.of_below _ hbn hs) ⟨⟨Nat.le_trans hs hbn.size, hp⟩, b1.keep hbn, ⟨v, b2.keep hbn, own_below ho hbn⟩, hB1.trans (hbn.mono hB1.size)⟩ ⟨W.heap.size, newBox (by omega), rfl⟩
  case body =>
    rintro l pre y a' W hl ⟨r, hr⟩ ⟨⟨hs, hp⟩, b1, ⟨v, b2, ho⟩, hB1⟩ ⟨Bo, bO, rfl⟩ hlt
    obtain ⟨a9, c9, rfl⟩ := own_form ho
    have n0 := b1.at 0 _ rfl
    have s0 := b2.at 0 _ rfl
    have sf := b2.soft 0
    have sl := b2.lt
    have o0 := bO.at 0 _ rfl
    have o1 := bO.at 1 _ rfl
    have HB1 := hide b1
    have HB2 := hide b2
    have HBB := hide hB1
    have HO := hide ho
    by_cases hge : n ≤ pre.length
    · have hd : decide ((n : Int) ≤ (pre.length : Int)) = true := by rw [decide_eq_true_iff]; omega
      clear b1 b2 ho hB1 bO hseq
      gi_wp2
      exact ⟨KeepsFrom.refl _ _, rfl, pre, y, _, rfl, by omega, unhide HB2, unhide HO, unhide HBB⟩
    · have hd : decide ((n : Int) ≤ (pre.length : Int)) = false := by rw [decide_eq_false_iff_not]; omega
      clear b1 b2 ho hB1 bO hseq
      gi_wp2_with (gi_at_builtin; refine listIn_op rfl rfl (wp_append_lies _ _ _ 80 rfl (w.heap.size + 2) 83 i0 _ 2 32 Tryz.underlying80 hi0 hz0 hz1 hz2 rfl (by decide) _ pre.length (cellsP ia il ic pre) rfl ((unhide HO).alloc _) ⟨W.heap.size, 0, none⟩ 1 1 [.int .i64 (y.1 : Int), .slice (ia y.1) (il y.1) (ic y.1)] rfl rfl (World.news_of_block (cs := #[.int .i64 (y.1 : Int), .slice (ia y.1) (il y.1) (ic y.1)]) (fr := (0, 0)) (heap_alloc_new W _)) ?h1c (by decide) ?h63 ?hby ?hbs _ rfl ?_))
      case h1c => simp [Value.oneCell']
      case h63 => unfold maxLen; omega
      case hby => omega
      case hbs => simp; omega
      intro g cap w' h2 h3 _ h5
      have hg := grown_alloc h3
      have E := ext_of_grownBy hg
      have hlo : ∀ k, (Value.slice a9 pre.length c9).ownBlock = some k → w.heap.size + 2 ≤ k := fun k hk => ((unhide HO).lt k hk).1
      have b2' := (unhide HB2).ext E (fun e => by have := hlo _ e; omega)
      have b1' := (unhide HB1).ext E (fun e => by have := hlo _ e; omega)
      have s1 := b2'.at 0 _ rfl
      have sf1 := b2'.soft 0
      have hKF : Hid (KeepsFrom WL.heap.size W (w'.setCell ⟨w.heap.size + 1, 0, none⟩ (.slice (some ⟨g, 0, none⟩) (pre.length + 1) cap))) := (keepsFrom_ext E (fun k o _ hk hnc e => by rw [own_cells (unhide HO) e hk] at hnc; cases hnc)).trans ((KeepsOthers.setCell _ _ _).from _)
      have hKp : Hid (KpS w.heap.size (fun _ => False) W (w'.setCell ⟨w.heap.size + 1, 0, none⟩ (.slice (some ⟨g, 0, none⟩) (pre.length + 1) cap))) := (KpS.of_ext E hs (fun k hk e => by have := hlo k e; omega)).trans ⟨by simp, fun b hb _ => heap_setCell_other _ _ _ _ (by simp; omega)⟩
      have hF2 := hide (b2'.set 0 (.slice (some ⟨g, 0, none⟩) (pre.length + 1) cap))
      have hN2 := hide (b1'.other ⟨w.heap.size + 1, 0, none⟩ (.slice (some ⟨g, 0, none⟩) (pre.length + 1) cap) (by simp))
      have hO2 : Hid ((w'.setCell ⟨w.heap.size + 1, 0, none⟩ (.slice (some ⟨g, 0, none⟩) (pre.length + 1) cap)).ownsRow (w.heap.size + 2) 83 2 (.slice (some ⟨g, 0, none⟩) (pre.length + 1) cap) (pre.length + 1) (cellsP ia il ic pre ++ [.int .i64 (y.1 : Int), .slice (ia y.1) (il y.1) (ic y.1)])) := own_kept h2 fun c hc => heap_setCell_other _ _ _ _ (by have := (h2.lt c hc).1; simp; omega)
      have hB2 : Hid (Below w.heap.size w (w'.setCell ⟨w.heap.size + 1, 0, none⟩ (.slice (some ⟨g, 0, none⟩) (pre.length + 1) cap))) := ((unhide HBB).trans (E.below (unhide HBB).size (fun k hk e => by have := hlo k e; omega))).setCell (by simp) _
      have hsz : w.heap.size ≤ w'.heap.size := Nat.le_trans hs hg.size
      clear h2 h3 h5 hg E b2' b1' hlo n0 s0 sf sl o0 o1
      gi_wp2
      refine ⟨unhide hKF, unhide hKp, ⟨by simp; omega, by simp; omega⟩, unhide hN2, ⟨_, unhide hF2, ?_⟩, unhide hB2⟩
      rw [cellsP_snoc, List.length_append]
      exact unhide hO2
  case done =>
    rintro D xs W hD rfl ⟨⟨hs, hp⟩, b1, ⟨v, b2, ho⟩, hB1⟩ hK
    obtain ⟨a9, c9, rfl⟩ := own_form ho
    have s0 := b2.at 0 _ rfl
    have HBB := hide hB1
    have HO := hide ho
    have HK := hide hK
    clear b1 b2 ho hB1 hseq hK
    go_wp2_with fail
    refine ⟨by simp, .inl ⟨_, _, rfl, run_takeDeferred (unhide HK), ?_⟩⟩
    refine ⟨_, results_tmp rfl _ _ _, _, rfl, ?_, ?_⟩
    · rw [List.take_of_length_le hp]
      exact own_mono (show w.heap.size ≤ w.heap.size + 2 by omega) (own_grown (n := WL.heap.size) (grownBy_putObj' _ D (.deferred none)) (fun r e => by cases e; exact ⟨hD, _, unhide HK, rfl⟩) (unhide HO))
    · exact (unhide HBB).grown (grownBy_putObj' _ D (.deferred none)) (by have := (unhide HBB).size; omega) (fun k e => by cases e; omega)
  case stop =>
    rintro D c pre W hD hpre ⟨rfl, pre', p, v, rfl, q1, q4, q5, q6⟩ hK
    obtain ⟨a9, c9, rfl⟩ := own_form q5
    have s0 := q4.at 0 _ rfl
    have HBB := hide q6
    have HO := hide q5
    have HK := hide hK
    have hpt : zs.take n = pre' := by
      have h1 : pre' <+: zs := (List.prefix_append pre' [p]).trans hpre
      rw [← q1]
      exact (List.prefix_iff_eq_take.1 h1).symm
    have HPT := hide hpt
    clear q1 q4 q5 q6 hseq hK hpt
    gi_wp2
    go_wp2_with fail
    refine ⟨by simp, .inl ⟨_, _, rfl, run_takeDeferred (unhide HK), ?_⟩⟩
    refine ⟨_, results_tmp rfl _ _ _, _, rfl, ?_, ?_⟩
    · rw [unhide HPT]
      exact own_mono (show w.heap.size ≤ w.heap.size + 2 by omega) (own_grown (n := WL.heap.size) (grownBy_putObj' _ D (.deferred none)) (fun r e => by cases e; exact ⟨hD, _, unhide HK, rfl⟩) (unhide HO))
    · exact (unhide HBB).grown (grownBy_putObj' _ D (.deferred none)) (by have := (unhide HBB).size; omega) (fun k e => by cases e; omega)

end Go.Proofs.YtggnnbdjihihiaaGreat

namespace Go.Proofs.YtggnnbdjihihiaaGreat
open Go.RowKit

theorem fieldV (a b : Int) (w : World) : (Instr.field 46 (.agg #[.int .i64 a, .int .i64 b]) 1).run Tryz.prog w = .ok (.int .i64 b) w := by kernel_rfl
def cmpI (a b : Int) : Int := if a < b then -1 else if b < a then 1 else 0

set_option maxHeartbeats 400000 in
theorem nanC (a : Int) (w : World) : Calls Tryz.prog 144 #[.int .i64 a] w fun e w' => e = .returned (.bool false) ∧ w' = w := by
  have hd : (a != a) = false := by simp
  go_enter Tryz.func144, Tryz.ntmps144
  go_wp2_with fail
  go_ret
  exact ⟨rfl, rfl⟩
set_option maxHeartbeats 1000000 in
theorem compareC (a b : Int) (w : World) : Calls Tryz.prog 126 #[.int .i64 a, .int .i64 b] w fun e w' => e = .returned (.int .i64 (cmpI a b)) ∧ w' = w := by
  generalize hF0 : cmpI a b = F0
  have HF0 := hide hF0
  clear hF0
  go_enter Tryz.func126, Tryz.ntmps126
  go_wp2_with fail
  refine (nanC a _).mono ?_
  rintro e w1 ⟨rfl, rfl⟩
  go_wp2_with fail
  refine (nanC b _).mono ?_
  rintro e w1 ⟨rfl, rfl⟩
  by_cases h1 : a < b
  · have hF : F0 = -1 := by rw [← unhide HF0, cmpI, if_pos h1]
    have d1 : decide (a < b) = true := by simpa using h1
    clear h1
    go_wp2_with fail
    go_ret
    exact ⟨by rw [hF]; rfl, rfl⟩
  · have d1 : decide (a < b) = false := by simpa using h1
    by_cases h2 : b < a
    · have hF : F0 = 1 := by rw [← unhide HF0, cmpI, if_neg h1, if_pos h2]
      have d2 : decide (b < a) = true := by simpa using h2
      clear h1 h2
      go_wp2_with fail
      go_ret
      exact ⟨by rw [hF]; rfl, rfl⟩
    · have hF : F0 = 0 := by rw [← unhide HF0, cmpI, if_neg h1, if_neg h2]
      have d2 : decide (b < a) = false := by simpa using h2
      clear h1 h2
      go_wp2_with fail
      go_ret
      exact ⟨by rw [hF]; rfl, rfl⟩

set_option maxRecDepth 100000 in
set_option maxHeartbeats 4000000 in
theorem cmpC (cs : List DCenter) (q : List Int) (ac : Option Addr) (dc : Nat) (aq : Option Addr) (dq Bl Bq p r : Nat) (w : World) (h1 : (Lay.sl Lay.tCenter).Reads w [.slice ac cs.length dc] cs) (h2 : IsInts w (.slice aq q.length dq) q) (hc : centersFault cs = 0) (hq : vecFault q = 0)
    (cl : w.cell? ⟨Bl, 0, none⟩ = some (.slice ac cs.length dc)) (cq : w.cell? ⟨Bq, 0, none⟩ = some (.slice aq q.length dq)) (hp : p < cs.length) (hr : r < cs.length) :
    Calls Tryz.prog 125 #[.int .i64 (p : Int), .int .i64 (r : Int), .pointer (some ⟨Bl, 0, none⟩), .pointer (some ⟨Bq, 0, none⟩)] w fun e w' => e = .returned (.int .i64 (cmpI (hitAt cs q p).2 (hitAt cs q r).2)) ∧ Below w.heap.size w w' := by
  obtain ⟨b, off, rfl, hbl⟩ := Lay.sl_addr h1 (by omega)
  obtain ⟨row1, k1, r1⟩ := Lay.row_at h1 hp
  obtain ⟨a1, d1, rfl, R1⟩ := open_Center r1
  obtain ⟨row2, k2, r2⟩ := Lay.row_at h1 hr
  obtain ⟨a2, d2, rfl, R2⟩ := open_Center r2
  have HC1 := hide (cen_cell (k1 0 (by decide)))
  have HC2 := hide (cen_cell (k2 0 (by decide)))
  have e1 : (hitAt cs q p).2 = score3 cs[p].vec q := by simp [hitAt, List.getD, List.getElem?_eq_getElem hp]
  have e2 : (hitAt cs q r).2 = score3 cs[r].vec q := by simp [hitAt, List.getD, List.getElem?_eq_getElem hr]
  have HV1 := hide ((centersFault_zero hc).2 cs[p] (List.getElem_mem hp))
  have HV2 := hide ((centersFault_zero hc).2 cs[r] (List.getElem_mem hr))
  rw [e1, e2]
  have HI1 := hide (Lay.ints_reads R1)
  have HI2 := hide (Lay.ints_reads R2)
  have HIQ := hide h2
  have HVQ := hide hq
  have HBL := hide cl
  have HBQ := hide cq
  clear e1 e2 k1 k2 r1 r2 R1 R2 h1 h2 hc hq cl cq
  generalize cs[p] = c1 at *
  generalize cs[r] = c2 at *
  go_enter Tryz.func125, Tryz.ntmps125
  go_wp2_with fail
  refine wp_region_noPanic ?_
  refine wp_region_held_drew (S := fun w' => Below w.heap.size w w') (by kernel_rfl) (Below.refl _ _).drew (fun hHeld => ?_)
  generalize w.drew = wD at hHeld ⊢
  refine wpAnyH_take (i := 0) (oi := { dst := some 7, op := Go.Op.load 24 (Go.Operand.tmp 2), type := 24, pos := "l07_ivf.go:51", after := #[], guard := none }) (v := ?vc0) rfl (by kernel_rfl) (by kernel_rfl) (by kernel_rfl) (fun _ _ _ h => h) (Or.inl ⟨by rfl, ?hc0⟩) hHeld ?rc0
  case hc0 =>
    intro wS hSw
    have y0 := (cell_keep hSw (unhide HBL))
    clear hSw
    (try dsimp only at hSw)
    go_simp
    try with_reducible rfl
  case rc0 =>
  simp only [Act.put, List.setIfInBounds_toArray, List.set_cons_zero, List.set_cons_succ]
  refine wpAnyH_take (i := 1) (oi := { dst := some 8, op := Go.Op.move (Go.Operand.tmp 0), type := 2, pos := "l07_ivf.go:51", after := #[], guard := none }) (v := ?vc1) rfl (by kernel_rfl) (by kernel_rfl) (by kernel_rfl) (fun _ _ _ h => h) (Or.inl ⟨by rfl, ?hc1⟩) hHeld ?rc1
  case hc1 =>
    intro wS hSw
    (try dsimp only at hSw)
    go_simp
    try with_reducible rfl
  case rc1 =>
  simp only [Act.put, List.setIfInBounds_toArray, List.set_cons_zero, List.set_cons_succ]
  refine wpAnyH_take (i := 2) (oi := { dst := some 9, op := Go.Op.indexAddr 24 (Go.Operand.tmp 7) (Go.Operand.tmp 8), type := 0, pos := "l07_ivf.go:51", after := #[{ on := 0, ground := Go.Ground.data }, { on := 1, ground := Go.Ground.data }], guard := none }) (v := ?vc2) rfl (by kernel_rfl) (by kernel_rfl) (by kernel_rfl) (fun _ _ _ h => h) (Or.inl ⟨by rfl, ?hc2⟩) hHeld ?rc2
  case hc2 =>
    intro wS hSw
    (try dsimp only at hSw)
    go_simp
    try with_reducible rfl
  case rc2 =>
  simp only [Act.put, List.setIfInBounds_toArray, List.set_cons_zero, List.set_cons_succ]
  refine wpAnyH_take (i := 3) (oi := { dst := some 10, op := Go.Op.fieldAddr 145 (Go.Operand.tmp 9) 0, type := 0, pos := "l07_ivf.go:51", after := #[{ on := 2, ground := Go.Ground.data }], guard := none }) (v := ?vc3) rfl (by kernel_rfl) (by kernel_rfl) (by kernel_rfl) (fun _ _ _ h => h) (Or.inl ⟨by rfl, ?hc3⟩) hHeld ?rc3
  case hc3 =>
    intro wS hSw
    (try dsimp only at hSw)
    go_simp
    try with_reducible rfl
  case rc3 =>
  simp only [Act.put, List.setIfInBounds_toArray, List.set_cons_zero, List.set_cons_succ]
  refine wpAnyH_take (i := 4) (oi := { dst := some 11, op := Go.Op.load 28 (Go.Operand.tmp 10), type := 28, pos := "l07_ivf.go:51", after := #[{ on := 3, ground := Go.Ground.data }], guard := none }) (v := ?vc4) rfl (by kernel_rfl) (by kernel_rfl) (by kernel_rfl) (fun _ _ _ h => h) (Or.inl ⟨by rfl, ?hc4⟩) hHeld ?rc4
  case hc4 =>
    intro wS hSw
    have y0 := (cell_keep hSw (unhide HC1))
    clear hSw
    (try dsimp only at hSw)
    go_simp
    try with_reducible rfl
  case rc4 =>
  simp only [Act.put, List.setIfInBounds_toArray, List.set_cons_zero, List.set_cons_succ]
  refine wpAnyH_take (i := 5) (oi := { dst := some 12, op := Go.Op.load 28 (Go.Operand.tmp 3), type := 28, pos := "l07_ivf.go:51", after := #[], guard := none }) (v := ?vc5) rfl (by kernel_rfl) (by kernel_rfl) (by kernel_rfl) (fun _ _ _ h => h) (Or.inl ⟨by rfl, ?hc5⟩) hHeld ?rc5
  case hc5 =>
    intro wS hSw
    have y0 := (cell_keep hSw (unhide HBQ))
    clear hSw
    (try dsimp only at hSw)
    go_simp
    try with_reducible rfl
  case rc5 =>
  simp only [Act.put, List.setIfInBounds_toArray, List.set_cons_zero, List.set_cons_succ]
  refine wpAnyH_take (i := 8) (oi := { dst := some 15, op := Go.Op.load 24 (Go.Operand.tmp 2), type := 24, pos := "l07_ivf.go:51", after := #[], guard := none }) (v := ?vc8) rfl (by kernel_rfl) (by kernel_rfl) (by kernel_rfl) (fun _ _ _ h => h) (Or.inl ⟨by rfl, ?hc8⟩) hHeld ?rc8
  case hc8 =>
    intro wS hSw
    have y0 := (cell_keep hSw (unhide HBL))
    clear hSw
    (try dsimp only at hSw)
    go_simp
    try with_reducible rfl
  case rc8 =>
  simp only [Act.put, List.setIfInBounds_toArray, List.set_cons_zero, List.set_cons_succ]
  refine wpAnyH_take (i := 9) (oi := { dst := some 16, op := Go.Op.move (Go.Operand.tmp 1), type := 2, pos := "l07_ivf.go:51", after := #[], guard := none }) (v := ?vc9) rfl (by kernel_rfl) (by kernel_rfl) (by kernel_rfl) (fun _ _ _ h => h) (Or.inl ⟨by rfl, ?hc9⟩) hHeld ?rc9
  case hc9 =>
    intro wS hSw
    (try dsimp only at hSw)
    go_simp
    try with_reducible rfl
  case rc9 =>
  simp only [Act.put, List.setIfInBounds_toArray, List.set_cons_zero, List.set_cons_succ]
  refine wpAnyH_take (i := 10) (oi := { dst := some 17, op := Go.Op.indexAddr 24 (Go.Operand.tmp 15) (Go.Operand.tmp 16), type := 0, pos := "l07_ivf.go:51", after := #[{ on := 8, ground := Go.Ground.data }, { on := 9, ground := Go.Ground.data }], guard := none }) (v := ?vc10) rfl (by kernel_rfl) (by kernel_rfl) (by kernel_rfl) (fun _ _ _ h => h) (Or.inl ⟨by rfl, ?hc10⟩) hHeld ?rc10
  case hc10 =>
    intro wS hSw
    (try dsimp only at hSw)
    go_simp
    try with_reducible rfl
  case rc10 =>
  simp only [Act.put, List.setIfInBounds_toArray, List.set_cons_zero, List.set_cons_succ]
  refine wpAnyH_take (i := 11) (oi := { dst := some 18, op := Go.Op.fieldAddr 145 (Go.Operand.tmp 17) 0, type := 0, pos := "l07_ivf.go:51", after := #[{ on := 10, ground := Go.Ground.data }], guard := none }) (v := ?vc11) rfl (by kernel_rfl) (by kernel_rfl) (by kernel_rfl) (fun _ _ _ h => h) (Or.inl ⟨by rfl, ?hc11⟩) hHeld ?rc11
  case hc11 =>
    intro wS hSw
    (try dsimp only at hSw)
    go_simp
    try with_reducible rfl
  case rc11 =>
  simp only [Act.put, List.setIfInBounds_toArray, List.set_cons_zero, List.set_cons_succ]
  refine wpAnyH_take (i := 12) (oi := { dst := some 19, op := Go.Op.load 28 (Go.Operand.tmp 18), type := 28, pos := "l07_ivf.go:51", after := #[{ on := 11, ground := Go.Ground.data }], guard := none }) (v := ?vc12) rfl (by kernel_rfl) (by kernel_rfl) (by kernel_rfl) (fun _ _ _ h => h) (Or.inl ⟨by rfl, ?hc12⟩) hHeld ?rc12
  case hc12 =>
    intro wS hSw
    have y0 := (cell_keep hSw (unhide HC2))
    clear hSw
    (try dsimp only at hSw)
    go_simp
    try with_reducible rfl
  case rc12 =>
  simp only [Act.put, List.setIfInBounds_toArray, List.set_cons_zero, List.set_cons_succ]
  refine wpAnyH_take (i := 13) (oi := { dst := some 20, op := Go.Op.load 28 (Go.Operand.tmp 3), type := 28, pos := "l07_ivf.go:51", after := #[], guard := none }) (v := ?vc13) rfl (by kernel_rfl) (by kernel_rfl) (by kernel_rfl) (fun _ _ _ h => h) (Or.inl ⟨by rfl, ?hc13⟩) hHeld ?rc13
  case hc13 =>
    intro wS hSw
    have y0 := (cell_keep hSw (unhide HBQ))
    clear hSw
    (try dsimp only at hSw)
    go_simp
    try with_reducible rfl
  case rc13 =>
  simp only [Act.put, List.setIfInBounds_toArray, List.set_cons_zero, List.set_cons_succ]
  refine wpAnyH_ready (rs := [6]) (by kernel_rfl) (by simp) ?_
  refine AllReadyH.cons (o := { dst := some 13, op := Go.Op.call { callee := Go.Callee.value (Go.Operand.func 14), args := #[Go.Operand.tmp 11, Go.Operand.tmp 12], argTypes := #[28, 28] }, type := 46, pos := "l07_ivf.go:51", after := #[{ on := 4, ground := Go.Ground.data }, { on := 5, ground := Go.Ground.data }], guard := none }) rfl (fun K hK => ?_) AllReadyH.nil
  go_simp
  go_at_call 14
  refine (implScore3 _ _ _ _ _ ((unhide HI1).later hHeld) ((unhide HIQ).later hHeld) (unhide HV1) (unhide HVQ)).mono ?_
  rintro e w3 ⟨rfl, hb3⟩
  try go_wp2_with fail
  refine hK.out _ _ (hHeld.trans (hb3.mono hHeld.size)) (fun hHeld => ?_)
  clear hK K
  try simp only [Act.put, List.setIfInBounds_toArray, List.set_cons_zero, List.set_cons_succ]
  refine wpAnyH_take (i := 7) (oi := { dst := some 14, op := Go.Op.field 46 (Go.Operand.tmp 13) 1, type := 2, pos := "l07_ivf.go:51", after := #[{ on := 6, ground := Go.Ground.data }], guard := none }) (v := ?vc7) rfl (by kernel_rfl) (by kernel_rfl) (by kernel_rfl) (fun _ _ _ h => h) (Or.inl ⟨by rfl, ?hc7⟩) hHeld ?rc7
  case hc7 =>
    intro wS hSw
    have hfl := fieldV 0 (score3 c1.vec q) wS
    (try dsimp only at hSw)
    go_simp
    try with_reducible rfl
  case rc7 =>
  simp only [Act.put, List.setIfInBounds_toArray, List.set_cons_zero, List.set_cons_succ]
  refine wpAnyH_ready (rs := [14]) (by kernel_rfl) (by simp) ?_
  refine AllReadyH.cons (o := { dst := some 21, op := Go.Op.call { callee := Go.Callee.value (Go.Operand.func 14), args := #[Go.Operand.tmp 19, Go.Operand.tmp 20], argTypes := #[28, 28] }, type := 46, pos := "l07_ivf.go:51", after := #[{ on := 12, ground := Go.Ground.data }, { on := 13, ground := Go.Ground.data }, { on := 6, ground := Go.Ground.chain }], guard := none }) rfl (fun K hK => ?_) AllReadyH.nil
  go_simp
  go_at_call 14
  refine (implScore3 _ _ _ _ _ ((unhide HI2).later hHeld) ((unhide HIQ).later hHeld) (unhide HV2) (unhide HVQ)).mono ?_
  rintro e w4 ⟨rfl, hb4⟩
  try go_wp2_with fail
  refine hK.out _ _ (hHeld.trans (hb4.mono hHeld.size)) (fun hHeld => ?_)
  clear hK K
  try simp only [Act.put, List.setIfInBounds_toArray, List.set_cons_zero, List.set_cons_succ]
  refine wpAnyH_take (i := 15) (oi := { dst := some 22, op := Go.Op.field 46 (Go.Operand.tmp 21) 1, type := 2, pos := "l07_ivf.go:51", after := #[{ on := 14, ground := Go.Ground.data }], guard := none }) (v := ?vc15) rfl (by kernel_rfl) (by kernel_rfl) (by kernel_rfl) (fun _ _ _ h => h) (Or.inl ⟨by rfl, ?hc15⟩) hHeld ?rc15
  case hc15 =>
    intro wS hSw
    have hfl := fieldV 0 (score3 c2.vec q) wS
    (try dsimp only at hSw)
    go_simp
    try with_reducible rfl
  case rc15 =>
  simp only [Act.put, List.setIfInBounds_toArray, List.set_cons_zero, List.set_cons_succ]
  refine wpAnyH_ready (rs := [16]) (by kernel_rfl) (by simp) ?_
  refine AllReadyH.cons (o := { dst := some 23, op := Go.Op.call { callee := Go.Callee.value (Go.Operand.func 126), args := #[Go.Operand.tmp 14, Go.Operand.tmp 22], argTypes := #[2, 2] }, type := 3, pos := "l07_ivf.go:51", after := #[{ on := 7, ground := Go.Ground.data }, { on := 15, ground := Go.Ground.data }, { on := 14, ground := Go.Ground.chain }], guard := none }) rfl (fun K hK => ?_) AllReadyH.nil
  go_simp
  go_at_call 126
  refine (compareC _ _ _).mono ?_
  rintro e w5 ⟨rfl, rfl⟩
  try go_wp2_with fail
  refine hK.out _ _ hHeld (fun hHeld => ?_)
  clear hK K
  try simp only [Act.put, List.setIfInBounds_toArray, List.set_cons_zero, List.set_cons_succ]
  refine wpAnyH_take (i := 17) (oi := { dst := some 6, op := Go.Op.assign (Go.Operand.tmp 23), type := 3, pos := "l07_ivf.go:51", after := #[{ on := 16, ground := Go.Ground.data }, { on := 16, ground := Go.Ground.chain }, { on := 0, ground := Go.Ground.phase }, { on := 1, ground := Go.Ground.phase }, { on := 2, ground := Go.Ground.phase }, { on := 3, ground := Go.Ground.phase }, { on := 4, ground := Go.Ground.phase }, { on := 5, ground := Go.Ground.phase }, { on := 6, ground := Go.Ground.phase }, { on := 7, ground := Go.Ground.phase }, { on := 8, ground := Go.Ground.phase }, { on := 9, ground := Go.Ground.phase }, { on := 10, ground := Go.Ground.phase }, { on := 11, ground := Go.Ground.phase }, { on := 12, ground := Go.Ground.phase }, { on := 13, ground := Go.Ground.phase }, { on := 14, ground := Go.Ground.phase }, { on := 15, ground := Go.Ground.phase }, { on := 16, ground := Go.Ground.phase }], guard := none }) (v := ?vc17) rfl (by kernel_rfl) (by kernel_rfl) (by kernel_rfl) (fun _ _ _ h => h) (Or.inl ⟨by rfl, ?hc17⟩) hHeld ?rc17
  case hc17 =>
    intro wS hSw
    (try dsimp only at hSw)
    go_simp
    try with_reducible rfl
  case rc17 =>
  simp only [Act.put, List.setIfInBounds_toArray, List.set_cons_zero, List.set_cons_succ]
  refine wpAnyH_done (by kernel_rfl) ?_ _
  refine NoPanic.normal ?_
  have HB := hide hHeld
  clear hHeld
  go_wp2_with fail
  go_ret
  exact ⟨rfl, unhide HB⟩

end Go.Proofs.YtggnnbdjihihiaaGreat

namespace Go.Proofs.YtggnnbdjihihiaaGreat
open Go.RowKit

set_option maxRecDepth 100000 in
set_option maxHeartbeats 1000000 in
theorem implTab_pos (b off cap : Nat) (xs : List DItem) (w : World) (hn : xs.length ≤ 30) (h : (Lay.sl Lay.tItem).Reads w [.slice (some ⟨b, off, none⟩) xs.length cap] xs) (hbl : b < w.heap.size) :
    Calls Tryz.prog 53 #[.slice (some ⟨b, off, none⟩) xs.length cap] w fun e w' => e = .returned (.int .i64 (tabFrom none xs)) ∧ Below w.heap.size w w' := by
  generalize hF0 : tabFrom none xs = F0
  have H := hide h
  clear h
  go_enter Tryz.func53, Tryz.ntmps53
  go_wp2_with fail
  go_loopw [11] (fun i wr => ∃ k : Nat, k ≤ xs.length ∧ i = .int .i64 k ∧ tabFrom (idAhead xs k) (xs.drop k) = F0 ∧ Below w.heap.size w wr) (fun i _ => xs.length - (intOf i).toNat)
  case atStart => exact ⟨0, Nat.zero_le _, rfl, hF0, Below.refl _ _⟩
  case round =>
    obtain ⟨k, hk, rfl, hF, hB⟩ := hrel
    by_cases hlt : k < xs.length
    · obtain ⟨row, hc, hr⟩ := Lay.row_at (unhide H) hlt
      replace hr := hr.later hB
      obtain ⟨a1, d1, rfl, R1⟩ := open_Item hr
      have c0 : wr.cell? ⟨b, off + k * 2, none⟩ = some (.int .i64 (xs[k]).id) := (hB.cell (p := ⟨b, off + k * 2, none⟩) hbl).trans (hc 0 (by decide))
      have c1 : wr.cell? ⟨b, off + k * 2 + 1, none⟩ = some (.slice a1 (xs[k]).vec.length d1) := (hB.cell (p := ⟨b, off + k * 2 + 1, none⟩) hbl).trans (hc 1 (by decide))
      have HP : Hid (∀ m, k = m + 1 → ∃ z, idAhead xs (m + 1) = some z ∧ wr.cell? ⟨b, off + m * 2, none⟩ = some (.int .i64 z)) := by
        rintro m rfl
        have hm : m < xs.length := by omega
        obtain ⟨row2, hc2, hr2⟩ := Lay.row_at (unhide H) hm
        obtain ⟨a2, d2, rfl, -⟩ := open_Item hr2
        exact ⟨_, idAhead_succ xs m hm, (hB.cell (p := ⟨b, off + m * 2, none⟩) hbl).trans (hc2 0 (by decide))⟩
      rw [tabFrom_step xs k hlt] at hF
      clear hc hr
      generalize hx : xs[k] = x at *
      clear hx
      have hbr : b < wr.heap.size := Nat.lt_of_lt_of_le hbl hB.size
      have nb : Below wr.heap.size wr (wr.alloc (.cells #[.int .i64 x.id, .slice a1 x.vec.length d1] 139)) := (Below.refl _ _).alloc (Nat.le_refl _) _
      have I1 := hide ((Lay.ints_reads R1).later nb)
      have HF := hide hF
      have B1 := hide (hB.trans (nb.mono hB.size))
      clear R1 hF hB nb
      go_wp2_with fail
      refine (implId x.id _).mono ?_
      rintro e w1 ⟨rfl, rfl⟩
      rw [show (decide (1 ≤ x.id) && decide (x.id ≤ 999)) = idB x.id from rfl]
      cases hid : idB x.id with
      | false =>
        have hF := unhide HF
        rw [hid, if_neg (by simp)] at hF
        have HF2 := hide hF
        clear HF hF hid HP
        go_wp2_with fail
        go_ret
        exact ⟨by rw [← unhide HF2]; rfl, unhide B1⟩
      | true =>
        have hF := unhide HF
        rw [hid, if_pos rfl] at hF
        clear HF hid
        have HF := hide hF
        clear hF
        go_wp2_with fail
        refine (implFault _ x.vec _ (unhide I1)).mono ?_
        rintro e w1 ⟨rfl, rfl⟩
        by_cases hv : vecFault x.vec = 0
        · rw [hv]
          have hF := unhide HF
          rw [if_pos hv] at hF
          clear HF I1 hv
          have HF := hide hF
          clear hF
          by_cases hk0 : k = 0
          · subst hk0
            have hF := unhide HF
            rw [idAhead_zero, Option.all_none, if_pos rfl] at hF
            have HF3 := hide hF
            clear HF hF HP
            have g0 : decide ((0 : Int) < 0) = false := by decide
            go_wp2_with fail
            go_quiet (fail)
            all_goals go_wp2_with fail
            all_goals exact ⟨⟨0 + 1, by omega, by go_num, unhide HF3, below_drewN (unhide B1) _⟩, by simp [intOf]; omega⟩
          · obtain ⟨m, rfl⟩ : ∃ m, k = m + 1 := ⟨k - 1, by omega⟩
            obtain ⟨z, e1, p0⟩ := unhide HP m rfl
            have hF := unhide HF
            rw [e1, Option.all_some] at hF
            have HF3 := hide hF
            clear HF hF HP e1 hk0
            have g1 : decide ((0 : Int) < (m : Int) + 1) = true := by simp
            have g4 : IntKind.i64.wrap ((m : Int) + 1 - 1) = (m : Int) := by simp only [IntKind.wrap_i64]; omega
            have g9 : IntKind.i64.wrap (m : Int) = (m : Int) := by simp only [IntKind.wrap_i64]; omega
            have g2 : (m : Int) + 1 - 1 = (m : Int) := by omega
            have g3 : (m : Int) < (xs.length : Int) := by omega
            have g5 : (0 : Int) ≤ (m : Int) := by omega
            cases hq : decide (z < x.id) with
            | true =>
              have hF := unhide HF3
              rw [hq, if_pos rfl] at hF
              have HF4 := hide hF
              have q1 : decide (x.id ≤ z) = false := by simp at hq ⊢; omega
              clear hF HF3 hq
              go_wp2_with fail
              go_quiet (fail)
              all_goals go_wp2_with fail
              all_goals exact ⟨⟨m + 1 + 1, by omega, by go_num, unhide HF4, below_drewN (unhide B1) _⟩, by simp [intOf]; omega⟩
            | false =>
              have hF := unhide HF3
              rw [hq, if_neg (by simp)] at hF
              have HF4 := hide hF
              have q1 : decide (x.id ≤ z) = true := by simp at hq ⊢; omega
              clear hF HF3 hq
              go_wp2_with fail
              go_quiet (fail)
              all_goals go_wp2_with fail
              all_goals go_ret
              all_goals exact ⟨by rw [← unhide HF4]; rfl, below_drewN (unhide B1) _⟩
        · have hF := unhide HF
          rw [if_neg hv] at hF
          have hd : (vecFault x.vec != 0) = true := by simpa using hv
          have HF2 := hide hF
          clear HF hF HP I1 hv
          go_wp2_with fail
          go_ret
          exact ⟨by rw [← unhide HF2]; rfl, unhide B1⟩
    · obtain rfl : k = xs.length := by omega
      rw [List.drop_length] at hF
      have HF := hide hF
      have HB := hide hB
      clear hF hB H
      go_wp2_with fail
      go_ret
      exact ⟨by rw [← unhide HF]; rfl, unhide HB⟩

set_option maxRecDepth 10000 in
/-- TableFault of the program. -/
theorem implTab (v : Value) (xs : List DItem) (w : World) (h : (Lay.sl Lay.tItem).Reads w [v] xs) :
    Calls Tryz.prog 53 #[v] w fun e w' => e = .returned (.int .i64 (tableFault xs)) ∧ Below w.heap.size w w' := by
  obtain ⟨ao, cap, rfl⟩ := open_sl h
  by_cases hn : xs.length ≤ 30
  · have e : tableFault xs = tabFrom none xs := by unfold tableFault; rw [if_neg (by omega)]
    rw [e]
    by_cases hp : 0 < xs.length
    · obtain ⟨b, off, rfl, hbl⟩ := Lay.sl_addr h hp
      exact implTab_pos b off cap xs w hn h hbl
    · obtain rfl : xs = [] := List.eq_nil_of_length_eq_zero (by omega)
      clear h e hn hp
      go_enter Tryz.func53, Tryz.ntmps53
      go_wp2_with fail
      refine wp_loop_rounds 1 ?_
      rw [rounds_succ]
      go_wp2_with fail
      go_ret
      exact ⟨rfl, Below.refl _ _⟩
  · have e : tableFault xs = 2 := by unfold tableFault; rw [if_pos (by omega)]
    rw [e]
    have hd : decide ((30 : Int) < (xs.length : Int)) = true := by simp; omega
    clear h e
    go_enter Tryz.func53, Tryz.ntmps53
    go_wp2_with fail
    go_ret
    exact ⟨rfl, Below.refl _ _⟩

end Go.Proofs.YtggnnbdjihihiaaGreat

namespace Go.Proofs.YtggnnbdjihihiaaGreat
open Go.RowKit Go.Maps

def vecR : Value → Option (DataW Unit × List MemPlace)
  | .agg cs => match cs.toList with
    | [.int .i64 a, .int .i64 b, .int .i64 c] => some (vecD [a, b, c], [])
    | _ => none
  | _ => none
theorem vecR_mk (a b c : Int) : vecR (arr3 a b c) = some (vecD [a, b, c], []) := rfl
theorem vecR_inv {v : Value} {z : DataW Unit × List MemPlace} (h : vecR v = some z) : ∃ a b c, v = arr3 a b c ∧ z = (vecD [a, b, c], []) := by
  unfold vecR at h
  split at h
  · rename_i cs
    split at h
    · rename_i a b c he
      cases h
      refine ⟨a, b, c, ?_, rfl⟩
      obtain ⟨l⟩ := cs
      simp only at he
      rw [he]; rfl
    · cases h
  · cases h
theorem keyed64 : Keyed Tryz.prog 2 := int_keyed Tryz.underlying2
theorem zeroVec (w : World) : (zeroValue 101).run Tryz.prog w = .ok (arr3 0 0 0) w := by kernel_rfl
/-- Block b is a map that holds the items xs. -/
def TabAt (w : World) (b n : Nat) (xs : List DItem) : Prop := w.ownsMap Tryz.prog 2 vecR b n (mapD xs)
theorem TabAt.ext {S : Nat → Prop} {w w' : World} {b n : Nat} {xs : List DItem} (h : TabAt w b n xs) (e : Ext S w w') (hb : ¬ S b) : TabAt w' b n xs := by
  have hlt := World.ownsMap.lt h
  obtain ⟨es, clock, hb', r⟩ := h
  exact ⟨es, clock, (e.block b hlt hb).trans hb', r⟩
theorem TabAt.later {w w' : World} {b n : Nat} {xs : List DItem} (h : TabAt w b n xs) (e : Below w.heap.size w w') : TabAt w' b n xs := h.ext (ext_of_below e nowhere) (fun h => h)
theorem TabAt.lt {w : World} {b n : Nat} {xs : List DItem} (h : TabAt w b n xs) : b < w.heap.size := World.ownsMap.lt h
theorem TabAt.mono {w : World} {b n n' : Nat} {xs : List DItem} (h : TabAt w b n xs) (hn : n ≤ n') : TabAt w b n' xs := World.ownsMap.mono h hn
theorem ext_of_turned {w w' : World} {b : Nat} (h : w.mapTurned w' b) : Ext (fun q => q = b) w w' := by
  have g := h.grown
  obtain ⟨es, clock, es', clock', hb, rfl⟩ := h
  exact ⟨rfl, rfl, rfl, by simp [ChangeMaps.setBlock], fun k hk hn => g.block k hk (fun e => hn (by simpa using e))⟩
theorem key64 {a : Int} (h : (Lit.int .i64 a).wf = true) : keyOf Tryz.prog 2 (.int .i64 a) = some (.int .i64 a) := keyOf_int_mk Tryz.underlying2 h
/-- m[id] = vec. -/
theorem TabAt.put {w : World} {b n : Nat} {xs : List DItem} (h : TabAt w b n xs) (hn : n < 1000) {id : Int} (hw : (Lit.int .i64 id).wf = true) (x y z : Int) :
    ∃ w', (Instr.mapUpdate 94 (.map (some b)) (.int .i64 id) (arr3 x y z)).run Tryz.prog w = .ok () w' ∧ TabAt w' b (n + 1) (putI xs id [x, y, z]) ∧ Ext (fun q => q = b) w w' := by
  obtain ⟨w', h1, h2, h3⟩ := World.ownsMap.store h keyed64 Tryz.underlying94 (by unfold maxLen; omega) (key64 hw) (vecR_mk x y z)
  rw [put_mapD] at h2
  exact ⟨w', h1, h2, ext_of_turned h3⟩
/-- delete(m, id). -/
theorem TabAt.drop {w : World} {b n : Nat} {xs : List DItem} (h : TabAt w b n xs) {id : Int} (hw : (Lit.int .i64 id).wf = true) (ty : TypeId) :
    ∃ w', (Builtin.delete_ #[94, 2] ty #[.map (some b), .int .i64 id]).run Tryz.prog w = .ok (.tuple #[]) w' ∧ TabAt w' b n (dropI xs id) ∧ Ext (fun q => q = b) w w' := by
  obtain ⟨w', h1, h2, h3⟩ := World.ownsMap.drop h keyed64 Tryz.underlying94 (key64 hw) ty
  rw [del_mapD] at h2
  exact ⟨w', h1, h2, ext_of_turned h3⟩
/-- v, ok := m[id], where it is there. -/
theorem TabAt.look {w : World} {b n : Nat} {xs : List DItem} (h : TabAt w b n xs) (hr : Rising xs) {id : Int} (hw : (Lit.int .i64 id).wf = true) {x : DItem} (hx : x ∈ xs) (hid : x.id = id) :
    ∃ p q r, x.vec = [p, q, r] ∧ (Instr.lookup 94 (.map (some b)) (.int .i64 id) true).run Tryz.prog w = .ok (.tuple #[arr3 p q r, .bool true]) w ∧ (Instr.lookup 94 (.map (some b)) (.int .i64 id) false).run Tryz.prog w = .ok (arr3 p q r) w := by
  subst hid
  have hh : hasI xs x.id = true := by simp only [hasI, List.any_eq_true]; exact ⟨x, hx, by simp⟩
  obtain ⟨v, ps, hrun, hv⟩ := World.ownsMap.look_ok h keyed64 Tryz.underlying94 (zeroVec w) (vecR_mk 0 0 0) (key64 hw)
  obtain ⟨v2, ps2, hrun2, hv2⟩ := World.ownsMap.lookup h keyed64 Tryz.underlying94 (zeroVec w) (vecR_mk 0 0 0) (key64 hw)
  rw [at_mapD hr hx] at hv hv2
  obtain ⟨p, q, r, rfl, e⟩ := vecR_inv hv
  obtain ⟨p2, q2, r2, rfl, e2⟩ := vecR_inv hv2
  rw [has_mapD, hh] at hrun
  have k1 : x.vec = [p, q, r] := vecD_inj (congrArg Prod.fst e)
  have k2 : x.vec = [p2, q2, r2] := vecD_inj (congrArg Prod.fst e2)
  rw [k1] at k2
  simp only [List.cons.injEq, and_true] at k2
  obtain ⟨rfl, rfl, rfl⟩ := k2
  exact ⟨p, q, r, k1, hrun, hrun2⟩
theorem TabAt.miss {w : World} {b n : Nat} {xs : List DItem} (h : TabAt w b n xs) {id : Int} (hw : (Lit.int .i64 id).wf = true) (hi : hasI xs id = false) :
    ∃ p q r, (Instr.lookup 94 (.map (some b)) (.int .i64 id) true).run Tryz.prog w = .ok (.tuple #[arr3 p q r, .bool false]) w := by
  obtain ⟨v, ps, hrun, hv⟩ := World.ownsMap.look_ok h keyed64 Tryz.underlying94 (zeroVec w) (vecR_mk 0 0 0) (key64 hw)
  have hh : Maps.has (mapD xs) (.int .i64 id) = false := by rw [has_mapD]; exact hi
  rw [Maps.atKey_of_not_has hh] at hv
  obtain ⟨p, q, r, rfl, e⟩ := vecR_inv hv
  rw [hh] at hrun
  exact ⟨p, q, r, hrun⟩
theorem TabAt.len {w : World} {b n : Nat} {xs : List DItem} (h : TabAt w b n xs) (ty : TypeId) : (Builtin.len_ #[94] ty #[.map (some b)]).run Tryz.prog w = .ok (.int .i64 xs.length) w := by
  have := World.ownsMap.len h Tryz.underlying94 ty
  rwa [size_mapD] at this
theorem tabAt_new (w : World) : TabAt (w.alloc (.map #[] 0)) w.heap.size 0 [] := World.ownsMap_made w _ _ _

end Go.Proofs.YtggnnbdjihihiaaGreat

namespace Go.Proofs.YtggnnbdjihihiaaGreat
open Go.RowKit

theorem vec3 {zs : List Int} (h : vecFault zs = 0) : ∃ p q r, zs = [p, q, r] := by
  have hl := (vecFault_zero h).1
  match zs, hl with
  | [p, q, r], _ => exact ⟨p, q, r, rfl⟩
theorem Ext.drew1 {S : Nat → Prop} {a b : World} (h : Ext S a b) : Ext S a b.drew := ⟨h.os, h.tape, h.output, h.size, h.block⟩

set_option maxRecDepth 10000 in
theorem tableFrom_bad (v : Value) (xs : List DItem) (w : World) (h : (Lay.sl Lay.tItem).Reads w [v] xs) (hf : tableFault xs ≠ 0) :
    Calls Tryz.prog 55 #[v] w fun e w' => e = .returned (.tuple #[.map none, .int .i64 (tableFault xs)]) ∧ Below w.heap.size w w' := by
  have L := hide (implTab v xs w h)
  obtain ⟨ao, cap, rfl⟩ := open_sl h
  have hd : (tableFault xs != 0) = true := by simpa using hf
  clear h hf
  go_enter Tryz.func55, Tryz.ntmps55
  go_wp2_with fail
  refine (unhide L).mono ?_
  rintro e w1 ⟨rfl, hb⟩
  have HB := hide hb
  clear hb L
  go_wp2_with fail
  refine bodyPost_ret (v := .tuple #[.map none, .int .i64 (tableFault xs)]) (by simp [results, Tryz.results55, go_sem]) rfl ?_
  exact ⟨rfl, unhide HB⟩

set_option maxRecDepth 10000 in
set_option maxHeartbeats 1000000 in
theorem tableFrom_zero (ao : Option Addr) (cap : Nat) (w : World) (h : (Lay.sl Lay.tItem).Reads w [.slice ao 0 cap] []) :
    Calls Tryz.prog 55 #[.slice ao 0 cap] w fun e w' => (∃ b, e = .returned (.tuple #[.map (some b), .int .i64 0]) ∧ w.heap.size ≤ b ∧ TabAt w' b 30 []) ∧ Below w.heap.size w w' := by
  have L := hide (implTab _ [] w h)
  clear h
  rw [show tableFault [] = 0 from rfl] at L
  have hmk : ∀ W : World, (Instr.makeMap 94 (some (.int .i64 0))).run Tryz.prog W = .ok (.map (some W.heap.size)) (W.alloc (.map #[] 0)) := fun W => by kernel_rfl
  go_enter Tryz.func55, Tryz.ntmps55
  go_wp2_with fail
  refine (unhide L).mono ?_
  rintro e w1 ⟨rfl, hb⟩
  have hz := hb.size
  have HT := hide ((tabAt_new w1).mono (Nat.zero_le 30))
  have HB := hide (hb.alloc hb.size (.map #[] 0))
  clear hb L
  go_wp2_with fail
  refine wp_loop_rounds 1 ?_
  rw [rounds_succ]
  go_wp2_with fail
  refine bodyPost_ret (v := .tuple #[.map (some w1.heap.size), .int .i64 0]) (by simp [results, Tryz.results55, go_sem]) rfl ?_
  exact ⟨⟨_, rfl, hz, unhide HT⟩, unhide HB⟩

set_option maxRecDepth 100000 in
set_option maxHeartbeats 4000000 in
theorem tableFrom_pos (b off cap : Nat) (xs : List DItem) (w : World) (h : (Lay.sl Lay.tItem).Reads w [.slice (some ⟨b, off, none⟩) xs.length cap] xs) (hbl : b < w.heap.size) (hf : tableFault xs = 0) :
    Calls Tryz.prog 55 #[.slice (some ⟨b, off, none⟩) xs.length cap] w fun e w' => (∃ q, e = .returned (.tuple #[.map (some q), .int .i64 0]) ∧ w.heap.size ≤ q ∧ TabAt w' q 30 xs) ∧ Below w.heap.size w w' := by
  have L := hide (implTab _ xs w h)
  rw [hf] at L
  obtain ⟨hlen, hall, hris⟩ := tableFault_zero hf
  have HA := hide hall
  have HI := hide hris
  have H := hide h
  clear h hall hris hf
  have hmk : ∀ W : World, (Instr.makeMap 94 (some (.int .i64 xs.length))).run Tryz.prog W = .ok (.map (some W.heap.size)) (W.alloc (.map #[] 0)) := fun W => by kernel_rfl
  go_enter Tryz.func55, Tryz.ntmps55
  go_wp2_with fail
  refine (unhide L).mono ?_
  rintro e w1 ⟨rfl, hb⟩
  have hz := hb.size
  have HT := hide (tabAt_new w1)
  have HB := hide (hb.alloc hb.size (.map #[] 0))
  clear hb L
  go_wp2_with fail
  clear hmk
  generalize w1.heap.size = B at *
  go_loopw [18] (fun i wr => ∃ k : Nat, k ≤ xs.length ∧ i = .int .i64 k ∧ TabAt wr B k (xs.take k) ∧ Below w.heap.size w wr) (fun i _ => xs.length - (intOf i).toNat)
  case atStart => exact ⟨0, Nat.zero_le _, rfl, unhide HT, unhide HB⟩
  case round =>
    obtain ⟨k, hk, rfl, hT, hB⟩ := hrel
    clear HT HB
    by_cases hlt : k < xs.length
    · obtain ⟨row, hc, hr⟩ := Lay.row_at (unhide H) hlt
      replace hr := hr.later hB
      obtain ⟨a1, d1, rfl, R1⟩ := open_Item hr
      have c0 : wr.cell? ⟨b, off + k * 2, none⟩ = some (.int .i64 (xs[k]).id) := (hB.cell (p := ⟨b, off + k * 2, none⟩) hbl).trans (hc 0 (by decide))
      have c1 : wr.cell? ⟨b, off + k * 2 + 1, none⟩ = some (.slice a1 (xs[k]).vec.length d1) := (hB.cell (p := ⟨b, off + k * 2 + 1, none⟩) hbl).trans (hc 1 (by decide))
      obtain ⟨hid, hvf⟩ := unhide HA xs[k] (List.getElem_mem hlt)
      have HTK : Hid (putI (xs.take k) xs[k].id xs[k].vec = xs.take (k + 1)) := by
        show putI (xs.take k) xs[k].id xs[k].vec = xs.take (k + 1)
        rw [putI_last _ xs[k] (rising_take (unhide HI) hlt)]
        exact (List.take_succ_eq_append_getElem hlt).symm
      clear hc hr
      generalize hx : xs[k] = x at *
      clear hx
      obtain ⟨p, q, r, hv3⟩ := vec3 hvf
      have hbr : b < wr.heap.size := Nat.lt_of_lt_of_le hbl hB.size
      have hBl := hT.lt
      have nb : Below wr.heap.size wr (wr.alloc (.cells #[.int .i64 x.id, .slice a1 x.vec.length d1] 139)) := (Below.refl _ _).alloc (Nat.le_refl _) _
      have bI : Box wr.heap.size #[.int .i64 x.id, .slice a1 x.vec.length d1] 139 (wr.alloc (.cells #[.int .i64 x.id, .slice a1 x.vec.length d1] 139)) wr.heap.size := newBox (Nat.le_refl _)
      have I1 := (Lay.ints_reads R1).later nb
      replace I1 : IsInts (wr.alloc (.cells #[.int .i64 x.id, .slice a1 x.vec.length d1] 139)) (.slice a1 x.vec.length d1) [p, q, r] := by rw [← hv3]; exact I1
      rw [hv3] at hvf HTK
      replace hT := hT.later nb
      replace hB := hB.trans (nb.mono hB.size)
      have HHT := hide hT
      have HB := hide hB
      have HI1 := hide I1
      have HBI := hide bI
      have HV := hide hvf
      have hwf := id_wf hid
      have HW := hide hwf
      clear R1 hT hB nb I1 bI hvf hid hwf hv3
      go_wp2_with fail
      clear c0 c1
      have hbI := unhide HBI
      have hhT := unhide HHT
      have hI1 := unhide HI1
      clear HBI HHT HI1
      generalize hW0 : wr.alloc (.cells #[.int .i64 x.id, .slice a1 x.vec.length d1] 139) = W0 at *
      clear hW0
      have hI0 : wr.heap.size < W0.heap.size := hbI.lt
      have hDT : TabAt W0.drew B k (xs.take k) := hhT
      have hDI : IsInts W0.drew (.slice a1 x.vec.length d1) [p, q, r] := hI1
      refine wp_region_noPanic ?_
      refine wp_region_held_drew (S := fun w' => Ext (fun c => c = B) W0 w') (by kernel_rfl) (Ext.refl _ _).drew1 (fun hHeld => ?_)
      generalize W0.drew = wD at hHeld hDT hDI ⊢
      refine wpAnyH_take (i := 0) (oi := { dst := some 23, op := Go.Op.move (Go.Operand.tmp 5), type := 94, pos := "l04_table.go:49", after := #[], guard := none }) (v := ?v0) rfl (by kernel_rfl) (by kernel_rfl) (by kernel_rfl) (fun _ _ _ h => h) (Or.inl ⟨by rfl, ?h0⟩) hHeld ?r0
      case h0 =>
        intro wS hSw
        (try dsimp only at hSw)
        go_simp
        try with_reducible rfl
      case r0 =>
      simp only [Act.put, List.setIfInBounds_toArray, List.set_cons_zero, List.set_cons_succ]
      refine wpAnyH_take (i := 1) (oi := { dst := some 24, op := Go.Op.fieldAddr 139 (Go.Operand.tmp 7) 0, type := 0, pos := "l04_table.go:49", after := #[], guard := none }) (v := ?v1) rfl (by kernel_rfl) (by kernel_rfl) (by kernel_rfl) (fun _ _ _ h => h) (Or.inl ⟨by rfl, ?h1⟩) hHeld ?r1
      case h1 =>
        intro wS hSw
        (try dsimp only at hSw)
        go_simp
        try with_reducible rfl
      case r1 =>
      simp only [Act.put, List.setIfInBounds_toArray, List.set_cons_zero, List.set_cons_succ]
      refine wpAnyH_take (i := 2) (oi := { dst := some 25, op := Go.Op.load 2 (Go.Operand.tmp 24), type := 2, pos := "l04_table.go:49", after := #[{ on := 1, ground := Go.Ground.data }], guard := none }) (v := ?v2) rfl (by kernel_rfl) (by kernel_rfl) (by kernel_rfl) (fun _ _ _ h => h) (Or.inl ⟨by rfl, ?h2⟩) hHeld ?r2
      case h2 =>
        intro wS hSw
        have bx := hbI.ext hSw (by omega)
        have y0 := bx.at 0 _ rfl
        have y1 := bx.at 1 _ rfl
        clear bx hSw
        (try dsimp only at hSw)
        go_simp
        try with_reducible rfl
      case r2 =>
      simp only [Act.put, List.setIfInBounds_toArray, List.set_cons_zero, List.set_cons_succ]
      refine wpAnyH_take (i := 3) (oi := { dst := some 26, op := Go.Op.fieldAddr 139 (Go.Operand.tmp 7) 1, type := 0, pos := "l04_table.go:49", after := #[], guard := none }) (v := ?v3) rfl (by kernel_rfl) (by kernel_rfl) (by kernel_rfl) (fun _ _ _ h => h) (Or.inl ⟨by rfl, ?h3⟩) hHeld ?r3
      case h3 =>
        intro wS hSw
        (try dsimp only at hSw)
        go_simp
        try with_reducible rfl
      case r3 =>
      simp only [Act.put, List.setIfInBounds_toArray, List.set_cons_zero, List.set_cons_succ]
      refine wpAnyH_take (i := 4) (oi := { dst := some 27, op := Go.Op.load 28 (Go.Operand.tmp 26), type := 28, pos := "l04_table.go:49", after := #[{ on := 3, ground := Go.Ground.data }], guard := none }) (v := ?v4) rfl (by kernel_rfl) (by kernel_rfl) (by kernel_rfl) (fun _ _ _ h => h) (Or.inl ⟨by rfl, ?h4⟩) hHeld ?r4
      case h4 =>
        intro wS hSw
        have bx := hbI.ext hSw (by omega)
        have y0 := bx.at 0 _ rfl
        have y1 := bx.at 1 _ rfl
        clear bx hSw
        (try dsimp only at hSw)
        go_simp
        try with_reducible rfl
      case r4 =>
      simp only [Act.put, List.setIfInBounds_toArray, List.set_cons_zero, List.set_cons_succ]
      refine wpAnyH_ready (rs := [5]) (by kernel_rfl) (by simp) ?_
      refine AllReadyH.cons (o := { dst := some 28, op := Go.Op.call { callee := Go.Callee.value (Go.Operand.func 69), args := #[Go.Operand.tmp 27], argTypes := #[28] }, type := 116, pos := "l04_table.go:49", after := #[{ on := 4, ground := Go.Ground.data }], guard := none }) rfl (fun K hK => ?_) AllReadyH.nil
      go_simp
      go_at_call 69
      refine (vectorOf_ok _ p q r _ hDI (unhide HV)).mono ?_
      rintro e w3 ⟨rfl, hbw⟩
      have hT3 := hDT.later hbw
      try go_wp2_with fail
      refine hK.out _ _ (hHeld.trans (ext_of_below hbw _)) (fun hHeld => ?_)
      clear hK K
      try simp only [Act.put, List.setIfInBounds_toArray, List.set_cons_zero, List.set_cons_succ]
      refine wpAnyH_take (i := 6) (oi := { dst := some 22, op := Go.Op.move (Go.Operand.tmp 28), type := 116, pos := "l04_table.go:49", after := #[{ on := 5, ground := Go.Ground.data }], guard := none }) (v := ?v6) rfl (by kernel_rfl) (by kernel_rfl) (by kernel_rfl) (fun _ _ _ h => h) (Or.inl ⟨by rfl, ?h6⟩) hHeld ?r6
      case h6 =>
        intro wS hSw
        (try dsimp only at hSw)
        go_simp
        try with_reducible rfl
      case r6 =>
      simp only [Act.put, List.setIfInBounds_toArray, List.set_cons_zero, List.set_cons_succ]
      refine wpAnyH_take (i := 7) (oi := { dst := some 29, op := Go.Op.extract (Go.Operand.tmp 22) 0, type := 101, pos := "l04_table.go:49", after := #[{ on := 6, ground := Go.Ground.data }], guard := none }) (v := ?v7) rfl (by kernel_rfl) (by kernel_rfl) (by kernel_rfl) (fun _ _ _ h => h) (Or.inl ⟨by rfl, ?h7⟩) hHeld ?r7
      case h7 =>
        intro wS hSw
        (try dsimp only at hSw)
        go_simp
        try with_reducible rfl
      case r7 =>
      simp only [Act.put, List.setIfInBounds_toArray, List.set_cons_zero, List.set_cons_succ]
      refine wpAnyH_take (i := 8) (oi := { dst := some 30, op := Go.Op.extract (Go.Operand.tmp 22) 1, type := 2, pos := "l04_table.go:49", after := #[{ on := 6, ground := Go.Ground.data }, { on := 9, ground := Go.Ground.gcOnly Go.Departure.lateStores }], guard := none }) (v := ?v8) rfl (by kernel_rfl) (by kernel_rfl) (by kernel_rfl) (fun _ _ _ h => h) (Or.inl ⟨by rfl, ?h8⟩) hHeld ?r8
      case h8 =>
        intro wS hSw
        (try dsimp only at hSw)
        go_simp
        try with_reducible rfl
      case r8 =>
      simp only [Act.put, List.setIfInBounds_toArray, List.set_cons_zero, List.set_cons_succ]
      refine wpAnyH_ready (rs := [9]) (by kernel_rfl) (by simp) ?_
      refine AllReadyH.cons (o := { dst := none, op := Go.Op.mapUpdate 94 (Go.Operand.tmp 23) (Go.Operand.tmp 25) (Go.Operand.tmp 29), type := 0, pos := "l04_table.go:49", after := #[{ on := 0, ground := Go.Ground.data }, { on := 2, ground := Go.Ground.data }, { on := 7, ground := Go.Ground.data }, { on := 5, ground := Go.Ground.chain }, { on := 0, ground := Go.Ground.phase }, { on := 1, ground := Go.Ground.phase }, { on := 2, ground := Go.Ground.phase }, { on := 3, ground := Go.Ground.phase }, { on := 4, ground := Go.Ground.phase }, { on := 5, ground := Go.Ground.phase }, { on := 6, ground := Go.Ground.phase }, { on := 7, ground := Go.Ground.phase }, { on := 8, ground := Go.Ground.textOnly Go.Departure.lateStores }], guard := none }) rfl (fun K hK => ?_) AllReadyH.nil
      obtain ⟨w5, hrun, hT5, hE5⟩ := hT3.put (by omega) (unhide HW) p q r
      go_simp
      try simp only [hrun]
      try go_simp
      refine hK.out _ _ (hHeld.trans hE5) (fun hHeld => ?_)
      clear hK K
      try simp only [Act.put, List.setIfInBounds_toArray, List.set_cons_zero, List.set_cons_succ]
      refine wpAnyH_done (by kernel_rfl) ?_ _
      refine NoPanic.normal ?_
      have HT5 := hide hT5
      have HE5 := hide ((unhide HB).trans (hHeld.below (unhide HB).size (fun c hc e => by omega)))
      clear hHeld hT5 HB
      go_wp2_with fail
      go_roundw
      case rel => exact ⟨k + 1, by omega, by go_num, by rw [← unhide HTK]; exact unhide HT5, unhide HE5⟩
      case measure => simp [intOf]; omega
    · obtain rfl : k = xs.length := by omega
      rw [List.take_length] at hT
      have HT := hide (hT.mono hlen)
      have HB := hide hB
      clear hT hB H
      go_wp2_with fail
      refine bodyPost_ret (v := .tuple #[.map (some B), .int .i64 0]) (by simp [results, Tryz.results55, go_sem]) rfl ?_
      exact ⟨⟨_, rfl, hz, unhide HT⟩, unhide HB⟩

/-- tableFrom of a right table. -/
theorem tableFrom_ok (v : Value) (xs : List DItem) (w : World) (h : (Lay.sl Lay.tItem).Reads w [v] xs) (hf : tableFault xs = 0) :
    Calls Tryz.prog 55 #[v] w fun e w' => (∃ q, e = .returned (.tuple #[.map (some q), .int .i64 0]) ∧ w.heap.size ≤ q ∧ TabAt w' q 30 xs) ∧ Below w.heap.size w w' := by
  obtain ⟨ao, cap, rfl⟩ := open_sl h
  by_cases hp : 0 < xs.length
  · obtain ⟨b, off, rfl, hbl⟩ := Lay.sl_addr h hp
    exact tableFrom_pos b off cap xs w h hbl hf
  · obtain rfl : xs = [] := List.eq_nil_of_length_eq_zero (by omega)
    exact tableFrom_zero ao cap w h

end Go.Proofs.YtggnnbdjihihiaaGreat
