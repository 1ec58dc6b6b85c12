/-
  Texts of this proof in one: IvfFirst, StepMake, DrawCen, CenRow, CenScoreC, SpecCen, SpecNear, SpecBuild7.
  Their conditions stand in their theorems.
-/
import Derived.Test.YtggnnbdjihihiaaPq02
import Derived.Test.YtggnnbdjihihiaaPq01
import Derived.OwnWalk
import Derived.Test.YtggnnbdjihihiaaChecked
import Derived.Deep.RegionHeld3
import Derived.Deep.CutRange

namespace Go.Proofs.Ytggnnbdjihihiaa
open Go.RowKit

/-- The first list is a row of its own, apart from all else. -/
def FirstOK (w : World) (base : Nat) (rc rl : Value) (blsC : List (List Nat)) (rowsL : List (List Value)) (blsL : List (List Nat)) (ls : List DIvfList) : Prop :=
  ls ≠ [] → ∃ (v0 : Value) (rows0 : List (List Value)) (bls0 : List (List Nat)), rowsL[0]? = some [v0] ∧ Grow Lay.tItem w base 127 v0 rows0 (ls.getD 0 ⟨[]⟩).items bls0 ∧ (∀ c ∈ bls0.flatten, base ≤ c) ∧
    (∀ c, v0.ownBlock = some c → rc.ownBlock ≠ some c ∧ rl.ownBlock ≠ some c ∧ c ∉ blsC.flatten ∧ c ∉ (blsL.drop 1).flatten) ∧ ∀ c ∈ bls0.flatten, rc.ownBlock ≠ some c ∧ rl.ownBlock ≠ some c
theorem FirstOK.ext {S : Nat → Prop} {w w' : World} {base : Nat} {rc rl : Value} {blsC : List (List Nat)} {rowsL : List (List Value)} {blsL : List (List Nat)} {ls : List DIvfList} (F : FirstOK w base rc rl blsC rowsL blsL ls) (e : Ext S w w') (hs : ∀ c, base ≤ c → ¬ S c) : FirstOK w' base rc rl blsC rowsL blsL ls := fun h => by
  obtain ⟨v0, rows0, bls0, e0, G0, sb, s1, s2⟩ := F h
  exact ⟨v0, rows0, bls0, e0, G0.ext e (fun c hc => hs c (G0.own.lt c hc).1) (fun c hc => hs c (sb c hc)), sb, s1, s2⟩
theorem FirstOK.later {w w' : World} {base : Nat} {rc rl : Value} {blsC : List (List Nat)} {rowsL : List (List Value)} {blsL : List (List Nat)} {ls : List DIvfList} (F : FirstOK w base rc rl blsC rowsL blsL ls) (hb : Below w.heap.size w w') : FirstOK w' base rc rl blsC rowsL blsL ls := F.ext (ext_of_below hb nowhere) fun _ _ h => h
/-- Centers and lists, each in a row of its own, and the first list in a row of its own. -/
def Two0 (w : World) (base : Nat) (rc rl : Value) (cs : List DCenter) (ls : List DIvfList) : Prop :=
  ∃ rowsC blsC rowsL blsL, Grow Lay.tCenter w base 138 rc rowsC cs blsC ∧ Grow Lay.tIvfList w base 147 rl rowsL ls blsL ∧ (∀ b ∈ blsC.flatten, base ≤ b) ∧ (∀ b ∈ blsL.flatten, base ≤ b) ∧
    (∀ c ∈ blsL.flatten, rc.ownBlock ≠ some c) ∧ (∀ c ∈ blsC.flatten, rl.ownBlock ≠ some c) ∧ (∀ c, rc.ownBlock = some c → rl.ownBlock ≠ some c) ∧ FirstOK w base rc rl blsC rowsL blsL ls
theorem two0_nil (w : World) (base : Nat) : Two0 w base (.slice none 0 0) (.slice none 0 0) [] [] :=
  ⟨[], [], [], [], Grow.nil (World.ownsRow_nil _ _ _ _), Grow.nil (World.ownsRow_nil _ _ _ _), by simp, by simp, by simp, by simp, by simp [Value.ownBlock], fun h => absurd rfl h⟩
theorem Two0.ext {S : Nat → Prop} {w w' : World} {base : Nat} {rc rl : Value} {cs : List DCenter} {ls : List DIvfList} (h : Two0 w base rc rl cs ls) (e : Ext S w w') (hs : ∀ c, base ≤ c → ¬ S c) : Two0 w' base rc rl cs ls := by
  obtain ⟨a, b, c, d, g1, g2, s1, s2, x1, x2, x3, F⟩ := h
  exact ⟨a, b, c, d, g1.ext e (fun q hq => hs q (g1.own.lt q hq).1) (fun q hq => hs q (s1 q hq)), g2.ext e (fun q hq => hs q (g2.own.lt q hq).1) (fun q hq => hs q (s2 q hq)), s1, s2, x1, x2, x3, F.ext e hs⟩
theorem Two0.later {w w' : World} {base : Nat} {rc rl : Value} {cs : List DCenter} {ls : List DIvfList} (h : Two0 w base rc rl cs ls) (hb : Below w.heap.size w w') : Two0 w' base rc rl cs ls := h.ext (ext_of_below hb nowhere) fun _ _ h => h
theorem Two0.lower {w : World} {base b' : Nat} {rc rl : Value} {cs : List DCenter} {ls : List DIvfList} (h : Two0 w base rc rl cs ls) (hb : b' ≤ base) : Two0 w b' rc rl cs ls := by
  obtain ⟨a, b, c, d, g1, g2, s1, s2, x1, x2, x3, F⟩ := h
  refine ⟨a, b, c, d, g1.lower hb, g2.lower hb, fun q hq => Nat.le_trans hb (s1 q hq), fun q hq => Nat.le_trans hb (s2 q hq), x1, x2, x3, fun h => ?_⟩
  obtain ⟨v0, rows0, bls0, e0, G0, sb, t1, t2⟩ := F h
  exact ⟨v0, rows0, bls0, e0, G0.lower hb, fun q hq => Nat.le_trans hb (sb q hq), t1, t2⟩
theorem Two0.two {w : World} {base : Nat} {rc rl : Value} {cs : List DCenter} {ls : List DIvfList} (h : Two0 w base rc rl cs ls) : Two w base rc rl cs ls := by
  obtain ⟨a, b, c, d, g1, g2, s1, s2, x1, x2, x3, -⟩ := h
  exact ⟨a, b, c, d, g1, g2, s1, s2, x1, x2, x3⟩
theorem not_flat {bls : List (List Nat)} {bl : List Nat} {c : Nat} (h1 : c ∉ bls.flatten) (h2 : c ∉ bl) : c ∉ (bls ++ [bl]).flatten := by
  intro hc
  rw [List.flatten_append] at hc
  rcases List.mem_append.1 hc with hc | hc
  · exact h1 hc
  · exact h2 (by simpa using hc)
/-- One center more. -/
theorem Two0.cens {w0 w w' : World} {base g cap : Nat} {rc rl : Value} {cs : List DCenter} {ls : List DIvfList} {rowsC : List (List Value)} {blsC : List (List Nat)} {rowsL : List (List Value)} {blsL : List (List Nat)} {row : List Value} {x : DCenter} {bl : List Nat}
    (g2 : Grow Lay.tIvfList w base 147 rl rowsL ls blsL) (s1 : ∀ b ∈ blsC.flatten, base ≤ b) (s2 : ∀ b ∈ blsL.flatten, base ≤ b) (x1 : ∀ c ∈ blsL.flatten, rc.ownBlock ≠ some c) (x2 : ∀ c ∈ blsC.flatten, rl.ownBlock ≠ some c) (x3 : ∀ c, rc.ownBlock = some c → rl.ownBlock ≠ some c)
    (hG : Grow Lay.tCenter w' base 138 (.slice (some ⟨g, 0, none⟩) (cs.length + 1) cap) (rowsC ++ [row]) (cs ++ [x]) (blsC ++ [bl])) (e : Ext (fun q => rc.ownBlock = some q) w w') (hor : rc.ownBlock = some g ∨ w.heap.size ≤ g) (hb1 : ∀ b ∈ bl, base ≤ b) (hb2 : ∀ b ∈ bl, rl.ownBlock ≠ some b)
    (F : FirstOK w0 base rc rl blsC rowsL blsL ls) (hb : Below w0.heap.size w0 w) (hfr : ∀ c ∈ bl, w0.heap.size ≤ c) :
    Two0 w' base (.slice (some ⟨g, 0, none⟩) (cs.length + 1) cap) rl (cs ++ [x]) ls := by
  have hlt := g2.sub_lt
  have hsz := hb.size
  refine ⟨_, _, rowsL, blsL, hG, g2.ext e (fun c hc hs => x3 c hs hc) (fun c hc hs => x1 c hc hs), flat_add s1 hb1, s2, fun c hc hq => ?_, flat_add x2 hb2, fun c hc hq => ?_, fun h => ?_⟩
  · have eg : c = g := by simpa [Value.ownBlock] using hq.symm
    rcases hor with h | h
    · exact x1 c hc (by rw [h, eg])
    · have := hlt c hc; omega
  · have eg : c = g := by simpa [Value.ownBlock] using hc.symm
    rcases hor with h | h
    · exact x3 c (by rw [h, eg]) hq
    · have := (g2.own.lt c hq).2; omega
  · obtain ⟨v0, rows0, bls0, e0, G0, sb, t1, t2⟩ := F h
    refine ⟨v0, rows0, bls0, e0, (G0.later hb).ext e (fun c hc hq => (t1 c hc).1 hq) (fun c hc hq => (t2 c hc).1 hq), sb, fun c hc => ⟨fun hq => ?_, (t1 c hc).2.1, not_flat (t1 c hc).2.2.1 (fun hm => ?_), (t1 c hc).2.2.2⟩, fun c hc => ⟨fun hq => ?_, (t2 c hc).2⟩⟩
    · have eg : c = g := by simpa [Value.ownBlock] using hq.symm
      have := (G0.own.lt c hc).2
      rcases hor with h | h
      · exact (t1 c hc).1 (by rw [h, eg])
      · omega
    · have h1 := (G0.own.lt c hc).2
      have h2 := hfr c hm
      omega
    · have eg : c = g := by simpa [Value.ownBlock] using hq.symm
      have := G0.sub_lt c hc
      rcases hor with h | h
      · exact (t2 c hc).1 (by rw [h, eg])
      · omega
/-- One list more. -/
theorem Two0.listsA {w0 w w' : World} {base g cap : Nat} {rc rl : Value} {cs : List DCenter} {ls : List DIvfList} {rowsC : List (List Value)} {blsC : List (List Nat)} {rowsL : List (List Value)} {blsL : List (List Nat)} {v9 : Value} {x : DIvfList} {bl : List Nat}
    (g1 : Grow Lay.tCenter w base 138 rc rowsC cs blsC) (s1 : ∀ b ∈ blsC.flatten, base ≤ b) (s2 : ∀ b ∈ blsL.flatten, base ≤ b) (x1 : ∀ c ∈ blsL.flatten, rc.ownBlock ≠ some c) (x2 : ∀ c ∈ blsC.flatten, rl.ownBlock ≠ some c) (x3 : ∀ c, rc.ownBlock = some c → rl.ownBlock ≠ some c)
    (hG : Grow Lay.tIvfList w' base 147 (.slice (some ⟨g, 0, none⟩) (ls.length + 1) cap) (rowsL ++ [[v9]]) (ls ++ [x]) (blsL ++ [bl])) (e : Ext (fun q => rl.ownBlock = some q) w w') (hor : rl.ownBlock = some g ∨ w.heap.size ≤ g) (hb1 : ∀ b ∈ bl, base ≤ b) (hb2 : ∀ b ∈ bl, rc.ownBlock ≠ some b)
    (F : FirstOK w0 base rc rl blsC rowsL blsL ls) (hb : Below w0.heap.size w0 w) (hfr : ∀ c ∈ bl, w0.heap.size ≤ c) (gC0 : Grow Lay.tCenter w0 base 138 rc rowsC cs blsC) (gL0 : Grow Lay.tIvfList w0 base 147 rl rowsL ls blsL)
    {rows9 : List (List Value)} {bls9 : List (List Nat)} (G9 : Grow Lay.tItem w w0.heap.size 127 v9 rows9 x.items bls9) (hs9 : ∀ c ∈ bls9.flatten, w0.heap.size ≤ c) (hbase : base ≤ w0.heap.size) :
    Two0 w' base rc (.slice (some ⟨g, 0, none⟩) (ls.length + 1) cap) cs (ls ++ [x]) := by
  have hlt := g1.sub_lt
  have hsz := hb.size
  refine ⟨rowsC, blsC, _, _, g1.ext e (fun c hc hs => x3 c hc hs) (fun c hc hs => x2 c hc hs), hG, s1, flat_add s2 hb1, flat_add x1 hb2, fun c hc hq => ?_, fun c hc hq => ?_, fun _ => ?_⟩
  · have eg : c = g := by simpa [Value.ownBlock] using hq.symm
    rcases hor with h | h
    · exact x2 c hc (by rw [h, eg])
    · have := hlt c hc; omega
  · have eg : c = g := by simpa [Value.ownBlock] using hq.symm
    rcases hor with h | h
    · exact x3 c hc (by rw [h, eg])
    · have := (g1.own.lt c hc).2; omega
  · by_cases hls : ls = []
    · subst hls
      obtain rfl : rowsL = [] := List.eq_nil_of_length_eq_zero gL0.nrows
      obtain rfl : blsL = [] := List.eq_nil_of_length_eq_zero gL0.nbls
      refine ⟨v9, rows9, bls9, rfl, (G9.lower hbase).ext e (fun c hc hq => ?_) (fun c hc hq => ?_), fun c hc => Nat.le_trans hbase (hs9 c hc), fun c hc => ⟨fun hq => ?_, fun hq => ?_, fun hm => ?_, by simp⟩, fun c hc => ⟨fun hq => ?_, fun hq => ?_⟩⟩
      · have h1 := (G9.own.lt c hc).1; have h2 := (gL0.own.lt c hq).2; omega
      · have h1 := hs9 c hc; have h2 := (gL0.own.lt c hq).2; omega
      · have h1 := (G9.own.lt c hc).1; have h2 := (gC0.own.lt c hq).2; omega
      · have eg : c = g := by simpa [Value.ownBlock] using hq.symm
        have h1 := G9.own.lt c hc
        rcases hor with h | h
        · have h2 := (gL0.own.lt g h).2; omega
        · omega
      · have h1 := (G9.own.lt c hc).1; have h2 := gC0.sub_lt c hm; omega
      · have h1 := hs9 c hc; have h2 := (gC0.own.lt c hq).2; omega
      · have eg : c = g := by simpa [Value.ownBlock] using hq.symm
        have h1 := hs9 c hc
        have h3 := G9.sub_lt c hc
        rcases hor with h | h
        · have h2 := (gL0.own.lt g h).2; omega
        · omega
    · obtain ⟨v0, rows0, bls0, e0, G0, sb, t1, t2⟩ := F hls
      obtain ⟨l0, lr, rfl⟩ : ∃ l0 lr, ls = l0 :: lr := by
        cases ls with
        | nil => exact absurd rfl hls
        | cons l0 lr => exact ⟨l0, lr, rfl⟩
      obtain ⟨b0, br, rfl⟩ : ∃ b0 br, blsL = b0 :: br := by
        cases blsL with
        | nil => have := gL0.nbls; simp at this
        | cons b0 br => exact ⟨b0, br, rfl⟩
      obtain ⟨r0, rr, rfl⟩ : ∃ r0 rr, rowsL = r0 :: rr := by
        cases rowsL with
        | nil => have := gL0.nrows; simp at this
        | cons r0 rr => exact ⟨r0, rr, rfl⟩
      refine ⟨v0, rows0, bls0, by simpa using e0, ?_, sb, fun c hc => ⟨(t1 c hc).1, fun hq => ?_, (t1 c hc).2.2.1, ?_⟩, fun c hc => ⟨(t2 c hc).1, fun hq => ?_⟩⟩
      · have := (G0.later hb).ext e (fun c hc hq => (t1 c hc).2.1 hq) (fun c hc hq => (t2 c hc).2 hq)
        simpa using this
      · have eg : c = g := by simpa [Value.ownBlock] using hq.symm
        have := (G0.own.lt c hc).2
        rcases hor with h | h
        · exact (t1 c hc).2.1 (by rw [h, eg])
        · omega
      · have h3 := (t1 c hc).2.2.2
        rw [List.drop_one, List.tail_cons] at h3
        rw [List.cons_append, List.drop_one, List.tail_cons]
        exact not_flat h3 (fun hm => by have h1 := (G0.own.lt c hc).2; have h2 := hfr c hm; omega)
      · have eg : c = g := by simpa [Value.ownBlock] using hq.symm
        have := G0.sub_lt c hc
        rcases hor with h | h
        · exact (t2 c hc).2 (by rw [h, eg])
        · omega

end Go.Proofs.Ytggnnbdjihihiaa

namespace Go.Proofs.Ytggnnbdjihihiaa
open Go.RowKit

theorem step_make_full {P : Program} (w : World) {ops : Array Oper} {o : Oper} {a : Act} {K : Act → World → Prop} {Q : Exit → Act → World → Prop} {E : Prop}
    (hg : o.guard = none) (l c : Operand) (t : TypeId) (hop : o.op = Op.makeSlice t l c)
    (base : Nat) (e : TypeId) (i : TypeInfo) (z : Value) (size : Nat) (h1 : P.underlying t = some (.slice e)) (h2 : P.info? e = some i) (h3 : i.zero = some z) (h4 : i.size = size)
    (kl kc : IntKind) (L C : Int) (n : Nat) (hl : a.eval l = .int kl L) (hc : a.eval c = .int kc C) (hL : L = (n : Int)) (hC : C = (n : Int)) (b2 : i.bytes * n ≤ 281474976710656) (b3 : n ≤ maxLen) (b4 : base ≤ w.heap.size)
    (hK : ∀ w', w'.ownsRow base e size (.slice (some ⟨w.heap.size, 0, none⟩) n n) n (madeCells z.cells (n * size)).toList → w.grownBy w' none → K (a.put o.dst (.slice (some ⟨w.heap.size, 0, none⟩) n n)) w') :
    if Region.wanted o (yielded ops a.tmps) = true then Oper.wp P o a w K Q else E := by
  have hw : Region.wanted o (yielded ops a.tmps) = true := by simp [Region.wanted, hg]
  rw [if_pos hw]
  obtain ⟨w', hrun, r1, r2⟩ := run_make_full (P := P) w base t e i z size h1 h2 h3 h4 kl kc n b2 b3 b4
  subst hL
  subst hC
  unfold Oper.wp
  simp [execOp, hop, hl, hc, hrun, Result.andThen, Oper.upon]
  exact hK w' r1 r2
theorem made_nil (n : Nat) : (madeCells (Value.agg #[.slice none 0 0]).cells (n * 1)).toList = List.replicate n (.slice none 0 0) := by
  rw [show (Value.agg #[Value.slice none 0 0]).cells = #[Value.slice none 0 0] from rfl, toList_madeCells_one, Nat.mul_one]

end Go.Proofs.Ytggnnbdjihihiaa

namespace Go.Proofs.Ytggnnbdjihihiaa
open Go.RowKit

theorem infoCenD : (Try.prog.info? 138).map (fun i => (i.zero, i.size, i.bytes)) = some (some (.agg #[.slice none 0 0]), 1, 24) := by kernel_rfl
theorem flat_ones (n : Nat) (v : Value) : (List.replicate n [v]).flatten = List.replicate n v := by
  induction n with
  | zero => rfl
  | succ n ih => rw [List.replicate_succ, List.flatten_cons, ih]; rfl
theorem grow7 {w : World} {base : Nat} {v : Value} (h : w.ownsRow base 138 1 v 7 (List.replicate 7 (.slice none 0 0))) : Grow Lay.tCenter w base 138 v (List.replicate 7 [.slice none 0 0]) (List.replicate 7 ⟨[]⟩) (List.replicate 7 []) := by
  refine ⟨?_, by rw [List.length_replicate, List.length_replicate], by rw [List.length_replicate, List.length_replicate], fun j h1 h2 h3 => ?_, fun b hb => (flat_none _ b hb).elim⟩
  · rw [List.length_replicate, flat_ones]; exact h
  · rw [List.getElem_replicate, List.getElem_replicate, List.getElem_replicate]
    exact ⟨none, 0, rfl, ⟨by simp, by simp⟩, Or.inl ⟨rfl, rfl⟩⟩
/-- Some centers of the draw's own; the source has gone on. -/
def CensPost (b m : Nat) (cv : Value) (w : World) (e : Ending) (w' : World) : Prop :=
  ∃ (v : Value) (rows : List (List Value)) (cs : List DCenter) (bls : List (List Nat)) (m' : Nat), e = .returned v ∧ Grow Lay.tCenter w' w.heap.size 138 v rows cs bls ∧ (∀ c ∈ bls.flatten, w.heap.size ≤ c) ∧ cs.length ≤ 7 ∧
    SrcAt w' b cv m' ∧ m' ≤ m + 100 ∧ IsCode b w' cv ∧ w.grownBy w' (some b)

set_option maxRecDepth 10000 in
set_option maxHeartbeats 2000000 in
theorem drawCen (b m : Nat) (cv : Value) (w : World) (hs : SrcAt w b cv m) (hc : IsCode b w cv) (hm : m ≤ 1000000) :
    Calls Try.prog 103 #[.pointer (some ⟨b, 0, none⟩)] w (CensPost b m cv w) := by
  unfold CensPost
  have hbw := hs.lt
  have nb : Below w.heap.size w (w.alloc (.cells #[] 138)) := (Below.refl w.heap.size w).alloc (Nat.le_refl _) (.cells #[] 138)
  have G0 : Grow Lay.tCenter (w.alloc (.cells #[] 138)) w.heap.size 138 (.slice (some ⟨w.heap.size, 0, none⟩) 0 0) [] [] [] := Grow.nil (World.ownsRow_lit w #[] 0 (Nat.le_refl _) (Nat.zero_le _) rfl)
  have L := next b m cv 4 (w.alloc (.cells #[] 138)) (hs.on nb) (hc.on (Nat.le_of_lt hbw) nb) (by omega) (by omega) (by omega)
  have HL := hide L
  have HG := hide G0
  have HN := hide nb
  clear L G0 nb hs hc
  go_enter Try.func103, Try.ntmps103
  go_wp2_with fail
  refine (unhide HL).mono ?_
  rintro e w1 ⟨r, rfl, hr, s1, c1, g1⟩
  have hr2 : r ≤ 3 := by omega
  have HG1 := hide ((unhide HG).grown g1 hbw (by simp))
  have HS1 := hide s1
  have HC1 := hide c1
  have HGR1 : Hid (w.grownBy w1 (some b)) := ⟨g1.os.trans (unhide HN).os, g1.tape.trans (unhide HN).tape, g1.output.trans (unhide HN).output, Nat.le_trans (unhide HN).size g1.size, fun i hi hn => (g1.block i (Nat.lt_of_lt_of_le hi (unhide HN).size) hn).trans ((unhide HN).block i hi)⟩
  clear s1 c1 g1 HL HG HN hr
  go_wp2_with fail
  go_loopw [3, 4] (fun v kk wr => ∃ (j : Nat) (rows : List (List Value)) (cs : List DCenter) (bls : List (List Nat)) (m' : Nat), j ≤ 4 ∧ kk = .int .i64 j ∧ Grow Lay.tCenter wr w.heap.size 138 v rows cs bls ∧ (∀ c ∈ bls.flatten, w.heap.size ≤ c) ∧ (∀ c ∈ cs, vecFault c.vec = 0) ∧ cs.length + j = r + 1 ∧
      SrcAt wr b cv m' ∧ m' + 9 * j ≤ m + 40 ∧ IsCode b wr cv ∧ w.grownBy wr (some b)) (fun _ kk _ => (intOf kk).toNat)
  case atStart => exact ⟨r + 1, [], [], [], m + 1, by omega, by go_num, unhide HG1, by simp, by simp, by simp, unhide HS1, by omega, unhide HC1, unhide HGR1⟩
  case round =>
    obtain ⟨j, rows, cs, bls, m', hj, rfl, hG, hsf, hcv, hlen, hS, hm', hC, hgr⟩ := hrel
    clear HG1 HS1 HC1 HGR1
    by_cases hlt : 0 < j
    · have L := draw b m' cv wr hS hC (by omega)
      have HL2 := hide L
      have HG := hide hG
      have HSF := hide hsf
      have HCV := hide hcv
      have HGR := hide hgr
      have HLE := hide hlen
      have hcl : cs.length ≤ 4 := by omega
      clear L hG hsf hcv hS hC hgr hlen
      go_wp2_with fail
      refine (unhide HL2).mono ?_
      rintro e w3 ⟨vd, ds, rfl, hd3, hdr, hod, s3, c3, g3⟩
      have hz3 := g3.size
      have hG3 := (unhide HG).grown g3 hbw (unhide HSF)
      have hGR3 : w.grownBy w3 (some b) := grown_trans (unhide HGR) g3
      have hdw : ∀ z ∈ ds, (Lit.int .i64 z).wf = true := fun z hz => wf_of_bd (by have := hdr z hz; omega)
      rw [← hd3] at hod
      obtain ⟨bl9, ⟨hl9, -, -⟩, hi9⟩ := Lay.ownInts hdw (by omega) hod
      obtain ⟨a9, d9, rfl⟩ := open_sl ⟨bl9, hl9⟩
      have hlC : Lay.tCenter.lies w3 [.slice a9 ds.length d9] ⟨ds⟩ bl9 := hl9
      have hoff : ∀ c ∈ bl9, u3.ownBlock ≠ some c := fun c hc e => by
        have h1 := (hi9 c hc).1
        have h2 := ((unhide HG).own.lt c e).2
        omega
      have hwz : w.heap.size ≤ w3.heap.size := hGR3.size
      have HSF4 : Hid (∀ c ∈ (bls ++ [bl9]).flatten, w.heap.size ≤ c) := flat_add (unhide HSF) (fun c hc => by have := (hi9 c hc).1; have := (unhide HGR).size; omega)
      have HCV4 : Hid (∀ c ∈ cs ++ [(⟨ds⟩ : DCenter)], vecFault c.vec = 0) := fun c hc => by
        rcases List.mem_append.1 hc with hc | hc
        · exact unhide HCV c hc
        · rw [List.mem_singleton.1 hc]; exact vec_right hd3 hdr
      have HS3 := hide s3
      have HC3 := hide c3
      have HGR3 := hide hGR3
      clear hod hdw hdr s3 c3 g3 HL2 hGR3 hi9 hl9 hd3 HG
      go_wp2_with (at_builtin; refine wpList_append_Center hG3 hlC hoff rfl _ _ rfl rfl rfl ?hn9 hwz ?_; case hn9 => omega)
      intro g cap w6 hG6 hb6 hE6 hg6 hz6 hor6
      have HG6 := hide hG6
      have HS6 : Hid (SrcAt w6 b cv (m' + 9)) := (hb6.block b hbw).trans (unhide HS3)
      have HC6 := hide ((unhide HC3).later (hb6.mono (Nat.le_of_lt hbw)))
      have HGR6 := hide (grown_lowI (unhide HGR3) hb6)
      clear hG6 hb6 hE6 hg6 hz6 hor6 hG3 hlC hoff HS3 HC3 HGR3
      go_wp2_with fail
      go_roundw
      case rel => exact ⟨j - 1, _, _, _, m' + 9, by omega, by go_num, unhide HG6, unhide HSF4, unhide HCV4, by have := unhide HLE; simp; omega, unhide HS6, by omega, unhide HC6, unhide HGR6⟩
      case measure => simp [intOf]; omega
    · obtain rfl : j = 0 := by omega
      have L := hide (next b m' cv 14 wr hS hC (by omega) (by omega) (by omega))
      have HG := hide hG
      have HSF := hide hsf
      have HGR := hide hgr
      have hcl : cs.length ≤ 4 := by omega
      clear hG hsf hcv hS hC hgr hlen
      go_wp2_with fail
      refine (unhide L).mono ?_
      rintro e w3 ⟨q, rfl, hq, s3, c3, g3⟩
      replace HG := hide ((unhide HG).grown g3 hbw (unhide HSF))
      replace HGR := hide (grown_trans (unhide HGR) g3)
      have HS := hide s3
      have HC := hide c3
      have hw3 : w.heap.size ≤ w3.heap.size := (unhide HGR).size
      clear s3 c3 g3 L
      rcases (show q = 0 ∨ q = 1 ∨ q = 2 ∨ 3 ≤ q by omega) with rfl | rfl | rfl | h2
      · have L4 := hide (bent b (m' + 1) cv w3 (unhide HS) (unhide HC) (by omega))
        clear HS HC
        go_wp2_with fail
        refine (unhide L4).mono ?_
        rintro e w5 ⟨v3, zs, m3, rfl, hzs, hNI, hm3, s5, c5, g5⟩
        obtain ⟨bz, hlz, hbz⟩ := hNI.lies (by omega)
        obtain ⟨a3, d3, rfl⟩ := open_sl ⟨bz, hlz⟩
        have hG := (unhide HG).grown g5 hbw (unhide HSF)
        have hoff : ∀ c ∈ bz, u3.ownBlock ≠ some c := fun c hc e => by
          have h1 := hbz c hc
          have h2 := ((unhide HG).own.lt c e).2
          omega
        have hl : Lay.tCenter.lies w5 [.slice a3 zs.length d3] ⟨zs⟩ bz := hlz
        replace HSF := hide (flat_snocI (unhide HSF) (fun c hc => Nat.le_trans hw3 (hbz c hc)))
        replace HGR := hide (grown_trans (unhide HGR) g5)
        have HS := hide s5
        have HC := hide c5
        have HZ : w.heap.size ≤ w5.heap.size := (unhide HGR).size
        clear s5 c5 g5 L4 hNI hlz hbz HG
        go_wp2_with (at_builtin; refine wpList_append_Center hG hl hoff rfl _ _ rfl rfl rfl ?hn9 HZ ?_; case hn9 => omega)
        intro g cap w6 hG6 hb6 hE6 hg6 hz6 hor6
        have HG6 := hide hG6
        have HS6 : Hid (SrcAt w6 b cv m3) := (hb6.block b hbw).trans (unhide HS)
        have HC6 := hide ((unhide HC).later (hb6.mono (Nat.le_of_lt hbw)))
        have HGR6 := hide (grown_lowI (unhide HGR) hb6)
        clear hG hl hoff hG6 hb6 hE6 hg6 hz6 hor6 HS HC HGR
        go_wp2_with fail
        go_ret
        exact ⟨_, _, _, _, m3, rfl, unhide HG6, unhide HSF, by simp; omega, unhide HS6, by omega, unhide HC6, unhide HGR6⟩
      · obtain ⟨i0, hi, hz0, hz1, hz2⟩ := info_parts infoCenD
        clear HG HSF
        go_wp2_with (at_make; refine wpList_make_full _ rfl _ _ 24 rfl w.heap.size 138 i0 _ 1 Try.underlying24 hi hz0 hz1 _ _ _ _ 7 rfl rfl rfl rfl ?c1 ?c2 ?c3 ?_)
        case c1 => omega
        case c2 => unfold maxLen; omega
        case c3 => omega
        intro w4 o4 g4
        rw [toList_madeCells_one] at o4
        have hb4 : Below w3.heap.size w3 w4 := (Below.refl _ _).grown g4 (Nat.le_refl _) (by simp)
        have HG4 := hide (grow7 o4)
        have HS4 := hide ((unhide HS).on hb4)
        have HC4 := hide ((unhide HC).on (by omega) hb4)
        have HGR4 := hide (grown_on (unhide HGR) hb4)
        clear o4 g4 hi hz0 hz1 hz2 hb4 HS HC HGR
        go_wp2_with fail
        go_ret
        exact ⟨_, _, _, _, m' + 1, rfl, unhide HG4, fun c hc => (flat_none _ c hc).elim, by rw [List.length_replicate]; omega, unhide HS4, by omega, unhide HC4, unhide HGR4⟩
      · clear HG HSF
        go_wp2_with fail
        go_ret
        exact ⟨_, [], [], [], m' + 1, rfl, Grow.nil (World.ownsRow_nil _ _ _ _), by simp, by simp, unhide HS, by omega, unhide HC, unhide HGR⟩
      · have d0 : ((q : Int) == 0) = false := by rw [beq_eq_false_iff_ne]; omega
        have d1 : ((q : Int) == 1) = false := by rw [beq_eq_false_iff_ne]; omega
        have d2 : ((q : Int) == 2) = false := by rw [beq_eq_false_iff_ne]; omega
        go_wp2_with fail
        go_ret
        exact ⟨_, rows, cs, bls, m' + 1, rfl, unhide HG, unhide HSF, by omega, unhide HS, by omega, unhide HC, unhide HGR⟩

end Go.Proofs.Ytggnnbdjihihiaa

namespace Go.Proofs.Ytggnnbdjihihiaa
open Go.RowKit

theorem cen_cell {w : World} {b off k : Nat} {u : Option Value} (h : w.cell? ⟨b, off + k * Lay.tCenter.n + 0, none⟩ = u) : w.cell? ⟨b, off + k, none⟩ = u := by
  have q : w.cell? ⟨b, off + k * 1 + 0, none⟩ = u := h
  rw [Nat.mul_one, Nat.add_zero] at q
  exact q

end Go.Proofs.Ytggnnbdjihihiaa

namespace Go.Proofs.Ytggnnbdjihihiaa
open Go.RowKit

theorem cvec3 {zs : List Int} (h : vecFault zs = 0) : ∃ p q r, zs = [p, q, r] := by
  have hl := (vecFault_zero h).1
  match zs, hl with
  | [p, q, r], _ => exact ⟨p, q, r, rfl⟩
theorem implScore3 (v1 v2 : Value) (p q : List Int) (w : World) (h1 : IsInts w v1 p) (h2 : IsInts w v2 q) (f1 : vecFault p = 0) (f2 : vecFault q = 0) :
    Calls Try.prog 114 #[v1, v2] w fun e w' => e = .returned (.agg #[.int .i64 0, .int .i64 (score3 p q)]) ∧ Below w.heap.size w w' := by
  obtain ⟨x, y, z, rfl⟩ := cvec3 f1
  obtain ⟨a, b, c, rfl⟩ := cvec3 f2
  exact implScore_ok v1 v2 x y z a b c w h1 h2 f1 f2
theorem modelScore3 (v1 v2 : Value) (p q : List Int) (w : World) (h1 : IsInts w v1 p) (h2 : IsInts w v2 q) (f1 : vecFault p = 0) (f2 : vecFault q = 0) :
    Calls Try.prog 112 #[v1, v2] w fun e w' => e = .returned (.int .i64 (score3 p q)) ∧ Below w.heap.size w w' := by
  obtain ⟨x, y, z, rfl⟩ := cvec3 f1
  obtain ⟨a, b, c, rfl⟩ := cvec3 f2
  obtain ⟨b1, o1, k1, x', y', z', he, rfl, hbl, c0, c1, c2⟩ := h1.three rfl
  simp only [List.cons.injEq, and_true] at he
  obtain ⟨rfl, rfl, rfl⟩ := he
  obtain ⟨b2, o2, k2, x', y', z', he, rfl, hbl2, d0, d1, d2⟩ := h2.three rfl
  simp only [List.cons.injEq, and_true] at he
  obtain ⟨rfl, rfl, rfl⟩ := he
  exact modelSum b1 o1 k1 b2 o2 k2 x y z a b c w c0 c1 c2 d0 d1 d2 f1 f2

end Go.Proofs.Ytggnnbdjihihiaa

namespace Go.Proofs.Ytggnnbdjihihiaa
open Go.RowKit

set_option maxRecDepth 100000 in
set_option maxHeartbeats 1000000 in
theorem specCen_pos (b off cap : Nat) (xs : List DCenter) (w : World) (hn : 1 ≤ xs.length ∧ xs.length ≤ 6) (h : (Lay.sl Lay.tCenter).Reads w [.slice (some ⟨b, off, none⟩) xs.length cap] xs) (hbl : b < w.heap.size) :
    Calls Try.prog 108 #[.slice (some ⟨b, off, none⟩) xs.length cap] w fun e w' => e = .returned (.int .i64 (cenFrom xs)) ∧ Below w.heap.size w w' := by
  generalize hF0 : cenFrom xs = F0
  have H := hide h
  clear h
  have d1 : decide ((xs.length : Int) < 1) = false := by simp; omega
  have d2 : decide ((6 : Int) < (xs.length : Int)) = false := by simp; omega
  go_enter Try.func108, Try.ntmps108
  go_wp2_with fail
  go_loopw [3] (fun i wr => ∃ k : Nat, k ≤ xs.length ∧ i = .int .i64 k ∧ cenFrom (xs.drop k) = F0 ∧ Below w.heap.size w wr) (fun i _ => xs.length - (intOf i).toNat)
  case atStart => exact ⟨0, Nat.zero_le _, rfl, hF0, Below.refl _ _⟩
  case round =>
    obtain ⟨k, hk, rfl, hF, hB⟩ := hrel
    by_cases hlt : k < xs.length
    · obtain ⟨row, hc, hr⟩ := Lay.row_at (unhide H) hlt
      replace hr := hr.later hB
      obtain ⟨a1, d1, rfl, R1⟩ := open_Center hr
      have c1 : wr.cell? ⟨b, off + k, none⟩ = some (.slice a1 (xs[k]).vec.length d1) := (hB.cell (p := ⟨b, off + k, none⟩) hbl).trans (cen_cell (hc 0 (by decide)))
      rw [cenFrom_step xs k hlt] at hF
      clear hc hr
      generalize hx : xs[k] = x at *
      clear hx
      have hbr : b < wr.heap.size := Nat.lt_of_lt_of_le hbl hB.size
      have I1 := hide (Lay.ints_reads R1)
      have HF := hide hF
      have B1 := hide hB
      clear R1 hF hB
      go_wp2_with fail
      refine (modelFault _ x.vec _ (unhide I1)).mono ?_
      rintro e w1 ⟨rfl, rfl⟩
      by_cases hv : vecFault x.vec = 0
      · rw [hv]
        have hF := unhide HF
        rw [if_pos hv] at hF
        clear HF I1 hv
        have HF := hide hF
        clear hF
        go_wp2_with fail
        go_roundw
        case rel => exact ⟨k + 1, by omega, by go_num, unhide HF, unhide B1⟩
        case measure => simp [intOf]; omega
      · have hF := unhide HF
        rw [if_neg hv] at hF
        have hd : (vecFault x.vec != 0) = true := by simpa using hv
        have HF2 := hide hF
        clear HF hF I1 hv
        go_wp2_with fail
        go_ret
        exact ⟨by rw [← unhide HF2]; rfl, unhide B1⟩
    · obtain rfl : k = xs.length := by omega
      rw [List.drop_length] at hF
      have HF := hide hF
      have HB := hide hB
      clear hF hB H
      go_wp2_with fail
      go_ret
      exact ⟨by rw [← unhide HF]; rfl, unhide HB⟩

set_option maxRecDepth 10000 in
theorem specCen (v : Value) (xs : List DCenter) (w : World) (h : (Lay.sl Lay.tCenter).Reads w [v] xs) :
    Calls Try.prog 108 #[v] w fun e w' => e = .returned (.int .i64 (centersFault xs)) ∧ Below w.heap.size w w' := by
  have hbig := h.big
  obtain ⟨ao, cap, rfl⟩ := open_sl h
  by_cases hn : xs.length < 1 ∨ 6 < xs.length
  · have e : centersFault xs = 2 := by unfold centersFault; rw [if_pos hn]
    rw [e]
    clear h e
    go_enter Try.func108, Try.ntmps108
    by_cases h1 : xs.length < 1
    · have d1 : decide ((xs.length : Int) < 1) = true := by simp; omega
      go_wp2_with fail
      go_ret
      exact ⟨rfl, Below.refl _ _⟩
    · have d1 : decide ((xs.length : Int) < 1) = false := by simp; omega
      have d2 : decide ((6 : Int) < (xs.length : Int)) = true := by simp; omega
      go_wp2_with fail
      go_ret
      exact ⟨rfl, Below.refl _ _⟩
  · have e : centersFault xs = cenFrom xs := by unfold centersFault; rw [if_neg hn]
    rw [e]
    obtain ⟨b, off, rfl, hbl⟩ := Lay.sl_addr h (by omega)
    exact specCen_pos b off cap xs w (by omega) h hbl

end Go.Proofs.Ytggnnbdjihihiaa

namespace Go.Proofs.Ytggnnbdjihihiaa
open Go.RowKit

set_option maxRecDepth 100000 in
set_option maxHeartbeats 2000000 in
theorem specNear_pos (b off cap : Nat) (cs : List DCenter) (a2 : Option Addr) (d2 : Nat) (q : List Int) (w : World) (h : (Lay.sl Lay.tCenter).Reads w [.slice (some ⟨b, off, none⟩) cs.length cap] cs) (hbl : b < w.heap.size) (hq : IsInts w (.slice a2 q.length d2) q) (hc0 : centersFault cs = 0) (hv : vecFault q = 0) :
    Calls Try.prog 127 #[.slice (some ⟨b, off, none⟩) cs.length cap, .slice a2 q.length d2] w fun e w' => e = .returned (.int .i64 (near cs q : Nat)) ∧ Below w.heap.size w w' := by
  obtain ⟨hn, hall⟩ := centersFault_zero hc0
  have HQ := hide hq
  have HA := hide hall
  have HV := hide hv
  have H := hide h
  have HN : Hid (near cs q = (nearK cs q cs.length).1) := rfl
  have H1 : Hid (nearK cs q 1 = (0, score3 cs[0].vec q)) := by
    show nearK cs q 1 = _
    have hs := cscore_bd (hall cs[0] (List.getElem_mem (by omega))) hv
    rw [nearK_step cs q 0 (by omega), if_pos (by simp only [nearK]; omega)]
  clear h hq hall hc0 hv
  go_enter Try.func127, Try.ntmps127
  go_wp2_with fail
  go_loopw [5, 6] (fun a i wr => ∃ k : Nat, 1 ≤ k ∧ k ≤ cs.length ∧ i = .int .i64 k ∧ a = .int .i64 ((nearK cs q k).1 : Nat) ∧ Below w.heap.size w wr) (fun _ i _ => cs.length - (intOf i).toNat)
  case atStart => exact ⟨1, Nat.le_refl _, hn.1, rfl, by rw [unhide H1]; rfl, Below.refl _ _⟩
  case round =>
    obtain ⟨k, hk1, hk, rfl, rfl, hB⟩ := hrel
    clear H1
    by_cases hlt : k < cs.length
    · obtain ⟨row, hc, hr⟩ := Lay.row_at (unhide H) hlt
      obtain ⟨a1, d1, rfl, R1⟩ := open_Center hr
      have c1 : w.cell? ⟨b, off + k, none⟩ = some (.slice a1 (cs[k]).vec.length d1) := cen_cell (hc 0 (by decide))
      have HS := hide (nearK_step cs q k hlt)
      obtain ⟨hm1, hm2, -, -⟩ := nearK_right (unhide HA) (unhide HV) k hk1 hk
      have hm3 : (nearK cs q k).1 < cs.length := by omega
      rw [getD_at hm3] at hm2
      obtain ⟨row2, hc2, hr2⟩ := Lay.row_at (unhide H) hm3
      obtain ⟨a3, d3, rfl, R2⟩ := open_Center hr2
      have c2 : w.cell? ⟨b, off + (nearK cs q k).1, none⟩ = some (.slice a3 (cs[(nearK cs q k).1]).vec.length d3) := cen_cell (hc2 0 (by decide))
      have hvx := unhide HA cs[k] (List.getElem_mem hlt)
      have hvy := unhide HA cs[(nearK cs q k).1] (List.getElem_mem hm3)
      clear hc hr hc2 hr2
      generalize hx : cs[k] = x at *
      clear hx
      generalize hy : cs[(nearK cs q k).1] = y at *
      clear hy
      generalize hs : nearK cs q k = s at *
      clear hs
      obtain ⟨m, sl⟩ := s
      simp only at hm1 hm2 hm3 c2 ⊢
      have HM2 := hide hm2
      have I1 := hide (Lay.ints_reads R1)
      have I2 := hide (Lay.ints_reads R2)
      have HX := hide hvx
      have HY := hide hvy
      have HB := hide hB
      clear R1 R2 hB hvx hvy hm2
      have i1 : (0 : Int) ≤ (k : Int) := by omega
      have i2 : (k : Int) < (cs.length : Int) := by omega
      have i3 : (0 : Int) ≤ (m : Int) := by omega
      have i4 : (m : Int) < (cs.length : Int) := by omega
      go_wp2_with fail
      refine wp_region_noPanic ?_
      refine wp_region_held_drew (S := fun w' => Below w.heap.size w w') (by kernel_rfl) (unhide HB).drew (fun hHeld => ?_)
      generalize wr.drew = wD at hHeld ⊢
      refine wpAnyH_take (i := 0) (oi := { dst := some 13, op := Go.Op.move (Go.Operand.tmp 0), type := 24, pos := "l06_center.go:24", after := #[], guard := none }) (v := ?v0) rfl (by kernel_rfl) (by kernel_rfl) (by kernel_rfl) (fun _ _ _ h => h) (Or.inl ⟨by rfl, ?h0⟩) hHeld ?r0
      case h0 =>
        intro wS hSw
        (try dsimp only at hSw)
        go_simp
        try with_reducible rfl
      case r0 =>
      simp only [Act.put, List.setIfInBounds_toArray, List.set_cons_zero, List.set_cons_succ]
      refine wpAnyH_take (i := 1) (oi := { dst := some 14, op := Go.Op.move (Go.Operand.tmp 6), type := 3, pos := "l06_center.go:24", after := #[], guard := none }) (v := ?v1) rfl (by kernel_rfl) (by kernel_rfl) (by kernel_rfl) (fun _ _ _ h => h) (Or.inl ⟨by rfl, ?h1⟩) hHeld ?r1
      case h1 =>
        intro wS hSw
        (try dsimp only at hSw)
        go_simp
        try with_reducible rfl
      case r1 =>
      simp only [Act.put, List.setIfInBounds_toArray, List.set_cons_zero, List.set_cons_succ]
      refine wpAnyH_take (i := 2) (oi := { dst := some 15, op := Go.Op.indexAddr 24 (Go.Operand.tmp 13) (Go.Operand.tmp 14), type := 0, pos := "l06_center.go:24", after := #[{ on := 0, ground := Go.Ground.data }, { on := 1, ground := Go.Ground.data }], guard := none }) (v := ?v2) rfl (by kernel_rfl) (by kernel_rfl) (by kernel_rfl) (fun _ _ _ h => h) (Or.inl ⟨by rfl, ?h2⟩) hHeld ?r2
      case h2 =>
        intro wS hSw
        (try dsimp only at hSw)
        go_simp
        try with_reducible rfl
      case r2 =>
      simp only [Act.put, List.setIfInBounds_toArray, List.set_cons_zero, List.set_cons_succ]
      refine wpAnyH_take (i := 3) (oi := { dst := some 16, op := Go.Op.fieldAddr 138 (Go.Operand.tmp 15) 0, type := 0, pos := "l06_center.go:24", after := #[{ on := 2, ground := Go.Ground.data }], guard := none }) (v := ?v3) rfl (by kernel_rfl) (by kernel_rfl) (by kernel_rfl) (fun _ _ _ h => h) (Or.inl ⟨by rfl, ?h3⟩) hHeld ?r3
      case h3 =>
        intro wS hSw
        (try dsimp only at hSw)
        go_simp
        try with_reducible rfl
      case r3 =>
      simp only [Act.put, List.setIfInBounds_toArray, List.set_cons_zero, List.set_cons_succ]
      refine wpAnyH_take (i := 4) (oi := { dst := some 17, op := Go.Op.load 28 (Go.Operand.tmp 16), type := 28, pos := "l06_center.go:24", after := #[{ on := 3, ground := Go.Ground.data }], guard := none }) (v := ?v4) rfl (by kernel_rfl) (by kernel_rfl) (by kernel_rfl) (fun _ _ _ h => h) (Or.inl ⟨by rfl, ?h4⟩) hHeld ?r4
      case h4 =>
        intro wS hSw
        have y1 := (hSw.cell (p := ⟨b, off + k, none⟩) hbl).trans c1
        clear hSw
        (try dsimp only at hSw)
        go_simp
        try with_reducible rfl
      case r4 =>
      simp only [Act.put, List.setIfInBounds_toArray, List.set_cons_zero, List.set_cons_succ]
      refine wpAnyH_take (i := 5) (oi := { dst := some 18, op := Go.Op.move (Go.Operand.tmp 1), type := 28, pos := "l06_center.go:24", after := #[], guard := none }) (v := ?v5) rfl (by kernel_rfl) (by kernel_rfl) (by kernel_rfl) (fun _ _ _ h => h) (Or.inl ⟨by rfl, ?h5⟩) hHeld ?r5
      case h5 =>
        intro wS hSw
        (try dsimp only at hSw)
        go_simp
        try with_reducible rfl
      case r5 =>
      simp only [Act.put, List.setIfInBounds_toArray, List.set_cons_zero, List.set_cons_succ]
      refine wpAnyH_take (i := 7) (oi := { dst := some 20, op := Go.Op.move (Go.Operand.tmp 0), type := 24, pos := "l06_center.go:24", after := #[], guard := none }) (v := ?v7) rfl (by kernel_rfl) (by kernel_rfl) (by kernel_rfl) (fun _ _ _ h => h) (Or.inl ⟨by rfl, ?h7⟩) hHeld ?r7
      case h7 =>
        intro wS hSw
        (try dsimp only at hSw)
        go_simp
        try with_reducible rfl
      case r7 =>
      simp only [Act.put, List.setIfInBounds_toArray, List.set_cons_zero, List.set_cons_succ]
      refine wpAnyH_take (i := 8) (oi := { dst := some 21, op := Go.Op.move (Go.Operand.tmp 5), type := 3, pos := "l06_center.go:24", after := #[], guard := none }) (v := ?v8) rfl (by kernel_rfl) (by kernel_rfl) (by kernel_rfl) (fun _ _ _ h => h) (Or.inl ⟨by rfl, ?h8⟩) hHeld ?r8
      case h8 =>
        intro wS hSw
        (try dsimp only at hSw)
        go_simp
        try with_reducible rfl
      case r8 =>
      simp only [Act.put, List.setIfInBounds_toArray, List.set_cons_zero, List.set_cons_succ]
      refine wpAnyH_take (i := 9) (oi := { dst := some 22, op := Go.Op.indexAddr 24 (Go.Operand.tmp 20) (Go.Operand.tmp 21), type := 0, pos := "l06_center.go:24", after := #[{ on := 7, ground := Go.Ground.data }, { on := 8, ground := Go.Ground.data }], guard := none }) (v := ?v9) rfl (by kernel_rfl) (by kernel_rfl) (by kernel_rfl) (fun _ _ _ h => h) (Or.inl ⟨by rfl, ?h9⟩) hHeld ?r9
      case h9 =>
        intro wS hSw
        (try dsimp only at hSw)
        go_simp
        try with_reducible rfl
      case r9 =>
      simp only [Act.put, List.setIfInBounds_toArray, List.set_cons_zero, List.set_cons_succ]
      refine wpAnyH_take (i := 10) (oi := { dst := some 23, op := Go.Op.fieldAddr 138 (Go.Operand.tmp 22) 0, type := 0, pos := "l06_center.go:24", after := #[{ on := 9, ground := Go.Ground.data }], guard := none }) (v := ?v10) rfl (by kernel_rfl) (by kernel_rfl) (by kernel_rfl) (fun _ _ _ h => h) (Or.inl ⟨by rfl, ?h10⟩) hHeld ?r10
      case h10 =>
        intro wS hSw
        (try dsimp only at hSw)
        go_simp
        try with_reducible rfl
      case r10 =>
      simp only [Act.put, List.setIfInBounds_toArray, List.set_cons_zero, List.set_cons_succ]
      refine wpAnyH_take (i := 11) (oi := { dst := some 24, op := Go.Op.load 28 (Go.Operand.tmp 23), type := 28, pos := "l06_center.go:24", after := #[{ on := 10, ground := Go.Ground.data }], guard := none }) (v := ?v11) rfl (by kernel_rfl) (by kernel_rfl) (by kernel_rfl) (fun _ _ _ h => h) (Or.inl ⟨by rfl, ?h11⟩) hHeld ?r11
      case h11 =>
        intro wS hSw
        have y1 := (hSw.cell (p := ⟨b, off + m, none⟩) hbl).trans c2
        clear hSw
        (try dsimp only at hSw)
        go_simp
        try with_reducible rfl
      case r11 =>
      simp only [Act.put, List.setIfInBounds_toArray, List.set_cons_zero, List.set_cons_succ]
      refine wpAnyH_take (i := 12) (oi := { dst := some 25, op := Go.Op.move (Go.Operand.tmp 1), type := 28, pos := "l06_center.go:24", after := #[], guard := none }) (v := ?v12) rfl (by kernel_rfl) (by kernel_rfl) (by kernel_rfl) (fun _ _ _ h => h) (Or.inl ⟨by rfl, ?h12⟩) hHeld ?r12
      case h12 =>
        intro wS hSw
        (try dsimp only at hSw)
        go_simp
        try with_reducible rfl
      case r12 =>
      simp only [Act.put, List.setIfInBounds_toArray, List.set_cons_zero, List.set_cons_succ]
      refine wpAnyH_ready (rs := [6]) (by kernel_rfl) (by simp) ?_
      refine AllReadyH.cons (o := { dst := some 19, op := Go.Op.call { callee := Go.Callee.value (Go.Operand.func 112), args := #[Go.Operand.tmp 17, Go.Operand.tmp 18], argTypes := #[28, 28] }, type := 2, pos := "l06_center.go:24", after := #[{ on := 4, ground := Go.Ground.data }, { on := 5, ground := Go.Ground.data }], guard := none }) rfl (fun K hK => ?_) AllReadyH.nil
      go_simp
      go_at_call 112
      refine (modelScore3 _ _ x.vec q _ ((unhide I1).later hHeld) ((unhide HQ).later hHeld) (unhide HX) (unhide HV)).mono ?_
      rintro e w3 ⟨rfl, hbw⟩
      try go_wp2_with fail
      refine hK.out _ _ (hHeld.trans (hbw.mono hHeld.size)) (fun hHeld => ?_)
      clear hK K
      try simp only [Act.put, List.setIfInBounds_toArray, List.set_cons_zero, List.set_cons_succ]
      refine wpAnyH_ready (rs := [13]) (by kernel_rfl) (by simp) ?_
      refine AllReadyH.cons (o := { dst := some 26, op := Go.Op.call { callee := Go.Callee.value (Go.Operand.func 112), args := #[Go.Operand.tmp 24, Go.Operand.tmp 25], argTypes := #[28, 28] }, type := 2, pos := "l06_center.go:24", after := #[{ on := 11, ground := Go.Ground.data }, { on := 12, ground := Go.Ground.data }, { on := 6, ground := Go.Ground.chain }], guard := none }) rfl (fun K hK => ?_) AllReadyH.nil
      go_simp
      go_at_call 112
      refine (modelScore3 _ _ y.vec q _ ((unhide I2).later hHeld) ((unhide HQ).later hHeld) (unhide HY) (unhide HV)).mono ?_
      rintro e w3 ⟨rfl, hbw⟩
      try go_wp2_with fail
      refine hK.out _ _ (hHeld.trans (hbw.mono hHeld.size)) (fun hHeld => ?_)
      clear hK K
      try simp only [Act.put, List.setIfInBounds_toArray, List.set_cons_zero, List.set_cons_succ]
      refine wpAnyH_take (i := 14) (oi := { dst := some 27, op := Go.Op.binOp Go.BinOp.lss 2 (Go.Operand.tmp 19) (Go.Operand.tmp 26) 2, type := 4, pos := "l06_center.go:24", after := #[{ on := 6, ground := Go.Ground.data }, { on := 13, ground := Go.Ground.data }], guard := none }) (v := ?v14) rfl (by kernel_rfl) (by kernel_rfl) (by kernel_rfl) (fun _ _ _ h => h) (Or.inl ⟨by rfl, ?h14⟩) hHeld ?r14
      case h14 =>
        intro wS hSw
        (try dsimp only at hSw)
        go_simp
        try with_reducible rfl
      case r14 =>
      simp only [Act.put, List.setIfInBounds_toArray, List.set_cons_zero, List.set_cons_succ]
      refine wpAnyH_done (by kernel_rfl) ?_ _
      refine NoPanic.normal ?_
      have HB3 := hide hHeld
      clear hHeld c1 c2 HB I1 I2
      have hS2 := unhide HS
      rw [unhide HM2] at hS2
      have HS2 := hide hS2
      clear hS2 HS
      cases hd : decide (score3 x.vec q < score3 y.vec q) with
      | true =>
        have HS3 : Hid (nearK cs q (k + 1) = (k, score3 x.vec q)) := (unhide HS2).trans (if_pos (by simpa using hd))
        clear HS2
        go_wp2_with fail
        go_roundw
        case rel => exact ⟨k + 1, by omega, by omega, by go_num, by rw [unhide HS3], unhide HB3⟩
        case measure => simp [intOf]; omega
      | false =>
        have HS3 : Hid (nearK cs q (k + 1) = (m, score3 y.vec q)) := (unhide HS2).trans (if_neg (by simpa using hd))
        clear HS2
        go_wp2_with fail
        go_roundw
        case rel => exact ⟨k + 1, by omega, by omega, by go_num, by rw [unhide HS3], unhide HB3⟩
        case measure => simp [intOf]; omega
    · obtain rfl : k = cs.length := by omega
      have HB := hide hB
      clear hB H
      go_wp2_with fail
      go_ret
      exact ⟨rfl, unhide HB⟩

theorem specNear (v : Value) (cs : List DCenter) (vq : Value) (q : List Int) (w : World) (h : (Lay.sl Lay.tCenter).Reads w [v] cs) (hq : IsInts w vq q) (hc : centersFault cs = 0) (hv : vecFault q = 0) :
    Calls Try.prog 127 #[v, vq] w fun e w' => e = .returned (.int .i64 (near cs q : Nat)) ∧ Below w.heap.size w w' := by
  obtain ⟨ao, cap, rfl⟩ := open_sl h
  have hvq : ∃ a d, vq = .slice a q.length d := by obtain ⟨a, d, e, -⟩ := hq; exact ⟨a, d, e⟩
  obtain ⟨a2, d2, rfl⟩ := hvq
  obtain ⟨b, off, rfl, hbl⟩ := Lay.sl_addr h (centersFault_zero hc).1.1
  exact specNear_pos b off cap cs a2 d2 q w h hbl hq hc hv

end Go.Proofs.Ytggnnbdjihihiaa

namespace Go.Proofs.Ytggnnbdjihihiaa
open Go.RowKit

theorem ints_wf6 {w : World} {v : Value} {zs : List Int} (h : IsInts w v zs) : ∀ z ∈ zs, (Lit.int .i64 z).wf = true := by
  obtain ⟨_, _, _, hw, -⟩ := h
  exact hw
theorem below_up {B : Nat} {a b c : World} (hB : B ≤ a.heap.size) (h : Below B a b) (k : Below b.heap.size b c) : Below B a c := h.trans (k.mono (Nat.le_trans hB h.size))

set_option maxRecDepth 100000 in
set_option maxHeartbeats 8000000 in
theorem specBuild7 (vc : Value) (cs : List DCenter) (vx : Value) (xs : List DItem) (w : World) (hcs : (Lay.sl Lay.tCenter).Reads w [vc] cs) (h : (Lay.sl Lay.tItem).Reads w [vx] xs) (hfc : centersFault cs = 0) (hft : tableFault xs = 0) :
    Calls Try.prog 81 #[vc, vx] w fun e w' => ∃ cs', e = .returned (.agg cs'.toArray) ∧ Lay.tIvf.LiesIn w' cs' (buildI cs xs) (w.heap.size + 1) w'.heap.size ∧ Below w.heap.size w w' := by
  obtain ⟨ao, dc, rfl⟩ := open_sl hcs
  obtain ⟨ax, dx, rfl⟩ := open_sl h
  obtain ⟨⟨hn1, hn6⟩, hcv⟩ := centersFault_zero hfc
  obtain ⟨hlen, hall, -⟩ := tableFault_zero hft
  obtain ⟨bc, oc, rfl, hbc⟩ := Lay.sl_addr hcs hn1
  have HXV : Hid (∀ x ∈ xs, vecFault x.vec = 0) := fun x hm => (hall x hm).2
  have HCV := hide hcv
  have HFC := hide hfc
  have HB0 : Below w.heap.size w ((w.alloc (.cells #[.slice none 0 0, .slice none 0 0] 27)).alloc (.cells #[.slice none 0 0, .slice none 0 0] 27)) := ((Below.refl _ _).alloc (Nat.le_refl _) _).alloc (by simp) _
  have bR : Box w.heap.size #[.slice none 0 0, .slice none 0 0] 27 ((w.alloc (.cells #[.slice none 0 0, .slice none 0 0] 27)).alloc (.cells #[.slice none 0 0, .slice none 0 0] 27)) w.heap.size := (newBox (Nat.le_refl _)).grow _
  have bX : Box w.heap.size #[.slice none 0 0, .slice none 0 0] 27 ((w.alloc (.cells #[.slice none 0 0, .slice none 0 0] 27)).alloc (.cells #[.slice none 0 0, .slice none 0 0] 27)) (w.heap.size + 1) := newBoxAt (by omega) (by simp)
  have hW0 : w.heap.size + 1 ≤ ((w.alloc (.cells #[.slice none 0 0, .slice none 0 0] 27)).alloc (.cells #[.slice none 0 0, .slice none 0 0] 27)).heap.size := by simp
  have hW2 : w.heap.size + 2 ≤ ((w.alloc (.cells #[.slice none 0 0, .slice none 0 0] 27)).alloc (.cells #[.slice none 0 0, .slice none 0 0] 27)).heap.size := by simp
  have hcl := (hcs.liesIn).later HB0
  have hxl := (h.liesIn).later HB0
  have hc0 := hcs.later HB0
  have hx0 := h
  clear hcs h hall hfc hft hcv
  go_enter Try.func81, Try.ntmps81
  go_wp2_with fail
  generalize (w.alloc (.cells #[.slice none 0 0, .slice none 0 0] 27)).alloc (.cells #[.slice none 0 0, .slice none 0 0] 27) = W0 at *
  have KC : Hid (∀ W, Below (w.heap.size + 1) W0 W → (Lay.sl Lay.tCenter).Reads W [.slice (some ⟨bc, oc, none⟩) cs.length dc] cs ∧ (Lay.sl Lay.tItem).Reads W [.slice ax xs.length dx] xs) := fun W hW => ⟨(hcl.below hW (by omega)).reads, (hxl.below hW (by omega)).reads⟩
  have KX : Hid (∀ W, Below (w.heap.size + 1) W0 W → ∀ j (hj : j < xs.length), ∃ b off a d bl, ax = some ⟨b, off, none⟩ ∧ b < w.heap.size ∧ W.cell? ⟨b, off + j * 2, none⟩ = some (.int .i64 (xs[j]).id) ∧ W.cell? ⟨b, off + j * 2 + 1, none⟩ = some (.slice a (xs[j]).vec.length d) ∧ Lay.tItem.lies W [.int .i64 (xs[j]).id, .slice a (xs[j]).vec.length d] xs[j] bl ∧ ∀ q ∈ bl, q < w.heap.size) := by
    intro W hW j hj
    obtain ⟨b, off, e, hb⟩ := Lay.sl_addr hx0 (by omega)
    subst e
    obtain ⟨row, hc, bl, hl⟩ := Lay.row_at hx0 hj
    obtain ⟨a, d, b9, e9, -⟩ := lies_Item.1 hl
    subst e9
    have hlt := Lay.tItem.lt hl
    have hl2 := Lay.tItem.keep (Lay.tItem.keep hl (fun q hq => HB0.block q (hlt q hq))) (fun q hq => hW.block q (by have := hlt q hq; omega))
    exact ⟨b, off, a, d, bl, rfl, hb, (hW.cell (p := ⟨b, off + j * 2, none⟩) (by show b < w.heap.size + 1; omega)).trans ((HB0.cell (p := ⟨b, off + j * 2, none⟩) hb).trans (hc 0 (by decide))), (hW.cell (p := ⟨b, off + j * 2 + 1, none⟩) (by show b < w.heap.size + 1; omega)).trans ((HB0.cell (p := ⟨b, off + j * 2 + 1, none⟩) hb).trans (hc 1 (by decide))), hl2, hlt⟩
  have HC0 := hide hc0
  have HR := hide bR
  have HXB := hide bX
  have HBW := hide HB0
  clear hcl hxl hc0 hx0 bR bX HB0
  go_loopw [6] (fun i wr => ∃ (k : Nat) (rc rl : Value), k ≤ cs.length ∧ i = .int .i64 k ∧ Box w.heap.size #[rc, rl] 27 wr (w.heap.size + 1) ∧ Two wr (w.heap.size + 2) rc rl (cs.take k) ((buildI cs xs).lists.take k) ∧ Below (w.heap.size + 1) W0 wr) (fun i _ => cs.length - (intOf i).toNat)
  case atStart => exact ⟨0, _, _, Nat.zero_le _, rfl, unhide HXB, two_nil _ _, Below.refl _ _⟩
  case round =>
    obtain ⟨k, rc, rl, hk, rfl, hX, hT, hB⟩ := hrel
    clear HXB
    by_cases hlt : k < cs.length
    · obtain ⟨row, hc, hr⟩ := Lay.row_at (unhide HC0) hlt
      obtain ⟨a1, d1, rfl, R1⟩ := open_Center hr
      have c1 : W0.cell? ⟨bc, oc + k, none⟩ = some (.slice a1 (cs[k]).vec.length d1) := cen_cell (hc 0 (by decide))
      have hvy := unhide HCV cs[k] (List.getElem_mem hlt)
      have HTK : Hid (cs.take (k + 1) = cs.take k ++ [⟨(cs[k]).vec⟩]) := List.take_succ_eq_append_getElem hlt
      have HLC : Hid ((cs.take k).length = k) := by show (cs.take k).length = k; simp; omega
      have HTL := hide (buildI_take cs xs k hlt)
      have HLL : Hid (((buildI cs xs).lists.take k).length = k) := by show ((buildI cs xs).lists.take k).length = k; rw [List.length_take, buildI_len]; omega
      clear hc hr
      generalize hyk : cs[k] = c at *
      generalize cs.take k = ck at *
      generalize (buildI cs xs).lists.take k = lk at *
      have hv3 := (vecFault_zero hvy).1
      have LN : Hid (∀ W, Below (w.heap.size + 1) W0 W → Calls Try.prog 126 #[.slice a1 c.vec.length d1] W fun e w' => ∃ a d bl, e = .returned (.slice a c.vec.length d) ∧ Lay.tCenter.lies w' [.slice a c.vec.length d] ⟨c.vec⟩ bl ∧ (∀ q ∈ bl, W.heap.size ≤ q) ∧ Below W.heap.size W w') := fun W hW => by
        obtain ⟨row, hc, hr⟩ := Lay.row_at (unhide KC W hW).1 hlt
        obtain ⟨a1', d1', e1, R⟩ := open_Center hr
        have c9 := cen_cell (hc 0 (by decide))
        rw [e1] at c9
        rw [hyk] at c9 R
        have c8 := (hW.cell (p := ⟨bc, oc + k, none⟩) (by show bc < w.heap.size + 1; omega)).trans c1
        have e8 := c8.symm.trans c9
        simp only [List.getElem?_cons_zero, Option.some.injEq, Value.slice.injEq, true_and] at e8
        obtain ⟨rfl, rfl⟩ := e8
        refine (l1Ints _ c.vec W (Lay.ints_reads R) (by omega)).mono ?_
        rintro e w' ⟨v', rfl, ho, hb⟩
        obtain ⟨bl, ⟨hl, -, -⟩, hi⟩ := Lay.ownInts (ints_wf6 (Lay.ints_reads R)) (by omega) ho
        obtain ⟨a, d, rfl⟩ := open_sl ⟨bl, hl⟩
        exact ⟨a, d, bl, rfl, hl, fun q hq => (hi q hq).1, hb⟩
      obtain ⟨rowsC, blsC, rowsL, blsL, gC, gL, s1, s2, x1, x2, x3⟩ := hT
      have hXD : Box w.heap.size #[rc, rl] 27 wr.drew (w.heap.size + 1) := hX.drew
      have gCD := gC.later (Below.refl wr.heap.size wr).drew
      have gLD := gL.later (Below.refl wr.heap.size wr).drew
      have gCD_lo : w.heap.size + 2 ≤ wr.drew.heap.size := Nat.le_trans hW2 hB.size
      have hHD : Below (w.heap.size + 1) W0 wr.drew := hB.drew
      have i1 : (0 : Int) ≤ (k : Int) := by omega
      have i2 : (k : Int) < (cs.length : Int) := by omega
      clear hX hB gC gL R1 hvy hv3 hyk
      go_upto_region 5 with fail
      go_cut [5] from 16 to 27 (fun s5 wx => s5 = .pointer (some ⟨w.heap.size + 1, 0, none⟩) ∧ ∃ rc', Two wx (w.heap.size + 2) rc' rl (cs.take (k + 1)) lk ∧ Box w.heap.size #[rc', rl] 27 wx (w.heap.size + 1) ∧ Below (w.heap.size + 1) W0 wx)
      case first =>
        refine wp_region_noPanic ?_
        refine wp_region_held_drew (S := fun w' => Below (w.heap.size + 1) W0 w') (by kernel_rfl) hHD (fun hHeld => ?_)
        generalize wr.drew = wD at hHeld hXD gCD gLD hHD gCD_lo ⊢
        refine wpAnyH_take (i := 0) (oi := { dst := some 16, op := Go.Op.fieldAddr 27 (Go.Operand.tmp 5) 0, type := 0, pos := "l07_ivf.go:61", after := #[], guard := none }) (v := ?va0_1) rfl (by kernel_rfl) (by kernel_rfl) (by kernel_rfl) (fun _ _ _ h => h) (Or.inl ⟨by rfl, ?ha0_1⟩) hHeld ?ra0_1
        case ha0_1 =>
          intro wS hSw
          (try dsimp only at hSw)
          go_simp
          try with_reducible rfl
        case ra0_1 =>
        simp only [Act.put, List.setIfInBounds_toArray, List.set_cons_zero, List.set_cons_succ]
        refine wpAnyH_take (i := 2) (oi := { dst := some 18, op := Go.Op.move (Go.Operand.tmp 0), type := 24, pos := "l07_ivf.go:61", after := #[], guard := none }) (v := ?va2_2) rfl (by kernel_rfl) (by kernel_rfl) (by kernel_rfl) (fun _ _ _ h => h) (Or.inl ⟨by rfl, ?ha2_2⟩) hHeld ?ra2_2
        case ha2_2 =>
          intro wS hSw
          (try dsimp only at hSw)
          go_simp
          try with_reducible rfl
        case ra2_2 =>
        simp only [Act.put, List.setIfInBounds_toArray, List.set_cons_zero, List.set_cons_succ]
        refine wpAnyH_take (i := 3) (oi := { dst := some 19, op := Go.Op.move (Go.Operand.tmp 6), type := 3, pos := "l07_ivf.go:61", after := #[], guard := none }) (v := ?va3_3) rfl (by kernel_rfl) (by kernel_rfl) (by kernel_rfl) (fun _ _ _ h => h) (Or.inl ⟨by rfl, ?ha3_3⟩) hHeld ?ra3_3
        case ha3_3 =>
          intro wS hSw
          (try dsimp only at hSw)
          go_simp
          try with_reducible rfl
        case ra3_3 =>
        simp only [Act.put, List.setIfInBounds_toArray, List.set_cons_zero, List.set_cons_succ]
        refine wpAnyH_take (i := 4) (oi := { dst := some 20, op := Go.Op.indexAddr 24 (Go.Operand.tmp 18) (Go.Operand.tmp 19), type := 0, pos := "l07_ivf.go:61", after := #[{ on := 2, ground := Go.Ground.data }, { on := 3, ground := Go.Ground.data }], guard := none }) (v := ?va4_4) rfl (by kernel_rfl) (by kernel_rfl) (by kernel_rfl) (fun _ _ _ h => h) (Or.inl ⟨by rfl, ?ha4_4⟩) hHeld ?ra4_4
        case ha4_4 =>
          intro wS hSw
          (try dsimp only at hSw)
          go_simp
          try with_reducible rfl
        case ra4_4 =>
        simp only [Act.put, List.setIfInBounds_toArray, List.set_cons_zero, List.set_cons_succ]
        refine wpAnyH_take (i := 5) (oi := { dst := some 21, op := Go.Op.fieldAddr 138 (Go.Operand.tmp 20) 0, type := 0, pos := "l07_ivf.go:61", after := #[{ on := 4, ground := Go.Ground.data }], guard := none }) (v := ?va5_5) rfl (by kernel_rfl) (by kernel_rfl) (by kernel_rfl) (fun _ _ _ h => h) (Or.inl ⟨by rfl, ?ha5_5⟩) hHeld ?ra5_5
        case ha5_5 =>
          intro wS hSw
          (try dsimp only at hSw)
          go_simp
          try with_reducible rfl
        case ra5_5 =>
        simp only [Act.put, List.setIfInBounds_toArray, List.set_cons_zero, List.set_cons_succ]
        refine wpAnyH_take (i := 6) (oi := { dst := some 22, op := Go.Op.load 28 (Go.Operand.tmp 21), type := 28, pos := "l07_ivf.go:61", after := #[{ on := 5, ground := Go.Ground.data }], guard := none }) (v := ?va6_6) rfl (by kernel_rfl) (by kernel_rfl) (by kernel_rfl) (fun _ _ _ h => h) (Or.inl ⟨by rfl, ?ha6_6⟩) hHeld ?ra6_6
        case ha6_6 =>
          intro wS hSw
          have y1 := (hSw.cell (p := ⟨bc, oc + k, none⟩) (by show bc < w.heap.size + 1; omega)).trans c1
          clear hSw
          (try dsimp only at hSw)
          go_simp
          try with_reducible rfl
        case ra6_6 =>
        simp only [Act.put, List.setIfInBounds_toArray, List.set_cons_zero, List.set_cons_succ]
        refine wpAnyH_ready (rs := [1, 7]) (by kernel_rfl) (by simp) ?_
        refine AllReadyH.cons (o := { dst := some 17, op := Go.Op.load 24 (Go.Operand.tmp 16), type := 24, pos := "l07_ivf.go:61", after := #[{ on := 0, ground := Go.Ground.data }], guard := none }) rfl (fun K hK => ?oa1_7) (AllReadyH.cons (o := { dst := some 23, op := Go.Op.call { callee := Go.Callee.value (Go.Operand.func 126), args := #[Go.Operand.tmp 22], argTypes := #[28] }, type := 28, pos := "l07_ivf.go:61", after := #[{ on := 6, ground := Go.Ground.data }], guard := none }) rfl (fun K hK => ?oa7_7) (AllReadyH.nil))
        case oa1_7 =>
          have y1 : (wD).cell? ⟨w.heap.size + 1, 0, none⟩ = some rc := hXD.at 0 _ rfl
          go_simp
          refine hK.out _ _ hHeld (fun hHeld => ?_)
          clear hK K
          try simp only [Act.put, List.setIfInBounds_toArray, List.set_cons_zero, List.set_cons_succ]
          refine wpAnyH_ready (rs := [7]) (by kernel_rfl) (by simp) ?_
          refine AllReadyH.cons (o := { dst := some 23, op := Go.Op.call { callee := Go.Callee.value (Go.Operand.func 126), args := #[Go.Operand.tmp 22], argTypes := #[28] }, type := 28, pos := "l07_ivf.go:61", after := #[{ on := 6, ground := Go.Ground.data }], guard := none }) rfl (fun K hK => ?_) AllReadyH.nil
          go_simp
          go_at_call 126
          refine (unhide LN _ hHeld).mono ?_
          rintro e w3 ⟨a9, d9, bl9, rfl, hl9, hi9, hbw⟩
          try go_wp2_with fail
          refine hK.out _ _ (below_up hW0 hHeld hbw) (fun hHeld => ?_)
          clear hK K
          try simp only [Act.put, List.setIfInBounds_toArray, List.set_cons_zero, List.set_cons_succ]
          refine wpAnyH_take (i := 8) (oi := { dst := some 24, op := Go.Op.build 138 #[(0, Go.Operand.tmp 23)], type := 138, pos := "l07_ivf.go:61", after := #[{ on := 7, ground := Go.Ground.data }], guard := none }) (v := ?va8_8) rfl (by kernel_rfl) (by kernel_rfl) (by kernel_rfl) (fun _ _ _ h => h) (Or.inl ⟨by rfl, ?ha8_8⟩) hHeld ?ra8_8
          case ha8_8 =>
            intro wS hSw
            (try dsimp only at hSw)
            go_simp
            try with_reducible rfl
          case ra8_8 =>
          simp only [Act.put, List.setIfInBounds_toArray, List.set_cons_zero, List.set_cons_succ]
          refine wpAnyH_ready (rs := [9]) (by kernel_rfl) (by simp) ?_
          refine AllReadyH.cons (o := { dst := some 25, op := Go.Op.buildSlice 24 1 #[(0, Go.Operand.tmp 24)], type := 24, pos := "l07_ivf.go:61", after := #[{ on := 8, ground := Go.Ground.data }], guard := none }) rfl (fun K hK => ?_) AllReadyH.nil
          go_simp
          refine hK.out _ _ (hHeld.alloc (Nat.le_trans hW0 hHeld.size) _) (fun hHeld => ?_)
          clear hK K
          try simp only [Act.put, List.setIfInBounds_toArray, List.set_cons_zero, List.set_cons_succ]
          refine wpAnyH_ready (rs := [10]) (by kernel_rfl) (by simp) ?_
          refine AllReadyH.cons (o := { dst := some 26, op := Go.Op.call { callee := Go.Callee.builtin Go.Builtin.append, args := #[Go.Operand.tmp 17, Go.Operand.tmp 25], argTypes := #[24, 24] }, type := 24, pos := "l07_ivf.go:61", after := #[{ on := 1, ground := Go.Ground.data }, { on := 9, ground := Go.Ground.data }, { on := 7, ground := Go.Ground.chain }], guard := none }) rfl (fun K hK => ?_) AllReadyH.nil
          have hG3 := gCD.later hbw
          have hz3 := hbw.size
          refine step_append_Center hG3 (row := [.slice a9 c.vec.length d9]) (x := ⟨c.vec⟩) (bl := bl9) hl9 (fun q hq e => by have h1 := (gCD.own.lt q e).2; have h2 := hi9 q hq; omega) rfl _ _ rfl rfl rfl (by have := unhide HLC; omega) (by have := gCD_lo; omega) ?_
          rintro g5 cp5 w5 hG5 hb5 hE5 hl5 hz5 hor5
          have hX5 : Box w.heap.size #[rc, rl] 27 w5 (w.heap.size + 1) := (hXD.keep hbw).ext hE5 (fun e => by have := (hG3.own.lt _ e).1; omega)
          refine hK.out _ _ ((below_up hW0 hHD hbw).trans (hb5.mono (by omega))) (fun hHeld => ?_)
          clear hK K
          try simp only [Act.put, List.setIfInBounds_toArray, List.set_cons_zero, List.set_cons_succ]
          refine wpAnyH_take (i := 11) (oi := { dst := some 27, op := Go.Op.fieldAddr 27 (Go.Operand.tmp 5) 0, type := 0, pos := "l07_ivf.go:61", after := #[{ on := 0, ground := Go.Ground.phase }, { on := 1, ground := Go.Ground.phase }, { on := 2, ground := Go.Ground.phase }, { on := 3, ground := Go.Ground.phase }, { on := 4, ground := Go.Ground.phase }, { on := 5, ground := Go.Ground.phase }, { on := 6, ground := Go.Ground.phase }, { on := 7, ground := Go.Ground.phase }, { on := 8, ground := Go.Ground.phase }, { on := 9, ground := Go.Ground.phase }, { on := 10, ground := Go.Ground.phase }], guard := none }) (v := ?va11_9) rfl (by kernel_rfl) (by kernel_rfl) (by kernel_rfl) (fun _ _ _ h => h) (Or.inl ⟨by rfl, ?ha11_9⟩) hHeld ?ra11_9
          case ha11_9 =>
            intro wS hSw
            (try dsimp only at hSw)
            go_simp
            try with_reducible rfl
          case ra11_9 =>
          simp only [Act.put, List.setIfInBounds_toArray, List.set_cons_zero, List.set_cons_succ]
          refine wpAnyH_ready (rs := [12]) (by kernel_rfl) (by simp) ?_
          refine AllReadyH.cons (o := { dst := none, op := Go.Op.store 24 (Go.Operand.tmp 27) (Go.Operand.tmp 26), type := 0, pos := "l07_ivf.go:61", after := #[{ on := 11, ground := Go.Ground.data }, { on := 10, ground := Go.Ground.data }, { on := 10, ground := Go.Ground.chain }, { on := 0, ground := Go.Ground.phase }, { on := 1, ground := Go.Ground.phase }, { on := 2, ground := Go.Ground.phase }, { on := 3, ground := Go.Ground.phase }, { on := 4, ground := Go.Ground.phase }, { on := 5, ground := Go.Ground.phase }, { on := 6, ground := Go.Ground.phase }, { on := 7, ground := Go.Ground.phase }, { on := 8, ground := Go.Ground.phase }, { on := 9, ground := Go.Ground.phase }, { on := 10, ground := Go.Ground.phase }], guard := none }) rfl (fun K hK => ?_) AllReadyH.nil
          have y1 := hX5.at 0 _ rfl
          have f1 := hX5.soft 0
          have l5 := hX5.lt
          go_simp
          refine hK.out _ _ (hHeld.setCell (by simp) _) (fun hHeld => ?_)
          clear hK K
          try simp only [Act.put, List.setIfInBounds_toArray, List.set_cons_zero, List.set_cons_succ]
          refine wpAnyH_done (by kernel_rfl) ?_ _
          refine NoPanic.normal ?_
          have HX9 : Hid (Box w.heap.size #[.slice (some ⟨g5, 0, none⟩) (ck.length + 1) cp5, rl] 27 (w5.setCell ⟨w.heap.size + 1, 0, none⟩ (.slice (some ⟨g5, 0, none⟩) (ck.length + 1) cp5)) (w.heap.size + 1)) := hX5.set 0 _
          have HT9 : Hid (Two (w5.setCell ⟨w.heap.size + 1, 0, none⟩ (.slice (some ⟨g5, 0, none⟩) (ck.length + 1) cp5)) (w.heap.size + 2) (.slice (some ⟨g5, 0, none⟩) (ck.length + 1) cp5) rl (ck ++ [⟨c.vec⟩]) lk) := (Two.cens (gLD.later hbw) s1 s2 x1 x2 x3 hG5 hE5 hor5 (fun q hq => by have := hi9 q hq; have := gCD_lo; omega) (fun q hq e => by have h1 := (gLD.own.lt q e).2; have h2 := hi9 q hq; omega)).ext (S := fun q => q = w.heap.size + 1) ((Ext.refl _ _).setCell ⟨w.heap.size + 1, 0, none⟩ _ rfl) (fun q h1 h2 => by omega)
          have HB9 := hide hHeld
          clear hHeld hG5 hb5 hE5 hX5 hG3 hbw gCD gLD hXD hHD
          go_wp2_with fail
          go_meet
          exact ⟨rfl, _, by rw [unhide HTK]; exact unhide HT9, unhide HX9, unhide HB9⟩
        case oa7_7 =>
          go_simp
          go_at_call 126
          refine (unhide LN _ hHeld).mono ?_
          rintro e w3 ⟨a9, d9, bl9, rfl, hl9, hi9, hbw⟩
          try go_wp2_with fail
          refine hK.out _ _ (below_up hW0 hHeld hbw) (fun hHeld => ?_)
          clear hK K
          try simp only [Act.put, List.setIfInBounds_toArray, List.set_cons_zero, List.set_cons_succ]
          refine wpAnyH_take (i := 8) (oi := { dst := some 24, op := Go.Op.build 138 #[(0, Go.Operand.tmp 23)], type := 138, pos := "l07_ivf.go:61", after := #[{ on := 7, ground := Go.Ground.data }], guard := none }) (v := ?va8_10) rfl (by kernel_rfl) (by kernel_rfl) (by kernel_rfl) (fun _ _ _ h => h) (Or.inl ⟨by rfl, ?ha8_10⟩) hHeld ?ra8_10
          case ha8_10 =>
            intro wS hSw
            (try dsimp only at hSw)
            go_simp
            try with_reducible rfl
          case ra8_10 =>
          simp only [Act.put, List.setIfInBounds_toArray, List.set_cons_zero, List.set_cons_succ]
          refine wpAnyH_ready (rs := [1, 9]) (by kernel_rfl) (by simp) ?_
          refine AllReadyH.cons (o := { dst := some 17, op := Go.Op.load 24 (Go.Operand.tmp 16), type := 24, pos := "l07_ivf.go:61", after := #[{ on := 0, ground := Go.Ground.data }], guard := none }) rfl (fun K hK => ?oa1_11) (AllReadyH.cons (o := { dst := some 25, op := Go.Op.buildSlice 24 1 #[(0, Go.Operand.tmp 24)], type := 24, pos := "l07_ivf.go:61", after := #[{ on := 8, ground := Go.Ground.data }], guard := none }) rfl (fun K hK => ?oa9_11) (AllReadyH.nil))
          case oa1_11 =>
            have y1 : (w3).cell? ⟨w.heap.size + 1, 0, none⟩ = some rc := (hXD.keep hbw).at 0 _ rfl
            go_simp
            refine hK.out _ _ hHeld (fun hHeld => ?_)
            clear hK K
            try simp only [Act.put, List.setIfInBounds_toArray, List.set_cons_zero, List.set_cons_succ]
            refine wpAnyH_ready (rs := [9]) (by kernel_rfl) (by simp) ?_
            refine AllReadyH.cons (o := { dst := some 25, op := Go.Op.buildSlice 24 1 #[(0, Go.Operand.tmp 24)], type := 24, pos := "l07_ivf.go:61", after := #[{ on := 8, ground := Go.Ground.data }], guard := none }) rfl (fun K hK => ?_) AllReadyH.nil
            go_simp
            refine hK.out _ _ (hHeld.alloc (Nat.le_trans hW0 hHeld.size) _) (fun hHeld => ?_)
            clear hK K
            try simp only [Act.put, List.setIfInBounds_toArray, List.set_cons_zero, List.set_cons_succ]
            refine wpAnyH_ready (rs := [10]) (by kernel_rfl) (by simp) ?_
            refine AllReadyH.cons (o := { dst := some 26, op := Go.Op.call { callee := Go.Callee.builtin Go.Builtin.append, args := #[Go.Operand.tmp 17, Go.Operand.tmp 25], argTypes := #[24, 24] }, type := 24, pos := "l07_ivf.go:61", after := #[{ on := 1, ground := Go.Ground.data }, { on := 9, ground := Go.Ground.data }, { on := 7, ground := Go.Ground.chain }], guard := none }) rfl (fun K hK => ?_) AllReadyH.nil
            have hG3 := gCD.later hbw
            have hz3 := hbw.size
            refine step_append_Center hG3 (row := [.slice a9 c.vec.length d9]) (x := ⟨c.vec⟩) (bl := bl9) hl9 (fun q hq e => by have h1 := (gCD.own.lt q e).2; have h2 := hi9 q hq; omega) rfl _ _ rfl rfl rfl (by have := unhide HLC; omega) (by have := gCD_lo; omega) ?_
            rintro g5 cp5 w5 hG5 hb5 hE5 hl5 hz5 hor5
            have hX5 : Box w.heap.size #[rc, rl] 27 w5 (w.heap.size + 1) := (hXD.keep hbw).ext hE5 (fun e => by have := (hG3.own.lt _ e).1; omega)
            refine hK.out _ _ ((below_up hW0 hHD hbw).trans (hb5.mono (by omega))) (fun hHeld => ?_)
            clear hK K
            try simp only [Act.put, List.setIfInBounds_toArray, List.set_cons_zero, List.set_cons_succ]
            refine wpAnyH_take (i := 11) (oi := { dst := some 27, op := Go.Op.fieldAddr 27 (Go.Operand.tmp 5) 0, type := 0, pos := "l07_ivf.go:61", after := #[{ on := 0, ground := Go.Ground.phase }, { on := 1, ground := Go.Ground.phase }, { on := 2, ground := Go.Ground.phase }, { on := 3, ground := Go.Ground.phase }, { on := 4, ground := Go.Ground.phase }, { on := 5, ground := Go.Ground.phase }, { on := 6, ground := Go.Ground.phase }, { on := 7, ground := Go.Ground.phase }, { on := 8, ground := Go.Ground.phase }, { on := 9, ground := Go.Ground.phase }, { on := 10, ground := Go.Ground.phase }], guard := none }) (v := ?va11_12) rfl (by kernel_rfl) (by kernel_rfl) (by kernel_rfl) (fun _ _ _ h => h) (Or.inl ⟨by rfl, ?ha11_12⟩) hHeld ?ra11_12
            case ha11_12 =>
              intro wS hSw
              (try dsimp only at hSw)
              go_simp
              try with_reducible rfl
            case ra11_12 =>
            simp only [Act.put, List.setIfInBounds_toArray, List.set_cons_zero, List.set_cons_succ]
            refine wpAnyH_ready (rs := [12]) (by kernel_rfl) (by simp) ?_
            refine AllReadyH.cons (o := { dst := none, op := Go.Op.store 24 (Go.Operand.tmp 27) (Go.Operand.tmp 26), type := 0, pos := "l07_ivf.go:61", after := #[{ on := 11, ground := Go.Ground.data }, { on := 10, ground := Go.Ground.data }, { on := 10, ground := Go.Ground.chain }, { on := 0, ground := Go.Ground.phase }, { on := 1, ground := Go.Ground.phase }, { on := 2, ground := Go.Ground.phase }, { on := 3, ground := Go.Ground.phase }, { on := 4, ground := Go.Ground.phase }, { on := 5, ground := Go.Ground.phase }, { on := 6, ground := Go.Ground.phase }, { on := 7, ground := Go.Ground.phase }, { on := 8, ground := Go.Ground.phase }, { on := 9, ground := Go.Ground.phase }, { on := 10, ground := Go.Ground.phase }], guard := none }) rfl (fun K hK => ?_) AllReadyH.nil
            have y1 := hX5.at 0 _ rfl
            have f1 := hX5.soft 0
            have l5 := hX5.lt
            go_simp
            refine hK.out _ _ (hHeld.setCell (by simp) _) (fun hHeld => ?_)
            clear hK K
            try simp only [Act.put, List.setIfInBounds_toArray, List.set_cons_zero, List.set_cons_succ]
            refine wpAnyH_done (by kernel_rfl) ?_ _
            refine NoPanic.normal ?_
            have HX9 : Hid (Box w.heap.size #[.slice (some ⟨g5, 0, none⟩) (ck.length + 1) cp5, rl] 27 (w5.setCell ⟨w.heap.size + 1, 0, none⟩ (.slice (some ⟨g5, 0, none⟩) (ck.length + 1) cp5)) (w.heap.size + 1)) := hX5.set 0 _
            have HT9 : Hid (Two (w5.setCell ⟨w.heap.size + 1, 0, none⟩ (.slice (some ⟨g5, 0, none⟩) (ck.length + 1) cp5)) (w.heap.size + 2) (.slice (some ⟨g5, 0, none⟩) (ck.length + 1) cp5) rl (ck ++ [⟨c.vec⟩]) lk) := (Two.cens (gLD.later hbw) s1 s2 x1 x2 x3 hG5 hE5 hor5 (fun q hq => by have := hi9 q hq; have := gCD_lo; omega) (fun q hq e => by have h1 := (gLD.own.lt q e).2; have h2 := hi9 q hq; omega)).ext (S := fun q => q = w.heap.size + 1) ((Ext.refl _ _).setCell ⟨w.heap.size + 1, 0, none⟩ _ rfl) (fun q h1 h2 => by omega)
            have HB9 := hide hHeld
            clear hHeld hG5 hb5 hE5 hX5 hG3 hbw gCD gLD hXD hHD
            go_wp2_with fail
            go_meet
            exact ⟨rfl, _, by rw [unhide HTK]; exact unhide HT9, unhide HX9, unhide HB9⟩
          case oa9_11 =>
            go_simp
            refine hK.out _ _ (hHeld.alloc (Nat.le_trans hW0 hHeld.size) _) (fun hHeld => ?_)
            clear hK K
            try simp only [Act.put, List.setIfInBounds_toArray, List.set_cons_zero, List.set_cons_succ]
            refine wpAnyH_ready (rs := [1]) (by kernel_rfl) (by simp) ?_
            refine AllReadyH.cons (o := { dst := some 17, op := Go.Op.load 24 (Go.Operand.tmp 16), type := 24, pos := "l07_ivf.go:61", after := #[{ on := 0, ground := Go.Ground.data }], guard := none }) rfl (fun K hK => ?_) AllReadyH.nil
            have y1 : (w3.alloc (.cells #[.slice a9 c.vec.length d9] 138)).cell? ⟨w.heap.size + 1, 0, none⟩ = some rc := ((hXD.keep hbw).grow _).at 0 _ rfl
            go_simp
            refine hK.out _ _ hHeld (fun hHeld => ?_)
            clear hK K
            try simp only [Act.put, List.setIfInBounds_toArray, List.set_cons_zero, List.set_cons_succ]
            refine wpAnyH_ready (rs := [10]) (by kernel_rfl) (by simp) ?_
            refine AllReadyH.cons (o := { dst := some 26, op := Go.Op.call { callee := Go.Callee.builtin Go.Builtin.append, args := #[Go.Operand.tmp 17, Go.Operand.tmp 25], argTypes := #[24, 24] }, type := 24, pos := "l07_ivf.go:61", after := #[{ on := 1, ground := Go.Ground.data }, { on := 9, ground := Go.Ground.data }, { on := 7, ground := Go.Ground.chain }], guard := none }) rfl (fun K hK => ?_) AllReadyH.nil
            have hG3 := gCD.later hbw
            have hz3 := hbw.size
            refine step_append_Center hG3 (row := [.slice a9 c.vec.length d9]) (x := ⟨c.vec⟩) (bl := bl9) hl9 (fun q hq e => by have h1 := (gCD.own.lt q e).2; have h2 := hi9 q hq; omega) rfl _ _ rfl rfl rfl (by have := unhide HLC; omega) (by have := gCD_lo; omega) ?_
            rintro g5 cp5 w5 hG5 hb5 hE5 hl5 hz5 hor5
            have hX5 : Box w.heap.size #[rc, rl] 27 w5 (w.heap.size + 1) := (hXD.keep hbw).ext hE5 (fun e => by have := (hG3.own.lt _ e).1; omega)
            refine hK.out _ _ ((below_up hW0 hHD hbw).trans (hb5.mono (by omega))) (fun hHeld => ?_)
            clear hK K
            try simp only [Act.put, List.setIfInBounds_toArray, List.set_cons_zero, List.set_cons_succ]
            refine wpAnyH_take (i := 11) (oi := { dst := some 27, op := Go.Op.fieldAddr 27 (Go.Operand.tmp 5) 0, type := 0, pos := "l07_ivf.go:61", after := #[{ on := 0, ground := Go.Ground.phase }, { on := 1, ground := Go.Ground.phase }, { on := 2, ground := Go.Ground.phase }, { on := 3, ground := Go.Ground.phase }, { on := 4, ground := Go.Ground.phase }, { on := 5, ground := Go.Ground.phase }, { on := 6, ground := Go.Ground.phase }, { on := 7, ground := Go.Ground.phase }, { on := 8, ground := Go.Ground.phase }, { on := 9, ground := Go.Ground.phase }, { on := 10, ground := Go.Ground.phase }], guard := none }) (v := ?va11_13) rfl (by kernel_rfl) (by kernel_rfl) (by kernel_rfl) (fun _ _ _ h => h) (Or.inl ⟨by rfl, ?ha11_13⟩) hHeld ?ra11_13
            case ha11_13 =>
              intro wS hSw
              (try dsimp only at hSw)
              go_simp
              try with_reducible rfl
            case ra11_13 =>
            simp only [Act.put, List.setIfInBounds_toArray, List.set_cons_zero, List.set_cons_succ]
            refine wpAnyH_ready (rs := [12]) (by kernel_rfl) (by simp) ?_
            refine AllReadyH.cons (o := { dst := none, op := Go.Op.store 24 (Go.Operand.tmp 27) (Go.Operand.tmp 26), type := 0, pos := "l07_ivf.go:61", after := #[{ on := 11, ground := Go.Ground.data }, { on := 10, ground := Go.Ground.data }, { on := 10, ground := Go.Ground.chain }, { on := 0, ground := Go.Ground.phase }, { on := 1, ground := Go.Ground.phase }, { on := 2, ground := Go.Ground.phase }, { on := 3, ground := Go.Ground.phase }, { on := 4, ground := Go.Ground.phase }, { on := 5, ground := Go.Ground.phase }, { on := 6, ground := Go.Ground.phase }, { on := 7, ground := Go.Ground.phase }, { on := 8, ground := Go.Ground.phase }, { on := 9, ground := Go.Ground.phase }, { on := 10, ground := Go.Ground.phase }], guard := none }) rfl (fun K hK => ?_) AllReadyH.nil
            have y1 := hX5.at 0 _ rfl
            have f1 := hX5.soft 0
            have l5 := hX5.lt
            go_simp
            refine hK.out _ _ (hHeld.setCell (by simp) _) (fun hHeld => ?_)
            clear hK K
            try simp only [Act.put, List.setIfInBounds_toArray, List.set_cons_zero, List.set_cons_succ]
            refine wpAnyH_done (by kernel_rfl) ?_ _
            refine NoPanic.normal ?_
            have HX9 : Hid (Box w.heap.size #[.slice (some ⟨g5, 0, none⟩) (ck.length + 1) cp5, rl] 27 (w5.setCell ⟨w.heap.size + 1, 0, none⟩ (.slice (some ⟨g5, 0, none⟩) (ck.length + 1) cp5)) (w.heap.size + 1)) := hX5.set 0 _
            have HT9 : Hid (Two (w5.setCell ⟨w.heap.size + 1, 0, none⟩ (.slice (some ⟨g5, 0, none⟩) (ck.length + 1) cp5)) (w.heap.size + 2) (.slice (some ⟨g5, 0, none⟩) (ck.length + 1) cp5) rl (ck ++ [⟨c.vec⟩]) lk) := (Two.cens (gLD.later hbw) s1 s2 x1 x2 x3 hG5 hE5 hor5 (fun q hq => by have := hi9 q hq; have := gCD_lo; omega) (fun q hq e => by have h1 := (gLD.own.lt q e).2; have h2 := hi9 q hq; omega)).ext (S := fun q => q = w.heap.size + 1) ((Ext.refl _ _).setCell ⟨w.heap.size + 1, 0, none⟩ _ rfl) (fun q h1 h2 => by omega)
            have HB9 := hide hHeld
            clear hHeld hG5 hb5 hE5 hX5 hG3 hbw gCD gLD hXD hHD
            go_wp2_with fail
            go_meet
            exact ⟨rfl, _, by rw [unhide HTK]; exact unhide HT9, unhide HX9, unhide HB9⟩
      case rest =>
        obtain ⟨rfl, rc', hT, hX, hB⟩ := hcut
        clear hXD gCD gLD hHD gCD_lo s1 s2 x1 x2 x3 LN HTK HLC c1
        have hBlo : w.heap.size + 2 ≤ wc.heap.size := Nat.le_trans hW2 hB.size
        have nbm : Below wc.heap.size wc (wc.alloc (.cells #[] 127)) := (Below.refl _ _).alloc (Nat.le_refl _) _
        have HG0 : Hid (Grow Lay.tItem (wc.alloc (.cells #[] 127)) wc.heap.size 127 (.slice (some ⟨wc.heap.size, 0, none⟩) 0 0) [] [] []) := Grow.nil (World.ownsRow_lit wc #[] 0 (Nat.le_refl _) (Nat.zero_le _) rfl)
        have HX := hide hX
        have HT := hide hT
        have HB := hide hB
        have HNB := hide nbm
        clear hX hT hB nbm
        rename World => wo
        go_wp2_with fail
        go_loopw [7, 8] (fun u i wr => ∃ (j : Nat) (rows : List (List Value)) (bls : List (List Nat)), j ≤ xs.length ∧ i = .int .i64 j ∧ Grow Lay.tItem wr wo.heap.size 127 u rows (mineI cs (xs.take j) k) bls ∧ (∀ q ∈ bls.flatten, q < w.heap.size) ∧ Below wo.heap.size wo wr) (fun _ i _ => xs.length - (intOf i).toNat)
        case atStart => exact ⟨0, [], [], Nat.zero_le _, rfl, unhide HG0, by simp, unhide HNB⟩
        case round =>
          obtain ⟨j, rows, bls, hj, rfl, hG, hq, hBr⟩ := hrel
          clear HG0 HNB
          have hBW := below_up hW0 (unhide HB) hBr
          by_cases hlj : j < xs.length
          · obtain ⟨b6, o6, a7, d7, bl7, rfl, hb6, c3, c4, hl7, hi7⟩ := unhide KX wr hBW j hlj
            have hvx := unhide HXV xs[j] (List.getElem_mem hlj)
            have HMS := hide (mineI_step cs xs k j hlj)
            have LN := hide (specNear _ cs _ (xs[j]).vec wr (unhide KC wr hBW).1 (Lay.ints_reads (by
              obtain ⟨_, _, e, R⟩ := open_Item ⟨bl7, hl7⟩
              simp only [List.cons.injEq, Value.slice.injEq, and_true, true_and] at e
              obtain ⟨rfl, rfl⟩ := e
              exact R)) (unhide HFC) hvx)
            clear hvx
            generalize xs[j] = y at *
            have hml : (mineI cs (xs.take j) k).length ≤ 30 := by have := mineI_len cs (xs.take j) k; simp at this; omega
            have HBR := hide hBr
            have HQ := hide hq
            have HG := hide hG
            have HL7 := hide hl7
            have HI7 := hide hi7
            clear hBr hq hG hl7 hi7 hBW
            generalize hnr : near cs y.vec = nr at *
            go_wp2_with fail
            refine (unhide LN).mono ?_
            rintro e w3 ⟨rfl, hb3⟩
            replace HBR := hide ((unhide HBR).trans (hb3.mono (unhide HBR).size))
            replace HG := hide ((unhide HG).later hb3)
            by_cases he : nr = k
            · have hd : (((nr : Nat) : Int) == ((k : Nat) : Int)) = true := by rw [he]; simp
              have HMS2 : Hid (mineI cs (xs.take (j + 1)) k = mineI cs (xs.take j) k ++ [y]) := (unhide HMS).trans (if_pos (by simpa using he))
              have hG3 := unhide HG
              have hl3 := Lay.tItem.keep (unhide HL7) (fun q hq => hb3.block q (Lay.tItem.lt (unhide HL7) q hq))
              have hoff : ∀ q ∈ bl7, u7.ownBlock ≠ some q := fun q hq e => by have h1 := (hG3.own.lt q e).1; have h2 := unhide HI7 q hq; omega
              have hz3 : wo.heap.size ≤ w3.heap.size := (unhide HBR).size
              have c3' := cell_keep hb3 c3
              have c4' := cell_keep hb3 c4
              have HIQ : Hid (∀ q ∈ (bls ++ [bl7]).flatten, q < w.heap.size) := flat_add (unhide HQ) (unhide HI7)
              clear c3 c4 LN HMS hb3 HG HL7 he hnr
              go_wp2_with (at_builtin; refine wpList_append_Item hG3 hl3 hoff rfl _ _ rfl rfl rfl ?hn9 hz3 ?_; case hn9 => omega)
              rintro g5 cp5 w5 hG5 hb5 - hl5 hz5 -
              have HG5 := hide hG5
              have HB5 := hide ((unhide HBR).trans hb5)
              clear hG5 hb5 hG3 hl3 hoff c3' c4' HBR
              go_wp2_with fail
              go_roundw
              case rel => exact ⟨j + 1, _, _, by omega, by go_num, by rw [unhide HMS2]; exact unhide HG5, unhide HIQ, unhide HB5⟩
              case measure => simp [intOf]; omega
            · have hd : (((nr : Nat) : Int) == ((k : Nat) : Int)) = false := by rw [beq_eq_false_iff_ne]; omega
              have HMS2 : Hid (mineI cs (xs.take (j + 1)) k = mineI cs (xs.take j) k) := (unhide HMS).trans (if_neg (by simpa using he))
              clear c3 c4 LN HMS hb3 HL7 he hnr
              go_wp2_with fail
              go_roundw
              case rel => exact ⟨j + 1, _, _, by omega, by go_num, by rw [unhide HMS2]; exact unhide HG, unhide HQ, unhide HBR⟩
              case measure => simp [intOf]; omega
          · obtain rfl : j = xs.length := by omega
            rw [List.take_length] at hG
            have hml : (mineI cs xs k).length ≤ 30 := by have := mineI_len cs xs k; omega
            obtain ⟨am, dm, rfl⟩ := open_sl (hG.toReads (by omega))
            have hMv : ∀ y ∈ mineI cs xs k, y.vec.length ≤ 100000000 := fun y hy => by
              have := (vecFault_zero (unhide HXV y (List.mem_filter.1 hy).1)).1
              omega
            have LC : Hid (∀ W, Below (w.heap.size + 1) W0 W → (Lay.sl Lay.tItem).Reads W [.slice am (mineI cs xs k).length dm] (mineI cs xs k) → Calls Try.prog 128 #[.slice am (mineI cs xs k).length dm] W fun e w' => ∃ a d bl, e = .returned (.slice a (mineI cs xs k).length d) ∧ Lay.tIvfList.lies w' [.slice a (mineI cs xs k).length d] ⟨mineI cs xs k⟩ bl ∧ (∀ q ∈ bl, W.heap.size ≤ q) ∧ Below W.heap.size W w') := fun W _ hR => by
              refine (specCopy _ (mineI cs xs k) W hR (by omega) hMv).mono ?_
              rintro e w' ⟨v', rfl, ⟨bl, hl, hi⟩, hb⟩
              obtain ⟨a, d, rfl⟩ := open_sl ⟨bl, hl⟩
              exact ⟨a, d, bl, rfl, hl, fun q hq => (hi q hq).1, hb⟩
            obtain ⟨rowsC, blsC, rowsL, blsL, gC, gL, s1, s2, x1, x2, x3⟩ := (unhide HT).later hBr
            have hXD : Box w.heap.size #[rc', rl] 27 wr.drew (w.heap.size + 1) := ((unhide HX).keep hBr).drew
            have gCD := gC.later (Below.refl wr.heap.size wr).drew
            have gLD := gL.later (Below.refl wr.heap.size wr).drew
            have gCD_lo : w.heap.size + 2 ≤ wr.drew.heap.size := Nat.le_trans hBlo hBr.size
            have hHD : Below (w.heap.size + 1) W0 wr.drew := (below_up hW0 (unhide HB) hBr).drew
            have hHM := (hG.toReads (by omega)).later (Below.refl wr.heap.size wr).drew
            rename_i _
            obtain ⟨rc, rfl⟩ : ∃ q, q = rc' := ⟨rc', rfl⟩
            clear hG hBr gC gL hq hMv HX HT
            go_upto_region 12 with fail
            refine wp_region_noPanic ?_
            refine wp_region_held_drew (S := fun w' => Below (w.heap.size + 1) W0 w') (by kernel_rfl) hHD (fun hHeld => ?_)
            generalize wr.drew = wD at hHeld hXD gCD gLD hHD hHM gCD_lo ⊢
            refine wpAnyH_take (i := 0) (oi := { dst := some 51, op := Go.Op.fieldAddr 27 (Go.Operand.tmp 5) 1, type := 0, pos := "l07_ivf.go:68", after := #[], guard := none }) (v := ?vb0_1) rfl (by kernel_rfl) (by kernel_rfl) (by kernel_rfl) (fun _ _ _ h => h) (Or.inl ⟨by rfl, ?hb0_1⟩) hHeld ?rb0_1
            case hb0_1 =>
              intro wS hSw
              (try dsimp only at hSw)
              go_simp
              try with_reducible rfl
            case rb0_1 =>
            simp only [Act.put, List.setIfInBounds_toArray, List.set_cons_zero, List.set_cons_succ]
            refine wpAnyH_take (i := 2) (oi := { dst := some 53, op := Go.Op.move (Go.Operand.tmp 7), type := 50, pos := "l07_ivf.go:68", after := #[], guard := none }) (v := ?vb2_2) rfl (by kernel_rfl) (by kernel_rfl) (by kernel_rfl) (fun _ _ _ h => h) (Or.inl ⟨by rfl, ?hb2_2⟩) hHeld ?rb2_2
            case hb2_2 =>
              intro wS hSw
              (try dsimp only at hSw)
              go_simp
              try with_reducible rfl
            case rb2_2 =>
            simp only [Act.put, List.setIfInBounds_toArray, List.set_cons_zero, List.set_cons_succ]
            refine wpAnyH_ready (rs := [1, 3]) (by kernel_rfl) (by simp) ?_
            refine AllReadyH.cons (o := { dst := some 52, op := Go.Op.load 25 (Go.Operand.tmp 51), type := 25, pos := "l07_ivf.go:68", after := #[{ on := 0, ground := Go.Ground.data }], guard := none }) rfl (fun K hK => ?ob1_3) (AllReadyH.cons (o := { dst := some 54, op := Go.Op.call { callee := Go.Callee.value (Go.Operand.func 128), args := #[Go.Operand.tmp 53], argTypes := #[50] }, type := 50, pos := "l07_ivf.go:68", after := #[{ on := 2, ground := Go.Ground.data }], guard := none }) rfl (fun K hK => ?ob3_3) (AllReadyH.nil))
            case ob1_3 =>
              have y1 : (wD).cell? ⟨w.heap.size + 1, 1, none⟩ = some rl := hXD.at 1 _ rfl
              go_simp
              refine hK.out _ _ hHeld (fun hHeld => ?_)
              clear hK K
              try simp only [Act.put, List.setIfInBounds_toArray, List.set_cons_zero, List.set_cons_succ]
              refine wpAnyH_ready (rs := [3]) (by kernel_rfl) (by simp) ?_
              refine AllReadyH.cons (o := { dst := some 54, op := Go.Op.call { callee := Go.Callee.value (Go.Operand.func 128), args := #[Go.Operand.tmp 53], argTypes := #[50] }, type := 50, pos := "l07_ivf.go:68", after := #[{ on := 2, ground := Go.Ground.data }], guard := none }) rfl (fun K hK => ?_) AllReadyH.nil
              go_simp
              go_at_call 128
              refine (unhide LC _ hHeld hHM).mono ?_
              rintro e w3 ⟨a9, d9, bl9, rfl, hl9, hi9, hbw⟩
              try go_wp2_with fail
              refine hK.out _ _ (below_up hW0 hHeld hbw) (fun hHeld => ?_)
              clear hK K
              try simp only [Act.put, List.setIfInBounds_toArray, List.set_cons_zero, List.set_cons_succ]
              refine wpAnyH_take (i := 4) (oi := { dst := some 55, op := Go.Op.build 147 #[(0, Go.Operand.tmp 54)], type := 147, pos := "l07_ivf.go:68", after := #[{ on := 3, ground := Go.Ground.data }], guard := none }) (v := ?vb4_4) rfl (by kernel_rfl) (by kernel_rfl) (by kernel_rfl) (fun _ _ _ h => h) (Or.inl ⟨by rfl, ?hb4_4⟩) hHeld ?rb4_4
              case hb4_4 =>
                intro wS hSw
                (try dsimp only at hSw)
                go_simp
                try with_reducible rfl
              case rb4_4 =>
              simp only [Act.put, List.setIfInBounds_toArray, List.set_cons_zero, List.set_cons_succ]
              refine wpAnyH_ready (rs := [5]) (by kernel_rfl) (by simp) ?_
              refine AllReadyH.cons (o := { dst := some 56, op := Go.Op.buildSlice 25 1 #[(0, Go.Operand.tmp 55)], type := 25, pos := "l07_ivf.go:68", after := #[{ on := 4, ground := Go.Ground.data }], guard := none }) rfl (fun K hK => ?_) AllReadyH.nil
              go_simp
              refine hK.out _ _ (hHeld.alloc (Nat.le_trans hW0 hHeld.size) _) (fun hHeld => ?_)
              clear hK K
              try simp only [Act.put, List.setIfInBounds_toArray, List.set_cons_zero, List.set_cons_succ]
              refine wpAnyH_ready (rs := [6]) (by kernel_rfl) (by simp) ?_
              refine AllReadyH.cons (o := { dst := some 57, op := Go.Op.call { callee := Go.Callee.builtin Go.Builtin.append, args := #[Go.Operand.tmp 52, Go.Operand.tmp 56], argTypes := #[25, 25] }, type := 25, pos := "l07_ivf.go:68", after := #[{ on := 1, ground := Go.Ground.data }, { on := 5, ground := Go.Ground.data }, { on := 3, ground := Go.Ground.chain }], guard := none }) rfl (fun K hK => ?_) AllReadyH.nil
              have hG3 := gLD.later hbw
              have hz3 := hbw.size
              refine step_append_IvfList hG3 (row := [.slice a9 (mineI cs xs k).length d9]) (x := ⟨mineI cs xs k⟩) (bl := bl9) hl9 (fun q hq e => by have h1 := (gLD.own.lt q e).2; have h2 := hi9 q hq; omega) rfl _ _ rfl rfl rfl (by have := unhide HLL; omega) (by have := gCD_lo; omega) ?_
              rintro g5 cp5 w5 hG5 hb5 hE5 hl5 hz5 hor5
              have hX5 : Box w.heap.size #[rc, rl] 27 w5 (w.heap.size + 1) := (hXD.keep hbw).ext hE5 (fun e => by have := (hG3.own.lt _ e).1; omega)
              refine hK.out _ _ ((below_up hW0 hHD hbw).trans (hb5.mono (by omega))) (fun hHeld => ?_)
              clear hK K
              try simp only [Act.put, List.setIfInBounds_toArray, List.set_cons_zero, List.set_cons_succ]
              refine wpAnyH_take (i := 7) (oi := { dst := some 58, op := Go.Op.fieldAddr 27 (Go.Operand.tmp 5) 1, type := 0, pos := "l07_ivf.go:68", after := #[{ on := 0, ground := Go.Ground.phase }, { on := 1, ground := Go.Ground.phase }, { on := 2, ground := Go.Ground.phase }, { on := 3, ground := Go.Ground.phase }, { on := 4, ground := Go.Ground.phase }, { on := 5, ground := Go.Ground.phase }, { on := 6, ground := Go.Ground.phase }], guard := none }) (v := ?vb7_5) rfl (by kernel_rfl) (by kernel_rfl) (by kernel_rfl) (fun _ _ _ h => h) (Or.inl ⟨by rfl, ?hb7_5⟩) hHeld ?rb7_5
              case hb7_5 =>
                intro wS hSw
                (try dsimp only at hSw)
                go_simp
                try with_reducible rfl
              case rb7_5 =>
              simp only [Act.put, List.setIfInBounds_toArray, List.set_cons_zero, List.set_cons_succ]
              refine wpAnyH_ready (rs := [8]) (by kernel_rfl) (by simp) ?_
              refine AllReadyH.cons (o := { dst := none, op := Go.Op.store 25 (Go.Operand.tmp 58) (Go.Operand.tmp 57), type := 0, pos := "l07_ivf.go:68", after := #[{ on := 7, ground := Go.Ground.data }, { on := 6, ground := Go.Ground.data }, { on := 6, ground := Go.Ground.chain }, { on := 0, ground := Go.Ground.phase }, { on := 1, ground := Go.Ground.phase }, { on := 2, ground := Go.Ground.phase }, { on := 3, ground := Go.Ground.phase }, { on := 4, ground := Go.Ground.phase }, { on := 5, ground := Go.Ground.phase }, { on := 6, ground := Go.Ground.phase }], guard := none }) rfl (fun K hK => ?_) AllReadyH.nil
              have y1 := hX5.at 1 _ rfl
              have f1 := hX5.soft 1
              have l5 := hX5.lt
              go_simp
              refine hK.out _ _ (hHeld.setCell (by simp) _) (fun hHeld => ?_)
              clear hK K
              try simp only [Act.put, List.setIfInBounds_toArray, List.set_cons_zero, List.set_cons_succ]
              refine wpAnyH_done (by kernel_rfl) ?_ _
              refine NoPanic.normal ?_
              have HX9 : Hid (Box w.heap.size #[rc, .slice (some ⟨g5, 0, none⟩) (lk.length + 1) cp5] 27 (w5.setCell ⟨w.heap.size + 1, 1, none⟩ (.slice (some ⟨g5, 0, none⟩) (lk.length + 1) cp5)) (w.heap.size + 1)) := hX5.set 1 _
              have HT9 : Hid (Two (w5.setCell ⟨w.heap.size + 1, 1, none⟩ (.slice (some ⟨g5, 0, none⟩) (lk.length + 1) cp5)) (w.heap.size + 2) rc (.slice (some ⟨g5, 0, none⟩) (lk.length + 1) cp5) (cs.take (k + 1)) (lk ++ [⟨mineI cs xs k⟩])) := (Two.listsA (gCD.later hbw) s1 s2 x1 x2 x3 hG5 hE5 hor5 (fun q hq => by have := hi9 q hq; have := gCD_lo; omega) (fun q hq e => by have h1 := (gCD.own.lt q e).2; have h2 := hi9 q hq; omega)).ext (S := fun q => q = w.heap.size + 1) ((Ext.refl _ _).setCell ⟨w.heap.size + 1, 1, none⟩ _ rfl) (fun q h1 h2 => by omega)
              have HB9 := hide hHeld
              clear hHeld hG5 hb5 hE5 hX5 hG3 hbw gCD gLD hXD hHD hHM
              go_wp2_with fail
              go_roundw
              case rel => exact ⟨k + 1, _, _, by omega, by go_num, unhide HX9, by rw [unhide HTL]; exact unhide HT9, unhide HB9⟩
              case measure => simp [intOf]; omega
            case ob3_3 =>
              go_simp
              go_at_call 128
              refine (unhide LC _ hHeld hHM).mono ?_
              rintro e w3 ⟨a9, d9, bl9, rfl, hl9, hi9, hbw⟩
              try go_wp2_with fail
              refine hK.out _ _ (below_up hW0 hHeld hbw) (fun hHeld => ?_)
              clear hK K
              try simp only [Act.put, List.setIfInBounds_toArray, List.set_cons_zero, List.set_cons_succ]
              refine wpAnyH_take (i := 4) (oi := { dst := some 55, op := Go.Op.build 147 #[(0, Go.Operand.tmp 54)], type := 147, pos := "l07_ivf.go:68", after := #[{ on := 3, ground := Go.Ground.data }], guard := none }) (v := ?vb4_6) rfl (by kernel_rfl) (by kernel_rfl) (by kernel_rfl) (fun _ _ _ h => h) (Or.inl ⟨by rfl, ?hb4_6⟩) hHeld ?rb4_6
              case hb4_6 =>
                intro wS hSw
                (try dsimp only at hSw)
                go_simp
                try with_reducible rfl
              case rb4_6 =>
              simp only [Act.put, List.setIfInBounds_toArray, List.set_cons_zero, List.set_cons_succ]
              refine wpAnyH_ready (rs := [1, 5]) (by kernel_rfl) (by simp) ?_
              refine AllReadyH.cons (o := { dst := some 52, op := Go.Op.load 25 (Go.Operand.tmp 51), type := 25, pos := "l07_ivf.go:68", after := #[{ on := 0, ground := Go.Ground.data }], guard := none }) rfl (fun K hK => ?ob1_7) (AllReadyH.cons (o := { dst := some 56, op := Go.Op.buildSlice 25 1 #[(0, Go.Operand.tmp 55)], type := 25, pos := "l07_ivf.go:68", after := #[{ on := 4, ground := Go.Ground.data }], guard := none }) rfl (fun K hK => ?ob5_7) (AllReadyH.nil))
              case ob1_7 =>
                have y1 : (w3).cell? ⟨w.heap.size + 1, 1, none⟩ = some rl := (hXD.keep hbw).at 1 _ rfl
                go_simp
                refine hK.out _ _ hHeld (fun hHeld => ?_)
                clear hK K
                try simp only [Act.put, List.setIfInBounds_toArray, List.set_cons_zero, List.set_cons_succ]
                refine wpAnyH_ready (rs := [5]) (by kernel_rfl) (by simp) ?_
                refine AllReadyH.cons (o := { dst := some 56, op := Go.Op.buildSlice 25 1 #[(0, Go.Operand.tmp 55)], type := 25, pos := "l07_ivf.go:68", after := #[{ on := 4, ground := Go.Ground.data }], guard := none }) rfl (fun K hK => ?_) AllReadyH.nil
                go_simp
                refine hK.out _ _ (hHeld.alloc (Nat.le_trans hW0 hHeld.size) _) (fun hHeld => ?_)
                clear hK K
                try simp only [Act.put, List.setIfInBounds_toArray, List.set_cons_zero, List.set_cons_succ]
                refine wpAnyH_ready (rs := [6]) (by kernel_rfl) (by simp) ?_
                refine AllReadyH.cons (o := { dst := some 57, op := Go.Op.call { callee := Go.Callee.builtin Go.Builtin.append, args := #[Go.Operand.tmp 52, Go.Operand.tmp 56], argTypes := #[25, 25] }, type := 25, pos := "l07_ivf.go:68", after := #[{ on := 1, ground := Go.Ground.data }, { on := 5, ground := Go.Ground.data }, { on := 3, ground := Go.Ground.chain }], guard := none }) rfl (fun K hK => ?_) AllReadyH.nil
                have hG3 := gLD.later hbw
                have hz3 := hbw.size
                refine step_append_IvfList hG3 (row := [.slice a9 (mineI cs xs k).length d9]) (x := ⟨mineI cs xs k⟩) (bl := bl9) hl9 (fun q hq e => by have h1 := (gLD.own.lt q e).2; have h2 := hi9 q hq; omega) rfl _ _ rfl rfl rfl (by have := unhide HLL; omega) (by have := gCD_lo; omega) ?_
                rintro g5 cp5 w5 hG5 hb5 hE5 hl5 hz5 hor5
                have hX5 : Box w.heap.size #[rc, rl] 27 w5 (w.heap.size + 1) := (hXD.keep hbw).ext hE5 (fun e => by have := (hG3.own.lt _ e).1; omega)
                refine hK.out _ _ ((below_up hW0 hHD hbw).trans (hb5.mono (by omega))) (fun hHeld => ?_)
                clear hK K
                try simp only [Act.put, List.setIfInBounds_toArray, List.set_cons_zero, List.set_cons_succ]
                refine wpAnyH_take (i := 7) (oi := { dst := some 58, op := Go.Op.fieldAddr 27 (Go.Operand.tmp 5) 1, type := 0, pos := "l07_ivf.go:68", after := #[{ on := 0, ground := Go.Ground.phase }, { on := 1, ground := Go.Ground.phase }, { on := 2, ground := Go.Ground.phase }, { on := 3, ground := Go.Ground.phase }, { on := 4, ground := Go.Ground.phase }, { on := 5, ground := Go.Ground.phase }, { on := 6, ground := Go.Ground.phase }], guard := none }) (v := ?vb7_8) rfl (by kernel_rfl) (by kernel_rfl) (by kernel_rfl) (fun _ _ _ h => h) (Or.inl ⟨by rfl, ?hb7_8⟩) hHeld ?rb7_8
                case hb7_8 =>
                  intro wS hSw
                  (try dsimp only at hSw)
                  go_simp
                  try with_reducible rfl
                case rb7_8 =>
                simp only [Act.put, List.setIfInBounds_toArray, List.set_cons_zero, List.set_cons_succ]
                refine wpAnyH_ready (rs := [8]) (by kernel_rfl) (by simp) ?_
                refine AllReadyH.cons (o := { dst := none, op := Go.Op.store 25 (Go.Operand.tmp 58) (Go.Operand.tmp 57), type := 0, pos := "l07_ivf.go:68", after := #[{ on := 7, ground := Go.Ground.data }, { on := 6, ground := Go.Ground.data }, { on := 6, ground := Go.Ground.chain }, { on := 0, ground := Go.Ground.phase }, { on := 1, ground := Go.Ground.phase }, { on := 2, ground := Go.Ground.phase }, { on := 3, ground := Go.Ground.phase }, { on := 4, ground := Go.Ground.phase }, { on := 5, ground := Go.Ground.phase }, { on := 6, ground := Go.Ground.phase }], guard := none }) rfl (fun K hK => ?_) AllReadyH.nil
                have y1 := hX5.at 1 _ rfl
                have f1 := hX5.soft 1
                have l5 := hX5.lt
                go_simp
                refine hK.out _ _ (hHeld.setCell (by simp) _) (fun hHeld => ?_)
                clear hK K
                try simp only [Act.put, List.setIfInBounds_toArray, List.set_cons_zero, List.set_cons_succ]
                refine wpAnyH_done (by kernel_rfl) ?_ _
                refine NoPanic.normal ?_
                have HX9 : Hid (Box w.heap.size #[rc, .slice (some ⟨g5, 0, none⟩) (lk.length + 1) cp5] 27 (w5.setCell ⟨w.heap.size + 1, 1, none⟩ (.slice (some ⟨g5, 0, none⟩) (lk.length + 1) cp5)) (w.heap.size + 1)) := hX5.set 1 _
                have HT9 : Hid (Two (w5.setCell ⟨w.heap.size + 1, 1, none⟩ (.slice (some ⟨g5, 0, none⟩) (lk.length + 1) cp5)) (w.heap.size + 2) rc (.slice (some ⟨g5, 0, none⟩) (lk.length + 1) cp5) (cs.take (k + 1)) (lk ++ [⟨mineI cs xs k⟩])) := (Two.listsA (gCD.later hbw) s1 s2 x1 x2 x3 hG5 hE5 hor5 (fun q hq => by have := hi9 q hq; have := gCD_lo; omega) (fun q hq e => by have h1 := (gCD.own.lt q e).2; have h2 := hi9 q hq; omega)).ext (S := fun q => q = w.heap.size + 1) ((Ext.refl _ _).setCell ⟨w.heap.size + 1, 1, none⟩ _ rfl) (fun q h1 h2 => by omega)
                have HB9 := hide hHeld
                clear hHeld hG5 hb5 hE5 hX5 hG3 hbw gCD gLD hXD hHD hHM
                go_wp2_with fail
                go_roundw
                case rel => exact ⟨k + 1, _, _, by omega, by go_num, unhide HX9, by rw [unhide HTL]; exact unhide HT9, unhide HB9⟩
                case measure => simp [intOf]; omega
              case ob5_7 =>
                go_simp
                refine hK.out _ _ (hHeld.alloc (Nat.le_trans hW0 hHeld.size) _) (fun hHeld => ?_)
                clear hK K
                try simp only [Act.put, List.setIfInBounds_toArray, List.set_cons_zero, List.set_cons_succ]
                refine wpAnyH_ready (rs := [1]) (by kernel_rfl) (by simp) ?_
                refine AllReadyH.cons (o := { dst := some 52, op := Go.Op.load 25 (Go.Operand.tmp 51), type := 25, pos := "l07_ivf.go:68", after := #[{ on := 0, ground := Go.Ground.data }], guard := none }) rfl (fun K hK => ?_) AllReadyH.nil
                have y1 : (w3.alloc (.cells #[.slice a9 (mineI cs xs k).length d9] 147)).cell? ⟨w.heap.size + 1, 1, none⟩ = some rl := ((hXD.keep hbw).grow _).at 1 _ rfl
                go_simp
                refine hK.out _ _ hHeld (fun hHeld => ?_)
                clear hK K
                try simp only [Act.put, List.setIfInBounds_toArray, List.set_cons_zero, List.set_cons_succ]
                refine wpAnyH_ready (rs := [6]) (by kernel_rfl) (by simp) ?_
                refine AllReadyH.cons (o := { dst := some 57, op := Go.Op.call { callee := Go.Callee.builtin Go.Builtin.append, args := #[Go.Operand.tmp 52, Go.Operand.tmp 56], argTypes := #[25, 25] }, type := 25, pos := "l07_ivf.go:68", after := #[{ on := 1, ground := Go.Ground.data }, { on := 5, ground := Go.Ground.data }, { on := 3, ground := Go.Ground.chain }], guard := none }) rfl (fun K hK => ?_) AllReadyH.nil
                have hG3 := gLD.later hbw
                have hz3 := hbw.size
                refine step_append_IvfList hG3 (row := [.slice a9 (mineI cs xs k).length d9]) (x := ⟨mineI cs xs k⟩) (bl := bl9) hl9 (fun q hq e => by have h1 := (gLD.own.lt q e).2; have h2 := hi9 q hq; omega) rfl _ _ rfl rfl rfl (by have := unhide HLL; omega) (by have := gCD_lo; omega) ?_
                rintro g5 cp5 w5 hG5 hb5 hE5 hl5 hz5 hor5
                have hX5 : Box w.heap.size #[rc, rl] 27 w5 (w.heap.size + 1) := (hXD.keep hbw).ext hE5 (fun e => by have := (hG3.own.lt _ e).1; omega)
                refine hK.out _ _ ((below_up hW0 hHD hbw).trans (hb5.mono (by omega))) (fun hHeld => ?_)
                clear hK K
                try simp only [Act.put, List.setIfInBounds_toArray, List.set_cons_zero, List.set_cons_succ]
                refine wpAnyH_take (i := 7) (oi := { dst := some 58, op := Go.Op.fieldAddr 27 (Go.Operand.tmp 5) 1, type := 0, pos := "l07_ivf.go:68", after := #[{ on := 0, ground := Go.Ground.phase }, { on := 1, ground := Go.Ground.phase }, { on := 2, ground := Go.Ground.phase }, { on := 3, ground := Go.Ground.phase }, { on := 4, ground := Go.Ground.phase }, { on := 5, ground := Go.Ground.phase }, { on := 6, ground := Go.Ground.phase }], guard := none }) (v := ?vb7_9) rfl (by kernel_rfl) (by kernel_rfl) (by kernel_rfl) (fun _ _ _ h => h) (Or.inl ⟨by rfl, ?hb7_9⟩) hHeld ?rb7_9
                case hb7_9 =>
                  intro wS hSw
                  (try dsimp only at hSw)
                  go_simp
                  try with_reducible rfl
                case rb7_9 =>
                simp only [Act.put, List.setIfInBounds_toArray, List.set_cons_zero, List.set_cons_succ]
                refine wpAnyH_ready (rs := [8]) (by kernel_rfl) (by simp) ?_
                refine AllReadyH.cons (o := { dst := none, op := Go.Op.store 25 (Go.Operand.tmp 58) (Go.Operand.tmp 57), type := 0, pos := "l07_ivf.go:68", after := #[{ on := 7, ground := Go.Ground.data }, { on := 6, ground := Go.Ground.data }, { on := 6, ground := Go.Ground.chain }, { on := 0, ground := Go.Ground.phase }, { on := 1, ground := Go.Ground.phase }, { on := 2, ground := Go.Ground.phase }, { on := 3, ground := Go.Ground.phase }, { on := 4, ground := Go.Ground.phase }, { on := 5, ground := Go.Ground.phase }, { on := 6, ground := Go.Ground.phase }], guard := none }) rfl (fun K hK => ?_) AllReadyH.nil
                have y1 := hX5.at 1 _ rfl
                have f1 := hX5.soft 1
                have l5 := hX5.lt
                go_simp
                refine hK.out _ _ (hHeld.setCell (by simp) _) (fun hHeld => ?_)
                clear hK K
                try simp only [Act.put, List.setIfInBounds_toArray, List.set_cons_zero, List.set_cons_succ]
                refine wpAnyH_done (by kernel_rfl) ?_ _
                refine NoPanic.normal ?_
                have HX9 : Hid (Box w.heap.size #[rc, .slice (some ⟨g5, 0, none⟩) (lk.length + 1) cp5] 27 (w5.setCell ⟨w.heap.size + 1, 1, none⟩ (.slice (some ⟨g5, 0, none⟩) (lk.length + 1) cp5)) (w.heap.size + 1)) := hX5.set 1 _
                have HT9 : Hid (Two (w5.setCell ⟨w.heap.size + 1, 1, none⟩ (.slice (some ⟨g5, 0, none⟩) (lk.length + 1) cp5)) (w.heap.size + 2) rc (.slice (some ⟨g5, 0, none⟩) (lk.length + 1) cp5) (cs.take (k + 1)) (lk ++ [⟨mineI cs xs k⟩])) := (Two.listsA (gCD.later hbw) s1 s2 x1 x2 x3 hG5 hE5 hor5 (fun q hq => by have := hi9 q hq; have := gCD_lo; omega) (fun q hq e => by have h1 := (gCD.own.lt q e).2; have h2 := hi9 q hq; omega)).ext (S := fun q => q = w.heap.size + 1) ((Ext.refl _ _).setCell ⟨w.heap.size + 1, 1, none⟩ _ rfl) (fun q h1 h2 => by omega)
                have HB9 := hide hHeld
                clear hHeld hG5 hb5 hE5 hX5 hG3 hbw gCD gLD hXD hHD hHM
                go_wp2_with fail
                go_roundw
                case rel => exact ⟨k + 1, _, _, by omega, by go_num, unhide HX9, by rw [unhide HTL]; exact unhide HT9, unhide HB9⟩
                case measure => simp [intOf]; omega
    · obtain rfl : k = cs.length := by omega
      rw [List.take_length, show (buildI cs xs).lists.take cs.length = (buildI cs xs).lists by rw [← buildI_len cs xs, List.take_length]] at hT
      have HLI := hide (hT.lies (by omega) (by rw [buildI_len]; omega))
      have bR : Box w.heap.size #[.slice none 0 0, .slice none 0 0] 27 wr w.heap.size := ⟨Nat.le_refl _, (hB.block _ (by omega)).trans (unhide HR).2⟩
      obtain ⟨_, _, _, _, gC, gL, -⟩ := hT
      obtain ⟨a8, d8, rfl⟩ := open_sl (gC.toReads (by omega))
      obtain ⟨a9, d9, rfl⟩ := open_sl (gL.toReads (by rw [buildI_len]; omega))
      have z0 : wr.cell? ⟨w.heap.size, 0, none⟩ = some (.slice none 0 0) := bR.at 0 _ rfl
      have z1 : wr.cell? ⟨w.heap.size, 1, none⟩ = some (.slice none 0 0) := bR.at 1 _ rfl
      have y0 := hX.at 0 _ rfl
      have y1 := hX.at 1 _ rfl
      have f0 := bR.soft 0
      have f1 := bR.soft 1
      have l0 := bR.lt
      have HB9 := hide ((unhide HBW).trans (hB.mono (by omega)))
      clear hB hX bR gC gL HR
      generalize hm9 : (buildI cs xs).lists.length = n9 at *
      clear hm9
      go_wp2_with fail
      refine bodyPost_ret (v := .agg #[.slice a8 cs.length d8, .slice a9 n9 d9]) (by simp [results, Try.results81, go_sem, z0, z1]) rfl ?_
      have hE : Ext (fun c => c = w.heap.size) wr ((wr.setCell ⟨w.heap.size, 0, none⟩ (.slice a8 cs.length d8)).setCell ⟨w.heap.size, 1, none⟩ (.slice a9 n9 d9)) := ((Ext.refl (fun c => c = w.heap.size) _).setCell ⟨w.heap.size, 0, none⟩ _ rfl).setCell ⟨w.heap.size, 1, none⟩ _ rfl
      exact ⟨[.slice a8 cs.length d8, .slice a9 n9 d9], rfl, ((unhide HLI).ext hE (fun c h1 _ h3 => by omega)).mono (by omega) (by simp), ((unhide HB9).setCell (by simp) _).setCell (by simp) _⟩

end Go.Proofs.Ytggnnbdjihihiaa
