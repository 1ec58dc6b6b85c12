/-
  copy of hits into a row of the call's own, and what a row holds when a hit is put into its midst.
  No condition: laws of the model's copy at elements of two cells.
-/
import Derived.Test.YtkodenmpadehjabHitAppend
import Derived.Laws.CopyRow
import Derived.Deep.RegionLaw
namespace Go.Proofs.Ytkodenmpadehjab
open Go.RowKit

theorem run_copy_rowk {P : Program} (w : World) (dT sT ty elem : TypeId) (k g o dLen dCap : Nat) (a : Addr) (sLen sCap : Nat) (cur : Array Value) (t : TypeId) (cs : List Value)
    (hu : P.underlying dT = some (.slice elem)) (hs : (P.info? elem).map (·.size) = some k)
    (hg : w.heap[g]? = some (.cells cur t (0, 0))) (m : Nat) (hm : Nat.min sLen dLen = m) (hn : cs.length = m * k)
    (hsrc : ∀ j v, cs[j]? = some v → w.cell? (a.add j) = some v) (hfit : o + cs.length ≤ cur.size) (h1 : ∀ v ∈ cs, v.oneCell' = true) :
    (Builtin.copy_ #[dT, sT] ty #[.slice (some ⟨g, o, none⟩) dLen dCap, .slice (some a) sLen sCap]).run P w =
      .ok (goInt m) (w.setRow g (cur.toList.take o ++ cs ++ cur.toList.drop (o + cs.length)).toArray) := by
  have hl := run_loadCells_list (P := P) w a cs hsrc
  have hst := run_storeCells_at P g o t cs 0 cur w hg (by simpa using hfit) h1
  cases hq : P.info? elem with
  | none => simp [hq] at hs
  | some i =>
    have hi : i.size = k := by simpa [hq] using hs
    simp [Builtin.copy_, run_underlying hu, Builtin.lenOf, Builtin.firstCells, sizeOf, typeInfo, hq, hi, hm, ← hn, hl, hst]

/-- The row behind a copy. -/
def laidOver (cur : List Value) (o : Nat) (cs : List Value) : List Value := cur.take o ++ cs ++ cur.drop (o + cs.length)

theorem run_copy_hits (w : World) (ty g o dLen dCap : Nat) (a : Addr) (sLen sCap : Nat) (cur : List Value) (t : TypeId) (cs : List Value)
    (hg : w.heap[g]? = some (.cells cur.toArray t (0, 0))) (m : Nat) (hm : Nat.min sLen dLen = m) (hn : cs.length = m * 2)
    (hsrc : ∀ j v, cs[j]? = some v → w.cell? (a.add j) = some v) (hfit : o + cs.length ≤ cur.length) (h1 : ∀ v ∈ cs, v.oneCell' = true) :
    ∃ w', (Builtin.copy_ #[28, 28] ty #[.slice (some ⟨g, o, none⟩) dLen dCap, .slice (some a) sLen sCap]).run Try.prog w = .ok (goInt m) w' ∧
      w'.heap[g]? = some (.cells (laidOver cur o cs).toArray t (0, 0)) ∧ w.grownBy w' (some g) := by
  obtain ⟨i0, hi, hz0, hz1, hz2⟩ := info_parts infoHit
  refine ⟨_, run_copy_rowk w 28 28 ty 38 2 g o dLen dCap a sLen sCap cur.toArray t cs Try.underlying28 (by rw [hi]; simp [hz1]) hg m hm hn hsrc (by simpa using hfit) h1, ?_, ?_⟩
  · simpa [laidOver] using setRow_heap w g _ _ t _ hg
  · exact ⟨rfl, rfl, rfl, by simp, fun k _ hk => setRow_other w g k _ (fun e => hk (by rw [e]))⟩

theorem wpList_copy_hits {w : World} {ops : Array Oper} {rest : List Oper} {o : Oper} {a : Act} {Q : Exit → Act → World → Prop} (hgd : o.guard = none) (d s : Operand)
    (ho : o.op = .call { callee := .builtin .copy, args := #[d, s], argTypes := #[28, 28] })
    (g off dLen dCap : Nat) (ad : Addr) (sLen sCap : Nat) (hd : a.eval d = .slice (some ⟨g, off, none⟩) dLen dCap) (hs : a.eval s = .slice (some ad) sLen sCap)
    (cur : List Value) (t : TypeId) (cs : List Value) (hg : w.heap[g]? = some (.cells cur.toArray t (0, 0))) (m : Nat) (hm : Nat.min sLen dLen = m) (hn : cs.length = m * 2)
    (hsrc : ∀ j v, cs[j]? = some v → w.cell? (ad.add j) = some v) (hfit : off + cs.length ≤ cur.length) (h1 : ∀ v ∈ cs, v.oneCell' = true)
    (h : ∀ w', w'.heap[g]? = some (.cells (laidOver cur off cs).toArray t (0, 0)) → w.grownBy w' (some g) → wpList Try.prog ops Q rest (a.put o.dst (goInt m)) w') :
    wpList Try.prog ops Q (o :: rest) a w := by
  refine wpList_plain hgd fun K hK => ?_
  obtain ⟨w', hr, h2, h3⟩ := run_copy_hits w o.type g off dLen dCap ad sLen sCap cur t cs hg m hm hn hsrc hfit h1
  unfold Oper.wp execOp
  simp only [ho, resolve, invoke, builtin, Sem.run_bind, Sem.run_pure, Result.andThen_ok, List.map_toArray, List.map_cons, List.map_nil, hd, hs, hr]
  exact hK _ _ (h w' h2 h3)

theorem step_copy_hits {ops : Array Oper} {o : Oper} {a : Act} {w : World} {K : Act → World → Prop} {Q : Exit → Act → World → Prop} {E : Prop} (hgd : o.guard = none) (d s : Operand)
    (ho : o.op = .call { callee := .builtin .copy, args := #[d, s], argTypes := #[28, 28] })
    (g off dLen dCap : Nat) (ad : Addr) (sLen sCap : Nat) (hd : a.eval d = .slice (some ⟨g, off, none⟩) dLen dCap) (hs : a.eval s = .slice (some ad) sLen sCap)
    (cur : List Value) (t : TypeId) (cs : List Value) (hg : w.heap[g]? = some (.cells cur.toArray t (0, 0))) (m : Nat) (hm : Nat.min sLen dLen = m) (hn : cs.length = m * 2)
    (hsrc : ∀ j v, cs[j]? = some v → w.cell? (ad.add j) = some v) (hfit : off + cs.length ≤ cur.length) (h1 : ∀ v ∈ cs, v.oneCell' = true)
    (h : ∀ w', w'.heap[g]? = some (.cells (laidOver cur off cs).toArray t (0, 0)) → w.grownBy w' (some g) → K (a.put o.dst (goInt m)) w') :
    if Region.wanted o (yielded ops a.tmps) = true then Oper.wp Try.prog o a w K Q else E := by
  have hw : Region.wanted o (yielded ops a.tmps) = true := by simp [Region.wanted, hgd]
  rw [if_pos hw]
  obtain ⟨w', hr, h2, h3⟩ := run_copy_hits w o.type g off dLen dCap ad sLen sCap cur t cs hg m hm hn hsrc hfit h1
  unfold Oper.wp
  simp [execOp, ho, resolve, invoke, builtin, hd, hs, hr, Result.andThen]
  exact h w' h2 h3

theorem cells2_drop (hs : List (Int × Int)) (k : Nat) : (cells2 hs).drop (k * 2) = cells2 (hs.drop k) := by
  induction hs generalizing k with
  | nil => simp [cells2]
  | cons h r ih =>
    cases k with
    | zero => simp [cells2]
    | succ k => simp [cells2, ih, Nat.add_mul]

/-- A hit put into the midst of a row: what stood from there on is moved, then the hit is laid. -/
theorem shift_row {cur : List Value} {hs : List (Int × Int)} {n at_ cap : Nat} (x y : Int) (hl : hs.length = n) (hcur : cur.length = cap * 2) (ht : cur.take (n * 2) = cells2 hs) (hat : at_ < n) (hroom : n + 1 ≤ cap) :
    (laidOver (laidOver cur ((at_ + 1) * 2) (cells2 (hs.drop at_))) (at_ * 2) [.int .i64 x, .int .i64 y]).length = cap * 2 ∧
    (laidOver (laidOver cur ((at_ + 1) * 2) (cells2 (hs.drop at_))) (at_ * 2) [.int .i64 x, .int .i64 y]).take ((n + 1) * 2) = cells2 (hs.take at_ ++ (x, y) :: hs.drop at_) := by
  have e1 : (laidOver cur ((at_ + 1) * 2) (cells2 (hs.drop at_))).take (at_ * 2) = cells2 (hs.take at_) := by
    unfold laidOver
    rw [List.append_assoc, List.take_append_of_le_length (by simp; omega), List.take_take, ← cells2_take, ← ht, List.take_take]
    congr 1
    omega
  have e2 : (laidOver cur ((at_ + 1) * 2) (cells2 (hs.drop at_))).drop (at_ * 2 + 2) = cells2 (hs.drop at_) ++ cur.drop ((at_ + 1) * 2 + (cells2 (hs.drop at_)).length) := by
    unfold laidOver
    have : (cur.take ((at_ + 1) * 2)).length = at_ * 2 + 2 := by simp; omega
    rw [List.append_assoc, ← this, List.drop_left]
  have e3 : laidOver (laidOver cur ((at_ + 1) * 2) (cells2 (hs.drop at_))) (at_ * 2) [.int .i64 x, .int .i64 y] = cells2 (hs.take at_ ++ (x, y) :: hs.drop at_) ++ cur.drop ((at_ + 1) * 2 + (cells2 (hs.drop at_)).length) := by
    rw [laidOver, e1]
    simp only [List.length_cons, List.length_nil, Nat.zero_add, e2, cells2_app, cells2]
    simp
  have e4 : (cells2 (hs.take at_ ++ (x, y) :: hs.drop at_)).length = (n + 1) * 2 := by
    rw [cells2_len]
    simp
    omega
  rw [e3]
  constructor
  · rw [List.length_append, e4, cells2_len]
    simp
    omega
  · rw [← e4, List.take_left]

theorem laidOver_len {cur : List Value} {o : Nat} {cs : List Value} (h : o + cs.length ≤ cur.length) : (laidOver cur o cs).length = cur.length := by
  unfold laidOver
  simp
  omega

/-- A hit put into a new row behind what stood ahead of it, then what stood from there on. -/
theorem grow_row {row : List Value} {hs : List (Int × Int)} {n at_ cap : Nat} (x y : Int) (hl : hs.length = n) (hrow : row.length = cap * 2) (ht : row.take (at_ * 2) = cells2 (hs.take at_)) (hat : at_ < n) (hroom : n + 1 ≤ cap) :
    (laidOver (laidOver row (at_ * 2) [.int .i64 x, .int .i64 y]) ((at_ + 1) * 2) (cells2 (hs.drop at_))).length = cap * 2 ∧
    (laidOver (laidOver row (at_ * 2) [.int .i64 x, .int .i64 y]) ((at_ + 1) * 2) (cells2 (hs.drop at_))).take ((n + 1) * 2) = cells2 (hs.take at_ ++ (x, y) :: hs.drop at_) := by
  have hcl : (cells2 (hs.take at_)).length = at_ * 2 := by rw [cells2_len]; simp; omega
  have e1 : (laidOver row (at_ * 2) [.int .i64 x, .int .i64 y]).take ((at_ + 1) * 2) = cells2 (hs.take at_) ++ [.int .i64 x, .int .i64 y] := by
    unfold laidOver
    rw [ht]
    have : (at_ + 1) * 2 = (cells2 (hs.take at_) ++ [Value.int .i64 x, Value.int .i64 y]).length := by rw [List.length_append, hcl]; simp; omega
    rw [this, List.take_left]
  have e3 : laidOver (laidOver row (at_ * 2) [.int .i64 x, .int .i64 y]) ((at_ + 1) * 2) (cells2 (hs.drop at_)) = cells2 (hs.take at_ ++ (x, y) :: hs.drop at_) ++ (laidOver row (at_ * 2) [.int .i64 x, .int .i64 y]).drop ((at_ + 1) * 2 + (cells2 (hs.drop at_)).length) := by
    rw [laidOver, e1]
    simp only [cells2_app, cells2]
    simp
  have e4 : (cells2 (hs.take at_ ++ (x, y) :: hs.drop at_)).length = (n + 1) * 2 := by
    rw [cells2_len]
    simp
    omega
  have e5 : (laidOver row (at_ * 2) [.int .i64 x, .int .i64 y]).length = cap * 2 := by rw [laidOver_len (by simp; omega), hrow]
  rw [e3]
  constructor
  · rw [List.length_append, e4, List.length_drop, e5, cells2_len]
    simp
    omega
  · rw [← e4, List.take_left]

end Go.Proofs.Ytkodenmpadehjab
