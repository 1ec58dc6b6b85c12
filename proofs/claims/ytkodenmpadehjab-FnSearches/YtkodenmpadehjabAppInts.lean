/-
  append of a list of numbers onto a row of the call's own: the new slice owns the old numbers and the new ones; nothing else is written.
  Condition: at most 100000000 numbers.
-/
import Derived.Test.YtkodenmpadehjabGround
import Derived.Test.YtkodenmpadehjabInfo
import Derived.Test.YtkodenmpadehjabAppInt
import Derived.Maps.AppendAt
namespace Go.Proofs.Ytkodenmpadehjab
open Go.RowKit

theorem append_noneI {P : Program} (t ty e : TypeId) (i : TypeInfo) (ht : P.underlying t = some (.slice e)) (hi : P.info? e = some i) (bo : Option Addr) (n cap c : Nat) (hn : n ≤ cap) (w : World) :
    (Builtin.append_ #[t, t] ty #[.slice bo n cap, .slice none 0 c]).run P w = (Builtin.append_ #[t, t] ty #[.slice bo n cap, .slice (some ⟨0, 0, none⟩) 0 c]).run P w := by
  simp [Builtin.append_, run_underlying ht, sizeOf, typeInfo, hi, Builtin.lenOf, hn, Builtin.firstCells, loadCells, loadCellsFrom]

theorem IsInts.news {w : World} {b off cap : Nat} {zs : List Int} (h : IsInts w (.slice (some ⟨b, off, none⟩) zs.length cap) zs) (hp : 0 < zs.length) : ∀ j u, (zs.map (Value.int .i64))[j]? = some u → w.cell? ((⟨b, off, none⟩ : Addr).add j) = some u := by
  intro j u hu
  obtain ⟨ao, cp, hv, hwf, hc⟩ := h
  obtain ⟨b', off', hao, hc1⟩ := hc hp
  simp only [Value.slice.injEq] at hv
  obtain ⟨rfl, -, -⟩ := hv
  simp only [Option.some.injEq, Addr.mk.injEq, and_true] at hao
  obtain ⟨rfl, rfl⟩ := hao
  have hj : j < zs.length := by
    have := (List.getElem?_eq_some_iff.1 hu).1
    simpa using this
  rw [Addr.add_lit, hc1 j hj]
  simp [hj] at hu
  simp [List.getD, hj, hu]

theorem run_append_ints {w : World} (base ty : Nat) (v : Value) (n : Nat) (xs : List Value) (hown : w.ownsRow base 2 1 v n xs) (x : Value) (ks : List Int) (hx : IsInts w x ks)
    (hn : n + ks.length ≤ 100000000) (hbase : base ≤ w.heap.size) :
    ∃ v' w', (Builtin.append_ #[25, 25] ty #[v, x]).run Try.prog w = .ok v' w' ∧ w'.ownsRow base 2 1 v' (n + ks.length) (xs ++ ks.map (Value.int .i64)) ∧ w.grownBy w' v.ownBlock := by
  obtain ⟨i0, hi, hz0, hz1, hz2⟩ := info_parts info2
  have hml : n + ks.length ≤ maxLen := by unfold maxLen; omega
  by_cases hp : 0 < ks.length
  · have hx' := hx
    obtain ⟨ao, cap, rfl, hwf, hc⟩ := hx'
    obtain ⟨b, off, rfl, hc1⟩ := hc hp
    obtain ⟨v', w', r1, r2, r3, -, -⟩ := run_append_own_at (P := Try.prog) w base 25 ty 2 i0 _ 1 8 Try.underlying25 hi hz0 hz1 hz2 rfl (by omega) v n xs hown ⟨b, off, none⟩ ks.length cap (ks.map (Value.int .i64)) (by simp) (hx.news hp) (by simp [Value.oneCell']) hml (by omega) hbase
    exact ⟨v', w', r1, r2, r3⟩
  · obtain rfl : ks = [] := List.eq_nil_of_length_eq_zero (by omega)
    obtain ⟨ao, cap, rfl, hwf, hc⟩ := hx
    cases ao with
    | none =>
      obtain ⟨v', w', r1, r2, r3, -, -⟩ := run_append_own_at (P := Try.prog) w base 25 ty 2 i0 _ 1 8 Try.underlying25 hi hz0 hz1 hz2 rfl (by omega) v n xs hown ⟨0, 0, none⟩ 0 cap [] rfl (by simp) (by simp) hml (by simp at hn; omega) hbase
      refine ⟨v', w', ?_, r2, r3⟩
      rcases hown.2 with ⟨rfl, h0⟩ | ⟨g, cp, cur, rfl, _, _, hle, _⟩
      · exact (append_noneI _ _ _ i0 Try.underlying25 hi none 0 0 cap (Nat.le_refl _) w).trans r1
      · exact (append_noneI _ _ _ i0 Try.underlying25 hi _ n cp cap hle w).trans r1
    | some ad =>
      obtain ⟨v', w', r1, r2, r3, -, -⟩ := run_append_own_at (P := Try.prog) w base 25 ty 2 i0 _ 1 8 Try.underlying25 hi hz0 hz1 hz2 rfl (by omega) v n xs hown ad 0 cap [] rfl (by simp) (by simp) hml (by simp at hn; omega) hbase
      exact ⟨v', w', r1, r2, r3⟩

/-- The same at an operation of a plain region. -/
theorem wpList_append_ints {w : World} {base : Nat} {v : Value} {n : Nat} {xs : List Value} (hown : w.ownsRow base 2 1 v n xs) {X : Value} {ks : List Int} (hx : IsInts w X ks)
    {ops : Array Oper} {rest : List Oper} {o : Oper} {a : Act} {Q : Exit → Act → World → Prop} (hgd : o.guard = none) (s x : Operand)
    (ho : o.op = .call { callee := .builtin .append, args := #[s, x], argTypes := #[25, 25] }) (hv : a.eval s = v) (hX : a.eval x = X)
    (hn : n + ks.length ≤ 100000000) (hbase : base ≤ w.heap.size)
    (h : ∀ v' w', w'.ownsRow base 2 1 v' (n + ks.length) (xs ++ ks.map (Value.int .i64)) → w.grownBy w' v.ownBlock → Below base w w' → wpList Try.prog ops Q rest (a.put o.dst v') w') :
    wpList Try.prog ops Q (o :: rest) a w := by
  refine wpList_plain hgd fun K hK => ?_
  obtain ⟨v', w', hr, h2, h3⟩ := run_append_ints base o.type v n xs hown X ks hx hn hbase
  unfold Oper.wp execOp
  simp only [ho, resolve, invoke, builtin, Sem.run_bind, Sem.run_pure, Result.andThen_ok, List.map_toArray, List.map_cons, List.map_nil, hv, hX, hr]
  exact hK _ _ (h v' w' h2 h3 ((Below.refl _ _).grown h3 hbase (fun j hj => (hown.lt j hj).1)))

end Go.Proofs.Ytkodenmpadehjab
