/-
  The program's map of what was seen, by session and number: what a block of memory tells of it.
  No condition.
-/
import Derived.Test.YtkodenmpadehjaaChecked
import Derived.Test.YtkodenmpadehjaaGround
import Derived.Maps.OwnSet
import Derived.DeepKeys4
namespace Go.Proofs.Ytkodenmpadehjaa
open Go.RowKit Go.Maps

def tick (s q : Int) : Value := .agg #[.int .i64 s, .int .i64 q]
theorem tickLaid : laidOutB Try.prog = true := by kernel_rfl
theorem tickRow : (62 : TypeId) < Try.prog.types.size := of_decide_eq_true (by kernel_rfl)
theorem tickWide : (match Try.prog.underlying 62 with | some (.array _ _) | some (.struct _) => true | _ => false) = true := by kernel_rfl
theorem tickKeyed : Keyed Try.prog 62 := Keyed.of_law (deep_law_laid tickLaid (m := 2) (by omega) tickRow (by kernel_rfl) tickWide)
theorem tickKey {s q : Int} (hs : (Lit.int .i64 s).wf = true) (hq : (Lit.int .i64 q).wf = true) : keyOf Try.prog 62 (tick s q) = some (.string (keyBytes [.int .i64 s, .int .i64 q])) := by
  have hk : Try.prog.keyType 62 = true := by kernel_rfl
  have hc : Try.prog.cellsOf 62 = 2 := by kernel_rfl
  have hc1 : Try.prog.cellsOf 2 = 1 := by kernel_rfl
  have hf : (tick s q).formed Try.prog 62 = true := by simp [tick, Value.formed, Try.underlying62, hc]
  obtain ⟨m, hm⟩ : ∃ m, Try.prog.types.size = m + 1 := ⟨_, (Nat.succ_pred_eq_of_pos (Nat.lt_of_le_of_lt (Nat.zero_le _) tickRow)).symm⟩
  unfold keyOf
  simp only [Try.underlying62]
  rw [if_pos (by rw [hk, hf]; rfl), hm]
  unfold Program.keyLits
  simp only [Try.underlying62, tick, Value.cells]
  simp [hc, hc1, Program.keyLits, Try.underlying2, hs, hq]
theorem tickZero (w : World) : (zeroValue 2).run Try.prog w = .ok (.int .i64 0) w := by kernel_rfl

/-- Block b is a map of at most n entries that tells f. -/
def Ticks (w : World) (b n : Nat) (f : Int → Int → Nat) : Prop := ∃ D : DataW Unit, w.ownsMap Try.prog 62 (plainElem Try.prog 2) b n D ∧
  ∀ s q, (Lit.int .i64 s).wf = true → (Lit.int .i64 q).wf = true → Maps.has D (.string (keyBytes [.int .i64 s, .int .i64 q])) = decide (f s q ≠ 0) ∧ D.atKey (.string (keyBytes [.int .i64 s, .int .i64 q])) (.lit (.int .i64 0)) = .lit (.int .i64 (f s q))
theorem Ticks.ext {S : Nat → Prop} {w w' : World} {b n : Nat} {f : Int → Int → Nat} (h : Ticks w b n f) (e : Ext S w w') (hb : ¬ S b) : Ticks w' b n f := by
  obtain ⟨D, h, r⟩ := h
  have hlt := World.ownsMap.lt h
  obtain ⟨es, clock, hb', r'⟩ := h
  exact ⟨D, ⟨es, clock, (e.block b hlt hb).trans hb', r'⟩, r⟩
theorem Ticks.lt {w : World} {b n : Nat} {f : Int → Int → Nat} (h : Ticks w b n f) : b < w.heap.size := by
  obtain ⟨D, h, -⟩ := h
  exact World.ownsMap.lt h
theorem Ticks.mono {w : World} {b n n' : Nat} {f : Int → Int → Nat} (h : Ticks w b n f) (hn : n ≤ n') : Ticks w b n' f := by
  obtain ⟨D, h, r⟩ := h
  exact ⟨D, World.ownsMap.mono h hn, r⟩
theorem Ticks.congr {w : World} {b n : Nat} {f g : Int → Int → Nat} (h : Ticks w b n f) (e : ∀ s q, f s q = g s q) : Ticks w b n g := by
  obtain ⟨D, h, r⟩ := h
  exact ⟨D, h, fun s q hs hq => by rw [← e]; exact r s q hs hq⟩
theorem Ticks.look {w : World} {b n : Nat} {f : Int → Int → Nat} (h : Ticks w b n f) {s q : Int} (hs : (Lit.int .i64 s).wf = true) (hq : (Lit.int .i64 q).wf = true) :
    (Instr.lookup 53 (.map (some b)) (tick s q) true).run Try.prog w = .ok (.tuple #[.int .i64 (f s q), .bool (decide (f s q ≠ 0))]) w := by
  obtain ⟨D, h, r⟩ := h
  obtain ⟨r1, r2⟩ := r s q hs hq
  obtain ⟨v, ps, hrun, hv⟩ := World.ownsMap.look_ok h tickKeyed Try.underlying53 (tickZero w) (plainElem_int Try.underlying2 (by decide)) (tickKey hs hq)
  rw [r2] at hv
  obtain ⟨c, rfl, hc, -⟩ := plainElem_int_inv Try.underlying2 hv
  rw [r1] at hrun
  simp only [Prod.mk.injEq, DataW.lit.injEq, Lit.int.injEq, true_and] at hc
  rw [hc.1]
  exact hrun
theorem Ticks.put {w : World} {b n : Nat} {f : Int → Int → Nat} (h : Ticks w b n f) (hn : n < 100000) {s q : Int} (hs : (Lit.int .i64 s).wf = true) (hq : (Lit.int .i64 q).wf = true) {m : Nat} (hm : m ≠ 0) (hw : (Lit.int .i64 (m : Int)).wf = true) :
    ∃ w', (Instr.mapUpdate 53 (.map (some b)) (tick s q) (.int .i64 m)).run Try.prog w = .ok () w' ∧ Ticks w' b (n + 1) (fun s' q' => if s' = s ∧ q' = q then m else f s' q') ∧ Ext (fun c => c = b) w w' := by
  obtain ⟨D, h, r⟩ := h
  obtain ⟨w', h1, h2, h3⟩ := World.ownsMap.store h tickKeyed Try.underlying53 (by unfold maxLen; omega) (tickKey hs hq) (plainElem_int Try.underlying2 hw)
  refine ⟨w', h1, ⟨_, h2, fun s' q' hs' hq' => ?_⟩, ?_⟩
  · have hk : WideAt.IsKeyLit (.string (keyBytes [.int .i64 s, .int .i64 q])) := trivial
    by_cases e : s' = s ∧ q' = q
    · obtain ⟨rfl, rfl⟩ := e
      rw [Maps.has_put_same (World.ownsMap.isMap h) hk, Maps.atKey_put_same (World.ownsMap.isMap h) hk]
      simp [hm]
    · have hne : Lit.string (keyBytes [.int .i64 s', .int .i64 q']) ≠ Lit.string (keyBytes [.int .i64 s, .int .i64 q]) := by
        intro e2
        have k1 := tickKey hs' hq'
        rw [e2] at k1
        have k2 := tickKeyed.inj k1 (tickKey hs hq)
        simp only [tick, Value.agg.injEq, Array.mk.injEq, List.cons.injEq, Value.int.injEq, true_and, and_true] at k2
        exact e k2
      rw [Maps.has_put_other hne, Maps.atKey_put_other hne]
      simp only [if_neg e]
      exact r s' q' hs' hq'
  · have g := h3.grown
    obtain ⟨es, clock, es', clock', hb, rfl⟩ := h3
    exact ⟨rfl, rfl, rfl, by simp [ChangeMaps.setBlock], fun k hk hn => g.block k hk (fun e => hn (by simpa using e))⟩
theorem ticks_new (w : World) : Ticks (w.alloc (.map #[] 0)) w.heap.size 0 (fun _ _ => 0) := ⟨.map [], World.ownsMap_made w _ _ _, fun _ _ _ _ => ⟨rfl, rfl⟩⟩

end Go.Proofs.Ytkodenmpadehjaa
