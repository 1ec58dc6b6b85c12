/-
  Texts of this proof in one: TickMap, ToldPlain, AppInt, AppWrite, ImplTell, VecOf, ImplDeed, ListC, ImplWOf, ImplWOfA, LayOpen.
  Their conditions stand in their theorems.
-/
import Derived.Test.YtecagllmonckgaaGreatChecked
import Derived.Test.YtecagllmonckgaaGreatLi01
import Derived.Maps.OwnSet
import Derived.DeepKeys4
import Derived.Test.YtecagllmonckgaaGreatLi00
import Derived.Test.YtecagllmonckgaaGreatLi05
import Derived.Deep.AppendLies
import Derived.Deep.RegionHeld3
import Derived.WalkSmall
import Derived.Outline
import Derived.ProofKit
import Derived.OpenShut
import Derived.Deep.Slices
set_option maxRecDepth 100000
set_option maxHeartbeats 4000000
namespace Go.Proofs.YtecagllmonckgaaGreat
open Go.RowKit Go.Maps
def tick (s q : Int) : Value := .agg #[.int .i64 s, .int .i64 q]
theorem ky : laidOutB Tryz.prog = true := by kernel_rfl
theorem jc : (117 : TypeId) < Tryz.prog.types.size := of_decide_eq_true (by kernel_rfl)
theorem kn : (match Tryz.prog.underlying 117 with | some (.array _ _) | some (.struct _) => true | _ => false) = true := by kernel_rfl
theorem ef : Keyed Tryz.prog 117 := Keyed.of_law (deep_law_laid ky (m := 2) (by omega) jc (by kernel_rfl) kn)
theorem eK {s q : Int} (hs : (Lit.int .i64 s).wf = true) (hq : (Lit.int .i64 q).wf = true) : keyOf Tryz.prog 117 (tick s q) = some (.string (keyBytes [.int .i64 s, .int .i64 q])) := by
 have hk : Tryz.prog.keyType 117 = true := by kernel_rfl
 have hc : Tryz.prog.cellsOf 117 = 2 := by kernel_rfl
 have hc1 : Tryz.prog.cellsOf 2 = 1 := by kernel_rfl
 have hf : (tick s q).formed Tryz.prog 117 = true := by simp [tick, Value.formed, Tryz.underlying117, hc]
 obtain ⟨m, hm⟩ : ∃ m, Tryz.prog.types.size = m + 1 := ⟨_, (Nat.succ_pred_eq_of_pos (Nat.lt_of_le_of_lt (Nat.zero_le _) jc)).symm⟩
 unfold keyOf
 simp only [Tryz.underlying117]
 rw [if_pos (by rw [hk, hf]; rfl), hm]
 unfold Program.keyLits
 simp only [Tryz.underlying117, tick, Value.cells]
 simp [hc, hc1, Program.keyLits, Tryz.underlying2, hs, hq]
theorem jN (w : World) : (zeroValue 2).run Tryz.prog w = .ok (.int .i64 0) w := by kernel_rfl
def cc (w : World) (b n : Nat) (f : Int → Int → Nat) : Prop := ∃ D : DataW Unit, w.ownsMap Tryz.prog 117 (plainElem Tryz.prog 2) b n D ∧
 ∀ s q, (Lit.int .i64 s).wf = true → (Lit.int .i64 q).wf = true → Maps.has D (.string (keyBytes [.int .i64 s, .int .i64 q])) = decide (f s q ≠ 0) ∧ D.atKey (.string (keyBytes [.int .i64 s, .int .i64 q])) (.lit (.int .i64 0)) = .lit (.int .i64 (f s q))
theorem cc.ext {S : Nat → Prop} {w w' : World} {b n : Nat} {f : Int → Int → Nat} (h : cc w b n f) (e : Ext S w w') (hb : ¬ S b) : cc w' b n f := by
 obtain ⟨D, h, r⟩ := h
 have hlt := World.ownsMap.lt h
 obtain ⟨es, clock, hb', r'⟩ := h
 exact ⟨D, ⟨es, clock, (e.block b hlt hb).trans hb', r'⟩, r⟩
theorem cc.lt {w : World} {b n : Nat} {f : Int → Int → Nat} (h : cc w b n f) : b < w.heap.size := by
 obtain ⟨D, h, -⟩ := h
 exact World.ownsMap.lt h
theorem cc.mono {w : World} {b n n' : Nat} {f : Int → Int → Nat} (h : cc w b n f) (hn : n ≤ n') : cc w b n' f := by
 obtain ⟨D, h, r⟩ := h
 exact ⟨D, World.ownsMap.mono h hn, r⟩
theorem cc.congr {w : World} {b n : Nat} {f g : Int → Int → Nat} (h : cc w b n f) (e : ∀ s q, f s q = g s q) : cc w b n g := by
 obtain ⟨D, h, r⟩ := h
 exact ⟨D, h, fun s q hs hq => by rw [← e]; exact r s q hs hq⟩
theorem cc.look {w : World} {b n : Nat} {f : Int → Int → Nat} (h : cc w b n f) {s q : Int} (hs : (Lit.int .i64 s).wf = true) (hq : (Lit.int .i64 q).wf = true) :
  (Instr.lookup 234 (.map (some b)) (tick s q) true).run Tryz.prog w = .ok (.tuple #[.int .i64 (f s q), .bool (decide (f s q ≠ 0))]) w := by
 obtain ⟨D, h, r⟩ := h
 obtain ⟨r1, r2⟩ := r s q hs hq
 obtain ⟨v, ps, hrun, hv⟩ := World.ownsMap.look_ok h ef Tryz.underlying234 (jN w) (plainElem_int Tryz.underlying2 (by decide)) (eK hs hq)
 rw [r2] at hv
 obtain ⟨c, rfl, hc, -⟩ := plainElem_int_inv Tryz.underlying2 hv
 rw [r1] at hrun
 simp only [Prod.mk.injEq, DataW.lit.injEq, Lit.int.injEq, true_and] at hc
 rw [hc.1]
 exact hrun
theorem cc.put {w : World} {b n : Nat} {f : Int → Int → Nat} (h : cc w b n f) (hn : n < 100000) {s q : Int} (hs : (Lit.int .i64 s).wf = true) (hq : (Lit.int .i64 q).wf = true) {m : Nat} (hm : m ≠ 0) (hw : (Lit.int .i64 (m : Int)).wf = true) :
  ∃ w', (Instr.mapUpdate 234 (.map (some b)) (tick s q) (.int .i64 m)).run Tryz.prog w = .ok () w' ∧ cc w' b (n + 1) (fun s' q' => if s' = s ∧ q' = q then m else f s' q') ∧ Ext (fun c => c = b) w w' := by
 obtain ⟨D, h, r⟩ := h
 obtain ⟨w', h1, h2, h3⟩ := World.ownsMap.store h ef Tryz.underlying234 (by unfold maxLen; omega) (eK hs hq) (plainElem_int Tryz.underlying2 hw)
 refine ⟨w', h1, ⟨_, h2, fun s' q' hs' hq' => ?_⟩, ?_⟩
 ·
  have hk : WideAt.IsKeyLit (.string (keyBytes [.int .i64 s, .int .i64 q])) := trivial
  by_cases e : s' = s ∧ q' = q
  ·
   obtain ⟨rfl, rfl⟩ := e
   rw [Maps.has_put_same (World.ownsMap.isMap h) hk, Maps.atKey_put_same (World.ownsMap.isMap h) hk]
   simp [hm]
  have hne : Lit.string (keyBytes [.int .i64 s', .int .i64 q']) ≠ Lit.string (keyBytes [.int .i64 s, .int .i64 q]) := by
   intro e2
   have k1 := eK hs' hq'
   rw [e2] at k1
   have k2 := ef.inj k1 (eK hs hq)
   simp only [tick, Value.agg.injEq, Array.mk.injEq, List.cons.injEq, Value.int.injEq, true_and, and_true] at k2
   exact e k2
  rw [Maps.has_put_other hne, Maps.atKey_put_other hne]
  simp only [if_neg e]
  exact r s' q' hs' hq'
 have g := h3.grown
 obtain ⟨es, clock, es', clock', hb, rfl⟩ := h3
 exact ⟨rfl, rfl, rfl, by simp [ChangeMaps.setBlock], fun k hk hn => g.block k hk (fun e => hn (by simpa using e))⟩
theorem jM (w : World) : cc (w.alloc (.map #[] 0)) w.heap.size 0 (fun _ _ => 0) := ⟨.map [], World.ownsMap_made w _ _ _, fun _ _ _ _ => ⟨rfl, rfl⟩⟩
end Go.Proofs.YtecagllmonckgaaGreat

namespace Go.Proofs.YtecagllmonckgaaGreat
open Go.RowKit
def cB (v : Value) (mb : Nat) (f : Int → Int) : Array Value := #[v, .map (some mb), .int .i64 (f 0), .int .i64 (f 1), .int .i64 (f 2), .int .i64 (f 3), .int .i64 (f 4), .int .i64 (f 5), .int .i64 (f 6), .int .i64 (f 7), .int .i64 (f 8), .int .i64 (f 9)]
theorem dm (v : Value) (mb : Nat) (f : Int → Int) (i : Nat) (h : i < 10) : (cB v mb f)[2 + i]? = some (.int .i64 (f i)) := by
 match i, h with
 | 0, _ => rfl
 | 1, _ => rfl
 | 2, _ => rfl
 | 3, _ => rfl
 | 4, _ => rfl
 | 5, _ => rfl
 | 6, _ => rfl
 | 7, _ => rfl
 | 8, _ => rfl
 | 9, _ => rfl
theorem iP (v : Value) (mb : Nat) (f : Int → Int) (i : Nat) (h : i < 10) (z : Int) : (cB v mb f).setIfInBounds (2 + i) (.int .i64 z) = cB v mb (fun j => if j = i then z else f j) := by
 match i, h with
 | 0, _ => rfl
 | 1, _ => rfl
 | 2, _ => rfl
 | 3, _ => rfl
 | 4, _ => rfl
 | 5, _ => rfl
 | 6, _ => rfl
 | 7, _ => rfl
 | 8, _ => rfl
 | 9, _ => rfl
theorem br {w w' : World} {b : Nat} (h : w'.heap[b]? = w.heap[b]?) (o : Nat) : w'.frozen? ⟨b, o, none⟩ = w.frozen? ⟨b, o, none⟩ := by
 unfold World.frozen?
 simp only [h]
structure bP (w : World) (p mb N n : Nat) (ws : List ak) (f : Int → Int) (g : Int → Int → Nat) (v : Value) (rows : List (List Value)) (bls : List (List Nat)) : Prop where
 lt : mb < p
 box : ar 0 (cB v mb f) 237 w p
 grow : dy ad.ag w (p + 1) 142 v rows ws bls
 sub : ∀ b ∈ bls.flatten, p + 1 ≤ b ∧ ∀ o, w.frozen? ⟨b, o, none⟩ = false
 nd : bls.flatten.Nodup
 seen : cc w mb n g
 mg : ∀ b ∈ bls.flatten, b < N
 jK : ∀ b, v.ownBlock = some b → b < N
 pN : p < N
namespace bP
variable {w w' : World} {p mb N n : Nat} {ws : List ak} {f : Int → Int} {g : Int → Int → Nat} {v : Value} {rows : List (List Value)} {bls : List (List Nat)}
theorem kept (h : bP w p mb N n ws f g v rows bls) {S : Nat → Prop} (e : Ext S w w') (hS : ∀ c, mb ≤ c → c < w.heap.size → ¬ S c) : bP w' p mb N n ws f g v rows bls := by
 have hs : ∀ b ∈ bls.flatten, w'.heap[b]? = w.heap[b]? := fun b hb => e.block b (h.grow.sub_lt b hb) (hS b (by have := (h.sub b hb).1; have := h.lt; omega) (h.grow.sub_lt b hb))
 refine ⟨h.lt, h.box.ext e (hS p (Nat.le_of_lt h.lt) h.box.lt), h.grow.kept ?_ hs, fun b hm => ⟨(h.sub b hm).1, fun o => (br (hs b hm) o).trans ((h.sub b hm).2 o)⟩, h.nd, h.seen.ext e (hS mb (Nat.le_refl _) h.seen.lt), h.mg, h.jK, h.pN⟩
 obtain ⟨h1, h2⟩ := h.grow.own
 refine ⟨h1, ?_⟩
 rcases h2 with h2 | ⟨gb, cap, cur, hv, hg, hh, r⟩
 ·
  exact Or.inl h2
 exact Or.inr ⟨gb, cap, cur, hv, hg, (e.block gb (lt_of_block hh) (hS gb (by have := h.lt; omega) (lt_of_block hh))).trans hh, r⟩
theorem af (h : bP w p mb N n ws f g v rows bls) (hb : Below w.heap.size w w') : bP w' p mb N n ws f g v rows bls := h.kept (bf hb (fun _ => False)) (fun _ _ _ e => e)
theorem raise (h : bP w p mb N n ws f g v rows bls) {N' : Nat} (hN : N ≤ N') : bP w p mb N' n ws f g v rows bls :=
 ⟨h.lt, h.box, h.grow, h.sub, h.nd, h.seen, fun b hb => Nat.lt_of_lt_of_le (h.mg b hb) hN, fun b hb => Nat.lt_of_lt_of_le (h.jK b hb) hN, Nat.lt_of_lt_of_le h.pN hN⟩
theorem top (h : bP w p mb N n ws f g v rows bls) : bP w p mb w.heap.size n ws f g v rows bls :=
 ⟨h.lt, h.box, h.grow, h.sub, h.nd, h.seen, fun b hb => h.grow.sub_lt b hb, fun b hb => (h.grow.own.lt b hb).2, h.box.lt⟩
theorem added (h : bP w p mb N n ws f g v rows bls) {v' : Value} {rows' : List (List Value)} {ws' : List ak} {bls' : List (List Nat)} (hG : dy ad.ag w' (p + 1) 142 v' rows' ws' bls') (hE : Ext (fun q => v.ownBlock = some q) w w') (hs : ∀ b ∈ bls'.flatten, p + 1 ≤ b ∧ ∀ o, w'.frozen? ⟨b, o, none⟩ = false) (hnd : bls'.flatten.Nodup) :
  bP (w'.setCell ⟨p, 0, none⟩ v') p mb (w'.setCell ⟨p, 0, none⟩ v').heap.size n ws' f g v' rows' bls' := by
 have hb : ar 0 (cB v mb f) 237 w' p := h.box.ext hE (fun e => by have := (h.grow.own.lt p e).1; omega)
 have hb2 : ar 0 (cB v' mb f) 237 (w'.setCell ⟨p, 0, none⟩ v') p := hb.set 0 v'
 have e2 : Ext (fun c => c = p) w' (w'.setCell ⟨p, 0, none⟩ v') := (Ext.refl (fun c => c = p) w').setCell ⟨p, 0, none⟩ v' rfl
 have hk : ∀ b ∈ bls'.flatten, (w'.setCell ⟨p, 0, none⟩ v').heap[b]? = w'.heap[b]? := fun b hb => e2.block b (hG.sub_lt b hb) (by have := (hs b hb).1; omega)
 have hG2 : dy ad.ag (w'.setCell ⟨p, 0, none⟩ v') (p + 1) 142 v' rows' ws' bls' := hG.kept (dO (a := ⟨p, 0, none⟩) hG.own (by simp) v') hk
 refine ⟨h.lt, hb2, hG2, fun b hm => ⟨(hs b hm).1, fun o => (br (hk b hm) o).trans ((hs b hm).2 o)⟩, hnd, ?_, fun b hm => hG2.sub_lt b hm, fun b hm => (hG2.own.lt b hm).2, hb2.lt⟩
 exact (h.seen.ext hE (fun e => by have := (h.grow.own.lt mb e).1; have := h.lt; omega)).ext e2 (by have := h.lt; omega)
theorem marked (h : bP w p mb N n ws f g v rows bls) {n' : Nat} {g' : Int → Int → Nat} (hE : Ext (fun c => c = mb) w w') (hT : cc w' mb n' g') : bP w' p mb N n' ws f g' v rows bls := by
 have hs : ∀ b ∈ bls.flatten, w'.heap[b]? = w.heap[b]? := fun b hb => hE.block b (h.grow.sub_lt b hb) (by have := (h.sub b hb).1; have := h.lt; omega)
 refine ⟨h.lt, h.box.ext hE (by have := h.lt; omega), h.grow.kept ?_ hs, fun b hm => ⟨(h.sub b hm).1, fun o => (br (hs b hm) o).trans ((h.sub b hm).2 o)⟩, h.nd, hT, h.mg, h.jK, h.pN⟩
 obtain ⟨h1, h2⟩ := h.grow.own
 refine ⟨h1, ?_⟩
 rcases h2 with h2 | ⟨gb, cap, cur, hv, hg, hh, r⟩
 ·
  exact Or.inl h2
 exact Or.inr ⟨gb, cap, cur, hv, hg, (hE.block gb (lt_of_block hh) (by have := h.lt; omega)).trans hh, r⟩
theorem jY (h : bP w p mb N n ws f g v rows bls) (i : Nat) (hi : i < 10) (z : Int) : bP (w.setCell ⟨p, 2 + i, none⟩ (.int .i64 z)) p mb N n ws (fun j => if j = i then z else f j) g v rows bls := by
 have e2 : Ext (fun c => c = p) w (w.setCell ⟨p, 2 + i, none⟩ (.int .i64 z)) := (Ext.refl (fun c => c = p) w).setCell ⟨p, 2 + i, none⟩ _ rfl
 have hs : ∀ b ∈ bls.flatten, (w.setCell ⟨p, 2 + i, none⟩ (.int .i64 z)).heap[b]? = w.heap[b]? := fun b hb => e2.block b (h.grow.sub_lt b hb) (by have := (h.sub b hb).1; omega)
 refine ⟨h.lt, ?_, h.grow.kept (dO (a := ⟨p, 2 + i, none⟩) h.grow.own (by simp) _) hs, fun b hm => ⟨(h.sub b hm).1, fun o => (br (hs b hm) o).trans ((h.sub b hm).2 o)⟩, h.nd, h.seen.ext e2 (by have := h.lt; omega), h.mg, h.jK, h.pN⟩
 rw [← iP v mb f i hi z]
 exact h.box.set (2 + i) _
theorem same (h : bP w p mb N n ws f g v rows bls) {n' : Nat} {f' : Int → Int} {g' : Int → Int → Nat} (hn : n ≤ n') (hf : ∀ j, f j = f' j) (hg : ∀ s q, g s q = g' s q) : bP w p mb N n' ws f' g' v rows bls := by
 rw [funext hf] at h
 exact ⟨h.lt, h.box, h.grow, h.sub, h.nd, (h.seen.mono hn).congr hg, h.mg, h.jK, h.pN⟩
end bP
abbrev Told (w : World) (p mb N : Nat) (ws : List ak) (v : Value) (rows : List (List Value)) (bls : List (List Nat)) : Prop := bP w p mb N ws.length ws (aA ws) (fun s q => cF ws s q) v rows bls
theorem kk (w : World) : Told ((w.alloc (.map #[] 0)).alloc (.cells (cB (.slice none 0 0) w.heap.size (aA [])) 237)) (w.heap.size + 1) w.heap.size ((w.alloc (.map #[] 0)).alloc (.cells (cB (.slice none 0 0) w.heap.size (aA [])) 237)).heap.size [] (.slice none 0 0) [] [] := by
 have e : (w.alloc (.map #[] 0)).heap.size = w.heap.size + 1 := by simp
 have b : ar 0 (cB (.slice none 0 0) w.heap.size (aA [])) 237 ((w.alloc (.map #[] 0)).alloc (.cells (cB (.slice none 0 0) w.heap.size (aA [])) 237)) (w.alloc (.map #[] 0)).heap.size := aM (Nat.zero_le _)
 rw [e] at b
 refine ⟨by omega, b, dy.nil ⟨by simp, Or.inl ⟨rfl, rfl⟩⟩, by simp, by simp, ?_, by simp, by simp [Value.ownBlock], b.lt⟩
 exact (jM w).ext (bf ((Below.refl _ _).alloc (Nat.le_refl _) _) (fun _ => False)) (fun h => h)
theorem en {w w' : World} {o : Obj} {r : Option Nat} (h : (w.alloc o).grownBy w' r) : w.grownBy w' r := hH (World.grownBy_alloc w o r) h
theorem dH : (Tryz.prog.info? 142).map (fun i => (i.zero, i.size, i.bytes)) = some (some (.agg #[.int .i64 0, .int .i64 0, .slice none 0 0, .int .i64 0, .int .i64 0]), 5, 56) := by kernel_rfl
theorem fL {w : World} {row : List Value} {x : ak} {bl : List Nat} (h : ad.ag.bt w row x bl) : (∀ u ∈ row, u.oneCell' = true) ∧ row.length = 1 * 5 := by
 obtain ⟨_, _, _, rfl, -⟩ := bN.1 h
 simp [Value.oneCell']
theorem iy {w1 : World} {base : Nat} {v : Value} {rows : List (List Value)} {xs : List ak} {bls : List (List Nat)} (hG : dy ad.ag w1 base 142 v rows xs bls) {row : List Value} {x : ak} {bl : List Nat} (hl : ad.ag.bt w1 row x bl) (hbl : ∀ b ∈ bl, v.ownBlock ≠ some b) {ops : Array Oper} {rest : List Oper} {o : Oper} {a : Act} {Q : Exit → Act → World → Prop} (hgd : o.guard = none) (s y : Operand)
  (ho : o.op = .call { callee := .builtin .append, args := #[s, y], argTypes := #[77, 77] }) (hs : a.eval s = v) (hy : a.eval y = .slice (some ⟨w1.heap.size, 0, none⟩) 1 1) (hn : xs.length + 1 ≤ 100000000) (hbase : base ≤ w1.heap.size)
  (h : ∀ g cap w', dy ad.ag w' base 142 (.slice (some ⟨g, 0, none⟩) (xs.length + 1) cap) (rows ++ [row]) (xs ++ [x]) (bls ++ [bl]) → Below base w1 w' → Ext (fun q => v.ownBlock = some q) w1 w' → g < w'.heap.size → w1.heap.size ≤ w'.heap.size → (v.ownBlock = some g ∨ w1.heap.size ≤ g) → wpList Tryz.prog ops Q rest (a.put o.dst (.slice (some ⟨g, 0, none⟩) (xs.length + 1) cap)) w') :
  wpList Tryz.prog ops Q (o :: rest) a (w1.alloc (.cells row.toArray 142)) := by
 obtain ⟨i0, hi0, hz0, hz1, hz2⟩ := info_parts dH
 obtain ⟨h1, hlen⟩ := fL hl
 refine wpList_append_lies _ hgd s y 77 ho base 142 i0 _ 5 56 Tryz.underlying77 hi0 hz0 hz1 hz2 rfl (by omega) v xs.length rows.flatten hs (hG.own.alloc _) ⟨w1.heap.size, 0, none⟩ 1 1 row hy hlen (World.news_of_block (cs := row.toArray) (t := 142) (fr := (0, 0)) (heap_alloc_new w1 _)) h1 (by omega) (by unfold maxLen; omega) (by omega) (by simp; omega) (w1.alloc (.cells row.toArray 142)).heap.size rfl ?_
 intro g cap w' h2 h3 h4 h5
 have hg := en h3
 have hbw : Below base w1 w' := (Below.refl _ _).grown hg hbase (fun j hj => (hG.own.lt j hj).1)
 have hor : v.ownBlock = some g ∨ w1.heap.size ≤ g := by
  rcases h4 with h4 | h4
  ·
   exact Or.inl h4
  exact Or.inr (by rw [h4]; simp)
 exact h g cap w' (hG.snoc hl hbl h2 hg hor) hbw ⟨hbw.os, hbw.tape, hbw.output, hbw.size, fun k hk hn => hg.block k hk (fun e => hn e.symm)⟩ h5 hbw.size hor
theorem dF {w1 : World} {base : Nat} {v : Value} {rows : List (List Value)} {xs : List ak} {bls : List (List Nat)} (hG : dy ad.ag w1 base 142 v rows xs bls) {row : List Value} {x : ak} {bl : List Nat} (hl : ad.ag.bt w1 row x bl) (hbl : ∀ b ∈ bl, v.ownBlock ≠ some b) {ops : Array Oper} {o : Oper} {a : Act} {K : Act → World → Prop} {Q : Exit → Act → World → Prop} {E : Prop} (hgd : o.guard = none) (s y : Operand)
  (ho : o.op = .call { callee := .builtin .append, args := #[s, y], argTypes := #[77, 77] }) (hs : a.eval s = v) (hy : a.eval y = .slice (some ⟨w1.heap.size, 0, none⟩) 1 1) (hn : xs.length + 1 ≤ 100000000) (hbase : base ≤ w1.heap.size)
  (h : ∀ g cap w', dy ad.ag w' base 142 (.slice (some ⟨g, 0, none⟩) (xs.length + 1) cap) (rows ++ [row]) (xs ++ [x]) (bls ++ [bl]) → Below base w1 w' → Ext (fun q => v.ownBlock = some q) w1 w' → g < w'.heap.size → w1.heap.size ≤ w'.heap.size → (v.ownBlock = some g ∨ w1.heap.size ≤ g) → K (a.put o.dst (.slice (some ⟨g, 0, none⟩) (xs.length + 1) cap)) w') :
  if Region.wanted o (yielded ops a.tmps) = true then Oper.wp Tryz.prog o a (w1.alloc (.cells row.toArray 142)) K Q else E := by
 obtain ⟨i0, hi0, hz0, hz1, hz2⟩ := info_parts dH
 obtain ⟨h1, hlen⟩ := fL hl
 refine step_append_lies _ hgd s y 77 ho base 142 i0 _ 5 56 Tryz.underlying77 hi0 hz0 hz1 hz2 rfl (by omega) v xs.length rows.flatten hs (hG.own.alloc _) ⟨w1.heap.size, 0, none⟩ 1 1 row hy hlen (World.news_of_block (cs := row.toArray) (t := 142) (fr := (0, 0)) (heap_alloc_new w1 _)) h1 (by omega) (by unfold maxLen; omega) (by omega) (by simp; omega) (w1.alloc (.cells row.toArray 142)).heap.size rfl ?_
 intro g cap w' h2 h3 h4 h5
 have hg := en h3
 have hbw : Below base w1 w' := (Below.refl _ _).grown hg hbase (fun j hj => (hG.own.lt j hj).1)
 have hor : v.ownBlock = some g ∨ w1.heap.size ≤ g := by
  rcases h4 with h4 | h4
  ·
   exact Or.inl h4
  exact Or.inr (by rw [h4]; simp)
 exact h g cap w' (hG.snoc hl hbl h2 hg hor) hbw ⟨hbw.os, hbw.tape, hbw.output, hbw.size, fun k hk hn => hg.block k hk (fun e => hn e.symm)⟩ h5 hbw.size hor
theorem Ext.fS {S : Nat → Prop} {a b : World} (h : Ext S a b) : Ext S a b.drew := ⟨h.os, h.tape, h.output, h.size, h.block⟩
theorem Ext.iE {S : Nat → Prop} {a b : World} (h : Ext S a b) (o : Obj) : Ext S a (b.alloc o) := h.trans (bf ((Below.refl _ _).alloc (Nat.le_refl _) o) S)
theorem kK (k i : Int) (u1 : Option Addr) (u2 u3 : Nat) (s q : Int) (w : World) :
  Calls Tryz.prog 275 #[.agg #[.int .i64 k, .int .i64 i, .slice u1 u2 u3, .int .i64 s, .int .i64 q]] w fun e w' => e = .returned (tick s q) ∧ Below w.heap.size w w' := by
 have HB : Hid (∀ o o', Below w.heap.size w ((w.alloc o).alloc o')) := fun o o' => ((Below.refl _ _).alloc (Nat.le_refl _) _).alloc (by simp) _
 go_enter Tryz.func275, Tryz.ntmps275
 go_wp2_with fail
 refine bodyPost_ret (v := .agg #[.int .i64 s, .int .i64 q]) (by simp [results, Tryz.results275, go_sem]) rfl ?_
 exact ⟨rfl, uh HB _ _⟩
theorem mi {w : World} {p mb N : Nat} {ws : List ak} {v : Value} {rows : List (List Value)} {bls : List (List Nat)} (h : Told w p mb N ws v rows bls) {cs : List Value} {x : ak} {bl : List Nat} (hl : ad.ag.bt w cs x bl) (hX : ∀ b ∈ bl, N ≤ b ∧ ∀ o, w.frozen? ⟨b, o, none⟩ = false) (hnd : bl.Nodup) (hNw : N ≤ w.heap.size) (hf : wF x = 0) (hn : ws.length < 1000) :
  Calls Tryz.prog 253 #[.pointer (some ⟨p, 0, none⟩), .agg cs.toArray] w fun e w' => e = .returned (.tuple #[]) ∧ (∃ v' rows' bls', Told w' p mb w'.heap.size (ws ++ [x]) v' rows' bls') ∧ Below mb w w' := by
 obtain ⟨a2, d2, b2, rfl, rfl, -, -, -, k3, k4⟩ := bN.1 hl
 have nb : Below w.heap.size w (w.alloc (.cells #[.int .i64 x.kind, .int .i64 x.id, .slice a2 x.vec.length d2, .int .i64 x.aa, .int .i64 x.seq] 142)) := (Below.refl _ _).alloc (Nat.le_refl _) _
 have hQ0 : ar 0 #[.int .i64 x.kind, .int .i64 x.id, .slice a2 x.vec.length d2, .int .i64 x.aa, .int .i64 x.seq] 142 (w.alloc (.cells #[.int .i64 x.kind, .int .i64 x.id, .slice a2 x.vec.length d2, .int .i64 x.aa, .int .i64 x.seq] 142)) w.heap.size := aM (Nat.zero_le _)
 have hT0 := h.af nb
 have hL0 : ad.ag.bt (w.alloc (.cells #[.int .i64 x.kind, .int .i64 x.id, .slice a2 x.vec.length d2, .int .i64 x.aa, .int .i64 x.seq] 142)) [.int .i64 x.kind, .int .i64 x.id, .slice a2 x.vec.length d2, .int .i64 x.aa, .int .i64 x.seq] x bl := ad.ag.au hl fun b hb => nb.block b (ad.ag.lt hl b hb)
 have hpw := h.box.lt
 have hmp := h.lt
 have HNW := yh hNw
 have hF0 : ∀ b ∈ bl, ∀ o, (w.alloc (.cells #[.int .i64 x.kind, .int .i64 x.id, .slice a2 x.vec.length d2, .int .i64 x.aa, .int .i64 x.seq] 142)).frozen? ⟨b, o, none⟩ = false := fun b hb o => (br (nb.block b (ad.ag.lt hl b hb)) o).trans ((hX b hb).2 o)
 have hBw : Below mb w (w.alloc (.cells #[.int .i64 x.kind, .int .i64 x.id, .slice a2 x.vec.length d2, .int .i64 x.aa, .int .i64 x.seq] 142)) := nb.mono (by omega)
 go_enter Tryz.func253, Tryz.ntmps253
 go_wp2_with fail
 generalize hW0 : w.alloc (.cells #[.int .i64 x.kind, .int .i64 x.id, .slice a2 x.vec.length d2, .int .i64 x.aa, .int .i64 x.seq] 142) = W0 at *
 clear hW0
 have hHD : Ext (fun c => c = p ∨ v.ownBlock = some c) W0 W0.drew := (Ext.refl _ _).fS
 have hTD : Told W0.drew p mb N ws v rows bls := hT0.af (bO (Below.refl _ _) 1)
 have hLD : ad.ag.bt W0.drew [.int .i64 x.kind, .int .i64 x.id, .slice a2 x.vec.length d2, .int .i64 x.aa, .int .i64 x.seq] x bl := hL0
 have hFD : ∀ b ∈ bl, ∀ o, W0.drew.frozen? ⟨b, o, none⟩ = false := hF0
 refine wZz (fun w' => Ext (fun c => c = p ∨ v.ownBlock = some c) W0 w') (Ext.refl _ _).fS (fun zq => ?_)
 generalize W0.drew = wD at zq hTD hLD hHD hFD ⊢
 refine tkH 0 zq ?_
 refine tkH 1 zq ?_
 refine tkH 2 zq ?_
 refine tkH 3 zq ?_
 refine tkJ 5 (v := ?va5) ?ha5 zq ?ra5
 case ha5 =>
  intro wS hSw
  have y0 : wS.cell? ⟨w.heap.size, 0, none⟩ = some (.int .i64 x.kind) := (hQ0.ext hSw (by first | (rintro (e | e); omega; have := h.jK _ e; have := uh HNW; omega) | (intro e; omega) | exact fun e => e)).at 0 _ rfl
  have y1 : wS.cell? ⟨w.heap.size, 1, none⟩ = some (.int .i64 x.id) := (hQ0.ext hSw (by first | (rintro (e | e); omega; have := h.jK _ e; have := uh HNW; omega) | (intro e; omega) | exact fun e => e)).at 1 _ rfl
  have y2 : wS.cell? ⟨w.heap.size, 2, none⟩ = some (.slice a2 x.vec.length d2) := (hQ0.ext hSw (by first | (rintro (e | e); omega; have := h.jK _ e; have := uh HNW; omega) | (intro e; omega) | exact fun e => e)).at 2 _ rfl
  have y3 : wS.cell? ⟨w.heap.size, 3, none⟩ = some (.int .i64 x.aa) := (hQ0.ext hSw (by first | (rintro (e | e); omega; have := h.jK _ e; have := uh HNW; omega) | (intro e; omega) | exact fun e => e)).at 3 _ rfl
  have y4 : wS.cell? ⟨w.heap.size, 4, none⟩ = some (.int .i64 x.seq) := (hQ0.ext hSw (by first | (rintro (e | e); omega; have := h.jK _ e; have := uh HNW; omega) | (intro e; omega) | exact fun e => e)).at 4 _ rfl
  clear hSw
  exact fZ
 refine (fun (REST : ?T) => ?main) ?rest
 case main =>
  refine wpAnyH_ready (rs := [4, 6]) (by kernel_rfl) (by simp) ?_
  refine AllReadyH.cons (o := ⟨some 11, .load 77 (.tmp 10), 77, "l05_session.go:65", #[⟨3, .data⟩], none⟩) rfl (fun K hK => ?first) (AllReadyH.cons (o := ⟨some 13, .buildSlice 77 1 #[(0, .tmp 12)], 77, "l05_session.go:65", #[⟨5, .data⟩], none⟩) rfl (fun K hK => ?second) AllReadyH.nil)
  case first =>
   have y0 : wD.cell? ⟨p, 0, none⟩ = some v := hTD.box.at 0 _ rfl
   have hp : p < wD.heap.size := hTD.box.lt
   have y1 : ∀ o, (wD.alloc o).cell? ⟨p, 0, none⟩ = some v := fun o => (World.cell?_alloc_lt _ _ _ hp).trans y0
   go_simp
   refine hK.out _ _ zq (fun zq => ?_)
   clear hK K
   try simp only [Act.put, pz, py, px]
   refine rdH 6 (fun K hK => ?_)
   go_simp
   refine hK.out _ _ (zq.iE _) (fun zq => ?_)
   clear hK K
   try simp only [Act.put, pz, py, px]
   exact REST
  case second =>
   go_simp
   refine hK.out _ _ (zq.iE _) (fun zq => ?_)
   clear hK K
   try simp only [Act.put, pz, py, px]
   refine rdH 4 (fun K hK => ?_)
   have y0 : wD.cell? ⟨p, 0, none⟩ = some v := hTD.box.at 0 _ rfl
   have hp : p < wD.heap.size := hTD.box.lt
   have y1 : ∀ o, (wD.alloc o).cell? ⟨p, 0, none⟩ = some v := fun o => (World.cell?_alloc_lt _ _ _ hp).trans y0
   go_simp
   refine hK.out _ _ zq (fun zq => ?_)
   clear hK K
   try simp only [Act.put, pz, py, px]
   exact REST
 case rest =>
 replace zq := zq.iE (.cells #[.int .i64 x.kind, .int .i64 x.id, .slice a2 x.vec.length d2, .int .i64 x.aa, .int .i64 x.seq] 142)
 refine rdH 7 (fun K hK => ?_)
 refine dF hTD.grow (row := [.int .i64 x.kind, .int .i64 x.id, .slice a2 x.vec.length d2, .int .i64 x.aa, .int .i64 x.seq]) (x := x) (bl := bl) hLD (fun c hc e => by have h1 := (hX c hc).1; have h2 := hTD.jK c e; omega) rfl _ _ rfl rfl rfl (by omega) (by have := hTD.box.lt; omega) ?_
 rintro g5 cp5 w5 hG5 hb5 hE5 hl5 hz5 hor5
 refine hK.out _ _ ((hHD.trans (hE5.mono (fun k _ h => Or.inr h)))) (fun zq => ?_)
 clear hK K
 try simp only [Act.put, pz, py, px]
 refine tkH 8 zq ?_
 refine tkH 9 zq ?_
 refine rdH 10 (fun K hK => ?_)
 have hb6 : ar 0 (cB v mb (aA ws)) 237 w5 p := hTD.box.ext hE5 (fun e => by have := (hTD.grow.own.lt p e).1; omega)
 have c6 : w5.cell? ⟨p, 0, none⟩ = some v := hb6.at 0 _ rfl
 have f6 := hb6.soft 0
 have l6 := hb6.lt
 go_simp
 refine hK.out _ _ ((hHD.trans (hE5.mono (fun k _ h => Or.inr h))).setCell ⟨p, 0, none⟩ _ (Or.inl rfl)) (fun zq => ?_)
 clear hK K
 try simp only [Act.put, pz, py, px]
 refine dZ ?_
 have hnf : (bls ++ [bl]).flatten = bls.flatten ++ bl := by simp
 have hT6 := hTD.added hG5 hE5 (by
  intro b hb
  rw [hnf] at hb
  rcases List.mem_append.1 hb with hb | hb
  ·
   exact ⟨(hTD.sub b hb).1, fun o => (br (hE5.block b (hTD.grow.sub_lt b hb) (fun e => hTD.grow.off b hb e)) o).trans ((hTD.sub b hb).2 o)⟩
  ·
   refine ⟨by have := (hX b hb).1; have := hTD.pN; omega, fun o => (br (hE5.block b (ad.ag.lt hLD b hb) (fun e => by have := hTD.jK b e; have := (hX b hb).1; omega)) o).trans (hFD b hb o)⟩) (by
  rw [hnf, List.nodup_append]
  exact ⟨hTD.nd, hnd, fun b hb c hc e => by have := hTD.mg b hb; have := (hX c hc).1; omega⟩)
 have hQ6 : ar 0 #[.int .i64 x.kind, .int .i64 x.id, .slice a2 x.vec.length d2, .int .i64 x.aa, .int .i64 x.seq] 142 (w5.setCell ⟨p, 0, none⟩ (.slice (some ⟨g5, 0, none⟩) (ws.length + 1) cp5)) w.heap.size := hQ0.ext zq (by rintro (e | e); omega; have := h.jK _ e; omega)
 have hB6 : Below mb w (w5.setCell ⟨p, 0, none⟩ (.slice (some ⟨g5, 0, none⟩) (ws.length + 1) cp5)) := hBw.trans (zq.below (by have := hBw.size; omega) (by rintro c hc (e | e); omega; have := (h.grow.own.lt c e).1; omega))
 clear zq hTD hLD hHD hFD hG5 hE5 hb5 hl5 hz5 hor5 hT0 hL0 hF0 hQ0 hBw h hl hX hnd nb hnf
 generalize w5.setCell ⟨p, 0, none⟩ (.slice (some ⟨g5, 0, none⟩) (ws.length + 1) cp5) = w6 at hT6 hQ6 hB6 ⊢
 have y0 : w6.cell? ⟨w.heap.size, 0, none⟩ = some (.int .i64 x.kind) := hQ6.at 0 _ rfl
 have y1 : w6.cell? ⟨w.heap.size, 1, none⟩ = some (.int .i64 x.id) := hQ6.at 1 _ rfl
 have y2 : w6.cell? ⟨w.heap.size, 2, none⟩ = some (.slice a2 x.vec.length d2) := hQ6.at 2 _ rfl
 have y3 : w6.cell? ⟨w.heap.size, 3, none⟩ = some (.int .i64 x.aa) := hQ6.at 3 _ rfl
 have y4 : w6.cell? ⟨w.heap.size, 4, none⟩ = some (.int .i64 x.seq) := hQ6.at 4 _ rfl
 go_wp2_with fail
 clear y0 y1 y2 y3 y4
 refine (kK _ _ _ _ _ _ _ w6).mono ?_
 rintro e w7 ⟨rfl, hb7⟩
 have nb8 : Below w6.heap.size w6 (w7.alloc (.cells #[.int .i64 x.aa, .int .i64 x.seq] 117)) := hb7.alloc hb7.size _
 have hT8 := hT6.af nb8
 have hQ8 := hQ6.au nb8
 have hB8 := hB6.trans (nb8.mono (by have := hT6.lt; have := hT6.box.lt; omega))
 have hR8 : ar 0 #[.int .i64 x.aa, .int .i64 x.seq] 117 (w7.alloc (.cells #[.int .i64 x.aa, .int .i64 x.seq] 117)) w7.heap.size := aM (Nat.zero_le _)
 have hrp : mb < w7.heap.size := by have := hT6.lt; have := hT6.box.lt; have := hb7.size; omega
 simp only [tick]
 go_wp2_with fail
 clear hT6 hQ6 hB6 hb7 nb8
 generalize w7.alloc (.cells #[.int .i64 x.aa, .int .i64 x.seq] 117) = w8 at *
 generalize w7.heap.size = r at *
 have hT9 : bP w8.drew p mb _ ws.length (ws ++ [x]) (aA ws) (fun s q => cF ws s q) (.slice (some ⟨g5, 0, none⟩) (ws.length + 1) cp5) (rows ++ [[.int .i64 x.kind, .int .i64 x.id, .slice a2 x.vec.length d2, .int .i64 x.aa, .int .i64 x.seq]]) (bls ++ [bl]) := hT8.af (bO (Below.refl _ _) 1)
 have hQ9 : ar 0 #[.int .i64 x.kind, .int .i64 x.id, .slice a2 x.vec.length d2, .int .i64 x.aa, .int .i64 x.seq] 142 w8.drew w.heap.size := hQ8
 have hR9 : ar 0 #[.int .i64 x.aa, .int .i64 x.seq] 117 w8.drew r := hR8
 have hB9 : Below mb w w8.drew := hB8.drew
 obtain ⟨bs, hbs⟩ : ∃ bs, bs = decide (cF ws x.aa x.seq ≠ 0) := ⟨_, rfl⟩
 have HBS := yh hbs
 clear hbs
 refine wZz (fun w' => Ext (fun _ => False) w8 w') (Ext.refl _ _).fS (fun zq => ?_)
 generalize w8.drew = w9 at zq hT9 hQ9 hR9 hB9 ⊢
 refine tkH 0 zq ?_
 refine tkH 1 zq ?_
 refine tkH 2 zq ?_
 refine tkJ 3 (v := ?vc3) ?hc3 zq ?rc3
 case hc3 =>
  intro wS hSw
  have z1 : wS.cell? ⟨p, 1, none⟩ = some (.map (some mb)) := (hT8.box.ext hSw (fun e => e)).at 1 _ rfl
  have k0 : wS.cell? ⟨r, 0, none⟩ = some (.int .i64 x.aa) := (hR8.ext hSw (fun e => e)).at 0 _ rfl
  have k1 : wS.cell? ⟨r, 1, none⟩ = some (.int .i64 x.seq) := (hR8.ext hSw (fun e => e)).at 1 _ rfl
  clear hSw
  exact fZ
 refine tkJ 4 (v := ?vc4) ?hc4 zq ?rc4
 case hc4 =>
  intro wS hSw
  have z1 : wS.cell? ⟨p, 1, none⟩ = some (.map (some mb)) := (hT8.box.ext hSw (fun e => e)).at 1 _ rfl
  have k0 : wS.cell? ⟨r, 0, none⟩ = some (.int .i64 x.aa) := (hR8.ext hSw (fun e => e)).at 0 _ rfl
  have k1 : wS.cell? ⟨r, 1, none⟩ = some (.int .i64 x.seq) := (hR8.ext hSw (fun e => e)).at 1 _ rfl
  clear hSw
  exact fZ
 refine tkJ 5 (v := ?vc5) ?hc5 zq ?rc5
 case hc5 =>
  intro wS hSw
  have hlk := (hT8.seen.ext hSw (fun e => e)).look k3 k4
  simp only [tick] at hlk
  rw [← uh HBS] at hlk
  clear hSw
  exact fZ
 refine tkH 6 zq ?_
 refine tkH 7 zq ?_
 refine tkH 8 zq ?_
 refine tkH 9 zq ?_
 refine tkH 10 zq ?_
 refine dZ ?_
 clear zq hT8 hQ8 hR8 hB8
 obtain ⟨b1, b9, q1, q9⟩ := iC hf
 have hs9 : x.aa.toNat < 10 := by omega
 have hsi : (x.aa.toNat : Int) = x.aa := by omega
 have i1 : (0 : Int) ≤ x.aa := by omega
 have i2 : x.aa < 10 := by omega
 have hlast : ∀ j : Int, (if j = (x.aa.toNat : Int) then (if aA ws x.aa < x.seq then x.seq else aA ws x.aa) else aA ws j) = aA (ws ++ [x]) j := by
  intro j
  rw [ff, hsi, show (if aA ws x.aa < x.seq then x.seq else aA ws x.aa) = max (aA ws x.aa) x.seq by split <;> omega]
  by_cases e : j = x.aa
  ·
   rw [if_pos e, if_pos e.symm, e]
  rw [if_neg e, if_neg (fun h => e h.symm)]
 have hlen : Hid ((ws ++ [x]).length = ws.length + 1) := by show (ws ++ [x]).length = ws.length + 1; simp
 have HLAST := yh hlast
 clear hlast
 by_cases hsn : cF ws x.aa x.seq = 0
 ·
  obtain rfl : bs = false := by rw [uh HBS]; simpa using hsn
  have hseen : ∀ s q : Int, (if s = x.aa ∧ q = x.seq then ws.length + 1 else cF ws s q) = cF (ws ++ [x]) s q := by
   intro s q
   rw [eN]
   by_cases e : s = x.aa ∧ q = x.seq
   ·
    rw [if_pos e, e.1, e.2, hsn, if_pos rfl, if_pos ⟨rfl, rfl⟩]
   rw [if_neg e]
   by_cases h0 : cF ws s q = 0
   ·
    rw [if_pos h0, if_neg (fun h => e ⟨h.1.symm, h.2.symm⟩), h0]
   rw [if_neg h0]
  have HSEEN := yh hseen
  clear HBS hseen hsn
  go_wp2_with fail
  have hT10 : bP w9.drew p mb _ ws.length (ws ++ [x]) (aA ws) (fun s q => cF ws s q) (.slice (some ⟨g5, 0, none⟩) (ws.length + 1) cp5) (rows ++ [[.int .i64 x.kind, .int .i64 x.id, .slice a2 x.vec.length d2, .int .i64 x.aa, .int .i64 x.seq]]) (bls ++ [bl]) := hT9.af (bO (Below.refl _ _) 1)
  have hQ10 : ar 0 #[.int .i64 x.kind, .int .i64 x.id, .slice a2 x.vec.length d2, .int .i64 x.aa, .int .i64 x.seq] 142 w9.drew w.heap.size := hQ9
  have hB10 : Below mb w w9.drew := hB9.drew
  refine wZz (fun w' => Ext (fun c => c = mb) w9 w') (Ext.refl _ _).fS (fun zq => ?_)
  generalize w9.drew = wE at zq hT10 hQ10 hB10 ⊢
  refine tkH 0 zq ?_
  refine tkH 1 zq ?_
  refine tkH 2 zq ?_
  refine tkJ 3 (v := ?ve3) ?he3 zq ?re3
  case he3 =>
   intro wS hSw
   have z1 : wS.cell? ⟨p, 1, none⟩ = some (.map (some mb)) := (hT9.box.ext hSw (by have := hT9.lt; have := hrp; omega)).at 1 _ rfl
   have k0 : wS.cell? ⟨r, 0, none⟩ = some (.int .i64 x.aa) := (hR9.ext hSw (by have := hT9.lt; have := hrp; omega)).at 0 _ rfl
   have k1 : wS.cell? ⟨r, 1, none⟩ = some (.int .i64 x.seq) := (hR9.ext hSw (by have := hT9.lt; have := hrp; omega)).at 1 _ rfl
   have z0 : wS.cell? ⟨p, 0, none⟩ = some (.slice (some ⟨g5, 0, none⟩) (ws.length + 1) cp5) := (hT9.box.ext hSw (by have := hT9.lt; omega)).at 0 _ rfl
   clear hSw
   exact fZ
  refine tkJ 4 (v := ?ve4) ?he4 zq ?re4
  case he4 =>
   intro wS hSw
   have z1 : wS.cell? ⟨p, 1, none⟩ = some (.map (some mb)) := (hT9.box.ext hSw (by have := hT9.lt; have := hrp; omega)).at 1 _ rfl
   have k0 : wS.cell? ⟨r, 0, none⟩ = some (.int .i64 x.aa) := (hR9.ext hSw (by have := hT9.lt; have := hrp; omega)).at 0 _ rfl
   have k1 : wS.cell? ⟨r, 1, none⟩ = some (.int .i64 x.seq) := (hR9.ext hSw (by have := hT9.lt; have := hrp; omega)).at 1 _ rfl
   have z0 : wS.cell? ⟨p, 0, none⟩ = some (.slice (some ⟨g5, 0, none⟩) (ws.length + 1) cp5) := (hT9.box.ext hSw (by have := hT9.lt; omega)).at 0 _ rfl
   clear hSw
   exact fZ
  refine tkH 5 zq ?_
  refine tkH 6 zq ?_
  refine tkH 7 zq ?_
  refine tkJ 8 (v := ?ve8) ?he8 zq ?re8
  case he8 =>
   intro wS hSw
   have z1 : wS.cell? ⟨p, 1, none⟩ = some (.map (some mb)) := (hT9.box.ext hSw (by have := hT9.lt; have := hrp; omega)).at 1 _ rfl
   have k0 : wS.cell? ⟨r, 0, none⟩ = some (.int .i64 x.aa) := (hR9.ext hSw (by have := hT9.lt; have := hrp; omega)).at 0 _ rfl
   have k1 : wS.cell? ⟨r, 1, none⟩ = some (.int .i64 x.seq) := (hR9.ext hSw (by have := hT9.lt; have := hrp; omega)).at 1 _ rfl
   have z0 : wS.cell? ⟨p, 0, none⟩ = some (.slice (some ⟨g5, 0, none⟩) (ws.length + 1) cp5) := (hT9.box.ext hSw (by have := hT9.lt; omega)).at 0 _ rfl
   clear hSw
   exact fZ
  refine tkH 9 zq ?_
  refine rdH 10 (fun K hK => ?_)
  obtain ⟨w12, hrun, hTk, hE12⟩ := hT10.seen.put (by omega) k3 k4 (m := ws.length + 1) (by omega) (cY (by omega))
  simp only [tick] at hrun
  have hrun2 : (Instr.mapUpdate 234 (.map (some mb)) (.agg #[.int .i64 x.aa, .int .i64 x.seq]) (.int .i64 ((ws.length : Int) + 1))).run Tryz.prog wE = .ok () w12 := by simpa using hrun
  clear hrun
  go_simp
  refine hK.out _ _ (zq.trans hE12) (fun zq => ?_)
  clear hK K
  try simp only [Act.put, pz, py, px]
  refine dZ ?_
  have hT12 := (hT10.marked hE12 hTk)
  have hQ12 := hQ10.ext hE12 (by omega)
  have hB12 := hB10.trans (hE12.below (by have := hT10.lt; have := hT10.box.lt; omega) (by intro c hc e; omega))
  clear zq hT9 hQ9 hR9 hB9 hT10 hQ10 hB10 hE12 hTk
  go_wp2_with fail
  have hTG : bP w12.drew p mb _ (ws.length + 1) (ws ++ [x]) (aA ws) _ (.slice (some ⟨g5, 0, none⟩) (ws.length + 1) cp5) (rows ++ [[.int .i64 x.kind, .int .i64 x.id, .slice a2 x.vec.length d2, .int .i64 x.aa, .int .i64 x.seq]]) (bls ++ [bl]) := hT12.af (bO (Below.refl _ _) 1)
  have hBG : Below mb w w12.drew := hB12.drew
  refine wZz (fun w' => Ext (fun c => c = p) w12 w') (Ext.refl _ _).fS (fun zq => ?_)
  generalize w12.drew = wG at zq hTG hBG ⊢
  refine tkH 0 zq ?_
  refine tkH 1 zq ?_
  refine tkJ 2 (v := ?vf2) ?hf2 zq ?rf2
  case hf2 =>
   intro wS hSw
   have y3 : wS.cell? ⟨w.heap.size, 3, none⟩ = some (.int .i64 x.aa) := (hQ12.ext hSw (by omega)).at 3 _ rfl
   have y4 : wS.cell? ⟨w.heap.size, 4, none⟩ = some (.int .i64 x.seq) := (hQ12.ext hSw (by omega)).at 4 _ rfl
   clear hSw
   exact fZ
  refine tkH 3 zq ?_
  refine tkH 4 zq ?_
  refine tkJ 5 (v := ?vf5) ?hf5 zq ?rf5
  case hf5 =>
   intro wS hSw
   have y3 : wS.cell? ⟨w.heap.size, 3, none⟩ = some (.int .i64 x.aa) := (hQ12.ext hSw (by omega)).at 3 _ rfl
   have y4 : wS.cell? ⟨w.heap.size, 4, none⟩ = some (.int .i64 x.seq) := (hQ12.ext hSw (by omega)).at 4 _ rfl
   clear hSw
   exact fZ
  refine tkH 6 zq ?_
  refine tkH 7 zq ?_
  refine tkH 8 zq ?_
  refine tkH 10 zq ?_
  refine tkJ 11 (v := ?vf11) ?hf11 zq ?rf11
  case hf11 =>
   intro wS hSw
   have y3 : wS.cell? ⟨w.heap.size, 3, none⟩ = some (.int .i64 x.aa) := (hQ12.ext hSw (by omega)).at 3 _ rfl
   have y4 : wS.cell? ⟨w.heap.size, 4, none⟩ = some (.int .i64 x.seq) := (hQ12.ext hSw (by omega)).at 4 _ rfl
   clear hSw
   exact fZ
  refine tkH 13 zq ?_
  refine tkH 14 zq ?_
  refine rdH 9 (fun K hK => ?_)
  have zl : wG.cell? ⟨p, 2 + x.aa.toNat, none⟩ = some (.int .i64 (aA ws x.aa)) := by
   have := hTG.box.at _ _ (dm (.slice (some ⟨g5, 0, none⟩) (ws.length + 1) cp5) mb (aA ws) x.aa.toNat hs9)
   rwa [hsi] at this
  go_simp
  refine hK.out _ _ zq (fun zq => ?_)
  clear hK K
  try simp only [Act.put, pz, py, px]
  refine tkH 12 zq ?_
  refine tkH 15 zq ?_
  refine rdH 16 (fun K hK => ?_)
  have zl : wG.cell? ⟨p, 2 + x.aa.toNat, none⟩ = some (.int .i64 (aA ws x.aa)) := by
   have := hTG.box.at _ _ (dm (.slice (some ⟨g5, 0, none⟩) (ws.length + 1) cp5) mb (aA ws) x.aa.toNat hs9)
   rwa [hsi] at this
  have f6 := hTG.box.soft (2 + x.aa.toNat)
  have l6 := hTG.box.lt
  go_simp
  refine hK.out _ _ (zq.setCell ⟨p, 2 + x.aa.toNat, none⟩ _ rfl) (fun zq => ?_)
  clear hK K
  try simp only [Act.put, pz, py, px]
  refine dZ ?_
  have hTZ := ((hTG.jY x.aa.toNat hs9 ((if aA ws x.aa < x.seq then x.seq else aA ws x.aa))).same (Nat.le_of_eq (uh hlen).symm) (uh HLAST) (uh HSEEN)).top
  have hBZ : Below mb w (wG.setCell ⟨p, 2 + x.aa.toNat, none⟩ (.int .i64 ((if aA ws x.aa < x.seq then x.seq else aA ws x.aa)))) := hBG.setCell (by simp; omega) _
  clear zq hTG hBG
  generalize wG.setCell ⟨p, 2 + x.aa.toNat, none⟩ (.int .i64 (if aA ws x.aa < x.seq then x.seq else aA ws x.aa)) = wZ at hTZ hBZ ⊢
  go_wp2_with fail
  all_goals
   refine bodyPost_end (v := .tuple #[]) (by simp [results, Tryz.results253, go_sem]) rfl ?_
   exact ⟨rfl, ⟨_, _, _, hTZ⟩, hBZ⟩
 obtain rfl : bs = true := by rw [uh HBS]; simpa using hsn
 have hseen : ∀ s q : Int, cF ws s q = cF (ws ++ [x]) s q := by
  intro s q
  rw [eN]
  split
  ·
   rename_i e
   rw [if_neg]
   ·
    exact e
   rintro ⟨rfl, rfl⟩
   exact hsn e
  rfl
 have HSEEN := yh hseen
 clear HBS hseen hsn
 go_wp2_with fail
 have hTG : bP w9.drew p mb _ ws.length (ws ++ [x]) (aA ws) (fun s q => cF ws s q) (.slice (some ⟨g5, 0, none⟩) (ws.length + 1) cp5) (rows ++ [[.int .i64 x.kind, .int .i64 x.id, .slice a2 x.vec.length d2, .int .i64 x.aa, .int .i64 x.seq]]) (bls ++ [bl]) := hT9.af (bO (Below.refl _ _) 1)
 have hBG : Below mb w w9.drew := hB9.drew
 refine wZz (fun w' => Ext (fun c => c = p) w9 w') (Ext.refl _ _).fS (fun zq => ?_)
 generalize w9.drew = wG at zq hTG hBG ⊢
 refine tkH 0 zq ?_
 refine tkH 1 zq ?_
 refine tkJ 2 (v := ?vg2) ?hg2 zq ?rg2
 case hg2 =>
  intro wS hSw
  have y3 : wS.cell? ⟨w.heap.size, 3, none⟩ = some (.int .i64 x.aa) := (hQ9.ext hSw (by omega)).at 3 _ rfl
  have y4 : wS.cell? ⟨w.heap.size, 4, none⟩ = some (.int .i64 x.seq) := (hQ9.ext hSw (by omega)).at 4 _ rfl
  clear hSw
  exact fZ
 refine tkH 3 zq ?_
 refine tkH 4 zq ?_
 refine tkJ 5 (v := ?vg5) ?hg5 zq ?rg5
 case hg5 =>
  intro wS hSw
  have y3 : wS.cell? ⟨w.heap.size, 3, none⟩ = some (.int .i64 x.aa) := (hQ9.ext hSw (by omega)).at 3 _ rfl
  have y4 : wS.cell? ⟨w.heap.size, 4, none⟩ = some (.int .i64 x.seq) := (hQ9.ext hSw (by omega)).at 4 _ rfl
  clear hSw
  exact fZ
 refine tkH 6 zq ?_
 refine tkH 7 zq ?_
 refine tkH 8 zq ?_
 refine tkH 10 zq ?_
 refine tkJ 11 (v := ?vg11) ?hg11 zq ?rg11
 case hg11 =>
  intro wS hSw
  have y3 : wS.cell? ⟨w.heap.size, 3, none⟩ = some (.int .i64 x.aa) := (hQ9.ext hSw (by omega)).at 3 _ rfl
  have y4 : wS.cell? ⟨w.heap.size, 4, none⟩ = some (.int .i64 x.seq) := (hQ9.ext hSw (by omega)).at 4 _ rfl
  clear hSw
  exact fZ
 refine tkH 13 zq ?_
 refine tkH 14 zq ?_
 refine rdH 9 (fun K hK => ?_)
 have zl : wG.cell? ⟨p, 2 + x.aa.toNat, none⟩ = some (.int .i64 (aA ws x.aa)) := by
  have := hTG.box.at _ _ (dm (.slice (some ⟨g5, 0, none⟩) (ws.length + 1) cp5) mb (aA ws) x.aa.toNat hs9)
  rwa [hsi] at this
 go_simp
 refine hK.out _ _ zq (fun zq => ?_)
 clear hK K
 try simp only [Act.put, pz, py, px]
 refine tkH 12 zq ?_
 refine tkH 15 zq ?_
 refine rdH 16 (fun K hK => ?_)
 have zl : wG.cell? ⟨p, 2 + x.aa.toNat, none⟩ = some (.int .i64 (aA ws x.aa)) := by
  have := hTG.box.at _ _ (dm (.slice (some ⟨g5, 0, none⟩) (ws.length + 1) cp5) mb (aA ws) x.aa.toNat hs9)
  rwa [hsi] at this
 have f6 := hTG.box.soft (2 + x.aa.toNat)
 have l6 := hTG.box.lt
 go_simp
 refine hK.out _ _ (zq.setCell ⟨p, 2 + x.aa.toNat, none⟩ _ rfl) (fun zq => ?_)
 clear hK K
 try simp only [Act.put, pz, py, px]
 refine dZ ?_
 have hTZ := ((hTG.jY x.aa.toNat hs9 ((if aA ws x.aa < x.seq then x.seq else aA ws x.aa))).same (n' := (ws ++ [x]).length) (by rw [uh hlen]; omega) (uh HLAST) (uh HSEEN)).top
 have hBZ : Below mb w (wG.setCell ⟨p, 2 + x.aa.toNat, none⟩ (.int .i64 ((if aA ws x.aa < x.seq then x.seq else aA ws x.aa)))) := hBG.setCell (by simp; omega) _
 clear zq hTG hBG
 generalize wG.setCell ⟨p, 2 + x.aa.toNat, none⟩ (.int .i64 (if aA ws x.aa < x.seq then x.seq else aA ws x.aa)) = wZ at hTZ hBZ ⊢
 go_wp2_with fail
 all_goals
  refine bodyPost_end (v := .tuple #[]) (by simp [results, Tryz.results253, go_sem]) rfl ?_
  exact ⟨rfl, ⟨_, _, _, hTZ⟩, hBZ⟩
def eb (x y z : Int) : Value := .agg #[.int .i64 x, .int .i64 y, .int .i64 z]
theorem bh.three {w : World} {v : Value} {zs : List Int} (h : bh w v zs) (h3 : zs.length = 3) :
  ∃ b off cap x y z, zs = [x, y, z] ∧ v = .slice (some ⟨b, off, none⟩) 3 cap ∧ b < w.heap.size ∧ w.cell? ⟨b, off, none⟩ = some (.int .i64 x) ∧ w.cell? ⟨b, off + 1, none⟩ = some (.int .i64 y) ∧ w.cell? ⟨b, off + 2, none⟩ = some (.int .i64 z) := by
 obtain ⟨ao, cap, rfl, hwf, hc⟩ := h
 match zs, h3 with
 | [x, y, z], _ =>
  obtain ⟨b, off, rfl, hc1⟩ := hc (by simp)
  have c0 := hc1 0 (by simp)
  have c1 := hc1 1 (by simp)
  have c2 := hc1 2 (by simp)
  exact ⟨b, off, cap, x, y, z, rfl, rfl, World.block_lt_of_cell? _ _ c0, c0, c1, c2⟩
theorem gy (v : Value) (zs : List Int) (w : World) (h : bh w v zs) (hf : aL zs ≠ 0) :
  Calls Tryz.prog 263 #[v] w fun e w' => e = .returned (.tuple #[eb 0 0 0, .int .i64 (aL zs)]) ∧ Below w.heap.size w w' := by
 go_enter Tryz.func263, Tryz.ntmps263
 go_wp2_with fail
 refine (gj v zs _ (h.af (((Below.refl _ _).alloc (Nat.le_refl _) _).alloc (by simp) _))).mono ?_
 rintro e w' ⟨rfl, rfl⟩
 have hne : (aL zs != 0) = true := by rw [bne_iff_ne]; exact hf
 go_wp2_with fail
 refine bodyPost_ret (v := .tuple #[eb 0 0 0, .int .i64 (aL zs)]) (by simp [results, Tryz.results263, go_sem, eb]) rfl ⟨rfl, ?_⟩
 exact ((Below.refl _ _).alloc (Nat.le_refl _) _).alloc (by simp) _
theorem eZ (b off cap : Nat) (x y z : Int) (w : World) (hbl : b < w.heap.size) (c0 : w.cell? ⟨b, off, none⟩ = some (.int .i64 x)) (c1 : w.cell? ⟨b, off + 1, none⟩ = some (.int .i64 y)) (c2 : w.cell? ⟨b, off + 2, none⟩ = some (.int .i64 z))
  (h : bh w (.slice (some ⟨b, off, none⟩) 3 cap) [x, y, z]) (hf : aL [x, y, z] = 0) :
  Calls Tryz.prog 263 #[.slice (some ⟨b, off, none⟩) 3 cap] w fun e w' => e = .returned (.tuple #[eb x y z, .int .i64 0]) ∧ Below w.heap.size w w' := by
 go_enter Tryz.func263, Tryz.ntmps263
 go_wp2_with fail
 refine (gj _ [x, y, z] _ (h.af (((Below.refl _ _).alloc (Nat.le_refl _) _).alloc (by simp) _))).mono ?_
 rintro e w' ⟨rfl, rfl⟩
 rw [hf]
 clear h hf
 go_wp2_with fail
 refine wp_loop_rounds 4 ?_
 rw [rounds_succ]
 go_wp2
 rw [rounds_succ]
 go_wp2
 rw [rounds_succ]
 go_wp2
 rw [rounds_succ]
 go_wp2
 refine bodyPost_ret (v := .tuple #[eb x y z, .int .i64 0]) (by simp [results, Tryz.results263, go_sem, eb]) rfl ⟨rfl, ?_⟩
 exact ((Below.refl _ _).alloc (Nat.le_refl _) _).alloc (by simp) _
theorem iv (v : Value) (x y z : Int) (w : World) (h : bh w v [x, y, z]) (hf : aL [x, y, z] = 0) :
  Calls Tryz.prog 263 #[v] w fun e w' => e = .returned (.tuple #[eb x y z, .int .i64 0]) ∧ Below w.heap.size w w' := by
 obtain ⟨b, off, cap, x', y', z', he, rfl, hbl, c0, c1, c2⟩ := h.three rfl
 simp only [List.cons.injEq, and_true] at he
 obtain ⟨rfl, rfl, rfl⟩ := he
 exact eZ b off cap x y z w hbl c0 c1 c2 h hf
def lT (x y z : Int) : Value := .iface 298 (.agg #[.int .i64 x, .int .i64 y, .int .i64 z])
def ki : Value := .iface 294 (.agg #[])
def fO (k : Int) (zs : List Int) : Value := if k = 1 then lT (zs.getD 0 0) (zs.getD 1 0) (zs.getD 2 0) else ki
def dR (k i : Int) (zs : List Int) (s q : Int) : Value := if al k i zs s q = 0 then fO k zs else .nilIface
def kv (i s q : Int) : Prop := (1 ≤ i ∧ i ≤ 999) ∧ (1 ≤ s ∧ s ≤ 9) ∧ 1 ≤ q ∧ q ≤ 999
theorem fR {i s q : Int} (h : kv i s q) : bU i s q = true := by
 obtain ⟨⟨a, b⟩, ⟨c, d⟩, e, f⟩ := h
 simp [bU, a, b, c, d, e, f]
theorem eP {i s q : Int} (h : ¬ kv i s q) : bU i s q = false := by
 rw [Bool.eq_false_iff]
 intro hb
 simp only [bU, Bool.and_eq_true, decide_eq_true_eq] at hb
 exact h ⟨hb.1, hb.2.1, hb.2.2⟩
theorem fQ {k i s q : Int} {zs : List Int} (hk : cg k zs.length = true) (h : ¬ kv i s q) : al k i zs s q = 3 := by
 rw [al, hk, if_pos rfl, eP h]; rfl
theorem iB {i s q : Int} (h : kv i s q) : al 2 i [] s q = 0 := by
 rw [al, show cg 2 ([] : List Int).length = true from rfl, if_pos rfl, fR h]; rfl
theorem j7 {k i s q : Int} {zs : List Int} (hk : cg k zs.length = true) (h : kv i s q) : al k i zs s q = if k = 1 then aL zs else 0 := by
 rw [al, hk, if_pos rfl, fR h, if_pos rfl]
def bW (w w' : World) (e : Ending) (k i : Int) (zs : List Int) (s q : Int) : Prop := e = .returned (.tuple #[dR k i zs s q, .int .i64 (al k i zs s q)]) ∧ Below w.heap.size w w'
theorem bx {w w' : World} {k i s q c : Int} {zs : List Int} (hc : al k i zs s q = c) (h0 : c ≠ 0) (hb : Below w.heap.size w w') : bW w w' (.returned (.tuple #[.nilIface, .int .i64 c])) k i zs s q := by
 refine ⟨?_, hb⟩
 rw [dR, hc, if_neg h0]
theorem er {w w' : World} {k i s q : Int} {zs : List Int} {v : Value} (hc : al k i zs s q = 0) (hv : v = fO k zs) (hb : Below w.heap.size w w') : bW w w' (.returned (.tuple #[v, .int .i64 0])) k i zs s q := by
 refine ⟨?_, hb⟩
 rw [dR, hc, if_pos rfl, hv]
theorem eo (n : Int) (w : World) : Calls Tryz.prog 123 #[.int .i64 n] w fun e w' => e = .returned (.bool (decide (1 ≤ n) && decide (n ≤ 999))) ∧ w' = w := by
 by_cases h1 : 1 ≤ n
 ·
  have d1 : decide (1 ≤ n) = true := by simpa using h1
  rw [d1]
  cases d2 : decide (n ≤ 999) <;>
  ·
   go_enter Tryz.func123, Tryz.ntmps123
   go_wp2
   go_ret
   exact ⟨rfl, rfl⟩
 have d1 : decide (1 ≤ n) = false := by simpa using h1
 rw [d1]
 go_enter Tryz.func123, Tryz.ntmps123
 go_wp2
 go_ret
 exact ⟨rfl, rfl⟩
theorem ch (n : Int) (w : World) : Calls Tryz.prog 216 #[.int .i64 n] w fun e w' => e = .returned (.bool (decide (1 ≤ n) && decide (n ≤ 9))) ∧ w' = w := by
 by_cases h1 : 1 ≤ n
 ·
  have d1 : decide (1 ≤ n) = true := by simpa using h1
  rw [d1]
  cases d2 : decide (n ≤ 9) <;>
  ·
   go_enter Tryz.func216, Tryz.ntmps216
   go_wp2
   go_ret
   exact ⟨rfl, rfl⟩
 have d1 : decide (1 ≤ n) = false := by simpa using h1
 rw [d1]
 go_enter Tryz.func216, Tryz.ntmps216
 go_wp2
 go_ret
 exact ⟨rfl, rfl⟩
theorem gC (n : Int) (w : World) : Calls Tryz.prog 217 #[.int .i64 n] w fun e w' => e = .returned (.bool (decide (1 ≤ n) && decide (n ≤ 999))) ∧ w' = w := by
 by_cases h1 : 1 ≤ n
 ·
  have d1 : decide (1 ≤ n) = true := by simpa using h1
  rw [d1]
  cases d2 : decide (n ≤ 999) <;>
  ·
   go_enter Tryz.func217, Tryz.ntmps217
   go_wp2
   go_ret
   exact ⟨rfl, rfl⟩
 have d1 : decide (1 ≤ n) = false := by simpa using h1
 rw [d1]
 go_enter Tryz.func217, Tryz.ntmps217
 go_wp2
 go_ret
 exact ⟨rfl, rfl⟩
theorem fq (i : Int) (ao : Option Addr) (cap : Nat) (s q : Int) (zs : List Int) (w : World) (hb : ¬ kv i s q) :
  Calls Tryz.prog 236 #[.agg #[.int .i64 1, .int .i64 i, .slice ao zs.length cap, .int .i64 s, .int .i64 q]] w fun e w' => bW w w' e 1 i zs s q := by
 have HB : Hid (∀ o, Below w.heap.size w (w.alloc o)) := fun o => (Below.refl _ _).alloc (Nat.le_refl _) o
 have HF : Hid (al 1 i zs s q = 3) := fQ rfl hb
 have hbb := eP hb
 unfold bU at hbb
 clear hb
 cases dI : (decide (1 ≤ i) && decide (i ≤ 999)) with
 | false =>
  clear hbb
  go_enter Tryz.func236, Tryz.ntmps236
  go_wp2_with fail
  refine (eo i _).mono ?_
  rintro e w1 ⟨rfl, rfl⟩
  rw [dI]
  go_wp2_with fail
  go_ret2
  exact bx (uh HF) (by omega) (uh HB _)
 | true =>
  cases dS : (decide (1 ≤ s) && decide (s ≤ 9)) with
  | false =>
   clear hbb
   go_enter Tryz.func236, Tryz.ntmps236
   go_wp2_with fail
   refine (eo i _).mono ?_
   rintro e w1 ⟨rfl, rfl⟩
   rw [dI]
   go_wp2_with fail
   refine (ch s _).mono ?_
   rintro e w1 ⟨rfl, rfl⟩
   rw [dS]
   go_wp2_with fail
   go_ret2
   exact bx (uh HF) (by omega) (uh HB _)
  | true =>
   have dQ : (decide (1 ≤ q) && decide (q ≤ 999)) = false := by rw [dI, dS] at hbb; simpa using hbb
   clear hbb
   go_enter Tryz.func236, Tryz.ntmps236
   go_wp2_with fail
   refine (eo i _).mono ?_
   rintro e w1 ⟨rfl, rfl⟩
   rw [dI]
   go_wp2_with fail
   refine (ch s _).mono ?_
   rintro e w1 ⟨rfl, rfl⟩
   rw [dS]
   go_wp2_with fail
   refine (gC q _).mono ?_
   rintro e w1 ⟨rfl, rfl⟩
   rw [dQ]
   go_wp2_with fail
   go_ret2
   exact bx (uh HF) (by omega) (uh HB _)
theorem eG (i : Int) (ao : Option Addr) (cap : Nat) (s q : Int) (w : World) (hb : ¬ kv i s q) :
  Calls Tryz.prog 236 #[.agg #[.int .i64 2, .int .i64 i, .slice ao 0 cap, .int .i64 s, .int .i64 q]] w fun e w' => bW w w' e 2 i [] s q := by
 have HB : Hid (∀ o, Below w.heap.size w (w.alloc o)) := fun o => (Below.refl _ _).alloc (Nat.le_refl _) o
 have HF : Hid (al 2 i [] s q = 3) := fQ rfl hb
 have hbb := eP hb
 unfold bU at hbb
 clear hb
 cases dI : (decide (1 ≤ i) && decide (i ≤ 999)) with
 | false =>
  clear hbb
  go_enter Tryz.func236, Tryz.ntmps236
  go_wp2_with fail
  refine (eo i _).mono ?_
  rintro e w1 ⟨rfl, rfl⟩
  rw [dI]
  go_wp2_with fail
  go_ret2
  exact bx (uh HF) (by omega) (uh HB _)
 | true =>
  cases dS : (decide (1 ≤ s) && decide (s ≤ 9)) with
  | false =>
   clear hbb
   go_enter Tryz.func236, Tryz.ntmps236
   go_wp2_with fail
   refine (eo i _).mono ?_
   rintro e w1 ⟨rfl, rfl⟩
   rw [dI]
   go_wp2_with fail
   refine (ch s _).mono ?_
   rintro e w1 ⟨rfl, rfl⟩
   rw [dS]
   go_wp2_with fail
   go_ret2
   exact bx (uh HF) (by omega) (uh HB _)
  | true =>
   have dQ : (decide (1 ≤ q) && decide (q ≤ 999)) = false := by rw [dI, dS] at hbb; simpa using hbb
   clear hbb
   go_enter Tryz.func236, Tryz.ntmps236
   go_wp2_with fail
   refine (eo i _).mono ?_
   rintro e w1 ⟨rfl, rfl⟩
   rw [dI]
   go_wp2_with fail
   refine (ch s _).mono ?_
   rintro e w1 ⟨rfl, rfl⟩
   rw [dS]
   go_wp2_with fail
   refine (gC q _).mono ?_
   rintro e w1 ⟨rfl, rfl⟩
   rw [dQ]
   go_wp2_with fail
   go_ret2
   exact bx (uh HF) (by omega) (uh HB _)
theorem ic (i : Int) (ao : Option Addr) (cap : Nat) (s q : Int) (w : World) (hb : kv i s q) :
  Calls Tryz.prog 236 #[.agg #[.int .i64 2, .int .i64 i, .slice ao 0 cap, .int .i64 s, .int .i64 q]] w fun e w' => bW w w' e 2 i [] s q := by
 have HB : Hid (∀ o, Below w.heap.size w (w.alloc o)) := fun o => (Below.refl _ _).alloc (Nat.le_refl _) o
 have HF : Hid (al 2 i [] s q = 0) := iB hb
 obtain ⟨⟨i1, i2⟩, ⟨s1, s2⟩, q1, q2⟩ := hb
 have dI : (decide (1 ≤ i) && decide (i ≤ 999)) = true := by simp [i1, i2]
 have dS : (decide (1 ≤ s) && decide (s ≤ 9)) = true := by simp [s1, s2]
 have dQ : (decide (1 ≤ q) && decide (q ≤ 999)) = true := by simp [q1, q2]
 go_enter Tryz.func236, Tryz.ntmps236
 go_wp2_with fail
 refine (eo i _).mono ?_
 rintro e w1 ⟨rfl, rfl⟩
 rw [dI]
 go_wp2_with fail
 refine (ch s _).mono ?_
 rintro e w1 ⟨rfl, rfl⟩
 rw [dS]
 go_wp2_with fail
 refine (gC q _).mono ?_
 rintro e w1 ⟨rfl, rfl⟩
 rw [dQ]
 go_wp2_with fail
 go_ret2
 exact er (uh HF) rfl (uh HB _)
theorem gT (i : Int) (ao : Option Addr) (cap n : Nat) (s q : Int) (zs : List Int) (w : World) (hn : zs.length = n + 1) :
  Calls Tryz.prog 236 #[.agg #[.int .i64 2, .int .i64 i, .slice ao (n + 1) cap, .int .i64 s, .int .i64 q]] w fun e w' => bW w w' e 2 i zs s q := by
 have B0 : ∀ o, Below w.heap.size w (w.alloc o) := fun o => (Below.refl _ _).alloc (Nat.le_refl _) o
 have HB := yh B0
 have hF : al 2 i zs s q = 1 := by
  have : cg 2 zs.length = false := by simp [cg]; omega
  rw [al, this]; rfl
 have HF := yh hF
 clear B0 hF hn
 go_enter Tryz.func236, Tryz.ntmps236
 go_wp2
 go_ret2
 exact bx (uh HF) (by omega) (uh HB _)
theorem iu (k i : Int) (ao : Option Addr) (cap : Nat) (s q : Int) (zs : List Int) (w : World) (h1 : k ≠ 1) (h2 : k ≠ 2) :
  Calls Tryz.prog 236 #[.agg #[.int .i64 k, .int .i64 i, .slice ao zs.length cap, .int .i64 s, .int .i64 q]] w fun e w' => bW w w' e k i zs s q := by
 have B0 : ∀ o, Below w.heap.size w (w.alloc o) := fun o => (Below.refl _ _).alloc (Nat.le_refl _) o
 have HB := yh B0
 have hF : al k i zs s q = 1 := by
  have : cg k zs.length = false := by simp [cg]; omega
  rw [al, this]; rfl
 have HF := yh hF
 clear B0 hF
 go_enter Tryz.func236, Tryz.ntmps236
 go_wp2
 go_ret2
 exact bx (uh HF) (by omega) (uh HB _)
theorem gr (v : Value) (zs : List Int) (w : World) (h : bh w v zs) :
  Calls Tryz.prog 263 #[v] w fun e w' => e = .returned (.tuple #[if aL zs = 0 then eb (zs.getD 0 0) (zs.getD 1 0) (zs.getD 2 0) else eb 0 0 0, .int .i64 (aL zs)]) ∧ Below w.heap.size w w' := by
 by_cases hf : aL zs = 0
 ·
  obtain ⟨hl, -⟩ := dA hf
  match zs, hl with
  | [x, y, z], _ =>
   rw [if_pos hf]
   refine (iv v x y z w h hf).mono ?_
   rintro e w' ⟨rfl, hb⟩
   exact ⟨by rw [hf]; rfl, hb⟩
 rw [if_neg hf]
 exact gy v zs w h hf
theorem iT (i : Int) (ao : Option Addr) (cap : Nat) (s q : Int) (zs : List Int) (w : World) (h : bh w (.slice ao zs.length cap) zs) (hb : kv i s q) :
  Calls Tryz.prog 236 #[.agg #[.int .i64 1, .int .i64 i, .slice ao zs.length cap, .int .i64 s, .int .i64 q]] w fun e w' => bW w w' e 1 i zs s q := by
 have B0 : Below w.heap.size w (w.alloc (.cells #[.int .i64 1, .int .i64 i, .slice ao zs.length cap, .int .i64 s, .int .i64 q] 142)) := (Below.refl _ _).alloc (Nat.le_refl _) _
 have HB := yh B0
 have H := yh (h.af B0)
 clear h B0
 have HF : Hid (al 1 i zs s q = aL zs) := j7 rfl hb
 obtain ⟨⟨i1, i2⟩, ⟨s1, s2⟩, q1, q2⟩ := hb
 have dI : (decide (1 ≤ i) && decide (i ≤ 999)) = true := by simp [i1, i2]
 have dS : (decide (1 ≤ s) && decide (s ≤ 9)) = true := by simp [s1, s2]
 have dQ : (decide (1 ≤ q) && decide (q ≤ 999)) = true := by simp [q1, q2]
 go_enter Tryz.func236, Tryz.ntmps236
 go_wp2_with fail
 refine (eo i _).mono ?_
 rintro e w1 ⟨rfl, rfl⟩
 rw [dI]
 go_wp2_with fail
 refine (ch s _).mono ?_
 rintro e w1 ⟨rfl, rfl⟩
 rw [dS]
 go_wp2_with fail
 refine (gC q _).mono ?_
 rintro e w1 ⟨rfl, rfl⟩
 rw [dQ]
 go_wp2_with fail
 refine (gr _ zs _ (uh H)).mono ?_
 rintro e w1 ⟨rfl, hb1⟩
 have HB1 := yh ((uh HB).trans (hb1.mono (uh HB).size))
 have hz : w.heap.size ≤ w1.heap.size := (uh HB1).size
 clear HB hb1 H
 generalize hV : aL zs = F at *
 by_cases hf : F = 0
 ·
  subst hf
  rw [if_pos rfl]
  simp only [eb]
  go_wp2_with fail
  go_ret2
  refine er (uh HF) ?_ ?_
  ·
   rw [fO, if_pos rfl]; rfl
  exact (uh HB1).alloc hz _
 rw [if_neg hf]
 have hd : (F != 0) = true := by rw [bne_iff_ne]; exact hf
 have HN := yh hf
 clear hf
 simp only [eb]
 go_wp2_with fail
 go_ret2
 exact bx (uh HF) (uh HN) ((uh HB1).alloc hz _)
theorem ik (k i : Int) (v : Value) (s q : Int) (zs : List Int) (w : World) (h : bh w v zs) :
  Calls Tryz.prog 236 #[.agg #[.int .i64 k, .int .i64 i, v, .int .i64 s, .int .i64 q]] w fun e w' => bW w w' e k i zs s q := by
 have h' := h
 obtain ⟨ao, cap, rfl, -⟩ := h'
 by_cases h1 : k = 1
 ·
  subst h1
  by_cases hb : kv i s q
  ·
   exact iT i ao cap s q zs w h hb
  exact fq i ao cap s q zs w hb
 by_cases h2 : k = 2
 ·
  subst h2
  rcases Nat.eq_zero_or_pos zs.length with h0 | h0
  ·
   obtain rfl : zs = [] := List.eq_nil_of_length_eq_zero h0
   by_cases hb : kv i s q
   ·
    exact ic i ao cap s q w hb
   exact eG i ao cap s q w hb
  obtain ⟨n, hn⟩ : ∃ n, zs.length = n + 1 := ⟨zs.length - 1, by omega⟩
  rw [hn]
  exact gT i ao cap n s q zs w hn
 exact iu k i ao cap s q zs w h1 h2
theorem la (x y z : Int) (w : World) :
  Calls Tryz.prog 243 #[eb x y z] w fun e w' => e = .returned (.slice (some ⟨w.heap.size + 1, 0, none⟩) 3 3) ∧
   (w.alloc (.cells #[.int .i64 x, .int .i64 y, .int .i64 z] 272)).alloc (.cells #[.int .i64 x, .int .i64 y, .int .i64 z] 2) = w' := by
 have hmk : ∀ w : World, (Instr.makeSlice 22 (.int .i64 3) (.int .i64 3)).run Tryz.prog w = .ok (.slice (some ⟨w.heap.size, 0, none⟩) 3 3) (w.alloc (.cells #[.int .i64 0, .int .i64 0, .int .i64 0] 2)) := fun _ => by kernel_rfl
 have i0 : ∀ w : World, (Instr.index 272 (.agg #[.int .i64 x, .int .i64 y, .int .i64 z]) (.int .i64 0)).run Tryz.prog w = .ok (.int .i64 x) w := fun _ => by kernel_rfl
 have i1 : ∀ w : World, (Instr.index 272 (.agg #[.int .i64 x, .int .i64 y, .int .i64 z]) (.int .i64 1)).run Tryz.prog w = .ok (.int .i64 y) w := fun _ => by kernel_rfl
 have i2 : ∀ w : World, (Instr.index 272 (.agg #[.int .i64 x, .int .i64 y, .int .i64 z]) (.int .i64 2)).run Tryz.prog w = .ok (.int .i64 z) w := fun _ => by kernel_rfl
 simp only [eb]
 go_enter Tryz.func243, Tryz.ntmps243
 go_wp2
 refine wp_loop_rounds 4 ?_
 rw [rounds_succ]
 go_wp2
 rw [rounds_succ]
 go_wp2
 rw [rounds_succ]
 go_wp2
 rw [rounds_succ]
 go_wp2
 go_ret
 exact ⟨rfl, rfl⟩
theorem km (v : Value) (w : World) : (Instr.typeAssert (.iface 294 v) 259 298 true).run Tryz.prog w = .ok (.tuple #[.agg #[.int .i64 0, .int .i64 0, .int .i64 0], .bool false]) w := by kernel_rfl
theorem ko (v : Value) (w : World) : (Instr.typeAssert (.iface 294 v) 259 294 true).run Tryz.prog w = .ok (.tuple #[v, .bool true]) w := by kernel_rfl
theorem gm (i s q : Int) (w : World) :
  Calls Tryz.prog 254 #[ki, .int .i64 i, .int .i64 s, .int .i64 q] w fun e w' => e = .returned (.agg #[.int .i64 2, .int .i64 i, .slice none 0 0, .int .i64 s, .int .i64 q]) ∧ Below w.heap.size w w' := by
 have a1 := km
 have a2 := ko
 have HB : Hid (∀ o o' o'', Below w.heap.size w (((w.alloc o).alloc o').alloc o'')) := fun o o' o'' => (((Below.refl _ _).alloc (Nat.le_refl _) _).alloc (by simp) _).alloc (by simp; omega) _
 simp only [ki] at *
 go_enter Tryz.func254, Tryz.ntmps254
 go_wp2_with fail
 refine bodyPost_ret (v := .agg #[.int .i64 2, .int .i64 i, .slice none 0 0, .int .i64 s, .int .i64 q]) (by simp [results, Tryz.results254, go_sem]) rfl ?_
 exact ⟨rfl, uh HB _ _ _⟩
theorem j5 (v : Value) (w : World) : (Instr.typeAssert (.iface 298 v) 259 298 true).run Tryz.prog w = .ok (.tuple #[v, .bool true]) w := by kernel_rfl
theorem kS (x y z : Int) (w : World) :
  Calls Tryz.prog 243 #[.agg #[.int .i64 x, .int .i64 y, .int .i64 z]] w fun e w' => ∃ a c, e = .returned (.slice a 3 c) ∧ w'.ownsRow w.heap.size 2 1 (.slice a 3 c) 3 [.int .i64 x, .int .i64 y, .int .i64 z] ∧ Below w.heap.size w w' := by
 refine (la x y z w).mono ?_
 rintro e w' ⟨rfl, rfl⟩
 exact ⟨_, _, rfl, kr (W := w.alloc (.cells #[.int .i64 x, .int .i64 y, .int .i64 z] 272)) (base := w.heap.size) (T := 2) (by simp) (by simp), ((Below.refl _ _).alloc (Nat.le_refl _) _).alloc (by simp) _⟩
theorem lR {w w1 : World} {sx : Nat} {u : Value} {xs : List Value} {B : Nat} {vs : List Value} (hsx : w.heap.size < sx) (hB : sx < B) (O : w1.ownsRow B 2 1 u 3 xs) (hb : Below w.heap.size w w1) :
  (bg (w1.setCell ⟨sx, 2, none⟩ u) w.heap.size 0 vs).ownsRow B 2 1 u 3 xs ∧ Below w.heap.size w (bg (w1.setCell ⟨sx, 2, none⟩ u) w.heap.size 0 vs) := by
 have h1 := dO (a := ⟨sx, 2, none⟩) O (by simpa using hB) u
 have h2 : Below w.heap.size w (w1.setCell ⟨sx, 2, none⟩ u) := hb.setCell (by simp; omega) _
 refine ⟨?_, bD h2 _ _ _ (Nat.le_refl _)⟩
 have : ∀ (l : List Value) (i : Nat) (W : World), W.ownsRow B 2 1 u 3 xs → (bg W w.heap.size i l).ownsRow B 2 1 u 3 xs := by
  intro l
  induction l with
  | nil => intro i W h; exact h
  | cons v l ih => intro i W h; exact ih (i + 1) _ (dO (a := ⟨w.heap.size, i, none⟩) h (by simp; omega) v)
 exact this vs 0 _ h1
theorem ir (x y z i s q : Int) (w : World) :
  Calls Tryz.prog 254 #[lT x y z, .int .i64 i, .int .i64 s, .int .i64 q] w fun e w' => ∃ a c, e = .returned (.agg #[.int .i64 1, .int .i64 i, .slice a 3 c, .int .i64 s, .int .i64 q]) ∧ w'.ownsRow w.heap.size 2 1 (.slice a 3 c) 3 [.int .i64 x, .int .i64 y, .int .i64 z] ∧ Below w.heap.size w w' := by
 have a1 := j5
 have L := yh (fun W => kS x y z W)
 simp only [lT] at *
 go_enter Tryz.func254, Tryz.ntmps254
 go_wp2_with fail
 obtain ⟨W, hW⟩ : ∃ W, W = ((w.alloc (.cells #[.int .i64 0, .int .i64 0, .slice none 0 0, .int .i64 0, .int .i64 0] 142)).alloc (.cells #[.int .i64 1, .int .i64 i, .slice none 0 0, .int .i64 s, .int .i64 q] 142)).alloc (.cells #[.int .i64 x, .int .i64 y, .int .i64 z] 298) := ⟨_, rfl⟩
 have n1 : Below w.heap.size w (w.alloc (.cells #[.int .i64 0, .int .i64 0, .slice none 0 0, .int .i64 0, .int .i64 0] 142)) := (Below.refl _ _).alloc (Nat.le_refl _) _
 have bR : ar 0 #[.int .i64 0, .int .i64 0, .slice none 0 0, .int .i64 0, .int .i64 0] 142 W w.heap.size := by rw [hW]; exact ((aM (Nat.zero_le _)).grow _).grow _
 have bX : ar 0 #[.int .i64 1, .int .i64 i, .slice none 0 0, .int .i64 s, .int .i64 q] 142 W (w.heap.size + 1) := by rw [hW]; exact (aX (by omega) (by simp)).grow _
 have HB : Hid (Below w.heap.size w W) := by rw [hW]; exact (n1.alloc (by simp) _).alloc (by simp; omega) _
 rw [← hW]
 clear hW n1
 refine (uh L _).mono ?_
 rintro e w1 ⟨a, c, rfl, O, hb⟩
 have hsx : w.heap.size < w.heap.size + 1 := by omega
 generalize w.heap.size + 1 = sx at *
 have hX := bX.lt
 replace bR := bR.au hb
 replace bX := bX.au hb
 replace HB := bZ HB hb
 have x0 := bX.at 0 _ rfl
 have x1 := bX.at 1 _ rfl
 have x2 := bX.at 2 _ rfl
 have x3 := bX.at 3 _ rfl
 have x4 := bX.at 4 _ rfl
 have xf := bX.soft
 have xl := bX.lt
 have r0 := bR.at 0 _ rfl
 have r1 := bR.at 1 _ rfl
 have r2 := bR.at 2 _ rfl
 have r3 := bR.at 3 _ rfl
 have r4 := bR.at 4 _ rfl
 have rf := bR.soft
 have rl := bR.lt
 have HO := yh O
 clear bR bX hb O L
 simp only [ga, gb, gc] at x0 x1 x2 x3 x4 r0 r1 r2 r3 r4
 go_wp2_with fail
 refine bodyPost_ret (v := .agg #[.int .i64 1, .int .i64 i, .slice a 3 c, .int .i64 s, .int .i64 q]) (by simp [results, Tryz.results254, go_sem, r0, r1, r2, r3, r4]) rfl ?_
 obtain ⟨s1, s2⟩ := lR (vs := [.int .i64 1, .int .i64 i, .slice a 3 c, .int .i64 s, .int .i64 q]) hsx hX (uh HO) (uh HB)
 exact ⟨a, c, rfl, kD (by omega) s1, s2⟩
theorem kH (x : ak) (w : World) (hf : wF x = 0) :
  Calls Tryz.prog 254 #[fO x.kind x.vec, .int .i64 x.id, .int .i64 x.aa, .int .i64 x.seq] w fun e w' => ∃ cs, e = .returned (.agg cs.toArray) ∧ ad.ag.a0 w' cs x w.heap.size w'.heap.size ∧ Below w.heap.size w w' := by
 obtain ⟨kd, id, vec, ss, sq⟩ := x
 obtain ⟨hi, hs, hq, hk⟩ := cW hf
 simp only at hi hs hq hk
 have w1 : (Lit.int .i64 id).wf = true := cY (by omega)
 have w3 : (Lit.int .i64 ss).wf = true := cY (by omega)
 have w4 : (Lit.int .i64 sq).wf = true := cY (by omega)
 rcases hk with ⟨rfl, hv⟩ | ⟨rfl, hv⟩
 ·
  obtain ⟨hl, hb⟩ := dA hv
  match vec, hl with
  | [p, q, r], _ =>
   refine (ir p q r id ss sq w).mono ?_
   rintro e w' ⟨a, c, rfl, hO, hb2⟩
   have hO2 := ad.jk (zs := [p, q, r]) (fun z hz => cY (by have h0 := hb 0 (by decide); have h1 := hb 1 (by decide); have h2 := hb 2 (by decide); simp at h0 h1 h2 hz; omega)) (by simp) hO
   obtain ⟨bl, O, hr⟩ := hO2
   exact ⟨_, rfl, ⟨bl, eF (x := ⟨1, id, [p, q, r], ss, sq⟩) O (show (Lit.int .i64 1).wf = true by decide) w1 w3 w4 O.2.1, hr⟩, hb2⟩
 subst hv
 refine (gm id ss sq w).mono ?_
 rintro e w' ⟨rfl, hb2⟩
 exact ⟨_, rfl, ⟨[], eF (x := ⟨2, id, [], ss, sq⟩) (c2 := [.slice none 0 0]) ⟨⟨none, 0, rfl, by simp, Or.inl ⟨rfl, rfl⟩⟩, by simp, by simp⟩ (show (Lit.int .i64 2).wf = true by decide) w1 w3 w4 (by simp), by simp⟩, hb2⟩
end Go.Proofs.YtecagllmonckgaaGreat

namespace Go.Proofs.YtecagllmonckgaaGreat
open Go.RowKit Go.ChangeShapes Go.WideShapes
def cV {α : Type} (A : ad α) (t : TypeId) : Prop :=
 ∀ {H : Type} (enc : TypeId × Value → H) (W : World) (base : Nat) (spare : Nat → Bool) (held : Bool) (fuel : Nat) (cs : List Value) (x : DataW H × List MemPlace), DataW.trod enc Tryz.prog W base spare held fuel t cs = some x → ∃ y, A.Reads W cs y
theorem ax {α β : Type} {A : ad α} {B : ad β} {W : World} {c1 c2 : List Value} {x : α} {y : β} (h : A.Reads W c1 x) (k : B.Reads W c2 y) : (ad.pair A B).Reads W (c1 ++ c2) (x, y) := by
 obtain ⟨b1, h⟩ := h
 obtain ⟨b2, k⟩ := k
 exact ⟨b1 ++ b2, c1, c2, b1, b2, rfl, rfl, h, k⟩
theorem aG {t : TypeId} (ht : Tryz.prog.underlying t = some (.int .i64)) : cV ad.int t := by
 intro H enc W base spare held fuel cs x h
 obtain ⟨n, rfl, -, hw⟩ := DataW.trod_int ht h
 exact ⟨n, [], rfl, hw, rfl⟩
theorem iN {t : TypeId} (ht : Tryz.prog.underlying t = some .bool) : cV ad.bool t := by
 intro H enc W base spare held fuel cs x h
 obtain ⟨b, rfl, -⟩ := DataW.trod_bool ht h
 exact ⟨b, [], rfl, rfl⟩
theorem cf {α : Type} {A : ad α} {t e : TypeId} (ht : Tryz.prog.underlying t = some (.slice e)) (hn : Tryz.prog.cellsOf e = A.n) (h0 : 0 < A.n) (h : cV A e) : cV (ad.sl A) t := by
 intro H enc W base spare held fuel cs x hx
 rcases Go.Deep.open_slice ht hx with ⟨rfl, -⟩ | ⟨a, len, cap, m, n, D, Pl, rfl, hb, hl, hm, hmm, -, hel⟩
 ·
  exact ⟨[], [], none, 0, rfl, ⟨Nat.le_refl _, by simp⟩, Or.inl ⟨rfl, rfl⟩⟩
 have hlm : len ≤ m := by rw [hmm]; split <;> omega
 rw [hn] at hel
 have each : ∀ i, i < len → ∃ q : List Value × α, (∀ j, j < A.n → W.cell? (a.add (i * A.n + j)) = q.1[j]?) ∧ q.1.length = A.n ∧ A.Reads W q.1 q.2 := by
  intro i hi
  obtain ⟨cs', h1, h2⟩ := hel i (by omega)
  obtain ⟨-, hlen, hc⟩ := World.cells?_some h1
  obtain ⟨y, hy⟩ := h enc W base spare held n cs' _ h2
  refine ⟨(cs', y), fun j hj => ?_, hlen, hy⟩
  have := hc j hj
  rw [Addr.add_add] at this
  exact this
 by_cases hp : 0 < len
 ·
  obtain ⟨b, off, spot⟩ := a
  obtain ⟨q0, c0, l0, -⟩ := each 0 hp
  have hc0 := c0 0 h0
  have hs0 : ∃ v, W.cell? ((⟨b, off, spot⟩ : Addr).add (0 * A.n + 0)) = some v := ⟨_, hc0.trans (List.getElem?_eq_getElem (by omega))⟩
  obtain ⟨v0, hv0⟩ := hs0
  have hspot : spot = none := by simpa [Addr.add] using World.cell?_spot hv0
  subst hspot
  have hbl : b < W.heap.size := by
   have := World.block_lt_of_cell? _ _ hv0
   simpa [Addr.add] using this
  have pick : ∃ f : (i : Nat) → i < len → List Value × α, ∀ i (hi : i < len), (∀ j, j < A.n → W.cell? ((⟨b, off, none⟩ : Addr).add (i * A.n + j)) = (f i hi).1[j]?) ∧ (f i hi).1.length = A.n ∧ A.Reads W (f i hi).1 (f i hi).2 :=
   ⟨fun i hi => Classical.choose (each i hi), fun i hi => Classical.choose_spec (each i hi)⟩
  obtain ⟨f, hf⟩ := pick
  have pick2 : ∃ g : (i : Nat) → i < len → List Nat, ∀ i (hi : i < len), A.bt W (f i hi).1 (f i hi).2 (g i hi) :=
   ⟨fun i hi => Classical.choose (hf i hi).2.2, fun i hi => Classical.choose_spec (hf i hi).2.2⟩
  obtain ⟨g, hg⟩ := pick2
  refine ⟨(List.finRange len).map (fun i => (f i.1 i.2).2), b :: ((List.finRange len).map (fun i => g i.1 i.2)).flatten, some ⟨b, off, none⟩, cap, by simp, ⟨by simpa using hl, by simp; unfold maxLen at hm; omega⟩, Or.inr ⟨b, off, (List.finRange len).map (fun i => (f i.1 i.2).1), (List.finRange len).map (fun i => g i.1 i.2), rfl, hbl, rfl, by simp, by simp, fun j h1 h2 h3 => ?_⟩⟩
  have hj : j < len := by simpa using h1
  refine ⟨fun k hk => ?_, ?_⟩
  ·
   have := (hf j hj).1 k hk
   rw [Addr.add_lit] at this
   simpa [Nat.add_assoc] using this
  simpa using hg j hj
 obtain rfl : len = 0 := by omega
 exact ⟨[], [], some a, cap, rfl, ⟨hl, by simp⟩, Or.inl ⟨rfl, rfl⟩⟩
theorem il {α : Type} {A : ad α} {t : TypeId} (O : cV A t) {H : Type} {enc : TypeId × Value → H} {W : World} {base : Nat} {spare : Nat → Bool} {held : Bool} {cs : Array Value} {d : DataW H} {p : List MemPlace}
  (h : DataW.Trod enc Tryz.prog W base spare held t (.agg cs) d p) : ∃ y, A.Reads W cs.toList y := by
 obtain ⟨fuel, hf⟩ := h
 exact O enc W base spare held fuel _ _ (by simpa [Value.cells] using hf)
end Go.Proofs.YtecagllmonckgaaGreat
