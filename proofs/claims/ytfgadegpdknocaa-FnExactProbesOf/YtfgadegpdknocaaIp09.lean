/-
  Texts of this proof in one: ListsFill, FirstPlain, ImplFirstOf, CenScoreC, CenRow, ImplCmp, ImplId, ImplTab, MapTab.
  Their conditions stand in their theorems.
-/
import Derived.Test.YtfgadegpdknocaaIp08
import Derived.Test.YtfgadegpdknocaaIp06
import Derived.Test.YtfgadegpdknocaaChecked
import Derived.Test.YtfgadegpdknocaaIp01
import Derived.Deep.RegionHeld3
import Derived.Test.YtfgadegpdknocaaIp02
import Derived.Test.YtfgadegpdknocaaIp05
import Derived.BigQuiet
import Derived.Deep.QuietTactic

namespace Go.Proofs.Ytfgadegpdknocaa
open Go.RowKit

/-- A list of items of the call's own; its blocks are B. -/
def GrowO (w : World) (lo : Nat) (v : Value) (ys : List DItem) (B : List Nat) : Prop :=
  ∃ rows bls, Grow Lay.tItem w lo 106 v rows ys bls ∧ bls.flatten.Nodup ∧ (∀ b ∈ bls.flatten, lo ≤ b ∧ ∀ o, w.frozen? ⟨b, o, none⟩ = false) ∧ B = v.ownBlock.toList ++ bls.flatten
theorem GrowO.nil (w : World) (lo : Nat) : GrowO w lo (.slice none 0 0) [] [] :=
  ⟨[], [], Grow.nil (World.ownsRow_nil _ _ _ _), by simp, by simp, by simp [Value.ownBlock]⟩
theorem own_kept {w w' : World} {base T sz : Nat} {v : Value} {n : Nat} {xs : List Value} (h : w.ownsRow base T sz v n xs) (hk : ∀ c, v.ownBlock = some c → w'.heap[c]? = w.heap[c]?) : w'.ownsRow base T sz v n xs := by
  refine ⟨h.1, ?_⟩
  rcases h.2 with h2 | ⟨g, cap, cur, hv, hg, hh, r⟩
  · exact Or.inl h2
  · exact Or.inr ⟨g, cap, cur, hv, hg, (hk g (by rw [hv]; rfl)).trans hh, r⟩
theorem GrowO.keep {w w' : World} {lo : Nat} {v : Value} {ys : List DItem} {B : List Nat} (h : GrowO w lo v ys B) (hk : ∀ b ∈ B, w'.heap[b]? = w.heap[b]?) : GrowO w' lo v ys B := by
  obtain ⟨rows, bls, h1, h2, h3, rfl⟩ := h
  have k1 : ∀ b ∈ bls.flatten, w'.heap[b]? = w.heap[b]? := fun b hb => hk b (List.mem_append.2 (Or.inr hb))
  exact ⟨rows, bls, h1.kept (own_kept h1.own fun c hc => hk c (List.mem_append.2 (Or.inl (by rw [hc]; simp)))) k1, h2, fun b hb => ⟨(h3 b hb).1, fun o => (frozen_of_heap (k1 b hb) o).trans ((h3 b hb).2 o)⟩, rfl⟩
theorem GrowO.lt {w : World} {lo : Nat} {v : Value} {ys : List DItem} {B : List Nat} (h : GrowO w lo v ys B) : ∀ b ∈ B, lo ≤ b ∧ b < w.heap.size := by
  obtain ⟨rows, bls, h1, h2, h3, rfl⟩ := h
  intro b hb
  rcases List.mem_append.1 hb with hb | hb
  · exact h1.own.lt b (by simpa using hb)
  · exact ⟨(h3 b hb).1, h1.sub_lt b hb⟩
theorem GrowO.done {w : World} {lo : Nat} {v : Value} {ys : List DItem} {B : List Nat} (h : GrowO w lo v ys B) (hn : ys.length ≤ 1000) : ∃ bl, (Lay.sl Lay.tItem).lies w [v] ys bl ∧ bl.Nodup ∧ (∀ b ∈ bl, ∀ o, w.frozen? ⟨b, o, none⟩ = false) ∧ ∀ b ∈ bl, b ∈ B := by
  obtain ⟨rows, bls, h1, h2, h3, rfl⟩ := h
  have hr := h1.reads (by omega)
  rcases h1.form with ⟨rfl, rfl⟩ | ⟨g, cap, rfl, hg, hgl, hcap⟩
  · exact ⟨[], ⟨none, 0, rfl, ⟨by simp, by simp⟩, Or.inl ⟨rfl, rfl⟩⟩, by simp, by simp, by simp⟩
  · by_cases h0 : ys = []
    · subst h0
      exact ⟨[], ⟨_, cap, rfl, ⟨hcap, by simp⟩, Or.inl ⟨rfl, rfl⟩⟩, by simp, by simp, by simp⟩
    · simp only [if_neg h0] at hr
      rcases hr with hr | ⟨h4, -⟩
      · refine ⟨_, hr, ?_, ?_, ?_⟩
        · rw [List.nodup_cons]
          exact ⟨fun hm => h1.off g hm rfl, h2⟩
        · intro b hm o
          rcases List.mem_cons.1 hm with rfl | hm
          · exact h1.own.frozenAt o
          · exact (h3 b hm).2 o
        · intro b hm
          rcases List.mem_cons.1 hm with rfl | hm
          · simp [Value.ownBlock]
          · exact List.mem_append.2 (Or.inr hm)
      · exact absurd h4 h0

/-- A row with data behind it, in blocks from lo on. -/
theorem subs_own {α : Type} {A : Lay α} {w : World} {rows : List (List Value)} {xs : List α} {base T g cap lo hi : Nat} (hown : w.ownsRow base T A.n (.slice (some ⟨g, 0, none⟩) xs.length cap) xs.length rows.flatten) (h : Lay.Subs A w rows xs lo hi) (hg : g < lo) (hn : xs.length ≤ 9223372036854775807) :
    ∃ bl, (Lay.sl A).Own w [.slice (some ⟨g, 0, none⟩) xs.length cap] xs bl ∧ ∀ b ∈ bl, b = g ∨ lo ≤ b := by
  obtain ⟨bls, hr, hb, hl, hnd, hi', hf⟩ := h
  have hG : Grow A w base T (.slice (some ⟨g, 0, none⟩) xs.length cap) rows xs bls := ⟨hown, hr, hb, hl, fun b hm e => by
    have e2 : g = b := by simpa [Value.ownBlock] using e
    have := (hi' b hm).1
    omega⟩
  have hrd := hG.reads hn
  by_cases h0 : xs = []
  · subst h0
    rcases hG.form with ⟨e, -⟩ | ⟨g2, cap2, e, -, -, hcap⟩
    · cases e
    · exact ⟨[], ⟨⟨_, cap, rfl, ⟨by simp, by simp⟩, Or.inl ⟨rfl, rfl⟩⟩, by simp, by simp⟩, by simp⟩
  · simp only [if_neg h0] at hrd
    rcases hrd with hrd | ⟨h4, -⟩
    · refine ⟨_, ⟨hrd, ?_, ?_⟩, ?_⟩
      · rw [List.nodup_cons]
        exact ⟨fun hm => hG.off g hm rfl, hnd⟩
      · intro b hm o
        rcases List.mem_cons.1 hm with rfl | hm
        · exact hown.frozenAt o
        · exact hf b hm o
      · intro b hm
        rcases List.mem_cons.1 hm with rfl | hm
        · exact Or.inl rfl
        · exact Or.inr (hi' b hm).1
    · exact absurd h4 h0
/-- The row in block GL holds n lists; list i holds f i. -/
def ListsO (w : World) (GL lo n : Nat) (f : Nat → List DItem) : Prop :=
  (GL < lo ∧ lo ≤ w.heap.size) ∧ ∃ (vs : List Value) (B : Nat → List Nat), w.ownsRow GL 147 1 (.slice (some ⟨GL, 0, none⟩) n n) n vs ∧ (∀ i (h : i < vs.length), GrowO w lo vs[i] (f i) (B i)) ∧ ∀ i j, i < vs.length → j < vs.length → i ≠ j → ∀ b ∈ B i, b ∉ B j
theorem ListsO.start {w : World} {GL lo n : Nat} (hlo : GL < lo ∧ lo ≤ w.heap.size) (h : w.ownsRow GL 147 1 (.slice (some ⟨GL, 0, none⟩) n n) n (List.replicate n (.slice none 0 0))) : ListsO w GL lo n fun _ => [] :=
  ⟨hlo, _, fun _ => [], h, fun i hi => by rw [List.getElem_replicate]; exact GrowO.nil _ _, by simp⟩
theorem ListsO.later {w w' : World} {GL lo n : Nat} {f : Nat → List DItem} (h : ListsO w GL lo n f) (hb : Below w.heap.size w w') : ListsO w' GL lo n f := by
  obtain ⟨hlo, vs, B, h1, h2, h3⟩ := h
  exact ⟨⟨hlo.1, Nat.le_trans hlo.2 hb.size⟩, vs, B, own_below h1 hb, fun i hi => (h2 i hi).keep fun b hm => hb.block b ((h2 i hi).lt b hm).2, h3⟩
theorem ListsO.kept {w w' : World} {GL lo n : Nat} {f : Nat → List DItem} (h : ListsO w GL lo n f) (hz : w.heap.size ≤ w'.heap.size) (hk : ∀ b, GL ≤ b → b < w.heap.size → w'.heap[b]? = w.heap[b]?) : ListsO w' GL lo n f := by
  obtain ⟨hlo, vs, B, h1, h2, h3⟩ := h
  exact ⟨⟨hlo.1, Nat.le_trans hlo.2 hz⟩, vs, B, own_kept h1 fun c hc => hk c (h1.lt c hc).1 (h1.lt c hc).2, fun i hi => (h2 i hi).keep fun b hm => hk b (by have := ((h2 i hi).lt b hm).1; have := hlo.1; omega) ((h2 i hi).lt b hm).2, h3⟩
theorem ListsO.congr {w : World} {GL lo n : Nat} {f g : Nat → List DItem} (h : ListsO w GL lo n f) (e : ∀ i, i < n → f i = g i) : ListsO w GL lo n g := by
  obtain ⟨hlo, vs, B, h1, h2, h3⟩ := h
  have hl : vs.length = n * 1 := h1.1
  exact ⟨hlo, vs, B, h1, fun i hi => by rw [← e i (by omega)]; exact h2 i hi, h3⟩
theorem ListsO.open {w : World} {GL lo n : Nat} {f : Nat → List DItem} (h : ListsO w GL lo n f) {p : Nat} (hp : p < n) : ∃ v rows bls, w.cell? ⟨GL, p, none⟩ = some v ∧ w.frozen? ⟨GL, p, none⟩ = false ∧ Grow Lay.tItem w lo 106 v rows (f p) bls ∧
    ∀ (w1 w' : World) (row : List Value) (x : DItem) (bl : List Nat) (g cap : Nat), Below w.heap.size w w1 → Lay.tItem.Own w1 row x bl → (∀ b ∈ bl, w.heap.size ≤ b ∧ b < w1.heap.size) →
      Grow Lay.tItem w' lo 106 (.slice (some ⟨g, 0, none⟩) ((f p).length + 1) cap) (rows ++ [row]) (f p ++ [x]) (bls ++ [bl]) → Ext (fun q => v.ownBlock = some q) w1 w' → (v.ownBlock = some g ∨ w1.heap.size ≤ g) →
      ListsO (w'.setCell ⟨GL, p, none⟩ (.slice (some ⟨g, 0, none⟩) ((f p).length + 1) cap)) GL lo n fun i => if i = p then f p ++ [x] else f i := by
  obtain ⟨hlo, vs, B, h1, h2, h3⟩ := h
  have hl : vs.length = n * 1 := h1.1
  have hp' : p < vs.length := by omega
  obtain ⟨rows, bls, g1, g2, g3, g4⟩ := h2 p hp'
  refine ⟨vs[p], rows, bls, ?_, h1.frozenAt p, g1, ?_⟩
  · rw [h1.cellAt p (by omega)]
    exact List.getElem?_eq_getElem hp'
  intro w1 w' row x bl g cap hb ho hbl hG hE hor
  have hGL := (h1.lt GL rfl).2
  have hlo1 := hlo.1
  have hlo2 := hlo.2
  have hs1 := hb.size
  have hvo : ∀ c, vs[p].ownBlock = some c → c ∈ B p := fun c hc => by rw [g4]; exact List.mem_append.2 (Or.inl (by rw [hc]; simp))
  have hlt : ∀ i (hi : i < vs.length), ∀ b ∈ B i, lo ≤ b ∧ b < w.heap.size := fun i hi => (h2 i hi).lt
  have kp : ∀ b, b < w.heap.size → b ∉ B p → (w'.setCell ⟨GL, p, none⟩ (.slice (some ⟨g, 0, none⟩) ((f p).length + 1) cap)).heap[b]? = w.heap[b]? ∨ b = GL := fun b hb1 hb2 => by
    by_cases e : b = GL
    · exact Or.inr e
    · refine Or.inl ?_
      rw [heap_setCell_other _ _ _ _ (by simpa using e)]
      exact (hE.block b (by omega) fun hq => hb2 (hvo b hq)).trans (hb.block b hb1)
  have hGLp : GL ∉ B p := fun hm => by have := (hlt p hp' GL hm).1; omega
  have hG' : w'.heap[GL]? = w.heap[GL]? := (hE.block GL (by omega) fun hq => hGLp (hvo GL hq)).trans (hb.block GL hGL)
  have o1 : w'.ownsRow GL 147 1 (.slice (some ⟨GL, 0, none⟩) n n) n vs := own_kept h1 fun c hc => by
    obtain rfl : GL = c := by simpa [Value.ownBlock] using hc
    exact hG'
  have o2 := own_setAll o1 p [.slice (some ⟨g, 0, none⟩) ((f p).length + 1) cap]
  have hgw := (hG.own.lt g rfl)
  have hgG : g ≠ GL := by have := hgw.1; omega
  have nb : ∀ b ∈ bl, b ≠ GL ∧ w'.heap[b]? = w1.heap[b]? := fun b hm => ⟨by have := hbl b hm; omega, hE.block b (hbl b hm).2 fun hq => by have := (hlt p hp' b (hvo b hq)).2; have := (hbl b hm).1; omega⟩
  have ob : ∀ b ∈ bls.flatten, b ≠ GL ∧ b < w.heap.size ∧ w'.heap[b]? = w.heap[b]? := fun b hm => by
    have hbB : b ∈ B p := by rw [g4]; exact List.mem_append.2 (Or.inr hm)
    have hbl2 := hlt p hp' b hbB
    exact ⟨by omega, hbl2.2, (hE.block b (by omega) fun hq => g1.off b hm hq).trans (hb.block b hbl2.2)⟩
  refine ⟨⟨hlo.1, by have := hE.size; simp; omega⟩, vs.set p (.slice (some ⟨g, 0, none⟩) ((f p).length + 1) cap), fun i => if i = p then g :: (bls ++ [bl]).flatten else B i, ?_, ?_, ?_⟩
  · have e : setFrom vs p [.slice (some ⟨g, 0, none⟩) ((f p).length + 1) cap] = vs.set p (.slice (some ⟨g, 0, none⟩) ((f p).length + 1) cap) := rfl
    rw [← e]
    exact o2
  · intro i hi
    have hi' : i < vs.length := by simpa using hi
    by_cases e : i = p
    · subst e
      rw [List.getElem_set_self]
      dsimp only
      rw [if_pos rfl, if_pos rfl]
      refine ⟨rows ++ [row], bls ++ [bl], hG.kept (own_kept hG.own fun c hc => ?_) fun b hm => ?_, ?_, fun b hm => ?_, rfl⟩
      · obtain rfl : g = c := by simpa [Value.ownBlock] using hc
        exact heap_setCell_other _ _ _ _ (by simpa using hgG)
      · rw [List.flatten_append] at hm
        rcases List.mem_append.1 hm with hm | hm
        · exact heap_setCell_other _ _ _ _ (by simpa using (ob b hm).1)
        · exact heap_setCell_other _ _ _ _ (by simpa using (nb b (by simpa using hm)).1)
      · rw [List.flatten_append, List.nodup_append]
        refine ⟨g2, by simpa using ho.2.1, fun b hm c hc => ?_⟩
        have h5 := (ob b hm).2.1
        have h6 := (hbl c (by simpa using hc)).1
        omega
      · rw [List.flatten_append] at hm
        rcases List.mem_append.1 hm with hm | hm
        · refine ⟨(g3 b hm).1, fun o => ?_⟩
          rw [World.frozen?_setCell, frozen_of_heap (ob b hm).2.2 o]
          exact (g3 b hm).2 o
        · have hm' : b ∈ bl := by simpa using hm
          refine ⟨by have := (hbl b hm').1; omega, fun o => ?_⟩
          rw [World.frozen?_setCell, frozen_of_heap (nb b hm').2 o]
          exact ho.2.2 b hm' o
    · rw [List.getElem_set_ne (fun h => e h.symm)]
      dsimp only
      rw [if_neg e, if_neg e]
      refine (h2 i hi').keep fun b hm => ?_
      have h5 := hlt i hi' b hm
      rcases kp b h5.2 (h3 i p hi' hp' e b hm) with h6 | h6
      · exact h6
      · omega
  · have key : ∀ i, i < vs.length → i ≠ p → ∀ b ∈ B i, b ∉ g :: (bls ++ [bl]).flatten := fun i hi e b hm hm2 => by
      have h5 := hlt i hi b hm
      rcases List.mem_cons.1 hm2 with rfl | hm2
      · rcases hor with h6 | h6
        · exact h3 i p hi hp' e b hm (hvo b h6)
        · omega
      · rw [List.flatten_append] at hm2
        rcases List.mem_append.1 hm2 with hm2 | hm2
        · exact h3 i p hi hp' e b hm (by rw [g4]; exact List.mem_append.2 (Or.inr hm2))
        · have := (hbl b (by simpa using hm2)).1; omega
    intro i j hi hj hij b hbi hbj
    have hi' : i < vs.length := by simpa using hi
    have hj' : j < vs.length := by simpa using hj
    simp only at hbi hbj
    by_cases e1 : i = p
    · by_cases e2 : j = p
      · omega
      · rw [if_pos e1] at hbi
        rw [if_neg e2] at hbj
        exact key j hj' e2 b hbj hbi
    · rw [if_neg e1] at hbi
      by_cases e2 : j = p
      · rw [if_pos e2] at hbj
        exact key i hi' e1 b hbi hbj
      · rw [if_neg e2] at hbj
        exact h3 i j hi' hj' hij b hbi hbj
theorem nodup_map {is : List Nat} (bl : Nat → List Nat) (h0 : is.Nodup) (h1 : ∀ i ∈ is, (bl i).Nodup) (h2 : ∀ i ∈ is, ∀ j ∈ is, i ≠ j → ∀ b ∈ bl i, b ∉ bl j) : (is.map bl).flatten.Nodup := by
  induction is with
  | nil => simp
  | cons i is ih =>
    rw [List.nodup_cons] at h0
    rw [List.map_cons, List.flatten_cons, List.nodup_append]
    refine ⟨h1 i (by simp), ih h0.2 (fun j hj => h1 j (by simp [hj])) (fun j hj k hk => h2 j (by simp [hj]) k (by simp [hk])), fun b hb c hc e => ?_⟩
    obtain ⟨l, hl, hcl⟩ := List.mem_flatten.1 hc
    obtain ⟨j, hj, rfl⟩ := List.mem_map.1 hl
    exact h2 i (by simp) j (by simp [hj]) (fun e => h0.1 (e ▸ hj)) b hb (e ▸ hcl)
theorem ListsO.done {w : World} {GL lo n : Nat} {f : Nat → List DItem} (h : ListsO w GL lo n f) (hn : n ≤ 1000) (hf : ∀ i, i < n → (f i).length ≤ 1000) : ∃ bl, (Lay.sl Lay.tIvfList).Own w [.slice (some ⟨GL, 0, none⟩) n n] ((List.range n).map fun i => ⟨f i⟩) bl ∧ ∀ b ∈ bl, b = GL ∨ lo ≤ b := by
  obtain ⟨hlo, vs, B, h1, h2, h3⟩ := h
  have hl : vs.length = n * 1 := h1.1
  have hl2 : vs.length = n := by omega
  have hbl : ∀ i : Nat, ∃ bl : List Nat, ∀ h : i < vs.length, (Lay.sl Lay.tItem).lies w [vs[i]] (f i) bl ∧ bl.Nodup ∧ (∀ b ∈ bl, ∀ o, w.frozen? ⟨b, o, none⟩ = false) ∧ ∀ b ∈ bl, b ∈ B i := fun i => by
    by_cases hi : i < vs.length
    · obtain ⟨bl, q⟩ := (h2 i hi).done (hf i (by omega))
      exact ⟨bl, fun _ => q⟩
    · exact ⟨[], fun h => absurd h hi⟩
  obtain ⟨bl, hq⟩ := Classical.axiomOfChoice hbl
  have hmem : ∀ b ∈ ((List.range n).map bl).flatten, ∃ i, ∃ _ : i < vs.length, b ∈ bl i := fun b hb => by
    obtain ⟨l, hl1, hb1⟩ := List.mem_flatten.1 hb
    obtain ⟨i, hi, rfl⟩ := List.mem_map.1 hl1
    exact ⟨i, by rw [hl2]; exact List.mem_range.1 hi, hb1⟩
  have hS : Lay.Subs Lay.tIvfList w (vs.map fun v => [v]) ((List.range n).map fun i => (⟨f i⟩ : DIvfList)) lo w.heap.size := by
    refine ⟨(List.range n).map bl, by simp [hl2], by simp, fun j j1 j2 j3 => ?_, ?_, fun b hb => ?_, fun b hb => ?_⟩
    · have hj : j < vs.length := by simpa using j2
      have := (hq j hj).1
      simp only [List.getElem_map, List.getElem_range]
      exact this
    · refine nodup_map bl List.nodup_range (fun i hi => (hq i (by rw [hl2]; exact List.mem_range.1 hi)).2.1) fun i hi j hj hij b hb1 hb2 => ?_
      have hi' : i < vs.length := by rw [hl2]; exact List.mem_range.1 hi
      have hj' : j < vs.length := by rw [hl2]; exact List.mem_range.1 hj
      exact h3 i j hi' hj' hij b ((hq i hi').2.2.2 b hb1) ((hq j hj').2.2.2 b hb2)
    · obtain ⟨i, hi, hm⟩ := hmem b hb
      exact (h2 i hi).lt b ((hq i hi).2.2.2 b hm)
    · obtain ⟨i, hi, hm⟩ := hmem b hb
      exact (hq i hi).2.2.1 b hm
  have hflat : (vs.map fun v => [v]).flatten = vs := by
    clear h1 h2 h3 hq hmem hS hl hl2 hbl
    induction vs with
    | nil => rfl
    | cons v vs ih => rw [List.map_cons, List.flatten_cons, ih]; rfl
  have hlen : ((List.range n).map fun i => (⟨f i⟩ : DIvfList)).length = n := by simp
  have hown : w.ownsRow GL 147 1 (.slice (some ⟨GL, 0, none⟩) ((List.range n).map fun i => (⟨f i⟩ : DIvfList)).length n) ((List.range n).map fun i => (⟨f i⟩ : DIvfList)).length (vs.map fun v => [v]).flatten := by rw [hflat, hlen]; exact h1
  obtain ⟨bl2, q1, q2⟩ := subs_own (A := Lay.tIvfList) hown hS hlo.1 (by rw [hlen]; omega)
  rw [hlen] at q1
  exact ⟨bl2, q1, q2⟩

end Go.Proofs.Ytfgadegpdknocaa

namespace Go.Proofs.Ytfgadegpdknocaa
open Go.RowKit

/-- The cells of placed lists. -/
def cellsP {m : Nat} (ia : Nat → Option Addr) (il ic : Nat → Nat) (zs : List (Pl m)) : List Value := (zs.map fun y => [Value.int .i64 (y.1 : Int), Value.slice (ia y.1) (il y.1) (ic y.1)]).flatten
theorem cellsP_snoc {m : Nat} (ia : Nat → Option Addr) (il ic : Nat → Nat) (zs : List (Pl m)) (y : Pl m) : cellsP ia il ic (zs ++ [y]) = cellsP ia il ic zs ++ [Value.int .i64 (y.1 : Int), Value.slice (ia y.1) (il y.1) (ic y.1)] := by simp [cellsP]
theorem own_grown {A B : World} {row : Option Nat} (h : A.grownBy B row) {n : Nat} (hr : ∀ r, row = some r → n ≤ r ∧ ∃ o : Obj, A.heap[r]? = some o ∧ o.isCells = false) {base T sz : Nat} {v : Value} {k : Nat} {xs : List Value} (ho : A.ownsRow base T sz v k xs) : B.ownsRow base T sz v k xs := by
  refine ⟨ho.1, ?_⟩
  rcases ho.2 with h2 | ⟨g, cap, cur, hv, hg, hh, r⟩
  · exact Or.inl h2
  · exact Or.inr ⟨g, cap, cur, hv, hg, grown_cells h hr hh (Or.inr rfl), r⟩
theorem own_cells {A : World} {base T sz : Nat} {v : Value} {k : Nat} {xs : List Value} (ho : A.ownsRow base T sz v k xs) {g : Nat} (hg : v.ownBlock = some g) {o : Obj} (hb : A.heap[g]? = some o) : o.isCells = true := by
  rcases ho.2 with ⟨rfl, -⟩ | ⟨g2, cap, cur, rfl, -, hh, -⟩
  · cases hg
  · have e : g2 = g := Option.some.inj hg
    rw [e] at hh
    rw [hh] at hb
    cases hb
    rfl
theorem own_form {A : World} {base T sz : Nat} {v : Value} {k : Nat} {xs : List Value} (ho : A.ownsRow base T sz v k xs) : ∃ a c, v = .slice a k c := by
  rcases ho.2 with ⟨rfl, rfl⟩ | ⟨g, cap, cur, rfl, -⟩
  · exact ⟨none, 0, rfl⟩
  · exact ⟨_, cap, rfl⟩
theorem listIn_op {P : Program} {ops : Array Oper} {Q : Exit → Act → World → Prop} {l n : Nat} {o : Oper} {rest : List Oper} {a : Act} {w : World} (hg : o.guard = none) (hd : noDefer o = true) (h : o.wp P a w (wpListIn (Fence.wide.inRound l) n P ops Q rest) Q) : wpListIn (Fence.wide.inRound l) n P ops Q (o :: rest) a w := by
  have hw : Region.wanted o (yielded ops a.tmps) = true := by simp [Region.wanted, hg]
  unfold wpListIn
  rw [if_pos hw]
  exact wp_in l n hd h

end Go.Proofs.Ytfgadegpdknocaa

namespace Go.Proofs.Ytfgadegpdknocaa
open Go.RowKit Go.Shelf
attribute [local go_sem] Oper.semAt_some

theorem infoPl : (Try.prog.info? 117).map (fun i => (i.zero, i.size, i.bytes)) = some (some (.agg #[.int .i64 0, .slice none 0 0]), 2, 32) := by kernel_rfl

set_option maxRecDepth 100000 in
set_option maxHeartbeats 8000000 in
theorem firstOfC {m : Nat} (zs : List (Pl m)) (ia : Nat → Option Addr) (il ic : Nat → Nat) (lb : Array Value) (n : Nat) (w : World) (hn : n ≤ 6) (hz : zs.length ≤ 6)
    (hseq : SeqStopsK Fence.wide 8 Try.prog 141 lb (fun x : Pl m => #[.agg #[.int .i64 (x.1 : Int), .slice (ia x.1) (il x.1) (ic x.1)]]) (KpS w.heap.size (fun _ => False)) (fun ys => ys = zs) (fun pre => pre <+: zs) zs.length w) :
    Calls Try.prog 122 #[.func (.func 141) #[] lb, .int .i64 (n : Int)] w fun e w' => ∃ v, e = .returned v ∧ w'.ownsRow w.heap.size 117 2 v (zs.take n).length (cellsP ia il ic (zs.take n)) ∧ Below w.heap.size w w' := by
  have nb : Below w.heap.size w ((w.alloc (.cells #[.int .i64 (n : Int)] 2)).alloc (.cells #[.slice none 0 0] 114)) := ((Below.refl _ _).alloc (Nat.le_refl _) _).alloc (by simp) _
  have bN : Box w.heap.size #[.int .i64 (n : Int)] 2 ((w.alloc (.cells #[.int .i64 (n : Int)] 2)).alloc (.cells #[.slice none 0 0] 114)) w.heap.size := (newBox (Nat.le_refl _)).grow _
  have bF : Box w.heap.size #[.slice none 0 0] 114 ((w.alloc (.cells #[.int .i64 (n : Int)] 2)).alloc (.cells #[.slice none 0 0] 114)) (w.heap.size + 1) := newBoxAt (by omega) (by simp)
  obtain ⟨i0, hi0, hz0, hz1, hz2⟩ := info_parts infoPl
  have HNB := hide nb
  refine (callsIn_wide (n := 9)).1 ?_
  refine callsIn_of_wp_marks Try.func122 rfl trivial ?_ rfl
  refine wpIn_wide.2 ?_
  simp only [Try.ntmps122, List.size_toArray, List.length_cons, List.length_nil, Nat.reduceAdd, Nat.reduceSub, Array.replicate_succ, Array.replicate_zero, List.push_toArray, List.append_toArray, List.nil_append, List.cons_append]
  go_wp2_with fail
  generalize (w.alloc (.cells #[.int .i64 (n : Int)] 2)).alloc (.cells #[.slice none 0 0] 114) = WL at *
  have hlw : w.heap.size + 1 < WL.heap.size := bF.lt
  refine wpIn_wide.1 (wpIn_rangeFunc_ownH (F := Fence.wide) (n := 9) rfl (by decide) (gf := 141) (lb := lb) rfl trivial (enters_of Try.func141 (by kernel_rfl) rfl)
    hseq KpS.trans (fun W l _ o' hl _ _ _ => KpS.put _ W l o' (by omega)) (unhide HNB) (fun _ => rfl)
    (fun pre W => (w.heap.size ≤ W.heap.size ∧ pre.length ≤ n) ∧ Box w.heap.size #[.int .i64 (n : Int)] 2 W w.heap.size ∧ (∃ v, Box w.heap.size #[v] 114 W (w.heap.size + 1) ∧ W.ownsRow (w.heap.size + 2) 117 2 v pre.length (cellsP ia il ic pre)) ∧ Below w.heap.size w W)
    (fun c pre W => c = .exit 0 ∧ ∃ pre' p v, pre = pre' ++ [p] ∧ pre'.length = n ∧ Box w.heap.size #[v] 114 W (w.heap.size + 1) ∧ W.ownsRow (w.heap.size + 2) 117 2 v pre'.length (cellsP ia il ic pre') ∧ Below w.heap.size w W)
    (fun s A B row hs hg hr => by
      obtain ⟨⟨q1, q2⟩, q3, ⟨v, q4, q5⟩, q6⟩ := hs
      exact ⟨⟨Nat.le_trans q1 hg.size, q2⟩, box_grown hg hr q3, ⟨v, box_grown hg hr q4, own_grown hg hr q5⟩, below_grown hg hr q6 (by omega) (Nat.le_refl _)⟩)
    (fun c s A B row hs hg hr => by
      obtain ⟨rfl, pre', p, v, rfl, q1, q4, q5, q6⟩ := hs
      exact ⟨rfl, pre', p, v, rfl, q1, box_grown hg hr q4, own_grown hg hr q5, below_grown hg hr q6 (by omega) (Nat.le_refl _)⟩)
    ⟨⟨(unhide HNB).size, Nat.zero_le _⟩, bN, ⟨_, bF, World.ownsRow_nil _ _ _ _⟩, unhide HNB⟩
    (fun y a' W => ∃ Bo, Box (w.heap.size + 2) #[.int .i64 (y.1 : Int), .slice (ia y.1) (il y.1) (ic y.1)] 117 W Bo ∧ a' = { tmps := #[.func (.func 141) #[] lb, .int .i64 (n : Int), undef, .pointer (some ⟨w.heap.size, 0, none⟩), .slice none 0 0, .pointer (some ⟨w.heap.size + 1, 0, none⟩), .pointer (some ⟨Bo, 0, none⟩), .func (.func 141) #[] lb, .agg #[.int .i64 (y.1 : Int), .slice (ia y.1) (il y.1) (ic y.1)], undef, undef, undef, undef, undef, undef, undef, undef, undef], defers := [] })
    (fun y a' _ A B row hs hg hr => by
      obtain ⟨Bo, q1, q2⟩ := hs
      exact ⟨Bo, box_grown hg hr q1, q2⟩)
    ?assign ?body ?done ?stop)
  case assign =>
    rintro l pre y W K ⟨⟨hs, hp⟩, b1, ⟨v, b2, ho⟩, hB1⟩ hK
    have hbn : Below W.heap.size W (W.alloc (.cells #[.int .i64 (y.1 : Int), .slice (ia y.1) (il y.1) (ic y.1)] 117)) := (Below.refl _ _).alloc (Nat.le_refl _) _
    have l2 := b2.lt
    gi_wp2
    exact hK _ _ (keepsFrom_below hbn) (KpS.of_below _ hbn hs) ⟨⟨Nat.le_trans hs hbn.size, hp⟩, b1.keep hbn, ⟨v, b2.keep hbn, own_below ho hbn⟩, hB1.trans (hbn.mono hB1.size)⟩ ⟨W.heap.size, newBox (by omega), rfl⟩
  case body =>
    rintro l pre y a' W hl ⟨r, hr⟩ ⟨⟨hs, hp⟩, b1, ⟨v, b2, ho⟩, hB1⟩ ⟨Bo, bO, rfl⟩ hlt
    obtain ⟨a9, c9, rfl⟩ := own_form ho
    have n0 := b1.at 0 _ rfl
    have s0 := b2.at 0 _ rfl
    have sf := b2.soft 0
    have sl := b2.lt
    have o0 := bO.at 0 _ rfl
    have o1 := bO.at 1 _ rfl
    have HB1 := hide b1
    have HB2 := hide b2
    have HBB := hide hB1
    have HO := hide ho
    by_cases hge : n ≤ pre.length
    · have hd : decide ((n : Int) ≤ (pre.length : Int)) = true := by rw [decide_eq_true_iff]; omega
      clear b1 b2 ho hB1 bO hseq
      gi_wp2
      exact ⟨KeepsFrom.refl _ _, rfl, pre, y, _, rfl, by omega, unhide HB2, unhide HO, unhide HBB⟩
    · have hd : decide ((n : Int) ≤ (pre.length : Int)) = false := by rw [decide_eq_false_iff_not]; omega
      clear b1 b2 ho hB1 bO hseq
      gi_wp2_with (gi_at_builtin; refine listIn_op rfl rfl (wp_append_lies _ _ _ 114 rfl (w.heap.size + 2) 117 i0 _ 2 32 Try.underlying114 hi0 hz0 hz1 hz2 rfl (by decide) _ pre.length (cellsP ia il ic pre) rfl ((unhide HO).alloc _) ⟨W.heap.size, 0, none⟩ 1 1 [.int .i64 (y.1 : Int), .slice (ia y.1) (il y.1) (ic y.1)] rfl rfl (World.news_of_block (cs := #[.int .i64 (y.1 : Int), .slice (ia y.1) (il y.1) (ic y.1)]) (fr := (0, 0)) (heap_alloc_new W _)) ?h1c (by decide) ?h63 ?hby ?hbs _ rfl ?_))
      case h1c => simp [Value.oneCell']
      case h63 => unfold maxLen; omega
      case hby => omega
      case hbs => simp; omega
      intro g cap w' h2 h3 _ h5
      have hg := grown_alloc h3
      have E := ext_of_grownBy hg
      have hlo : ∀ k, (Value.slice a9 pre.length c9).ownBlock = some k → w.heap.size + 2 ≤ k := fun k hk => ((unhide HO).lt k hk).1
      have b2' := (unhide HB2).ext E (fun e => by have := hlo _ e; omega)
      have b1' := (unhide HB1).ext E (fun e => by have := hlo _ e; omega)
      have s1 := b2'.at 0 _ rfl
      have sf1 := b2'.soft 0
      have hKF : Hid (KeepsFrom WL.heap.size W (w'.setCell ⟨w.heap.size + 1, 0, none⟩ (.slice (some ⟨g, 0, none⟩) (pre.length + 1) cap))) := (keepsFrom_ext E (fun k o _ hk hnc e => by rw [own_cells (unhide HO) e hk] at hnc; cases hnc)).trans ((KeepsOthers.setCell _ _ _).from _)
      have hKp : Hid (KpS w.heap.size (fun _ => False) W (w'.setCell ⟨w.heap.size + 1, 0, none⟩ (.slice (some ⟨g, 0, none⟩) (pre.length + 1) cap))) := (KpS.of_ext E hs (fun k hk e => by have := hlo k e; omega)).trans ⟨by simp, fun b hb _ => heap_setCell_other _ _ _ _ (by simp; omega)⟩
      have hF2 := hide (b2'.set 0 (.slice (some ⟨g, 0, none⟩) (pre.length + 1) cap))
      have hN2 := hide (b1'.other ⟨w.heap.size + 1, 0, none⟩ (.slice (some ⟨g, 0, none⟩) (pre.length + 1) cap) (by simp))
      have hO2 : Hid ((w'.setCell ⟨w.heap.size + 1, 0, none⟩ (.slice (some ⟨g, 0, none⟩) (pre.length + 1) cap)).ownsRow (w.heap.size + 2) 117 2 (.slice (some ⟨g, 0, none⟩) (pre.length + 1) cap) (pre.length + 1) (cellsP ia il ic pre ++ [.int .i64 (y.1 : Int), .slice (ia y.1) (il y.1) (ic y.1)])) := own_kept h2 fun c hc => heap_setCell_other _ _ _ _ (by have := (h2.lt c hc).1; simp; omega)
      have hB2 : Hid (Below w.heap.size w (w'.setCell ⟨w.heap.size + 1, 0, none⟩ (.slice (some ⟨g, 0, none⟩) (pre.length + 1) cap))) := ((unhide HBB).trans (E.below (unhide HBB).size (fun k hk e => by have := hlo k e; omega))).setCell (by simp) _
      have hsz : w.heap.size ≤ w'.heap.size := Nat.le_trans hs hg.size
      clear h2 h3 h5 hg E b2' b1' hlo n0 s0 sf sl o0 o1
      gi_wp2
      refine ⟨unhide hKF, unhide hKp, ⟨by simp; omega, by simp; omega⟩, unhide hN2, ⟨_, unhide hF2, ?_⟩, unhide hB2⟩
      rw [cellsP_snoc, List.length_append]
      exact unhide hO2
  case done =>
    rintro D xs W hD rfl ⟨⟨hs, hp⟩, b1, ⟨v, b2, ho⟩, hB1⟩ hK
    obtain ⟨a9, c9, rfl⟩ := own_form ho
    have s0 := b2.at 0 _ rfl
    have HBB := hide hB1
    have HO := hide ho
    have HK := hide hK
    clear b1 b2 ho hB1 hseq hK
    go_wp2_with fail
    refine ⟨by simp, .inl ⟨_, _, rfl, run_takeDeferred (unhide HK), ?_⟩⟩
    refine ⟨_, results_tmp rfl _ _ _, _, rfl, ?_, ?_⟩
    · rw [List.take_of_length_le hp]
      exact own_mono (show w.heap.size ≤ w.heap.size + 2 by omega) (own_grown (n := WL.heap.size) (grownBy_putObj' _ D (.deferred none)) (fun r e => by cases e; exact ⟨hD, _, unhide HK, rfl⟩) (unhide HO))
    · exact (unhide HBB).grown (grownBy_putObj' _ D (.deferred none)) (by have := (unhide HBB).size; omega) (fun k e => by cases e; omega)
  case stop =>
    rintro D c pre W hD hpre ⟨rfl, pre', p, v, rfl, q1, q4, q5, q6⟩ hK
    obtain ⟨a9, c9, rfl⟩ := own_form q5
    have s0 := q4.at 0 _ rfl
    have HBB := hide q6
    have HO := hide q5
    have HK := hide hK
    have hpt : zs.take n = pre' := by
      have h1 : pre' <+: zs := (List.prefix_append pre' [p]).trans hpre
      rw [← q1]
      exact (List.prefix_iff_eq_take.1 h1).symm
    have HPT := hide hpt
    clear q1 q4 q5 q6 hseq hK hpt
    gi_wp2
    go_wp2_with fail
    refine ⟨by simp, .inl ⟨_, _, rfl, run_takeDeferred (unhide HK), ?_⟩⟩
    refine ⟨_, results_tmp rfl _ _ _, _, rfl, ?_, ?_⟩
    · rw [unhide HPT]
      exact own_mono (show w.heap.size ≤ w.heap.size + 2 by omega) (own_grown (n := WL.heap.size) (grownBy_putObj' _ D (.deferred none)) (fun r e => by cases e; exact ⟨hD, _, unhide HK, rfl⟩) (unhide HO))
    · exact (unhide HBB).grown (grownBy_putObj' _ D (.deferred none)) (by have := (unhide HBB).size; omega) (fun k e => by cases e; omega)

end Go.Proofs.Ytfgadegpdknocaa

namespace Go.Proofs.Ytfgadegpdknocaa
open Go.RowKit

theorem cvec3 {zs : List Int} (h : vecFault zs = 0) : ∃ p q r, zs = [p, q, r] := by
  have hl := (vecFault_zero h).1
  match zs, hl with
  | [p, q, r], _ => exact ⟨p, q, r, rfl⟩
theorem implScore3 (v1 v2 : Value) (p q : List Int) (w : World) (h1 : IsInts w v1 p) (h2 : IsInts w v2 q) (f1 : vecFault p = 0) (f2 : vecFault q = 0) :
    Calls Try.prog 131 #[v1, v2] w fun e w' => e = .returned (.agg #[.int .i64 0, .int .i64 (score3 p q)]) ∧ Below w.heap.size w w' := by
  obtain ⟨x, y, z, rfl⟩ := cvec3 f1
  obtain ⟨a, b, c, rfl⟩ := cvec3 f2
  exact implScore_ok v1 v2 x y z a b c w h1 h2 f1 f2
theorem modelScore3 (v1 v2 : Value) (p q : List Int) (w : World) (h1 : IsInts w v1 p) (h2 : IsInts w v2 q) (f1 : vecFault p = 0) (f2 : vecFault q = 0) :
    Calls Try.prog 120 #[v1, v2] w fun e w' => e = .returned (.int .i64 (score3 p q)) ∧ Below w.heap.size w w' := by
  obtain ⟨x, y, z, rfl⟩ := cvec3 f1
  obtain ⟨a, b, c, rfl⟩ := cvec3 f2
  obtain ⟨b1, o1, k1, x', y', z', he, rfl, hbl, c0, c1, c2⟩ := h1.three rfl
  simp only [List.cons.injEq, and_true] at he
  obtain ⟨rfl, rfl, rfl⟩ := he
  obtain ⟨b2, o2, k2, x', y', z', he, rfl, hbl2, d0, d1, d2⟩ := h2.three rfl
  simp only [List.cons.injEq, and_true] at he
  obtain ⟨rfl, rfl, rfl⟩ := he
  exact modelSum b1 o1 k1 b2 o2 k2 x y z a b c w c0 c1 c2 d0 d1 d2 f1 f2

end Go.Proofs.Ytfgadegpdknocaa

namespace Go.Proofs.Ytfgadegpdknocaa
open Go.RowKit

theorem cen_cell {w : World} {b off k : Nat} {u : Option Value} (h : w.cell? ⟨b, off + k * Lay.tCenter.n + 0, none⟩ = u) : w.cell? ⟨b, off + k, none⟩ = u := by
  have q : w.cell? ⟨b, off + k * 1 + 0, none⟩ = u := h
  rw [Nat.mul_one, Nat.add_zero] at q
  exact q

end Go.Proofs.Ytfgadegpdknocaa

namespace Go.Proofs.Ytfgadegpdknocaa
open Go.RowKit

theorem fieldV (a b : Int) (w : World) : (Instr.field 79 (.agg #[.int .i64 a, .int .i64 b]) 1).run Try.prog w = .ok (.int .i64 b) w := by kernel_rfl
def cmpI (a b : Int) : Int := if a < b then -1 else if b < a then 1 else 0

set_option maxHeartbeats 400000 in
theorem nanC (a : Int) (w : World) : Calls Try.prog 155 #[.int .i64 a] w fun e w' => e = .returned (.bool false) ∧ w' = w := by
  have hd : (a != a) = false := by simp
  go_enter Try.func155, Try.ntmps155
  go_wp2_with fail
  go_ret
  exact ⟨rfl, rfl⟩
set_option maxHeartbeats 1000000 in
theorem compareC (a b : Int) (w : World) : Calls Try.prog 144 #[.int .i64 a, .int .i64 b] w fun e w' => e = .returned (.int .i64 (cmpI a b)) ∧ w' = w := by
  generalize hF0 : cmpI a b = F0
  have HF0 := hide hF0
  clear hF0
  go_enter Try.func144, Try.ntmps144
  go_wp2_with fail
  refine (nanC a _).mono ?_
  rintro e w1 ⟨rfl, rfl⟩
  go_wp2_with fail
  refine (nanC b _).mono ?_
  rintro e w1 ⟨rfl, rfl⟩
  by_cases h1 : a < b
  · have hF : F0 = -1 := by rw [← unhide HF0, cmpI, if_pos h1]
    have d1 : decide (a < b) = true := by simpa using h1
    clear h1
    go_wp2_with fail
    go_ret
    exact ⟨by rw [hF]; rfl, rfl⟩
  · have d1 : decide (a < b) = false := by simpa using h1
    by_cases h2 : b < a
    · have hF : F0 = 1 := by rw [← unhide HF0, cmpI, if_neg h1, if_pos h2]
      have d2 : decide (b < a) = true := by simpa using h2
      clear h1 h2
      go_wp2_with fail
      go_ret
      exact ⟨by rw [hF]; rfl, rfl⟩
    · have hF : F0 = 0 := by rw [← unhide HF0, cmpI, if_neg h1, if_neg h2]
      have d2 : decide (b < a) = false := by simpa using h2
      clear h1 h2
      go_wp2_with fail
      go_ret
      exact ⟨by rw [hF]; rfl, rfl⟩

set_option maxRecDepth 100000 in
set_option maxHeartbeats 4000000 in
theorem cmpC (cs : List DCenter) (q : List Int) (ac : Option Addr) (dc : Nat) (aq : Option Addr) (dq Bl Bq p r : Nat) (w : World) (h1 : (Lay.sl Lay.tCenter).Reads w [.slice ac cs.length dc] cs) (h2 : IsInts w (.slice aq q.length dq) q) (hc : centersFault cs = 0) (hq : vecFault q = 0)
    (cl : w.cell? ⟨Bl, 0, none⟩ = some (.slice ac cs.length dc)) (cq : w.cell? ⟨Bq, 0, none⟩ = some (.slice aq q.length dq)) (hp : p < cs.length) (hr : r < cs.length) :
    Calls Try.prog 143 #[.int .i64 (p : Int), .int .i64 (r : Int), .pointer (some ⟨Bl, 0, none⟩), .pointer (some ⟨Bq, 0, none⟩)] w fun e w' => e = .returned (.int .i64 (cmpI (hitAt cs q p).2 (hitAt cs q r).2)) ∧ Below w.heap.size w w' := by
  obtain ⟨b, off, rfl, hbl⟩ := Lay.sl_addr h1 (by omega)
  obtain ⟨row1, k1, r1⟩ := Lay.row_at h1 hp
  obtain ⟨a1, d1, rfl, R1⟩ := open_Center r1
  obtain ⟨row2, k2, r2⟩ := Lay.row_at h1 hr
  obtain ⟨a2, d2, rfl, R2⟩ := open_Center r2
  have HC1 := hide (cen_cell (k1 0 (by decide)))
  have HC2 := hide (cen_cell (k2 0 (by decide)))
  have e1 : (hitAt cs q p).2 = score3 cs[p].vec q := by simp [hitAt, List.getD, List.getElem?_eq_getElem hp]
  have e2 : (hitAt cs q r).2 = score3 cs[r].vec q := by simp [hitAt, List.getD, List.getElem?_eq_getElem hr]
  have HV1 := hide ((centersFault_zero hc).2 cs[p] (List.getElem_mem hp))
  have HV2 := hide ((centersFault_zero hc).2 cs[r] (List.getElem_mem hr))
  rw [e1, e2]
  have HI1 := hide (Lay.ints_reads R1)
  have HI2 := hide (Lay.ints_reads R2)
  have HIQ := hide h2
  have HVQ := hide hq
  have HBL := hide cl
  have HBQ := hide cq
  clear e1 e2 k1 k2 r1 r2 R1 R2 h1 h2 hc hq cl cq
  generalize cs[p] = c1 at *
  generalize cs[r] = c2 at *
  go_enter Try.func143, Try.ntmps143
  go_wp2_with fail
  refine wp_region_noPanic ?_
  refine wp_region_held_drew (S := fun w' => Below w.heap.size w w') (by kernel_rfl) (Below.refl _ _).drew (fun hHeld => ?_)
  generalize w.drew = wD at hHeld ⊢
  refine wpAnyH_take (i := 0) (oi := { dst := some 7, op := Go.Op.load 28 (Go.Operand.tmp 2), type := 28, pos := "l07_ivf.go:51", after := #[], guard := none }) (v := ?vc0) rfl (by kernel_rfl) (by kernel_rfl) (by kernel_rfl) (fun _ _ _ h => h) (Or.inl ⟨by rfl, ?hc0⟩) hHeld ?rc0
  case hc0 =>
    intro wS hSw
    have y0 := (cell_keep hSw (unhide HBL))
    clear hSw
    (try dsimp only at hSw)
    go_simp
    try with_reducible rfl
  case rc0 =>
  simp only [Act.put, List.setIfInBounds_toArray, List.set_cons_zero, List.set_cons_succ]
  refine wpAnyH_take (i := 1) (oi := { dst := some 8, op := Go.Op.move (Go.Operand.tmp 0), type := 2, pos := "l07_ivf.go:51", after := #[], guard := none }) (v := ?vc1) rfl (by kernel_rfl) (by kernel_rfl) (by kernel_rfl) (fun _ _ _ h => h) (Or.inl ⟨by rfl, ?hc1⟩) hHeld ?rc1
  case hc1 =>
    intro wS hSw
    (try dsimp only at hSw)
    go_simp
    try with_reducible rfl
  case rc1 =>
  simp only [Act.put, List.setIfInBounds_toArray, List.set_cons_zero, List.set_cons_succ]
  refine wpAnyH_take (i := 2) (oi := { dst := some 9, op := Go.Op.indexAddr 28 (Go.Operand.tmp 7) (Go.Operand.tmp 8), type := 0, pos := "l07_ivf.go:51", after := #[{ on := 0, ground := Go.Ground.data }, { on := 1, ground := Go.Ground.data }], guard := none }) (v := ?vc2) rfl (by kernel_rfl) (by kernel_rfl) (by kernel_rfl) (fun _ _ _ h => h) (Or.inl ⟨by rfl, ?hc2⟩) hHeld ?rc2
  case hc2 =>
    intro wS hSw
    (try dsimp only at hSw)
    go_simp
    try with_reducible rfl
  case rc2 =>
  simp only [Act.put, List.setIfInBounds_toArray, List.set_cons_zero, List.set_cons_succ]
  refine wpAnyH_take (i := 3) (oi := { dst := some 10, op := Go.Op.fieldAddr 104 (Go.Operand.tmp 9) 0, type := 0, pos := "l07_ivf.go:51", after := #[{ on := 2, ground := Go.Ground.data }], guard := none }) (v := ?vc3) rfl (by kernel_rfl) (by kernel_rfl) (by kernel_rfl) (fun _ _ _ h => h) (Or.inl ⟨by rfl, ?hc3⟩) hHeld ?rc3
  case hc3 =>
    intro wS hSw
    (try dsimp only at hSw)
    go_simp
    try with_reducible rfl
  case rc3 =>
  simp only [Act.put, List.setIfInBounds_toArray, List.set_cons_zero, List.set_cons_succ]
  refine wpAnyH_take (i := 4) (oi := { dst := some 11, op := Go.Op.load 51 (Go.Operand.tmp 10), type := 51, pos := "l07_ivf.go:51", after := #[{ on := 3, ground := Go.Ground.data }], guard := none }) (v := ?vc4) rfl (by kernel_rfl) (by kernel_rfl) (by kernel_rfl) (fun _ _ _ h => h) (Or.inl ⟨by rfl, ?hc4⟩) hHeld ?rc4
  case hc4 =>
    intro wS hSw
    have y0 := (cell_keep hSw (unhide HC1))
    clear hSw
    (try dsimp only at hSw)
    go_simp
    try with_reducible rfl
  case rc4 =>
  simp only [Act.put, List.setIfInBounds_toArray, List.set_cons_zero, List.set_cons_succ]
  refine wpAnyH_take (i := 5) (oi := { dst := some 12, op := Go.Op.load 51 (Go.Operand.tmp 3), type := 51, pos := "l07_ivf.go:51", after := #[], guard := none }) (v := ?vc5) rfl (by kernel_rfl) (by kernel_rfl) (by kernel_rfl) (fun _ _ _ h => h) (Or.inl ⟨by rfl, ?hc5⟩) hHeld ?rc5
  case hc5 =>
    intro wS hSw
    have y0 := (cell_keep hSw (unhide HBQ))
    clear hSw
    (try dsimp only at hSw)
    go_simp
    try with_reducible rfl
  case rc5 =>
  simp only [Act.put, List.setIfInBounds_toArray, List.set_cons_zero, List.set_cons_succ]
  refine wpAnyH_take (i := 8) (oi := { dst := some 15, op := Go.Op.load 28 (Go.Operand.tmp 2), type := 28, pos := "l07_ivf.go:51", after := #[], guard := none }) (v := ?vc8) rfl (by kernel_rfl) (by kernel_rfl) (by kernel_rfl) (fun _ _ _ h => h) (Or.inl ⟨by rfl, ?hc8⟩) hHeld ?rc8
  case hc8 =>
    intro wS hSw
    have y0 := (cell_keep hSw (unhide HBL))
    clear hSw
    (try dsimp only at hSw)
    go_simp
    try with_reducible rfl
  case rc8 =>
  simp only [Act.put, List.setIfInBounds_toArray, List.set_cons_zero, List.set_cons_succ]
  refine wpAnyH_take (i := 9) (oi := { dst := some 16, op := Go.Op.move (Go.Operand.tmp 1), type := 2, pos := "l07_ivf.go:51", after := #[], guard := none }) (v := ?vc9) rfl (by kernel_rfl) (by kernel_rfl) (by kernel_rfl) (fun _ _ _ h => h) (Or.inl ⟨by rfl, ?hc9⟩) hHeld ?rc9
  case hc9 =>
    intro wS hSw
    (try dsimp only at hSw)
    go_simp
    try with_reducible rfl
  case rc9 =>
  simp only [Act.put, List.setIfInBounds_toArray, List.set_cons_zero, List.set_cons_succ]
  refine wpAnyH_take (i := 10) (oi := { dst := some 17, op := Go.Op.indexAddr 28 (Go.Operand.tmp 15) (Go.Operand.tmp 16), type := 0, pos := "l07_ivf.go:51", after := #[{ on := 8, ground := Go.Ground.data }, { on := 9, ground := Go.Ground.data }], guard := none }) (v := ?vc10) rfl (by kernel_rfl) (by kernel_rfl) (by kernel_rfl) (fun _ _ _ h => h) (Or.inl ⟨by rfl, ?hc10⟩) hHeld ?rc10
  case hc10 =>
    intro wS hSw
    (try dsimp only at hSw)
    go_simp
    try with_reducible rfl
  case rc10 =>
  simp only [Act.put, List.setIfInBounds_toArray, List.set_cons_zero, List.set_cons_succ]
  refine wpAnyH_take (i := 11) (oi := { dst := some 18, op := Go.Op.fieldAddr 104 (Go.Operand.tmp 17) 0, type := 0, pos := "l07_ivf.go:51", after := #[{ on := 10, ground := Go.Ground.data }], guard := none }) (v := ?vc11) rfl (by kernel_rfl) (by kernel_rfl) (by kernel_rfl) (fun _ _ _ h => h) (Or.inl ⟨by rfl, ?hc11⟩) hHeld ?rc11
  case hc11 =>
    intro wS hSw
    (try dsimp only at hSw)
    go_simp
    try with_reducible rfl
  case rc11 =>
  simp only [Act.put, List.setIfInBounds_toArray, List.set_cons_zero, List.set_cons_succ]
  refine wpAnyH_take (i := 12) (oi := { dst := some 19, op := Go.Op.load 51 (Go.Operand.tmp 18), type := 51, pos := "l07_ivf.go:51", after := #[{ on := 11, ground := Go.Ground.data }], guard := none }) (v := ?vc12) rfl (by kernel_rfl) (by kernel_rfl) (by kernel_rfl) (fun _ _ _ h => h) (Or.inl ⟨by rfl, ?hc12⟩) hHeld ?rc12
  case hc12 =>
    intro wS hSw
    have y0 := (cell_keep hSw (unhide HC2))
    clear hSw
    (try dsimp only at hSw)
    go_simp
    try with_reducible rfl
  case rc12 =>
  simp only [Act.put, List.setIfInBounds_toArray, List.set_cons_zero, List.set_cons_succ]
  refine wpAnyH_take (i := 13) (oi := { dst := some 20, op := Go.Op.load 51 (Go.Operand.tmp 3), type := 51, pos := "l07_ivf.go:51", after := #[], guard := none }) (v := ?vc13) rfl (by kernel_rfl) (by kernel_rfl) (by kernel_rfl) (fun _ _ _ h => h) (Or.inl ⟨by rfl, ?hc13⟩) hHeld ?rc13
  case hc13 =>
    intro wS hSw
    have y0 := (cell_keep hSw (unhide HBQ))
    clear hSw
    (try dsimp only at hSw)
    go_simp
    try with_reducible rfl
  case rc13 =>
  simp only [Act.put, List.setIfInBounds_toArray, List.set_cons_zero, List.set_cons_succ]
  refine wpAnyH_ready (rs := [6]) (by kernel_rfl) (by simp) ?_
  refine AllReadyH.cons (o := { dst := some 13, op := Go.Op.call { callee := Go.Callee.value (Go.Operand.func 131), args := #[Go.Operand.tmp 11, Go.Operand.tmp 12], argTypes := #[51, 51] }, type := 79, pos := "l07_ivf.go:51", after := #[{ on := 4, ground := Go.Ground.data }, { on := 5, ground := Go.Ground.data }], guard := none }) rfl (fun K hK => ?_) AllReadyH.nil
  go_simp
  go_at_call 131
  refine (implScore3 _ _ _ _ _ ((unhide HI1).later hHeld) ((unhide HIQ).later hHeld) (unhide HV1) (unhide HVQ)).mono ?_
  rintro e w3 ⟨rfl, hb3⟩
  try go_wp2_with fail
  refine hK.out _ _ (hHeld.trans (hb3.mono hHeld.size)) (fun hHeld => ?_)
  clear hK K
  try simp only [Act.put, List.setIfInBounds_toArray, List.set_cons_zero, List.set_cons_succ]
  refine wpAnyH_take (i := 7) (oi := { dst := some 14, op := Go.Op.field 79 (Go.Operand.tmp 13) 1, type := 2, pos := "l07_ivf.go:51", after := #[{ on := 6, ground := Go.Ground.data }], guard := none }) (v := ?vc7) rfl (by kernel_rfl) (by kernel_rfl) (by kernel_rfl) (fun _ _ _ h => h) (Or.inl ⟨by rfl, ?hc7⟩) hHeld ?rc7
  case hc7 =>
    intro wS hSw
    have hfl := fieldV 0 (score3 c1.vec q) wS
    (try dsimp only at hSw)
    go_simp
    try with_reducible rfl
  case rc7 =>
  simp only [Act.put, List.setIfInBounds_toArray, List.set_cons_zero, List.set_cons_succ]
  refine wpAnyH_ready (rs := [14]) (by kernel_rfl) (by simp) ?_
  refine AllReadyH.cons (o := { dst := some 21, op := Go.Op.call { callee := Go.Callee.value (Go.Operand.func 131), args := #[Go.Operand.tmp 19, Go.Operand.tmp 20], argTypes := #[51, 51] }, type := 79, pos := "l07_ivf.go:51", after := #[{ on := 12, ground := Go.Ground.data }, { on := 13, ground := Go.Ground.data }, { on := 6, ground := Go.Ground.chain }], guard := none }) rfl (fun K hK => ?_) AllReadyH.nil
  go_simp
  go_at_call 131
  refine (implScore3 _ _ _ _ _ ((unhide HI2).later hHeld) ((unhide HIQ).later hHeld) (unhide HV2) (unhide HVQ)).mono ?_
  rintro e w4 ⟨rfl, hb4⟩
  try go_wp2_with fail
  refine hK.out _ _ (hHeld.trans (hb4.mono hHeld.size)) (fun hHeld => ?_)
  clear hK K
  try simp only [Act.put, List.setIfInBounds_toArray, List.set_cons_zero, List.set_cons_succ]
  refine wpAnyH_take (i := 15) (oi := { dst := some 22, op := Go.Op.field 79 (Go.Operand.tmp 21) 1, type := 2, pos := "l07_ivf.go:51", after := #[{ on := 14, ground := Go.Ground.data }], guard := none }) (v := ?vc15) rfl (by kernel_rfl) (by kernel_rfl) (by kernel_rfl) (fun _ _ _ h => h) (Or.inl ⟨by rfl, ?hc15⟩) hHeld ?rc15
  case hc15 =>
    intro wS hSw
    have hfl := fieldV 0 (score3 c2.vec q) wS
    (try dsimp only at hSw)
    go_simp
    try with_reducible rfl
  case rc15 =>
  simp only [Act.put, List.setIfInBounds_toArray, List.set_cons_zero, List.set_cons_succ]
  refine wpAnyH_ready (rs := [16]) (by kernel_rfl) (by simp) ?_
  refine AllReadyH.cons (o := { dst := some 23, op := Go.Op.call { callee := Go.Callee.value (Go.Operand.func 144), args := #[Go.Operand.tmp 14, Go.Operand.tmp 22], argTypes := #[2, 2] }, type := 3, pos := "l07_ivf.go:51", after := #[{ on := 7, ground := Go.Ground.data }, { on := 15, ground := Go.Ground.data }, { on := 14, ground := Go.Ground.chain }], guard := none }) rfl (fun K hK => ?_) AllReadyH.nil
  go_simp
  go_at_call 144
  refine (compareC _ _ _).mono ?_
  rintro e w5 ⟨rfl, rfl⟩
  try go_wp2_with fail
  refine hK.out _ _ hHeld (fun hHeld => ?_)
  clear hK K
  try simp only [Act.put, List.setIfInBounds_toArray, List.set_cons_zero, List.set_cons_succ]
  refine wpAnyH_take (i := 17) (oi := { dst := some 6, op := Go.Op.assign (Go.Operand.tmp 23), type := 3, pos := "l07_ivf.go:51", after := #[{ on := 16, ground := Go.Ground.data }, { on := 16, ground := Go.Ground.chain }, { on := 0, ground := Go.Ground.phase }, { on := 1, ground := Go.Ground.phase }, { on := 2, ground := Go.Ground.phase }, { on := 3, ground := Go.Ground.phase }, { on := 4, ground := Go.Ground.phase }, { on := 5, ground := Go.Ground.phase }, { on := 6, ground := Go.Ground.phase }, { on := 7, ground := Go.Ground.phase }, { on := 8, ground := Go.Ground.phase }, { on := 9, ground := Go.Ground.phase }, { on := 10, ground := Go.Ground.phase }, { on := 11, ground := Go.Ground.phase }, { on := 12, ground := Go.Ground.phase }, { on := 13, ground := Go.Ground.phase }, { on := 14, ground := Go.Ground.phase }, { on := 15, ground := Go.Ground.phase }, { on := 16, ground := Go.Ground.phase }], guard := none }) (v := ?vc17) rfl (by kernel_rfl) (by kernel_rfl) (by kernel_rfl) (fun _ _ _ h => h) (Or.inl ⟨by rfl, ?hc17⟩) hHeld ?rc17
  case hc17 =>
    intro wS hSw
    (try dsimp only at hSw)
    go_simp
    try with_reducible rfl
  case rc17 =>
  simp only [Act.put, List.setIfInBounds_toArray, List.set_cons_zero, List.set_cons_succ]
  refine wpAnyH_done (by kernel_rfl) ?_ _
  refine NoPanic.normal ?_
  have HB := hide hHeld
  clear hHeld
  go_wp2_with fail
  go_ret
  exact ⟨rfl, unhide HB⟩

end Go.Proofs.Ytfgadegpdknocaa

namespace Go.Proofs.Ytfgadegpdknocaa
open Go.RowKit

theorem implId (v : Int) (w : World) :
    Calls Try.prog 92 #[.int .i64 v] w fun e w' => e = .returned (.bool (decide (1 ≤ v) && decide (v ≤ 999))) ∧ w' = w := by
  by_cases h1 : 1 ≤ v
  · have d1 : decide (1 ≤ v) = true := by simpa using h1
    rw [d1]
    cases d2 : decide (v ≤ 999) <;>
    · go_enter Try.func92, Try.ntmps92
      go_wp2_with fail
      go_ret
      exact ⟨rfl, rfl⟩
  · have d1 : decide (1 ≤ v) = false := by simpa using h1
    rw [d1]
    go_enter Try.func92, Try.ntmps92
    go_wp2_with fail
    go_ret
    exact ⟨rfl, rfl⟩

end Go.Proofs.Ytfgadegpdknocaa

namespace Go.Proofs.Ytfgadegpdknocaa
open Go.RowKit

set_option maxRecDepth 100000 in
set_option maxHeartbeats 1000000 in
theorem implTab_pos (b off cap : Nat) (xs : List DItem) (w : World) (hn : xs.length ≤ 30) (h : (Lay.sl Lay.tItem).Reads w [.slice (some ⟨b, off, none⟩) xs.length cap] xs) (hbl : b < w.heap.size) :
    Calls Try.prog 114 #[.slice (some ⟨b, off, none⟩) xs.length cap] w fun e w' => e = .returned (.int .i64 (tabFrom none xs)) ∧ Below w.heap.size w w' := by
  generalize hF0 : tabFrom none xs = F0
  have H := hide h
  clear h
  go_enter Try.func114, Try.ntmps114
  go_wp2_with fail
  go_loopw [11] (fun i wr => ∃ k : Nat, k ≤ xs.length ∧ i = .int .i64 k ∧ tabFrom (idAhead xs k) (xs.drop k) = F0 ∧ Below w.heap.size w wr) (fun i _ => xs.length - (intOf i).toNat)
  case atStart => exact ⟨0, Nat.zero_le _, rfl, hF0, Below.refl _ _⟩
  case round =>
    obtain ⟨k, hk, rfl, hF, hB⟩ := hrel
    by_cases hlt : k < xs.length
    · obtain ⟨row, hc, hr⟩ := Lay.row_at (unhide H) hlt
      replace hr := hr.later hB
      obtain ⟨a1, d1, rfl, R1⟩ := open_Item hr
      have c0 : wr.cell? ⟨b, off + k * 2, none⟩ = some (.int .i64 (xs[k]).id) := (hB.cell (p := ⟨b, off + k * 2, none⟩) hbl).trans (hc 0 (by decide))
      have c1 : wr.cell? ⟨b, off + k * 2 + 1, none⟩ = some (.slice a1 (xs[k]).vec.length d1) := (hB.cell (p := ⟨b, off + k * 2 + 1, none⟩) hbl).trans (hc 1 (by decide))
      have HP : Hid (∀ m, k = m + 1 → ∃ z, idAhead xs (m + 1) = some z ∧ wr.cell? ⟨b, off + m * 2, none⟩ = some (.int .i64 z)) := by
        rintro m rfl
        have hm : m < xs.length := by omega
        obtain ⟨row2, hc2, hr2⟩ := Lay.row_at (unhide H) hm
        obtain ⟨a2, d2, rfl, -⟩ := open_Item hr2
        exact ⟨_, idAhead_succ xs m hm, (hB.cell (p := ⟨b, off + m * 2, none⟩) hbl).trans (hc2 0 (by decide))⟩
      rw [tabFrom_step xs k hlt] at hF
      clear hc hr
      generalize hx : xs[k] = x at *
      clear hx
      have hbr : b < wr.heap.size := Nat.lt_of_lt_of_le hbl hB.size
      have nb : Below wr.heap.size wr (wr.alloc (.cells #[.int .i64 x.id, .slice a1 x.vec.length d1] 106)) := (Below.refl _ _).alloc (Nat.le_refl _) _
      have I1 := hide ((Lay.ints_reads R1).later nb)
      have HF := hide hF
      have B1 := hide (hB.trans (nb.mono hB.size))
      clear R1 hF hB nb
      go_wp2_with fail
      refine (implId x.id _).mono ?_
      rintro e w1 ⟨rfl, rfl⟩
      rw [show (decide (1 ≤ x.id) && decide (x.id ≤ 999)) = idB x.id from rfl]
      cases hid : idB x.id with
      | false =>
        have hF := unhide HF
        rw [hid, if_neg (by simp)] at hF
        have HF2 := hide hF
        clear HF hF hid HP
        go_wp2_with fail
        go_ret
        exact ⟨by rw [← unhide HF2]; rfl, unhide B1⟩
      | true =>
        have hF := unhide HF
        rw [hid, if_pos rfl] at hF
        clear HF hid
        have HF := hide hF
        clear hF
        go_wp2_with fail
        refine (implFault _ x.vec _ (unhide I1)).mono ?_
        rintro e w1 ⟨rfl, rfl⟩
        by_cases hv : vecFault x.vec = 0
        · rw [hv]
          have hF := unhide HF
          rw [if_pos hv] at hF
          clear HF I1 hv
          have HF := hide hF
          clear hF
          by_cases hk0 : k = 0
          · subst hk0
            have hF := unhide HF
            rw [idAhead_zero, Option.all_none, if_pos rfl] at hF
            have HF3 := hide hF
            clear HF hF HP
            have g0 : decide ((0 : Int) < 0) = false := by decide
            go_wp2_with fail
            go_quiet (fail)
            all_goals go_wp2_with fail
            all_goals exact ⟨⟨0 + 1, by omega, by go_num, unhide HF3, below_drewN (unhide B1) _⟩, by simp [intOf]; omega⟩
          · obtain ⟨m, rfl⟩ : ∃ m, k = m + 1 := ⟨k - 1, by omega⟩
            obtain ⟨z, e1, p0⟩ := unhide HP m rfl
            have hF := unhide HF
            rw [e1, Option.all_some] at hF
            have HF3 := hide hF
            clear HF hF HP e1 hk0
            have g1 : decide ((0 : Int) < (m : Int) + 1) = true := by simp
            have g4 : IntKind.i64.wrap ((m : Int) + 1 - 1) = (m : Int) := by simp only [IntKind.wrap_i64]; omega
            have g9 : IntKind.i64.wrap (m : Int) = (m : Int) := by simp only [IntKind.wrap_i64]; omega
            have g2 : (m : Int) + 1 - 1 = (m : Int) := by omega
            have g3 : (m : Int) < (xs.length : Int) := by omega
            have g5 : (0 : Int) ≤ (m : Int) := by omega
            cases hq : decide (z < x.id) with
            | true =>
              have hF := unhide HF3
              rw [hq, if_pos rfl] at hF
              have HF4 := hide hF
              have q1 : decide (x.id ≤ z) = false := by simp at hq ⊢; omega
              clear hF HF3 hq
              go_wp2_with fail
              go_quiet (fail)
              all_goals go_wp2_with fail
              all_goals exact ⟨⟨m + 1 + 1, by omega, by go_num, unhide HF4, below_drewN (unhide B1) _⟩, by simp [intOf]; omega⟩
            | false =>
              have hF := unhide HF3
              rw [hq, if_neg (by simp)] at hF
              have HF4 := hide hF
              have q1 : decide (x.id ≤ z) = true := by simp at hq ⊢; omega
              clear hF HF3 hq
              go_wp2_with fail
              go_quiet (fail)
              all_goals go_wp2_with fail
              all_goals go_ret
              all_goals exact ⟨by rw [← unhide HF4]; rfl, below_drewN (unhide B1) _⟩
        · have hF := unhide HF
          rw [if_neg hv] at hF
          have hd : (vecFault x.vec != 0) = true := by simpa using hv
          have HF2 := hide hF
          clear HF hF HP I1 hv
          go_wp2_with fail
          go_ret
          exact ⟨by rw [← unhide HF2]; rfl, unhide B1⟩
    · obtain rfl : k = xs.length := by omega
      rw [List.drop_length] at hF
      have HF := hide hF
      have HB := hide hB
      clear hF hB H
      go_wp2_with fail
      go_ret
      exact ⟨by rw [← unhide HF]; rfl, unhide HB⟩

set_option maxRecDepth 10000 in
/-- TableFault of the program. -/
theorem implTab (v : Value) (xs : List DItem) (w : World) (h : (Lay.sl Lay.tItem).Reads w [v] xs) :
    Calls Try.prog 114 #[v] w fun e w' => e = .returned (.int .i64 (tableFault xs)) ∧ Below w.heap.size w w' := by
  obtain ⟨ao, cap, rfl⟩ := open_sl h
  by_cases hn : xs.length ≤ 30
  · have e : tableFault xs = tabFrom none xs := by unfold tableFault; rw [if_neg (by omega)]
    rw [e]
    by_cases hp : 0 < xs.length
    · obtain ⟨b, off, rfl, hbl⟩ := Lay.sl_addr h hp
      exact implTab_pos b off cap xs w hn h hbl
    · obtain rfl : xs = [] := List.eq_nil_of_length_eq_zero (by omega)
      clear h e hn hp
      go_enter Try.func114, Try.ntmps114
      go_wp2_with fail
      refine wp_loop_rounds 1 ?_
      rw [rounds_succ]
      go_wp2_with fail
      go_ret
      exact ⟨rfl, Below.refl _ _⟩
  · have e : tableFault xs = 2 := by unfold tableFault; rw [if_pos (by omega)]
    rw [e]
    have hd : decide ((30 : Int) < (xs.length : Int)) = true := by simp; omega
    clear h e
    go_enter Try.func114, Try.ntmps114
    go_wp2_with fail
    go_ret
    exact ⟨rfl, Below.refl _ _⟩

end Go.Proofs.Ytfgadegpdknocaa

namespace Go.Proofs.Ytfgadegpdknocaa
open Go.RowKit Go.Maps

def vecR : Value → Option (DataW Unit × List MemPlace)
  | .agg cs => match cs.toList with
    | [.int .i64 a, .int .i64 b, .int .i64 c] => some (vecD [a, b, c], [])
    | _ => none
  | _ => none
theorem vecR_mk (a b c : Int) : vecR (arr3 a b c) = some (vecD [a, b, c], []) := rfl
theorem vecR_inv {v : Value} {z : DataW Unit × List MemPlace} (h : vecR v = some z) : ∃ a b c, v = arr3 a b c ∧ z = (vecD [a, b, c], []) := by
  unfold vecR at h
  split at h
  · rename_i cs
    split at h
    · rename_i a b c he
      cases h
      refine ⟨a, b, c, ?_, rfl⟩
      obtain ⟨l⟩ := cs
      simp only at he
      rw [he]; rfl
    · cases h
  · cases h
theorem keyed64 : Keyed Try.prog 2 := int_keyed Try.underlying2
theorem zeroVec (w : World) : (zeroValue 133).run Try.prog w = .ok (arr3 0 0 0) w := by kernel_rfl
/-- Block b is a map that holds the items xs. -/
def TabAt (w : World) (b n : Nat) (xs : List DItem) : Prop := w.ownsMap Try.prog 2 vecR b n (mapD xs)
theorem TabAt.ext {S : Nat → Prop} {w w' : World} {b n : Nat} {xs : List DItem} (h : TabAt w b n xs) (e : Ext S w w') (hb : ¬ S b) : TabAt w' b n xs := by
  have hlt := World.ownsMap.lt h
  obtain ⟨es, clock, hb', r⟩ := h
  exact ⟨es, clock, (e.block b hlt hb).trans hb', r⟩
theorem TabAt.later {w w' : World} {b n : Nat} {xs : List DItem} (h : TabAt w b n xs) (e : Below w.heap.size w w') : TabAt w' b n xs := h.ext (ext_of_below e nowhere) (fun h => h)
theorem TabAt.lt {w : World} {b n : Nat} {xs : List DItem} (h : TabAt w b n xs) : b < w.heap.size := World.ownsMap.lt h
theorem TabAt.mono {w : World} {b n n' : Nat} {xs : List DItem} (h : TabAt w b n xs) (hn : n ≤ n') : TabAt w b n' xs := World.ownsMap.mono h hn
theorem ext_of_turned {w w' : World} {b : Nat} (h : w.mapTurned w' b) : Ext (fun q => q = b) w w' := by
  have g := h.grown
  obtain ⟨es, clock, es', clock', hb, rfl⟩ := h
  exact ⟨rfl, rfl, rfl, by simp [ChangeMaps.setBlock], fun k hk hn => g.block k hk (fun e => hn (by simpa using e))⟩
theorem key64 {a : Int} (h : (Lit.int .i64 a).wf = true) : keyOf Try.prog 2 (.int .i64 a) = some (.int .i64 a) := keyOf_int_mk Try.underlying2 h
/-- m[id] = vec. -/
theorem TabAt.put {w : World} {b n : Nat} {xs : List DItem} (h : TabAt w b n xs) (hn : n < 1000) {id : Int} (hw : (Lit.int .i64 id).wf = true) (x y z : Int) :
    ∃ w', (Instr.mapUpdate 92 (.map (some b)) (.int .i64 id) (arr3 x y z)).run Try.prog w = .ok () w' ∧ TabAt w' b (n + 1) (putI xs id [x, y, z]) ∧ Ext (fun q => q = b) w w' := by
  obtain ⟨w', h1, h2, h3⟩ := World.ownsMap.store h keyed64 Try.underlying92 (by unfold maxLen; omega) (key64 hw) (vecR_mk x y z)
  rw [put_mapD] at h2
  exact ⟨w', h1, h2, ext_of_turned h3⟩
/-- delete(m, id). -/
theorem TabAt.drop {w : World} {b n : Nat} {xs : List DItem} (h : TabAt w b n xs) {id : Int} (hw : (Lit.int .i64 id).wf = true) (ty : TypeId) :
    ∃ w', (Builtin.delete_ #[92, 2] ty #[.map (some b), .int .i64 id]).run Try.prog w = .ok (.tuple #[]) w' ∧ TabAt w' b n (dropI xs id) ∧ Ext (fun q => q = b) w w' := by
  obtain ⟨w', h1, h2, h3⟩ := World.ownsMap.drop h keyed64 Try.underlying92 (key64 hw) ty
  rw [del_mapD] at h2
  exact ⟨w', h1, h2, ext_of_turned h3⟩
/-- v, ok := m[id], where it is there. -/
theorem TabAt.look {w : World} {b n : Nat} {xs : List DItem} (h : TabAt w b n xs) (hr : Rising xs) {id : Int} (hw : (Lit.int .i64 id).wf = true) {x : DItem} (hx : x ∈ xs) (hid : x.id = id) :
    ∃ p q r, x.vec = [p, q, r] ∧ (Instr.lookup 92 (.map (some b)) (.int .i64 id) true).run Try.prog w = .ok (.tuple #[arr3 p q r, .bool true]) w ∧ (Instr.lookup 92 (.map (some b)) (.int .i64 id) false).run Try.prog w = .ok (arr3 p q r) w := by
  subst hid
  have hh : hasI xs x.id = true := by simp only [hasI, List.any_eq_true]; exact ⟨x, hx, by simp⟩
  obtain ⟨v, ps, hrun, hv⟩ := World.ownsMap.look_ok h keyed64 Try.underlying92 (zeroVec w) (vecR_mk 0 0 0) (key64 hw)
  obtain ⟨v2, ps2, hrun2, hv2⟩ := World.ownsMap.lookup h keyed64 Try.underlying92 (zeroVec w) (vecR_mk 0 0 0) (key64 hw)
  rw [at_mapD hr hx] at hv hv2
  obtain ⟨p, q, r, rfl, e⟩ := vecR_inv hv
  obtain ⟨p2, q2, r2, rfl, e2⟩ := vecR_inv hv2
  rw [has_mapD, hh] at hrun
  have k1 : x.vec = [p, q, r] := vecD_inj (congrArg Prod.fst e)
  have k2 : x.vec = [p2, q2, r2] := vecD_inj (congrArg Prod.fst e2)
  rw [k1] at k2
  simp only [List.cons.injEq, and_true] at k2
  obtain ⟨rfl, rfl, rfl⟩ := k2
  exact ⟨p, q, r, k1, hrun, hrun2⟩
theorem TabAt.miss {w : World} {b n : Nat} {xs : List DItem} (h : TabAt w b n xs) {id : Int} (hw : (Lit.int .i64 id).wf = true) (hi : hasI xs id = false) :
    ∃ p q r, (Instr.lookup 92 (.map (some b)) (.int .i64 id) true).run Try.prog w = .ok (.tuple #[arr3 p q r, .bool false]) w := by
  obtain ⟨v, ps, hrun, hv⟩ := World.ownsMap.look_ok h keyed64 Try.underlying92 (zeroVec w) (vecR_mk 0 0 0) (key64 hw)
  have hh : Maps.has (mapD xs) (.int .i64 id) = false := by rw [has_mapD]; exact hi
  rw [Maps.atKey_of_not_has hh] at hv
  obtain ⟨p, q, r, rfl, e⟩ := vecR_inv hv
  rw [hh] at hrun
  exact ⟨p, q, r, hrun⟩
theorem TabAt.len {w : World} {b n : Nat} {xs : List DItem} (h : TabAt w b n xs) (ty : TypeId) : (Builtin.len_ #[92] ty #[.map (some b)]).run Try.prog w = .ok (.int .i64 xs.length) w := by
  have := World.ownsMap.len h Try.underlying92 ty
  rwa [size_mapD] at this
theorem tabAt_new (w : World) : TabAt (w.alloc (.map #[] 0)) w.heap.size 0 [] := World.ownsMap_made w _ _ _

end Go.Proofs.Ytfgadegpdknocaa
