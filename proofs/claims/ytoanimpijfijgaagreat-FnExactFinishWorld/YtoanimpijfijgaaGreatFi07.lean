/-
  Texts of this proof in one: WorldSt, RowPut, WorldPut, WorldSpec, AppNode, AppEntry, AppHit, LayMore, AppHitsL, OwnNodeResult, NodeKitP, SpecWs, SpecLast5, SpecSess, SpecOnce, NodeKit, AppWrite, SpecWCopy, NodeEqs, RowIn, SpecNodeF, SpecNCopy, SpecNCopyG.
  Their conditions stand in their theorems.
-/
import Derived.Test.YtoanimpijfijgaaGreatChecked
import Derived.Test.YtoanimpijfijgaaGreatFi06
import Derived.WalkKit
import Derived.Test.YtoanimpijfijgaaGreatFi00
import Derived.Test.YtoanimpijfijgaaGreatFi01
import Derived.Test.YtoanimpijfijgaaGreatFi05
import Derived.Maps.AppendAt
import Derived.Test.YtoanimpijfijgaaGreatFi04
import Derived.Deep.RegionHeld3
import Derived.Deep.CutRange
set_option maxRecDepth 100000
set_option maxHeartbeats 4000000
namespace Go.Proofs.YtoanimpijfijgaaGreat
open Go.RowKit
def WOwn (w : World) (lo g : Nat) (cells : List Value) (x : DWorld) : Prop := ∃ bl, Lay.tWorld.Own w cells x bl ∧ g ∉ bl ∧ ∀ b ∈ bl, lo ≤ b ∧ b < w.heap.size
theorem WOwn.ext {S : Nat → Prop} {w w' : World} {lo g : Nat} {cells : List Value} {x : DWorld} (h : WOwn w lo g cells x) (e : Ext S w w') (hs : ∀ k, lo ≤ k → k < w.heap.size → k ≠ g → ¬ S k) : WOwn w' lo g cells x := by
 obtain ⟨bl, O, hg, hb⟩ := h
 exact ⟨bl, O.ext e (fun b hm => hs b (hb b hm).1 (hb b hm).2 (fun q => hg (q ▸ hm))), hg, fun b hm => ⟨(hb b hm).1, Nat.lt_of_lt_of_le (hb b hm).2 e.size⟩⟩
theorem WOwn.later {w w' : World} {lo g : Nat} {cells : List Value} {x : DWorld} (h : WOwn w lo g cells x) (hb : Below w.heap.size w w') : WOwn w' lo g cells x := h.ext (ext_of_below hb nowhere) fun _ _ _ _ q => q
theorem WOwn.reads {w : World} {lo g : Nat} {cells : List Value} {x : DWorld} (h : WOwn w lo g cells x) : Lay.tWorld.Reads w cells x := by
 obtain ⟨bl, O, -⟩ := h
 exact ⟨bl, O.1⟩
theorem WOwn.ownIn {w : World} {lo g : Nat} {cells : List Value} {x : DWorld} (h : WOwn w lo g cells x) : Lay.tWorld.OwnIn w cells x lo w.heap.size := by
 obtain ⟨bl, O, -, hb⟩ := h
 exact ⟨bl, O, hb⟩
theorem wown_new {w : World} {lo hi g : Nat} {cells : List Value} {x : DWorld} (h : Lay.tWorld.OwnIn w cells x lo hi) (hg : hi ≤ g) (hh : hi ≤ w.heap.size) : WOwn w lo g cells x := by
 obtain ⟨bl, O, hb⟩ := h
 exact ⟨bl, O, fun q => by have := hb g q; omega, fun b hm => by have := hb b hm; omega⟩
theorem own_nextW {w : World} {x : DWorld} {v3 v4 v5 v6 : Value} {lo g : Nat} (h : WOwn w lo g [.int .i64 x.now, .int .i64 x.events, .int .i64 x.chain.epoch, v3, v4, v5, v6] x) (he : -1000000000 ≤ x.events + 1 ∧ x.events + 1 ≤ 1000000000) : WOwn w lo g [.int .i64 x.now, .int .i64 (x.events + 1), .int .i64 x.chain.epoch, v3, v4, v5, v6] (nextW x) := by
 obtain ⟨bl, O, hg, hb⟩ := h
 obtain ⟨a3, d3, a4, d4, a5, d5, a6, d6, g2, g4, g5, g6, hq, rfl, O2, O4, O5, O6, w0, w1⟩ := own_World O
 simp only [List.cons.injEq, and_true, true_and] at hq
 obtain ⟨rfl, rfl, rfl, rfl⟩ := hq
 exact ⟨_, mkOwn_World (x := nextW x) O2 O4 O5 O6 w0 (wf_of_bd he) O.2.1, hg, hb⟩
theorem own_badW {w : World} {c : Int} {lo hi : Nat} (hc : -1000000000 ≤ c ∧ c ≤ 1000000000) (h : lo ≤ hi) : Lay.tWorldResult.OwnIn w [.int .i64 c, .bool false, .int .i64 0, .int .i64 0, .int .i64 0, .slice none 0 0, .slice none 0 0, .slice none 0 0, .slice none 0 0] (badWorld c) lo hi := by
 have q : Lay.tWorld.OwnIn w [.int .i64 0, .int .i64 0, .int .i64 0, .slice none 0 0, .slice none 0 0, .slice none 0 0, .slice none 0 0] noWorld lo hi :=
  (own_worldC (x := noWorld) (l3 := lo) (h3 := lo) (l4 := lo) (h4 := lo) (l5 := lo) (h5 := lo) (l6 := lo) (h6 := lo) nil_own nil_own nil_own nil_own (Nat.le_refl _) (Nat.le_refl _) (Nat.le_refl _) (Nat.le_refl _) (Nat.le_refl _) (Nat.le_refl _) (Nat.le_refl _) ⟨by decide, by decide, by decide⟩).mono (Nat.le_refl _) h
 obtain ⟨bl, O, hb⟩ := q
 exact ⟨bl, mkOwn_WorldResult (x := badWorld c) O (wf_of_bd hc) O.2.1, hb⟩
theorem own_okW {w : World} {m : Bool} {cells : List Value} {x : DWorld} {lo hi : Nat} (h : Lay.tWorld.OwnIn w cells x lo hi) : Lay.tWorldResult.OwnIn w ([.int .i64 0] ++ ([.bool m] ++ cells)) ⟨0, m, x⟩ lo hi := by
 obtain ⟨bl, O, hb⟩ := h
 exact ⟨bl, mkOwn_WorldResult (x := ⟨0, m, x⟩) O (show (Lit.int .i64 0).wf = true by decide) O.2.1, hb⟩
def resW (c : Int) (mv : Bool) (z : DWorld) : DWorldResult := if c = 0 then ⟨0, mv, z⟩ else badWorld c
def StepC (L N : Nat) (cap : Array Value) (y : DWorld) (c : Int) (mv : Bool) (z : DWorld) (W : World) : Prop :=
 ∀ (g lo : Nat) (v3 v4 v5 v6 : Value), L ≤ lo → Box 0 #[.int .i64 y.now, .int .i64 y.events, .int .i64 y.chain.epoch, v3, v4, v5, v6] 36 W g → lo ≤ g → WOwn W lo g [.int .i64 y.now, .int .i64 y.events, .int .i64 y.chain.epoch, v3, v4, v5, v6] y →
  Calls Tryz.prog N (#[.pointer (some ⟨g, 0, none⟩)] ++ cap) W fun e W' => ∃ m, e = .returned (.tuple #[.bool m, .int .i64 c]) ∧ (c = 0 → m = mv ∧ ∃ (u3 u4 u5 u6 : Value), Box 0 #[.int .i64 z.now, .int .i64 z.events, .int .i64 z.chain.epoch, u3, u4, u5, u6] 36 W' g ∧ WOwn W' lo g [.int .i64 z.now, .int .i64 z.events, .int .i64 z.chain.epoch, u3, u4, u5, u6] z) ∧ Ext (fun q => lo ≤ q) W W'
theorem below_of_ext {w w' : World} {lo : Nat} (e : Ext (fun q => lo ≤ q) w w') (h : lo ≤ w.heap.size) : Below lo w w' := e.below h fun k hk hn => by omega
namespace Lay
variable {α : Type} {A : Lay α} {w w' : World}
def Apart (A : Lay α) (w : World) (v : Value) (xs : List α) (b : Nat) (r : List Nat) : Prop := (sl A).lies w [v] xs (b :: r) ∧ b ∉ r ∧ ∀ o, w.frozen? ⟨b, o, none⟩ = false
theorem apart_of_own {v : Value} {xs : List α} {bl : List Nat} (h : (sl A).Own w [v] xs bl) (hp : 0 < xs.length) : ∃ b off cap r, v = .slice (some ⟨b, off, none⟩) xs.length cap ∧ bl = b :: r ∧ A.Apart w v xs b r := by
 obtain ⟨hl, hnd, hf⟩ := h
 have hl2 := hl
 obtain ⟨ao, cp, e, hsz, hor⟩ := hl2
 obtain rfl : v = .slice ao xs.length cp := by simpa using e
 rcases hor with ⟨rfl, -⟩ | ⟨b, off, rows, bls, rfl, hb, rfl, hr, hbl, hj⟩
 ·
  simp at hp
 rw [List.nodup_cons] at hnd
 exact ⟨b, off, cp, bls.flatten, rfl, rfl, hl, hnd.1, fun o => hf b (by simp) o⟩
theorem Apart.row {b off cap k n : Nat} {xs : List α} {r : List Nat} (h : A.Apart w (.slice (some ⟨b, off, none⟩) n cap) xs b r) (hk : k < xs.length) : ∃ row, RowAt w w b (off + k * A.n) A.n row [] ∧ ∃ blk, A.lies w row xs[k] blk ∧ (∀ c ∈ blk, c ∈ r) := by
 obtain ⟨⟨ao, cp, e, hsz, hor⟩, hnb, hf⟩ := h
 simp only [List.cons.injEq, Value.slice.injEq, and_true] at e
 obtain ⟨rfl, rfl, rfl⟩ := e
 rcases hor with ⟨rfl, h0⟩ | ⟨b', off', rows, bls, e2, hb, e3, hr, hbl, hj⟩
 ·
  simp at hk
 simp only [Option.some.injEq, Addr.mk.injEq, and_true] at e2
 obtain ⟨rfl, rfl⟩ := e2
 rw [List.cons.injEq] at e3
 obtain ⟨-, rfl⟩ := e3
 obtain ⟨hc, hlie⟩ := hj k hk (by omega) (by omega)
 exact ⟨rows[k]'(by omega), ⟨A.len hlie, hc, fun _ _ => rfl, hf, hb, Ext.refl _ _⟩, bls[k]'(by omega), hlie, fun c hc => List.mem_flatten.2 ⟨_, List.getElem_mem _, hc⟩⟩
theorem Apart.put {b off cap k n : Nat} {xs : List α} {r : List Nat} (h : A.Apart w (.slice (some ⟨b, off, none⟩) n cap) xs b r) (hk : k < xs.length) {row' : List Value} {x' : α} {blk' : List Nat}
  (hR : RowAt w w' b (off + k * A.n) A.n row' []) (hO : A.lies w' row' x' blk') (hd : b ∉ blk') :
  ∃ r', A.Apart w' (.slice (some ⟨b, off, none⟩) n cap) (xs.set k x') b r' ∧ (∀ c ∈ r', c ∈ r ∨ c ∈ blk') ∧ (r.Nodup → blk'.Nodup → (∀ c ∈ blk', c ∉ r) → r'.Nodup) := by
 obtain ⟨⟨ao, cp, e, hsz, hor⟩, hnb, hf⟩ := h
 simp only [List.cons.injEq, Value.slice.injEq, and_true] at e
 obtain ⟨rfl, rfl, rfl⟩ := e
 rcases hor with ⟨rfl, h0⟩ | ⟨b', off', rows, bls, e2, hb, e3, hr, hbl, hj⟩
 ·
  simp at hk
 simp only [Option.some.injEq, Addr.mk.injEq, and_true] at e2
 obtain ⟨rfl, rfl⟩ := e2
 rw [List.cons.injEq] at e3
 obtain ⟨-, rfl⟩ := e3
 have hkb : k < bls.length := by omega
 have hmem : ∀ c ∈ (bls.set k blk').flatten, c ∈ bls.flatten ∨ c ∈ blk' := by
  intro c hc
  obtain ⟨l, hl1, hl2⟩ := List.mem_flatten.1 hc
  rcases List.mem_or_eq_of_mem_set hl1 with q | rfl
  ·
   exact Or.inl (List.mem_flatten.2 ⟨l, q, hl2⟩)
  exact Or.inr hl2
 have hkeep : ∀ c, c < w.heap.size → c ≠ b → w'.heap[c]? = w.heap[c]? := fun c hlt h1 => hR.ext.block c hlt (by rintro (h | h); exact h1 h; cases h)
 refine ⟨(bls.set k blk').flatten, ⟨⟨some ⟨b, off, none⟩, cap, by simp, by simpa using hsz, Or.inr ⟨b, off, rows.set k row', bls.set k blk', rfl, hR.lt, rfl, by simpa using hr, by simpa using hbl, fun j h1 h2 h3 => ?_⟩⟩, ?_, fun o => hR.soft o⟩, hmem, ?_⟩
 ·
  have h1' : j < xs.length := by simpa using h1
  have h2' : j < rows.length := by simpa using h2
  have h3' : j < bls.length := by simpa using h3
  by_cases e : j = k
  ·
   subst e
   rw [List.getElem_set_self, List.getElem_set_self, List.getElem_set_self]
   exact ⟨hR.cells, hO⟩
  rw [List.getElem_set_ne (by omega), List.getElem_set_ne (by omega), List.getElem_set_ne (by omega)]
  obtain ⟨c1, c2⟩ := hj j h1' h2' h3'
  refine ⟨fun m hm => ?_, A.keep c2 fun c hm => hkeep c (A.lt c2 c hm) (fun e3 => hnb (e3 ▸ List.mem_flatten.2 ⟨_, List.getElem_mem h3', hm⟩))⟩
  rw [hR.others _ ?_]
  ·
   exact c1 m hm
  rcases Nat.lt_or_ge j k with h | h
  ·
   left
   have : (j + 1) * A.n ≤ k * A.n := Nat.mul_le_mul_right _ h
   rw [Nat.add_mul] at this
   omega
  right
  have : (k + 1) * A.n ≤ j * A.n := Nat.mul_le_mul_right _ (by omega)
  rw [Nat.add_mul] at this
  omega
 ·
  intro hc
  rcases hmem b hc with q | q
  ·
   exact hnb q
  exact hd q
 intro hn1 hn2 hn3
 have hfl := nodup_flat hn1
 rw [List.nodup_iff_pairwise_ne, List.pairwise_flatten]
 refine ⟨fun l hl => ?_, ?_⟩
 ·
  rcases List.mem_or_eq_of_mem_set hl with q | rfl
  ·
   exact List.nodup_iff_pairwise_ne.1 (hfl.1 l q)
  exact List.nodup_iff_pairwise_ne.1 hn2
 rw [List.pairwise_iff_getElem]
 intro i j hi hj2 hij x hx y hy exy
 subst exy
 have hi' : i < bls.length := by simpa using hi
 have hj' : j < bls.length := by simpa using hj2
 by_cases e1 : i = k
 ·
  subst e1
  rw [List.getElem_set_self] at hx
  rw [List.getElem_set_ne (by omega)] at hy
  exact hn3 x hx (List.mem_flatten.2 ⟨_, List.getElem_mem hj', hy⟩)
 rw [List.getElem_set_ne (by omega)] at hx
 by_cases e2 : j = k
 ·
  subst e2
  rw [List.getElem_set_self] at hy
  exact hn3 x hy (List.mem_flatten.2 ⟨_, List.getElem_mem hi', hx⟩)
 rw [List.getElem_set_ne (by omega)] at hy
 exact hfl.2 i j hi' hj' (by omega) x hx hy
end Lay
theorem Lay.Apart.ext {α : Type} {A : Lay α} {w w' : World} {v : Value} {xs : List α} {b : Nat} {r : List Nat} {S : Nat → Prop} (h : A.Apart w v xs b r) (e : Ext S w w') (hb : ¬ S b) (hr : ∀ c ∈ r, ¬ S c) : A.Apart w' v xs b r := by
 obtain ⟨hl, hn, hf⟩ := h
 have hlt := (Lay.sl A).lt hl
 have hk : ∀ c ∈ b :: r, w'.heap[c]? = w.heap[c]? := fun c hc => e.block c (hlt c hc) (by
  rcases List.mem_cons.1 hc with rfl | hc
  ·
   exact hb
  exact hr c hc)
 exact ⟨(Lay.sl A).keep hl hk, hn, fun o => (frozen_of_heap (hk b (by simp)) o).trans (hf o)⟩
structure WBl where
 a3 : Option Addr
 d3 : Nat
 b : Nat
 off : Nat
 d4 : Nat
 a5 : Option Addr
 d5 : Nat
 a6 : Option Addr
 d6 : Nat
 l3 : List Nat
 r : List Nat
 l5 : List Nat
 l6 : List Nat
def WBl.cells (q : WBl) (x : DWorld) : List Value := [.int .i64 x.now, .int .i64 x.events, .int .i64 x.chain.epoch, .slice q.a3 x.chain.ids.length q.d3, .slice (some ⟨q.b, q.off, none⟩) x.nodes.length q.d4, .slice q.a5 x.msgs.length q.d5, .slice q.a6 x.history.length q.d6]
structure WLie (W : World) (q : WBl) (x : DWorld) : Prop where
 w0 : (Lit.int .i64 x.now).wf = true
 w1 : (Lit.int .i64 x.events).wf = true
 w2 : (Lit.int .i64 x.chain.epoch).wf = true
 i3 : (Lay.sl Lay.int).lies W [.slice q.a3 x.chain.ids.length q.d3] x.chain.ids q.l3
 i4 : Lay.tNode.Apart W (.slice (some ⟨q.b, q.off, none⟩) x.nodes.length q.d4) x.nodes q.b q.r
 i5 : (Lay.sl Lay.tMsg).lies W [.slice q.a5 x.msgs.length q.d5] x.msgs q.l5
 i6 : (Lay.sl Lay.tEntry).lies W [.slice q.a6 x.history.length q.d6] x.history q.l6
 n3 : q.b ∉ q.l3
 n5 : q.b ∉ q.l5
 n6 : q.b ∉ q.l6
def WSt (W : World) (lo hi : Nat) (G : Nat → Prop) (cells : List Value) (x : DWorld) : Prop := ∃ q : WBl, cells = q.cells x ∧ WLie W q x ∧ (lo ≤ q.b ∧ q.b < hi) ∧ ¬ G q.b ∧ (∀ c ∈ q.l3, ¬ G c) ∧ (∀ c ∈ q.r, ¬ G c) ∧ (∀ c ∈ q.l5, ¬ G c) ∧ (∀ c ∈ q.l6, ¬ G c)
def WNew (W : World) (lo hi : Nat) (cells : List Value) (x : DWorld) : Prop := ∃ q : WBl, cells = q.cells x ∧ WLie W q x ∧ (lo ≤ q.b ∧ q.b < hi) ∧ (∀ c ∈ q.l3, lo ≤ c ∧ c < hi) ∧ (∀ c ∈ q.r, lo ≤ c ∧ c < hi) ∧ (∀ c ∈ q.l5, lo ≤ c ∧ c < hi) ∧ (∀ c ∈ q.l6, lo ≤ c ∧ c < hi)
theorem WLie.ext {W W' : World} {q : WBl} {x : DWorld} {S : Nat → Prop} (h : WLie W q x) (e : Ext S W W') (hs : ∀ c, c < W.heap.size → (c = q.b ∨ c ∈ q.l3 ∨ c ∈ q.r ∨ c ∈ q.l5 ∨ c ∈ q.l6) → ¬ S c) : WLie W' q x := by
 have l3 := (Lay.sl Lay.int).lt h.i3
 have l4 := (Lay.sl Lay.tNode).lt h.i4.1
 have l5 := (Lay.sl Lay.tMsg).lt h.i5
 have l6 := (Lay.sl Lay.tEntry).lt h.i6
 exact ⟨h.w0, h.w1, h.w2, (Lay.sl Lay.int).keep h.i3 (fun c hc => e.block c (l3 c hc) (hs c (l3 c hc) (Or.inr (Or.inl hc)))),
  h.i4.ext e (hs q.b (l4 q.b (by simp)) (Or.inl rfl)) (fun c hc => hs c (l4 c (by simp [hc])) (Or.inr (Or.inr (Or.inl hc)))),
  (Lay.sl Lay.tMsg).keep h.i5 (fun c hc => e.block c (l5 c hc) (hs c (l5 c hc) (Or.inr (Or.inr (Or.inr (Or.inl hc)))))),
  (Lay.sl Lay.tEntry).keep h.i6 (fun c hc => e.block c (l6 c hc) (hs c (l6 c hc) (Or.inr (Or.inr (Or.inr (Or.inr hc)))))), h.n3, h.n5, h.n6⟩
theorem WLie.reads {W : World} {q : WBl} {x : DWorld} (h : WLie W q x) : Lay.tWorld.Reads W (q.cells x) x :=
 ⟨q.l3 ++ ((q.b :: q.r) ++ (q.l5 ++ q.l6)), lies_World.2 ⟨q.a3, q.d3, q.l3, _, q.d4, _, q.a5, q.d5, q.l5, q.a6, q.d6, q.l6, rfl, rfl, h.w0, h.w1, h.w2, h.i3, h.i4.1, h.i5, h.i6⟩⟩
theorem WSt.ext {S : Nat → Prop} {W W' : World} {lo hi : Nat} {G : Nat → Prop} {cells : List Value} {x : DWorld} (h : WSt W lo hi G cells x) (e : Ext S W W') (hs : ∀ k, k < W.heap.size → ¬ G k → ¬ S k) : WSt W' lo hi G cells x := by
 obtain ⟨q, rfl, hl, hb, h4, h3, hr, h5, h6⟩ := h
 refine ⟨q, rfl, hl.ext e (fun c hc hm => hs c hc ?_), hb, h4, h3, hr, h5, h6⟩
 rcases hm with rfl | hm | hm | hm | hm
 ·
  exact h4
 ·
  exact h3 c hm
 ·
  exact hr c hm
 ·
  exact h5 c hm
 exact h6 c hm
theorem WSt.liesIn {W : World} {lo hi B : Nat} {G : Nat → Prop} {cells : List Value} {x : DWorld} (h : WSt W lo hi G cells x) (hB : ∀ c, ¬ G c → B ≤ c) : Lay.tWorld.LiesIn W cells x B W.heap.size := by
 obtain ⟨q, rfl, hl, hb, h4, h3, hr, h5, h6⟩ := h
 refine ⟨q.l3 ++ ((q.b :: q.r) ++ (q.l5 ++ q.l6)), lies_World.2 ⟨q.a3, q.d3, q.l3, _, q.d4, _, q.a5, q.d5, q.l5, q.a6, q.d6, q.l6, rfl, rfl, hl.w0, hl.w1, hl.w2, hl.i3, hl.i4.1, hl.i5, hl.i6⟩, fun c hc => ?_⟩
 rcases List.mem_append.1 hc with hm | hm
 ·
  exact ⟨hB c (h3 c hm), (Lay.sl Lay.int).lt hl.i3 c hm⟩
 rcases List.mem_append.1 hm with hm | hm
 ·
  refine ⟨hB c ?_, (Lay.sl Lay.tNode).lt hl.i4.1 c hm⟩
  rcases List.mem_cons.1 hm with rfl | hm
  ·
   exact h4
  exact hr c hm
 rcases List.mem_append.1 hm with hm | hm
 ·
  exact ⟨hB c (h5 c hm), (Lay.sl Lay.tMsg).lt hl.i5 c hm⟩
 exact ⟨hB c (h6 c hm), (Lay.sl Lay.tEntry).lt hl.i6 c hm⟩
theorem okR_lies {W : World} {m : Bool} {cells : List Value} {x : DWorld} {lo hi : Nat} (h : Lay.tWorld.LiesIn W cells x lo hi) : Lay.tWorldResult.LiesIn W ([.int .i64 0] ++ ([.bool m] ++ cells)) ⟨0, m, x⟩ lo hi := by
 obtain ⟨bl, l, hb⟩ := h
 exact ⟨bl, ⟨[.int .i64 0], [.bool m] ++ cells, [], bl, rfl, by simp, ⟨rfl, (show (Lit.int .i64 0).wf = true by decide), rfl⟩, ⟨[.bool m], cells, [], bl, rfl, by simp, ⟨rfl, rfl⟩, l⟩⟩, hb⟩
theorem WNew.reads {W : World} {lo hi : Nat} {cells : List Value} {x : DWorld} (h : WNew W lo hi cells x) : Lay.tWorld.Reads W cells x := by
 obtain ⟨q, rfl, hl, -⟩ := h
 exact hl.reads
theorem WNew.st {W : World} {lo hi : Nat} {G : Nat → Prop} {cells : List Value} {x : DWorld} (h : WNew W lo hi cells x) (hg : ∀ k, G k → hi ≤ k ∨ k < lo) : WSt W lo hi G cells x := by
 obtain ⟨q, rfl, hl, hb, h3, hr, h5, h6⟩ := h
 exact ⟨q, rfl, hl, hb, fun e => by have := hg _ e; omega, fun c hm e => by have := h3 c hm; have := hg c e; omega, fun c hm e => by have := hr c hm; have := hg c e; omega, fun c hm e => by have := h5 c hm; have := hg c e; omega, fun c hm e => by have := h6 c hm; have := hg c e; omega⟩
def wfM (n : DNode) : Prop := (Lit.int .i64 n.id).wf = true ∧ (Lit.int .i64 n.epoch).wf = true ∧ (Lit.int .i64 n.lease).wf = true ∧ (Lit.int .i64 n.sure).wf = true ∧ (Lit.int .i64 n.clean).wf = true
theorem infoAppNode : (Tryz.prog.info? 84).map (fun i => (i.zero, i.size, i.bytes)) = some (some (.agg #[.int .i64 0, .bool false, .int .i64 0, .int .i64 0, .slice none 0 0, .int .i64 0, .int .i64 0]), 7, 72) := by kernel_rfl
theorem one_Node {w : World} {row : List Value} {x : DNode} {bl : List Nat} (h : Lay.tNode.lies w row x bl) : (∀ u ∈ row, u.oneCell' = true) ∧ row.length = 1 * 7 := by
 obtain ⟨_, _, _, rfl, -⟩ := lies_Node.1 h
 simp [Value.oneCell']
theorem wpList_append_Node {w1 : World} {base : Nat} {v : Value} {rows : List (List Value)} {xs : List DNode} {bls : List (List Nat)} (hG : Grow Lay.tNode w1 base 84 v rows xs bls) {row : List Value} {x : DNode} {bl : List Nat} (hl : Lay.tNode.lies w1 row x bl) (hbl : ∀ b ∈ bl, v.ownBlock ≠ some b) {ops : Array Oper} {rest : List Oper} {o : Oper} {a : Act} {Q : Exit → Act → World → Prop} (hgd : o.guard = none) (s y : Operand)
  (ho : o.op = .call { callee := .builtin .append, args := #[s, y], argTypes := #[32, 32] }) (hs : a.eval s = v) (hy : a.eval y = .slice (some ⟨w1.heap.size, 0, none⟩) 1 1) (hn : xs.length + 1 ≤ 100000000) (hbase : base ≤ w1.heap.size)
  (h : ∀ g cap w', Grow Lay.tNode w' base 84 (.slice (some ⟨g, 0, none⟩) (xs.length + 1) cap) (rows ++ [row]) (xs ++ [x]) (bls ++ [bl]) → Below base w1 w' → Ext (fun q => v.ownBlock = some q) w1 w' → g < w'.heap.size → w1.heap.size ≤ w'.heap.size → (v.ownBlock = some g ∨ w1.heap.size ≤ g) → wpList Tryz.prog ops Q rest (a.put o.dst (.slice (some ⟨g, 0, none⟩) (xs.length + 1) cap)) w') :
  wpList Tryz.prog ops Q (o :: rest) a (w1.alloc (.cells row.toArray 84)) := by
 obtain ⟨i0, hi0, hz0, hz1, hz2⟩ := info_parts infoAppNode
 obtain ⟨h1, hlen⟩ := one_Node hl
 refine wpList_append_lies _ hgd s y 32 ho base 84 i0 _ 7 72 Tryz.underlying32 hi0 hz0 hz1 hz2 rfl (by omega) v xs.length rows.flatten hs (hG.own.alloc _) ⟨w1.heap.size, 0, none⟩ 1 1 row hy hlen (World.news_of_block (cs := row.toArray) (t := 84) (fr := (0, 0)) (heap_alloc_new w1 _)) h1 (by omega) (by unfold maxLen; omega) (by omega) (by simp; omega) (w1.alloc (.cells row.toArray 84)).heap.size rfl ?_
 intro g cap w' h2 h3 h4 h5
 have hg := grown_alloc h3
 have hbw : Below base w1 w' := (Below.refl _ _).grown hg hbase (fun j hj => (hG.own.lt j hj).1)
 have hor : v.ownBlock = some g ∨ w1.heap.size ≤ g := by
  rcases h4 with h4 | h4
  ·
   exact Or.inl h4
  exact Or.inr (by rw [h4]; simp)
 exact h g cap w' (hG.snoc hl hbl h2 hg hor) hbw ⟨hbw.os, hbw.tape, hbw.output, hbw.size, fun k hk hn => hg.block k hk (fun e => hn e.symm)⟩ h5 hbw.size hor
theorem step_append_Node {w1 : World} {base : Nat} {v : Value} {rows : List (List Value)} {xs : List DNode} {bls : List (List Nat)} (hG : Grow Lay.tNode w1 base 84 v rows xs bls) {row : List Value} {x : DNode} {bl : List Nat} (hl : Lay.tNode.lies w1 row x bl) (hbl : ∀ b ∈ bl, v.ownBlock ≠ some b) {ops : Array Oper} {o : Oper} {a : Act} {K : Act → World → Prop} {Q : Exit → Act → World → Prop} {E : Prop} (hgd : o.guard = none) (s y : Operand)
  (ho : o.op = .call { callee := .builtin .append, args := #[s, y], argTypes := #[32, 32] }) (hs : a.eval s = v) (hy : a.eval y = .slice (some ⟨w1.heap.size, 0, none⟩) 1 1) (hn : xs.length + 1 ≤ 100000000) (hbase : base ≤ w1.heap.size)
  (h : ∀ g cap w', Grow Lay.tNode w' base 84 (.slice (some ⟨g, 0, none⟩) (xs.length + 1) cap) (rows ++ [row]) (xs ++ [x]) (bls ++ [bl]) → Below base w1 w' → Ext (fun q => v.ownBlock = some q) w1 w' → g < w'.heap.size → w1.heap.size ≤ w'.heap.size → (v.ownBlock = some g ∨ w1.heap.size ≤ g) → K (a.put o.dst (.slice (some ⟨g, 0, none⟩) (xs.length + 1) cap)) w') :
  if Region.wanted o (yielded ops a.tmps) = true then Oper.wp Tryz.prog o a (w1.alloc (.cells row.toArray 84)) K Q else E := by
 obtain ⟨i0, hi0, hz0, hz1, hz2⟩ := info_parts infoAppNode
 obtain ⟨h1, hlen⟩ := one_Node hl
 refine step_append_lies _ hgd s y 32 ho base 84 i0 _ 7 72 Tryz.underlying32 hi0 hz0 hz1 hz2 rfl (by omega) v xs.length rows.flatten hs (hG.own.alloc _) ⟨w1.heap.size, 0, none⟩ 1 1 row hy hlen (World.news_of_block (cs := row.toArray) (t := 84) (fr := (0, 0)) (heap_alloc_new w1 _)) h1 (by omega) (by unfold maxLen; omega) (by omega) (by simp; omega) (w1.alloc (.cells row.toArray 84)).heap.size rfl ?_
 intro g cap w' h2 h3 h4 h5
 have hg := grown_alloc h3
 have hbw : Below base w1 w' := (Below.refl _ _).grown hg hbase (fun j hj => (hG.own.lt j hj).1)
 have hor : v.ownBlock = some g ∨ w1.heap.size ≤ g := by
  rcases h4 with h4 | h4
  ·
   exact Or.inl h4
  exact Or.inr (by rw [h4]; simp)
 exact h g cap w' (hG.snoc hl hbl h2 hg hor) hbw ⟨hbw.os, hbw.tape, hbw.output, hbw.size, fun k hk hn => hg.block k hk (fun e => hn e.symm)⟩ h5 hbw.size hor
theorem infoAppEntry : (Tryz.prog.info? 127).map (fun i => (i.zero, i.size, i.bytes)) = some (some (.agg #[.int .i64 0, .int .i64 0, .int .i64 0, .int .i64 0, .slice none 0 0, .int .i64 0, .int .i64 0, .int .i64 0, .int .i64 0, .slice none 0 0, .slice none 0 0]), 11, 136) := by kernel_rfl
theorem one_Entry {w : World} {row : List Value} {x : DEntry} {bl : List Nat} (h : Lay.tEntry.lies w row x bl) : (∀ u ∈ row, u.oneCell' = true) ∧ row.length = 1 * 11 := by
 obtain ⟨_, _, _, _, _, _, _, _, _, rfl, -⟩ := lies_Entry.1 h
 simp [Value.oneCell']
theorem wpList_append_Entry {w1 : World} {base : Nat} {v : Value} {rows : List (List Value)} {xs : List DEntry} {bls : List (List Nat)} (hG : Grow Lay.tEntry w1 base 127 v rows xs bls) {row : List Value} {x : DEntry} {bl : List Nat} (hl : Lay.tEntry.lies w1 row x bl) (hbl : ∀ b ∈ bl, v.ownBlock ≠ some b) {ops : Array Oper} {rest : List Oper} {o : Oper} {a : Act} {Q : Exit → Act → World → Prop} (hgd : o.guard = none) (s y : Operand)
  (ho : o.op = .call { callee := .builtin .append, args := #[s, y], argTypes := #[34, 34] }) (hs : a.eval s = v) (hy : a.eval y = .slice (some ⟨w1.heap.size, 0, none⟩) 1 1) (hn : xs.length + 1 ≤ 100000000) (hbase : base ≤ w1.heap.size)
  (h : ∀ g cap w', Grow Lay.tEntry w' base 127 (.slice (some ⟨g, 0, none⟩) (xs.length + 1) cap) (rows ++ [row]) (xs ++ [x]) (bls ++ [bl]) → Below base w1 w' → Ext (fun q => v.ownBlock = some q) w1 w' → g < w'.heap.size → w1.heap.size ≤ w'.heap.size → (v.ownBlock = some g ∨ w1.heap.size ≤ g) → wpList Tryz.prog ops Q rest (a.put o.dst (.slice (some ⟨g, 0, none⟩) (xs.length + 1) cap)) w') :
  wpList Tryz.prog ops Q (o :: rest) a (w1.alloc (.cells row.toArray 127)) := by
 obtain ⟨i0, hi0, hz0, hz1, hz2⟩ := info_parts infoAppEntry
 obtain ⟨h1, hlen⟩ := one_Entry hl
 refine wpList_append_lies _ hgd s y 34 ho base 127 i0 _ 11 136 Tryz.underlying34 hi0 hz0 hz1 hz2 rfl (by omega) v xs.length rows.flatten hs (hG.own.alloc _) ⟨w1.heap.size, 0, none⟩ 1 1 row hy hlen (World.news_of_block (cs := row.toArray) (t := 127) (fr := (0, 0)) (heap_alloc_new w1 _)) h1 (by omega) (by unfold maxLen; omega) (by omega) (by simp; omega) (w1.alloc (.cells row.toArray 127)).heap.size rfl ?_
 intro g cap w' h2 h3 h4 h5
 have hg := grown_alloc h3
 have hbw : Below base w1 w' := (Below.refl _ _).grown hg hbase (fun j hj => (hG.own.lt j hj).1)
 have hor : v.ownBlock = some g ∨ w1.heap.size ≤ g := by
  rcases h4 with h4 | h4
  ·
   exact Or.inl h4
  exact Or.inr (by rw [h4]; simp)
 exact h g cap w' (hG.snoc hl hbl h2 hg hor) hbw ⟨hbw.os, hbw.tape, hbw.output, hbw.size, fun k hk hn => hg.block k hk (fun e => hn e.symm)⟩ h5 hbw.size hor
theorem infoAppHit : (Tryz.prog.info? 196).map (fun i => (i.zero, i.size, i.bytes)) = some (some (.agg #[.int .i64 0, .int .i64 0]), 2, 16) := by kernel_rfl
theorem one_Hit {w : World} {row : List Value} {x : DHit} {bl : List Nat} (h : Lay.tHit.lies w row x bl) : (∀ u ∈ row, u.oneCell' = true) ∧ row.length = 1 * 2 := by
 obtain ⟨rfl, -⟩ := lies_Hit.1 h
 simp [Value.oneCell']
theorem append_noneL {P : Program} (t ty e : TypeId) (i : TypeInfo) (ht : P.underlying t = some (.slice e)) (hi : P.info? e = some i) (bo : Option Addr) (n cap c : Nat) (hn : n ≤ cap) (w : World) :
  (Builtin.append_ #[t, t] ty #[.slice bo n cap, .slice none 0 c]).run P w = (Builtin.append_ #[t, t] ty #[.slice bo n cap, .slice (some ⟨0, 0, none⟩) 0 c]).run P w := by
 simp [Builtin.append_, run_underlying ht, sizeOf, typeInfo, hi, Builtin.lenOf, hn, Builtin.firstCells, loadCells, loadCellsFrom]
theorem flat_lenL {n : Nat} : ∀ {rows : List (List Value)}, (∀ r ∈ rows, r.length = n) → rows.flatten.length = rows.length * n
 | [], _ => by simp
 | r :: rows, h => by
  rw [List.flatten_cons, List.length_append, h r (by simp), flat_lenL (fun q hq => h q (List.mem_cons_of_mem _ hq)), List.length_cons, Nat.add_mul]
  omega
theorem addr_add (b off j : Nat) : (⟨b, off, none⟩ : Addr).add j = ⟨b, off + j, none⟩ := by unfold Addr.add; split <;> simp_all
theorem news_rows {α : Type} {A : Lay α} {w : World} {b off : Nat} {ys : List α} {rows : List (List Value)} {bls : List (List Nat)} (hn : 0 < A.n) (h : A.Rows w b off ys rows bls) :
  rows.flatten.length = ys.length * A.n ∧ ∀ j u, rows.flatten[j]? = some u → w.cell? ((⟨b, off, none⟩ : Addr).add j) = some u := by
 obtain ⟨h1, h2, h3⟩ := h
 have hl : ∀ r ∈ rows, r.length = A.n := fun r hr => by
  obtain ⟨j, hj, rfl⟩ := List.getElem_of_mem hr
  exact A.len (h3 j (by omega) hj (by omega)).2
 have hf := flat_lenL hl
 refine ⟨by rw [hf, h1], fun j u hu => ?_⟩
 have hj : j < rows.flatten.length := by
  rcases Nat.lt_or_ge j rows.flatten.length with hq | hq
  ·
   exact hq
  rw [List.getElem?_eq_none hq] at hu; simp at hu
 have hm : j % A.n < A.n := Nat.mod_lt _ hn
 have hd : j / A.n < rows.length := by
  rw [hf] at hj
  exact Nat.div_lt_of_lt_mul (by rw [Nat.mul_comm]; exact hj)
 have hjm : j / A.n * A.n + j % A.n = j := by rw [Nat.mul_comm]; exact Nat.div_add_mod j A.n
 have e1 := Lay.flat_at hl (j / A.n) (j % A.n) hd hm
 rw [hjm, hu] at e1
 have e2 := (h3 (j / A.n) (by omega) hd (by omega)).1 (j % A.n) hm
 rw [addr_add, ← hjm, ← Nat.add_assoc, e2, ← e1]
theorem Grow.more {α : Type} {A : Lay α} {P : Program} {w : World} {base e : Nat} {v : Value} {rows : List (List Value)} {xs : List α} {bls : List (List Nat)} (hG : Grow A w base e v rows xs bls)
  (hone : ∀ {w : World} {row : List Value} {x : α} {bl : List Nat}, A.lies w row x bl → ∀ u ∈ row, u.oneCell' = true) (hn0 : 0 < A.n)
  (t ty : TypeId) (i : TypeInfo) (z : Value) (bytes : Nat) (ht : P.underlying t = some (.slice e)) (hi : P.info? e = some i) (hz : i.zero = some z) (hsize : i.size = A.n) (hby : i.bytes = bytes) (hzs : z.cells.size = A.n)
  {X : Value} {ys : List α} (hX : (Lay.sl A).LiesIn w [X] ys 0 base) (hn : xs.length + ys.length ≤ 100000000) (hbytes : bytes ≤ 1000) (hbase : base ≤ w.heap.size) :
  ∃ v' w' rows' bls', (Builtin.append_ #[t, t] ty #[v, X]).run P w = .ok v' w' ∧ Grow A w' base e v' rows' (xs ++ ys) bls' ∧ w.grownBy w' v.ownBlock ∧ (v'.ownBlock = v.ownBlock ∨ v'.ownBlock = some w.heap.size) := by
 have hml : xs.length + ys.length ≤ maxLen := by unfold maxLen; omega
 have hbb : (xs.length + ys.length) * bytes ≤ 140737488355328 := by have := Nat.mul_le_mul hn hbytes; omega
 have hown := hG.own
 obtain ⟨bl, ⟨ao, cap, hv, hcap, hcase⟩, hlt⟩ := hX
 obtain rfl : X = .slice ao ys.length cap := by simpa using hv
 rcases hcase with ⟨rfl, rfl⟩ | ⟨b, off, rowsY, blsY, rfl, hb, rfl, hR⟩
 ·
  have key : ∃ v' w', (Builtin.append_ #[t, t] ty #[v, .slice ao 0 cap]).run P w = .ok v' w' ∧ w'.ownsRow base e A.n v' (xs.length + 0) (rows.flatten ++ []) ∧ w.grownBy w' v.ownBlock ∧ (v'.ownBlock = v.ownBlock ∨ v'.ownBlock = some w.heap.size) := by
   cases ao with
   | none =>
    obtain ⟨v', w', r1, r2, r3, -, r5⟩ := run_append_own_at (P := P) w base t ty e i z A.n bytes ht hi hz hsize hby hzs hn0 v xs.length rows.flatten hown ⟨0, 0, none⟩ 0 cap [] (by simp) (by simp) (by simp) hml hbb hbase
    refine ⟨v', w', ?_, r2, r3, r5⟩
    rcases hown.2 with ⟨rfl, h0⟩ | ⟨g, cp, cur, rfl, _, _, hle, _⟩
    ·
     exact (append_noneL _ _ _ i ht hi none 0 0 cap (Nat.le_refl _) w).trans r1
    exact (append_noneL _ _ _ i ht hi _ _ cp cap hle w).trans r1
   | some ad =>
    obtain ⟨v', w', r1, r2, r3, -, r5⟩ := run_append_own_at (P := P) w base t ty e i z A.n bytes ht hi hz hsize hby hzs hn0 v xs.length rows.flatten hown ad 0 cap [] (by simp) (by simp) (by simp) hml hbb hbase
    exact ⟨v', w', r1, r2, r3, r5⟩
  obtain ⟨v', w', r1, r2, r3, r5⟩ := key
  refine ⟨v', w', rows, bls, r1, ?_, r3, r5⟩
  rw [List.append_nil] at r2 ⊢
  have hk : ∀ b ∈ bls.flatten, w'.heap[b]? = w.heap[b]? := fun b hm => r3.block b (hG.sub_lt b hm) (fun e => hG.off b hm e.symm)
  refine ⟨r2, hG.nrows, hG.nbls, fun j h1 h2 h3 => A.keep (hG.lies j h1 h2 h3) fun b hb => hk b (List.mem_flatten.2 ⟨_, List.getElem_mem _, hb⟩), fun b hm e => ?_⟩
  rcases r5 with r5 | r5
  ·
   exact hG.off b hm (r5.symm.trans e)
  rw [r5] at e
  have := hG.sub_lt b hm
  have := Option.some.inj e
  omega
 obtain ⟨hfl, hnews⟩ := news_rows hn0 hR
 have hR2 := hR
 obtain ⟨q1, q2, q3⟩ := hR2
 obtain ⟨v', w', r1, r2, r3, -, r5⟩ := run_append_own_at (P := P) w base t ty e i z A.n bytes ht hi hz hsize hby hzs hn0 v xs.length rows.flatten hown ⟨b, off, none⟩ ys.length cap rowsY.flatten hfl hnews (fun u hu => by
  obtain ⟨r, hr, hur⟩ := List.mem_flatten.1 hu
  obtain ⟨j, hj, rfl⟩ := List.getElem_of_mem hr
  exact hone (q3 j (by omega) hj (by omega)).2 u hur) hml hbb hbase
 have hkX : ∀ c ∈ blsY.flatten, c < base := fun c hc => (hlt c (List.mem_cons_of_mem _ hc)).2
 have hk : ∀ b ∈ bls.flatten, w'.heap[b]? = w.heap[b]? := fun b hm => r3.block b (hG.sub_lt b hm) (fun e => hG.off b hm e.symm)
 have hk2 : ∀ c ∈ blsY.flatten, w'.heap[c]? = w.heap[c]? := fun c hm => r3.block c (by have := hkX c hm; omega) (fun e => by
  have := (hown.lt c e.symm).1
  have := hkX c hm
  omega)
 refine ⟨v', w', rows ++ rowsY, bls ++ blsY, r1, ⟨?_, by simp [hG.nrows, q1], by simp [hG.nbls, q2], fun j h1 h2 h3 => ?_, ?_⟩, r3, r5⟩
 ·
  rw [List.flatten_append, List.length_append]
  exact r2
 ·
  by_cases hj : j < xs.length
  ·
   have ee := hG.lies j hj (by have := hG.nrows; omega) (by have := hG.nbls; omega)
   rw [List.getElem_append_left (by have := hG.nrows; omega), List.getElem_append_left hj, List.getElem_append_left (by have := hG.nbls; omega)]
   exact A.keep ee fun b hm => hk b (List.mem_flatten.2 ⟨_, List.getElem_mem _, hm⟩)
  have n1 := hG.nrows
  have n2 := hG.nbls
  have n3 : j - xs.length < ys.length := by simp at h1; omega
  rw [List.getElem_append_right (by omega), List.getElem_append_right (by omega), List.getElem_append_right (by omega)]
  have ee := (q3 (j - xs.length) n3 (by omega) (by omega)).2
  simp only [n1, n2]
  exact A.keep ee fun b hm => hk2 b (List.mem_flatten.2 ⟨_, List.getElem_mem _, hm⟩)
 intro c hm ee
 rw [List.flatten_append] at hm
 rcases r5 with r5 | r5
 ·
  rcases List.mem_append.1 hm with hm | hm
  ·
   exact hG.off c hm (r5.symm.trans ee)
  have := (hown.lt c (r5.symm.trans ee)).1
  have := hkX c hm
  omega
 rw [r5] at ee
 have := Option.some.inj ee
 rcases List.mem_append.1 hm with hm | hm
 ·
  have := hG.sub_lt c hm
  omega
 have := hkX c hm
 omega
theorem run_append_hitsL {w : World} {base : Nat} {v : Value} {rows : List (List Value)} {xs : List DHit} {bls : List (List Nat)} (hG : Grow Lay.tHit w base 196 v rows xs bls) {X : Value} {ys : List DHit} (hX : (Lay.sl Lay.tHit).LiesIn w [X] ys 0 base) (hn : xs.length + ys.length ≤ 100000000) (hbase : base ≤ w.heap.size) (ty : TypeId) :
  ∃ v' w' rows' bls', (Builtin.append_ #[53, 53] ty #[v, X]).run Tryz.prog w = .ok v' w' ∧ Grow Lay.tHit w' base 196 v' rows' (xs ++ ys) bls' ∧ w.grownBy w' v.ownBlock ∧ (v'.ownBlock = v.ownBlock ∨ v'.ownBlock = some w.heap.size) := by
 obtain ⟨i0, hi0, hz0, hz1, hz2⟩ := info_parts infoAppHit
 exact hG.more (fun h => (one_Hit h).1) (by decide) 53 ty i0 _ 16 Tryz.underlying53 hi0 hz0 hz1 hz2 rfl hX hn (by omega) hbase
theorem wpList_append_hitsL {w : World} {base : Nat} {v : Value} {rows : List (List Value)} {xs : List DHit} {bls : List (List Nat)} (hG : Grow Lay.tHit w base 196 v rows xs bls) {X : Value} {ys : List DHit} (hX : (Lay.sl Lay.tHit).LiesIn w [X] ys 0 base) {ops : Array Oper} {rest : List Oper} {o : Oper} {a : Act} {Q : Exit → Act → World → Prop} (hgd : o.guard = none) (s y : Operand)
  (ho : o.op = .call { callee := .builtin .append, args := #[s, y], argTypes := #[53, 53] }) (hs : a.eval s = v) (hy : a.eval y = X) (hn : xs.length + ys.length ≤ 100000000) (hbase : base ≤ w.heap.size)
  (h : ∀ a' m' cap' w' rows' bls', Grow Lay.tHit w' base 196 (.slice a' m' cap') rows' (xs ++ ys) bls' → Below base w w' → m' = xs.length + ys.length → w.heap.size ≤ w'.heap.size → wpList Tryz.prog ops Q rest (a.put o.dst (.slice a' m' cap')) w') :
  wpList Tryz.prog ops Q (o :: rest) a w := by
 refine wpList_plain hgd fun K hK => ?_
 obtain ⟨v', w', rows', bls', hr, h2, h3, h4⟩ := run_append_hitsL hG hX hn hbase o.type
 unfold Oper.wp execOp
 simp only [ho, resolve, invoke, builtin, Sem.run_bind, Sem.run_pure, Result.andThen_ok, List.map_toArray, List.map_cons, List.map_nil, hs, hy, hr]
 have hbw : Below base w w' := (Below.refl _ _).grown h3 hbase (fun j hj => (hG.own.lt j hj).1)
 rcases h2.form with ⟨rfl, h0⟩ | ⟨g, cap, rfl, hg, hgl, hcap⟩
 ·
  refine hK _ _ (h _ _ _ w' rows' bls' h2 hbw ?_ hbw.size)
  have : (xs ++ ys).length = 0 := by rw [h0]; rfl
  rw [List.length_append] at this
  omega
 exact hK _ _ (h _ _ _ w' rows' bls' h2 hbw (by rw [List.length_append]) hbw.size)
theorem sl_take_own {α : Type} {A : Lay α} {w : World} {xs : List α} {b off cap n lo hi : Nat} (h : (Lay.sl A).OwnIn w [.slice (some ⟨b, off, none⟩) n cap] xs lo hi) (k : Nat) (hk : k ≤ xs.length) : (Lay.sl A).OwnIn w [.slice (some ⟨b, off, none⟩) k cap] (xs.take k) lo hi := by
 have hl : (xs.take k).length = k := by rw [List.length_take]; omega
 obtain ⟨bl, ⟨⟨ao, cap', he, ⟨h1, h2⟩, hor⟩, hnd, hfz⟩, hr⟩ := h
 simp only [List.cons.injEq, Value.slice.injEq, and_true] at he
 obtain ⟨rfl, rfl, rfl⟩ := he
 rcases hor with ⟨rfl, -⟩ | ⟨b', off', rows, bls, he, hb, rfl, n1, n2, hj⟩
 ·
  obtain rfl : k = 0 := by simpa using hk
  exact ⟨[], ⟨⟨_, _, rfl, ⟨by simp, by simp⟩, Or.inl ⟨rfl, rfl⟩⟩, by simp, by simp⟩, by simp⟩
 simp only [Option.some.injEq, Addr.mk.injEq, and_true] at he
 obtain ⟨rfl, rfl⟩ := he
 have hsub : ∀ c ∈ b :: (bls.take k).flatten, c ∈ b :: bls.flatten := by
  intro c hc
  rcases List.mem_cons.1 hc with rfl | hc
  ·
   simp
  obtain ⟨l, h3, h4⟩ := List.mem_flatten.1 hc
  exact List.mem_cons_of_mem _ (List.mem_flatten.2 ⟨l, List.mem_of_mem_take h3, h4⟩)
 refine ⟨b :: (bls.take k).flatten, ⟨⟨_, _, by rw [hl], ⟨by omega, by omega⟩, Or.inr ⟨b, off, rows.take k, bls.take k, rfl, hb, rfl, by simp [n1], by simp [n2], fun j q1 q2 q3 => ?_⟩⟩, ?_, fun c hc => hfz c (hsub c hc)⟩, fun c hc => hr c (hsub c hc)⟩
 ·
  simp only [List.getElem_take]
  rw [List.length_take] at q1 q2 q3
  exact hj j (by omega) (by omega) (by omega)
 refine List.Nodup.sublist ?_ hnd
 refine List.Sublist.cons_cons _ ?_
 conv => rhs; rw [← List.take_append_drop k bls]
 rw [List.flatten_append]
 exact List.sublist_append_left _ _
theorem sl_take_lies {α : Type} {A : Lay α} {w : World} {xs : List α} {a : Option Addr} {cap n lo hi : Nat} (h : (Lay.sl A).LiesIn w [.slice a n cap] xs lo hi) (k : Nat) (hk : k ≤ xs.length) : (Lay.sl A).LiesIn w [.slice a k cap] (xs.take k) lo hi := by
 have hl : (xs.take k).length = k := by rw [List.length_take]; omega
 obtain ⟨bl, ⟨ao, cap', he, ⟨h1, h2⟩, hor⟩, hr⟩ := h
 simp only [List.cons.injEq, Value.slice.injEq, and_true] at he
 obtain ⟨rfl, rfl, rfl⟩ := he
 rcases hor with ⟨rfl, -⟩ | ⟨b', off', rows, bls, rfl, hb, rfl, n1, n2, hj⟩
 ·
  obtain rfl : k = 0 := by simpa using hk
  exact ⟨[], ⟨_, _, rfl, ⟨by simp, by simp⟩, Or.inl ⟨rfl, rfl⟩⟩, by simp⟩
 refine ⟨b' :: (bls.take k).flatten, ⟨_, _, by rw [hl], ⟨by omega, by omega⟩, Or.inr ⟨b', off', rows.take k, bls.take k, rfl, hb, rfl, by simp [n1], by simp [n2], fun j q1 q2 q3 => ?_⟩⟩, fun c hc => hr c ?_⟩
 ·
  simp only [List.getElem_take]
  rw [List.length_take] at q1 q2 q3
  exact hj j (by omega) (by omega) (by omega)
 rcases List.mem_cons.1 hc with rfl | hc
 ·
  simp
 obtain ⟨l, h3, h4⟩ := List.mem_flatten.1 hc
 exact List.mem_cons_of_mem _ (List.mem_flatten.2 ⟨l, List.mem_of_mem_take h3, h4⟩)
theorem specWrites_pos (b off cap : Nat) (ws : List DWrite) (w : World) (h : (Lay.sl Lay.tWrite).Reads w [.slice (some ⟨b, off, none⟩) ws.length cap] ws) (hbl : b < w.heap.size) (hn : ws.length ≤ 200) :
  Calls Tryz.prog 285 #[.slice (some ⟨b, off, none⟩) ws.length cap] w fun e w' => e = .returned (.int .i64 (writesF ws)) ∧ w' = w := by
 have HW : Hid (writesF ws = wsFrom ws) := by show writesF ws = wsFrom ws; rw [writesF, if_neg (by omega)]
 have H := yh h
 clear h
 go_enter Tryz.func285, Tryz.ntmps285
 go_wp2_with fail
 go_loop [3] (fun i => ∃ k : Nat, k ≤ ws.length ∧ i = .int .i64 k ∧ (∀ j (hj : j < ws.length), j < k → wF ws[j] = 0)) (fun i => ws.length - (intOf i).toNat)
 case atStart => exact ⟨0, Nat.zero_le _, rfl, fun j _ hj => by omega⟩
 case round =>
  obtain ⟨k, hk, rfl, hz⟩ := hrel
  by_cases hlt : k < ws.length
  ·
   obtain ⟨row, hc, hr⟩ := Lay.row_at (uh H) hlt
   obtain ⟨a2, d2, rfl, R2⟩ := open_Write hr
   have c0 : w.cell? ⟨b, off + k * 5, none⟩ = some (.int .i64 (ws[k]).kind) := ((Below.refl w.heap.size w).cell (p := ⟨b, off + k * 5, none⟩) hbl).trans (hc 0 (by decide))
   have c1 : w.cell? ⟨b, off + k * 5 + 1, none⟩ = some (.int .i64 (ws[k]).id) := ((Below.refl w.heap.size w).cell (p := ⟨b, off + k * 5 + 1, none⟩) hbl).trans (hc 1 (by decide))
   have c2 : w.cell? ⟨b, off + k * 5 + 2, none⟩ = some (.slice a2 (ws[k]).vec.length d2) := ((Below.refl w.heap.size w).cell (p := ⟨b, off + k * 5 + 2, none⟩) hbl).trans (hc 2 (by decide))
   have c3 : w.cell? ⟨b, off + k * 5 + 3, none⟩ = some (.int .i64 (ws[k]).session) := ((Below.refl w.heap.size w).cell (p := ⟨b, off + k * 5 + 3, none⟩) hbl).trans (hc 3 (by decide))
   have c4 : w.cell? ⟨b, off + k * 5 + 4, none⟩ = some (.int .i64 (ws[k]).seq) := ((Below.refl w.heap.size w).cell (p := ⟨b, off + k * 5 + 4, none⟩) hbl).trans (hc 4 (by decide))
   have HZ := yh hz
   have HAT : Hid (wF ws[k] ≠ 0 → writesF ws = wF ws[k]) := fun hn => (uh HW).trans (wsFrom_at ws k hlt hz hn)
   have HZ2 : Hid (wF ws[k] = 0 → ∀ j (hj : j < ws.length), j < k + 1 → wF ws[j] = 0) := by
    intro h0 j hj hjk
    by_cases hjk2 : j < k
    ·
     exact uh HZ j hj hjk2
    obtain rfl : j = k := by omega
    exact h0
   clear hc hr hz HZ
   generalize hx : ws[k] = x at *
   clear hx
   have L := l3FaultO b (off + k * 5) x.kind x.id _ x.session x.seq x.vec w ⟨c0, c1, c2, c3, c4⟩ (Lay.ints_reads R2)
   rw [show writeFault x.kind x.id x.vec x.session x.seq = wF x from rfl] at L
   have HL := yh L
   clear L R2 c0 c1 c2 c3 c4
   go_wp2_with fail
   refine (uh HL).mono ?_
   rintro e w ⟨rfl, rfl⟩
   by_cases hf : wF x = 0
   ·
    rw [hf]
    have HZ3 := yh (uh HZ2 hf)
    clear hf HZ2 HAT HL
    go_wp2_with fail
    go_round
    case rel => exact ⟨k + 1, by omega, by go_num, uh HZ3⟩
    case measure => simp [intOf]; omega
   have hd : (wF x != 0) = true := by simpa using hf
   have HG := yh (uh HAT hf)
   clear hf HZ2 HAT HL
   go_wp2_with fail
   go_ret
   exact ⟨by rw [uh HG]; rfl, rfl⟩
  have HG : Hid (writesF ws = 0) := (uh HW).trans (wsFrom_all ws fun j hj => hz j hj (by omega))
  clear hz H
  go_wp2_with fail
  go_ret
  exact ⟨by rw [uh HG]; rfl, rfl⟩
theorem specWrites (v : Value) (ws : List DWrite) (w : World) (h : (Lay.sl Lay.tWrite).Reads w [v] ws) :
  Calls Tryz.prog 285 #[v] w fun e w' => e = .returned (.int .i64 (writesF ws)) ∧ w' = w := by
 obtain ⟨ao, cap, rfl⟩ := open_sl h
 by_cases hn : ws.length ≤ 200
 ·
  by_cases hp : 0 < ws.length
  ·
   obtain ⟨b, off, rfl, hbl⟩ := Lay.sl_addr h hp
   exact specWrites_pos b off cap ws w h hbl hn
  obtain rfl : ws = [] := List.eq_nil_of_length_eq_zero (by omega)
  clear h hn hp
  go_enter Tryz.func285, Tryz.ntmps285
  go_wp2_with fail
  refine wp_loop_rounds 1 ?_
  rw [rounds_succ]
  go_wp2_with fail
  go_ret
  exact ⟨rfl, rfl⟩
 have e : writesF ws = 2 := by rw [writesF, if_pos (by omega)]
 rw [e]
 have hd : decide ((200 : Int) < (ws.length : Int)) = true := by simp; omega
 clear h e
 go_enter Tryz.func285, Tryz.ntmps285
 go_wp2_with fail
 go_ret
 exact ⟨rfl, rfl⟩
theorem l1MaxC (x y : Int) (w : World) : Calls Tryz.prog 323 #[.int .i64 x, .int .i64 y] w fun e w' => e = .returned (.int .i64 (max x y)) ∧ w' = w := by
 by_cases h : y < x
 ·
  have d : decide (y < x) = true := by simpa using h
  have e : max x y = x := by omega
  rw [e]
  go_enter Tryz.func323, Tryz.ntmps323
  go_wp2
  go_ret
  exact ⟨rfl, rfl⟩
 have d : decide (y < x) = false := by simpa using h
 have e : max x y = y := by omega
 rw [e]
 go_enter Tryz.func323, Tryz.ntmps323
 go_wp2
 go_ret
 exact ⟨rfl, rfl⟩
theorem l5Last_pos (b off cap : Nat) (ws : List DWrite) (s : Int) (w : World) (h : (Lay.sl Lay.tWrite).Reads w [.slice (some ⟨b, off, none⟩) ws.length cap] ws) (hbl : b < w.heap.size) (hn : ws.length ≤ 10000000) :
  Calls Tryz.prog 310 #[.slice (some ⟨b, off, none⟩) ws.length cap, .int .i64 s] w fun e w' => e = .returned (.int .i64 (lastI ws s)) ∧ w' = w := by
 have H := yh h
 clear h
 go_enter Tryz.func310, Tryz.ntmps310
 go_wp2_with fail
 go_loop [5, 6] (fun m i => ∃ k : Nat, k ≤ ws.length ∧ i = .int .i64 k ∧ m = .int .i64 (lastI (ws.take k) s)) (fun _ i => ws.length - (intOf i).toNat)
 case atStart => exact ⟨0, Nat.zero_le _, rfl, rfl⟩
 case round =>
  obtain ⟨k, hk, rfl, rfl⟩ := hrel
  by_cases hlt : k < ws.length
  ·
   obtain ⟨row, hc, hr⟩ := Lay.row_at (uh H) hlt
   obtain ⟨a2, d2, rfl, R2⟩ := open_Write hr
   have c3 : w.cell? ⟨b, off + k * 5 + 3, none⟩ = some (.int .i64 (ws[k]).session) := hc 3 (by decide)
   have c4 : w.cell? ⟨b, off + k * 5 + 4, none⟩ = some (.int .i64 (ws[k]).seq) := hc 4 (by decide)
   have HT := yh (lastI_take ws k hlt s)
   clear hc hr R2
   generalize hx : ws[k] = x at *
   clear hx
   by_cases hs : x.session = s
   ·
    have ds : (x.session == s) = true := by simpa using hs
    have HL := yh (fun W => l1MaxC (lastI (ws.take k) s) x.seq W)
    have HT2 : Hid (lastI (ws.take (k + 1)) s = max (lastI (ws.take k) s) x.seq) := by
     have := uh HT
     rw [if_pos hs] at this
     exact this
    clear HT hs
    generalize hl : lastI (ws.take k) s = l at *
    clear hl
    go_wp2_with fail
    refine (uh HL _).mono ?_
    rintro e w2 ⟨rfl, rfl⟩
    go_wp2_with fail
    go_round
    case rel => exact ⟨k + 1, by omega, by go_num, by rw [uh HT2]⟩
    case measure => simp [intOf]; omega
   have ds : (x.session == s) = false := by simpa using hs
   have HT2 : Hid (lastI (ws.take (k + 1)) s = lastI (ws.take k) s) := by
    have := uh HT
    rw [if_neg hs] at this
    exact this
   clear HT hs
   go_wp2_with fail
   go_round
   case rel => exact ⟨k + 1, by omega, by go_num, by rw [uh HT2]⟩
   case measure => simp [intOf]; omega
  obtain rfl : k = ws.length := by omega
  rw [List.take_length]
  clear H
  go_wp2_with fail
  go_ret
  exact ⟨rfl, rfl⟩
theorem l5LastC (v : Value) (ws : List DWrite) (s : Int) (w : World) (h : (Lay.sl Lay.tWrite).Reads w [v] ws) (hn : ws.length ≤ 10000000) :
  Calls Tryz.prog 310 #[v, .int .i64 s] w fun e w' => e = .returned (.int .i64 (lastI ws s)) ∧ w' = w := by
 obtain ⟨ao, cap, rfl⟩ := open_sl h
 by_cases hp : 0 < ws.length
 ·
  obtain ⟨b, off, rfl, hbl⟩ := Lay.sl_addr h hp
  exact l5Last_pos b off cap ws s w h hbl hn
 obtain rfl : ws = [] := List.eq_nil_of_length_eq_zero (by omega)
 clear h hn hp
 go_enter Tryz.func310, Tryz.ntmps310
 go_wp2_with fail
 refine wp_loop_rounds 1 ?_
 rw [rounds_succ]
 go_wp2_with fail
 go_ret
 exact ⟨rfl, rfl⟩
theorem sl_take {α : Type} {A : Lay α} {w : World} {xs : List α} {b off cap : Nat} (h : (Lay.sl A).Reads w [.slice (some ⟨b, off, none⟩) xs.length cap] xs) (k : Nat) (hk : k ≤ xs.length) : (Lay.sl A).Reads w [.slice (some ⟨b, off, none⟩) k cap] (xs.take k) := by
 have hl : (xs.take k).length = k := by rw [List.length_take]; omega
 obtain ⟨bl, ao, cap', he, ⟨h1, h2⟩, hor⟩ := h
 simp only [List.cons.injEq, Value.slice.injEq, true_and, and_true] at he
 obtain ⟨rfl, rfl⟩ := he
 rcases hor with ⟨rfl, -⟩ | ⟨b', off', rows, bls, he, hb, -, n1, n2, hj⟩
 ·
  obtain rfl : k = 0 := by simpa using hk
  exact ⟨[], _, _, rfl, ⟨by simp, by simp⟩, Or.inl ⟨rfl, rfl⟩⟩
 simp only [Option.some.injEq, Addr.mk.injEq, and_true] at he
 obtain ⟨rfl, rfl⟩ := he
 refine ⟨b :: (bls.take k).flatten, _, _, by rw [hl], ⟨by omega, by omega⟩, Or.inr ⟨b, off, rows.take k, bls.take k, rfl, hb, rfl, by simp [n1], by simp [n2], fun j q1 q2 q3 => ?_⟩⟩
 simp only [List.getElem_take]
 rw [List.length_take] at q1 q2 q3
 exact hj j (by omega) (by omega) (by omega)
theorem l5Once_pos (b off cap : Nat) (ws : List DWrite) (w : World) (h : (Lay.sl Lay.tWrite).Reads w [.slice (some ⟨b, off, none⟩) ws.length cap] ws) (hn : ws.length ≤ 10000000) :
  Calls Tryz.prog 286 #[.slice (some ⟨b, off, none⟩) ws.length cap] w fun e w' => e = .returned (.bool (onceB [] ws)) ∧ Below w.heap.size w w' := by
 have H := yh h
 have hcap : ws.length ≤ cap := by obtain ⟨bl, ao, cap', he, ⟨h1, h2⟩, hor⟩ := h; simp only [List.cons.injEq, Value.slice.injEq, true_and, and_true] at he; omega
 clear h
 go_enter Tryz.func286, Tryz.ntmps286
 go_wp2_with fail
 go_loopw [3] (fun i wr => ∃ k : Nat, k ≤ ws.length ∧ i = .int .i64 k ∧ (∀ j (hj : j < ws.length), j < k → lastI ([] ++ ws.take j) (ws[j]).session < (ws[j]).seq) ∧ Below w.heap.size w wr) (fun i _ => ws.length - (intOf i).toNat)
 case atStart => exact ⟨0, Nat.zero_le _, rfl, fun j _ hj => by omega, Below.refl _ _⟩
 case round =>
  obtain ⟨k, hk, rfl, hz, hB⟩ := hrel
  by_cases hlt : k < ws.length
  ·
   obtain ⟨row, hc, hr⟩ := Lay.row_at ((uh H).later hB) hlt
   obtain ⟨a2, d2, rfl, R2⟩ := open_Write hr
   have c3 : wr.cell? ⟨b, off + k * 5 + 3, none⟩ = some (.int .i64 (ws[k]).session) := hc 3 (by decide)
   have c4 : wr.cell? ⟨b, off + k * 5 + 4, none⟩ = some (.int .i64 (ws[k]).seq) := hc 4 (by decide)
   have HP : Hid ((Lay.sl Lay.tWrite).Reads wr.drew [.slice (some ⟨b, off, none⟩) k cap] (ws.take k)) := sl_take ((uh H).later hB.drew) k hk
   have HAT : Hid ((ws[k]).seq ≤ lastI (ws.take k) (ws[k]).session → onceB [] ws = false) := fun he => onceB_at ws [] k hlt (by simpa using he)
   have HZ2 : Hid (lastI (ws.take k) (ws[k]).session < (ws[k]).seq → ∀ j (hj : j < ws.length), j < k + 1 → lastI ([] ++ ws.take j) (ws[j]).session < (ws[j]).seq) := by
    intro h0 j hj hjk
    by_cases hjk2 : j < k
    ·
     exact hz j hj hjk2
    obtain rfl : j = k := by omega
    simpa using h0
   have HB := yh hB
   clear hc hr R2 hz hB
   generalize hx : ws[k] = x at *
   clear hx
   have c3 : wr.drew.cell? ⟨b, off + k * 5 + 3, none⟩ = some (.int .i64 x.session) := c3
   have c4 : wr.drew.cell? ⟨b, off + k * 5 + 4, none⟩ = some (.int .i64 x.seq) := c4
   have i1 : (0 : Int) ≤ (k : Int) := by omega
   have i2 : (k : Int) < (ws.length : Int) := by omega
   have i3 : (k : Int) ≤ (cap : Int) := by omega
   go_wp2_with fail
   refine wp_region_noPanic ?_
   refine wp_region_held_drew (S := fun w' => w' = wr.drew) (by kernel_rfl) rfl (fun zq => ?_)
   refine tkH 0 zq ?_
   refine tkH 1 zq ?_
   refine tkJ 2 (v := ?v2) ?h2 zq ?r2
   case h2 =>
    intro wS hSw
    have y3 : wS.cell? ⟨b, off + k * 5 + 3, none⟩ = some (.int .i64 x.session) := by rw [hSw]; exact c3
    have y4 : wS.cell? ⟨b, off + k * 5 + 4, none⟩ = some (.int .i64 x.seq) := by rw [hSw]; exact c4
    clear hSw
    (try dsimp only at hSw)
    go_simp
    try with_reducible rfl
   refine tkH 3 zq ?_
   refine tkH 4 zq ?_
   refine tkJ 5 (v := ?v5) ?h5 zq ?r5
   case h5 =>
    intro wS hSw
    have y3 : wS.cell? ⟨b, off + k * 5 + 3, none⟩ = some (.int .i64 x.session) := by rw [hSw]; exact c3
    have y4 : wS.cell? ⟨b, off + k * 5 + 4, none⟩ = some (.int .i64 x.seq) := by rw [hSw]; exact c4
    clear hSw
    (try dsimp only at hSw)
    go_simp
    try with_reducible rfl
   refine tkH 6 zq ?_
   refine tkJ 7 (v := ?v7) ?h7 zq ?r7
   case h7 =>
    intro wS hSw
    have y3 : wS.cell? ⟨b, off + k * 5 + 3, none⟩ = some (.int .i64 x.session) := by rw [hSw]; exact c3
    have y4 : wS.cell? ⟨b, off + k * 5 + 4, none⟩ = some (.int .i64 x.seq) := by rw [hSw]; exact c4
    clear hSw
    (try dsimp only at hSw)
    go_simp
    try with_reducible rfl
   refine tkH 9 zq ?_
   refine tkH 10 zq ?_
   refine tkJ 11 (v := ?v11) ?h11 zq ?r11
   case h11 =>
    intro wS hSw
    have y3 : wS.cell? ⟨b, off + k * 5 + 3, none⟩ = some (.int .i64 x.session) := by rw [hSw]; exact c3
    have y4 : wS.cell? ⟨b, off + k * 5 + 4, none⟩ = some (.int .i64 x.seq) := by rw [hSw]; exact c4
    clear hSw
    (try dsimp only at hSw)
    go_simp
    try with_reducible rfl
   refine tkH 12 zq ?_
   refine tkJ 13 (v := ?v13) ?h13 zq ?r13
   case h13 =>
    intro wS hSw
    have y3 : wS.cell? ⟨b, off + k * 5 + 3, none⟩ = some (.int .i64 x.session) := by rw [hSw]; exact c3
    have y4 : wS.cell? ⟨b, off + k * 5 + 4, none⟩ = some (.int .i64 x.seq) := by rw [hSw]; exact c4
    clear hSw
    (try dsimp only at hSw)
    go_simp
    try with_reducible rfl
   refine rdH 8 (fun K hK => ?_)
   go_simp
   go_at_call 310
   refine (l5LastC _ (ws.take k) x.session _ (uh HP) (by rw [List.length_take]; omega)).mono ?_
   rintro e w3 ⟨rfl, rfl⟩
   try go_wp2_with fail
   refine hK.out _ _ rfl (fun zq => ?_)
   clear hK K
   try simp only [Act.put, pz, py, px]
   refine tkH 14 zq ?_
   refine wpAnyH_done (by kernel_rfl) ?_ _
   refine NoPanic.normal ?_
   clear zq c3 c4
   by_cases hq : x.seq ≤ lastI (ws.take k) x.session
   ·
    have hd : decide (x.seq ≤ lastI (ws.take k) x.session) = true := by simpa using hq
    have HG := yh (uh HAT hq)
    have HB2 := yh (uh HB).drew
    clear hq HAT HZ2 HP
    rw [hd]
    go_wp2_with fail
    go_ret
    exact ⟨by rw [uh HG]; first | done | rfl, uh HB2⟩
   ·
    have hd : decide (x.seq ≤ lastI (ws.take k) x.session) = false := by simpa using hq
    have HZ := yh (uh HZ2 (by omega))
    have HB2 := yh (uh HB).drew
    clear hq HAT HZ2 HP
    rw [hd]
    go_wp2_with fail
    go_roundw
    case rel => exact ⟨k + 1, by omega, by go_num, uh HZ, uh HB2⟩
    case measure => simp [intOf]; omega
  obtain rfl : k = ws.length := by omega
  have HG : Hid (onceB [] ws = true) := onceB_all ws [] fun j hj => hz j hj hj
  have HB := yh hB
  clear H hz hB
  go_wp2_with fail
  go_ret
  exact ⟨by rw [uh HG]; first | done | rfl, uh HB⟩
theorem l5OnceC (v : Value) (ws : List DWrite) (w : World) (h : (Lay.sl Lay.tWrite).Reads w [v] ws) (hn : ws.length ≤ 10000000) :
  Calls Tryz.prog 286 #[v] w fun e w' => e = .returned (.bool (onceB [] ws)) ∧ Below w.heap.size w w' := by
 obtain ⟨ao, cap, rfl⟩ := open_sl h
 by_cases hp : 0 < ws.length
 ·
  obtain ⟨b, off, rfl, -⟩ := Lay.sl_addr h hp
  exact l5Once_pos b off cap ws w h hn
 obtain rfl : ws = [] := List.eq_nil_of_length_eq_zero (by omega)
 clear h hn hp
 go_enter Tryz.func286, Tryz.ntmps286
 go_wp2_with fail
 refine wp_loop_rounds 1 ?_
 rw [rounds_succ]
 go_wp2_with fail
 go_ret
 exact ⟨rfl, Below.refl _ _⟩
end Go.Proofs.YtoanimpijfijgaaGreat

namespace Go.Proofs.YtoanimpijfijgaaGreat
end Go.Proofs.YtoanimpijfijgaaGreat

namespace Go.Proofs.YtoanimpijfijgaaGreat
open Go.RowKit
theorem infoAppWrite : (Tryz.prog.info? 87).map (fun i => (i.zero, i.size, i.bytes)) = some (some (.agg #[.int .i64 0, .int .i64 0, .slice none 0 0, .int .i64 0, .int .i64 0]), 5, 56) := by kernel_rfl
theorem one_Write {w : World} {row : List Value} {x : DWrite} {bl : List Nat} (h : Lay.tWrite.lies w row x bl) : (∀ u ∈ row, u.oneCell' = true) ∧ row.length = 1 * 5 := by
 obtain ⟨_, _, _, rfl, -⟩ := lies_Write.1 h
 simp [Value.oneCell']
theorem wpList_append_Write {w1 : World} {base : Nat} {v : Value} {rows : List (List Value)} {xs : List DWrite} {bls : List (List Nat)} (hG : Grow Lay.tWrite w1 base 87 v rows xs bls) {row : List Value} {x : DWrite} {bl : List Nat} (hl : Lay.tWrite.lies w1 row x bl) (hbl : ∀ b ∈ bl, v.ownBlock ≠ some b) {ops : Array Oper} {rest : List Oper} {o : Oper} {a : Act} {Q : Exit → Act → World → Prop} (hgd : o.guard = none) (s y : Operand)
  (ho : o.op = .call { callee := .builtin .append, args := #[s, y], argTypes := #[82, 82] }) (hs : a.eval s = v) (hy : a.eval y = .slice (some ⟨w1.heap.size, 0, none⟩) 1 1) (hn : xs.length + 1 ≤ 100000000) (hbase : base ≤ w1.heap.size)
  (h : ∀ g cap w', Grow Lay.tWrite w' base 87 (.slice (some ⟨g, 0, none⟩) (xs.length + 1) cap) (rows ++ [row]) (xs ++ [x]) (bls ++ [bl]) → Below base w1 w' → Ext (fun q => v.ownBlock = some q) w1 w' → g < w'.heap.size → w1.heap.size ≤ w'.heap.size → (v.ownBlock = some g ∨ w1.heap.size ≤ g) → wpList Tryz.prog ops Q rest (a.put o.dst (.slice (some ⟨g, 0, none⟩) (xs.length + 1) cap)) w') :
  wpList Tryz.prog ops Q (o :: rest) a (w1.alloc (.cells row.toArray 87)) := by
 obtain ⟨i0, hi0, hz0, hz1, hz2⟩ := info_parts infoAppWrite
 obtain ⟨h1, hlen⟩ := one_Write hl
 refine wpList_append_lies _ hgd s y 82 ho base 87 i0 _ 5 56 Tryz.underlying82 hi0 hz0 hz1 hz2 rfl (by omega) v xs.length rows.flatten hs (hG.own.alloc _) ⟨w1.heap.size, 0, none⟩ 1 1 row hy hlen (World.news_of_block (cs := row.toArray) (t := 87) (fr := (0, 0)) (heap_alloc_new w1 _)) h1 (by omega) (by unfold maxLen; omega) (by omega) (by simp; omega) (w1.alloc (.cells row.toArray 87)).heap.size rfl ?_
 intro g cap w' h2 h3 h4 h5
 have hg := grown_alloc h3
 have hbw : Below base w1 w' := (Below.refl _ _).grown hg hbase (fun j hj => (hG.own.lt j hj).1)
 have hor : v.ownBlock = some g ∨ w1.heap.size ≤ g := by
  rcases h4 with h4 | h4
  ·
   exact Or.inl h4
  exact Or.inr (by rw [h4]; simp)
 exact h g cap w' (hG.snoc hl hbl h2 hg hor) hbw ⟨hbw.os, hbw.tape, hbw.output, hbw.size, fun k hk hn => hg.block k hk (fun e => hn e.symm)⟩ h5 hbw.size hor
theorem step_append_Write {w1 : World} {base : Nat} {v : Value} {rows : List (List Value)} {xs : List DWrite} {bls : List (List Nat)} (hG : Grow Lay.tWrite w1 base 87 v rows xs bls) {row : List Value} {x : DWrite} {bl : List Nat} (hl : Lay.tWrite.lies w1 row x bl) (hbl : ∀ b ∈ bl, v.ownBlock ≠ some b) {ops : Array Oper} {o : Oper} {a : Act} {K : Act → World → Prop} {Q : Exit → Act → World → Prop} {E : Prop} (hgd : o.guard = none) (s y : Operand)
  (ho : o.op = .call { callee := .builtin .append, args := #[s, y], argTypes := #[82, 82] }) (hs : a.eval s = v) (hy : a.eval y = .slice (some ⟨w1.heap.size, 0, none⟩) 1 1) (hn : xs.length + 1 ≤ 100000000) (hbase : base ≤ w1.heap.size)
  (h : ∀ g cap w', Grow Lay.tWrite w' base 87 (.slice (some ⟨g, 0, none⟩) (xs.length + 1) cap) (rows ++ [row]) (xs ++ [x]) (bls ++ [bl]) → Below base w1 w' → Ext (fun q => v.ownBlock = some q) w1 w' → g < w'.heap.size → w1.heap.size ≤ w'.heap.size → (v.ownBlock = some g ∨ w1.heap.size ≤ g) → K (a.put o.dst (.slice (some ⟨g, 0, none⟩) (xs.length + 1) cap)) w') :
  if Region.wanted o (yielded ops a.tmps) = true then Oper.wp Tryz.prog o a (w1.alloc (.cells row.toArray 87)) K Q else E := by
 obtain ⟨i0, hi0, hz0, hz1, hz2⟩ := info_parts infoAppWrite
 obtain ⟨h1, hlen⟩ := one_Write hl
 refine step_append_lies _ hgd s y 82 ho base 87 i0 _ 5 56 Tryz.underlying82 hi0 hz0 hz1 hz2 rfl (by omega) v xs.length rows.flatten hs (hG.own.alloc _) ⟨w1.heap.size, 0, none⟩ 1 1 row hy hlen (World.news_of_block (cs := row.toArray) (t := 87) (fr := (0, 0)) (heap_alloc_new w1 _)) h1 (by omega) (by unfold maxLen; omega) (by omega) (by simp; omega) (w1.alloc (.cells row.toArray 87)).heap.size rfl ?_
 intro g cap w' h2 h3 h4 h5
 have hg := grown_alloc h3
 have hbw : Below base w1 w' := (Below.refl _ _).grown hg hbase (fun j hj => (hG.own.lt j hj).1)
 have hor : v.ownBlock = some g ∨ w1.heap.size ≤ g := by
  rcases h4 with h4 | h4
  ·
   exact Or.inl h4
  exact Or.inr (by rw [h4]; simp)
 exact h g cap w' (hG.snoc hl hbl h2 hg hor) hbw ⟨hbw.os, hbw.tape, hbw.output, hbw.size, fun k hk hn => hg.block k hk (fun e => hn e.symm)⟩ h5 hbw.size hor
theorem wcopy_pos (b off cap : Nat) (ws : List DWrite) (w : World) (h : (Lay.sl Lay.tWrite).Reads w [.slice (some ⟨b, off, none⟩) ws.length cap] ws) (hbl : b < w.heap.size) (hn : ws.length ≤ 10000000) (hv : ∀ x ∈ ws, x.vec.length ≤ 100000000) :
  Calls Tryz.prog 93 #[.slice (some ⟨b, off, none⟩) ws.length cap] w fun e w' => ∃ v', e = .returned v' ∧ (∃ rows bls, Grow Lay.tWrite w' w.heap.size 87 v' rows ws bls ∧ ∀ c ∈ bls.flatten, w.heap.size ≤ c) ∧ Below w.heap.size w w' := by
 have H := yh h
 have HV := yh hv
 clear h hv
 have HG0 : Hid (Grow Lay.tWrite (w.alloc (.cells #[] 87)) w.heap.size 87 (.slice (some ⟨w.heap.size, 0, none⟩) 0 0) [] [] []) := Grow.nil (World.ownsRow_lit w #[] 0 (Nat.le_refl _) (Nat.zero_le _) rfl)
 have HB0 := yh ((Below.refl w.heap.size w).alloc (Nat.le_refl _) (.cells #[] 87))
 go_enter Tryz.func93, Tryz.ntmps93
 go_wp2_with fail
 go_loopw [3, 4] (fun v i wr => ∃ (k : Nat) (rows : List (List Value)) (bls : List (List Nat)), k ≤ ws.length ∧ i = .int .i64 k ∧ Grow Lay.tWrite wr w.heap.size 87 v rows (ws.take k) bls ∧ (∀ c ∈ bls.flatten, w.heap.size ≤ c) ∧ Below w.heap.size w wr) (fun _ i _ => ws.length - (intOf i).toNat)
 case atStart => exact ⟨0, [], [], Nat.zero_le _, rfl, uh HG0, by simp, uh HB0⟩
 case round =>
  obtain ⟨k, rows, bls, hk, rfl, hG, hSB, hB⟩ := hrel
  have HSB := yh hSB
  clear HG0 HB0 hSB
  by_cases hlt : k < ws.length
  ·
   obtain ⟨row, hc, hr⟩ := Lay.row_at ((uh H).later hB) hlt
   have hr2 := hr
   obtain ⟨a2, d2, rfl, R2⟩ := open_Write hr
   have c0 : wr.cell? ⟨b, off + k * 5, none⟩ = some (.int .i64 (ws[k]).kind) := hc 0 (by decide)
   have c1 : wr.cell? ⟨b, off + k * 5 + 1, none⟩ = some (.int .i64 (ws[k]).id) := hc 1 (by decide)
   have c2 : wr.cell? ⟨b, off + k * 5 + 2, none⟩ = some (.slice a2 (ws[k]).vec.length d2) := hc 2 (by decide)
   have c3 : wr.cell? ⟨b, off + k * 5 + 3, none⟩ = some (.int .i64 (ws[k]).session) := hc 3 (by decide)
   have c4 : wr.cell? ⟨b, off + k * 5 + 4, none⟩ = some (.int .i64 (ws[k]).seq) := hc 4 (by decide)
   have HWF : Hid ((Lit.int .i64 (ws[k]).kind).wf = true ∧ (Lit.int .i64 (ws[k]).id).wf = true ∧ (Lit.int .i64 (ws[k]).session).wf = true ∧ (Lit.int .i64 (ws[k]).seq).wf = true) := by
    obtain ⟨_, hq⟩ := hr2
    obtain ⟨_, _, _, _, _, q0, q1, _, q3, q4⟩ := lies_Write.1 hq
    exact ⟨q0, q1, q3, q4⟩
   have HT : Hid (ws.take (k + 1) = ws.take k ++ [ws[k]]) := List.take_succ_eq_append_getElem hlt
   have HLn : Hid ((ws.take k).length = k) := by show (ws.take k).length = k; rw [List.length_take]; omega
   have HN := yh (uh HV ws[k] (List.getElem_mem hlt))
   clear hc hr hr2
   generalize hx : ws[k] = x at *
   clear hx
   have hbr : b < wr.heap.size := Nat.lt_of_lt_of_le hbl hB.size
   have nb : Below wr.heap.size wr (wr.alloc (.cells #[.int .i64 x.kind, .int .i64 x.id, .slice a2 x.vec.length d2, .int .i64 x.session, .int .i64 x.seq] 87)) := (Below.refl _ _).alloc (Nat.le_refl _) _
   have bI : Box 0 #[.int .i64 x.kind, .int .i64 x.id, .slice a2 x.vec.length d2, .int .i64 x.session, .int .i64 x.seq] 87 (wr.alloc (.cells #[.int .i64 x.kind, .int .i64 x.id, .slice a2 x.vec.length d2, .int .i64 x.session, .int .i64 x.seq] 87)) wr.heap.size := newBox (Nat.zero_le _)
   have HRW := yh (Lay.ints_reads R2).wf
   have HL := yh (l1Ints _ x.vec _ ((Lay.ints_reads R2).later nb) (uh HN))
   have HG := yh (hG.later nb)
   have HB := yh (hB.trans (nb.mono hB.size))
   have HBI := yh bI
   have HZW : Hid (w.heap.size ≤ wr.heap.size) := hB.size
   have HOW : Hid (∀ c, u3.ownBlock = some c → c < wr.heap.size) := fun c hc => (hG.own.lt c hc).2
   have HSL : Hid (∀ c ∈ bls.flatten, c < wr.heap.size) := fun c hc => hG.sub_lt c hc
   clear R2 hG hB nb bI
   go_wp2_with fail
   clear c0 c1 c2 c3 c4
   refine (uh HL).mono ?_
   generalize hW0 : wr.alloc (.cells #[.int .i64 x.kind, .int .i64 x.id, .slice a2 x.vec.length d2, .int .i64 x.session, .int .i64 x.seq] 87) = W0 at *
   clear hW0
   rintro e w2 ⟨v2, rfl, hO, hb⟩
   have hO2 := Lay.ownInts (uh HRW) (by have := uh HN; omega) hO
   obtain ⟨ao2, cp2, rfl⟩ := open_sl hO2.reads
   obtain ⟨bl2, ⟨hl2, -, -⟩, hr2⟩ := hO2
   have bI2 := (uh HBI).keep hb
   have hZ0 : wr.heap.size < W0.heap.size := (uh HBI).lt
   have z0 : w2.cell? ⟨wr.heap.size, 0, none⟩ = some (.int .i64 x.kind) := bI2.at 0 _ rfl
   have z1 : w2.cell? ⟨wr.heap.size, 1, none⟩ = some (.int .i64 x.id) := bI2.at 1 _ rfl
   have z2 : w2.cell? ⟨wr.heap.size, 2, none⟩ = some (.slice a2 x.vec.length d2) := bI2.at 2 _ rfl
   have z3 : w2.cell? ⟨wr.heap.size, 3, none⟩ = some (.int .i64 x.session) := bI2.at 3 _ rfl
   have z4 : w2.cell? ⟨wr.heap.size, 4, none⟩ = some (.int .i64 x.seq) := bI2.at 4 _ rfl
   have f2 := bI2.soft 2
   have l2 := bI2.lt
   have hE : Ext (fun c => c = wr.heap.size) w2 (w2.setCell ⟨wr.heap.size, 2, none⟩ (.slice ao2 x.vec.length cp2)) := (Ext.refl (fun c => c = wr.heap.size) w2).setCell ⟨wr.heap.size, 2, none⟩ _ rfl
   have hl3 : Lay.tWrite.lies (w2.setCell ⟨wr.heap.size, 2, none⟩ (.slice ao2 x.vec.length cp2)) [.int .i64 x.kind, .int .i64 x.id, .slice ao2 x.vec.length cp2, .int .i64 x.session, .int .i64 x.seq] x bl2 := lies_Write.2 ⟨ao2, cp2, bl2, rfl, rfl, (uh HWF).1, (uh HWF).2.1, (Lay.sl Lay.int).keep hl2 (fun c hc => hE.block c ((Lay.sl Lay.int).lt hl2 c hc) (by have := (hr2 c hc).1; omega)), (uh HWF).2.2.1, (uh HWF).2.2.2⟩
   have hG2 := (uh HG).later hb
   have hoff : ∀ c ∈ bl2, u3.ownBlock ≠ some c := fun c hc e => by have h1 := (hr2 c hc).1; have h2 := uh HOW c e; omega
   have HB3 : Hid (Below w.heap.size w (w2.setCell ⟨wr.heap.size, 2, none⟩ (.slice ao2 x.vec.length cp2))) := ((uh HB).trans (hb.mono (uh HB).size)).setCell (by simpa using uh HZW) _
   have hG3 : Grow Lay.tWrite (w2.setCell ⟨wr.heap.size, 2, none⟩ (.slice ao2 x.vec.length cp2)) w.heap.size 87 u3 rows (ws.take k) bls := hG2.kept (by
    obtain ⟨h1, h2⟩ := hG2.own
    refine ⟨h1, ?_⟩
    rcases h2 with h2 | ⟨gb, cap', cur, hv, hg, hh, r⟩
    ·
     exact Or.inl h2
    ·
     exact Or.inr ⟨gb, cap', cur, hv, hg, (hE.block gb (lt_of_block hh) (by have := uh HOW gb (by rw [hv]; rfl); omega)).trans hh, r⟩) (fun c hc => hE.block c (hG2.sub_lt c hc) (fun e => by
    have := uh HSL c hc
    omega))
   have hZ3 : w.heap.size ≤ (w2.setCell ⟨wr.heap.size, 2, none⟩ (.slice ao2 x.vec.length cp2)).heap.size := (uh HB3).size
   have hK : (ws.take k).length + 1 ≤ 100000000 := by rw [uh HLn]; omega
   have y0 : (w2.setCell ⟨wr.heap.size, 2, none⟩ (.slice ao2 x.vec.length cp2)).cell? ⟨wr.heap.size, 0, none⟩ = some (.int .i64 x.kind) := (bI2.set 2 _).at 0 _ rfl
   have y1 : (w2.setCell ⟨wr.heap.size, 2, none⟩ (.slice ao2 x.vec.length cp2)).cell? ⟨wr.heap.size, 1, none⟩ = some (.int .i64 x.id) := (bI2.set 2 _).at 1 _ rfl
   have y2 : (w2.setCell ⟨wr.heap.size, 2, none⟩ (.slice ao2 x.vec.length cp2)).cell? ⟨wr.heap.size, 2, none⟩ = some (.slice ao2 x.vec.length cp2) := (bI2.set 2 _).at 2 _ rfl
   have y3 : (w2.setCell ⟨wr.heap.size, 2, none⟩ (.slice ao2 x.vec.length cp2)).cell? ⟨wr.heap.size, 3, none⟩ = some (.int .i64 x.session) := (bI2.set 2 _).at 3 _ rfl
   have y4 : (w2.setCell ⟨wr.heap.size, 2, none⟩ (.slice ao2 x.vec.length cp2)).cell? ⟨wr.heap.size, 4, none⟩ = some (.int .i64 x.seq) := (bI2.set 2 _).at 4 _ rfl
   have HSB5 : Hid (∀ c ∈ (bls ++ [bl2]).flatten, w.heap.size ≤ c) := by
    intro c hc
    rw [List.flatten_append] at hc
    rcases List.mem_append.1 hc with hc | hc
    ·
     exact uh HSB c hc
    have h1 := (hr2 c (by simpa using hc)).1
    have h2 := uh HZW
    omega
   clear z0 z1 z3 z4 bI2 hE hG2 hl2 hO HG HL HB HBI HRW HN HWF hb hr2 hZ0
   go_upto_region 7 with fail
   generalize w2.setCell ⟨wr.heap.size, 2, none⟩ (.slice ao2 x.vec.length cp2) = W3 at *
   go_wp2_with (at_builtin; refine wpList_append_Write hG3 hl3 hoff rfl _ _ rfl rfl rfl hK hZ3 ?_)
   intro g5 cap5 w5 hG5 hb5 hE5 hg5 hz5 hor5
   have HG5 := yh hG5
   have HB5 := yh ((uh HB3).trans hb5)
   clear hG3 hl3 hoff hZ3 hK hG5 hb5 hE5 hg5 hz5 hor5 HB3 y0 y1 y2 y3 y4 z2 f2 l2
   go_wp2_with fail
   go_roundw
   case rel =>
    have hg := uh HG5
    rw [← uh HT] at hg
    try rw [uh HLn] at hg
    exact ⟨k + 1, _, _, by omega, by go_num, hg, uh HSB5, uh HB5⟩
   case measure => simp [intOf]; omega
  obtain rfl : k = ws.length := by omega
  rw [List.take_length] at hG
  have HG := yh hG
  have HB := yh hB
  clear hG hB H
  go_wp2_with fail
  go_ret
  exact ⟨_, rfl, ⟨_, _, uh HG, uh HSB⟩, uh HB⟩
theorem wcopyC (v : Value) (ws : List DWrite) (w : World) (h : (Lay.sl Lay.tWrite).Reads w [v] ws) (hn : ws.length ≤ 10000000) (hv : ∀ x ∈ ws, x.vec.length ≤ 100000000) :
  Calls Tryz.prog 93 #[v] w fun e w' => ∃ v', e = .returned v' ∧ (∃ rows bls, Grow Lay.tWrite w' w.heap.size 87 v' rows ws bls ∧ ∀ c ∈ bls.flatten, w.heap.size ≤ c) ∧ Below w.heap.size w w' := by
 obtain ⟨ao, cap, rfl⟩ := open_sl h
 by_cases hp : 0 < ws.length
 ·
  obtain ⟨b, off, rfl, hbl⟩ := Lay.sl_addr h hp
  exact wcopy_pos b off cap ws w h hbl hn hv
 obtain rfl : ws = [] := List.eq_nil_of_length_eq_zero (by omega)
 clear h hp hn hv
 have HB := yh ((Below.refl w.heap.size w).alloc (Nat.le_refl _) (.cells #[] 87))
 have HG : Hid (Grow Lay.tWrite (w.alloc (.cells #[] 87)) w.heap.size 87 (.slice (some ⟨w.heap.size, 0, none⟩) 0 0) [] [] []) := Grow.nil (World.ownsRow_lit w #[] 0 (Nat.le_refl _) (Nat.zero_le _) rfl)
 go_enter Tryz.func93, Tryz.ntmps93
 go_wp2_with fail
 refine wp_loop_rounds 1 ?_
 rw [rounds_succ]
 go_wp2_with fail
 go_ret
 exact ⟨_, rfl, ⟨_, _, uh HG, by simp⟩, uh HB⟩
def takenF (ws : List DWrite) : Int := if 40 < ws.length then 2 else if wsFrom ws ≠ 0 then wsFrom ws else if onceB [] ws = false then 6 else 0
def downB (x : DNode) : Bool := (x.sure == (x.writes.length : Int)) && (x.clean == 0 && x.lease == 0)
theorem nf_id {x : DNode} (h : (decide (1 ≤ x.id) && decide (x.id ≤ 5)) = false) : nodeFault x = 3 := by
 simp only [Bool.and_eq_false_iff, decide_eq_false_iff_not] at h
 rw [nodeFault, if_neg (by omega)]
theorem nf_epoch {x : DNode} (h : (decide (0 ≤ x.epoch) && decide (x.epoch ≤ 999)) = false) : nodeFault x = 3 := by
 simp only [Bool.and_eq_false_iff, decide_eq_false_iff_not] at h
 rw [nodeFault, if_neg (by omega)]
theorem nf_lease {x : DNode} (h : (decide (0 ≤ x.lease) && decide (x.lease ≤ 9999)) = false) : nodeFault x = 3 := by
 simp only [Bool.and_eq_false_iff, decide_eq_false_iff_not] at h
 rw [nodeFault, if_neg (by omega)]
theorem nf_rest {x : DNode} (h1 : (decide (1 ≤ x.id) && decide (x.id ≤ 5)) = true) (h2 : (decide (0 ≤ x.epoch) && decide (x.epoch ≤ 999)) = true) (h3 : (decide (0 ≤ x.lease) && decide (x.lease ≤ 9999)) = true) :
  nodeFault x = if takenF x.writes ≠ 0 then takenF x.writes else if (decide (0 ≤ x.sure) && decide (x.sure ≤ (x.writes.length : Int))) = true ∧ (decide (0 ≤ x.clean) && decide (x.clean ≤ x.sure)) = true then (if x.up = false ∧ downB x = false then 1 else 0) else 3 := by
 simp only [Bool.and_eq_true, decide_eq_true_eq] at *
 rw [nodeFault, if_pos (by omega), takenF]
 by_cases q1 : 40 < x.writes.length
 ·
  simp only [if_pos q1]; rfl
 simp only [if_neg q1]
 by_cases q2 : wsFrom x.writes ≠ 0
 ·
  simp only [if_pos q2]
 simp only [if_neg q2]
 by_cases q3 : onceB [] x.writes = false
 ·
  simp only [if_pos q3]; rfl
 simp only [if_neg q3]
 rw [if_neg (by simp : ¬ ((0 : Int) ≠ 0))]
 have e1 : (0 ≤ x.sure ∧ x.sure ≤ (x.writes.length : Int) ∧ 0 ≤ x.clean ∧ x.clean ≤ x.sure) ↔ ((0 ≤ x.sure ∧ x.sure ≤ (x.writes.length : Int)) ∧ 0 ≤ x.clean ∧ x.clean ≤ x.sure) := by constructor <;> (intro h; omega)
 have e2 : ¬ (x.sure = (x.writes.length : Int) ∧ x.clean = 0 ∧ x.lease = 0) ↔ downB x = false := by
  unfold downB
  rw [← Bool.not_eq_true]
  simp
 simp only [e1, e2]
structure RowIn (cs : Array Value) (w : World) (b o : Nat) : Prop where
 lt : b < w.heap.size
 cells : ∀ (i : Nat) (v : Value), cs[i]? = some v → w.cell? ⟨b, o + i, none⟩ = some v
variable {cs : Array Value} {w w' : World} {b o : Nat}
theorem RowIn.at (h : RowIn cs w b o) (i : Nat) (v : Value) (hi : cs[i]? = some v) : w.cell? ⟨b, o + i, none⟩ = some v := h.cells i v hi
theorem RowIn.keep (h : RowIn cs w b o) (hb : Below w.heap.size w w') : RowIn cs w' b o := ⟨Nat.lt_of_lt_of_le h.lt hb.size, fun i v hi => (hb.cell (p := ⟨b, o + i, none⟩) h.lt).trans (h.cells i v hi)⟩
theorem RowIn.drew (h : RowIn cs w b o) : RowIn cs w.drew b o := ⟨h.lt, h.cells⟩
theorem RowIn.ofRow {α : Type} {A : Lay α} {off k : Nat} {row : List Value} (hc : ∀ m, m < A.n → w.cell? ⟨b, off + k * A.n + m, none⟩ = row[m]?) (hl : row.length = A.n) (hb : b < w.heap.size) : RowIn row.toArray w b (off + k * A.n) := ⟨hb, fun i v hi => by
 have h1 : row[i]? = some v := by simpa using hi
 have h2 : i < A.n := by
  rw [← hl]
  rcases Nat.lt_or_ge i row.length with q | q
  ·
   exact q
  rw [List.getElem?_eq_none q] at h1; simp at h1
 rw [hc i h2, h1]⟩
theorem nodeC (x : Int) (w : World) : Calls Tryz.prog 174 #[.int .i64 x] w fun e w' => e = .returned (.bool (decide (1 ≤ x) && decide (x ≤ 5))) ∧ w' = w := by
 go_enter Tryz.func174, Tryz.ntmps174
 go_wp2_with fail
 refine (inC x 1 5 _).mono ?_
 rintro e w1 ⟨rfl, rfl⟩
 go_wp2_with fail
 go_ret
 exact ⟨rfl, rfl⟩
theorem l9FaultO (b o : Nat) (a4 : Option Addr) (d4 : Nat) (x : DNode) (w : World) (hX : RowIn #[.int .i64 x.id, .bool x.up, .int .i64 x.epoch, .int .i64 x.lease, .slice a4 x.writes.length d4, .int .i64 x.sure, .int .i64 x.clean] w b o) (R4 : (Lay.sl Lay.tWrite).Reads w [.slice a4 x.writes.length d4] x.writes) :
  Calls Tryz.prog 243 #[.pointer (some ⟨b, o, none⟩)] w fun e w' => e = .returned (.int .i64 (nodeFault x)) ∧ Below w.heap.size w w' := by
 have hbig := R4.big
 have x0 := hX.at 0 _ rfl
 have x2 := hX.at 2 _ rfl
 have x3 := hX.at 3 _ rfl
 have x4 := hX.at 4 _ rfl
 simp only [List.getElem_toArray, List.getElem_cons_zero, List.getElem_cons_succ, Nat.add_zero] at x0 x2 x3 x4
 have xl := hX.lt
 have HX := yh hX
 have H4 := yh R4
 clear hX R4
 go_enter Tryz.func243, Tryz.ntmps243
 go_wp2_with fail
 refine (nodeC x.id w).mono ?_
 rintro e w1 ⟨rfl, h1⟩
 subst w1
 cases d1 : (decide (1 ≤ x.id) && decide (x.id ≤ 5))
 ·
  have HF := yh (nf_id d1)
  clear d1
  go_wp2_with fail
  go_ret
  exact ⟨by rw [uh HF]; rfl, Below.refl _ _⟩
 go_wp2_with fail
 refine (inC x.epoch 0 999 w).mono ?_
 rintro e w1 ⟨rfl, h1⟩
 subst w1
 cases d2 : (decide (0 ≤ x.epoch) && decide (x.epoch ≤ 999))
 ·
  have HF := yh (nf_epoch d2)
  clear d1 d2
  go_wp2_with fail
  go_ret
  exact ⟨by rw [uh HF]; rfl, Below.refl _ _⟩
 go_wp2_with fail
 refine (inC x.lease 0 9999 w).mono ?_
 rintro e w1 ⟨rfl, h1⟩
 subst w1
 cases d3 : (decide (0 ≤ x.lease) && decide (x.lease ≤ 9999))
 ·
  have HF := yh (nf_lease d3)
  clear d1 d2 d3
  go_wp2_with fail
  go_ret
  exact ⟨by rw [uh HF]; rfl, Below.refl _ _⟩
 have HF := yh (nf_rest d1 d2 d3)
 clear d1 d2 d3
 by_cases hn : 40 < x.writes.length
 ·
  have ht : takenF x.writes = 2 := by rw [takenF, if_pos hn]
  have HF1 := yh ((uh HF).trans (if_pos (by rw [ht]; decide)))
  rw [ht] at HF1
  have hd : decide ((40 : Int) < (x.writes.length : Int)) = true := by simp; omega
  clear HF ht
  go_wp2_with fail
  go_ret
  exact ⟨by rw [uh HF1]; rfl, Below.refl _ _⟩
 have hn2 : x.writes.length ≤ 40 := by omega
 have HW := yh (specWrites _ x.writes w (uh H4))
 have hwf : writesF x.writes = wsFrom x.writes := by rw [writesF, if_neg (by omega)]
 rw [hwf] at HW
 clear hwf
 go_wp2_with fail
 refine (uh HW).mono ?_
 rintro e w1 ⟨rfl, hb1⟩
 subst w1
 by_cases hs : wsFrom x.writes = 0
 ·
  rw [hs]
  have HO := yh (l5OnceC _ x.writes w (uh H4) (by omega))
  have HT : Hid (takenF x.writes = if onceB [] x.writes = false then 6 else 0) := by show takenF x.writes = _; rw [takenF, if_neg hn, if_neg (by simpa using hs)]
  clear HW hs hn
  cases ho : onceB [] x.writes
  ·
   rw [ho] at HO HT
   have HT6 : Hid (takenF x.writes = 6) := uh HT
   have HF1 := yh ((uh HF).trans (if_pos (by rw [uh HT6]; decide)))
   rw [uh HT6] at HF1
   clear ho HT HF HT6
   go_wp2_with fail
   refine (uh HO).mono ?_
   rintro e w2 ⟨rfl, hb⟩
   have HB := yh hb
   clear hb HO
   go_wp2_with fail
   go_ret
   exact ⟨by rw [uh HF1]; rfl, uh HB⟩
  rw [ho] at HO HT
  have HT0 : Hid (takenF x.writes = 0) := uh HT
  have HF1 := yh ((uh HF).trans (if_neg (by rw [uh HT0]; decide)))
  clear ho HT HF HT0
  go_wp2_with fail
  refine (uh HO).mono ?_
  rintro e w2 ⟨rfl, hb⟩
  have HB := yh hb
  have hX2 := (uh HX).keep hb
  have hl2 := hX2.lt
  clear hb HO x0 x2 x3 x4 xl HX H4
  go_wp2_with fail
  cases q4 : (decide (0 ≤ x.sure) && decide (x.sure ≤ (x.writes.length : Int)))
  ·
   have HF2 := yh ((uh HF1).trans (if_neg (by rw [q4]; simp)))
   clear HF1
   refine wp_region_noPanic ?_
   refine wp_region_held_drew (S := fun w' => w' = w2.drew) (by kernel_rfl) rfl (fun zq => ?_)
   refine tkH 0 zq ?_
   refine tkH 1 zq ?_
   refine tkH 2 zq ?_
   refine tkJ 3 (v := ?va3) ?ha3 zq ?ra3
   case ha3 =>
    intro wS hSw
    have y5 : wS.cell? ⟨b, o + 5, none⟩ = some (.int .i64 x.sure) := by rw [hSw]; exact hX2.at 5 _ rfl
    clear hSw
    (try dsimp only at hSw)
    go_simp
    try with_reducible rfl
   refine tkH 4 zq ?_
   refine tkH 5 zq ?_
   refine tkH 6 zq ?_
   refine tkJ 7 (v := ?va7) ?ha7 zq ?ra7
   case ha7 =>
    intro wS hSw
    have y4 : wS.cell? ⟨b, o + 4, none⟩ = some (.slice a4 x.writes.length d4) := by rw [hSw]; exact hX2.at 4 _ rfl
    clear hSw
    (try dsimp only at hSw)
    go_simp
    try with_reducible rfl
   refine tkH 8 zq ?_
   refine rdH 9 (fun K hK => ?_)
   go_simp
   go_at_call 64
   refine (inC x.sure 0 (x.writes.length : Int) _).mono ?_
   rintro e w3 ⟨rfl, rfl⟩
   rw [q4]
   try go_wp2_with fail
   refine hK.out _ _ rfl (fun zq => ?_)
   clear hK K
   try simp only [Act.put, pz, py, px]
   refine tkH 10 zq ?_
   refine tkH 11 zq ?_
   refine skH 12 zq ?_
   refine skH 13 zq ?_
   refine skH 14 zq ?_
   refine skH 15 zq ?_
   refine skH 16 zq ?_
   refine skH 17 zq ?_
   refine skH 18 zq ?_
   refine skH 19 zq ?_
   refine skH 20 zq ?_
   refine skH 21 zq ?_
   refine tkH 22 zq ?_
   refine wpAnyH_done (by kernel_rfl) ?_ _
   refine NoPanic.normal ?_
   clear zq
   go_wp2_with fail
   go_ret
   exact ⟨by rw [uh HF2]; rfl, (uh HB).drew⟩
  cases q5 : (decide (0 ≤ x.clean) && decide (x.clean ≤ x.sure))
  ·
   have HF2 := yh ((uh HF1).trans (if_neg (by rw [q5]; simp)))
   clear HF1
   refine wp_region_noPanic ?_
   refine wp_region_held_drew (S := fun w' => w' = w2.drew) (by kernel_rfl) rfl (fun zq => ?_)
   refine tkH 0 zq ?_
   refine tkH 1 zq ?_
   refine tkH 2 zq ?_
   refine tkJ 3 (v := ?vb3) ?hb3 zq ?rb3
   case hb3 =>
    intro wS hSw
    have y5 : wS.cell? ⟨b, o + 5, none⟩ = some (.int .i64 x.sure) := by rw [hSw]; exact hX2.at 5 _ rfl
    clear hSw
    (try dsimp only at hSw)
    go_simp
    try with_reducible rfl
   refine tkH 4 zq ?_
   refine tkH 5 zq ?_
   refine tkH 6 zq ?_
   refine tkJ 7 (v := ?vb7) ?hb7 zq ?rb7
   case hb7 =>
    intro wS hSw
    have y4 : wS.cell? ⟨b, o + 4, none⟩ = some (.slice a4 x.writes.length d4) := by rw [hSw]; exact hX2.at 4 _ rfl
    clear hSw
    (try dsimp only at hSw)
    go_simp
    try with_reducible rfl
   refine tkH 8 zq ?_
   refine rdH 9 (fun K hK => ?_)
   go_simp
   go_at_call 64
   refine (inC x.sure 0 (x.writes.length : Int) _).mono ?_
   rintro e w3 ⟨rfl, rfl⟩
   rw [q4]
   try go_wp2_with fail
   refine hK.out _ _ rfl (fun zq => ?_)
   clear hK K
   try simp only [Act.put, pz, py, px]
   refine tkH 10 zq ?_
   refine tkH 11 zq ?_
   refine tkH 12 zq ?_
   refine tkH 13 zq ?_
   refine tkH 14 zq ?_
   refine tkJ 15 (v := ?vb15) ?hb15 zq ?rb15
   case hb15 =>
    intro wS hSw
    have y6 : wS.cell? ⟨b, o + 6, none⟩ = some (.int .i64 x.clean) := by rw [hSw]; exact hX2.at 6 _ rfl
    clear hSw
    (try dsimp only at hSw)
    go_simp
    try with_reducible rfl
   refine tkH 16 zq ?_
   refine tkH 17 zq ?_
   refine tkH 18 zq ?_
   refine tkJ 19 (v := ?vb19) ?hb19 zq ?rb19
   case hb19 =>
    intro wS hSw
    have y5 : wS.cell? ⟨b, o + 5, none⟩ = some (.int .i64 x.sure) := by rw [hSw]; exact hX2.at 5 _ rfl
    clear hSw
    (try dsimp only at hSw)
    go_simp
    try with_reducible rfl
   refine rdH 20 (fun K hK => ?_)
   go_simp
   go_at_call 64
   refine (inC x.clean 0 x.sure _).mono ?_
   rintro e w3 ⟨rfl, rfl⟩
   rw [q5]
   try go_wp2_with fail
   refine hK.out _ _ rfl (fun zq => ?_)
   clear hK K
   try simp only [Act.put, pz, py, px]
   refine tkH 21 zq ?_
   refine tkH 22 zq ?_
   refine wpAnyH_done (by kernel_rfl) ?_ _
   refine NoPanic.normal ?_
   clear zq
   go_wp2_with fail
   go_ret
   exact ⟨by rw [uh HF2]; rfl, (uh HB).drew⟩
  have HF2 := yh ((uh HF1).trans (if_pos ⟨q4, q5⟩))
  clear HF1
  refine wp_region_noPanic ?_
  refine wp_region_held_drew (S := fun w' => w' = w2.drew) (by kernel_rfl) rfl (fun zq => ?_)
  refine tkH 0 zq ?_
  refine tkH 1 zq ?_
  refine tkH 2 zq ?_
  refine tkJ 3 (v := ?vc3) ?hc3 zq ?rc3
  case hc3 =>
   intro wS hSw
   have y5 : wS.cell? ⟨b, o + 5, none⟩ = some (.int .i64 x.sure) := by rw [hSw]; exact hX2.at 5 _ rfl
   clear hSw
   (try dsimp only at hSw)
   go_simp
   try with_reducible rfl
  refine tkH 4 zq ?_
  refine tkH 5 zq ?_
  refine tkH 6 zq ?_
  refine tkJ 7 (v := ?vc7) ?hc7 zq ?rc7
  case hc7 =>
   intro wS hSw
   have y4 : wS.cell? ⟨b, o + 4, none⟩ = some (.slice a4 x.writes.length d4) := by rw [hSw]; exact hX2.at 4 _ rfl
   clear hSw
   (try dsimp only at hSw)
   go_simp
   try with_reducible rfl
  refine tkH 8 zq ?_
  refine rdH 9 (fun K hK => ?_)
  go_simp
  go_at_call 64
  refine (inC x.sure 0 (x.writes.length : Int) _).mono ?_
  rintro e w3 ⟨rfl, rfl⟩
  rw [q4]
  try go_wp2_with fail
  refine hK.out _ _ rfl (fun zq => ?_)
  clear hK K
  try simp only [Act.put, pz, py, px]
  refine tkH 10 zq ?_
  refine tkH 11 zq ?_
  refine tkH 12 zq ?_
  refine tkH 13 zq ?_
  refine tkH 14 zq ?_
  refine tkJ 15 (v := ?vc15) ?hc15 zq ?rc15
  case hc15 =>
   intro wS hSw
   have y6 : wS.cell? ⟨b, o + 6, none⟩ = some (.int .i64 x.clean) := by rw [hSw]; exact hX2.at 6 _ rfl
   clear hSw
   (try dsimp only at hSw)
   go_simp
   try with_reducible rfl
  refine tkH 16 zq ?_
  refine tkH 17 zq ?_
  refine tkH 18 zq ?_
  refine tkJ 19 (v := ?vc19) ?hc19 zq ?rc19
  case hc19 =>
   intro wS hSw
   have y5 : wS.cell? ⟨b, o + 5, none⟩ = some (.int .i64 x.sure) := by rw [hSw]; exact hX2.at 5 _ rfl
   clear hSw
   (try dsimp only at hSw)
   go_simp
   try with_reducible rfl
  refine rdH 20 (fun K hK => ?_)
  go_simp
  go_at_call 64
  refine (inC x.clean 0 x.sure _).mono ?_
  rintro e w3 ⟨rfl, rfl⟩
  rw [q5]
  try go_wp2_with fail
  refine hK.out _ _ rfl (fun zq => ?_)
  clear hK K
  try simp only [Act.put, pz, py, px]
  refine tkH 21 zq ?_
  refine tkH 22 zq ?_
  refine wpAnyH_done (by kernel_rfl) ?_ _
  refine NoPanic.normal ?_
  clear zq q4 q5
  go_wp2_with fail
  cases hu : x.up
  ·
   rw [hu] at HF2
   cases e1 : (x.sure != (x.writes.length : Int))
   ·
    cases e2 : (x.clean != 0)
    ·
     cases e3 : (x.lease != 0)
     ·
      have HF3 : Hid (nodeFault x = 0) := (uh HF2).trans (if_neg (by simp at e1 e2 e3; simp [downB, ← e1, e2, e3]))
      clear HF2
      refine wp_region_noPanic ?_
      refine wp_region_held_drew (S := fun w' => w' = w2.drew.drew) (by kernel_rfl) rfl (fun zq => ?_)
      refine tkH 0 zq ?_
      refine tkH 1 zq ?_
      refine tkH 2 zq ?_
      refine tkJ 3 (v := ?vd3) ?hd3 zq ?rd3
      case hd3 =>
       intro wS hSw
       have y1 : wS.cell? ⟨b, o + 1, none⟩ = some (.bool x.up) := by rw [hSw]; exact hX2.at 1 _ rfl
       clear hSw
       (try dsimp only at hSw)
       go_simp
       try with_reducible rfl
      refine tkH 4 zq ?_
      refine tkH 5 zq ?_
      refine tkH 6 zq ?_
      refine tkH 7 zq ?_
      refine tkH 8 zq ?_
      refine tkJ 9 (v := ?vd9) ?hd9 zq ?rd9
      case hd9 =>
       intro wS hSw
       have y5 : wS.cell? ⟨b, o + 5, none⟩ = some (.int .i64 x.sure) := by rw [hSw]; exact hX2.at 5 _ rfl
       clear hSw
       (try dsimp only at hSw)
       go_simp
       try with_reducible rfl
      refine tkH 10 zq ?_
      refine tkH 11 zq ?_
      refine tkH 12 zq ?_
      refine tkJ 13 (v := ?vd13) ?hd13 zq ?rd13
      case hd13 =>
       intro wS hSw
       have y4 : wS.cell? ⟨b, o + 4, none⟩ = some (.slice a4 x.writes.length d4) := by rw [hSw]; exact hX2.at 4 _ rfl
       clear hSw
       (try dsimp only at hSw)
       go_simp
       try with_reducible rfl
      refine tkH 14 zq ?_
      refine tkH 15 zq ?_
      refine tkH 16 zq ?_
      refine tkH 17 zq ?_
      refine tkH 18 zq ?_
      refine tkH 19 zq ?_
      refine tkJ 20 (v := ?vd20) ?hd20 zq ?rd20
      case hd20 =>
       intro wS hSw
       have y6 : wS.cell? ⟨b, o + 6, none⟩ = some (.int .i64 x.clean) := by rw [hSw]; exact hX2.at 6 _ rfl
       clear hSw
       (try dsimp only at hSw)
       go_simp
       try with_reducible rfl
      refine tkH 21 zq ?_
      refine tkH 22 zq ?_
      refine tkH 23 zq ?_
      refine tkH 24 zq ?_
      refine tkH 25 zq ?_
      refine tkH 26 zq ?_
      refine tkJ 27 (v := ?vd27) ?hd27 zq ?rd27
      case hd27 =>
       intro wS hSw
       have y3 : wS.cell? ⟨b, o + 3, none⟩ = some (.int .i64 x.lease) := by rw [hSw]; exact hX2.at 3 _ rfl
       clear hSw
       (try dsimp only at hSw)
       go_simp
       try with_reducible rfl
      refine tkH 28 zq ?_
      refine tkH 29 zq ?_
      refine tkH 30 zq ?_
      refine wpAnyH_done (by kernel_rfl) ?_ _
      refine NoPanic.normal ?_
      clear zq
      go_wp2_with fail
      go_ret
      exact ⟨by rw [uh HF3]; rfl, (uh HB).drew.drew⟩
     have HF3 : Hid (nodeFault x = 1) := (uh HF2).trans (if_pos ⟨rfl, by simp at e3; simp [downB, e3]⟩)
     clear HF2
     refine wp_region_noPanic ?_
     refine wp_region_held_drew (S := fun w' => w' = w2.drew.drew) (by kernel_rfl) rfl (fun zq => ?_)
     refine tkH 0 zq ?_
     refine tkH 1 zq ?_
     refine tkH 2 zq ?_
     refine tkJ 3 (v := ?ve3) ?he3 zq ?re3
     case he3 =>
      intro wS hSw
      have y1 : wS.cell? ⟨b, o + 1, none⟩ = some (.bool x.up) := by rw [hSw]; exact hX2.at 1 _ rfl
      clear hSw
      (try dsimp only at hSw)
      go_simp
      try with_reducible rfl
     refine tkH 4 zq ?_
     refine tkH 5 zq ?_
     refine tkH 6 zq ?_
     refine tkH 7 zq ?_
     refine tkH 8 zq ?_
     refine tkJ 9 (v := ?ve9) ?he9 zq ?re9
     case he9 =>
      intro wS hSw
      have y5 : wS.cell? ⟨b, o + 5, none⟩ = some (.int .i64 x.sure) := by rw [hSw]; exact hX2.at 5 _ rfl
      clear hSw
      (try dsimp only at hSw)
      go_simp
      try with_reducible rfl
     refine tkH 10 zq ?_
     refine tkH 11 zq ?_
     refine tkH 12 zq ?_
     refine tkJ 13 (v := ?ve13) ?he13 zq ?re13
     case he13 =>
      intro wS hSw
      have y4 : wS.cell? ⟨b, o + 4, none⟩ = some (.slice a4 x.writes.length d4) := by rw [hSw]; exact hX2.at 4 _ rfl
      clear hSw
      (try dsimp only at hSw)
      go_simp
      try with_reducible rfl
     refine tkH 14 zq ?_
     refine tkH 15 zq ?_
     refine tkH 16 zq ?_
     refine tkH 17 zq ?_
     refine tkH 18 zq ?_
     refine tkH 19 zq ?_
     refine tkJ 20 (v := ?ve20) ?he20 zq ?re20
     case he20 =>
      intro wS hSw
      have y6 : wS.cell? ⟨b, o + 6, none⟩ = some (.int .i64 x.clean) := by rw [hSw]; exact hX2.at 6 _ rfl
      clear hSw
      (try dsimp only at hSw)
      go_simp
      try with_reducible rfl
     refine tkH 21 zq ?_
     refine tkH 22 zq ?_
     refine tkH 23 zq ?_
     refine tkH 24 zq ?_
     refine tkH 25 zq ?_
     refine tkH 26 zq ?_
     refine tkJ 27 (v := ?ve27) ?he27 zq ?re27
     case he27 =>
      intro wS hSw
      have y3 : wS.cell? ⟨b, o + 3, none⟩ = some (.int .i64 x.lease) := by rw [hSw]; exact hX2.at 3 _ rfl
      clear hSw
      (try dsimp only at hSw)
      go_simp
      try with_reducible rfl
     refine tkH 28 zq ?_
     refine tkH 29 zq ?_
     refine tkH 30 zq ?_
     refine wpAnyH_done (by kernel_rfl) ?_ _
     refine NoPanic.normal ?_
     clear zq
     go_wp2_with fail
     go_ret
     exact ⟨by rw [uh HF3]; rfl, (uh HB).drew.drew⟩
    have HF3 : Hid (nodeFault x = 1) := (uh HF2).trans (if_pos ⟨rfl, by simp at e2; simp [downB, e2]⟩)
    clear HF2
    refine wp_region_noPanic ?_
    refine wp_region_held_drew (S := fun w' => w' = w2.drew.drew) (by kernel_rfl) rfl (fun zq => ?_)
    refine tkH 0 zq ?_
    refine tkH 1 zq ?_
    refine tkH 2 zq ?_
    refine tkJ 3 (v := ?vf3) ?hf3 zq ?rf3
    case hf3 =>
     intro wS hSw
     have y1 : wS.cell? ⟨b, o + 1, none⟩ = some (.bool x.up) := by rw [hSw]; exact hX2.at 1 _ rfl
     clear hSw
     (try dsimp only at hSw)
     go_simp
     try with_reducible rfl
    refine tkH 4 zq ?_
    refine tkH 5 zq ?_
    refine tkH 6 zq ?_
    refine tkH 7 zq ?_
    refine tkH 8 zq ?_
    refine tkJ 9 (v := ?vf9) ?hf9 zq ?rf9
    case hf9 =>
     intro wS hSw
     have y5 : wS.cell? ⟨b, o + 5, none⟩ = some (.int .i64 x.sure) := by rw [hSw]; exact hX2.at 5 _ rfl
     clear hSw
     (try dsimp only at hSw)
     go_simp
     try with_reducible rfl
    refine tkH 10 zq ?_
    refine tkH 11 zq ?_
    refine tkH 12 zq ?_
    refine tkJ 13 (v := ?vf13) ?hf13 zq ?rf13
    case hf13 =>
     intro wS hSw
     have y4 : wS.cell? ⟨b, o + 4, none⟩ = some (.slice a4 x.writes.length d4) := by rw [hSw]; exact hX2.at 4 _ rfl
     clear hSw
     (try dsimp only at hSw)
     go_simp
     try with_reducible rfl
    refine tkH 14 zq ?_
    refine tkH 15 zq ?_
    refine tkH 16 zq ?_
    refine tkH 17 zq ?_
    refine tkH 18 zq ?_
    refine tkH 19 zq ?_
    refine tkJ 20 (v := ?vf20) ?hf20 zq ?rf20
    case hf20 =>
     intro wS hSw
     have y6 : wS.cell? ⟨b, o + 6, none⟩ = some (.int .i64 x.clean) := by rw [hSw]; exact hX2.at 6 _ rfl
     clear hSw
     (try dsimp only at hSw)
     go_simp
     try with_reducible rfl
    refine tkH 21 zq ?_
    refine tkH 22 zq ?_
    refine tkH 23 zq ?_
    refine skH 24 zq ?_
    refine skH 25 zq ?_
    refine skH 26 zq ?_
    refine skH 27 zq ?_
    refine skH 28 zq ?_
    refine tkH 29 zq ?_
    refine tkH 30 zq ?_
    refine wpAnyH_done (by kernel_rfl) ?_ _
    refine NoPanic.normal ?_
    clear zq
    go_wp2_with fail
    go_ret
    exact ⟨by rw [uh HF3]; rfl, (uh HB).drew.drew⟩
   have HF3 : Hid (nodeFault x = 1) := (uh HF2).trans (if_pos ⟨rfl, by simp at e1; simp [downB, e1]⟩)
   clear HF2
   refine wp_region_noPanic ?_
   refine wp_region_held_drew (S := fun w' => w' = w2.drew.drew) (by kernel_rfl) rfl (fun zq => ?_)
   refine tkH 0 zq ?_
   refine tkH 1 zq ?_
   refine tkH 2 zq ?_
   refine tkJ 3 (v := ?vg3) ?hg3 zq ?rg3
   case hg3 =>
    intro wS hSw
    have y1 : wS.cell? ⟨b, o + 1, none⟩ = some (.bool x.up) := by rw [hSw]; exact hX2.at 1 _ rfl
    clear hSw
    (try dsimp only at hSw)
    go_simp
    try with_reducible rfl
   refine tkH 4 zq ?_
   refine tkH 5 zq ?_
   refine tkH 6 zq ?_
   refine tkH 7 zq ?_
   refine tkH 8 zq ?_
   refine tkJ 9 (v := ?vg9) ?hg9 zq ?rg9
   case hg9 =>
    intro wS hSw
    have y5 : wS.cell? ⟨b, o + 5, none⟩ = some (.int .i64 x.sure) := by rw [hSw]; exact hX2.at 5 _ rfl
    clear hSw
    (try dsimp only at hSw)
    go_simp
    try with_reducible rfl
   refine tkH 10 zq ?_
   refine tkH 11 zq ?_
   refine tkH 12 zq ?_
   refine tkJ 13 (v := ?vg13) ?hg13 zq ?rg13
   case hg13 =>
    intro wS hSw
    have y4 : wS.cell? ⟨b, o + 4, none⟩ = some (.slice a4 x.writes.length d4) := by rw [hSw]; exact hX2.at 4 _ rfl
    clear hSw
    (try dsimp only at hSw)
    go_simp
    try with_reducible rfl
   refine tkH 14 zq ?_
   refine tkH 15 zq ?_
   refine tkH 16 zq ?_
   refine skH 17 zq ?_
   refine skH 18 zq ?_
   refine skH 19 zq ?_
   refine skH 20 zq ?_
   refine skH 21 zq ?_
   refine tkH 22 zq ?_
   refine tkH 23 zq ?_
   refine skH 24 zq ?_
   refine skH 25 zq ?_
   refine skH 26 zq ?_
   refine skH 27 zq ?_
   refine skH 28 zq ?_
   refine tkH 29 zq ?_
   refine tkH 30 zq ?_
   refine wpAnyH_done (by kernel_rfl) ?_ _
   refine NoPanic.normal ?_
   clear zq
   go_wp2_with fail
   go_ret
   exact ⟨by rw [uh HF3]; rfl, (uh HB).drew.drew⟩
  have HF3 : Hid (nodeFault x = 0) := (uh HF2).trans (if_neg (by rw [hu]; simp))
  clear HF2
  refine wp_region_noPanic ?_
  refine wp_region_held_drew (S := fun w' => w' = w2.drew.drew) (by kernel_rfl) rfl (fun zq => ?_)
  refine tkH 0 zq ?_
  refine tkH 1 zq ?_
  refine tkH 2 zq ?_
  refine tkJ 3 (v := ?vh3) ?hh3 zq ?rh3
  case hh3 =>
   intro wS hSw
   have y1 : wS.cell? ⟨b, o + 1, none⟩ = some (.bool x.up) := by rw [hSw]; exact hX2.at 1 _ rfl
   clear hSw
   (try dsimp only at hSw)
   go_simp
   try with_reducible rfl
  refine tkH 4 zq ?_
  refine tkH 5 zq ?_
  refine skH 6 zq ?_
  refine skH 7 zq ?_
  refine skH 8 zq ?_
  refine skH 9 zq ?_
  refine skH 10 zq ?_
  refine skH 11 zq ?_
  refine skH 12 zq ?_
  refine skH 13 zq ?_
  refine skH 14 zq ?_
  refine skH 15 zq ?_
  refine skH 16 zq ?_
  refine skH 17 zq ?_
  refine skH 18 zq ?_
  refine skH 19 zq ?_
  refine skH 20 zq ?_
  refine skH 21 zq ?_
  refine skH 22 zq ?_
  refine skH 23 zq ?_
  refine skH 24 zq ?_
  refine skH 25 zq ?_
  refine skH 26 zq ?_
  refine skH 27 zq ?_
  refine skH 28 zq ?_
  refine skH 29 zq ?_
  refine tkH 30 zq ?_
  refine wpAnyH_done (by kernel_rfl) ?_ _
  refine NoPanic.normal ?_
  clear zq
  go_wp2_with fail
  go_ret
  exact ⟨by rw [uh HF3]; rfl, (uh HB).drew.drew⟩
 have hd : (wsFrom x.writes != 0) = true := by simpa using hs
 have HT : Hid (takenF x.writes = wsFrom x.writes) := by show takenF x.writes = _; rw [takenF, if_neg hn, if_pos hs]
 have HF1 := yh ((uh HF).trans (if_pos (by rw [uh HT]; exact hs)))
 rw [uh HT] at HF1
 clear HF HT hs HW
 generalize wsFrom x.writes = c at *
 go_wp2_with fail
 go_ret
 exact ⟨by rw [uh HF1]; rfl, Below.refl _ _⟩
theorem node_vecs9 {x : DNode} (h : NodeOK x) : ∀ y ∈ x.writes, y.vec.length ≤ 100000000 := fun y hy => by
 obtain ⟨-, -, -, hk⟩ := writeFault_zero (h.ws y hy)
 rcases hk with ⟨-, hv⟩ | ⟨-, hv⟩
 ·
  have := (vecFault_zero hv).1; omega
 rw [hv]; simp
theorem grown_set9 (w : World) (b o : Nat) (u : Value) : w.grownBy (w.setCell ⟨b, o, none⟩ u) (some b) :=
 ⟨rfl, rfl, rfl, by simp, fun k _ hk => heap_setCell_other w ⟨b, o, none⟩ k u (fun e => hk (by rw [e]))⟩
theorem grow_setAll {α : Type} {A : Lay α} {w : World} {base T : Nat} {v : Value} {rows : List (List Value)} {xs : List α} {bls : List (List Nat)} (h : Grow A w base T v rows xs bls) (s i : Nat) (vs : List Value) (hs : s < base) (hb : ∀ c ∈ bls.flatten, base ≤ c) : Grow A (setAll w s i vs) base T v rows xs bls := by
 induction vs generalizing w i with
 | nil => exact h
 | cons u us ih => exact ih (h.grown (grown_set9 w s i u) hs hb) (i + 1)
theorem ncopyG (cs : List Value) (x : DNode) (w : World) (h : Lay.tNode.Reads w cs x) (hn : x.writes.length ≤ 1000000) (hv : ∀ y ∈ x.writes, y.vec.length ≤ 100000000) :
  Calls Tryz.prog 223 #[.agg cs.toArray] w fun e w' => ∃ a6 d6 rows bls, e = .returned (.agg #[.int .i64 x.id, .bool x.up, .int .i64 x.epoch, .int .i64 x.lease, .slice a6 x.writes.length d6, .int .i64 x.sure, .int .i64 x.clean]) ∧ Grow Lay.tWrite w' w.heap.size 87 (.slice a6 x.writes.length d6) rows x.writes bls ∧ (∀ c ∈ bls.flatten, w.heap.size ≤ c) ∧ Below w.heap.size w w' := by
 obtain ⟨a4, d4, rfl, R4⟩ := open_Node h
 have nb : Below w.heap.size w ((w.alloc (.cells #[.int .i64 x.id, .bool x.up, .int .i64 x.epoch, .int .i64 x.lease, .slice a4 x.writes.length d4, .int .i64 x.sure, .int .i64 x.clean] 84)).alloc (.cells #[.int .i64 0, .bool false, .int .i64 0, .int .i64 0, .slice none 0 0, .int .i64 0, .int .i64 0] 84)) := ((Below.refl _ _).alloc (Nat.le_refl _) _).alloc (by simp) _
 have bX : Box 0 #[.int .i64 x.id, .bool x.up, .int .i64 x.epoch, .int .i64 x.lease, .slice a4 x.writes.length d4, .int .i64 x.sure, .int .i64 x.clean] 84 ((w.alloc (.cells #[.int .i64 x.id, .bool x.up, .int .i64 x.epoch, .int .i64 x.lease, .slice a4 x.writes.length d4, .int .i64 x.sure, .int .i64 x.clean] 84)).alloc (.cells #[.int .i64 0, .bool false, .int .i64 0, .int .i64 0, .slice none 0 0, .int .i64 0, .int .i64 0] 84)) w.heap.size := (newBox (Nat.zero_le _)).grow _
 have bR : Box 0 #[.int .i64 0, .bool false, .int .i64 0, .int .i64 0, .slice none 0 0, .int .i64 0, .int .i64 0] 84 ((w.alloc (.cells #[.int .i64 x.id, .bool x.up, .int .i64 x.epoch, .int .i64 x.lease, .slice a4 x.writes.length d4, .int .i64 x.sure, .int .i64 x.clean] 84)).alloc (.cells #[.int .i64 0, .bool false, .int .i64 0, .int .i64 0, .slice none 0 0, .int .i64 0, .int .i64 0] 84)) (w.heap.size + 1) := newBoxAt (Nat.zero_le _) (by simp)
 have HL := yh (wcopyC _ x.writes _ (R4.later nb) (by omega) hv)
 have HX := yh bX
 have HR := yh bR
 have HB := yh nb
 clear h nb bX bR R4 hv
 go_enter Tryz.func223, Tryz.ntmps223
 go_wp2_with fail
 generalize (w.alloc (.cells #[.int .i64 x.id, .bool x.up, .int .i64 x.epoch, .int .i64 x.lease, .slice a4 x.writes.length d4, .int .i64 x.sure, .int .i64 x.clean] 84)).alloc (.cells #[.int .i64 0, .bool false, .int .i64 0, .int .i64 0, .slice none 0 0, .int .i64 0, .int .i64 0] 84) = W0 at *
 refine (uh HL).mono ?_
 rintro e w1 ⟨v6, rfl, ⟨rows, bls, hG, hS⟩, hb⟩
 have hl := hG.toLies (by omega) hS
 obtain ⟨a6, d6, rfl⟩ := open_sl hl.reads
 have bX1 := (uh HX).keep hb
 have bR1 := (uh HR).keep hb
 have hlo := (uh HR).lt
 have y0 := Box.at bX1 0 _ rfl
 have y1 := Box.at bX1 1 _ rfl
 have y2 := Box.at bX1 2 _ rfl
 have y3 := Box.at bX1 3 _ rfl
 have y4 := Box.at bX1 4 _ rfl
 have y5 := Box.at bX1 5 _ rfl
 have y6 := Box.at bX1 6 _ rfl
 simp only [ga, gb, gc] at y0 y1 y2 y3 y4 y5 y6
 have z0 := Box.at bR1 0 _ rfl
 have z1 := Box.at bR1 1 _ rfl
 have z2 := Box.at bR1 2 _ rfl
 have z3 := Box.at bR1 3 _ rfl
 have z4 := Box.at bR1 4 _ rfl
 have z5 := Box.at bR1 5 _ rfl
 have z6 := Box.at bR1 6 _ rfl
 simp only [ga, gb, gc] at z0 z1 z2 z3 z4 z5 z6
 have yf := Box.soft bX1
 have yl := Box.lt bX1
 have ff := Box.soft bR1
 have l0 := Box.lt bR1
 have HB1 := yh ((uh HB).trans (hb.mono (uh HB).size))
 have HO1 := yh hG
 have HS1 := yh hS
 have HZ0 := yh hb.size
 clear hb hG hS hl bX1 bR1 HL HX HR HB
 go_wp2_with fail
 refine bodyPost_ret (v := .agg #[.int .i64 x.id, .bool x.up, .int .i64 x.epoch, .int .i64 x.lease, .slice a6 x.writes.length d6, .int .i64 x.sure, .int .i64 x.clean]) (by simp [results, Tryz.results223, go_sem, z0, z1, z2, z3, z4, z5, z6]) rfl ?_
 have hB8 : Below w.heap.size w (w1.setCell ⟨w.heap.size, 4, none⟩ (.slice a6 x.writes.length d6)) := (uh HB1).setCell (by simp) _
 have hB9 := below_setAll hB8 (w.heap.size + 1) 0 [.int .i64 x.id, .bool x.up, .int .i64 x.epoch, .int .i64 x.lease, .slice a6 x.writes.length d6, .int .i64 x.sure, .int .i64 x.clean] (by omega)
 have g1 := (uh HO1).grown (grown_set9 w1 w.heap.size 4 (.slice a6 x.writes.length d6)) (by omega) (uh HS1)
 have g2 := grow_setAll g1 (w.heap.size + 1) 0 [.int .i64 x.id, .bool x.up, .int .i64 x.epoch, .int .i64 x.lease, .slice a6 x.writes.length d6, .int .i64 x.sure, .int .i64 x.clean] (by omega) (uh HS1)
 exact ⟨a6, d6, rows, bls, rfl, g2.lower (by omega), fun c hc => by have := uh HS1 c hc; omega, hB9⟩
end Go.Proofs.YtoanimpijfijgaaGreat
