/-
  Texts of this proof in one: Ground, LayChain, TabGround, LayNode, LayMsg, HitGround, LayEntry, LayWorld, Info, Ints, LayInt, SzInt64S, SzChain, SzWrite, SzWriteS, SzNode, SzNodeS, SzMsg, SzMsgS, SzHit, SzHitS, SzEntry, SzEntryS, SzWorld.
  Their conditions stand in their theorems.
-/
import Derived.WalkKit
import Derived.WalkSpells
import Derived.WalkSmall
import Derived.Deep.AppendLies
import Derived.Test.YtomphbenbnnfgaaGreatDoorAw00
import Derived.Maps.OwnSet
import Derived.Maps.AppendAt
import Derived.Test.YtomphbenbnnfgaaGreatDoorChecked
import Derived.BigQuiet
import Derived.Deep.QuietTactic
set_option maxRecDepth 100000
set_option maxHeartbeats 4000000
namespace Go.Proofs.YtomphbenbnnfgaaGreatDoor
open Go.RowKit
theorem yh {p : Prop} (h : p) : Hid p := h
theorem uh {p : Prop} (h : Hid p) : p := h
theorem bZ {a b c : World} (h : Hid (Below a.heap.size a b)) (k : Below b.heap.size b c) : Hid (Below a.heap.size a c) := yh ((uh h).trans (k.mono (uh h).size))
theorem dg {B : Nat} {a w : World} (h : Below B a w) (n : Nat) : Below B a (w.drewN n) := h.trans ⟨rfl, rfl, rfl, Nat.le_refl _, fun _ _ => rfl⟩
theorem nA {a b c : World} {r : Option Nat} (h : a.grownBy b r) (k : b.grownBy c r) : a.grownBy c r :=
 ⟨k.os.trans h.os, k.tape.trans h.tape, k.output.trans h.output, Nat.le_trans h.size k.size, fun i hi hr => (k.block i (Nat.lt_of_lt_of_le hi h.size) hr).trans (h.block i hi hr)⟩
def cf (w : World) (v : Value) (zs : List Int) : Prop :=
 ∃ ao cap, v = .slice ao zs.length cap ∧ (∀ z ∈ zs, (Lit.int .i64 z).wf = true) ∧
  (0 < zs.length → ∃ b off, ao = some ⟨b, off, none⟩ ∧ ∀ j, j < zs.length → w.cell? ⟨b, off + j, none⟩ = some (.int .i64 (zs.getD j 0)))
theorem cf.later {w w' : World} {v : Value} {zs : List Int} (h : cf w v zs) (hb : Below w.heap.size w w') : cf w' v zs := by
 obtain ⟨ao, cap, rfl, hwf, hc⟩ := h
 refine ⟨ao, cap, rfl, hwf, fun hp => ?_⟩
 obtain ⟨b, off, hao, hc1⟩ := hc hp
 refine ⟨b, off, hao, fun j hj => ?_⟩
 have h1 := hc1 j hj
 exact (hb.cell (World.block_lt_of_cell? _ _ h1)).trans h1
theorem im {w : World} {base T g : Nat} {zs : List Int} (hwf : ∀ z ∈ zs, (Lit.int .i64 z).wf = true)
  (h : w.ownsRow base T 1 (.slice (some ⟨g, 0, none⟩) zs.length zs.length) zs.length (zs.map (Value.int .i64))) : cf w (.slice (some ⟨g, 0, none⟩) zs.length zs.length) zs := by
 refine ⟨_, _, rfl, hwf, fun hp => ⟨g, 0, rfl, fun j hj => ?_⟩⟩
 rw [Nat.zero_add, h.cellAt j (by omega)]
 simp [List.getD, hj]
theorem o7 {w : World} {base T : Nat} {v : Value} {zs : List Int} (hwf : ∀ z ∈ zs, (Lit.int .i64 z).wf = true)
  (h : w.ownsRow base T 1 v zs.length (zs.map (Value.int .i64))) : cf w v zs := by
 rcases h.2 with ⟨rfl, h0⟩ | ⟨g, cap, cur, rfl, _⟩
 ·
  have : zs = [] := List.eq_nil_of_length_eq_zero h0
  subst this
  exact ⟨none, 0, rfl, by simp, by simp⟩
 refine ⟨_, _, rfl, hwf, fun hp => ⟨g, 0, rfl, fun j hj => ?_⟩⟩
 rw [Nat.zero_add, h.cellAt j (by omega)]
 simp [List.getD, hj]
theorem tf {W : World} {base g : Nat} {T : TypeId} {x y z : Int} (hb : base ≤ W.heap.size) (hs : W.heap.size = g) :
  (W.alloc (.cells #[.int .i64 x, .int .i64 y, .int .i64 z] T)).ownsRow base T 1 (.slice (some ⟨g, 0, none⟩) 3 3) 3 ([x, y, z].map (Value.int .i64)) := by
 subst hs
 exact World.ownsRow_lit W _ 3 hb (by unfold maxLen; omega) rfl
theorem aP {z : Int} (h : -1000000000 ≤ z ∧ z ≤ 1000000000) : (Lit.int .i64 z).wf = true := WalkArith.wf_i64 (by omega)
theorem cf.wf {w : World} {v : Value} {zs : List Int} (h : cf w v zs) : ∀ z ∈ zs, (Lit.int .i64 z).wf = true := by
 obtain ⟨_, _, _, hwf, _⟩ := h
 exact hwf
theorem eR {w : World} {base T sz : Nat} {v : Value} {n : Nat} {xs : List Value} (h : w.ownsRow base T sz v n xs) : ∃ ao cap, v = .slice ao n cap := by
 rcases h.2 with ⟨rfl, h0⟩ | ⟨g, cap, cur, rfl, _⟩
 ·
  exact ⟨none, 0, by rw [h0]⟩
 exact ⟨_, _, rfl⟩
theorem de {w w' : World} {base T sz : Nat} {v : Value} {n : Nat} {xs : List Value} (h : w.ownsRow base T sz v n xs) (hb : Below w.heap.size w w') : w'.ownsRow base T sz v n xs := by
 refine ⟨h.1, ?_⟩
 rcases h.2 with h2 | ⟨g, cap, cur, hv, hg, hh, r⟩
 ·
  exact Or.inl h2
 exact Or.inr ⟨g, cap, cur, hv, hg, (hb.block g (lt_of_block hh)).trans hh, r⟩
theorem kb {w : World} {b b' T sz : Nat} {v : Value} {n : Nat} {xs : List Value} (hb : b' ≤ b) (h : w.ownsRow b T sz v n xs) : w.ownsRow b' T sz v n xs := by
 refine ⟨h.1, ?_⟩
 rcases h.2 with h2 | ⟨g, cap, cur, hv, hg, r⟩
 ·
  exact Or.inl h2
 exact Or.inr ⟨g, cap, cur, hv, by omega, r⟩
theorem sh (zs : List Int) (k : Nat) (hk : k < zs.length) :
  ((zs.take k).map (Value.int .i64) ++ List.replicate (zs.length - k) (Value.int .i64 0)).set k (.int .i64 (zs.getD k 0)) = (zs.take (k + 1)).map (Value.int .i64) ++ List.replicate (zs.length - (k + 1)) (Value.int .i64 0) := by
 have hl : ((zs.take k).map (Value.int .i64)).length = k := by simp; omega
 rw [List.set_append_right _ _ (by omega), hl, Nat.sub_self]
 obtain ⟨m, hm⟩ : ∃ m, zs.length - k = m + 1 := ⟨zs.length - k - 1, by omega⟩
 rw [hm, show zs.length - (k + 1) = m by omega, List.replicate_succ, List.set_cons_zero, List.take_succ_eq_append_getElem hk, List.map_append, List.append_assoc]
 simp [List.getD, hk]
def aA (lo : Nat) (cs : Array Value) (T : TypeId) (W : World) (s : Nat) : Prop := lo ≤ s ∧ W.heap[s]? = some (.cells cs T (0, 0))
theorem aA.drew {lo : Nat} {cs : Array Value} {T : TypeId} {W : World} {s : Nat} (h : aA lo cs T W s) : aA lo cs T W.drew s := h
theorem aA.lt {lo : Nat} {cs : Array Value} {T : TypeId} {W : World} {s : Nat} (h : aA lo cs T W s) : s < W.heap.size := lt_of_block h.2
theorem aD {lo : Nat} {cs : Array Value} {T : TypeId} {W : World} (h : lo ≤ W.heap.size) : aA lo cs T (W.alloc (.cells cs T)) W.heap.size := ⟨h, heap_alloc_new W _⟩
theorem aA.ai {lo : Nat} {cs : Array Value} {T : TypeId} {W w' : World} {s : Nat} (h : aA lo cs T W s) (hb : Below W.heap.size W w') : aA lo cs T w' s := ⟨h.1, (hb.block s h.lt).trans h.2⟩
theorem ik {w : World} {base e size : Nat} {v : Value} {n : Nat} {xs : List Value} {a : Addr} (h : w.ownsRow base e size v n xs) (ha : a.block < base) (u : Value) : (w.setCell a u).ownsRow base e size v n xs := by
 refine ⟨h.1, ?_⟩
 rcases h.2 with h2 | ⟨g, cap, cur, hv, hg, hh, r⟩
 ·
  exact Or.inl h2
 exact Or.inr ⟨g, cap, cur, hv, hg, (heap_setCell_other w a g u (by omega)).trans hh, r⟩
structure Ext (S : Nat → Prop) (w w' : World) : Prop where
 os : w'.os = w.os
 tape : w'.tape = w.tape
 output : w'.output = w.output
 size : w.heap.size ≤ w'.heap.size
 block : ∀ k, k < w.heap.size → ¬ S k → w'.heap[k]? = w.heap[k]?
def dz : Nat → Prop := fun _ => False
def within (lo hi : Nat) : Nat → Prop := fun k => lo ≤ k ∧ k < hi
theorem Ext.refl (S : Nat → Prop) (w : World) : Ext S w w := ⟨rfl, rfl, rfl, Nat.le_refl _, fun _ _ _ => rfl⟩
theorem Ext.trans {S : Nat → Prop} {a b c : World} (h : Ext S a b) (k : Ext S b c) : Ext S a c :=
 ⟨k.os.trans h.os, k.tape.trans h.tape, k.output.trans h.output, Nat.le_trans h.size k.size, fun i hi hn => (k.block i (Nat.lt_of_lt_of_le hi h.size) hn).trans (h.block i hi hn)⟩
theorem Ext.mono {S S' : Nat → Prop} {a b : World} (h : Ext S a b) (hs : ∀ k, k < a.heap.size → S k → S' k) : Ext S' a b :=
 ⟨h.os, h.tape, h.output, h.size, fun i hi hn => h.block i hi fun hS => hn (hs i hi hS)⟩
theorem Ext.drew {S : Nat → Prop} {a b : World} (h : Ext S a b) (n : Nat) : Ext S a (b.drewN n) := ⟨h.os, h.tape, h.output, h.size, h.block⟩
theorem az {w w' : World} (h : Below w.heap.size w w') (S : Nat → Prop) : Ext S w w' := ⟨h.os, h.tape, h.output, h.size, fun k hk _ => h.block k hk⟩
theorem Ext.below {S : Nat → Prop} {w w' : World} {B : Nat} (h : Ext S w w') (hB : B ≤ w.heap.size) (hs : ∀ k, k < B → ¬ S k) : Below B w w' :=
 ⟨h.os, h.tape, h.output, h.size, fun k hk => h.block k (by omega) (hs k hk)⟩
theorem Ext.setCell {S : Nat → Prop} {w w' : World} (h : Ext S w w') (a : Addr) (v : Value) (ha : S a.block) : Ext S w (w'.setCell a v) :=
 ⟨h.os, h.tape, h.output, by simpa using h.size, fun k hk hn => (heap_setCell_other w' a k v (fun e => hn (e ▸ ha))).trans (h.block k hk hn)⟩
theorem cell_of_heap {w w' : World} {b : Nat} (h : w'.heap[b]? = w.heap[b]?) (o : Nat) : w'.cell? ⟨b, o, none⟩ = w.cell? ⟨b, o, none⟩ := World.cell?_of_block (a := ⟨b, o, none⟩) h
theorem frozen_of_heap {w w' : World} {b : Nat} (h : w'.heap[b]? = w.heap[b]?) (o : Nat) : w'.frozen? ⟨b, o, none⟩ = w.frozen? ⟨b, o, none⟩ := World.frozen?_of_block (a := ⟨b, o, none⟩) h
structure ab (α : Type) where
 n : Nat
 bg : World → List Value → α → List Nat → Prop
 len : ∀ {w cs x bl}, bg w cs x bl → cs.length = n
 ai : ∀ {w w' cs x bl}, bg w cs x bl → (∀ b ∈ bl, w'.heap[b]? = w.heap[b]?) → bg w' cs x bl
 lt : ∀ {w cs x bl}, bg w cs x bl → ∀ b ∈ bl, b < w.heap.size
 /-- How long all its lists are together. -/
 sz : α → Nat
 /-- How many marks an element takes, and a value (whose own cells are copies). -/
 bV : α → Nat
 ak : α → Nat
 /-- An element, a value, with the marks from k on. -/
 dN : Int → α → α
 cF : Int → α → α
def cq {α : Type} (bV : α → Nat) (mk : Int → α → α) : Int → List α → List α
 | _, [] => []
 | k, x :: xs => mk k x :: cq bV mk (k + bV x) xs
def al {α : Type} (bV : α → Nat) : List α → Nat
 | [] => 0
 | x :: xs => bV x + al bV xs
namespace ab
variable {α β γ : Type}
def int : ab Int where
 n := 1
 bg _ cs x bl := cs = [.int .i64 x] ∧ (Lit.int .i64 x).wf = true ∧ bl = []
 len := by rintro w cs x bl ⟨rfl, -, -⟩; rfl
 ai := fun h _ => h
 lt := by rintro w cs x bl ⟨-, -, rfl⟩ b hb; cases hb
 sz _ := 0
 bV _ := 1
 ak _ := 0
 dN k _ := k
 cF _ x := x
def bool : ab Bool where
 n := 1
 bg _ cs x bl := cs = [.bool x] ∧ bl = []
 len := by rintro w cs x bl ⟨rfl, -⟩; rfl
 ai := fun h _ => h
 lt := by rintro w cs x bl ⟨-, rfl⟩ b hb; cases hb
 sz _ := 0
 bV _ := 1
 ak _ := 0
 dN k _ := k.tmod 3 == 0
 cF _ x := x
def pair (A : ab α) (B : ab β) : ab (α × β) where
 n := A.n + B.n
 bg w cs x bl := ∃ c1 c2 b1 b2, cs = c1 ++ c2 ∧ bl = b1 ++ b2 ∧ A.bg w c1 x.1 b1 ∧ B.bg w c2 x.2 b2
 len := by
  rintro w cs x bl ⟨c1, c2, b1, b2, rfl, rfl, h1, h2⟩
  rw [List.length_append, A.len h1, B.len h2]
 ai := by
  rintro w w' cs x bl ⟨c1, c2, b1, b2, rfl, rfl, h1, h2⟩ hk
  exact ⟨c1, c2, b1, b2, rfl, rfl, A.ai h1 fun b hb => hk b (List.mem_append_left _ hb), B.ai h2 fun b hb => hk b (List.mem_append_right _ hb)⟩
 lt := by
  rintro w cs x bl ⟨c1, c2, b1, b2, rfl, rfl, h1, h2⟩ b hb
  rcases List.mem_append.1 hb with h | h
  ·
   exact A.lt h1 b h
  exact B.lt h2 b h
 sz x := A.sz x.1 + B.sz x.2
 bV x := A.bV x.1 + B.bV x.2
 ak x := A.ak x.1 + B.ak x.2
 dN k x := (A.dN k x.1, B.dN (k + A.bV x.1) x.2)
 cF k x := (A.cF k x.1, B.cF (k + A.ak x.1) x.2)
def Rows (A : ab α) (w : World) (b off : Nat) (xs : List α) (rows : List (List Value)) (bls : List (List Nat)) : Prop :=
 rows.length = xs.length ∧ bls.length = xs.length ∧ ∀ j (h1 : j < xs.length) (h2 : j < rows.length) (h3 : j < bls.length),
  (∀ m, m < A.n → w.cell? ⟨b, off + j * A.n + m, none⟩ = rows[j][m]?) ∧ A.bg w rows[j] xs[j] bls[j]
def sl (A : ab α) : ab (List α) where
 n := 1
 bg w cs xs bl := ∃ ao cap, cs = [.slice ao xs.length cap] ∧ (xs.length ≤ cap ∧ xs.length ≤ 9223372036854775807) ∧ ((xs = [] ∧ bl = []) ∨
  ∃ b off rows bls, ao = some ⟨b, off, none⟩ ∧ b < w.heap.size ∧ bl = b :: bls.flatten ∧ A.Rows w b off xs rows bls)
 len := by rintro w cs x bl ⟨ao, cap, rfl, -⟩; rfl
 ai := by
  rintro w w' cs xs bl ⟨ao, cap, rfl, hbig, h⟩ hk
  refine ⟨ao, cap, rfl, hbig, ?_⟩
  rcases h with h | ⟨b, off, rows, bls, rfl, hb, rfl, hr, hl, hj⟩
  ·
   exact Or.inl h
  have hbb := hk b (by simp)
  refine Or.inr ⟨b, off, rows, bls, rfl, ?_, rfl, hr, hl, fun j h1 h2 h3 => ⟨fun m hm => ?_, ?_⟩⟩
  ·
   have : w.heap[b]? ≠ none := by simp; exact hb
   rw [← hbb] at this
   simpa using this
  ·
   rw [cell_of_heap hbb]
   exact (hj j h1 h2 h3).1 m hm
  refine A.ai (hj j h1 h2 h3).2 fun b' hb' => hk b' (List.mem_cons_of_mem _ (List.mem_flatten.2 ⟨bls[j], List.getElem_mem _, hb'⟩))
 lt := by
  rintro w cs xs bl ⟨ao, cap, rfl, -, h⟩ b hb
  rcases h with ⟨-, rfl⟩ | ⟨b0, off, rows, bls, rfl, hb0, rfl, hr, hl, hj⟩
  ·
   cases hb
  rcases List.mem_cons.1 hb with rfl | hb
  ·
   exact hb0
  obtain ⟨l, hl1, hl2⟩ := List.mem_flatten.1 hb
  obtain ⟨j, hjl, rfl⟩ := List.getElem_of_mem hl1
  exact A.lt (hj j (by omega) (by omega) hjl).2 b hl2
 sz xs := xs.length + al A.sz xs
 bV xs := al A.bV xs
 ak xs := al A.bV xs
 dN k xs := cq A.bV A.dN k xs
 cF k xs := cq A.bV A.dN k xs
def via (A : ab α) (f : β → α) (g : α → β) : ab β where
 n := A.n
 bg w cs x bl := A.bg w cs (f x) bl
 len := A.len
 ai := A.ai
 lt := A.lt
 sz x := A.sz (f x)
 bV x := A.bV (f x)
 ak x := A.ak (f x)
 dN k x := g (A.dN k (f x))
 cF k x := g (A.cF k (f x))
def Reads (A : ab α) (w : World) (cs : List Value) (x : α) : Prop := ∃ bl, A.bg w cs x bl
def cr (A : ab α) (w : World) (cs : List Value) (x : α) (lo hi : Nat) : Prop := ∃ bl, A.bg w cs x bl ∧ ∀ b ∈ bl, lo ≤ b ∧ b < hi
def Own (A : ab α) (w : World) (cs : List Value) (x : α) (bl : List Nat) : Prop :=
 A.bg w cs x bl ∧ bl.Nodup ∧ ∀ b ∈ bl, ∀ o, w.frozen? ⟨b, o, none⟩ = false
def aN (A : ab α) (w : World) (cs : List Value) (x : α) (lo hi : Nat) : Prop := ∃ bl, A.Own w cs x bl ∧ ∀ b ∈ bl, lo ≤ b ∧ b < hi
variable {A : ab α} {B : ab β} {w w' : World} {cs : List Value} {x : α} {lo hi : Nat}
theorem Reads.later (h : A.Reads w cs x) (hb : Below w.heap.size w w') : A.Reads w' cs x := by
 obtain ⟨bl, h⟩ := h
 exact ⟨bl, A.ai h fun b hbl => hb.block b (A.lt h b hbl)⟩
theorem cr.reads (h : A.cr w cs x lo hi) : A.Reads w cs x := by obtain ⟨bl, h, -⟩ := h; exact ⟨bl, h⟩
theorem aN.bg (h : A.aN w cs x lo hi) : A.cr w cs x lo hi := by obtain ⟨bl, ⟨h, -, -⟩, hl⟩ := h; exact ⟨bl, h, hl⟩
theorem aN.reads (h : A.aN w cs x lo hi) : A.Reads w cs x := h.bg.reads
theorem Reads.dd (h : A.Reads w cs x) : A.cr w cs x 0 w.heap.size := by
 obtain ⟨bl, h⟩ := h
 exact ⟨bl, h, fun b hb => ⟨Nat.zero_le _, A.lt h b hb⟩⟩
theorem cr.mono {lo' hi' : Nat} (h : A.cr w cs x lo hi) (h1 : lo' ≤ lo) (h2 : hi ≤ hi') : A.cr w cs x lo' hi' := by
 obtain ⟨bl, h, hl⟩ := h
 exact ⟨bl, h, fun b hb => ⟨by have := hl b hb; omega, by have := hl b hb; omega⟩⟩
theorem aN.mono {lo' hi' : Nat} (h : A.aN w cs x lo hi) (h1 : lo' ≤ lo) (h2 : hi ≤ hi') : A.aN w cs x lo' hi' := by
 obtain ⟨bl, h, hl⟩ := h
 exact ⟨bl, h, fun b hb => ⟨by have := hl b hb; omega, by have := hl b hb; omega⟩⟩
theorem cr.ext {S : Nat → Prop} (h : A.cr w cs x lo hi) (e : Ext S w w') (hs : ∀ k, lo ≤ k → k < hi → ¬ S k) : A.cr w' cs x lo hi := by
 obtain ⟨bl, h, hl⟩ := h
 exact ⟨bl, A.ai h fun b hb => e.block b (A.lt h b hb) (hs b (hl b hb).1 (hl b hb).2), hl⟩
theorem aN.ext {S : Nat → Prop} (h : A.aN w cs x lo hi) (e : Ext S w w') (hs : ∀ k, lo ≤ k → k < hi → ¬ S k) : A.aN w' cs x lo hi := by
 obtain ⟨bl, ⟨h, hn, hf⟩, hl⟩ := h
 have hk : ∀ b ∈ bl, w'.heap[b]? = w.heap[b]? := fun b hb => e.block b (A.lt h b hb) (hs b (hl b hb).1 (hl b hb).2)
 exact ⟨bl, ⟨A.ai h hk, hn, fun b hb o => (frozen_of_heap (hk b hb) o).trans (hf b hb o)⟩, hl⟩
theorem cr.later (h : A.cr w cs x lo hi) (hb : Below w.heap.size w w') : A.cr w' cs x lo hi := h.ext (az hb dz) fun _ _ _ h => h
theorem aN.later (h : A.aN w cs x lo hi) (hb : Below w.heap.size w w') : A.aN w' cs x lo hi := h.ext (az hb dz) fun _ _ _ h => h
theorem Reads.drew (h : A.Reads w cs x) (n : Nat) : A.Reads (w.drewN n) cs x := h.later (dg (Below.refl _ _) n)
theorem Reads.len (h : A.Reads w cs x) : cs.length = A.n := by obtain ⟨bl, h⟩ := h; exact A.len h
theorem bc {v : Value} {zs : List Int} (h : (sl int).Reads w [v] zs) : cf w v zs := by
 obtain ⟨bl, ao, cap, hv, -, h⟩ := h
 obtain rfl : v = .slice ao zs.length cap := by simpa using hv
 rcases h with ⟨rfl, rfl⟩ | ⟨b, off, rows, bls, rfl, hb, rfl, hr, hl, hj⟩
 ·
  exact ⟨ao, cap, rfl, by simp, by simp⟩
 refine ⟨_, cap, rfl, fun z hz => ?_, fun _ => ⟨b, off, rfl, fun j hj1 => ?_⟩⟩
 ·
  obtain ⟨j, hjl, rfl⟩ := List.getElem_of_mem hz
  exact (hj j hjl (by omega) (by omega)).2.2.1
 obtain ⟨h1, h2, -, -⟩ := hj j hj1 (by omega) (by omega)
 have := h1 0 (by decide)
 rw [h2] at this
 simpa [List.getD, hj1, ab.int] using this
theorem dY {v : Value} {zs : List Int} {bl : List Nat} : (sl int).bg w [v] zs bl ↔ ∃ ao cap, v = .slice ao zs.length cap ∧ (zs.length ≤ cap ∧ zs.length ≤ 9223372036854775807) ∧ (∀ z ∈ zs, (Lit.int .i64 z).wf = true) ∧
  ((zs = [] ∧ bl = []) ∨ ∃ b off, ao = some ⟨b, off, none⟩ ∧ b < w.heap.size ∧ bl = [b] ∧ ∀ j, j < zs.length → w.cell? ⟨b, off + j, none⟩ = some (.int .i64 (zs.getD j 0))) := by
 constructor
 ·
  rintro ⟨ao, cap, hv, hbig, h⟩
  obtain rfl : v = .slice ao zs.length cap := by simpa using hv
  rcases h with ⟨rfl, rfl⟩ | ⟨b, off, rows, bls, rfl, hb, rfl, hr, hl, hj⟩
  ·
   exact ⟨ao, cap, rfl, hbig, by simp, Or.inl ⟨rfl, rfl⟩⟩
  refine ⟨_, cap, rfl, hbig, fun z hz => ?_, Or.inr ⟨b, off, rfl, hb, ?_, fun j hj1 => ?_⟩⟩
  ·
   obtain ⟨j, hjl, rfl⟩ := List.getElem_of_mem hz
   exact (hj j hjl (by omega) (by omega)).2.2.1
  ·
   have e2 : bls.flatten = [] := by
    rw [List.flatten_eq_nil_iff]
    intro l hl
    obtain ⟨j, hjl, rfl⟩ := List.getElem_of_mem hl
    exact (hj j (by omega) (by omega) hjl).2.2.2
   rw [e2]
  obtain ⟨h1, h2, -, -⟩ := hj j hj1 (by omega) (by omega)
  have := h1 0 (by decide)
  rw [h2] at this
  simpa [List.getD, hj1, ab.int] using this
 rintro ⟨ao, cap, rfl, hbig, hwf, h⟩
 refine ⟨ao, cap, rfl, hbig, ?_⟩
 rcases h with ⟨rfl, rfl⟩ | ⟨b, off, rfl, hb, rfl, hc⟩
 ·
  exact Or.inl ⟨rfl, rfl⟩
 refine Or.inr ⟨b, off, zs.map (fun z => [.int .i64 z]), List.replicate zs.length [], rfl, hb, by simp, by simp, by simp, fun j h1 h2 h3 => ⟨fun m hm => ?_, ?_⟩⟩
 ·
  obtain rfl : m = 0 := by simp only [ab.int] at hm; omega
  have := hc j h1
  simpa [List.getD, h1, ab.int] using this
 exact ⟨by simp, hwf _ (List.getElem_mem _), by simp⟩
theorem ka {v : Value} {zs : List Int} (h : cf w v zs) (hcap : ∀ ao cap, v = .slice ao zs.length cap → zs.length ≤ cap) (hbig : zs.length ≤ 9223372036854775807) : (sl int).Reads w [v] zs := by
 obtain ⟨ao, cap, rfl, hwf, hc⟩ := h
 have hcp := hcap _ _ rfl
 by_cases hp : 0 < zs.length
 ·
  obtain ⟨b, off, rfl, hc1⟩ := hc hp
  exact ⟨[b], dY.2 ⟨_, cap, rfl, ⟨hcp, hbig⟩, hwf, Or.inr ⟨b, off, rfl, World.block_lt_of_cell? _ _ (hc1 0 hp), rfl, hc1⟩⟩⟩
 obtain rfl : zs = [] := List.eq_nil_of_length_eq_zero (by omega)
 exact ⟨[], dY.2 ⟨ao, cap, rfl, ⟨hcp, hbig⟩, by simp, Or.inl ⟨rfl, rfl⟩⟩⟩
theorem Reads.cap {A : ab α} {ao : Option Addr} {n cap : Nat} {xs : List α} (h : (sl A).Reads w [.slice ao n cap] xs) : n = xs.length ∧ n ≤ cap := by
 obtain ⟨bl, ao', cap', e, hb, -⟩ := h
 simp only [List.cons.injEq, Value.slice.injEq, and_true] at e
 obtain ⟨-, rfl, rfl⟩ := e
 exact ⟨rfl, hb.1⟩
theorem Reads.et {A : ab α} {v : Value} {xs : List α} (h : (sl A).Reads w [v] xs) : xs.length ≤ 9223372036854775807 := by
 obtain ⟨bl, ao, cap, -, hb, -⟩ := h
 exact hb.2
theorem eM {v : Value} {zs : List Int} {base T : Nat} (hwf : ∀ z ∈ zs, (Lit.int .i64 z).wf = true) (hbig : zs.length ≤ 9223372036854775807) (h : w.ownsRow base T 1 v zs.length (zs.map (Value.int .i64))) : (sl int).aN w [v] zs base w.heap.size := by
 have hi := o7 hwf h
 rcases h.2 with ⟨rfl, h0⟩ | ⟨g, cap, cur, rfl, hg, hh, hcap, _⟩
 ·
  obtain rfl : zs = [] := List.eq_nil_of_length_eq_zero h0
  exact ⟨[], ⟨dY.2 ⟨none, 0, rfl, ⟨by simp, hbig⟩, by simp, Or.inl ⟨rfl, rfl⟩⟩, by simp, by simp⟩, by simp⟩
 by_cases hp : 0 < zs.length
 ·
  obtain ⟨ao, cp, hv, hwf, hc⟩ := hi
  obtain ⟨b, off, rfl, hc1⟩ := hc hp
  simp only [Value.slice.injEq, Option.some.injEq, Addr.mk.injEq, and_true, true_and] at hv
  obtain ⟨⟨rfl, rfl⟩, rfl⟩ := hv
  refine ⟨[g], ⟨dY.2 ⟨_, cap, rfl, ⟨hcap, hbig⟩, hwf, Or.inr ⟨g, 0, rfl, lt_of_block hh, rfl, hc1⟩⟩, by simp, ?_⟩, ?_⟩
  ·
   intro b hb o
   obtain rfl : b = g := by simpa using hb
   simp [World.frozen?, hh]
  intro b hb
  obtain rfl : b = g := by simpa using hb
  exact ⟨hg, lt_of_block hh⟩
 obtain rfl : zs = [] := List.eq_nil_of_length_eq_zero (by omega)
 exact ⟨[], ⟨dY.2 ⟨_, _, rfl, ⟨hcap, hbig⟩, by simp, Or.inl ⟨rfl, rfl⟩⟩, by simp, by simp⟩, by simp⟩
theorem Own.ext {S : Nat → Prop} {bl : List Nat} (h : A.Own w cs x bl) (e : Ext S w w') (hs : ∀ b ∈ bl, ¬ S b) : A.Own w' cs x bl := by
 obtain ⟨h, hn, hf⟩ := h
 have hk : ∀ b ∈ bl, w'.heap[b]? = w.heap[b]? := fun b hb => e.block b (A.lt h b hb) (hs b hb)
 exact ⟨A.ai h hk, hn, fun b hb o => (frozen_of_heap (hk b hb) o).trans (hf b hb o)⟩
theorem Own.later {bl : List Nat} (h : A.Own w cs x bl) (hb : Below w.heap.size w w') : A.Own w' cs x bl := h.ext (az hb dz) fun _ _ h => h
theorem Own.reads {bl : List Nat} (h : A.Own w cs x bl) : A.Reads w cs x := ⟨bl, h.1⟩
theorem Own.lt {bl : List Nat} (h : A.Own w cs x bl) : ∀ b ∈ bl, b < w.heap.size := A.lt h.1
end ab
theorem aA.at {lo : Nat} {cs : Array Value} {T : TypeId} {W : World} {s : Nat} (h : aA lo cs T W s) (i : Nat) (v : Value) (hi : cs[i]? = some v) : W.cell? ⟨s, i, none⟩ = some v := by
 simp [World.cell?, h.2, hi]
theorem aZ5 {lo : Nat} {T : TypeId} {W : World} {s : Nat} {v0 v1 v2 v3 v4 : Value} (h : aA lo #[v0, v1, v2, v3, v4] T W s) : W.cell? ⟨s, 0, none⟩ = some v0 ∧ W.cell? ⟨s, 1, none⟩ = some v1 ∧ W.cell? ⟨s, 2, none⟩ = some v2 ∧ W.cell? ⟨s, 3, none⟩ = some v3 ∧ W.cell? ⟨s, 4, none⟩ = some v4 := ⟨h.at 0 _ rfl, h.at 1 _ rfl, h.at 2 _ rfl, h.at 3 _ rfl, h.at 4 _ rfl⟩
theorem aZ7 {lo : Nat} {T : TypeId} {W : World} {s : Nat} {v0 v1 v2 v3 v4 v5 v6 : Value} (h : aA lo #[v0, v1, v2, v3, v4, v5, v6] T W s) : W.cell? ⟨s, 0, none⟩ = some v0 ∧ W.cell? ⟨s, 1, none⟩ = some v1 ∧ W.cell? ⟨s, 2, none⟩ = some v2 ∧ W.cell? ⟨s, 3, none⟩ = some v3 ∧ W.cell? ⟨s, 4, none⟩ = some v4 ∧ W.cell? ⟨s, 5, none⟩ = some v5 ∧ W.cell? ⟨s, 6, none⟩ = some v6 := ⟨h.at 0 _ rfl, h.at 1 _ rfl, h.at 2 _ rfl, h.at 3 _ rfl, h.at 4 _ rfl, h.at 5 _ rfl, h.at 6 _ rfl⟩
theorem aZ9 {lo : Nat} {T : TypeId} {W : World} {s : Nat} {v0 v1 v2 v3 v4 v5 v6 v7 v8 : Value} (h : aA lo #[v0, v1, v2, v3, v4, v5, v6, v7, v8] T W s) : W.cell? ⟨s, 0, none⟩ = some v0 ∧ W.cell? ⟨s, 1, none⟩ = some v1 ∧ W.cell? ⟨s, 2, none⟩ = some v2 ∧ W.cell? ⟨s, 3, none⟩ = some v3 ∧ W.cell? ⟨s, 4, none⟩ = some v4 ∧ W.cell? ⟨s, 5, none⟩ = some v5 ∧ W.cell? ⟨s, 6, none⟩ = some v6 ∧ W.cell? ⟨s, 7, none⟩ = some v7 ∧ W.cell? ⟨s, 8, none⟩ = some v8 := ⟨h.at 0 _ rfl, h.at 1 _ rfl, h.at 2 _ rfl, h.at 3 _ rfl, h.at 4 _ rfl, h.at 5 _ rfl, h.at 6 _ rfl, h.at 7 _ rfl, h.at 8 _ rfl⟩
theorem aZ11 {lo : Nat} {T : TypeId} {W : World} {s : Nat} {v0 v1 v2 v3 v4 v5 v6 v7 v8 v9 v10 : Value} (h : aA lo #[v0, v1, v2, v3, v4, v5, v6, v7, v8, v9, v10] T W s) : W.cell? ⟨s, 0, none⟩ = some v0 ∧ W.cell? ⟨s, 1, none⟩ = some v1 ∧ W.cell? ⟨s, 2, none⟩ = some v2 ∧ W.cell? ⟨s, 3, none⟩ = some v3 ∧ W.cell? ⟨s, 4, none⟩ = some v4 ∧ W.cell? ⟨s, 5, none⟩ = some v5 ∧ W.cell? ⟨s, 6, none⟩ = some v6 ∧ W.cell? ⟨s, 7, none⟩ = some v7 ∧ W.cell? ⟨s, 8, none⟩ = some v8 ∧ W.cell? ⟨s, 9, none⟩ = some v9 ∧ W.cell? ⟨s, 10, none⟩ = some v10 := ⟨h.at 0 _ rfl, h.at 1 _ rfl, h.at 2 _ rfl, h.at 3 _ rfl, h.at 4 _ rfl, h.at 5 _ rfl, h.at 6 _ rfl, h.at 7 _ rfl, h.at 8 _ rfl, h.at 9 _ rfl, h.at 10 _ rfl⟩
theorem aA.soft {lo : Nat} {cs : Array Value} {T : TypeId} {W : World} {s : Nat} (h : aA lo cs T W s) : ∀ o, W.frozen? ⟨s, o, none⟩ = false := fun o => by simp [World.frozen?, h.2]
theorem aA.ext {S : Nat → Prop} {lo : Nat} {cs : Array Value} {T : TypeId} {W w' : World} {s : Nat} (h : aA lo cs T W s) (e : Ext S W w') (hs : ¬ S s) : aA lo cs T w' s := ⟨h.1, (e.block s h.lt hs).trans h.2⟩
theorem aA.grow {lo : Nat} {cs : Array Value} {T : TypeId} {W : World} {s : Nat} (h : aA lo cs T W s) (o : Obj) : aA lo cs T (W.alloc o) s := h.ai ((Below.refl _ _).alloc (Nat.le_refl _) o)
theorem bm {lo s : Nat} {cs : Array Value} {T : TypeId} {W : World} (h : lo ≤ s) (hs : W.heap.size = s) : aA lo cs T (W.alloc (.cells cs T)) s := by subst hs; exact aD h
theorem aA.set {lo : Nat} {cs : Array Value} {T : TypeId} {W : World} {s : Nat} (h : aA lo cs T W s) (i : Nat) (v : Value) : aA lo (cs.setIfInBounds i v) T (W.setCell ⟨s, i, none⟩ v) s := by
 refine ⟨h.1, ?_⟩
 simp [World.setCell, Array.getElem?_modify, h.2]
theorem aA.other {lo : Nat} {cs : Array Value} {T : TypeId} {W : World} {s : Nat} (h : aA lo cs T W s) (a : Addr) (v : Value) (ha : s ≠ a.block) : aA lo cs T (W.setCell a v) s := ⟨h.1, (heap_setCell_other W a s v ha).trans h.2⟩
def aG (W : World) (s : Nat) : Nat → List Value → World
 | _, [] => W
 | i, v :: vs => aG (W.setCell ⟨s, i, none⟩ v) s (i + 1) vs
theorem bb (S : Nat → Prop) {a W : World} (h : Ext S a W) (s i : Nat) (vs : List Value) (hs : S s) : Ext S a (aG W s i vs) := by
 induction vs generalizing W i with
 | nil => exact h
 | cons v vs ih => exact ih (h.setCell ⟨s, i, none⟩ v hs) (i + 1)
theorem aB {B : Nat} {a W : World} (h : Below B a W) (s i : Nat) (vs : List Value) (hs : B ≤ s) : Below B a (aG W s i vs) := by
 induction vs generalizing W i with
 | nil => exact h
 | cons v vs ih => exact ih (h.setCell (by simpa using hs) v) (i + 1)
theorem bL (W : World) (s i : Nat) (vs : List Value) : (aG W s i vs).heap.size = W.heap.size := by
 induction vs generalizing W i with
 | nil => rfl
 | cons v vs ih => rw [aG, ih]; simp
def vC (W : World) (s : Nat) : List (Nat × Value) → World
 | [] => W
 | p :: ps => vC (W.setCell ⟨s, p.1, none⟩ p.2) s ps
theorem cH {S : Nat → Prop} {a W : World} (h : Ext S a W) (s : Nat) (ps : List (Nat × Value)) (hs : S s) : Ext S a (vC W s ps) := by
 induction ps generalizing W with
 | nil => exact h
 | cons p ps ih => exact ih (h.setCell ⟨s, p.1, none⟩ p.2 hs)
theorem aI {α : Type} {A : ab α} {w : World} {v : Value} {xs : List α} (h : (ab.sl A).Reads w [v] xs) : ∃ ao cap, v = .slice ao xs.length cap := by
 obtain ⟨bl, ao, cap, e, -⟩ := h
 exact ⟨ao, cap, by simpa using e⟩
def ts {α : Type} (A : ab α) (K : Nat) : Prop := ∀ x, A.bV x ≤ K * (1 + A.sz x) ∧ A.ak x ≤ K * (1 + A.sz x)
theorem bz : ts ab.int 1 := fun _ => by simp [ab.int]
theorem rT : ts ab.bool 1 := fun _ => by simp [ab.bool]
theorem bf {α β : Type} {A : ab α} {B : ab β} {K L : Nat} (h : ts A K) (k : ts B L) : ts (ab.pair A B) (K + L) := by
 intro x
 have h1 := h x.1
 have h2 := k x.2
 have e1 : K * (1 + A.sz x.1) ≤ K * (1 + (A.sz x.1 + B.sz x.2)) := Nat.mul_le_mul_left _ (by omega)
 have e2 : L * (1 + B.sz x.2) ≤ L * (1 + (A.sz x.1 + B.sz x.2)) := Nat.mul_le_mul_left _ (by omega)
 constructor
 ·
  show A.bV x.1 + B.bV x.2 ≤ (K + L) * (1 + (A.sz x.1 + B.sz x.2))
  rw [Nat.add_mul]
  omega
 show A.ak x.1 + B.ak x.2 ≤ (K + L) * (1 + (A.sz x.1 + B.sz x.2))
 rw [Nat.add_mul]
 omega
theorem fc {α : Type} {A : ab α} {K : Nat} (h : ts A K) : ts (ab.sl A) K := by
 intro xs
 have e : al A.bV xs ≤ K * (xs.length + al A.sz xs) := by
  induction xs with
  | nil => simp [al]
  | cons x xs ih =>
   have hx := (h x).1
   simp only [al, List.length_cons]
   have : K * (xs.length + 1 + (A.sz x + al A.sz xs)) = K * (1 + A.sz x) + K * (xs.length + al A.sz xs) := by rw [← Nat.mul_add]; congr 1; omega
   omega
 have e2 : K * (xs.length + al A.sz xs) ≤ K * (1 + (xs.length + al A.sz xs)) := Nat.mul_le_mul_left _ (by omega)
 exact ⟨Nat.le_trans e e2, Nat.le_trans e e2⟩
theorem eO {α β : Type} {A : ab α} {f : β → α} {g : α → β} {K : Nat} (h : ts A K) : ts (ab.via A f g) K := fun x => h (f x)
theorem lO {α : Type} {A : ab α} {K : Nat} (h : ts A K) {x : α} (hs : A.sz x ≤ 1048576) (hK : K ≤ 60) : A.ak x ≤ 100000000 := by
 have := (h x).2
 have : K * (1 + A.sz x) ≤ 60 * (1 + A.sz x) := Nat.mul_le_mul_right _ hK
 omega
theorem cK {lo hi lo' hi' : Nat} (h : hi ≤ lo' ∨ hi' ≤ lo) : ∀ k, lo ≤ k → k < hi → ¬ within lo' hi' k := fun k h1 h2 h3 => by simp only [within] at h3; omega
def mP (l n : Nat) : Int := if n ≤ l then ((l - n : Nat) : Int) else -1
theorem cg {l n : Nat} (h : n ≤ l) : mP l n = ((l - n : Nat) : Int) := if_pos h
theorem bp {l n : Nat} (h : l < n) : mP l n = -1 := if_neg (by omega)
namespace ab
variable {α β : Type} {A : ab α} {B : ab β} {w w' : World}
theorem bJ {z : Int} {lo hi : Nat} (h : (Lit.int .i64 z).wf = true) : ab.int.aN w [.int .i64 z] z lo hi := ⟨[], ⟨⟨rfl, h, rfl⟩, by simp, by simp⟩, by simp⟩
theorem pk {b : Bool} {lo hi : Nat} : ab.bool.aN w [.bool b] b lo hi := ⟨[], ⟨⟨rfl, rfl⟩, by simp, by simp⟩, by simp⟩
theorem ba {c1 c2 : List Value} {x : α} {y : β} {lo m m' hi : Nat} (h : A.aN w c1 x lo m) (k : B.aN w c2 y m' hi) (hm : m ≤ m') (hlo : lo ≤ m') (hhi : m ≤ hi) : (ab.pair A B).aN w (c1 ++ c2) (x, y) lo hi := by
 obtain ⟨b1, ⟨l1, n1, f1⟩, i1⟩ := h
 obtain ⟨b2, ⟨l2, n2, f2⟩, i2⟩ := k
 refine ⟨b1 ++ b2, ⟨⟨c1, c2, b1, b2, rfl, rfl, l1, l2⟩, ?_, ?_⟩, ?_⟩
 ·
  rw [List.nodup_append]
  exact ⟨n1, n2, fun a ha b hb e => by have := i1 a ha; have := i2 b hb; omega⟩
 ·
  intro b hb
  rcases List.mem_append.1 hb with h | h
  ·
   exact f1 b h
  exact f2 b h
 intro b hb
 rcases List.mem_append.1 hb with h | h
 ·
  have := i1 b h; omega
 have := i2 b h; omega
theorem gA {w : World} {cs : List Value} {x : α} {lo hi : Nat} (own : A.aN w' cs x lo hi) (hlo : w.heap.size ≤ lo) (hhi : hi ≤ w'.heap.size) (hb : Below w.heap.size w w') :
  ∃ cs', Ending.returned (.agg cs.toArray) = .returned (.agg cs'.toArray) ∧ A.aN w' cs' x w.heap.size w'.heap.size ∧ Below w.heap.size w w' := ⟨cs, rfl, own.mono hlo hhi, hb⟩
def gj (A : ab α) (w : World) (rows : List (List Value)) (xs : List α) (lo hi : Nat) : Prop :=
 ∃ bls : List (List Nat), rows.length = xs.length ∧ bls.length = xs.length ∧ (∀ j (h1 : j < xs.length) (h2 : j < rows.length) (h3 : j < bls.length), A.bg w rows[j] xs[j] bls[j]) ∧
  bls.flatten.Nodup ∧ (∀ b ∈ bls.flatten, lo ≤ b ∧ b < hi) ∧ ∀ b ∈ bls.flatten, ∀ o, w.frozen? ⟨b, o, none⟩ = false
theorem ek {lo hi : Nat} : gj A w [] [] lo hi := ⟨[], rfl, rfl, fun j h => by simp at h, by simp, by simp, by simp⟩
theorem dK {rows : List (List Value)} {xs : List α} {row : List Value} {x : α} {lo hi lo' hi' : Nat} (h : gj A w rows xs lo hi) (k : A.aN w row x lo' hi') (h1 : hi ≤ lo') (h2 : lo ≤ lo') (h3 : hi ≤ hi') : gj A w (rows ++ [row]) (xs ++ [x]) lo hi' := by
 obtain ⟨bls, hr, hb, hl, hn, hi, hf⟩ := h
 obtain ⟨bl, ⟨l, n, f⟩, i⟩ := k
 refine ⟨bls ++ [bl], by simp [hr], by simp [hb], fun j j1 j2 j3 => ?_, ?_, ?_, ?_⟩
 ·
  by_cases hj : j < xs.length
  ·
   have e := hl j hj (by omega) (by omega)
   rw [List.getElem_append_left (by omega), List.getElem_append_left hj, List.getElem_append_left (by omega)]
   exact e
  obtain rfl : j = xs.length := by simp at j1; omega
  rw [List.getElem_append_right (by omega), List.getElem_append_right (by omega), List.getElem_append_right (by omega)]
  simpa using l
 ·
  rw [List.flatten_append, List.nodup_append]
  refine ⟨hn, by simpa using n, fun a ha b hb e => ?_⟩
  have := hi a ha
  have := i b (by simpa using hb)
  omega
 ·
  intro b hb
  rw [List.flatten_append] at hb
  rcases List.mem_append.1 hb with h | h
  ·
   have := hi b h; omega
  have := i b (by simpa using h); omega
 intro b hb
 rw [List.flatten_append] at hb
 rcases List.mem_append.1 hb with h | h
 ·
  exact hf b h
 exact f b (by simpa using h)
theorem cC {rows : List (List Value)} {xs : List α} {lo hi : Nat} {S : Nat → Prop} (h : gj A w rows xs lo hi) (e : Ext S w w') (hs : ∀ k, lo ≤ k → k < hi → ¬ S k) : gj A w' rows xs lo hi := by
 obtain ⟨bls, hr, hb, hl, hn, hi, hf⟩ := h
 have hlt : ∀ b ∈ bls.flatten, b < w.heap.size := by
  intro b hm
  obtain ⟨l, h1, h2⟩ := List.mem_flatten.1 hm
  obtain ⟨j, hj, rfl⟩ := List.getElem_of_mem h1
  exact A.lt (hl j (by omega) (by omega) hj) b h2
 have hk : ∀ b ∈ bls.flatten, w'.heap[b]? = w.heap[b]? := fun b hm => e.block b (hlt b hm) (hs b (hi b hm).1 (hi b hm).2)
 exact ⟨bls, hr, hb, fun j h1 h2 h3 => A.ai (hl j h1 h2 h3) fun b hm => hk b (List.mem_flatten.2 ⟨_, List.getElem_mem _, hm⟩), hn, hi, fun b hm o => (frozen_of_heap (hk b hm) o).trans (hf b hm o)⟩
theorem eh {rows : List (List Value)} {xs : List α} {lo hi : Nat} (h : gj A w rows xs lo hi) : rows.flatten.length = xs.length * A.n ∧ rows.length = xs.length := by
 obtain ⟨bls, hr, hb, hl, -⟩ := h
 refine ⟨?_, hr⟩
 rw [← hr]
 have : ∀ r ∈ rows, r.length = A.n := by
  intro r hm
  obtain ⟨j, hj, rfl⟩ := List.getElem_of_mem hm
  exact A.len (hl j (by omega) hj (by omega))
 clear hr hb hl
 induction rows with
 | nil => simp
 | cons r rows ih =>
  rw [List.flatten_cons, List.length_append, this r (by simp), ih fun q hq => this q (List.mem_cons_of_mem _ hq), List.length_cons, Nat.add_mul]
  omega
theorem jz {rows : List (List Value)} {n : Nat} (h : ∀ r ∈ rows, r.length = n) (j m : Nat) (hj : j < rows.length) (hm : m < n) : rows.flatten[j * n + m]? = rows[j][m]? := by
 induction rows generalizing j with
 | nil => simp at hj
 | cons r rows ih =>
  have hr := h r (by simp)
  rw [List.flatten_cons]
  match j with
  | 0 =>
   rw [List.getElem?_append_left (by omega)]
   simp
  | j + 1 =>
   rw [List.getElem?_append_right (by rw [hr, Nat.add_mul]; omega), hr, show (j + 1) * n + m - n = j * n + m by rw [Nat.add_mul]; omega]
   rw [ih (fun q hq => h q (List.mem_cons_of_mem _ hq)) j (by simpa using hj)]
   simp
theorem dJ {rows : List (List Value)} {xs : List α} {base T g cap lo hi : Nat} (hown : w.ownsRow base T A.n (.slice (some ⟨g, 0, none⟩) xs.length cap) xs.length rows.flatten) (h : gj A w rows xs lo hi) (hg : g < lo) (hhi : hi ≤ w.heap.size) (hn : xs.length ≤ 9223372036854775807) :
  (sl A).aN w [.slice (some ⟨g, 0, none⟩) xs.length cap] xs base w.heap.size := by
 obtain ⟨bls, hr, hb, hl, hnd, hi', hf⟩ := h
 have hlg := hown.lt g rfl
 have hle : ∀ r ∈ rows, r.length = A.n := by
  intro r hm
  obtain ⟨j, hj, rfl⟩ := List.getElem_of_mem hm
  exact A.len (hl j (by omega) hj (by omega))
 have hcap : xs.length ≤ cap := by
  rcases hown.2 with ⟨e, -⟩ | ⟨g', cap', cur, e, -, -, hc, -⟩
  ·
   simp at e
  simp only [Value.slice.injEq] at e
  obtain ⟨-, -, rfl⟩ := e
  exact hc
 by_cases h0 : xs = []
 ·
  subst h0
  exact ⟨[], ⟨⟨_, _, rfl, ⟨hcap, hn⟩, Or.inl ⟨rfl, rfl⟩⟩, by simp, by simp⟩, by simp⟩
 refine ⟨g :: bls.flatten, ⟨⟨_, _, rfl, ⟨hcap, hn⟩, Or.inr ⟨g, 0, rows, bls, rfl, hlg.2, rfl, hr, hb, fun j h1 h2 h3 => ⟨fun m hm => ?_, hl j h1 h2 h3⟩⟩⟩, ?_, ?_⟩, ?_⟩
 ·
  rw [Nat.zero_add, hown.cellAt (j * A.n + m) (by
   have : (j + 1) * A.n ≤ xs.length * A.n := Nat.mul_le_mul_right _ (by omega)
   rw [Nat.add_mul] at this
   omega)]
  exact jz hle j m h2 hm
 ·
  rw [List.nodup_cons]
  exact ⟨fun hm => by have := hi' g hm; omega, hnd⟩
 ·
  intro b hm o
  rcases List.mem_cons.1 hm with rfl | hm
  ·
   exact hown.frozenAt o
  exact hf b hm o
 intro b hm
 rcases List.mem_cons.1 hm with rfl | hm
 ·
  exact hlg
 have := hi' b hm; omega
theorem bE {xs : List α} {b off cap k : Nat} (h : (sl A).Reads w [.slice (some ⟨b, off, none⟩) xs.length cap] xs) (hk : k < xs.length) : ∃ row, (∀ m, m < A.n → w.cell? ⟨b, off + k * A.n + m, none⟩ = row[m]?) ∧ A.Reads w row xs[k] := by
 obtain ⟨bl, ao, cp, e, -, h⟩ := h
 simp only [List.cons.injEq, Value.slice.injEq, and_true] at e
 obtain ⟨rfl, -, rfl⟩ := e
 rcases h with ⟨rfl, -⟩ | ⟨b', off', rows, bls, e2, hb, rfl, hr, hl, hj⟩
 ·
  simp at hk
 simp only [Option.some.injEq, Addr.mk.injEq, and_true] at e2
 obtain ⟨rfl, rfl⟩ := e2
 exact ⟨_, (hj k hk (by omega) (by omega)).1, ⟨_, (hj k hk (by omega) (by omega)).2⟩⟩
theorem aS {xs : List α} {ao : Option Addr} {n cap : Nat} (h : (sl A).Reads w [.slice ao n cap] xs) (hp : 0 < xs.length) : ∃ b off, ao = some ⟨b, off, none⟩ ∧ b < w.heap.size := by
 obtain ⟨bl, ao', cp, e, -, h⟩ := h
 simp only [List.cons.injEq, Value.slice.injEq, and_true] at e
 obtain ⟨rfl, -, rfl⟩ := e
 rcases h with ⟨rfl, -⟩ | ⟨b', off', rows, bls, e2, hb, rfl, hr, hl, hj⟩
 ·
  simp at hp
 exact ⟨b', off', e2, hb⟩
theorem gv {xs : List α} {k : Nat} (hk : k < xs.length) : A.sz xs[k] ≤ (sl A).sz xs := by
 show A.sz xs[k] ≤ xs.length + al A.sz xs
 have : A.sz xs[k] ≤ al A.sz xs := by
  induction xs generalizing k with
  | nil => simp at hk
  | cons x xs ih =>
   match k with
   | 0 => simp [al]
   | k + 1 =>
    have := ih (k := k) (by simpa using hk)
    simp only [al, List.getElem_cons_succ]
    omega
 omega
theorem fX {xs : List α} : xs.length ≤ (sl A).sz xs := Nat.le_add_right _ _
theorem cj {f : α → Nat} {xs : List α} {k : Nat} (hk : k < xs.length) : al f (xs.take (k + 1)) = al f (xs.take k) + f xs[k] := by
 induction xs generalizing k with
 | nil => simp at hk
 | cons x xs ih =>
  match k with
  | 0 => simp [al]
  | k + 1 =>
   have := ih (k := k) (by simpa using hk)
   simp only [List.take_succ_cons, al, List.getElem_cons_succ]
   omega
theorem bM {f : α → Nat} {xs : List α} {k : Nat} : al f (xs.take k) ≤ al f xs := by
 induction xs generalizing k with
 | nil => simp
 | cons x xs ih =>
  match k with
  | 0 => simp [al]
  | k + 1 =>
   have := ih (k := k)
   simp only [List.take_succ_cons, al]
   omega
end ab
def setFrom (xs : List Value) : Nat → List Value → List Value
 | _, [] => xs
 | i, v :: vs => setFrom (xs.set i v) (i + 1) vs
theorem cY (P Q vs : List Value) (h : vs.length ≤ Q.length) : setFrom (P ++ Q) P.length vs = P ++ vs ++ Q.drop vs.length := by
 induction vs generalizing P Q with
 | nil => simp [setFrom]
 | cons v vs ih =>
  match Q, h with
  | q :: Q, h =>
   rw [setFrom, List.set_append_right _ _ (Nat.le_refl _), Nat.sub_self, List.set_cons_zero]
   have := ih (P ++ [v]) Q (by simpa using h)
   simp only [List.length_append, List.length_cons, List.length_nil, Nat.zero_add] at this
   rw [show P ++ v :: Q = P ++ [v] ++ Q by simp, this]
   simp
theorem di {w : World} {base e size g n cap : Nat} {xs : List Value} (h : w.ownsRow base e size (.slice (some ⟨g, 0, none⟩) n cap) n xs) (i : Nat) (vs : List Value) : (aG w g i vs).ownsRow base e size (.slice (some ⟨g, 0, none⟩) n cap) n (setFrom xs i vs) := by
 induction vs generalizing w i xs with
 | nil => exact h
 | cons v vs ih => exact ih (h.stored i v).1 (i + 1)
theorem j8 {bls : List (List Nat)} (h : bls.flatten.Nodup) : (∀ l ∈ bls, l.Nodup) ∧ ∀ i j (hi : i < bls.length) (hj : j < bls.length), i ≠ j → ∀ c ∈ bls[i], c ∉ bls[j] := by
 induction bls with
 | nil => exact ⟨by simp, fun i j hi => by simp at hi⟩
 | cons l ls ih =>
  rw [List.flatten_cons, List.nodup_append] at h
  obtain ⟨h1, h2, h3⟩ := h
  obtain ⟨k1, k2⟩ := ih h2
  have hm : ∀ j (hj : j < ls.length), ∀ c ∈ l, c ∉ ls[j] := fun j hj c hc hq => h3 c hc c (List.mem_flatten.2 ⟨_, List.getElem_mem hj, hq⟩) rfl
  refine ⟨fun q hq => ?_, fun i j hi hj hne c hc hq => ?_⟩
  ·
   rcases List.mem_cons.1 hq with rfl | hq
   ·
    exact h1
   exact k1 q hq
  match i, j, hi, hj, hne with
  | 0, j + 1, _, hj, _ => exact hm j (by simpa using hj) c (by simpa using hc) (by simpa using hq)
  | i + 1, 0, hi, _, _ => exact hm i (by simpa using hi) c (by simpa using hq) (by simpa using hc)
  | i + 1, j + 1, hi, hj, hne => exact k2 i j (by simpa using hi) (by simpa using hj) (by omega) c (by simpa using hc) (by simpa using hq)
structure cU (w c : World) (b o n : Nat) (cs : List Value) (blk : List Nat) : Prop where
 len : cs.length = n
 cells : ∀ m, m < n → c.cell? ⟨b, o + m, none⟩ = cs[m]?
 others : ∀ q, (q < o ∨ o + n ≤ q) → c.cell? ⟨b, q, none⟩ = w.cell? ⟨b, q, none⟩
 soft : ∀ q, c.frozen? ⟨b, q, none⟩ = false
 lt : b < c.heap.size
 ext : Ext (fun q => q = b ∨ q ∈ blk) w c
theorem cU.at {w c : World} {b o n : Nat} {cs : List Value} {blk : List Nat} (h : cU w c b o n cs blk) (m : Nat) (v : Value) (hv : cs[m]? = some v) : c.cell? ⟨b, o + m, none⟩ = some v := by
 have : m < n := by rw [← h.len]; exact (List.getElem?_eq_some_iff.1 hv).1
 rw [h.cells m this, hv]
theorem cU.set {w c : World} {b o n : Nat} {cs : List Value} {blk : List Nat} (h : cU w c b o n cs blk) (m : Nat) (v : Value) (hm : m < n) : cU w (c.setCell ⟨b, o + m, none⟩ v) b o n (cs.set m v) blk := by
 refine ⟨by simpa using h.len, fun j hj => ?_, fun q hq => ?_, fun q => by simpa using h.soft q, by simpa using h.lt, h.ext.setCell _ _ (Or.inl rfl)⟩
 ·
  by_cases e : j = m
  ·
   subst e
   have hc := h.cells j hj
   have : ∃ u, c.cell? ⟨b, o + j, none⟩ = some u := ⟨_, hc.trans (List.getElem?_eq_getElem (by rw [h.len]; exact hj))⟩
   obtain ⟨u, hu⟩ := this
   rw [World.cell?_setCell_same _ _ _ hu, List.getElem?_set_self (by rw [h.len]; exact hj)]
  rw [World.cell?_setCell_other _ _ _ _ (fun q => by have := congrArg Addr.off q; simp only at this; omega), h.cells j hj, List.getElem?_set_ne (by omega)]
 rw [World.cell?_setCell_other _ _ _ _ (fun e => by have := congrArg Addr.off e; simp only at this; omega)]
 exact h.others q hq
theorem cU.call {w c c' : World} {b o n : Nat} {cs : List Value} {blk g : List Nat} (h : cU w c b o n cs blk) (e : Ext (fun q => q ∈ g) c c') (hg : ∀ q ∈ g, q ∈ blk) (hb : b ∉ g) : cU w c' b o n cs blk := by
 have hh := e.block b h.lt hb
 exact ⟨h.len, fun m hm => (cell_of_heap hh _).trans (h.cells m hm), fun q hq => (cell_of_heap hh _).trans (h.others q hq), fun q => (frozen_of_heap hh _).trans (h.soft q), Nat.lt_of_lt_of_le h.lt e.size, h.ext.trans (e.mono fun q _ hq => Or.inr (hg q hq))⟩
namespace ab
variable {α : Type} {A : ab α} {w : World}
theorem ic {xs : List α} {b off cap k n : Nat} {bl : List Nat} (h : (sl A).Own w [.slice (some ⟨b, off, none⟩) n cap] xs bl) (hk : k < xs.length) :
  ∃ row blk, cU w w b (off + k * A.n) A.n row blk ∧ A.Own w row xs[k] blk ∧ b ∉ blk ∧
   (∀ c, (b = c ∨ c ∈ blk) → c ∈ bl) ∧ ∀ w' row' x', cU w w' b (off + k * A.n) A.n row' blk → A.Own w' row' x' blk → (sl A).Own w' [.slice (some ⟨b, off, none⟩) n cap] (xs.set k x') bl := by
 obtain ⟨⟨ao, cp, e, hsz, hl⟩, hnd, hf⟩ := h
 simp only [List.cons.injEq, Value.slice.injEq, and_true] at e
 obtain ⟨rfl, rfl, rfl⟩ := e
 rcases hl with ⟨rfl, -⟩ | ⟨b', off', rows, bls, e2, hb, rfl, hr, hbl, hj⟩
 ·
  simp at hk
 simp only [Option.some.injEq, Addr.mk.injEq, and_true] at e2
 obtain ⟨rfl, rfl⟩ := e2
 have hk1 : k < rows.length := by omega
 have hk2 : k < bls.length := by omega
 obtain ⟨hc, hlie⟩ := hj k hk hk1 hk2
 rw [List.nodup_cons] at hnd
 have hmem : ∀ c ∈ bls[k], c ∈ bls.flatten := fun c hc => List.mem_flatten.2 ⟨_, List.getElem_mem _, hc⟩
 have hb0 : b ∉ bls[k] := fun hm => hnd.1 (hmem b hm)
 have hfl := j8 hnd.2
 refine ⟨rows[k], bls[k], ⟨A.len hlie, hc, fun _ _ => rfl, fun q => hf b (by simp) q, hb, Ext.refl _ _⟩, ⟨hlie, hfl.1 _ (List.getElem_mem _), fun c hm => hf c (by simp [hmem c hm])⟩, hb0, ?_, ?_⟩
 ·
  rintro c (rfl | hm)
  ·
   simp
  simp [hmem c hm]
 intro w' row' x' hR hO
 have hkeep : ∀ c, c < w.heap.size → c ≠ b → c ∉ bls[k] → w'.heap[c]? = w.heap[c]? := fun c hlt h1 h2 => hR.ext.block c hlt (by rintro (h | h); exact h1 h; exact h2 h)
 have hother : ∀ j (h1 : j < bls.length), j ≠ k → ∀ c ∈ bls[j], c ≠ b ∧ c ∉ bls[k] := by
  intro j h1 hne c hm
  refine ⟨fun e => hnd.1 (e ▸ List.mem_flatten.2 ⟨_, List.getElem_mem h1, hm⟩), fun hm2 => ?_⟩
  exact hfl.2 j k h1 hk2 hne c hm hm2
 refine ⟨⟨some ⟨b, off, none⟩, cap, by simp, by simpa using hsz, Or.inr ⟨b, off, rows.set k row', bls, rfl, hR.lt, rfl, by simpa using hr, by simpa using hbl, fun j h1 h2 h3 => ?_⟩⟩, ?_, ?_⟩
 ·
  have h1' : j < xs.length := by simpa using h1
  have h2' : j < rows.length := by simpa using h2
  by_cases e : j = k
  ·
   subst e
   rw [List.getElem_set_self, List.getElem_set_self]
   exact ⟨hR.cells, hO.1⟩
  rw [List.getElem_set_ne (by omega), List.getElem_set_ne (by omega)]
  obtain ⟨c1, c2⟩ := hj j h1' h2' h3
  refine ⟨fun m hm => ?_, A.ai c2 fun c hm => hkeep c (A.lt c2 c hm) (hother j h3 e c hm).1 (hother j h3 e c hm).2⟩
  rw [hR.others _ ?_]
  ·
   exact c1 m hm
  rcases Nat.lt_or_ge j k with h | h
  ·
   left
   have : (j + 1) * A.n ≤ k * A.n := Nat.mul_le_mul_right _ h
   rw [Nat.add_mul] at this
   omega
  right
  have : (k + 1) * A.n ≤ j * A.n := Nat.mul_le_mul_right _ (by omega)
  rw [Nat.add_mul] at this
  omega
 ·
  rw [List.nodup_cons]
  exact hnd
 intro c hm o
 rcases List.mem_cons.1 hm with rfl | hm
 ·
  exact hR.soft o
 obtain ⟨l, hl1, hl2⟩ := List.mem_flatten.1 hm
 obtain ⟨j, hjl, rfl⟩ := List.getElem_of_mem hl1
 by_cases e : j = k
 ·
  subst e
  exact hO.2.2 c hl2 o
 obtain ⟨c1, c2⟩ := hj j (by omega) (by omega) hjl
 rw [frozen_of_heap (hkeep c (A.lt c2 c hl2) (hother j hjl e c hl2).1 (hother j hjl e c hl2).2) o]
 exact hf c (List.mem_cons_of_mem _ hm) o
end ab
theorem fE {α : Type} (c : α → Nat) (m : Int → α → α) (k : Int) (xs : List α) (j : Nat) (hj : j < xs.length) (hj2 : j < (cq c m k xs).length) : (cq c m k xs)[j] = m (k + (al c (xs.take j) : Nat)) xs[j] := by
 induction xs generalizing k j with
 | nil => simp at hj
 | cons x xs ih =>
  match j with
  | 0 => simp [cq, al]
  | j + 1 =>
   have := ih (k + c x) j (by simpa using hj) (by simpa [cq] using hj2)
   simp only [cq, List.getElem_cons_succ, List.take_succ_cons, al]
   rw [this]
   congr 1
   omega
theorem bu {α : Type} (c : α → Nat) (m : Int → α → α) (k : Int) (xs : List α) : (cq c m k xs).length = xs.length := by
 induction xs generalizing k with
 | nil => rfl
 | cons x xs ih => simp [cq, ih]
def cM {α : Type} (c : α → Nat) (m : Int → α → α) (k : Int) (xs : List α) (j : Nat) : List α := (cq c m k xs).take j ++ xs.drop j
theorem fA {α : Type} (c : α → Nat) (m : Int → α → α) (k : Int) (xs : List α) (j : Nat) (hj : j ≤ xs.length) : (cM c m k xs j).length = xs.length := by
 simp [cM, bu]; omega
theorem fG {α : Type} (c : α → Nat) (m : Int → α → α) (k : Int) (xs : List α) (j : Nat) (hj : j < xs.length) (h2 : j < (cM c m k xs j).length) : (cM c m k xs j)[j] = xs[j] := by
 have e : (cM c m k xs j)[j]? = xs[j]? := by
  rw [cM, List.getElem?_append_right (by simp [bu]; omega)]
  simp [bu, Nat.min_eq_left (Nat.le_of_lt hj)]
 rw [List.getElem?_eq_getElem h2, List.getElem?_eq_getElem hj] at e
 exact Option.some.inj e
theorem fI {α : Type} (c : α → Nat) (m : Int → α → α) (k : Int) (xs : List α) (j : Nat) (hj : j < xs.length) : (cM c m k xs j).set j (m (k + (al c (xs.take j) : Nat)) xs[j]) = cM c m k xs (j + 1) := by
 have hl : ((cq c m k xs).take j).length = j := by simp [bu]; omega
 unfold cM
 rw [List.set_append_right _ _ (by omega), hl, Nat.sub_self, List.drop_eq_getElem_cons hj, List.set_cons_zero, List.take_succ_eq_append_getElem (by rw [bu]; exact hj), fE c m k xs j hj]
 simp
theorem eZ {α : Type} (c : α → Nat) (m : Int → α → α) (k : Int) (xs : List α) : cM c m k xs 0 = xs := by simp [cM]
theorem fJ {α : Type} (c : α → Nat) (m : Int → α → α) (k : Int) (xs : List α) : cM c m k xs xs.length = cq c m k xs := by
 unfold cM
 rw [List.drop_length, List.append_nil, List.take_of_length_le (by rw [bu]; exact Nat.le_refl _)]
structure bU {α : Type} (A : ab α) (w : World) (base T : Nat) (v : Value) (rows : List (List Value)) (xs : List α) (bls : List (List Nat)) : Prop where
 own : w.ownsRow base T A.n v xs.length rows.flatten
 eH : rows.length = xs.length
 gp : bls.length = xs.length
 bg : ∀ j (h1 : j < xs.length) (h2 : j < rows.length) (h3 : j < bls.length), A.bg w rows[j] xs[j] bls[j]
 off : ∀ b ∈ bls.flatten, v.ownBlock ≠ some b
namespace bU
variable {α : Type} {A : ab α} {w w' : World} {base T : Nat} {v : Value} {rows : List (List Value)} {xs : List α} {bls : List (List Nat)}
theorem nil (h : w.ownsRow base T A.n v 0 []) : bU A w base T v [] [] [] := ⟨h, rfl, rfl, fun j h1 => by simp at h1, by simp⟩
theorem sub_lt (h : bU A w base T v rows xs bls) : ∀ b ∈ bls.flatten, b < w.heap.size := by
 intro b hb
 obtain ⟨l, h1, h2⟩ := List.mem_flatten.1 hb
 obtain ⟨j, hj, rfl⟩ := List.getElem_of_mem h1
 exact A.lt (h.bg j (by have := h.gp; omega) (by have := h.gp; have := h.eH; omega) hj) b h2
theorem kept (h : bU A w base T v rows xs bls) (ho : w'.ownsRow base T A.n v xs.length rows.flatten) (hk : ∀ b ∈ bls.flatten, w'.heap[b]? = w.heap[b]?) : bU A w' base T v rows xs bls :=
 ⟨ho, h.eH, h.gp, fun j h1 h2 h3 => A.ai (h.bg j h1 h2 h3) fun b hb => hk b (List.mem_flatten.2 ⟨_, List.getElem_mem _, hb⟩), h.off⟩
theorem later (h : bU A w base T v rows xs bls) (hb : Below w.heap.size w w') : bU A w' base T v rows xs bls :=
 h.kept (de h.own hb) fun b hm => hb.block b (h.sub_lt b hm)
theorem lower {b' : Nat} (h : bU A w base T v rows xs bls) (hb : b' ≤ base) : bU A w b' T v rows xs bls := ⟨kb hb h.own, h.eH, h.gp, h.bg, h.off⟩
theorem grown {b : Nat} (h : bU A w base T v rows xs bls) (hg : w.grownBy w' (some b)) (hb : b < base) (hs : ∀ c ∈ bls.flatten, base ≤ c) : bU A w' base T v rows xs bls :=
 h.kept (h.own.kept hg (Or.inr fun e => by have := (h.own.lt b e).1; omega)) fun c hc => hg.block c (h.sub_lt c hc) (fun e => by
  have h1 := hs c hc
  have h2 : c = b := Option.some.inj e
  omega)
theorem snoc (h : bU A w base T v rows xs bls) {row : List Value} {x : α} {bl : List Nat} (hl : A.bg w row x bl) (hb : ∀ b ∈ bl, v.ownBlock ≠ some b) {g cap : Nat}
  (ho : w'.ownsRow base T A.n (.slice (some ⟨g, 0, none⟩) (xs.length + 1) cap) (xs.length + 1) (rows.flatten ++ row)) (hg : w.grownBy w' v.ownBlock) (hor : v.ownBlock = some g ∨ w.heap.size ≤ g) :
  bU A w' base T (.slice (some ⟨g, 0, none⟩) (xs.length + 1) cap) (rows ++ [row]) (xs ++ [x]) (bls ++ [bl]) := by
 have hlt := h.sub_lt
 have hbl := A.lt hl
 have hk : ∀ b ∈ bls.flatten, w'.heap[b]? = w.heap[b]? := fun b hm => hg.block b (hlt b hm) (fun e => h.off b hm e.symm)
 have hk2 : ∀ b ∈ bl, w'.heap[b]? = w.heap[b]? := fun b hm => hg.block b (hbl b hm) (fun e => hb b hm e.symm)
 refine ⟨by simpa using ho, by simp [h.eH], by simp [h.gp], fun j h1 h2 h3 => ?_, ?_⟩
 ·
  by_cases hj : j < xs.length
  ·
   have e := h.bg j hj (by have := h.eH; omega) (by have := h.gp; omega)
   rw [List.getElem_append_left (by have := h.eH; omega), List.getElem_append_left hj, List.getElem_append_left (by have := h.gp; omega)]
   exact A.ai e fun b hm => hk b (List.mem_flatten.2 ⟨_, List.getElem_mem _, hm⟩)
  obtain rfl : j = xs.length := by simp at h1; omega
  rw [List.getElem_append_right (by have := h.eH; omega), List.getElem_append_right (by omega), List.getElem_append_right (by have := h.gp; omega)]
  simpa using A.ai hl hk2
 intro b hm e
 have e1 : b = g := by simpa [Value.ownBlock] using e.symm
 rw [List.flatten_append] at hm
 rcases hor with ho1 | ho1
 ·
  rcases List.mem_append.1 hm with hm | hm
  ·
   exact h.off b hm (by rw [ho1, e1])
  exact hb b (by simpa using hm) (by rw [ho1, e1])
 rcases List.mem_append.1 hm with hm | hm
 ·
  have := hlt b hm; omega
 have := hbl b (by simpa using hm); omega
theorem form (h : bU A w base T v rows xs bls) : (v = .slice none 0 0 ∧ xs = []) ∨ ∃ g cap, v = .slice (some ⟨g, 0, none⟩) xs.length cap ∧ base ≤ g ∧ g < w.heap.size ∧ xs.length ≤ cap := by
 rcases h.own.2 with ⟨rfl, h0⟩ | ⟨g, cap, cur, rfl, hg, hh, hcap, _⟩
 ·
  exact Or.inl ⟨rfl, List.eq_nil_of_length_eq_zero h0⟩
 exact Or.inr ⟨g, cap, rfl, hg, lt_of_block hh, hcap⟩
theorem tV (h : bU A w base T v rows xs bls) : ∀ r ∈ rows, r.length = A.n := by
 intro r hm
 obtain ⟨j, hj, rfl⟩ := List.getElem_of_mem hm
 exact A.len (h.bg j (by have := h.eH; omega) hj (by have := h.eH; have := h.gp; omega))
theorem rD (h : bU A w base T v rows xs bls) : rows.flatten.length = xs.length * A.n := h.own.1
theorem reads (h : bU A w base T v rows xs bls) (hn : xs.length ≤ 9223372036854775807) : (ab.sl A).bg w [v] xs (match v with | .slice (some a) _ _ => if xs = [] then [] else a.block :: bls.flatten | _ => []) ∨ xs = [] ∧ (ab.sl A).bg w [v] xs [] := by
 rcases h.form with ⟨rfl, rfl⟩ | ⟨g, cap, rfl, hg, hgl, hcap⟩
 ·
  exact Or.inr ⟨rfl, ⟨none, 0, rfl, ⟨by simp, hn⟩, Or.inl ⟨rfl, rfl⟩⟩⟩
 by_cases h0 : xs = []
 ·
  subst h0
  exact Or.inr ⟨rfl, ⟨_, cap, rfl, ⟨hcap, hn⟩, Or.inl ⟨rfl, rfl⟩⟩⟩
 left
 simp only [if_neg h0]
 refine ⟨_, cap, rfl, ⟨hcap, hn⟩, Or.inr ⟨g, 0, rows, bls, rfl, hgl, rfl, h.eH, h.gp, fun j h1 h2 h3 => ⟨fun m hm => ?_, h.bg j h1 h2 h3⟩⟩⟩
 rw [Nat.zero_add, h.own.cellAt (j * A.n + m) (by
  have := h.rD
  have : (j + 1) * A.n ≤ xs.length * A.n := Nat.mul_le_mul_right _ (by omega)
  rw [Nat.add_mul] at this
  omega)]
 exact ab.jz h.tV j m h2 hm
theorem uI (h : bU A w base T v rows xs bls) (hn : xs.length ≤ 9223372036854775807) (hnd : bls.flatten.Nodup) (hs : ∀ b ∈ bls.flatten, base ≤ b ∧ ∀ o, w.frozen? ⟨b, o, none⟩ = false) : (ab.sl A).aN w [v] xs base w.heap.size := by
 have hr := h.reads hn
 rcases h.form with ⟨rfl, rfl⟩ | ⟨g, cap, rfl, hg, hgl, hcap⟩
 ·
  exact ⟨[], ⟨⟨none, 0, rfl, ⟨by simp, hn⟩, Or.inl ⟨rfl, rfl⟩⟩, by simp, by simp⟩, by simp⟩
 by_cases h0 : xs = []
 ·
  subst h0
  exact ⟨[], ⟨⟨_, cap, rfl, ⟨hcap, hn⟩, Or.inl ⟨rfl, rfl⟩⟩, by simp, by simp⟩, by simp⟩
 simp only [if_neg h0] at hr
 rcases hr with hr | ⟨h1, -⟩
 ·
  refine ⟨_, ⟨hr, ?_, ?_⟩, ?_⟩
  ·
   rw [List.nodup_cons]
   exact ⟨fun hm => h.off g hm rfl, hnd⟩
  ·
   intro b hm o
   rcases List.mem_cons.1 hm with rfl | hm
   ·
    exact h.own.frozenAt o
   exact (hs b hm).2 o
  intro b hm
  rcases List.mem_cons.1 hm with rfl | hm
  ·
   exact ⟨hg, hgl⟩
  exact ⟨(hs b hm).1, h.sub_lt b hm⟩
 exact absurd h1 h0
theorem fa (h : bU A w base T v rows xs bls) (hn : xs.length ≤ 9223372036854775807) (hs : ∀ b ∈ bls.flatten, base ≤ b) : (ab.sl A).cr w [v] xs base w.heap.size := by
 have hr := h.reads hn
 rcases h.form with ⟨rfl, rfl⟩ | ⟨g, cap, rfl, hg, hgl, hcap⟩
 ·
  exact ⟨[], ⟨none, 0, rfl, ⟨by simp, hn⟩, Or.inl ⟨rfl, rfl⟩⟩, by simp⟩
 by_cases h0 : xs = []
 ·
  subst h0
  exact ⟨[], ⟨_, cap, rfl, ⟨hcap, hn⟩, Or.inl ⟨rfl, rfl⟩⟩, by simp⟩
 simp only [if_neg h0] at hr
 rcases hr with hr | ⟨h1, -⟩
 ·
  refine ⟨_, hr, fun b hm => ?_⟩
  rcases List.mem_cons.1 hm with rfl | hm
  ·
   exact ⟨hg, hgl⟩
  exact ⟨hs b hm, h.sub_lt b hm⟩
 exact absurd h1 h0
end bU
structure bQ where
 ae : Int
 ids : List Int
def ab.aH : ab bQ := ab.via (ab.pair ab.int (ab.sl ab.int)) (fun x => (x.ae, x.ids)) (fun p => ⟨p.1, p.2⟩)
theorem dF {w : World} {cs : List Value} {x : bQ} {bl : List Nat} : ab.aH.bg w cs x bl ↔ ∃ (a1 : Option Addr) (d1 : Nat) (b1 : List Nat), cs = [.int .i64 x.ae, .slice a1 x.ids.length d1] ∧ bl = b1 ∧ (Lit.int .i64 x.ae).wf = true ∧ (ab.sl ab.int).bg w [.slice a1 x.ids.length d1] x.ids b1 := by
 constructor
 ·
  intro h
  obtain ⟨c0_, r0_, e0_, s0_, rfl, rfl, h0, h1⟩ := h
  obtain ⟨rfl, w0, rfl⟩ := h0
  have k1 := h1
  obtain ⟨a1, d1, rfl, -⟩ := k1
  exact ⟨a1, d1, s0_, by simp, by simp, w0, h1⟩
 rintro ⟨a1, d1, b1, rfl, hbl, w0, l1⟩
 rw [hbl]
 exact ⟨[.int .i64 x.ae], [.slice a1 x.ids.length d1], [], b1, rfl, by simp, ⟨rfl, w0, rfl⟩, l1⟩
theorem cb {w : World} {cs : List Value} {x : bQ} (h : ab.aH.Reads w cs x) : ∃ (a1 : Option Addr) (d1 : Nat), cs = [.int .i64 x.ae, .slice a1 x.ids.length d1] ∧ (ab.sl ab.int).Reads w [.slice a1 x.ids.length d1] x.ids := by
 obtain ⟨bl, h⟩ := h
 obtain ⟨a1, d1, b1, rfl, -, w0, l1⟩ := dF.1 h
 exact ⟨a1, d1, rfl, ⟨_, l1⟩⟩
end Go.Proofs.YtomphbenbnnfgaaGreatDoor

namespace Go.Proofs.YtomphbenbnnfgaaGreatDoor
def eF (z : Int) : Bool := decide (-1000 ≤ z) && decide (z ≤ 1000)
def bD (zs : List Int) : Int := if zs.length = 3 then (if zs.all eF then 0 else 3) else 1
theorem ir {zs : List Int} (h : zs.length ≠ 3) : bD zs = 1 := by simp [bD, h]
theorem hD {zs : List Int} (h : zs.length = 3) (k : Nat) (hk : k < 3) (hb : eF (zs.getD k 0) = false) : bD zs = 3 := by
 have : zs.all eF = false := by
  rw [List.all_eq_false]
  exact ⟨zs.getD k 0, by simp [List.getD, show k < zs.length by omega], by rw [hb]; simp⟩
 simp [bD, h, this]
theorem iU {zs : List Int} (h : zs.length = 3) (hg : ∀ j, j < 3 → eF (zs.getD j 0) = true) : bD zs = 0 := by
 have : zs.all eF = true := by
  rw [List.all_eq_true]
  intro x hx
  obtain ⟨j, hj, rfl⟩ := List.mem_iff_getElem.1 hx
  have := hg j (by omega)
  simpa [List.getD, hj] using this
 simp [bD, h, this]
theorem gL {z : Int} (h : eF z = true) : -1000 ≤ z ∧ z ≤ 1000 := by simpa [eF] using h
theorem jd {z : Int} (h : eF z = false) : z < -1000 ∨ 1000 < z := by
 simp [eF] at h
 omega
theorem cy {zs : List Int} (h : bD zs = 0) : zs.length = 3 ∧ ∀ j, j < 3 → -1000 ≤ zs.getD j 0 ∧ zs.getD j 0 ≤ 1000 := by
 unfold bD at h
 split at h
 ·
  next hl =>
  refine ⟨hl, fun j hj => ?_⟩
  split at h
  ·
   next ha =>
   rw [List.all_eq_true] at ha
   exact gL (ha _ (by simp [List.getD, show j < zs.length by omega]))
  simp at h
 simp at h
end Go.Proofs.YtomphbenbnnfgaaGreatDoor
namespace Go.Proofs.YtomphbenbnnfgaaGreatDoor
open Go.RowKit
structure aj where
 kind : Int
 id : Int
 vec : List Int
 aa : Int
 seq : Int
def ab.ag : ab aj := ab.via (ab.pair ab.int (ab.pair ab.int (ab.pair (ab.sl ab.int) (ab.pair ab.int ab.int)))) (fun x => (x.kind, x.id, x.vec, x.aa, x.seq)) (fun p => ⟨p.1, p.2.1, p.2.2.1, p.2.2.2.1, p.2.2.2.2⟩)
theorem ch {w : World} {cs : List Value} {x : aj} {bl : List Nat} : ab.ag.bg w cs x bl ↔ ∃ (a2 : Option Addr) (d2 : Nat) (b2 : List Nat), cs = [.int .i64 x.kind, .int .i64 x.id, .slice a2 x.vec.length d2, .int .i64 x.aa, .int .i64 x.seq] ∧ bl = b2 ∧ (Lit.int .i64 x.kind).wf = true ∧ (Lit.int .i64 x.id).wf = true ∧ (ab.sl ab.int).bg w [.slice a2 x.vec.length d2] x.vec b2 ∧ (Lit.int .i64 x.aa).wf = true ∧ (Lit.int .i64 x.seq).wf = true := by
 constructor
 ·
  intro h
  obtain ⟨c0_, r0_, e0_, s0_, rfl, rfl, h0, ⟨c1_, r1_, e1_, s1_, rfl, rfl, h1, ⟨c2_, r2_, e2_, s2_, rfl, rfl, h2, ⟨c3_, r3_, e3_, s3_, rfl, rfl, h3, h4⟩⟩⟩⟩ := h
  obtain ⟨rfl, w0, rfl⟩ := h0
  obtain ⟨rfl, w1, rfl⟩ := h1
  have k2 := h2
  obtain ⟨a2, d2, rfl, -⟩ := k2
  obtain ⟨rfl, w3, rfl⟩ := h3
  obtain ⟨rfl, w4, rfl⟩ := h4
  exact ⟨a2, d2, e2_, by simp, by simp, w0, w1, h2, w3, w4⟩
 rintro ⟨a2, d2, b2, rfl, hbl, w0, w1, l2, w3, w4⟩
 rw [hbl]
 exact ⟨[.int .i64 x.kind], [.int .i64 x.id] ++ ([.slice a2 x.vec.length d2] ++ ([.int .i64 x.aa] ++ [.int .i64 x.seq])), [], [] ++ (b2 ++ ([] ++ ([]))), rfl, by simp, ⟨rfl, w0, rfl⟩, ⟨[.int .i64 x.id], [.slice a2 x.vec.length d2] ++ ([.int .i64 x.aa] ++ [.int .i64 x.seq]), [], b2 ++ ([] ++ ([])), rfl, by simp, ⟨rfl, w1, rfl⟩, ⟨[.slice a2 x.vec.length d2], [.int .i64 x.aa] ++ [.int .i64 x.seq], b2, [] ++ ([]), rfl, by simp, l2, ⟨[.int .i64 x.aa], [.int .i64 x.seq], [], [], rfl, by simp, ⟨rfl, w3, rfl⟩, ⟨rfl, w4, rfl⟩⟩⟩⟩⟩
theorem aM {w : World} {cs : List Value} {x : aj} (h : ab.ag.Reads w cs x) : ∃ (a2 : Option Addr) (d2 : Nat), cs = [.int .i64 x.kind, .int .i64 x.id, .slice a2 x.vec.length d2, .int .i64 x.aa, .int .i64 x.seq] ∧ (ab.sl ab.int).Reads w [.slice a2 x.vec.length d2] x.vec := by
 obtain ⟨bl, h⟩ := h
 obtain ⟨a2, d2, b2, rfl, -, w0, w1, l2, w3, w4⟩ := ch.1 h
 exact ⟨a2, d2, rfl, ⟨_, l2⟩⟩
theorem jO (x : aj) : ab.ag.ak x = (ab.sl ab.int).ak x.vec := by
 show 0 + (0 + ((ab.sl ab.int).ak x.vec + (0 + (0)))) = (ab.sl ab.int).ak x.vec
 omega
theorem qz (k : Int) (x : aj) : ab.ag.cF k x = ⟨x.kind, x.id, (ab.sl ab.int).cF (k) x.vec, x.aa, x.seq⟩ := by
 simp [ab.ag, ab.via, ab.pair, ab.int]
theorem iI {w : World} {cs : List Value} {x : aj} {bl : List Nat} (h : ab.ag.Own w cs x bl) : ∃ (a2 : Option Addr) (d2 : Nat) (g2 : List Nat), cs = [.int .i64 x.kind, .int .i64 x.id, .slice a2 x.vec.length d2, .int .i64 x.aa, .int .i64 x.seq] ∧ bl = g2 ∧ (ab.sl ab.int).Own w [.slice a2 x.vec.length d2] x.vec g2 ∧ (Lit.int .i64 x.kind).wf = true ∧ (Lit.int .i64 x.id).wf = true ∧ (Lit.int .i64 x.aa).wf = true ∧ (Lit.int .i64 x.seq).wf = true := by
 obtain ⟨hl, hn, hf⟩ := h
 obtain ⟨a2, d2, b2, rfl, hbl, w0, w1, l2, w3, w4⟩ := ch.1 hl
 rw [hbl] at hn hf
 exact ⟨a2, d2, b2, rfl, hbl, ⟨l2, hn, hf⟩, w0, w1, w3, w4⟩
theorem dD {w : World} {x : aj} {c2 : List Value} {g2 : List Nat} (O2 : (ab.sl ab.int).Own w c2 x.vec g2) (v0 : (Lit.int .i64 x.kind).wf = true) (v1 : (Lit.int .i64 x.id).wf = true) (v3 : (Lit.int .i64 x.aa).wf = true) (v4 : (Lit.int .i64 x.seq).wf = true) (hn : (g2).Nodup) : ab.ag.Own w ([.int .i64 x.kind] ++ ([.int .i64 x.id] ++ (c2 ++ ([.int .i64 x.aa] ++ ([.int .i64 x.seq]))))) x (g2) := by
 refine ⟨⟨[.int .i64 x.kind], [.int .i64 x.id] ++ (c2 ++ ([.int .i64 x.aa] ++ ([.int .i64 x.seq]))), [], [] ++ (g2 ++ ([] ++ [])), rfl, by simp, ⟨rfl, v0, rfl⟩, ⟨[.int .i64 x.id], c2 ++ ([.int .i64 x.aa] ++ ([.int .i64 x.seq])), [], g2 ++ ([] ++ []), rfl, rfl, ⟨rfl, v1, rfl⟩, ⟨c2, [.int .i64 x.aa] ++ ([.int .i64 x.seq]), g2, [] ++ [], rfl, rfl, O2.1, ⟨[.int .i64 x.aa], [.int .i64 x.seq], [], [], rfl, rfl, ⟨rfl, v3, rfl⟩, ⟨rfl, v4, rfl⟩⟩⟩⟩⟩, hn, ?_⟩
 intro b hb o
 exact O2.2.2 b hb o
end Go.Proofs.YtomphbenbnnfgaaGreatDoor
namespace Go.Proofs.YtomphbenbnnfgaaGreatDoor
open Go.RowKit Go.ChangeMaps Go.Maps
end Go.Proofs.YtomphbenbnnfgaaGreatDoor
namespace Go.Proofs.YtomphbenbnnfgaaGreatDoor
open Go.RowKit
theorem kL (zs : List Int) : 0 ≤ bD zs ∧ bD zs ≤ 3 := by unfold bD; split <;> (try split) <;> decide
structure aV where
 id : Int
 up : Bool
 ae : Int
 au : Int
 writes : List aj
 sure : Int
 clean : Int
def ab.ax : ab aV := ab.via (ab.pair ab.int (ab.pair ab.bool (ab.pair ab.int (ab.pair ab.int (ab.pair (ab.sl ab.ag) (ab.pair ab.int ab.int)))))) (fun x => (x.id, x.up, x.ae, x.au, x.writes, x.sure, x.clean)) (fun p => ⟨p.1, p.2.1, p.2.2.1, p.2.2.2.1, p.2.2.2.2.1, p.2.2.2.2.2.1, p.2.2.2.2.2.2⟩)
theorem cD {w : World} {cs : List Value} {x : aV} {bl : List Nat} : ab.ax.bg w cs x bl ↔ ∃ (a4 : Option Addr) (d4 : Nat) (b4 : List Nat), cs = [.int .i64 x.id, .bool x.up, .int .i64 x.ae, .int .i64 x.au, .slice a4 x.writes.length d4, .int .i64 x.sure, .int .i64 x.clean] ∧ bl = b4 ∧ (Lit.int .i64 x.id).wf = true ∧ (Lit.int .i64 x.ae).wf = true ∧ (Lit.int .i64 x.au).wf = true ∧ (ab.sl ab.ag).bg w [.slice a4 x.writes.length d4] x.writes b4 ∧ (Lit.int .i64 x.sure).wf = true ∧ (Lit.int .i64 x.clean).wf = true := by
 constructor
 ·
  intro h
  obtain ⟨c0_, r0_, e0_, s0_, rfl, rfl, h0, ⟨c1_, r1_, e1_, s1_, rfl, rfl, h1, ⟨c2_, r2_, e2_, s2_, rfl, rfl, h2, ⟨c3_, r3_, e3_, s3_, rfl, rfl, h3, ⟨c4_, r4_, e4_, s4_, rfl, rfl, h4, ⟨c5_, r5_, e5_, s5_, rfl, rfl, h5, h6⟩⟩⟩⟩⟩⟩ := h
  obtain ⟨rfl, w0, rfl⟩ := h0
  obtain ⟨rfl, rfl⟩ := h1
  obtain ⟨rfl, w2, rfl⟩ := h2
  obtain ⟨rfl, w3, rfl⟩ := h3
  have k4 := h4
  obtain ⟨a4, d4, rfl, -⟩ := k4
  obtain ⟨rfl, w5, rfl⟩ := h5
  obtain ⟨rfl, w6, rfl⟩ := h6
  exact ⟨a4, d4, e4_, by simp, by simp, w0, w2, w3, h4, w5, w6⟩
 rintro ⟨a4, d4, b4, rfl, hbl, w0, w2, w3, l4, w5, w6⟩
 rw [hbl]
 exact ⟨[.int .i64 x.id], [.bool x.up] ++ ([.int .i64 x.ae] ++ ([.int .i64 x.au] ++ ([.slice a4 x.writes.length d4] ++ ([.int .i64 x.sure] ++ [.int .i64 x.clean])))), [], [] ++ ([] ++ ([] ++ (b4 ++ ([] ++ ([]))))), rfl, by simp, ⟨rfl, w0, rfl⟩, ⟨[.bool x.up], [.int .i64 x.ae] ++ ([.int .i64 x.au] ++ ([.slice a4 x.writes.length d4] ++ ([.int .i64 x.sure] ++ [.int .i64 x.clean]))), [], [] ++ ([] ++ (b4 ++ ([] ++ ([])))), rfl, by simp, ⟨rfl, rfl⟩, ⟨[.int .i64 x.ae], [.int .i64 x.au] ++ ([.slice a4 x.writes.length d4] ++ ([.int .i64 x.sure] ++ [.int .i64 x.clean])), [], [] ++ (b4 ++ ([] ++ ([]))), rfl, by simp, ⟨rfl, w2, rfl⟩, ⟨[.int .i64 x.au], [.slice a4 x.writes.length d4] ++ ([.int .i64 x.sure] ++ [.int .i64 x.clean]), [], b4 ++ ([] ++ ([])), rfl, by simp, ⟨rfl, w3, rfl⟩, ⟨[.slice a4 x.writes.length d4], [.int .i64 x.sure] ++ [.int .i64 x.clean], b4, [] ++ ([]), rfl, by simp, l4, ⟨[.int .i64 x.sure], [.int .i64 x.clean], [], [], rfl, by simp, ⟨rfl, w5, rfl⟩, ⟨rfl, w6, rfl⟩⟩⟩⟩⟩⟩⟩
theorem bG {w : World} {cs : List Value} {x : aV} (h : ab.ax.Reads w cs x) : ∃ (a4 : Option Addr) (d4 : Nat), cs = [.int .i64 x.id, .bool x.up, .int .i64 x.ae, .int .i64 x.au, .slice a4 x.writes.length d4, .int .i64 x.sure, .int .i64 x.clean] ∧ (ab.sl ab.ag).Reads w [.slice a4 x.writes.length d4] x.writes := by
 obtain ⟨bl, h⟩ := h
 obtain ⟨a4, d4, b4, rfl, -, w0, w2, w3, l4, w5, w6⟩ := cD.1 h
 exact ⟨a4, d4, rfl, ⟨_, l4⟩⟩
structure bP where
 kind : Int
 ae : Int
 src : Int
 dst : Int
 index : Int
 write : aj
def ab.aQ : ab bP := ab.via (ab.pair ab.int (ab.pair ab.int (ab.pair ab.int (ab.pair ab.int (ab.pair ab.int ab.ag))))) (fun x => (x.kind, x.ae, x.src, x.dst, x.index, x.write)) (fun p => ⟨p.1, p.2.1, p.2.2.1, p.2.2.2.1, p.2.2.2.2.1, p.2.2.2.2.2⟩)
theorem eC {w : World} {cs : List Value} {x : bP} {bl : List Nat} : ab.aQ.bg w cs x bl ↔ ∃ (a7 : Option Addr) (d7 : Nat) (b7 : List Nat), cs = [.int .i64 x.kind, .int .i64 x.ae, .int .i64 x.src, .int .i64 x.dst, .int .i64 x.index, .int .i64 x.write.kind, .int .i64 x.write.id, .slice a7 x.write.vec.length d7, .int .i64 x.write.aa, .int .i64 x.write.seq] ∧ bl = b7 ∧ (Lit.int .i64 x.kind).wf = true ∧ (Lit.int .i64 x.ae).wf = true ∧ (Lit.int .i64 x.src).wf = true ∧ (Lit.int .i64 x.dst).wf = true ∧ (Lit.int .i64 x.index).wf = true ∧ (Lit.int .i64 x.write.kind).wf = true ∧ (Lit.int .i64 x.write.id).wf = true ∧ (ab.sl ab.int).bg w [.slice a7 x.write.vec.length d7] x.write.vec b7 ∧ (Lit.int .i64 x.write.aa).wf = true ∧ (Lit.int .i64 x.write.seq).wf = true := by
 constructor
 ·
  intro h
  obtain ⟨c0_, r0_, e0_, s0_, rfl, rfl, h0, ⟨c1_, r1_, e1_, s1_, rfl, rfl, h1, ⟨c2_, r2_, e2_, s2_, rfl, rfl, h2, ⟨c3_, r3_, e3_, s3_, rfl, rfl, h3, ⟨c4_, r4_, e4_, s4_, rfl, rfl, h4, h5⟩⟩⟩⟩⟩ := h
  obtain ⟨rfl, w0, rfl⟩ := h0
  obtain ⟨rfl, w1, rfl⟩ := h1
  obtain ⟨rfl, w2, rfl⟩ := h2
  obtain ⟨rfl, w3, rfl⟩ := h3
  obtain ⟨rfl, w4, rfl⟩ := h4
  obtain ⟨a7, d7, q7, rfl, hq5, w5, w6, l7, w8, w9⟩ := ch.1 h5
  exact ⟨a7, d7, q7, by simp, by simp [hq5], w0, w1, w2, w3, w4, w5, w6, l7, w8, w9⟩
 rintro ⟨a7, d7, b7, rfl, hbl, w0, w1, w2, w3, w4, w5, w6, l7, w8, w9⟩
 rw [hbl]
 exact ⟨[.int .i64 x.kind], [.int .i64 x.ae] ++ ([.int .i64 x.src] ++ ([.int .i64 x.dst] ++ ([.int .i64 x.index] ++ [.int .i64 x.write.kind, .int .i64 x.write.id, .slice a7 x.write.vec.length d7, .int .i64 x.write.aa, .int .i64 x.write.seq]))), [], [] ++ ([] ++ ([] ++ ([] ++ (b7)))), rfl, by simp, ⟨rfl, w0, rfl⟩, ⟨[.int .i64 x.ae], [.int .i64 x.src] ++ ([.int .i64 x.dst] ++ ([.int .i64 x.index] ++ [.int .i64 x.write.kind, .int .i64 x.write.id, .slice a7 x.write.vec.length d7, .int .i64 x.write.aa, .int .i64 x.write.seq])), [], [] ++ ([] ++ ([] ++ (b7))), rfl, by simp, ⟨rfl, w1, rfl⟩, ⟨[.int .i64 x.src], [.int .i64 x.dst] ++ ([.int .i64 x.index] ++ [.int .i64 x.write.kind, .int .i64 x.write.id, .slice a7 x.write.vec.length d7, .int .i64 x.write.aa, .int .i64 x.write.seq]), [], [] ++ ([] ++ (b7)), rfl, by simp, ⟨rfl, w2, rfl⟩, ⟨[.int .i64 x.dst], [.int .i64 x.index] ++ [.int .i64 x.write.kind, .int .i64 x.write.id, .slice a7 x.write.vec.length d7, .int .i64 x.write.aa, .int .i64 x.write.seq], [], [] ++ (b7), rfl, by simp, ⟨rfl, w3, rfl⟩, ⟨[.int .i64 x.index], [.int .i64 x.write.kind, .int .i64 x.write.id, .slice a7 x.write.vec.length d7, .int .i64 x.write.aa, .int .i64 x.write.seq], [], b7, rfl, by simp, ⟨rfl, w4, rfl⟩, ch.2 ⟨a7, d7, b7, rfl, rfl, w5, w6, l7, w8, w9⟩⟩⟩⟩⟩⟩
theorem cN {w : World} {cs : List Value} {x : bP} (h : ab.aQ.Reads w cs x) : ∃ (a7 : Option Addr) (d7 : Nat), cs = [.int .i64 x.kind, .int .i64 x.ae, .int .i64 x.src, .int .i64 x.dst, .int .i64 x.index, .int .i64 x.write.kind, .int .i64 x.write.id, .slice a7 x.write.vec.length d7, .int .i64 x.write.aa, .int .i64 x.write.seq] ∧ ab.ag.Reads w [.int .i64 x.write.kind, .int .i64 x.write.id, .slice a7 x.write.vec.length d7, .int .i64 x.write.aa, .int .i64 x.write.seq] x.write := by
 obtain ⟨bl, h⟩ := h
 obtain ⟨a7, d7, b7, rfl, -, w0, w1, w2, w3, w4, w5, w6, l7, w8, w9⟩ := eC.1 h
 exact ⟨a7, d7, rfl, ⟨_, ch.2 ⟨a7, d7, _, rfl, rfl, w5, w6, l7, w8, w9⟩⟩⟩
end Go.Proofs.YtomphbenbnnfgaaGreatDoor
namespace Go.Proofs.YtomphbenbnnfgaaGreatDoor
end Go.Proofs.YtomphbenbnnfgaaGreatDoor
namespace Go.Proofs.YtomphbenbnnfgaaGreatDoor
open Go.RowKit
structure eG where
 id : Int
 score : Int
def ab.bq : ab eG := ab.via (ab.pair ab.int ab.int) (fun x => (x.id, x.score)) (fun p => ⟨p.1, p.2⟩)
theorem cS {w : World} {cs : List Value} {x : eG} {bl : List Nat} : ab.bq.bg w cs x bl ↔ cs = [.int .i64 x.id, .int .i64 x.score] ∧ bl = [] ∧ (Lit.int .i64 x.id).wf = true ∧ (Lit.int .i64 x.score).wf = true := by
 constructor
 ·
  intro h
  obtain ⟨c0_, r0_, e0_, s0_, rfl, rfl, h0, h1⟩ := h
  obtain ⟨rfl, w0, rfl⟩ := h0
  obtain ⟨rfl, w1, rfl⟩ := h1
  exact ⟨by simp, by simp, w0, w1⟩
 rintro ⟨rfl, hbl, w0, w1⟩
 rw [hbl]
 exact ⟨[.int .i64 x.id], [.int .i64 x.score], [], [], rfl, by simp, ⟨rfl, w0, rfl⟩, ⟨rfl, w1, rfl⟩⟩
structure bj where
 kind : Int
 aa : Int
 seq : Int
 id : Int
 query : List Int
 k : Int
 start : Int
 fin : Int
 place : Int
 vec : List Int
 aY : List eG
def ab.ar : ab bj := ab.via (ab.pair ab.int (ab.pair ab.int (ab.pair ab.int (ab.pair ab.int (ab.pair (ab.sl ab.int) (ab.pair ab.int (ab.pair ab.int (ab.pair ab.int (ab.pair ab.int (ab.pair (ab.sl ab.int) (ab.sl ab.bq))))))))))) (fun x => (x.kind, x.aa, x.seq, x.id, x.query, x.k, x.start, x.fin, x.place, x.vec, x.aY)) (fun p => ⟨p.1, p.2.1, p.2.2.1, p.2.2.2.1, p.2.2.2.2.1, p.2.2.2.2.2.1, p.2.2.2.2.2.2.1, p.2.2.2.2.2.2.2.1, p.2.2.2.2.2.2.2.2.1, p.2.2.2.2.2.2.2.2.2.1, p.2.2.2.2.2.2.2.2.2.2⟩)
theorem dj {w : World} {cs : List Value} {x : bj} {bl : List Nat} : ab.ar.bg w cs x bl ↔ ∃ (a4 : Option Addr) (d4 : Nat) (b4 : List Nat) (a9 : Option Addr) (d9 : Nat) (b9 : List Nat) (a10 : Option Addr) (d10 : Nat) (b10 : List Nat), cs = [.int .i64 x.kind, .int .i64 x.aa, .int .i64 x.seq, .int .i64 x.id, .slice a4 x.query.length d4, .int .i64 x.k, .int .i64 x.start, .int .i64 x.fin, .int .i64 x.place, .slice a9 x.vec.length d9, .slice a10 x.aY.length d10] ∧ bl = b4 ++ (b9 ++ b10) ∧ (Lit.int .i64 x.kind).wf = true ∧ (Lit.int .i64 x.aa).wf = true ∧ (Lit.int .i64 x.seq).wf = true ∧ (Lit.int .i64 x.id).wf = true ∧ (ab.sl ab.int).bg w [.slice a4 x.query.length d4] x.query b4 ∧ (Lit.int .i64 x.k).wf = true ∧ (Lit.int .i64 x.start).wf = true ∧ (Lit.int .i64 x.fin).wf = true ∧ (Lit.int .i64 x.place).wf = true ∧ (ab.sl ab.int).bg w [.slice a9 x.vec.length d9] x.vec b9 ∧ (ab.sl ab.bq).bg w [.slice a10 x.aY.length d10] x.aY b10 := by
 constructor
 ·
  intro h
  obtain ⟨c0_, r0_, e0_, s0_, rfl, rfl, h0, ⟨c1_, r1_, e1_, s1_, rfl, rfl, h1, ⟨c2_, r2_, e2_, s2_, rfl, rfl, h2, ⟨c3_, r3_, e3_, s3_, rfl, rfl, h3, ⟨c4_, r4_, e4_, s4_, rfl, rfl, h4, ⟨c5_, r5_, e5_, s5_, rfl, rfl, h5, ⟨c6_, r6_, e6_, s6_, rfl, rfl, h6, ⟨c7_, r7_, e7_, s7_, rfl, rfl, h7, ⟨c8_, r8_, e8_, s8_, rfl, rfl, h8, ⟨c9_, r9_, e9_, s9_, rfl, rfl, h9, h10⟩⟩⟩⟩⟩⟩⟩⟩⟩⟩ := h
  obtain ⟨rfl, w0, rfl⟩ := h0
  obtain ⟨rfl, w1, rfl⟩ := h1
  obtain ⟨rfl, w2, rfl⟩ := h2
  obtain ⟨rfl, w3, rfl⟩ := h3
  have k4 := h4
  obtain ⟨a4, d4, rfl, -⟩ := k4
  obtain ⟨rfl, w5, rfl⟩ := h5
  obtain ⟨rfl, w6, rfl⟩ := h6
  obtain ⟨rfl, w7, rfl⟩ := h7
  obtain ⟨rfl, w8, rfl⟩ := h8
  have k9 := h9
  obtain ⟨a9, d9, rfl, -⟩ := k9
  have k10 := h10
  obtain ⟨a10, d10, rfl, -⟩ := k10
  exact ⟨a4, d4, e4_, a9, d9, e9_, a10, d10, s9_, by simp, by simp, w0, w1, w2, w3, h4, w5, w6, w7, w8, h9, h10⟩
 rintro ⟨a4, d4, b4, a9, d9, b9, a10, d10, b10, rfl, hbl, w0, w1, w2, w3, l4, w5, w6, w7, w8, l9, l10⟩
 rw [hbl]
 exact ⟨[.int .i64 x.kind], [.int .i64 x.aa] ++ ([.int .i64 x.seq] ++ ([.int .i64 x.id] ++ ([.slice a4 x.query.length d4] ++ ([.int .i64 x.k] ++ ([.int .i64 x.start] ++ ([.int .i64 x.fin] ++ ([.int .i64 x.place] ++ ([.slice a9 x.vec.length d9] ++ [.slice a10 x.aY.length d10])))))))), [], [] ++ ([] ++ ([] ++ (b4 ++ ([] ++ ([] ++ ([] ++ ([] ++ (b9 ++ (b10))))))))), rfl, by simp, ⟨rfl, w0, rfl⟩, ⟨[.int .i64 x.aa], [.int .i64 x.seq] ++ ([.int .i64 x.id] ++ ([.slice a4 x.query.length d4] ++ ([.int .i64 x.k] ++ ([.int .i64 x.start] ++ ([.int .i64 x.fin] ++ ([.int .i64 x.place] ++ ([.slice a9 x.vec.length d9] ++ [.slice a10 x.aY.length d10]))))))), [], [] ++ ([] ++ (b4 ++ ([] ++ ([] ++ ([] ++ ([] ++ (b9 ++ (b10)))))))), rfl, by simp, ⟨rfl, w1, rfl⟩, ⟨[.int .i64 x.seq], [.int .i64 x.id] ++ ([.slice a4 x.query.length d4] ++ ([.int .i64 x.k] ++ ([.int .i64 x.start] ++ ([.int .i64 x.fin] ++ ([.int .i64 x.place] ++ ([.slice a9 x.vec.length d9] ++ [.slice a10 x.aY.length d10])))))), [], [] ++ (b4 ++ ([] ++ ([] ++ ([] ++ ([] ++ (b9 ++ (b10))))))), rfl, by simp, ⟨rfl, w2, rfl⟩, ⟨[.int .i64 x.id], [.slice a4 x.query.length d4] ++ ([.int .i64 x.k] ++ ([.int .i64 x.start] ++ ([.int .i64 x.fin] ++ ([.int .i64 x.place] ++ ([.slice a9 x.vec.length d9] ++ [.slice a10 x.aY.length d10]))))), [], b4 ++ ([] ++ ([] ++ ([] ++ ([] ++ (b9 ++ (b10)))))), rfl, by simp, ⟨rfl, w3, rfl⟩, ⟨[.slice a4 x.query.length d4], [.int .i64 x.k] ++ ([.int .i64 x.start] ++ ([.int .i64 x.fin] ++ ([.int .i64 x.place] ++ ([.slice a9 x.vec.length d9] ++ [.slice a10 x.aY.length d10])))), b4, [] ++ ([] ++ ([] ++ ([] ++ (b9 ++ (b10))))), rfl, by simp, l4, ⟨[.int .i64 x.k], [.int .i64 x.start] ++ ([.int .i64 x.fin] ++ ([.int .i64 x.place] ++ ([.slice a9 x.vec.length d9] ++ [.slice a10 x.aY.length d10]))), [], [] ++ ([] ++ ([] ++ (b9 ++ (b10)))), rfl, by simp, ⟨rfl, w5, rfl⟩, ⟨[.int .i64 x.start], [.int .i64 x.fin] ++ ([.int .i64 x.place] ++ ([.slice a9 x.vec.length d9] ++ [.slice a10 x.aY.length d10])), [], [] ++ ([] ++ (b9 ++ (b10))), rfl, by simp, ⟨rfl, w6, rfl⟩, ⟨[.int .i64 x.fin], [.int .i64 x.place] ++ ([.slice a9 x.vec.length d9] ++ [.slice a10 x.aY.length d10]), [], [] ++ (b9 ++ (b10)), rfl, by simp, ⟨rfl, w7, rfl⟩, ⟨[.int .i64 x.place], [.slice a9 x.vec.length d9] ++ [.slice a10 x.aY.length d10], [], b9 ++ (b10), rfl, by simp, ⟨rfl, w8, rfl⟩, ⟨[.slice a9 x.vec.length d9], [.slice a10 x.aY.length d10], b9, b10, rfl, by simp, l9, l10⟩⟩⟩⟩⟩⟩⟩⟩⟩⟩
theorem cd {w : World} {cs : List Value} {x : bj} (h : ab.ar.Reads w cs x) : ∃ (a4 : Option Addr) (d4 : Nat) (a9 : Option Addr) (d9 : Nat) (a10 : Option Addr) (d10 : Nat), cs = [.int .i64 x.kind, .int .i64 x.aa, .int .i64 x.seq, .int .i64 x.id, .slice a4 x.query.length d4, .int .i64 x.k, .int .i64 x.start, .int .i64 x.fin, .int .i64 x.place, .slice a9 x.vec.length d9, .slice a10 x.aY.length d10] ∧ (ab.sl ab.int).Reads w [.slice a4 x.query.length d4] x.query ∧ (ab.sl ab.int).Reads w [.slice a9 x.vec.length d9] x.vec ∧ (ab.sl ab.bq).Reads w [.slice a10 x.aY.length d10] x.aY := by
 obtain ⟨bl, h⟩ := h
 obtain ⟨a4, d4, b4, a9, d9, b9, a10, d10, b10, rfl, -, w0, w1, w2, w3, l4, w5, w6, w7, w8, l9, l10⟩ := dj.1 h
 exact ⟨a4, d4, a9, d9, a10, d10, rfl, ⟨_, l4⟩, ⟨_, l9⟩, ⟨_, l10⟩⟩
structure ay where
 now : Int
 events : Int
 chain : bQ
 nodes : List aV
 msgs : List bP
 af : List bj
def ab.aF : ab ay := ab.via (ab.pair ab.int (ab.pair ab.int (ab.pair ab.aH (ab.pair (ab.sl ab.ax) (ab.pair (ab.sl ab.aQ) (ab.sl ab.ar)))))) (fun x => (x.now, x.events, x.chain, x.nodes, x.msgs, x.af)) (fun p => ⟨p.1, p.2.1, p.2.2.1, p.2.2.2.1, p.2.2.2.2.1, p.2.2.2.2.2⟩)
theorem db {w : World} {cs : List Value} {x : ay} {bl : List Nat} : ab.aF.bg w cs x bl ↔ ∃ (a3 : Option Addr) (d3 : Nat) (b3 : List Nat) (a4 : Option Addr) (d4 : Nat) (b4 : List Nat) (a5 : Option Addr) (d5 : Nat) (b5 : List Nat) (a6 : Option Addr) (d6 : Nat) (b6 : List Nat), cs = [.int .i64 x.now, .int .i64 x.events, .int .i64 x.chain.ae, .slice a3 x.chain.ids.length d3, .slice a4 x.nodes.length d4, .slice a5 x.msgs.length d5, .slice a6 x.af.length d6] ∧ bl = b3 ++ (b4 ++ (b5 ++ b6)) ∧ (Lit.int .i64 x.now).wf = true ∧ (Lit.int .i64 x.events).wf = true ∧ (Lit.int .i64 x.chain.ae).wf = true ∧ (ab.sl ab.int).bg w [.slice a3 x.chain.ids.length d3] x.chain.ids b3 ∧ (ab.sl ab.ax).bg w [.slice a4 x.nodes.length d4] x.nodes b4 ∧ (ab.sl ab.aQ).bg w [.slice a5 x.msgs.length d5] x.msgs b5 ∧ (ab.sl ab.ar).bg w [.slice a6 x.af.length d6] x.af b6 := by
 constructor
 ·
  intro h
  obtain ⟨c0_, r0_, e0_, s0_, rfl, rfl, h0, ⟨c1_, r1_, e1_, s1_, rfl, rfl, h1, ⟨c2_, r2_, e2_, s2_, rfl, rfl, h2, ⟨c3_, r3_, e3_, s3_, rfl, rfl, h3, ⟨c4_, r4_, e4_, s4_, rfl, rfl, h4, h5⟩⟩⟩⟩⟩ := h
  obtain ⟨rfl, w0, rfl⟩ := h0
  obtain ⟨rfl, w1, rfl⟩ := h1
  obtain ⟨a3, d3, q3, rfl, hq2, w2, l3⟩ := dF.1 h2
  have k4 := h3
  obtain ⟨a4, d4, rfl, -⟩ := k4
  have k5 := h4
  obtain ⟨a5, d5, rfl, -⟩ := k5
  have k6 := h5
  obtain ⟨a6, d6, rfl, -⟩ := k6
  exact ⟨a3, d3, q3, a4, d4, e3_, a5, d5, e4_, a6, d6, s4_, by simp, by simp [hq2], w0, w1, w2, l3, h3, h4, h5⟩
 rintro ⟨a3, d3, b3, a4, d4, b4, a5, d5, b5, a6, d6, b6, rfl, hbl, w0, w1, w2, l3, l4, l5, l6⟩
 rw [hbl]
 exact ⟨[.int .i64 x.now], [.int .i64 x.events] ++ ([.int .i64 x.chain.ae, .slice a3 x.chain.ids.length d3] ++ ([.slice a4 x.nodes.length d4] ++ ([.slice a5 x.msgs.length d5] ++ [.slice a6 x.af.length d6]))), [], [] ++ (b3 ++ (b4 ++ (b5 ++ (b6)))), rfl, by simp, ⟨rfl, w0, rfl⟩, ⟨[.int .i64 x.events], [.int .i64 x.chain.ae, .slice a3 x.chain.ids.length d3] ++ ([.slice a4 x.nodes.length d4] ++ ([.slice a5 x.msgs.length d5] ++ [.slice a6 x.af.length d6])), [], b3 ++ (b4 ++ (b5 ++ (b6))), rfl, by simp, ⟨rfl, w1, rfl⟩, ⟨[.int .i64 x.chain.ae, .slice a3 x.chain.ids.length d3], [.slice a4 x.nodes.length d4] ++ ([.slice a5 x.msgs.length d5] ++ [.slice a6 x.af.length d6]), b3, b4 ++ (b5 ++ (b6)), rfl, by simp, dF.2 ⟨a3, d3, b3, rfl, rfl, w2, l3⟩, ⟨[.slice a4 x.nodes.length d4], [.slice a5 x.msgs.length d5] ++ [.slice a6 x.af.length d6], b4, b5 ++ (b6), rfl, by simp, l4, ⟨[.slice a5 x.msgs.length d5], [.slice a6 x.af.length d6], b5, b6, rfl, by simp, l5, l6⟩⟩⟩⟩⟩
theorem aK {w : World} {cs : List Value} {x : ay} (h : ab.aF.Reads w cs x) : ∃ (a3 : Option Addr) (d3 : Nat) (a4 : Option Addr) (d4 : Nat) (a5 : Option Addr) (d5 : Nat) (a6 : Option Addr) (d6 : Nat), cs = [.int .i64 x.now, .int .i64 x.events, .int .i64 x.chain.ae, .slice a3 x.chain.ids.length d3, .slice a4 x.nodes.length d4, .slice a5 x.msgs.length d5, .slice a6 x.af.length d6] ∧ ab.aH.Reads w [.int .i64 x.chain.ae, .slice a3 x.chain.ids.length d3] x.chain ∧ (ab.sl ab.ax).Reads w [.slice a4 x.nodes.length d4] x.nodes ∧ (ab.sl ab.aQ).Reads w [.slice a5 x.msgs.length d5] x.msgs ∧ (ab.sl ab.ar).Reads w [.slice a6 x.af.length d6] x.af := by
 obtain ⟨bl, h⟩ := h
 obtain ⟨a3, d3, b3, a4, d4, b4, a5, d5, b5, a6, d6, b6, rfl, -, w0, w1, w2, l3, l4, l5, l6⟩ := db.1 h
 exact ⟨a3, d3, a4, d4, a5, d5, a6, d6, rfl, ⟨_, dF.2 ⟨a3, d3, _, rfl, rfl, w2, l3⟩⟩, ⟨_, l4⟩, ⟨_, l5⟩, ⟨_, l6⟩⟩
end Go.Proofs.YtomphbenbnnfgaaGreatDoor

namespace Go.Proofs.YtomphbenbnnfgaaGreatDoor
theorem tk : (Tryz.prog.info? 2).map (fun i => (i.zero, i.size, i.bytes)) = some (some (.int .i64 0), 1, 8) := by kernel_rfl
end Go.Proofs.YtomphbenbnnfgaaGreatDoor

namespace Go.Proofs.YtomphbenbnnfgaaGreatDoor
open Go.RowKit
theorem pd (b off cap : Nat) (zs : List Int) (w : World) (hn : zs.length ≤ 1048576) (hc : ∀ j, j < zs.length → w.cell? ⟨b, off + j, none⟩ = some (.int .i64 (zs.getD j 0))) :
  Calls Tryz.prog 44 #[.slice (some ⟨b, off, none⟩) zs.length cap] w fun e w' => e = .returned (.slice (some ⟨w.heap.size, 0, none⟩) zs.length zs.length) ∧
   w'.ownsRow w.heap.size 2 1 (.slice (some ⟨w.heap.size, 0, none⟩) zs.length zs.length) zs.length (zs.map (Value.int .i64)) ∧ Below w.heap.size w w' := by
 obtain ⟨i0, hi, hz0, hz1, hz2⟩ := info_parts tk
 go_enter Tryz.func44, Tryz.ntmps44
 go_wp2_with (at_make; refine wpList_make_full _ rfl _ _ 22 rfl w.heap.size 2 i0 (.int .i64 0) 1 Tryz.underlying22 hi hz0 hz1 _ _ _ _ zs.length rfl rfl rfl rfl ?c1 ?c2 ?c3 ?_)
 case c1 => rw [hz2]; omega
 case c2 => unfold maxLen; omega
 case c3 => exact Nat.le_refl _
 intro w1 hown1 hgrow1
 have hB1 : Below w.heap.size w w1 := (Below.refl _ _).grown hgrow1 (Nat.le_refl _) (by simp)
 rw [toList_madeCells_one] at hown1
 clear hgrow1 hi hz0 hz1 hz2
 go_wp2
 go_loopw [4] (fun i wr => ∃ k : Nat, k ≤ zs.length ∧ i = .int .i64 k ∧ wr.ownsRow w.heap.size 2 1 (.slice (some ⟨w.heap.size, 0, none⟩) zs.length zs.length) zs.length ((zs.take k).map (Value.int .i64) ++ List.replicate (zs.length - k) (Value.int .i64 0)) ∧ Below w.heap.size w wr)
  (fun i _ => zs.length - (intOf i).toNat)
 case atStart => exact ⟨0, Nat.zero_le _, rfl, by simpa using hown1, hB1⟩
 case round =>
  obtain ⟨k, hk, rfl, hown, hB⟩ := hrel
  clear hown1 hB1
  by_cases hlt : k < zs.length
  ·
   have hcx : wr.cell? ⟨b, off + k, none⟩ = some (.int .i64 (zs.getD k 0)) := (hB.cell (World.block_lt_of_cell? _ _ (hc k hlt))).trans (hc k hlt)
   have hcd : ∃ u, wr.cell? ⟨w.heap.size, k, none⟩ = some u := by
    rw [hown.cellAt k (by omega)]
    exact ⟨_, List.getElem?_eq_getElem (by simp; omega)⟩
   obtain ⟨u, hcd⟩ := hcd
   have hfz := hown.frozenAt k
   have hst := hown.stored k (.int .i64 (zs.getD k 0))
   rw [sh zs k hlt] at hst
   have R := hst.1
   have hB2 : Below w.heap.size w (wr.setCell ⟨w.heap.size, k, none⟩ (.int .i64 (zs.getD k 0))) := hB.setCell (by simp) _
   clear hst hown hB
   go_wp2
   go_roundw
   case rel => exact ⟨k + 1, by omega, by go_num, by simpa [hlt] using R, by simpa [hlt] using hB2⟩
   case measure => simp [intOf]; omega
  have hk2 : k = zs.length := by omega
  go_wp2
  go_ret
  subst hk2
  exact ⟨rfl, by simpa using hown, hB⟩
theorem nu (ao : Option Addr) (cap : Nat) (w : World) :
  Calls Tryz.prog 44 #[.slice ao 0 cap] w fun e w' => e = .returned (.slice (some ⟨w.heap.size, 0, none⟩) 0 0) ∧
   w'.ownsRow w.heap.size 2 1 (.slice (some ⟨w.heap.size, 0, none⟩) 0 0) 0 [] ∧ Below w.heap.size w w' := by
 obtain ⟨i0, hi, hz0, hz1, hz2⟩ := info_parts tk
 go_enter Tryz.func44, Tryz.ntmps44
 go_wp2_with (at_make; refine wpList_make_full _ rfl _ _ 22 rfl w.heap.size 2 i0 (.int .i64 0) 1 Tryz.underlying22 hi hz0 hz1 _ _ _ _ 0 rfl rfl rfl rfl ?c1 ?c2 ?c3 ?_)
 case c1 => rw [hz2]; omega
 case c2 => unfold maxLen; omega
 case c3 => exact Nat.le_refl _
 intro w1 hown1 hgrow1
 have hB1 : Below w.heap.size w w1 := (Below.refl _ _).grown hgrow1 (Nat.le_refl _) (by simp)
 clear hgrow1 hi hz0 hz1 hz2
 rw [toList_madeCells_one] at hown1
 go_wp2
 refine wp_loop_rounds 1 ?_
 rw [rounds_succ]
 go_wp2
 go_ret
 exact ⟨rfl, by simpa using hown1, hB1⟩
theorem vm (v : Value) (zs : List Int) (w : World) (h : cf w v zs) (hn : zs.length ≤ 1048576) :
  Calls Tryz.prog 44 #[v] w fun e w' => ∃ v', e = .returned v' ∧ v' = .slice (some ⟨w.heap.size, 0, none⟩) zs.length zs.length ∧
   w'.ownsRow w.heap.size 2 1 v' zs.length (zs.map (Value.int .i64)) ∧ cf w' v' zs ∧ Below w.heap.size w w' := by
 obtain ⟨ao, cap, rfl, hwf, hc⟩ := h
 by_cases hp : 0 < zs.length
 ·
  obtain ⟨b, off, rfl, hc1⟩ := hc hp
  refine (pd b off cap zs w hn hc1).mono ?_
  rintro e w' ⟨rfl, ho, hb⟩
  exact ⟨_, rfl, rfl, ho, im hwf ho, hb⟩
 have hz : zs = [] := List.eq_nil_of_length_eq_zero (by omega)
 subst hz
 refine (nu ao cap w).mono ?_
 rintro e w' ⟨rfl, ho, hb⟩
 exact ⟨_, rfl, rfl, ho, im hwf ho, hb⟩
theorem ox (b off cap b2 off2 cap2 : Nat) (zs : List Int) (w : World) (hn : zs.length ≤ 9223372036854775807) (hc : ∀ j, j < zs.length → w.cell? ⟨b, off + j, none⟩ = some (.int .i64 (zs.getD j 0)))
  (hc2 : ∀ j, j < zs.length → w.cell? ⟨b2, off2 + j, none⟩ = some (.int .i64 (zs.getD j 0))) :
  Calls Tryz.prog 51 #[.slice (some ⟨b, off, none⟩) zs.length cap, .slice (some ⟨b2, off2, none⟩) zs.length cap2] w fun e w' => e = .returned (.bool true) ∧ Below w.heap.size w w' := by
 go_enter Tryz.func51, Tryz.ntmps51
 go_wp2
 go_loopw [5] (fun i wr => ∃ k : Nat, k ≤ zs.length ∧ i = .int .i64 k ∧ Below w.heap.size w wr) (fun i _ => zs.length - (intOf i).toNat)
 case atStart => exact ⟨0, Nat.zero_le _, rfl, Below.refl _ _⟩
 case round =>
  obtain ⟨k, hk, rfl, hB⟩ := hrel
  by_cases hlt : k < zs.length
  ·
   have hcx : wr.cell? ⟨b, off + k, none⟩ = some (.int .i64 (zs.getD k 0)) := (hB.cell (World.block_lt_of_cell? _ _ (hc k hlt))).trans (hc k hlt)
   have hcy : wr.cell? ⟨b2, off2 + k, none⟩ = some (.int .i64 (zs.getD k 0)) := (hB.cell (World.block_lt_of_cell? _ _ (hc2 k hlt))).trans (hc2 k hlt)
   clear hc hc2
   go_wp2
   go_quiet (fail)
   go_wp2
   go_roundw
   case rel => exact ⟨k + 1, by omega, by go_num, below_drewN hB _⟩
   case measure => simp [intOf]; omega
  go_wp2
  go_ret
  exact ⟨rfl, hB⟩
theorem nz (ao ao2 : Option Addr) (cap cap2 : Nat) (w : World) :
  Calls Tryz.prog 51 #[.slice ao 0 cap, .slice ao2 0 cap2] w fun e w' => e = .returned (.bool true) ∧ Below w.heap.size w w' := by
 go_enter Tryz.func51, Tryz.ntmps51
 go_wp2
 refine wp_loop_rounds 1 ?_
 rw [rounds_succ]
 go_wp2
 go_ret
 exact ⟨rfl, Below.refl _ _⟩
theorem qc (v v2 : Value) (zs : List Int) (w : World) (h : cf w v zs) (h2 : cf w v2 zs) (hn : zs.length ≤ 9223372036854775807) :
  Calls Tryz.prog 51 #[v, v2] w fun e w' => e = .returned (.bool true) ∧ Below w.heap.size w w' := by
 obtain ⟨ao, cap, rfl, hwf, hc⟩ := h
 obtain ⟨ao2, cap2, rfl, _, hc2⟩ := h2
 by_cases hp : 0 < zs.length
 ·
  obtain ⟨b, off, rfl, hc1⟩ := hc hp
  obtain ⟨b2, off2, rfl, hc3⟩ := hc2 hp
  exact ox b off cap b2 off2 cap2 zs w hn hc1 hc3
 have hz : zs = [] := List.eq_nil_of_length_eq_zero (by omega)
 subst hz
 exact nz ao ao2 cap cap2 w
theorem pB (zs : List Int) : (ab.sl ab.int).sz zs = zs.length := by
 show zs.length + al (fun _ => 0) zs = zs.length
 have : al (fun _ : Int => 0) zs = 0 := by induction zs with
  | nil => rfl
  | cons z zs ih => simpa [al] using ih
 omega
theorem gz (v : Value) (zs : List Int) (w : World) (h : (ab.sl ab.int).Reads w [v] zs) (hn : (ab.sl ab.int).sz zs ≤ 1048576) :
  Calls Tryz.prog 44 #[v] w fun e w' => ∃ v', e = .returned v' ∧ (ab.sl ab.int).aN w' [v'] zs w.heap.size w'.heap.size ∧ Below w.heap.size w w' := by
 rw [pB] at hn
 have hi := ab.bc h
 refine (vm v zs w hi hn).mono ?_
 rintro e w' ⟨v', rfl, -, ho, -, hb⟩
 exact ⟨v', rfl, ab.eM hi.wf (by omega) ho, hb⟩
theorem gC (v v2 : Value) (zs : List Int) (w : World) (h : (ab.sl ab.int).Reads w [v] zs) (h2 : (ab.sl ab.int).Reads w [v2] zs) :
  Calls Tryz.prog 51 #[v, v2] w fun e w' => e = .returned (.bool true) ∧ Below w.heap.size w w' :=
 qc v v2 zs w (ab.bc h) (ab.bc h2) h.et
theorem gy (v : Value) (zs : List Int) (l : Nat) (w : World) (h : (ab.sl ab.int).Reads w [v] zs) (hl : l ≤ 1048576) :
  Calls Tryz.prog 32 #[v, .int .i64 l] w fun e w' => e = .returned (.int .i64 (mP l ((ab.sl ab.int).sz zs))) ∧ Below w.heap.size w w' := by
 have hb := h.et
 obtain ⟨ao, cap, rfl⟩ := aI h
 rw [pB]
 generalize zs.length = n at *
 clear h
 by_cases hn : n ≤ l
 ·
  rw [cg hn]
  have e1 : (l : Int) - (n : Int) = ((l - n : Nat) : Int) := by omega
  have e2 : decide (((l - n : Nat) : Int) < 0) = false := by simp
  go_enter Tryz.func32, Tryz.ntmps32
  go_wp2_with fail
  go_ret
  exact ⟨rfl, Below.refl _ _⟩
 rw [bp (by omega)]
 have e2 : decide ((l : Int) - (n : Int) < 0) = true := by simp; omega
 go_enter Tryz.func32, Tryz.ntmps32
 go_wp2_with fail
 go_ret
 exact ⟨rfl, Below.refl _ _⟩
theorem jc (x : bQ) : ab.aH.sz x = (ab.sl ab.int).sz x.ids := by
 show 0 + ((ab.sl ab.int).sz x.ids) = (ab.sl ab.int).sz x.ids
 omega
theorem so (cs : List Value) (x : bQ) (l : Nat) (w : World) (h : ab.aH.Reads w cs x) (hl : l ≤ 1048576) :
  Calls Tryz.prog 28 #[.agg cs.toArray, .int .i64 l] w fun e w' => e = .returned (.int .i64 (mP l (ab.aH.sz x))) ∧ Below w.heap.size w w' := by
 obtain ⟨a1, d1, rfl, R1⟩ := cb h
 clear h
 have HB0 : Below w.heap.size w (w.alloc (.cells #[.int .i64 x.ae, .slice a1 x.ids.length d1] 24)) := (Below.refl _ _).alloc (Nat.le_refl _) _
 have bA : aA w.heap.size #[.int .i64 x.ae, .slice a1 x.ids.length d1] 24 (w.alloc (.cells #[.int .i64 x.ae, .slice a1 x.ids.length d1] 24)) w.heap.size := aD (Nat.le_refl _)
 have HV := yh (jc x)
 go_enter Tryz.func28, Tryz.ntmps28
 go_wp2_with fail
 generalize w.alloc (.cells #[.int .i64 x.ae, .slice a1 x.ids.length d1] 24) = W0 at *
 replace R1 := R1.later HB0
 refine (gy _ x.ids (l) _ R1 (by omega)).mono ?_
 rintro e w1 ⟨rfl, hb⟩
 replace HB0 := HB0.trans (hb.mono HB0.size)
 replace bA := bA.ai hb
 clear hb R1
 by_cases hs0 : (ab.sl ab.int).sz x.ids ≤ l
 ·
  rw [cg hs0]
  have hq : decide (((l - (ab.sl ab.int).sz x.ids : Nat) : Int) < 0) = false := by simp
  have HX := yh HB0
  have HA := yh bA
  clear HB0 bA
  go_wp2_with fail
  clear hq
  go_ret
  refine ⟨?_, uh HX⟩
  rw [uh HV, cg (by omega), show l - ((ab.sl ab.int).sz x.ids) = l - (ab.sl ab.int).sz x.ids by omega]
  rfl
 rw [bp (by omega)]
 have HX := yh HB0
 clear HB0 bA
 go_wp2_with fail
 go_ret
 refine ⟨?_, uh HX⟩
 rw [uh HV, bp (by omega)]
 rfl
theorem jm (x : aj) : ab.ag.sz x = (ab.sl ab.int).sz x.vec := by
 show 0 + (0 + ((ab.sl ab.int).sz x.vec + (0 + (0)))) = (ab.sl ab.int).sz x.vec
 omega
theorem gY (cs : List Value) (x : aj) (l : Nat) (w : World) (h : ab.ag.Reads w cs x) (hl : l ≤ 1048576) :
  Calls Tryz.prog 8 #[.agg cs.toArray, .int .i64 l] w fun e w' => e = .returned (.int .i64 (mP l (ab.ag.sz x))) ∧ Below w.heap.size w w' := by
 obtain ⟨a2, d2, rfl, R2⟩ := aM h
 clear h
 have HB0 : Below w.heap.size w (w.alloc (.cells #[.int .i64 x.kind, .int .i64 x.id, .slice a2 x.vec.length d2, .int .i64 x.aa, .int .i64 x.seq] 31)) := (Below.refl _ _).alloc (Nat.le_refl _) _
 have bA : aA w.heap.size #[.int .i64 x.kind, .int .i64 x.id, .slice a2 x.vec.length d2, .int .i64 x.aa, .int .i64 x.seq] 31 (w.alloc (.cells #[.int .i64 x.kind, .int .i64 x.id, .slice a2 x.vec.length d2, .int .i64 x.aa, .int .i64 x.seq] 31)) w.heap.size := aD (Nat.le_refl _)
 have HV := yh (jm x)
 go_enter Tryz.func8, Tryz.ntmps8
 go_wp2_with fail
 generalize w.alloc (.cells #[.int .i64 x.kind, .int .i64 x.id, .slice a2 x.vec.length d2, .int .i64 x.aa, .int .i64 x.seq] 31) = W0 at *
 replace R2 := R2.later HB0
 refine (gy _ x.vec (l) _ R2 (by omega)).mono ?_
 rintro e w1 ⟨rfl, hb⟩
 replace HB0 := HB0.trans (hb.mono HB0.size)
 replace bA := bA.ai hb
 clear hb R2
 by_cases hs0 : (ab.sl ab.int).sz x.vec ≤ l
 ·
  rw [cg hs0]
  have hq : decide (((l - (ab.sl ab.int).sz x.vec : Nat) : Int) < 0) = false := by simp
  have HX := yh HB0
  have HA := yh bA
  clear HB0 bA
  go_wp2_with fail
  clear hq
  go_ret
  refine ⟨?_, uh HX⟩
  rw [uh HV, cg (by omega), show l - ((ab.sl ab.int).sz x.vec) = l - (ab.sl ab.int).sz x.vec by omega]
  rfl
 rw [bp (by omega)]
 have HX := yh HB0
 clear HB0 bA
 go_wp2_with fail
 go_ret
 refine ⟨?_, uh HX⟩
 rw [uh HV, bp (by omega)]
 rfl
theorem rj (v : Value) (xs : List aj) (l : Nat) (w : World) (h : (ab.sl ab.ag).Reads w [v] xs) (hl : l ≤ 1048576) :
  Calls Tryz.prog 143 #[v, .int .i64 l] w fun e w' => e = .returned (.int .i64 (mP l ((ab.sl ab.ag).sz xs))) ∧ Below w.heap.size w w' := by
 have hbig := h.et
 obtain ⟨ao, cap, rfl⟩ := aI h
 have HV : Hid ((ab.sl ab.ag).sz xs = xs.length + al ab.ag.sz xs) := rfl
 by_cases hn : xs.length ≤ l
 ·
  have e1 : (l : Int) - (xs.length : Int) = ((l - xs.length : Nat) : Int) := by omega
  have e2 : decide (((l - xs.length : Nat) : Int) < 0) = false := by simp
  by_cases hp : 0 < xs.length
  ·
   obtain ⟨b, off, rfl, hbl⟩ := ab.aS h hp
   have H := yh h
   clear h
   go_enter Tryz.func143, Tryz.ntmps143
   go_wp2_with fail
   go_loopw [1, 5] (fun lf i wr => ∃ k s : Nat, k ≤ xs.length ∧ i = .int .i64 k ∧ s = al ab.ag.sz (xs.take k) ∧ xs.length + s ≤ l ∧ lf = .int .i64 ((l - (xs.length + s) : Nat) : Int) ∧ Below w.heap.size w wr) (fun _ i _ => xs.length - (intOf i).toNat)
   case atStart => exact ⟨0, 0, Nat.zero_le _, rfl, rfl, by omega, by simp, Below.refl _ _⟩
   case round =>
    obtain ⟨k, s, hk, rfl, hs, hsl, rfl, hB⟩ := hrel
    have HS := yh hs
    clear hs e1 e2
    by_cases hlt : k < xs.length
    ·
     obtain ⟨row, hc, hr⟩ := ab.bE (uh H) hlt
     replace hr := hr.later hB
     have hr2 := hr
     obtain ⟨a2, d2, rfl, -⟩ := aM hr2
     have c0 : wr.cell? ⟨b, off + k * 5, none⟩ = some (.int .i64 (xs[k]).kind) := (hB.cell (p := ⟨b, off + k * 5, none⟩) hbl).trans (hc 0 (by decide))
     have c1 : wr.cell? ⟨b, off + k * 5 + 1, none⟩ = some (.int .i64 (xs[k]).id) := (hB.cell (p := ⟨b, off + k * 5 + 1, none⟩) hbl).trans (hc 1 (by decide))
     have c2 : wr.cell? ⟨b, off + k * 5 + 2, none⟩ = some (.slice a2 (xs[k]).vec.length d2) := (hB.cell (p := ⟨b, off + k * 5 + 2, none⟩) hbl).trans (hc 2 (by decide))
     have c3 : wr.cell? ⟨b, off + k * 5 + 3, none⟩ = some (.int .i64 (xs[k]).aa) := (hB.cell (p := ⟨b, off + k * 5 + 3, none⟩) hbl).trans (hc 3 (by decide))
     have c4 : wr.cell? ⟨b, off + k * 5 + 4, none⟩ = some (.int .i64 (xs[k]).seq) := (hB.cell (p := ⟨b, off + k * 5 + 4, none⟩) hbl).trans (hc 4 (by decide))
     have HB := yh hB
     have HR := yh hr
     have HT := yh (ab.cj (f := ab.ag.sz) hlt)
     have HL := yh (ab.bM (f := ab.ag.sz) (xs := xs) (k := k + 1))
     clear hB hr hc
     generalize hxk : xs[k] = x at *
     clear hxk
     go_wp2_with fail
     refine (gY _ x (l - (xs.length + s)) wr (uh HR) (by omega)).mono ?_
     rintro e w2 ⟨rfl, hb⟩
     replace HB := bZ HB hb
     clear hb HR c0 c1 c2 c3 c4
     have ht := uh HT
     rw [← uh HS] at ht
     have hle := uh HL
     rw [ht] at hle
     have HQ := yh ht
     by_cases hq : xs.length + s + ab.ag.sz x ≤ l
     ·
      rw [cg (by omega)]
      have e3 : l - (xs.length + s) - ab.ag.sz x = l - (xs.length + (s + ab.ag.sz x)) := by omega
      rw [e3]
      have e4 : decide (((l - (xs.length + (s + ab.ag.sz x)) : Nat) : Int) < 0) = false := by simp
      clear ht hle e3
      generalize hz : s + ab.ag.sz x = s2 at *
      have hs2 : xs.length + s2 ≤ l := by omega
      clear hz hq
      go_wp2_with fail
      go_roundw
      case rel => exact ⟨k + 1, s2, by omega, by go_num, (uh HQ).symm, hs2, rfl, uh HB⟩
      case measure => simp [intOf]; omega
     rw [bp (by omega)]
     have HN : Hid (l < xs.length + al ab.ag.sz xs) := by
      show l < xs.length + al ab.ag.sz xs
      omega
     clear ht hle
     go_wp2_with fail
     go_ret
     refine ⟨?_, uh HB⟩
     rw [uh HV, bp (uh HN)]
     rfl
    obtain rfl : k = xs.length := by omega
    have HE : Hid (s = al ab.ag.sz xs) := by
     have := uh HS
     rw [List.take_length] at this
     exact this
    have HB := yh hB
    clear hB HS
    go_wp2_with fail
    go_ret
    refine ⟨?_, uh HB⟩
    rw [uh HV, ← uh HE, cg hsl]
    rfl
  obtain rfl : xs = [] := List.eq_nil_of_length_eq_zero (by omega)
  clear h hp
  rw [uh HV]
  simp only [List.length_nil, al, Nat.add_zero, Nat.sub_zero] at *
  rw [cg (Nat.zero_le _)]
  have e3 : decide ((l : Int) < 0) = false := by simp
  go_enter Tryz.func143, Tryz.ntmps143
  go_wp2_with fail
  refine wp_loop_rounds 1 ?_
  rw [rounds_succ]
  go_wp2_with fail
  go_ret
  exact ⟨by simp, Below.refl _ _⟩
 have HN : Hid (mP l ((ab.sl ab.ag).sz xs) = -1) := bp (by rw [uh HV]; omega)
 rw [uh HN]
 have e2 : decide ((l : Int) - (xs.length : Int) < 0) = true := by simp; omega
 clear h HV HN
 generalize xs.length = n at *
 go_enter Tryz.func143, Tryz.ntmps143
 go_wp2_with fail
 go_ret
 exact ⟨rfl, Below.refl _ _⟩
theorem kB (x : aV) : ab.ax.sz x = (ab.sl ab.ag).sz x.writes := by
 show 0 + (0 + (0 + (0 + ((ab.sl ab.ag).sz x.writes + (0 + (0)))))) = (ab.sl ab.ag).sz x.writes
 omega
theorem tY (cs : List Value) (x : aV) (l : Nat) (w : World) (h : ab.ax.Reads w cs x) (hl : l ≤ 1048576) :
  Calls Tryz.prog 82 #[.agg cs.toArray, .int .i64 l] w fun e w' => e = .returned (.int .i64 (mP l (ab.ax.sz x))) ∧ Below w.heap.size w w' := by
 obtain ⟨a4, d4, rfl, R4⟩ := bG h
 clear h
 have HB0 : Below w.heap.size w (w.alloc (.cells #[.int .i64 x.id, .bool x.up, .int .i64 x.ae, .int .i64 x.au, .slice a4 x.writes.length d4, .int .i64 x.sure, .int .i64 x.clean] 143)) := (Below.refl _ _).alloc (Nat.le_refl _) _
 have bA : aA w.heap.size #[.int .i64 x.id, .bool x.up, .int .i64 x.ae, .int .i64 x.au, .slice a4 x.writes.length d4, .int .i64 x.sure, .int .i64 x.clean] 143 (w.alloc (.cells #[.int .i64 x.id, .bool x.up, .int .i64 x.ae, .int .i64 x.au, .slice a4 x.writes.length d4, .int .i64 x.sure, .int .i64 x.clean] 143)) w.heap.size := aD (Nat.le_refl _)
 have HV := yh (kB x)
 go_enter Tryz.func82, Tryz.ntmps82
 go_wp2_with fail
 generalize w.alloc (.cells #[.int .i64 x.id, .bool x.up, .int .i64 x.ae, .int .i64 x.au, .slice a4 x.writes.length d4, .int .i64 x.sure, .int .i64 x.clean] 143) = W0 at *
 replace R4 := R4.later HB0
 refine (rj _ x.writes (l) _ R4 (by omega)).mono ?_
 rintro e w1 ⟨rfl, hb⟩
 replace HB0 := HB0.trans (hb.mono HB0.size)
 replace bA := bA.ai hb
 clear hb R4
 by_cases hs0 : (ab.sl ab.ag).sz x.writes ≤ l
 ·
  rw [cg hs0]
  have hq : decide (((l - (ab.sl ab.ag).sz x.writes : Nat) : Int) < 0) = false := by simp
  have HX := yh HB0
  have HA := yh bA
  clear HB0 bA
  go_wp2_with fail
  clear hq
  go_ret
  refine ⟨?_, uh HX⟩
  rw [uh HV, cg (by omega), show l - ((ab.sl ab.ag).sz x.writes) = l - (ab.sl ab.ag).sz x.writes by omega]
  rfl
 rw [bp (by omega)]
 have HX := yh HB0
 clear HB0 bA
 go_wp2_with fail
 go_ret
 refine ⟨?_, uh HX⟩
 rw [uh HV, bp (by omega)]
 rfl
theorem rO (v : Value) (xs : List aV) (l : Nat) (w : World) (h : (ab.sl ab.ax).Reads w [v] xs) (hl : l ≤ 1048576) :
  Calls Tryz.prog 29 #[v, .int .i64 l] w fun e w' => e = .returned (.int .i64 (mP l ((ab.sl ab.ax).sz xs))) ∧ Below w.heap.size w w' := by
 have hbig := h.et
 obtain ⟨ao, cap, rfl⟩ := aI h
 have HV : Hid ((ab.sl ab.ax).sz xs = xs.length + al ab.ax.sz xs) := rfl
 by_cases hn : xs.length ≤ l
 ·
  have e1 : (l : Int) - (xs.length : Int) = ((l - xs.length : Nat) : Int) := by omega
  have e2 : decide (((l - xs.length : Nat) : Int) < 0) = false := by simp
  by_cases hp : 0 < xs.length
  ·
   obtain ⟨b, off, rfl, hbl⟩ := ab.aS h hp
   have H := yh h
   clear h
   go_enter Tryz.func29, Tryz.ntmps29
   go_wp2_with fail
   go_loopw [1, 5] (fun lf i wr => ∃ k s : Nat, k ≤ xs.length ∧ i = .int .i64 k ∧ s = al ab.ax.sz (xs.take k) ∧ xs.length + s ≤ l ∧ lf = .int .i64 ((l - (xs.length + s) : Nat) : Int) ∧ Below w.heap.size w wr) (fun _ i _ => xs.length - (intOf i).toNat)
   case atStart => exact ⟨0, 0, Nat.zero_le _, rfl, rfl, by omega, by simp, Below.refl _ _⟩
   case round =>
    obtain ⟨k, s, hk, rfl, hs, hsl, rfl, hB⟩ := hrel
    have HS := yh hs
    clear hs e1 e2
    by_cases hlt : k < xs.length
    ·
     obtain ⟨row, hc, hr⟩ := ab.bE (uh H) hlt
     replace hr := hr.later hB
     have hr2 := hr
     obtain ⟨a4, d4, rfl, -⟩ := bG hr2
     have c0 : wr.cell? ⟨b, off + k * 7, none⟩ = some (.int .i64 (xs[k]).id) := (hB.cell (p := ⟨b, off + k * 7, none⟩) hbl).trans (hc 0 (by decide))
     have c1 : wr.cell? ⟨b, off + k * 7 + 1, none⟩ = some (.bool (xs[k]).up) := (hB.cell (p := ⟨b, off + k * 7 + 1, none⟩) hbl).trans (hc 1 (by decide))
     have c2 : wr.cell? ⟨b, off + k * 7 + 2, none⟩ = some (.int .i64 (xs[k]).ae) := (hB.cell (p := ⟨b, off + k * 7 + 2, none⟩) hbl).trans (hc 2 (by decide))
     have c3 : wr.cell? ⟨b, off + k * 7 + 3, none⟩ = some (.int .i64 (xs[k]).au) := (hB.cell (p := ⟨b, off + k * 7 + 3, none⟩) hbl).trans (hc 3 (by decide))
     have c4 : wr.cell? ⟨b, off + k * 7 + 4, none⟩ = some (.slice a4 (xs[k]).writes.length d4) := (hB.cell (p := ⟨b, off + k * 7 + 4, none⟩) hbl).trans (hc 4 (by decide))
     have c5 : wr.cell? ⟨b, off + k * 7 + 5, none⟩ = some (.int .i64 (xs[k]).sure) := (hB.cell (p := ⟨b, off + k * 7 + 5, none⟩) hbl).trans (hc 5 (by decide))
     have c6 : wr.cell? ⟨b, off + k * 7 + 6, none⟩ = some (.int .i64 (xs[k]).clean) := (hB.cell (p := ⟨b, off + k * 7 + 6, none⟩) hbl).trans (hc 6 (by decide))
     have HB := yh hB
     have HR := yh hr
     have HT := yh (ab.cj (f := ab.ax.sz) hlt)
     have HL := yh (ab.bM (f := ab.ax.sz) (xs := xs) (k := k + 1))
     clear hB hr hc
     generalize hxk : xs[k] = x at *
     clear hxk
     go_wp2_with fail
     refine (tY _ x (l - (xs.length + s)) wr (uh HR) (by omega)).mono ?_
     rintro e w2 ⟨rfl, hb⟩
     replace HB := bZ HB hb
     clear hb HR c0 c1 c2 c3 c4 c5 c6
     have ht := uh HT
     rw [← uh HS] at ht
     have hle := uh HL
     rw [ht] at hle
     have HQ := yh ht
     by_cases hq : xs.length + s + ab.ax.sz x ≤ l
     ·
      rw [cg (by omega)]
      have e3 : l - (xs.length + s) - ab.ax.sz x = l - (xs.length + (s + ab.ax.sz x)) := by omega
      rw [e3]
      have e4 : decide (((l - (xs.length + (s + ab.ax.sz x)) : Nat) : Int) < 0) = false := by simp
      clear ht hle e3
      generalize hz : s + ab.ax.sz x = s2 at *
      have hs2 : xs.length + s2 ≤ l := by omega
      clear hz hq
      go_wp2_with fail
      go_roundw
      case rel => exact ⟨k + 1, s2, by omega, by go_num, (uh HQ).symm, hs2, rfl, uh HB⟩
      case measure => simp [intOf]; omega
     rw [bp (by omega)]
     have HN : Hid (l < xs.length + al ab.ax.sz xs) := by
      show l < xs.length + al ab.ax.sz xs
      omega
     clear ht hle
     go_wp2_with fail
     go_ret
     refine ⟨?_, uh HB⟩
     rw [uh HV, bp (uh HN)]
     rfl
    obtain rfl : k = xs.length := by omega
    have HE : Hid (s = al ab.ax.sz xs) := by
     have := uh HS
     rw [List.take_length] at this
     exact this
    have HB := yh hB
    clear hB HS
    go_wp2_with fail
    go_ret
    refine ⟨?_, uh HB⟩
    rw [uh HV, ← uh HE, cg hsl]
    rfl
  obtain rfl : xs = [] := List.eq_nil_of_length_eq_zero (by omega)
  clear h hp
  rw [uh HV]
  simp only [List.length_nil, al, Nat.add_zero, Nat.sub_zero] at *
  rw [cg (Nat.zero_le _)]
  have e3 : decide ((l : Int) < 0) = false := by simp
  go_enter Tryz.func29, Tryz.ntmps29
  go_wp2_with fail
  refine wp_loop_rounds 1 ?_
  rw [rounds_succ]
  go_wp2_with fail
  go_ret
  exact ⟨by simp, Below.refl _ _⟩
 have HN : Hid (mP l ((ab.sl ab.ax).sz xs) = -1) := bp (by rw [uh HV]; omega)
 rw [uh HN]
 have e2 : decide ((l : Int) - (xs.length : Int) < 0) = true := by simp; omega
 clear h HV HN
 generalize xs.length = n at *
 go_enter Tryz.func29, Tryz.ntmps29
 go_wp2_with fail
 go_ret
 exact ⟨rfl, Below.refl _ _⟩
theorem ld (x : bP) : ab.aQ.sz x = ab.ag.sz x.write := by
 show 0 + (0 + (0 + (0 + (0 + (ab.ag.sz x.write))))) = ab.ag.sz x.write
 omega
theorem uW (cs : List Value) (x : bP) (l : Nat) (w : World) (h : ab.aQ.Reads w cs x) (hl : l ≤ 1048576) :
  Calls Tryz.prog 83 #[.agg cs.toArray, .int .i64 l] w fun e w' => e = .returned (.int .i64 (mP l (ab.aQ.sz x))) ∧ Below w.heap.size w w' := by
 obtain ⟨a7, d7, rfl, R5⟩ := cN h
 clear h
 have HB0 : Below w.heap.size w (w.alloc (.cells #[.int .i64 x.kind, .int .i64 x.ae, .int .i64 x.src, .int .i64 x.dst, .int .i64 x.index, .int .i64 x.write.kind, .int .i64 x.write.id, .slice a7 x.write.vec.length d7, .int .i64 x.write.aa, .int .i64 x.write.seq] 146)) := (Below.refl _ _).alloc (Nat.le_refl _) _
 have bA : aA w.heap.size #[.int .i64 x.kind, .int .i64 x.ae, .int .i64 x.src, .int .i64 x.dst, .int .i64 x.index, .int .i64 x.write.kind, .int .i64 x.write.id, .slice a7 x.write.vec.length d7, .int .i64 x.write.aa, .int .i64 x.write.seq] 146 (w.alloc (.cells #[.int .i64 x.kind, .int .i64 x.ae, .int .i64 x.src, .int .i64 x.dst, .int .i64 x.index, .int .i64 x.write.kind, .int .i64 x.write.id, .slice a7 x.write.vec.length d7, .int .i64 x.write.aa, .int .i64 x.write.seq] 146)) w.heap.size := aD (Nat.le_refl _)
 have HV := yh (ld x)
 go_enter Tryz.func83, Tryz.ntmps83
 go_wp2_with fail
 generalize w.alloc (.cells #[.int .i64 x.kind, .int .i64 x.ae, .int .i64 x.src, .int .i64 x.dst, .int .i64 x.index, .int .i64 x.write.kind, .int .i64 x.write.id, .slice a7 x.write.vec.length d7, .int .i64 x.write.aa, .int .i64 x.write.seq] 146) = W0 at *
 replace R5 := R5.later HB0
 refine (gY _ x.write (l) _ R5 (by omega)).mono ?_
 rintro e w1 ⟨rfl, hb⟩
 replace HB0 := HB0.trans (hb.mono HB0.size)
 replace bA := bA.ai hb
 clear hb R5
 by_cases hs0 : ab.ag.sz x.write ≤ l
 ·
  rw [cg hs0]
  have hq : decide (((l - ab.ag.sz x.write : Nat) : Int) < 0) = false := by simp
  have HX := yh HB0
  have HA := yh bA
  clear HB0 bA
  go_wp2_with fail
  clear hq
  go_ret
  refine ⟨?_, uh HX⟩
  rw [uh HV, cg (by omega), show l - (ab.ag.sz x.write) = l - ab.ag.sz x.write by omega]
  rfl
 rw [bp (by omega)]
 have HX := yh HB0
 clear HB0 bA
 go_wp2_with fail
 go_ret
 refine ⟨?_, uh HX⟩
 rw [uh HV, bp (by omega)]
 rfl
theorem tA (v : Value) (xs : List bP) (l : Nat) (w : World) (h : (ab.sl ab.aQ).Reads w [v] xs) (hl : l ≤ 1048576) :
  Calls Tryz.prog 30 #[v, .int .i64 l] w fun e w' => e = .returned (.int .i64 (mP l ((ab.sl ab.aQ).sz xs))) ∧ Below w.heap.size w w' := by
 have hbig := h.et
 obtain ⟨ao, cap, rfl⟩ := aI h
 have HV : Hid ((ab.sl ab.aQ).sz xs = xs.length + al ab.aQ.sz xs) := rfl
 by_cases hn : xs.length ≤ l
 ·
  have e1 : (l : Int) - (xs.length : Int) = ((l - xs.length : Nat) : Int) := by omega
  have e2 : decide (((l - xs.length : Nat) : Int) < 0) = false := by simp
  by_cases hp : 0 < xs.length
  ·
   obtain ⟨b, off, rfl, hbl⟩ := ab.aS h hp
   have H := yh h
   clear h
   go_enter Tryz.func30, Tryz.ntmps30
   go_wp2_with fail
   go_loopw [1, 5] (fun lf i wr => ∃ k s : Nat, k ≤ xs.length ∧ i = .int .i64 k ∧ s = al ab.aQ.sz (xs.take k) ∧ xs.length + s ≤ l ∧ lf = .int .i64 ((l - (xs.length + s) : Nat) : Int) ∧ Below w.heap.size w wr) (fun _ i _ => xs.length - (intOf i).toNat)
   case atStart => exact ⟨0, 0, Nat.zero_le _, rfl, rfl, by omega, by simp, Below.refl _ _⟩
   case round =>
    obtain ⟨k, s, hk, rfl, hs, hsl, rfl, hB⟩ := hrel
    have HS := yh hs
    clear hs e1 e2
    by_cases hlt : k < xs.length
    ·
     obtain ⟨row, hc, hr⟩ := ab.bE (uh H) hlt
     replace hr := hr.later hB
     have hr2 := hr
     obtain ⟨a7, d7, rfl, -⟩ := cN hr2
     have c0 : wr.cell? ⟨b, off + k * 10, none⟩ = some (.int .i64 (xs[k]).kind) := (hB.cell (p := ⟨b, off + k * 10, none⟩) hbl).trans (hc 0 (by decide))
     have c1 : wr.cell? ⟨b, off + k * 10 + 1, none⟩ = some (.int .i64 (xs[k]).ae) := (hB.cell (p := ⟨b, off + k * 10 + 1, none⟩) hbl).trans (hc 1 (by decide))
     have c2 : wr.cell? ⟨b, off + k * 10 + 2, none⟩ = some (.int .i64 (xs[k]).src) := (hB.cell (p := ⟨b, off + k * 10 + 2, none⟩) hbl).trans (hc 2 (by decide))
     have c3 : wr.cell? ⟨b, off + k * 10 + 3, none⟩ = some (.int .i64 (xs[k]).dst) := (hB.cell (p := ⟨b, off + k * 10 + 3, none⟩) hbl).trans (hc 3 (by decide))
     have c4 : wr.cell? ⟨b, off + k * 10 + 4, none⟩ = some (.int .i64 (xs[k]).index) := (hB.cell (p := ⟨b, off + k * 10 + 4, none⟩) hbl).trans (hc 4 (by decide))
     have c5 : wr.cell? ⟨b, off + k * 10 + 5, none⟩ = some (.int .i64 (xs[k]).write.kind) := (hB.cell (p := ⟨b, off + k * 10 + 5, none⟩) hbl).trans (hc 5 (by decide))
     have c6 : wr.cell? ⟨b, off + k * 10 + 6, none⟩ = some (.int .i64 (xs[k]).write.id) := (hB.cell (p := ⟨b, off + k * 10 + 6, none⟩) hbl).trans (hc 6 (by decide))
     have c7 : wr.cell? ⟨b, off + k * 10 + 7, none⟩ = some (.slice a7 (xs[k]).write.vec.length d7) := (hB.cell (p := ⟨b, off + k * 10 + 7, none⟩) hbl).trans (hc 7 (by decide))
     have c8 : wr.cell? ⟨b, off + k * 10 + 8, none⟩ = some (.int .i64 (xs[k]).write.aa) := (hB.cell (p := ⟨b, off + k * 10 + 8, none⟩) hbl).trans (hc 8 (by decide))
     have c9 : wr.cell? ⟨b, off + k * 10 + 9, none⟩ = some (.int .i64 (xs[k]).write.seq) := (hB.cell (p := ⟨b, off + k * 10 + 9, none⟩) hbl).trans (hc 9 (by decide))
     have HB := yh hB
     have HR := yh hr
     have HT := yh (ab.cj (f := ab.aQ.sz) hlt)
     have HL := yh (ab.bM (f := ab.aQ.sz) (xs := xs) (k := k + 1))
     clear hB hr hc
     generalize hxk : xs[k] = x at *
     clear hxk
     go_wp2_with fail
     refine (uW _ x (l - (xs.length + s)) wr (uh HR) (by omega)).mono ?_
     rintro e w2 ⟨rfl, hb⟩
     replace HB := bZ HB hb
     clear hb HR c0 c1 c2 c3 c4 c5 c6 c7 c8 c9
     have ht := uh HT
     rw [← uh HS] at ht
     have hle := uh HL
     rw [ht] at hle
     have HQ := yh ht
     by_cases hq : xs.length + s + ab.aQ.sz x ≤ l
     ·
      rw [cg (by omega)]
      have e3 : l - (xs.length + s) - ab.aQ.sz x = l - (xs.length + (s + ab.aQ.sz x)) := by omega
      rw [e3]
      have e4 : decide (((l - (xs.length + (s + ab.aQ.sz x)) : Nat) : Int) < 0) = false := by simp
      clear ht hle e3
      generalize hz : s + ab.aQ.sz x = s2 at *
      have hs2 : xs.length + s2 ≤ l := by omega
      clear hz hq
      go_wp2_with fail
      go_roundw
      case rel => exact ⟨k + 1, s2, by omega, by go_num, (uh HQ).symm, hs2, rfl, uh HB⟩
      case measure => simp [intOf]; omega
     rw [bp (by omega)]
     have HN : Hid (l < xs.length + al ab.aQ.sz xs) := by
      show l < xs.length + al ab.aQ.sz xs
      omega
     clear ht hle
     go_wp2_with fail
     go_ret
     refine ⟨?_, uh HB⟩
     rw [uh HV, bp (uh HN)]
     rfl
    obtain rfl : k = xs.length := by omega
    have HE : Hid (s = al ab.aQ.sz xs) := by
     have := uh HS
     rw [List.take_length] at this
     exact this
    have HB := yh hB
    clear hB HS
    go_wp2_with fail
    go_ret
    refine ⟨?_, uh HB⟩
    rw [uh HV, ← uh HE, cg hsl]
    rfl
  obtain rfl : xs = [] := List.eq_nil_of_length_eq_zero (by omega)
  clear h hp
  rw [uh HV]
  simp only [List.length_nil, al, Nat.add_zero, Nat.sub_zero] at *
  rw [cg (Nat.zero_le _)]
  have e3 : decide ((l : Int) < 0) = false := by simp
  go_enter Tryz.func30, Tryz.ntmps30
  go_wp2_with fail
  refine wp_loop_rounds 1 ?_
  rw [rounds_succ]
  go_wp2_with fail
  go_ret
  exact ⟨by simp, Below.refl _ _⟩
 have HN : Hid (mP l ((ab.sl ab.aQ).sz xs) = -1) := bp (by rw [uh HV]; omega)
 rw [uh HN]
 have e2 : decide ((l : Int) - (xs.length : Int) < 0) = true := by simp; omega
 clear h HV HN
 generalize xs.length = n at *
 go_enter Tryz.func30, Tryz.ntmps30
 go_wp2_with fail
 go_ret
 exact ⟨rfl, Below.refl _ _⟩
theorem qa (x : eG) : ab.bq.sz x = 0 := by
 show 0 + (0) = 0
 omega
theorem tM (v : Value) (xs : List eG) (l : Nat) (w : World) (h : (ab.sl ab.bq).Reads w [v] xs) (hl : l ≤ 1048576) :
  Calls Tryz.prog 144 #[v, .int .i64 l] w fun e w' => e = .returned (.int .i64 (mP l ((ab.sl ab.bq).sz xs))) ∧ Below w.heap.size w w' := by
 have hbig := h.et
 obtain ⟨ao, cap, rfl⟩ := aI h
 have HV : Hid ((ab.sl ab.bq).sz xs = xs.length + al ab.bq.sz xs) := rfl
 have e0 : al ab.bq.sz xs = 0 := by
  clear h hbig HV
  induction xs with
  | nil => rfl
  | cons x xs ih => rw [al, ih, qa]
 rw [uh HV, e0, Nat.add_zero]
 generalize xs.length = n at *
 clear h HV e0
 by_cases hn : n ≤ l
 ·
  rw [cg hn]
  have e1 : (l : Int) - (n : Int) = ((l - n : Nat) : Int) := by omega
  have e2 : decide (((l - n : Nat) : Int) < 0) = false := by simp
  go_enter Tryz.func144, Tryz.ntmps144
  go_wp2_with fail
  go_ret
  exact ⟨rfl, Below.refl _ _⟩
 rw [bp (by omega)]
 have e2 : decide ((l : Int) - (n : Int) < 0) = true := by simp; omega
 go_enter Tryz.func144, Tryz.ntmps144
 go_wp2_with fail
 go_ret
 exact ⟨rfl, Below.refl _ _⟩
theorem iQ (x : bj) : ab.ar.sz x = (ab.sl ab.int).sz x.query + (ab.sl ab.int).sz x.vec + (ab.sl ab.bq).sz x.aY := by
 show 0 + (0 + (0 + (0 + ((ab.sl ab.int).sz x.query + (0 + (0 + (0 + (0 + ((ab.sl ab.int).sz x.vec + ((ab.sl ab.bq).sz x.aY)))))))))) = (ab.sl ab.int).sz x.query + (ab.sl ab.int).sz x.vec + (ab.sl ab.bq).sz x.aY
 omega
theorem ry (cs : List Value) (x : bj) (l : Nat) (w : World) (h : ab.ar.Reads w cs x) (hl : l ≤ 1048576) :
  Calls Tryz.prog 84 #[.agg cs.toArray, .int .i64 l] w fun e w' => e = .returned (.int .i64 (mP l (ab.ar.sz x))) ∧ Below w.heap.size w w' := by
 obtain ⟨a4, d4, a9, d9, a10, d10, rfl, R4, R9, R10⟩ := cd h
 clear h
 have HB0 : Below w.heap.size w (w.alloc (.cells #[.int .i64 x.kind, .int .i64 x.aa, .int .i64 x.seq, .int .i64 x.id, .slice a4 x.query.length d4, .int .i64 x.k, .int .i64 x.start, .int .i64 x.fin, .int .i64 x.place, .slice a9 x.vec.length d9, .slice a10 x.aY.length d10] 150)) := (Below.refl _ _).alloc (Nat.le_refl _) _
 have bA : aA w.heap.size #[.int .i64 x.kind, .int .i64 x.aa, .int .i64 x.seq, .int .i64 x.id, .slice a4 x.query.length d4, .int .i64 x.k, .int .i64 x.start, .int .i64 x.fin, .int .i64 x.place, .slice a9 x.vec.length d9, .slice a10 x.aY.length d10] 150 (w.alloc (.cells #[.int .i64 x.kind, .int .i64 x.aa, .int .i64 x.seq, .int .i64 x.id, .slice a4 x.query.length d4, .int .i64 x.k, .int .i64 x.start, .int .i64 x.fin, .int .i64 x.place, .slice a9 x.vec.length d9, .slice a10 x.aY.length d10] 150)) w.heap.size := aD (Nat.le_refl _)
 have HV := yh (iQ x)
 go_enter Tryz.func84, Tryz.ntmps84
 go_wp2_with fail
 generalize w.alloc (.cells #[.int .i64 x.kind, .int .i64 x.aa, .int .i64 x.seq, .int .i64 x.id, .slice a4 x.query.length d4, .int .i64 x.k, .int .i64 x.start, .int .i64 x.fin, .int .i64 x.place, .slice a9 x.vec.length d9, .slice a10 x.aY.length d10] 150) = W0 at *
 replace R4 := R4.later HB0
 replace R9 := R9.later HB0
 replace R10 := R10.later HB0
 refine (gy _ x.query (l) _ R4 (by omega)).mono ?_
 rintro e w1 ⟨rfl, hb⟩
 replace HB0 := HB0.trans (hb.mono HB0.size)
 replace bA := bA.ai hb
 replace R9 := R9.later hb
 replace R10 := R10.later hb
 clear hb R4
 by_cases hs0 : (ab.sl ab.int).sz x.query ≤ l
 ·
  rw [cg hs0]
  have hq : decide (((l - (ab.sl ab.int).sz x.query : Nat) : Int) < 0) = false := by simp
  have p9 := bA.at 9 _ rfl
  have p10 := bA.at 10 _ rfl
  have HX := yh HB0
  have HA := yh bA
  clear HB0 bA
  have P9 := yh R9
  clear R9
  have P10 := yh R10
  clear R10
  go_wp2_with fail
  clear hq
  have HB0 := uh HX
  have bA := uh HA
  clear HX HA
  have R9 := uh P9
  clear P9
  have R10 := uh P10
  clear P10
  clear p9
  clear p10
  refine (gy _ x.vec (l - (ab.sl ab.int).sz x.query) _ R9 (by omega)).mono ?_
  rintro e w2 ⟨rfl, hb⟩
  replace HB0 := HB0.trans (hb.mono HB0.size)
  replace bA := bA.ai hb
  replace R10 := R10.later hb
  clear hb R9
  by_cases hs1 : (ab.sl ab.int).sz x.vec ≤ l - (ab.sl ab.int).sz x.query
  ·
   rw [cg hs1]
   have hq : decide (((l - (ab.sl ab.int).sz x.query - (ab.sl ab.int).sz x.vec : Nat) : Int) < 0) = false := by simp
   have p10 := bA.at 10 _ rfl
   have HX := yh HB0
   have HA := yh bA
   clear HB0 bA
   have P10 := yh R10
   clear R10
   go_wp2_with fail
   clear hq
   have HB0 := uh HX
   have bA := uh HA
   clear HX HA
   have R10 := uh P10
   clear P10
   clear p10
   refine (tM _ x.aY (l - (ab.sl ab.int).sz x.query - (ab.sl ab.int).sz x.vec) _ R10 (by omega)).mono ?_
   rintro e w3 ⟨rfl, hb⟩
   replace HB0 := HB0.trans (hb.mono HB0.size)
   replace bA := bA.ai hb
   clear hb R10
   by_cases hs2 : (ab.sl ab.bq).sz x.aY ≤ l - (ab.sl ab.int).sz x.query - (ab.sl ab.int).sz x.vec
   ·
    rw [cg hs2]
    have hq : decide (((l - (ab.sl ab.int).sz x.query - (ab.sl ab.int).sz x.vec - (ab.sl ab.bq).sz x.aY : Nat) : Int) < 0) = false := by simp
    have HX := yh HB0
    have HA := yh bA
    clear HB0 bA
    go_wp2_with fail
    clear hq
    go_ret
    refine ⟨?_, uh HX⟩
    rw [uh HV, cg (by omega), show l - ((ab.sl ab.int).sz x.query + (ab.sl ab.int).sz x.vec + (ab.sl ab.bq).sz x.aY) = l - (ab.sl ab.int).sz x.query - (ab.sl ab.int).sz x.vec - (ab.sl ab.bq).sz x.aY by omega]
    rfl
   rw [bp (by omega)]
   have HX := yh HB0
   clear HB0 bA
   go_wp2_with fail
   go_ret
   refine ⟨?_, uh HX⟩
   rw [uh HV, bp (by omega)]
   rfl
  rw [bp (by omega)]
  have HX := yh HB0
  clear HB0 bA
  go_wp2_with fail
  go_ret
  refine ⟨?_, uh HX⟩
  rw [uh HV, bp (by omega)]
  rfl
 rw [bp (by omega)]
 have HX := yh HB0
 clear HB0 bA
 go_wp2_with fail
 go_ret
 refine ⟨?_, uh HX⟩
 rw [uh HV, bp (by omega)]
 rfl
theorem qX (v : Value) (xs : List bj) (l : Nat) (w : World) (h : (ab.sl ab.ar).Reads w [v] xs) (hl : l ≤ 1048576) :
  Calls Tryz.prog 31 #[v, .int .i64 l] w fun e w' => e = .returned (.int .i64 (mP l ((ab.sl ab.ar).sz xs))) ∧ Below w.heap.size w w' := by
 have hbig := h.et
 obtain ⟨ao, cap, rfl⟩ := aI h
 have HV : Hid ((ab.sl ab.ar).sz xs = xs.length + al ab.ar.sz xs) := rfl
 by_cases hn : xs.length ≤ l
 ·
  have e1 : (l : Int) - (xs.length : Int) = ((l - xs.length : Nat) : Int) := by omega
  have e2 : decide (((l - xs.length : Nat) : Int) < 0) = false := by simp
  by_cases hp : 0 < xs.length
  ·
   obtain ⟨b, off, rfl, hbl⟩ := ab.aS h hp
   have H := yh h
   clear h
   go_enter Tryz.func31, Tryz.ntmps31
   go_wp2_with fail
   go_loopw [1, 5] (fun lf i wr => ∃ k s : Nat, k ≤ xs.length ∧ i = .int .i64 k ∧ s = al ab.ar.sz (xs.take k) ∧ xs.length + s ≤ l ∧ lf = .int .i64 ((l - (xs.length + s) : Nat) : Int) ∧ Below w.heap.size w wr) (fun _ i _ => xs.length - (intOf i).toNat)
   case atStart => exact ⟨0, 0, Nat.zero_le _, rfl, rfl, by omega, by simp, Below.refl _ _⟩
   case round =>
    obtain ⟨k, s, hk, rfl, hs, hsl, rfl, hB⟩ := hrel
    have HS := yh hs
    clear hs e1 e2
    by_cases hlt : k < xs.length
    ·
     obtain ⟨row, hc, hr⟩ := ab.bE (uh H) hlt
     replace hr := hr.later hB
     have hr2 := hr
     obtain ⟨a4, d4, a9, d9, a10, d10, rfl, -, -, -⟩ := cd hr2
     have c0 : wr.cell? ⟨b, off + k * 11, none⟩ = some (.int .i64 (xs[k]).kind) := (hB.cell (p := ⟨b, off + k * 11, none⟩) hbl).trans (hc 0 (by decide))
     have c1 : wr.cell? ⟨b, off + k * 11 + 1, none⟩ = some (.int .i64 (xs[k]).aa) := (hB.cell (p := ⟨b, off + k * 11 + 1, none⟩) hbl).trans (hc 1 (by decide))
     have c2 : wr.cell? ⟨b, off + k * 11 + 2, none⟩ = some (.int .i64 (xs[k]).seq) := (hB.cell (p := ⟨b, off + k * 11 + 2, none⟩) hbl).trans (hc 2 (by decide))
     have c3 : wr.cell? ⟨b, off + k * 11 + 3, none⟩ = some (.int .i64 (xs[k]).id) := (hB.cell (p := ⟨b, off + k * 11 + 3, none⟩) hbl).trans (hc 3 (by decide))
     have c4 : wr.cell? ⟨b, off + k * 11 + 4, none⟩ = some (.slice a4 (xs[k]).query.length d4) := (hB.cell (p := ⟨b, off + k * 11 + 4, none⟩) hbl).trans (hc 4 (by decide))
     have c5 : wr.cell? ⟨b, off + k * 11 + 5, none⟩ = some (.int .i64 (xs[k]).k) := (hB.cell (p := ⟨b, off + k * 11 + 5, none⟩) hbl).trans (hc 5 (by decide))
     have c6 : wr.cell? ⟨b, off + k * 11 + 6, none⟩ = some (.int .i64 (xs[k]).start) := (hB.cell (p := ⟨b, off + k * 11 + 6, none⟩) hbl).trans (hc 6 (by decide))
     have c7 : wr.cell? ⟨b, off + k * 11 + 7, none⟩ = some (.int .i64 (xs[k]).fin) := (hB.cell (p := ⟨b, off + k * 11 + 7, none⟩) hbl).trans (hc 7 (by decide))
     have c8 : wr.cell? ⟨b, off + k * 11 + 8, none⟩ = some (.int .i64 (xs[k]).place) := (hB.cell (p := ⟨b, off + k * 11 + 8, none⟩) hbl).trans (hc 8 (by decide))
     have c9 : wr.cell? ⟨b, off + k * 11 + 9, none⟩ = some (.slice a9 (xs[k]).vec.length d9) := (hB.cell (p := ⟨b, off + k * 11 + 9, none⟩) hbl).trans (hc 9 (by decide))
     have c10 : wr.cell? ⟨b, off + k * 11 + 10, none⟩ = some (.slice a10 (xs[k]).aY.length d10) := (hB.cell (p := ⟨b, off + k * 11 + 10, none⟩) hbl).trans (hc 10 (by decide))
     have HB := yh hB
     have HR := yh hr
     have HT := yh (ab.cj (f := ab.ar.sz) hlt)
     have HL := yh (ab.bM (f := ab.ar.sz) (xs := xs) (k := k + 1))
     clear hB hr hc
     generalize hxk : xs[k] = x at *
     clear hxk
     go_wp2_with fail
     refine (ry _ x (l - (xs.length + s)) wr (uh HR) (by omega)).mono ?_
     rintro e w2 ⟨rfl, hb⟩
     replace HB := bZ HB hb
     clear hb HR c0 c1 c2 c3 c4 c5 c6 c7 c8 c9 c10
     have ht := uh HT
     rw [← uh HS] at ht
     have hle := uh HL
     rw [ht] at hle
     have HQ := yh ht
     by_cases hq : xs.length + s + ab.ar.sz x ≤ l
     ·
      rw [cg (by omega)]
      have e3 : l - (xs.length + s) - ab.ar.sz x = l - (xs.length + (s + ab.ar.sz x)) := by omega
      rw [e3]
      have e4 : decide (((l - (xs.length + (s + ab.ar.sz x)) : Nat) : Int) < 0) = false := by simp
      clear ht hle e3
      generalize hz : s + ab.ar.sz x = s2 at *
      have hs2 : xs.length + s2 ≤ l := by omega
      clear hz hq
      go_wp2_with fail
      go_roundw
      case rel => exact ⟨k + 1, s2, by omega, by go_num, (uh HQ).symm, hs2, rfl, uh HB⟩
      case measure => simp [intOf]; omega
     rw [bp (by omega)]
     have HN : Hid (l < xs.length + al ab.ar.sz xs) := by
      show l < xs.length + al ab.ar.sz xs
      omega
     clear ht hle
     go_wp2_with fail
     go_ret
     refine ⟨?_, uh HB⟩
     rw [uh HV, bp (uh HN)]
     rfl
    obtain rfl : k = xs.length := by omega
    have HE : Hid (s = al ab.ar.sz xs) := by
     have := uh HS
     rw [List.take_length] at this
     exact this
    have HB := yh hB
    clear hB HS
    go_wp2_with fail
    go_ret
    refine ⟨?_, uh HB⟩
    rw [uh HV, ← uh HE, cg hsl]
    rfl
  obtain rfl : xs = [] := List.eq_nil_of_length_eq_zero (by omega)
  clear h hp
  rw [uh HV]
  simp only [List.length_nil, al, Nat.add_zero, Nat.sub_zero] at *
  rw [cg (Nat.zero_le _)]
  have e3 : decide ((l : Int) < 0) = false := by simp
  go_enter Tryz.func31, Tryz.ntmps31
  go_wp2_with fail
  refine wp_loop_rounds 1 ?_
  rw [rounds_succ]
  go_wp2_with fail
  go_ret
  exact ⟨by simp, Below.refl _ _⟩
 have HN : Hid (mP l ((ab.sl ab.ar).sz xs) = -1) := bp (by rw [uh HV]; omega)
 rw [uh HN]
 have e2 : decide ((l : Int) - (xs.length : Int) < 0) = true := by simp; omega
 clear h HV HN
 generalize xs.length = n at *
 go_enter Tryz.func31, Tryz.ntmps31
 go_wp2_with fail
 go_ret
 exact ⟨rfl, Below.refl _ _⟩
theorem iY (x : ay) : ab.aF.sz x = ab.aH.sz x.chain + (ab.sl ab.ax).sz x.nodes + (ab.sl ab.aQ).sz x.msgs + (ab.sl ab.ar).sz x.af := by
 show 0 + (0 + (ab.aH.sz x.chain + ((ab.sl ab.ax).sz x.nodes + ((ab.sl ab.aQ).sz x.msgs + ((ab.sl ab.ar).sz x.af))))) = ab.aH.sz x.chain + (ab.sl ab.ax).sz x.nodes + (ab.sl ab.aQ).sz x.msgs + (ab.sl ab.ar).sz x.af
 omega
theorem nE (cs : List Value) (x : ay) (l : Nat) (w : World) (h : ab.aF.Reads w cs x) (hl : l ≤ 1048576) :
  Calls Tryz.prog 7 #[.agg cs.toArray, .int .i64 l] w fun e w' => e = .returned (.int .i64 (mP l (ab.aF.sz x))) ∧ Below w.heap.size w w' := by
 obtain ⟨a3, d3, a4, d4, a5, d5, a6, d6, rfl, R2, R4, R5, R6⟩ := aK h
 clear h
 have HB0 : Below w.heap.size w (w.alloc (.cells #[.int .i64 x.now, .int .i64 x.events, .int .i64 x.chain.ae, .slice a3 x.chain.ids.length d3, .slice a4 x.nodes.length d4, .slice a5 x.msgs.length d5, .slice a6 x.af.length d6] 29)) := (Below.refl _ _).alloc (Nat.le_refl _) _
 have bA : aA w.heap.size #[.int .i64 x.now, .int .i64 x.events, .int .i64 x.chain.ae, .slice a3 x.chain.ids.length d3, .slice a4 x.nodes.length d4, .slice a5 x.msgs.length d5, .slice a6 x.af.length d6] 29 (w.alloc (.cells #[.int .i64 x.now, .int .i64 x.events, .int .i64 x.chain.ae, .slice a3 x.chain.ids.length d3, .slice a4 x.nodes.length d4, .slice a5 x.msgs.length d5, .slice a6 x.af.length d6] 29)) w.heap.size := aD (Nat.le_refl _)
 have HV := yh (iY x)
 go_enter Tryz.func7, Tryz.ntmps7
 go_wp2_with fail
 generalize w.alloc (.cells #[.int .i64 x.now, .int .i64 x.events, .int .i64 x.chain.ae, .slice a3 x.chain.ids.length d3, .slice a4 x.nodes.length d4, .slice a5 x.msgs.length d5, .slice a6 x.af.length d6] 29) = W0 at *
 replace R2 := R2.later HB0
 replace R4 := R4.later HB0
 replace R5 := R5.later HB0
 replace R6 := R6.later HB0
 refine (so _ x.chain (l) _ R2 (by omega)).mono ?_
 rintro e w1 ⟨rfl, hb⟩
 replace HB0 := HB0.trans (hb.mono HB0.size)
 replace bA := bA.ai hb
 replace R4 := R4.later hb
 replace R5 := R5.later hb
 replace R6 := R6.later hb
 clear hb R2
 by_cases hs0 : ab.aH.sz x.chain ≤ l
 ·
  rw [cg hs0]
  have hq : decide (((l - ab.aH.sz x.chain : Nat) : Int) < 0) = false := by simp
  have p4 := bA.at 4 _ rfl
  have p5 := bA.at 5 _ rfl
  have p6 := bA.at 6 _ rfl
  have HX := yh HB0
  have HA := yh bA
  clear HB0 bA
  have P4 := yh R4
  clear R4
  have P5 := yh R5
  clear R5
  have P6 := yh R6
  clear R6
  go_wp2_with fail
  clear hq
  have HB0 := uh HX
  have bA := uh HA
  clear HX HA
  have R4 := uh P4
  clear P4
  have R5 := uh P5
  clear P5
  have R6 := uh P6
  clear P6
  clear p4
  clear p5
  clear p6
  refine (rO _ x.nodes (l - ab.aH.sz x.chain) _ R4 (by omega)).mono ?_
  rintro e w2 ⟨rfl, hb⟩
  replace HB0 := HB0.trans (hb.mono HB0.size)
  replace bA := bA.ai hb
  replace R5 := R5.later hb
  replace R6 := R6.later hb
  clear hb R4
  by_cases hs1 : (ab.sl ab.ax).sz x.nodes ≤ l - ab.aH.sz x.chain
  ·
   rw [cg hs1]
   have hq : decide (((l - ab.aH.sz x.chain - (ab.sl ab.ax).sz x.nodes : Nat) : Int) < 0) = false := by simp
   have p5 := bA.at 5 _ rfl
   have p6 := bA.at 6 _ rfl
   have HX := yh HB0
   have HA := yh bA
   clear HB0 bA
   have P5 := yh R5
   clear R5
   have P6 := yh R6
   clear R6
   go_wp2_with fail
   clear hq
   have HB0 := uh HX
   have bA := uh HA
   clear HX HA
   have R5 := uh P5
   clear P5
   have R6 := uh P6
   clear P6
   clear p5
   clear p6
   refine (tA _ x.msgs (l - ab.aH.sz x.chain - (ab.sl ab.ax).sz x.nodes) _ R5 (by omega)).mono ?_
   rintro e w3 ⟨rfl, hb⟩
   replace HB0 := HB0.trans (hb.mono HB0.size)
   replace bA := bA.ai hb
   replace R6 := R6.later hb
   clear hb R5
   by_cases hs2 : (ab.sl ab.aQ).sz x.msgs ≤ l - ab.aH.sz x.chain - (ab.sl ab.ax).sz x.nodes
   ·
    rw [cg hs2]
    have hq : decide (((l - ab.aH.sz x.chain - (ab.sl ab.ax).sz x.nodes - (ab.sl ab.aQ).sz x.msgs : Nat) : Int) < 0) = false := by simp
    have p6 := bA.at 6 _ rfl
    have HX := yh HB0
    have HA := yh bA
    clear HB0 bA
    have P6 := yh R6
    clear R6
    go_wp2_with fail
    clear hq
    have HB0 := uh HX
    have bA := uh HA
    clear HX HA
    have R6 := uh P6
    clear P6
    clear p6
    refine (qX _ x.af (l - ab.aH.sz x.chain - (ab.sl ab.ax).sz x.nodes - (ab.sl ab.aQ).sz x.msgs) _ R6 (by omega)).mono ?_
    rintro e w4 ⟨rfl, hb⟩
    replace HB0 := HB0.trans (hb.mono HB0.size)
    replace bA := bA.ai hb
    clear hb R6
    by_cases hs3 : (ab.sl ab.ar).sz x.af ≤ l - ab.aH.sz x.chain - (ab.sl ab.ax).sz x.nodes - (ab.sl ab.aQ).sz x.msgs
    ·
     rw [cg hs3]
     have hq : decide (((l - ab.aH.sz x.chain - (ab.sl ab.ax).sz x.nodes - (ab.sl ab.aQ).sz x.msgs - (ab.sl ab.ar).sz x.af : Nat) : Int) < 0) = false := by simp
     have HX := yh HB0
     have HA := yh bA
     clear HB0 bA
     go_wp2_with fail
     clear hq
     go_ret
     refine ⟨?_, uh HX⟩
     rw [uh HV, cg (by omega), show l - (ab.aH.sz x.chain + (ab.sl ab.ax).sz x.nodes + (ab.sl ab.aQ).sz x.msgs + (ab.sl ab.ar).sz x.af) = l - ab.aH.sz x.chain - (ab.sl ab.ax).sz x.nodes - (ab.sl ab.aQ).sz x.msgs - (ab.sl ab.ar).sz x.af by omega]
     rfl
    rw [bp (by omega)]
    have HX := yh HB0
    clear HB0 bA
    go_wp2_with fail
    go_ret
    refine ⟨?_, uh HX⟩
    rw [uh HV, bp (by omega)]
    rfl
   rw [bp (by omega)]
   have HX := yh HB0
   clear HB0 bA
   go_wp2_with fail
   go_ret
   refine ⟨?_, uh HX⟩
   rw [uh HV, bp (by omega)]
   rfl
  rw [bp (by omega)]
  have HX := yh HB0
  clear HB0 bA
  go_wp2_with fail
  go_ret
  refine ⟨?_, uh HX⟩
  rw [uh HV, bp (by omega)]
  rfl
 rw [bp (by omega)]
 have HX := yh HB0
 clear HB0 bA
 go_wp2_with fail
 go_ret
 refine ⟨?_, uh HX⟩
 rw [uh HV, bp (by omega)]
 rfl
end Go.Proofs.YtomphbenbnnfgaaGreatDoor
