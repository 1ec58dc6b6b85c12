/-
  Texts of this proof in one: Ground, LayChain, TabGround, LayNode, LayMsg, HitGround, LayEntry, LayWorld, Info, Ints, LayInt, SzInt64S, SzChain.
  Their conditions stand in their theorems.
-/
import Derived.WalkKit
import Derived.WalkSpells
import Derived.WalkSmall
import Derived.Deep.AppendLies
import Derived.Test.YtecagllmonckgaaGreatLi00
import Derived.Maps.OwnSet
import Derived.Maps.AppendAt
import Derived.Test.YtecagllmonckgaaGreatChecked
import Derived.BigQuiet
import Derived.Deep.QuietTactic
set_option maxRecDepth 100000
set_option maxHeartbeats 4000000
namespace Go.Proofs.YtecagllmonckgaaGreat
open Go.RowKit
theorem yh {p : Prop} (h : p) : Hid p := h
theorem uh {p : Prop} (h : Hid p) : p := h
theorem bZ {a b c : World} (h : Hid (Below a.heap.size a b)) (k : Below b.heap.size b c) : Hid (Below a.heap.size a c) := yh ((uh h).trans (k.mono (uh h).size))
theorem bO {B : Nat} {a w : World} (h : Below B a w) (n : Nat) : Below B a (w.drewN n) := h.trans ⟨rfl, rfl, rfl, Nat.le_refl _, fun _ _ => rfl⟩
theorem bJ {w wx : World} {a : Addr} {v : Value} (hb : Below w.heap.size w wx) (h : w.cell? a = some v) : wx.cell? a = some v := (hb.cell (World.block_lt_of_cell? _ _ h)).trans h
theorem hH {a b c : World} {r : Option Nat} (h : a.grownBy b r) (k : b.grownBy c r) : a.grownBy c r :=
 ⟨k.os.trans h.os, k.tape.trans h.tape, k.output.trans h.output, Nat.le_trans h.size k.size, fun i hi hr => (k.block i (Nat.lt_of_lt_of_le hi h.size) hr).trans (h.block i hi hr)⟩
def bh (w : World) (v : Value) (zs : List Int) : Prop :=
 ∃ ao cap, v = .slice ao zs.length cap ∧ (∀ z ∈ zs, (Lit.int .i64 z).wf = true) ∧
  (0 < zs.length → ∃ b off, ao = some ⟨b, off, none⟩ ∧ ∀ j, j < zs.length → w.cell? ⟨b, off + j, none⟩ = some (.int .i64 (zs.getD j 0)))
theorem bh.af {w w' : World} {v : Value} {zs : List Int} (h : bh w v zs) (hb : Below w.heap.size w w') : bh w' v zs := by
 obtain ⟨ao, cap, rfl, hwf, hc⟩ := h
 refine ⟨ao, cap, rfl, hwf, fun hp => ?_⟩
 obtain ⟨b, off, hao, hc1⟩ := hc hp
 refine ⟨b, off, hao, fun j hj => ?_⟩
 have h1 := hc1 j hj
 exact (hb.cell (World.block_lt_of_cell? _ _ h1)).trans h1
theorem dU {w : World} {base T g : Nat} {zs : List Int} (hwf : ∀ z ∈ zs, (Lit.int .i64 z).wf = true)
  (h : w.ownsRow base T 1 (.slice (some ⟨g, 0, none⟩) zs.length zs.length) zs.length (zs.map (Value.int .i64))) : bh w (.slice (some ⟨g, 0, none⟩) zs.length zs.length) zs := by
 refine ⟨_, _, rfl, hwf, fun hp => ⟨g, 0, rfl, fun j hj => ?_⟩⟩
 rw [Nat.zero_add, h.cellAt j (by omega)]
 simp [List.getD, hj]
theorem iz {w : World} {base T : Nat} {v : Value} {zs : List Int} (hwf : ∀ z ∈ zs, (Lit.int .i64 z).wf = true)
  (h : w.ownsRow base T 1 v zs.length (zs.map (Value.int .i64))) : bh w v zs := by
 rcases h.2 with ⟨rfl, h0⟩ | ⟨g, cap, cur, rfl, _⟩
 ·
  have : zs = [] := List.eq_nil_of_length_eq_zero h0
  subst this
  exact ⟨none, 0, rfl, by simp, by simp⟩
 refine ⟨_, _, rfl, hwf, fun hp => ⟨g, 0, rfl, fun j hj => ?_⟩⟩
 rw [Nat.zero_add, h.cellAt j (by omega)]
 simp [List.getD, hj]
theorem kr {W : World} {base g : Nat} {T : TypeId} {x y z : Int} (hb : base ≤ W.heap.size) (hs : W.heap.size = g) :
  (W.alloc (.cells #[.int .i64 x, .int .i64 y, .int .i64 z] T)).ownsRow base T 1 (.slice (some ⟨g, 0, none⟩) 3 3) 3 ([x, y, z].map (Value.int .i64)) := by
 subst hs
 exact World.ownsRow_lit W _ 3 hb (by unfold maxLen; omega) rfl
theorem cY {z : Int} (h : -1000000000 ≤ z ∧ z ≤ 1000000000) : (Lit.int .i64 z).wf = true := WalkArith.wf_i64 (by omega)
theorem bh.wf {w : World} {v : Value} {zs : List Int} (h : bh w v zs) : ∀ z ∈ zs, (Lit.int .i64 z).wf = true := by
 obtain ⟨_, _, _, hwf, _⟩ := h
 exact hwf
theorem cM {w w' : World} {base T sz : Nat} {v : Value} {n : Nat} {xs : List Value} (h : w.ownsRow base T sz v n xs) (hb : Below w.heap.size w w') : w'.ownsRow base T sz v n xs := by
 refine ⟨h.1, ?_⟩
 rcases h.2 with h2 | ⟨g, cap, cur, hv, hg, hh, r⟩
 ·
  exact Or.inl h2
 exact Or.inr ⟨g, cap, cur, hv, hg, (hb.block g (lt_of_block hh)).trans hh, r⟩
theorem kD {w : World} {b b' T sz : Nat} {v : Value} {n : Nat} {xs : List Value} (hb : b' ≤ b) (h : w.ownsRow b T sz v n xs) : w.ownsRow b' T sz v n xs := by
 refine ⟨h.1, ?_⟩
 rcases h.2 with h2 | ⟨g, cap, cur, hv, hg, r⟩
 ·
  exact Or.inl h2
 exact Or.inr ⟨g, cap, cur, hv, by omega, r⟩
theorem j4 (zs : List Int) (k : Nat) (hk : k < zs.length) :
  ((zs.take k).map (Value.int .i64) ++ List.replicate (zs.length - k) (Value.int .i64 0)).set k (.int .i64 (zs.getD k 0)) = (zs.take (k + 1)).map (Value.int .i64) ++ List.replicate (zs.length - (k + 1)) (Value.int .i64 0) := by
 have hl : ((zs.take k).map (Value.int .i64)).length = k := by simp; omega
 rw [List.set_append_right _ _ (by omega), hl, Nat.sub_self]
 obtain ⟨m, hm⟩ : ∃ m, zs.length - k = m + 1 := ⟨zs.length - k - 1, by omega⟩
 rw [hm, show zs.length - (k + 1) = m by omega, List.replicate_succ, List.set_cons_zero, List.take_succ_eq_append_getElem hk, List.map_append, List.append_assoc]
 simp [List.getD, hk]
def ar (lo : Nat) (cs : Array Value) (T : TypeId) (W : World) (s : Nat) : Prop := lo ≤ s ∧ W.heap[s]? = some (.cells cs T (0, 0))
theorem ar.drew {lo : Nat} {cs : Array Value} {T : TypeId} {W : World} {s : Nat} (h : ar lo cs T W s) : ar lo cs T W.drew s := h
theorem ar.lt {lo : Nat} {cs : Array Value} {T : TypeId} {W : World} {s : Nat} (h : ar lo cs T W s) : s < W.heap.size := lt_of_block h.2
theorem aM {lo : Nat} {cs : Array Value} {T : TypeId} {W : World} (h : lo ≤ W.heap.size) : ar lo cs T (W.alloc (.cells cs T)) W.heap.size := ⟨h, heap_alloc_new W _⟩
theorem ar.au {lo : Nat} {cs : Array Value} {T : TypeId} {W w' : World} {s : Nat} (h : ar lo cs T W s) (hb : Below W.heap.size W w') : ar lo cs T w' s := ⟨h.1, (hb.block s h.lt).trans h.2⟩
theorem dO {w : World} {base e size : Nat} {v : Value} {n : Nat} {xs : List Value} {a : Addr} (h : w.ownsRow base e size v n xs) (ha : a.block < base) (u : Value) : (w.setCell a u).ownsRow base e size v n xs := by
 refine ⟨h.1, ?_⟩
 rcases h.2 with h2 | ⟨g, cap, cur, hv, hg, hh, r⟩
 ·
  exact Or.inl h2
 exact Or.inr ⟨g, cap, cur, hv, hg, (heap_setCell_other w a g u (by omega)).trans hh, r⟩
structure Ext (S : Nat → Prop) (w w' : World) : Prop where
 os : w'.os = w.os
 tape : w'.tape = w.tape
 output : w'.output = w.output
 size : w.heap.size ≤ w'.heap.size
 block : ∀ k, k < w.heap.size → ¬ S k → w'.heap[k]? = w.heap[k]?
def cT : Nat → Prop := fun _ => False
theorem Ext.refl (S : Nat → Prop) (w : World) : Ext S w w := ⟨rfl, rfl, rfl, Nat.le_refl _, fun _ _ _ => rfl⟩
theorem Ext.trans {S : Nat → Prop} {a b c : World} (h : Ext S a b) (k : Ext S b c) : Ext S a c :=
 ⟨k.os.trans h.os, k.tape.trans h.tape, k.output.trans h.output, Nat.le_trans h.size k.size, fun i hi hn => (k.block i (Nat.lt_of_lt_of_le hi h.size) hn).trans (h.block i hi hn)⟩
theorem Ext.mono {S S' : Nat → Prop} {a b : World} (h : Ext S a b) (hs : ∀ k, k < a.heap.size → S k → S' k) : Ext S' a b :=
 ⟨h.os, h.tape, h.output, h.size, fun i hi hn => h.block i hi fun hS => hn (hs i hi hS)⟩
theorem Ext.drew {S : Nat → Prop} {a b : World} (h : Ext S a b) (n : Nat) : Ext S a (b.drewN n) := ⟨h.os, h.tape, h.output, h.size, h.block⟩
theorem bf {w w' : World} (h : Below w.heap.size w w') (S : Nat → Prop) : Ext S w w' := ⟨h.os, h.tape, h.output, h.size, fun k hk _ => h.block k hk⟩
theorem Ext.below {S : Nat → Prop} {w w' : World} {B : Nat} (h : Ext S w w') (hB : B ≤ w.heap.size) (hs : ∀ k, k < B → ¬ S k) : Below B w w' :=
 ⟨h.os, h.tape, h.output, h.size, fun k hk => h.block k (by omega) (hs k hk)⟩
theorem Ext.setCell {S : Nat → Prop} {w w' : World} (h : Ext S w w') (a : Addr) (v : Value) (ha : S a.block) : Ext S w (w'.setCell a v) :=
 ⟨h.os, h.tape, h.output, by simpa using h.size, fun k hk hn => (heap_setCell_other w' a k v (fun e => hn (e ▸ ha))).trans (h.block k hk hn)⟩
theorem cell_of_heap {w w' : World} {b : Nat} (h : w'.heap[b]? = w.heap[b]?) (o : Nat) : w'.cell? ⟨b, o, none⟩ = w.cell? ⟨b, o, none⟩ := World.cell?_of_block (a := ⟨b, o, none⟩) h
theorem frozen_of_heap {w w' : World} {b : Nat} (h : w'.heap[b]? = w.heap[b]?) (o : Nat) : w'.frozen? ⟨b, o, none⟩ = w.frozen? ⟨b, o, none⟩ := World.frozen?_of_block (a := ⟨b, o, none⟩) h
structure ad (α : Type) where
 n : Nat
 bt : World → List Value → α → List Nat → Prop
 len : ∀ {w cs x bl}, bt w cs x bl → cs.length = n
 au : ∀ {w w' cs x bl}, bt w cs x bl → (∀ b ∈ bl, w'.heap[b]? = w.heap[b]?) → bt w' cs x bl
 lt : ∀ {w cs x bl}, bt w cs x bl → ∀ b ∈ bl, b < w.heap.size
 /-- How long all its lists are together. -/
 sz : α → Nat
 /-- How many marks an element takes, and a value (whose own cells are copies). -/
 gl : α → Nat
 gv : α → Nat
 /-- An element, a value, with the marks from k on. -/
 kI : Int → α → α
 ly : Int → α → α
def kC {α : Type} (gl : α → Nat) (mk : Int → α → α) : Int → List α → List α
 | _, [] => []
 | k, x :: xs => mk k x :: kC gl mk (k + gl x) xs
def aO {α : Type} (gl : α → Nat) : List α → Nat
 | [] => 0
 | x :: xs => gl x + aO gl xs
namespace ad
variable {α β γ : Type}
def int : ad Int where
 n := 1
 bt _ cs x bl := cs = [.int .i64 x] ∧ (Lit.int .i64 x).wf = true ∧ bl = []
 len := by rintro w cs x bl ⟨rfl, -, -⟩; rfl
 au := fun h _ => h
 lt := by rintro w cs x bl ⟨-, -, rfl⟩ b hb; cases hb
 sz _ := 0
 gl _ := 1
 gv _ := 0
 kI k _ := k
 ly _ x := x
def bool : ad Bool where
 n := 1
 bt _ cs x bl := cs = [.bool x] ∧ bl = []
 len := by rintro w cs x bl ⟨rfl, -⟩; rfl
 au := fun h _ => h
 lt := by rintro w cs x bl ⟨-, rfl⟩ b hb; cases hb
 sz _ := 0
 gl _ := 1
 gv _ := 0
 kI k _ := k.tmod 3 == 0
 ly _ x := x
def pair (A : ad α) (B : ad β) : ad (α × β) where
 n := A.n + B.n
 bt w cs x bl := ∃ c1 c2 b1 b2, cs = c1 ++ c2 ∧ bl = b1 ++ b2 ∧ A.bt w c1 x.1 b1 ∧ B.bt w c2 x.2 b2
 len := by
  rintro w cs x bl ⟨c1, c2, b1, b2, rfl, rfl, h1, h2⟩
  rw [List.length_append, A.len h1, B.len h2]
 au := by
  rintro w w' cs x bl ⟨c1, c2, b1, b2, rfl, rfl, h1, h2⟩ hk
  exact ⟨c1, c2, b1, b2, rfl, rfl, A.au h1 fun b hb => hk b (List.mem_append_left _ hb), B.au h2 fun b hb => hk b (List.mem_append_right _ hb)⟩
 lt := by
  rintro w cs x bl ⟨c1, c2, b1, b2, rfl, rfl, h1, h2⟩ b hb
  rcases List.mem_append.1 hb with h | h
  ·
   exact A.lt h1 b h
  exact B.lt h2 b h
 sz x := A.sz x.1 + B.sz x.2
 gl x := A.gl x.1 + B.gl x.2
 gv x := A.gv x.1 + B.gv x.2
 kI k x := (A.kI k x.1, B.kI (k + A.gl x.1) x.2)
 ly k x := (A.ly k x.1, B.ly (k + A.gv x.1) x.2)
def Rows (A : ad α) (w : World) (b off : Nat) (xs : List α) (rows : List (List Value)) (bls : List (List Nat)) : Prop :=
 rows.length = xs.length ∧ bls.length = xs.length ∧ ∀ j (h1 : j < xs.length) (h2 : j < rows.length) (h3 : j < bls.length),
  (∀ m, m < A.n → w.cell? ⟨b, off + j * A.n + m, none⟩ = rows[j][m]?) ∧ A.bt w rows[j] xs[j] bls[j]
def sl (A : ad α) : ad (List α) where
 n := 1
 bt w cs xs bl := ∃ ao cap, cs = [.slice ao xs.length cap] ∧ (xs.length ≤ cap ∧ xs.length ≤ 9223372036854775807) ∧ ((xs = [] ∧ bl = []) ∨
  ∃ b off rows bls, ao = some ⟨b, off, none⟩ ∧ b < w.heap.size ∧ bl = b :: bls.flatten ∧ A.Rows w b off xs rows bls)
 len := by rintro w cs x bl ⟨ao, cap, rfl, -⟩; rfl
 au := by
  rintro w w' cs xs bl ⟨ao, cap, rfl, hbig, h⟩ hk
  refine ⟨ao, cap, rfl, hbig, ?_⟩
  rcases h with h | ⟨b, off, rows, bls, rfl, hb, rfl, hr, hl, hj⟩
  ·
   exact Or.inl h
  have hbb := hk b (by simp)
  refine Or.inr ⟨b, off, rows, bls, rfl, ?_, rfl, hr, hl, fun j h1 h2 h3 => ⟨fun m hm => ?_, ?_⟩⟩
  ·
   have : w.heap[b]? ≠ none := by simp; exact hb
   rw [← hbb] at this
   simpa using this
  ·
   rw [cell_of_heap hbb]
   exact (hj j h1 h2 h3).1 m hm
  refine A.au (hj j h1 h2 h3).2 fun b' hb' => hk b' (List.mem_cons_of_mem _ (List.mem_flatten.2 ⟨bls[j], List.getElem_mem _, hb'⟩))
 lt := by
  rintro w cs xs bl ⟨ao, cap, rfl, -, h⟩ b hb
  rcases h with ⟨-, rfl⟩ | ⟨b0, off, rows, bls, rfl, hb0, rfl, hr, hl, hj⟩
  ·
   cases hb
  rcases List.mem_cons.1 hb with rfl | hb
  ·
   exact hb0
  obtain ⟨l, hl1, hl2⟩ := List.mem_flatten.1 hb
  obtain ⟨j, hjl, rfl⟩ := List.getElem_of_mem hl1
  exact A.lt (hj j (by omega) (by omega) hjl).2 b hl2
 sz xs := xs.length + aO A.sz xs
 gl xs := aO A.gl xs
 gv xs := aO A.gl xs
 kI k xs := kC A.gl A.kI k xs
 ly k xs := kC A.gl A.kI k xs
def via (A : ad α) (f : β → α) (g : α → β) : ad β where
 n := A.n
 bt w cs x bl := A.bt w cs (f x) bl
 len := A.len
 au := A.au
 lt := A.lt
 sz x := A.sz (f x)
 gl x := A.gl (f x)
 gv x := A.gv (f x)
 kI k x := g (A.kI k (f x))
 ly k x := g (A.ly k (f x))
def Reads (A : ad α) (w : World) (cs : List Value) (x : α) : Prop := ∃ bl, A.bt w cs x bl
def ca (A : ad α) (w : World) (cs : List Value) (x : α) (lo hi : Nat) : Prop := ∃ bl, A.bt w cs x bl ∧ ∀ b ∈ bl, lo ≤ b ∧ b < hi
def Own (A : ad α) (w : World) (cs : List Value) (x : α) (bl : List Nat) : Prop :=
 A.bt w cs x bl ∧ bl.Nodup ∧ ∀ b ∈ bl, ∀ o, w.frozen? ⟨b, o, none⟩ = false
def a0 (A : ad α) (w : World) (cs : List Value) (x : α) (lo hi : Nat) : Prop := ∃ bl, A.Own w cs x bl ∧ ∀ b ∈ bl, lo ≤ b ∧ b < hi
variable {A : ad α} {B : ad β} {w w' : World} {cs : List Value} {x : α} {lo hi : Nat}
theorem Reads.af (h : A.Reads w cs x) (hb : Below w.heap.size w w') : A.Reads w' cs x := by
 obtain ⟨bl, h⟩ := h
 exact ⟨bl, A.au h fun b hbl => hb.block b (A.lt h b hbl)⟩
theorem ca.reads (h : A.ca w cs x lo hi) : A.Reads w cs x := by obtain ⟨bl, h, -⟩ := h; exact ⟨bl, h⟩
theorem a0.bt (h : A.a0 w cs x lo hi) : A.ca w cs x lo hi := by obtain ⟨bl, ⟨h, -, -⟩, hl⟩ := h; exact ⟨bl, h, hl⟩
theorem a0.reads (h : A.a0 w cs x lo hi) : A.Reads w cs x := h.bt.reads
theorem Reads.cA (h : A.Reads w cs x) : A.ca w cs x 0 w.heap.size := by
 obtain ⟨bl, h⟩ := h
 exact ⟨bl, h, fun b hb => ⟨Nat.zero_le _, A.lt h b hb⟩⟩
theorem ca.mono {lo' hi' : Nat} (h : A.ca w cs x lo hi) (h1 : lo' ≤ lo) (h2 : hi ≤ hi') : A.ca w cs x lo' hi' := by
 obtain ⟨bl, h, hl⟩ := h
 exact ⟨bl, h, fun b hb => ⟨by have := hl b hb; omega, by have := hl b hb; omega⟩⟩
theorem a0.mono {lo' hi' : Nat} (h : A.a0 w cs x lo hi) (h1 : lo' ≤ lo) (h2 : hi ≤ hi') : A.a0 w cs x lo' hi' := by
 obtain ⟨bl, h, hl⟩ := h
 exact ⟨bl, h, fun b hb => ⟨by have := hl b hb; omega, by have := hl b hb; omega⟩⟩
theorem ca.ext {S : Nat → Prop} (h : A.ca w cs x lo hi) (e : Ext S w w') (hs : ∀ k, lo ≤ k → k < hi → ¬ S k) : A.ca w' cs x lo hi := by
 obtain ⟨bl, h, hl⟩ := h
 exact ⟨bl, A.au h fun b hb => e.block b (A.lt h b hb) (hs b (hl b hb).1 (hl b hb).2), hl⟩
theorem a0.ext {S : Nat → Prop} (h : A.a0 w cs x lo hi) (e : Ext S w w') (hs : ∀ k, lo ≤ k → k < hi → ¬ S k) : A.a0 w' cs x lo hi := by
 obtain ⟨bl, ⟨h, hn, hf⟩, hl⟩ := h
 have hk : ∀ b ∈ bl, w'.heap[b]? = w.heap[b]? := fun b hb => e.block b (A.lt h b hb) (hs b (hl b hb).1 (hl b hb).2)
 exact ⟨bl, ⟨A.au h hk, hn, fun b hb o => (frozen_of_heap (hk b hb) o).trans (hf b hb o)⟩, hl⟩
theorem ca.af (h : A.ca w cs x lo hi) (hb : Below w.heap.size w w') : A.ca w' cs x lo hi := h.ext (bf hb cT) fun _ _ _ h => h
theorem a0.af (h : A.a0 w cs x lo hi) (hb : Below w.heap.size w w') : A.a0 w' cs x lo hi := h.ext (bf hb cT) fun _ _ _ h => h
theorem Reads.drew (h : A.Reads w cs x) (n : Nat) : A.Reads (w.drewN n) cs x := h.af (bO (Below.refl _ _) n)
theorem Reads.len (h : A.Reads w cs x) : cs.length = A.n := by obtain ⟨bl, h⟩ := h; exact A.len h
theorem bd {v : Value} {zs : List Int} (h : (sl int).Reads w [v] zs) : bh w v zs := by
 obtain ⟨bl, ao, cap, hv, -, h⟩ := h
 obtain rfl : v = .slice ao zs.length cap := by simpa using hv
 rcases h with ⟨rfl, rfl⟩ | ⟨b, off, rows, bls, rfl, hb, rfl, hr, hl, hj⟩
 ·
  exact ⟨ao, cap, rfl, by simp, by simp⟩
 refine ⟨_, cap, rfl, fun z hz => ?_, fun _ => ⟨b, off, rfl, fun j hj1 => ?_⟩⟩
 ·
  obtain ⟨j, hjl, rfl⟩ := List.getElem_of_mem hz
  exact (hj j hjl (by omega) (by omega)).2.2.1
 obtain ⟨h1, h2, -, -⟩ := hj j hj1 (by omega) (by omega)
 have := h1 0 (by decide)
 rw [h2] at this
 simpa [List.getD, hj1, ad.int] using this
theorem cu {v : Value} {zs : List Int} {bl : List Nat} : (sl int).bt w [v] zs bl ↔ ∃ ao cap, v = .slice ao zs.length cap ∧ (zs.length ≤ cap ∧ zs.length ≤ 9223372036854775807) ∧ (∀ z ∈ zs, (Lit.int .i64 z).wf = true) ∧
  ((zs = [] ∧ bl = []) ∨ ∃ b off, ao = some ⟨b, off, none⟩ ∧ b < w.heap.size ∧ bl = [b] ∧ ∀ j, j < zs.length → w.cell? ⟨b, off + j, none⟩ = some (.int .i64 (zs.getD j 0))) := by
 constructor
 ·
  rintro ⟨ao, cap, hv, hbig, h⟩
  obtain rfl : v = .slice ao zs.length cap := by simpa using hv
  rcases h with ⟨rfl, rfl⟩ | ⟨b, off, rows, bls, rfl, hb, rfl, hr, hl, hj⟩
  ·
   exact ⟨ao, cap, rfl, hbig, by simp, Or.inl ⟨rfl, rfl⟩⟩
  refine ⟨_, cap, rfl, hbig, fun z hz => ?_, Or.inr ⟨b, off, rfl, hb, ?_, fun j hj1 => ?_⟩⟩
  ·
   obtain ⟨j, hjl, rfl⟩ := List.getElem_of_mem hz
   exact (hj j hjl (by omega) (by omega)).2.2.1
  ·
   have e2 : bls.flatten = [] := by
    rw [List.flatten_eq_nil_iff]
    intro l hl
    obtain ⟨j, hjl, rfl⟩ := List.getElem_of_mem hl
    exact (hj j (by omega) (by omega) hjl).2.2.2
   rw [e2]
  obtain ⟨h1, h2, -, -⟩ := hj j hj1 (by omega) (by omega)
  have := h1 0 (by decide)
  rw [h2] at this
  simpa [List.getD, hj1, ad.int] using this
 rintro ⟨ao, cap, rfl, hbig, hwf, h⟩
 refine ⟨ao, cap, rfl, hbig, ?_⟩
 rcases h with ⟨rfl, rfl⟩ | ⟨b, off, rfl, hb, rfl, hc⟩
 ·
  exact Or.inl ⟨rfl, rfl⟩
 refine Or.inr ⟨b, off, zs.map (fun z => [.int .i64 z]), List.replicate zs.length [], rfl, hb, by simp, by simp, by simp, fun j h1 h2 h3 => ⟨fun m hm => ?_, ?_⟩⟩
 ·
  obtain rfl : m = 0 := by simp only [ad.int] at hm; omega
  have := hc j h1
  simpa [List.getD, h1, ad.int] using this
 exact ⟨by simp, hwf _ (List.getElem_mem _), by simp⟩
theorem eL {v : Value} {zs : List Int} (h : bh w v zs) (hcap : ∀ ao cap, v = .slice ao zs.length cap → zs.length ≤ cap) (hbig : zs.length ≤ 9223372036854775807) : (sl int).Reads w [v] zs := by
 obtain ⟨ao, cap, rfl, hwf, hc⟩ := h
 have hcp := hcap _ _ rfl
 by_cases hp : 0 < zs.length
 ·
  obtain ⟨b, off, rfl, hc1⟩ := hc hp
  exact ⟨[b], cu.2 ⟨_, cap, rfl, ⟨hcp, hbig⟩, hwf, Or.inr ⟨b, off, rfl, World.block_lt_of_cell? _ _ (hc1 0 hp), rfl, hc1⟩⟩⟩
 obtain rfl : zs = [] := List.eq_nil_of_length_eq_zero (by omega)
 exact ⟨[], cu.2 ⟨ao, cap, rfl, ⟨hcp, hbig⟩, by simp, Or.inl ⟨rfl, rfl⟩⟩⟩
theorem Reads.cap {A : ad α} {ao : Option Addr} {n cap : Nat} {xs : List α} (h : (sl A).Reads w [.slice ao n cap] xs) : n = xs.length ∧ n ≤ cap := by
 obtain ⟨bl, ao', cap', e, hb, -⟩ := h
 simp only [List.cons.injEq, Value.slice.injEq, and_true] at e
 obtain ⟨-, rfl, rfl⟩ := e
 exact ⟨rfl, hb.1⟩
theorem Reads.cK {A : ad α} {v : Value} {xs : List α} (h : (sl A).Reads w [v] xs) : xs.length ≤ 9223372036854775807 := by
 obtain ⟨bl, ao, cap, -, hb, -⟩ := h
 exact hb.2
theorem jk {v : Value} {zs : List Int} {base T : Nat} (hwf : ∀ z ∈ zs, (Lit.int .i64 z).wf = true) (hbig : zs.length ≤ 9223372036854775807) (h : w.ownsRow base T 1 v zs.length (zs.map (Value.int .i64))) : (sl int).a0 w [v] zs base w.heap.size := by
 have hi := iz hwf h
 rcases h.2 with ⟨rfl, h0⟩ | ⟨g, cap, cur, rfl, hg, hh, hcap, _⟩
 ·
  obtain rfl : zs = [] := List.eq_nil_of_length_eq_zero h0
  exact ⟨[], ⟨cu.2 ⟨none, 0, rfl, ⟨by simp, hbig⟩, by simp, Or.inl ⟨rfl, rfl⟩⟩, by simp, by simp⟩, by simp⟩
 by_cases hp : 0 < zs.length
 ·
  obtain ⟨ao, cp, hv, hwf, hc⟩ := hi
  obtain ⟨b, off, rfl, hc1⟩ := hc hp
  simp only [Value.slice.injEq, Option.some.injEq, Addr.mk.injEq, and_true, true_and] at hv
  obtain ⟨⟨rfl, rfl⟩, rfl⟩ := hv
  refine ⟨[g], ⟨cu.2 ⟨_, cap, rfl, ⟨hcap, hbig⟩, hwf, Or.inr ⟨g, 0, rfl, lt_of_block hh, rfl, hc1⟩⟩, by simp, ?_⟩, ?_⟩
  ·
   intro b hb o
   obtain rfl : b = g := by simpa using hb
   simp [World.frozen?, hh]
  intro b hb
  obtain rfl : b = g := by simpa using hb
  exact ⟨hg, lt_of_block hh⟩
 obtain rfl : zs = [] := List.eq_nil_of_length_eq_zero (by omega)
 exact ⟨[], ⟨cu.2 ⟨_, _, rfl, ⟨hcap, hbig⟩, by simp, Or.inl ⟨rfl, rfl⟩⟩, by simp, by simp⟩, by simp⟩
end ad
theorem ar.at {lo : Nat} {cs : Array Value} {T : TypeId} {W : World} {s : Nat} (h : ar lo cs T W s) (i : Nat) (v : Value) (hi : cs[i]? = some v) : W.cell? ⟨s, i, none⟩ = some v := by
 simp [World.cell?, h.2, hi]
theorem ar.soft {lo : Nat} {cs : Array Value} {T : TypeId} {W : World} {s : Nat} (h : ar lo cs T W s) : ∀ o, W.frozen? ⟨s, o, none⟩ = false := fun o => by simp [World.frozen?, h.2]
theorem ar.ext {S : Nat → Prop} {lo : Nat} {cs : Array Value} {T : TypeId} {W w' : World} {s : Nat} (h : ar lo cs T W s) (e : Ext S W w') (hs : ¬ S s) : ar lo cs T w' s := ⟨h.1, (e.block s h.lt hs).trans h.2⟩
theorem ar.grow {lo : Nat} {cs : Array Value} {T : TypeId} {W : World} {s : Nat} (h : ar lo cs T W s) (o : Obj) : ar lo cs T (W.alloc o) s := h.au ((Below.refl _ _).alloc (Nat.le_refl _) o)
theorem aX {lo s : Nat} {cs : Array Value} {T : TypeId} {W : World} (h : lo ≤ s) (hs : W.heap.size = s) : ar lo cs T (W.alloc (.cells cs T)) s := by subst hs; exact aM h
theorem ar.set {lo : Nat} {cs : Array Value} {T : TypeId} {W : World} {s : Nat} (h : ar lo cs T W s) (i : Nat) (v : Value) : ar lo (cs.setIfInBounds i v) T (W.setCell ⟨s, i, none⟩ v) s := by
 refine ⟨h.1, ?_⟩
 simp [World.setCell, Array.getElem?_modify, h.2]
def bg (W : World) (s : Nat) : Nat → List Value → World
 | _, [] => W
 | i, v :: vs => bg (W.setCell ⟨s, i, none⟩ v) s (i + 1) vs
theorem cy (S : Nat → Prop) {a W : World} (h : Ext S a W) (s i : Nat) (vs : List Value) (hs : S s) : Ext S a (bg W s i vs) := by
 induction vs generalizing W i with
 | nil => exact h
 | cons v vs ih => exact ih (h.setCell ⟨s, i, none⟩ v hs) (i + 1)
theorem bD {B : Nat} {a W : World} (h : Below B a W) (s i : Nat) (vs : List Value) (hs : B ≤ s) : Below B a (bg W s i vs) := by
 induction vs generalizing W i with
 | nil => exact h
 | cons v vs ih => exact ih (h.setCell (by simpa using hs) v) (i + 1)
theorem cl (W : World) (s i : Nat) (vs : List Value) : (bg W s i vs).heap.size = W.heap.size := by
 induction vs generalizing W i with
 | nil => rfl
 | cons v vs ih => rw [bg, ih]; simp
def ml (W : World) (s : Nat) : List (Nat × Value) → World
 | [] => W
 | p :: ps => ml (W.setCell ⟨s, p.1, none⟩ p.2) s ps
theorem bp {S : Nat → Prop} {a W : World} (h : Ext S a W) (s : Nat) (ps : List (Nat × Value)) (hs : S s) : Ext S a (ml W s ps) := by
 induction ps generalizing W with
 | nil => exact h
 | cons p ps ih => exact ih (h.setCell ⟨s, p.1, none⟩ p.2 hs)
theorem aB {α : Type} {A : ad α} {w : World} {v : Value} {xs : List α} (h : (ad.sl A).Reads w [v] xs) : ∃ ao cap, v = .slice ao xs.length cap := by
 obtain ⟨bl, ao, cap, e, -⟩ := h
 exact ⟨ao, cap, by simpa using e⟩
def gD (l n : Nat) : Int := if n ≤ l then ((l - n : Nat) : Int) else -1
theorem bb {l n : Nat} (h : n ≤ l) : gD l n = ((l - n : Nat) : Int) := if_pos h
theorem aE {l n : Nat} (h : l < n) : gD l n = -1 := if_neg (by omega)
namespace ad
variable {α β : Type} {A : ad α} {B : ad β} {w w' : World}
theorem aK {z : Int} {lo hi : Nat} (h : (Lit.int .i64 z).wf = true) : ad.int.a0 w [.int .i64 z] z lo hi := ⟨[], ⟨⟨rfl, h, rfl⟩, by simp, by simp⟩, by simp⟩
theorem iZ {b : Bool} {lo hi : Nat} : ad.bool.a0 w [.bool b] b lo hi := ⟨[], ⟨⟨rfl, rfl⟩, by simp, by simp⟩, by simp⟩
theorem az {c1 c2 : List Value} {x : α} {y : β} {lo m m' hi : Nat} (h : A.a0 w c1 x lo m) (k : B.a0 w c2 y m' hi) (hm : m ≤ m') (hlo : lo ≤ m') (hhi : m ≤ hi) : (ad.pair A B).a0 w (c1 ++ c2) (x, y) lo hi := by
 obtain ⟨b1, ⟨l1, n1, f1⟩, i1⟩ := h
 obtain ⟨b2, ⟨l2, n2, f2⟩, i2⟩ := k
 refine ⟨b1 ++ b2, ⟨⟨c1, c2, b1, b2, rfl, rfl, l1, l2⟩, ?_, ?_⟩, ?_⟩
 ·
  rw [List.nodup_append]
  exact ⟨n1, n2, fun a ha b hb e => by have := i1 a ha; have := i2 b hb; omega⟩
 ·
  intro b hb
  rcases List.mem_append.1 hb with h | h
  ·
   exact f1 b h
  exact f2 b h
 intro b hb
 rcases List.mem_append.1 hb with h | h
 ·
  have := i1 b h; omega
 have := i2 b h; omega
theorem dk {w : World} {cs : List Value} {x : α} {lo hi : Nat} (own : A.a0 w' cs x lo hi) (hlo : w.heap.size ≤ lo) (hhi : hi ≤ w'.heap.size) (hb : Below w.heap.size w w') :
  ∃ cs', Ending.returned (.agg cs.toArray) = .returned (.agg cs'.toArray) ∧ A.a0 w' cs' x w.heap.size w'.heap.size ∧ Below w.heap.size w w' := ⟨cs, rfl, own.mono hlo hhi, hb⟩
def eI (A : ad α) (w : World) (rows : List (List Value)) (xs : List α) (lo hi : Nat) : Prop :=
 ∃ bls : List (List Nat), rows.length = xs.length ∧ bls.length = xs.length ∧ (∀ j (h1 : j < xs.length) (h2 : j < rows.length) (h3 : j < bls.length), A.bt w rows[j] xs[j] bls[j]) ∧
  bls.flatten.Nodup ∧ (∀ b ∈ bls.flatten, lo ≤ b ∧ b < hi) ∧ ∀ b ∈ bls.flatten, ∀ o, w.frozen? ⟨b, o, none⟩ = false
theorem de {lo hi : Nat} : eI A w [] [] lo hi := ⟨[], rfl, rfl, fun j h => by simp at h, by simp, by simp, by simp⟩
theorem cO {rows : List (List Value)} {xs : List α} {row : List Value} {x : α} {lo hi lo' hi' : Nat} (h : eI A w rows xs lo hi) (k : A.a0 w row x lo' hi') (h1 : hi ≤ lo') (h2 : lo ≤ lo') (h3 : hi ≤ hi') : eI A w (rows ++ [row]) (xs ++ [x]) lo hi' := by
 obtain ⟨bls, hr, hb, hl, hn, hi, hf⟩ := h
 obtain ⟨bl, ⟨l, n, f⟩, i⟩ := k
 refine ⟨bls ++ [bl], by simp [hr], by simp [hb], fun j j1 j2 j3 => ?_, ?_, ?_, ?_⟩
 ·
  by_cases hj : j < xs.length
  ·
   have e := hl j hj (by omega) (by omega)
   rw [List.getElem_append_left (by omega), List.getElem_append_left hj, List.getElem_append_left (by omega)]
   exact e
  obtain rfl : j = xs.length := by simp at j1; omega
  rw [List.getElem_append_right (by omega), List.getElem_append_right (by omega), List.getElem_append_right (by omega)]
  simpa using l
 ·
  rw [List.flatten_append, List.nodup_append]
  refine ⟨hn, by simpa using n, fun a ha b hb e => ?_⟩
  have := hi a ha
  have := i b (by simpa using hb)
  omega
 ·
  intro b hb
  rw [List.flatten_append] at hb
  rcases List.mem_append.1 hb with h | h
  ·
   have := hi b h; omega
  have := i b (by simpa using h); omega
 intro b hb
 rw [List.flatten_append] at hb
 rcases List.mem_append.1 hb with h | h
 ·
  exact hf b h
 exact f b (by simpa using h)
theorem bY {rows : List (List Value)} {xs : List α} {lo hi : Nat} {S : Nat → Prop} (h : eI A w rows xs lo hi) (e : Ext S w w') (hs : ∀ k, lo ≤ k → k < hi → ¬ S k) : eI A w' rows xs lo hi := by
 obtain ⟨bls, hr, hb, hl, hn, hi, hf⟩ := h
 have hlt : ∀ b ∈ bls.flatten, b < w.heap.size := by
  intro b hm
  obtain ⟨l, h1, h2⟩ := List.mem_flatten.1 hm
  obtain ⟨j, hj, rfl⟩ := List.getElem_of_mem h1
  exact A.lt (hl j (by omega) (by omega) hj) b h2
 have hk : ∀ b ∈ bls.flatten, w'.heap[b]? = w.heap[b]? := fun b hm => e.block b (hlt b hm) (hs b (hi b hm).1 (hi b hm).2)
 exact ⟨bls, hr, hb, fun j h1 h2 h3 => A.au (hl j h1 h2 h3) fun b hm => hk b (List.mem_flatten.2 ⟨_, List.getElem_mem _, hm⟩), hn, hi, fun b hm o => (frozen_of_heap (hk b hm) o).trans (hf b hm o)⟩
theorem db {rows : List (List Value)} {xs : List α} {lo hi : Nat} (h : eI A w rows xs lo hi) : rows.flatten.length = xs.length * A.n ∧ rows.length = xs.length := by
 obtain ⟨bls, hr, hb, hl, -⟩ := h
 refine ⟨?_, hr⟩
 rw [← hr]
 have : ∀ r ∈ rows, r.length = A.n := by
  intro r hm
  obtain ⟨j, hj, rfl⟩ := List.getElem_of_mem hm
  exact A.len (hl j (by omega) hj (by omega))
 clear hr hb hl
 induction rows with
 | nil => simp
 | cons r rows ih =>
  rw [List.flatten_cons, List.length_append, this r (by simp), ih fun q hq => this q (List.mem_cons_of_mem _ hq), List.length_cons, Nat.add_mul]
  omega
theorem kJ {rows : List (List Value)} {n : Nat} (h : ∀ r ∈ rows, r.length = n) (j m : Nat) (hj : j < rows.length) (hm : m < n) : rows.flatten[j * n + m]? = rows[j][m]? := by
 induction rows generalizing j with
 | nil => simp at hj
 | cons r rows ih =>
  have hr := h r (by simp)
  rw [List.flatten_cons]
  match j with
  | 0 =>
   rw [List.getElem?_append_left (by omega)]
   simp
  | j + 1 =>
   rw [List.getElem?_append_right (by rw [hr, Nat.add_mul]; omega), hr, show (j + 1) * n + m - n = j * n + m by rw [Nat.add_mul]; omega]
   rw [ih (fun q hq => h q (List.mem_cons_of_mem _ hq)) j (by simpa using hj)]
   simp
theorem cL {rows : List (List Value)} {xs : List α} {base T g cap lo hi : Nat} (hown : w.ownsRow base T A.n (.slice (some ⟨g, 0, none⟩) xs.length cap) xs.length rows.flatten) (h : eI A w rows xs lo hi) (hg : g < lo) (hhi : hi ≤ w.heap.size) (hn : xs.length ≤ 9223372036854775807) :
  (sl A).a0 w [.slice (some ⟨g, 0, none⟩) xs.length cap] xs base w.heap.size := by
 obtain ⟨bls, hr, hb, hl, hnd, hi', hf⟩ := h
 have hlg := hown.lt g rfl
 have hle : ∀ r ∈ rows, r.length = A.n := by
  intro r hm
  obtain ⟨j, hj, rfl⟩ := List.getElem_of_mem hm
  exact A.len (hl j (by omega) hj (by omega))
 have hcap : xs.length ≤ cap := by
  rcases hown.2 with ⟨e, -⟩ | ⟨g', cap', cur, e, -, -, hc, -⟩
  ·
   simp at e
  simp only [Value.slice.injEq] at e
  obtain ⟨-, -, rfl⟩ := e
  exact hc
 by_cases h0 : xs = []
 ·
  subst h0
  exact ⟨[], ⟨⟨_, _, rfl, ⟨hcap, hn⟩, Or.inl ⟨rfl, rfl⟩⟩, by simp, by simp⟩, by simp⟩
 refine ⟨g :: bls.flatten, ⟨⟨_, _, rfl, ⟨hcap, hn⟩, Or.inr ⟨g, 0, rows, bls, rfl, hlg.2, rfl, hr, hb, fun j h1 h2 h3 => ⟨fun m hm => ?_, hl j h1 h2 h3⟩⟩⟩, ?_, ?_⟩, ?_⟩
 ·
  rw [Nat.zero_add, hown.cellAt (j * A.n + m) (by
   have : (j + 1) * A.n ≤ xs.length * A.n := Nat.mul_le_mul_right _ (by omega)
   rw [Nat.add_mul] at this
   omega)]
  exact kJ hle j m h2 hm
 ·
  rw [List.nodup_cons]
  exact ⟨fun hm => by have := hi' g hm; omega, hnd⟩
 ·
  intro b hm o
  rcases List.mem_cons.1 hm with rfl | hm
  ·
   exact hown.frozenAt o
  exact hf b hm o
 intro b hm
 rcases List.mem_cons.1 hm with rfl | hm
 ·
  exact hlg
 have := hi' b hm; omega
theorem aR {xs : List α} {b off cap k : Nat} (h : (sl A).Reads w [.slice (some ⟨b, off, none⟩) xs.length cap] xs) (hk : k < xs.length) : ∃ row, (∀ m, m < A.n → w.cell? ⟨b, off + k * A.n + m, none⟩ = row[m]?) ∧ A.Reads w row xs[k] := by
 obtain ⟨bl, ao, cp, e, -, h⟩ := h
 simp only [List.cons.injEq, Value.slice.injEq, and_true] at e
 obtain ⟨rfl, -, rfl⟩ := e
 rcases h with ⟨rfl, -⟩ | ⟨b', off', rows, bls, e2, hb, rfl, hr, hl, hj⟩
 ·
  simp at hk
 simp only [Option.some.injEq, Addr.mk.injEq, and_true] at e2
 obtain ⟨rfl, rfl⟩ := e2
 exact ⟨_, (hj k hk (by omega) (by omega)).1, ⟨_, (hj k hk (by omega) (by omega)).2⟩⟩
theorem aD {xs : List α} {ao : Option Addr} {n cap : Nat} (h : (sl A).Reads w [.slice ao n cap] xs) (hp : 0 < xs.length) : ∃ b off, ao = some ⟨b, off, none⟩ ∧ b < w.heap.size := by
 obtain ⟨bl, ao', cp, e, -, h⟩ := h
 simp only [List.cons.injEq, Value.slice.injEq, and_true] at e
 obtain ⟨rfl, -, rfl⟩ := e
 rcases h with ⟨rfl, -⟩ | ⟨b', off', rows, bls, e2, hb, rfl, hr, hl, hj⟩
 ·
  simp at hp
 exact ⟨b', off', e2, hb⟩
theorem dV {xs : List α} {k : Nat} (hk : k < xs.length) : A.sz xs[k] ≤ (sl A).sz xs := by
 show A.sz xs[k] ≤ xs.length + aO A.sz xs
 have : A.sz xs[k] ≤ aO A.sz xs := by
  induction xs generalizing k with
  | nil => simp at hk
  | cons x xs ih =>
   match k with
   | 0 => simp [aO]
   | k + 1 =>
    have := ih (k := k) (by simpa using hk)
    simp only [aO, List.getElem_cons_succ]
    omega
 omega
theorem fp {xs : List α} : xs.length ≤ (sl A).sz xs := Nat.le_add_right _ _
theorem cD {f : α → Nat} {xs : List α} {k : Nat} (hk : k < xs.length) : aO f (xs.take (k + 1)) = aO f (xs.take k) + f xs[k] := by
 induction xs generalizing k with
 | nil => simp at hk
 | cons x xs ih =>
  match k with
  | 0 => simp [aO]
  | k + 1 =>
   have := ih (k := k) (by simpa using hk)
   simp only [List.take_succ_cons, aO, List.getElem_cons_succ]
   omega
theorem cd {f : α → Nat} {xs : List α} {k : Nat} : aO f (xs.take k) ≤ aO f xs := by
 induction xs generalizing k with
 | nil => simp
 | cons x xs ih =>
  match k with
  | 0 => simp [aO]
  | k + 1 =>
   have := ih (k := k)
   simp only [List.take_succ_cons, aO]
   omega
end ad
def setFrom (xs : List Value) : Nat → List Value → List Value
 | _, [] => xs
 | i, v :: vs => setFrom (xs.set i v) (i + 1) vs
theorem cq (P Q vs : List Value) (h : vs.length ≤ Q.length) : setFrom (P ++ Q) P.length vs = P ++ vs ++ Q.drop vs.length := by
 induction vs generalizing P Q with
 | nil => simp [setFrom]
 | cons v vs ih =>
  match Q, h with
  | q :: Q, h =>
   rw [setFrom, List.set_append_right _ _ (Nat.le_refl _), Nat.sub_self, List.set_cons_zero]
   have := ih (P ++ [v]) Q (by simpa using h)
   simp only [List.length_append, List.length_cons, List.length_nil, Nat.zero_add] at this
   rw [show P ++ v :: Q = P ++ [v] ++ Q by simp, this]
   simp
theorem cz {w : World} {base e size g n cap : Nat} {xs : List Value} (h : w.ownsRow base e size (.slice (some ⟨g, 0, none⟩) n cap) n xs) (i : Nat) (vs : List Value) : (bg w g i vs).ownsRow base e size (.slice (some ⟨g, 0, none⟩) n cap) n (setFrom xs i vs) := by
 induction vs generalizing w i xs with
 | nil => exact h
 | cons v vs ih => exact ih (h.stored i v).1 (i + 1)
namespace ad
variable {α : Type} {A : ad α} {w : World}
end ad
structure dy {α : Type} (A : ad α) (w : World) (base T : Nat) (v : Value) (rows : List (List Value)) (xs : List α) (bls : List (List Nat)) : Prop where
 own : w.ownsRow base T A.n v xs.length rows.flatten
 gg : rows.length = xs.length
 iU : bls.length = xs.length
 bt : ∀ j (h1 : j < xs.length) (h2 : j < rows.length) (h3 : j < bls.length), A.bt w rows[j] xs[j] bls[j]
 off : ∀ b ∈ bls.flatten, v.ownBlock ≠ some b
namespace dy
variable {α : Type} {A : ad α} {w w' : World} {base T : Nat} {v : Value} {rows : List (List Value)} {xs : List α} {bls : List (List Nat)}
theorem nil (h : w.ownsRow base T A.n v 0 []) : dy A w base T v [] [] [] := ⟨h, rfl, rfl, fun j h1 => by simp at h1, by simp⟩
theorem sub_lt (h : dy A w base T v rows xs bls) : ∀ b ∈ bls.flatten, b < w.heap.size := by
 intro b hb
 obtain ⟨l, h1, h2⟩ := List.mem_flatten.1 hb
 obtain ⟨j, hj, rfl⟩ := List.getElem_of_mem h1
 exact A.lt (h.bt j (by have := h.iU; omega) (by have := h.iU; have := h.gg; omega) hj) b h2
theorem kept (h : dy A w base T v rows xs bls) (ho : w'.ownsRow base T A.n v xs.length rows.flatten) (hk : ∀ b ∈ bls.flatten, w'.heap[b]? = w.heap[b]?) : dy A w' base T v rows xs bls :=
 ⟨ho, h.gg, h.iU, fun j h1 h2 h3 => A.au (h.bt j h1 h2 h3) fun b hb => hk b (List.mem_flatten.2 ⟨_, List.getElem_mem _, hb⟩), h.off⟩
theorem snoc (h : dy A w base T v rows xs bls) {row : List Value} {x : α} {bl : List Nat} (hl : A.bt w row x bl) (hb : ∀ b ∈ bl, v.ownBlock ≠ some b) {g cap : Nat}
  (ho : w'.ownsRow base T A.n (.slice (some ⟨g, 0, none⟩) (xs.length + 1) cap) (xs.length + 1) (rows.flatten ++ row)) (hg : w.grownBy w' v.ownBlock) (hor : v.ownBlock = some g ∨ w.heap.size ≤ g) :
  dy A w' base T (.slice (some ⟨g, 0, none⟩) (xs.length + 1) cap) (rows ++ [row]) (xs ++ [x]) (bls ++ [bl]) := by
 have hlt := h.sub_lt
 have hbl := A.lt hl
 have hk : ∀ b ∈ bls.flatten, w'.heap[b]? = w.heap[b]? := fun b hm => hg.block b (hlt b hm) (fun e => h.off b hm e.symm)
 have hk2 : ∀ b ∈ bl, w'.heap[b]? = w.heap[b]? := fun b hm => hg.block b (hbl b hm) (fun e => hb b hm e.symm)
 refine ⟨by simpa using ho, by simp [h.gg], by simp [h.iU], fun j h1 h2 h3 => ?_, ?_⟩
 ·
  by_cases hj : j < xs.length
  ·
   have e := h.bt j hj (by have := h.gg; omega) (by have := h.iU; omega)
   rw [List.getElem_append_left (by have := h.gg; omega), List.getElem_append_left hj, List.getElem_append_left (by have := h.iU; omega)]
   exact A.au e fun b hm => hk b (List.mem_flatten.2 ⟨_, List.getElem_mem _, hm⟩)
  obtain rfl : j = xs.length := by simp at h1; omega
  rw [List.getElem_append_right (by have := h.gg; omega), List.getElem_append_right (by omega), List.getElem_append_right (by have := h.iU; omega)]
  simpa using A.au hl hk2
 intro b hm e
 have e1 : b = g := by simpa [Value.ownBlock] using e.symm
 rw [List.flatten_append] at hm
 rcases hor with ho1 | ho1
 ·
  rcases List.mem_append.1 hm with hm | hm
  ·
   exact h.off b hm (by rw [ho1, e1])
  exact hb b (by simpa using hm) (by rw [ho1, e1])
 rcases List.mem_append.1 hm with hm | hm
 ·
  have := hlt b hm; omega
 have := hbl b (by simpa using hm); omega
end dy
structure bc where
 ab : Int
 ids : List Int
def ad.aZ : ad bc := ad.via (ad.pair ad.int (ad.sl ad.int)) (fun x => (x.ab, x.ids)) (fun p => ⟨p.1, p.2⟩)
theorem cx {w : World} {cs : List Value} {x : bc} {bl : List Nat} : ad.aZ.bt w cs x bl ↔ ∃ (a1 : Option Addr) (d1 : Nat) (b1 : List Nat), cs = [.int .i64 x.ab, .slice a1 x.ids.length d1] ∧ bl = b1 ∧ (Lit.int .i64 x.ab).wf = true ∧ (ad.sl ad.int).bt w [.slice a1 x.ids.length d1] x.ids b1 := by
 constructor
 ·
  intro h
  obtain ⟨c0_, r0_, e0_, s0_, rfl, rfl, h0, h1⟩ := h
  obtain ⟨rfl, w0, rfl⟩ := h0
  have k1 := h1
  obtain ⟨a1, d1, rfl, -⟩ := k1
  exact ⟨a1, d1, s0_, by simp, by simp, w0, h1⟩
 rintro ⟨a1, d1, b1, rfl, hbl, w0, l1⟩
 rw [hbl]
 exact ⟨[.int .i64 x.ab], [.slice a1 x.ids.length d1], [], b1, rfl, by simp, ⟨rfl, w0, rfl⟩, l1⟩
theorem ba {w : World} {cs : List Value} {x : bc} (h : ad.aZ.Reads w cs x) : ∃ (a1 : Option Addr) (d1 : Nat), cs = [.int .i64 x.ab, .slice a1 x.ids.length d1] ∧ (ad.sl ad.int).Reads w [.slice a1 x.ids.length d1] x.ids := by
 obtain ⟨bl, h⟩ := h
 obtain ⟨a1, d1, b1, rfl, -, w0, l1⟩ := cx.1 h
 exact ⟨a1, d1, rfl, ⟨_, l1⟩⟩
end Go.Proofs.YtecagllmonckgaaGreat

namespace Go.Proofs.YtecagllmonckgaaGreat
def ck (z : Int) : Bool := decide (-1000 ≤ z) && decide (z ≤ 1000)
def aL (zs : List Int) : Int := if zs.length = 3 then (if zs.all ck then 0 else 3) else 1
theorem dW {zs : List Int} (h : zs.length ≠ 3) : aL zs = 1 := by simp [aL, h]
theorem dT {zs : List Int} (h : zs.length = 3) (k : Nat) (hk : k < 3) (hb : ck (zs.getD k 0) = false) : aL zs = 3 := by
 have : zs.all ck = false := by
  rw [List.all_eq_false]
  exact ⟨zs.getD k 0, by simp [List.getD, show k < zs.length by omega], by rw [hb]; simp⟩
 simp [aL, h, this]
theorem ei {zs : List Int} (h : zs.length = 3) (hg : ∀ j, j < 3 → ck (zs.getD j 0) = true) : aL zs = 0 := by
 have : zs.all ck = true := by
  rw [List.all_eq_true]
  intro x hx
  obtain ⟨j, hj, rfl⟩ := List.mem_iff_getElem.1 hx
  have := hg j (by omega)
  simpa [List.getD, hj] using this
 simp [aL, h, this]
theorem dD {z : Int} (h : ck z = true) : -1000 ≤ z ∧ z ≤ 1000 := by simpa [ck] using h
theorem eg {z : Int} (h : ck z = false) : z < -1000 ∨ 1000 < z := by
 simp [ck] at h
 omega
theorem dA {zs : List Int} (h : aL zs = 0) : zs.length = 3 ∧ ∀ j, j < 3 → -1000 ≤ zs.getD j 0 ∧ zs.getD j 0 ≤ 1000 := by
 unfold aL at h
 split at h
 ·
  next hl =>
  refine ⟨hl, fun j hj => ?_⟩
  split at h
  ·
   next ha =>
   rw [List.all_eq_true] at ha
   exact dD (ha _ (by simp [List.getD, show j < zs.length by omega]))
  simp at h
 simp at h
end Go.Proofs.YtecagllmonckgaaGreat
namespace Go.Proofs.YtecagllmonckgaaGreat
open Go.RowKit
structure ak where
 kind : Int
 id : Int
 vec : List Int
 aa : Int
 seq : Int
def ad.ag : ad ak := ad.via (ad.pair ad.int (ad.pair ad.int (ad.pair (ad.sl ad.int) (ad.pair ad.int ad.int)))) (fun x => (x.kind, x.id, x.vec, x.aa, x.seq)) (fun p => ⟨p.1, p.2.1, p.2.2.1, p.2.2.2.1, p.2.2.2.2⟩)
theorem bN {w : World} {cs : List Value} {x : ak} {bl : List Nat} : ad.ag.bt w cs x bl ↔ ∃ (a2 : Option Addr) (d2 : Nat) (b2 : List Nat), cs = [.int .i64 x.kind, .int .i64 x.id, .slice a2 x.vec.length d2, .int .i64 x.aa, .int .i64 x.seq] ∧ bl = b2 ∧ (Lit.int .i64 x.kind).wf = true ∧ (Lit.int .i64 x.id).wf = true ∧ (ad.sl ad.int).bt w [.slice a2 x.vec.length d2] x.vec b2 ∧ (Lit.int .i64 x.aa).wf = true ∧ (Lit.int .i64 x.seq).wf = true := by
 constructor
 ·
  intro h
  obtain ⟨c0_, r0_, e0_, s0_, rfl, rfl, h0, ⟨c1_, r1_, e1_, s1_, rfl, rfl, h1, ⟨c2_, r2_, e2_, s2_, rfl, rfl, h2, ⟨c3_, r3_, e3_, s3_, rfl, rfl, h3, h4⟩⟩⟩⟩ := h
  obtain ⟨rfl, w0, rfl⟩ := h0
  obtain ⟨rfl, w1, rfl⟩ := h1
  have k2 := h2
  obtain ⟨a2, d2, rfl, -⟩ := k2
  obtain ⟨rfl, w3, rfl⟩ := h3
  obtain ⟨rfl, w4, rfl⟩ := h4
  exact ⟨a2, d2, e2_, by simp, by simp, w0, w1, h2, w3, w4⟩
 rintro ⟨a2, d2, b2, rfl, hbl, w0, w1, l2, w3, w4⟩
 rw [hbl]
 exact ⟨[.int .i64 x.kind], [.int .i64 x.id] ++ ([.slice a2 x.vec.length d2] ++ ([.int .i64 x.aa] ++ [.int .i64 x.seq])), [], [] ++ (b2 ++ ([] ++ ([]))), rfl, by simp, ⟨rfl, w0, rfl⟩, ⟨[.int .i64 x.id], [.slice a2 x.vec.length d2] ++ ([.int .i64 x.aa] ++ [.int .i64 x.seq]), [], b2 ++ ([] ++ ([])), rfl, by simp, ⟨rfl, w1, rfl⟩, ⟨[.slice a2 x.vec.length d2], [.int .i64 x.aa] ++ [.int .i64 x.seq], b2, [] ++ ([]), rfl, by simp, l2, ⟨[.int .i64 x.aa], [.int .i64 x.seq], [], [], rfl, by simp, ⟨rfl, w3, rfl⟩, ⟨rfl, w4, rfl⟩⟩⟩⟩⟩
theorem aI {w : World} {cs : List Value} {x : ak} (h : ad.ag.Reads w cs x) : ∃ (a2 : Option Addr) (d2 : Nat), cs = [.int .i64 x.kind, .int .i64 x.id, .slice a2 x.vec.length d2, .int .i64 x.aa, .int .i64 x.seq] ∧ (ad.sl ad.int).Reads w [.slice a2 x.vec.length d2] x.vec := by
 obtain ⟨bl, h⟩ := h
 obtain ⟨a2, d2, b2, rfl, -, w0, w1, l2, w3, w4⟩ := bN.1 h
 exact ⟨a2, d2, rfl, ⟨_, l2⟩⟩
theorem eF {w : World} {x : ak} {c2 : List Value} {g2 : List Nat} (O2 : (ad.sl ad.int).Own w c2 x.vec g2) (v0 : (Lit.int .i64 x.kind).wf = true) (v1 : (Lit.int .i64 x.id).wf = true) (v3 : (Lit.int .i64 x.aa).wf = true) (v4 : (Lit.int .i64 x.seq).wf = true) (hn : (g2).Nodup) : ad.ag.Own w ([.int .i64 x.kind] ++ ([.int .i64 x.id] ++ (c2 ++ ([.int .i64 x.aa] ++ ([.int .i64 x.seq]))))) x (g2) := by
 refine ⟨⟨[.int .i64 x.kind], [.int .i64 x.id] ++ (c2 ++ ([.int .i64 x.aa] ++ ([.int .i64 x.seq]))), [], [] ++ (g2 ++ ([] ++ [])), rfl, by simp, ⟨rfl, v0, rfl⟩, ⟨[.int .i64 x.id], c2 ++ ([.int .i64 x.aa] ++ ([.int .i64 x.seq])), [], g2 ++ ([] ++ []), rfl, rfl, ⟨rfl, v1, rfl⟩, ⟨c2, [.int .i64 x.aa] ++ ([.int .i64 x.seq]), g2, [] ++ [], rfl, rfl, O2.1, ⟨[.int .i64 x.aa], [.int .i64 x.seq], [], [], rfl, rfl, ⟨rfl, v3, rfl⟩, ⟨rfl, v4, rfl⟩⟩⟩⟩⟩, hn, ?_⟩
 intro b hb o
 exact O2.2.2 b hb o
end Go.Proofs.YtecagllmonckgaaGreat
namespace Go.Proofs.YtecagllmonckgaaGreat
open Go.RowKit Go.ChangeMaps Go.Maps
end Go.Proofs.YtecagllmonckgaaGreat
namespace Go.Proofs.YtecagllmonckgaaGreat
open Go.RowKit
structure bn where
 id : Int
 up : Bool
 ab : Int
 ai : Int
 writes : List ak
 sure : Int
 clean : Int
def ad.aP : ad bn := ad.via (ad.pair ad.int (ad.pair ad.bool (ad.pair ad.int (ad.pair ad.int (ad.pair (ad.sl ad.ag) (ad.pair ad.int ad.int)))))) (fun x => (x.id, x.up, x.ab, x.ai, x.writes, x.sure, x.clean)) (fun p => ⟨p.1, p.2.1, p.2.2.1, p.2.2.2.1, p.2.2.2.2.1, p.2.2.2.2.2.1, p.2.2.2.2.2.2⟩)
theorem fV {w : World} {cs : List Value} {x : bn} {bl : List Nat} : ad.aP.bt w cs x bl ↔ ∃ (a4 : Option Addr) (d4 : Nat) (b4 : List Nat), cs = [.int .i64 x.id, .bool x.up, .int .i64 x.ab, .int .i64 x.ai, .slice a4 x.writes.length d4, .int .i64 x.sure, .int .i64 x.clean] ∧ bl = b4 ∧ (Lit.int .i64 x.id).wf = true ∧ (Lit.int .i64 x.ab).wf = true ∧ (Lit.int .i64 x.ai).wf = true ∧ (ad.sl ad.ag).bt w [.slice a4 x.writes.length d4] x.writes b4 ∧ (Lit.int .i64 x.sure).wf = true ∧ (Lit.int .i64 x.clean).wf = true := by
 constructor
 ·
  intro h
  obtain ⟨c0_, r0_, e0_, s0_, rfl, rfl, h0, ⟨c1_, r1_, e1_, s1_, rfl, rfl, h1, ⟨c2_, r2_, e2_, s2_, rfl, rfl, h2, ⟨c3_, r3_, e3_, s3_, rfl, rfl, h3, ⟨c4_, r4_, e4_, s4_, rfl, rfl, h4, ⟨c5_, r5_, e5_, s5_, rfl, rfl, h5, h6⟩⟩⟩⟩⟩⟩ := h
  obtain ⟨rfl, w0, rfl⟩ := h0
  obtain ⟨rfl, rfl⟩ := h1
  obtain ⟨rfl, w2, rfl⟩ := h2
  obtain ⟨rfl, w3, rfl⟩ := h3
  have k4 := h4
  obtain ⟨a4, d4, rfl, -⟩ := k4
  obtain ⟨rfl, w5, rfl⟩ := h5
  obtain ⟨rfl, w6, rfl⟩ := h6
  exact ⟨a4, d4, e4_, by simp, by simp, w0, w2, w3, h4, w5, w6⟩
 rintro ⟨a4, d4, b4, rfl, hbl, w0, w2, w3, l4, w5, w6⟩
 rw [hbl]
 exact ⟨[.int .i64 x.id], [.bool x.up] ++ ([.int .i64 x.ab] ++ ([.int .i64 x.ai] ++ ([.slice a4 x.writes.length d4] ++ ([.int .i64 x.sure] ++ [.int .i64 x.clean])))), [], [] ++ ([] ++ ([] ++ (b4 ++ ([] ++ ([]))))), rfl, by simp, ⟨rfl, w0, rfl⟩, ⟨[.bool x.up], [.int .i64 x.ab] ++ ([.int .i64 x.ai] ++ ([.slice a4 x.writes.length d4] ++ ([.int .i64 x.sure] ++ [.int .i64 x.clean]))), [], [] ++ ([] ++ (b4 ++ ([] ++ ([])))), rfl, by simp, ⟨rfl, rfl⟩, ⟨[.int .i64 x.ab], [.int .i64 x.ai] ++ ([.slice a4 x.writes.length d4] ++ ([.int .i64 x.sure] ++ [.int .i64 x.clean])), [], [] ++ (b4 ++ ([] ++ ([]))), rfl, by simp, ⟨rfl, w2, rfl⟩, ⟨[.int .i64 x.ai], [.slice a4 x.writes.length d4] ++ ([.int .i64 x.sure] ++ [.int .i64 x.clean]), [], b4 ++ ([] ++ ([])), rfl, by simp, ⟨rfl, w3, rfl⟩, ⟨[.slice a4 x.writes.length d4], [.int .i64 x.sure] ++ [.int .i64 x.clean], b4, [] ++ ([]), rfl, by simp, l4, ⟨[.int .i64 x.sure], [.int .i64 x.clean], [], [], rfl, by simp, ⟨rfl, w5, rfl⟩, ⟨rfl, w6, rfl⟩⟩⟩⟩⟩⟩⟩
theorem aQ {w : World} {cs : List Value} {x : bn} (h : ad.aP.Reads w cs x) : ∃ (a4 : Option Addr) (d4 : Nat), cs = [.int .i64 x.id, .bool x.up, .int .i64 x.ab, .int .i64 x.ai, .slice a4 x.writes.length d4, .int .i64 x.sure, .int .i64 x.clean] ∧ (ad.sl ad.ag).Reads w [.slice a4 x.writes.length d4] x.writes := by
 obtain ⟨bl, h⟩ := h
 obtain ⟨a4, d4, b4, rfl, -, w0, w2, w3, l4, w5, w6⟩ := fV.1 h
 exact ⟨a4, d4, rfl, ⟨_, l4⟩⟩
structure bq where
 kind : Int
 ab : Int
 src : Int
 dst : Int
 index : Int
 write : ak
def ad.bm : ad bq := ad.via (ad.pair ad.int (ad.pair ad.int (ad.pair ad.int (ad.pair ad.int (ad.pair ad.int ad.ag))))) (fun x => (x.kind, x.ab, x.src, x.dst, x.index, x.write)) (fun p => ⟨p.1, p.2.1, p.2.2.1, p.2.2.2.1, p.2.2.2.2.1, p.2.2.2.2.2⟩)
theorem gG {w : World} {cs : List Value} {x : bq} {bl : List Nat} : ad.bm.bt w cs x bl ↔ ∃ (a7 : Option Addr) (d7 : Nat) (b7 : List Nat), cs = [.int .i64 x.kind, .int .i64 x.ab, .int .i64 x.src, .int .i64 x.dst, .int .i64 x.index, .int .i64 x.write.kind, .int .i64 x.write.id, .slice a7 x.write.vec.length d7, .int .i64 x.write.aa, .int .i64 x.write.seq] ∧ bl = b7 ∧ (Lit.int .i64 x.kind).wf = true ∧ (Lit.int .i64 x.ab).wf = true ∧ (Lit.int .i64 x.src).wf = true ∧ (Lit.int .i64 x.dst).wf = true ∧ (Lit.int .i64 x.index).wf = true ∧ (Lit.int .i64 x.write.kind).wf = true ∧ (Lit.int .i64 x.write.id).wf = true ∧ (ad.sl ad.int).bt w [.slice a7 x.write.vec.length d7] x.write.vec b7 ∧ (Lit.int .i64 x.write.aa).wf = true ∧ (Lit.int .i64 x.write.seq).wf = true := by
 constructor
 ·
  intro h
  obtain ⟨c0_, r0_, e0_, s0_, rfl, rfl, h0, ⟨c1_, r1_, e1_, s1_, rfl, rfl, h1, ⟨c2_, r2_, e2_, s2_, rfl, rfl, h2, ⟨c3_, r3_, e3_, s3_, rfl, rfl, h3, ⟨c4_, r4_, e4_, s4_, rfl, rfl, h4, h5⟩⟩⟩⟩⟩ := h
  obtain ⟨rfl, w0, rfl⟩ := h0
  obtain ⟨rfl, w1, rfl⟩ := h1
  obtain ⟨rfl, w2, rfl⟩ := h2
  obtain ⟨rfl, w3, rfl⟩ := h3
  obtain ⟨rfl, w4, rfl⟩ := h4
  obtain ⟨a7, d7, q7, rfl, hq5, w5, w6, l7, w8, w9⟩ := bN.1 h5
  exact ⟨a7, d7, q7, by simp, by simp [hq5], w0, w1, w2, w3, w4, w5, w6, l7, w8, w9⟩
 rintro ⟨a7, d7, b7, rfl, hbl, w0, w1, w2, w3, w4, w5, w6, l7, w8, w9⟩
 rw [hbl]
 exact ⟨[.int .i64 x.kind], [.int .i64 x.ab] ++ ([.int .i64 x.src] ++ ([.int .i64 x.dst] ++ ([.int .i64 x.index] ++ [.int .i64 x.write.kind, .int .i64 x.write.id, .slice a7 x.write.vec.length d7, .int .i64 x.write.aa, .int .i64 x.write.seq]))), [], [] ++ ([] ++ ([] ++ ([] ++ (b7)))), rfl, by simp, ⟨rfl, w0, rfl⟩, ⟨[.int .i64 x.ab], [.int .i64 x.src] ++ ([.int .i64 x.dst] ++ ([.int .i64 x.index] ++ [.int .i64 x.write.kind, .int .i64 x.write.id, .slice a7 x.write.vec.length d7, .int .i64 x.write.aa, .int .i64 x.write.seq])), [], [] ++ ([] ++ ([] ++ (b7))), rfl, by simp, ⟨rfl, w1, rfl⟩, ⟨[.int .i64 x.src], [.int .i64 x.dst] ++ ([.int .i64 x.index] ++ [.int .i64 x.write.kind, .int .i64 x.write.id, .slice a7 x.write.vec.length d7, .int .i64 x.write.aa, .int .i64 x.write.seq]), [], [] ++ ([] ++ (b7)), rfl, by simp, ⟨rfl, w2, rfl⟩, ⟨[.int .i64 x.dst], [.int .i64 x.index] ++ [.int .i64 x.write.kind, .int .i64 x.write.id, .slice a7 x.write.vec.length d7, .int .i64 x.write.aa, .int .i64 x.write.seq], [], [] ++ (b7), rfl, by simp, ⟨rfl, w3, rfl⟩, ⟨[.int .i64 x.index], [.int .i64 x.write.kind, .int .i64 x.write.id, .slice a7 x.write.vec.length d7, .int .i64 x.write.aa, .int .i64 x.write.seq], [], b7, rfl, by simp, ⟨rfl, w4, rfl⟩, bN.2 ⟨a7, d7, b7, rfl, rfl, w5, w6, l7, w8, w9⟩⟩⟩⟩⟩⟩
theorem bE {w : World} {cs : List Value} {x : bq} (h : ad.bm.Reads w cs x) : ∃ (a7 : Option Addr) (d7 : Nat), cs = [.int .i64 x.kind, .int .i64 x.ab, .int .i64 x.src, .int .i64 x.dst, .int .i64 x.index, .int .i64 x.write.kind, .int .i64 x.write.id, .slice a7 x.write.vec.length d7, .int .i64 x.write.aa, .int .i64 x.write.seq] ∧ ad.ag.Reads w [.int .i64 x.write.kind, .int .i64 x.write.id, .slice a7 x.write.vec.length d7, .int .i64 x.write.aa, .int .i64 x.write.seq] x.write := by
 obtain ⟨bl, h⟩ := h
 obtain ⟨a7, d7, b7, rfl, -, w0, w1, w2, w3, w4, w5, w6, l7, w8, w9⟩ := gG.1 h
 exact ⟨a7, d7, rfl, ⟨_, bN.2 ⟨a7, d7, _, rfl, rfl, w5, w6, l7, w8, w9⟩⟩⟩
end Go.Proofs.YtecagllmonckgaaGreat
namespace Go.Proofs.YtecagllmonckgaaGreat
def ahead (hs : List (Int × Int)) (k : Nat) : Option (Int × Int) := if k = 0 then none else hs[k - 1]?
end Go.Proofs.YtecagllmonckgaaGreat
namespace Go.Proofs.YtecagllmonckgaaGreat
open Go.RowKit
structure gk where
 id : Int
 score : Int
def ad.b8 : ad gk := ad.via (ad.pair ad.int ad.int) (fun x => (x.id, x.score)) (fun p => ⟨p.1, p.2⟩)
theorem cm {w : World} {cs : List Value} {x : gk} {bl : List Nat} : ad.b8.bt w cs x bl ↔ cs = [.int .i64 x.id, .int .i64 x.score] ∧ bl = [] ∧ (Lit.int .i64 x.id).wf = true ∧ (Lit.int .i64 x.score).wf = true := by
 constructor
 ·
  intro h
  obtain ⟨c0_, r0_, e0_, s0_, rfl, rfl, h0, h1⟩ := h
  obtain ⟨rfl, w0, rfl⟩ := h0
  obtain ⟨rfl, w1, rfl⟩ := h1
  exact ⟨by simp, by simp, w0, w1⟩
 rintro ⟨rfl, hbl, w0, w1⟩
 rw [hbl]
 exact ⟨[.int .i64 x.id], [.int .i64 x.score], [], [], rfl, by simp, ⟨rfl, w0, rfl⟩, ⟨rfl, w1, rfl⟩⟩
structure bM where
 kind : Int
 aa : Int
 seq : Int
 id : Int
 query : List Int
 k : Int
 start : Int
 fin : Int
 place : Int
 vec : List Int
 aY : List gk
def ad.aJ : ad bM := ad.via (ad.pair ad.int (ad.pair ad.int (ad.pair ad.int (ad.pair ad.int (ad.pair (ad.sl ad.int) (ad.pair ad.int (ad.pair ad.int (ad.pair ad.int (ad.pair ad.int (ad.pair (ad.sl ad.int) (ad.sl ad.b8))))))))))) (fun x => (x.kind, x.aa, x.seq, x.id, x.query, x.k, x.start, x.fin, x.place, x.vec, x.aY)) (fun p => ⟨p.1, p.2.1, p.2.2.1, p.2.2.2.1, p.2.2.2.2.1, p.2.2.2.2.2.1, p.2.2.2.2.2.2.1, p.2.2.2.2.2.2.2.1, p.2.2.2.2.2.2.2.2.1, p.2.2.2.2.2.2.2.2.2.1, p.2.2.2.2.2.2.2.2.2.2⟩)
theorem fe {w : World} {cs : List Value} {x : bM} {bl : List Nat} : ad.aJ.bt w cs x bl ↔ ∃ (a4 : Option Addr) (d4 : Nat) (b4 : List Nat) (a9 : Option Addr) (d9 : Nat) (b9 : List Nat) (a10 : Option Addr) (d10 : Nat) (b10 : List Nat), cs = [.int .i64 x.kind, .int .i64 x.aa, .int .i64 x.seq, .int .i64 x.id, .slice a4 x.query.length d4, .int .i64 x.k, .int .i64 x.start, .int .i64 x.fin, .int .i64 x.place, .slice a9 x.vec.length d9, .slice a10 x.aY.length d10] ∧ bl = b4 ++ (b9 ++ b10) ∧ (Lit.int .i64 x.kind).wf = true ∧ (Lit.int .i64 x.aa).wf = true ∧ (Lit.int .i64 x.seq).wf = true ∧ (Lit.int .i64 x.id).wf = true ∧ (ad.sl ad.int).bt w [.slice a4 x.query.length d4] x.query b4 ∧ (Lit.int .i64 x.k).wf = true ∧ (Lit.int .i64 x.start).wf = true ∧ (Lit.int .i64 x.fin).wf = true ∧ (Lit.int .i64 x.place).wf = true ∧ (ad.sl ad.int).bt w [.slice a9 x.vec.length d9] x.vec b9 ∧ (ad.sl ad.b8).bt w [.slice a10 x.aY.length d10] x.aY b10 := by
 constructor
 ·
  intro h
  obtain ⟨c0_, r0_, e0_, s0_, rfl, rfl, h0, ⟨c1_, r1_, e1_, s1_, rfl, rfl, h1, ⟨c2_, r2_, e2_, s2_, rfl, rfl, h2, ⟨c3_, r3_, e3_, s3_, rfl, rfl, h3, ⟨c4_, r4_, e4_, s4_, rfl, rfl, h4, ⟨c5_, r5_, e5_, s5_, rfl, rfl, h5, ⟨c6_, r6_, e6_, s6_, rfl, rfl, h6, ⟨c7_, r7_, e7_, s7_, rfl, rfl, h7, ⟨c8_, r8_, e8_, s8_, rfl, rfl, h8, ⟨c9_, r9_, e9_, s9_, rfl, rfl, h9, h10⟩⟩⟩⟩⟩⟩⟩⟩⟩⟩ := h
  obtain ⟨rfl, w0, rfl⟩ := h0
  obtain ⟨rfl, w1, rfl⟩ := h1
  obtain ⟨rfl, w2, rfl⟩ := h2
  obtain ⟨rfl, w3, rfl⟩ := h3
  have k4 := h4
  obtain ⟨a4, d4, rfl, -⟩ := k4
  obtain ⟨rfl, w5, rfl⟩ := h5
  obtain ⟨rfl, w6, rfl⟩ := h6
  obtain ⟨rfl, w7, rfl⟩ := h7
  obtain ⟨rfl, w8, rfl⟩ := h8
  have k9 := h9
  obtain ⟨a9, d9, rfl, -⟩ := k9
  have k10 := h10
  obtain ⟨a10, d10, rfl, -⟩ := k10
  exact ⟨a4, d4, e4_, a9, d9, e9_, a10, d10, s9_, by simp, by simp, w0, w1, w2, w3, h4, w5, w6, w7, w8, h9, h10⟩
 rintro ⟨a4, d4, b4, a9, d9, b9, a10, d10, b10, rfl, hbl, w0, w1, w2, w3, l4, w5, w6, w7, w8, l9, l10⟩
 rw [hbl]
 exact ⟨[.int .i64 x.kind], [.int .i64 x.aa] ++ ([.int .i64 x.seq] ++ ([.int .i64 x.id] ++ ([.slice a4 x.query.length d4] ++ ([.int .i64 x.k] ++ ([.int .i64 x.start] ++ ([.int .i64 x.fin] ++ ([.int .i64 x.place] ++ ([.slice a9 x.vec.length d9] ++ [.slice a10 x.aY.length d10])))))))), [], [] ++ ([] ++ ([] ++ (b4 ++ ([] ++ ([] ++ ([] ++ ([] ++ (b9 ++ (b10))))))))), rfl, by simp, ⟨rfl, w0, rfl⟩, ⟨[.int .i64 x.aa], [.int .i64 x.seq] ++ ([.int .i64 x.id] ++ ([.slice a4 x.query.length d4] ++ ([.int .i64 x.k] ++ ([.int .i64 x.start] ++ ([.int .i64 x.fin] ++ ([.int .i64 x.place] ++ ([.slice a9 x.vec.length d9] ++ [.slice a10 x.aY.length d10]))))))), [], [] ++ ([] ++ (b4 ++ ([] ++ ([] ++ ([] ++ ([] ++ (b9 ++ (b10)))))))), rfl, by simp, ⟨rfl, w1, rfl⟩, ⟨[.int .i64 x.seq], [.int .i64 x.id] ++ ([.slice a4 x.query.length d4] ++ ([.int .i64 x.k] ++ ([.int .i64 x.start] ++ ([.int .i64 x.fin] ++ ([.int .i64 x.place] ++ ([.slice a9 x.vec.length d9] ++ [.slice a10 x.aY.length d10])))))), [], [] ++ (b4 ++ ([] ++ ([] ++ ([] ++ ([] ++ (b9 ++ (b10))))))), rfl, by simp, ⟨rfl, w2, rfl⟩, ⟨[.int .i64 x.id], [.slice a4 x.query.length d4] ++ ([.int .i64 x.k] ++ ([.int .i64 x.start] ++ ([.int .i64 x.fin] ++ ([.int .i64 x.place] ++ ([.slice a9 x.vec.length d9] ++ [.slice a10 x.aY.length d10]))))), [], b4 ++ ([] ++ ([] ++ ([] ++ ([] ++ (b9 ++ (b10)))))), rfl, by simp, ⟨rfl, w3, rfl⟩, ⟨[.slice a4 x.query.length d4], [.int .i64 x.k] ++ ([.int .i64 x.start] ++ ([.int .i64 x.fin] ++ ([.int .i64 x.place] ++ ([.slice a9 x.vec.length d9] ++ [.slice a10 x.aY.length d10])))), b4, [] ++ ([] ++ ([] ++ ([] ++ (b9 ++ (b10))))), rfl, by simp, l4, ⟨[.int .i64 x.k], [.int .i64 x.start] ++ ([.int .i64 x.fin] ++ ([.int .i64 x.place] ++ ([.slice a9 x.vec.length d9] ++ [.slice a10 x.aY.length d10]))), [], [] ++ ([] ++ ([] ++ (b9 ++ (b10)))), rfl, by simp, ⟨rfl, w5, rfl⟩, ⟨[.int .i64 x.start], [.int .i64 x.fin] ++ ([.int .i64 x.place] ++ ([.slice a9 x.vec.length d9] ++ [.slice a10 x.aY.length d10])), [], [] ++ ([] ++ (b9 ++ (b10))), rfl, by simp, ⟨rfl, w6, rfl⟩, ⟨[.int .i64 x.fin], [.int .i64 x.place] ++ ([.slice a9 x.vec.length d9] ++ [.slice a10 x.aY.length d10]), [], [] ++ (b9 ++ (b10)), rfl, by simp, ⟨rfl, w7, rfl⟩, ⟨[.int .i64 x.place], [.slice a9 x.vec.length d9] ++ [.slice a10 x.aY.length d10], [], b9 ++ (b10), rfl, by simp, ⟨rfl, w8, rfl⟩, ⟨[.slice a9 x.vec.length d9], [.slice a10 x.aY.length d10], b9, b10, rfl, by simp, l9, l10⟩⟩⟩⟩⟩⟩⟩⟩⟩⟩
theorem bu {w : World} {cs : List Value} {x : bM} (h : ad.aJ.Reads w cs x) : ∃ (a4 : Option Addr) (d4 : Nat) (a9 : Option Addr) (d9 : Nat) (a10 : Option Addr) (d10 : Nat), cs = [.int .i64 x.kind, .int .i64 x.aa, .int .i64 x.seq, .int .i64 x.id, .slice a4 x.query.length d4, .int .i64 x.k, .int .i64 x.start, .int .i64 x.fin, .int .i64 x.place, .slice a9 x.vec.length d9, .slice a10 x.aY.length d10] ∧ (ad.sl ad.int).Reads w [.slice a4 x.query.length d4] x.query ∧ (ad.sl ad.int).Reads w [.slice a9 x.vec.length d9] x.vec ∧ (ad.sl ad.b8).Reads w [.slice a10 x.aY.length d10] x.aY := by
 obtain ⟨bl, h⟩ := h
 obtain ⟨a4, d4, b4, a9, d9, b9, a10, d10, b10, rfl, -, w0, w1, w2, w3, l4, w5, w6, w7, w8, l9, l10⟩ := fe.1 h
 exact ⟨a4, d4, a9, d9, a10, d10, rfl, ⟨_, l4⟩, ⟨_, l9⟩, ⟨_, l10⟩⟩
structure aN where
 now : Int
 events : Int
 chain : bc
 nodes : List bn
 msgs : List bq
 ae : List bM
def ad.a8 : ad aN := ad.via (ad.pair ad.int (ad.pair ad.int (ad.pair ad.aZ (ad.pair (ad.sl ad.aP) (ad.pair (ad.sl ad.bm) (ad.sl ad.aJ)))))) (fun x => (x.now, x.events, x.chain, x.nodes, x.msgs, x.ae)) (fun p => ⟨p.1, p.2.1, p.2.2.1, p.2.2.2.1, p.2.2.2.2.1, p.2.2.2.2.2⟩)
theorem fv {w : World} {cs : List Value} {x : aN} {bl : List Nat} : ad.a8.bt w cs x bl ↔ ∃ (a3 : Option Addr) (d3 : Nat) (b3 : List Nat) (a4 : Option Addr) (d4 : Nat) (b4 : List Nat) (a5 : Option Addr) (d5 : Nat) (b5 : List Nat) (a6 : Option Addr) (d6 : Nat) (b6 : List Nat), cs = [.int .i64 x.now, .int .i64 x.events, .int .i64 x.chain.ab, .slice a3 x.chain.ids.length d3, .slice a4 x.nodes.length d4, .slice a5 x.msgs.length d5, .slice a6 x.ae.length d6] ∧ bl = b3 ++ (b4 ++ (b5 ++ b6)) ∧ (Lit.int .i64 x.now).wf = true ∧ (Lit.int .i64 x.events).wf = true ∧ (Lit.int .i64 x.chain.ab).wf = true ∧ (ad.sl ad.int).bt w [.slice a3 x.chain.ids.length d3] x.chain.ids b3 ∧ (ad.sl ad.aP).bt w [.slice a4 x.nodes.length d4] x.nodes b4 ∧ (ad.sl ad.bm).bt w [.slice a5 x.msgs.length d5] x.msgs b5 ∧ (ad.sl ad.aJ).bt w [.slice a6 x.ae.length d6] x.ae b6 := by
 constructor
 ·
  intro h
  obtain ⟨c0_, r0_, e0_, s0_, rfl, rfl, h0, ⟨c1_, r1_, e1_, s1_, rfl, rfl, h1, ⟨c2_, r2_, e2_, s2_, rfl, rfl, h2, ⟨c3_, r3_, e3_, s3_, rfl, rfl, h3, ⟨c4_, r4_, e4_, s4_, rfl, rfl, h4, h5⟩⟩⟩⟩⟩ := h
  obtain ⟨rfl, w0, rfl⟩ := h0
  obtain ⟨rfl, w1, rfl⟩ := h1
  obtain ⟨a3, d3, q3, rfl, hq2, w2, l3⟩ := cx.1 h2
  have k4 := h3
  obtain ⟨a4, d4, rfl, -⟩ := k4
  have k5 := h4
  obtain ⟨a5, d5, rfl, -⟩ := k5
  have k6 := h5
  obtain ⟨a6, d6, rfl, -⟩ := k6
  exact ⟨a3, d3, q3, a4, d4, e3_, a5, d5, e4_, a6, d6, s4_, by simp, by simp [hq2], w0, w1, w2, l3, h3, h4, h5⟩
 rintro ⟨a3, d3, b3, a4, d4, b4, a5, d5, b5, a6, d6, b6, rfl, hbl, w0, w1, w2, l3, l4, l5, l6⟩
 rw [hbl]
 exact ⟨[.int .i64 x.now], [.int .i64 x.events] ++ ([.int .i64 x.chain.ab, .slice a3 x.chain.ids.length d3] ++ ([.slice a4 x.nodes.length d4] ++ ([.slice a5 x.msgs.length d5] ++ [.slice a6 x.ae.length d6]))), [], [] ++ (b3 ++ (b4 ++ (b5 ++ (b6)))), rfl, by simp, ⟨rfl, w0, rfl⟩, ⟨[.int .i64 x.events], [.int .i64 x.chain.ab, .slice a3 x.chain.ids.length d3] ++ ([.slice a4 x.nodes.length d4] ++ ([.slice a5 x.msgs.length d5] ++ [.slice a6 x.ae.length d6])), [], b3 ++ (b4 ++ (b5 ++ (b6))), rfl, by simp, ⟨rfl, w1, rfl⟩, ⟨[.int .i64 x.chain.ab, .slice a3 x.chain.ids.length d3], [.slice a4 x.nodes.length d4] ++ ([.slice a5 x.msgs.length d5] ++ [.slice a6 x.ae.length d6]), b3, b4 ++ (b5 ++ (b6)), rfl, by simp, cx.2 ⟨a3, d3, b3, rfl, rfl, w2, l3⟩, ⟨[.slice a4 x.nodes.length d4], [.slice a5 x.msgs.length d5] ++ [.slice a6 x.ae.length d6], b4, b5 ++ (b6), rfl, by simp, l4, ⟨[.slice a5 x.msgs.length d5], [.slice a6 x.ae.length d6], b5, b6, rfl, by simp, l5, l6⟩⟩⟩⟩⟩
theorem aF {w : World} {cs : List Value} {x : aN} (h : ad.a8.Reads w cs x) : ∃ (a3 : Option Addr) (d3 : Nat) (a4 : Option Addr) (d4 : Nat) (a5 : Option Addr) (d5 : Nat) (a6 : Option Addr) (d6 : Nat), cs = [.int .i64 x.now, .int .i64 x.events, .int .i64 x.chain.ab, .slice a3 x.chain.ids.length d3, .slice a4 x.nodes.length d4, .slice a5 x.msgs.length d5, .slice a6 x.ae.length d6] ∧ ad.aZ.Reads w [.int .i64 x.chain.ab, .slice a3 x.chain.ids.length d3] x.chain ∧ (ad.sl ad.aP).Reads w [.slice a4 x.nodes.length d4] x.nodes ∧ (ad.sl ad.bm).Reads w [.slice a5 x.msgs.length d5] x.msgs ∧ (ad.sl ad.aJ).Reads w [.slice a6 x.ae.length d6] x.ae := by
 obtain ⟨bl, h⟩ := h
 obtain ⟨a3, d3, b3, a4, d4, b4, a5, d5, b5, a6, d6, b6, rfl, -, w0, w1, w2, l3, l4, l5, l6⟩ := fv.1 h
 exact ⟨a3, d3, a4, d4, a5, d5, a6, d6, rfl, ⟨_, cx.2 ⟨a3, d3, _, rfl, rfl, w2, l3⟩⟩, ⟨_, l4⟩, ⟨_, l5⟩, ⟨_, l6⟩⟩
end Go.Proofs.YtecagllmonckgaaGreat

namespace Go.Proofs.YtecagllmonckgaaGreat
theorem lA : (Tryz.prog.info? 2).map (fun i => (i.zero, i.size, i.bytes)) = some (some (.int .i64 0), 1, 8) := by kernel_rfl
end Go.Proofs.YtecagllmonckgaaGreat

namespace Go.Proofs.YtecagllmonckgaaGreat
open Go.RowKit
theorem iW (b off cap : Nat) (zs : List Int) (w : World) (hn : zs.length ≤ 1048576) (hc : ∀ j, j < zs.length → w.cell? ⟨b, off + j, none⟩ = some (.int .i64 (zs.getD j 0))) :
  Calls Tryz.prog 21 #[.slice (some ⟨b, off, none⟩) zs.length cap] w fun e w' => e = .returned (.slice (some ⟨w.heap.size, 0, none⟩) zs.length zs.length) ∧
   w'.ownsRow w.heap.size 2 1 (.slice (some ⟨w.heap.size, 0, none⟩) zs.length zs.length) zs.length (zs.map (Value.int .i64)) ∧ Below w.heap.size w w' := by
 obtain ⟨i0, hi, hz0, hz1, hz2⟩ := info_parts lA
 go_enter Tryz.func21, Tryz.ntmps21
 go_wp2_with (at_make; refine wpList_make_full _ rfl _ _ 22 rfl w.heap.size 2 i0 (.int .i64 0) 1 Tryz.underlying22 hi hz0 hz1 _ _ _ _ zs.length rfl rfl rfl rfl ?c1 ?c2 ?c3 ?_)
 case c1 => rw [hz2]; omega
 case c2 => unfold maxLen; omega
 case c3 => exact Nat.le_refl _
 intro w1 hown1 hgrow1
 have hB1 : Below w.heap.size w w1 := (Below.refl _ _).grown hgrow1 (Nat.le_refl _) (by simp)
 rw [toList_madeCells_one] at hown1
 clear hgrow1 hi hz0 hz1 hz2
 go_wp2
 go_loopw [4] (fun i wr => ∃ k : Nat, k ≤ zs.length ∧ i = .int .i64 k ∧ wr.ownsRow w.heap.size 2 1 (.slice (some ⟨w.heap.size, 0, none⟩) zs.length zs.length) zs.length ((zs.take k).map (Value.int .i64) ++ List.replicate (zs.length - k) (Value.int .i64 0)) ∧ Below w.heap.size w wr)
  (fun i _ => zs.length - (intOf i).toNat)
 case atStart => exact ⟨0, Nat.zero_le _, rfl, by simpa using hown1, hB1⟩
 case round =>
  obtain ⟨k, hk, rfl, hown, hB⟩ := hrel
  clear hown1 hB1
  by_cases hlt : k < zs.length
  ·
   have hcx : wr.cell? ⟨b, off + k, none⟩ = some (.int .i64 (zs.getD k 0)) := (hB.cell (World.block_lt_of_cell? _ _ (hc k hlt))).trans (hc k hlt)
   have hcd : ∃ u, wr.cell? ⟨w.heap.size, k, none⟩ = some u := by
    rw [hown.cellAt k (by omega)]
    exact ⟨_, List.getElem?_eq_getElem (by simp; omega)⟩
   obtain ⟨u, hcd⟩ := hcd
   have hfz := hown.frozenAt k
   have hst := hown.stored k (.int .i64 (zs.getD k 0))
   rw [j4 zs k hlt] at hst
   have R := hst.1
   have hB2 : Below w.heap.size w (wr.setCell ⟨w.heap.size, k, none⟩ (.int .i64 (zs.getD k 0))) := hB.setCell (by simp) _
   clear hst hown hB
   go_wp2
   go_roundw
   case rel => exact ⟨k + 1, by omega, by go_num, by simpa [hlt] using R, by simpa [hlt] using hB2⟩
   case measure => simp [intOf]; omega
  have hk2 : k = zs.length := by omega
  go_wp2
  go_ret
  subst hk2
  exact ⟨rfl, by simpa using hown, hB⟩
theorem ix (ao : Option Addr) (cap : Nat) (w : World) :
  Calls Tryz.prog 21 #[.slice ao 0 cap] w fun e w' => e = .returned (.slice (some ⟨w.heap.size, 0, none⟩) 0 0) ∧
   w'.ownsRow w.heap.size 2 1 (.slice (some ⟨w.heap.size, 0, none⟩) 0 0) 0 [] ∧ Below w.heap.size w w' := by
 obtain ⟨i0, hi, hz0, hz1, hz2⟩ := info_parts lA
 go_enter Tryz.func21, Tryz.ntmps21
 go_wp2_with (at_make; refine wpList_make_full _ rfl _ _ 22 rfl w.heap.size 2 i0 (.int .i64 0) 1 Tryz.underlying22 hi hz0 hz1 _ _ _ _ 0 rfl rfl rfl rfl ?c1 ?c2 ?c3 ?_)
 case c1 => rw [hz2]; omega
 case c2 => unfold maxLen; omega
 case c3 => exact Nat.le_refl _
 intro w1 hown1 hgrow1
 have hB1 : Below w.heap.size w w1 := (Below.refl _ _).grown hgrow1 (Nat.le_refl _) (by simp)
 clear hgrow1 hi hz0 hz1 hz2
 rw [toList_madeCells_one] at hown1
 go_wp2
 refine wp_loop_rounds 1 ?_
 rw [rounds_succ]
 go_wp2
 go_ret
 exact ⟨rfl, by simpa using hown1, hB1⟩
theorem lJ (v : Value) (zs : List Int) (w : World) (h : bh w v zs) (hn : zs.length ≤ 1048576) :
  Calls Tryz.prog 21 #[v] w fun e w' => ∃ v', e = .returned v' ∧ v' = .slice (some ⟨w.heap.size, 0, none⟩) zs.length zs.length ∧
   w'.ownsRow w.heap.size 2 1 v' zs.length (zs.map (Value.int .i64)) ∧ bh w' v' zs ∧ Below w.heap.size w w' := by
 obtain ⟨ao, cap, rfl, hwf, hc⟩ := h
 by_cases hp : 0 < zs.length
 ·
  obtain ⟨b, off, rfl, hc1⟩ := hc hp
  refine (iW b off cap zs w hn hc1).mono ?_
  rintro e w' ⟨rfl, ho, hb⟩
  exact ⟨_, rfl, rfl, ho, dU hwf ho, hb⟩
 have hz : zs = [] := List.eq_nil_of_length_eq_zero (by omega)
 subst hz
 refine (ix ao cap w).mono ?_
 rintro e w' ⟨rfl, ho, hb⟩
 exact ⟨_, rfl, rfl, ho, dU hwf ho, hb⟩
theorem iH (b off cap b2 off2 cap2 : Nat) (zs : List Int) (w : World) (hn : zs.length ≤ 9223372036854775807) (hc : ∀ j, j < zs.length → w.cell? ⟨b, off + j, none⟩ = some (.int .i64 (zs.getD j 0)))
  (hc2 : ∀ j, j < zs.length → w.cell? ⟨b2, off2 + j, none⟩ = some (.int .i64 (zs.getD j 0))) :
  Calls Tryz.prog 23 #[.slice (some ⟨b, off, none⟩) zs.length cap, .slice (some ⟨b2, off2, none⟩) zs.length cap2] w fun e w' => e = .returned (.bool true) ∧ Below w.heap.size w w' := by
 go_enter Tryz.func23, Tryz.ntmps23
 go_wp2
 go_loopw [5] (fun i wr => ∃ k : Nat, k ≤ zs.length ∧ i = .int .i64 k ∧ Below w.heap.size w wr) (fun i _ => zs.length - (intOf i).toNat)
 case atStart => exact ⟨0, Nat.zero_le _, rfl, Below.refl _ _⟩
 case round =>
  obtain ⟨k, hk, rfl, hB⟩ := hrel
  by_cases hlt : k < zs.length
  ·
   have hcx : wr.cell? ⟨b, off + k, none⟩ = some (.int .i64 (zs.getD k 0)) := (hB.cell (World.block_lt_of_cell? _ _ (hc k hlt))).trans (hc k hlt)
   have hcy : wr.cell? ⟨b2, off2 + k, none⟩ = some (.int .i64 (zs.getD k 0)) := (hB.cell (World.block_lt_of_cell? _ _ (hc2 k hlt))).trans (hc2 k hlt)
   clear hc hc2
   go_wp2
   go_quiet (fail)
   go_wp2
   go_roundw
   case rel => exact ⟨k + 1, by omega, by go_num, below_drewN hB _⟩
   case measure => simp [intOf]; omega
  go_wp2
  go_ret
  exact ⟨rfl, hB⟩
theorem gV (ao ao2 : Option Addr) (cap cap2 : Nat) (w : World) :
  Calls Tryz.prog 23 #[.slice ao 0 cap, .slice ao2 0 cap2] w fun e w' => e = .returned (.bool true) ∧ Below w.heap.size w w' := by
 go_enter Tryz.func23, Tryz.ntmps23
 go_wp2
 refine wp_loop_rounds 1 ?_
 rw [rounds_succ]
 go_wp2
 go_ret
 exact ⟨rfl, Below.refl _ _⟩
theorem jJ (v v2 : Value) (zs : List Int) (w : World) (h : bh w v zs) (h2 : bh w v2 zs) (hn : zs.length ≤ 9223372036854775807) :
  Calls Tryz.prog 23 #[v, v2] w fun e w' => e = .returned (.bool true) ∧ Below w.heap.size w w' := by
 obtain ⟨ao, cap, rfl, hwf, hc⟩ := h
 obtain ⟨ao2, cap2, rfl, _, hc2⟩ := h2
 by_cases hp : 0 < zs.length
 ·
  obtain ⟨b, off, rfl, hc1⟩ := hc hp
  obtain ⟨b2, off2, rfl, hc3⟩ := hc2 hp
  exact iH b off cap b2 off2 cap2 zs w hn hc1 hc3
 have hz : zs = [] := List.eq_nil_of_length_eq_zero (by omega)
 subst hz
 exact gV ao ao2 cap cap2 w
theorem jj (zs : List Int) : (ad.sl ad.int).sz zs = zs.length := by
 show zs.length + aO (fun _ => 0) zs = zs.length
 have : aO (fun _ : Int => 0) zs = 0 := by induction zs with
  | nil => rfl
  | cons z zs ih => simpa [aO] using ih
 omega
theorem dw (v : Value) (zs : List Int) (w : World) (h : (ad.sl ad.int).Reads w [v] zs) (hn : (ad.sl ad.int).sz zs ≤ 1048576) :
  Calls Tryz.prog 21 #[v] w fun e w' => ∃ v', e = .returned v' ∧ (ad.sl ad.int).a0 w' [v'] zs w.heap.size w'.heap.size ∧ Below w.heap.size w w' := by
 rw [jj] at hn
 have hi := ad.bd h
 refine (lJ v zs w hi hn).mono ?_
 rintro e w' ⟨v', rfl, -, ho, -, hb⟩
 exact ⟨v', rfl, ad.jk hi.wf (by omega) ho, hb⟩
theorem dt (v v2 : Value) (zs : List Int) (w : World) (h : (ad.sl ad.int).Reads w [v] zs) (h2 : (ad.sl ad.int).Reads w [v2] zs) :
  Calls Tryz.prog 23 #[v, v2] w fun e w' => e = .returned (.bool true) ∧ Below w.heap.size w w' :=
 jJ v v2 zs w (ad.bd h) (ad.bd h2) h.cK
theorem di (v : Value) (zs : List Int) (l : Nat) (w : World) (h : (ad.sl ad.int).Reads w [v] zs) (hl : l ≤ 1048576) :
  Calls Tryz.prog 97 #[v, .int .i64 l] w fun e w' => e = .returned (.int .i64 (gD l ((ad.sl ad.int).sz zs))) ∧ Below w.heap.size w w' := by
 have hb := h.cK
 obtain ⟨ao, cap, rfl⟩ := aB h
 rw [jj]
 generalize zs.length = n at *
 clear h
 by_cases hn : n ≤ l
 ·
  rw [bb hn]
  have e1 : (l : Int) - (n : Int) = ((l - n : Nat) : Int) := by omega
  have e2 : decide (((l - n : Nat) : Int) < 0) = false := by simp
  go_enter Tryz.func97, Tryz.ntmps97
  go_wp2_with fail
  go_ret
  exact ⟨rfl, Below.refl _ _⟩
 rw [aE (by omega)]
 have e2 : decide ((l : Int) - (n : Int) < 0) = true := by simp; omega
 go_enter Tryz.func97, Tryz.ntmps97
 go_wp2_with fail
 go_ret
 exact ⟨rfl, Below.refl _ _⟩
theorem eA (x : bc) : ad.aZ.sz x = (ad.sl ad.int).sz x.ids := by
 show 0 + ((ad.sl ad.int).sz x.ids) = (ad.sl ad.int).sz x.ids
 omega
theorem kB (cs : List Value) (x : bc) (l : Nat) (w : World) (h : ad.aZ.Reads w cs x) (hl : l ≤ 1048576) :
  Calls Tryz.prog 41 #[.agg cs.toArray, .int .i64 l] w fun e w' => e = .returned (.int .i64 (gD l (ad.aZ.sz x))) ∧ Below w.heap.size w w' := by
 obtain ⟨a1, d1, rfl, R1⟩ := ba h
 clear h
 have HB0 : Below w.heap.size w (w.alloc (.cells #[.int .i64 x.ab, .slice a1 x.ids.length d1] 24)) := (Below.refl _ _).alloc (Nat.le_refl _) _
 have bA : ar w.heap.size #[.int .i64 x.ab, .slice a1 x.ids.length d1] 24 (w.alloc (.cells #[.int .i64 x.ab, .slice a1 x.ids.length d1] 24)) w.heap.size := aM (Nat.le_refl _)
 have HV := yh (eA x)
 go_enter Tryz.func41, Tryz.ntmps41
 go_wp2_with fail
 generalize w.alloc (.cells #[.int .i64 x.ab, .slice a1 x.ids.length d1] 24) = W0 at *
 replace R1 := R1.af HB0
 refine (di _ x.ids (l) _ R1 (by omega)).mono ?_
 rintro e w1 ⟨rfl, hb⟩
 replace HB0 := HB0.trans (hb.mono HB0.size)
 replace bA := bA.au hb
 clear hb R1
 by_cases hs0 : (ad.sl ad.int).sz x.ids ≤ l
 ·
  rw [bb hs0]
  have hq : decide (((l - (ad.sl ad.int).sz x.ids : Nat) : Int) < 0) = false := by simp
  have HX := yh HB0
  have HA := yh bA
  clear HB0 bA
  go_wp2_with fail
  clear hq
  go_ret
  refine ⟨?_, uh HX⟩
  rw [uh HV, bb (by omega), show l - ((ad.sl ad.int).sz x.ids) = l - (ad.sl ad.int).sz x.ids by omega]
  rfl
 rw [aE (by omega)]
 have HX := yh HB0
 clear HB0 bA
 go_wp2_with fail
 go_ret
 refine ⟨?_, uh HX⟩
 rw [uh HV, aE (by omega)]
 rfl
end Go.Proofs.YtecagllmonckgaaGreat
