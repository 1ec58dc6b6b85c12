/-
  Texts of this proof in one: Ground, LayChain, TabGround, LayNode, LayMsg, HitGround.
  Their conditions stand in their theorems.
-/
import Derived.WalkKit
import Derived.WalkSpells
import Derived.WalkSmall
import Derived.Deep.AppendLies
import Derived.Test.YtoanimpijfijgaaGreatSi00
import Derived.Maps.OwnSet
import Derived.Maps.AppendAt
set_option maxRecDepth 100000
set_option maxHeartbeats 4000000
namespace Go.Proofs.YtoanimpijfijgaaGreat
open Go.RowKit
theorem yh {p : Prop} (h : p) : Hid p := h
theorem uh {p : Prop} (h : Hid p) : p := h
theorem below_drawn {B : Nat} {a w : World} (h : Below B a w) (n : Nat) : Below B a (w.drewN n) := h.trans ⟨rfl, rfl, rfl, Nat.le_refl _, fun _ _ => rfl⟩
theorem grown_trans {a b c : World} {r : Option Nat} (h : a.grownBy b r) (k : b.grownBy c r) : a.grownBy c r :=
 ⟨k.os.trans h.os, k.tape.trans h.tape, k.output.trans h.output, Nat.le_trans h.size k.size, fun i hi hr => (k.block i (Nat.lt_of_lt_of_le hi h.size) hr).trans (h.block i hi hr)⟩
def IsInts (w : World) (v : Value) (zs : List Int) : Prop :=
 ∃ ao cap, v = .slice ao zs.length cap ∧ (∀ z ∈ zs, (Lit.int .i64 z).wf = true) ∧
  (0 < zs.length → ∃ b off, ao = some ⟨b, off, none⟩ ∧ ∀ j, j < zs.length → w.cell? ⟨b, off + j, none⟩ = some (.int .i64 (zs.getD j 0)))
theorem IsInts.later {w w' : World} {v : Value} {zs : List Int} (h : IsInts w v zs) (hb : Below w.heap.size w w') : IsInts w' v zs := by
 obtain ⟨ao, cap, rfl, hwf, hc⟩ := h
 refine ⟨ao, cap, rfl, hwf, fun hp => ?_⟩
 obtain ⟨b, off, hao, hc1⟩ := hc hp
 refine ⟨b, off, hao, fun j hj => ?_⟩
 have h1 := hc1 j hj
 exact (hb.cell (World.block_lt_of_cell? _ _ h1)).trans h1
theorem isInts_owned {w : World} {base T g : Nat} {zs : List Int} (hwf : ∀ z ∈ zs, (Lit.int .i64 z).wf = true)
  (h : w.ownsRow base T 1 (.slice (some ⟨g, 0, none⟩) zs.length zs.length) zs.length (zs.map (Value.int .i64))) : IsInts w (.slice (some ⟨g, 0, none⟩) zs.length zs.length) zs := by
 refine ⟨_, _, rfl, hwf, fun hp => ⟨g, 0, rfl, fun j hj => ?_⟩⟩
 rw [Nat.zero_add, h.cellAt j (by omega)]
 simp [List.getD, hj]
theorem isInts_row {w : World} {base T : Nat} {v : Value} {zs : List Int} (hwf : ∀ z ∈ zs, (Lit.int .i64 z).wf = true)
  (h : w.ownsRow base T 1 v zs.length (zs.map (Value.int .i64))) : IsInts w v zs := by
 rcases h.2 with ⟨rfl, h0⟩ | ⟨g, cap, cur, rfl, _⟩
 ·
  have : zs = [] := List.eq_nil_of_length_eq_zero h0
  subst this
  exact ⟨none, 0, rfl, by simp, by simp⟩
 refine ⟨_, _, rfl, hwf, fun hp => ⟨g, 0, rfl, fun j hj => ?_⟩⟩
 rw [Nat.zero_add, h.cellAt j (by omega)]
 simp [List.getD, hj]
theorem own_new3 {W : World} {base g : Nat} {T : TypeId} {x y z : Int} (hb : base ≤ W.heap.size) (hs : W.heap.size = g) :
  (W.alloc (.cells #[.int .i64 x, .int .i64 y, .int .i64 z] T)).ownsRow base T 1 (.slice (some ⟨g, 0, none⟩) 3 3) 3 ([x, y, z].map (Value.int .i64)) := by
 subst hs
 exact World.ownsRow_lit W _ 3 hb (by unfold maxLen; omega) rfl
theorem wf_of_bd {z : Int} (h : -1000000000 ≤ z ∧ z ≤ 1000000000) : (Lit.int .i64 z).wf = true := WalkArith.wf_i64 (by omega)
theorem IsInts.wf {w : World} {v : Value} {zs : List Int} (h : IsInts w v zs) : ∀ z ∈ zs, (Lit.int .i64 z).wf = true := by
 obtain ⟨_, _, _, hwf, _⟩ := h
 exact hwf
theorem own_below {w w' : World} {base T sz : Nat} {v : Value} {n : Nat} {xs : List Value} (h : w.ownsRow base T sz v n xs) (hb : Below w.heap.size w w') : w'.ownsRow base T sz v n xs := by
 refine ⟨h.1, ?_⟩
 rcases h.2 with h2 | ⟨g, cap, cur, hv, hg, hh, r⟩
 ·
  exact Or.inl h2
 exact Or.inr ⟨g, cap, cur, hv, hg, (hb.block g (lt_of_block hh)).trans hh, r⟩
theorem own_mono {w : World} {b b' T sz : Nat} {v : Value} {n : Nat} {xs : List Value} (hb : b' ≤ b) (h : w.ownsRow b T sz v n xs) : w.ownsRow b' T sz v n xs := by
 refine ⟨h.1, ?_⟩
 rcases h.2 with h2 | ⟨g, cap, cur, hv, hg, r⟩
 ·
  exact Or.inl h2
 exact Or.inr ⟨g, cap, cur, hv, by omega, r⟩
theorem set_fill (zs : List Int) (k : Nat) (hk : k < zs.length) :
  ((zs.take k).map (Value.int .i64) ++ List.replicate (zs.length - k) (Value.int .i64 0)).set k (.int .i64 (zs.getD k 0)) = (zs.take (k + 1)).map (Value.int .i64) ++ List.replicate (zs.length - (k + 1)) (Value.int .i64 0) := by
 have hl : ((zs.take k).map (Value.int .i64)).length = k := by simp; omega
 rw [List.set_append_right _ _ (by omega), hl, Nat.sub_self]
 obtain ⟨m, hm⟩ : ∃ m, zs.length - k = m + 1 := ⟨zs.length - k - 1, by omega⟩
 rw [hm, show zs.length - (k + 1) = m by omega, List.replicate_succ, List.set_cons_zero, List.take_succ_eq_append_getElem hk, List.map_append, List.append_assoc]
 simp [List.getD, hk]
def Box (lo : Nat) (cs : Array Value) (T : TypeId) (W : World) (s : Nat) : Prop := lo ≤ s ∧ W.heap[s]? = some (.cells cs T (0, 0))
theorem Box.drew {lo : Nat} {cs : Array Value} {T : TypeId} {W : World} {s : Nat} (h : Box lo cs T W s) : Box lo cs T W.drew s := h
theorem Box.lt {lo : Nat} {cs : Array Value} {T : TypeId} {W : World} {s : Nat} (h : Box lo cs T W s) : s < W.heap.size := lt_of_block h.2
theorem newBox {lo : Nat} {cs : Array Value} {T : TypeId} {W : World} (h : lo ≤ W.heap.size) : Box lo cs T (W.alloc (.cells cs T)) W.heap.size := ⟨h, heap_alloc_new W _⟩
theorem Box.keep {lo : Nat} {cs : Array Value} {T : TypeId} {W w' : World} {s : Nat} (h : Box lo cs T W s) (hb : Below W.heap.size W w') : Box lo cs T w' s := ⟨h.1, (hb.block s h.lt).trans h.2⟩
theorem own_setC {w : World} {base e size : Nat} {v : Value} {n : Nat} {xs : List Value} {a : Addr} (h : w.ownsRow base e size v n xs) (ha : a.block < base) (u : Value) : (w.setCell a u).ownsRow base e size v n xs := by
 refine ⟨h.1, ?_⟩
 rcases h.2 with h2 | ⟨g, cap, cur, hv, hg, hh, r⟩
 ·
  exact Or.inl h2
 exact Or.inr ⟨g, cap, cur, hv, hg, (heap_setCell_other w a g u (by omega)).trans hh, r⟩
structure Ext (S : Nat → Prop) (w w' : World) : Prop where
 os : w'.os = w.os
 tape : w'.tape = w.tape
 output : w'.output = w.output
 size : w.heap.size ≤ w'.heap.size
 block : ∀ k, k < w.heap.size → ¬ S k → w'.heap[k]? = w.heap[k]?
def nowhere : Nat → Prop := fun _ => False
def within (lo hi : Nat) : Nat → Prop := fun k => lo ≤ k ∧ k < hi
theorem Ext.refl (S : Nat → Prop) (w : World) : Ext S w w := ⟨rfl, rfl, rfl, Nat.le_refl _, fun _ _ _ => rfl⟩
theorem Ext.trans {S : Nat → Prop} {a b c : World} (h : Ext S a b) (k : Ext S b c) : Ext S a c :=
 ⟨k.os.trans h.os, k.tape.trans h.tape, k.output.trans h.output, Nat.le_trans h.size k.size, fun i hi hn => (k.block i (Nat.lt_of_lt_of_le hi h.size) hn).trans (h.block i hi hn)⟩
theorem Ext.mono {S S' : Nat → Prop} {a b : World} (h : Ext S a b) (hs : ∀ k, k < a.heap.size → S k → S' k) : Ext S' a b :=
 ⟨h.os, h.tape, h.output, h.size, fun i hi hn => h.block i hi fun hS => hn (hs i hi hS)⟩
theorem Ext.drew {S : Nat → Prop} {a b : World} (h : Ext S a b) (n : Nat) : Ext S a (b.drewN n) := ⟨h.os, h.tape, h.output, h.size, h.block⟩
theorem ext_of_below {w w' : World} (h : Below w.heap.size w w') (S : Nat → Prop) : Ext S w w' := ⟨h.os, h.tape, h.output, h.size, fun k hk _ => h.block k hk⟩
theorem Ext.below {S : Nat → Prop} {w w' : World} {B : Nat} (h : Ext S w w') (hB : B ≤ w.heap.size) (hs : ∀ k, k < B → ¬ S k) : Below B w w' :=
 ⟨h.os, h.tape, h.output, h.size, fun k hk => h.block k (by omega) (hs k hk)⟩
theorem Ext.setCell {S : Nat → Prop} {w w' : World} (h : Ext S w w') (a : Addr) (v : Value) (ha : S a.block) : Ext S w (w'.setCell a v) :=
 ⟨h.os, h.tape, h.output, by simpa using h.size, fun k hk hn => (heap_setCell_other w' a k v (fun e => hn (e ▸ ha))).trans (h.block k hk hn)⟩
theorem cell_of_heap {w w' : World} {b : Nat} (h : w'.heap[b]? = w.heap[b]?) (o : Nat) : w'.cell? ⟨b, o, none⟩ = w.cell? ⟨b, o, none⟩ := World.cell?_of_block (a := ⟨b, o, none⟩) h
theorem frozen_of_heap {w w' : World} {b : Nat} (h : w'.heap[b]? = w.heap[b]?) (o : Nat) : w'.frozen? ⟨b, o, none⟩ = w.frozen? ⟨b, o, none⟩ := World.frozen?_of_block (a := ⟨b, o, none⟩) h
structure Lay (α : Type) where
 n : Nat
 lies : World → List Value → α → List Nat → Prop
 len : ∀ {w cs x bl}, lies w cs x bl → cs.length = n
 keep : ∀ {w w' cs x bl}, lies w cs x bl → (∀ b ∈ bl, w'.heap[b]? = w.heap[b]?) → lies w' cs x bl
 lt : ∀ {w cs x bl}, lies w cs x bl → ∀ b ∈ bl, b < w.heap.size
 /-- How long all its lists are together. -/
 sz : α → Nat
 /-- How many marks an element takes, and a value (whose own cells are copies). -/
 cnt : α → Nat
 vcnt : α → Nat
 /-- An element, a value, with the marks from k on. -/
 mkd : Int → α → α
 mkv : Int → α → α
def mkAll {α : Type} (cnt : α → Nat) (mk : Int → α → α) : Int → List α → List α
 | _, [] => []
 | k, x :: xs => mk k x :: mkAll cnt mk (k + cnt x) xs
def cntAll {α : Type} (cnt : α → Nat) : List α → Nat
 | [] => 0
 | x :: xs => cnt x + cntAll cnt xs
namespace Lay
variable {α β γ : Type}
def int : Lay Int where
 n := 1
 lies _ cs x bl := cs = [.int .i64 x] ∧ (Lit.int .i64 x).wf = true ∧ bl = []
 len := by rintro w cs x bl ⟨rfl, -, -⟩; rfl
 keep := fun h _ => h
 lt := by rintro w cs x bl ⟨-, -, rfl⟩ b hb; cases hb
 sz _ := 0
 cnt _ := 1
 vcnt _ := 0
 mkd k _ := k
 mkv _ x := x
def bool : Lay Bool where
 n := 1
 lies _ cs x bl := cs = [.bool x] ∧ bl = []
 len := by rintro w cs x bl ⟨rfl, -⟩; rfl
 keep := fun h _ => h
 lt := by rintro w cs x bl ⟨-, rfl⟩ b hb; cases hb
 sz _ := 0
 cnt _ := 1
 vcnt _ := 0
 mkd k _ := k.tmod 3 == 0
 mkv _ x := x
def pair (A : Lay α) (B : Lay β) : Lay (α × β) where
 n := A.n + B.n
 lies w cs x bl := ∃ c1 c2 b1 b2, cs = c1 ++ c2 ∧ bl = b1 ++ b2 ∧ A.lies w c1 x.1 b1 ∧ B.lies w c2 x.2 b2
 len := by
  rintro w cs x bl ⟨c1, c2, b1, b2, rfl, rfl, h1, h2⟩
  rw [List.length_append, A.len h1, B.len h2]
 keep := by
  rintro w w' cs x bl ⟨c1, c2, b1, b2, rfl, rfl, h1, h2⟩ hk
  exact ⟨c1, c2, b1, b2, rfl, rfl, A.keep h1 fun b hb => hk b (List.mem_append_left _ hb), B.keep h2 fun b hb => hk b (List.mem_append_right _ hb)⟩
 lt := by
  rintro w cs x bl ⟨c1, c2, b1, b2, rfl, rfl, h1, h2⟩ b hb
  rcases List.mem_append.1 hb with h | h
  ·
   exact A.lt h1 b h
  exact B.lt h2 b h
 sz x := A.sz x.1 + B.sz x.2
 cnt x := A.cnt x.1 + B.cnt x.2
 vcnt x := A.vcnt x.1 + B.vcnt x.2
 mkd k x := (A.mkd k x.1, B.mkd (k + A.cnt x.1) x.2)
 mkv k x := (A.mkv k x.1, B.mkv (k + A.vcnt x.1) x.2)
def Rows (A : Lay α) (w : World) (b off : Nat) (xs : List α) (rows : List (List Value)) (bls : List (List Nat)) : Prop :=
 rows.length = xs.length ∧ bls.length = xs.length ∧ ∀ j (h1 : j < xs.length) (h2 : j < rows.length) (h3 : j < bls.length),
  (∀ m, m < A.n → w.cell? ⟨b, off + j * A.n + m, none⟩ = rows[j][m]?) ∧ A.lies w rows[j] xs[j] bls[j]
def sl (A : Lay α) : Lay (List α) where
 n := 1
 lies w cs xs bl := ∃ ao cap, cs = [.slice ao xs.length cap] ∧ (xs.length ≤ cap ∧ xs.length ≤ 9223372036854775807) ∧ ((xs = [] ∧ bl = []) ∨
  ∃ b off rows bls, ao = some ⟨b, off, none⟩ ∧ b < w.heap.size ∧ bl = b :: bls.flatten ∧ A.Rows w b off xs rows bls)
 len := by rintro w cs x bl ⟨ao, cap, rfl, -⟩; rfl
 keep := by
  rintro w w' cs xs bl ⟨ao, cap, rfl, hbig, h⟩ hk
  refine ⟨ao, cap, rfl, hbig, ?_⟩
  rcases h with h | ⟨b, off, rows, bls, rfl, hb, rfl, hr, hl, hj⟩
  ·
   exact Or.inl h
  have hbb := hk b (by simp)
  refine Or.inr ⟨b, off, rows, bls, rfl, ?_, rfl, hr, hl, fun j h1 h2 h3 => ⟨fun m hm => ?_, ?_⟩⟩
  ·
   have : w.heap[b]? ≠ none := by simp; exact hb
   rw [← hbb] at this
   simpa using this
  ·
   rw [cell_of_heap hbb]
   exact (hj j h1 h2 h3).1 m hm
  refine A.keep (hj j h1 h2 h3).2 fun b' hb' => hk b' (List.mem_cons_of_mem _ (List.mem_flatten.2 ⟨bls[j], List.getElem_mem _, hb'⟩))
 lt := by
  rintro w cs xs bl ⟨ao, cap, rfl, -, h⟩ b hb
  rcases h with ⟨-, rfl⟩ | ⟨b0, off, rows, bls, rfl, hb0, rfl, hr, hl, hj⟩
  ·
   cases hb
  rcases List.mem_cons.1 hb with rfl | hb
  ·
   exact hb0
  obtain ⟨l, hl1, hl2⟩ := List.mem_flatten.1 hb
  obtain ⟨j, hjl, rfl⟩ := List.getElem_of_mem hl1
  exact A.lt (hj j (by omega) (by omega) hjl).2 b hl2
 sz xs := xs.length + cntAll A.sz xs
 cnt xs := cntAll A.cnt xs
 vcnt xs := cntAll A.cnt xs
 mkd k xs := mkAll A.cnt A.mkd k xs
 mkv k xs := mkAll A.cnt A.mkd k xs
def via (A : Lay α) (f : β → α) (g : α → β) : Lay β where
 n := A.n
 lies w cs x bl := A.lies w cs (f x) bl
 len := A.len
 keep := A.keep
 lt := A.lt
 sz x := A.sz (f x)
 cnt x := A.cnt (f x)
 vcnt x := A.vcnt (f x)
 mkd k x := g (A.mkd k (f x))
 mkv k x := g (A.mkv k (f x))
def Reads (A : Lay α) (w : World) (cs : List Value) (x : α) : Prop := ∃ bl, A.lies w cs x bl
def LiesIn (A : Lay α) (w : World) (cs : List Value) (x : α) (lo hi : Nat) : Prop := ∃ bl, A.lies w cs x bl ∧ ∀ b ∈ bl, lo ≤ b ∧ b < hi
def Own (A : Lay α) (w : World) (cs : List Value) (x : α) (bl : List Nat) : Prop :=
 A.lies w cs x bl ∧ bl.Nodup ∧ ∀ b ∈ bl, ∀ o, w.frozen? ⟨b, o, none⟩ = false
def OwnIn (A : Lay α) (w : World) (cs : List Value) (x : α) (lo hi : Nat) : Prop := ∃ bl, A.Own w cs x bl ∧ ∀ b ∈ bl, lo ≤ b ∧ b < hi
variable {A : Lay α} {B : Lay β} {w w' : World} {cs : List Value} {x : α} {lo hi : Nat}
theorem Reads.later (h : A.Reads w cs x) (hb : Below w.heap.size w w') : A.Reads w' cs x := by
 obtain ⟨bl, h⟩ := h
 exact ⟨bl, A.keep h fun b hbl => hb.block b (A.lt h b hbl)⟩
theorem LiesIn.reads (h : A.LiesIn w cs x lo hi) : A.Reads w cs x := by obtain ⟨bl, h, -⟩ := h; exact ⟨bl, h⟩
theorem OwnIn.lies (h : A.OwnIn w cs x lo hi) : A.LiesIn w cs x lo hi := by obtain ⟨bl, ⟨h, -, -⟩, hl⟩ := h; exact ⟨bl, h, hl⟩
theorem OwnIn.reads (h : A.OwnIn w cs x lo hi) : A.Reads w cs x := h.lies.reads
theorem Reads.liesIn (h : A.Reads w cs x) : A.LiesIn w cs x 0 w.heap.size := by
 obtain ⟨bl, h⟩ := h
 exact ⟨bl, h, fun b hb => ⟨Nat.zero_le _, A.lt h b hb⟩⟩
theorem LiesIn.mono {lo' hi' : Nat} (h : A.LiesIn w cs x lo hi) (h1 : lo' ≤ lo) (h2 : hi ≤ hi') : A.LiesIn w cs x lo' hi' := by
 obtain ⟨bl, h, hl⟩ := h
 exact ⟨bl, h, fun b hb => ⟨by have := hl b hb; omega, by have := hl b hb; omega⟩⟩
theorem OwnIn.mono {lo' hi' : Nat} (h : A.OwnIn w cs x lo hi) (h1 : lo' ≤ lo) (h2 : hi ≤ hi') : A.OwnIn w cs x lo' hi' := by
 obtain ⟨bl, h, hl⟩ := h
 exact ⟨bl, h, fun b hb => ⟨by have := hl b hb; omega, by have := hl b hb; omega⟩⟩
theorem LiesIn.ext {S : Nat → Prop} (h : A.LiesIn w cs x lo hi) (e : Ext S w w') (hs : ∀ k, lo ≤ k → k < hi → ¬ S k) : A.LiesIn w' cs x lo hi := by
 obtain ⟨bl, h, hl⟩ := h
 exact ⟨bl, A.keep h fun b hb => e.block b (A.lt h b hb) (hs b (hl b hb).1 (hl b hb).2), hl⟩
theorem OwnIn.ext {S : Nat → Prop} (h : A.OwnIn w cs x lo hi) (e : Ext S w w') (hs : ∀ k, lo ≤ k → k < hi → ¬ S k) : A.OwnIn w' cs x lo hi := by
 obtain ⟨bl, ⟨h, hn, hf⟩, hl⟩ := h
 have hk : ∀ b ∈ bl, w'.heap[b]? = w.heap[b]? := fun b hb => e.block b (A.lt h b hb) (hs b (hl b hb).1 (hl b hb).2)
 exact ⟨bl, ⟨A.keep h hk, hn, fun b hb o => (frozen_of_heap (hk b hb) o).trans (hf b hb o)⟩, hl⟩
theorem LiesIn.later (h : A.LiesIn w cs x lo hi) (hb : Below w.heap.size w w') : A.LiesIn w' cs x lo hi := h.ext (ext_of_below hb nowhere) fun _ _ _ h => h
theorem OwnIn.later (h : A.OwnIn w cs x lo hi) (hb : Below w.heap.size w w') : A.OwnIn w' cs x lo hi := h.ext (ext_of_below hb nowhere) fun _ _ _ h => h
theorem Reads.drew (h : A.Reads w cs x) (n : Nat) : A.Reads (w.drewN n) cs x := h.later (below_drawn (Below.refl _ _) n)
theorem Reads.len (h : A.Reads w cs x) : cs.length = A.n := by obtain ⟨bl, h⟩ := h; exact A.len h
theorem ints_reads {v : Value} {zs : List Int} (h : (sl int).Reads w [v] zs) : IsInts w v zs := by
 obtain ⟨bl, ao, cap, hv, -, h⟩ := h
 obtain rfl : v = .slice ao zs.length cap := by simpa using hv
 rcases h with ⟨rfl, rfl⟩ | ⟨b, off, rows, bls, rfl, hb, rfl, hr, hl, hj⟩
 ·
  exact ⟨ao, cap, rfl, by simp, by simp⟩
 refine ⟨_, cap, rfl, fun z hz => ?_, fun _ => ⟨b, off, rfl, fun j hj1 => ?_⟩⟩
 ·
  obtain ⟨j, hjl, rfl⟩ := List.getElem_of_mem hz
  exact (hj j hjl (by omega) (by omega)).2.2.1
 obtain ⟨h1, h2, -, -⟩ := hj j hj1 (by omega) (by omega)
 have := h1 0 (by decide)
 rw [h2] at this
 simpa [List.getD, hj1, Lay.int] using this
theorem lies_ints {v : Value} {zs : List Int} {bl : List Nat} : (sl int).lies w [v] zs bl ↔ ∃ ao cap, v = .slice ao zs.length cap ∧ (zs.length ≤ cap ∧ zs.length ≤ 9223372036854775807) ∧ (∀ z ∈ zs, (Lit.int .i64 z).wf = true) ∧
  ((zs = [] ∧ bl = []) ∨ ∃ b off, ao = some ⟨b, off, none⟩ ∧ b < w.heap.size ∧ bl = [b] ∧ ∀ j, j < zs.length → w.cell? ⟨b, off + j, none⟩ = some (.int .i64 (zs.getD j 0))) := by
 constructor
 ·
  rintro ⟨ao, cap, hv, hbig, h⟩
  obtain rfl : v = .slice ao zs.length cap := by simpa using hv
  rcases h with ⟨rfl, rfl⟩ | ⟨b, off, rows, bls, rfl, hb, rfl, hr, hl, hj⟩
  ·
   exact ⟨ao, cap, rfl, hbig, by simp, Or.inl ⟨rfl, rfl⟩⟩
  refine ⟨_, cap, rfl, hbig, fun z hz => ?_, Or.inr ⟨b, off, rfl, hb, ?_, fun j hj1 => ?_⟩⟩
  ·
   obtain ⟨j, hjl, rfl⟩ := List.getElem_of_mem hz
   exact (hj j hjl (by omega) (by omega)).2.2.1
  ·
   have e2 : bls.flatten = [] := by
    rw [List.flatten_eq_nil_iff]
    intro l hl
    obtain ⟨j, hjl, rfl⟩ := List.getElem_of_mem hl
    exact (hj j (by omega) (by omega) hjl).2.2.2
   rw [e2]
  obtain ⟨h1, h2, -, -⟩ := hj j hj1 (by omega) (by omega)
  have := h1 0 (by decide)
  rw [h2] at this
  simpa [List.getD, hj1, Lay.int] using this
 rintro ⟨ao, cap, rfl, hbig, hwf, h⟩
 refine ⟨ao, cap, rfl, hbig, ?_⟩
 rcases h with ⟨rfl, rfl⟩ | ⟨b, off, rfl, hb, rfl, hc⟩
 ·
  exact Or.inl ⟨rfl, rfl⟩
 refine Or.inr ⟨b, off, zs.map (fun z => [.int .i64 z]), List.replicate zs.length [], rfl, hb, by simp, by simp, by simp, fun j h1 h2 h3 => ⟨fun m hm => ?_, ?_⟩⟩
 ·
  obtain rfl : m = 0 := by simp only [Lay.int] at hm; omega
  have := hc j h1
  simpa [List.getD, h1, Lay.int] using this
 exact ⟨by simp, hwf _ (List.getElem_mem _), by simp⟩
theorem reads_ints {v : Value} {zs : List Int} (h : IsInts w v zs) (hcap : ∀ ao cap, v = .slice ao zs.length cap → zs.length ≤ cap) (hbig : zs.length ≤ 9223372036854775807) : (sl int).Reads w [v] zs := by
 obtain ⟨ao, cap, rfl, hwf, hc⟩ := h
 have hcp := hcap _ _ rfl
 by_cases hp : 0 < zs.length
 ·
  obtain ⟨b, off, rfl, hc1⟩ := hc hp
  exact ⟨[b], lies_ints.2 ⟨_, cap, rfl, ⟨hcp, hbig⟩, hwf, Or.inr ⟨b, off, rfl, World.block_lt_of_cell? _ _ (hc1 0 hp), rfl, hc1⟩⟩⟩
 obtain rfl : zs = [] := List.eq_nil_of_length_eq_zero (by omega)
 exact ⟨[], lies_ints.2 ⟨ao, cap, rfl, ⟨hcp, hbig⟩, by simp, Or.inl ⟨rfl, rfl⟩⟩⟩
theorem Reads.cap {A : Lay α} {ao : Option Addr} {n cap : Nat} {xs : List α} (h : (sl A).Reads w [.slice ao n cap] xs) : n = xs.length ∧ n ≤ cap := by
 obtain ⟨bl, ao', cap', e, hb, -⟩ := h
 simp only [List.cons.injEq, Value.slice.injEq, and_true] at e
 obtain ⟨-, rfl, rfl⟩ := e
 exact ⟨rfl, hb.1⟩
theorem Reads.big {A : Lay α} {v : Value} {xs : List α} (h : (sl A).Reads w [v] xs) : xs.length ≤ 9223372036854775807 := by
 obtain ⟨bl, ao, cap, -, hb, -⟩ := h
 exact hb.2
theorem ownInts {v : Value} {zs : List Int} {base T : Nat} (hwf : ∀ z ∈ zs, (Lit.int .i64 z).wf = true) (hbig : zs.length ≤ 9223372036854775807) (h : w.ownsRow base T 1 v zs.length (zs.map (Value.int .i64))) : (sl int).OwnIn w [v] zs base w.heap.size := by
 have hi := isInts_row hwf h
 rcases h.2 with ⟨rfl, h0⟩ | ⟨g, cap, cur, rfl, hg, hh, hcap, _⟩
 ·
  obtain rfl : zs = [] := List.eq_nil_of_length_eq_zero h0
  exact ⟨[], ⟨lies_ints.2 ⟨none, 0, rfl, ⟨by simp, hbig⟩, by simp, Or.inl ⟨rfl, rfl⟩⟩, by simp, by simp⟩, by simp⟩
 by_cases hp : 0 < zs.length
 ·
  obtain ⟨ao, cp, hv, hwf, hc⟩ := hi
  obtain ⟨b, off, rfl, hc1⟩ := hc hp
  simp only [Value.slice.injEq, Option.some.injEq, Addr.mk.injEq, and_true, true_and] at hv
  obtain ⟨⟨rfl, rfl⟩, rfl⟩ := hv
  refine ⟨[g], ⟨lies_ints.2 ⟨_, cap, rfl, ⟨hcap, hbig⟩, hwf, Or.inr ⟨g, 0, rfl, lt_of_block hh, rfl, hc1⟩⟩, by simp, ?_⟩, ?_⟩
  ·
   intro b hb o
   obtain rfl : b = g := by simpa using hb
   simp [World.frozen?, hh]
  intro b hb
  obtain rfl : b = g := by simpa using hb
  exact ⟨hg, lt_of_block hh⟩
 obtain rfl : zs = [] := List.eq_nil_of_length_eq_zero (by omega)
 exact ⟨[], ⟨lies_ints.2 ⟨_, _, rfl, ⟨hcap, hbig⟩, by simp, Or.inl ⟨rfl, rfl⟩⟩, by simp, by simp⟩, by simp⟩
theorem Own.ext {S : Nat → Prop} {bl : List Nat} (h : A.Own w cs x bl) (e : Ext S w w') (hs : ∀ b ∈ bl, ¬ S b) : A.Own w' cs x bl := by
 obtain ⟨h, hn, hf⟩ := h
 have hk : ∀ b ∈ bl, w'.heap[b]? = w.heap[b]? := fun b hb => e.block b (A.lt h b hb) (hs b hb)
 exact ⟨A.keep h hk, hn, fun b hb o => (frozen_of_heap (hk b hb) o).trans (hf b hb o)⟩
theorem Own.later {bl : List Nat} (h : A.Own w cs x bl) (hb : Below w.heap.size w w') : A.Own w' cs x bl := h.ext (ext_of_below hb nowhere) fun _ _ h => h
theorem Own.reads {bl : List Nat} (h : A.Own w cs x bl) : A.Reads w cs x := ⟨bl, h.1⟩
theorem Own.lt {bl : List Nat} (h : A.Own w cs x bl) : ∀ b ∈ bl, b < w.heap.size := A.lt h.1
end Lay
theorem Box.at {lo : Nat} {cs : Array Value} {T : TypeId} {W : World} {s : Nat} (h : Box lo cs T W s) (i : Nat) (v : Value) (hi : cs[i]? = some v) : W.cell? ⟨s, i, none⟩ = some v := by
 simp [World.cell?, h.2, hi]
theorem Box.soft {lo : Nat} {cs : Array Value} {T : TypeId} {W : World} {s : Nat} (h : Box lo cs T W s) : ∀ o, W.frozen? ⟨s, o, none⟩ = false := fun o => by simp [World.frozen?, h.2]
theorem Box.ext {S : Nat → Prop} {lo : Nat} {cs : Array Value} {T : TypeId} {W w' : World} {s : Nat} (h : Box lo cs T W s) (e : Ext S W w') (hs : ¬ S s) : Box lo cs T w' s := ⟨h.1, (e.block s h.lt hs).trans h.2⟩
theorem Box.grow {lo : Nat} {cs : Array Value} {T : TypeId} {W : World} {s : Nat} (h : Box lo cs T W s) (o : Obj) : Box lo cs T (W.alloc o) s := h.keep ((Below.refl _ _).alloc (Nat.le_refl _) o)
theorem newBoxAt {lo s : Nat} {cs : Array Value} {T : TypeId} {W : World} (h : lo ≤ s) (hs : W.heap.size = s) : Box lo cs T (W.alloc (.cells cs T)) s := by subst hs; exact newBox h
theorem Box.set {lo : Nat} {cs : Array Value} {T : TypeId} {W : World} {s : Nat} (h : Box lo cs T W s) (i : Nat) (v : Value) : Box lo (cs.setIfInBounds i v) T (W.setCell ⟨s, i, none⟩ v) s := by
 refine ⟨h.1, ?_⟩
 simp [World.setCell, Array.getElem?_modify, h.2]
def setAll (W : World) (s : Nat) : Nat → List Value → World
 | _, [] => W
 | i, v :: vs => setAll (W.setCell ⟨s, i, none⟩ v) s (i + 1) vs
theorem ext_setAll (S : Nat → Prop) {a W : World} (h : Ext S a W) (s i : Nat) (vs : List Value) (hs : S s) : Ext S a (setAll W s i vs) := by
 induction vs generalizing W i with
 | nil => exact h
 | cons v vs ih => exact ih (h.setCell ⟨s, i, none⟩ v hs) (i + 1)
theorem below_setAll {B : Nat} {a W : World} (h : Below B a W) (s i : Nat) (vs : List Value) (hs : B ≤ s) : Below B a (setAll W s i vs) := by
 induction vs generalizing W i with
 | nil => exact h
 | cons v vs ih => exact ih (h.setCell (by simpa using hs) v) (i + 1)
theorem size_setAll (W : World) (s i : Nat) (vs : List Value) : (setAll W s i vs).heap.size = W.heap.size := by
 induction vs generalizing W i with
 | nil => rfl
 | cons v vs ih => rw [setAll, ih]; simp
def setL (W : World) (s : Nat) : List (Nat × Value) → World
 | [] => W
 | p :: ps => setL (W.setCell ⟨s, p.1, none⟩ p.2) s ps
theorem ext_setL {S : Nat → Prop} {a W : World} (h : Ext S a W) (s : Nat) (ps : List (Nat × Value)) (hs : S s) : Ext S a (setL W s ps) := by
 induction ps generalizing W with
 | nil => exact h
 | cons p ps ih => exact ih (h.setCell ⟨s, p.1, none⟩ p.2 hs)
theorem open_sl {α : Type} {A : Lay α} {w : World} {v : Value} {xs : List α} (h : (Lay.sl A).Reads w [v] xs) : ∃ ao cap, v = .slice ao xs.length cap := by
 obtain ⟨bl, ao, cap, e, -⟩ := h
 exact ⟨ao, cap, by simpa using e⟩
def Few {α : Type} (A : Lay α) (K : Nat) : Prop := ∀ x, A.cnt x ≤ K * (1 + A.sz x) ∧ A.vcnt x ≤ K * (1 + A.sz x)
theorem few_int : Few Lay.int 1 := fun _ => by simp [Lay.int]
theorem few_bool : Few Lay.bool 1 := fun _ => by simp [Lay.bool]
theorem few_pair {α β : Type} {A : Lay α} {B : Lay β} {K L : Nat} (h : Few A K) (k : Few B L) : Few (Lay.pair A B) (K + L) := by
 intro x
 have h1 := h x.1
 have h2 := k x.2
 have e1 : K * (1 + A.sz x.1) ≤ K * (1 + (A.sz x.1 + B.sz x.2)) := Nat.mul_le_mul_left _ (by omega)
 have e2 : L * (1 + B.sz x.2) ≤ L * (1 + (A.sz x.1 + B.sz x.2)) := Nat.mul_le_mul_left _ (by omega)
 constructor
 ·
  show A.cnt x.1 + B.cnt x.2 ≤ (K + L) * (1 + (A.sz x.1 + B.sz x.2))
  rw [Nat.add_mul]
  omega
 show A.vcnt x.1 + B.vcnt x.2 ≤ (K + L) * (1 + (A.sz x.1 + B.sz x.2))
 rw [Nat.add_mul]
 omega
theorem few_sl {α : Type} {A : Lay α} {K : Nat} (h : Few A K) : Few (Lay.sl A) K := by
 intro xs
 have e : cntAll A.cnt xs ≤ K * (xs.length + cntAll A.sz xs) := by
  induction xs with
  | nil => simp [cntAll]
  | cons x xs ih =>
   have hx := (h x).1
   simp only [cntAll, List.length_cons]
   have : K * (xs.length + 1 + (A.sz x + cntAll A.sz xs)) = K * (1 + A.sz x) + K * (xs.length + cntAll A.sz xs) := by rw [← Nat.mul_add]; congr 1; omega
   omega
 have e2 : K * (xs.length + cntAll A.sz xs) ≤ K * (1 + (xs.length + cntAll A.sz xs)) := Nat.mul_le_mul_left _ (by omega)
 exact ⟨Nat.le_trans e e2, Nat.le_trans e e2⟩
theorem few_via {α β : Type} {A : Lay α} {f : β → α} {g : α → β} {K : Nat} (h : Few A K) : Few (Lay.via A f g) K := fun x => h (f x)
theorem few_bound {α : Type} {A : Lay α} {K : Nat} (h : Few A K) {x : α} (hs : A.sz x ≤ 1048576) (hK : K ≤ 60) : A.vcnt x ≤ 100000000 := by
 have := (h x).2
 have : K * (1 + A.sz x) ≤ 60 * (1 + A.sz x) := Nat.mul_le_mul_right _ hK
 omega
theorem within_out {lo hi lo' hi' : Nat} (h : hi ≤ lo' ∨ hi' ≤ lo) : ∀ k, lo ≤ k → k < hi → ¬ within lo' hi' k := fun k h1 h2 h3 => by simp only [within] at h3; omega
def szR (l n : Nat) : Int := if n ≤ l then ((l - n : Nat) : Int) else -1
theorem szR_ok {l n : Nat} (h : n ≤ l) : szR l n = ((l - n : Nat) : Int) := if_pos h
theorem szR_many {l n : Nat} (h : l < n) : szR l n = -1 := if_neg (by omega)
namespace Lay
variable {α β : Type} {A : Lay α} {B : Lay β} {w w' : World}
theorem ownIn_int {z : Int} {lo hi : Nat} (h : (Lit.int .i64 z).wf = true) : Lay.int.OwnIn w [.int .i64 z] z lo hi := ⟨[], ⟨⟨rfl, h, rfl⟩, by simp, by simp⟩, by simp⟩
theorem ownIn_bool {b : Bool} {lo hi : Nat} : Lay.bool.OwnIn w [.bool b] b lo hi := ⟨[], ⟨⟨rfl, rfl⟩, by simp, by simp⟩, by simp⟩
theorem ownIn_pair {c1 c2 : List Value} {x : α} {y : β} {lo m m' hi : Nat} (h : A.OwnIn w c1 x lo m) (k : B.OwnIn w c2 y m' hi) (hm : m ≤ m') (hlo : lo ≤ m') (hhi : m ≤ hi) : (Lay.pair A B).OwnIn w (c1 ++ c2) (x, y) lo hi := by
 obtain ⟨b1, ⟨l1, n1, f1⟩, i1⟩ := h
 obtain ⟨b2, ⟨l2, n2, f2⟩, i2⟩ := k
 refine ⟨b1 ++ b2, ⟨⟨c1, c2, b1, b2, rfl, rfl, l1, l2⟩, ?_, ?_⟩, ?_⟩
 ·
  rw [List.nodup_append]
  exact ⟨n1, n2, fun a ha b hb e => by have := i1 a ha; have := i2 b hb; omega⟩
 ·
  intro b hb
  rcases List.mem_append.1 hb with h | h
  ·
   exact f1 b h
  exact f2 b h
 intro b hb
 rcases List.mem_append.1 hb with h | h
 ·
  have := i1 b h; omega
 have := i2 b h; omega
theorem toldOwn {w : World} {cs : List Value} {x : α} {lo hi : Nat} (own : A.OwnIn w' cs x lo hi) (hlo : w.heap.size ≤ lo) (hhi : hi ≤ w'.heap.size) (hb : Below w.heap.size w w') :
  ∃ cs', Ending.returned (.agg cs.toArray) = .returned (.agg cs'.toArray) ∧ A.OwnIn w' cs' x w.heap.size w'.heap.size ∧ Below w.heap.size w w' := ⟨cs, rfl, own.mono hlo hhi, hb⟩
def Subs (A : Lay α) (w : World) (rows : List (List Value)) (xs : List α) (lo hi : Nat) : Prop :=
 ∃ bls : List (List Nat), rows.length = xs.length ∧ bls.length = xs.length ∧ (∀ j (h1 : j < xs.length) (h2 : j < rows.length) (h3 : j < bls.length), A.lies w rows[j] xs[j] bls[j]) ∧
  bls.flatten.Nodup ∧ (∀ b ∈ bls.flatten, lo ≤ b ∧ b < hi) ∧ ∀ b ∈ bls.flatten, ∀ o, w.frozen? ⟨b, o, none⟩ = false
theorem subs_nil {lo hi : Nat} : Subs A w [] [] lo hi := ⟨[], rfl, rfl, fun j h => by simp at h, by simp, by simp, by simp⟩
theorem subs_snoc {rows : List (List Value)} {xs : List α} {row : List Value} {x : α} {lo hi lo' hi' : Nat} (h : Subs A w rows xs lo hi) (k : A.OwnIn w row x lo' hi') (h1 : hi ≤ lo') (h2 : lo ≤ lo') (h3 : hi ≤ hi') : Subs A w (rows ++ [row]) (xs ++ [x]) lo hi' := by
 obtain ⟨bls, hr, hb, hl, hn, hi, hf⟩ := h
 obtain ⟨bl, ⟨l, n, f⟩, i⟩ := k
 refine ⟨bls ++ [bl], by simp [hr], by simp [hb], fun j j1 j2 j3 => ?_, ?_, ?_, ?_⟩
 ·
  by_cases hj : j < xs.length
  ·
   have e := hl j hj (by omega) (by omega)
   rw [List.getElem_append_left (by omega), List.getElem_append_left hj, List.getElem_append_left (by omega)]
   exact e
  obtain rfl : j = xs.length := by simp at j1; omega
  rw [List.getElem_append_right (by omega), List.getElem_append_right (by omega), List.getElem_append_right (by omega)]
  simpa using l
 ·
  rw [List.flatten_append, List.nodup_append]
  refine ⟨hn, by simpa using n, fun a ha b hb e => ?_⟩
  have := hi a ha
  have := i b (by simpa using hb)
  omega
 ·
  intro b hb
  rw [List.flatten_append] at hb
  rcases List.mem_append.1 hb with h | h
  ·
   have := hi b h; omega
  have := i b (by simpa using h); omega
 intro b hb
 rw [List.flatten_append] at hb
 rcases List.mem_append.1 hb with h | h
 ·
  exact hf b h
 exact f b (by simpa using h)
theorem subs_ext {rows : List (List Value)} {xs : List α} {lo hi : Nat} {S : Nat → Prop} (h : Subs A w rows xs lo hi) (e : Ext S w w') (hs : ∀ k, lo ≤ k → k < hi → ¬ S k) : Subs A w' rows xs lo hi := by
 obtain ⟨bls, hr, hb, hl, hn, hi, hf⟩ := h
 have hlt : ∀ b ∈ bls.flatten, b < w.heap.size := by
  intro b hm
  obtain ⟨l, h1, h2⟩ := List.mem_flatten.1 hm
  obtain ⟨j, hj, rfl⟩ := List.getElem_of_mem h1
  exact A.lt (hl j (by omega) (by omega) hj) b h2
 have hk : ∀ b ∈ bls.flatten, w'.heap[b]? = w.heap[b]? := fun b hm => e.block b (hlt b hm) (hs b (hi b hm).1 (hi b hm).2)
 exact ⟨bls, hr, hb, fun j h1 h2 h3 => A.keep (hl j h1 h2 h3) fun b hm => hk b (List.mem_flatten.2 ⟨_, List.getElem_mem _, hm⟩), hn, hi, fun b hm o => (frozen_of_heap (hk b hm) o).trans (hf b hm o)⟩
theorem subs_len {rows : List (List Value)} {xs : List α} {lo hi : Nat} (h : Subs A w rows xs lo hi) : rows.flatten.length = xs.length * A.n ∧ rows.length = xs.length := by
 obtain ⟨bls, hr, hb, hl, -⟩ := h
 refine ⟨?_, hr⟩
 rw [← hr]
 have : ∀ r ∈ rows, r.length = A.n := by
  intro r hm
  obtain ⟨j, hj, rfl⟩ := List.getElem_of_mem hm
  exact A.len (hl j (by omega) hj (by omega))
 clear hr hb hl
 induction rows with
 | nil => simp
 | cons r rows ih =>
  rw [List.flatten_cons, List.length_append, this r (by simp), ih fun q hq => this q (List.mem_cons_of_mem _ hq), List.length_cons, Nat.add_mul]
  omega
theorem flat_at {rows : List (List Value)} {n : Nat} (h : ∀ r ∈ rows, r.length = n) (j m : Nat) (hj : j < rows.length) (hm : m < n) : rows.flatten[j * n + m]? = rows[j][m]? := by
 induction rows generalizing j with
 | nil => simp at hj
 | cons r rows ih =>
  have hr := h r (by simp)
  rw [List.flatten_cons]
  match j with
  | 0 =>
   rw [List.getElem?_append_left (by omega)]
   simp
  | j + 1 =>
   rw [List.getElem?_append_right (by rw [hr, Nat.add_mul]; omega), hr, show (j + 1) * n + m - n = j * n + m by rw [Nat.add_mul]; omega]
   rw [ih (fun q hq => h q (List.mem_cons_of_mem _ hq)) j (by simpa using hj)]
   simp
theorem subs_done {rows : List (List Value)} {xs : List α} {base T g cap lo hi : Nat} (hown : w.ownsRow base T A.n (.slice (some ⟨g, 0, none⟩) xs.length cap) xs.length rows.flatten) (h : Subs A w rows xs lo hi) (hg : g < lo) (hhi : hi ≤ w.heap.size) (hn : xs.length ≤ 9223372036854775807) :
  (sl A).OwnIn w [.slice (some ⟨g, 0, none⟩) xs.length cap] xs base w.heap.size := by
 obtain ⟨bls, hr, hb, hl, hnd, hi', hf⟩ := h
 have hlg := hown.lt g rfl
 have hle : ∀ r ∈ rows, r.length = A.n := by
  intro r hm
  obtain ⟨j, hj, rfl⟩ := List.getElem_of_mem hm
  exact A.len (hl j (by omega) hj (by omega))
 have hcap : xs.length ≤ cap := by
  rcases hown.2 with ⟨e, -⟩ | ⟨g', cap', cur, e, -, -, hc, -⟩
  ·
   simp at e
  simp only [Value.slice.injEq] at e
  obtain ⟨-, -, rfl⟩ := e
  exact hc
 by_cases h0 : xs = []
 ·
  subst h0
  exact ⟨[], ⟨⟨_, _, rfl, ⟨hcap, hn⟩, Or.inl ⟨rfl, rfl⟩⟩, by simp, by simp⟩, by simp⟩
 refine ⟨g :: bls.flatten, ⟨⟨_, _, rfl, ⟨hcap, hn⟩, Or.inr ⟨g, 0, rows, bls, rfl, hlg.2, rfl, hr, hb, fun j h1 h2 h3 => ⟨fun m hm => ?_, hl j h1 h2 h3⟩⟩⟩, ?_, ?_⟩, ?_⟩
 ·
  rw [Nat.zero_add, hown.cellAt (j * A.n + m) (by
   have : (j + 1) * A.n ≤ xs.length * A.n := Nat.mul_le_mul_right _ (by omega)
   rw [Nat.add_mul] at this
   omega)]
  exact flat_at hle j m h2 hm
 ·
  rw [List.nodup_cons]
  exact ⟨fun hm => by have := hi' g hm; omega, hnd⟩
 ·
  intro b hm o
  rcases List.mem_cons.1 hm with rfl | hm
  ·
   exact hown.frozenAt o
  exact hf b hm o
 intro b hm
 rcases List.mem_cons.1 hm with rfl | hm
 ·
  exact hlg
 have := hi' b hm; omega
theorem row_at {xs : List α} {b off cap k : Nat} (h : (sl A).Reads w [.slice (some ⟨b, off, none⟩) xs.length cap] xs) (hk : k < xs.length) : ∃ row, (∀ m, m < A.n → w.cell? ⟨b, off + k * A.n + m, none⟩ = row[m]?) ∧ A.Reads w row xs[k] := by
 obtain ⟨bl, ao, cp, e, -, h⟩ := h
 simp only [List.cons.injEq, Value.slice.injEq, and_true] at e
 obtain ⟨rfl, -, rfl⟩ := e
 rcases h with ⟨rfl, -⟩ | ⟨b', off', rows, bls, e2, hb, rfl, hr, hl, hj⟩
 ·
  simp at hk
 simp only [Option.some.injEq, Addr.mk.injEq, and_true] at e2
 obtain ⟨rfl, rfl⟩ := e2
 exact ⟨_, (hj k hk (by omega) (by omega)).1, ⟨_, (hj k hk (by omega) (by omega)).2⟩⟩
theorem sl_addr {xs : List α} {ao : Option Addr} {n cap : Nat} (h : (sl A).Reads w [.slice ao n cap] xs) (hp : 0 < xs.length) : ∃ b off, ao = some ⟨b, off, none⟩ ∧ b < w.heap.size := by
 obtain ⟨bl, ao', cp, e, -, h⟩ := h
 simp only [List.cons.injEq, Value.slice.injEq, and_true] at e
 obtain ⟨rfl, -, rfl⟩ := e
 rcases h with ⟨rfl, -⟩ | ⟨b', off', rows, bls, e2, hb, rfl, hr, hl, hj⟩
 ·
  simp at hp
 exact ⟨b', off', e2, hb⟩
theorem sz_elem {xs : List α} {k : Nat} (hk : k < xs.length) : A.sz xs[k] ≤ (sl A).sz xs := by
 show A.sz xs[k] ≤ xs.length + cntAll A.sz xs
 have : A.sz xs[k] ≤ cntAll A.sz xs := by
  induction xs generalizing k with
  | nil => simp at hk
  | cons x xs ih =>
   match k with
   | 0 => simp [cntAll]
   | k + 1 =>
    have := ih (k := k) (by simpa using hk)
    simp only [cntAll, List.getElem_cons_succ]
    omega
 omega
theorem sz_len {xs : List α} : xs.length ≤ (sl A).sz xs := Nat.le_add_right _ _
theorem cntAll_take {f : α → Nat} {xs : List α} {k : Nat} (hk : k < xs.length) : cntAll f (xs.take (k + 1)) = cntAll f (xs.take k) + f xs[k] := by
 induction xs generalizing k with
 | nil => simp at hk
 | cons x xs ih =>
  match k with
  | 0 => simp [cntAll]
  | k + 1 =>
   have := ih (k := k) (by simpa using hk)
   simp only [List.take_succ_cons, cntAll, List.getElem_cons_succ]
   omega
theorem cntAll_take_le {f : α → Nat} {xs : List α} {k : Nat} : cntAll f (xs.take k) ≤ cntAll f xs := by
 induction xs generalizing k with
 | nil => simp
 | cons x xs ih =>
  match k with
  | 0 => simp [cntAll]
  | k + 1 =>
   have := ih (k := k)
   simp only [List.take_succ_cons, cntAll]
   omega
end Lay
def setFrom (xs : List Value) : Nat → List Value → List Value
 | _, [] => xs
 | i, v :: vs => setFrom (xs.set i v) (i + 1) vs
theorem setFrom_app (P Q vs : List Value) (h : vs.length ≤ Q.length) : setFrom (P ++ Q) P.length vs = P ++ vs ++ Q.drop vs.length := by
 induction vs generalizing P Q with
 | nil => simp [setFrom]
 | cons v vs ih =>
  match Q, h with
  | q :: Q, h =>
   rw [setFrom, List.set_append_right _ _ (Nat.le_refl _), Nat.sub_self, List.set_cons_zero]
   have := ih (P ++ [v]) Q (by simpa using h)
   simp only [List.length_append, List.length_cons, List.length_nil, Nat.zero_add] at this
   rw [show P ++ v :: Q = P ++ [v] ++ Q by simp, this]
   simp
theorem own_setAll {w : World} {base e size g n cap : Nat} {xs : List Value} (h : w.ownsRow base e size (.slice (some ⟨g, 0, none⟩) n cap) n xs) (i : Nat) (vs : List Value) : (setAll w g i vs).ownsRow base e size (.slice (some ⟨g, 0, none⟩) n cap) n (setFrom xs i vs) := by
 induction vs generalizing w i xs with
 | nil => exact h
 | cons v vs ih => exact ih (h.stored i v).1 (i + 1)
theorem nodup_flat {bls : List (List Nat)} (h : bls.flatten.Nodup) : (∀ l ∈ bls, l.Nodup) ∧ ∀ i j (hi : i < bls.length) (hj : j < bls.length), i ≠ j → ∀ c ∈ bls[i], c ∉ bls[j] := by
 induction bls with
 | nil => exact ⟨by simp, fun i j hi => by simp at hi⟩
 | cons l ls ih =>
  rw [List.flatten_cons, List.nodup_append] at h
  obtain ⟨h1, h2, h3⟩ := h
  obtain ⟨k1, k2⟩ := ih h2
  have hm : ∀ j (hj : j < ls.length), ∀ c ∈ l, c ∉ ls[j] := fun j hj c hc hq => h3 c hc c (List.mem_flatten.2 ⟨_, List.getElem_mem hj, hq⟩) rfl
  refine ⟨fun q hq => ?_, fun i j hi hj hne c hc hq => ?_⟩
  ·
   rcases List.mem_cons.1 hq with rfl | hq
   ·
    exact h1
   exact k1 q hq
  match i, j, hi, hj, hne with
  | 0, j + 1, _, hj, _ => exact hm j (by simpa using hj) c (by simpa using hc) (by simpa using hq)
  | i + 1, 0, hi, _, _ => exact hm i (by simpa using hi) c (by simpa using hq) (by simpa using hc)
  | i + 1, j + 1, hi, hj, hne => exact k2 i j (by simpa using hi) (by simpa using hj) (by omega) c (by simpa using hc) (by simpa using hq)
structure RowAt (w c : World) (b o n : Nat) (cs : List Value) (blk : List Nat) : Prop where
 len : cs.length = n
 cells : ∀ m, m < n → c.cell? ⟨b, o + m, none⟩ = cs[m]?
 others : ∀ q, (q < o ∨ o + n ≤ q) → c.cell? ⟨b, q, none⟩ = w.cell? ⟨b, q, none⟩
 soft : ∀ q, c.frozen? ⟨b, q, none⟩ = false
 lt : b < c.heap.size
 ext : Ext (fun q => q = b ∨ q ∈ blk) w c
theorem RowAt.at {w c : World} {b o n : Nat} {cs : List Value} {blk : List Nat} (h : RowAt w c b o n cs blk) (m : Nat) (v : Value) (hv : cs[m]? = some v) : c.cell? ⟨b, o + m, none⟩ = some v := by
 have : m < n := by rw [← h.len]; exact (List.getElem?_eq_some_iff.1 hv).1
 rw [h.cells m this, hv]
theorem RowAt.set {w c : World} {b o n : Nat} {cs : List Value} {blk : List Nat} (h : RowAt w c b o n cs blk) (m : Nat) (v : Value) (hm : m < n) : RowAt w (c.setCell ⟨b, o + m, none⟩ v) b o n (cs.set m v) blk := by
 refine ⟨by simpa using h.len, fun j hj => ?_, fun q hq => ?_, fun q => by simpa using h.soft q, by simpa using h.lt, h.ext.setCell _ _ (Or.inl rfl)⟩
 ·
  by_cases e : j = m
  ·
   subst e
   have hc := h.cells j hj
   have : ∃ u, c.cell? ⟨b, o + j, none⟩ = some u := ⟨_, hc.trans (List.getElem?_eq_getElem (by rw [h.len]; exact hj))⟩
   obtain ⟨u, hu⟩ := this
   rw [World.cell?_setCell_same _ _ _ hu, List.getElem?_set_self (by rw [h.len]; exact hj)]
  rw [World.cell?_setCell_other _ _ _ _ (fun q => by have := congrArg Addr.off q; simp only at this; omega), h.cells j hj, List.getElem?_set_ne (by omega)]
 rw [World.cell?_setCell_other _ _ _ _ (fun e => by have := congrArg Addr.off e; simp only at this; omega)]
 exact h.others q hq
theorem RowAt.call {w c c' : World} {b o n : Nat} {cs : List Value} {blk g : List Nat} (h : RowAt w c b o n cs blk) (e : Ext (fun q => q ∈ g) c c') (hg : ∀ q ∈ g, q ∈ blk) (hb : b ∉ g) : RowAt w c' b o n cs blk := by
 have hh := e.block b h.lt hb
 exact ⟨h.len, fun m hm => (cell_of_heap hh _).trans (h.cells m hm), fun q hq => (cell_of_heap hh _).trans (h.others q hq), fun q => (frozen_of_heap hh _).trans (h.soft q), Nat.lt_of_lt_of_le h.lt e.size, h.ext.trans (e.mono fun q _ hq => Or.inr (hg q hq))⟩
namespace Lay
variable {α : Type} {A : Lay α} {w : World}
theorem own_upd {xs : List α} {b off cap k n : Nat} {bl : List Nat} (h : (sl A).Own w [.slice (some ⟨b, off, none⟩) n cap] xs bl) (hk : k < xs.length) :
  ∃ row blk, RowAt w w b (off + k * A.n) A.n row blk ∧ A.Own w row xs[k] blk ∧ b ∉ blk ∧
   (∀ c, (b = c ∨ c ∈ blk) → c ∈ bl) ∧ ∀ w' row' x', RowAt w w' b (off + k * A.n) A.n row' blk → A.Own w' row' x' blk → (sl A).Own w' [.slice (some ⟨b, off, none⟩) n cap] (xs.set k x') bl := by
 obtain ⟨⟨ao, cp, e, hsz, hl⟩, hnd, hf⟩ := h
 simp only [List.cons.injEq, Value.slice.injEq, and_true] at e
 obtain ⟨rfl, rfl, rfl⟩ := e
 rcases hl with ⟨rfl, -⟩ | ⟨b', off', rows, bls, e2, hb, rfl, hr, hbl, hj⟩
 ·
  simp at hk
 simp only [Option.some.injEq, Addr.mk.injEq, and_true] at e2
 obtain ⟨rfl, rfl⟩ := e2
 have hk1 : k < rows.length := by omega
 have hk2 : k < bls.length := by omega
 obtain ⟨hc, hlie⟩ := hj k hk hk1 hk2
 rw [List.nodup_cons] at hnd
 have hmem : ∀ c ∈ bls[k], c ∈ bls.flatten := fun c hc => List.mem_flatten.2 ⟨_, List.getElem_mem _, hc⟩
 have hb0 : b ∉ bls[k] := fun hm => hnd.1 (hmem b hm)
 have hfl := nodup_flat hnd.2
 refine ⟨rows[k], bls[k], ⟨A.len hlie, hc, fun _ _ => rfl, fun q => hf b (by simp) q, hb, Ext.refl _ _⟩, ⟨hlie, hfl.1 _ (List.getElem_mem _), fun c hm => hf c (by simp [hmem c hm])⟩, hb0, ?_, ?_⟩
 ·
  rintro c (rfl | hm)
  ·
   simp
  simp [hmem c hm]
 intro w' row' x' hR hO
 have hkeep : ∀ c, c < w.heap.size → c ≠ b → c ∉ bls[k] → w'.heap[c]? = w.heap[c]? := fun c hlt h1 h2 => hR.ext.block c hlt (by rintro (h | h); exact h1 h; exact h2 h)
 have hother : ∀ j (h1 : j < bls.length), j ≠ k → ∀ c ∈ bls[j], c ≠ b ∧ c ∉ bls[k] := by
  intro j h1 hne c hm
  refine ⟨fun e => hnd.1 (e ▸ List.mem_flatten.2 ⟨_, List.getElem_mem h1, hm⟩), fun hm2 => ?_⟩
  exact hfl.2 j k h1 hk2 hne c hm hm2
 refine ⟨⟨some ⟨b, off, none⟩, cap, by simp, by simpa using hsz, Or.inr ⟨b, off, rows.set k row', bls, rfl, hR.lt, rfl, by simpa using hr, by simpa using hbl, fun j h1 h2 h3 => ?_⟩⟩, ?_, ?_⟩
 ·
  have h1' : j < xs.length := by simpa using h1
  have h2' : j < rows.length := by simpa using h2
  by_cases e : j = k
  ·
   subst e
   rw [List.getElem_set_self, List.getElem_set_self]
   exact ⟨hR.cells, hO.1⟩
  rw [List.getElem_set_ne (by omega), List.getElem_set_ne (by omega)]
  obtain ⟨c1, c2⟩ := hj j h1' h2' h3
  refine ⟨fun m hm => ?_, A.keep c2 fun c hm => hkeep c (A.lt c2 c hm) (hother j h3 e c hm).1 (hother j h3 e c hm).2⟩
  rw [hR.others _ ?_]
  ·
   exact c1 m hm
  rcases Nat.lt_or_ge j k with h | h
  ·
   left
   have : (j + 1) * A.n ≤ k * A.n := Nat.mul_le_mul_right _ h
   rw [Nat.add_mul] at this
   omega
  right
  have : (k + 1) * A.n ≤ j * A.n := Nat.mul_le_mul_right _ (by omega)
  rw [Nat.add_mul] at this
  omega
 ·
  rw [List.nodup_cons]
  exact hnd
 intro c hm o
 rcases List.mem_cons.1 hm with rfl | hm
 ·
  exact hR.soft o
 obtain ⟨l, hl1, hl2⟩ := List.mem_flatten.1 hm
 obtain ⟨j, hjl, rfl⟩ := List.getElem_of_mem hl1
 by_cases e : j = k
 ·
  subst e
  exact hO.2.2 c hl2 o
 obtain ⟨c1, c2⟩ := hj j (by omega) (by omega) hjl
 rw [frozen_of_heap (hkeep c (A.lt c2 c hl2) (hother j hjl e c hl2).1 (hother j hjl e c hl2).2) o]
 exact hf c (List.mem_cons_of_mem _ hm) o
end Lay
theorem mkAll_at {α : Type} (c : α → Nat) (m : Int → α → α) (k : Int) (xs : List α) (j : Nat) (hj : j < xs.length) (hj2 : j < (mkAll c m k xs).length) : (mkAll c m k xs)[j] = m (k + (cntAll c (xs.take j) : Nat)) xs[j] := by
 induction xs generalizing k j with
 | nil => simp at hj
 | cons x xs ih =>
  match j with
  | 0 => simp [mkAll, cntAll]
  | j + 1 =>
   have := ih (k + c x) j (by simpa using hj) (by simpa [mkAll] using hj2)
   simp only [mkAll, List.getElem_cons_succ, List.take_succ_cons, cntAll]
   rw [this]
   congr 1
   omega
theorem mkAll_size {α : Type} (c : α → Nat) (m : Int → α → α) (k : Int) (xs : List α) : (mkAll c m k xs).length = xs.length := by
 induction xs generalizing k with
 | nil => rfl
 | cons x xs ih => simp [mkAll, ih]
def mkPre {α : Type} (c : α → Nat) (m : Int → α → α) (k : Int) (xs : List α) (j : Nat) : List α := (mkAll c m k xs).take j ++ xs.drop j
theorem mkPre_len {α : Type} (c : α → Nat) (m : Int → α → α) (k : Int) (xs : List α) (j : Nat) (hj : j ≤ xs.length) : (mkPre c m k xs j).length = xs.length := by
 simp [mkPre, mkAll_size]; omega
theorem mkPre_get {α : Type} (c : α → Nat) (m : Int → α → α) (k : Int) (xs : List α) (j : Nat) (hj : j < xs.length) (h2 : j < (mkPre c m k xs j).length) : (mkPre c m k xs j)[j] = xs[j] := by
 have e : (mkPre c m k xs j)[j]? = xs[j]? := by
  rw [mkPre, List.getElem?_append_right (by simp [mkAll_size]; omega)]
  simp [mkAll_size, Nat.min_eq_left (Nat.le_of_lt hj)]
 rw [List.getElem?_eq_getElem h2, List.getElem?_eq_getElem hj] at e
 exact Option.some.inj e
theorem mkPre_set {α : Type} (c : α → Nat) (m : Int → α → α) (k : Int) (xs : List α) (j : Nat) (hj : j < xs.length) : (mkPre c m k xs j).set j (m (k + (cntAll c (xs.take j) : Nat)) xs[j]) = mkPre c m k xs (j + 1) := by
 have hl : ((mkAll c m k xs).take j).length = j := by simp [mkAll_size]; omega
 unfold mkPre
 rw [List.set_append_right _ _ (by omega), hl, Nat.sub_self, List.drop_eq_getElem_cons hj, List.set_cons_zero, List.take_succ_eq_append_getElem (by rw [mkAll_size]; exact hj), mkAll_at c m k xs j hj]
 simp
theorem mkPre_zero {α : Type} (c : α → Nat) (m : Int → α → α) (k : Int) (xs : List α) : mkPre c m k xs 0 = xs := by simp [mkPre]
theorem mkPre_all {α : Type} (c : α → Nat) (m : Int → α → α) (k : Int) (xs : List α) : mkPre c m k xs xs.length = mkAll c m k xs := by
 unfold mkPre
 rw [List.drop_length, List.append_nil, List.take_of_length_le (by rw [mkAll_size]; exact Nat.le_refl _)]
structure Grow {α : Type} (A : Lay α) (w : World) (base T : Nat) (v : Value) (rows : List (List Value)) (xs : List α) (bls : List (List Nat)) : Prop where
 own : w.ownsRow base T A.n v xs.length rows.flatten
 nrows : rows.length = xs.length
 nbls : bls.length = xs.length
 lies : ∀ j (h1 : j < xs.length) (h2 : j < rows.length) (h3 : j < bls.length), A.lies w rows[j] xs[j] bls[j]
 off : ∀ b ∈ bls.flatten, v.ownBlock ≠ some b
namespace Grow
variable {α : Type} {A : Lay α} {w w' : World} {base T : Nat} {v : Value} {rows : List (List Value)} {xs : List α} {bls : List (List Nat)}
theorem nil (h : w.ownsRow base T A.n v 0 []) : Grow A w base T v [] [] [] := ⟨h, rfl, rfl, fun j h1 => by simp at h1, by simp⟩
theorem sub_lt (h : Grow A w base T v rows xs bls) : ∀ b ∈ bls.flatten, b < w.heap.size := by
 intro b hb
 obtain ⟨l, h1, h2⟩ := List.mem_flatten.1 hb
 obtain ⟨j, hj, rfl⟩ := List.getElem_of_mem h1
 exact A.lt (h.lies j (by have := h.nbls; omega) (by have := h.nbls; have := h.nrows; omega) hj) b h2
theorem kept (h : Grow A w base T v rows xs bls) (ho : w'.ownsRow base T A.n v xs.length rows.flatten) (hk : ∀ b ∈ bls.flatten, w'.heap[b]? = w.heap[b]?) : Grow A w' base T v rows xs bls :=
 ⟨ho, h.nrows, h.nbls, fun j h1 h2 h3 => A.keep (h.lies j h1 h2 h3) fun b hb => hk b (List.mem_flatten.2 ⟨_, List.getElem_mem _, hb⟩), h.off⟩
theorem later (h : Grow A w base T v rows xs bls) (hb : Below w.heap.size w w') : Grow A w' base T v rows xs bls :=
 h.kept (own_below h.own hb) fun b hm => hb.block b (h.sub_lt b hm)
theorem lower {b' : Nat} (h : Grow A w base T v rows xs bls) (hb : b' ≤ base) : Grow A w b' T v rows xs bls := ⟨own_mono hb h.own, h.nrows, h.nbls, h.lies, h.off⟩
theorem snoc (h : Grow A w base T v rows xs bls) {row : List Value} {x : α} {bl : List Nat} (hl : A.lies w row x bl) (hb : ∀ b ∈ bl, v.ownBlock ≠ some b) {g cap : Nat}
  (ho : w'.ownsRow base T A.n (.slice (some ⟨g, 0, none⟩) (xs.length + 1) cap) (xs.length + 1) (rows.flatten ++ row)) (hg : w.grownBy w' v.ownBlock) (hor : v.ownBlock = some g ∨ w.heap.size ≤ g) :
  Grow A w' base T (.slice (some ⟨g, 0, none⟩) (xs.length + 1) cap) (rows ++ [row]) (xs ++ [x]) (bls ++ [bl]) := by
 have hlt := h.sub_lt
 have hbl := A.lt hl
 have hk : ∀ b ∈ bls.flatten, w'.heap[b]? = w.heap[b]? := fun b hm => hg.block b (hlt b hm) (fun e => h.off b hm e.symm)
 have hk2 : ∀ b ∈ bl, w'.heap[b]? = w.heap[b]? := fun b hm => hg.block b (hbl b hm) (fun e => hb b hm e.symm)
 refine ⟨by simpa using ho, by simp [h.nrows], by simp [h.nbls], fun j h1 h2 h3 => ?_, ?_⟩
 ·
  by_cases hj : j < xs.length
  ·
   have e := h.lies j hj (by have := h.nrows; omega) (by have := h.nbls; omega)
   rw [List.getElem_append_left (by have := h.nrows; omega), List.getElem_append_left hj, List.getElem_append_left (by have := h.nbls; omega)]
   exact A.keep e fun b hm => hk b (List.mem_flatten.2 ⟨_, List.getElem_mem _, hm⟩)
  obtain rfl : j = xs.length := by simp at h1; omega
  rw [List.getElem_append_right (by have := h.nrows; omega), List.getElem_append_right (by omega), List.getElem_append_right (by have := h.nbls; omega)]
  simpa using A.keep hl hk2
 intro b hm e
 have e1 : b = g := by simpa [Value.ownBlock] using e.symm
 rw [List.flatten_append] at hm
 rcases hor with ho1 | ho1
 ·
  rcases List.mem_append.1 hm with hm | hm
  ·
   exact h.off b hm (by rw [ho1, e1])
  exact hb b (by simpa using hm) (by rw [ho1, e1])
 rcases List.mem_append.1 hm with hm | hm
 ·
  have := hlt b hm; omega
 have := hbl b (by simpa using hm); omega
theorem form (h : Grow A w base T v rows xs bls) : (v = .slice none 0 0 ∧ xs = []) ∨ ∃ g cap, v = .slice (some ⟨g, 0, none⟩) xs.length cap ∧ base ≤ g ∧ g < w.heap.size ∧ xs.length ≤ cap := by
 rcases h.own.2 with ⟨rfl, h0⟩ | ⟨g, cap, cur, rfl, hg, hh, hcap, _⟩
 ·
  exact Or.inl ⟨rfl, List.eq_nil_of_length_eq_zero h0⟩
 exact Or.inr ⟨g, cap, rfl, hg, lt_of_block hh, hcap⟩
theorem row_len (h : Grow A w base T v rows xs bls) : ∀ r ∈ rows, r.length = A.n := by
 intro r hm
 obtain ⟨j, hj, rfl⟩ := List.getElem_of_mem hm
 exact A.len (h.lies j (by have := h.nrows; omega) hj (by have := h.nrows; have := h.nbls; omega))
theorem flat_len (h : Grow A w base T v rows xs bls) : rows.flatten.length = xs.length * A.n := h.own.1
theorem reads (h : Grow A w base T v rows xs bls) (hn : xs.length ≤ 9223372036854775807) : (Lay.sl A).lies w [v] xs (match v with | .slice (some a) _ _ => if xs = [] then [] else a.block :: bls.flatten | _ => []) ∨ xs = [] ∧ (Lay.sl A).lies w [v] xs [] := by
 rcases h.form with ⟨rfl, rfl⟩ | ⟨g, cap, rfl, hg, hgl, hcap⟩
 ·
  exact Or.inr ⟨rfl, ⟨none, 0, rfl, ⟨by simp, hn⟩, Or.inl ⟨rfl, rfl⟩⟩⟩
 by_cases h0 : xs = []
 ·
  subst h0
  exact Or.inr ⟨rfl, ⟨_, cap, rfl, ⟨hcap, hn⟩, Or.inl ⟨rfl, rfl⟩⟩⟩
 left
 simp only [if_neg h0]
 refine ⟨_, cap, rfl, ⟨hcap, hn⟩, Or.inr ⟨g, 0, rows, bls, rfl, hgl, rfl, h.nrows, h.nbls, fun j h1 h2 h3 => ⟨fun m hm => ?_, h.lies j h1 h2 h3⟩⟩⟩
 rw [Nat.zero_add, h.own.cellAt (j * A.n + m) (by
  have := h.flat_len
  have : (j + 1) * A.n ≤ xs.length * A.n := Nat.mul_le_mul_right _ (by omega)
  rw [Nat.add_mul] at this
  omega)]
 exact Lay.flat_at h.row_len j m h2 hm
theorem toReads (h : Grow A w base T v rows xs bls) (hn : xs.length ≤ 9223372036854775807) : (Lay.sl A).Reads w [v] xs := by
 rcases h.reads hn with h | ⟨-, h⟩
 ·
  exact ⟨_, h⟩
 exact ⟨_, h⟩
theorem toOwn (h : Grow A w base T v rows xs bls) (hn : xs.length ≤ 9223372036854775807) (hnd : bls.flatten.Nodup) (hs : ∀ b ∈ bls.flatten, base ≤ b ∧ ∀ o, w.frozen? ⟨b, o, none⟩ = false) : (Lay.sl A).OwnIn w [v] xs base w.heap.size := by
 have hr := h.reads hn
 rcases h.form with ⟨rfl, rfl⟩ | ⟨g, cap, rfl, hg, hgl, hcap⟩
 ·
  exact ⟨[], ⟨⟨none, 0, rfl, ⟨by simp, hn⟩, Or.inl ⟨rfl, rfl⟩⟩, by simp, by simp⟩, by simp⟩
 by_cases h0 : xs = []
 ·
  subst h0
  exact ⟨[], ⟨⟨_, cap, rfl, ⟨hcap, hn⟩, Or.inl ⟨rfl, rfl⟩⟩, by simp, by simp⟩, by simp⟩
 simp only [if_neg h0] at hr
 rcases hr with hr | ⟨h1, -⟩
 ·
  refine ⟨_, ⟨hr, ?_, ?_⟩, ?_⟩
  ·
   rw [List.nodup_cons]
   exact ⟨fun hm => h.off g hm rfl, hnd⟩
  ·
   intro b hm o
   rcases List.mem_cons.1 hm with rfl | hm
   ·
    exact h.own.frozenAt o
   exact (hs b hm).2 o
  intro b hm
  rcases List.mem_cons.1 hm with rfl | hm
  ·
   exact ⟨hg, hgl⟩
  exact ⟨(hs b hm).1, h.sub_lt b hm⟩
 exact absurd h1 h0
theorem toLies (h : Grow A w base T v rows xs bls) (hn : xs.length ≤ 9223372036854775807) (hs : ∀ b ∈ bls.flatten, base ≤ b) : (Lay.sl A).LiesIn w [v] xs base w.heap.size := by
 have hr := h.reads hn
 rcases h.form with ⟨rfl, rfl⟩ | ⟨g, cap, rfl, hg, hgl, hcap⟩
 ·
  exact ⟨[], ⟨none, 0, rfl, ⟨by simp, hn⟩, Or.inl ⟨rfl, rfl⟩⟩, by simp⟩
 by_cases h0 : xs = []
 ·
  subst h0
  exact ⟨[], ⟨_, cap, rfl, ⟨hcap, hn⟩, Or.inl ⟨rfl, rfl⟩⟩, by simp⟩
 simp only [if_neg h0] at hr
 rcases hr with hr | ⟨h1, -⟩
 ·
  refine ⟨_, hr, fun b hm => ?_⟩
  rcases List.mem_cons.1 hm with rfl | hm
  ·
   exact ⟨hg, hgl⟩
  exact ⟨hs b hm, h.sub_lt b hm⟩
 exact absurd h1 h0
end Grow
structure DChain where
 epoch : Int
 ids : List Int
def Lay.tChain : Lay DChain := Lay.via (Lay.pair Lay.int (Lay.sl Lay.int)) (fun x => (x.epoch, x.ids)) (fun p => ⟨p.1, p.2⟩)
theorem lies_Chain {w : World} {cs : List Value} {x : DChain} {bl : List Nat} : Lay.tChain.lies w cs x bl ↔ ∃ (a1 : Option Addr) (d1 : Nat) (b1 : List Nat), cs = [.int .i64 x.epoch, .slice a1 x.ids.length d1] ∧ bl = b1 ∧ (Lit.int .i64 x.epoch).wf = true ∧ (Lay.sl Lay.int).lies w [.slice a1 x.ids.length d1] x.ids b1 := by
 constructor
 ·
  intro h
  obtain ⟨c0_, r0_, e0_, s0_, rfl, rfl, h0, h1⟩ := h
  obtain ⟨rfl, w0, rfl⟩ := h0
  have k1 := h1
  obtain ⟨a1, d1, rfl, -⟩ := k1
  exact ⟨a1, d1, s0_, by simp, by simp, w0, h1⟩
 rintro ⟨a1, d1, b1, rfl, hbl, w0, l1⟩
 rw [hbl]
 exact ⟨[.int .i64 x.epoch], [.slice a1 x.ids.length d1], [], b1, rfl, by simp, ⟨rfl, w0, rfl⟩, l1⟩
theorem open_Chain {w : World} {cs : List Value} {x : DChain} (h : Lay.tChain.Reads w cs x) : ∃ (a1 : Option Addr) (d1 : Nat), cs = [.int .i64 x.epoch, .slice a1 x.ids.length d1] ∧ (Lay.sl Lay.int).Reads w [.slice a1 x.ids.length d1] x.ids := by
 obtain ⟨bl, h⟩ := h
 obtain ⟨a1, d1, b1, rfl, -, w0, l1⟩ := lies_Chain.1 h
 exact ⟨a1, d1, rfl, ⟨_, l1⟩⟩
end Go.Proofs.YtoanimpijfijgaaGreat

namespace Go.Proofs.YtoanimpijfijgaaGreat
def partB (z : Int) : Bool := decide (-1000 ≤ z) && decide (z ≤ 1000)
def vecFault (zs : List Int) : Int := if zs.length = 3 then (if zs.all partB then 0 else 3) else 1
theorem vecFault_len {zs : List Int} (h : zs.length ≠ 3) : vecFault zs = 1 := by simp [vecFault, h]
theorem vecFault_bad {zs : List Int} (h : zs.length = 3) (k : Nat) (hk : k < 3) (hb : partB (zs.getD k 0) = false) : vecFault zs = 3 := by
 have : zs.all partB = false := by
  rw [List.all_eq_false]
  exact ⟨zs.getD k 0, by simp [List.getD, show k < zs.length by omega], by rw [hb]; simp⟩
 simp [vecFault, h, this]
theorem vecFault_ok {zs : List Int} (h : zs.length = 3) (hg : ∀ j, j < 3 → partB (zs.getD j 0) = true) : vecFault zs = 0 := by
 have : zs.all partB = true := by
  rw [List.all_eq_true]
  intro x hx
  obtain ⟨j, hj, rfl⟩ := List.mem_iff_getElem.1 hx
  have := hg j (by omega)
  simpa [List.getD, hj] using this
 simp [vecFault, h, this]
theorem partB_true {z : Int} (h : partB z = true) : -1000 ≤ z ∧ z ≤ 1000 := by simpa [partB] using h
theorem partB_false {z : Int} (h : partB z = false) : z < -1000 ∨ 1000 < z := by
 simp [partB] at h
 omega
theorem vecFault_zero {zs : List Int} (h : vecFault zs = 0) : zs.length = 3 ∧ ∀ j, j < 3 → -1000 ≤ zs.getD j 0 ∧ zs.getD j 0 ≤ 1000 := by
 unfold vecFault at h
 split at h
 ·
  next hl =>
  refine ⟨hl, fun j hj => ?_⟩
  split at h
  ·
   next ha =>
   rw [List.all_eq_true] at ha
   exact partB_true (ha _ (by simp [List.getD, show j < zs.length by omega]))
  simp at h
 simp at h
theorem fault3 {x y z : Int} (h : vecFault [x, y, z] = 0) : (-1000 ≤ x ∧ x ≤ 1000) ∧ (-1000 ≤ y ∧ y ≤ 1000) ∧ (-1000 ≤ z ∧ z ≤ 1000) := by
 have h1 := (vecFault_zero h).2
 exact ⟨by simpa using h1 0 (by omega), by simpa using h1 1 (by omega), by simpa using h1 2 (by omega)⟩
end Go.Proofs.YtoanimpijfijgaaGreat
namespace Go.Proofs.YtoanimpijfijgaaGreat
open Go.RowKit
structure DWrite where
 kind : Int
 id : Int
 vec : List Int
 session : Int
 seq : Int
def Lay.tWrite : Lay DWrite := Lay.via (Lay.pair Lay.int (Lay.pair Lay.int (Lay.pair (Lay.sl Lay.int) (Lay.pair Lay.int Lay.int)))) (fun x => (x.kind, x.id, x.vec, x.session, x.seq)) (fun p => ⟨p.1, p.2.1, p.2.2.1, p.2.2.2.1, p.2.2.2.2⟩)
theorem lies_Write {w : World} {cs : List Value} {x : DWrite} {bl : List Nat} : Lay.tWrite.lies w cs x bl ↔ ∃ (a2 : Option Addr) (d2 : Nat) (b2 : List Nat), cs = [.int .i64 x.kind, .int .i64 x.id, .slice a2 x.vec.length d2, .int .i64 x.session, .int .i64 x.seq] ∧ bl = b2 ∧ (Lit.int .i64 x.kind).wf = true ∧ (Lit.int .i64 x.id).wf = true ∧ (Lay.sl Lay.int).lies w [.slice a2 x.vec.length d2] x.vec b2 ∧ (Lit.int .i64 x.session).wf = true ∧ (Lit.int .i64 x.seq).wf = true := by
 constructor
 ·
  intro h
  obtain ⟨c0_, r0_, e0_, s0_, rfl, rfl, h0, ⟨c1_, r1_, e1_, s1_, rfl, rfl, h1, ⟨c2_, r2_, e2_, s2_, rfl, rfl, h2, ⟨c3_, r3_, e3_, s3_, rfl, rfl, h3, h4⟩⟩⟩⟩ := h
  obtain ⟨rfl, w0, rfl⟩ := h0
  obtain ⟨rfl, w1, rfl⟩ := h1
  have k2 := h2
  obtain ⟨a2, d2, rfl, -⟩ := k2
  obtain ⟨rfl, w3, rfl⟩ := h3
  obtain ⟨rfl, w4, rfl⟩ := h4
  exact ⟨a2, d2, e2_, by simp, by simp, w0, w1, h2, w3, w4⟩
 rintro ⟨a2, d2, b2, rfl, hbl, w0, w1, l2, w3, w4⟩
 rw [hbl]
 exact ⟨[.int .i64 x.kind], [.int .i64 x.id] ++ ([.slice a2 x.vec.length d2] ++ ([.int .i64 x.session] ++ [.int .i64 x.seq])), [], [] ++ (b2 ++ ([] ++ ([]))), rfl, by simp, ⟨rfl, w0, rfl⟩, ⟨[.int .i64 x.id], [.slice a2 x.vec.length d2] ++ ([.int .i64 x.session] ++ [.int .i64 x.seq]), [], b2 ++ ([] ++ ([])), rfl, by simp, ⟨rfl, w1, rfl⟩, ⟨[.slice a2 x.vec.length d2], [.int .i64 x.session] ++ [.int .i64 x.seq], b2, [] ++ ([]), rfl, by simp, l2, ⟨[.int .i64 x.session], [.int .i64 x.seq], [], [], rfl, by simp, ⟨rfl, w3, rfl⟩, ⟨rfl, w4, rfl⟩⟩⟩⟩⟩
theorem open_Write {w : World} {cs : List Value} {x : DWrite} (h : Lay.tWrite.Reads w cs x) : ∃ (a2 : Option Addr) (d2 : Nat), cs = [.int .i64 x.kind, .int .i64 x.id, .slice a2 x.vec.length d2, .int .i64 x.session, .int .i64 x.seq] ∧ (Lay.sl Lay.int).Reads w [.slice a2 x.vec.length d2] x.vec := by
 obtain ⟨bl, h⟩ := h
 obtain ⟨a2, d2, b2, rfl, -, w0, w1, l2, w3, w4⟩ := lies_Write.1 h
 exact ⟨a2, d2, rfl, ⟨_, l2⟩⟩
theorem own_Write {w : World} {cs : List Value} {x : DWrite} {bl : List Nat} (h : Lay.tWrite.Own w cs x bl) : ∃ (a2 : Option Addr) (d2 : Nat) (g2 : List Nat), cs = [.int .i64 x.kind, .int .i64 x.id, .slice a2 x.vec.length d2, .int .i64 x.session, .int .i64 x.seq] ∧ bl = g2 ∧ (Lay.sl Lay.int).Own w [.slice a2 x.vec.length d2] x.vec g2 ∧ (Lit.int .i64 x.kind).wf = true ∧ (Lit.int .i64 x.id).wf = true ∧ (Lit.int .i64 x.session).wf = true ∧ (Lit.int .i64 x.seq).wf = true := by
 obtain ⟨hl, hn, hf⟩ := h
 obtain ⟨a2, d2, b2, rfl, hbl, w0, w1, l2, w3, w4⟩ := lies_Write.1 hl
 rw [hbl] at hn hf
 exact ⟨a2, d2, b2, rfl, hbl, ⟨l2, hn, hf⟩, w0, w1, w3, w4⟩
theorem mkOwn_Write {w : World} {x : DWrite} {c2 : List Value} {g2 : List Nat} (O2 : (Lay.sl Lay.int).Own w c2 x.vec g2) (v0 : (Lit.int .i64 x.kind).wf = true) (v1 : (Lit.int .i64 x.id).wf = true) (v3 : (Lit.int .i64 x.session).wf = true) (v4 : (Lit.int .i64 x.seq).wf = true) (hn : (g2).Nodup) : Lay.tWrite.Own w ([.int .i64 x.kind] ++ ([.int .i64 x.id] ++ (c2 ++ ([.int .i64 x.session] ++ ([.int .i64 x.seq]))))) x (g2) := by
 refine ⟨⟨[.int .i64 x.kind], [.int .i64 x.id] ++ (c2 ++ ([.int .i64 x.session] ++ ([.int .i64 x.seq]))), [], [] ++ (g2 ++ ([] ++ [])), rfl, by simp, ⟨rfl, v0, rfl⟩, ⟨[.int .i64 x.id], c2 ++ ([.int .i64 x.session] ++ ([.int .i64 x.seq])), [], g2 ++ ([] ++ []), rfl, rfl, ⟨rfl, v1, rfl⟩, ⟨c2, [.int .i64 x.session] ++ ([.int .i64 x.seq]), g2, [] ++ [], rfl, rfl, O2.1, ⟨[.int .i64 x.session], [.int .i64 x.seq], [], [], rfl, rfl, ⟨rfl, v3, rfl⟩, ⟨rfl, v4, rfl⟩⟩⟩⟩⟩, hn, ?_⟩
 intro b hb o
 exact O2.2.2 b hb o
structure DItem where
 id : Int
 vec : List Int
def Lay.tItem : Lay DItem := Lay.via (Lay.pair Lay.int (Lay.sl Lay.int)) (fun x => (x.id, x.vec)) (fun p => ⟨p.1, p.2⟩)
theorem lies_Item {w : World} {cs : List Value} {x : DItem} {bl : List Nat} : Lay.tItem.lies w cs x bl ↔ ∃ (a1 : Option Addr) (d1 : Nat) (b1 : List Nat), cs = [.int .i64 x.id, .slice a1 x.vec.length d1] ∧ bl = b1 ∧ (Lit.int .i64 x.id).wf = true ∧ (Lay.sl Lay.int).lies w [.slice a1 x.vec.length d1] x.vec b1 := by
 constructor
 ·
  intro h
  obtain ⟨c0_, r0_, e0_, s0_, rfl, rfl, h0, h1⟩ := h
  obtain ⟨rfl, w0, rfl⟩ := h0
  have k1 := h1
  obtain ⟨a1, d1, rfl, -⟩ := k1
  exact ⟨a1, d1, s0_, by simp, by simp, w0, h1⟩
 rintro ⟨a1, d1, b1, rfl, hbl, w0, l1⟩
 rw [hbl]
 exact ⟨[.int .i64 x.id], [.slice a1 x.vec.length d1], [], b1, rfl, by simp, ⟨rfl, w0, rfl⟩, l1⟩
theorem open_Item {w : World} {cs : List Value} {x : DItem} (h : Lay.tItem.Reads w cs x) : ∃ (a1 : Option Addr) (d1 : Nat), cs = [.int .i64 x.id, .slice a1 x.vec.length d1] ∧ (Lay.sl Lay.int).Reads w [.slice a1 x.vec.length d1] x.vec := by
 obtain ⟨bl, h⟩ := h
 obtain ⟨a1, d1, b1, rfl, -, w0, l1⟩ := lies_Item.1 h
 exact ⟨a1, d1, rfl, ⟨_, l1⟩⟩
theorem own_Item {w : World} {cs : List Value} {x : DItem} {bl : List Nat} (h : Lay.tItem.Own w cs x bl) : ∃ (a1 : Option Addr) (d1 : Nat) (g1 : List Nat), cs = [.int .i64 x.id, .slice a1 x.vec.length d1] ∧ bl = g1 ∧ (Lay.sl Lay.int).Own w [.slice a1 x.vec.length d1] x.vec g1 ∧ (Lit.int .i64 x.id).wf = true := by
 obtain ⟨hl, hn, hf⟩ := h
 obtain ⟨a1, d1, b1, rfl, hbl, w0, l1⟩ := lies_Item.1 hl
 rw [hbl] at hn hf
 exact ⟨a1, d1, b1, rfl, hbl, ⟨l1, hn, hf⟩, w0⟩
theorem mkOwn_Item {w : World} {x : DItem} {c1 : List Value} {g1 : List Nat} (O1 : (Lay.sl Lay.int).Own w c1 x.vec g1) (v0 : (Lit.int .i64 x.id).wf = true) (hn : (g1).Nodup) : Lay.tItem.Own w ([.int .i64 x.id] ++ c1) x (g1) := by
 refine ⟨⟨[.int .i64 x.id], c1, [], g1, rfl, by simp, ⟨rfl, v0, rfl⟩, O1.1⟩, hn, ?_⟩
 intro b hb o
 exact O1.2.2 b hb o
structure DTableResult where
 code : Int
 items : List DItem
def Lay.tTableResult : Lay DTableResult := Lay.via (Lay.pair Lay.int (Lay.sl Lay.tItem)) (fun x => (x.code, x.items)) (fun p => ⟨p.1, p.2⟩)
theorem lies_TableResult {w : World} {cs : List Value} {x : DTableResult} {bl : List Nat} : Lay.tTableResult.lies w cs x bl ↔ ∃ (a1 : Option Addr) (d1 : Nat) (b1 : List Nat), cs = [.int .i64 x.code, .slice a1 x.items.length d1] ∧ bl = b1 ∧ (Lit.int .i64 x.code).wf = true ∧ (Lay.sl Lay.tItem).lies w [.slice a1 x.items.length d1] x.items b1 := by
 constructor
 ·
  intro h
  obtain ⟨c0_, r0_, e0_, s0_, rfl, rfl, h0, h1⟩ := h
  obtain ⟨rfl, w0, rfl⟩ := h0
  have k1 := h1
  obtain ⟨a1, d1, rfl, -⟩ := k1
  exact ⟨a1, d1, s0_, by simp, by simp, w0, h1⟩
 rintro ⟨a1, d1, b1, rfl, hbl, w0, l1⟩
 rw [hbl]
 exact ⟨[.int .i64 x.code], [.slice a1 x.items.length d1], [], b1, rfl, by simp, ⟨rfl, w0, rfl⟩, l1⟩
theorem open_TableResult {w : World} {cs : List Value} {x : DTableResult} (h : Lay.tTableResult.Reads w cs x) : ∃ (a1 : Option Addr) (d1 : Nat), cs = [.int .i64 x.code, .slice a1 x.items.length d1] ∧ (Lay.sl Lay.tItem).Reads w [.slice a1 x.items.length d1] x.items := by
 obtain ⟨bl, h⟩ := h
 obtain ⟨a1, d1, b1, rfl, -, w0, l1⟩ := lies_TableResult.1 h
 exact ⟨a1, d1, rfl, ⟨_, l1⟩⟩
theorem vcnt_TableResult (x : DTableResult) : Lay.tTableResult.vcnt x = (Lay.sl Lay.tItem).vcnt x.items := by
 show 0 + ((Lay.sl Lay.tItem).vcnt x.items) = (Lay.sl Lay.tItem).vcnt x.items
 omega
theorem mkv_TableResult (k : Int) (x : DTableResult) : Lay.tTableResult.mkv k x = ⟨x.code, (Lay.sl Lay.tItem).mkv (k) x.items⟩ := by
 simp [Lay.tTableResult, Lay.via, Lay.pair, Lay.int]
theorem own_TableResult {w : World} {cs : List Value} {x : DTableResult} {bl : List Nat} (h : Lay.tTableResult.Own w cs x bl) : ∃ (a1 : Option Addr) (d1 : Nat) (g1 : List Nat), cs = [.int .i64 x.code, .slice a1 x.items.length d1] ∧ bl = g1 ∧ (Lay.sl Lay.tItem).Own w [.slice a1 x.items.length d1] x.items g1 ∧ (Lit.int .i64 x.code).wf = true := by
 obtain ⟨hl, hn, hf⟩ := h
 obtain ⟨a1, d1, b1, rfl, hbl, w0, l1⟩ := lies_TableResult.1 hl
 rw [hbl] at hn hf
 exact ⟨a1, d1, b1, rfl, hbl, ⟨l1, hn, hf⟩, w0⟩
theorem mkOwn_TableResult {w : World} {x : DTableResult} {c1 : List Value} {g1 : List Nat} (O1 : (Lay.sl Lay.tItem).Own w c1 x.items g1) (v0 : (Lit.int .i64 x.code).wf = true) (hn : (g1).Nodup) : Lay.tTableResult.Own w ([.int .i64 x.code] ++ c1) x (g1) := by
 refine ⟨⟨[.int .i64 x.code], c1, [], g1, rfl, by simp, ⟨rfl, v0, rfl⟩, O1.1⟩, hn, ?_⟩
 intro b hb o
 exact O1.2.2 b hb o
def idB (v : Int) : Bool := decide (1 ≤ v) && decide (v ≤ 999)
def tabFrom : Option Int → List DItem → Int
 | _, [] => 0
 | p, x :: xs => if idB x.id then (if vecFault x.vec = 0 then (if p.all (fun q => decide (q < x.id)) then tabFrom (some x.id) xs else 1) else vecFault x.vec) else 3
def tableFault (xs : List DItem) : Int := if 30 < xs.length then 2 else tabFrom none xs
def Rising (xs : List DItem) : Prop := xs.Pairwise (fun a b => a.id < b.id)
theorem tabFrom_zero {p : Option Int} {xs : List DItem} (h : tabFrom p xs = 0) : (∀ x ∈ xs, idB x.id = true ∧ vecFault x.vec = 0) ∧ Rising xs ∧ ∀ q, p = some q → ∀ x ∈ xs, q < x.id := by
 induction xs generalizing p with
 | nil => exact ⟨by simp, List.Pairwise.nil, by simp⟩
 | cons x xs ih =>
  rw [tabFrom] at h
  by_cases h1 : idB x.id = true
  ·
   rw [if_pos h1] at h
   by_cases h2 : vecFault x.vec = 0
   ·
    rw [if_pos h2] at h
    by_cases h3 : p.all (fun q => decide (q < x.id)) = true
    ·
     rw [if_pos h3] at h
     obtain ⟨i1, i2, i3⟩ := ih h
     refine ⟨?_, List.pairwise_cons.2 ⟨fun y hy => i3 _ rfl y hy, i2⟩, ?_⟩
     ·
      intro y hy
      rcases List.mem_cons.1 hy with rfl | hy
      ·
       exact ⟨h1, h2⟩
      exact i1 y hy
     rintro q rfl y hy
     have hq : q < x.id := by simpa using h3
     rcases List.mem_cons.1 hy with rfl | hy
     ·
      exact hq
     exact Int.lt_trans hq (i3 _ rfl y hy)
    rw [if_neg h3] at h; cases h
   rw [if_neg h2] at h; exact absurd h h2
  rw [if_neg h1] at h; cases h
theorem tabFrom_of {p : Option Int} {xs : List DItem} (h1 : ∀ x ∈ xs, idB x.id = true ∧ vecFault x.vec = 0) (h2 : Rising xs) (h3 : ∀ q, p = some q → ∀ x ∈ xs, q < x.id) : tabFrom p xs = 0 := by
 induction xs generalizing p with
 | nil => rfl
 | cons x xs ih =>
  obtain ⟨a1, a2⟩ := h1 x (by simp)
  rw [tabFrom, if_pos a1, if_pos a2, if_pos]
  ·
   exact ih (fun y hy => h1 y (List.mem_cons_of_mem _ hy)) (List.pairwise_cons.1 h2).2 (fun q e y hy => by cases e; exact (List.pairwise_cons.1 h2).1 y hy)
  cases p with
  | none => rfl
  | some q => simpa using h3 q rfl x (by simp)
theorem tableFault_zero {xs : List DItem} (h : tableFault xs = 0) : xs.length ≤ 30 ∧ (∀ x ∈ xs, idB x.id = true ∧ vecFault x.vec = 0) ∧ Rising xs := by
 unfold tableFault at h
 by_cases hn : 30 < xs.length
 ·
  rw [if_pos hn] at h; cases h
 rw [if_neg hn] at h
 obtain ⟨a, b, -⟩ := tabFrom_zero h
 exact ⟨by omega, a, b⟩
theorem tableFault_of {xs : List DItem} (hl : xs.length ≤ 30) (h1 : ∀ x ∈ xs, idB x.id = true ∧ vecFault x.vec = 0) (h2 : Rising xs) : tableFault xs = 0 := by
 unfold tableFault
 rw [if_neg (by omega)]
 exact tabFrom_of h1 h2 (by simp)
end Go.Proofs.YtoanimpijfijgaaGreat
namespace Go.Proofs.YtoanimpijfijgaaGreat
open Go.RowKit Go.ChangeMaps Go.Maps
theorem id_wf {z : Int} (h : idB z = true) : (Lit.int .i64 z).wf = true := by
 simp only [idB, Bool.and_eq_true, decide_eq_true_eq] at h
 exact wf_of_bd (by omega)
def vecD (zs : List Int) : DataW Unit := .agg (zs.map fun z => .lit (.int .i64 z))
theorem vecD_inj {a b : List Int} (h : vecD a = vecD b) : a = b := by
 simp only [vecD, DataW.agg.injEq] at h
 induction a generalizing b with
 | nil => cases b with
  | nil => rfl
  | cons y ys => simp at h
 | cons x xs ih => cases b with
  | nil => simp at h
  | cons y ys =>
   simp only [List.map_cons, List.cons.injEq, DataW.lit.injEq, Lit.int.injEq, true_and] at h
   rw [h.1, ih h.2]
def mapL (xs : List DItem) : List (Lit × DataW Unit) := xs.map fun x => (Lit.int .i64 x.id, vecD x.vec)
def mapD (xs : List DItem) : DataW Unit := .map (mapL xs)
def insI (x : DItem) : List DItem → List DItem
 | [] => [x]
 | y :: r => if x.id < y.id then x :: y :: r else y :: insI x r
def dropI (xs : List DItem) (id : Int) : List DItem := xs.filter (fun x => !(x.id == id))
def putI (xs : List DItem) (id : Int) (vec : List Int) : List DItem := insI ⟨id, vec⟩ (dropI xs id)
def hasI (xs : List DItem) (id : Int) : Bool := xs.any (fun x => x.id == id)
theorem same_lit (a b : Int) : (Lit.int .i64 a).sameKey (.int .i64 b) = (a == b) := by
 by_cases h : a = b
 ·
  subst h; simp [Lit.sameKey]
 simp [Lit.sameKey, h]
theorem has_mapD (xs : List DItem) (id : Int) : Maps.has (mapD xs) (.int .i64 id) = hasI xs id := by
 show (mapL xs).any (fun p => p.1.sameKey (.int .i64 id)) = xs.any (fun x => x.id == id)
 rw [mapL, List.any_map]
 congr 1
 funext x
 exact same_lit _ _
theorem size_mapD (xs : List DItem) : Maps.size (mapD xs) = xs.length := by simp [mapD, mapL, Maps.size]
theorem del_mapD (xs : List DItem) (id : Int) : (mapD xs).del (.int .i64 id) = mapD (dropI xs id) := by
 show DataW.map (delKey _ (mapL xs)) = DataW.map (mapL (dropI xs id))
 congr 1
 rw [delKey, mapL, dropI, mapL, List.filter_map]
 congr 1
 refine List.filter_congr fun x _ => ?_
 show (!(Lit.int .i64 x.id).sameKey (.int .i64 id)) = !(x.id == id)
 rw [same_lit]
theorem insert_mapL (x : DItem) (xs : List DItem) : DataW.insert (Lit.int .i64 x.id, vecD x.vec) (mapL xs) = mapL (insI x xs) := by
 induction xs with
 | nil => rfl
 | cons y r ih =>
  show (if (Lit.int .i64 x.id).before (.int .i64 y.id) then _ else _) = _
  rw [insI]
  by_cases h : x.id < y.id
  ·
   rw [if_pos (by simpa [Lit.before] using h), if_pos h]; rfl
  rw [if_neg (by simpa [Lit.before] using h), if_neg h]
  show _ :: DataW.insert _ (mapL r) = _
  rw [ih]; rfl
theorem put_mapD (xs : List DItem) (id : Int) (vec : List Int) : (mapD xs).put (.int .i64 id) (vecD vec) = mapD (putI xs id vec) := by
 show DataW.map (DataW.insert _ (delKey _ (mapL xs))) = _
 have h := del_mapD xs id
 have h2 : delKey (.int .i64 id) (mapL xs) = mapL (dropI xs id) := by
  have : DataW.map (delKey (.int .i64 id) (mapL xs)) = DataW.map (mapL (dropI xs id)) := h
  simpa using this
 rw [h2, insert_mapL ⟨id, vec⟩]
 rfl
theorem apart_mapL {xs : List DItem} (h : Rising xs) : (mapL xs).Pairwise (fun p q => p.1 ≠ q.1) := by
 refine List.pairwise_map.2 (h.imp fun {a b} hab e => ?_)
 simp only [Lit.int.injEq, true_and] at e
 omega
theorem at_mapD {xs : List DItem} (h : Rising xs) {x : DItem} (hx : x ∈ xs) (z : DataW Unit) : (mapD xs).atKey (.int .i64 x.id) z = vecD x.vec :=
 WideAt.atKey_mem z trivial (apart_mapL h) (List.mem_map.2 ⟨x, hx, rfl⟩)
theorem hasI_true {xs : List DItem} {id : Int} (h : hasI xs id = true) : ∃ x ∈ xs, x.id = id := by
 simpa [hasI] using h
theorem hasI_false {xs : List DItem} {id : Int} (h : hasI xs id = false) : ∀ x ∈ xs, x.id ≠ id := by
 simpa [hasI] using h
theorem dropI_none {xs : List DItem} {id : Int} (h : ∀ x ∈ xs, x.id ≠ id) : dropI xs id = xs :=
 List.filter_eq_self.2 fun x hx => by simpa using h x hx
theorem mem_insI {x y : DItem} {xs : List DItem} : y ∈ insI x xs ↔ y = x ∨ y ∈ xs := by
 induction xs with
 | nil => simp [insI]
 | cons z r ih =>
  rw [insI]
  by_cases h : x.id < z.id
  ·
   rw [if_pos h]; simp
  rw [if_neg h, List.mem_cons, ih, List.mem_cons]
  constructor
  ·
   rintro (h | h | h) <;> simp [h]
  rintro (h | h | h) <;> simp [h]
theorem insI_rising {x : DItem} {xs : List DItem} (h : Rising xs) (hn : ∀ y ∈ xs, y.id ≠ x.id) : Rising (insI x xs) := by
 induction xs with
 | nil => exact List.pairwise_singleton _ _
 | cons z r ih =>
  obtain ⟨h1, h2⟩ := List.pairwise_cons.1 h
  have hz := hn z (by simp)
  rw [insI]
  by_cases hlt : x.id < z.id
  ·
   rw [if_pos hlt]
   refine List.pairwise_cons.2 ⟨fun y hy => ?_, h⟩
   rcases List.mem_cons.1 hy with rfl | hy
   ·
    exact hlt
   exact Int.lt_trans hlt (h1 y hy)
  rw [if_neg hlt]
  refine List.pairwise_cons.2 ⟨fun y hy => ?_, ih h2 fun y hy => hn y (List.mem_cons_of_mem _ hy)⟩
  rcases mem_insI.1 hy with rfl | hy
  ·
   omega
  exact h1 y hy
theorem insI_len (x : DItem) (xs : List DItem) : (insI x xs).length = xs.length + 1 := by
 induction xs with
 | nil => rfl
 | cons z r ih =>
  rw [insI]
  by_cases h : x.id < z.id
  ·
   rw [if_pos h]; rfl
  rw [if_neg h, List.length_cons, ih]; rfl
theorem dropI_rising {xs : List DItem} (h : Rising xs) (id : Int) : Rising (dropI xs id) := h.filter _
theorem mem_dropI {xs : List DItem} {id : Int} {x : DItem} : x ∈ dropI xs id ↔ x ∈ xs ∧ x.id ≠ id := by simp [dropI]
theorem putI_rising {xs : List DItem} (h : Rising xs) (id : Int) (vec : List Int) : Rising (putI xs id vec) := insI_rising (dropI_rising h id) fun _ hy => (mem_dropI.1 hy).2
theorem mem_putI {xs : List DItem} {id : Int} {vec : List Int} {x : DItem} : x ∈ putI xs id vec ↔ x = ⟨id, vec⟩ ∨ (x ∈ xs ∧ x.id ≠ id) := by rw [putI, mem_insI, mem_dropI]
theorem dropI_len {xs : List DItem} (h : Rising xs) {id : Int} (hi : hasI xs id = true) : (dropI xs id).length + 1 = xs.length := by
 induction xs with
 | nil => simp [hasI] at hi
 | cons z r ih =>
  obtain ⟨h1, h2⟩ := List.pairwise_cons.1 h
  by_cases e : z.id = id
  ·
   have : dropI (z :: r) id = r := by
    have hr := dropI_none (xs := r) (id := id) (fun x hx => by have := h1 x hx; omega)
    simp only [dropI, List.filter_cons, e, beq_self_eq_true, Bool.not_true, Bool.false_eq_true, if_false]
    exact hr
   rw [this]; rfl
  have hi2 : hasI r id = true := by simpa [hasI, e] using hi
  have : dropI (z :: r) id = z :: dropI r id := by simp [dropI, e]
  rw [this, List.length_cons, List.length_cons, ih h2 hi2]
theorem dropI_le (xs : List DItem) (id : Int) : (dropI xs id).length ≤ xs.length := List.length_filter_le _ _
theorem putI_len {xs : List DItem} (h : Rising xs) (id : Int) (vec : List Int) : (putI xs id vec).length = if hasI xs id then xs.length else xs.length + 1 := by
 rw [putI, insI_len]
 by_cases hi : hasI xs id = true
 ·
  rw [if_pos hi]; exact dropI_len h hi
 rw [if_neg hi, dropI_none (hasI_false (by simpa using hi))]
def Right (xs : List DItem) : Prop := tableFault xs = 0
theorem right_put {xs : List DItem} (h : Right xs) {id : Int} {vec : List Int} (hi : idB id = true) (hv : vecFault vec = 0) (hroom : hasI xs id = true ∨ xs.length < 30) : Right (putI xs id vec) := by
 obtain ⟨hl, h1, h2⟩ := tableFault_zero h
 refine tableFault_of ?_ (fun x hx => ?_) (putI_rising h2 id vec)
 ·
  rw [putI_len h2]; split
  ·
   exact hl
  rename_i hn; rcases hroom with h | h
  ·
   exact absurd h hn
  omega
 rcases mem_putI.1 hx with rfl | ⟨hx, -⟩
 ·
  exact ⟨hi, hv⟩
 exact h1 x hx
theorem right_drop {xs : List DItem} (h : Right xs) (id : Int) : Right (dropI xs id) := by
 obtain ⟨hl, h1, h2⟩ := tableFault_zero h
 exact tableFault_of (Nat.le_trans (dropI_le xs id) hl) (fun x hx => h1 x (mem_dropI.1 hx).1) (dropI_rising h2 id)
theorem right_nil : Right [] := rfl
end Go.Proofs.YtoanimpijfijgaaGreat
namespace Go.Proofs.YtoanimpijfijgaaGreat
open Go.RowKit
theorem own_noInts {w : World} {lo hi : Nat} : (Lay.sl Lay.int).OwnIn w [.slice none 0 0] [] lo hi := ⟨[], ⟨Lay.lies_ints.2 ⟨none, 0, rfl, by simp, by simp, Or.inl ⟨rfl, rfl⟩⟩, by simp, by simp⟩, by simp⟩
theorem find_at {xs : List DItem} {id : Int} {x : DItem} (h : xs.find? (fun x => x.id == id) = some x) : x ∈ xs ∧ x.id = id := ⟨List.mem_of_find?_eq_some h, by simpa using List.find?_some h⟩
def roomB (xs : List DItem) (id : Int) : Bool := hasI xs id || decide (xs.length < 30)
theorem vecFault_vals (zs : List Int) : 0 ≤ vecFault zs ∧ vecFault zs ≤ 3 := by unfold vecFault; split <;> (try split) <;> decide
theorem own_items {w : World} {c : Int} {v : Value} {xs : List DItem} {lo hi : Nat} (hc : (Lit.int .i64 c).wf = true) (h : (Lay.sl Lay.tItem).OwnIn w [v] xs lo hi) : Lay.tTableResult.OwnIn w [.int .i64 c, v] ⟨c, xs⟩ lo hi := by
 obtain ⟨bl, ⟨l, n, f⟩, i⟩ := h
 exact ⟨bl, ⟨⟨[.int .i64 c], [v], [], bl, rfl, by simp, ⟨rfl, hc, rfl⟩, l⟩, n, f⟩, i⟩
theorem reads_items {w : World} {c : Int} {v : Value} {xs : List DItem} (hc : (Lit.int .i64 c).wf = true) (h : (Lay.sl Lay.tItem).Reads w [v] xs) : Lay.tTableResult.Reads w [.int .i64 c, v] ⟨c, xs⟩ := by
 obtain ⟨bl, l⟩ := h
 exact ⟨bl, ⟨[.int .i64 c], [v], [], bl, rfl, by simp, ⟨rfl, hc, rfl⟩, l⟩⟩
theorem own_noItems {w : World} {lo hi : Nat} : (Lay.sl Lay.tItem).OwnIn w [.slice none 0 0] [] lo hi := ⟨[], ⟨⟨none, 0, rfl, by simp, Or.inl ⟨rfl, rfl⟩⟩, by simp, by simp⟩, by simp⟩
theorem own_codeItems {w : World} {c : Int} {lo hi : Nat} (hc : (Lit.int .i64 c).wf = true) : Lay.tTableResult.OwnIn w [.int .i64 c, .slice none 0 0] ⟨c, []⟩ lo hi := own_items hc own_noItems
theorem room_true {xs : List DItem} {id : Int} (h : roomB xs id = true) : hasI xs id = true ∨ xs.length < 30 := by simpa [roomB] using h
theorem room_false {xs : List DItem} {id : Int} (h : roomB xs id = false) : hasI xs id = false ∧ 30 ≤ xs.length := by simpa [roomB] using h
theorem right_few {xs : List DItem} (h : Right xs) : cntAll Lay.tItem.cnt xs ≤ 1000 := by
 obtain ⟨hl, ha, -⟩ := tableFault_zero h
 have : ∀ ys : List DItem, (∀ x ∈ ys, x.vec.length = 3) → cntAll Lay.tItem.cnt ys ≤ 4 * ys.length := by
  intro ys
  induction ys with
  | nil => intro _; exact Nat.le_refl _
  | cons y ys ih =>
   intro hy
   have h1 := ih fun x hx => hy x (List.mem_cons_of_mem _ hx)
   have h2 : Lay.tItem.cnt y = 4 := by
    show 1 + (Lay.sl Lay.int).cnt y.vec = 4
    have e := hy y (by simp)
    have : cntAll (fun _ => 1) y.vec = y.vec.length := by
     generalize y.vec = zs
     induction zs with
     | nil => rfl
     | cons z zs ih => simp [cntAll, ih]; omega
    show 1 + cntAll (fun _ => 1) y.vec = 4
    omega
   simp only [cntAll, List.length_cons]
   omega
 have := this xs fun x hx => (vecFault_zero (ha x hx).2).1
 omega
def setNew (nw : DItem) (st : List DItem × Bool) (x : DItem) : List DItem × Bool := if st.2 = false ∧ nw.id ≤ x.id then (st.1 ++ [nw], true) else st
def setOld (nw : DItem) (st : List DItem × Bool) (x : DItem) : List DItem × Bool := if x.id = nw.id then st else (st.1 ++ [x], st.2)
def setStep (nw : DItem) (st : List DItem × Bool) (x : DItem) : List DItem × Bool := setOld nw (setNew nw st x) x
def setFin (nw : DItem) (st : List DItem × Bool) : List DItem := if st.2 then st.1 else st.1 ++ [nw]
def setM (xs : List DItem) (nw : DItem) (has : Bool) : List DItem := setFin nw (xs.foldl (setStep nw) ([], !has))
theorem step_done (nw : DItem) (acc : List DItem) (xs : List DItem) : xs.foldl (setStep nw) (acc, true) = (acc ++ dropI xs nw.id, true) := by
 induction xs generalizing acc with
 | nil => simp [dropI]
 | cons y r ih =>
  rw [List.foldl_cons]
  have e1 : setNew nw (acc, true) y = (acc, true) := by simp [setNew]
  by_cases h : y.id = nw.id
  ·
   have : setStep nw (acc, true) y = (acc, true) := by rw [setStep, e1, setOld, if_pos h]
   rw [this, ih]
   simp [dropI, h]
  have : setStep nw (acc, true) y = (acc ++ [y], true) := by rw [setStep, e1, setOld, if_neg h]
  rw [this, ih]
  simp [dropI, h]
theorem insI_first (nw : DItem) (xs : List DItem) (h : ∀ y ∈ xs, nw.id < y.id) : insI nw xs = nw :: xs := by
 cases xs with
 | nil => rfl
 | cons y r => rw [insI, if_pos (h y (by simp))]
theorem step_put (nw : DItem) (acc : List DItem) (xs : List DItem) (hr : Rising xs) : setFin nw (xs.foldl (setStep nw) (acc, false)) = acc ++ putI xs nw.id nw.vec := by
 induction xs generalizing acc with
 | nil => simp [setFin, putI, dropI, insI]
 | cons y r ih =>
  obtain ⟨h1, h2⟩ := List.pairwise_cons.1 hr
  rw [List.foldl_cons]
  by_cases hle : nw.id ≤ y.id
  ·
   have e1 : setNew nw (acc, false) y = (acc ++ [nw], true) := by simp [setNew, hle]
   by_cases h : y.id = nw.id
   ·
    have : setStep nw (acc, false) y = (acc ++ [nw], true) := by rw [setStep, e1, setOld, if_pos h]
    rw [this, step_done, setFin]
    have e2 : dropI (y :: r) nw.id = dropI r nw.id := by simp [dropI, h]
    rw [putI, e2, insI_first _ _ (fun z hz => by have := h1 z (mem_dropI.1 hz).1; show nw.id < z.id; omega)]
    simp
   have : setStep nw (acc, false) y = (acc ++ [nw] ++ [y], true) := by rw [setStep, e1, setOld, if_neg h]
   rw [this, step_done, setFin]
   have e2 : dropI (y :: r) nw.id = y :: dropI r nw.id := by simp [dropI, h]
   rw [putI, e2, insI, if_pos (show nw.id < y.id by omega)]
   simp
  have e1 : setNew nw (acc, false) y = (acc, false) := by simp [setNew, hle]
  have h : y.id ≠ nw.id := by omega
  have : setStep nw (acc, false) y = (acc ++ [y], false) := by rw [setStep, e1, setOld, if_neg h]
  rw [this, ih _ h2]
  have e2 : dropI (y :: r) nw.id = y :: dropI r nw.id := by simp [dropI, h]
  rw [putI, putI, e2, insI, if_neg (show ¬ nw.id < y.id by omega)]
  simp
theorem setM_put {xs : List DItem} (hr : Rising xs) (nw : DItem) : setM xs nw true = putI xs nw.id nw.vec := by
 have := step_put nw [] xs hr
 simpa [setM] using this
theorem setM_drop (xs : List DItem) (nw : DItem) : setM xs nw false = dropI xs nw.id := by
 have := step_done nw [] xs
 simp only [setM, Bool.not_false]
 rw [this]
 simp [setFin]
theorem setM_len (nw : DItem) (st : List DItem × Bool) (x : DItem) : (setStep nw st x).1.length ≤ st.1.length + 2 := by
 unfold setStep setOld setNew
 split <;> split <;> simp <;> omega
theorem setM_size (xs : List DItem) (nw : DItem) (has : Bool) : (setM xs nw has).length ≤ 2 * xs.length + 1 := by
 have : ∀ (ys : List DItem) (st : List DItem × Bool), (ys.foldl (setStep nw) st).1.length ≤ st.1.length + 2 * ys.length := by
  intro ys
  induction ys with
  | nil => intro st; simp
  | cons y ys ih =>
   intro st
   have h1 := ih (setStep nw st y)
   have h2 := setM_len nw st y
   simp only [List.foldl_cons, List.length_cons]
   omega
 have h := this xs ([], !has)
 unfold setM setFin
 split
 ·
  simp at h; omega
 simp at h ⊢; omega
structure DNode where
 id : Int
 up : Bool
 epoch : Int
 lease : Int
 writes : List DWrite
 sure : Int
 clean : Int
def Lay.tNode : Lay DNode := Lay.via (Lay.pair Lay.int (Lay.pair Lay.bool (Lay.pair Lay.int (Lay.pair Lay.int (Lay.pair (Lay.sl Lay.tWrite) (Lay.pair Lay.int Lay.int)))))) (fun x => (x.id, x.up, x.epoch, x.lease, x.writes, x.sure, x.clean)) (fun p => ⟨p.1, p.2.1, p.2.2.1, p.2.2.2.1, p.2.2.2.2.1, p.2.2.2.2.2.1, p.2.2.2.2.2.2⟩)
theorem lies_Node {w : World} {cs : List Value} {x : DNode} {bl : List Nat} : Lay.tNode.lies w cs x bl ↔ ∃ (a4 : Option Addr) (d4 : Nat) (b4 : List Nat), cs = [.int .i64 x.id, .bool x.up, .int .i64 x.epoch, .int .i64 x.lease, .slice a4 x.writes.length d4, .int .i64 x.sure, .int .i64 x.clean] ∧ bl = b4 ∧ (Lit.int .i64 x.id).wf = true ∧ (Lit.int .i64 x.epoch).wf = true ∧ (Lit.int .i64 x.lease).wf = true ∧ (Lay.sl Lay.tWrite).lies w [.slice a4 x.writes.length d4] x.writes b4 ∧ (Lit.int .i64 x.sure).wf = true ∧ (Lit.int .i64 x.clean).wf = true := by
 constructor
 ·
  intro h
  obtain ⟨c0_, r0_, e0_, s0_, rfl, rfl, h0, ⟨c1_, r1_, e1_, s1_, rfl, rfl, h1, ⟨c2_, r2_, e2_, s2_, rfl, rfl, h2, ⟨c3_, r3_, e3_, s3_, rfl, rfl, h3, ⟨c4_, r4_, e4_, s4_, rfl, rfl, h4, ⟨c5_, r5_, e5_, s5_, rfl, rfl, h5, h6⟩⟩⟩⟩⟩⟩ := h
  obtain ⟨rfl, w0, rfl⟩ := h0
  obtain ⟨rfl, rfl⟩ := h1
  obtain ⟨rfl, w2, rfl⟩ := h2
  obtain ⟨rfl, w3, rfl⟩ := h3
  have k4 := h4
  obtain ⟨a4, d4, rfl, -⟩ := k4
  obtain ⟨rfl, w5, rfl⟩ := h5
  obtain ⟨rfl, w6, rfl⟩ := h6
  exact ⟨a4, d4, e4_, by simp, by simp, w0, w2, w3, h4, w5, w6⟩
 rintro ⟨a4, d4, b4, rfl, hbl, w0, w2, w3, l4, w5, w6⟩
 rw [hbl]
 exact ⟨[.int .i64 x.id], [.bool x.up] ++ ([.int .i64 x.epoch] ++ ([.int .i64 x.lease] ++ ([.slice a4 x.writes.length d4] ++ ([.int .i64 x.sure] ++ [.int .i64 x.clean])))), [], [] ++ ([] ++ ([] ++ (b4 ++ ([] ++ ([]))))), rfl, by simp, ⟨rfl, w0, rfl⟩, ⟨[.bool x.up], [.int .i64 x.epoch] ++ ([.int .i64 x.lease] ++ ([.slice a4 x.writes.length d4] ++ ([.int .i64 x.sure] ++ [.int .i64 x.clean]))), [], [] ++ ([] ++ (b4 ++ ([] ++ ([])))), rfl, by simp, ⟨rfl, rfl⟩, ⟨[.int .i64 x.epoch], [.int .i64 x.lease] ++ ([.slice a4 x.writes.length d4] ++ ([.int .i64 x.sure] ++ [.int .i64 x.clean])), [], [] ++ (b4 ++ ([] ++ ([]))), rfl, by simp, ⟨rfl, w2, rfl⟩, ⟨[.int .i64 x.lease], [.slice a4 x.writes.length d4] ++ ([.int .i64 x.sure] ++ [.int .i64 x.clean]), [], b4 ++ ([] ++ ([])), rfl, by simp, ⟨rfl, w3, rfl⟩, ⟨[.slice a4 x.writes.length d4], [.int .i64 x.sure] ++ [.int .i64 x.clean], b4, [] ++ ([]), rfl, by simp, l4, ⟨[.int .i64 x.sure], [.int .i64 x.clean], [], [], rfl, by simp, ⟨rfl, w5, rfl⟩, ⟨rfl, w6, rfl⟩⟩⟩⟩⟩⟩⟩
theorem open_Node {w : World} {cs : List Value} {x : DNode} (h : Lay.tNode.Reads w cs x) : ∃ (a4 : Option Addr) (d4 : Nat), cs = [.int .i64 x.id, .bool x.up, .int .i64 x.epoch, .int .i64 x.lease, .slice a4 x.writes.length d4, .int .i64 x.sure, .int .i64 x.clean] ∧ (Lay.sl Lay.tWrite).Reads w [.slice a4 x.writes.length d4] x.writes := by
 obtain ⟨bl, h⟩ := h
 obtain ⟨a4, d4, b4, rfl, -, w0, w2, w3, l4, w5, w6⟩ := lies_Node.1 h
 exact ⟨a4, d4, rfl, ⟨_, l4⟩⟩
structure DMsg where
 kind : Int
 epoch : Int
 src : Int
 dst : Int
 index : Int
 write : DWrite
def Lay.tMsg : Lay DMsg := Lay.via (Lay.pair Lay.int (Lay.pair Lay.int (Lay.pair Lay.int (Lay.pair Lay.int (Lay.pair Lay.int Lay.tWrite))))) (fun x => (x.kind, x.epoch, x.src, x.dst, x.index, x.write)) (fun p => ⟨p.1, p.2.1, p.2.2.1, p.2.2.2.1, p.2.2.2.2.1, p.2.2.2.2.2⟩)
theorem lies_Msg {w : World} {cs : List Value} {x : DMsg} {bl : List Nat} : Lay.tMsg.lies w cs x bl ↔ ∃ (a7 : Option Addr) (d7 : Nat) (b7 : List Nat), cs = [.int .i64 x.kind, .int .i64 x.epoch, .int .i64 x.src, .int .i64 x.dst, .int .i64 x.index, .int .i64 x.write.kind, .int .i64 x.write.id, .slice a7 x.write.vec.length d7, .int .i64 x.write.session, .int .i64 x.write.seq] ∧ bl = b7 ∧ (Lit.int .i64 x.kind).wf = true ∧ (Lit.int .i64 x.epoch).wf = true ∧ (Lit.int .i64 x.src).wf = true ∧ (Lit.int .i64 x.dst).wf = true ∧ (Lit.int .i64 x.index).wf = true ∧ (Lit.int .i64 x.write.kind).wf = true ∧ (Lit.int .i64 x.write.id).wf = true ∧ (Lay.sl Lay.int).lies w [.slice a7 x.write.vec.length d7] x.write.vec b7 ∧ (Lit.int .i64 x.write.session).wf = true ∧ (Lit.int .i64 x.write.seq).wf = true := by
 constructor
 ·
  intro h
  obtain ⟨c0_, r0_, e0_, s0_, rfl, rfl, h0, ⟨c1_, r1_, e1_, s1_, rfl, rfl, h1, ⟨c2_, r2_, e2_, s2_, rfl, rfl, h2, ⟨c3_, r3_, e3_, s3_, rfl, rfl, h3, ⟨c4_, r4_, e4_, s4_, rfl, rfl, h4, h5⟩⟩⟩⟩⟩ := h
  obtain ⟨rfl, w0, rfl⟩ := h0
  obtain ⟨rfl, w1, rfl⟩ := h1
  obtain ⟨rfl, w2, rfl⟩ := h2
  obtain ⟨rfl, w3, rfl⟩ := h3
  obtain ⟨rfl, w4, rfl⟩ := h4
  obtain ⟨a7, d7, q7, rfl, hq5, w5, w6, l7, w8, w9⟩ := lies_Write.1 h5
  exact ⟨a7, d7, q7, by simp, by simp [hq5], w0, w1, w2, w3, w4, w5, w6, l7, w8, w9⟩
 rintro ⟨a7, d7, b7, rfl, hbl, w0, w1, w2, w3, w4, w5, w6, l7, w8, w9⟩
 rw [hbl]
 exact ⟨[.int .i64 x.kind], [.int .i64 x.epoch] ++ ([.int .i64 x.src] ++ ([.int .i64 x.dst] ++ ([.int .i64 x.index] ++ [.int .i64 x.write.kind, .int .i64 x.write.id, .slice a7 x.write.vec.length d7, .int .i64 x.write.session, .int .i64 x.write.seq]))), [], [] ++ ([] ++ ([] ++ ([] ++ (b7)))), rfl, by simp, ⟨rfl, w0, rfl⟩, ⟨[.int .i64 x.epoch], [.int .i64 x.src] ++ ([.int .i64 x.dst] ++ ([.int .i64 x.index] ++ [.int .i64 x.write.kind, .int .i64 x.write.id, .slice a7 x.write.vec.length d7, .int .i64 x.write.session, .int .i64 x.write.seq])), [], [] ++ ([] ++ ([] ++ (b7))), rfl, by simp, ⟨rfl, w1, rfl⟩, ⟨[.int .i64 x.src], [.int .i64 x.dst] ++ ([.int .i64 x.index] ++ [.int .i64 x.write.kind, .int .i64 x.write.id, .slice a7 x.write.vec.length d7, .int .i64 x.write.session, .int .i64 x.write.seq]), [], [] ++ ([] ++ (b7)), rfl, by simp, ⟨rfl, w2, rfl⟩, ⟨[.int .i64 x.dst], [.int .i64 x.index] ++ [.int .i64 x.write.kind, .int .i64 x.write.id, .slice a7 x.write.vec.length d7, .int .i64 x.write.session, .int .i64 x.write.seq], [], [] ++ (b7), rfl, by simp, ⟨rfl, w3, rfl⟩, ⟨[.int .i64 x.index], [.int .i64 x.write.kind, .int .i64 x.write.id, .slice a7 x.write.vec.length d7, .int .i64 x.write.session, .int .i64 x.write.seq], [], b7, rfl, by simp, ⟨rfl, w4, rfl⟩, lies_Write.2 ⟨a7, d7, b7, rfl, rfl, w5, w6, l7, w8, w9⟩⟩⟩⟩⟩⟩
theorem open_Msg {w : World} {cs : List Value} {x : DMsg} (h : Lay.tMsg.Reads w cs x) : ∃ (a7 : Option Addr) (d7 : Nat), cs = [.int .i64 x.kind, .int .i64 x.epoch, .int .i64 x.src, .int .i64 x.dst, .int .i64 x.index, .int .i64 x.write.kind, .int .i64 x.write.id, .slice a7 x.write.vec.length d7, .int .i64 x.write.session, .int .i64 x.write.seq] ∧ Lay.tWrite.Reads w [.int .i64 x.write.kind, .int .i64 x.write.id, .slice a7 x.write.vec.length d7, .int .i64 x.write.session, .int .i64 x.write.seq] x.write := by
 obtain ⟨bl, h⟩ := h
 obtain ⟨a7, d7, b7, rfl, -, w0, w1, w2, w3, w4, w5, w6, l7, w8, w9⟩ := lies_Msg.1 h
 exact ⟨a7, d7, rfl, ⟨_, lies_Write.2 ⟨a7, d7, _, rfl, rfl, w5, w6, l7, w8, w9⟩⟩⟩
end Go.Proofs.YtoanimpijfijgaaGreat
namespace Go.Proofs.YtoanimpijfijgaaGreat
end Go.Proofs.YtoanimpijfijgaaGreat
namespace Go.Proofs.YtoanimpijfijgaaGreat
open Go.RowKit
structure DHit where
 id : Int
 score : Int
def Lay.tHit : Lay DHit := Lay.via (Lay.pair Lay.int Lay.int) (fun x => (x.id, x.score)) (fun p => ⟨p.1, p.2⟩)
theorem lies_Hit {w : World} {cs : List Value} {x : DHit} {bl : List Nat} : Lay.tHit.lies w cs x bl ↔ cs = [.int .i64 x.id, .int .i64 x.score] ∧ bl = [] ∧ (Lit.int .i64 x.id).wf = true ∧ (Lit.int .i64 x.score).wf = true := by
 constructor
 ·
  intro h
  obtain ⟨c0_, r0_, e0_, s0_, rfl, rfl, h0, h1⟩ := h
  obtain ⟨rfl, w0, rfl⟩ := h0
  obtain ⟨rfl, w1, rfl⟩ := h1
  exact ⟨by simp, by simp, w0, w1⟩
 rintro ⟨rfl, hbl, w0, w1⟩
 rw [hbl]
 exact ⟨[.int .i64 x.id], [.int .i64 x.score], [], [], rfl, by simp, ⟨rfl, w0, rfl⟩, ⟨rfl, w1, rfl⟩⟩
end Go.Proofs.YtoanimpijfijgaaGreat
