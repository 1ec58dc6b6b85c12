/-
  Texts of this proof in one: Ground, LayChain, TabGround, LayNode, LayMsg, HitGround, LayEntry, LayWorld, Info, Ints, LayInt, SzInt64S, SzChain, SzWrite, SzWriteS, SzNode.
  Their conditions stand in their theorems.
-/
import Derived.WalkKit
import Derived.WalkSpells
import Derived.WalkSmall
import Derived.Deep.AppendLies
import Derived.Maps.OwnSet
import Derived.Maps.AppendAt
import Derived.Test.YtdnhmoppineegaaGreatChecked
import Derived.BigQuiet
import Derived.Deep.QuietTactic

namespace Go.Proofs.YtdnhmoppineegaaGreat
open Go.RowKit

theorem hide {p : Prop} (h : p) : Hid p := h
theorem unhide {p : Prop} (h : Hid p) : p := h

def intRes (c v : Int) : Value := .agg #[.int .i64 c, .int .i64 v]
def intsRes (c : Int) (v : Value) : Value := .agg #[.int .i64 c, v]

theorem cell_drewN (w : World) (n : Nat) (a : Addr) : (w.drewN n).cell? a = w.cell? a := rfl
theorem frozen_drewN (w : World) (n : Nat) (a : Addr) : (w.drewN n).frozen? a = w.frozen? a := rfl
theorem heap_drewN (w : World) (n : Nat) : (w.drewN n).heap = w.heap := rfl
theorem below_drawn {B : Nat} {a w : World} (h : Below B a w) (n : Nat) : Below B a (w.drewN n) := h.trans ⟨rfl, rfl, rfl, Nat.le_refl _, fun _ _ => rfl⟩

theorem cell_keep {w wx : World} {a : Addr} {v : Value} (hb : Below w.heap.size w wx) (h : w.cell? a = some v) : wx.cell? a = some v := (hb.cell (World.block_lt_of_cell? _ _ h)).trans h
theorem new_cells {w : World} {T : TypeId} {x y : Value} : (w.alloc (.cells #[x, y] T)).cell? ⟨w.heap.size, 0, none⟩ = some x ∧ (w.alloc (.cells #[x, y] T)).cell? ⟨w.heap.size, 1, none⟩ = some y := by
  constructor <;> simp [go_sem]

theorem grown_trans {a b c : World} {r : Option Nat} (h : a.grownBy b r) (k : b.grownBy c r) : a.grownBy c r :=
  ⟨k.os.trans h.os, k.tape.trans h.tape, k.output.trans h.output, Nat.le_trans h.size k.size, fun i hi hr => (k.block i (Nat.lt_of_lt_of_le hi h.size) hr).trans (h.block i hi hr)⟩

/-- The slice v holds the numbers zs, each an int64. -/
def IsInts (w : World) (v : Value) (zs : List Int) : Prop :=
  ∃ ao cap, v = .slice ao zs.length cap ∧ (∀ z ∈ zs, (Lit.int .i64 z).wf = true) ∧
    (0 < zs.length → ∃ b off, ao = some ⟨b, off, none⟩ ∧ ∀ j, j < zs.length → w.cell? ⟨b, off + j, none⟩ = some (.int .i64 (zs.getD j 0)))

theorem IsInts.later {w w' : World} {v : Value} {zs : List Int} (h : IsInts w v zs) (hb : Below w.heap.size w w') : IsInts w' v zs := by
  obtain ⟨ao, cap, rfl, hwf, hc⟩ := h
  refine ⟨ao, cap, rfl, hwf, fun hp => ?_⟩
  obtain ⟨b, off, hao, hc1⟩ := hc hp
  refine ⟨b, off, hao, fun j hj => ?_⟩
  have h1 := hc1 j hj
  exact (hb.cell (World.block_lt_of_cell? _ _ h1)).trans h1

theorem IsInts.bound {w : World} {v : Value} {zs : List Int} (h : IsInts w v zs) : ∀ j, -9223372036854775808 ≤ zs.getD j 0 ∧ zs.getD j 0 ≤ 9223372036854775807 := by
  obtain ⟨ao, cap, rfl, hwf, _⟩ := h
  intro j
  by_cases hj : j < zs.length
  · have h1 := hwf (zs.getD j 0) (by simp [List.getD, hj])
    simpa [Lit.wf, IntKind.min, IntKind.max, IntKind.signed, IntKind.bits] using h1
  · simp [List.getD, List.getElem?_eq_none (by omega : zs.length ≤ j)]

/-- A block of numbers that lies whole. -/
theorem isInts_owned {w : World} {base T g : Nat} {zs : List Int} (hwf : ∀ z ∈ zs, (Lit.int .i64 z).wf = true)
    (h : w.ownsRow base T 1 (.slice (some ⟨g, 0, none⟩) zs.length zs.length) zs.length (zs.map (Value.int .i64))) : IsInts w (.slice (some ⟨g, 0, none⟩) zs.length zs.length) zs := by
  refine ⟨_, _, rfl, hwf, fun hp => ⟨g, 0, rfl, fun j hj => ?_⟩⟩
  rw [Nat.zero_add, h.cellAt j (by omega)]
  simp [List.getD, hj]

/-- Whatever owns a row of numbers holds them. -/
theorem isInts_row {w : World} {base T : Nat} {v : Value} {zs : List Int} (hwf : ∀ z ∈ zs, (Lit.int .i64 z).wf = true)
    (h : w.ownsRow base T 1 v zs.length (zs.map (Value.int .i64))) : IsInts w v zs := by
  rcases h.2 with ⟨rfl, h0⟩ | ⟨g, cap, cur, rfl, _⟩
  · have : zs = [] := List.eq_nil_of_length_eq_zero h0
    subst this
    exact ⟨none, 0, rfl, by simp, by simp⟩
  · refine ⟨_, _, rfl, hwf, fun hp => ⟨g, 0, rfl, fun j hj => ?_⟩⟩
    rw [Nat.zero_add, h.cellAt j (by omega)]
    simp [List.getD, hj]

theorem own_new3 {W : World} {base g : Nat} {T : TypeId} {x y z : Int} (hb : base ≤ W.heap.size) (hs : W.heap.size = g) :
    (W.alloc (.cells #[.int .i64 x, .int .i64 y, .int .i64 z] T)).ownsRow base T 1 (.slice (some ⟨g, 0, none⟩) 3 3) 3 ([x, y, z].map (Value.int .i64)) := by
  subst hs
  exact World.ownsRow_lit W _ 3 hb (by unfold maxLen; omega) rfl

theorem wf_of_bd {z : Int} (h : -1000000000 ≤ z ∧ z ≤ 1000000000) : (Lit.int .i64 z).wf = true := WalkArith.wf_i64 (by omega)

theorem IsInts.wf {w : World} {v : Value} {zs : List Int} (h : IsInts w v zs) : ∀ z ∈ zs, (Lit.int .i64 z).wf = true := by
  obtain ⟨_, _, _, hwf, _⟩ := h
  exact hwf

theorem lt_own {w : World} {base T sz g n cap : Nat} {xs : List Value} (h : w.ownsRow base T sz (.slice (some ⟨g, 0, none⟩) n cap) n xs) : g < w.heap.size := (h.lt g rfl).2

theorem own_shape {w : World} {base T sz : Nat} {v : Value} {n : Nat} {xs : List Value} (h : w.ownsRow base T sz v n xs) : ∃ ao cap, v = .slice ao n cap := by
  rcases h.2 with ⟨rfl, h0⟩ | ⟨g, cap, cur, rfl, _⟩
  · exact ⟨none, 0, by rw [h0]⟩
  · exact ⟨_, _, rfl⟩

theorem own_below {w w' : World} {base T sz : Nat} {v : Value} {n : Nat} {xs : List Value} (h : w.ownsRow base T sz v n xs) (hb : Below w.heap.size w w') : w'.ownsRow base T sz v n xs := by
  refine ⟨h.1, ?_⟩
  rcases h.2 with h2 | ⟨g, cap, cur, hv, hg, hh, r⟩
  · exact Or.inl h2
  · exact Or.inr ⟨g, cap, cur, hv, hg, (hb.block g (lt_of_block hh)).trans hh, r⟩

theorem own_mono {w : World} {b b' T sz : Nat} {v : Value} {n : Nat} {xs : List Value} (hb : b' ≤ b) (h : w.ownsRow b T sz v n xs) : w.ownsRow b' T sz v n xs := by
  refine ⟨h.1, ?_⟩
  rcases h.2 with h2 | ⟨g, cap, cur, hv, hg, r⟩
  · exact Or.inl h2
  · exact Or.inr ⟨g, cap, cur, hv, by omega, r⟩

/-- What a row's reading tells of a slice of int64 that came in. -/
theorem isInts_of_row {w : World} {a : Option Addr} {len cap : Nat} {zs : List Int} (h : (a = none ∧ len = 0 ∧ cap = 0 ∧ zs = []) ∨
    ∃ x, a = some x ∧ len ≤ cap ∧ cap ≤ maxLen ∧ zs.length = cap ∧ (∀ i, i < zs.length → w.cell? (x.add i) = some (.int .i64 (zs.getD i 0))) ∧ ∀ n ∈ zs, (Lit.int .i64 n).wf = true) :
    IsInts w (.slice a len cap) (zs.take len) := by
  rcases h with ⟨rfl, rfl, rfl, rfl⟩ | ⟨x, rfl, hl, hm, hz, hcell, hwz⟩
  · exact ⟨none, 0, rfl, by simp, by simp⟩
  · have hlen : (zs.take len).length = len := by simp; omega
    refine ⟨some x, cap, by rw [hlen], fun z hz => hwz z (List.mem_of_mem_take hz), fun hp => ?_⟩
    rw [hlen] at hp ⊢
    obtain ⟨b, off, spot⟩ := x
    have hc := hcell 0 (by omega)
    have hspot : spot = none := by simpa [Addr.add] using World.cell?_spot hc
    subst hspot
    refine ⟨b, off, rfl, fun j hj => ?_⟩
    have h1 := hcell j (by omega)
    have e : (zs.take len).getD j 0 = zs.getD j 0 := by simp [List.getD, hj]
    rw [e]
    rwa [Addr.add_lit] at h1

theorem set_fill (zs : List Int) (k : Nat) (hk : k < zs.length) :
    ((zs.take k).map (Value.int .i64) ++ List.replicate (zs.length - k) (Value.int .i64 0)).set k (.int .i64 (zs.getD k 0)) = (zs.take (k + 1)).map (Value.int .i64) ++ List.replicate (zs.length - (k + 1)) (Value.int .i64 0) := by
  have hl : ((zs.take k).map (Value.int .i64)).length = k := by simp; omega
  rw [List.set_append_right _ _ (by omega), hl, Nat.sub_self]
  obtain ⟨m, hm⟩ : ∃ m, zs.length - k = m + 1 := ⟨zs.length - k - 1, by omega⟩
  rw [hm, show zs.length - (k + 1) = m by omega, List.replicate_succ, List.set_cons_zero, List.take_succ_eq_append_getElem hk, List.map_append, List.append_assoc]
  simp [List.getD, hk]

end Go.Proofs.YtdnhmoppineegaaGreat

namespace Go.Proofs.YtdnhmoppineegaaGreat
open Go.RowKit

/-- The block s, not below lo, holds the cells cs. -/
def Box (lo : Nat) (cs : Array Value) (T : TypeId) (W : World) (s : Nat) : Prop := lo ≤ s ∧ W.heap[s]? = some (.cells cs T (0, 0))
theorem Box.drew {lo : Nat} {cs : Array Value} {T : TypeId} {W : World} {s : Nat} (h : Box lo cs T W s) : Box lo cs T W.drew s := h
theorem Box.lt {lo : Nat} {cs : Array Value} {T : TypeId} {W : World} {s : Nat} (h : Box lo cs T W s) : s < W.heap.size := lt_of_block h.2
theorem newBox {lo : Nat} {cs : Array Value} {T : TypeId} {W : World} (h : lo ≤ W.heap.size) : Box lo cs T (W.alloc (.cells cs T)) W.heap.size := ⟨h, heap_alloc_new W _⟩
theorem Box.keep {lo : Nat} {cs : Array Value} {T : TypeId} {W w' : World} {s : Nat} (h : Box lo cs T W s) (hb : Below W.heap.size W w') : Box lo cs T w' s := ⟨h.1, (hb.block s h.lt).trans h.2⟩
theorem own_setC {w : World} {base e size : Nat} {v : Value} {n : Nat} {xs : List Value} {a : Addr} (h : w.ownsRow base e size v n xs) (ha : a.block < base) (u : Value) : (w.setCell a u).ownsRow base e size v n xs := by
  refine ⟨h.1, ?_⟩
  rcases h.2 with h2 | ⟨g, cap, cur, hv, hg, hh, r⟩
  · exact Or.inl h2
  · exact Or.inr ⟨g, cap, cur, hv, hg, (heap_setCell_other w a g u (by omega)).trans hh, r⟩
theorem Box.two {lo : Nat} {x y : Value} {T : TypeId} {W : World} {s : Nat} (h : Box lo #[x, y] T W s) : W.cell? ⟨s, 0, none⟩ = some x ∧ W.cell? ⟨s, 1, none⟩ = some y ∧ (∀ o, W.frozen? ⟨s, o, none⟩ = false) ∧ s < W.heap.size := by
  refine ⟨?_, ?_, fun o => ?_, h.lt⟩
  · simp [World.cell?, h.2]
  · simp [World.cell?, h.2]
  · simp [World.frozen?, h.2]

end Go.Proofs.YtdnhmoppineegaaGreat

namespace Go.Proofs.YtdnhmoppineegaaGreat
open Go.RowKit

/-- Blocks outside S are as they were. -/
structure Ext (S : Nat → Prop) (w w' : World) : Prop where
  os : w'.os = w.os
  tape : w'.tape = w.tape
  output : w'.output = w.output
  size : w.heap.size ≤ w'.heap.size
  block : ∀ k, k < w.heap.size → ¬ S k → w'.heap[k]? = w.heap[k]?

def nowhere : Nat → Prop := fun _ => False
def within (lo hi : Nat) : Nat → Prop := fun k => lo ≤ k ∧ k < hi

theorem Ext.refl (S : Nat → Prop) (w : World) : Ext S w w := ⟨rfl, rfl, rfl, Nat.le_refl _, fun _ _ _ => rfl⟩
theorem Ext.trans {S : Nat → Prop} {a b c : World} (h : Ext S a b) (k : Ext S b c) : Ext S a c :=
  ⟨k.os.trans h.os, k.tape.trans h.tape, k.output.trans h.output, Nat.le_trans h.size k.size, fun i hi hn => (k.block i (Nat.lt_of_lt_of_le hi h.size) hn).trans (h.block i hi hn)⟩
theorem Ext.mono {S S' : Nat → Prop} {a b : World} (h : Ext S a b) (hs : ∀ k, k < a.heap.size → S k → S' k) : Ext S' a b :=
  ⟨h.os, h.tape, h.output, h.size, fun i hi hn => h.block i hi fun hS => hn (hs i hi hS)⟩
theorem Ext.drew {S : Nat → Prop} {a b : World} (h : Ext S a b) (n : Nat) : Ext S a (b.drewN n) := ⟨h.os, h.tape, h.output, h.size, h.block⟩
theorem ext_of_below {w w' : World} (h : Below w.heap.size w w') (S : Nat → Prop) : Ext S w w' := ⟨h.os, h.tape, h.output, h.size, fun k hk _ => h.block k hk⟩
theorem extB_of_below {B : Nat} {w w' : World} (h : Below B w w') : Ext (fun k => B ≤ k) w w' := ⟨h.os, h.tape, h.output, h.size, fun k _ hn => h.block k (by omega)⟩
theorem Ext.below {S : Nat → Prop} {w w' : World} {B : Nat} (h : Ext S w w') (hB : B ≤ w.heap.size) (hs : ∀ k, k < B → ¬ S k) : Below B w w' :=
  ⟨h.os, h.tape, h.output, h.size, fun k hk => h.block k (by omega) (hs k hk)⟩
theorem Ext.setCell {S : Nat → Prop} {w w' : World} (h : Ext S w w') (a : Addr) (v : Value) (ha : S a.block) : Ext S w (w'.setCell a v) :=
  ⟨h.os, h.tape, h.output, by simpa using h.size, fun k hk hn => (heap_setCell_other w' a k v (fun e => hn (e ▸ ha))).trans (h.block k hk hn)⟩

theorem cell_of_heap {w w' : World} {b : Nat} (h : w'.heap[b]? = w.heap[b]?) (o : Nat) : w'.cell? ⟨b, o, none⟩ = w.cell? ⟨b, o, none⟩ := World.cell?_of_block (a := ⟨b, o, none⟩) h
theorem frozen_of_heap {w w' : World} {b : Nat} (h : w'.heap[b]? = w.heap[b]?) (o : Nat) : w'.frozen? ⟨b, o, none⟩ = w.frozen? ⟨b, o, none⟩ := World.frozen?_of_block (a := ⟨b, o, none⟩) h

/-- How a type's data lie: n cells; what they hold; the blocks behind them, in their order. -/
structure Lay (α : Type) where
  n : Nat
  lies : World → List Value → α → List Nat → Prop
  len : ∀ {w cs x bl}, lies w cs x bl → cs.length = n
  keep : ∀ {w w' cs x bl}, lies w cs x bl → (∀ b ∈ bl, w'.heap[b]? = w.heap[b]?) → lies w' cs x bl
  lt : ∀ {w cs x bl}, lies w cs x bl → ∀ b ∈ bl, b < w.heap.size
  /-- How long all its lists are together. -/
  sz : α → Nat
  /-- How many marks an element takes, and a value (whose own cells are copies). -/
  cnt : α → Nat
  vcnt : α → Nat
  /-- An element, a value, with the marks from k on. -/
  mkd : Int → α → α
  mkv : Int → α → α

/-- A list with marks from k on. -/
def mkAll {α : Type} (cnt : α → Nat) (mk : Int → α → α) : Int → List α → List α
  | _, [] => []
  | k, x :: xs => mk k x :: mkAll cnt mk (k + cnt x) xs
def cntAll {α : Type} (cnt : α → Nat) : List α → Nat
  | [] => 0
  | x :: xs => cnt x + cntAll cnt xs
/-- The text of a mark. -/
def digitsOf : Nat → Nat → List UInt8
  | 0, _ => []
  | f + 1, k => if k = 0 then [] else digitsOf f (k / 10) ++ [UInt8.ofNat (48 + k % 10)]
def markText (k : Int) : ByteArray := ⟨(109 :: (if k ≤ 0 then [48] else digitsOf 20 k.toNat)).toArray⟩

namespace Lay
variable {α β γ : Type}

def int : Lay Int where
  n := 1
  lies _ cs x bl := cs = [.int .i64 x] ∧ (Lit.int .i64 x).wf = true ∧ bl = []
  len := by rintro w cs x bl ⟨rfl, -, -⟩; rfl
  keep := fun h _ => h
  lt := by rintro w cs x bl ⟨-, -, rfl⟩ b hb; cases hb
  sz _ := 0
  cnt _ := 1
  vcnt _ := 0
  mkd k _ := k
  mkv _ x := x
def bool : Lay Bool where
  n := 1
  lies _ cs x bl := cs = [.bool x] ∧ bl = []
  len := by rintro w cs x bl ⟨rfl, -⟩; rfl
  keep := fun h _ => h
  lt := by rintro w cs x bl ⟨-, rfl⟩ b hb; cases hb
  sz _ := 0
  cnt _ := 1
  vcnt _ := 0
  mkd k _ := k.tmod 3 == 0
  mkv _ x := x
def str : Lay ByteArray where
  n := 1
  lies _ cs x bl := cs = [.string x] ∧ bl = []
  len := by rintro w cs x bl ⟨rfl, -⟩; rfl
  keep := fun h _ => h
  lt := by rintro w cs x bl ⟨-, rfl⟩ b hb; cases hb
  sz _ := 0
  cnt _ := 1
  vcnt _ := 0
  mkd k _ := markText k
  mkv _ x := x

def pair (A : Lay α) (B : Lay β) : Lay (α × β) where
  n := A.n + B.n
  lies w cs x bl := ∃ c1 c2 b1 b2, cs = c1 ++ c2 ∧ bl = b1 ++ b2 ∧ A.lies w c1 x.1 b1 ∧ B.lies w c2 x.2 b2
  len := by
    rintro w cs x bl ⟨c1, c2, b1, b2, rfl, rfl, h1, h2⟩
    rw [List.length_append, A.len h1, B.len h2]
  keep := by
    rintro w w' cs x bl ⟨c1, c2, b1, b2, rfl, rfl, h1, h2⟩ hk
    exact ⟨c1, c2, b1, b2, rfl, rfl, A.keep h1 fun b hb => hk b (List.mem_append_left _ hb), B.keep h2 fun b hb => hk b (List.mem_append_right _ hb)⟩
  lt := by
    rintro w cs x bl ⟨c1, c2, b1, b2, rfl, rfl, h1, h2⟩ b hb
    rcases List.mem_append.1 hb with h | h
    · exact A.lt h1 b h
    · exact B.lt h2 b h
  sz x := A.sz x.1 + B.sz x.2
  cnt x := A.cnt x.1 + B.cnt x.2
  vcnt x := A.vcnt x.1 + B.vcnt x.2
  mkd k x := (A.mkd k x.1, B.mkd (k + A.cnt x.1) x.2)
  mkv k x := (A.mkv k x.1, B.mkv (k + A.vcnt x.1) x.2)

/-- The rows of a slice: element j lies at off + j * n, its own blocks are bls' j-th. -/
def Rows (A : Lay α) (w : World) (b off : Nat) (xs : List α) (rows : List (List Value)) (bls : List (List Nat)) : Prop :=
  rows.length = xs.length ∧ bls.length = xs.length ∧ ∀ j (h1 : j < xs.length) (h2 : j < rows.length) (h3 : j < bls.length),
    (∀ m, m < A.n → w.cell? ⟨b, off + j * A.n + m, none⟩ = rows[j][m]?) ∧ A.lies w rows[j] xs[j] bls[j]

/-- A slice of data. -/
def sl (A : Lay α) : Lay (List α) where
  n := 1
  lies w cs xs bl := ∃ ao cap, cs = [.slice ao xs.length cap] ∧ (xs.length ≤ cap ∧ xs.length ≤ 9223372036854775807) ∧ ((xs = [] ∧ bl = []) ∨
    ∃ b off rows bls, ao = some ⟨b, off, none⟩ ∧ b < w.heap.size ∧ bl = b :: bls.flatten ∧ A.Rows w b off xs rows bls)
  len := by rintro w cs x bl ⟨ao, cap, rfl, -⟩; rfl
  keep := by
    rintro w w' cs xs bl ⟨ao, cap, rfl, hbig, h⟩ hk
    refine ⟨ao, cap, rfl, hbig, ?_⟩
    rcases h with h | ⟨b, off, rows, bls, rfl, hb, rfl, hr, hl, hj⟩
    · exact Or.inl h
    · have hbb := hk b (by simp)
      refine Or.inr ⟨b, off, rows, bls, rfl, ?_, rfl, hr, hl, fun j h1 h2 h3 => ⟨fun m hm => ?_, ?_⟩⟩
      · have : w.heap[b]? ≠ none := by simp; exact hb
        rw [← hbb] at this
        simpa using this
      · rw [cell_of_heap hbb]
        exact (hj j h1 h2 h3).1 m hm
      · refine A.keep (hj j h1 h2 h3).2 fun b' hb' => hk b' (List.mem_cons_of_mem _ (List.mem_flatten.2 ⟨bls[j], List.getElem_mem _, hb'⟩))
  lt := by
    rintro w cs xs bl ⟨ao, cap, rfl, -, h⟩ b hb
    rcases h with ⟨-, rfl⟩ | ⟨b0, off, rows, bls, rfl, hb0, rfl, hr, hl, hj⟩
    · cases hb
    · rcases List.mem_cons.1 hb with rfl | hb
      · exact hb0
      · obtain ⟨l, hl1, hl2⟩ := List.mem_flatten.1 hb
        obtain ⟨j, hjl, rfl⟩ := List.getElem_of_mem hl1
        exact A.lt (hj j (by omega) (by omega) hjl).2 b hl2
  sz xs := xs.length + cntAll A.sz xs
  cnt xs := cntAll A.cnt xs
  vcnt xs := cntAll A.cnt xs
  mkd k xs := mkAll A.cnt A.mkd k xs
  mkv k xs := mkAll A.cnt A.mkd k xs

/-- The same data under other names. -/
def via (A : Lay α) (f : β → α) (g : α → β) : Lay β where
  n := A.n
  lies w cs x bl := A.lies w cs (f x) bl
  len := A.len
  keep := A.keep
  lt := A.lt
  sz x := A.sz (f x)
  cnt x := A.cnt (f x)
  vcnt x := A.vcnt (f x)
  mkd k x := g (A.mkd k (f x))
  mkv k x := g (A.mkv k (f x))

/-- The data can be read. -/
def Reads (A : Lay α) (w : World) (cs : List Value) (x : α) : Prop := ∃ bl, A.lies w cs x bl
/-- .. and lie in the blocks from lo on, below hi. -/
def LiesIn (A : Lay α) (w : World) (cs : List Value) (x : α) (lo hi : Nat) : Prop := ∃ bl, A.lies w cs x bl ∧ ∀ b ∈ bl, lo ≤ b ∧ b < hi
/-- .. each list in a block of its own, which may be written. -/
def Own (A : Lay α) (w : World) (cs : List Value) (x : α) (bl : List Nat) : Prop :=
  A.lies w cs x bl ∧ bl.Nodup ∧ ∀ b ∈ bl, ∀ o, w.frozen? ⟨b, o, none⟩ = false
def OwnIn (A : Lay α) (w : World) (cs : List Value) (x : α) (lo hi : Nat) : Prop := ∃ bl, A.Own w cs x bl ∧ ∀ b ∈ bl, lo ≤ b ∧ b < hi

variable {A : Lay α} {B : Lay β} {w w' : World} {cs : List Value} {x : α} {lo hi : Nat}

theorem Reads.later (h : A.Reads w cs x) (hb : Below w.heap.size w w') : A.Reads w' cs x := by
  obtain ⟨bl, h⟩ := h
  exact ⟨bl, A.keep h fun b hbl => hb.block b (A.lt h b hbl)⟩
theorem LiesIn.reads (h : A.LiesIn w cs x lo hi) : A.Reads w cs x := by obtain ⟨bl, h, -⟩ := h; exact ⟨bl, h⟩
theorem OwnIn.lies (h : A.OwnIn w cs x lo hi) : A.LiesIn w cs x lo hi := by obtain ⟨bl, ⟨h, -, -⟩, hl⟩ := h; exact ⟨bl, h, hl⟩
theorem OwnIn.reads (h : A.OwnIn w cs x lo hi) : A.Reads w cs x := h.lies.reads
theorem Reads.liesIn (h : A.Reads w cs x) : A.LiesIn w cs x 0 w.heap.size := by
  obtain ⟨bl, h⟩ := h
  exact ⟨bl, h, fun b hb => ⟨Nat.zero_le _, A.lt h b hb⟩⟩
theorem LiesIn.mono {lo' hi' : Nat} (h : A.LiesIn w cs x lo hi) (h1 : lo' ≤ lo) (h2 : hi ≤ hi') : A.LiesIn w cs x lo' hi' := by
  obtain ⟨bl, h, hl⟩ := h
  exact ⟨bl, h, fun b hb => ⟨by have := hl b hb; omega, by have := hl b hb; omega⟩⟩
theorem OwnIn.mono {lo' hi' : Nat} (h : A.OwnIn w cs x lo hi) (h1 : lo' ≤ lo) (h2 : hi ≤ hi') : A.OwnIn w cs x lo' hi' := by
  obtain ⟨bl, h, hl⟩ := h
  exact ⟨bl, h, fun b hb => ⟨by have := hl b hb; omega, by have := hl b hb; omega⟩⟩
theorem LiesIn.ext {S : Nat → Prop} (h : A.LiesIn w cs x lo hi) (e : Ext S w w') (hs : ∀ k, lo ≤ k → k < hi → ¬ S k) : A.LiesIn w' cs x lo hi := by
  obtain ⟨bl, h, hl⟩ := h
  exact ⟨bl, A.keep h fun b hb => e.block b (A.lt h b hb) (hs b (hl b hb).1 (hl b hb).2), hl⟩
theorem OwnIn.ext {S : Nat → Prop} (h : A.OwnIn w cs x lo hi) (e : Ext S w w') (hs : ∀ k, lo ≤ k → k < hi → ¬ S k) : A.OwnIn w' cs x lo hi := by
  obtain ⟨bl, ⟨h, hn, hf⟩, hl⟩ := h
  have hk : ∀ b ∈ bl, w'.heap[b]? = w.heap[b]? := fun b hb => e.block b (A.lt h b hb) (hs b (hl b hb).1 (hl b hb).2)
  exact ⟨bl, ⟨A.keep h hk, hn, fun b hb o => (frozen_of_heap (hk b hb) o).trans (hf b hb o)⟩, hl⟩
theorem LiesIn.later (h : A.LiesIn w cs x lo hi) (hb : Below w.heap.size w w') : A.LiesIn w' cs x lo hi := h.ext (ext_of_below hb nowhere) fun _ _ _ h => h
theorem OwnIn.later (h : A.OwnIn w cs x lo hi) (hb : Below w.heap.size w w') : A.OwnIn w' cs x lo hi := h.ext (ext_of_below hb nowhere) fun _ _ _ h => h
theorem Reads.drew (h : A.Reads w cs x) (n : Nat) : A.Reads (w.drewN n) cs x := h.later (below_drawn (Below.refl _ _) n)
theorem Reads.len (h : A.Reads w cs x) : cs.length = A.n := by obtain ⟨bl, h⟩ := h; exact A.len h

/-! ### Numbers -/
theorem lies_int {z : Int} {bl : List Nat} : (Lay.int).lies w cs z bl ↔ cs = [.int .i64 z] ∧ (Lit.int .i64 z).wf = true ∧ bl = [] := Iff.rfl

theorem ints_reads {v : Value} {zs : List Int} (h : (sl int).Reads w [v] zs) : IsInts w v zs := by
  obtain ⟨bl, ao, cap, hv, -, h⟩ := h
  obtain rfl : v = .slice ao zs.length cap := by simpa using hv
  rcases h with ⟨rfl, rfl⟩ | ⟨b, off, rows, bls, rfl, hb, rfl, hr, hl, hj⟩
  · exact ⟨ao, cap, rfl, by simp, by simp⟩
  · refine ⟨_, cap, rfl, fun z hz => ?_, fun _ => ⟨b, off, rfl, fun j hj1 => ?_⟩⟩
    · obtain ⟨j, hjl, rfl⟩ := List.getElem_of_mem hz
      exact (hj j hjl (by omega) (by omega)).2.2.1
    · obtain ⟨h1, h2, -, -⟩ := hj j hj1 (by omega) (by omega)
      have := h1 0 (by decide)
      rw [h2] at this
      simpa [List.getD, hj1, Lay.int] using this
/-- Numbers in plain words: the block, and each cell. -/
theorem lies_ints {v : Value} {zs : List Int} {bl : List Nat} : (sl int).lies w [v] zs bl ↔ ∃ ao cap, v = .slice ao zs.length cap ∧ (zs.length ≤ cap ∧ zs.length ≤ 9223372036854775807) ∧ (∀ z ∈ zs, (Lit.int .i64 z).wf = true) ∧
    ((zs = [] ∧ bl = []) ∨ ∃ b off, ao = some ⟨b, off, none⟩ ∧ b < w.heap.size ∧ bl = [b] ∧ ∀ j, j < zs.length → w.cell? ⟨b, off + j, none⟩ = some (.int .i64 (zs.getD j 0))) := by
  constructor
  · rintro ⟨ao, cap, hv, hbig, h⟩
    obtain rfl : v = .slice ao zs.length cap := by simpa using hv
    rcases h with ⟨rfl, rfl⟩ | ⟨b, off, rows, bls, rfl, hb, rfl, hr, hl, hj⟩
    · exact ⟨ao, cap, rfl, hbig, by simp, Or.inl ⟨rfl, rfl⟩⟩
    · refine ⟨_, cap, rfl, hbig, fun z hz => ?_, Or.inr ⟨b, off, rfl, hb, ?_, fun j hj1 => ?_⟩⟩
      · obtain ⟨j, hjl, rfl⟩ := List.getElem_of_mem hz
        exact (hj j hjl (by omega) (by omega)).2.2.1
      · have e2 : bls.flatten = [] := by
          rw [List.flatten_eq_nil_iff]
          intro l hl
          obtain ⟨j, hjl, rfl⟩ := List.getElem_of_mem hl
          exact (hj j (by omega) (by omega) hjl).2.2.2
        rw [e2]
      · obtain ⟨h1, h2, -, -⟩ := hj j hj1 (by omega) (by omega)
        have := h1 0 (by decide)
        rw [h2] at this
        simpa [List.getD, hj1, Lay.int] using this
  · rintro ⟨ao, cap, rfl, hbig, hwf, h⟩
    refine ⟨ao, cap, rfl, hbig, ?_⟩
    rcases h with ⟨rfl, rfl⟩ | ⟨b, off, rfl, hb, rfl, hc⟩
    · exact Or.inl ⟨rfl, rfl⟩
    · refine Or.inr ⟨b, off, zs.map (fun z => [.int .i64 z]), List.replicate zs.length [], rfl, hb, by simp, by simp, by simp, fun j h1 h2 h3 => ⟨fun m hm => ?_, ?_⟩⟩
      · obtain rfl : m = 0 := by simp only [Lay.int] at hm; omega
        have := hc j h1
        simpa [List.getD, h1, Lay.int] using this
      · exact ⟨by simp, hwf _ (List.getElem_mem _), by simp⟩
theorem reads_ints {v : Value} {zs : List Int} (h : IsInts w v zs) (hcap : ∀ ao cap, v = .slice ao zs.length cap → zs.length ≤ cap) (hbig : zs.length ≤ 9223372036854775807) : (sl int).Reads w [v] zs := by
  obtain ⟨ao, cap, rfl, hwf, hc⟩ := h
  have hcp := hcap _ _ rfl
  by_cases hp : 0 < zs.length
  · obtain ⟨b, off, rfl, hc1⟩ := hc hp
    exact ⟨[b], lies_ints.2 ⟨_, cap, rfl, ⟨hcp, hbig⟩, hwf, Or.inr ⟨b, off, rfl, World.block_lt_of_cell? _ _ (hc1 0 hp), rfl, hc1⟩⟩⟩
  · obtain rfl : zs = [] := List.eq_nil_of_length_eq_zero (by omega)
    exact ⟨[], lies_ints.2 ⟨ao, cap, rfl, ⟨hcp, hbig⟩, by simp, Or.inl ⟨rfl, rfl⟩⟩⟩
theorem Reads.cap {A : Lay α} {ao : Option Addr} {n cap : Nat} {xs : List α} (h : (sl A).Reads w [.slice ao n cap] xs) : n = xs.length ∧ n ≤ cap := by
  obtain ⟨bl, ao', cap', e, hb, -⟩ := h
  simp only [List.cons.injEq, Value.slice.injEq, and_true] at e
  obtain ⟨-, rfl, rfl⟩ := e
  exact ⟨rfl, hb.1⟩
theorem Reads.big {A : Lay α} {v : Value} {xs : List α} (h : (sl A).Reads w [v] xs) : xs.length ≤ 9223372036854775807 := by
  obtain ⟨bl, ao, cap, -, hb, -⟩ := h
  exact hb.2

/-- A row of numbers of the call's own, as data. -/
theorem ownInts {v : Value} {zs : List Int} {base T : Nat} (hwf : ∀ z ∈ zs, (Lit.int .i64 z).wf = true) (hbig : zs.length ≤ 9223372036854775807) (h : w.ownsRow base T 1 v zs.length (zs.map (Value.int .i64))) : (sl int).OwnIn w [v] zs base w.heap.size := by
  have hi := isInts_row hwf h
  rcases h.2 with ⟨rfl, h0⟩ | ⟨g, cap, cur, rfl, hg, hh, hcap, _⟩
  · obtain rfl : zs = [] := List.eq_nil_of_length_eq_zero h0
    exact ⟨[], ⟨lies_ints.2 ⟨none, 0, rfl, ⟨by simp, hbig⟩, by simp, Or.inl ⟨rfl, rfl⟩⟩, by simp, by simp⟩, by simp⟩
  · by_cases hp : 0 < zs.length
    · obtain ⟨ao, cp, hv, hwf, hc⟩ := hi
      obtain ⟨b, off, rfl, hc1⟩ := hc hp
      simp only [Value.slice.injEq, Option.some.injEq, Addr.mk.injEq, and_true, true_and] at hv
      obtain ⟨⟨rfl, rfl⟩, rfl⟩ := hv
      refine ⟨[g], ⟨lies_ints.2 ⟨_, cap, rfl, ⟨hcap, hbig⟩, hwf, Or.inr ⟨g, 0, rfl, lt_of_block hh, rfl, hc1⟩⟩, by simp, ?_⟩, ?_⟩
      · intro b hb o
        obtain rfl : b = g := by simpa using hb
        simp [World.frozen?, hh]
      · intro b hb
        obtain rfl : b = g := by simpa using hb
        exact ⟨hg, lt_of_block hh⟩
    · obtain rfl : zs = [] := List.eq_nil_of_length_eq_zero (by omega)
      exact ⟨[], ⟨lies_ints.2 ⟨_, _, rfl, ⟨hcap, hbig⟩, by simp, Or.inl ⟨rfl, rfl⟩⟩, by simp, by simp⟩, by simp⟩

/-! ### Blocks of the call's own, and data in others -/
theorem Own.ext {S : Nat → Prop} {bl : List Nat} (h : A.Own w cs x bl) (e : Ext S w w') (hs : ∀ b ∈ bl, ¬ S b) : A.Own w' cs x bl := by
  obtain ⟨h, hn, hf⟩ := h
  have hk : ∀ b ∈ bl, w'.heap[b]? = w.heap[b]? := fun b hb => e.block b (A.lt h b hb) (hs b hb)
  exact ⟨A.keep h hk, hn, fun b hb o => (frozen_of_heap (hk b hb) o).trans (hf b hb o)⟩
theorem Own.later {bl : List Nat} (h : A.Own w cs x bl) (hb : Below w.heap.size w w') : A.Own w' cs x bl := h.ext (ext_of_below hb nowhere) fun _ _ h => h
theorem Own.reads {bl : List Nat} (h : A.Own w cs x bl) : A.Reads w cs x := ⟨bl, h.1⟩
theorem Own.lt {bl : List Nat} (h : A.Own w cs x bl) : ∀ b ∈ bl, b < w.heap.size := A.lt h.1
theorem LiesIn.below {B : Nat} (h : A.LiesIn w cs x lo hi) (hb : Below B w w') (hh : hi ≤ B) : A.LiesIn w' cs x lo hi := h.ext (extB_of_below hb) fun k _ h2 h3 => by omega
theorem OwnIn.below {B : Nat} (h : A.OwnIn w cs x lo hi) (hb : Below B w w') (hh : hi ≤ B) : A.OwnIn w' cs x lo hi := h.ext (extB_of_below hb) fun k _ h2 h3 => by omega

end Lay

theorem Box.at {lo : Nat} {cs : Array Value} {T : TypeId} {W : World} {s : Nat} (h : Box lo cs T W s) (i : Nat) (v : Value) (hi : cs[i]? = some v) : W.cell? ⟨s, i, none⟩ = some v := by
  simp [World.cell?, h.2, hi]
theorem Box.soft {lo : Nat} {cs : Array Value} {T : TypeId} {W : World} {s : Nat} (h : Box lo cs T W s) : ∀ o, W.frozen? ⟨s, o, none⟩ = false := fun o => by simp [World.frozen?, h.2]
theorem Box.ext {S : Nat → Prop} {lo : Nat} {cs : Array Value} {T : TypeId} {W w' : World} {s : Nat} (h : Box lo cs T W s) (e : Ext S W w') (hs : ¬ S s) : Box lo cs T w' s := ⟨h.1, (e.block s h.lt hs).trans h.2⟩
theorem Box.grow {lo : Nat} {cs : Array Value} {T : TypeId} {W : World} {s : Nat} (h : Box lo cs T W s) (o : Obj) : Box lo cs T (W.alloc o) s := h.keep ((Below.refl _ _).alloc (Nat.le_refl _) o)
theorem newBoxAt {lo s : Nat} {cs : Array Value} {T : TypeId} {W : World} (h : lo ≤ s) (hs : W.heap.size = s) : Box lo cs T (W.alloc (.cells cs T)) s := by subst hs; exact newBox h
theorem Box.set {lo : Nat} {cs : Array Value} {T : TypeId} {W : World} {s : Nat} (h : Box lo cs T W s) (i : Nat) (v : Value) : Box lo (cs.setIfInBounds i v) T (W.setCell ⟨s, i, none⟩ v) s := by
  refine ⟨h.1, ?_⟩
  simp [World.setCell, Array.getElem?_modify, h.2]
theorem Box.other {lo : Nat} {cs : Array Value} {T : TypeId} {W : World} {s : Nat} (h : Box lo cs T W s) (a : Addr) (v : Value) (ha : s ≠ a.block) : Box lo cs T (W.setCell a v) s := ⟨h.1, (heap_setCell_other W a s v ha).trans h.2⟩
/-- A struct's cells, stored one behind the other. -/
def setAll (W : World) (s : Nat) : Nat → List Value → World
  | _, [] => W
  | i, v :: vs => setAll (W.setCell ⟨s, i, none⟩ v) s (i + 1) vs
theorem ext_setAll (S : Nat → Prop) {a W : World} (h : Ext S a W) (s i : Nat) (vs : List Value) (hs : S s) : Ext S a (setAll W s i vs) := by
  induction vs generalizing W i with
  | nil => exact h
  | cons v vs ih => exact ih (h.setCell ⟨s, i, none⟩ v hs) (i + 1)
theorem below_setAll {B : Nat} {a W : World} (h : Below B a W) (s i : Nat) (vs : List Value) (hs : B ≤ s) : Below B a (setAll W s i vs) := by
  induction vs generalizing W i with
  | nil => exact h
  | cons v vs ih => exact ih (h.setCell (by simpa using hs) v) (i + 1)
theorem size_setAll (W : World) (s i : Nat) (vs : List Value) : (setAll W s i vs).heap.size = W.heap.size := by
  induction vs generalizing W i with
  | nil => rfl
  | cons v vs ih => rw [setAll, ih]; simp
/-- Some cells of a block, stored one behind the other. -/
def setL (W : World) (s : Nat) : List (Nat × Value) → World
  | [] => W
  | p :: ps => setL (W.setCell ⟨s, p.1, none⟩ p.2) s ps
theorem ext_setL {S : Nat → Prop} {a W : World} (h : Ext S a W) (s : Nat) (ps : List (Nat × Value)) (hs : S s) : Ext S a (setL W s ps) := by
  induction ps generalizing W with
  | nil => exact h
  | cons p ps ih => exact ih (h.setCell ⟨s, p.1, none⟩ p.2 hs)
end Go.Proofs.YtdnhmoppineegaaGreat

namespace Go.Proofs.YtdnhmoppineegaaGreat
open Go.RowKit

theorem open_sl {α : Type} {A : Lay α} {w : World} {v : Value} {xs : List α} (h : (Lay.sl A).Reads w [v] xs) : ∃ ao cap, v = .slice ao xs.length cap := by
  obtain ⟨bl, ao, cap, e, -⟩ := h
  exact ⟨ao, cap, by simpa using e⟩

/-- An element takes at most K marks, and K more for each that its lists hold. -/
def Few {α : Type} (A : Lay α) (K : Nat) : Prop := ∀ x, A.cnt x ≤ K * (1 + A.sz x) ∧ A.vcnt x ≤ K * (1 + A.sz x)
theorem few_int : Few Lay.int 1 := fun _ => by simp [Lay.int]
theorem few_bool : Few Lay.bool 1 := fun _ => by simp [Lay.bool]
theorem few_str : Few Lay.str 1 := fun _ => by simp [Lay.str]
theorem few_pair {α β : Type} {A : Lay α} {B : Lay β} {K L : Nat} (h : Few A K) (k : Few B L) : Few (Lay.pair A B) (K + L) := by
  intro x
  have h1 := h x.1
  have h2 := k x.2
  have e1 : K * (1 + A.sz x.1) ≤ K * (1 + (A.sz x.1 + B.sz x.2)) := Nat.mul_le_mul_left _ (by omega)
  have e2 : L * (1 + B.sz x.2) ≤ L * (1 + (A.sz x.1 + B.sz x.2)) := Nat.mul_le_mul_left _ (by omega)
  constructor
  · show A.cnt x.1 + B.cnt x.2 ≤ (K + L) * (1 + (A.sz x.1 + B.sz x.2))
    rw [Nat.add_mul]
    omega
  · show A.vcnt x.1 + B.vcnt x.2 ≤ (K + L) * (1 + (A.sz x.1 + B.sz x.2))
    rw [Nat.add_mul]
    omega
theorem few_sl {α : Type} {A : Lay α} {K : Nat} (h : Few A K) : Few (Lay.sl A) K := by
  intro xs
  have e : cntAll A.cnt xs ≤ K * (xs.length + cntAll A.sz xs) := by
    induction xs with
    | nil => simp [cntAll]
    | cons x xs ih =>
      have hx := (h x).1
      simp only [cntAll, List.length_cons]
      have : K * (xs.length + 1 + (A.sz x + cntAll A.sz xs)) = K * (1 + A.sz x) + K * (xs.length + cntAll A.sz xs) := by rw [← Nat.mul_add]; congr 1; omega
      omega
  have e2 : K * (xs.length + cntAll A.sz xs) ≤ K * (1 + (xs.length + cntAll A.sz xs)) := Nat.mul_le_mul_left _ (by omega)
  exact ⟨Nat.le_trans e e2, Nat.le_trans e e2⟩
theorem few_via {α β : Type} {A : Lay α} {f : β → α} {g : α → β} {K : Nat} (h : Few A K) : Few (Lay.via A f g) K := fun x => h (f x)
theorem few_bound {α : Type} {A : Lay α} {K : Nat} (h : Few A K) {x : α} (hs : A.sz x ≤ 1048576) (hK : K ≤ 60) : A.vcnt x ≤ 100000000 := by
  have := (h x).2
  have : K * (1 + A.sz x) ≤ 60 * (1 + A.sz x) := Nat.mul_le_mul_right _ hK
  omega

theorem bool_ne (b : Bool) : (b != b) = false := by cases b <;> rfl
theorem within_out {lo hi lo' hi' : Nat} (h : hi ≤ lo' ∨ hi' ≤ lo) : ∀ k, lo ≤ k → k < hi → ¬ within lo' hi' k := fun k h1 h2 h3 => by simp only [within] at h3; omega
end Go.Proofs.YtdnhmoppineegaaGreat

namespace Go.Proofs.YtdnhmoppineegaaGreat
open Go.RowKit

/-- What szT tells: what is left, or -1. -/
def szR (l n : Nat) : Int := if n ≤ l then ((l - n : Nat) : Int) else -1
theorem szR_ok {l n : Nat} (h : n ≤ l) : szR l n = ((l - n : Nat) : Int) := if_pos h
theorem szR_many {l n : Nat} (h : l < n) : szR l n = -1 := if_neg (by omega)

/-! ### The parts of a struct, each in blocks of its own -/
namespace Lay
variable {α β : Type} {A : Lay α} {B : Lay β} {w w' : World}
theorem ownIn_int {z : Int} {lo hi : Nat} (h : (Lit.int .i64 z).wf = true) : Lay.int.OwnIn w [.int .i64 z] z lo hi := ⟨[], ⟨⟨rfl, h, rfl⟩, by simp, by simp⟩, by simp⟩
theorem ownIn_bool {b : Bool} {lo hi : Nat} : Lay.bool.OwnIn w [.bool b] b lo hi := ⟨[], ⟨⟨rfl, rfl⟩, by simp, by simp⟩, by simp⟩
theorem ownIn_str {s : ByteArray} {lo hi : Nat} : Lay.str.OwnIn w [.string s] s lo hi := ⟨[], ⟨⟨rfl, rfl⟩, by simp, by simp⟩, by simp⟩
theorem ownIn_pair {c1 c2 : List Value} {x : α} {y : β} {lo m m' hi : Nat} (h : A.OwnIn w c1 x lo m) (k : B.OwnIn w c2 y m' hi) (hm : m ≤ m') (hlo : lo ≤ m') (hhi : m ≤ hi) : (Lay.pair A B).OwnIn w (c1 ++ c2) (x, y) lo hi := by
  obtain ⟨b1, ⟨l1, n1, f1⟩, i1⟩ := h
  obtain ⟨b2, ⟨l2, n2, f2⟩, i2⟩ := k
  refine ⟨b1 ++ b2, ⟨⟨c1, c2, b1, b2, rfl, rfl, l1, l2⟩, ?_, ?_⟩, ?_⟩
  · rw [List.nodup_append]
    exact ⟨n1, n2, fun a ha b hb e => by have := i1 a ha; have := i2 b hb; omega⟩
  · intro b hb
    rcases List.mem_append.1 hb with h | h
    · exact f1 b h
    · exact f2 b h
  · intro b hb
    rcases List.mem_append.1 hb with h | h
    · have := i1 b h; omega
    · have := i2 b h; omega
theorem ownIn_via {f : β → α} {g : α → β} {cs : List Value} {x : β} {lo hi : Nat} (h : A.OwnIn w cs (f x) lo hi) : (Lay.via A f g).OwnIn w cs x lo hi := h

/-- An answer of one's own. -/
theorem toldOwn {w : World} {cs : List Value} {x : α} {lo hi : Nat} (own : A.OwnIn w' cs x lo hi) (hlo : w.heap.size ≤ lo) (hhi : hi ≤ w'.heap.size) (hb : Below w.heap.size w w') :
    ∃ cs', Ending.returned (.agg cs.toArray) = .returned (.agg cs'.toArray) ∧ A.OwnIn w' cs' x w.heap.size w'.heap.size ∧ Below w.heap.size w w' := ⟨cs, rfl, own.mono hlo hhi, hb⟩

/-- The rows' own data. -/
def Subs (A : Lay α) (w : World) (rows : List (List Value)) (xs : List α) (lo hi : Nat) : Prop :=
  ∃ bls : List (List Nat), rows.length = xs.length ∧ bls.length = xs.length ∧ (∀ j (h1 : j < xs.length) (h2 : j < rows.length) (h3 : j < bls.length), A.lies w rows[j] xs[j] bls[j]) ∧
    bls.flatten.Nodup ∧ (∀ b ∈ bls.flatten, lo ≤ b ∧ b < hi) ∧ ∀ b ∈ bls.flatten, ∀ o, w.frozen? ⟨b, o, none⟩ = false
theorem subs_nil {lo hi : Nat} : Subs A w [] [] lo hi := ⟨[], rfl, rfl, fun j h => by simp at h, by simp, by simp, by simp⟩
theorem subs_snoc {rows : List (List Value)} {xs : List α} {row : List Value} {x : α} {lo hi lo' hi' : Nat} (h : Subs A w rows xs lo hi) (k : A.OwnIn w row x lo' hi') (h1 : hi ≤ lo') (h2 : lo ≤ lo') (h3 : hi ≤ hi') : Subs A w (rows ++ [row]) (xs ++ [x]) lo hi' := by
  obtain ⟨bls, hr, hb, hl, hn, hi, hf⟩ := h
  obtain ⟨bl, ⟨l, n, f⟩, i⟩ := k
  refine ⟨bls ++ [bl], by simp [hr], by simp [hb], fun j j1 j2 j3 => ?_, ?_, ?_, ?_⟩
  · by_cases hj : j < xs.length
    · have e := hl j hj (by omega) (by omega)
      rw [List.getElem_append_left (by omega), List.getElem_append_left hj, List.getElem_append_left (by omega)]
      exact e
    · obtain rfl : j = xs.length := by simp at j1; omega
      rw [List.getElem_append_right (by omega), List.getElem_append_right (by omega), List.getElem_append_right (by omega)]
      simpa using l
  · rw [List.flatten_append, List.nodup_append]
    refine ⟨hn, by simpa using n, fun a ha b hb e => ?_⟩
    have := hi a ha
    have := i b (by simpa using hb)
    omega
  · intro b hb
    rw [List.flatten_append] at hb
    rcases List.mem_append.1 hb with h | h
    · have := hi b h; omega
    · have := i b (by simpa using h); omega
  · intro b hb
    rw [List.flatten_append] at hb
    rcases List.mem_append.1 hb with h | h
    · exact hf b h
    · exact f b (by simpa using h)
theorem subs_ext {rows : List (List Value)} {xs : List α} {lo hi : Nat} {S : Nat → Prop} (h : Subs A w rows xs lo hi) (e : Ext S w w') (hs : ∀ k, lo ≤ k → k < hi → ¬ S k) : Subs A w' rows xs lo hi := by
  obtain ⟨bls, hr, hb, hl, hn, hi, hf⟩ := h
  have hlt : ∀ b ∈ bls.flatten, b < w.heap.size := by
    intro b hm
    obtain ⟨l, h1, h2⟩ := List.mem_flatten.1 hm
    obtain ⟨j, hj, rfl⟩ := List.getElem_of_mem h1
    exact A.lt (hl j (by omega) (by omega) hj) b h2
  have hk : ∀ b ∈ bls.flatten, w'.heap[b]? = w.heap[b]? := fun b hm => e.block b (hlt b hm) (hs b (hi b hm).1 (hi b hm).2)
  exact ⟨bls, hr, hb, fun j h1 h2 h3 => A.keep (hl j h1 h2 h3) fun b hm => hk b (List.mem_flatten.2 ⟨_, List.getElem_mem _, hm⟩), hn, hi, fun b hm o => (frozen_of_heap (hk b hm) o).trans (hf b hm o)⟩
theorem subs_len {rows : List (List Value)} {xs : List α} {lo hi : Nat} (h : Subs A w rows xs lo hi) : rows.flatten.length = xs.length * A.n ∧ rows.length = xs.length := by
  obtain ⟨bls, hr, hb, hl, -⟩ := h
  refine ⟨?_, hr⟩
  rw [← hr]
  have : ∀ r ∈ rows, r.length = A.n := by
    intro r hm
    obtain ⟨j, hj, rfl⟩ := List.getElem_of_mem hm
    exact A.len (hl j (by omega) hj (by omega))
  clear hr hb hl
  induction rows with
  | nil => simp
  | cons r rows ih =>
    rw [List.flatten_cons, List.length_append, this r (by simp), ih fun q hq => this q (List.mem_cons_of_mem _ hq), List.length_cons, Nat.add_mul]
    omega

theorem flat_at {rows : List (List Value)} {n : Nat} (h : ∀ r ∈ rows, r.length = n) (j m : Nat) (hj : j < rows.length) (hm : m < n) : rows.flatten[j * n + m]? = rows[j][m]? := by
  induction rows generalizing j with
  | nil => simp at hj
  | cons r rows ih =>
    have hr := h r (by simp)
    rw [List.flatten_cons]
    match j with
    | 0 =>
      rw [List.getElem?_append_left (by omega)]
      simp
    | j + 1 =>
      rw [List.getElem?_append_right (by rw [hr, Nat.add_mul]; omega), hr, show (j + 1) * n + m - n = j * n + m by rw [Nat.add_mul]; omega]
      rw [ih (fun q hq => h q (List.mem_cons_of_mem _ hq)) j (by simpa using hj)]
      simp

/-- The row is full: it is data of the call's own. -/
theorem subs_done {rows : List (List Value)} {xs : List α} {base T g cap lo hi : Nat} (hown : w.ownsRow base T A.n (.slice (some ⟨g, 0, none⟩) xs.length cap) xs.length rows.flatten) (h : Subs A w rows xs lo hi) (hg : g < lo) (hhi : hi ≤ w.heap.size) (hn : xs.length ≤ 9223372036854775807) :
    (sl A).OwnIn w [.slice (some ⟨g, 0, none⟩) xs.length cap] xs base w.heap.size := by
  obtain ⟨bls, hr, hb, hl, hnd, hi', hf⟩ := h
  have hlg := hown.lt g rfl
  have hle : ∀ r ∈ rows, r.length = A.n := by
    intro r hm
    obtain ⟨j, hj, rfl⟩ := List.getElem_of_mem hm
    exact A.len (hl j (by omega) hj (by omega))
  have hcap : xs.length ≤ cap := by
    rcases hown.2 with ⟨e, -⟩ | ⟨g', cap', cur, e, -, -, hc, -⟩
    · simp at e
    · simp only [Value.slice.injEq] at e
      obtain ⟨-, -, rfl⟩ := e
      exact hc
  by_cases h0 : xs = []
  · subst h0
    exact ⟨[], ⟨⟨_, _, rfl, ⟨hcap, hn⟩, Or.inl ⟨rfl, rfl⟩⟩, by simp, by simp⟩, by simp⟩
  · refine ⟨g :: bls.flatten, ⟨⟨_, _, rfl, ⟨hcap, hn⟩, Or.inr ⟨g, 0, rows, bls, rfl, hlg.2, rfl, hr, hb, fun j h1 h2 h3 => ⟨fun m hm => ?_, hl j h1 h2 h3⟩⟩⟩, ?_, ?_⟩, ?_⟩
    · rw [Nat.zero_add, hown.cellAt (j * A.n + m) (by
        have : (j + 1) * A.n ≤ xs.length * A.n := Nat.mul_le_mul_right _ (by omega)
        rw [Nat.add_mul] at this
        omega)]
      exact flat_at hle j m h2 hm
    · rw [List.nodup_cons]
      exact ⟨fun hm => by have := hi' g hm; omega, hnd⟩
    · intro b hm o
      rcases List.mem_cons.1 hm with rfl | hm
      · exact hown.frozenAt o
      · exact hf b hm o
    · intro b hm
      rcases List.mem_cons.1 hm with rfl | hm
      · exact hlg
      · have := hi' b hm; omega

/-- Element k of a slice, cell by cell. -/
theorem row_at {xs : List α} {b off cap k : Nat} (h : (sl A).Reads w [.slice (some ⟨b, off, none⟩) xs.length cap] xs) (hk : k < xs.length) : ∃ row, (∀ m, m < A.n → w.cell? ⟨b, off + k * A.n + m, none⟩ = row[m]?) ∧ A.Reads w row xs[k] := by
  obtain ⟨bl, ao, cp, e, -, h⟩ := h
  simp only [List.cons.injEq, Value.slice.injEq, and_true] at e
  obtain ⟨rfl, -, rfl⟩ := e
  rcases h with ⟨rfl, -⟩ | ⟨b', off', rows, bls, e2, hb, rfl, hr, hl, hj⟩
  · simp at hk
  · simp only [Option.some.injEq, Addr.mk.injEq, and_true] at e2
    obtain ⟨rfl, rfl⟩ := e2
    exact ⟨_, (hj k hk (by omega) (by omega)).1, ⟨_, (hj k hk (by omega) (by omega)).2⟩⟩
theorem sl_addr {xs : List α} {ao : Option Addr} {n cap : Nat} (h : (sl A).Reads w [.slice ao n cap] xs) (hp : 0 < xs.length) : ∃ b off, ao = some ⟨b, off, none⟩ ∧ b < w.heap.size := by
  obtain ⟨bl, ao', cp, e, -, h⟩ := h
  simp only [List.cons.injEq, Value.slice.injEq, and_true] at e
  obtain ⟨rfl, -, rfl⟩ := e
  rcases h with ⟨rfl, -⟩ | ⟨b', off', rows, bls, e2, hb, rfl, hr, hl, hj⟩
  · simp at hp
  · exact ⟨b', off', e2, hb⟩
theorem sz_elem {xs : List α} {k : Nat} (hk : k < xs.length) : A.sz xs[k] ≤ (sl A).sz xs := by
  show A.sz xs[k] ≤ xs.length + cntAll A.sz xs
  have : A.sz xs[k] ≤ cntAll A.sz xs := by
    induction xs generalizing k with
    | nil => simp at hk
    | cons x xs ih =>
      match k with
      | 0 => simp [cntAll]
      | k + 1 =>
        have := ih (k := k) (by simpa using hk)
        simp only [cntAll, List.getElem_cons_succ]
        omega
  omega
theorem sz_len {xs : List α} : xs.length ≤ (sl A).sz xs := Nat.le_add_right _ _
theorem cntAll_take {f : α → Nat} {xs : List α} {k : Nat} (hk : k < xs.length) : cntAll f (xs.take (k + 1)) = cntAll f (xs.take k) + f xs[k] := by
  induction xs generalizing k with
  | nil => simp at hk
  | cons x xs ih =>
    match k with
    | 0 => simp [cntAll]
    | k + 1 =>
      have := ih (k := k) (by simpa using hk)
      simp only [List.take_succ_cons, cntAll, List.getElem_cons_succ]
      omega
theorem cntAll_take_le {f : α → Nat} {xs : List α} {k : Nat} : cntAll f (xs.take k) ≤ cntAll f xs := by
  induction xs generalizing k with
  | nil => simp
  | cons x xs ih =>
    match k with
    | 0 => simp [cntAll]
    | k + 1 =>
      have := ih (k := k)
      simp only [List.take_succ_cons, cntAll]
      omega
end Lay

/-! ### Cells that are stored one behind the other into a row -/
def setFrom (xs : List Value) : Nat → List Value → List Value
  | _, [] => xs
  | i, v :: vs => setFrom (xs.set i v) (i + 1) vs
theorem setFrom_app (P Q vs : List Value) (h : vs.length ≤ Q.length) : setFrom (P ++ Q) P.length vs = P ++ vs ++ Q.drop vs.length := by
  induction vs generalizing P Q with
  | nil => simp [setFrom]
  | cons v vs ih =>
    match Q, h with
    | q :: Q, h =>
      rw [setFrom, List.set_append_right _ _ (Nat.le_refl _), Nat.sub_self, List.set_cons_zero]
      have := ih (P ++ [v]) Q (by simpa using h)
      simp only [List.length_append, List.length_cons, List.length_nil, Nat.zero_add] at this
      rw [show P ++ v :: Q = P ++ [v] ++ Q by simp, this]
      simp
theorem own_setAll {w : World} {base e size g n cap : Nat} {xs : List Value} (h : w.ownsRow base e size (.slice (some ⟨g, 0, none⟩) n cap) n xs) (i : Nat) (vs : List Value) : (setAll w g i vs).ownsRow base e size (.slice (some ⟨g, 0, none⟩) n cap) n (setFrom xs i vs) := by
  induction vs generalizing w i xs with
  | nil => exact h
  | cons v vs ih => exact ih (h.stored i v).1 (i + 1)
end Go.Proofs.YtdnhmoppineegaaGreat

namespace Go.Proofs.YtdnhmoppineegaaGreat
open Go.RowKit

theorem nodup_flat {bls : List (List Nat)} (h : bls.flatten.Nodup) : (∀ l ∈ bls, l.Nodup) ∧ ∀ i j (hi : i < bls.length) (hj : j < bls.length), i ≠ j → ∀ c ∈ bls[i], c ∉ bls[j] := by
  induction bls with
  | nil => exact ⟨by simp, fun i j hi => by simp at hi⟩
  | cons l ls ih =>
    rw [List.flatten_cons, List.nodup_append] at h
    obtain ⟨h1, h2, h3⟩ := h
    obtain ⟨k1, k2⟩ := ih h2
    have hm : ∀ j (hj : j < ls.length), ∀ c ∈ l, c ∉ ls[j] := fun j hj c hc hq => h3 c hc c (List.mem_flatten.2 ⟨_, List.getElem_mem hj, hq⟩) rfl
    refine ⟨fun q hq => ?_, fun i j hi hj hne c hc hq => ?_⟩
    · rcases List.mem_cons.1 hq with rfl | hq
      · exact h1
      · exact k1 q hq
    · match i, j, hi, hj, hne with
      | 0, j + 1, _, hj, _ => exact hm j (by simpa using hj) c (by simpa using hc) (by simpa using hq)
      | i + 1, 0, hi, _, _ => exact hm i (by simpa using hi) c (by simpa using hq) (by simpa using hc)
      | i + 1, j + 1, hi, hj, hne => exact k2 i j (by simpa using hi) (by simpa using hj) (by omega) c (by simpa using hc) (by simpa using hq)

/-- Row o.. of block b at the world c: n cells; all else of that block is as at w; only b and blk have been written since w. -/
structure RowAt (w c : World) (b o n : Nat) (cs : List Value) (blk : List Nat) : Prop where
  len : cs.length = n
  cells : ∀ m, m < n → c.cell? ⟨b, o + m, none⟩ = cs[m]?
  others : ∀ q, (q < o ∨ o + n ≤ q) → c.cell? ⟨b, q, none⟩ = w.cell? ⟨b, q, none⟩
  soft : ∀ q, c.frozen? ⟨b, q, none⟩ = false
  lt : b < c.heap.size
  ext : Ext (fun q => q = b ∨ q ∈ blk) w c

theorem RowAt.at {w c : World} {b o n : Nat} {cs : List Value} {blk : List Nat} (h : RowAt w c b o n cs blk) (m : Nat) (v : Value) (hv : cs[m]? = some v) : c.cell? ⟨b, o + m, none⟩ = some v := by
  have : m < n := by rw [← h.len]; exact (List.getElem?_eq_some_iff.1 hv).1
  rw [h.cells m this, hv]
theorem RowAt.set {w c : World} {b o n : Nat} {cs : List Value} {blk : List Nat} (h : RowAt w c b o n cs blk) (m : Nat) (v : Value) (hm : m < n) : RowAt w (c.setCell ⟨b, o + m, none⟩ v) b o n (cs.set m v) blk := by
  refine ⟨by simpa using h.len, fun j hj => ?_, fun q hq => ?_, fun q => by simpa using h.soft q, by simpa using h.lt, h.ext.setCell _ _ (Or.inl rfl)⟩
  · by_cases e : j = m
    · subst e
      have hc := h.cells j hj
      have : ∃ u, c.cell? ⟨b, o + j, none⟩ = some u := ⟨_, hc.trans (List.getElem?_eq_getElem (by rw [h.len]; exact hj))⟩
      obtain ⟨u, hu⟩ := this
      rw [World.cell?_setCell_same _ _ _ hu, List.getElem?_set_self (by rw [h.len]; exact hj)]
    · rw [World.cell?_setCell_other _ _ _ _ (fun q => by have := congrArg Addr.off q; simp only at this; omega), h.cells j hj, List.getElem?_set_ne (by omega)]
  · rw [World.cell?_setCell_other _ _ _ _ (fun e => by have := congrArg Addr.off e; simp only at this; omega)]
    exact h.others q hq
theorem RowAt.call {w c c' : World} {b o n : Nat} {cs : List Value} {blk g : List Nat} (h : RowAt w c b o n cs blk) (e : Ext (fun q => q ∈ g) c c') (hg : ∀ q ∈ g, q ∈ blk) (hb : b ∉ g) : RowAt w c' b o n cs blk := by
  have hh := e.block b h.lt hb
  exact ⟨h.len, fun m hm => (cell_of_heap hh _).trans (h.cells m hm), fun q hq => (cell_of_heap hh _).trans (h.others q hq), fun q => (frozen_of_heap hh _).trans (h.soft q), Nat.lt_of_lt_of_le h.lt e.size, h.ext.trans (e.mono fun q _ hq => Or.inr (hg q hq))⟩

namespace Lay
variable {α : Type} {A : Lay α} {w : World}

/-- Element k of data of one's own: its cells, its own data; and what holds when it has been written anew. -/
theorem own_upd {xs : List α} {b off cap k n : Nat} {bl : List Nat} (h : (sl A).Own w [.slice (some ⟨b, off, none⟩) n cap] xs bl) (hk : k < xs.length) :
    ∃ row blk, RowAt w w b (off + k * A.n) A.n row blk ∧ A.Own w row xs[k] blk ∧ b ∉ blk ∧
      (∀ c, (b = c ∨ c ∈ blk) → c ∈ bl) ∧ ∀ w' row' x', RowAt w w' b (off + k * A.n) A.n row' blk → A.Own w' row' x' blk → (sl A).Own w' [.slice (some ⟨b, off, none⟩) n cap] (xs.set k x') bl := by
  obtain ⟨⟨ao, cp, e, hsz, hl⟩, hnd, hf⟩ := h
  simp only [List.cons.injEq, Value.slice.injEq, and_true] at e
  obtain ⟨rfl, rfl, rfl⟩ := e
  rcases hl with ⟨rfl, -⟩ | ⟨b', off', rows, bls, e2, hb, rfl, hr, hbl, hj⟩
  · simp at hk
  simp only [Option.some.injEq, Addr.mk.injEq, and_true] at e2
  obtain ⟨rfl, rfl⟩ := e2
  have hk1 : k < rows.length := by omega
  have hk2 : k < bls.length := by omega
  obtain ⟨hc, hlie⟩ := hj k hk hk1 hk2
  rw [List.nodup_cons] at hnd
  have hmem : ∀ c ∈ bls[k], c ∈ bls.flatten := fun c hc => List.mem_flatten.2 ⟨_, List.getElem_mem _, hc⟩
  have hb0 : b ∉ bls[k] := fun hm => hnd.1 (hmem b hm)
  have hfl := nodup_flat hnd.2
  refine ⟨rows[k], bls[k], ⟨A.len hlie, hc, fun _ _ => rfl, fun q => hf b (by simp) q, hb, Ext.refl _ _⟩, ⟨hlie, hfl.1 _ (List.getElem_mem _), fun c hm => hf c (by simp [hmem c hm])⟩, hb0, ?_, ?_⟩
  · rintro c (rfl | hm)
    · simp
    · simp [hmem c hm]
  · intro w' row' x' hR hO
    have hkeep : ∀ c, c < w.heap.size → c ≠ b → c ∉ bls[k] → w'.heap[c]? = w.heap[c]? := fun c hlt h1 h2 => hR.ext.block c hlt (by rintro (h | h); exact h1 h; exact h2 h)
    have hother : ∀ j (h1 : j < bls.length), j ≠ k → ∀ c ∈ bls[j], c ≠ b ∧ c ∉ bls[k] := by
      intro j h1 hne c hm
      refine ⟨fun e => hnd.1 (e ▸ List.mem_flatten.2 ⟨_, List.getElem_mem h1, hm⟩), fun hm2 => ?_⟩
      exact hfl.2 j k h1 hk2 hne c hm hm2
    refine ⟨⟨some ⟨b, off, none⟩, cap, by simp, by simpa using hsz, Or.inr ⟨b, off, rows.set k row', bls, rfl, hR.lt, rfl, by simpa using hr, by simpa using hbl, fun j h1 h2 h3 => ?_⟩⟩, ?_, ?_⟩
    · have h1' : j < xs.length := by simpa using h1
      have h2' : j < rows.length := by simpa using h2
      by_cases e : j = k
      · subst e
        rw [List.getElem_set_self, List.getElem_set_self]
        exact ⟨hR.cells, hO.1⟩
      · rw [List.getElem_set_ne (by omega), List.getElem_set_ne (by omega)]
        obtain ⟨c1, c2⟩ := hj j h1' h2' h3
        refine ⟨fun m hm => ?_, A.keep c2 fun c hm => hkeep c (A.lt c2 c hm) (hother j h3 e c hm).1 (hother j h3 e c hm).2⟩
        rw [hR.others _ ?_]
        · exact c1 m hm
        · rcases Nat.lt_or_ge j k with h | h
          · left
            have : (j + 1) * A.n ≤ k * A.n := Nat.mul_le_mul_right _ h
            rw [Nat.add_mul] at this
            omega
          · right
            have : (k + 1) * A.n ≤ j * A.n := Nat.mul_le_mul_right _ (by omega)
            rw [Nat.add_mul] at this
            omega
    · rw [List.nodup_cons]
      exact hnd
    · intro c hm o
      rcases List.mem_cons.1 hm with rfl | hm
      · exact hR.soft o
      · obtain ⟨l, hl1, hl2⟩ := List.mem_flatten.1 hm
        obtain ⟨j, hjl, rfl⟩ := List.getElem_of_mem hl1
        by_cases e : j = k
        · subst e
          exact hO.2.2 c hl2 o
        · obtain ⟨c1, c2⟩ := hj j (by omega) (by omega) hjl
          rw [frozen_of_heap (hkeep c (A.lt c2 c hl2) (hother j hjl e c hl2).1 (hother j hjl e c hl2).2) o]
          exact hf c (List.mem_cons_of_mem _ hm) o
end Lay

/-! ### Lists that are marked one element behind the other -/
theorem mkAll_at {α : Type} (c : α → Nat) (m : Int → α → α) (k : Int) (xs : List α) (j : Nat) (hj : j < xs.length) (hj2 : j < (mkAll c m k xs).length) : (mkAll c m k xs)[j] = m (k + (cntAll c (xs.take j) : Nat)) xs[j] := by
  induction xs generalizing k j with
  | nil => simp at hj
  | cons x xs ih =>
    match j with
    | 0 => simp [mkAll, cntAll]
    | j + 1 =>
      have := ih (k + c x) j (by simpa using hj) (by simpa [mkAll] using hj2)
      simp only [mkAll, List.getElem_cons_succ, List.take_succ_cons, cntAll]
      rw [this]
      congr 1
      omega
theorem mkAll_size {α : Type} (c : α → Nat) (m : Int → α → α) (k : Int) (xs : List α) : (mkAll c m k xs).length = xs.length := by
  induction xs generalizing k with
  | nil => rfl
  | cons x xs ih => simp [mkAll, ih]
/-- The first j marked, the others as they were. -/
def mkPre {α : Type} (c : α → Nat) (m : Int → α → α) (k : Int) (xs : List α) (j : Nat) : List α := (mkAll c m k xs).take j ++ xs.drop j
theorem mkPre_len {α : Type} (c : α → Nat) (m : Int → α → α) (k : Int) (xs : List α) (j : Nat) (hj : j ≤ xs.length) : (mkPre c m k xs j).length = xs.length := by
  simp [mkPre, mkAll_size]; omega
theorem mkPre_get {α : Type} (c : α → Nat) (m : Int → α → α) (k : Int) (xs : List α) (j : Nat) (hj : j < xs.length) (h2 : j < (mkPre c m k xs j).length) : (mkPre c m k xs j)[j] = xs[j] := by
  have e : (mkPre c m k xs j)[j]? = xs[j]? := by
    rw [mkPre, List.getElem?_append_right (by simp [mkAll_size]; omega)]
    simp [mkAll_size, Nat.min_eq_left (Nat.le_of_lt hj)]
  rw [List.getElem?_eq_getElem h2, List.getElem?_eq_getElem hj] at e
  exact Option.some.inj e
theorem mkPre_set {α : Type} (c : α → Nat) (m : Int → α → α) (k : Int) (xs : List α) (j : Nat) (hj : j < xs.length) : (mkPre c m k xs j).set j (m (k + (cntAll c (xs.take j) : Nat)) xs[j]) = mkPre c m k xs (j + 1) := by
  have hl : ((mkAll c m k xs).take j).length = j := by simp [mkAll_size]; omega
  unfold mkPre
  rw [List.set_append_right _ _ (by omega), hl, Nat.sub_self, List.drop_eq_getElem_cons hj, List.set_cons_zero, List.take_succ_eq_append_getElem (by rw [mkAll_size]; exact hj), mkAll_at c m k xs j hj]
  simp
theorem mkPre_zero {α : Type} (c : α → Nat) (m : Int → α → α) (k : Int) (xs : List α) : mkPre c m k xs 0 = xs := by simp [mkPre]
theorem mkPre_all {α : Type} (c : α → Nat) (m : Int → α → α) (k : Int) (xs : List α) : mkPre c m k xs xs.length = mkAll c m k xs := by
  unfold mkPre
  rw [List.drop_length, List.append_nil, List.take_of_length_le (by rw [mkAll_size]; exact Nat.le_refl _)]
end Go.Proofs.YtdnhmoppineegaaGreat

namespace Go.Proofs.YtdnhmoppineegaaGreat
open Go.RowKit

/-- The slice v holds the data xs, row by row; the blocks behind them are bls; the row's own block is none of them. -/
structure Grow {α : Type} (A : Lay α) (w : World) (base T : Nat) (v : Value) (rows : List (List Value)) (xs : List α) (bls : List (List Nat)) : Prop where
  own : w.ownsRow base T A.n v xs.length rows.flatten
  nrows : rows.length = xs.length
  nbls : bls.length = xs.length
  lies : ∀ j (h1 : j < xs.length) (h2 : j < rows.length) (h3 : j < bls.length), A.lies w rows[j] xs[j] bls[j]
  off : ∀ b ∈ bls.flatten, v.ownBlock ≠ some b

namespace Grow
variable {α : Type} {A : Lay α} {w w' : World} {base T : Nat} {v : Value} {rows : List (List Value)} {xs : List α} {bls : List (List Nat)}

theorem nil (h : w.ownsRow base T A.n v 0 []) : Grow A w base T v [] [] [] := ⟨h, rfl, rfl, fun j h1 => by simp at h1, by simp⟩
theorem sub_lt (h : Grow A w base T v rows xs bls) : ∀ b ∈ bls.flatten, b < w.heap.size := by
  intro b hb
  obtain ⟨l, h1, h2⟩ := List.mem_flatten.1 hb
  obtain ⟨j, hj, rfl⟩ := List.getElem_of_mem h1
  exact A.lt (h.lies j (by have := h.nbls; omega) (by have := h.nbls; have := h.nrows; omega) hj) b h2
theorem kept (h : Grow A w base T v rows xs bls) (ho : w'.ownsRow base T A.n v xs.length rows.flatten) (hk : ∀ b ∈ bls.flatten, w'.heap[b]? = w.heap[b]?) : Grow A w' base T v rows xs bls :=
  ⟨ho, h.nrows, h.nbls, fun j h1 h2 h3 => A.keep (h.lies j h1 h2 h3) fun b hb => hk b (List.mem_flatten.2 ⟨_, List.getElem_mem _, hb⟩), h.off⟩
theorem later (h : Grow A w base T v rows xs bls) (hb : Below w.heap.size w w') : Grow A w' base T v rows xs bls :=
  h.kept (own_below h.own hb) fun b hm => hb.block b (h.sub_lt b hm)
theorem lower {b' : Nat} (h : Grow A w base T v rows xs bls) (hb : b' ≤ base) : Grow A w b' T v rows xs bls := ⟨own_mono hb h.own, h.nrows, h.nbls, h.lies, h.off⟩
/-- Another block is written. -/
theorem grown {b : Nat} (h : Grow A w base T v rows xs bls) (hg : w.grownBy w' (some b)) (hb : b < base) (hs : ∀ c ∈ bls.flatten, base ≤ c) : Grow A w' base T v rows xs bls :=
  h.kept (h.own.kept hg (Or.inr fun e => by have := (h.own.lt b e).1; omega)) fun c hc => hg.block c (h.sub_lt c hc) (fun e => by
    have h1 := hs c hc
    have h2 : c = b := Option.some.inj e
    omega)
/-- One more. -/
theorem snoc (h : Grow A w base T v rows xs bls) {row : List Value} {x : α} {bl : List Nat} (hl : A.lies w row x bl) (hb : ∀ b ∈ bl, v.ownBlock ≠ some b) {g cap : Nat}
    (ho : w'.ownsRow base T A.n (.slice (some ⟨g, 0, none⟩) (xs.length + 1) cap) (xs.length + 1) (rows.flatten ++ row)) (hg : w.grownBy w' v.ownBlock) (hor : v.ownBlock = some g ∨ w.heap.size ≤ g) :
    Grow A w' base T (.slice (some ⟨g, 0, none⟩) (xs.length + 1) cap) (rows ++ [row]) (xs ++ [x]) (bls ++ [bl]) := by
  have hlt := h.sub_lt
  have hbl := A.lt hl
  have hk : ∀ b ∈ bls.flatten, w'.heap[b]? = w.heap[b]? := fun b hm => hg.block b (hlt b hm) (fun e => h.off b hm e.symm)
  have hk2 : ∀ b ∈ bl, w'.heap[b]? = w.heap[b]? := fun b hm => hg.block b (hbl b hm) (fun e => hb b hm e.symm)
  refine ⟨by simpa using ho, by simp [h.nrows], by simp [h.nbls], fun j h1 h2 h3 => ?_, ?_⟩
  · by_cases hj : j < xs.length
    · have e := h.lies j hj (by have := h.nrows; omega) (by have := h.nbls; omega)
      rw [List.getElem_append_left (by have := h.nrows; omega), List.getElem_append_left hj, List.getElem_append_left (by have := h.nbls; omega)]
      exact A.keep e fun b hm => hk b (List.mem_flatten.2 ⟨_, List.getElem_mem _, hm⟩)
    · obtain rfl : j = xs.length := by simp at h1; omega
      rw [List.getElem_append_right (by have := h.nrows; omega), List.getElem_append_right (by omega), List.getElem_append_right (by have := h.nbls; omega)]
      simpa using A.keep hl hk2
  · intro b hm e
    have e1 : b = g := by simpa [Value.ownBlock] using e.symm
    rw [List.flatten_append] at hm
    rcases hor with ho1 | ho1
    · rcases List.mem_append.1 hm with hm | hm
      · exact h.off b hm (by rw [ho1, e1])
      · exact hb b (by simpa using hm) (by rw [ho1, e1])
    · rcases List.mem_append.1 hm with hm | hm
      · have := hlt b hm; omega
      · have := hbl b (by simpa using hm); omega
theorem form (h : Grow A w base T v rows xs bls) : (v = .slice none 0 0 ∧ xs = []) ∨ ∃ g cap, v = .slice (some ⟨g, 0, none⟩) xs.length cap ∧ base ≤ g ∧ g < w.heap.size ∧ xs.length ≤ cap := by
  rcases h.own.2 with ⟨rfl, h0⟩ | ⟨g, cap, cur, rfl, hg, hh, hcap, _⟩
  · exact Or.inl ⟨rfl, List.eq_nil_of_length_eq_zero h0⟩
  · exact Or.inr ⟨g, cap, rfl, hg, lt_of_block hh, hcap⟩
theorem row_len (h : Grow A w base T v rows xs bls) : ∀ r ∈ rows, r.length = A.n := by
  intro r hm
  obtain ⟨j, hj, rfl⟩ := List.getElem_of_mem hm
  exact A.len (h.lies j (by have := h.nrows; omega) hj (by have := h.nrows; have := h.nbls; omega))
theorem flat_len (h : Grow A w base T v rows xs bls) : rows.flatten.length = xs.length * A.n := h.own.1
/-- It can be read. -/
theorem reads (h : Grow A w base T v rows xs bls) (hn : xs.length ≤ 9223372036854775807) : (Lay.sl A).lies w [v] xs (match v with | .slice (some a) _ _ => if xs = [] then [] else a.block :: bls.flatten | _ => []) ∨ xs = [] ∧ (Lay.sl A).lies w [v] xs [] := by
  rcases h.form with ⟨rfl, rfl⟩ | ⟨g, cap, rfl, hg, hgl, hcap⟩
  · exact Or.inr ⟨rfl, ⟨none, 0, rfl, ⟨by simp, hn⟩, Or.inl ⟨rfl, rfl⟩⟩⟩
  · by_cases h0 : xs = []
    · subst h0
      exact Or.inr ⟨rfl, ⟨_, cap, rfl, ⟨hcap, hn⟩, Or.inl ⟨rfl, rfl⟩⟩⟩
    · left
      simp only [if_neg h0]
      refine ⟨_, cap, rfl, ⟨hcap, hn⟩, Or.inr ⟨g, 0, rows, bls, rfl, hgl, rfl, h.nrows, h.nbls, fun j h1 h2 h3 => ⟨fun m hm => ?_, h.lies j h1 h2 h3⟩⟩⟩
      rw [Nat.zero_add, h.own.cellAt (j * A.n + m) (by
        have := h.flat_len
        have : (j + 1) * A.n ≤ xs.length * A.n := Nat.mul_le_mul_right _ (by omega)
        rw [Nat.add_mul] at this
        omega)]
      exact Lay.flat_at h.row_len j m h2 hm
theorem toReads (h : Grow A w base T v rows xs bls) (hn : xs.length ≤ 9223372036854775807) : (Lay.sl A).Reads w [v] xs := by
  rcases h.reads hn with h | ⟨-, h⟩
  · exact ⟨_, h⟩
  · exact ⟨_, h⟩
/-- It is data of the call's own, if what lies behind it is. -/
theorem toOwn (h : Grow A w base T v rows xs bls) (hn : xs.length ≤ 9223372036854775807) (hnd : bls.flatten.Nodup) (hs : ∀ b ∈ bls.flatten, base ≤ b ∧ ∀ o, w.frozen? ⟨b, o, none⟩ = false) : (Lay.sl A).OwnIn w [v] xs base w.heap.size := by
  have hr := h.reads hn
  rcases h.form with ⟨rfl, rfl⟩ | ⟨g, cap, rfl, hg, hgl, hcap⟩
  · exact ⟨[], ⟨⟨none, 0, rfl, ⟨by simp, hn⟩, Or.inl ⟨rfl, rfl⟩⟩, by simp, by simp⟩, by simp⟩
  · by_cases h0 : xs = []
    · subst h0
      exact ⟨[], ⟨⟨_, cap, rfl, ⟨hcap, hn⟩, Or.inl ⟨rfl, rfl⟩⟩, by simp, by simp⟩, by simp⟩
    · simp only [if_neg h0] at hr
      rcases hr with hr | ⟨h1, -⟩
      · refine ⟨_, ⟨hr, ?_, ?_⟩, ?_⟩
        · rw [List.nodup_cons]
          exact ⟨fun hm => h.off g hm rfl, hnd⟩
        · intro b hm o
          rcases List.mem_cons.1 hm with rfl | hm
          · exact h.own.frozenAt o
          · exact (hs b hm).2 o
        · intro b hm
          rcases List.mem_cons.1 hm with rfl | hm
          · exact ⟨hg, hgl⟩
          · exact ⟨(hs b hm).1, h.sub_lt b hm⟩
      · exact absurd h1 h0
/-- It lies in the call's own blocks, if what lies behind it does. -/
theorem toLies (h : Grow A w base T v rows xs bls) (hn : xs.length ≤ 9223372036854775807) (hs : ∀ b ∈ bls.flatten, base ≤ b) : (Lay.sl A).LiesIn w [v] xs base w.heap.size := by
  have hr := h.reads hn
  rcases h.form with ⟨rfl, rfl⟩ | ⟨g, cap, rfl, hg, hgl, hcap⟩
  · exact ⟨[], ⟨none, 0, rfl, ⟨by simp, hn⟩, Or.inl ⟨rfl, rfl⟩⟩, by simp⟩
  · by_cases h0 : xs = []
    · subst h0
      exact ⟨[], ⟨_, cap, rfl, ⟨hcap, hn⟩, Or.inl ⟨rfl, rfl⟩⟩, by simp⟩
    · simp only [if_neg h0] at hr
      rcases hr with hr | ⟨h1, -⟩
      · refine ⟨_, hr, fun b hm => ?_⟩
        rcases List.mem_cons.1 hm with rfl | hm
        · exact ⟨hg, hgl⟩
        · exact ⟨hs b hm, h.sub_lt b hm⟩
      · exact absurd h1 h0
end Grow

end Go.Proofs.YtdnhmoppineegaaGreat

namespace Go.Proofs.YtdnhmoppineegaaGreat
open Go.RowKit

structure DChain where
  epoch : Int
  ids : List Int

def Lay.tChain : Lay DChain := Lay.via (Lay.pair Lay.int (Lay.sl Lay.int)) (fun x => (x.epoch, x.ids)) (fun p => ⟨p.1, p.2⟩)

theorem lies_Chain {w : World} {cs : List Value} {x : DChain} {bl : List Nat} : Lay.tChain.lies w cs x bl ↔ ∃ (a1 : Option Addr) (d1 : Nat) (b1 : List Nat), cs = [.int .i64 x.epoch, .slice a1 x.ids.length d1] ∧ bl = b1 ∧ (Lit.int .i64 x.epoch).wf = true ∧ (Lay.sl Lay.int).lies w [.slice a1 x.ids.length d1] x.ids b1 := by
  constructor
  · intro h
    obtain ⟨c0_, r0_, e0_, s0_, rfl, rfl, h0, h1⟩ := h
    obtain ⟨rfl, w0, rfl⟩ := h0
    have k1 := h1
    obtain ⟨a1, d1, rfl, -⟩ := k1
    exact ⟨a1, d1, s0_, by simp, by simp, w0, h1⟩
  · rintro ⟨a1, d1, b1, rfl, hbl, w0, l1⟩
    rw [hbl]
    exact ⟨[.int .i64 x.epoch], [.slice a1 x.ids.length d1], [], b1, rfl, by simp, ⟨rfl, w0, rfl⟩, l1⟩

theorem open_Chain {w : World} {cs : List Value} {x : DChain} (h : Lay.tChain.Reads w cs x) : ∃ (a1 : Option Addr) (d1 : Nat), cs = [.int .i64 x.epoch, .slice a1 x.ids.length d1] ∧ (Lay.sl Lay.int).Reads w [.slice a1 x.ids.length d1] x.ids := by
  obtain ⟨bl, h⟩ := h
  obtain ⟨a1, d1, b1, rfl, -, w0, l1⟩ := lies_Chain.1 h
  exact ⟨a1, d1, rfl, ⟨_, l1⟩⟩

end Go.Proofs.YtdnhmoppineegaaGreat

namespace Go.Proofs.YtdnhmoppineegaaGreat

def partB (z : Int) : Bool := decide (-1000 ≤ z) && decide (z ≤ 1000)
def vecFault (zs : List Int) : Int := if zs.length = 3 then (if zs.all partB then 0 else 3) else 1

theorem vecFault_len {zs : List Int} (h : zs.length ≠ 3) : vecFault zs = 1 := by simp [vecFault, h]
theorem vecFault_bad {zs : List Int} (h : zs.length = 3) (k : Nat) (hk : k < 3) (hb : partB (zs.getD k 0) = false) : vecFault zs = 3 := by
  have : zs.all partB = false := by
    rw [List.all_eq_false]
    exact ⟨zs.getD k 0, by simp [List.getD, show k < zs.length by omega], by rw [hb]; simp⟩
  simp [vecFault, h, this]
theorem vecFault_ok {zs : List Int} (h : zs.length = 3) (hg : ∀ j, j < 3 → partB (zs.getD j 0) = true) : vecFault zs = 0 := by
  have : zs.all partB = true := by
    rw [List.all_eq_true]
    intro x hx
    obtain ⟨j, hj, rfl⟩ := List.mem_iff_getElem.1 hx
    have := hg j (by omega)
    simpa [List.getD, hj] using this
  simp [vecFault, h, this]
theorem partB_true {z : Int} (h : partB z = true) : -1000 ≤ z ∧ z ≤ 1000 := by simpa [partB] using h
theorem partB_false {z : Int} (h : partB z = false) : z < -1000 ∨ 1000 < z := by
  simp [partB] at h
  omega
theorem vecFault_zero {zs : List Int} (h : vecFault zs = 0) : zs.length = 3 ∧ ∀ j, j < 3 → -1000 ≤ zs.getD j 0 ∧ zs.getD j 0 ≤ 1000 := by
  unfold vecFault at h
  split at h
  · next hl =>
    refine ⟨hl, fun j hj => ?_⟩
    split at h
    · next ha =>
      rw [List.all_eq_true] at ha
      exact partB_true (ha _ (by simp [List.getD, show j < zs.length by omega]))
    · simp at h
  · simp at h

theorem fault3 {x y z : Int} (h : vecFault [x, y, z] = 0) : (-1000 ≤ x ∧ x ≤ 1000) ∧ (-1000 ≤ y ∧ y ≤ 1000) ∧ (-1000 ≤ z ∧ z ≤ 1000) := by
  have h1 := (vecFault_zero h).2
  exact ⟨by simpa using h1 0 (by omega), by simpa using h1 1 (by omega), by simpa using h1 2 (by omega)⟩

end Go.Proofs.YtdnhmoppineegaaGreat

namespace Go.Proofs.YtdnhmoppineegaaGreat
open Go.RowKit

structure DWrite where
  kind : Int
  id : Int
  vec : List Int
  session : Int
  seq : Int

def Lay.tWrite : Lay DWrite := Lay.via (Lay.pair Lay.int (Lay.pair Lay.int (Lay.pair (Lay.sl Lay.int) (Lay.pair Lay.int Lay.int)))) (fun x => (x.kind, x.id, x.vec, x.session, x.seq)) (fun p => ⟨p.1, p.2.1, p.2.2.1, p.2.2.2.1, p.2.2.2.2⟩)

theorem lies_Write {w : World} {cs : List Value} {x : DWrite} {bl : List Nat} : Lay.tWrite.lies w cs x bl ↔ ∃ (a2 : Option Addr) (d2 : Nat) (b2 : List Nat), cs = [.int .i64 x.kind, .int .i64 x.id, .slice a2 x.vec.length d2, .int .i64 x.session, .int .i64 x.seq] ∧ bl = b2 ∧ (Lit.int .i64 x.kind).wf = true ∧ (Lit.int .i64 x.id).wf = true ∧ (Lay.sl Lay.int).lies w [.slice a2 x.vec.length d2] x.vec b2 ∧ (Lit.int .i64 x.session).wf = true ∧ (Lit.int .i64 x.seq).wf = true := by
  constructor
  · intro h
    obtain ⟨c0_, r0_, e0_, s0_, rfl, rfl, h0, ⟨c1_, r1_, e1_, s1_, rfl, rfl, h1, ⟨c2_, r2_, e2_, s2_, rfl, rfl, h2, ⟨c3_, r3_, e3_, s3_, rfl, rfl, h3, h4⟩⟩⟩⟩ := h
    obtain ⟨rfl, w0, rfl⟩ := h0
    obtain ⟨rfl, w1, rfl⟩ := h1
    have k2 := h2
    obtain ⟨a2, d2, rfl, -⟩ := k2
    obtain ⟨rfl, w3, rfl⟩ := h3
    obtain ⟨rfl, w4, rfl⟩ := h4
    exact ⟨a2, d2, e2_, by simp, by simp, w0, w1, h2, w3, w4⟩
  · rintro ⟨a2, d2, b2, rfl, hbl, w0, w1, l2, w3, w4⟩
    rw [hbl]
    exact ⟨[.int .i64 x.kind], [.int .i64 x.id] ++ ([.slice a2 x.vec.length d2] ++ ([.int .i64 x.session] ++ [.int .i64 x.seq])), [], [] ++ (b2 ++ ([] ++ ([]))), rfl, by simp, ⟨rfl, w0, rfl⟩, ⟨[.int .i64 x.id], [.slice a2 x.vec.length d2] ++ ([.int .i64 x.session] ++ [.int .i64 x.seq]), [], b2 ++ ([] ++ ([])), rfl, by simp, ⟨rfl, w1, rfl⟩, ⟨[.slice a2 x.vec.length d2], [.int .i64 x.session] ++ [.int .i64 x.seq], b2, [] ++ ([]), rfl, by simp, l2, ⟨[.int .i64 x.session], [.int .i64 x.seq], [], [], rfl, by simp, ⟨rfl, w3, rfl⟩, ⟨rfl, w4, rfl⟩⟩⟩⟩⟩

theorem open_Write {w : World} {cs : List Value} {x : DWrite} (h : Lay.tWrite.Reads w cs x) : ∃ (a2 : Option Addr) (d2 : Nat), cs = [.int .i64 x.kind, .int .i64 x.id, .slice a2 x.vec.length d2, .int .i64 x.session, .int .i64 x.seq] ∧ (Lay.sl Lay.int).Reads w [.slice a2 x.vec.length d2] x.vec := by
  obtain ⟨bl, h⟩ := h
  obtain ⟨a2, d2, b2, rfl, -, w0, w1, l2, w3, w4⟩ := lies_Write.1 h
  exact ⟨a2, d2, rfl, ⟨_, l2⟩⟩

end Go.Proofs.YtdnhmoppineegaaGreat

namespace Go.Proofs.YtdnhmoppineegaaGreat
open Go.RowKit

theorem vcnt_Write (x : DWrite) : Lay.tWrite.vcnt x = (Lay.sl Lay.int).vcnt x.vec := by
  show 0 + (0 + ((Lay.sl Lay.int).vcnt x.vec + (0 + (0)))) = (Lay.sl Lay.int).vcnt x.vec
  omega
theorem mkv_Write (k : Int) (x : DWrite) : Lay.tWrite.mkv k x = ⟨x.kind, x.id, (Lay.sl Lay.int).mkv (k) x.vec, x.session, x.seq⟩ := by
  simp [Lay.tWrite, Lay.via, Lay.pair, Lay.int]
theorem own_Write {w : World} {cs : List Value} {x : DWrite} {bl : List Nat} (h : Lay.tWrite.Own w cs x bl) : ∃ (a2 : Option Addr) (d2 : Nat) (g2 : List Nat), cs = [.int .i64 x.kind, .int .i64 x.id, .slice a2 x.vec.length d2, .int .i64 x.session, .int .i64 x.seq] ∧ bl = g2 ∧ (Lay.sl Lay.int).Own w [.slice a2 x.vec.length d2] x.vec g2 ∧ (Lit.int .i64 x.kind).wf = true ∧ (Lit.int .i64 x.id).wf = true ∧ (Lit.int .i64 x.session).wf = true ∧ (Lit.int .i64 x.seq).wf = true := by
  obtain ⟨hl, hn, hf⟩ := h
  obtain ⟨a2, d2, b2, rfl, hbl, w0, w1, l2, w3, w4⟩ := lies_Write.1 hl
  rw [hbl] at hn hf
  exact ⟨a2, d2, b2, rfl, hbl, ⟨l2, hn, hf⟩, w0, w1, w3, w4⟩
theorem mkOwn_Write {w : World} {x : DWrite} {c2 : List Value} {g2 : List Nat} (O2 : (Lay.sl Lay.int).Own w c2 x.vec g2) (v0 : (Lit.int .i64 x.kind).wf = true) (v1 : (Lit.int .i64 x.id).wf = true) (v3 : (Lit.int .i64 x.session).wf = true) (v4 : (Lit.int .i64 x.seq).wf = true) (hn : (g2).Nodup) : Lay.tWrite.Own w ([.int .i64 x.kind] ++ ([.int .i64 x.id] ++ (c2 ++ ([.int .i64 x.session] ++ ([.int .i64 x.seq]))))) x (g2) := by
  refine ⟨⟨[.int .i64 x.kind], [.int .i64 x.id] ++ (c2 ++ ([.int .i64 x.session] ++ ([.int .i64 x.seq]))), [], [] ++ (g2 ++ ([] ++ [])), rfl, by simp, ⟨rfl, v0, rfl⟩, ⟨[.int .i64 x.id], c2 ++ ([.int .i64 x.session] ++ ([.int .i64 x.seq])), [], g2 ++ ([] ++ []), rfl, rfl, ⟨rfl, v1, rfl⟩, ⟨c2, [.int .i64 x.session] ++ ([.int .i64 x.seq]), g2, [] ++ [], rfl, rfl, O2.1, ⟨[.int .i64 x.session], [.int .i64 x.seq], [], [], rfl, rfl, ⟨rfl, v3, rfl⟩, ⟨rfl, v4, rfl⟩⟩⟩⟩⟩, hn, ?_⟩
  intro b hb o
  exact O2.2.2 b hb o

end Go.Proofs.YtdnhmoppineegaaGreat

namespace Go.Proofs.YtdnhmoppineegaaGreat
open Go.RowKit

structure DItem where
  id : Int
  vec : List Int

def Lay.tItem : Lay DItem := Lay.via (Lay.pair Lay.int (Lay.sl Lay.int)) (fun x => (x.id, x.vec)) (fun p => ⟨p.1, p.2⟩)

theorem lies_Item {w : World} {cs : List Value} {x : DItem} {bl : List Nat} : Lay.tItem.lies w cs x bl ↔ ∃ (a1 : Option Addr) (d1 : Nat) (b1 : List Nat), cs = [.int .i64 x.id, .slice a1 x.vec.length d1] ∧ bl = b1 ∧ (Lit.int .i64 x.id).wf = true ∧ (Lay.sl Lay.int).lies w [.slice a1 x.vec.length d1] x.vec b1 := by
  constructor
  · intro h
    obtain ⟨c0_, r0_, e0_, s0_, rfl, rfl, h0, h1⟩ := h
    obtain ⟨rfl, w0, rfl⟩ := h0
    have k1 := h1
    obtain ⟨a1, d1, rfl, -⟩ := k1
    exact ⟨a1, d1, s0_, by simp, by simp, w0, h1⟩
  · rintro ⟨a1, d1, b1, rfl, hbl, w0, l1⟩
    rw [hbl]
    exact ⟨[.int .i64 x.id], [.slice a1 x.vec.length d1], [], b1, rfl, by simp, ⟨rfl, w0, rfl⟩, l1⟩

theorem open_Item {w : World} {cs : List Value} {x : DItem} (h : Lay.tItem.Reads w cs x) : ∃ (a1 : Option Addr) (d1 : Nat), cs = [.int .i64 x.id, .slice a1 x.vec.length d1] ∧ (Lay.sl Lay.int).Reads w [.slice a1 x.vec.length d1] x.vec := by
  obtain ⟨bl, h⟩ := h
  obtain ⟨a1, d1, b1, rfl, -, w0, l1⟩ := lies_Item.1 h
  exact ⟨a1, d1, rfl, ⟨_, l1⟩⟩

end Go.Proofs.YtdnhmoppineegaaGreat

namespace Go.Proofs.YtdnhmoppineegaaGreat
open Go.RowKit

theorem vcnt_Item (x : DItem) : Lay.tItem.vcnt x = (Lay.sl Lay.int).vcnt x.vec := by
  show 0 + ((Lay.sl Lay.int).vcnt x.vec) = (Lay.sl Lay.int).vcnt x.vec
  omega
theorem mkv_Item (k : Int) (x : DItem) : Lay.tItem.mkv k x = ⟨x.id, (Lay.sl Lay.int).mkv (k) x.vec⟩ := by
  simp [Lay.tItem, Lay.via, Lay.pair, Lay.int]
theorem own_Item {w : World} {cs : List Value} {x : DItem} {bl : List Nat} (h : Lay.tItem.Own w cs x bl) : ∃ (a1 : Option Addr) (d1 : Nat) (g1 : List Nat), cs = [.int .i64 x.id, .slice a1 x.vec.length d1] ∧ bl = g1 ∧ (Lay.sl Lay.int).Own w [.slice a1 x.vec.length d1] x.vec g1 ∧ (Lit.int .i64 x.id).wf = true := by
  obtain ⟨hl, hn, hf⟩ := h
  obtain ⟨a1, d1, b1, rfl, hbl, w0, l1⟩ := lies_Item.1 hl
  rw [hbl] at hn hf
  exact ⟨a1, d1, b1, rfl, hbl, ⟨l1, hn, hf⟩, w0⟩
theorem mkOwn_Item {w : World} {x : DItem} {c1 : List Value} {g1 : List Nat} (O1 : (Lay.sl Lay.int).Own w c1 x.vec g1) (v0 : (Lit.int .i64 x.id).wf = true) (hn : (g1).Nodup) : Lay.tItem.Own w ([.int .i64 x.id] ++ c1) x (g1) := by
  refine ⟨⟨[.int .i64 x.id], c1, [], g1, rfl, by simp, ⟨rfl, v0, rfl⟩, O1.1⟩, hn, ?_⟩
  intro b hb o
  exact O1.2.2 b hb o

end Go.Proofs.YtdnhmoppineegaaGreat

namespace Go.Proofs.YtdnhmoppineegaaGreat
open Go.RowKit

structure DTableResult where
  code : Int
  items : List DItem

def Lay.tTableResult : Lay DTableResult := Lay.via (Lay.pair Lay.int (Lay.sl Lay.tItem)) (fun x => (x.code, x.items)) (fun p => ⟨p.1, p.2⟩)

theorem lies_TableResult {w : World} {cs : List Value} {x : DTableResult} {bl : List Nat} : Lay.tTableResult.lies w cs x bl ↔ ∃ (a1 : Option Addr) (d1 : Nat) (b1 : List Nat), cs = [.int .i64 x.code, .slice a1 x.items.length d1] ∧ bl = b1 ∧ (Lit.int .i64 x.code).wf = true ∧ (Lay.sl Lay.tItem).lies w [.slice a1 x.items.length d1] x.items b1 := by
  constructor
  · intro h
    obtain ⟨c0_, r0_, e0_, s0_, rfl, rfl, h0, h1⟩ := h
    obtain ⟨rfl, w0, rfl⟩ := h0
    have k1 := h1
    obtain ⟨a1, d1, rfl, -⟩ := k1
    exact ⟨a1, d1, s0_, by simp, by simp, w0, h1⟩
  · rintro ⟨a1, d1, b1, rfl, hbl, w0, l1⟩
    rw [hbl]
    exact ⟨[.int .i64 x.code], [.slice a1 x.items.length d1], [], b1, rfl, by simp, ⟨rfl, w0, rfl⟩, l1⟩

theorem open_TableResult {w : World} {cs : List Value} {x : DTableResult} (h : Lay.tTableResult.Reads w cs x) : ∃ (a1 : Option Addr) (d1 : Nat), cs = [.int .i64 x.code, .slice a1 x.items.length d1] ∧ (Lay.sl Lay.tItem).Reads w [.slice a1 x.items.length d1] x.items := by
  obtain ⟨bl, h⟩ := h
  obtain ⟨a1, d1, b1, rfl, -, w0, l1⟩ := lies_TableResult.1 h
  exact ⟨a1, d1, rfl, ⟨_, l1⟩⟩

end Go.Proofs.YtdnhmoppineegaaGreat

namespace Go.Proofs.YtdnhmoppineegaaGreat
open Go.RowKit

theorem vcnt_TableResult (x : DTableResult) : Lay.tTableResult.vcnt x = (Lay.sl Lay.tItem).vcnt x.items := by
  show 0 + ((Lay.sl Lay.tItem).vcnt x.items) = (Lay.sl Lay.tItem).vcnt x.items
  omega
theorem mkv_TableResult (k : Int) (x : DTableResult) : Lay.tTableResult.mkv k x = ⟨x.code, (Lay.sl Lay.tItem).mkv (k) x.items⟩ := by
  simp [Lay.tTableResult, Lay.via, Lay.pair, Lay.int]
theorem own_TableResult {w : World} {cs : List Value} {x : DTableResult} {bl : List Nat} (h : Lay.tTableResult.Own w cs x bl) : ∃ (a1 : Option Addr) (d1 : Nat) (g1 : List Nat), cs = [.int .i64 x.code, .slice a1 x.items.length d1] ∧ bl = g1 ∧ (Lay.sl Lay.tItem).Own w [.slice a1 x.items.length d1] x.items g1 ∧ (Lit.int .i64 x.code).wf = true := by
  obtain ⟨hl, hn, hf⟩ := h
  obtain ⟨a1, d1, b1, rfl, hbl, w0, l1⟩ := lies_TableResult.1 hl
  rw [hbl] at hn hf
  exact ⟨a1, d1, b1, rfl, hbl, ⟨l1, hn, hf⟩, w0⟩
theorem mkOwn_TableResult {w : World} {x : DTableResult} {c1 : List Value} {g1 : List Nat} (O1 : (Lay.sl Lay.tItem).Own w c1 x.items g1) (v0 : (Lit.int .i64 x.code).wf = true) (hn : (g1).Nodup) : Lay.tTableResult.Own w ([.int .i64 x.code] ++ c1) x (g1) := by
  refine ⟨⟨[.int .i64 x.code], c1, [], g1, rfl, by simp, ⟨rfl, v0, rfl⟩, O1.1⟩, hn, ?_⟩
  intro b hb o
  exact O1.2.2 b hb o

end Go.Proofs.YtdnhmoppineegaaGreat

namespace Go.Proofs.YtdnhmoppineegaaGreat
open Go.RowKit

structure DIntsResult where
  code : Int
  list : List Int

def Lay.tIntsResult : Lay DIntsResult := Lay.via (Lay.pair Lay.int (Lay.sl Lay.int)) (fun x => (x.code, x.list)) (fun p => ⟨p.1, p.2⟩)

theorem lies_IntsResult {w : World} {cs : List Value} {x : DIntsResult} {bl : List Nat} : Lay.tIntsResult.lies w cs x bl ↔ ∃ (a1 : Option Addr) (d1 : Nat) (b1 : List Nat), cs = [.int .i64 x.code, .slice a1 x.list.length d1] ∧ bl = b1 ∧ (Lit.int .i64 x.code).wf = true ∧ (Lay.sl Lay.int).lies w [.slice a1 x.list.length d1] x.list b1 := by
  constructor
  · intro h
    obtain ⟨c0_, r0_, e0_, s0_, rfl, rfl, h0, h1⟩ := h
    obtain ⟨rfl, w0, rfl⟩ := h0
    have k1 := h1
    obtain ⟨a1, d1, rfl, -⟩ := k1
    exact ⟨a1, d1, s0_, by simp, by simp, w0, h1⟩
  · rintro ⟨a1, d1, b1, rfl, hbl, w0, l1⟩
    rw [hbl]
    exact ⟨[.int .i64 x.code], [.slice a1 x.list.length d1], [], b1, rfl, by simp, ⟨rfl, w0, rfl⟩, l1⟩

theorem open_IntsResult {w : World} {cs : List Value} {x : DIntsResult} (h : Lay.tIntsResult.Reads w cs x) : ∃ (a1 : Option Addr) (d1 : Nat), cs = [.int .i64 x.code, .slice a1 x.list.length d1] ∧ (Lay.sl Lay.int).Reads w [.slice a1 x.list.length d1] x.list := by
  obtain ⟨bl, h⟩ := h
  obtain ⟨a1, d1, b1, rfl, -, w0, l1⟩ := lies_IntsResult.1 h
  exact ⟨a1, d1, rfl, ⟨_, l1⟩⟩

end Go.Proofs.YtdnhmoppineegaaGreat

namespace Go.Proofs.YtdnhmoppineegaaGreat
open Go.RowKit

theorem vcnt_IntsResult (x : DIntsResult) : Lay.tIntsResult.vcnt x = (Lay.sl Lay.int).vcnt x.list := by
  show 0 + ((Lay.sl Lay.int).vcnt x.list) = (Lay.sl Lay.int).vcnt x.list
  omega
theorem mkv_IntsResult (k : Int) (x : DIntsResult) : Lay.tIntsResult.mkv k x = ⟨x.code, (Lay.sl Lay.int).mkv (k) x.list⟩ := by
  simp [Lay.tIntsResult, Lay.via, Lay.pair, Lay.int]
theorem own_IntsResult {w : World} {cs : List Value} {x : DIntsResult} {bl : List Nat} (h : Lay.tIntsResult.Own w cs x bl) : ∃ (a1 : Option Addr) (d1 : Nat) (g1 : List Nat), cs = [.int .i64 x.code, .slice a1 x.list.length d1] ∧ bl = g1 ∧ (Lay.sl Lay.int).Own w [.slice a1 x.list.length d1] x.list g1 ∧ (Lit.int .i64 x.code).wf = true := by
  obtain ⟨hl, hn, hf⟩ := h
  obtain ⟨a1, d1, b1, rfl, hbl, w0, l1⟩ := lies_IntsResult.1 hl
  rw [hbl] at hn hf
  exact ⟨a1, d1, b1, rfl, hbl, ⟨l1, hn, hf⟩, w0⟩
theorem mkOwn_IntsResult {w : World} {x : DIntsResult} {c1 : List Value} {g1 : List Nat} (O1 : (Lay.sl Lay.int).Own w c1 x.list g1) (v0 : (Lit.int .i64 x.code).wf = true) (hn : (g1).Nodup) : Lay.tIntsResult.Own w ([.int .i64 x.code] ++ c1) x (g1) := by
  refine ⟨⟨[.int .i64 x.code], c1, [], g1, rfl, by simp, ⟨rfl, v0, rfl⟩, O1.1⟩, hn, ?_⟩
  intro b hb o
  exact O1.2.2 b hb o

end Go.Proofs.YtdnhmoppineegaaGreat

namespace Go.Proofs.YtdnhmoppineegaaGreat
open Go.RowKit

def idB (v : Int) : Bool := decide (1 ≤ v) && decide (v ≤ 999)
def tabFrom : Option Int → List DItem → Int
  | _, [] => 0
  | p, x :: xs => if idB x.id then (if vecFault x.vec = 0 then (if p.all (fun q => decide (q < x.id)) then tabFrom (some x.id) xs else 1) else vecFault x.vec) else 3
def tableFault (xs : List DItem) : Int := if 30 < xs.length then 2 else tabFrom none xs
/-- The Id ahead of place k. -/
def idAhead (xs : List DItem) (k : Nat) : Option Int := if k = 0 then none else (xs[k - 1]?).map (·.id)
theorem idAhead_zero (xs : List DItem) : idAhead xs 0 = none := rfl
theorem idAhead_succ (xs : List DItem) (m : Nat) (h : m < xs.length) : idAhead xs (m + 1) = some xs[m].id := by simp [idAhead, h]
theorem tabFrom_step (xs : List DItem) (k : Nat) (h : k < xs.length) : tabFrom (idAhead xs k) (xs.drop k) =
    if idB xs[k].id then (if vecFault xs[k].vec = 0 then (if (idAhead xs k).all (fun q => decide (q < xs[k].id)) then tabFrom (idAhead xs (k + 1)) (xs.drop (k + 1)) else 1) else vecFault xs[k].vec) else 3 := by
  rw [List.drop_eq_getElem_cons h, idAhead_succ xs k h]
  rfl
/-- Rising by Id, each right. -/
def Rising (xs : List DItem) : Prop := xs.Pairwise (fun a b => a.id < b.id)
theorem tabFrom_zero {p : Option Int} {xs : List DItem} (h : tabFrom p xs = 0) : (∀ x ∈ xs, idB x.id = true ∧ vecFault x.vec = 0) ∧ Rising xs ∧ ∀ q, p = some q → ∀ x ∈ xs, q < x.id := by
  induction xs generalizing p with
  | nil => exact ⟨by simp, List.Pairwise.nil, by simp⟩
  | cons x xs ih =>
    rw [tabFrom] at h
    by_cases h1 : idB x.id = true
    · rw [if_pos h1] at h
      by_cases h2 : vecFault x.vec = 0
      · rw [if_pos h2] at h
        by_cases h3 : p.all (fun q => decide (q < x.id)) = true
        · rw [if_pos h3] at h
          obtain ⟨i1, i2, i3⟩ := ih h
          refine ⟨?_, List.pairwise_cons.2 ⟨fun y hy => i3 _ rfl y hy, i2⟩, ?_⟩
          · intro y hy
            rcases List.mem_cons.1 hy with rfl | hy
            · exact ⟨h1, h2⟩
            · exact i1 y hy
          · rintro q rfl y hy
            have hq : q < x.id := by simpa using h3
            rcases List.mem_cons.1 hy with rfl | hy
            · exact hq
            · exact Int.lt_trans hq (i3 _ rfl y hy)
        · rw [if_neg h3] at h; cases h
      · rw [if_neg h2] at h; exact absurd h h2
    · rw [if_neg h1] at h; cases h
theorem tabFrom_of {p : Option Int} {xs : List DItem} (h1 : ∀ x ∈ xs, idB x.id = true ∧ vecFault x.vec = 0) (h2 : Rising xs) (h3 : ∀ q, p = some q → ∀ x ∈ xs, q < x.id) : tabFrom p xs = 0 := by
  induction xs generalizing p with
  | nil => rfl
  | cons x xs ih =>
    obtain ⟨a1, a2⟩ := h1 x (by simp)
    rw [tabFrom, if_pos a1, if_pos a2, if_pos]
    · exact ih (fun y hy => h1 y (List.mem_cons_of_mem _ hy)) (List.pairwise_cons.1 h2).2 (fun q e y hy => by cases e; exact (List.pairwise_cons.1 h2).1 y hy)
    · cases p with
      | none => rfl
      | some q => simpa using h3 q rfl x (by simp)
theorem tableFault_zero {xs : List DItem} (h : tableFault xs = 0) : xs.length ≤ 30 ∧ (∀ x ∈ xs, idB x.id = true ∧ vecFault x.vec = 0) ∧ Rising xs := by
  unfold tableFault at h
  by_cases hn : 30 < xs.length
  · rw [if_pos hn] at h; cases h
  · rw [if_neg hn] at h
    obtain ⟨a, b, -⟩ := tabFrom_zero h
    exact ⟨by omega, a, b⟩
theorem tableFault_of {xs : List DItem} (hl : xs.length ≤ 30) (h1 : ∀ x ∈ xs, idB x.id = true ∧ vecFault x.vec = 0) (h2 : Rising xs) : tableFault xs = 0 := by
  unfold tableFault
  rw [if_neg (by omega)]
  exact tabFrom_of h1 h2 (by simp)

end Go.Proofs.YtdnhmoppineegaaGreat

namespace Go.Proofs.YtdnhmoppineegaaGreat
open Go.RowKit Go.ChangeMaps Go.Maps

theorem id_wf {z : Int} (h : idB z = true) : (Lit.int .i64 z).wf = true := by
  simp only [idB, Bool.and_eq_true, decide_eq_true_eq] at h
  exact wf_of_bd (by omega)
def vecD (zs : List Int) : DataW Unit := .agg (zs.map fun z => .lit (.int .i64 z))
theorem vecD_inj {a b : List Int} (h : vecD a = vecD b) : a = b := by
  simp only [vecD, DataW.agg.injEq] at h
  induction a generalizing b with
  | nil => cases b with
    | nil => rfl
    | cons y ys => simp at h
  | cons x xs ih => cases b with
    | nil => simp at h
    | cons y ys =>
      simp only [List.map_cons, List.cons.injEq, DataW.lit.injEq, Lit.int.injEq, true_and] at h
      rw [h.1, ih h.2]
def mapL (xs : List DItem) : List (Lit × DataW Unit) := xs.map fun x => (Lit.int .i64 x.id, vecD x.vec)
def mapD (xs : List DItem) : DataW Unit := .map (mapL xs)

/-- An item among rising ones. -/
def insI (x : DItem) : List DItem → List DItem
  | [] => [x]
  | y :: r => if x.id < y.id then x :: y :: r else y :: insI x r
def dropI (xs : List DItem) (id : Int) : List DItem := xs.filter (fun x => !(x.id == id))
def putI (xs : List DItem) (id : Int) (vec : List Int) : List DItem := insI ⟨id, vec⟩ (dropI xs id)
def hasI (xs : List DItem) (id : Int) : Bool := xs.any (fun x => x.id == id)

theorem same_lit (a b : Int) : (Lit.int .i64 a).sameKey (.int .i64 b) = (a == b) := by
  by_cases h : a = b
  · subst h; simp [Lit.sameKey]
  · simp [Lit.sameKey, h]
theorem has_mapD (xs : List DItem) (id : Int) : Maps.has (mapD xs) (.int .i64 id) = hasI xs id := by
  show (mapL xs).any (fun p => p.1.sameKey (.int .i64 id)) = xs.any (fun x => x.id == id)
  rw [mapL, List.any_map]
  congr 1
  funext x
  exact same_lit _ _
theorem size_mapD (xs : List DItem) : Maps.size (mapD xs) = xs.length := by simp [mapD, mapL, Maps.size]
theorem del_mapD (xs : List DItem) (id : Int) : (mapD xs).del (.int .i64 id) = mapD (dropI xs id) := by
  show DataW.map (delKey _ (mapL xs)) = DataW.map (mapL (dropI xs id))
  congr 1
  rw [delKey, mapL, dropI, mapL, List.filter_map]
  congr 1
  refine List.filter_congr fun x _ => ?_
  show (!(Lit.int .i64 x.id).sameKey (.int .i64 id)) = !(x.id == id)
  rw [same_lit]
theorem insert_mapL (x : DItem) (xs : List DItem) : DataW.insert (Lit.int .i64 x.id, vecD x.vec) (mapL xs) = mapL (insI x xs) := by
  induction xs with
  | nil => rfl
  | cons y r ih =>
    show (if (Lit.int .i64 x.id).before (.int .i64 y.id) then _ else _) = _
    rw [insI]
    by_cases h : x.id < y.id
    · rw [if_pos (by simpa [Lit.before] using h), if_pos h]; rfl
    · rw [if_neg (by simpa [Lit.before] using h), if_neg h]
      show _ :: DataW.insert _ (mapL r) = _
      rw [ih]; rfl
theorem put_mapD (xs : List DItem) (id : Int) (vec : List Int) : (mapD xs).put (.int .i64 id) (vecD vec) = mapD (putI xs id vec) := by
  show DataW.map (DataW.insert _ (delKey _ (mapL xs))) = _
  have h := del_mapD xs id
  have h2 : delKey (.int .i64 id) (mapL xs) = mapL (dropI xs id) := by
    have : DataW.map (delKey (.int .i64 id) (mapL xs)) = DataW.map (mapL (dropI xs id)) := h
    simpa using this
  rw [h2, insert_mapL ⟨id, vec⟩]
  rfl
theorem apart_mapL {xs : List DItem} (h : Rising xs) : (mapL xs).Pairwise (fun p q => p.1 ≠ q.1) := by
  refine List.pairwise_map.2 (h.imp fun {a b} hab e => ?_)
  simp only [Lit.int.injEq, true_and] at e
  omega
theorem at_mapD {xs : List DItem} (h : Rising xs) {x : DItem} (hx : x ∈ xs) (z : DataW Unit) : (mapD xs).atKey (.int .i64 x.id) z = vecD x.vec :=
  WideAt.atKey_mem z trivial (apart_mapL h) (List.mem_map.2 ⟨x, hx, rfl⟩)

/-! ### Rising lists -/
theorem hasI_true {xs : List DItem} {id : Int} (h : hasI xs id = true) : ∃ x ∈ xs, x.id = id := by
  simpa [hasI] using h
theorem hasI_false {xs : List DItem} {id : Int} (h : hasI xs id = false) : ∀ x ∈ xs, x.id ≠ id := by
  simpa [hasI] using h
theorem insI_last (x : DItem) (xs : List DItem) (h : ∀ y ∈ xs, y.id < x.id) : insI x xs = xs ++ [x] := by
  induction xs with
  | nil => rfl
  | cons y r ih =>
    have := h y (by simp)
    rw [insI, if_neg (by omega), ih fun z hz => h z (List.mem_cons_of_mem _ hz)]
    rfl
theorem dropI_none {xs : List DItem} {id : Int} (h : ∀ x ∈ xs, x.id ≠ id) : dropI xs id = xs :=
  List.filter_eq_self.2 fun x hx => by simpa using h x hx
theorem putI_last (xs : List DItem) (x : DItem) (h : ∀ y ∈ xs, y.id < x.id) : putI xs x.id x.vec = xs ++ [x] := by
  rw [putI, dropI_none (fun y hy => by have := h y hy; omega), insI_last _ _ h]
theorem rising_take {xs : List DItem} (h : Rising xs) {k : Nat} (hk : k < xs.length) : ∀ y ∈ xs.take k, y.id < xs[k].id := by
  intro y hy
  obtain ⟨j, hj, rfl⟩ := List.getElem_of_mem hy
  rw [List.length_take] at hj
  rw [List.getElem_take]
  exact List.pairwise_iff_getElem.1 h j k (by omega) hk (by omega)
theorem mem_insI {x y : DItem} {xs : List DItem} : y ∈ insI x xs ↔ y = x ∨ y ∈ xs := by
  induction xs with
  | nil => simp [insI]
  | cons z r ih =>
    rw [insI]
    by_cases h : x.id < z.id
    · rw [if_pos h]; simp
    · rw [if_neg h, List.mem_cons, ih, List.mem_cons]
      constructor
      · rintro (h | h | h) <;> simp [h]
      · rintro (h | h | h) <;> simp [h]
theorem insI_rising {x : DItem} {xs : List DItem} (h : Rising xs) (hn : ∀ y ∈ xs, y.id ≠ x.id) : Rising (insI x xs) := by
  induction xs with
  | nil => exact List.pairwise_singleton _ _
  | cons z r ih =>
    obtain ⟨h1, h2⟩ := List.pairwise_cons.1 h
    have hz := hn z (by simp)
    rw [insI]
    by_cases hlt : x.id < z.id
    · rw [if_pos hlt]
      refine List.pairwise_cons.2 ⟨fun y hy => ?_, h⟩
      rcases List.mem_cons.1 hy with rfl | hy
      · exact hlt
      · exact Int.lt_trans hlt (h1 y hy)
    · rw [if_neg hlt]
      refine List.pairwise_cons.2 ⟨fun y hy => ?_, ih h2 fun y hy => hn y (List.mem_cons_of_mem _ hy)⟩
      rcases mem_insI.1 hy with rfl | hy
      · omega
      · exact h1 y hy
theorem insI_len (x : DItem) (xs : List DItem) : (insI x xs).length = xs.length + 1 := by
  induction xs with
  | nil => rfl
  | cons z r ih =>
    rw [insI]
    by_cases h : x.id < z.id
    · rw [if_pos h]; rfl
    · rw [if_neg h, List.length_cons, ih]; rfl
theorem dropI_rising {xs : List DItem} (h : Rising xs) (id : Int) : Rising (dropI xs id) := h.filter _
theorem mem_dropI {xs : List DItem} {id : Int} {x : DItem} : x ∈ dropI xs id ↔ x ∈ xs ∧ x.id ≠ id := by simp [dropI]
theorem putI_rising {xs : List DItem} (h : Rising xs) (id : Int) (vec : List Int) : Rising (putI xs id vec) := insI_rising (dropI_rising h id) fun _ hy => (mem_dropI.1 hy).2
theorem mem_putI {xs : List DItem} {id : Int} {vec : List Int} {x : DItem} : x ∈ putI xs id vec ↔ x = ⟨id, vec⟩ ∨ (x ∈ xs ∧ x.id ≠ id) := by rw [putI, mem_insI, mem_dropI]
theorem dropI_len {xs : List DItem} (h : Rising xs) {id : Int} (hi : hasI xs id = true) : (dropI xs id).length + 1 = xs.length := by
  induction xs with
  | nil => simp [hasI] at hi
  | cons z r ih =>
    obtain ⟨h1, h2⟩ := List.pairwise_cons.1 h
    by_cases e : z.id = id
    · have : dropI (z :: r) id = r := by
        have hr := dropI_none (xs := r) (id := id) (fun x hx => by have := h1 x hx; omega)
        simp only [dropI, List.filter_cons, e, beq_self_eq_true, Bool.not_true, Bool.false_eq_true, if_false]
        exact hr
      rw [this]; rfl
    · have hi2 : hasI r id = true := by simpa [hasI, e] using hi
      have : dropI (z :: r) id = z :: dropI r id := by simp [dropI, e]
      rw [this, List.length_cons, List.length_cons, ih h2 hi2]
theorem dropI_le (xs : List DItem) (id : Int) : (dropI xs id).length ≤ xs.length := List.length_filter_le _ _
theorem putI_len {xs : List DItem} (h : Rising xs) (id : Int) (vec : List Int) : (putI xs id vec).length = if hasI xs id then xs.length else xs.length + 1 := by
  rw [putI, insI_len]
  by_cases hi : hasI xs id = true
  · rw [if_pos hi]; exact dropI_len h hi
  · rw [if_neg hi, dropI_none (hasI_false (by simpa using hi))]
/-- A right table. -/
def Right (xs : List DItem) : Prop := tableFault xs = 0
theorem right_put {xs : List DItem} (h : Right xs) {id : Int} {vec : List Int} (hi : idB id = true) (hv : vecFault vec = 0) (hroom : hasI xs id = true ∨ xs.length < 30) : Right (putI xs id vec) := by
  obtain ⟨hl, h1, h2⟩ := tableFault_zero h
  refine tableFault_of ?_ (fun x hx => ?_) (putI_rising h2 id vec)
  · rw [putI_len h2]; split
    · exact hl
    · rename_i hn; rcases hroom with h | h
      · exact absurd h hn
      · omega
  · rcases mem_putI.1 hx with rfl | ⟨hx, -⟩
    · exact ⟨hi, hv⟩
    · exact h1 x hx
theorem right_drop {xs : List DItem} (h : Right xs) (id : Int) : Right (dropI xs id) := by
  obtain ⟨hl, h1, h2⟩ := tableFault_zero h
  exact tableFault_of (Nat.le_trans (dropI_le xs id) hl) (fun x hx => h1 x (mem_dropI.1 hx).1) (dropI_rising h2 id)
theorem right_nil : Right [] := rfl

end Go.Proofs.YtdnhmoppineegaaGreat

namespace Go.Proofs.YtdnhmoppineegaaGreat
open Go.RowKit

def pickI : Option DItem → DIntsResult
  | some x => ⟨0, x.vec⟩
  | none => ⟨4, []⟩
def getI (xs : List DItem) (id : Int) : DIntsResult :=
  if tableFault xs = 0 then (if idB id then pickI (xs.find? (fun x => x.id == id)) else ⟨3, []⟩) else ⟨tableFault xs, []⟩
theorem tabFrom_vals (p : Option Int) (xs : List DItem) : 0 ≤ tabFrom p xs ∧ tabFrom p xs ≤ 3 := by
  induction xs generalizing p with
  | nil => exact ⟨Int.le_refl _, (show (0 : Int) ≤ 3 by decide)⟩
  | cons x xs ih =>
    rw [tabFrom]
    have hv : 0 ≤ vecFault x.vec ∧ vecFault x.vec ≤ 3 := by unfold vecFault; split <;> (try split) <;> decide
    split
    · split
      · split
        · exact ih _
        · decide
      · exact hv
    · decide
theorem tableFault_vals (xs : List DItem) : 0 ≤ tableFault xs ∧ tableFault xs ≤ 3 := by
  unfold tableFault
  split
  · decide
  · exact tabFrom_vals none xs
theorem code_wf (xs : List DItem) : (Lit.int .i64 (tableFault xs)).wf = true := wf_of_bd (by have := tableFault_vals xs; omega)
theorem own_ints {w : World} {c : Int} {v : Value} {zs : List Int} {lo hi : Nat} (hc : (Lit.int .i64 c).wf = true) (h : (Lay.sl Lay.int).OwnIn w [v] zs lo hi) : Lay.tIntsResult.OwnIn w [.int .i64 c, v] ⟨c, zs⟩ lo hi := by
  obtain ⟨bl, ⟨l, n, f⟩, i⟩ := h
  exact ⟨bl, ⟨⟨[.int .i64 c], [v], [], bl, rfl, by simp, ⟨rfl, hc, rfl⟩, l⟩, n, f⟩, i⟩
theorem own_noInts {w : World} {lo hi : Nat} : (Lay.sl Lay.int).OwnIn w [.slice none 0 0] [] lo hi := ⟨[], ⟨Lay.lies_ints.2 ⟨none, 0, rfl, by simp, by simp, Or.inl ⟨rfl, rfl⟩⟩, by simp, by simp⟩, by simp⟩
theorem own_codeInts {w : World} {c : Int} {lo hi : Nat} (hc : (Lit.int .i64 c).wf = true) : Lay.tIntsResult.OwnIn w [.int .i64 c, .slice none 0 0] ⟨c, []⟩ lo hi := own_ints hc own_noInts
theorem find_at {xs : List DItem} {id : Int} {x : DItem} (h : xs.find? (fun x => x.id == id) = some x) : x ∈ xs ∧ x.id = id := ⟨List.mem_of_find?_eq_some h, by simpa using List.find?_some h⟩
theorem find_none {xs : List DItem} {id : Int} (h : xs.find? (fun x => x.id == id) = none) : hasI xs id = false := by
  rw [List.find?_eq_none] at h
  simpa [hasI] using h

end Go.Proofs.YtdnhmoppineegaaGreat

namespace Go.Proofs.YtdnhmoppineegaaGreat
open Go.RowKit

def roomB (xs : List DItem) (id : Int) : Bool := hasI xs id || decide (xs.length < 30)
def putR (xs : List DItem) (id : Int) (vec : List Int) : DTableResult :=
  if tableFault xs = 0 then (if idB id then (if vecFault vec = 0 then (if roomB xs id then ⟨0, putI xs id vec⟩ else ⟨2, []⟩) else ⟨vecFault vec, []⟩) else ⟨3, []⟩) else ⟨tableFault xs, []⟩
def dropR (xs : List DItem) (id : Int) : DTableResult :=
  if tableFault xs = 0 then (if idB id then ⟨0, dropI xs id⟩ else ⟨3, []⟩) else ⟨tableFault xs, []⟩
theorem vecFault_vals (zs : List Int) : 0 ≤ vecFault zs ∧ vecFault zs ≤ 3 := by unfold vecFault; split <;> (try split) <;> decide
theorem vcode_wf (zs : List Int) : (Lit.int .i64 (vecFault zs)).wf = true := wf_of_bd (by have := vecFault_vals zs; omega)
theorem own_items {w : World} {c : Int} {v : Value} {xs : List DItem} {lo hi : Nat} (hc : (Lit.int .i64 c).wf = true) (h : (Lay.sl Lay.tItem).OwnIn w [v] xs lo hi) : Lay.tTableResult.OwnIn w [.int .i64 c, v] ⟨c, xs⟩ lo hi := by
  obtain ⟨bl, ⟨l, n, f⟩, i⟩ := h
  exact ⟨bl, ⟨⟨[.int .i64 c], [v], [], bl, rfl, by simp, ⟨rfl, hc, rfl⟩, l⟩, n, f⟩, i⟩
theorem reads_items {w : World} {c : Int} {v : Value} {xs : List DItem} (hc : (Lit.int .i64 c).wf = true) (h : (Lay.sl Lay.tItem).Reads w [v] xs) : Lay.tTableResult.Reads w [.int .i64 c, v] ⟨c, xs⟩ := by
  obtain ⟨bl, l⟩ := h
  exact ⟨bl, ⟨[.int .i64 c], [v], [], bl, rfl, by simp, ⟨rfl, hc, rfl⟩, l⟩⟩
theorem own_noItems {w : World} {lo hi : Nat} : (Lay.sl Lay.tItem).OwnIn w [.slice none 0 0] [] lo hi := ⟨[], ⟨⟨none, 0, rfl, by simp, Or.inl ⟨rfl, rfl⟩⟩, by simp, by simp⟩, by simp⟩
theorem own_codeItems {w : World} {c : Int} {lo hi : Nat} (hc : (Lit.int .i64 c).wf = true) : Lay.tTableResult.OwnIn w [.int .i64 c, .slice none 0 0] ⟨c, []⟩ lo hi := own_items hc own_noItems
theorem room_true {xs : List DItem} {id : Int} (h : roomB xs id = true) : hasI xs id = true ∨ xs.length < 30 := by simpa [roomB] using h
theorem room_false {xs : List DItem} {id : Int} (h : roomB xs id = false) : hasI xs id = false ∧ 30 ≤ xs.length := by simpa [roomB] using h
theorem right_of {xs : List DItem} (h : tableFault xs = 0) : Right xs := h
/-- Of a right table: how many marks. -/
theorem right_few {xs : List DItem} (h : Right xs) : cntAll Lay.tItem.cnt xs ≤ 1000 := by
  obtain ⟨hl, ha, -⟩ := tableFault_zero h
  have : ∀ ys : List DItem, (∀ x ∈ ys, x.vec.length = 3) → cntAll Lay.tItem.cnt ys ≤ 4 * ys.length := by
    intro ys
    induction ys with
    | nil => intro _; exact Nat.le_refl _
    | cons y ys ih =>
      intro hy
      have h1 := ih fun x hx => hy x (List.mem_cons_of_mem _ hx)
      have h2 : Lay.tItem.cnt y = 4 := by
        show 1 + (Lay.sl Lay.int).cnt y.vec = 4
        have e := hy y (by simp)
        have : cntAll (fun _ => 1) y.vec = y.vec.length := by
          generalize y.vec = zs
          induction zs with
          | nil => rfl
          | cons z zs ih => simp [cntAll, ih]; omega
        show 1 + cntAll (fun _ => 1) y.vec = 4
        omega
      simp only [cntAll, List.length_cons]
      omega
  have := this xs fun x hx => (vecFault_zero (ha x hx).2).1
  omega

end Go.Proofs.YtdnhmoppineegaaGreat

namespace Go.Proofs.YtdnhmoppineegaaGreat
open Go.RowKit

/-- Ahead of item x: the new one, if its turn has come. -/
def setNew (nw : DItem) (st : List DItem × Bool) (x : DItem) : List DItem × Bool := if st.2 = false ∧ nw.id ≤ x.id then (st.1 ++ [nw], true) else st
def setOld (nw : DItem) (st : List DItem × Bool) (x : DItem) : List DItem × Bool := if x.id = nw.id then st else (st.1 ++ [x], st.2)
def setStep (nw : DItem) (st : List DItem × Bool) (x : DItem) : List DItem × Bool := setOld nw (setNew nw st x) x
def setFin (nw : DItem) (st : List DItem × Bool) : List DItem := if st.2 then st.1 else st.1 ++ [nw]
def setM (xs : List DItem) (nw : DItem) (has : Bool) : List DItem := setFin nw (xs.foldl (setStep nw) ([], !has))

theorem step_done (nw : DItem) (acc : List DItem) (xs : List DItem) : xs.foldl (setStep nw) (acc, true) = (acc ++ dropI xs nw.id, true) := by
  induction xs generalizing acc with
  | nil => simp [dropI]
  | cons y r ih =>
    rw [List.foldl_cons]
    have e1 : setNew nw (acc, true) y = (acc, true) := by simp [setNew]
    by_cases h : y.id = nw.id
    · have : setStep nw (acc, true) y = (acc, true) := by rw [setStep, e1, setOld, if_pos h]
      rw [this, ih]
      simp [dropI, h]
    · have : setStep nw (acc, true) y = (acc ++ [y], true) := by rw [setStep, e1, setOld, if_neg h]
      rw [this, ih]
      simp [dropI, h]
theorem insI_first (nw : DItem) (xs : List DItem) (h : ∀ y ∈ xs, nw.id < y.id) : insI nw xs = nw :: xs := by
  cases xs with
  | nil => rfl
  | cons y r => rw [insI, if_pos (h y (by simp))]
theorem step_put (nw : DItem) (acc : List DItem) (xs : List DItem) (hr : Rising xs) : setFin nw (xs.foldl (setStep nw) (acc, false)) = acc ++ putI xs nw.id nw.vec := by
  induction xs generalizing acc with
  | nil => simp [setFin, putI, dropI, insI]
  | cons y r ih =>
    obtain ⟨h1, h2⟩ := List.pairwise_cons.1 hr
    rw [List.foldl_cons]
    by_cases hle : nw.id ≤ y.id
    · have e1 : setNew nw (acc, false) y = (acc ++ [nw], true) := by simp [setNew, hle]
      by_cases h : y.id = nw.id
      · have : setStep nw (acc, false) y = (acc ++ [nw], true) := by rw [setStep, e1, setOld, if_pos h]
        rw [this, step_done, setFin]
        have e2 : dropI (y :: r) nw.id = dropI r nw.id := by simp [dropI, h]
        rw [putI, e2, insI_first _ _ (fun z hz => by have := h1 z (mem_dropI.1 hz).1; show nw.id < z.id; omega)]
        simp
      · have : setStep nw (acc, false) y = (acc ++ [nw] ++ [y], true) := by rw [setStep, e1, setOld, if_neg h]
        rw [this, step_done, setFin]
        have e2 : dropI (y :: r) nw.id = y :: dropI r nw.id := by simp [dropI, h]
        rw [putI, e2, insI, if_pos (show nw.id < y.id by omega)]
        simp
    · have e1 : setNew nw (acc, false) y = (acc, false) := by simp [setNew, hle]
      have h : y.id ≠ nw.id := by omega
      have : setStep nw (acc, false) y = (acc ++ [y], false) := by rw [setStep, e1, setOld, if_neg h]
      rw [this, ih _ h2]
      have e2 : dropI (y :: r) nw.id = y :: dropI r nw.id := by simp [dropI, h]
      rw [putI, putI, e2, insI, if_neg (show ¬ nw.id < y.id by omega)]
      simp
theorem setM_put {xs : List DItem} (hr : Rising xs) (nw : DItem) : setM xs nw true = putI xs nw.id nw.vec := by
  have := step_put nw [] xs hr
  simpa [setM] using this
theorem setM_drop (xs : List DItem) (nw : DItem) : setM xs nw false = dropI xs nw.id := by
  have := step_done nw [] xs
  simp only [setM, Bool.not_false]
  rw [this]
  simp [setFin]
theorem setM_len (nw : DItem) (st : List DItem × Bool) (x : DItem) : (setStep nw st x).1.length ≤ st.1.length + 2 := by
  unfold setStep setOld setNew
  split <;> split <;> simp <;> omega

theorem setM_size (xs : List DItem) (nw : DItem) (has : Bool) : (setM xs nw has).length ≤ 2 * xs.length + 1 := by
  have : ∀ (ys : List DItem) (st : List DItem × Bool), (ys.foldl (setStep nw) st).1.length ≤ st.1.length + 2 * ys.length := by
    intro ys
    induction ys with
    | nil => intro st; simp
    | cons y ys ih =>
      intro st
      have h1 := ih (setStep nw st y)
      have h2 := setM_len nw st y
      simp only [List.foldl_cons, List.length_cons]
      omega
  have h := this xs ([], !has)
  unfold setM setFin
  split
  · simp at h; omega
  · simp at h ⊢; omega

end Go.Proofs.YtdnhmoppineegaaGreat

namespace Go.Proofs.YtdnhmoppineegaaGreat
open Go.RowKit

structure DNode where
  id : Int
  up : Bool
  epoch : Int
  lease : Int
  writes : List DWrite
  sure : Int
  clean : Int

def Lay.tNode : Lay DNode := Lay.via (Lay.pair Lay.int (Lay.pair Lay.bool (Lay.pair Lay.int (Lay.pair Lay.int (Lay.pair (Lay.sl Lay.tWrite) (Lay.pair Lay.int Lay.int)))))) (fun x => (x.id, x.up, x.epoch, x.lease, x.writes, x.sure, x.clean)) (fun p => ⟨p.1, p.2.1, p.2.2.1, p.2.2.2.1, p.2.2.2.2.1, p.2.2.2.2.2.1, p.2.2.2.2.2.2⟩)

theorem lies_Node {w : World} {cs : List Value} {x : DNode} {bl : List Nat} : Lay.tNode.lies w cs x bl ↔ ∃ (a4 : Option Addr) (d4 : Nat) (b4 : List Nat), cs = [.int .i64 x.id, .bool x.up, .int .i64 x.epoch, .int .i64 x.lease, .slice a4 x.writes.length d4, .int .i64 x.sure, .int .i64 x.clean] ∧ bl = b4 ∧ (Lit.int .i64 x.id).wf = true ∧ (Lit.int .i64 x.epoch).wf = true ∧ (Lit.int .i64 x.lease).wf = true ∧ (Lay.sl Lay.tWrite).lies w [.slice a4 x.writes.length d4] x.writes b4 ∧ (Lit.int .i64 x.sure).wf = true ∧ (Lit.int .i64 x.clean).wf = true := by
  constructor
  · intro h
    obtain ⟨c0_, r0_, e0_, s0_, rfl, rfl, h0, ⟨c1_, r1_, e1_, s1_, rfl, rfl, h1, ⟨c2_, r2_, e2_, s2_, rfl, rfl, h2, ⟨c3_, r3_, e3_, s3_, rfl, rfl, h3, ⟨c4_, r4_, e4_, s4_, rfl, rfl, h4, ⟨c5_, r5_, e5_, s5_, rfl, rfl, h5, h6⟩⟩⟩⟩⟩⟩ := h
    obtain ⟨rfl, w0, rfl⟩ := h0
    obtain ⟨rfl, rfl⟩ := h1
    obtain ⟨rfl, w2, rfl⟩ := h2
    obtain ⟨rfl, w3, rfl⟩ := h3
    have k4 := h4
    obtain ⟨a4, d4, rfl, -⟩ := k4
    obtain ⟨rfl, w5, rfl⟩ := h5
    obtain ⟨rfl, w6, rfl⟩ := h6
    exact ⟨a4, d4, e4_, by simp, by simp, w0, w2, w3, h4, w5, w6⟩
  · rintro ⟨a4, d4, b4, rfl, hbl, w0, w2, w3, l4, w5, w6⟩
    rw [hbl]
    exact ⟨[.int .i64 x.id], [.bool x.up] ++ ([.int .i64 x.epoch] ++ ([.int .i64 x.lease] ++ ([.slice a4 x.writes.length d4] ++ ([.int .i64 x.sure] ++ [.int .i64 x.clean])))), [], [] ++ ([] ++ ([] ++ (b4 ++ ([] ++ ([]))))), rfl, by simp, ⟨rfl, w0, rfl⟩, ⟨[.bool x.up], [.int .i64 x.epoch] ++ ([.int .i64 x.lease] ++ ([.slice a4 x.writes.length d4] ++ ([.int .i64 x.sure] ++ [.int .i64 x.clean]))), [], [] ++ ([] ++ (b4 ++ ([] ++ ([])))), rfl, by simp, ⟨rfl, rfl⟩, ⟨[.int .i64 x.epoch], [.int .i64 x.lease] ++ ([.slice a4 x.writes.length d4] ++ ([.int .i64 x.sure] ++ [.int .i64 x.clean])), [], [] ++ (b4 ++ ([] ++ ([]))), rfl, by simp, ⟨rfl, w2, rfl⟩, ⟨[.int .i64 x.lease], [.slice a4 x.writes.length d4] ++ ([.int .i64 x.sure] ++ [.int .i64 x.clean]), [], b4 ++ ([] ++ ([])), rfl, by simp, ⟨rfl, w3, rfl⟩, ⟨[.slice a4 x.writes.length d4], [.int .i64 x.sure] ++ [.int .i64 x.clean], b4, [] ++ ([]), rfl, by simp, l4, ⟨[.int .i64 x.sure], [.int .i64 x.clean], [], [], rfl, by simp, ⟨rfl, w5, rfl⟩, ⟨rfl, w6, rfl⟩⟩⟩⟩⟩⟩⟩

theorem open_Node {w : World} {cs : List Value} {x : DNode} (h : Lay.tNode.Reads w cs x) : ∃ (a4 : Option Addr) (d4 : Nat), cs = [.int .i64 x.id, .bool x.up, .int .i64 x.epoch, .int .i64 x.lease, .slice a4 x.writes.length d4, .int .i64 x.sure, .int .i64 x.clean] ∧ (Lay.sl Lay.tWrite).Reads w [.slice a4 x.writes.length d4] x.writes := by
  obtain ⟨bl, h⟩ := h
  obtain ⟨a4, d4, b4, rfl, -, w0, w2, w3, l4, w5, w6⟩ := lies_Node.1 h
  exact ⟨a4, d4, rfl, ⟨_, l4⟩⟩

end Go.Proofs.YtdnhmoppineegaaGreat

namespace Go.Proofs.YtdnhmoppineegaaGreat
open Go.RowKit

structure DMsg where
  kind : Int
  epoch : Int
  src : Int
  dst : Int
  index : Int
  write : DWrite

def Lay.tMsg : Lay DMsg := Lay.via (Lay.pair Lay.int (Lay.pair Lay.int (Lay.pair Lay.int (Lay.pair Lay.int (Lay.pair Lay.int Lay.tWrite))))) (fun x => (x.kind, x.epoch, x.src, x.dst, x.index, x.write)) (fun p => ⟨p.1, p.2.1, p.2.2.1, p.2.2.2.1, p.2.2.2.2.1, p.2.2.2.2.2⟩)

theorem lies_Msg {w : World} {cs : List Value} {x : DMsg} {bl : List Nat} : Lay.tMsg.lies w cs x bl ↔ ∃ (a7 : Option Addr) (d7 : Nat) (b7 : List Nat), cs = [.int .i64 x.kind, .int .i64 x.epoch, .int .i64 x.src, .int .i64 x.dst, .int .i64 x.index, .int .i64 x.write.kind, .int .i64 x.write.id, .slice a7 x.write.vec.length d7, .int .i64 x.write.session, .int .i64 x.write.seq] ∧ bl = b7 ∧ (Lit.int .i64 x.kind).wf = true ∧ (Lit.int .i64 x.epoch).wf = true ∧ (Lit.int .i64 x.src).wf = true ∧ (Lit.int .i64 x.dst).wf = true ∧ (Lit.int .i64 x.index).wf = true ∧ (Lit.int .i64 x.write.kind).wf = true ∧ (Lit.int .i64 x.write.id).wf = true ∧ (Lay.sl Lay.int).lies w [.slice a7 x.write.vec.length d7] x.write.vec b7 ∧ (Lit.int .i64 x.write.session).wf = true ∧ (Lit.int .i64 x.write.seq).wf = true := by
  constructor
  · intro h
    obtain ⟨c0_, r0_, e0_, s0_, rfl, rfl, h0, ⟨c1_, r1_, e1_, s1_, rfl, rfl, h1, ⟨c2_, r2_, e2_, s2_, rfl, rfl, h2, ⟨c3_, r3_, e3_, s3_, rfl, rfl, h3, ⟨c4_, r4_, e4_, s4_, rfl, rfl, h4, h5⟩⟩⟩⟩⟩ := h
    obtain ⟨rfl, w0, rfl⟩ := h0
    obtain ⟨rfl, w1, rfl⟩ := h1
    obtain ⟨rfl, w2, rfl⟩ := h2
    obtain ⟨rfl, w3, rfl⟩ := h3
    obtain ⟨rfl, w4, rfl⟩ := h4
    obtain ⟨a7, d7, q7, rfl, hq5, w5, w6, l7, w8, w9⟩ := lies_Write.1 h5
    exact ⟨a7, d7, q7, by simp, by simp [hq5], w0, w1, w2, w3, w4, w5, w6, l7, w8, w9⟩
  · rintro ⟨a7, d7, b7, rfl, hbl, w0, w1, w2, w3, w4, w5, w6, l7, w8, w9⟩
    rw [hbl]
    exact ⟨[.int .i64 x.kind], [.int .i64 x.epoch] ++ ([.int .i64 x.src] ++ ([.int .i64 x.dst] ++ ([.int .i64 x.index] ++ [.int .i64 x.write.kind, .int .i64 x.write.id, .slice a7 x.write.vec.length d7, .int .i64 x.write.session, .int .i64 x.write.seq]))), [], [] ++ ([] ++ ([] ++ ([] ++ (b7)))), rfl, by simp, ⟨rfl, w0, rfl⟩, ⟨[.int .i64 x.epoch], [.int .i64 x.src] ++ ([.int .i64 x.dst] ++ ([.int .i64 x.index] ++ [.int .i64 x.write.kind, .int .i64 x.write.id, .slice a7 x.write.vec.length d7, .int .i64 x.write.session, .int .i64 x.write.seq])), [], [] ++ ([] ++ ([] ++ (b7))), rfl, by simp, ⟨rfl, w1, rfl⟩, ⟨[.int .i64 x.src], [.int .i64 x.dst] ++ ([.int .i64 x.index] ++ [.int .i64 x.write.kind, .int .i64 x.write.id, .slice a7 x.write.vec.length d7, .int .i64 x.write.session, .int .i64 x.write.seq]), [], [] ++ ([] ++ (b7)), rfl, by simp, ⟨rfl, w2, rfl⟩, ⟨[.int .i64 x.dst], [.int .i64 x.index] ++ [.int .i64 x.write.kind, .int .i64 x.write.id, .slice a7 x.write.vec.length d7, .int .i64 x.write.session, .int .i64 x.write.seq], [], [] ++ (b7), rfl, by simp, ⟨rfl, w3, rfl⟩, ⟨[.int .i64 x.index], [.int .i64 x.write.kind, .int .i64 x.write.id, .slice a7 x.write.vec.length d7, .int .i64 x.write.session, .int .i64 x.write.seq], [], b7, rfl, by simp, ⟨rfl, w4, rfl⟩, lies_Write.2 ⟨a7, d7, b7, rfl, rfl, w5, w6, l7, w8, w9⟩⟩⟩⟩⟩⟩

theorem open_Msg {w : World} {cs : List Value} {x : DMsg} (h : Lay.tMsg.Reads w cs x) : ∃ (a7 : Option Addr) (d7 : Nat), cs = [.int .i64 x.kind, .int .i64 x.epoch, .int .i64 x.src, .int .i64 x.dst, .int .i64 x.index, .int .i64 x.write.kind, .int .i64 x.write.id, .slice a7 x.write.vec.length d7, .int .i64 x.write.session, .int .i64 x.write.seq] ∧ Lay.tWrite.Reads w [.int .i64 x.write.kind, .int .i64 x.write.id, .slice a7 x.write.vec.length d7, .int .i64 x.write.session, .int .i64 x.write.seq] x.write := by
  obtain ⟨bl, h⟩ := h
  obtain ⟨a7, d7, b7, rfl, -, w0, w1, w2, w3, w4, w5, w6, l7, w8, w9⟩ := lies_Msg.1 h
  exact ⟨a7, d7, rfl, ⟨_, lies_Write.2 ⟨a7, d7, _, rfl, rfl, w5, w6, l7, w8, w9⟩⟩⟩

end Go.Proofs.YtdnhmoppineegaaGreat

namespace Go.Proofs.YtdnhmoppineegaaGreat
open Go.RowKit

/-- The cells of hits. -/
def cells2 : List (Int × Int) → List Value
  | [] => []
  | h :: r => .int .i64 h.1 :: .int .i64 h.2 :: cells2 r
theorem cells2_len (hs : List (Int × Int)) : (cells2 hs).length = hs.length * 2 := by
  induction hs with
  | nil => rfl
  | cons h r ih => simp [cells2, ih]; omega
theorem cells2_app (a b : List (Int × Int)) : cells2 (a ++ b) = cells2 a ++ cells2 b := by
  induction a with
  | nil => rfl
  | cons h r ih => simp [cells2, ih]
theorem cells2_take (hs : List (Int × Int)) (k : Nat) : (cells2 hs).take (k * 2) = cells2 (hs.take k) := by
  induction hs generalizing k with
  | nil => simp [cells2]
  | cons h r ih =>
    cases k with
    | zero => simp [cells2]
    | succ k => simp [cells2, ih, Nat.add_mul]
theorem cells2_at (hs : List (Int × Int)) (j : Nat) (x y : Int) (h : hs[j]? = some (x, y)) : (cells2 hs)[j * 2]? = some (.int .i64 x) ∧ (cells2 hs)[j * 2 + 1]? = some (.int .i64 y) := by
  induction hs generalizing j with
  | nil => simp at h
  | cons p r ih =>
    cases j with
    | zero =>
      simp at h
      subst h
      simp [cells2]
    | succ j =>
      have := ih j (by simpa using h)
      simpa [cells2, Nat.add_mul] using this
theorem cells2_one (hs : List (Int × Int)) : ∀ u ∈ cells2 hs, u.oneCell' = true := by
  induction hs with
  | nil => simp [cells2]
  | cons h r ih =>
    intro u hu
    simp [cells2] at hu
    rcases hu with rfl | rfl | hu
    · rfl
    · rfl
    · exact ih u hu
theorem cells2_get (hs : List (Int × Int)) (j : Nat) (u : Value) (h : (cells2 hs)[j]? = some u) : ∃ k x y, hs[k]? = some (x, y) ∧ ((j = k * 2 ∧ u = .int .i64 x) ∨ (j = k * 2 + 1 ∧ u = .int .i64 y)) := by
  induction hs generalizing j with
  | nil => simp [cells2] at h
  | cons p r ih =>
    match j with
    | 0 =>
      simp [cells2] at h
      exact ⟨0, p.1, p.2, by simp, Or.inl ⟨rfl, h.symm⟩⟩
    | 1 =>
      simp [cells2] at h
      exact ⟨0, p.1, p.2, by simp, Or.inr ⟨rfl, h.symm⟩⟩
    | j + 2 =>
      obtain ⟨k, x, y, h1, h2⟩ := ih j (by simpa [cells2] using h)
      refine ⟨k + 1, x, y, by simpa using h1, ?_⟩
      rcases h2 with ⟨h2, h3⟩ | ⟨h2, h3⟩
      · exact Or.inl ⟨by omega, h3⟩
      · exact Or.inr ⟨by omega, h3⟩

/-- Both numbers are int64. -/
def Wf2 (h : Int × Int) : Prop := (Lit.int .i64 h.1).wf = true ∧ (Lit.int .i64 h.2).wf = true
theorem Wf2.bd {x y : Int} (h : Wf2 (x, y)) : (-9223372036854775808 ≤ x ∧ x ≤ 9223372036854775807) ∧ (-9223372036854775808 ≤ y ∧ y ≤ 9223372036854775807) := by
  simpa [Wf2, Lit.wf, IntKind.min, IntKind.max, IntKind.signed, IntKind.bits] using h

/-- The slice v holds the hits hs. -/
def IsHits (w : World) (v : Value) (hs : List (Int × Int)) : Prop :=
  ∃ ao cap, v = .slice ao hs.length cap ∧ hs.length ≤ cap ∧ (cap ≤ maxLen ∧ (ao = none → cap = 0)) ∧ (∀ h ∈ hs, Wf2 h) ∧
    (0 < hs.length → ∃ b off, ao = some ⟨b, off, none⟩ ∧ ∀ j x y, hs[j]? = some (x, y) → w.cell? ⟨b, off + j * 2, none⟩ = some (.int .i64 x) ∧ w.cell? ⟨b, off + j * 2 + 1, none⟩ = some (.int .i64 y))

theorem IsHits.wf {w : World} {v : Value} {hs : List (Int × Int)} (h : IsHits w v hs) : ∀ p ∈ hs, Wf2 p := by
  obtain ⟨_, _, _, _, _, hwf, _⟩ := h
  exact hwf
theorem IsHits.later {w w' : World} {v : Value} {hs : List (Int × Int)} (h : IsHits w v hs) (hb : Below w.heap.size w w') : IsHits w' v hs := by
  obtain ⟨ao, cap, rfl, h1, h2, hwf, hc⟩ := h
  refine ⟨ao, cap, rfl, h1, h2, hwf, fun hp => ?_⟩
  obtain ⟨b, off, hao, hc1⟩ := hc hp
  exact ⟨b, off, hao, fun j x y hj => ⟨cell_keep hb (hc1 j x y hj).1, cell_keep hb (hc1 j x y hj).2⟩⟩

/-- Whatever owns a row of hits holds them. -/
theorem isHits_row {w : World} {base T : Nat} {v : Value} {hs : List (Int × Int)} (hwf : ∀ p ∈ hs, Wf2 p)
    (h : w.ownsRow base T 2 v hs.length (cells2 hs)) : IsHits w v hs := by
  rcases h.2 with ⟨rfl, h0⟩ | ⟨g, cap, cur, rfl, _, _, h1, h2, _⟩
  · have : hs = [] := List.eq_nil_of_length_eq_zero h0
    subst this
    exact ⟨none, 0, rfl, by simp, ⟨Nat.zero_le _, fun _ => rfl⟩, by simp, by simp⟩
  · refine ⟨_, _, rfl, h1, ⟨h2, by simp⟩, hwf, fun hp => ⟨g, 0, rfl, fun j x y hj => ?_⟩⟩
    have hj2 : j < hs.length := by
      rcases Nat.lt_or_ge j hs.length with h | h
      · exact h
      · rw [List.getElem?_eq_none h] at hj; cases hj
    have := cells2_at hs j x y hj
    rw [Nat.zero_add, h.cellAt (j * 2) (by omega), h.cellAt (j * 2 + 1) (by omega)]
    exact this

theorem IsHits.take {w : World} {ao : Option Addr} {n cap : Nat} {hs : List (Int × Int)} (h : IsHits w (.slice ao n cap) hs) (k : Nat) (hk : k ≤ n) : IsHits w (.slice ao k cap) (hs.take k) := by
  obtain ⟨ao', cap', he, h1, h2, hwf, hc⟩ := h
  simp only [Value.slice.injEq] at he
  obtain ⟨rfl, rfl, rfl⟩ := he
  have hl : (hs.take k).length = k := by simp; omega
  refine ⟨ao, cap, by rw [hl], by omega, h2, fun p hp => hwf p (List.mem_of_mem_take hp), fun hp => ?_⟩
  obtain ⟨b, off, hao, hc1⟩ := hc (by omega)
  refine ⟨b, off, hao, fun j x y hj => hc1 j x y ?_⟩
  rw [List.getElem?_take] at hj
  split at hj
  · exact hj
  · cases hj
theorem IsHits.drop {w : World} {b off n cap : Nat} {hs : List (Int × Int)} (h : IsHits w (.slice (some ⟨b, off, none⟩) n cap) hs) (k : Nat) (hk : k ≤ n) (o2 : Nat) (ho : k < n → o2 = off + k * 2) : IsHits w (.slice (some ⟨b, o2, none⟩) (n - k) (cap - k)) (hs.drop k) := by
  obtain ⟨ao', cap', he, h1, h2, hwf, hc⟩ := h
  simp only [Value.slice.injEq] at he
  obtain ⟨rfl, rfl, rfl⟩ := he
  refine ⟨_, _, by rw [List.length_drop], by rw [List.length_drop]; omega, ⟨by omega, by simp⟩, fun p hp => hwf p (List.mem_of_mem_drop hp), fun hp => ?_⟩
  rw [List.length_drop] at hp
  obtain ⟨b', off', hao, hc1⟩ := hc (by omega)
  simp only [Option.some.injEq, Addr.mk.injEq, and_true] at hao
  obtain ⟨rfl, rfl⟩ := hao
  have ho2 := ho (by omega)
  subst ho2
  refine ⟨b, _, rfl, fun j x y hj => ?_⟩
  have := hc1 (k + j) x y (by simpa [List.getElem?_drop] using hj)
  rw [show off + k * 2 + j * 2 = off + (k + j) * 2 by omega]
  exact this

/-- The cells that append reads. -/
theorem IsHits.news {w : World} {b off n cap : Nat} {hs : List (Int × Int)} (h : IsHits w (.slice (some ⟨b, off, none⟩) n cap) hs) : ∀ j u, (cells2 hs)[j]? = some u → w.cell? ((⟨b, off, none⟩ : Addr).add j) = some u := by
  intro j u hj
  obtain ⟨k, x, y, h1, h2⟩ := cells2_get hs j u hj
  obtain ⟨ao', cap', he, h3, h4, hwf, hc⟩ := h
  simp only [Value.slice.injEq] at he
  obtain ⟨rfl, rfl, rfl⟩ := he
  have hk : k < hs.length := by
    rcases Nat.lt_or_ge k hs.length with h | h
    · exact h
    · rw [List.getElem?_eq_none h] at h1; cases h1
  obtain ⟨b', off', hao, hc1⟩ := hc (by omega)
  simp only [Option.some.injEq, Addr.mk.injEq, and_true] at hao
  obtain ⟨rfl, rfl⟩ := hao
  have hadd : (⟨b, off, none⟩ : Addr).add j = ⟨b, off + j, none⟩ := Addr.add_lit _ _ _
  rw [hadd]
  have := hc1 k x y h1
  rcases h2 with ⟨rfl, rfl⟩ | ⟨rfl, rfl⟩
  · exact this.1
  · exact this.2

end Go.Proofs.YtdnhmoppineegaaGreat

namespace Go.Proofs.YtdnhmoppineegaaGreat

/-- A hit is (id, score): the lower score is better, then the lower id. -/
def bet (a b : Int × Int) : Bool := decide (a.2 < b.2) || (decide (a.2 = b.2) && decide (a.1 < b.1))
theorem bet_iff (a b : Int × Int) : bet a b = true ↔ a.2 < b.2 ∨ (a.2 = b.2 ∧ a.1 < b.1) := by simp [bet]
theorem bet_irrefl (a : Int × Int) : bet a a = false := by simp [bet]
theorem bet_trans {a b c : Int × Int} (h : bet a b = true) (k : bet b c = true) : bet a c = true := by
  rw [bet_iff] at *
  omega
theorem bet_asymm {a b : Int × Int} (h : bet a b = true) : bet b a = false := by
  cases k : bet b a with
  | false => rfl
  | true =>
    have := bet_trans h k
    rw [bet_irrefl] at this
    cases this
theorem bet_total {a b : Int × Int} (h : bet a b = false) (hne : a ≠ b) : bet b a = true := by
  rw [bet_iff]
  have h1 : ¬ (a.2 < b.2 ∨ (a.2 = b.2 ∧ a.1 < b.1)) := by rw [← bet_iff, h]; simp
  have h2 : ¬ (a.1 = b.1 ∧ a.2 = b.2) := fun ⟨e1, e2⟩ => hne (Prod.ext e1 e2)
  omega

/-- The id and the score are in their ranges. -/
def oneB (h : Int × Int) : Bool := (decide (1 ≤ h.1) && decide (h.1 ≤ 999)) && (decide (0 ≤ h.2) && decide (h.2 ≤ 12000000))

/-- What is wrong with a list of hits behind p. -/
def faultFrom : Option (Int × Int) → List (Int × Int) → Int
  | _, [] => 0
  | p, h :: r => if oneB h then (if p.all (bet · h) then faultFrom (some h) r else 1) else 3
def hitsFault (hs : List (Int × Int)) : Int := if 20 < hs.length then 2 else faultFrom none hs
/-- The hit ahead of place k. -/
def ahead (hs : List (Int × Int)) (k : Nat) : Option (Int × Int) := if k = 0 then none else hs[k - 1]?

def Sorted (hs : List (Int × Int)) : Prop := hs.Pairwise (fun a b => bet a b = true)

theorem faultFrom_zero {p : Option (Int × Int)} {hs : List (Int × Int)} (h : faultFrom p hs = 0) : (∀ x ∈ hs, oneB x = true) ∧ Sorted hs ∧ ∀ q, p = some q → ∀ x ∈ hs, bet q x = true := by
  induction hs generalizing p with
  | nil => exact ⟨by simp, List.Pairwise.nil, by simp⟩
  | cons a r ih =>
    unfold faultFrom at h
    split at h
    · next h1 =>
      split at h
      · next h2 =>
        obtain ⟨i1, i2, i3⟩ := ih h
        refine ⟨fun x hx => ?_, List.Pairwise.cons (fun x hx => i3 a rfl x hx) i2, fun q hq x hx => ?_⟩
        · rcases List.mem_cons.1 hx with rfl | hx
          · exact h1
          · exact i1 x hx
        · subst hq
          simp at h2
          rcases List.mem_cons.1 hx with rfl | hx
          · exact h2
          · exact bet_trans h2 (i3 a rfl x hx)
      · simp at h
    · simp at h
theorem hitsFault_zero {hs : List (Int × Int)} (h : hitsFault hs = 0) : hs.length ≤ 20 ∧ (∀ x ∈ hs, oneB x = true) ∧ Sorted hs := by
  unfold hitsFault at h
  split at h
  · simp at h
  · next hl =>
    obtain ⟨h1, h2, _⟩ := faultFrom_zero h
    exact ⟨by omega, h1, h2⟩
theorem hitsFault_of {hs : List (Int × Int)} (hl : hs.length ≤ 20) (h1 : ∀ x ∈ hs, oneB x = true) (h2 : Sorted hs) : hitsFault hs = 0 := by
  have key : ∀ (hs : List (Int × Int)) (p : Option (Int × Int)), (∀ x ∈ hs, oneB x = true) → Sorted hs → (∀ q, p = some q → ∀ x ∈ hs, bet q x = true) → faultFrom p hs = 0 := by
    intro hs
    induction hs with
    | nil => intros; rfl
    | cons a r ih =>
      intro p h1 h2 h3
      unfold faultFrom
      rw [if_pos (h1 a (by simp)), if_pos]
      · exact ih (some a) (fun x hx => h1 x (by simp [hx])) h2.of_cons (fun q hq x hx => by cases hq; exact List.rel_of_pairwise_cons h2 hx)
      · cases p with
        | none => rfl
        | some q => simpa using h3 q rfl a (by simp)
  unfold hitsFault
  rw [if_neg (by omega)]
  exact key hs none h1 h2 (by simp)

/-- A hit put into a list. -/
def ins : List (Int × Int) → Int × Int → List (Int × Int)
  | [], h => [h]
  | x :: r, h => if bet x h then x :: ins r h else if x = h then x :: r else h :: x :: r
theorem ins_mem {hs : List (Int × Int)} {h x : Int × Int} : x ∈ ins hs h ↔ x = h ∨ x ∈ hs := by
  induction hs with
  | nil => simp [ins]
  | cons a r ih =>
    unfold ins
    split
    · simp [ih]
      constructor
      · rintro (h | h | h) <;> simp [h]
      · rintro (h | h | h) <;> simp [h]
    · split
      · next e => subst e; simp
      · simp
theorem ins_sorted {hs : List (Int × Int)} (hs1 : Sorted hs) (h : Int × Int) : Sorted (ins hs h) := by
  induction hs with
  | nil => exact List.pairwise_singleton _ _
  | cons a r ih =>
    unfold ins
    split
    · next h1 =>
      refine List.Pairwise.cons (fun x hx => ?_) (ih hs1.of_cons)
      rcases ins_mem.1 hx with rfl | hx
      · exact h1
      · exact List.rel_of_pairwise_cons hs1 hx
    · next h1 =>
      split
      · exact hs1
      · next h2 =>
        have h3 := bet_total (by simpa using h1) h2
        refine List.Pairwise.cons (fun x hx => ?_) hs1
        rcases List.mem_cons.1 hx with rfl | hx
        · exact h3
        · exact bet_trans h3 (List.rel_of_pairwise_cons hs1 hx)
theorem ins_len (hs : List (Int × Int)) (h : Int × Int) : (ins hs h).length ≤ hs.length + 1 := by
  induction hs with
  | nil => simp [ins]
  | cons a r ih =>
    unfold ins
    split
    · simp; omega
    · split <;> simp

/-- Two lists in order with the same members are the same. -/
theorem sorted_ext {a b : List (Int × Int)} (ha : Sorted a) (hb : Sorted b) (h : ∀ x, x ∈ a ↔ x ∈ b) : a = b := by
  induction a generalizing b with
  | nil =>
    cases b with
    | nil => rfl
    | cons y s => exact absurd ((h y).2 (by simp)) (by simp)
  | cons x r ih =>
    cases b with
    | nil => exact absurd ((h x).1 (by simp)) (by simp)
    | cons y s =>
      have hxy : x = y := by
        rcases List.mem_cons.1 ((h x).1 (by simp)) with e | hx
        · exact e
        · rcases List.mem_cons.1 ((h y).2 (by simp)) with e | hy
          · exact e.symm
          · have h1 := List.rel_of_pairwise_cons ha hy
            have h2 := List.rel_of_pairwise_cons hb hx
            rw [bet_asymm h1] at h2
            cases h2
      subst hxy
      congr 1
      refine ih ha.of_cons hb.of_cons (fun z => ?_)
      constructor
      · intro hz
        rcases List.mem_cons.1 ((h z).1 (by simp [hz])) with e | hz2
        · subst e
          have := List.rel_of_pairwise_cons ha hz
          rw [bet_irrefl] at this
          cases this
        · exact hz2
      · intro hz
        rcases List.mem_cons.1 ((h z).2 (by simp [hz])) with e | hz2
        · subst e
          have := List.rel_of_pairwise_cons hb hz
          rw [bet_irrefl] at this
          cases this
        · exact hz2

/-- All hits of a list, in order. -/
def allOf (hs : List (Int × Int)) : List (Int × Int) := hs.foldl ins []
theorem foldl_sorted {a : List (Int × Int)} (ha : Sorted a) (hs : List (Int × Int)) : Sorted (hs.foldl ins a) := by
  induction hs generalizing a with
  | nil => exact ha
  | cons h r ih => exact ih (ins_sorted ha h)
theorem foldl_mem {a hs : List (Int × Int)} {x : Int × Int} : x ∈ hs.foldl ins a ↔ x ∈ a ∨ x ∈ hs := by
  induction hs generalizing a with
  | nil => simp
  | cons h r ih =>
    simp only [List.foldl_cons, ih, ins_mem, List.mem_cons]
    constructor
    · rintro ((h | h) | h) <;> simp [h]
    · rintro (h | h | h) <;> simp [h]
theorem allOf_sorted (hs : List (Int × Int)) : Sorted (allOf hs) := foldl_sorted List.Pairwise.nil hs
theorem allOf_mem {hs : List (Int × Int)} {x : Int × Int} : x ∈ allOf hs ↔ x ∈ hs := by simp [allOf, foldl_mem]
theorem allOf_of_sorted {hs : List (Int × Int)} (h : Sorted hs) : allOf hs = hs := sorted_ext (allOf_sorted hs) h (fun _ => allOf_mem)
theorem ins_allOf (hs : List (Int × Int)) (h : Int × Int) : ins (allOf hs) h = allOf (hs ++ [h]) := by simp [allOf, List.foldl_append]

/-- Cut to k ahead or behind: the first k are the same. -/
theorem ins_take {hs : List (Int × Int)} (h : Int × Int) (k : Nat) : (ins (hs.take k) h).take k = (ins hs h).take k := by
  induction hs generalizing k with
  | nil => simp
  | cons a r ih =>
    cases k with
    | zero => simp
    | succ k =>
      simp only [List.take_succ_cons]
      unfold ins
      split
      · simp [ih]
      · split
        · simp [List.take_take]
        · cases k with
          | zero => simp
          | succ k => simp [List.take_take]; try omega

/-- The best k of a list, as they are reckoned one by one. -/
def best (k : Nat) (hs : List (Int × Int)) : List (Int × Int) := hs.foldl (fun out h => (ins out h).take k) []
theorem best_eq (k : Nat) (hs : List (Int × Int)) : best k hs = (allOf hs).take k := by
  have key : ∀ (hs a : List (Int × Int)), hs.foldl (fun out h => (ins out h).take k) (a.take k) = (hs.foldl ins a).take k := by
    intro hs
    induction hs with
    | nil => intro a; rfl
    | cons h r ih =>
      intro a
      simp only [List.foldl_cons]
      rw [ins_take, ih]
  have := key hs []
  simpa [best, allOf] using this
theorem best_sorted (k : Nat) (hs : List (Int × Int)) : Sorted (best k hs) := by
  rw [best_eq]
  exact (allOf_sorted hs).sublist (List.take_sublist _ _)
theorem best_mem {k : Nat} {hs : List (Int × Int)} {x : Int × Int} (h : x ∈ best k hs) : x ∈ hs := by
  rw [best_eq] at h
  exact allOf_mem.1 (List.mem_of_mem_take h)
theorem best_len (k : Nat) (hs : List (Int × Int)) : (best k hs).length ≤ k := by
  rw [best_eq]
  simp
  omega
theorem allOf_congr {a b : List (Int × Int)} (h : ∀ x, x ∈ a ↔ x ∈ b) : allOf a = allOf b := sorted_ext (allOf_sorted a) (allOf_sorted b) (fun x => by rw [allOf_mem, allOf_mem, h])
theorem best_congr (k : Nat) {a b : List (Int × Int)} (h : ∀ x, x ∈ a ↔ x ∈ b) : best k a = best k b := by rw [best_eq, best_eq, allOf_congr h]

end Go.Proofs.YtdnhmoppineegaaGreat

namespace Go.Proofs.YtdnhmoppineegaaGreat
open Go.RowKit

structure DHit where
  id : Int
  score : Int

def Lay.tHit : Lay DHit := Lay.via (Lay.pair Lay.int Lay.int) (fun x => (x.id, x.score)) (fun p => ⟨p.1, p.2⟩)

theorem lies_Hit {w : World} {cs : List Value} {x : DHit} {bl : List Nat} : Lay.tHit.lies w cs x bl ↔ cs = [.int .i64 x.id, .int .i64 x.score] ∧ bl = [] ∧ (Lit.int .i64 x.id).wf = true ∧ (Lit.int .i64 x.score).wf = true := by
  constructor
  · intro h
    obtain ⟨c0_, r0_, e0_, s0_, rfl, rfl, h0, h1⟩ := h
    obtain ⟨rfl, w0, rfl⟩ := h0
    obtain ⟨rfl, w1, rfl⟩ := h1
    exact ⟨by simp, by simp, w0, w1⟩
  · rintro ⟨rfl, hbl, w0, w1⟩
    rw [hbl]
    exact ⟨[.int .i64 x.id], [.int .i64 x.score], [], [], rfl, by simp, ⟨rfl, w0, rfl⟩, ⟨rfl, w1, rfl⟩⟩

end Go.Proofs.YtdnhmoppineegaaGreat

namespace Go.Proofs.YtdnhmoppineegaaGreat
open Go.RowKit

structure DHitsResult where
  code : Int
  hits : List DHit

def Lay.tHitsResult : Lay DHitsResult := Lay.via (Lay.pair Lay.int (Lay.sl Lay.tHit)) (fun x => (x.code, x.hits)) (fun p => ⟨p.1, p.2⟩)

theorem lies_HitsResult {w : World} {cs : List Value} {x : DHitsResult} {bl : List Nat} : Lay.tHitsResult.lies w cs x bl ↔ ∃ (a1 : Option Addr) (d1 : Nat) (b1 : List Nat), cs = [.int .i64 x.code, .slice a1 x.hits.length d1] ∧ bl = b1 ∧ (Lit.int .i64 x.code).wf = true ∧ (Lay.sl Lay.tHit).lies w [.slice a1 x.hits.length d1] x.hits b1 := by
  constructor
  · intro h
    obtain ⟨c0_, r0_, e0_, s0_, rfl, rfl, h0, h1⟩ := h
    obtain ⟨rfl, w0, rfl⟩ := h0
    have k1 := h1
    obtain ⟨a1, d1, rfl, -⟩ := k1
    exact ⟨a1, d1, s0_, by simp, by simp, w0, h1⟩
  · rintro ⟨a1, d1, b1, rfl, hbl, w0, l1⟩
    rw [hbl]
    exact ⟨[.int .i64 x.code], [.slice a1 x.hits.length d1], [], b1, rfl, by simp, ⟨rfl, w0, rfl⟩, l1⟩

theorem open_HitsResult {w : World} {cs : List Value} {x : DHitsResult} (h : Lay.tHitsResult.Reads w cs x) : ∃ (a1 : Option Addr) (d1 : Nat), cs = [.int .i64 x.code, .slice a1 x.hits.length d1] ∧ (Lay.sl Lay.tHit).Reads w [.slice a1 x.hits.length d1] x.hits := by
  obtain ⟨bl, h⟩ := h
  obtain ⟨a1, d1, b1, rfl, -, w0, l1⟩ := lies_HitsResult.1 h
  exact ⟨a1, d1, rfl, ⟨_, l1⟩⟩

end Go.Proofs.YtdnhmoppineegaaGreat

namespace Go.Proofs.YtdnhmoppineegaaGreat
open Go.RowKit

theorem vcnt_HitsResult (x : DHitsResult) : Lay.tHitsResult.vcnt x = (Lay.sl Lay.tHit).vcnt x.hits := by
  show 0 + ((Lay.sl Lay.tHit).vcnt x.hits) = (Lay.sl Lay.tHit).vcnt x.hits
  omega
theorem mkv_HitsResult (k : Int) (x : DHitsResult) : Lay.tHitsResult.mkv k x = ⟨x.code, (Lay.sl Lay.tHit).mkv (k) x.hits⟩ := by
  simp [Lay.tHitsResult, Lay.via, Lay.pair, Lay.int]
theorem own_HitsResult {w : World} {cs : List Value} {x : DHitsResult} {bl : List Nat} (h : Lay.tHitsResult.Own w cs x bl) : ∃ (a1 : Option Addr) (d1 : Nat) (g1 : List Nat), cs = [.int .i64 x.code, .slice a1 x.hits.length d1] ∧ bl = g1 ∧ (Lay.sl Lay.tHit).Own w [.slice a1 x.hits.length d1] x.hits g1 ∧ (Lit.int .i64 x.code).wf = true := by
  obtain ⟨hl, hn, hf⟩ := h
  obtain ⟨a1, d1, b1, rfl, hbl, w0, l1⟩ := lies_HitsResult.1 hl
  rw [hbl] at hn hf
  exact ⟨a1, d1, b1, rfl, hbl, ⟨l1, hn, hf⟩, w0⟩
theorem mkOwn_HitsResult {w : World} {x : DHitsResult} {c1 : List Value} {g1 : List Nat} (O1 : (Lay.sl Lay.tHit).Own w c1 x.hits g1) (v0 : (Lit.int .i64 x.code).wf = true) (hn : (g1).Nodup) : Lay.tHitsResult.Own w ([.int .i64 x.code] ++ c1) x (g1) := by
  refine ⟨⟨[.int .i64 x.code], c1, [], g1, rfl, by simp, ⟨rfl, v0, rfl⟩, O1.1⟩, hn, ?_⟩
  intro b hb o
  exact O1.2.2 b hb o

end Go.Proofs.YtdnhmoppineegaaGreat

namespace Go.Proofs.YtdnhmoppineegaaGreat
open Go.RowKit

structure DEntry where
  kind : Int
  session : Int
  seq : Int
  id : Int
  query : List Int
  k : Int
  start : Int
  fin : Int
  place : Int
  vec : List Int
  hits : List DHit

def Lay.tEntry : Lay DEntry := Lay.via (Lay.pair Lay.int (Lay.pair Lay.int (Lay.pair Lay.int (Lay.pair Lay.int (Lay.pair (Lay.sl Lay.int) (Lay.pair Lay.int (Lay.pair Lay.int (Lay.pair Lay.int (Lay.pair Lay.int (Lay.pair (Lay.sl Lay.int) (Lay.sl Lay.tHit))))))))))) (fun x => (x.kind, x.session, x.seq, x.id, x.query, x.k, x.start, x.fin, x.place, x.vec, x.hits)) (fun p => ⟨p.1, p.2.1, p.2.2.1, p.2.2.2.1, p.2.2.2.2.1, p.2.2.2.2.2.1, p.2.2.2.2.2.2.1, p.2.2.2.2.2.2.2.1, p.2.2.2.2.2.2.2.2.1, p.2.2.2.2.2.2.2.2.2.1, p.2.2.2.2.2.2.2.2.2.2⟩)

theorem lies_Entry {w : World} {cs : List Value} {x : DEntry} {bl : List Nat} : Lay.tEntry.lies w cs x bl ↔ ∃ (a4 : Option Addr) (d4 : Nat) (b4 : List Nat) (a9 : Option Addr) (d9 : Nat) (b9 : List Nat) (a10 : Option Addr) (d10 : Nat) (b10 : List Nat), cs = [.int .i64 x.kind, .int .i64 x.session, .int .i64 x.seq, .int .i64 x.id, .slice a4 x.query.length d4, .int .i64 x.k, .int .i64 x.start, .int .i64 x.fin, .int .i64 x.place, .slice a9 x.vec.length d9, .slice a10 x.hits.length d10] ∧ bl = b4 ++ (b9 ++ b10) ∧ (Lit.int .i64 x.kind).wf = true ∧ (Lit.int .i64 x.session).wf = true ∧ (Lit.int .i64 x.seq).wf = true ∧ (Lit.int .i64 x.id).wf = true ∧ (Lay.sl Lay.int).lies w [.slice a4 x.query.length d4] x.query b4 ∧ (Lit.int .i64 x.k).wf = true ∧ (Lit.int .i64 x.start).wf = true ∧ (Lit.int .i64 x.fin).wf = true ∧ (Lit.int .i64 x.place).wf = true ∧ (Lay.sl Lay.int).lies w [.slice a9 x.vec.length d9] x.vec b9 ∧ (Lay.sl Lay.tHit).lies w [.slice a10 x.hits.length d10] x.hits b10 := by
  constructor
  · intro h
    obtain ⟨c0_, r0_, e0_, s0_, rfl, rfl, h0, ⟨c1_, r1_, e1_, s1_, rfl, rfl, h1, ⟨c2_, r2_, e2_, s2_, rfl, rfl, h2, ⟨c3_, r3_, e3_, s3_, rfl, rfl, h3, ⟨c4_, r4_, e4_, s4_, rfl, rfl, h4, ⟨c5_, r5_, e5_, s5_, rfl, rfl, h5, ⟨c6_, r6_, e6_, s6_, rfl, rfl, h6, ⟨c7_, r7_, e7_, s7_, rfl, rfl, h7, ⟨c8_, r8_, e8_, s8_, rfl, rfl, h8, ⟨c9_, r9_, e9_, s9_, rfl, rfl, h9, h10⟩⟩⟩⟩⟩⟩⟩⟩⟩⟩ := h
    obtain ⟨rfl, w0, rfl⟩ := h0
    obtain ⟨rfl, w1, rfl⟩ := h1
    obtain ⟨rfl, w2, rfl⟩ := h2
    obtain ⟨rfl, w3, rfl⟩ := h3
    have k4 := h4
    obtain ⟨a4, d4, rfl, -⟩ := k4
    obtain ⟨rfl, w5, rfl⟩ := h5
    obtain ⟨rfl, w6, rfl⟩ := h6
    obtain ⟨rfl, w7, rfl⟩ := h7
    obtain ⟨rfl, w8, rfl⟩ := h8
    have k9 := h9
    obtain ⟨a9, d9, rfl, -⟩ := k9
    have k10 := h10
    obtain ⟨a10, d10, rfl, -⟩ := k10
    exact ⟨a4, d4, e4_, a9, d9, e9_, a10, d10, s9_, by simp, by simp, w0, w1, w2, w3, h4, w5, w6, w7, w8, h9, h10⟩
  · rintro ⟨a4, d4, b4, a9, d9, b9, a10, d10, b10, rfl, hbl, w0, w1, w2, w3, l4, w5, w6, w7, w8, l9, l10⟩
    rw [hbl]
    exact ⟨[.int .i64 x.kind], [.int .i64 x.session] ++ ([.int .i64 x.seq] ++ ([.int .i64 x.id] ++ ([.slice a4 x.query.length d4] ++ ([.int .i64 x.k] ++ ([.int .i64 x.start] ++ ([.int .i64 x.fin] ++ ([.int .i64 x.place] ++ ([.slice a9 x.vec.length d9] ++ [.slice a10 x.hits.length d10])))))))), [], [] ++ ([] ++ ([] ++ (b4 ++ ([] ++ ([] ++ ([] ++ ([] ++ (b9 ++ (b10))))))))), rfl, by simp, ⟨rfl, w0, rfl⟩, ⟨[.int .i64 x.session], [.int .i64 x.seq] ++ ([.int .i64 x.id] ++ ([.slice a4 x.query.length d4] ++ ([.int .i64 x.k] ++ ([.int .i64 x.start] ++ ([.int .i64 x.fin] ++ ([.int .i64 x.place] ++ ([.slice a9 x.vec.length d9] ++ [.slice a10 x.hits.length d10]))))))), [], [] ++ ([] ++ (b4 ++ ([] ++ ([] ++ ([] ++ ([] ++ (b9 ++ (b10)))))))), rfl, by simp, ⟨rfl, w1, rfl⟩, ⟨[.int .i64 x.seq], [.int .i64 x.id] ++ ([.slice a4 x.query.length d4] ++ ([.int .i64 x.k] ++ ([.int .i64 x.start] ++ ([.int .i64 x.fin] ++ ([.int .i64 x.place] ++ ([.slice a9 x.vec.length d9] ++ [.slice a10 x.hits.length d10])))))), [], [] ++ (b4 ++ ([] ++ ([] ++ ([] ++ ([] ++ (b9 ++ (b10))))))), rfl, by simp, ⟨rfl, w2, rfl⟩, ⟨[.int .i64 x.id], [.slice a4 x.query.length d4] ++ ([.int .i64 x.k] ++ ([.int .i64 x.start] ++ ([.int .i64 x.fin] ++ ([.int .i64 x.place] ++ ([.slice a9 x.vec.length d9] ++ [.slice a10 x.hits.length d10]))))), [], b4 ++ ([] ++ ([] ++ ([] ++ ([] ++ (b9 ++ (b10)))))), rfl, by simp, ⟨rfl, w3, rfl⟩, ⟨[.slice a4 x.query.length d4], [.int .i64 x.k] ++ ([.int .i64 x.start] ++ ([.int .i64 x.fin] ++ ([.int .i64 x.place] ++ ([.slice a9 x.vec.length d9] ++ [.slice a10 x.hits.length d10])))), b4, [] ++ ([] ++ ([] ++ ([] ++ (b9 ++ (b10))))), rfl, by simp, l4, ⟨[.int .i64 x.k], [.int .i64 x.start] ++ ([.int .i64 x.fin] ++ ([.int .i64 x.place] ++ ([.slice a9 x.vec.length d9] ++ [.slice a10 x.hits.length d10]))), [], [] ++ ([] ++ ([] ++ (b9 ++ (b10)))), rfl, by simp, ⟨rfl, w5, rfl⟩, ⟨[.int .i64 x.start], [.int .i64 x.fin] ++ ([.int .i64 x.place] ++ ([.slice a9 x.vec.length d9] ++ [.slice a10 x.hits.length d10])), [], [] ++ ([] ++ (b9 ++ (b10))), rfl, by simp, ⟨rfl, w6, rfl⟩, ⟨[.int .i64 x.fin], [.int .i64 x.place] ++ ([.slice a9 x.vec.length d9] ++ [.slice a10 x.hits.length d10]), [], [] ++ (b9 ++ (b10)), rfl, by simp, ⟨rfl, w7, rfl⟩, ⟨[.int .i64 x.place], [.slice a9 x.vec.length d9] ++ [.slice a10 x.hits.length d10], [], b9 ++ (b10), rfl, by simp, ⟨rfl, w8, rfl⟩, ⟨[.slice a9 x.vec.length d9], [.slice a10 x.hits.length d10], b9, b10, rfl, by simp, l9, l10⟩⟩⟩⟩⟩⟩⟩⟩⟩⟩

theorem open_Entry {w : World} {cs : List Value} {x : DEntry} (h : Lay.tEntry.Reads w cs x) : ∃ (a4 : Option Addr) (d4 : Nat) (a9 : Option Addr) (d9 : Nat) (a10 : Option Addr) (d10 : Nat), cs = [.int .i64 x.kind, .int .i64 x.session, .int .i64 x.seq, .int .i64 x.id, .slice a4 x.query.length d4, .int .i64 x.k, .int .i64 x.start, .int .i64 x.fin, .int .i64 x.place, .slice a9 x.vec.length d9, .slice a10 x.hits.length d10] ∧ (Lay.sl Lay.int).Reads w [.slice a4 x.query.length d4] x.query ∧ (Lay.sl Lay.int).Reads w [.slice a9 x.vec.length d9] x.vec ∧ (Lay.sl Lay.tHit).Reads w [.slice a10 x.hits.length d10] x.hits := by
  obtain ⟨bl, h⟩ := h
  obtain ⟨a4, d4, b4, a9, d9, b9, a10, d10, b10, rfl, -, w0, w1, w2, w3, l4, w5, w6, w7, w8, l9, l10⟩ := lies_Entry.1 h
  exact ⟨a4, d4, a9, d9, a10, d10, rfl, ⟨_, l4⟩, ⟨_, l9⟩, ⟨_, l10⟩⟩

end Go.Proofs.YtdnhmoppineegaaGreat

namespace Go.Proofs.YtdnhmoppineegaaGreat
open Go.RowKit

structure DWorld where
  now : Int
  events : Int
  chain : DChain
  nodes : List DNode
  msgs : List DMsg
  history : List DEntry

def Lay.tWorld : Lay DWorld := Lay.via (Lay.pair Lay.int (Lay.pair Lay.int (Lay.pair Lay.tChain (Lay.pair (Lay.sl Lay.tNode) (Lay.pair (Lay.sl Lay.tMsg) (Lay.sl Lay.tEntry)))))) (fun x => (x.now, x.events, x.chain, x.nodes, x.msgs, x.history)) (fun p => ⟨p.1, p.2.1, p.2.2.1, p.2.2.2.1, p.2.2.2.2.1, p.2.2.2.2.2⟩)

theorem lies_World {w : World} {cs : List Value} {x : DWorld} {bl : List Nat} : Lay.tWorld.lies w cs x bl ↔ ∃ (a3 : Option Addr) (d3 : Nat) (b3 : List Nat) (a4 : Option Addr) (d4 : Nat) (b4 : List Nat) (a5 : Option Addr) (d5 : Nat) (b5 : List Nat) (a6 : Option Addr) (d6 : Nat) (b6 : List Nat), cs = [.int .i64 x.now, .int .i64 x.events, .int .i64 x.chain.epoch, .slice a3 x.chain.ids.length d3, .slice a4 x.nodes.length d4, .slice a5 x.msgs.length d5, .slice a6 x.history.length d6] ∧ bl = b3 ++ (b4 ++ (b5 ++ b6)) ∧ (Lit.int .i64 x.now).wf = true ∧ (Lit.int .i64 x.events).wf = true ∧ (Lit.int .i64 x.chain.epoch).wf = true ∧ (Lay.sl Lay.int).lies w [.slice a3 x.chain.ids.length d3] x.chain.ids b3 ∧ (Lay.sl Lay.tNode).lies w [.slice a4 x.nodes.length d4] x.nodes b4 ∧ (Lay.sl Lay.tMsg).lies w [.slice a5 x.msgs.length d5] x.msgs b5 ∧ (Lay.sl Lay.tEntry).lies w [.slice a6 x.history.length d6] x.history b6 := by
  constructor
  · intro h
    obtain ⟨c0_, r0_, e0_, s0_, rfl, rfl, h0, ⟨c1_, r1_, e1_, s1_, rfl, rfl, h1, ⟨c2_, r2_, e2_, s2_, rfl, rfl, h2, ⟨c3_, r3_, e3_, s3_, rfl, rfl, h3, ⟨c4_, r4_, e4_, s4_, rfl, rfl, h4, h5⟩⟩⟩⟩⟩ := h
    obtain ⟨rfl, w0, rfl⟩ := h0
    obtain ⟨rfl, w1, rfl⟩ := h1
    obtain ⟨a3, d3, q3, rfl, hq2, w2, l3⟩ := lies_Chain.1 h2
    have k4 := h3
    obtain ⟨a4, d4, rfl, -⟩ := k4
    have k5 := h4
    obtain ⟨a5, d5, rfl, -⟩ := k5
    have k6 := h5
    obtain ⟨a6, d6, rfl, -⟩ := k6
    exact ⟨a3, d3, q3, a4, d4, e3_, a5, d5, e4_, a6, d6, s4_, by simp, by simp [hq2], w0, w1, w2, l3, h3, h4, h5⟩
  · rintro ⟨a3, d3, b3, a4, d4, b4, a5, d5, b5, a6, d6, b6, rfl, hbl, w0, w1, w2, l3, l4, l5, l6⟩
    rw [hbl]
    exact ⟨[.int .i64 x.now], [.int .i64 x.events] ++ ([.int .i64 x.chain.epoch, .slice a3 x.chain.ids.length d3] ++ ([.slice a4 x.nodes.length d4] ++ ([.slice a5 x.msgs.length d5] ++ [.slice a6 x.history.length d6]))), [], [] ++ (b3 ++ (b4 ++ (b5 ++ (b6)))), rfl, by simp, ⟨rfl, w0, rfl⟩, ⟨[.int .i64 x.events], [.int .i64 x.chain.epoch, .slice a3 x.chain.ids.length d3] ++ ([.slice a4 x.nodes.length d4] ++ ([.slice a5 x.msgs.length d5] ++ [.slice a6 x.history.length d6])), [], b3 ++ (b4 ++ (b5 ++ (b6))), rfl, by simp, ⟨rfl, w1, rfl⟩, ⟨[.int .i64 x.chain.epoch, .slice a3 x.chain.ids.length d3], [.slice a4 x.nodes.length d4] ++ ([.slice a5 x.msgs.length d5] ++ [.slice a6 x.history.length d6]), b3, b4 ++ (b5 ++ (b6)), rfl, by simp, lies_Chain.2 ⟨a3, d3, b3, rfl, rfl, w2, l3⟩, ⟨[.slice a4 x.nodes.length d4], [.slice a5 x.msgs.length d5] ++ [.slice a6 x.history.length d6], b4, b5 ++ (b6), rfl, by simp, l4, ⟨[.slice a5 x.msgs.length d5], [.slice a6 x.history.length d6], b5, b6, rfl, by simp, l5, l6⟩⟩⟩⟩⟩

theorem open_World {w : World} {cs : List Value} {x : DWorld} (h : Lay.tWorld.Reads w cs x) : ∃ (a3 : Option Addr) (d3 : Nat) (a4 : Option Addr) (d4 : Nat) (a5 : Option Addr) (d5 : Nat) (a6 : Option Addr) (d6 : Nat), cs = [.int .i64 x.now, .int .i64 x.events, .int .i64 x.chain.epoch, .slice a3 x.chain.ids.length d3, .slice a4 x.nodes.length d4, .slice a5 x.msgs.length d5, .slice a6 x.history.length d6] ∧ Lay.tChain.Reads w [.int .i64 x.chain.epoch, .slice a3 x.chain.ids.length d3] x.chain ∧ (Lay.sl Lay.tNode).Reads w [.slice a4 x.nodes.length d4] x.nodes ∧ (Lay.sl Lay.tMsg).Reads w [.slice a5 x.msgs.length d5] x.msgs ∧ (Lay.sl Lay.tEntry).Reads w [.slice a6 x.history.length d6] x.history := by
  obtain ⟨bl, h⟩ := h
  obtain ⟨a3, d3, b3, a4, d4, b4, a5, d5, b5, a6, d6, b6, rfl, -, w0, w1, w2, l3, l4, l5, l6⟩ := lies_World.1 h
  exact ⟨a3, d3, a4, d4, a5, d5, a6, d6, rfl, ⟨_, lies_Chain.2 ⟨a3, d3, _, rfl, rfl, w2, l3⟩⟩, ⟨_, l4⟩, ⟨_, l5⟩, ⟨_, l6⟩⟩

end Go.Proofs.YtdnhmoppineegaaGreat

namespace Go.Proofs.YtdnhmoppineegaaGreat

theorem info2 : (Tryz.prog.info? 2).map (fun i => (i.zero, i.size, i.bytes)) = some (some (.int .i64 0), 1, 8) := by kernel_rfl

end Go.Proofs.YtdnhmoppineegaaGreat

namespace Go.Proofs.YtdnhmoppineegaaGreat
open Go.RowKit

set_option maxHeartbeats 400000 in
theorem toInts_pos (b off cap : Nat) (zs : List Int) (w : World) (hn : zs.length ≤ 1048576) (hc : ∀ j, j < zs.length → w.cell? ⟨b, off + j, none⟩ = some (.int .i64 (zs.getD j 0))) :
    Calls Tryz.prog 101 #[.slice (some ⟨b, off, none⟩) zs.length cap] w fun e w' => e = .returned (.slice (some ⟨w.heap.size, 0, none⟩) zs.length zs.length) ∧
      w'.ownsRow w.heap.size 2 1 (.slice (some ⟨w.heap.size, 0, none⟩) zs.length zs.length) zs.length (zs.map (Value.int .i64)) ∧ Below w.heap.size w w' := by
  obtain ⟨i0, hi, hz0, hz1, hz2⟩ := info_parts info2
  go_enter Tryz.func101, Tryz.ntmps101
  go_wp2_with (at_make; refine wpList_make_full _ rfl _ _ 22 rfl w.heap.size 2 i0 (.int .i64 0) 1 Tryz.underlying22 hi hz0 hz1 _ _ _ _ zs.length rfl rfl rfl rfl ?c1 ?c2 ?c3 ?_)
  case c1 => rw [hz2]; omega
  case c2 => unfold maxLen; omega
  case c3 => exact Nat.le_refl _
  intro w1 hown1 hgrow1
  have hB1 : Below w.heap.size w w1 := (Below.refl _ _).grown hgrow1 (Nat.le_refl _) (by simp)
  rw [toList_madeCells_one] at hown1
  clear hgrow1 hi hz0 hz1 hz2
  go_wp2
  go_loopw [4] (fun i wr => ∃ k : Nat, k ≤ zs.length ∧ i = .int .i64 k ∧ wr.ownsRow w.heap.size 2 1 (.slice (some ⟨w.heap.size, 0, none⟩) zs.length zs.length) zs.length ((zs.take k).map (Value.int .i64) ++ List.replicate (zs.length - k) (Value.int .i64 0)) ∧ Below w.heap.size w wr)
    (fun i _ => zs.length - (intOf i).toNat)
  case atStart => exact ⟨0, Nat.zero_le _, rfl, by simpa using hown1, hB1⟩
  case round =>
    obtain ⟨k, hk, rfl, hown, hB⟩ := hrel
    clear hown1 hB1
    by_cases hlt : k < zs.length
    · have hcx : wr.cell? ⟨b, off + k, none⟩ = some (.int .i64 (zs.getD k 0)) := (hB.cell (World.block_lt_of_cell? _ _ (hc k hlt))).trans (hc k hlt)
      have hcd : ∃ u, wr.cell? ⟨w.heap.size, k, none⟩ = some u := by
        rw [hown.cellAt k (by omega)]
        exact ⟨_, List.getElem?_eq_getElem (by simp; omega)⟩
      obtain ⟨u, hcd⟩ := hcd
      have hfz := hown.frozenAt k
      have hst := hown.stored k (.int .i64 (zs.getD k 0))
      rw [set_fill zs k hlt] at hst
      have R := hst.1
      have hB2 : Below w.heap.size w (wr.setCell ⟨w.heap.size, k, none⟩ (.int .i64 (zs.getD k 0))) := hB.setCell (by simp) _
      clear hst hown hB
      go_wp2
      go_roundw
      case rel => exact ⟨k + 1, by omega, by go_num, by simpa [hlt] using R, by simpa [hlt] using hB2⟩
      case measure => simp [intOf]; omega
    · have hk2 : k = zs.length := by omega
      go_wp2
      go_ret
      subst hk2
      exact ⟨rfl, by simpa using hown, hB⟩

set_option maxHeartbeats 400000 in
theorem toInts_zero (ao : Option Addr) (cap : Nat) (w : World) :
    Calls Tryz.prog 101 #[.slice ao 0 cap] w fun e w' => e = .returned (.slice (some ⟨w.heap.size, 0, none⟩) 0 0) ∧
      w'.ownsRow w.heap.size 2 1 (.slice (some ⟨w.heap.size, 0, none⟩) 0 0) 0 [] ∧ Below w.heap.size w w' := by
  obtain ⟨i0, hi, hz0, hz1, hz2⟩ := info_parts info2
  go_enter Tryz.func101, Tryz.ntmps101
  go_wp2_with (at_make; refine wpList_make_full _ rfl _ _ 22 rfl w.heap.size 2 i0 (.int .i64 0) 1 Tryz.underlying22 hi hz0 hz1 _ _ _ _ 0 rfl rfl rfl rfl ?c1 ?c2 ?c3 ?_)
  case c1 => rw [hz2]; omega
  case c2 => unfold maxLen; omega
  case c3 => exact Nat.le_refl _
  intro w1 hown1 hgrow1
  have hB1 : Below w.heap.size w w1 := (Below.refl _ _).grown hgrow1 (Nat.le_refl _) (by simp)
  clear hgrow1 hi hz0 hz1 hz2
  rw [toList_madeCells_one] at hown1
  go_wp2
  refine wp_loop_rounds 1 ?_
  rw [rounds_succ]
  go_wp2
  go_ret
  exact ⟨rfl, by simpa using hown1, hB1⟩

/-- toInt64S: a new slice of the same numbers. -/
theorem toInts (v : Value) (zs : List Int) (w : World) (h : IsInts w v zs) (hn : zs.length ≤ 1048576) :
    Calls Tryz.prog 101 #[v] w fun e w' => ∃ v', e = .returned v' ∧ v' = .slice (some ⟨w.heap.size, 0, none⟩) zs.length zs.length ∧
      w'.ownsRow w.heap.size 2 1 v' zs.length (zs.map (Value.int .i64)) ∧ IsInts w' v' zs ∧ Below w.heap.size w w' := by
  obtain ⟨ao, cap, rfl, hwf, hc⟩ := h
  by_cases hp : 0 < zs.length
  · obtain ⟨b, off, rfl, hc1⟩ := hc hp
    refine (toInts_pos b off cap zs w hn hc1).mono ?_
    rintro e w' ⟨rfl, ho, hb⟩
    exact ⟨_, rfl, rfl, ho, isInts_owned hwf ho, hb⟩
  · have hz : zs = [] := List.eq_nil_of_length_eq_zero (by omega)
    subst hz
    refine (toInts_zero ao cap w).mono ?_
    rintro e w' ⟨rfl, ho, hb⟩
    exact ⟨_, rfl, rfl, ho, isInts_owned hwf ho, hb⟩
set_option maxHeartbeats 400000 in
theorem eqInts_pos (b off cap b2 off2 cap2 : Nat) (zs : List Int) (w : World) (hn : zs.length ≤ 9223372036854775807) (hc : ∀ j, j < zs.length → w.cell? ⟨b, off + j, none⟩ = some (.int .i64 (zs.getD j 0)))
    (hc2 : ∀ j, j < zs.length → w.cell? ⟨b2, off2 + j, none⟩ = some (.int .i64 (zs.getD j 0))) :
    Calls Tryz.prog 111 #[.slice (some ⟨b, off, none⟩) zs.length cap, .slice (some ⟨b2, off2, none⟩) zs.length cap2] w fun e w' => e = .returned (.bool true) ∧ Below w.heap.size w w' := by
  go_enter Tryz.func111, Tryz.ntmps111
  go_wp2
  go_loopw [5] (fun i wr => ∃ k : Nat, k ≤ zs.length ∧ i = .int .i64 k ∧ Below w.heap.size w wr) (fun i _ => zs.length - (intOf i).toNat)
  case atStart => exact ⟨0, Nat.zero_le _, rfl, Below.refl _ _⟩
  case round =>
    obtain ⟨k, hk, rfl, hB⟩ := hrel
    by_cases hlt : k < zs.length
    · have hcx : wr.cell? ⟨b, off + k, none⟩ = some (.int .i64 (zs.getD k 0)) := (hB.cell (World.block_lt_of_cell? _ _ (hc k hlt))).trans (hc k hlt)
      have hcy : wr.cell? ⟨b2, off2 + k, none⟩ = some (.int .i64 (zs.getD k 0)) := (hB.cell (World.block_lt_of_cell? _ _ (hc2 k hlt))).trans (hc2 k hlt)
      clear hc hc2
      go_wp2
      go_quiet (fail)
      go_wp2
      go_roundw
      case rel => exact ⟨k + 1, by omega, by go_num, below_drewN hB _⟩
      case measure => simp [intOf]; omega
    · go_wp2
      go_ret
      exact ⟨rfl, hB⟩

set_option maxHeartbeats 400000 in
theorem eqInts_zero (ao ao2 : Option Addr) (cap cap2 : Nat) (w : World) :
    Calls Tryz.prog 111 #[.slice ao 0 cap, .slice ao2 0 cap2] w fun e w' => e = .returned (.bool true) ∧ Below w.heap.size w w' := by
  go_enter Tryz.func111, Tryz.ntmps111
  go_wp2
  refine wp_loop_rounds 1 ?_
  rw [rounds_succ]
  go_wp2
  go_ret
  exact ⟨rfl, Below.refl _ _⟩

/-- eqInt64S: two slices of the same numbers are the same. -/
theorem eqIntsBig (v v2 : Value) (zs : List Int) (w : World) (h : IsInts w v zs) (h2 : IsInts w v2 zs) (hn : zs.length ≤ 9223372036854775807) :
    Calls Tryz.prog 111 #[v, v2] w fun e w' => e = .returned (.bool true) ∧ Below w.heap.size w w' := by
  obtain ⟨ao, cap, rfl, hwf, hc⟩ := h
  obtain ⟨ao2, cap2, rfl, _, hc2⟩ := h2
  by_cases hp : 0 < zs.length
  · obtain ⟨b, off, rfl, hc1⟩ := hc hp
    obtain ⟨b2, off2, rfl, hc3⟩ := hc2 hp
    exact eqInts_pos b off cap b2 off2 cap2 zs w hn hc1 hc3
  · have hz : zs = [] := List.eq_nil_of_length_eq_zero (by omega)
    subst hz
    exact eqInts_zero ao ao2 cap cap2 w
theorem eqInts (v v2 : Value) (zs : List Int) (w : World) (h : IsInts w v zs) (h2 : IsInts w v2 zs) (hn : zs.length ≤ 1048576) :
    Calls Tryz.prog 111 #[v, v2] w fun e w' => e = .returned (.bool true) ∧ Below w.heap.size w w' := eqIntsBig v v2 zs w h h2 (by omega)
end Go.Proofs.YtdnhmoppineegaaGreat

namespace Go.Proofs.YtdnhmoppineegaaGreat
open Go.RowKit

theorem sz_ints (zs : List Int) : (Lay.sl Lay.int).sz zs = zs.length := by
  show zs.length + cntAll (fun _ => 0) zs = zs.length
  have : cntAll (fun _ : Int => 0) zs = 0 := by induction zs with
    | nil => rfl
    | cons z zs ih => simpa [cntAll] using ih
  omega

theorem to_Int64S (v : Value) (zs : List Int) (w : World) (h : (Lay.sl Lay.int).Reads w [v] zs) (hn : (Lay.sl Lay.int).sz zs ≤ 1048576) :
    Calls Tryz.prog 101 #[v] w fun e w' => ∃ v', e = .returned v' ∧ (Lay.sl Lay.int).OwnIn w' [v'] zs w.heap.size w'.heap.size ∧ Below w.heap.size w w' := by
  rw [sz_ints] at hn
  have hi := Lay.ints_reads h
  refine (toInts v zs w hi hn).mono ?_
  rintro e w' ⟨v', rfl, -, ho, -, hb⟩
  exact ⟨v', rfl, Lay.ownInts hi.wf (by omega) ho, hb⟩
theorem eq_Int64S (v v2 : Value) (zs : List Int) (w : World) (h : (Lay.sl Lay.int).Reads w [v] zs) (h2 : (Lay.sl Lay.int).Reads w [v2] zs) :
    Calls Tryz.prog 111 #[v, v2] w fun e w' => e = .returned (.bool true) ∧ Below w.heap.size w w' :=
  eqIntsBig v v2 zs w (Lay.ints_reads h) (Lay.ints_reads h2) h.big

end Go.Proofs.YtdnhmoppineegaaGreat

namespace Go.Proofs.YtdnhmoppineegaaGreat
open Go.RowKit

set_option maxHeartbeats 400000 in
theorem sz_Int64S (v : Value) (zs : List Int) (l : Nat) (w : World) (h : (Lay.sl Lay.int).Reads w [v] zs) (hl : l ≤ 1048576) :
    Calls Tryz.prog 94 #[v, .int .i64 l] w fun e w' => e = .returned (.int .i64 (szR l ((Lay.sl Lay.int).sz zs))) ∧ Below w.heap.size w w' := by
  have hb := h.big
  obtain ⟨ao, cap, rfl⟩ := open_sl h
  rw [sz_ints]
  generalize zs.length = n at *
  clear h
  by_cases hn : n ≤ l
  · rw [szR_ok hn]
    have e1 : (l : Int) - (n : Int) = ((l - n : Nat) : Int) := by omega
    have e2 : decide (((l - n : Nat) : Int) < 0) = false := by simp
    go_enter Tryz.func94, Tryz.ntmps94
    go_wp2_with fail
    go_ret
    exact ⟨rfl, Below.refl _ _⟩
  · rw [szR_many (by omega)]
    have e2 : decide ((l : Int) - (n : Int) < 0) = true := by simp; omega
    go_enter Tryz.func94, Tryz.ntmps94
    go_wp2_with fail
    go_ret
    exact ⟨rfl, Below.refl _ _⟩

end Go.Proofs.YtdnhmoppineegaaGreat

namespace Go.Proofs.YtdnhmoppineegaaGreat
open Go.RowKit

theorem szsum_Chain (x : DChain) : Lay.tChain.sz x = (Lay.sl Lay.int).sz x.ids := by
  show 0 + ((Lay.sl Lay.int).sz x.ids) = (Lay.sl Lay.int).sz x.ids
  omega
set_option maxRecDepth 10000 in
set_option maxHeartbeats 1000000 in
theorem sz_Chain (cs : List Value) (x : DChain) (l : Nat) (w : World) (h : Lay.tChain.Reads w cs x) (hl : l ≤ 1048576) :
    Calls Tryz.prog 44 #[.agg cs.toArray, .int .i64 l] w fun e w' => e = .returned (.int .i64 (szR l (Lay.tChain.sz x))) ∧ Below w.heap.size w w' := by
  obtain ⟨a1, d1, rfl, R1⟩ := open_Chain h
  clear h
  have HB0 : Below w.heap.size w (w.alloc (.cells #[.int .i64 x.epoch, .slice a1 x.ids.length d1] 24)) := (Below.refl _ _).alloc (Nat.le_refl _) _
  have bA : Box w.heap.size #[.int .i64 x.epoch, .slice a1 x.ids.length d1] 24 (w.alloc (.cells #[.int .i64 x.epoch, .slice a1 x.ids.length d1] 24)) w.heap.size := newBox (Nat.le_refl _)
  have HV := hide (szsum_Chain x)
  go_enter Tryz.func44, Tryz.ntmps44
  go_wp2_with fail
  generalize w.alloc (.cells #[.int .i64 x.epoch, .slice a1 x.ids.length d1] 24) = W0 at *
  replace R1 := R1.later HB0
  refine (sz_Int64S _ x.ids (l) _ R1 (by omega)).mono ?_
  rintro e w1 ⟨rfl, hb⟩
  replace HB0 := HB0.trans (hb.mono HB0.size)
  replace bA := bA.keep hb
  clear hb R1
  by_cases hs0 : (Lay.sl Lay.int).sz x.ids ≤ l
  · rw [szR_ok hs0]
    have hq : decide (((l - (Lay.sl Lay.int).sz x.ids : Nat) : Int) < 0) = false := by simp
    have HX := hide HB0
    have HA := hide bA
    clear HB0 bA
    go_wp2_with fail
    clear hq
    go_ret
    refine ⟨?_, unhide HX⟩
    rw [unhide HV, szR_ok (by omega), show l - ((Lay.sl Lay.int).sz x.ids) = l - (Lay.sl Lay.int).sz x.ids by omega]
    rfl
  · rw [szR_many (by omega)]
    have HX := hide HB0
    clear HB0 bA
    go_wp2_with fail
    go_ret
    refine ⟨?_, unhide HX⟩
    rw [unhide HV, szR_many (by omega)]
    rfl

end Go.Proofs.YtdnhmoppineegaaGreat

namespace Go.Proofs.YtdnhmoppineegaaGreat
open Go.RowKit

theorem szsum_Write (x : DWrite) : Lay.tWrite.sz x = (Lay.sl Lay.int).sz x.vec := by
  show 0 + (0 + ((Lay.sl Lay.int).sz x.vec + (0 + (0)))) = (Lay.sl Lay.int).sz x.vec
  omega
set_option maxRecDepth 10000 in
set_option maxHeartbeats 1000000 in
theorem sz_Write (cs : List Value) (x : DWrite) (l : Nat) (w : World) (h : Lay.tWrite.Reads w cs x) (hl : l ≤ 1048576) :
    Calls Tryz.prog 167 #[.agg cs.toArray, .int .i64 l] w fun e w' => e = .returned (.int .i64 (szR l (Lay.tWrite.sz x))) ∧ Below w.heap.size w w' := by
  obtain ⟨a2, d2, rfl, R2⟩ := open_Write h
  clear h
  have HB0 : Below w.heap.size w (w.alloc (.cells #[.int .i64 x.kind, .int .i64 x.id, .slice a2 x.vec.length d2, .int .i64 x.session, .int .i64 x.seq] 116)) := (Below.refl _ _).alloc (Nat.le_refl _) _
  have bA : Box w.heap.size #[.int .i64 x.kind, .int .i64 x.id, .slice a2 x.vec.length d2, .int .i64 x.session, .int .i64 x.seq] 116 (w.alloc (.cells #[.int .i64 x.kind, .int .i64 x.id, .slice a2 x.vec.length d2, .int .i64 x.session, .int .i64 x.seq] 116)) w.heap.size := newBox (Nat.le_refl _)
  have HV := hide (szsum_Write x)
  go_enter Tryz.func167, Tryz.ntmps167
  go_wp2_with fail
  generalize w.alloc (.cells #[.int .i64 x.kind, .int .i64 x.id, .slice a2 x.vec.length d2, .int .i64 x.session, .int .i64 x.seq] 116) = W0 at *
  replace R2 := R2.later HB0
  refine (sz_Int64S _ x.vec (l) _ R2 (by omega)).mono ?_
  rintro e w1 ⟨rfl, hb⟩
  replace HB0 := HB0.trans (hb.mono HB0.size)
  replace bA := bA.keep hb
  clear hb R2
  by_cases hs0 : (Lay.sl Lay.int).sz x.vec ≤ l
  · rw [szR_ok hs0]
    have hq : decide (((l - (Lay.sl Lay.int).sz x.vec : Nat) : Int) < 0) = false := by simp
    have HX := hide HB0
    have HA := hide bA
    clear HB0 bA
    go_wp2_with fail
    clear hq
    go_ret
    refine ⟨?_, unhide HX⟩
    rw [unhide HV, szR_ok (by omega), show l - ((Lay.sl Lay.int).sz x.vec) = l - (Lay.sl Lay.int).sz x.vec by omega]
    rfl
  · rw [szR_many (by omega)]
    have HX := hide HB0
    clear HB0 bA
    go_wp2_with fail
    go_ret
    refine ⟨?_, unhide HX⟩
    rw [unhide HV, szR_many (by omega)]
    rfl

end Go.Proofs.YtdnhmoppineegaaGreat

namespace Go.Proofs.YtdnhmoppineegaaGreat
open Go.RowKit

set_option maxRecDepth 10000 in
set_option maxHeartbeats 1000000 in
theorem sz_WriteS (v : Value) (xs : List DWrite) (l : Nat) (w : World) (h : (Lay.sl Lay.tWrite).Reads w [v] xs) (hl : l ≤ 1048576) :
    Calls Tryz.prog 166 #[v, .int .i64 l] w fun e w' => e = .returned (.int .i64 (szR l ((Lay.sl Lay.tWrite).sz xs))) ∧ Below w.heap.size w w' := by
  have hbig := h.big
  obtain ⟨ao, cap, rfl⟩ := open_sl h
  have HV : Hid ((Lay.sl Lay.tWrite).sz xs = xs.length + cntAll Lay.tWrite.sz xs) := rfl
  by_cases hn : xs.length ≤ l
  · have e1 : (l : Int) - (xs.length : Int) = ((l - xs.length : Nat) : Int) := by omega
    have e2 : decide (((l - xs.length : Nat) : Int) < 0) = false := by simp
    by_cases hp : 0 < xs.length
    · obtain ⟨b, off, rfl, hbl⟩ := Lay.sl_addr h hp
      have H := hide h
      clear h
      go_enter Tryz.func166, Tryz.ntmps166
      go_wp2_with fail
      go_loopw [1, 5] (fun lf i wr => ∃ k s : Nat, k ≤ xs.length ∧ i = .int .i64 k ∧ s = cntAll Lay.tWrite.sz (xs.take k) ∧ xs.length + s ≤ l ∧ lf = .int .i64 ((l - (xs.length + s) : Nat) : Int) ∧ Below w.heap.size w wr) (fun _ i _ => xs.length - (intOf i).toNat)
      case atStart => exact ⟨0, 0, Nat.zero_le _, rfl, rfl, by omega, by simp, Below.refl _ _⟩
      case round =>
        obtain ⟨k, s, hk, rfl, hs, hsl, rfl, hB⟩ := hrel
        have HS := hide hs
        clear hs e1 e2
        by_cases hlt : k < xs.length
        · obtain ⟨row, hc, hr⟩ := Lay.row_at (unhide H) hlt
          replace hr := hr.later hB
          have hr2 := hr
          obtain ⟨a2, d2, rfl, -⟩ := open_Write hr2
          have c0 : wr.cell? ⟨b, off + k * 5, none⟩ = some (.int .i64 (xs[k]).kind) := (hB.cell (p := ⟨b, off + k * 5, none⟩) hbl).trans (hc 0 (by decide))
          have c1 : wr.cell? ⟨b, off + k * 5 + 1, none⟩ = some (.int .i64 (xs[k]).id) := (hB.cell (p := ⟨b, off + k * 5 + 1, none⟩) hbl).trans (hc 1 (by decide))
          have c2 : wr.cell? ⟨b, off + k * 5 + 2, none⟩ = some (.slice a2 (xs[k]).vec.length d2) := (hB.cell (p := ⟨b, off + k * 5 + 2, none⟩) hbl).trans (hc 2 (by decide))
          have c3 : wr.cell? ⟨b, off + k * 5 + 3, none⟩ = some (.int .i64 (xs[k]).session) := (hB.cell (p := ⟨b, off + k * 5 + 3, none⟩) hbl).trans (hc 3 (by decide))
          have c4 : wr.cell? ⟨b, off + k * 5 + 4, none⟩ = some (.int .i64 (xs[k]).seq) := (hB.cell (p := ⟨b, off + k * 5 + 4, none⟩) hbl).trans (hc 4 (by decide))
          have HB := hide hB
          have HR := hide hr
          have HT := hide (Lay.cntAll_take (f := Lay.tWrite.sz) hlt)
          have HL := hide (Lay.cntAll_take_le (f := Lay.tWrite.sz) (xs := xs) (k := k + 1))
          clear hB hr hc
          generalize hxk : xs[k] = x at *
          clear hxk
          go_wp2_with fail
          refine (sz_Write _ x (l - (xs.length + s)) wr (unhide HR) (by omega)).mono ?_
          rintro e w2 ⟨rfl, hb⟩
          replace HB := hide ((unhide HB).trans (hb.mono (unhide HB).size))
          clear hb HR c0 c1 c2 c3 c4
          have ht := unhide HT
          rw [← unhide HS] at ht
          have hle := unhide HL
          rw [ht] at hle
          have HQ := hide ht
          by_cases hq : xs.length + s + Lay.tWrite.sz x ≤ l
          · rw [szR_ok (by omega)]
            have e3 : l - (xs.length + s) - Lay.tWrite.sz x = l - (xs.length + (s + Lay.tWrite.sz x)) := by omega
            rw [e3]
            have e4 : decide (((l - (xs.length + (s + Lay.tWrite.sz x)) : Nat) : Int) < 0) = false := by simp
            clear ht hle e3
            generalize hz : s + Lay.tWrite.sz x = s2 at *
            have hs2 : xs.length + s2 ≤ l := by omega
            clear hz hq
            go_wp2_with fail
            go_roundw
            case rel => exact ⟨k + 1, s2, by omega, by go_num, (unhide HQ).symm, hs2, rfl, unhide HB⟩
            case measure => simp [intOf]; omega
          · rw [szR_many (by omega)]
            have HN : Hid (l < xs.length + cntAll Lay.tWrite.sz xs) := by
              show l < xs.length + cntAll Lay.tWrite.sz xs
              omega
            clear ht hle
            go_wp2_with fail
            go_ret
            refine ⟨?_, unhide HB⟩
            rw [unhide HV, szR_many (unhide HN)]
            rfl
        · obtain rfl : k = xs.length := by omega
          have HE : Hid (s = cntAll Lay.tWrite.sz xs) := by
            have := unhide HS
            rw [List.take_length] at this
            exact this
          have HB := hide hB
          clear hB HS
          go_wp2_with fail
          go_ret
          refine ⟨?_, unhide HB⟩
          rw [unhide HV, ← unhide HE, szR_ok hsl]
          rfl
    · obtain rfl : xs = [] := List.eq_nil_of_length_eq_zero (by omega)
      clear h hp
      rw [unhide HV]
      simp only [List.length_nil, cntAll, Nat.add_zero, Nat.sub_zero] at *
      rw [szR_ok (Nat.zero_le _)]
      have e3 : decide ((l : Int) < 0) = false := by simp
      go_enter Tryz.func166, Tryz.ntmps166
      go_wp2_with fail
      refine wp_loop_rounds 1 ?_
      rw [rounds_succ]
      go_wp2_with fail
      go_ret
      exact ⟨by simp, Below.refl _ _⟩
  · have HN : Hid (szR l ((Lay.sl Lay.tWrite).sz xs) = -1) := szR_many (by rw [unhide HV]; omega)
    rw [unhide HN]
    have e2 : decide ((l : Int) - (xs.length : Int) < 0) = true := by simp; omega
    clear h HV HN
    generalize xs.length = n at *
    go_enter Tryz.func166, Tryz.ntmps166
    go_wp2_with fail
    go_ret
    exact ⟨rfl, Below.refl _ _⟩

end Go.Proofs.YtdnhmoppineegaaGreat

namespace Go.Proofs.YtdnhmoppineegaaGreat
open Go.RowKit

theorem szsum_Node (x : DNode) : Lay.tNode.sz x = (Lay.sl Lay.tWrite).sz x.writes := by
  show 0 + (0 + (0 + (0 + ((Lay.sl Lay.tWrite).sz x.writes + (0 + (0)))))) = (Lay.sl Lay.tWrite).sz x.writes
  omega
set_option maxRecDepth 10000 in
set_option maxHeartbeats 1000000 in
theorem sz_Node (cs : List Value) (x : DNode) (l : Nat) (w : World) (h : Lay.tNode.Reads w cs x) (hl : l ≤ 1048576) :
    Calls Tryz.prog 95 #[.agg cs.toArray, .int .i64 l] w fun e w' => e = .returned (.int .i64 (szR l (Lay.tNode.sz x))) ∧ Below w.heap.size w w' := by
  obtain ⟨a4, d4, rfl, R4⟩ := open_Node h
  clear h
  have HB0 : Below w.heap.size w (w.alloc (.cells #[.int .i64 x.id, .bool x.up, .int .i64 x.epoch, .int .i64 x.lease, .slice a4 x.writes.length d4, .int .i64 x.sure, .int .i64 x.clean] 114)) := (Below.refl _ _).alloc (Nat.le_refl _) _
  have bA : Box w.heap.size #[.int .i64 x.id, .bool x.up, .int .i64 x.epoch, .int .i64 x.lease, .slice a4 x.writes.length d4, .int .i64 x.sure, .int .i64 x.clean] 114 (w.alloc (.cells #[.int .i64 x.id, .bool x.up, .int .i64 x.epoch, .int .i64 x.lease, .slice a4 x.writes.length d4, .int .i64 x.sure, .int .i64 x.clean] 114)) w.heap.size := newBox (Nat.le_refl _)
  have HV := hide (szsum_Node x)
  go_enter Tryz.func95, Tryz.ntmps95
  go_wp2_with fail
  generalize w.alloc (.cells #[.int .i64 x.id, .bool x.up, .int .i64 x.epoch, .int .i64 x.lease, .slice a4 x.writes.length d4, .int .i64 x.sure, .int .i64 x.clean] 114) = W0 at *
  replace R4 := R4.later HB0
  refine (sz_WriteS _ x.writes (l) _ R4 (by omega)).mono ?_
  rintro e w1 ⟨rfl, hb⟩
  replace HB0 := HB0.trans (hb.mono HB0.size)
  replace bA := bA.keep hb
  clear hb R4
  by_cases hs0 : (Lay.sl Lay.tWrite).sz x.writes ≤ l
  · rw [szR_ok hs0]
    have hq : decide (((l - (Lay.sl Lay.tWrite).sz x.writes : Nat) : Int) < 0) = false := by simp
    have HX := hide HB0
    have HA := hide bA
    clear HB0 bA
    go_wp2_with fail
    clear hq
    go_ret
    refine ⟨?_, unhide HX⟩
    rw [unhide HV, szR_ok (by omega), show l - ((Lay.sl Lay.tWrite).sz x.writes) = l - (Lay.sl Lay.tWrite).sz x.writes by omega]
    rfl
  · rw [szR_many (by omega)]
    have HX := hide HB0
    clear HB0 bA
    go_wp2_with fail
    go_ret
    refine ⟨?_, unhide HX⟩
    rw [unhide HV, szR_many (by omega)]
    rfl

end Go.Proofs.YtdnhmoppineegaaGreat
