/-
  Texts of this proof in one: Ground, TabGround, LayMsg, Info, Ints, LayInt, SzInt64S, SzWrite, SzMsg, SzMsgS, ToWrite, ToMsg, ToMsgS, EqWrite, EqMsg, EqMsgS, OwnMsg, LayMark, MaMsgS, MaWrite, MaMsg, LayNetResult, EqNetResult, OwnNetResult, MaNetResult, MkMsgS, MkNetResult.
  Their conditions stand in their theorems.
-/
import Derived.WalkKit
import Derived.WalkSpells
import Derived.WalkSmall
import Derived.Deep.AppendLies
import Derived.Maps.OwnSet
import Derived.Test.YtkmfkaljdngigaaChecked
import Derived.BigQuiet
import Derived.Deep.QuietTactic
import Derived.Deep.RegionHeld3

namespace Go.Proofs.Ytkmfkaljdngigaa
open Go.RowKit

theorem hide {p : Prop} (h : p) : Hid p := h
theorem unhide {p : Prop} (h : Hid p) : p := h

def intRes (c v : Int) : Value := .agg #[.int .i64 c, .int .i64 v]
def intsRes (c : Int) (v : Value) : Value := .agg #[.int .i64 c, v]

theorem cell_drewN (w : World) (n : Nat) (a : Addr) : (w.drewN n).cell? a = w.cell? a := rfl
theorem frozen_drewN (w : World) (n : Nat) (a : Addr) : (w.drewN n).frozen? a = w.frozen? a := rfl
theorem heap_drewN (w : World) (n : Nat) : (w.drewN n).heap = w.heap := rfl
theorem below_drawn {B : Nat} {a w : World} (h : Below B a w) (n : Nat) : Below B a (w.drewN n) := h.trans ⟨rfl, rfl, rfl, Nat.le_refl _, fun _ _ => rfl⟩

theorem cell_keep {w wx : World} {a : Addr} {v : Value} (hb : Below w.heap.size w wx) (h : w.cell? a = some v) : wx.cell? a = some v := (hb.cell (World.block_lt_of_cell? _ _ h)).trans h
theorem new_cells {w : World} {T : TypeId} {x y : Value} : (w.alloc (.cells #[x, y] T)).cell? ⟨w.heap.size, 0, none⟩ = some x ∧ (w.alloc (.cells #[x, y] T)).cell? ⟨w.heap.size, 1, none⟩ = some y := by
  constructor <;> simp [go_sem]

theorem grown_trans {a b c : World} {r : Option Nat} (h : a.grownBy b r) (k : b.grownBy c r) : a.grownBy c r :=
  ⟨k.os.trans h.os, k.tape.trans h.tape, k.output.trans h.output, Nat.le_trans h.size k.size, fun i hi hr => (k.block i (Nat.lt_of_lt_of_le hi h.size) hr).trans (h.block i hi hr)⟩

/-- The slice v holds the numbers zs, each an int64. -/
def IsInts (w : World) (v : Value) (zs : List Int) : Prop :=
  ∃ ao cap, v = .slice ao zs.length cap ∧ (∀ z ∈ zs, (Lit.int .i64 z).wf = true) ∧
    (0 < zs.length → ∃ b off, ao = some ⟨b, off, none⟩ ∧ ∀ j, j < zs.length → w.cell? ⟨b, off + j, none⟩ = some (.int .i64 (zs.getD j 0)))

theorem IsInts.later {w w' : World} {v : Value} {zs : List Int} (h : IsInts w v zs) (hb : Below w.heap.size w w') : IsInts w' v zs := by
  obtain ⟨ao, cap, rfl, hwf, hc⟩ := h
  refine ⟨ao, cap, rfl, hwf, fun hp => ?_⟩
  obtain ⟨b, off, hao, hc1⟩ := hc hp
  refine ⟨b, off, hao, fun j hj => ?_⟩
  have h1 := hc1 j hj
  exact (hb.cell (World.block_lt_of_cell? _ _ h1)).trans h1

theorem IsInts.bound {w : World} {v : Value} {zs : List Int} (h : IsInts w v zs) : ∀ j, -9223372036854775808 ≤ zs.getD j 0 ∧ zs.getD j 0 ≤ 9223372036854775807 := by
  obtain ⟨ao, cap, rfl, hwf, _⟩ := h
  intro j
  by_cases hj : j < zs.length
  · have h1 := hwf (zs.getD j 0) (by simp [List.getD, hj])
    simpa [Lit.wf, IntKind.min, IntKind.max, IntKind.signed, IntKind.bits] using h1
  · simp [List.getD, List.getElem?_eq_none (by omega : zs.length ≤ j)]

/-- A block of numbers that lies whole. -/
theorem isInts_owned {w : World} {base T g : Nat} {zs : List Int} (hwf : ∀ z ∈ zs, (Lit.int .i64 z).wf = true)
    (h : w.ownsRow base T 1 (.slice (some ⟨g, 0, none⟩) zs.length zs.length) zs.length (zs.map (Value.int .i64))) : IsInts w (.slice (some ⟨g, 0, none⟩) zs.length zs.length) zs := by
  refine ⟨_, _, rfl, hwf, fun hp => ⟨g, 0, rfl, fun j hj => ?_⟩⟩
  rw [Nat.zero_add, h.cellAt j (by omega)]
  simp [List.getD, hj]

/-- Whatever owns a row of numbers holds them. -/
theorem isInts_row {w : World} {base T : Nat} {v : Value} {zs : List Int} (hwf : ∀ z ∈ zs, (Lit.int .i64 z).wf = true)
    (h : w.ownsRow base T 1 v zs.length (zs.map (Value.int .i64))) : IsInts w v zs := by
  rcases h.2 with ⟨rfl, h0⟩ | ⟨g, cap, cur, rfl, _⟩
  · have : zs = [] := List.eq_nil_of_length_eq_zero h0
    subst this
    exact ⟨none, 0, rfl, by simp, by simp⟩
  · refine ⟨_, _, rfl, hwf, fun hp => ⟨g, 0, rfl, fun j hj => ?_⟩⟩
    rw [Nat.zero_add, h.cellAt j (by omega)]
    simp [List.getD, hj]

theorem own_new3 {W : World} {base g : Nat} {T : TypeId} {x y z : Int} (hb : base ≤ W.heap.size) (hs : W.heap.size = g) :
    (W.alloc (.cells #[.int .i64 x, .int .i64 y, .int .i64 z] T)).ownsRow base T 1 (.slice (some ⟨g, 0, none⟩) 3 3) 3 ([x, y, z].map (Value.int .i64)) := by
  subst hs
  exact World.ownsRow_lit W _ 3 hb (by unfold maxLen; omega) rfl

theorem wf_of_bd {z : Int} (h : -1000000000 ≤ z ∧ z ≤ 1000000000) : (Lit.int .i64 z).wf = true := WalkArith.wf_i64 (by omega)

theorem IsInts.wf {w : World} {v : Value} {zs : List Int} (h : IsInts w v zs) : ∀ z ∈ zs, (Lit.int .i64 z).wf = true := by
  obtain ⟨_, _, _, hwf, _⟩ := h
  exact hwf

theorem lt_own {w : World} {base T sz g n cap : Nat} {xs : List Value} (h : w.ownsRow base T sz (.slice (some ⟨g, 0, none⟩) n cap) n xs) : g < w.heap.size := (h.lt g rfl).2

theorem own_shape {w : World} {base T sz : Nat} {v : Value} {n : Nat} {xs : List Value} (h : w.ownsRow base T sz v n xs) : ∃ ao cap, v = .slice ao n cap := by
  rcases h.2 with ⟨rfl, h0⟩ | ⟨g, cap, cur, rfl, _⟩
  · exact ⟨none, 0, by rw [h0]⟩
  · exact ⟨_, _, rfl⟩

theorem own_below {w w' : World} {base T sz : Nat} {v : Value} {n : Nat} {xs : List Value} (h : w.ownsRow base T sz v n xs) (hb : Below w.heap.size w w') : w'.ownsRow base T sz v n xs := by
  refine ⟨h.1, ?_⟩
  rcases h.2 with h2 | ⟨g, cap, cur, hv, hg, hh, r⟩
  · exact Or.inl h2
  · exact Or.inr ⟨g, cap, cur, hv, hg, (hb.block g (lt_of_block hh)).trans hh, r⟩

theorem own_mono {w : World} {b b' T sz : Nat} {v : Value} {n : Nat} {xs : List Value} (hb : b' ≤ b) (h : w.ownsRow b T sz v n xs) : w.ownsRow b' T sz v n xs := by
  refine ⟨h.1, ?_⟩
  rcases h.2 with h2 | ⟨g, cap, cur, hv, hg, r⟩
  · exact Or.inl h2
  · exact Or.inr ⟨g, cap, cur, hv, by omega, r⟩

/-- What a row's reading tells of a slice of int64 that came in. -/
theorem isInts_of_row {w : World} {a : Option Addr} {len cap : Nat} {zs : List Int} (h : (a = none ∧ len = 0 ∧ cap = 0 ∧ zs = []) ∨
    ∃ x, a = some x ∧ len ≤ cap ∧ cap ≤ maxLen ∧ zs.length = cap ∧ (∀ i, i < zs.length → w.cell? (x.add i) = some (.int .i64 (zs.getD i 0))) ∧ ∀ n ∈ zs, (Lit.int .i64 n).wf = true) :
    IsInts w (.slice a len cap) (zs.take len) := by
  rcases h with ⟨rfl, rfl, rfl, rfl⟩ | ⟨x, rfl, hl, hm, hz, hcell, hwz⟩
  · exact ⟨none, 0, rfl, by simp, by simp⟩
  · have hlen : (zs.take len).length = len := by simp; omega
    refine ⟨some x, cap, by rw [hlen], fun z hz => hwz z (List.mem_of_mem_take hz), fun hp => ?_⟩
    rw [hlen] at hp ⊢
    obtain ⟨b, off, spot⟩ := x
    have hc := hcell 0 (by omega)
    have hspot : spot = none := by simpa [Addr.add] using World.cell?_spot hc
    subst hspot
    refine ⟨b, off, rfl, fun j hj => ?_⟩
    have h1 := hcell j (by omega)
    have e : (zs.take len).getD j 0 = zs.getD j 0 := by simp [List.getD, hj]
    rw [e]
    rwa [Addr.add_lit] at h1

theorem set_fill (zs : List Int) (k : Nat) (hk : k < zs.length) :
    ((zs.take k).map (Value.int .i64) ++ List.replicate (zs.length - k) (Value.int .i64 0)).set k (.int .i64 (zs.getD k 0)) = (zs.take (k + 1)).map (Value.int .i64) ++ List.replicate (zs.length - (k + 1)) (Value.int .i64 0) := by
  have hl : ((zs.take k).map (Value.int .i64)).length = k := by simp; omega
  rw [List.set_append_right _ _ (by omega), hl, Nat.sub_self]
  obtain ⟨m, hm⟩ : ∃ m, zs.length - k = m + 1 := ⟨zs.length - k - 1, by omega⟩
  rw [hm, show zs.length - (k + 1) = m by omega, List.replicate_succ, List.set_cons_zero, List.take_succ_eq_append_getElem hk, List.map_append, List.append_assoc]
  simp [List.getD, hk]

end Go.Proofs.Ytkmfkaljdngigaa

namespace Go.Proofs.Ytkmfkaljdngigaa
open Go.RowKit

/-- The block s, not below lo, holds the cells cs. -/
def Box (lo : Nat) (cs : Array Value) (T : TypeId) (W : World) (s : Nat) : Prop := lo ≤ s ∧ W.heap[s]? = some (.cells cs T (0, 0))
theorem Box.drew {lo : Nat} {cs : Array Value} {T : TypeId} {W : World} {s : Nat} (h : Box lo cs T W s) : Box lo cs T W.drew s := h
theorem Box.lt {lo : Nat} {cs : Array Value} {T : TypeId} {W : World} {s : Nat} (h : Box lo cs T W s) : s < W.heap.size := lt_of_block h.2
theorem newBox {lo : Nat} {cs : Array Value} {T : TypeId} {W : World} (h : lo ≤ W.heap.size) : Box lo cs T (W.alloc (.cells cs T)) W.heap.size := ⟨h, heap_alloc_new W _⟩
theorem Box.keep {lo : Nat} {cs : Array Value} {T : TypeId} {W w' : World} {s : Nat} (h : Box lo cs T W s) (hb : Below W.heap.size W w') : Box lo cs T w' s := ⟨h.1, (hb.block s h.lt).trans h.2⟩
theorem own_setC {w : World} {base e size : Nat} {v : Value} {n : Nat} {xs : List Value} {a : Addr} (h : w.ownsRow base e size v n xs) (ha : a.block < base) (u : Value) : (w.setCell a u).ownsRow base e size v n xs := by
  refine ⟨h.1, ?_⟩
  rcases h.2 with h2 | ⟨g, cap, cur, hv, hg, hh, r⟩
  · exact Or.inl h2
  · exact Or.inr ⟨g, cap, cur, hv, hg, (heap_setCell_other w a g u (by omega)).trans hh, r⟩
theorem Box.two {lo : Nat} {x y : Value} {T : TypeId} {W : World} {s : Nat} (h : Box lo #[x, y] T W s) : W.cell? ⟨s, 0, none⟩ = some x ∧ W.cell? ⟨s, 1, none⟩ = some y ∧ (∀ o, W.frozen? ⟨s, o, none⟩ = false) ∧ s < W.heap.size := by
  refine ⟨?_, ?_, fun o => ?_, h.lt⟩
  · simp [World.cell?, h.2]
  · simp [World.cell?, h.2]
  · simp [World.frozen?, h.2]

end Go.Proofs.Ytkmfkaljdngigaa

namespace Go.Proofs.Ytkmfkaljdngigaa
open Go.RowKit

/-- Blocks outside S are as they were. -/
structure Ext (S : Nat → Prop) (w w' : World) : Prop where
  os : w'.os = w.os
  tape : w'.tape = w.tape
  output : w'.output = w.output
  size : w.heap.size ≤ w'.heap.size
  block : ∀ k, k < w.heap.size → ¬ S k → w'.heap[k]? = w.heap[k]?

def nowhere : Nat → Prop := fun _ => False
def within (lo hi : Nat) : Nat → Prop := fun k => lo ≤ k ∧ k < hi

theorem Ext.refl (S : Nat → Prop) (w : World) : Ext S w w := ⟨rfl, rfl, rfl, Nat.le_refl _, fun _ _ _ => rfl⟩
theorem Ext.trans {S : Nat → Prop} {a b c : World} (h : Ext S a b) (k : Ext S b c) : Ext S a c :=
  ⟨k.os.trans h.os, k.tape.trans h.tape, k.output.trans h.output, Nat.le_trans h.size k.size, fun i hi hn => (k.block i (Nat.lt_of_lt_of_le hi h.size) hn).trans (h.block i hi hn)⟩
theorem Ext.mono {S S' : Nat → Prop} {a b : World} (h : Ext S a b) (hs : ∀ k, k < a.heap.size → S k → S' k) : Ext S' a b :=
  ⟨h.os, h.tape, h.output, h.size, fun i hi hn => h.block i hi fun hS => hn (hs i hi hS)⟩
theorem Ext.drew {S : Nat → Prop} {a b : World} (h : Ext S a b) (n : Nat) : Ext S a (b.drewN n) := ⟨h.os, h.tape, h.output, h.size, h.block⟩
theorem ext_of_below {w w' : World} (h : Below w.heap.size w w') (S : Nat → Prop) : Ext S w w' := ⟨h.os, h.tape, h.output, h.size, fun k hk _ => h.block k hk⟩
theorem extB_of_below {B : Nat} {w w' : World} (h : Below B w w') : Ext (fun k => B ≤ k) w w' := ⟨h.os, h.tape, h.output, h.size, fun k _ hn => h.block k (by omega)⟩
theorem Ext.below {S : Nat → Prop} {w w' : World} {B : Nat} (h : Ext S w w') (hB : B ≤ w.heap.size) (hs : ∀ k, k < B → ¬ S k) : Below B w w' :=
  ⟨h.os, h.tape, h.output, h.size, fun k hk => h.block k (by omega) (hs k hk)⟩
theorem Ext.setCell {S : Nat → Prop} {w w' : World} (h : Ext S w w') (a : Addr) (v : Value) (ha : S a.block) : Ext S w (w'.setCell a v) :=
  ⟨h.os, h.tape, h.output, by simpa using h.size, fun k hk hn => (heap_setCell_other w' a k v (fun e => hn (e ▸ ha))).trans (h.block k hk hn)⟩

theorem cell_of_heap {w w' : World} {b : Nat} (h : w'.heap[b]? = w.heap[b]?) (o : Nat) : w'.cell? ⟨b, o, none⟩ = w.cell? ⟨b, o, none⟩ := World.cell?_of_block (a := ⟨b, o, none⟩) h
theorem frozen_of_heap {w w' : World} {b : Nat} (h : w'.heap[b]? = w.heap[b]?) (o : Nat) : w'.frozen? ⟨b, o, none⟩ = w.frozen? ⟨b, o, none⟩ := World.frozen?_of_block (a := ⟨b, o, none⟩) h

/-- How a type's data lie: n cells; what they hold; the blocks behind them, in their order. -/
structure Lay (α : Type) where
  n : Nat
  lies : World → List Value → α → List Nat → Prop
  len : ∀ {w cs x bl}, lies w cs x bl → cs.length = n
  keep : ∀ {w w' cs x bl}, lies w cs x bl → (∀ b ∈ bl, w'.heap[b]? = w.heap[b]?) → lies w' cs x bl
  lt : ∀ {w cs x bl}, lies w cs x bl → ∀ b ∈ bl, b < w.heap.size
  /-- How long all its lists are together. -/
  sz : α → Nat
  /-- How many marks an element takes, and a value (whose own cells are copies). -/
  cnt : α → Nat
  vcnt : α → Nat
  /-- An element, a value, with the marks from k on. -/
  mkd : Int → α → α
  mkv : Int → α → α

/-- A list with marks from k on. -/
def mkAll {α : Type} (cnt : α → Nat) (mk : Int → α → α) : Int → List α → List α
  | _, [] => []
  | k, x :: xs => mk k x :: mkAll cnt mk (k + cnt x) xs
def cntAll {α : Type} (cnt : α → Nat) : List α → Nat
  | [] => 0
  | x :: xs => cnt x + cntAll cnt xs
/-- The text of a mark. -/
def digitsOf : Nat → Nat → List UInt8
  | 0, _ => []
  | f + 1, k => if k = 0 then [] else digitsOf f (k / 10) ++ [UInt8.ofNat (48 + k % 10)]
def markText (k : Int) : ByteArray := ⟨(109 :: (if k ≤ 0 then [48] else digitsOf 20 k.toNat)).toArray⟩

namespace Lay
variable {α β γ : Type}

def int : Lay Int where
  n := 1
  lies _ cs x bl := cs = [.int .i64 x] ∧ (Lit.int .i64 x).wf = true ∧ bl = []
  len := by rintro w cs x bl ⟨rfl, -, -⟩; rfl
  keep := fun h _ => h
  lt := by rintro w cs x bl ⟨-, -, rfl⟩ b hb; cases hb
  sz _ := 0
  cnt _ := 1
  vcnt _ := 0
  mkd k _ := k
  mkv _ x := x
def bool : Lay Bool where
  n := 1
  lies _ cs x bl := cs = [.bool x] ∧ bl = []
  len := by rintro w cs x bl ⟨rfl, -⟩; rfl
  keep := fun h _ => h
  lt := by rintro w cs x bl ⟨-, rfl⟩ b hb; cases hb
  sz _ := 0
  cnt _ := 1
  vcnt _ := 0
  mkd k _ := k.tmod 3 == 0
  mkv _ x := x
def str : Lay ByteArray where
  n := 1
  lies _ cs x bl := cs = [.string x] ∧ bl = []
  len := by rintro w cs x bl ⟨rfl, -⟩; rfl
  keep := fun h _ => h
  lt := by rintro w cs x bl ⟨-, rfl⟩ b hb; cases hb
  sz _ := 0
  cnt _ := 1
  vcnt _ := 0
  mkd k _ := markText k
  mkv _ x := x

def pair (A : Lay α) (B : Lay β) : Lay (α × β) where
  n := A.n + B.n
  lies w cs x bl := ∃ c1 c2 b1 b2, cs = c1 ++ c2 ∧ bl = b1 ++ b2 ∧ A.lies w c1 x.1 b1 ∧ B.lies w c2 x.2 b2
  len := by
    rintro w cs x bl ⟨c1, c2, b1, b2, rfl, rfl, h1, h2⟩
    rw [List.length_append, A.len h1, B.len h2]
  keep := by
    rintro w w' cs x bl ⟨c1, c2, b1, b2, rfl, rfl, h1, h2⟩ hk
    exact ⟨c1, c2, b1, b2, rfl, rfl, A.keep h1 fun b hb => hk b (List.mem_append_left _ hb), B.keep h2 fun b hb => hk b (List.mem_append_right _ hb)⟩
  lt := by
    rintro w cs x bl ⟨c1, c2, b1, b2, rfl, rfl, h1, h2⟩ b hb
    rcases List.mem_append.1 hb with h | h
    · exact A.lt h1 b h
    · exact B.lt h2 b h
  sz x := A.sz x.1 + B.sz x.2
  cnt x := A.cnt x.1 + B.cnt x.2
  vcnt x := A.vcnt x.1 + B.vcnt x.2
  mkd k x := (A.mkd k x.1, B.mkd (k + A.cnt x.1) x.2)
  mkv k x := (A.mkv k x.1, B.mkv (k + A.vcnt x.1) x.2)

/-- The rows of a slice: element j lies at off + j * n, its own blocks are bls' j-th. -/
def Rows (A : Lay α) (w : World) (b off : Nat) (xs : List α) (rows : List (List Value)) (bls : List (List Nat)) : Prop :=
  rows.length = xs.length ∧ bls.length = xs.length ∧ ∀ j (h1 : j < xs.length) (h2 : j < rows.length) (h3 : j < bls.length),
    (∀ m, m < A.n → w.cell? ⟨b, off + j * A.n + m, none⟩ = rows[j][m]?) ∧ A.lies w rows[j] xs[j] bls[j]

/-- A slice of data. -/
def sl (A : Lay α) : Lay (List α) where
  n := 1
  lies w cs xs bl := ∃ ao cap, cs = [.slice ao xs.length cap] ∧ (xs.length ≤ cap ∧ xs.length ≤ 9223372036854775807) ∧ ((xs = [] ∧ bl = []) ∨
    ∃ b off rows bls, ao = some ⟨b, off, none⟩ ∧ b < w.heap.size ∧ bl = b :: bls.flatten ∧ A.Rows w b off xs rows bls)
  len := by rintro w cs x bl ⟨ao, cap, rfl, -⟩; rfl
  keep := by
    rintro w w' cs xs bl ⟨ao, cap, rfl, hbig, h⟩ hk
    refine ⟨ao, cap, rfl, hbig, ?_⟩
    rcases h with h | ⟨b, off, rows, bls, rfl, hb, rfl, hr, hl, hj⟩
    · exact Or.inl h
    · have hbb := hk b (by simp)
      refine Or.inr ⟨b, off, rows, bls, rfl, ?_, rfl, hr, hl, fun j h1 h2 h3 => ⟨fun m hm => ?_, ?_⟩⟩
      · have : w.heap[b]? ≠ none := by simp; exact hb
        rw [← hbb] at this
        simpa using this
      · rw [cell_of_heap hbb]
        exact (hj j h1 h2 h3).1 m hm
      · refine A.keep (hj j h1 h2 h3).2 fun b' hb' => hk b' (List.mem_cons_of_mem _ (List.mem_flatten.2 ⟨bls[j], List.getElem_mem _, hb'⟩))
  lt := by
    rintro w cs xs bl ⟨ao, cap, rfl, -, h⟩ b hb
    rcases h with ⟨-, rfl⟩ | ⟨b0, off, rows, bls, rfl, hb0, rfl, hr, hl, hj⟩
    · cases hb
    · rcases List.mem_cons.1 hb with rfl | hb
      · exact hb0
      · obtain ⟨l, hl1, hl2⟩ := List.mem_flatten.1 hb
        obtain ⟨j, hjl, rfl⟩ := List.getElem_of_mem hl1
        exact A.lt (hj j (by omega) (by omega) hjl).2 b hl2
  sz xs := xs.length + cntAll A.sz xs
  cnt xs := cntAll A.cnt xs
  vcnt xs := cntAll A.cnt xs
  mkd k xs := mkAll A.cnt A.mkd k xs
  mkv k xs := mkAll A.cnt A.mkd k xs

/-- The same data under other names. -/
def via (A : Lay α) (f : β → α) (g : α → β) : Lay β where
  n := A.n
  lies w cs x bl := A.lies w cs (f x) bl
  len := A.len
  keep := A.keep
  lt := A.lt
  sz x := A.sz (f x)
  cnt x := A.cnt (f x)
  vcnt x := A.vcnt (f x)
  mkd k x := g (A.mkd k (f x))
  mkv k x := g (A.mkv k (f x))

/-- The data can be read. -/
def Reads (A : Lay α) (w : World) (cs : List Value) (x : α) : Prop := ∃ bl, A.lies w cs x bl
/-- .. and lie in the blocks from lo on, below hi. -/
def LiesIn (A : Lay α) (w : World) (cs : List Value) (x : α) (lo hi : Nat) : Prop := ∃ bl, A.lies w cs x bl ∧ ∀ b ∈ bl, lo ≤ b ∧ b < hi
/-- .. each list in a block of its own, which may be written. -/
def Own (A : Lay α) (w : World) (cs : List Value) (x : α) (bl : List Nat) : Prop :=
  A.lies w cs x bl ∧ bl.Nodup ∧ ∀ b ∈ bl, ∀ o, w.frozen? ⟨b, o, none⟩ = false
def OwnIn (A : Lay α) (w : World) (cs : List Value) (x : α) (lo hi : Nat) : Prop := ∃ bl, A.Own w cs x bl ∧ ∀ b ∈ bl, lo ≤ b ∧ b < hi

variable {A : Lay α} {B : Lay β} {w w' : World} {cs : List Value} {x : α} {lo hi : Nat}

theorem Reads.later (h : A.Reads w cs x) (hb : Below w.heap.size w w') : A.Reads w' cs x := by
  obtain ⟨bl, h⟩ := h
  exact ⟨bl, A.keep h fun b hbl => hb.block b (A.lt h b hbl)⟩
theorem LiesIn.reads (h : A.LiesIn w cs x lo hi) : A.Reads w cs x := by obtain ⟨bl, h, -⟩ := h; exact ⟨bl, h⟩
theorem OwnIn.lies (h : A.OwnIn w cs x lo hi) : A.LiesIn w cs x lo hi := by obtain ⟨bl, ⟨h, -, -⟩, hl⟩ := h; exact ⟨bl, h, hl⟩
theorem OwnIn.reads (h : A.OwnIn w cs x lo hi) : A.Reads w cs x := h.lies.reads
theorem Reads.liesIn (h : A.Reads w cs x) : A.LiesIn w cs x 0 w.heap.size := by
  obtain ⟨bl, h⟩ := h
  exact ⟨bl, h, fun b hb => ⟨Nat.zero_le _, A.lt h b hb⟩⟩
theorem LiesIn.mono {lo' hi' : Nat} (h : A.LiesIn w cs x lo hi) (h1 : lo' ≤ lo) (h2 : hi ≤ hi') : A.LiesIn w cs x lo' hi' := by
  obtain ⟨bl, h, hl⟩ := h
  exact ⟨bl, h, fun b hb => ⟨by have := hl b hb; omega, by have := hl b hb; omega⟩⟩
theorem OwnIn.mono {lo' hi' : Nat} (h : A.OwnIn w cs x lo hi) (h1 : lo' ≤ lo) (h2 : hi ≤ hi') : A.OwnIn w cs x lo' hi' := by
  obtain ⟨bl, h, hl⟩ := h
  exact ⟨bl, h, fun b hb => ⟨by have := hl b hb; omega, by have := hl b hb; omega⟩⟩
theorem LiesIn.ext {S : Nat → Prop} (h : A.LiesIn w cs x lo hi) (e : Ext S w w') (hs : ∀ k, lo ≤ k → k < hi → ¬ S k) : A.LiesIn w' cs x lo hi := by
  obtain ⟨bl, h, hl⟩ := h
  exact ⟨bl, A.keep h fun b hb => e.block b (A.lt h b hb) (hs b (hl b hb).1 (hl b hb).2), hl⟩
theorem OwnIn.ext {S : Nat → Prop} (h : A.OwnIn w cs x lo hi) (e : Ext S w w') (hs : ∀ k, lo ≤ k → k < hi → ¬ S k) : A.OwnIn w' cs x lo hi := by
  obtain ⟨bl, ⟨h, hn, hf⟩, hl⟩ := h
  have hk : ∀ b ∈ bl, w'.heap[b]? = w.heap[b]? := fun b hb => e.block b (A.lt h b hb) (hs b (hl b hb).1 (hl b hb).2)
  exact ⟨bl, ⟨A.keep h hk, hn, fun b hb o => (frozen_of_heap (hk b hb) o).trans (hf b hb o)⟩, hl⟩
theorem LiesIn.later (h : A.LiesIn w cs x lo hi) (hb : Below w.heap.size w w') : A.LiesIn w' cs x lo hi := h.ext (ext_of_below hb nowhere) fun _ _ _ h => h
theorem OwnIn.later (h : A.OwnIn w cs x lo hi) (hb : Below w.heap.size w w') : A.OwnIn w' cs x lo hi := h.ext (ext_of_below hb nowhere) fun _ _ _ h => h
theorem Reads.drew (h : A.Reads w cs x) (n : Nat) : A.Reads (w.drewN n) cs x := h.later (below_drawn (Below.refl _ _) n)
theorem Reads.len (h : A.Reads w cs x) : cs.length = A.n := by obtain ⟨bl, h⟩ := h; exact A.len h

/-! ### Numbers -/
theorem lies_int {z : Int} {bl : List Nat} : (Lay.int).lies w cs z bl ↔ cs = [.int .i64 z] ∧ (Lit.int .i64 z).wf = true ∧ bl = [] := Iff.rfl

theorem ints_reads {v : Value} {zs : List Int} (h : (sl int).Reads w [v] zs) : IsInts w v zs := by
  obtain ⟨bl, ao, cap, hv, -, h⟩ := h
  obtain rfl : v = .slice ao zs.length cap := by simpa using hv
  rcases h with ⟨rfl, rfl⟩ | ⟨b, off, rows, bls, rfl, hb, rfl, hr, hl, hj⟩
  · exact ⟨ao, cap, rfl, by simp, by simp⟩
  · refine ⟨_, cap, rfl, fun z hz => ?_, fun _ => ⟨b, off, rfl, fun j hj1 => ?_⟩⟩
    · obtain ⟨j, hjl, rfl⟩ := List.getElem_of_mem hz
      exact (hj j hjl (by omega) (by omega)).2.2.1
    · obtain ⟨h1, h2, -, -⟩ := hj j hj1 (by omega) (by omega)
      have := h1 0 (by decide)
      rw [h2] at this
      simpa [List.getD, hj1, Lay.int] using this
/-- Numbers in plain words: the block, and each cell. -/
theorem lies_ints {v : Value} {zs : List Int} {bl : List Nat} : (sl int).lies w [v] zs bl ↔ ∃ ao cap, v = .slice ao zs.length cap ∧ (zs.length ≤ cap ∧ zs.length ≤ 9223372036854775807) ∧ (∀ z ∈ zs, (Lit.int .i64 z).wf = true) ∧
    ((zs = [] ∧ bl = []) ∨ ∃ b off, ao = some ⟨b, off, none⟩ ∧ b < w.heap.size ∧ bl = [b] ∧ ∀ j, j < zs.length → w.cell? ⟨b, off + j, none⟩ = some (.int .i64 (zs.getD j 0))) := by
  constructor
  · rintro ⟨ao, cap, hv, hbig, h⟩
    obtain rfl : v = .slice ao zs.length cap := by simpa using hv
    rcases h with ⟨rfl, rfl⟩ | ⟨b, off, rows, bls, rfl, hb, rfl, hr, hl, hj⟩
    · exact ⟨ao, cap, rfl, hbig, by simp, Or.inl ⟨rfl, rfl⟩⟩
    · refine ⟨_, cap, rfl, hbig, fun z hz => ?_, Or.inr ⟨b, off, rfl, hb, ?_, fun j hj1 => ?_⟩⟩
      · obtain ⟨j, hjl, rfl⟩ := List.getElem_of_mem hz
        exact (hj j hjl (by omega) (by omega)).2.2.1
      · have e2 : bls.flatten = [] := by
          rw [List.flatten_eq_nil_iff]
          intro l hl
          obtain ⟨j, hjl, rfl⟩ := List.getElem_of_mem hl
          exact (hj j (by omega) (by omega) hjl).2.2.2
        rw [e2]
      · obtain ⟨h1, h2, -, -⟩ := hj j hj1 (by omega) (by omega)
        have := h1 0 (by decide)
        rw [h2] at this
        simpa [List.getD, hj1, Lay.int] using this
  · rintro ⟨ao, cap, rfl, hbig, hwf, h⟩
    refine ⟨ao, cap, rfl, hbig, ?_⟩
    rcases h with ⟨rfl, rfl⟩ | ⟨b, off, rfl, hb, rfl, hc⟩
    · exact Or.inl ⟨rfl, rfl⟩
    · refine Or.inr ⟨b, off, zs.map (fun z => [.int .i64 z]), List.replicate zs.length [], rfl, hb, by simp, by simp, by simp, fun j h1 h2 h3 => ⟨fun m hm => ?_, ?_⟩⟩
      · obtain rfl : m = 0 := by simp only [Lay.int] at hm; omega
        have := hc j h1
        simpa [List.getD, h1, Lay.int] using this
      · exact ⟨by simp, hwf _ (List.getElem_mem _), by simp⟩
theorem reads_ints {v : Value} {zs : List Int} (h : IsInts w v zs) (hcap : ∀ ao cap, v = .slice ao zs.length cap → zs.length ≤ cap) (hbig : zs.length ≤ 9223372036854775807) : (sl int).Reads w [v] zs := by
  obtain ⟨ao, cap, rfl, hwf, hc⟩ := h
  have hcp := hcap _ _ rfl
  by_cases hp : 0 < zs.length
  · obtain ⟨b, off, rfl, hc1⟩ := hc hp
    exact ⟨[b], lies_ints.2 ⟨_, cap, rfl, ⟨hcp, hbig⟩, hwf, Or.inr ⟨b, off, rfl, World.block_lt_of_cell? _ _ (hc1 0 hp), rfl, hc1⟩⟩⟩
  · obtain rfl : zs = [] := List.eq_nil_of_length_eq_zero (by omega)
    exact ⟨[], lies_ints.2 ⟨ao, cap, rfl, ⟨hcp, hbig⟩, by simp, Or.inl ⟨rfl, rfl⟩⟩⟩
theorem Reads.cap {A : Lay α} {ao : Option Addr} {n cap : Nat} {xs : List α} (h : (sl A).Reads w [.slice ao n cap] xs) : n = xs.length ∧ n ≤ cap := by
  obtain ⟨bl, ao', cap', e, hb, -⟩ := h
  simp only [List.cons.injEq, Value.slice.injEq, and_true] at e
  obtain ⟨-, rfl, rfl⟩ := e
  exact ⟨rfl, hb.1⟩
theorem Reads.big {A : Lay α} {v : Value} {xs : List α} (h : (sl A).Reads w [v] xs) : xs.length ≤ 9223372036854775807 := by
  obtain ⟨bl, ao, cap, -, hb, -⟩ := h
  exact hb.2

/-- A row of numbers of the call's own, as data. -/
theorem ownInts {v : Value} {zs : List Int} {base T : Nat} (hwf : ∀ z ∈ zs, (Lit.int .i64 z).wf = true) (hbig : zs.length ≤ 9223372036854775807) (h : w.ownsRow base T 1 v zs.length (zs.map (Value.int .i64))) : (sl int).OwnIn w [v] zs base w.heap.size := by
  have hi := isInts_row hwf h
  rcases h.2 with ⟨rfl, h0⟩ | ⟨g, cap, cur, rfl, hg, hh, hcap, _⟩
  · obtain rfl : zs = [] := List.eq_nil_of_length_eq_zero h0
    exact ⟨[], ⟨lies_ints.2 ⟨none, 0, rfl, ⟨by simp, hbig⟩, by simp, Or.inl ⟨rfl, rfl⟩⟩, by simp, by simp⟩, by simp⟩
  · by_cases hp : 0 < zs.length
    · obtain ⟨ao, cp, hv, hwf, hc⟩ := hi
      obtain ⟨b, off, rfl, hc1⟩ := hc hp
      simp only [Value.slice.injEq, Option.some.injEq, Addr.mk.injEq, and_true, true_and] at hv
      obtain ⟨⟨rfl, rfl⟩, rfl⟩ := hv
      refine ⟨[g], ⟨lies_ints.2 ⟨_, cap, rfl, ⟨hcap, hbig⟩, hwf, Or.inr ⟨g, 0, rfl, lt_of_block hh, rfl, hc1⟩⟩, by simp, ?_⟩, ?_⟩
      · intro b hb o
        obtain rfl : b = g := by simpa using hb
        simp [World.frozen?, hh]
      · intro b hb
        obtain rfl : b = g := by simpa using hb
        exact ⟨hg, lt_of_block hh⟩
    · obtain rfl : zs = [] := List.eq_nil_of_length_eq_zero (by omega)
      exact ⟨[], ⟨lies_ints.2 ⟨_, _, rfl, ⟨hcap, hbig⟩, by simp, Or.inl ⟨rfl, rfl⟩⟩, by simp, by simp⟩, by simp⟩

/-! ### Blocks of the call's own, and data in others -/
theorem Own.ext {S : Nat → Prop} {bl : List Nat} (h : A.Own w cs x bl) (e : Ext S w w') (hs : ∀ b ∈ bl, ¬ S b) : A.Own w' cs x bl := by
  obtain ⟨h, hn, hf⟩ := h
  have hk : ∀ b ∈ bl, w'.heap[b]? = w.heap[b]? := fun b hb => e.block b (A.lt h b hb) (hs b hb)
  exact ⟨A.keep h hk, hn, fun b hb o => (frozen_of_heap (hk b hb) o).trans (hf b hb o)⟩
theorem Own.later {bl : List Nat} (h : A.Own w cs x bl) (hb : Below w.heap.size w w') : A.Own w' cs x bl := h.ext (ext_of_below hb nowhere) fun _ _ h => h
theorem Own.reads {bl : List Nat} (h : A.Own w cs x bl) : A.Reads w cs x := ⟨bl, h.1⟩
theorem Own.lt {bl : List Nat} (h : A.Own w cs x bl) : ∀ b ∈ bl, b < w.heap.size := A.lt h.1
theorem LiesIn.below {B : Nat} (h : A.LiesIn w cs x lo hi) (hb : Below B w w') (hh : hi ≤ B) : A.LiesIn w' cs x lo hi := h.ext (extB_of_below hb) fun k _ h2 h3 => by omega
theorem OwnIn.below {B : Nat} (h : A.OwnIn w cs x lo hi) (hb : Below B w w') (hh : hi ≤ B) : A.OwnIn w' cs x lo hi := h.ext (extB_of_below hb) fun k _ h2 h3 => by omega

end Lay

theorem Box.at {lo : Nat} {cs : Array Value} {T : TypeId} {W : World} {s : Nat} (h : Box lo cs T W s) (i : Nat) (v : Value) (hi : cs[i]? = some v) : W.cell? ⟨s, i, none⟩ = some v := by
  simp [World.cell?, h.2, hi]
theorem Box.soft {lo : Nat} {cs : Array Value} {T : TypeId} {W : World} {s : Nat} (h : Box lo cs T W s) : ∀ o, W.frozen? ⟨s, o, none⟩ = false := fun o => by simp [World.frozen?, h.2]
theorem Box.ext {S : Nat → Prop} {lo : Nat} {cs : Array Value} {T : TypeId} {W w' : World} {s : Nat} (h : Box lo cs T W s) (e : Ext S W w') (hs : ¬ S s) : Box lo cs T w' s := ⟨h.1, (e.block s h.lt hs).trans h.2⟩
theorem Box.grow {lo : Nat} {cs : Array Value} {T : TypeId} {W : World} {s : Nat} (h : Box lo cs T W s) (o : Obj) : Box lo cs T (W.alloc o) s := h.keep ((Below.refl _ _).alloc (Nat.le_refl _) o)
theorem newBoxAt {lo s : Nat} {cs : Array Value} {T : TypeId} {W : World} (h : lo ≤ s) (hs : W.heap.size = s) : Box lo cs T (W.alloc (.cells cs T)) s := by subst hs; exact newBox h
theorem Box.set {lo : Nat} {cs : Array Value} {T : TypeId} {W : World} {s : Nat} (h : Box lo cs T W s) (i : Nat) (v : Value) : Box lo (cs.setIfInBounds i v) T (W.setCell ⟨s, i, none⟩ v) s := by
  refine ⟨h.1, ?_⟩
  simp [World.setCell, Array.getElem?_modify, h.2]
theorem Box.other {lo : Nat} {cs : Array Value} {T : TypeId} {W : World} {s : Nat} (h : Box lo cs T W s) (a : Addr) (v : Value) (ha : s ≠ a.block) : Box lo cs T (W.setCell a v) s := ⟨h.1, (heap_setCell_other W a s v ha).trans h.2⟩
/-- A struct's cells, stored one behind the other. -/
def setAll (W : World) (s : Nat) : Nat → List Value → World
  | _, [] => W
  | i, v :: vs => setAll (W.setCell ⟨s, i, none⟩ v) s (i + 1) vs
theorem ext_setAll (S : Nat → Prop) {a W : World} (h : Ext S a W) (s i : Nat) (vs : List Value) (hs : S s) : Ext S a (setAll W s i vs) := by
  induction vs generalizing W i with
  | nil => exact h
  | cons v vs ih => exact ih (h.setCell ⟨s, i, none⟩ v hs) (i + 1)
theorem below_setAll {B : Nat} {a W : World} (h : Below B a W) (s i : Nat) (vs : List Value) (hs : B ≤ s) : Below B a (setAll W s i vs) := by
  induction vs generalizing W i with
  | nil => exact h
  | cons v vs ih => exact ih (h.setCell (by simpa using hs) v) (i + 1)
theorem size_setAll (W : World) (s i : Nat) (vs : List Value) : (setAll W s i vs).heap.size = W.heap.size := by
  induction vs generalizing W i with
  | nil => rfl
  | cons v vs ih => rw [setAll, ih]; simp
/-- Some cells of a block, stored one behind the other. -/
def setL (W : World) (s : Nat) : List (Nat × Value) → World
  | [] => W
  | p :: ps => setL (W.setCell ⟨s, p.1, none⟩ p.2) s ps
theorem ext_setL {S : Nat → Prop} {a W : World} (h : Ext S a W) (s : Nat) (ps : List (Nat × Value)) (hs : S s) : Ext S a (setL W s ps) := by
  induction ps generalizing W with
  | nil => exact h
  | cons p ps ih => exact ih (h.setCell ⟨s, p.1, none⟩ p.2 hs)
end Go.Proofs.Ytkmfkaljdngigaa

namespace Go.Proofs.Ytkmfkaljdngigaa
open Go.RowKit

theorem open_sl {α : Type} {A : Lay α} {w : World} {v : Value} {xs : List α} (h : (Lay.sl A).Reads w [v] xs) : ∃ ao cap, v = .slice ao xs.length cap := by
  obtain ⟨bl, ao, cap, e, -⟩ := h
  exact ⟨ao, cap, by simpa using e⟩

/-- An element takes at most K marks, and K more for each that its lists hold. -/
def Few {α : Type} (A : Lay α) (K : Nat) : Prop := ∀ x, A.cnt x ≤ K * (1 + A.sz x) ∧ A.vcnt x ≤ K * (1 + A.sz x)
theorem few_int : Few Lay.int 1 := fun _ => by simp [Lay.int]
theorem few_bool : Few Lay.bool 1 := fun _ => by simp [Lay.bool]
theorem few_str : Few Lay.str 1 := fun _ => by simp [Lay.str]
theorem few_pair {α β : Type} {A : Lay α} {B : Lay β} {K L : Nat} (h : Few A K) (k : Few B L) : Few (Lay.pair A B) (K + L) := by
  intro x
  have h1 := h x.1
  have h2 := k x.2
  have e1 : K * (1 + A.sz x.1) ≤ K * (1 + (A.sz x.1 + B.sz x.2)) := Nat.mul_le_mul_left _ (by omega)
  have e2 : L * (1 + B.sz x.2) ≤ L * (1 + (A.sz x.1 + B.sz x.2)) := Nat.mul_le_mul_left _ (by omega)
  constructor
  · show A.cnt x.1 + B.cnt x.2 ≤ (K + L) * (1 + (A.sz x.1 + B.sz x.2))
    rw [Nat.add_mul]
    omega
  · show A.vcnt x.1 + B.vcnt x.2 ≤ (K + L) * (1 + (A.sz x.1 + B.sz x.2))
    rw [Nat.add_mul]
    omega
theorem few_sl {α : Type} {A : Lay α} {K : Nat} (h : Few A K) : Few (Lay.sl A) K := by
  intro xs
  have e : cntAll A.cnt xs ≤ K * (xs.length + cntAll A.sz xs) := by
    induction xs with
    | nil => simp [cntAll]
    | cons x xs ih =>
      have hx := (h x).1
      simp only [cntAll, List.length_cons]
      have : K * (xs.length + 1 + (A.sz x + cntAll A.sz xs)) = K * (1 + A.sz x) + K * (xs.length + cntAll A.sz xs) := by rw [← Nat.mul_add]; congr 1; omega
      omega
  have e2 : K * (xs.length + cntAll A.sz xs) ≤ K * (1 + (xs.length + cntAll A.sz xs)) := Nat.mul_le_mul_left _ (by omega)
  exact ⟨Nat.le_trans e e2, Nat.le_trans e e2⟩
theorem few_via {α β : Type} {A : Lay α} {f : β → α} {g : α → β} {K : Nat} (h : Few A K) : Few (Lay.via A f g) K := fun x => h (f x)
theorem few_bound {α : Type} {A : Lay α} {K : Nat} (h : Few A K) {x : α} (hs : A.sz x ≤ 1048576) (hK : K ≤ 60) : A.vcnt x ≤ 100000000 := by
  have := (h x).2
  have : K * (1 + A.sz x) ≤ 60 * (1 + A.sz x) := Nat.mul_le_mul_right _ hK
  omega

theorem bool_ne (b : Bool) : (b != b) = false := by cases b <;> rfl
theorem within_out {lo hi lo' hi' : Nat} (h : hi ≤ lo' ∨ hi' ≤ lo) : ∀ k, lo ≤ k → k < hi → ¬ within lo' hi' k := fun k h1 h2 h3 => by simp only [within] at h3; omega
end Go.Proofs.Ytkmfkaljdngigaa

namespace Go.Proofs.Ytkmfkaljdngigaa
open Go.RowKit

/-- What szT tells: what is left, or -1. -/
def szR (l n : Nat) : Int := if n ≤ l then ((l - n : Nat) : Int) else -1
theorem szR_ok {l n : Nat} (h : n ≤ l) : szR l n = ((l - n : Nat) : Int) := if_pos h
theorem szR_many {l n : Nat} (h : l < n) : szR l n = -1 := if_neg (by omega)

/-! ### The parts of a struct, each in blocks of its own -/
namespace Lay
variable {α β : Type} {A : Lay α} {B : Lay β} {w w' : World}
theorem ownIn_int {z : Int} {lo hi : Nat} (h : (Lit.int .i64 z).wf = true) : Lay.int.OwnIn w [.int .i64 z] z lo hi := ⟨[], ⟨⟨rfl, h, rfl⟩, by simp, by simp⟩, by simp⟩
theorem ownIn_bool {b : Bool} {lo hi : Nat} : Lay.bool.OwnIn w [.bool b] b lo hi := ⟨[], ⟨⟨rfl, rfl⟩, by simp, by simp⟩, by simp⟩
theorem ownIn_str {s : ByteArray} {lo hi : Nat} : Lay.str.OwnIn w [.string s] s lo hi := ⟨[], ⟨⟨rfl, rfl⟩, by simp, by simp⟩, by simp⟩
theorem ownIn_pair {c1 c2 : List Value} {x : α} {y : β} {lo m m' hi : Nat} (h : A.OwnIn w c1 x lo m) (k : B.OwnIn w c2 y m' hi) (hm : m ≤ m') (hlo : lo ≤ m') (hhi : m ≤ hi) : (Lay.pair A B).OwnIn w (c1 ++ c2) (x, y) lo hi := by
  obtain ⟨b1, ⟨l1, n1, f1⟩, i1⟩ := h
  obtain ⟨b2, ⟨l2, n2, f2⟩, i2⟩ := k
  refine ⟨b1 ++ b2, ⟨⟨c1, c2, b1, b2, rfl, rfl, l1, l2⟩, ?_, ?_⟩, ?_⟩
  · rw [List.nodup_append]
    exact ⟨n1, n2, fun a ha b hb e => by have := i1 a ha; have := i2 b hb; omega⟩
  · intro b hb
    rcases List.mem_append.1 hb with h | h
    · exact f1 b h
    · exact f2 b h
  · intro b hb
    rcases List.mem_append.1 hb with h | h
    · have := i1 b h; omega
    · have := i2 b h; omega
theorem ownIn_via {f : β → α} {g : α → β} {cs : List Value} {x : β} {lo hi : Nat} (h : A.OwnIn w cs (f x) lo hi) : (Lay.via A f g).OwnIn w cs x lo hi := h

/-- An answer of one's own. -/
theorem toldOwn {w : World} {cs : List Value} {x : α} {lo hi : Nat} (own : A.OwnIn w' cs x lo hi) (hlo : w.heap.size ≤ lo) (hhi : hi ≤ w'.heap.size) (hb : Below w.heap.size w w') :
    ∃ cs', Ending.returned (.agg cs.toArray) = .returned (.agg cs'.toArray) ∧ A.OwnIn w' cs' x w.heap.size w'.heap.size ∧ Below w.heap.size w w' := ⟨cs, rfl, own.mono hlo hhi, hb⟩

/-- The rows' own data. -/
def Subs (A : Lay α) (w : World) (rows : List (List Value)) (xs : List α) (lo hi : Nat) : Prop :=
  ∃ bls : List (List Nat), rows.length = xs.length ∧ bls.length = xs.length ∧ (∀ j (h1 : j < xs.length) (h2 : j < rows.length) (h3 : j < bls.length), A.lies w rows[j] xs[j] bls[j]) ∧
    bls.flatten.Nodup ∧ (∀ b ∈ bls.flatten, lo ≤ b ∧ b < hi) ∧ ∀ b ∈ bls.flatten, ∀ o, w.frozen? ⟨b, o, none⟩ = false
theorem subs_nil {lo hi : Nat} : Subs A w [] [] lo hi := ⟨[], rfl, rfl, fun j h => by simp at h, by simp, by simp, by simp⟩
theorem subs_snoc {rows : List (List Value)} {xs : List α} {row : List Value} {x : α} {lo hi lo' hi' : Nat} (h : Subs A w rows xs lo hi) (k : A.OwnIn w row x lo' hi') (h1 : hi ≤ lo') (h2 : lo ≤ lo') (h3 : hi ≤ hi') : Subs A w (rows ++ [row]) (xs ++ [x]) lo hi' := by
  obtain ⟨bls, hr, hb, hl, hn, hi, hf⟩ := h
  obtain ⟨bl, ⟨l, n, f⟩, i⟩ := k
  refine ⟨bls ++ [bl], by simp [hr], by simp [hb], fun j j1 j2 j3 => ?_, ?_, ?_, ?_⟩
  · by_cases hj : j < xs.length
    · have e := hl j hj (by omega) (by omega)
      rw [List.getElem_append_left (by omega), List.getElem_append_left hj, List.getElem_append_left (by omega)]
      exact e
    · obtain rfl : j = xs.length := by simp at j1; omega
      rw [List.getElem_append_right (by omega), List.getElem_append_right (by omega), List.getElem_append_right (by omega)]
      simpa using l
  · rw [List.flatten_append, List.nodup_append]
    refine ⟨hn, by simpa using n, fun a ha b hb e => ?_⟩
    have := hi a ha
    have := i b (by simpa using hb)
    omega
  · intro b hb
    rw [List.flatten_append] at hb
    rcases List.mem_append.1 hb with h | h
    · have := hi b h; omega
    · have := i b (by simpa using h); omega
  · intro b hb
    rw [List.flatten_append] at hb
    rcases List.mem_append.1 hb with h | h
    · exact hf b h
    · exact f b (by simpa using h)
theorem subs_ext {rows : List (List Value)} {xs : List α} {lo hi : Nat} {S : Nat → Prop} (h : Subs A w rows xs lo hi) (e : Ext S w w') (hs : ∀ k, lo ≤ k → k < hi → ¬ S k) : Subs A w' rows xs lo hi := by
  obtain ⟨bls, hr, hb, hl, hn, hi, hf⟩ := h
  have hlt : ∀ b ∈ bls.flatten, b < w.heap.size := by
    intro b hm
    obtain ⟨l, h1, h2⟩ := List.mem_flatten.1 hm
    obtain ⟨j, hj, rfl⟩ := List.getElem_of_mem h1
    exact A.lt (hl j (by omega) (by omega) hj) b h2
  have hk : ∀ b ∈ bls.flatten, w'.heap[b]? = w.heap[b]? := fun b hm => e.block b (hlt b hm) (hs b (hi b hm).1 (hi b hm).2)
  exact ⟨bls, hr, hb, fun j h1 h2 h3 => A.keep (hl j h1 h2 h3) fun b hm => hk b (List.mem_flatten.2 ⟨_, List.getElem_mem _, hm⟩), hn, hi, fun b hm o => (frozen_of_heap (hk b hm) o).trans (hf b hm o)⟩
theorem subs_len {rows : List (List Value)} {xs : List α} {lo hi : Nat} (h : Subs A w rows xs lo hi) : rows.flatten.length = xs.length * A.n ∧ rows.length = xs.length := by
  obtain ⟨bls, hr, hb, hl, -⟩ := h
  refine ⟨?_, hr⟩
  rw [← hr]
  have : ∀ r ∈ rows, r.length = A.n := by
    intro r hm
    obtain ⟨j, hj, rfl⟩ := List.getElem_of_mem hm
    exact A.len (hl j (by omega) hj (by omega))
  clear hr hb hl
  induction rows with
  | nil => simp
  | cons r rows ih =>
    rw [List.flatten_cons, List.length_append, this r (by simp), ih fun q hq => this q (List.mem_cons_of_mem _ hq), List.length_cons, Nat.add_mul]
    omega

theorem flat_at {rows : List (List Value)} {n : Nat} (h : ∀ r ∈ rows, r.length = n) (j m : Nat) (hj : j < rows.length) (hm : m < n) : rows.flatten[j * n + m]? = rows[j][m]? := by
  induction rows generalizing j with
  | nil => simp at hj
  | cons r rows ih =>
    have hr := h r (by simp)
    rw [List.flatten_cons]
    match j with
    | 0 =>
      rw [List.getElem?_append_left (by omega)]
      simp
    | j + 1 =>
      rw [List.getElem?_append_right (by rw [hr, Nat.add_mul]; omega), hr, show (j + 1) * n + m - n = j * n + m by rw [Nat.add_mul]; omega]
      rw [ih (fun q hq => h q (List.mem_cons_of_mem _ hq)) j (by simpa using hj)]
      simp

/-- The row is full: it is data of the call's own. -/
theorem subs_done {rows : List (List Value)} {xs : List α} {base T g cap lo hi : Nat} (hown : w.ownsRow base T A.n (.slice (some ⟨g, 0, none⟩) xs.length cap) xs.length rows.flatten) (h : Subs A w rows xs lo hi) (hg : g < lo) (hhi : hi ≤ w.heap.size) (hn : xs.length ≤ 9223372036854775807) :
    (sl A).OwnIn w [.slice (some ⟨g, 0, none⟩) xs.length cap] xs base w.heap.size := by
  obtain ⟨bls, hr, hb, hl, hnd, hi', hf⟩ := h
  have hlg := hown.lt g rfl
  have hle : ∀ r ∈ rows, r.length = A.n := by
    intro r hm
    obtain ⟨j, hj, rfl⟩ := List.getElem_of_mem hm
    exact A.len (hl j (by omega) hj (by omega))
  have hcap : xs.length ≤ cap := by
    rcases hown.2 with ⟨e, -⟩ | ⟨g', cap', cur, e, -, -, hc, -⟩
    · simp at e
    · simp only [Value.slice.injEq] at e
      obtain ⟨-, -, rfl⟩ := e
      exact hc
  by_cases h0 : xs = []
  · subst h0
    exact ⟨[], ⟨⟨_, _, rfl, ⟨hcap, hn⟩, Or.inl ⟨rfl, rfl⟩⟩, by simp, by simp⟩, by simp⟩
  · refine ⟨g :: bls.flatten, ⟨⟨_, _, rfl, ⟨hcap, hn⟩, Or.inr ⟨g, 0, rows, bls, rfl, hlg.2, rfl, hr, hb, fun j h1 h2 h3 => ⟨fun m hm => ?_, hl j h1 h2 h3⟩⟩⟩, ?_, ?_⟩, ?_⟩
    · rw [Nat.zero_add, hown.cellAt (j * A.n + m) (by
        have : (j + 1) * A.n ≤ xs.length * A.n := Nat.mul_le_mul_right _ (by omega)
        rw [Nat.add_mul] at this
        omega)]
      exact flat_at hle j m h2 hm
    · rw [List.nodup_cons]
      exact ⟨fun hm => by have := hi' g hm; omega, hnd⟩
    · intro b hm o
      rcases List.mem_cons.1 hm with rfl | hm
      · exact hown.frozenAt o
      · exact hf b hm o
    · intro b hm
      rcases List.mem_cons.1 hm with rfl | hm
      · exact hlg
      · have := hi' b hm; omega

/-- Element k of a slice, cell by cell. -/
theorem row_at {xs : List α} {b off cap k : Nat} (h : (sl A).Reads w [.slice (some ⟨b, off, none⟩) xs.length cap] xs) (hk : k < xs.length) : ∃ row, (∀ m, m < A.n → w.cell? ⟨b, off + k * A.n + m, none⟩ = row[m]?) ∧ A.Reads w row xs[k] := by
  obtain ⟨bl, ao, cp, e, -, h⟩ := h
  simp only [List.cons.injEq, Value.slice.injEq, and_true] at e
  obtain ⟨rfl, -, rfl⟩ := e
  rcases h with ⟨rfl, -⟩ | ⟨b', off', rows, bls, e2, hb, rfl, hr, hl, hj⟩
  · simp at hk
  · simp only [Option.some.injEq, Addr.mk.injEq, and_true] at e2
    obtain ⟨rfl, rfl⟩ := e2
    exact ⟨_, (hj k hk (by omega) (by omega)).1, ⟨_, (hj k hk (by omega) (by omega)).2⟩⟩
theorem sl_addr {xs : List α} {ao : Option Addr} {n cap : Nat} (h : (sl A).Reads w [.slice ao n cap] xs) (hp : 0 < xs.length) : ∃ b off, ao = some ⟨b, off, none⟩ ∧ b < w.heap.size := by
  obtain ⟨bl, ao', cp, e, -, h⟩ := h
  simp only [List.cons.injEq, Value.slice.injEq, and_true] at e
  obtain ⟨rfl, -, rfl⟩ := e
  rcases h with ⟨rfl, -⟩ | ⟨b', off', rows, bls, e2, hb, rfl, hr, hl, hj⟩
  · simp at hp
  · exact ⟨b', off', e2, hb⟩
theorem sz_elem {xs : List α} {k : Nat} (hk : k < xs.length) : A.sz xs[k] ≤ (sl A).sz xs := by
  show A.sz xs[k] ≤ xs.length + cntAll A.sz xs
  have : A.sz xs[k] ≤ cntAll A.sz xs := by
    induction xs generalizing k with
    | nil => simp at hk
    | cons x xs ih =>
      match k with
      | 0 => simp [cntAll]
      | k + 1 =>
        have := ih (k := k) (by simpa using hk)
        simp only [cntAll, List.getElem_cons_succ]
        omega
  omega
theorem sz_len {xs : List α} : xs.length ≤ (sl A).sz xs := Nat.le_add_right _ _
theorem cntAll_take {f : α → Nat} {xs : List α} {k : Nat} (hk : k < xs.length) : cntAll f (xs.take (k + 1)) = cntAll f (xs.take k) + f xs[k] := by
  induction xs generalizing k with
  | nil => simp at hk
  | cons x xs ih =>
    match k with
    | 0 => simp [cntAll]
    | k + 1 =>
      have := ih (k := k) (by simpa using hk)
      simp only [List.take_succ_cons, cntAll, List.getElem_cons_succ]
      omega
theorem cntAll_take_le {f : α → Nat} {xs : List α} {k : Nat} : cntAll f (xs.take k) ≤ cntAll f xs := by
  induction xs generalizing k with
  | nil => simp
  | cons x xs ih =>
    match k with
    | 0 => simp [cntAll]
    | k + 1 =>
      have := ih (k := k)
      simp only [List.take_succ_cons, cntAll]
      omega
end Lay

/-! ### Cells that are stored one behind the other into a row -/
def setFrom (xs : List Value) : Nat → List Value → List Value
  | _, [] => xs
  | i, v :: vs => setFrom (xs.set i v) (i + 1) vs
theorem setFrom_app (P Q vs : List Value) (h : vs.length ≤ Q.length) : setFrom (P ++ Q) P.length vs = P ++ vs ++ Q.drop vs.length := by
  induction vs generalizing P Q with
  | nil => simp [setFrom]
  | cons v vs ih =>
    match Q, h with
    | q :: Q, h =>
      rw [setFrom, List.set_append_right _ _ (Nat.le_refl _), Nat.sub_self, List.set_cons_zero]
      have := ih (P ++ [v]) Q (by simpa using h)
      simp only [List.length_append, List.length_cons, List.length_nil, Nat.zero_add] at this
      rw [show P ++ v :: Q = P ++ [v] ++ Q by simp, this]
      simp
theorem own_setAll {w : World} {base e size g n cap : Nat} {xs : List Value} (h : w.ownsRow base e size (.slice (some ⟨g, 0, none⟩) n cap) n xs) (i : Nat) (vs : List Value) : (setAll w g i vs).ownsRow base e size (.slice (some ⟨g, 0, none⟩) n cap) n (setFrom xs i vs) := by
  induction vs generalizing w i xs with
  | nil => exact h
  | cons v vs ih => exact ih (h.stored i v).1 (i + 1)
end Go.Proofs.Ytkmfkaljdngigaa

namespace Go.Proofs.Ytkmfkaljdngigaa
open Go.RowKit

theorem nodup_flat {bls : List (List Nat)} (h : bls.flatten.Nodup) : (∀ l ∈ bls, l.Nodup) ∧ ∀ i j (hi : i < bls.length) (hj : j < bls.length), i ≠ j → ∀ c ∈ bls[i], c ∉ bls[j] := by
  induction bls with
  | nil => exact ⟨by simp, fun i j hi => by simp at hi⟩
  | cons l ls ih =>
    rw [List.flatten_cons, List.nodup_append] at h
    obtain ⟨h1, h2, h3⟩ := h
    obtain ⟨k1, k2⟩ := ih h2
    have hm : ∀ j (hj : j < ls.length), ∀ c ∈ l, c ∉ ls[j] := fun j hj c hc hq => h3 c hc c (List.mem_flatten.2 ⟨_, List.getElem_mem hj, hq⟩) rfl
    refine ⟨fun q hq => ?_, fun i j hi hj hne c hc hq => ?_⟩
    · rcases List.mem_cons.1 hq with rfl | hq
      · exact h1
      · exact k1 q hq
    · match i, j, hi, hj, hne with
      | 0, j + 1, _, hj, _ => exact hm j (by simpa using hj) c (by simpa using hc) (by simpa using hq)
      | i + 1, 0, hi, _, _ => exact hm i (by simpa using hi) c (by simpa using hq) (by simpa using hc)
      | i + 1, j + 1, hi, hj, hne => exact k2 i j (by simpa using hi) (by simpa using hj) (by omega) c (by simpa using hc) (by simpa using hq)

/-- Row o.. of block b at the world c: n cells; all else of that block is as at w; only b and blk have been written since w. -/
structure RowAt (w c : World) (b o n : Nat) (cs : List Value) (blk : List Nat) : Prop where
  len : cs.length = n
  cells : ∀ m, m < n → c.cell? ⟨b, o + m, none⟩ = cs[m]?
  others : ∀ q, (q < o ∨ o + n ≤ q) → c.cell? ⟨b, q, none⟩ = w.cell? ⟨b, q, none⟩
  soft : ∀ q, c.frozen? ⟨b, q, none⟩ = false
  lt : b < c.heap.size
  ext : Ext (fun q => q = b ∨ q ∈ blk) w c

theorem RowAt.at {w c : World} {b o n : Nat} {cs : List Value} {blk : List Nat} (h : RowAt w c b o n cs blk) (m : Nat) (v : Value) (hv : cs[m]? = some v) : c.cell? ⟨b, o + m, none⟩ = some v := by
  have : m < n := by rw [← h.len]; exact (List.getElem?_eq_some_iff.1 hv).1
  rw [h.cells m this, hv]
theorem RowAt.set {w c : World} {b o n : Nat} {cs : List Value} {blk : List Nat} (h : RowAt w c b o n cs blk) (m : Nat) (v : Value) (hm : m < n) : RowAt w (c.setCell ⟨b, o + m, none⟩ v) b o n (cs.set m v) blk := by
  refine ⟨by simpa using h.len, fun j hj => ?_, fun q hq => ?_, fun q => by simpa using h.soft q, by simpa using h.lt, h.ext.setCell _ _ (Or.inl rfl)⟩
  · by_cases e : j = m
    · subst e
      have hc := h.cells j hj
      have : ∃ u, c.cell? ⟨b, o + j, none⟩ = some u := ⟨_, hc.trans (List.getElem?_eq_getElem (by rw [h.len]; exact hj))⟩
      obtain ⟨u, hu⟩ := this
      rw [World.cell?_setCell_same _ _ _ hu, List.getElem?_set_self (by rw [h.len]; exact hj)]
    · rw [World.cell?_setCell_other _ _ _ _ (fun q => by have := congrArg Addr.off q; simp only at this; omega), h.cells j hj, List.getElem?_set_ne (by omega)]
  · rw [World.cell?_setCell_other _ _ _ _ (fun e => by have := congrArg Addr.off e; simp only at this; omega)]
    exact h.others q hq
theorem RowAt.call {w c c' : World} {b o n : Nat} {cs : List Value} {blk g : List Nat} (h : RowAt w c b o n cs blk) (e : Ext (fun q => q ∈ g) c c') (hg : ∀ q ∈ g, q ∈ blk) (hb : b ∉ g) : RowAt w c' b o n cs blk := by
  have hh := e.block b h.lt hb
  exact ⟨h.len, fun m hm => (cell_of_heap hh _).trans (h.cells m hm), fun q hq => (cell_of_heap hh _).trans (h.others q hq), fun q => (frozen_of_heap hh _).trans (h.soft q), Nat.lt_of_lt_of_le h.lt e.size, h.ext.trans (e.mono fun q _ hq => Or.inr (hg q hq))⟩

namespace Lay
variable {α : Type} {A : Lay α} {w : World}

/-- Element k of data of one's own: its cells, its own data; and what holds when it has been written anew. -/
theorem own_upd {xs : List α} {b off cap k n : Nat} {bl : List Nat} (h : (sl A).Own w [.slice (some ⟨b, off, none⟩) n cap] xs bl) (hk : k < xs.length) :
    ∃ row blk, RowAt w w b (off + k * A.n) A.n row blk ∧ A.Own w row xs[k] blk ∧ b ∉ blk ∧
      (∀ c, (b = c ∨ c ∈ blk) → c ∈ bl) ∧ ∀ w' row' x', RowAt w w' b (off + k * A.n) A.n row' blk → A.Own w' row' x' blk → (sl A).Own w' [.slice (some ⟨b, off, none⟩) n cap] (xs.set k x') bl := by
  obtain ⟨⟨ao, cp, e, hsz, hl⟩, hnd, hf⟩ := h
  simp only [List.cons.injEq, Value.slice.injEq, and_true] at e
  obtain ⟨rfl, rfl, rfl⟩ := e
  rcases hl with ⟨rfl, -⟩ | ⟨b', off', rows, bls, e2, hb, rfl, hr, hbl, hj⟩
  · simp at hk
  simp only [Option.some.injEq, Addr.mk.injEq, and_true] at e2
  obtain ⟨rfl, rfl⟩ := e2
  have hk1 : k < rows.length := by omega
  have hk2 : k < bls.length := by omega
  obtain ⟨hc, hlie⟩ := hj k hk hk1 hk2
  rw [List.nodup_cons] at hnd
  have hmem : ∀ c ∈ bls[k], c ∈ bls.flatten := fun c hc => List.mem_flatten.2 ⟨_, List.getElem_mem _, hc⟩
  have hb0 : b ∉ bls[k] := fun hm => hnd.1 (hmem b hm)
  have hfl := nodup_flat hnd.2
  refine ⟨rows[k], bls[k], ⟨A.len hlie, hc, fun _ _ => rfl, fun q => hf b (by simp) q, hb, Ext.refl _ _⟩, ⟨hlie, hfl.1 _ (List.getElem_mem _), fun c hm => hf c (by simp [hmem c hm])⟩, hb0, ?_, ?_⟩
  · rintro c (rfl | hm)
    · simp
    · simp [hmem c hm]
  · intro w' row' x' hR hO
    have hkeep : ∀ c, c < w.heap.size → c ≠ b → c ∉ bls[k] → w'.heap[c]? = w.heap[c]? := fun c hlt h1 h2 => hR.ext.block c hlt (by rintro (h | h); exact h1 h; exact h2 h)
    have hother : ∀ j (h1 : j < bls.length), j ≠ k → ∀ c ∈ bls[j], c ≠ b ∧ c ∉ bls[k] := by
      intro j h1 hne c hm
      refine ⟨fun e => hnd.1 (e ▸ List.mem_flatten.2 ⟨_, List.getElem_mem h1, hm⟩), fun hm2 => ?_⟩
      exact hfl.2 j k h1 hk2 hne c hm hm2
    refine ⟨⟨some ⟨b, off, none⟩, cap, by simp, by simpa using hsz, Or.inr ⟨b, off, rows.set k row', bls, rfl, hR.lt, rfl, by simpa using hr, by simpa using hbl, fun j h1 h2 h3 => ?_⟩⟩, ?_, ?_⟩
    · have h1' : j < xs.length := by simpa using h1
      have h2' : j < rows.length := by simpa using h2
      by_cases e : j = k
      · subst e
        rw [List.getElem_set_self, List.getElem_set_self]
        exact ⟨hR.cells, hO.1⟩
      · rw [List.getElem_set_ne (by omega), List.getElem_set_ne (by omega)]
        obtain ⟨c1, c2⟩ := hj j h1' h2' h3
        refine ⟨fun m hm => ?_, A.keep c2 fun c hm => hkeep c (A.lt c2 c hm) (hother j h3 e c hm).1 (hother j h3 e c hm).2⟩
        rw [hR.others _ ?_]
        · exact c1 m hm
        · rcases Nat.lt_or_ge j k with h | h
          · left
            have : (j + 1) * A.n ≤ k * A.n := Nat.mul_le_mul_right _ h
            rw [Nat.add_mul] at this
            omega
          · right
            have : (k + 1) * A.n ≤ j * A.n := Nat.mul_le_mul_right _ (by omega)
            rw [Nat.add_mul] at this
            omega
    · rw [List.nodup_cons]
      exact hnd
    · intro c hm o
      rcases List.mem_cons.1 hm with rfl | hm
      · exact hR.soft o
      · obtain ⟨l, hl1, hl2⟩ := List.mem_flatten.1 hm
        obtain ⟨j, hjl, rfl⟩ := List.getElem_of_mem hl1
        by_cases e : j = k
        · subst e
          exact hO.2.2 c hl2 o
        · obtain ⟨c1, c2⟩ := hj j (by omega) (by omega) hjl
          rw [frozen_of_heap (hkeep c (A.lt c2 c hl2) (hother j hjl e c hl2).1 (hother j hjl e c hl2).2) o]
          exact hf c (List.mem_cons_of_mem _ hm) o
end Lay

/-! ### Lists that are marked one element behind the other -/
theorem mkAll_at {α : Type} (c : α → Nat) (m : Int → α → α) (k : Int) (xs : List α) (j : Nat) (hj : j < xs.length) (hj2 : j < (mkAll c m k xs).length) : (mkAll c m k xs)[j] = m (k + (cntAll c (xs.take j) : Nat)) xs[j] := by
  induction xs generalizing k j with
  | nil => simp at hj
  | cons x xs ih =>
    match j with
    | 0 => simp [mkAll, cntAll]
    | j + 1 =>
      have := ih (k + c x) j (by simpa using hj) (by simpa [mkAll] using hj2)
      simp only [mkAll, List.getElem_cons_succ, List.take_succ_cons, cntAll]
      rw [this]
      congr 1
      omega
theorem mkAll_size {α : Type} (c : α → Nat) (m : Int → α → α) (k : Int) (xs : List α) : (mkAll c m k xs).length = xs.length := by
  induction xs generalizing k with
  | nil => rfl
  | cons x xs ih => simp [mkAll, ih]
/-- The first j marked, the others as they were. -/
def mkPre {α : Type} (c : α → Nat) (m : Int → α → α) (k : Int) (xs : List α) (j : Nat) : List α := (mkAll c m k xs).take j ++ xs.drop j
theorem mkPre_len {α : Type} (c : α → Nat) (m : Int → α → α) (k : Int) (xs : List α) (j : Nat) (hj : j ≤ xs.length) : (mkPre c m k xs j).length = xs.length := by
  simp [mkPre, mkAll_size]; omega
theorem mkPre_get {α : Type} (c : α → Nat) (m : Int → α → α) (k : Int) (xs : List α) (j : Nat) (hj : j < xs.length) (h2 : j < (mkPre c m k xs j).length) : (mkPre c m k xs j)[j] = xs[j] := by
  have e : (mkPre c m k xs j)[j]? = xs[j]? := by
    rw [mkPre, List.getElem?_append_right (by simp [mkAll_size]; omega)]
    simp [mkAll_size, Nat.min_eq_left (Nat.le_of_lt hj)]
  rw [List.getElem?_eq_getElem h2, List.getElem?_eq_getElem hj] at e
  exact Option.some.inj e
theorem mkPre_set {α : Type} (c : α → Nat) (m : Int → α → α) (k : Int) (xs : List α) (j : Nat) (hj : j < xs.length) : (mkPre c m k xs j).set j (m (k + (cntAll c (xs.take j) : Nat)) xs[j]) = mkPre c m k xs (j + 1) := by
  have hl : ((mkAll c m k xs).take j).length = j := by simp [mkAll_size]; omega
  unfold mkPre
  rw [List.set_append_right _ _ (by omega), hl, Nat.sub_self, List.drop_eq_getElem_cons hj, List.set_cons_zero, List.take_succ_eq_append_getElem (by rw [mkAll_size]; exact hj), mkAll_at c m k xs j hj]
  simp
theorem mkPre_zero {α : Type} (c : α → Nat) (m : Int → α → α) (k : Int) (xs : List α) : mkPre c m k xs 0 = xs := by simp [mkPre]
theorem mkPre_all {α : Type} (c : α → Nat) (m : Int → α → α) (k : Int) (xs : List α) : mkPre c m k xs xs.length = mkAll c m k xs := by
  unfold mkPre
  rw [List.drop_length, List.append_nil, List.take_of_length_le (by rw [mkAll_size]; exact Nat.le_refl _)]
end Go.Proofs.Ytkmfkaljdngigaa

namespace Go.Proofs.Ytkmfkaljdngigaa
open Go.RowKit

/-- The slice v holds the data xs, row by row; the blocks behind them are bls; the row's own block is none of them. -/
structure Grow {α : Type} (A : Lay α) (w : World) (base T : Nat) (v : Value) (rows : List (List Value)) (xs : List α) (bls : List (List Nat)) : Prop where
  own : w.ownsRow base T A.n v xs.length rows.flatten
  nrows : rows.length = xs.length
  nbls : bls.length = xs.length
  lies : ∀ j (h1 : j < xs.length) (h2 : j < rows.length) (h3 : j < bls.length), A.lies w rows[j] xs[j] bls[j]
  off : ∀ b ∈ bls.flatten, v.ownBlock ≠ some b

namespace Grow
variable {α : Type} {A : Lay α} {w w' : World} {base T : Nat} {v : Value} {rows : List (List Value)} {xs : List α} {bls : List (List Nat)}

theorem nil (h : w.ownsRow base T A.n v 0 []) : Grow A w base T v [] [] [] := ⟨h, rfl, rfl, fun j h1 => by simp at h1, by simp⟩
theorem sub_lt (h : Grow A w base T v rows xs bls) : ∀ b ∈ bls.flatten, b < w.heap.size := by
  intro b hb
  obtain ⟨l, h1, h2⟩ := List.mem_flatten.1 hb
  obtain ⟨j, hj, rfl⟩ := List.getElem_of_mem h1
  exact A.lt (h.lies j (by have := h.nbls; omega) (by have := h.nbls; have := h.nrows; omega) hj) b h2
theorem kept (h : Grow A w base T v rows xs bls) (ho : w'.ownsRow base T A.n v xs.length rows.flatten) (hk : ∀ b ∈ bls.flatten, w'.heap[b]? = w.heap[b]?) : Grow A w' base T v rows xs bls :=
  ⟨ho, h.nrows, h.nbls, fun j h1 h2 h3 => A.keep (h.lies j h1 h2 h3) fun b hb => hk b (List.mem_flatten.2 ⟨_, List.getElem_mem _, hb⟩), h.off⟩
theorem later (h : Grow A w base T v rows xs bls) (hb : Below w.heap.size w w') : Grow A w' base T v rows xs bls :=
  h.kept (own_below h.own hb) fun b hm => hb.block b (h.sub_lt b hm)
theorem lower {b' : Nat} (h : Grow A w base T v rows xs bls) (hb : b' ≤ base) : Grow A w b' T v rows xs bls := ⟨own_mono hb h.own, h.nrows, h.nbls, h.lies, h.off⟩
/-- Another block is written. -/
theorem grown {b : Nat} (h : Grow A w base T v rows xs bls) (hg : w.grownBy w' (some b)) (hb : b < base) (hs : ∀ c ∈ bls.flatten, base ≤ c) : Grow A w' base T v rows xs bls :=
  h.kept (h.own.kept hg (Or.inr fun e => by have := (h.own.lt b e).1; omega)) fun c hc => hg.block c (h.sub_lt c hc) (fun e => by
    have h1 := hs c hc
    have h2 : c = b := Option.some.inj e
    omega)
/-- One more. -/
theorem snoc (h : Grow A w base T v rows xs bls) {row : List Value} {x : α} {bl : List Nat} (hl : A.lies w row x bl) (hb : ∀ b ∈ bl, v.ownBlock ≠ some b) {g cap : Nat}
    (ho : w'.ownsRow base T A.n (.slice (some ⟨g, 0, none⟩) (xs.length + 1) cap) (xs.length + 1) (rows.flatten ++ row)) (hg : w.grownBy w' v.ownBlock) (hor : v.ownBlock = some g ∨ w.heap.size ≤ g) :
    Grow A w' base T (.slice (some ⟨g, 0, none⟩) (xs.length + 1) cap) (rows ++ [row]) (xs ++ [x]) (bls ++ [bl]) := by
  have hlt := h.sub_lt
  have hbl := A.lt hl
  have hk : ∀ b ∈ bls.flatten, w'.heap[b]? = w.heap[b]? := fun b hm => hg.block b (hlt b hm) (fun e => h.off b hm e.symm)
  have hk2 : ∀ b ∈ bl, w'.heap[b]? = w.heap[b]? := fun b hm => hg.block b (hbl b hm) (fun e => hb b hm e.symm)
  refine ⟨by simpa using ho, by simp [h.nrows], by simp [h.nbls], fun j h1 h2 h3 => ?_, ?_⟩
  · by_cases hj : j < xs.length
    · have e := h.lies j hj (by have := h.nrows; omega) (by have := h.nbls; omega)
      rw [List.getElem_append_left (by have := h.nrows; omega), List.getElem_append_left hj, List.getElem_append_left (by have := h.nbls; omega)]
      exact A.keep e fun b hm => hk b (List.mem_flatten.2 ⟨_, List.getElem_mem _, hm⟩)
    · obtain rfl : j = xs.length := by simp at h1; omega
      rw [List.getElem_append_right (by have := h.nrows; omega), List.getElem_append_right (by omega), List.getElem_append_right (by have := h.nbls; omega)]
      simpa using A.keep hl hk2
  · intro b hm e
    have e1 : b = g := by simpa [Value.ownBlock] using e.symm
    rw [List.flatten_append] at hm
    rcases hor with ho1 | ho1
    · rcases List.mem_append.1 hm with hm | hm
      · exact h.off b hm (by rw [ho1, e1])
      · exact hb b (by simpa using hm) (by rw [ho1, e1])
    · rcases List.mem_append.1 hm with hm | hm
      · have := hlt b hm; omega
      · have := hbl b (by simpa using hm); omega
theorem form (h : Grow A w base T v rows xs bls) : (v = .slice none 0 0 ∧ xs = []) ∨ ∃ g cap, v = .slice (some ⟨g, 0, none⟩) xs.length cap ∧ base ≤ g ∧ g < w.heap.size ∧ xs.length ≤ cap := by
  rcases h.own.2 with ⟨rfl, h0⟩ | ⟨g, cap, cur, rfl, hg, hh, hcap, _⟩
  · exact Or.inl ⟨rfl, List.eq_nil_of_length_eq_zero h0⟩
  · exact Or.inr ⟨g, cap, rfl, hg, lt_of_block hh, hcap⟩
theorem row_len (h : Grow A w base T v rows xs bls) : ∀ r ∈ rows, r.length = A.n := by
  intro r hm
  obtain ⟨j, hj, rfl⟩ := List.getElem_of_mem hm
  exact A.len (h.lies j (by have := h.nrows; omega) hj (by have := h.nrows; have := h.nbls; omega))
theorem flat_len (h : Grow A w base T v rows xs bls) : rows.flatten.length = xs.length * A.n := h.own.1
/-- It can be read. -/
theorem reads (h : Grow A w base T v rows xs bls) (hn : xs.length ≤ 9223372036854775807) : (Lay.sl A).lies w [v] xs (match v with | .slice (some a) _ _ => if xs = [] then [] else a.block :: bls.flatten | _ => []) ∨ xs = [] ∧ (Lay.sl A).lies w [v] xs [] := by
  rcases h.form with ⟨rfl, rfl⟩ | ⟨g, cap, rfl, hg, hgl, hcap⟩
  · exact Or.inr ⟨rfl, ⟨none, 0, rfl, ⟨by simp, hn⟩, Or.inl ⟨rfl, rfl⟩⟩⟩
  · by_cases h0 : xs = []
    · subst h0
      exact Or.inr ⟨rfl, ⟨_, cap, rfl, ⟨hcap, hn⟩, Or.inl ⟨rfl, rfl⟩⟩⟩
    · left
      simp only [if_neg h0]
      refine ⟨_, cap, rfl, ⟨hcap, hn⟩, Or.inr ⟨g, 0, rows, bls, rfl, hgl, rfl, h.nrows, h.nbls, fun j h1 h2 h3 => ⟨fun m hm => ?_, h.lies j h1 h2 h3⟩⟩⟩
      rw [Nat.zero_add, h.own.cellAt (j * A.n + m) (by
        have := h.flat_len
        have : (j + 1) * A.n ≤ xs.length * A.n := Nat.mul_le_mul_right _ (by omega)
        rw [Nat.add_mul] at this
        omega)]
      exact Lay.flat_at h.row_len j m h2 hm
theorem toReads (h : Grow A w base T v rows xs bls) (hn : xs.length ≤ 9223372036854775807) : (Lay.sl A).Reads w [v] xs := by
  rcases h.reads hn with h | ⟨-, h⟩
  · exact ⟨_, h⟩
  · exact ⟨_, h⟩
/-- It is data of the call's own, if what lies behind it is. -/
theorem toOwn (h : Grow A w base T v rows xs bls) (hn : xs.length ≤ 9223372036854775807) (hnd : bls.flatten.Nodup) (hs : ∀ b ∈ bls.flatten, base ≤ b ∧ ∀ o, w.frozen? ⟨b, o, none⟩ = false) : (Lay.sl A).OwnIn w [v] xs base w.heap.size := by
  have hr := h.reads hn
  rcases h.form with ⟨rfl, rfl⟩ | ⟨g, cap, rfl, hg, hgl, hcap⟩
  · exact ⟨[], ⟨⟨none, 0, rfl, ⟨by simp, hn⟩, Or.inl ⟨rfl, rfl⟩⟩, by simp, by simp⟩, by simp⟩
  · by_cases h0 : xs = []
    · subst h0
      exact ⟨[], ⟨⟨_, cap, rfl, ⟨hcap, hn⟩, Or.inl ⟨rfl, rfl⟩⟩, by simp, by simp⟩, by simp⟩
    · simp only [if_neg h0] at hr
      rcases hr with hr | ⟨h1, -⟩
      · refine ⟨_, ⟨hr, ?_, ?_⟩, ?_⟩
        · rw [List.nodup_cons]
          exact ⟨fun hm => h.off g hm rfl, hnd⟩
        · intro b hm o
          rcases List.mem_cons.1 hm with rfl | hm
          · exact h.own.frozenAt o
          · exact (hs b hm).2 o
        · intro b hm
          rcases List.mem_cons.1 hm with rfl | hm
          · exact ⟨hg, hgl⟩
          · exact ⟨(hs b hm).1, h.sub_lt b hm⟩
      · exact absurd h1 h0
/-- It lies in the call's own blocks, if what lies behind it does. -/
theorem toLies (h : Grow A w base T v rows xs bls) (hn : xs.length ≤ 9223372036854775807) (hs : ∀ b ∈ bls.flatten, base ≤ b) : (Lay.sl A).LiesIn w [v] xs base w.heap.size := by
  have hr := h.reads hn
  rcases h.form with ⟨rfl, rfl⟩ | ⟨g, cap, rfl, hg, hgl, hcap⟩
  · exact ⟨[], ⟨none, 0, rfl, ⟨by simp, hn⟩, Or.inl ⟨rfl, rfl⟩⟩, by simp⟩
  · by_cases h0 : xs = []
    · subst h0
      exact ⟨[], ⟨_, cap, rfl, ⟨hcap, hn⟩, Or.inl ⟨rfl, rfl⟩⟩, by simp⟩
    · simp only [if_neg h0] at hr
      rcases hr with hr | ⟨h1, -⟩
      · refine ⟨_, hr, fun b hm => ?_⟩
        rcases List.mem_cons.1 hm with rfl | hm
        · exact ⟨hg, hgl⟩
        · exact ⟨hs b hm, h.sub_lt b hm⟩
      · exact absurd h1 h0
end Grow

end Go.Proofs.Ytkmfkaljdngigaa

namespace Go.Proofs.Ytkmfkaljdngigaa

def partB (z : Int) : Bool := decide (-1000 ≤ z) && decide (z ≤ 1000)
def vecFault (zs : List Int) : Int := if zs.length = 3 then (if zs.all partB then 0 else 3) else 1

theorem vecFault_len {zs : List Int} (h : zs.length ≠ 3) : vecFault zs = 1 := by simp [vecFault, h]
theorem vecFault_bad {zs : List Int} (h : zs.length = 3) (k : Nat) (hk : k < 3) (hb : partB (zs.getD k 0) = false) : vecFault zs = 3 := by
  have : zs.all partB = false := by
    rw [List.all_eq_false]
    exact ⟨zs.getD k 0, by simp [List.getD, show k < zs.length by omega], by rw [hb]; simp⟩
  simp [vecFault, h, this]
theorem vecFault_ok {zs : List Int} (h : zs.length = 3) (hg : ∀ j, j < 3 → partB (zs.getD j 0) = true) : vecFault zs = 0 := by
  have : zs.all partB = true := by
    rw [List.all_eq_true]
    intro x hx
    obtain ⟨j, hj, rfl⟩ := List.mem_iff_getElem.1 hx
    have := hg j (by omega)
    simpa [List.getD, hj] using this
  simp [vecFault, h, this]
theorem partB_true {z : Int} (h : partB z = true) : -1000 ≤ z ∧ z ≤ 1000 := by simpa [partB] using h
theorem partB_false {z : Int} (h : partB z = false) : z < -1000 ∨ 1000 < z := by
  simp [partB] at h
  omega
theorem vecFault_zero {zs : List Int} (h : vecFault zs = 0) : zs.length = 3 ∧ ∀ j, j < 3 → -1000 ≤ zs.getD j 0 ∧ zs.getD j 0 ≤ 1000 := by
  unfold vecFault at h
  split at h
  · next hl =>
    refine ⟨hl, fun j hj => ?_⟩
    split at h
    · next ha =>
      rw [List.all_eq_true] at ha
      exact partB_true (ha _ (by simp [List.getD, show j < zs.length by omega]))
    · simp at h
  · simp at h

theorem fault3 {x y z : Int} (h : vecFault [x, y, z] = 0) : (-1000 ≤ x ∧ x ≤ 1000) ∧ (-1000 ≤ y ∧ y ≤ 1000) ∧ (-1000 ≤ z ∧ z ≤ 1000) := by
  have h1 := (vecFault_zero h).2
  exact ⟨by simpa using h1 0 (by omega), by simpa using h1 1 (by omega), by simpa using h1 2 (by omega)⟩

end Go.Proofs.Ytkmfkaljdngigaa

namespace Go.Proofs.Ytkmfkaljdngigaa
open Go.RowKit

structure DWrite where
  kind : Int
  id : Int
  vec : List Int
  session : Int
  seq : Int

def Lay.tWrite : Lay DWrite := Lay.via (Lay.pair Lay.int (Lay.pair Lay.int (Lay.pair (Lay.sl Lay.int) (Lay.pair Lay.int Lay.int)))) (fun x => (x.kind, x.id, x.vec, x.session, x.seq)) (fun p => ⟨p.1, p.2.1, p.2.2.1, p.2.2.2.1, p.2.2.2.2⟩)

theorem lies_Write {w : World} {cs : List Value} {x : DWrite} {bl : List Nat} : Lay.tWrite.lies w cs x bl ↔ ∃ (a2 : Option Addr) (d2 : Nat) (b2 : List Nat), cs = [.int .i64 x.kind, .int .i64 x.id, .slice a2 x.vec.length d2, .int .i64 x.session, .int .i64 x.seq] ∧ bl = b2 ∧ (Lit.int .i64 x.kind).wf = true ∧ (Lit.int .i64 x.id).wf = true ∧ (Lay.sl Lay.int).lies w [.slice a2 x.vec.length d2] x.vec b2 ∧ (Lit.int .i64 x.session).wf = true ∧ (Lit.int .i64 x.seq).wf = true := by
  constructor
  · intro h
    obtain ⟨c0_, r0_, e0_, s0_, rfl, rfl, h0, ⟨c1_, r1_, e1_, s1_, rfl, rfl, h1, ⟨c2_, r2_, e2_, s2_, rfl, rfl, h2, ⟨c3_, r3_, e3_, s3_, rfl, rfl, h3, h4⟩⟩⟩⟩ := h
    obtain ⟨rfl, w0, rfl⟩ := h0
    obtain ⟨rfl, w1, rfl⟩ := h1
    have k2 := h2
    obtain ⟨a2, d2, rfl, -⟩ := k2
    obtain ⟨rfl, w3, rfl⟩ := h3
    obtain ⟨rfl, w4, rfl⟩ := h4
    exact ⟨a2, d2, e2_, by simp, by simp, w0, w1, h2, w3, w4⟩
  · rintro ⟨a2, d2, b2, rfl, hbl, w0, w1, l2, w3, w4⟩
    rw [hbl]
    exact ⟨[.int .i64 x.kind], [.int .i64 x.id] ++ ([.slice a2 x.vec.length d2] ++ ([.int .i64 x.session] ++ [.int .i64 x.seq])), [], [] ++ (b2 ++ ([] ++ ([]))), rfl, by simp, ⟨rfl, w0, rfl⟩, ⟨[.int .i64 x.id], [.slice a2 x.vec.length d2] ++ ([.int .i64 x.session] ++ [.int .i64 x.seq]), [], b2 ++ ([] ++ ([])), rfl, by simp, ⟨rfl, w1, rfl⟩, ⟨[.slice a2 x.vec.length d2], [.int .i64 x.session] ++ [.int .i64 x.seq], b2, [] ++ ([]), rfl, by simp, l2, ⟨[.int .i64 x.session], [.int .i64 x.seq], [], [], rfl, by simp, ⟨rfl, w3, rfl⟩, ⟨rfl, w4, rfl⟩⟩⟩⟩⟩

theorem open_Write {w : World} {cs : List Value} {x : DWrite} (h : Lay.tWrite.Reads w cs x) : ∃ (a2 : Option Addr) (d2 : Nat), cs = [.int .i64 x.kind, .int .i64 x.id, .slice a2 x.vec.length d2, .int .i64 x.session, .int .i64 x.seq] ∧ (Lay.sl Lay.int).Reads w [.slice a2 x.vec.length d2] x.vec := by
  obtain ⟨bl, h⟩ := h
  obtain ⟨a2, d2, b2, rfl, -, w0, w1, l2, w3, w4⟩ := lies_Write.1 h
  exact ⟨a2, d2, rfl, ⟨_, l2⟩⟩

end Go.Proofs.Ytkmfkaljdngigaa

namespace Go.Proofs.Ytkmfkaljdngigaa
open Go.RowKit

theorem vcnt_Write (x : DWrite) : Lay.tWrite.vcnt x = (Lay.sl Lay.int).vcnt x.vec := by
  show 0 + (0 + ((Lay.sl Lay.int).vcnt x.vec + (0 + (0)))) = (Lay.sl Lay.int).vcnt x.vec
  omega
theorem mkv_Write (k : Int) (x : DWrite) : Lay.tWrite.mkv k x = ⟨x.kind, x.id, (Lay.sl Lay.int).mkv (k) x.vec, x.session, x.seq⟩ := by
  simp [Lay.tWrite, Lay.via, Lay.pair, Lay.int]
theorem own_Write {w : World} {cs : List Value} {x : DWrite} {bl : List Nat} (h : Lay.tWrite.Own w cs x bl) : ∃ (a2 : Option Addr) (d2 : Nat) (g2 : List Nat), cs = [.int .i64 x.kind, .int .i64 x.id, .slice a2 x.vec.length d2, .int .i64 x.session, .int .i64 x.seq] ∧ bl = g2 ∧ (Lay.sl Lay.int).Own w [.slice a2 x.vec.length d2] x.vec g2 ∧ (Lit.int .i64 x.kind).wf = true ∧ (Lit.int .i64 x.id).wf = true ∧ (Lit.int .i64 x.session).wf = true ∧ (Lit.int .i64 x.seq).wf = true := by
  obtain ⟨hl, hn, hf⟩ := h
  obtain ⟨a2, d2, b2, rfl, hbl, w0, w1, l2, w3, w4⟩ := lies_Write.1 hl
  rw [hbl] at hn hf
  exact ⟨a2, d2, b2, rfl, hbl, ⟨l2, hn, hf⟩, w0, w1, w3, w4⟩
theorem mkOwn_Write {w : World} {x : DWrite} {c2 : List Value} {g2 : List Nat} (O2 : (Lay.sl Lay.int).Own w c2 x.vec g2) (v0 : (Lit.int .i64 x.kind).wf = true) (v1 : (Lit.int .i64 x.id).wf = true) (v3 : (Lit.int .i64 x.session).wf = true) (v4 : (Lit.int .i64 x.seq).wf = true) (hn : (g2).Nodup) : Lay.tWrite.Own w ([.int .i64 x.kind] ++ ([.int .i64 x.id] ++ (c2 ++ ([.int .i64 x.session] ++ ([.int .i64 x.seq]))))) x (g2) := by
  refine ⟨⟨[.int .i64 x.kind], [.int .i64 x.id] ++ (c2 ++ ([.int .i64 x.session] ++ ([.int .i64 x.seq]))), [], [] ++ (g2 ++ ([] ++ [])), rfl, by simp, ⟨rfl, v0, rfl⟩, ⟨[.int .i64 x.id], c2 ++ ([.int .i64 x.session] ++ ([.int .i64 x.seq])), [], g2 ++ ([] ++ []), rfl, rfl, ⟨rfl, v1, rfl⟩, ⟨c2, [.int .i64 x.session] ++ ([.int .i64 x.seq]), g2, [] ++ [], rfl, rfl, O2.1, ⟨[.int .i64 x.session], [.int .i64 x.seq], [], [], rfl, rfl, ⟨rfl, v3, rfl⟩, ⟨rfl, v4, rfl⟩⟩⟩⟩⟩, hn, ?_⟩
  intro b hb o
  exact O2.2.2 b hb o

end Go.Proofs.Ytkmfkaljdngigaa

namespace Go.Proofs.Ytkmfkaljdngigaa
open Go.RowKit

structure DItem where
  id : Int
  vec : List Int

def Lay.tItem : Lay DItem := Lay.via (Lay.pair Lay.int (Lay.sl Lay.int)) (fun x => (x.id, x.vec)) (fun p => ⟨p.1, p.2⟩)

theorem lies_Item {w : World} {cs : List Value} {x : DItem} {bl : List Nat} : Lay.tItem.lies w cs x bl ↔ ∃ (a1 : Option Addr) (d1 : Nat) (b1 : List Nat), cs = [.int .i64 x.id, .slice a1 x.vec.length d1] ∧ bl = b1 ∧ (Lit.int .i64 x.id).wf = true ∧ (Lay.sl Lay.int).lies w [.slice a1 x.vec.length d1] x.vec b1 := by
  constructor
  · intro h
    obtain ⟨c0_, r0_, e0_, s0_, rfl, rfl, h0, h1⟩ := h
    obtain ⟨rfl, w0, rfl⟩ := h0
    have k1 := h1
    obtain ⟨a1, d1, rfl, -⟩ := k1
    exact ⟨a1, d1, s0_, by simp, by simp, w0, h1⟩
  · rintro ⟨a1, d1, b1, rfl, hbl, w0, l1⟩
    rw [hbl]
    exact ⟨[.int .i64 x.id], [.slice a1 x.vec.length d1], [], b1, rfl, by simp, ⟨rfl, w0, rfl⟩, l1⟩

theorem open_Item {w : World} {cs : List Value} {x : DItem} (h : Lay.tItem.Reads w cs x) : ∃ (a1 : Option Addr) (d1 : Nat), cs = [.int .i64 x.id, .slice a1 x.vec.length d1] ∧ (Lay.sl Lay.int).Reads w [.slice a1 x.vec.length d1] x.vec := by
  obtain ⟨bl, h⟩ := h
  obtain ⟨a1, d1, b1, rfl, -, w0, l1⟩ := lies_Item.1 h
  exact ⟨a1, d1, rfl, ⟨_, l1⟩⟩

end Go.Proofs.Ytkmfkaljdngigaa

namespace Go.Proofs.Ytkmfkaljdngigaa
open Go.RowKit

theorem vcnt_Item (x : DItem) : Lay.tItem.vcnt x = (Lay.sl Lay.int).vcnt x.vec := by
  show 0 + ((Lay.sl Lay.int).vcnt x.vec) = (Lay.sl Lay.int).vcnt x.vec
  omega
theorem mkv_Item (k : Int) (x : DItem) : Lay.tItem.mkv k x = ⟨x.id, (Lay.sl Lay.int).mkv (k) x.vec⟩ := by
  simp [Lay.tItem, Lay.via, Lay.pair, Lay.int]
theorem own_Item {w : World} {cs : List Value} {x : DItem} {bl : List Nat} (h : Lay.tItem.Own w cs x bl) : ∃ (a1 : Option Addr) (d1 : Nat) (g1 : List Nat), cs = [.int .i64 x.id, .slice a1 x.vec.length d1] ∧ bl = g1 ∧ (Lay.sl Lay.int).Own w [.slice a1 x.vec.length d1] x.vec g1 ∧ (Lit.int .i64 x.id).wf = true := by
  obtain ⟨hl, hn, hf⟩ := h
  obtain ⟨a1, d1, b1, rfl, hbl, w0, l1⟩ := lies_Item.1 hl
  rw [hbl] at hn hf
  exact ⟨a1, d1, b1, rfl, hbl, ⟨l1, hn, hf⟩, w0⟩
theorem mkOwn_Item {w : World} {x : DItem} {c1 : List Value} {g1 : List Nat} (O1 : (Lay.sl Lay.int).Own w c1 x.vec g1) (v0 : (Lit.int .i64 x.id).wf = true) (hn : (g1).Nodup) : Lay.tItem.Own w ([.int .i64 x.id] ++ c1) x (g1) := by
  refine ⟨⟨[.int .i64 x.id], c1, [], g1, rfl, by simp, ⟨rfl, v0, rfl⟩, O1.1⟩, hn, ?_⟩
  intro b hb o
  exact O1.2.2 b hb o

end Go.Proofs.Ytkmfkaljdngigaa

namespace Go.Proofs.Ytkmfkaljdngigaa
open Go.RowKit

structure DTableResult where
  code : Int
  items : List DItem

def Lay.tTableResult : Lay DTableResult := Lay.via (Lay.pair Lay.int (Lay.sl Lay.tItem)) (fun x => (x.code, x.items)) (fun p => ⟨p.1, p.2⟩)

theorem lies_TableResult {w : World} {cs : List Value} {x : DTableResult} {bl : List Nat} : Lay.tTableResult.lies w cs x bl ↔ ∃ (a1 : Option Addr) (d1 : Nat) (b1 : List Nat), cs = [.int .i64 x.code, .slice a1 x.items.length d1] ∧ bl = b1 ∧ (Lit.int .i64 x.code).wf = true ∧ (Lay.sl Lay.tItem).lies w [.slice a1 x.items.length d1] x.items b1 := by
  constructor
  · intro h
    obtain ⟨c0_, r0_, e0_, s0_, rfl, rfl, h0, h1⟩ := h
    obtain ⟨rfl, w0, rfl⟩ := h0
    have k1 := h1
    obtain ⟨a1, d1, rfl, -⟩ := k1
    exact ⟨a1, d1, s0_, by simp, by simp, w0, h1⟩
  · rintro ⟨a1, d1, b1, rfl, hbl, w0, l1⟩
    rw [hbl]
    exact ⟨[.int .i64 x.code], [.slice a1 x.items.length d1], [], b1, rfl, by simp, ⟨rfl, w0, rfl⟩, l1⟩

theorem open_TableResult {w : World} {cs : List Value} {x : DTableResult} (h : Lay.tTableResult.Reads w cs x) : ∃ (a1 : Option Addr) (d1 : Nat), cs = [.int .i64 x.code, .slice a1 x.items.length d1] ∧ (Lay.sl Lay.tItem).Reads w [.slice a1 x.items.length d1] x.items := by
  obtain ⟨bl, h⟩ := h
  obtain ⟨a1, d1, b1, rfl, -, w0, l1⟩ := lies_TableResult.1 h
  exact ⟨a1, d1, rfl, ⟨_, l1⟩⟩

end Go.Proofs.Ytkmfkaljdngigaa

namespace Go.Proofs.Ytkmfkaljdngigaa
open Go.RowKit

theorem vcnt_TableResult (x : DTableResult) : Lay.tTableResult.vcnt x = (Lay.sl Lay.tItem).vcnt x.items := by
  show 0 + ((Lay.sl Lay.tItem).vcnt x.items) = (Lay.sl Lay.tItem).vcnt x.items
  omega
theorem mkv_TableResult (k : Int) (x : DTableResult) : Lay.tTableResult.mkv k x = ⟨x.code, (Lay.sl Lay.tItem).mkv (k) x.items⟩ := by
  simp [Lay.tTableResult, Lay.via, Lay.pair, Lay.int]
theorem own_TableResult {w : World} {cs : List Value} {x : DTableResult} {bl : List Nat} (h : Lay.tTableResult.Own w cs x bl) : ∃ (a1 : Option Addr) (d1 : Nat) (g1 : List Nat), cs = [.int .i64 x.code, .slice a1 x.items.length d1] ∧ bl = g1 ∧ (Lay.sl Lay.tItem).Own w [.slice a1 x.items.length d1] x.items g1 ∧ (Lit.int .i64 x.code).wf = true := by
  obtain ⟨hl, hn, hf⟩ := h
  obtain ⟨a1, d1, b1, rfl, hbl, w0, l1⟩ := lies_TableResult.1 hl
  rw [hbl] at hn hf
  exact ⟨a1, d1, b1, rfl, hbl, ⟨l1, hn, hf⟩, w0⟩
theorem mkOwn_TableResult {w : World} {x : DTableResult} {c1 : List Value} {g1 : List Nat} (O1 : (Lay.sl Lay.tItem).Own w c1 x.items g1) (v0 : (Lit.int .i64 x.code).wf = true) (hn : (g1).Nodup) : Lay.tTableResult.Own w ([.int .i64 x.code] ++ c1) x (g1) := by
  refine ⟨⟨[.int .i64 x.code], c1, [], g1, rfl, by simp, ⟨rfl, v0, rfl⟩, O1.1⟩, hn, ?_⟩
  intro b hb o
  exact O1.2.2 b hb o

end Go.Proofs.Ytkmfkaljdngigaa

namespace Go.Proofs.Ytkmfkaljdngigaa
open Go.RowKit

structure DIntsResult where
  code : Int
  list : List Int

def Lay.tIntsResult : Lay DIntsResult := Lay.via (Lay.pair Lay.int (Lay.sl Lay.int)) (fun x => (x.code, x.list)) (fun p => ⟨p.1, p.2⟩)

theorem lies_IntsResult {w : World} {cs : List Value} {x : DIntsResult} {bl : List Nat} : Lay.tIntsResult.lies w cs x bl ↔ ∃ (a1 : Option Addr) (d1 : Nat) (b1 : List Nat), cs = [.int .i64 x.code, .slice a1 x.list.length d1] ∧ bl = b1 ∧ (Lit.int .i64 x.code).wf = true ∧ (Lay.sl Lay.int).lies w [.slice a1 x.list.length d1] x.list b1 := by
  constructor
  · intro h
    obtain ⟨c0_, r0_, e0_, s0_, rfl, rfl, h0, h1⟩ := h
    obtain ⟨rfl, w0, rfl⟩ := h0
    have k1 := h1
    obtain ⟨a1, d1, rfl, -⟩ := k1
    exact ⟨a1, d1, s0_, by simp, by simp, w0, h1⟩
  · rintro ⟨a1, d1, b1, rfl, hbl, w0, l1⟩
    rw [hbl]
    exact ⟨[.int .i64 x.code], [.slice a1 x.list.length d1], [], b1, rfl, by simp, ⟨rfl, w0, rfl⟩, l1⟩

theorem open_IntsResult {w : World} {cs : List Value} {x : DIntsResult} (h : Lay.tIntsResult.Reads w cs x) : ∃ (a1 : Option Addr) (d1 : Nat), cs = [.int .i64 x.code, .slice a1 x.list.length d1] ∧ (Lay.sl Lay.int).Reads w [.slice a1 x.list.length d1] x.list := by
  obtain ⟨bl, h⟩ := h
  obtain ⟨a1, d1, b1, rfl, -, w0, l1⟩ := lies_IntsResult.1 h
  exact ⟨a1, d1, rfl, ⟨_, l1⟩⟩

end Go.Proofs.Ytkmfkaljdngigaa

namespace Go.Proofs.Ytkmfkaljdngigaa
open Go.RowKit

theorem vcnt_IntsResult (x : DIntsResult) : Lay.tIntsResult.vcnt x = (Lay.sl Lay.int).vcnt x.list := by
  show 0 + ((Lay.sl Lay.int).vcnt x.list) = (Lay.sl Lay.int).vcnt x.list
  omega
theorem mkv_IntsResult (k : Int) (x : DIntsResult) : Lay.tIntsResult.mkv k x = ⟨x.code, (Lay.sl Lay.int).mkv (k) x.list⟩ := by
  simp [Lay.tIntsResult, Lay.via, Lay.pair, Lay.int]
theorem own_IntsResult {w : World} {cs : List Value} {x : DIntsResult} {bl : List Nat} (h : Lay.tIntsResult.Own w cs x bl) : ∃ (a1 : Option Addr) (d1 : Nat) (g1 : List Nat), cs = [.int .i64 x.code, .slice a1 x.list.length d1] ∧ bl = g1 ∧ (Lay.sl Lay.int).Own w [.slice a1 x.list.length d1] x.list g1 ∧ (Lit.int .i64 x.code).wf = true := by
  obtain ⟨hl, hn, hf⟩ := h
  obtain ⟨a1, d1, b1, rfl, hbl, w0, l1⟩ := lies_IntsResult.1 hl
  rw [hbl] at hn hf
  exact ⟨a1, d1, b1, rfl, hbl, ⟨l1, hn, hf⟩, w0⟩
theorem mkOwn_IntsResult {w : World} {x : DIntsResult} {c1 : List Value} {g1 : List Nat} (O1 : (Lay.sl Lay.int).Own w c1 x.list g1) (v0 : (Lit.int .i64 x.code).wf = true) (hn : (g1).Nodup) : Lay.tIntsResult.Own w ([.int .i64 x.code] ++ c1) x (g1) := by
  refine ⟨⟨[.int .i64 x.code], c1, [], g1, rfl, by simp, ⟨rfl, v0, rfl⟩, O1.1⟩, hn, ?_⟩
  intro b hb o
  exact O1.2.2 b hb o

end Go.Proofs.Ytkmfkaljdngigaa

namespace Go.Proofs.Ytkmfkaljdngigaa
open Go.RowKit

def idB (v : Int) : Bool := decide (1 ≤ v) && decide (v ≤ 999)
def tabFrom : Option Int → List DItem → Int
  | _, [] => 0
  | p, x :: xs => if idB x.id then (if vecFault x.vec = 0 then (if p.all (fun q => decide (q < x.id)) then tabFrom (some x.id) xs else 1) else vecFault x.vec) else 3
def tableFault (xs : List DItem) : Int := if 30 < xs.length then 2 else tabFrom none xs
/-- The Id ahead of place k. -/
def idAhead (xs : List DItem) (k : Nat) : Option Int := if k = 0 then none else (xs[k - 1]?).map (·.id)
theorem idAhead_zero (xs : List DItem) : idAhead xs 0 = none := rfl
theorem idAhead_succ (xs : List DItem) (m : Nat) (h : m < xs.length) : idAhead xs (m + 1) = some xs[m].id := by simp [idAhead, h]
theorem tabFrom_step (xs : List DItem) (k : Nat) (h : k < xs.length) : tabFrom (idAhead xs k) (xs.drop k) =
    if idB xs[k].id then (if vecFault xs[k].vec = 0 then (if (idAhead xs k).all (fun q => decide (q < xs[k].id)) then tabFrom (idAhead xs (k + 1)) (xs.drop (k + 1)) else 1) else vecFault xs[k].vec) else 3 := by
  rw [List.drop_eq_getElem_cons h, idAhead_succ xs k h]
  rfl
/-- Rising by Id, each right. -/
def Rising (xs : List DItem) : Prop := xs.Pairwise (fun a b => a.id < b.id)
theorem tabFrom_zero {p : Option Int} {xs : List DItem} (h : tabFrom p xs = 0) : (∀ x ∈ xs, idB x.id = true ∧ vecFault x.vec = 0) ∧ Rising xs ∧ ∀ q, p = some q → ∀ x ∈ xs, q < x.id := by
  induction xs generalizing p with
  | nil => exact ⟨by simp, List.Pairwise.nil, by simp⟩
  | cons x xs ih =>
    rw [tabFrom] at h
    by_cases h1 : idB x.id = true
    · rw [if_pos h1] at h
      by_cases h2 : vecFault x.vec = 0
      · rw [if_pos h2] at h
        by_cases h3 : p.all (fun q => decide (q < x.id)) = true
        · rw [if_pos h3] at h
          obtain ⟨i1, i2, i3⟩ := ih h
          refine ⟨?_, List.pairwise_cons.2 ⟨fun y hy => i3 _ rfl y hy, i2⟩, ?_⟩
          · intro y hy
            rcases List.mem_cons.1 hy with rfl | hy
            · exact ⟨h1, h2⟩
            · exact i1 y hy
          · rintro q rfl y hy
            have hq : q < x.id := by simpa using h3
            rcases List.mem_cons.1 hy with rfl | hy
            · exact hq
            · exact Int.lt_trans hq (i3 _ rfl y hy)
        · rw [if_neg h3] at h; cases h
      · rw [if_neg h2] at h; exact absurd h h2
    · rw [if_neg h1] at h; cases h
theorem tabFrom_of {p : Option Int} {xs : List DItem} (h1 : ∀ x ∈ xs, idB x.id = true ∧ vecFault x.vec = 0) (h2 : Rising xs) (h3 : ∀ q, p = some q → ∀ x ∈ xs, q < x.id) : tabFrom p xs = 0 := by
  induction xs generalizing p with
  | nil => rfl
  | cons x xs ih =>
    obtain ⟨a1, a2⟩ := h1 x (by simp)
    rw [tabFrom, if_pos a1, if_pos a2, if_pos]
    · exact ih (fun y hy => h1 y (List.mem_cons_of_mem _ hy)) (List.pairwise_cons.1 h2).2 (fun q e y hy => by cases e; exact (List.pairwise_cons.1 h2).1 y hy)
    · cases p with
      | none => rfl
      | some q => simpa using h3 q rfl x (by simp)
theorem tableFault_zero {xs : List DItem} (h : tableFault xs = 0) : xs.length ≤ 30 ∧ (∀ x ∈ xs, idB x.id = true ∧ vecFault x.vec = 0) ∧ Rising xs := by
  unfold tableFault at h
  by_cases hn : 30 < xs.length
  · rw [if_pos hn] at h; cases h
  · rw [if_neg hn] at h
    obtain ⟨a, b, -⟩ := tabFrom_zero h
    exact ⟨by omega, a, b⟩
theorem tableFault_of {xs : List DItem} (hl : xs.length ≤ 30) (h1 : ∀ x ∈ xs, idB x.id = true ∧ vecFault x.vec = 0) (h2 : Rising xs) : tableFault xs = 0 := by
  unfold tableFault
  rw [if_neg (by omega)]
  exact tabFrom_of h1 h2 (by simp)

end Go.Proofs.Ytkmfkaljdngigaa

namespace Go.Proofs.Ytkmfkaljdngigaa
open Go.RowKit Go.ChangeMaps Go.Maps

theorem id_wf {z : Int} (h : idB z = true) : (Lit.int .i64 z).wf = true := by
  simp only [idB, Bool.and_eq_true, decide_eq_true_eq] at h
  exact wf_of_bd (by omega)
def vecD (zs : List Int) : DataW Unit := .agg (zs.map fun z => .lit (.int .i64 z))
theorem vecD_inj {a b : List Int} (h : vecD a = vecD b) : a = b := by
  simp only [vecD, DataW.agg.injEq] at h
  induction a generalizing b with
  | nil => cases b with
    | nil => rfl
    | cons y ys => simp at h
  | cons x xs ih => cases b with
    | nil => simp at h
    | cons y ys =>
      simp only [List.map_cons, List.cons.injEq, DataW.lit.injEq, Lit.int.injEq, true_and] at h
      rw [h.1, ih h.2]
def mapL (xs : List DItem) : List (Lit × DataW Unit) := xs.map fun x => (Lit.int .i64 x.id, vecD x.vec)
def mapD (xs : List DItem) : DataW Unit := .map (mapL xs)

/-- An item among rising ones. -/
def insI (x : DItem) : List DItem → List DItem
  | [] => [x]
  | y :: r => if x.id < y.id then x :: y :: r else y :: insI x r
def dropI (xs : List DItem) (id : Int) : List DItem := xs.filter (fun x => !(x.id == id))
def putI (xs : List DItem) (id : Int) (vec : List Int) : List DItem := insI ⟨id, vec⟩ (dropI xs id)
def hasI (xs : List DItem) (id : Int) : Bool := xs.any (fun x => x.id == id)

theorem same_lit (a b : Int) : (Lit.int .i64 a).sameKey (.int .i64 b) = (a == b) := by
  by_cases h : a = b
  · subst h; simp [Lit.sameKey]
  · simp [Lit.sameKey, h]
theorem has_mapD (xs : List DItem) (id : Int) : Maps.has (mapD xs) (.int .i64 id) = hasI xs id := by
  show (mapL xs).any (fun p => p.1.sameKey (.int .i64 id)) = xs.any (fun x => x.id == id)
  rw [mapL, List.any_map]
  congr 1
  funext x
  exact same_lit _ _
theorem size_mapD (xs : List DItem) : Maps.size (mapD xs) = xs.length := by simp [mapD, mapL, Maps.size]
theorem del_mapD (xs : List DItem) (id : Int) : (mapD xs).del (.int .i64 id) = mapD (dropI xs id) := by
  show DataW.map (delKey _ (mapL xs)) = DataW.map (mapL (dropI xs id))
  congr 1
  rw [delKey, mapL, dropI, mapL, List.filter_map]
  congr 1
  refine List.filter_congr fun x _ => ?_
  show (!(Lit.int .i64 x.id).sameKey (.int .i64 id)) = !(x.id == id)
  rw [same_lit]
theorem insert_mapL (x : DItem) (xs : List DItem) : DataW.insert (Lit.int .i64 x.id, vecD x.vec) (mapL xs) = mapL (insI x xs) := by
  induction xs with
  | nil => rfl
  | cons y r ih =>
    show (if (Lit.int .i64 x.id).before (.int .i64 y.id) then _ else _) = _
    rw [insI]
    by_cases h : x.id < y.id
    · rw [if_pos (by simpa [Lit.before] using h), if_pos h]; rfl
    · rw [if_neg (by simpa [Lit.before] using h), if_neg h]
      show _ :: DataW.insert _ (mapL r) = _
      rw [ih]; rfl
theorem put_mapD (xs : List DItem) (id : Int) (vec : List Int) : (mapD xs).put (.int .i64 id) (vecD vec) = mapD (putI xs id vec) := by
  show DataW.map (DataW.insert _ (delKey _ (mapL xs))) = _
  have h := del_mapD xs id
  have h2 : delKey (.int .i64 id) (mapL xs) = mapL (dropI xs id) := by
    have : DataW.map (delKey (.int .i64 id) (mapL xs)) = DataW.map (mapL (dropI xs id)) := h
    simpa using this
  rw [h2, insert_mapL ⟨id, vec⟩]
  rfl
theorem apart_mapL {xs : List DItem} (h : Rising xs) : (mapL xs).Pairwise (fun p q => p.1 ≠ q.1) := by
  refine List.pairwise_map.2 (h.imp fun {a b} hab e => ?_)
  simp only [Lit.int.injEq, true_and] at e
  omega
theorem at_mapD {xs : List DItem} (h : Rising xs) {x : DItem} (hx : x ∈ xs) (z : DataW Unit) : (mapD xs).atKey (.int .i64 x.id) z = vecD x.vec :=
  WideAt.atKey_mem z trivial (apart_mapL h) (List.mem_map.2 ⟨x, hx, rfl⟩)

/-! ### Rising lists -/
theorem hasI_true {xs : List DItem} {id : Int} (h : hasI xs id = true) : ∃ x ∈ xs, x.id = id := by
  simpa [hasI] using h
theorem hasI_false {xs : List DItem} {id : Int} (h : hasI xs id = false) : ∀ x ∈ xs, x.id ≠ id := by
  simpa [hasI] using h
theorem insI_last (x : DItem) (xs : List DItem) (h : ∀ y ∈ xs, y.id < x.id) : insI x xs = xs ++ [x] := by
  induction xs with
  | nil => rfl
  | cons y r ih =>
    have := h y (by simp)
    rw [insI, if_neg (by omega), ih fun z hz => h z (List.mem_cons_of_mem _ hz)]
    rfl
theorem dropI_none {xs : List DItem} {id : Int} (h : ∀ x ∈ xs, x.id ≠ id) : dropI xs id = xs :=
  List.filter_eq_self.2 fun x hx => by simpa using h x hx
theorem putI_last (xs : List DItem) (x : DItem) (h : ∀ y ∈ xs, y.id < x.id) : putI xs x.id x.vec = xs ++ [x] := by
  rw [putI, dropI_none (fun y hy => by have := h y hy; omega), insI_last _ _ h]
theorem rising_take {xs : List DItem} (h : Rising xs) {k : Nat} (hk : k < xs.length) : ∀ y ∈ xs.take k, y.id < xs[k].id := by
  intro y hy
  obtain ⟨j, hj, rfl⟩ := List.getElem_of_mem hy
  rw [List.length_take] at hj
  rw [List.getElem_take]
  exact List.pairwise_iff_getElem.1 h j k (by omega) hk (by omega)
theorem mem_insI {x y : DItem} {xs : List DItem} : y ∈ insI x xs ↔ y = x ∨ y ∈ xs := by
  induction xs with
  | nil => simp [insI]
  | cons z r ih =>
    rw [insI]
    by_cases h : x.id < z.id
    · rw [if_pos h]; simp
    · rw [if_neg h, List.mem_cons, ih, List.mem_cons]
      constructor
      · rintro (h | h | h) <;> simp [h]
      · rintro (h | h | h) <;> simp [h]
theorem insI_rising {x : DItem} {xs : List DItem} (h : Rising xs) (hn : ∀ y ∈ xs, y.id ≠ x.id) : Rising (insI x xs) := by
  induction xs with
  | nil => exact List.pairwise_singleton _ _
  | cons z r ih =>
    obtain ⟨h1, h2⟩ := List.pairwise_cons.1 h
    have hz := hn z (by simp)
    rw [insI]
    by_cases hlt : x.id < z.id
    · rw [if_pos hlt]
      refine List.pairwise_cons.2 ⟨fun y hy => ?_, h⟩
      rcases List.mem_cons.1 hy with rfl | hy
      · exact hlt
      · exact Int.lt_trans hlt (h1 y hy)
    · rw [if_neg hlt]
      refine List.pairwise_cons.2 ⟨fun y hy => ?_, ih h2 fun y hy => hn y (List.mem_cons_of_mem _ hy)⟩
      rcases mem_insI.1 hy with rfl | hy
      · omega
      · exact h1 y hy
theorem insI_len (x : DItem) (xs : List DItem) : (insI x xs).length = xs.length + 1 := by
  induction xs with
  | nil => rfl
  | cons z r ih =>
    rw [insI]
    by_cases h : x.id < z.id
    · rw [if_pos h]; rfl
    · rw [if_neg h, List.length_cons, ih]; rfl
theorem dropI_rising {xs : List DItem} (h : Rising xs) (id : Int) : Rising (dropI xs id) := h.filter _
theorem mem_dropI {xs : List DItem} {id : Int} {x : DItem} : x ∈ dropI xs id ↔ x ∈ xs ∧ x.id ≠ id := by simp [dropI]
theorem putI_rising {xs : List DItem} (h : Rising xs) (id : Int) (vec : List Int) : Rising (putI xs id vec) := insI_rising (dropI_rising h id) fun _ hy => (mem_dropI.1 hy).2
theorem mem_putI {xs : List DItem} {id : Int} {vec : List Int} {x : DItem} : x ∈ putI xs id vec ↔ x = ⟨id, vec⟩ ∨ (x ∈ xs ∧ x.id ≠ id) := by rw [putI, mem_insI, mem_dropI]
theorem dropI_len {xs : List DItem} (h : Rising xs) {id : Int} (hi : hasI xs id = true) : (dropI xs id).length + 1 = xs.length := by
  induction xs with
  | nil => simp [hasI] at hi
  | cons z r ih =>
    obtain ⟨h1, h2⟩ := List.pairwise_cons.1 h
    by_cases e : z.id = id
    · have : dropI (z :: r) id = r := by
        have hr := dropI_none (xs := r) (id := id) (fun x hx => by have := h1 x hx; omega)
        simp only [dropI, List.filter_cons, e, beq_self_eq_true, Bool.not_true, Bool.false_eq_true, if_false]
        exact hr
      rw [this]; rfl
    · have hi2 : hasI r id = true := by simpa [hasI, e] using hi
      have : dropI (z :: r) id = z :: dropI r id := by simp [dropI, e]
      rw [this, List.length_cons, List.length_cons, ih h2 hi2]
theorem dropI_le (xs : List DItem) (id : Int) : (dropI xs id).length ≤ xs.length := List.length_filter_le _ _
theorem putI_len {xs : List DItem} (h : Rising xs) (id : Int) (vec : List Int) : (putI xs id vec).length = if hasI xs id then xs.length else xs.length + 1 := by
  rw [putI, insI_len]
  by_cases hi : hasI xs id = true
  · rw [if_pos hi]; exact dropI_len h hi
  · rw [if_neg hi, dropI_none (hasI_false (by simpa using hi))]
/-- A right table. -/
def Right (xs : List DItem) : Prop := tableFault xs = 0
theorem right_put {xs : List DItem} (h : Right xs) {id : Int} {vec : List Int} (hi : idB id = true) (hv : vecFault vec = 0) (hroom : hasI xs id = true ∨ xs.length < 30) : Right (putI xs id vec) := by
  obtain ⟨hl, h1, h2⟩ := tableFault_zero h
  refine tableFault_of ?_ (fun x hx => ?_) (putI_rising h2 id vec)
  · rw [putI_len h2]; split
    · exact hl
    · rename_i hn; rcases hroom with h | h
      · exact absurd h hn
      · omega
  · rcases mem_putI.1 hx with rfl | ⟨hx, -⟩
    · exact ⟨hi, hv⟩
    · exact h1 x hx
theorem right_drop {xs : List DItem} (h : Right xs) (id : Int) : Right (dropI xs id) := by
  obtain ⟨hl, h1, h2⟩ := tableFault_zero h
  exact tableFault_of (Nat.le_trans (dropI_le xs id) hl) (fun x hx => h1 x (mem_dropI.1 hx).1) (dropI_rising h2 id)
theorem right_nil : Right [] := rfl

end Go.Proofs.Ytkmfkaljdngigaa

namespace Go.Proofs.Ytkmfkaljdngigaa
open Go.RowKit

def pickI : Option DItem → DIntsResult
  | some x => ⟨0, x.vec⟩
  | none => ⟨4, []⟩
def getI (xs : List DItem) (id : Int) : DIntsResult :=
  if tableFault xs = 0 then (if idB id then pickI (xs.find? (fun x => x.id == id)) else ⟨3, []⟩) else ⟨tableFault xs, []⟩
theorem tabFrom_vals (p : Option Int) (xs : List DItem) : 0 ≤ tabFrom p xs ∧ tabFrom p xs ≤ 3 := by
  induction xs generalizing p with
  | nil => exact ⟨Int.le_refl _, (show (0 : Int) ≤ 3 by decide)⟩
  | cons x xs ih =>
    rw [tabFrom]
    have hv : 0 ≤ vecFault x.vec ∧ vecFault x.vec ≤ 3 := by unfold vecFault; split <;> (try split) <;> decide
    split
    · split
      · split
        · exact ih _
        · decide
      · exact hv
    · decide
theorem tableFault_vals (xs : List DItem) : 0 ≤ tableFault xs ∧ tableFault xs ≤ 3 := by
  unfold tableFault
  split
  · decide
  · exact tabFrom_vals none xs
theorem code_wf (xs : List DItem) : (Lit.int .i64 (tableFault xs)).wf = true := wf_of_bd (by have := tableFault_vals xs; omega)
theorem own_ints {w : World} {c : Int} {v : Value} {zs : List Int} {lo hi : Nat} (hc : (Lit.int .i64 c).wf = true) (h : (Lay.sl Lay.int).OwnIn w [v] zs lo hi) : Lay.tIntsResult.OwnIn w [.int .i64 c, v] ⟨c, zs⟩ lo hi := by
  obtain ⟨bl, ⟨l, n, f⟩, i⟩ := h
  exact ⟨bl, ⟨⟨[.int .i64 c], [v], [], bl, rfl, by simp, ⟨rfl, hc, rfl⟩, l⟩, n, f⟩, i⟩
theorem own_noInts {w : World} {lo hi : Nat} : (Lay.sl Lay.int).OwnIn w [.slice none 0 0] [] lo hi := ⟨[], ⟨Lay.lies_ints.2 ⟨none, 0, rfl, by simp, by simp, Or.inl ⟨rfl, rfl⟩⟩, by simp, by simp⟩, by simp⟩
theorem own_codeInts {w : World} {c : Int} {lo hi : Nat} (hc : (Lit.int .i64 c).wf = true) : Lay.tIntsResult.OwnIn w [.int .i64 c, .slice none 0 0] ⟨c, []⟩ lo hi := own_ints hc own_noInts
theorem find_at {xs : List DItem} {id : Int} {x : DItem} (h : xs.find? (fun x => x.id == id) = some x) : x ∈ xs ∧ x.id = id := ⟨List.mem_of_find?_eq_some h, by simpa using List.find?_some h⟩
theorem find_none {xs : List DItem} {id : Int} (h : xs.find? (fun x => x.id == id) = none) : hasI xs id = false := by
  rw [List.find?_eq_none] at h
  simpa [hasI] using h

end Go.Proofs.Ytkmfkaljdngigaa

namespace Go.Proofs.Ytkmfkaljdngigaa
open Go.RowKit

def roomB (xs : List DItem) (id : Int) : Bool := hasI xs id || decide (xs.length < 30)
def putR (xs : List DItem) (id : Int) (vec : List Int) : DTableResult :=
  if tableFault xs = 0 then (if idB id then (if vecFault vec = 0 then (if roomB xs id then ⟨0, putI xs id vec⟩ else ⟨2, []⟩) else ⟨vecFault vec, []⟩) else ⟨3, []⟩) else ⟨tableFault xs, []⟩
def dropR (xs : List DItem) (id : Int) : DTableResult :=
  if tableFault xs = 0 then (if idB id then ⟨0, dropI xs id⟩ else ⟨3, []⟩) else ⟨tableFault xs, []⟩
theorem vecFault_vals (zs : List Int) : 0 ≤ vecFault zs ∧ vecFault zs ≤ 3 := by unfold vecFault; split <;> (try split) <;> decide
theorem vcode_wf (zs : List Int) : (Lit.int .i64 (vecFault zs)).wf = true := wf_of_bd (by have := vecFault_vals zs; omega)
theorem own_items {w : World} {c : Int} {v : Value} {xs : List DItem} {lo hi : Nat} (hc : (Lit.int .i64 c).wf = true) (h : (Lay.sl Lay.tItem).OwnIn w [v] xs lo hi) : Lay.tTableResult.OwnIn w [.int .i64 c, v] ⟨c, xs⟩ lo hi := by
  obtain ⟨bl, ⟨l, n, f⟩, i⟩ := h
  exact ⟨bl, ⟨⟨[.int .i64 c], [v], [], bl, rfl, by simp, ⟨rfl, hc, rfl⟩, l⟩, n, f⟩, i⟩
theorem reads_items {w : World} {c : Int} {v : Value} {xs : List DItem} (hc : (Lit.int .i64 c).wf = true) (h : (Lay.sl Lay.tItem).Reads w [v] xs) : Lay.tTableResult.Reads w [.int .i64 c, v] ⟨c, xs⟩ := by
  obtain ⟨bl, l⟩ := h
  exact ⟨bl, ⟨[.int .i64 c], [v], [], bl, rfl, by simp, ⟨rfl, hc, rfl⟩, l⟩⟩
theorem own_noItems {w : World} {lo hi : Nat} : (Lay.sl Lay.tItem).OwnIn w [.slice none 0 0] [] lo hi := ⟨[], ⟨⟨none, 0, rfl, by simp, Or.inl ⟨rfl, rfl⟩⟩, by simp, by simp⟩, by simp⟩
theorem own_codeItems {w : World} {c : Int} {lo hi : Nat} (hc : (Lit.int .i64 c).wf = true) : Lay.tTableResult.OwnIn w [.int .i64 c, .slice none 0 0] ⟨c, []⟩ lo hi := own_items hc own_noItems
theorem room_true {xs : List DItem} {id : Int} (h : roomB xs id = true) : hasI xs id = true ∨ xs.length < 30 := by simpa [roomB] using h
theorem room_false {xs : List DItem} {id : Int} (h : roomB xs id = false) : hasI xs id = false ∧ 30 ≤ xs.length := by simpa [roomB] using h
theorem right_of {xs : List DItem} (h : tableFault xs = 0) : Right xs := h
/-- Of a right table: how many marks. -/
theorem right_few {xs : List DItem} (h : Right xs) : cntAll Lay.tItem.cnt xs ≤ 1000 := by
  obtain ⟨hl, ha, -⟩ := tableFault_zero h
  have : ∀ ys : List DItem, (∀ x ∈ ys, x.vec.length = 3) → cntAll Lay.tItem.cnt ys ≤ 4 * ys.length := by
    intro ys
    induction ys with
    | nil => intro _; exact Nat.le_refl _
    | cons y ys ih =>
      intro hy
      have h1 := ih fun x hx => hy x (List.mem_cons_of_mem _ hx)
      have h2 : Lay.tItem.cnt y = 4 := by
        show 1 + (Lay.sl Lay.int).cnt y.vec = 4
        have e := hy y (by simp)
        have : cntAll (fun _ => 1) y.vec = y.vec.length := by
          generalize y.vec = zs
          induction zs with
          | nil => rfl
          | cons z zs ih => simp [cntAll, ih]; omega
        show 1 + cntAll (fun _ => 1) y.vec = 4
        omega
      simp only [cntAll, List.length_cons]
      omega
  have := this xs fun x hx => (vecFault_zero (ha x hx).2).1
  omega

end Go.Proofs.Ytkmfkaljdngigaa

namespace Go.Proofs.Ytkmfkaljdngigaa
open Go.RowKit

/-- Ahead of item x: the new one, if its turn has come. -/
def setNew (nw : DItem) (st : List DItem × Bool) (x : DItem) : List DItem × Bool := if st.2 = false ∧ nw.id ≤ x.id then (st.1 ++ [nw], true) else st
def setOld (nw : DItem) (st : List DItem × Bool) (x : DItem) : List DItem × Bool := if x.id = nw.id then st else (st.1 ++ [x], st.2)
def setStep (nw : DItem) (st : List DItem × Bool) (x : DItem) : List DItem × Bool := setOld nw (setNew nw st x) x
def setFin (nw : DItem) (st : List DItem × Bool) : List DItem := if st.2 then st.1 else st.1 ++ [nw]
def setM (xs : List DItem) (nw : DItem) (has : Bool) : List DItem := setFin nw (xs.foldl (setStep nw) ([], !has))

theorem step_done (nw : DItem) (acc : List DItem) (xs : List DItem) : xs.foldl (setStep nw) (acc, true) = (acc ++ dropI xs nw.id, true) := by
  induction xs generalizing acc with
  | nil => simp [dropI]
  | cons y r ih =>
    rw [List.foldl_cons]
    have e1 : setNew nw (acc, true) y = (acc, true) := by simp [setNew]
    by_cases h : y.id = nw.id
    · have : setStep nw (acc, true) y = (acc, true) := by rw [setStep, e1, setOld, if_pos h]
      rw [this, ih]
      simp [dropI, h]
    · have : setStep nw (acc, true) y = (acc ++ [y], true) := by rw [setStep, e1, setOld, if_neg h]
      rw [this, ih]
      simp [dropI, h]
theorem insI_first (nw : DItem) (xs : List DItem) (h : ∀ y ∈ xs, nw.id < y.id) : insI nw xs = nw :: xs := by
  cases xs with
  | nil => rfl
  | cons y r => rw [insI, if_pos (h y (by simp))]
theorem step_put (nw : DItem) (acc : List DItem) (xs : List DItem) (hr : Rising xs) : setFin nw (xs.foldl (setStep nw) (acc, false)) = acc ++ putI xs nw.id nw.vec := by
  induction xs generalizing acc with
  | nil => simp [setFin, putI, dropI, insI]
  | cons y r ih =>
    obtain ⟨h1, h2⟩ := List.pairwise_cons.1 hr
    rw [List.foldl_cons]
    by_cases hle : nw.id ≤ y.id
    · have e1 : setNew nw (acc, false) y = (acc ++ [nw], true) := by simp [setNew, hle]
      by_cases h : y.id = nw.id
      · have : setStep nw (acc, false) y = (acc ++ [nw], true) := by rw [setStep, e1, setOld, if_pos h]
        rw [this, step_done, setFin]
        have e2 : dropI (y :: r) nw.id = dropI r nw.id := by simp [dropI, h]
        rw [putI, e2, insI_first _ _ (fun z hz => by have := h1 z (mem_dropI.1 hz).1; show nw.id < z.id; omega)]
        simp
      · have : setStep nw (acc, false) y = (acc ++ [nw] ++ [y], true) := by rw [setStep, e1, setOld, if_neg h]
        rw [this, step_done, setFin]
        have e2 : dropI (y :: r) nw.id = y :: dropI r nw.id := by simp [dropI, h]
        rw [putI, e2, insI, if_pos (show nw.id < y.id by omega)]
        simp
    · have e1 : setNew nw (acc, false) y = (acc, false) := by simp [setNew, hle]
      have h : y.id ≠ nw.id := by omega
      have : setStep nw (acc, false) y = (acc ++ [y], false) := by rw [setStep, e1, setOld, if_neg h]
      rw [this, ih _ h2]
      have e2 : dropI (y :: r) nw.id = y :: dropI r nw.id := by simp [dropI, h]
      rw [putI, putI, e2, insI, if_neg (show ¬ nw.id < y.id by omega)]
      simp
theorem setM_put {xs : List DItem} (hr : Rising xs) (nw : DItem) : setM xs nw true = putI xs nw.id nw.vec := by
  have := step_put nw [] xs hr
  simpa [setM] using this
theorem setM_drop (xs : List DItem) (nw : DItem) : setM xs nw false = dropI xs nw.id := by
  have := step_done nw [] xs
  simp only [setM, Bool.not_false]
  rw [this]
  simp [setFin]
theorem setM_len (nw : DItem) (st : List DItem × Bool) (x : DItem) : (setStep nw st x).1.length ≤ st.1.length + 2 := by
  unfold setStep setOld setNew
  split <;> split <;> simp <;> omega

theorem setM_size (xs : List DItem) (nw : DItem) (has : Bool) : (setM xs nw has).length ≤ 2 * xs.length + 1 := by
  have : ∀ (ys : List DItem) (st : List DItem × Bool), (ys.foldl (setStep nw) st).1.length ≤ st.1.length + 2 * ys.length := by
    intro ys
    induction ys with
    | nil => intro st; simp
    | cons y ys ih =>
      intro st
      have h1 := ih (setStep nw st y)
      have h2 := setM_len nw st y
      simp only [List.foldl_cons, List.length_cons]
      omega
  have h := this xs ([], !has)
  unfold setM setFin
  split
  · simp at h; omega
  · simp at h ⊢; omega

end Go.Proofs.Ytkmfkaljdngigaa

namespace Go.Proofs.Ytkmfkaljdngigaa
open Go.RowKit

structure DMsg where
  kind : Int
  epoch : Int
  src : Int
  dst : Int
  index : Int
  write : DWrite

def Lay.tMsg : Lay DMsg := Lay.via (Lay.pair Lay.int (Lay.pair Lay.int (Lay.pair Lay.int (Lay.pair Lay.int (Lay.pair Lay.int Lay.tWrite))))) (fun x => (x.kind, x.epoch, x.src, x.dst, x.index, x.write)) (fun p => ⟨p.1, p.2.1, p.2.2.1, p.2.2.2.1, p.2.2.2.2.1, p.2.2.2.2.2⟩)

theorem lies_Msg {w : World} {cs : List Value} {x : DMsg} {bl : List Nat} : Lay.tMsg.lies w cs x bl ↔ ∃ (a7 : Option Addr) (d7 : Nat) (b7 : List Nat), cs = [.int .i64 x.kind, .int .i64 x.epoch, .int .i64 x.src, .int .i64 x.dst, .int .i64 x.index, .int .i64 x.write.kind, .int .i64 x.write.id, .slice a7 x.write.vec.length d7, .int .i64 x.write.session, .int .i64 x.write.seq] ∧ bl = b7 ∧ (Lit.int .i64 x.kind).wf = true ∧ (Lit.int .i64 x.epoch).wf = true ∧ (Lit.int .i64 x.src).wf = true ∧ (Lit.int .i64 x.dst).wf = true ∧ (Lit.int .i64 x.index).wf = true ∧ (Lit.int .i64 x.write.kind).wf = true ∧ (Lit.int .i64 x.write.id).wf = true ∧ (Lay.sl Lay.int).lies w [.slice a7 x.write.vec.length d7] x.write.vec b7 ∧ (Lit.int .i64 x.write.session).wf = true ∧ (Lit.int .i64 x.write.seq).wf = true := by
  constructor
  · intro h
    obtain ⟨c0_, r0_, e0_, s0_, rfl, rfl, h0, ⟨c1_, r1_, e1_, s1_, rfl, rfl, h1, ⟨c2_, r2_, e2_, s2_, rfl, rfl, h2, ⟨c3_, r3_, e3_, s3_, rfl, rfl, h3, ⟨c4_, r4_, e4_, s4_, rfl, rfl, h4, h5⟩⟩⟩⟩⟩ := h
    obtain ⟨rfl, w0, rfl⟩ := h0
    obtain ⟨rfl, w1, rfl⟩ := h1
    obtain ⟨rfl, w2, rfl⟩ := h2
    obtain ⟨rfl, w3, rfl⟩ := h3
    obtain ⟨rfl, w4, rfl⟩ := h4
    obtain ⟨a7, d7, q7, rfl, hq5, w5, w6, l7, w8, w9⟩ := lies_Write.1 h5
    exact ⟨a7, d7, q7, by simp, by simp [hq5], w0, w1, w2, w3, w4, w5, w6, l7, w8, w9⟩
  · rintro ⟨a7, d7, b7, rfl, hbl, w0, w1, w2, w3, w4, w5, w6, l7, w8, w9⟩
    rw [hbl]
    exact ⟨[.int .i64 x.kind], [.int .i64 x.epoch] ++ ([.int .i64 x.src] ++ ([.int .i64 x.dst] ++ ([.int .i64 x.index] ++ [.int .i64 x.write.kind, .int .i64 x.write.id, .slice a7 x.write.vec.length d7, .int .i64 x.write.session, .int .i64 x.write.seq]))), [], [] ++ ([] ++ ([] ++ ([] ++ (b7)))), rfl, by simp, ⟨rfl, w0, rfl⟩, ⟨[.int .i64 x.epoch], [.int .i64 x.src] ++ ([.int .i64 x.dst] ++ ([.int .i64 x.index] ++ [.int .i64 x.write.kind, .int .i64 x.write.id, .slice a7 x.write.vec.length d7, .int .i64 x.write.session, .int .i64 x.write.seq])), [], [] ++ ([] ++ ([] ++ (b7))), rfl, by simp, ⟨rfl, w1, rfl⟩, ⟨[.int .i64 x.src], [.int .i64 x.dst] ++ ([.int .i64 x.index] ++ [.int .i64 x.write.kind, .int .i64 x.write.id, .slice a7 x.write.vec.length d7, .int .i64 x.write.session, .int .i64 x.write.seq]), [], [] ++ ([] ++ (b7)), rfl, by simp, ⟨rfl, w2, rfl⟩, ⟨[.int .i64 x.dst], [.int .i64 x.index] ++ [.int .i64 x.write.kind, .int .i64 x.write.id, .slice a7 x.write.vec.length d7, .int .i64 x.write.session, .int .i64 x.write.seq], [], [] ++ (b7), rfl, by simp, ⟨rfl, w3, rfl⟩, ⟨[.int .i64 x.index], [.int .i64 x.write.kind, .int .i64 x.write.id, .slice a7 x.write.vec.length d7, .int .i64 x.write.session, .int .i64 x.write.seq], [], b7, rfl, by simp, ⟨rfl, w4, rfl⟩, lies_Write.2 ⟨a7, d7, b7, rfl, rfl, w5, w6, l7, w8, w9⟩⟩⟩⟩⟩⟩

theorem open_Msg {w : World} {cs : List Value} {x : DMsg} (h : Lay.tMsg.Reads w cs x) : ∃ (a7 : Option Addr) (d7 : Nat), cs = [.int .i64 x.kind, .int .i64 x.epoch, .int .i64 x.src, .int .i64 x.dst, .int .i64 x.index, .int .i64 x.write.kind, .int .i64 x.write.id, .slice a7 x.write.vec.length d7, .int .i64 x.write.session, .int .i64 x.write.seq] ∧ Lay.tWrite.Reads w [.int .i64 x.write.kind, .int .i64 x.write.id, .slice a7 x.write.vec.length d7, .int .i64 x.write.session, .int .i64 x.write.seq] x.write := by
  obtain ⟨bl, h⟩ := h
  obtain ⟨a7, d7, b7, rfl, -, w0, w1, w2, w3, w4, w5, w6, l7, w8, w9⟩ := lies_Msg.1 h
  exact ⟨a7, d7, rfl, ⟨_, lies_Write.2 ⟨a7, d7, _, rfl, rfl, w5, w6, l7, w8, w9⟩⟩⟩

end Go.Proofs.Ytkmfkaljdngigaa

namespace Go.Proofs.Ytkmfkaljdngigaa

theorem info2 : (Try.prog.info? 2).map (fun i => (i.zero, i.size, i.bytes)) = some (some (.int .i64 0), 1, 8) := by kernel_rfl

end Go.Proofs.Ytkmfkaljdngigaa

namespace Go.Proofs.Ytkmfkaljdngigaa
open Go.RowKit

set_option maxHeartbeats 400000 in
theorem toInts_pos (b off cap : Nat) (zs : List Int) (w : World) (hn : zs.length ≤ 1048576) (hc : ∀ j, j < zs.length → w.cell? ⟨b, off + j, none⟩ = some (.int .i64 (zs.getD j 0))) :
    Calls Try.prog 57 #[.slice (some ⟨b, off, none⟩) zs.length cap] w fun e w' => e = .returned (.slice (some ⟨w.heap.size, 0, none⟩) zs.length zs.length) ∧
      w'.ownsRow w.heap.size 2 1 (.slice (some ⟨w.heap.size, 0, none⟩) zs.length zs.length) zs.length (zs.map (Value.int .i64)) ∧ Below w.heap.size w w' := by
  obtain ⟨i0, hi, hz0, hz1, hz2⟩ := info_parts info2
  go_enter Try.func57, Try.ntmps57
  go_wp2_with (at_make; refine wpList_make_full _ rfl _ _ 22 rfl w.heap.size 2 i0 (.int .i64 0) 1 Try.underlying22 hi hz0 hz1 _ _ _ _ zs.length rfl rfl rfl rfl ?c1 ?c2 ?c3 ?_)
  case c1 => rw [hz2]; omega
  case c2 => unfold maxLen; omega
  case c3 => exact Nat.le_refl _
  intro w1 hown1 hgrow1
  have hB1 : Below w.heap.size w w1 := (Below.refl _ _).grown hgrow1 (Nat.le_refl _) (by simp)
  rw [toList_madeCells_one] at hown1
  clear hgrow1 hi hz0 hz1 hz2
  go_wp2
  go_loopw [4] (fun i wr => ∃ k : Nat, k ≤ zs.length ∧ i = .int .i64 k ∧ wr.ownsRow w.heap.size 2 1 (.slice (some ⟨w.heap.size, 0, none⟩) zs.length zs.length) zs.length ((zs.take k).map (Value.int .i64) ++ List.replicate (zs.length - k) (Value.int .i64 0)) ∧ Below w.heap.size w wr)
    (fun i _ => zs.length - (intOf i).toNat)
  case atStart => exact ⟨0, Nat.zero_le _, rfl, by simpa using hown1, hB1⟩
  case round =>
    obtain ⟨k, hk, rfl, hown, hB⟩ := hrel
    clear hown1 hB1
    by_cases hlt : k < zs.length
    · have hcx : wr.cell? ⟨b, off + k, none⟩ = some (.int .i64 (zs.getD k 0)) := (hB.cell (World.block_lt_of_cell? _ _ (hc k hlt))).trans (hc k hlt)
      have hcd : ∃ u, wr.cell? ⟨w.heap.size, k, none⟩ = some u := by
        rw [hown.cellAt k (by omega)]
        exact ⟨_, List.getElem?_eq_getElem (by simp; omega)⟩
      obtain ⟨u, hcd⟩ := hcd
      have hfz := hown.frozenAt k
      have hst := hown.stored k (.int .i64 (zs.getD k 0))
      rw [set_fill zs k hlt] at hst
      have R := hst.1
      have hB2 : Below w.heap.size w (wr.setCell ⟨w.heap.size, k, none⟩ (.int .i64 (zs.getD k 0))) := hB.setCell (by simp) _
      clear hst hown hB
      go_wp2
      go_roundw
      case rel => exact ⟨k + 1, by omega, by go_num, by simpa [hlt] using R, by simpa [hlt] using hB2⟩
      case measure => simp [intOf]; omega
    · have hk2 : k = zs.length := by omega
      go_wp2
      go_ret
      subst hk2
      exact ⟨rfl, by simpa using hown, hB⟩

set_option maxHeartbeats 400000 in
theorem toInts_zero (ao : Option Addr) (cap : Nat) (w : World) :
    Calls Try.prog 57 #[.slice ao 0 cap] w fun e w' => e = .returned (.slice (some ⟨w.heap.size, 0, none⟩) 0 0) ∧
      w'.ownsRow w.heap.size 2 1 (.slice (some ⟨w.heap.size, 0, none⟩) 0 0) 0 [] ∧ Below w.heap.size w w' := by
  obtain ⟨i0, hi, hz0, hz1, hz2⟩ := info_parts info2
  go_enter Try.func57, Try.ntmps57
  go_wp2_with (at_make; refine wpList_make_full _ rfl _ _ 22 rfl w.heap.size 2 i0 (.int .i64 0) 1 Try.underlying22 hi hz0 hz1 _ _ _ _ 0 rfl rfl rfl rfl ?c1 ?c2 ?c3 ?_)
  case c1 => rw [hz2]; omega
  case c2 => unfold maxLen; omega
  case c3 => exact Nat.le_refl _
  intro w1 hown1 hgrow1
  have hB1 : Below w.heap.size w w1 := (Below.refl _ _).grown hgrow1 (Nat.le_refl _) (by simp)
  clear hgrow1 hi hz0 hz1 hz2
  rw [toList_madeCells_one] at hown1
  go_wp2
  refine wp_loop_rounds 1 ?_
  rw [rounds_succ]
  go_wp2
  go_ret
  exact ⟨rfl, by simpa using hown1, hB1⟩

/-- toInt64S: a new slice of the same numbers. -/
theorem toInts (v : Value) (zs : List Int) (w : World) (h : IsInts w v zs) (hn : zs.length ≤ 1048576) :
    Calls Try.prog 57 #[v] w fun e w' => ∃ v', e = .returned v' ∧ v' = .slice (some ⟨w.heap.size, 0, none⟩) zs.length zs.length ∧
      w'.ownsRow w.heap.size 2 1 v' zs.length (zs.map (Value.int .i64)) ∧ IsInts w' v' zs ∧ Below w.heap.size w w' := by
  obtain ⟨ao, cap, rfl, hwf, hc⟩ := h
  by_cases hp : 0 < zs.length
  · obtain ⟨b, off, rfl, hc1⟩ := hc hp
    refine (toInts_pos b off cap zs w hn hc1).mono ?_
    rintro e w' ⟨rfl, ho, hb⟩
    exact ⟨_, rfl, rfl, ho, isInts_owned hwf ho, hb⟩
  · have hz : zs = [] := List.eq_nil_of_length_eq_zero (by omega)
    subst hz
    refine (toInts_zero ao cap w).mono ?_
    rintro e w' ⟨rfl, ho, hb⟩
    exact ⟨_, rfl, rfl, ho, isInts_owned hwf ho, hb⟩

set_option maxHeartbeats 400000 in
theorem eqInts_pos (b off cap b2 off2 cap2 : Nat) (zs : List Int) (w : World) (hn : zs.length ≤ 9223372036854775807) (hc : ∀ j, j < zs.length → w.cell? ⟨b, off + j, none⟩ = some (.int .i64 (zs.getD j 0)))
    (hc2 : ∀ j, j < zs.length → w.cell? ⟨b2, off2 + j, none⟩ = some (.int .i64 (zs.getD j 0))) :
    Calls Try.prog 66 #[.slice (some ⟨b, off, none⟩) zs.length cap, .slice (some ⟨b2, off2, none⟩) zs.length cap2] w fun e w' => e = .returned (.bool true) ∧ Below w.heap.size w w' := by
  go_enter Try.func66, Try.ntmps66
  go_wp2
  go_loopw [5] (fun i wr => ∃ k : Nat, k ≤ zs.length ∧ i = .int .i64 k ∧ Below w.heap.size w wr) (fun i _ => zs.length - (intOf i).toNat)
  case atStart => exact ⟨0, Nat.zero_le _, rfl, Below.refl _ _⟩
  case round =>
    obtain ⟨k, hk, rfl, hB⟩ := hrel
    by_cases hlt : k < zs.length
    · have hcx : wr.cell? ⟨b, off + k, none⟩ = some (.int .i64 (zs.getD k 0)) := (hB.cell (World.block_lt_of_cell? _ _ (hc k hlt))).trans (hc k hlt)
      have hcy : wr.cell? ⟨b2, off2 + k, none⟩ = some (.int .i64 (zs.getD k 0)) := (hB.cell (World.block_lt_of_cell? _ _ (hc2 k hlt))).trans (hc2 k hlt)
      clear hc hc2
      go_wp2
      go_quiet (fail)
      go_wp2
      go_roundw
      case rel => exact ⟨k + 1, by omega, by go_num, below_drewN hB _⟩
      case measure => simp [intOf]; omega
    · go_wp2
      go_ret
      exact ⟨rfl, hB⟩

set_option maxHeartbeats 400000 in
theorem eqInts_zero (ao ao2 : Option Addr) (cap cap2 : Nat) (w : World) :
    Calls Try.prog 66 #[.slice ao 0 cap, .slice ao2 0 cap2] w fun e w' => e = .returned (.bool true) ∧ Below w.heap.size w w' := by
  go_enter Try.func66, Try.ntmps66
  go_wp2
  refine wp_loop_rounds 1 ?_
  rw [rounds_succ]
  go_wp2
  go_ret
  exact ⟨rfl, Below.refl _ _⟩

/-- eqInt64S: two slices of the same numbers are the same. -/
theorem eqIntsBig (v v2 : Value) (zs : List Int) (w : World) (h : IsInts w v zs) (h2 : IsInts w v2 zs) (hn : zs.length ≤ 9223372036854775807) :
    Calls Try.prog 66 #[v, v2] w fun e w' => e = .returned (.bool true) ∧ Below w.heap.size w w' := by
  obtain ⟨ao, cap, rfl, hwf, hc⟩ := h
  obtain ⟨ao2, cap2, rfl, _, hc2⟩ := h2
  by_cases hp : 0 < zs.length
  · obtain ⟨b, off, rfl, hc1⟩ := hc hp
    obtain ⟨b2, off2, rfl, hc3⟩ := hc2 hp
    exact eqInts_pos b off cap b2 off2 cap2 zs w hn hc1 hc3
  · have hz : zs = [] := List.eq_nil_of_length_eq_zero (by omega)
    subst hz
    exact eqInts_zero ao ao2 cap cap2 w
theorem eqInts (v v2 : Value) (zs : List Int) (w : World) (h : IsInts w v zs) (h2 : IsInts w v2 zs) (hn : zs.length ≤ 1048576) :
    Calls Try.prog 66 #[v, v2] w fun e w' => e = .returned (.bool true) ∧ Below w.heap.size w w' := eqIntsBig v v2 zs w h h2 (by omega)

end Go.Proofs.Ytkmfkaljdngigaa

namespace Go.Proofs.Ytkmfkaljdngigaa
open Go.RowKit

theorem sz_ints (zs : List Int) : (Lay.sl Lay.int).sz zs = zs.length := by
  show zs.length + cntAll (fun _ => 0) zs = zs.length
  have : cntAll (fun _ : Int => 0) zs = 0 := by induction zs with
    | nil => rfl
    | cons z zs ih => simpa [cntAll] using ih
  omega

theorem to_Int64S (v : Value) (zs : List Int) (w : World) (h : (Lay.sl Lay.int).Reads w [v] zs) (hn : (Lay.sl Lay.int).sz zs ≤ 1048576) :
    Calls Try.prog 57 #[v] w fun e w' => ∃ v', e = .returned v' ∧ (Lay.sl Lay.int).OwnIn w' [v'] zs w.heap.size w'.heap.size ∧ Below w.heap.size w w' := by
  rw [sz_ints] at hn
  have hi := Lay.ints_reads h
  refine (toInts v zs w hi hn).mono ?_
  rintro e w' ⟨v', rfl, -, ho, -, hb⟩
  exact ⟨v', rfl, Lay.ownInts hi.wf (by omega) ho, hb⟩

theorem eq_Int64S (v v2 : Value) (zs : List Int) (w : World) (h : (Lay.sl Lay.int).Reads w [v] zs) (h2 : (Lay.sl Lay.int).Reads w [v2] zs) :
    Calls Try.prog 66 #[v, v2] w fun e w' => e = .returned (.bool true) ∧ Below w.heap.size w w' :=
  eqIntsBig v v2 zs w (Lay.ints_reads h) (Lay.ints_reads h2) h.big

end Go.Proofs.Ytkmfkaljdngigaa

namespace Go.Proofs.Ytkmfkaljdngigaa
open Go.RowKit

set_option maxHeartbeats 400000 in
theorem sz_Int64S (v : Value) (zs : List Int) (l : Nat) (w : World) (h : (Lay.sl Lay.int).Reads w [v] zs) (hl : l ≤ 1048576) :
    Calls Try.prog 54 #[v, .int .i64 l] w fun e w' => e = .returned (.int .i64 (szR l ((Lay.sl Lay.int).sz zs))) ∧ Below w.heap.size w w' := by
  have hb := h.big
  obtain ⟨ao, cap, rfl⟩ := open_sl h
  rw [sz_ints]
  generalize zs.length = n at *
  clear h
  by_cases hn : n ≤ l
  · rw [szR_ok hn]
    have e1 : (l : Int) - (n : Int) = ((l - n : Nat) : Int) := by omega
    have e2 : decide (((l - n : Nat) : Int) < 0) = false := by simp
    go_enter Try.func54, Try.ntmps54
    go_wp2_with fail
    go_ret
    exact ⟨rfl, Below.refl _ _⟩
  · rw [szR_many (by omega)]
    have e2 : decide ((l : Int) - (n : Int) < 0) = true := by simp; omega
    go_enter Try.func54, Try.ntmps54
    go_wp2_with fail
    go_ret
    exact ⟨rfl, Below.refl _ _⟩

end Go.Proofs.Ytkmfkaljdngigaa

namespace Go.Proofs.Ytkmfkaljdngigaa
open Go.RowKit

theorem szsum_Write (x : DWrite) : Lay.tWrite.sz x = (Lay.sl Lay.int).sz x.vec := by
  show 0 + (0 + ((Lay.sl Lay.int).sz x.vec + (0 + (0)))) = (Lay.sl Lay.int).sz x.vec
  omega
set_option maxRecDepth 10000 in
set_option maxHeartbeats 1000000 in
theorem sz_Write (cs : List Value) (x : DWrite) (l : Nat) (w : World) (h : Lay.tWrite.Reads w cs x) (hl : l ≤ 1048576) :
    Calls Try.prog 30 #[.agg cs.toArray, .int .i64 l] w fun e w' => e = .returned (.int .i64 (szR l (Lay.tWrite.sz x))) ∧ Below w.heap.size w w' := by
  obtain ⟨a2, d2, rfl, R2⟩ := open_Write h
  clear h
  have HB0 : Below w.heap.size w (w.alloc (.cells #[.int .i64 x.kind, .int .i64 x.id, .slice a2 x.vec.length d2, .int .i64 x.session, .int .i64 x.seq] 24)) := (Below.refl _ _).alloc (Nat.le_refl _) _
  have bA : Box w.heap.size #[.int .i64 x.kind, .int .i64 x.id, .slice a2 x.vec.length d2, .int .i64 x.session, .int .i64 x.seq] 24 (w.alloc (.cells #[.int .i64 x.kind, .int .i64 x.id, .slice a2 x.vec.length d2, .int .i64 x.session, .int .i64 x.seq] 24)) w.heap.size := newBox (Nat.le_refl _)
  have HV := hide (szsum_Write x)
  go_enter Try.func30, Try.ntmps30
  go_wp2_with fail
  generalize w.alloc (.cells #[.int .i64 x.kind, .int .i64 x.id, .slice a2 x.vec.length d2, .int .i64 x.session, .int .i64 x.seq] 24) = W0 at *
  replace R2 := R2.later HB0
  refine (sz_Int64S _ x.vec (l) _ R2 (by omega)).mono ?_
  rintro e w1 ⟨rfl, hb⟩
  replace HB0 := HB0.trans (hb.mono HB0.size)
  replace bA := bA.keep hb
  clear hb R2
  by_cases hs0 : (Lay.sl Lay.int).sz x.vec ≤ l
  · rw [szR_ok hs0]
    have hq : decide (((l - (Lay.sl Lay.int).sz x.vec : Nat) : Int) < 0) = false := by simp
    have HX := hide HB0
    have HA := hide bA
    clear HB0 bA
    go_wp2_with fail
    clear hq
    go_ret
    refine ⟨?_, unhide HX⟩
    rw [unhide HV, szR_ok (by omega), show l - ((Lay.sl Lay.int).sz x.vec) = l - (Lay.sl Lay.int).sz x.vec by omega]
    rfl
  · rw [szR_many (by omega)]
    have HX := hide HB0
    clear HB0 bA
    go_wp2_with fail
    go_ret
    refine ⟨?_, unhide HX⟩
    rw [unhide HV, szR_many (by omega)]
    rfl

end Go.Proofs.Ytkmfkaljdngigaa

namespace Go.Proofs.Ytkmfkaljdngigaa
open Go.RowKit

theorem szsum_Msg (x : DMsg) : Lay.tMsg.sz x = Lay.tWrite.sz x.write := by
  show 0 + (0 + (0 + (0 + (0 + (Lay.tWrite.sz x.write))))) = Lay.tWrite.sz x.write
  omega
set_option maxRecDepth 10000 in
set_option maxHeartbeats 1000000 in
theorem sz_Msg (cs : List Value) (x : DMsg) (l : Nat) (w : World) (h : Lay.tMsg.Reads w cs x) (hl : l ≤ 1048576) :
    Calls Try.prog 8 #[.agg cs.toArray, .int .i64 l] w fun e w' => e = .returned (.int .i64 (szR l (Lay.tMsg.sz x))) ∧ Below w.heap.size w w' := by
  obtain ⟨a7, d7, rfl, R5⟩ := open_Msg h
  clear h
  have HB0 : Below w.heap.size w (w.alloc (.cells #[.int .i64 x.kind, .int .i64 x.epoch, .int .i64 x.src, .int .i64 x.dst, .int .i64 x.index, .int .i64 x.write.kind, .int .i64 x.write.id, .slice a7 x.write.vec.length d7, .int .i64 x.write.session, .int .i64 x.write.seq] 26)) := (Below.refl _ _).alloc (Nat.le_refl _) _
  have bA : Box w.heap.size #[.int .i64 x.kind, .int .i64 x.epoch, .int .i64 x.src, .int .i64 x.dst, .int .i64 x.index, .int .i64 x.write.kind, .int .i64 x.write.id, .slice a7 x.write.vec.length d7, .int .i64 x.write.session, .int .i64 x.write.seq] 26 (w.alloc (.cells #[.int .i64 x.kind, .int .i64 x.epoch, .int .i64 x.src, .int .i64 x.dst, .int .i64 x.index, .int .i64 x.write.kind, .int .i64 x.write.id, .slice a7 x.write.vec.length d7, .int .i64 x.write.session, .int .i64 x.write.seq] 26)) w.heap.size := newBox (Nat.le_refl _)
  have HV := hide (szsum_Msg x)
  go_enter Try.func8, Try.ntmps8
  go_wp2_with fail
  generalize w.alloc (.cells #[.int .i64 x.kind, .int .i64 x.epoch, .int .i64 x.src, .int .i64 x.dst, .int .i64 x.index, .int .i64 x.write.kind, .int .i64 x.write.id, .slice a7 x.write.vec.length d7, .int .i64 x.write.session, .int .i64 x.write.seq] 26) = W0 at *
  replace R5 := R5.later HB0
  refine (sz_Write _ x.write (l) _ R5 (by omega)).mono ?_
  rintro e w1 ⟨rfl, hb⟩
  replace HB0 := HB0.trans (hb.mono HB0.size)
  replace bA := bA.keep hb
  clear hb R5
  by_cases hs0 : Lay.tWrite.sz x.write ≤ l
  · rw [szR_ok hs0]
    have hq : decide (((l - Lay.tWrite.sz x.write : Nat) : Int) < 0) = false := by simp
    have HX := hide HB0
    have HA := hide bA
    clear HB0 bA
    go_wp2_with fail
    clear hq
    go_ret
    refine ⟨?_, unhide HX⟩
    rw [unhide HV, szR_ok (by omega), show l - (Lay.tWrite.sz x.write) = l - Lay.tWrite.sz x.write by omega]
    rfl
  · rw [szR_many (by omega)]
    have HX := hide HB0
    clear HB0 bA
    go_wp2_with fail
    go_ret
    refine ⟨?_, unhide HX⟩
    rw [unhide HV, szR_many (by omega)]
    rfl

end Go.Proofs.Ytkmfkaljdngigaa

namespace Go.Proofs.Ytkmfkaljdngigaa
open Go.RowKit

set_option maxRecDepth 10000 in
set_option maxHeartbeats 1000000 in
theorem sz_MsgS (v : Value) (xs : List DMsg) (l : Nat) (w : World) (h : (Lay.sl Lay.tMsg).Reads w [v] xs) (hl : l ≤ 1048576) :
    Calls Try.prog 13 #[v, .int .i64 l] w fun e w' => e = .returned (.int .i64 (szR l ((Lay.sl Lay.tMsg).sz xs))) ∧ Below w.heap.size w w' := by
  have hbig := h.big
  obtain ⟨ao, cap, rfl⟩ := open_sl h
  have HV : Hid ((Lay.sl Lay.tMsg).sz xs = xs.length + cntAll Lay.tMsg.sz xs) := rfl
  by_cases hn : xs.length ≤ l
  · have e1 : (l : Int) - (xs.length : Int) = ((l - xs.length : Nat) : Int) := by omega
    have e2 : decide (((l - xs.length : Nat) : Int) < 0) = false := by simp
    by_cases hp : 0 < xs.length
    · obtain ⟨b, off, rfl, hbl⟩ := Lay.sl_addr h hp
      have H := hide h
      clear h
      go_enter Try.func13, Try.ntmps13
      go_wp2_with fail
      go_loopw [1, 5] (fun lf i wr => ∃ k s : Nat, k ≤ xs.length ∧ i = .int .i64 k ∧ s = cntAll Lay.tMsg.sz (xs.take k) ∧ xs.length + s ≤ l ∧ lf = .int .i64 ((l - (xs.length + s) : Nat) : Int) ∧ Below w.heap.size w wr) (fun _ i _ => xs.length - (intOf i).toNat)
      case atStart => exact ⟨0, 0, Nat.zero_le _, rfl, rfl, by omega, by simp, Below.refl _ _⟩
      case round =>
        obtain ⟨k, s, hk, rfl, hs, hsl, rfl, hB⟩ := hrel
        have HS := hide hs
        clear hs e1 e2
        by_cases hlt : k < xs.length
        · obtain ⟨row, hc, hr⟩ := Lay.row_at (unhide H) hlt
          replace hr := hr.later hB
          have hr2 := hr
          obtain ⟨a7, d7, rfl, -⟩ := open_Msg hr2
          have c0 : wr.cell? ⟨b, off + k * 10, none⟩ = some (.int .i64 (xs[k]).kind) := (hB.cell (p := ⟨b, off + k * 10, none⟩) hbl).trans (hc 0 (by decide))
          have c1 : wr.cell? ⟨b, off + k * 10 + 1, none⟩ = some (.int .i64 (xs[k]).epoch) := (hB.cell (p := ⟨b, off + k * 10 + 1, none⟩) hbl).trans (hc 1 (by decide))
          have c2 : wr.cell? ⟨b, off + k * 10 + 2, none⟩ = some (.int .i64 (xs[k]).src) := (hB.cell (p := ⟨b, off + k * 10 + 2, none⟩) hbl).trans (hc 2 (by decide))
          have c3 : wr.cell? ⟨b, off + k * 10 + 3, none⟩ = some (.int .i64 (xs[k]).dst) := (hB.cell (p := ⟨b, off + k * 10 + 3, none⟩) hbl).trans (hc 3 (by decide))
          have c4 : wr.cell? ⟨b, off + k * 10 + 4, none⟩ = some (.int .i64 (xs[k]).index) := (hB.cell (p := ⟨b, off + k * 10 + 4, none⟩) hbl).trans (hc 4 (by decide))
          have c5 : wr.cell? ⟨b, off + k * 10 + 5, none⟩ = some (.int .i64 (xs[k]).write.kind) := (hB.cell (p := ⟨b, off + k * 10 + 5, none⟩) hbl).trans (hc 5 (by decide))
          have c6 : wr.cell? ⟨b, off + k * 10 + 6, none⟩ = some (.int .i64 (xs[k]).write.id) := (hB.cell (p := ⟨b, off + k * 10 + 6, none⟩) hbl).trans (hc 6 (by decide))
          have c7 : wr.cell? ⟨b, off + k * 10 + 7, none⟩ = some (.slice a7 (xs[k]).write.vec.length d7) := (hB.cell (p := ⟨b, off + k * 10 + 7, none⟩) hbl).trans (hc 7 (by decide))
          have c8 : wr.cell? ⟨b, off + k * 10 + 8, none⟩ = some (.int .i64 (xs[k]).write.session) := (hB.cell (p := ⟨b, off + k * 10 + 8, none⟩) hbl).trans (hc 8 (by decide))
          have c9 : wr.cell? ⟨b, off + k * 10 + 9, none⟩ = some (.int .i64 (xs[k]).write.seq) := (hB.cell (p := ⟨b, off + k * 10 + 9, none⟩) hbl).trans (hc 9 (by decide))
          have HB := hide hB
          have HR := hide hr
          have HT := hide (Lay.cntAll_take (f := Lay.tMsg.sz) hlt)
          have HL := hide (Lay.cntAll_take_le (f := Lay.tMsg.sz) (xs := xs) (k := k + 1))
          clear hB hr hc
          generalize hxk : xs[k] = x at *
          clear hxk
          go_wp2_with fail
          refine (sz_Msg _ x (l - (xs.length + s)) wr (unhide HR) (by omega)).mono ?_
          rintro e w2 ⟨rfl, hb⟩
          replace HB := hide ((unhide HB).trans (hb.mono (unhide HB).size))
          clear hb HR c0 c1 c2 c3 c4 c5 c6 c7 c8 c9
          have ht := unhide HT
          rw [← unhide HS] at ht
          have hle := unhide HL
          rw [ht] at hle
          have HQ := hide ht
          by_cases hq : xs.length + s + Lay.tMsg.sz x ≤ l
          · rw [szR_ok (by omega)]
            have e3 : l - (xs.length + s) - Lay.tMsg.sz x = l - (xs.length + (s + Lay.tMsg.sz x)) := by omega
            rw [e3]
            have e4 : decide (((l - (xs.length + (s + Lay.tMsg.sz x)) : Nat) : Int) < 0) = false := by simp
            clear ht hle e3
            generalize hz : s + Lay.tMsg.sz x = s2 at *
            have hs2 : xs.length + s2 ≤ l := by omega
            clear hz hq
            go_wp2_with fail
            go_roundw
            case rel => exact ⟨k + 1, s2, by omega, by go_num, (unhide HQ).symm, hs2, rfl, unhide HB⟩
            case measure => simp [intOf]; omega
          · rw [szR_many (by omega)]
            have HN : Hid (l < xs.length + cntAll Lay.tMsg.sz xs) := by
              show l < xs.length + cntAll Lay.tMsg.sz xs
              omega
            clear ht hle
            go_wp2_with fail
            go_ret
            refine ⟨?_, unhide HB⟩
            rw [unhide HV, szR_many (unhide HN)]
            rfl
        · obtain rfl : k = xs.length := by omega
          have HE : Hid (s = cntAll Lay.tMsg.sz xs) := by
            have := unhide HS
            rw [List.take_length] at this
            exact this
          have HB := hide hB
          clear hB HS
          go_wp2_with fail
          go_ret
          refine ⟨?_, unhide HB⟩
          rw [unhide HV, ← unhide HE, szR_ok hsl]
          rfl
    · obtain rfl : xs = [] := List.eq_nil_of_length_eq_zero (by omega)
      clear h hp
      rw [unhide HV]
      simp only [List.length_nil, cntAll, Nat.add_zero, Nat.sub_zero] at *
      rw [szR_ok (Nat.zero_le _)]
      have e3 : decide ((l : Int) < 0) = false := by simp
      go_enter Try.func13, Try.ntmps13
      go_wp2_with fail
      refine wp_loop_rounds 1 ?_
      rw [rounds_succ]
      go_wp2_with fail
      go_ret
      exact ⟨by simp, Below.refl _ _⟩
  · have HN : Hid (szR l ((Lay.sl Lay.tMsg).sz xs) = -1) := szR_many (by rw [unhide HV]; omega)
    rw [unhide HN]
    have e2 : decide ((l : Int) - (xs.length : Int) < 0) = true := by simp; omega
    clear h HV HN
    generalize xs.length = n at *
    go_enter Try.func13, Try.ntmps13
    go_wp2_with fail
    go_ret
    exact ⟨rfl, Below.refl _ _⟩

end Go.Proofs.Ytkmfkaljdngigaa

namespace Go.Proofs.Ytkmfkaljdngigaa
open Go.RowKit

set_option maxRecDepth 10000 in
set_option maxHeartbeats 2000000 in
theorem to_Write (cs : List Value) (x : DWrite) (w : World) (h : Lay.tWrite.Reads w cs x) (hn : Lay.tWrite.sz x ≤ 1048576) :
    Calls Try.prog 32 #[.agg cs.toArray] w fun e w' => ∃ cs', e = .returned (.agg cs'.toArray) ∧ Lay.tWrite.OwnIn w' cs' x w.heap.size w'.heap.size ∧ Below w.heap.size w w' := by
  have h0 := h
  obtain ⟨bl, hl⟩ := h0
  obtain ⟨-, -, -, -, -, f0, f1, -, f3, f4⟩ := lies_Write.1 hl
  clear hl
  obtain ⟨a2, d2, rfl, R2⟩ := open_Write h
  clear h
  rw [szsum_Write] at hn
  have HF := hide (And.intro f0 (And.intro f1 (And.intro f3 (f4))))
  clear f0 f1 f3 f4
  have HB0 : Below w.heap.size w (((w.alloc (.cells #[.int .i64 x.kind, .int .i64 x.id, .slice a2 x.vec.length d2, .int .i64 x.session, .int .i64 x.seq] 24)).alloc (.cells #[.int .i64 0, .int .i64 0, .slice none 0 0, .int .i64 0, .int .i64 0] 29)).alloc (.cells #[.int .i64 x.kind, .int .i64 x.id, .slice none 0 0, .int .i64 0, .int .i64 0] 29)) := (((Below.refl _ _).alloc (Nat.le_refl _) _).alloc (by simp) _).alloc (by simp; omega) _
  have bA : Box w.heap.size #[.int .i64 x.kind, .int .i64 x.id, .slice a2 x.vec.length d2, .int .i64 x.session, .int .i64 x.seq] 24 (((w.alloc (.cells #[.int .i64 x.kind, .int .i64 x.id, .slice a2 x.vec.length d2, .int .i64 x.session, .int .i64 x.seq] 24)).alloc (.cells #[.int .i64 0, .int .i64 0, .slice none 0 0, .int .i64 0, .int .i64 0] 29)).alloc (.cells #[.int .i64 x.kind, .int .i64 x.id, .slice none 0 0, .int .i64 0, .int .i64 0] 29)) w.heap.size := ((newBox (Nat.le_refl _)).grow _).grow _
  have bR : Box w.heap.size #[.int .i64 0, .int .i64 0, .slice none 0 0, .int .i64 0, .int .i64 0] 29 (((w.alloc (.cells #[.int .i64 x.kind, .int .i64 x.id, .slice a2 x.vec.length d2, .int .i64 x.session, .int .i64 x.seq] 24)).alloc (.cells #[.int .i64 0, .int .i64 0, .slice none 0 0, .int .i64 0, .int .i64 0] 29)).alloc (.cells #[.int .i64 x.kind, .int .i64 x.id, .slice none 0 0, .int .i64 0, .int .i64 0] 29)) (w.heap.size + 1) := (newBoxAt (by omega) (by simp)).grow _
  have bX : Box w.heap.size #[.int .i64 x.kind, .int .i64 x.id, .slice none 0 0, .int .i64 0, .int .i64 0] 29 (((w.alloc (.cells #[.int .i64 x.kind, .int .i64 x.id, .slice a2 x.vec.length d2, .int .i64 x.session, .int .i64 x.seq] 24)).alloc (.cells #[.int .i64 0, .int .i64 0, .slice none 0 0, .int .i64 0, .int .i64 0] 29)).alloc (.cells #[.int .i64 x.kind, .int .i64 x.id, .slice none 0 0, .int .i64 0, .int .i64 0] 29)) (w.heap.size + 2) := newBoxAt (by omega) (by simp)
  have hz0 : w.heap.size + 3 ≤ (((w.alloc (.cells #[.int .i64 x.kind, .int .i64 x.id, .slice a2 x.vec.length d2, .int .i64 x.session, .int .i64 x.seq] 24)).alloc (.cells #[.int .i64 0, .int .i64 0, .slice none 0 0, .int .i64 0, .int .i64 0] 29)).alloc (.cells #[.int .i64 x.kind, .int .i64 x.id, .slice none 0 0, .int .i64 0, .int .i64 0] 29)).heap.size := by simp
  go_enter Try.func32, Try.ntmps32
  go_wp2_with fail
  generalize ((w.alloc (.cells #[.int .i64 x.kind, .int .i64 x.id, .slice a2 x.vec.length d2, .int .i64 x.session, .int .i64 x.seq] 24)).alloc (.cells #[.int .i64 0, .int .i64 0, .slice none 0 0, .int .i64 0, .int .i64 0] 29)).alloc (.cells #[.int .i64 x.kind, .int .i64 x.id, .slice none 0 0, .int .i64 0, .int .i64 0] 29) = W0 at *
  replace R2 := R2.later HB0
  refine (to_Int64S _ x.vec W0 R2 (by omega)).mono ?_
  rintro e w1 ⟨v2, rfl, O2, hb⟩
  have Z0 : W0.heap.size ≤ w1.heap.size := hb.size
  replace HB0 := HB0.trans (hb.mono HB0.size)
  replace bA := bA.keep hb
  replace bR := bR.keep hb
  replace bX := bX.keep hb
  clear hb R2
  obtain ⟨a2z, d2z, rfl⟩ := open_sl O2.reads
  have p3 := bA.at 3 _ rfl
  have p4 := bA.at 4 _ rfl
  have q0 := bX.at 0 _ rfl
  have q1 := bX.at 1 _ rfl
  have q2 := bX.at 2 _ rfl
  have q3 := bX.at 3 _ rfl
  have q4 := bX.at 4 _ rfl
  have qf := bX.soft
  have ql := bX.lt
  have pl := bA.lt
  have r0 := bR.at 0 _ rfl
  have r1 := bR.at 1 _ rfl
  have r2 := bR.at 2 _ rfl
  have r3 := bR.at 3 _ rfl
  have r4 := bR.at 4 _ rfl
  have rf := bR.soft
  have rl := bR.lt
  simp only [List.getElem_toArray, List.getElem_cons_zero, List.getElem_cons_succ] at p3 p4 q0 q1 q2 q3 q4 r0 r1 r2 r3 r4
  have hA := hide bA
  have hR := hide bR
  have hX := hide bX
  have hB := hide HB0
  clear bA bR bX HB0
  have hO2 := hide O2
  clear O2
  go_wp2_with fail
  refine bodyPost_ret (v := .agg #[.int .i64 x.kind, .int .i64 x.id, .slice a2z x.vec.length d2z, .int .i64 x.session, .int .i64 x.seq]) (by simp [results, Try.results32, go_sem, r0, r1, r2, r3, r4]) rfl ?_
  have E : Ext (fun q => q = w.heap.size + 2 ∨ q = w.heap.size + 1) w1 _ := ext_setL (ext_setL (Ext.refl _ _) (w.heap.size + 2) [(2, .slice a2z x.vec.length d2z), (3, .int .i64 x.session), (4, .int .i64 x.seq)] (Or.inl rfl)) (w.heap.size + 1) [(0, .int .i64 x.kind), (1, .int .i64 x.id), (2, .slice a2z x.vec.length d2z), (3, .int .i64 x.session), (4, .int .i64 x.seq)] (Or.inr rfl)
  obtain ⟨f0, f1, f3, f4⟩ := unhide HF
  have own : Lay.tWrite.OwnIn _ [.int .i64 x.kind, .int .i64 x.id, .slice a2z x.vec.length d2z, .int .i64 x.session, .int .i64 x.seq] x w.heap.size w1.heap.size := (Lay.ownIn_pair (Lay.ownIn_int (lo := w.heap.size) (hi := w.heap.size) f0) (Lay.ownIn_pair (Lay.ownIn_int (lo := w.heap.size) (hi := w.heap.size) f1) (Lay.ownIn_pair ((unhide hO2).ext E (fun k h1 h2 h3 => by omega)) (Lay.ownIn_pair (Lay.ownIn_int (lo := w1.heap.size) (hi := w1.heap.size) f3) (Lay.ownIn_int (lo := w1.heap.size) (hi := w1.heap.size) f4) (by omega) (by omega) (by omega)) (by omega) (by omega) (by omega)) (by omega) (by omega) (by omega)) (by omega) (by omega) (by omega))
  have hsz := E.size
  have told := Lay.toldOwn (w := w) own (by omega) (by omega) ((unhide hB).trans (E.below (unhide hB).size (fun k h1 h2 => by omega)))
  exact told

end Go.Proofs.Ytkmfkaljdngigaa

namespace Go.Proofs.Ytkmfkaljdngigaa
open Go.RowKit

set_option maxRecDepth 10000 in
set_option maxHeartbeats 2000000 in
theorem to_Msg (cs : List Value) (x : DMsg) (w : World) (h : Lay.tMsg.Reads w cs x) (hn : Lay.tMsg.sz x ≤ 1048576) :
    Calls Try.prog 10 #[.agg cs.toArray] w fun e w' => ∃ cs', e = .returned (.agg cs'.toArray) ∧ Lay.tMsg.OwnIn w' cs' x w.heap.size w'.heap.size ∧ Below w.heap.size w w' := by
  have h0 := h
  obtain ⟨bl, hl⟩ := h0
  obtain ⟨-, -, -, -, -, f0, f1, f2, f3, f4, f5, f6, -, f8, f9⟩ := lies_Msg.1 hl
  clear hl
  obtain ⟨a7, d7, rfl, R5⟩ := open_Msg h
  clear h
  rw [szsum_Msg] at hn
  have HF := hide (And.intro f0 (And.intro f1 (And.intro f2 (And.intro f3 (And.intro f4 (And.intro f5 (And.intro f6 (And.intro f8 (f9)))))))))
  clear f0 f1 f2 f3 f4 f5 f6 f8 f9
  have HB0 : Below w.heap.size w (((w.alloc (.cells #[.int .i64 x.kind, .int .i64 x.epoch, .int .i64 x.src, .int .i64 x.dst, .int .i64 x.index, .int .i64 x.write.kind, .int .i64 x.write.id, .slice a7 x.write.vec.length d7, .int .i64 x.write.session, .int .i64 x.write.seq] 26)).alloc (.cells #[.int .i64 0, .int .i64 0, .int .i64 0, .int .i64 0, .int .i64 0, .int .i64 0, .int .i64 0, .slice none 0 0, .int .i64 0, .int .i64 0] 31)).alloc (.cells #[.int .i64 x.kind, .int .i64 x.epoch, .int .i64 x.src, .int .i64 x.dst, .int .i64 x.index, .int .i64 0, .int .i64 0, .slice none 0 0, .int .i64 0, .int .i64 0] 31)) := (((Below.refl _ _).alloc (Nat.le_refl _) _).alloc (by simp) _).alloc (by simp; omega) _
  have bA : Box w.heap.size #[.int .i64 x.kind, .int .i64 x.epoch, .int .i64 x.src, .int .i64 x.dst, .int .i64 x.index, .int .i64 x.write.kind, .int .i64 x.write.id, .slice a7 x.write.vec.length d7, .int .i64 x.write.session, .int .i64 x.write.seq] 26 (((w.alloc (.cells #[.int .i64 x.kind, .int .i64 x.epoch, .int .i64 x.src, .int .i64 x.dst, .int .i64 x.index, .int .i64 x.write.kind, .int .i64 x.write.id, .slice a7 x.write.vec.length d7, .int .i64 x.write.session, .int .i64 x.write.seq] 26)).alloc (.cells #[.int .i64 0, .int .i64 0, .int .i64 0, .int .i64 0, .int .i64 0, .int .i64 0, .int .i64 0, .slice none 0 0, .int .i64 0, .int .i64 0] 31)).alloc (.cells #[.int .i64 x.kind, .int .i64 x.epoch, .int .i64 x.src, .int .i64 x.dst, .int .i64 x.index, .int .i64 0, .int .i64 0, .slice none 0 0, .int .i64 0, .int .i64 0] 31)) w.heap.size := ((newBox (Nat.le_refl _)).grow _).grow _
  have bR : Box w.heap.size #[.int .i64 0, .int .i64 0, .int .i64 0, .int .i64 0, .int .i64 0, .int .i64 0, .int .i64 0, .slice none 0 0, .int .i64 0, .int .i64 0] 31 (((w.alloc (.cells #[.int .i64 x.kind, .int .i64 x.epoch, .int .i64 x.src, .int .i64 x.dst, .int .i64 x.index, .int .i64 x.write.kind, .int .i64 x.write.id, .slice a7 x.write.vec.length d7, .int .i64 x.write.session, .int .i64 x.write.seq] 26)).alloc (.cells #[.int .i64 0, .int .i64 0, .int .i64 0, .int .i64 0, .int .i64 0, .int .i64 0, .int .i64 0, .slice none 0 0, .int .i64 0, .int .i64 0] 31)).alloc (.cells #[.int .i64 x.kind, .int .i64 x.epoch, .int .i64 x.src, .int .i64 x.dst, .int .i64 x.index, .int .i64 0, .int .i64 0, .slice none 0 0, .int .i64 0, .int .i64 0] 31)) (w.heap.size + 1) := (newBoxAt (by omega) (by simp)).grow _
  have bX : Box w.heap.size #[.int .i64 x.kind, .int .i64 x.epoch, .int .i64 x.src, .int .i64 x.dst, .int .i64 x.index, .int .i64 0, .int .i64 0, .slice none 0 0, .int .i64 0, .int .i64 0] 31 (((w.alloc (.cells #[.int .i64 x.kind, .int .i64 x.epoch, .int .i64 x.src, .int .i64 x.dst, .int .i64 x.index, .int .i64 x.write.kind, .int .i64 x.write.id, .slice a7 x.write.vec.length d7, .int .i64 x.write.session, .int .i64 x.write.seq] 26)).alloc (.cells #[.int .i64 0, .int .i64 0, .int .i64 0, .int .i64 0, .int .i64 0, .int .i64 0, .int .i64 0, .slice none 0 0, .int .i64 0, .int .i64 0] 31)).alloc (.cells #[.int .i64 x.kind, .int .i64 x.epoch, .int .i64 x.src, .int .i64 x.dst, .int .i64 x.index, .int .i64 0, .int .i64 0, .slice none 0 0, .int .i64 0, .int .i64 0] 31)) (w.heap.size + 2) := newBoxAt (by omega) (by simp)
  have hz0 : w.heap.size + 3 ≤ (((w.alloc (.cells #[.int .i64 x.kind, .int .i64 x.epoch, .int .i64 x.src, .int .i64 x.dst, .int .i64 x.index, .int .i64 x.write.kind, .int .i64 x.write.id, .slice a7 x.write.vec.length d7, .int .i64 x.write.session, .int .i64 x.write.seq] 26)).alloc (.cells #[.int .i64 0, .int .i64 0, .int .i64 0, .int .i64 0, .int .i64 0, .int .i64 0, .int .i64 0, .slice none 0 0, .int .i64 0, .int .i64 0] 31)).alloc (.cells #[.int .i64 x.kind, .int .i64 x.epoch, .int .i64 x.src, .int .i64 x.dst, .int .i64 x.index, .int .i64 0, .int .i64 0, .slice none 0 0, .int .i64 0, .int .i64 0] 31)).heap.size := by simp
  go_enter Try.func10, Try.ntmps10
  go_wp2_with fail
  generalize ((w.alloc (.cells #[.int .i64 x.kind, .int .i64 x.epoch, .int .i64 x.src, .int .i64 x.dst, .int .i64 x.index, .int .i64 x.write.kind, .int .i64 x.write.id, .slice a7 x.write.vec.length d7, .int .i64 x.write.session, .int .i64 x.write.seq] 26)).alloc (.cells #[.int .i64 0, .int .i64 0, .int .i64 0, .int .i64 0, .int .i64 0, .int .i64 0, .int .i64 0, .slice none 0 0, .int .i64 0, .int .i64 0] 31)).alloc (.cells #[.int .i64 x.kind, .int .i64 x.epoch, .int .i64 x.src, .int .i64 x.dst, .int .i64 x.index, .int .i64 0, .int .i64 0, .slice none 0 0, .int .i64 0, .int .i64 0] 31) = W0 at *
  replace R5 := R5.later HB0
  refine (to_Write _ x.write W0 R5 (by omega)).mono ?_
  rintro e w1 ⟨v5, rfl, O5, hb⟩
  have Z0 : W0.heap.size ≤ w1.heap.size := hb.size
  replace HB0 := HB0.trans (hb.mono HB0.size)
  replace bA := bA.keep hb
  replace bR := bR.keep hb
  replace bX := bX.keep hb
  clear hb R5
  obtain ⟨a7z, d7z, rfl, -⟩ := open_Write O5.reads
  have q0 := bX.at 0 _ rfl
  have q1 := bX.at 1 _ rfl
  have q2 := bX.at 2 _ rfl
  have q3 := bX.at 3 _ rfl
  have q4 := bX.at 4 _ rfl
  have q5 := bX.at 5 _ rfl
  have q6 := bX.at 6 _ rfl
  have q7 := bX.at 7 _ rfl
  have q8 := bX.at 8 _ rfl
  have q9 := bX.at 9 _ rfl
  have qf := bX.soft
  have ql := bX.lt
  have pl := bA.lt
  have r0 := bR.at 0 _ rfl
  have r1 := bR.at 1 _ rfl
  have r2 := bR.at 2 _ rfl
  have r3 := bR.at 3 _ rfl
  have r4 := bR.at 4 _ rfl
  have r5 := bR.at 5 _ rfl
  have r6 := bR.at 6 _ rfl
  have r7 := bR.at 7 _ rfl
  have r8 := bR.at 8 _ rfl
  have r9 := bR.at 9 _ rfl
  have rf := bR.soft
  have rl := bR.lt
  simp only [List.getElem_toArray, List.getElem_cons_zero, List.getElem_cons_succ] at q0 q1 q2 q3 q4 q5 q6 q7 q8 q9 r0 r1 r2 r3 r4 r5 r6 r7 r8 r9
  have hA := hide bA
  have hR := hide bR
  have hX := hide bX
  have hB := hide HB0
  clear bA bR bX HB0
  have hO5 := hide O5
  clear O5
  go_wp2_with fail
  refine bodyPost_ret (v := .agg #[.int .i64 x.kind, .int .i64 x.epoch, .int .i64 x.src, .int .i64 x.dst, .int .i64 x.index, .int .i64 x.write.kind, .int .i64 x.write.id, .slice a7z x.write.vec.length d7z, .int .i64 x.write.session, .int .i64 x.write.seq]) (by simp [results, Try.results10, go_sem, r0, r1, r2, r3, r4, r5, r6, r7, r8, r9]) rfl ?_
  have E : Ext (fun q => q = w.heap.size + 2 ∨ q = w.heap.size + 1) w1 _ := ext_setL (ext_setL (Ext.refl _ _) (w.heap.size + 2) [(5, .int .i64 x.write.kind), (6, .int .i64 x.write.id), (7, .slice a7z x.write.vec.length d7z), (8, .int .i64 x.write.session), (9, .int .i64 x.write.seq)] (Or.inl rfl)) (w.heap.size + 1) [(0, .int .i64 x.kind), (1, .int .i64 x.epoch), (2, .int .i64 x.src), (3, .int .i64 x.dst), (4, .int .i64 x.index), (5, .int .i64 x.write.kind), (6, .int .i64 x.write.id), (7, .slice a7z x.write.vec.length d7z), (8, .int .i64 x.write.session), (9, .int .i64 x.write.seq)] (Or.inr rfl)
  obtain ⟨f0, f1, f2, f3, f4, f5, f6, f8, f9⟩ := unhide HF
  have own : Lay.tMsg.OwnIn _ [.int .i64 x.kind, .int .i64 x.epoch, .int .i64 x.src, .int .i64 x.dst, .int .i64 x.index, .int .i64 x.write.kind, .int .i64 x.write.id, .slice a7z x.write.vec.length d7z, .int .i64 x.write.session, .int .i64 x.write.seq] x w.heap.size w1.heap.size := (Lay.ownIn_pair (Lay.ownIn_int (lo := w.heap.size) (hi := w.heap.size) f0) (Lay.ownIn_pair (Lay.ownIn_int (lo := w.heap.size) (hi := w.heap.size) f1) (Lay.ownIn_pair (Lay.ownIn_int (lo := w.heap.size) (hi := w.heap.size) f2) (Lay.ownIn_pair (Lay.ownIn_int (lo := w.heap.size) (hi := w.heap.size) f3) (Lay.ownIn_pair (Lay.ownIn_int (lo := w.heap.size) (hi := w.heap.size) f4) ((unhide hO5).ext E (fun k h1 h2 h3 => by omega)) (by omega) (by omega) (by omega)) (by omega) (by omega) (by omega)) (by omega) (by omega) (by omega)) (by omega) (by omega) (by omega)) (by omega) (by omega) (by omega))
  have hsz := E.size
  have told := Lay.toldOwn (w := w) own (by omega) (by omega) ((unhide hB).trans (E.below (unhide hB).size (fun k h1 h2 => by omega)))
  exact told

end Go.Proofs.Ytkmfkaljdngigaa

namespace Go.Proofs.Ytkmfkaljdngigaa
open Go.RowKit

theorem infoMsg : (Try.prog.info? 31).map (fun i => (i.zero, i.size, decide (i.bytes ≤ 1000))) = some (some (.agg #[.int .i64 0, .int .i64 0, .int .i64 0, .int .i64 0, .int .i64 0, .int .i64 0, .int .i64 0, .slice none 0 0, .int .i64 0, .int .i64 0]), 10, true) := by kernel_rfl
set_option maxRecDepth 10000 in
set_option maxHeartbeats 2000000 in
theorem to_MsgS (v : Value) (xs : List DMsg) (w : World) (h : (Lay.sl Lay.tMsg).Reads w [v] xs) (hn : (Lay.sl Lay.tMsg).sz xs ≤ 1048576) :
    Calls Try.prog 15 #[v] w fun e w' => ∃ v', e = .returned v' ∧ (Lay.sl Lay.tMsg).OwnIn w' [v'] xs w.heap.size w'.heap.size ∧ Below w.heap.size w w' := by
  have hbig := h.big
  obtain ⟨ao, cap, rfl⟩ := open_sl h
  have hlen : xs.length ≤ 1048576 := Nat.le_trans Lay.sz_len hn
  obtain ⟨i0, hi, hz0, hz1, hz2⟩ : ∃ i, Try.prog.info? 31 = some i ∧ i.zero = some (.agg #[.int .i64 0, .int .i64 0, .int .i64 0, .int .i64 0, .int .i64 0, .int .i64 0, .int .i64 0, .slice none 0 0, .int .i64 0, .int .i64 0]) ∧ i.size = 10 ∧ i.bytes ≤ 1000 := by
    have := infoMsg
    cases hq : Try.prog.info? 31 with
    | none => rw [hq] at this; simp at this
    | some i =>
      rw [hq] at this
      simp only [Option.map_some, Option.some.injEq, Prod.mk.injEq, decide_eq_true_eq] at this
      exact ⟨i, rfl, this.1, this.2.1, this.2.2⟩
  have H := hide h
  have HN := hide hn
  clear h hn
  go_enter Try.func15, Try.ntmps15
  go_wp2_with (at_make; refine wpList_make_full _ rfl _ _ 38 rfl w.heap.size 31 i0 _ 10 Try.underlying38 hi hz0 hz1 _ _ _ _ xs.length rfl rfl rfl rfl ?c1 ?c2 ?c3 ?_)
  case c1 => have := Nat.mul_le_mul hz2 hlen; omega
  case c2 => unfold maxLen; omega
  case c3 => exact Nat.le_refl _
  intro w1 hown1 hgrow1
  have hB1 : Below w.heap.size w w1 := (Below.refl _ _).grown hgrow1 (Nat.le_refl _) (by simp)
  clear hgrow1 hi hz0 hz1 hz2
  have HO1 := hide hown1
  have HB1 := hide hB1
  clear hown1 hB1
  go_wp2_with fail
  go_loopw [4] (fun i wr => ∃ (k : Nat) (rows : List (List Value)) (Q : List Value) (hi : Nat), k ≤ xs.length ∧ i = .int .i64 k ∧ wr.ownsRow w.heap.size 31 10 (.slice (some ⟨w.heap.size, 0, none⟩) xs.length xs.length) xs.length (rows.flatten ++ Q) ∧ Q.length = (xs.length - k) * 10 ∧ Lay.Subs Lay.tMsg wr rows (xs.take k) (w.heap.size + 1) hi ∧ hi ≤ wr.heap.size ∧ w.heap.size < hi ∧ Below w.heap.size w wr) (fun i _ => xs.length - (intOf i).toNat)
  case atStart =>
    have hl := ((unhide HO1).lt w.heap.size rfl).2
    exact ⟨0, [], _, w1.heap.size, Nat.zero_le _, rfl, by simpa using unhide HO1, by have := (unhide HO1).1; simpa using this, Lay.subs_nil, Nat.le_refl _, hl, unhide HB1⟩
  case round =>
    obtain ⟨k, rows, Q, hi, hk, rfl, hown, hQ, hsub, hhi, hlo, hB⟩ := hrel
    clear HO1 HB1
    by_cases hlt : k < xs.length
    · obtain ⟨b, off, rfl, hbl⟩ := Lay.sl_addr (unhide H) (by omega)
      obtain ⟨row, hc, hr⟩ := Lay.row_at (unhide H) hlt
      replace hr := hr.later hB
      have hr2 := hr
      obtain ⟨a7, d7, rfl, -⟩ := open_Msg hr2
      have c0 : wr.cell? ⟨b, off + k * 10, none⟩ = some (.int .i64 (xs[k]).kind) := (hB.cell (p := ⟨b, off + k * 10, none⟩) hbl).trans (hc 0 (by decide))
      have c1 : wr.cell? ⟨b, off + k * 10 + 1, none⟩ = some (.int .i64 (xs[k]).epoch) := (hB.cell (p := ⟨b, off + k * 10 + 1, none⟩) hbl).trans (hc 1 (by decide))
      have c2 : wr.cell? ⟨b, off + k * 10 + 2, none⟩ = some (.int .i64 (xs[k]).src) := (hB.cell (p := ⟨b, off + k * 10 + 2, none⟩) hbl).trans (hc 2 (by decide))
      have c3 : wr.cell? ⟨b, off + k * 10 + 3, none⟩ = some (.int .i64 (xs[k]).dst) := (hB.cell (p := ⟨b, off + k * 10 + 3, none⟩) hbl).trans (hc 3 (by decide))
      have c4 : wr.cell? ⟨b, off + k * 10 + 4, none⟩ = some (.int .i64 (xs[k]).index) := (hB.cell (p := ⟨b, off + k * 10 + 4, none⟩) hbl).trans (hc 4 (by decide))
      have c5 : wr.cell? ⟨b, off + k * 10 + 5, none⟩ = some (.int .i64 (xs[k]).write.kind) := (hB.cell (p := ⟨b, off + k * 10 + 5, none⟩) hbl).trans (hc 5 (by decide))
      have c6 : wr.cell? ⟨b, off + k * 10 + 6, none⟩ = some (.int .i64 (xs[k]).write.id) := (hB.cell (p := ⟨b, off + k * 10 + 6, none⟩) hbl).trans (hc 6 (by decide))
      have c7 : wr.cell? ⟨b, off + k * 10 + 7, none⟩ = some (.slice a7 (xs[k]).write.vec.length d7) := (hB.cell (p := ⟨b, off + k * 10 + 7, none⟩) hbl).trans (hc 7 (by decide))
      have c8 : wr.cell? ⟨b, off + k * 10 + 8, none⟩ = some (.int .i64 (xs[k]).write.session) := (hB.cell (p := ⟨b, off + k * 10 + 8, none⟩) hbl).trans (hc 8 (by decide))
      have c9 : wr.cell? ⟨b, off + k * 10 + 9, none⟩ = some (.int .i64 (xs[k]).write.seq) := (hB.cell (p := ⟨b, off + k * 10 + 9, none⟩) hbl).trans (hc 9 (by decide))
      have hrl : rows.flatten.length = k * 10 := by have := (Lay.subs_len hsub).1; rw [List.length_take, Nat.min_eq_left hk] at this; exact this
      have hsz := Nat.le_trans (Lay.sz_elem (A := Lay.tMsg) hlt) (unhide HN)
      have HT : Hid (xs.take (k + 1) = xs.take k ++ [xs[k]]) := List.take_succ_eq_append_getElem hlt
      have HB := hide hB
      have HR := hide hr
      have HO := hide hown
      have HS := hide hsub
      have HQ := hide hQ
      clear hB hr hc hown hsub hQ
      generalize hxk : xs[k] = x at *
      clear hxk
      go_wp2_with fail
      refine (to_Msg _ x wr (unhide HR) hsz).mono ?_
      rintro e w2 ⟨cs2, rfl, O, hb⟩
      have o2 := own_below (unhide HO) hb
      replace HS := hide (Lay.subs_snoc (Lay.subs_ext (unhide HS) (ext_of_below hb nowhere) (fun _ _ _ h => h)) O (by omega) (by omega) (Nat.le_trans hhi hb.size))
      have hb2 := (unhide HB).trans (hb.mono (unhide HB).size)
      have hz := hb.size
      have orr := O.reads
      obtain ⟨a7z, d7z, rfl, -⟩ := open_Msg orr
      clear hb HR HB HO O c0 c1 c2 c3 c4 c5 c6 c7 c8 c9
      have hQ := unhide HQ
      have hl5 : (rows.flatten ++ Q).length = xs.length * 10 := o2.1
      obtain ⟨u0, g0⟩ : ∃ u, w2.cell? ⟨w.heap.size, k * 10, none⟩ = some u := by
        rw [o2.cellAt (k * 10) (by omega)]
        exact ⟨_, List.getElem?_eq_getElem (by omega)⟩
      have t0 := o2.frozenAt (k * 10)
      obtain ⟨u1, g1⟩ : ∃ u, w2.cell? ⟨w.heap.size, k * 10 + 1, none⟩ = some u := by
        rw [o2.cellAt (k * 10 + 1) (by omega)]
        exact ⟨_, List.getElem?_eq_getElem (by omega)⟩
      have t1 := o2.frozenAt (k * 10 + 1)
      obtain ⟨u2, g2⟩ : ∃ u, w2.cell? ⟨w.heap.size, k * 10 + 2, none⟩ = some u := by
        rw [o2.cellAt (k * 10 + 2) (by omega)]
        exact ⟨_, List.getElem?_eq_getElem (by omega)⟩
      have t2 := o2.frozenAt (k * 10 + 2)
      obtain ⟨u3, g3⟩ : ∃ u, w2.cell? ⟨w.heap.size, k * 10 + 3, none⟩ = some u := by
        rw [o2.cellAt (k * 10 + 3) (by omega)]
        exact ⟨_, List.getElem?_eq_getElem (by omega)⟩
      have t3 := o2.frozenAt (k * 10 + 3)
      obtain ⟨u4, g4⟩ : ∃ u, w2.cell? ⟨w.heap.size, k * 10 + 4, none⟩ = some u := by
        rw [o2.cellAt (k * 10 + 4) (by omega)]
        exact ⟨_, List.getElem?_eq_getElem (by omega)⟩
      have t4 := o2.frozenAt (k * 10 + 4)
      obtain ⟨u5, g5⟩ : ∃ u, w2.cell? ⟨w.heap.size, k * 10 + 5, none⟩ = some u := by
        rw [o2.cellAt (k * 10 + 5) (by omega)]
        exact ⟨_, List.getElem?_eq_getElem (by omega)⟩
      have t5 := o2.frozenAt (k * 10 + 5)
      obtain ⟨u6, g6⟩ : ∃ u, w2.cell? ⟨w.heap.size, k * 10 + 6, none⟩ = some u := by
        rw [o2.cellAt (k * 10 + 6) (by omega)]
        exact ⟨_, List.getElem?_eq_getElem (by omega)⟩
      have t6 := o2.frozenAt (k * 10 + 6)
      obtain ⟨u7, g7⟩ : ∃ u, w2.cell? ⟨w.heap.size, k * 10 + 7, none⟩ = some u := by
        rw [o2.cellAt (k * 10 + 7) (by omega)]
        exact ⟨_, List.getElem?_eq_getElem (by omega)⟩
      have t7 := o2.frozenAt (k * 10 + 7)
      obtain ⟨u8, g8⟩ : ∃ u, w2.cell? ⟨w.heap.size, k * 10 + 8, none⟩ = some u := by
        rw [o2.cellAt (k * 10 + 8) (by omega)]
        exact ⟨_, List.getElem?_eq_getElem (by omega)⟩
      have t8 := o2.frozenAt (k * 10 + 8)
      obtain ⟨u9, g9⟩ : ∃ u, w2.cell? ⟨w.heap.size, k * 10 + 9, none⟩ = some u := by
        rw [o2.cellAt (k * 10 + 9) (by omega)]
        exact ⟨_, List.getElem?_eq_getElem (by omega)⟩
      have t9 := o2.frozenAt (k * 10 + 9)
      have o3 := own_setAll o2 (k * 10) [.int .i64 x.kind, .int .i64 x.epoch, .int .i64 x.src, .int .i64 x.dst, .int .i64 x.index, .int .i64 x.write.kind, .int .i64 x.write.id, .slice a7z x.write.vec.length d7z, .int .i64 x.write.session, .int .i64 x.write.seq]
      rw [show k * 10 = rows.flatten.length from hrl.symm, setFrom_app _ _ _ (by rw [hQ]; simp; have : 1 * 10 ≤ (xs.length - k) * 10 := Nat.mul_le_mul_right _ (by omega); omega), hrl] at o3
      have E : Ext (fun q => q = w.heap.size) w2 (setAll w2 w.heap.size (k * 10) [.int .i64 x.kind, .int .i64 x.epoch, .int .i64 x.src, .int .i64 x.dst, .int .i64 x.index, .int .i64 x.write.kind, .int .i64 x.write.id, .slice a7z x.write.vec.length d7z, .int .i64 x.write.session, .int .i64 x.write.seq]) := ext_setAll _ (Ext.refl _ _) _ _ _ rfl
      replace HS := hide (Lay.subs_ext (unhide HS) E (fun q h1 h2 h3 => by omega))
      have HB := hide (below_setAll hb2 w.heap.size (k * 10) [.int .i64 x.kind, .int .i64 x.epoch, .int .i64 x.src, .int .i64 x.dst, .int .i64 x.index, .int .i64 x.write.kind, .int .i64 x.write.id, .slice a7z x.write.vec.length d7z, .int .i64 x.write.session, .int .i64 x.write.seq] (Nat.le_refl _))
      have HZ : Hid ((setAll w2 w.heap.size (k * 10) [.int .i64 x.kind, .int .i64 x.epoch, .int .i64 x.src, .int .i64 x.dst, .int .i64 x.index, .int .i64 x.write.kind, .int .i64 x.write.id, .slice a7z x.write.vec.length d7z, .int .i64 x.write.session, .int .i64 x.write.seq]).heap.size = w2.heap.size) := size_setAll _ _ _ _
      have HO : Hid ((setAll w2 w.heap.size (k * 10) [.int .i64 x.kind, .int .i64 x.epoch, .int .i64 x.src, .int .i64 x.dst, .int .i64 x.index, .int .i64 x.write.kind, .int .i64 x.write.id, .slice a7z x.write.vec.length d7z, .int .i64 x.write.session, .int .i64 x.write.seq]).ownsRow w.heap.size 31 10 (.slice (some ⟨w.heap.size, 0, none⟩) xs.length xs.length) xs.length ((rows ++ [([.int .i64 x.kind, .int .i64 x.epoch, .int .i64 x.src, .int .i64 x.dst, .int .i64 x.index, .int .i64 x.write.kind, .int .i64 x.write.id, .slice a7z x.write.vec.length d7z, .int .i64 x.write.session, .int .i64 x.write.seq] : List Value)]).flatten ++ Q.drop 10)) := by
        show (setAll w2 w.heap.size (k * 10) [.int .i64 x.kind, .int .i64 x.epoch, .int .i64 x.src, .int .i64 x.dst, .int .i64 x.index, .int .i64 x.write.kind, .int .i64 x.write.id, .slice a7z x.write.vec.length d7z, .int .i64 x.write.session, .int .i64 x.write.seq]).ownsRow w.heap.size 31 10 (.slice (some ⟨w.heap.size, 0, none⟩) xs.length xs.length) xs.length ((rows ++ [([.int .i64 x.kind, .int .i64 x.epoch, .int .i64 x.src, .int .i64 x.dst, .int .i64 x.index, .int .i64 x.write.kind, .int .i64 x.write.id, .slice a7z x.write.vec.length d7z, .int .i64 x.write.session, .int .i64 x.write.seq] : List Value)]).flatten ++ Q.drop 10)
        rw [List.flatten_append]
        simpa using o3
      have hl2 := (o2.lt w.heap.size rfl).2
      clear o3 o2 E hb2 hl5
      have hQ2 : Hid ((Q.drop 10).length = (xs.length - (k + 1)) * 10) := by
        show (Q.drop 10).length = (xs.length - (k + 1)) * 10
        rw [List.length_drop, hQ, show xs.length - k = xs.length - (k + 1) + 1 by omega, Nat.add_mul]
        omega
      clear hQ HQ
      go_wp2_with fail
      go_roundw
      case rel => exact ⟨k + 1, rows ++ [([.int .i64 x.kind, .int .i64 x.epoch, .int .i64 x.src, .int .i64 x.dst, .int .i64 x.index, .int .i64 x.write.kind, .int .i64 x.write.id, .slice a7z x.write.vec.length d7z, .int .i64 x.write.session, .int .i64 x.write.seq] : List Value)], Q.drop 10, w2.heap.size, by omega, by go_num, unhide HO, unhide hQ2, (by rw [unhide HT]; exact unhide HS), Nat.le_of_eq (unhide HZ).symm, by omega, unhide HB⟩
      case measure => simp [intOf]; omega
    · obtain rfl : k = xs.length := by omega
      have e0 : Q = [] := List.eq_nil_of_length_eq_zero (by rw [hQ]; simp)
      subst e0
      rw [List.append_nil] at hown
      rw [List.take_length] at hsub
      have HO := hide (Lay.subs_done (A := Lay.tMsg) hown hsub (by omega) hhi hbig)
      have HB := hide hB
      clear hown hsub hB
      go_wp2_with fail
      go_ret
      exact ⟨_, rfl, unhide HO, unhide HB⟩

end Go.Proofs.Ytkmfkaljdngigaa

namespace Go.Proofs.Ytkmfkaljdngigaa
open Go.RowKit

set_option maxRecDepth 10000 in
set_option maxHeartbeats 1000000 in
theorem eq_Write (cs cs2 : List Value) (x : DWrite) (w : World) (h : Lay.tWrite.Reads w cs x) (h2 : Lay.tWrite.Reads w cs2 x) :
    Calls Try.prog 36 #[.agg cs.toArray, .agg cs2.toArray] w fun e w' => e = .returned (.bool true) ∧ Below w.heap.size w w' := by
  obtain ⟨a2, d2, rfl, R2⟩ := open_Write h
  obtain ⟨a2z, d2z, rfl, R2z⟩ := open_Write h2
  clear h h2
  have e0 : (x.kind != x.kind) = false := by simp
  have e1 : (x.id != x.id) = false := by simp
  have e3 : (x.session != x.session) = false := by simp
  have e4 : (x.seq != x.seq) = false := by simp
  have HB0 : Below w.heap.size w ((w.alloc (.cells #[.int .i64 x.kind, .int .i64 x.id, .slice a2 x.vec.length d2, .int .i64 x.session, .int .i64 x.seq] 29)).alloc (.cells #[.int .i64 x.kind, .int .i64 x.id, .slice a2z x.vec.length d2z, .int .i64 x.session, .int .i64 x.seq] 29)) := ((Below.refl _ _).alloc (Nat.le_refl _) _).alloc (by simp) _
  have bA : Box w.heap.size #[.int .i64 x.kind, .int .i64 x.id, .slice a2 x.vec.length d2, .int .i64 x.session, .int .i64 x.seq] 29 ((w.alloc (.cells #[.int .i64 x.kind, .int .i64 x.id, .slice a2 x.vec.length d2, .int .i64 x.session, .int .i64 x.seq] 29)).alloc (.cells #[.int .i64 x.kind, .int .i64 x.id, .slice a2z x.vec.length d2z, .int .i64 x.session, .int .i64 x.seq] 29)) w.heap.size := (newBox (Nat.le_refl _)).grow _
  have bC : Box w.heap.size #[.int .i64 x.kind, .int .i64 x.id, .slice a2z x.vec.length d2z, .int .i64 x.session, .int .i64 x.seq] 29 ((w.alloc (.cells #[.int .i64 x.kind, .int .i64 x.id, .slice a2 x.vec.length d2, .int .i64 x.session, .int .i64 x.seq] 29)).alloc (.cells #[.int .i64 x.kind, .int .i64 x.id, .slice a2z x.vec.length d2z, .int .i64 x.session, .int .i64 x.seq] 29)) (w.heap.size + 1) := newBoxAt (by omega) (by simp)
  go_enter Try.func36, Try.ntmps36
  go_wp2_with fail
  generalize (w.alloc (.cells #[.int .i64 x.kind, .int .i64 x.id, .slice a2 x.vec.length d2, .int .i64 x.session, .int .i64 x.seq] 29)).alloc (.cells #[.int .i64 x.kind, .int .i64 x.id, .slice a2z x.vec.length d2z, .int .i64 x.session, .int .i64 x.seq] 29) = W0 at *
  replace R2 := R2.later HB0
  replace R2z := R2z.later HB0
  refine (eq_Int64S _ _ x.vec _ R2 R2z).mono ?_
  rintro e w1 ⟨rfl, hb⟩
  replace bA := bA.keep hb
  replace bC := bC.keep hb
  replace HB0 := HB0.trans (hb.mono HB0.size)
  have p3 := bA.at 3 _ rfl
  have q3 := bC.at 3 _ rfl
  have p4 := bA.at 4 _ rfl
  have q4 := bC.at 4 _ rfl
  clear hb
  have HB := hide HB0
  have HA := hide bA
  have HC := hide bC
  clear HB0 bA bC
  go_wp2_with fail
  go_ret
  exact ⟨rfl, unhide HB⟩

end Go.Proofs.Ytkmfkaljdngigaa

namespace Go.Proofs.Ytkmfkaljdngigaa
open Go.RowKit

set_option maxRecDepth 10000 in
set_option maxHeartbeats 1000000 in
theorem eq_Msg (cs cs2 : List Value) (x : DMsg) (w : World) (h : Lay.tMsg.Reads w cs x) (h2 : Lay.tMsg.Reads w cs2 x) :
    Calls Try.prog 12 #[.agg cs.toArray, .agg cs2.toArray] w fun e w' => e = .returned (.bool true) ∧ Below w.heap.size w w' := by
  obtain ⟨a7, d7, rfl, R5⟩ := open_Msg h
  obtain ⟨a7z, d7z, rfl, R5z⟩ := open_Msg h2
  clear h h2
  have e0 : (x.kind != x.kind) = false := by simp
  have e1 : (x.epoch != x.epoch) = false := by simp
  have e2 : (x.src != x.src) = false := by simp
  have e3 : (x.dst != x.dst) = false := by simp
  have e4 : (x.index != x.index) = false := by simp
  have e5 : (x.write.kind != x.write.kind) = false := by simp
  have e6 : (x.write.id != x.write.id) = false := by simp
  have e8 : (x.write.session != x.write.session) = false := by simp
  have e9 : (x.write.seq != x.write.seq) = false := by simp
  have HB0 : Below w.heap.size w ((w.alloc (.cells #[.int .i64 x.kind, .int .i64 x.epoch, .int .i64 x.src, .int .i64 x.dst, .int .i64 x.index, .int .i64 x.write.kind, .int .i64 x.write.id, .slice a7 x.write.vec.length d7, .int .i64 x.write.session, .int .i64 x.write.seq] 31)).alloc (.cells #[.int .i64 x.kind, .int .i64 x.epoch, .int .i64 x.src, .int .i64 x.dst, .int .i64 x.index, .int .i64 x.write.kind, .int .i64 x.write.id, .slice a7z x.write.vec.length d7z, .int .i64 x.write.session, .int .i64 x.write.seq] 31)) := ((Below.refl _ _).alloc (Nat.le_refl _) _).alloc (by simp) _
  have bA : Box w.heap.size #[.int .i64 x.kind, .int .i64 x.epoch, .int .i64 x.src, .int .i64 x.dst, .int .i64 x.index, .int .i64 x.write.kind, .int .i64 x.write.id, .slice a7 x.write.vec.length d7, .int .i64 x.write.session, .int .i64 x.write.seq] 31 ((w.alloc (.cells #[.int .i64 x.kind, .int .i64 x.epoch, .int .i64 x.src, .int .i64 x.dst, .int .i64 x.index, .int .i64 x.write.kind, .int .i64 x.write.id, .slice a7 x.write.vec.length d7, .int .i64 x.write.session, .int .i64 x.write.seq] 31)).alloc (.cells #[.int .i64 x.kind, .int .i64 x.epoch, .int .i64 x.src, .int .i64 x.dst, .int .i64 x.index, .int .i64 x.write.kind, .int .i64 x.write.id, .slice a7z x.write.vec.length d7z, .int .i64 x.write.session, .int .i64 x.write.seq] 31)) w.heap.size := (newBox (Nat.le_refl _)).grow _
  have bC : Box w.heap.size #[.int .i64 x.kind, .int .i64 x.epoch, .int .i64 x.src, .int .i64 x.dst, .int .i64 x.index, .int .i64 x.write.kind, .int .i64 x.write.id, .slice a7z x.write.vec.length d7z, .int .i64 x.write.session, .int .i64 x.write.seq] 31 ((w.alloc (.cells #[.int .i64 x.kind, .int .i64 x.epoch, .int .i64 x.src, .int .i64 x.dst, .int .i64 x.index, .int .i64 x.write.kind, .int .i64 x.write.id, .slice a7 x.write.vec.length d7, .int .i64 x.write.session, .int .i64 x.write.seq] 31)).alloc (.cells #[.int .i64 x.kind, .int .i64 x.epoch, .int .i64 x.src, .int .i64 x.dst, .int .i64 x.index, .int .i64 x.write.kind, .int .i64 x.write.id, .slice a7z x.write.vec.length d7z, .int .i64 x.write.session, .int .i64 x.write.seq] 31)) (w.heap.size + 1) := newBoxAt (by omega) (by simp)
  go_enter Try.func12, Try.ntmps12
  go_wp2_with fail
  generalize (w.alloc (.cells #[.int .i64 x.kind, .int .i64 x.epoch, .int .i64 x.src, .int .i64 x.dst, .int .i64 x.index, .int .i64 x.write.kind, .int .i64 x.write.id, .slice a7 x.write.vec.length d7, .int .i64 x.write.session, .int .i64 x.write.seq] 31)).alloc (.cells #[.int .i64 x.kind, .int .i64 x.epoch, .int .i64 x.src, .int .i64 x.dst, .int .i64 x.index, .int .i64 x.write.kind, .int .i64 x.write.id, .slice a7z x.write.vec.length d7z, .int .i64 x.write.session, .int .i64 x.write.seq] 31) = W0 at *
  replace R5 := R5.later HB0
  replace R5z := R5z.later HB0
  refine (eq_Write _ _ x.write _ R5 R5z).mono ?_
  rintro e w1 ⟨rfl, hb⟩
  replace bA := bA.keep hb
  replace bC := bC.keep hb
  replace HB0 := HB0.trans (hb.mono HB0.size)
  clear hb
  have HB := hide HB0
  have HA := hide bA
  have HC := hide bC
  clear HB0 bA bC
  go_wp2_with fail
  go_ret
  exact ⟨rfl, unhide HB⟩

end Go.Proofs.Ytkmfkaljdngigaa

namespace Go.Proofs.Ytkmfkaljdngigaa
open Go.RowKit

set_option maxRecDepth 100000 in
set_option maxHeartbeats 2000000 in
theorem eq_MsgS (v v2 : Value) (xs : List DMsg) (w : World) (h : (Lay.sl Lay.tMsg).Reads w [v] xs) (h2 : (Lay.sl Lay.tMsg).Reads w [v2] xs) :
    Calls Try.prog 17 #[v, v2] w fun e w' => e = .returned (.bool true) ∧ Below w.heap.size w w' := by
  have hbig := h.big
  obtain ⟨ao, cap, rfl⟩ := open_sl h
  obtain ⟨ao2, cap2, rfl⟩ := open_sl h2
  by_cases hp : 0 < xs.length
  · obtain ⟨b, off, rfl, hbl⟩ := Lay.sl_addr h hp
    obtain ⟨b2, off2, rfl, hbl2⟩ := Lay.sl_addr h2 hp
    have H := hide h
    have H2 := hide h2
    clear h h2
    go_enter Try.func17, Try.ntmps17
    go_wp2_with fail
    go_loopw [5] (fun i wr => ∃ k : Nat, k ≤ xs.length ∧ i = .int .i64 k ∧ Below w.heap.size w wr) (fun i _ => xs.length - (intOf i).toNat)
    case atStart => exact ⟨0, Nat.zero_le _, rfl, Below.refl _ _⟩
    case round =>
      obtain ⟨k, hk, rfl, hB⟩ := hrel
      by_cases hlt : k < xs.length
      · obtain ⟨row, hc, hr⟩ := Lay.row_at (unhide H) hlt
        obtain ⟨rowz, hcz, hrz⟩ := Lay.row_at (unhide H2) hlt
        have hr2 := hr
        obtain ⟨a7, d7, rfl, -⟩ := open_Msg hr2
        have hrz2 := hrz
        obtain ⟨a7z, d7z, rfl, -⟩ := open_Msg hrz2
        have c0 : w.cell? ⟨b, off + k * 10, none⟩ = some (.int .i64 (xs[k]).kind) := ((Below.refl w.heap.size w).cell (p := ⟨b, off + k * 10, none⟩) hbl).trans (hc 0 (by decide))
        have c1 : w.cell? ⟨b, off + k * 10 + 1, none⟩ = some (.int .i64 (xs[k]).epoch) := ((Below.refl w.heap.size w).cell (p := ⟨b, off + k * 10 + 1, none⟩) hbl).trans (hc 1 (by decide))
        have c2 : w.cell? ⟨b, off + k * 10 + 2, none⟩ = some (.int .i64 (xs[k]).src) := ((Below.refl w.heap.size w).cell (p := ⟨b, off + k * 10 + 2, none⟩) hbl).trans (hc 2 (by decide))
        have c3 : w.cell? ⟨b, off + k * 10 + 3, none⟩ = some (.int .i64 (xs[k]).dst) := ((Below.refl w.heap.size w).cell (p := ⟨b, off + k * 10 + 3, none⟩) hbl).trans (hc 3 (by decide))
        have c4 : w.cell? ⟨b, off + k * 10 + 4, none⟩ = some (.int .i64 (xs[k]).index) := ((Below.refl w.heap.size w).cell (p := ⟨b, off + k * 10 + 4, none⟩) hbl).trans (hc 4 (by decide))
        have c5 : w.cell? ⟨b, off + k * 10 + 5, none⟩ = some (.int .i64 (xs[k]).write.kind) := ((Below.refl w.heap.size w).cell (p := ⟨b, off + k * 10 + 5, none⟩) hbl).trans (hc 5 (by decide))
        have c6 : w.cell? ⟨b, off + k * 10 + 6, none⟩ = some (.int .i64 (xs[k]).write.id) := ((Below.refl w.heap.size w).cell (p := ⟨b, off + k * 10 + 6, none⟩) hbl).trans (hc 6 (by decide))
        have c7 : w.cell? ⟨b, off + k * 10 + 7, none⟩ = some (.slice a7 (xs[k]).write.vec.length d7) := ((Below.refl w.heap.size w).cell (p := ⟨b, off + k * 10 + 7, none⟩) hbl).trans (hc 7 (by decide))
        have c8 : w.cell? ⟨b, off + k * 10 + 8, none⟩ = some (.int .i64 (xs[k]).write.session) := ((Below.refl w.heap.size w).cell (p := ⟨b, off + k * 10 + 8, none⟩) hbl).trans (hc 8 (by decide))
        have c9 : w.cell? ⟨b, off + k * 10 + 9, none⟩ = some (.int .i64 (xs[k]).write.seq) := ((Below.refl w.heap.size w).cell (p := ⟨b, off + k * 10 + 9, none⟩) hbl).trans (hc 9 (by decide))
        have c0z : w.cell? ⟨b2, off2 + k * 10, none⟩ = some (.int .i64 (xs[k]).kind) := ((Below.refl w.heap.size w).cell (p := ⟨b2, off2 + k * 10, none⟩) hbl2).trans (hcz 0 (by decide))
        have c1z : w.cell? ⟨b2, off2 + k * 10 + 1, none⟩ = some (.int .i64 (xs[k]).epoch) := ((Below.refl w.heap.size w).cell (p := ⟨b2, off2 + k * 10 + 1, none⟩) hbl2).trans (hcz 1 (by decide))
        have c2z : w.cell? ⟨b2, off2 + k * 10 + 2, none⟩ = some (.int .i64 (xs[k]).src) := ((Below.refl w.heap.size w).cell (p := ⟨b2, off2 + k * 10 + 2, none⟩) hbl2).trans (hcz 2 (by decide))
        have c3z : w.cell? ⟨b2, off2 + k * 10 + 3, none⟩ = some (.int .i64 (xs[k]).dst) := ((Below.refl w.heap.size w).cell (p := ⟨b2, off2 + k * 10 + 3, none⟩) hbl2).trans (hcz 3 (by decide))
        have c4z : w.cell? ⟨b2, off2 + k * 10 + 4, none⟩ = some (.int .i64 (xs[k]).index) := ((Below.refl w.heap.size w).cell (p := ⟨b2, off2 + k * 10 + 4, none⟩) hbl2).trans (hcz 4 (by decide))
        have c5z : w.cell? ⟨b2, off2 + k * 10 + 5, none⟩ = some (.int .i64 (xs[k]).write.kind) := ((Below.refl w.heap.size w).cell (p := ⟨b2, off2 + k * 10 + 5, none⟩) hbl2).trans (hcz 5 (by decide))
        have c6z : w.cell? ⟨b2, off2 + k * 10 + 6, none⟩ = some (.int .i64 (xs[k]).write.id) := ((Below.refl w.heap.size w).cell (p := ⟨b2, off2 + k * 10 + 6, none⟩) hbl2).trans (hcz 6 (by decide))
        have c7z : w.cell? ⟨b2, off2 + k * 10 + 7, none⟩ = some (.slice a7z (xs[k]).write.vec.length d7z) := ((Below.refl w.heap.size w).cell (p := ⟨b2, off2 + k * 10 + 7, none⟩) hbl2).trans (hcz 7 (by decide))
        have c8z : w.cell? ⟨b2, off2 + k * 10 + 8, none⟩ = some (.int .i64 (xs[k]).write.session) := ((Below.refl w.heap.size w).cell (p := ⟨b2, off2 + k * 10 + 8, none⟩) hbl2).trans (hcz 8 (by decide))
        have c9z : w.cell? ⟨b2, off2 + k * 10 + 9, none⟩ = some (.int .i64 (xs[k]).write.seq) := ((Below.refl w.heap.size w).cell (p := ⟨b2, off2 + k * 10 + 9, none⟩) hbl2).trans (hcz 9 (by decide))
        clear hc hcz
        have HR := hide hr
        have HRZ := hide hrz
        clear hr hrz
        have HB := hide hB
        clear hB
        generalize hxk : xs[k] = x at *
        clear hxk
        have i1 : (0 : Int) ≤ (k : Int) := by omega
        have i2 : (k : Int) < (xs.length : Int) := by omega
        go_wp2_with fail
        refine wp_region_noPanic ?_
        refine wp_region_held_drew (S := fun w' => Below w.heap.size w w') (by kernel_rfl) (unhide HB).drew (fun hHeld => ?_)
        generalize wr.drew = wD at hHeld ⊢
        refine wpAnyH_take (i := 0) (oi := { dst := some 17, op := Go.Op.move (Go.Operand.tmp 0), type := 38, pos := "exact.go:1135", after := #[], guard := none }) (v := ?v0) rfl (by kernel_rfl) (by kernel_rfl) (by kernel_rfl) (fun _ _ _ h => h) (Or.inl ⟨by rfl, ?h0⟩) hHeld ?r0
        case h0 =>
          intro wS hSw
          (try dsimp only at hSw)
          go_simp
          try with_reducible rfl
        case r0 =>
        simp only [Act.put, List.setIfInBounds_toArray, List.set_cons_zero, List.set_cons_succ]
        refine wpAnyH_take (i := 1) (oi := { dst := some 18, op := Go.Op.move (Go.Operand.tmp 5), type := 3, pos := "exact.go:1135", after := #[], guard := none }) (v := ?v1) rfl (by kernel_rfl) (by kernel_rfl) (by kernel_rfl) (fun _ _ _ h => h) (Or.inl ⟨by rfl, ?h1⟩) hHeld ?r1
        case h1 =>
          intro wS hSw
          (try dsimp only at hSw)
          go_simp
          try with_reducible rfl
        case r1 =>
        simp only [Act.put, List.setIfInBounds_toArray, List.set_cons_zero, List.set_cons_succ]
        refine wpAnyH_take (i := 2) (oi := { dst := some 19, op := Go.Op.indexAddr 38 (Go.Operand.tmp 17) (Go.Operand.tmp 18), type := 0, pos := "exact.go:1135", after := #[{ on := 0, ground := Go.Ground.data }, { on := 1, ground := Go.Ground.data }], guard := none }) (v := ?v2) rfl (by kernel_rfl) (by kernel_rfl) (by kernel_rfl) (fun _ _ _ h => h) (Or.inl ⟨by rfl, ?h2⟩) hHeld ?r2
        case h2 =>
          intro wS hSw
          (try dsimp only at hSw)
          go_simp
          try with_reducible rfl
        case r2 =>
        simp only [Act.put, List.setIfInBounds_toArray, List.set_cons_zero, List.set_cons_succ]
        refine wpAnyH_take (i := 3) (oi := { dst := some 20, op := Go.Op.load 31 (Go.Operand.tmp 19), type := 31, pos := "exact.go:1135", after := #[{ on := 2, ground := Go.Ground.data }], guard := none }) (v := ?v3) rfl (by kernel_rfl) (by kernel_rfl) (by kernel_rfl) (fun _ _ _ h => h) (Or.inl ⟨by rfl, ?h3⟩) hHeld ?r3
        case h3 =>
          intro wS hSw
          have y0 := (hSw.cell (p := ⟨b, off + k * 10, none⟩) hbl).trans c0
          have y1 := (hSw.cell (p := ⟨b, off + k * 10 + 1, none⟩) hbl).trans c1
          have y2 := (hSw.cell (p := ⟨b, off + k * 10 + 2, none⟩) hbl).trans c2
          have y3 := (hSw.cell (p := ⟨b, off + k * 10 + 3, none⟩) hbl).trans c3
          have y4 := (hSw.cell (p := ⟨b, off + k * 10 + 4, none⟩) hbl).trans c4
          have y5 := (hSw.cell (p := ⟨b, off + k * 10 + 5, none⟩) hbl).trans c5
          have y6 := (hSw.cell (p := ⟨b, off + k * 10 + 6, none⟩) hbl).trans c6
          have y7 := (hSw.cell (p := ⟨b, off + k * 10 + 7, none⟩) hbl).trans c7
          have y8 := (hSw.cell (p := ⟨b, off + k * 10 + 8, none⟩) hbl).trans c8
          have y9 := (hSw.cell (p := ⟨b, off + k * 10 + 9, none⟩) hbl).trans c9
          clear hSw
          (try dsimp only at hSw)
          go_simp
          try with_reducible rfl
        case r3 =>
        simp only [Act.put, List.setIfInBounds_toArray, List.set_cons_zero, List.set_cons_succ]
        refine wpAnyH_take (i := 4) (oi := { dst := some 21, op := Go.Op.move (Go.Operand.tmp 1), type := 38, pos := "exact.go:1135", after := #[], guard := none }) (v := ?v4) rfl (by kernel_rfl) (by kernel_rfl) (by kernel_rfl) (fun _ _ _ h => h) (Or.inl ⟨by rfl, ?h4⟩) hHeld ?r4
        case h4 =>
          intro wS hSw
          (try dsimp only at hSw)
          go_simp
          try with_reducible rfl
        case r4 =>
        simp only [Act.put, List.setIfInBounds_toArray, List.set_cons_zero, List.set_cons_succ]
        refine wpAnyH_take (i := 5) (oi := { dst := some 22, op := Go.Op.move (Go.Operand.tmp 5), type := 3, pos := "exact.go:1135", after := #[], guard := none }) (v := ?v5) rfl (by kernel_rfl) (by kernel_rfl) (by kernel_rfl) (fun _ _ _ h => h) (Or.inl ⟨by rfl, ?h5⟩) hHeld ?r5
        case h5 =>
          intro wS hSw
          (try dsimp only at hSw)
          go_simp
          try with_reducible rfl
        case r5 =>
        simp only [Act.put, List.setIfInBounds_toArray, List.set_cons_zero, List.set_cons_succ]
        refine wpAnyH_take (i := 6) (oi := { dst := some 23, op := Go.Op.indexAddr 38 (Go.Operand.tmp 21) (Go.Operand.tmp 22), type := 0, pos := "exact.go:1135", after := #[{ on := 4, ground := Go.Ground.data }, { on := 5, ground := Go.Ground.data }], guard := none }) (v := ?v6) rfl (by kernel_rfl) (by kernel_rfl) (by kernel_rfl) (fun _ _ _ h => h) (Or.inl ⟨by rfl, ?h6⟩) hHeld ?r6
        case h6 =>
          intro wS hSw
          (try dsimp only at hSw)
          go_simp
          try with_reducible rfl
        case r6 =>
        simp only [Act.put, List.setIfInBounds_toArray, List.set_cons_zero, List.set_cons_succ]
        refine wpAnyH_take (i := 7) (oi := { dst := some 24, op := Go.Op.load 31 (Go.Operand.tmp 23), type := 31, pos := "exact.go:1135", after := #[{ on := 6, ground := Go.Ground.data }], guard := none }) (v := ?v7) rfl (by kernel_rfl) (by kernel_rfl) (by kernel_rfl) (fun _ _ _ h => h) (Or.inl ⟨by rfl, ?h7⟩) hHeld ?r7
        case h7 =>
          intro wS hSw
          have y0z := (hSw.cell (p := ⟨b2, off2 + k * 10, none⟩) hbl2).trans c0z
          have y1z := (hSw.cell (p := ⟨b2, off2 + k * 10 + 1, none⟩) hbl2).trans c1z
          have y2z := (hSw.cell (p := ⟨b2, off2 + k * 10 + 2, none⟩) hbl2).trans c2z
          have y3z := (hSw.cell (p := ⟨b2, off2 + k * 10 + 3, none⟩) hbl2).trans c3z
          have y4z := (hSw.cell (p := ⟨b2, off2 + k * 10 + 4, none⟩) hbl2).trans c4z
          have y5z := (hSw.cell (p := ⟨b2, off2 + k * 10 + 5, none⟩) hbl2).trans c5z
          have y6z := (hSw.cell (p := ⟨b2, off2 + k * 10 + 6, none⟩) hbl2).trans c6z
          have y7z := (hSw.cell (p := ⟨b2, off2 + k * 10 + 7, none⟩) hbl2).trans c7z
          have y8z := (hSw.cell (p := ⟨b2, off2 + k * 10 + 8, none⟩) hbl2).trans c8z
          have y9z := (hSw.cell (p := ⟨b2, off2 + k * 10 + 9, none⟩) hbl2).trans c9z
          clear hSw
          (try dsimp only at hSw)
          go_simp
          try with_reducible rfl
        case r7 =>
        simp only [Act.put, List.setIfInBounds_toArray, List.set_cons_zero, List.set_cons_succ]
        refine wpAnyH_ready (rs := [8]) (by kernel_rfl) (by simp) ?_
        refine AllReadyH.cons (o := { dst := some 25, op := Go.Op.call { callee := Go.Callee.value (Go.Operand.func 12), args := #[Go.Operand.tmp 20, Go.Operand.tmp 24], argTypes := #[31, 31] }, type := 4, pos := "exact.go:1135", after := #[{ on := 3, ground := Go.Ground.data }, { on := 7, ground := Go.Ground.data }], guard := none }) rfl (fun K hK => ?_) AllReadyH.nil
        go_simp
        go_at_call 12
        refine (eq_Msg _ _ x _ ((unhide HR).later hHeld) ((unhide HRZ).later hHeld)).mono ?_
        rintro e w3 ⟨rfl, hbw⟩
        try go_wp2_with fail
        refine hK.out _ _ (hHeld.trans (hbw.mono hHeld.size)) (fun hHeld => ?_)
        clear hK K
        try simp only [Act.put, List.setIfInBounds_toArray, List.set_cons_zero, List.set_cons_succ]
        refine wpAnyH_take (i := 9) (oi := { dst := some 26, op := Go.Op.unOp Go.UnOp.not 4 (Go.Operand.tmp 25), type := 4, pos := "exact.go:1135", after := #[{ on := 8, ground := Go.Ground.data }], guard := none }) (v := ?v9) rfl (by kernel_rfl) (by kernel_rfl) (by kernel_rfl) (fun _ _ _ h => h) (Or.inl ⟨by rfl, ?h9⟩) hHeld ?r9
        case h9 =>
          intro wS hSw
          (try dsimp only at hSw)
          go_simp
          try with_reducible rfl
        case r9 =>
        simp only [Act.put, List.setIfInBounds_toArray, List.set_cons_zero, List.set_cons_succ]
        refine wpAnyH_done (by kernel_rfl) ?_ _
        refine NoPanic.normal ?_
        have HB3 := hide hHeld
        clear hHeld c0 c0z c1 c1z c2 c2z c3 c3z c4 c4z c5 c5z c6 c6z c7 c7z c8 c8z c9 c9z HB
        go_wp2_with fail
        go_roundw
        case rel => exact ⟨k + 1, by omega, by go_num, unhide HB3⟩
        case measure => simp [intOf]; omega
      · have HB := hide hB
        clear hB
        go_wp2_with fail
        go_ret
        exact ⟨rfl, unhide HB⟩
  · obtain rfl : xs = [] := List.eq_nil_of_length_eq_zero (by omega)
    clear h h2 hp
    simp only [List.length_nil] at *
    go_enter Try.func17, Try.ntmps17
    go_wp2_with fail
    refine wp_loop_rounds 1 ?_
    rw [rounds_succ]
    go_wp2_with fail
    go_ret
    exact ⟨rfl, Below.refl _ _⟩

end Go.Proofs.Ytkmfkaljdngigaa

namespace Go.Proofs.Ytkmfkaljdngigaa
open Go.RowKit

theorem vcnt_Msg (x : DMsg) : Lay.tMsg.vcnt x = Lay.tWrite.vcnt x.write := by
  show 0 + (0 + (0 + (0 + (0 + (Lay.tWrite.vcnt x.write))))) = Lay.tWrite.vcnt x.write
  omega
theorem mkv_Msg (k : Int) (x : DMsg) : Lay.tMsg.mkv k x = ⟨x.kind, x.epoch, x.src, x.dst, x.index, Lay.tWrite.mkv (k) x.write⟩ := by
  simp [Lay.tMsg, Lay.via, Lay.pair, Lay.int]
theorem own_Msg {w : World} {cs : List Value} {x : DMsg} {bl : List Nat} (h : Lay.tMsg.Own w cs x bl) : ∃ (a7 : Option Addr) (d7 : Nat) (g5 : List Nat), cs = [.int .i64 x.kind, .int .i64 x.epoch, .int .i64 x.src, .int .i64 x.dst, .int .i64 x.index, .int .i64 x.write.kind, .int .i64 x.write.id, .slice a7 x.write.vec.length d7, .int .i64 x.write.session, .int .i64 x.write.seq] ∧ bl = g5 ∧ Lay.tWrite.Own w [.int .i64 x.write.kind, .int .i64 x.write.id, .slice a7 x.write.vec.length d7, .int .i64 x.write.session, .int .i64 x.write.seq] x.write g5 ∧ (Lit.int .i64 x.kind).wf = true ∧ (Lit.int .i64 x.epoch).wf = true ∧ (Lit.int .i64 x.src).wf = true ∧ (Lit.int .i64 x.dst).wf = true ∧ (Lit.int .i64 x.index).wf = true := by
  obtain ⟨hl, hn, hf⟩ := h
  obtain ⟨a7, d7, b7, rfl, hbl, w0, w1, w2, w3, w4, w5, w6, l7, w8, w9⟩ := lies_Msg.1 hl
  rw [hbl] at hn hf
  exact ⟨a7, d7, b7, rfl, hbl, ⟨lies_Write.2 ⟨a7, d7, b7, rfl, rfl, w5, w6, l7, w8, w9⟩, hn, hf⟩, w0, w1, w2, w3, w4⟩
theorem mkOwn_Msg {w : World} {x : DMsg} {c5 : List Value} {g5 : List Nat} (O5 : Lay.tWrite.Own w c5 x.write g5) (v0 : (Lit.int .i64 x.kind).wf = true) (v1 : (Lit.int .i64 x.epoch).wf = true) (v2 : (Lit.int .i64 x.src).wf = true) (v3 : (Lit.int .i64 x.dst).wf = true) (v4 : (Lit.int .i64 x.index).wf = true) (hn : (g5).Nodup) : Lay.tMsg.Own w ([.int .i64 x.kind] ++ ([.int .i64 x.epoch] ++ ([.int .i64 x.src] ++ ([.int .i64 x.dst] ++ ([.int .i64 x.index] ++ c5))))) x (g5) := by
  refine ⟨⟨[.int .i64 x.kind], [.int .i64 x.epoch] ++ ([.int .i64 x.src] ++ ([.int .i64 x.dst] ++ ([.int .i64 x.index] ++ c5))), [], [] ++ ([] ++ ([] ++ ([] ++ g5))), rfl, by simp, ⟨rfl, v0, rfl⟩, ⟨[.int .i64 x.epoch], [.int .i64 x.src] ++ ([.int .i64 x.dst] ++ ([.int .i64 x.index] ++ c5)), [], [] ++ ([] ++ ([] ++ g5)), rfl, rfl, ⟨rfl, v1, rfl⟩, ⟨[.int .i64 x.src], [.int .i64 x.dst] ++ ([.int .i64 x.index] ++ c5), [], [] ++ ([] ++ g5), rfl, rfl, ⟨rfl, v2, rfl⟩, ⟨[.int .i64 x.dst], [.int .i64 x.index] ++ c5, [], [] ++ g5, rfl, rfl, ⟨rfl, v3, rfl⟩, ⟨[.int .i64 x.index], c5, [], g5, rfl, rfl, ⟨rfl, v4, rfl⟩, O5.1⟩⟩⟩⟩⟩, hn, ?_⟩
  intro b hb o
  exact O5.2.2 b hb o

end Go.Proofs.Ytkmfkaljdngigaa

namespace Go.Proofs.Ytkmfkaljdngigaa
open Go.RowKit

theorem cnt_ints (zs : List Int) : (Lay.sl Lay.int).cnt zs = zs.length := by
  show cntAll (fun _ => 1) zs = zs.length
  induction zs with
  | nil => rfl
  | cons z zs ih => simp [cntAll, ih]; omega
theorem vcnt_ints (zs : List Int) : (Lay.sl Lay.int).vcnt zs = zs.length := cnt_ints zs
theorem mkAll_len {α : Type} (cnt : α → Nat) (mk : Int → α → α) (k : Int) (xs : List α) : (mkAll cnt mk k xs).length = xs.length := by
  induction xs generalizing k with
  | nil => rfl
  | cons x xs ih => simp [mkAll, ih]
theorem mk_ints_at (k : Int) (zs : List Int) (j : Nat) (h : j < zs.length) : ((Lay.sl Lay.int).mkv k zs).getD j 0 = k + j := by
  show (mkAll (fun _ => 1) (fun k _ => k) k zs).getD j 0 = k + j
  induction zs generalizing k j with
  | nil => simp at h
  | cons z zs ih =>
    match j with
    | 0 => simp [mkAll]
    | j + 1 =>
      have := ih (k + 1) j (by simpa using h)
      simp only [mkAll, List.getD_cons_succ]
      rw [show ((1 : Nat) : Int) = 1 from rfl, this]
      omega
theorem mk_ints_len (k : Int) (zs : List Int) : ((Lay.sl Lay.int).mkv k zs).length = zs.length := mkAll_len _ _ _ _
theorem mk_ints_wf (k : Int) (zs : List Int) (hk : 0 ≤ k) (hk2 : k + zs.length ≤ 1000000000) : ∀ z ∈ (Lay.sl Lay.int).mkv k zs, (Lit.int .i64 z).wf = true := by
  intro z hz
  obtain ⟨j, hj, rfl⟩ := List.mem_iff_getElem.1 hz
  have hj' := hj
  rw [mk_ints_len] at hj'
  have := mk_ints_at k zs j hj'
  have e : ((Lay.sl Lay.int).mkv k zs)[j] = k + j := by simpa [List.getD, hj] using this
  rw [e]
  exact wf_of_bd (by omega)

set_option maxHeartbeats 400000 in
theorem markI_pos (b off cap : Nat) (zs : List Int) (k : Int) (w : World) (hk : 0 ≤ k) (hk2 : k + zs.length ≤ 1000000000) (hc : ∀ j, j < zs.length → w.cell? ⟨b, off + j, none⟩ = some (.int .i64 (zs.getD j 0)))
    (hf : ∀ o, w.frozen? ⟨b, o, none⟩ = false) :
    Calls Try.prog 44 #[.slice (some ⟨b, off, none⟩) zs.length cap, .int .i64 k] w fun e w' => e = .returned (.int .i64 (k + zs.length)) ∧
      (∀ j, j < zs.length → w'.cell? ⟨b, off + j, none⟩ = some (.int .i64 (k + j))) ∧ (∀ o, w'.frozen? ⟨b, o, none⟩ = false) ∧ (∀ o, (o < off ∨ off + zs.length ≤ o) → w'.cell? ⟨b, o, none⟩ = w.cell? ⟨b, o, none⟩) ∧ Ext (fun q => q = b) w w' := by
  go_enter Try.func44, Try.ntmps44
  go_wp2
  go_loopw [1, 5] (fun kk i wr => ∃ j : Nat, j ≤ zs.length ∧ i = .int .i64 j ∧ kk = .int .i64 (k + j) ∧ (∀ m, m < j → wr.cell? ⟨b, off + m, none⟩ = some (.int .i64 (k + m))) ∧ (∀ o, wr.frozen? ⟨b, o, none⟩ = false) ∧ (∀ o, (o < off ∨ off + j ≤ o) → wr.cell? ⟨b, o, none⟩ = w.cell? ⟨b, o, none⟩) ∧ Ext (fun q => q = b) w wr)
    (fun _ i _ => zs.length - (intOf i).toNat)
  case atStart => exact ⟨0, Nat.zero_le _, rfl, by simp, fun m hm => by omega, hf, fun _ _ => rfl, Ext.refl _ _⟩
  case round =>
    obtain ⟨j, hj, rfl, rfl, hm, hfz, ho, hx⟩ := hrel
    by_cases hlt : j < zs.length
    · have hcd : wr.cell? ⟨b, off + j, none⟩ = some (.int .i64 (zs.getD j 0)) := (ho (off + j) (by omega)).trans (hc j hlt)
      have hfj := hfz (off + j)
      have HM : Hid (∀ m, m < j + 1 → (wr.setCell ⟨b, off + j, none⟩ (.int .i64 (k + j))).cell? ⟨b, off + m, none⟩ = some (.int .i64 (k + m))) := by
        intro m hm1
        by_cases e : m = j
        · subst e
          exact World.cell?_setCell_same _ _ _ hcd
        · rw [World.cell?_setCell_other _ _ _ _ (fun q => by have := congrArg Addr.off q; simp only at this; omega)]
          exact hm m (by omega)
      have HF : Hid (∀ o, (wr.setCell ⟨b, off + j, none⟩ (.int .i64 (k + j))).frozen? ⟨b, o, none⟩ = false) := fun o => by simpa using hfz o
      have HO : Hid (∀ o, (o < off ∨ off + (j + 1) ≤ o) → (wr.setCell ⟨b, off + j, none⟩ (.int .i64 (k + j))).cell? ⟨b, o, none⟩ = w.cell? ⟨b, o, none⟩) := by
        intro o hoo
        rw [World.cell?_setCell_other _ _ _ _ (fun q => by have := congrArg Addr.off q; simp only at this; omega)]
        exact ho o (by omega)
      have HX := hide (hx.setCell ⟨b, off + j, none⟩ (.int .i64 (k + j)) rfl)
      clear hm hfz ho hx hc hf
      go_wp2
      go_roundw
      case rel => exact ⟨j + 1, by omega, by go_num, by go_num, unhide HM, unhide HF, unhide HO, unhide HX⟩
      case measure => simp [intOf]; omega
    · obtain rfl : j = zs.length := by omega
      have HM := hide hm
      have HF := hide hfz
      have HO := hide ho
      have HX := hide hx
      clear hm hfz ho hx hc hf
      go_wp2
      go_ret
      exact ⟨rfl, unhide HM, unhide HF, unhide HO, unhide HX⟩

theorem markI_zero (ao : Option Addr) (cap : Nat) (k : Int) (w : World) :
    Calls Try.prog 44 #[.slice ao 0 cap, .int .i64 k] w fun e w' => e = .returned (.int .i64 k) ∧ w' = w := by
  go_enter Try.func44, Try.ntmps44
  go_wp2
  refine wp_loop_rounds 1 ?_
  rw [rounds_succ]
  go_wp2
  go_ret
  exact ⟨rfl, rfl⟩

/-- markInt64S. -/
theorem mark_Int64S (v : Value) (zs : List Int) (bl : List Nat) (k : Int) (w : World) (h : (Lay.sl Lay.int).Own w [v] zs bl) (hk : 0 ≤ k) (hk2 : k + (Lay.sl Lay.int).vcnt zs ≤ 1000000000) :
    Calls Try.prog 44 #[v, .int .i64 k] w fun e w' => e = .returned (.int .i64 (k + (Lay.sl Lay.int).vcnt zs)) ∧ (Lay.sl Lay.int).Own w' [v] ((Lay.sl Lay.int).mkv k zs) bl ∧ Ext (fun q => q ∈ bl) w w' := by
  obtain ⟨hl, hn, hf⟩ := h
  rw [vcnt_ints] at hk2 ⊢
  rcases Lay.lies_ints.1 hl with ⟨ao, cap, rfl, hbig, hwf, ⟨rfl, rfl⟩ | ⟨b, off, rfl, hb, rfl, hc⟩⟩
  · refine (markI_zero ao cap k w).mono ?_
    rintro e w' ⟨rfl, rfl⟩
    exact ⟨by simp, ⟨hl, hn, hf⟩, Ext.refl _ _⟩
  · refine (markI_pos b off cap zs k w hk hk2 hc (hf b (by simp))).mono ?_
    rintro e w' ⟨rfl, hm, hfz, -, hx⟩
    refine ⟨rfl, ⟨Lay.lies_ints.2 ⟨_, cap, by rw [mk_ints_len], by rw [mk_ints_len]; exact hbig, mk_ints_wf k zs hk hk2, Or.inr ⟨b, off, rfl, Nat.lt_of_lt_of_le hb hx.size, rfl, fun j hj => ?_⟩⟩, hn, ?_⟩, hx.mono fun q _ e => by simp [e]⟩
    · rw [mk_ints_len] at hj
      rw [hm j hj, mk_ints_at k zs j hj]
    · intro b' hb' o
      obtain rfl : b' = b := by simpa using hb'
      exact hfz o

set_option maxHeartbeats 400000 in
theorem heldI_pos (b off cap n : Nat) (k : Int) (w : World) (hk : 0 ≤ k) (hk2 : k + n ≤ 1000000000) (hc : ∀ j, j < n → w.cell? ⟨b, off + j, none⟩ = some (.int .i64 (k + j))) :
    Calls Try.prog 75 #[.slice (some ⟨b, off, none⟩) n cap, .int .i64 k] w fun e w' => e = .returned (.int .i64 (k + n)) ∧ w' = w := by
  go_enter Try.func75, Try.ntmps75
  go_wp2
  go_loop [1, 5] (fun kk i => ∃ j : Nat, j ≤ n ∧ i = .int .i64 j ∧ kk = .int .i64 (k + j)) (fun _ i => n - (intOf i).toNat)
  case atStart => exact ⟨0, Nat.zero_le _, rfl, by simp⟩
  case round =>
    obtain ⟨j, hj, rfl, rfl⟩ := hrel
    by_cases hlt : j < n
    · have hcx := hc j hlt
      have hne : ((k + (j : Int)) != (k + (j : Int))) = false := by simp
      clear hc
      go_wp2
      go_round
      case rel => exact ⟨j + 1, by omega, by go_num, by go_num⟩
      case measure => simp [intOf]; omega
    · obtain rfl : j = n := by omega
      clear hc
      go_wp2
      go_ret
      exact ⟨rfl, rfl⟩
theorem heldI_zero (ao : Option Addr) (cap : Nat) (k : Int) (w : World) :
    Calls Try.prog 75 #[.slice ao 0 cap, .int .i64 k] w fun e w' => e = .returned (.int .i64 k) ∧ w' = w := by
  go_enter Try.func75, Try.ntmps75
  go_wp2
  refine wp_loop_rounds 1 ?_
  rw [rounds_succ]
  go_wp2
  go_ret
  exact ⟨rfl, rfl⟩
/-- heldInt64S. -/
theorem held_Int64S (v : Value) (zs : List Int) (k : Int) (w : World) (h : (Lay.sl Lay.int).Reads w [v] ((Lay.sl Lay.int).mkv k zs)) (hk : 0 ≤ k) (hk2 : k + (Lay.sl Lay.int).vcnt zs ≤ 1000000000) :
    Calls Try.prog 75 #[v, .int .i64 k] w fun e w' => e = .returned (.int .i64 (k + (Lay.sl Lay.int).vcnt zs)) ∧ Below w.heap.size w w' := by
  rw [vcnt_ints] at hk2 ⊢
  obtain ⟨ao, cap, rfl, hwf, hc⟩ := Lay.ints_reads h
  rw [mk_ints_len] at hc ⊢
  by_cases hp : 0 < zs.length
  · obtain ⟨b, off, rfl, hc1⟩ := hc hp
    refine (heldI_pos b off cap zs.length k w hk hk2 fun j hj => by rw [hc1 j hj, mk_ints_at k zs j hj]).mono ?_
    rintro e w' ⟨rfl, rfl⟩
    exact ⟨rfl, Below.refl _ _⟩
  · have e0 : zs.length = 0 := by omega
    rw [e0]
    refine (heldI_zero ao cap k w).mono ?_
    rintro e w' ⟨rfl, rfl⟩
    exact ⟨by simp, Below.refl _ _⟩

end Go.Proofs.Ytkmfkaljdngigaa

namespace Go.Proofs.Ytkmfkaljdngigaa
open Go.RowKit

theorem cnt_Msg (x : DMsg) : Lay.tMsg.cnt x = 9 + (Lay.sl Lay.int).vcnt x.write.vec := by
  show 1 + (1 + (1 + (1 + (1 + (1 + (1 + ((Lay.sl Lay.int).vcnt x.write.vec + (1 + (1))))))))) = 9 + (Lay.sl Lay.int).vcnt x.write.vec
  omega
theorem mkd_Msg (k : Int) (x : DMsg) : Lay.tMsg.mkd k x = ⟨k, k + 1, k + 1 + 1, k + 1 + 1 + 1, k + 1 + 1 + 1 + 1, ⟨k + 1 + 1 + 1 + 1 + 1, k + 1 + 1 + 1 + 1 + 1 + 1, (Lay.sl Lay.int).mkv (k + 1 + 1 + 1 + 1 + 1 + 1 + 1) x.write.vec, k + 1 + 1 + 1 + 1 + 1 + 1 + 1 + ((Lay.sl Lay.int).vcnt x.write.vec : Nat), k + 1 + 1 + 1 + 1 + 1 + 1 + 1 + ((Lay.sl Lay.int).vcnt x.write.vec : Nat) + 1⟩⟩ := rfl
theorem vcnt_MsgS (xs : List DMsg) : (Lay.sl Lay.tMsg).vcnt xs = cntAll Lay.tMsg.cnt xs := rfl
theorem mkv_MsgS (k : Int) (xs : List DMsg) : (Lay.sl Lay.tMsg).mkv k xs = mkAll Lay.tMsg.cnt Lay.tMsg.mkd k xs := rfl

set_option maxRecDepth 10000 in
set_option maxHeartbeats 2000000 in
theorem markMsg_pos (b off cap : Nat) (xs : List DMsg) (bl : List Nat) (k : Int) (w : World) (h : (Lay.sl Lay.tMsg).Own w [.slice (some ⟨b, off, none⟩) xs.length cap] xs bl) (hk : 0 ≤ k) (hk2 : k + (cntAll Lay.tMsg.cnt xs : Nat) ≤ 1000000000) :
    Calls Try.prog 21 #[.slice (some ⟨b, off, none⟩) xs.length cap, .int .i64 k] w fun e w' => e = .returned (.int .i64 (k + (cntAll Lay.tMsg.cnt xs : Nat))) ∧ (Lay.sl Lay.tMsg).Own w' [.slice (some ⟨b, off, none⟩) xs.length cap] (mkAll Lay.tMsg.cnt Lay.tMsg.mkd k xs) bl ∧ Ext (fun q => q ∈ bl) w w' := by
  have hbig := h.reads.big
  have H := hide h
  clear h
  go_enter Try.func21, Try.ntmps21
  go_wp2_with fail
  go_loopw [1, 5] (fun kk i wr => ∃ (j : Nat) (kj : Int), j ≤ xs.length ∧ i = .int .i64 j ∧ kj = k + (cntAll Lay.tMsg.cnt (xs.take j) : Nat) ∧ kk = .int .i64 kj ∧ (Lay.sl Lay.tMsg).Own wr [.slice (some ⟨b, off, none⟩) xs.length cap] (mkPre Lay.tMsg.cnt Lay.tMsg.mkd k xs j) bl ∧ Ext (fun q => q ∈ bl) w wr) (fun _ i _ => xs.length - (intOf i).toNat)
  case atStart => exact ⟨0, k, Nat.zero_le _, rfl, by simp [cntAll], rfl, by rw [mkPre_zero]; exact unhide H, Ext.refl _ _⟩
  case round =>
    obtain ⟨j, kj, hj, rfl, hkj, rfl, hO, hX⟩ := hrel
    clear H
    by_cases hlt : j < xs.length
    · have hj2 : j < (mkPre Lay.tMsg.cnt Lay.tMsg.mkd k xs j).length := by rw [mkPre_len _ _ _ _ _ hj]; exact hlt
      obtain ⟨row, blk, R, O, hbk, hin, hfin⟩ := Lay.own_upd hO hj2
      rw [mkPre_get _ _ _ _ _ hlt] at O
      have HT := hide (Lay.cntAll_take (f := Lay.tMsg.cnt) hlt)
      have hle := Lay.cntAll_take_le (f := Lay.tMsg.cnt) (xs := xs) (k := j + 1)
      rw [unhide HT] at hle
      have HM : Hid (∀ y, y = Lay.tMsg.mkd kj xs[j] → (mkPre Lay.tMsg.cnt Lay.tMsg.mkd k xs j).set j y = mkPre Lay.tMsg.cnt Lay.tMsg.mkd k xs (j + 1)) := fun y e => by rw [e, hkj]; exact mkPre_set _ _ _ _ _ hlt
      have HF := hide hfin
      have HX := hide hX
      have HI := hide hin
      clear hO hfin hX hin hj2
      generalize hx : xs[j] = x at *
      clear hx
      have hcn := cnt_Msg x
      have HD := hide (mkd_Msg kj x)
      have hb1 : 0 ≤ kj := by omega
      have hb2 : kj + (Lay.tMsg.cnt x : Int) ≤ 1000000000 := by omega
      have HK := hide hkj
      clear hkj hle
      have hnd := O.2.1
      obtain ⟨a7, d7, g7, rfl, hbl, OW, v0, v1, v2, v3, v4⟩ := own_Msg O
      obtain ⟨_, _, _, e9, hbl9, O7, v5, v6, v8, v9⟩ := own_Write OW
      simp only [List.cons.injEq, Value.slice.injEq, true_and, and_true] at e9
      obtain ⟨rfl, rfl⟩ := e9
      clear O OW
      subst hbl9
      subst hbl
      have HN := hide hnd
      clear hnd
      have l1 : b < wr.heap.size := R.lt
      have c0 : wr.cell? ⟨b, off + j * 10, none⟩ = some (.int .i64 x.kind) := R.at 0 _ rfl
      have f0 : wr.frozen? ⟨b, off + j * 10, none⟩ = false := R.soft _
      have c1 : wr.cell? ⟨b, off + j * 10 + 1, none⟩ = some (.int .i64 x.epoch) := R.at 1 _ rfl
      have f1 : wr.frozen? ⟨b, off + j * 10 + 1, none⟩ = false := R.soft _
      have c2 : wr.cell? ⟨b, off + j * 10 + 2, none⟩ = some (.int .i64 x.src) := R.at 2 _ rfl
      have f2 : wr.frozen? ⟨b, off + j * 10 + 2, none⟩ = false := R.soft _
      have c3 : wr.cell? ⟨b, off + j * 10 + 3, none⟩ = some (.int .i64 x.dst) := R.at 3 _ rfl
      have f3 : wr.frozen? ⟨b, off + j * 10 + 3, none⟩ = false := R.soft _
      have c4 : wr.cell? ⟨b, off + j * 10 + 4, none⟩ = some (.int .i64 x.index) := R.at 4 _ rfl
      have f4 : wr.frozen? ⟨b, off + j * 10 + 4, none⟩ = false := R.soft _
      have c5 : wr.cell? ⟨b, off + j * 10 + 5, none⟩ = some (.int .i64 x.write.kind) := R.at 5 _ rfl
      have f5 : wr.frozen? ⟨b, off + j * 10 + 5, none⟩ = false := R.soft _
      have c6 : wr.cell? ⟨b, off + j * 10 + 6, none⟩ = some (.int .i64 x.write.id) := R.at 6 _ rfl
      have f6 : wr.frozen? ⟨b, off + j * 10 + 6, none⟩ = false := R.soft _
      have c7 : wr.cell? ⟨b, off + j * 10 + 7, none⟩ = some (.slice a7 x.write.vec.length d7) := R.at 7 _ rfl
      have R0_ : RowAt wr (((((((wr.setCell ⟨b, off + j * 10, none⟩ (.int .i64 kj)).setCell ⟨b, off + j * 10 + 1, none⟩ (.int .i64 (kj + 1))).setCell ⟨b, off + j * 10 + 2, none⟩ (.int .i64 (kj + 1 + 1))).setCell ⟨b, off + j * 10 + 3, none⟩ (.int .i64 (kj + 1 + 1 + 1))).setCell ⟨b, off + j * 10 + 4, none⟩ (.int .i64 (kj + 1 + 1 + 1 + 1))).setCell ⟨b, off + j * 10 + 5, none⟩ (.int .i64 (kj + 1 + 1 + 1 + 1 + 1))).setCell ⟨b, off + j * 10 + 6, none⟩ (.int .i64 (kj + 1 + 1 + 1 + 1 + 1 + 1))) b (off + j * 10) 10 [.int .i64 kj, .int .i64 (kj + 1), .int .i64 (kj + 1 + 1), .int .i64 (kj + 1 + 1 + 1), .int .i64 (kj + 1 + 1 + 1 + 1), .int .i64 (kj + 1 + 1 + 1 + 1 + 1), .int .i64 (kj + 1 + 1 + 1 + 1 + 1 + 1), .slice a7 x.write.vec.length d7, .int .i64 x.write.session, .int .i64 x.write.seq] blk := (((((((R.set 0 (.int .i64 kj) (by decide)).set 1 (.int .i64 (kj + 1)) (by decide)).set 2 (.int .i64 (kj + 1 + 1)) (by decide)).set 3 (.int .i64 (kj + 1 + 1 + 1)) (by decide)).set 4 (.int .i64 (kj + 1 + 1 + 1 + 1)) (by decide)).set 5 (.int .i64 (kj + 1 + 1 + 1 + 1 + 1)) (by decide)).set 6 (.int .i64 (kj + 1 + 1 + 1 + 1 + 1 + 1)) (by decide))
      have E0_ : Ext (fun q => q = b) wr (((((((wr.setCell ⟨b, off + j * 10, none⟩ (.int .i64 kj)).setCell ⟨b, off + j * 10 + 1, none⟩ (.int .i64 (kj + 1))).setCell ⟨b, off + j * 10 + 2, none⟩ (.int .i64 (kj + 1 + 1))).setCell ⟨b, off + j * 10 + 3, none⟩ (.int .i64 (kj + 1 + 1 + 1))).setCell ⟨b, off + j * 10 + 4, none⟩ (.int .i64 (kj + 1 + 1 + 1 + 1))).setCell ⟨b, off + j * 10 + 5, none⟩ (.int .i64 (kj + 1 + 1 + 1 + 1 + 1))).setCell ⟨b, off + j * 10 + 6, none⟩ (.int .i64 (kj + 1 + 1 + 1 + 1 + 1 + 1))) := ((((((((Ext.refl (fun q => q = b) _).setCell ⟨b, off + j * 10, none⟩ (.int .i64 kj) rfl).setCell ⟨b, off + j * 10 + 1, none⟩ (.int .i64 (kj + 1)) rfl).setCell ⟨b, off + j * 10 + 2, none⟩ (.int .i64 (kj + 1 + 1)) rfl).setCell ⟨b, off + j * 10 + 3, none⟩ (.int .i64 (kj + 1 + 1 + 1)) rfl).setCell ⟨b, off + j * 10 + 4, none⟩ (.int .i64 (kj + 1 + 1 + 1 + 1)) rfl).setCell ⟨b, off + j * 10 + 5, none⟩ (.int .i64 (kj + 1 + 1 + 1 + 1 + 1)) rfl).setCell ⟨b, off + j * 10 + 6, none⟩ (.int .i64 (kj + 1 + 1 + 1 + 1 + 1 + 1)) rfl)
      have O7_ := O7.ext E0_ (fun c hc e => hbk (e ▸ hc))
      clear O7
      have O7 := O7_
      clear O7_
      clear R E0_
      have R := R0_
      clear R0_
      have HR := hide R
      clear R
      go_wp2_with fail
      refine (mark_Int64S _ x.write.vec blk (kj + 1 + 1 + 1 + 1 + 1 + 1 + 1) _ O7 (by omega) (by omega)).mono ?_
      rintro e w2 ⟨rfl, Q7, E2⟩
      have R := (unhide HR).call E2 (fun _ h => h) hbk
      clear E2 O7 HR c0 c1 c2 c3 c4 c5 c6 c7 f0 f1 f2 f3 f4 f5 f6
      clear l1
      have l1 : b < w2.heap.size := R.lt
      have c8 : w2.cell? ⟨b, off + j * 10 + 8, none⟩ = some (.int .i64 x.write.session) := R.at 8 _ rfl
      have f8 : w2.frozen? ⟨b, off + j * 10 + 8, none⟩ = false := R.soft _
      have c9 : w2.cell? ⟨b, off + j * 10 + 9, none⟩ = some (.int .i64 x.write.seq) := R.at 9 _ rfl
      have f9 : w2.frozen? ⟨b, off + j * 10 + 9, none⟩ = false := R.soft _
      have R1_ : RowAt wr ((w2.setCell ⟨b, off + j * 10 + 8, none⟩ (.int .i64 (kj + 1 + 1 + 1 + 1 + 1 + 1 + 1 + ((Lay.sl Lay.int).vcnt x.write.vec : Nat)))).setCell ⟨b, off + j * 10 + 9, none⟩ (.int .i64 (kj + 1 + 1 + 1 + 1 + 1 + 1 + 1 + ((Lay.sl Lay.int).vcnt x.write.vec : Nat) + 1))) b (off + j * 10) 10 [.int .i64 kj, .int .i64 (kj + 1), .int .i64 (kj + 1 + 1), .int .i64 (kj + 1 + 1 + 1), .int .i64 (kj + 1 + 1 + 1 + 1), .int .i64 (kj + 1 + 1 + 1 + 1 + 1), .int .i64 (kj + 1 + 1 + 1 + 1 + 1 + 1), .slice a7 x.write.vec.length d7, .int .i64 (kj + 1 + 1 + 1 + 1 + 1 + 1 + 1 + ((Lay.sl Lay.int).vcnt x.write.vec : Nat)), .int .i64 (kj + 1 + 1 + 1 + 1 + 1 + 1 + 1 + ((Lay.sl Lay.int).vcnt x.write.vec : Nat) + 1)] blk := ((R.set 8 (.int .i64 (kj + 1 + 1 + 1 + 1 + 1 + 1 + 1 + ((Lay.sl Lay.int).vcnt x.write.vec : Nat))) (by decide)).set 9 (.int .i64 (kj + 1 + 1 + 1 + 1 + 1 + 1 + 1 + ((Lay.sl Lay.int).vcnt x.write.vec : Nat) + 1)) (by decide))
      have E1_ : Ext (fun q => q = b) w2 ((w2.setCell ⟨b, off + j * 10 + 8, none⟩ (.int .i64 (kj + 1 + 1 + 1 + 1 + 1 + 1 + 1 + ((Lay.sl Lay.int).vcnt x.write.vec : Nat)))).setCell ⟨b, off + j * 10 + 9, none⟩ (.int .i64 (kj + 1 + 1 + 1 + 1 + 1 + 1 + 1 + ((Lay.sl Lay.int).vcnt x.write.vec : Nat) + 1))) := (((Ext.refl (fun q => q = b) _).setCell ⟨b, off + j * 10 + 8, none⟩ (.int .i64 (kj + 1 + 1 + 1 + 1 + 1 + 1 + 1 + ((Lay.sl Lay.int).vcnt x.write.vec : Nat))) rfl).setCell ⟨b, off + j * 10 + 9, none⟩ (.int .i64 (kj + 1 + 1 + 1 + 1 + 1 + 1 + 1 + ((Lay.sl Lay.int).vcnt x.write.vec : Nat) + 1)) rfl)
      have Q7_ := Q7.ext E1_ (fun c hc e => hbk (e ▸ hc))
      clear Q7
      have Q7 := hide Q7_
      clear Q7_
      clear R E1_
      have R := R1_
      clear R1_
      have HR := hide R
      clear R
      have HQ := hide (unhide Q7)
      clear Q7
      go_wp2_with fail
      go_roundw
      case rel =>
        refine ⟨j + 1, _, by omega, by go_num, ?_, rfl, ?_, ?_⟩
        · rw [unhide HT, hcn]
          have := unhide HK
          omega
        · rw [← unhide HM _ (unhide HD).symm]
          exact unhide HF _ _ _ (unhide HR) (mkOwn_Msg (x := ⟨kj, kj + 1, kj + 1 + 1, kj + 1 + 1 + 1, kj + 1 + 1 + 1 + 1, ⟨kj + 1 + 1 + 1 + 1 + 1, kj + 1 + 1 + 1 + 1 + 1 + 1, (Lay.sl Lay.int).mkv (kj + 1 + 1 + 1 + 1 + 1 + 1 + 1) x.write.vec, kj + 1 + 1 + 1 + 1 + 1 + 1 + 1 + ((Lay.sl Lay.int).vcnt x.write.vec : Nat), kj + 1 + 1 + 1 + 1 + 1 + 1 + 1 + ((Lay.sl Lay.int).vcnt x.write.vec : Nat) + 1⟩⟩) (mkOwn_Write (x := ⟨kj + 1 + 1 + 1 + 1 + 1, kj + 1 + 1 + 1 + 1 + 1 + 1, (Lay.sl Lay.int).mkv (kj + 1 + 1 + 1 + 1 + 1 + 1 + 1) x.write.vec, kj + 1 + 1 + 1 + 1 + 1 + 1 + 1 + ((Lay.sl Lay.int).vcnt x.write.vec : Nat), kj + 1 + 1 + 1 + 1 + 1 + 1 + 1 + ((Lay.sl Lay.int).vcnt x.write.vec : Nat) + 1⟩) (unhide HQ) (show (Lit.int .i64 (kj + 1 + 1 + 1 + 1 + 1)).wf = true from wf_of_bd (by omega)) (show (Lit.int .i64 (kj + 1 + 1 + 1 + 1 + 1 + 1)).wf = true from wf_of_bd (by omega)) (show (Lit.int .i64 (kj + 1 + 1 + 1 + 1 + 1 + 1 + 1 + ((Lay.sl Lay.int).vcnt x.write.vec : Nat))).wf = true from wf_of_bd (by omega)) (show (Lit.int .i64 (kj + 1 + 1 + 1 + 1 + 1 + 1 + 1 + ((Lay.sl Lay.int).vcnt x.write.vec : Nat) + 1)).wf = true from wf_of_bd (by omega)) (unhide HN)) (show (Lit.int .i64 (kj)).wf = true from wf_of_bd (by omega)) (show (Lit.int .i64 (kj + 1)).wf = true from wf_of_bd (by omega)) (show (Lit.int .i64 (kj + 1 + 1)).wf = true from wf_of_bd (by omega)) (show (Lit.int .i64 (kj + 1 + 1 + 1)).wf = true from wf_of_bd (by omega)) (show (Lit.int .i64 (kj + 1 + 1 + 1 + 1)).wf = true from wf_of_bd (by omega)) (unhide HN))
        · exact (unhide HX).trans ((unhide HR).ext.mono fun q _ hq => unhide HI q (by rcases hq with h | h; exact Or.inl h.symm; exact Or.inr h))
      case measure => simp [intOf]; omega
    · obtain rfl : j = xs.length := by omega
      rw [mkPre_all] at hO
      rw [List.take_length] at hkj
      have HK := hide hkj
      clear hkj
      have HO := hide hO
      have HX := hide hX
      clear hO hX
      go_wp2_with fail
      go_ret
      exact ⟨by rw [← unhide HK]; rfl, unhide HO, unhide HX⟩

theorem markMsg_zero (ao : Option Addr) (cap : Nat) (k : Int) (w : World) :
    Calls Try.prog 21 #[.slice ao 0 cap, .int .i64 k] w fun e w' => e = .returned (.int .i64 k) ∧ w' = w := by
  go_enter Try.func21, Try.ntmps21
  go_wp2_with fail
  refine wp_loop_rounds 1 ?_
  rw [rounds_succ]
  go_wp2_with fail
  go_ret
  exact ⟨rfl, rfl⟩

/-- markMsgS. -/
theorem mark_MsgS (v : Value) (xs : List DMsg) (bl : List Nat) (k : Int) (w : World) (h : (Lay.sl Lay.tMsg).Own w [v] xs bl) (hk : 0 ≤ k) (hk2 : k + (Lay.sl Lay.tMsg).vcnt xs ≤ 1000000000) :
    Calls Try.prog 21 #[v, .int .i64 k] w fun e w' => e = .returned (.int .i64 (k + (Lay.sl Lay.tMsg).vcnt xs)) ∧ (Lay.sl Lay.tMsg).Own w' [v] ((Lay.sl Lay.tMsg).mkv k xs) bl ∧ Ext (fun q => q ∈ bl) w w' := by
  obtain ⟨ao, cap, rfl⟩ := open_sl h.reads
  by_cases hp : 0 < xs.length
  · obtain ⟨b, off, rfl, hbl⟩ := Lay.sl_addr h.reads hp
    exact markMsg_pos b off cap xs bl k w h hk hk2
  · obtain rfl : xs = [] := List.eq_nil_of_length_eq_zero (by omega)
    refine (markMsg_zero ao cap k w).mono ?_
    rintro e w' ⟨rfl, rfl⟩
    exact ⟨by rw [vcnt_MsgS]; simp [cntAll], h, Ext.refl _ _⟩

end Go.Proofs.Ytkmfkaljdngigaa

namespace Go.Proofs.Ytkmfkaljdngigaa
open Go.RowKit

set_option maxRecDepth 10000 in
set_option maxHeartbeats 1000000 in
theorem mark_Write (cs : List Value) (x : DWrite) (bl : List Nat) (k : Int) (w : World) (h : Lay.tWrite.Own w cs x bl) (hk : 0 ≤ k) (hk2 : k + Lay.tWrite.vcnt x ≤ 1000000000) :
    Calls Try.prog 45 #[.agg cs.toArray, .int .i64 k] w fun e w' => e = .returned (.int .i64 (k + Lay.tWrite.vcnt x)) ∧ Lay.tWrite.Own w' cs (Lay.tWrite.mkv k x) bl ∧ Ext (fun q => q ∈ bl) w w' := by
  have hlt := h.lt
  have hnd := h.2.1
  rw [vcnt_Write] at hk2
  obtain ⟨a2, d2, g2, rfl, hbl, O2, v0, v1, v3, v4⟩ := own_Write h
  clear h
  have HB0 : Below w.heap.size w (w.alloc (.cells #[.int .i64 x.kind, .int .i64 x.id, .slice a2 x.vec.length d2, .int .i64 x.session, .int .i64 x.seq] 29)) := (Below.refl _ _).alloc (Nat.le_refl _) _
  have bA : Box w.heap.size #[.int .i64 x.kind, .int .i64 x.id, .slice a2 x.vec.length d2, .int .i64 x.session, .int .i64 x.seq] 29 (w.alloc (.cells #[.int .i64 x.kind, .int .i64 x.id, .slice a2 x.vec.length d2, .int .i64 x.session, .int .i64 x.seq] 29)) w.heap.size := newBox (Nat.le_refl _)
  have HN := hide hnd
  have HV := hide (vcnt_Write x)
  have HM := hide (mkv_Write k x)
  clear hnd
  go_enter Try.func45, Try.ntmps45
  go_wp2_with fail
  generalize w.alloc (.cells #[.int .i64 x.kind, .int .i64 x.id, .slice a2 x.vec.length d2, .int .i64 x.session, .int .i64 x.seq] 29) = W0 at *
  replace O2 := O2.later HB0
  have hsz := HB0.size
  have EX : Ext (fun q => q ∈ bl) w W0 := ext_of_below HB0 _
  have hs0 := bA.lt
  refine (mark_Int64S _ x.vec g2 (k) _ O2 (by omega) (by omega)).mono ?_
  rintro e w1 ⟨rfl, Q2, E2⟩
  replace EX := EX.trans (E2.mono fun b _ hb => by rw [hbl]; simp [hb])
  replace bA := bA.ext E2 (fun hm => by have := hlt w.heap.size (by rw [hbl]; simp [hm]); omega)
  clear E2
  have HA := hide bA
  have HX := hide EX
  have HL := hide hlt
  have HBL := hide hbl
  clear bA EX hlt hbl
  have P2 := hide Q2
  clear Q2
  clear O2
  go_wp2_with fail
  go_ret
  refine ⟨?_, ?_, unhide HX⟩
  · rw [show k + (Lay.tWrite.vcnt x : Int) = k + ((Lay.sl Lay.int).vcnt x.vec : Int) by rw [unhide HV]]
    rfl
  · have e := unhide HBL
    subst e
    rw [unhide HM]
    exact mkOwn_Write (x := ⟨x.kind, x.id, (Lay.sl Lay.int).mkv (k) x.vec, x.session, x.seq⟩) (unhide P2) v0 v1 v3 v4 (unhide HN)

end Go.Proofs.Ytkmfkaljdngigaa

namespace Go.Proofs.Ytkmfkaljdngigaa
open Go.RowKit

set_option maxRecDepth 10000 in
set_option maxHeartbeats 1000000 in
theorem mark_Msg (cs : List Value) (x : DMsg) (bl : List Nat) (k : Int) (w : World) (h : Lay.tMsg.Own w cs x bl) (hk : 0 ≤ k) (hk2 : k + Lay.tMsg.vcnt x ≤ 1000000000) :
    Calls Try.prog 22 #[.agg cs.toArray, .int .i64 k] w fun e w' => e = .returned (.int .i64 (k + Lay.tMsg.vcnt x)) ∧ Lay.tMsg.Own w' cs (Lay.tMsg.mkv k x) bl ∧ Ext (fun q => q ∈ bl) w w' := by
  have hlt := h.lt
  have hnd := h.2.1
  rw [vcnt_Msg] at hk2
  obtain ⟨a7, d7, g5, rfl, hbl, O5, v0, v1, v2, v3, v4⟩ := own_Msg h
  clear h
  have HB0 : Below w.heap.size w (w.alloc (.cells #[.int .i64 x.kind, .int .i64 x.epoch, .int .i64 x.src, .int .i64 x.dst, .int .i64 x.index, .int .i64 x.write.kind, .int .i64 x.write.id, .slice a7 x.write.vec.length d7, .int .i64 x.write.session, .int .i64 x.write.seq] 31)) := (Below.refl _ _).alloc (Nat.le_refl _) _
  have bA : Box w.heap.size #[.int .i64 x.kind, .int .i64 x.epoch, .int .i64 x.src, .int .i64 x.dst, .int .i64 x.index, .int .i64 x.write.kind, .int .i64 x.write.id, .slice a7 x.write.vec.length d7, .int .i64 x.write.session, .int .i64 x.write.seq] 31 (w.alloc (.cells #[.int .i64 x.kind, .int .i64 x.epoch, .int .i64 x.src, .int .i64 x.dst, .int .i64 x.index, .int .i64 x.write.kind, .int .i64 x.write.id, .slice a7 x.write.vec.length d7, .int .i64 x.write.session, .int .i64 x.write.seq] 31)) w.heap.size := newBox (Nat.le_refl _)
  have HN := hide hnd
  have HV := hide (vcnt_Msg x)
  have HM := hide (mkv_Msg k x)
  clear hnd
  go_enter Try.func22, Try.ntmps22
  go_wp2_with fail
  generalize w.alloc (.cells #[.int .i64 x.kind, .int .i64 x.epoch, .int .i64 x.src, .int .i64 x.dst, .int .i64 x.index, .int .i64 x.write.kind, .int .i64 x.write.id, .slice a7 x.write.vec.length d7, .int .i64 x.write.session, .int .i64 x.write.seq] 31) = W0 at *
  replace O5 := O5.later HB0
  have hsz := HB0.size
  have EX : Ext (fun q => q ∈ bl) w W0 := ext_of_below HB0 _
  have hs0 := bA.lt
  refine (mark_Write _ x.write g5 (k) _ O5 (by omega) (by omega)).mono ?_
  rintro e w1 ⟨rfl, Q5, E5⟩
  replace EX := EX.trans (E5.mono fun b _ hb => by rw [hbl]; simp [hb])
  replace bA := bA.ext E5 (fun hm => by have := hlt w.heap.size (by rw [hbl]; simp [hm]); omega)
  clear E5
  have HA := hide bA
  have HX := hide EX
  have HL := hide hlt
  have HBL := hide hbl
  clear bA EX hlt hbl
  have P5 := hide Q5
  clear Q5
  clear O5
  go_wp2_with fail
  go_ret
  refine ⟨?_, ?_, unhide HX⟩
  · rw [show k + (Lay.tMsg.vcnt x : Int) = k + (Lay.tWrite.vcnt x.write : Int) by rw [unhide HV]]
    rfl
  · have e := unhide HBL
    subst e
    rw [unhide HM]
    exact mkOwn_Msg (x := ⟨x.kind, x.epoch, x.src, x.dst, x.index, Lay.tWrite.mkv (k) x.write⟩) (unhide P5) v0 v1 v2 v3 v4 (unhide HN)

end Go.Proofs.Ytkmfkaljdngigaa

namespace Go.Proofs.Ytkmfkaljdngigaa
open Go.RowKit

structure DNetResult where
  code : Int
  msgs : List DMsg

def Lay.tNetResult : Lay DNetResult := Lay.via (Lay.pair Lay.int (Lay.sl Lay.tMsg)) (fun x => (x.code, x.msgs)) (fun p => ⟨p.1, p.2⟩)

theorem lies_NetResult {w : World} {cs : List Value} {x : DNetResult} {bl : List Nat} : Lay.tNetResult.lies w cs x bl ↔ ∃ (a1 : Option Addr) (d1 : Nat) (b1 : List Nat), cs = [.int .i64 x.code, .slice a1 x.msgs.length d1] ∧ bl = b1 ∧ (Lit.int .i64 x.code).wf = true ∧ (Lay.sl Lay.tMsg).lies w [.slice a1 x.msgs.length d1] x.msgs b1 := by
  constructor
  · intro h
    obtain ⟨c0_, r0_, e0_, s0_, rfl, rfl, h0, h1⟩ := h
    obtain ⟨rfl, w0, rfl⟩ := h0
    have k1 := h1
    obtain ⟨a1, d1, rfl, -⟩ := k1
    exact ⟨a1, d1, s0_, by simp, by simp, w0, h1⟩
  · rintro ⟨a1, d1, b1, rfl, hbl, w0, l1⟩
    rw [hbl]
    exact ⟨[.int .i64 x.code], [.slice a1 x.msgs.length d1], [], b1, rfl, by simp, ⟨rfl, w0, rfl⟩, l1⟩

theorem open_NetResult {w : World} {cs : List Value} {x : DNetResult} (h : Lay.tNetResult.Reads w cs x) : ∃ (a1 : Option Addr) (d1 : Nat), cs = [.int .i64 x.code, .slice a1 x.msgs.length d1] ∧ (Lay.sl Lay.tMsg).Reads w [.slice a1 x.msgs.length d1] x.msgs := by
  obtain ⟨bl, h⟩ := h
  obtain ⟨a1, d1, b1, rfl, -, w0, l1⟩ := lies_NetResult.1 h
  exact ⟨a1, d1, rfl, ⟨_, l1⟩⟩

end Go.Proofs.Ytkmfkaljdngigaa

namespace Go.Proofs.Ytkmfkaljdngigaa
open Go.RowKit

set_option maxRecDepth 10000 in
set_option maxHeartbeats 1000000 in
theorem eq_NetResult (cs cs2 : List Value) (x : DNetResult) (w : World) (h : Lay.tNetResult.Reads w cs x) (h2 : Lay.tNetResult.Reads w cs2 x) :
    Calls Try.prog 20 #[.agg cs.toArray, .agg cs2.toArray] w fun e w' => e = .returned (.bool true) ∧ Below w.heap.size w w' := by
  obtain ⟨a1, d1, rfl, R1⟩ := open_NetResult h
  obtain ⟨a1z, d1z, rfl, R1z⟩ := open_NetResult h2
  clear h h2
  have e0 : (x.code != x.code) = false := by simp
  have HB0 : Below w.heap.size w ((w.alloc (.cells #[.int .i64 x.code, .slice a1 x.msgs.length d1] 43)).alloc (.cells #[.int .i64 x.code, .slice a1z x.msgs.length d1z] 43)) := ((Below.refl _ _).alloc (Nat.le_refl _) _).alloc (by simp) _
  have bA : Box w.heap.size #[.int .i64 x.code, .slice a1 x.msgs.length d1] 43 ((w.alloc (.cells #[.int .i64 x.code, .slice a1 x.msgs.length d1] 43)).alloc (.cells #[.int .i64 x.code, .slice a1z x.msgs.length d1z] 43)) w.heap.size := (newBox (Nat.le_refl _)).grow _
  have bC : Box w.heap.size #[.int .i64 x.code, .slice a1z x.msgs.length d1z] 43 ((w.alloc (.cells #[.int .i64 x.code, .slice a1 x.msgs.length d1] 43)).alloc (.cells #[.int .i64 x.code, .slice a1z x.msgs.length d1z] 43)) (w.heap.size + 1) := newBoxAt (by omega) (by simp)
  go_enter Try.func20, Try.ntmps20
  go_wp2_with fail
  generalize (w.alloc (.cells #[.int .i64 x.code, .slice a1 x.msgs.length d1] 43)).alloc (.cells #[.int .i64 x.code, .slice a1z x.msgs.length d1z] 43) = W0 at *
  replace R1 := R1.later HB0
  replace R1z := R1z.later HB0
  refine (eq_MsgS _ _ x.msgs _ R1 R1z).mono ?_
  rintro e w1 ⟨rfl, hb⟩
  replace bA := bA.keep hb
  replace bC := bC.keep hb
  replace HB0 := HB0.trans (hb.mono HB0.size)
  clear hb
  have HB := hide HB0
  have HA := hide bA
  have HC := hide bC
  clear HB0 bA bC
  go_wp2_with fail
  go_ret
  exact ⟨rfl, unhide HB⟩

end Go.Proofs.Ytkmfkaljdngigaa

namespace Go.Proofs.Ytkmfkaljdngigaa
open Go.RowKit

theorem vcnt_NetResult (x : DNetResult) : Lay.tNetResult.vcnt x = (Lay.sl Lay.tMsg).vcnt x.msgs := by
  show 0 + ((Lay.sl Lay.tMsg).vcnt x.msgs) = (Lay.sl Lay.tMsg).vcnt x.msgs
  omega
theorem mkv_NetResult (k : Int) (x : DNetResult) : Lay.tNetResult.mkv k x = ⟨x.code, (Lay.sl Lay.tMsg).mkv (k) x.msgs⟩ := by
  simp [Lay.tNetResult, Lay.via, Lay.pair, Lay.int]
theorem own_NetResult {w : World} {cs : List Value} {x : DNetResult} {bl : List Nat} (h : Lay.tNetResult.Own w cs x bl) : ∃ (a1 : Option Addr) (d1 : Nat) (g1 : List Nat), cs = [.int .i64 x.code, .slice a1 x.msgs.length d1] ∧ bl = g1 ∧ (Lay.sl Lay.tMsg).Own w [.slice a1 x.msgs.length d1] x.msgs g1 ∧ (Lit.int .i64 x.code).wf = true := by
  obtain ⟨hl, hn, hf⟩ := h
  obtain ⟨a1, d1, b1, rfl, hbl, w0, l1⟩ := lies_NetResult.1 hl
  rw [hbl] at hn hf
  exact ⟨a1, d1, b1, rfl, hbl, ⟨l1, hn, hf⟩, w0⟩
theorem mkOwn_NetResult {w : World} {x : DNetResult} {c1 : List Value} {g1 : List Nat} (O1 : (Lay.sl Lay.tMsg).Own w c1 x.msgs g1) (v0 : (Lit.int .i64 x.code).wf = true) (hn : (g1).Nodup) : Lay.tNetResult.Own w ([.int .i64 x.code] ++ c1) x (g1) := by
  refine ⟨⟨[.int .i64 x.code], c1, [], g1, rfl, by simp, ⟨rfl, v0, rfl⟩, O1.1⟩, hn, ?_⟩
  intro b hb o
  exact O1.2.2 b hb o

end Go.Proofs.Ytkmfkaljdngigaa

namespace Go.Proofs.Ytkmfkaljdngigaa
open Go.RowKit

set_option maxRecDepth 10000 in
set_option maxHeartbeats 1000000 in
theorem mark_NetResult (cs : List Value) (x : DNetResult) (bl : List Nat) (k : Int) (w : World) (h : Lay.tNetResult.Own w cs x bl) (hk : 0 ≤ k) (hk2 : k + Lay.tNetResult.vcnt x ≤ 1000000000) :
    Calls Try.prog 23 #[.agg cs.toArray, .int .i64 k] w fun e w' => e = .returned (.int .i64 (k + Lay.tNetResult.vcnt x)) ∧ Lay.tNetResult.Own w' cs (Lay.tNetResult.mkv k x) bl ∧ Ext (fun q => q ∈ bl) w w' := by
  have hlt := h.lt
  have hnd := h.2.1
  rw [vcnt_NetResult] at hk2
  obtain ⟨a1, d1, g1, rfl, hbl, O1, v0⟩ := own_NetResult h
  clear h
  have HB0 : Below w.heap.size w (w.alloc (.cells #[.int .i64 x.code, .slice a1 x.msgs.length d1] 43)) := (Below.refl _ _).alloc (Nat.le_refl _) _
  have bA : Box w.heap.size #[.int .i64 x.code, .slice a1 x.msgs.length d1] 43 (w.alloc (.cells #[.int .i64 x.code, .slice a1 x.msgs.length d1] 43)) w.heap.size := newBox (Nat.le_refl _)
  have HN := hide hnd
  have HV := hide (vcnt_NetResult x)
  have HM := hide (mkv_NetResult k x)
  clear hnd
  go_enter Try.func23, Try.ntmps23
  go_wp2_with fail
  generalize w.alloc (.cells #[.int .i64 x.code, .slice a1 x.msgs.length d1] 43) = W0 at *
  replace O1 := O1.later HB0
  have hsz := HB0.size
  have EX : Ext (fun q => q ∈ bl) w W0 := ext_of_below HB0 _
  have hs0 := bA.lt
  refine (mark_MsgS _ x.msgs g1 (k) _ O1 (by omega) (by omega)).mono ?_
  rintro e w1 ⟨rfl, Q1, E1⟩
  replace EX := EX.trans (E1.mono fun b _ hb => by rw [hbl]; simp [hb])
  replace bA := bA.ext E1 (fun hm => by have := hlt w.heap.size (by rw [hbl]; simp [hm]); omega)
  clear E1
  have HA := hide bA
  have HX := hide EX
  have HL := hide hlt
  have HBL := hide hbl
  clear bA EX hlt hbl
  have P1 := hide Q1
  clear Q1
  clear O1
  go_wp2_with fail
  go_ret
  refine ⟨?_, ?_, unhide HX⟩
  · rw [show k + (Lay.tNetResult.vcnt x : Int) = k + ((Lay.sl Lay.tMsg).vcnt x.msgs : Int) by rw [unhide HV]]
    rfl
  · have e := unhide HBL
    subst e
    rw [unhide HM]
    exact mkOwn_NetResult (x := ⟨x.code, (Lay.sl Lay.tMsg).mkv (k) x.msgs⟩) (unhide P1) v0 (unhide HN)

end Go.Proofs.Ytkmfkaljdngigaa

namespace Go.Proofs.Ytkmfkaljdngigaa
open Go.RowKit

set_option maxRecDepth 10000 in
set_option maxHeartbeats 2000000 in
theorem heldMsg_pos (b off cap : Nat) (xs : List DMsg) (k : Int) (w : World) (h : (Lay.sl Lay.tMsg).Reads w [.slice (some ⟨b, off, none⟩) (mkAll Lay.tMsg.cnt Lay.tMsg.mkd k xs).length cap] (mkAll Lay.tMsg.cnt Lay.tMsg.mkd k xs)) (hbl : b < w.heap.size) (hk : 0 ≤ k) (hk2 : k + (cntAll Lay.tMsg.cnt xs : Nat) ≤ 1000000000) :
    Calls Try.prog 46 #[.slice (some ⟨b, off, none⟩) xs.length cap, .int .i64 k] w fun e w' => e = .returned (.int .i64 (k + (cntAll Lay.tMsg.cnt xs : Nat))) ∧ Below w.heap.size w w' := by
  have hbig := h.big
  rw [mkAll_size] at hbig
  have H := hide h
  clear h
  go_enter Try.func46, Try.ntmps46
  go_wp2_with fail
  go_loopw [1, 5] (fun kk i wr => ∃ (j : Nat) (kj : Int), j ≤ xs.length ∧ i = .int .i64 j ∧ kj = k + (cntAll Lay.tMsg.cnt (xs.take j) : Nat) ∧ kk = .int .i64 kj ∧ Below w.heap.size w wr) (fun _ i _ => xs.length - (intOf i).toNat)
  case atStart => exact ⟨0, k, Nat.zero_le _, rfl, by simp [cntAll], rfl, Below.refl _ _⟩
  case round =>
    obtain ⟨j, kj, hj, rfl, hkj, rfl, hB⟩ := hrel
    by_cases hlt : j < xs.length
    · have hj2 : j < (mkAll Lay.tMsg.cnt Lay.tMsg.mkd k xs).length := by rw [mkAll_size]; exact hlt
      obtain ⟨row, hc, hr⟩ := Lay.row_at (unhide H) hj2
      rw [mkAll_at _ _ _ _ _ hlt hj2, ← hkj, mkd_Msg] at hr
      have HT := hide (Lay.cntAll_take (f := Lay.tMsg.cnt) hlt)
      have hle := Lay.cntAll_take_le (f := Lay.tMsg.cnt) (xs := xs) (k := j + 1)
      rw [unhide HT] at hle
      clear hj2
      generalize hx : xs[j] = x at *
      clear hx
      have hcn := cnt_Msg x
      have hb1 : 0 ≤ kj := by omega
      have hb2 : kj + (Lay.tMsg.cnt x : Int) ≤ 1000000000 := by omega
      have HK := hide hkj
      clear hkj hle
      replace hr := hr.later hB
      obtain ⟨a7, d7, rfl, RW⟩ := open_Msg hr
      obtain ⟨_, _, e9, R7⟩ := open_Write RW
      simp only [List.cons.injEq, Value.slice.injEq, true_and, and_true] at e9
      obtain ⟨rfl, rfl⟩ := e9
      clear hr RW
      generalize hn : (⟨kj, kj + 1, kj + 1 + 1, kj + 1 + 1 + 1, kj + 1 + 1 + 1 + 1, ⟨kj + 1 + 1 + 1 + 1 + 1, kj + 1 + 1 + 1 + 1 + 1 + 1, (Lay.sl Lay.int).mkv (kj + 1 + 1 + 1 + 1 + 1 + 1 + 1) x.write.vec, kj + 1 + 1 + 1 + 1 + 1 + 1 + 1 + ((Lay.sl Lay.int).vcnt x.write.vec : Nat), kj + 1 + 1 + 1 + 1 + 1 + 1 + 1 + ((Lay.sl Lay.int).vcnt x.write.vec : Nat) + 1⟩⟩ : DMsg).write.vec.length = n1 at *
      clear hn
      have c0 : wr.cell? ⟨b, off + j * 10, none⟩ = some (.int .i64 (kj)) := (hB.cell (p := ⟨b, off + j * 10, none⟩) hbl).trans (hc 0 (by decide))
      have e0 : ((kj : Int) != (kj : Int)) = false := by simp
      have c1 : wr.cell? ⟨b, off + j * 10 + 1, none⟩ = some (.int .i64 (kj + 1)) := (hB.cell (p := ⟨b, off + j * 10 + 1, none⟩) hbl).trans (hc 1 (by decide))
      have e1 : ((kj + 1 : Int) != (kj + 1 : Int)) = false := by simp
      have c2 : wr.cell? ⟨b, off + j * 10 + 2, none⟩ = some (.int .i64 (kj + 1 + 1)) := (hB.cell (p := ⟨b, off + j * 10 + 2, none⟩) hbl).trans (hc 2 (by decide))
      have e2 : ((kj + 1 + 1 : Int) != (kj + 1 + 1 : Int)) = false := by simp
      have c3 : wr.cell? ⟨b, off + j * 10 + 3, none⟩ = some (.int .i64 (kj + 1 + 1 + 1)) := (hB.cell (p := ⟨b, off + j * 10 + 3, none⟩) hbl).trans (hc 3 (by decide))
      have e3 : ((kj + 1 + 1 + 1 : Int) != (kj + 1 + 1 + 1 : Int)) = false := by simp
      have c4 : wr.cell? ⟨b, off + j * 10 + 4, none⟩ = some (.int .i64 (kj + 1 + 1 + 1 + 1)) := (hB.cell (p := ⟨b, off + j * 10 + 4, none⟩) hbl).trans (hc 4 (by decide))
      have e4 : ((kj + 1 + 1 + 1 + 1 : Int) != (kj + 1 + 1 + 1 + 1 : Int)) = false := by simp
      have c5 : wr.cell? ⟨b, off + j * 10 + 5, none⟩ = some (.int .i64 (kj + 1 + 1 + 1 + 1 + 1)) := (hB.cell (p := ⟨b, off + j * 10 + 5, none⟩) hbl).trans (hc 5 (by decide))
      have e5 : ((kj + 1 + 1 + 1 + 1 + 1 : Int) != (kj + 1 + 1 + 1 + 1 + 1 : Int)) = false := by simp
      have c6 : wr.cell? ⟨b, off + j * 10 + 6, none⟩ = some (.int .i64 (kj + 1 + 1 + 1 + 1 + 1 + 1)) := (hB.cell (p := ⟨b, off + j * 10 + 6, none⟩) hbl).trans (hc 6 (by decide))
      have e6 : ((kj + 1 + 1 + 1 + 1 + 1 + 1 : Int) != (kj + 1 + 1 + 1 + 1 + 1 + 1 : Int)) = false := by simp
      have c7 : wr.cell? ⟨b, off + j * 10 + 7, none⟩ = some (.slice a7 n1 d7) := (hB.cell (p := ⟨b, off + j * 10 + 7, none⟩) hbl).trans (hc 7 (by decide))
      have c8 : wr.cell? ⟨b, off + j * 10 + 8, none⟩ = some (.int .i64 (kj + 1 + 1 + 1 + 1 + 1 + 1 + 1 + ((Lay.sl Lay.int).vcnt x.write.vec : Nat))) := (hB.cell (p := ⟨b, off + j * 10 + 8, none⟩) hbl).trans (hc 8 (by decide))
      have e8 : ((kj + 1 + 1 + 1 + 1 + 1 + 1 + 1 + ((Lay.sl Lay.int).vcnt x.write.vec : Nat) : Int) != (kj + 1 + 1 + 1 + 1 + 1 + 1 + 1 + ((Lay.sl Lay.int).vcnt x.write.vec : Nat) : Int)) = false := by simp
      have c9 : wr.cell? ⟨b, off + j * 10 + 9, none⟩ = some (.int .i64 (kj + 1 + 1 + 1 + 1 + 1 + 1 + 1 + ((Lay.sl Lay.int).vcnt x.write.vec : Nat) + 1)) := (hB.cell (p := ⟨b, off + j * 10 + 9, none⟩) hbl).trans (hc 9 (by decide))
      have e9 : ((kj + 1 + 1 + 1 + 1 + 1 + 1 + 1 + ((Lay.sl Lay.int).vcnt x.write.vec : Nat) + 1 : Int) != (kj + 1 + 1 + 1 + 1 + 1 + 1 + 1 + ((Lay.sl Lay.int).vcnt x.write.vec : Nat) + 1 : Int)) = false := by simp
      have HB := hide hB
      clear hB hc
      go_wp2_with fail
      refine (held_Int64S _ x.write.vec (kj + 1 + 1 + 1 + 1 + 1 + 1 + 1) _ R7 (by omega) (by omega)).mono ?_
      rintro e w2 ⟨rfl, hb⟩
      have l1 : b < wr.heap.size := Nat.lt_of_lt_of_le hbl (unhide HB).size
      replace c8 := (hb.cell (p := ⟨b, off + j * 10 + 8, none⟩) l1).trans c8
      replace c9 := (hb.cell (p := ⟨b, off + j * 10 + 9, none⟩) l1).trans c9
      replace HB := hide ((unhide HB).trans (hb.mono (unhide HB).size))
      clear hb R7 l1 c0 c1 c2 c3 c4 c5 c6 c7
      have hq : decide (kj + 1 + 1 + 1 + 1 + 1 + 1 + 1 + ((Lay.sl Lay.int).vcnt x.write.vec : Int) < 0) = false := by simp; omega
      go_wp2_with fail
      go_roundw
      case rel => exact ⟨j + 1, _, by omega, by go_num, (by rw [unhide HT, hcn]; have := unhide HK; omega), rfl, unhide HB⟩
      case measure => simp [intOf]; omega
    · obtain rfl : j = xs.length := by omega
      rw [List.take_length] at hkj
      have HK := hide hkj
      have HB := hide hB
      clear hB hkj
      go_wp2_with fail
      go_ret
      exact ⟨by rw [← unhide HK]; rfl, unhide HB⟩

theorem heldMsg_zero (ao : Option Addr) (cap : Nat) (k : Int) (w : World) :
    Calls Try.prog 46 #[.slice ao 0 cap, .int .i64 k] w fun e w' => e = .returned (.int .i64 k) ∧ w' = w := by
  go_enter Try.func46, Try.ntmps46
  go_wp2_with fail
  refine wp_loop_rounds 1 ?_
  rw [rounds_succ]
  go_wp2_with fail
  go_ret
  exact ⟨rfl, rfl⟩

/-- heldMsgS. -/
theorem held_MsgS (v : Value) (xs : List DMsg) (k : Int) (w : World) (h : (Lay.sl Lay.tMsg).Reads w [v] ((Lay.sl Lay.tMsg).mkv k xs)) (hk : 0 ≤ k) (hk2 : k + (Lay.sl Lay.tMsg).vcnt xs ≤ 1000000000) :
    Calls Try.prog 46 #[v, .int .i64 k] w fun e w' => e = .returned (.int .i64 (k + (Lay.sl Lay.tMsg).vcnt xs)) ∧ Below w.heap.size w w' := by
  rw [mkv_MsgS] at h
  obtain ⟨ao, cap, rfl⟩ := open_sl h
  by_cases hp : 0 < xs.length
  · obtain ⟨b, off, rfl, hbl⟩ := Lay.sl_addr h (by rw [mkAll_size]; exact hp)
    have L := heldMsg_pos b off cap xs k w h hbl hk hk2
    rw [mkAll_size]
    exact L
  · obtain rfl : xs = [] := List.eq_nil_of_length_eq_zero (by omega)
    refine (heldMsg_zero ao cap k w).mono ?_
    rintro e w' ⟨rfl, rfl⟩
    exact ⟨by rw [vcnt_MsgS]; simp [cntAll], Below.refl _ _⟩

end Go.Proofs.Ytkmfkaljdngigaa

namespace Go.Proofs.Ytkmfkaljdngigaa
open Go.RowKit

set_option maxRecDepth 10000 in
set_option maxHeartbeats 1000000 in
theorem held_NetResult (cs : List Value) (x : DNetResult) (k : Int) (w : World) (h : Lay.tNetResult.Reads w cs (Lay.tNetResult.mkv k x)) (hk : 0 ≤ k) (hk2 : k + Lay.tNetResult.vcnt x ≤ 1000000000) :
    Calls Try.prog 24 #[.agg cs.toArray, .int .i64 k] w fun e w' => e = .returned (.int .i64 (k + Lay.tNetResult.vcnt x)) ∧ Below w.heap.size w w' := by
  rw [mkv_NetResult] at h
  rw [vcnt_NetResult] at hk2
  have HV := hide (vcnt_NetResult x)
  obtain ⟨a1, d1, rfl, R1⟩ := open_NetResult h
  clear h
  generalize hn1 : (⟨x.code, (Lay.sl Lay.tMsg).mkv (k) x.msgs⟩ : DNetResult).msgs.length = n1 at *
  clear hn1
  have HB0 : Below w.heap.size w (w.alloc (.cells #[.int .i64 x.code, .slice a1 n1 d1] 43)) := (Below.refl _ _).alloc (Nat.le_refl _) _
  have bA : Box w.heap.size #[.int .i64 x.code, .slice a1 n1 d1] 43 (w.alloc (.cells #[.int .i64 x.code, .slice a1 n1 d1] 43)) w.heap.size := newBox (Nat.le_refl _)
  go_enter Try.func24, Try.ntmps24
  go_wp2_with fail
  generalize w.alloc (.cells #[.int .i64 x.code, .slice a1 n1 d1] 43) = W0 at *
  replace R1 := R1.later HB0
  refine (held_MsgS _ x.msgs (k) _ R1 (by omega) (by omega)).mono ?_
  rintro e w1 ⟨rfl, hb⟩
  replace HB0 := HB0.trans (hb.mono HB0.size)
  replace bA := bA.keep hb
  have HA := hide bA
  have HX := hide HB0
  clear bA HB0 hb R1
  have hq : decide (k + ((Lay.sl Lay.tMsg).vcnt x.msgs : Int) < 0) = false := by simp; omega
  go_wp2_with fail
  clear hq
  go_ret
  refine ⟨?_, unhide HX⟩
  rw [show k + (Lay.tNetResult.vcnt x : Int) = k + ((Lay.sl Lay.tMsg).vcnt x.msgs : Int) by rw [unhide HV]]
  rfl

end Go.Proofs.Ytkmfkaljdngigaa
