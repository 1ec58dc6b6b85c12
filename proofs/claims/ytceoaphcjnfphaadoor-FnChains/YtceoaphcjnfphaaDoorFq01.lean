/-
  Texts of this proof in one: Ground, LayChain, LayChainResult, LayIntResult, LayTextResult, ReadPlain, NumPlain, ChainPlain, OwnChain, OwnChainResult, StoreKit, ChainKit, Draw1, DrawKeep, Source, SrcKit, ChainDraw, InB, SpecNode9, SpecChainF, Info, AppInt, SpecNewC, StepInt, SpecCutC, AppInts, SpecIntsB, OneInts, AppIntsAt.
  Their conditions stand in their theorems.
-/
import Derived.WalkKit
import Derived.WalkSpells
import Derived.WalkSmall
import Derived.Deep.AppendLies
import Derived.Test.YtceoaphcjnfphaaDoorChecked
import Derived.BigQuiet
import Derived.Deep.QuietTactic
import Derived.Deep.RegionHeld3
import Derived.Maps.AppendAt

namespace Go.Proofs.YtceoaphcjnfphaaDoor
open Go.RowKit

theorem hide {p : Prop} (h : p) : Hid p := h
theorem unhide {p : Prop} (h : Hid p) : p := h

def intRes (c v : Int) : Value := .agg #[.int .i64 c, .int .i64 v]
def intsRes (c : Int) (v : Value) : Value := .agg #[.int .i64 c, v]

theorem cell_drewN (w : World) (n : Nat) (a : Addr) : (w.drewN n).cell? a = w.cell? a := rfl
theorem frozen_drewN (w : World) (n : Nat) (a : Addr) : (w.drewN n).frozen? a = w.frozen? a := rfl
theorem heap_drewN (w : World) (n : Nat) : (w.drewN n).heap = w.heap := rfl
theorem below_drawn {B : Nat} {a w : World} (h : Below B a w) (n : Nat) : Below B a (w.drewN n) := h.trans ⟨rfl, rfl, rfl, Nat.le_refl _, fun _ _ => rfl⟩

theorem cell_keep {w wx : World} {a : Addr} {v : Value} (hb : Below w.heap.size w wx) (h : w.cell? a = some v) : wx.cell? a = some v := (hb.cell (World.block_lt_of_cell? _ _ h)).trans h
theorem new_cells {w : World} {T : TypeId} {x y : Value} : (w.alloc (.cells #[x, y] T)).cell? ⟨w.heap.size, 0, none⟩ = some x ∧ (w.alloc (.cells #[x, y] T)).cell? ⟨w.heap.size, 1, none⟩ = some y := by
  constructor <;> simp [go_sem]

theorem grown_trans {a b c : World} {r : Option Nat} (h : a.grownBy b r) (k : b.grownBy c r) : a.grownBy c r :=
  ⟨k.os.trans h.os, k.tape.trans h.tape, k.output.trans h.output, Nat.le_trans h.size k.size, fun i hi hr => (k.block i (Nat.lt_of_lt_of_le hi h.size) hr).trans (h.block i hi hr)⟩

/-- The slice v holds the numbers zs, each an int64. -/
def IsInts (w : World) (v : Value) (zs : List Int) : Prop :=
  ∃ ao cap, v = .slice ao zs.length cap ∧ (∀ z ∈ zs, (Lit.int .i64 z).wf = true) ∧
    (0 < zs.length → ∃ b off, ao = some ⟨b, off, none⟩ ∧ ∀ j, j < zs.length → w.cell? ⟨b, off + j, none⟩ = some (.int .i64 (zs.getD j 0)))

theorem IsInts.later {w w' : World} {v : Value} {zs : List Int} (h : IsInts w v zs) (hb : Below w.heap.size w w') : IsInts w' v zs := by
  obtain ⟨ao, cap, rfl, hwf, hc⟩ := h
  refine ⟨ao, cap, rfl, hwf, fun hp => ?_⟩
  obtain ⟨b, off, hao, hc1⟩ := hc hp
  refine ⟨b, off, hao, fun j hj => ?_⟩
  have h1 := hc1 j hj
  exact (hb.cell (World.block_lt_of_cell? _ _ h1)).trans h1

theorem IsInts.bound {w : World} {v : Value} {zs : List Int} (h : IsInts w v zs) : ∀ j, -9223372036854775808 ≤ zs.getD j 0 ∧ zs.getD j 0 ≤ 9223372036854775807 := by
  obtain ⟨ao, cap, rfl, hwf, _⟩ := h
  intro j
  by_cases hj : j < zs.length
  · have h1 := hwf (zs.getD j 0) (by simp [List.getD, hj])
    simpa [Lit.wf, IntKind.min, IntKind.max, IntKind.signed, IntKind.bits] using h1
  · simp [List.getD, List.getElem?_eq_none (by omega : zs.length ≤ j)]

/-- A block of numbers that lies whole. -/
theorem isInts_owned {w : World} {base T g : Nat} {zs : List Int} (hwf : ∀ z ∈ zs, (Lit.int .i64 z).wf = true)
    (h : w.ownsRow base T 1 (.slice (some ⟨g, 0, none⟩) zs.length zs.length) zs.length (zs.map (Value.int .i64))) : IsInts w (.slice (some ⟨g, 0, none⟩) zs.length zs.length) zs := by
  refine ⟨_, _, rfl, hwf, fun hp => ⟨g, 0, rfl, fun j hj => ?_⟩⟩
  rw [Nat.zero_add, h.cellAt j (by omega)]
  simp [List.getD, hj]

/-- Whatever owns a row of numbers holds them. -/
theorem isInts_row {w : World} {base T : Nat} {v : Value} {zs : List Int} (hwf : ∀ z ∈ zs, (Lit.int .i64 z).wf = true)
    (h : w.ownsRow base T 1 v zs.length (zs.map (Value.int .i64))) : IsInts w v zs := by
  rcases h.2 with ⟨rfl, h0⟩ | ⟨g, cap, cur, rfl, _⟩
  · have : zs = [] := List.eq_nil_of_length_eq_zero h0
    subst this
    exact ⟨none, 0, rfl, by simp, by simp⟩
  · refine ⟨_, _, rfl, hwf, fun hp => ⟨g, 0, rfl, fun j hj => ?_⟩⟩
    rw [Nat.zero_add, h.cellAt j (by omega)]
    simp [List.getD, hj]

theorem own_new3 {W : World} {base g : Nat} {T : TypeId} {x y z : Int} (hb : base ≤ W.heap.size) (hs : W.heap.size = g) :
    (W.alloc (.cells #[.int .i64 x, .int .i64 y, .int .i64 z] T)).ownsRow base T 1 (.slice (some ⟨g, 0, none⟩) 3 3) 3 ([x, y, z].map (Value.int .i64)) := by
  subst hs
  exact World.ownsRow_lit W _ 3 hb (by unfold maxLen; omega) rfl

theorem wf_of_bd {z : Int} (h : -1000000000 ≤ z ∧ z ≤ 1000000000) : (Lit.int .i64 z).wf = true := WalkArith.wf_i64 (by omega)

theorem IsInts.wf {w : World} {v : Value} {zs : List Int} (h : IsInts w v zs) : ∀ z ∈ zs, (Lit.int .i64 z).wf = true := by
  obtain ⟨_, _, _, hwf, _⟩ := h
  exact hwf

theorem lt_own {w : World} {base T sz g n cap : Nat} {xs : List Value} (h : w.ownsRow base T sz (.slice (some ⟨g, 0, none⟩) n cap) n xs) : g < w.heap.size := (h.lt g rfl).2

theorem own_shape {w : World} {base T sz : Nat} {v : Value} {n : Nat} {xs : List Value} (h : w.ownsRow base T sz v n xs) : ∃ ao cap, v = .slice ao n cap := by
  rcases h.2 with ⟨rfl, h0⟩ | ⟨g, cap, cur, rfl, _⟩
  · exact ⟨none, 0, by rw [h0]⟩
  · exact ⟨_, _, rfl⟩

theorem own_below {w w' : World} {base T sz : Nat} {v : Value} {n : Nat} {xs : List Value} (h : w.ownsRow base T sz v n xs) (hb : Below w.heap.size w w') : w'.ownsRow base T sz v n xs := by
  refine ⟨h.1, ?_⟩
  rcases h.2 with h2 | ⟨g, cap, cur, hv, hg, hh, r⟩
  · exact Or.inl h2
  · exact Or.inr ⟨g, cap, cur, hv, hg, (hb.block g (lt_of_block hh)).trans hh, r⟩

theorem own_mono {w : World} {b b' T sz : Nat} {v : Value} {n : Nat} {xs : List Value} (hb : b' ≤ b) (h : w.ownsRow b T sz v n xs) : w.ownsRow b' T sz v n xs := by
  refine ⟨h.1, ?_⟩
  rcases h.2 with h2 | ⟨g, cap, cur, hv, hg, r⟩
  · exact Or.inl h2
  · exact Or.inr ⟨g, cap, cur, hv, by omega, r⟩

/-- What a row's reading tells of a slice of int64 that came in. -/
theorem isInts_of_row {w : World} {a : Option Addr} {len cap : Nat} {zs : List Int} (h : (a = none ∧ len = 0 ∧ cap = 0 ∧ zs = []) ∨
    ∃ x, a = some x ∧ len ≤ cap ∧ cap ≤ maxLen ∧ zs.length = cap ∧ (∀ i, i < zs.length → w.cell? (x.add i) = some (.int .i64 (zs.getD i 0))) ∧ ∀ n ∈ zs, (Lit.int .i64 n).wf = true) :
    IsInts w (.slice a len cap) (zs.take len) := by
  rcases h with ⟨rfl, rfl, rfl, rfl⟩ | ⟨x, rfl, hl, hm, hz, hcell, hwz⟩
  · exact ⟨none, 0, rfl, by simp, by simp⟩
  · have hlen : (zs.take len).length = len := by simp; omega
    refine ⟨some x, cap, by rw [hlen], fun z hz => hwz z (List.mem_of_mem_take hz), fun hp => ?_⟩
    rw [hlen] at hp ⊢
    obtain ⟨b, off, spot⟩ := x
    have hc := hcell 0 (by omega)
    have hspot : spot = none := by simpa [Addr.add] using World.cell?_spot hc
    subst hspot
    refine ⟨b, off, rfl, fun j hj => ?_⟩
    have h1 := hcell j (by omega)
    have e : (zs.take len).getD j 0 = zs.getD j 0 := by simp [List.getD, hj]
    rw [e]
    rwa [Addr.add_lit] at h1

theorem set_fill (zs : List Int) (k : Nat) (hk : k < zs.length) :
    ((zs.take k).map (Value.int .i64) ++ List.replicate (zs.length - k) (Value.int .i64 0)).set k (.int .i64 (zs.getD k 0)) = (zs.take (k + 1)).map (Value.int .i64) ++ List.replicate (zs.length - (k + 1)) (Value.int .i64 0) := by
  have hl : ((zs.take k).map (Value.int .i64)).length = k := by simp; omega
  rw [List.set_append_right _ _ (by omega), hl, Nat.sub_self]
  obtain ⟨m, hm⟩ : ∃ m, zs.length - k = m + 1 := ⟨zs.length - k - 1, by omega⟩
  rw [hm, show zs.length - (k + 1) = m by omega, List.replicate_succ, List.set_cons_zero, List.take_succ_eq_append_getElem hk, List.map_append, List.append_assoc]
  simp [List.getD, hk]

end Go.Proofs.YtceoaphcjnfphaaDoor

namespace Go.Proofs.YtceoaphcjnfphaaDoor
open Go.RowKit

/-- The block s, not below lo, holds the cells cs. -/
def Box (lo : Nat) (cs : Array Value) (T : TypeId) (W : World) (s : Nat) : Prop := lo ≤ s ∧ W.heap[s]? = some (.cells cs T (0, 0))
theorem Box.drew {lo : Nat} {cs : Array Value} {T : TypeId} {W : World} {s : Nat} (h : Box lo cs T W s) : Box lo cs T W.drew s := h
theorem Box.lt {lo : Nat} {cs : Array Value} {T : TypeId} {W : World} {s : Nat} (h : Box lo cs T W s) : s < W.heap.size := lt_of_block h.2
theorem newBox {lo : Nat} {cs : Array Value} {T : TypeId} {W : World} (h : lo ≤ W.heap.size) : Box lo cs T (W.alloc (.cells cs T)) W.heap.size := ⟨h, heap_alloc_new W _⟩
theorem Box.keep {lo : Nat} {cs : Array Value} {T : TypeId} {W w' : World} {s : Nat} (h : Box lo cs T W s) (hb : Below W.heap.size W w') : Box lo cs T w' s := ⟨h.1, (hb.block s h.lt).trans h.2⟩
theorem own_setC {w : World} {base e size : Nat} {v : Value} {n : Nat} {xs : List Value} {a : Addr} (h : w.ownsRow base e size v n xs) (ha : a.block < base) (u : Value) : (w.setCell a u).ownsRow base e size v n xs := by
  refine ⟨h.1, ?_⟩
  rcases h.2 with h2 | ⟨g, cap, cur, hv, hg, hh, r⟩
  · exact Or.inl h2
  · exact Or.inr ⟨g, cap, cur, hv, hg, (heap_setCell_other w a g u (by omega)).trans hh, r⟩
theorem Box.two {lo : Nat} {x y : Value} {T : TypeId} {W : World} {s : Nat} (h : Box lo #[x, y] T W s) : W.cell? ⟨s, 0, none⟩ = some x ∧ W.cell? ⟨s, 1, none⟩ = some y ∧ (∀ o, W.frozen? ⟨s, o, none⟩ = false) ∧ s < W.heap.size := by
  refine ⟨?_, ?_, fun o => ?_, h.lt⟩
  · simp [World.cell?, h.2]
  · simp [World.cell?, h.2]
  · simp [World.frozen?, h.2]

end Go.Proofs.YtceoaphcjnfphaaDoor

namespace Go.Proofs.YtceoaphcjnfphaaDoor
open Go.RowKit

/-- Blocks outside S are as they were. -/
structure Ext (S : Nat → Prop) (w w' : World) : Prop where
  os : w'.os = w.os
  tape : w'.tape = w.tape
  output : w'.output = w.output
  size : w.heap.size ≤ w'.heap.size
  block : ∀ k, k < w.heap.size → ¬ S k → w'.heap[k]? = w.heap[k]?

def nowhere : Nat → Prop := fun _ => False
def within (lo hi : Nat) : Nat → Prop := fun k => lo ≤ k ∧ k < hi

theorem Ext.refl (S : Nat → Prop) (w : World) : Ext S w w := ⟨rfl, rfl, rfl, Nat.le_refl _, fun _ _ _ => rfl⟩
theorem Ext.trans {S : Nat → Prop} {a b c : World} (h : Ext S a b) (k : Ext S b c) : Ext S a c :=
  ⟨k.os.trans h.os, k.tape.trans h.tape, k.output.trans h.output, Nat.le_trans h.size k.size, fun i hi hn => (k.block i (Nat.lt_of_lt_of_le hi h.size) hn).trans (h.block i hi hn)⟩
theorem Ext.mono {S S' : Nat → Prop} {a b : World} (h : Ext S a b) (hs : ∀ k, k < a.heap.size → S k → S' k) : Ext S' a b :=
  ⟨h.os, h.tape, h.output, h.size, fun i hi hn => h.block i hi fun hS => hn (hs i hi hS)⟩
theorem Ext.drew {S : Nat → Prop} {a b : World} (h : Ext S a b) (n : Nat) : Ext S a (b.drewN n) := ⟨h.os, h.tape, h.output, h.size, h.block⟩
theorem ext_of_below {w w' : World} (h : Below w.heap.size w w') (S : Nat → Prop) : Ext S w w' := ⟨h.os, h.tape, h.output, h.size, fun k hk _ => h.block k hk⟩
theorem extB_of_below {B : Nat} {w w' : World} (h : Below B w w') : Ext (fun k => B ≤ k) w w' := ⟨h.os, h.tape, h.output, h.size, fun k _ hn => h.block k (by omega)⟩
theorem Ext.below {S : Nat → Prop} {w w' : World} {B : Nat} (h : Ext S w w') (hB : B ≤ w.heap.size) (hs : ∀ k, k < B → ¬ S k) : Below B w w' :=
  ⟨h.os, h.tape, h.output, h.size, fun k hk => h.block k (by omega) (hs k hk)⟩
theorem Ext.setCell {S : Nat → Prop} {w w' : World} (h : Ext S w w') (a : Addr) (v : Value) (ha : S a.block) : Ext S w (w'.setCell a v) :=
  ⟨h.os, h.tape, h.output, by simpa using h.size, fun k hk hn => (heap_setCell_other w' a k v (fun e => hn (e ▸ ha))).trans (h.block k hk hn)⟩

theorem cell_of_heap {w w' : World} {b : Nat} (h : w'.heap[b]? = w.heap[b]?) (o : Nat) : w'.cell? ⟨b, o, none⟩ = w.cell? ⟨b, o, none⟩ := World.cell?_of_block (a := ⟨b, o, none⟩) h
theorem frozen_of_heap {w w' : World} {b : Nat} (h : w'.heap[b]? = w.heap[b]?) (o : Nat) : w'.frozen? ⟨b, o, none⟩ = w.frozen? ⟨b, o, none⟩ := World.frozen?_of_block (a := ⟨b, o, none⟩) h

/-- How a type's data lie: n cells; what they hold; the blocks behind them, in their order. -/
structure Lay (α : Type) where
  n : Nat
  lies : World → List Value → α → List Nat → Prop
  len : ∀ {w cs x bl}, lies w cs x bl → cs.length = n
  keep : ∀ {w w' cs x bl}, lies w cs x bl → (∀ b ∈ bl, w'.heap[b]? = w.heap[b]?) → lies w' cs x bl
  lt : ∀ {w cs x bl}, lies w cs x bl → ∀ b ∈ bl, b < w.heap.size
  /-- How long all its lists are together. -/
  sz : α → Nat
  /-- How many marks an element takes, and a value (whose own cells are copies). -/
  cnt : α → Nat
  vcnt : α → Nat
  /-- An element, a value, with the marks from k on. -/
  mkd : Int → α → α
  mkv : Int → α → α

/-- A list with marks from k on. -/
def mkAll {α : Type} (cnt : α → Nat) (mk : Int → α → α) : Int → List α → List α
  | _, [] => []
  | k, x :: xs => mk k x :: mkAll cnt mk (k + cnt x) xs
def cntAll {α : Type} (cnt : α → Nat) : List α → Nat
  | [] => 0
  | x :: xs => cnt x + cntAll cnt xs
/-- The text of a mark. -/
def digitsOf : Nat → Nat → List UInt8
  | 0, _ => []
  | f + 1, k => if k = 0 then [] else digitsOf f (k / 10) ++ [UInt8.ofNat (48 + k % 10)]
def markText (k : Int) : ByteArray := ⟨(109 :: (if k ≤ 0 then [48] else digitsOf 20 k.toNat)).toArray⟩

namespace Lay
variable {α β γ : Type}

def int : Lay Int where
  n := 1
  lies _ cs x bl := cs = [.int .i64 x] ∧ (Lit.int .i64 x).wf = true ∧ bl = []
  len := by rintro w cs x bl ⟨rfl, -, -⟩; rfl
  keep := fun h _ => h
  lt := by rintro w cs x bl ⟨-, -, rfl⟩ b hb; cases hb
  sz _ := 0
  cnt _ := 1
  vcnt _ := 0
  mkd k _ := k
  mkv _ x := x
def bool : Lay Bool where
  n := 1
  lies _ cs x bl := cs = [.bool x] ∧ bl = []
  len := by rintro w cs x bl ⟨rfl, -⟩; rfl
  keep := fun h _ => h
  lt := by rintro w cs x bl ⟨-, rfl⟩ b hb; cases hb
  sz _ := 0
  cnt _ := 1
  vcnt _ := 0
  mkd k _ := k.tmod 3 == 0
  mkv _ x := x
def str : Lay ByteArray where
  n := 1
  lies _ cs x bl := cs = [.string x] ∧ bl = []
  len := by rintro w cs x bl ⟨rfl, -⟩; rfl
  keep := fun h _ => h
  lt := by rintro w cs x bl ⟨-, rfl⟩ b hb; cases hb
  sz _ := 0
  cnt _ := 1
  vcnt _ := 0
  mkd k _ := markText k
  mkv _ x := x

def pair (A : Lay α) (B : Lay β) : Lay (α × β) where
  n := A.n + B.n
  lies w cs x bl := ∃ c1 c2 b1 b2, cs = c1 ++ c2 ∧ bl = b1 ++ b2 ∧ A.lies w c1 x.1 b1 ∧ B.lies w c2 x.2 b2
  len := by
    rintro w cs x bl ⟨c1, c2, b1, b2, rfl, rfl, h1, h2⟩
    rw [List.length_append, A.len h1, B.len h2]
  keep := by
    rintro w w' cs x bl ⟨c1, c2, b1, b2, rfl, rfl, h1, h2⟩ hk
    exact ⟨c1, c2, b1, b2, rfl, rfl, A.keep h1 fun b hb => hk b (List.mem_append_left _ hb), B.keep h2 fun b hb => hk b (List.mem_append_right _ hb)⟩
  lt := by
    rintro w cs x bl ⟨c1, c2, b1, b2, rfl, rfl, h1, h2⟩ b hb
    rcases List.mem_append.1 hb with h | h
    · exact A.lt h1 b h
    · exact B.lt h2 b h
  sz x := A.sz x.1 + B.sz x.2
  cnt x := A.cnt x.1 + B.cnt x.2
  vcnt x := A.vcnt x.1 + B.vcnt x.2
  mkd k x := (A.mkd k x.1, B.mkd (k + A.cnt x.1) x.2)
  mkv k x := (A.mkv k x.1, B.mkv (k + A.vcnt x.1) x.2)

/-- The rows of a slice: element j lies at off + j * n, its own blocks are bls' j-th. -/
def Rows (A : Lay α) (w : World) (b off : Nat) (xs : List α) (rows : List (List Value)) (bls : List (List Nat)) : Prop :=
  rows.length = xs.length ∧ bls.length = xs.length ∧ ∀ j (h1 : j < xs.length) (h2 : j < rows.length) (h3 : j < bls.length),
    (∀ m, m < A.n → w.cell? ⟨b, off + j * A.n + m, none⟩ = rows[j][m]?) ∧ A.lies w rows[j] xs[j] bls[j]

/-- A slice of data. -/
def sl (A : Lay α) : Lay (List α) where
  n := 1
  lies w cs xs bl := ∃ ao cap, cs = [.slice ao xs.length cap] ∧ (xs.length ≤ cap ∧ xs.length ≤ 9223372036854775807) ∧ ((xs = [] ∧ bl = []) ∨
    ∃ b off rows bls, ao = some ⟨b, off, none⟩ ∧ b < w.heap.size ∧ bl = b :: bls.flatten ∧ A.Rows w b off xs rows bls)
  len := by rintro w cs x bl ⟨ao, cap, rfl, -⟩; rfl
  keep := by
    rintro w w' cs xs bl ⟨ao, cap, rfl, hbig, h⟩ hk
    refine ⟨ao, cap, rfl, hbig, ?_⟩
    rcases h with h | ⟨b, off, rows, bls, rfl, hb, rfl, hr, hl, hj⟩
    · exact Or.inl h
    · have hbb := hk b (by simp)
      refine Or.inr ⟨b, off, rows, bls, rfl, ?_, rfl, hr, hl, fun j h1 h2 h3 => ⟨fun m hm => ?_, ?_⟩⟩
      · have : w.heap[b]? ≠ none := by simp; exact hb
        rw [← hbb] at this
        simpa using this
      · rw [cell_of_heap hbb]
        exact (hj j h1 h2 h3).1 m hm
      · refine A.keep (hj j h1 h2 h3).2 fun b' hb' => hk b' (List.mem_cons_of_mem _ (List.mem_flatten.2 ⟨bls[j], List.getElem_mem _, hb'⟩))
  lt := by
    rintro w cs xs bl ⟨ao, cap, rfl, -, h⟩ b hb
    rcases h with ⟨-, rfl⟩ | ⟨b0, off, rows, bls, rfl, hb0, rfl, hr, hl, hj⟩
    · cases hb
    · rcases List.mem_cons.1 hb with rfl | hb
      · exact hb0
      · obtain ⟨l, hl1, hl2⟩ := List.mem_flatten.1 hb
        obtain ⟨j, hjl, rfl⟩ := List.getElem_of_mem hl1
        exact A.lt (hj j (by omega) (by omega) hjl).2 b hl2
  sz xs := xs.length + cntAll A.sz xs
  cnt xs := cntAll A.cnt xs
  vcnt xs := cntAll A.cnt xs
  mkd k xs := mkAll A.cnt A.mkd k xs
  mkv k xs := mkAll A.cnt A.mkd k xs

/-- The same data under other names. -/
def via (A : Lay α) (f : β → α) (g : α → β) : Lay β where
  n := A.n
  lies w cs x bl := A.lies w cs (f x) bl
  len := A.len
  keep := A.keep
  lt := A.lt
  sz x := A.sz (f x)
  cnt x := A.cnt (f x)
  vcnt x := A.vcnt (f x)
  mkd k x := g (A.mkd k (f x))
  mkv k x := g (A.mkv k (f x))

/-- The data can be read. -/
def Reads (A : Lay α) (w : World) (cs : List Value) (x : α) : Prop := ∃ bl, A.lies w cs x bl
/-- .. and lie in the blocks from lo on, below hi. -/
def LiesIn (A : Lay α) (w : World) (cs : List Value) (x : α) (lo hi : Nat) : Prop := ∃ bl, A.lies w cs x bl ∧ ∀ b ∈ bl, lo ≤ b ∧ b < hi
/-- .. each list in a block of its own, which may be written. -/
def Own (A : Lay α) (w : World) (cs : List Value) (x : α) (bl : List Nat) : Prop :=
  A.lies w cs x bl ∧ bl.Nodup ∧ ∀ b ∈ bl, ∀ o, w.frozen? ⟨b, o, none⟩ = false
def OwnIn (A : Lay α) (w : World) (cs : List Value) (x : α) (lo hi : Nat) : Prop := ∃ bl, A.Own w cs x bl ∧ ∀ b ∈ bl, lo ≤ b ∧ b < hi

variable {A : Lay α} {B : Lay β} {w w' : World} {cs : List Value} {x : α} {lo hi : Nat}

theorem Reads.later (h : A.Reads w cs x) (hb : Below w.heap.size w w') : A.Reads w' cs x := by
  obtain ⟨bl, h⟩ := h
  exact ⟨bl, A.keep h fun b hbl => hb.block b (A.lt h b hbl)⟩
theorem LiesIn.reads (h : A.LiesIn w cs x lo hi) : A.Reads w cs x := by obtain ⟨bl, h, -⟩ := h; exact ⟨bl, h⟩
theorem OwnIn.lies (h : A.OwnIn w cs x lo hi) : A.LiesIn w cs x lo hi := by obtain ⟨bl, ⟨h, -, -⟩, hl⟩ := h; exact ⟨bl, h, hl⟩
theorem OwnIn.reads (h : A.OwnIn w cs x lo hi) : A.Reads w cs x := h.lies.reads
theorem Reads.liesIn (h : A.Reads w cs x) : A.LiesIn w cs x 0 w.heap.size := by
  obtain ⟨bl, h⟩ := h
  exact ⟨bl, h, fun b hb => ⟨Nat.zero_le _, A.lt h b hb⟩⟩
theorem LiesIn.mono {lo' hi' : Nat} (h : A.LiesIn w cs x lo hi) (h1 : lo' ≤ lo) (h2 : hi ≤ hi') : A.LiesIn w cs x lo' hi' := by
  obtain ⟨bl, h, hl⟩ := h
  exact ⟨bl, h, fun b hb => ⟨by have := hl b hb; omega, by have := hl b hb; omega⟩⟩
theorem OwnIn.mono {lo' hi' : Nat} (h : A.OwnIn w cs x lo hi) (h1 : lo' ≤ lo) (h2 : hi ≤ hi') : A.OwnIn w cs x lo' hi' := by
  obtain ⟨bl, h, hl⟩ := h
  exact ⟨bl, h, fun b hb => ⟨by have := hl b hb; omega, by have := hl b hb; omega⟩⟩
theorem LiesIn.ext {S : Nat → Prop} (h : A.LiesIn w cs x lo hi) (e : Ext S w w') (hs : ∀ k, lo ≤ k → k < hi → ¬ S k) : A.LiesIn w' cs x lo hi := by
  obtain ⟨bl, h, hl⟩ := h
  exact ⟨bl, A.keep h fun b hb => e.block b (A.lt h b hb) (hs b (hl b hb).1 (hl b hb).2), hl⟩
theorem OwnIn.ext {S : Nat → Prop} (h : A.OwnIn w cs x lo hi) (e : Ext S w w') (hs : ∀ k, lo ≤ k → k < hi → ¬ S k) : A.OwnIn w' cs x lo hi := by
  obtain ⟨bl, ⟨h, hn, hf⟩, hl⟩ := h
  have hk : ∀ b ∈ bl, w'.heap[b]? = w.heap[b]? := fun b hb => e.block b (A.lt h b hb) (hs b (hl b hb).1 (hl b hb).2)
  exact ⟨bl, ⟨A.keep h hk, hn, fun b hb o => (frozen_of_heap (hk b hb) o).trans (hf b hb o)⟩, hl⟩
theorem LiesIn.later (h : A.LiesIn w cs x lo hi) (hb : Below w.heap.size w w') : A.LiesIn w' cs x lo hi := h.ext (ext_of_below hb nowhere) fun _ _ _ h => h
theorem OwnIn.later (h : A.OwnIn w cs x lo hi) (hb : Below w.heap.size w w') : A.OwnIn w' cs x lo hi := h.ext (ext_of_below hb nowhere) fun _ _ _ h => h
theorem Reads.drew (h : A.Reads w cs x) (n : Nat) : A.Reads (w.drewN n) cs x := h.later (below_drawn (Below.refl _ _) n)
theorem Reads.len (h : A.Reads w cs x) : cs.length = A.n := by obtain ⟨bl, h⟩ := h; exact A.len h

/-! ### Numbers -/
theorem lies_int {z : Int} {bl : List Nat} : (Lay.int).lies w cs z bl ↔ cs = [.int .i64 z] ∧ (Lit.int .i64 z).wf = true ∧ bl = [] := Iff.rfl

theorem ints_reads {v : Value} {zs : List Int} (h : (sl int).Reads w [v] zs) : IsInts w v zs := by
  obtain ⟨bl, ao, cap, hv, -, h⟩ := h
  obtain rfl : v = .slice ao zs.length cap := by simpa using hv
  rcases h with ⟨rfl, rfl⟩ | ⟨b, off, rows, bls, rfl, hb, rfl, hr, hl, hj⟩
  · exact ⟨ao, cap, rfl, by simp, by simp⟩
  · refine ⟨_, cap, rfl, fun z hz => ?_, fun _ => ⟨b, off, rfl, fun j hj1 => ?_⟩⟩
    · obtain ⟨j, hjl, rfl⟩ := List.getElem_of_mem hz
      exact (hj j hjl (by omega) (by omega)).2.2.1
    · obtain ⟨h1, h2, -, -⟩ := hj j hj1 (by omega) (by omega)
      have := h1 0 (by decide)
      rw [h2] at this
      simpa [List.getD, hj1, Lay.int] using this
/-- Numbers in plain words: the block, and each cell. -/
theorem lies_ints {v : Value} {zs : List Int} {bl : List Nat} : (sl int).lies w [v] zs bl ↔ ∃ ao cap, v = .slice ao zs.length cap ∧ (zs.length ≤ cap ∧ zs.length ≤ 9223372036854775807) ∧ (∀ z ∈ zs, (Lit.int .i64 z).wf = true) ∧
    ((zs = [] ∧ bl = []) ∨ ∃ b off, ao = some ⟨b, off, none⟩ ∧ b < w.heap.size ∧ bl = [b] ∧ ∀ j, j < zs.length → w.cell? ⟨b, off + j, none⟩ = some (.int .i64 (zs.getD j 0))) := by
  constructor
  · rintro ⟨ao, cap, hv, hbig, h⟩
    obtain rfl : v = .slice ao zs.length cap := by simpa using hv
    rcases h with ⟨rfl, rfl⟩ | ⟨b, off, rows, bls, rfl, hb, rfl, hr, hl, hj⟩
    · exact ⟨ao, cap, rfl, hbig, by simp, Or.inl ⟨rfl, rfl⟩⟩
    · refine ⟨_, cap, rfl, hbig, fun z hz => ?_, Or.inr ⟨b, off, rfl, hb, ?_, fun j hj1 => ?_⟩⟩
      · obtain ⟨j, hjl, rfl⟩ := List.getElem_of_mem hz
        exact (hj j hjl (by omega) (by omega)).2.2.1
      · have e2 : bls.flatten = [] := by
          rw [List.flatten_eq_nil_iff]
          intro l hl
          obtain ⟨j, hjl, rfl⟩ := List.getElem_of_mem hl
          exact (hj j (by omega) (by omega) hjl).2.2.2
        rw [e2]
      · obtain ⟨h1, h2, -, -⟩ := hj j hj1 (by omega) (by omega)
        have := h1 0 (by decide)
        rw [h2] at this
        simpa [List.getD, hj1, Lay.int] using this
  · rintro ⟨ao, cap, rfl, hbig, hwf, h⟩
    refine ⟨ao, cap, rfl, hbig, ?_⟩
    rcases h with ⟨rfl, rfl⟩ | ⟨b, off, rfl, hb, rfl, hc⟩
    · exact Or.inl ⟨rfl, rfl⟩
    · refine Or.inr ⟨b, off, zs.map (fun z => [.int .i64 z]), List.replicate zs.length [], rfl, hb, by simp, by simp, by simp, fun j h1 h2 h3 => ⟨fun m hm => ?_, ?_⟩⟩
      · obtain rfl : m = 0 := by simp only [Lay.int] at hm; omega
        have := hc j h1
        simpa [List.getD, h1, Lay.int] using this
      · exact ⟨by simp, hwf _ (List.getElem_mem _), by simp⟩
theorem reads_ints {v : Value} {zs : List Int} (h : IsInts w v zs) (hcap : ∀ ao cap, v = .slice ao zs.length cap → zs.length ≤ cap) (hbig : zs.length ≤ 9223372036854775807) : (sl int).Reads w [v] zs := by
  obtain ⟨ao, cap, rfl, hwf, hc⟩ := h
  have hcp := hcap _ _ rfl
  by_cases hp : 0 < zs.length
  · obtain ⟨b, off, rfl, hc1⟩ := hc hp
    exact ⟨[b], lies_ints.2 ⟨_, cap, rfl, ⟨hcp, hbig⟩, hwf, Or.inr ⟨b, off, rfl, World.block_lt_of_cell? _ _ (hc1 0 hp), rfl, hc1⟩⟩⟩
  · obtain rfl : zs = [] := List.eq_nil_of_length_eq_zero (by omega)
    exact ⟨[], lies_ints.2 ⟨ao, cap, rfl, ⟨hcp, hbig⟩, by simp, Or.inl ⟨rfl, rfl⟩⟩⟩
theorem Reads.cap {A : Lay α} {ao : Option Addr} {n cap : Nat} {xs : List α} (h : (sl A).Reads w [.slice ao n cap] xs) : n = xs.length ∧ n ≤ cap := by
  obtain ⟨bl, ao', cap', e, hb, -⟩ := h
  simp only [List.cons.injEq, Value.slice.injEq, and_true] at e
  obtain ⟨-, rfl, rfl⟩ := e
  exact ⟨rfl, hb.1⟩
theorem Reads.big {A : Lay α} {v : Value} {xs : List α} (h : (sl A).Reads w [v] xs) : xs.length ≤ 9223372036854775807 := by
  obtain ⟨bl, ao, cap, -, hb, -⟩ := h
  exact hb.2

/-- A row of numbers of the call's own, as data. -/
theorem ownInts {v : Value} {zs : List Int} {base T : Nat} (hwf : ∀ z ∈ zs, (Lit.int .i64 z).wf = true) (hbig : zs.length ≤ 9223372036854775807) (h : w.ownsRow base T 1 v zs.length (zs.map (Value.int .i64))) : (sl int).OwnIn w [v] zs base w.heap.size := by
  have hi := isInts_row hwf h
  rcases h.2 with ⟨rfl, h0⟩ | ⟨g, cap, cur, rfl, hg, hh, hcap, _⟩
  · obtain rfl : zs = [] := List.eq_nil_of_length_eq_zero h0
    exact ⟨[], ⟨lies_ints.2 ⟨none, 0, rfl, ⟨by simp, hbig⟩, by simp, Or.inl ⟨rfl, rfl⟩⟩, by simp, by simp⟩, by simp⟩
  · by_cases hp : 0 < zs.length
    · obtain ⟨ao, cp, hv, hwf, hc⟩ := hi
      obtain ⟨b, off, rfl, hc1⟩ := hc hp
      simp only [Value.slice.injEq, Option.some.injEq, Addr.mk.injEq, and_true, true_and] at hv
      obtain ⟨⟨rfl, rfl⟩, rfl⟩ := hv
      refine ⟨[g], ⟨lies_ints.2 ⟨_, cap, rfl, ⟨hcap, hbig⟩, hwf, Or.inr ⟨g, 0, rfl, lt_of_block hh, rfl, hc1⟩⟩, by simp, ?_⟩, ?_⟩
      · intro b hb o
        obtain rfl : b = g := by simpa using hb
        simp [World.frozen?, hh]
      · intro b hb
        obtain rfl : b = g := by simpa using hb
        exact ⟨hg, lt_of_block hh⟩
    · obtain rfl : zs = [] := List.eq_nil_of_length_eq_zero (by omega)
      exact ⟨[], ⟨lies_ints.2 ⟨_, _, rfl, ⟨hcap, hbig⟩, by simp, Or.inl ⟨rfl, rfl⟩⟩, by simp, by simp⟩, by simp⟩

/-! ### Blocks of the call's own, and data in others -/
theorem Own.ext {S : Nat → Prop} {bl : List Nat} (h : A.Own w cs x bl) (e : Ext S w w') (hs : ∀ b ∈ bl, ¬ S b) : A.Own w' cs x bl := by
  obtain ⟨h, hn, hf⟩ := h
  have hk : ∀ b ∈ bl, w'.heap[b]? = w.heap[b]? := fun b hb => e.block b (A.lt h b hb) (hs b hb)
  exact ⟨A.keep h hk, hn, fun b hb o => (frozen_of_heap (hk b hb) o).trans (hf b hb o)⟩
theorem Own.later {bl : List Nat} (h : A.Own w cs x bl) (hb : Below w.heap.size w w') : A.Own w' cs x bl := h.ext (ext_of_below hb nowhere) fun _ _ h => h
theorem Own.reads {bl : List Nat} (h : A.Own w cs x bl) : A.Reads w cs x := ⟨bl, h.1⟩
theorem Own.lt {bl : List Nat} (h : A.Own w cs x bl) : ∀ b ∈ bl, b < w.heap.size := A.lt h.1
theorem LiesIn.below {B : Nat} (h : A.LiesIn w cs x lo hi) (hb : Below B w w') (hh : hi ≤ B) : A.LiesIn w' cs x lo hi := h.ext (extB_of_below hb) fun k _ h2 h3 => by omega
theorem OwnIn.below {B : Nat} (h : A.OwnIn w cs x lo hi) (hb : Below B w w') (hh : hi ≤ B) : A.OwnIn w' cs x lo hi := h.ext (extB_of_below hb) fun k _ h2 h3 => by omega

end Lay

theorem Box.at {lo : Nat} {cs : Array Value} {T : TypeId} {W : World} {s : Nat} (h : Box lo cs T W s) (i : Nat) (v : Value) (hi : cs[i]? = some v) : W.cell? ⟨s, i, none⟩ = some v := by
  simp [World.cell?, h.2, hi]
theorem Box.soft {lo : Nat} {cs : Array Value} {T : TypeId} {W : World} {s : Nat} (h : Box lo cs T W s) : ∀ o, W.frozen? ⟨s, o, none⟩ = false := fun o => by simp [World.frozen?, h.2]
theorem Box.ext {S : Nat → Prop} {lo : Nat} {cs : Array Value} {T : TypeId} {W w' : World} {s : Nat} (h : Box lo cs T W s) (e : Ext S W w') (hs : ¬ S s) : Box lo cs T w' s := ⟨h.1, (e.block s h.lt hs).trans h.2⟩
theorem Box.grow {lo : Nat} {cs : Array Value} {T : TypeId} {W : World} {s : Nat} (h : Box lo cs T W s) (o : Obj) : Box lo cs T (W.alloc o) s := h.keep ((Below.refl _ _).alloc (Nat.le_refl _) o)
theorem newBoxAt {lo s : Nat} {cs : Array Value} {T : TypeId} {W : World} (h : lo ≤ s) (hs : W.heap.size = s) : Box lo cs T (W.alloc (.cells cs T)) s := by subst hs; exact newBox h
theorem Box.set {lo : Nat} {cs : Array Value} {T : TypeId} {W : World} {s : Nat} (h : Box lo cs T W s) (i : Nat) (v : Value) : Box lo (cs.setIfInBounds i v) T (W.setCell ⟨s, i, none⟩ v) s := by
  refine ⟨h.1, ?_⟩
  simp [World.setCell, Array.getElem?_modify, h.2]
theorem Box.other {lo : Nat} {cs : Array Value} {T : TypeId} {W : World} {s : Nat} (h : Box lo cs T W s) (a : Addr) (v : Value) (ha : s ≠ a.block) : Box lo cs T (W.setCell a v) s := ⟨h.1, (heap_setCell_other W a s v ha).trans h.2⟩
/-- A struct's cells, stored one behind the other. -/
def setAll (W : World) (s : Nat) : Nat → List Value → World
  | _, [] => W
  | i, v :: vs => setAll (W.setCell ⟨s, i, none⟩ v) s (i + 1) vs
theorem ext_setAll (S : Nat → Prop) {a W : World} (h : Ext S a W) (s i : Nat) (vs : List Value) (hs : S s) : Ext S a (setAll W s i vs) := by
  induction vs generalizing W i with
  | nil => exact h
  | cons v vs ih => exact ih (h.setCell ⟨s, i, none⟩ v hs) (i + 1)
theorem below_setAll {B : Nat} {a W : World} (h : Below B a W) (s i : Nat) (vs : List Value) (hs : B ≤ s) : Below B a (setAll W s i vs) := by
  induction vs generalizing W i with
  | nil => exact h
  | cons v vs ih => exact ih (h.setCell (by simpa using hs) v) (i + 1)
theorem size_setAll (W : World) (s i : Nat) (vs : List Value) : (setAll W s i vs).heap.size = W.heap.size := by
  induction vs generalizing W i with
  | nil => rfl
  | cons v vs ih => rw [setAll, ih]; simp
/-- Some cells of a block, stored one behind the other. -/
def setL (W : World) (s : Nat) : List (Nat × Value) → World
  | [] => W
  | p :: ps => setL (W.setCell ⟨s, p.1, none⟩ p.2) s ps
theorem ext_setL {S : Nat → Prop} {a W : World} (h : Ext S a W) (s : Nat) (ps : List (Nat × Value)) (hs : S s) : Ext S a (setL W s ps) := by
  induction ps generalizing W with
  | nil => exact h
  | cons p ps ih => exact ih (h.setCell ⟨s, p.1, none⟩ p.2 hs)
end Go.Proofs.YtceoaphcjnfphaaDoor

namespace Go.Proofs.YtceoaphcjnfphaaDoor
open Go.RowKit

theorem open_sl {α : Type} {A : Lay α} {w : World} {v : Value} {xs : List α} (h : (Lay.sl A).Reads w [v] xs) : ∃ ao cap, v = .slice ao xs.length cap := by
  obtain ⟨bl, ao, cap, e, -⟩ := h
  exact ⟨ao, cap, by simpa using e⟩

/-- An element takes at most K marks, and K more for each that its lists hold. -/
def Few {α : Type} (A : Lay α) (K : Nat) : Prop := ∀ x, A.cnt x ≤ K * (1 + A.sz x) ∧ A.vcnt x ≤ K * (1 + A.sz x)
theorem few_int : Few Lay.int 1 := fun _ => by simp [Lay.int]
theorem few_bool : Few Lay.bool 1 := fun _ => by simp [Lay.bool]
theorem few_str : Few Lay.str 1 := fun _ => by simp [Lay.str]
theorem few_pair {α β : Type} {A : Lay α} {B : Lay β} {K L : Nat} (h : Few A K) (k : Few B L) : Few (Lay.pair A B) (K + L) := by
  intro x
  have h1 := h x.1
  have h2 := k x.2
  have e1 : K * (1 + A.sz x.1) ≤ K * (1 + (A.sz x.1 + B.sz x.2)) := Nat.mul_le_mul_left _ (by omega)
  have e2 : L * (1 + B.sz x.2) ≤ L * (1 + (A.sz x.1 + B.sz x.2)) := Nat.mul_le_mul_left _ (by omega)
  constructor
  · show A.cnt x.1 + B.cnt x.2 ≤ (K + L) * (1 + (A.sz x.1 + B.sz x.2))
    rw [Nat.add_mul]
    omega
  · show A.vcnt x.1 + B.vcnt x.2 ≤ (K + L) * (1 + (A.sz x.1 + B.sz x.2))
    rw [Nat.add_mul]
    omega
theorem few_sl {α : Type} {A : Lay α} {K : Nat} (h : Few A K) : Few (Lay.sl A) K := by
  intro xs
  have e : cntAll A.cnt xs ≤ K * (xs.length + cntAll A.sz xs) := by
    induction xs with
    | nil => simp [cntAll]
    | cons x xs ih =>
      have hx := (h x).1
      simp only [cntAll, List.length_cons]
      have : K * (xs.length + 1 + (A.sz x + cntAll A.sz xs)) = K * (1 + A.sz x) + K * (xs.length + cntAll A.sz xs) := by rw [← Nat.mul_add]; congr 1; omega
      omega
  have e2 : K * (xs.length + cntAll A.sz xs) ≤ K * (1 + (xs.length + cntAll A.sz xs)) := Nat.mul_le_mul_left _ (by omega)
  exact ⟨Nat.le_trans e e2, Nat.le_trans e e2⟩
theorem few_via {α β : Type} {A : Lay α} {f : β → α} {g : α → β} {K : Nat} (h : Few A K) : Few (Lay.via A f g) K := fun x => h (f x)
theorem few_bound {α : Type} {A : Lay α} {K : Nat} (h : Few A K) {x : α} (hs : A.sz x ≤ 1048576) (hK : K ≤ 60) : A.vcnt x ≤ 100000000 := by
  have := (h x).2
  have : K * (1 + A.sz x) ≤ 60 * (1 + A.sz x) := Nat.mul_le_mul_right _ hK
  omega

theorem bool_ne (b : Bool) : (b != b) = false := by cases b <;> rfl
theorem within_out {lo hi lo' hi' : Nat} (h : hi ≤ lo' ∨ hi' ≤ lo) : ∀ k, lo ≤ k → k < hi → ¬ within lo' hi' k := fun k h1 h2 h3 => by simp only [within] at h3; omega
end Go.Proofs.YtceoaphcjnfphaaDoor

namespace Go.Proofs.YtceoaphcjnfphaaDoor
open Go.RowKit

/-- What szT tells: what is left, or -1. -/
def szR (l n : Nat) : Int := if n ≤ l then ((l - n : Nat) : Int) else -1
theorem szR_ok {l n : Nat} (h : n ≤ l) : szR l n = ((l - n : Nat) : Int) := if_pos h
theorem szR_many {l n : Nat} (h : l < n) : szR l n = -1 := if_neg (by omega)

/-! ### The parts of a struct, each in blocks of its own -/
namespace Lay
variable {α β : Type} {A : Lay α} {B : Lay β} {w w' : World}
theorem ownIn_int {z : Int} {lo hi : Nat} (h : (Lit.int .i64 z).wf = true) : Lay.int.OwnIn w [.int .i64 z] z lo hi := ⟨[], ⟨⟨rfl, h, rfl⟩, by simp, by simp⟩, by simp⟩
theorem ownIn_bool {b : Bool} {lo hi : Nat} : Lay.bool.OwnIn w [.bool b] b lo hi := ⟨[], ⟨⟨rfl, rfl⟩, by simp, by simp⟩, by simp⟩
theorem ownIn_str {s : ByteArray} {lo hi : Nat} : Lay.str.OwnIn w [.string s] s lo hi := ⟨[], ⟨⟨rfl, rfl⟩, by simp, by simp⟩, by simp⟩
theorem ownIn_pair {c1 c2 : List Value} {x : α} {y : β} {lo m m' hi : Nat} (h : A.OwnIn w c1 x lo m) (k : B.OwnIn w c2 y m' hi) (hm : m ≤ m') (hlo : lo ≤ m') (hhi : m ≤ hi) : (Lay.pair A B).OwnIn w (c1 ++ c2) (x, y) lo hi := by
  obtain ⟨b1, ⟨l1, n1, f1⟩, i1⟩ := h
  obtain ⟨b2, ⟨l2, n2, f2⟩, i2⟩ := k
  refine ⟨b1 ++ b2, ⟨⟨c1, c2, b1, b2, rfl, rfl, l1, l2⟩, ?_, ?_⟩, ?_⟩
  · rw [List.nodup_append]
    exact ⟨n1, n2, fun a ha b hb e => by have := i1 a ha; have := i2 b hb; omega⟩
  · intro b hb
    rcases List.mem_append.1 hb with h | h
    · exact f1 b h
    · exact f2 b h
  · intro b hb
    rcases List.mem_append.1 hb with h | h
    · have := i1 b h; omega
    · have := i2 b h; omega
theorem ownIn_via {f : β → α} {g : α → β} {cs : List Value} {x : β} {lo hi : Nat} (h : A.OwnIn w cs (f x) lo hi) : (Lay.via A f g).OwnIn w cs x lo hi := h

/-- An answer of one's own. -/
theorem toldOwn {w : World} {cs : List Value} {x : α} {lo hi : Nat} (own : A.OwnIn w' cs x lo hi) (hlo : w.heap.size ≤ lo) (hhi : hi ≤ w'.heap.size) (hb : Below w.heap.size w w') :
    ∃ cs', Ending.returned (.agg cs.toArray) = .returned (.agg cs'.toArray) ∧ A.OwnIn w' cs' x w.heap.size w'.heap.size ∧ Below w.heap.size w w' := ⟨cs, rfl, own.mono hlo hhi, hb⟩

/-- The rows' own data. -/
def Subs (A : Lay α) (w : World) (rows : List (List Value)) (xs : List α) (lo hi : Nat) : Prop :=
  ∃ bls : List (List Nat), rows.length = xs.length ∧ bls.length = xs.length ∧ (∀ j (h1 : j < xs.length) (h2 : j < rows.length) (h3 : j < bls.length), A.lies w rows[j] xs[j] bls[j]) ∧
    bls.flatten.Nodup ∧ (∀ b ∈ bls.flatten, lo ≤ b ∧ b < hi) ∧ ∀ b ∈ bls.flatten, ∀ o, w.frozen? ⟨b, o, none⟩ = false
theorem subs_nil {lo hi : Nat} : Subs A w [] [] lo hi := ⟨[], rfl, rfl, fun j h => by simp at h, by simp, by simp, by simp⟩
theorem subs_snoc {rows : List (List Value)} {xs : List α} {row : List Value} {x : α} {lo hi lo' hi' : Nat} (h : Subs A w rows xs lo hi) (k : A.OwnIn w row x lo' hi') (h1 : hi ≤ lo') (h2 : lo ≤ lo') (h3 : hi ≤ hi') : Subs A w (rows ++ [row]) (xs ++ [x]) lo hi' := by
  obtain ⟨bls, hr, hb, hl, hn, hi, hf⟩ := h
  obtain ⟨bl, ⟨l, n, f⟩, i⟩ := k
  refine ⟨bls ++ [bl], by simp [hr], by simp [hb], fun j j1 j2 j3 => ?_, ?_, ?_, ?_⟩
  · by_cases hj : j < xs.length
    · have e := hl j hj (by omega) (by omega)
      rw [List.getElem_append_left (by omega), List.getElem_append_left hj, List.getElem_append_left (by omega)]
      exact e
    · obtain rfl : j = xs.length := by simp at j1; omega
      rw [List.getElem_append_right (by omega), List.getElem_append_right (by omega), List.getElem_append_right (by omega)]
      simpa using l
  · rw [List.flatten_append, List.nodup_append]
    refine ⟨hn, by simpa using n, fun a ha b hb e => ?_⟩
    have := hi a ha
    have := i b (by simpa using hb)
    omega
  · intro b hb
    rw [List.flatten_append] at hb
    rcases List.mem_append.1 hb with h | h
    · have := hi b h; omega
    · have := i b (by simpa using h); omega
  · intro b hb
    rw [List.flatten_append] at hb
    rcases List.mem_append.1 hb with h | h
    · exact hf b h
    · exact f b (by simpa using h)
theorem subs_ext {rows : List (List Value)} {xs : List α} {lo hi : Nat} {S : Nat → Prop} (h : Subs A w rows xs lo hi) (e : Ext S w w') (hs : ∀ k, lo ≤ k → k < hi → ¬ S k) : Subs A w' rows xs lo hi := by
  obtain ⟨bls, hr, hb, hl, hn, hi, hf⟩ := h
  have hlt : ∀ b ∈ bls.flatten, b < w.heap.size := by
    intro b hm
    obtain ⟨l, h1, h2⟩ := List.mem_flatten.1 hm
    obtain ⟨j, hj, rfl⟩ := List.getElem_of_mem h1
    exact A.lt (hl j (by omega) (by omega) hj) b h2
  have hk : ∀ b ∈ bls.flatten, w'.heap[b]? = w.heap[b]? := fun b hm => e.block b (hlt b hm) (hs b (hi b hm).1 (hi b hm).2)
  exact ⟨bls, hr, hb, fun j h1 h2 h3 => A.keep (hl j h1 h2 h3) fun b hm => hk b (List.mem_flatten.2 ⟨_, List.getElem_mem _, hm⟩), hn, hi, fun b hm o => (frozen_of_heap (hk b hm) o).trans (hf b hm o)⟩
theorem subs_len {rows : List (List Value)} {xs : List α} {lo hi : Nat} (h : Subs A w rows xs lo hi) : rows.flatten.length = xs.length * A.n ∧ rows.length = xs.length := by
  obtain ⟨bls, hr, hb, hl, -⟩ := h
  refine ⟨?_, hr⟩
  rw [← hr]
  have : ∀ r ∈ rows, r.length = A.n := by
    intro r hm
    obtain ⟨j, hj, rfl⟩ := List.getElem_of_mem hm
    exact A.len (hl j (by omega) hj (by omega))
  clear hr hb hl
  induction rows with
  | nil => simp
  | cons r rows ih =>
    rw [List.flatten_cons, List.length_append, this r (by simp), ih fun q hq => this q (List.mem_cons_of_mem _ hq), List.length_cons, Nat.add_mul]
    omega

theorem flat_at {rows : List (List Value)} {n : Nat} (h : ∀ r ∈ rows, r.length = n) (j m : Nat) (hj : j < rows.length) (hm : m < n) : rows.flatten[j * n + m]? = rows[j][m]? := by
  induction rows generalizing j with
  | nil => simp at hj
  | cons r rows ih =>
    have hr := h r (by simp)
    rw [List.flatten_cons]
    match j with
    | 0 =>
      rw [List.getElem?_append_left (by omega)]
      simp
    | j + 1 =>
      rw [List.getElem?_append_right (by rw [hr, Nat.add_mul]; omega), hr, show (j + 1) * n + m - n = j * n + m by rw [Nat.add_mul]; omega]
      rw [ih (fun q hq => h q (List.mem_cons_of_mem _ hq)) j (by simpa using hj)]
      simp

/-- The row is full: it is data of the call's own. -/
theorem subs_done {rows : List (List Value)} {xs : List α} {base T g cap lo hi : Nat} (hown : w.ownsRow base T A.n (.slice (some ⟨g, 0, none⟩) xs.length cap) xs.length rows.flatten) (h : Subs A w rows xs lo hi) (hg : g < lo) (hhi : hi ≤ w.heap.size) (hn : xs.length ≤ 9223372036854775807) :
    (sl A).OwnIn w [.slice (some ⟨g, 0, none⟩) xs.length cap] xs base w.heap.size := by
  obtain ⟨bls, hr, hb, hl, hnd, hi', hf⟩ := h
  have hlg := hown.lt g rfl
  have hle : ∀ r ∈ rows, r.length = A.n := by
    intro r hm
    obtain ⟨j, hj, rfl⟩ := List.getElem_of_mem hm
    exact A.len (hl j (by omega) hj (by omega))
  have hcap : xs.length ≤ cap := by
    rcases hown.2 with ⟨e, -⟩ | ⟨g', cap', cur, e, -, -, hc, -⟩
    · simp at e
    · simp only [Value.slice.injEq] at e
      obtain ⟨-, -, rfl⟩ := e
      exact hc
  by_cases h0 : xs = []
  · subst h0
    exact ⟨[], ⟨⟨_, _, rfl, ⟨hcap, hn⟩, Or.inl ⟨rfl, rfl⟩⟩, by simp, by simp⟩, by simp⟩
  · refine ⟨g :: bls.flatten, ⟨⟨_, _, rfl, ⟨hcap, hn⟩, Or.inr ⟨g, 0, rows, bls, rfl, hlg.2, rfl, hr, hb, fun j h1 h2 h3 => ⟨fun m hm => ?_, hl j h1 h2 h3⟩⟩⟩, ?_, ?_⟩, ?_⟩
    · rw [Nat.zero_add, hown.cellAt (j * A.n + m) (by
        have : (j + 1) * A.n ≤ xs.length * A.n := Nat.mul_le_mul_right _ (by omega)
        rw [Nat.add_mul] at this
        omega)]
      exact flat_at hle j m h2 hm
    · rw [List.nodup_cons]
      exact ⟨fun hm => by have := hi' g hm; omega, hnd⟩
    · intro b hm o
      rcases List.mem_cons.1 hm with rfl | hm
      · exact hown.frozenAt o
      · exact hf b hm o
    · intro b hm
      rcases List.mem_cons.1 hm with rfl | hm
      · exact hlg
      · have := hi' b hm; omega

/-- Element k of a slice, cell by cell. -/
theorem row_at {xs : List α} {b off cap k : Nat} (h : (sl A).Reads w [.slice (some ⟨b, off, none⟩) xs.length cap] xs) (hk : k < xs.length) : ∃ row, (∀ m, m < A.n → w.cell? ⟨b, off + k * A.n + m, none⟩ = row[m]?) ∧ A.Reads w row xs[k] := by
  obtain ⟨bl, ao, cp, e, -, h⟩ := h
  simp only [List.cons.injEq, Value.slice.injEq, and_true] at e
  obtain ⟨rfl, -, rfl⟩ := e
  rcases h with ⟨rfl, -⟩ | ⟨b', off', rows, bls, e2, hb, rfl, hr, hl, hj⟩
  · simp at hk
  · simp only [Option.some.injEq, Addr.mk.injEq, and_true] at e2
    obtain ⟨rfl, rfl⟩ := e2
    exact ⟨_, (hj k hk (by omega) (by omega)).1, ⟨_, (hj k hk (by omega) (by omega)).2⟩⟩
theorem sl_addr {xs : List α} {ao : Option Addr} {n cap : Nat} (h : (sl A).Reads w [.slice ao n cap] xs) (hp : 0 < xs.length) : ∃ b off, ao = some ⟨b, off, none⟩ ∧ b < w.heap.size := by
  obtain ⟨bl, ao', cp, e, -, h⟩ := h
  simp only [List.cons.injEq, Value.slice.injEq, and_true] at e
  obtain ⟨rfl, -, rfl⟩ := e
  rcases h with ⟨rfl, -⟩ | ⟨b', off', rows, bls, e2, hb, rfl, hr, hl, hj⟩
  · simp at hp
  · exact ⟨b', off', e2, hb⟩
theorem sz_elem {xs : List α} {k : Nat} (hk : k < xs.length) : A.sz xs[k] ≤ (sl A).sz xs := by
  show A.sz xs[k] ≤ xs.length + cntAll A.sz xs
  have : A.sz xs[k] ≤ cntAll A.sz xs := by
    induction xs generalizing k with
    | nil => simp at hk
    | cons x xs ih =>
      match k with
      | 0 => simp [cntAll]
      | k + 1 =>
        have := ih (k := k) (by simpa using hk)
        simp only [cntAll, List.getElem_cons_succ]
        omega
  omega
theorem sz_len {xs : List α} : xs.length ≤ (sl A).sz xs := Nat.le_add_right _ _
theorem cntAll_take {f : α → Nat} {xs : List α} {k : Nat} (hk : k < xs.length) : cntAll f (xs.take (k + 1)) = cntAll f (xs.take k) + f xs[k] := by
  induction xs generalizing k with
  | nil => simp at hk
  | cons x xs ih =>
    match k with
    | 0 => simp [cntAll]
    | k + 1 =>
      have := ih (k := k) (by simpa using hk)
      simp only [List.take_succ_cons, cntAll, List.getElem_cons_succ]
      omega
theorem cntAll_take_le {f : α → Nat} {xs : List α} {k : Nat} : cntAll f (xs.take k) ≤ cntAll f xs := by
  induction xs generalizing k with
  | nil => simp
  | cons x xs ih =>
    match k with
    | 0 => simp [cntAll]
    | k + 1 =>
      have := ih (k := k)
      simp only [List.take_succ_cons, cntAll]
      omega
end Lay

/-! ### Cells that are stored one behind the other into a row -/
def setFrom (xs : List Value) : Nat → List Value → List Value
  | _, [] => xs
  | i, v :: vs => setFrom (xs.set i v) (i + 1) vs
theorem setFrom_app (P Q vs : List Value) (h : vs.length ≤ Q.length) : setFrom (P ++ Q) P.length vs = P ++ vs ++ Q.drop vs.length := by
  induction vs generalizing P Q with
  | nil => simp [setFrom]
  | cons v vs ih =>
    match Q, h with
    | q :: Q, h =>
      rw [setFrom, List.set_append_right _ _ (Nat.le_refl _), Nat.sub_self, List.set_cons_zero]
      have := ih (P ++ [v]) Q (by simpa using h)
      simp only [List.length_append, List.length_cons, List.length_nil, Nat.zero_add] at this
      rw [show P ++ v :: Q = P ++ [v] ++ Q by simp, this]
      simp
theorem own_setAll {w : World} {base e size g n cap : Nat} {xs : List Value} (h : w.ownsRow base e size (.slice (some ⟨g, 0, none⟩) n cap) n xs) (i : Nat) (vs : List Value) : (setAll w g i vs).ownsRow base e size (.slice (some ⟨g, 0, none⟩) n cap) n (setFrom xs i vs) := by
  induction vs generalizing w i xs with
  | nil => exact h
  | cons v vs ih => exact ih (h.stored i v).1 (i + 1)
end Go.Proofs.YtceoaphcjnfphaaDoor

namespace Go.Proofs.YtceoaphcjnfphaaDoor
open Go.RowKit

theorem nodup_flat {bls : List (List Nat)} (h : bls.flatten.Nodup) : (∀ l ∈ bls, l.Nodup) ∧ ∀ i j (hi : i < bls.length) (hj : j < bls.length), i ≠ j → ∀ c ∈ bls[i], c ∉ bls[j] := by
  induction bls with
  | nil => exact ⟨by simp, fun i j hi => by simp at hi⟩
  | cons l ls ih =>
    rw [List.flatten_cons, List.nodup_append] at h
    obtain ⟨h1, h2, h3⟩ := h
    obtain ⟨k1, k2⟩ := ih h2
    have hm : ∀ j (hj : j < ls.length), ∀ c ∈ l, c ∉ ls[j] := fun j hj c hc hq => h3 c hc c (List.mem_flatten.2 ⟨_, List.getElem_mem hj, hq⟩) rfl
    refine ⟨fun q hq => ?_, fun i j hi hj hne c hc hq => ?_⟩
    · rcases List.mem_cons.1 hq with rfl | hq
      · exact h1
      · exact k1 q hq
    · match i, j, hi, hj, hne with
      | 0, j + 1, _, hj, _ => exact hm j (by simpa using hj) c (by simpa using hc) (by simpa using hq)
      | i + 1, 0, hi, _, _ => exact hm i (by simpa using hi) c (by simpa using hq) (by simpa using hc)
      | i + 1, j + 1, hi, hj, hne => exact k2 i j (by simpa using hi) (by simpa using hj) (by omega) c (by simpa using hc) (by simpa using hq)

/-- Row o.. of block b at the world c: n cells; all else of that block is as at w; only b and blk have been written since w. -/
structure RowAt (w c : World) (b o n : Nat) (cs : List Value) (blk : List Nat) : Prop where
  len : cs.length = n
  cells : ∀ m, m < n → c.cell? ⟨b, o + m, none⟩ = cs[m]?
  others : ∀ q, (q < o ∨ o + n ≤ q) → c.cell? ⟨b, q, none⟩ = w.cell? ⟨b, q, none⟩
  soft : ∀ q, c.frozen? ⟨b, q, none⟩ = false
  lt : b < c.heap.size
  ext : Ext (fun q => q = b ∨ q ∈ blk) w c

theorem RowAt.at {w c : World} {b o n : Nat} {cs : List Value} {blk : List Nat} (h : RowAt w c b o n cs blk) (m : Nat) (v : Value) (hv : cs[m]? = some v) : c.cell? ⟨b, o + m, none⟩ = some v := by
  have : m < n := by rw [← h.len]; exact (List.getElem?_eq_some_iff.1 hv).1
  rw [h.cells m this, hv]
theorem RowAt.set {w c : World} {b o n : Nat} {cs : List Value} {blk : List Nat} (h : RowAt w c b o n cs blk) (m : Nat) (v : Value) (hm : m < n) : RowAt w (c.setCell ⟨b, o + m, none⟩ v) b o n (cs.set m v) blk := by
  refine ⟨by simpa using h.len, fun j hj => ?_, fun q hq => ?_, fun q => by simpa using h.soft q, by simpa using h.lt, h.ext.setCell _ _ (Or.inl rfl)⟩
  · by_cases e : j = m
    · subst e
      have hc := h.cells j hj
      have : ∃ u, c.cell? ⟨b, o + j, none⟩ = some u := ⟨_, hc.trans (List.getElem?_eq_getElem (by rw [h.len]; exact hj))⟩
      obtain ⟨u, hu⟩ := this
      rw [World.cell?_setCell_same _ _ _ hu, List.getElem?_set_self (by rw [h.len]; exact hj)]
    · rw [World.cell?_setCell_other _ _ _ _ (fun q => by have := congrArg Addr.off q; simp only at this; omega), h.cells j hj, List.getElem?_set_ne (by omega)]
  · rw [World.cell?_setCell_other _ _ _ _ (fun e => by have := congrArg Addr.off e; simp only at this; omega)]
    exact h.others q hq
theorem RowAt.call {w c c' : World} {b o n : Nat} {cs : List Value} {blk g : List Nat} (h : RowAt w c b o n cs blk) (e : Ext (fun q => q ∈ g) c c') (hg : ∀ q ∈ g, q ∈ blk) (hb : b ∉ g) : RowAt w c' b o n cs blk := by
  have hh := e.block b h.lt hb
  exact ⟨h.len, fun m hm => (cell_of_heap hh _).trans (h.cells m hm), fun q hq => (cell_of_heap hh _).trans (h.others q hq), fun q => (frozen_of_heap hh _).trans (h.soft q), Nat.lt_of_lt_of_le h.lt e.size, h.ext.trans (e.mono fun q _ hq => Or.inr (hg q hq))⟩

namespace Lay
variable {α : Type} {A : Lay α} {w : World}

/-- Element k of data of one's own: its cells, its own data; and what holds when it has been written anew. -/
theorem own_upd {xs : List α} {b off cap k n : Nat} {bl : List Nat} (h : (sl A).Own w [.slice (some ⟨b, off, none⟩) n cap] xs bl) (hk : k < xs.length) :
    ∃ row blk, RowAt w w b (off + k * A.n) A.n row blk ∧ A.Own w row xs[k] blk ∧ b ∉ blk ∧
      (∀ c, (b = c ∨ c ∈ blk) → c ∈ bl) ∧ ∀ w' row' x', RowAt w w' b (off + k * A.n) A.n row' blk → A.Own w' row' x' blk → (sl A).Own w' [.slice (some ⟨b, off, none⟩) n cap] (xs.set k x') bl := by
  obtain ⟨⟨ao, cp, e, hsz, hl⟩, hnd, hf⟩ := h
  simp only [List.cons.injEq, Value.slice.injEq, and_true] at e
  obtain ⟨rfl, rfl, rfl⟩ := e
  rcases hl with ⟨rfl, -⟩ | ⟨b', off', rows, bls, e2, hb, rfl, hr, hbl, hj⟩
  · simp at hk
  simp only [Option.some.injEq, Addr.mk.injEq, and_true] at e2
  obtain ⟨rfl, rfl⟩ := e2
  have hk1 : k < rows.length := by omega
  have hk2 : k < bls.length := by omega
  obtain ⟨hc, hlie⟩ := hj k hk hk1 hk2
  rw [List.nodup_cons] at hnd
  have hmem : ∀ c ∈ bls[k], c ∈ bls.flatten := fun c hc => List.mem_flatten.2 ⟨_, List.getElem_mem _, hc⟩
  have hb0 : b ∉ bls[k] := fun hm => hnd.1 (hmem b hm)
  have hfl := nodup_flat hnd.2
  refine ⟨rows[k], bls[k], ⟨A.len hlie, hc, fun _ _ => rfl, fun q => hf b (by simp) q, hb, Ext.refl _ _⟩, ⟨hlie, hfl.1 _ (List.getElem_mem _), fun c hm => hf c (by simp [hmem c hm])⟩, hb0, ?_, ?_⟩
  · rintro c (rfl | hm)
    · simp
    · simp [hmem c hm]
  · intro w' row' x' hR hO
    have hkeep : ∀ c, c < w.heap.size → c ≠ b → c ∉ bls[k] → w'.heap[c]? = w.heap[c]? := fun c hlt h1 h2 => hR.ext.block c hlt (by rintro (h | h); exact h1 h; exact h2 h)
    have hother : ∀ j (h1 : j < bls.length), j ≠ k → ∀ c ∈ bls[j], c ≠ b ∧ c ∉ bls[k] := by
      intro j h1 hne c hm
      refine ⟨fun e => hnd.1 (e ▸ List.mem_flatten.2 ⟨_, List.getElem_mem h1, hm⟩), fun hm2 => ?_⟩
      exact hfl.2 j k h1 hk2 hne c hm hm2
    refine ⟨⟨some ⟨b, off, none⟩, cap, by simp, by simpa using hsz, Or.inr ⟨b, off, rows.set k row', bls, rfl, hR.lt, rfl, by simpa using hr, by simpa using hbl, fun j h1 h2 h3 => ?_⟩⟩, ?_, ?_⟩
    · have h1' : j < xs.length := by simpa using h1
      have h2' : j < rows.length := by simpa using h2
      by_cases e : j = k
      · subst e
        rw [List.getElem_set_self, List.getElem_set_self]
        exact ⟨hR.cells, hO.1⟩
      · rw [List.getElem_set_ne (by omega), List.getElem_set_ne (by omega)]
        obtain ⟨c1, c2⟩ := hj j h1' h2' h3
        refine ⟨fun m hm => ?_, A.keep c2 fun c hm => hkeep c (A.lt c2 c hm) (hother j h3 e c hm).1 (hother j h3 e c hm).2⟩
        rw [hR.others _ ?_]
        · exact c1 m hm
        · rcases Nat.lt_or_ge j k with h | h
          · left
            have : (j + 1) * A.n ≤ k * A.n := Nat.mul_le_mul_right _ h
            rw [Nat.add_mul] at this
            omega
          · right
            have : (k + 1) * A.n ≤ j * A.n := Nat.mul_le_mul_right _ (by omega)
            rw [Nat.add_mul] at this
            omega
    · rw [List.nodup_cons]
      exact hnd
    · intro c hm o
      rcases List.mem_cons.1 hm with rfl | hm
      · exact hR.soft o
      · obtain ⟨l, hl1, hl2⟩ := List.mem_flatten.1 hm
        obtain ⟨j, hjl, rfl⟩ := List.getElem_of_mem hl1
        by_cases e : j = k
        · subst e
          exact hO.2.2 c hl2 o
        · obtain ⟨c1, c2⟩ := hj j (by omega) (by omega) hjl
          rw [frozen_of_heap (hkeep c (A.lt c2 c hl2) (hother j hjl e c hl2).1 (hother j hjl e c hl2).2) o]
          exact hf c (List.mem_cons_of_mem _ hm) o
end Lay

/-! ### Lists that are marked one element behind the other -/
theorem mkAll_at {α : Type} (c : α → Nat) (m : Int → α → α) (k : Int) (xs : List α) (j : Nat) (hj : j < xs.length) (hj2 : j < (mkAll c m k xs).length) : (mkAll c m k xs)[j] = m (k + (cntAll c (xs.take j) : Nat)) xs[j] := by
  induction xs generalizing k j with
  | nil => simp at hj
  | cons x xs ih =>
    match j with
    | 0 => simp [mkAll, cntAll]
    | j + 1 =>
      have := ih (k + c x) j (by simpa using hj) (by simpa [mkAll] using hj2)
      simp only [mkAll, List.getElem_cons_succ, List.take_succ_cons, cntAll]
      rw [this]
      congr 1
      omega
theorem mkAll_size {α : Type} (c : α → Nat) (m : Int → α → α) (k : Int) (xs : List α) : (mkAll c m k xs).length = xs.length := by
  induction xs generalizing k with
  | nil => rfl
  | cons x xs ih => simp [mkAll, ih]
/-- The first j marked, the others as they were. -/
def mkPre {α : Type} (c : α → Nat) (m : Int → α → α) (k : Int) (xs : List α) (j : Nat) : List α := (mkAll c m k xs).take j ++ xs.drop j
theorem mkPre_len {α : Type} (c : α → Nat) (m : Int → α → α) (k : Int) (xs : List α) (j : Nat) (hj : j ≤ xs.length) : (mkPre c m k xs j).length = xs.length := by
  simp [mkPre, mkAll_size]; omega
theorem mkPre_get {α : Type} (c : α → Nat) (m : Int → α → α) (k : Int) (xs : List α) (j : Nat) (hj : j < xs.length) (h2 : j < (mkPre c m k xs j).length) : (mkPre c m k xs j)[j] = xs[j] := by
  have e : (mkPre c m k xs j)[j]? = xs[j]? := by
    rw [mkPre, List.getElem?_append_right (by simp [mkAll_size]; omega)]
    simp [mkAll_size, Nat.min_eq_left (Nat.le_of_lt hj)]
  rw [List.getElem?_eq_getElem h2, List.getElem?_eq_getElem hj] at e
  exact Option.some.inj e
theorem mkPre_set {α : Type} (c : α → Nat) (m : Int → α → α) (k : Int) (xs : List α) (j : Nat) (hj : j < xs.length) : (mkPre c m k xs j).set j (m (k + (cntAll c (xs.take j) : Nat)) xs[j]) = mkPre c m k xs (j + 1) := by
  have hl : ((mkAll c m k xs).take j).length = j := by simp [mkAll_size]; omega
  unfold mkPre
  rw [List.set_append_right _ _ (by omega), hl, Nat.sub_self, List.drop_eq_getElem_cons hj, List.set_cons_zero, List.take_succ_eq_append_getElem (by rw [mkAll_size]; exact hj), mkAll_at c m k xs j hj]
  simp
theorem mkPre_zero {α : Type} (c : α → Nat) (m : Int → α → α) (k : Int) (xs : List α) : mkPre c m k xs 0 = xs := by simp [mkPre]
theorem mkPre_all {α : Type} (c : α → Nat) (m : Int → α → α) (k : Int) (xs : List α) : mkPre c m k xs xs.length = mkAll c m k xs := by
  unfold mkPre
  rw [List.drop_length, List.append_nil, List.take_of_length_le (by rw [mkAll_size]; exact Nat.le_refl _)]
end Go.Proofs.YtceoaphcjnfphaaDoor

namespace Go.Proofs.YtceoaphcjnfphaaDoor
open Go.RowKit

/-- The slice v holds the data xs, row by row; the blocks behind them are bls; the row's own block is none of them. -/
structure Grow {α : Type} (A : Lay α) (w : World) (base T : Nat) (v : Value) (rows : List (List Value)) (xs : List α) (bls : List (List Nat)) : Prop where
  own : w.ownsRow base T A.n v xs.length rows.flatten
  nrows : rows.length = xs.length
  nbls : bls.length = xs.length
  lies : ∀ j (h1 : j < xs.length) (h2 : j < rows.length) (h3 : j < bls.length), A.lies w rows[j] xs[j] bls[j]
  off : ∀ b ∈ bls.flatten, v.ownBlock ≠ some b

namespace Grow
variable {α : Type} {A : Lay α} {w w' : World} {base T : Nat} {v : Value} {rows : List (List Value)} {xs : List α} {bls : List (List Nat)}

theorem nil (h : w.ownsRow base T A.n v 0 []) : Grow A w base T v [] [] [] := ⟨h, rfl, rfl, fun j h1 => by simp at h1, by simp⟩
theorem sub_lt (h : Grow A w base T v rows xs bls) : ∀ b ∈ bls.flatten, b < w.heap.size := by
  intro b hb
  obtain ⟨l, h1, h2⟩ := List.mem_flatten.1 hb
  obtain ⟨j, hj, rfl⟩ := List.getElem_of_mem h1
  exact A.lt (h.lies j (by have := h.nbls; omega) (by have := h.nbls; have := h.nrows; omega) hj) b h2
theorem kept (h : Grow A w base T v rows xs bls) (ho : w'.ownsRow base T A.n v xs.length rows.flatten) (hk : ∀ b ∈ bls.flatten, w'.heap[b]? = w.heap[b]?) : Grow A w' base T v rows xs bls :=
  ⟨ho, h.nrows, h.nbls, fun j h1 h2 h3 => A.keep (h.lies j h1 h2 h3) fun b hb => hk b (List.mem_flatten.2 ⟨_, List.getElem_mem _, hb⟩), h.off⟩
theorem later (h : Grow A w base T v rows xs bls) (hb : Below w.heap.size w w') : Grow A w' base T v rows xs bls :=
  h.kept (own_below h.own hb) fun b hm => hb.block b (h.sub_lt b hm)
theorem lower {b' : Nat} (h : Grow A w base T v rows xs bls) (hb : b' ≤ base) : Grow A w b' T v rows xs bls := ⟨own_mono hb h.own, h.nrows, h.nbls, h.lies, h.off⟩
/-- Another block is written. -/
theorem grown {b : Nat} (h : Grow A w base T v rows xs bls) (hg : w.grownBy w' (some b)) (hb : b < base) (hs : ∀ c ∈ bls.flatten, base ≤ c) : Grow A w' base T v rows xs bls :=
  h.kept (h.own.kept hg (Or.inr fun e => by have := (h.own.lt b e).1; omega)) fun c hc => hg.block c (h.sub_lt c hc) (fun e => by
    have h1 := hs c hc
    have h2 : c = b := Option.some.inj e
    omega)
/-- One more. -/
theorem snoc (h : Grow A w base T v rows xs bls) {row : List Value} {x : α} {bl : List Nat} (hl : A.lies w row x bl) (hb : ∀ b ∈ bl, v.ownBlock ≠ some b) {g cap : Nat}
    (ho : w'.ownsRow base T A.n (.slice (some ⟨g, 0, none⟩) (xs.length + 1) cap) (xs.length + 1) (rows.flatten ++ row)) (hg : w.grownBy w' v.ownBlock) (hor : v.ownBlock = some g ∨ w.heap.size ≤ g) :
    Grow A w' base T (.slice (some ⟨g, 0, none⟩) (xs.length + 1) cap) (rows ++ [row]) (xs ++ [x]) (bls ++ [bl]) := by
  have hlt := h.sub_lt
  have hbl := A.lt hl
  have hk : ∀ b ∈ bls.flatten, w'.heap[b]? = w.heap[b]? := fun b hm => hg.block b (hlt b hm) (fun e => h.off b hm e.symm)
  have hk2 : ∀ b ∈ bl, w'.heap[b]? = w.heap[b]? := fun b hm => hg.block b (hbl b hm) (fun e => hb b hm e.symm)
  refine ⟨by simpa using ho, by simp [h.nrows], by simp [h.nbls], fun j h1 h2 h3 => ?_, ?_⟩
  · by_cases hj : j < xs.length
    · have e := h.lies j hj (by have := h.nrows; omega) (by have := h.nbls; omega)
      rw [List.getElem_append_left (by have := h.nrows; omega), List.getElem_append_left hj, List.getElem_append_left (by have := h.nbls; omega)]
      exact A.keep e fun b hm => hk b (List.mem_flatten.2 ⟨_, List.getElem_mem _, hm⟩)
    · obtain rfl : j = xs.length := by simp at h1; omega
      rw [List.getElem_append_right (by have := h.nrows; omega), List.getElem_append_right (by omega), List.getElem_append_right (by have := h.nbls; omega)]
      simpa using A.keep hl hk2
  · intro b hm e
    have e1 : b = g := by simpa [Value.ownBlock] using e.symm
    rw [List.flatten_append] at hm
    rcases hor with ho1 | ho1
    · rcases List.mem_append.1 hm with hm | hm
      · exact h.off b hm (by rw [ho1, e1])
      · exact hb b (by simpa using hm) (by rw [ho1, e1])
    · rcases List.mem_append.1 hm with hm | hm
      · have := hlt b hm; omega
      · have := hbl b (by simpa using hm); omega
theorem form (h : Grow A w base T v rows xs bls) : (v = .slice none 0 0 ∧ xs = []) ∨ ∃ g cap, v = .slice (some ⟨g, 0, none⟩) xs.length cap ∧ base ≤ g ∧ g < w.heap.size ∧ xs.length ≤ cap := by
  rcases h.own.2 with ⟨rfl, h0⟩ | ⟨g, cap, cur, rfl, hg, hh, hcap, _⟩
  · exact Or.inl ⟨rfl, List.eq_nil_of_length_eq_zero h0⟩
  · exact Or.inr ⟨g, cap, rfl, hg, lt_of_block hh, hcap⟩
theorem row_len (h : Grow A w base T v rows xs bls) : ∀ r ∈ rows, r.length = A.n := by
  intro r hm
  obtain ⟨j, hj, rfl⟩ := List.getElem_of_mem hm
  exact A.len (h.lies j (by have := h.nrows; omega) hj (by have := h.nrows; have := h.nbls; omega))
theorem flat_len (h : Grow A w base T v rows xs bls) : rows.flatten.length = xs.length * A.n := h.own.1
/-- It can be read. -/
theorem reads (h : Grow A w base T v rows xs bls) (hn : xs.length ≤ 9223372036854775807) : (Lay.sl A).lies w [v] xs (match v with | .slice (some a) _ _ => if xs = [] then [] else a.block :: bls.flatten | _ => []) ∨ xs = [] ∧ (Lay.sl A).lies w [v] xs [] := by
  rcases h.form with ⟨rfl, rfl⟩ | ⟨g, cap, rfl, hg, hgl, hcap⟩
  · exact Or.inr ⟨rfl, ⟨none, 0, rfl, ⟨by simp, hn⟩, Or.inl ⟨rfl, rfl⟩⟩⟩
  · by_cases h0 : xs = []
    · subst h0
      exact Or.inr ⟨rfl, ⟨_, cap, rfl, ⟨hcap, hn⟩, Or.inl ⟨rfl, rfl⟩⟩⟩
    · left
      simp only [if_neg h0]
      refine ⟨_, cap, rfl, ⟨hcap, hn⟩, Or.inr ⟨g, 0, rows, bls, rfl, hgl, rfl, h.nrows, h.nbls, fun j h1 h2 h3 => ⟨fun m hm => ?_, h.lies j h1 h2 h3⟩⟩⟩
      rw [Nat.zero_add, h.own.cellAt (j * A.n + m) (by
        have := h.flat_len
        have : (j + 1) * A.n ≤ xs.length * A.n := Nat.mul_le_mul_right _ (by omega)
        rw [Nat.add_mul] at this
        omega)]
      exact Lay.flat_at h.row_len j m h2 hm
theorem toReads (h : Grow A w base T v rows xs bls) (hn : xs.length ≤ 9223372036854775807) : (Lay.sl A).Reads w [v] xs := by
  rcases h.reads hn with h | ⟨-, h⟩
  · exact ⟨_, h⟩
  · exact ⟨_, h⟩
/-- It is data of the call's own, if what lies behind it is. -/
theorem toOwn (h : Grow A w base T v rows xs bls) (hn : xs.length ≤ 9223372036854775807) (hnd : bls.flatten.Nodup) (hs : ∀ b ∈ bls.flatten, base ≤ b ∧ ∀ o, w.frozen? ⟨b, o, none⟩ = false) : (Lay.sl A).OwnIn w [v] xs base w.heap.size := by
  have hr := h.reads hn
  rcases h.form with ⟨rfl, rfl⟩ | ⟨g, cap, rfl, hg, hgl, hcap⟩
  · exact ⟨[], ⟨⟨none, 0, rfl, ⟨by simp, hn⟩, Or.inl ⟨rfl, rfl⟩⟩, by simp, by simp⟩, by simp⟩
  · by_cases h0 : xs = []
    · subst h0
      exact ⟨[], ⟨⟨_, cap, rfl, ⟨hcap, hn⟩, Or.inl ⟨rfl, rfl⟩⟩, by simp, by simp⟩, by simp⟩
    · simp only [if_neg h0] at hr
      rcases hr with hr | ⟨h1, -⟩
      · refine ⟨_, ⟨hr, ?_, ?_⟩, ?_⟩
        · rw [List.nodup_cons]
          exact ⟨fun hm => h.off g hm rfl, hnd⟩
        · intro b hm o
          rcases List.mem_cons.1 hm with rfl | hm
          · exact h.own.frozenAt o
          · exact (hs b hm).2 o
        · intro b hm
          rcases List.mem_cons.1 hm with rfl | hm
          · exact ⟨hg, hgl⟩
          · exact ⟨(hs b hm).1, h.sub_lt b hm⟩
      · exact absurd h1 h0
/-- It lies in the call's own blocks, if what lies behind it does. -/
theorem toLies (h : Grow A w base T v rows xs bls) (hn : xs.length ≤ 9223372036854775807) (hs : ∀ b ∈ bls.flatten, base ≤ b) : (Lay.sl A).LiesIn w [v] xs base w.heap.size := by
  have hr := h.reads hn
  rcases h.form with ⟨rfl, rfl⟩ | ⟨g, cap, rfl, hg, hgl, hcap⟩
  · exact ⟨[], ⟨none, 0, rfl, ⟨by simp, hn⟩, Or.inl ⟨rfl, rfl⟩⟩, by simp⟩
  · by_cases h0 : xs = []
    · subst h0
      exact ⟨[], ⟨_, cap, rfl, ⟨hcap, hn⟩, Or.inl ⟨rfl, rfl⟩⟩, by simp⟩
    · simp only [if_neg h0] at hr
      rcases hr with hr | ⟨h1, -⟩
      · refine ⟨_, hr, fun b hm => ?_⟩
        rcases List.mem_cons.1 hm with rfl | hm
        · exact ⟨hg, hgl⟩
        · exact ⟨hs b hm, h.sub_lt b hm⟩
      · exact absurd h1 h0
end Grow

end Go.Proofs.YtceoaphcjnfphaaDoor

namespace Go.Proofs.YtceoaphcjnfphaaDoor
open Go.RowKit

structure DChain where
  epoch : Int
  ids : List Int

def Lay.tChain : Lay DChain := Lay.via (Lay.pair Lay.int (Lay.sl Lay.int)) (fun x => (x.epoch, x.ids)) (fun p => ⟨p.1, p.2⟩)

theorem lies_Chain {w : World} {cs : List Value} {x : DChain} {bl : List Nat} : Lay.tChain.lies w cs x bl ↔ ∃ (a1 : Option Addr) (d1 : Nat) (b1 : List Nat), cs = [.int .i64 x.epoch, .slice a1 x.ids.length d1] ∧ bl = b1 ∧ (Lit.int .i64 x.epoch).wf = true ∧ (Lay.sl Lay.int).lies w [.slice a1 x.ids.length d1] x.ids b1 := by
  constructor
  · intro h
    obtain ⟨c0_, r0_, e0_, s0_, rfl, rfl, h0, h1⟩ := h
    obtain ⟨rfl, w0, rfl⟩ := h0
    have k1 := h1
    obtain ⟨a1, d1, rfl, -⟩ := k1
    exact ⟨a1, d1, s0_, by simp, by simp, w0, h1⟩
  · rintro ⟨a1, d1, b1, rfl, hbl, w0, l1⟩
    rw [hbl]
    exact ⟨[.int .i64 x.epoch], [.slice a1 x.ids.length d1], [], b1, rfl, by simp, ⟨rfl, w0, rfl⟩, l1⟩

theorem open_Chain {w : World} {cs : List Value} {x : DChain} (h : Lay.tChain.Reads w cs x) : ∃ (a1 : Option Addr) (d1 : Nat), cs = [.int .i64 x.epoch, .slice a1 x.ids.length d1] ∧ (Lay.sl Lay.int).Reads w [.slice a1 x.ids.length d1] x.ids := by
  obtain ⟨bl, h⟩ := h
  obtain ⟨a1, d1, b1, rfl, -, w0, l1⟩ := lies_Chain.1 h
  exact ⟨a1, d1, rfl, ⟨_, l1⟩⟩

end Go.Proofs.YtceoaphcjnfphaaDoor

namespace Go.Proofs.YtceoaphcjnfphaaDoor
open Go.RowKit

structure DChainResult where
  code : Int
  chain : DChain

def Lay.tChainResult : Lay DChainResult := Lay.via (Lay.pair Lay.int Lay.tChain) (fun x => (x.code, x.chain)) (fun p => ⟨p.1, p.2⟩)

theorem lies_ChainResult {w : World} {cs : List Value} {x : DChainResult} {bl : List Nat} : Lay.tChainResult.lies w cs x bl ↔ ∃ (a2 : Option Addr) (d2 : Nat) (b2 : List Nat), cs = [.int .i64 x.code, .int .i64 x.chain.epoch, .slice a2 x.chain.ids.length d2] ∧ bl = b2 ∧ (Lit.int .i64 x.code).wf = true ∧ (Lit.int .i64 x.chain.epoch).wf = true ∧ (Lay.sl Lay.int).lies w [.slice a2 x.chain.ids.length d2] x.chain.ids b2 := by
  constructor
  · intro h
    obtain ⟨c0_, r0_, e0_, s0_, rfl, rfl, h0, h1⟩ := h
    obtain ⟨rfl, w0, rfl⟩ := h0
    obtain ⟨a2, d2, q2, rfl, hq1, w1, l2⟩ := lies_Chain.1 h1
    exact ⟨a2, d2, q2, by simp, by simp [hq1], w0, w1, l2⟩
  · rintro ⟨a2, d2, b2, rfl, hbl, w0, w1, l2⟩
    rw [hbl]
    exact ⟨[.int .i64 x.code], [.int .i64 x.chain.epoch, .slice a2 x.chain.ids.length d2], [], b2, rfl, by simp, ⟨rfl, w0, rfl⟩, lies_Chain.2 ⟨a2, d2, b2, rfl, rfl, w1, l2⟩⟩

theorem open_ChainResult {w : World} {cs : List Value} {x : DChainResult} (h : Lay.tChainResult.Reads w cs x) : ∃ (a2 : Option Addr) (d2 : Nat), cs = [.int .i64 x.code, .int .i64 x.chain.epoch, .slice a2 x.chain.ids.length d2] ∧ Lay.tChain.Reads w [.int .i64 x.chain.epoch, .slice a2 x.chain.ids.length d2] x.chain := by
  obtain ⟨bl, h⟩ := h
  obtain ⟨a2, d2, b2, rfl, -, w0, w1, l2⟩ := lies_ChainResult.1 h
  exact ⟨a2, d2, rfl, ⟨_, lies_Chain.2 ⟨a2, d2, _, rfl, rfl, w1, l2⟩⟩⟩

end Go.Proofs.YtceoaphcjnfphaaDoor

namespace Go.Proofs.YtceoaphcjnfphaaDoor
open Go.RowKit

structure DIntResult where
  code : Int
  value : Int

def Lay.tIntResult : Lay DIntResult := Lay.via (Lay.pair Lay.int Lay.int) (fun x => (x.code, x.value)) (fun p => ⟨p.1, p.2⟩)

theorem lies_IntResult {w : World} {cs : List Value} {x : DIntResult} {bl : List Nat} : Lay.tIntResult.lies w cs x bl ↔ cs = [.int .i64 x.code, .int .i64 x.value] ∧ bl = [] ∧ (Lit.int .i64 x.code).wf = true ∧ (Lit.int .i64 x.value).wf = true := by
  constructor
  · intro h
    obtain ⟨c0_, r0_, e0_, s0_, rfl, rfl, h0, h1⟩ := h
    obtain ⟨rfl, w0, rfl⟩ := h0
    obtain ⟨rfl, w1, rfl⟩ := h1
    exact ⟨by simp, by simp, w0, w1⟩
  · rintro ⟨rfl, hbl, w0, w1⟩
    rw [hbl]
    exact ⟨[.int .i64 x.code], [.int .i64 x.value], [], [], rfl, by simp, ⟨rfl, w0, rfl⟩, ⟨rfl, w1, rfl⟩⟩

end Go.Proofs.YtceoaphcjnfphaaDoor

namespace Go.Proofs.YtceoaphcjnfphaaDoor
open Go.RowKit

structure DTextResult where
  code : Int
  text : ByteArray

def Lay.tTextResult : Lay DTextResult := Lay.via (Lay.pair Lay.int Lay.str) (fun x => (x.code, x.text)) (fun p => ⟨p.1, p.2⟩)

theorem lies_TextResult {w : World} {cs : List Value} {x : DTextResult} {bl : List Nat} : Lay.tTextResult.lies w cs x bl ↔ cs = [.int .i64 x.code, .string x.text] ∧ bl = [] ∧ (Lit.int .i64 x.code).wf = true := by
  constructor
  · intro h
    obtain ⟨c0_, r0_, e0_, s0_, rfl, rfl, h0, h1⟩ := h
    obtain ⟨rfl, w0, rfl⟩ := h0
    obtain ⟨rfl, rfl⟩ := h1
    exact ⟨by simp, by simp, w0⟩
  · rintro ⟨rfl, hbl, w0⟩
    rw [hbl]
    exact ⟨[.int .i64 x.code], [.string x.text], [], [], rfl, by simp, ⟨rfl, w0, rfl⟩, ⟨rfl, rfl⟩⟩

end Go.Proofs.YtceoaphcjnfphaaDoor

namespace Go.Proofs.YtceoaphcjnfphaaDoor

abbrev Bytes := List UInt8

def isDig (c : UInt8) : Bool := decide (48 ≤ c.toNat) && decide (c.toNat ≤ 57)
def headDig : Bytes → Bool
  | [] => false
  | d :: _ => isDig d
def digs (n : Int) : Bytes → Option (Int × Bytes)
  | [] => none
  | c :: r => if 1000 < n * 10 + ((c.toNat : Int) - 48) then none else if headDig r then digs (n * 10 + ((c.toNat : Int) - 48)) r else some (n * 10 + ((c.toNat : Int) - 48), r)
def unsgn (σ : Int) : Bytes → Option (Int × Bytes)
  | [] => none
  | c :: r => if isDig c then (if c.toNat = 48 then (if σ < 0 then none else some (σ * 0, r)) else (digs 0 (c :: r)).map fun q => (σ * q.1, q.2)) else none
def rpart : Bytes → Option (Int × Bytes)
  | [] => none
  | c :: r => if c.toNat = 45 then unsgn (-1) r else unsgn 1 (c :: r)

abbrev Tri := Int × Int × Int
def setAt : Nat → Tri → Int → Tri
  | 0, t, v => (v, t.2.1, t.2.2)
  | 1, t, v => (t.1, v, t.2.2)
  | _, t, v => (t.1, t.2.1, v)
def fin3 (t : Tri) : Bytes → Option Tri
  | [] => some t
  | _ => none

/-- q places are left; the last one leaves the end. -/
def PP : Nat → Tri → Bytes → Option Tri
  | 0, _, _ => none
  | q + 1, t, r =>
    match rpart r with
    | none => none
    | some (v, r1) =>
      match q with
      | 0 => fin3 (setAt 2 t v) r1
      | q' + 1 =>
        match r1 with
        | [] => none
        | c :: r2 => if c.toNat = 44 then PP (q' + 1) (setAt (1 - q') t v) r2 else none

def EE (p : Nat) (t : Tri) (r : Bytes) : Option Tri :=
  if p = 2 then fin3 t r else match r with
    | [] => none
    | c :: r2 => if c.toNat = 44 then PP (2 - p) t r2 else none

theorem PP_eq (p : Nat) (hp : p ≤ 2) (t : Tri) (r : Bytes) : PP (3 - p) t r = match rpart r with | none => none | some (v, r1) => EE p (setAt p t v) r1 := by
  rcases (show p = 0 ∨ p = 1 ∨ p = 2 by omega) with rfl | rfl | rfl
  · show PP 3 t r = _
    rw [PP]
    cases rpart r with
    | none => rfl
    | some q => obtain ⟨v, r1⟩ := q; cases r1 <;> simp [EE]
  · show PP 2 t r = _
    rw [PP]
    cases rpart r with
    | none => rfl
    | some q => obtain ⟨v, r1⟩ := q; cases r1 <;> simp [EE]
  · show PP 1 t r = _
    rw [PP]
    cases rpart r with
    | none => rfl
    | some q => obtain ⟨v, r1⟩ := q; cases r1 <;> simp [EE]

def UU (p : Nat) (t : Tri) (σ : Int) (r : Bytes) : Option Tri := match unsgn σ r with | none => none | some (v, r1) => EE p (setAt p t v) r1
def DD (p : Nat) (t : Tri) (σ n : Int) (r : Bytes) : Option Tri := match digs n r with | none => none | some (v, r1) => EE p (setAt p t (σ * v)) r1

/-- The byte at k, 0 behind the end. -/
def bAt (s : ByteArray) (k : Nat) : Int := if h : k < s.size then (s[k].toNat : Int) else 0
def digB (b : Int) : Bool := decide (48 ≤ b) && decide (b ≤ 57)

def rest (s : ByteArray) (k : Nat) : Bytes := s.data.toList.drop k
theorem rest_nil (s : ByteArray) (k : Nat) (h : ¬ k < s.size) : rest s k = [] := by
  unfold rest
  exact List.drop_of_length_le (by simp; simpa using h)
theorem rest_cons (s : ByteArray) (k : Nat) (h : k < s.size) : rest s k = s[k] :: rest s (k + 1) := by
  unfold rest
  rw [List.drop_eq_getElem_cons (by simpa using h)]
  rfl
theorem bAt_lt (s : ByteArray) (k : Nat) (h : k < s.size) : bAt s k = (s[k].toNat : Int) := by simp [bAt, h]
theorem bAt_ge (s : ByteArray) (k : Nat) (h : ¬ k < s.size) : bAt s k = 0 := by simp [bAt, h]
theorem bAt_bd (s : ByteArray) (k : Nat) : 0 ≤ bAt s k ∧ bAt s k ≤ 255 := by
  unfold bAt
  split
  · have := s[k].toNat_lt; omega
  · omega
theorem lt_of_bAt (s : ByteArray) (k : Nat) (h : bAt s k ≠ 0) : k < s.size := by
  by_cases hk : k < s.size
  · exact hk
  · exact absurd (bAt_ge s k hk) h
theorem digB_lt (s : ByteArray) (k : Nat) (h : digB (bAt s k) = true) : k < s.size := by
  refine lt_of_bAt s k ?_
  simp [digB] at h
  omega
theorem isDig_at (s : ByteArray) (k : Nat) (h : k < s.size) : isDig s[k] = digB (bAt s k) := by
  rw [bAt_lt s k h]
  simp only [isDig, digB]
  congr 1
  · rw [decide_eq_decide]; omega
  · rw [decide_eq_decide]; omega
theorem headDig_at (s : ByteArray) (k : Nat) : headDig (rest s k) = digB (bAt s k) := by
  by_cases h : k < s.size
  · rw [rest_cons s k h]; exact isDig_at s k h
  · rw [rest_nil s k h, bAt_ge s k h]; rfl

theorem PP_minus (s : ByteArray) (k p : Nat) (t : Tri) (hp : p ≤ 2) (h : bAt s k = 45) : PP (3 - p) t (rest s k) = UU p t (-1) (rest s (k + 1)) := by
  have hk := lt_of_bAt s k (by omega)
  have h1 : s[k].toNat = 45 := by have := bAt_lt s k hk; omega
  rw [PP_eq p hp, rest_cons s k hk]
  simp [rpart, h1, UU]
theorem PP_plus (s : ByteArray) (k p : Nat) (t : Tri) (hp : p ≤ 2) (h : bAt s k ≠ 45) : PP (3 - p) t (rest s k) = UU p t 1 (rest s k) := by
  rw [PP_eq p hp]
  by_cases hk : k < s.size
  · have h1 : ¬ s[k].toNat = 45 := by have := bAt_lt s k hk; omega
    rw [rest_cons s k hk]
    simp [rpart, h1, UU]
  · rw [rest_nil s k hk]
    simp [rpart, UU, unsgn]
theorem UU_bad (s : ByteArray) (k p : Nat) (t : Tri) (σ : Int) (h : digB (bAt s k) = false) : UU p t σ (rest s k) = none := by
  by_cases hk : k < s.size
  · have := isDig_at s k hk
    rw [rest_cons s k hk]
    simp [UU, unsgn, this, h]
  · rw [rest_nil s k hk]
    simp [UU, unsgn]
theorem UU_digit (s : ByteArray) (k p : Nat) (t : Tri) (σ : Int) (h : digB (bAt s k) = true) (h0 : bAt s k ≠ 48) : UU p t σ (rest s k) = DD p t σ 0 (rest s k) := by
  have hk := digB_lt s k h
  have h1 := isDig_at s k hk
  have h2 : ¬ s[k].toNat = 48 := by have := bAt_lt s k hk; omega
  rw [rest_cons s k hk]
  simp only [UU, unsgn, h1, h, h2, if_true, if_false, DD]
  cases digs 0 (s[k] :: rest s (k + 1)) with
  | none => rfl
  | some q => rfl
theorem UU_zero_neg (s : ByteArray) (k p : Nat) (t : Tri) (h0 : bAt s k = 48) : UU p t (-1) (rest s k) = none := by
  have hk := lt_of_bAt s k (by omega)
  have h2 : s[k].toNat = 48 := by have := bAt_lt s k hk; omega
  have h1 := isDig_at s k hk
  have h : digB (bAt s k) = true := by rw [h0]; rfl
  rw [rest_cons s k hk]
  simp [UU, unsgn, h1, h, h2]
theorem UU_zero (s : ByteArray) (k p : Nat) (t : Tri) (h0 : bAt s k = 48) : UU p t 1 (rest s k) = EE p (setAt p t (1 * 0)) (rest s (k + 1)) := by
  have hk := lt_of_bAt s k (by omega)
  have h2 : s[k].toNat = 48 := by have := bAt_lt s k hk; omega
  have h1 := isDig_at s k hk
  have h : digB (bAt s k) = true := by rw [h0]; rfl
  rw [rest_cons s k hk]
  simp [UU, unsgn, h1, h, h2]
theorem DD_much (s : ByteArray) (k p : Nat) (t : Tri) (σ n : Int) (h : digB (bAt s k) = true) (hm : 1000 < n * 10 + (bAt s k - 48)) : DD p t σ n (rest s k) = none := by
  have hk := digB_lt s k h
  have e := bAt_lt s k hk
  rw [rest_cons s k hk]
  rw [e] at hm
  simp [DD, digs, hm]
theorem DD_more (s : ByteArray) (k p : Nat) (t : Tri) (σ n : Int) (h : digB (bAt s k) = true) (hm : ¬ 1000 < n * 10 + (bAt s k - 48)) (h2 : digB (bAt s (k + 1)) = true) : DD p t σ n (rest s k) = DD p t σ (n * 10 + (bAt s k - 48)) (rest s (k + 1)) := by
  have hk := digB_lt s k h
  have e := bAt_lt s k hk
  have e2 := headDig_at s (k + 1)
  rw [rest_cons s k hk]
  rw [e] at hm ⊢
  simp only [DD, digs, hm, if_false, e2, h2, if_true]
theorem DD_end (s : ByteArray) (k p : Nat) (t : Tri) (σ n : Int) (h : digB (bAt s k) = true) (hm : ¬ 1000 < n * 10 + (bAt s k - 48)) (h2 : digB (bAt s (k + 1)) = false) : DD p t σ n (rest s k) = EE p (setAt p t (σ * (n * 10 + (bAt s k - 48)))) (rest s (k + 1)) := by
  have hk := digB_lt s k h
  have e := bAt_lt s k hk
  have e2 := headDig_at s (k + 1)
  rw [rest_cons s k hk]
  rw [e] at hm ⊢
  simp [DD, digs, hm, e2, h2]
theorem EE_last (t : Tri) (r : Bytes) : EE 2 t r = fin3 t r := by simp [EE]
theorem EE_comma (s : ByteArray) (k p : Nat) (t : Tri) (hp : p < 2) (h : bAt s k = 44) : EE p t (rest s k) = PP (3 - (p + 1)) t (rest s (k + 1)) := by
  have hk := lt_of_bAt s k (by omega)
  have h2 : s[k].toNat = 44 := by have := bAt_lt s k hk; omega
  have hp2 : ¬ p = 2 := by omega
  rw [rest_cons s k hk]
  simp [EE, hp2, h2, show 3 - (p + 1) = 2 - p by omega]
theorem EE_wrong (s : ByteArray) (k p : Nat) (t : Tri) (hp : p < 2) (h : bAt s k ≠ 44) : EE p t (rest s k) = none := by
  have hp2 : ¬ p = 2 := by omega
  by_cases hk : k < s.size
  · have h2 : ¬ s[k].toNat = 44 := by have := bAt_lt s k hk; omega
    rw [rest_cons s k hk]
    simp [EE, hp2, h2]
  · rw [rest_nil s k hk]
    simp [EE, hp2]
theorem fin3_end (s : ByteArray) (k : Nat) (t : Tri) (h : ¬ k < s.size) : fin3 t (rest s k) = some t := by rw [rest_nil s k h]; rfl
theorem fin3_more (s : ByteArray) (k : Nat) (t : Tri) (h : k < s.size) : fin3 t (rest s k) = none := by rw [rest_cons s k h]; rfl

end Go.Proofs.YtceoaphcjnfphaaDoor

namespace Go.Proofs.YtceoaphcjnfphaaDoor

/-- What digits are worth, behind n. -/
def dval (n : Int) : Bytes → Int
  | [] => n
  | c :: r => dval (n * 10 + ((c.toNat : Int) - 48)) r
def allDig : Bytes → Bool
  | [] => true
  | c :: r => isDig c && allDig r

theorem isDig_bd {c : UInt8} (h : isDig c = true) : 48 ≤ c.toNat ∧ c.toNat ≤ 57 := by simpa [isDig] using h
theorem dval_ge (n : Int) (hn : 0 ≤ n) (l : Bytes) (h : allDig l = true) : n ≤ dval n l := by
  induction l generalizing n with
  | nil => exact Int.le_refl _
  | cons c r ih =>
    simp only [allDig, Bool.and_eq_true] at h
    have hb := isDig_bd h.1
    have := ih (n * 10 + ((c.toNat : Int) - 48)) (by omega) h.2
    simp only [dval]
    omega
theorem dval_snoc (n : Int) (l : Bytes) (c : UInt8) : dval n (l ++ [c]) = dval n l * 10 + ((c.toNat : Int) - 48) := by
  induction l generalizing n with
  | nil => rfl
  | cons d r ih => exact ih _
theorem allDig_snoc (l : Bytes) (c : UInt8) : allDig (l ++ [c]) = (allDig l && isDig c) := by
  induction l with
  | nil => simp [allDig]
  | cons d r ih => simp [allDig, ih, Bool.and_assoc]

/-- The machine's digits, at a text that opens with digits. -/
theorem digs_app (ds r : Bytes) (n : Int) (hn : 0 ≤ n) (h : allDig ds = true) (hne : ds ≠ []) (hr : headDig r = false) : digs n (ds ++ r) = if 1000 < dval n ds then none else some (dval n ds, r) := by
  induction ds generalizing n with
  | nil => exact absurd rfl hne
  | cons c ds ih =>
    simp only [allDig, Bool.and_eq_true] at h
    have hb := isDig_bd h.1
    have hge := dval_ge (n * 10 + ((c.toNat : Int) - 48)) (by omega) ds h.2
    simp only [List.cons_append, digs, dval]
    cases ds with
    | nil =>
      by_cases hm : 1000 < n * 10 + ((c.toNat : Int) - 48)
      · simp [hm, dval]
      · simp [hm, dval, hr]
    | cons d ds' =>
      have hd : headDig (d :: ds' ++ r) = true := by
        simp only [allDig, Bool.and_eq_true] at h
        exact h.2.1
      have h2 := ih (n * 10 + ((c.toNat : Int) - 48)) (by omega) h.2 (by simp)
      by_cases hm : 1000 < n * 10 + ((c.toNat : Int) - 48)
      · have : 1000 < dval (n * 10 + ((c.toNat : Int) - 48)) (d :: ds') := by omega
        simp only [hm, if_true, this]
      · rw [if_neg hm, if_pos hd]
        exact h2

/-- What the machine took were digits. -/
theorem digs_some (l : Bytes) (n v : Int) (r : Bytes) (hn : 0 ≤ n) (h0 : headDig l = true) (h : digs n l = some (v, r)) : ∃ ds, l = ds ++ r ∧ ds ≠ [] ∧ allDig ds = true ∧ dval n ds = v ∧ v ≤ 1000 ∧ headDig r = false := by
  induction l generalizing n with
  | nil => simp [digs] at h
  | cons c l ih =>
    simp only [digs] at h
    have hc : isDig c = true := h0
    have hb := isDig_bd hc
    by_cases hm : 1000 < n * 10 + ((c.toNat : Int) - 48)
    · simp [hm] at h
    · simp only [hm, if_false] at h
      cases hd : headDig l with
      | true =>
        simp only [hd, if_true] at h
        obtain ⟨ds, e1, e2, e3, e4, e5, e6⟩ := ih _ (by omega) hd h
        exact ⟨c :: ds, by rw [e1]; rfl, by simp, by simp [allDig, hc, e3], e4, e5, e6⟩
      | false =>
        simp only [hd] at h
        simp at h
        obtain ⟨rfl, rfl⟩ := h
        exact ⟨[c], rfl, by simp, by simp [allDig, hc], rfl, by omega, hd⟩

def dch (n : Nat) : UInt8 := UInt8.ofNat (48 + n)
def decF : Nat → Nat → Bytes
  | 0, _ => []
  | f + 1, n => if n < 10 then [dch n] else decF f (n / 10) ++ [dch (n % 10)]
def dec (n : Int) : Bytes := if n < 0 then 45 :: decF 4 n.natAbs else decF 4 n.toNat

theorem decF_len (f n : Nat) : (decF f n).length ≤ f := by
  induction f generalizing n with
  | zero => simp [decF]
  | succ f ih =>
    unfold decF
    split
    · simp
    · have := ih (n / 10)
      simp
      omega

theorem dch_nat (n : Nat) (h : n < 10) : (dch n).toNat = 48 + n := by
  unfold dch
  rw [UInt8.toNat_ofNat']
  omega
theorem dch_dig (n : Nat) (h : n < 10) : isDig (dch n) = true := by
  have := dch_nat n h
  simp [isDig, this]
  omega
theorem dch_of (c : UInt8) (h : isDig c = true) : dch (c.toNat - 48) = c := by
  have hb := isDig_bd h
  apply UInt8.toNat_inj.1
  rw [dch_nat _ (by omega)]
  omega

/-- What decF writes. -/
theorem decF_facts (f n : Nat) (hn : n < 10 ^ (f + 1)) : allDig (decF (f + 1) n) = true ∧ decF (f + 1) n ≠ [] ∧ dval 0 (decF (f + 1) n) = n ∧ (1 ≤ n → ∀ c r, decF (f + 1) n = c :: r → c.toNat ≠ 48) := by
  induction f generalizing n with
  | zero =>
    have h : n < 10 := by omega
    have e : decF (0 + 1) n = [dch n] := by rw [decF, if_pos h]
    have e2 := dch_nat n h
    rw [e]
    refine ⟨by simp [allDig, dch_dig n h], by simp, by simp [dval, e2]; omega, fun h1 c r hc => ?_⟩
    simp at hc
    obtain ⟨rfl, _⟩ := hc
    omega
  | succ f ih =>
    by_cases h : n < 10
    · have e : decF (f + 1 + 1) n = [dch n] := by rw [decF, if_pos h]
      have e2 := dch_nat n h
      rw [e]
      refine ⟨by simp [allDig, dch_dig n h], by simp, by simp [dval, e2]; omega, fun h1 c r hc => ?_⟩
      simp at hc
      obtain ⟨rfl, _⟩ := hc
      omega
    · have e : decF (f + 1 + 1) n = decF (f + 1) (n / 10) ++ [dch (n % 10)] := by rw [decF, if_neg h]
      have hq : n / 10 < 10 ^ (f + 1) := by
        rw [Nat.pow_succ] at hn
        omega
      obtain ⟨i1, i2, i3, i4⟩ := ih (n / 10) hq
      have hm : n % 10 < 10 := by omega
      rw [e]
      refine ⟨by rw [allDig_snoc, i1, dch_dig _ hm]; rfl, by simp, by rw [dval_snoc, i3, dch_nat _ hm]; omega, fun h1 c r hc => ?_⟩
      cases hl : decF (f + 1) (n / 10) with
      | nil => exact absurd hl i2
      | cons d ds =>
        rw [hl] at hc
        simp at hc
        obtain ⟨rfl, _⟩ := hc
        exact i4 (by omega) d ds hl

/-- One text alone. -/
theorem decF_of (f : Nat) : ∀ (ds : Bytes) (n : Nat), allDig ds = true → ds ≠ [] → (∀ c r, ds = c :: r → r ≠ [] → c.toNat ≠ 48) → dval 0 ds = n → n < 10 ^ (f + 1) → decF (f + 1) n = ds := by
  induction f with
  | zero =>
    intro ds n h1 h2 h3 h4 h5
    rcases List.eq_nil_or_concat ds with rfl | ⟨l, c, rfl⟩
    · exact absurd rfl h2
    · rw [List.concat_eq_append] at *
      rw [allDig_snoc, Bool.and_eq_true] at h1
      rw [dval_snoc] at h4
      have hb := isDig_bd h1.2
      have hl := dval_ge 0 (by omega) l h1.1
      have hn : n < 10 := by omega
      cases l with
      | nil =>
        rw [decF, if_pos hn]
        simp only [dval] at h4
        have : n = c.toNat - 48 := by omega
        rw [this, dch_of c h1.2]
        rfl
      | cons d ds =>
        exfalso
        have h6 := h3 d (ds ++ [c]) rfl (by simp)
        simp only [allDig, Bool.and_eq_true] at h1
        have hd := isDig_bd h1.1.1
        have := dval_ge (0 * 10 + ((d.toNat : Int) - 48)) (by omega) ds h1.1.2
        simp only [dval] at h4
        omega
  | succ f ih =>
    intro ds n h1 h2 h3 h4 h5
    rcases List.eq_nil_or_concat ds with rfl | ⟨l, c, rfl⟩
    · exact absurd rfl h2
    · rw [List.concat_eq_append] at *
      rw [allDig_snoc, Bool.and_eq_true] at h1
      rw [dval_snoc] at h4
      have hb := isDig_bd h1.2
      have hl := dval_ge 0 (by omega) l h1.1
      cases l with
      | nil =>
        simp only [dval] at h4
        have hn : n < 10 := by omega
        rw [decF, if_pos hn]
        have : n = c.toNat - 48 := by omega
        rw [this, dch_of c h1.2]
        rfl
      | cons d ds =>
        have h6 := h3 d (ds ++ [c]) rfl (by simp)
        have h7 := h1.1
        simp only [allDig, Bool.and_eq_true] at h7
        have hd := isDig_bd h7.1
        have h8 := dval_ge (0 * 10 + ((d.toNat : Int) - 48)) (by omega) ds h7.2
        have h9 : dval 0 (d :: ds) = dval (0 * 10 + ((d.toNat : Int) - 48)) ds := rfl
        have hn : ¬ n < 10 := by omega
        have hq : dval 0 (d :: ds) = ((n / 10 : Nat) : Int) := by omega
        rw [decF, if_neg hn, ih (d :: ds) (n / 10) h1.1 (by simp) (fun c' r' he hr => by simp at he; obtain ⟨rfl, _⟩ := he; exact h6) hq (by rw [Nat.pow_succ] at h5; omega)]
        have : n % 10 = c.toNat - 48 := by omega
        rw [this, dch_of c h1.2]

end Go.Proofs.YtceoaphcjnfphaaDoor

namespace Go.Proofs.YtceoaphcjnfphaaDoor
open Go.RowKit

/-- Where an id stands first; how many there are, where it doesn't. -/
def atC (ids : List Int) (id : Int) : Nat := ids.findIdx (· == id)
/-- The place as a number, -1 where there is none. -/
def placeC (ids : List Int) (id : Int) : Int := if atC ids id < ids.length then (atC ids id : Int) else -1
/-- The first fault among ids, pre: those ahead of them. -/
def idsF : List Int → List Int → Int
  | _, [] => 0
  | pre, z :: zs => if 1 ≤ z ∧ z ≤ 5 then (if z ∈ pre then 6 else idsF (pre ++ [z]) zs) else 3
def chainFault (x : DChain) : Int :=
  if 1 ≤ x.epoch ∧ x.epoch ≤ 999 then (if 1 ≤ x.ids.length ∧ x.ids.length ≤ 5 then idsF [] x.ids else 2) else 3
def noChain : DChain := ⟨0, []⟩
def badChain (c : Int) : DChainResult := ⟨c, noChain⟩
def upToC (n : Nat) : List Int := (List.range n).map fun (k : Nat) => (k : Int) + 1
def newChainR (n : Int) : DChainResult := if 1 ≤ n ∧ n ≤ 5 then ⟨0, ⟨1, upToC n.toNat⟩⟩ else badChain 3
/-- Who stands by behind id; 0: nobody. -/
def nextC (ids : List Int) (id : Int) (d : Int) : Int :=
  if placeC ids id < 0 ∨ placeC ids id + d < 0 ∨ (ids.length : Int) ≤ placeC ids id + d then 0 else ids.getD (placeC ids id + d).toNat 0
def besideR (x : DChain) (id d : Int) : DIntResult :=
  if chainFault x = 0 then
    if placeC x.ids id < 0 then ⟨4, 0⟩ else if nextC x.ids id d = 0 then ⟨8, 0⟩ else ⟨0, nextC x.ids id d⟩
  else ⟨chainFault x, 0⟩
def cutCh (x : DChain) (id : Int) : DChain := ⟨x.epoch + 1, x.ids.filter fun z => z != id⟩
def cutR (x : DChain) (id : Int) : DChainResult :=
  if chainFault x = 0 then
    if placeC x.ids id < 0 then badChain 4 else if x.ids.length = 1 then badChain 8 else if 999 ≤ x.epoch then badChain 2 else ⟨0, cutCh x id⟩
  else badChain (chainFault x)
def joinCh (x : DChain) (id : Int) : DChain := ⟨x.epoch + 1, x.ids ++ [id]⟩
def joinR (x : DChain) (id : Int) : DChainResult :=
  if chainFault x = 0 then
    if 1 ≤ id ∧ id ≤ 5 then (if 0 ≤ placeC x.ids id then badChain 6 else if 999 ≤ x.epoch then badChain 2 else ⟨0, joinCh x id⟩) else badChain 3
  else badChain (chainFault x)

theorem atC_le (ids : List Int) (id : Int) : atC ids id ≤ ids.length := List.findIdx_le_length
theorem placeC_bd (ids : List Int) (id : Int) : -1 ≤ placeC ids id ∧ placeC ids id < ids.length + 1 := by
  unfold placeC
  split <;> omega
theorem placeC_neg (ids : List Int) (id : Int) : placeC ids id < 0 ↔ id ∉ ids := by
  unfold placeC atC
  have h := List.findIdx_lt_length (p := fun z => z == id) (xs := ids)
  constructor
  · intro h1 hm
    rw [if_pos (h.2 ⟨id, hm, by simp⟩)] at h1
    omega
  · intro h1
    rw [if_neg]
    · omega
    · intro h2
      obtain ⟨z, hz, e⟩ := h.1 h2
      rw [beq_iff_eq] at e
      rw [e] at hz
      exact h1 hz
/-- No one of the first k is id, and the k-th is. -/
theorem placeC_at {ids : List Int} {id : Int} {k : Nat} (hk : k < ids.length) (h : ids[k] = id) (hb : ∀ j (hj : j < k), ids[j] ≠ id) : placeC ids id = (k : Int) := by
  have e : atC ids id = k := by
    unfold atC
    rw [List.findIdx_eq hk]
    exact ⟨by simpa using h, fun j hj => by simpa using hb j hj⟩
  rw [placeC, e, if_pos hk]
theorem placeC_none {ids : List Int} {id : Int} (hb : ∀ j (hj : j < ids.length), ids[j] ≠ id) : placeC ids id = -1 := by
  have h1 : placeC ids id < 0 := by
    rw [placeC_neg]
    intro hm
    obtain ⟨j, hj, e⟩ := List.getElem_of_mem hm
    exact hb j hj e
  have := placeC_bd ids id
  omega
theorem placeC_get {ids : List Int} {id : Int} (h : 0 ≤ placeC ids id) : ∃ (k : Nat) (hk : k < ids.length), placeC ids id = (k : Int) ∧ ids[k] = id ∧ ∀ j (hj : j < k), ids[j] ≠ id := by
  have hl : atC ids id < ids.length := by
    unfold placeC at h
    split at h
    · assumption
    · omega
  refine ⟨atC ids id, hl, by rw [placeC, if_pos hl], ?_, fun j hj => ?_⟩
  · have := List.findIdx_getElem (xs := ids) (p := fun z => z == id) (w := hl)
    exact beq_iff_eq.1 this
  · have := List.not_of_lt_findIdx (xs := ids) (p := fun z => z == id) hj
    simpa using this
theorem idsF_vals : ∀ (zs pre : List Int), 0 ≤ idsF pre zs ∧ idsF pre zs ≤ 6
  | [], _ => by simp [idsF]
  | z :: zs, pre => by
    rw [idsF]
    split
    · split
      · omega
      · exact idsF_vals zs _
    · omega
theorem chainFault_vals (x : DChain) : 0 ≤ chainFault x ∧ chainFault x ≤ 6 := by
  have := idsF_vals x.ids []
  unfold chainFault
  split
  · split <;> omega
  · omega
theorem chainFault_bd (x : DChain) : -1000000000 ≤ chainFault x ∧ chainFault x ≤ 1000000000 := by have := chainFault_vals x; omega
/-- From the k-th on: the loop's own spelling. -/
theorem idsF_step (ids : List Int) (k : Nat) (hk : k < ids.length) : idsF (ids.take k) (ids.drop k) = if 1 ≤ ids[k] ∧ ids[k] ≤ 5 then (if ids[k] ∈ ids.take k then 6 else idsF (ids.take (k + 1)) (ids.drop (k + 1))) else 3 := by
  conv => lhs; rw [List.drop_eq_getElem_cons hk, idsF]
  rw [List.take_succ_eq_append_getElem hk]
theorem idsF_end (ids : List Int) : idsF (ids.take ids.length) (ids.drop ids.length) = 0 := by simp [idsF]
/-- The k-th id stands first at k just if it isn't among those ahead. -/
theorem placeC_self {ids : List Int} {k : Nat} (hk : k < ids.length) : (placeC ids ids[k] = (k : Int)) ↔ ids[k] ∉ ids.take k := by
  constructor
  · intro h hm
    obtain ⟨j, hj, e⟩ := List.getElem_of_mem hm
    rw [List.length_take] at hj
    rw [List.getElem_take] at e
    obtain ⟨m, hm1, h1, h2, h3⟩ := placeC_get (ids := ids) (id := ids[k]) (by omega)
    obtain rfl : m = k := by omega
    exact h3 j (by omega) e
  · intro h
    refine placeC_at hk rfl fun j hj e => h ?_
    rw [List.mem_iff_getElem]
    exact ⟨j, by rw [List.length_take]; omega, by rw [List.getElem_take]; exact e⟩
/-- A chain without a fault. -/
structure ChainOK (x : DChain) : Prop where
  epoch : 1 ≤ x.epoch ∧ x.epoch ≤ 999
  len : 1 ≤ x.ids.length ∧ x.ids.length ≤ 5
  ids : ∀ z ∈ x.ids, 1 ≤ z ∧ z ≤ 5
  nodup : x.ids.Nodup
theorem idsF_zero : ∀ (zs pre : List Int), idsF pre zs = 0 → (∀ z ∈ zs, 1 ≤ z ∧ z ≤ 5) ∧ zs.Nodup ∧ ∀ z ∈ zs, z ∉ pre
  | [], _, _ => by simp
  | z :: zs, pre, h => by
    rw [idsF] at h
    split at h
    · rename_i h1
      split at h
      · simp at h
      · rename_i h2
        obtain ⟨q1, q2, q3⟩ := idsF_zero zs _ h
        refine ⟨?_, ?_, ?_⟩
        · intro u hu
          rcases List.mem_cons.1 hu with rfl | hu
          · exact h1
          · exact q1 u hu
        · refine List.nodup_cons.2 ⟨fun hm => q3 z hm (by simp), q2⟩
        · intro u hu hp
          rcases List.mem_cons.1 hu with rfl | hu
          · exact h2 hp
          · exact q3 u hu (List.mem_append_left _ hp)
    · simp at h
theorem idsF_ok : ∀ (zs pre : List Int), (∀ z ∈ zs, 1 ≤ z ∧ z ≤ 5) → zs.Nodup → (∀ z ∈ zs, z ∉ pre) → idsF pre zs = 0
  | [], _, _, _, _ => by simp [idsF]
  | z :: zs, pre, h1, h2, h3 => by
    rw [idsF, if_pos (h1 z (by simp)), if_neg (h3 z (by simp))]
    obtain ⟨n1, n2⟩ := List.nodup_cons.1 h2
    refine idsF_ok zs _ (fun u hu => h1 u (List.mem_cons_of_mem _ hu)) n2 fun u hu hp => ?_
    rcases List.mem_append.1 hp with hp | hp
    · exact h3 u (List.mem_cons_of_mem _ hu) hp
    · rw [List.mem_singleton.1 hp] at hu
      exact n1 hu
theorem chainFault_zero {x : DChain} (h : chainFault x = 0) : ChainOK x := by
  unfold chainFault at h
  split at h
  · rename_i h1
    split at h
    · rename_i h2
      obtain ⟨q1, q2, -⟩ := idsF_zero _ _ h
      exact ⟨h1, h2, q1, q2⟩
    · simp at h
  · simp at h
theorem ChainOK.fault {x : DChain} (h : ChainOK x) : chainFault x = 0 := by
  rw [chainFault, if_pos h.epoch, if_pos h.len]
  exact idsF_ok _ _ h.ids h.nodup (by simp)
theorem upToC_len (n : Nat) : (upToC n).length = n := by simp [upToC]
theorem upToC_succ (n : Nat) : upToC (n + 1) = upToC n ++ [(n : Int) + 1] := by simp [upToC, List.range_succ]
theorem upToC_bd {n : Nat} {z : Int} (h : z ∈ upToC n) : 1 ≤ z ∧ z ≤ n := by
  simp only [upToC, List.mem_map, List.mem_range] at h
  obtain ⟨k, hk, rfl⟩ := h
  omega
theorem besideR_bad {x : DChain} {id d : Int} (h : chainFault x ≠ 0) : besideR x id d = ⟨chainFault x, 0⟩ := by rw [besideR, if_neg h]
theorem cutR_bad {x : DChain} {id : Int} (h : chainFault x ≠ 0) : cutR x id = badChain (chainFault x) := by rw [cutR, if_neg h]
theorem joinR_bad {x : DChain} {id : Int} (h : chainFault x ≠ 0) : joinR x id = badChain (chainFault x) := by rw [joinR, if_neg h]
end Go.Proofs.YtceoaphcjnfphaaDoor

namespace Go.Proofs.YtceoaphcjnfphaaDoor
open Go.RowKit

theorem vcnt_Chain (x : DChain) : Lay.tChain.vcnt x = (Lay.sl Lay.int).vcnt x.ids := by
  show 0 + ((Lay.sl Lay.int).vcnt x.ids) = (Lay.sl Lay.int).vcnt x.ids
  omega
theorem mkv_Chain (k : Int) (x : DChain) : Lay.tChain.mkv k x = ⟨x.epoch, (Lay.sl Lay.int).mkv (k) x.ids⟩ := by
  simp [Lay.tChain, Lay.via, Lay.pair, Lay.int]
theorem own_Chain {w : World} {cs : List Value} {x : DChain} {bl : List Nat} (h : Lay.tChain.Own w cs x bl) : ∃ (a1 : Option Addr) (d1 : Nat) (g1 : List Nat), cs = [.int .i64 x.epoch, .slice a1 x.ids.length d1] ∧ bl = g1 ∧ (Lay.sl Lay.int).Own w [.slice a1 x.ids.length d1] x.ids g1 ∧ (Lit.int .i64 x.epoch).wf = true := by
  obtain ⟨hl, hn, hf⟩ := h
  obtain ⟨a1, d1, b1, rfl, hbl, w0, l1⟩ := lies_Chain.1 hl
  rw [hbl] at hn hf
  exact ⟨a1, d1, b1, rfl, hbl, ⟨l1, hn, hf⟩, w0⟩
theorem mkOwn_Chain {w : World} {x : DChain} {c1 : List Value} {g1 : List Nat} (O1 : (Lay.sl Lay.int).Own w c1 x.ids g1) (v0 : (Lit.int .i64 x.epoch).wf = true) (hn : (g1).Nodup) : Lay.tChain.Own w ([.int .i64 x.epoch] ++ c1) x (g1) := by
  refine ⟨⟨[.int .i64 x.epoch], c1, [], g1, rfl, by simp, ⟨rfl, v0, rfl⟩, O1.1⟩, hn, ?_⟩
  intro b hb o
  exact O1.2.2 b hb o

end Go.Proofs.YtceoaphcjnfphaaDoor

namespace Go.Proofs.YtceoaphcjnfphaaDoor
open Go.RowKit

theorem vcnt_ChainResult (x : DChainResult) : Lay.tChainResult.vcnt x = Lay.tChain.vcnt x.chain := by
  show 0 + (Lay.tChain.vcnt x.chain) = Lay.tChain.vcnt x.chain
  omega
theorem mkv_ChainResult (k : Int) (x : DChainResult) : Lay.tChainResult.mkv k x = ⟨x.code, Lay.tChain.mkv (k) x.chain⟩ := by
  simp [Lay.tChainResult, Lay.via, Lay.pair, Lay.int]
theorem own_ChainResult {w : World} {cs : List Value} {x : DChainResult} {bl : List Nat} (h : Lay.tChainResult.Own w cs x bl) : ∃ (a2 : Option Addr) (d2 : Nat) (g1 : List Nat), cs = [.int .i64 x.code, .int .i64 x.chain.epoch, .slice a2 x.chain.ids.length d2] ∧ bl = g1 ∧ Lay.tChain.Own w [.int .i64 x.chain.epoch, .slice a2 x.chain.ids.length d2] x.chain g1 ∧ (Lit.int .i64 x.code).wf = true := by
  obtain ⟨hl, hn, hf⟩ := h
  obtain ⟨a2, d2, b2, rfl, hbl, w0, w1, l2⟩ := lies_ChainResult.1 hl
  rw [hbl] at hn hf
  exact ⟨a2, d2, b2, rfl, hbl, ⟨lies_Chain.2 ⟨a2, d2, b2, rfl, rfl, w1, l2⟩, hn, hf⟩, w0⟩
theorem mkOwn_ChainResult {w : World} {x : DChainResult} {c1 : List Value} {g1 : List Nat} (O1 : Lay.tChain.Own w c1 x.chain g1) (v0 : (Lit.int .i64 x.code).wf = true) (hn : (g1).Nodup) : Lay.tChainResult.Own w ([.int .i64 x.code] ++ c1) x (g1) := by
  refine ⟨⟨[.int .i64 x.code], c1, [], g1, rfl, by simp, ⟨rfl, v0, rfl⟩, O1.1⟩, hn, ?_⟩
  intro b hb o
  exact O1.2.2 b hb o

end Go.Proofs.YtceoaphcjnfphaaDoor

namespace Go.Proofs.YtceoaphcjnfphaaDoor
open Go.RowKit

theorem lies_store {α : Type} {A : Lay α} {w w4 : World} {cs vs : List Value} {y : α} {lo hi : Nat} (h : A.LiesIn w4 cs y lo hi) (hlo : w.heap.size < lo) (hhi : hi ≤ w4.heap.size) :
    A.LiesIn (setAll w4 w.heap.size 0 vs) cs y w.heap.size (setAll w4 w.heap.size 0 vs).heap.size := by
  rw [size_setAll]
  exact (h.ext (ext_setAll (fun q => q = w.heap.size) (Ext.refl _ _) _ _ _ rfl) (fun q h1 h2 h3 => by omega)).mono (by omega) hhi
theorem own_store {α : Type} {A : Lay α} {w w4 : World} {cs vs : List Value} {y : α} {lo hi : Nat} (h : A.OwnIn w4 cs y lo hi) (hlo : w.heap.size < lo) (hhi : hi ≤ w4.heap.size) :
    A.OwnIn (setAll w4 w.heap.size 0 vs) cs y w.heap.size (setAll w4 w.heap.size 0 vs).heap.size := by
  rw [size_setAll]
  exact (h.ext (ext_setAll (fun q => q = w.heap.size) (Ext.refl _ _) _ _ _ rfl) (fun q h1 h2 h3 => by omega)).mono (by omega) hhi

/-- The block s alone may turn, and it is none of those that the answer lies in. -/
theorem lies_store' {α : Type} {A : Lay α} {w4 : World} {s : Nat} {cs vs : List Value} {y : α} {lo hi : Nat} (h : A.LiesIn w4 cs y lo hi) (hs : s < lo) : A.LiesIn (setAll w4 s 0 vs) cs y lo hi :=
  h.ext (ext_setAll (fun q => q = s) (Ext.refl _ _) _ _ _ rfl) (fun q h1 h2 h3 => by omega)
theorem own_store' {α : Type} {A : Lay α} {w4 : World} {s : Nat} {cs vs : List Value} {y : α} {lo hi : Nat} (h : A.OwnIn w4 cs y lo hi) (hs : s < lo) : A.OwnIn (setAll w4 s 0 vs) cs y lo hi :=
  h.ext (ext_setAll (fun q => q = s) (Ext.refl _ _) _ _ _ rfl) (fun q h1 h2 h3 => by omega)

theorem nil_own {α : Type} {A : Lay α} {w : World} {lo hi : Nat} : (Lay.sl A).OwnIn w [.slice none 0 0] [] lo hi := ⟨[], ⟨⟨none, 0, rfl, by simp, Or.inl ⟨rfl, rfl⟩⟩, by simp, by simp⟩, by simp⟩

end Go.Proofs.YtceoaphcjnfphaaDoor

namespace Go.Proofs.YtceoaphcjnfphaaDoor
open Go.RowKit

theorem int_cell {w : World} {b off cap k : Nat} {zs : List Int} (h : (Lay.sl Lay.int).Reads w [.slice (some ⟨b, off, none⟩) zs.length cap] zs) (hk : k < zs.length) : w.cell? ⟨b, off + k, none⟩ = some (.int .i64 zs[k]) := by
  obtain ⟨bl, h⟩ := h
  obtain ⟨ao, cp, e, -, -, h⟩ := Lay.lies_ints.1 h
  simp only [Value.slice.injEq] at e
  obtain ⟨rfl, -, rfl⟩ := e
  rcases h with ⟨rfl, -⟩ | ⟨b', off', e2, -, -, hj⟩
  · simp at hk
  · simp only [Option.some.injEq, Addr.mk.injEq, and_true] at e2
    obtain ⟨rfl, rfl⟩ := e2
    rw [hj k hk]
    simp [List.getD, hk]
theorem int_wf {w : World} {v : Value} {zs : List Int} (h : (Lay.sl Lay.int).Reads w [v] zs) : ∀ z ∈ zs, (Lit.int .i64 z).wf = true := (Lay.ints_reads h).wf
theorem own_chainR {w : World} {c : Int} {v : Value} {x : DChain} {lo hi : Nat} (hc : (Lit.int .i64 c).wf = true) (he : (Lit.int .i64 x.epoch).wf = true) (h : (Lay.sl Lay.int).OwnIn w [v] x.ids lo hi) : Lay.tChainResult.OwnIn w [.int .i64 c, .int .i64 x.epoch, v] ⟨c, x⟩ lo hi := by
  obtain ⟨bl, O, i⟩ := h
  exact ⟨bl, mkOwn_ChainResult (x := ⟨c, x⟩) (mkOwn_Chain O he O.2.1) hc O.2.1, i⟩
theorem lies_chainR {w : World} {c : Int} {a : Option Addr} {m d : Nat} {x : DChain} {lo hi : Nat} (hc : (Lit.int .i64 c).wf = true) (he : (Lit.int .i64 x.epoch).wf = true) (h : (Lay.sl Lay.int).LiesIn w [.slice a m d] x.ids lo hi) : Lay.tChainResult.LiesIn w [.int .i64 c, .int .i64 x.epoch, .slice a m d] ⟨c, x⟩ lo hi := by
  obtain ⟨bl, l, i⟩ := h
  have hm : m = x.ids.length := (Lay.Reads.cap ⟨bl, l⟩).1
  subst hm
  exact ⟨bl, lies_ChainResult.2 ⟨a, d, bl, rfl, rfl, hc, he, l⟩, i⟩
theorem own_badChain {w : World} {c : Int} {lo hi : Nat} (hc : -1000000000 ≤ c ∧ c ≤ 1000000000) : Lay.tChainResult.OwnIn w [.int .i64 c, .int .i64 0, .slice none 0 0] (badChain c) lo hi := own_chainR (x := noChain) (wf_of_bd hc) (by decide) nil_own
theorem own_intRC {w : World} {c n : Int} {lo hi : Nat} (hc : (Lit.int .i64 c).wf = true) (hn : (Lit.int .i64 n).wf = true) : Lay.tIntResult.OwnIn w [.int .i64 c, .int .i64 n] ⟨c, n⟩ lo hi :=
  ⟨[], ⟨lies_IntResult.2 ⟨rfl, rfl, hc, hn⟩, by simp, by simp⟩, by simp⟩
end Go.Proofs.YtceoaphcjnfphaaDoor

namespace Go.Proofs.YtceoaphcjnfphaaDoor
open Go.RowKit

/-- The slice of bytes cv lies below block B. -/
def IsCode (B : Nat) (w : World) (cv : Value) : Prop :=
  ∃ ao len cap, cv = .slice ao len cap ∧ len ≤ 1048576 ∧
    (0 < len → ∃ b off, ao = some ⟨b, off, none⟩ ∧ b < B ∧ ∀ j, j < len → ∃ z : Int, w.cell? ⟨b, off + j, none⟩ = some (.int .u8 z) ∧ 0 ≤ z ∧ z ≤ 255)

theorem IsCode.later {B : Nat} {w w' : World} {cv : Value} (h : IsCode B w cv) (hb : Below B w w') : IsCode B w' cv := by
  obtain ⟨ao, len, cap, rfl, hl, hc⟩ := h
  refine ⟨ao, len, cap, rfl, hl, fun hp => ?_⟩
  obtain ⟨b, off, hao, hB, hc1⟩ := hc hp
  refine ⟨b, off, hao, hB, fun j hj => ?_⟩
  obtain ⟨z, h1, h2⟩ := hc1 j hj
  exact ⟨z, (hb.cell (p := ⟨b, off + j, none⟩) hB).trans h1, h2⟩

/-- The source in block b: its code, and how many numbers have been drawn. -/
def SrcAt (w : World) (b : Nat) (cv : Value) (m : Nat) : Prop := w.heap[b]? = some (.cells #[cv, .int .i64 m] 82 (0, 0))

theorem SrcAt.c0 {w : World} {b m : Nat} {cv : Value} (h : SrcAt w b cv m) : w.cell? ⟨b, 0, none⟩ = some cv := by simp [World.cell?, show w.heap[b]? = _ from h]
theorem SrcAt.c1 {w : World} {b m : Nat} {cv : Value} (h : SrcAt w b cv m) : w.cell? ⟨b, 1, none⟩ = some (.int .i64 m) := by simp [World.cell?, show w.heap[b]? = _ from h]
theorem SrcAt.fz {w : World} {b m : Nat} {cv : Value} (h : SrcAt w b cv m) (o : Nat) : w.frozen? ⟨b, o, none⟩ = false := by simp [World.frozen?, show w.heap[b]? = _ from h]
theorem SrcAt.lt {w : World} {b m : Nat} {cv : Value} (h : SrcAt w b cv m) : b < w.heap.size := lt_of_block h
theorem SrcAt.set {w : World} {b m : Nat} {cv : Value} (h : SrcAt w b cv m) : SrcAt (w.setCell ⟨b, 1, none⟩ (.int .i64 ((m : Int) + 1))) b cv (m + 1) :=
  heap_setCell_same w b 1 #[cv, .int .i64 m] 82 (.int .i64 ((m : Int) + 1)) h
theorem grown_set (w : World) (b o : Nat) (u : Value) : w.grownBy (w.setCell ⟨b, o, none⟩ u) (some b) :=
  ⟨rfl, rfl, rfl, by simp, fun k _ hk => heap_setCell_other w ⟨b, o, none⟩ k u (fun e => hk (by simp [e]))⟩
theorem grown_drawn {a w : World} {r : Option Nat} (h : a.grownBy w r) (n : Nat) : a.grownBy (w.drewN n) r := ⟨h.os, h.tape, h.output, h.size, h.block⟩

theorem below_of_grown {w w' : World} {b : Nat} (h : w.grownBy w' (some b)) (hb : b ≤ w.heap.size) : Below b w w' :=
  (Below.refl b w).grown h hb (fun k hk => by simp at hk; omega)

set_option maxHeartbeats 400000 in
theorem next_low (b m : Nat) (cv : Value) (n : Int) (w : World) (hs : SrcAt w b cv m) (hm : m ≤ 1000000000) (hn : n < 1) :
    Calls Tryd.prog 53 #[.pointer (some ⟨b, 0, none⟩), .int .i64 n] w fun e w' => e = .returned (.int .i64 0) ∧ SrcAt w' b cv (m + 1) ∧ w.grownBy w' (some b) := by
  have c1 := hs.c1
  have fz := hs.fz
  have HS := hide hs.set
  clear hs
  go_enter Tryd.func53, Tryd.ntmps53
  go_wp2
  go_ret
  exact ⟨rfl, unhide HS, grown_set _ _ _ _⟩

set_option maxHeartbeats 400000 in
theorem next_empty (b m : Nat) (ao : Option Addr) (cap : Nat) (n : Int) (w : World) (hs : SrcAt w b (.slice ao 0 cap) m) (hm : m ≤ 1000000000) (hn : 1 ≤ n) :
    Calls Tryd.prog 53 #[.pointer (some ⟨b, 0, none⟩), .int .i64 n] w fun e w' => ∃ r : Int, e = .returned (.int .i64 r) ∧ (0 ≤ r ∧ r < n) ∧ SrcAt w' b (.slice ao 0 cap) (m + 1) ∧ w.grownBy w' (some b) := by
  have c0 := hs.c0
  have c1 := hs.c1
  have fz := hs.fz
  have HS := hide hs.set
  clear hs
  have hd : (n == 0) = false := by rw [beq_eq_false_iff_ne]; omega
  go_enter Tryd.func53, Tryd.ntmps53
  go_wp2
  go_ret
  exact ⟨_, rfl, ⟨Int.emod_nonneg _ (by omega), Int.emod_lt_of_pos _ (by omega)⟩, unhide HS, grown_set _ _ _ _⟩

theorem quot_bd (m k : Nat) (hm : m ≤ 1000000000) : 0 ≤ (m : Int) / (k : Int) ∧ (m : Int) / (k : Int) ≤ 1000000000 := by
  refine ⟨Int.ediv_nonneg (by omega) (by omega), ?_⟩
  have := Int.ediv_le_self (a := (m : Int)) (k : Int) (by omega)
  omega

set_option maxHeartbeats 1000000 in
theorem next_some (b m cb off k cap : Nat) (n : Int) (w : World) (hs : SrcAt w b (.slice (some ⟨cb, off, none⟩) k cap) m) (hm : m ≤ 1000000000) (hn : 1 ≤ n) (hn2 : n ≤ 200) (hk : 0 < k) (hk2 : k ≤ 1048576) (hcb : cb < b)
    (hc : ∀ j, j < k → ∃ z : Int, w.cell? ⟨cb, off + j, none⟩ = some (.int .u8 z) ∧ 0 ≤ z ∧ z ≤ 255) :
    Calls Tryd.prog 53 #[.pointer (some ⟨b, 0, none⟩), .int .i64 n] w fun e w' => ∃ r : Int, e = .returned (.int .i64 r) ∧ (0 ≤ r ∧ r < n) ∧ SrcAt w' b (.slice (some ⟨cb, off, none⟩) k cap) (m + 1) ∧ w.grownBy w' (some b) := by
  have c0 := hs.c0
  have c1 := hs.c1
  have fz := hs.fz
  have HS := hide hs.set
  clear hs
  obtain ⟨z, hz, z1, z2⟩ := hc (m % k) (Nat.mod_lt _ hk)
  obtain ⟨q1, q2⟩ := quot_bd m k hm
  have hd : (n == 0) = false := by rw [beq_eq_false_iff_ne]; omega
  have hd2 : ((k : Int) == 0) = false := by rw [beq_eq_false_iff_ne]; omega
  have hne : ¬ cb = b := by omega
  have hne2 : ¬ b = cb := by omega
  have r1 : 0 ≤ (m : Int) % (k : Int) := Int.emod_nonneg _ (by omega)
  have r2 : (m : Int) % (k : Int) < (k : Int) := Int.emod_lt_of_pos _ (by omega)
  clear hc
  go_enter Tryd.func53, Tryd.ntmps53
  go_wp2
  go_quiet (fail)
  go_wp2
  go_ret
  exact ⟨_, rfl, ⟨Int.emod_nonneg _ (by omega), Int.emod_lt_of_pos _ (by omega)⟩, unhide HS, grown_drawn (grown_set _ _ _ _) _⟩

/-- l1Next: a number below n. -/
theorem next (b m : Nat) (cv : Value) (n : Int) (w : World) (hs : SrcAt w b cv m) (hc : IsCode b w cv) (hm : m ≤ 1000000000) (hn : 1 ≤ n) (hn2 : n ≤ 200) :
    Calls Tryd.prog 53 #[.pointer (some ⟨b, 0, none⟩), .int .i64 n] w fun e w' => ∃ r : Nat, e = .returned (.int .i64 r) ∧ (r : Int) < n ∧ SrcAt w' b cv (m + 1) ∧ IsCode b w' cv ∧ w.grownBy w' (some b) := by
  have fin : ∀ (e : Ending) (w' : World), (∃ r : Int, e = .returned (.int .i64 r) ∧ (0 ≤ r ∧ r < n) ∧ SrcAt w' b cv (m + 1) ∧ w.grownBy w' (some b)) → ∃ r : Nat, e = .returned (.int .i64 r) ∧ (r : Int) < n ∧ SrcAt w' b cv (m + 1) ∧ IsCode b w' cv ∧ w.grownBy w' (some b) := by
    rintro e w' ⟨r, rfl, ⟨h1, h2⟩, h3, h4⟩
    obtain ⟨j, rfl⟩ := Int.eq_ofNat_of_zero_le h1
    exact ⟨j, rfl, h2, h3, hc.later (below_of_grown h4 (Nat.le_of_lt hs.lt)), h4⟩
  obtain ⟨ao, len, cap, rfl, hl, hc1⟩ := hc
  by_cases hp : 0 < len
  · obtain ⟨cb, off, rfl, hB, hc2⟩ := hc1 hp
    exact (next_some b m cb off len cap n w hs hm hn hn2 hp hl hB hc2).mono fin
  · obtain rfl : len = 0 := by omega
    exact (next_empty b m ao cap n w hs hm hn).mono fin

set_option maxHeartbeats 400000 in
/-- l1Pick: one of the list. -/
theorem pick (b m g : Nat) (cv : Value) (zs : List Int) (w : World) (hs : SrcAt w b cv m) (hc : IsCode b w cv) (hm : m ≤ 1000000000) (hl : 1 ≤ zs.length) (hl2 : zs.length ≤ 200) (hg : w.heap[g]? = some (.cells (zs.map (Value.int .i64)).toArray 2 (0, 0))) (hne : g ≠ b) :
    Calls Tryd.prog 41 #[.pointer (some ⟨b, 0, none⟩), .slice (some ⟨g, 0, none⟩) zs.length zs.length] w fun e w' => ∃ r : Int, e = .returned (.int .i64 r) ∧ r ∈ zs ∧ SrcAt w' b cv (m + 1) ∧ IsCode b w' cv ∧ w.grownBy w' (some b) := by
  go_enter Tryd.func41, Tryd.ntmps41
  go_wp2_with fail
  refine (next b m cv zs.length w hs hc hm (by omega) (by omega)).mono ?_
  rintro e w1 ⟨r, rfl, hr, hs1, hc1, hgr⟩
  have hr' : r < zs.length := by omega
  have hcell : w1.cell? ⟨g, r, none⟩ = some (.int .i64 (zs.getD r 0)) := by
    have h1 : w1.heap[g]? = w.heap[g]? := hgr.block g (lt_of_block hg) (by simpa using hne)
    rw [cell_of_row w1 g r _ _ _ (h1.trans hg)]
    simp [List.getD, hr']
  have HS := hide hs1
  have HC := hide hc1
  have HG := hide hgr
  have HR : Hid (zs.getD r 0 ∈ zs) := by
    have e : zs.getD r 0 = zs[r] := by simp [List.getD, hr']
    show zs.getD r 0 ∈ zs
    rw [e]
    exact List.getElem_mem hr'
  generalize zs.getD r 0 = x at *
  clear hs hc hs1 hc1 hgr hg
  go_wp2
  go_ret
  exact ⟨x, rfl, unhide HR, unhide HS, unhide HC, unhide HG⟩

end Go.Proofs.YtceoaphcjnfphaaDoor

namespace Go.Proofs.YtceoaphcjnfphaaDoor
open Go.RowKit

/-- Growth behind growth: what else is written is new. -/
theorem grown_new {a b c : World} {s r : Option Nat} (h : a.grownBy b s) (k : b.grownBy c r) (hr : ∀ j, r = some j → a.heap.size ≤ j) : a.grownBy c s :=
  ⟨k.os.trans h.os, k.tape.trans h.tape, k.output.trans h.output, Nat.le_trans h.size k.size, fun i hi hs => (k.block i (Nat.lt_of_lt_of_le hi h.size) (fun e => by have := hr i e.symm; omega)).trans (h.block i hi hs)⟩

theorem SrcAt.keep {w w' : World} {b m : Nat} {cv : Value} {r : Option Nat} (h : SrcAt w b cv m) (hg : w.grownBy w' r) (hr : some b ≠ r) : SrcAt w' b cv m := (hg.block b h.lt hr).trans h
theorem SrcAt.alloc {w : World} {b m : Nat} {cv : Value} (h : SrcAt w b cv m) (o : Obj) : SrcAt (w.alloc o) b cv m := (Below.heap_alloc w o b h.lt).trans h
theorem IsCode.alloc {w : World} {b : Nat} {cv : Value} (h : IsCode b w cv) (hb : b ≤ w.heap.size) (o : Obj) : IsCode b (w.alloc o) cv := h.later ((Below.refl _ _).alloc hb o)

theorem own_ne {W : World} {b0 b T sz : Nat} {u : Value} {n : Nat} {xs : List Value} (h : W.ownsRow b0 T sz u n xs) (hb : b < b0) : u.ownBlock ≠ some b := fun e => by have := (h.lt b e).1; omega

end Go.Proofs.YtceoaphcjnfphaaDoor

namespace Go.Proofs.YtceoaphcjnfphaaDoor
open Go.RowKit

theorem source (ao : Option Addr) (len cap : Nat) (w : World) :
    Calls Tryd.prog 39 #[.slice ao len cap] w fun e w' => e = .returned (.pointer (some ⟨w.heap.size, 0, none⟩)) ∧ w.alloc (.cells #[.slice ao len cap, .int .i64 0] 82) = w' := by
  go_enter Tryd.func39, Tryd.ntmps39
  go_wp2
  go_ret
  exact ⟨rfl, rfl⟩

theorem src_new (w : World) (cv : Value) : SrcAt (w.alloc (.cells #[cv, .int .i64 0] 82)) w.heap.size cv 0 := heap_alloc_new w _

/-- What a row's reading tells of a slice of bytes that came in. -/
theorem isCode_of_row {w : World} {a : Option Addr} {len cap : Nat} {zs : List Int} (h : (a = none ∧ len = 0 ∧ cap = 0 ∧ zs = []) ∨
    ∃ x, a = some x ∧ len ≤ cap ∧ cap ≤ maxLen ∧ zs.length = cap ∧ (∀ i, i < zs.length → w.cell? (x.add i) = some (.int .u8 (zs.getD i 0))) ∧ ∀ n ∈ zs, (Lit.int .u8 n).wf = true) (hn : len ≤ 1048576) :
    IsCode w.heap.size w (.slice a len cap) := by
  refine ⟨a, len, cap, rfl, hn, fun hp => ?_⟩
  rcases h with ⟨rfl, rfl, rfl, rfl⟩ | ⟨x, rfl, hl, hm, hz, hcell, hwz⟩
  · omega
  · obtain ⟨b, off, spot⟩ := x
    have hc := hcell 0 (by omega)
    have hspot : spot = none := by simpa [Addr.add] using World.cell?_spot hc
    subst hspot
    refine ⟨b, off, rfl, by simpa [Addr.add] using World.block_lt_of_cell? _ _ hc, fun j hj => ⟨zs.getD j 0, ?_, ?_⟩⟩
    · have h1 := hcell j (by omega)
      rwa [Addr.add_lit] at h1
    · have h1 := hwz (zs.getD j 0) (by simp [List.getD, show j < zs.length by omega])
      simpa [Lit.wf, IntKind.min, IntKind.max, IntKind.signed, IntKind.bits] using h1

end Go.Proofs.YtceoaphcjnfphaaDoor

namespace Go.Proofs.YtceoaphcjnfphaaDoor
open Go.RowKit

theorem grown_onW {a b c : World} {s : Option Nat} (h : a.grownBy b s) (k : Below b.heap.size b c) : a.grownBy c s :=
  ⟨k.os.trans h.os, k.tape.trans h.tape, k.output.trans h.output, Nat.le_trans h.size k.size, fun i hi hn => (k.block i (Nat.lt_of_lt_of_le hi h.size)).trans (h.block i hi hn)⟩
theorem SrcAt.onW {w w' : World} {b m : Nat} {cv : Value} (h : SrcAt w b cv m) (hb : Below w.heap.size w w') : SrcAt w' b cv m := (hb.block b h.lt).trans h
theorem IsCode.onW {B : Nat} {w w' : World} {cv : Value} (h : IsCode B w cv) (hB : B ≤ w.heap.size) (hb : Below w.heap.size w w') : IsCode B w' cv := h.later (hb.mono hB)
theorem ext_grown {w w' : World} {b : Nat} (h : w.grownBy w' (some b)) : Ext (fun q => q = b) w w' := ⟨h.os, h.tape, h.output, h.size, fun k hk hn => h.block k hk (fun e => hn (Option.some.inj e))⟩
theorem grown_ext {w w' : World} {b : Nat} (e : Ext (fun q => q = b) w w') : w.grownBy w' (some b) := ⟨e.os, e.tape, e.output, e.size, fun i hi hn => e.block i hi fun h => hn (by rw [h])⟩
theorem SrcAt.extW {S : Nat → Prop} {w w' : World} {b m : Nat} {cv : Value} (h : SrcAt w b cv m) (e : Ext S w w') (hb : ¬ S b) : SrcAt w' b cv m := (e.block b h.lt hb).trans h
theorem IsCode.extW {S : Nat → Prop} {B : Nat} {w w' : World} {cv : Value} (h : IsCode B w cv) (hB : B ≤ w.heap.size) (e : Ext S w w') (hs : ∀ k, k < B → ¬ S k) : IsCode B w' cv := h.later (e.below hB hs)
end Go.Proofs.YtceoaphcjnfphaaDoor

namespace Go.Proofs.YtceoaphcjnfphaaDoor
open Go.RowKit

theorem own_extC {S : Nat → Prop} {w w' : World} {base T sz : Nat} {v : Value} {n : Nat} {xs : List Value} (h : w.ownsRow base T sz v n xs) (e : Ext S w w') (hs : ∀ c, v.ownBlock = some c → ¬ S c) : w'.ownsRow base T sz v n xs := by
  refine ⟨h.1, ?_⟩
  rcases h.2 with h2 | ⟨g, cap, cu, hv, hg, hh, r⟩
  · exact Or.inl h2
  · exact Or.inr ⟨g, cap, cu, hv, hg, (e.block g (lt_of_block hh) (hs g (by rw [hv]; rfl))).trans hh, r⟩
theorem box_neC {w : World} {base T1 T2 lo s : Nat} {v : Value} {n : Nat} {xs : List Value} {cs : Array Value} (h : w.ownsRow base T1 1 v n xs) (k : Box lo cs T2 w s) (hT : T1 ≠ T2) : ∀ c, v.ownBlock = some c → c ≠ s := fun c hc e => by
  subst e
  rcases h.2 with ⟨rfl, -⟩ | ⟨g, cap, cur, rfl, -, hh, -⟩
  · simp [Value.ownBlock] at hc
  · obtain rfl : g = c := by simpa [Value.ownBlock] using hc
    rw [k.2] at hh
    simp only [Option.some.injEq, Obj.cells.injEq] at hh
    exact hT hh.2.1.symm
/-- What is in hand. -/
structure CSt (w : World) (b C m : Nat) (cv : Value) (W : World) (v : Value) (x : DChain) : Prop where
  box : Box 0 #[.int .i64 x.epoch, v] 26 W C
  res : Box 0 #[.int .i64 0, .slice none 0 0] 26 W w.heap.size
  own : W.ownsRow (w.heap.size + 1) 2 1 v x.ids.length (x.ids.map (Value.int .i64))
  ids : ∀ z ∈ x.ids, -1000000000 ≤ z ∧ z ≤ 1000000000
  src : SrcAt W b cv m
  code : IsCode b W cv
  ext : Ext (fun q => q = b ∨ w.heap.size ≤ q) w W
  bw : b < w.heap.size
  cw : w.heap.size < C
theorem CSt.wf {w : World} {b C m : Nat} {cv : Value} {W : World} {v : Value} {x : DChain} (h : CSt w b C m cv W v x) : ∀ z ∈ x.ids, (Lit.int .i64 z).wf = true := fun z hz => wf_of_bd (h.ids z hz)
theorem CSt.reads {w : World} {b C m : Nat} {cv : Value} {W : World} {v : Value} {x : DChain} (h : CSt w b C m cv W v x) (hn : x.ids.length ≤ 1000) : (Lay.sl Lay.int).Reads W [v] x.ids := (Lay.ownInts h.wf (by omega) h.own).reads
theorem CSt.size {w : World} {b C m : Nat} {cv : Value} {W : World} {v : Value} {x : DChain} (h : CSt w b C m cv W v x) : w.heap.size ≤ W.heap.size := h.ext.size
theorem CSt.go {w : World} {b C m m' : Nat} {cv : Value} {W w' : World} {v : Value} {x : DChain} (h : CSt w b C m cv W v x) (g : W.grownBy w' (some b)) (s : SrcAt w' b cv m') (c : IsCode b w' cv) : CSt w b C m' cv w' v x := by
  have e := ext_grown g
  have h1 := h.bw
  have h2 := h.cw
  exact ⟨h.box.ext e (by omega), h.res.ext e (by omega), own_extC h.own e (fun c hc e => by have := (h.own.lt c hc).1; omega), h.ids, s, c, h.ext.trans (e.mono fun k _ h => Or.inl h), h1, h2⟩
theorem CSt.later {w : World} {b C m : Nat} {cv : Value} {W w' : World} {v : Value} {x : DChain} (h : CSt w b C m cv W v x) (hb : Below W.heap.size W w') : CSt w b C m cv w' v x :=
  ⟨h.box.keep hb, h.res.keep hb, own_below h.own hb, h.ids, h.src.onW hb, h.code.onW (Nat.le_of_lt h.src.lt) hb, h.ext.trans (ext_of_below hb _), h.bw, h.cw⟩
/-- The block of the chain is written. -/
theorem CSt.write {w : World} {b C m : Nat} {cv : Value} {W W2 : World} {v v' : Value} {x x' : DChain} (h : CSt w b C m cv W v x) (e : Ext (fun q => q = C) W W2) (hx : Box 0 #[.int .i64 x'.epoch, v'] 26 W2 C) (hO : W.ownsRow (w.heap.size + 1) 2 1 v' x'.ids.length (x'.ids.map (Value.int .i64))) (hi : ∀ z ∈ x'.ids, -1000000000 ≤ z ∧ z ≤ 1000000000) : CSt w b C m cv W2 v' x' := by
  have h1 := h.bw
  have h2 := h.cw
  exact ⟨hx, h.res.ext e (by omega), own_extC hO e (fun c hc e => box_neC hO h.box (by decide) c hc e), hi, h.src.extW e (fun e => by omega), h.code.extW (by have := h.src.lt; omega) e (fun k hk e => by omega), h.ext.trans (e.mono fun k _ e => Or.inr (by omega)), h1, h2⟩
theorem CSt.put {w : World} {b C m : Nat} {cv : Value} {W : World} {v v' : Value} {x : DChain} (x' : DChain) (h : CSt w b C m cv W v x) (hO : W.ownsRow (w.heap.size + 1) 2 1 v' x'.ids.length (x'.ids.map (Value.int .i64))) (hi : ∀ z ∈ x'.ids, -1000000000 ≤ z ∧ z ≤ 1000000000) : CSt w b C m cv ((W.setCell ⟨C, 0, none⟩ (.int .i64 x'.epoch)).setCell ⟨C, 1, none⟩ v') v' x' := by
  refine h.write (x' := x') (((Ext.refl (fun q => q = C) _).setCell ⟨C, 0, none⟩ _ rfl).setCell ⟨C, 1, none⟩ _ rfl) ?_ hO hi
  have q := Box.set (Box.set h.box 0 (.int .i64 x'.epoch)) 1 v'
  simp only [List.setIfInBounds_toArray, List.set_cons_zero, List.set_cons_succ] at q
  exact q
theorem CSt.putE {w : World} {b C m : Nat} {cv : Value} {W : World} {v : Value} {x : DChain} (e : Int) (h : CSt w b C m cv W v x) : CSt w b C m cv (W.setCell ⟨C, 0, none⟩ (.int .i64 e)) v ⟨e, x.ids⟩ := by
  refine h.write (x' := ⟨e, x.ids⟩) ((Ext.refl (fun q => q = C) _).setCell ⟨C, 0, none⟩ _ rfl) ?_ h.own h.ids
  have q := Box.set h.box 0 (.int .i64 e)
  simp only [List.setIfInBounds_toArray, List.set_cons_zero] at q
  exact q
theorem CSt.putV {w : World} {b C m : Nat} {cv : Value} {W : World} {v v' : Value} {x : DChain} (zs : List Int) (h : CSt w b C m cv W v x) (hO : W.ownsRow (w.heap.size + 1) 2 1 v' zs.length (zs.map (Value.int .i64))) (hi : ∀ z ∈ zs, -1000000000 ≤ z ∧ z ≤ 1000000000) : CSt w b C m cv (W.setCell ⟨C, 1, none⟩ v') v' ⟨x.epoch, zs⟩ := by
  refine h.write (x' := ⟨x.epoch, zs⟩) ((Ext.refl (fun q => q = C) _).setCell ⟨C, 1, none⟩ _ rfl) ?_ hO hi
  have q := Box.set h.box 1 v'
  simp only [List.setIfInBounds_toArray, List.set_cons_zero, List.set_cons_succ] at q
  exact q
theorem CSt.drew {w : World} {b C m : Nat} {cv : Value} {W : World} {v : Value} {x : DChain} (h : CSt w b C m cv W v x) : CSt w b C m cv W.drew v x :=
  ⟨h.box.drew, h.res.drew, h.own, h.ids, h.src, h.code, ⟨h.ext.os, h.ext.tape, h.ext.output, h.ext.size, h.ext.block⟩, h.bw, h.cw⟩
/-- The row has grown, and the chain's block is written. -/
theorem CSt.append {w : World} {b C m : Nat} {cv : Value} {W w5 : World} {v v' : Value} {x : DChain} (zs : List Int) (h : CSt w b C m cv W v x) (hg : W.grownBy w5 v.ownBlock) (hO : w5.ownsRow (w.heap.size + 1) 2 1 v' zs.length (zs.map (Value.int .i64))) (hi : ∀ z ∈ zs, -1000000000 ≤ z ∧ z ≤ 1000000000) : CSt w b C m cv (w5.setCell ⟨C, 1, none⟩ v') v' ⟨x.epoch, zs⟩ := by
  have h1 := h.bw
  have h2 := h.cw
  have hlow : ∀ q, v.ownBlock = some q → w.heap.size + 1 ≤ q := fun q hq => (h.own.lt q hq).1
  have hne := box_neC h.own h.box (by decide)
  have e : Ext (fun q => v.ownBlock = some q) W w5 := ⟨hg.os, hg.tape, hg.output, hg.size, fun k hk hn => hg.block k hk (fun e => hn e.symm)⟩
  have e2 : Ext (fun q => q = C) w5 (w5.setCell ⟨C, 1, none⟩ v') := (Ext.refl (fun q => q = C) _).setCell ⟨C, 1, none⟩ _ rfl
  have hbx : Box 0 #[.int .i64 x.epoch, v] 26 w5 C := h.box.ext e (fun q => hne _ q rfl)
  have q := Box.set hbx 1 v'
  simp only [List.setIfInBounds_toArray, List.set_cons_zero, List.set_cons_succ] at q
  exact ⟨q, (h.res.ext e (fun q => by have := hlow _ q; omega)).ext e2 (by omega), own_extC hO e2 (fun c hc e => box_neC hO hbx (by decide) c hc e), hi, (h.src.extW e (fun q => by have := hlow _ q; omega)).extW e2 (fun e => by omega), (h.code.extW (by have := h.src.lt; omega) e (fun k hk q => by have := hlow _ q; omega)).extW (by have := h.src.lt; have := e.size; omega) e2 (fun k hk e => by omega), (h.ext.trans (e.mono fun k _ q => Or.inr (by have := hlow _ q; omega))).trans (e2.mono fun k _ e => Or.inr (by omega)), h1, h2⟩
theorem chain_reads {w : World} {a : Option Addr} {d : Nat} {x : DChain} (he : (Lit.int .i64 x.epoch).wf = true) (h : (Lay.sl Lay.int).Reads w [.slice a x.ids.length d] x.ids) : Lay.tChain.Reads w [.int .i64 x.epoch, .slice a x.ids.length d] x := by
  obtain ⟨bl, l⟩ := h
  exact ⟨bl, lies_Chain.2 ⟨a, d, bl, rfl, rfl, he, l⟩⟩
theorem own_some {w : World} {base T sz n cp : Nat} {av : Option Addr} {xs : List Value} (h : w.ownsRow base T sz (.slice av n cp) n xs) (hn : 0 < n) : ∃ g, av = some ⟨g, 0, none⟩ ∧ base ≤ g := by
  rcases h.2 with ⟨hv, h0⟩ | ⟨g, cap, cu, hv, hg, -⟩
  · omega
  · simp only [Value.slice.injEq] at hv
    exact ⟨g, hv.1, hg⟩
theorem joinR_few {x : DChain} {z : Int} (h1 : ∀ u ∈ x.ids, 1 ≤ u ∧ u ≤ 5) (hz : 1 ≤ z ∧ z ≤ 5) (he : 0 ≤ x.epoch) : (∀ u ∈ (joinR x z).chain.ids, 1 ≤ u ∧ u ≤ 5) ∧ (joinR x z).chain.ids.length ≤ x.ids.length + 1 ∧ (0 ≤ (joinR x z).chain.epoch ∧ (joinR x z).chain.epoch ≤ x.epoch + 1) := by
  have nb : ∀ c : Int, (∀ u ∈ (badChain c).chain.ids, 1 ≤ u ∧ u ≤ 5) ∧ (badChain c).chain.ids.length ≤ x.ids.length + 1 ∧ (0 ≤ (badChain c).chain.epoch ∧ (badChain c).chain.epoch ≤ x.epoch + 1) := fun c => ⟨(fun u hu => by cases hu), by simp [badChain, noChain], by simp only [badChain, noChain]; omega⟩
  unfold joinR
  split
  · split
    · exact nb 6
    · split
      · exact nb 2
      · refine ⟨fun u hu => ?_, by simp [joinCh], by simp only [joinCh]; omega⟩
        rcases List.mem_append.1 hu with hu | hu
        · exact h1 u hu
        · rw [List.mem_singleton.1 hu]; exact hz
  · exact nb _
/-- A chain of the draw's own; the source has gone on. -/
def ChainPost (M b m : Nat) (cv : Value) (w : World) (e : Ending) (w' : World) : Prop :=
  ∃ (v : Value) (x : DChain) (m' : Nat), e = .returned (.agg #[.int .i64 x.epoch, v]) ∧ w'.ownsRow (w.heap.size + 1) 2 1 v x.ids.length (x.ids.map (Value.int .i64)) ∧ (∀ z ∈ x.ids, -1000000000 ≤ z ∧ z ≤ 1000000000) ∧ x.ids.length ≤ 10 ∧ (-1000000 ≤ x.epoch ∧ x.epoch ≤ 1000000) ∧ SrcAt w' b cv m' ∧ m' ≤ m + M ∧ IsCode b w' cv ∧ w.grownBy w' (some b)
/-- The result's block is written, and the draw ends. -/
theorem CSt.close {w : World} {M b C m m0 : Nat} {cv : Value} {W : World} {v : Value} {x : DChain} (h : CSt w b C m cv W v x) (hl : x.ids.length ≤ 10) (he : -1000000 ≤ x.epoch ∧ x.epoch ≤ 1000000) (hm : m ≤ m0 + M) : ChainPost M b m0 cv w (.returned (.agg #[.int .i64 x.epoch, v])) ((W.setCell ⟨w.heap.size, 0, none⟩ (.int .i64 x.epoch)).setCell ⟨w.heap.size, 1, none⟩ v) := by
  have h1 := h.bw
  have e : Ext (fun q => q = w.heap.size) W ((W.setCell ⟨w.heap.size, 0, none⟩ (.int .i64 x.epoch)).setCell ⟨w.heap.size, 1, none⟩ v) := ((Ext.refl (fun q => q = w.heap.size) _).setCell ⟨w.heap.size, 0, none⟩ _ rfl).setCell ⟨w.heap.size, 1, none⟩ _ rfl
  refine ⟨v, x, m, rfl, own_extC h.own e (fun c hc e => by have := (h.own.lt c hc).1; omega), h.ids, hl, he, h.src.extW e (fun e => by omega), hm, h.code.extW (by have := h.src.lt; omega) e (fun k hk e => by omega), ?_⟩
  exact ⟨e.os.trans h.ext.os, e.tape.trans h.ext.tape, e.output.trans h.ext.output, Nat.le_trans h.ext.size e.size, fun i hi hn => (e.block i (by have := h.ext.size; omega) (fun e => by omega)).trans (h.ext.block i hi (fun e => by
      rcases e with e | e
      · exact hn (by rw [e])
      · omega))⟩
end Go.Proofs.YtceoaphcjnfphaaDoor

namespace Go.Proofs.YtceoaphcjnfphaaDoor
open Go.RowKit

theorem inC (v lo hi : Int) (w : World) :
    Calls Tryd.prog 43 #[.int .i64 v, .int .i64 lo, .int .i64 hi] w fun e w' => e = .returned (.bool (decide (lo ≤ v) && decide (v ≤ hi))) ∧ w' = w := by
  by_cases h1 : lo ≤ v
  · have d1 : decide (lo ≤ v) = true := by simpa using h1
    rw [d1]
    cases d2 : decide (v ≤ hi) <;>
    · go_enter Tryd.func43, Tryd.ntmps43
      go_wp2_with fail
      go_ret
      exact ⟨rfl, rfl⟩
  · have d1 : decide (lo ≤ v) = false := by simpa using h1
    rw [d1]
    go_enter Tryd.func43, Tryd.ntmps43
    go_wp2_with fail
    go_ret
    exact ⟨rfl, rfl⟩

end Go.Proofs.YtceoaphcjnfphaaDoor

namespace Go.Proofs.YtceoaphcjnfphaaDoor
open Go.RowKit

theorem node10C (x : Int) (w : World) : Calls Tryd.prog 44 #[.int .i64 x] w fun e w' => e = .returned (.bool (decide (1 ≤ x) && decide (x ≤ 5))) ∧ w' = w := by
  go_enter Tryd.func44, Tryd.ntmps44
  go_wp2_with fail
  refine (inC x 1 5 _).mono ?_
  rintro e w1 ⟨rfl, rfl⟩
  go_wp2_with fail
  go_ret
  exact ⟨rfl, rfl⟩

end Go.Proofs.YtceoaphcjnfphaaDoor

namespace Go.Proofs.YtceoaphcjnfphaaDoor
open Go.RowKit

/-- A chain in a block. -/
abbrev ChainAt (w : World) (b : Nat) (v : Value) (x : DChain) : Prop := Box 0 #[.int .i64 x.epoch, v] 26 w b
set_option maxRecDepth 10000 in
set_option maxHeartbeats 1000000 in
theorem l10AtC (b : Nat) (a : Option Addr) (d : Nat) (x : DChain) (id : Int) (w : World) (hX : ChainAt w b (.slice a x.ids.length d) x) (R : (Lay.sl Lay.int).Reads w [.slice a x.ids.length d] x.ids) :
    Calls Tryd.prog 25 #[.pointer (some ⟨b, 0, none⟩), .int .i64 id] w fun e w' => e = .returned (.int .i64 (placeC x.ids id)) ∧ w' = w := by
  have x1 := Box.at hX 1 _ rfl
  simp only [List.getElem_toArray, List.getElem_cons_zero, List.getElem_cons_succ] at x1
  have xl := Box.lt hX
  have hbig := R.big
  have H := hide R
  clear hX R
  generalize x.ids = ids at *
  go_enter Tryd.func25, Tryd.ntmps25
  go_wp2_with fail
  go_loop [5] (fun i => ∃ k : Nat, k ≤ ids.length ∧ i = .int .i64 k ∧ (∀ j (hj : j < ids.length), j < k → ids[j] ≠ id)) (fun i => ids.length - (intOf i).toNat)
  case atStart => exact ⟨0, Nat.zero_le _, rfl, fun j _ h => by omega⟩
  case round =>
    obtain ⟨k, hk, rfl, hz⟩ := hrel
    by_cases hlt : k < ids.length
    · obtain ⟨b2, off, rfl, -⟩ := Lay.sl_addr (unhide H) (by omega)
      have c1 := int_cell (unhide H) hlt
      cases hq : (ids[k] == id)
      · have HZ : Hid (∀ j (hj : j < ids.length), j < k + 1 → ids[j] ≠ id) := fun j hj hjk => by
          by_cases h2 : j < k
          · exact hz j hj h2
          · obtain rfl : j = k := by omega
            simpa using hq
        clear hz
        generalize ids[k] = z at *
        go_wp2_with fail
        go_round
        case rel => exact ⟨k + 1, by omega, by go_num, unhide HZ⟩
        case measure => simp [intOf]; omega
      · have HP := hide (placeC_at hlt (by simpa using hq) (fun j hj => hz j (by omega) hj))
        clear hz
        generalize ids[k] = z at *
        go_wp2_with fail
        go_ret
        exact ⟨by rw [unhide HP]; rfl, rfl⟩
    · obtain rfl : k = ids.length := by omega
      have HP := hide (placeC_none (id := id) (fun j hj => hz j hj hj))
      clear hz
      go_wp2_with fail
      go_ret
      exact ⟨by rw [unhide HP]; rfl, rfl⟩

theorem cf_epoch {x : DChain} (h : (decide (1 ≤ x.epoch) && decide (x.epoch ≤ 999)) = false) : chainFault x = 3 := by
  rw [chainFault, if_neg]
  simpa using h
theorem cf_len {x : DChain} (h : (decide (1 ≤ x.epoch) && decide (x.epoch ≤ 999)) = true) (hn : x.ids.length < 1 ∨ 5 < x.ids.length) : chainFault x = 2 := by
  rw [chainFault, if_pos (by simpa using h), if_neg (by omega)]
theorem cf_ids {x : DChain} (h : (decide (1 ≤ x.epoch) && decide (x.epoch ≤ 999)) = true) (hn : ¬ x.ids.length < 1) (hm : ¬ 5 < x.ids.length) : chainFault x = idsF (x.ids.take 0) (x.ids.drop 0) := by
  rw [chainFault, if_pos (by simpa using h), if_pos (by omega)]
  simp

set_option maxRecDepth 10000 in
set_option maxHeartbeats 1000000 in
theorem l10FaultC (b : Nat) (a : Option Addr) (d : Nat) (x : DChain) (w : World) (hX : ChainAt w b (.slice a x.ids.length d) x) (R : (Lay.sl Lay.int).Reads w [.slice a x.ids.length d] x.ids) :
    Calls Tryd.prog 24 #[.pointer (some ⟨b, 0, none⟩)] w fun e w' => e = .returned (.int .i64 (chainFault x)) ∧ w' = w := by
  have x0 := Box.at hX 0 _ rfl
  have x1 := Box.at hX 1 _ rfl
  simp only [List.getElem_toArray, List.getElem_cons_zero, List.getElem_cons_succ] at x0 x1
  have xl := Box.lt hX
  have hbig := R.big
  have HX := hide hX
  have H := hide R
  clear hX R
  go_enter Tryd.func24, Tryd.ntmps24
  go_wp2_with fail
  refine (inC x.epoch 1 999 w).mono ?_
  rintro e w1 ⟨rfl, h1⟩
  subst w1
  cases d1 : (decide (1 ≤ x.epoch) && decide (x.epoch ≤ 999))
  · have HF := hide (cf_epoch d1)
    clear d1
    go_wp2_with fail
    go_ret
    exact ⟨by rw [unhide HF]; rfl, rfl⟩
  · by_cases hn : x.ids.length < 1
    · have HF := hide (cf_len d1 (Or.inl hn))
      have hd : decide ((x.ids.length : Int) < 1) = true := by simp; omega
      clear d1
      go_wp2_with fail
      go_ret
      exact ⟨by rw [unhide HF]; rfl, rfl⟩
    · have hd : decide ((x.ids.length : Int) < 1) = false := by simp; omega
      by_cases hm : 5 < x.ids.length
      · have HF := hide (cf_len d1 (Or.inr hm))
        have hd2 : decide ((5 : Int) < (x.ids.length : Int)) = true := by simp; omega
        clear d1
        go_wp2_with fail
        go_ret
        exact ⟨by rw [unhide HF]; rfl, rfl⟩
      · have HF := hide (cf_ids d1 hn hm)
        have hd2 : decide ((5 : Int) < (x.ids.length : Int)) = false := by simp; omega
        clear d1
        go_wp2_with fail
        clear hd hd2
        go_loop [3] (fun i => ∃ k : Nat, k ≤ x.ids.length ∧ i = .int .i64 k ∧ chainFault x = idsF (x.ids.take k) (x.ids.drop k)) (fun i => x.ids.length - (intOf i).toNat)
        case atStart => exact ⟨0, Nat.zero_le _, rfl, unhide HF⟩
        case round =>
          obtain ⟨k, hk, rfl, hz⟩ := hrel
          clear HF
          by_cases hlt : k < x.ids.length
          · rw [idsF_step x.ids k hlt] at hz
            have hself := placeC_self hlt
            obtain ⟨b2, off, rfl, -⟩ := Lay.sl_addr (unhide H) (by omega)
            have c1 := int_cell (unhide H) hlt
            have HP := hide (l10AtC b (some ⟨b2, off, none⟩) d x x.ids[k] w (unhide HX) (unhide H))
            have hdl : decide ((k : Int) < (x.ids.length : Int)) = true := by simp; omega
            have HZ := hide hz
            have HS := hide hself
            clear hz hself
            generalize x.ids[k] = z at *
            go_wp2_with fail
            refine (node10C z w).mono ?_
            rintro e w1 ⟨rfl, h1⟩
            subst w1
            cases d2 : (decide (1 ≤ z) && decide (z ≤ 5))
            · have hz := unhide HZ
              rw [if_neg (by simpa using d2)] at hz
              have HF := hide hz
              clear d2 HZ HS hz
              go_wp2_with fail
              go_ret
              exact ⟨by rw [unhide HF]; rfl, rfl⟩
            · have hz := unhide HZ
              rw [if_pos (by simpa using d2)] at hz
              have HZ2 := hide hz
              clear d2 HZ hz
              go_wp2_with fail
              refine (unhide HP).mono ?_
              rintro e w1 ⟨rfl, h1⟩
              subst w1
              clear HP
              by_cases hq : placeC x.ids z = (k : Int)
              · have hz := unhide HZ2
                rw [if_neg ((unhide HS).1 hq)] at hz
                have HF := hide hz
                have hb : (placeC x.ids z != (k : Int)) = false := by rw [hq]; simp
                clear HZ2 HS hz hq
                generalize placeC x.ids z = p at *
                go_wp2_with fail
                go_round
                case rel => exact ⟨k + 1, by omega, by go_num, unhide HF⟩
                case measure => simp [intOf]; omega
              · have hz := unhide HZ2
                rw [if_pos (Classical.not_not.1 fun hc => hq ((unhide HS).2 hc))] at hz
                have HF := hide hz
                have hb : (placeC x.ids z != (k : Int)) = true := by rw [bne_iff_ne]; exact hq
                clear HZ2 HS hz hq
                generalize placeC x.ids z = p at *
                go_wp2_with fail
                go_ret
                exact ⟨by rw [unhide HF]; rfl, rfl⟩
          · obtain rfl : k = x.ids.length := by omega
            rw [idsF_end] at hz
            have hdl : decide ((x.ids.length : Int) < (x.ids.length : Int)) = false := by simp
            have HF := hide hz
            clear hz
            go_wp2_with fail
            go_ret
            exact ⟨by rw [unhide HF]; rfl, rfl⟩

theorem specChainFault (cs : List Value) (x : DChain) (w : World) (h : Lay.tChain.Reads w cs x) :
    Calls Tryd.prog 10 #[.agg cs.toArray] w fun e w' => e = .returned (.int .i64 (chainFault x)) ∧ Below w.heap.size w w' := by
  obtain ⟨a, d, rfl, R⟩ := open_Chain h
  have nb : Below w.heap.size w (w.alloc (.cells #[.int .i64 x.epoch, .slice a x.ids.length d] 26)) := (Below.refl _ _).alloc (Nat.le_refl _) _
  have HL := hide (l10FaultC w.heap.size a d x _ (newBox (Nat.zero_le _)) (R.later nb))
  have HB := hide nb
  clear h R nb
  go_enter Tryd.func10, Tryd.ntmps10
  go_wp2_with fail
  refine (unhide HL).mono ?_
  rintro e w1 ⟨rfl, h1⟩
  subst w1
  go_wp2_with fail
  go_ret
  exact ⟨rfl, unhide HB⟩
end Go.Proofs.YtceoaphcjnfphaaDoor

namespace Go.Proofs.YtceoaphcjnfphaaDoor

theorem info2 : (Tryd.prog.info? 2).map (fun i => (i.zero, i.size, i.bytes)) = some (some (.int .i64 0), 1, 8) := by kernel_rfl

end Go.Proofs.YtceoaphcjnfphaaDoor

namespace Go.Proofs.YtceoaphcjnfphaaDoor
open Go.RowKit

theorem grown_alloc {w w' : World} {o : Obj} {r : Option Nat} (h : (w.alloc o).grownBy w' r) : w.grownBy w' r := grown_trans (World.grownBy_alloc w o r) h

/-- At an operation of a plain region: 'append(s, q)', q laid into a block of its own first. -/
theorem wpList_append_int {w1 : World} {base : Nat} {v : Value} {n : Nat} {xs : List Value} (hown : w1.ownsRow base 2 1 v n xs) (q : Int) {ops : Array Oper} {rest : List Oper} {o : Oper} {a : Act} {Q : Exit → Act → World → Prop} (hgd : o.guard = none) (s x : Operand)
    (ho : o.op = .call { callee := .builtin .append, args := #[s, x], argTypes := #[24, 24] }) (hs : a.eval s = v) (hx : a.eval x = .slice (some ⟨w1.heap.size, 0, none⟩) 1 1)
    (hn : n ≤ 100000000) (hbase : base ≤ w1.heap.size)
    (h : ∀ g cap w', w'.ownsRow base 2 1 (.slice (some ⟨g, 0, none⟩) (n + 1) cap) (n + 1) (xs ++ [.int .i64 q]) → w1.grownBy w' v.ownBlock → Below base w1 w' → g < w'.heap.size → w1.heap.size < w'.heap.size → wpList Tryd.prog ops Q rest (a.put o.dst (.slice (some ⟨g, 0, none⟩) (n + 1) cap)) w') :
    wpList Tryd.prog ops Q (o :: rest) a (w1.alloc (.cells #[.int .i64 q] 2)) := by
  obtain ⟨i0, hi0, hz0, hz1, hz2⟩ := info_parts info2
  refine wpList_append_lies _ hgd s x 24 ho base 2 i0 _ 1 8 Tryd.underlying24 hi0 hz0 hz1 hz2 rfl (by omega) v n xs hs (hown.alloc _) ⟨w1.heap.size, 0, none⟩ 1 1 [.int .i64 q] hx rfl (World.news_of_block (cs := #[.int .i64 q]) (t := 2) (fr := (0, 0)) (heap_alloc_new w1 _)) (by simp [Value.oneCell']) (by omega) (by unfold maxLen; omega) (by omega) (by simp; omega) (w1.heap.size + 1) (by simp) ?_
  intro g cap w' h2 h3 _ h5
  have hg := grown_alloc h3
  have hsz := h3.size
  simp only [World.size_alloc] at hsz
  exact h g cap w' h2 hg ((Below.refl _ _).grown hg hbase (fun j hj => (hown.lt j hj).1)) h5 (by omega)

end Go.Proofs.YtceoaphcjnfphaaDoor

namespace Go.Proofs.YtceoaphcjnfphaaDoor
open Go.RowKit

theorem box_lowC {lo : Nat} {cs : Array Value} {T : TypeId} {W w' : World} {s B : Nat} (h : Box lo cs T W s) (hb : Below B W w') (hs : s < B) : Box lo cs T w' s := ⟨h.1, (hb.block s hs).trans h.2⟩
theorem own_intsC {w : World} {v : Value} {zs : List Int} {base : Nat} (hw : ∀ z ∈ zs, (Lit.int .i64 z).wf = true) (hn : zs.length ≤ 100000000) (h : w.ownsRow base 2 1 v zs.length (zs.map (Value.int .i64))) : (Lay.sl Lay.int).OwnIn w [v] zs base w.heap.size :=
  Lay.ownInts hw (by omega) h
theorem upToC_wf (n : Nat) (hn : n ≤ 1000) : ∀ z ∈ upToC n, (Lit.int .i64 z).wf = true := fun z hz => wf_of_bd (by have := upToC_bd hz; omega)

set_option maxRecDepth 10000 in
set_option maxHeartbeats 1000000 in
theorem l10NewC (n : Nat) (w : World) (hn : n ≤ 1000) :
    Calls Tryd.prog 52 #[.int .i64 (n : Int)] w fun e w' => ∃ v, e = .returned (.agg #[.int .i64 1, v]) ∧ w'.ownsRow w.heap.size 2 1 v n ((upToC n).map (Value.int .i64)) ∧ Below w.heap.size w w' := by
  have nb : Below w.heap.size w ((w.alloc (.cells #[.int .i64 0, .slice none 0 0] 26)).alloc (.cells #[.int .i64 1, .slice none 0 0] 26)) := ((Below.refl _ _).alloc (Nat.le_refl _) _).alloc (by simp) _
  have bR : Box 0 #[.int .i64 0, .slice none 0 0] 26 ((w.alloc (.cells #[.int .i64 0, .slice none 0 0] 26)).alloc (.cells #[.int .i64 1, .slice none 0 0] 26)) w.heap.size := (newBox (Nat.zero_le _)).grow _
  have bC : Box 0 #[.int .i64 1, .slice none 0 0] 26 ((w.alloc (.cells #[.int .i64 0, .slice none 0 0] 26)).alloc (.cells #[.int .i64 1, .slice none 0 0] 26)) (w.heap.size + 1) := newBoxAt (Nat.zero_le _) (by simp)
  have HB := hide nb
  have HR := hide bR
  have HC := hide bC
  have HZ : Hid (w.heap.size + 2 ≤ ((w.alloc (.cells #[.int .i64 0, .slice none 0 0] 26)).alloc (.cells #[.int .i64 1, .slice none 0 0] 26)).heap.size) := by show w.heap.size + 2 ≤ ((w.alloc (.cells #[.int .i64 0, .slice none 0 0] 26)).alloc (.cells #[.int .i64 1, .slice none 0 0] 26)).heap.size; simp
  clear nb bR bC
  go_enter Tryd.func52, Tryd.ntmps52
  go_wp2_with fail
  generalize (w.alloc (.cells #[.int .i64 0, .slice none 0 0] 26)).alloc (.cells #[.int .i64 1, .slice none 0 0] 26) = W at *
  go_loopw [4] (fun i wr => ∃ (k : Nat) (v : Value), k ≤ n ∧ i = .int .i64 ((k : Int) + 1) ∧ Box 0 #[.int .i64 1, v] 26 wr (w.heap.size + 1) ∧ Box 0 #[.int .i64 0, .slice none 0 0] 26 wr w.heap.size ∧ wr.ownsRow (w.heap.size + 2) 2 1 v k ((upToC k).map (Value.int .i64)) ∧ w.heap.size + 2 ≤ wr.heap.size ∧ Below w.heap.size w wr) (fun i _ => n + 1 - (intOf i).toNat)
  case atStart => exact ⟨0, _, Nat.zero_le _, rfl, unhide HC, unhide HR, World.ownsRow_nil _ _ _ _, unhide HZ, unhide HB⟩
  case round =>
    obtain ⟨k, v, hk, rfl, hC, hR, hO, hz, hB⟩ := hrel
    clear HC HR HB HZ
    by_cases hlt : k < n
    · have hdl : decide ((k : Int) + 1 ≤ (n : Int)) = true := by simp; omega
      have c1 := Box.at hC 1 _ rfl
      simp only [List.getElem_toArray, List.getElem_cons_zero, List.getElem_cons_succ] at c1
      have cl := Box.lt hC
      have HCr := hide hC
      have HRr := hide hR
      have HBr := hide hB
      clear hC hR hB
      go_wp2_with (at_builtin; refine wpList_append_int hO ((k : Int) + 1) rfl _ _ rfl rfl rfl (by omega) hz ?_)
      intro g cap w5 hO5 hg5 hb5 hgl hz5
      have hC5 := box_lowC (unhide HCr) hb5 (by omega)
      have hR5 := box_lowC (unhide HRr) hb5 (by omega)
      have y1 := Box.at hC5 1 _ rfl
      simp only [List.getElem_toArray, List.getElem_cons_zero, List.getElem_cons_succ] at y1
      have yf := Box.soft hC5
      have yl := Box.lt hC5
      have HC6 := hide (Box.set hC5 1 (.slice (some ⟨g, 0, none⟩) (k + 1) cap))
      have HR6 := hide (hR5.other ⟨w.heap.size + 1, 1, none⟩ (.slice (some ⟨g, 0, none⟩) (k + 1) cap) (by simp))
      have HO6 : Hid (World.ownsRow (w5.setCell ⟨w.heap.size + 1, 1, none⟩ (.slice (some ⟨g, 0, none⟩) (k + 1) cap)) (w.heap.size + 2) 2 1 (.slice (some ⟨g, 0, none⟩) (k + 1) cap) (k + 1) ((upToC (k + 1)).map (Value.int .i64))) := by
        have := own_setC (a := ⟨w.heap.size + 1, 1, none⟩) hO5 (by simp) (.slice (some ⟨g, 0, none⟩) (k + 1) cap)
        rw [upToC_succ, List.map_append]
        exact this
      have HB6 := hide (((unhide HBr).trans (hb5.mono (by omega))).setCell (p := ⟨w.heap.size + 1, 1, none⟩) (by simp) (.slice (some ⟨g, 0, none⟩) (k + 1) cap))
      clear c1 cl HCr HRr HBr hO hO5 hg5 hb5 hC5 hR5
      go_wp2_with fail
      go_roundw
      case rel => exact ⟨k + 1, _, by omega, by go_num, unhide HC6, unhide HR6, unhide HO6, by simp; omega, unhide HB6⟩
      case measure => simp [intOf]; omega
    · obtain rfl : k = n := by omega
      have hdl : decide ((k : Int) + 1 ≤ (k : Int)) = false := by simp; omega
      obtain ⟨a9, c9, rfl⟩ := own_shape hO
      have c0 := Box.at hC 0 _ rfl
      have c1 := Box.at hC 1 _ rfl
      have z0 := Box.at hR 0 _ rfl
      have z1 := Box.at hR 1 _ rfl
      simp only [List.getElem_toArray, List.getElem_cons_zero, List.getElem_cons_succ] at c0 c1 z0 z1
      have cl := Box.lt hC
      have ff := Box.soft hR
      have l0 := Box.lt hR
      have HO6 : Hid (World.ownsRow ((wr.setCell ⟨w.heap.size, 0, none⟩ (.int .i64 1)).setCell ⟨w.heap.size, 1, none⟩ (.slice a9 k c9)) w.heap.size 2 1 (.slice a9 k c9) k ((upToC k).map (Value.int .i64))) := own_mono (by omega) (own_setC (a := ⟨w.heap.size, 1, none⟩) (own_setC (a := ⟨w.heap.size, 0, none⟩) hO (by simp) (.int .i64 1)) (by simp) _)
      have HB6 := hide ((hB.setCell (p := ⟨w.heap.size, 0, none⟩) (Nat.le_refl _) (.int .i64 1)).setCell (p := ⟨w.heap.size, 1, none⟩) (Nat.le_refl _) (.slice a9 k c9))
      clear hC hR hO hB
      go_wp2_with fail
      refine bodyPost_ret (v := .agg #[.int .i64 1, .slice a9 k c9]) (by simp [results, Tryd.results52, go_sem, z0, z1]) rfl ?_
      exact ⟨_, rfl, unhide HO6, unhide HB6⟩

end Go.Proofs.YtceoaphcjnfphaaDoor

namespace Go.Proofs.YtceoaphcjnfphaaDoor
open Go.RowKit

theorem step_append_int {w1 : World} {base : Nat} {v : Value} {n : Nat} {xs : List Value} (hown : w1.ownsRow base 2 1 v n xs) (q : Int) {ops : Array Oper} {o : Oper} {a : Act} {K : Act → World → Prop} {Q : Exit → Act → World → Prop} {E : Prop} (hgd : o.guard = none) (s x : Operand)
    (ho : o.op = .call { callee := .builtin .append, args := #[s, x], argTypes := #[24, 24] }) (hs : a.eval s = v) (hx : a.eval x = .slice (some ⟨w1.heap.size, 0, none⟩) 1 1)
    (hn : n ≤ 100000000) (hbase : base ≤ w1.heap.size)
    (h : ∀ g cap w', w'.ownsRow base 2 1 (.slice (some ⟨g, 0, none⟩) (n + 1) cap) (n + 1) (xs ++ [.int .i64 q]) → w1.grownBy w' v.ownBlock → Below base w1 w' → g < w'.heap.size → w1.heap.size < w'.heap.size → K (a.put o.dst (.slice (some ⟨g, 0, none⟩) (n + 1) cap)) w') :
    if Region.wanted o (yielded ops a.tmps) = true then Oper.wp Tryd.prog o a (w1.alloc (.cells #[.int .i64 q] 2)) K Q else E := by
  obtain ⟨i0, hi0, hz0, hz1, hz2⟩ := info_parts info2
  refine step_append_lies _ hgd s x 24 ho base 2 i0 _ 1 8 Tryd.underlying24 hi0 hz0 hz1 hz2 rfl (by omega) v n xs hs (hown.alloc _) ⟨w1.heap.size, 0, none⟩ 1 1 [.int .i64 q] hx rfl (World.news_of_block (cs := #[.int .i64 q]) (t := 2) (fr := (0, 0)) (heap_alloc_new w1 _)) (by simp [Value.oneCell']) (by omega) (by unfold maxLen; omega) (by omega) (by simp; omega) (w1.heap.size + 1) (by simp) ?_
  intro g cap w' h2 h3 _ h5
  have hg := grown_alloc h3
  have hsz := h3.size
  simp only [World.size_alloc] at hsz
  exact h g cap w' h2 hg ((Below.refl _ _).grown hg hbase (fun j hj => (hown.lt j hj).1)) h5 (by omega)

end Go.Proofs.YtceoaphcjnfphaaDoor

namespace Go.Proofs.YtceoaphcjnfphaaDoor
open Go.RowKit

def cutL (ids : List Int) (id : Int) : List Int := ids.filter fun z => z != id
theorem cutL_len (ids : List Int) (id : Int) : (cutL ids id).length ≤ ids.length := List.length_filter_le _ _
theorem cutL_same (ids : List Int) (id : Int) (k : Nat) (hk : k < ids.length) (h : (ids[k] != id) = false) : cutL (ids.take (k + 1)) id = cutL (ids.take k) id := by
  rw [List.take_succ_eq_append_getElem hk, cutL, List.filter_append]
  simp [cutL, h]
theorem cutL_more (ids : List Int) (id : Int) (k : Nat) (hk : k < ids.length) (h : (ids[k] != id) = true) : cutL (ids.take (k + 1)) id = cutL (ids.take k) id ++ [ids[k]] := by
  rw [List.take_succ_eq_append_getElem hk, cutL, List.filter_append]
  simp [cutL, h]

set_option maxRecDepth 10000 in
set_option maxHeartbeats 2000000 in
theorem l10CutC (b : Nat) (a : Option Addr) (d : Nat) (x : DChain) (id : Int) (w : World) (hX : ChainAt w b (.slice a x.ids.length d) x) (R : (Lay.sl Lay.int).Reads w [.slice a x.ids.length d] x.ids) (hn : x.ids.length ≤ 1000) (he : -1000000000 ≤ x.epoch ∧ x.epoch ≤ 1000000000) :
    Calls Tryd.prog 26 #[.pointer (some ⟨b, 0, none⟩), .int .i64 id] w fun e w' => ∃ v, e = .returned (.agg #[.int .i64 (x.epoch + 1), v]) ∧ w'.ownsRow w.heap.size 2 1 v (cutL x.ids id).length ((cutL x.ids id).map (Value.int .i64)) ∧ Below w.heap.size w w' := by
  have nb0 : Below w.heap.size w (w.alloc (.cells #[.int .i64 0, .slice none 0 0] 26)) := (Below.refl _ _).alloc (Nat.le_refl _) _
  have nb : Below w.heap.size w ((w.alloc (.cells #[.int .i64 0, .slice none 0 0] 26)).alloc (.cells #[.int .i64 (x.epoch + 1), .slice none 0 0] 26)) := nb0.alloc (by simp) _
  have bR : Box 0 #[.int .i64 0, .slice none 0 0] 26 ((w.alloc (.cells #[.int .i64 0, .slice none 0 0] 26)).alloc (.cells #[.int .i64 (x.epoch + 1), .slice none 0 0] 26)) w.heap.size := (newBox (Nat.zero_le _)).grow _
  have bC : Box 0 #[.int .i64 (x.epoch + 1), .slice none 0 0] 26 ((w.alloc (.cells #[.int .i64 0, .slice none 0 0] 26)).alloc (.cells #[.int .i64 (x.epoch + 1), .slice none 0 0] 26)) (w.heap.size + 1) := newBoxAt (Nat.zero_le _) (by simp)
  have x0 := Box.at (hX.keep nb0) 0 _ rfl
  simp only [List.getElem_toArray, List.getElem_cons_zero] at x0
  have xl := Box.lt hX
  have xl0 := Box.lt (hX.keep nb0)
  have HB := hide nb
  have HR := hide bR
  have HC := hide bC
  have HX := hide hX
  have H := hide R
  have HZ : Hid (w.heap.size + 2 ≤ ((w.alloc (.cells #[.int .i64 0, .slice none 0 0] 26)).alloc (.cells #[.int .i64 (x.epoch + 1), .slice none 0 0] 26)).heap.size) := by show w.heap.size + 2 ≤ ((w.alloc (.cells #[.int .i64 0, .slice none 0 0] 26)).alloc (.cells #[.int .i64 (x.epoch + 1), .slice none 0 0] 26)).heap.size; simp
  clear nb nb0 bR bC hX R
  go_enter Tryd.func26, Tryd.ntmps26
  go_wp2_with fail
  clear x0 xl0
  generalize (w.alloc (.cells #[.int .i64 0, .slice none 0 0] 26)).alloc (.cells #[.int .i64 (x.epoch + 1), .slice none 0 0] 26) = W at *
  go_loopw [6] (fun i wr => ∃ (k : Nat) (v : Value), k ≤ x.ids.length ∧ i = .int .i64 (k : Int) ∧ Box 0 #[.int .i64 (x.epoch + 1), v] 26 wr (w.heap.size + 1) ∧ Box 0 #[.int .i64 0, .slice none 0 0] 26 wr w.heap.size ∧ wr.ownsRow (w.heap.size + 2) 2 1 v (cutL (x.ids.take k) id).length ((cutL (x.ids.take k) id).map (Value.int .i64)) ∧ w.heap.size + 2 ≤ wr.heap.size ∧ Below w.heap.size w wr) (fun i _ => x.ids.length - (intOf i).toNat)
  case atStart => exact ⟨0, _, Nat.zero_le _, rfl, unhide HC, unhide HR, World.ownsRow_nil _ _ _ _, unhide HZ, unhide HB⟩
  case round =>
    obtain ⟨k, v, hk, rfl, hC, hR, hO, hz, hB⟩ := hrel
    clear HC HR HB HZ
    have x1 := Box.at ((unhide HX).keep hB) 1 _ rfl
    simp only [List.getElem_toArray, List.getElem_cons_zero, List.getElem_cons_succ] at x1
    have xlr := Box.lt ((unhide HX).keep hB)
    by_cases hlt : k < x.ids.length
    · have hdl : decide ((k : Int) < (x.ids.length : Int)) = true := by simp; omega
      obtain ⟨b2, off, rfl, hb2⟩ := Lay.sl_addr (unhide H) (by omega)
      have zc := int_cell ((unhide H).later hB) hlt
      have hb2r : b2 < wr.heap.size := by omega
      cases hq : (x.ids[k] != id)
      · have HST := hide (cutL_same x.ids id k hlt hq)
        have HCr := hide hC
        have HRr := hide hR
        have HBr := hide hB
        have HOr : Hid (wr.ownsRow (w.heap.size + 2) 2 1 v (cutL (x.ids.take (k + 1)) id).length ((cutL (x.ids.take (k + 1)) id).map (Value.int .i64))) := by
          show wr.ownsRow (w.heap.size + 2) 2 1 v (cutL (x.ids.take (k + 1)) id).length ((cutL (x.ids.take (k + 1)) id).map (Value.int .i64))
          rw [unhide HST]
          exact hO
        clear hC hR hB hO HST
        generalize x.ids[k] = z at *
        go_wp2_with fail
        go_roundw
        case rel => exact ⟨k + 1, _, by omega, by go_num, unhide HCr, unhide HRr, unhide HOr, hz, unhide HBr⟩
        case measure => simp [intOf]; omega
      · have HST := hide (cutL_more x.ids id k hlt hq)
        have HLN : Hid ((cutL (x.ids.take k) id).length ≤ 1000) := by
          have := cutL_len (x.ids.take k) id
          have h2 : (x.ids.take k).length ≤ x.ids.length := by rw [List.length_take]; omega
          exact Nat.le_trans this (by omega)
        have HBr := hide hB
        have HX1 := hide x1
        have HZC := hide zc
        have hCD := Box.drew hC
        have hRD := Box.drew hR
        have hOD : wr.drew.ownsRow (w.heap.size + 2) 2 1 v (cutL (x.ids.take k) id).length ((cutL (x.ids.take k) id).map (Value.int .i64)) := hO
        have hDB : Below (w.heap.size + 1) wr wr.drew := (Below.refl _ _).drew
        have hzD : w.heap.size + 2 ≤ wr.drew.heap.size := hz
        clear hC hR hB hO
        generalize x.ids[k] = z at *
        go_wp2_with fail
        clear x1 zc
        refine wp_region_noPanic ?_
        refine wp_region_held_drew (S := fun w' => Below (w.heap.size + 1) wr w') (by kernel_rfl) (Below.refl _ _).drew (fun hHeld => ?_)
        generalize wr.drew = wD at hHeld hCD hRD hOD hDB hzD ⊢
        refine wpAnyH_take (i := 0) (oi := { dst := some 31, op := Go.Op.fieldAddr 26 (Go.Operand.tmp 5) 1, type := 0, pos := "l10_chain.go:82", after := #[], guard := none }) (v := ?vu0_1) rfl (by kernel_rfl) (by kernel_rfl) (by kernel_rfl) (fun _ _ _ h => h) (Or.inl ⟨by rfl, ?hu0_1⟩) hHeld ?ru0_1
        case hu0_1 =>
          intro wS hSw
          (try dsimp only at hSw)
          go_simp
          try with_reducible rfl
        case ru0_1 =>
        simp only [Act.put, List.setIfInBounds_toArray, List.set_cons_zero, List.set_cons_succ]
        refine wpAnyH_take (i := 2) (oi := { dst := some 33, op := Go.Op.move (Go.Operand.tmp 0), type := 49, pos := "l10_chain.go:82", after := #[], guard := none }) (v := ?vu2_2) rfl (by kernel_rfl) (by kernel_rfl) (by kernel_rfl) (fun _ _ _ h => h) (Or.inl ⟨by rfl, ?hu2_2⟩) hHeld ?ru2_2
        case hu2_2 =>
          intro wS hSw
          (try dsimp only at hSw)
          go_simp
          try with_reducible rfl
        case ru2_2 =>
        simp only [Act.put, List.setIfInBounds_toArray, List.set_cons_zero, List.set_cons_succ]
        refine wpAnyH_take (i := 3) (oi := { dst := some 34, op := Go.Op.nilCheck (Go.Operand.tmp 33), type := 0, pos := "l10_chain.go:82", after := #[{ on := 2, ground := Go.Ground.data }], guard := none }) (v := ?vu3_3) rfl (by kernel_rfl) (by kernel_rfl) (by kernel_rfl) (fun _ _ _ h => h) (Or.inl ⟨by rfl, ?hu3_3⟩) hHeld ?ru3_3
        case hu3_3 =>
          intro wS hSw
          (try dsimp only at hSw)
          go_simp
          try with_reducible rfl
        case ru3_3 =>
        simp only [Act.put, List.setIfInBounds_toArray, List.set_cons_zero, List.set_cons_succ]
        refine wpAnyH_take (i := 4) (oi := { dst := some 35, op := Go.Op.fieldAddr 26 (Go.Operand.tmp 34) 1, type := 0, pos := "l10_chain.go:82", after := #[{ on := 3, ground := Go.Ground.data }], guard := none }) (v := ?vu4_4) rfl (by kernel_rfl) (by kernel_rfl) (by kernel_rfl) (fun _ _ _ h => h) (Or.inl ⟨by rfl, ?hu4_4⟩) hHeld ?ru4_4
        case hu4_4 =>
          intro wS hSw
          (try dsimp only at hSw)
          go_simp
          try with_reducible rfl
        case ru4_4 =>
        simp only [Act.put, List.setIfInBounds_toArray, List.set_cons_zero, List.set_cons_succ]
        refine wpAnyH_take (i := 5) (oi := { dst := some 36, op := Go.Op.load 24 (Go.Operand.tmp 35), type := 24, pos := "l10_chain.go:82", after := #[{ on := 4, ground := Go.Ground.data }], guard := none }) (v := ?vu5_5) rfl (by kernel_rfl) (by kernel_rfl) (by kernel_rfl) (fun _ _ _ h => h) (Or.inl ⟨by rfl, ?hu5_5⟩) hHeld ?ru5_5
        case hu5_5 =>
          intro wS hSw
          have e1 : wS.cell? ⟨b, 1, none⟩ = some (.slice (some ⟨b2, off, none⟩) x.ids.length d) := (hSw.cell (p := ⟨b, 1, none⟩) (by show b < w.heap.size + 1; omega)).trans (unhide HX1)
          clear hSw
          (try dsimp only at hSw)
          go_simp
          try with_reducible rfl
        case ru5_5 =>
        simp only [Act.put, List.setIfInBounds_toArray, List.set_cons_zero, List.set_cons_succ]
        refine wpAnyH_take (i := 6) (oi := { dst := some 37, op := Go.Op.move (Go.Operand.tmp 6), type := 3, pos := "l10_chain.go:82", after := #[], guard := none }) (v := ?vu6_6) rfl (by kernel_rfl) (by kernel_rfl) (by kernel_rfl) (fun _ _ _ h => h) (Or.inl ⟨by rfl, ?hu6_6⟩) hHeld ?ru6_6
        case hu6_6 =>
          intro wS hSw
          (try dsimp only at hSw)
          go_simp
          try with_reducible rfl
        case ru6_6 =>
        simp only [Act.put, List.setIfInBounds_toArray, List.set_cons_zero, List.set_cons_succ]
        refine wpAnyH_take (i := 7) (oi := { dst := some 38, op := Go.Op.indexAddr 24 (Go.Operand.tmp 36) (Go.Operand.tmp 37), type := 0, pos := "l10_chain.go:82", after := #[{ on := 5, ground := Go.Ground.data }, { on := 6, ground := Go.Ground.data }], guard := none }) (v := ?vu7_7) rfl (by kernel_rfl) (by kernel_rfl) (by kernel_rfl) (fun _ _ _ h => h) (Or.inl ⟨by rfl, ?hu7_7⟩) hHeld ?ru7_7
        case hu7_7 =>
          intro wS hSw
          clear hSw
          have q1 : (k : Int) < (x.ids.length : Int) := by omega
          have q2 : (0 : Int) ≤ (k : Int) := by omega
          (try dsimp only at hSw)
          go_simp
          try with_reducible rfl
        case ru7_7 =>
        simp only [Act.put, List.setIfInBounds_toArray, List.set_cons_zero, List.set_cons_succ]
        refine wpAnyH_take (i := 8) (oi := { dst := some 39, op := Go.Op.load 2 (Go.Operand.tmp 38), type := 2, pos := "l10_chain.go:82", after := #[{ on := 7, ground := Go.Ground.data }], guard := none }) (v := ?vu8_8) rfl (by kernel_rfl) (by kernel_rfl) (by kernel_rfl) (fun _ _ _ h => h) (Or.inl ⟨by rfl, ?hu8_8⟩) hHeld ?ru8_8
        case hu8_8 =>
          intro wS hSw
          have e1 : wS.cell? ⟨b2, off + k, none⟩ = some (.int .i64 z) := (hSw.cell (p := ⟨b2, off + k, none⟩) (by show b2 < w.heap.size + 1; omega)).trans (unhide HZC)
          clear hSw
          (try dsimp only at hSw)
          go_simp
          try with_reducible rfl
        case ru8_8 =>
        simp only [Act.put, List.setIfInBounds_toArray, List.set_cons_zero, List.set_cons_succ]
        refine wpAnyH_ready (rs := [1, 9]) (by kernel_rfl) (by simp) ?_
        refine AllReadyH.cons (o := { dst := some 32, op := Go.Op.load 24 (Go.Operand.tmp 31), type := 24, pos := "l10_chain.go:82", after := #[{ on := 0, ground := Go.Ground.data }], guard := none }) rfl (fun K hK => ?ou1_9) (AllReadyH.cons (o := { dst := some 40, op := Go.Op.buildSlice 24 1 #[(0, Go.Operand.tmp 39)], type := 24, pos := "l10_chain.go:82", after := #[{ on := 8, ground := Go.Ground.data }], guard := none }) rfl (fun K hK => ?ou9_9) (AllReadyH.nil))
        case ou1_9 =>
          have c1 := Box.at hCD 1 _ rfl
          simp only [List.getElem_toArray, List.getElem_cons_zero, List.getElem_cons_succ] at c1
          have cl := Box.lt hCD
          go_simp
          try go_wp2_with fail
          refine hK.out _ _ hHeld (fun hHeld => ?_)
          clear hK K
          try simp only [Act.put, List.setIfInBounds_toArray, List.set_cons_zero, List.set_cons_succ]
          refine wpAnyH_ready (rs := [9]) (by kernel_rfl) (by simp) ?_
          refine AllReadyH.cons (o := { dst := some 40, op := Go.Op.buildSlice 24 1 #[(0, Go.Operand.tmp 39)], type := 24, pos := "l10_chain.go:82", after := #[{ on := 8, ground := Go.Ground.data }], guard := none }) rfl (fun K hK => ?_) AllReadyH.nil
          have nb9 : Below wD.heap.size wD (wD.alloc (.cells #[.int .i64 z] 2)) := (Below.refl _ _).alloc (Nat.le_refl _) _
          have hC9 := hCD.keep nb9
          have hS9 := hHeld.trans (nb9.mono (by omega))
          go_simp
          try go_wp2_with fail
          refine hK.out _ _ hS9 (fun hHeld => ?_)
          clear hK K
          try simp only [Act.put, List.setIfInBounds_toArray, List.set_cons_zero, List.set_cons_succ]
          refine wpAnyH_ready (rs := [10]) (by kernel_rfl) (by simp) ?_
          refine AllReadyH.cons (o := { dst := some 41, op := Go.Op.call { callee := Go.Callee.builtin Go.Builtin.append, args := #[Go.Operand.tmp 32, Go.Operand.tmp 40], argTypes := #[24, 24] }, type := 24, pos := "l10_chain.go:82", after := #[{ on := 1, ground := Go.Ground.data }, { on := 9, ground := Go.Ground.data }], guard := none }) rfl (fun K hK => ?_) AllReadyH.nil
          refine step_append_int hOD z rfl _ _ rfl rfl rfl (by have := unhide HLN; omega) (by omega) ?_
          intro g cap w5 hO5 hg5 hb5 hgl hz5
          have hS5 := hDB.trans (hb5.mono (by omega))
          have hC5 := box_lowC hCD hb5 (by omega)
          have hR5 := box_lowC hRD hb5 (by omega)
          have y1 := Box.at hC5 1 _ rfl
          simp only [List.getElem_toArray, List.getElem_cons_zero, List.getElem_cons_succ] at y1
          have yf := Box.soft hC5
          have yl := Box.lt hC5
          refine hK.out _ _ hS5 (fun hHeld => ?_)
          clear hK K
          try simp only [Act.put, List.setIfInBounds_toArray, List.set_cons_zero, List.set_cons_succ]
          refine wpAnyH_take (i := 11) (oi := { dst := some 42, op := Go.Op.fieldAddr 26 (Go.Operand.tmp 5) 1, type := 0, pos := "l10_chain.go:82", after := #[{ on := 0, ground := Go.Ground.phase }, { on := 1, ground := Go.Ground.phase }, { on := 2, ground := Go.Ground.phase }, { on := 3, ground := Go.Ground.phase }, { on := 4, ground := Go.Ground.phase }, { on := 5, ground := Go.Ground.phase }, { on := 6, ground := Go.Ground.phase }, { on := 7, ground := Go.Ground.phase }, { on := 8, ground := Go.Ground.phase }, { on := 9, ground := Go.Ground.phase }, { on := 10, ground := Go.Ground.phase }], guard := none }) (v := ?vu11_10) rfl (by kernel_rfl) (by kernel_rfl) (by kernel_rfl) (fun _ _ _ h => h) (Or.inl ⟨by rfl, ?hu11_10⟩) hHeld ?ru11_10
          case hu11_10 =>
            intro wS hSw
            (try dsimp only at hSw)
            go_simp
            try with_reducible rfl
          case ru11_10 =>
          simp only [Act.put, List.setIfInBounds_toArray, List.set_cons_zero, List.set_cons_succ]
          refine wpAnyH_ready (rs := [12]) (by kernel_rfl) (by simp) ?_
          refine AllReadyH.cons (o := { dst := none, op := Go.Op.store 24 (Go.Operand.tmp 42) (Go.Operand.tmp 41), type := 0, pos := "l10_chain.go:82", after := #[{ on := 11, ground := Go.Ground.data }, { on := 10, ground := Go.Ground.data }, { on := 10, ground := Go.Ground.chain }, { on := 0, ground := Go.Ground.phase }, { on := 1, ground := Go.Ground.phase }, { on := 2, ground := Go.Ground.phase }, { on := 3, ground := Go.Ground.phase }, { on := 4, ground := Go.Ground.phase }, { on := 5, ground := Go.Ground.phase }, { on := 6, ground := Go.Ground.phase }, { on := 7, ground := Go.Ground.phase }, { on := 8, ground := Go.Ground.phase }, { on := 9, ground := Go.Ground.phase }, { on := 10, ground := Go.Ground.phase }], guard := none }) rfl (fun K hK => ?_) AllReadyH.nil
          go_simp
          try go_wp2_with fail
          refine hK.out _ _ (hS5.setCell (p := ⟨w.heap.size + 1, 1, none⟩) (by simp) (.slice (some ⟨g, 0, none⟩) ((cutL (x.ids.take k) id).length + 1) cap)) (fun hHeld => ?_)
          clear hK K
          try simp only [Act.put, List.setIfInBounds_toArray, List.set_cons_zero, List.set_cons_succ]
          refine wpAnyH_done (by kernel_rfl) ?_ _
          refine NoPanic.normal ?_
          have HC6 : Hid (Box 0 #[.int .i64 (x.epoch + 1), .slice (some ⟨g, 0, none⟩) ((cutL (x.ids.take k) id).length + 1) cap] 26 (w5.setCell ⟨w.heap.size + 1, 1, none⟩ (.slice (some ⟨g, 0, none⟩) ((cutL (x.ids.take k) id).length + 1) cap)) (w.heap.size + 1)) := Box.set hC5 1 (.slice (some ⟨g, 0, none⟩) ((cutL (x.ids.take k) id).length + 1) cap)
          have HR6 := hide (hR5.other ⟨w.heap.size + 1, 1, none⟩ (.slice (some ⟨g, 0, none⟩) ((cutL (x.ids.take k) id).length + 1) cap) (by simp))
          have HO6 : Hid (World.ownsRow (w5.setCell ⟨w.heap.size + 1, 1, none⟩ (.slice (some ⟨g, 0, none⟩) ((cutL (x.ids.take k) id).length + 1) cap)) (w.heap.size + 2) 2 1 (.slice (some ⟨g, 0, none⟩) ((cutL (x.ids.take k) id).length + 1) cap) (cutL (x.ids.take (k + 1)) id).length ((cutL (x.ids.take (k + 1)) id).map (Value.int .i64))) := by
            have := own_setC (a := ⟨w.heap.size + 1, 1, none⟩) hO5 (by simp) (.slice (some ⟨g, 0, none⟩) ((cutL (x.ids.take k) id).length + 1) cap)
            rw [unhide HST, List.length_append, List.map_append]
            exact this
          have HB6 := hide (((unhide HBr).trans ((hDB.trans (hb5.mono (by omega))).mono (by omega))).setCell (p := ⟨w.heap.size + 1, 1, none⟩) (by simp) (.slice (some ⟨g, 0, none⟩) ((cutL (x.ids.take k) id).length + 1) cap))
          clear hHeld hCD hRD hOD hDB hC9 nb9 hS9 hS5 hC5 hR5 hO5 hg5 hb5 c1 cl
          go_wp2_with fail
          go_roundw
          case rel => exact ⟨k + 1, _, by omega, by go_num, unhide HC6, unhide HR6, unhide HO6, by simp; omega, unhide HB6⟩
          case measure => simp [intOf]; omega
        case ou9_9 =>
          have nb9 : Below wD.heap.size wD (wD.alloc (.cells #[.int .i64 z] 2)) := (Below.refl _ _).alloc (Nat.le_refl _) _
          have hC9 := hCD.keep nb9
          have hS9 := hHeld.trans (nb9.mono (by omega))
          go_simp
          try go_wp2_with fail
          refine hK.out _ _ hS9 (fun hHeld => ?_)
          clear hK K
          try simp only [Act.put, List.setIfInBounds_toArray, List.set_cons_zero, List.set_cons_succ]
          refine wpAnyH_ready (rs := [1]) (by kernel_rfl) (by simp) ?_
          refine AllReadyH.cons (o := { dst := some 32, op := Go.Op.load 24 (Go.Operand.tmp 31), type := 24, pos := "l10_chain.go:82", after := #[{ on := 0, ground := Go.Ground.data }], guard := none }) rfl (fun K hK => ?_) AllReadyH.nil
          have c1 := Box.at hC9 1 _ rfl
          simp only [List.getElem_toArray, List.getElem_cons_zero, List.getElem_cons_succ] at c1
          have cl := Box.lt hC9
          go_simp
          try go_wp2_with fail
          refine hK.out _ _ hHeld (fun hHeld => ?_)
          clear hK K
          try simp only [Act.put, List.setIfInBounds_toArray, List.set_cons_zero, List.set_cons_succ]
          refine wpAnyH_ready (rs := [10]) (by kernel_rfl) (by simp) ?_
          refine AllReadyH.cons (o := { dst := some 41, op := Go.Op.call { callee := Go.Callee.builtin Go.Builtin.append, args := #[Go.Operand.tmp 32, Go.Operand.tmp 40], argTypes := #[24, 24] }, type := 24, pos := "l10_chain.go:82", after := #[{ on := 1, ground := Go.Ground.data }, { on := 9, ground := Go.Ground.data }], guard := none }) rfl (fun K hK => ?_) AllReadyH.nil
          refine step_append_int hOD z rfl _ _ rfl rfl rfl (by have := unhide HLN; omega) (by omega) ?_
          intro g cap w5 hO5 hg5 hb5 hgl hz5
          have hS5 := hDB.trans (hb5.mono (by omega))
          have hC5 := box_lowC hCD hb5 (by omega)
          have hR5 := box_lowC hRD hb5 (by omega)
          have y1 := Box.at hC5 1 _ rfl
          simp only [List.getElem_toArray, List.getElem_cons_zero, List.getElem_cons_succ] at y1
          have yf := Box.soft hC5
          have yl := Box.lt hC5
          refine hK.out _ _ hS5 (fun hHeld => ?_)
          clear hK K
          try simp only [Act.put, List.setIfInBounds_toArray, List.set_cons_zero, List.set_cons_succ]
          refine wpAnyH_take (i := 11) (oi := { dst := some 42, op := Go.Op.fieldAddr 26 (Go.Operand.tmp 5) 1, type := 0, pos := "l10_chain.go:82", after := #[{ on := 0, ground := Go.Ground.phase }, { on := 1, ground := Go.Ground.phase }, { on := 2, ground := Go.Ground.phase }, { on := 3, ground := Go.Ground.phase }, { on := 4, ground := Go.Ground.phase }, { on := 5, ground := Go.Ground.phase }, { on := 6, ground := Go.Ground.phase }, { on := 7, ground := Go.Ground.phase }, { on := 8, ground := Go.Ground.phase }, { on := 9, ground := Go.Ground.phase }, { on := 10, ground := Go.Ground.phase }], guard := none }) (v := ?vu11_11) rfl (by kernel_rfl) (by kernel_rfl) (by kernel_rfl) (fun _ _ _ h => h) (Or.inl ⟨by rfl, ?hu11_11⟩) hHeld ?ru11_11
          case hu11_11 =>
            intro wS hSw
            (try dsimp only at hSw)
            go_simp
            try with_reducible rfl
          case ru11_11 =>
          simp only [Act.put, List.setIfInBounds_toArray, List.set_cons_zero, List.set_cons_succ]
          refine wpAnyH_ready (rs := [12]) (by kernel_rfl) (by simp) ?_
          refine AllReadyH.cons (o := { dst := none, op := Go.Op.store 24 (Go.Operand.tmp 42) (Go.Operand.tmp 41), type := 0, pos := "l10_chain.go:82", after := #[{ on := 11, ground := Go.Ground.data }, { on := 10, ground := Go.Ground.data }, { on := 10, ground := Go.Ground.chain }, { on := 0, ground := Go.Ground.phase }, { on := 1, ground := Go.Ground.phase }, { on := 2, ground := Go.Ground.phase }, { on := 3, ground := Go.Ground.phase }, { on := 4, ground := Go.Ground.phase }, { on := 5, ground := Go.Ground.phase }, { on := 6, ground := Go.Ground.phase }, { on := 7, ground := Go.Ground.phase }, { on := 8, ground := Go.Ground.phase }, { on := 9, ground := Go.Ground.phase }, { on := 10, ground := Go.Ground.phase }], guard := none }) rfl (fun K hK => ?_) AllReadyH.nil
          go_simp
          try go_wp2_with fail
          refine hK.out _ _ (hS5.setCell (p := ⟨w.heap.size + 1, 1, none⟩) (by simp) (.slice (some ⟨g, 0, none⟩) ((cutL (x.ids.take k) id).length + 1) cap)) (fun hHeld => ?_)
          clear hK K
          try simp only [Act.put, List.setIfInBounds_toArray, List.set_cons_zero, List.set_cons_succ]
          refine wpAnyH_done (by kernel_rfl) ?_ _
          refine NoPanic.normal ?_
          have HC6 : Hid (Box 0 #[.int .i64 (x.epoch + 1), .slice (some ⟨g, 0, none⟩) ((cutL (x.ids.take k) id).length + 1) cap] 26 (w5.setCell ⟨w.heap.size + 1, 1, none⟩ (.slice (some ⟨g, 0, none⟩) ((cutL (x.ids.take k) id).length + 1) cap)) (w.heap.size + 1)) := Box.set hC5 1 (.slice (some ⟨g, 0, none⟩) ((cutL (x.ids.take k) id).length + 1) cap)
          have HR6 := hide (hR5.other ⟨w.heap.size + 1, 1, none⟩ (.slice (some ⟨g, 0, none⟩) ((cutL (x.ids.take k) id).length + 1) cap) (by simp))
          have HO6 : Hid (World.ownsRow (w5.setCell ⟨w.heap.size + 1, 1, none⟩ (.slice (some ⟨g, 0, none⟩) ((cutL (x.ids.take k) id).length + 1) cap)) (w.heap.size + 2) 2 1 (.slice (some ⟨g, 0, none⟩) ((cutL (x.ids.take k) id).length + 1) cap) (cutL (x.ids.take (k + 1)) id).length ((cutL (x.ids.take (k + 1)) id).map (Value.int .i64))) := by
            have := own_setC (a := ⟨w.heap.size + 1, 1, none⟩) hO5 (by simp) (.slice (some ⟨g, 0, none⟩) ((cutL (x.ids.take k) id).length + 1) cap)
            rw [unhide HST, List.length_append, List.map_append]
            exact this
          have HB6 := hide (((unhide HBr).trans ((hDB.trans (hb5.mono (by omega))).mono (by omega))).setCell (p := ⟨w.heap.size + 1, 1, none⟩) (by simp) (.slice (some ⟨g, 0, none⟩) ((cutL (x.ids.take k) id).length + 1) cap))
          clear hHeld hCD hRD hOD hDB hC9 nb9 hS9 hS5 hC5 hR5 hO5 hg5 hb5 c1 cl
          go_wp2_with fail
          go_roundw
          case rel => exact ⟨k + 1, _, by omega, by go_num, unhide HC6, unhide HR6, unhide HO6, by simp; omega, unhide HB6⟩
          case measure => simp [intOf]; omega
    · obtain rfl : k = x.ids.length := by omega
      rw [List.take_length] at hO
      have hdl : decide ((x.ids.length : Int) < (x.ids.length : Int)) = false := by simp
      obtain ⟨a9, c9, rfl⟩ := own_shape hO
      have c0 := Box.at hC 0 _ rfl
      have c1 := Box.at hC 1 _ rfl
      have z0 := Box.at hR 0 _ rfl
      have z1 := Box.at hR 1 _ rfl
      simp only [List.getElem_toArray, List.getElem_cons_zero, List.getElem_cons_succ] at c0 c1 z0 z1
      have cl := Box.lt hC
      have ff := Box.soft hR
      have l0 := Box.lt hR
      have HO6 : Hid (World.ownsRow ((wr.setCell ⟨w.heap.size, 0, none⟩ (.int .i64 (x.epoch + 1))).setCell ⟨w.heap.size, 1, none⟩ (.slice a9 (cutL x.ids id).length c9)) w.heap.size 2 1 (.slice a9 (cutL x.ids id).length c9) (cutL x.ids id).length ((cutL x.ids id).map (Value.int .i64))) := own_mono (by omega) (own_setC (a := ⟨w.heap.size, 1, none⟩) (own_setC (a := ⟨w.heap.size, 0, none⟩) hO (by simp) (.int .i64 (x.epoch + 1))) (by simp) _)
      have HB6 := hide ((hB.setCell (p := ⟨w.heap.size, 0, none⟩) (Nat.le_refl _) (.int .i64 (x.epoch + 1))).setCell (p := ⟨w.heap.size, 1, none⟩) (Nat.le_refl _) (.slice a9 (cutL x.ids id).length c9))
      clear hC hR hO hB
      go_wp2_with fail
      refine bodyPost_ret (v := .agg #[.int .i64 (x.epoch + 1), .slice a9 (cutL x.ids id).length c9]) (by simp [results, Tryd.results26, go_sem, z0, z1]) rfl ?_
      exact ⟨_, rfl, unhide HO6, unhide HB6⟩
set_option maxRecDepth 10000 in
set_option maxHeartbeats 2000000 in
theorem specCutChain (cs : List Value) (x : DChain) (id : Int) (w : World) (h : Lay.tChain.Reads w cs x) :
    Calls Tryd.prog 8 #[.agg cs.toArray, .int .i64 id] w fun e w' => ∃ cs, e = .returned (.agg cs.toArray) ∧ Lay.tChainResult.OwnIn w' cs (cutR x id) w.heap.size w'.heap.size ∧ Below w.heap.size w w' := by
  obtain ⟨a, d, rfl, R⟩ := open_Chain h
  have nb : Below w.heap.size w ((w.alloc (.cells #[.int .i64 x.epoch, .slice a x.ids.length d] 26)).alloc (.cells #[.int .i64 0, .int .i64 0, .slice none 0 0] 30)) := ((Below.refl _ _).alloc (Nat.le_refl _) _).alloc (by simp) _
  have hX : ChainAt ((w.alloc (.cells #[.int .i64 x.epoch, .slice a x.ids.length d] 26)).alloc (.cells #[.int .i64 0, .int .i64 0, .slice none 0 0] 30)) w.heap.size (.slice a x.ids.length d) x := (newBox (Nat.zero_le _)).grow _
  have bR : Box 0 #[.int .i64 0, .int .i64 0, .slice none 0 0] 30 ((w.alloc (.cells #[.int .i64 x.epoch, .slice a x.ids.length d] 26)).alloc (.cells #[.int .i64 0, .int .i64 0, .slice none 0 0] 30)) (w.heap.size + 1) := newBoxAt (Nat.zero_le _) (by simp)
  have HF := hide (l10FaultC w.heap.size a d x _ hX (R.later nb))
  have HA := hide (l10AtC w.heap.size a d x id _ hX (R.later nb))
  have H := hide (R.later nb)
  have HWF := hide (int_wf R)
  have x0 := Box.at hX 0 _ rfl
  have x1 := Box.at hX 1 _ rfl
  have z0 := Box.at bR 0 _ rfl
  have z1 := Box.at bR 1 _ rfl
  have z2 := Box.at bR 2 _ rfl
  simp only [List.getElem_toArray, List.getElem_cons_zero, List.getElem_cons_succ] at x0 x1 z0 z1 z2
  have ff := Box.soft bR
  have l0 := Box.lt bR
  have xl := Box.lt hX
  have HB := hide nb
  have HX := hide hX
  have HR := hide bR
  clear h R nb hX bR
  go_enter Tryd.func8, Tryd.ntmps8
  go_wp2_with fail
  generalize (w.alloc (.cells #[.int .i64 x.epoch, .slice a x.ids.length d] 26)).alloc (.cells #[.int .i64 0, .int .i64 0, .slice none 0 0] 30) = W at *
  refine (unhide HF).mono ?_
  rintro e w1 ⟨rfl, h1⟩
  subst w1
  clear HF
  by_cases hc : chainFault x = 0
  · have ok := chainFault_zero hc
    have hlen := ok.len
    have hep := ok.epoch
    have HV0 : Hid (cutR x id = _) := (if_pos hc)
    rw [hc]
    clear hc ok
    go_wp2_with fail
    refine (unhide HA).mono ?_
    rintro e w1 ⟨rfl, h1⟩
    subst w1
    clear HA
    by_cases h0 : placeC x.ids id < 0
    · have HV : Hid (cutR x id = badChain 4) := (unhide HV0).trans (if_pos h0)
      have hd0 : decide (placeC x.ids id < 0) = true := by simpa using h0
      clear HV0
      generalize placeC x.ids id = p at *
      have HB2 := hide (below_setAll (unhide HB) (w.heap.size + 1) 0 [.int .i64 (4), .int .i64 0, .slice none 0 0] (by omega))
      clear HB
      go_wp2_with fail
      refine bodyPost_ret (v := .agg #[.int .i64 (4), .int .i64 0, .slice none 0 0]) (by simp [results, Tryd.results8, go_sem, z0, z1, z2]) rfl ?_
      rw [unhide HV]
      exact ⟨_, rfl, own_badChain (by omega), unhide HB2⟩
    · have hd0 : decide (placeC x.ids id < 0) = false := by simpa using h0
      have HV1 := hide ((unhide HV0).trans (if_neg h0))
      clear HV0
      generalize placeC x.ids id = p at *
      by_cases h1 : x.ids.length = 1
      · have HV : Hid (cutR x id = badChain 8) := (unhide HV1).trans (if_pos h1)
        have hd1 : ((x.ids.length : Int) == 1) = true := by rw [h1]; rfl
        clear HV1 h1
        have HB2 := hide (below_setAll (unhide HB) (w.heap.size + 1) 0 [.int .i64 (8), .int .i64 0, .slice none 0 0] (by omega))
        clear HB
        go_wp2_with fail
        refine bodyPost_ret (v := .agg #[.int .i64 (8), .int .i64 0, .slice none 0 0]) (by simp [results, Tryd.results8, go_sem, z0, z1, z2]) rfl ?_
        rw [unhide HV]
        exact ⟨_, rfl, own_badChain (by omega), unhide HB2⟩
      · have HV2 := hide ((unhide HV1).trans (if_neg h1))
        have hd1 : ((x.ids.length : Int) == 1) = false := by rw [beq_eq_false_iff_ne]; omega
        clear HV1
        by_cases h2 : 999 ≤ x.epoch
        · have HV : Hid (cutR x id = badChain 2) := (unhide HV2).trans (if_pos h2)
          have hd2 : decide ((999 : Int) ≤ x.epoch) = true := by simpa using h2
          clear HV2
          have HB2 := hide (below_setAll (unhide HB) (w.heap.size + 1) 0 [.int .i64 (2), .int .i64 0, .slice none 0 0] (by omega))
          clear HB
          go_wp2_with fail
          refine bodyPost_ret (v := .agg #[.int .i64 (2), .int .i64 0, .slice none 0 0]) (by simp [results, Tryd.results8, go_sem, z0, z1, z2]) rfl ?_
          rw [unhide HV]
          exact ⟨_, rfl, own_badChain (by omega), unhide HB2⟩
        · have HV : Hid (cutR x id = ⟨0, ⟨x.epoch + 1, cutL x.ids id⟩⟩) := (unhide HV2).trans (if_neg h2)
          have hd2 : decide ((999 : Int) ≤ x.epoch) = false := by simpa using h2
          have HL := hide (l10CutC w.heap.size a d x id W (unhide HX) (unhide H) (by omega) (by omega))
          have hcl := cutL_len x.ids id
          clear HV2 z0 z1 z2 ff l0
          go_wp2_with fail
          refine (unhide HL).mono ?_
          rintro e w1 ⟨v, rfl, hO, hb⟩
          obtain ⟨a9, c9, rfl⟩ := own_shape hO
          clear HL
          have bR := (unhide HR).keep hb
          have hlt := (unhide HR).lt
          have z0 := Box.at bR 0 _ rfl
          have z1 := Box.at bR 1 _ rfl
          have z2 := Box.at bR 2 _ rfl
          simp only [List.getElem_toArray, List.getElem_cons_zero, List.getElem_cons_succ] at z0 z1 z2
          have ff := Box.soft bR
          have l0 := Box.lt bR
          have hB1 := (unhide HB).trans (hb.mono (unhide HB).size)
          have HB2 := hide (below_setAll hB1 (w.heap.size + 1) 0 [.int .i64 0, .int .i64 (x.epoch + 1), .slice a9 (cutL x.ids id).length c9] (by omega))
          have hO2 : (setAll w1 (w.heap.size + 1) 0 [.int .i64 0, .int .i64 (x.epoch + 1), .slice a9 (cutL x.ids id).length c9]).ownsRow W.heap.size 2 1 (.slice a9 (cutL x.ids id).length c9) (cutL x.ids id).length ((cutL x.ids id).map (Value.int .i64)) := own_setC (a := ⟨w.heap.size + 1, 2, none⟩) (own_setC (a := ⟨w.heap.size + 1, 1, none⟩) (own_setC (a := ⟨w.heap.size + 1, 0, none⟩) hO hlt (.int .i64 0)) hlt (.int .i64 (x.epoch + 1))) hlt _
          have HO3 := hide (own_chainR (c := 0) (x := ⟨x.epoch + 1, cutL x.ids id⟩) (by decide) (wf_of_bd (by simp only; omega)) (own_intsC (zs := cutL x.ids id) (fun z hz => unhide HWF z (List.mem_filter.1 hz).1) (by omega) (own_mono (b' := w.heap.size) (by omega) hO2)))
          clear bR hO hb hB1 hO2 HB HR
          go_wp2_with fail
          refine bodyPost_ret (v := .agg #[.int .i64 0, .int .i64 (x.epoch + 1), .slice a9 (cutL x.ids id).length c9]) (by simp [results, Tryd.results8, go_sem, z0, z1, z2]) rfl ?_
          rw [unhide HV]
          exact ⟨_, rfl, unhide HO3, unhide HB2⟩
  · have HV := hide (cutR_bad (id := id) hc)
    have hv := chainFault_vals x
    have hc2 : (chainFault x != 0) = true := by simpa using hc
    clear hc HA
    generalize chainFault x = f at *
    have HB2 := hide (below_setAll (unhide HB) (w.heap.size + 1) 0 [.int .i64 (f), .int .i64 0, .slice none 0 0] (by omega))
    clear HB
    go_wp2_with fail
    refine bodyPost_ret (v := .agg #[.int .i64 (f), .int .i64 0, .slice none 0 0]) (by simp [results, Tryd.results8, go_sem, z0, z1, z2]) rfl ?_
    rw [unhide HV]
    exact ⟨_, rfl, own_badChain (by omega), unhide HB2⟩
end Go.Proofs.YtceoaphcjnfphaaDoor

namespace Go.Proofs.YtceoaphcjnfphaaDoor
open Go.RowKit

theorem append_noneI {P : Program} (t ty e : TypeId) (i : TypeInfo) (ht : P.underlying t = some (.slice e)) (hi : P.info? e = some i) (bo : Option Addr) (n cap c : Nat) (hn : n ≤ cap) (w : World) :
    (Builtin.append_ #[t, t] ty #[.slice bo n cap, .slice none 0 c]).run P w = (Builtin.append_ #[t, t] ty #[.slice bo n cap, .slice (some ⟨0, 0, none⟩) 0 c]).run P w := by
  simp [Builtin.append_, run_underlying ht, sizeOf, typeInfo, hi, Builtin.lenOf, hn, Builtin.firstCells, loadCells, loadCellsFrom]

theorem IsInts.news {w : World} {b off cap : Nat} {zs : List Int} (h : IsInts w (.slice (some ⟨b, off, none⟩) zs.length cap) zs) (hp : 0 < zs.length) : ∀ j u, (zs.map (Value.int .i64))[j]? = some u → w.cell? ((⟨b, off, none⟩ : Addr).add j) = some u := by
  intro j u hu
  obtain ⟨ao, cp, hv, hwf, hc⟩ := h
  obtain ⟨b', off', hao, hc1⟩ := hc hp
  simp only [Value.slice.injEq] at hv
  obtain ⟨rfl, -, -⟩ := hv
  simp only [Option.some.injEq, Addr.mk.injEq, and_true] at hao
  obtain ⟨rfl, rfl⟩ := hao
  have hj : j < zs.length := by
    have := (List.getElem?_eq_some_iff.1 hu).1
    simpa using this
  rw [Addr.add_lit, hc1 j hj]
  simp [hj] at hu
  simp [List.getD, hj, hu]

theorem run_append_ints {w : World} (base ty : Nat) (v : Value) (n : Nat) (xs : List Value) (hown : w.ownsRow base 2 1 v n xs) (x : Value) (ks : List Int) (hx : IsInts w x ks)
    (hn : n + ks.length ≤ 100000000) (hbase : base ≤ w.heap.size) :
    ∃ v' w', (Builtin.append_ #[24, 24] ty #[v, x]).run Tryd.prog w = .ok v' w' ∧ w'.ownsRow base 2 1 v' (n + ks.length) (xs ++ ks.map (Value.int .i64)) ∧ w.grownBy w' v.ownBlock := by
  obtain ⟨i0, hi, hz0, hz1, hz2⟩ := info_parts info2
  have hml : n + ks.length ≤ maxLen := by unfold maxLen; omega
  by_cases hp : 0 < ks.length
  · have hx' := hx
    obtain ⟨ao, cap, rfl, hwf, hc⟩ := hx'
    obtain ⟨b, off, rfl, hc1⟩ := hc hp
    obtain ⟨v', w', r1, r2, r3, -, -⟩ := run_append_own_at (P := Tryd.prog) w base 24 ty 2 i0 _ 1 8 Tryd.underlying24 hi hz0 hz1 hz2 rfl (by omega) v n xs hown ⟨b, off, none⟩ ks.length cap (ks.map (Value.int .i64)) (by simp) (hx.news hp) (by simp [Value.oneCell']) hml (by omega) hbase
    exact ⟨v', w', r1, r2, r3⟩
  · obtain rfl : ks = [] := List.eq_nil_of_length_eq_zero (by omega)
    obtain ⟨ao, cap, rfl, hwf, hc⟩ := hx
    cases ao with
    | none =>
      obtain ⟨v', w', r1, r2, r3, -, -⟩ := run_append_own_at (P := Tryd.prog) w base 24 ty 2 i0 _ 1 8 Tryd.underlying24 hi hz0 hz1 hz2 rfl (by omega) v n xs hown ⟨0, 0, none⟩ 0 cap [] rfl (by simp) (by simp) hml (by simp at hn; omega) hbase
      refine ⟨v', w', ?_, r2, r3⟩
      rcases hown.2 with ⟨rfl, h0⟩ | ⟨g, cp, cur, rfl, _, _, hle, _⟩
      · exact (append_noneI _ _ _ i0 Tryd.underlying24 hi none 0 0 cap (Nat.le_refl _) w).trans r1
      · exact (append_noneI _ _ _ i0 Tryd.underlying24 hi _ n cp cap hle w).trans r1
    | some ad =>
      obtain ⟨v', w', r1, r2, r3, -, -⟩ := run_append_own_at (P := Tryd.prog) w base 24 ty 2 i0 _ 1 8 Tryd.underlying24 hi hz0 hz1 hz2 rfl (by omega) v n xs hown ad 0 cap [] rfl (by simp) (by simp) hml (by simp at hn; omega) hbase
      exact ⟨v', w', r1, r2, r3⟩

/-- The same at an operation of a plain region. -/
theorem wpList_append_ints {w : World} {base : Nat} {v : Value} {n : Nat} {xs : List Value} (hown : w.ownsRow base 2 1 v n xs) {X : Value} {ks : List Int} (hx : IsInts w X ks)
    {ops : Array Oper} {rest : List Oper} {o : Oper} {a : Act} {Q : Exit → Act → World → Prop} (hgd : o.guard = none) (s x : Operand)
    (ho : o.op = .call { callee := .builtin .append, args := #[s, x], argTypes := #[24, 24] }) (hv : a.eval s = v) (hX : a.eval x = X)
    (hn : n + ks.length ≤ 100000000) (hbase : base ≤ w.heap.size)
    (h : ∀ v' w', w'.ownsRow base 2 1 v' (n + ks.length) (xs ++ ks.map (Value.int .i64)) → w.grownBy w' v.ownBlock → Below base w w' → wpList Tryd.prog ops Q rest (a.put o.dst v') w') :
    wpList Tryd.prog ops Q (o :: rest) a w := by
  refine wpList_plain hgd fun K hK => ?_
  obtain ⟨v', w', hr, h2, h3⟩ := run_append_ints base o.type v n xs hown X ks hx hn hbase
  unfold Oper.wp execOp
  simp only [ho, resolve, invoke, builtin, Sem.run_bind, Sem.run_pure, Result.andThen_ok, List.map_toArray, List.map_cons, List.map_nil, hv, hX, hr]
  exact hK _ _ (h v' w' h2 h3 ((Below.refl _ _).grown h3 hbase (fun j hj => (hown.lt j hj).1)))

end Go.Proofs.YtceoaphcjnfphaaDoor

namespace Go.Proofs.YtceoaphcjnfphaaDoor
open Go.RowKit

set_option maxHeartbeats 400000 in
theorem l1Ints (v : Value) (zs : List Int) (w : World) (h : IsInts w v zs) (hn : zs.length ≤ 100000000) :
    Calls Tryd.prog 59 #[v] w fun e w' => ∃ v', e = .returned v' ∧ w'.ownsRow w.heap.size 2 1 v' zs.length (zs.map (Value.int .i64)) ∧ Below w.heap.size w w' := by
  have nb : Below w.heap.size w (w.alloc (.cells #[] 2)) := (Below.refl _ _).alloc (Nat.le_refl _) _
  have O : (w.alloc (.cells #[] 2)).ownsRow w.heap.size 2 1 (.slice (some ⟨w.heap.size, 0, none⟩) 0 0) 0 [] := World.ownsRow_lit w _ 0 (Nat.le_refl _) (by unfold maxLen; omega) rfl
  have h1 := h.later nb
  obtain ⟨ao, cap, rfl, -⟩ := h
  have HB := hide nb
  clear nb
  go_enter Tryd.func59, Tryd.ntmps59
  go_wp2_with (at_builtin; refine wpList_append_ints O h1 rfl _ _ rfl rfl rfl (by omega) (by simp) ?_)
  rintro v' w' O2 - hb
  have HB2 := hide ((unhide HB).trans hb)
  clear O h1 hb HB
  go_wp2_with fail
  go_ret
  exact ⟨v', rfl, by simpa using O2, unhide HB2⟩

end Go.Proofs.YtceoaphcjnfphaaDoor

namespace Go.Proofs.YtceoaphcjnfphaaDoor
open Go.RowKit

theorem one_ints {w : World} {b : Nat} {id : Int} (h : Box 0 #[.int .i64 id] 2 w b) (hw : (Lit.int .i64 id).wf = true) : IsInts w (.slice (some ⟨b, 0, none⟩) 1 1) [id] :=
  isInts_row (zs := [id]) (base := 0) (T := 2) (by intro z hz; rw [List.mem_singleton.1 hz]; exact hw) ⟨by simp, Or.inr ⟨b, 1, #[.int .i64 id], rfl, Nat.zero_le _, h.2, Nat.le_refl _, by unfold maxLen; omega, rfl, rfl⟩⟩
end Go.Proofs.YtceoaphcjnfphaaDoor

namespace Go.Proofs.YtceoaphcjnfphaaDoor
open Go.RowKit

theorem step_append_ints {w : World} {base : Nat} {v : Value} {n : Nat} {xs : List Value} (hown : w.ownsRow base 2 1 v n xs) {X : Value} {ks : List Int} (hx : IsInts w X ks)
    {ops : Array Oper} {o : Oper} {a : Act} {K : Act → World → Prop} {Q : Exit → Act → World → Prop} {E : Prop} (hgd : o.guard = none) (s x : Operand)
    (ho : o.op = .call { callee := .builtin .append, args := #[s, x], argTypes := #[24, 24] }) (hv : a.eval s = v) (hX : a.eval x = X)
    (hn : n + ks.length ≤ 100000000) (hbase : base ≤ w.heap.size)
    (h : ∀ v' w', w'.ownsRow base 2 1 v' (n + ks.length) (xs ++ ks.map (Value.int .i64)) → w.grownBy w' v.ownBlock → Below base w w' → K (a.put o.dst v') w') :
    if Region.wanted o (yielded ops a.tmps) = true then Oper.wp Tryd.prog o a w K Q else E := by
  rw [if_pos (show Region.wanted o (yielded ops a.tmps) = true by simp [Region.wanted, hgd])]
  obtain ⟨v', w', hr, h2, h3⟩ := run_append_ints base o.type v n xs hown X ks hx hn hbase
  unfold Oper.wp execOp
  simp only [ho, resolve, invoke, builtin, Sem.run_bind, Sem.run_pure, Result.andThen_ok, List.map_toArray, List.map_cons, List.map_nil, hv, hX, hr]
  exact h v' w' h2 h3 ((Below.refl _ _).grown h3 hbase (fun j hj => (hown.lt j hj).1))

end Go.Proofs.YtceoaphcjnfphaaDoor
