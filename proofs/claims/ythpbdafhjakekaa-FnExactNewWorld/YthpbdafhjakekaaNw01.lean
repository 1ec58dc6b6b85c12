/-
  Small laws that the other texts lean on, in one text: Base, Box, Lay, LayLaw, LayRow, LayUpd, LayGrow.
  No condition.
-/
import Derived.WalkKit
import Derived.WalkSpells
import Derived.WalkSmall
import Derived.Deep.AppendLies

namespace Go.Proofs.Ythpbdafhjakekaa
open Go.RowKit

theorem hide {p : Prop} (h : p) : Hid p := h
theorem unhide {p : Prop} (h : Hid p) : p := h

def intRes (c v : Int) : Value := .agg #[.int .i64 c, .int .i64 v]
def intsRes (c : Int) (v : Value) : Value := .agg #[.int .i64 c, v]

theorem cell_drewN (w : World) (n : Nat) (a : Addr) : (w.drewN n).cell? a = w.cell? a := rfl
theorem frozen_drewN (w : World) (n : Nat) (a : Addr) : (w.drewN n).frozen? a = w.frozen? a := rfl
theorem heap_drewN (w : World) (n : Nat) : (w.drewN n).heap = w.heap := rfl
theorem below_drawn {B : Nat} {a w : World} (h : Below B a w) (n : Nat) : Below B a (w.drewN n) := h.trans ⟨rfl, rfl, rfl, Nat.le_refl _, fun _ _ => rfl⟩

theorem cell_keep {w wx : World} {a : Addr} {v : Value} (hb : Below w.heap.size w wx) (h : w.cell? a = some v) : wx.cell? a = some v := (hb.cell (World.block_lt_of_cell? _ _ h)).trans h
theorem new_cells {w : World} {T : TypeId} {x y : Value} : (w.alloc (.cells #[x, y] T)).cell? ⟨w.heap.size, 0, none⟩ = some x ∧ (w.alloc (.cells #[x, y] T)).cell? ⟨w.heap.size, 1, none⟩ = some y := by
  constructor <;> simp [go_sem]

theorem grown_trans {a b c : World} {r : Option Nat} (h : a.grownBy b r) (k : b.grownBy c r) : a.grownBy c r :=
  ⟨k.os.trans h.os, k.tape.trans h.tape, k.output.trans h.output, Nat.le_trans h.size k.size, fun i hi hr => (k.block i (Nat.lt_of_lt_of_le hi h.size) hr).trans (h.block i hi hr)⟩

/-- The slice v holds the numbers zs, each an int64. -/
def IsInts (w : World) (v : Value) (zs : List Int) : Prop :=
  ∃ ao cap, v = .slice ao zs.length cap ∧ (∀ z ∈ zs, (Lit.int .i64 z).wf = true) ∧
    (0 < zs.length → ∃ b off, ao = some ⟨b, off, none⟩ ∧ ∀ j, j < zs.length → w.cell? ⟨b, off + j, none⟩ = some (.int .i64 (zs.getD j 0)))

theorem IsInts.later {w w' : World} {v : Value} {zs : List Int} (h : IsInts w v zs) (hb : Below w.heap.size w w') : IsInts w' v zs := by
  obtain ⟨ao, cap, rfl, hwf, hc⟩ := h
  refine ⟨ao, cap, rfl, hwf, fun hp => ?_⟩
  obtain ⟨b, off, hao, hc1⟩ := hc hp
  refine ⟨b, off, hao, fun j hj => ?_⟩
  have h1 := hc1 j hj
  exact (hb.cell (World.block_lt_of_cell? _ _ h1)).trans h1

theorem IsInts.bound {w : World} {v : Value} {zs : List Int} (h : IsInts w v zs) : ∀ j, -9223372036854775808 ≤ zs.getD j 0 ∧ zs.getD j 0 ≤ 9223372036854775807 := by
  obtain ⟨ao, cap, rfl, hwf, _⟩ := h
  intro j
  by_cases hj : j < zs.length
  · have h1 := hwf (zs.getD j 0) (by simp [List.getD, hj])
    simpa [Lit.wf, IntKind.min, IntKind.max, IntKind.signed, IntKind.bits] using h1
  · simp [List.getD, List.getElem?_eq_none (by omega : zs.length ≤ j)]

/-- A block of numbers that lies whole. -/
theorem isInts_owned {w : World} {base T g : Nat} {zs : List Int} (hwf : ∀ z ∈ zs, (Lit.int .i64 z).wf = true)
    (h : w.ownsRow base T 1 (.slice (some ⟨g, 0, none⟩) zs.length zs.length) zs.length (zs.map (Value.int .i64))) : IsInts w (.slice (some ⟨g, 0, none⟩) zs.length zs.length) zs := by
  refine ⟨_, _, rfl, hwf, fun hp => ⟨g, 0, rfl, fun j hj => ?_⟩⟩
  rw [Nat.zero_add, h.cellAt j (by omega)]
  simp [List.getD, hj]

/-- Whatever owns a row of numbers holds them. -/
theorem isInts_row {w : World} {base T : Nat} {v : Value} {zs : List Int} (hwf : ∀ z ∈ zs, (Lit.int .i64 z).wf = true)
    (h : w.ownsRow base T 1 v zs.length (zs.map (Value.int .i64))) : IsInts w v zs := by
  rcases h.2 with ⟨rfl, h0⟩ | ⟨g, cap, cur, rfl, _⟩
  · have : zs = [] := List.eq_nil_of_length_eq_zero h0
    subst this
    exact ⟨none, 0, rfl, by simp, by simp⟩
  · refine ⟨_, _, rfl, hwf, fun hp => ⟨g, 0, rfl, fun j hj => ?_⟩⟩
    rw [Nat.zero_add, h.cellAt j (by omega)]
    simp [List.getD, hj]

theorem own_new3 {W : World} {base g : Nat} {T : TypeId} {x y z : Int} (hb : base ≤ W.heap.size) (hs : W.heap.size = g) :
    (W.alloc (.cells #[.int .i64 x, .int .i64 y, .int .i64 z] T)).ownsRow base T 1 (.slice (some ⟨g, 0, none⟩) 3 3) 3 ([x, y, z].map (Value.int .i64)) := by
  subst hs
  exact World.ownsRow_lit W _ 3 hb (by unfold maxLen; omega) rfl

theorem wf_of_bd {z : Int} (h : -1000000000 ≤ z ∧ z ≤ 1000000000) : (Lit.int .i64 z).wf = true := WalkArith.wf_i64 (by omega)

theorem IsInts.wf {w : World} {v : Value} {zs : List Int} (h : IsInts w v zs) : ∀ z ∈ zs, (Lit.int .i64 z).wf = true := by
  obtain ⟨_, _, _, hwf, _⟩ := h
  exact hwf

theorem lt_own {w : World} {base T sz g n cap : Nat} {xs : List Value} (h : w.ownsRow base T sz (.slice (some ⟨g, 0, none⟩) n cap) n xs) : g < w.heap.size := (h.lt g rfl).2

theorem own_shape {w : World} {base T sz : Nat} {v : Value} {n : Nat} {xs : List Value} (h : w.ownsRow base T sz v n xs) : ∃ ao cap, v = .slice ao n cap := by
  rcases h.2 with ⟨rfl, h0⟩ | ⟨g, cap, cur, rfl, _⟩
  · exact ⟨none, 0, by rw [h0]⟩
  · exact ⟨_, _, rfl⟩

theorem own_below {w w' : World} {base T sz : Nat} {v : Value} {n : Nat} {xs : List Value} (h : w.ownsRow base T sz v n xs) (hb : Below w.heap.size w w') : w'.ownsRow base T sz v n xs := by
  refine ⟨h.1, ?_⟩
  rcases h.2 with h2 | ⟨g, cap, cur, hv, hg, hh, r⟩
  · exact Or.inl h2
  · exact Or.inr ⟨g, cap, cur, hv, hg, (hb.block g (lt_of_block hh)).trans hh, r⟩

theorem own_mono {w : World} {b b' T sz : Nat} {v : Value} {n : Nat} {xs : List Value} (hb : b' ≤ b) (h : w.ownsRow b T sz v n xs) : w.ownsRow b' T sz v n xs := by
  refine ⟨h.1, ?_⟩
  rcases h.2 with h2 | ⟨g, cap, cur, hv, hg, r⟩
  · exact Or.inl h2
  · exact Or.inr ⟨g, cap, cur, hv, by omega, r⟩

/-- What a row's reading tells of a slice of int64 that came in. -/
theorem isInts_of_row {w : World} {a : Option Addr} {len cap : Nat} {zs : List Int} (h : (a = none ∧ len = 0 ∧ cap = 0 ∧ zs = []) ∨
    ∃ x, a = some x ∧ len ≤ cap ∧ cap ≤ maxLen ∧ zs.length = cap ∧ (∀ i, i < zs.length → w.cell? (x.add i) = some (.int .i64 (zs.getD i 0))) ∧ ∀ n ∈ zs, (Lit.int .i64 n).wf = true) :
    IsInts w (.slice a len cap) (zs.take len) := by
  rcases h with ⟨rfl, rfl, rfl, rfl⟩ | ⟨x, rfl, hl, hm, hz, hcell, hwz⟩
  · exact ⟨none, 0, rfl, by simp, by simp⟩
  · have hlen : (zs.take len).length = len := by simp; omega
    refine ⟨some x, cap, by rw [hlen], fun z hz => hwz z (List.mem_of_mem_take hz), fun hp => ?_⟩
    rw [hlen] at hp ⊢
    obtain ⟨b, off, spot⟩ := x
    have hc := hcell 0 (by omega)
    have hspot : spot = none := by simpa [Addr.add] using World.cell?_spot hc
    subst hspot
    refine ⟨b, off, rfl, fun j hj => ?_⟩
    have h1 := hcell j (by omega)
    have e : (zs.take len).getD j 0 = zs.getD j 0 := by simp [List.getD, hj]
    rw [e]
    rwa [Addr.add_lit] at h1

theorem set_fill (zs : List Int) (k : Nat) (hk : k < zs.length) :
    ((zs.take k).map (Value.int .i64) ++ List.replicate (zs.length - k) (Value.int .i64 0)).set k (.int .i64 (zs.getD k 0)) = (zs.take (k + 1)).map (Value.int .i64) ++ List.replicate (zs.length - (k + 1)) (Value.int .i64 0) := by
  have hl : ((zs.take k).map (Value.int .i64)).length = k := by simp; omega
  rw [List.set_append_right _ _ (by omega), hl, Nat.sub_self]
  obtain ⟨m, hm⟩ : ∃ m, zs.length - k = m + 1 := ⟨zs.length - k - 1, by omega⟩
  rw [hm, show zs.length - (k + 1) = m by omega, List.replicate_succ, List.set_cons_zero, List.take_succ_eq_append_getElem hk, List.map_append, List.append_assoc]
  simp [List.getD, hk]

end Go.Proofs.Ythpbdafhjakekaa

namespace Go.Proofs.Ythpbdafhjakekaa
open Go.RowKit

/-- The block s, not below lo, holds the cells cs. -/
def Box (lo : Nat) (cs : Array Value) (T : TypeId) (W : World) (s : Nat) : Prop := lo ≤ s ∧ W.heap[s]? = some (.cells cs T (0, 0))
theorem Box.drew {lo : Nat} {cs : Array Value} {T : TypeId} {W : World} {s : Nat} (h : Box lo cs T W s) : Box lo cs T W.drew s := h
theorem Box.lt {lo : Nat} {cs : Array Value} {T : TypeId} {W : World} {s : Nat} (h : Box lo cs T W s) : s < W.heap.size := lt_of_block h.2
theorem newBox {lo : Nat} {cs : Array Value} {T : TypeId} {W : World} (h : lo ≤ W.heap.size) : Box lo cs T (W.alloc (.cells cs T)) W.heap.size := ⟨h, heap_alloc_new W _⟩
theorem Box.keep {lo : Nat} {cs : Array Value} {T : TypeId} {W w' : World} {s : Nat} (h : Box lo cs T W s) (hb : Below W.heap.size W w') : Box lo cs T w' s := ⟨h.1, (hb.block s h.lt).trans h.2⟩
theorem own_setC {w : World} {base e size : Nat} {v : Value} {n : Nat} {xs : List Value} {a : Addr} (h : w.ownsRow base e size v n xs) (ha : a.block < base) (u : Value) : (w.setCell a u).ownsRow base e size v n xs := by
  refine ⟨h.1, ?_⟩
  rcases h.2 with h2 | ⟨g, cap, cur, hv, hg, hh, r⟩
  · exact Or.inl h2
  · exact Or.inr ⟨g, cap, cur, hv, hg, (heap_setCell_other w a g u (by omega)).trans hh, r⟩
theorem Box.two {lo : Nat} {x y : Value} {T : TypeId} {W : World} {s : Nat} (h : Box lo #[x, y] T W s) : W.cell? ⟨s, 0, none⟩ = some x ∧ W.cell? ⟨s, 1, none⟩ = some y ∧ (∀ o, W.frozen? ⟨s, o, none⟩ = false) ∧ s < W.heap.size := by
  refine ⟨?_, ?_, fun o => ?_, h.lt⟩
  · simp [World.cell?, h.2]
  · simp [World.cell?, h.2]
  · simp [World.frozen?, h.2]

end Go.Proofs.Ythpbdafhjakekaa

namespace Go.Proofs.Ythpbdafhjakekaa
open Go.RowKit

/-- Blocks outside S are as they were. -/
structure Ext (S : Nat → Prop) (w w' : World) : Prop where
  os : w'.os = w.os
  tape : w'.tape = w.tape
  output : w'.output = w.output
  size : w.heap.size ≤ w'.heap.size
  block : ∀ k, k < w.heap.size → ¬ S k → w'.heap[k]? = w.heap[k]?

def nowhere : Nat → Prop := fun _ => False
def within (lo hi : Nat) : Nat → Prop := fun k => lo ≤ k ∧ k < hi

theorem Ext.refl (S : Nat → Prop) (w : World) : Ext S w w := ⟨rfl, rfl, rfl, Nat.le_refl _, fun _ _ _ => rfl⟩
theorem Ext.trans {S : Nat → Prop} {a b c : World} (h : Ext S a b) (k : Ext S b c) : Ext S a c :=
  ⟨k.os.trans h.os, k.tape.trans h.tape, k.output.trans h.output, Nat.le_trans h.size k.size, fun i hi hn => (k.block i (Nat.lt_of_lt_of_le hi h.size) hn).trans (h.block i hi hn)⟩
theorem Ext.mono {S S' : Nat → Prop} {a b : World} (h : Ext S a b) (hs : ∀ k, k < a.heap.size → S k → S' k) : Ext S' a b :=
  ⟨h.os, h.tape, h.output, h.size, fun i hi hn => h.block i hi fun hS => hn (hs i hi hS)⟩
theorem Ext.drew {S : Nat → Prop} {a b : World} (h : Ext S a b) (n : Nat) : Ext S a (b.drewN n) := ⟨h.os, h.tape, h.output, h.size, h.block⟩
theorem ext_of_below {w w' : World} (h : Below w.heap.size w w') (S : Nat → Prop) : Ext S w w' := ⟨h.os, h.tape, h.output, h.size, fun k hk _ => h.block k hk⟩
theorem extB_of_below {B : Nat} {w w' : World} (h : Below B w w') : Ext (fun k => B ≤ k) w w' := ⟨h.os, h.tape, h.output, h.size, fun k _ hn => h.block k (by omega)⟩
theorem Ext.below {S : Nat → Prop} {w w' : World} {B : Nat} (h : Ext S w w') (hB : B ≤ w.heap.size) (hs : ∀ k, k < B → ¬ S k) : Below B w w' :=
  ⟨h.os, h.tape, h.output, h.size, fun k hk => h.block k (by omega) (hs k hk)⟩
theorem Ext.setCell {S : Nat → Prop} {w w' : World} (h : Ext S w w') (a : Addr) (v : Value) (ha : S a.block) : Ext S w (w'.setCell a v) :=
  ⟨h.os, h.tape, h.output, by simpa using h.size, fun k hk hn => (heap_setCell_other w' a k v (fun e => hn (e ▸ ha))).trans (h.block k hk hn)⟩

theorem cell_of_heap {w w' : World} {b : Nat} (h : w'.heap[b]? = w.heap[b]?) (o : Nat) : w'.cell? ⟨b, o, none⟩ = w.cell? ⟨b, o, none⟩ := World.cell?_of_block (a := ⟨b, o, none⟩) h
theorem frozen_of_heap {w w' : World} {b : Nat} (h : w'.heap[b]? = w.heap[b]?) (o : Nat) : w'.frozen? ⟨b, o, none⟩ = w.frozen? ⟨b, o, none⟩ := World.frozen?_of_block (a := ⟨b, o, none⟩) h

/-- How a type's data lie: n cells; what they hold; the blocks behind them, in their order. -/
structure Lay (α : Type) where
  n : Nat
  lies : World → List Value → α → List Nat → Prop
  len : ∀ {w cs x bl}, lies w cs x bl → cs.length = n
  keep : ∀ {w w' cs x bl}, lies w cs x bl → (∀ b ∈ bl, w'.heap[b]? = w.heap[b]?) → lies w' cs x bl
  lt : ∀ {w cs x bl}, lies w cs x bl → ∀ b ∈ bl, b < w.heap.size
  /-- How long all its lists are together. -/
  sz : α → Nat
  /-- How many marks an element takes, and a value (whose own cells are copies). -/
  cnt : α → Nat
  vcnt : α → Nat
  /-- An element, a value, with the marks from k on. -/
  mkd : Int → α → α
  mkv : Int → α → α

/-- A list with marks from k on. -/
def mkAll {α : Type} (cnt : α → Nat) (mk : Int → α → α) : Int → List α → List α
  | _, [] => []
  | k, x :: xs => mk k x :: mkAll cnt mk (k + cnt x) xs
def cntAll {α : Type} (cnt : α → Nat) : List α → Nat
  | [] => 0
  | x :: xs => cnt x + cntAll cnt xs
/-- The text of a mark. -/
def digitsOf : Nat → Nat → List UInt8
  | 0, _ => []
  | f + 1, k => if k = 0 then [] else digitsOf f (k / 10) ++ [UInt8.ofNat (48 + k % 10)]
def markText (k : Int) : ByteArray := ⟨(109 :: (if k ≤ 0 then [48] else digitsOf 20 k.toNat)).toArray⟩

namespace Lay
variable {α β γ : Type}

def int : Lay Int where
  n := 1
  lies _ cs x bl := cs = [.int .i64 x] ∧ (Lit.int .i64 x).wf = true ∧ bl = []
  len := by rintro w cs x bl ⟨rfl, -, -⟩; rfl
  keep := fun h _ => h
  lt := by rintro w cs x bl ⟨-, -, rfl⟩ b hb; cases hb
  sz _ := 0
  cnt _ := 1
  vcnt _ := 0
  mkd k _ := k
  mkv _ x := x
def bool : Lay Bool where
  n := 1
  lies _ cs x bl := cs = [.bool x] ∧ bl = []
  len := by rintro w cs x bl ⟨rfl, -⟩; rfl
  keep := fun h _ => h
  lt := by rintro w cs x bl ⟨-, rfl⟩ b hb; cases hb
  sz _ := 0
  cnt _ := 1
  vcnt _ := 0
  mkd k _ := k.tmod 3 == 0
  mkv _ x := x
def str : Lay ByteArray where
  n := 1
  lies _ cs x bl := cs = [.string x] ∧ bl = []
  len := by rintro w cs x bl ⟨rfl, -⟩; rfl
  keep := fun h _ => h
  lt := by rintro w cs x bl ⟨-, rfl⟩ b hb; cases hb
  sz _ := 0
  cnt _ := 1
  vcnt _ := 0
  mkd k _ := markText k
  mkv _ x := x

def pair (A : Lay α) (B : Lay β) : Lay (α × β) where
  n := A.n + B.n
  lies w cs x bl := ∃ c1 c2 b1 b2, cs = c1 ++ c2 ∧ bl = b1 ++ b2 ∧ A.lies w c1 x.1 b1 ∧ B.lies w c2 x.2 b2
  len := by
    rintro w cs x bl ⟨c1, c2, b1, b2, rfl, rfl, h1, h2⟩
    rw [List.length_append, A.len h1, B.len h2]
  keep := by
    rintro w w' cs x bl ⟨c1, c2, b1, b2, rfl, rfl, h1, h2⟩ hk
    exact ⟨c1, c2, b1, b2, rfl, rfl, A.keep h1 fun b hb => hk b (List.mem_append_left _ hb), B.keep h2 fun b hb => hk b (List.mem_append_right _ hb)⟩
  lt := by
    rintro w cs x bl ⟨c1, c2, b1, b2, rfl, rfl, h1, h2⟩ b hb
    rcases List.mem_append.1 hb with h | h
    · exact A.lt h1 b h
    · exact B.lt h2 b h
  sz x := A.sz x.1 + B.sz x.2
  cnt x := A.cnt x.1 + B.cnt x.2
  vcnt x := A.vcnt x.1 + B.vcnt x.2
  mkd k x := (A.mkd k x.1, B.mkd (k + A.cnt x.1) x.2)
  mkv k x := (A.mkv k x.1, B.mkv (k + A.vcnt x.1) x.2)

/-- The rows of a slice: element j lies at off + j * n, its own blocks are bls' j-th. -/
def Rows (A : Lay α) (w : World) (b off : Nat) (xs : List α) (rows : List (List Value)) (bls : List (List Nat)) : Prop :=
  rows.length = xs.length ∧ bls.length = xs.length ∧ ∀ j (h1 : j < xs.length) (h2 : j < rows.length) (h3 : j < bls.length),
    (∀ m, m < A.n → w.cell? ⟨b, off + j * A.n + m, none⟩ = rows[j][m]?) ∧ A.lies w rows[j] xs[j] bls[j]

/-- A slice of data. -/
def sl (A : Lay α) : Lay (List α) where
  n := 1
  lies w cs xs bl := ∃ ao cap, cs = [.slice ao xs.length cap] ∧ (xs.length ≤ cap ∧ xs.length ≤ 9223372036854775807) ∧ ((xs = [] ∧ bl = []) ∨
    ∃ b off rows bls, ao = some ⟨b, off, none⟩ ∧ b < w.heap.size ∧ bl = b :: bls.flatten ∧ A.Rows w b off xs rows bls)
  len := by rintro w cs x bl ⟨ao, cap, rfl, -⟩; rfl
  keep := by
    rintro w w' cs xs bl ⟨ao, cap, rfl, hbig, h⟩ hk
    refine ⟨ao, cap, rfl, hbig, ?_⟩
    rcases h with h | ⟨b, off, rows, bls, rfl, hb, rfl, hr, hl, hj⟩
    · exact Or.inl h
    · have hbb := hk b (by simp)
      refine Or.inr ⟨b, off, rows, bls, rfl, ?_, rfl, hr, hl, fun j h1 h2 h3 => ⟨fun m hm => ?_, ?_⟩⟩
      · have : w.heap[b]? ≠ none := by simp; exact hb
        rw [← hbb] at this
        simpa using this
      · rw [cell_of_heap hbb]
        exact (hj j h1 h2 h3).1 m hm
      · refine A.keep (hj j h1 h2 h3).2 fun b' hb' => hk b' (List.mem_cons_of_mem _ (List.mem_flatten.2 ⟨bls[j], List.getElem_mem _, hb'⟩))
  lt := by
    rintro w cs xs bl ⟨ao, cap, rfl, -, h⟩ b hb
    rcases h with ⟨-, rfl⟩ | ⟨b0, off, rows, bls, rfl, hb0, rfl, hr, hl, hj⟩
    · cases hb
    · rcases List.mem_cons.1 hb with rfl | hb
      · exact hb0
      · obtain ⟨l, hl1, hl2⟩ := List.mem_flatten.1 hb
        obtain ⟨j, hjl, rfl⟩ := List.getElem_of_mem hl1
        exact A.lt (hj j (by omega) (by omega) hjl).2 b hl2
  sz xs := xs.length + cntAll A.sz xs
  cnt xs := cntAll A.cnt xs
  vcnt xs := cntAll A.cnt xs
  mkd k xs := mkAll A.cnt A.mkd k xs
  mkv k xs := mkAll A.cnt A.mkd k xs

/-- The same data under other names. -/
def via (A : Lay α) (f : β → α) (g : α → β) : Lay β where
  n := A.n
  lies w cs x bl := A.lies w cs (f x) bl
  len := A.len
  keep := A.keep
  lt := A.lt
  sz x := A.sz (f x)
  cnt x := A.cnt (f x)
  vcnt x := A.vcnt (f x)
  mkd k x := g (A.mkd k (f x))
  mkv k x := g (A.mkv k (f x))

/-- The data can be read. -/
def Reads (A : Lay α) (w : World) (cs : List Value) (x : α) : Prop := ∃ bl, A.lies w cs x bl
/-- .. and lie in the blocks from lo on, below hi. -/
def LiesIn (A : Lay α) (w : World) (cs : List Value) (x : α) (lo hi : Nat) : Prop := ∃ bl, A.lies w cs x bl ∧ ∀ b ∈ bl, lo ≤ b ∧ b < hi
/-- .. each list in a block of its own, which may be written. -/
def Own (A : Lay α) (w : World) (cs : List Value) (x : α) (bl : List Nat) : Prop :=
  A.lies w cs x bl ∧ bl.Nodup ∧ ∀ b ∈ bl, ∀ o, w.frozen? ⟨b, o, none⟩ = false
def OwnIn (A : Lay α) (w : World) (cs : List Value) (x : α) (lo hi : Nat) : Prop := ∃ bl, A.Own w cs x bl ∧ ∀ b ∈ bl, lo ≤ b ∧ b < hi

variable {A : Lay α} {B : Lay β} {w w' : World} {cs : List Value} {x : α} {lo hi : Nat}

theorem Reads.later (h : A.Reads w cs x) (hb : Below w.heap.size w w') : A.Reads w' cs x := by
  obtain ⟨bl, h⟩ := h
  exact ⟨bl, A.keep h fun b hbl => hb.block b (A.lt h b hbl)⟩
theorem LiesIn.reads (h : A.LiesIn w cs x lo hi) : A.Reads w cs x := by obtain ⟨bl, h, -⟩ := h; exact ⟨bl, h⟩
theorem OwnIn.lies (h : A.OwnIn w cs x lo hi) : A.LiesIn w cs x lo hi := by obtain ⟨bl, ⟨h, -, -⟩, hl⟩ := h; exact ⟨bl, h, hl⟩
theorem OwnIn.reads (h : A.OwnIn w cs x lo hi) : A.Reads w cs x := h.lies.reads
theorem Reads.liesIn (h : A.Reads w cs x) : A.LiesIn w cs x 0 w.heap.size := by
  obtain ⟨bl, h⟩ := h
  exact ⟨bl, h, fun b hb => ⟨Nat.zero_le _, A.lt h b hb⟩⟩
theorem LiesIn.mono {lo' hi' : Nat} (h : A.LiesIn w cs x lo hi) (h1 : lo' ≤ lo) (h2 : hi ≤ hi') : A.LiesIn w cs x lo' hi' := by
  obtain ⟨bl, h, hl⟩ := h
  exact ⟨bl, h, fun b hb => ⟨by have := hl b hb; omega, by have := hl b hb; omega⟩⟩
theorem OwnIn.mono {lo' hi' : Nat} (h : A.OwnIn w cs x lo hi) (h1 : lo' ≤ lo) (h2 : hi ≤ hi') : A.OwnIn w cs x lo' hi' := by
  obtain ⟨bl, h, hl⟩ := h
  exact ⟨bl, h, fun b hb => ⟨by have := hl b hb; omega, by have := hl b hb; omega⟩⟩
theorem LiesIn.ext {S : Nat → Prop} (h : A.LiesIn w cs x lo hi) (e : Ext S w w') (hs : ∀ k, lo ≤ k → k < hi → ¬ S k) : A.LiesIn w' cs x lo hi := by
  obtain ⟨bl, h, hl⟩ := h
  exact ⟨bl, A.keep h fun b hb => e.block b (A.lt h b hb) (hs b (hl b hb).1 (hl b hb).2), hl⟩
theorem OwnIn.ext {S : Nat → Prop} (h : A.OwnIn w cs x lo hi) (e : Ext S w w') (hs : ∀ k, lo ≤ k → k < hi → ¬ S k) : A.OwnIn w' cs x lo hi := by
  obtain ⟨bl, ⟨h, hn, hf⟩, hl⟩ := h
  have hk : ∀ b ∈ bl, w'.heap[b]? = w.heap[b]? := fun b hb => e.block b (A.lt h b hb) (hs b (hl b hb).1 (hl b hb).2)
  exact ⟨bl, ⟨A.keep h hk, hn, fun b hb o => (frozen_of_heap (hk b hb) o).trans (hf b hb o)⟩, hl⟩
theorem LiesIn.later (h : A.LiesIn w cs x lo hi) (hb : Below w.heap.size w w') : A.LiesIn w' cs x lo hi := h.ext (ext_of_below hb nowhere) fun _ _ _ h => h
theorem OwnIn.later (h : A.OwnIn w cs x lo hi) (hb : Below w.heap.size w w') : A.OwnIn w' cs x lo hi := h.ext (ext_of_below hb nowhere) fun _ _ _ h => h
theorem Reads.drew (h : A.Reads w cs x) (n : Nat) : A.Reads (w.drewN n) cs x := h.later (below_drawn (Below.refl _ _) n)
theorem Reads.len (h : A.Reads w cs x) : cs.length = A.n := by obtain ⟨bl, h⟩ := h; exact A.len h

/-! ### Numbers -/
theorem lies_int {z : Int} {bl : List Nat} : (Lay.int).lies w cs z bl ↔ cs = [.int .i64 z] ∧ (Lit.int .i64 z).wf = true ∧ bl = [] := Iff.rfl

theorem ints_reads {v : Value} {zs : List Int} (h : (sl int).Reads w [v] zs) : IsInts w v zs := by
  obtain ⟨bl, ao, cap, hv, -, h⟩ := h
  obtain rfl : v = .slice ao zs.length cap := by simpa using hv
  rcases h with ⟨rfl, rfl⟩ | ⟨b, off, rows, bls, rfl, hb, rfl, hr, hl, hj⟩
  · exact ⟨ao, cap, rfl, by simp, by simp⟩
  · refine ⟨_, cap, rfl, fun z hz => ?_, fun _ => ⟨b, off, rfl, fun j hj1 => ?_⟩⟩
    · obtain ⟨j, hjl, rfl⟩ := List.getElem_of_mem hz
      exact (hj j hjl (by omega) (by omega)).2.2.1
    · obtain ⟨h1, h2, -, -⟩ := hj j hj1 (by omega) (by omega)
      have := h1 0 (by decide)
      rw [h2] at this
      simpa [List.getD, hj1, Lay.int] using this
/-- Numbers in plain words: the block, and each cell. -/
theorem lies_ints {v : Value} {zs : List Int} {bl : List Nat} : (sl int).lies w [v] zs bl ↔ ∃ ao cap, v = .slice ao zs.length cap ∧ (zs.length ≤ cap ∧ zs.length ≤ 9223372036854775807) ∧ (∀ z ∈ zs, (Lit.int .i64 z).wf = true) ∧
    ((zs = [] ∧ bl = []) ∨ ∃ b off, ao = some ⟨b, off, none⟩ ∧ b < w.heap.size ∧ bl = [b] ∧ ∀ j, j < zs.length → w.cell? ⟨b, off + j, none⟩ = some (.int .i64 (zs.getD j 0))) := by
  constructor
  · rintro ⟨ao, cap, hv, hbig, h⟩
    obtain rfl : v = .slice ao zs.length cap := by simpa using hv
    rcases h with ⟨rfl, rfl⟩ | ⟨b, off, rows, bls, rfl, hb, rfl, hr, hl, hj⟩
    · exact ⟨ao, cap, rfl, hbig, by simp, Or.inl ⟨rfl, rfl⟩⟩
    · refine ⟨_, cap, rfl, hbig, fun z hz => ?_, Or.inr ⟨b, off, rfl, hb, ?_, fun j hj1 => ?_⟩⟩
      · obtain ⟨j, hjl, rfl⟩ := List.getElem_of_mem hz
        exact (hj j hjl (by omega) (by omega)).2.2.1
      · have e2 : bls.flatten = [] := by
          rw [List.flatten_eq_nil_iff]
          intro l hl
          obtain ⟨j, hjl, rfl⟩ := List.getElem_of_mem hl
          exact (hj j (by omega) (by omega) hjl).2.2.2
        rw [e2]
      · obtain ⟨h1, h2, -, -⟩ := hj j hj1 (by omega) (by omega)
        have := h1 0 (by decide)
        rw [h2] at this
        simpa [List.getD, hj1, Lay.int] using this
  · rintro ⟨ao, cap, rfl, hbig, hwf, h⟩
    refine ⟨ao, cap, rfl, hbig, ?_⟩
    rcases h with ⟨rfl, rfl⟩ | ⟨b, off, rfl, hb, rfl, hc⟩
    · exact Or.inl ⟨rfl, rfl⟩
    · refine Or.inr ⟨b, off, zs.map (fun z => [.int .i64 z]), List.replicate zs.length [], rfl, hb, by simp, by simp, by simp, fun j h1 h2 h3 => ⟨fun m hm => ?_, ?_⟩⟩
      · obtain rfl : m = 0 := by simp only [Lay.int] at hm; omega
        have := hc j h1
        simpa [List.getD, h1, Lay.int] using this
      · exact ⟨by simp, hwf _ (List.getElem_mem _), by simp⟩
theorem reads_ints {v : Value} {zs : List Int} (h : IsInts w v zs) (hcap : ∀ ao cap, v = .slice ao zs.length cap → zs.length ≤ cap) (hbig : zs.length ≤ 9223372036854775807) : (sl int).Reads w [v] zs := by
  obtain ⟨ao, cap, rfl, hwf, hc⟩ := h
  have hcp := hcap _ _ rfl
  by_cases hp : 0 < zs.length
  · obtain ⟨b, off, rfl, hc1⟩ := hc hp
    exact ⟨[b], lies_ints.2 ⟨_, cap, rfl, ⟨hcp, hbig⟩, hwf, Or.inr ⟨b, off, rfl, World.block_lt_of_cell? _ _ (hc1 0 hp), rfl, hc1⟩⟩⟩
  · obtain rfl : zs = [] := List.eq_nil_of_length_eq_zero (by omega)
    exact ⟨[], lies_ints.2 ⟨ao, cap, rfl, ⟨hcp, hbig⟩, by simp, Or.inl ⟨rfl, rfl⟩⟩⟩
theorem Reads.cap {A : Lay α} {ao : Option Addr} {n cap : Nat} {xs : List α} (h : (sl A).Reads w [.slice ao n cap] xs) : n = xs.length ∧ n ≤ cap := by
  obtain ⟨bl, ao', cap', e, hb, -⟩ := h
  simp only [List.cons.injEq, Value.slice.injEq, and_true] at e
  obtain ⟨-, rfl, rfl⟩ := e
  exact ⟨rfl, hb.1⟩
theorem Reads.big {A : Lay α} {v : Value} {xs : List α} (h : (sl A).Reads w [v] xs) : xs.length ≤ 9223372036854775807 := by
  obtain ⟨bl, ao, cap, -, hb, -⟩ := h
  exact hb.2

/-- A row of numbers of the call's own, as data. -/
theorem ownInts {v : Value} {zs : List Int} {base T : Nat} (hwf : ∀ z ∈ zs, (Lit.int .i64 z).wf = true) (hbig : zs.length ≤ 9223372036854775807) (h : w.ownsRow base T 1 v zs.length (zs.map (Value.int .i64))) : (sl int).OwnIn w [v] zs base w.heap.size := by
  have hi := isInts_row hwf h
  rcases h.2 with ⟨rfl, h0⟩ | ⟨g, cap, cur, rfl, hg, hh, hcap, _⟩
  · obtain rfl : zs = [] := List.eq_nil_of_length_eq_zero h0
    exact ⟨[], ⟨lies_ints.2 ⟨none, 0, rfl, ⟨by simp, hbig⟩, by simp, Or.inl ⟨rfl, rfl⟩⟩, by simp, by simp⟩, by simp⟩
  · by_cases hp : 0 < zs.length
    · obtain ⟨ao, cp, hv, hwf, hc⟩ := hi
      obtain ⟨b, off, rfl, hc1⟩ := hc hp
      simp only [Value.slice.injEq, Option.some.injEq, Addr.mk.injEq, and_true, true_and] at hv
      obtain ⟨⟨rfl, rfl⟩, rfl⟩ := hv
      refine ⟨[g], ⟨lies_ints.2 ⟨_, cap, rfl, ⟨hcap, hbig⟩, hwf, Or.inr ⟨g, 0, rfl, lt_of_block hh, rfl, hc1⟩⟩, by simp, ?_⟩, ?_⟩
      · intro b hb o
        obtain rfl : b = g := by simpa using hb
        simp [World.frozen?, hh]
      · intro b hb
        obtain rfl : b = g := by simpa using hb
        exact ⟨hg, lt_of_block hh⟩
    · obtain rfl : zs = [] := List.eq_nil_of_length_eq_zero (by omega)
      exact ⟨[], ⟨lies_ints.2 ⟨_, _, rfl, ⟨hcap, hbig⟩, by simp, Or.inl ⟨rfl, rfl⟩⟩, by simp, by simp⟩, by simp⟩

/-! ### Blocks of the call's own, and data in others -/
theorem Own.ext {S : Nat → Prop} {bl : List Nat} (h : A.Own w cs x bl) (e : Ext S w w') (hs : ∀ b ∈ bl, ¬ S b) : A.Own w' cs x bl := by
  obtain ⟨h, hn, hf⟩ := h
  have hk : ∀ b ∈ bl, w'.heap[b]? = w.heap[b]? := fun b hb => e.block b (A.lt h b hb) (hs b hb)
  exact ⟨A.keep h hk, hn, fun b hb o => (frozen_of_heap (hk b hb) o).trans (hf b hb o)⟩
theorem Own.later {bl : List Nat} (h : A.Own w cs x bl) (hb : Below w.heap.size w w') : A.Own w' cs x bl := h.ext (ext_of_below hb nowhere) fun _ _ h => h
theorem Own.reads {bl : List Nat} (h : A.Own w cs x bl) : A.Reads w cs x := ⟨bl, h.1⟩
theorem Own.lt {bl : List Nat} (h : A.Own w cs x bl) : ∀ b ∈ bl, b < w.heap.size := A.lt h.1
theorem LiesIn.below {B : Nat} (h : A.LiesIn w cs x lo hi) (hb : Below B w w') (hh : hi ≤ B) : A.LiesIn w' cs x lo hi := h.ext (extB_of_below hb) fun k _ h2 h3 => by omega
theorem OwnIn.below {B : Nat} (h : A.OwnIn w cs x lo hi) (hb : Below B w w') (hh : hi ≤ B) : A.OwnIn w' cs x lo hi := h.ext (extB_of_below hb) fun k _ h2 h3 => by omega

end Lay

theorem Box.at {lo : Nat} {cs : Array Value} {T : TypeId} {W : World} {s : Nat} (h : Box lo cs T W s) (i : Nat) (v : Value) (hi : cs[i]? = some v) : W.cell? ⟨s, i, none⟩ = some v := by
  simp [World.cell?, h.2, hi]
theorem Box.soft {lo : Nat} {cs : Array Value} {T : TypeId} {W : World} {s : Nat} (h : Box lo cs T W s) : ∀ o, W.frozen? ⟨s, o, none⟩ = false := fun o => by simp [World.frozen?, h.2]
theorem Box.ext {S : Nat → Prop} {lo : Nat} {cs : Array Value} {T : TypeId} {W w' : World} {s : Nat} (h : Box lo cs T W s) (e : Ext S W w') (hs : ¬ S s) : Box lo cs T w' s := ⟨h.1, (e.block s h.lt hs).trans h.2⟩
theorem Box.grow {lo : Nat} {cs : Array Value} {T : TypeId} {W : World} {s : Nat} (h : Box lo cs T W s) (o : Obj) : Box lo cs T (W.alloc o) s := h.keep ((Below.refl _ _).alloc (Nat.le_refl _) o)
theorem newBoxAt {lo s : Nat} {cs : Array Value} {T : TypeId} {W : World} (h : lo ≤ s) (hs : W.heap.size = s) : Box lo cs T (W.alloc (.cells cs T)) s := by subst hs; exact newBox h
theorem Box.set {lo : Nat} {cs : Array Value} {T : TypeId} {W : World} {s : Nat} (h : Box lo cs T W s) (i : Nat) (v : Value) : Box lo (cs.setIfInBounds i v) T (W.setCell ⟨s, i, none⟩ v) s := by
  refine ⟨h.1, ?_⟩
  simp [World.setCell, Array.getElem?_modify, h.2]
theorem Box.other {lo : Nat} {cs : Array Value} {T : TypeId} {W : World} {s : Nat} (h : Box lo cs T W s) (a : Addr) (v : Value) (ha : s ≠ a.block) : Box lo cs T (W.setCell a v) s := ⟨h.1, (heap_setCell_other W a s v ha).trans h.2⟩
/-- A struct's cells, stored one behind the other. -/
def setAll (W : World) (s : Nat) : Nat → List Value → World
  | _, [] => W
  | i, v :: vs => setAll (W.setCell ⟨s, i, none⟩ v) s (i + 1) vs
theorem ext_setAll (S : Nat → Prop) {a W : World} (h : Ext S a W) (s i : Nat) (vs : List Value) (hs : S s) : Ext S a (setAll W s i vs) := by
  induction vs generalizing W i with
  | nil => exact h
  | cons v vs ih => exact ih (h.setCell ⟨s, i, none⟩ v hs) (i + 1)
theorem below_setAll {B : Nat} {a W : World} (h : Below B a W) (s i : Nat) (vs : List Value) (hs : B ≤ s) : Below B a (setAll W s i vs) := by
  induction vs generalizing W i with
  | nil => exact h
  | cons v vs ih => exact ih (h.setCell (by simpa using hs) v) (i + 1)
theorem size_setAll (W : World) (s i : Nat) (vs : List Value) : (setAll W s i vs).heap.size = W.heap.size := by
  induction vs generalizing W i with
  | nil => rfl
  | cons v vs ih => rw [setAll, ih]; simp
/-- Some cells of a block, stored one behind the other. -/
def setL (W : World) (s : Nat) : List (Nat × Value) → World
  | [] => W
  | p :: ps => setL (W.setCell ⟨s, p.1, none⟩ p.2) s ps
theorem ext_setL {S : Nat → Prop} {a W : World} (h : Ext S a W) (s : Nat) (ps : List (Nat × Value)) (hs : S s) : Ext S a (setL W s ps) := by
  induction ps generalizing W with
  | nil => exact h
  | cons p ps ih => exact ih (h.setCell ⟨s, p.1, none⟩ p.2 hs)
end Go.Proofs.Ythpbdafhjakekaa

namespace Go.Proofs.Ythpbdafhjakekaa
open Go.RowKit

theorem open_sl {α : Type} {A : Lay α} {w : World} {v : Value} {xs : List α} (h : (Lay.sl A).Reads w [v] xs) : ∃ ao cap, v = .slice ao xs.length cap := by
  obtain ⟨bl, ao, cap, e, -⟩ := h
  exact ⟨ao, cap, by simpa using e⟩

/-- An element takes at most K marks, and K more for each that its lists hold. -/
def Few {α : Type} (A : Lay α) (K : Nat) : Prop := ∀ x, A.cnt x ≤ K * (1 + A.sz x) ∧ A.vcnt x ≤ K * (1 + A.sz x)
theorem few_int : Few Lay.int 1 := fun _ => by simp [Lay.int]
theorem few_bool : Few Lay.bool 1 := fun _ => by simp [Lay.bool]
theorem few_str : Few Lay.str 1 := fun _ => by simp [Lay.str]
theorem few_pair {α β : Type} {A : Lay α} {B : Lay β} {K L : Nat} (h : Few A K) (k : Few B L) : Few (Lay.pair A B) (K + L) := by
  intro x
  have h1 := h x.1
  have h2 := k x.2
  have e1 : K * (1 + A.sz x.1) ≤ K * (1 + (A.sz x.1 + B.sz x.2)) := Nat.mul_le_mul_left _ (by omega)
  have e2 : L * (1 + B.sz x.2) ≤ L * (1 + (A.sz x.1 + B.sz x.2)) := Nat.mul_le_mul_left _ (by omega)
  constructor
  · show A.cnt x.1 + B.cnt x.2 ≤ (K + L) * (1 + (A.sz x.1 + B.sz x.2))
    rw [Nat.add_mul]
    omega
  · show A.vcnt x.1 + B.vcnt x.2 ≤ (K + L) * (1 + (A.sz x.1 + B.sz x.2))
    rw [Nat.add_mul]
    omega
theorem few_sl {α : Type} {A : Lay α} {K : Nat} (h : Few A K) : Few (Lay.sl A) K := by
  intro xs
  have e : cntAll A.cnt xs ≤ K * (xs.length + cntAll A.sz xs) := by
    induction xs with
    | nil => simp [cntAll]
    | cons x xs ih =>
      have hx := (h x).1
      simp only [cntAll, List.length_cons]
      have : K * (xs.length + 1 + (A.sz x + cntAll A.sz xs)) = K * (1 + A.sz x) + K * (xs.length + cntAll A.sz xs) := by rw [← Nat.mul_add]; congr 1; omega
      omega
  have e2 : K * (xs.length + cntAll A.sz xs) ≤ K * (1 + (xs.length + cntAll A.sz xs)) := Nat.mul_le_mul_left _ (by omega)
  exact ⟨Nat.le_trans e e2, Nat.le_trans e e2⟩
theorem few_via {α β : Type} {A : Lay α} {f : β → α} {g : α → β} {K : Nat} (h : Few A K) : Few (Lay.via A f g) K := fun x => h (f x)
theorem few_bound {α : Type} {A : Lay α} {K : Nat} (h : Few A K) {x : α} (hs : A.sz x ≤ 1048576) (hK : K ≤ 60) : A.vcnt x ≤ 100000000 := by
  have := (h x).2
  have : K * (1 + A.sz x) ≤ 60 * (1 + A.sz x) := Nat.mul_le_mul_right _ hK
  omega

theorem bool_ne (b : Bool) : (b != b) = false := by cases b <;> rfl
theorem within_out {lo hi lo' hi' : Nat} (h : hi ≤ lo' ∨ hi' ≤ lo) : ∀ k, lo ≤ k → k < hi → ¬ within lo' hi' k := fun k h1 h2 h3 => by simp only [within] at h3; omega
end Go.Proofs.Ythpbdafhjakekaa

namespace Go.Proofs.Ythpbdafhjakekaa
open Go.RowKit

/-- What szT tells: what is left, or -1. -/
def szR (l n : Nat) : Int := if n ≤ l then ((l - n : Nat) : Int) else -1
theorem szR_ok {l n : Nat} (h : n ≤ l) : szR l n = ((l - n : Nat) : Int) := if_pos h
theorem szR_many {l n : Nat} (h : l < n) : szR l n = -1 := if_neg (by omega)

/-! ### The parts of a struct, each in blocks of its own -/
namespace Lay
variable {α β : Type} {A : Lay α} {B : Lay β} {w w' : World}
theorem ownIn_int {z : Int} {lo hi : Nat} (h : (Lit.int .i64 z).wf = true) : Lay.int.OwnIn w [.int .i64 z] z lo hi := ⟨[], ⟨⟨rfl, h, rfl⟩, by simp, by simp⟩, by simp⟩
theorem ownIn_bool {b : Bool} {lo hi : Nat} : Lay.bool.OwnIn w [.bool b] b lo hi := ⟨[], ⟨⟨rfl, rfl⟩, by simp, by simp⟩, by simp⟩
theorem ownIn_str {s : ByteArray} {lo hi : Nat} : Lay.str.OwnIn w [.string s] s lo hi := ⟨[], ⟨⟨rfl, rfl⟩, by simp, by simp⟩, by simp⟩
theorem ownIn_pair {c1 c2 : List Value} {x : α} {y : β} {lo m m' hi : Nat} (h : A.OwnIn w c1 x lo m) (k : B.OwnIn w c2 y m' hi) (hm : m ≤ m') (hlo : lo ≤ m') (hhi : m ≤ hi) : (Lay.pair A B).OwnIn w (c1 ++ c2) (x, y) lo hi := by
  obtain ⟨b1, ⟨l1, n1, f1⟩, i1⟩ := h
  obtain ⟨b2, ⟨l2, n2, f2⟩, i2⟩ := k
  refine ⟨b1 ++ b2, ⟨⟨c1, c2, b1, b2, rfl, rfl, l1, l2⟩, ?_, ?_⟩, ?_⟩
  · rw [List.nodup_append]
    exact ⟨n1, n2, fun a ha b hb e => by have := i1 a ha; have := i2 b hb; omega⟩
  · intro b hb
    rcases List.mem_append.1 hb with h | h
    · exact f1 b h
    · exact f2 b h
  · intro b hb
    rcases List.mem_append.1 hb with h | h
    · have := i1 b h; omega
    · have := i2 b h; omega
theorem ownIn_via {f : β → α} {g : α → β} {cs : List Value} {x : β} {lo hi : Nat} (h : A.OwnIn w cs (f x) lo hi) : (Lay.via A f g).OwnIn w cs x lo hi := h

/-- An answer of one's own. -/
theorem toldOwn {w : World} {cs : List Value} {x : α} {lo hi : Nat} (own : A.OwnIn w' cs x lo hi) (hlo : w.heap.size ≤ lo) (hhi : hi ≤ w'.heap.size) (hb : Below w.heap.size w w') :
    ∃ cs', Ending.returned (.agg cs.toArray) = .returned (.agg cs'.toArray) ∧ A.OwnIn w' cs' x w.heap.size w'.heap.size ∧ Below w.heap.size w w' := ⟨cs, rfl, own.mono hlo hhi, hb⟩

/-- The rows' own data. -/
def Subs (A : Lay α) (w : World) (rows : List (List Value)) (xs : List α) (lo hi : Nat) : Prop :=
  ∃ bls : List (List Nat), rows.length = xs.length ∧ bls.length = xs.length ∧ (∀ j (h1 : j < xs.length) (h2 : j < rows.length) (h3 : j < bls.length), A.lies w rows[j] xs[j] bls[j]) ∧
    bls.flatten.Nodup ∧ (∀ b ∈ bls.flatten, lo ≤ b ∧ b < hi) ∧ ∀ b ∈ bls.flatten, ∀ o, w.frozen? ⟨b, o, none⟩ = false
theorem subs_nil {lo hi : Nat} : Subs A w [] [] lo hi := ⟨[], rfl, rfl, fun j h => by simp at h, by simp, by simp, by simp⟩
theorem subs_snoc {rows : List (List Value)} {xs : List α} {row : List Value} {x : α} {lo hi lo' hi' : Nat} (h : Subs A w rows xs lo hi) (k : A.OwnIn w row x lo' hi') (h1 : hi ≤ lo') (h2 : lo ≤ lo') (h3 : hi ≤ hi') : Subs A w (rows ++ [row]) (xs ++ [x]) lo hi' := by
  obtain ⟨bls, hr, hb, hl, hn, hi, hf⟩ := h
  obtain ⟨bl, ⟨l, n, f⟩, i⟩ := k
  refine ⟨bls ++ [bl], by simp [hr], by simp [hb], fun j j1 j2 j3 => ?_, ?_, ?_, ?_⟩
  · by_cases hj : j < xs.length
    · have e := hl j hj (by omega) (by omega)
      rw [List.getElem_append_left (by omega), List.getElem_append_left hj, List.getElem_append_left (by omega)]
      exact e
    · obtain rfl : j = xs.length := by simp at j1; omega
      rw [List.getElem_append_right (by omega), List.getElem_append_right (by omega), List.getElem_append_right (by omega)]
      simpa using l
  · rw [List.flatten_append, List.nodup_append]
    refine ⟨hn, by simpa using n, fun a ha b hb e => ?_⟩
    have := hi a ha
    have := i b (by simpa using hb)
    omega
  · intro b hb
    rw [List.flatten_append] at hb
    rcases List.mem_append.1 hb with h | h
    · have := hi b h; omega
    · have := i b (by simpa using h); omega
  · intro b hb
    rw [List.flatten_append] at hb
    rcases List.mem_append.1 hb with h | h
    · exact hf b h
    · exact f b (by simpa using h)
theorem subs_ext {rows : List (List Value)} {xs : List α} {lo hi : Nat} {S : Nat → Prop} (h : Subs A w rows xs lo hi) (e : Ext S w w') (hs : ∀ k, lo ≤ k → k < hi → ¬ S k) : Subs A w' rows xs lo hi := by
  obtain ⟨bls, hr, hb, hl, hn, hi, hf⟩ := h
  have hlt : ∀ b ∈ bls.flatten, b < w.heap.size := by
    intro b hm
    obtain ⟨l, h1, h2⟩ := List.mem_flatten.1 hm
    obtain ⟨j, hj, rfl⟩ := List.getElem_of_mem h1
    exact A.lt (hl j (by omega) (by omega) hj) b h2
  have hk : ∀ b ∈ bls.flatten, w'.heap[b]? = w.heap[b]? := fun b hm => e.block b (hlt b hm) (hs b (hi b hm).1 (hi b hm).2)
  exact ⟨bls, hr, hb, fun j h1 h2 h3 => A.keep (hl j h1 h2 h3) fun b hm => hk b (List.mem_flatten.2 ⟨_, List.getElem_mem _, hm⟩), hn, hi, fun b hm o => (frozen_of_heap (hk b hm) o).trans (hf b hm o)⟩
theorem subs_len {rows : List (List Value)} {xs : List α} {lo hi : Nat} (h : Subs A w rows xs lo hi) : rows.flatten.length = xs.length * A.n ∧ rows.length = xs.length := by
  obtain ⟨bls, hr, hb, hl, -⟩ := h
  refine ⟨?_, hr⟩
  rw [← hr]
  have : ∀ r ∈ rows, r.length = A.n := by
    intro r hm
    obtain ⟨j, hj, rfl⟩ := List.getElem_of_mem hm
    exact A.len (hl j (by omega) hj (by omega))
  clear hr hb hl
  induction rows with
  | nil => simp
  | cons r rows ih =>
    rw [List.flatten_cons, List.length_append, this r (by simp), ih fun q hq => this q (List.mem_cons_of_mem _ hq), List.length_cons, Nat.add_mul]
    omega

theorem flat_at {rows : List (List Value)} {n : Nat} (h : ∀ r ∈ rows, r.length = n) (j m : Nat) (hj : j < rows.length) (hm : m < n) : rows.flatten[j * n + m]? = rows[j][m]? := by
  induction rows generalizing j with
  | nil => simp at hj
  | cons r rows ih =>
    have hr := h r (by simp)
    rw [List.flatten_cons]
    match j with
    | 0 =>
      rw [List.getElem?_append_left (by omega)]
      simp
    | j + 1 =>
      rw [List.getElem?_append_right (by rw [hr, Nat.add_mul]; omega), hr, show (j + 1) * n + m - n = j * n + m by rw [Nat.add_mul]; omega]
      rw [ih (fun q hq => h q (List.mem_cons_of_mem _ hq)) j (by simpa using hj)]
      simp

/-- The row is full: it is data of the call's own. -/
theorem subs_done {rows : List (List Value)} {xs : List α} {base T g cap lo hi : Nat} (hown : w.ownsRow base T A.n (.slice (some ⟨g, 0, none⟩) xs.length cap) xs.length rows.flatten) (h : Subs A w rows xs lo hi) (hg : g < lo) (hhi : hi ≤ w.heap.size) (hn : xs.length ≤ 9223372036854775807) :
    (sl A).OwnIn w [.slice (some ⟨g, 0, none⟩) xs.length cap] xs base w.heap.size := by
  obtain ⟨bls, hr, hb, hl, hnd, hi', hf⟩ := h
  have hlg := hown.lt g rfl
  have hle : ∀ r ∈ rows, r.length = A.n := by
    intro r hm
    obtain ⟨j, hj, rfl⟩ := List.getElem_of_mem hm
    exact A.len (hl j (by omega) hj (by omega))
  have hcap : xs.length ≤ cap := by
    rcases hown.2 with ⟨e, -⟩ | ⟨g', cap', cur, e, -, -, hc, -⟩
    · simp at e
    · simp only [Value.slice.injEq] at e
      obtain ⟨-, -, rfl⟩ := e
      exact hc
  by_cases h0 : xs = []
  · subst h0
    exact ⟨[], ⟨⟨_, _, rfl, ⟨hcap, hn⟩, Or.inl ⟨rfl, rfl⟩⟩, by simp, by simp⟩, by simp⟩
  · refine ⟨g :: bls.flatten, ⟨⟨_, _, rfl, ⟨hcap, hn⟩, Or.inr ⟨g, 0, rows, bls, rfl, hlg.2, rfl, hr, hb, fun j h1 h2 h3 => ⟨fun m hm => ?_, hl j h1 h2 h3⟩⟩⟩, ?_, ?_⟩, ?_⟩
    · rw [Nat.zero_add, hown.cellAt (j * A.n + m) (by
        have : (j + 1) * A.n ≤ xs.length * A.n := Nat.mul_le_mul_right _ (by omega)
        rw [Nat.add_mul] at this
        omega)]
      exact flat_at hle j m h2 hm
    · rw [List.nodup_cons]
      exact ⟨fun hm => by have := hi' g hm; omega, hnd⟩
    · intro b hm o
      rcases List.mem_cons.1 hm with rfl | hm
      · exact hown.frozenAt o
      · exact hf b hm o
    · intro b hm
      rcases List.mem_cons.1 hm with rfl | hm
      · exact hlg
      · have := hi' b hm; omega

/-- Element k of a slice, cell by cell. -/
theorem row_at {xs : List α} {b off cap k : Nat} (h : (sl A).Reads w [.slice (some ⟨b, off, none⟩) xs.length cap] xs) (hk : k < xs.length) : ∃ row, (∀ m, m < A.n → w.cell? ⟨b, off + k * A.n + m, none⟩ = row[m]?) ∧ A.Reads w row xs[k] := by
  obtain ⟨bl, ao, cp, e, -, h⟩ := h
  simp only [List.cons.injEq, Value.slice.injEq, and_true] at e
  obtain ⟨rfl, -, rfl⟩ := e
  rcases h with ⟨rfl, -⟩ | ⟨b', off', rows, bls, e2, hb, rfl, hr, hl, hj⟩
  · simp at hk
  · simp only [Option.some.injEq, Addr.mk.injEq, and_true] at e2
    obtain ⟨rfl, rfl⟩ := e2
    exact ⟨_, (hj k hk (by omega) (by omega)).1, ⟨_, (hj k hk (by omega) (by omega)).2⟩⟩
theorem sl_addr {xs : List α} {ao : Option Addr} {n cap : Nat} (h : (sl A).Reads w [.slice ao n cap] xs) (hp : 0 < xs.length) : ∃ b off, ao = some ⟨b, off, none⟩ ∧ b < w.heap.size := by
  obtain ⟨bl, ao', cp, e, -, h⟩ := h
  simp only [List.cons.injEq, Value.slice.injEq, and_true] at e
  obtain ⟨rfl, -, rfl⟩ := e
  rcases h with ⟨rfl, -⟩ | ⟨b', off', rows, bls, e2, hb, rfl, hr, hl, hj⟩
  · simp at hp
  · exact ⟨b', off', e2, hb⟩
theorem sz_elem {xs : List α} {k : Nat} (hk : k < xs.length) : A.sz xs[k] ≤ (sl A).sz xs := by
  show A.sz xs[k] ≤ xs.length + cntAll A.sz xs
  have : A.sz xs[k] ≤ cntAll A.sz xs := by
    induction xs generalizing k with
    | nil => simp at hk
    | cons x xs ih =>
      match k with
      | 0 => simp [cntAll]
      | k + 1 =>
        have := ih (k := k) (by simpa using hk)
        simp only [cntAll, List.getElem_cons_succ]
        omega
  omega
theorem sz_len {xs : List α} : xs.length ≤ (sl A).sz xs := Nat.le_add_right _ _
theorem cntAll_take {f : α → Nat} {xs : List α} {k : Nat} (hk : k < xs.length) : cntAll f (xs.take (k + 1)) = cntAll f (xs.take k) + f xs[k] := by
  induction xs generalizing k with
  | nil => simp at hk
  | cons x xs ih =>
    match k with
    | 0 => simp [cntAll]
    | k + 1 =>
      have := ih (k := k) (by simpa using hk)
      simp only [List.take_succ_cons, cntAll, List.getElem_cons_succ]
      omega
theorem cntAll_take_le {f : α → Nat} {xs : List α} {k : Nat} : cntAll f (xs.take k) ≤ cntAll f xs := by
  induction xs generalizing k with
  | nil => simp
  | cons x xs ih =>
    match k with
    | 0 => simp [cntAll]
    | k + 1 =>
      have := ih (k := k)
      simp only [List.take_succ_cons, cntAll]
      omega
end Lay

/-! ### Cells that are stored one behind the other into a row -/
def setFrom (xs : List Value) : Nat → List Value → List Value
  | _, [] => xs
  | i, v :: vs => setFrom (xs.set i v) (i + 1) vs
theorem setFrom_app (P Q vs : List Value) (h : vs.length ≤ Q.length) : setFrom (P ++ Q) P.length vs = P ++ vs ++ Q.drop vs.length := by
  induction vs generalizing P Q with
  | nil => simp [setFrom]
  | cons v vs ih =>
    match Q, h with
    | q :: Q, h =>
      rw [setFrom, List.set_append_right _ _ (Nat.le_refl _), Nat.sub_self, List.set_cons_zero]
      have := ih (P ++ [v]) Q (by simpa using h)
      simp only [List.length_append, List.length_cons, List.length_nil, Nat.zero_add] at this
      rw [show P ++ v :: Q = P ++ [v] ++ Q by simp, this]
      simp
theorem own_setAll {w : World} {base e size g n cap : Nat} {xs : List Value} (h : w.ownsRow base e size (.slice (some ⟨g, 0, none⟩) n cap) n xs) (i : Nat) (vs : List Value) : (setAll w g i vs).ownsRow base e size (.slice (some ⟨g, 0, none⟩) n cap) n (setFrom xs i vs) := by
  induction vs generalizing w i xs with
  | nil => exact h
  | cons v vs ih => exact ih (h.stored i v).1 (i + 1)
end Go.Proofs.Ythpbdafhjakekaa

namespace Go.Proofs.Ythpbdafhjakekaa
open Go.RowKit

theorem nodup_flat {bls : List (List Nat)} (h : bls.flatten.Nodup) : (∀ l ∈ bls, l.Nodup) ∧ ∀ i j (hi : i < bls.length) (hj : j < bls.length), i ≠ j → ∀ c ∈ bls[i], c ∉ bls[j] := by
  induction bls with
  | nil => exact ⟨by simp, fun i j hi => by simp at hi⟩
  | cons l ls ih =>
    rw [List.flatten_cons, List.nodup_append] at h
    obtain ⟨h1, h2, h3⟩ := h
    obtain ⟨k1, k2⟩ := ih h2
    have hm : ∀ j (hj : j < ls.length), ∀ c ∈ l, c ∉ ls[j] := fun j hj c hc hq => h3 c hc c (List.mem_flatten.2 ⟨_, List.getElem_mem hj, hq⟩) rfl
    refine ⟨fun q hq => ?_, fun i j hi hj hne c hc hq => ?_⟩
    · rcases List.mem_cons.1 hq with rfl | hq
      · exact h1
      · exact k1 q hq
    · match i, j, hi, hj, hne with
      | 0, j + 1, _, hj, _ => exact hm j (by simpa using hj) c (by simpa using hc) (by simpa using hq)
      | i + 1, 0, hi, _, _ => exact hm i (by simpa using hi) c (by simpa using hq) (by simpa using hc)
      | i + 1, j + 1, hi, hj, hne => exact k2 i j (by simpa using hi) (by simpa using hj) (by omega) c (by simpa using hc) (by simpa using hq)

/-- Row o.. of block b at the world c: n cells; all else of that block is as at w; only b and blk have been written since w. -/
structure RowAt (w c : World) (b o n : Nat) (cs : List Value) (blk : List Nat) : Prop where
  len : cs.length = n
  cells : ∀ m, m < n → c.cell? ⟨b, o + m, none⟩ = cs[m]?
  others : ∀ q, (q < o ∨ o + n ≤ q) → c.cell? ⟨b, q, none⟩ = w.cell? ⟨b, q, none⟩
  soft : ∀ q, c.frozen? ⟨b, q, none⟩ = false
  lt : b < c.heap.size
  ext : Ext (fun q => q = b ∨ q ∈ blk) w c

theorem RowAt.at {w c : World} {b o n : Nat} {cs : List Value} {blk : List Nat} (h : RowAt w c b o n cs blk) (m : Nat) (v : Value) (hv : cs[m]? = some v) : c.cell? ⟨b, o + m, none⟩ = some v := by
  have : m < n := by rw [← h.len]; exact (List.getElem?_eq_some_iff.1 hv).1
  rw [h.cells m this, hv]
theorem RowAt.set {w c : World} {b o n : Nat} {cs : List Value} {blk : List Nat} (h : RowAt w c b o n cs blk) (m : Nat) (v : Value) (hm : m < n) : RowAt w (c.setCell ⟨b, o + m, none⟩ v) b o n (cs.set m v) blk := by
  refine ⟨by simpa using h.len, fun j hj => ?_, fun q hq => ?_, fun q => by simpa using h.soft q, by simpa using h.lt, h.ext.setCell _ _ (Or.inl rfl)⟩
  · by_cases e : j = m
    · subst e
      have hc := h.cells j hj
      have : ∃ u, c.cell? ⟨b, o + j, none⟩ = some u := ⟨_, hc.trans (List.getElem?_eq_getElem (by rw [h.len]; exact hj))⟩
      obtain ⟨u, hu⟩ := this
      rw [World.cell?_setCell_same _ _ _ hu, List.getElem?_set_self (by rw [h.len]; exact hj)]
    · rw [World.cell?_setCell_other _ _ _ _ (fun q => by have := congrArg Addr.off q; simp only at this; omega), h.cells j hj, List.getElem?_set_ne (by omega)]
  · rw [World.cell?_setCell_other _ _ _ _ (fun e => by have := congrArg Addr.off e; simp only at this; omega)]
    exact h.others q hq
theorem RowAt.call {w c c' : World} {b o n : Nat} {cs : List Value} {blk g : List Nat} (h : RowAt w c b o n cs blk) (e : Ext (fun q => q ∈ g) c c') (hg : ∀ q ∈ g, q ∈ blk) (hb : b ∉ g) : RowAt w c' b o n cs blk := by
  have hh := e.block b h.lt hb
  exact ⟨h.len, fun m hm => (cell_of_heap hh _).trans (h.cells m hm), fun q hq => (cell_of_heap hh _).trans (h.others q hq), fun q => (frozen_of_heap hh _).trans (h.soft q), Nat.lt_of_lt_of_le h.lt e.size, h.ext.trans (e.mono fun q _ hq => Or.inr (hg q hq))⟩

namespace Lay
variable {α : Type} {A : Lay α} {w : World}

/-- Element k of data of one's own: its cells, its own data; and what holds when it has been written anew. -/
theorem own_upd {xs : List α} {b off cap k n : Nat} {bl : List Nat} (h : (sl A).Own w [.slice (some ⟨b, off, none⟩) n cap] xs bl) (hk : k < xs.length) :
    ∃ row blk, RowAt w w b (off + k * A.n) A.n row blk ∧ A.Own w row xs[k] blk ∧ b ∉ blk ∧
      (∀ c, (b = c ∨ c ∈ blk) → c ∈ bl) ∧ ∀ w' row' x', RowAt w w' b (off + k * A.n) A.n row' blk → A.Own w' row' x' blk → (sl A).Own w' [.slice (some ⟨b, off, none⟩) n cap] (xs.set k x') bl := by
  obtain ⟨⟨ao, cp, e, hsz, hl⟩, hnd, hf⟩ := h
  simp only [List.cons.injEq, Value.slice.injEq, and_true] at e
  obtain ⟨rfl, rfl, rfl⟩ := e
  rcases hl with ⟨rfl, -⟩ | ⟨b', off', rows, bls, e2, hb, rfl, hr, hbl, hj⟩
  · simp at hk
  simp only [Option.some.injEq, Addr.mk.injEq, and_true] at e2
  obtain ⟨rfl, rfl⟩ := e2
  have hk1 : k < rows.length := by omega
  have hk2 : k < bls.length := by omega
  obtain ⟨hc, hlie⟩ := hj k hk hk1 hk2
  rw [List.nodup_cons] at hnd
  have hmem : ∀ c ∈ bls[k], c ∈ bls.flatten := fun c hc => List.mem_flatten.2 ⟨_, List.getElem_mem _, hc⟩
  have hb0 : b ∉ bls[k] := fun hm => hnd.1 (hmem b hm)
  have hfl := nodup_flat hnd.2
  refine ⟨rows[k], bls[k], ⟨A.len hlie, hc, fun _ _ => rfl, fun q => hf b (by simp) q, hb, Ext.refl _ _⟩, ⟨hlie, hfl.1 _ (List.getElem_mem _), fun c hm => hf c (by simp [hmem c hm])⟩, hb0, ?_, ?_⟩
  · rintro c (rfl | hm)
    · simp
    · simp [hmem c hm]
  · intro w' row' x' hR hO
    have hkeep : ∀ c, c < w.heap.size → c ≠ b → c ∉ bls[k] → w'.heap[c]? = w.heap[c]? := fun c hlt h1 h2 => hR.ext.block c hlt (by rintro (h | h); exact h1 h; exact h2 h)
    have hother : ∀ j (h1 : j < bls.length), j ≠ k → ∀ c ∈ bls[j], c ≠ b ∧ c ∉ bls[k] := by
      intro j h1 hne c hm
      refine ⟨fun e => hnd.1 (e ▸ List.mem_flatten.2 ⟨_, List.getElem_mem h1, hm⟩), fun hm2 => ?_⟩
      exact hfl.2 j k h1 hk2 hne c hm hm2
    refine ⟨⟨some ⟨b, off, none⟩, cap, by simp, by simpa using hsz, Or.inr ⟨b, off, rows.set k row', bls, rfl, hR.lt, rfl, by simpa using hr, by simpa using hbl, fun j h1 h2 h3 => ?_⟩⟩, ?_, ?_⟩
    · have h1' : j < xs.length := by simpa using h1
      have h2' : j < rows.length := by simpa using h2
      by_cases e : j = k
      · subst e
        rw [List.getElem_set_self, List.getElem_set_self]
        exact ⟨hR.cells, hO.1⟩
      · rw [List.getElem_set_ne (by omega), List.getElem_set_ne (by omega)]
        obtain ⟨c1, c2⟩ := hj j h1' h2' h3
        refine ⟨fun m hm => ?_, A.keep c2 fun c hm => hkeep c (A.lt c2 c hm) (hother j h3 e c hm).1 (hother j h3 e c hm).2⟩
        rw [hR.others _ ?_]
        · exact c1 m hm
        · rcases Nat.lt_or_ge j k with h | h
          · left
            have : (j + 1) * A.n ≤ k * A.n := Nat.mul_le_mul_right _ h
            rw [Nat.add_mul] at this
            omega
          · right
            have : (k + 1) * A.n ≤ j * A.n := Nat.mul_le_mul_right _ (by omega)
            rw [Nat.add_mul] at this
            omega
    · rw [List.nodup_cons]
      exact hnd
    · intro c hm o
      rcases List.mem_cons.1 hm with rfl | hm
      · exact hR.soft o
      · obtain ⟨l, hl1, hl2⟩ := List.mem_flatten.1 hm
        obtain ⟨j, hjl, rfl⟩ := List.getElem_of_mem hl1
        by_cases e : j = k
        · subst e
          exact hO.2.2 c hl2 o
        · obtain ⟨c1, c2⟩ := hj j (by omega) (by omega) hjl
          rw [frozen_of_heap (hkeep c (A.lt c2 c hl2) (hother j hjl e c hl2).1 (hother j hjl e c hl2).2) o]
          exact hf c (List.mem_cons_of_mem _ hm) o
end Lay

/-! ### Lists that are marked one element behind the other -/
theorem mkAll_at {α : Type} (c : α → Nat) (m : Int → α → α) (k : Int) (xs : List α) (j : Nat) (hj : j < xs.length) (hj2 : j < (mkAll c m k xs).length) : (mkAll c m k xs)[j] = m (k + (cntAll c (xs.take j) : Nat)) xs[j] := by
  induction xs generalizing k j with
  | nil => simp at hj
  | cons x xs ih =>
    match j with
    | 0 => simp [mkAll, cntAll]
    | j + 1 =>
      have := ih (k + c x) j (by simpa using hj) (by simpa [mkAll] using hj2)
      simp only [mkAll, List.getElem_cons_succ, List.take_succ_cons, cntAll]
      rw [this]
      congr 1
      omega
theorem mkAll_size {α : Type} (c : α → Nat) (m : Int → α → α) (k : Int) (xs : List α) : (mkAll c m k xs).length = xs.length := by
  induction xs generalizing k with
  | nil => rfl
  | cons x xs ih => simp [mkAll, ih]
/-- The first j marked, the others as they were. -/
def mkPre {α : Type} (c : α → Nat) (m : Int → α → α) (k : Int) (xs : List α) (j : Nat) : List α := (mkAll c m k xs).take j ++ xs.drop j
theorem mkPre_len {α : Type} (c : α → Nat) (m : Int → α → α) (k : Int) (xs : List α) (j : Nat) (hj : j ≤ xs.length) : (mkPre c m k xs j).length = xs.length := by
  simp [mkPre, mkAll_size]; omega
theorem mkPre_get {α : Type} (c : α → Nat) (m : Int → α → α) (k : Int) (xs : List α) (j : Nat) (hj : j < xs.length) (h2 : j < (mkPre c m k xs j).length) : (mkPre c m k xs j)[j] = xs[j] := by
  have e : (mkPre c m k xs j)[j]? = xs[j]? := by
    rw [mkPre, List.getElem?_append_right (by simp [mkAll_size]; omega)]
    simp [mkAll_size, Nat.min_eq_left (Nat.le_of_lt hj)]
  rw [List.getElem?_eq_getElem h2, List.getElem?_eq_getElem hj] at e
  exact Option.some.inj e
theorem mkPre_set {α : Type} (c : α → Nat) (m : Int → α → α) (k : Int) (xs : List α) (j : Nat) (hj : j < xs.length) : (mkPre c m k xs j).set j (m (k + (cntAll c (xs.take j) : Nat)) xs[j]) = mkPre c m k xs (j + 1) := by
  have hl : ((mkAll c m k xs).take j).length = j := by simp [mkAll_size]; omega
  unfold mkPre
  rw [List.set_append_right _ _ (by omega), hl, Nat.sub_self, List.drop_eq_getElem_cons hj, List.set_cons_zero, List.take_succ_eq_append_getElem (by rw [mkAll_size]; exact hj), mkAll_at c m k xs j hj]
  simp
theorem mkPre_zero {α : Type} (c : α → Nat) (m : Int → α → α) (k : Int) (xs : List α) : mkPre c m k xs 0 = xs := by simp [mkPre]
theorem mkPre_all {α : Type} (c : α → Nat) (m : Int → α → α) (k : Int) (xs : List α) : mkPre c m k xs xs.length = mkAll c m k xs := by
  unfold mkPre
  rw [List.drop_length, List.append_nil, List.take_of_length_le (by rw [mkAll_size]; exact Nat.le_refl _)]
end Go.Proofs.Ythpbdafhjakekaa

namespace Go.Proofs.Ythpbdafhjakekaa
open Go.RowKit

/-- The slice v holds the data xs, row by row; the blocks behind them are bls; the row's own block is none of them. -/
structure Grow {α : Type} (A : Lay α) (w : World) (base T : Nat) (v : Value) (rows : List (List Value)) (xs : List α) (bls : List (List Nat)) : Prop where
  own : w.ownsRow base T A.n v xs.length rows.flatten
  nrows : rows.length = xs.length
  nbls : bls.length = xs.length
  lies : ∀ j (h1 : j < xs.length) (h2 : j < rows.length) (h3 : j < bls.length), A.lies w rows[j] xs[j] bls[j]
  off : ∀ b ∈ bls.flatten, v.ownBlock ≠ some b

namespace Grow
variable {α : Type} {A : Lay α} {w w' : World} {base T : Nat} {v : Value} {rows : List (List Value)} {xs : List α} {bls : List (List Nat)}

theorem nil (h : w.ownsRow base T A.n v 0 []) : Grow A w base T v [] [] [] := ⟨h, rfl, rfl, fun j h1 => by simp at h1, by simp⟩
theorem sub_lt (h : Grow A w base T v rows xs bls) : ∀ b ∈ bls.flatten, b < w.heap.size := by
  intro b hb
  obtain ⟨l, h1, h2⟩ := List.mem_flatten.1 hb
  obtain ⟨j, hj, rfl⟩ := List.getElem_of_mem h1
  exact A.lt (h.lies j (by have := h.nbls; omega) (by have := h.nbls; have := h.nrows; omega) hj) b h2
theorem kept (h : Grow A w base T v rows xs bls) (ho : w'.ownsRow base T A.n v xs.length rows.flatten) (hk : ∀ b ∈ bls.flatten, w'.heap[b]? = w.heap[b]?) : Grow A w' base T v rows xs bls :=
  ⟨ho, h.nrows, h.nbls, fun j h1 h2 h3 => A.keep (h.lies j h1 h2 h3) fun b hb => hk b (List.mem_flatten.2 ⟨_, List.getElem_mem _, hb⟩), h.off⟩
theorem later (h : Grow A w base T v rows xs bls) (hb : Below w.heap.size w w') : Grow A w' base T v rows xs bls :=
  h.kept (own_below h.own hb) fun b hm => hb.block b (h.sub_lt b hm)
theorem lower {b' : Nat} (h : Grow A w base T v rows xs bls) (hb : b' ≤ base) : Grow A w b' T v rows xs bls := ⟨own_mono hb h.own, h.nrows, h.nbls, h.lies, h.off⟩
/-- Another block is written. -/
theorem grown {b : Nat} (h : Grow A w base T v rows xs bls) (hg : w.grownBy w' (some b)) (hb : b < base) (hs : ∀ c ∈ bls.flatten, base ≤ c) : Grow A w' base T v rows xs bls :=
  h.kept (h.own.kept hg (Or.inr fun e => by have := (h.own.lt b e).1; omega)) fun c hc => hg.block c (h.sub_lt c hc) (fun e => by
    have h1 := hs c hc
    have h2 : c = b := Option.some.inj e
    omega)
/-- One more. -/
theorem snoc (h : Grow A w base T v rows xs bls) {row : List Value} {x : α} {bl : List Nat} (hl : A.lies w row x bl) (hb : ∀ b ∈ bl, v.ownBlock ≠ some b) {g cap : Nat}
    (ho : w'.ownsRow base T A.n (.slice (some ⟨g, 0, none⟩) (xs.length + 1) cap) (xs.length + 1) (rows.flatten ++ row)) (hg : w.grownBy w' v.ownBlock) (hor : v.ownBlock = some g ∨ w.heap.size ≤ g) :
    Grow A w' base T (.slice (some ⟨g, 0, none⟩) (xs.length + 1) cap) (rows ++ [row]) (xs ++ [x]) (bls ++ [bl]) := by
  have hlt := h.sub_lt
  have hbl := A.lt hl
  have hk : ∀ b ∈ bls.flatten, w'.heap[b]? = w.heap[b]? := fun b hm => hg.block b (hlt b hm) (fun e => h.off b hm e.symm)
  have hk2 : ∀ b ∈ bl, w'.heap[b]? = w.heap[b]? := fun b hm => hg.block b (hbl b hm) (fun e => hb b hm e.symm)
  refine ⟨by simpa using ho, by simp [h.nrows], by simp [h.nbls], fun j h1 h2 h3 => ?_, ?_⟩
  · by_cases hj : j < xs.length
    · have e := h.lies j hj (by have := h.nrows; omega) (by have := h.nbls; omega)
      rw [List.getElem_append_left (by have := h.nrows; omega), List.getElem_append_left hj, List.getElem_append_left (by have := h.nbls; omega)]
      exact A.keep e fun b hm => hk b (List.mem_flatten.2 ⟨_, List.getElem_mem _, hm⟩)
    · obtain rfl : j = xs.length := by simp at h1; omega
      rw [List.getElem_append_right (by have := h.nrows; omega), List.getElem_append_right (by omega), List.getElem_append_right (by have := h.nbls; omega)]
      simpa using A.keep hl hk2
  · intro b hm e
    have e1 : b = g := by simpa [Value.ownBlock] using e.symm
    rw [List.flatten_append] at hm
    rcases hor with ho1 | ho1
    · rcases List.mem_append.1 hm with hm | hm
      · exact h.off b hm (by rw [ho1, e1])
      · exact hb b (by simpa using hm) (by rw [ho1, e1])
    · rcases List.mem_append.1 hm with hm | hm
      · have := hlt b hm; omega
      · have := hbl b (by simpa using hm); omega
theorem form (h : Grow A w base T v rows xs bls) : (v = .slice none 0 0 ∧ xs = []) ∨ ∃ g cap, v = .slice (some ⟨g, 0, none⟩) xs.length cap ∧ base ≤ g ∧ g < w.heap.size ∧ xs.length ≤ cap := by
  rcases h.own.2 with ⟨rfl, h0⟩ | ⟨g, cap, cur, rfl, hg, hh, hcap, _⟩
  · exact Or.inl ⟨rfl, List.eq_nil_of_length_eq_zero h0⟩
  · exact Or.inr ⟨g, cap, rfl, hg, lt_of_block hh, hcap⟩
theorem row_len (h : Grow A w base T v rows xs bls) : ∀ r ∈ rows, r.length = A.n := by
  intro r hm
  obtain ⟨j, hj, rfl⟩ := List.getElem_of_mem hm
  exact A.len (h.lies j (by have := h.nrows; omega) hj (by have := h.nrows; have := h.nbls; omega))
theorem flat_len (h : Grow A w base T v rows xs bls) : rows.flatten.length = xs.length * A.n := h.own.1
/-- It can be read. -/
theorem reads (h : Grow A w base T v rows xs bls) (hn : xs.length ≤ 9223372036854775807) : (Lay.sl A).lies w [v] xs (match v with | .slice (some a) _ _ => if xs = [] then [] else a.block :: bls.flatten | _ => []) ∨ xs = [] ∧ (Lay.sl A).lies w [v] xs [] := by
  rcases h.form with ⟨rfl, rfl⟩ | ⟨g, cap, rfl, hg, hgl, hcap⟩
  · exact Or.inr ⟨rfl, ⟨none, 0, rfl, ⟨by simp, hn⟩, Or.inl ⟨rfl, rfl⟩⟩⟩
  · by_cases h0 : xs = []
    · subst h0
      exact Or.inr ⟨rfl, ⟨_, cap, rfl, ⟨hcap, hn⟩, Or.inl ⟨rfl, rfl⟩⟩⟩
    · left
      simp only [if_neg h0]
      refine ⟨_, cap, rfl, ⟨hcap, hn⟩, Or.inr ⟨g, 0, rows, bls, rfl, hgl, rfl, h.nrows, h.nbls, fun j h1 h2 h3 => ⟨fun m hm => ?_, h.lies j h1 h2 h3⟩⟩⟩
      rw [Nat.zero_add, h.own.cellAt (j * A.n + m) (by
        have := h.flat_len
        have : (j + 1) * A.n ≤ xs.length * A.n := Nat.mul_le_mul_right _ (by omega)
        rw [Nat.add_mul] at this
        omega)]
      exact Lay.flat_at h.row_len j m h2 hm
theorem toReads (h : Grow A w base T v rows xs bls) (hn : xs.length ≤ 9223372036854775807) : (Lay.sl A).Reads w [v] xs := by
  rcases h.reads hn with h | ⟨-, h⟩
  · exact ⟨_, h⟩
  · exact ⟨_, h⟩
/-- It is data of the call's own, if what lies behind it is. -/
theorem toOwn (h : Grow A w base T v rows xs bls) (hn : xs.length ≤ 9223372036854775807) (hnd : bls.flatten.Nodup) (hs : ∀ b ∈ bls.flatten, base ≤ b ∧ ∀ o, w.frozen? ⟨b, o, none⟩ = false) : (Lay.sl A).OwnIn w [v] xs base w.heap.size := by
  have hr := h.reads hn
  rcases h.form with ⟨rfl, rfl⟩ | ⟨g, cap, rfl, hg, hgl, hcap⟩
  · exact ⟨[], ⟨⟨none, 0, rfl, ⟨by simp, hn⟩, Or.inl ⟨rfl, rfl⟩⟩, by simp, by simp⟩, by simp⟩
  · by_cases h0 : xs = []
    · subst h0
      exact ⟨[], ⟨⟨_, cap, rfl, ⟨hcap, hn⟩, Or.inl ⟨rfl, rfl⟩⟩, by simp, by simp⟩, by simp⟩
    · simp only [if_neg h0] at hr
      rcases hr with hr | ⟨h1, -⟩
      · refine ⟨_, ⟨hr, ?_, ?_⟩, ?_⟩
        · rw [List.nodup_cons]
          exact ⟨fun hm => h.off g hm rfl, hnd⟩
        · intro b hm o
          rcases List.mem_cons.1 hm with rfl | hm
          · exact h.own.frozenAt o
          · exact (hs b hm).2 o
        · intro b hm
          rcases List.mem_cons.1 hm with rfl | hm
          · exact ⟨hg, hgl⟩
          · exact ⟨(hs b hm).1, h.sub_lt b hm⟩
      · exact absurd h1 h0
/-- It lies in the call's own blocks, if what lies behind it does. -/
theorem toLies (h : Grow A w base T v rows xs bls) (hn : xs.length ≤ 9223372036854775807) (hs : ∀ b ∈ bls.flatten, base ≤ b) : (Lay.sl A).LiesIn w [v] xs base w.heap.size := by
  have hr := h.reads hn
  rcases h.form with ⟨rfl, rfl⟩ | ⟨g, cap, rfl, hg, hgl, hcap⟩
  · exact ⟨[], ⟨none, 0, rfl, ⟨by simp, hn⟩, Or.inl ⟨rfl, rfl⟩⟩, by simp⟩
  · by_cases h0 : xs = []
    · subst h0
      exact ⟨[], ⟨_, cap, rfl, ⟨hcap, hn⟩, Or.inl ⟨rfl, rfl⟩⟩, by simp⟩
    · simp only [if_neg h0] at hr
      rcases hr with hr | ⟨h1, -⟩
      · refine ⟨_, hr, fun b hm => ?_⟩
        rcases List.mem_cons.1 hm with rfl | hm
        · exact ⟨hg, hgl⟩
        · exact ⟨hs b hm, h.sub_lt b hm⟩
      · exact absurd h1 h0
end Grow

end Go.Proofs.Ythpbdafhjakekaa
