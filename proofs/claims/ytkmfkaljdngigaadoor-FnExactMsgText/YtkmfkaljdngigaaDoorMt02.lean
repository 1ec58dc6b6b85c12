/-
  Texts of this proof in one: TabGround, LayMsg, Info, Ints, LayInt, SzInt64S, SzWrite, SzMsg, ToWrite, ToMsg, EqWrite, EqMsg, LayTextResult, EqTextResult, ReadPlain.
  Their conditions stand in their theorems.
-/
import Derived.WalkKit
import Derived.Test.YtkmfkaljdngigaaDoorMt01
import Derived.Maps.OwnSet
import Derived.Test.YtkmfkaljdngigaaDoorChecked
import Derived.BigQuiet
import Derived.Deep.QuietTactic
import Derived.WalkSmall

namespace Go.Proofs.YtkmfkaljdngigaaDoor

def partB (z : Int) : Bool := decide (-1000 ≤ z) && decide (z ≤ 1000)
def vecFault (zs : List Int) : Int := if zs.length = 3 then (if zs.all partB then 0 else 3) else 1

theorem vecFault_len {zs : List Int} (h : zs.length ≠ 3) : vecFault zs = 1 := by simp [vecFault, h]
theorem vecFault_bad {zs : List Int} (h : zs.length = 3) (k : Nat) (hk : k < 3) (hb : partB (zs.getD k 0) = false) : vecFault zs = 3 := by
  have : zs.all partB = false := by
    rw [List.all_eq_false]
    exact ⟨zs.getD k 0, by simp [List.getD, show k < zs.length by omega], by rw [hb]; simp⟩
  simp [vecFault, h, this]
theorem vecFault_ok {zs : List Int} (h : zs.length = 3) (hg : ∀ j, j < 3 → partB (zs.getD j 0) = true) : vecFault zs = 0 := by
  have : zs.all partB = true := by
    rw [List.all_eq_true]
    intro x hx
    obtain ⟨j, hj, rfl⟩ := List.mem_iff_getElem.1 hx
    have := hg j (by omega)
    simpa [List.getD, hj] using this
  simp [vecFault, h, this]
theorem partB_true {z : Int} (h : partB z = true) : -1000 ≤ z ∧ z ≤ 1000 := by simpa [partB] using h
theorem partB_false {z : Int} (h : partB z = false) : z < -1000 ∨ 1000 < z := by
  simp [partB] at h
  omega
theorem vecFault_zero {zs : List Int} (h : vecFault zs = 0) : zs.length = 3 ∧ ∀ j, j < 3 → -1000 ≤ zs.getD j 0 ∧ zs.getD j 0 ≤ 1000 := by
  unfold vecFault at h
  split at h
  · next hl =>
    refine ⟨hl, fun j hj => ?_⟩
    split at h
    · next ha =>
      rw [List.all_eq_true] at ha
      exact partB_true (ha _ (by simp [List.getD, show j < zs.length by omega]))
    · simp at h
  · simp at h

theorem fault3 {x y z : Int} (h : vecFault [x, y, z] = 0) : (-1000 ≤ x ∧ x ≤ 1000) ∧ (-1000 ≤ y ∧ y ≤ 1000) ∧ (-1000 ≤ z ∧ z ≤ 1000) := by
  have h1 := (vecFault_zero h).2
  exact ⟨by simpa using h1 0 (by omega), by simpa using h1 1 (by omega), by simpa using h1 2 (by omega)⟩

end Go.Proofs.YtkmfkaljdngigaaDoor

namespace Go.Proofs.YtkmfkaljdngigaaDoor
open Go.RowKit

structure DWrite where
  kind : Int
  id : Int
  vec : List Int
  session : Int
  seq : Int

def Lay.tWrite : Lay DWrite := Lay.via (Lay.pair Lay.int (Lay.pair Lay.int (Lay.pair (Lay.sl Lay.int) (Lay.pair Lay.int Lay.int)))) (fun x => (x.kind, x.id, x.vec, x.session, x.seq)) (fun p => ⟨p.1, p.2.1, p.2.2.1, p.2.2.2.1, p.2.2.2.2⟩)

theorem lies_Write {w : World} {cs : List Value} {x : DWrite} {bl : List Nat} : Lay.tWrite.lies w cs x bl ↔ ∃ (a2 : Option Addr) (d2 : Nat) (b2 : List Nat), cs = [.int .i64 x.kind, .int .i64 x.id, .slice a2 x.vec.length d2, .int .i64 x.session, .int .i64 x.seq] ∧ bl = b2 ∧ (Lit.int .i64 x.kind).wf = true ∧ (Lit.int .i64 x.id).wf = true ∧ (Lay.sl Lay.int).lies w [.slice a2 x.vec.length d2] x.vec b2 ∧ (Lit.int .i64 x.session).wf = true ∧ (Lit.int .i64 x.seq).wf = true := by
  constructor
  · intro h
    obtain ⟨c0_, r0_, e0_, s0_, rfl, rfl, h0, ⟨c1_, r1_, e1_, s1_, rfl, rfl, h1, ⟨c2_, r2_, e2_, s2_, rfl, rfl, h2, ⟨c3_, r3_, e3_, s3_, rfl, rfl, h3, h4⟩⟩⟩⟩ := h
    obtain ⟨rfl, w0, rfl⟩ := h0
    obtain ⟨rfl, w1, rfl⟩ := h1
    have k2 := h2
    obtain ⟨a2, d2, rfl, -⟩ := k2
    obtain ⟨rfl, w3, rfl⟩ := h3
    obtain ⟨rfl, w4, rfl⟩ := h4
    exact ⟨a2, d2, e2_, by simp, by simp, w0, w1, h2, w3, w4⟩
  · rintro ⟨a2, d2, b2, rfl, hbl, w0, w1, l2, w3, w4⟩
    rw [hbl]
    exact ⟨[.int .i64 x.kind], [.int .i64 x.id] ++ ([.slice a2 x.vec.length d2] ++ ([.int .i64 x.session] ++ [.int .i64 x.seq])), [], [] ++ (b2 ++ ([] ++ ([]))), rfl, by simp, ⟨rfl, w0, rfl⟩, ⟨[.int .i64 x.id], [.slice a2 x.vec.length d2] ++ ([.int .i64 x.session] ++ [.int .i64 x.seq]), [], b2 ++ ([] ++ ([])), rfl, by simp, ⟨rfl, w1, rfl⟩, ⟨[.slice a2 x.vec.length d2], [.int .i64 x.session] ++ [.int .i64 x.seq], b2, [] ++ ([]), rfl, by simp, l2, ⟨[.int .i64 x.session], [.int .i64 x.seq], [], [], rfl, by simp, ⟨rfl, w3, rfl⟩, ⟨rfl, w4, rfl⟩⟩⟩⟩⟩

theorem open_Write {w : World} {cs : List Value} {x : DWrite} (h : Lay.tWrite.Reads w cs x) : ∃ (a2 : Option Addr) (d2 : Nat), cs = [.int .i64 x.kind, .int .i64 x.id, .slice a2 x.vec.length d2, .int .i64 x.session, .int .i64 x.seq] ∧ (Lay.sl Lay.int).Reads w [.slice a2 x.vec.length d2] x.vec := by
  obtain ⟨bl, h⟩ := h
  obtain ⟨a2, d2, b2, rfl, -, w0, w1, l2, w3, w4⟩ := lies_Write.1 h
  exact ⟨a2, d2, rfl, ⟨_, l2⟩⟩

end Go.Proofs.YtkmfkaljdngigaaDoor

namespace Go.Proofs.YtkmfkaljdngigaaDoor
open Go.RowKit

theorem vcnt_Write (x : DWrite) : Lay.tWrite.vcnt x = (Lay.sl Lay.int).vcnt x.vec := by
  show 0 + (0 + ((Lay.sl Lay.int).vcnt x.vec + (0 + (0)))) = (Lay.sl Lay.int).vcnt x.vec
  omega
theorem mkv_Write (k : Int) (x : DWrite) : Lay.tWrite.mkv k x = ⟨x.kind, x.id, (Lay.sl Lay.int).mkv (k) x.vec, x.session, x.seq⟩ := by
  simp [Lay.tWrite, Lay.via, Lay.pair, Lay.int]
theorem own_Write {w : World} {cs : List Value} {x : DWrite} {bl : List Nat} (h : Lay.tWrite.Own w cs x bl) : ∃ (a2 : Option Addr) (d2 : Nat) (g2 : List Nat), cs = [.int .i64 x.kind, .int .i64 x.id, .slice a2 x.vec.length d2, .int .i64 x.session, .int .i64 x.seq] ∧ bl = g2 ∧ (Lay.sl Lay.int).Own w [.slice a2 x.vec.length d2] x.vec g2 ∧ (Lit.int .i64 x.kind).wf = true ∧ (Lit.int .i64 x.id).wf = true ∧ (Lit.int .i64 x.session).wf = true ∧ (Lit.int .i64 x.seq).wf = true := by
  obtain ⟨hl, hn, hf⟩ := h
  obtain ⟨a2, d2, b2, rfl, hbl, w0, w1, l2, w3, w4⟩ := lies_Write.1 hl
  rw [hbl] at hn hf
  exact ⟨a2, d2, b2, rfl, hbl, ⟨l2, hn, hf⟩, w0, w1, w3, w4⟩
theorem mkOwn_Write {w : World} {x : DWrite} {c2 : List Value} {g2 : List Nat} (O2 : (Lay.sl Lay.int).Own w c2 x.vec g2) (v0 : (Lit.int .i64 x.kind).wf = true) (v1 : (Lit.int .i64 x.id).wf = true) (v3 : (Lit.int .i64 x.session).wf = true) (v4 : (Lit.int .i64 x.seq).wf = true) (hn : (g2).Nodup) : Lay.tWrite.Own w ([.int .i64 x.kind] ++ ([.int .i64 x.id] ++ (c2 ++ ([.int .i64 x.session] ++ ([.int .i64 x.seq]))))) x (g2) := by
  refine ⟨⟨[.int .i64 x.kind], [.int .i64 x.id] ++ (c2 ++ ([.int .i64 x.session] ++ ([.int .i64 x.seq]))), [], [] ++ (g2 ++ ([] ++ [])), rfl, by simp, ⟨rfl, v0, rfl⟩, ⟨[.int .i64 x.id], c2 ++ ([.int .i64 x.session] ++ ([.int .i64 x.seq])), [], g2 ++ ([] ++ []), rfl, rfl, ⟨rfl, v1, rfl⟩, ⟨c2, [.int .i64 x.session] ++ ([.int .i64 x.seq]), g2, [] ++ [], rfl, rfl, O2.1, ⟨[.int .i64 x.session], [.int .i64 x.seq], [], [], rfl, rfl, ⟨rfl, v3, rfl⟩, ⟨rfl, v4, rfl⟩⟩⟩⟩⟩, hn, ?_⟩
  intro b hb o
  exact O2.2.2 b hb o

end Go.Proofs.YtkmfkaljdngigaaDoor

namespace Go.Proofs.YtkmfkaljdngigaaDoor
open Go.RowKit

structure DItem where
  id : Int
  vec : List Int

def Lay.tItem : Lay DItem := Lay.via (Lay.pair Lay.int (Lay.sl Lay.int)) (fun x => (x.id, x.vec)) (fun p => ⟨p.1, p.2⟩)

theorem lies_Item {w : World} {cs : List Value} {x : DItem} {bl : List Nat} : Lay.tItem.lies w cs x bl ↔ ∃ (a1 : Option Addr) (d1 : Nat) (b1 : List Nat), cs = [.int .i64 x.id, .slice a1 x.vec.length d1] ∧ bl = b1 ∧ (Lit.int .i64 x.id).wf = true ∧ (Lay.sl Lay.int).lies w [.slice a1 x.vec.length d1] x.vec b1 := by
  constructor
  · intro h
    obtain ⟨c0_, r0_, e0_, s0_, rfl, rfl, h0, h1⟩ := h
    obtain ⟨rfl, w0, rfl⟩ := h0
    have k1 := h1
    obtain ⟨a1, d1, rfl, -⟩ := k1
    exact ⟨a1, d1, s0_, by simp, by simp, w0, h1⟩
  · rintro ⟨a1, d1, b1, rfl, hbl, w0, l1⟩
    rw [hbl]
    exact ⟨[.int .i64 x.id], [.slice a1 x.vec.length d1], [], b1, rfl, by simp, ⟨rfl, w0, rfl⟩, l1⟩

theorem open_Item {w : World} {cs : List Value} {x : DItem} (h : Lay.tItem.Reads w cs x) : ∃ (a1 : Option Addr) (d1 : Nat), cs = [.int .i64 x.id, .slice a1 x.vec.length d1] ∧ (Lay.sl Lay.int).Reads w [.slice a1 x.vec.length d1] x.vec := by
  obtain ⟨bl, h⟩ := h
  obtain ⟨a1, d1, b1, rfl, -, w0, l1⟩ := lies_Item.1 h
  exact ⟨a1, d1, rfl, ⟨_, l1⟩⟩

end Go.Proofs.YtkmfkaljdngigaaDoor

namespace Go.Proofs.YtkmfkaljdngigaaDoor
open Go.RowKit

theorem vcnt_Item (x : DItem) : Lay.tItem.vcnt x = (Lay.sl Lay.int).vcnt x.vec := by
  show 0 + ((Lay.sl Lay.int).vcnt x.vec) = (Lay.sl Lay.int).vcnt x.vec
  omega
theorem mkv_Item (k : Int) (x : DItem) : Lay.tItem.mkv k x = ⟨x.id, (Lay.sl Lay.int).mkv (k) x.vec⟩ := by
  simp [Lay.tItem, Lay.via, Lay.pair, Lay.int]
theorem own_Item {w : World} {cs : List Value} {x : DItem} {bl : List Nat} (h : Lay.tItem.Own w cs x bl) : ∃ (a1 : Option Addr) (d1 : Nat) (g1 : List Nat), cs = [.int .i64 x.id, .slice a1 x.vec.length d1] ∧ bl = g1 ∧ (Lay.sl Lay.int).Own w [.slice a1 x.vec.length d1] x.vec g1 ∧ (Lit.int .i64 x.id).wf = true := by
  obtain ⟨hl, hn, hf⟩ := h
  obtain ⟨a1, d1, b1, rfl, hbl, w0, l1⟩ := lies_Item.1 hl
  rw [hbl] at hn hf
  exact ⟨a1, d1, b1, rfl, hbl, ⟨l1, hn, hf⟩, w0⟩
theorem mkOwn_Item {w : World} {x : DItem} {c1 : List Value} {g1 : List Nat} (O1 : (Lay.sl Lay.int).Own w c1 x.vec g1) (v0 : (Lit.int .i64 x.id).wf = true) (hn : (g1).Nodup) : Lay.tItem.Own w ([.int .i64 x.id] ++ c1) x (g1) := by
  refine ⟨⟨[.int .i64 x.id], c1, [], g1, rfl, by simp, ⟨rfl, v0, rfl⟩, O1.1⟩, hn, ?_⟩
  intro b hb o
  exact O1.2.2 b hb o

end Go.Proofs.YtkmfkaljdngigaaDoor

namespace Go.Proofs.YtkmfkaljdngigaaDoor
open Go.RowKit

structure DTableResult where
  code : Int
  items : List DItem

def Lay.tTableResult : Lay DTableResult := Lay.via (Lay.pair Lay.int (Lay.sl Lay.tItem)) (fun x => (x.code, x.items)) (fun p => ⟨p.1, p.2⟩)

theorem lies_TableResult {w : World} {cs : List Value} {x : DTableResult} {bl : List Nat} : Lay.tTableResult.lies w cs x bl ↔ ∃ (a1 : Option Addr) (d1 : Nat) (b1 : List Nat), cs = [.int .i64 x.code, .slice a1 x.items.length d1] ∧ bl = b1 ∧ (Lit.int .i64 x.code).wf = true ∧ (Lay.sl Lay.tItem).lies w [.slice a1 x.items.length d1] x.items b1 := by
  constructor
  · intro h
    obtain ⟨c0_, r0_, e0_, s0_, rfl, rfl, h0, h1⟩ := h
    obtain ⟨rfl, w0, rfl⟩ := h0
    have k1 := h1
    obtain ⟨a1, d1, rfl, -⟩ := k1
    exact ⟨a1, d1, s0_, by simp, by simp, w0, h1⟩
  · rintro ⟨a1, d1, b1, rfl, hbl, w0, l1⟩
    rw [hbl]
    exact ⟨[.int .i64 x.code], [.slice a1 x.items.length d1], [], b1, rfl, by simp, ⟨rfl, w0, rfl⟩, l1⟩

theorem open_TableResult {w : World} {cs : List Value} {x : DTableResult} (h : Lay.tTableResult.Reads w cs x) : ∃ (a1 : Option Addr) (d1 : Nat), cs = [.int .i64 x.code, .slice a1 x.items.length d1] ∧ (Lay.sl Lay.tItem).Reads w [.slice a1 x.items.length d1] x.items := by
  obtain ⟨bl, h⟩ := h
  obtain ⟨a1, d1, b1, rfl, -, w0, l1⟩ := lies_TableResult.1 h
  exact ⟨a1, d1, rfl, ⟨_, l1⟩⟩

end Go.Proofs.YtkmfkaljdngigaaDoor

namespace Go.Proofs.YtkmfkaljdngigaaDoor
open Go.RowKit

theorem vcnt_TableResult (x : DTableResult) : Lay.tTableResult.vcnt x = (Lay.sl Lay.tItem).vcnt x.items := by
  show 0 + ((Lay.sl Lay.tItem).vcnt x.items) = (Lay.sl Lay.tItem).vcnt x.items
  omega
theorem mkv_TableResult (k : Int) (x : DTableResult) : Lay.tTableResult.mkv k x = ⟨x.code, (Lay.sl Lay.tItem).mkv (k) x.items⟩ := by
  simp [Lay.tTableResult, Lay.via, Lay.pair, Lay.int]
theorem own_TableResult {w : World} {cs : List Value} {x : DTableResult} {bl : List Nat} (h : Lay.tTableResult.Own w cs x bl) : ∃ (a1 : Option Addr) (d1 : Nat) (g1 : List Nat), cs = [.int .i64 x.code, .slice a1 x.items.length d1] ∧ bl = g1 ∧ (Lay.sl Lay.tItem).Own w [.slice a1 x.items.length d1] x.items g1 ∧ (Lit.int .i64 x.code).wf = true := by
  obtain ⟨hl, hn, hf⟩ := h
  obtain ⟨a1, d1, b1, rfl, hbl, w0, l1⟩ := lies_TableResult.1 hl
  rw [hbl] at hn hf
  exact ⟨a1, d1, b1, rfl, hbl, ⟨l1, hn, hf⟩, w0⟩
theorem mkOwn_TableResult {w : World} {x : DTableResult} {c1 : List Value} {g1 : List Nat} (O1 : (Lay.sl Lay.tItem).Own w c1 x.items g1) (v0 : (Lit.int .i64 x.code).wf = true) (hn : (g1).Nodup) : Lay.tTableResult.Own w ([.int .i64 x.code] ++ c1) x (g1) := by
  refine ⟨⟨[.int .i64 x.code], c1, [], g1, rfl, by simp, ⟨rfl, v0, rfl⟩, O1.1⟩, hn, ?_⟩
  intro b hb o
  exact O1.2.2 b hb o

end Go.Proofs.YtkmfkaljdngigaaDoor

namespace Go.Proofs.YtkmfkaljdngigaaDoor
open Go.RowKit

structure DIntsResult where
  code : Int
  list : List Int

def Lay.tIntsResult : Lay DIntsResult := Lay.via (Lay.pair Lay.int (Lay.sl Lay.int)) (fun x => (x.code, x.list)) (fun p => ⟨p.1, p.2⟩)

theorem lies_IntsResult {w : World} {cs : List Value} {x : DIntsResult} {bl : List Nat} : Lay.tIntsResult.lies w cs x bl ↔ ∃ (a1 : Option Addr) (d1 : Nat) (b1 : List Nat), cs = [.int .i64 x.code, .slice a1 x.list.length d1] ∧ bl = b1 ∧ (Lit.int .i64 x.code).wf = true ∧ (Lay.sl Lay.int).lies w [.slice a1 x.list.length d1] x.list b1 := by
  constructor
  · intro h
    obtain ⟨c0_, r0_, e0_, s0_, rfl, rfl, h0, h1⟩ := h
    obtain ⟨rfl, w0, rfl⟩ := h0
    have k1 := h1
    obtain ⟨a1, d1, rfl, -⟩ := k1
    exact ⟨a1, d1, s0_, by simp, by simp, w0, h1⟩
  · rintro ⟨a1, d1, b1, rfl, hbl, w0, l1⟩
    rw [hbl]
    exact ⟨[.int .i64 x.code], [.slice a1 x.list.length d1], [], b1, rfl, by simp, ⟨rfl, w0, rfl⟩, l1⟩

theorem open_IntsResult {w : World} {cs : List Value} {x : DIntsResult} (h : Lay.tIntsResult.Reads w cs x) : ∃ (a1 : Option Addr) (d1 : Nat), cs = [.int .i64 x.code, .slice a1 x.list.length d1] ∧ (Lay.sl Lay.int).Reads w [.slice a1 x.list.length d1] x.list := by
  obtain ⟨bl, h⟩ := h
  obtain ⟨a1, d1, b1, rfl, -, w0, l1⟩ := lies_IntsResult.1 h
  exact ⟨a1, d1, rfl, ⟨_, l1⟩⟩

end Go.Proofs.YtkmfkaljdngigaaDoor

namespace Go.Proofs.YtkmfkaljdngigaaDoor
open Go.RowKit

theorem vcnt_IntsResult (x : DIntsResult) : Lay.tIntsResult.vcnt x = (Lay.sl Lay.int).vcnt x.list := by
  show 0 + ((Lay.sl Lay.int).vcnt x.list) = (Lay.sl Lay.int).vcnt x.list
  omega
theorem mkv_IntsResult (k : Int) (x : DIntsResult) : Lay.tIntsResult.mkv k x = ⟨x.code, (Lay.sl Lay.int).mkv (k) x.list⟩ := by
  simp [Lay.tIntsResult, Lay.via, Lay.pair, Lay.int]
theorem own_IntsResult {w : World} {cs : List Value} {x : DIntsResult} {bl : List Nat} (h : Lay.tIntsResult.Own w cs x bl) : ∃ (a1 : Option Addr) (d1 : Nat) (g1 : List Nat), cs = [.int .i64 x.code, .slice a1 x.list.length d1] ∧ bl = g1 ∧ (Lay.sl Lay.int).Own w [.slice a1 x.list.length d1] x.list g1 ∧ (Lit.int .i64 x.code).wf = true := by
  obtain ⟨hl, hn, hf⟩ := h
  obtain ⟨a1, d1, b1, rfl, hbl, w0, l1⟩ := lies_IntsResult.1 hl
  rw [hbl] at hn hf
  exact ⟨a1, d1, b1, rfl, hbl, ⟨l1, hn, hf⟩, w0⟩
theorem mkOwn_IntsResult {w : World} {x : DIntsResult} {c1 : List Value} {g1 : List Nat} (O1 : (Lay.sl Lay.int).Own w c1 x.list g1) (v0 : (Lit.int .i64 x.code).wf = true) (hn : (g1).Nodup) : Lay.tIntsResult.Own w ([.int .i64 x.code] ++ c1) x (g1) := by
  refine ⟨⟨[.int .i64 x.code], c1, [], g1, rfl, by simp, ⟨rfl, v0, rfl⟩, O1.1⟩, hn, ?_⟩
  intro b hb o
  exact O1.2.2 b hb o

end Go.Proofs.YtkmfkaljdngigaaDoor

namespace Go.Proofs.YtkmfkaljdngigaaDoor
open Go.RowKit

def idB (v : Int) : Bool := decide (1 ≤ v) && decide (v ≤ 999)
def tabFrom : Option Int → List DItem → Int
  | _, [] => 0
  | p, x :: xs => if idB x.id then (if vecFault x.vec = 0 then (if p.all (fun q => decide (q < x.id)) then tabFrom (some x.id) xs else 1) else vecFault x.vec) else 3
def tableFault (xs : List DItem) : Int := if 30 < xs.length then 2 else tabFrom none xs
/-- The Id ahead of place k. -/
def idAhead (xs : List DItem) (k : Nat) : Option Int := if k = 0 then none else (xs[k - 1]?).map (·.id)
theorem idAhead_zero (xs : List DItem) : idAhead xs 0 = none := rfl
theorem idAhead_succ (xs : List DItem) (m : Nat) (h : m < xs.length) : idAhead xs (m + 1) = some xs[m].id := by simp [idAhead, h]
theorem tabFrom_step (xs : List DItem) (k : Nat) (h : k < xs.length) : tabFrom (idAhead xs k) (xs.drop k) =
    if idB xs[k].id then (if vecFault xs[k].vec = 0 then (if (idAhead xs k).all (fun q => decide (q < xs[k].id)) then tabFrom (idAhead xs (k + 1)) (xs.drop (k + 1)) else 1) else vecFault xs[k].vec) else 3 := by
  rw [List.drop_eq_getElem_cons h, idAhead_succ xs k h]
  rfl
/-- Rising by Id, each right. -/
def Rising (xs : List DItem) : Prop := xs.Pairwise (fun a b => a.id < b.id)
theorem tabFrom_zero {p : Option Int} {xs : List DItem} (h : tabFrom p xs = 0) : (∀ x ∈ xs, idB x.id = true ∧ vecFault x.vec = 0) ∧ Rising xs ∧ ∀ q, p = some q → ∀ x ∈ xs, q < x.id := by
  induction xs generalizing p with
  | nil => exact ⟨by simp, List.Pairwise.nil, by simp⟩
  | cons x xs ih =>
    rw [tabFrom] at h
    by_cases h1 : idB x.id = true
    · rw [if_pos h1] at h
      by_cases h2 : vecFault x.vec = 0
      · rw [if_pos h2] at h
        by_cases h3 : p.all (fun q => decide (q < x.id)) = true
        · rw [if_pos h3] at h
          obtain ⟨i1, i2, i3⟩ := ih h
          refine ⟨?_, List.pairwise_cons.2 ⟨fun y hy => i3 _ rfl y hy, i2⟩, ?_⟩
          · intro y hy
            rcases List.mem_cons.1 hy with rfl | hy
            · exact ⟨h1, h2⟩
            · exact i1 y hy
          · rintro q rfl y hy
            have hq : q < x.id := by simpa using h3
            rcases List.mem_cons.1 hy with rfl | hy
            · exact hq
            · exact Int.lt_trans hq (i3 _ rfl y hy)
        · rw [if_neg h3] at h; cases h
      · rw [if_neg h2] at h; exact absurd h h2
    · rw [if_neg h1] at h; cases h
theorem tabFrom_of {p : Option Int} {xs : List DItem} (h1 : ∀ x ∈ xs, idB x.id = true ∧ vecFault x.vec = 0) (h2 : Rising xs) (h3 : ∀ q, p = some q → ∀ x ∈ xs, q < x.id) : tabFrom p xs = 0 := by
  induction xs generalizing p with
  | nil => rfl
  | cons x xs ih =>
    obtain ⟨a1, a2⟩ := h1 x (by simp)
    rw [tabFrom, if_pos a1, if_pos a2, if_pos]
    · exact ih (fun y hy => h1 y (List.mem_cons_of_mem _ hy)) (List.pairwise_cons.1 h2).2 (fun q e y hy => by cases e; exact (List.pairwise_cons.1 h2).1 y hy)
    · cases p with
      | none => rfl
      | some q => simpa using h3 q rfl x (by simp)
theorem tableFault_zero {xs : List DItem} (h : tableFault xs = 0) : xs.length ≤ 30 ∧ (∀ x ∈ xs, idB x.id = true ∧ vecFault x.vec = 0) ∧ Rising xs := by
  unfold tableFault at h
  by_cases hn : 30 < xs.length
  · rw [if_pos hn] at h; cases h
  · rw [if_neg hn] at h
    obtain ⟨a, b, -⟩ := tabFrom_zero h
    exact ⟨by omega, a, b⟩
theorem tableFault_of {xs : List DItem} (hl : xs.length ≤ 30) (h1 : ∀ x ∈ xs, idB x.id = true ∧ vecFault x.vec = 0) (h2 : Rising xs) : tableFault xs = 0 := by
  unfold tableFault
  rw [if_neg (by omega)]
  exact tabFrom_of h1 h2 (by simp)

end Go.Proofs.YtkmfkaljdngigaaDoor

namespace Go.Proofs.YtkmfkaljdngigaaDoor
open Go.RowKit Go.ChangeMaps Go.Maps

theorem id_wf {z : Int} (h : idB z = true) : (Lit.int .i64 z).wf = true := by
  simp only [idB, Bool.and_eq_true, decide_eq_true_eq] at h
  exact wf_of_bd (by omega)
def vecD (zs : List Int) : DataW Unit := .agg (zs.map fun z => .lit (.int .i64 z))
theorem vecD_inj {a b : List Int} (h : vecD a = vecD b) : a = b := by
  simp only [vecD, DataW.agg.injEq] at h
  induction a generalizing b with
  | nil => cases b with
    | nil => rfl
    | cons y ys => simp at h
  | cons x xs ih => cases b with
    | nil => simp at h
    | cons y ys =>
      simp only [List.map_cons, List.cons.injEq, DataW.lit.injEq, Lit.int.injEq, true_and] at h
      rw [h.1, ih h.2]
def mapL (xs : List DItem) : List (Lit × DataW Unit) := xs.map fun x => (Lit.int .i64 x.id, vecD x.vec)
def mapD (xs : List DItem) : DataW Unit := .map (mapL xs)

/-- An item among rising ones. -/
def insI (x : DItem) : List DItem → List DItem
  | [] => [x]
  | y :: r => if x.id < y.id then x :: y :: r else y :: insI x r
def dropI (xs : List DItem) (id : Int) : List DItem := xs.filter (fun x => !(x.id == id))
def putI (xs : List DItem) (id : Int) (vec : List Int) : List DItem := insI ⟨id, vec⟩ (dropI xs id)
def hasI (xs : List DItem) (id : Int) : Bool := xs.any (fun x => x.id == id)

theorem same_lit (a b : Int) : (Lit.int .i64 a).sameKey (.int .i64 b) = (a == b) := by
  by_cases h : a = b
  · subst h; simp [Lit.sameKey]
  · simp [Lit.sameKey, h]
theorem has_mapD (xs : List DItem) (id : Int) : Maps.has (mapD xs) (.int .i64 id) = hasI xs id := by
  show (mapL xs).any (fun p => p.1.sameKey (.int .i64 id)) = xs.any (fun x => x.id == id)
  rw [mapL, List.any_map]
  congr 1
  funext x
  exact same_lit _ _
theorem size_mapD (xs : List DItem) : Maps.size (mapD xs) = xs.length := by simp [mapD, mapL, Maps.size]
theorem del_mapD (xs : List DItem) (id : Int) : (mapD xs).del (.int .i64 id) = mapD (dropI xs id) := by
  show DataW.map (delKey _ (mapL xs)) = DataW.map (mapL (dropI xs id))
  congr 1
  rw [delKey, mapL, dropI, mapL, List.filter_map]
  congr 1
  refine List.filter_congr fun x _ => ?_
  show (!(Lit.int .i64 x.id).sameKey (.int .i64 id)) = !(x.id == id)
  rw [same_lit]
theorem insert_mapL (x : DItem) (xs : List DItem) : DataW.insert (Lit.int .i64 x.id, vecD x.vec) (mapL xs) = mapL (insI x xs) := by
  induction xs with
  | nil => rfl
  | cons y r ih =>
    show (if (Lit.int .i64 x.id).before (.int .i64 y.id) then _ else _) = _
    rw [insI]
    by_cases h : x.id < y.id
    · rw [if_pos (by simpa [Lit.before] using h), if_pos h]; rfl
    · rw [if_neg (by simpa [Lit.before] using h), if_neg h]
      show _ :: DataW.insert _ (mapL r) = _
      rw [ih]; rfl
theorem put_mapD (xs : List DItem) (id : Int) (vec : List Int) : (mapD xs).put (.int .i64 id) (vecD vec) = mapD (putI xs id vec) := by
  show DataW.map (DataW.insert _ (delKey _ (mapL xs))) = _
  have h := del_mapD xs id
  have h2 : delKey (.int .i64 id) (mapL xs) = mapL (dropI xs id) := by
    have : DataW.map (delKey (.int .i64 id) (mapL xs)) = DataW.map (mapL (dropI xs id)) := h
    simpa using this
  rw [h2, insert_mapL ⟨id, vec⟩]
  rfl
theorem apart_mapL {xs : List DItem} (h : Rising xs) : (mapL xs).Pairwise (fun p q => p.1 ≠ q.1) := by
  refine List.pairwise_map.2 (h.imp fun {a b} hab e => ?_)
  simp only [Lit.int.injEq, true_and] at e
  omega
theorem at_mapD {xs : List DItem} (h : Rising xs) {x : DItem} (hx : x ∈ xs) (z : DataW Unit) : (mapD xs).atKey (.int .i64 x.id) z = vecD x.vec :=
  WideAt.atKey_mem z trivial (apart_mapL h) (List.mem_map.2 ⟨x, hx, rfl⟩)

/-! ### Rising lists -/
theorem hasI_true {xs : List DItem} {id : Int} (h : hasI xs id = true) : ∃ x ∈ xs, x.id = id := by
  simpa [hasI] using h
theorem hasI_false {xs : List DItem} {id : Int} (h : hasI xs id = false) : ∀ x ∈ xs, x.id ≠ id := by
  simpa [hasI] using h
theorem insI_last (x : DItem) (xs : List DItem) (h : ∀ y ∈ xs, y.id < x.id) : insI x xs = xs ++ [x] := by
  induction xs with
  | nil => rfl
  | cons y r ih =>
    have := h y (by simp)
    rw [insI, if_neg (by omega), ih fun z hz => h z (List.mem_cons_of_mem _ hz)]
    rfl
theorem dropI_none {xs : List DItem} {id : Int} (h : ∀ x ∈ xs, x.id ≠ id) : dropI xs id = xs :=
  List.filter_eq_self.2 fun x hx => by simpa using h x hx
theorem putI_last (xs : List DItem) (x : DItem) (h : ∀ y ∈ xs, y.id < x.id) : putI xs x.id x.vec = xs ++ [x] := by
  rw [putI, dropI_none (fun y hy => by have := h y hy; omega), insI_last _ _ h]
theorem rising_take {xs : List DItem} (h : Rising xs) {k : Nat} (hk : k < xs.length) : ∀ y ∈ xs.take k, y.id < xs[k].id := by
  intro y hy
  obtain ⟨j, hj, rfl⟩ := List.getElem_of_mem hy
  rw [List.length_take] at hj
  rw [List.getElem_take]
  exact List.pairwise_iff_getElem.1 h j k (by omega) hk (by omega)
theorem mem_insI {x y : DItem} {xs : List DItem} : y ∈ insI x xs ↔ y = x ∨ y ∈ xs := by
  induction xs with
  | nil => simp [insI]
  | cons z r ih =>
    rw [insI]
    by_cases h : x.id < z.id
    · rw [if_pos h]; simp
    · rw [if_neg h, List.mem_cons, ih, List.mem_cons]
      constructor
      · rintro (h | h | h) <;> simp [h]
      · rintro (h | h | h) <;> simp [h]
theorem insI_rising {x : DItem} {xs : List DItem} (h : Rising xs) (hn : ∀ y ∈ xs, y.id ≠ x.id) : Rising (insI x xs) := by
  induction xs with
  | nil => exact List.pairwise_singleton _ _
  | cons z r ih =>
    obtain ⟨h1, h2⟩ := List.pairwise_cons.1 h
    have hz := hn z (by simp)
    rw [insI]
    by_cases hlt : x.id < z.id
    · rw [if_pos hlt]
      refine List.pairwise_cons.2 ⟨fun y hy => ?_, h⟩
      rcases List.mem_cons.1 hy with rfl | hy
      · exact hlt
      · exact Int.lt_trans hlt (h1 y hy)
    · rw [if_neg hlt]
      refine List.pairwise_cons.2 ⟨fun y hy => ?_, ih h2 fun y hy => hn y (List.mem_cons_of_mem _ hy)⟩
      rcases mem_insI.1 hy with rfl | hy
      · omega
      · exact h1 y hy
theorem insI_len (x : DItem) (xs : List DItem) : (insI x xs).length = xs.length + 1 := by
  induction xs with
  | nil => rfl
  | cons z r ih =>
    rw [insI]
    by_cases h : x.id < z.id
    · rw [if_pos h]; rfl
    · rw [if_neg h, List.length_cons, ih]; rfl
theorem dropI_rising {xs : List DItem} (h : Rising xs) (id : Int) : Rising (dropI xs id) := h.filter _
theorem mem_dropI {xs : List DItem} {id : Int} {x : DItem} : x ∈ dropI xs id ↔ x ∈ xs ∧ x.id ≠ id := by simp [dropI]
theorem putI_rising {xs : List DItem} (h : Rising xs) (id : Int) (vec : List Int) : Rising (putI xs id vec) := insI_rising (dropI_rising h id) fun _ hy => (mem_dropI.1 hy).2
theorem mem_putI {xs : List DItem} {id : Int} {vec : List Int} {x : DItem} : x ∈ putI xs id vec ↔ x = ⟨id, vec⟩ ∨ (x ∈ xs ∧ x.id ≠ id) := by rw [putI, mem_insI, mem_dropI]
theorem dropI_len {xs : List DItem} (h : Rising xs) {id : Int} (hi : hasI xs id = true) : (dropI xs id).length + 1 = xs.length := by
  induction xs with
  | nil => simp [hasI] at hi
  | cons z r ih =>
    obtain ⟨h1, h2⟩ := List.pairwise_cons.1 h
    by_cases e : z.id = id
    · have : dropI (z :: r) id = r := by
        have hr := dropI_none (xs := r) (id := id) (fun x hx => by have := h1 x hx; omega)
        simp only [dropI, List.filter_cons, e, beq_self_eq_true, Bool.not_true, Bool.false_eq_true, if_false]
        exact hr
      rw [this]; rfl
    · have hi2 : hasI r id = true := by simpa [hasI, e] using hi
      have : dropI (z :: r) id = z :: dropI r id := by simp [dropI, e]
      rw [this, List.length_cons, List.length_cons, ih h2 hi2]
theorem dropI_le (xs : List DItem) (id : Int) : (dropI xs id).length ≤ xs.length := List.length_filter_le _ _
theorem putI_len {xs : List DItem} (h : Rising xs) (id : Int) (vec : List Int) : (putI xs id vec).length = if hasI xs id then xs.length else xs.length + 1 := by
  rw [putI, insI_len]
  by_cases hi : hasI xs id = true
  · rw [if_pos hi]; exact dropI_len h hi
  · rw [if_neg hi, dropI_none (hasI_false (by simpa using hi))]
/-- A right table. -/
def Right (xs : List DItem) : Prop := tableFault xs = 0
theorem right_put {xs : List DItem} (h : Right xs) {id : Int} {vec : List Int} (hi : idB id = true) (hv : vecFault vec = 0) (hroom : hasI xs id = true ∨ xs.length < 30) : Right (putI xs id vec) := by
  obtain ⟨hl, h1, h2⟩ := tableFault_zero h
  refine tableFault_of ?_ (fun x hx => ?_) (putI_rising h2 id vec)
  · rw [putI_len h2]; split
    · exact hl
    · rename_i hn; rcases hroom with h | h
      · exact absurd h hn
      · omega
  · rcases mem_putI.1 hx with rfl | ⟨hx, -⟩
    · exact ⟨hi, hv⟩
    · exact h1 x hx
theorem right_drop {xs : List DItem} (h : Right xs) (id : Int) : Right (dropI xs id) := by
  obtain ⟨hl, h1, h2⟩ := tableFault_zero h
  exact tableFault_of (Nat.le_trans (dropI_le xs id) hl) (fun x hx => h1 x (mem_dropI.1 hx).1) (dropI_rising h2 id)
theorem right_nil : Right [] := rfl

end Go.Proofs.YtkmfkaljdngigaaDoor

namespace Go.Proofs.YtkmfkaljdngigaaDoor
open Go.RowKit

def pickI : Option DItem → DIntsResult
  | some x => ⟨0, x.vec⟩
  | none => ⟨4, []⟩
def getI (xs : List DItem) (id : Int) : DIntsResult :=
  if tableFault xs = 0 then (if idB id then pickI (xs.find? (fun x => x.id == id)) else ⟨3, []⟩) else ⟨tableFault xs, []⟩
theorem tabFrom_vals (p : Option Int) (xs : List DItem) : 0 ≤ tabFrom p xs ∧ tabFrom p xs ≤ 3 := by
  induction xs generalizing p with
  | nil => exact ⟨Int.le_refl _, (show (0 : Int) ≤ 3 by decide)⟩
  | cons x xs ih =>
    rw [tabFrom]
    have hv : 0 ≤ vecFault x.vec ∧ vecFault x.vec ≤ 3 := by unfold vecFault; split <;> (try split) <;> decide
    split
    · split
      · split
        · exact ih _
        · decide
      · exact hv
    · decide
theorem tableFault_vals (xs : List DItem) : 0 ≤ tableFault xs ∧ tableFault xs ≤ 3 := by
  unfold tableFault
  split
  · decide
  · exact tabFrom_vals none xs
theorem code_wf (xs : List DItem) : (Lit.int .i64 (tableFault xs)).wf = true := wf_of_bd (by have := tableFault_vals xs; omega)
theorem own_ints {w : World} {c : Int} {v : Value} {zs : List Int} {lo hi : Nat} (hc : (Lit.int .i64 c).wf = true) (h : (Lay.sl Lay.int).OwnIn w [v] zs lo hi) : Lay.tIntsResult.OwnIn w [.int .i64 c, v] ⟨c, zs⟩ lo hi := by
  obtain ⟨bl, ⟨l, n, f⟩, i⟩ := h
  exact ⟨bl, ⟨⟨[.int .i64 c], [v], [], bl, rfl, by simp, ⟨rfl, hc, rfl⟩, l⟩, n, f⟩, i⟩
theorem own_noInts {w : World} {lo hi : Nat} : (Lay.sl Lay.int).OwnIn w [.slice none 0 0] [] lo hi := ⟨[], ⟨Lay.lies_ints.2 ⟨none, 0, rfl, by simp, by simp, Or.inl ⟨rfl, rfl⟩⟩, by simp, by simp⟩, by simp⟩
theorem own_codeInts {w : World} {c : Int} {lo hi : Nat} (hc : (Lit.int .i64 c).wf = true) : Lay.tIntsResult.OwnIn w [.int .i64 c, .slice none 0 0] ⟨c, []⟩ lo hi := own_ints hc own_noInts
theorem find_at {xs : List DItem} {id : Int} {x : DItem} (h : xs.find? (fun x => x.id == id) = some x) : x ∈ xs ∧ x.id = id := ⟨List.mem_of_find?_eq_some h, by simpa using List.find?_some h⟩
theorem find_none {xs : List DItem} {id : Int} (h : xs.find? (fun x => x.id == id) = none) : hasI xs id = false := by
  rw [List.find?_eq_none] at h
  simpa [hasI] using h

end Go.Proofs.YtkmfkaljdngigaaDoor

namespace Go.Proofs.YtkmfkaljdngigaaDoor
open Go.RowKit

def roomB (xs : List DItem) (id : Int) : Bool := hasI xs id || decide (xs.length < 30)
def putR (xs : List DItem) (id : Int) (vec : List Int) : DTableResult :=
  if tableFault xs = 0 then (if idB id then (if vecFault vec = 0 then (if roomB xs id then ⟨0, putI xs id vec⟩ else ⟨2, []⟩) else ⟨vecFault vec, []⟩) else ⟨3, []⟩) else ⟨tableFault xs, []⟩
def dropR (xs : List DItem) (id : Int) : DTableResult :=
  if tableFault xs = 0 then (if idB id then ⟨0, dropI xs id⟩ else ⟨3, []⟩) else ⟨tableFault xs, []⟩
theorem vecFault_vals (zs : List Int) : 0 ≤ vecFault zs ∧ vecFault zs ≤ 3 := by unfold vecFault; split <;> (try split) <;> decide
theorem vcode_wf (zs : List Int) : (Lit.int .i64 (vecFault zs)).wf = true := wf_of_bd (by have := vecFault_vals zs; omega)
theorem own_items {w : World} {c : Int} {v : Value} {xs : List DItem} {lo hi : Nat} (hc : (Lit.int .i64 c).wf = true) (h : (Lay.sl Lay.tItem).OwnIn w [v] xs lo hi) : Lay.tTableResult.OwnIn w [.int .i64 c, v] ⟨c, xs⟩ lo hi := by
  obtain ⟨bl, ⟨l, n, f⟩, i⟩ := h
  exact ⟨bl, ⟨⟨[.int .i64 c], [v], [], bl, rfl, by simp, ⟨rfl, hc, rfl⟩, l⟩, n, f⟩, i⟩
theorem reads_items {w : World} {c : Int} {v : Value} {xs : List DItem} (hc : (Lit.int .i64 c).wf = true) (h : (Lay.sl Lay.tItem).Reads w [v] xs) : Lay.tTableResult.Reads w [.int .i64 c, v] ⟨c, xs⟩ := by
  obtain ⟨bl, l⟩ := h
  exact ⟨bl, ⟨[.int .i64 c], [v], [], bl, rfl, by simp, ⟨rfl, hc, rfl⟩, l⟩⟩
theorem own_noItems {w : World} {lo hi : Nat} : (Lay.sl Lay.tItem).OwnIn w [.slice none 0 0] [] lo hi := ⟨[], ⟨⟨none, 0, rfl, by simp, Or.inl ⟨rfl, rfl⟩⟩, by simp, by simp⟩, by simp⟩
theorem own_codeItems {w : World} {c : Int} {lo hi : Nat} (hc : (Lit.int .i64 c).wf = true) : Lay.tTableResult.OwnIn w [.int .i64 c, .slice none 0 0] ⟨c, []⟩ lo hi := own_items hc own_noItems
theorem room_true {xs : List DItem} {id : Int} (h : roomB xs id = true) : hasI xs id = true ∨ xs.length < 30 := by simpa [roomB] using h
theorem room_false {xs : List DItem} {id : Int} (h : roomB xs id = false) : hasI xs id = false ∧ 30 ≤ xs.length := by simpa [roomB] using h
theorem right_of {xs : List DItem} (h : tableFault xs = 0) : Right xs := h
/-- Of a right table: how many marks. -/
theorem right_few {xs : List DItem} (h : Right xs) : cntAll Lay.tItem.cnt xs ≤ 1000 := by
  obtain ⟨hl, ha, -⟩ := tableFault_zero h
  have : ∀ ys : List DItem, (∀ x ∈ ys, x.vec.length = 3) → cntAll Lay.tItem.cnt ys ≤ 4 * ys.length := by
    intro ys
    induction ys with
    | nil => intro _; exact Nat.le_refl _
    | cons y ys ih =>
      intro hy
      have h1 := ih fun x hx => hy x (List.mem_cons_of_mem _ hx)
      have h2 : Lay.tItem.cnt y = 4 := by
        show 1 + (Lay.sl Lay.int).cnt y.vec = 4
        have e := hy y (by simp)
        have : cntAll (fun _ => 1) y.vec = y.vec.length := by
          generalize y.vec = zs
          induction zs with
          | nil => rfl
          | cons z zs ih => simp [cntAll, ih]; omega
        show 1 + cntAll (fun _ => 1) y.vec = 4
        omega
      simp only [cntAll, List.length_cons]
      omega
  have := this xs fun x hx => (vecFault_zero (ha x hx).2).1
  omega

end Go.Proofs.YtkmfkaljdngigaaDoor

namespace Go.Proofs.YtkmfkaljdngigaaDoor
open Go.RowKit

/-- Ahead of item x: the new one, if its turn has come. -/
def setNew (nw : DItem) (st : List DItem × Bool) (x : DItem) : List DItem × Bool := if st.2 = false ∧ nw.id ≤ x.id then (st.1 ++ [nw], true) else st
def setOld (nw : DItem) (st : List DItem × Bool) (x : DItem) : List DItem × Bool := if x.id = nw.id then st else (st.1 ++ [x], st.2)
def setStep (nw : DItem) (st : List DItem × Bool) (x : DItem) : List DItem × Bool := setOld nw (setNew nw st x) x
def setFin (nw : DItem) (st : List DItem × Bool) : List DItem := if st.2 then st.1 else st.1 ++ [nw]
def setM (xs : List DItem) (nw : DItem) (has : Bool) : List DItem := setFin nw (xs.foldl (setStep nw) ([], !has))

theorem step_done (nw : DItem) (acc : List DItem) (xs : List DItem) : xs.foldl (setStep nw) (acc, true) = (acc ++ dropI xs nw.id, true) := by
  induction xs generalizing acc with
  | nil => simp [dropI]
  | cons y r ih =>
    rw [List.foldl_cons]
    have e1 : setNew nw (acc, true) y = (acc, true) := by simp [setNew]
    by_cases h : y.id = nw.id
    · have : setStep nw (acc, true) y = (acc, true) := by rw [setStep, e1, setOld, if_pos h]
      rw [this, ih]
      simp [dropI, h]
    · have : setStep nw (acc, true) y = (acc ++ [y], true) := by rw [setStep, e1, setOld, if_neg h]
      rw [this, ih]
      simp [dropI, h]
theorem insI_first (nw : DItem) (xs : List DItem) (h : ∀ y ∈ xs, nw.id < y.id) : insI nw xs = nw :: xs := by
  cases xs with
  | nil => rfl
  | cons y r => rw [insI, if_pos (h y (by simp))]
theorem step_put (nw : DItem) (acc : List DItem) (xs : List DItem) (hr : Rising xs) : setFin nw (xs.foldl (setStep nw) (acc, false)) = acc ++ putI xs nw.id nw.vec := by
  induction xs generalizing acc with
  | nil => simp [setFin, putI, dropI, insI]
  | cons y r ih =>
    obtain ⟨h1, h2⟩ := List.pairwise_cons.1 hr
    rw [List.foldl_cons]
    by_cases hle : nw.id ≤ y.id
    · have e1 : setNew nw (acc, false) y = (acc ++ [nw], true) := by simp [setNew, hle]
      by_cases h : y.id = nw.id
      · have : setStep nw (acc, false) y = (acc ++ [nw], true) := by rw [setStep, e1, setOld, if_pos h]
        rw [this, step_done, setFin]
        have e2 : dropI (y :: r) nw.id = dropI r nw.id := by simp [dropI, h]
        rw [putI, e2, insI_first _ _ (fun z hz => by have := h1 z (mem_dropI.1 hz).1; show nw.id < z.id; omega)]
        simp
      · have : setStep nw (acc, false) y = (acc ++ [nw] ++ [y], true) := by rw [setStep, e1, setOld, if_neg h]
        rw [this, step_done, setFin]
        have e2 : dropI (y :: r) nw.id = y :: dropI r nw.id := by simp [dropI, h]
        rw [putI, e2, insI, if_pos (show nw.id < y.id by omega)]
        simp
    · have e1 : setNew nw (acc, false) y = (acc, false) := by simp [setNew, hle]
      have h : y.id ≠ nw.id := by omega
      have : setStep nw (acc, false) y = (acc ++ [y], false) := by rw [setStep, e1, setOld, if_neg h]
      rw [this, ih _ h2]
      have e2 : dropI (y :: r) nw.id = y :: dropI r nw.id := by simp [dropI, h]
      rw [putI, putI, e2, insI, if_neg (show ¬ nw.id < y.id by omega)]
      simp
theorem setM_put {xs : List DItem} (hr : Rising xs) (nw : DItem) : setM xs nw true = putI xs nw.id nw.vec := by
  have := step_put nw [] xs hr
  simpa [setM] using this
theorem setM_drop (xs : List DItem) (nw : DItem) : setM xs nw false = dropI xs nw.id := by
  have := step_done nw [] xs
  simp only [setM, Bool.not_false]
  rw [this]
  simp [setFin]
theorem setM_len (nw : DItem) (st : List DItem × Bool) (x : DItem) : (setStep nw st x).1.length ≤ st.1.length + 2 := by
  unfold setStep setOld setNew
  split <;> split <;> simp <;> omega

theorem setM_size (xs : List DItem) (nw : DItem) (has : Bool) : (setM xs nw has).length ≤ 2 * xs.length + 1 := by
  have : ∀ (ys : List DItem) (st : List DItem × Bool), (ys.foldl (setStep nw) st).1.length ≤ st.1.length + 2 * ys.length := by
    intro ys
    induction ys with
    | nil => intro st; simp
    | cons y ys ih =>
      intro st
      have h1 := ih (setStep nw st y)
      have h2 := setM_len nw st y
      simp only [List.foldl_cons, List.length_cons]
      omega
  have h := this xs ([], !has)
  unfold setM setFin
  split
  · simp at h; omega
  · simp at h ⊢; omega

end Go.Proofs.YtkmfkaljdngigaaDoor

namespace Go.Proofs.YtkmfkaljdngigaaDoor
open Go.RowKit

structure DMsg where
  kind : Int
  epoch : Int
  src : Int
  dst : Int
  index : Int
  write : DWrite

def Lay.tMsg : Lay DMsg := Lay.via (Lay.pair Lay.int (Lay.pair Lay.int (Lay.pair Lay.int (Lay.pair Lay.int (Lay.pair Lay.int Lay.tWrite))))) (fun x => (x.kind, x.epoch, x.src, x.dst, x.index, x.write)) (fun p => ⟨p.1, p.2.1, p.2.2.1, p.2.2.2.1, p.2.2.2.2.1, p.2.2.2.2.2⟩)

theorem lies_Msg {w : World} {cs : List Value} {x : DMsg} {bl : List Nat} : Lay.tMsg.lies w cs x bl ↔ ∃ (a7 : Option Addr) (d7 : Nat) (b7 : List Nat), cs = [.int .i64 x.kind, .int .i64 x.epoch, .int .i64 x.src, .int .i64 x.dst, .int .i64 x.index, .int .i64 x.write.kind, .int .i64 x.write.id, .slice a7 x.write.vec.length d7, .int .i64 x.write.session, .int .i64 x.write.seq] ∧ bl = b7 ∧ (Lit.int .i64 x.kind).wf = true ∧ (Lit.int .i64 x.epoch).wf = true ∧ (Lit.int .i64 x.src).wf = true ∧ (Lit.int .i64 x.dst).wf = true ∧ (Lit.int .i64 x.index).wf = true ∧ (Lit.int .i64 x.write.kind).wf = true ∧ (Lit.int .i64 x.write.id).wf = true ∧ (Lay.sl Lay.int).lies w [.slice a7 x.write.vec.length d7] x.write.vec b7 ∧ (Lit.int .i64 x.write.session).wf = true ∧ (Lit.int .i64 x.write.seq).wf = true := by
  constructor
  · intro h
    obtain ⟨c0_, r0_, e0_, s0_, rfl, rfl, h0, ⟨c1_, r1_, e1_, s1_, rfl, rfl, h1, ⟨c2_, r2_, e2_, s2_, rfl, rfl, h2, ⟨c3_, r3_, e3_, s3_, rfl, rfl, h3, ⟨c4_, r4_, e4_, s4_, rfl, rfl, h4, h5⟩⟩⟩⟩⟩ := h
    obtain ⟨rfl, w0, rfl⟩ := h0
    obtain ⟨rfl, w1, rfl⟩ := h1
    obtain ⟨rfl, w2, rfl⟩ := h2
    obtain ⟨rfl, w3, rfl⟩ := h3
    obtain ⟨rfl, w4, rfl⟩ := h4
    obtain ⟨a7, d7, q7, rfl, hq5, w5, w6, l7, w8, w9⟩ := lies_Write.1 h5
    exact ⟨a7, d7, q7, by simp, by simp [hq5], w0, w1, w2, w3, w4, w5, w6, l7, w8, w9⟩
  · rintro ⟨a7, d7, b7, rfl, hbl, w0, w1, w2, w3, w4, w5, w6, l7, w8, w9⟩
    rw [hbl]
    exact ⟨[.int .i64 x.kind], [.int .i64 x.epoch] ++ ([.int .i64 x.src] ++ ([.int .i64 x.dst] ++ ([.int .i64 x.index] ++ [.int .i64 x.write.kind, .int .i64 x.write.id, .slice a7 x.write.vec.length d7, .int .i64 x.write.session, .int .i64 x.write.seq]))), [], [] ++ ([] ++ ([] ++ ([] ++ (b7)))), rfl, by simp, ⟨rfl, w0, rfl⟩, ⟨[.int .i64 x.epoch], [.int .i64 x.src] ++ ([.int .i64 x.dst] ++ ([.int .i64 x.index] ++ [.int .i64 x.write.kind, .int .i64 x.write.id, .slice a7 x.write.vec.length d7, .int .i64 x.write.session, .int .i64 x.write.seq])), [], [] ++ ([] ++ ([] ++ (b7))), rfl, by simp, ⟨rfl, w1, rfl⟩, ⟨[.int .i64 x.src], [.int .i64 x.dst] ++ ([.int .i64 x.index] ++ [.int .i64 x.write.kind, .int .i64 x.write.id, .slice a7 x.write.vec.length d7, .int .i64 x.write.session, .int .i64 x.write.seq]), [], [] ++ ([] ++ (b7)), rfl, by simp, ⟨rfl, w2, rfl⟩, ⟨[.int .i64 x.dst], [.int .i64 x.index] ++ [.int .i64 x.write.kind, .int .i64 x.write.id, .slice a7 x.write.vec.length d7, .int .i64 x.write.session, .int .i64 x.write.seq], [], [] ++ (b7), rfl, by simp, ⟨rfl, w3, rfl⟩, ⟨[.int .i64 x.index], [.int .i64 x.write.kind, .int .i64 x.write.id, .slice a7 x.write.vec.length d7, .int .i64 x.write.session, .int .i64 x.write.seq], [], b7, rfl, by simp, ⟨rfl, w4, rfl⟩, lies_Write.2 ⟨a7, d7, b7, rfl, rfl, w5, w6, l7, w8, w9⟩⟩⟩⟩⟩⟩

theorem open_Msg {w : World} {cs : List Value} {x : DMsg} (h : Lay.tMsg.Reads w cs x) : ∃ (a7 : Option Addr) (d7 : Nat), cs = [.int .i64 x.kind, .int .i64 x.epoch, .int .i64 x.src, .int .i64 x.dst, .int .i64 x.index, .int .i64 x.write.kind, .int .i64 x.write.id, .slice a7 x.write.vec.length d7, .int .i64 x.write.session, .int .i64 x.write.seq] ∧ Lay.tWrite.Reads w [.int .i64 x.write.kind, .int .i64 x.write.id, .slice a7 x.write.vec.length d7, .int .i64 x.write.session, .int .i64 x.write.seq] x.write := by
  obtain ⟨bl, h⟩ := h
  obtain ⟨a7, d7, b7, rfl, -, w0, w1, w2, w3, w4, w5, w6, l7, w8, w9⟩ := lies_Msg.1 h
  exact ⟨a7, d7, rfl, ⟨_, lies_Write.2 ⟨a7, d7, _, rfl, rfl, w5, w6, l7, w8, w9⟩⟩⟩

end Go.Proofs.YtkmfkaljdngigaaDoor

namespace Go.Proofs.YtkmfkaljdngigaaDoor

theorem info2 : (Tryd.prog.info? 2).map (fun i => (i.zero, i.size, i.bytes)) = some (some (.int .i64 0), 1, 8) := by kernel_rfl

end Go.Proofs.YtkmfkaljdngigaaDoor

namespace Go.Proofs.YtkmfkaljdngigaaDoor
open Go.RowKit

set_option maxHeartbeats 400000 in
theorem toInts_pos (b off cap : Nat) (zs : List Int) (w : World) (hn : zs.length ≤ 1048576) (hc : ∀ j, j < zs.length → w.cell? ⟨b, off + j, none⟩ = some (.int .i64 (zs.getD j 0))) :
    Calls Tryd.prog 25 #[.slice (some ⟨b, off, none⟩) zs.length cap] w fun e w' => e = .returned (.slice (some ⟨w.heap.size, 0, none⟩) zs.length zs.length) ∧
      w'.ownsRow w.heap.size 2 1 (.slice (some ⟨w.heap.size, 0, none⟩) zs.length zs.length) zs.length (zs.map (Value.int .i64)) ∧ Below w.heap.size w w' := by
  obtain ⟨i0, hi, hz0, hz1, hz2⟩ := info_parts info2
  go_enter Tryd.func25, Tryd.ntmps25
  go_wp2_with (at_make; refine wpList_make_full _ rfl _ _ 22 rfl w.heap.size 2 i0 (.int .i64 0) 1 Tryd.underlying22 hi hz0 hz1 _ _ _ _ zs.length rfl rfl rfl rfl ?c1 ?c2 ?c3 ?_)
  case c1 => rw [hz2]; omega
  case c2 => unfold maxLen; omega
  case c3 => exact Nat.le_refl _
  intro w1 hown1 hgrow1
  have hB1 : Below w.heap.size w w1 := (Below.refl _ _).grown hgrow1 (Nat.le_refl _) (by simp)
  rw [toList_madeCells_one] at hown1
  clear hgrow1 hi hz0 hz1 hz2
  go_wp2
  go_loopw [4] (fun i wr => ∃ k : Nat, k ≤ zs.length ∧ i = .int .i64 k ∧ wr.ownsRow w.heap.size 2 1 (.slice (some ⟨w.heap.size, 0, none⟩) zs.length zs.length) zs.length ((zs.take k).map (Value.int .i64) ++ List.replicate (zs.length - k) (Value.int .i64 0)) ∧ Below w.heap.size w wr)
    (fun i _ => zs.length - (intOf i).toNat)
  case atStart => exact ⟨0, Nat.zero_le _, rfl, by simpa using hown1, hB1⟩
  case round =>
    obtain ⟨k, hk, rfl, hown, hB⟩ := hrel
    clear hown1 hB1
    by_cases hlt : k < zs.length
    · have hcx : wr.cell? ⟨b, off + k, none⟩ = some (.int .i64 (zs.getD k 0)) := (hB.cell (World.block_lt_of_cell? _ _ (hc k hlt))).trans (hc k hlt)
      have hcd : ∃ u, wr.cell? ⟨w.heap.size, k, none⟩ = some u := by
        rw [hown.cellAt k (by omega)]
        exact ⟨_, List.getElem?_eq_getElem (by simp; omega)⟩
      obtain ⟨u, hcd⟩ := hcd
      have hfz := hown.frozenAt k
      have hst := hown.stored k (.int .i64 (zs.getD k 0))
      rw [set_fill zs k hlt] at hst
      have R := hst.1
      have hB2 : Below w.heap.size w (wr.setCell ⟨w.heap.size, k, none⟩ (.int .i64 (zs.getD k 0))) := hB.setCell (by simp) _
      clear hst hown hB
      go_wp2
      go_roundw
      case rel => exact ⟨k + 1, by omega, by go_num, by simpa [hlt] using R, by simpa [hlt] using hB2⟩
      case measure => simp [intOf]; omega
    · have hk2 : k = zs.length := by omega
      go_wp2
      go_ret
      subst hk2
      exact ⟨rfl, by simpa using hown, hB⟩

set_option maxHeartbeats 400000 in
theorem toInts_zero (ao : Option Addr) (cap : Nat) (w : World) :
    Calls Tryd.prog 25 #[.slice ao 0 cap] w fun e w' => e = .returned (.slice (some ⟨w.heap.size, 0, none⟩) 0 0) ∧
      w'.ownsRow w.heap.size 2 1 (.slice (some ⟨w.heap.size, 0, none⟩) 0 0) 0 [] ∧ Below w.heap.size w w' := by
  obtain ⟨i0, hi, hz0, hz1, hz2⟩ := info_parts info2
  go_enter Tryd.func25, Tryd.ntmps25
  go_wp2_with (at_make; refine wpList_make_full _ rfl _ _ 22 rfl w.heap.size 2 i0 (.int .i64 0) 1 Tryd.underlying22 hi hz0 hz1 _ _ _ _ 0 rfl rfl rfl rfl ?c1 ?c2 ?c3 ?_)
  case c1 => rw [hz2]; omega
  case c2 => unfold maxLen; omega
  case c3 => exact Nat.le_refl _
  intro w1 hown1 hgrow1
  have hB1 : Below w.heap.size w w1 := (Below.refl _ _).grown hgrow1 (Nat.le_refl _) (by simp)
  clear hgrow1 hi hz0 hz1 hz2
  rw [toList_madeCells_one] at hown1
  go_wp2
  refine wp_loop_rounds 1 ?_
  rw [rounds_succ]
  go_wp2
  go_ret
  exact ⟨rfl, by simpa using hown1, hB1⟩

/-- toInt64S: a new slice of the same numbers. -/
theorem toInts (v : Value) (zs : List Int) (w : World) (h : IsInts w v zs) (hn : zs.length ≤ 1048576) :
    Calls Tryd.prog 25 #[v] w fun e w' => ∃ v', e = .returned v' ∧ v' = .slice (some ⟨w.heap.size, 0, none⟩) zs.length zs.length ∧
      w'.ownsRow w.heap.size 2 1 v' zs.length (zs.map (Value.int .i64)) ∧ IsInts w' v' zs ∧ Below w.heap.size w w' := by
  obtain ⟨ao, cap, rfl, hwf, hc⟩ := h
  by_cases hp : 0 < zs.length
  · obtain ⟨b, off, rfl, hc1⟩ := hc hp
    refine (toInts_pos b off cap zs w hn hc1).mono ?_
    rintro e w' ⟨rfl, ho, hb⟩
    exact ⟨_, rfl, rfl, ho, isInts_owned hwf ho, hb⟩
  · have hz : zs = [] := List.eq_nil_of_length_eq_zero (by omega)
    subst hz
    refine (toInts_zero ao cap w).mono ?_
    rintro e w' ⟨rfl, ho, hb⟩
    exact ⟨_, rfl, rfl, ho, isInts_owned hwf ho, hb⟩

set_option maxHeartbeats 400000 in
theorem eqInts_pos (b off cap b2 off2 cap2 : Nat) (zs : List Int) (w : World) (hn : zs.length ≤ 9223372036854775807) (hc : ∀ j, j < zs.length → w.cell? ⟨b, off + j, none⟩ = some (.int .i64 (zs.getD j 0)))
    (hc2 : ∀ j, j < zs.length → w.cell? ⟨b2, off2 + j, none⟩ = some (.int .i64 (zs.getD j 0))) :
    Calls Tryd.prog 35 #[.slice (some ⟨b, off, none⟩) zs.length cap, .slice (some ⟨b2, off2, none⟩) zs.length cap2] w fun e w' => e = .returned (.bool true) ∧ Below w.heap.size w w' := by
  go_enter Tryd.func35, Tryd.ntmps35
  go_wp2
  go_loopw [5] (fun i wr => ∃ k : Nat, k ≤ zs.length ∧ i = .int .i64 k ∧ Below w.heap.size w wr) (fun i _ => zs.length - (intOf i).toNat)
  case atStart => exact ⟨0, Nat.zero_le _, rfl, Below.refl _ _⟩
  case round =>
    obtain ⟨k, hk, rfl, hB⟩ := hrel
    by_cases hlt : k < zs.length
    · have hcx : wr.cell? ⟨b, off + k, none⟩ = some (.int .i64 (zs.getD k 0)) := (hB.cell (World.block_lt_of_cell? _ _ (hc k hlt))).trans (hc k hlt)
      have hcy : wr.cell? ⟨b2, off2 + k, none⟩ = some (.int .i64 (zs.getD k 0)) := (hB.cell (World.block_lt_of_cell? _ _ (hc2 k hlt))).trans (hc2 k hlt)
      clear hc hc2
      go_wp2
      go_quiet (fail)
      go_wp2
      go_roundw
      case rel => exact ⟨k + 1, by omega, by go_num, below_drewN hB _⟩
      case measure => simp [intOf]; omega
    · go_wp2
      go_ret
      exact ⟨rfl, hB⟩

set_option maxHeartbeats 400000 in
theorem eqInts_zero (ao ao2 : Option Addr) (cap cap2 : Nat) (w : World) :
    Calls Tryd.prog 35 #[.slice ao 0 cap, .slice ao2 0 cap2] w fun e w' => e = .returned (.bool true) ∧ Below w.heap.size w w' := by
  go_enter Tryd.func35, Tryd.ntmps35
  go_wp2
  refine wp_loop_rounds 1 ?_
  rw [rounds_succ]
  go_wp2
  go_ret
  exact ⟨rfl, Below.refl _ _⟩

/-- eqInt64S: two slices of the same numbers are the same. -/
theorem eqIntsBig (v v2 : Value) (zs : List Int) (w : World) (h : IsInts w v zs) (h2 : IsInts w v2 zs) (hn : zs.length ≤ 9223372036854775807) :
    Calls Tryd.prog 35 #[v, v2] w fun e w' => e = .returned (.bool true) ∧ Below w.heap.size w w' := by
  obtain ⟨ao, cap, rfl, hwf, hc⟩ := h
  obtain ⟨ao2, cap2, rfl, _, hc2⟩ := h2
  by_cases hp : 0 < zs.length
  · obtain ⟨b, off, rfl, hc1⟩ := hc hp
    obtain ⟨b2, off2, rfl, hc3⟩ := hc2 hp
    exact eqInts_pos b off cap b2 off2 cap2 zs w hn hc1 hc3
  · have hz : zs = [] := List.eq_nil_of_length_eq_zero (by omega)
    subst hz
    exact eqInts_zero ao ao2 cap cap2 w
theorem eqInts (v v2 : Value) (zs : List Int) (w : World) (h : IsInts w v zs) (h2 : IsInts w v2 zs) (hn : zs.length ≤ 1048576) :
    Calls Tryd.prog 35 #[v, v2] w fun e w' => e = .returned (.bool true) ∧ Below w.heap.size w w' := eqIntsBig v v2 zs w h h2 (by omega)

end Go.Proofs.YtkmfkaljdngigaaDoor

namespace Go.Proofs.YtkmfkaljdngigaaDoor
open Go.RowKit

theorem sz_ints (zs : List Int) : (Lay.sl Lay.int).sz zs = zs.length := by
  show zs.length + cntAll (fun _ => 0) zs = zs.length
  have : cntAll (fun _ : Int => 0) zs = 0 := by induction zs with
    | nil => rfl
    | cons z zs ih => simpa [cntAll] using ih
  omega

theorem to_Int64S (v : Value) (zs : List Int) (w : World) (h : (Lay.sl Lay.int).Reads w [v] zs) (hn : (Lay.sl Lay.int).sz zs ≤ 1048576) :
    Calls Tryd.prog 25 #[v] w fun e w' => ∃ v', e = .returned v' ∧ (Lay.sl Lay.int).OwnIn w' [v'] zs w.heap.size w'.heap.size ∧ Below w.heap.size w w' := by
  rw [sz_ints] at hn
  have hi := Lay.ints_reads h
  refine (toInts v zs w hi hn).mono ?_
  rintro e w' ⟨v', rfl, -, ho, -, hb⟩
  exact ⟨v', rfl, Lay.ownInts hi.wf (by omega) ho, hb⟩

theorem eq_Int64S (v v2 : Value) (zs : List Int) (w : World) (h : (Lay.sl Lay.int).Reads w [v] zs) (h2 : (Lay.sl Lay.int).Reads w [v2] zs) :
    Calls Tryd.prog 35 #[v, v2] w fun e w' => e = .returned (.bool true) ∧ Below w.heap.size w w' :=
  eqIntsBig v v2 zs w (Lay.ints_reads h) (Lay.ints_reads h2) h.big

end Go.Proofs.YtkmfkaljdngigaaDoor

namespace Go.Proofs.YtkmfkaljdngigaaDoor
open Go.RowKit

set_option maxHeartbeats 400000 in
theorem sz_Int64S (v : Value) (zs : List Int) (l : Nat) (w : World) (h : (Lay.sl Lay.int).Reads w [v] zs) (hl : l ≤ 1048576) :
    Calls Tryd.prog 20 #[v, .int .i64 l] w fun e w' => e = .returned (.int .i64 (szR l ((Lay.sl Lay.int).sz zs))) ∧ Below w.heap.size w w' := by
  have hb := h.big
  obtain ⟨ao, cap, rfl⟩ := open_sl h
  rw [sz_ints]
  generalize zs.length = n at *
  clear h
  by_cases hn : n ≤ l
  · rw [szR_ok hn]
    have e1 : (l : Int) - (n : Int) = ((l - n : Nat) : Int) := by omega
    have e2 : decide (((l - n : Nat) : Int) < 0) = false := by simp
    go_enter Tryd.func20, Tryd.ntmps20
    go_wp2_with fail
    go_ret
    exact ⟨rfl, Below.refl _ _⟩
  · rw [szR_many (by omega)]
    have e2 : decide ((l : Int) - (n : Int) < 0) = true := by simp; omega
    go_enter Tryd.func20, Tryd.ntmps20
    go_wp2_with fail
    go_ret
    exact ⟨rfl, Below.refl _ _⟩

end Go.Proofs.YtkmfkaljdngigaaDoor

namespace Go.Proofs.YtkmfkaljdngigaaDoor
open Go.RowKit

theorem szsum_Write (x : DWrite) : Lay.tWrite.sz x = (Lay.sl Lay.int).sz x.vec := by
  show 0 + (0 + ((Lay.sl Lay.int).sz x.vec + (0 + (0)))) = (Lay.sl Lay.int).sz x.vec
  omega
set_option maxRecDepth 10000 in
set_option maxHeartbeats 1000000 in
theorem sz_Write (cs : List Value) (x : DWrite) (l : Nat) (w : World) (h : Lay.tWrite.Reads w cs x) (hl : l ≤ 1048576) :
    Calls Tryd.prog 10 #[.agg cs.toArray, .int .i64 l] w fun e w' => e = .returned (.int .i64 (szR l (Lay.tWrite.sz x))) ∧ Below w.heap.size w w' := by
  obtain ⟨a2, d2, rfl, R2⟩ := open_Write h
  clear h
  have HB0 : Below w.heap.size w (w.alloc (.cells #[.int .i64 x.kind, .int .i64 x.id, .slice a2 x.vec.length d2, .int .i64 x.session, .int .i64 x.seq] 24)) := (Below.refl _ _).alloc (Nat.le_refl _) _
  have bA : Box w.heap.size #[.int .i64 x.kind, .int .i64 x.id, .slice a2 x.vec.length d2, .int .i64 x.session, .int .i64 x.seq] 24 (w.alloc (.cells #[.int .i64 x.kind, .int .i64 x.id, .slice a2 x.vec.length d2, .int .i64 x.session, .int .i64 x.seq] 24)) w.heap.size := newBox (Nat.le_refl _)
  have HV := hide (szsum_Write x)
  go_enter Tryd.func10, Tryd.ntmps10
  go_wp2_with fail
  generalize w.alloc (.cells #[.int .i64 x.kind, .int .i64 x.id, .slice a2 x.vec.length d2, .int .i64 x.session, .int .i64 x.seq] 24) = W0 at *
  replace R2 := R2.later HB0
  refine (sz_Int64S _ x.vec (l) _ R2 (by omega)).mono ?_
  rintro e w1 ⟨rfl, hb⟩
  replace HB0 := HB0.trans (hb.mono HB0.size)
  replace bA := bA.keep hb
  clear hb R2
  by_cases hs0 : (Lay.sl Lay.int).sz x.vec ≤ l
  · rw [szR_ok hs0]
    have hq : decide (((l - (Lay.sl Lay.int).sz x.vec : Nat) : Int) < 0) = false := by simp
    have HX := hide HB0
    have HA := hide bA
    clear HB0 bA
    go_wp2_with fail
    clear hq
    go_ret
    refine ⟨?_, unhide HX⟩
    rw [unhide HV, szR_ok (by omega), show l - ((Lay.sl Lay.int).sz x.vec) = l - (Lay.sl Lay.int).sz x.vec by omega]
    rfl
  · rw [szR_many (by omega)]
    have HX := hide HB0
    clear HB0 bA
    go_wp2_with fail
    go_ret
    refine ⟨?_, unhide HX⟩
    rw [unhide HV, szR_many (by omega)]
    rfl

end Go.Proofs.YtkmfkaljdngigaaDoor

namespace Go.Proofs.YtkmfkaljdngigaaDoor
open Go.RowKit

theorem szsum_Msg (x : DMsg) : Lay.tMsg.sz x = Lay.tWrite.sz x.write := by
  show 0 + (0 + (0 + (0 + (0 + (Lay.tWrite.sz x.write))))) = Lay.tWrite.sz x.write
  omega
set_option maxRecDepth 10000 in
set_option maxHeartbeats 1000000 in
theorem sz_Msg (cs : List Value) (x : DMsg) (l : Nat) (w : World) (h : Lay.tMsg.Reads w cs x) (hl : l ≤ 1048576) :
    Calls Tryd.prog 4 #[.agg cs.toArray, .int .i64 l] w fun e w' => e = .returned (.int .i64 (szR l (Lay.tMsg.sz x))) ∧ Below w.heap.size w w' := by
  obtain ⟨a7, d7, rfl, R5⟩ := open_Msg h
  clear h
  have HB0 : Below w.heap.size w (w.alloc (.cells #[.int .i64 x.kind, .int .i64 x.epoch, .int .i64 x.src, .int .i64 x.dst, .int .i64 x.index, .int .i64 x.write.kind, .int .i64 x.write.id, .slice a7 x.write.vec.length d7, .int .i64 x.write.session, .int .i64 x.write.seq] 26)) := (Below.refl _ _).alloc (Nat.le_refl _) _
  have bA : Box w.heap.size #[.int .i64 x.kind, .int .i64 x.epoch, .int .i64 x.src, .int .i64 x.dst, .int .i64 x.index, .int .i64 x.write.kind, .int .i64 x.write.id, .slice a7 x.write.vec.length d7, .int .i64 x.write.session, .int .i64 x.write.seq] 26 (w.alloc (.cells #[.int .i64 x.kind, .int .i64 x.epoch, .int .i64 x.src, .int .i64 x.dst, .int .i64 x.index, .int .i64 x.write.kind, .int .i64 x.write.id, .slice a7 x.write.vec.length d7, .int .i64 x.write.session, .int .i64 x.write.seq] 26)) w.heap.size := newBox (Nat.le_refl _)
  have HV := hide (szsum_Msg x)
  go_enter Tryd.func4, Tryd.ntmps4
  go_wp2_with fail
  generalize w.alloc (.cells #[.int .i64 x.kind, .int .i64 x.epoch, .int .i64 x.src, .int .i64 x.dst, .int .i64 x.index, .int .i64 x.write.kind, .int .i64 x.write.id, .slice a7 x.write.vec.length d7, .int .i64 x.write.session, .int .i64 x.write.seq] 26) = W0 at *
  replace R5 := R5.later HB0
  refine (sz_Write _ x.write (l) _ R5 (by omega)).mono ?_
  rintro e w1 ⟨rfl, hb⟩
  replace HB0 := HB0.trans (hb.mono HB0.size)
  replace bA := bA.keep hb
  clear hb R5
  by_cases hs0 : Lay.tWrite.sz x.write ≤ l
  · rw [szR_ok hs0]
    have hq : decide (((l - Lay.tWrite.sz x.write : Nat) : Int) < 0) = false := by simp
    have HX := hide HB0
    have HA := hide bA
    clear HB0 bA
    go_wp2_with fail
    clear hq
    go_ret
    refine ⟨?_, unhide HX⟩
    rw [unhide HV, szR_ok (by omega), show l - (Lay.tWrite.sz x.write) = l - Lay.tWrite.sz x.write by omega]
    rfl
  · rw [szR_many (by omega)]
    have HX := hide HB0
    clear HB0 bA
    go_wp2_with fail
    go_ret
    refine ⟨?_, unhide HX⟩
    rw [unhide HV, szR_many (by omega)]
    rfl

end Go.Proofs.YtkmfkaljdngigaaDoor

namespace Go.Proofs.YtkmfkaljdngigaaDoor
open Go.RowKit

set_option maxRecDepth 10000 in
set_option maxHeartbeats 2000000 in
theorem to_Write (cs : List Value) (x : DWrite) (w : World) (h : Lay.tWrite.Reads w cs x) (hn : Lay.tWrite.sz x ≤ 1048576) :
    Calls Tryd.prog 14 #[.agg cs.toArray] w fun e w' => ∃ cs', e = .returned (.agg cs'.toArray) ∧ Lay.tWrite.OwnIn w' cs' x w.heap.size w'.heap.size ∧ Below w.heap.size w w' := by
  have h0 := h
  obtain ⟨bl, hl⟩ := h0
  obtain ⟨-, -, -, -, -, f0, f1, -, f3, f4⟩ := lies_Write.1 hl
  clear hl
  obtain ⟨a2, d2, rfl, R2⟩ := open_Write h
  clear h
  rw [szsum_Write] at hn
  have HF := hide (And.intro f0 (And.intro f1 (And.intro f3 (f4))))
  clear f0 f1 f3 f4
  have HB0 : Below w.heap.size w (((w.alloc (.cells #[.int .i64 x.kind, .int .i64 x.id, .slice a2 x.vec.length d2, .int .i64 x.session, .int .i64 x.seq] 24)).alloc (.cells #[.int .i64 0, .int .i64 0, .slice none 0 0, .int .i64 0, .int .i64 0] 31)).alloc (.cells #[.int .i64 x.kind, .int .i64 x.id, .slice none 0 0, .int .i64 0, .int .i64 0] 31)) := (((Below.refl _ _).alloc (Nat.le_refl _) _).alloc (by simp) _).alloc (by simp; omega) _
  have bA : Box w.heap.size #[.int .i64 x.kind, .int .i64 x.id, .slice a2 x.vec.length d2, .int .i64 x.session, .int .i64 x.seq] 24 (((w.alloc (.cells #[.int .i64 x.kind, .int .i64 x.id, .slice a2 x.vec.length d2, .int .i64 x.session, .int .i64 x.seq] 24)).alloc (.cells #[.int .i64 0, .int .i64 0, .slice none 0 0, .int .i64 0, .int .i64 0] 31)).alloc (.cells #[.int .i64 x.kind, .int .i64 x.id, .slice none 0 0, .int .i64 0, .int .i64 0] 31)) w.heap.size := ((newBox (Nat.le_refl _)).grow _).grow _
  have bR : Box w.heap.size #[.int .i64 0, .int .i64 0, .slice none 0 0, .int .i64 0, .int .i64 0] 31 (((w.alloc (.cells #[.int .i64 x.kind, .int .i64 x.id, .slice a2 x.vec.length d2, .int .i64 x.session, .int .i64 x.seq] 24)).alloc (.cells #[.int .i64 0, .int .i64 0, .slice none 0 0, .int .i64 0, .int .i64 0] 31)).alloc (.cells #[.int .i64 x.kind, .int .i64 x.id, .slice none 0 0, .int .i64 0, .int .i64 0] 31)) (w.heap.size + 1) := (newBoxAt (by omega) (by simp)).grow _
  have bX : Box w.heap.size #[.int .i64 x.kind, .int .i64 x.id, .slice none 0 0, .int .i64 0, .int .i64 0] 31 (((w.alloc (.cells #[.int .i64 x.kind, .int .i64 x.id, .slice a2 x.vec.length d2, .int .i64 x.session, .int .i64 x.seq] 24)).alloc (.cells #[.int .i64 0, .int .i64 0, .slice none 0 0, .int .i64 0, .int .i64 0] 31)).alloc (.cells #[.int .i64 x.kind, .int .i64 x.id, .slice none 0 0, .int .i64 0, .int .i64 0] 31)) (w.heap.size + 2) := newBoxAt (by omega) (by simp)
  have hz0 : w.heap.size + 3 ≤ (((w.alloc (.cells #[.int .i64 x.kind, .int .i64 x.id, .slice a2 x.vec.length d2, .int .i64 x.session, .int .i64 x.seq] 24)).alloc (.cells #[.int .i64 0, .int .i64 0, .slice none 0 0, .int .i64 0, .int .i64 0] 31)).alloc (.cells #[.int .i64 x.kind, .int .i64 x.id, .slice none 0 0, .int .i64 0, .int .i64 0] 31)).heap.size := by simp
  go_enter Tryd.func14, Tryd.ntmps14
  go_wp2_with fail
  generalize ((w.alloc (.cells #[.int .i64 x.kind, .int .i64 x.id, .slice a2 x.vec.length d2, .int .i64 x.session, .int .i64 x.seq] 24)).alloc (.cells #[.int .i64 0, .int .i64 0, .slice none 0 0, .int .i64 0, .int .i64 0] 31)).alloc (.cells #[.int .i64 x.kind, .int .i64 x.id, .slice none 0 0, .int .i64 0, .int .i64 0] 31) = W0 at *
  replace R2 := R2.later HB0
  refine (to_Int64S _ x.vec W0 R2 (by omega)).mono ?_
  rintro e w1 ⟨v2, rfl, O2, hb⟩
  have Z0 : W0.heap.size ≤ w1.heap.size := hb.size
  replace HB0 := HB0.trans (hb.mono HB0.size)
  replace bA := bA.keep hb
  replace bR := bR.keep hb
  replace bX := bX.keep hb
  clear hb R2
  obtain ⟨a2z, d2z, rfl⟩ := open_sl O2.reads
  have p3 := bA.at 3 _ rfl
  have p4 := bA.at 4 _ rfl
  have q0 := bX.at 0 _ rfl
  have q1 := bX.at 1 _ rfl
  have q2 := bX.at 2 _ rfl
  have q3 := bX.at 3 _ rfl
  have q4 := bX.at 4 _ rfl
  have qf := bX.soft
  have ql := bX.lt
  have pl := bA.lt
  have r0 := bR.at 0 _ rfl
  have r1 := bR.at 1 _ rfl
  have r2 := bR.at 2 _ rfl
  have r3 := bR.at 3 _ rfl
  have r4 := bR.at 4 _ rfl
  have rf := bR.soft
  have rl := bR.lt
  simp only [List.getElem_toArray, List.getElem_cons_zero, List.getElem_cons_succ] at p3 p4 q0 q1 q2 q3 q4 r0 r1 r2 r3 r4
  have hA := hide bA
  have hR := hide bR
  have hX := hide bX
  have hB := hide HB0
  clear bA bR bX HB0
  have hO2 := hide O2
  clear O2
  go_wp2_with fail
  refine bodyPost_ret (v := .agg #[.int .i64 x.kind, .int .i64 x.id, .slice a2z x.vec.length d2z, .int .i64 x.session, .int .i64 x.seq]) (by simp [results, Tryd.results14, go_sem, r0, r1, r2, r3, r4]) rfl ?_
  have E : Ext (fun q => q = w.heap.size + 2 ∨ q = w.heap.size + 1) w1 _ := ext_setL (ext_setL (Ext.refl _ _) (w.heap.size + 2) [(2, .slice a2z x.vec.length d2z), (3, .int .i64 x.session), (4, .int .i64 x.seq)] (Or.inl rfl)) (w.heap.size + 1) [(0, .int .i64 x.kind), (1, .int .i64 x.id), (2, .slice a2z x.vec.length d2z), (3, .int .i64 x.session), (4, .int .i64 x.seq)] (Or.inr rfl)
  obtain ⟨f0, f1, f3, f4⟩ := unhide HF
  have own : Lay.tWrite.OwnIn _ [.int .i64 x.kind, .int .i64 x.id, .slice a2z x.vec.length d2z, .int .i64 x.session, .int .i64 x.seq] x w.heap.size w1.heap.size := (Lay.ownIn_pair (Lay.ownIn_int (lo := w.heap.size) (hi := w.heap.size) f0) (Lay.ownIn_pair (Lay.ownIn_int (lo := w.heap.size) (hi := w.heap.size) f1) (Lay.ownIn_pair ((unhide hO2).ext E (fun k h1 h2 h3 => by omega)) (Lay.ownIn_pair (Lay.ownIn_int (lo := w1.heap.size) (hi := w1.heap.size) f3) (Lay.ownIn_int (lo := w1.heap.size) (hi := w1.heap.size) f4) (by omega) (by omega) (by omega)) (by omega) (by omega) (by omega)) (by omega) (by omega) (by omega)) (by omega) (by omega) (by omega))
  have hsz := E.size
  have told := Lay.toldOwn (w := w) own (by omega) (by omega) ((unhide hB).trans (E.below (unhide hB).size (fun k h1 h2 => by omega)))
  exact told

end Go.Proofs.YtkmfkaljdngigaaDoor

namespace Go.Proofs.YtkmfkaljdngigaaDoor
open Go.RowKit

set_option maxRecDepth 10000 in
set_option maxHeartbeats 2000000 in
theorem to_Msg (cs : List Value) (x : DMsg) (w : World) (h : Lay.tMsg.Reads w cs x) (hn : Lay.tMsg.sz x ≤ 1048576) :
    Calls Tryd.prog 6 #[.agg cs.toArray] w fun e w' => ∃ cs', e = .returned (.agg cs'.toArray) ∧ Lay.tMsg.OwnIn w' cs' x w.heap.size w'.heap.size ∧ Below w.heap.size w w' := by
  have h0 := h
  obtain ⟨bl, hl⟩ := h0
  obtain ⟨-, -, -, -, -, f0, f1, f2, f3, f4, f5, f6, -, f8, f9⟩ := lies_Msg.1 hl
  clear hl
  obtain ⟨a7, d7, rfl, R5⟩ := open_Msg h
  clear h
  rw [szsum_Msg] at hn
  have HF := hide (And.intro f0 (And.intro f1 (And.intro f2 (And.intro f3 (And.intro f4 (And.intro f5 (And.intro f6 (And.intro f8 (f9)))))))))
  clear f0 f1 f2 f3 f4 f5 f6 f8 f9
  have HB0 : Below w.heap.size w (((w.alloc (.cells #[.int .i64 x.kind, .int .i64 x.epoch, .int .i64 x.src, .int .i64 x.dst, .int .i64 x.index, .int .i64 x.write.kind, .int .i64 x.write.id, .slice a7 x.write.vec.length d7, .int .i64 x.write.session, .int .i64 x.write.seq] 26)).alloc (.cells #[.int .i64 0, .int .i64 0, .int .i64 0, .int .i64 0, .int .i64 0, .int .i64 0, .int .i64 0, .slice none 0 0, .int .i64 0, .int .i64 0] 33)).alloc (.cells #[.int .i64 x.kind, .int .i64 x.epoch, .int .i64 x.src, .int .i64 x.dst, .int .i64 x.index, .int .i64 0, .int .i64 0, .slice none 0 0, .int .i64 0, .int .i64 0] 33)) := (((Below.refl _ _).alloc (Nat.le_refl _) _).alloc (by simp) _).alloc (by simp; omega) _
  have bA : Box w.heap.size #[.int .i64 x.kind, .int .i64 x.epoch, .int .i64 x.src, .int .i64 x.dst, .int .i64 x.index, .int .i64 x.write.kind, .int .i64 x.write.id, .slice a7 x.write.vec.length d7, .int .i64 x.write.session, .int .i64 x.write.seq] 26 (((w.alloc (.cells #[.int .i64 x.kind, .int .i64 x.epoch, .int .i64 x.src, .int .i64 x.dst, .int .i64 x.index, .int .i64 x.write.kind, .int .i64 x.write.id, .slice a7 x.write.vec.length d7, .int .i64 x.write.session, .int .i64 x.write.seq] 26)).alloc (.cells #[.int .i64 0, .int .i64 0, .int .i64 0, .int .i64 0, .int .i64 0, .int .i64 0, .int .i64 0, .slice none 0 0, .int .i64 0, .int .i64 0] 33)).alloc (.cells #[.int .i64 x.kind, .int .i64 x.epoch, .int .i64 x.src, .int .i64 x.dst, .int .i64 x.index, .int .i64 0, .int .i64 0, .slice none 0 0, .int .i64 0, .int .i64 0] 33)) w.heap.size := ((newBox (Nat.le_refl _)).grow _).grow _
  have bR : Box w.heap.size #[.int .i64 0, .int .i64 0, .int .i64 0, .int .i64 0, .int .i64 0, .int .i64 0, .int .i64 0, .slice none 0 0, .int .i64 0, .int .i64 0] 33 (((w.alloc (.cells #[.int .i64 x.kind, .int .i64 x.epoch, .int .i64 x.src, .int .i64 x.dst, .int .i64 x.index, .int .i64 x.write.kind, .int .i64 x.write.id, .slice a7 x.write.vec.length d7, .int .i64 x.write.session, .int .i64 x.write.seq] 26)).alloc (.cells #[.int .i64 0, .int .i64 0, .int .i64 0, .int .i64 0, .int .i64 0, .int .i64 0, .int .i64 0, .slice none 0 0, .int .i64 0, .int .i64 0] 33)).alloc (.cells #[.int .i64 x.kind, .int .i64 x.epoch, .int .i64 x.src, .int .i64 x.dst, .int .i64 x.index, .int .i64 0, .int .i64 0, .slice none 0 0, .int .i64 0, .int .i64 0] 33)) (w.heap.size + 1) := (newBoxAt (by omega) (by simp)).grow _
  have bX : Box w.heap.size #[.int .i64 x.kind, .int .i64 x.epoch, .int .i64 x.src, .int .i64 x.dst, .int .i64 x.index, .int .i64 0, .int .i64 0, .slice none 0 0, .int .i64 0, .int .i64 0] 33 (((w.alloc (.cells #[.int .i64 x.kind, .int .i64 x.epoch, .int .i64 x.src, .int .i64 x.dst, .int .i64 x.index, .int .i64 x.write.kind, .int .i64 x.write.id, .slice a7 x.write.vec.length d7, .int .i64 x.write.session, .int .i64 x.write.seq] 26)).alloc (.cells #[.int .i64 0, .int .i64 0, .int .i64 0, .int .i64 0, .int .i64 0, .int .i64 0, .int .i64 0, .slice none 0 0, .int .i64 0, .int .i64 0] 33)).alloc (.cells #[.int .i64 x.kind, .int .i64 x.epoch, .int .i64 x.src, .int .i64 x.dst, .int .i64 x.index, .int .i64 0, .int .i64 0, .slice none 0 0, .int .i64 0, .int .i64 0] 33)) (w.heap.size + 2) := newBoxAt (by omega) (by simp)
  have hz0 : w.heap.size + 3 ≤ (((w.alloc (.cells #[.int .i64 x.kind, .int .i64 x.epoch, .int .i64 x.src, .int .i64 x.dst, .int .i64 x.index, .int .i64 x.write.kind, .int .i64 x.write.id, .slice a7 x.write.vec.length d7, .int .i64 x.write.session, .int .i64 x.write.seq] 26)).alloc (.cells #[.int .i64 0, .int .i64 0, .int .i64 0, .int .i64 0, .int .i64 0, .int .i64 0, .int .i64 0, .slice none 0 0, .int .i64 0, .int .i64 0] 33)).alloc (.cells #[.int .i64 x.kind, .int .i64 x.epoch, .int .i64 x.src, .int .i64 x.dst, .int .i64 x.index, .int .i64 0, .int .i64 0, .slice none 0 0, .int .i64 0, .int .i64 0] 33)).heap.size := by simp
  go_enter Tryd.func6, Tryd.ntmps6
  go_wp2_with fail
  generalize ((w.alloc (.cells #[.int .i64 x.kind, .int .i64 x.epoch, .int .i64 x.src, .int .i64 x.dst, .int .i64 x.index, .int .i64 x.write.kind, .int .i64 x.write.id, .slice a7 x.write.vec.length d7, .int .i64 x.write.session, .int .i64 x.write.seq] 26)).alloc (.cells #[.int .i64 0, .int .i64 0, .int .i64 0, .int .i64 0, .int .i64 0, .int .i64 0, .int .i64 0, .slice none 0 0, .int .i64 0, .int .i64 0] 33)).alloc (.cells #[.int .i64 x.kind, .int .i64 x.epoch, .int .i64 x.src, .int .i64 x.dst, .int .i64 x.index, .int .i64 0, .int .i64 0, .slice none 0 0, .int .i64 0, .int .i64 0] 33) = W0 at *
  replace R5 := R5.later HB0
  refine (to_Write _ x.write W0 R5 (by omega)).mono ?_
  rintro e w1 ⟨v5, rfl, O5, hb⟩
  have Z0 : W0.heap.size ≤ w1.heap.size := hb.size
  replace HB0 := HB0.trans (hb.mono HB0.size)
  replace bA := bA.keep hb
  replace bR := bR.keep hb
  replace bX := bX.keep hb
  clear hb R5
  obtain ⟨a7z, d7z, rfl, -⟩ := open_Write O5.reads
  have q0 := bX.at 0 _ rfl
  have q1 := bX.at 1 _ rfl
  have q2 := bX.at 2 _ rfl
  have q3 := bX.at 3 _ rfl
  have q4 := bX.at 4 _ rfl
  have q5 := bX.at 5 _ rfl
  have q6 := bX.at 6 _ rfl
  have q7 := bX.at 7 _ rfl
  have q8 := bX.at 8 _ rfl
  have q9 := bX.at 9 _ rfl
  have qf := bX.soft
  have ql := bX.lt
  have pl := bA.lt
  have r0 := bR.at 0 _ rfl
  have r1 := bR.at 1 _ rfl
  have r2 := bR.at 2 _ rfl
  have r3 := bR.at 3 _ rfl
  have r4 := bR.at 4 _ rfl
  have r5 := bR.at 5 _ rfl
  have r6 := bR.at 6 _ rfl
  have r7 := bR.at 7 _ rfl
  have r8 := bR.at 8 _ rfl
  have r9 := bR.at 9 _ rfl
  have rf := bR.soft
  have rl := bR.lt
  simp only [List.getElem_toArray, List.getElem_cons_zero, List.getElem_cons_succ] at q0 q1 q2 q3 q4 q5 q6 q7 q8 q9 r0 r1 r2 r3 r4 r5 r6 r7 r8 r9
  have hA := hide bA
  have hR := hide bR
  have hX := hide bX
  have hB := hide HB0
  clear bA bR bX HB0
  have hO5 := hide O5
  clear O5
  go_wp2_with fail
  refine bodyPost_ret (v := .agg #[.int .i64 x.kind, .int .i64 x.epoch, .int .i64 x.src, .int .i64 x.dst, .int .i64 x.index, .int .i64 x.write.kind, .int .i64 x.write.id, .slice a7z x.write.vec.length d7z, .int .i64 x.write.session, .int .i64 x.write.seq]) (by simp [results, Tryd.results6, go_sem, r0, r1, r2, r3, r4, r5, r6, r7, r8, r9]) rfl ?_
  have E : Ext (fun q => q = w.heap.size + 2 ∨ q = w.heap.size + 1) w1 _ := ext_setL (ext_setL (Ext.refl _ _) (w.heap.size + 2) [(5, .int .i64 x.write.kind), (6, .int .i64 x.write.id), (7, .slice a7z x.write.vec.length d7z), (8, .int .i64 x.write.session), (9, .int .i64 x.write.seq)] (Or.inl rfl)) (w.heap.size + 1) [(0, .int .i64 x.kind), (1, .int .i64 x.epoch), (2, .int .i64 x.src), (3, .int .i64 x.dst), (4, .int .i64 x.index), (5, .int .i64 x.write.kind), (6, .int .i64 x.write.id), (7, .slice a7z x.write.vec.length d7z), (8, .int .i64 x.write.session), (9, .int .i64 x.write.seq)] (Or.inr rfl)
  obtain ⟨f0, f1, f2, f3, f4, f5, f6, f8, f9⟩ := unhide HF
  have own : Lay.tMsg.OwnIn _ [.int .i64 x.kind, .int .i64 x.epoch, .int .i64 x.src, .int .i64 x.dst, .int .i64 x.index, .int .i64 x.write.kind, .int .i64 x.write.id, .slice a7z x.write.vec.length d7z, .int .i64 x.write.session, .int .i64 x.write.seq] x w.heap.size w1.heap.size := (Lay.ownIn_pair (Lay.ownIn_int (lo := w.heap.size) (hi := w.heap.size) f0) (Lay.ownIn_pair (Lay.ownIn_int (lo := w.heap.size) (hi := w.heap.size) f1) (Lay.ownIn_pair (Lay.ownIn_int (lo := w.heap.size) (hi := w.heap.size) f2) (Lay.ownIn_pair (Lay.ownIn_int (lo := w.heap.size) (hi := w.heap.size) f3) (Lay.ownIn_pair (Lay.ownIn_int (lo := w.heap.size) (hi := w.heap.size) f4) ((unhide hO5).ext E (fun k h1 h2 h3 => by omega)) (by omega) (by omega) (by omega)) (by omega) (by omega) (by omega)) (by omega) (by omega) (by omega)) (by omega) (by omega) (by omega)) (by omega) (by omega) (by omega))
  have hsz := E.size
  have told := Lay.toldOwn (w := w) own (by omega) (by omega) ((unhide hB).trans (E.below (unhide hB).size (fun k h1 h2 => by omega)))
  exact told

end Go.Proofs.YtkmfkaljdngigaaDoor

namespace Go.Proofs.YtkmfkaljdngigaaDoor
open Go.RowKit

set_option maxRecDepth 10000 in
set_option maxHeartbeats 1000000 in
theorem eq_Write (cs cs2 : List Value) (x : DWrite) (w : World) (h : Lay.tWrite.Reads w cs x) (h2 : Lay.tWrite.Reads w cs2 x) :
    Calls Tryd.prog 19 #[.agg cs.toArray, .agg cs2.toArray] w fun e w' => e = .returned (.bool true) ∧ Below w.heap.size w w' := by
  obtain ⟨a2, d2, rfl, R2⟩ := open_Write h
  obtain ⟨a2z, d2z, rfl, R2z⟩ := open_Write h2
  clear h h2
  have e0 : (x.kind != x.kind) = false := by simp
  have e1 : (x.id != x.id) = false := by simp
  have e3 : (x.session != x.session) = false := by simp
  have e4 : (x.seq != x.seq) = false := by simp
  have HB0 : Below w.heap.size w ((w.alloc (.cells #[.int .i64 x.kind, .int .i64 x.id, .slice a2 x.vec.length d2, .int .i64 x.session, .int .i64 x.seq] 31)).alloc (.cells #[.int .i64 x.kind, .int .i64 x.id, .slice a2z x.vec.length d2z, .int .i64 x.session, .int .i64 x.seq] 31)) := ((Below.refl _ _).alloc (Nat.le_refl _) _).alloc (by simp) _
  have bA : Box w.heap.size #[.int .i64 x.kind, .int .i64 x.id, .slice a2 x.vec.length d2, .int .i64 x.session, .int .i64 x.seq] 31 ((w.alloc (.cells #[.int .i64 x.kind, .int .i64 x.id, .slice a2 x.vec.length d2, .int .i64 x.session, .int .i64 x.seq] 31)).alloc (.cells #[.int .i64 x.kind, .int .i64 x.id, .slice a2z x.vec.length d2z, .int .i64 x.session, .int .i64 x.seq] 31)) w.heap.size := (newBox (Nat.le_refl _)).grow _
  have bC : Box w.heap.size #[.int .i64 x.kind, .int .i64 x.id, .slice a2z x.vec.length d2z, .int .i64 x.session, .int .i64 x.seq] 31 ((w.alloc (.cells #[.int .i64 x.kind, .int .i64 x.id, .slice a2 x.vec.length d2, .int .i64 x.session, .int .i64 x.seq] 31)).alloc (.cells #[.int .i64 x.kind, .int .i64 x.id, .slice a2z x.vec.length d2z, .int .i64 x.session, .int .i64 x.seq] 31)) (w.heap.size + 1) := newBoxAt (by omega) (by simp)
  go_enter Tryd.func19, Tryd.ntmps19
  go_wp2_with fail
  generalize (w.alloc (.cells #[.int .i64 x.kind, .int .i64 x.id, .slice a2 x.vec.length d2, .int .i64 x.session, .int .i64 x.seq] 31)).alloc (.cells #[.int .i64 x.kind, .int .i64 x.id, .slice a2z x.vec.length d2z, .int .i64 x.session, .int .i64 x.seq] 31) = W0 at *
  replace R2 := R2.later HB0
  replace R2z := R2z.later HB0
  refine (eq_Int64S _ _ x.vec _ R2 R2z).mono ?_
  rintro e w1 ⟨rfl, hb⟩
  replace bA := bA.keep hb
  replace bC := bC.keep hb
  replace HB0 := HB0.trans (hb.mono HB0.size)
  have p3 := bA.at 3 _ rfl
  have q3 := bC.at 3 _ rfl
  have p4 := bA.at 4 _ rfl
  have q4 := bC.at 4 _ rfl
  clear hb
  have HB := hide HB0
  have HA := hide bA
  have HC := hide bC
  clear HB0 bA bC
  go_wp2_with fail
  go_ret
  exact ⟨rfl, unhide HB⟩

end Go.Proofs.YtkmfkaljdngigaaDoor

namespace Go.Proofs.YtkmfkaljdngigaaDoor
open Go.RowKit

set_option maxRecDepth 10000 in
set_option maxHeartbeats 1000000 in
theorem eq_Msg (cs cs2 : List Value) (x : DMsg) (w : World) (h : Lay.tMsg.Reads w cs x) (h2 : Lay.tMsg.Reads w cs2 x) :
    Calls Tryd.prog 9 #[.agg cs.toArray, .agg cs2.toArray] w fun e w' => e = .returned (.bool true) ∧ Below w.heap.size w w' := by
  obtain ⟨a7, d7, rfl, R5⟩ := open_Msg h
  obtain ⟨a7z, d7z, rfl, R5z⟩ := open_Msg h2
  clear h h2
  have e0 : (x.kind != x.kind) = false := by simp
  have e1 : (x.epoch != x.epoch) = false := by simp
  have e2 : (x.src != x.src) = false := by simp
  have e3 : (x.dst != x.dst) = false := by simp
  have e4 : (x.index != x.index) = false := by simp
  have e5 : (x.write.kind != x.write.kind) = false := by simp
  have e6 : (x.write.id != x.write.id) = false := by simp
  have e8 : (x.write.session != x.write.session) = false := by simp
  have e9 : (x.write.seq != x.write.seq) = false := by simp
  have HB0 : Below w.heap.size w ((w.alloc (.cells #[.int .i64 x.kind, .int .i64 x.epoch, .int .i64 x.src, .int .i64 x.dst, .int .i64 x.index, .int .i64 x.write.kind, .int .i64 x.write.id, .slice a7 x.write.vec.length d7, .int .i64 x.write.session, .int .i64 x.write.seq] 33)).alloc (.cells #[.int .i64 x.kind, .int .i64 x.epoch, .int .i64 x.src, .int .i64 x.dst, .int .i64 x.index, .int .i64 x.write.kind, .int .i64 x.write.id, .slice a7z x.write.vec.length d7z, .int .i64 x.write.session, .int .i64 x.write.seq] 33)) := ((Below.refl _ _).alloc (Nat.le_refl _) _).alloc (by simp) _
  have bA : Box w.heap.size #[.int .i64 x.kind, .int .i64 x.epoch, .int .i64 x.src, .int .i64 x.dst, .int .i64 x.index, .int .i64 x.write.kind, .int .i64 x.write.id, .slice a7 x.write.vec.length d7, .int .i64 x.write.session, .int .i64 x.write.seq] 33 ((w.alloc (.cells #[.int .i64 x.kind, .int .i64 x.epoch, .int .i64 x.src, .int .i64 x.dst, .int .i64 x.index, .int .i64 x.write.kind, .int .i64 x.write.id, .slice a7 x.write.vec.length d7, .int .i64 x.write.session, .int .i64 x.write.seq] 33)).alloc (.cells #[.int .i64 x.kind, .int .i64 x.epoch, .int .i64 x.src, .int .i64 x.dst, .int .i64 x.index, .int .i64 x.write.kind, .int .i64 x.write.id, .slice a7z x.write.vec.length d7z, .int .i64 x.write.session, .int .i64 x.write.seq] 33)) w.heap.size := (newBox (Nat.le_refl _)).grow _
  have bC : Box w.heap.size #[.int .i64 x.kind, .int .i64 x.epoch, .int .i64 x.src, .int .i64 x.dst, .int .i64 x.index, .int .i64 x.write.kind, .int .i64 x.write.id, .slice a7z x.write.vec.length d7z, .int .i64 x.write.session, .int .i64 x.write.seq] 33 ((w.alloc (.cells #[.int .i64 x.kind, .int .i64 x.epoch, .int .i64 x.src, .int .i64 x.dst, .int .i64 x.index, .int .i64 x.write.kind, .int .i64 x.write.id, .slice a7 x.write.vec.length d7, .int .i64 x.write.session, .int .i64 x.write.seq] 33)).alloc (.cells #[.int .i64 x.kind, .int .i64 x.epoch, .int .i64 x.src, .int .i64 x.dst, .int .i64 x.index, .int .i64 x.write.kind, .int .i64 x.write.id, .slice a7z x.write.vec.length d7z, .int .i64 x.write.session, .int .i64 x.write.seq] 33)) (w.heap.size + 1) := newBoxAt (by omega) (by simp)
  go_enter Tryd.func9, Tryd.ntmps9
  go_wp2_with fail
  generalize (w.alloc (.cells #[.int .i64 x.kind, .int .i64 x.epoch, .int .i64 x.src, .int .i64 x.dst, .int .i64 x.index, .int .i64 x.write.kind, .int .i64 x.write.id, .slice a7 x.write.vec.length d7, .int .i64 x.write.session, .int .i64 x.write.seq] 33)).alloc (.cells #[.int .i64 x.kind, .int .i64 x.epoch, .int .i64 x.src, .int .i64 x.dst, .int .i64 x.index, .int .i64 x.write.kind, .int .i64 x.write.id, .slice a7z x.write.vec.length d7z, .int .i64 x.write.session, .int .i64 x.write.seq] 33) = W0 at *
  replace R5 := R5.later HB0
  replace R5z := R5z.later HB0
  refine (eq_Write _ _ x.write _ R5 R5z).mono ?_
  rintro e w1 ⟨rfl, hb⟩
  replace bA := bA.keep hb
  replace bC := bC.keep hb
  replace HB0 := HB0.trans (hb.mono HB0.size)
  clear hb
  have HB := hide HB0
  have HA := hide bA
  have HC := hide bC
  clear HB0 bA bC
  go_wp2_with fail
  go_ret
  exact ⟨rfl, unhide HB⟩

end Go.Proofs.YtkmfkaljdngigaaDoor

namespace Go.Proofs.YtkmfkaljdngigaaDoor
open Go.RowKit

structure DTextResult where
  code : Int
  text : ByteArray

def Lay.tTextResult : Lay DTextResult := Lay.via (Lay.pair Lay.int Lay.str) (fun x => (x.code, x.text)) (fun p => ⟨p.1, p.2⟩)

theorem lies_TextResult {w : World} {cs : List Value} {x : DTextResult} {bl : List Nat} : Lay.tTextResult.lies w cs x bl ↔ cs = [.int .i64 x.code, .string x.text] ∧ bl = [] ∧ (Lit.int .i64 x.code).wf = true := by
  constructor
  · intro h
    obtain ⟨c0_, r0_, e0_, s0_, rfl, rfl, h0, h1⟩ := h
    obtain ⟨rfl, w0, rfl⟩ := h0
    obtain ⟨rfl, rfl⟩ := h1
    exact ⟨by simp, by simp, w0⟩
  · rintro ⟨rfl, hbl, w0⟩
    rw [hbl]
    exact ⟨[.int .i64 x.code], [.string x.text], [], [], rfl, by simp, ⟨rfl, w0, rfl⟩, ⟨rfl, rfl⟩⟩

end Go.Proofs.YtkmfkaljdngigaaDoor

namespace Go.Proofs.YtkmfkaljdngigaaDoor
open Go.RowKit

set_option maxRecDepth 10000 in
set_option maxHeartbeats 1000000 in
theorem eq_TextResult (cs cs2 : List Value) (x : DTextResult) (w : World) (h : Lay.tTextResult.Reads w cs x) (h2 : Lay.tTextResult.Reads w cs2 x) :
    Calls Tryd.prog 8 #[.agg cs.toArray, .agg cs2.toArray] w fun e w' => e = .returned (.bool true) ∧ Below w.heap.size w w' := by
  obtain ⟨bl, h⟩ := h
  obtain ⟨rfl, -⟩ := lies_TextResult.1 h
  obtain ⟨bl2, h2⟩ := h2
  obtain ⟨rfl, -⟩ := lies_TextResult.1 h2
  clear h h2
  have e0 : (x.code != x.code) = false := by simp
  have e1 : ∀ W : World, (Op.stringOp .neq x.text x.text).run Tryd.prog W = .ok (.bool false) W := fun W => by simp [Op.stringOp]
  have HB0 : Below w.heap.size w ((w.alloc (.cells #[.int .i64 x.code, .string x.text] 29)).alloc (.cells #[.int .i64 x.code, .string x.text] 29)) := ((Below.refl _ _).alloc (Nat.le_refl _) _).alloc (by simp) _
  go_enter Tryd.func8, Tryd.ntmps8
  go_wp2_with fail
  go_ret
  exact ⟨rfl, HB0⟩

end Go.Proofs.YtkmfkaljdngigaaDoor

namespace Go.Proofs.YtkmfkaljdngigaaDoor

abbrev Bytes := List UInt8

def isDig (c : UInt8) : Bool := decide (48 ≤ c.toNat) && decide (c.toNat ≤ 57)
def headDig : Bytes → Bool
  | [] => false
  | d :: _ => isDig d
def digs (n : Int) : Bytes → Option (Int × Bytes)
  | [] => none
  | c :: r => if 1000 < n * 10 + ((c.toNat : Int) - 48) then none else if headDig r then digs (n * 10 + ((c.toNat : Int) - 48)) r else some (n * 10 + ((c.toNat : Int) - 48), r)
def unsgn (σ : Int) : Bytes → Option (Int × Bytes)
  | [] => none
  | c :: r => if isDig c then (if c.toNat = 48 then (if σ < 0 then none else some (σ * 0, r)) else (digs 0 (c :: r)).map fun q => (σ * q.1, q.2)) else none
def rpart : Bytes → Option (Int × Bytes)
  | [] => none
  | c :: r => if c.toNat = 45 then unsgn (-1) r else unsgn 1 (c :: r)

abbrev Tri := Int × Int × Int
def setAt : Nat → Tri → Int → Tri
  | 0, t, v => (v, t.2.1, t.2.2)
  | 1, t, v => (t.1, v, t.2.2)
  | _, t, v => (t.1, t.2.1, v)
def fin3 (t : Tri) : Bytes → Option Tri
  | [] => some t
  | _ => none

/-- q places are left; the last one leaves the end. -/
def PP : Nat → Tri → Bytes → Option Tri
  | 0, _, _ => none
  | q + 1, t, r =>
    match rpart r with
    | none => none
    | some (v, r1) =>
      match q with
      | 0 => fin3 (setAt 2 t v) r1
      | q' + 1 =>
        match r1 with
        | [] => none
        | c :: r2 => if c.toNat = 44 then PP (q' + 1) (setAt (1 - q') t v) r2 else none

def EE (p : Nat) (t : Tri) (r : Bytes) : Option Tri :=
  if p = 2 then fin3 t r else match r with
    | [] => none
    | c :: r2 => if c.toNat = 44 then PP (2 - p) t r2 else none

theorem PP_eq (p : Nat) (hp : p ≤ 2) (t : Tri) (r : Bytes) : PP (3 - p) t r = match rpart r with | none => none | some (v, r1) => EE p (setAt p t v) r1 := by
  rcases (show p = 0 ∨ p = 1 ∨ p = 2 by omega) with rfl | rfl | rfl
  · show PP 3 t r = _
    rw [PP]
    cases rpart r with
    | none => rfl
    | some q => obtain ⟨v, r1⟩ := q; cases r1 <;> simp [EE]
  · show PP 2 t r = _
    rw [PP]
    cases rpart r with
    | none => rfl
    | some q => obtain ⟨v, r1⟩ := q; cases r1 <;> simp [EE]
  · show PP 1 t r = _
    rw [PP]
    cases rpart r with
    | none => rfl
    | some q => obtain ⟨v, r1⟩ := q; cases r1 <;> simp [EE]

def UU (p : Nat) (t : Tri) (σ : Int) (r : Bytes) : Option Tri := match unsgn σ r with | none => none | some (v, r1) => EE p (setAt p t v) r1
def DD (p : Nat) (t : Tri) (σ n : Int) (r : Bytes) : Option Tri := match digs n r with | none => none | some (v, r1) => EE p (setAt p t (σ * v)) r1

/-- The byte at k, 0 behind the end. -/
def bAt (s : ByteArray) (k : Nat) : Int := if h : k < s.size then (s[k].toNat : Int) else 0
def digB (b : Int) : Bool := decide (48 ≤ b) && decide (b ≤ 57)

def rest (s : ByteArray) (k : Nat) : Bytes := s.data.toList.drop k
theorem rest_nil (s : ByteArray) (k : Nat) (h : ¬ k < s.size) : rest s k = [] := by
  unfold rest
  exact List.drop_of_length_le (by simp; simpa using h)
theorem rest_cons (s : ByteArray) (k : Nat) (h : k < s.size) : rest s k = s[k] :: rest s (k + 1) := by
  unfold rest
  rw [List.drop_eq_getElem_cons (by simpa using h)]
  rfl
theorem bAt_lt (s : ByteArray) (k : Nat) (h : k < s.size) : bAt s k = (s[k].toNat : Int) := by simp [bAt, h]
theorem bAt_ge (s : ByteArray) (k : Nat) (h : ¬ k < s.size) : bAt s k = 0 := by simp [bAt, h]
theorem bAt_bd (s : ByteArray) (k : Nat) : 0 ≤ bAt s k ∧ bAt s k ≤ 255 := by
  unfold bAt
  split
  · have := s[k].toNat_lt; omega
  · omega
theorem lt_of_bAt (s : ByteArray) (k : Nat) (h : bAt s k ≠ 0) : k < s.size := by
  by_cases hk : k < s.size
  · exact hk
  · exact absurd (bAt_ge s k hk) h
theorem digB_lt (s : ByteArray) (k : Nat) (h : digB (bAt s k) = true) : k < s.size := by
  refine lt_of_bAt s k ?_
  simp [digB] at h
  omega
theorem isDig_at (s : ByteArray) (k : Nat) (h : k < s.size) : isDig s[k] = digB (bAt s k) := by
  rw [bAt_lt s k h]
  simp only [isDig, digB]
  congr 1
  · rw [decide_eq_decide]; omega
  · rw [decide_eq_decide]; omega
theorem headDig_at (s : ByteArray) (k : Nat) : headDig (rest s k) = digB (bAt s k) := by
  by_cases h : k < s.size
  · rw [rest_cons s k h]; exact isDig_at s k h
  · rw [rest_nil s k h, bAt_ge s k h]; rfl

theorem PP_minus (s : ByteArray) (k p : Nat) (t : Tri) (hp : p ≤ 2) (h : bAt s k = 45) : PP (3 - p) t (rest s k) = UU p t (-1) (rest s (k + 1)) := by
  have hk := lt_of_bAt s k (by omega)
  have h1 : s[k].toNat = 45 := by have := bAt_lt s k hk; omega
  rw [PP_eq p hp, rest_cons s k hk]
  simp [rpart, h1, UU]
theorem PP_plus (s : ByteArray) (k p : Nat) (t : Tri) (hp : p ≤ 2) (h : bAt s k ≠ 45) : PP (3 - p) t (rest s k) = UU p t 1 (rest s k) := by
  rw [PP_eq p hp]
  by_cases hk : k < s.size
  · have h1 : ¬ s[k].toNat = 45 := by have := bAt_lt s k hk; omega
    rw [rest_cons s k hk]
    simp [rpart, h1, UU]
  · rw [rest_nil s k hk]
    simp [rpart, UU, unsgn]
theorem UU_bad (s : ByteArray) (k p : Nat) (t : Tri) (σ : Int) (h : digB (bAt s k) = false) : UU p t σ (rest s k) = none := by
  by_cases hk : k < s.size
  · have := isDig_at s k hk
    rw [rest_cons s k hk]
    simp [UU, unsgn, this, h]
  · rw [rest_nil s k hk]
    simp [UU, unsgn]
theorem UU_digit (s : ByteArray) (k p : Nat) (t : Tri) (σ : Int) (h : digB (bAt s k) = true) (h0 : bAt s k ≠ 48) : UU p t σ (rest s k) = DD p t σ 0 (rest s k) := by
  have hk := digB_lt s k h
  have h1 := isDig_at s k hk
  have h2 : ¬ s[k].toNat = 48 := by have := bAt_lt s k hk; omega
  rw [rest_cons s k hk]
  simp only [UU, unsgn, h1, h, h2, if_true, if_false, DD]
  cases digs 0 (s[k] :: rest s (k + 1)) with
  | none => rfl
  | some q => rfl
theorem UU_zero_neg (s : ByteArray) (k p : Nat) (t : Tri) (h0 : bAt s k = 48) : UU p t (-1) (rest s k) = none := by
  have hk := lt_of_bAt s k (by omega)
  have h2 : s[k].toNat = 48 := by have := bAt_lt s k hk; omega
  have h1 := isDig_at s k hk
  have h : digB (bAt s k) = true := by rw [h0]; rfl
  rw [rest_cons s k hk]
  simp [UU, unsgn, h1, h, h2]
theorem UU_zero (s : ByteArray) (k p : Nat) (t : Tri) (h0 : bAt s k = 48) : UU p t 1 (rest s k) = EE p (setAt p t (1 * 0)) (rest s (k + 1)) := by
  have hk := lt_of_bAt s k (by omega)
  have h2 : s[k].toNat = 48 := by have := bAt_lt s k hk; omega
  have h1 := isDig_at s k hk
  have h : digB (bAt s k) = true := by rw [h0]; rfl
  rw [rest_cons s k hk]
  simp [UU, unsgn, h1, h, h2]
theorem DD_much (s : ByteArray) (k p : Nat) (t : Tri) (σ n : Int) (h : digB (bAt s k) = true) (hm : 1000 < n * 10 + (bAt s k - 48)) : DD p t σ n (rest s k) = none := by
  have hk := digB_lt s k h
  have e := bAt_lt s k hk
  rw [rest_cons s k hk]
  rw [e] at hm
  simp [DD, digs, hm]
theorem DD_more (s : ByteArray) (k p : Nat) (t : Tri) (σ n : Int) (h : digB (bAt s k) = true) (hm : ¬ 1000 < n * 10 + (bAt s k - 48)) (h2 : digB (bAt s (k + 1)) = true) : DD p t σ n (rest s k) = DD p t σ (n * 10 + (bAt s k - 48)) (rest s (k + 1)) := by
  have hk := digB_lt s k h
  have e := bAt_lt s k hk
  have e2 := headDig_at s (k + 1)
  rw [rest_cons s k hk]
  rw [e] at hm ⊢
  simp only [DD, digs, hm, if_false, e2, h2, if_true]
theorem DD_end (s : ByteArray) (k p : Nat) (t : Tri) (σ n : Int) (h : digB (bAt s k) = true) (hm : ¬ 1000 < n * 10 + (bAt s k - 48)) (h2 : digB (bAt s (k + 1)) = false) : DD p t σ n (rest s k) = EE p (setAt p t (σ * (n * 10 + (bAt s k - 48)))) (rest s (k + 1)) := by
  have hk := digB_lt s k h
  have e := bAt_lt s k hk
  have e2 := headDig_at s (k + 1)
  rw [rest_cons s k hk]
  rw [e] at hm ⊢
  simp [DD, digs, hm, e2, h2]
theorem EE_last (t : Tri) (r : Bytes) : EE 2 t r = fin3 t r := by simp [EE]
theorem EE_comma (s : ByteArray) (k p : Nat) (t : Tri) (hp : p < 2) (h : bAt s k = 44) : EE p t (rest s k) = PP (3 - (p + 1)) t (rest s (k + 1)) := by
  have hk := lt_of_bAt s k (by omega)
  have h2 : s[k].toNat = 44 := by have := bAt_lt s k hk; omega
  have hp2 : ¬ p = 2 := by omega
  rw [rest_cons s k hk]
  simp [EE, hp2, h2, show 3 - (p + 1) = 2 - p by omega]
theorem EE_wrong (s : ByteArray) (k p : Nat) (t : Tri) (hp : p < 2) (h : bAt s k ≠ 44) : EE p t (rest s k) = none := by
  have hp2 : ¬ p = 2 := by omega
  by_cases hk : k < s.size
  · have h2 : ¬ s[k].toNat = 44 := by have := bAt_lt s k hk; omega
    rw [rest_cons s k hk]
    simp [EE, hp2, h2]
  · rw [rest_nil s k hk]
    simp [EE, hp2]
theorem fin3_end (s : ByteArray) (k : Nat) (t : Tri) (h : ¬ k < s.size) : fin3 t (rest s k) = some t := by rw [rest_nil s k h]; rfl
theorem fin3_more (s : ByteArray) (k : Nat) (t : Tri) (h : k < s.size) : fin3 t (rest s k) = none := by rw [rest_cons s k h]; rfl

end Go.Proofs.YtkmfkaljdngigaaDoor
