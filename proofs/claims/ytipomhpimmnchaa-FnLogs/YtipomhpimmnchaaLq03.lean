/-
  Texts of this proof in one: TabGround, DrawWr, WrBox, InB, InC, Fault.
  Their conditions stand in their theorems.
-/
import Derived.WalkKit
import Derived.Test.YtipomhpimmnchaaLq01
import Derived.Maps.OwnSet
import Derived.Test.YtipomhpimmnchaaLq02
import Derived.Test.YtipomhpimmnchaaChecked
import Derived.BigQuiet
import Derived.Deep.QuietTactic
import Derived.WalkSmall

namespace Go.Proofs.Ytipomhpimmnchaa

def partB (z : Int) : Bool := decide (-1000 ≤ z) && decide (z ≤ 1000)
def vecFault (zs : List Int) : Int := if zs.length = 3 then (if zs.all partB then 0 else 3) else 1

theorem vecFault_len {zs : List Int} (h : zs.length ≠ 3) : vecFault zs = 1 := by simp [vecFault, h]
theorem vecFault_bad {zs : List Int} (h : zs.length = 3) (k : Nat) (hk : k < 3) (hb : partB (zs.getD k 0) = false) : vecFault zs = 3 := by
  have : zs.all partB = false := by
    rw [List.all_eq_false]
    exact ⟨zs.getD k 0, by simp [List.getD, show k < zs.length by omega], by rw [hb]; simp⟩
  simp [vecFault, h, this]
theorem vecFault_ok {zs : List Int} (h : zs.length = 3) (hg : ∀ j, j < 3 → partB (zs.getD j 0) = true) : vecFault zs = 0 := by
  have : zs.all partB = true := by
    rw [List.all_eq_true]
    intro x hx
    obtain ⟨j, hj, rfl⟩ := List.mem_iff_getElem.1 hx
    have := hg j (by omega)
    simpa [List.getD, hj] using this
  simp [vecFault, h, this]
theorem partB_true {z : Int} (h : partB z = true) : -1000 ≤ z ∧ z ≤ 1000 := by simpa [partB] using h
theorem partB_false {z : Int} (h : partB z = false) : z < -1000 ∨ 1000 < z := by
  simp [partB] at h
  omega
theorem vecFault_zero {zs : List Int} (h : vecFault zs = 0) : zs.length = 3 ∧ ∀ j, j < 3 → -1000 ≤ zs.getD j 0 ∧ zs.getD j 0 ≤ 1000 := by
  unfold vecFault at h
  split at h
  · next hl =>
    refine ⟨hl, fun j hj => ?_⟩
    split at h
    · next ha =>
      rw [List.all_eq_true] at ha
      exact partB_true (ha _ (by simp [List.getD, show j < zs.length by omega]))
    · simp at h
  · simp at h

theorem fault3 {x y z : Int} (h : vecFault [x, y, z] = 0) : (-1000 ≤ x ∧ x ≤ 1000) ∧ (-1000 ≤ y ∧ y ≤ 1000) ∧ (-1000 ≤ z ∧ z ≤ 1000) := by
  have h1 := (vecFault_zero h).2
  exact ⟨by simpa using h1 0 (by omega), by simpa using h1 1 (by omega), by simpa using h1 2 (by omega)⟩

end Go.Proofs.Ytipomhpimmnchaa

namespace Go.Proofs.Ytipomhpimmnchaa
open Go.RowKit

structure DWrite where
  kind : Int
  id : Int
  vec : List Int
  session : Int
  seq : Int

def Lay.tWrite : Lay DWrite := Lay.via (Lay.pair Lay.int (Lay.pair Lay.int (Lay.pair (Lay.sl Lay.int) (Lay.pair Lay.int Lay.int)))) (fun x => (x.kind, x.id, x.vec, x.session, x.seq)) (fun p => ⟨p.1, p.2.1, p.2.2.1, p.2.2.2.1, p.2.2.2.2⟩)

theorem lies_Write {w : World} {cs : List Value} {x : DWrite} {bl : List Nat} : Lay.tWrite.lies w cs x bl ↔ ∃ (a2 : Option Addr) (d2 : Nat) (b2 : List Nat), cs = [.int .i64 x.kind, .int .i64 x.id, .slice a2 x.vec.length d2, .int .i64 x.session, .int .i64 x.seq] ∧ bl = b2 ∧ (Lit.int .i64 x.kind).wf = true ∧ (Lit.int .i64 x.id).wf = true ∧ (Lay.sl Lay.int).lies w [.slice a2 x.vec.length d2] x.vec b2 ∧ (Lit.int .i64 x.session).wf = true ∧ (Lit.int .i64 x.seq).wf = true := by
  constructor
  · intro h
    obtain ⟨c0_, r0_, e0_, s0_, rfl, rfl, h0, ⟨c1_, r1_, e1_, s1_, rfl, rfl, h1, ⟨c2_, r2_, e2_, s2_, rfl, rfl, h2, ⟨c3_, r3_, e3_, s3_, rfl, rfl, h3, h4⟩⟩⟩⟩ := h
    obtain ⟨rfl, w0, rfl⟩ := h0
    obtain ⟨rfl, w1, rfl⟩ := h1
    have k2 := h2
    obtain ⟨a2, d2, rfl, -⟩ := k2
    obtain ⟨rfl, w3, rfl⟩ := h3
    obtain ⟨rfl, w4, rfl⟩ := h4
    exact ⟨a2, d2, e2_, by simp, by simp, w0, w1, h2, w3, w4⟩
  · rintro ⟨a2, d2, b2, rfl, hbl, w0, w1, l2, w3, w4⟩
    rw [hbl]
    exact ⟨[.int .i64 x.kind], [.int .i64 x.id] ++ ([.slice a2 x.vec.length d2] ++ ([.int .i64 x.session] ++ [.int .i64 x.seq])), [], [] ++ (b2 ++ ([] ++ ([]))), rfl, by simp, ⟨rfl, w0, rfl⟩, ⟨[.int .i64 x.id], [.slice a2 x.vec.length d2] ++ ([.int .i64 x.session] ++ [.int .i64 x.seq]), [], b2 ++ ([] ++ ([])), rfl, by simp, ⟨rfl, w1, rfl⟩, ⟨[.slice a2 x.vec.length d2], [.int .i64 x.session] ++ [.int .i64 x.seq], b2, [] ++ ([]), rfl, by simp, l2, ⟨[.int .i64 x.session], [.int .i64 x.seq], [], [], rfl, by simp, ⟨rfl, w3, rfl⟩, ⟨rfl, w4, rfl⟩⟩⟩⟩⟩

theorem open_Write {w : World} {cs : List Value} {x : DWrite} (h : Lay.tWrite.Reads w cs x) : ∃ (a2 : Option Addr) (d2 : Nat), cs = [.int .i64 x.kind, .int .i64 x.id, .slice a2 x.vec.length d2, .int .i64 x.session, .int .i64 x.seq] ∧ (Lay.sl Lay.int).Reads w [.slice a2 x.vec.length d2] x.vec := by
  obtain ⟨bl, h⟩ := h
  obtain ⟨a2, d2, b2, rfl, -, w0, w1, l2, w3, w4⟩ := lies_Write.1 h
  exact ⟨a2, d2, rfl, ⟨_, l2⟩⟩

end Go.Proofs.Ytipomhpimmnchaa

namespace Go.Proofs.Ytipomhpimmnchaa
open Go.RowKit

theorem vcnt_Write (x : DWrite) : Lay.tWrite.vcnt x = (Lay.sl Lay.int).vcnt x.vec := by
  show 0 + (0 + ((Lay.sl Lay.int).vcnt x.vec + (0 + (0)))) = (Lay.sl Lay.int).vcnt x.vec
  omega
theorem mkv_Write (k : Int) (x : DWrite) : Lay.tWrite.mkv k x = ⟨x.kind, x.id, (Lay.sl Lay.int).mkv (k) x.vec, x.session, x.seq⟩ := by
  simp [Lay.tWrite, Lay.via, Lay.pair, Lay.int]
theorem own_Write {w : World} {cs : List Value} {x : DWrite} {bl : List Nat} (h : Lay.tWrite.Own w cs x bl) : ∃ (a2 : Option Addr) (d2 : Nat) (g2 : List Nat), cs = [.int .i64 x.kind, .int .i64 x.id, .slice a2 x.vec.length d2, .int .i64 x.session, .int .i64 x.seq] ∧ bl = g2 ∧ (Lay.sl Lay.int).Own w [.slice a2 x.vec.length d2] x.vec g2 ∧ (Lit.int .i64 x.kind).wf = true ∧ (Lit.int .i64 x.id).wf = true ∧ (Lit.int .i64 x.session).wf = true ∧ (Lit.int .i64 x.seq).wf = true := by
  obtain ⟨hl, hn, hf⟩ := h
  obtain ⟨a2, d2, b2, rfl, hbl, w0, w1, l2, w3, w4⟩ := lies_Write.1 hl
  rw [hbl] at hn hf
  exact ⟨a2, d2, b2, rfl, hbl, ⟨l2, hn, hf⟩, w0, w1, w3, w4⟩
theorem mkOwn_Write {w : World} {x : DWrite} {c2 : List Value} {g2 : List Nat} (O2 : (Lay.sl Lay.int).Own w c2 x.vec g2) (v0 : (Lit.int .i64 x.kind).wf = true) (v1 : (Lit.int .i64 x.id).wf = true) (v3 : (Lit.int .i64 x.session).wf = true) (v4 : (Lit.int .i64 x.seq).wf = true) (hn : (g2).Nodup) : Lay.tWrite.Own w ([.int .i64 x.kind] ++ ([.int .i64 x.id] ++ (c2 ++ ([.int .i64 x.session] ++ ([.int .i64 x.seq]))))) x (g2) := by
  refine ⟨⟨[.int .i64 x.kind], [.int .i64 x.id] ++ (c2 ++ ([.int .i64 x.session] ++ ([.int .i64 x.seq]))), [], [] ++ (g2 ++ ([] ++ [])), rfl, by simp, ⟨rfl, v0, rfl⟩, ⟨[.int .i64 x.id], c2 ++ ([.int .i64 x.session] ++ ([.int .i64 x.seq])), [], g2 ++ ([] ++ []), rfl, rfl, ⟨rfl, v1, rfl⟩, ⟨c2, [.int .i64 x.session] ++ ([.int .i64 x.seq]), g2, [] ++ [], rfl, rfl, O2.1, ⟨[.int .i64 x.session], [.int .i64 x.seq], [], [], rfl, rfl, ⟨rfl, v3, rfl⟩, ⟨rfl, v4, rfl⟩⟩⟩⟩⟩, hn, ?_⟩
  intro b hb o
  exact O2.2.2 b hb o

end Go.Proofs.Ytipomhpimmnchaa

namespace Go.Proofs.Ytipomhpimmnchaa
open Go.RowKit

structure DItem where
  id : Int
  vec : List Int

def Lay.tItem : Lay DItem := Lay.via (Lay.pair Lay.int (Lay.sl Lay.int)) (fun x => (x.id, x.vec)) (fun p => ⟨p.1, p.2⟩)

theorem lies_Item {w : World} {cs : List Value} {x : DItem} {bl : List Nat} : Lay.tItem.lies w cs x bl ↔ ∃ (a1 : Option Addr) (d1 : Nat) (b1 : List Nat), cs = [.int .i64 x.id, .slice a1 x.vec.length d1] ∧ bl = b1 ∧ (Lit.int .i64 x.id).wf = true ∧ (Lay.sl Lay.int).lies w [.slice a1 x.vec.length d1] x.vec b1 := by
  constructor
  · intro h
    obtain ⟨c0_, r0_, e0_, s0_, rfl, rfl, h0, h1⟩ := h
    obtain ⟨rfl, w0, rfl⟩ := h0
    have k1 := h1
    obtain ⟨a1, d1, rfl, -⟩ := k1
    exact ⟨a1, d1, s0_, by simp, by simp, w0, h1⟩
  · rintro ⟨a1, d1, b1, rfl, hbl, w0, l1⟩
    rw [hbl]
    exact ⟨[.int .i64 x.id], [.slice a1 x.vec.length d1], [], b1, rfl, by simp, ⟨rfl, w0, rfl⟩, l1⟩

theorem open_Item {w : World} {cs : List Value} {x : DItem} (h : Lay.tItem.Reads w cs x) : ∃ (a1 : Option Addr) (d1 : Nat), cs = [.int .i64 x.id, .slice a1 x.vec.length d1] ∧ (Lay.sl Lay.int).Reads w [.slice a1 x.vec.length d1] x.vec := by
  obtain ⟨bl, h⟩ := h
  obtain ⟨a1, d1, b1, rfl, -, w0, l1⟩ := lies_Item.1 h
  exact ⟨a1, d1, rfl, ⟨_, l1⟩⟩

end Go.Proofs.Ytipomhpimmnchaa

namespace Go.Proofs.Ytipomhpimmnchaa
open Go.RowKit

theorem vcnt_Item (x : DItem) : Lay.tItem.vcnt x = (Lay.sl Lay.int).vcnt x.vec := by
  show 0 + ((Lay.sl Lay.int).vcnt x.vec) = (Lay.sl Lay.int).vcnt x.vec
  omega
theorem mkv_Item (k : Int) (x : DItem) : Lay.tItem.mkv k x = ⟨x.id, (Lay.sl Lay.int).mkv (k) x.vec⟩ := by
  simp [Lay.tItem, Lay.via, Lay.pair, Lay.int]
theorem own_Item {w : World} {cs : List Value} {x : DItem} {bl : List Nat} (h : Lay.tItem.Own w cs x bl) : ∃ (a1 : Option Addr) (d1 : Nat) (g1 : List Nat), cs = [.int .i64 x.id, .slice a1 x.vec.length d1] ∧ bl = g1 ∧ (Lay.sl Lay.int).Own w [.slice a1 x.vec.length d1] x.vec g1 ∧ (Lit.int .i64 x.id).wf = true := by
  obtain ⟨hl, hn, hf⟩ := h
  obtain ⟨a1, d1, b1, rfl, hbl, w0, l1⟩ := lies_Item.1 hl
  rw [hbl] at hn hf
  exact ⟨a1, d1, b1, rfl, hbl, ⟨l1, hn, hf⟩, w0⟩
theorem mkOwn_Item {w : World} {x : DItem} {c1 : List Value} {g1 : List Nat} (O1 : (Lay.sl Lay.int).Own w c1 x.vec g1) (v0 : (Lit.int .i64 x.id).wf = true) (hn : (g1).Nodup) : Lay.tItem.Own w ([.int .i64 x.id] ++ c1) x (g1) := by
  refine ⟨⟨[.int .i64 x.id], c1, [], g1, rfl, by simp, ⟨rfl, v0, rfl⟩, O1.1⟩, hn, ?_⟩
  intro b hb o
  exact O1.2.2 b hb o

end Go.Proofs.Ytipomhpimmnchaa

namespace Go.Proofs.Ytipomhpimmnchaa
open Go.RowKit

structure DTableResult where
  code : Int
  items : List DItem

def Lay.tTableResult : Lay DTableResult := Lay.via (Lay.pair Lay.int (Lay.sl Lay.tItem)) (fun x => (x.code, x.items)) (fun p => ⟨p.1, p.2⟩)

theorem lies_TableResult {w : World} {cs : List Value} {x : DTableResult} {bl : List Nat} : Lay.tTableResult.lies w cs x bl ↔ ∃ (a1 : Option Addr) (d1 : Nat) (b1 : List Nat), cs = [.int .i64 x.code, .slice a1 x.items.length d1] ∧ bl = b1 ∧ (Lit.int .i64 x.code).wf = true ∧ (Lay.sl Lay.tItem).lies w [.slice a1 x.items.length d1] x.items b1 := by
  constructor
  · intro h
    obtain ⟨c0_, r0_, e0_, s0_, rfl, rfl, h0, h1⟩ := h
    obtain ⟨rfl, w0, rfl⟩ := h0
    have k1 := h1
    obtain ⟨a1, d1, rfl, -⟩ := k1
    exact ⟨a1, d1, s0_, by simp, by simp, w0, h1⟩
  · rintro ⟨a1, d1, b1, rfl, hbl, w0, l1⟩
    rw [hbl]
    exact ⟨[.int .i64 x.code], [.slice a1 x.items.length d1], [], b1, rfl, by simp, ⟨rfl, w0, rfl⟩, l1⟩

theorem open_TableResult {w : World} {cs : List Value} {x : DTableResult} (h : Lay.tTableResult.Reads w cs x) : ∃ (a1 : Option Addr) (d1 : Nat), cs = [.int .i64 x.code, .slice a1 x.items.length d1] ∧ (Lay.sl Lay.tItem).Reads w [.slice a1 x.items.length d1] x.items := by
  obtain ⟨bl, h⟩ := h
  obtain ⟨a1, d1, b1, rfl, -, w0, l1⟩ := lies_TableResult.1 h
  exact ⟨a1, d1, rfl, ⟨_, l1⟩⟩

end Go.Proofs.Ytipomhpimmnchaa

namespace Go.Proofs.Ytipomhpimmnchaa
open Go.RowKit

theorem vcnt_TableResult (x : DTableResult) : Lay.tTableResult.vcnt x = (Lay.sl Lay.tItem).vcnt x.items := by
  show 0 + ((Lay.sl Lay.tItem).vcnt x.items) = (Lay.sl Lay.tItem).vcnt x.items
  omega
theorem mkv_TableResult (k : Int) (x : DTableResult) : Lay.tTableResult.mkv k x = ⟨x.code, (Lay.sl Lay.tItem).mkv (k) x.items⟩ := by
  simp [Lay.tTableResult, Lay.via, Lay.pair, Lay.int]
theorem own_TableResult {w : World} {cs : List Value} {x : DTableResult} {bl : List Nat} (h : Lay.tTableResult.Own w cs x bl) : ∃ (a1 : Option Addr) (d1 : Nat) (g1 : List Nat), cs = [.int .i64 x.code, .slice a1 x.items.length d1] ∧ bl = g1 ∧ (Lay.sl Lay.tItem).Own w [.slice a1 x.items.length d1] x.items g1 ∧ (Lit.int .i64 x.code).wf = true := by
  obtain ⟨hl, hn, hf⟩ := h
  obtain ⟨a1, d1, b1, rfl, hbl, w0, l1⟩ := lies_TableResult.1 hl
  rw [hbl] at hn hf
  exact ⟨a1, d1, b1, rfl, hbl, ⟨l1, hn, hf⟩, w0⟩
theorem mkOwn_TableResult {w : World} {x : DTableResult} {c1 : List Value} {g1 : List Nat} (O1 : (Lay.sl Lay.tItem).Own w c1 x.items g1) (v0 : (Lit.int .i64 x.code).wf = true) (hn : (g1).Nodup) : Lay.tTableResult.Own w ([.int .i64 x.code] ++ c1) x (g1) := by
  refine ⟨⟨[.int .i64 x.code], c1, [], g1, rfl, by simp, ⟨rfl, v0, rfl⟩, O1.1⟩, hn, ?_⟩
  intro b hb o
  exact O1.2.2 b hb o

end Go.Proofs.Ytipomhpimmnchaa

namespace Go.Proofs.Ytipomhpimmnchaa
open Go.RowKit

structure DIntsResult where
  code : Int
  list : List Int

def Lay.tIntsResult : Lay DIntsResult := Lay.via (Lay.pair Lay.int (Lay.sl Lay.int)) (fun x => (x.code, x.list)) (fun p => ⟨p.1, p.2⟩)

theorem lies_IntsResult {w : World} {cs : List Value} {x : DIntsResult} {bl : List Nat} : Lay.tIntsResult.lies w cs x bl ↔ ∃ (a1 : Option Addr) (d1 : Nat) (b1 : List Nat), cs = [.int .i64 x.code, .slice a1 x.list.length d1] ∧ bl = b1 ∧ (Lit.int .i64 x.code).wf = true ∧ (Lay.sl Lay.int).lies w [.slice a1 x.list.length d1] x.list b1 := by
  constructor
  · intro h
    obtain ⟨c0_, r0_, e0_, s0_, rfl, rfl, h0, h1⟩ := h
    obtain ⟨rfl, w0, rfl⟩ := h0
    have k1 := h1
    obtain ⟨a1, d1, rfl, -⟩ := k1
    exact ⟨a1, d1, s0_, by simp, by simp, w0, h1⟩
  · rintro ⟨a1, d1, b1, rfl, hbl, w0, l1⟩
    rw [hbl]
    exact ⟨[.int .i64 x.code], [.slice a1 x.list.length d1], [], b1, rfl, by simp, ⟨rfl, w0, rfl⟩, l1⟩

theorem open_IntsResult {w : World} {cs : List Value} {x : DIntsResult} (h : Lay.tIntsResult.Reads w cs x) : ∃ (a1 : Option Addr) (d1 : Nat), cs = [.int .i64 x.code, .slice a1 x.list.length d1] ∧ (Lay.sl Lay.int).Reads w [.slice a1 x.list.length d1] x.list := by
  obtain ⟨bl, h⟩ := h
  obtain ⟨a1, d1, b1, rfl, -, w0, l1⟩ := lies_IntsResult.1 h
  exact ⟨a1, d1, rfl, ⟨_, l1⟩⟩

end Go.Proofs.Ytipomhpimmnchaa

namespace Go.Proofs.Ytipomhpimmnchaa
open Go.RowKit

theorem vcnt_IntsResult (x : DIntsResult) : Lay.tIntsResult.vcnt x = (Lay.sl Lay.int).vcnt x.list := by
  show 0 + ((Lay.sl Lay.int).vcnt x.list) = (Lay.sl Lay.int).vcnt x.list
  omega
theorem mkv_IntsResult (k : Int) (x : DIntsResult) : Lay.tIntsResult.mkv k x = ⟨x.code, (Lay.sl Lay.int).mkv (k) x.list⟩ := by
  simp [Lay.tIntsResult, Lay.via, Lay.pair, Lay.int]
theorem own_IntsResult {w : World} {cs : List Value} {x : DIntsResult} {bl : List Nat} (h : Lay.tIntsResult.Own w cs x bl) : ∃ (a1 : Option Addr) (d1 : Nat) (g1 : List Nat), cs = [.int .i64 x.code, .slice a1 x.list.length d1] ∧ bl = g1 ∧ (Lay.sl Lay.int).Own w [.slice a1 x.list.length d1] x.list g1 ∧ (Lit.int .i64 x.code).wf = true := by
  obtain ⟨hl, hn, hf⟩ := h
  obtain ⟨a1, d1, b1, rfl, hbl, w0, l1⟩ := lies_IntsResult.1 hl
  rw [hbl] at hn hf
  exact ⟨a1, d1, b1, rfl, hbl, ⟨l1, hn, hf⟩, w0⟩
theorem mkOwn_IntsResult {w : World} {x : DIntsResult} {c1 : List Value} {g1 : List Nat} (O1 : (Lay.sl Lay.int).Own w c1 x.list g1) (v0 : (Lit.int .i64 x.code).wf = true) (hn : (g1).Nodup) : Lay.tIntsResult.Own w ([.int .i64 x.code] ++ c1) x (g1) := by
  refine ⟨⟨[.int .i64 x.code], c1, [], g1, rfl, by simp, ⟨rfl, v0, rfl⟩, O1.1⟩, hn, ?_⟩
  intro b hb o
  exact O1.2.2 b hb o

end Go.Proofs.Ytipomhpimmnchaa

namespace Go.Proofs.Ytipomhpimmnchaa
open Go.RowKit

def idB (v : Int) : Bool := decide (1 ≤ v) && decide (v ≤ 999)
def tabFrom : Option Int → List DItem → Int
  | _, [] => 0
  | p, x :: xs => if idB x.id then (if vecFault x.vec = 0 then (if p.all (fun q => decide (q < x.id)) then tabFrom (some x.id) xs else 1) else vecFault x.vec) else 3
def tableFault (xs : List DItem) : Int := if 30 < xs.length then 2 else tabFrom none xs
/-- The Id ahead of place k. -/
def idAhead (xs : List DItem) (k : Nat) : Option Int := if k = 0 then none else (xs[k - 1]?).map (·.id)
theorem idAhead_zero (xs : List DItem) : idAhead xs 0 = none := rfl
theorem idAhead_succ (xs : List DItem) (m : Nat) (h : m < xs.length) : idAhead xs (m + 1) = some xs[m].id := by simp [idAhead, h]
theorem tabFrom_step (xs : List DItem) (k : Nat) (h : k < xs.length) : tabFrom (idAhead xs k) (xs.drop k) =
    if idB xs[k].id then (if vecFault xs[k].vec = 0 then (if (idAhead xs k).all (fun q => decide (q < xs[k].id)) then tabFrom (idAhead xs (k + 1)) (xs.drop (k + 1)) else 1) else vecFault xs[k].vec) else 3 := by
  rw [List.drop_eq_getElem_cons h, idAhead_succ xs k h]
  rfl
/-- Rising by Id, each right. -/
def Rising (xs : List DItem) : Prop := xs.Pairwise (fun a b => a.id < b.id)
theorem tabFrom_zero {p : Option Int} {xs : List DItem} (h : tabFrom p xs = 0) : (∀ x ∈ xs, idB x.id = true ∧ vecFault x.vec = 0) ∧ Rising xs ∧ ∀ q, p = some q → ∀ x ∈ xs, q < x.id := by
  induction xs generalizing p with
  | nil => exact ⟨by simp, List.Pairwise.nil, by simp⟩
  | cons x xs ih =>
    rw [tabFrom] at h
    by_cases h1 : idB x.id = true
    · rw [if_pos h1] at h
      by_cases h2 : vecFault x.vec = 0
      · rw [if_pos h2] at h
        by_cases h3 : p.all (fun q => decide (q < x.id)) = true
        · rw [if_pos h3] at h
          obtain ⟨i1, i2, i3⟩ := ih h
          refine ⟨?_, List.pairwise_cons.2 ⟨fun y hy => i3 _ rfl y hy, i2⟩, ?_⟩
          · intro y hy
            rcases List.mem_cons.1 hy with rfl | hy
            · exact ⟨h1, h2⟩
            · exact i1 y hy
          · rintro q rfl y hy
            have hq : q < x.id := by simpa using h3
            rcases List.mem_cons.1 hy with rfl | hy
            · exact hq
            · exact Int.lt_trans hq (i3 _ rfl y hy)
        · rw [if_neg h3] at h; cases h
      · rw [if_neg h2] at h; exact absurd h h2
    · rw [if_neg h1] at h; cases h
theorem tabFrom_of {p : Option Int} {xs : List DItem} (h1 : ∀ x ∈ xs, idB x.id = true ∧ vecFault x.vec = 0) (h2 : Rising xs) (h3 : ∀ q, p = some q → ∀ x ∈ xs, q < x.id) : tabFrom p xs = 0 := by
  induction xs generalizing p with
  | nil => rfl
  | cons x xs ih =>
    obtain ⟨a1, a2⟩ := h1 x (by simp)
    rw [tabFrom, if_pos a1, if_pos a2, if_pos]
    · exact ih (fun y hy => h1 y (List.mem_cons_of_mem _ hy)) (List.pairwise_cons.1 h2).2 (fun q e y hy => by cases e; exact (List.pairwise_cons.1 h2).1 y hy)
    · cases p with
      | none => rfl
      | some q => simpa using h3 q rfl x (by simp)
theorem tableFault_zero {xs : List DItem} (h : tableFault xs = 0) : xs.length ≤ 30 ∧ (∀ x ∈ xs, idB x.id = true ∧ vecFault x.vec = 0) ∧ Rising xs := by
  unfold tableFault at h
  by_cases hn : 30 < xs.length
  · rw [if_pos hn] at h; cases h
  · rw [if_neg hn] at h
    obtain ⟨a, b, -⟩ := tabFrom_zero h
    exact ⟨by omega, a, b⟩
theorem tableFault_of {xs : List DItem} (hl : xs.length ≤ 30) (h1 : ∀ x ∈ xs, idB x.id = true ∧ vecFault x.vec = 0) (h2 : Rising xs) : tableFault xs = 0 := by
  unfold tableFault
  rw [if_neg (by omega)]
  exact tabFrom_of h1 h2 (by simp)

end Go.Proofs.Ytipomhpimmnchaa

namespace Go.Proofs.Ytipomhpimmnchaa
open Go.RowKit Go.ChangeMaps Go.Maps

theorem id_wf {z : Int} (h : idB z = true) : (Lit.int .i64 z).wf = true := by
  simp only [idB, Bool.and_eq_true, decide_eq_true_eq] at h
  exact wf_of_bd (by omega)
def vecD (zs : List Int) : DataW Unit := .agg (zs.map fun z => .lit (.int .i64 z))
theorem vecD_inj {a b : List Int} (h : vecD a = vecD b) : a = b := by
  simp only [vecD, DataW.agg.injEq] at h
  induction a generalizing b with
  | nil => cases b with
    | nil => rfl
    | cons y ys => simp at h
  | cons x xs ih => cases b with
    | nil => simp at h
    | cons y ys =>
      simp only [List.map_cons, List.cons.injEq, DataW.lit.injEq, Lit.int.injEq, true_and] at h
      rw [h.1, ih h.2]
def mapL (xs : List DItem) : List (Lit × DataW Unit) := xs.map fun x => (Lit.int .i64 x.id, vecD x.vec)
def mapD (xs : List DItem) : DataW Unit := .map (mapL xs)

/-- An item among rising ones. -/
def insI (x : DItem) : List DItem → List DItem
  | [] => [x]
  | y :: r => if x.id < y.id then x :: y :: r else y :: insI x r
def dropI (xs : List DItem) (id : Int) : List DItem := xs.filter (fun x => !(x.id == id))
def putI (xs : List DItem) (id : Int) (vec : List Int) : List DItem := insI ⟨id, vec⟩ (dropI xs id)
def hasI (xs : List DItem) (id : Int) : Bool := xs.any (fun x => x.id == id)

theorem same_lit (a b : Int) : (Lit.int .i64 a).sameKey (.int .i64 b) = (a == b) := by
  by_cases h : a = b
  · subst h; simp [Lit.sameKey]
  · simp [Lit.sameKey, h]
theorem has_mapD (xs : List DItem) (id : Int) : Maps.has (mapD xs) (.int .i64 id) = hasI xs id := by
  show (mapL xs).any (fun p => p.1.sameKey (.int .i64 id)) = xs.any (fun x => x.id == id)
  rw [mapL, List.any_map]
  congr 1
  funext x
  exact same_lit _ _
theorem size_mapD (xs : List DItem) : Maps.size (mapD xs) = xs.length := by simp [mapD, mapL, Maps.size]
theorem del_mapD (xs : List DItem) (id : Int) : (mapD xs).del (.int .i64 id) = mapD (dropI xs id) := by
  show DataW.map (delKey _ (mapL xs)) = DataW.map (mapL (dropI xs id))
  congr 1
  rw [delKey, mapL, dropI, mapL, List.filter_map]
  congr 1
  refine List.filter_congr fun x _ => ?_
  show (!(Lit.int .i64 x.id).sameKey (.int .i64 id)) = !(x.id == id)
  rw [same_lit]
theorem insert_mapL (x : DItem) (xs : List DItem) : DataW.insert (Lit.int .i64 x.id, vecD x.vec) (mapL xs) = mapL (insI x xs) := by
  induction xs with
  | nil => rfl
  | cons y r ih =>
    show (if (Lit.int .i64 x.id).before (.int .i64 y.id) then _ else _) = _
    rw [insI]
    by_cases h : x.id < y.id
    · rw [if_pos (by simpa [Lit.before] using h), if_pos h]; rfl
    · rw [if_neg (by simpa [Lit.before] using h), if_neg h]
      show _ :: DataW.insert _ (mapL r) = _
      rw [ih]; rfl
theorem put_mapD (xs : List DItem) (id : Int) (vec : List Int) : (mapD xs).put (.int .i64 id) (vecD vec) = mapD (putI xs id vec) := by
  show DataW.map (DataW.insert _ (delKey _ (mapL xs))) = _
  have h := del_mapD xs id
  have h2 : delKey (.int .i64 id) (mapL xs) = mapL (dropI xs id) := by
    have : DataW.map (delKey (.int .i64 id) (mapL xs)) = DataW.map (mapL (dropI xs id)) := h
    simpa using this
  rw [h2, insert_mapL ⟨id, vec⟩]
  rfl
theorem apart_mapL {xs : List DItem} (h : Rising xs) : (mapL xs).Pairwise (fun p q => p.1 ≠ q.1) := by
  refine List.pairwise_map.2 (h.imp fun {a b} hab e => ?_)
  simp only [Lit.int.injEq, true_and] at e
  omega
theorem at_mapD {xs : List DItem} (h : Rising xs) {x : DItem} (hx : x ∈ xs) (z : DataW Unit) : (mapD xs).atKey (.int .i64 x.id) z = vecD x.vec :=
  WideAt.atKey_mem z trivial (apart_mapL h) (List.mem_map.2 ⟨x, hx, rfl⟩)

/-! ### Rising lists -/
theorem hasI_true {xs : List DItem} {id : Int} (h : hasI xs id = true) : ∃ x ∈ xs, x.id = id := by
  simpa [hasI] using h
theorem hasI_false {xs : List DItem} {id : Int} (h : hasI xs id = false) : ∀ x ∈ xs, x.id ≠ id := by
  simpa [hasI] using h
theorem insI_last (x : DItem) (xs : List DItem) (h : ∀ y ∈ xs, y.id < x.id) : insI x xs = xs ++ [x] := by
  induction xs with
  | nil => rfl
  | cons y r ih =>
    have := h y (by simp)
    rw [insI, if_neg (by omega), ih fun z hz => h z (List.mem_cons_of_mem _ hz)]
    rfl
theorem dropI_none {xs : List DItem} {id : Int} (h : ∀ x ∈ xs, x.id ≠ id) : dropI xs id = xs :=
  List.filter_eq_self.2 fun x hx => by simpa using h x hx
theorem putI_last (xs : List DItem) (x : DItem) (h : ∀ y ∈ xs, y.id < x.id) : putI xs x.id x.vec = xs ++ [x] := by
  rw [putI, dropI_none (fun y hy => by have := h y hy; omega), insI_last _ _ h]
theorem rising_take {xs : List DItem} (h : Rising xs) {k : Nat} (hk : k < xs.length) : ∀ y ∈ xs.take k, y.id < xs[k].id := by
  intro y hy
  obtain ⟨j, hj, rfl⟩ := List.getElem_of_mem hy
  rw [List.length_take] at hj
  rw [List.getElem_take]
  exact List.pairwise_iff_getElem.1 h j k (by omega) hk (by omega)
theorem mem_insI {x y : DItem} {xs : List DItem} : y ∈ insI x xs ↔ y = x ∨ y ∈ xs := by
  induction xs with
  | nil => simp [insI]
  | cons z r ih =>
    rw [insI]
    by_cases h : x.id < z.id
    · rw [if_pos h]; simp
    · rw [if_neg h, List.mem_cons, ih, List.mem_cons]
      constructor
      · rintro (h | h | h) <;> simp [h]
      · rintro (h | h | h) <;> simp [h]
theorem insI_rising {x : DItem} {xs : List DItem} (h : Rising xs) (hn : ∀ y ∈ xs, y.id ≠ x.id) : Rising (insI x xs) := by
  induction xs with
  | nil => exact List.pairwise_singleton _ _
  | cons z r ih =>
    obtain ⟨h1, h2⟩ := List.pairwise_cons.1 h
    have hz := hn z (by simp)
    rw [insI]
    by_cases hlt : x.id < z.id
    · rw [if_pos hlt]
      refine List.pairwise_cons.2 ⟨fun y hy => ?_, h⟩
      rcases List.mem_cons.1 hy with rfl | hy
      · exact hlt
      · exact Int.lt_trans hlt (h1 y hy)
    · rw [if_neg hlt]
      refine List.pairwise_cons.2 ⟨fun y hy => ?_, ih h2 fun y hy => hn y (List.mem_cons_of_mem _ hy)⟩
      rcases mem_insI.1 hy with rfl | hy
      · omega
      · exact h1 y hy
theorem insI_len (x : DItem) (xs : List DItem) : (insI x xs).length = xs.length + 1 := by
  induction xs with
  | nil => rfl
  | cons z r ih =>
    rw [insI]
    by_cases h : x.id < z.id
    · rw [if_pos h]; rfl
    · rw [if_neg h, List.length_cons, ih]; rfl
theorem dropI_rising {xs : List DItem} (h : Rising xs) (id : Int) : Rising (dropI xs id) := h.filter _
theorem mem_dropI {xs : List DItem} {id : Int} {x : DItem} : x ∈ dropI xs id ↔ x ∈ xs ∧ x.id ≠ id := by simp [dropI]
theorem putI_rising {xs : List DItem} (h : Rising xs) (id : Int) (vec : List Int) : Rising (putI xs id vec) := insI_rising (dropI_rising h id) fun _ hy => (mem_dropI.1 hy).2
theorem mem_putI {xs : List DItem} {id : Int} {vec : List Int} {x : DItem} : x ∈ putI xs id vec ↔ x = ⟨id, vec⟩ ∨ (x ∈ xs ∧ x.id ≠ id) := by rw [putI, mem_insI, mem_dropI]
theorem dropI_len {xs : List DItem} (h : Rising xs) {id : Int} (hi : hasI xs id = true) : (dropI xs id).length + 1 = xs.length := by
  induction xs with
  | nil => simp [hasI] at hi
  | cons z r ih =>
    obtain ⟨h1, h2⟩ := List.pairwise_cons.1 h
    by_cases e : z.id = id
    · have : dropI (z :: r) id = r := by
        have hr := dropI_none (xs := r) (id := id) (fun x hx => by have := h1 x hx; omega)
        simp only [dropI, List.filter_cons, e, beq_self_eq_true, Bool.not_true, Bool.false_eq_true, if_false]
        exact hr
      rw [this]; rfl
    · have hi2 : hasI r id = true := by simpa [hasI, e] using hi
      have : dropI (z :: r) id = z :: dropI r id := by simp [dropI, e]
      rw [this, List.length_cons, List.length_cons, ih h2 hi2]
theorem dropI_le (xs : List DItem) (id : Int) : (dropI xs id).length ≤ xs.length := List.length_filter_le _ _
theorem putI_len {xs : List DItem} (h : Rising xs) (id : Int) (vec : List Int) : (putI xs id vec).length = if hasI xs id then xs.length else xs.length + 1 := by
  rw [putI, insI_len]
  by_cases hi : hasI xs id = true
  · rw [if_pos hi]; exact dropI_len h hi
  · rw [if_neg hi, dropI_none (hasI_false (by simpa using hi))]
/-- A right table. -/
def Right (xs : List DItem) : Prop := tableFault xs = 0
theorem right_put {xs : List DItem} (h : Right xs) {id : Int} {vec : List Int} (hi : idB id = true) (hv : vecFault vec = 0) (hroom : hasI xs id = true ∨ xs.length < 30) : Right (putI xs id vec) := by
  obtain ⟨hl, h1, h2⟩ := tableFault_zero h
  refine tableFault_of ?_ (fun x hx => ?_) (putI_rising h2 id vec)
  · rw [putI_len h2]; split
    · exact hl
    · rename_i hn; rcases hroom with h | h
      · exact absurd h hn
      · omega
  · rcases mem_putI.1 hx with rfl | ⟨hx, -⟩
    · exact ⟨hi, hv⟩
    · exact h1 x hx
theorem right_drop {xs : List DItem} (h : Right xs) (id : Int) : Right (dropI xs id) := by
  obtain ⟨hl, h1, h2⟩ := tableFault_zero h
  exact tableFault_of (Nat.le_trans (dropI_le xs id) hl) (fun x hx => h1 x (mem_dropI.1 hx).1) (dropI_rising h2 id)
theorem right_nil : Right [] := rfl

end Go.Proofs.Ytipomhpimmnchaa

namespace Go.Proofs.Ytipomhpimmnchaa
open Go.RowKit

def pickI : Option DItem → DIntsResult
  | some x => ⟨0, x.vec⟩
  | none => ⟨4, []⟩
def getI (xs : List DItem) (id : Int) : DIntsResult :=
  if tableFault xs = 0 then (if idB id then pickI (xs.find? (fun x => x.id == id)) else ⟨3, []⟩) else ⟨tableFault xs, []⟩
theorem tabFrom_vals (p : Option Int) (xs : List DItem) : 0 ≤ tabFrom p xs ∧ tabFrom p xs ≤ 3 := by
  induction xs generalizing p with
  | nil => exact ⟨Int.le_refl _, (show (0 : Int) ≤ 3 by decide)⟩
  | cons x xs ih =>
    rw [tabFrom]
    have hv : 0 ≤ vecFault x.vec ∧ vecFault x.vec ≤ 3 := by unfold vecFault; split <;> (try split) <;> decide
    split
    · split
      · split
        · exact ih _
        · decide
      · exact hv
    · decide
theorem tableFault_vals (xs : List DItem) : 0 ≤ tableFault xs ∧ tableFault xs ≤ 3 := by
  unfold tableFault
  split
  · decide
  · exact tabFrom_vals none xs
theorem code_wf (xs : List DItem) : (Lit.int .i64 (tableFault xs)).wf = true := wf_of_bd (by have := tableFault_vals xs; omega)
theorem own_ints {w : World} {c : Int} {v : Value} {zs : List Int} {lo hi : Nat} (hc : (Lit.int .i64 c).wf = true) (h : (Lay.sl Lay.int).OwnIn w [v] zs lo hi) : Lay.tIntsResult.OwnIn w [.int .i64 c, v] ⟨c, zs⟩ lo hi := by
  obtain ⟨bl, ⟨l, n, f⟩, i⟩ := h
  exact ⟨bl, ⟨⟨[.int .i64 c], [v], [], bl, rfl, by simp, ⟨rfl, hc, rfl⟩, l⟩, n, f⟩, i⟩
theorem own_noInts {w : World} {lo hi : Nat} : (Lay.sl Lay.int).OwnIn w [.slice none 0 0] [] lo hi := ⟨[], ⟨Lay.lies_ints.2 ⟨none, 0, rfl, by simp, by simp, Or.inl ⟨rfl, rfl⟩⟩, by simp, by simp⟩, by simp⟩
theorem own_codeInts {w : World} {c : Int} {lo hi : Nat} (hc : (Lit.int .i64 c).wf = true) : Lay.tIntsResult.OwnIn w [.int .i64 c, .slice none 0 0] ⟨c, []⟩ lo hi := own_ints hc own_noInts
theorem find_at {xs : List DItem} {id : Int} {x : DItem} (h : xs.find? (fun x => x.id == id) = some x) : x ∈ xs ∧ x.id = id := ⟨List.mem_of_find?_eq_some h, by simpa using List.find?_some h⟩
theorem find_none {xs : List DItem} {id : Int} (h : xs.find? (fun x => x.id == id) = none) : hasI xs id = false := by
  rw [List.find?_eq_none] at h
  simpa [hasI] using h

end Go.Proofs.Ytipomhpimmnchaa

namespace Go.Proofs.Ytipomhpimmnchaa
open Go.RowKit

def roomB (xs : List DItem) (id : Int) : Bool := hasI xs id || decide (xs.length < 30)
def putR (xs : List DItem) (id : Int) (vec : List Int) : DTableResult :=
  if tableFault xs = 0 then (if idB id then (if vecFault vec = 0 then (if roomB xs id then ⟨0, putI xs id vec⟩ else ⟨2, []⟩) else ⟨vecFault vec, []⟩) else ⟨3, []⟩) else ⟨tableFault xs, []⟩
def dropR (xs : List DItem) (id : Int) : DTableResult :=
  if tableFault xs = 0 then (if idB id then ⟨0, dropI xs id⟩ else ⟨3, []⟩) else ⟨tableFault xs, []⟩
theorem vecFault_vals (zs : List Int) : 0 ≤ vecFault zs ∧ vecFault zs ≤ 3 := by unfold vecFault; split <;> (try split) <;> decide
theorem vcode_wf (zs : List Int) : (Lit.int .i64 (vecFault zs)).wf = true := wf_of_bd (by have := vecFault_vals zs; omega)
theorem own_items {w : World} {c : Int} {v : Value} {xs : List DItem} {lo hi : Nat} (hc : (Lit.int .i64 c).wf = true) (h : (Lay.sl Lay.tItem).OwnIn w [v] xs lo hi) : Lay.tTableResult.OwnIn w [.int .i64 c, v] ⟨c, xs⟩ lo hi := by
  obtain ⟨bl, ⟨l, n, f⟩, i⟩ := h
  exact ⟨bl, ⟨⟨[.int .i64 c], [v], [], bl, rfl, by simp, ⟨rfl, hc, rfl⟩, l⟩, n, f⟩, i⟩
theorem reads_items {w : World} {c : Int} {v : Value} {xs : List DItem} (hc : (Lit.int .i64 c).wf = true) (h : (Lay.sl Lay.tItem).Reads w [v] xs) : Lay.tTableResult.Reads w [.int .i64 c, v] ⟨c, xs⟩ := by
  obtain ⟨bl, l⟩ := h
  exact ⟨bl, ⟨[.int .i64 c], [v], [], bl, rfl, by simp, ⟨rfl, hc, rfl⟩, l⟩⟩
theorem own_noItems {w : World} {lo hi : Nat} : (Lay.sl Lay.tItem).OwnIn w [.slice none 0 0] [] lo hi := ⟨[], ⟨⟨none, 0, rfl, by simp, Or.inl ⟨rfl, rfl⟩⟩, by simp, by simp⟩, by simp⟩
theorem own_codeItems {w : World} {c : Int} {lo hi : Nat} (hc : (Lit.int .i64 c).wf = true) : Lay.tTableResult.OwnIn w [.int .i64 c, .slice none 0 0] ⟨c, []⟩ lo hi := own_items hc own_noItems
theorem room_true {xs : List DItem} {id : Int} (h : roomB xs id = true) : hasI xs id = true ∨ xs.length < 30 := by simpa [roomB] using h
theorem room_false {xs : List DItem} {id : Int} (h : roomB xs id = false) : hasI xs id = false ∧ 30 ≤ xs.length := by simpa [roomB] using h
theorem right_of {xs : List DItem} (h : tableFault xs = 0) : Right xs := h
/-- Of a right table: how many marks. -/
theorem right_few {xs : List DItem} (h : Right xs) : cntAll Lay.tItem.cnt xs ≤ 1000 := by
  obtain ⟨hl, ha, -⟩ := tableFault_zero h
  have : ∀ ys : List DItem, (∀ x ∈ ys, x.vec.length = 3) → cntAll Lay.tItem.cnt ys ≤ 4 * ys.length := by
    intro ys
    induction ys with
    | nil => intro _; exact Nat.le_refl _
    | cons y ys ih =>
      intro hy
      have h1 := ih fun x hx => hy x (List.mem_cons_of_mem _ hx)
      have h2 : Lay.tItem.cnt y = 4 := by
        show 1 + (Lay.sl Lay.int).cnt y.vec = 4
        have e := hy y (by simp)
        have : cntAll (fun _ => 1) y.vec = y.vec.length := by
          generalize y.vec = zs
          induction zs with
          | nil => rfl
          | cons z zs ih => simp [cntAll, ih]; omega
        show 1 + cntAll (fun _ => 1) y.vec = 4
        omega
      simp only [cntAll, List.length_cons]
      omega
  have := this xs fun x hx => (vecFault_zero (ha x hx).2).1
  omega

end Go.Proofs.Ytipomhpimmnchaa

namespace Go.Proofs.Ytipomhpimmnchaa
open Go.RowKit

/-- Ahead of item x: the new one, if its turn has come. -/
def setNew (nw : DItem) (st : List DItem × Bool) (x : DItem) : List DItem × Bool := if st.2 = false ∧ nw.id ≤ x.id then (st.1 ++ [nw], true) else st
def setOld (nw : DItem) (st : List DItem × Bool) (x : DItem) : List DItem × Bool := if x.id = nw.id then st else (st.1 ++ [x], st.2)
def setStep (nw : DItem) (st : List DItem × Bool) (x : DItem) : List DItem × Bool := setOld nw (setNew nw st x) x
def setFin (nw : DItem) (st : List DItem × Bool) : List DItem := if st.2 then st.1 else st.1 ++ [nw]
def setM (xs : List DItem) (nw : DItem) (has : Bool) : List DItem := setFin nw (xs.foldl (setStep nw) ([], !has))

theorem step_done (nw : DItem) (acc : List DItem) (xs : List DItem) : xs.foldl (setStep nw) (acc, true) = (acc ++ dropI xs nw.id, true) := by
  induction xs generalizing acc with
  | nil => simp [dropI]
  | cons y r ih =>
    rw [List.foldl_cons]
    have e1 : setNew nw (acc, true) y = (acc, true) := by simp [setNew]
    by_cases h : y.id = nw.id
    · have : setStep nw (acc, true) y = (acc, true) := by rw [setStep, e1, setOld, if_pos h]
      rw [this, ih]
      simp [dropI, h]
    · have : setStep nw (acc, true) y = (acc ++ [y], true) := by rw [setStep, e1, setOld, if_neg h]
      rw [this, ih]
      simp [dropI, h]
theorem insI_first (nw : DItem) (xs : List DItem) (h : ∀ y ∈ xs, nw.id < y.id) : insI nw xs = nw :: xs := by
  cases xs with
  | nil => rfl
  | cons y r => rw [insI, if_pos (h y (by simp))]
theorem step_put (nw : DItem) (acc : List DItem) (xs : List DItem) (hr : Rising xs) : setFin nw (xs.foldl (setStep nw) (acc, false)) = acc ++ putI xs nw.id nw.vec := by
  induction xs generalizing acc with
  | nil => simp [setFin, putI, dropI, insI]
  | cons y r ih =>
    obtain ⟨h1, h2⟩ := List.pairwise_cons.1 hr
    rw [List.foldl_cons]
    by_cases hle : nw.id ≤ y.id
    · have e1 : setNew nw (acc, false) y = (acc ++ [nw], true) := by simp [setNew, hle]
      by_cases h : y.id = nw.id
      · have : setStep nw (acc, false) y = (acc ++ [nw], true) := by rw [setStep, e1, setOld, if_pos h]
        rw [this, step_done, setFin]
        have e2 : dropI (y :: r) nw.id = dropI r nw.id := by simp [dropI, h]
        rw [putI, e2, insI_first _ _ (fun z hz => by have := h1 z (mem_dropI.1 hz).1; show nw.id < z.id; omega)]
        simp
      · have : setStep nw (acc, false) y = (acc ++ [nw] ++ [y], true) := by rw [setStep, e1, setOld, if_neg h]
        rw [this, step_done, setFin]
        have e2 : dropI (y :: r) nw.id = y :: dropI r nw.id := by simp [dropI, h]
        rw [putI, e2, insI, if_pos (show nw.id < y.id by omega)]
        simp
    · have e1 : setNew nw (acc, false) y = (acc, false) := by simp [setNew, hle]
      have h : y.id ≠ nw.id := by omega
      have : setStep nw (acc, false) y = (acc ++ [y], false) := by rw [setStep, e1, setOld, if_neg h]
      rw [this, ih _ h2]
      have e2 : dropI (y :: r) nw.id = y :: dropI r nw.id := by simp [dropI, h]
      rw [putI, putI, e2, insI, if_neg (show ¬ nw.id < y.id by omega)]
      simp
theorem setM_put {xs : List DItem} (hr : Rising xs) (nw : DItem) : setM xs nw true = putI xs nw.id nw.vec := by
  have := step_put nw [] xs hr
  simpa [setM] using this
theorem setM_drop (xs : List DItem) (nw : DItem) : setM xs nw false = dropI xs nw.id := by
  have := step_done nw [] xs
  simp only [setM, Bool.not_false]
  rw [this]
  simp [setFin]
theorem setM_len (nw : DItem) (st : List DItem × Bool) (x : DItem) : (setStep nw st x).1.length ≤ st.1.length + 2 := by
  unfold setStep setOld setNew
  split <;> split <;> simp <;> omega

theorem setM_size (xs : List DItem) (nw : DItem) (has : Bool) : (setM xs nw has).length ≤ 2 * xs.length + 1 := by
  have : ∀ (ys : List DItem) (st : List DItem × Bool), (ys.foldl (setStep nw) st).1.length ≤ st.1.length + 2 * ys.length := by
    intro ys
    induction ys with
    | nil => intro st; simp
    | cons y ys ih =>
      intro st
      have h1 := ih (setStep nw st y)
      have h2 := setM_len nw st y
      simp only [List.foldl_cons, List.length_cons]
      omega
  have h := this xs ([], !has)
  unfold setM setFin
  split
  · simp at h; omega
  · simp at h ⊢; omega

end Go.Proofs.Ytipomhpimmnchaa

namespace Go.Proofs.Ytipomhpimmnchaa
open Go.RowKit

theorem grown_onW {a b c : World} {s : Option Nat} (h : a.grownBy b s) (k : Below b.heap.size b c) : a.grownBy c s :=
  ⟨k.os.trans h.os, k.tape.trans h.tape, k.output.trans h.output, Nat.le_trans h.size k.size, fun i hi hn => (k.block i (Nat.lt_of_lt_of_le hi h.size)).trans (h.block i hi hn)⟩
theorem SrcAt.onW {w w' : World} {b m : Nat} {cv : Value} (h : SrcAt w b cv m) (hb : Below w.heap.size w w') : SrcAt w' b cv m := (hb.block b h.lt).trans h
theorem IsCode.onW {B : Nat} {w w' : World} {cv : Value} (h : IsCode B w cv) (hB : B ≤ w.heap.size) (hb : Below w.heap.size w w') : IsCode B w' cv := h.later (hb.mono hB)
theorem ext_grown {w w' : World} {b : Nat} (h : w.grownBy w' (some b)) : Ext (fun q => q = b) w w' := ⟨h.os, h.tape, h.output, h.size, fun k hk hn => h.block k hk (fun e => hn (Option.some.inj e))⟩
theorem grown_ext {w w' : World} {b : Nat} (e : Ext (fun q => q = b) w w') : w.grownBy w' (some b) := ⟨e.os, e.tape, e.output, e.size, fun i hi hn => e.block i hi fun h => hn (by rw [h])⟩
theorem SrcAt.extW {S : Nat → Prop} {w w' : World} {b m : Nat} {cv : Value} (h : SrcAt w b cv m) (e : Ext S w w') (hb : ¬ S b) : SrcAt w' b cv m := (e.block b h.lt hb).trans h
theorem IsCode.extW {S : Nat → Prop} {B : Nat} {w w' : World} {cv : Value} (h : IsCode B w cv) (hB : B ≤ w.heap.size) (e : Ext S w w') (hs : ∀ k, k < B → ¬ S k) : IsCode B w' cv := h.later (e.below hB hs)
/-- Some write of the draw's own; the source has gone on. -/
def WritePost (b m : Nat) (cv : Value) (w : World) (e : Ending) (w' : World) : Prop :=
  ∃ (cs : List Value) (x : DWrite) (bl : List Nat) (m' : Nat), e = .returned (.agg cs.toArray) ∧ Lay.tWrite.lies w' cs x bl ∧ (∀ c ∈ bl, w.heap.size ≤ c ∧ c < w'.heap.size) ∧ SrcAt w' b cv m' ∧ m' ≤ m + 100 ∧ IsCode b w' cv ∧ w.grownBy w' (some b)

theorem closeW {b m m' s : Nat} {cv : Value} {w W F : World} {cs : List Value} {x : DWrite} {bl : List Nat} (hE : Ext (fun q => q = b ∨ w.heap.size ≤ q) w W) (hF : Ext (fun q => q = s ∨ q = w.heap.size) W F) (hs : w.heap.size ≤ s) (hb : b < w.heap.size)
    (hS : SrcAt W b cv m') (hC : IsCode b W cv) (hm : m' ≤ m + 100) (hl : Lay.tWrite.lies W cs x bl) (hbl : ∀ c ∈ bl, w.heap.size < c ∧ c ≠ s) : WritePost b m cv w (.returned (.agg cs.toArray)) F := by
  have hz := hE.size
  refine ⟨cs, x, bl, m', rfl, Lay.tWrite.keep hl fun c hc => hF.block c (Lay.tWrite.lt hl c hc) (fun e => ?_), fun c hc => ⟨by have := hbl c hc; omega, Nat.lt_of_lt_of_le (Lay.tWrite.lt hl c hc) hF.size⟩, hS.extW hF (fun e => by omega), hm, hC.extW (by omega) hF (fun k hk e => by omega), ?_⟩
  · have := hbl c hc
    omega
  · exact ⟨hF.os.trans hE.os, hF.tape.trans hE.tape, hF.output.trans hE.output, Nat.le_trans hE.size hF.size, fun i hi hn => (hF.block i (by omega) (fun e => by omega)).trans (hE.block i hi (fun e => by
      rcases e with e | e
      · exact hn (by rw [e])
      · omega))⟩

set_option maxRecDepth 10000 in
set_option maxHeartbeats 1000000 in
theorem drawWrite (b m : Nat) (cv : Value) (w : World) (hs : SrcAt w b cv m) (hc : IsCode b w cv) (hm : m ≤ 1000000) :
    Calls Try.prog 91 #[.pointer (some ⟨b, 0, none⟩)] w (WritePost b m cv w) := by
  have hbw := hs.lt
  have nb : Below w.heap.size w ((w.alloc (.cells #[.int .i64 0, .int .i64 0, .slice none 0 0, .int .i64 0, .int .i64 0] 58)).alloc (.cells #[.int .i64 1, .int .i64 1, .int .i64 1, .int .i64 2] 2)) := ((Below.refl _ _).alloc (Nat.le_refl _) _).alloc (by simp) _
  have bR : Box w.heap.size #[.int .i64 0, .int .i64 0, .slice none 0 0, .int .i64 0, .int .i64 0] 58 ((w.alloc (.cells #[.int .i64 0, .int .i64 0, .slice none 0 0, .int .i64 0, .int .i64 0] 58)).alloc (.cells #[.int .i64 1, .int .i64 1, .int .i64 1, .int .i64 2] 2)) w.heap.size := (newBox (Nat.le_refl _)).grow _
  have bP : Box w.heap.size #[.int .i64 1, .int .i64 1, .int .i64 1, .int .i64 2] 2 ((w.alloc (.cells #[.int .i64 0, .int .i64 0, .slice none 0 0, .int .i64 0, .int .i64 0] 58)).alloc (.cells #[.int .i64 1, .int .i64 1, .int .i64 1, .int .i64 2] 2)) (w.heap.size + 1) := newBoxAt (by omega) (by simp)
  have s0 := hs.onW nb
  have c0 := hc.onW (Nat.le_of_lt hbw) nb
  clear hs hc
  go_enter Try.func91, Try.ntmps91
  go_wp2_with fail
  generalize (w.alloc (.cells #[.int .i64 0, .int .i64 0, .slice none 0 0, .int .i64 0, .int .i64 0] 58)).alloc (.cells #[.int .i64 1, .int .i64 1, .int .i64 1, .int .i64 2] 2) = W0 at *
  refine (pick b m (w.heap.size + 1) cv [1, 1, 1, 2] W0 s0 c0 (by omega) (by simp) (by simp) bP.2 (by omega)).mono ?_
  rintro e w1 ⟨r, rfl, hr, s1, c1, g1⟩
  have hr2 : r = 1 ∨ r = 2 := by simpa using hr
  have E1 : Ext (fun q => q = b ∨ w.heap.size ≤ q) w w1 := (ext_of_below nb _).trans ((ext_grown g1).mono fun k _ h => Or.inl h)
  have bR1 := bR.ext (ext_grown g1) (by omega)
  have HE := hide E1
  have HR := hide bR1
  have HS := hide s1
  have HC := hide c1
  clear nb bR bP s0 c0 s1 c1 g1 E1 bR1 hr
  have L := hide (next b (m + 1) cv 5 w1 (unhide HS) (unhide HC) (by omega) (by omega) (by omega))
  go_wp2_with fail
  refine (unhide L).mono ?_
  rintro e w2 ⟨i, rfl, hi, s2, c2, g2⟩
  replace HE := hide ((unhide HE).trans ((ext_grown g2).mono fun k _ h => Or.inl h))
  replace HR := hide ((unhide HR).ext (ext_grown g2) (by omega))
  replace HS := hide s2
  replace HC := hide c2
  clear s2 c2 g2 L
  have L := hide (next b (m + 1 + 1) cv 3 w2 (unhide HS) (unhide HC) (by omega) (by omega) (by omega))
  go_wp2_with fail
  refine (unhide L).mono ?_
  rintro e w3 ⟨s, rfl, hss, s3, c3, g3⟩
  replace HE := hide ((unhide HE).trans ((ext_grown g3).mono fun k _ h => Or.inl h))
  replace HR := hide ((unhide HR).ext (ext_grown g3) (by omega))
  replace HS := hide s3
  replace HC := hide c3
  clear s3 c3 g3 L
  have L := hide (next b (m + 1 + 1 + 1) cv 9 w3 (unhide HS) (unhide HC) (by omega) (by omega) (by omega))
  go_wp2_with fail
  refine (unhide L).mono ?_
  rintro e w4 ⟨q, rfl, hq, s4, c4, g4⟩
  replace HE := hide ((unhide HE).trans ((ext_grown g4).mono fun k _ h => Or.inl h))
  replace HR := hide ((unhide HR).ext (ext_grown g4) (by omega))
  replace HS := hide s4
  replace HC := hide c4
  clear s4 c4 g4 L
  have hz4 : w.heap.size < w4.heap.size := (unhide HR).lt
  have nb : Below w4.heap.size w4 (w4.alloc (.cells #[.int .i64 r, .int .i64 (1 + i), .slice none 0 0, .int .i64 (1 + s), .int .i64 (1 + q)] 58)) := (Below.refl _ _).alloc (Nat.le_refl _) _
  have bX : Box w4.heap.size #[.int .i64 r, .int .i64 (1 + i), .slice none 0 0, .int .i64 (1 + s), .int .i64 (1 + q)] 58 (w4.alloc (.cells #[.int .i64 r, .int .i64 (1 + i), .slice none 0 0, .int .i64 (1 + s), .int .i64 (1 + q)] 58)) w4.heap.size := newBox (Nat.le_refl _)
  rcases hr2 with rfl | rfl
  · have L := hide (draw b (m + 1 + 1 + 1 + 1) cv _ ((unhide HS).onW nb) ((unhide HC).onW (by omega) nb) (by omega))
    have HE5 := hide ((unhide HE).trans (ext_of_below nb _))
    have HR5 := hide ((unhide HR).keep nb)
    have HX5 := hide bX
    have HNB := hide nb.size
    clear nb bX HE HR HS HC
    go_wp2_with fail
    refine (unhide L).mono ?_
    generalize w4.alloc (.cells #[.int .i64 1, .int .i64 (1 + i), .slice none 0 0, .int .i64 (1 + s), .int .i64 (1 + q)] 58) = W5 at *
    rintro e w6 ⟨v, ds, rfl, hd3, hdr, hod, s6, c6, g6⟩
    rw [← hd3] at hod
    have hdw : ∀ z ∈ ds, (Lit.int .i64 z).wf = true := fun z hz => wf_of_bd (by have := hdr z hz; omega)
    have hO := Lay.ownInts hdw (by omega) hod
    obtain ⟨ao, cp, rfl⟩ := open_sl hO.reads
    have bX := (unhide HX5).ext (ext_grown g6) (by omega)
    have bR := (unhide HR5).ext (ext_grown g6) (by omega)
    have E6 := (unhide HE5).trans ((ext_grown g6).mono fun k _ h => Or.inl h)
    have hX0 := (unhide HX5).lt
    have x0 : w6.cell? ⟨w4.heap.size, 0, none⟩ = some (.int .i64 1) := bX.at 0 _ rfl
    have x1 : w6.cell? ⟨w4.heap.size, 1, none⟩ = some (.int .i64 (1 + i)) := bX.at 1 _ rfl
    have x2 : w6.cell? ⟨w4.heap.size, 2, none⟩ = some (.slice none 0 0) := bX.at 2 _ rfl
    have x3 : w6.cell? ⟨w4.heap.size, 3, none⟩ = some (.int .i64 (1 + s)) := bX.at 3 _ rfl
    have x4 : w6.cell? ⟨w4.heap.size, 4, none⟩ = some (.int .i64 (1 + q)) := bX.at 4 _ rfl
    have xf := bX.soft
    have xl := bX.lt
    have z0 : w6.cell? ⟨w.heap.size, 0, none⟩ = some (.int .i64 0) := bR.at 0 _ rfl
    have z1 : w6.cell? ⟨w.heap.size, 1, none⟩ = some (.int .i64 0) := bR.at 1 _ rfl
    have z2 : w6.cell? ⟨w.heap.size, 2, none⟩ = some (.slice none 0 0) := bR.at 2 _ rfl
    have z3 : w6.cell? ⟨w.heap.size, 3, none⟩ = some (.int .i64 0) := bR.at 3 _ rfl
    have z4 : w6.cell? ⟨w.heap.size, 4, none⟩ = some (.int .i64 0) := bR.at 4 _ rfl
    have zf := bR.soft
    have zl := bR.lt
    have HO := hide hO
    have HX := hide bX
    have HR := hide bR
    have HE := hide E6
    have HS := hide s6
    have HC := hide c6
    clear hod hdr hO bX bR E6 s6 c6 g6 L HE5 HR5 HX5 hdw
    go_wp2_with fail
    have hE9 : ∀ u0 u1 u2 u3 u4 u5, Ext (fun c => c = w4.heap.size ∨ c = w.heap.size) w6 ((((((w6.setCell ⟨w4.heap.size, 2, none⟩ u0).setCell ⟨w.heap.size, 0, none⟩ u1).setCell ⟨w.heap.size, 1, none⟩ u2).setCell ⟨w.heap.size, 2, none⟩ u3).setCell ⟨w.heap.size, 3, none⟩ u4).setCell ⟨w.heap.size, 4, none⟩ u5) := fun u0 u1 u2 u3 u4 u5 => ((((((Ext.refl _ _).setCell _ _ (Or.inl rfl)).setCell _ _ (Or.inr rfl)).setCell _ _ (Or.inr rfl)).setCell _ _ (Or.inr rfl)).setCell _ _ (Or.inr rfl)).setCell _ _ (Or.inr rfl)
    obtain ⟨bl, ⟨hl, -, -⟩, hbl⟩ := unhide HO
    have hlw : Lay.tWrite.lies w6 [.int .i64 1, .int .i64 (1 + i), .slice ao 3 cp, .int .i64 (1 + s), .int .i64 (1 + q)] ⟨1, 1 + (i : Int), ds, 1 + (s : Int), 1 + (q : Int)⟩ bl := by
      refine lies_Write.2 ⟨ao, cp, bl, by rw [hd3], rfl, (show (Lit.int .i64 (1)).wf = true from wf_of_bd (by omega)), (show (Lit.int .i64 (1 + (i : Int))).wf = true from wf_of_bd (by omega)), ?_, (show (Lit.int .i64 (1 + (s : Int))).wf = true from wf_of_bd (by omega)), (show (Lit.int .i64 (1 + (q : Int))).wf = true from wf_of_bd (by omega))⟩
      exact hl
    refine bodyPost_ret (v := .agg #[.int .i64 1, .int .i64 (1 + i), .slice ao 3 cp, .int .i64 (1 + s), .int .i64 (1 + q)]) (by simp [results, Try.results91, go_sem, z0, z1, z2, z3, z4]) rfl ?_
    exact closeW (unhide HE) (hE9 _ _ _ _ _ _) (Nat.le_of_lt hz4) hbw (unhide HS) (unhide HC) (by omega) hlw (fun c hc => by have := hbl c hc; omega)
  · have HE4 := HE
    have HS4 := HS
    have HC4 := HC
    clear bX nb
    have z0 : w4.cell? ⟨w.heap.size, 0, none⟩ = some (.int .i64 0) := (unhide HR).at 0 _ rfl
    have z1 : w4.cell? ⟨w.heap.size, 1, none⟩ = some (.int .i64 0) := (unhide HR).at 1 _ rfl
    have z2 : w4.cell? ⟨w.heap.size, 2, none⟩ = some (.slice none 0 0) := (unhide HR).at 2 _ rfl
    have z3 : w4.cell? ⟨w.heap.size, 3, none⟩ = some (.int .i64 0) := (unhide HR).at 3 _ rfl
    have z4 : w4.cell? ⟨w.heap.size, 4, none⟩ = some (.int .i64 0) := (unhide HR).at 4 _ rfl
    have zf := (unhide HR).soft
    have y0 : ∀ u0 u1 u2 u3 u4 o, ((((((w4.setCell ⟨w.heap.size, 0, none⟩ u0).setCell ⟨w.heap.size, 1, none⟩ u1).setCell ⟨w.heap.size, 2, none⟩ u2).setCell ⟨w.heap.size, 3, none⟩ u3).setCell ⟨w.heap.size, 4, none⟩ u4).alloc o).cell? ⟨w.heap.size, 0, none⟩ = some u0 := fun u0 u1 u2 u3 u4 o => (((((((unhide HR).set 0 u0).set 1 u1).set 2 u2).set 3 u3).set 4 u4).grow o).at 0 u0 rfl
    have y1 : ∀ u0 u1 u2 u3 u4 o, ((((((w4.setCell ⟨w.heap.size, 0, none⟩ u0).setCell ⟨w.heap.size, 1, none⟩ u1).setCell ⟨w.heap.size, 2, none⟩ u2).setCell ⟨w.heap.size, 3, none⟩ u3).setCell ⟨w.heap.size, 4, none⟩ u4).alloc o).cell? ⟨w.heap.size, 1, none⟩ = some u1 := fun u0 u1 u2 u3 u4 o => (((((((unhide HR).set 0 u0).set 1 u1).set 2 u2).set 3 u3).set 4 u4).grow o).at 1 u1 rfl
    have y2 : ∀ u0 u1 u2 u3 u4 o, ((((((w4.setCell ⟨w.heap.size, 0, none⟩ u0).setCell ⟨w.heap.size, 1, none⟩ u1).setCell ⟨w.heap.size, 2, none⟩ u2).setCell ⟨w.heap.size, 3, none⟩ u3).setCell ⟨w.heap.size, 4, none⟩ u4).alloc o).cell? ⟨w.heap.size, 2, none⟩ = some u2 := fun u0 u1 u2 u3 u4 o => (((((((unhide HR).set 0 u0).set 1 u1).set 2 u2).set 3 u3).set 4 u4).grow o).at 2 u2 rfl
    have y3 : ∀ u0 u1 u2 u3 u4 o, ((((((w4.setCell ⟨w.heap.size, 0, none⟩ u0).setCell ⟨w.heap.size, 1, none⟩ u1).setCell ⟨w.heap.size, 2, none⟩ u2).setCell ⟨w.heap.size, 3, none⟩ u3).setCell ⟨w.heap.size, 4, none⟩ u4).alloc o).cell? ⟨w.heap.size, 3, none⟩ = some u3 := fun u0 u1 u2 u3 u4 o => (((((((unhide HR).set 0 u0).set 1 u1).set 2 u2).set 3 u3).set 4 u4).grow o).at 3 u3 rfl
    have y4 : ∀ u0 u1 u2 u3 u4 o, ((((((w4.setCell ⟨w.heap.size, 0, none⟩ u0).setCell ⟨w.heap.size, 1, none⟩ u1).setCell ⟨w.heap.size, 2, none⟩ u2).setCell ⟨w.heap.size, 3, none⟩ u3).setCell ⟨w.heap.size, 4, none⟩ u4).alloc o).cell? ⟨w.heap.size, 4, none⟩ = some u4 := fun u0 u1 u2 u3 u4 o => (((((((unhide HR).set 0 u0).set 1 u1).set 2 u2).set 3 u3).set 4 u4).grow o).at 4 u4 rfl
    have hE9 : ∀ u0 u1 u2 u3 u4 o, Ext (fun c => c = w.heap.size ∨ c = w.heap.size) w4 ((((((w4.setCell ⟨w.heap.size, 0, none⟩ u0).setCell ⟨w.heap.size, 1, none⟩ u1).setCell ⟨w.heap.size, 2, none⟩ u2).setCell ⟨w.heap.size, 3, none⟩ u3).setCell ⟨w.heap.size, 4, none⟩ u4).alloc o) := fun u0 u1 u2 u3 u4 o => ((((((Ext.refl _ _).setCell _ _ (Or.inr rfl)).setCell _ _ (Or.inr rfl)).setCell _ _ (Or.inr rfl)).setCell _ _ (Or.inr rfl)).setCell _ _ (Or.inr rfl)).trans (ext_of_below ((Below.refl _ _).alloc (Nat.le_refl _) o) _)
    go_wp2_with fail
    refine bodyPost_ret (v := .agg #[.int .i64 2, .int .i64 (1 + i), .slice none 0 0, .int .i64 (1 + s), .int .i64 (1 + q)]) (by simp [results, Try.results91, go_sem, y0, y1, y2, y3, y4]) rfl ?_
    have hlw : Lay.tWrite.lies w4 [.int .i64 2, .int .i64 (1 + i), .slice none 0 0, .int .i64 (1 + s), .int .i64 (1 + q)] ⟨2, 1 + (i : Int), [], 1 + (s : Int), 1 + (q : Int)⟩ [] := by
      refine lies_Write.2 ⟨none, 0, [], rfl, rfl, (show (Lit.int .i64 (2)).wf = true from wf_of_bd (by omega)), (show (Lit.int .i64 (1 + (i : Int))).wf = true from wf_of_bd (by omega)), ?_, (show (Lit.int .i64 (1 + (s : Int))).wf = true from wf_of_bd (by omega)), (show (Lit.int .i64 (1 + (q : Int))).wf = true from wf_of_bd (by omega))⟩
      exact Lay.lies_ints.2 ⟨none, 0, rfl, by simp, by simp, Or.inl ⟨rfl, rfl⟩⟩
    exact closeW (s := w.heap.size) (unhide HE4) (hE9 _ _ _ _ _ _) (Nat.le_refl _) hbw (unhide HS4) (unhide HC4) (by omega) hlw (by simp)

end Go.Proofs.Ytipomhpimmnchaa

namespace Go.Proofs.Ytipomhpimmnchaa
open Go.RowKit

theorem Box.five {lo : Nat} {x0 x1 x2 x3 x4 : Value} {T : TypeId} {W : World} {s : Nat} (h : Box lo #[x0, x1, x2, x3, x4] T W s) :
    (W.cell? ⟨s, 0, none⟩ = some x0 ∧ W.cell? ⟨s, 1, none⟩ = some x1 ∧ W.cell? ⟨s, 2, none⟩ = some x2 ∧ W.cell? ⟨s, 3, none⟩ = some x3 ∧ W.cell? ⟨s, 4, none⟩ = some x4) ∧ (∀ o, W.frozen? ⟨s, o, none⟩ = false) ∧ s < W.heap.size := by
  refine ⟨⟨?_, ?_, ?_, ?_, ?_⟩, fun o => ?_, h.lt⟩
  all_goals first | simp [World.cell?, h.2] | simp [World.frozen?, h.2]
theorem Box.alloc {lo : Nat} {cs : Array Value} {T : TypeId} {W : World} {s : Nat} (h : Box lo cs T W s) (o : Obj) : Box lo cs T (W.alloc o) s := ⟨h.1, (Below.heap_alloc W o s h.lt).trans h.2⟩

end Go.Proofs.Ytipomhpimmnchaa

namespace Go.Proofs.Ytipomhpimmnchaa
open Go.RowKit

theorem inC (v lo hi : Int) (w : World) :
    Calls Try.prog 71 #[.int .i64 v, .int .i64 lo, .int .i64 hi] w fun e w' => e = .returned (.bool (decide (lo ≤ v) && decide (v ≤ hi))) ∧ w' = w := by
  by_cases h1 : lo ≤ v
  · have d1 : decide (lo ≤ v) = true := by simpa using h1
    rw [d1]
    cases d2 : decide (v ≤ hi) <;>
    · go_enter Try.func71, Try.ntmps71
      go_wp2_with fail
      go_ret
      exact ⟨rfl, rfl⟩
  · have d1 : decide (lo ≤ v) = false := by simpa using h1
    rw [d1]
    go_enter Try.func71, Try.ntmps71
    go_wp2_with fail
    go_ret
    exact ⟨rfl, rfl⟩
theorem idC (x : Int) (w : World) : Calls Try.prog 81 #[.int .i64 x] w fun e w' => e = .returned (.bool (decide (1 ≤ x) && decide (x ≤ 999))) ∧ w' = w := by
  go_enter Try.func81, Try.ntmps81
  go_wp2_with fail
  refine (inC x 1 999 _).mono ?_
  rintro e w1 ⟨rfl, rfl⟩
  go_wp2_with fail
  go_ret
  exact ⟨rfl, rfl⟩

end Go.Proofs.Ytipomhpimmnchaa

namespace Go.Proofs.Ytipomhpimmnchaa
open Go.RowKit

theorem sessionC (x : Int) (w : World) : Calls Try.prog 82 #[.int .i64 x] w fun e w' => e = .returned (.bool (decide (1 ≤ x) && decide (x ≤ 9))) ∧ w' = w := by
  go_enter Try.func82, Try.ntmps82
  go_wp2_with fail
  refine (inC x 1 9 _).mono ?_
  rintro e w1 ⟨rfl, rfl⟩
  go_wp2_with fail
  go_ret
  exact ⟨rfl, rfl⟩

end Go.Proofs.Ytipomhpimmnchaa

namespace Go.Proofs.Ytipomhpimmnchaa
open Go.RowKit

set_option maxHeartbeats 400000 in
theorem implFault_len (ao : Option Addr) (n cap : Nat) (w : World) (h : n ≠ 3) :
    Calls Try.prog 103 #[.slice ao n cap] w fun e w' => e = .returned (.int .i64 1) ∧ w' = w := by
  have h3 : ((n : Int) != 3) = true := by rw [bne_iff_ne]; omega
  go_enter Try.func103, Try.ntmps103
  go_wp2
  go_ret
  exact ⟨rfl, rfl⟩

set_option maxHeartbeats 400000 in
theorem implFault_three (b off cap : Nat) (zs : List Int) (w : World) (h : zs.length = 3) (hc : ∀ j, j < 3 → w.cell? ⟨b, off + j, none⟩ = some (.int .i64 (zs.getD j 0))) :
    Calls Try.prog 103 #[.slice (some ⟨b, off, none⟩) 3 cap] w fun e w' => e = .returned (.int .i64 (vecFault zs)) ∧ w' = w := by
  go_enter Try.func103, Try.ntmps103
  go_wp2
  go_loop [10] (fun i => ∃ k : Nat, k ≤ 3 ∧ i = .int .i64 k ∧ ∀ j, j < k → partB (zs.getD j 0) = true) (fun i => 3 - (intOf i).toNat)
  case atStart => exact ⟨0, Nat.zero_le _, rfl, fun j hj => by omega⟩
  case round =>
    obtain ⟨k, hk, rfl, hg⟩ := hrel
    have HG : Hid (∀ j, j < k → partB (zs.getD j 0) = true) := hg
    have HL : Hid (zs.length = 3) := h
    clear hg h
    by_cases hlt : k < 3
    · have hcx : w.cell? ⟨b, off + k, none⟩ = some (.int .i64 (zs.getD k 0)) := hc k hlt
      obtain ⟨z, hz⟩ : ∃ z, z = zs.getD k 0 := ⟨_, rfl⟩
      rw [← hz] at hcx
      have HZ : Hid (z = zs.getD k 0) := hz
      clear hz hc
      cases hp : partB z with
      | true =>
        have hb := partB_true hp
        have HP : Hid (partB z = true) := hp
        clear hp
        obtain ⟨hb1, hb2⟩ := hb
        go_wp2
        go_round
        case rel =>
          refine ⟨k + 1, by omega, by go_num, fun j hj => ?_⟩
          by_cases hjk : j < k
          · exact HG.out j hjk
          · rw [show j = k by omega, ← HZ.out]; exact HP.out
        case measure => simp [intOf]; omega
      | false =>
        have HV : Hid (vecFault zs = 3) := vecFault_bad HL.out k hlt (by rw [← HZ.out]; exact hp)
        have hb := partB_false hp
        clear hp
        rcases hb with hb | hb
        · go_wp2
          go_ret
          exact ⟨by rw [HV.out]; rfl, rfl⟩
        · have hb1 : -1000 ≤ z := by omega
          have hd : decide (z ≤ 1000) = false := by simp; omega
          go_wp2
          go_ret
          exact ⟨by rw [HV.out]; rfl, rfl⟩
    · have HV : Hid (vecFault zs = 0) := vecFault_ok HL.out (fun j hj => HG.out j (by omega))
      go_wp2
      go_ret
      exact ⟨by rw [HV.out]; rfl, rfl⟩

set_option maxHeartbeats 400000 in
theorem modelFault_len (ao : Option Addr) (n cap : Nat) (w : World) (h : n ≠ 3) :
    Calls Try.prog 83 #[.slice ao n cap] w fun e w' => e = .returned (.int .i64 1) ∧ w' = w := by
  have h3 : ((n : Int) != 3) = true := by rw [bne_iff_ne]; omega
  go_enter Try.func83, Try.ntmps83
  go_wp2
  go_ret
  exact ⟨rfl, rfl⟩

set_option maxHeartbeats 400000 in
theorem modelFault_three (b off cap : Nat) (zs : List Int) (w : World) (h : zs.length = 3) (hc : ∀ j, j < 3 → w.cell? ⟨b, off + j, none⟩ = some (.int .i64 (zs.getD j 0))) :
    Calls Try.prog 83 #[.slice (some ⟨b, off, none⟩) 3 cap] w fun e w' => e = .returned (.int .i64 (vecFault zs)) ∧ w' = w := by
  go_enter Try.func83, Try.ntmps83
  go_wp2
  go_loop [3] (fun i => ∃ k : Nat, k ≤ 3 ∧ i = .int .i64 k ∧ ∀ j, j < k → partB (zs.getD j 0) = true) (fun i => 3 - (intOf i).toNat)
  case atStart => exact ⟨0, Nat.zero_le _, rfl, fun j hj => by omega⟩
  case round =>
    obtain ⟨k, hk, rfl, hg⟩ := hrel
    have HG : Hid (∀ j, j < k → partB (zs.getD j 0) = true) := hg
    have HL : Hid (zs.length = 3) := h
    clear hg h
    by_cases hlt : k < 3
    · have hcx : w.cell? ⟨b, off + k, none⟩ = some (.int .i64 (zs.getD k 0)) := hc k hlt
      obtain ⟨z, hz⟩ : ∃ z, z = zs.getD k 0 := ⟨_, rfl⟩
      rw [← hz] at hcx
      have HZ : Hid (z = zs.getD k 0) := hz
      clear hz hc
      cases hp : partB z with
      | true =>
        have hb := partB_true hp
        have HP : Hid (partB z = true) := hp
        clear hp
        obtain ⟨hb1, hb2⟩ := hb
        go_wp2
        go_round
        case rel =>
          refine ⟨k + 1, by omega, by go_num, fun j hj => ?_⟩
          by_cases hjk : j < k
          · exact HG.out j hjk
          · rw [show j = k by omega, ← HZ.out]; exact HP.out
        case measure => simp [intOf]; omega
      | false =>
        have HV : Hid (vecFault zs = 3) := vecFault_bad HL.out k hlt (by rw [← HZ.out]; exact hp)
        have hb := partB_false hp
        clear hp
        rcases hb with hb | hb
        · go_wp2
          go_ret
          exact ⟨by rw [HV.out]; rfl, rfl⟩
        · have hb1 : -1000 ≤ z := by omega
          have hd : decide (z ≤ 1000) = false := by simp; omega
          go_wp2
          go_ret
          exact ⟨by rw [HV.out]; rfl, rfl⟩
    · have HV : Hid (vecFault zs = 0) := vecFault_ok HL.out (fun j hj => HG.out j (by omega))
      go_wp2
      go_ret
      exact ⟨by rw [HV.out]; rfl, rfl⟩


/-- VecFault of the program. -/
theorem implFault (v : Value) (zs : List Int) (w : World) (h : IsInts w v zs) :
    Calls Try.prog 103 #[v] w fun e w' => e = .returned (.int .i64 (vecFault zs)) ∧ w' = w := by
  obtain ⟨ao, cap, rfl, hwf, hc⟩ := h
  by_cases h3 : zs.length = 3
  · obtain ⟨b, off, rfl, hc1⟩ := hc (by omega)
    rw [h3] at hc1 ⊢
    exact implFault_three b off cap zs w h3 hc1
  · rw [vecFault_len h3]
    exact implFault_len ao zs.length cap w h3

/-- VecFault of the model. -/
theorem modelFault (v : Value) (zs : List Int) (w : World) (h : IsInts w v zs) :
    Calls Try.prog 83 #[v] w fun e w' => e = .returned (.int .i64 (vecFault zs)) ∧ w' = w := by
  obtain ⟨ao, cap, rfl, hwf, hc⟩ := h
  by_cases h3 : zs.length = 3
  · obtain ⟨b, off, rfl, hc1⟩ := hc (by omega)
    rw [h3] at hc1 ⊢
    exact modelFault_three b off cap zs w h3 hc1
  · rw [vecFault_len h3]
    exact modelFault_len ao zs.length cap w h3

end Go.Proofs.Ytipomhpimmnchaa
