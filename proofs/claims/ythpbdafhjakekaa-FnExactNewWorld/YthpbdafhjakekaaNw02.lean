/-
  Texts of this proof in one: LayChain, TabGround, LayNode, LayMsg.
  Their conditions stand in their theorems.
-/
import Derived.Test.YthpbdafhjakekaaNw01
import Derived.WalkKit
import Derived.Maps.OwnSet

namespace Go.Proofs.Ythpbdafhjakekaa
open Go.RowKit

structure DChain where
  epoch : Int
  ids : List Int

def Lay.tChain : Lay DChain := Lay.via (Lay.pair Lay.int (Lay.sl Lay.int)) (fun x => (x.epoch, x.ids)) (fun p => ⟨p.1, p.2⟩)

theorem lies_Chain {w : World} {cs : List Value} {x : DChain} {bl : List Nat} : Lay.tChain.lies w cs x bl ↔ ∃ (a1 : Option Addr) (d1 : Nat) (b1 : List Nat), cs = [.int .i64 x.epoch, .slice a1 x.ids.length d1] ∧ bl = b1 ∧ (Lit.int .i64 x.epoch).wf = true ∧ (Lay.sl Lay.int).lies w [.slice a1 x.ids.length d1] x.ids b1 := by
  constructor
  · intro h
    obtain ⟨c0_, r0_, e0_, s0_, rfl, rfl, h0, h1⟩ := h
    obtain ⟨rfl, w0, rfl⟩ := h0
    have k1 := h1
    obtain ⟨a1, d1, rfl, -⟩ := k1
    exact ⟨a1, d1, s0_, by simp, by simp, w0, h1⟩
  · rintro ⟨a1, d1, b1, rfl, hbl, w0, l1⟩
    rw [hbl]
    exact ⟨[.int .i64 x.epoch], [.slice a1 x.ids.length d1], [], b1, rfl, by simp, ⟨rfl, w0, rfl⟩, l1⟩

theorem open_Chain {w : World} {cs : List Value} {x : DChain} (h : Lay.tChain.Reads w cs x) : ∃ (a1 : Option Addr) (d1 : Nat), cs = [.int .i64 x.epoch, .slice a1 x.ids.length d1] ∧ (Lay.sl Lay.int).Reads w [.slice a1 x.ids.length d1] x.ids := by
  obtain ⟨bl, h⟩ := h
  obtain ⟨a1, d1, b1, rfl, -, w0, l1⟩ := lies_Chain.1 h
  exact ⟨a1, d1, rfl, ⟨_, l1⟩⟩

end Go.Proofs.Ythpbdafhjakekaa

namespace Go.Proofs.Ythpbdafhjakekaa

def partB (z : Int) : Bool := decide (-1000 ≤ z) && decide (z ≤ 1000)
def vecFault (zs : List Int) : Int := if zs.length = 3 then (if zs.all partB then 0 else 3) else 1

theorem vecFault_len {zs : List Int} (h : zs.length ≠ 3) : vecFault zs = 1 := by simp [vecFault, h]
theorem vecFault_bad {zs : List Int} (h : zs.length = 3) (k : Nat) (hk : k < 3) (hb : partB (zs.getD k 0) = false) : vecFault zs = 3 := by
  have : zs.all partB = false := by
    rw [List.all_eq_false]
    exact ⟨zs.getD k 0, by simp [List.getD, show k < zs.length by omega], by rw [hb]; simp⟩
  simp [vecFault, h, this]
theorem vecFault_ok {zs : List Int} (h : zs.length = 3) (hg : ∀ j, j < 3 → partB (zs.getD j 0) = true) : vecFault zs = 0 := by
  have : zs.all partB = true := by
    rw [List.all_eq_true]
    intro x hx
    obtain ⟨j, hj, rfl⟩ := List.mem_iff_getElem.1 hx
    have := hg j (by omega)
    simpa [List.getD, hj] using this
  simp [vecFault, h, this]
theorem partB_true {z : Int} (h : partB z = true) : -1000 ≤ z ∧ z ≤ 1000 := by simpa [partB] using h
theorem partB_false {z : Int} (h : partB z = false) : z < -1000 ∨ 1000 < z := by
  simp [partB] at h
  omega
theorem vecFault_zero {zs : List Int} (h : vecFault zs = 0) : zs.length = 3 ∧ ∀ j, j < 3 → -1000 ≤ zs.getD j 0 ∧ zs.getD j 0 ≤ 1000 := by
  unfold vecFault at h
  split at h
  · next hl =>
    refine ⟨hl, fun j hj => ?_⟩
    split at h
    · next ha =>
      rw [List.all_eq_true] at ha
      exact partB_true (ha _ (by simp [List.getD, show j < zs.length by omega]))
    · simp at h
  · simp at h

theorem fault3 {x y z : Int} (h : vecFault [x, y, z] = 0) : (-1000 ≤ x ∧ x ≤ 1000) ∧ (-1000 ≤ y ∧ y ≤ 1000) ∧ (-1000 ≤ z ∧ z ≤ 1000) := by
  have h1 := (vecFault_zero h).2
  exact ⟨by simpa using h1 0 (by omega), by simpa using h1 1 (by omega), by simpa using h1 2 (by omega)⟩

end Go.Proofs.Ythpbdafhjakekaa

namespace Go.Proofs.Ythpbdafhjakekaa
open Go.RowKit

structure DWrite where
  kind : Int
  id : Int
  vec : List Int
  session : Int
  seq : Int

def Lay.tWrite : Lay DWrite := Lay.via (Lay.pair Lay.int (Lay.pair Lay.int (Lay.pair (Lay.sl Lay.int) (Lay.pair Lay.int Lay.int)))) (fun x => (x.kind, x.id, x.vec, x.session, x.seq)) (fun p => ⟨p.1, p.2.1, p.2.2.1, p.2.2.2.1, p.2.2.2.2⟩)

theorem lies_Write {w : World} {cs : List Value} {x : DWrite} {bl : List Nat} : Lay.tWrite.lies w cs x bl ↔ ∃ (a2 : Option Addr) (d2 : Nat) (b2 : List Nat), cs = [.int .i64 x.kind, .int .i64 x.id, .slice a2 x.vec.length d2, .int .i64 x.session, .int .i64 x.seq] ∧ bl = b2 ∧ (Lit.int .i64 x.kind).wf = true ∧ (Lit.int .i64 x.id).wf = true ∧ (Lay.sl Lay.int).lies w [.slice a2 x.vec.length d2] x.vec b2 ∧ (Lit.int .i64 x.session).wf = true ∧ (Lit.int .i64 x.seq).wf = true := by
  constructor
  · intro h
    obtain ⟨c0_, r0_, e0_, s0_, rfl, rfl, h0, ⟨c1_, r1_, e1_, s1_, rfl, rfl, h1, ⟨c2_, r2_, e2_, s2_, rfl, rfl, h2, ⟨c3_, r3_, e3_, s3_, rfl, rfl, h3, h4⟩⟩⟩⟩ := h
    obtain ⟨rfl, w0, rfl⟩ := h0
    obtain ⟨rfl, w1, rfl⟩ := h1
    have k2 := h2
    obtain ⟨a2, d2, rfl, -⟩ := k2
    obtain ⟨rfl, w3, rfl⟩ := h3
    obtain ⟨rfl, w4, rfl⟩ := h4
    exact ⟨a2, d2, e2_, by simp, by simp, w0, w1, h2, w3, w4⟩
  · rintro ⟨a2, d2, b2, rfl, hbl, w0, w1, l2, w3, w4⟩
    rw [hbl]
    exact ⟨[.int .i64 x.kind], [.int .i64 x.id] ++ ([.slice a2 x.vec.length d2] ++ ([.int .i64 x.session] ++ [.int .i64 x.seq])), [], [] ++ (b2 ++ ([] ++ ([]))), rfl, by simp, ⟨rfl, w0, rfl⟩, ⟨[.int .i64 x.id], [.slice a2 x.vec.length d2] ++ ([.int .i64 x.session] ++ [.int .i64 x.seq]), [], b2 ++ ([] ++ ([])), rfl, by simp, ⟨rfl, w1, rfl⟩, ⟨[.slice a2 x.vec.length d2], [.int .i64 x.session] ++ [.int .i64 x.seq], b2, [] ++ ([]), rfl, by simp, l2, ⟨[.int .i64 x.session], [.int .i64 x.seq], [], [], rfl, by simp, ⟨rfl, w3, rfl⟩, ⟨rfl, w4, rfl⟩⟩⟩⟩⟩

theorem open_Write {w : World} {cs : List Value} {x : DWrite} (h : Lay.tWrite.Reads w cs x) : ∃ (a2 : Option Addr) (d2 : Nat), cs = [.int .i64 x.kind, .int .i64 x.id, .slice a2 x.vec.length d2, .int .i64 x.session, .int .i64 x.seq] ∧ (Lay.sl Lay.int).Reads w [.slice a2 x.vec.length d2] x.vec := by
  obtain ⟨bl, h⟩ := h
  obtain ⟨a2, d2, b2, rfl, -, w0, w1, l2, w3, w4⟩ := lies_Write.1 h
  exact ⟨a2, d2, rfl, ⟨_, l2⟩⟩

end Go.Proofs.Ythpbdafhjakekaa

namespace Go.Proofs.Ythpbdafhjakekaa
open Go.RowKit

theorem vcnt_Write (x : DWrite) : Lay.tWrite.vcnt x = (Lay.sl Lay.int).vcnt x.vec := by
  show 0 + (0 + ((Lay.sl Lay.int).vcnt x.vec + (0 + (0)))) = (Lay.sl Lay.int).vcnt x.vec
  omega
theorem mkv_Write (k : Int) (x : DWrite) : Lay.tWrite.mkv k x = ⟨x.kind, x.id, (Lay.sl Lay.int).mkv (k) x.vec, x.session, x.seq⟩ := by
  simp [Lay.tWrite, Lay.via, Lay.pair, Lay.int]
theorem own_Write {w : World} {cs : List Value} {x : DWrite} {bl : List Nat} (h : Lay.tWrite.Own w cs x bl) : ∃ (a2 : Option Addr) (d2 : Nat) (g2 : List Nat), cs = [.int .i64 x.kind, .int .i64 x.id, .slice a2 x.vec.length d2, .int .i64 x.session, .int .i64 x.seq] ∧ bl = g2 ∧ (Lay.sl Lay.int).Own w [.slice a2 x.vec.length d2] x.vec g2 ∧ (Lit.int .i64 x.kind).wf = true ∧ (Lit.int .i64 x.id).wf = true ∧ (Lit.int .i64 x.session).wf = true ∧ (Lit.int .i64 x.seq).wf = true := by
  obtain ⟨hl, hn, hf⟩ := h
  obtain ⟨a2, d2, b2, rfl, hbl, w0, w1, l2, w3, w4⟩ := lies_Write.1 hl
  rw [hbl] at hn hf
  exact ⟨a2, d2, b2, rfl, hbl, ⟨l2, hn, hf⟩, w0, w1, w3, w4⟩
theorem mkOwn_Write {w : World} {x : DWrite} {c2 : List Value} {g2 : List Nat} (O2 : (Lay.sl Lay.int).Own w c2 x.vec g2) (v0 : (Lit.int .i64 x.kind).wf = true) (v1 : (Lit.int .i64 x.id).wf = true) (v3 : (Lit.int .i64 x.session).wf = true) (v4 : (Lit.int .i64 x.seq).wf = true) (hn : (g2).Nodup) : Lay.tWrite.Own w ([.int .i64 x.kind] ++ ([.int .i64 x.id] ++ (c2 ++ ([.int .i64 x.session] ++ ([.int .i64 x.seq]))))) x (g2) := by
  refine ⟨⟨[.int .i64 x.kind], [.int .i64 x.id] ++ (c2 ++ ([.int .i64 x.session] ++ ([.int .i64 x.seq]))), [], [] ++ (g2 ++ ([] ++ [])), rfl, by simp, ⟨rfl, v0, rfl⟩, ⟨[.int .i64 x.id], c2 ++ ([.int .i64 x.session] ++ ([.int .i64 x.seq])), [], g2 ++ ([] ++ []), rfl, rfl, ⟨rfl, v1, rfl⟩, ⟨c2, [.int .i64 x.session] ++ ([.int .i64 x.seq]), g2, [] ++ [], rfl, rfl, O2.1, ⟨[.int .i64 x.session], [.int .i64 x.seq], [], [], rfl, rfl, ⟨rfl, v3, rfl⟩, ⟨rfl, v4, rfl⟩⟩⟩⟩⟩, hn, ?_⟩
  intro b hb o
  exact O2.2.2 b hb o

end Go.Proofs.Ythpbdafhjakekaa

namespace Go.Proofs.Ythpbdafhjakekaa
open Go.RowKit

structure DItem where
  id : Int
  vec : List Int

def Lay.tItem : Lay DItem := Lay.via (Lay.pair Lay.int (Lay.sl Lay.int)) (fun x => (x.id, x.vec)) (fun p => ⟨p.1, p.2⟩)

theorem lies_Item {w : World} {cs : List Value} {x : DItem} {bl : List Nat} : Lay.tItem.lies w cs x bl ↔ ∃ (a1 : Option Addr) (d1 : Nat) (b1 : List Nat), cs = [.int .i64 x.id, .slice a1 x.vec.length d1] ∧ bl = b1 ∧ (Lit.int .i64 x.id).wf = true ∧ (Lay.sl Lay.int).lies w [.slice a1 x.vec.length d1] x.vec b1 := by
  constructor
  · intro h
    obtain ⟨c0_, r0_, e0_, s0_, rfl, rfl, h0, h1⟩ := h
    obtain ⟨rfl, w0, rfl⟩ := h0
    have k1 := h1
    obtain ⟨a1, d1, rfl, -⟩ := k1
    exact ⟨a1, d1, s0_, by simp, by simp, w0, h1⟩
  · rintro ⟨a1, d1, b1, rfl, hbl, w0, l1⟩
    rw [hbl]
    exact ⟨[.int .i64 x.id], [.slice a1 x.vec.length d1], [], b1, rfl, by simp, ⟨rfl, w0, rfl⟩, l1⟩

theorem open_Item {w : World} {cs : List Value} {x : DItem} (h : Lay.tItem.Reads w cs x) : ∃ (a1 : Option Addr) (d1 : Nat), cs = [.int .i64 x.id, .slice a1 x.vec.length d1] ∧ (Lay.sl Lay.int).Reads w [.slice a1 x.vec.length d1] x.vec := by
  obtain ⟨bl, h⟩ := h
  obtain ⟨a1, d1, b1, rfl, -, w0, l1⟩ := lies_Item.1 h
  exact ⟨a1, d1, rfl, ⟨_, l1⟩⟩

end Go.Proofs.Ythpbdafhjakekaa

namespace Go.Proofs.Ythpbdafhjakekaa
open Go.RowKit

theorem vcnt_Item (x : DItem) : Lay.tItem.vcnt x = (Lay.sl Lay.int).vcnt x.vec := by
  show 0 + ((Lay.sl Lay.int).vcnt x.vec) = (Lay.sl Lay.int).vcnt x.vec
  omega
theorem mkv_Item (k : Int) (x : DItem) : Lay.tItem.mkv k x = ⟨x.id, (Lay.sl Lay.int).mkv (k) x.vec⟩ := by
  simp [Lay.tItem, Lay.via, Lay.pair, Lay.int]
theorem own_Item {w : World} {cs : List Value} {x : DItem} {bl : List Nat} (h : Lay.tItem.Own w cs x bl) : ∃ (a1 : Option Addr) (d1 : Nat) (g1 : List Nat), cs = [.int .i64 x.id, .slice a1 x.vec.length d1] ∧ bl = g1 ∧ (Lay.sl Lay.int).Own w [.slice a1 x.vec.length d1] x.vec g1 ∧ (Lit.int .i64 x.id).wf = true := by
  obtain ⟨hl, hn, hf⟩ := h
  obtain ⟨a1, d1, b1, rfl, hbl, w0, l1⟩ := lies_Item.1 hl
  rw [hbl] at hn hf
  exact ⟨a1, d1, b1, rfl, hbl, ⟨l1, hn, hf⟩, w0⟩
theorem mkOwn_Item {w : World} {x : DItem} {c1 : List Value} {g1 : List Nat} (O1 : (Lay.sl Lay.int).Own w c1 x.vec g1) (v0 : (Lit.int .i64 x.id).wf = true) (hn : (g1).Nodup) : Lay.tItem.Own w ([.int .i64 x.id] ++ c1) x (g1) := by
  refine ⟨⟨[.int .i64 x.id], c1, [], g1, rfl, by simp, ⟨rfl, v0, rfl⟩, O1.1⟩, hn, ?_⟩
  intro b hb o
  exact O1.2.2 b hb o

end Go.Proofs.Ythpbdafhjakekaa

namespace Go.Proofs.Ythpbdafhjakekaa
open Go.RowKit

structure DTableResult where
  code : Int
  items : List DItem

def Lay.tTableResult : Lay DTableResult := Lay.via (Lay.pair Lay.int (Lay.sl Lay.tItem)) (fun x => (x.code, x.items)) (fun p => ⟨p.1, p.2⟩)

theorem lies_TableResult {w : World} {cs : List Value} {x : DTableResult} {bl : List Nat} : Lay.tTableResult.lies w cs x bl ↔ ∃ (a1 : Option Addr) (d1 : Nat) (b1 : List Nat), cs = [.int .i64 x.code, .slice a1 x.items.length d1] ∧ bl = b1 ∧ (Lit.int .i64 x.code).wf = true ∧ (Lay.sl Lay.tItem).lies w [.slice a1 x.items.length d1] x.items b1 := by
  constructor
  · intro h
    obtain ⟨c0_, r0_, e0_, s0_, rfl, rfl, h0, h1⟩ := h
    obtain ⟨rfl, w0, rfl⟩ := h0
    have k1 := h1
    obtain ⟨a1, d1, rfl, -⟩ := k1
    exact ⟨a1, d1, s0_, by simp, by simp, w0, h1⟩
  · rintro ⟨a1, d1, b1, rfl, hbl, w0, l1⟩
    rw [hbl]
    exact ⟨[.int .i64 x.code], [.slice a1 x.items.length d1], [], b1, rfl, by simp, ⟨rfl, w0, rfl⟩, l1⟩

theorem open_TableResult {w : World} {cs : List Value} {x : DTableResult} (h : Lay.tTableResult.Reads w cs x) : ∃ (a1 : Option Addr) (d1 : Nat), cs = [.int .i64 x.code, .slice a1 x.items.length d1] ∧ (Lay.sl Lay.tItem).Reads w [.slice a1 x.items.length d1] x.items := by
  obtain ⟨bl, h⟩ := h
  obtain ⟨a1, d1, b1, rfl, -, w0, l1⟩ := lies_TableResult.1 h
  exact ⟨a1, d1, rfl, ⟨_, l1⟩⟩

end Go.Proofs.Ythpbdafhjakekaa

namespace Go.Proofs.Ythpbdafhjakekaa
open Go.RowKit

theorem vcnt_TableResult (x : DTableResult) : Lay.tTableResult.vcnt x = (Lay.sl Lay.tItem).vcnt x.items := by
  show 0 + ((Lay.sl Lay.tItem).vcnt x.items) = (Lay.sl Lay.tItem).vcnt x.items
  omega
theorem mkv_TableResult (k : Int) (x : DTableResult) : Lay.tTableResult.mkv k x = ⟨x.code, (Lay.sl Lay.tItem).mkv (k) x.items⟩ := by
  simp [Lay.tTableResult, Lay.via, Lay.pair, Lay.int]
theorem own_TableResult {w : World} {cs : List Value} {x : DTableResult} {bl : List Nat} (h : Lay.tTableResult.Own w cs x bl) : ∃ (a1 : Option Addr) (d1 : Nat) (g1 : List Nat), cs = [.int .i64 x.code, .slice a1 x.items.length d1] ∧ bl = g1 ∧ (Lay.sl Lay.tItem).Own w [.slice a1 x.items.length d1] x.items g1 ∧ (Lit.int .i64 x.code).wf = true := by
  obtain ⟨hl, hn, hf⟩ := h
  obtain ⟨a1, d1, b1, rfl, hbl, w0, l1⟩ := lies_TableResult.1 hl
  rw [hbl] at hn hf
  exact ⟨a1, d1, b1, rfl, hbl, ⟨l1, hn, hf⟩, w0⟩
theorem mkOwn_TableResult {w : World} {x : DTableResult} {c1 : List Value} {g1 : List Nat} (O1 : (Lay.sl Lay.tItem).Own w c1 x.items g1) (v0 : (Lit.int .i64 x.code).wf = true) (hn : (g1).Nodup) : Lay.tTableResult.Own w ([.int .i64 x.code] ++ c1) x (g1) := by
  refine ⟨⟨[.int .i64 x.code], c1, [], g1, rfl, by simp, ⟨rfl, v0, rfl⟩, O1.1⟩, hn, ?_⟩
  intro b hb o
  exact O1.2.2 b hb o

end Go.Proofs.Ythpbdafhjakekaa

namespace Go.Proofs.Ythpbdafhjakekaa
open Go.RowKit

structure DIntsResult where
  code : Int
  list : List Int

def Lay.tIntsResult : Lay DIntsResult := Lay.via (Lay.pair Lay.int (Lay.sl Lay.int)) (fun x => (x.code, x.list)) (fun p => ⟨p.1, p.2⟩)

theorem lies_IntsResult {w : World} {cs : List Value} {x : DIntsResult} {bl : List Nat} : Lay.tIntsResult.lies w cs x bl ↔ ∃ (a1 : Option Addr) (d1 : Nat) (b1 : List Nat), cs = [.int .i64 x.code, .slice a1 x.list.length d1] ∧ bl = b1 ∧ (Lit.int .i64 x.code).wf = true ∧ (Lay.sl Lay.int).lies w [.slice a1 x.list.length d1] x.list b1 := by
  constructor
  · intro h
    obtain ⟨c0_, r0_, e0_, s0_, rfl, rfl, h0, h1⟩ := h
    obtain ⟨rfl, w0, rfl⟩ := h0
    have k1 := h1
    obtain ⟨a1, d1, rfl, -⟩ := k1
    exact ⟨a1, d1, s0_, by simp, by simp, w0, h1⟩
  · rintro ⟨a1, d1, b1, rfl, hbl, w0, l1⟩
    rw [hbl]
    exact ⟨[.int .i64 x.code], [.slice a1 x.list.length d1], [], b1, rfl, by simp, ⟨rfl, w0, rfl⟩, l1⟩

theorem open_IntsResult {w : World} {cs : List Value} {x : DIntsResult} (h : Lay.tIntsResult.Reads w cs x) : ∃ (a1 : Option Addr) (d1 : Nat), cs = [.int .i64 x.code, .slice a1 x.list.length d1] ∧ (Lay.sl Lay.int).Reads w [.slice a1 x.list.length d1] x.list := by
  obtain ⟨bl, h⟩ := h
  obtain ⟨a1, d1, b1, rfl, -, w0, l1⟩ := lies_IntsResult.1 h
  exact ⟨a1, d1, rfl, ⟨_, l1⟩⟩

end Go.Proofs.Ythpbdafhjakekaa

namespace Go.Proofs.Ythpbdafhjakekaa
open Go.RowKit

theorem vcnt_IntsResult (x : DIntsResult) : Lay.tIntsResult.vcnt x = (Lay.sl Lay.int).vcnt x.list := by
  show 0 + ((Lay.sl Lay.int).vcnt x.list) = (Lay.sl Lay.int).vcnt x.list
  omega
theorem mkv_IntsResult (k : Int) (x : DIntsResult) : Lay.tIntsResult.mkv k x = ⟨x.code, (Lay.sl Lay.int).mkv (k) x.list⟩ := by
  simp [Lay.tIntsResult, Lay.via, Lay.pair, Lay.int]
theorem own_IntsResult {w : World} {cs : List Value} {x : DIntsResult} {bl : List Nat} (h : Lay.tIntsResult.Own w cs x bl) : ∃ (a1 : Option Addr) (d1 : Nat) (g1 : List Nat), cs = [.int .i64 x.code, .slice a1 x.list.length d1] ∧ bl = g1 ∧ (Lay.sl Lay.int).Own w [.slice a1 x.list.length d1] x.list g1 ∧ (Lit.int .i64 x.code).wf = true := by
  obtain ⟨hl, hn, hf⟩ := h
  obtain ⟨a1, d1, b1, rfl, hbl, w0, l1⟩ := lies_IntsResult.1 hl
  rw [hbl] at hn hf
  exact ⟨a1, d1, b1, rfl, hbl, ⟨l1, hn, hf⟩, w0⟩
theorem mkOwn_IntsResult {w : World} {x : DIntsResult} {c1 : List Value} {g1 : List Nat} (O1 : (Lay.sl Lay.int).Own w c1 x.list g1) (v0 : (Lit.int .i64 x.code).wf = true) (hn : (g1).Nodup) : Lay.tIntsResult.Own w ([.int .i64 x.code] ++ c1) x (g1) := by
  refine ⟨⟨[.int .i64 x.code], c1, [], g1, rfl, by simp, ⟨rfl, v0, rfl⟩, O1.1⟩, hn, ?_⟩
  intro b hb o
  exact O1.2.2 b hb o

end Go.Proofs.Ythpbdafhjakekaa

namespace Go.Proofs.Ythpbdafhjakekaa
open Go.RowKit

def idB (v : Int) : Bool := decide (1 ≤ v) && decide (v ≤ 999)
def tabFrom : Option Int → List DItem → Int
  | _, [] => 0
  | p, x :: xs => if idB x.id then (if vecFault x.vec = 0 then (if p.all (fun q => decide (q < x.id)) then tabFrom (some x.id) xs else 1) else vecFault x.vec) else 3
def tableFault (xs : List DItem) : Int := if 30 < xs.length then 2 else tabFrom none xs
/-- The Id ahead of place k. -/
def idAhead (xs : List DItem) (k : Nat) : Option Int := if k = 0 then none else (xs[k - 1]?).map (·.id)
theorem idAhead_zero (xs : List DItem) : idAhead xs 0 = none := rfl
theorem idAhead_succ (xs : List DItem) (m : Nat) (h : m < xs.length) : idAhead xs (m + 1) = some xs[m].id := by simp [idAhead, h]
theorem tabFrom_step (xs : List DItem) (k : Nat) (h : k < xs.length) : tabFrom (idAhead xs k) (xs.drop k) =
    if idB xs[k].id then (if vecFault xs[k].vec = 0 then (if (idAhead xs k).all (fun q => decide (q < xs[k].id)) then tabFrom (idAhead xs (k + 1)) (xs.drop (k + 1)) else 1) else vecFault xs[k].vec) else 3 := by
  rw [List.drop_eq_getElem_cons h, idAhead_succ xs k h]
  rfl
/-- Rising by Id, each right. -/
def Rising (xs : List DItem) : Prop := xs.Pairwise (fun a b => a.id < b.id)
theorem tabFrom_zero {p : Option Int} {xs : List DItem} (h : tabFrom p xs = 0) : (∀ x ∈ xs, idB x.id = true ∧ vecFault x.vec = 0) ∧ Rising xs ∧ ∀ q, p = some q → ∀ x ∈ xs, q < x.id := by
  induction xs generalizing p with
  | nil => exact ⟨by simp, List.Pairwise.nil, by simp⟩
  | cons x xs ih =>
    rw [tabFrom] at h
    by_cases h1 : idB x.id = true
    · rw [if_pos h1] at h
      by_cases h2 : vecFault x.vec = 0
      · rw [if_pos h2] at h
        by_cases h3 : p.all (fun q => decide (q < x.id)) = true
        · rw [if_pos h3] at h
          obtain ⟨i1, i2, i3⟩ := ih h
          refine ⟨?_, List.pairwise_cons.2 ⟨fun y hy => i3 _ rfl y hy, i2⟩, ?_⟩
          · intro y hy
            rcases List.mem_cons.1 hy with rfl | hy
            · exact ⟨h1, h2⟩
            · exact i1 y hy
          · rintro q rfl y hy
            have hq : q < x.id := by simpa using h3
            rcases List.mem_cons.1 hy with rfl | hy
            · exact hq
            · exact Int.lt_trans hq (i3 _ rfl y hy)
        · rw [if_neg h3] at h; cases h
      · rw [if_neg h2] at h; exact absurd h h2
    · rw [if_neg h1] at h; cases h
theorem tabFrom_of {p : Option Int} {xs : List DItem} (h1 : ∀ x ∈ xs, idB x.id = true ∧ vecFault x.vec = 0) (h2 : Rising xs) (h3 : ∀ q, p = some q → ∀ x ∈ xs, q < x.id) : tabFrom p xs = 0 := by
  induction xs generalizing p with
  | nil => rfl
  | cons x xs ih =>
    obtain ⟨a1, a2⟩ := h1 x (by simp)
    rw [tabFrom, if_pos a1, if_pos a2, if_pos]
    · exact ih (fun y hy => h1 y (List.mem_cons_of_mem _ hy)) (List.pairwise_cons.1 h2).2 (fun q e y hy => by cases e; exact (List.pairwise_cons.1 h2).1 y hy)
    · cases p with
      | none => rfl
      | some q => simpa using h3 q rfl x (by simp)
theorem tableFault_zero {xs : List DItem} (h : tableFault xs = 0) : xs.length ≤ 30 ∧ (∀ x ∈ xs, idB x.id = true ∧ vecFault x.vec = 0) ∧ Rising xs := by
  unfold tableFault at h
  by_cases hn : 30 < xs.length
  · rw [if_pos hn] at h; cases h
  · rw [if_neg hn] at h
    obtain ⟨a, b, -⟩ := tabFrom_zero h
    exact ⟨by omega, a, b⟩
theorem tableFault_of {xs : List DItem} (hl : xs.length ≤ 30) (h1 : ∀ x ∈ xs, idB x.id = true ∧ vecFault x.vec = 0) (h2 : Rising xs) : tableFault xs = 0 := by
  unfold tableFault
  rw [if_neg (by omega)]
  exact tabFrom_of h1 h2 (by simp)

end Go.Proofs.Ythpbdafhjakekaa

namespace Go.Proofs.Ythpbdafhjakekaa
open Go.RowKit Go.ChangeMaps Go.Maps

theorem id_wf {z : Int} (h : idB z = true) : (Lit.int .i64 z).wf = true := by
  simp only [idB, Bool.and_eq_true, decide_eq_true_eq] at h
  exact wf_of_bd (by omega)
def vecD (zs : List Int) : DataW Unit := .agg (zs.map fun z => .lit (.int .i64 z))
theorem vecD_inj {a b : List Int} (h : vecD a = vecD b) : a = b := by
  simp only [vecD, DataW.agg.injEq] at h
  induction a generalizing b with
  | nil => cases b with
    | nil => rfl
    | cons y ys => simp at h
  | cons x xs ih => cases b with
    | nil => simp at h
    | cons y ys =>
      simp only [List.map_cons, List.cons.injEq, DataW.lit.injEq, Lit.int.injEq, true_and] at h
      rw [h.1, ih h.2]
def mapL (xs : List DItem) : List (Lit × DataW Unit) := xs.map fun x => (Lit.int .i64 x.id, vecD x.vec)
def mapD (xs : List DItem) : DataW Unit := .map (mapL xs)

/-- An item among rising ones. -/
def insI (x : DItem) : List DItem → List DItem
  | [] => [x]
  | y :: r => if x.id < y.id then x :: y :: r else y :: insI x r
def dropI (xs : List DItem) (id : Int) : List DItem := xs.filter (fun x => !(x.id == id))
def putI (xs : List DItem) (id : Int) (vec : List Int) : List DItem := insI ⟨id, vec⟩ (dropI xs id)
def hasI (xs : List DItem) (id : Int) : Bool := xs.any (fun x => x.id == id)

theorem same_lit (a b : Int) : (Lit.int .i64 a).sameKey (.int .i64 b) = (a == b) := by
  by_cases h : a = b
  · subst h; simp [Lit.sameKey]
  · simp [Lit.sameKey, h]
theorem has_mapD (xs : List DItem) (id : Int) : Maps.has (mapD xs) (.int .i64 id) = hasI xs id := by
  show (mapL xs).any (fun p => p.1.sameKey (.int .i64 id)) = xs.any (fun x => x.id == id)
  rw [mapL, List.any_map]
  congr 1
  funext x
  exact same_lit _ _
theorem size_mapD (xs : List DItem) : Maps.size (mapD xs) = xs.length := by simp [mapD, mapL, Maps.size]
theorem del_mapD (xs : List DItem) (id : Int) : (mapD xs).del (.int .i64 id) = mapD (dropI xs id) := by
  show DataW.map (delKey _ (mapL xs)) = DataW.map (mapL (dropI xs id))
  congr 1
  rw [delKey, mapL, dropI, mapL, List.filter_map]
  congr 1
  refine List.filter_congr fun x _ => ?_
  show (!(Lit.int .i64 x.id).sameKey (.int .i64 id)) = !(x.id == id)
  rw [same_lit]
theorem insert_mapL (x : DItem) (xs : List DItem) : DataW.insert (Lit.int .i64 x.id, vecD x.vec) (mapL xs) = mapL (insI x xs) := by
  induction xs with
  | nil => rfl
  | cons y r ih =>
    show (if (Lit.int .i64 x.id).before (.int .i64 y.id) then _ else _) = _
    rw [insI]
    by_cases h : x.id < y.id
    · rw [if_pos (by simpa [Lit.before] using h), if_pos h]; rfl
    · rw [if_neg (by simpa [Lit.before] using h), if_neg h]
      show _ :: DataW.insert _ (mapL r) = _
      rw [ih]; rfl
theorem put_mapD (xs : List DItem) (id : Int) (vec : List Int) : (mapD xs).put (.int .i64 id) (vecD vec) = mapD (putI xs id vec) := by
  show DataW.map (DataW.insert _ (delKey _ (mapL xs))) = _
  have h := del_mapD xs id
  have h2 : delKey (.int .i64 id) (mapL xs) = mapL (dropI xs id) := by
    have : DataW.map (delKey (.int .i64 id) (mapL xs)) = DataW.map (mapL (dropI xs id)) := h
    simpa using this
  rw [h2, insert_mapL ⟨id, vec⟩]
  rfl
theorem apart_mapL {xs : List DItem} (h : Rising xs) : (mapL xs).Pairwise (fun p q => p.1 ≠ q.1) := by
  refine List.pairwise_map.2 (h.imp fun {a b} hab e => ?_)
  simp only [Lit.int.injEq, true_and] at e
  omega
theorem at_mapD {xs : List DItem} (h : Rising xs) {x : DItem} (hx : x ∈ xs) (z : DataW Unit) : (mapD xs).atKey (.int .i64 x.id) z = vecD x.vec :=
  WideAt.atKey_mem z trivial (apart_mapL h) (List.mem_map.2 ⟨x, hx, rfl⟩)

/-! ### Rising lists -/
theorem hasI_true {xs : List DItem} {id : Int} (h : hasI xs id = true) : ∃ x ∈ xs, x.id = id := by
  simpa [hasI] using h
theorem hasI_false {xs : List DItem} {id : Int} (h : hasI xs id = false) : ∀ x ∈ xs, x.id ≠ id := by
  simpa [hasI] using h
theorem insI_last (x : DItem) (xs : List DItem) (h : ∀ y ∈ xs, y.id < x.id) : insI x xs = xs ++ [x] := by
  induction xs with
  | nil => rfl
  | cons y r ih =>
    have := h y (by simp)
    rw [insI, if_neg (by omega), ih fun z hz => h z (List.mem_cons_of_mem _ hz)]
    rfl
theorem dropI_none {xs : List DItem} {id : Int} (h : ∀ x ∈ xs, x.id ≠ id) : dropI xs id = xs :=
  List.filter_eq_self.2 fun x hx => by simpa using h x hx
theorem putI_last (xs : List DItem) (x : DItem) (h : ∀ y ∈ xs, y.id < x.id) : putI xs x.id x.vec = xs ++ [x] := by
  rw [putI, dropI_none (fun y hy => by have := h y hy; omega), insI_last _ _ h]
theorem rising_take {xs : List DItem} (h : Rising xs) {k : Nat} (hk : k < xs.length) : ∀ y ∈ xs.take k, y.id < xs[k].id := by
  intro y hy
  obtain ⟨j, hj, rfl⟩ := List.getElem_of_mem hy
  rw [List.length_take] at hj
  rw [List.getElem_take]
  exact List.pairwise_iff_getElem.1 h j k (by omega) hk (by omega)
theorem mem_insI {x y : DItem} {xs : List DItem} : y ∈ insI x xs ↔ y = x ∨ y ∈ xs := by
  induction xs with
  | nil => simp [insI]
  | cons z r ih =>
    rw [insI]
    by_cases h : x.id < z.id
    · rw [if_pos h]; simp
    · rw [if_neg h, List.mem_cons, ih, List.mem_cons]
      constructor
      · rintro (h | h | h) <;> simp [h]
      · rintro (h | h | h) <;> simp [h]
theorem insI_rising {x : DItem} {xs : List DItem} (h : Rising xs) (hn : ∀ y ∈ xs, y.id ≠ x.id) : Rising (insI x xs) := by
  induction xs with
  | nil => exact List.pairwise_singleton _ _
  | cons z r ih =>
    obtain ⟨h1, h2⟩ := List.pairwise_cons.1 h
    have hz := hn z (by simp)
    rw [insI]
    by_cases hlt : x.id < z.id
    · rw [if_pos hlt]
      refine List.pairwise_cons.2 ⟨fun y hy => ?_, h⟩
      rcases List.mem_cons.1 hy with rfl | hy
      · exact hlt
      · exact Int.lt_trans hlt (h1 y hy)
    · rw [if_neg hlt]
      refine List.pairwise_cons.2 ⟨fun y hy => ?_, ih h2 fun y hy => hn y (List.mem_cons_of_mem _ hy)⟩
      rcases mem_insI.1 hy with rfl | hy
      · omega
      · exact h1 y hy
theorem insI_len (x : DItem) (xs : List DItem) : (insI x xs).length = xs.length + 1 := by
  induction xs with
  | nil => rfl
  | cons z r ih =>
    rw [insI]
    by_cases h : x.id < z.id
    · rw [if_pos h]; rfl
    · rw [if_neg h, List.length_cons, ih]; rfl
theorem dropI_rising {xs : List DItem} (h : Rising xs) (id : Int) : Rising (dropI xs id) := h.filter _
theorem mem_dropI {xs : List DItem} {id : Int} {x : DItem} : x ∈ dropI xs id ↔ x ∈ xs ∧ x.id ≠ id := by simp [dropI]
theorem putI_rising {xs : List DItem} (h : Rising xs) (id : Int) (vec : List Int) : Rising (putI xs id vec) := insI_rising (dropI_rising h id) fun _ hy => (mem_dropI.1 hy).2
theorem mem_putI {xs : List DItem} {id : Int} {vec : List Int} {x : DItem} : x ∈ putI xs id vec ↔ x = ⟨id, vec⟩ ∨ (x ∈ xs ∧ x.id ≠ id) := by rw [putI, mem_insI, mem_dropI]
theorem dropI_len {xs : List DItem} (h : Rising xs) {id : Int} (hi : hasI xs id = true) : (dropI xs id).length + 1 = xs.length := by
  induction xs with
  | nil => simp [hasI] at hi
  | cons z r ih =>
    obtain ⟨h1, h2⟩ := List.pairwise_cons.1 h
    by_cases e : z.id = id
    · have : dropI (z :: r) id = r := by
        have hr := dropI_none (xs := r) (id := id) (fun x hx => by have := h1 x hx; omega)
        simp only [dropI, List.filter_cons, e, beq_self_eq_true, Bool.not_true, Bool.false_eq_true, if_false]
        exact hr
      rw [this]; rfl
    · have hi2 : hasI r id = true := by simpa [hasI, e] using hi
      have : dropI (z :: r) id = z :: dropI r id := by simp [dropI, e]
      rw [this, List.length_cons, List.length_cons, ih h2 hi2]
theorem dropI_le (xs : List DItem) (id : Int) : (dropI xs id).length ≤ xs.length := List.length_filter_le _ _
theorem putI_len {xs : List DItem} (h : Rising xs) (id : Int) (vec : List Int) : (putI xs id vec).length = if hasI xs id then xs.length else xs.length + 1 := by
  rw [putI, insI_len]
  by_cases hi : hasI xs id = true
  · rw [if_pos hi]; exact dropI_len h hi
  · rw [if_neg hi, dropI_none (hasI_false (by simpa using hi))]
/-- A right table. -/
def Right (xs : List DItem) : Prop := tableFault xs = 0
theorem right_put {xs : List DItem} (h : Right xs) {id : Int} {vec : List Int} (hi : idB id = true) (hv : vecFault vec = 0) (hroom : hasI xs id = true ∨ xs.length < 30) : Right (putI xs id vec) := by
  obtain ⟨hl, h1, h2⟩ := tableFault_zero h
  refine tableFault_of ?_ (fun x hx => ?_) (putI_rising h2 id vec)
  · rw [putI_len h2]; split
    · exact hl
    · rename_i hn; rcases hroom with h | h
      · exact absurd h hn
      · omega
  · rcases mem_putI.1 hx with rfl | ⟨hx, -⟩
    · exact ⟨hi, hv⟩
    · exact h1 x hx
theorem right_drop {xs : List DItem} (h : Right xs) (id : Int) : Right (dropI xs id) := by
  obtain ⟨hl, h1, h2⟩ := tableFault_zero h
  exact tableFault_of (Nat.le_trans (dropI_le xs id) hl) (fun x hx => h1 x (mem_dropI.1 hx).1) (dropI_rising h2 id)
theorem right_nil : Right [] := rfl

end Go.Proofs.Ythpbdafhjakekaa

namespace Go.Proofs.Ythpbdafhjakekaa
open Go.RowKit

def pickI : Option DItem → DIntsResult
  | some x => ⟨0, x.vec⟩
  | none => ⟨4, []⟩
def getI (xs : List DItem) (id : Int) : DIntsResult :=
  if tableFault xs = 0 then (if idB id then pickI (xs.find? (fun x => x.id == id)) else ⟨3, []⟩) else ⟨tableFault xs, []⟩
theorem tabFrom_vals (p : Option Int) (xs : List DItem) : 0 ≤ tabFrom p xs ∧ tabFrom p xs ≤ 3 := by
  induction xs generalizing p with
  | nil => exact ⟨Int.le_refl _, (show (0 : Int) ≤ 3 by decide)⟩
  | cons x xs ih =>
    rw [tabFrom]
    have hv : 0 ≤ vecFault x.vec ∧ vecFault x.vec ≤ 3 := by unfold vecFault; split <;> (try split) <;> decide
    split
    · split
      · split
        · exact ih _
        · decide
      · exact hv
    · decide
theorem tableFault_vals (xs : List DItem) : 0 ≤ tableFault xs ∧ tableFault xs ≤ 3 := by
  unfold tableFault
  split
  · decide
  · exact tabFrom_vals none xs
theorem code_wf (xs : List DItem) : (Lit.int .i64 (tableFault xs)).wf = true := wf_of_bd (by have := tableFault_vals xs; omega)
theorem own_ints {w : World} {c : Int} {v : Value} {zs : List Int} {lo hi : Nat} (hc : (Lit.int .i64 c).wf = true) (h : (Lay.sl Lay.int).OwnIn w [v] zs lo hi) : Lay.tIntsResult.OwnIn w [.int .i64 c, v] ⟨c, zs⟩ lo hi := by
  obtain ⟨bl, ⟨l, n, f⟩, i⟩ := h
  exact ⟨bl, ⟨⟨[.int .i64 c], [v], [], bl, rfl, by simp, ⟨rfl, hc, rfl⟩, l⟩, n, f⟩, i⟩
theorem own_noInts {w : World} {lo hi : Nat} : (Lay.sl Lay.int).OwnIn w [.slice none 0 0] [] lo hi := ⟨[], ⟨Lay.lies_ints.2 ⟨none, 0, rfl, by simp, by simp, Or.inl ⟨rfl, rfl⟩⟩, by simp, by simp⟩, by simp⟩
theorem own_codeInts {w : World} {c : Int} {lo hi : Nat} (hc : (Lit.int .i64 c).wf = true) : Lay.tIntsResult.OwnIn w [.int .i64 c, .slice none 0 0] ⟨c, []⟩ lo hi := own_ints hc own_noInts
theorem find_at {xs : List DItem} {id : Int} {x : DItem} (h : xs.find? (fun x => x.id == id) = some x) : x ∈ xs ∧ x.id = id := ⟨List.mem_of_find?_eq_some h, by simpa using List.find?_some h⟩
theorem find_none {xs : List DItem} {id : Int} (h : xs.find? (fun x => x.id == id) = none) : hasI xs id = false := by
  rw [List.find?_eq_none] at h
  simpa [hasI] using h

end Go.Proofs.Ythpbdafhjakekaa

namespace Go.Proofs.Ythpbdafhjakekaa
open Go.RowKit

def roomB (xs : List DItem) (id : Int) : Bool := hasI xs id || decide (xs.length < 30)
def putR (xs : List DItem) (id : Int) (vec : List Int) : DTableResult :=
  if tableFault xs = 0 then (if idB id then (if vecFault vec = 0 then (if roomB xs id then ⟨0, putI xs id vec⟩ else ⟨2, []⟩) else ⟨vecFault vec, []⟩) else ⟨3, []⟩) else ⟨tableFault xs, []⟩
def dropR (xs : List DItem) (id : Int) : DTableResult :=
  if tableFault xs = 0 then (if idB id then ⟨0, dropI xs id⟩ else ⟨3, []⟩) else ⟨tableFault xs, []⟩
theorem vecFault_vals (zs : List Int) : 0 ≤ vecFault zs ∧ vecFault zs ≤ 3 := by unfold vecFault; split <;> (try split) <;> decide
theorem vcode_wf (zs : List Int) : (Lit.int .i64 (vecFault zs)).wf = true := wf_of_bd (by have := vecFault_vals zs; omega)
theorem own_items {w : World} {c : Int} {v : Value} {xs : List DItem} {lo hi : Nat} (hc : (Lit.int .i64 c).wf = true) (h : (Lay.sl Lay.tItem).OwnIn w [v] xs lo hi) : Lay.tTableResult.OwnIn w [.int .i64 c, v] ⟨c, xs⟩ lo hi := by
  obtain ⟨bl, ⟨l, n, f⟩, i⟩ := h
  exact ⟨bl, ⟨⟨[.int .i64 c], [v], [], bl, rfl, by simp, ⟨rfl, hc, rfl⟩, l⟩, n, f⟩, i⟩
theorem reads_items {w : World} {c : Int} {v : Value} {xs : List DItem} (hc : (Lit.int .i64 c).wf = true) (h : (Lay.sl Lay.tItem).Reads w [v] xs) : Lay.tTableResult.Reads w [.int .i64 c, v] ⟨c, xs⟩ := by
  obtain ⟨bl, l⟩ := h
  exact ⟨bl, ⟨[.int .i64 c], [v], [], bl, rfl, by simp, ⟨rfl, hc, rfl⟩, l⟩⟩
theorem own_noItems {w : World} {lo hi : Nat} : (Lay.sl Lay.tItem).OwnIn w [.slice none 0 0] [] lo hi := ⟨[], ⟨⟨none, 0, rfl, by simp, Or.inl ⟨rfl, rfl⟩⟩, by simp, by simp⟩, by simp⟩
theorem own_codeItems {w : World} {c : Int} {lo hi : Nat} (hc : (Lit.int .i64 c).wf = true) : Lay.tTableResult.OwnIn w [.int .i64 c, .slice none 0 0] ⟨c, []⟩ lo hi := own_items hc own_noItems
theorem room_true {xs : List DItem} {id : Int} (h : roomB xs id = true) : hasI xs id = true ∨ xs.length < 30 := by simpa [roomB] using h
theorem room_false {xs : List DItem} {id : Int} (h : roomB xs id = false) : hasI xs id = false ∧ 30 ≤ xs.length := by simpa [roomB] using h
theorem right_of {xs : List DItem} (h : tableFault xs = 0) : Right xs := h
/-- Of a right table: how many marks. -/
theorem right_few {xs : List DItem} (h : Right xs) : cntAll Lay.tItem.cnt xs ≤ 1000 := by
  obtain ⟨hl, ha, -⟩ := tableFault_zero h
  have : ∀ ys : List DItem, (∀ x ∈ ys, x.vec.length = 3) → cntAll Lay.tItem.cnt ys ≤ 4 * ys.length := by
    intro ys
    induction ys with
    | nil => intro _; exact Nat.le_refl _
    | cons y ys ih =>
      intro hy
      have h1 := ih fun x hx => hy x (List.mem_cons_of_mem _ hx)
      have h2 : Lay.tItem.cnt y = 4 := by
        show 1 + (Lay.sl Lay.int).cnt y.vec = 4
        have e := hy y (by simp)
        have : cntAll (fun _ => 1) y.vec = y.vec.length := by
          generalize y.vec = zs
          induction zs with
          | nil => rfl
          | cons z zs ih => simp [cntAll, ih]; omega
        show 1 + cntAll (fun _ => 1) y.vec = 4
        omega
      simp only [cntAll, List.length_cons]
      omega
  have := this xs fun x hx => (vecFault_zero (ha x hx).2).1
  omega

end Go.Proofs.Ythpbdafhjakekaa

namespace Go.Proofs.Ythpbdafhjakekaa
open Go.RowKit

/-- Ahead of item x: the new one, if its turn has come. -/
def setNew (nw : DItem) (st : List DItem × Bool) (x : DItem) : List DItem × Bool := if st.2 = false ∧ nw.id ≤ x.id then (st.1 ++ [nw], true) else st
def setOld (nw : DItem) (st : List DItem × Bool) (x : DItem) : List DItem × Bool := if x.id = nw.id then st else (st.1 ++ [x], st.2)
def setStep (nw : DItem) (st : List DItem × Bool) (x : DItem) : List DItem × Bool := setOld nw (setNew nw st x) x
def setFin (nw : DItem) (st : List DItem × Bool) : List DItem := if st.2 then st.1 else st.1 ++ [nw]
def setM (xs : List DItem) (nw : DItem) (has : Bool) : List DItem := setFin nw (xs.foldl (setStep nw) ([], !has))

theorem step_done (nw : DItem) (acc : List DItem) (xs : List DItem) : xs.foldl (setStep nw) (acc, true) = (acc ++ dropI xs nw.id, true) := by
  induction xs generalizing acc with
  | nil => simp [dropI]
  | cons y r ih =>
    rw [List.foldl_cons]
    have e1 : setNew nw (acc, true) y = (acc, true) := by simp [setNew]
    by_cases h : y.id = nw.id
    · have : setStep nw (acc, true) y = (acc, true) := by rw [setStep, e1, setOld, if_pos h]
      rw [this, ih]
      simp [dropI, h]
    · have : setStep nw (acc, true) y = (acc ++ [y], true) := by rw [setStep, e1, setOld, if_neg h]
      rw [this, ih]
      simp [dropI, h]
theorem insI_first (nw : DItem) (xs : List DItem) (h : ∀ y ∈ xs, nw.id < y.id) : insI nw xs = nw :: xs := by
  cases xs with
  | nil => rfl
  | cons y r => rw [insI, if_pos (h y (by simp))]
theorem step_put (nw : DItem) (acc : List DItem) (xs : List DItem) (hr : Rising xs) : setFin nw (xs.foldl (setStep nw) (acc, false)) = acc ++ putI xs nw.id nw.vec := by
  induction xs generalizing acc with
  | nil => simp [setFin, putI, dropI, insI]
  | cons y r ih =>
    obtain ⟨h1, h2⟩ := List.pairwise_cons.1 hr
    rw [List.foldl_cons]
    by_cases hle : nw.id ≤ y.id
    · have e1 : setNew nw (acc, false) y = (acc ++ [nw], true) := by simp [setNew, hle]
      by_cases h : y.id = nw.id
      · have : setStep nw (acc, false) y = (acc ++ [nw], true) := by rw [setStep, e1, setOld, if_pos h]
        rw [this, step_done, setFin]
        have e2 : dropI (y :: r) nw.id = dropI r nw.id := by simp [dropI, h]
        rw [putI, e2, insI_first _ _ (fun z hz => by have := h1 z (mem_dropI.1 hz).1; show nw.id < z.id; omega)]
        simp
      · have : setStep nw (acc, false) y = (acc ++ [nw] ++ [y], true) := by rw [setStep, e1, setOld, if_neg h]
        rw [this, step_done, setFin]
        have e2 : dropI (y :: r) nw.id = y :: dropI r nw.id := by simp [dropI, h]
        rw [putI, e2, insI, if_pos (show nw.id < y.id by omega)]
        simp
    · have e1 : setNew nw (acc, false) y = (acc, false) := by simp [setNew, hle]
      have h : y.id ≠ nw.id := by omega
      have : setStep nw (acc, false) y = (acc ++ [y], false) := by rw [setStep, e1, setOld, if_neg h]
      rw [this, ih _ h2]
      have e2 : dropI (y :: r) nw.id = y :: dropI r nw.id := by simp [dropI, h]
      rw [putI, putI, e2, insI, if_neg (show ¬ nw.id < y.id by omega)]
      simp
theorem setM_put {xs : List DItem} (hr : Rising xs) (nw : DItem) : setM xs nw true = putI xs nw.id nw.vec := by
  have := step_put nw [] xs hr
  simpa [setM] using this
theorem setM_drop (xs : List DItem) (nw : DItem) : setM xs nw false = dropI xs nw.id := by
  have := step_done nw [] xs
  simp only [setM, Bool.not_false]
  rw [this]
  simp [setFin]
theorem setM_len (nw : DItem) (st : List DItem × Bool) (x : DItem) : (setStep nw st x).1.length ≤ st.1.length + 2 := by
  unfold setStep setOld setNew
  split <;> split <;> simp <;> omega

theorem setM_size (xs : List DItem) (nw : DItem) (has : Bool) : (setM xs nw has).length ≤ 2 * xs.length + 1 := by
  have : ∀ (ys : List DItem) (st : List DItem × Bool), (ys.foldl (setStep nw) st).1.length ≤ st.1.length + 2 * ys.length := by
    intro ys
    induction ys with
    | nil => intro st; simp
    | cons y ys ih =>
      intro st
      have h1 := ih (setStep nw st y)
      have h2 := setM_len nw st y
      simp only [List.foldl_cons, List.length_cons]
      omega
  have h := this xs ([], !has)
  unfold setM setFin
  split
  · simp at h; omega
  · simp at h ⊢; omega

end Go.Proofs.Ythpbdafhjakekaa

namespace Go.Proofs.Ythpbdafhjakekaa
open Go.RowKit

structure DNode where
  id : Int
  up : Bool
  epoch : Int
  lease : Int
  writes : List DWrite
  sure : Int
  clean : Int

def Lay.tNode : Lay DNode := Lay.via (Lay.pair Lay.int (Lay.pair Lay.bool (Lay.pair Lay.int (Lay.pair Lay.int (Lay.pair (Lay.sl Lay.tWrite) (Lay.pair Lay.int Lay.int)))))) (fun x => (x.id, x.up, x.epoch, x.lease, x.writes, x.sure, x.clean)) (fun p => ⟨p.1, p.2.1, p.2.2.1, p.2.2.2.1, p.2.2.2.2.1, p.2.2.2.2.2.1, p.2.2.2.2.2.2⟩)

theorem lies_Node {w : World} {cs : List Value} {x : DNode} {bl : List Nat} : Lay.tNode.lies w cs x bl ↔ ∃ (a4 : Option Addr) (d4 : Nat) (b4 : List Nat), cs = [.int .i64 x.id, .bool x.up, .int .i64 x.epoch, .int .i64 x.lease, .slice a4 x.writes.length d4, .int .i64 x.sure, .int .i64 x.clean] ∧ bl = b4 ∧ (Lit.int .i64 x.id).wf = true ∧ (Lit.int .i64 x.epoch).wf = true ∧ (Lit.int .i64 x.lease).wf = true ∧ (Lay.sl Lay.tWrite).lies w [.slice a4 x.writes.length d4] x.writes b4 ∧ (Lit.int .i64 x.sure).wf = true ∧ (Lit.int .i64 x.clean).wf = true := by
  constructor
  · intro h
    obtain ⟨c0_, r0_, e0_, s0_, rfl, rfl, h0, ⟨c1_, r1_, e1_, s1_, rfl, rfl, h1, ⟨c2_, r2_, e2_, s2_, rfl, rfl, h2, ⟨c3_, r3_, e3_, s3_, rfl, rfl, h3, ⟨c4_, r4_, e4_, s4_, rfl, rfl, h4, ⟨c5_, r5_, e5_, s5_, rfl, rfl, h5, h6⟩⟩⟩⟩⟩⟩ := h
    obtain ⟨rfl, w0, rfl⟩ := h0
    obtain ⟨rfl, rfl⟩ := h1
    obtain ⟨rfl, w2, rfl⟩ := h2
    obtain ⟨rfl, w3, rfl⟩ := h3
    have k4 := h4
    obtain ⟨a4, d4, rfl, -⟩ := k4
    obtain ⟨rfl, w5, rfl⟩ := h5
    obtain ⟨rfl, w6, rfl⟩ := h6
    exact ⟨a4, d4, e4_, by simp, by simp, w0, w2, w3, h4, w5, w6⟩
  · rintro ⟨a4, d4, b4, rfl, hbl, w0, w2, w3, l4, w5, w6⟩
    rw [hbl]
    exact ⟨[.int .i64 x.id], [.bool x.up] ++ ([.int .i64 x.epoch] ++ ([.int .i64 x.lease] ++ ([.slice a4 x.writes.length d4] ++ ([.int .i64 x.sure] ++ [.int .i64 x.clean])))), [], [] ++ ([] ++ ([] ++ (b4 ++ ([] ++ ([]))))), rfl, by simp, ⟨rfl, w0, rfl⟩, ⟨[.bool x.up], [.int .i64 x.epoch] ++ ([.int .i64 x.lease] ++ ([.slice a4 x.writes.length d4] ++ ([.int .i64 x.sure] ++ [.int .i64 x.clean]))), [], [] ++ ([] ++ (b4 ++ ([] ++ ([])))), rfl, by simp, ⟨rfl, rfl⟩, ⟨[.int .i64 x.epoch], [.int .i64 x.lease] ++ ([.slice a4 x.writes.length d4] ++ ([.int .i64 x.sure] ++ [.int .i64 x.clean])), [], [] ++ (b4 ++ ([] ++ ([]))), rfl, by simp, ⟨rfl, w2, rfl⟩, ⟨[.int .i64 x.lease], [.slice a4 x.writes.length d4] ++ ([.int .i64 x.sure] ++ [.int .i64 x.clean]), [], b4 ++ ([] ++ ([])), rfl, by simp, ⟨rfl, w3, rfl⟩, ⟨[.slice a4 x.writes.length d4], [.int .i64 x.sure] ++ [.int .i64 x.clean], b4, [] ++ ([]), rfl, by simp, l4, ⟨[.int .i64 x.sure], [.int .i64 x.clean], [], [], rfl, by simp, ⟨rfl, w5, rfl⟩, ⟨rfl, w6, rfl⟩⟩⟩⟩⟩⟩⟩

theorem open_Node {w : World} {cs : List Value} {x : DNode} (h : Lay.tNode.Reads w cs x) : ∃ (a4 : Option Addr) (d4 : Nat), cs = [.int .i64 x.id, .bool x.up, .int .i64 x.epoch, .int .i64 x.lease, .slice a4 x.writes.length d4, .int .i64 x.sure, .int .i64 x.clean] ∧ (Lay.sl Lay.tWrite).Reads w [.slice a4 x.writes.length d4] x.writes := by
  obtain ⟨bl, h⟩ := h
  obtain ⟨a4, d4, b4, rfl, -, w0, w2, w3, l4, w5, w6⟩ := lies_Node.1 h
  exact ⟨a4, d4, rfl, ⟨_, l4⟩⟩

end Go.Proofs.Ythpbdafhjakekaa

namespace Go.Proofs.Ythpbdafhjakekaa
open Go.RowKit

structure DMsg where
  kind : Int
  epoch : Int
  src : Int
  dst : Int
  index : Int
  write : DWrite

def Lay.tMsg : Lay DMsg := Lay.via (Lay.pair Lay.int (Lay.pair Lay.int (Lay.pair Lay.int (Lay.pair Lay.int (Lay.pair Lay.int Lay.tWrite))))) (fun x => (x.kind, x.epoch, x.src, x.dst, x.index, x.write)) (fun p => ⟨p.1, p.2.1, p.2.2.1, p.2.2.2.1, p.2.2.2.2.1, p.2.2.2.2.2⟩)

theorem lies_Msg {w : World} {cs : List Value} {x : DMsg} {bl : List Nat} : Lay.tMsg.lies w cs x bl ↔ ∃ (a7 : Option Addr) (d7 : Nat) (b7 : List Nat), cs = [.int .i64 x.kind, .int .i64 x.epoch, .int .i64 x.src, .int .i64 x.dst, .int .i64 x.index, .int .i64 x.write.kind, .int .i64 x.write.id, .slice a7 x.write.vec.length d7, .int .i64 x.write.session, .int .i64 x.write.seq] ∧ bl = b7 ∧ (Lit.int .i64 x.kind).wf = true ∧ (Lit.int .i64 x.epoch).wf = true ∧ (Lit.int .i64 x.src).wf = true ∧ (Lit.int .i64 x.dst).wf = true ∧ (Lit.int .i64 x.index).wf = true ∧ (Lit.int .i64 x.write.kind).wf = true ∧ (Lit.int .i64 x.write.id).wf = true ∧ (Lay.sl Lay.int).lies w [.slice a7 x.write.vec.length d7] x.write.vec b7 ∧ (Lit.int .i64 x.write.session).wf = true ∧ (Lit.int .i64 x.write.seq).wf = true := by
  constructor
  · intro h
    obtain ⟨c0_, r0_, e0_, s0_, rfl, rfl, h0, ⟨c1_, r1_, e1_, s1_, rfl, rfl, h1, ⟨c2_, r2_, e2_, s2_, rfl, rfl, h2, ⟨c3_, r3_, e3_, s3_, rfl, rfl, h3, ⟨c4_, r4_, e4_, s4_, rfl, rfl, h4, h5⟩⟩⟩⟩⟩ := h
    obtain ⟨rfl, w0, rfl⟩ := h0
    obtain ⟨rfl, w1, rfl⟩ := h1
    obtain ⟨rfl, w2, rfl⟩ := h2
    obtain ⟨rfl, w3, rfl⟩ := h3
    obtain ⟨rfl, w4, rfl⟩ := h4
    obtain ⟨a7, d7, q7, rfl, hq5, w5, w6, l7, w8, w9⟩ := lies_Write.1 h5
    exact ⟨a7, d7, q7, by simp, by simp [hq5], w0, w1, w2, w3, w4, w5, w6, l7, w8, w9⟩
  · rintro ⟨a7, d7, b7, rfl, hbl, w0, w1, w2, w3, w4, w5, w6, l7, w8, w9⟩
    rw [hbl]
    exact ⟨[.int .i64 x.kind], [.int .i64 x.epoch] ++ ([.int .i64 x.src] ++ ([.int .i64 x.dst] ++ ([.int .i64 x.index] ++ [.int .i64 x.write.kind, .int .i64 x.write.id, .slice a7 x.write.vec.length d7, .int .i64 x.write.session, .int .i64 x.write.seq]))), [], [] ++ ([] ++ ([] ++ ([] ++ (b7)))), rfl, by simp, ⟨rfl, w0, rfl⟩, ⟨[.int .i64 x.epoch], [.int .i64 x.src] ++ ([.int .i64 x.dst] ++ ([.int .i64 x.index] ++ [.int .i64 x.write.kind, .int .i64 x.write.id, .slice a7 x.write.vec.length d7, .int .i64 x.write.session, .int .i64 x.write.seq])), [], [] ++ ([] ++ ([] ++ (b7))), rfl, by simp, ⟨rfl, w1, rfl⟩, ⟨[.int .i64 x.src], [.int .i64 x.dst] ++ ([.int .i64 x.index] ++ [.int .i64 x.write.kind, .int .i64 x.write.id, .slice a7 x.write.vec.length d7, .int .i64 x.write.session, .int .i64 x.write.seq]), [], [] ++ ([] ++ (b7)), rfl, by simp, ⟨rfl, w2, rfl⟩, ⟨[.int .i64 x.dst], [.int .i64 x.index] ++ [.int .i64 x.write.kind, .int .i64 x.write.id, .slice a7 x.write.vec.length d7, .int .i64 x.write.session, .int .i64 x.write.seq], [], [] ++ (b7), rfl, by simp, ⟨rfl, w3, rfl⟩, ⟨[.int .i64 x.index], [.int .i64 x.write.kind, .int .i64 x.write.id, .slice a7 x.write.vec.length d7, .int .i64 x.write.session, .int .i64 x.write.seq], [], b7, rfl, by simp, ⟨rfl, w4, rfl⟩, lies_Write.2 ⟨a7, d7, b7, rfl, rfl, w5, w6, l7, w8, w9⟩⟩⟩⟩⟩⟩

theorem open_Msg {w : World} {cs : List Value} {x : DMsg} (h : Lay.tMsg.Reads w cs x) : ∃ (a7 : Option Addr) (d7 : Nat), cs = [.int .i64 x.kind, .int .i64 x.epoch, .int .i64 x.src, .int .i64 x.dst, .int .i64 x.index, .int .i64 x.write.kind, .int .i64 x.write.id, .slice a7 x.write.vec.length d7, .int .i64 x.write.session, .int .i64 x.write.seq] ∧ Lay.tWrite.Reads w [.int .i64 x.write.kind, .int .i64 x.write.id, .slice a7 x.write.vec.length d7, .int .i64 x.write.session, .int .i64 x.write.seq] x.write := by
  obtain ⟨bl, h⟩ := h
  obtain ⟨a7, d7, b7, rfl, -, w0, w1, w2, w3, w4, w5, w6, l7, w8, w9⟩ := lies_Msg.1 h
  exact ⟨a7, d7, rfl, ⟨_, lies_Write.2 ⟨a7, d7, _, rfl, rfl, w5, w6, l7, w8, w9⟩⟩⟩

end Go.Proofs.Ythpbdafhjakekaa
