/-
  WritesResult of laws/exact.go: data of the call's own, part by part; how many marks they take.
  No condition.
-/
import Derived.Test.YtkodenmpadehjaaLayWritesResult
namespace Go.Proofs.Ytkodenmpadehjaa
open Go.RowKit

theorem vcnt_WritesResult (x : DWritesResult) : Lay.tWritesResult.vcnt x = (Lay.sl Lay.tWrite).vcnt x.writes := by
  show 0 + ((Lay.sl Lay.tWrite).vcnt x.writes) = (Lay.sl Lay.tWrite).vcnt x.writes
  omega
theorem mkv_WritesResult (k : Int) (x : DWritesResult) : Lay.tWritesResult.mkv k x = ⟨x.code, (Lay.sl Lay.tWrite).mkv (k) x.writes⟩ := by
  simp [Lay.tWritesResult, Lay.via, Lay.pair, Lay.int]
theorem own_WritesResult {w : World} {cs : List Value} {x : DWritesResult} {bl : List Nat} (h : Lay.tWritesResult.Own w cs x bl) : ∃ (a1 : Option Addr) (d1 : Nat) (g1 : List Nat), cs = [.int .i64 x.code, .slice a1 x.writes.length d1] ∧ bl = g1 ∧ (Lay.sl Lay.tWrite).Own w [.slice a1 x.writes.length d1] x.writes g1 ∧ (Lit.int .i64 x.code).wf = true := by
  obtain ⟨hl, hn, hf⟩ := h
  obtain ⟨a1, d1, b1, rfl, hbl, w0, l1⟩ := lies_WritesResult.1 hl
  rw [hbl] at hn hf
  exact ⟨a1, d1, b1, rfl, hbl, ⟨l1, hn, hf⟩, w0⟩
theorem mkOwn_WritesResult {w : World} {x : DWritesResult} {c1 : List Value} {g1 : List Nat} (O1 : (Lay.sl Lay.tWrite).Own w c1 x.writes g1) (v0 : (Lit.int .i64 x.code).wf = true) (hn : (g1).Nodup) : Lay.tWritesResult.Own w ([.int .i64 x.code] ++ c1) x (g1) := by
  refine ⟨⟨[.int .i64 x.code], c1, [], g1, rfl, by simp, ⟨rfl, v0, rfl⟩, O1.1⟩, hn, ?_⟩
  intro b hb o
  exact O1.2.2 b hb o

end Go.Proofs.Ytkodenmpadehjaa
