/-
  l1Source opens a code in new memory; what a row tells of a slice of bytes.
  Condition: at most 1048576 bytes.
-/
import Derived.Test.YtkodenmpadehjabDrawKeep
namespace Go.Proofs.Ytkodenmpadehjab
open Go.RowKit

theorem source (ao : Option Addr) (len cap : Nat) (w : World) :
    Calls Try.prog 13 #[.slice ao len cap] w fun e w' => e = .returned (.pointer (some ⟨w.heap.size, 0, none⟩)) ∧ w.alloc (.cells #[.slice ao len cap, .int .i64 0] 60) = w' := by
  go_enter Try.func13, Try.ntmps13
  go_wp2
  go_ret
  exact ⟨rfl, rfl⟩

theorem src_new (w : World) (cv : Value) : SrcAt (w.alloc (.cells #[cv, .int .i64 0] 60)) w.heap.size cv 0 := heap_alloc_new w _

/-- What a row's reading tells of a slice of bytes that came in. -/
theorem isCode_of_row {w : World} {a : Option Addr} {len cap : Nat} {zs : List Int} (h : (a = none ∧ len = 0 ∧ cap = 0 ∧ zs = []) ∨
    ∃ x, a = some x ∧ len ≤ cap ∧ cap ≤ maxLen ∧ zs.length = cap ∧ (∀ i, i < zs.length → w.cell? (x.add i) = some (.int .u8 (zs.getD i 0))) ∧ ∀ n ∈ zs, (Lit.int .u8 n).wf = true) (hn : len ≤ 1048576) :
    IsCode w.heap.size w (.slice a len cap) := by
  refine ⟨a, len, cap, rfl, hn, fun hp => ?_⟩
  rcases h with ⟨rfl, rfl, rfl, rfl⟩ | ⟨x, rfl, hl, hm, hz, hcell, hwz⟩
  · omega
  · obtain ⟨b, off, spot⟩ := x
    have hc := hcell 0 (by omega)
    have hspot : spot = none := by simpa [Addr.add] using World.cell?_spot hc
    subst hspot
    refine ⟨b, off, rfl, by simpa [Addr.add] using World.block_lt_of_cell? _ _ hc, fun j hj => ⟨zs.getD j 0, ?_, ?_⟩⟩
    · have h1 := hcell j (by omega)
      rwa [Addr.add_lit] at h1
    · have h1 := hwz (zs.getD j 0) (by simp [List.getD, show j < zs.length by omega])
      simpa [Lit.wf, IntKind.min, IntKind.max, IntKind.signed, IntKind.bits] using h1

end Go.Proofs.Ytkodenmpadehjab
