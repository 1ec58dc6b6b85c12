/-
  The law FnExactUnpackWrite answers true at every list of words, and writes nothing that was there.
  No condition.
-/
import Derived.Test.YtgjjmbliahhhjaaLawXUnpackWrite
import Derived.Test.YtgjjmbliahhhjaaImplUnpack
import Derived.Test.YtgjjmbliahhhjaaSpecUnpack
namespace Go.Proofs.Ytgjjmbliahhhjaa
open Go.RowKit

theorem vcnt_unpack (zs : List Int) : Lay.tWriteResult.vcnt (unpackR zs) ≤ 100000000 := by
  rw [vcnt_WriteResult, vcnt_Write, vcnt_ints]
  unfold unpackR
  split
  · simp only [unpackW]
    split <;> simp
  · simp [zeroW]

theorem lawUnpack (ao : Option Addr) (len cap : Nat) (zs : List Int) (w : World) (h : IsInts w (.slice ao len cap) zs) (hc : len ≤ cap) :
    Calls Try.prog 5 #[.slice ao len cap] w fun e w' => e = .returned (.bool true) ∧ Below w.heap.size w w' := by
  have hl : zs.length = len := by obtain ⟨a, c, e, -⟩ := h; simp only [Value.slice.injEq] at e; exact e.2.1.symm
  by_cases hn : len ≤ 1048576
  · have hR : (Lay.sl Lay.int).Reads w [.slice ao len cap] zs := Lay.reads_ints h (fun a c e => by simp only [Value.slice.injEq] at e; omega) (by omega)
    refine lawx_UnpackWrite _ zs (unpackR zs) w hR (by rw [sz_ints]; omega) (fun W v hv => specUnpack v zs W hv) (fun W v hv => implUnpack v zs W hv) (vcnt_unpack zs)
  · exact lawmany_UnpackWrite_0 ao len cap w (by omega)

end Go.Proofs.Ytgjjmbliahhhjaa
