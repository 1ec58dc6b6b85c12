/-
  The law FnExactAssignAll answers true at all centers and items, and writes nothing that was there.
  No condition.
-/
import Derived.Test.YtjofcmdlcoganaaLawXAssignAll
import Derived.Test.YtjofcmdlcoganaaImplAssign
import Derived.Test.YtjofcmdlcoganaaSpecAssign
namespace Go.Proofs.Ytjofcmdlcoganaa
open Go.RowKit

theorem cnt_intsA (zs : List Int) : cntAll Lay.int.cnt zs = zs.length := by
  induction zs with
  | nil => rfl
  | cons z zs ih =>
    have e : Lay.int.cnt z = 1 := rfl
    simp only [cntAll, ih, e, List.length_cons]
    omega
theorem assignR_few (cs : List DCenter) (xs : List DItem) : Lay.tIntsResult.vcnt (assignR cs xs) ≤ 100000000 := by
  rw [vcnt_IntsResult]
  show cntAll Lay.int.cnt (assignR cs xs).list ≤ 100000000
  rw [cnt_intsA]
  unfold assignR
  split
  · rename_i hf
    have := (tableFault_zero (askFault_zero hf).2).1
    show (placesL cs xs).length ≤ 100000000
    rw [places_len]
    omega
  · exact Nat.zero_le _
theorem lawAssign (v : Value) (cs : List DCenter) (vx : Value) (xs : List DItem) (w : World) (h : (Lay.sl Lay.tCenter).Reads w [v] cs) (hx : (Lay.sl Lay.tItem).Reads w [vx] xs) :
    Calls Try.prog 6 #[v, vx] w fun e w' => e = .returned (.bool true) ∧ Below w.heap.size w w' := by
  by_cases hn : (Lay.sl Lay.tCenter).sz cs + (Lay.sl Lay.tItem).sz xs ≤ 1048576
  · exact lawx_AssignAll v cs vx xs (assignR cs xs) w h hx hn (fun W a b ha hb => (specAssign a cs b xs W ha hb).mono fun e w' ⟨c, h1, h2, h3⟩ => ⟨c, h1, h2.reads, h3⟩) (fun W a b ha hb => implAssign a cs b xs W ha hb) (assignR_few cs xs)
  · exact lawover_AssignAll v cs vx xs w h hx (by omega)

end Go.Proofs.Ytjofcmdlcoganaa
