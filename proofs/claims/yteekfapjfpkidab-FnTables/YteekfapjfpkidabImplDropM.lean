/-
  The program's drop in a map of vectors by Ids.
  No condition.
-/
import Derived.Test.YteekfapjfpkidabImplFrom
namespace Go.Proofs.Yteekfapjfpkidab
open Go.RowKit Go.Maps

theorem dropM (b n : Nat) (xs : List DItem) (id : Int) (w : World) (hT : TabAt w b n xs) (hw : (Lit.int .i64 id).wf = true) :
    Calls Try.prog 74 #[.map (some b), .int .i64 id] w fun e w' => e = .returned (.tuple #[]) ∧ TabAt w' b n (dropI xs id) ∧ Ext (fun q => q = b) w w' := by
  have hown : w.ownsMap Try.prog 2 vecR b n (mapD xs) := hT
  have hkey := key64 hw
  clear hT hw
  go_enter Try.func74, Try.ntmps74
  go_wp2_with (at_delete; refine wpList_delete_own _ rfl _ _ 89 2 rfl 109 keyed64 Try.underlying89 vecR b n (mapD xs) rfl hown _ _ rfl hkey ?_)
  intro w1 h1 ht
  rw [del_mapD] at h1
  have HT : Hid (TabAt w1 b n (dropI xs id)) := h1
  have HE := hide (ext_of_turned ht)
  clear h1 ht hown hkey
  go_wp2_with fail
  refine bodyPost_end (v := .tuple #[]) (by simp [results, Try.results74, go_sem]) rfl ?_
  exact ⟨rfl, unhide HT, unhide HE⟩

end Go.Proofs.Yteekfapjfpkidab
