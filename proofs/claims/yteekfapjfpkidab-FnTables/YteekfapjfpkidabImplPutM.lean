/-
  The program's put and drop in a map of vectors by Ids.
  Condition: the map holds a right table (premises).
-/
import Derived.Test.YteekfapjfpkidabImplFrom
namespace Go.Proofs.Yteekfapjfpkidab
open Go.RowKit Go.Maps

set_option maxRecDepth 10000 in
set_option maxHeartbeats 1000000 in
theorem putM_there (b n : Nat) (xs : List DItem) (id x y z : Int) (w : World) (hT : TabAt w b n xs) (hr : Rising xs) (hn : n < 1000) (hw : (Lit.int .i64 id).wf = true) (hi : hasI xs id = true) :
    Calls Try.prog 69 #[.map (some b), .int .i64 id, arr3 x y z] w fun e w' => e = .returned (.bool true) ∧ TabAt w' b (n + 1) (putI xs id [x, y, z]) ∧ Ext (fun q => q = b) w w' := by
  obtain ⟨a, ha, hai⟩ := hasI_true hi
  have n1 : Below w.heap.size w (w.alloc (.cells #[.int .i64 x, .int .i64 y, .int .i64 z] 109)) := (Below.refl _ _).alloc (Nat.le_refl _) _
  obtain ⟨p, q, r, -, hrun, -⟩ := (hT.later n1).look hr hw ha hai
  have n2 : Below w.heap.size w ((w.alloc (.cells #[.int .i64 x, .int .i64 y, .int .i64 z] 109)).alloc (.cells #[.int .i64 p, .int .i64 q, .int .i64 r] 109)) := n1.alloc (by simp) _
  obtain ⟨w5, hrun5, hT5, hE5⟩ := (hT.later n2).put hn hw x y z
  have HT := hide hT5
  have HE := hide ((ext_of_below n2 (fun q => q = b)).trans hE5)
  simp only [arr3] at hrun hrun5 ⊢
  clear hT5 hE5 n1 n2 hT hr ha hai hi a hw
  go_enter Try.func69, Try.ntmps69
  go_wp2_with fail
  go_ret
  exact ⟨rfl, unhide HT, unhide HE⟩

set_option maxRecDepth 10000 in
set_option maxHeartbeats 1000000 in
theorem putM_new (b n : Nat) (xs : List DItem) (id x y z : Int) (w : World) (hT : TabAt w b n xs) (hn : n < 1000) (hw : (Lit.int .i64 id).wf = true) (hi : hasI xs id = false) (hl : xs.length < 30) :
    Calls Try.prog 69 #[.map (some b), .int .i64 id, arr3 x y z] w fun e w' => e = .returned (.bool true) ∧ TabAt w' b (n + 1) (putI xs id [x, y, z]) ∧ Ext (fun q => q = b) w w' := by
  have n1 : Below w.heap.size w (w.alloc (.cells #[.int .i64 x, .int .i64 y, .int .i64 z] 109)) := (Below.refl _ _).alloc (Nat.le_refl _) _
  obtain ⟨p, q, r, hrun⟩ := (hT.later n1).miss hw hi
  have n2 : Below w.heap.size w ((w.alloc (.cells #[.int .i64 x, .int .i64 y, .int .i64 z] 109)).alloc (.cells #[.int .i64 p, .int .i64 q, .int .i64 r] 109)) := n1.alloc (by simp) _
  have hlen := (hT.later n2).len 3
  obtain ⟨w5, hrun5, hT5, hE5⟩ := (hT.later n2).put hn hw x y z
  have HT := hide hT5
  have HE := hide ((ext_of_below n2 (fun q => q = b)).trans hE5)
  have hd : decide ((30 : Int) ≤ (xs.length : Int)) = false := by simp; omega
  simp only [arr3] at hrun hrun5 ⊢
  clear hT5 hE5 n1 n2 hT hi hw
  go_enter Try.func69, Try.ntmps69
  go_wp2_with fail
  go_ret
  exact ⟨rfl, unhide HT, unhide HE⟩

set_option maxRecDepth 10000 in
set_option maxHeartbeats 1000000 in
theorem putM_full (b n : Nat) (xs : List DItem) (id x y z : Int) (w : World) (hT : TabAt w b n xs) (hw : (Lit.int .i64 id).wf = true) (hi : hasI xs id = false) (hl : 30 ≤ xs.length) :
    Calls Try.prog 69 #[.map (some b), .int .i64 id, arr3 x y z] w fun e w' => e = .returned (.bool false) ∧ Below w.heap.size w w' := by
  have n1 : Below w.heap.size w (w.alloc (.cells #[.int .i64 x, .int .i64 y, .int .i64 z] 109)) := (Below.refl _ _).alloc (Nat.le_refl _) _
  obtain ⟨p, q, r, hrun⟩ := (hT.later n1).miss hw hi
  have n2 : Below w.heap.size w ((w.alloc (.cells #[.int .i64 x, .int .i64 y, .int .i64 z] 109)).alloc (.cells #[.int .i64 p, .int .i64 q, .int .i64 r] 109)) := n1.alloc (by simp) _
  have hlen := (hT.later n2).len 3
  have HE := hide n2
  have hd : decide ((30 : Int) ≤ (xs.length : Int)) = true := by simp; omega
  simp only [arr3] at hrun ⊢
  clear n1 n2 hT hi hw
  go_enter Try.func69, Try.ntmps69
  go_wp2_with fail
  go_ret
  exact ⟨rfl, unhide HE⟩

end Go.Proofs.Yteekfapjfpkidab
