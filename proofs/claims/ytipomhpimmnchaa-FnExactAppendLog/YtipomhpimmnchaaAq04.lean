/-
  Texts of this proof in one: AppInt, AppWrite, WrBox, InB, InC, Fault, WrFault, WrPack, WrZero, WrPackL, LayWriteResult, WResPlain, UnpackPlain, PackFacts, AppInts, SpecIntsB, SpecInts, SpecUnpackB, SpecUnpackPutOk, SpecUnpackPutBad, SpecUnpackOtherOk, SpecUnpackOtherBad.
  Their conditions stand in their theorems.
-/
import Derived.Test.YtipomhpimmnchaaAq01
import Derived.Deep.AppendLies
import Derived.Test.YtipomhpimmnchaaChecked
import Derived.Test.YtipomhpimmnchaaAq02
import Derived.BigQuiet
import Derived.Deep.QuietTactic
import Derived.WalkSmall
import Derived.Deep.RegionHeld3
import Derived.Maps.AppendAt

namespace Go.Proofs.Ytipomhpimmnchaa
open Go.RowKit

theorem grown_alloc {w w' : World} {o : Obj} {r : Option Nat} (h : (w.alloc o).grownBy w' r) : w.grownBy w' r := grown_trans (World.grownBy_alloc w o r) h

/-- At an operation of a plain region: 'append(s, q)', q laid into a block of its own first. -/
theorem wpList_append_int {w1 : World} {base : Nat} {v : Value} {n : Nat} {xs : List Value} (hown : w1.ownsRow base 2 1 v n xs) (q : Int) {ops : Array Oper} {rest : List Oper} {o : Oper} {a : Act} {Q : Exit → Act → World → Prop} (hgd : o.guard = none) (s x : Operand)
    (ho : o.op = .call { callee := .builtin .append, args := #[s, x], argTypes := #[24, 24] }) (hs : a.eval s = v) (hx : a.eval x = .slice (some ⟨w1.heap.size, 0, none⟩) 1 1)
    (hn : n ≤ 100000000) (hbase : base ≤ w1.heap.size)
    (h : ∀ g cap w', w'.ownsRow base 2 1 (.slice (some ⟨g, 0, none⟩) (n + 1) cap) (n + 1) (xs ++ [.int .i64 q]) → w1.grownBy w' v.ownBlock → Below base w1 w' → g < w'.heap.size → w1.heap.size < w'.heap.size → wpList Try.prog ops Q rest (a.put o.dst (.slice (some ⟨g, 0, none⟩) (n + 1) cap)) w') :
    wpList Try.prog ops Q (o :: rest) a (w1.alloc (.cells #[.int .i64 q] 2)) := by
  obtain ⟨i0, hi0, hz0, hz1, hz2⟩ := info_parts info2
  refine wpList_append_lies _ hgd s x 24 ho base 2 i0 _ 1 8 Try.underlying24 hi0 hz0 hz1 hz2 rfl (by omega) v n xs hs (hown.alloc _) ⟨w1.heap.size, 0, none⟩ 1 1 [.int .i64 q] hx rfl (World.news_of_block (cs := #[.int .i64 q]) (t := 2) (fr := (0, 0)) (heap_alloc_new w1 _)) (by simp [Value.oneCell']) (by omega) (by unfold maxLen; omega) (by omega) (by simp; omega) (w1.heap.size + 1) (by simp) ?_
  intro g cap w' h2 h3 _ h5
  have hg := grown_alloc h3
  have hsz := h3.size
  simp only [World.size_alloc] at hsz
  exact h g cap w' h2 hg ((Below.refl _ _).grown hg hbase (fun j hj => (hown.lt j hj).1)) h5 (by omega)

end Go.Proofs.Ytipomhpimmnchaa

namespace Go.Proofs.Ytipomhpimmnchaa
open Go.RowKit

theorem infoAppWrite : (Try.prog.info? 58).map (fun i => (i.zero, i.size, i.bytes)) = some (some (.agg #[.int .i64 0, .int .i64 0, .slice none 0 0, .int .i64 0, .int .i64 0]), 5, 56) := by kernel_rfl
theorem one_Write {w : World} {row : List Value} {x : DWrite} {bl : List Nat} (h : Lay.tWrite.lies w row x bl) : (∀ u ∈ row, u.oneCell' = true) ∧ row.length = 1 * 5 := by
  obtain ⟨_, _, _, rfl, -⟩ := lies_Write.1 h
  simp [Value.oneCell']

/-- At an operation of a plain region: the new one lies in a block of its own. -/
theorem wpList_append_Write {w1 : World} {base : Nat} {v : Value} {rows : List (List Value)} {xs : List DWrite} {bls : List (List Nat)} (hG : Grow Lay.tWrite w1 base 58 v rows xs bls) {row : List Value} {x : DWrite} {bl : List Nat} (hl : Lay.tWrite.lies w1 row x bl) (hbl : ∀ b ∈ bl, v.ownBlock ≠ some b) {ops : Array Oper} {rest : List Oper} {o : Oper} {a : Act} {Q : Exit → Act → World → Prop} (hgd : o.guard = none) (s y : Operand)
    (ho : o.op = .call { callee := .builtin .append, args := #[s, y], argTypes := #[28, 28] }) (hs : a.eval s = v) (hy : a.eval y = .slice (some ⟨w1.heap.size, 0, none⟩) 1 1) (hn : xs.length + 1 ≤ 100000000) (hbase : base ≤ w1.heap.size)
    (h : ∀ g cap w', Grow Lay.tWrite w' base 58 (.slice (some ⟨g, 0, none⟩) (xs.length + 1) cap) (rows ++ [row]) (xs ++ [x]) (bls ++ [bl]) → Below base w1 w' → Ext (fun q => v.ownBlock = some q) w1 w' → g < w'.heap.size → w1.heap.size ≤ w'.heap.size → (v.ownBlock = some g ∨ w1.heap.size ≤ g) → wpList Try.prog ops Q rest (a.put o.dst (.slice (some ⟨g, 0, none⟩) (xs.length + 1) cap)) w') :
    wpList Try.prog ops Q (o :: rest) a (w1.alloc (.cells row.toArray 58)) := by
  obtain ⟨i0, hi0, hz0, hz1, hz2⟩ := info_parts infoAppWrite
  obtain ⟨h1, hlen⟩ := one_Write hl
  refine wpList_append_lies _ hgd s y 28 ho base 58 i0 _ 5 56 Try.underlying28 hi0 hz0 hz1 hz2 rfl (by omega) v xs.length rows.flatten hs (hG.own.alloc _) ⟨w1.heap.size, 0, none⟩ 1 1 row hy hlen (World.news_of_block (cs := row.toArray) (t := 58) (fr := (0, 0)) (heap_alloc_new w1 _)) h1 (by omega) (by unfold maxLen; omega) (by omega) (by simp; omega) (w1.alloc (.cells row.toArray 58)).heap.size rfl ?_
  intro g cap w' h2 h3 h4 h5
  have hg := grown_alloc h3
  have hbw : Below base w1 w' := (Below.refl _ _).grown hg hbase (fun j hj => (hG.own.lt j hj).1)
  have hor : v.ownBlock = some g ∨ w1.heap.size ≤ g := by
    rcases h4 with h4 | h4
    · exact Or.inl h4
    · exact Or.inr (by rw [h4]; simp)
  exact h g cap w' (hG.snoc hl hbl h2 hg hor) hbw ⟨hbw.os, hbw.tape, hbw.output, hbw.size, fun k hk hn => hg.block k hk (fun e => hn e.symm)⟩ h5 hbw.size hor

/-- At a step of a region that draws its order. -/
theorem step_append_Write {w1 : World} {base : Nat} {v : Value} {rows : List (List Value)} {xs : List DWrite} {bls : List (List Nat)} (hG : Grow Lay.tWrite w1 base 58 v rows xs bls) {row : List Value} {x : DWrite} {bl : List Nat} (hl : Lay.tWrite.lies w1 row x bl) (hbl : ∀ b ∈ bl, v.ownBlock ≠ some b) {ops : Array Oper} {o : Oper} {a : Act} {K : Act → World → Prop} {Q : Exit → Act → World → Prop} {E : Prop} (hgd : o.guard = none) (s y : Operand)
    (ho : o.op = .call { callee := .builtin .append, args := #[s, y], argTypes := #[28, 28] }) (hs : a.eval s = v) (hy : a.eval y = .slice (some ⟨w1.heap.size, 0, none⟩) 1 1) (hn : xs.length + 1 ≤ 100000000) (hbase : base ≤ w1.heap.size)
    (h : ∀ g cap w', Grow Lay.tWrite w' base 58 (.slice (some ⟨g, 0, none⟩) (xs.length + 1) cap) (rows ++ [row]) (xs ++ [x]) (bls ++ [bl]) → Below base w1 w' → Ext (fun q => v.ownBlock = some q) w1 w' → g < w'.heap.size → w1.heap.size ≤ w'.heap.size → (v.ownBlock = some g ∨ w1.heap.size ≤ g) → K (a.put o.dst (.slice (some ⟨g, 0, none⟩) (xs.length + 1) cap)) w') :
    if Region.wanted o (yielded ops a.tmps) = true then Oper.wp Try.prog o a (w1.alloc (.cells row.toArray 58)) K Q else E := by
  obtain ⟨i0, hi0, hz0, hz1, hz2⟩ := info_parts infoAppWrite
  obtain ⟨h1, hlen⟩ := one_Write hl
  refine step_append_lies _ hgd s y 28 ho base 58 i0 _ 5 56 Try.underlying28 hi0 hz0 hz1 hz2 rfl (by omega) v xs.length rows.flatten hs (hG.own.alloc _) ⟨w1.heap.size, 0, none⟩ 1 1 row hy hlen (World.news_of_block (cs := row.toArray) (t := 58) (fr := (0, 0)) (heap_alloc_new w1 _)) h1 (by omega) (by unfold maxLen; omega) (by omega) (by simp; omega) (w1.alloc (.cells row.toArray 58)).heap.size rfl ?_
  intro g cap w' h2 h3 h4 h5
  have hg := grown_alloc h3
  have hbw : Below base w1 w' := (Below.refl _ _).grown hg hbase (fun j hj => (hG.own.lt j hj).1)
  have hor : v.ownBlock = some g ∨ w1.heap.size ≤ g := by
    rcases h4 with h4 | h4
    · exact Or.inl h4
    · exact Or.inr (by rw [h4]; simp)
  exact h g cap w' (hG.snoc hl hbl h2 hg hor) hbw ⟨hbw.os, hbw.tape, hbw.output, hbw.size, fun k hk hn => hg.block k hk (fun e => hn e.symm)⟩ h5 hbw.size hor

end Go.Proofs.Ytipomhpimmnchaa

namespace Go.Proofs.Ytipomhpimmnchaa
open Go.RowKit

theorem Box.five {lo : Nat} {x0 x1 x2 x3 x4 : Value} {T : TypeId} {W : World} {s : Nat} (h : Box lo #[x0, x1, x2, x3, x4] T W s) :
    (W.cell? ⟨s, 0, none⟩ = some x0 ∧ W.cell? ⟨s, 1, none⟩ = some x1 ∧ W.cell? ⟨s, 2, none⟩ = some x2 ∧ W.cell? ⟨s, 3, none⟩ = some x3 ∧ W.cell? ⟨s, 4, none⟩ = some x4) ∧ (∀ o, W.frozen? ⟨s, o, none⟩ = false) ∧ s < W.heap.size := by
  refine ⟨⟨?_, ?_, ?_, ?_, ?_⟩, fun o => ?_, h.lt⟩
  all_goals first | simp [World.cell?, h.2] | simp [World.frozen?, h.2]
theorem Box.alloc {lo : Nat} {cs : Array Value} {T : TypeId} {W : World} {s : Nat} (h : Box lo cs T W s) (o : Obj) : Box lo cs T (W.alloc o) s := ⟨h.1, (Below.heap_alloc W o s h.lt).trans h.2⟩

end Go.Proofs.Ytipomhpimmnchaa

namespace Go.Proofs.Ytipomhpimmnchaa
open Go.RowKit

theorem inC (v lo hi : Int) (w : World) :
    Calls Try.prog 71 #[.int .i64 v, .int .i64 lo, .int .i64 hi] w fun e w' => e = .returned (.bool (decide (lo ≤ v) && decide (v ≤ hi))) ∧ w' = w := by
  by_cases h1 : lo ≤ v
  · have d1 : decide (lo ≤ v) = true := by simpa using h1
    rw [d1]
    cases d2 : decide (v ≤ hi) <;>
    · go_enter Try.func71, Try.ntmps71
      go_wp2_with fail
      go_ret
      exact ⟨rfl, rfl⟩
  · have d1 : decide (lo ≤ v) = false := by simpa using h1
    rw [d1]
    go_enter Try.func71, Try.ntmps71
    go_wp2_with fail
    go_ret
    exact ⟨rfl, rfl⟩
theorem idC (x : Int) (w : World) : Calls Try.prog 81 #[.int .i64 x] w fun e w' => e = .returned (.bool (decide (1 ≤ x) && decide (x ≤ 999))) ∧ w' = w := by
  go_enter Try.func81, Try.ntmps81
  go_wp2_with fail
  refine (inC x 1 999 _).mono ?_
  rintro e w1 ⟨rfl, rfl⟩
  go_wp2_with fail
  go_ret
  exact ⟨rfl, rfl⟩

end Go.Proofs.Ytipomhpimmnchaa

namespace Go.Proofs.Ytipomhpimmnchaa
open Go.RowKit

theorem sessionC (x : Int) (w : World) : Calls Try.prog 82 #[.int .i64 x] w fun e w' => e = .returned (.bool (decide (1 ≤ x) && decide (x ≤ 9))) ∧ w' = w := by
  go_enter Try.func82, Try.ntmps82
  go_wp2_with fail
  refine (inC x 1 9 _).mono ?_
  rintro e w1 ⟨rfl, rfl⟩
  go_wp2_with fail
  go_ret
  exact ⟨rfl, rfl⟩

end Go.Proofs.Ytipomhpimmnchaa

namespace Go.Proofs.Ytipomhpimmnchaa
open Go.RowKit

set_option maxHeartbeats 400000 in
theorem implFault_len (ao : Option Addr) (n cap : Nat) (w : World) (h : n ≠ 3) :
    Calls Try.prog 103 #[.slice ao n cap] w fun e w' => e = .returned (.int .i64 1) ∧ w' = w := by
  have h3 : ((n : Int) != 3) = true := by rw [bne_iff_ne]; omega
  go_enter Try.func103, Try.ntmps103
  go_wp2
  go_ret
  exact ⟨rfl, rfl⟩

set_option maxHeartbeats 400000 in
theorem implFault_three (b off cap : Nat) (zs : List Int) (w : World) (h : zs.length = 3) (hc : ∀ j, j < 3 → w.cell? ⟨b, off + j, none⟩ = some (.int .i64 (zs.getD j 0))) :
    Calls Try.prog 103 #[.slice (some ⟨b, off, none⟩) 3 cap] w fun e w' => e = .returned (.int .i64 (vecFault zs)) ∧ w' = w := by
  go_enter Try.func103, Try.ntmps103
  go_wp2
  go_loop [10] (fun i => ∃ k : Nat, k ≤ 3 ∧ i = .int .i64 k ∧ ∀ j, j < k → partB (zs.getD j 0) = true) (fun i => 3 - (intOf i).toNat)
  case atStart => exact ⟨0, Nat.zero_le _, rfl, fun j hj => by omega⟩
  case round =>
    obtain ⟨k, hk, rfl, hg⟩ := hrel
    have HG : Hid (∀ j, j < k → partB (zs.getD j 0) = true) := hg
    have HL : Hid (zs.length = 3) := h
    clear hg h
    by_cases hlt : k < 3
    · have hcx : w.cell? ⟨b, off + k, none⟩ = some (.int .i64 (zs.getD k 0)) := hc k hlt
      obtain ⟨z, hz⟩ : ∃ z, z = zs.getD k 0 := ⟨_, rfl⟩
      rw [← hz] at hcx
      have HZ : Hid (z = zs.getD k 0) := hz
      clear hz hc
      cases hp : partB z with
      | true =>
        have hb := partB_true hp
        have HP : Hid (partB z = true) := hp
        clear hp
        obtain ⟨hb1, hb2⟩ := hb
        go_wp2
        go_round
        case rel =>
          refine ⟨k + 1, by omega, by go_num, fun j hj => ?_⟩
          by_cases hjk : j < k
          · exact HG.out j hjk
          · rw [show j = k by omega, ← HZ.out]; exact HP.out
        case measure => simp [intOf]; omega
      | false =>
        have HV : Hid (vecFault zs = 3) := vecFault_bad HL.out k hlt (by rw [← HZ.out]; exact hp)
        have hb := partB_false hp
        clear hp
        rcases hb with hb | hb
        · go_wp2
          go_ret
          exact ⟨by rw [HV.out]; rfl, rfl⟩
        · have hb1 : -1000 ≤ z := by omega
          have hd : decide (z ≤ 1000) = false := by simp; omega
          go_wp2
          go_ret
          exact ⟨by rw [HV.out]; rfl, rfl⟩
    · have HV : Hid (vecFault zs = 0) := vecFault_ok HL.out (fun j hj => HG.out j (by omega))
      go_wp2
      go_ret
      exact ⟨by rw [HV.out]; rfl, rfl⟩

set_option maxHeartbeats 400000 in
theorem modelFault_len (ao : Option Addr) (n cap : Nat) (w : World) (h : n ≠ 3) :
    Calls Try.prog 83 #[.slice ao n cap] w fun e w' => e = .returned (.int .i64 1) ∧ w' = w := by
  have h3 : ((n : Int) != 3) = true := by rw [bne_iff_ne]; omega
  go_enter Try.func83, Try.ntmps83
  go_wp2
  go_ret
  exact ⟨rfl, rfl⟩

set_option maxHeartbeats 400000 in
theorem modelFault_three (b off cap : Nat) (zs : List Int) (w : World) (h : zs.length = 3) (hc : ∀ j, j < 3 → w.cell? ⟨b, off + j, none⟩ = some (.int .i64 (zs.getD j 0))) :
    Calls Try.prog 83 #[.slice (some ⟨b, off, none⟩) 3 cap] w fun e w' => e = .returned (.int .i64 (vecFault zs)) ∧ w' = w := by
  go_enter Try.func83, Try.ntmps83
  go_wp2
  go_loop [3] (fun i => ∃ k : Nat, k ≤ 3 ∧ i = .int .i64 k ∧ ∀ j, j < k → partB (zs.getD j 0) = true) (fun i => 3 - (intOf i).toNat)
  case atStart => exact ⟨0, Nat.zero_le _, rfl, fun j hj => by omega⟩
  case round =>
    obtain ⟨k, hk, rfl, hg⟩ := hrel
    have HG : Hid (∀ j, j < k → partB (zs.getD j 0) = true) := hg
    have HL : Hid (zs.length = 3) := h
    clear hg h
    by_cases hlt : k < 3
    · have hcx : w.cell? ⟨b, off + k, none⟩ = some (.int .i64 (zs.getD k 0)) := hc k hlt
      obtain ⟨z, hz⟩ : ∃ z, z = zs.getD k 0 := ⟨_, rfl⟩
      rw [← hz] at hcx
      have HZ : Hid (z = zs.getD k 0) := hz
      clear hz hc
      cases hp : partB z with
      | true =>
        have hb := partB_true hp
        have HP : Hid (partB z = true) := hp
        clear hp
        obtain ⟨hb1, hb2⟩ := hb
        go_wp2
        go_round
        case rel =>
          refine ⟨k + 1, by omega, by go_num, fun j hj => ?_⟩
          by_cases hjk : j < k
          · exact HG.out j hjk
          · rw [show j = k by omega, ← HZ.out]; exact HP.out
        case measure => simp [intOf]; omega
      | false =>
        have HV : Hid (vecFault zs = 3) := vecFault_bad HL.out k hlt (by rw [← HZ.out]; exact hp)
        have hb := partB_false hp
        clear hp
        rcases hb with hb | hb
        · go_wp2
          go_ret
          exact ⟨by rw [HV.out]; rfl, rfl⟩
        · have hb1 : -1000 ≤ z := by omega
          have hd : decide (z ≤ 1000) = false := by simp; omega
          go_wp2
          go_ret
          exact ⟨by rw [HV.out]; rfl, rfl⟩
    · have HV : Hid (vecFault zs = 0) := vecFault_ok HL.out (fun j hj => HG.out j (by omega))
      go_wp2
      go_ret
      exact ⟨by rw [HV.out]; rfl, rfl⟩


/-- VecFault of the program. -/
theorem implFault (v : Value) (zs : List Int) (w : World) (h : IsInts w v zs) :
    Calls Try.prog 103 #[v] w fun e w' => e = .returned (.int .i64 (vecFault zs)) ∧ w' = w := by
  obtain ⟨ao, cap, rfl, hwf, hc⟩ := h
  by_cases h3 : zs.length = 3
  · obtain ⟨b, off, rfl, hc1⟩ := hc (by omega)
    rw [h3] at hc1 ⊢
    exact implFault_three b off cap zs w h3 hc1
  · rw [vecFault_len h3]
    exact implFault_len ao zs.length cap w h3

/-- VecFault of the model. -/
theorem modelFault (v : Value) (zs : List Int) (w : World) (h : IsInts w v zs) :
    Calls Try.prog 83 #[v] w fun e w' => e = .returned (.int .i64 (vecFault zs)) ∧ w' = w := by
  obtain ⟨ao, cap, rfl, hwf, hc⟩ := h
  by_cases h3 : zs.length = 3
  · obtain ⟨b, off, rfl, hc1⟩ := hc (by omega)
    rw [h3] at hc1 ⊢
    exact modelFault_three b off cap zs w h3 hc1
  · rw [vecFault_len h3]
    exact modelFault_len ao zs.length cap w h3

end Go.Proofs.Ytipomhpimmnchaa

namespace Go.Proofs.Ytipomhpimmnchaa
open Go.RowKit

def kindB (k : Int) (n : Nat) : Bool := (decide (1 ≤ k) && decide (k ≤ 2)) && !(k == 2 && decide (0 < (n : Int)))
def boundB (i s q : Int) : Bool := (decide (1 ≤ i) && decide (i ≤ 999)) && ((decide (1 ≤ s) && decide (s ≤ 9)) && (decide (1 ≤ q) && decide (q ≤ 999)))
/-- What is wrong with a write. -/
def writeFault (k i : Int) (zs : List Int) (s q : Int) : Int :=
  if kindB k zs.length then (if boundB i s q then (if k = 1 then vecFault zs else 0) else 3) else 1

/-- The write that the pointer b points at. -/
def WriteAt (w : World) (b : Nat) (k i : Int) (v : Value) (s q : Int) : Prop :=
  w.cell? ⟨b, 0, none⟩ = some (.int .i64 k) ∧ w.cell? ⟨b, 1, none⟩ = some (.int .i64 i) ∧ w.cell? ⟨b, 2, none⟩ = some v ∧ w.cell? ⟨b, 3, none⟩ = some (.int .i64 s) ∧ w.cell? ⟨b, 4, none⟩ = some (.int .i64 q)
theorem WriteAt.later {w w' : World} {b : Nat} {k i s q : Int} {v : Value} (h : WriteAt w b k i v s q) (hb : Below w.heap.size w w') : WriteAt w' b k i v s q :=
  ⟨cell_keep hb h.1, cell_keep hb h.2.1, cell_keep hb h.2.2.1, cell_keep hb h.2.2.2.1, cell_keep hb h.2.2.2.2⟩

/-- The write at an element's place. -/
def WriteAtO (w : World) (b o : Nat) (k i : Int) (v : Value) (s q : Int) : Prop :=
  w.cell? ⟨b, o, none⟩ = some (.int .i64 k) ∧ w.cell? ⟨b, o + 1, none⟩ = some (.int .i64 i) ∧ w.cell? ⟨b, o + 2, none⟩ = some v ∧ w.cell? ⟨b, o + 3, none⟩ = some (.int .i64 s) ∧ w.cell? ⟨b, o + 4, none⟩ = some (.int .i64 q)

set_option maxRecDepth 100000 in
set_option maxHeartbeats 1000000 in
theorem l3FaultO (b o : Nat) (k i : Int) (v : Value) (s q : Int) (zs : List Int) (w : World) (hc : WriteAtO w b o k i v s q) (h : IsInts w v zs) :
    Calls Try.prog 53 #[.pointer (some ⟨b, o, none⟩)] w fun e w' => e = .returned (.int .i64 (writeFault k i zs s q)) ∧ w' = w := by
  have hv : ∃ a c, v = .slice a zs.length c := by obtain ⟨a, c, h, -⟩ := h; exact ⟨a, c, h⟩
  obtain ⟨av, cv, rfl⟩ := hv
  obtain ⟨c0, c1, c2, c3, c4⟩ := hc
  have HH := hide h
  clear h
  generalize hF : writeFault k i zs s q = F
  have HF := hide hF
  clear hF
  cases d1 : (decide (1 ≤ k) && decide (k ≤ 2)) with
  | false =>
    have hE : F = 1 := by rw [← unhide HF, writeFault, kindB, d1]; rfl
    subst hE
    go_enter Try.func53, Try.ntmps53
    go_wp2_with fail
    refine (inC k 1 2 _).mono ?_
    rintro e w1 ⟨rfl, rfl⟩
    rw [d1]
    go_wp2_with fail
    go_ret
    exact ⟨rfl, rfl⟩
  | true =>
    have hk : k = 1 ∨ k = 2 := by
      simp only [Bool.and_eq_true, decide_eq_true_eq] at d1
      omega
    clear d1
    rcases hk with rfl | rfl
    · have hK : kindB 1 zs.length = true := rfl
      cases dI : (decide (1 ≤ i) && decide (i ≤ 999)) with
      | false =>
        have hE : F = 3 := by rw [← unhide HF, writeFault, hK, if_pos rfl, boundB, dI]; rfl
        subst hE
        go_enter Try.func53, Try.ntmps53
        go_wp2_with fail
        refine (inC 1 1 2 _).mono ?_
        rintro e w1 ⟨rfl, rfl⟩
        go_wp2_with fail
        refine (idC i _).mono ?_
        rintro e w1 ⟨rfl, rfl⟩
        rw [dI]
        go_wp2_with fail
        go_ret
        exact ⟨rfl, rfl⟩
      | true =>
        cases dS : (decide (1 ≤ s) && decide (s ≤ 9)) with
        | false =>
          have hE : F = 3 := by rw [← unhide HF, writeFault, hK, if_pos rfl, boundB, dI, dS]; rfl
          subst hE
          go_enter Try.func53, Try.ntmps53
          go_wp2_with fail
          refine (inC 1 1 2 _).mono ?_
          rintro e w1 ⟨rfl, rfl⟩
          go_wp2_with fail
          refine (idC i _).mono ?_
          rintro e w1 ⟨rfl, rfl⟩
          rw [dI]
          go_wp2_with fail
          refine (sessionC s _).mono ?_
          rintro e w1 ⟨rfl, rfl⟩
          rw [dS]
          go_wp2_with fail
          go_ret
          exact ⟨rfl, rfl⟩
        | true =>
          cases dQ : (decide (1 ≤ q) && decide (q ≤ 999)) with
          | false =>
            have hE : F = 3 := by rw [← unhide HF, writeFault, hK, if_pos rfl, boundB, dI, dS, dQ]; rfl
            subst hE
            go_enter Try.func53, Try.ntmps53
            go_wp2_with fail
            refine (inC 1 1 2 _).mono ?_
            rintro e w1 ⟨rfl, rfl⟩
            go_wp2_with fail
            refine (idC i _).mono ?_
            rintro e w1 ⟨rfl, rfl⟩
            rw [dI]
            go_wp2_with fail
            refine (sessionC s _).mono ?_
            rintro e w1 ⟨rfl, rfl⟩
            rw [dS]
            go_wp2_with fail
            refine (inC q 1 999 _).mono ?_
            rintro e w1 ⟨rfl, rfl⟩
            rw [dQ]
            go_wp2_with fail
            go_ret
            exact ⟨rfl, rfl⟩
          | true =>
            have hE : F = vecFault zs := by rw [← unhide HF, writeFault, hK, if_pos rfl, boundB, dI, dS, dQ]; rfl
            subst hE
            go_enter Try.func53, Try.ntmps53
            go_wp2_with fail
            refine (inC 1 1 2 _).mono ?_
            rintro e w1 ⟨rfl, rfl⟩
            go_wp2_with fail
            refine (idC i _).mono ?_
            rintro e w1 ⟨rfl, rfl⟩
            rw [dI]
            go_wp2_with fail
            refine (sessionC s _).mono ?_
            rintro e w1 ⟨rfl, rfl⟩
            rw [dS]
            go_wp2_with fail
            refine (inC q 1 999 _).mono ?_
            rintro e w1 ⟨rfl, rfl⟩
            rw [dQ]
            go_wp2_with fail
            refine (modelFault _ zs _ (unhide HH)).mono ?_
            rintro e w1 ⟨rfl, rfl⟩
            go_wp2_with fail
            go_ret
            exact ⟨rfl, rfl⟩
    · by_cases hz : zs.length = 0
      · obtain rfl : zs = [] := List.eq_nil_of_length_eq_zero hz
        have hK : kindB 2 ([] : List Int).length = true := rfl
        simp only [List.length_nil] at c2 hK
        clear hz
        cases dI : (decide (1 ≤ i) && decide (i ≤ 999)) with
        | false =>
          have hE : F = 3 := by rw [← unhide HF, writeFault, show kindB 2 ([] : List Int).length = true from rfl, if_pos rfl, boundB, dI]; rfl
          subst hE
          go_enter Try.func53, Try.ntmps53
          go_wp2_with fail
          refine (inC 2 1 2 _).mono ?_
          rintro e w1 ⟨rfl, rfl⟩
          go_wp2_with fail
          refine (idC i _).mono ?_
          rintro e w1 ⟨rfl, rfl⟩
          rw [dI]
          go_wp2_with fail
          go_ret
          exact ⟨rfl, rfl⟩
        | true =>
          cases dS : (decide (1 ≤ s) && decide (s ≤ 9)) with
          | false =>
            have hE : F = 3 := by rw [← unhide HF, writeFault, show kindB 2 ([] : List Int).length = true from rfl, if_pos rfl, boundB, dI, dS]; rfl
            subst hE
            go_enter Try.func53, Try.ntmps53
            go_wp2_with fail
            refine (inC 2 1 2 _).mono ?_
            rintro e w1 ⟨rfl, rfl⟩
            go_wp2_with fail
            refine (idC i _).mono ?_
            rintro e w1 ⟨rfl, rfl⟩
            rw [dI]
            go_wp2_with fail
            refine (sessionC s _).mono ?_
            rintro e w1 ⟨rfl, rfl⟩
            rw [dS]
            go_wp2_with fail
            go_ret
            exact ⟨rfl, rfl⟩
          | true =>
            cases dQ : (decide (1 ≤ q) && decide (q ≤ 999)) with
            | false =>
              have hE : F = 3 := by rw [← unhide HF, writeFault, show kindB 2 ([] : List Int).length = true from rfl, if_pos rfl, boundB, dI, dS, dQ]; rfl
              subst hE
              go_enter Try.func53, Try.ntmps53
              go_wp2_with fail
              refine (inC 2 1 2 _).mono ?_
              rintro e w1 ⟨rfl, rfl⟩
              go_wp2_with fail
              refine (idC i _).mono ?_
              rintro e w1 ⟨rfl, rfl⟩
              rw [dI]
              go_wp2_with fail
              refine (sessionC s _).mono ?_
              rintro e w1 ⟨rfl, rfl⟩
              rw [dS]
              go_wp2_with fail
              refine (inC q 1 999 _).mono ?_
              rintro e w1 ⟨rfl, rfl⟩
              rw [dQ]
              go_wp2_with fail
              go_ret
              exact ⟨rfl, rfl⟩
            | true =>
              have hE : F = 0 := by rw [← unhide HF, writeFault, show kindB 2 ([] : List Int).length = true from rfl, if_pos rfl, boundB, dI, dS, dQ]; rfl
              subst hE
              go_enter Try.func53, Try.ntmps53
              go_wp2_with fail
              refine (inC 2 1 2 _).mono ?_
              rintro e w1 ⟨rfl, rfl⟩
              go_wp2_with fail
              refine (idC i _).mono ?_
              rintro e w1 ⟨rfl, rfl⟩
              rw [dI]
              go_wp2_with fail
              refine (sessionC s _).mono ?_
              rintro e w1 ⟨rfl, rfl⟩
              rw [dS]
              go_wp2_with fail
              refine (inC q 1 999 _).mono ?_
              rintro e w1 ⟨rfl, rfl⟩
              rw [dQ]
              go_wp2_with fail
              go_ret
              exact ⟨rfl, rfl⟩
      · have hE : F = 1 := by
          have : kindB 2 zs.length = false := by simp [kindB]; omega
          rw [← unhide HF, writeFault, this]; rfl
        subst hE
        obtain ⟨m, hm⟩ : ∃ m, zs.length = m + 1 := ⟨zs.length - 1, by omega⟩
        rw [hm] at c2
        clear hz hm
        go_enter Try.func53, Try.ntmps53
        go_wp2_with fail
        refine (inC 2 1 2 _).mono ?_
        rintro e w1 ⟨rfl, rfl⟩
        go_wp2_with fail
        go_ret
        exact ⟨rfl, rfl⟩

theorem l3Fault (b : Nat) (k i : Int) (v : Value) (s q : Int) (zs : List Int) (w : World) (hc : WriteAt w b k i v s q) (h : IsInts w v zs) :
    Calls Try.prog 53 #[.pointer (some ⟨b, 0, none⟩)] w fun e w' => e = .returned (.int .i64 (writeFault k i zs s q)) ∧ w' = w :=
  l3FaultO b 0 k i v s q zs w hc h

end Go.Proofs.Ytipomhpimmnchaa

namespace Go.Proofs.Ytipomhpimmnchaa
open Go.RowKit

/-- What the last word is. -/
def checkOf (n : Int) : Int := (n.tmod 997 + 997).tmod 997
theorem tmod_bd (n : Int) : -997 < n.tmod 997 ∧ n.tmod 997 < 997 := ⟨by have := Int.lt_tmod_of_pos n (b := 997) (by omega); omega, Int.tmod_lt_of_pos n (by omega)⟩
/-- The sum that the last word tells of. -/
def packSum (k i s q x y z : Int) : Int := k + 3 * i + 5 * s + 7 * q + 11 * x + 13 * y + 17 * z

set_option maxRecDepth 100000 in
set_option maxHeartbeats 1000000 in
theorem l3Pack_putO (b o vb off cap : Nat) (i s q x y z : Int) (w : World) (hc : WriteAtO w b o 1 i (.slice (some ⟨vb, off, none⟩) 3 cap) s q)
    (hx : w.cell? ⟨vb, off, none⟩ = some (.int .i64 x) ∧ w.cell? ⟨vb, off + 1, none⟩ = some (.int .i64 y) ∧ w.cell? ⟨vb, off + 2, none⟩ = some (.int .i64 z))
    (hi : 1 ≤ i ∧ i ≤ 999) (hs : 1 ≤ s ∧ s ≤ 9) (hq : 1 ≤ q ∧ q ≤ 999) (bx : -1000 ≤ x ∧ x ≤ 1000) (bY : -1000 ≤ y ∧ y ≤ 1000) (bz : -1000 ≤ z ∧ z ≤ 1000) :
    Calls Try.prog 66 #[.pointer (some ⟨b, o, none⟩)] w fun e w' => ∃ g : Nat, e = .returned (.slice (some ⟨g, 0, none⟩) 8 8) ∧
      w'.ownsRow w.heap.size 2 1 (.slice (some ⟨g, 0, none⟩) 8 8) 8 ([1, i, s, q, x, y, z, checkOf (packSum 1 i s q x y z)].map (Value.int .i64)) ∧ Below w.heap.size w w' := by
  obtain ⟨c0, c1, c2, c3, c4⟩ := hc
  obtain ⟨x0, x1, x2⟩ := hx
  obtain ⟨i1, i2⟩ := hi
  obtain ⟨s1, s2⟩ := hs
  obtain ⟨q1, q2⟩ := hq
  obtain ⟨m1, m2⟩ := bx
  obtain ⟨m3, m4⟩ := bY
  obtain ⟨m5, m6⟩ := bz
  have LV : Hid (Calls Try.prog 90 #[.pointer (some ⟨b, o, none⟩)] w fun e w' => e = .returned (.slice (some ⟨vb, off, none⟩) 3 cap) ∧ w' = w) := by
    go_enter Try.func90, Try.ntmps90
    go_wp2_with fail
    go_ret
    exact ⟨rfl, rfl⟩
  have HS : Hid (packSum 1 i s q x y z = 1 + 3 * i + 5 * s + 7 * q + 11 * x + 13 * y + 17 * z) := by
    show packSum 1 i s q x y z = 1 + 3 * i + 5 * s + 7 * q + 11 * x + 13 * y + 17 * z
    unfold packSum
    omega
  go_enter Try.func66, Try.ntmps66
  go_wp2_with fail
  refine (unhide LV).mono ?_
  rintro e w1 ⟨rfl, rfl⟩
  go_wp2_with fail
  go_quiet (fail)
  have hS1 : -41000 ≤ 1 + 3 * i + 5 * s + 7 * q + 11 * x + 13 * y + 17 * z := by omega
  have hS2 : 1 + 3 * i + 5 * s + 7 * q + 11 * x + 13 * y + 17 * z ≤ 60000 := by omega
  generalize 1 + 3 * i + 5 * s + 7 * q + 11 * x + 13 * y + 17 * z = S0 at *
  have hT := tmod_bd S0
  have hT1 : IntKind.i64.wrap (S0.tmod 997 + 997) = S0.tmod 997 + 997 := by rw [IntKind.wrap_i64]; omega
  have HC : Hid (checkOf (packSum 1 i s q x y z) = (S0.tmod 997 + 997).tmod 997) := by
    show checkOf (packSum 1 i s q x y z) = (S0.tmod 997 + 997).tmod 997
    rw [unhide HS]
    rfl
  clear hT HS
  go_wp2_with fail
  first
    | go_region_held3 (fun w' => w'.cell? ⟨b, o, none⟩ = some (.int .i64 1) ∧ w'.cell? ⟨b, o + 1, none⟩ = some (.int .i64 i) ∧ w'.cell? ⟨b, o + 3, none⟩ = some (.int .i64 s) ∧ w'.cell? ⟨b, o + 4, none⟩ = some (.int .i64 q) ∧ w'.cell? ⟨vb, off, none⟩ = some (.int .i64 x) ∧ w'.cell? ⟨vb, off + 1, none⟩ = some (.int .i64 y) ∧ w'.cell? ⟨vb, off + 2, none⟩ = some (.int .i64 z))
        (first
          | exact ⟨c0, c1, c3, c4, x0, x1, x2⟩
          | (refine ⟨(World.grownBy_alloc _ _ none).cell ?_ (by simp), (World.grownBy_alloc _ _ none).cell ?_ (by simp), (World.grownBy_alloc _ _ none).cell ?_ (by simp), (World.grownBy_alloc _ _ none).cell ?_ (by simp), (World.grownBy_alloc _ _ none).cell ?_ (by simp), (World.grownBy_alloc _ _ none).cell ?_ (by simp), (World.grownBy_alloc _ _ none).cell ?_ (by simp)⟩ <;> assumption)
          | go_keep)
        (fail)
    | fail
  have BE : Hid (∀ n ob, Below w1.heap.size w1 ((w1.drewN n).alloc ob)) := fun n ob => (below_drawn (Below.refl w1.heap.size w1) n).alloc (Nat.le_refl _) ob
  clear c0 c1 c3 c4 x0 x1 x2
  go_wp2_with fail
  go_ret
  refine ⟨_, rfl, ?_, unhide BE _ _⟩
  rw [unhide HC]
  exact World.ownsRow_lit _ _ 8 (Nat.le_refl _) (by unfold maxLen; omega) rfl

set_option maxRecDepth 100000 in
set_option maxHeartbeats 1000000 in
theorem l3Pack_dropO (b o : Nat) (i : Int) (v : Value) (s q : Int) (w : World) (hc : WriteAtO w b o 2 i v s q)
    (hi : 1 ≤ i ∧ i ≤ 999) (hs : 1 ≤ s ∧ s ≤ 9) (hq : 1 ≤ q ∧ q ≤ 999) :
    Calls Try.prog 66 #[.pointer (some ⟨b, o, none⟩)] w fun e w' => ∃ g : Nat, e = .returned (.slice (some ⟨g, 0, none⟩) 8 8) ∧
      w'.ownsRow w.heap.size 2 1 (.slice (some ⟨g, 0, none⟩) 8 8) 8 ([2, i, s, q, 0, 0, 0, checkOf (packSum 2 i s q 0 0 0)].map (Value.int .i64)) ∧ Below w.heap.size w w' := by
  obtain ⟨c0, c1, c2, c3, c4⟩ := hc
  obtain ⟨i1, i2⟩ := hi
  obtain ⟨s1, s2⟩ := hs
  obtain ⟨q1, q2⟩ := hq
  have LV : Hid (Calls Try.prog 90 #[.pointer (some ⟨b, o, none⟩)] w fun e w' => e = .returned (.slice (some ⟨w.heap.size, 0, none⟩) 3 3) ∧ w.alloc (.cells #[.int .i64 0, .int .i64 0, .int .i64 0] 2) = w') := by
    go_enter Try.func90, Try.ntmps90
    go_wp2_with fail
    go_ret
    exact ⟨rfl, rfl⟩
  have B0 : Below w.heap.size w (w.alloc (.cells #[.int .i64 0, .int .i64 0, .int .i64 0] 2)) := (Below.refl _ _).alloc (Nat.le_refl _) _
  replace c0 := cell_keep B0 c0
  replace c1 := cell_keep B0 c1
  replace c3 := cell_keep B0 c3
  replace c4 := cell_keep B0 c4
  have x0 : (w.alloc (.cells #[.int .i64 0, .int .i64 0, .int .i64 0] 2)).cell? ⟨w.heap.size, 0, none⟩ = some (.int .i64 0) := by simp [go_sem]
  have x1 : (w.alloc (.cells #[.int .i64 0, .int .i64 0, .int .i64 0] 2)).cell? ⟨w.heap.size, 1, none⟩ = some (.int .i64 0) := by simp [go_sem]
  have x2 : (w.alloc (.cells #[.int .i64 0, .int .i64 0, .int .i64 0] 2)).cell? ⟨w.heap.size, 2, none⟩ = some (.int .i64 0) := by simp [go_sem]
  clear c2
  have HS : Hid (packSum 2 i s q 0 0 0 = 2 + 3 * i + 5 * s + 7 * q) := by
    show packSum 2 i s q 0 0 0 = 2 + 3 * i + 5 * s + 7 * q
    unfold packSum
    omega
  go_enter Try.func66, Try.ntmps66
  go_wp2_with fail
  refine (unhide LV).mono ?_
  rintro e w1 ⟨rfl, hw1⟩
  rw [hw1] at c0 c1 c3 c4 x0 x1 x2 B0
  clear hw1
  go_wp2_with fail
  go_quiet (fail)
  have hS1 : -41000 ≤ 2 + 3 * i + 5 * s + 7 * q := by omega
  have hS2 : 2 + 3 * i + 5 * s + 7 * q ≤ 60000 := by omega
  generalize 2 + 3 * i + 5 * s + 7 * q = S0 at *
  have hT := tmod_bd S0
  have hT1 : IntKind.i64.wrap (S0.tmod 997 + 997) = S0.tmod 997 + 997 := by rw [IntKind.wrap_i64]; omega
  have HC : Hid (checkOf (packSum 2 i s q 0 0 0) = (S0.tmod 997 + 997).tmod 997) := by
    show checkOf (packSum 2 i s q 0 0 0) = (S0.tmod 997 + 997).tmod 997
    rw [unhide HS]
    rfl
  clear hT HS
  go_wp2_with fail
  first
    | go_region_held3 (fun w' => w'.cell? ⟨b, o, none⟩ = some (.int .i64 2) ∧ w'.cell? ⟨b, o + 1, none⟩ = some (.int .i64 i) ∧ w'.cell? ⟨b, o + 3, none⟩ = some (.int .i64 s) ∧ w'.cell? ⟨b, o + 4, none⟩ = some (.int .i64 q) ∧ w'.cell? ⟨w.heap.size, 0, none⟩ = some (.int .i64 0) ∧ w'.cell? ⟨w.heap.size, 1, none⟩ = some (.int .i64 0) ∧ w'.cell? ⟨w.heap.size, 2, none⟩ = some (.int .i64 0))
        (first
          | exact ⟨c0, c1, c3, c4, x0, x1, x2⟩
          | (refine ⟨(World.grownBy_alloc _ _ none).cell ?_ (by simp), (World.grownBy_alloc _ _ none).cell ?_ (by simp), (World.grownBy_alloc _ _ none).cell ?_ (by simp), (World.grownBy_alloc _ _ none).cell ?_ (by simp), (World.grownBy_alloc _ _ none).cell ?_ (by simp), (World.grownBy_alloc _ _ none).cell ?_ (by simp), (World.grownBy_alloc _ _ none).cell ?_ (by simp)⟩ <;> assumption)
          | go_keep)
        (fail)
    | fail
  have BSZ := B0.size
  have BE : Hid (∀ n ob, Below w.heap.size w ((w1.drewN n).alloc ob)) := fun n ob => (below_drawn B0 n).alloc B0.size ob
  clear c0 c1 c3 c4 x0 x1 x2
  go_wp2_with fail
  go_ret
  refine ⟨_, rfl, ?_, unhide BE _ _⟩
  rw [unhide HC]
  exact World.ownsRow_lit _ _ 8 (by exact BSZ) (by unfold maxLen; omega) rfl

end Go.Proofs.Ytipomhpimmnchaa

namespace Go.Proofs.Ytipomhpimmnchaa
open Go.RowKit

/-- A write without a fault. -/
theorem writeFault_zero {k i s q : Int} {zs : List Int} (h : writeFault k i zs s q = 0) : (1 ≤ i ∧ i ≤ 999) ∧ (1 ≤ s ∧ s ≤ 9) ∧ (1 ≤ q ∧ q ≤ 999) ∧ ((k = 1 ∧ vecFault zs = 0) ∨ (k = 2 ∧ zs = [])) := by
  unfold writeFault at h
  split at h
  · next hk =>
    split at h
    · next hb =>
      simp only [kindB, Bool.and_eq_true, decide_eq_true_eq, Bool.not_eq_true', Bool.and_eq_false_iff] at hk
      simp only [boundB, Bool.and_eq_true, decide_eq_true_eq] at hb
      refine ⟨hb.1, hb.2.1, hb.2.2, ?_⟩
      by_cases h1 : k = 1
      · rw [if_pos h1] at h
        exact Or.inl ⟨h1, h⟩
      · have h2 : k = 2 := by omega
        refine Or.inr ⟨h2, ?_⟩
        rcases hk.2 with h3 | h3
        · simp [h2] at h3
        · simp at h3
          exact h3
    · omega
  · omega

end Go.Proofs.Ytipomhpimmnchaa

namespace Go.Proofs.Ytipomhpimmnchaa
open Go.RowKit

/-- The parts of a write's vector (of a drop three times 0). -/
def partsOf (k : Int) (zs : List Int) : List Int := if k = 1 then zs else [0, 0, 0]
/-- The eight words. -/
def wordsOf (k i : Int) (zs : List Int) (s q : Int) : List Int :=
  [k, i, s, q, (partsOf k zs).getD 0 0, (partsOf k zs).getD 1 0, (partsOf k zs).getD 2 0, checkOf (packSum k i s q ((partsOf k zs).getD 0 0) ((partsOf k zs).getD 1 0) ((partsOf k zs).getD 2 0))]
def packList (k i : Int) (zs : List Int) (s q : Int) : List Int := if writeFault k i zs s q = 0 then wordsOf k i zs s q else []

/-- What a function that answers an IntsResult tells. -/
def ToldInts (w w' : World) (e : Ending) (c : Int) (l : List Int) : Prop := ∃ r, e = .returned (intsRes c r) ∧ w'.ownsRow w.heap.size 2 1 r l.length (l.map (Value.int .i64)) ∧ Below w.heap.size w w'
theorem toldInts_nil {w w' : World} {c : Int} (h : Below w.heap.size w w') : ToldInts w w' (.returned (intsRes c (.slice none 0 0))) c [] := ⟨_, rfl, World.ownsRow_nil _ _ _ _, h⟩

theorem l3PackO (b o : Nat) (k i : Int) (v : Value) (s q : Int) (zs : List Int) (w : World) (hc : WriteAtO w b o k i v s q) (h : IsInts w v zs) (hf : writeFault k i zs s q = 0) :
    Calls Try.prog 66 #[.pointer (some ⟨b, o, none⟩)] w fun e w' => ∃ g : Nat, e = .returned (.slice (some ⟨g, 0, none⟩) 8 8) ∧
      w'.ownsRow w.heap.size 2 1 (.slice (some ⟨g, 0, none⟩) 8 8) 8 ((wordsOf k i zs s q).map (Value.int .i64)) ∧ Below w.heap.size w w' := by
  obtain ⟨hi, hs, hq, hk⟩ := writeFault_zero hf
  rcases hk with ⟨rfl, hv⟩ | ⟨rfl, rfl⟩
  · obtain ⟨hl, -⟩ := vecFault_zero hv
    match zs, hl with
    | [x, y, z], _ =>
    obtain ⟨b1, b2, b3⟩ := fault3 hv
    obtain ⟨ao, cap, rfl, -, hcells⟩ := h
    obtain ⟨vb, off, rfl, hcl⟩ := hcells (by simp)
    have e0 := hcl 0 (by simp)
    have e1 := hcl 1 (by simp)
    have e2 := hcl 2 (by simp)
    exact l3Pack_putO b o vb off cap i s q x y z w hc ⟨e0, e1, e2⟩ hi hs hq b1 b2 b3
  · exact l3Pack_dropO b o i v s q w hc hi hs hq
theorem l3Pack (b : Nat) (k i : Int) (v : Value) (s q : Int) (zs : List Int) (w : World) (hc : WriteAt w b k i v s q) (h : IsInts w v zs) (hf : writeFault k i zs s q = 0) :
    Calls Try.prog 66 #[.pointer (some ⟨b, 0, none⟩)] w fun e w' => ∃ g : Nat, e = .returned (.slice (some ⟨g, 0, none⟩) 8 8) ∧
      w'.ownsRow w.heap.size 2 1 (.slice (some ⟨g, 0, none⟩) 8 8) 8 ((wordsOf k i zs s q).map (Value.int .i64)) ∧ Below w.heap.size w w' :=
  l3PackO b 0 k i v s q zs w hc h hf

end Go.Proofs.Ytipomhpimmnchaa

namespace Go.Proofs.Ytipomhpimmnchaa
open Go.RowKit

structure DWriteResult where
  code : Int
  write : DWrite

def Lay.tWriteResult : Lay DWriteResult := Lay.via (Lay.pair Lay.int Lay.tWrite) (fun x => (x.code, x.write)) (fun p => ⟨p.1, p.2⟩)

theorem lies_WriteResult {w : World} {cs : List Value} {x : DWriteResult} {bl : List Nat} : Lay.tWriteResult.lies w cs x bl ↔ ∃ (a3 : Option Addr) (d3 : Nat) (b3 : List Nat), cs = [.int .i64 x.code, .int .i64 x.write.kind, .int .i64 x.write.id, .slice a3 x.write.vec.length d3, .int .i64 x.write.session, .int .i64 x.write.seq] ∧ bl = b3 ∧ (Lit.int .i64 x.code).wf = true ∧ (Lit.int .i64 x.write.kind).wf = true ∧ (Lit.int .i64 x.write.id).wf = true ∧ (Lay.sl Lay.int).lies w [.slice a3 x.write.vec.length d3] x.write.vec b3 ∧ (Lit.int .i64 x.write.session).wf = true ∧ (Lit.int .i64 x.write.seq).wf = true := by
  constructor
  · intro h
    obtain ⟨c0_, r0_, e0_, s0_, rfl, rfl, h0, h1⟩ := h
    obtain ⟨rfl, w0, rfl⟩ := h0
    obtain ⟨a3, d3, q3, rfl, hq1, w1, w2, l3, w4, w5⟩ := lies_Write.1 h1
    exact ⟨a3, d3, q3, by simp, by simp [hq1], w0, w1, w2, l3, w4, w5⟩
  · rintro ⟨a3, d3, b3, rfl, hbl, w0, w1, w2, l3, w4, w5⟩
    rw [hbl]
    exact ⟨[.int .i64 x.code], [.int .i64 x.write.kind, .int .i64 x.write.id, .slice a3 x.write.vec.length d3, .int .i64 x.write.session, .int .i64 x.write.seq], [], b3, rfl, by simp, ⟨rfl, w0, rfl⟩, lies_Write.2 ⟨a3, d3, b3, rfl, rfl, w1, w2, l3, w4, w5⟩⟩

theorem open_WriteResult {w : World} {cs : List Value} {x : DWriteResult} (h : Lay.tWriteResult.Reads w cs x) : ∃ (a3 : Option Addr) (d3 : Nat), cs = [.int .i64 x.code, .int .i64 x.write.kind, .int .i64 x.write.id, .slice a3 x.write.vec.length d3, .int .i64 x.write.session, .int .i64 x.write.seq] ∧ Lay.tWrite.Reads w [.int .i64 x.write.kind, .int .i64 x.write.id, .slice a3 x.write.vec.length d3, .int .i64 x.write.session, .int .i64 x.write.seq] x.write := by
  obtain ⟨bl, h⟩ := h
  obtain ⟨a3, d3, b3, rfl, -, w0, w1, w2, l3, w4, w5⟩ := lies_WriteResult.1 h
  exact ⟨a3, d3, rfl, ⟨_, lies_Write.2 ⟨a3, d3, _, rfl, rfl, w1, w2, l3, w4, w5⟩⟩⟩

end Go.Proofs.Ytipomhpimmnchaa

namespace Go.Proofs.Ytipomhpimmnchaa
open Go.RowKit

def zeroW : DWrite := ⟨0, 0, [], 0, 0⟩

/-- A result with a code alone. -/
theorem own_badW {w : World} {c : Int} {lo hi : Nat} (hw : (Lit.int .i64 c).wf = true) : Lay.tWriteResult.OwnIn w [.int .i64 c, .int .i64 0, .int .i64 0, .slice none 0 0, .int .i64 0, .int .i64 0] ⟨c, zeroW⟩ lo hi :=
  ⟨[], ⟨lies_WriteResult.2 ⟨none, 0, [], rfl, rfl, hw, rfl, rfl, Lay.lies_ints.2 ⟨none, 0, rfl, ⟨by simp [zeroW], by simp [zeroW]⟩, by simp [zeroW], Or.inl ⟨rfl, rfl⟩⟩, rfl, rfl⟩, by simp, by simp⟩, by simp⟩
/-- A result with a write. -/
theorem own_okW {w : World} {x : DWrite} {v : Value} {lo hi : Nat} (h : (Lay.sl Lay.int).OwnIn w [v] x.vec lo hi) (h1 : (Lit.int .i64 x.kind).wf = true) (h2 : (Lit.int .i64 x.id).wf = true) (h3 : (Lit.int .i64 x.session).wf = true) (h4 : (Lit.int .i64 x.seq).wf = true) :
    Lay.tWriteResult.OwnIn w [.int .i64 0, .int .i64 x.kind, .int .i64 x.id, v, .int .i64 x.session, .int .i64 x.seq] ⟨0, x⟩ lo hi := by
  obtain ⟨bl, ⟨hl, hn, hf⟩, hb⟩ := h
  have hl' := hl
  obtain ⟨ao, cap, e, -⟩ := hl'
  obtain rfl : v = .slice ao x.vec.length cap := by simpa using e
  exact ⟨bl, ⟨lies_WriteResult.2 ⟨ao, cap, bl, rfl, rfl, rfl, h1, h2, hl, h3, h4⟩, hn, hf⟩, hb⟩

end Go.Proofs.Ytipomhpimmnchaa

namespace Go.Proofs.Ytipomhpimmnchaa
open Go.RowKit

def unpackW (zs : List Int) : DWrite := ⟨zs.getD 0 0, zs.getD 1 0, if zs.getD 0 0 = 1 then [zs.getD 4 0, zs.getD 5 0, zs.getD 6 0] else [], zs.getD 2 0, zs.getD 3 0⟩
def packD (x : DWrite) : List Int := packList x.kind x.id x.vec x.session x.seq
def unpackR (zs : List Int) : DWriteResult := if zs.length = 8 ∧ packD (unpackW zs) = zs then ⟨0, unpackW zs⟩ else ⟨5, zeroW⟩

theorem unpackR_len {zs : List Int} (h : zs.length ≠ 8) : unpackR zs = ⟨5, zeroW⟩ := by rw [unpackR, if_neg (fun q => h q.1)]
theorem eight {zs : List Int} (h : zs.length = 8) : ∃ a b c d e f g k, zs = [a, b, c, d, e, f, g, k] := by
  match zs, h with
  | [a, b, c, d, e, f, g, k], _ => exact ⟨a, b, c, d, e, f, g, k, rfl⟩

end Go.Proofs.Ytipomhpimmnchaa

namespace Go.Proofs.Ytipomhpimmnchaa
open Go.RowKit

theorem checkOf_bd (n : Int) : -1000 ≤ checkOf n ∧ checkOf n ≤ 1000 := by have := tmod_bd (n.tmod 997 + 997); unfold checkOf; omega
theorem packList_len {k i s q : Int} {zs : List Int} : (packList k i zs s q).length ≤ 8 := by
  unfold packList
  split <;> simp [wordsOf]
theorem packList_wf {k i s q : Int} {zs : List Int} : ∀ z ∈ packList k i zs s q, (Lit.int .i64 z).wf = true := by
  intro z hz
  unfold packList at hz
  split at hz
  · next hf =>
    obtain ⟨hi, hs, hq, hk⟩ := writeFault_zero hf
    have hp : ∀ j, -1000 ≤ (partsOf k zs).getD j 0 ∧ (partsOf k zs).getD j 0 ≤ 1000 := by
      intro j
      rcases hk with ⟨rfl, hv⟩ | ⟨rfl, rfl⟩
      · obtain ⟨hl, hb⟩ := vecFault_zero hv
        by_cases hj : j < 3
        · have := hb j hj
          simpa [partsOf] using this
        · simp [partsOf, List.getD, List.getElem?_eq_none (show zs.length ≤ j by omega)]
      · rcases (show j = 0 ∨ j = 1 ∨ j = 2 ∨ 3 ≤ j by omega) with rfl | rfl | rfl | h
        · simp [partsOf]
        · simp [partsOf]
        · simp [partsOf]
        · have e : (partsOf 2 []).length ≤ j := by simpa [partsOf] using h
          simp [List.getD, List.getElem?_eq_none e]
    have hkb : 1 ≤ k ∧ k ≤ 2 := by rcases hk with ⟨rfl, _⟩ | ⟨rfl, _⟩ <;> omega
    have hcb := checkOf_bd (packSum k i s q ((partsOf k zs).getD 0 0) ((partsOf k zs).getD 1 0) ((partsOf k zs).getD 2 0))
    have h0 := hp 0
    have h1 := hp 1
    have h2 := hp 2
    simp only [wordsOf, List.mem_cons, List.not_mem_nil, or_false] at hz
    rcases hz with rfl | rfl | rfl | rfl | rfl | rfl | rfl | rfl <;> exact wf_of_bd (by omega)
  · simp at hz

end Go.Proofs.Ytipomhpimmnchaa

namespace Go.Proofs.Ytipomhpimmnchaa
open Go.RowKit

theorem append_noneI {P : Program} (t ty e : TypeId) (i : TypeInfo) (ht : P.underlying t = some (.slice e)) (hi : P.info? e = some i) (bo : Option Addr) (n cap c : Nat) (hn : n ≤ cap) (w : World) :
    (Builtin.append_ #[t, t] ty #[.slice bo n cap, .slice none 0 c]).run P w = (Builtin.append_ #[t, t] ty #[.slice bo n cap, .slice (some ⟨0, 0, none⟩) 0 c]).run P w := by
  simp [Builtin.append_, run_underlying ht, sizeOf, typeInfo, hi, Builtin.lenOf, hn, Builtin.firstCells, loadCells, loadCellsFrom]

theorem IsInts.news {w : World} {b off cap : Nat} {zs : List Int} (h : IsInts w (.slice (some ⟨b, off, none⟩) zs.length cap) zs) (hp : 0 < zs.length) : ∀ j u, (zs.map (Value.int .i64))[j]? = some u → w.cell? ((⟨b, off, none⟩ : Addr).add j) = some u := by
  intro j u hu
  obtain ⟨ao, cp, hv, hwf, hc⟩ := h
  obtain ⟨b', off', hao, hc1⟩ := hc hp
  simp only [Value.slice.injEq] at hv
  obtain ⟨rfl, -, -⟩ := hv
  simp only [Option.some.injEq, Addr.mk.injEq, and_true] at hao
  obtain ⟨rfl, rfl⟩ := hao
  have hj : j < zs.length := by
    have := (List.getElem?_eq_some_iff.1 hu).1
    simpa using this
  rw [Addr.add_lit, hc1 j hj]
  simp [hj] at hu
  simp [List.getD, hj, hu]

theorem run_append_ints {w : World} (base ty : Nat) (v : Value) (n : Nat) (xs : List Value) (hown : w.ownsRow base 2 1 v n xs) (x : Value) (ks : List Int) (hx : IsInts w x ks)
    (hn : n + ks.length ≤ 100000000) (hbase : base ≤ w.heap.size) :
    ∃ v' w', (Builtin.append_ #[24, 24] ty #[v, x]).run Try.prog w = .ok v' w' ∧ w'.ownsRow base 2 1 v' (n + ks.length) (xs ++ ks.map (Value.int .i64)) ∧ w.grownBy w' v.ownBlock := by
  obtain ⟨i0, hi, hz0, hz1, hz2⟩ := info_parts info2
  have hml : n + ks.length ≤ maxLen := by unfold maxLen; omega
  by_cases hp : 0 < ks.length
  · have hx' := hx
    obtain ⟨ao, cap, rfl, hwf, hc⟩ := hx'
    obtain ⟨b, off, rfl, hc1⟩ := hc hp
    obtain ⟨v', w', r1, r2, r3, -, -⟩ := run_append_own_at (P := Try.prog) w base 24 ty 2 i0 _ 1 8 Try.underlying24 hi hz0 hz1 hz2 rfl (by omega) v n xs hown ⟨b, off, none⟩ ks.length cap (ks.map (Value.int .i64)) (by simp) (hx.news hp) (by simp [Value.oneCell']) hml (by omega) hbase
    exact ⟨v', w', r1, r2, r3⟩
  · obtain rfl : ks = [] := List.eq_nil_of_length_eq_zero (by omega)
    obtain ⟨ao, cap, rfl, hwf, hc⟩ := hx
    cases ao with
    | none =>
      obtain ⟨v', w', r1, r2, r3, -, -⟩ := run_append_own_at (P := Try.prog) w base 24 ty 2 i0 _ 1 8 Try.underlying24 hi hz0 hz1 hz2 rfl (by omega) v n xs hown ⟨0, 0, none⟩ 0 cap [] rfl (by simp) (by simp) hml (by simp at hn; omega) hbase
      refine ⟨v', w', ?_, r2, r3⟩
      rcases hown.2 with ⟨rfl, h0⟩ | ⟨g, cp, cur, rfl, _, _, hle, _⟩
      · exact (append_noneI _ _ _ i0 Try.underlying24 hi none 0 0 cap (Nat.le_refl _) w).trans r1
      · exact (append_noneI _ _ _ i0 Try.underlying24 hi _ n cp cap hle w).trans r1
    | some ad =>
      obtain ⟨v', w', r1, r2, r3, -, -⟩ := run_append_own_at (P := Try.prog) w base 24 ty 2 i0 _ 1 8 Try.underlying24 hi hz0 hz1 hz2 rfl (by omega) v n xs hown ad 0 cap [] rfl (by simp) (by simp) hml (by simp at hn; omega) hbase
      exact ⟨v', w', r1, r2, r3⟩

/-- The same at an operation of a plain region. -/
theorem wpList_append_ints {w : World} {base : Nat} {v : Value} {n : Nat} {xs : List Value} (hown : w.ownsRow base 2 1 v n xs) {X : Value} {ks : List Int} (hx : IsInts w X ks)
    {ops : Array Oper} {rest : List Oper} {o : Oper} {a : Act} {Q : Exit → Act → World → Prop} (hgd : o.guard = none) (s x : Operand)
    (ho : o.op = .call { callee := .builtin .append, args := #[s, x], argTypes := #[24, 24] }) (hv : a.eval s = v) (hX : a.eval x = X)
    (hn : n + ks.length ≤ 100000000) (hbase : base ≤ w.heap.size)
    (h : ∀ v' w', w'.ownsRow base 2 1 v' (n + ks.length) (xs ++ ks.map (Value.int .i64)) → w.grownBy w' v.ownBlock → Below base w w' → wpList Try.prog ops Q rest (a.put o.dst v') w') :
    wpList Try.prog ops Q (o :: rest) a w := by
  refine wpList_plain hgd fun K hK => ?_
  obtain ⟨v', w', hr, h2, h3⟩ := run_append_ints base o.type v n xs hown X ks hx hn hbase
  unfold Oper.wp execOp
  simp only [ho, resolve, invoke, builtin, Sem.run_bind, Sem.run_pure, Result.andThen_ok, List.map_toArray, List.map_cons, List.map_nil, hv, hX, hr]
  exact hK _ _ (h v' w' h2 h3 ((Below.refl _ _).grown h3 hbase (fun j hj => (hown.lt j hj).1)))

end Go.Proofs.Ytipomhpimmnchaa

namespace Go.Proofs.Ytipomhpimmnchaa
open Go.RowKit

set_option maxHeartbeats 400000 in
theorem l1Ints (v : Value) (zs : List Int) (w : World) (h : IsInts w v zs) (hn : zs.length ≤ 100000000) :
    Calls Try.prog 65 #[v] w fun e w' => ∃ v', e = .returned v' ∧ w'.ownsRow w.heap.size 2 1 v' zs.length (zs.map (Value.int .i64)) ∧ Below w.heap.size w w' := by
  have nb : Below w.heap.size w (w.alloc (.cells #[] 2)) := (Below.refl _ _).alloc (Nat.le_refl _) _
  have O : (w.alloc (.cells #[] 2)).ownsRow w.heap.size 2 1 (.slice (some ⟨w.heap.size, 0, none⟩) 0 0) 0 [] := World.ownsRow_lit w _ 0 (Nat.le_refl _) (by unfold maxLen; omega) rfl
  have h1 := h.later nb
  obtain ⟨ao, cap, rfl, -⟩ := h
  have HB := hide nb
  clear nb
  go_enter Try.func65, Try.ntmps65
  go_wp2_with (at_builtin; refine wpList_append_ints O h1 rfl _ _ rfl rfl rfl (by omega) (by simp) ?_)
  rintro v' w' O2 - hb
  have HB2 := hide ((unhide HB).trans hb)
  clear O h1 hb HB
  go_wp2_with fail
  go_ret
  exact ⟨v', rfl, by simpa using O2, unhide HB2⟩

end Go.Proofs.Ytipomhpimmnchaa

namespace Go.Proofs.Ytipomhpimmnchaa
open Go.RowKit

theorem ne_at_l1Same {ps qs : List Int} {k : Nat} (h : ps.getD k 0 ≠ qs.getD k 0) : decide (ps = qs) = false := by
  simp only [decide_eq_false_iff_not]
  rintro rfl
  exact h rfl
theorem eq_all_l1Same {ps qs : List Int} (hl : ps.length = qs.length) (h : ∀ j, j < ps.length → ps.getD j 0 = qs.getD j 0) : decide (ps = qs) = true := by
  simp only [decide_eq_true_eq]
  refine List.ext_getElem hl fun j h1 h2 => ?_
  have := h j h1
  simpa [List.getD, h1, h2] using this

set_option maxHeartbeats 800000 in
theorem l1Same_pos (b off cap b2 off2 cap2 : Nat) (ps qs : List Int) (w : World) (hl : ps.length = qs.length) (hn : ps.length ≤ 9223372036854775807) (hc : ∀ j, j < ps.length → w.cell? ⟨b, off + j, none⟩ = some (.int .i64 (ps.getD j 0)))
    (hc2 : ∀ j, j < ps.length → w.cell? ⟨b2, off2 + j, none⟩ = some (.int .i64 (qs.getD j 0))) :
    Calls Try.prog 100 #[.slice (some ⟨b, off, none⟩) ps.length cap, .slice (some ⟨b2, off2, none⟩) ps.length cap2] w fun e w' => e = .returned (.bool (decide (ps = qs))) ∧ Below w.heap.size w w' := by
  have HL := hide hl
  clear hl
  go_enter Try.func100, Try.ntmps100
  go_wp2
  go_loopw [5] (fun i wr => ∃ k : Nat, k ≤ ps.length ∧ i = .int .i64 k ∧ Below w.heap.size w wr ∧ ∀ j, j < k → ps.getD j 0 = qs.getD j 0) (fun i _ => ps.length - (intOf i).toNat)
  case atStart => exact ⟨0, Nat.zero_le _, rfl, Below.refl _ _, fun j hj => by omega⟩
  case round =>
    obtain ⟨k, hk, rfl, hB, hq⟩ := hrel
    by_cases hlt : k < ps.length
    · have hcx : wr.cell? ⟨b, off + k, none⟩ = some (.int .i64 (ps.getD k 0)) := (hB.cell (World.block_lt_of_cell? _ _ (hc k hlt))).trans (hc k hlt)
      have hcy : wr.cell? ⟨b2, off2 + k, none⟩ = some (.int .i64 (qs.getD k 0)) := (hB.cell (World.block_lt_of_cell? _ _ (hc2 k hlt))).trans (hc2 k hlt)
      have HQ := hide hq
      have HB := hide hB
      clear hc hc2 hq hB
      by_cases he : ps.getD k 0 = qs.getD k 0
      · have HE := hide he
        rw [← he] at hcy
        clear he
        generalize ps.getD k 0 = x at hcx hcy
        have hxx : (x != x) = false := by simp
        go_wp2
        go_quiet (fail)
        go_wp2
        go_roundw
        case rel =>
          refine ⟨k + 1, by omega, by go_num, below_drewN (unhide HB) _, fun j hj => ?_⟩
          by_cases hjk : j < k
          · exact unhide HQ j hjk
          · obtain rfl : j = k := by omega
            exact unhide HE
        case measure => simp [intOf]; omega
      · have HN := hide (ne_at_l1Same he)
        have hxy : (ps.getD k 0 != qs.getD k 0) = true := by rw [bne_iff_ne]; exact he
        clear he
        generalize ps.getD k 0 = x at hcx hxy
        generalize qs.getD k 0 = y at hcy hxy
        go_wp2
        go_quiet (fail)
        go_wp2
        go_ret
        exact ⟨by rw [unhide HN]; rfl, below_drewN (unhide HB) _⟩
    · obtain rfl : k = ps.length := by omega
      have HN := hide (eq_all_l1Same (unhide HL) hq)
      have HB := hide hB
      clear hc hc2 hq hB
      go_wp2
      go_ret
      exact ⟨by rw [unhide HN]; rfl, unhide HB⟩
set_option maxHeartbeats 400000 in
theorem l1Same_len (ao ao2 : Option Addr) (n m cap cap2 : Nat) (w : World) (h : n ≠ m) :
    Calls Try.prog 100 #[.slice ao n cap, .slice ao2 m cap2] w fun e w' => e = .returned (.bool false) ∧ Below w.heap.size w w' := by
  have hd : ((n : Int) != (m : Int)) = true := by rw [bne_iff_ne]; omega
  go_enter Try.func100, Try.ntmps100
  go_wp2
  go_ret
  exact ⟨rfl, Below.refl _ _⟩
theorem l1Same_zero (ao ao2 : Option Addr) (cap cap2 : Nat) (w : World) :
    Calls Try.prog 100 #[.slice ao 0 cap, .slice ao2 0 cap2] w fun e w' => e = .returned (.bool true) ∧ Below w.heap.size w w' := by
  go_enter Try.func100, Try.ntmps100
  go_wp2
  refine wp_loop_rounds 1 ?_
  rw [rounds_succ]
  go_wp2
  go_ret
  exact ⟨rfl, Below.refl _ _⟩
/-- Whether two lists of numbers are the same. -/
theorem l1Same (v v2 : Value) (ps qs : List Int) (w : World) (h : IsInts w v ps) (h2 : IsInts w v2 qs) (hn : ps.length ≤ 9223372036854775807) :
    Calls Try.prog 100 #[v, v2] w fun e w' => e = .returned (.bool (decide (ps = qs))) ∧ Below w.heap.size w w' := by
  obtain ⟨ao, cap, rfl, hwf, hc⟩ := h
  obtain ⟨ao2, cap2, rfl, _, hc2⟩ := h2
  by_cases hl : ps.length = qs.length
  · by_cases hp : 0 < ps.length
    · obtain ⟨b, off, rfl, hc1⟩ := hc hp
      obtain ⟨b2, off2, rfl, hc3⟩ := hc2 (by omega)
      rw [← hl] at hc3 ⊢
      exact l1Same_pos b off cap b2 off2 cap2 ps qs w hl hn hc1 hc3
    · obtain rfl : ps = [] := List.eq_nil_of_length_eq_zero (by omega)
      obtain rfl : qs = [] := List.eq_nil_of_length_eq_zero (by simpa using hl.symm)
      exact l1Same_zero ao ao2 cap cap2 w
  · rw [show decide (ps = qs) = false by simp only [decide_eq_false_iff_not]; rintro rfl; exact hl rfl]
    exact l1Same_len ao ao2 _ _ cap cap2 w hl

end Go.Proofs.Ytipomhpimmnchaa

namespace Go.Proofs.Ytipomhpimmnchaa
open Go.RowKit

/-- What l3Unpack tells: a write, whether it is right. -/
def ToldU (w w' : World) (e : Ending) (x : DWrite) (ok : Bool) : Prop := ∃ cs, e = .returned (.tuple #[.agg cs.toArray, .bool ok]) ∧ Lay.tWrite.LiesIn w' cs x w.heap.size w'.heap.size ∧ Below w.heap.size w w'

theorem readsW {w : World} {x : DWrite} {v : Value} {lo hi : Nat} (h : (Lay.sl Lay.int).LiesIn w [v] x.vec lo hi) (h1 : (Lit.int .i64 x.kind).wf = true) (h2 : (Lit.int .i64 x.id).wf = true) (h3 : (Lit.int .i64 x.session).wf = true) (h4 : (Lit.int .i64 x.seq).wf = true) :
    Lay.tWrite.LiesIn w [.int .i64 x.kind, .int .i64 x.id, v, .int .i64 x.session, .int .i64 x.seq] x lo hi := by
  obtain ⟨bl, hl, hb⟩ := h
  have hl' := hl
  obtain ⟨ao, cap, e, -⟩ := hl'
  obtain rfl : v = .slice ao x.vec.length cap := by simpa using e
  exact ⟨bl, lies_Write.2 ⟨ao, cap, bl, rfl, rfl, h1, h2, hl, h3, h4⟩, hb⟩

/-- A write stored into the result's own block: what is known of the others stays. -/
theorem storeS {w wa : World} {sx hi : Nat} {xs cs : Array Value} {T T2 : TypeId} {cv : List Value} {zs : List Int} {vs : List Value} (hb : Below w.heap.size w wa) (bX : Box 0 xs T wa sx) (bR : Box 0 cs T2 wa w.heap.size) (hv : (Lay.sl Lay.int).LiesIn wa cv zs (sx + 1) hi) (hz : hi ≤ wa.heap.size) (hsx : w.heap.size < sx) (hl : cs.size = vs.length) :
    Below w.heap.size w (setAll wa w.heap.size 0 vs) ∧ Box 0 xs T (setAll wa w.heap.size 0 vs) sx ∧ (∃ cs' : Array Value, cs'.size = vs.length ∧ Box 0 cs' T2 (setAll wa w.heap.size 0 vs) w.heap.size) ∧ (Lay.sl Lay.int).LiesIn (setAll wa w.heap.size 0 vs) cv zs (sx + 1) hi ∧ hi ≤ (setAll wa w.heap.size 0 vs).heap.size := by
  have E := ext_setAll (fun q => q = w.heap.size) (Ext.refl _ wa) w.heap.size 0 vs rfl
  refine ⟨below_setAll hb _ _ _ (Nat.le_refl _), bX.ext E (by omega), ?_, hv.ext E (fun k h1 _ h3 => by omega), by rw [size_setAll]; exact hz⟩
  have : ∀ (l : List Value) (i : Nat) (W : World) (c : Array Value), Box 0 c T2 W w.heap.size → ∃ c' : Array Value, c'.size = c.size ∧ Box 0 c' T2 (setAll W w.heap.size i l) w.heap.size := by
    intro l
    induction l with
    | nil => intro i W c h; exact ⟨c, rfl, h⟩
    | cons v l ih =>
      intro i W c h
      obtain ⟨c', h1, h2⟩ := ih (i + 1) _ _ (h.set i v)
      exact ⟨c', by rw [h1]; simp, h2⟩
  obtain ⟨c', h1, h2⟩ := this vs 0 wa cs bR
  exact ⟨c', h1.trans hl, h2⟩

end Go.Proofs.Ytipomhpimmnchaa

namespace Go.Proofs.Ytipomhpimmnchaa
open Go.RowKit

set_option maxRecDepth 100000 in
set_option maxHeartbeats 4000000 in
theorem l3Unpack_put_ok (b off cap : Nat) (i s q x y z c : Int) (w : World) (h : IsInts w (.slice (some ⟨b, off, none⟩) 8 cap) [1, i, s, q, x, y, z, c]) (hcap : 8 ≤ cap) (hf : writeFault 1 i [x, y, z] s q = 0) :
    Calls Try.prog 87 #[.slice (some ⟨b, off, none⟩) 8 cap] w fun e w' => ToldU w w' e (unpackW [1, i, s, q, x, y, z, c]) (decide (wordsOf 1 i [x, y, z] s q = [1, i, s, q, x, y, z, c])) := by
  have hc : ∀ j, j < 8 → w.cell? ⟨b, off + j, none⟩ = some (.int .i64 ([1, i, s, q, x, y, z, c].getD j 0)) := by
    obtain ⟨ao, cp, e, -, hc⟩ := h
    obtain ⟨b', off', rfl, hc1⟩ := hc (by simp)
    simp only [Value.slice.injEq, Option.some.injEq, Addr.mk.injEq, and_true] at e
    obtain ⟨⟨rfl, rfl⟩, -, -⟩ := e
    exact hc1
  have c0 : w.cell? ⟨b, off, none⟩ = some (.int .i64 1) := hc 0 (by omega)
  have c1 : w.cell? ⟨b, off + 1, none⟩ = some (.int .i64 i) := hc 1 (by omega)
  have c2 : w.cell? ⟨b, off + 2, none⟩ = some (.int .i64 s) := hc 2 (by omega)
  have c3 : w.cell? ⟨b, off + 3, none⟩ = some (.int .i64 q) := hc 3 (by omega)
  have hwf := h.wf
  have f0 : (Lit.int .i64 1).wf = true := hwf 1 (by simp)
  have f1 : (Lit.int .i64 i).wf = true := hwf i (by simp)
  have f2 : (Lit.int .i64 s).wf = true := hwf s (by simp)
  have f3 : (Lit.int .i64 q).wf = true := hwf q (by simp)
  have HV : Hid (∀ u ∈ [x, y, z], (Lit.int .i64 u).wf = true) := fun u hu => hwf u (by simp at hu; rcases hu with rfl | rfl | rfl <;> simp)
  have hv : IsInts w (.slice (some ⟨b, off + 4, none⟩) 3 (cap - 4)) [x, y, z] := by
    refine ⟨_, _, rfl, fun u hu => hwf u (by simp at hu; rcases hu with rfl | rfl | rfl <;> simp), fun _ => ⟨b, off + 4, rfl, fun j hj => ?_⟩⟩
    have := hc (4 + j) (by simp at hj; omega)
    rw [Nat.add_assoc, this]
    simp at hj
    rcases j with _ | _ | _ | j <;> first | rfl | omega
  have HF := hide (And.intro f0 (And.intro f1 (And.intro f2 f3)))
  have H := hide h
  have HFL := hide hf
  clear h hc hwf f0 f1 f2 f3 hf
  have nb : Below w.heap.size w (w.alloc (.cells #[.int .i64 0, .int .i64 0, .slice none 0 0, .int .i64 0, .int .i64 0] 58)) := (Below.refl _ _).alloc (Nat.le_refl _) _
  have bR : Box 0 #[.int .i64 0, .int .i64 0, .slice none 0 0, .int .i64 0, .int .i64 0] 58 (w.alloc (.cells #[.int .i64 0, .int .i64 0, .slice none 0 0, .int .i64 0, .int .i64 0] 58)) w.heap.size := newBox (Nat.zero_le _)
  have d0 := cell_keep nb c0
  have d1 := cell_keep nb c1
  have d2 := cell_keep nb c2
  have d3 := cell_keep nb c3
  clear c0 c1 c2 c3
  go_enter Try.func87, Try.ntmps87
  go_wp2_with fail
  generalize w.alloc (.cells #[.int .i64 0, .int .i64 0, .slice none 0 0, .int .i64 0, .int .i64 0] 58) = W0 at *
  first
    | go_region_held3 (fun w' => w'.cell? ⟨b, off, none⟩ = some (.int .i64 1) ∧ w'.cell? ⟨b, off + 1, none⟩ = some (.int .i64 i) ∧ w'.cell? ⟨b, off + 2, none⟩ = some (.int .i64 s) ∧ w'.cell? ⟨b, off + 3, none⟩ = some (.int .i64 q))
        (first
          | exact ⟨d0, d1, d2, d3⟩
          | (refine ⟨(World.grownBy_alloc _ _ none).cell ?_ (by simp), (World.grownBy_alloc _ _ none).cell ?_ (by simp), (World.grownBy_alloc _ _ none).cell ?_ (by simp), (World.grownBy_alloc _ _ none).cell ?_ (by simp)⟩ <;> assumption)
          | go_keep)
        (fail)
    | fail
  clear d0 d1 d2 d3
  have nb1 : Below W0.heap.size W0 (W0.alloc (.cells #[.int .i64 1, .int .i64 i, .slice none 0 0, .int .i64 s, .int .i64 q] 58)).drew := ((Below.refl _ _).alloc (Nat.le_refl _) _).drew
  have bX : Box 0 #[.int .i64 1, .int .i64 i, .slice none 0 0, .int .i64 s, .int .i64 q] 58 (W0.alloc (.cells #[.int .i64 1, .int .i64 i, .slice none 0 0, .int .i64 s, .int .i64 q] 58)).drew W0.heap.size := (newBox (Nat.zero_le _)).drew
  generalize (W0.alloc (.cells #[.int .i64 1, .int .i64 i, .slice none 0 0, .int .i64 s, .int .i64 q] 58)).drew = W1 at *
  have hX := bX.lt
  have hR := bR.lt
  replace bR := bR.keep nb1
  have HB1 := hide (nb.trans (nb1.mono nb.size))
  replace hv := (hv.later nb).later nb1
  clear nb nb1
  generalize hs0 : W0.heap.size = sx at *
  clear hs0
  have x0 := bX.at 0 _ rfl
  have x1 := bX.at 1 _ rfl
  have x2 := bX.at 2 _ rfl
  have x3 := bX.at 3 _ rfl
  have x4 := bX.at 4 _ rfl
  go_wp2_with fail
  refine (l1Ints _ [x, y, z] _ hv (by simp)).mono ?_
  rintro e w2 ⟨v2, rfl, O, hb⟩
  replace bR := bR.keep hb
  replace bX := bX.keep hb
  replace HB1 := hide ((unhide HB1).trans (hb.mono (unhide HB1).size))
  have hz2 := hb.size
  clear hb hv x0 x1 x2 x3 x4
  obtain ⟨a2, p2, rfl⟩ := own_shape O
  have x0 := bX.at 0 _ rfl
  have x1 := bX.at 1 _ rfl
  have x2 := bX.at 2 _ rfl
  have x3 := bX.at 3 _ rfl
  have x4 := bX.at 4 _ rfl
  have xf := bX.soft 2
  have hX2 := bX.lt
  have HO := hide O
  have HR := hide bR
  have HX := hide bX
  clear O bR bX
  simp only [List.length_cons, List.length_nil, Nat.zero_add, Nat.reduceAdd] at HO
  go_wp2_with fail
  have bX : Box 0 #[.int .i64 1, .int .i64 i, .slice a2 3 p2, .int .i64 s, .int .i64 q] 58 (w2.setCell ⟨sx, 2, none⟩ (.slice a2 3 p2)) sx := (unhide HX).set 2 (.slice a2 3 p2)
  have bR := (unhide HR).other ⟨sx, 2, none⟩ (.slice a2 3 p2) (by simp; omega)
  have O := own_setC (a := ⟨sx, 2, none⟩) (unhide HO) (by simpa using hX) (.slice a2 3 p2)
  have HB2 : Hid (Below w.heap.size w (w2.setCell ⟨sx, 2, none⟩ (.slice a2 3 p2))) := (unhide HB1).setCell (by simp; omega) _
  clear HB1
  have HB1 := HB2
  clear HB2
  clear HX HR HO x0 x1 x2 x3 x4 xf
  have hz3 : w2.heap.size ≤ (w2.setCell ⟨sx, 2, none⟩ (.slice a2 3 p2)).heap.size := by simp
  generalize w2.setCell ⟨sx, 2, none⟩ (.slice a2 3 p2) = W2 at *
  have HVI : Hid ((Lay.sl Lay.int).LiesIn W2 [.slice a2 3 p2] [x, y, z] (sx + 1) W2.heap.size) := ((Lay.ownInts (unhide HV) (by simp) O).mono (lo' := sx + 1) (by omega) (Nat.le_refl _)).lies
  clear O
  have HWW : Hid (∀ u ∈ wordsOf 1 i [x, y, z] s q, (Lit.int .i64 u).wf = true) := by
    have := packList_wf (k := 1) (i := i) (s := s) (q := q) (zs := [x, y, z])
    rw [packList, if_pos (unhide HFL)] at this
    exact this
  refine wp_region_noPanic ?_
  refine wp_region_held_drew (S := fun w' => Below w.heap.size w w' ∧ Box 0 #[.int .i64 1, .int .i64 i, .slice a2 3 p2, .int .i64 s, .int .i64 q] 58 w' sx ∧ (∃ cs : Array Value, cs.size = 5 ∧ Box 0 cs 58 w' w.heap.size) ∧ (Lay.sl Lay.int).LiesIn w' [.slice a2 3 p2] [x, y, z] (sx + 1) W2.heap.size ∧ W2.heap.size ≤ w'.heap.size) (by kernel_rfl) ⟨(unhide HB1).drew, bX.drew, ⟨_, rfl, bR.drew⟩, unhide HVI, Nat.le_refl _⟩ (fun hHeld => ?_)
  generalize W2.drew = wD at hHeld ⊢
  refine wpAnyH_take (i := 0) (oi := { dst := some 29, op := Go.Op.load 58 (Go.Operand.tmp 4), type := 58, pos := "l03_write.go:52", after := #[], guard := none }) (v := ?v0) rfl (by kernel_rfl) (by kernel_rfl) (by kernel_rfl) (fun _ _ _ h => h) (Or.inl ⟨by rfl, ?h0⟩) hHeld ?r0
  case h0 =>
    intro wS hSw
    have y0 := hSw.2.1.at 0 _ rfl
    have y1 := hSw.2.1.at 1 _ rfl
    have y2 := hSw.2.1.at 2 _ rfl
    have y3 := hSw.2.1.at 3 _ rfl
    have y4 := hSw.2.1.at 4 _ rfl
    simp only [List.getElem_toArray, List.getElem_cons_zero, List.getElem_cons_succ] at y0 y1 y2 y3 y4
    clear hSw
    (try dsimp only at hSw)
    go_simp
    try with_reducible rfl
  case r0 =>
  simp only [Act.put, List.setIfInBounds_toArray, List.set_cons_zero, List.set_cons_succ]
  refine wpAnyH_ready (rs := [1]) (by kernel_rfl) (by simp) ?_
  refine AllReadyH.cons (o := { dst := some 30, op := Go.Op.call { callee := Go.Callee.value (Go.Operand.func 53), args := #[Go.Operand.tmp 4], argTypes := #[77] }, type := 2, pos := "l03_write.go:52", after := #[], guard := none }) rfl (fun K hK => ?_) AllReadyH.nil
  go_simp
  go_at_call 53
  refine (l3Fault sx 1 i _ s q [x, y, z] _ ⟨hHeld.2.1.at 0 _ rfl, hHeld.2.1.at 1 _ rfl, hHeld.2.1.at 2 _ rfl, hHeld.2.1.at 3 _ rfl, hHeld.2.1.at 4 _ rfl⟩ (Lay.ints_reads hHeld.2.2.2.1.reads)).mono ?_
  rintro e wE ⟨rfl, hwe⟩
  subst hwe
  rw [unhide HFL]
  try go_wp2_with fail
  refine hK.out _ _ hHeld (fun hHeld => ?_)
  clear hK K
  try simp only [Act.put, List.setIfInBounds_toArray, List.set_cons_zero, List.set_cons_succ]
  refine wpAnyH_take (i := 2) (oi := { dst := some 31, op := Go.Op.binOp Go.BinOp.eql 2 (Go.Operand.tmp 30) (Go.Operand.const (Go.Value.int Go.IntKind.i64 0)) 2, type := 4, pos := "l03_write.go:52", after := #[{ on := 1, ground := Go.Ground.data }], guard := none }) (v := ?v2) rfl (by kernel_rfl) (by kernel_rfl) (by kernel_rfl) (fun _ _ _ h => h) (Or.inl ⟨by rfl, ?h2⟩) hHeld ?r2
  case h2 =>
    intro wS hSw
    (try dsimp only at hSw)
    go_simp
    try with_reducible rfl
  case r2 =>
  simp only [Act.put, List.setIfInBounds_toArray, List.set_cons_zero, List.set_cons_succ]
  refine wpAnyH_take (i := 3) (oi := { dst := some 32, op := Go.Op.move (Go.Operand.tmp 31), type := 4, pos := "l03_write.go:52", after := #[{ on := 2, ground := Go.Ground.data }, { on := 1, ground := Go.Ground.chain }], guard := none }) (v := ?v3) rfl (by kernel_rfl) (by kernel_rfl) (by kernel_rfl) (fun _ _ _ h => h) (Or.inl ⟨by rfl, ?h3⟩) hHeld ?r3
  case h3 =>
    intro wS hSw
    (try dsimp only at hSw)
    go_simp
    try with_reducible rfl
  case r3 =>
  simp only [Act.put, List.setIfInBounds_toArray, List.set_cons_zero, List.set_cons_succ]
  refine wpAnyH_take (i := 5) (oi := { dst := some 34, op := Go.Op.move (Go.Operand.tmp 0), type := 24, pos := "l03_write.go:52", after := #[{ on := 3, ground := Go.Ground.guard }], guard := some (3, true) }) (v := ?v5) rfl (by kernel_rfl) (by kernel_rfl) (by kernel_rfl) (fun _ _ _ h => h) (Or.inl ⟨by rfl, ?h5⟩) hHeld ?r5
  case h5 =>
    intro wS hSw
    (try dsimp only at hSw)
    go_simp
    try with_reducible rfl
  case r5 =>
  simp only [Act.put, List.setIfInBounds_toArray, List.set_cons_zero, List.set_cons_succ]
  refine wpAnyH_ready (rs := [4]) (by kernel_rfl) (by simp) ?_
  refine AllReadyH.cons (o := { dst := some 33, op := Go.Op.call { callee := Go.Callee.value (Go.Operand.func 66), args := #[Go.Operand.tmp 4], argTypes := #[77] }, type := 24, pos := "l03_write.go:52", after := #[{ on := 3, ground := Go.Ground.chain }, { on := 3, ground := Go.Ground.guard }], guard := some (3, true) }) rfl (fun K hK => ?_) AllReadyH.nil
  go_simp
  go_at_call 66
  refine (l3Pack sx 1 i _ s q [x, y, z] _ ⟨hHeld.2.1.at 0 _ rfl, hHeld.2.1.at 1 _ rfl, hHeld.2.1.at 2 _ rfl, hHeld.2.1.at 3 _ rfl, hHeld.2.1.at 4 _ rfl⟩ (Lay.ints_reads hHeld.2.2.2.1.reads) (unhide HFL)).mono ?_
  rintro e w4 ⟨g4, rfl, O4, hbw⟩
  have I4 := isInts_row (zs := wordsOf 1 i [x, y, z] s q) (unhide HWW) O4
  try go_wp2_with fail
  refine hK.out _ _ ⟨hHeld.1.trans (hbw.mono hHeld.1.size), hHeld.2.1.keep hbw, (by obtain ⟨cs, h1, h2⟩ := hHeld.2.2.1; exact ⟨cs, h1, h2.keep hbw⟩), hHeld.2.2.2.1.later hbw, Nat.le_trans hHeld.2.2.2.2 hbw.size⟩ (fun hHeld => ?_)
  clear hK K
  try simp only [Act.put, List.setIfInBounds_toArray, List.set_cons_zero, List.set_cons_succ]
  refine wpAnyH_ready (rs := [6]) (by kernel_rfl) (by simp) ?_
  refine AllReadyH.cons (o := { dst := some 35, op := Go.Op.call { callee := Go.Callee.value (Go.Operand.func 100), args := #[Go.Operand.tmp 33, Go.Operand.tmp 34], argTypes := #[24, 24] }, type := 4, pos := "l03_write.go:52", after := #[{ on := 4, ground := Go.Ground.data }, { on := 5, ground := Go.Ground.data }, { on := 4, ground := Go.Ground.chain }, { on := 3, ground := Go.Ground.guard }], guard := some (3, true) }) rfl (fun K hK => ?_) AllReadyH.nil
  go_simp
  go_at_call 100
  refine (l1Same _ _ (wordsOf 1 i [x, y, z] s q) [1, i, s, q, x, y, z, c] _ I4 ((unhide H).later hHeld.1) (by simp [wordsOf])).mono ?_
  rintro e w5 ⟨rfl, hbw⟩
  try go_wp2_with fail
  refine hK.out _ _ ⟨hHeld.1.trans (hbw.mono hHeld.1.size), hHeld.2.1.keep hbw, (by obtain ⟨cs, h1, h2⟩ := hHeld.2.2.1; exact ⟨cs, h1, h2.keep hbw⟩), hHeld.2.2.2.1.later hbw, Nat.le_trans hHeld.2.2.2.2 hbw.size⟩ (fun hHeld => ?_)
  clear hK K
  try simp only [Act.put, List.setIfInBounds_toArray, List.set_cons_zero, List.set_cons_succ]
  refine wpAnyH_take (i := 7) (oi := { dst := some 36, op := Go.Op.pick (Go.Operand.tmp 32) (Go.Operand.tmp 35) (Go.Operand.const (Go.Value.bool false)), type := 4, pos := "l03_write.go:52", after := #[{ on := 3, ground := Go.Ground.data }, { on := 6, ground := Go.Ground.data }, { on := 8, ground := Go.Ground.gcOnly Go.Departure.lateStores }], guard := none }) (v := ?v7) rfl (by kernel_rfl) (by kernel_rfl) (by kernel_rfl) (fun _ _ _ h => h) (Or.inl ⟨by rfl, ?h7⟩) hHeld ?r7
  case h7 =>
    intro wS hSw
    (try dsimp only at hSw)
    go_simp
    try with_reducible rfl
  case r7 =>
  simp only [Act.put, List.setIfInBounds_toArray, List.set_cons_zero, List.set_cons_succ]
  refine wpAnyH_ready (rs := [8]) (by kernel_rfl) (by simp) ?_
  refine AllReadyH.cons (o := { dst := none, op := Go.Op.store 58 (Go.Operand.tmp 2) (Go.Operand.tmp 29), type := 0, pos := "l03_write.go:52", after := #[{ on := 0, ground := Go.Ground.data }, { on := 6, ground := Go.Ground.chain }, { on := 0, ground := Go.Ground.phase }, { on := 1, ground := Go.Ground.textOnly Go.Departure.lateStoresUnsure }, { on := 2, ground := Go.Ground.textOnly Go.Departure.lateStores }, { on := 3, ground := Go.Ground.textOnly Go.Departure.lateStores }, { on := 4, ground := Go.Ground.textOnly Go.Departure.lateStoresUnsure }, { on := 5, ground := Go.Ground.textOnly Go.Departure.lateStores }, { on := 6, ground := Go.Ground.textOnly Go.Departure.lateStoresUnsure }, { on := 7, ground := Go.Ground.textOnly Go.Departure.lateStores }], guard := none }) rfl (fun K hK => ?_) AllReadyH.nil
  obtain ⟨hb9, bX9, ⟨cs9, hs9, bR9⟩, hv9, hz9⟩ := hHeld
  obtain ⟨q0, q1, q2, q3, q4, rfl⟩ : ∃ q0 q1 q2 q3 q4 : Value, cs9 = #[q0, q1, q2, q3, q4] := by
    obtain ⟨l⟩ := cs9
    match l, hs9 with
    | [q0, q1, q2, q3, q4], _ => exact ⟨q0, q1, q2, q3, q4, rfl⟩
  have e0 : w5.cell? ⟨w.heap.size, 0, none⟩ = some q0 := bR9.at 0 _ rfl
  have e1 : w5.cell? ⟨w.heap.size, 1, none⟩ = some q1 := bR9.at 1 _ rfl
  have e2 : w5.cell? ⟨w.heap.size, 2, none⟩ = some q2 := bR9.at 2 _ rfl
  have e3 : w5.cell? ⟨w.heap.size, 3, none⟩ = some q3 := bR9.at 3 _ rfl
  have e4 : w5.cell? ⟨w.heap.size, 4, none⟩ = some q4 := bR9.at 4 _ rfl
  have ef : ∀ o, w5.frozen? ⟨w.heap.size, o, none⟩ = false := bR9.soft
  have el : w.heap.size < w5.heap.size := bR9.lt
  go_simp
  try go_wp2_with fail
  refine hK.out _ _ (storeS (vs := [.int .i64 1, .int .i64 i, .slice a2 3 p2, .int .i64 s, .int .i64 q]) hb9 bX9 bR9 hv9 hz9 (by omega) rfl) (fun hHeld => ?_)
  clear hK K
  try simp only [Act.put, List.setIfInBounds_toArray, List.set_cons_zero, List.set_cons_succ]
  refine wpAnyH_take (i := 9) (oi := { dst := some 3, op := Go.Op.assign (Go.Operand.tmp 36), type := 4, pos := "l03_write.go:52", after := #[{ on := 7, ground := Go.Ground.data }, { on := 8, ground := Go.Ground.chain }, { on := 0, ground := Go.Ground.phase }, { on := 1, ground := Go.Ground.phase }, { on := 2, ground := Go.Ground.phase }, { on := 3, ground := Go.Ground.phase }, { on := 4, ground := Go.Ground.phase }, { on := 5, ground := Go.Ground.phase }, { on := 6, ground := Go.Ground.phase }, { on := 7, ground := Go.Ground.phase }, { on := 8, ground := Go.Ground.phase }], guard := none }) (v := ?v9) rfl (by kernel_rfl) (by kernel_rfl) (by kernel_rfl) (fun _ _ _ h => h) (Or.inl ⟨by rfl, ?h9⟩) hHeld ?r9
  case h9 =>
    intro wS hSw
    (try dsimp only at hSw)
    go_simp
    try with_reducible rfl
  case r9 =>
  simp only [Act.put, List.setIfInBounds_toArray, List.set_cons_zero, List.set_cons_succ]
  refine wpAnyH_done (by kernel_rfl) ?_ _
  refine NoPanic.normal ?_
  have HS := hide hHeld
  clear hHeld
  go_wp2_with fail
  refine bodyPost_ret (v := .tuple #[.agg #[.int .i64 1, .int .i64 i, .slice a2 3 p2, .int .i64 s, .int .i64 q], .bool (decide (wordsOf 1 i [x, y, z] s q = [1, i, s, q, x, y, z, c]))]) (by simp [results, Try.results87, go_sem, e0, e1, e2, e3, e4]) rfl ?_
  obtain ⟨f0, f1, f2, f3⟩ := unhide HF
  have hlo : w.heap.size ≤ sx + 1 := by omega
  obtain ⟨s1, -, -, s4, s5⟩ := unhide HS
  refine ⟨[.int .i64 1, .int .i64 i, .slice a2 3 p2, .int .i64 s, .int .i64 q], rfl, ?_, s1⟩
  refine readsW (x := unpackW [1, i, s, q, x, y, z, c]) ?_ f0 f1 f2 f3
  rw [show (unpackW [1, i, s, q, x, y, z, c]).vec = [x, y, z] by simp [unpackW]]
  exact s4.mono hlo s5

end Go.Proofs.Ytipomhpimmnchaa

namespace Go.Proofs.Ytipomhpimmnchaa
open Go.RowKit

set_option maxRecDepth 100000 in
set_option maxHeartbeats 4000000 in
theorem l3Unpack_put_bad (b off cap : Nat) (i s q x y z c : Int) (w : World) (h : IsInts w (.slice (some ⟨b, off, none⟩) 8 cap) [1, i, s, q, x, y, z, c]) (hcap : 8 ≤ cap) (hf : writeFault 1 i [x, y, z] s q ≠ 0) :
    Calls Try.prog 87 #[.slice (some ⟨b, off, none⟩) 8 cap] w fun e w' => ToldU w w' e (unpackW [1, i, s, q, x, y, z, c]) false := by
  have hc : ∀ j, j < 8 → w.cell? ⟨b, off + j, none⟩ = some (.int .i64 ([1, i, s, q, x, y, z, c].getD j 0)) := by
    obtain ⟨ao, cp, e, -, hc⟩ := h
    obtain ⟨b', off', rfl, hc1⟩ := hc (by simp)
    simp only [Value.slice.injEq, Option.some.injEq, Addr.mk.injEq, and_true] at e
    obtain ⟨⟨rfl, rfl⟩, -, -⟩ := e
    exact hc1
  have c0 : w.cell? ⟨b, off, none⟩ = some (.int .i64 1) := hc 0 (by omega)
  have c1 : w.cell? ⟨b, off + 1, none⟩ = some (.int .i64 i) := hc 1 (by omega)
  have c2 : w.cell? ⟨b, off + 2, none⟩ = some (.int .i64 s) := hc 2 (by omega)
  have c3 : w.cell? ⟨b, off + 3, none⟩ = some (.int .i64 q) := hc 3 (by omega)
  have hwf := h.wf
  have f0 : (Lit.int .i64 1).wf = true := hwf 1 (by simp)
  have f1 : (Lit.int .i64 i).wf = true := hwf i (by simp)
  have f2 : (Lit.int .i64 s).wf = true := hwf s (by simp)
  have f3 : (Lit.int .i64 q).wf = true := hwf q (by simp)
  have HV : Hid (∀ u ∈ [x, y, z], (Lit.int .i64 u).wf = true) := fun u hu => hwf u (by simp at hu; rcases hu with rfl | rfl | rfl <;> simp)
  have hv : IsInts w (.slice (some ⟨b, off + 4, none⟩) 3 (cap - 4)) [x, y, z] := by
    refine ⟨_, _, rfl, fun u hu => hwf u (by simp at hu; rcases hu with rfl | rfl | rfl <;> simp), fun _ => ⟨b, off + 4, rfl, fun j hj => ?_⟩⟩
    have := hc (4 + j) (by simp at hj; omega)
    rw [Nat.add_assoc, this]
    simp at hj
    rcases j with _ | _ | _ | j <;> first | rfl | omega
  have HF := hide (And.intro f0 (And.intro f1 (And.intro f2 f3)))
  have H := hide h
  have HFL := hide hf
  clear h hc hwf f0 f1 f2 f3 hf
  have nb : Below w.heap.size w (w.alloc (.cells #[.int .i64 0, .int .i64 0, .slice none 0 0, .int .i64 0, .int .i64 0] 58)) := (Below.refl _ _).alloc (Nat.le_refl _) _
  have bR : Box 0 #[.int .i64 0, .int .i64 0, .slice none 0 0, .int .i64 0, .int .i64 0] 58 (w.alloc (.cells #[.int .i64 0, .int .i64 0, .slice none 0 0, .int .i64 0, .int .i64 0] 58)) w.heap.size := newBox (Nat.zero_le _)
  have d0 := cell_keep nb c0
  have d1 := cell_keep nb c1
  have d2 := cell_keep nb c2
  have d3 := cell_keep nb c3
  clear c0 c1 c2 c3
  go_enter Try.func87, Try.ntmps87
  go_wp2_with fail
  generalize w.alloc (.cells #[.int .i64 0, .int .i64 0, .slice none 0 0, .int .i64 0, .int .i64 0] 58) = W0 at *
  first
    | go_region_held3 (fun w' => w'.cell? ⟨b, off, none⟩ = some (.int .i64 1) ∧ w'.cell? ⟨b, off + 1, none⟩ = some (.int .i64 i) ∧ w'.cell? ⟨b, off + 2, none⟩ = some (.int .i64 s) ∧ w'.cell? ⟨b, off + 3, none⟩ = some (.int .i64 q))
        (first
          | exact ⟨d0, d1, d2, d3⟩
          | (refine ⟨(World.grownBy_alloc _ _ none).cell ?_ (by simp), (World.grownBy_alloc _ _ none).cell ?_ (by simp), (World.grownBy_alloc _ _ none).cell ?_ (by simp), (World.grownBy_alloc _ _ none).cell ?_ (by simp)⟩ <;> assumption)
          | go_keep)
        (fail)
    | fail
  clear d0 d1 d2 d3
  have nb1 : Below W0.heap.size W0 (W0.alloc (.cells #[.int .i64 1, .int .i64 i, .slice none 0 0, .int .i64 s, .int .i64 q] 58)).drew := ((Below.refl _ _).alloc (Nat.le_refl _) _).drew
  have bX : Box 0 #[.int .i64 1, .int .i64 i, .slice none 0 0, .int .i64 s, .int .i64 q] 58 (W0.alloc (.cells #[.int .i64 1, .int .i64 i, .slice none 0 0, .int .i64 s, .int .i64 q] 58)).drew W0.heap.size := (newBox (Nat.zero_le _)).drew
  generalize (W0.alloc (.cells #[.int .i64 1, .int .i64 i, .slice none 0 0, .int .i64 s, .int .i64 q] 58)).drew = W1 at *
  have hX := bX.lt
  have hR := bR.lt
  replace bR := bR.keep nb1
  have HB1 := hide (nb.trans (nb1.mono nb.size))
  replace hv := (hv.later nb).later nb1
  clear nb nb1
  generalize hs0 : W0.heap.size = sx at *
  clear hs0
  have x0 := bX.at 0 _ rfl
  have x1 := bX.at 1 _ rfl
  have x2 := bX.at 2 _ rfl
  have x3 := bX.at 3 _ rfl
  have x4 := bX.at 4 _ rfl
  go_wp2_with fail
  refine (l1Ints _ [x, y, z] _ hv (by simp)).mono ?_
  rintro e w2 ⟨v2, rfl, O, hb⟩
  replace bR := bR.keep hb
  replace bX := bX.keep hb
  replace HB1 := hide ((unhide HB1).trans (hb.mono (unhide HB1).size))
  have hz2 := hb.size
  clear hb hv x0 x1 x2 x3 x4
  obtain ⟨a2, p2, rfl⟩ := own_shape O
  have x0 := bX.at 0 _ rfl
  have x1 := bX.at 1 _ rfl
  have x2 := bX.at 2 _ rfl
  have x3 := bX.at 3 _ rfl
  have x4 := bX.at 4 _ rfl
  have xf := bX.soft 2
  have hX2 := bX.lt
  have HO := hide O
  have HR := hide bR
  have HX := hide bX
  clear O bR bX
  simp only [List.length_cons, List.length_nil, Nat.zero_add, Nat.reduceAdd] at HO
  go_wp2_with fail
  have bX : Box 0 #[.int .i64 1, .int .i64 i, .slice a2 3 p2, .int .i64 s, .int .i64 q] 58 (w2.setCell ⟨sx, 2, none⟩ (.slice a2 3 p2)) sx := (unhide HX).set 2 (.slice a2 3 p2)
  have bR := (unhide HR).other ⟨sx, 2, none⟩ (.slice a2 3 p2) (by simp; omega)
  have O := own_setC (a := ⟨sx, 2, none⟩) (unhide HO) (by simpa using hX) (.slice a2 3 p2)
  have HB2 : Hid (Below w.heap.size w (w2.setCell ⟨sx, 2, none⟩ (.slice a2 3 p2))) := (unhide HB1).setCell (by simp; omega) _
  clear HB1
  have HB1 := HB2
  clear HB2
  clear HX HR HO x0 x1 x2 x3 x4 xf
  have hz3 : w2.heap.size ≤ (w2.setCell ⟨sx, 2, none⟩ (.slice a2 3 p2)).heap.size := by simp
  generalize w2.setCell ⟨sx, 2, none⟩ (.slice a2 3 p2) = W2 at *
  have HVI : Hid ((Lay.sl Lay.int).LiesIn W2 [.slice a2 3 p2] [x, y, z] (sx + 1) W2.heap.size) := ((Lay.ownInts (unhide HV) (by simp) O).mono (lo' := sx + 1) (by omega) (Nat.le_refl _)).lies
  clear O
  have hne : (writeFault 1 i [x, y, z] s q == 0) = false := by simpa using unhide HFL
  refine wp_region_noPanic ?_
  refine wp_region_held_drew (S := fun w' => Below w.heap.size w w' ∧ Box 0 #[.int .i64 1, .int .i64 i, .slice a2 3 p2, .int .i64 s, .int .i64 q] 58 w' sx ∧ (∃ cs : Array Value, cs.size = 5 ∧ Box 0 cs 58 w' w.heap.size) ∧ (Lay.sl Lay.int).LiesIn w' [.slice a2 3 p2] [x, y, z] (sx + 1) W2.heap.size ∧ W2.heap.size ≤ w'.heap.size) (by kernel_rfl) ⟨(unhide HB1).drew, bX.drew, ⟨_, rfl, bR.drew⟩, unhide HVI, Nat.le_refl _⟩ (fun hHeld => ?_)
  generalize W2.drew = wD at hHeld ⊢
  refine wpAnyH_take (i := 0) (oi := { dst := some 29, op := Go.Op.load 58 (Go.Operand.tmp 4), type := 58, pos := "l03_write.go:52", after := #[], guard := none }) (v := ?v0) rfl (by kernel_rfl) (by kernel_rfl) (by kernel_rfl) (fun _ _ _ h => h) (Or.inl ⟨by rfl, ?h0⟩) hHeld ?r0
  case h0 =>
    intro wS hSw
    have y0 := hSw.2.1.at 0 _ rfl
    have y1 := hSw.2.1.at 1 _ rfl
    have y2 := hSw.2.1.at 2 _ rfl
    have y3 := hSw.2.1.at 3 _ rfl
    have y4 := hSw.2.1.at 4 _ rfl
    simp only [List.getElem_toArray, List.getElem_cons_zero, List.getElem_cons_succ] at y0 y1 y2 y3 y4
    clear hSw
    (try dsimp only at hSw)
    go_simp
    try with_reducible rfl
  case r0 =>
  simp only [Act.put, List.setIfInBounds_toArray, List.set_cons_zero, List.set_cons_succ]
  refine wpAnyH_ready (rs := [1]) (by kernel_rfl) (by simp) ?_
  refine AllReadyH.cons (o := { dst := some 30, op := Go.Op.call { callee := Go.Callee.value (Go.Operand.func 53), args := #[Go.Operand.tmp 4], argTypes := #[77] }, type := 2, pos := "l03_write.go:52", after := #[], guard := none }) rfl (fun K hK => ?_) AllReadyH.nil
  go_simp
  go_at_call 53
  refine (l3Fault sx 1 i _ s q [x, y, z] _ ⟨hHeld.2.1.at 0 _ rfl, hHeld.2.1.at 1 _ rfl, hHeld.2.1.at 2 _ rfl, hHeld.2.1.at 3 _ rfl, hHeld.2.1.at 4 _ rfl⟩ (Lay.ints_reads hHeld.2.2.2.1.reads)).mono ?_
  rintro e wE ⟨rfl, hwe⟩
  subst hwe
  skip
  try go_wp2_with fail
  refine hK.out _ _ hHeld (fun hHeld => ?_)
  clear hK K
  try simp only [Act.put, List.setIfInBounds_toArray, List.set_cons_zero, List.set_cons_succ]
  refine wpAnyH_take (i := 2) (oi := { dst := some 31, op := Go.Op.binOp Go.BinOp.eql 2 (Go.Operand.tmp 30) (Go.Operand.const (Go.Value.int Go.IntKind.i64 0)) 2, type := 4, pos := "l03_write.go:52", after := #[{ on := 1, ground := Go.Ground.data }], guard := none }) (v := ?v2) rfl (by kernel_rfl) (by kernel_rfl) (by kernel_rfl) (fun _ _ _ h => h) (Or.inl ⟨by rfl, ?h2⟩) hHeld ?r2
  case h2 =>
    intro wS hSw
    (try dsimp only at hSw)
    go_simp
    try with_reducible rfl
  case r2 =>
  simp only [Act.put, List.setIfInBounds_toArray, List.set_cons_zero, List.set_cons_succ]
  refine wpAnyH_take (i := 3) (oi := { dst := some 32, op := Go.Op.move (Go.Operand.tmp 31), type := 4, pos := "l03_write.go:52", after := #[{ on := 2, ground := Go.Ground.data }, { on := 1, ground := Go.Ground.chain }], guard := none }) (v := ?v3) rfl (by kernel_rfl) (by kernel_rfl) (by kernel_rfl) (fun _ _ _ h => h) (Or.inl ⟨by rfl, ?h3⟩) hHeld ?r3
  case h3 =>
    intro wS hSw
    (try dsimp only at hSw)
    go_simp
    try with_reducible rfl
  case r3 =>
  simp only [Act.put, List.setIfInBounds_toArray, List.set_cons_zero, List.set_cons_succ]
  refine wpAnyH_take (i := 4) (oi := { dst := some 33, op := Go.Op.call { callee := Go.Callee.value (Go.Operand.func 66), args := #[Go.Operand.tmp 4], argTypes := #[77] }, type := 24, pos := "l03_write.go:52", after := #[{ on := 3, ground := Go.Ground.chain }, { on := 3, ground := Go.Ground.guard }], guard := some (3, true) }) (v := undef) rfl (by kernel_rfl) (by kernel_rfl) (by kernel_rfl) (fun _ _ _ h => h) (Or.inr ⟨by rfl, rfl⟩) hHeld ?_
  simp only [Act.put, List.setIfInBounds_toArray, List.set_cons_zero, List.set_cons_succ]
  refine wpAnyH_take (i := 5) (oi := { dst := some 34, op := Go.Op.move (Go.Operand.tmp 0), type := 24, pos := "l03_write.go:52", after := #[{ on := 3, ground := Go.Ground.guard }], guard := some (3, true) }) (v := undef) rfl (by kernel_rfl) (by kernel_rfl) (by kernel_rfl) (fun _ _ _ h => h) (Or.inr ⟨by rfl, rfl⟩) hHeld ?_
  simp only [Act.put, List.setIfInBounds_toArray, List.set_cons_zero, List.set_cons_succ]
  refine wpAnyH_take (i := 6) (oi := { dst := some 35, op := Go.Op.call { callee := Go.Callee.value (Go.Operand.func 100), args := #[Go.Operand.tmp 33, Go.Operand.tmp 34], argTypes := #[24, 24] }, type := 4, pos := "l03_write.go:52", after := #[{ on := 4, ground := Go.Ground.data }, { on := 5, ground := Go.Ground.data }, { on := 4, ground := Go.Ground.chain }, { on := 3, ground := Go.Ground.guard }], guard := some (3, true) }) (v := undef) rfl (by kernel_rfl) (by kernel_rfl) (by kernel_rfl) (fun _ _ _ h => h) (Or.inr ⟨by rfl, rfl⟩) hHeld ?_
  simp only [Act.put, List.setIfInBounds_toArray, List.set_cons_zero, List.set_cons_succ]
  refine wpAnyH_take (i := 7) (oi := { dst := some 36, op := Go.Op.pick (Go.Operand.tmp 32) (Go.Operand.tmp 35) (Go.Operand.const (Go.Value.bool false)), type := 4, pos := "l03_write.go:52", after := #[{ on := 3, ground := Go.Ground.data }, { on := 6, ground := Go.Ground.data }, { on := 8, ground := Go.Ground.gcOnly Go.Departure.lateStores }], guard := none }) (v := ?v7) rfl (by kernel_rfl) (by kernel_rfl) (by kernel_rfl) (fun _ _ _ h => h) (Or.inl ⟨by rfl, ?h7⟩) hHeld ?r7
  case h7 =>
    intro wS hSw
    (try dsimp only at hSw)
    go_simp
    try with_reducible rfl
  case r7 =>
  simp only [Act.put, List.setIfInBounds_toArray, List.set_cons_zero, List.set_cons_succ]
  refine wpAnyH_ready (rs := [8]) (by kernel_rfl) (by simp) ?_
  refine AllReadyH.cons (o := { dst := none, op := Go.Op.store 58 (Go.Operand.tmp 2) (Go.Operand.tmp 29), type := 0, pos := "l03_write.go:52", after := #[{ on := 0, ground := Go.Ground.data }, { on := 6, ground := Go.Ground.chain }, { on := 0, ground := Go.Ground.phase }, { on := 1, ground := Go.Ground.textOnly Go.Departure.lateStoresUnsure }, { on := 2, ground := Go.Ground.textOnly Go.Departure.lateStores }, { on := 3, ground := Go.Ground.textOnly Go.Departure.lateStores }, { on := 4, ground := Go.Ground.textOnly Go.Departure.lateStoresUnsure }, { on := 5, ground := Go.Ground.textOnly Go.Departure.lateStores }, { on := 6, ground := Go.Ground.textOnly Go.Departure.lateStoresUnsure }, { on := 7, ground := Go.Ground.textOnly Go.Departure.lateStores }], guard := none }) rfl (fun K hK => ?_) AllReadyH.nil
  obtain ⟨hb9, bX9, ⟨cs9, hs9, bR9⟩, hv9, hz9⟩ := hHeld
  obtain ⟨q0, q1, q2, q3, q4, rfl⟩ : ∃ q0 q1 q2 q3 q4 : Value, cs9 = #[q0, q1, q2, q3, q4] := by
    obtain ⟨l⟩ := cs9
    match l, hs9 with
    | [q0, q1, q2, q3, q4], _ => exact ⟨q0, q1, q2, q3, q4, rfl⟩
  have e0 : wE.cell? ⟨w.heap.size, 0, none⟩ = some q0 := bR9.at 0 _ rfl
  have e1 : wE.cell? ⟨w.heap.size, 1, none⟩ = some q1 := bR9.at 1 _ rfl
  have e2 : wE.cell? ⟨w.heap.size, 2, none⟩ = some q2 := bR9.at 2 _ rfl
  have e3 : wE.cell? ⟨w.heap.size, 3, none⟩ = some q3 := bR9.at 3 _ rfl
  have e4 : wE.cell? ⟨w.heap.size, 4, none⟩ = some q4 := bR9.at 4 _ rfl
  have ef : ∀ o, wE.frozen? ⟨w.heap.size, o, none⟩ = false := bR9.soft
  have el : w.heap.size < wE.heap.size := bR9.lt
  go_simp
  try go_wp2_with fail
  refine hK.out _ _ (storeS (vs := [.int .i64 1, .int .i64 i, .slice a2 3 p2, .int .i64 s, .int .i64 q]) hb9 bX9 bR9 hv9 hz9 (by omega) rfl) (fun hHeld => ?_)
  clear hK K
  try simp only [Act.put, List.setIfInBounds_toArray, List.set_cons_zero, List.set_cons_succ]
  refine wpAnyH_take (i := 9) (oi := { dst := some 3, op := Go.Op.assign (Go.Operand.tmp 36), type := 4, pos := "l03_write.go:52", after := #[{ on := 7, ground := Go.Ground.data }, { on := 8, ground := Go.Ground.chain }, { on := 0, ground := Go.Ground.phase }, { on := 1, ground := Go.Ground.phase }, { on := 2, ground := Go.Ground.phase }, { on := 3, ground := Go.Ground.phase }, { on := 4, ground := Go.Ground.phase }, { on := 5, ground := Go.Ground.phase }, { on := 6, ground := Go.Ground.phase }, { on := 7, ground := Go.Ground.phase }, { on := 8, ground := Go.Ground.phase }], guard := none }) (v := ?v9) rfl (by kernel_rfl) (by kernel_rfl) (by kernel_rfl) (fun _ _ _ h => h) (Or.inl ⟨by rfl, ?h9⟩) hHeld ?r9
  case h9 =>
    intro wS hSw
    (try dsimp only at hSw)
    go_simp
    try with_reducible rfl
  case r9 =>
  simp only [Act.put, List.setIfInBounds_toArray, List.set_cons_zero, List.set_cons_succ]
  refine wpAnyH_done (by kernel_rfl) ?_ _
  refine NoPanic.normal ?_
  have HS := hide hHeld
  clear hHeld
  go_wp2_with fail
  refine bodyPost_ret (v := .tuple #[.agg #[.int .i64 1, .int .i64 i, .slice a2 3 p2, .int .i64 s, .int .i64 q], .bool false]) (by simp [results, Try.results87, go_sem, e0, e1, e2, e3, e4]) rfl ?_
  obtain ⟨f0, f1, f2, f3⟩ := unhide HF
  have hlo : w.heap.size ≤ sx + 1 := by omega
  obtain ⟨s1, -, -, s4, s5⟩ := unhide HS
  refine ⟨[.int .i64 1, .int .i64 i, .slice a2 3 p2, .int .i64 s, .int .i64 q], rfl, ?_, s1⟩
  refine readsW (x := unpackW [1, i, s, q, x, y, z, c]) ?_ f0 f1 f2 f3
  rw [show (unpackW [1, i, s, q, x, y, z, c]).vec = [x, y, z] by simp [unpackW]]
  exact s4.mono hlo s5

end Go.Proofs.Ytipomhpimmnchaa

namespace Go.Proofs.Ytipomhpimmnchaa
open Go.RowKit

set_option maxRecDepth 100000 in
set_option maxHeartbeats 4000000 in
theorem l3Unpack_other_ok (b off cap : Nat) (k i s q x y z c : Int) (w : World) (h : IsInts w (.slice (some ⟨b, off, none⟩) 8 cap) [k, i, s, q, x, y, z, c]) (hk : k ≠ 1) (hf : writeFault k i [] s q = 0) :
    Calls Try.prog 87 #[.slice (some ⟨b, off, none⟩) 8 cap] w fun e w' => ToldU w w' e (unpackW [k, i, s, q, x, y, z, c]) (decide (wordsOf k i [] s q = [k, i, s, q, x, y, z, c])) := by
  have hc : ∀ j, j < 8 → w.cell? ⟨b, off + j, none⟩ = some (.int .i64 ([k, i, s, q, x, y, z, c].getD j 0)) := by
    obtain ⟨ao, cp, e, -, hc⟩ := h
    obtain ⟨b', off', rfl, hc1⟩ := hc (by simp)
    simp only [Value.slice.injEq, Option.some.injEq, Addr.mk.injEq, and_true] at e
    obtain ⟨⟨rfl, rfl⟩, -, -⟩ := e
    exact hc1
  have c0 : w.cell? ⟨b, off, none⟩ = some (.int .i64 k) := hc 0 (by omega)
  have c1 : w.cell? ⟨b, off + 1, none⟩ = some (.int .i64 i) := hc 1 (by omega)
  have c2 : w.cell? ⟨b, off + 2, none⟩ = some (.int .i64 s) := hc 2 (by omega)
  have c3 : w.cell? ⟨b, off + 3, none⟩ = some (.int .i64 q) := hc 3 (by omega)
  have hwf := h.wf
  have f0 : (Lit.int .i64 k).wf = true := hwf k (by simp)
  have f1 : (Lit.int .i64 i).wf = true := hwf i (by simp)
  have f2 : (Lit.int .i64 s).wf = true := hwf s (by simp)
  have f3 : (Lit.int .i64 q).wf = true := hwf q (by simp)
  have HF := hide (And.intro f0 (And.intro f1 (And.intro f2 f3)))
  have H := hide h
  have HFL := hide hf
  clear h hc hwf f0 f1 f2 f3 hf
  have nb : Below w.heap.size w (w.alloc (.cells #[.int .i64 0, .int .i64 0, .slice none 0 0, .int .i64 0, .int .i64 0] 58)) := (Below.refl _ _).alloc (Nat.le_refl _) _
  have bR : Box 0 #[.int .i64 0, .int .i64 0, .slice none 0 0, .int .i64 0, .int .i64 0] 58 (w.alloc (.cells #[.int .i64 0, .int .i64 0, .slice none 0 0, .int .i64 0, .int .i64 0] 58)) w.heap.size := newBox (Nat.zero_le _)
  have d0 := cell_keep nb c0
  have d1 := cell_keep nb c1
  have d2 := cell_keep nb c2
  have d3 := cell_keep nb c3
  clear c0 c1 c2 c3
  go_enter Try.func87, Try.ntmps87
  go_wp2_with fail
  generalize w.alloc (.cells #[.int .i64 0, .int .i64 0, .slice none 0 0, .int .i64 0, .int .i64 0] 58) = W0 at *
  first
    | go_region_held3 (fun w' => w'.cell? ⟨b, off, none⟩ = some (.int .i64 k) ∧ w'.cell? ⟨b, off + 1, none⟩ = some (.int .i64 i) ∧ w'.cell? ⟨b, off + 2, none⟩ = some (.int .i64 s) ∧ w'.cell? ⟨b, off + 3, none⟩ = some (.int .i64 q))
        (first
          | exact ⟨d0, d1, d2, d3⟩
          | (refine ⟨(World.grownBy_alloc _ _ none).cell ?_ (by simp), (World.grownBy_alloc _ _ none).cell ?_ (by simp), (World.grownBy_alloc _ _ none).cell ?_ (by simp), (World.grownBy_alloc _ _ none).cell ?_ (by simp)⟩ <;> assumption)
          | go_keep)
        (fail)
    | fail
  clear d0 d1 d2 d3
  have nb1 : Below W0.heap.size W0 (W0.alloc (.cells #[.int .i64 k, .int .i64 i, .slice none 0 0, .int .i64 s, .int .i64 q] 58)).drew := ((Below.refl _ _).alloc (Nat.le_refl _) _).drew
  have bX : Box 0 #[.int .i64 k, .int .i64 i, .slice none 0 0, .int .i64 s, .int .i64 q] 58 (W0.alloc (.cells #[.int .i64 k, .int .i64 i, .slice none 0 0, .int .i64 s, .int .i64 q] 58)).drew W0.heap.size := (newBox (Nat.zero_le _)).drew
  generalize (W0.alloc (.cells #[.int .i64 k, .int .i64 i, .slice none 0 0, .int .i64 s, .int .i64 q] 58)).drew = W1 at *
  have hX := bX.lt
  have hR := bR.lt
  replace bR := bR.keep nb1
  have HB1 := hide (nb.trans (nb1.mono nb.size))
  skip
  clear nb nb1
  generalize hs0 : W0.heap.size = sx at *
  clear hs0
  have x0 := bX.at 0 _ rfl
  have x1 := bX.at 1 _ rfl
  have x2 := bX.at 2 _ rfl
  have x3 := bX.at 3 _ rfl
  have x4 := bX.at 4 _ rfl
  have HR := hide bR
  have HX := hide bX
  clear bR bX
  go_wp2_with fail
  have bX := unhide HX
  have bR := unhide HR
  clear HX HR x0 x1 x2 x3 x4
  obtain ⟨W2, hW2⟩ : ∃ W2, W2 = W1 := ⟨_, rfl⟩
  subst hW2
  have HVI : Hid ((Lay.sl Lay.int).LiesIn W2 [.slice none 0 0] [] (sx + 1) W2.heap.size) := ⟨[], Lay.lies_ints.2 ⟨none, 0, rfl, ⟨by simp, by simp⟩, by simp, Or.inl ⟨rfl, rfl⟩⟩, by simp⟩
  have HWW : Hid (∀ u ∈ wordsOf k i [] s q, (Lit.int .i64 u).wf = true) := by
    have := packList_wf (k := k) (i := i) (s := s) (q := q) (zs := [])
    rw [packList, if_pos (unhide HFL)] at this
    exact this
  refine wp_region_noPanic ?_
  refine wp_region_held_drew (S := fun w' => Below w.heap.size w w' ∧ Box 0 #[.int .i64 k, .int .i64 i, .slice none 0 0, .int .i64 s, .int .i64 q] 58 w' sx ∧ (∃ cs : Array Value, cs.size = 5 ∧ Box 0 cs 58 w' w.heap.size) ∧ (Lay.sl Lay.int).LiesIn w' [.slice none 0 0] [] (sx + 1) W2.heap.size ∧ W2.heap.size ≤ w'.heap.size) (by kernel_rfl) ⟨(unhide HB1).drew, bX.drew, ⟨_, rfl, bR.drew⟩, unhide HVI, Nat.le_refl _⟩ (fun hHeld => ?_)
  generalize W2.drew = wD at hHeld ⊢
  refine wpAnyH_take (i := 0) (oi := { dst := some 29, op := Go.Op.load 58 (Go.Operand.tmp 4), type := 58, pos := "l03_write.go:52", after := #[], guard := none }) (v := ?v0) rfl (by kernel_rfl) (by kernel_rfl) (by kernel_rfl) (fun _ _ _ h => h) (Or.inl ⟨by rfl, ?h0⟩) hHeld ?r0
  case h0 =>
    intro wS hSw
    have y0 := hSw.2.1.at 0 _ rfl
    have y1 := hSw.2.1.at 1 _ rfl
    have y2 := hSw.2.1.at 2 _ rfl
    have y3 := hSw.2.1.at 3 _ rfl
    have y4 := hSw.2.1.at 4 _ rfl
    simp only [List.getElem_toArray, List.getElem_cons_zero, List.getElem_cons_succ] at y0 y1 y2 y3 y4
    clear hSw
    (try dsimp only at hSw)
    go_simp
    try with_reducible rfl
  case r0 =>
  simp only [Act.put, List.setIfInBounds_toArray, List.set_cons_zero, List.set_cons_succ]
  refine wpAnyH_ready (rs := [1]) (by kernel_rfl) (by simp) ?_
  refine AllReadyH.cons (o := { dst := some 30, op := Go.Op.call { callee := Go.Callee.value (Go.Operand.func 53), args := #[Go.Operand.tmp 4], argTypes := #[77] }, type := 2, pos := "l03_write.go:52", after := #[], guard := none }) rfl (fun K hK => ?_) AllReadyH.nil
  go_simp
  go_at_call 53
  refine (l3Fault sx k i _ s q [] _ ⟨hHeld.2.1.at 0 _ rfl, hHeld.2.1.at 1 _ rfl, hHeld.2.1.at 2 _ rfl, hHeld.2.1.at 3 _ rfl, hHeld.2.1.at 4 _ rfl⟩ (Lay.ints_reads hHeld.2.2.2.1.reads)).mono ?_
  rintro e wE ⟨rfl, hwe⟩
  subst hwe
  rw [unhide HFL]
  try go_wp2_with fail
  refine hK.out _ _ hHeld (fun hHeld => ?_)
  clear hK K
  try simp only [Act.put, List.setIfInBounds_toArray, List.set_cons_zero, List.set_cons_succ]
  refine wpAnyH_take (i := 2) (oi := { dst := some 31, op := Go.Op.binOp Go.BinOp.eql 2 (Go.Operand.tmp 30) (Go.Operand.const (Go.Value.int Go.IntKind.i64 0)) 2, type := 4, pos := "l03_write.go:52", after := #[{ on := 1, ground := Go.Ground.data }], guard := none }) (v := ?v2) rfl (by kernel_rfl) (by kernel_rfl) (by kernel_rfl) (fun _ _ _ h => h) (Or.inl ⟨by rfl, ?h2⟩) hHeld ?r2
  case h2 =>
    intro wS hSw
    (try dsimp only at hSw)
    go_simp
    try with_reducible rfl
  case r2 =>
  simp only [Act.put, List.setIfInBounds_toArray, List.set_cons_zero, List.set_cons_succ]
  refine wpAnyH_take (i := 3) (oi := { dst := some 32, op := Go.Op.move (Go.Operand.tmp 31), type := 4, pos := "l03_write.go:52", after := #[{ on := 2, ground := Go.Ground.data }, { on := 1, ground := Go.Ground.chain }], guard := none }) (v := ?v3) rfl (by kernel_rfl) (by kernel_rfl) (by kernel_rfl) (fun _ _ _ h => h) (Or.inl ⟨by rfl, ?h3⟩) hHeld ?r3
  case h3 =>
    intro wS hSw
    (try dsimp only at hSw)
    go_simp
    try with_reducible rfl
  case r3 =>
  simp only [Act.put, List.setIfInBounds_toArray, List.set_cons_zero, List.set_cons_succ]
  refine wpAnyH_take (i := 5) (oi := { dst := some 34, op := Go.Op.move (Go.Operand.tmp 0), type := 24, pos := "l03_write.go:52", after := #[{ on := 3, ground := Go.Ground.guard }], guard := some (3, true) }) (v := ?v5) rfl (by kernel_rfl) (by kernel_rfl) (by kernel_rfl) (fun _ _ _ h => h) (Or.inl ⟨by rfl, ?h5⟩) hHeld ?r5
  case h5 =>
    intro wS hSw
    (try dsimp only at hSw)
    go_simp
    try with_reducible rfl
  case r5 =>
  simp only [Act.put, List.setIfInBounds_toArray, List.set_cons_zero, List.set_cons_succ]
  refine wpAnyH_ready (rs := [4]) (by kernel_rfl) (by simp) ?_
  refine AllReadyH.cons (o := { dst := some 33, op := Go.Op.call { callee := Go.Callee.value (Go.Operand.func 66), args := #[Go.Operand.tmp 4], argTypes := #[77] }, type := 24, pos := "l03_write.go:52", after := #[{ on := 3, ground := Go.Ground.chain }, { on := 3, ground := Go.Ground.guard }], guard := some (3, true) }) rfl (fun K hK => ?_) AllReadyH.nil
  go_simp
  go_at_call 66
  refine (l3Pack sx k i _ s q [] _ ⟨hHeld.2.1.at 0 _ rfl, hHeld.2.1.at 1 _ rfl, hHeld.2.1.at 2 _ rfl, hHeld.2.1.at 3 _ rfl, hHeld.2.1.at 4 _ rfl⟩ (Lay.ints_reads hHeld.2.2.2.1.reads) (unhide HFL)).mono ?_
  rintro e w4 ⟨g4, rfl, O4, hbw⟩
  have I4 := isInts_row (zs := wordsOf k i [] s q) (unhide HWW) O4
  try go_wp2_with fail
  refine hK.out _ _ ⟨hHeld.1.trans (hbw.mono hHeld.1.size), hHeld.2.1.keep hbw, (by obtain ⟨cs, h1, h2⟩ := hHeld.2.2.1; exact ⟨cs, h1, h2.keep hbw⟩), hHeld.2.2.2.1.later hbw, Nat.le_trans hHeld.2.2.2.2 hbw.size⟩ (fun hHeld => ?_)
  clear hK K
  try simp only [Act.put, List.setIfInBounds_toArray, List.set_cons_zero, List.set_cons_succ]
  refine wpAnyH_ready (rs := [6]) (by kernel_rfl) (by simp) ?_
  refine AllReadyH.cons (o := { dst := some 35, op := Go.Op.call { callee := Go.Callee.value (Go.Operand.func 100), args := #[Go.Operand.tmp 33, Go.Operand.tmp 34], argTypes := #[24, 24] }, type := 4, pos := "l03_write.go:52", after := #[{ on := 4, ground := Go.Ground.data }, { on := 5, ground := Go.Ground.data }, { on := 4, ground := Go.Ground.chain }, { on := 3, ground := Go.Ground.guard }], guard := some (3, true) }) rfl (fun K hK => ?_) AllReadyH.nil
  go_simp
  go_at_call 100
  refine (l1Same _ _ (wordsOf k i [] s q) [k, i, s, q, x, y, z, c] _ I4 ((unhide H).later hHeld.1) (by simp [wordsOf])).mono ?_
  rintro e w5 ⟨rfl, hbw⟩
  try go_wp2_with fail
  refine hK.out _ _ ⟨hHeld.1.trans (hbw.mono hHeld.1.size), hHeld.2.1.keep hbw, (by obtain ⟨cs, h1, h2⟩ := hHeld.2.2.1; exact ⟨cs, h1, h2.keep hbw⟩), hHeld.2.2.2.1.later hbw, Nat.le_trans hHeld.2.2.2.2 hbw.size⟩ (fun hHeld => ?_)
  clear hK K
  try simp only [Act.put, List.setIfInBounds_toArray, List.set_cons_zero, List.set_cons_succ]
  refine wpAnyH_take (i := 7) (oi := { dst := some 36, op := Go.Op.pick (Go.Operand.tmp 32) (Go.Operand.tmp 35) (Go.Operand.const (Go.Value.bool false)), type := 4, pos := "l03_write.go:52", after := #[{ on := 3, ground := Go.Ground.data }, { on := 6, ground := Go.Ground.data }, { on := 8, ground := Go.Ground.gcOnly Go.Departure.lateStores }], guard := none }) (v := ?v7) rfl (by kernel_rfl) (by kernel_rfl) (by kernel_rfl) (fun _ _ _ h => h) (Or.inl ⟨by rfl, ?h7⟩) hHeld ?r7
  case h7 =>
    intro wS hSw
    (try dsimp only at hSw)
    go_simp
    try with_reducible rfl
  case r7 =>
  simp only [Act.put, List.setIfInBounds_toArray, List.set_cons_zero, List.set_cons_succ]
  refine wpAnyH_ready (rs := [8]) (by kernel_rfl) (by simp) ?_
  refine AllReadyH.cons (o := { dst := none, op := Go.Op.store 58 (Go.Operand.tmp 2) (Go.Operand.tmp 29), type := 0, pos := "l03_write.go:52", after := #[{ on := 0, ground := Go.Ground.data }, { on := 6, ground := Go.Ground.chain }, { on := 0, ground := Go.Ground.phase }, { on := 1, ground := Go.Ground.textOnly Go.Departure.lateStoresUnsure }, { on := 2, ground := Go.Ground.textOnly Go.Departure.lateStores }, { on := 3, ground := Go.Ground.textOnly Go.Departure.lateStores }, { on := 4, ground := Go.Ground.textOnly Go.Departure.lateStoresUnsure }, { on := 5, ground := Go.Ground.textOnly Go.Departure.lateStores }, { on := 6, ground := Go.Ground.textOnly Go.Departure.lateStoresUnsure }, { on := 7, ground := Go.Ground.textOnly Go.Departure.lateStores }], guard := none }) rfl (fun K hK => ?_) AllReadyH.nil
  obtain ⟨hb9, bX9, ⟨cs9, hs9, bR9⟩, hv9, hz9⟩ := hHeld
  obtain ⟨q0, q1, q2, q3, q4, rfl⟩ : ∃ q0 q1 q2 q3 q4 : Value, cs9 = #[q0, q1, q2, q3, q4] := by
    obtain ⟨l⟩ := cs9
    match l, hs9 with
    | [q0, q1, q2, q3, q4], _ => exact ⟨q0, q1, q2, q3, q4, rfl⟩
  have e0 : w5.cell? ⟨w.heap.size, 0, none⟩ = some q0 := bR9.at 0 _ rfl
  have e1 : w5.cell? ⟨w.heap.size, 1, none⟩ = some q1 := bR9.at 1 _ rfl
  have e2 : w5.cell? ⟨w.heap.size, 2, none⟩ = some q2 := bR9.at 2 _ rfl
  have e3 : w5.cell? ⟨w.heap.size, 3, none⟩ = some q3 := bR9.at 3 _ rfl
  have e4 : w5.cell? ⟨w.heap.size, 4, none⟩ = some q4 := bR9.at 4 _ rfl
  have ef : ∀ o, w5.frozen? ⟨w.heap.size, o, none⟩ = false := bR9.soft
  have el : w.heap.size < w5.heap.size := bR9.lt
  go_simp
  try go_wp2_with fail
  refine hK.out _ _ (storeS (vs := [.int .i64 k, .int .i64 i, .slice none 0 0, .int .i64 s, .int .i64 q]) hb9 bX9 bR9 hv9 hz9 (by omega) rfl) (fun hHeld => ?_)
  clear hK K
  try simp only [Act.put, List.setIfInBounds_toArray, List.set_cons_zero, List.set_cons_succ]
  refine wpAnyH_take (i := 9) (oi := { dst := some 3, op := Go.Op.assign (Go.Operand.tmp 36), type := 4, pos := "l03_write.go:52", after := #[{ on := 7, ground := Go.Ground.data }, { on := 8, ground := Go.Ground.chain }, { on := 0, ground := Go.Ground.phase }, { on := 1, ground := Go.Ground.phase }, { on := 2, ground := Go.Ground.phase }, { on := 3, ground := Go.Ground.phase }, { on := 4, ground := Go.Ground.phase }, { on := 5, ground := Go.Ground.phase }, { on := 6, ground := Go.Ground.phase }, { on := 7, ground := Go.Ground.phase }, { on := 8, ground := Go.Ground.phase }], guard := none }) (v := ?v9) rfl (by kernel_rfl) (by kernel_rfl) (by kernel_rfl) (fun _ _ _ h => h) (Or.inl ⟨by rfl, ?h9⟩) hHeld ?r9
  case h9 =>
    intro wS hSw
    (try dsimp only at hSw)
    go_simp
    try with_reducible rfl
  case r9 =>
  simp only [Act.put, List.setIfInBounds_toArray, List.set_cons_zero, List.set_cons_succ]
  refine wpAnyH_done (by kernel_rfl) ?_ _
  refine NoPanic.normal ?_
  have HS := hide hHeld
  clear hHeld
  go_wp2_with fail
  refine bodyPost_ret (v := .tuple #[.agg #[.int .i64 k, .int .i64 i, .slice none 0 0, .int .i64 s, .int .i64 q], .bool (decide (wordsOf k i [] s q = [k, i, s, q, x, y, z, c]))]) (by simp [results, Try.results87, go_sem, e0, e1, e2, e3, e4]) rfl ?_
  obtain ⟨f0, f1, f2, f3⟩ := unhide HF
  have hlo : w.heap.size ≤ sx + 1 := by omega
  obtain ⟨s1, -, -, s4, s5⟩ := unhide HS
  refine ⟨[.int .i64 k, .int .i64 i, .slice none 0 0, .int .i64 s, .int .i64 q], rfl, ?_, s1⟩
  refine readsW (x := unpackW [k, i, s, q, x, y, z, c]) ?_ f0 f1 f2 f3
  rw [show (unpackW [k, i, s, q, x, y, z, c]).vec = [] by simp [unpackW, hk]]
  exact s4.mono hlo s5

end Go.Proofs.Ytipomhpimmnchaa

namespace Go.Proofs.Ytipomhpimmnchaa
open Go.RowKit

set_option maxRecDepth 100000 in
set_option maxHeartbeats 4000000 in
theorem l3Unpack_other_bad (b off cap : Nat) (k i s q x y z c : Int) (w : World) (h : IsInts w (.slice (some ⟨b, off, none⟩) 8 cap) [k, i, s, q, x, y, z, c]) (hk : k ≠ 1) (hf : writeFault k i [] s q ≠ 0) :
    Calls Try.prog 87 #[.slice (some ⟨b, off, none⟩) 8 cap] w fun e w' => ToldU w w' e (unpackW [k, i, s, q, x, y, z, c]) false := by
  have hc : ∀ j, j < 8 → w.cell? ⟨b, off + j, none⟩ = some (.int .i64 ([k, i, s, q, x, y, z, c].getD j 0)) := by
    obtain ⟨ao, cp, e, -, hc⟩ := h
    obtain ⟨b', off', rfl, hc1⟩ := hc (by simp)
    simp only [Value.slice.injEq, Option.some.injEq, Addr.mk.injEq, and_true] at e
    obtain ⟨⟨rfl, rfl⟩, -, -⟩ := e
    exact hc1
  have c0 : w.cell? ⟨b, off, none⟩ = some (.int .i64 k) := hc 0 (by omega)
  have c1 : w.cell? ⟨b, off + 1, none⟩ = some (.int .i64 i) := hc 1 (by omega)
  have c2 : w.cell? ⟨b, off + 2, none⟩ = some (.int .i64 s) := hc 2 (by omega)
  have c3 : w.cell? ⟨b, off + 3, none⟩ = some (.int .i64 q) := hc 3 (by omega)
  have hwf := h.wf
  have f0 : (Lit.int .i64 k).wf = true := hwf k (by simp)
  have f1 : (Lit.int .i64 i).wf = true := hwf i (by simp)
  have f2 : (Lit.int .i64 s).wf = true := hwf s (by simp)
  have f3 : (Lit.int .i64 q).wf = true := hwf q (by simp)
  have HF := hide (And.intro f0 (And.intro f1 (And.intro f2 f3)))
  have H := hide h
  have HFL := hide hf
  clear h hc hwf f0 f1 f2 f3 hf
  have nb : Below w.heap.size w (w.alloc (.cells #[.int .i64 0, .int .i64 0, .slice none 0 0, .int .i64 0, .int .i64 0] 58)) := (Below.refl _ _).alloc (Nat.le_refl _) _
  have bR : Box 0 #[.int .i64 0, .int .i64 0, .slice none 0 0, .int .i64 0, .int .i64 0] 58 (w.alloc (.cells #[.int .i64 0, .int .i64 0, .slice none 0 0, .int .i64 0, .int .i64 0] 58)) w.heap.size := newBox (Nat.zero_le _)
  have d0 := cell_keep nb c0
  have d1 := cell_keep nb c1
  have d2 := cell_keep nb c2
  have d3 := cell_keep nb c3
  clear c0 c1 c2 c3
  go_enter Try.func87, Try.ntmps87
  go_wp2_with fail
  generalize w.alloc (.cells #[.int .i64 0, .int .i64 0, .slice none 0 0, .int .i64 0, .int .i64 0] 58) = W0 at *
  first
    | go_region_held3 (fun w' => w'.cell? ⟨b, off, none⟩ = some (.int .i64 k) ∧ w'.cell? ⟨b, off + 1, none⟩ = some (.int .i64 i) ∧ w'.cell? ⟨b, off + 2, none⟩ = some (.int .i64 s) ∧ w'.cell? ⟨b, off + 3, none⟩ = some (.int .i64 q))
        (first
          | exact ⟨d0, d1, d2, d3⟩
          | (refine ⟨(World.grownBy_alloc _ _ none).cell ?_ (by simp), (World.grownBy_alloc _ _ none).cell ?_ (by simp), (World.grownBy_alloc _ _ none).cell ?_ (by simp), (World.grownBy_alloc _ _ none).cell ?_ (by simp)⟩ <;> assumption)
          | go_keep)
        (fail)
    | fail
  clear d0 d1 d2 d3
  have nb1 : Below W0.heap.size W0 (W0.alloc (.cells #[.int .i64 k, .int .i64 i, .slice none 0 0, .int .i64 s, .int .i64 q] 58)).drew := ((Below.refl _ _).alloc (Nat.le_refl _) _).drew
  have bX : Box 0 #[.int .i64 k, .int .i64 i, .slice none 0 0, .int .i64 s, .int .i64 q] 58 (W0.alloc (.cells #[.int .i64 k, .int .i64 i, .slice none 0 0, .int .i64 s, .int .i64 q] 58)).drew W0.heap.size := (newBox (Nat.zero_le _)).drew
  generalize (W0.alloc (.cells #[.int .i64 k, .int .i64 i, .slice none 0 0, .int .i64 s, .int .i64 q] 58)).drew = W1 at *
  have hX := bX.lt
  have hR := bR.lt
  replace bR := bR.keep nb1
  have HB1 := hide (nb.trans (nb1.mono nb.size))
  skip
  clear nb nb1
  generalize hs0 : W0.heap.size = sx at *
  clear hs0
  have x0 := bX.at 0 _ rfl
  have x1 := bX.at 1 _ rfl
  have x2 := bX.at 2 _ rfl
  have x3 := bX.at 3 _ rfl
  have x4 := bX.at 4 _ rfl
  have HR := hide bR
  have HX := hide bX
  clear bR bX
  go_wp2_with fail
  have bX := unhide HX
  have bR := unhide HR
  clear HX HR x0 x1 x2 x3 x4
  obtain ⟨W2, hW2⟩ : ∃ W2, W2 = W1 := ⟨_, rfl⟩
  subst hW2
  have HVI : Hid ((Lay.sl Lay.int).LiesIn W2 [.slice none 0 0] [] (sx + 1) W2.heap.size) := ⟨[], Lay.lies_ints.2 ⟨none, 0, rfl, ⟨by simp, by simp⟩, by simp, Or.inl ⟨rfl, rfl⟩⟩, by simp⟩
  have hne : (writeFault k i [] s q == 0) = false := by simpa using unhide HFL
  refine wp_region_noPanic ?_
  refine wp_region_held_drew (S := fun w' => Below w.heap.size w w' ∧ Box 0 #[.int .i64 k, .int .i64 i, .slice none 0 0, .int .i64 s, .int .i64 q] 58 w' sx ∧ (∃ cs : Array Value, cs.size = 5 ∧ Box 0 cs 58 w' w.heap.size) ∧ (Lay.sl Lay.int).LiesIn w' [.slice none 0 0] [] (sx + 1) W2.heap.size ∧ W2.heap.size ≤ w'.heap.size) (by kernel_rfl) ⟨(unhide HB1).drew, bX.drew, ⟨_, rfl, bR.drew⟩, unhide HVI, Nat.le_refl _⟩ (fun hHeld => ?_)
  generalize W2.drew = wD at hHeld ⊢
  refine wpAnyH_take (i := 0) (oi := { dst := some 29, op := Go.Op.load 58 (Go.Operand.tmp 4), type := 58, pos := "l03_write.go:52", after := #[], guard := none }) (v := ?v0) rfl (by kernel_rfl) (by kernel_rfl) (by kernel_rfl) (fun _ _ _ h => h) (Or.inl ⟨by rfl, ?h0⟩) hHeld ?r0
  case h0 =>
    intro wS hSw
    have y0 := hSw.2.1.at 0 _ rfl
    have y1 := hSw.2.1.at 1 _ rfl
    have y2 := hSw.2.1.at 2 _ rfl
    have y3 := hSw.2.1.at 3 _ rfl
    have y4 := hSw.2.1.at 4 _ rfl
    simp only [List.getElem_toArray, List.getElem_cons_zero, List.getElem_cons_succ] at y0 y1 y2 y3 y4
    clear hSw
    (try dsimp only at hSw)
    go_simp
    try with_reducible rfl
  case r0 =>
  simp only [Act.put, List.setIfInBounds_toArray, List.set_cons_zero, List.set_cons_succ]
  refine wpAnyH_ready (rs := [1]) (by kernel_rfl) (by simp) ?_
  refine AllReadyH.cons (o := { dst := some 30, op := Go.Op.call { callee := Go.Callee.value (Go.Operand.func 53), args := #[Go.Operand.tmp 4], argTypes := #[77] }, type := 2, pos := "l03_write.go:52", after := #[], guard := none }) rfl (fun K hK => ?_) AllReadyH.nil
  go_simp
  go_at_call 53
  refine (l3Fault sx k i _ s q [] _ ⟨hHeld.2.1.at 0 _ rfl, hHeld.2.1.at 1 _ rfl, hHeld.2.1.at 2 _ rfl, hHeld.2.1.at 3 _ rfl, hHeld.2.1.at 4 _ rfl⟩ (Lay.ints_reads hHeld.2.2.2.1.reads)).mono ?_
  rintro e wE ⟨rfl, hwe⟩
  subst hwe
  skip
  try go_wp2_with fail
  refine hK.out _ _ hHeld (fun hHeld => ?_)
  clear hK K
  try simp only [Act.put, List.setIfInBounds_toArray, List.set_cons_zero, List.set_cons_succ]
  refine wpAnyH_take (i := 2) (oi := { dst := some 31, op := Go.Op.binOp Go.BinOp.eql 2 (Go.Operand.tmp 30) (Go.Operand.const (Go.Value.int Go.IntKind.i64 0)) 2, type := 4, pos := "l03_write.go:52", after := #[{ on := 1, ground := Go.Ground.data }], guard := none }) (v := ?v2) rfl (by kernel_rfl) (by kernel_rfl) (by kernel_rfl) (fun _ _ _ h => h) (Or.inl ⟨by rfl, ?h2⟩) hHeld ?r2
  case h2 =>
    intro wS hSw
    (try dsimp only at hSw)
    go_simp
    try with_reducible rfl
  case r2 =>
  simp only [Act.put, List.setIfInBounds_toArray, List.set_cons_zero, List.set_cons_succ]
  refine wpAnyH_take (i := 3) (oi := { dst := some 32, op := Go.Op.move (Go.Operand.tmp 31), type := 4, pos := "l03_write.go:52", after := #[{ on := 2, ground := Go.Ground.data }, { on := 1, ground := Go.Ground.chain }], guard := none }) (v := ?v3) rfl (by kernel_rfl) (by kernel_rfl) (by kernel_rfl) (fun _ _ _ h => h) (Or.inl ⟨by rfl, ?h3⟩) hHeld ?r3
  case h3 =>
    intro wS hSw
    (try dsimp only at hSw)
    go_simp
    try with_reducible rfl
  case r3 =>
  simp only [Act.put, List.setIfInBounds_toArray, List.set_cons_zero, List.set_cons_succ]
  refine wpAnyH_take (i := 4) (oi := { dst := some 33, op := Go.Op.call { callee := Go.Callee.value (Go.Operand.func 66), args := #[Go.Operand.tmp 4], argTypes := #[77] }, type := 24, pos := "l03_write.go:52", after := #[{ on := 3, ground := Go.Ground.chain }, { on := 3, ground := Go.Ground.guard }], guard := some (3, true) }) (v := undef) rfl (by kernel_rfl) (by kernel_rfl) (by kernel_rfl) (fun _ _ _ h => h) (Or.inr ⟨by rfl, rfl⟩) hHeld ?_
  simp only [Act.put, List.setIfInBounds_toArray, List.set_cons_zero, List.set_cons_succ]
  refine wpAnyH_take (i := 5) (oi := { dst := some 34, op := Go.Op.move (Go.Operand.tmp 0), type := 24, pos := "l03_write.go:52", after := #[{ on := 3, ground := Go.Ground.guard }], guard := some (3, true) }) (v := undef) rfl (by kernel_rfl) (by kernel_rfl) (by kernel_rfl) (fun _ _ _ h => h) (Or.inr ⟨by rfl, rfl⟩) hHeld ?_
  simp only [Act.put, List.setIfInBounds_toArray, List.set_cons_zero, List.set_cons_succ]
  refine wpAnyH_take (i := 6) (oi := { dst := some 35, op := Go.Op.call { callee := Go.Callee.value (Go.Operand.func 100), args := #[Go.Operand.tmp 33, Go.Operand.tmp 34], argTypes := #[24, 24] }, type := 4, pos := "l03_write.go:52", after := #[{ on := 4, ground := Go.Ground.data }, { on := 5, ground := Go.Ground.data }, { on := 4, ground := Go.Ground.chain }, { on := 3, ground := Go.Ground.guard }], guard := some (3, true) }) (v := undef) rfl (by kernel_rfl) (by kernel_rfl) (by kernel_rfl) (fun _ _ _ h => h) (Or.inr ⟨by rfl, rfl⟩) hHeld ?_
  simp only [Act.put, List.setIfInBounds_toArray, List.set_cons_zero, List.set_cons_succ]
  refine wpAnyH_take (i := 7) (oi := { dst := some 36, op := Go.Op.pick (Go.Operand.tmp 32) (Go.Operand.tmp 35) (Go.Operand.const (Go.Value.bool false)), type := 4, pos := "l03_write.go:52", after := #[{ on := 3, ground := Go.Ground.data }, { on := 6, ground := Go.Ground.data }, { on := 8, ground := Go.Ground.gcOnly Go.Departure.lateStores }], guard := none }) (v := ?v7) rfl (by kernel_rfl) (by kernel_rfl) (by kernel_rfl) (fun _ _ _ h => h) (Or.inl ⟨by rfl, ?h7⟩) hHeld ?r7
  case h7 =>
    intro wS hSw
    (try dsimp only at hSw)
    go_simp
    try with_reducible rfl
  case r7 =>
  simp only [Act.put, List.setIfInBounds_toArray, List.set_cons_zero, List.set_cons_succ]
  refine wpAnyH_ready (rs := [8]) (by kernel_rfl) (by simp) ?_
  refine AllReadyH.cons (o := { dst := none, op := Go.Op.store 58 (Go.Operand.tmp 2) (Go.Operand.tmp 29), type := 0, pos := "l03_write.go:52", after := #[{ on := 0, ground := Go.Ground.data }, { on := 6, ground := Go.Ground.chain }, { on := 0, ground := Go.Ground.phase }, { on := 1, ground := Go.Ground.textOnly Go.Departure.lateStoresUnsure }, { on := 2, ground := Go.Ground.textOnly Go.Departure.lateStores }, { on := 3, ground := Go.Ground.textOnly Go.Departure.lateStores }, { on := 4, ground := Go.Ground.textOnly Go.Departure.lateStoresUnsure }, { on := 5, ground := Go.Ground.textOnly Go.Departure.lateStores }, { on := 6, ground := Go.Ground.textOnly Go.Departure.lateStoresUnsure }, { on := 7, ground := Go.Ground.textOnly Go.Departure.lateStores }], guard := none }) rfl (fun K hK => ?_) AllReadyH.nil
  obtain ⟨hb9, bX9, ⟨cs9, hs9, bR9⟩, hv9, hz9⟩ := hHeld
  obtain ⟨q0, q1, q2, q3, q4, rfl⟩ : ∃ q0 q1 q2 q3 q4 : Value, cs9 = #[q0, q1, q2, q3, q4] := by
    obtain ⟨l⟩ := cs9
    match l, hs9 with
    | [q0, q1, q2, q3, q4], _ => exact ⟨q0, q1, q2, q3, q4, rfl⟩
  have e0 : wE.cell? ⟨w.heap.size, 0, none⟩ = some q0 := bR9.at 0 _ rfl
  have e1 : wE.cell? ⟨w.heap.size, 1, none⟩ = some q1 := bR9.at 1 _ rfl
  have e2 : wE.cell? ⟨w.heap.size, 2, none⟩ = some q2 := bR9.at 2 _ rfl
  have e3 : wE.cell? ⟨w.heap.size, 3, none⟩ = some q3 := bR9.at 3 _ rfl
  have e4 : wE.cell? ⟨w.heap.size, 4, none⟩ = some q4 := bR9.at 4 _ rfl
  have ef : ∀ o, wE.frozen? ⟨w.heap.size, o, none⟩ = false := bR9.soft
  have el : w.heap.size < wE.heap.size := bR9.lt
  go_simp
  try go_wp2_with fail
  refine hK.out _ _ (storeS (vs := [.int .i64 k, .int .i64 i, .slice none 0 0, .int .i64 s, .int .i64 q]) hb9 bX9 bR9 hv9 hz9 (by omega) rfl) (fun hHeld => ?_)
  clear hK K
  try simp only [Act.put, List.setIfInBounds_toArray, List.set_cons_zero, List.set_cons_succ]
  refine wpAnyH_take (i := 9) (oi := { dst := some 3, op := Go.Op.assign (Go.Operand.tmp 36), type := 4, pos := "l03_write.go:52", after := #[{ on := 7, ground := Go.Ground.data }, { on := 8, ground := Go.Ground.chain }, { on := 0, ground := Go.Ground.phase }, { on := 1, ground := Go.Ground.phase }, { on := 2, ground := Go.Ground.phase }, { on := 3, ground := Go.Ground.phase }, { on := 4, ground := Go.Ground.phase }, { on := 5, ground := Go.Ground.phase }, { on := 6, ground := Go.Ground.phase }, { on := 7, ground := Go.Ground.phase }, { on := 8, ground := Go.Ground.phase }], guard := none }) (v := ?v9) rfl (by kernel_rfl) (by kernel_rfl) (by kernel_rfl) (fun _ _ _ h => h) (Or.inl ⟨by rfl, ?h9⟩) hHeld ?r9
  case h9 =>
    intro wS hSw
    (try dsimp only at hSw)
    go_simp
    try with_reducible rfl
  case r9 =>
  simp only [Act.put, List.setIfInBounds_toArray, List.set_cons_zero, List.set_cons_succ]
  refine wpAnyH_done (by kernel_rfl) ?_ _
  refine NoPanic.normal ?_
  have HS := hide hHeld
  clear hHeld
  go_wp2_with fail
  refine bodyPost_ret (v := .tuple #[.agg #[.int .i64 k, .int .i64 i, .slice none 0 0, .int .i64 s, .int .i64 q], .bool false]) (by simp [results, Try.results87, go_sem, e0, e1, e2, e3, e4]) rfl ?_
  obtain ⟨f0, f1, f2, f3⟩ := unhide HF
  have hlo : w.heap.size ≤ sx + 1 := by omega
  obtain ⟨s1, -, -, s4, s5⟩ := unhide HS
  refine ⟨[.int .i64 k, .int .i64 i, .slice none 0 0, .int .i64 s, .int .i64 q], rfl, ?_, s1⟩
  refine readsW (x := unpackW [k, i, s, q, x, y, z, c]) ?_ f0 f1 f2 f3
  rw [show (unpackW [k, i, s, q, x, y, z, c]).vec = [] by simp [unpackW, hk]]
  exact s4.mono hlo s5

end Go.Proofs.Ytipomhpimmnchaa
