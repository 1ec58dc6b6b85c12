/-
  Texts of this proof in one: SpecNodeF, SpecNodeO.
  Their conditions stand in their theorems.
-/
import Derived.Test.YtoanimpijfijgaaGreatMa05
import Derived.Test.YtoanimpijfijgaaGreatMa10
import Derived.Test.YtoanimpijfijgaaGreatMa06
import Derived.Test.YtoanimpijfijgaaGreatMa09
import Derived.Deep.RegionHeld3
import Derived.Test.YtoanimpijfijgaaGreatMa00
set_option maxRecDepth 100000
set_option maxHeartbeats 4000000
namespace Go.Proofs.YtoanimpijfijgaaGreat
open Go.RowKit
abbrev o146x1 : Oper := ⟨some 46, .move (.tmp 0), 113, "l09_node.go:22", #[], none⟩
abbrev o146x2 : Oper := ⟨some 47, .nilCheck (.tmp 46), 0, "l09_node.go:22", #[⟨0, .data⟩], none⟩
abbrev o146x3 : Oper := ⟨some 48, .fieldAddr 84 (.tmp 47) 5, 0, "l09_node.go:22", #[⟨1, .data⟩], none⟩
abbrev o146x4 : Oper := ⟨some 49, .load 2 (.tmp 48), 2, "l09_node.go:22", #[⟨2, .data⟩], none⟩
abbrev o146x5 : Oper := ⟨some 50, .move (.tmp 0), 113, "l09_node.go:22", #[], none⟩
abbrev o146x6 : Oper := ⟨some 51, .nilCheck (.tmp 50), 0, "l09_node.go:22", #[⟨4, .data⟩], none⟩
abbrev o146x7 : Oper := ⟨some 52, .fieldAddr 84 (.tmp 51) 4, 0, "l09_node.go:22", #[⟨5, .data⟩], none⟩
abbrev o146x8 : Oper := ⟨some 53, .load 82 (.tmp 52), 82, "l09_node.go:22", #[⟨6, .data⟩], none⟩
abbrev o146x9 : Oper := ⟨some 54, .call { callee := .builtin .len, args := #[.tmp 53], argTypes := #[82] }, 3, "l09_node.go:22", #[⟨7, .data⟩], none⟩
abbrev o146x10 : Oper := ⟨some 55, .call { callee := .value (.func 64), args := #[.tmp 49, .const (.int .i64 0), .tmp 54], argTypes := #[2, 2, 2] }, 4, "l09_node.go:22", #[⟨3, .data⟩, ⟨8, .data⟩], none⟩
abbrev o146x11 : Oper := ⟨some 56, .unOp .not 4 (.tmp 55), 4, "l09_node.go:22", #[⟨9, .data⟩], none⟩
abbrev o146x12 : Oper := ⟨some 57, .move (.tmp 56), 4, "l09_node.go:22", #[⟨10, .data⟩, ⟨9, .chain⟩], none⟩
abbrev o146x13 : Oper := ⟨some 58, .move (.tmp 0), 113, "l09_node.go:22", #[⟨11, .guard⟩], some (11, false)⟩
abbrev o146x14 : Oper := ⟨some 59, .nilCheck (.tmp 58), 0, "l09_node.go:22", #[⟨12, .data⟩, ⟨11, .guard⟩], some (11, false)⟩
abbrev o146x15 : Oper := ⟨some 60, .fieldAddr 84 (.tmp 59) 6, 0, "l09_node.go:22", #[⟨13, .data⟩, ⟨11, .guard⟩], some (11, false)⟩
abbrev o146x16 : Oper := ⟨some 61, .load 2 (.tmp 60), 2, "l09_node.go:22", #[⟨14, .data⟩, ⟨11, .guard⟩], some (11, false)⟩
abbrev o146x17 : Oper := ⟨some 62, .move (.tmp 0), 113, "l09_node.go:22", #[⟨11, .guard⟩], some (11, false)⟩
abbrev o146x18 : Oper := ⟨some 63, .nilCheck (.tmp 62), 0, "l09_node.go:22", #[⟨16, .data⟩, ⟨11, .guard⟩], some (11, false)⟩
abbrev o146x19 : Oper := ⟨some 64, .fieldAddr 84 (.tmp 63) 5, 0, "l09_node.go:22", #[⟨17, .data⟩, ⟨11, .guard⟩], some (11, false)⟩
abbrev o146x20 : Oper := ⟨some 65, .load 2 (.tmp 64), 2, "l09_node.go:22", #[⟨18, .data⟩, ⟨11, .guard⟩], some (11, false)⟩
abbrev o146x21 : Oper := ⟨some 66, .call { callee := .value (.func 64), args := #[.tmp 61, .const (.int .i64 0), .tmp 65], argTypes := #[2, 2, 2] }, 4, "l09_node.go:22", #[⟨15, .data⟩, ⟨19, .data⟩, ⟨11, .chain⟩, ⟨11, .guard⟩], some (11, false)⟩
abbrev o146x22 : Oper := ⟨some 67, .unOp .not 4 (.tmp 66), 4, "l09_node.go:22", #[⟨20, .data⟩, ⟨11, .guard⟩], some (11, false)⟩
abbrev o146x23 : Oper := ⟨some 68, .pick (.tmp 57) (.const (.bool true)) (.tmp 67), 4, "l09_node.go:22", #[⟨11, .data⟩, ⟨21, .data⟩], none⟩
abbrev o146x24 : Oper := ⟨some 69, .move (.tmp 0), 113, "l09_node.go:25", #[], none⟩
abbrev o146x25 : Oper := ⟨some 70, .nilCheck (.tmp 69), 0, "l09_node.go:25", #[⟨0, .data⟩], none⟩
abbrev o146x26 : Oper := ⟨some 71, .fieldAddr 84 (.tmp 70) 1, 0, "l09_node.go:25", #[⟨1, .data⟩], none⟩
abbrev o146x27 : Oper := ⟨some 72, .load 4 (.tmp 71), 4, "l09_node.go:25", #[⟨2, .data⟩], none⟩
abbrev o146x28 : Oper := ⟨some 73, .unOp .not 4 (.tmp 72), 4, "l09_node.go:25", #[⟨3, .data⟩], none⟩
abbrev o146x29 : Oper := ⟨some 74, .move (.tmp 73), 4, "l09_node.go:25", #[⟨4, .data⟩], none⟩
abbrev o146x30 : Oper := ⟨some 75, .move (.tmp 0), 113, "l09_node.go:25", #[⟨5, .guard⟩], some (5, true)⟩
abbrev o146x31 : Oper := ⟨some 76, .nilCheck (.tmp 75), 0, "l09_node.go:25", #[⟨6, .data⟩, ⟨5, .guard⟩], some (5, true)⟩
abbrev o146x32 : Oper := ⟨some 77, .fieldAddr 84 (.tmp 76) 5, 0, "l09_node.go:25", #[⟨7, .data⟩, ⟨5, .guard⟩], some (5, true)⟩
abbrev o146x33 : Oper := ⟨some 78, .load 2 (.tmp 77), 2, "l09_node.go:25", #[⟨8, .data⟩, ⟨5, .guard⟩], some (5, true)⟩
abbrev o146x34 : Oper := ⟨some 79, .move (.tmp 0), 113, "l09_node.go:25", #[⟨5, .guard⟩], some (5, true)⟩
abbrev o146x35 : Oper := ⟨some 80, .nilCheck (.tmp 79), 0, "l09_node.go:25", #[⟨10, .data⟩, ⟨5, .guard⟩], some (5, true)⟩
abbrev o146x36 : Oper := ⟨some 81, .fieldAddr 84 (.tmp 80) 4, 0, "l09_node.go:25", #[⟨11, .data⟩, ⟨5, .guard⟩], some (5, true)⟩
abbrev o146x37 : Oper := ⟨some 82, .load 82 (.tmp 81), 82, "l09_node.go:25", #[⟨12, .data⟩, ⟨5, .guard⟩], some (5, true)⟩
abbrev o146x38 : Oper := ⟨some 83, .call { callee := .builtin .len, args := #[.tmp 82], argTypes := #[82] }, 3, "l09_node.go:25", #[⟨13, .data⟩, ⟨5, .guard⟩], some (5, true)⟩
abbrev o146x39 : Oper := ⟨some 84, .binOp .neq 2 (.tmp 78) (.tmp 83) 2, 4, "l09_node.go:25", #[⟨9, .data⟩, ⟨14, .data⟩, ⟨5, .guard⟩], some (5, true)⟩
abbrev o146x40 : Oper := ⟨some 85, .move (.tmp 84), 4, "l09_node.go:25", #[⟨15, .data⟩, ⟨5, .chain⟩, ⟨5, .guard⟩], some (5, true)⟩
abbrev o146x41 : Oper := ⟨some 86, .move (.tmp 0), 113, "l09_node.go:25", #[⟨16, .guard⟩], some (16, false)⟩
abbrev o146x42 : Oper := ⟨some 87, .nilCheck (.tmp 86), 0, "l09_node.go:25", #[⟨17, .data⟩, ⟨16, .guard⟩], some (16, false)⟩
abbrev o146x43 : Oper := ⟨some 88, .fieldAddr 84 (.tmp 87) 6, 0, "l09_node.go:25", #[⟨18, .data⟩, ⟨16, .guard⟩], some (16, false)⟩
abbrev o146x44 : Oper := ⟨some 89, .load 2 (.tmp 88), 2, "l09_node.go:25", #[⟨19, .data⟩, ⟨16, .guard⟩], some (16, false)⟩
abbrev o146x45 : Oper := ⟨some 90, .binOp .neq 2 (.tmp 89) (.const (.int .i64 0)) 2, 4, "l09_node.go:25", #[⟨20, .data⟩, ⟨16, .guard⟩], some (16, false)⟩
abbrev o146x46 : Oper := ⟨some 91, .pick (.tmp 85) (.const (.bool true)) (.tmp 90), 4, "l09_node.go:25", #[⟨16, .data⟩, ⟨21, .data⟩, ⟨5, .guard⟩], some (5, true)⟩
abbrev o146x47 : Oper := ⟨some 92, .move (.tmp 91), 4, "l09_node.go:25", #[⟨22, .data⟩, ⟨16, .chain⟩, ⟨5, .guard⟩], some (5, true)⟩
abbrev o146x48 : Oper := ⟨some 93, .move (.tmp 0), 113, "l09_node.go:25", #[⟨23, .guard⟩], some (23, false)⟩
abbrev o146x49 : Oper := ⟨some 94, .nilCheck (.tmp 93), 0, "l09_node.go:25", #[⟨24, .data⟩, ⟨23, .guard⟩], some (23, false)⟩
abbrev o146x50 : Oper := ⟨some 95, .fieldAddr 84 (.tmp 94) 3, 0, "l09_node.go:25", #[⟨25, .data⟩, ⟨23, .guard⟩], some (23, false)⟩
abbrev o146x51 : Oper := ⟨some 96, .load 2 (.tmp 95), 2, "l09_node.go:25", #[⟨26, .data⟩, ⟨23, .guard⟩], some (23, false)⟩
abbrev o146x52 : Oper := ⟨some 97, .binOp .neq 2 (.tmp 96) (.const (.int .i64 0)) 2, 4, "l09_node.go:25", #[⟨27, .data⟩, ⟨23, .guard⟩], some (23, false)⟩
abbrev o146x53 : Oper := ⟨some 98, .pick (.tmp 92) (.const (.bool true)) (.tmp 97), 4, "l09_node.go:25", #[⟨23, .data⟩, ⟨28, .data⟩, ⟨5, .guard⟩], some (5, true)⟩
abbrev o146x54 : Oper := ⟨some 99, .pick (.tmp 74) (.tmp 98) (.const (.bool false)), 4, "l09_node.go:25", #[⟨5, .data⟩, ⟨29, .data⟩], none⟩
theorem nodeC (x : Int) (w : World) : Calls Tryz.prog 174 #[.int .i64 x] w fun e w' => e = .returned (.bool (decide (1 ≤ x) && decide (x ≤ 5))) ∧ w' = w := by
 go_enter Tryz.func174, Tryz.ntmps174
 go_wp2_with fail
 refine (inC x 1 5 _).mono ?_
 rintro e w1 ⟨rfl, rfl⟩
 go_wp2_with fail
 go_ret
 exact ⟨rfl, rfl⟩
theorem l9FaultO (b o : Nat) (a4 : Option Addr) (d4 : Nat) (x : DNode) (w : World) (hX : RowIn #[.int .i64 x.id, .bool x.up, .int .i64 x.epoch, .int .i64 x.lease, .slice a4 x.writes.length d4, .int .i64 x.sure, .int .i64 x.clean] w b o) (R4 : (Lay.sl Lay.tWrite).Reads w [.slice a4 x.writes.length d4] x.writes) :
  Calls Tryz.prog 243 #[.pointer (some ⟨b, o, none⟩)] w fun e w' => e = .returned (.int .i64 (nodeFault x)) ∧ Below w.heap.size w w' := by
 have hbig := R4.big
 have x0 := hX.at 0 _ rfl
 have x2 := hX.at 2 _ rfl
 have x3 := hX.at 3 _ rfl
 have x4 := hX.at 4 _ rfl
 simp only [List.getElem_toArray, List.getElem_cons_zero, List.getElem_cons_succ, Nat.add_zero] at x0 x2 x3 x4
 have xl := hX.lt
 have HX := yh hX
 have H4 := yh R4
 clear hX R4
 go_enter Tryz.func243, Tryz.ntmps243
 go_wp2_with fail
 refine (nodeC x.id w).mono ?_
 rintro e w1 ⟨rfl, h1⟩
 subst w1
 cases d1 : (decide (1 ≤ x.id) && decide (x.id ≤ 5))
 ·
  have HF := yh (nf_id d1)
  clear d1
  go_wp2_with fail
  go_ret
  exact ⟨by rw [uh HF]; rfl, Below.refl _ _⟩
 go_wp2_with fail
 refine (inC x.epoch 0 999 w).mono ?_
 rintro e w1 ⟨rfl, h1⟩
 subst w1
 cases d2 : (decide (0 ≤ x.epoch) && decide (x.epoch ≤ 999))
 ·
  have HF := yh (nf_epoch d2)
  clear d1 d2
  go_wp2_with fail
  go_ret
  exact ⟨by rw [uh HF]; rfl, Below.refl _ _⟩
 go_wp2_with fail
 refine (inC x.lease 0 9999 w).mono ?_
 rintro e w1 ⟨rfl, h1⟩
 subst w1
 cases d3 : (decide (0 ≤ x.lease) && decide (x.lease ≤ 9999))
 ·
  have HF := yh (nf_lease d3)
  clear d1 d2 d3
  go_wp2_with fail
  go_ret
  exact ⟨by rw [uh HF]; rfl, Below.refl _ _⟩
 have HF := yh (nf_rest d1 d2 d3)
 clear d1 d2 d3
 by_cases hn : 40 < x.writes.length
 ·
  have ht : takenF x.writes = 2 := by rw [takenF, if_pos hn]
  have HF1 := yh ((uh HF).trans (if_pos (by rw [ht]; decide)))
  rw [ht] at HF1
  have hd : decide ((40 : Int) < (x.writes.length : Int)) = true := by simp; omega
  clear HF ht
  go_wp2_with fail
  go_ret
  exact ⟨by rw [uh HF1]; rfl, Below.refl _ _⟩
 have hn2 : x.writes.length ≤ 40 := by omega
 have HW := yh (specWrites _ x.writes w (uh H4))
 have hwf : writesF x.writes = wsFrom x.writes := by rw [writesF, if_neg (by omega)]
 rw [hwf] at HW
 clear hwf
 go_wp2_with fail
 refine (uh HW).mono ?_
 rintro e w1 ⟨rfl, hb1⟩
 subst w1
 by_cases hs : wsFrom x.writes = 0
 ·
  rw [hs]
  have HO := yh (l5OnceC _ x.writes w (uh H4) (by omega))
  have HT : Hid (takenF x.writes = if onceB [] x.writes = false then 6 else 0) := by show takenF x.writes = _; rw [takenF, if_neg hn, if_neg (by simpa using hs)]
  clear HW hs hn
  cases ho : onceB [] x.writes
  ·
   rw [ho] at HO HT
   have HT6 : Hid (takenF x.writes = 6) := uh HT
   have HF1 := yh ((uh HF).trans (if_pos (by rw [uh HT6]; decide)))
   rw [uh HT6] at HF1
   clear ho HT HF HT6
   go_wp2_with fail
   refine (uh HO).mono ?_
   rintro e w2 ⟨rfl, hb⟩
   have HB := yh hb
   clear hb HO
   go_wp2_with fail
   go_ret
   exact ⟨by rw [uh HF1]; rfl, uh HB⟩
  rw [ho] at HO HT
  have HT0 : Hid (takenF x.writes = 0) := uh HT
  have HF1 := yh ((uh HF).trans (if_neg (by rw [uh HT0]; decide)))
  clear ho HT HF HT0
  go_wp2_with fail
  refine (uh HO).mono ?_
  rintro e w2 ⟨rfl, hb⟩
  have HB := yh hb
  have hX2 := (uh HX).keep hb
  have hl2 := hX2.lt
  clear hb HO x0 x2 x3 x4 xl HX H4
  go_wp2_with fail
  cases q4 : (decide (0 ≤ x.sure) && decide (x.sure ≤ (x.writes.length : Int)))
  ·
   have HF2 := yh ((uh HF1).trans (if_neg (by rw [q4]; simp)))
   clear HF1
   refine wp_region_noPanic ?_
   refine wp_region_held_drew (S := fun w' => w' = w2.drew) (by kernel_rfl) rfl (fun zq => ?_)
   refine tkH (i := 0) (oi := o146x1) (v := ?va0) rfl ?ha0 zq ?ra0
   case ha0 => intro _ _; go_simp; try with_reducible rfl
   refine tkH (i := 1) (oi := o146x2) (v := ?va1) rfl ?ha1 zq ?ra1
   case ha1 => intro _ _; go_simp; try with_reducible rfl
   refine tkH (i := 2) (oi := o146x3) (v := ?va2) rfl ?ha2 zq ?ra2
   case ha2 => intro _ _; go_simp; try with_reducible rfl
   refine tkH (i := 3) (oi := o146x4) (v := ?va3) rfl ?ha3 zq ?ra3
   case ha3 =>
    intro wS hSw
    have y5 : wS.cell? ⟨b, o + 5, none⟩ = some (.int .i64 x.sure) := by rw [hSw]; exact hX2.at 5 _ rfl
    clear hSw
    (try dsimp only at hSw)
    go_simp
    try with_reducible rfl
   refine tkH (i := 4) (oi := o146x5) (v := ?va4) rfl ?ha4 zq ?ra4
   case ha4 => intro _ _; go_simp; try with_reducible rfl
   refine tkH (i := 5) (oi := o146x6) (v := ?va5) rfl ?ha5 zq ?ra5
   case ha5 => intro _ _; go_simp; try with_reducible rfl
   refine tkH (i := 6) (oi := o146x7) (v := ?va6) rfl ?ha6 zq ?ra6
   case ha6 => intro _ _; go_simp; try with_reducible rfl
   refine tkH (i := 7) (oi := o146x8) (v := ?va7) rfl ?ha7 zq ?ra7
   case ha7 =>
    intro wS hSw
    have y4 : wS.cell? ⟨b, o + 4, none⟩ = some (.slice a4 x.writes.length d4) := by rw [hSw]; exact hX2.at 4 _ rfl
    clear hSw
    (try dsimp only at hSw)
    go_simp
    try with_reducible rfl
   refine tkH (i := 8) (oi := o146x9) (v := ?va8) rfl ?ha8 zq ?ra8
   case ha8 => intro _ _; go_simp; try with_reducible rfl
   refine rdH (i := 9) (oi := o146x10) rfl (fun K hK => ?_)
   go_simp
   go_at_call 64
   refine (inC x.sure 0 (x.writes.length : Int) _).mono ?_
   rintro e w3 ⟨rfl, rfl⟩
   rw [q4]
   try go_wp2_with fail
   refine hK.out _ _ rfl (fun zq => ?_)
   clear hK K
   try simp only [Act.put, pz, py, px]
   refine tkH (i := 10) (oi := o146x11) (v := ?va10) rfl ?ha10 zq ?ra10
   case ha10 => intro _ _; go_simp; try with_reducible rfl
   refine tkH (i := 11) (oi := o146x12) (v := ?va11) rfl ?ha11 zq ?ra11
   case ha11 => intro _ _; go_simp; try with_reducible rfl
   refine skH (i := 12) (oi := o146x13) rfl zq ?_
   refine skH (i := 13) (oi := o146x14) rfl zq ?_
   refine skH (i := 14) (oi := o146x15) rfl zq ?_
   refine skH (i := 15) (oi := o146x16) rfl zq ?_
   refine skH (i := 16) (oi := o146x17) rfl zq ?_
   refine skH (i := 17) (oi := o146x18) rfl zq ?_
   refine skH (i := 18) (oi := o146x19) rfl zq ?_
   refine skH (i := 19) (oi := o146x20) rfl zq ?_
   refine skH (i := 20) (oi := o146x21) rfl zq ?_
   refine skH (i := 21) (oi := o146x22) rfl zq ?_
   refine tkH (i := 22) (oi := o146x23) (v := ?va22) rfl ?ha22 zq ?ra22
   case ha22 => intro _ _; go_simp; try with_reducible rfl
   refine wpAnyH_done (by kernel_rfl) ?_ _
   refine NoPanic.normal ?_
   clear zq
   go_wp2_with fail
   go_ret
   exact ⟨by rw [uh HF2]; rfl, (uh HB).drew⟩
  cases q5 : (decide (0 ≤ x.clean) && decide (x.clean ≤ x.sure))
  ·
   have HF2 := yh ((uh HF1).trans (if_neg (by rw [q5]; simp)))
   clear HF1
   refine wp_region_noPanic ?_
   refine wp_region_held_drew (S := fun w' => w' = w2.drew) (by kernel_rfl) rfl (fun zq => ?_)
   refine tkH (i := 0) (oi := o146x1) (v := ?vb0) rfl ?hb0 zq ?rb0
   case hb0 => intro _ _; go_simp; try with_reducible rfl
   refine tkH (i := 1) (oi := o146x2) (v := ?vb1) rfl ?hb1 zq ?rb1
   case hb1 => intro _ _; go_simp; try with_reducible rfl
   refine tkH (i := 2) (oi := o146x3) (v := ?vb2) rfl ?hb2 zq ?rb2
   case hb2 => intro _ _; go_simp; try with_reducible rfl
   refine tkH (i := 3) (oi := o146x4) (v := ?vb3) rfl ?hb3 zq ?rb3
   case hb3 =>
    intro wS hSw
    have y5 : wS.cell? ⟨b, o + 5, none⟩ = some (.int .i64 x.sure) := by rw [hSw]; exact hX2.at 5 _ rfl
    clear hSw
    (try dsimp only at hSw)
    go_simp
    try with_reducible rfl
   refine tkH (i := 4) (oi := o146x5) (v := ?vb4) rfl ?hb4 zq ?rb4
   case hb4 => intro _ _; go_simp; try with_reducible rfl
   refine tkH (i := 5) (oi := o146x6) (v := ?vb5) rfl ?hb5 zq ?rb5
   case hb5 => intro _ _; go_simp; try with_reducible rfl
   refine tkH (i := 6) (oi := o146x7) (v := ?vb6) rfl ?hb6 zq ?rb6
   case hb6 => intro _ _; go_simp; try with_reducible rfl
   refine tkH (i := 7) (oi := o146x8) (v := ?vb7) rfl ?hb7 zq ?rb7
   case hb7 =>
    intro wS hSw
    have y4 : wS.cell? ⟨b, o + 4, none⟩ = some (.slice a4 x.writes.length d4) := by rw [hSw]; exact hX2.at 4 _ rfl
    clear hSw
    (try dsimp only at hSw)
    go_simp
    try with_reducible rfl
   refine tkH (i := 8) (oi := o146x9) (v := ?vb8) rfl ?hb8 zq ?rb8
   case hb8 => intro _ _; go_simp; try with_reducible rfl
   refine rdH (i := 9) (oi := o146x10) rfl (fun K hK => ?_)
   go_simp
   go_at_call 64
   refine (inC x.sure 0 (x.writes.length : Int) _).mono ?_
   rintro e w3 ⟨rfl, rfl⟩
   rw [q4]
   try go_wp2_with fail
   refine hK.out _ _ rfl (fun zq => ?_)
   clear hK K
   try simp only [Act.put, pz, py, px]
   refine tkH (i := 10) (oi := o146x11) (v := ?vb10) rfl ?hb10 zq ?rb10
   case hb10 => intro _ _; go_simp; try with_reducible rfl
   refine tkH (i := 11) (oi := o146x12) (v := ?vb11) rfl ?hb11 zq ?rb11
   case hb11 => intro _ _; go_simp; try with_reducible rfl
   refine tkH (i := 12) (oi := o146x13) (v := ?vb12) rfl ?hb12 zq ?rb12
   case hb12 => intro _ _; go_simp; try with_reducible rfl
   refine tkH (i := 13) (oi := o146x14) (v := ?vb13) rfl ?hb13 zq ?rb13
   case hb13 => intro _ _; go_simp; try with_reducible rfl
   refine tkH (i := 14) (oi := o146x15) (v := ?vb14) rfl ?hb14 zq ?rb14
   case hb14 => intro _ _; go_simp; try with_reducible rfl
   refine tkH (i := 15) (oi := o146x16) (v := ?vb15) rfl ?hb15 zq ?rb15
   case hb15 =>
    intro wS hSw
    have y6 : wS.cell? ⟨b, o + 6, none⟩ = some (.int .i64 x.clean) := by rw [hSw]; exact hX2.at 6 _ rfl
    clear hSw
    (try dsimp only at hSw)
    go_simp
    try with_reducible rfl
   refine tkH (i := 16) (oi := o146x17) (v := ?vb16) rfl ?hb16 zq ?rb16
   case hb16 => intro _ _; go_simp; try with_reducible rfl
   refine tkH (i := 17) (oi := o146x18) (v := ?vb17) rfl ?hb17 zq ?rb17
   case hb17 => intro _ _; go_simp; try with_reducible rfl
   refine tkH (i := 18) (oi := o146x19) (v := ?vb18) rfl ?hb18 zq ?rb18
   case hb18 => intro _ _; go_simp; try with_reducible rfl
   refine tkH (i := 19) (oi := o146x20) (v := ?vb19) rfl ?hb19 zq ?rb19
   case hb19 =>
    intro wS hSw
    have y5 : wS.cell? ⟨b, o + 5, none⟩ = some (.int .i64 x.sure) := by rw [hSw]; exact hX2.at 5 _ rfl
    clear hSw
    (try dsimp only at hSw)
    go_simp
    try with_reducible rfl
   refine rdH (i := 20) (oi := o146x21) rfl (fun K hK => ?_)
   go_simp
   go_at_call 64
   refine (inC x.clean 0 x.sure _).mono ?_
   rintro e w3 ⟨rfl, rfl⟩
   rw [q5]
   try go_wp2_with fail
   refine hK.out _ _ rfl (fun zq => ?_)
   clear hK K
   try simp only [Act.put, pz, py, px]
   refine tkH (i := 21) (oi := o146x22) (v := ?vb21) rfl ?hb21 zq ?rb21
   case hb21 => intro _ _; go_simp; try with_reducible rfl
   refine tkH (i := 22) (oi := o146x23) (v := ?vb22) rfl ?hb22 zq ?rb22
   case hb22 => intro _ _; go_simp; try with_reducible rfl
   refine wpAnyH_done (by kernel_rfl) ?_ _
   refine NoPanic.normal ?_
   clear zq
   go_wp2_with fail
   go_ret
   exact ⟨by rw [uh HF2]; rfl, (uh HB).drew⟩
  have HF2 := yh ((uh HF1).trans (if_pos ⟨q4, q5⟩))
  clear HF1
  refine wp_region_noPanic ?_
  refine wp_region_held_drew (S := fun w' => w' = w2.drew) (by kernel_rfl) rfl (fun zq => ?_)
  refine tkH (i := 0) (oi := o146x1) (v := ?vc0) rfl ?hc0 zq ?rc0
  case hc0 => intro _ _; go_simp; try with_reducible rfl
  refine tkH (i := 1) (oi := o146x2) (v := ?vc1) rfl ?hc1 zq ?rc1
  case hc1 => intro _ _; go_simp; try with_reducible rfl
  refine tkH (i := 2) (oi := o146x3) (v := ?vc2) rfl ?hc2 zq ?rc2
  case hc2 => intro _ _; go_simp; try with_reducible rfl
  refine tkH (i := 3) (oi := o146x4) (v := ?vc3) rfl ?hc3 zq ?rc3
  case hc3 =>
   intro wS hSw
   have y5 : wS.cell? ⟨b, o + 5, none⟩ = some (.int .i64 x.sure) := by rw [hSw]; exact hX2.at 5 _ rfl
   clear hSw
   (try dsimp only at hSw)
   go_simp
   try with_reducible rfl
  refine tkH (i := 4) (oi := o146x5) (v := ?vc4) rfl ?hc4 zq ?rc4
  case hc4 => intro _ _; go_simp; try with_reducible rfl
  refine tkH (i := 5) (oi := o146x6) (v := ?vc5) rfl ?hc5 zq ?rc5
  case hc5 => intro _ _; go_simp; try with_reducible rfl
  refine tkH (i := 6) (oi := o146x7) (v := ?vc6) rfl ?hc6 zq ?rc6
  case hc6 => intro _ _; go_simp; try with_reducible rfl
  refine tkH (i := 7) (oi := o146x8) (v := ?vc7) rfl ?hc7 zq ?rc7
  case hc7 =>
   intro wS hSw
   have y4 : wS.cell? ⟨b, o + 4, none⟩ = some (.slice a4 x.writes.length d4) := by rw [hSw]; exact hX2.at 4 _ rfl
   clear hSw
   (try dsimp only at hSw)
   go_simp
   try with_reducible rfl
  refine tkH (i := 8) (oi := o146x9) (v := ?vc8) rfl ?hc8 zq ?rc8
  case hc8 => intro _ _; go_simp; try with_reducible rfl
  refine rdH (i := 9) (oi := o146x10) rfl (fun K hK => ?_)
  go_simp
  go_at_call 64
  refine (inC x.sure 0 (x.writes.length : Int) _).mono ?_
  rintro e w3 ⟨rfl, rfl⟩
  rw [q4]
  try go_wp2_with fail
  refine hK.out _ _ rfl (fun zq => ?_)
  clear hK K
  try simp only [Act.put, pz, py, px]
  refine tkH (i := 10) (oi := o146x11) (v := ?vc10) rfl ?hc10 zq ?rc10
  case hc10 => intro _ _; go_simp; try with_reducible rfl
  refine tkH (i := 11) (oi := o146x12) (v := ?vc11) rfl ?hc11 zq ?rc11
  case hc11 => intro _ _; go_simp; try with_reducible rfl
  refine tkH (i := 12) (oi := o146x13) (v := ?vc12) rfl ?hc12 zq ?rc12
  case hc12 => intro _ _; go_simp; try with_reducible rfl
  refine tkH (i := 13) (oi := o146x14) (v := ?vc13) rfl ?hc13 zq ?rc13
  case hc13 => intro _ _; go_simp; try with_reducible rfl
  refine tkH (i := 14) (oi := o146x15) (v := ?vc14) rfl ?hc14 zq ?rc14
  case hc14 => intro _ _; go_simp; try with_reducible rfl
  refine tkH (i := 15) (oi := o146x16) (v := ?vc15) rfl ?hc15 zq ?rc15
  case hc15 =>
   intro wS hSw
   have y6 : wS.cell? ⟨b, o + 6, none⟩ = some (.int .i64 x.clean) := by rw [hSw]; exact hX2.at 6 _ rfl
   clear hSw
   (try dsimp only at hSw)
   go_simp
   try with_reducible rfl
  refine tkH (i := 16) (oi := o146x17) (v := ?vc16) rfl ?hc16 zq ?rc16
  case hc16 => intro _ _; go_simp; try with_reducible rfl
  refine tkH (i := 17) (oi := o146x18) (v := ?vc17) rfl ?hc17 zq ?rc17
  case hc17 => intro _ _; go_simp; try with_reducible rfl
  refine tkH (i := 18) (oi := o146x19) (v := ?vc18) rfl ?hc18 zq ?rc18
  case hc18 => intro _ _; go_simp; try with_reducible rfl
  refine tkH (i := 19) (oi := o146x20) (v := ?vc19) rfl ?hc19 zq ?rc19
  case hc19 =>
   intro wS hSw
   have y5 : wS.cell? ⟨b, o + 5, none⟩ = some (.int .i64 x.sure) := by rw [hSw]; exact hX2.at 5 _ rfl
   clear hSw
   (try dsimp only at hSw)
   go_simp
   try with_reducible rfl
  refine rdH (i := 20) (oi := o146x21) rfl (fun K hK => ?_)
  go_simp
  go_at_call 64
  refine (inC x.clean 0 x.sure _).mono ?_
  rintro e w3 ⟨rfl, rfl⟩
  rw [q5]
  try go_wp2_with fail
  refine hK.out _ _ rfl (fun zq => ?_)
  clear hK K
  try simp only [Act.put, pz, py, px]
  refine tkH (i := 21) (oi := o146x22) (v := ?vc21) rfl ?hc21 zq ?rc21
  case hc21 => intro _ _; go_simp; try with_reducible rfl
  refine tkH (i := 22) (oi := o146x23) (v := ?vc22) rfl ?hc22 zq ?rc22
  case hc22 => intro _ _; go_simp; try with_reducible rfl
  refine wpAnyH_done (by kernel_rfl) ?_ _
  refine NoPanic.normal ?_
  clear zq q4 q5
  go_wp2_with fail
  cases hu : x.up
  ·
   rw [hu] at HF2
   cases e1 : (x.sure != (x.writes.length : Int))
   ·
    cases e2 : (x.clean != 0)
    ·
     cases e3 : (x.lease != 0)
     ·
      have HF3 : Hid (nodeFault x = 0) := (uh HF2).trans (if_neg (by simp at e1 e2 e3; simp [downB, ← e1, e2, e3]))
      clear HF2
      refine wp_region_noPanic ?_
      refine wp_region_held_drew (S := fun w' => w' = w2.drew.drew) (by kernel_rfl) rfl (fun zq => ?_)
      refine tkH (i := 0) (oi := o146x24) (v := ?vd0) rfl ?hd0 zq ?rd0
      case hd0 => intro _ _; go_simp; try with_reducible rfl
      refine tkH (i := 1) (oi := o146x25) (v := ?vd1) rfl ?hd1 zq ?rd1
      case hd1 => intro _ _; go_simp; try with_reducible rfl
      refine tkH (i := 2) (oi := o146x26) (v := ?vd2) rfl ?hd2 zq ?rd2
      case hd2 => intro _ _; go_simp; try with_reducible rfl
      refine tkH (i := 3) (oi := o146x27) (v := ?vd3) rfl ?hd3 zq ?rd3
      case hd3 =>
       intro wS hSw
       have y1 : wS.cell? ⟨b, o + 1, none⟩ = some (.bool x.up) := by rw [hSw]; exact hX2.at 1 _ rfl
       clear hSw
       (try dsimp only at hSw)
       go_simp
       try with_reducible rfl
      refine tkH (i := 4) (oi := o146x28) (v := ?vd4) rfl ?hd4 zq ?rd4
      case hd4 => intro _ _; go_simp; try with_reducible rfl
      refine tkH (i := 5) (oi := o146x29) (v := ?vd5) rfl ?hd5 zq ?rd5
      case hd5 => intro _ _; go_simp; try with_reducible rfl
      refine tkH (i := 6) (oi := o146x30) (v := ?vd6) rfl ?hd6 zq ?rd6
      case hd6 => intro _ _; go_simp; try with_reducible rfl
      refine tkH (i := 7) (oi := o146x31) (v := ?vd7) rfl ?hd7 zq ?rd7
      case hd7 => intro _ _; go_simp; try with_reducible rfl
      refine tkH (i := 8) (oi := o146x32) (v := ?vd8) rfl ?hd8 zq ?rd8
      case hd8 => intro _ _; go_simp; try with_reducible rfl
      refine tkH (i := 9) (oi := o146x33) (v := ?vd9) rfl ?hd9 zq ?rd9
      case hd9 =>
       intro wS hSw
       have y5 : wS.cell? ⟨b, o + 5, none⟩ = some (.int .i64 x.sure) := by rw [hSw]; exact hX2.at 5 _ rfl
       clear hSw
       (try dsimp only at hSw)
       go_simp
       try with_reducible rfl
      refine tkH (i := 10) (oi := o146x34) (v := ?vd10) rfl ?hd10 zq ?rd10
      case hd10 => intro _ _; go_simp; try with_reducible rfl
      refine tkH (i := 11) (oi := o146x35) (v := ?vd11) rfl ?hd11 zq ?rd11
      case hd11 => intro _ _; go_simp; try with_reducible rfl
      refine tkH (i := 12) (oi := o146x36) (v := ?vd12) rfl ?hd12 zq ?rd12
      case hd12 => intro _ _; go_simp; try with_reducible rfl
      refine tkH (i := 13) (oi := o146x37) (v := ?vd13) rfl ?hd13 zq ?rd13
      case hd13 =>
       intro wS hSw
       have y4 : wS.cell? ⟨b, o + 4, none⟩ = some (.slice a4 x.writes.length d4) := by rw [hSw]; exact hX2.at 4 _ rfl
       clear hSw
       (try dsimp only at hSw)
       go_simp
       try with_reducible rfl
      refine tkH (i := 14) (oi := o146x38) (v := ?vd14) rfl ?hd14 zq ?rd14
      case hd14 => intro _ _; go_simp; try with_reducible rfl
      refine tkH (i := 15) (oi := o146x39) (v := ?vd15) rfl ?hd15 zq ?rd15
      case hd15 => intro _ _; go_simp; try with_reducible rfl
      refine tkH (i := 16) (oi := o146x40) (v := ?vd16) rfl ?hd16 zq ?rd16
      case hd16 => intro _ _; go_simp; try with_reducible rfl
      refine tkH (i := 17) (oi := o146x41) (v := ?vd17) rfl ?hd17 zq ?rd17
      case hd17 => intro _ _; go_simp; try with_reducible rfl
      refine tkH (i := 18) (oi := o146x42) (v := ?vd18) rfl ?hd18 zq ?rd18
      case hd18 => intro _ _; go_simp; try with_reducible rfl
      refine tkH (i := 19) (oi := o146x43) (v := ?vd19) rfl ?hd19 zq ?rd19
      case hd19 => intro _ _; go_simp; try with_reducible rfl
      refine tkH (i := 20) (oi := o146x44) (v := ?vd20) rfl ?hd20 zq ?rd20
      case hd20 =>
       intro wS hSw
       have y6 : wS.cell? ⟨b, o + 6, none⟩ = some (.int .i64 x.clean) := by rw [hSw]; exact hX2.at 6 _ rfl
       clear hSw
       (try dsimp only at hSw)
       go_simp
       try with_reducible rfl
      refine tkH (i := 21) (oi := o146x45) (v := ?vd21) rfl ?hd21 zq ?rd21
      case hd21 => intro _ _; go_simp; try with_reducible rfl
      refine tkH (i := 22) (oi := o146x46) (v := ?vd22) rfl ?hd22 zq ?rd22
      case hd22 => intro _ _; go_simp; try with_reducible rfl
      refine tkH (i := 23) (oi := o146x47) (v := ?vd23) rfl ?hd23 zq ?rd23
      case hd23 => intro _ _; go_simp; try with_reducible rfl
      refine tkH (i := 24) (oi := o146x48) (v := ?vd24) rfl ?hd24 zq ?rd24
      case hd24 => intro _ _; go_simp; try with_reducible rfl
      refine tkH (i := 25) (oi := o146x49) (v := ?vd25) rfl ?hd25 zq ?rd25
      case hd25 => intro _ _; go_simp; try with_reducible rfl
      refine tkH (i := 26) (oi := o146x50) (v := ?vd26) rfl ?hd26 zq ?rd26
      case hd26 => intro _ _; go_simp; try with_reducible rfl
      refine tkH (i := 27) (oi := o146x51) (v := ?vd27) rfl ?hd27 zq ?rd27
      case hd27 =>
       intro wS hSw
       have y3 : wS.cell? ⟨b, o + 3, none⟩ = some (.int .i64 x.lease) := by rw [hSw]; exact hX2.at 3 _ rfl
       clear hSw
       (try dsimp only at hSw)
       go_simp
       try with_reducible rfl
      refine tkH (i := 28) (oi := o146x52) (v := ?vd28) rfl ?hd28 zq ?rd28
      case hd28 => intro _ _; go_simp; try with_reducible rfl
      refine tkH (i := 29) (oi := o146x53) (v := ?vd29) rfl ?hd29 zq ?rd29
      case hd29 => intro _ _; go_simp; try with_reducible rfl
      refine tkH (i := 30) (oi := o146x54) (v := ?vd30) rfl ?hd30 zq ?rd30
      case hd30 => intro _ _; go_simp; try with_reducible rfl
      refine wpAnyH_done (by kernel_rfl) ?_ _
      refine NoPanic.normal ?_
      clear zq
      go_wp2_with fail
      go_ret
      exact ⟨by rw [uh HF3]; rfl, (uh HB).drew.drew⟩
     have HF3 : Hid (nodeFault x = 1) := (uh HF2).trans (if_pos ⟨rfl, by simp at e3; simp [downB, e3]⟩)
     clear HF2
     refine wp_region_noPanic ?_
     refine wp_region_held_drew (S := fun w' => w' = w2.drew.drew) (by kernel_rfl) rfl (fun zq => ?_)
     refine tkH (i := 0) (oi := o146x24) (v := ?ve0) rfl ?he0 zq ?re0
     case he0 => intro _ _; go_simp; try with_reducible rfl
     refine tkH (i := 1) (oi := o146x25) (v := ?ve1) rfl ?he1 zq ?re1
     case he1 => intro _ _; go_simp; try with_reducible rfl
     refine tkH (i := 2) (oi := o146x26) (v := ?ve2) rfl ?he2 zq ?re2
     case he2 => intro _ _; go_simp; try with_reducible rfl
     refine tkH (i := 3) (oi := o146x27) (v := ?ve3) rfl ?he3 zq ?re3
     case he3 =>
      intro wS hSw
      have y1 : wS.cell? ⟨b, o + 1, none⟩ = some (.bool x.up) := by rw [hSw]; exact hX2.at 1 _ rfl
      clear hSw
      (try dsimp only at hSw)
      go_simp
      try with_reducible rfl
     refine tkH (i := 4) (oi := o146x28) (v := ?ve4) rfl ?he4 zq ?re4
     case he4 => intro _ _; go_simp; try with_reducible rfl
     refine tkH (i := 5) (oi := o146x29) (v := ?ve5) rfl ?he5 zq ?re5
     case he5 => intro _ _; go_simp; try with_reducible rfl
     refine tkH (i := 6) (oi := o146x30) (v := ?ve6) rfl ?he6 zq ?re6
     case he6 => intro _ _; go_simp; try with_reducible rfl
     refine tkH (i := 7) (oi := o146x31) (v := ?ve7) rfl ?he7 zq ?re7
     case he7 => intro _ _; go_simp; try with_reducible rfl
     refine tkH (i := 8) (oi := o146x32) (v := ?ve8) rfl ?he8 zq ?re8
     case he8 => intro _ _; go_simp; try with_reducible rfl
     refine tkH (i := 9) (oi := o146x33) (v := ?ve9) rfl ?he9 zq ?re9
     case he9 =>
      intro wS hSw
      have y5 : wS.cell? ⟨b, o + 5, none⟩ = some (.int .i64 x.sure) := by rw [hSw]; exact hX2.at 5 _ rfl
      clear hSw
      (try dsimp only at hSw)
      go_simp
      try with_reducible rfl
     refine tkH (i := 10) (oi := o146x34) (v := ?ve10) rfl ?he10 zq ?re10
     case he10 => intro _ _; go_simp; try with_reducible rfl
     refine tkH (i := 11) (oi := o146x35) (v := ?ve11) rfl ?he11 zq ?re11
     case he11 => intro _ _; go_simp; try with_reducible rfl
     refine tkH (i := 12) (oi := o146x36) (v := ?ve12) rfl ?he12 zq ?re12
     case he12 => intro _ _; go_simp; try with_reducible rfl
     refine tkH (i := 13) (oi := o146x37) (v := ?ve13) rfl ?he13 zq ?re13
     case he13 =>
      intro wS hSw
      have y4 : wS.cell? ⟨b, o + 4, none⟩ = some (.slice a4 x.writes.length d4) := by rw [hSw]; exact hX2.at 4 _ rfl
      clear hSw
      (try dsimp only at hSw)
      go_simp
      try with_reducible rfl
     refine tkH (i := 14) (oi := o146x38) (v := ?ve14) rfl ?he14 zq ?re14
     case he14 => intro _ _; go_simp; try with_reducible rfl
     refine tkH (i := 15) (oi := o146x39) (v := ?ve15) rfl ?he15 zq ?re15
     case he15 => intro _ _; go_simp; try with_reducible rfl
     refine tkH (i := 16) (oi := o146x40) (v := ?ve16) rfl ?he16 zq ?re16
     case he16 => intro _ _; go_simp; try with_reducible rfl
     refine tkH (i := 17) (oi := o146x41) (v := ?ve17) rfl ?he17 zq ?re17
     case he17 => intro _ _; go_simp; try with_reducible rfl
     refine tkH (i := 18) (oi := o146x42) (v := ?ve18) rfl ?he18 zq ?re18
     case he18 => intro _ _; go_simp; try with_reducible rfl
     refine tkH (i := 19) (oi := o146x43) (v := ?ve19) rfl ?he19 zq ?re19
     case he19 => intro _ _; go_simp; try with_reducible rfl
     refine tkH (i := 20) (oi := o146x44) (v := ?ve20) rfl ?he20 zq ?re20
     case he20 =>
      intro wS hSw
      have y6 : wS.cell? ⟨b, o + 6, none⟩ = some (.int .i64 x.clean) := by rw [hSw]; exact hX2.at 6 _ rfl
      clear hSw
      (try dsimp only at hSw)
      go_simp
      try with_reducible rfl
     refine tkH (i := 21) (oi := o146x45) (v := ?ve21) rfl ?he21 zq ?re21
     case he21 => intro _ _; go_simp; try with_reducible rfl
     refine tkH (i := 22) (oi := o146x46) (v := ?ve22) rfl ?he22 zq ?re22
     case he22 => intro _ _; go_simp; try with_reducible rfl
     refine tkH (i := 23) (oi := o146x47) (v := ?ve23) rfl ?he23 zq ?re23
     case he23 => intro _ _; go_simp; try with_reducible rfl
     refine tkH (i := 24) (oi := o146x48) (v := ?ve24) rfl ?he24 zq ?re24
     case he24 => intro _ _; go_simp; try with_reducible rfl
     refine tkH (i := 25) (oi := o146x49) (v := ?ve25) rfl ?he25 zq ?re25
     case he25 => intro _ _; go_simp; try with_reducible rfl
     refine tkH (i := 26) (oi := o146x50) (v := ?ve26) rfl ?he26 zq ?re26
     case he26 => intro _ _; go_simp; try with_reducible rfl
     refine tkH (i := 27) (oi := o146x51) (v := ?ve27) rfl ?he27 zq ?re27
     case he27 =>
      intro wS hSw
      have y3 : wS.cell? ⟨b, o + 3, none⟩ = some (.int .i64 x.lease) := by rw [hSw]; exact hX2.at 3 _ rfl
      clear hSw
      (try dsimp only at hSw)
      go_simp
      try with_reducible rfl
     refine tkH (i := 28) (oi := o146x52) (v := ?ve28) rfl ?he28 zq ?re28
     case he28 => intro _ _; go_simp; try with_reducible rfl
     refine tkH (i := 29) (oi := o146x53) (v := ?ve29) rfl ?he29 zq ?re29
     case he29 => intro _ _; go_simp; try with_reducible rfl
     refine tkH (i := 30) (oi := o146x54) (v := ?ve30) rfl ?he30 zq ?re30
     case he30 => intro _ _; go_simp; try with_reducible rfl
     refine wpAnyH_done (by kernel_rfl) ?_ _
     refine NoPanic.normal ?_
     clear zq
     go_wp2_with fail
     go_ret
     exact ⟨by rw [uh HF3]; rfl, (uh HB).drew.drew⟩
    have HF3 : Hid (nodeFault x = 1) := (uh HF2).trans (if_pos ⟨rfl, by simp at e2; simp [downB, e2]⟩)
    clear HF2
    refine wp_region_noPanic ?_
    refine wp_region_held_drew (S := fun w' => w' = w2.drew.drew) (by kernel_rfl) rfl (fun zq => ?_)
    refine tkH (i := 0) (oi := o146x24) (v := ?vf0) rfl ?hf0 zq ?rf0
    case hf0 => intro _ _; go_simp; try with_reducible rfl
    refine tkH (i := 1) (oi := o146x25) (v := ?vf1) rfl ?hf1 zq ?rf1
    case hf1 => intro _ _; go_simp; try with_reducible rfl
    refine tkH (i := 2) (oi := o146x26) (v := ?vf2) rfl ?hf2 zq ?rf2
    case hf2 => intro _ _; go_simp; try with_reducible rfl
    refine tkH (i := 3) (oi := o146x27) (v := ?vf3) rfl ?hf3 zq ?rf3
    case hf3 =>
     intro wS hSw
     have y1 : wS.cell? ⟨b, o + 1, none⟩ = some (.bool x.up) := by rw [hSw]; exact hX2.at 1 _ rfl
     clear hSw
     (try dsimp only at hSw)
     go_simp
     try with_reducible rfl
    refine tkH (i := 4) (oi := o146x28) (v := ?vf4) rfl ?hf4 zq ?rf4
    case hf4 => intro _ _; go_simp; try with_reducible rfl
    refine tkH (i := 5) (oi := o146x29) (v := ?vf5) rfl ?hf5 zq ?rf5
    case hf5 => intro _ _; go_simp; try with_reducible rfl
    refine tkH (i := 6) (oi := o146x30) (v := ?vf6) rfl ?hf6 zq ?rf6
    case hf6 => intro _ _; go_simp; try with_reducible rfl
    refine tkH (i := 7) (oi := o146x31) (v := ?vf7) rfl ?hf7 zq ?rf7
    case hf7 => intro _ _; go_simp; try with_reducible rfl
    refine tkH (i := 8) (oi := o146x32) (v := ?vf8) rfl ?hf8 zq ?rf8
    case hf8 => intro _ _; go_simp; try with_reducible rfl
    refine tkH (i := 9) (oi := o146x33) (v := ?vf9) rfl ?hf9 zq ?rf9
    case hf9 =>
     intro wS hSw
     have y5 : wS.cell? ⟨b, o + 5, none⟩ = some (.int .i64 x.sure) := by rw [hSw]; exact hX2.at 5 _ rfl
     clear hSw
     (try dsimp only at hSw)
     go_simp
     try with_reducible rfl
    refine tkH (i := 10) (oi := o146x34) (v := ?vf10) rfl ?hf10 zq ?rf10
    case hf10 => intro _ _; go_simp; try with_reducible rfl
    refine tkH (i := 11) (oi := o146x35) (v := ?vf11) rfl ?hf11 zq ?rf11
    case hf11 => intro _ _; go_simp; try with_reducible rfl
    refine tkH (i := 12) (oi := o146x36) (v := ?vf12) rfl ?hf12 zq ?rf12
    case hf12 => intro _ _; go_simp; try with_reducible rfl
    refine tkH (i := 13) (oi := o146x37) (v := ?vf13) rfl ?hf13 zq ?rf13
    case hf13 =>
     intro wS hSw
     have y4 : wS.cell? ⟨b, o + 4, none⟩ = some (.slice a4 x.writes.length d4) := by rw [hSw]; exact hX2.at 4 _ rfl
     clear hSw
     (try dsimp only at hSw)
     go_simp
     try with_reducible rfl
    refine tkH (i := 14) (oi := o146x38) (v := ?vf14) rfl ?hf14 zq ?rf14
    case hf14 => intro _ _; go_simp; try with_reducible rfl
    refine tkH (i := 15) (oi := o146x39) (v := ?vf15) rfl ?hf15 zq ?rf15
    case hf15 => intro _ _; go_simp; try with_reducible rfl
    refine tkH (i := 16) (oi := o146x40) (v := ?vf16) rfl ?hf16 zq ?rf16
    case hf16 => intro _ _; go_simp; try with_reducible rfl
    refine tkH (i := 17) (oi := o146x41) (v := ?vf17) rfl ?hf17 zq ?rf17
    case hf17 => intro _ _; go_simp; try with_reducible rfl
    refine tkH (i := 18) (oi := o146x42) (v := ?vf18) rfl ?hf18 zq ?rf18
    case hf18 => intro _ _; go_simp; try with_reducible rfl
    refine tkH (i := 19) (oi := o146x43) (v := ?vf19) rfl ?hf19 zq ?rf19
    case hf19 => intro _ _; go_simp; try with_reducible rfl
    refine tkH (i := 20) (oi := o146x44) (v := ?vf20) rfl ?hf20 zq ?rf20
    case hf20 =>
     intro wS hSw
     have y6 : wS.cell? ⟨b, o + 6, none⟩ = some (.int .i64 x.clean) := by rw [hSw]; exact hX2.at 6 _ rfl
     clear hSw
     (try dsimp only at hSw)
     go_simp
     try with_reducible rfl
    refine tkH (i := 21) (oi := o146x45) (v := ?vf21) rfl ?hf21 zq ?rf21
    case hf21 => intro _ _; go_simp; try with_reducible rfl
    refine tkH (i := 22) (oi := o146x46) (v := ?vf22) rfl ?hf22 zq ?rf22
    case hf22 => intro _ _; go_simp; try with_reducible rfl
    refine tkH (i := 23) (oi := o146x47) (v := ?vf23) rfl ?hf23 zq ?rf23
    case hf23 => intro _ _; go_simp; try with_reducible rfl
    refine skH (i := 24) (oi := o146x48) rfl zq ?_
    refine skH (i := 25) (oi := o146x49) rfl zq ?_
    refine skH (i := 26) (oi := o146x50) rfl zq ?_
    refine skH (i := 27) (oi := o146x51) rfl zq ?_
    refine skH (i := 28) (oi := o146x52) rfl zq ?_
    refine tkH (i := 29) (oi := o146x53) (v := ?vf29) rfl ?hf29 zq ?rf29
    case hf29 => intro _ _; go_simp; try with_reducible rfl
    refine tkH (i := 30) (oi := o146x54) (v := ?vf30) rfl ?hf30 zq ?rf30
    case hf30 => intro _ _; go_simp; try with_reducible rfl
    refine wpAnyH_done (by kernel_rfl) ?_ _
    refine NoPanic.normal ?_
    clear zq
    go_wp2_with fail
    go_ret
    exact ⟨by rw [uh HF3]; rfl, (uh HB).drew.drew⟩
   have HF3 : Hid (nodeFault x = 1) := (uh HF2).trans (if_pos ⟨rfl, by simp at e1; simp [downB, e1]⟩)
   clear HF2
   refine wp_region_noPanic ?_
   refine wp_region_held_drew (S := fun w' => w' = w2.drew.drew) (by kernel_rfl) rfl (fun zq => ?_)
   refine tkH (i := 0) (oi := o146x24) (v := ?vg0) rfl ?hg0 zq ?rg0
   case hg0 => intro _ _; go_simp; try with_reducible rfl
   refine tkH (i := 1) (oi := o146x25) (v := ?vg1) rfl ?hg1 zq ?rg1
   case hg1 => intro _ _; go_simp; try with_reducible rfl
   refine tkH (i := 2) (oi := o146x26) (v := ?vg2) rfl ?hg2 zq ?rg2
   case hg2 => intro _ _; go_simp; try with_reducible rfl
   refine tkH (i := 3) (oi := o146x27) (v := ?vg3) rfl ?hg3 zq ?rg3
   case hg3 =>
    intro wS hSw
    have y1 : wS.cell? ⟨b, o + 1, none⟩ = some (.bool x.up) := by rw [hSw]; exact hX2.at 1 _ rfl
    clear hSw
    (try dsimp only at hSw)
    go_simp
    try with_reducible rfl
   refine tkH (i := 4) (oi := o146x28) (v := ?vg4) rfl ?hg4 zq ?rg4
   case hg4 => intro _ _; go_simp; try with_reducible rfl
   refine tkH (i := 5) (oi := o146x29) (v := ?vg5) rfl ?hg5 zq ?rg5
   case hg5 => intro _ _; go_simp; try with_reducible rfl
   refine tkH (i := 6) (oi := o146x30) (v := ?vg6) rfl ?hg6 zq ?rg6
   case hg6 => intro _ _; go_simp; try with_reducible rfl
   refine tkH (i := 7) (oi := o146x31) (v := ?vg7) rfl ?hg7 zq ?rg7
   case hg7 => intro _ _; go_simp; try with_reducible rfl
   refine tkH (i := 8) (oi := o146x32) (v := ?vg8) rfl ?hg8 zq ?rg8
   case hg8 => intro _ _; go_simp; try with_reducible rfl
   refine tkH (i := 9) (oi := o146x33) (v := ?vg9) rfl ?hg9 zq ?rg9
   case hg9 =>
    intro wS hSw
    have y5 : wS.cell? ⟨b, o + 5, none⟩ = some (.int .i64 x.sure) := by rw [hSw]; exact hX2.at 5 _ rfl
    clear hSw
    (try dsimp only at hSw)
    go_simp
    try with_reducible rfl
   refine tkH (i := 10) (oi := o146x34) (v := ?vg10) rfl ?hg10 zq ?rg10
   case hg10 => intro _ _; go_simp; try with_reducible rfl
   refine tkH (i := 11) (oi := o146x35) (v := ?vg11) rfl ?hg11 zq ?rg11
   case hg11 => intro _ _; go_simp; try with_reducible rfl
   refine tkH (i := 12) (oi := o146x36) (v := ?vg12) rfl ?hg12 zq ?rg12
   case hg12 => intro _ _; go_simp; try with_reducible rfl
   refine tkH (i := 13) (oi := o146x37) (v := ?vg13) rfl ?hg13 zq ?rg13
   case hg13 =>
    intro wS hSw
    have y4 : wS.cell? ⟨b, o + 4, none⟩ = some (.slice a4 x.writes.length d4) := by rw [hSw]; exact hX2.at 4 _ rfl
    clear hSw
    (try dsimp only at hSw)
    go_simp
    try with_reducible rfl
   refine tkH (i := 14) (oi := o146x38) (v := ?vg14) rfl ?hg14 zq ?rg14
   case hg14 => intro _ _; go_simp; try with_reducible rfl
   refine tkH (i := 15) (oi := o146x39) (v := ?vg15) rfl ?hg15 zq ?rg15
   case hg15 => intro _ _; go_simp; try with_reducible rfl
   refine tkH (i := 16) (oi := o146x40) (v := ?vg16) rfl ?hg16 zq ?rg16
   case hg16 => intro _ _; go_simp; try with_reducible rfl
   refine skH (i := 17) (oi := o146x41) rfl zq ?_
   refine skH (i := 18) (oi := o146x42) rfl zq ?_
   refine skH (i := 19) (oi := o146x43) rfl zq ?_
   refine skH (i := 20) (oi := o146x44) rfl zq ?_
   refine skH (i := 21) (oi := o146x45) rfl zq ?_
   refine tkH (i := 22) (oi := o146x46) (v := ?vg22) rfl ?hg22 zq ?rg22
   case hg22 => intro _ _; go_simp; try with_reducible rfl
   refine tkH (i := 23) (oi := o146x47) (v := ?vg23) rfl ?hg23 zq ?rg23
   case hg23 => intro _ _; go_simp; try with_reducible rfl
   refine skH (i := 24) (oi := o146x48) rfl zq ?_
   refine skH (i := 25) (oi := o146x49) rfl zq ?_
   refine skH (i := 26) (oi := o146x50) rfl zq ?_
   refine skH (i := 27) (oi := o146x51) rfl zq ?_
   refine skH (i := 28) (oi := o146x52) rfl zq ?_
   refine tkH (i := 29) (oi := o146x53) (v := ?vg29) rfl ?hg29 zq ?rg29
   case hg29 => intro _ _; go_simp; try with_reducible rfl
   refine tkH (i := 30) (oi := o146x54) (v := ?vg30) rfl ?hg30 zq ?rg30
   case hg30 => intro _ _; go_simp; try with_reducible rfl
   refine wpAnyH_done (by kernel_rfl) ?_ _
   refine NoPanic.normal ?_
   clear zq
   go_wp2_with fail
   go_ret
   exact ⟨by rw [uh HF3]; rfl, (uh HB).drew.drew⟩
  have HF3 : Hid (nodeFault x = 0) := (uh HF2).trans (if_neg (by rw [hu]; simp))
  clear HF2
  refine wp_region_noPanic ?_
  refine wp_region_held_drew (S := fun w' => w' = w2.drew.drew) (by kernel_rfl) rfl (fun zq => ?_)
  refine tkH (i := 0) (oi := o146x24) (v := ?vh0) rfl ?hh0 zq ?rh0
  case hh0 => intro _ _; go_simp; try with_reducible rfl
  refine tkH (i := 1) (oi := o146x25) (v := ?vh1) rfl ?hh1 zq ?rh1
  case hh1 => intro _ _; go_simp; try with_reducible rfl
  refine tkH (i := 2) (oi := o146x26) (v := ?vh2) rfl ?hh2 zq ?rh2
  case hh2 => intro _ _; go_simp; try with_reducible rfl
  refine tkH (i := 3) (oi := o146x27) (v := ?vh3) rfl ?hh3 zq ?rh3
  case hh3 =>
   intro wS hSw
   have y1 : wS.cell? ⟨b, o + 1, none⟩ = some (.bool x.up) := by rw [hSw]; exact hX2.at 1 _ rfl
   clear hSw
   (try dsimp only at hSw)
   go_simp
   try with_reducible rfl
  refine tkH (i := 4) (oi := o146x28) (v := ?vh4) rfl ?hh4 zq ?rh4
  case hh4 => intro _ _; go_simp; try with_reducible rfl
  refine tkH (i := 5) (oi := o146x29) (v := ?vh5) rfl ?hh5 zq ?rh5
  case hh5 => intro _ _; go_simp; try with_reducible rfl
  refine skH (i := 6) (oi := o146x30) rfl zq ?_
  refine skH (i := 7) (oi := o146x31) rfl zq ?_
  refine skH (i := 8) (oi := o146x32) rfl zq ?_
  refine skH (i := 9) (oi := o146x33) rfl zq ?_
  refine skH (i := 10) (oi := o146x34) rfl zq ?_
  refine skH (i := 11) (oi := o146x35) rfl zq ?_
  refine skH (i := 12) (oi := o146x36) rfl zq ?_
  refine skH (i := 13) (oi := o146x37) rfl zq ?_
  refine skH (i := 14) (oi := o146x38) rfl zq ?_
  refine skH (i := 15) (oi := o146x39) rfl zq ?_
  refine skH (i := 16) (oi := o146x40) rfl zq ?_
  refine skH (i := 17) (oi := o146x41) rfl zq ?_
  refine skH (i := 18) (oi := o146x42) rfl zq ?_
  refine skH (i := 19) (oi := o146x43) rfl zq ?_
  refine skH (i := 20) (oi := o146x44) rfl zq ?_
  refine skH (i := 21) (oi := o146x45) rfl zq ?_
  refine skH (i := 22) (oi := o146x46) rfl zq ?_
  refine skH (i := 23) (oi := o146x47) rfl zq ?_
  refine skH (i := 24) (oi := o146x48) rfl zq ?_
  refine skH (i := 25) (oi := o146x49) rfl zq ?_
  refine skH (i := 26) (oi := o146x50) rfl zq ?_
  refine skH (i := 27) (oi := o146x51) rfl zq ?_
  refine skH (i := 28) (oi := o146x52) rfl zq ?_
  refine skH (i := 29) (oi := o146x53) rfl zq ?_
  refine tkH (i := 30) (oi := o146x54) (v := ?vh30) rfl ?hh30 zq ?rh30
  case hh30 => intro _ _; go_simp; try with_reducible rfl
  refine wpAnyH_done (by kernel_rfl) ?_ _
  refine NoPanic.normal ?_
  clear zq
  go_wp2_with fail
  go_ret
  exact ⟨by rw [uh HF3]; rfl, (uh HB).drew.drew⟩
 have hd : (wsFrom x.writes != 0) = true := by simpa using hs
 have HT : Hid (takenF x.writes = wsFrom x.writes) := by show takenF x.writes = _; rw [takenF, if_neg hn, if_pos hs]
 have HF1 := yh ((uh HF).trans (if_pos (by rw [uh HT]; exact hs)))
 rw [uh HT] at HF1
 clear HF HT hs HW
 generalize wsFrom x.writes = c at *
 go_wp2_with fail
 go_ret
 exact ⟨by rw [uh HF1]; rfl, Below.refl _ _⟩
end Go.Proofs.YtoanimpijfijgaaGreat
