/-
  Texts of this proof in one: SpecNodeF, SpecNodeO, SpecNode9, SpecChainF, SpecChainO, SpecWN.
  Their conditions stand in their theorems.
-/
import Derived.Test.YtoanimpijfijgaaGreatSt06
import Derived.Test.YtoanimpijfijgaaGreatSt09
import Derived.Test.YtoanimpijfijgaaGreatSt05
import Derived.Deep.RegionHeld3
import Derived.Test.YtoanimpijfijgaaGreatSt00
import Derived.Test.YtoanimpijfijgaaGreatChecked
set_option maxRecDepth 100000
set_option maxHeartbeats 4000000
namespace Go.Proofs.YtoanimpijfijgaaGreat
open Go.RowKit
abbrev o158x1 : Oper := ⟨some 46, .move (.tmp 0), 113, "l09_node.go:22", #[], none⟩
abbrev o158x2 : Oper := ⟨some 47, .nilCheck (.tmp 46), 0, "l09_node.go:22", #[⟨0, .data⟩], none⟩
abbrev o158x3 : Oper := ⟨some 48, .fieldAddr 84 (.tmp 47) 5, 0, "l09_node.go:22", #[⟨1, .data⟩], none⟩
abbrev o158x4 : Oper := ⟨some 49, .load 2 (.tmp 48), 2, "l09_node.go:22", #[⟨2, .data⟩], none⟩
abbrev o158x5 : Oper := ⟨some 50, .move (.tmp 0), 113, "l09_node.go:22", #[], none⟩
abbrev o158x6 : Oper := ⟨some 51, .nilCheck (.tmp 50), 0, "l09_node.go:22", #[⟨4, .data⟩], none⟩
abbrev o158x7 : Oper := ⟨some 52, .fieldAddr 84 (.tmp 51) 4, 0, "l09_node.go:22", #[⟨5, .data⟩], none⟩
abbrev o158x8 : Oper := ⟨some 53, .load 82 (.tmp 52), 82, "l09_node.go:22", #[⟨6, .data⟩], none⟩
abbrev o158x9 : Oper := ⟨some 54, .call { callee := .builtin .len, args := #[.tmp 53], argTypes := #[82] }, 3, "l09_node.go:22", #[⟨7, .data⟩], none⟩
abbrev o158x10 : Oper := ⟨some 55, .call { callee := .value (.func 64), args := #[.tmp 49, .const (.int .i64 0), .tmp 54], argTypes := #[2, 2, 2] }, 4, "l09_node.go:22", #[⟨3, .data⟩, ⟨8, .data⟩], none⟩
abbrev o158x11 : Oper := ⟨some 56, .unOp .not 4 (.tmp 55), 4, "l09_node.go:22", #[⟨9, .data⟩], none⟩
abbrev o158x12 : Oper := ⟨some 57, .move (.tmp 56), 4, "l09_node.go:22", #[⟨10, .data⟩, ⟨9, .chain⟩], none⟩
abbrev o158x13 : Oper := ⟨some 58, .move (.tmp 0), 113, "l09_node.go:22", #[⟨11, .guard⟩], some (11, false)⟩
abbrev o158x14 : Oper := ⟨some 59, .nilCheck (.tmp 58), 0, "l09_node.go:22", #[⟨12, .data⟩, ⟨11, .guard⟩], some (11, false)⟩
abbrev o158x15 : Oper := ⟨some 60, .fieldAddr 84 (.tmp 59) 6, 0, "l09_node.go:22", #[⟨13, .data⟩, ⟨11, .guard⟩], some (11, false)⟩
abbrev o158x16 : Oper := ⟨some 61, .load 2 (.tmp 60), 2, "l09_node.go:22", #[⟨14, .data⟩, ⟨11, .guard⟩], some (11, false)⟩
abbrev o158x17 : Oper := ⟨some 62, .move (.tmp 0), 113, "l09_node.go:22", #[⟨11, .guard⟩], some (11, false)⟩
abbrev o158x18 : Oper := ⟨some 63, .nilCheck (.tmp 62), 0, "l09_node.go:22", #[⟨16, .data⟩, ⟨11, .guard⟩], some (11, false)⟩
abbrev o158x19 : Oper := ⟨some 64, .fieldAddr 84 (.tmp 63) 5, 0, "l09_node.go:22", #[⟨17, .data⟩, ⟨11, .guard⟩], some (11, false)⟩
abbrev o158x20 : Oper := ⟨some 65, .load 2 (.tmp 64), 2, "l09_node.go:22", #[⟨18, .data⟩, ⟨11, .guard⟩], some (11, false)⟩
abbrev o158x21 : Oper := ⟨some 66, .call { callee := .value (.func 64), args := #[.tmp 61, .const (.int .i64 0), .tmp 65], argTypes := #[2, 2, 2] }, 4, "l09_node.go:22", #[⟨15, .data⟩, ⟨19, .data⟩, ⟨11, .chain⟩, ⟨11, .guard⟩], some (11, false)⟩
abbrev o158x22 : Oper := ⟨some 67, .unOp .not 4 (.tmp 66), 4, "l09_node.go:22", #[⟨20, .data⟩, ⟨11, .guard⟩], some (11, false)⟩
abbrev o158x23 : Oper := ⟨some 68, .pick (.tmp 57) (.const (.bool true)) (.tmp 67), 4, "l09_node.go:22", #[⟨11, .data⟩, ⟨21, .data⟩], none⟩
abbrev o158x24 : Oper := ⟨some 69, .move (.tmp 0), 113, "l09_node.go:25", #[], none⟩
abbrev o158x25 : Oper := ⟨some 70, .nilCheck (.tmp 69), 0, "l09_node.go:25", #[⟨0, .data⟩], none⟩
abbrev o158x26 : Oper := ⟨some 71, .fieldAddr 84 (.tmp 70) 1, 0, "l09_node.go:25", #[⟨1, .data⟩], none⟩
abbrev o158x27 : Oper := ⟨some 72, .load 4 (.tmp 71), 4, "l09_node.go:25", #[⟨2, .data⟩], none⟩
abbrev o158x28 : Oper := ⟨some 73, .unOp .not 4 (.tmp 72), 4, "l09_node.go:25", #[⟨3, .data⟩], none⟩
abbrev o158x29 : Oper := ⟨some 74, .move (.tmp 73), 4, "l09_node.go:25", #[⟨4, .data⟩], none⟩
abbrev o158x30 : Oper := ⟨some 75, .move (.tmp 0), 113, "l09_node.go:25", #[⟨5, .guard⟩], some (5, true)⟩
abbrev o158x31 : Oper := ⟨some 76, .nilCheck (.tmp 75), 0, "l09_node.go:25", #[⟨6, .data⟩, ⟨5, .guard⟩], some (5, true)⟩
abbrev o158x32 : Oper := ⟨some 77, .fieldAddr 84 (.tmp 76) 5, 0, "l09_node.go:25", #[⟨7, .data⟩, ⟨5, .guard⟩], some (5, true)⟩
abbrev o158x33 : Oper := ⟨some 78, .load 2 (.tmp 77), 2, "l09_node.go:25", #[⟨8, .data⟩, ⟨5, .guard⟩], some (5, true)⟩
abbrev o158x34 : Oper := ⟨some 79, .move (.tmp 0), 113, "l09_node.go:25", #[⟨5, .guard⟩], some (5, true)⟩
abbrev o158x35 : Oper := ⟨some 80, .nilCheck (.tmp 79), 0, "l09_node.go:25", #[⟨10, .data⟩, ⟨5, .guard⟩], some (5, true)⟩
abbrev o158x36 : Oper := ⟨some 81, .fieldAddr 84 (.tmp 80) 4, 0, "l09_node.go:25", #[⟨11, .data⟩, ⟨5, .guard⟩], some (5, true)⟩
abbrev o158x37 : Oper := ⟨some 82, .load 82 (.tmp 81), 82, "l09_node.go:25", #[⟨12, .data⟩, ⟨5, .guard⟩], some (5, true)⟩
abbrev o158x38 : Oper := ⟨some 83, .call { callee := .builtin .len, args := #[.tmp 82], argTypes := #[82] }, 3, "l09_node.go:25", #[⟨13, .data⟩, ⟨5, .guard⟩], some (5, true)⟩
abbrev o158x39 : Oper := ⟨some 84, .binOp .neq 2 (.tmp 78) (.tmp 83) 2, 4, "l09_node.go:25", #[⟨9, .data⟩, ⟨14, .data⟩, ⟨5, .guard⟩], some (5, true)⟩
abbrev o158x40 : Oper := ⟨some 85, .move (.tmp 84), 4, "l09_node.go:25", #[⟨15, .data⟩, ⟨5, .chain⟩, ⟨5, .guard⟩], some (5, true)⟩
abbrev o158x41 : Oper := ⟨some 86, .move (.tmp 0), 113, "l09_node.go:25", #[⟨16, .guard⟩], some (16, false)⟩
abbrev o158x42 : Oper := ⟨some 87, .nilCheck (.tmp 86), 0, "l09_node.go:25", #[⟨17, .data⟩, ⟨16, .guard⟩], some (16, false)⟩
abbrev o158x43 : Oper := ⟨some 88, .fieldAddr 84 (.tmp 87) 6, 0, "l09_node.go:25", #[⟨18, .data⟩, ⟨16, .guard⟩], some (16, false)⟩
abbrev o158x44 : Oper := ⟨some 89, .load 2 (.tmp 88), 2, "l09_node.go:25", #[⟨19, .data⟩, ⟨16, .guard⟩], some (16, false)⟩
abbrev o158x45 : Oper := ⟨some 90, .binOp .neq 2 (.tmp 89) (.const (.int .i64 0)) 2, 4, "l09_node.go:25", #[⟨20, .data⟩, ⟨16, .guard⟩], some (16, false)⟩
abbrev o158x46 : Oper := ⟨some 91, .pick (.tmp 85) (.const (.bool true)) (.tmp 90), 4, "l09_node.go:25", #[⟨16, .data⟩, ⟨21, .data⟩, ⟨5, .guard⟩], some (5, true)⟩
abbrev o158x47 : Oper := ⟨some 92, .move (.tmp 91), 4, "l09_node.go:25", #[⟨22, .data⟩, ⟨16, .chain⟩, ⟨5, .guard⟩], some (5, true)⟩
abbrev o158x48 : Oper := ⟨some 93, .move (.tmp 0), 113, "l09_node.go:25", #[⟨23, .guard⟩], some (23, false)⟩
abbrev o158x49 : Oper := ⟨some 94, .nilCheck (.tmp 93), 0, "l09_node.go:25", #[⟨24, .data⟩, ⟨23, .guard⟩], some (23, false)⟩
abbrev o158x50 : Oper := ⟨some 95, .fieldAddr 84 (.tmp 94) 3, 0, "l09_node.go:25", #[⟨25, .data⟩, ⟨23, .guard⟩], some (23, false)⟩
abbrev o158x51 : Oper := ⟨some 96, .load 2 (.tmp 95), 2, "l09_node.go:25", #[⟨26, .data⟩, ⟨23, .guard⟩], some (23, false)⟩
abbrev o158x52 : Oper := ⟨some 97, .binOp .neq 2 (.tmp 96) (.const (.int .i64 0)) 2, 4, "l09_node.go:25", #[⟨27, .data⟩, ⟨23, .guard⟩], some (23, false)⟩
abbrev o158x53 : Oper := ⟨some 98, .pick (.tmp 92) (.const (.bool true)) (.tmp 97), 4, "l09_node.go:25", #[⟨23, .data⟩, ⟨28, .data⟩, ⟨5, .guard⟩], some (5, true)⟩
abbrev o158x54 : Oper := ⟨some 99, .pick (.tmp 74) (.tmp 98) (.const (.bool false)), 4, "l09_node.go:25", #[⟨5, .data⟩, ⟨29, .data⟩], none⟩
theorem nodeC (x : Int) (w : World) : Calls Tryz.prog 174 #[.int .i64 x] w fun e w' => e = .returned (.bool (decide (1 ≤ x) && decide (x ≤ 5))) ∧ w' = w := by
 go_enter Tryz.func174, Tryz.ntmps174
 go_wp2_with fail
 refine (inC x 1 5 _).mono ?_
 rintro e w1 ⟨rfl, rfl⟩
 go_wp2_with fail
 go_ret
 exact ⟨rfl, rfl⟩
theorem l9FaultO (b o : Nat) (a4 : Option Addr) (d4 : Nat) (x : DNode) (w : World) (hX : RowIn #[.int .i64 x.id, .bool x.up, .int .i64 x.epoch, .int .i64 x.lease, .slice a4 x.writes.length d4, .int .i64 x.sure, .int .i64 x.clean] w b o) (R4 : (Lay.sl Lay.tWrite).Reads w [.slice a4 x.writes.length d4] x.writes) :
  Calls Tryz.prog 243 #[.pointer (some ⟨b, o, none⟩)] w fun e w' => e = .returned (.int .i64 (nodeFault x)) ∧ Below w.heap.size w w' := by
 have hbig := R4.big
 have x0 := hX.at 0 _ rfl
 have x2 := hX.at 2 _ rfl
 have x3 := hX.at 3 _ rfl
 have x4 := hX.at 4 _ rfl
 simp only [List.getElem_toArray, List.getElem_cons_zero, List.getElem_cons_succ, Nat.add_zero] at x0 x2 x3 x4
 have xl := hX.lt
 have HX := yh hX
 have H4 := yh R4
 clear hX R4
 go_enter Tryz.func243, Tryz.ntmps243
 go_wp2_with fail
 refine (nodeC x.id w).mono ?_
 rintro e w1 ⟨rfl, h1⟩
 subst w1
 cases d1 : (decide (1 ≤ x.id) && decide (x.id ≤ 5))
 ·
  have HF := yh (nf_id d1)
  clear d1
  go_wp2_with fail
  go_ret
  exact ⟨by rw [uh HF]; rfl, Below.refl _ _⟩
 go_wp2_with fail
 refine (inC x.epoch 0 999 w).mono ?_
 rintro e w1 ⟨rfl, h1⟩
 subst w1
 cases d2 : (decide (0 ≤ x.epoch) && decide (x.epoch ≤ 999))
 ·
  have HF := yh (nf_epoch d2)
  clear d1 d2
  go_wp2_with fail
  go_ret
  exact ⟨by rw [uh HF]; rfl, Below.refl _ _⟩
 go_wp2_with fail
 refine (inC x.lease 0 9999 w).mono ?_
 rintro e w1 ⟨rfl, h1⟩
 subst w1
 cases d3 : (decide (0 ≤ x.lease) && decide (x.lease ≤ 9999))
 ·
  have HF := yh (nf_lease d3)
  clear d1 d2 d3
  go_wp2_with fail
  go_ret
  exact ⟨by rw [uh HF]; rfl, Below.refl _ _⟩
 have HF := yh (nf_rest d1 d2 d3)
 clear d1 d2 d3
 by_cases hn : 40 < x.writes.length
 ·
  have ht : takenF x.writes = 2 := by rw [takenF, if_pos hn]
  have HF1 := yh ((uh HF).trans (if_pos (by rw [ht]; decide)))
  rw [ht] at HF1
  have hd : decide ((40 : Int) < (x.writes.length : Int)) = true := by simp; omega
  clear HF ht
  go_wp2_with fail
  go_ret
  exact ⟨by rw [uh HF1]; rfl, Below.refl _ _⟩
 have hn2 : x.writes.length ≤ 40 := by omega
 have HW := yh (specWrites _ x.writes w (uh H4))
 have hwf : writesF x.writes = wsFrom x.writes := by rw [writesF, if_neg (by omega)]
 rw [hwf] at HW
 clear hwf
 go_wp2_with fail
 refine (uh HW).mono ?_
 rintro e w1 ⟨rfl, hb1⟩
 subst w1
 by_cases hs : wsFrom x.writes = 0
 ·
  rw [hs]
  have HO := yh (l5OnceC _ x.writes w (uh H4) (by omega))
  have HT : Hid (takenF x.writes = if onceB [] x.writes = false then 6 else 0) := by show takenF x.writes = _; rw [takenF, if_neg hn, if_neg (by simpa using hs)]
  clear HW hs hn
  cases ho : onceB [] x.writes
  ·
   rw [ho] at HO HT
   have HT6 : Hid (takenF x.writes = 6) := uh HT
   have HF1 := yh ((uh HF).trans (if_pos (by rw [uh HT6]; decide)))
   rw [uh HT6] at HF1
   clear ho HT HF HT6
   go_wp2_with fail
   refine (uh HO).mono ?_
   rintro e w2 ⟨rfl, hb⟩
   have HB := yh hb
   clear hb HO
   go_wp2_with fail
   go_ret
   exact ⟨by rw [uh HF1]; rfl, uh HB⟩
  rw [ho] at HO HT
  have HT0 : Hid (takenF x.writes = 0) := uh HT
  have HF1 := yh ((uh HF).trans (if_neg (by rw [uh HT0]; decide)))
  clear ho HT HF HT0
  go_wp2_with fail
  refine (uh HO).mono ?_
  rintro e w2 ⟨rfl, hb⟩
  have HB := yh hb
  have hX2 := (uh HX).keep hb
  have hl2 := hX2.lt
  clear hb HO x0 x2 x3 x4 xl HX H4
  go_wp2_with fail
  cases q4 : (decide (0 ≤ x.sure) && decide (x.sure ≤ (x.writes.length : Int)))
  ·
   have HF2 := yh ((uh HF1).trans (if_neg (by rw [q4]; simp)))
   clear HF1
   refine wp_region_noPanic ?_
   refine wp_region_held_drew (S := fun w' => w' = w2.drew) (by kernel_rfl) rfl (fun zq => ?_)
   refine tkH (i := 0) (oi := o158x1) (v := ?va0) rfl ?ha0 zq ?ra0
   case ha0 => intro _ _; go_simp; try with_reducible rfl
   refine tkH (i := 1) (oi := o158x2) (v := ?va1) rfl ?ha1 zq ?ra1
   case ha1 => intro _ _; go_simp; try with_reducible rfl
   refine tkH (i := 2) (oi := o158x3) (v := ?va2) rfl ?ha2 zq ?ra2
   case ha2 => intro _ _; go_simp; try with_reducible rfl
   refine tkH (i := 3) (oi := o158x4) (v := ?va3) rfl ?ha3 zq ?ra3
   case ha3 =>
    intro wS hSw
    have y5 : wS.cell? ⟨b, o + 5, none⟩ = some (.int .i64 x.sure) := by rw [hSw]; exact hX2.at 5 _ rfl
    clear hSw
    (try dsimp only at hSw)
    go_simp
    try with_reducible rfl
   refine tkH (i := 4) (oi := o158x5) (v := ?va4) rfl ?ha4 zq ?ra4
   case ha4 => intro _ _; go_simp; try with_reducible rfl
   refine tkH (i := 5) (oi := o158x6) (v := ?va5) rfl ?ha5 zq ?ra5
   case ha5 => intro _ _; go_simp; try with_reducible rfl
   refine tkH (i := 6) (oi := o158x7) (v := ?va6) rfl ?ha6 zq ?ra6
   case ha6 => intro _ _; go_simp; try with_reducible rfl
   refine tkH (i := 7) (oi := o158x8) (v := ?va7) rfl ?ha7 zq ?ra7
   case ha7 =>
    intro wS hSw
    have y4 : wS.cell? ⟨b, o + 4, none⟩ = some (.slice a4 x.writes.length d4) := by rw [hSw]; exact hX2.at 4 _ rfl
    clear hSw
    (try dsimp only at hSw)
    go_simp
    try with_reducible rfl
   refine tkH (i := 8) (oi := o158x9) (v := ?va8) rfl ?ha8 zq ?ra8
   case ha8 => intro _ _; go_simp; try with_reducible rfl
   refine rdH (i := 9) (oi := o158x10) rfl (fun K hK => ?_)
   go_simp
   go_at_call 64
   refine (inC x.sure 0 (x.writes.length : Int) _).mono ?_
   rintro e w3 ⟨rfl, rfl⟩
   rw [q4]
   try go_wp2_with fail
   refine hK.out _ _ rfl (fun zq => ?_)
   clear hK K
   try simp only [Act.put, pz, py, px]
   refine tkH (i := 10) (oi := o158x11) (v := ?va10) rfl ?ha10 zq ?ra10
   case ha10 => intro _ _; go_simp; try with_reducible rfl
   refine tkH (i := 11) (oi := o158x12) (v := ?va11) rfl ?ha11 zq ?ra11
   case ha11 => intro _ _; go_simp; try with_reducible rfl
   refine skH (i := 12) (oi := o158x13) rfl zq ?_
   refine skH (i := 13) (oi := o158x14) rfl zq ?_
   refine skH (i := 14) (oi := o158x15) rfl zq ?_
   refine skH (i := 15) (oi := o158x16) rfl zq ?_
   refine skH (i := 16) (oi := o158x17) rfl zq ?_
   refine skH (i := 17) (oi := o158x18) rfl zq ?_
   refine skH (i := 18) (oi := o158x19) rfl zq ?_
   refine skH (i := 19) (oi := o158x20) rfl zq ?_
   refine skH (i := 20) (oi := o158x21) rfl zq ?_
   refine skH (i := 21) (oi := o158x22) rfl zq ?_
   refine tkH (i := 22) (oi := o158x23) (v := ?va22) rfl ?ha22 zq ?ra22
   case ha22 => intro _ _; go_simp; try with_reducible rfl
   refine wpAnyH_done (by kernel_rfl) ?_ _
   refine NoPanic.normal ?_
   clear zq
   go_wp2_with fail
   go_ret
   exact ⟨by rw [uh HF2]; rfl, (uh HB).drew⟩
  cases q5 : (decide (0 ≤ x.clean) && decide (x.clean ≤ x.sure))
  ·
   have HF2 := yh ((uh HF1).trans (if_neg (by rw [q5]; simp)))
   clear HF1
   refine wp_region_noPanic ?_
   refine wp_region_held_drew (S := fun w' => w' = w2.drew) (by kernel_rfl) rfl (fun zq => ?_)
   refine tkH (i := 0) (oi := o158x1) (v := ?vb0) rfl ?hb0 zq ?rb0
   case hb0 => intro _ _; go_simp; try with_reducible rfl
   refine tkH (i := 1) (oi := o158x2) (v := ?vb1) rfl ?hb1 zq ?rb1
   case hb1 => intro _ _; go_simp; try with_reducible rfl
   refine tkH (i := 2) (oi := o158x3) (v := ?vb2) rfl ?hb2 zq ?rb2
   case hb2 => intro _ _; go_simp; try with_reducible rfl
   refine tkH (i := 3) (oi := o158x4) (v := ?vb3) rfl ?hb3 zq ?rb3
   case hb3 =>
    intro wS hSw
    have y5 : wS.cell? ⟨b, o + 5, none⟩ = some (.int .i64 x.sure) := by rw [hSw]; exact hX2.at 5 _ rfl
    clear hSw
    (try dsimp only at hSw)
    go_simp
    try with_reducible rfl
   refine tkH (i := 4) (oi := o158x5) (v := ?vb4) rfl ?hb4 zq ?rb4
   case hb4 => intro _ _; go_simp; try with_reducible rfl
   refine tkH (i := 5) (oi := o158x6) (v := ?vb5) rfl ?hb5 zq ?rb5
   case hb5 => intro _ _; go_simp; try with_reducible rfl
   refine tkH (i := 6) (oi := o158x7) (v := ?vb6) rfl ?hb6 zq ?rb6
   case hb6 => intro _ _; go_simp; try with_reducible rfl
   refine tkH (i := 7) (oi := o158x8) (v := ?vb7) rfl ?hb7 zq ?rb7
   case hb7 =>
    intro wS hSw
    have y4 : wS.cell? ⟨b, o + 4, none⟩ = some (.slice a4 x.writes.length d4) := by rw [hSw]; exact hX2.at 4 _ rfl
    clear hSw
    (try dsimp only at hSw)
    go_simp
    try with_reducible rfl
   refine tkH (i := 8) (oi := o158x9) (v := ?vb8) rfl ?hb8 zq ?rb8
   case hb8 => intro _ _; go_simp; try with_reducible rfl
   refine rdH (i := 9) (oi := o158x10) rfl (fun K hK => ?_)
   go_simp
   go_at_call 64
   refine (inC x.sure 0 (x.writes.length : Int) _).mono ?_
   rintro e w3 ⟨rfl, rfl⟩
   rw [q4]
   try go_wp2_with fail
   refine hK.out _ _ rfl (fun zq => ?_)
   clear hK K
   try simp only [Act.put, pz, py, px]
   refine tkH (i := 10) (oi := o158x11) (v := ?vb10) rfl ?hb10 zq ?rb10
   case hb10 => intro _ _; go_simp; try with_reducible rfl
   refine tkH (i := 11) (oi := o158x12) (v := ?vb11) rfl ?hb11 zq ?rb11
   case hb11 => intro _ _; go_simp; try with_reducible rfl
   refine tkH (i := 12) (oi := o158x13) (v := ?vb12) rfl ?hb12 zq ?rb12
   case hb12 => intro _ _; go_simp; try with_reducible rfl
   refine tkH (i := 13) (oi := o158x14) (v := ?vb13) rfl ?hb13 zq ?rb13
   case hb13 => intro _ _; go_simp; try with_reducible rfl
   refine tkH (i := 14) (oi := o158x15) (v := ?vb14) rfl ?hb14 zq ?rb14
   case hb14 => intro _ _; go_simp; try with_reducible rfl
   refine tkH (i := 15) (oi := o158x16) (v := ?vb15) rfl ?hb15 zq ?rb15
   case hb15 =>
    intro wS hSw
    have y6 : wS.cell? ⟨b, o + 6, none⟩ = some (.int .i64 x.clean) := by rw [hSw]; exact hX2.at 6 _ rfl
    clear hSw
    (try dsimp only at hSw)
    go_simp
    try with_reducible rfl
   refine tkH (i := 16) (oi := o158x17) (v := ?vb16) rfl ?hb16 zq ?rb16
   case hb16 => intro _ _; go_simp; try with_reducible rfl
   refine tkH (i := 17) (oi := o158x18) (v := ?vb17) rfl ?hb17 zq ?rb17
   case hb17 => intro _ _; go_simp; try with_reducible rfl
   refine tkH (i := 18) (oi := o158x19) (v := ?vb18) rfl ?hb18 zq ?rb18
   case hb18 => intro _ _; go_simp; try with_reducible rfl
   refine tkH (i := 19) (oi := o158x20) (v := ?vb19) rfl ?hb19 zq ?rb19
   case hb19 =>
    intro wS hSw
    have y5 : wS.cell? ⟨b, o + 5, none⟩ = some (.int .i64 x.sure) := by rw [hSw]; exact hX2.at 5 _ rfl
    clear hSw
    (try dsimp only at hSw)
    go_simp
    try with_reducible rfl
   refine rdH (i := 20) (oi := o158x21) rfl (fun K hK => ?_)
   go_simp
   go_at_call 64
   refine (inC x.clean 0 x.sure _).mono ?_
   rintro e w3 ⟨rfl, rfl⟩
   rw [q5]
   try go_wp2_with fail
   refine hK.out _ _ rfl (fun zq => ?_)
   clear hK K
   try simp only [Act.put, pz, py, px]
   refine tkH (i := 21) (oi := o158x22) (v := ?vb21) rfl ?hb21 zq ?rb21
   case hb21 => intro _ _; go_simp; try with_reducible rfl
   refine tkH (i := 22) (oi := o158x23) (v := ?vb22) rfl ?hb22 zq ?rb22
   case hb22 => intro _ _; go_simp; try with_reducible rfl
   refine wpAnyH_done (by kernel_rfl) ?_ _
   refine NoPanic.normal ?_
   clear zq
   go_wp2_with fail
   go_ret
   exact ⟨by rw [uh HF2]; rfl, (uh HB).drew⟩
  have HF2 := yh ((uh HF1).trans (if_pos ⟨q4, q5⟩))
  clear HF1
  refine wp_region_noPanic ?_
  refine wp_region_held_drew (S := fun w' => w' = w2.drew) (by kernel_rfl) rfl (fun zq => ?_)
  refine tkH (i := 0) (oi := o158x1) (v := ?vc0) rfl ?hc0 zq ?rc0
  case hc0 => intro _ _; go_simp; try with_reducible rfl
  refine tkH (i := 1) (oi := o158x2) (v := ?vc1) rfl ?hc1 zq ?rc1
  case hc1 => intro _ _; go_simp; try with_reducible rfl
  refine tkH (i := 2) (oi := o158x3) (v := ?vc2) rfl ?hc2 zq ?rc2
  case hc2 => intro _ _; go_simp; try with_reducible rfl
  refine tkH (i := 3) (oi := o158x4) (v := ?vc3) rfl ?hc3 zq ?rc3
  case hc3 =>
   intro wS hSw
   have y5 : wS.cell? ⟨b, o + 5, none⟩ = some (.int .i64 x.sure) := by rw [hSw]; exact hX2.at 5 _ rfl
   clear hSw
   (try dsimp only at hSw)
   go_simp
   try with_reducible rfl
  refine tkH (i := 4) (oi := o158x5) (v := ?vc4) rfl ?hc4 zq ?rc4
  case hc4 => intro _ _; go_simp; try with_reducible rfl
  refine tkH (i := 5) (oi := o158x6) (v := ?vc5) rfl ?hc5 zq ?rc5
  case hc5 => intro _ _; go_simp; try with_reducible rfl
  refine tkH (i := 6) (oi := o158x7) (v := ?vc6) rfl ?hc6 zq ?rc6
  case hc6 => intro _ _; go_simp; try with_reducible rfl
  refine tkH (i := 7) (oi := o158x8) (v := ?vc7) rfl ?hc7 zq ?rc7
  case hc7 =>
   intro wS hSw
   have y4 : wS.cell? ⟨b, o + 4, none⟩ = some (.slice a4 x.writes.length d4) := by rw [hSw]; exact hX2.at 4 _ rfl
   clear hSw
   (try dsimp only at hSw)
   go_simp
   try with_reducible rfl
  refine tkH (i := 8) (oi := o158x9) (v := ?vc8) rfl ?hc8 zq ?rc8
  case hc8 => intro _ _; go_simp; try with_reducible rfl
  refine rdH (i := 9) (oi := o158x10) rfl (fun K hK => ?_)
  go_simp
  go_at_call 64
  refine (inC x.sure 0 (x.writes.length : Int) _).mono ?_
  rintro e w3 ⟨rfl, rfl⟩
  rw [q4]
  try go_wp2_with fail
  refine hK.out _ _ rfl (fun zq => ?_)
  clear hK K
  try simp only [Act.put, pz, py, px]
  refine tkH (i := 10) (oi := o158x11) (v := ?vc10) rfl ?hc10 zq ?rc10
  case hc10 => intro _ _; go_simp; try with_reducible rfl
  refine tkH (i := 11) (oi := o158x12) (v := ?vc11) rfl ?hc11 zq ?rc11
  case hc11 => intro _ _; go_simp; try with_reducible rfl
  refine tkH (i := 12) (oi := o158x13) (v := ?vc12) rfl ?hc12 zq ?rc12
  case hc12 => intro _ _; go_simp; try with_reducible rfl
  refine tkH (i := 13) (oi := o158x14) (v := ?vc13) rfl ?hc13 zq ?rc13
  case hc13 => intro _ _; go_simp; try with_reducible rfl
  refine tkH (i := 14) (oi := o158x15) (v := ?vc14) rfl ?hc14 zq ?rc14
  case hc14 => intro _ _; go_simp; try with_reducible rfl
  refine tkH (i := 15) (oi := o158x16) (v := ?vc15) rfl ?hc15 zq ?rc15
  case hc15 =>
   intro wS hSw
   have y6 : wS.cell? ⟨b, o + 6, none⟩ = some (.int .i64 x.clean) := by rw [hSw]; exact hX2.at 6 _ rfl
   clear hSw
   (try dsimp only at hSw)
   go_simp
   try with_reducible rfl
  refine tkH (i := 16) (oi := o158x17) (v := ?vc16) rfl ?hc16 zq ?rc16
  case hc16 => intro _ _; go_simp; try with_reducible rfl
  refine tkH (i := 17) (oi := o158x18) (v := ?vc17) rfl ?hc17 zq ?rc17
  case hc17 => intro _ _; go_simp; try with_reducible rfl
  refine tkH (i := 18) (oi := o158x19) (v := ?vc18) rfl ?hc18 zq ?rc18
  case hc18 => intro _ _; go_simp; try with_reducible rfl
  refine tkH (i := 19) (oi := o158x20) (v := ?vc19) rfl ?hc19 zq ?rc19
  case hc19 =>
   intro wS hSw
   have y5 : wS.cell? ⟨b, o + 5, none⟩ = some (.int .i64 x.sure) := by rw [hSw]; exact hX2.at 5 _ rfl
   clear hSw
   (try dsimp only at hSw)
   go_simp
   try with_reducible rfl
  refine rdH (i := 20) (oi := o158x21) rfl (fun K hK => ?_)
  go_simp
  go_at_call 64
  refine (inC x.clean 0 x.sure _).mono ?_
  rintro e w3 ⟨rfl, rfl⟩
  rw [q5]
  try go_wp2_with fail
  refine hK.out _ _ rfl (fun zq => ?_)
  clear hK K
  try simp only [Act.put, pz, py, px]
  refine tkH (i := 21) (oi := o158x22) (v := ?vc21) rfl ?hc21 zq ?rc21
  case hc21 => intro _ _; go_simp; try with_reducible rfl
  refine tkH (i := 22) (oi := o158x23) (v := ?vc22) rfl ?hc22 zq ?rc22
  case hc22 => intro _ _; go_simp; try with_reducible rfl
  refine wpAnyH_done (by kernel_rfl) ?_ _
  refine NoPanic.normal ?_
  clear zq q4 q5
  go_wp2_with fail
  cases hu : x.up
  ·
   rw [hu] at HF2
   cases e1 : (x.sure != (x.writes.length : Int))
   ·
    cases e2 : (x.clean != 0)
    ·
     cases e3 : (x.lease != 0)
     ·
      have HF3 : Hid (nodeFault x = 0) := (uh HF2).trans (if_neg (by simp at e1 e2 e3; simp [downB, ← e1, e2, e3]))
      clear HF2
      refine wp_region_noPanic ?_
      refine wp_region_held_drew (S := fun w' => w' = w2.drew.drew) (by kernel_rfl) rfl (fun zq => ?_)
      refine tkH (i := 0) (oi := o158x24) (v := ?vd0) rfl ?hd0 zq ?rd0
      case hd0 => intro _ _; go_simp; try with_reducible rfl
      refine tkH (i := 1) (oi := o158x25) (v := ?vd1) rfl ?hd1 zq ?rd1
      case hd1 => intro _ _; go_simp; try with_reducible rfl
      refine tkH (i := 2) (oi := o158x26) (v := ?vd2) rfl ?hd2 zq ?rd2
      case hd2 => intro _ _; go_simp; try with_reducible rfl
      refine tkH (i := 3) (oi := o158x27) (v := ?vd3) rfl ?hd3 zq ?rd3
      case hd3 =>
       intro wS hSw
       have y1 : wS.cell? ⟨b, o + 1, none⟩ = some (.bool x.up) := by rw [hSw]; exact hX2.at 1 _ rfl
       clear hSw
       (try dsimp only at hSw)
       go_simp
       try with_reducible rfl
      refine tkH (i := 4) (oi := o158x28) (v := ?vd4) rfl ?hd4 zq ?rd4
      case hd4 => intro _ _; go_simp; try with_reducible rfl
      refine tkH (i := 5) (oi := o158x29) (v := ?vd5) rfl ?hd5 zq ?rd5
      case hd5 => intro _ _; go_simp; try with_reducible rfl
      refine tkH (i := 6) (oi := o158x30) (v := ?vd6) rfl ?hd6 zq ?rd6
      case hd6 => intro _ _; go_simp; try with_reducible rfl
      refine tkH (i := 7) (oi := o158x31) (v := ?vd7) rfl ?hd7 zq ?rd7
      case hd7 => intro _ _; go_simp; try with_reducible rfl
      refine tkH (i := 8) (oi := o158x32) (v := ?vd8) rfl ?hd8 zq ?rd8
      case hd8 => intro _ _; go_simp; try with_reducible rfl
      refine tkH (i := 9) (oi := o158x33) (v := ?vd9) rfl ?hd9 zq ?rd9
      case hd9 =>
       intro wS hSw
       have y5 : wS.cell? ⟨b, o + 5, none⟩ = some (.int .i64 x.sure) := by rw [hSw]; exact hX2.at 5 _ rfl
       clear hSw
       (try dsimp only at hSw)
       go_simp
       try with_reducible rfl
      refine tkH (i := 10) (oi := o158x34) (v := ?vd10) rfl ?hd10 zq ?rd10
      case hd10 => intro _ _; go_simp; try with_reducible rfl
      refine tkH (i := 11) (oi := o158x35) (v := ?vd11) rfl ?hd11 zq ?rd11
      case hd11 => intro _ _; go_simp; try with_reducible rfl
      refine tkH (i := 12) (oi := o158x36) (v := ?vd12) rfl ?hd12 zq ?rd12
      case hd12 => intro _ _; go_simp; try with_reducible rfl
      refine tkH (i := 13) (oi := o158x37) (v := ?vd13) rfl ?hd13 zq ?rd13
      case hd13 =>
       intro wS hSw
       have y4 : wS.cell? ⟨b, o + 4, none⟩ = some (.slice a4 x.writes.length d4) := by rw [hSw]; exact hX2.at 4 _ rfl
       clear hSw
       (try dsimp only at hSw)
       go_simp
       try with_reducible rfl
      refine tkH (i := 14) (oi := o158x38) (v := ?vd14) rfl ?hd14 zq ?rd14
      case hd14 => intro _ _; go_simp; try with_reducible rfl
      refine tkH (i := 15) (oi := o158x39) (v := ?vd15) rfl ?hd15 zq ?rd15
      case hd15 => intro _ _; go_simp; try with_reducible rfl
      refine tkH (i := 16) (oi := o158x40) (v := ?vd16) rfl ?hd16 zq ?rd16
      case hd16 => intro _ _; go_simp; try with_reducible rfl
      refine tkH (i := 17) (oi := o158x41) (v := ?vd17) rfl ?hd17 zq ?rd17
      case hd17 => intro _ _; go_simp; try with_reducible rfl
      refine tkH (i := 18) (oi := o158x42) (v := ?vd18) rfl ?hd18 zq ?rd18
      case hd18 => intro _ _; go_simp; try with_reducible rfl
      refine tkH (i := 19) (oi := o158x43) (v := ?vd19) rfl ?hd19 zq ?rd19
      case hd19 => intro _ _; go_simp; try with_reducible rfl
      refine tkH (i := 20) (oi := o158x44) (v := ?vd20) rfl ?hd20 zq ?rd20
      case hd20 =>
       intro wS hSw
       have y6 : wS.cell? ⟨b, o + 6, none⟩ = some (.int .i64 x.clean) := by rw [hSw]; exact hX2.at 6 _ rfl
       clear hSw
       (try dsimp only at hSw)
       go_simp
       try with_reducible rfl
      refine tkH (i := 21) (oi := o158x45) (v := ?vd21) rfl ?hd21 zq ?rd21
      case hd21 => intro _ _; go_simp; try with_reducible rfl
      refine tkH (i := 22) (oi := o158x46) (v := ?vd22) rfl ?hd22 zq ?rd22
      case hd22 => intro _ _; go_simp; try with_reducible rfl
      refine tkH (i := 23) (oi := o158x47) (v := ?vd23) rfl ?hd23 zq ?rd23
      case hd23 => intro _ _; go_simp; try with_reducible rfl
      refine tkH (i := 24) (oi := o158x48) (v := ?vd24) rfl ?hd24 zq ?rd24
      case hd24 => intro _ _; go_simp; try with_reducible rfl
      refine tkH (i := 25) (oi := o158x49) (v := ?vd25) rfl ?hd25 zq ?rd25
      case hd25 => intro _ _; go_simp; try with_reducible rfl
      refine tkH (i := 26) (oi := o158x50) (v := ?vd26) rfl ?hd26 zq ?rd26
      case hd26 => intro _ _; go_simp; try with_reducible rfl
      refine tkH (i := 27) (oi := o158x51) (v := ?vd27) rfl ?hd27 zq ?rd27
      case hd27 =>
       intro wS hSw
       have y3 : wS.cell? ⟨b, o + 3, none⟩ = some (.int .i64 x.lease) := by rw [hSw]; exact hX2.at 3 _ rfl
       clear hSw
       (try dsimp only at hSw)
       go_simp
       try with_reducible rfl
      refine tkH (i := 28) (oi := o158x52) (v := ?vd28) rfl ?hd28 zq ?rd28
      case hd28 => intro _ _; go_simp; try with_reducible rfl
      refine tkH (i := 29) (oi := o158x53) (v := ?vd29) rfl ?hd29 zq ?rd29
      case hd29 => intro _ _; go_simp; try with_reducible rfl
      refine tkH (i := 30) (oi := o158x54) (v := ?vd30) rfl ?hd30 zq ?rd30
      case hd30 => intro _ _; go_simp; try with_reducible rfl
      refine wpAnyH_done (by kernel_rfl) ?_ _
      refine NoPanic.normal ?_
      clear zq
      go_wp2_with fail
      go_ret
      exact ⟨by rw [uh HF3]; rfl, (uh HB).drew.drew⟩
     have HF3 : Hid (nodeFault x = 1) := (uh HF2).trans (if_pos ⟨rfl, by simp at e3; simp [downB, e3]⟩)
     clear HF2
     refine wp_region_noPanic ?_
     refine wp_region_held_drew (S := fun w' => w' = w2.drew.drew) (by kernel_rfl) rfl (fun zq => ?_)
     refine tkH (i := 0) (oi := o158x24) (v := ?ve0) rfl ?he0 zq ?re0
     case he0 => intro _ _; go_simp; try with_reducible rfl
     refine tkH (i := 1) (oi := o158x25) (v := ?ve1) rfl ?he1 zq ?re1
     case he1 => intro _ _; go_simp; try with_reducible rfl
     refine tkH (i := 2) (oi := o158x26) (v := ?ve2) rfl ?he2 zq ?re2
     case he2 => intro _ _; go_simp; try with_reducible rfl
     refine tkH (i := 3) (oi := o158x27) (v := ?ve3) rfl ?he3 zq ?re3
     case he3 =>
      intro wS hSw
      have y1 : wS.cell? ⟨b, o + 1, none⟩ = some (.bool x.up) := by rw [hSw]; exact hX2.at 1 _ rfl
      clear hSw
      (try dsimp only at hSw)
      go_simp
      try with_reducible rfl
     refine tkH (i := 4) (oi := o158x28) (v := ?ve4) rfl ?he4 zq ?re4
     case he4 => intro _ _; go_simp; try with_reducible rfl
     refine tkH (i := 5) (oi := o158x29) (v := ?ve5) rfl ?he5 zq ?re5
     case he5 => intro _ _; go_simp; try with_reducible rfl
     refine tkH (i := 6) (oi := o158x30) (v := ?ve6) rfl ?he6 zq ?re6
     case he6 => intro _ _; go_simp; try with_reducible rfl
     refine tkH (i := 7) (oi := o158x31) (v := ?ve7) rfl ?he7 zq ?re7
     case he7 => intro _ _; go_simp; try with_reducible rfl
     refine tkH (i := 8) (oi := o158x32) (v := ?ve8) rfl ?he8 zq ?re8
     case he8 => intro _ _; go_simp; try with_reducible rfl
     refine tkH (i := 9) (oi := o158x33) (v := ?ve9) rfl ?he9 zq ?re9
     case he9 =>
      intro wS hSw
      have y5 : wS.cell? ⟨b, o + 5, none⟩ = some (.int .i64 x.sure) := by rw [hSw]; exact hX2.at 5 _ rfl
      clear hSw
      (try dsimp only at hSw)
      go_simp
      try with_reducible rfl
     refine tkH (i := 10) (oi := o158x34) (v := ?ve10) rfl ?he10 zq ?re10
     case he10 => intro _ _; go_simp; try with_reducible rfl
     refine tkH (i := 11) (oi := o158x35) (v := ?ve11) rfl ?he11 zq ?re11
     case he11 => intro _ _; go_simp; try with_reducible rfl
     refine tkH (i := 12) (oi := o158x36) (v := ?ve12) rfl ?he12 zq ?re12
     case he12 => intro _ _; go_simp; try with_reducible rfl
     refine tkH (i := 13) (oi := o158x37) (v := ?ve13) rfl ?he13 zq ?re13
     case he13 =>
      intro wS hSw
      have y4 : wS.cell? ⟨b, o + 4, none⟩ = some (.slice a4 x.writes.length d4) := by rw [hSw]; exact hX2.at 4 _ rfl
      clear hSw
      (try dsimp only at hSw)
      go_simp
      try with_reducible rfl
     refine tkH (i := 14) (oi := o158x38) (v := ?ve14) rfl ?he14 zq ?re14
     case he14 => intro _ _; go_simp; try with_reducible rfl
     refine tkH (i := 15) (oi := o158x39) (v := ?ve15) rfl ?he15 zq ?re15
     case he15 => intro _ _; go_simp; try with_reducible rfl
     refine tkH (i := 16) (oi := o158x40) (v := ?ve16) rfl ?he16 zq ?re16
     case he16 => intro _ _; go_simp; try with_reducible rfl
     refine tkH (i := 17) (oi := o158x41) (v := ?ve17) rfl ?he17 zq ?re17
     case he17 => intro _ _; go_simp; try with_reducible rfl
     refine tkH (i := 18) (oi := o158x42) (v := ?ve18) rfl ?he18 zq ?re18
     case he18 => intro _ _; go_simp; try with_reducible rfl
     refine tkH (i := 19) (oi := o158x43) (v := ?ve19) rfl ?he19 zq ?re19
     case he19 => intro _ _; go_simp; try with_reducible rfl
     refine tkH (i := 20) (oi := o158x44) (v := ?ve20) rfl ?he20 zq ?re20
     case he20 =>
      intro wS hSw
      have y6 : wS.cell? ⟨b, o + 6, none⟩ = some (.int .i64 x.clean) := by rw [hSw]; exact hX2.at 6 _ rfl
      clear hSw
      (try dsimp only at hSw)
      go_simp
      try with_reducible rfl
     refine tkH (i := 21) (oi := o158x45) (v := ?ve21) rfl ?he21 zq ?re21
     case he21 => intro _ _; go_simp; try with_reducible rfl
     refine tkH (i := 22) (oi := o158x46) (v := ?ve22) rfl ?he22 zq ?re22
     case he22 => intro _ _; go_simp; try with_reducible rfl
     refine tkH (i := 23) (oi := o158x47) (v := ?ve23) rfl ?he23 zq ?re23
     case he23 => intro _ _; go_simp; try with_reducible rfl
     refine tkH (i := 24) (oi := o158x48) (v := ?ve24) rfl ?he24 zq ?re24
     case he24 => intro _ _; go_simp; try with_reducible rfl
     refine tkH (i := 25) (oi := o158x49) (v := ?ve25) rfl ?he25 zq ?re25
     case he25 => intro _ _; go_simp; try with_reducible rfl
     refine tkH (i := 26) (oi := o158x50) (v := ?ve26) rfl ?he26 zq ?re26
     case he26 => intro _ _; go_simp; try with_reducible rfl
     refine tkH (i := 27) (oi := o158x51) (v := ?ve27) rfl ?he27 zq ?re27
     case he27 =>
      intro wS hSw
      have y3 : wS.cell? ⟨b, o + 3, none⟩ = some (.int .i64 x.lease) := by rw [hSw]; exact hX2.at 3 _ rfl
      clear hSw
      (try dsimp only at hSw)
      go_simp
      try with_reducible rfl
     refine tkH (i := 28) (oi := o158x52) (v := ?ve28) rfl ?he28 zq ?re28
     case he28 => intro _ _; go_simp; try with_reducible rfl
     refine tkH (i := 29) (oi := o158x53) (v := ?ve29) rfl ?he29 zq ?re29
     case he29 => intro _ _; go_simp; try with_reducible rfl
     refine tkH (i := 30) (oi := o158x54) (v := ?ve30) rfl ?he30 zq ?re30
     case he30 => intro _ _; go_simp; try with_reducible rfl
     refine wpAnyH_done (by kernel_rfl) ?_ _
     refine NoPanic.normal ?_
     clear zq
     go_wp2_with fail
     go_ret
     exact ⟨by rw [uh HF3]; rfl, (uh HB).drew.drew⟩
    have HF3 : Hid (nodeFault x = 1) := (uh HF2).trans (if_pos ⟨rfl, by simp at e2; simp [downB, e2]⟩)
    clear HF2
    refine wp_region_noPanic ?_
    refine wp_region_held_drew (S := fun w' => w' = w2.drew.drew) (by kernel_rfl) rfl (fun zq => ?_)
    refine tkH (i := 0) (oi := o158x24) (v := ?vf0) rfl ?hf0 zq ?rf0
    case hf0 => intro _ _; go_simp; try with_reducible rfl
    refine tkH (i := 1) (oi := o158x25) (v := ?vf1) rfl ?hf1 zq ?rf1
    case hf1 => intro _ _; go_simp; try with_reducible rfl
    refine tkH (i := 2) (oi := o158x26) (v := ?vf2) rfl ?hf2 zq ?rf2
    case hf2 => intro _ _; go_simp; try with_reducible rfl
    refine tkH (i := 3) (oi := o158x27) (v := ?vf3) rfl ?hf3 zq ?rf3
    case hf3 =>
     intro wS hSw
     have y1 : wS.cell? ⟨b, o + 1, none⟩ = some (.bool x.up) := by rw [hSw]; exact hX2.at 1 _ rfl
     clear hSw
     (try dsimp only at hSw)
     go_simp
     try with_reducible rfl
    refine tkH (i := 4) (oi := o158x28) (v := ?vf4) rfl ?hf4 zq ?rf4
    case hf4 => intro _ _; go_simp; try with_reducible rfl
    refine tkH (i := 5) (oi := o158x29) (v := ?vf5) rfl ?hf5 zq ?rf5
    case hf5 => intro _ _; go_simp; try with_reducible rfl
    refine tkH (i := 6) (oi := o158x30) (v := ?vf6) rfl ?hf6 zq ?rf6
    case hf6 => intro _ _; go_simp; try with_reducible rfl
    refine tkH (i := 7) (oi := o158x31) (v := ?vf7) rfl ?hf7 zq ?rf7
    case hf7 => intro _ _; go_simp; try with_reducible rfl
    refine tkH (i := 8) (oi := o158x32) (v := ?vf8) rfl ?hf8 zq ?rf8
    case hf8 => intro _ _; go_simp; try with_reducible rfl
    refine tkH (i := 9) (oi := o158x33) (v := ?vf9) rfl ?hf9 zq ?rf9
    case hf9 =>
     intro wS hSw
     have y5 : wS.cell? ⟨b, o + 5, none⟩ = some (.int .i64 x.sure) := by rw [hSw]; exact hX2.at 5 _ rfl
     clear hSw
     (try dsimp only at hSw)
     go_simp
     try with_reducible rfl
    refine tkH (i := 10) (oi := o158x34) (v := ?vf10) rfl ?hf10 zq ?rf10
    case hf10 => intro _ _; go_simp; try with_reducible rfl
    refine tkH (i := 11) (oi := o158x35) (v := ?vf11) rfl ?hf11 zq ?rf11
    case hf11 => intro _ _; go_simp; try with_reducible rfl
    refine tkH (i := 12) (oi := o158x36) (v := ?vf12) rfl ?hf12 zq ?rf12
    case hf12 => intro _ _; go_simp; try with_reducible rfl
    refine tkH (i := 13) (oi := o158x37) (v := ?vf13) rfl ?hf13 zq ?rf13
    case hf13 =>
     intro wS hSw
     have y4 : wS.cell? ⟨b, o + 4, none⟩ = some (.slice a4 x.writes.length d4) := by rw [hSw]; exact hX2.at 4 _ rfl
     clear hSw
     (try dsimp only at hSw)
     go_simp
     try with_reducible rfl
    refine tkH (i := 14) (oi := o158x38) (v := ?vf14) rfl ?hf14 zq ?rf14
    case hf14 => intro _ _; go_simp; try with_reducible rfl
    refine tkH (i := 15) (oi := o158x39) (v := ?vf15) rfl ?hf15 zq ?rf15
    case hf15 => intro _ _; go_simp; try with_reducible rfl
    refine tkH (i := 16) (oi := o158x40) (v := ?vf16) rfl ?hf16 zq ?rf16
    case hf16 => intro _ _; go_simp; try with_reducible rfl
    refine tkH (i := 17) (oi := o158x41) (v := ?vf17) rfl ?hf17 zq ?rf17
    case hf17 => intro _ _; go_simp; try with_reducible rfl
    refine tkH (i := 18) (oi := o158x42) (v := ?vf18) rfl ?hf18 zq ?rf18
    case hf18 => intro _ _; go_simp; try with_reducible rfl
    refine tkH (i := 19) (oi := o158x43) (v := ?vf19) rfl ?hf19 zq ?rf19
    case hf19 => intro _ _; go_simp; try with_reducible rfl
    refine tkH (i := 20) (oi := o158x44) (v := ?vf20) rfl ?hf20 zq ?rf20
    case hf20 =>
     intro wS hSw
     have y6 : wS.cell? ⟨b, o + 6, none⟩ = some (.int .i64 x.clean) := by rw [hSw]; exact hX2.at 6 _ rfl
     clear hSw
     (try dsimp only at hSw)
     go_simp
     try with_reducible rfl
    refine tkH (i := 21) (oi := o158x45) (v := ?vf21) rfl ?hf21 zq ?rf21
    case hf21 => intro _ _; go_simp; try with_reducible rfl
    refine tkH (i := 22) (oi := o158x46) (v := ?vf22) rfl ?hf22 zq ?rf22
    case hf22 => intro _ _; go_simp; try with_reducible rfl
    refine tkH (i := 23) (oi := o158x47) (v := ?vf23) rfl ?hf23 zq ?rf23
    case hf23 => intro _ _; go_simp; try with_reducible rfl
    refine skH (i := 24) (oi := o158x48) rfl zq ?_
    refine skH (i := 25) (oi := o158x49) rfl zq ?_
    refine skH (i := 26) (oi := o158x50) rfl zq ?_
    refine skH (i := 27) (oi := o158x51) rfl zq ?_
    refine skH (i := 28) (oi := o158x52) rfl zq ?_
    refine tkH (i := 29) (oi := o158x53) (v := ?vf29) rfl ?hf29 zq ?rf29
    case hf29 => intro _ _; go_simp; try with_reducible rfl
    refine tkH (i := 30) (oi := o158x54) (v := ?vf30) rfl ?hf30 zq ?rf30
    case hf30 => intro _ _; go_simp; try with_reducible rfl
    refine wpAnyH_done (by kernel_rfl) ?_ _
    refine NoPanic.normal ?_
    clear zq
    go_wp2_with fail
    go_ret
    exact ⟨by rw [uh HF3]; rfl, (uh HB).drew.drew⟩
   have HF3 : Hid (nodeFault x = 1) := (uh HF2).trans (if_pos ⟨rfl, by simp at e1; simp [downB, e1]⟩)
   clear HF2
   refine wp_region_noPanic ?_
   refine wp_region_held_drew (S := fun w' => w' = w2.drew.drew) (by kernel_rfl) rfl (fun zq => ?_)
   refine tkH (i := 0) (oi := o158x24) (v := ?vg0) rfl ?hg0 zq ?rg0
   case hg0 => intro _ _; go_simp; try with_reducible rfl
   refine tkH (i := 1) (oi := o158x25) (v := ?vg1) rfl ?hg1 zq ?rg1
   case hg1 => intro _ _; go_simp; try with_reducible rfl
   refine tkH (i := 2) (oi := o158x26) (v := ?vg2) rfl ?hg2 zq ?rg2
   case hg2 => intro _ _; go_simp; try with_reducible rfl
   refine tkH (i := 3) (oi := o158x27) (v := ?vg3) rfl ?hg3 zq ?rg3
   case hg3 =>
    intro wS hSw
    have y1 : wS.cell? ⟨b, o + 1, none⟩ = some (.bool x.up) := by rw [hSw]; exact hX2.at 1 _ rfl
    clear hSw
    (try dsimp only at hSw)
    go_simp
    try with_reducible rfl
   refine tkH (i := 4) (oi := o158x28) (v := ?vg4) rfl ?hg4 zq ?rg4
   case hg4 => intro _ _; go_simp; try with_reducible rfl
   refine tkH (i := 5) (oi := o158x29) (v := ?vg5) rfl ?hg5 zq ?rg5
   case hg5 => intro _ _; go_simp; try with_reducible rfl
   refine tkH (i := 6) (oi := o158x30) (v := ?vg6) rfl ?hg6 zq ?rg6
   case hg6 => intro _ _; go_simp; try with_reducible rfl
   refine tkH (i := 7) (oi := o158x31) (v := ?vg7) rfl ?hg7 zq ?rg7
   case hg7 => intro _ _; go_simp; try with_reducible rfl
   refine tkH (i := 8) (oi := o158x32) (v := ?vg8) rfl ?hg8 zq ?rg8
   case hg8 => intro _ _; go_simp; try with_reducible rfl
   refine tkH (i := 9) (oi := o158x33) (v := ?vg9) rfl ?hg9 zq ?rg9
   case hg9 =>
    intro wS hSw
    have y5 : wS.cell? ⟨b, o + 5, none⟩ = some (.int .i64 x.sure) := by rw [hSw]; exact hX2.at 5 _ rfl
    clear hSw
    (try dsimp only at hSw)
    go_simp
    try with_reducible rfl
   refine tkH (i := 10) (oi := o158x34) (v := ?vg10) rfl ?hg10 zq ?rg10
   case hg10 => intro _ _; go_simp; try with_reducible rfl
   refine tkH (i := 11) (oi := o158x35) (v := ?vg11) rfl ?hg11 zq ?rg11
   case hg11 => intro _ _; go_simp; try with_reducible rfl
   refine tkH (i := 12) (oi := o158x36) (v := ?vg12) rfl ?hg12 zq ?rg12
   case hg12 => intro _ _; go_simp; try with_reducible rfl
   refine tkH (i := 13) (oi := o158x37) (v := ?vg13) rfl ?hg13 zq ?rg13
   case hg13 =>
    intro wS hSw
    have y4 : wS.cell? ⟨b, o + 4, none⟩ = some (.slice a4 x.writes.length d4) := by rw [hSw]; exact hX2.at 4 _ rfl
    clear hSw
    (try dsimp only at hSw)
    go_simp
    try with_reducible rfl
   refine tkH (i := 14) (oi := o158x38) (v := ?vg14) rfl ?hg14 zq ?rg14
   case hg14 => intro _ _; go_simp; try with_reducible rfl
   refine tkH (i := 15) (oi := o158x39) (v := ?vg15) rfl ?hg15 zq ?rg15
   case hg15 => intro _ _; go_simp; try with_reducible rfl
   refine tkH (i := 16) (oi := o158x40) (v := ?vg16) rfl ?hg16 zq ?rg16
   case hg16 => intro _ _; go_simp; try with_reducible rfl
   refine skH (i := 17) (oi := o158x41) rfl zq ?_
   refine skH (i := 18) (oi := o158x42) rfl zq ?_
   refine skH (i := 19) (oi := o158x43) rfl zq ?_
   refine skH (i := 20) (oi := o158x44) rfl zq ?_
   refine skH (i := 21) (oi := o158x45) rfl zq ?_
   refine tkH (i := 22) (oi := o158x46) (v := ?vg22) rfl ?hg22 zq ?rg22
   case hg22 => intro _ _; go_simp; try with_reducible rfl
   refine tkH (i := 23) (oi := o158x47) (v := ?vg23) rfl ?hg23 zq ?rg23
   case hg23 => intro _ _; go_simp; try with_reducible rfl
   refine skH (i := 24) (oi := o158x48) rfl zq ?_
   refine skH (i := 25) (oi := o158x49) rfl zq ?_
   refine skH (i := 26) (oi := o158x50) rfl zq ?_
   refine skH (i := 27) (oi := o158x51) rfl zq ?_
   refine skH (i := 28) (oi := o158x52) rfl zq ?_
   refine tkH (i := 29) (oi := o158x53) (v := ?vg29) rfl ?hg29 zq ?rg29
   case hg29 => intro _ _; go_simp; try with_reducible rfl
   refine tkH (i := 30) (oi := o158x54) (v := ?vg30) rfl ?hg30 zq ?rg30
   case hg30 => intro _ _; go_simp; try with_reducible rfl
   refine wpAnyH_done (by kernel_rfl) ?_ _
   refine NoPanic.normal ?_
   clear zq
   go_wp2_with fail
   go_ret
   exact ⟨by rw [uh HF3]; rfl, (uh HB).drew.drew⟩
  have HF3 : Hid (nodeFault x = 0) := (uh HF2).trans (if_neg (by rw [hu]; simp))
  clear HF2
  refine wp_region_noPanic ?_
  refine wp_region_held_drew (S := fun w' => w' = w2.drew.drew) (by kernel_rfl) rfl (fun zq => ?_)
  refine tkH (i := 0) (oi := o158x24) (v := ?vh0) rfl ?hh0 zq ?rh0
  case hh0 => intro _ _; go_simp; try with_reducible rfl
  refine tkH (i := 1) (oi := o158x25) (v := ?vh1) rfl ?hh1 zq ?rh1
  case hh1 => intro _ _; go_simp; try with_reducible rfl
  refine tkH (i := 2) (oi := o158x26) (v := ?vh2) rfl ?hh2 zq ?rh2
  case hh2 => intro _ _; go_simp; try with_reducible rfl
  refine tkH (i := 3) (oi := o158x27) (v := ?vh3) rfl ?hh3 zq ?rh3
  case hh3 =>
   intro wS hSw
   have y1 : wS.cell? ⟨b, o + 1, none⟩ = some (.bool x.up) := by rw [hSw]; exact hX2.at 1 _ rfl
   clear hSw
   (try dsimp only at hSw)
   go_simp
   try with_reducible rfl
  refine tkH (i := 4) (oi := o158x28) (v := ?vh4) rfl ?hh4 zq ?rh4
  case hh4 => intro _ _; go_simp; try with_reducible rfl
  refine tkH (i := 5) (oi := o158x29) (v := ?vh5) rfl ?hh5 zq ?rh5
  case hh5 => intro _ _; go_simp; try with_reducible rfl
  refine skH (i := 6) (oi := o158x30) rfl zq ?_
  refine skH (i := 7) (oi := o158x31) rfl zq ?_
  refine skH (i := 8) (oi := o158x32) rfl zq ?_
  refine skH (i := 9) (oi := o158x33) rfl zq ?_
  refine skH (i := 10) (oi := o158x34) rfl zq ?_
  refine skH (i := 11) (oi := o158x35) rfl zq ?_
  refine skH (i := 12) (oi := o158x36) rfl zq ?_
  refine skH (i := 13) (oi := o158x37) rfl zq ?_
  refine skH (i := 14) (oi := o158x38) rfl zq ?_
  refine skH (i := 15) (oi := o158x39) rfl zq ?_
  refine skH (i := 16) (oi := o158x40) rfl zq ?_
  refine skH (i := 17) (oi := o158x41) rfl zq ?_
  refine skH (i := 18) (oi := o158x42) rfl zq ?_
  refine skH (i := 19) (oi := o158x43) rfl zq ?_
  refine skH (i := 20) (oi := o158x44) rfl zq ?_
  refine skH (i := 21) (oi := o158x45) rfl zq ?_
  refine skH (i := 22) (oi := o158x46) rfl zq ?_
  refine skH (i := 23) (oi := o158x47) rfl zq ?_
  refine skH (i := 24) (oi := o158x48) rfl zq ?_
  refine skH (i := 25) (oi := o158x49) rfl zq ?_
  refine skH (i := 26) (oi := o158x50) rfl zq ?_
  refine skH (i := 27) (oi := o158x51) rfl zq ?_
  refine skH (i := 28) (oi := o158x52) rfl zq ?_
  refine skH (i := 29) (oi := o158x53) rfl zq ?_
  refine tkH (i := 30) (oi := o158x54) (v := ?vh30) rfl ?hh30 zq ?rh30
  case hh30 => intro _ _; go_simp; try with_reducible rfl
  refine wpAnyH_done (by kernel_rfl) ?_ _
  refine NoPanic.normal ?_
  clear zq
  go_wp2_with fail
  go_ret
  exact ⟨by rw [uh HF3]; rfl, (uh HB).drew.drew⟩
 have hd : (wsFrom x.writes != 0) = true := by simpa using hs
 have HT : Hid (takenF x.writes = wsFrom x.writes) := by show takenF x.writes = _; rw [takenF, if_neg hn, if_pos hs]
 have HF1 := yh ((uh HF).trans (if_pos (by rw [uh HT]; exact hs)))
 rw [uh HT] at HF1
 clear HF HT hs HW
 generalize wsFrom x.writes = c at *
 go_wp2_with fail
 go_ret
 exact ⟨by rw [uh HF1]; rfl, Below.refl _ _⟩
theorem node10C (x : Int) (w : World) : Calls Tryz.prog 174 #[.int .i64 x] w fun e w' => e = .returned (.bool (decide (1 ≤ x) && decide (x ≤ 5))) ∧ w' = w := by
 go_enter Tryz.func174, Tryz.ntmps174
 go_wp2_with fail
 refine (inC x 1 5 _).mono ?_
 rintro e w1 ⟨rfl, rfl⟩
 go_wp2_with fail
 go_ret
 exact ⟨rfl, rfl⟩
theorem cf_epoch {x : DChain} (h : (decide (1 ≤ x.epoch) && decide (x.epoch ≤ 999)) = false) : chainFault x = 3 := by
 rw [chainFault, if_neg]
 simpa using h
theorem cf_len {x : DChain} (h : (decide (1 ≤ x.epoch) && decide (x.epoch ≤ 999)) = true) (hn : x.ids.length < 1 ∨ 5 < x.ids.length) : chainFault x = 2 := by
 rw [chainFault, if_pos (by simpa using h), if_neg (by omega)]
theorem cf_ids {x : DChain} (h : (decide (1 ≤ x.epoch) && decide (x.epoch ≤ 999)) = true) (hn : ¬ x.ids.length < 1) (hm : ¬ 5 < x.ids.length) : chainFault x = idsF (x.ids.take 0) (x.ids.drop 0) := by
 rw [chainFault, if_pos (by simpa using h), if_pos (by omega)]
 simp
def ChainAtO (w : World) (b o : Nat) (v : Value) (x : DChain) : Prop := w.cell? ⟨b, o, none⟩ = some (.int .i64 x.epoch) ∧ w.cell? ⟨b, o + 1, none⟩ = some v
theorem ChainAtO.later {w w' : World} {b o : Nat} {v : Value} {x : DChain} (h : ChainAtO w b o v x) (hb : Below w.heap.size w w') : ChainAtO w' b o v x := by
 have hl : b < w.heap.size := World.block_lt_of_cell? _ _ h.1
 exact ⟨(hb.cell (p := ⟨b, o, none⟩) hl).trans h.1, (hb.cell (p := ⟨b, o + 1, none⟩) hl).trans h.2⟩
theorem l10AtO (b o : Nat) (a : Option Addr) (d : Nat) (x : DChain) (id : Int) (w : World) (hX : ChainAtO w b o (.slice a x.ids.length d) x) (R : (Lay.sl Lay.int).Reads w [.slice a x.ids.length d] x.ids) :
  Calls Tryz.prog 131 #[.pointer (some ⟨b, o, none⟩), .int .i64 id] w fun e w' => e = .returned (.int .i64 (placeC x.ids id)) ∧ w' = w := by
 have x1 := hX.2
 have xl : b < w.heap.size := World.block_lt_of_cell? _ _ x1
 have hbig := R.big
 have H := yh R
 clear hX R
 generalize x.ids = ids at *
 go_enter Tryz.func131, Tryz.ntmps131
 go_wp2_with fail
 go_loop [5] (fun i => ∃ k : Nat, k ≤ ids.length ∧ i = .int .i64 k ∧ (∀ j (hj : j < ids.length), j < k → ids[j] ≠ id)) (fun i => ids.length - (intOf i).toNat)
 case atStart => exact ⟨0, Nat.zero_le _, rfl, fun j _ h => by omega⟩
 case round =>
  obtain ⟨k, hk, rfl, hz⟩ := hrel
  by_cases hlt : k < ids.length
  ·
   obtain ⟨b2, off, rfl, -⟩ := Lay.sl_addr (uh H) (by omega)
   have c1 := int_cell (uh H) hlt
   cases hq : (ids[k] == id)
   ·
    have HZ : Hid (∀ j (hj : j < ids.length), j < k + 1 → ids[j] ≠ id) := fun j hj hjk => by
     by_cases h2 : j < k
     ·
      exact hz j hj h2
     obtain rfl : j = k := by omega
     simpa using hq
    clear hz
    generalize ids[k] = z at *
    go_wp2_with fail
    go_round
    case rel => exact ⟨k + 1, by omega, by go_num, uh HZ⟩
    case measure => simp [intOf]; omega
   have HP := yh (placeC_at hlt (by simpa using hq) (fun j hj => hz j (by omega) hj))
   clear hz
   generalize ids[k] = z at *
   go_wp2_with fail
   go_ret
   exact ⟨by rw [uh HP]; rfl, rfl⟩
  obtain rfl : k = ids.length := by omega
  have HP := yh (placeC_none (id := id) (fun j hj => hz j hj hj))
  clear hz
  go_wp2_with fail
  go_ret
  exact ⟨by rw [uh HP]; rfl, rfl⟩
theorem l10FaultO (b o : Nat) (a : Option Addr) (d : Nat) (x : DChain) (w : World) (hX : ChainAtO w b o (.slice a x.ids.length d) x) (R : (Lay.sl Lay.int).Reads w [.slice a x.ids.length d] x.ids) :
  Calls Tryz.prog 168 #[.pointer (some ⟨b, o, none⟩)] w fun e w' => e = .returned (.int .i64 (chainFault x)) ∧ w' = w := by
 have x0 := hX.1
 have x1 := hX.2
 have xl : b < w.heap.size := World.block_lt_of_cell? _ _ x1
 have hbig := R.big
 have HX := yh hX
 have H := yh R
 clear hX R
 go_enter Tryz.func168, Tryz.ntmps168
 go_wp2_with fail
 refine (inC x.epoch 1 999 w).mono ?_
 rintro e w1 ⟨rfl, h1⟩
 subst w1
 cases d1 : (decide (1 ≤ x.epoch) && decide (x.epoch ≤ 999))
 ·
  have HF := yh (cf_epoch d1)
  clear d1
  go_wp2_with fail
  go_ret
  exact ⟨by rw [uh HF]; rfl, rfl⟩
 by_cases hn : x.ids.length < 1
 ·
  have HF := yh (cf_len d1 (Or.inl hn))
  have hd : decide ((x.ids.length : Int) < 1) = true := by simp; omega
  clear d1
  go_wp2_with fail
  go_ret
  exact ⟨by rw [uh HF]; rfl, rfl⟩
 have hd : decide ((x.ids.length : Int) < 1) = false := by simp; omega
 by_cases hm : 5 < x.ids.length
 ·
  have HF := yh (cf_len d1 (Or.inr hm))
  have hd2 : decide ((5 : Int) < (x.ids.length : Int)) = true := by simp; omega
  clear d1
  go_wp2_with fail
  go_ret
  exact ⟨by rw [uh HF]; rfl, rfl⟩
 have HF := yh (cf_ids d1 hn hm)
 have hd2 : decide ((5 : Int) < (x.ids.length : Int)) = false := by simp; omega
 clear d1
 go_wp2_with fail
 clear hd hd2
 go_loop [3] (fun i => ∃ k : Nat, k ≤ x.ids.length ∧ i = .int .i64 k ∧ chainFault x = idsF (x.ids.take k) (x.ids.drop k)) (fun i => x.ids.length - (intOf i).toNat)
 case atStart => exact ⟨0, Nat.zero_le _, rfl, uh HF⟩
 case round =>
  obtain ⟨k, hk, rfl, hz⟩ := hrel
  clear HF
  by_cases hlt : k < x.ids.length
  ·
   rw [idsF_step x.ids k hlt] at hz
   have hself := placeC_self hlt
   obtain ⟨b2, off, rfl, -⟩ := Lay.sl_addr (uh H) (by omega)
   have c1 := int_cell (uh H) hlt
   have HP := yh (l10AtO b o (some ⟨b2, off, none⟩) d x x.ids[k] w (uh HX) (uh H))
   have hdl : decide ((k : Int) < (x.ids.length : Int)) = true := by simp; omega
   have HZ := yh hz
   have HS := yh hself
   clear hz hself
   generalize x.ids[k] = z at *
   go_wp2_with fail
   refine (node10C z w).mono ?_
   rintro e w1 ⟨rfl, h1⟩
   subst w1
   cases d2 : (decide (1 ≤ z) && decide (z ≤ 5))
   ·
    have hz := uh HZ
    rw [if_neg (by simpa using d2)] at hz
    have HF := yh hz
    clear d2 HZ HS hz
    go_wp2_with fail
    go_ret
    exact ⟨by rw [uh HF]; rfl, rfl⟩
   have hz := uh HZ
   rw [if_pos (by simpa using d2)] at hz
   have HZ2 := yh hz
   clear d2 HZ hz
   go_wp2_with fail
   refine (uh HP).mono ?_
   rintro e w1 ⟨rfl, h1⟩
   subst w1
   clear HP
   by_cases hq : placeC x.ids z = (k : Int)
   ·
    have hz := uh HZ2
    rw [if_neg ((uh HS).1 hq)] at hz
    have HF := yh hz
    have hb : (placeC x.ids z != (k : Int)) = false := by rw [hq]; simp
    clear HZ2 HS hz hq
    generalize placeC x.ids z = p at *
    go_wp2_with fail
    go_round
    case rel => exact ⟨k + 1, by omega, by go_num, uh HF⟩
    case measure => simp [intOf]; omega
   have hz := uh HZ2
   rw [if_pos (Classical.not_not.1 fun hc => hq ((uh HS).2 hc))] at hz
   have HF := yh hz
   have hb : (placeC x.ids z != (k : Int)) = true := by rw [bne_iff_ne]; exact hq
   clear HZ2 HS hz hq
   generalize placeC x.ids z = p at *
   go_wp2_with fail
   go_ret
   exact ⟨by rw [uh HF]; rfl, rfl⟩
  obtain rfl : k = x.ids.length := by omega
  rw [idsF_end] at hz
  have hdl : decide ((x.ids.length : Int) < (x.ids.length : Int)) = false := by simp
  have HF := yh hz
  clear hz
  go_wp2_with fail
  go_ret
  exact ⟨by rw [uh HF]; rfl, rfl⟩
abbrev o163x1 : Oper := ⟨some 34, .move (.tmp 4), 113, "l12_world.go:18", #[], none⟩
abbrev o163x2 : Oper := ⟨some 35, .nilCheck (.tmp 34), 0, "l12_world.go:18", #[⟨0, .data⟩], none⟩
abbrev o163x3 : Oper := ⟨some 36, .fieldAddr 84 (.tmp 35) 2, 0, "l12_world.go:18", #[⟨1, .data⟩], none⟩
abbrev o163x4 : Oper := ⟨some 37, .load 2 (.tmp 36), 2, "l12_world.go:18", #[⟨2, .data⟩], none⟩
abbrev o163x5 : Oper := ⟨some 38, .move (.tmp 0), 76, "l12_world.go:18", #[], none⟩
abbrev o163x6 : Oper := ⟨some 39, .nilCheck (.tmp 38), 0, "l12_world.go:18", #[⟨4, .data⟩], none⟩
abbrev o163x7 : Oper := ⟨some 40, .fieldAddr 36 (.tmp 39) 2, 0, "l12_world.go:18", #[⟨5, .data⟩], none⟩
abbrev o163x8 : Oper := ⟨some 41, .fieldAddr 31 (.tmp 40) 0, 0, "l12_world.go:18", #[⟨6, .data⟩], none⟩
abbrev o163x9 : Oper := ⟨some 42, .load 2 (.tmp 41), 2, "l12_world.go:18", #[⟨7, .data⟩], none⟩
abbrev o163x10 : Oper := ⟨some 43, .binOp .gtr 2 (.tmp 37) (.tmp 42) 2, 4, "l12_world.go:18", #[⟨3, .data⟩, ⟨8, .data⟩], none⟩
abbrev o163x11 : Oper := ⟨some 44, .move (.tmp 43), 4, "l12_world.go:18", #[⟨9, .data⟩], none⟩
abbrev o163x12 : Oper := ⟨some 45, .move (.tmp 4), 113, "l12_world.go:18", #[⟨10, .guard⟩], some (10, false)⟩
abbrev o163x13 : Oper := ⟨some 46, .nilCheck (.tmp 45), 0, "l12_world.go:18", #[⟨11, .data⟩, ⟨10, .guard⟩], some (10, false)⟩
abbrev o163x14 : Oper := ⟨some 47, .fieldAddr 84 (.tmp 46) 1, 0, "l12_world.go:18", #[⟨12, .data⟩, ⟨10, .guard⟩], some (10, false)⟩
abbrev o163x15 : Oper := ⟨some 48, .load 4 (.tmp 47), 4, "l12_world.go:18", #[⟨13, .data⟩, ⟨10, .guard⟩], some (10, false)⟩
abbrev o163x16 : Oper := ⟨some 49, .move (.tmp 48), 4, "l12_world.go:18", #[⟨14, .data⟩, ⟨10, .chain⟩, ⟨10, .guard⟩], some (10, false)⟩
abbrev o163x17 : Oper := ⟨some 50, .move (.tmp 0), 76, "l12_world.go:18", #[⟨15, .guard⟩], some (15, true)⟩
abbrev o163x18 : Oper := ⟨some 51, .nilCheck (.tmp 50), 0, "l12_world.go:18", #[⟨16, .data⟩, ⟨15, .guard⟩], some (15, true)⟩
abbrev o163x19 : Oper := ⟨some 52, .fieldAddr 36 (.tmp 51) 2, 0, "l12_world.go:18", #[⟨17, .data⟩, ⟨15, .guard⟩], some (15, true)⟩
abbrev o163x20 : Oper := ⟨some 53, .move (.tmp 4), 113, "l12_world.go:18", #[⟨15, .guard⟩], some (15, true)⟩
abbrev o163x21 : Oper := ⟨some 54, .nilCheck (.tmp 53), 0, "l12_world.go:18", #[⟨19, .data⟩, ⟨15, .guard⟩], some (15, true)⟩
abbrev o163x22 : Oper := ⟨some 55, .fieldAddr 84 (.tmp 54) 0, 0, "l12_world.go:18", #[⟨20, .data⟩, ⟨15, .guard⟩], some (15, true)⟩
abbrev o163x23 : Oper := ⟨some 56, .load 2 (.tmp 55), 2, "l12_world.go:18", #[⟨21, .data⟩, ⟨15, .guard⟩], some (15, true)⟩
abbrev o163x24 : Oper := ⟨some 57, .call { callee := .value (.func 131), args := #[.tmp 52, .tmp 56], argTypes := #[80, 2] }, 3, "l12_world.go:18", #[⟨18, .data⟩, ⟨22, .data⟩, ⟨15, .chain⟩, ⟨15, .guard⟩], some (15, true)⟩
abbrev o163x25 : Oper := ⟨some 58, .binOp .geq 3 (.tmp 57) (.const (.int .i64 0)) 3, 4, "l12_world.go:18", #[⟨23, .data⟩, ⟨15, .guard⟩], some (15, true)⟩
abbrev o163x26 : Oper := ⟨some 59, .pick (.tmp 49) (.tmp 58) (.const (.bool false)), 4, "l12_world.go:18", #[⟨15, .data⟩, ⟨24, .data⟩, ⟨10, .guard⟩], some (10, false)⟩
abbrev o163x27 : Oper := ⟨some 60, .move (.tmp 59), 4, "l12_world.go:18", #[⟨25, .data⟩, ⟨23, .chain⟩, ⟨10, .guard⟩], some (10, false)⟩
abbrev o163x28 : Oper := ⟨some 61, .move (.tmp 4), 113, "l12_world.go:18", #[⟨26, .guard⟩], some (26, true)⟩
abbrev o163x29 : Oper := ⟨some 62, .nilCheck (.tmp 61), 0, "l12_world.go:18", #[⟨27, .data⟩, ⟨26, .guard⟩], some (26, true)⟩
abbrev o163x30 : Oper := ⟨some 63, .fieldAddr 84 (.tmp 62) 2, 0, "l12_world.go:18", #[⟨28, .data⟩, ⟨26, .guard⟩], some (26, true)⟩
abbrev o163x31 : Oper := ⟨some 64, .load 2 (.tmp 63), 2, "l12_world.go:18", #[⟨29, .data⟩, ⟨26, .guard⟩], some (26, true)⟩
abbrev o163x32 : Oper := ⟨some 65, .move (.tmp 0), 76, "l12_world.go:18", #[⟨26, .guard⟩], some (26, true)⟩
abbrev o163x33 : Oper := ⟨some 66, .nilCheck (.tmp 65), 0, "l12_world.go:18", #[⟨31, .data⟩, ⟨26, .guard⟩], some (26, true)⟩
abbrev o163x34 : Oper := ⟨some 67, .fieldAddr 36 (.tmp 66) 2, 0, "l12_world.go:18", #[⟨32, .data⟩, ⟨26, .guard⟩], some (26, true)⟩
abbrev o163x35 : Oper := ⟨some 68, .fieldAddr 31 (.tmp 67) 0, 0, "l12_world.go:18", #[⟨33, .data⟩, ⟨26, .guard⟩], some (26, true)⟩
abbrev o163x36 : Oper := ⟨some 69, .load 2 (.tmp 68), 2, "l12_world.go:18", #[⟨34, .data⟩, ⟨26, .guard⟩], some (26, true)⟩
abbrev o163x37 : Oper := ⟨some 70, .binOp .neq 2 (.tmp 64) (.tmp 69) 2, 4, "l12_world.go:18", #[⟨30, .data⟩, ⟨35, .data⟩, ⟨26, .guard⟩], some (26, true)⟩
abbrev o163x38 : Oper := ⟨some 71, .pick (.tmp 60) (.tmp 70) (.const (.bool false)), 4, "l12_world.go:18", #[⟨26, .data⟩, ⟨36, .data⟩, ⟨10, .guard⟩], some (10, false)⟩
abbrev o163x39 : Oper := ⟨some 72, .pick (.tmp 44) (.const (.bool true)) (.tmp 71), 4, "l12_world.go:18", #[⟨10, .data⟩, ⟨37, .data⟩], none⟩
theorem nodesF_dropS (c : DChain) {xs : List DNode} {k : Nat} (hk : k < xs.length) : nodesF c k (xs.drop k) = if nodeFault xs[k] ≠ 0 then nodeFault xs[k] else if (xs[k].id != (k : Int) + 1) = true then 1 else if (decide (c.epoch < xs[k].epoch) || ((xs[k].up && decide (0 ≤ placeC c.ids xs[k].id)) && (xs[k].epoch != c.epoch))) = true then 7 else nodesF c (k + 1) (xs.drop (k + 1)) := by
 rw [List.drop_eq_getElem_cons hk, nodesF]
 by_cases h1 : nodeFault xs[k] ≠ 0
 ·
  rw [if_pos h1, if_pos h1]
 rw [if_neg h1, if_neg h1]
 by_cases h2 : xs[k].id ≠ (k : Int) + 1
 ·
  have b2 : (xs[k].id != (k : Int) + 1) = true := by simpa using h2
  rw [if_pos h2, b2, if_pos rfl]
 have b2 : (xs[k].id != (k : Int) + 1) = false := by simpa using h2
 rw [if_neg h2, b2, if_neg (show ¬ (false = true) by simp)]
 by_cases h3 : c.epoch < xs[k].epoch ∨ (xs[k].up = true ∧ 0 ≤ placeC c.ids xs[k].id ∧ xs[k].epoch ≠ c.epoch)
 ·
  have b3 : (decide (c.epoch < xs[k].epoch) || ((xs[k].up && decide (0 ≤ placeC c.ids xs[k].id)) && (xs[k].epoch != c.epoch))) = true := by
   rcases h3 with h3 | ⟨h4, h5, h6⟩
   ·
    simp [h3]
   simp [h4, h5, h6]
  rw [if_pos h3, b3, if_pos rfl]
 rw [if_neg h3, if_neg]
 intro q
 apply h3
 simp only [Bool.or_eq_true, Bool.and_eq_true, decide_eq_true_eq, bne_iff_ne] at q
 rcases q with q | ⟨⟨q1, q2⟩, q3⟩
 ·
  exact Or.inl q
 exact Or.inr ⟨q1, q2, q3⟩
theorem l12NodesC (a3 : Option Addr) (d3 : Nat) (a4 : Option Addr) (d4 : Nat) (a5 : Option Addr) (d5 : Nat) (a6 : Option Addr) (d6 : Nat) (x : DWorld) (xb : Nat) (w : World) (hX : Box 0 #[.int .i64 x.now, .int .i64 x.events, .int .i64 x.chain.epoch, .slice a3 x.chain.ids.length d3, .slice a4 x.nodes.length d4, .slice a5 x.msgs.length d5, .slice a6 x.history.length d6] 36 w xb) (h : Lay.tWorld.Reads w [.int .i64 x.now, .int .i64 x.events, .int .i64 x.chain.epoch, .slice a3 x.chain.ids.length d3, .slice a4 x.nodes.length d4, .slice a5 x.msgs.length d5, .slice a6 x.history.length d6] x) :
  Calls Tryz.prog 179 #[.pointer (some ⟨xb, 0, none⟩)] w fun e w' => e = .returned (.int .i64 (nodesFault x)) ∧ Below w.heap.size w w' := by
 obtain ⟨_, _, _, _, _, _, _, _, hq, RC, RN, -, -⟩ := open_World h
 simp only [List.cons.injEq, Value.slice.injEq, and_true, true_and] at hq
 obtain ⟨⟨rfl, rfl⟩, ⟨rfl, rfl⟩, ⟨rfl, rfl⟩, rfl, rfl⟩ := hq
 obtain ⟨_, _, hq, RI⟩ := open_Chain RC
 simp only [List.cons.injEq, Value.slice.injEq, and_true, true_and] at hq
 obtain ⟨rfl, rfl⟩ := hq
 have hbig := RI.big
 have hbn := RN.big
 have HI := yh RI
 have HN := yh RN
 have HX := yh hX
 have HQ : Hid (nodesFault x = if nodesF x.chain 0 (x.nodes.drop 0) ≠ 0 then nodesF x.chain 0 (x.nodes.drop 0) else if (x.chain.ids.drop 0).all (nodeIn x) = true then 0 else 4) := by
  show nodesFault x = _
  unfold nodesFault
  rfl
 have HV : Hid (∀ n, nodesF x.chain 0 (x.nodes.drop 0) = n → n ≠ 0 → nodesFault x = n) := fun n h1 h2 => by rw [uh HQ, h1, if_pos h2]
 have HV0 : Hid (nodesF x.chain 0 (x.nodes.drop 0) = 0 → nodesFault x = if (x.chain.ids.drop 0).all (nodeIn x) = true then 0 else 4) := fun h1 => by rw [uh HQ, h1]; rfl
 clear RC RN RI h hX HQ
 generalize nodesFault x = r at *
 generalize hF0 : nodesF x.chain 0 (x.nodes.drop 0) = f0 at *
 replace hF0 := hF0.symm
 go_enter Tryz.func179, Tryz.ntmps179
 go_wp2_with fail
 go_loopw [3] (fun i wr => ∃ k : Nat, k ≤ x.nodes.length ∧ i = .int .i64 k ∧ f0 = nodesF x.chain k (x.nodes.drop k) ∧ Below w.heap.size w wr) (fun i _ => x.nodes.length - (intOf i).toNat)
 case atStart => exact ⟨0, Nat.zero_le _, rfl, hF0, Below.refl _ _⟩
 case round =>
  obtain ⟨k, hk, rfl, hF, hB⟩ := hrel
  clear hF0
  have hX1 := (uh HX).keep hB
  have v2 := Box.at hX1 2 _ rfl
  have v3 := Box.at hX1 4 _ rfl
  have w3 := Box.at hX1 3 _ rfl
  simp only [ga, gb, gc] at v2 v3 w3
  have xl := hX1.lt
  have HX1 := yh hX1
  clear hX1 w3
  by_cases hlt : k < x.nodes.length
  ·
   obtain ⟨b, off, rfl, hbl⟩ := Lay.sl_addr (uh HN) (by omega)
   obtain ⟨row, hcl, hr⟩ := Lay.row_at (uh HN) hlt
   replace hr := hr.later hB
   rw [nodesF_dropS x.chain hlt] at hF
   have hdl : decide ((k : Int) < (x.nodes.length : Int)) = true := by simp; omega
   have hrl := hr.len
   obtain ⟨a4n, d4n, rfl, RW⟩ := open_Node hr
   have hRI : RowIn #[.int .i64 (x.nodes[k]).id, .bool (x.nodes[k]).up, .int .i64 (x.nodes[k]).epoch, .int .i64 (x.nodes[k]).lease, .slice a4n (x.nodes[k]).writes.length d4n, .int .i64 (x.nodes[k]).sure, .int .i64 (x.nodes[k]).clean] wr b (off + k * 7) := RowIn.ofRow (A := Lay.tNode) (k := k) (fun m hm => (hB.cell (p := ⟨b, off + k * 7 + m, none⟩) hbl).trans (hcl m hm)) hrl (Nat.lt_of_lt_of_le hbl hB.size)
   have hI := (uh HI).later hB
   have HL := yh (l9FaultO b (off + k * 7) a4n d4n _ wr hRI RW)
   have HRI := yh hRI
   have HB := yh hB
   have HF := yh hF
   have HI1 := yh hI
   clear hF hB hr hrl hcl hRI hI RW
   generalize hx : x.nodes[k] = n at *
   clear hx
   go_wp2_with fail
   refine (uh HL).mono ?_
   rintro e w5 ⟨rfl, hb⟩
   replace HX1 := yh ((uh HX1).keep hb)
   replace HRI := yh ((uh HRI).keep hb)
   replace HI1 := yh ((uh HI1).later hb)
   replace HB := yh ((uh HB).trans (hb.mono (uh HB).size))
   clear hb HL v2 v3
   by_cases e1 : nodeFault n ≠ 0
   ·
    have hd : (nodeFault n != 0) = true := by simpa using e1
    have HE := yh (uh HV _ ((uh HF).trans (if_pos e1)) e1)
    clear e1
    generalize nodeFault n = c at *
    go_wp2_with fail
    go_ret
    exact ⟨by rw [uh HE]; rfl, uh HB⟩
   replace HF := yh ((uh HF).trans (if_neg e1))
   have hd : nodeFault n = 0 := by simpa using e1
   clear e1
   rw [hd]
   clear hd
   have HB0 := HB
   replace HB := yh (uh HB).drew
   have z0' := (uh HRI).at 0 _ rfl
   have z0 := (uh HRI).drew.at 0 _ rfl
   have z1 := (uh HRI).drew.at 1 _ rfl
   have z2 := (uh HRI).drew.at 2 _ rfl
   have y2 := Box.at (uh HX1).drew 2 _ rfl
   simp only [List.getElem_toArray, List.getElem_cons_zero, List.getElem_cons_succ, Nat.add_zero] at z0' z0 z1 z2 y2
   have xl5 := (uh HX1).lt
   have rl5 := (uh HRI).lt
   have LA : Hid (Calls Tryz.prog 131 #[.pointer (some ⟨xb, 2, none⟩), .int .i64 n.id] w5.drew fun e w' => e = .returned (.int .i64 (placeC x.chain.ids n.id)) ∧ w' = w5.drew) := l10AtO xb 2 _ _ x.chain n.id w5.drew ⟨(uh HX1).drew.at 2 _ rfl, (uh HX1).drew.at 3 _ rfl⟩ ((uh HI1).drew 1)
   generalize hid : n.id = id at *
   cases e2 : (id != (k : Int) + 1)
   ·
    replace HF := yh ((uh HF).trans (if_neg (by rw [e2]; simp)))
    clear hid
    generalize hup : n.up = up at *
    generalize hep : n.epoch = ep at *
    generalize hce : x.chain.epoch = ce at *
    generalize placeC x.chain.ids id = p at *
    clear hup hep hce
    cases e3 : decide (ce < ep)
    ·
     cases up
     ·
      replace HF := yh ((uh HF).trans (if_neg (by rw [e3]; simp)))
      go_wp2_with fail
      refine wp_region_noPanic ?_
      refine wp_region_held_drew (S := fun w' => w' = w5.drew) (by kernel_rfl) rfl (fun zq => ?_)
      generalize w5.drew = wD at zq z0 z1 z2 y2 HB LA ⊢
      refine tkH (i := 0) (oi := o163x1) (v := ?vq1_0) rfl ?hq1_0 zq ?rq1_0
      case hq1_0 =>
       intro wS hSw
       subst hSw
       (try dsimp only at hSw)
       go_simp
       try with_reducible rfl
      refine tkH (i := 1) (oi := o163x2) (v := ?vq1_1) rfl ?hq1_1 zq ?rq1_1
      case hq1_1 =>
       intro wS hSw
       subst hSw
       (try dsimp only at hSw)
       go_simp
       try with_reducible rfl
      refine tkH (i := 2) (oi := o163x3) (v := ?vq1_2) rfl ?hq1_2 zq ?rq1_2
      case hq1_2 =>
       intro wS hSw
       subst hSw
       (try dsimp only at hSw)
       go_simp
       try with_reducible rfl
      refine tkH (i := 3) (oi := o163x4) (v := ?vq1_3) rfl ?hq1_3 zq ?rq1_3
      case hq1_3 =>
       intro wS hSw
       subst hSw
       (try dsimp only at hSw)
       go_simp
       try with_reducible rfl
      refine tkH (i := 4) (oi := o163x5) (v := ?vq1_4) rfl ?hq1_4 zq ?rq1_4
      case hq1_4 =>
       intro wS hSw
       subst hSw
       (try dsimp only at hSw)
       go_simp
       try with_reducible rfl
      refine tkH (i := 5) (oi := o163x6) (v := ?vq1_5) rfl ?hq1_5 zq ?rq1_5
      case hq1_5 =>
       intro wS hSw
       subst hSw
       (try dsimp only at hSw)
       go_simp
       try with_reducible rfl
      refine tkH (i := 6) (oi := o163x7) (v := ?vq1_6) rfl ?hq1_6 zq ?rq1_6
      case hq1_6 =>
       intro wS hSw
       subst hSw
       (try dsimp only at hSw)
       go_simp
       try with_reducible rfl
      refine tkH (i := 7) (oi := o163x8) (v := ?vq1_7) rfl ?hq1_7 zq ?rq1_7
      case hq1_7 =>
       intro wS hSw
       subst hSw
       (try dsimp only at hSw)
       go_simp
       try with_reducible rfl
      refine tkH (i := 8) (oi := o163x9) (v := ?vq1_8) rfl ?hq1_8 zq ?rq1_8
      case hq1_8 =>
       intro wS hSw
       subst hSw
       (try dsimp only at hSw)
       go_simp
       try with_reducible rfl
      refine tkH (i := 9) (oi := o163x10) (v := ?vq1_9) rfl ?hq1_9 zq ?rq1_9
      case hq1_9 =>
       intro wS hSw
       subst hSw
       (try dsimp only at hSw)
       go_simp
       try with_reducible rfl
      refine tkH (i := 10) (oi := o163x11) (v := ?vq1_10) rfl ?hq1_10 zq ?rq1_10
      case hq1_10 =>
       intro wS hSw
       subst hSw
       (try dsimp only at hSw)
       go_simp
       try with_reducible rfl
      refine tkH (i := 11) (oi := o163x12) (v := ?vq1_11) rfl ?hq1_11 zq ?rq1_11
      case hq1_11 =>
       intro wS hSw
       subst hSw
       (try dsimp only at hSw)
       go_simp
       try with_reducible rfl
      refine tkH (i := 12) (oi := o163x13) (v := ?vq1_12) rfl ?hq1_12 zq ?rq1_12
      case hq1_12 =>
       intro wS hSw
       subst hSw
       (try dsimp only at hSw)
       go_simp
       try with_reducible rfl
      refine tkH (i := 13) (oi := o163x14) (v := ?vq1_13) rfl ?hq1_13 zq ?rq1_13
      case hq1_13 =>
       intro wS hSw
       subst hSw
       (try dsimp only at hSw)
       go_simp
       try with_reducible rfl
      refine tkH (i := 14) (oi := o163x15) (v := ?vq1_14) rfl ?hq1_14 zq ?rq1_14
      case hq1_14 =>
       intro wS hSw
       subst hSw
       (try dsimp only at hSw)
       go_simp
       try with_reducible rfl
      refine tkH (i := 15) (oi := o163x16) (v := ?vq1_15) rfl ?hq1_15 zq ?rq1_15
      case hq1_15 =>
       intro wS hSw
       subst hSw
       (try dsimp only at hSw)
       go_simp
       try with_reducible rfl
      refine skH (i := 16) (oi := o163x17) rfl zq ?_
      refine skH (i := 17) (oi := o163x18) rfl zq ?_
      refine skH (i := 18) (oi := o163x19) rfl zq ?_
      refine skH (i := 19) (oi := o163x20) rfl zq ?_
      refine skH (i := 20) (oi := o163x21) rfl zq ?_
      refine skH (i := 21) (oi := o163x22) rfl zq ?_
      refine skH (i := 22) (oi := o163x23) rfl zq ?_
      refine skH (i := 23) (oi := o163x24) rfl zq ?_
      refine skH (i := 24) (oi := o163x25) rfl zq ?_
      refine tkH (i := 25) (oi := o163x26) (v := ?vq1_25) rfl ?hq1_25 zq ?rq1_25
      case hq1_25 =>
       intro wS hSw
       subst hSw
       (try dsimp only at hSw)
       go_simp
       try with_reducible rfl
      refine tkH (i := 26) (oi := o163x27) (v := ?vq1_26) rfl ?hq1_26 zq ?rq1_26
      case hq1_26 =>
       intro wS hSw
       subst hSw
       (try dsimp only at hSw)
       go_simp
       try with_reducible rfl
      refine skH (i := 27) (oi := o163x28) rfl zq ?_
      refine skH (i := 28) (oi := o163x29) rfl zq ?_
      refine skH (i := 29) (oi := o163x30) rfl zq ?_
      refine skH (i := 30) (oi := o163x31) rfl zq ?_
      refine skH (i := 31) (oi := o163x32) rfl zq ?_
      refine skH (i := 32) (oi := o163x33) rfl zq ?_
      refine skH (i := 33) (oi := o163x34) rfl zq ?_
      refine skH (i := 34) (oi := o163x35) rfl zq ?_
      refine skH (i := 35) (oi := o163x36) rfl zq ?_
      refine skH (i := 36) (oi := o163x37) rfl zq ?_
      refine tkH (i := 37) (oi := o163x38) (v := ?vq1_37) rfl ?hq1_37 zq ?rq1_37
      case hq1_37 =>
       intro wS hSw
       subst hSw
       (try dsimp only at hSw)
       go_simp
       try with_reducible rfl
      refine tkH (i := 38) (oi := o163x39) (v := ?vq1_38) rfl ?hq1_38 zq ?rq1_38
      case hq1_38 =>
       intro wS hSw
       subst hSw
       (try dsimp only at hSw)
       go_simp
       try with_reducible rfl
      refine wpAnyH_done (by kernel_rfl) ?_ _
      refine NoPanic.normal ?_
      clear zq
      go_wp2_with fail
      go_roundw
      case rel => exact ⟨k + 1, by omega, by go_num, uh HF, uh HB⟩
      case measure => simp [intOf]; omega
     cases e4 : decide (0 ≤ p)
     ·
      replace HF := yh ((uh HF).trans (if_neg (by rw [e3, e4]; simp)))
      go_wp2_with fail
      refine wp_region_noPanic ?_
      refine wp_region_held_drew (S := fun w' => w' = w5.drew) (by kernel_rfl) rfl (fun zq => ?_)
      generalize w5.drew = wD at zq z0 z1 z2 y2 HB LA ⊢
      refine tkH (i := 0) (oi := o163x1) (v := ?vq2_0) rfl ?hq2_0 zq ?rq2_0
      case hq2_0 =>
       intro wS hSw
       subst hSw
       (try dsimp only at hSw)
       go_simp
       try with_reducible rfl
      refine tkH (i := 1) (oi := o163x2) (v := ?vq2_1) rfl ?hq2_1 zq ?rq2_1
      case hq2_1 =>
       intro wS hSw
       subst hSw
       (try dsimp only at hSw)
       go_simp
       try with_reducible rfl
      refine tkH (i := 2) (oi := o163x3) (v := ?vq2_2) rfl ?hq2_2 zq ?rq2_2
      case hq2_2 =>
       intro wS hSw
       subst hSw
       (try dsimp only at hSw)
       go_simp
       try with_reducible rfl
      refine tkH (i := 3) (oi := o163x4) (v := ?vq2_3) rfl ?hq2_3 zq ?rq2_3
      case hq2_3 =>
       intro wS hSw
       subst hSw
       (try dsimp only at hSw)
       go_simp
       try with_reducible rfl
      refine tkH (i := 4) (oi := o163x5) (v := ?vq2_4) rfl ?hq2_4 zq ?rq2_4
      case hq2_4 =>
       intro wS hSw
       subst hSw
       (try dsimp only at hSw)
       go_simp
       try with_reducible rfl
      refine tkH (i := 5) (oi := o163x6) (v := ?vq2_5) rfl ?hq2_5 zq ?rq2_5
      case hq2_5 =>
       intro wS hSw
       subst hSw
       (try dsimp only at hSw)
       go_simp
       try with_reducible rfl
      refine tkH (i := 6) (oi := o163x7) (v := ?vq2_6) rfl ?hq2_6 zq ?rq2_6
      case hq2_6 =>
       intro wS hSw
       subst hSw
       (try dsimp only at hSw)
       go_simp
       try with_reducible rfl
      refine tkH (i := 7) (oi := o163x8) (v := ?vq2_7) rfl ?hq2_7 zq ?rq2_7
      case hq2_7 =>
       intro wS hSw
       subst hSw
       (try dsimp only at hSw)
       go_simp
       try with_reducible rfl
      refine tkH (i := 8) (oi := o163x9) (v := ?vq2_8) rfl ?hq2_8 zq ?rq2_8
      case hq2_8 =>
       intro wS hSw
       subst hSw
       (try dsimp only at hSw)
       go_simp
       try with_reducible rfl
      refine tkH (i := 9) (oi := o163x10) (v := ?vq2_9) rfl ?hq2_9 zq ?rq2_9
      case hq2_9 =>
       intro wS hSw
       subst hSw
       (try dsimp only at hSw)
       go_simp
       try with_reducible rfl
      refine tkH (i := 10) (oi := o163x11) (v := ?vq2_10) rfl ?hq2_10 zq ?rq2_10
      case hq2_10 =>
       intro wS hSw
       subst hSw
       (try dsimp only at hSw)
       go_simp
       try with_reducible rfl
      refine tkH (i := 11) (oi := o163x12) (v := ?vq2_11) rfl ?hq2_11 zq ?rq2_11
      case hq2_11 =>
       intro wS hSw
       subst hSw
       (try dsimp only at hSw)
       go_simp
       try with_reducible rfl
      refine tkH (i := 12) (oi := o163x13) (v := ?vq2_12) rfl ?hq2_12 zq ?rq2_12
      case hq2_12 =>
       intro wS hSw
       subst hSw
       (try dsimp only at hSw)
       go_simp
       try with_reducible rfl
      refine tkH (i := 13) (oi := o163x14) (v := ?vq2_13) rfl ?hq2_13 zq ?rq2_13
      case hq2_13 =>
       intro wS hSw
       subst hSw
       (try dsimp only at hSw)
       go_simp
       try with_reducible rfl
      refine tkH (i := 14) (oi := o163x15) (v := ?vq2_14) rfl ?hq2_14 zq ?rq2_14
      case hq2_14 =>
       intro wS hSw
       subst hSw
       (try dsimp only at hSw)
       go_simp
       try with_reducible rfl
      refine tkH (i := 15) (oi := o163x16) (v := ?vq2_15) rfl ?hq2_15 zq ?rq2_15
      case hq2_15 =>
       intro wS hSw
       subst hSw
       (try dsimp only at hSw)
       go_simp
       try with_reducible rfl
      refine tkH (i := 16) (oi := o163x17) (v := ?vq2_16) rfl ?hq2_16 zq ?rq2_16
      case hq2_16 =>
       intro wS hSw
       subst hSw
       (try dsimp only at hSw)
       go_simp
       try with_reducible rfl
      refine tkH (i := 17) (oi := o163x18) (v := ?vq2_17) rfl ?hq2_17 zq ?rq2_17
      case hq2_17 =>
       intro wS hSw
       subst hSw
       (try dsimp only at hSw)
       go_simp
       try with_reducible rfl
      refine tkH (i := 18) (oi := o163x19) (v := ?vq2_18) rfl ?hq2_18 zq ?rq2_18
      case hq2_18 =>
       intro wS hSw
       subst hSw
       (try dsimp only at hSw)
       go_simp
       try with_reducible rfl
      refine tkH (i := 19) (oi := o163x20) (v := ?vq2_19) rfl ?hq2_19 zq ?rq2_19
      case hq2_19 =>
       intro wS hSw
       subst hSw
       (try dsimp only at hSw)
       go_simp
       try with_reducible rfl
      refine tkH (i := 20) (oi := o163x21) (v := ?vq2_20) rfl ?hq2_20 zq ?rq2_20
      case hq2_20 =>
       intro wS hSw
       subst hSw
       (try dsimp only at hSw)
       go_simp
       try with_reducible rfl
      refine tkH (i := 21) (oi := o163x22) (v := ?vq2_21) rfl ?hq2_21 zq ?rq2_21
      case hq2_21 =>
       intro wS hSw
       subst hSw
       (try dsimp only at hSw)
       go_simp
       try with_reducible rfl
      refine tkH (i := 22) (oi := o163x23) (v := ?vq2_22) rfl ?hq2_22 zq ?rq2_22
      case hq2_22 =>
       intro wS hSw
       subst hSw
       (try dsimp only at hSw)
       go_simp
       try with_reducible rfl
      refine rdH (i := 23) (oi := o163x24) rfl (fun K hK => ?_)
      go_simp
      go_at_call 131
      refine (uh LA).mono ?_
      rintro e u1 ⟨rfl, h1⟩
      subst u1
      try go_wp2_with fail
      refine hK.out _ _ rfl (fun zq => ?_)
      clear hK K
      try simp only [Act.put, pz, py, px]
      refine tkH (i := 24) (oi := o163x25) (v := ?vq2_24) rfl ?hq2_24 zq ?rq2_24
      case hq2_24 =>
       intro wS hSw
       subst hSw
       (try dsimp only at hSw)
       go_simp
       try with_reducible rfl
      refine tkH (i := 25) (oi := o163x26) (v := ?vq2_25) rfl ?hq2_25 zq ?rq2_25
      case hq2_25 =>
       intro wS hSw
       subst hSw
       (try dsimp only at hSw)
       go_simp
       try with_reducible rfl
      refine tkH (i := 26) (oi := o163x27) (v := ?vq2_26) rfl ?hq2_26 zq ?rq2_26
      case hq2_26 =>
       intro wS hSw
       subst hSw
       (try dsimp only at hSw)
       go_simp
       try with_reducible rfl
      refine skH (i := 27) (oi := o163x28) rfl zq ?_
      refine skH (i := 28) (oi := o163x29) rfl zq ?_
      refine skH (i := 29) (oi := o163x30) rfl zq ?_
      refine skH (i := 30) (oi := o163x31) rfl zq ?_
      refine skH (i := 31) (oi := o163x32) rfl zq ?_
      refine skH (i := 32) (oi := o163x33) rfl zq ?_
      refine skH (i := 33) (oi := o163x34) rfl zq ?_
      refine skH (i := 34) (oi := o163x35) rfl zq ?_
      refine skH (i := 35) (oi := o163x36) rfl zq ?_
      refine skH (i := 36) (oi := o163x37) rfl zq ?_
      refine tkH (i := 37) (oi := o163x38) (v := ?vq2_37) rfl ?hq2_37 zq ?rq2_37
      case hq2_37 =>
       intro wS hSw
       subst hSw
       (try dsimp only at hSw)
       go_simp
       try with_reducible rfl
      refine tkH (i := 38) (oi := o163x39) (v := ?vq2_38) rfl ?hq2_38 zq ?rq2_38
      case hq2_38 =>
       intro wS hSw
       subst hSw
       (try dsimp only at hSw)
       go_simp
       try with_reducible rfl
      refine wpAnyH_done (by kernel_rfl) ?_ _
      refine NoPanic.normal ?_
      clear zq
      go_wp2_with fail
      go_roundw
      case rel => exact ⟨k + 1, by omega, by go_num, uh HF, uh HB⟩
      case measure => simp [intOf]; omega
     cases e5 : (ep != ce)
     ·
      replace HF := yh ((uh HF).trans (if_neg (by rw [e3, e4, e5]; simp)))
      go_wp2_with fail
      refine wp_region_noPanic ?_
      refine wp_region_held_drew (S := fun w' => w' = w5.drew) (by kernel_rfl) rfl (fun zq => ?_)
      generalize w5.drew = wD at zq z0 z1 z2 y2 HB LA ⊢
      refine tkH (i := 0) (oi := o163x1) (v := ?vq3_0) rfl ?hq3_0 zq ?rq3_0
      case hq3_0 =>
       intro wS hSw
       subst hSw
       (try dsimp only at hSw)
       go_simp
       try with_reducible rfl
      refine tkH (i := 1) (oi := o163x2) (v := ?vq3_1) rfl ?hq3_1 zq ?rq3_1
      case hq3_1 =>
       intro wS hSw
       subst hSw
       (try dsimp only at hSw)
       go_simp
       try with_reducible rfl
      refine tkH (i := 2) (oi := o163x3) (v := ?vq3_2) rfl ?hq3_2 zq ?rq3_2
      case hq3_2 =>
       intro wS hSw
       subst hSw
       (try dsimp only at hSw)
       go_simp
       try with_reducible rfl
      refine tkH (i := 3) (oi := o163x4) (v := ?vq3_3) rfl ?hq3_3 zq ?rq3_3
      case hq3_3 =>
       intro wS hSw
       subst hSw
       (try dsimp only at hSw)
       go_simp
       try with_reducible rfl
      refine tkH (i := 4) (oi := o163x5) (v := ?vq3_4) rfl ?hq3_4 zq ?rq3_4
      case hq3_4 =>
       intro wS hSw
       subst hSw
       (try dsimp only at hSw)
       go_simp
       try with_reducible rfl
      refine tkH (i := 5) (oi := o163x6) (v := ?vq3_5) rfl ?hq3_5 zq ?rq3_5
      case hq3_5 =>
       intro wS hSw
       subst hSw
       (try dsimp only at hSw)
       go_simp
       try with_reducible rfl
      refine tkH (i := 6) (oi := o163x7) (v := ?vq3_6) rfl ?hq3_6 zq ?rq3_6
      case hq3_6 =>
       intro wS hSw
       subst hSw
       (try dsimp only at hSw)
       go_simp
       try with_reducible rfl
      refine tkH (i := 7) (oi := o163x8) (v := ?vq3_7) rfl ?hq3_7 zq ?rq3_7
      case hq3_7 =>
       intro wS hSw
       subst hSw
       (try dsimp only at hSw)
       go_simp
       try with_reducible rfl
      refine tkH (i := 8) (oi := o163x9) (v := ?vq3_8) rfl ?hq3_8 zq ?rq3_8
      case hq3_8 =>
       intro wS hSw
       subst hSw
       (try dsimp only at hSw)
       go_simp
       try with_reducible rfl
      refine tkH (i := 9) (oi := o163x10) (v := ?vq3_9) rfl ?hq3_9 zq ?rq3_9
      case hq3_9 =>
       intro wS hSw
       subst hSw
       (try dsimp only at hSw)
       go_simp
       try with_reducible rfl
      refine tkH (i := 10) (oi := o163x11) (v := ?vq3_10) rfl ?hq3_10 zq ?rq3_10
      case hq3_10 =>
       intro wS hSw
       subst hSw
       (try dsimp only at hSw)
       go_simp
       try with_reducible rfl
      refine tkH (i := 11) (oi := o163x12) (v := ?vq3_11) rfl ?hq3_11 zq ?rq3_11
      case hq3_11 =>
       intro wS hSw
       subst hSw
       (try dsimp only at hSw)
       go_simp
       try with_reducible rfl
      refine tkH (i := 12) (oi := o163x13) (v := ?vq3_12) rfl ?hq3_12 zq ?rq3_12
      case hq3_12 =>
       intro wS hSw
       subst hSw
       (try dsimp only at hSw)
       go_simp
       try with_reducible rfl
      refine tkH (i := 13) (oi := o163x14) (v := ?vq3_13) rfl ?hq3_13 zq ?rq3_13
      case hq3_13 =>
       intro wS hSw
       subst hSw
       (try dsimp only at hSw)
       go_simp
       try with_reducible rfl
      refine tkH (i := 14) (oi := o163x15) (v := ?vq3_14) rfl ?hq3_14 zq ?rq3_14
      case hq3_14 =>
       intro wS hSw
       subst hSw
       (try dsimp only at hSw)
       go_simp
       try with_reducible rfl
      refine tkH (i := 15) (oi := o163x16) (v := ?vq3_15) rfl ?hq3_15 zq ?rq3_15
      case hq3_15 =>
       intro wS hSw
       subst hSw
       (try dsimp only at hSw)
       go_simp
       try with_reducible rfl
      refine tkH (i := 16) (oi := o163x17) (v := ?vq3_16) rfl ?hq3_16 zq ?rq3_16
      case hq3_16 =>
       intro wS hSw
       subst hSw
       (try dsimp only at hSw)
       go_simp
       try with_reducible rfl
      refine tkH (i := 17) (oi := o163x18) (v := ?vq3_17) rfl ?hq3_17 zq ?rq3_17
      case hq3_17 =>
       intro wS hSw
       subst hSw
       (try dsimp only at hSw)
       go_simp
       try with_reducible rfl
      refine tkH (i := 18) (oi := o163x19) (v := ?vq3_18) rfl ?hq3_18 zq ?rq3_18
      case hq3_18 =>
       intro wS hSw
       subst hSw
       (try dsimp only at hSw)
       go_simp
       try with_reducible rfl
      refine tkH (i := 19) (oi := o163x20) (v := ?vq3_19) rfl ?hq3_19 zq ?rq3_19
      case hq3_19 =>
       intro wS hSw
       subst hSw
       (try dsimp only at hSw)
       go_simp
       try with_reducible rfl
      refine tkH (i := 20) (oi := o163x21) (v := ?vq3_20) rfl ?hq3_20 zq ?rq3_20
      case hq3_20 =>
       intro wS hSw
       subst hSw
       (try dsimp only at hSw)
       go_simp
       try with_reducible rfl
      refine tkH (i := 21) (oi := o163x22) (v := ?vq3_21) rfl ?hq3_21 zq ?rq3_21
      case hq3_21 =>
       intro wS hSw
       subst hSw
       (try dsimp only at hSw)
       go_simp
       try with_reducible rfl
      refine tkH (i := 22) (oi := o163x23) (v := ?vq3_22) rfl ?hq3_22 zq ?rq3_22
      case hq3_22 =>
       intro wS hSw
       subst hSw
       (try dsimp only at hSw)
       go_simp
       try with_reducible rfl
      refine rdH (i := 23) (oi := o163x24) rfl (fun K hK => ?_)
      go_simp
      go_at_call 131
      refine (uh LA).mono ?_
      rintro e u1 ⟨rfl, h1⟩
      subst u1
      try go_wp2_with fail
      refine hK.out _ _ rfl (fun zq => ?_)
      clear hK K
      try simp only [Act.put, pz, py, px]
      refine tkH (i := 24) (oi := o163x25) (v := ?vq3_24) rfl ?hq3_24 zq ?rq3_24
      case hq3_24 =>
       intro wS hSw
       subst hSw
       (try dsimp only at hSw)
       go_simp
       try with_reducible rfl
      refine tkH (i := 25) (oi := o163x26) (v := ?vq3_25) rfl ?hq3_25 zq ?rq3_25
      case hq3_25 =>
       intro wS hSw
       subst hSw
       (try dsimp only at hSw)
       go_simp
       try with_reducible rfl
      refine tkH (i := 26) (oi := o163x27) (v := ?vq3_26) rfl ?hq3_26 zq ?rq3_26
      case hq3_26 =>
       intro wS hSw
       subst hSw
       (try dsimp only at hSw)
       go_simp
       try with_reducible rfl
      refine tkH (i := 27) (oi := o163x28) (v := ?vq3_27) rfl ?hq3_27 zq ?rq3_27
      case hq3_27 =>
       intro wS hSw
       subst hSw
       (try dsimp only at hSw)
       go_simp
       try with_reducible rfl
      refine tkH (i := 28) (oi := o163x29) (v := ?vq3_28) rfl ?hq3_28 zq ?rq3_28
      case hq3_28 =>
       intro wS hSw
       subst hSw
       (try dsimp only at hSw)
       go_simp
       try with_reducible rfl
      refine tkH (i := 29) (oi := o163x30) (v := ?vq3_29) rfl ?hq3_29 zq ?rq3_29
      case hq3_29 =>
       intro wS hSw
       subst hSw
       (try dsimp only at hSw)
       go_simp
       try with_reducible rfl
      refine tkH (i := 30) (oi := o163x31) (v := ?vq3_30) rfl ?hq3_30 zq ?rq3_30
      case hq3_30 =>
       intro wS hSw
       subst hSw
       (try dsimp only at hSw)
       go_simp
       try with_reducible rfl
      refine tkH (i := 31) (oi := o163x32) (v := ?vq3_31) rfl ?hq3_31 zq ?rq3_31
      case hq3_31 =>
       intro wS hSw
       subst hSw
       (try dsimp only at hSw)
       go_simp
       try with_reducible rfl
      refine tkH (i := 32) (oi := o163x33) (v := ?vq3_32) rfl ?hq3_32 zq ?rq3_32
      case hq3_32 =>
       intro wS hSw
       subst hSw
       (try dsimp only at hSw)
       go_simp
       try with_reducible rfl
      refine tkH (i := 33) (oi := o163x34) (v := ?vq3_33) rfl ?hq3_33 zq ?rq3_33
      case hq3_33 =>
       intro wS hSw
       subst hSw
       (try dsimp only at hSw)
       go_simp
       try with_reducible rfl
      refine tkH (i := 34) (oi := o163x35) (v := ?vq3_34) rfl ?hq3_34 zq ?rq3_34
      case hq3_34 =>
       intro wS hSw
       subst hSw
       (try dsimp only at hSw)
       go_simp
       try with_reducible rfl
      refine tkH (i := 35) (oi := o163x36) (v := ?vq3_35) rfl ?hq3_35 zq ?rq3_35
      case hq3_35 =>
       intro wS hSw
       subst hSw
       (try dsimp only at hSw)
       go_simp
       try with_reducible rfl
      refine tkH (i := 36) (oi := o163x37) (v := ?vq3_36) rfl ?hq3_36 zq ?rq3_36
      case hq3_36 =>
       intro wS hSw
       subst hSw
       (try dsimp only at hSw)
       go_simp
       try with_reducible rfl
      refine tkH (i := 37) (oi := o163x38) (v := ?vq3_37) rfl ?hq3_37 zq ?rq3_37
      case hq3_37 =>
       intro wS hSw
       subst hSw
       (try dsimp only at hSw)
       go_simp
       try with_reducible rfl
      refine tkH (i := 38) (oi := o163x39) (v := ?vq3_38) rfl ?hq3_38 zq ?rq3_38
      case hq3_38 =>
       intro wS hSw
       subst hSw
       (try dsimp only at hSw)
       go_simp
       try with_reducible rfl
      refine wpAnyH_done (by kernel_rfl) ?_ _
      refine NoPanic.normal ?_
      clear zq
      go_wp2_with fail
      go_roundw
      case rel => exact ⟨k + 1, by omega, by go_num, uh HF, uh HB⟩
      case measure => simp [intOf]; omega
     have HE := yh (uh HV _ ((uh HF).trans (if_pos (by rw [e3, e4, e5]; simp))) (by decide))
     go_wp2_with fail
     refine wp_region_noPanic ?_
     refine wp_region_held_drew (S := fun w' => w' = w5.drew) (by kernel_rfl) rfl (fun zq => ?_)
     generalize w5.drew = wD at zq z0 z1 z2 y2 HB LA ⊢
     refine tkH (i := 0) (oi := o163x1) (v := ?vq4_0) rfl ?hq4_0 zq ?rq4_0
     case hq4_0 =>
      intro wS hSw
      subst hSw
      (try dsimp only at hSw)
      go_simp
      try with_reducible rfl
     refine tkH (i := 1) (oi := o163x2) (v := ?vq4_1) rfl ?hq4_1 zq ?rq4_1
     case hq4_1 =>
      intro wS hSw
      subst hSw
      (try dsimp only at hSw)
      go_simp
      try with_reducible rfl
     refine tkH (i := 2) (oi := o163x3) (v := ?vq4_2) rfl ?hq4_2 zq ?rq4_2
     case hq4_2 =>
      intro wS hSw
      subst hSw
      (try dsimp only at hSw)
      go_simp
      try with_reducible rfl
     refine tkH (i := 3) (oi := o163x4) (v := ?vq4_3) rfl ?hq4_3 zq ?rq4_3
     case hq4_3 =>
      intro wS hSw
      subst hSw
      (try dsimp only at hSw)
      go_simp
      try with_reducible rfl
     refine tkH (i := 4) (oi := o163x5) (v := ?vq4_4) rfl ?hq4_4 zq ?rq4_4
     case hq4_4 =>
      intro wS hSw
      subst hSw
      (try dsimp only at hSw)
      go_simp
      try with_reducible rfl
     refine tkH (i := 5) (oi := o163x6) (v := ?vq4_5) rfl ?hq4_5 zq ?rq4_5
     case hq4_5 =>
      intro wS hSw
      subst hSw
      (try dsimp only at hSw)
      go_simp
      try with_reducible rfl
     refine tkH (i := 6) (oi := o163x7) (v := ?vq4_6) rfl ?hq4_6 zq ?rq4_6
     case hq4_6 =>
      intro wS hSw
      subst hSw
      (try dsimp only at hSw)
      go_simp
      try with_reducible rfl
     refine tkH (i := 7) (oi := o163x8) (v := ?vq4_7) rfl ?hq4_7 zq ?rq4_7
     case hq4_7 =>
      intro wS hSw
      subst hSw
      (try dsimp only at hSw)
      go_simp
      try with_reducible rfl
     refine tkH (i := 8) (oi := o163x9) (v := ?vq4_8) rfl ?hq4_8 zq ?rq4_8
     case hq4_8 =>
      intro wS hSw
      subst hSw
      (try dsimp only at hSw)
      go_simp
      try with_reducible rfl
     refine tkH (i := 9) (oi := o163x10) (v := ?vq4_9) rfl ?hq4_9 zq ?rq4_9
     case hq4_9 =>
      intro wS hSw
      subst hSw
      (try dsimp only at hSw)
      go_simp
      try with_reducible rfl
     refine tkH (i := 10) (oi := o163x11) (v := ?vq4_10) rfl ?hq4_10 zq ?rq4_10
     case hq4_10 =>
      intro wS hSw
      subst hSw
      (try dsimp only at hSw)
      go_simp
      try with_reducible rfl
     refine tkH (i := 11) (oi := o163x12) (v := ?vq4_11) rfl ?hq4_11 zq ?rq4_11
     case hq4_11 =>
      intro wS hSw
      subst hSw
      (try dsimp only at hSw)
      go_simp
      try with_reducible rfl
     refine tkH (i := 12) (oi := o163x13) (v := ?vq4_12) rfl ?hq4_12 zq ?rq4_12
     case hq4_12 =>
      intro wS hSw
      subst hSw
      (try dsimp only at hSw)
      go_simp
      try with_reducible rfl
     refine tkH (i := 13) (oi := o163x14) (v := ?vq4_13) rfl ?hq4_13 zq ?rq4_13
     case hq4_13 =>
      intro wS hSw
      subst hSw
      (try dsimp only at hSw)
      go_simp
      try with_reducible rfl
     refine tkH (i := 14) (oi := o163x15) (v := ?vq4_14) rfl ?hq4_14 zq ?rq4_14
     case hq4_14 =>
      intro wS hSw
      subst hSw
      (try dsimp only at hSw)
      go_simp
      try with_reducible rfl
     refine tkH (i := 15) (oi := o163x16) (v := ?vq4_15) rfl ?hq4_15 zq ?rq4_15
     case hq4_15 =>
      intro wS hSw
      subst hSw
      (try dsimp only at hSw)
      go_simp
      try with_reducible rfl
     refine tkH (i := 16) (oi := o163x17) (v := ?vq4_16) rfl ?hq4_16 zq ?rq4_16
     case hq4_16 =>
      intro wS hSw
      subst hSw
      (try dsimp only at hSw)
      go_simp
      try with_reducible rfl
     refine tkH (i := 17) (oi := o163x18) (v := ?vq4_17) rfl ?hq4_17 zq ?rq4_17
     case hq4_17 =>
      intro wS hSw
      subst hSw
      (try dsimp only at hSw)
      go_simp
      try with_reducible rfl
     refine tkH (i := 18) (oi := o163x19) (v := ?vq4_18) rfl ?hq4_18 zq ?rq4_18
     case hq4_18 =>
      intro wS hSw
      subst hSw
      (try dsimp only at hSw)
      go_simp
      try with_reducible rfl
     refine tkH (i := 19) (oi := o163x20) (v := ?vq4_19) rfl ?hq4_19 zq ?rq4_19
     case hq4_19 =>
      intro wS hSw
      subst hSw
      (try dsimp only at hSw)
      go_simp
      try with_reducible rfl
     refine tkH (i := 20) (oi := o163x21) (v := ?vq4_20) rfl ?hq4_20 zq ?rq4_20
     case hq4_20 =>
      intro wS hSw
      subst hSw
      (try dsimp only at hSw)
      go_simp
      try with_reducible rfl
     refine tkH (i := 21) (oi := o163x22) (v := ?vq4_21) rfl ?hq4_21 zq ?rq4_21
     case hq4_21 =>
      intro wS hSw
      subst hSw
      (try dsimp only at hSw)
      go_simp
      try with_reducible rfl
     refine tkH (i := 22) (oi := o163x23) (v := ?vq4_22) rfl ?hq4_22 zq ?rq4_22
     case hq4_22 =>
      intro wS hSw
      subst hSw
      (try dsimp only at hSw)
      go_simp
      try with_reducible rfl
     refine rdH (i := 23) (oi := o163x24) rfl (fun K hK => ?_)
     go_simp
     go_at_call 131
     refine (uh LA).mono ?_
     rintro e u1 ⟨rfl, h1⟩
     subst u1
     try go_wp2_with fail
     refine hK.out _ _ rfl (fun zq => ?_)
     clear hK K
     try simp only [Act.put, pz, py, px]
     refine tkH (i := 24) (oi := o163x25) (v := ?vq4_24) rfl ?hq4_24 zq ?rq4_24
     case hq4_24 =>
      intro wS hSw
      subst hSw
      (try dsimp only at hSw)
      go_simp
      try with_reducible rfl
     refine tkH (i := 25) (oi := o163x26) (v := ?vq4_25) rfl ?hq4_25 zq ?rq4_25
     case hq4_25 =>
      intro wS hSw
      subst hSw
      (try dsimp only at hSw)
      go_simp
      try with_reducible rfl
     refine tkH (i := 26) (oi := o163x27) (v := ?vq4_26) rfl ?hq4_26 zq ?rq4_26
     case hq4_26 =>
      intro wS hSw
      subst hSw
      (try dsimp only at hSw)
      go_simp
      try with_reducible rfl
     refine tkH (i := 27) (oi := o163x28) (v := ?vq4_27) rfl ?hq4_27 zq ?rq4_27
     case hq4_27 =>
      intro wS hSw
      subst hSw
      (try dsimp only at hSw)
      go_simp
      try with_reducible rfl
     refine tkH (i := 28) (oi := o163x29) (v := ?vq4_28) rfl ?hq4_28 zq ?rq4_28
     case hq4_28 =>
      intro wS hSw
      subst hSw
      (try dsimp only at hSw)
      go_simp
      try with_reducible rfl
     refine tkH (i := 29) (oi := o163x30) (v := ?vq4_29) rfl ?hq4_29 zq ?rq4_29
     case hq4_29 =>
      intro wS hSw
      subst hSw
      (try dsimp only at hSw)
      go_simp
      try with_reducible rfl
     refine tkH (i := 30) (oi := o163x31) (v := ?vq4_30) rfl ?hq4_30 zq ?rq4_30
     case hq4_30 =>
      intro wS hSw
      subst hSw
      (try dsimp only at hSw)
      go_simp
      try with_reducible rfl
     refine tkH (i := 31) (oi := o163x32) (v := ?vq4_31) rfl ?hq4_31 zq ?rq4_31
     case hq4_31 =>
      intro wS hSw
      subst hSw
      (try dsimp only at hSw)
      go_simp
      try with_reducible rfl
     refine tkH (i := 32) (oi := o163x33) (v := ?vq4_32) rfl ?hq4_32 zq ?rq4_32
     case hq4_32 =>
      intro wS hSw
      subst hSw
      (try dsimp only at hSw)
      go_simp
      try with_reducible rfl
     refine tkH (i := 33) (oi := o163x34) (v := ?vq4_33) rfl ?hq4_33 zq ?rq4_33
     case hq4_33 =>
      intro wS hSw
      subst hSw
      (try dsimp only at hSw)
      go_simp
      try with_reducible rfl
     refine tkH (i := 34) (oi := o163x35) (v := ?vq4_34) rfl ?hq4_34 zq ?rq4_34
     case hq4_34 =>
      intro wS hSw
      subst hSw
      (try dsimp only at hSw)
      go_simp
      try with_reducible rfl
     refine tkH (i := 35) (oi := o163x36) (v := ?vq4_35) rfl ?hq4_35 zq ?rq4_35
     case hq4_35 =>
      intro wS hSw
      subst hSw
      (try dsimp only at hSw)
      go_simp
      try with_reducible rfl
     refine tkH (i := 36) (oi := o163x37) (v := ?vq4_36) rfl ?hq4_36 zq ?rq4_36
     case hq4_36 =>
      intro wS hSw
      subst hSw
      (try dsimp only at hSw)
      go_simp
      try with_reducible rfl
     refine tkH (i := 37) (oi := o163x38) (v := ?vq4_37) rfl ?hq4_37 zq ?rq4_37
     case hq4_37 =>
      intro wS hSw
      subst hSw
      (try dsimp only at hSw)
      go_simp
      try with_reducible rfl
     refine tkH (i := 38) (oi := o163x39) (v := ?vq4_38) rfl ?hq4_38 zq ?rq4_38
     case hq4_38 =>
      intro wS hSw
      subst hSw
      (try dsimp only at hSw)
      go_simp
      try with_reducible rfl
     refine wpAnyH_done (by kernel_rfl) ?_ _
     refine NoPanic.normal ?_
     clear zq
     go_wp2_with fail
     go_ret
     exact ⟨by rw [uh HE]; rfl, uh HB⟩
    have HE := yh (uh HV _ ((uh HF).trans (if_pos (by rw [e3]; simp))) (by decide))
    go_wp2_with fail
    refine wp_region_noPanic ?_
    refine wp_region_held_drew (S := fun w' => w' = w5.drew) (by kernel_rfl) rfl (fun zq => ?_)
    generalize w5.drew = wD at zq z0 z1 z2 y2 HB LA ⊢
    refine tkH (i := 0) (oi := o163x1) (v := ?vq5_0) rfl ?hq5_0 zq ?rq5_0
    case hq5_0 =>
     intro wS hSw
     subst hSw
     (try dsimp only at hSw)
     go_simp
     try with_reducible rfl
    refine tkH (i := 1) (oi := o163x2) (v := ?vq5_1) rfl ?hq5_1 zq ?rq5_1
    case hq5_1 =>
     intro wS hSw
     subst hSw
     (try dsimp only at hSw)
     go_simp
     try with_reducible rfl
    refine tkH (i := 2) (oi := o163x3) (v := ?vq5_2) rfl ?hq5_2 zq ?rq5_2
    case hq5_2 =>
     intro wS hSw
     subst hSw
     (try dsimp only at hSw)
     go_simp
     try with_reducible rfl
    refine tkH (i := 3) (oi := o163x4) (v := ?vq5_3) rfl ?hq5_3 zq ?rq5_3
    case hq5_3 =>
     intro wS hSw
     subst hSw
     (try dsimp only at hSw)
     go_simp
     try with_reducible rfl
    refine tkH (i := 4) (oi := o163x5) (v := ?vq5_4) rfl ?hq5_4 zq ?rq5_4
    case hq5_4 =>
     intro wS hSw
     subst hSw
     (try dsimp only at hSw)
     go_simp
     try with_reducible rfl
    refine tkH (i := 5) (oi := o163x6) (v := ?vq5_5) rfl ?hq5_5 zq ?rq5_5
    case hq5_5 =>
     intro wS hSw
     subst hSw
     (try dsimp only at hSw)
     go_simp
     try with_reducible rfl
    refine tkH (i := 6) (oi := o163x7) (v := ?vq5_6) rfl ?hq5_6 zq ?rq5_6
    case hq5_6 =>
     intro wS hSw
     subst hSw
     (try dsimp only at hSw)
     go_simp
     try with_reducible rfl
    refine tkH (i := 7) (oi := o163x8) (v := ?vq5_7) rfl ?hq5_7 zq ?rq5_7
    case hq5_7 =>
     intro wS hSw
     subst hSw
     (try dsimp only at hSw)
     go_simp
     try with_reducible rfl
    refine tkH (i := 8) (oi := o163x9) (v := ?vq5_8) rfl ?hq5_8 zq ?rq5_8
    case hq5_8 =>
     intro wS hSw
     subst hSw
     (try dsimp only at hSw)
     go_simp
     try with_reducible rfl
    refine tkH (i := 9) (oi := o163x10) (v := ?vq5_9) rfl ?hq5_9 zq ?rq5_9
    case hq5_9 =>
     intro wS hSw
     subst hSw
     (try dsimp only at hSw)
     go_simp
     try with_reducible rfl
    refine tkH (i := 10) (oi := o163x11) (v := ?vq5_10) rfl ?hq5_10 zq ?rq5_10
    case hq5_10 =>
     intro wS hSw
     subst hSw
     (try dsimp only at hSw)
     go_simp
     try with_reducible rfl
    refine skH (i := 11) (oi := o163x12) rfl zq ?_
    refine skH (i := 12) (oi := o163x13) rfl zq ?_
    refine skH (i := 13) (oi := o163x14) rfl zq ?_
    refine skH (i := 14) (oi := o163x15) rfl zq ?_
    refine skH (i := 15) (oi := o163x16) rfl zq ?_
    refine skH (i := 16) (oi := o163x17) rfl zq ?_
    refine skH (i := 17) (oi := o163x18) rfl zq ?_
    refine skH (i := 18) (oi := o163x19) rfl zq ?_
    refine skH (i := 19) (oi := o163x20) rfl zq ?_
    refine skH (i := 20) (oi := o163x21) rfl zq ?_
    refine skH (i := 21) (oi := o163x22) rfl zq ?_
    refine skH (i := 22) (oi := o163x23) rfl zq ?_
    refine skH (i := 23) (oi := o163x24) rfl zq ?_
    refine skH (i := 24) (oi := o163x25) rfl zq ?_
    refine skH (i := 25) (oi := o163x26) rfl zq ?_
    refine skH (i := 26) (oi := o163x27) rfl zq ?_
    refine skH (i := 27) (oi := o163x28) rfl zq ?_
    refine skH (i := 28) (oi := o163x29) rfl zq ?_
    refine skH (i := 29) (oi := o163x30) rfl zq ?_
    refine skH (i := 30) (oi := o163x31) rfl zq ?_
    refine skH (i := 31) (oi := o163x32) rfl zq ?_
    refine skH (i := 32) (oi := o163x33) rfl zq ?_
    refine skH (i := 33) (oi := o163x34) rfl zq ?_
    refine skH (i := 34) (oi := o163x35) rfl zq ?_
    refine skH (i := 35) (oi := o163x36) rfl zq ?_
    refine skH (i := 36) (oi := o163x37) rfl zq ?_
    refine skH (i := 37) (oi := o163x38) rfl zq ?_
    refine tkH (i := 38) (oi := o163x39) (v := ?vq5_38) rfl ?hq5_38 zq ?rq5_38
    case hq5_38 =>
     intro wS hSw
     subst hSw
     (try dsimp only at hSw)
     go_simp
     try with_reducible rfl
    refine wpAnyH_done (by kernel_rfl) ?_ _
    refine NoPanic.normal ?_
    clear zq
    go_wp2_with fail
    go_ret
    exact ⟨by rw [uh HE]; rfl, uh HB⟩
   have HE := yh (uh HV _ ((uh HF).trans (if_pos e2)) (by decide))
   go_wp2_with fail
   go_ret
   exact ⟨by rw [uh HE]; rfl, uh HB0⟩
  obtain rfl : k = x.nodes.length := by omega
  rw [List.drop_length] at hF
  have hdl : decide ((x.nodes.length : Int) < (x.nodes.length : Int)) = false := by simp
  have HZ := yh (uh HV0 hF)
  have HB1 := yh hB
  clear hF hB HV HV0
  go_wp2_with fail
  clear hdl v2 v3
  go_loopw [6] (fun i wq => ∃ k : Nat, k ≤ x.chain.ids.length ∧ i = .int .i64 k ∧ r = (if (x.chain.ids.drop k).all (nodeIn x) = true then 0 else 4) ∧ Below wr.heap.size wr wq) (fun i _ => x.chain.ids.length - (intOf i).toNat)
  case atStart => exact ⟨0, Nat.zero_le _, rfl, uh HZ, Below.refl _ _⟩
  case round =>
   obtain ⟨k, hk, rfl, hF, hB⟩ := hrel
   clear HZ
   have hX2 := (uh HX1).keep hB
   have y3 := Box.at hX2 3 _ rfl
   simp only [ga, gb, gc] at y3
   have xl2 := hX2.lt
   have HB := yh ((uh HB1).trans (hB.mono (uh HB1).size))
   by_cases hlt : k < x.chain.ids.length
   ·
    obtain ⟨b, off, rfl, hbl⟩ := Lay.sl_addr (uh HI) (by omega)
    have c1 := ((uh HB).cell (p := ⟨b, off + k, none⟩) hbl).trans (int_cell (uh HI) hlt)
    have hdl : decide ((k : Int) < (x.chain.ids.length : Int)) = true := by simp; omega
    rw [List.drop_eq_getElem_cons hlt, List.all_cons] at hF
    have HL := yh (l12NodeC _ _ _ _ _ _ _ _ x x.chain.ids[k] xb wr hX2)
    have HF := yh hF
    have HBQ := yh hB
    clear hF hX2 hB
    generalize x.chain.ids[k] = z at *
    go_wp2_with fail
    refine (uh HL).mono ?_
    rintro e w5 ⟨rfl, h5⟩
    subst w5
    clear HL
    generalize nodeIn x z = q at *
    cases q
    ·
     replace HF := yh ((uh HF).trans (if_neg (by simp)))
     go_wp2_with fail
     go_ret
     exact ⟨by rw [uh HF]; rfl, uh HB⟩
    rw [Bool.true_and] at HF
    go_wp2_with fail
    go_roundw
    case rel => exact ⟨k + 1, by omega, by go_num, uh HF, uh HBQ⟩
    case measure => simp [intOf]; omega
   obtain rfl : k = x.chain.ids.length := by omega
   rw [List.drop_length, List.all_nil, if_pos rfl] at hF
   have hdl : decide ((x.chain.ids.length : Int) < (x.chain.ids.length : Int)) = false := by simp
   have HF := yh hF
   clear hF hB hX2
   go_wp2_with fail
   go_ret
   exact ⟨by rw [uh HF]; rfl, uh HB⟩
end Go.Proofs.YtoanimpijfijgaaGreat
