/-
  The program's nearestPlaces: all places of centers, the nearest first, of the same score the first one; nothing old is written.
  Condition: the centers and the query have no fault.
-/
import Derived.Test.YtfgadegpdknocaaGreatIs10
import Derived.Test.YtfgadegpdknocaaGreatIs01
import Derived.Test.YtfgadegpdknocaaGreatIs02

namespace Go.Proofs.YtfgadegpdknocaaGreat
open Go.RowKit

theorem plV_set (d : List Nat) (k x : Nat) : plV (d.set k x) = (plV d).set k (.int .i64 (x : Int)) := by simp [plV, List.map_set]
theorem cmp_neg (a b : Int) : decide (cmpI a b < 0) = decide (a < b) := by
  unfold cmpI
  by_cases h1 : a < b
  · rw [if_pos h1]; simp [h1]
  · rw [if_neg h1]
    by_cases h2 : b < a
    · rw [if_pos h2]; simp [h1]
    · rw [if_neg h2]; simp [h1]

set_option maxRecDepth 100000 in
set_option maxHeartbeats 4000000 in
theorem insSort (cs : List DCenter) (q : List Int) (ac : Option Addr) (dc : Nat) (aq : Option Addr) (dq Bl Bq G lo tl tq : Nat) (w : World) (h1 : (Lay.sl Lay.tCenter).LiesIn w [.slice ac cs.length dc] cs 0 lo) (h2 : (Lay.sl Lay.int).LiesIn w [.slice aq q.length dq] q 0 lo) (hlo : lo ≤ G) (hc : centersFault cs = 0) (hq : vecFault q = 0)
    (bl : Box 0 #[.slice ac cs.length dc] tl w Bl) (bq : Box 0 #[.slice aq q.length dq] tq w Bq) (hBl : Bl ≠ G) (hBq : Bq ≠ G) (hG : w.ownsRow G 2 1 (.slice (some ⟨G, 0, none⟩) cs.length cs.length) cs.length (plV (List.range cs.length))) :
    Calls Tryz.prog 164 #[.slice (some ⟨G, 0, none⟩) cs.length cs.length, .int .i64 0, .int .i64 (cs.length : Int), .func (.func 136) #[] #[.pointer (some ⟨Bl, 0, none⟩), .pointer (some ⟨Bq, 0, none⟩)]] w fun e w' => e = .returned (.tuple #[]) ∧ (∃ d : List Nat, Sorted (d.map (hitAt cs q)) ∧ (∀ p, p ∈ d ↔ p < cs.length) ∧ d.length = cs.length ∧ w'.ownsRow G 2 1 (.slice (some ⟨G, 0, none⟩) cs.length cs.length) cs.length (plV d)) ∧ Ext (fun c => c = G) w w' := by
  have hn6 : cs.length ≤ 6 := (centersFault_zero hc).1.2
  have hn1 : 1 ≤ cs.length := (centersFault_zero hc).1.1
  have hgl := (hG.lt G rfl).2
  have HG0 := hide hG
  have LCC : Hid (∀ (W : World), Ext (fun c => c = G) w W → ∀ p r : Nat, p < cs.length → r < cs.length → Calls Tryz.prog 136 #[.int .i64 (p : Int), .int .i64 (r : Int), .pointer (some ⟨Bl, 0, none⟩), .pointer (some ⟨Bq, 0, none⟩)] W fun e w' => e = .returned (.int .i64 (cmpI (hitAt cs q p).2 (hitAt cs q r).2)) ∧ Below W.heap.size W w') := fun W hE p r hp hr =>
    cmpC cs q ac dc aq dq Bl Bq p r W (h1.ext hE (fun k _ hk e => by omega)).reads (Lay.ints_reads (h2.ext hE (fun k _ hk e => by omega)).reads) hc hq ((bl.ext hE hBl).at 0 _ rfl) ((bq.ext hE hBq).at 0 _ rfl) hp hr
  clear h1 h2 hc hq bl bq hG
  go_enter Tryz.func164, Tryz.ntmps164
  go_wp2_with fail
  go_loopw [8] (fun v wr => ∃ (i : Nat) (d : List Nat), 1 ≤ i ∧ i ≤ cs.length ∧ v = .int .i64 i ∧ InsO (hitAt cs q) cs.length i d ∧ wr.ownsRow G 2 1 (.slice (some ⟨G, 0, none⟩) cs.length cs.length) cs.length (plV d) ∧ Ext (fun c => c = G) w wr) (fun v _ => cs.length - (intOf v).toNat)
  case atStart => exact ⟨1, List.range cs.length, Nat.le_refl _, hn1, rfl, insO_start _ hn1, unhide HG0, Ext.refl _ _⟩
  case round =>
    obtain ⟨i, d, hi1, hi, rfl, hO, hown, hE⟩ := hrel
    clear HG0
    by_cases hlt : i < cs.length
    · have HI0 := hide (hO.inner hlt)
      have HW0 := hide hown
      have HE0 := hide hE
      clear hO hown hE
      go_wp2_with fail
      rename World => wz
      go_loopw [9] (fun v wr => ∃ (j : Nat) (d : List Nat), j ≤ i ∧ v = .int .i64 j ∧ InsI (hitAt cs q) cs.length i j d ∧ wr.ownsRow G 2 1 (.slice (some ⟨G, 0, none⟩) cs.length cs.length) cs.length (plV d) ∧ Ext (fun c => c = G) w wr) (fun v _ => (intOf v).toNat)
      case atStart => exact ⟨i, d, Nat.le_refl _, rfl, unhide HI0, unhide HW0, unhide HE0⟩
      case round =>
        obtain ⟨j, d, hj, rfl, hI, hown, hE⟩ := hrel
        clear HI0 HW0 HE0
        have hdl := (hI.len hlt).1
        have hzr := hE.size
        cases j with
        | zero =>
          have HO2 := hide (hI.stop (fun p => rfl) (fun p h => absurd h (by omega)))
          have HW := hide hown
          have HE := hide hE
          clear hI hown hE
          go_wp2_with fail
          refine wp_region_noPanic ?_
          refine wp_region_held_drew (S := fun w' => Below wr.heap.size wr w') (by kernel_rfl) (Below.refl _ _).drew (fun hHeld => ?_)
          generalize wr.drew = wD at hHeld ⊢
          refine wpAnyH_take (i := 0) (oi := { dst := some 18, op := Go.Op.move (Go.Operand.tmp 9), type := 3, pos := "zsortanyfunc.go:12", after := #[], guard := none }) (v := ?vx0) rfl (by kernel_rfl) (by kernel_rfl) (by kernel_rfl) (fun _ _ _ h => h) (Or.inl ⟨by rfl, ?hx0⟩) hHeld ?rx0
          case hx0 =>
            intro wS hSw
            (try dsimp only at hSw)
            go_simp
            try with_reducible rfl
          case rx0 =>
          simp only [Act.put, List.setIfInBounds_toArray, List.set_cons_zero, List.set_cons_succ]
          refine wpAnyH_take (i := 1) (oi := { dst := some 19, op := Go.Op.move (Go.Operand.tmp 1), type := 3, pos := "zsortanyfunc.go:12", after := #[], guard := none }) (v := ?vx1) rfl (by kernel_rfl) (by kernel_rfl) (by kernel_rfl) (fun _ _ _ h => h) (Or.inl ⟨by rfl, ?hx1⟩) hHeld ?rx1
          case hx1 =>
            intro wS hSw
            (try dsimp only at hSw)
            go_simp
            try with_reducible rfl
          case rx1 =>
          simp only [Act.put, List.setIfInBounds_toArray, List.set_cons_zero, List.set_cons_succ]
          refine wpAnyH_take (i := 2) (oi := { dst := some 20, op := Go.Op.binOp Go.BinOp.gtr 3 (Go.Operand.tmp 18) (Go.Operand.tmp 19) 3, type := 4, pos := "zsortanyfunc.go:12", after := #[{ on := 0, ground := Go.Ground.data }, { on := 1, ground := Go.Ground.data }], guard := none }) (v := ?vx2) rfl (by kernel_rfl) (by kernel_rfl) (by kernel_rfl) (fun _ _ _ h => h) (Or.inl ⟨by rfl, ?hx2⟩) hHeld ?rx2
          case hx2 =>
            intro wS hSw
            (try dsimp only at hSw)
            go_simp
            try with_reducible rfl
          case rx2 =>
          simp only [Act.put, List.setIfInBounds_toArray, List.set_cons_zero, List.set_cons_succ]
          refine wpAnyH_take (i := 3) (oi := { dst := some 21, op := Go.Op.move (Go.Operand.tmp 20), type := 4, pos := "zsortanyfunc.go:12", after := #[{ on := 2, ground := Go.Ground.data }], guard := none }) (v := ?vx3) rfl (by kernel_rfl) (by kernel_rfl) (by kernel_rfl) (fun _ _ _ h => h) (Or.inl ⟨by rfl, ?hx3⟩) hHeld ?rx3
          case hx3 =>
            intro wS hSw
            (try dsimp only at hSw)
            go_simp
            try with_reducible rfl
          case rx3 =>
          simp only [Act.put, List.setIfInBounds_toArray, List.set_cons_zero, List.set_cons_succ]
          refine wpAnyH_take (i := 4) (oi := { dst := some 22, op := Go.Op.move (Go.Operand.tmp 3), type := 175, pos := "zsortanyfunc.go:12", after := #[{ on := 3, ground := Go.Ground.guard }], guard := some (3, true) }) (v := undef) rfl (by kernel_rfl) (by kernel_rfl) (by kernel_rfl) (fun _ _ _ h => h) (Or.inr ⟨by rfl, rfl⟩) hHeld ?_
          simp only [Act.put, List.setIfInBounds_toArray, List.set_cons_zero, List.set_cons_succ]
          refine wpAnyH_take (i := 5) (oi := { dst := some 23, op := Go.Op.move (Go.Operand.tmp 0), type := 26, pos := "zsortanyfunc.go:12", after := #[{ on := 3, ground := Go.Ground.guard }], guard := some (3, true) }) (v := undef) rfl (by kernel_rfl) (by kernel_rfl) (by kernel_rfl) (fun _ _ _ h => h) (Or.inr ⟨by rfl, rfl⟩) hHeld ?_
          simp only [Act.put, List.setIfInBounds_toArray, List.set_cons_zero, List.set_cons_succ]
          refine wpAnyH_take (i := 6) (oi := { dst := some 24, op := Go.Op.move (Go.Operand.tmp 9), type := 3, pos := "zsortanyfunc.go:12", after := #[{ on := 3, ground := Go.Ground.guard }], guard := some (3, true) }) (v := undef) rfl (by kernel_rfl) (by kernel_rfl) (by kernel_rfl) (fun _ _ _ h => h) (Or.inr ⟨by rfl, rfl⟩) hHeld ?_
          simp only [Act.put, List.setIfInBounds_toArray, List.set_cons_zero, List.set_cons_succ]
          refine wpAnyH_take (i := 7) (oi := { dst := some 25, op := Go.Op.indexAddr 26 (Go.Operand.tmp 23) (Go.Operand.tmp 24), type := 0, pos := "zsortanyfunc.go:12", after := #[{ on := 5, ground := Go.Ground.data }, { on := 6, ground := Go.Ground.data }, { on := 3, ground := Go.Ground.guard }], guard := some (3, true) }) (v := undef) rfl (by kernel_rfl) (by kernel_rfl) (by kernel_rfl) (fun _ _ _ h => h) (Or.inr ⟨by rfl, rfl⟩) hHeld ?_
          simp only [Act.put, List.setIfInBounds_toArray, List.set_cons_zero, List.set_cons_succ]
          refine wpAnyH_take (i := 8) (oi := { dst := some 26, op := Go.Op.load 2 (Go.Operand.tmp 25), type := 2, pos := "zsortanyfunc.go:12", after := #[{ on := 7, ground := Go.Ground.data }, { on := 3, ground := Go.Ground.guard }], guard := some (3, true) }) (v := undef) rfl (by kernel_rfl) (by kernel_rfl) (by kernel_rfl) (fun _ _ _ h => h) (Or.inr ⟨by rfl, rfl⟩) hHeld ?_
          simp only [Act.put, List.setIfInBounds_toArray, List.set_cons_zero, List.set_cons_succ]
          refine wpAnyH_take (i := 9) (oi := { dst := some 27, op := Go.Op.move (Go.Operand.tmp 0), type := 26, pos := "zsortanyfunc.go:12", after := #[{ on := 3, ground := Go.Ground.guard }], guard := some (3, true) }) (v := undef) rfl (by kernel_rfl) (by kernel_rfl) (by kernel_rfl) (fun _ _ _ h => h) (Or.inr ⟨by rfl, rfl⟩) hHeld ?_
          simp only [Act.put, List.setIfInBounds_toArray, List.set_cons_zero, List.set_cons_succ]
          refine wpAnyH_take (i := 10) (oi := { dst := some 28, op := Go.Op.move (Go.Operand.tmp 9), type := 3, pos := "zsortanyfunc.go:12", after := #[{ on := 3, ground := Go.Ground.guard }], guard := some (3, true) }) (v := undef) rfl (by kernel_rfl) (by kernel_rfl) (by kernel_rfl) (fun _ _ _ h => h) (Or.inr ⟨by rfl, rfl⟩) hHeld ?_
          simp only [Act.put, List.setIfInBounds_toArray, List.set_cons_zero, List.set_cons_succ]
          refine wpAnyH_take (i := 11) (oi := { dst := some 29, op := Go.Op.binOp Go.BinOp.sub 3 (Go.Operand.tmp 28) (Go.Operand.const (Go.Value.int Go.IntKind.i64 1)) 3, type := 3, pos := "zsortanyfunc.go:12", after := #[{ on := 10, ground := Go.Ground.data }, { on := 3, ground := Go.Ground.guard }], guard := some (3, true) }) (v := undef) rfl (by kernel_rfl) (by kernel_rfl) (by kernel_rfl) (fun _ _ _ h => h) (Or.inr ⟨by rfl, rfl⟩) hHeld ?_
          simp only [Act.put, List.setIfInBounds_toArray, List.set_cons_zero, List.set_cons_succ]
          refine wpAnyH_take (i := 12) (oi := { dst := some 30, op := Go.Op.indexAddr 26 (Go.Operand.tmp 27) (Go.Operand.tmp 29), type := 0, pos := "zsortanyfunc.go:12", after := #[{ on := 9, ground := Go.Ground.data }, { on := 11, ground := Go.Ground.data }, { on := 3, ground := Go.Ground.guard }], guard := some (3, true) }) (v := undef) rfl (by kernel_rfl) (by kernel_rfl) (by kernel_rfl) (fun _ _ _ h => h) (Or.inr ⟨by rfl, rfl⟩) hHeld ?_
          simp only [Act.put, List.setIfInBounds_toArray, List.set_cons_zero, List.set_cons_succ]
          refine wpAnyH_take (i := 13) (oi := { dst := some 31, op := Go.Op.load 2 (Go.Operand.tmp 30), type := 2, pos := "zsortanyfunc.go:12", after := #[{ on := 12, ground := Go.Ground.data }, { on := 3, ground := Go.Ground.guard }], guard := some (3, true) }) (v := undef) rfl (by kernel_rfl) (by kernel_rfl) (by kernel_rfl) (fun _ _ _ h => h) (Or.inr ⟨by rfl, rfl⟩) hHeld ?_
          simp only [Act.put, List.setIfInBounds_toArray, List.set_cons_zero, List.set_cons_succ]
          refine wpAnyH_take (i := 14) (oi := { dst := some 32, op := Go.Op.call { callee := Go.Callee.value (Go.Operand.tmp 22), args := #[Go.Operand.tmp 26, Go.Operand.tmp 31], argTypes := #[2, 2] }, type := 3, pos := "zsortanyfunc.go:12", after := #[{ on := 4, ground := Go.Ground.data }, { on := 8, ground := Go.Ground.data }, { on := 13, ground := Go.Ground.data }, { on := 3, ground := Go.Ground.chain }, { on := 3, ground := Go.Ground.guard }], guard := some (3, true) }) (v := undef) rfl (by kernel_rfl) (by kernel_rfl) (by kernel_rfl) (fun _ _ _ h => h) (Or.inr ⟨by rfl, rfl⟩) hHeld ?_
          simp only [Act.put, List.setIfInBounds_toArray, List.set_cons_zero, List.set_cons_succ]
          refine wpAnyH_take (i := 15) (oi := { dst := some 33, op := Go.Op.binOp Go.BinOp.lss 3 (Go.Operand.tmp 32) (Go.Operand.const (Go.Value.int Go.IntKind.i64 0)) 3, type := 4, pos := "zsortanyfunc.go:12", after := #[{ on := 14, ground := Go.Ground.data }, { on := 3, ground := Go.Ground.guard }], guard := some (3, true) }) (v := undef) rfl (by kernel_rfl) (by kernel_rfl) (by kernel_rfl) (fun _ _ _ h => h) (Or.inr ⟨by rfl, rfl⟩) hHeld ?_
          simp only [Act.put, List.setIfInBounds_toArray, List.set_cons_zero, List.set_cons_succ]
          refine wpAnyH_take (i := 16) (oi := { dst := some 34, op := Go.Op.pick (Go.Operand.tmp 21) (Go.Operand.tmp 33) (Go.Operand.const (Go.Value.bool false)), type := 4, pos := "zsortanyfunc.go:12", after := #[{ on := 3, ground := Go.Ground.data }, { on := 15, ground := Go.Ground.data }], guard := none }) (v := ?vx16) rfl (by kernel_rfl) (by kernel_rfl) (by kernel_rfl) (fun _ _ _ h => h) (Or.inl ⟨by rfl, ?hx16⟩) hHeld ?rx16
          case hx16 =>
            intro wS hSw
            (try dsimp only at hSw)
            go_simp
            try with_reducible rfl
          case rx16 =>
          simp only [Act.put, List.setIfInBounds_toArray, List.set_cons_zero, List.set_cons_succ]
          refine wpAnyH_done (by kernel_rfl) ?_ _
          refine NoPanic.normal ?_
          have HW9 := hide (own_below (unhide HW) hHeld)
          have HE9 := hide ((unhide HE).trans (ext_of_below hHeld _))
          clear hHeld
          go_wp2_with fail
          go_roundw
          case rel => exact ⟨i + 1, d, by omega, by omega, by go_num, unhide HO2, unhide HW9, unhide HE9⟩
          case measure => simp [intOf]; omega
        | succ jp =>
          obtain ⟨p, hdp⟩ : ∃ p, d[jp]? = some p := ⟨_, List.getElem?_eq_getElem (by omega)⟩
          have hpn : p < cs.length := hI.below hlt p (List.mem_of_getElem? hdp)
          have hdj := hI.at
          have hpl : (plV d).length = cs.length * 1 := hown.1
          have HDJ : Hid (wr.cell? ⟨G, jp + 1, none⟩ = some (.int .i64 (i : Int))) := (hown.cellAt (jp + 1) (by omega)).trans (plV_at hdj)
          have HDP : Hid (wr.cell? ⟨G, jp, none⟩ = some (.int .i64 (p : Int))) := (hown.cellAt jp (by omega)).trans (plV_at hdp)
          have LC : Hid (∀ W, Below wr.heap.size wr W → _) := fun W hb => unhide LCC W (hE.trans (ext_of_below hb _)) i p hlt hpn
          have hcn := cmp_neg (hitAt cs q i).2 (hitAt cs q p).2
          have hj1 : jp + 1 < cs.length := by omega
          have hj2 : 0 ≤ (jp : Int) + 1 ∧ (jp : Int) + 1 < (cs.length : Int) := by omega
          have hj3 : IntKind.i64.wrap (jp : Int) = (jp : Int) := by simp only [IntKind.wrap_i64]; omega
          have hj4 : 0 ≤ (jp : Int) ∧ (jp : Int) < (cs.length : Int) := by omega
          have hj5 : IntKind.i64.wrap ((jp : Int) + 1 - 1) = (jp : Int) := by simp only [IntKind.wrap_i64]; omega
          have HI := hide hI
          have HW := hide hown
          have HE := hide hE
          have HDD := hide hdp
          generalize cmpI (hitAt cs q i).2 (hitAt cs q p).2 = cv at *
          clear hI hown hE hdj hdp
          by_cases hs : (hitAt cs q i).2 < (hitAt cs q p).2
          · rw [decide_eq_true hs] at hcn
            have HS := hide hs
            clear hs
            go_wp2_with fail
            refine wp_region_noPanic ?_
            refine wp_region_held_drew (S := fun w' => Below wr.heap.size wr w') (by kernel_rfl) (Below.refl _ _).drew (fun hHeld => ?_)
            generalize wr.drew = wD at hHeld ⊢
            refine wpAnyH_take (i := 0) (oi := { dst := some 18, op := Go.Op.move (Go.Operand.tmp 9), type := 3, pos := "zsortanyfunc.go:12", after := #[], guard := none }) (v := ?vy0) rfl (by kernel_rfl) (by kernel_rfl) (by kernel_rfl) (fun _ _ _ h => h) (Or.inl ⟨by rfl, ?hy0⟩) hHeld ?ry0
            case hy0 =>
              intro wS hSw
              (try dsimp only at hSw)
              go_simp
              try with_reducible rfl
            case ry0 =>
            simp only [Act.put, List.setIfInBounds_toArray, List.set_cons_zero, List.set_cons_succ]
            refine wpAnyH_take (i := 1) (oi := { dst := some 19, op := Go.Op.move (Go.Operand.tmp 1), type := 3, pos := "zsortanyfunc.go:12", after := #[], guard := none }) (v := ?vy1) rfl (by kernel_rfl) (by kernel_rfl) (by kernel_rfl) (fun _ _ _ h => h) (Or.inl ⟨by rfl, ?hy1⟩) hHeld ?ry1
            case hy1 =>
              intro wS hSw
              (try dsimp only at hSw)
              go_simp
              try with_reducible rfl
            case ry1 =>
            simp only [Act.put, List.setIfInBounds_toArray, List.set_cons_zero, List.set_cons_succ]
            refine wpAnyH_take (i := 2) (oi := { dst := some 20, op := Go.Op.binOp Go.BinOp.gtr 3 (Go.Operand.tmp 18) (Go.Operand.tmp 19) 3, type := 4, pos := "zsortanyfunc.go:12", after := #[{ on := 0, ground := Go.Ground.data }, { on := 1, ground := Go.Ground.data }], guard := none }) (v := ?vy2) rfl (by kernel_rfl) (by kernel_rfl) (by kernel_rfl) (fun _ _ _ h => h) (Or.inl ⟨by rfl, ?hy2⟩) hHeld ?ry2
            case hy2 =>
              intro wS hSw
              (try dsimp only at hSw)
              go_simp
              try with_reducible rfl
            case ry2 =>
            simp only [Act.put, List.setIfInBounds_toArray, List.set_cons_zero, List.set_cons_succ]
            refine wpAnyH_take (i := 3) (oi := { dst := some 21, op := Go.Op.move (Go.Operand.tmp 20), type := 4, pos := "zsortanyfunc.go:12", after := #[{ on := 2, ground := Go.Ground.data }], guard := none }) (v := ?vy3) rfl (by kernel_rfl) (by kernel_rfl) (by kernel_rfl) (fun _ _ _ h => h) (Or.inl ⟨by rfl, ?hy3⟩) hHeld ?ry3
            case hy3 =>
              intro wS hSw
              (try dsimp only at hSw)
              go_simp
              try with_reducible rfl
            case ry3 =>
            simp only [Act.put, List.setIfInBounds_toArray, List.set_cons_zero, List.set_cons_succ]
            refine wpAnyH_take (i := 4) (oi := { dst := some 22, op := Go.Op.move (Go.Operand.tmp 3), type := 175, pos := "zsortanyfunc.go:12", after := #[{ on := 3, ground := Go.Ground.guard }], guard := some (3, true) }) (v := ?vy4) rfl (by kernel_rfl) (by kernel_rfl) (by kernel_rfl) (fun _ _ _ h => h) (Or.inl ⟨by rfl, ?hy4⟩) hHeld ?ry4
            case hy4 =>
              intro wS hSw
              (try dsimp only at hSw)
              go_simp
              try with_reducible rfl
            case ry4 =>
            simp only [Act.put, List.setIfInBounds_toArray, List.set_cons_zero, List.set_cons_succ]
            refine wpAnyH_take (i := 5) (oi := { dst := some 23, op := Go.Op.move (Go.Operand.tmp 0), type := 26, pos := "zsortanyfunc.go:12", after := #[{ on := 3, ground := Go.Ground.guard }], guard := some (3, true) }) (v := ?vy5) rfl (by kernel_rfl) (by kernel_rfl) (by kernel_rfl) (fun _ _ _ h => h) (Or.inl ⟨by rfl, ?hy5⟩) hHeld ?ry5
            case hy5 =>
              intro wS hSw
              (try dsimp only at hSw)
              go_simp
              try with_reducible rfl
            case ry5 =>
            simp only [Act.put, List.setIfInBounds_toArray, List.set_cons_zero, List.set_cons_succ]
            refine wpAnyH_take (i := 6) (oi := { dst := some 24, op := Go.Op.move (Go.Operand.tmp 9), type := 3, pos := "zsortanyfunc.go:12", after := #[{ on := 3, ground := Go.Ground.guard }], guard := some (3, true) }) (v := ?vy6) rfl (by kernel_rfl) (by kernel_rfl) (by kernel_rfl) (fun _ _ _ h => h) (Or.inl ⟨by rfl, ?hy6⟩) hHeld ?ry6
            case hy6 =>
              intro wS hSw
              (try dsimp only at hSw)
              go_simp
              try with_reducible rfl
            case ry6 =>
            simp only [Act.put, List.setIfInBounds_toArray, List.set_cons_zero, List.set_cons_succ]
            refine wpAnyH_take (i := 7) (oi := { dst := some 25, op := Go.Op.indexAddr 26 (Go.Operand.tmp 23) (Go.Operand.tmp 24), type := 0, pos := "zsortanyfunc.go:12", after := #[{ on := 5, ground := Go.Ground.data }, { on := 6, ground := Go.Ground.data }, { on := 3, ground := Go.Ground.guard }], guard := some (3, true) }) (v := ?vy7) rfl (by kernel_rfl) (by kernel_rfl) (by kernel_rfl) (fun _ _ _ h => h) (Or.inl ⟨by rfl, ?hy7⟩) hHeld ?ry7
            case hy7 =>
              intro wS hSw
              (try dsimp only at hSw)
              go_simp
              try with_reducible rfl
            case ry7 =>
            simp only [Act.put, List.setIfInBounds_toArray, List.set_cons_zero, List.set_cons_succ]
            refine wpAnyH_take (i := 8) (oi := { dst := some 26, op := Go.Op.load 2 (Go.Operand.tmp 25), type := 2, pos := "zsortanyfunc.go:12", after := #[{ on := 7, ground := Go.Ground.data }, { on := 3, ground := Go.Ground.guard }], guard := some (3, true) }) (v := ?vy8) rfl (by kernel_rfl) (by kernel_rfl) (by kernel_rfl) (fun _ _ _ h => h) (Or.inl ⟨by rfl, ?hy8⟩) hHeld ?ry8
            case hy8 =>
              intro wS hSw
              have y0 := cell_keep hSw (unhide HDJ)
              clear hSw
              (try dsimp only at hSw)
              go_simp
              try with_reducible rfl
            case ry8 =>
            simp only [Act.put, List.setIfInBounds_toArray, List.set_cons_zero, List.set_cons_succ]
            refine wpAnyH_take (i := 9) (oi := { dst := some 27, op := Go.Op.move (Go.Operand.tmp 0), type := 26, pos := "zsortanyfunc.go:12", after := #[{ on := 3, ground := Go.Ground.guard }], guard := some (3, true) }) (v := ?vy9) rfl (by kernel_rfl) (by kernel_rfl) (by kernel_rfl) (fun _ _ _ h => h) (Or.inl ⟨by rfl, ?hy9⟩) hHeld ?ry9
            case hy9 =>
              intro wS hSw
              (try dsimp only at hSw)
              go_simp
              try with_reducible rfl
            case ry9 =>
            simp only [Act.put, List.setIfInBounds_toArray, List.set_cons_zero, List.set_cons_succ]
            refine wpAnyH_take (i := 10) (oi := { dst := some 28, op := Go.Op.move (Go.Operand.tmp 9), type := 3, pos := "zsortanyfunc.go:12", after := #[{ on := 3, ground := Go.Ground.guard }], guard := some (3, true) }) (v := ?vy10) rfl (by kernel_rfl) (by kernel_rfl) (by kernel_rfl) (fun _ _ _ h => h) (Or.inl ⟨by rfl, ?hy10⟩) hHeld ?ry10
            case hy10 =>
              intro wS hSw
              (try dsimp only at hSw)
              go_simp
              try with_reducible rfl
            case ry10 =>
            simp only [Act.put, List.setIfInBounds_toArray, List.set_cons_zero, List.set_cons_succ]
            refine wpAnyH_take (i := 11) (oi := { dst := some 29, op := Go.Op.binOp Go.BinOp.sub 3 (Go.Operand.tmp 28) (Go.Operand.const (Go.Value.int Go.IntKind.i64 1)) 3, type := 3, pos := "zsortanyfunc.go:12", after := #[{ on := 10, ground := Go.Ground.data }, { on := 3, ground := Go.Ground.guard }], guard := some (3, true) }) (v := ?vy11) rfl (by kernel_rfl) (by kernel_rfl) (by kernel_rfl) (fun _ _ _ h => h) (Or.inl ⟨by rfl, ?hy11⟩) hHeld ?ry11
            case hy11 =>
              intro wS hSw
              (try dsimp only at hSw)
              go_simp
              try with_reducible rfl
            case ry11 =>
            simp only [Act.put, List.setIfInBounds_toArray, List.set_cons_zero, List.set_cons_succ]
            refine wpAnyH_take (i := 12) (oi := { dst := some 30, op := Go.Op.indexAddr 26 (Go.Operand.tmp 27) (Go.Operand.tmp 29), type := 0, pos := "zsortanyfunc.go:12", after := #[{ on := 9, ground := Go.Ground.data }, { on := 11, ground := Go.Ground.data }, { on := 3, ground := Go.Ground.guard }], guard := some (3, true) }) (v := ?vy12) rfl (by kernel_rfl) (by kernel_rfl) (by kernel_rfl) (fun _ _ _ h => h) (Or.inl ⟨by rfl, ?hy12⟩) hHeld ?ry12
            case hy12 =>
              intro wS hSw
              (try dsimp only at hSw)
              go_simp
              try with_reducible rfl
            case ry12 =>
            simp only [Act.put, List.setIfInBounds_toArray, List.set_cons_zero, List.set_cons_succ]
            refine wpAnyH_take (i := 13) (oi := { dst := some 31, op := Go.Op.load 2 (Go.Operand.tmp 30), type := 2, pos := "zsortanyfunc.go:12", after := #[{ on := 12, ground := Go.Ground.data }, { on := 3, ground := Go.Ground.guard }], guard := some (3, true) }) (v := ?vy13) rfl (by kernel_rfl) (by kernel_rfl) (by kernel_rfl) (fun _ _ _ h => h) (Or.inl ⟨by rfl, ?hy13⟩) hHeld ?ry13
            case hy13 =>
              intro wS hSw
              have y0 := cell_keep hSw (unhide HDP)
              clear hSw
              (try dsimp only at hSw)
              go_simp
              try with_reducible rfl
            case ry13 =>
            simp only [Act.put, List.setIfInBounds_toArray, List.set_cons_zero, List.set_cons_succ]
            refine wpAnyH_ready (rs := [14]) (by kernel_rfl) (by simp) ?_
            refine AllReadyH.cons (o := { dst := some 32, op := Go.Op.call { callee := Go.Callee.value (Go.Operand.tmp 22), args := #[Go.Operand.tmp 26, Go.Operand.tmp 31], argTypes := #[2, 2] }, type := 3, pos := "zsortanyfunc.go:12", after := #[{ on := 4, ground := Go.Ground.data }, { on := 8, ground := Go.Ground.data }, { on := 13, ground := Go.Ground.data }, { on := 3, ground := Go.Ground.chain }, { on := 3, ground := Go.Ground.guard }], guard := some (3, true) }) rfl (fun K hK => ?_) AllReadyH.nil
            go_simp
            refine (unhide LC _ hHeld).mono ?_
            rintro e w5 ⟨rfl, hb5⟩
            try go_wp2_with fail
            refine hK.out _ _ (hHeld.trans (hb5.mono hHeld.size)) (fun hHeld => ?_)
            clear hK K
            try simp only [Act.put, List.setIfInBounds_toArray, List.set_cons_zero, List.set_cons_succ]
            refine wpAnyH_take (i := 15) (oi := { dst := some 33, op := Go.Op.binOp Go.BinOp.lss 3 (Go.Operand.tmp 32) (Go.Operand.const (Go.Value.int Go.IntKind.i64 0)) 3, type := 4, pos := "zsortanyfunc.go:12", after := #[{ on := 14, ground := Go.Ground.data }, { on := 3, ground := Go.Ground.guard }], guard := some (3, true) }) (v := ?vy15) rfl (by kernel_rfl) (by kernel_rfl) (by kernel_rfl) (fun _ _ _ h => h) (Or.inl ⟨by rfl, ?hy15⟩) hHeld ?ry15
            case hy15 =>
              intro wS hSw
              (try dsimp only at hSw)
              go_simp
              try with_reducible rfl
            case ry15 =>
            simp only [Act.put, List.setIfInBounds_toArray, List.set_cons_zero, List.set_cons_succ]
            refine wpAnyH_take (i := 16) (oi := { dst := some 34, op := Go.Op.pick (Go.Operand.tmp 21) (Go.Operand.tmp 33) (Go.Operand.const (Go.Value.bool false)), type := 4, pos := "zsortanyfunc.go:12", after := #[{ on := 3, ground := Go.Ground.data }, { on := 15, ground := Go.Ground.data }], guard := none }) (v := ?vy16) rfl (by kernel_rfl) (by kernel_rfl) (by kernel_rfl) (fun _ _ _ h => h) (Or.inl ⟨by rfl, ?hy16⟩) hHeld ?ry16
            case hy16 =>
              intro wS hSw
              (try dsimp only at hSw)
              go_simp
              try with_reducible rfl
            case ry16 =>
            simp only [Act.put, List.setIfInBounds_toArray, List.set_cons_zero, List.set_cons_succ]
            refine wpAnyH_done (by kernel_rfl) ?_ _
            refine NoPanic.normal ?_
            have HW5 := hide (own_below (unhide HW) hHeld)
            have HE5 := hide ((unhide HE).trans (ext_of_below hHeld _))
            have hDj5 := cell_keep hHeld (unhide HDJ)
            have hDp5 := cell_keep hHeld (unhide HDP)
            have HJ5 := hide hDj5
            have HP5 := hide hDp5
            clear hHeld hDj5 hDp5 hb5
            go_wp2_with fail
            have hDW : w5.drew.ownsRow G 2 1 (.slice (some ⟨G, 0, none⟩) cs.length cs.length) cs.length (plV d) := (unhide HW5).drew
            have hDj : w5.drew.cell? ⟨G, jp + 1, none⟩ = some (.int .i64 (i : Int)) := unhide HJ5
            have hDp : w5.drew.cell? ⟨G, jp, none⟩ = some (.int .i64 (p : Int)) := unhide HP5
            refine wp_region_noPanic ?_
            refine wp_region_held_drew (S := fun w' => Ext (fun c => c = G) w5 w') (by kernel_rfl) (Ext.refl _ _).drew1 (fun hHeld => ?_)
            generalize w5.drew = wE at hHeld hDW hDj hDp ⊢
            refine wpAnyH_take (i := 0) (oi := { dst := some 37, op := Go.Op.move (Go.Operand.tmp 0), type := 26, pos := "zsortanyfunc.go:13", after := #[], guard := none }) (v := ?vw0_1) rfl (by kernel_rfl) (by kernel_rfl) (by kernel_rfl) (fun _ _ _ h => h) (Or.inl ⟨by rfl, ?hw0_1⟩) hHeld ?rw0_1
            case hw0_1 =>
              intro wS hSw
              (try dsimp only at hSw)
              go_simp
              try with_reducible rfl
            case rw0_1 =>
            simp only [Act.put, List.setIfInBounds_toArray, List.set_cons_zero, List.set_cons_succ]
            refine wpAnyH_take (i := 1) (oi := { dst := some 38, op := Go.Op.move (Go.Operand.tmp 9), type := 3, pos := "zsortanyfunc.go:13", after := #[], guard := none }) (v := ?vw1_2) rfl (by kernel_rfl) (by kernel_rfl) (by kernel_rfl) (fun _ _ _ h => h) (Or.inl ⟨by rfl, ?hw1_2⟩) hHeld ?rw1_2
            case hw1_2 =>
              intro wS hSw
              (try dsimp only at hSw)
              go_simp
              try with_reducible rfl
            case rw1_2 =>
            simp only [Act.put, List.setIfInBounds_toArray, List.set_cons_zero, List.set_cons_succ]
            refine wpAnyH_take (i := 2) (oi := { dst := some 39, op := Go.Op.move (Go.Operand.tmp 0), type := 26, pos := "zsortanyfunc.go:13", after := #[{ on := 15, ground := Go.Ground.gcOnly Go.Departure.lateStores }], guard := none }) (v := ?vw2_3) rfl (by kernel_rfl) (by kernel_rfl) (by kernel_rfl) (fun _ _ _ h => h) (Or.inl ⟨by rfl, ?hw2_3⟩) hHeld ?rw2_3
            case hw2_3 =>
              intro wS hSw
              (try dsimp only at hSw)
              go_simp
              try with_reducible rfl
            case rw2_3 =>
            simp only [Act.put, List.setIfInBounds_toArray, List.set_cons_zero, List.set_cons_succ]
            refine wpAnyH_take (i := 3) (oi := { dst := some 40, op := Go.Op.move (Go.Operand.tmp 9), type := 3, pos := "zsortanyfunc.go:13", after := #[{ on := 15, ground := Go.Ground.gcOnly Go.Departure.lateStores }], guard := none }) (v := ?vw3_4) rfl (by kernel_rfl) (by kernel_rfl) (by kernel_rfl) (fun _ _ _ h => h) (Or.inl ⟨by rfl, ?hw3_4⟩) hHeld ?rw3_4
            case hw3_4 =>
              intro wS hSw
              (try dsimp only at hSw)
              go_simp
              try with_reducible rfl
            case rw3_4 =>
            simp only [Act.put, List.setIfInBounds_toArray, List.set_cons_zero, List.set_cons_succ]
            refine wpAnyH_take (i := 4) (oi := { dst := some 41, op := Go.Op.binOp Go.BinOp.sub 3 (Go.Operand.tmp 40) (Go.Operand.const (Go.Value.int Go.IntKind.i64 1)) 3, type := 3, pos := "zsortanyfunc.go:13", after := #[{ on := 3, ground := Go.Ground.data }, { on := 15, ground := Go.Ground.gcOnly Go.Departure.lateStores }], guard := none }) (v := ?vw4_5) rfl (by kernel_rfl) (by kernel_rfl) (by kernel_rfl) (fun _ _ _ h => h) (Or.inl ⟨by rfl, ?hw4_5⟩) hHeld ?rw4_5
            case hw4_5 =>
              intro wS hSw
              (try dsimp only at hSw)
              go_simp
              try with_reducible rfl
            case rw4_5 =>
            simp only [Act.put, List.setIfInBounds_toArray, List.set_cons_zero, List.set_cons_succ]
            refine wpAnyH_take (i := 5) (oi := { dst := some 42, op := Go.Op.move (Go.Operand.tmp 0), type := 26, pos := "zsortanyfunc.go:13", after := #[], guard := none }) (v := ?vw5_6) rfl (by kernel_rfl) (by kernel_rfl) (by kernel_rfl) (fun _ _ _ h => h) (Or.inl ⟨by rfl, ?hw5_6⟩) hHeld ?rw5_6
            case hw5_6 =>
              intro wS hSw
              (try dsimp only at hSw)
              go_simp
              try with_reducible rfl
            case rw5_6 =>
            simp only [Act.put, List.setIfInBounds_toArray, List.set_cons_zero, List.set_cons_succ]
            refine wpAnyH_take (i := 6) (oi := { dst := some 43, op := Go.Op.move (Go.Operand.tmp 9), type := 3, pos := "zsortanyfunc.go:13", after := #[], guard := none }) (v := ?vw6_7) rfl (by kernel_rfl) (by kernel_rfl) (by kernel_rfl) (fun _ _ _ h => h) (Or.inl ⟨by rfl, ?hw6_7⟩) hHeld ?rw6_7
            case hw6_7 =>
              intro wS hSw
              (try dsimp only at hSw)
              go_simp
              try with_reducible rfl
            case rw6_7 =>
            simp only [Act.put, List.setIfInBounds_toArray, List.set_cons_zero, List.set_cons_succ]
            refine wpAnyH_take (i := 7) (oi := { dst := some 44, op := Go.Op.binOp Go.BinOp.sub 3 (Go.Operand.tmp 43) (Go.Operand.const (Go.Value.int Go.IntKind.i64 1)) 3, type := 3, pos := "zsortanyfunc.go:13", after := #[{ on := 6, ground := Go.Ground.data }], guard := none }) (v := ?vw7_8) rfl (by kernel_rfl) (by kernel_rfl) (by kernel_rfl) (fun _ _ _ h => h) (Or.inl ⟨by rfl, ?hw7_8⟩) hHeld ?rw7_8
            case hw7_8 =>
              intro wS hSw
              (try dsimp only at hSw)
              go_simp
              try with_reducible rfl
            case rw7_8 =>
            simp only [Act.put, List.setIfInBounds_toArray, List.set_cons_zero, List.set_cons_succ]
            refine wpAnyH_take (i := 8) (oi := { dst := some 45, op := Go.Op.indexAddr 26 (Go.Operand.tmp 42) (Go.Operand.tmp 44), type := 0, pos := "zsortanyfunc.go:13", after := #[{ on := 5, ground := Go.Ground.data }, { on := 7, ground := Go.Ground.data }], guard := none }) (v := ?vw8_9) rfl (by kernel_rfl) (by kernel_rfl) (by kernel_rfl) (fun _ _ _ h => h) (Or.inl ⟨by rfl, ?hw8_9⟩) hHeld ?rw8_9
            case hw8_9 =>
              intro wS hSw
              (try dsimp only at hSw)
              go_simp
              try with_reducible rfl
            case rw8_9 =>
            simp only [Act.put, List.setIfInBounds_toArray, List.set_cons_zero, List.set_cons_succ]
            refine wpAnyH_take (i := 10) (oi := { dst := some 47, op := Go.Op.move (Go.Operand.tmp 0), type := 26, pos := "zsortanyfunc.go:13", after := #[], guard := none }) (v := ?vw10_10) rfl (by kernel_rfl) (by kernel_rfl) (by kernel_rfl) (fun _ _ _ h => h) (Or.inl ⟨by rfl, ?hw10_10⟩) hHeld ?rw10_10
            case hw10_10 =>
              intro wS hSw
              (try dsimp only at hSw)
              go_simp
              try with_reducible rfl
            case rw10_10 =>
            simp only [Act.put, List.setIfInBounds_toArray, List.set_cons_zero, List.set_cons_succ]
            refine wpAnyH_take (i := 11) (oi := { dst := some 48, op := Go.Op.move (Go.Operand.tmp 9), type := 3, pos := "zsortanyfunc.go:13", after := #[], guard := none }) (v := ?vw11_11) rfl (by kernel_rfl) (by kernel_rfl) (by kernel_rfl) (fun _ _ _ h => h) (Or.inl ⟨by rfl, ?hw11_11⟩) hHeld ?rw11_11
            case hw11_11 =>
              intro wS hSw
              (try dsimp only at hSw)
              go_simp
              try with_reducible rfl
            case rw11_11 =>
            simp only [Act.put, List.setIfInBounds_toArray, List.set_cons_zero, List.set_cons_succ]
            refine wpAnyH_take (i := 12) (oi := { dst := some 49, op := Go.Op.indexAddr 26 (Go.Operand.tmp 47) (Go.Operand.tmp 48), type := 0, pos := "zsortanyfunc.go:13", after := #[{ on := 10, ground := Go.Ground.data }, { on := 11, ground := Go.Ground.data }], guard := none }) (v := ?vw12_12) rfl (by kernel_rfl) (by kernel_rfl) (by kernel_rfl) (fun _ _ _ h => h) (Or.inl ⟨by rfl, ?hw12_12⟩) hHeld ?rw12_12
            case hw12_12 =>
              intro wS hSw
              (try dsimp only at hSw)
              go_simp
              try with_reducible rfl
            case rw12_12 =>
            simp only [Act.put, List.setIfInBounds_toArray, List.set_cons_zero, List.set_cons_succ]
            refine wpAnyH_ready (rs := [9, 13]) (by kernel_rfl) (by simp) ?_
            refine AllReadyH.cons (o := { dst := some 46, op := Go.Op.load 2 (Go.Operand.tmp 45), type := 2, pos := "zsortanyfunc.go:13", after := #[{ on := 8, ground := Go.Ground.data }], guard := none }) rfl (fun K hK => ?ow9_13) (AllReadyH.cons (o := { dst := some 50, op := Go.Op.load 2 (Go.Operand.tmp 49), type := 2, pos := "zsortanyfunc.go:13", after := #[{ on := 12, ground := Go.Ground.data }], guard := none }) rfl (fun K hK => ?ow13_13) (AllReadyH.nil))
            case ow9_13 =>
              have y0 := hDp
              go_simp
              refine hK.out _ _ hHeld (fun hHeld => ?_)
              clear hK K
              try simp only [Act.put, List.setIfInBounds_toArray, List.set_cons_zero, List.set_cons_succ]
              refine wpAnyH_ready (rs := [13]) (by kernel_rfl) (by simp) ?_
              refine AllReadyH.cons (o := { dst := some 50, op := Go.Op.load 2 (Go.Operand.tmp 49), type := 2, pos := "zsortanyfunc.go:13", after := #[{ on := 12, ground := Go.Ground.data }], guard := none }) rfl (fun K hK => ?_) AllReadyH.nil
              have y0 := hDj
              go_simp
              refine hK.out _ _ hHeld (fun hHeld => ?_)
              clear hK K
              try simp only [Act.put, List.setIfInBounds_toArray, List.set_cons_zero, List.set_cons_succ]
              refine wpAnyH_take (i := 14) (oi := { dst := some 51, op := Go.Op.indexAddr 26 (Go.Operand.tmp 37) (Go.Operand.tmp 38), type := 0, pos := "zsortanyfunc.go:13", after := #[{ on := 0, ground := Go.Ground.data }, { on := 1, ground := Go.Ground.data }, { on := 0, ground := Go.Ground.phase }, { on := 1, ground := Go.Ground.phase }, { on := 2, ground := Go.Ground.textOnly Go.Departure.lateStores }, { on := 3, ground := Go.Ground.textOnly Go.Departure.lateStores }, { on := 4, ground := Go.Ground.textOnly Go.Departure.lateStores }, { on := 5, ground := Go.Ground.phase }, { on := 6, ground := Go.Ground.phase }, { on := 7, ground := Go.Ground.phase }, { on := 8, ground := Go.Ground.phase }, { on := 9, ground := Go.Ground.phase }, { on := 10, ground := Go.Ground.textOnly Go.Departure.lateStores }, { on := 11, ground := Go.Ground.textOnly Go.Departure.lateStores }, { on := 12, ground := Go.Ground.textOnly Go.Departure.lateStoresUnsure }, { on := 13, ground := Go.Ground.phase }], guard := none }) (v := ?vw14_14) rfl (by kernel_rfl) (by kernel_rfl) (by kernel_rfl) (fun _ _ _ h => h) (Or.inl ⟨by rfl, ?hw14_14⟩) hHeld ?rw14_14
              case hw14_14 =>
                intro wS hSw
                (try dsimp only at hSw)
                go_simp
                try with_reducible rfl
              case rw14_14 =>
              simp only [Act.put, List.setIfInBounds_toArray, List.set_cons_zero, List.set_cons_succ]
              refine wpAnyH_ready (rs := [15]) (by kernel_rfl) (by simp) ?_
              refine AllReadyH.cons (o := { dst := none, op := Go.Op.store 2 (Go.Operand.tmp 51) (Go.Operand.tmp 46), type := 0, pos := "zsortanyfunc.go:13", after := #[{ on := 14, ground := Go.Ground.data }, { on := 9, ground := Go.Ground.data }, { on := 0, ground := Go.Ground.phase }, { on := 1, ground := Go.Ground.phase }, { on := 2, ground := Go.Ground.textOnly Go.Departure.lateStores }, { on := 3, ground := Go.Ground.textOnly Go.Departure.lateStores }, { on := 4, ground := Go.Ground.textOnly Go.Departure.lateStores }, { on := 5, ground := Go.Ground.phase }, { on := 6, ground := Go.Ground.phase }, { on := 7, ground := Go.Ground.phase }, { on := 8, ground := Go.Ground.phase }, { on := 9, ground := Go.Ground.phase }, { on := 10, ground := Go.Ground.textOnly Go.Departure.lateStores }, { on := 11, ground := Go.Ground.textOnly Go.Departure.lateStores }, { on := 12, ground := Go.Ground.textOnly Go.Departure.lateStoresUnsure }, { on := 13, ground := Go.Ground.phase }], guard := none }) rfl (fun K hK => ?_) AllReadyH.nil
              have y0 := hDj
              have f0 := hDW.frozenAt (jp + 1)
              have l0 := (hDW.lt G rfl).2
              go_simp
              refine hK.out _ _ (hHeld.setCell _ _ rfl) (fun hHeld => ?_)
              clear hK K
              try simp only [Act.put, List.setIfInBounds_toArray, List.set_cons_zero, List.set_cons_succ]
              refine wpAnyH_take (i := 16) (oi := { dst := some 52, op := Go.Op.indexAddr 26 (Go.Operand.tmp 39) (Go.Operand.tmp 41), type := 0, pos := "zsortanyfunc.go:13", after := #[{ on := 2, ground := Go.Ground.data }, { on := 4, ground := Go.Ground.data }, { on := 0, ground := Go.Ground.phase }, { on := 1, ground := Go.Ground.phase }, { on := 2, ground := Go.Ground.phase }, { on := 3, ground := Go.Ground.phase }, { on := 4, ground := Go.Ground.phase }, { on := 5, ground := Go.Ground.phase }, { on := 6, ground := Go.Ground.phase }, { on := 7, ground := Go.Ground.phase }, { on := 8, ground := Go.Ground.phase }, { on := 9, ground := Go.Ground.phase }, { on := 10, ground := Go.Ground.phase }, { on := 11, ground := Go.Ground.phase }, { on := 12, ground := Go.Ground.phase }, { on := 13, ground := Go.Ground.phase }, { on := 14, ground := Go.Ground.phase }, { on := 15, ground := Go.Ground.phase }], guard := none }) (v := ?vw16_15) rfl (by kernel_rfl) (by kernel_rfl) (by kernel_rfl) (fun _ _ _ h => h) (Or.inl ⟨by rfl, ?hw16_15⟩) hHeld ?rw16_15
              case hw16_15 =>
                intro wS hSw
                (try dsimp only at hSw)
                go_simp
                try with_reducible rfl
              case rw16_15 =>
              simp only [Act.put, List.setIfInBounds_toArray, List.set_cons_zero, List.set_cons_succ]
              refine wpAnyH_ready (rs := [17]) (by kernel_rfl) (by simp) ?_
              refine AllReadyH.cons (o := { dst := none, op := Go.Op.store 2 (Go.Operand.tmp 52) (Go.Operand.tmp 50), type := 0, pos := "zsortanyfunc.go:13", after := #[{ on := 16, ground := Go.Ground.data }, { on := 13, ground := Go.Ground.data }, { on := 15, ground := Go.Ground.chain }, { on := 0, ground := Go.Ground.phase }, { on := 1, ground := Go.Ground.phase }, { on := 2, ground := Go.Ground.phase }, { on := 3, ground := Go.Ground.phase }, { on := 4, ground := Go.Ground.phase }, { on := 5, ground := Go.Ground.phase }, { on := 6, ground := Go.Ground.phase }, { on := 7, ground := Go.Ground.phase }, { on := 8, ground := Go.Ground.phase }, { on := 9, ground := Go.Ground.phase }, { on := 10, ground := Go.Ground.phase }, { on := 11, ground := Go.Ground.phase }, { on := 12, ground := Go.Ground.phase }, { on := 13, ground := Go.Ground.phase }, { on := 14, ground := Go.Ground.phase }, { on := 15, ground := Go.Ground.phase }], guard := none }) rfl (fun K hK => ?_) AllReadyH.nil
              have y0 := hDp
              have f0 := hDW.frozenAt (jp)
              have l0 := (hDW.lt G rfl).2
              go_simp
              refine hK.out _ _ (hHeld.setCell _ _ rfl) (fun hHeld => ?_)
              clear hK K
              try simp only [Act.put, List.setIfInBounds_toArray, List.set_cons_zero, List.set_cons_succ]
              refine wpAnyH_done (by kernel_rfl) ?_ _
              refine NoPanic.normal ?_
              have hN := ((hDW.stored (jp + 1) (.int .i64 (p : Int))).1.stored jp (.int .i64 (i : Int))).1
              rw [← plV_set, ← plV_set] at hN
              have HN := hide hN
              have HE9 := hide ((unhide HE5).trans hHeld)
              clear hN hHeld hDW hDj hDp
              go_wp2_with fail
              go_roundw
              case rel => exact ⟨jp, _, by omega, by go_num, (unhide HI).swap (unhide HDD) (unhide HS), unhide HN, unhide HE9⟩
              case measure => simp [intOf]
            case ow13_13 =>
              have y0 := hDj
              go_simp
              refine hK.out _ _ hHeld (fun hHeld => ?_)
              clear hK K
              try simp only [Act.put, List.setIfInBounds_toArray, List.set_cons_zero, List.set_cons_succ]
              refine wpAnyH_ready (rs := [9]) (by kernel_rfl) (by simp) ?_
              refine AllReadyH.cons (o := { dst := some 46, op := Go.Op.load 2 (Go.Operand.tmp 45), type := 2, pos := "zsortanyfunc.go:13", after := #[{ on := 8, ground := Go.Ground.data }], guard := none }) rfl (fun K hK => ?_) AllReadyH.nil
              have y0 := hDp
              go_simp
              refine hK.out _ _ hHeld (fun hHeld => ?_)
              clear hK K
              try simp only [Act.put, List.setIfInBounds_toArray, List.set_cons_zero, List.set_cons_succ]
              refine wpAnyH_take (i := 14) (oi := { dst := some 51, op := Go.Op.indexAddr 26 (Go.Operand.tmp 37) (Go.Operand.tmp 38), type := 0, pos := "zsortanyfunc.go:13", after := #[{ on := 0, ground := Go.Ground.data }, { on := 1, ground := Go.Ground.data }, { on := 0, ground := Go.Ground.phase }, { on := 1, ground := Go.Ground.phase }, { on := 2, ground := Go.Ground.textOnly Go.Departure.lateStores }, { on := 3, ground := Go.Ground.textOnly Go.Departure.lateStores }, { on := 4, ground := Go.Ground.textOnly Go.Departure.lateStores }, { on := 5, ground := Go.Ground.phase }, { on := 6, ground := Go.Ground.phase }, { on := 7, ground := Go.Ground.phase }, { on := 8, ground := Go.Ground.phase }, { on := 9, ground := Go.Ground.phase }, { on := 10, ground := Go.Ground.textOnly Go.Departure.lateStores }, { on := 11, ground := Go.Ground.textOnly Go.Departure.lateStores }, { on := 12, ground := Go.Ground.textOnly Go.Departure.lateStoresUnsure }, { on := 13, ground := Go.Ground.phase }], guard := none }) (v := ?vw14_16) rfl (by kernel_rfl) (by kernel_rfl) (by kernel_rfl) (fun _ _ _ h => h) (Or.inl ⟨by rfl, ?hw14_16⟩) hHeld ?rw14_16
              case hw14_16 =>
                intro wS hSw
                (try dsimp only at hSw)
                go_simp
                try with_reducible rfl
              case rw14_16 =>
              simp only [Act.put, List.setIfInBounds_toArray, List.set_cons_zero, List.set_cons_succ]
              refine wpAnyH_ready (rs := [15]) (by kernel_rfl) (by simp) ?_
              refine AllReadyH.cons (o := { dst := none, op := Go.Op.store 2 (Go.Operand.tmp 51) (Go.Operand.tmp 46), type := 0, pos := "zsortanyfunc.go:13", after := #[{ on := 14, ground := Go.Ground.data }, { on := 9, ground := Go.Ground.data }, { on := 0, ground := Go.Ground.phase }, { on := 1, ground := Go.Ground.phase }, { on := 2, ground := Go.Ground.textOnly Go.Departure.lateStores }, { on := 3, ground := Go.Ground.textOnly Go.Departure.lateStores }, { on := 4, ground := Go.Ground.textOnly Go.Departure.lateStores }, { on := 5, ground := Go.Ground.phase }, { on := 6, ground := Go.Ground.phase }, { on := 7, ground := Go.Ground.phase }, { on := 8, ground := Go.Ground.phase }, { on := 9, ground := Go.Ground.phase }, { on := 10, ground := Go.Ground.textOnly Go.Departure.lateStores }, { on := 11, ground := Go.Ground.textOnly Go.Departure.lateStores }, { on := 12, ground := Go.Ground.textOnly Go.Departure.lateStoresUnsure }, { on := 13, ground := Go.Ground.phase }], guard := none }) rfl (fun K hK => ?_) AllReadyH.nil
              have y0 := hDj
              have f0 := hDW.frozenAt (jp + 1)
              have l0 := (hDW.lt G rfl).2
              go_simp
              refine hK.out _ _ (hHeld.setCell _ _ rfl) (fun hHeld => ?_)
              clear hK K
              try simp only [Act.put, List.setIfInBounds_toArray, List.set_cons_zero, List.set_cons_succ]
              refine wpAnyH_take (i := 16) (oi := { dst := some 52, op := Go.Op.indexAddr 26 (Go.Operand.tmp 39) (Go.Operand.tmp 41), type := 0, pos := "zsortanyfunc.go:13", after := #[{ on := 2, ground := Go.Ground.data }, { on := 4, ground := Go.Ground.data }, { on := 0, ground := Go.Ground.phase }, { on := 1, ground := Go.Ground.phase }, { on := 2, ground := Go.Ground.phase }, { on := 3, ground := Go.Ground.phase }, { on := 4, ground := Go.Ground.phase }, { on := 5, ground := Go.Ground.phase }, { on := 6, ground := Go.Ground.phase }, { on := 7, ground := Go.Ground.phase }, { on := 8, ground := Go.Ground.phase }, { on := 9, ground := Go.Ground.phase }, { on := 10, ground := Go.Ground.phase }, { on := 11, ground := Go.Ground.phase }, { on := 12, ground := Go.Ground.phase }, { on := 13, ground := Go.Ground.phase }, { on := 14, ground := Go.Ground.phase }, { on := 15, ground := Go.Ground.phase }], guard := none }) (v := ?vw16_17) rfl (by kernel_rfl) (by kernel_rfl) (by kernel_rfl) (fun _ _ _ h => h) (Or.inl ⟨by rfl, ?hw16_17⟩) hHeld ?rw16_17
              case hw16_17 =>
                intro wS hSw
                (try dsimp only at hSw)
                go_simp
                try with_reducible rfl
              case rw16_17 =>
              simp only [Act.put, List.setIfInBounds_toArray, List.set_cons_zero, List.set_cons_succ]
              refine wpAnyH_ready (rs := [17]) (by kernel_rfl) (by simp) ?_
              refine AllReadyH.cons (o := { dst := none, op := Go.Op.store 2 (Go.Operand.tmp 52) (Go.Operand.tmp 50), type := 0, pos := "zsortanyfunc.go:13", after := #[{ on := 16, ground := Go.Ground.data }, { on := 13, ground := Go.Ground.data }, { on := 15, ground := Go.Ground.chain }, { on := 0, ground := Go.Ground.phase }, { on := 1, ground := Go.Ground.phase }, { on := 2, ground := Go.Ground.phase }, { on := 3, ground := Go.Ground.phase }, { on := 4, ground := Go.Ground.phase }, { on := 5, ground := Go.Ground.phase }, { on := 6, ground := Go.Ground.phase }, { on := 7, ground := Go.Ground.phase }, { on := 8, ground := Go.Ground.phase }, { on := 9, ground := Go.Ground.phase }, { on := 10, ground := Go.Ground.phase }, { on := 11, ground := Go.Ground.phase }, { on := 12, ground := Go.Ground.phase }, { on := 13, ground := Go.Ground.phase }, { on := 14, ground := Go.Ground.phase }, { on := 15, ground := Go.Ground.phase }], guard := none }) rfl (fun K hK => ?_) AllReadyH.nil
              have y0 := hDp
              have f0 := hDW.frozenAt (jp)
              have l0 := (hDW.lt G rfl).2
              go_simp
              refine hK.out _ _ (hHeld.setCell _ _ rfl) (fun hHeld => ?_)
              clear hK K
              try simp only [Act.put, List.setIfInBounds_toArray, List.set_cons_zero, List.set_cons_succ]
              refine wpAnyH_done (by kernel_rfl) ?_ _
              refine NoPanic.normal ?_
              have hN := ((hDW.stored (jp + 1) (.int .i64 (p : Int))).1.stored jp (.int .i64 (i : Int))).1
              rw [← plV_set, ← plV_set] at hN
              have HN := hide hN
              have HE9 := hide ((unhide HE5).trans hHeld)
              clear hN hHeld hDW hDj hDp
              go_wp2_with fail
              go_roundw
              case rel => exact ⟨jp, _, by omega, by go_num, (unhide HI).swap (unhide HDD) (unhide HS), unhide HN, unhide HE9⟩
              case measure => simp [intOf]
          · rw [decide_eq_false hs] at hcn
            have HO2 := hide ((unhide HI).stop (fun p => rfl) (fun p2 _ h2 => by
              have e : jp + 1 - 1 = jp := rfl
              rw [e, unhide HDD] at h2
              obtain rfl := Option.some.inj h2
              omega))
            clear hs
            go_wp2_with fail
            refine wp_region_noPanic ?_
            refine wp_region_held_drew (S := fun w' => Below wr.heap.size wr w') (by kernel_rfl) (Below.refl _ _).drew (fun hHeld => ?_)
            generalize wr.drew = wD at hHeld ⊢
            refine wpAnyH_take (i := 0) (oi := { dst := some 18, op := Go.Op.move (Go.Operand.tmp 9), type := 3, pos := "zsortanyfunc.go:12", after := #[], guard := none }) (v := ?vz0) rfl (by kernel_rfl) (by kernel_rfl) (by kernel_rfl) (fun _ _ _ h => h) (Or.inl ⟨by rfl, ?hz0⟩) hHeld ?rz0
            case hz0 =>
              intro wS hSw
              (try dsimp only at hSw)
              go_simp
              try with_reducible rfl
            case rz0 =>
            simp only [Act.put, List.setIfInBounds_toArray, List.set_cons_zero, List.set_cons_succ]
            refine wpAnyH_take (i := 1) (oi := { dst := some 19, op := Go.Op.move (Go.Operand.tmp 1), type := 3, pos := "zsortanyfunc.go:12", after := #[], guard := none }) (v := ?vz1) rfl (by kernel_rfl) (by kernel_rfl) (by kernel_rfl) (fun _ _ _ h => h) (Or.inl ⟨by rfl, ?hz1⟩) hHeld ?rz1
            case hz1 =>
              intro wS hSw
              (try dsimp only at hSw)
              go_simp
              try with_reducible rfl
            case rz1 =>
            simp only [Act.put, List.setIfInBounds_toArray, List.set_cons_zero, List.set_cons_succ]
            refine wpAnyH_take (i := 2) (oi := { dst := some 20, op := Go.Op.binOp Go.BinOp.gtr 3 (Go.Operand.tmp 18) (Go.Operand.tmp 19) 3, type := 4, pos := "zsortanyfunc.go:12", after := #[{ on := 0, ground := Go.Ground.data }, { on := 1, ground := Go.Ground.data }], guard := none }) (v := ?vz2) rfl (by kernel_rfl) (by kernel_rfl) (by kernel_rfl) (fun _ _ _ h => h) (Or.inl ⟨by rfl, ?hz2⟩) hHeld ?rz2
            case hz2 =>
              intro wS hSw
              (try dsimp only at hSw)
              go_simp
              try with_reducible rfl
            case rz2 =>
            simp only [Act.put, List.setIfInBounds_toArray, List.set_cons_zero, List.set_cons_succ]
            refine wpAnyH_take (i := 3) (oi := { dst := some 21, op := Go.Op.move (Go.Operand.tmp 20), type := 4, pos := "zsortanyfunc.go:12", after := #[{ on := 2, ground := Go.Ground.data }], guard := none }) (v := ?vz3) rfl (by kernel_rfl) (by kernel_rfl) (by kernel_rfl) (fun _ _ _ h => h) (Or.inl ⟨by rfl, ?hz3⟩) hHeld ?rz3
            case hz3 =>
              intro wS hSw
              (try dsimp only at hSw)
              go_simp
              try with_reducible rfl
            case rz3 =>
            simp only [Act.put, List.setIfInBounds_toArray, List.set_cons_zero, List.set_cons_succ]
            refine wpAnyH_take (i := 4) (oi := { dst := some 22, op := Go.Op.move (Go.Operand.tmp 3), type := 175, pos := "zsortanyfunc.go:12", after := #[{ on := 3, ground := Go.Ground.guard }], guard := some (3, true) }) (v := ?vz4) rfl (by kernel_rfl) (by kernel_rfl) (by kernel_rfl) (fun _ _ _ h => h) (Or.inl ⟨by rfl, ?hz4⟩) hHeld ?rz4
            case hz4 =>
              intro wS hSw
              (try dsimp only at hSw)
              go_simp
              try with_reducible rfl
            case rz4 =>
            simp only [Act.put, List.setIfInBounds_toArray, List.set_cons_zero, List.set_cons_succ]
            refine wpAnyH_take (i := 5) (oi := { dst := some 23, op := Go.Op.move (Go.Operand.tmp 0), type := 26, pos := "zsortanyfunc.go:12", after := #[{ on := 3, ground := Go.Ground.guard }], guard := some (3, true) }) (v := ?vz5) rfl (by kernel_rfl) (by kernel_rfl) (by kernel_rfl) (fun _ _ _ h => h) (Or.inl ⟨by rfl, ?hz5⟩) hHeld ?rz5
            case hz5 =>
              intro wS hSw
              (try dsimp only at hSw)
              go_simp
              try with_reducible rfl
            case rz5 =>
            simp only [Act.put, List.setIfInBounds_toArray, List.set_cons_zero, List.set_cons_succ]
            refine wpAnyH_take (i := 6) (oi := { dst := some 24, op := Go.Op.move (Go.Operand.tmp 9), type := 3, pos := "zsortanyfunc.go:12", after := #[{ on := 3, ground := Go.Ground.guard }], guard := some (3, true) }) (v := ?vz6) rfl (by kernel_rfl) (by kernel_rfl) (by kernel_rfl) (fun _ _ _ h => h) (Or.inl ⟨by rfl, ?hz6⟩) hHeld ?rz6
            case hz6 =>
              intro wS hSw
              (try dsimp only at hSw)
              go_simp
              try with_reducible rfl
            case rz6 =>
            simp only [Act.put, List.setIfInBounds_toArray, List.set_cons_zero, List.set_cons_succ]
            refine wpAnyH_take (i := 7) (oi := { dst := some 25, op := Go.Op.indexAddr 26 (Go.Operand.tmp 23) (Go.Operand.tmp 24), type := 0, pos := "zsortanyfunc.go:12", after := #[{ on := 5, ground := Go.Ground.data }, { on := 6, ground := Go.Ground.data }, { on := 3, ground := Go.Ground.guard }], guard := some (3, true) }) (v := ?vz7) rfl (by kernel_rfl) (by kernel_rfl) (by kernel_rfl) (fun _ _ _ h => h) (Or.inl ⟨by rfl, ?hz7⟩) hHeld ?rz7
            case hz7 =>
              intro wS hSw
              (try dsimp only at hSw)
              go_simp
              try with_reducible rfl
            case rz7 =>
            simp only [Act.put, List.setIfInBounds_toArray, List.set_cons_zero, List.set_cons_succ]
            refine wpAnyH_take (i := 8) (oi := { dst := some 26, op := Go.Op.load 2 (Go.Operand.tmp 25), type := 2, pos := "zsortanyfunc.go:12", after := #[{ on := 7, ground := Go.Ground.data }, { on := 3, ground := Go.Ground.guard }], guard := some (3, true) }) (v := ?vz8) rfl (by kernel_rfl) (by kernel_rfl) (by kernel_rfl) (fun _ _ _ h => h) (Or.inl ⟨by rfl, ?hz8⟩) hHeld ?rz8
            case hz8 =>
              intro wS hSw
              have y0 := cell_keep hSw (unhide HDJ)
              clear hSw
              (try dsimp only at hSw)
              go_simp
              try with_reducible rfl
            case rz8 =>
            simp only [Act.put, List.setIfInBounds_toArray, List.set_cons_zero, List.set_cons_succ]
            refine wpAnyH_take (i := 9) (oi := { dst := some 27, op := Go.Op.move (Go.Operand.tmp 0), type := 26, pos := "zsortanyfunc.go:12", after := #[{ on := 3, ground := Go.Ground.guard }], guard := some (3, true) }) (v := ?vz9) rfl (by kernel_rfl) (by kernel_rfl) (by kernel_rfl) (fun _ _ _ h => h) (Or.inl ⟨by rfl, ?hz9⟩) hHeld ?rz9
            case hz9 =>
              intro wS hSw
              (try dsimp only at hSw)
              go_simp
              try with_reducible rfl
            case rz9 =>
            simp only [Act.put, List.setIfInBounds_toArray, List.set_cons_zero, List.set_cons_succ]
            refine wpAnyH_take (i := 10) (oi := { dst := some 28, op := Go.Op.move (Go.Operand.tmp 9), type := 3, pos := "zsortanyfunc.go:12", after := #[{ on := 3, ground := Go.Ground.guard }], guard := some (3, true) }) (v := ?vz10) rfl (by kernel_rfl) (by kernel_rfl) (by kernel_rfl) (fun _ _ _ h => h) (Or.inl ⟨by rfl, ?hz10⟩) hHeld ?rz10
            case hz10 =>
              intro wS hSw
              (try dsimp only at hSw)
              go_simp
              try with_reducible rfl
            case rz10 =>
            simp only [Act.put, List.setIfInBounds_toArray, List.set_cons_zero, List.set_cons_succ]
            refine wpAnyH_take (i := 11) (oi := { dst := some 29, op := Go.Op.binOp Go.BinOp.sub 3 (Go.Operand.tmp 28) (Go.Operand.const (Go.Value.int Go.IntKind.i64 1)) 3, type := 3, pos := "zsortanyfunc.go:12", after := #[{ on := 10, ground := Go.Ground.data }, { on := 3, ground := Go.Ground.guard }], guard := some (3, true) }) (v := ?vz11) rfl (by kernel_rfl) (by kernel_rfl) (by kernel_rfl) (fun _ _ _ h => h) (Or.inl ⟨by rfl, ?hz11⟩) hHeld ?rz11
            case hz11 =>
              intro wS hSw
              (try dsimp only at hSw)
              go_simp
              try with_reducible rfl
            case rz11 =>
            simp only [Act.put, List.setIfInBounds_toArray, List.set_cons_zero, List.set_cons_succ]
            refine wpAnyH_take (i := 12) (oi := { dst := some 30, op := Go.Op.indexAddr 26 (Go.Operand.tmp 27) (Go.Operand.tmp 29), type := 0, pos := "zsortanyfunc.go:12", after := #[{ on := 9, ground := Go.Ground.data }, { on := 11, ground := Go.Ground.data }, { on := 3, ground := Go.Ground.guard }], guard := some (3, true) }) (v := ?vz12) rfl (by kernel_rfl) (by kernel_rfl) (by kernel_rfl) (fun _ _ _ h => h) (Or.inl ⟨by rfl, ?hz12⟩) hHeld ?rz12
            case hz12 =>
              intro wS hSw
              (try dsimp only at hSw)
              go_simp
              try with_reducible rfl
            case rz12 =>
            simp only [Act.put, List.setIfInBounds_toArray, List.set_cons_zero, List.set_cons_succ]
            refine wpAnyH_take (i := 13) (oi := { dst := some 31, op := Go.Op.load 2 (Go.Operand.tmp 30), type := 2, pos := "zsortanyfunc.go:12", after := #[{ on := 12, ground := Go.Ground.data }, { on := 3, ground := Go.Ground.guard }], guard := some (3, true) }) (v := ?vz13) rfl (by kernel_rfl) (by kernel_rfl) (by kernel_rfl) (fun _ _ _ h => h) (Or.inl ⟨by rfl, ?hz13⟩) hHeld ?rz13
            case hz13 =>
              intro wS hSw
              have y0 := cell_keep hSw (unhide HDP)
              clear hSw
              (try dsimp only at hSw)
              go_simp
              try with_reducible rfl
            case rz13 =>
            simp only [Act.put, List.setIfInBounds_toArray, List.set_cons_zero, List.set_cons_succ]
            refine wpAnyH_ready (rs := [14]) (by kernel_rfl) (by simp) ?_
            refine AllReadyH.cons (o := { dst := some 32, op := Go.Op.call { callee := Go.Callee.value (Go.Operand.tmp 22), args := #[Go.Operand.tmp 26, Go.Operand.tmp 31], argTypes := #[2, 2] }, type := 3, pos := "zsortanyfunc.go:12", after := #[{ on := 4, ground := Go.Ground.data }, { on := 8, ground := Go.Ground.data }, { on := 13, ground := Go.Ground.data }, { on := 3, ground := Go.Ground.chain }, { on := 3, ground := Go.Ground.guard }], guard := some (3, true) }) rfl (fun K hK => ?_) AllReadyH.nil
            go_simp
            refine (unhide LC _ hHeld).mono ?_
            rintro e w5 ⟨rfl, hb5⟩
            try go_wp2_with fail
            refine hK.out _ _ (hHeld.trans (hb5.mono hHeld.size)) (fun hHeld => ?_)
            clear hK K
            try simp only [Act.put, List.setIfInBounds_toArray, List.set_cons_zero, List.set_cons_succ]
            refine wpAnyH_take (i := 15) (oi := { dst := some 33, op := Go.Op.binOp Go.BinOp.lss 3 (Go.Operand.tmp 32) (Go.Operand.const (Go.Value.int Go.IntKind.i64 0)) 3, type := 4, pos := "zsortanyfunc.go:12", after := #[{ on := 14, ground := Go.Ground.data }, { on := 3, ground := Go.Ground.guard }], guard := some (3, true) }) (v := ?vz15) rfl (by kernel_rfl) (by kernel_rfl) (by kernel_rfl) (fun _ _ _ h => h) (Or.inl ⟨by rfl, ?hz15⟩) hHeld ?rz15
            case hz15 =>
              intro wS hSw
              (try dsimp only at hSw)
              go_simp
              try with_reducible rfl
            case rz15 =>
            simp only [Act.put, List.setIfInBounds_toArray, List.set_cons_zero, List.set_cons_succ]
            refine wpAnyH_take (i := 16) (oi := { dst := some 34, op := Go.Op.pick (Go.Operand.tmp 21) (Go.Operand.tmp 33) (Go.Operand.const (Go.Value.bool false)), type := 4, pos := "zsortanyfunc.go:12", after := #[{ on := 3, ground := Go.Ground.data }, { on := 15, ground := Go.Ground.data }], guard := none }) (v := ?vz16) rfl (by kernel_rfl) (by kernel_rfl) (by kernel_rfl) (fun _ _ _ h => h) (Or.inl ⟨by rfl, ?hz16⟩) hHeld ?rz16
            case hz16 =>
              intro wS hSw
              (try dsimp only at hSw)
              go_simp
              try with_reducible rfl
            case rz16 =>
            simp only [Act.put, List.setIfInBounds_toArray, List.set_cons_zero, List.set_cons_succ]
            refine wpAnyH_done (by kernel_rfl) ?_ _
            refine NoPanic.normal ?_
            have HW9 := hide (own_below (unhide HW) hHeld)
            have HE9 := hide ((unhide HE).trans (ext_of_below hHeld _))
            clear hHeld
            go_wp2_with fail
            go_roundw
            case rel => exact ⟨i + 1, d, by omega, by omega, by go_num, unhide HO2, unhide HW9, unhide HE9⟩
            case measure => simp [intOf]; omega
    · obtain rfl : i = cs.length := by omega
      obtain ⟨q1, q2, q3⟩ := insO_end hO
      have HW := hide hown
      have HE := hide hE
      clear hO hown hE
      go_wp2_with fail
      go_end0
      exact ⟨rfl, ⟨d, q1, q2, q3, unhide HW⟩, unhide HE⟩

/-- What the sort leaves: the row sorted. -/
def SortedAt (cs : List DCenter) (q : List Int) (G : Nat) (w w' : World) : Prop :=
  (∃ d : List Nat, Sorted (d.map (hitAt cs q)) ∧ (∀ p, p ∈ d ↔ p < cs.length) ∧ d.length = cs.length ∧ w'.ownsRow G 2 1 (.slice (some ⟨G, 0, none⟩) cs.length cs.length) cs.length (plV d)) ∧ Ext (fun c => c = G) w w'

set_option maxRecDepth 100000 in
set_option maxHeartbeats 2000000 in
theorem stableC (cs : List DCenter) (q : List Int) (Bl Bq G : Nat) (w : World) (hn6 : cs.length ≤ 6) (L : Calls Tryz.prog 164 #[.slice (some ⟨G, 0, none⟩) cs.length cs.length, .int .i64 0, .int .i64 (cs.length : Int), .func (.func 136) #[] #[.pointer (some ⟨Bl, 0, none⟩), .pointer (some ⟨Bq, 0, none⟩)]] w fun e w' => e = .returned (.tuple #[]) ∧ SortedAt cs q G w w') :
    Calls Tryz.prog 149 #[.slice (some ⟨G, 0, none⟩) cs.length cs.length, .int .i64 (cs.length : Int), .func (.func 136) #[] #[.pointer (some ⟨Bl, 0, none⟩), .pointer (some ⟨Bq, 0, none⟩)]] w fun e w' => e = .returned (.tuple #[]) ∧ SortedAt cs q G w w' := by
  have h20 : decide ((20 : Int) ≤ (cs.length : Int)) = false := by rw [decide_eq_false_iff_not]; omega
  have h21 : decide ((20 : Int) < (cs.length : Int)) = false := by rw [decide_eq_false_iff_not]; omega
  have HL := hide L
  clear L
  go_enter Tryz.func149, Tryz.ntmps149
  go_wp2_with fail
  refine wp_loop_rounds 1 ?_
  rw [rounds_succ]
  go_wp2_with fail
  refine (unhide HL).mono ?_
  rintro e w1 ⟨rfl, hS⟩
  have HS := hide hS
  clear hS
  go_wp2_with fail
  refine wp_loop_rounds 1 ?_
  rw [rounds_succ]
  go_wp2_with fail
  go_end0
  exact ⟨rfl, unhide HS⟩

set_option maxRecDepth 100000 in
theorem sortC (cs : List DCenter) (q : List Int) (Bl Bq G : Nat) (w : World) (L : Calls Tryz.prog 149 #[.slice (some ⟨G, 0, none⟩) cs.length cs.length, .int .i64 (cs.length : Int), .func (.func 136) #[] #[.pointer (some ⟨Bl, 0, none⟩), .pointer (some ⟨Bq, 0, none⟩)]] w fun e w' => e = .returned (.tuple #[]) ∧ SortedAt cs q G w w') :
    Calls Tryz.prog 135 #[.slice (some ⟨G, 0, none⟩) cs.length cs.length, .func (.func 136) #[] #[.pointer (some ⟨Bl, 0, none⟩), .pointer (some ⟨Bq, 0, none⟩)]] w fun e w' => e = .returned (.tuple #[]) ∧ SortedAt cs q G w w' := by
  have HL := hide L
  clear L
  go_enter Tryz.func135, Tryz.ntmps135
  go_wp2_with fail
  refine (unhide HL).mono ?_
  rintro e w1 ⟨rfl, hS⟩
  have HS := hide hS
  clear hS
  go_wp2_with fail
  go_end0
  exact ⟨rfl, unhide HS⟩

set_option maxRecDepth 100000 in
set_option maxHeartbeats 2000000 in
theorem nearestPlacesC (cs : List DCenter) (q : List Int) (ac : Option Addr) (dc : Nat) (aq : Option Addr) (dq : Nat) (w : World) (h1 : (Lay.sl Lay.tCenter).Reads w [.slice ac cs.length dc] cs) (h2 : (Lay.sl Lay.int).Reads w [.slice aq q.length dq] q) (hc : centersFault cs = 0) (hq : vecFault q = 0) :
    Calls Tryz.prog 109 #[.slice ac cs.length dc, .slice aq q.length dq] w fun e w' => ∃ G, e = .returned (.slice (some ⟨G, 0, none⟩) cs.length cs.length) ∧ w.heap.size ≤ G ∧ (∃ d : List Nat, Sorted (d.map (hitAt cs q)) ∧ (∀ p, p ∈ d ↔ p < cs.length) ∧ d.length = cs.length ∧ w'.ownsRow G 2 1 (.slice (some ⟨G, 0, none⟩) cs.length cs.length) cs.length (plV d)) ∧ Below w.heap.size w w' := by
  have hn6 : cs.length ≤ 6 := (centersFault_zero hc).1.2
  have nb : Below w.heap.size w ((w.alloc (.cells #[.slice ac cs.length dc] 28)).alloc (.cells #[.slice aq q.length dq] 26)) := ((Below.refl _ _).alloc (Nat.le_refl _) _).alloc (by simp) _
  have bl : Box 0 #[.slice ac cs.length dc] 28 ((w.alloc (.cells #[.slice ac cs.length dc] 28)).alloc (.cells #[.slice aq q.length dq] 26)) w.heap.size := (newBox (Nat.zero_le _)).grow _
  have bq : Box 0 #[.slice aq q.length dq] 26 ((w.alloc (.cells #[.slice ac cs.length dc] 28)).alloc (.cells #[.slice aq q.length dq] 26)) (w.heap.size + 1) := newBoxAt (Nat.zero_le _) (by simp)
  have c0 := bl.at 0 _ rfl
  have LL1 := h1.liesIn.later nb
  have LL2 := h2.liesIn.later nb
  clear h1 h2
  go_enter Tryz.func109, Tryz.ntmps109
  go_wp2_with fail
  generalize (w.alloc (.cells #[.slice ac cs.length dc] 28)).alloc (.cells #[.slice aq q.length dq] 26) = W0 at *
  refine (implPlaces ac cs.length dc W0 (by omega)).mono ?_
  rintro e w1 ⟨rfl, hO, hb⟩
  have hW0 : w.heap.size + 1 < W0.heap.size := bq.lt
  have LI := insSort cs q ac dc aq dq w.heap.size (w.heap.size + 1) W0.heap.size w.heap.size _ _ w1 (LL1.later hb) (LL2.later hb) (by omega) hc hq (bl.keep hb) (bq.keep hb) (by omega) (by omega) hO
  have HS := hide (sortC cs q _ _ _ w1 (stableC cs q _ _ _ w1 hn6 LI))
  have HB := hide (nb.trans (hb.mono nb.size))
  clear LI LL1 LL2 bl bq nb hO hb c0
  go_wp2_with fail
  refine (unhide HS).mono ?_
  rintro e w2 ⟨rfl, hD, hE⟩
  have HD := hide hD
  have HB2 := hide ((unhide HB).trans (hE.below (unhide HB).size (fun k hk e => by omega)))
  clear hD hE
  go_wp2_with fail
  go_ret
  exact ⟨_, rfl, by omega, unhide HD, unhide HB2⟩

end Go.Proofs.YtfgadegpdknocaaGreat
