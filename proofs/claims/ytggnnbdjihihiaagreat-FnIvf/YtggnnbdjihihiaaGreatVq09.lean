/-
  Texts of this proof in one: ImplSort, ImplProbed, ImplCen, ImplNear, ImplListF.
  Their conditions stand in their theorems.
-/
import Derived.Test.YtggnnbdjihihiaaGreatVq08
import Derived.Test.YtggnnbdjihihiaaGreatVq01
import Derived.Test.YtggnnbdjihihiaaGreatVq03
import Derived.Test.YtggnnbdjihihiaaGreatChecked
import Derived.Test.YtggnnbdjihihiaaGreatVq02

namespace Go.Proofs.YtggnnbdjihihiaaGreat
open Go.RowKit

theorem plV_set (d : List Nat) (k x : Nat) : plV (d.set k x) = (plV d).set k (.int .i64 (x : Int)) := by simp [plV, List.map_set]
theorem cmp_neg (a b : Int) : decide (cmpI a b < 0) = decide (a < b) := by
  unfold cmpI
  by_cases h1 : a < b
  · rw [if_pos h1]; simp [h1]
  · rw [if_neg h1]
    by_cases h2 : b < a
    · rw [if_pos h2]; simp [h1]
    · rw [if_neg h2]; simp [h1]

set_option maxRecDepth 100000 in
set_option maxHeartbeats 4000000 in
theorem insSort (cs : List DCenter) (q : List Int) (ac : Option Addr) (dc : Nat) (aq : Option Addr) (dq Bl Bq G lo tl tq : Nat) (w : World) (h1 : (Lay.sl Lay.tCenter).LiesIn w [.slice ac cs.length dc] cs 0 lo) (h2 : (Lay.sl Lay.int).LiesIn w [.slice aq q.length dq] q 0 lo) (hlo : lo ≤ G) (hc : centersFault cs = 0) (hq : vecFault q = 0)
    (bl : Box 0 #[.slice ac cs.length dc] tl w Bl) (bq : Box 0 #[.slice aq q.length dq] tq w Bq) (hBl : Bl ≠ G) (hBq : Bq ≠ G) (hG : w.ownsRow G 2 1 (.slice (some ⟨G, 0, none⟩) cs.length cs.length) cs.length (plV (List.range cs.length))) :
    Calls Tryz.prog 153 #[.slice (some ⟨G, 0, none⟩) cs.length cs.length, .int .i64 0, .int .i64 (cs.length : Int), .func (.func 125) #[] #[.pointer (some ⟨Bl, 0, none⟩), .pointer (some ⟨Bq, 0, none⟩)]] w fun e w' => e = .returned (.tuple #[]) ∧ (∃ d : List Nat, Sorted (d.map (hitAt cs q)) ∧ (∀ p, p ∈ d ↔ p < cs.length) ∧ d.length = cs.length ∧ w'.ownsRow G 2 1 (.slice (some ⟨G, 0, none⟩) cs.length cs.length) cs.length (plV d)) ∧ Ext (fun c => c = G) w w' := by
  have hn6 : cs.length ≤ 6 := (centersFault_zero hc).1.2
  have hn1 : 1 ≤ cs.length := (centersFault_zero hc).1.1
  have hgl := (hG.lt G rfl).2
  have HG0 := hide hG
  have LCC : Hid (∀ (W : World), Ext (fun c => c = G) w W → ∀ p r : Nat, p < cs.length → r < cs.length → Calls Tryz.prog 125 #[.int .i64 (p : Int), .int .i64 (r : Int), .pointer (some ⟨Bl, 0, none⟩), .pointer (some ⟨Bq, 0, none⟩)] W fun e w' => e = .returned (.int .i64 (cmpI (hitAt cs q p).2 (hitAt cs q r).2)) ∧ Below W.heap.size W w') := fun W hE p r hp hr =>
    cmpC cs q ac dc aq dq Bl Bq p r W (h1.ext hE (fun k _ hk e => by omega)).reads (Lay.ints_reads (h2.ext hE (fun k _ hk e => by omega)).reads) hc hq ((bl.ext hE hBl).at 0 _ rfl) ((bq.ext hE hBq).at 0 _ rfl) hp hr
  clear h1 h2 hc hq bl bq hG
  go_enter Tryz.func153, Tryz.ntmps153
  go_wp2_with fail
  go_loopw [8] (fun v wr => ∃ (i : Nat) (d : List Nat), 1 ≤ i ∧ i ≤ cs.length ∧ v = .int .i64 i ∧ InsO (hitAt cs q) cs.length i d ∧ wr.ownsRow G 2 1 (.slice (some ⟨G, 0, none⟩) cs.length cs.length) cs.length (plV d) ∧ Ext (fun c => c = G) w wr) (fun v _ => cs.length - (intOf v).toNat)
  case atStart => exact ⟨1, List.range cs.length, Nat.le_refl _, hn1, rfl, insO_start _ hn1, unhide HG0, Ext.refl _ _⟩
  case round =>
    obtain ⟨i, d, hi1, hi, rfl, hO, hown, hE⟩ := hrel
    clear HG0
    by_cases hlt : i < cs.length
    · have HI0 := hide (hO.inner hlt)
      have HW0 := hide hown
      have HE0 := hide hE
      clear hO hown hE
      go_wp2_with fail
      rename World => wz
      go_loopw [9] (fun v wr => ∃ (j : Nat) (d : List Nat), j ≤ i ∧ v = .int .i64 j ∧ InsI (hitAt cs q) cs.length i j d ∧ wr.ownsRow G 2 1 (.slice (some ⟨G, 0, none⟩) cs.length cs.length) cs.length (plV d) ∧ Ext (fun c => c = G) w wr) (fun v _ => (intOf v).toNat)
      case atStart => exact ⟨i, d, Nat.le_refl _, rfl, unhide HI0, unhide HW0, unhide HE0⟩
      case round =>
        obtain ⟨j, d, hj, rfl, hI, hown, hE⟩ := hrel
        clear HI0 HW0 HE0
        have hdl := (hI.len hlt).1
        have hzr := hE.size
        cases j with
        | zero =>
          have HO2 := hide (hI.stop (fun p => rfl) (fun p h => absurd h (by omega)))
          have HW := hide hown
          have HE := hide hE
          clear hI hown hE
          go_wp2_with fail
          refine wp_region_noPanic ?_
          refine wp_region_held_drew (S := fun w' => Below wr.heap.size wr w') (by kernel_rfl) (Below.refl _ _).drew (fun hHeld => ?_)
          generalize wr.drew = wD at hHeld ⊢
          refine wpAnyH_take (i := 0) (oi := { dst := some 18, op := Go.Op.move (Go.Operand.tmp 9), type := 3, pos := "zsortanyfunc.go:12", after := #[], guard := none }) (v := ?vx0) rfl (by kernel_rfl) (by kernel_rfl) (by kernel_rfl) (fun _ _ _ h => h) (Or.inl ⟨by rfl, ?hx0⟩) hHeld ?rx0
          case hx0 =>
            intro wS hSw
            (try dsimp only at hSw)
            go_simp
            try with_reducible rfl
          case rx0 =>
          simp only [Act.put, List.setIfInBounds_toArray, List.set_cons_zero, List.set_cons_succ]
          refine wpAnyH_take (i := 1) (oi := { dst := some 19, op := Go.Op.move (Go.Operand.tmp 1), type := 3, pos := "zsortanyfunc.go:12", after := #[], guard := none }) (v := ?vx1) rfl (by kernel_rfl) (by kernel_rfl) (by kernel_rfl) (fun _ _ _ h => h) (Or.inl ⟨by rfl, ?hx1⟩) hHeld ?rx1
          case hx1 =>
            intro wS hSw
            (try dsimp only at hSw)
            go_simp
            try with_reducible rfl
          case rx1 =>
          simp only [Act.put, List.setIfInBounds_toArray, List.set_cons_zero, List.set_cons_succ]
          refine wpAnyH_take (i := 2) (oi := { dst := some 20, op := Go.Op.binOp Go.BinOp.gtr 3 (Go.Operand.tmp 18) (Go.Operand.tmp 19) 3, type := 4, pos := "zsortanyfunc.go:12", after := #[{ on := 0, ground := Go.Ground.data }, { on := 1, ground := Go.Ground.data }], guard := none }) (v := ?vx2) rfl (by kernel_rfl) (by kernel_rfl) (by kernel_rfl) (fun _ _ _ h => h) (Or.inl ⟨by rfl, ?hx2⟩) hHeld ?rx2
          case hx2 =>
            intro wS hSw
            (try dsimp only at hSw)
            go_simp
            try with_reducible rfl
          case rx2 =>
          simp only [Act.put, List.setIfInBounds_toArray, List.set_cons_zero, List.set_cons_succ]
          refine wpAnyH_take (i := 3) (oi := { dst := some 21, op := Go.Op.move (Go.Operand.tmp 20), type := 4, pos := "zsortanyfunc.go:12", after := #[{ on := 2, ground := Go.Ground.data }], guard := none }) (v := ?vx3) rfl (by kernel_rfl) (by kernel_rfl) (by kernel_rfl) (fun _ _ _ h => h) (Or.inl ⟨by rfl, ?hx3⟩) hHeld ?rx3
          case hx3 =>
            intro wS hSw
            (try dsimp only at hSw)
            go_simp
            try with_reducible rfl
          case rx3 =>
          simp only [Act.put, List.setIfInBounds_toArray, List.set_cons_zero, List.set_cons_succ]
          refine wpAnyH_take (i := 4) (oi := { dst := some 22, op := Go.Op.move (Go.Operand.tmp 3), type := 170, pos := "zsortanyfunc.go:12", after := #[{ on := 3, ground := Go.Ground.guard }], guard := some (3, true) }) (v := undef) rfl (by kernel_rfl) (by kernel_rfl) (by kernel_rfl) (fun _ _ _ h => h) (Or.inr ⟨by rfl, rfl⟩) hHeld ?_
          simp only [Act.put, List.setIfInBounds_toArray, List.set_cons_zero, List.set_cons_succ]
          refine wpAnyH_take (i := 5) (oi := { dst := some 23, op := Go.Op.move (Go.Operand.tmp 0), type := 28, pos := "zsortanyfunc.go:12", after := #[{ on := 3, ground := Go.Ground.guard }], guard := some (3, true) }) (v := undef) rfl (by kernel_rfl) (by kernel_rfl) (by kernel_rfl) (fun _ _ _ h => h) (Or.inr ⟨by rfl, rfl⟩) hHeld ?_
          simp only [Act.put, List.setIfInBounds_toArray, List.set_cons_zero, List.set_cons_succ]
          refine wpAnyH_take (i := 6) (oi := { dst := some 24, op := Go.Op.move (Go.Operand.tmp 9), type := 3, pos := "zsortanyfunc.go:12", after := #[{ on := 3, ground := Go.Ground.guard }], guard := some (3, true) }) (v := undef) rfl (by kernel_rfl) (by kernel_rfl) (by kernel_rfl) (fun _ _ _ h => h) (Or.inr ⟨by rfl, rfl⟩) hHeld ?_
          simp only [Act.put, List.setIfInBounds_toArray, List.set_cons_zero, List.set_cons_succ]
          refine wpAnyH_take (i := 7) (oi := { dst := some 25, op := Go.Op.indexAddr 28 (Go.Operand.tmp 23) (Go.Operand.tmp 24), type := 0, pos := "zsortanyfunc.go:12", after := #[{ on := 5, ground := Go.Ground.data }, { on := 6, ground := Go.Ground.data }, { on := 3, ground := Go.Ground.guard }], guard := some (3, true) }) (v := undef) rfl (by kernel_rfl) (by kernel_rfl) (by kernel_rfl) (fun _ _ _ h => h) (Or.inr ⟨by rfl, rfl⟩) hHeld ?_
          simp only [Act.put, List.setIfInBounds_toArray, List.set_cons_zero, List.set_cons_succ]
          refine wpAnyH_take (i := 8) (oi := { dst := some 26, op := Go.Op.load 2 (Go.Operand.tmp 25), type := 2, pos := "zsortanyfunc.go:12", after := #[{ on := 7, ground := Go.Ground.data }, { on := 3, ground := Go.Ground.guard }], guard := some (3, true) }) (v := undef) rfl (by kernel_rfl) (by kernel_rfl) (by kernel_rfl) (fun _ _ _ h => h) (Or.inr ⟨by rfl, rfl⟩) hHeld ?_
          simp only [Act.put, List.setIfInBounds_toArray, List.set_cons_zero, List.set_cons_succ]
          refine wpAnyH_take (i := 9) (oi := { dst := some 27, op := Go.Op.move (Go.Operand.tmp 0), type := 28, pos := "zsortanyfunc.go:12", after := #[{ on := 3, ground := Go.Ground.guard }], guard := some (3, true) }) (v := undef) rfl (by kernel_rfl) (by kernel_rfl) (by kernel_rfl) (fun _ _ _ h => h) (Or.inr ⟨by rfl, rfl⟩) hHeld ?_
          simp only [Act.put, List.setIfInBounds_toArray, List.set_cons_zero, List.set_cons_succ]
          refine wpAnyH_take (i := 10) (oi := { dst := some 28, op := Go.Op.move (Go.Operand.tmp 9), type := 3, pos := "zsortanyfunc.go:12", after := #[{ on := 3, ground := Go.Ground.guard }], guard := some (3, true) }) (v := undef) rfl (by kernel_rfl) (by kernel_rfl) (by kernel_rfl) (fun _ _ _ h => h) (Or.inr ⟨by rfl, rfl⟩) hHeld ?_
          simp only [Act.put, List.setIfInBounds_toArray, List.set_cons_zero, List.set_cons_succ]
          refine wpAnyH_take (i := 11) (oi := { dst := some 29, op := Go.Op.binOp Go.BinOp.sub 3 (Go.Operand.tmp 28) (Go.Operand.const (Go.Value.int Go.IntKind.i64 1)) 3, type := 3, pos := "zsortanyfunc.go:12", after := #[{ on := 10, ground := Go.Ground.data }, { on := 3, ground := Go.Ground.guard }], guard := some (3, true) }) (v := undef) rfl (by kernel_rfl) (by kernel_rfl) (by kernel_rfl) (fun _ _ _ h => h) (Or.inr ⟨by rfl, rfl⟩) hHeld ?_
          simp only [Act.put, List.setIfInBounds_toArray, List.set_cons_zero, List.set_cons_succ]
          refine wpAnyH_take (i := 12) (oi := { dst := some 30, op := Go.Op.indexAddr 28 (Go.Operand.tmp 27) (Go.Operand.tmp 29), type := 0, pos := "zsortanyfunc.go:12", after := #[{ on := 9, ground := Go.Ground.data }, { on := 11, ground := Go.Ground.data }, { on := 3, ground := Go.Ground.guard }], guard := some (3, true) }) (v := undef) rfl (by kernel_rfl) (by kernel_rfl) (by kernel_rfl) (fun _ _ _ h => h) (Or.inr ⟨by rfl, rfl⟩) hHeld ?_
          simp only [Act.put, List.setIfInBounds_toArray, List.set_cons_zero, List.set_cons_succ]
          refine wpAnyH_take (i := 13) (oi := { dst := some 31, op := Go.Op.load 2 (Go.Operand.tmp 30), type := 2, pos := "zsortanyfunc.go:12", after := #[{ on := 12, ground := Go.Ground.data }, { on := 3, ground := Go.Ground.guard }], guard := some (3, true) }) (v := undef) rfl (by kernel_rfl) (by kernel_rfl) (by kernel_rfl) (fun _ _ _ h => h) (Or.inr ⟨by rfl, rfl⟩) hHeld ?_
          simp only [Act.put, List.setIfInBounds_toArray, List.set_cons_zero, List.set_cons_succ]
          refine wpAnyH_take (i := 14) (oi := { dst := some 32, op := Go.Op.call { callee := Go.Callee.value (Go.Operand.tmp 22), args := #[Go.Operand.tmp 26, Go.Operand.tmp 31], argTypes := #[2, 2] }, type := 3, pos := "zsortanyfunc.go:12", after := #[{ on := 4, ground := Go.Ground.data }, { on := 8, ground := Go.Ground.data }, { on := 13, ground := Go.Ground.data }, { on := 3, ground := Go.Ground.chain }, { on := 3, ground := Go.Ground.guard }], guard := some (3, true) }) (v := undef) rfl (by kernel_rfl) (by kernel_rfl) (by kernel_rfl) (fun _ _ _ h => h) (Or.inr ⟨by rfl, rfl⟩) hHeld ?_
          simp only [Act.put, List.setIfInBounds_toArray, List.set_cons_zero, List.set_cons_succ]
          refine wpAnyH_take (i := 15) (oi := { dst := some 33, op := Go.Op.binOp Go.BinOp.lss 3 (Go.Operand.tmp 32) (Go.Operand.const (Go.Value.int Go.IntKind.i64 0)) 3, type := 4, pos := "zsortanyfunc.go:12", after := #[{ on := 14, ground := Go.Ground.data }, { on := 3, ground := Go.Ground.guard }], guard := some (3, true) }) (v := undef) rfl (by kernel_rfl) (by kernel_rfl) (by kernel_rfl) (fun _ _ _ h => h) (Or.inr ⟨by rfl, rfl⟩) hHeld ?_
          simp only [Act.put, List.setIfInBounds_toArray, List.set_cons_zero, List.set_cons_succ]
          refine wpAnyH_take (i := 16) (oi := { dst := some 34, op := Go.Op.pick (Go.Operand.tmp 21) (Go.Operand.tmp 33) (Go.Operand.const (Go.Value.bool false)), type := 4, pos := "zsortanyfunc.go:12", after := #[{ on := 3, ground := Go.Ground.data }, { on := 15, ground := Go.Ground.data }], guard := none }) (v := ?vx16) rfl (by kernel_rfl) (by kernel_rfl) (by kernel_rfl) (fun _ _ _ h => h) (Or.inl ⟨by rfl, ?hx16⟩) hHeld ?rx16
          case hx16 =>
            intro wS hSw
            (try dsimp only at hSw)
            go_simp
            try with_reducible rfl
          case rx16 =>
          simp only [Act.put, List.setIfInBounds_toArray, List.set_cons_zero, List.set_cons_succ]
          refine wpAnyH_done (by kernel_rfl) ?_ _
          refine NoPanic.normal ?_
          have HW9 := hide (own_below (unhide HW) hHeld)
          have HE9 := hide ((unhide HE).trans (ext_of_below hHeld _))
          clear hHeld
          go_wp2_with fail
          go_roundw
          case rel => exact ⟨i + 1, d, by omega, by omega, by go_num, unhide HO2, unhide HW9, unhide HE9⟩
          case measure => simp [intOf]; omega
        | succ jp =>
          obtain ⟨p, hdp⟩ : ∃ p, d[jp]? = some p := ⟨_, List.getElem?_eq_getElem (by omega)⟩
          have hpn : p < cs.length := hI.below hlt p (List.mem_of_getElem? hdp)
          have hdj := hI.at
          have hpl : (plV d).length = cs.length * 1 := hown.1
          have HDJ : Hid (wr.cell? ⟨G, jp + 1, none⟩ = some (.int .i64 (i : Int))) := (hown.cellAt (jp + 1) (by omega)).trans (plV_at hdj)
          have HDP : Hid (wr.cell? ⟨G, jp, none⟩ = some (.int .i64 (p : Int))) := (hown.cellAt jp (by omega)).trans (plV_at hdp)
          have LC : Hid (∀ W, Below wr.heap.size wr W → _) := fun W hb => unhide LCC W (hE.trans (ext_of_below hb _)) i p hlt hpn
          have hcn := cmp_neg (hitAt cs q i).2 (hitAt cs q p).2
          have hj1 : jp + 1 < cs.length := by omega
          have hj2 : 0 ≤ (jp : Int) + 1 ∧ (jp : Int) + 1 < (cs.length : Int) := by omega
          have hj3 : IntKind.i64.wrap (jp : Int) = (jp : Int) := by simp only [IntKind.wrap_i64]; omega
          have hj4 : 0 ≤ (jp : Int) ∧ (jp : Int) < (cs.length : Int) := by omega
          have hj5 : IntKind.i64.wrap ((jp : Int) + 1 - 1) = (jp : Int) := by simp only [IntKind.wrap_i64]; omega
          have HI := hide hI
          have HW := hide hown
          have HE := hide hE
          have HDD := hide hdp
          generalize cmpI (hitAt cs q i).2 (hitAt cs q p).2 = cv at *
          clear hI hown hE hdj hdp
          by_cases hs : (hitAt cs q i).2 < (hitAt cs q p).2
          · rw [decide_eq_true hs] at hcn
            have HS := hide hs
            clear hs
            go_wp2_with fail
            refine wp_region_noPanic ?_
            refine wp_region_held_drew (S := fun w' => Below wr.heap.size wr w') (by kernel_rfl) (Below.refl _ _).drew (fun hHeld => ?_)
            generalize wr.drew = wD at hHeld ⊢
            refine wpAnyH_take (i := 0) (oi := { dst := some 18, op := Go.Op.move (Go.Operand.tmp 9), type := 3, pos := "zsortanyfunc.go:12", after := #[], guard := none }) (v := ?vy0) rfl (by kernel_rfl) (by kernel_rfl) (by kernel_rfl) (fun _ _ _ h => h) (Or.inl ⟨by rfl, ?hy0⟩) hHeld ?ry0
            case hy0 =>
              intro wS hSw
              (try dsimp only at hSw)
              go_simp
              try with_reducible rfl
            case ry0 =>
            simp only [Act.put, List.setIfInBounds_toArray, List.set_cons_zero, List.set_cons_succ]
            refine wpAnyH_take (i := 1) (oi := { dst := some 19, op := Go.Op.move (Go.Operand.tmp 1), type := 3, pos := "zsortanyfunc.go:12", after := #[], guard := none }) (v := ?vy1) rfl (by kernel_rfl) (by kernel_rfl) (by kernel_rfl) (fun _ _ _ h => h) (Or.inl ⟨by rfl, ?hy1⟩) hHeld ?ry1
            case hy1 =>
              intro wS hSw
              (try dsimp only at hSw)
              go_simp
              try with_reducible rfl
            case ry1 =>
            simp only [Act.put, List.setIfInBounds_toArray, List.set_cons_zero, List.set_cons_succ]
            refine wpAnyH_take (i := 2) (oi := { dst := some 20, op := Go.Op.binOp Go.BinOp.gtr 3 (Go.Operand.tmp 18) (Go.Operand.tmp 19) 3, type := 4, pos := "zsortanyfunc.go:12", after := #[{ on := 0, ground := Go.Ground.data }, { on := 1, ground := Go.Ground.data }], guard := none }) (v := ?vy2) rfl (by kernel_rfl) (by kernel_rfl) (by kernel_rfl) (fun _ _ _ h => h) (Or.inl ⟨by rfl, ?hy2⟩) hHeld ?ry2
            case hy2 =>
              intro wS hSw
              (try dsimp only at hSw)
              go_simp
              try with_reducible rfl
            case ry2 =>
            simp only [Act.put, List.setIfInBounds_toArray, List.set_cons_zero, List.set_cons_succ]
            refine wpAnyH_take (i := 3) (oi := { dst := some 21, op := Go.Op.move (Go.Operand.tmp 20), type := 4, pos := "zsortanyfunc.go:12", after := #[{ on := 2, ground := Go.Ground.data }], guard := none }) (v := ?vy3) rfl (by kernel_rfl) (by kernel_rfl) (by kernel_rfl) (fun _ _ _ h => h) (Or.inl ⟨by rfl, ?hy3⟩) hHeld ?ry3
            case hy3 =>
              intro wS hSw
              (try dsimp only at hSw)
              go_simp
              try with_reducible rfl
            case ry3 =>
            simp only [Act.put, List.setIfInBounds_toArray, List.set_cons_zero, List.set_cons_succ]
            refine wpAnyH_take (i := 4) (oi := { dst := some 22, op := Go.Op.move (Go.Operand.tmp 3), type := 170, pos := "zsortanyfunc.go:12", after := #[{ on := 3, ground := Go.Ground.guard }], guard := some (3, true) }) (v := ?vy4) rfl (by kernel_rfl) (by kernel_rfl) (by kernel_rfl) (fun _ _ _ h => h) (Or.inl ⟨by rfl, ?hy4⟩) hHeld ?ry4
            case hy4 =>
              intro wS hSw
              (try dsimp only at hSw)
              go_simp
              try with_reducible rfl
            case ry4 =>
            simp only [Act.put, List.setIfInBounds_toArray, List.set_cons_zero, List.set_cons_succ]
            refine wpAnyH_take (i := 5) (oi := { dst := some 23, op := Go.Op.move (Go.Operand.tmp 0), type := 28, pos := "zsortanyfunc.go:12", after := #[{ on := 3, ground := Go.Ground.guard }], guard := some (3, true) }) (v := ?vy5) rfl (by kernel_rfl) (by kernel_rfl) (by kernel_rfl) (fun _ _ _ h => h) (Or.inl ⟨by rfl, ?hy5⟩) hHeld ?ry5
            case hy5 =>
              intro wS hSw
              (try dsimp only at hSw)
              go_simp
              try with_reducible rfl
            case ry5 =>
            simp only [Act.put, List.setIfInBounds_toArray, List.set_cons_zero, List.set_cons_succ]
            refine wpAnyH_take (i := 6) (oi := { dst := some 24, op := Go.Op.move (Go.Operand.tmp 9), type := 3, pos := "zsortanyfunc.go:12", after := #[{ on := 3, ground := Go.Ground.guard }], guard := some (3, true) }) (v := ?vy6) rfl (by kernel_rfl) (by kernel_rfl) (by kernel_rfl) (fun _ _ _ h => h) (Or.inl ⟨by rfl, ?hy6⟩) hHeld ?ry6
            case hy6 =>
              intro wS hSw
              (try dsimp only at hSw)
              go_simp
              try with_reducible rfl
            case ry6 =>
            simp only [Act.put, List.setIfInBounds_toArray, List.set_cons_zero, List.set_cons_succ]
            refine wpAnyH_take (i := 7) (oi := { dst := some 25, op := Go.Op.indexAddr 28 (Go.Operand.tmp 23) (Go.Operand.tmp 24), type := 0, pos := "zsortanyfunc.go:12", after := #[{ on := 5, ground := Go.Ground.data }, { on := 6, ground := Go.Ground.data }, { on := 3, ground := Go.Ground.guard }], guard := some (3, true) }) (v := ?vy7) rfl (by kernel_rfl) (by kernel_rfl) (by kernel_rfl) (fun _ _ _ h => h) (Or.inl ⟨by rfl, ?hy7⟩) hHeld ?ry7
            case hy7 =>
              intro wS hSw
              (try dsimp only at hSw)
              go_simp
              try with_reducible rfl
            case ry7 =>
            simp only [Act.put, List.setIfInBounds_toArray, List.set_cons_zero, List.set_cons_succ]
            refine wpAnyH_take (i := 8) (oi := { dst := some 26, op := Go.Op.load 2 (Go.Operand.tmp 25), type := 2, pos := "zsortanyfunc.go:12", after := #[{ on := 7, ground := Go.Ground.data }, { on := 3, ground := Go.Ground.guard }], guard := some (3, true) }) (v := ?vy8) rfl (by kernel_rfl) (by kernel_rfl) (by kernel_rfl) (fun _ _ _ h => h) (Or.inl ⟨by rfl, ?hy8⟩) hHeld ?ry8
            case hy8 =>
              intro wS hSw
              have y0 := cell_keep hSw (unhide HDJ)
              clear hSw
              (try dsimp only at hSw)
              go_simp
              try with_reducible rfl
            case ry8 =>
            simp only [Act.put, List.setIfInBounds_toArray, List.set_cons_zero, List.set_cons_succ]
            refine wpAnyH_take (i := 9) (oi := { dst := some 27, op := Go.Op.move (Go.Operand.tmp 0), type := 28, pos := "zsortanyfunc.go:12", after := #[{ on := 3, ground := Go.Ground.guard }], guard := some (3, true) }) (v := ?vy9) rfl (by kernel_rfl) (by kernel_rfl) (by kernel_rfl) (fun _ _ _ h => h) (Or.inl ⟨by rfl, ?hy9⟩) hHeld ?ry9
            case hy9 =>
              intro wS hSw
              (try dsimp only at hSw)
              go_simp
              try with_reducible rfl
            case ry9 =>
            simp only [Act.put, List.setIfInBounds_toArray, List.set_cons_zero, List.set_cons_succ]
            refine wpAnyH_take (i := 10) (oi := { dst := some 28, op := Go.Op.move (Go.Operand.tmp 9), type := 3, pos := "zsortanyfunc.go:12", after := #[{ on := 3, ground := Go.Ground.guard }], guard := some (3, true) }) (v := ?vy10) rfl (by kernel_rfl) (by kernel_rfl) (by kernel_rfl) (fun _ _ _ h => h) (Or.inl ⟨by rfl, ?hy10⟩) hHeld ?ry10
            case hy10 =>
              intro wS hSw
              (try dsimp only at hSw)
              go_simp
              try with_reducible rfl
            case ry10 =>
            simp only [Act.put, List.setIfInBounds_toArray, List.set_cons_zero, List.set_cons_succ]
            refine wpAnyH_take (i := 11) (oi := { dst := some 29, op := Go.Op.binOp Go.BinOp.sub 3 (Go.Operand.tmp 28) (Go.Operand.const (Go.Value.int Go.IntKind.i64 1)) 3, type := 3, pos := "zsortanyfunc.go:12", after := #[{ on := 10, ground := Go.Ground.data }, { on := 3, ground := Go.Ground.guard }], guard := some (3, true) }) (v := ?vy11) rfl (by kernel_rfl) (by kernel_rfl) (by kernel_rfl) (fun _ _ _ h => h) (Or.inl ⟨by rfl, ?hy11⟩) hHeld ?ry11
            case hy11 =>
              intro wS hSw
              (try dsimp only at hSw)
              go_simp
              try with_reducible rfl
            case ry11 =>
            simp only [Act.put, List.setIfInBounds_toArray, List.set_cons_zero, List.set_cons_succ]
            refine wpAnyH_take (i := 12) (oi := { dst := some 30, op := Go.Op.indexAddr 28 (Go.Operand.tmp 27) (Go.Operand.tmp 29), type := 0, pos := "zsortanyfunc.go:12", after := #[{ on := 9, ground := Go.Ground.data }, { on := 11, ground := Go.Ground.data }, { on := 3, ground := Go.Ground.guard }], guard := some (3, true) }) (v := ?vy12) rfl (by kernel_rfl) (by kernel_rfl) (by kernel_rfl) (fun _ _ _ h => h) (Or.inl ⟨by rfl, ?hy12⟩) hHeld ?ry12
            case hy12 =>
              intro wS hSw
              (try dsimp only at hSw)
              go_simp
              try with_reducible rfl
            case ry12 =>
            simp only [Act.put, List.setIfInBounds_toArray, List.set_cons_zero, List.set_cons_succ]
            refine wpAnyH_take (i := 13) (oi := { dst := some 31, op := Go.Op.load 2 (Go.Operand.tmp 30), type := 2, pos := "zsortanyfunc.go:12", after := #[{ on := 12, ground := Go.Ground.data }, { on := 3, ground := Go.Ground.guard }], guard := some (3, true) }) (v := ?vy13) rfl (by kernel_rfl) (by kernel_rfl) (by kernel_rfl) (fun _ _ _ h => h) (Or.inl ⟨by rfl, ?hy13⟩) hHeld ?ry13
            case hy13 =>
              intro wS hSw
              have y0 := cell_keep hSw (unhide HDP)
              clear hSw
              (try dsimp only at hSw)
              go_simp
              try with_reducible rfl
            case ry13 =>
            simp only [Act.put, List.setIfInBounds_toArray, List.set_cons_zero, List.set_cons_succ]
            refine wpAnyH_ready (rs := [14]) (by kernel_rfl) (by simp) ?_
            refine AllReadyH.cons (o := { dst := some 32, op := Go.Op.call { callee := Go.Callee.value (Go.Operand.tmp 22), args := #[Go.Operand.tmp 26, Go.Operand.tmp 31], argTypes := #[2, 2] }, type := 3, pos := "zsortanyfunc.go:12", after := #[{ on := 4, ground := Go.Ground.data }, { on := 8, ground := Go.Ground.data }, { on := 13, ground := Go.Ground.data }, { on := 3, ground := Go.Ground.chain }, { on := 3, ground := Go.Ground.guard }], guard := some (3, true) }) rfl (fun K hK => ?_) AllReadyH.nil
            go_simp
            refine (unhide LC _ hHeld).mono ?_
            rintro e w5 ⟨rfl, hb5⟩
            try go_wp2_with fail
            refine hK.out _ _ (hHeld.trans (hb5.mono hHeld.size)) (fun hHeld => ?_)
            clear hK K
            try simp only [Act.put, List.setIfInBounds_toArray, List.set_cons_zero, List.set_cons_succ]
            refine wpAnyH_take (i := 15) (oi := { dst := some 33, op := Go.Op.binOp Go.BinOp.lss 3 (Go.Operand.tmp 32) (Go.Operand.const (Go.Value.int Go.IntKind.i64 0)) 3, type := 4, pos := "zsortanyfunc.go:12", after := #[{ on := 14, ground := Go.Ground.data }, { on := 3, ground := Go.Ground.guard }], guard := some (3, true) }) (v := ?vy15) rfl (by kernel_rfl) (by kernel_rfl) (by kernel_rfl) (fun _ _ _ h => h) (Or.inl ⟨by rfl, ?hy15⟩) hHeld ?ry15
            case hy15 =>
              intro wS hSw
              (try dsimp only at hSw)
              go_simp
              try with_reducible rfl
            case ry15 =>
            simp only [Act.put, List.setIfInBounds_toArray, List.set_cons_zero, List.set_cons_succ]
            refine wpAnyH_take (i := 16) (oi := { dst := some 34, op := Go.Op.pick (Go.Operand.tmp 21) (Go.Operand.tmp 33) (Go.Operand.const (Go.Value.bool false)), type := 4, pos := "zsortanyfunc.go:12", after := #[{ on := 3, ground := Go.Ground.data }, { on := 15, ground := Go.Ground.data }], guard := none }) (v := ?vy16) rfl (by kernel_rfl) (by kernel_rfl) (by kernel_rfl) (fun _ _ _ h => h) (Or.inl ⟨by rfl, ?hy16⟩) hHeld ?ry16
            case hy16 =>
              intro wS hSw
              (try dsimp only at hSw)
              go_simp
              try with_reducible rfl
            case ry16 =>
            simp only [Act.put, List.setIfInBounds_toArray, List.set_cons_zero, List.set_cons_succ]
            refine wpAnyH_done (by kernel_rfl) ?_ _
            refine NoPanic.normal ?_
            have HW5 := hide (own_below (unhide HW) hHeld)
            have HE5 := hide ((unhide HE).trans (ext_of_below hHeld _))
            have hDj5 := cell_keep hHeld (unhide HDJ)
            have hDp5 := cell_keep hHeld (unhide HDP)
            have HJ5 := hide hDj5
            have HP5 := hide hDp5
            clear hHeld hDj5 hDp5 hb5
            go_wp2_with fail
            have hDW : w5.drew.ownsRow G 2 1 (.slice (some ⟨G, 0, none⟩) cs.length cs.length) cs.length (plV d) := (unhide HW5).drew
            have hDj : w5.drew.cell? ⟨G, jp + 1, none⟩ = some (.int .i64 (i : Int)) := unhide HJ5
            have hDp : w5.drew.cell? ⟨G, jp, none⟩ = some (.int .i64 (p : Int)) := unhide HP5
            refine wp_region_noPanic ?_
            refine wp_region_held_drew (S := fun w' => Ext (fun c => c = G) w5 w') (by kernel_rfl) (Ext.refl _ _).drew1 (fun hHeld => ?_)
            generalize w5.drew = wE at hHeld hDW hDj hDp ⊢
            refine wpAnyH_take (i := 0) (oi := { dst := some 37, op := Go.Op.move (Go.Operand.tmp 0), type := 28, pos := "zsortanyfunc.go:13", after := #[], guard := none }) (v := ?vw0_1) rfl (by kernel_rfl) (by kernel_rfl) (by kernel_rfl) (fun _ _ _ h => h) (Or.inl ⟨by rfl, ?hw0_1⟩) hHeld ?rw0_1
            case hw0_1 =>
              intro wS hSw
              (try dsimp only at hSw)
              go_simp
              try with_reducible rfl
            case rw0_1 =>
            simp only [Act.put, List.setIfInBounds_toArray, List.set_cons_zero, List.set_cons_succ]
            refine wpAnyH_take (i := 1) (oi := { dst := some 38, op := Go.Op.move (Go.Operand.tmp 9), type := 3, pos := "zsortanyfunc.go:13", after := #[], guard := none }) (v := ?vw1_2) rfl (by kernel_rfl) (by kernel_rfl) (by kernel_rfl) (fun _ _ _ h => h) (Or.inl ⟨by rfl, ?hw1_2⟩) hHeld ?rw1_2
            case hw1_2 =>
              intro wS hSw
              (try dsimp only at hSw)
              go_simp
              try with_reducible rfl
            case rw1_2 =>
            simp only [Act.put, List.setIfInBounds_toArray, List.set_cons_zero, List.set_cons_succ]
            refine wpAnyH_take (i := 2) (oi := { dst := some 39, op := Go.Op.move (Go.Operand.tmp 0), type := 28, pos := "zsortanyfunc.go:13", after := #[{ on := 15, ground := Go.Ground.gcOnly Go.Departure.lateStores }], guard := none }) (v := ?vw2_3) rfl (by kernel_rfl) (by kernel_rfl) (by kernel_rfl) (fun _ _ _ h => h) (Or.inl ⟨by rfl, ?hw2_3⟩) hHeld ?rw2_3
            case hw2_3 =>
              intro wS hSw
              (try dsimp only at hSw)
              go_simp
              try with_reducible rfl
            case rw2_3 =>
            simp only [Act.put, List.setIfInBounds_toArray, List.set_cons_zero, List.set_cons_succ]
            refine wpAnyH_take (i := 3) (oi := { dst := some 40, op := Go.Op.move (Go.Operand.tmp 9), type := 3, pos := "zsortanyfunc.go:13", after := #[{ on := 15, ground := Go.Ground.gcOnly Go.Departure.lateStores }], guard := none }) (v := ?vw3_4) rfl (by kernel_rfl) (by kernel_rfl) (by kernel_rfl) (fun _ _ _ h => h) (Or.inl ⟨by rfl, ?hw3_4⟩) hHeld ?rw3_4
            case hw3_4 =>
              intro wS hSw
              (try dsimp only at hSw)
              go_simp
              try with_reducible rfl
            case rw3_4 =>
            simp only [Act.put, List.setIfInBounds_toArray, List.set_cons_zero, List.set_cons_succ]
            refine wpAnyH_take (i := 4) (oi := { dst := some 41, op := Go.Op.binOp Go.BinOp.sub 3 (Go.Operand.tmp 40) (Go.Operand.const (Go.Value.int Go.IntKind.i64 1)) 3, type := 3, pos := "zsortanyfunc.go:13", after := #[{ on := 3, ground := Go.Ground.data }, { on := 15, ground := Go.Ground.gcOnly Go.Departure.lateStores }], guard := none }) (v := ?vw4_5) rfl (by kernel_rfl) (by kernel_rfl) (by kernel_rfl) (fun _ _ _ h => h) (Or.inl ⟨by rfl, ?hw4_5⟩) hHeld ?rw4_5
            case hw4_5 =>
              intro wS hSw
              (try dsimp only at hSw)
              go_simp
              try with_reducible rfl
            case rw4_5 =>
            simp only [Act.put, List.setIfInBounds_toArray, List.set_cons_zero, List.set_cons_succ]
            refine wpAnyH_take (i := 5) (oi := { dst := some 42, op := Go.Op.move (Go.Operand.tmp 0), type := 28, pos := "zsortanyfunc.go:13", after := #[], guard := none }) (v := ?vw5_6) rfl (by kernel_rfl) (by kernel_rfl) (by kernel_rfl) (fun _ _ _ h => h) (Or.inl ⟨by rfl, ?hw5_6⟩) hHeld ?rw5_6
            case hw5_6 =>
              intro wS hSw
              (try dsimp only at hSw)
              go_simp
              try with_reducible rfl
            case rw5_6 =>
            simp only [Act.put, List.setIfInBounds_toArray, List.set_cons_zero, List.set_cons_succ]
            refine wpAnyH_take (i := 6) (oi := { dst := some 43, op := Go.Op.move (Go.Operand.tmp 9), type := 3, pos := "zsortanyfunc.go:13", after := #[], guard := none }) (v := ?vw6_7) rfl (by kernel_rfl) (by kernel_rfl) (by kernel_rfl) (fun _ _ _ h => h) (Or.inl ⟨by rfl, ?hw6_7⟩) hHeld ?rw6_7
            case hw6_7 =>
              intro wS hSw
              (try dsimp only at hSw)
              go_simp
              try with_reducible rfl
            case rw6_7 =>
            simp only [Act.put, List.setIfInBounds_toArray, List.set_cons_zero, List.set_cons_succ]
            refine wpAnyH_take (i := 7) (oi := { dst := some 44, op := Go.Op.binOp Go.BinOp.sub 3 (Go.Operand.tmp 43) (Go.Operand.const (Go.Value.int Go.IntKind.i64 1)) 3, type := 3, pos := "zsortanyfunc.go:13", after := #[{ on := 6, ground := Go.Ground.data }], guard := none }) (v := ?vw7_8) rfl (by kernel_rfl) (by kernel_rfl) (by kernel_rfl) (fun _ _ _ h => h) (Or.inl ⟨by rfl, ?hw7_8⟩) hHeld ?rw7_8
            case hw7_8 =>
              intro wS hSw
              (try dsimp only at hSw)
              go_simp
              try with_reducible rfl
            case rw7_8 =>
            simp only [Act.put, List.setIfInBounds_toArray, List.set_cons_zero, List.set_cons_succ]
            refine wpAnyH_take (i := 8) (oi := { dst := some 45, op := Go.Op.indexAddr 28 (Go.Operand.tmp 42) (Go.Operand.tmp 44), type := 0, pos := "zsortanyfunc.go:13", after := #[{ on := 5, ground := Go.Ground.data }, { on := 7, ground := Go.Ground.data }], guard := none }) (v := ?vw8_9) rfl (by kernel_rfl) (by kernel_rfl) (by kernel_rfl) (fun _ _ _ h => h) (Or.inl ⟨by rfl, ?hw8_9⟩) hHeld ?rw8_9
            case hw8_9 =>
              intro wS hSw
              (try dsimp only at hSw)
              go_simp
              try with_reducible rfl
            case rw8_9 =>
            simp only [Act.put, List.setIfInBounds_toArray, List.set_cons_zero, List.set_cons_succ]
            refine wpAnyH_take (i := 10) (oi := { dst := some 47, op := Go.Op.move (Go.Operand.tmp 0), type := 28, pos := "zsortanyfunc.go:13", after := #[], guard := none }) (v := ?vw10_10) rfl (by kernel_rfl) (by kernel_rfl) (by kernel_rfl) (fun _ _ _ h => h) (Or.inl ⟨by rfl, ?hw10_10⟩) hHeld ?rw10_10
            case hw10_10 =>
              intro wS hSw
              (try dsimp only at hSw)
              go_simp
              try with_reducible rfl
            case rw10_10 =>
            simp only [Act.put, List.setIfInBounds_toArray, List.set_cons_zero, List.set_cons_succ]
            refine wpAnyH_take (i := 11) (oi := { dst := some 48, op := Go.Op.move (Go.Operand.tmp 9), type := 3, pos := "zsortanyfunc.go:13", after := #[], guard := none }) (v := ?vw11_11) rfl (by kernel_rfl) (by kernel_rfl) (by kernel_rfl) (fun _ _ _ h => h) (Or.inl ⟨by rfl, ?hw11_11⟩) hHeld ?rw11_11
            case hw11_11 =>
              intro wS hSw
              (try dsimp only at hSw)
              go_simp
              try with_reducible rfl
            case rw11_11 =>
            simp only [Act.put, List.setIfInBounds_toArray, List.set_cons_zero, List.set_cons_succ]
            refine wpAnyH_take (i := 12) (oi := { dst := some 49, op := Go.Op.indexAddr 28 (Go.Operand.tmp 47) (Go.Operand.tmp 48), type := 0, pos := "zsortanyfunc.go:13", after := #[{ on := 10, ground := Go.Ground.data }, { on := 11, ground := Go.Ground.data }], guard := none }) (v := ?vw12_12) rfl (by kernel_rfl) (by kernel_rfl) (by kernel_rfl) (fun _ _ _ h => h) (Or.inl ⟨by rfl, ?hw12_12⟩) hHeld ?rw12_12
            case hw12_12 =>
              intro wS hSw
              (try dsimp only at hSw)
              go_simp
              try with_reducible rfl
            case rw12_12 =>
            simp only [Act.put, List.setIfInBounds_toArray, List.set_cons_zero, List.set_cons_succ]
            refine wpAnyH_ready (rs := [9, 13]) (by kernel_rfl) (by simp) ?_
            refine AllReadyH.cons (o := { dst := some 46, op := Go.Op.load 2 (Go.Operand.tmp 45), type := 2, pos := "zsortanyfunc.go:13", after := #[{ on := 8, ground := Go.Ground.data }], guard := none }) rfl (fun K hK => ?ow9_13) (AllReadyH.cons (o := { dst := some 50, op := Go.Op.load 2 (Go.Operand.tmp 49), type := 2, pos := "zsortanyfunc.go:13", after := #[{ on := 12, ground := Go.Ground.data }], guard := none }) rfl (fun K hK => ?ow13_13) (AllReadyH.nil))
            case ow9_13 =>
              have y0 := hDp
              go_simp
              refine hK.out _ _ hHeld (fun hHeld => ?_)
              clear hK K
              try simp only [Act.put, List.setIfInBounds_toArray, List.set_cons_zero, List.set_cons_succ]
              refine wpAnyH_ready (rs := [13]) (by kernel_rfl) (by simp) ?_
              refine AllReadyH.cons (o := { dst := some 50, op := Go.Op.load 2 (Go.Operand.tmp 49), type := 2, pos := "zsortanyfunc.go:13", after := #[{ on := 12, ground := Go.Ground.data }], guard := none }) rfl (fun K hK => ?_) AllReadyH.nil
              have y0 := hDj
              go_simp
              refine hK.out _ _ hHeld (fun hHeld => ?_)
              clear hK K
              try simp only [Act.put, List.setIfInBounds_toArray, List.set_cons_zero, List.set_cons_succ]
              refine wpAnyH_take (i := 14) (oi := { dst := some 51, op := Go.Op.indexAddr 28 (Go.Operand.tmp 37) (Go.Operand.tmp 38), type := 0, pos := "zsortanyfunc.go:13", after := #[{ on := 0, ground := Go.Ground.data }, { on := 1, ground := Go.Ground.data }, { on := 0, ground := Go.Ground.phase }, { on := 1, ground := Go.Ground.phase }, { on := 2, ground := Go.Ground.textOnly Go.Departure.lateStores }, { on := 3, ground := Go.Ground.textOnly Go.Departure.lateStores }, { on := 4, ground := Go.Ground.textOnly Go.Departure.lateStores }, { on := 5, ground := Go.Ground.phase }, { on := 6, ground := Go.Ground.phase }, { on := 7, ground := Go.Ground.phase }, { on := 8, ground := Go.Ground.phase }, { on := 9, ground := Go.Ground.phase }, { on := 10, ground := Go.Ground.textOnly Go.Departure.lateStores }, { on := 11, ground := Go.Ground.textOnly Go.Departure.lateStores }, { on := 12, ground := Go.Ground.textOnly Go.Departure.lateStoresUnsure }, { on := 13, ground := Go.Ground.phase }], guard := none }) (v := ?vw14_14) rfl (by kernel_rfl) (by kernel_rfl) (by kernel_rfl) (fun _ _ _ h => h) (Or.inl ⟨by rfl, ?hw14_14⟩) hHeld ?rw14_14
              case hw14_14 =>
                intro wS hSw
                (try dsimp only at hSw)
                go_simp
                try with_reducible rfl
              case rw14_14 =>
              simp only [Act.put, List.setIfInBounds_toArray, List.set_cons_zero, List.set_cons_succ]
              refine wpAnyH_ready (rs := [15]) (by kernel_rfl) (by simp) ?_
              refine AllReadyH.cons (o := { dst := none, op := Go.Op.store 2 (Go.Operand.tmp 51) (Go.Operand.tmp 46), type := 0, pos := "zsortanyfunc.go:13", after := #[{ on := 14, ground := Go.Ground.data }, { on := 9, ground := Go.Ground.data }, { on := 0, ground := Go.Ground.phase }, { on := 1, ground := Go.Ground.phase }, { on := 2, ground := Go.Ground.textOnly Go.Departure.lateStores }, { on := 3, ground := Go.Ground.textOnly Go.Departure.lateStores }, { on := 4, ground := Go.Ground.textOnly Go.Departure.lateStores }, { on := 5, ground := Go.Ground.phase }, { on := 6, ground := Go.Ground.phase }, { on := 7, ground := Go.Ground.phase }, { on := 8, ground := Go.Ground.phase }, { on := 9, ground := Go.Ground.phase }, { on := 10, ground := Go.Ground.textOnly Go.Departure.lateStores }, { on := 11, ground := Go.Ground.textOnly Go.Departure.lateStores }, { on := 12, ground := Go.Ground.textOnly Go.Departure.lateStoresUnsure }, { on := 13, ground := Go.Ground.phase }], guard := none }) rfl (fun K hK => ?_) AllReadyH.nil
              have y0 := hDj
              have f0 := hDW.frozenAt (jp + 1)
              have l0 := (hDW.lt G rfl).2
              go_simp
              refine hK.out _ _ (hHeld.setCell _ _ rfl) (fun hHeld => ?_)
              clear hK K
              try simp only [Act.put, List.setIfInBounds_toArray, List.set_cons_zero, List.set_cons_succ]
              refine wpAnyH_take (i := 16) (oi := { dst := some 52, op := Go.Op.indexAddr 28 (Go.Operand.tmp 39) (Go.Operand.tmp 41), type := 0, pos := "zsortanyfunc.go:13", after := #[{ on := 2, ground := Go.Ground.data }, { on := 4, ground := Go.Ground.data }, { on := 0, ground := Go.Ground.phase }, { on := 1, ground := Go.Ground.phase }, { on := 2, ground := Go.Ground.phase }, { on := 3, ground := Go.Ground.phase }, { on := 4, ground := Go.Ground.phase }, { on := 5, ground := Go.Ground.phase }, { on := 6, ground := Go.Ground.phase }, { on := 7, ground := Go.Ground.phase }, { on := 8, ground := Go.Ground.phase }, { on := 9, ground := Go.Ground.phase }, { on := 10, ground := Go.Ground.phase }, { on := 11, ground := Go.Ground.phase }, { on := 12, ground := Go.Ground.phase }, { on := 13, ground := Go.Ground.phase }, { on := 14, ground := Go.Ground.phase }, { on := 15, ground := Go.Ground.phase }], guard := none }) (v := ?vw16_15) rfl (by kernel_rfl) (by kernel_rfl) (by kernel_rfl) (fun _ _ _ h => h) (Or.inl ⟨by rfl, ?hw16_15⟩) hHeld ?rw16_15
              case hw16_15 =>
                intro wS hSw
                (try dsimp only at hSw)
                go_simp
                try with_reducible rfl
              case rw16_15 =>
              simp only [Act.put, List.setIfInBounds_toArray, List.set_cons_zero, List.set_cons_succ]
              refine wpAnyH_ready (rs := [17]) (by kernel_rfl) (by simp) ?_
              refine AllReadyH.cons (o := { dst := none, op := Go.Op.store 2 (Go.Operand.tmp 52) (Go.Operand.tmp 50), type := 0, pos := "zsortanyfunc.go:13", after := #[{ on := 16, ground := Go.Ground.data }, { on := 13, ground := Go.Ground.data }, { on := 15, ground := Go.Ground.chain }, { on := 0, ground := Go.Ground.phase }, { on := 1, ground := Go.Ground.phase }, { on := 2, ground := Go.Ground.phase }, { on := 3, ground := Go.Ground.phase }, { on := 4, ground := Go.Ground.phase }, { on := 5, ground := Go.Ground.phase }, { on := 6, ground := Go.Ground.phase }, { on := 7, ground := Go.Ground.phase }, { on := 8, ground := Go.Ground.phase }, { on := 9, ground := Go.Ground.phase }, { on := 10, ground := Go.Ground.phase }, { on := 11, ground := Go.Ground.phase }, { on := 12, ground := Go.Ground.phase }, { on := 13, ground := Go.Ground.phase }, { on := 14, ground := Go.Ground.phase }, { on := 15, ground := Go.Ground.phase }], guard := none }) rfl (fun K hK => ?_) AllReadyH.nil
              have y0 := hDp
              have f0 := hDW.frozenAt (jp)
              have l0 := (hDW.lt G rfl).2
              go_simp
              refine hK.out _ _ (hHeld.setCell _ _ rfl) (fun hHeld => ?_)
              clear hK K
              try simp only [Act.put, List.setIfInBounds_toArray, List.set_cons_zero, List.set_cons_succ]
              refine wpAnyH_done (by kernel_rfl) ?_ _
              refine NoPanic.normal ?_
              have hN := ((hDW.stored (jp + 1) (.int .i64 (p : Int))).1.stored jp (.int .i64 (i : Int))).1
              rw [← plV_set, ← plV_set] at hN
              have HN := hide hN
              have HE9 := hide ((unhide HE5).trans hHeld)
              clear hN hHeld hDW hDj hDp
              go_wp2_with fail
              go_roundw
              case rel => exact ⟨jp, _, by omega, by go_num, (unhide HI).swap (unhide HDD) (unhide HS), unhide HN, unhide HE9⟩
              case measure => simp [intOf]
            case ow13_13 =>
              have y0 := hDj
              go_simp
              refine hK.out _ _ hHeld (fun hHeld => ?_)
              clear hK K
              try simp only [Act.put, List.setIfInBounds_toArray, List.set_cons_zero, List.set_cons_succ]
              refine wpAnyH_ready (rs := [9]) (by kernel_rfl) (by simp) ?_
              refine AllReadyH.cons (o := { dst := some 46, op := Go.Op.load 2 (Go.Operand.tmp 45), type := 2, pos := "zsortanyfunc.go:13", after := #[{ on := 8, ground := Go.Ground.data }], guard := none }) rfl (fun K hK => ?_) AllReadyH.nil
              have y0 := hDp
              go_simp
              refine hK.out _ _ hHeld (fun hHeld => ?_)
              clear hK K
              try simp only [Act.put, List.setIfInBounds_toArray, List.set_cons_zero, List.set_cons_succ]
              refine wpAnyH_take (i := 14) (oi := { dst := some 51, op := Go.Op.indexAddr 28 (Go.Operand.tmp 37) (Go.Operand.tmp 38), type := 0, pos := "zsortanyfunc.go:13", after := #[{ on := 0, ground := Go.Ground.data }, { on := 1, ground := Go.Ground.data }, { on := 0, ground := Go.Ground.phase }, { on := 1, ground := Go.Ground.phase }, { on := 2, ground := Go.Ground.textOnly Go.Departure.lateStores }, { on := 3, ground := Go.Ground.textOnly Go.Departure.lateStores }, { on := 4, ground := Go.Ground.textOnly Go.Departure.lateStores }, { on := 5, ground := Go.Ground.phase }, { on := 6, ground := Go.Ground.phase }, { on := 7, ground := Go.Ground.phase }, { on := 8, ground := Go.Ground.phase }, { on := 9, ground := Go.Ground.phase }, { on := 10, ground := Go.Ground.textOnly Go.Departure.lateStores }, { on := 11, ground := Go.Ground.textOnly Go.Departure.lateStores }, { on := 12, ground := Go.Ground.textOnly Go.Departure.lateStoresUnsure }, { on := 13, ground := Go.Ground.phase }], guard := none }) (v := ?vw14_16) rfl (by kernel_rfl) (by kernel_rfl) (by kernel_rfl) (fun _ _ _ h => h) (Or.inl ⟨by rfl, ?hw14_16⟩) hHeld ?rw14_16
              case hw14_16 =>
                intro wS hSw
                (try dsimp only at hSw)
                go_simp
                try with_reducible rfl
              case rw14_16 =>
              simp only [Act.put, List.setIfInBounds_toArray, List.set_cons_zero, List.set_cons_succ]
              refine wpAnyH_ready (rs := [15]) (by kernel_rfl) (by simp) ?_
              refine AllReadyH.cons (o := { dst := none, op := Go.Op.store 2 (Go.Operand.tmp 51) (Go.Operand.tmp 46), type := 0, pos := "zsortanyfunc.go:13", after := #[{ on := 14, ground := Go.Ground.data }, { on := 9, ground := Go.Ground.data }, { on := 0, ground := Go.Ground.phase }, { on := 1, ground := Go.Ground.phase }, { on := 2, ground := Go.Ground.textOnly Go.Departure.lateStores }, { on := 3, ground := Go.Ground.textOnly Go.Departure.lateStores }, { on := 4, ground := Go.Ground.textOnly Go.Departure.lateStores }, { on := 5, ground := Go.Ground.phase }, { on := 6, ground := Go.Ground.phase }, { on := 7, ground := Go.Ground.phase }, { on := 8, ground := Go.Ground.phase }, { on := 9, ground := Go.Ground.phase }, { on := 10, ground := Go.Ground.textOnly Go.Departure.lateStores }, { on := 11, ground := Go.Ground.textOnly Go.Departure.lateStores }, { on := 12, ground := Go.Ground.textOnly Go.Departure.lateStoresUnsure }, { on := 13, ground := Go.Ground.phase }], guard := none }) rfl (fun K hK => ?_) AllReadyH.nil
              have y0 := hDj
              have f0 := hDW.frozenAt (jp + 1)
              have l0 := (hDW.lt G rfl).2
              go_simp
              refine hK.out _ _ (hHeld.setCell _ _ rfl) (fun hHeld => ?_)
              clear hK K
              try simp only [Act.put, List.setIfInBounds_toArray, List.set_cons_zero, List.set_cons_succ]
              refine wpAnyH_take (i := 16) (oi := { dst := some 52, op := Go.Op.indexAddr 28 (Go.Operand.tmp 39) (Go.Operand.tmp 41), type := 0, pos := "zsortanyfunc.go:13", after := #[{ on := 2, ground := Go.Ground.data }, { on := 4, ground := Go.Ground.data }, { on := 0, ground := Go.Ground.phase }, { on := 1, ground := Go.Ground.phase }, { on := 2, ground := Go.Ground.phase }, { on := 3, ground := Go.Ground.phase }, { on := 4, ground := Go.Ground.phase }, { on := 5, ground := Go.Ground.phase }, { on := 6, ground := Go.Ground.phase }, { on := 7, ground := Go.Ground.phase }, { on := 8, ground := Go.Ground.phase }, { on := 9, ground := Go.Ground.phase }, { on := 10, ground := Go.Ground.phase }, { on := 11, ground := Go.Ground.phase }, { on := 12, ground := Go.Ground.phase }, { on := 13, ground := Go.Ground.phase }, { on := 14, ground := Go.Ground.phase }, { on := 15, ground := Go.Ground.phase }], guard := none }) (v := ?vw16_17) rfl (by kernel_rfl) (by kernel_rfl) (by kernel_rfl) (fun _ _ _ h => h) (Or.inl ⟨by rfl, ?hw16_17⟩) hHeld ?rw16_17
              case hw16_17 =>
                intro wS hSw
                (try dsimp only at hSw)
                go_simp
                try with_reducible rfl
              case rw16_17 =>
              simp only [Act.put, List.setIfInBounds_toArray, List.set_cons_zero, List.set_cons_succ]
              refine wpAnyH_ready (rs := [17]) (by kernel_rfl) (by simp) ?_
              refine AllReadyH.cons (o := { dst := none, op := Go.Op.store 2 (Go.Operand.tmp 52) (Go.Operand.tmp 50), type := 0, pos := "zsortanyfunc.go:13", after := #[{ on := 16, ground := Go.Ground.data }, { on := 13, ground := Go.Ground.data }, { on := 15, ground := Go.Ground.chain }, { on := 0, ground := Go.Ground.phase }, { on := 1, ground := Go.Ground.phase }, { on := 2, ground := Go.Ground.phase }, { on := 3, ground := Go.Ground.phase }, { on := 4, ground := Go.Ground.phase }, { on := 5, ground := Go.Ground.phase }, { on := 6, ground := Go.Ground.phase }, { on := 7, ground := Go.Ground.phase }, { on := 8, ground := Go.Ground.phase }, { on := 9, ground := Go.Ground.phase }, { on := 10, ground := Go.Ground.phase }, { on := 11, ground := Go.Ground.phase }, { on := 12, ground := Go.Ground.phase }, { on := 13, ground := Go.Ground.phase }, { on := 14, ground := Go.Ground.phase }, { on := 15, ground := Go.Ground.phase }], guard := none }) rfl (fun K hK => ?_) AllReadyH.nil
              have y0 := hDp
              have f0 := hDW.frozenAt (jp)
              have l0 := (hDW.lt G rfl).2
              go_simp
              refine hK.out _ _ (hHeld.setCell _ _ rfl) (fun hHeld => ?_)
              clear hK K
              try simp only [Act.put, List.setIfInBounds_toArray, List.set_cons_zero, List.set_cons_succ]
              refine wpAnyH_done (by kernel_rfl) ?_ _
              refine NoPanic.normal ?_
              have hN := ((hDW.stored (jp + 1) (.int .i64 (p : Int))).1.stored jp (.int .i64 (i : Int))).1
              rw [← plV_set, ← plV_set] at hN
              have HN := hide hN
              have HE9 := hide ((unhide HE5).trans hHeld)
              clear hN hHeld hDW hDj hDp
              go_wp2_with fail
              go_roundw
              case rel => exact ⟨jp, _, by omega, by go_num, (unhide HI).swap (unhide HDD) (unhide HS), unhide HN, unhide HE9⟩
              case measure => simp [intOf]
          · rw [decide_eq_false hs] at hcn
            have HO2 := hide ((unhide HI).stop (fun p => rfl) (fun p2 _ h2 => by
              have e : jp + 1 - 1 = jp := rfl
              rw [e, unhide HDD] at h2
              obtain rfl := Option.some.inj h2
              omega))
            clear hs
            go_wp2_with fail
            refine wp_region_noPanic ?_
            refine wp_region_held_drew (S := fun w' => Below wr.heap.size wr w') (by kernel_rfl) (Below.refl _ _).drew (fun hHeld => ?_)
            generalize wr.drew = wD at hHeld ⊢
            refine wpAnyH_take (i := 0) (oi := { dst := some 18, op := Go.Op.move (Go.Operand.tmp 9), type := 3, pos := "zsortanyfunc.go:12", after := #[], guard := none }) (v := ?vz0) rfl (by kernel_rfl) (by kernel_rfl) (by kernel_rfl) (fun _ _ _ h => h) (Or.inl ⟨by rfl, ?hz0⟩) hHeld ?rz0
            case hz0 =>
              intro wS hSw
              (try dsimp only at hSw)
              go_simp
              try with_reducible rfl
            case rz0 =>
            simp only [Act.put, List.setIfInBounds_toArray, List.set_cons_zero, List.set_cons_succ]
            refine wpAnyH_take (i := 1) (oi := { dst := some 19, op := Go.Op.move (Go.Operand.tmp 1), type := 3, pos := "zsortanyfunc.go:12", after := #[], guard := none }) (v := ?vz1) rfl (by kernel_rfl) (by kernel_rfl) (by kernel_rfl) (fun _ _ _ h => h) (Or.inl ⟨by rfl, ?hz1⟩) hHeld ?rz1
            case hz1 =>
              intro wS hSw
              (try dsimp only at hSw)
              go_simp
              try with_reducible rfl
            case rz1 =>
            simp only [Act.put, List.setIfInBounds_toArray, List.set_cons_zero, List.set_cons_succ]
            refine wpAnyH_take (i := 2) (oi := { dst := some 20, op := Go.Op.binOp Go.BinOp.gtr 3 (Go.Operand.tmp 18) (Go.Operand.tmp 19) 3, type := 4, pos := "zsortanyfunc.go:12", after := #[{ on := 0, ground := Go.Ground.data }, { on := 1, ground := Go.Ground.data }], guard := none }) (v := ?vz2) rfl (by kernel_rfl) (by kernel_rfl) (by kernel_rfl) (fun _ _ _ h => h) (Or.inl ⟨by rfl, ?hz2⟩) hHeld ?rz2
            case hz2 =>
              intro wS hSw
              (try dsimp only at hSw)
              go_simp
              try with_reducible rfl
            case rz2 =>
            simp only [Act.put, List.setIfInBounds_toArray, List.set_cons_zero, List.set_cons_succ]
            refine wpAnyH_take (i := 3) (oi := { dst := some 21, op := Go.Op.move (Go.Operand.tmp 20), type := 4, pos := "zsortanyfunc.go:12", after := #[{ on := 2, ground := Go.Ground.data }], guard := none }) (v := ?vz3) rfl (by kernel_rfl) (by kernel_rfl) (by kernel_rfl) (fun _ _ _ h => h) (Or.inl ⟨by rfl, ?hz3⟩) hHeld ?rz3
            case hz3 =>
              intro wS hSw
              (try dsimp only at hSw)
              go_simp
              try with_reducible rfl
            case rz3 =>
            simp only [Act.put, List.setIfInBounds_toArray, List.set_cons_zero, List.set_cons_succ]
            refine wpAnyH_take (i := 4) (oi := { dst := some 22, op := Go.Op.move (Go.Operand.tmp 3), type := 170, pos := "zsortanyfunc.go:12", after := #[{ on := 3, ground := Go.Ground.guard }], guard := some (3, true) }) (v := ?vz4) rfl (by kernel_rfl) (by kernel_rfl) (by kernel_rfl) (fun _ _ _ h => h) (Or.inl ⟨by rfl, ?hz4⟩) hHeld ?rz4
            case hz4 =>
              intro wS hSw
              (try dsimp only at hSw)
              go_simp
              try with_reducible rfl
            case rz4 =>
            simp only [Act.put, List.setIfInBounds_toArray, List.set_cons_zero, List.set_cons_succ]
            refine wpAnyH_take (i := 5) (oi := { dst := some 23, op := Go.Op.move (Go.Operand.tmp 0), type := 28, pos := "zsortanyfunc.go:12", after := #[{ on := 3, ground := Go.Ground.guard }], guard := some (3, true) }) (v := ?vz5) rfl (by kernel_rfl) (by kernel_rfl) (by kernel_rfl) (fun _ _ _ h => h) (Or.inl ⟨by rfl, ?hz5⟩) hHeld ?rz5
            case hz5 =>
              intro wS hSw
              (try dsimp only at hSw)
              go_simp
              try with_reducible rfl
            case rz5 =>
            simp only [Act.put, List.setIfInBounds_toArray, List.set_cons_zero, List.set_cons_succ]
            refine wpAnyH_take (i := 6) (oi := { dst := some 24, op := Go.Op.move (Go.Operand.tmp 9), type := 3, pos := "zsortanyfunc.go:12", after := #[{ on := 3, ground := Go.Ground.guard }], guard := some (3, true) }) (v := ?vz6) rfl (by kernel_rfl) (by kernel_rfl) (by kernel_rfl) (fun _ _ _ h => h) (Or.inl ⟨by rfl, ?hz6⟩) hHeld ?rz6
            case hz6 =>
              intro wS hSw
              (try dsimp only at hSw)
              go_simp
              try with_reducible rfl
            case rz6 =>
            simp only [Act.put, List.setIfInBounds_toArray, List.set_cons_zero, List.set_cons_succ]
            refine wpAnyH_take (i := 7) (oi := { dst := some 25, op := Go.Op.indexAddr 28 (Go.Operand.tmp 23) (Go.Operand.tmp 24), type := 0, pos := "zsortanyfunc.go:12", after := #[{ on := 5, ground := Go.Ground.data }, { on := 6, ground := Go.Ground.data }, { on := 3, ground := Go.Ground.guard }], guard := some (3, true) }) (v := ?vz7) rfl (by kernel_rfl) (by kernel_rfl) (by kernel_rfl) (fun _ _ _ h => h) (Or.inl ⟨by rfl, ?hz7⟩) hHeld ?rz7
            case hz7 =>
              intro wS hSw
              (try dsimp only at hSw)
              go_simp
              try with_reducible rfl
            case rz7 =>
            simp only [Act.put, List.setIfInBounds_toArray, List.set_cons_zero, List.set_cons_succ]
            refine wpAnyH_take (i := 8) (oi := { dst := some 26, op := Go.Op.load 2 (Go.Operand.tmp 25), type := 2, pos := "zsortanyfunc.go:12", after := #[{ on := 7, ground := Go.Ground.data }, { on := 3, ground := Go.Ground.guard }], guard := some (3, true) }) (v := ?vz8) rfl (by kernel_rfl) (by kernel_rfl) (by kernel_rfl) (fun _ _ _ h => h) (Or.inl ⟨by rfl, ?hz8⟩) hHeld ?rz8
            case hz8 =>
              intro wS hSw
              have y0 := cell_keep hSw (unhide HDJ)
              clear hSw
              (try dsimp only at hSw)
              go_simp
              try with_reducible rfl
            case rz8 =>
            simp only [Act.put, List.setIfInBounds_toArray, List.set_cons_zero, List.set_cons_succ]
            refine wpAnyH_take (i := 9) (oi := { dst := some 27, op := Go.Op.move (Go.Operand.tmp 0), type := 28, pos := "zsortanyfunc.go:12", after := #[{ on := 3, ground := Go.Ground.guard }], guard := some (3, true) }) (v := ?vz9) rfl (by kernel_rfl) (by kernel_rfl) (by kernel_rfl) (fun _ _ _ h => h) (Or.inl ⟨by rfl, ?hz9⟩) hHeld ?rz9
            case hz9 =>
              intro wS hSw
              (try dsimp only at hSw)
              go_simp
              try with_reducible rfl
            case rz9 =>
            simp only [Act.put, List.setIfInBounds_toArray, List.set_cons_zero, List.set_cons_succ]
            refine wpAnyH_take (i := 10) (oi := { dst := some 28, op := Go.Op.move (Go.Operand.tmp 9), type := 3, pos := "zsortanyfunc.go:12", after := #[{ on := 3, ground := Go.Ground.guard }], guard := some (3, true) }) (v := ?vz10) rfl (by kernel_rfl) (by kernel_rfl) (by kernel_rfl) (fun _ _ _ h => h) (Or.inl ⟨by rfl, ?hz10⟩) hHeld ?rz10
            case hz10 =>
              intro wS hSw
              (try dsimp only at hSw)
              go_simp
              try with_reducible rfl
            case rz10 =>
            simp only [Act.put, List.setIfInBounds_toArray, List.set_cons_zero, List.set_cons_succ]
            refine wpAnyH_take (i := 11) (oi := { dst := some 29, op := Go.Op.binOp Go.BinOp.sub 3 (Go.Operand.tmp 28) (Go.Operand.const (Go.Value.int Go.IntKind.i64 1)) 3, type := 3, pos := "zsortanyfunc.go:12", after := #[{ on := 10, ground := Go.Ground.data }, { on := 3, ground := Go.Ground.guard }], guard := some (3, true) }) (v := ?vz11) rfl (by kernel_rfl) (by kernel_rfl) (by kernel_rfl) (fun _ _ _ h => h) (Or.inl ⟨by rfl, ?hz11⟩) hHeld ?rz11
            case hz11 =>
              intro wS hSw
              (try dsimp only at hSw)
              go_simp
              try with_reducible rfl
            case rz11 =>
            simp only [Act.put, List.setIfInBounds_toArray, List.set_cons_zero, List.set_cons_succ]
            refine wpAnyH_take (i := 12) (oi := { dst := some 30, op := Go.Op.indexAddr 28 (Go.Operand.tmp 27) (Go.Operand.tmp 29), type := 0, pos := "zsortanyfunc.go:12", after := #[{ on := 9, ground := Go.Ground.data }, { on := 11, ground := Go.Ground.data }, { on := 3, ground := Go.Ground.guard }], guard := some (3, true) }) (v := ?vz12) rfl (by kernel_rfl) (by kernel_rfl) (by kernel_rfl) (fun _ _ _ h => h) (Or.inl ⟨by rfl, ?hz12⟩) hHeld ?rz12
            case hz12 =>
              intro wS hSw
              (try dsimp only at hSw)
              go_simp
              try with_reducible rfl
            case rz12 =>
            simp only [Act.put, List.setIfInBounds_toArray, List.set_cons_zero, List.set_cons_succ]
            refine wpAnyH_take (i := 13) (oi := { dst := some 31, op := Go.Op.load 2 (Go.Operand.tmp 30), type := 2, pos := "zsortanyfunc.go:12", after := #[{ on := 12, ground := Go.Ground.data }, { on := 3, ground := Go.Ground.guard }], guard := some (3, true) }) (v := ?vz13) rfl (by kernel_rfl) (by kernel_rfl) (by kernel_rfl) (fun _ _ _ h => h) (Or.inl ⟨by rfl, ?hz13⟩) hHeld ?rz13
            case hz13 =>
              intro wS hSw
              have y0 := cell_keep hSw (unhide HDP)
              clear hSw
              (try dsimp only at hSw)
              go_simp
              try with_reducible rfl
            case rz13 =>
            simp only [Act.put, List.setIfInBounds_toArray, List.set_cons_zero, List.set_cons_succ]
            refine wpAnyH_ready (rs := [14]) (by kernel_rfl) (by simp) ?_
            refine AllReadyH.cons (o := { dst := some 32, op := Go.Op.call { callee := Go.Callee.value (Go.Operand.tmp 22), args := #[Go.Operand.tmp 26, Go.Operand.tmp 31], argTypes := #[2, 2] }, type := 3, pos := "zsortanyfunc.go:12", after := #[{ on := 4, ground := Go.Ground.data }, { on := 8, ground := Go.Ground.data }, { on := 13, ground := Go.Ground.data }, { on := 3, ground := Go.Ground.chain }, { on := 3, ground := Go.Ground.guard }], guard := some (3, true) }) rfl (fun K hK => ?_) AllReadyH.nil
            go_simp
            refine (unhide LC _ hHeld).mono ?_
            rintro e w5 ⟨rfl, hb5⟩
            try go_wp2_with fail
            refine hK.out _ _ (hHeld.trans (hb5.mono hHeld.size)) (fun hHeld => ?_)
            clear hK K
            try simp only [Act.put, List.setIfInBounds_toArray, List.set_cons_zero, List.set_cons_succ]
            refine wpAnyH_take (i := 15) (oi := { dst := some 33, op := Go.Op.binOp Go.BinOp.lss 3 (Go.Operand.tmp 32) (Go.Operand.const (Go.Value.int Go.IntKind.i64 0)) 3, type := 4, pos := "zsortanyfunc.go:12", after := #[{ on := 14, ground := Go.Ground.data }, { on := 3, ground := Go.Ground.guard }], guard := some (3, true) }) (v := ?vz15) rfl (by kernel_rfl) (by kernel_rfl) (by kernel_rfl) (fun _ _ _ h => h) (Or.inl ⟨by rfl, ?hz15⟩) hHeld ?rz15
            case hz15 =>
              intro wS hSw
              (try dsimp only at hSw)
              go_simp
              try with_reducible rfl
            case rz15 =>
            simp only [Act.put, List.setIfInBounds_toArray, List.set_cons_zero, List.set_cons_succ]
            refine wpAnyH_take (i := 16) (oi := { dst := some 34, op := Go.Op.pick (Go.Operand.tmp 21) (Go.Operand.tmp 33) (Go.Operand.const (Go.Value.bool false)), type := 4, pos := "zsortanyfunc.go:12", after := #[{ on := 3, ground := Go.Ground.data }, { on := 15, ground := Go.Ground.data }], guard := none }) (v := ?vz16) rfl (by kernel_rfl) (by kernel_rfl) (by kernel_rfl) (fun _ _ _ h => h) (Or.inl ⟨by rfl, ?hz16⟩) hHeld ?rz16
            case hz16 =>
              intro wS hSw
              (try dsimp only at hSw)
              go_simp
              try with_reducible rfl
            case rz16 =>
            simp only [Act.put, List.setIfInBounds_toArray, List.set_cons_zero, List.set_cons_succ]
            refine wpAnyH_done (by kernel_rfl) ?_ _
            refine NoPanic.normal ?_
            have HW9 := hide (own_below (unhide HW) hHeld)
            have HE9 := hide ((unhide HE).trans (ext_of_below hHeld _))
            clear hHeld
            go_wp2_with fail
            go_roundw
            case rel => exact ⟨i + 1, d, by omega, by omega, by go_num, unhide HO2, unhide HW9, unhide HE9⟩
            case measure => simp [intOf]; omega
    · obtain rfl : i = cs.length := by omega
      obtain ⟨q1, q2, q3⟩ := insO_end hO
      have HW := hide hown
      have HE := hide hE
      clear hO hown hE
      go_wp2_with fail
      go_end0
      exact ⟨rfl, ⟨d, q1, q2, q3, unhide HW⟩, unhide HE⟩

/-- What the sort leaves: the row sorted. -/
def SortedAt (cs : List DCenter) (q : List Int) (G : Nat) (w w' : World) : Prop :=
  (∃ d : List Nat, Sorted (d.map (hitAt cs q)) ∧ (∀ p, p ∈ d ↔ p < cs.length) ∧ d.length = cs.length ∧ w'.ownsRow G 2 1 (.slice (some ⟨G, 0, none⟩) cs.length cs.length) cs.length (plV d)) ∧ Ext (fun c => c = G) w w'

set_option maxRecDepth 100000 in
set_option maxHeartbeats 2000000 in
theorem stableC (cs : List DCenter) (q : List Int) (Bl Bq G : Nat) (w : World) (hn6 : cs.length ≤ 6) (L : Calls Tryz.prog 153 #[.slice (some ⟨G, 0, none⟩) cs.length cs.length, .int .i64 0, .int .i64 (cs.length : Int), .func (.func 125) #[] #[.pointer (some ⟨Bl, 0, none⟩), .pointer (some ⟨Bq, 0, none⟩)]] w fun e w' => e = .returned (.tuple #[]) ∧ SortedAt cs q G w w') :
    Calls Tryz.prog 143 #[.slice (some ⟨G, 0, none⟩) cs.length cs.length, .int .i64 (cs.length : Int), .func (.func 125) #[] #[.pointer (some ⟨Bl, 0, none⟩), .pointer (some ⟨Bq, 0, none⟩)]] w fun e w' => e = .returned (.tuple #[]) ∧ SortedAt cs q G w w' := by
  have h20 : decide ((20 : Int) ≤ (cs.length : Int)) = false := by rw [decide_eq_false_iff_not]; omega
  have h21 : decide ((20 : Int) < (cs.length : Int)) = false := by rw [decide_eq_false_iff_not]; omega
  have HL := hide L
  clear L
  go_enter Tryz.func143, Tryz.ntmps143
  go_wp2_with fail
  refine wp_loop_rounds 1 ?_
  rw [rounds_succ]
  go_wp2_with fail
  refine (unhide HL).mono ?_
  rintro e w1 ⟨rfl, hS⟩
  have HS := hide hS
  clear hS
  go_wp2_with fail
  refine wp_loop_rounds 1 ?_
  rw [rounds_succ]
  go_wp2_with fail
  go_end0
  exact ⟨rfl, unhide HS⟩

set_option maxRecDepth 100000 in
theorem sortC (cs : List DCenter) (q : List Int) (Bl Bq G : Nat) (w : World) (L : Calls Tryz.prog 143 #[.slice (some ⟨G, 0, none⟩) cs.length cs.length, .int .i64 (cs.length : Int), .func (.func 125) #[] #[.pointer (some ⟨Bl, 0, none⟩), .pointer (some ⟨Bq, 0, none⟩)]] w fun e w' => e = .returned (.tuple #[]) ∧ SortedAt cs q G w w') :
    Calls Tryz.prog 124 #[.slice (some ⟨G, 0, none⟩) cs.length cs.length, .func (.func 125) #[] #[.pointer (some ⟨Bl, 0, none⟩), .pointer (some ⟨Bq, 0, none⟩)]] w fun e w' => e = .returned (.tuple #[]) ∧ SortedAt cs q G w w' := by
  have HL := hide L
  clear L
  go_enter Tryz.func124, Tryz.ntmps124
  go_wp2_with fail
  refine (unhide HL).mono ?_
  rintro e w1 ⟨rfl, hS⟩
  have HS := hide hS
  clear hS
  go_wp2_with fail
  go_end0
  exact ⟨rfl, unhide HS⟩

set_option maxRecDepth 100000 in
set_option maxHeartbeats 2000000 in
theorem nearestPlacesC (cs : List DCenter) (q : List Int) (ac : Option Addr) (dc : Nat) (aq : Option Addr) (dq : Nat) (w : World) (h1 : (Lay.sl Lay.tCenter).Reads w [.slice ac cs.length dc] cs) (h2 : (Lay.sl Lay.int).Reads w [.slice aq q.length dq] q) (hc : centersFault cs = 0) (hq : vecFault q = 0) :
    Calls Tryz.prog 89 #[.slice ac cs.length dc, .slice aq q.length dq] w fun e w' => ∃ G, e = .returned (.slice (some ⟨G, 0, none⟩) cs.length cs.length) ∧ w.heap.size ≤ G ∧ (∃ d : List Nat, Sorted (d.map (hitAt cs q)) ∧ (∀ p, p ∈ d ↔ p < cs.length) ∧ d.length = cs.length ∧ w'.ownsRow G 2 1 (.slice (some ⟨G, 0, none⟩) cs.length cs.length) cs.length (plV d)) ∧ Below w.heap.size w w' := by
  have hn6 : cs.length ≤ 6 := (centersFault_zero hc).1.2
  have nb : Below w.heap.size w ((w.alloc (.cells #[.slice ac cs.length dc] 24)).alloc (.cells #[.slice aq q.length dq] 28)) := ((Below.refl _ _).alloc (Nat.le_refl _) _).alloc (by simp) _
  have bl : Box 0 #[.slice ac cs.length dc] 24 ((w.alloc (.cells #[.slice ac cs.length dc] 24)).alloc (.cells #[.slice aq q.length dq] 28)) w.heap.size := (newBox (Nat.zero_le _)).grow _
  have bq : Box 0 #[.slice aq q.length dq] 28 ((w.alloc (.cells #[.slice ac cs.length dc] 24)).alloc (.cells #[.slice aq q.length dq] 28)) (w.heap.size + 1) := newBoxAt (Nat.zero_le _) (by simp)
  have c0 := bl.at 0 _ rfl
  have LL1 := h1.liesIn.later nb
  have LL2 := h2.liesIn.later nb
  clear h1 h2
  go_enter Tryz.func89, Tryz.ntmps89
  go_wp2_with fail
  generalize (w.alloc (.cells #[.slice ac cs.length dc] 24)).alloc (.cells #[.slice aq q.length dq] 28) = W0 at *
  refine (implPlaces ac cs.length dc W0 (by omega)).mono ?_
  rintro e w1 ⟨rfl, hO, hb⟩
  have hW0 : w.heap.size + 1 < W0.heap.size := bq.lt
  have LI := insSort cs q ac dc aq dq w.heap.size (w.heap.size + 1) W0.heap.size w.heap.size _ _ w1 (LL1.later hb) (LL2.later hb) (by omega) hc hq (bl.keep hb) (bq.keep hb) (by omega) (by omega) hO
  have HS := hide (sortC cs q _ _ _ w1 (stableC cs q _ _ _ w1 hn6 LI))
  have HB := hide (nb.trans (hb.mono nb.size))
  clear LI LL1 LL2 bl bq nb hO hb c0
  go_wp2_with fail
  refine (unhide HS).mono ?_
  rintro e w2 ⟨rfl, hD, hE⟩
  have HD := hide hD
  have HB2 := hide ((unhide HB).trans (hE.below (unhide HB).size (fun k hk e => by omega)))
  clear hD hE
  go_wp2_with fail
  go_ret
  exact ⟨_, rfl, by omega, unhide HD, unhide HB2⟩

end Go.Proofs.YtggnnbdjihihiaaGreat

namespace Go.Proofs.YtggnnbdjihihiaaGreat
open Go.RowKit

/-- The places, with what they hold. -/
def plOf (m : Nat) (d : List Nat) (h : ∀ p ∈ d, p < m) : List (Pl m) := d.pmap (fun j h => ⟨j, h⟩) h
theorem plOf_len {m : Nat} {d : List Nat} (h : ∀ p ∈ d, p < m) : (plOf m d h).length = d.length := by simp [plOf]
theorem plOf_at {m : Nat} {d : List Nat} (h : ∀ p ∈ d, p < m) (i : Nat) (hi : i < (plOf m d h).length) : (plOf m d h)[i].1 = d[i]'(by rw [plOf_len] at hi; exact hi) := by simp [plOf]
theorem plOf_map {m : Nat} {d : List Nat} (h : ∀ p ∈ d, p < m) : (plOf m d h).map (fun y => y.1) = d := by simp [plOf, List.map_pmap]
/-- What the iterator tells. -/
theorem probe_seq (x : DIvf) (ac : Option Addr) (dc : Nat) (al : Option Addr) (dl : Nat) (w3 : World) (G : Nat) (d : List Nat) {w W0 : World} (hB0 : Below w.heap.size w W0) (hW : w.heap.size ≤ W0.heap.size) (hH4 : Below W0.heap.size W0 ((w3.alloc (.cells #[.slice ac x.centers.length dc, .slice al x.lists.length dl] 27)).alloc (.cells #[.slice (some ⟨G, 0, none⟩) x.centers.length x.centers.length] 28)))
    (hls : (Lay.sl Lay.tIvfList).Reads w [.slice al x.lists.length dl] x.lists) (hln : x.lists.length = x.centers.length) (h6 : x.centers.length ≤ 6) (h1 : 1 ≤ x.centers.length) (hd2 : ∀ p, p ∈ d ↔ p < x.centers.length) (hd3 : d.length = x.centers.length) (hO3 : w3.ownsRow G 2 1 (.slice (some ⟨G, 0, none⟩) x.centers.length x.centers.length) x.centers.length (plV d)) :
    ∃ (zs : List (Pl x.lists.length)) (ia : Nat → Option Addr) (ic : Nat → Nat), zs.length = x.centers.length ∧ zs.map (fun y => y.1) = d ∧ True ∧ (∀ j, j < x.lists.length → (Lay.sl Lay.tItem).Reads w [.slice (ia j) (itsL x.lists j).length (ic j)] (itsL x.lists j)) ∧
      SeqStopsK Fence.wide 8 Tryz.prog 122 #[.pointer (some ⟨w3.heap.size + 1, 0, none⟩), .pointer (some ⟨w3.heap.size, 0, none⟩)] (fun y : Pl x.lists.length => #[.agg #[.int .i64 (y.1 : Int), .slice (ia y.1) (itsL x.lists y.1).length (ic y.1)]]) (KpS ((w3.alloc (.cells #[.slice ac x.centers.length dc, .slice al x.lists.length dl] 27)).alloc (.cells #[.slice (some ⟨G, 0, none⟩) x.centers.length x.centers.length] 28)).heap.size (fun _ => False)) (fun ys => ys = zs) (fun pre => pre <+: zs) zs.length ((w3.alloc (.cells #[.slice ac x.centers.length dc, .slice al x.lists.length dl] 27)).alloc (.cells #[.slice (some ⟨G, 0, none⟩) x.centers.length x.centers.length] 28)) := by
  obtain ⟨bL, oL, ia, ic, rfl, hbL, hli⟩ := lists_at hls (by omega)
  have hdm : ∀ p ∈ d, p < x.lists.length := fun p hp => by rw [hln]; exact (hd2 p).1 hp
  have hO4 := (hO3.alloc (.cells #[.slice ac x.centers.length dc, .slice (some ⟨bL, oL, none⟩) x.lists.length dl] 27)).alloc (.cells #[.slice (some ⟨G, 0, none⟩) x.centers.length x.centers.length] 28)
  have lG : G < w3.heap.size := (hO3.lt G rfl).2
  have bY : Box 0 #[.slice ac x.centers.length dc, .slice (some ⟨bL, oL, none⟩) x.lists.length dl] 27 ((w3.alloc (.cells #[.slice ac x.centers.length dc, .slice (some ⟨bL, oL, none⟩) x.lists.length dl] 27)).alloc (.cells #[.slice (some ⟨G, 0, none⟩) x.centers.length x.centers.length] 28)) w3.heap.size := (newBox (Nat.zero_le _)).grow _
  have bP : Box 0 #[.slice (some ⟨G, 0, none⟩) x.centers.length x.centers.length] 28 ((w3.alloc (.cells #[.slice ac x.centers.length dc, .slice (some ⟨bL, oL, none⟩) x.lists.length dl] 27)).alloc (.cells #[.slice (some ⟨G, 0, none⟩) x.centers.length x.centers.length] 28)) (w3.heap.size + 1) := newBoxAt (Nat.zero_le _) (by simp)
  have hszL : ((w3.alloc (.cells #[.slice ac x.centers.length dc, .slice (some ⟨bL, oL, none⟩) x.lists.length dl] 27)).alloc (.cells #[.slice (some ⟨G, 0, none⟩) x.centers.length x.centers.length] 28)).heap.size = w3.heap.size + 2 := by simp
  have hB4 := hB0.trans (hH4.mono hW)
  have hs4 := hH4.size
  generalize (w3.alloc (.cells #[.slice ac x.centers.length dc, .slice (some ⟨bL, oL, none⟩) x.lists.length dl] 27)).alloc (.cells #[.slice (some ⟨G, 0, none⟩) x.centers.length x.centers.length] 28) = WL at *
  refine ⟨plOf x.lists.length d hdm, ia, ic, by rw [plOf_len, hd3], plOf_map hdm, trivial, fun j hj => (hli j hj).2, ?_⟩
  refine listsAt_stops 8 (w3.heap.size + 1) w3.heap.size bL oL x.lists.length dl x.centers.length ia (fun j => (itsL x.lists j).length) ic G 0 (plOf x.lists.length d hdm) WL.heap.size (fun _ => False) (by rw [plOf_len]; omega) ⟨by omega, fun h => h⟩ ⟨by omega, fun h => h⟩ ⟨by omega, fun h => h⟩ WL (by omega) (Nat.le_refl _) ?_ ⟨bY.at 1 _ rfl, fun j hj => (hB4.cell (p := ⟨bL, oL + j, none⟩) hbL).trans (hli j hj).1, fun i hi => ?_⟩
  · rw [plOf_len, hd3]; exact bP.at 0 _ rfl
  · rw [plOf_at, Nat.zero_add]
    rw [plOf_len] at hi
    rw [hO4.cellAt i (by omega)]
    exact plV_at (List.getElem?_eq_getElem hi)

set_option maxRecDepth 100000 in
set_option maxHeartbeats 4000000 in
theorem probedC (x : DIvf) (q : List Int) (n : Nat) (ac : Option Addr) (dc : Nat) (al : Option Addr) (dl : Nat) (aq : Option Addr) (dq : Nat) (w : World) (h1 : (Lay.sl Lay.tCenter).Reads w [.slice ac x.centers.length dc] x.centers) (h2 : (Lay.sl Lay.tIvfList).Reads w [.slice al x.lists.length dl] x.lists) (h3 : (Lay.sl Lay.int).Reads w [.slice aq q.length dq] q) (hf : centersFault x.centers = 0) (HL : Hid (x.lists.length = x.centers.length)) (hq : vecFault q = 0) (hn : n ≤ 6) :
    Calls Tryz.prog 41 #[.agg #[.slice ac x.centers.length dc, .slice al x.lists.length dl], .slice aq q.length dq, .int .i64 (n : Int)] w fun e w' => ∃ (v : Value) (zs : List (Pl x.lists.length)) (ia : Nat → Option Addr) (ic : Nat → Nat), e = .returned v ∧ zs.map (fun y => (y.1 : Int)) = probesI x.centers q n ∧ (∀ j, j < x.lists.length → (Lay.sl Lay.tItem).Reads w [.slice (ia j) (itsL x.lists j).length (ic j)] (itsL x.lists j)) ∧ w'.ownsRow w.heap.size 83 2 v zs.length (cellsP ia (fun j => (itsL x.lists j).length) ic zs) ∧ Below w.heap.size w w' := by
  have nb : Below w.heap.size w (w.alloc (.cells #[.slice ac x.centers.length dc, .slice al x.lists.length dl] 27)) := (Below.refl _ _).alloc (Nat.le_refl _) _
  have bX : Box w.heap.size #[.slice ac x.centers.length dc, .slice al x.lists.length dl] 27 (w.alloc (.cells #[.slice ac x.centers.length dc, .slice al x.lists.length dl] 27)) w.heap.size := newBox (Nat.le_refl _)
  have HC6 : Hid (x.centers.length ≤ 6) := (centersFault_zero hf).1.2
  have HC1 : Hid (1 ≤ x.centers.length) := (centersFault_zero hf).1.1
  have hc6 := unhide HC6
  have HLN := HL
  have HN6 := hide hn
  have HLS := hide h2
  have HB0 := hide nb
  have HW : Hid (w.heap.size ≤ (w.alloc (.cells #[.slice ac x.centers.length dc, .slice al x.lists.length dl] 27)).heap.size) := nb.size
  have HBX := hide bX
  have LN : Hid (∀ W, Below (w.alloc (.cells #[.slice ac x.centers.length dc, .slice al x.lists.length dl] 27)).heap.size (w.alloc (.cells #[.slice ac x.centers.length dc, .slice al x.lists.length dl] 27)) W → _) := fun W hb => nearestPlacesC x.centers q ac dc aq dq W ((h1.later nb).later hb) ((h3.later nb).later hb) hf hq
  have LQ : Hid (∀ (a : Option Addr) (n c : Nat) (W : World), _) := fun (a : Option Addr) (n c : Nat) (W : World) => implListsAt (.slice ac x.centers.length dc) (.slice al x.lists.length dl) a n c W ⟨_, _, _, rfl⟩ ⟨_, _, _, rfl⟩
  clear h1 h2 h3 hf hq nb bX
  go_enter Tryz.func41, Tryz.ntmps41
  go_wp2_with fail
  generalize w.alloc (.cells #[.slice ac x.centers.length dc, .slice al x.lists.length dl] 27) = W0 at *
  refine wp_region_noPanic ?_
  refine wp_region_held_drew (S := fun w' => Below W0.heap.size W0 w') (by kernel_rfl) (Below.refl _ _).drew (fun hHeld => ?_)
  generalize W0.drew = wD at hHeld ⊢
  refine wpAnyH_take (i := 0) (oi := { dst := some 7, op := Go.Op.load 27 (Go.Operand.tmp 3), type := 27, pos := "l07_ivf.go:70", after := #[], guard := none }) (v := ?vp0) rfl (by kernel_rfl) (by kernel_rfl) (by kernel_rfl) (fun _ _ _ h => h) (Or.inl ⟨by rfl, ?hp0⟩) hHeld ?rp0
  case hp0 =>
    intro wS hSw
    have y0 := ((unhide HBX).keep hSw).at 0 _ rfl
    have y1 := ((unhide HBX).keep hSw).at 1 _ rfl
    clear hSw
    (try dsimp only at hSw)
    go_simp
    try with_reducible rfl
  case rp0 =>
  simp only [Act.put, List.setIfInBounds_toArray, List.set_cons_zero, List.set_cons_succ]
  refine wpAnyH_take (i := 1) (oi := { dst := some 8, op := Go.Op.fieldAddr 27 (Go.Operand.tmp 3) 0, type := 0, pos := "l07_ivf.go:70", after := #[], guard := none }) (v := ?vp1) rfl (by kernel_rfl) (by kernel_rfl) (by kernel_rfl) (fun _ _ _ h => h) (Or.inl ⟨by rfl, ?hp1⟩) hHeld ?rp1
  case hp1 =>
    intro wS hSw
    (try dsimp only at hSw)
    go_simp
    try with_reducible rfl
  case rp1 =>
  simp only [Act.put, List.setIfInBounds_toArray, List.set_cons_zero, List.set_cons_succ]
  refine wpAnyH_take (i := 2) (oi := { dst := some 9, op := Go.Op.load 24 (Go.Operand.tmp 8), type := 24, pos := "l07_ivf.go:70", after := #[{ on := 1, ground := Go.Ground.data }], guard := none }) (v := ?vp2) rfl (by kernel_rfl) (by kernel_rfl) (by kernel_rfl) (fun _ _ _ h => h) (Or.inl ⟨by rfl, ?hp2⟩) hHeld ?rp2
  case hp2 =>
    intro wS hSw
    have y0 := ((unhide HBX).keep hSw).at 0 _ rfl
    have y1 := ((unhide HBX).keep hSw).at 1 _ rfl
    clear hSw
    (try dsimp only at hSw)
    go_simp
    try with_reducible rfl
  case rp2 =>
  simp only [Act.put, List.setIfInBounds_toArray, List.set_cons_zero, List.set_cons_succ]
  refine wpAnyH_take (i := 3) (oi := { dst := some 10, op := Go.Op.move (Go.Operand.tmp 1), type := 28, pos := "l07_ivf.go:70", after := #[], guard := none }) (v := ?vp3) rfl (by kernel_rfl) (by kernel_rfl) (by kernel_rfl) (fun _ _ _ h => h) (Or.inl ⟨by rfl, ?hp3⟩) hHeld ?rp3
  case hp3 =>
    intro wS hSw
    (try dsimp only at hSw)
    go_simp
    try with_reducible rfl
  case rp3 =>
  simp only [Act.put, List.setIfInBounds_toArray, List.set_cons_zero, List.set_cons_succ]
  refine wpAnyH_take (i := 6) (oi := { dst := some 13, op := Go.Op.move (Go.Operand.tmp 2), type := 2, pos := "l07_ivf.go:70", after := #[], guard := none }) (v := ?vp6) rfl (by kernel_rfl) (by kernel_rfl) (by kernel_rfl) (fun _ _ _ h => h) (Or.inl ⟨by rfl, ?hp6⟩) hHeld ?rp6
  case hp6 =>
    intro wS hSw
    (try dsimp only at hSw)
    go_simp
    try with_reducible rfl
  case rp6 =>
  simp only [Act.put, List.setIfInBounds_toArray, List.set_cons_zero, List.set_cons_succ]
  refine wpAnyH_ready (rs := [4]) (by kernel_rfl) (by simp) ?_
  refine AllReadyH.cons (o := { dst := some 11, op := Go.Op.call { callee := Go.Callee.value (Go.Operand.func 89), args := #[Go.Operand.tmp 9, Go.Operand.tmp 10], argTypes := #[24, 28] }, type := 28, pos := "l07_ivf.go:70", after := #[{ on := 2, ground := Go.Ground.data }, { on := 3, ground := Go.Ground.data }], guard := none }) rfl (fun K hK => ?_) AllReadyH.nil
  go_simp
  go_at_call 89
  refine (unhide LN _ hHeld).mono ?_
  rintro e w3 ⟨G, rfl, hG, ⟨d, hd1, hd2, hd3, hO3⟩, hb3⟩
  have HD0 := hide hHeld.size
  have lG3 : G < w3.heap.size := (hO3.lt G rfl).2
  try go_wp2_with fail
  refine hK.out _ _ (hHeld.trans (hb3.mono hHeld.size)) (fun hHeld => ?_)
  clear hK K
  try simp only [Act.put, List.setIfInBounds_toArray, List.set_cons_zero, List.set_cons_succ]
  refine wpAnyH_ready (rs := [5]) (by kernel_rfl) (by simp) ?_
  refine AllReadyH.cons (o := { dst := some 12, op := Go.Op.call { callee := Go.Callee.value (Go.Operand.func 88), args := #[Go.Operand.tmp 7, Go.Operand.tmp 11], argTypes := #[27, 28] }, type := 135, pos := "l07_ivf.go:70", after := #[{ on := 0, ground := Go.Ground.data }, { on := 4, ground := Go.Ground.data }, { on := 4, ground := Go.Ground.chain }], guard := none }) rfl (fun K hK => ?_) AllReadyH.nil
  go_simp
  go_at_call 88
  refine (unhide LQ _ _ _ _).mono ?_
  rintro e w4 ⟨rfl, rfl⟩
  have HH4 := hide ((hHeld.alloc hHeld.size (.cells #[.slice ac x.centers.length dc, .slice al x.lists.length dl] 27)).alloc (Nat.le_trans hHeld.size (by simp)) (.cells #[.slice (some ⟨G, 0, none⟩) x.centers.length x.centers.length] 28))
  try go_wp2_with fail
  refine hK.out _ _ ((hHeld.alloc hHeld.size _).alloc (Nat.le_trans hHeld.size (by simp)) _) (fun hHeld => ?_)
  clear hK K
  try simp only [Act.put, List.setIfInBounds_toArray, List.set_cons_zero, List.set_cons_succ]
  refine wpAnyH_ready (rs := [7]) (by kernel_rfl) (by simp) ?_
  refine AllReadyH.cons (o := { dst := some 14, op := Go.Op.call { callee := Go.Callee.value (Go.Operand.func 87), args := #[Go.Operand.tmp 12, Go.Operand.tmp 13], argTypes := #[135, 2] }, type := 80, pos := "l07_ivf.go:70", after := #[{ on := 5, ground := Go.Ground.data }, { on := 6, ground := Go.Ground.data }, { on := 5, ground := Go.Ground.chain }], guard := none }) rfl (fun K hK => ?_) AllReadyH.nil
  go_simp
  go_at_call 87
  obtain ⟨zs, ia, ic, hzl, hzv, hzm, hze, hseq⟩ := probe_seq x ac dc al dl w3 G d (unhide HB0) (unhide HW) (unhide HH4) (unhide HLS) (unhide HLN) (unhide HC6) (unhide HC1) hd2 hd3 hO3
  refine (firstOfC zs ia (fun j => (itsL x.lists j).length) ic _ n _ (unhide HN6) (by omega) hseq).mono ?_
  rintro e w5 ⟨v5, rfl, hO5, hb5⟩
  try go_wp2_with fail
  refine hK.out _ _ (hHeld.trans (hb5.mono hHeld.size)) (fun hHeld => ?_)
  clear hK K
  try simp only [Act.put, List.setIfInBounds_toArray, List.set_cons_zero, List.set_cons_succ]
  refine wpAnyH_take (i := 8) (oi := { dst := some 6, op := Go.Op.assign (Go.Operand.tmp 14), type := 80, pos := "l07_ivf.go:70", after := #[{ on := 7, ground := Go.Ground.data }, { on := 7, ground := Go.Ground.chain }, { on := 0, ground := Go.Ground.phase }, { on := 1, ground := Go.Ground.phase }, { on := 2, ground := Go.Ground.phase }, { on := 3, ground := Go.Ground.phase }, { on := 4, ground := Go.Ground.phase }, { on := 5, ground := Go.Ground.phase }, { on := 6, ground := Go.Ground.phase }, { on := 7, ground := Go.Ground.phase }], guard := none }) (v := ?vp8) rfl (by kernel_rfl) (by kernel_rfl) (by kernel_rfl) (fun _ _ _ h => h) (Or.inl ⟨by rfl, ?hp8⟩) hHeld ?rp8
  case hp8 =>
    intro wS hSw
    (try dsimp only at hSw)
    go_simp
    try with_reducible rfl
  case rp8 =>
  simp only [Act.put, List.setIfInBounds_toArray, List.set_cons_zero, List.set_cons_succ]
  refine wpAnyH_done (by kernel_rfl) ?_ _
  refine NoPanic.normal ?_
  have HO5 := hide hO5
  have HB5 := hide ((unhide HB0).trans (hHeld.mono (unhide HW)))
  have HPR : Hid ((zs.take n).map (fun y => (y.1 : Int)) = probesI x.centers q n) := by
    show (zs.take n).map (fun y => (y.1 : Int)) = probesI x.centers q n
    rw [← places_probes hd1 hd2 n, ← hzv, List.map_take, List.map_take, List.map_map]
    rfl
  clear hO5 hHeld hb5 hseq
  go_wp2_with fail
  go_ret
  exact ⟨_, zs.take n, ia, ic, rfl, unhide HPR, hze, own_mono (by have := unhide HW; have := unhide HD0; simp; omega) (unhide HO5), unhide HB5⟩

end Go.Proofs.YtggnnbdjihihiaaGreat

namespace Go.Proofs.YtggnnbdjihihiaaGreat
open Go.RowKit

theorem implCount (n : Int) (w : World) :
    Calls Tryz.prog 146 #[.int .i64 n] w fun e w' => e = .returned (.bool (decide (1 ≤ n) && decide (n ≤ 6))) ∧ w' = w := by
  by_cases h1 : 1 ≤ n
  · have d1 : decide (1 ≤ n) = true := by simpa using h1
    rw [d1]
    cases d2 : decide (n ≤ 6) <;>
    · go_enter Tryz.func146, Tryz.ntmps146
      go_wp2_with fail
      go_ret
      exact ⟨rfl, rfl⟩
  · have d1 : decide (1 ≤ n) = false := by simpa using h1
    rw [d1]
    go_enter Tryz.func146, Tryz.ntmps146
    go_wp2_with fail
    go_ret
    exact ⟨rfl, rfl⟩

set_option maxRecDepth 100000 in
set_option maxHeartbeats 1000000 in
theorem implCen_pos (b off cap : Nat) (xs : List DCenter) (w : World) (hn : 1 ≤ xs.length ∧ xs.length ≤ 6) (h : (Lay.sl Lay.tCenter).Reads w [.slice (some ⟨b, off, none⟩) xs.length cap] xs) (hbl : b < w.heap.size) :
    Calls Tryz.prog 131 #[.slice (some ⟨b, off, none⟩) xs.length cap] w fun e w' => e = .returned (.int .i64 (cenFrom xs)) ∧ Below w.heap.size w w' := by
  generalize hF0 : cenFrom xs = F0
  have H := hide h
  clear h
  go_enter Tryz.func131, Tryz.ntmps131
  go_wp2_with fail
  refine (implCount xs.length _).mono ?_
  rintro e w ⟨rfl, rfl⟩
  rw [show (decide ((1 : Int) ≤ (xs.length : Int)) && decide ((xs.length : Int) ≤ 6)) = true by simp; omega]
  go_wp2_with fail
  go_loopw [12] (fun i wr => ∃ k : Nat, k ≤ xs.length ∧ i = .int .i64 k ∧ cenFrom (xs.drop k) = F0 ∧ Below w.heap.size w wr) (fun i _ => xs.length - (intOf i).toNat)
  case atStart => exact ⟨0, Nat.zero_le _, rfl, hF0, Below.refl _ _⟩
  case round =>
    obtain ⟨k, hk, rfl, hF, hB⟩ := hrel
    by_cases hlt : k < xs.length
    · obtain ⟨row, hc, hr⟩ := Lay.row_at (unhide H) hlt
      replace hr := hr.later hB
      obtain ⟨a1, d1, rfl, R1⟩ := open_Center hr
      have c1 : wr.cell? ⟨b, off + k, none⟩ = some (.slice a1 (xs[k]).vec.length d1) := (hB.cell (p := ⟨b, off + k, none⟩) hbl).trans (cen_cell (hc 0 (by decide)))
      rw [cenFrom_step xs k hlt] at hF
      clear hc hr
      generalize hx : xs[k] = x at *
      clear hx
      have hbr : b < wr.heap.size := Nat.lt_of_lt_of_le hbl hB.size
      have nb : Below wr.heap.size wr (wr.alloc (.cells #[.slice a1 x.vec.length d1] 145)) := (Below.refl _ _).alloc (Nat.le_refl _) _
      have I1 := hide ((Lay.ints_reads R1).later nb)
      have HF := hide hF
      have B1 := hide (hB.trans (nb.mono hB.size))
      clear R1 hF hB nb
      go_wp2_with fail
      refine (implFault _ x.vec _ (unhide I1)).mono ?_
      rintro e w1 ⟨rfl, rfl⟩
      by_cases hv : vecFault x.vec = 0
      · rw [hv]
        have hF := unhide HF
        rw [if_pos hv] at hF
        clear HF I1 hv
        have HF := hide hF
        clear hF
        go_wp2_with fail
        go_roundw
        case rel => exact ⟨k + 1, by omega, by go_num, unhide HF, unhide B1⟩
        case measure => simp [intOf]; omega
      · have hF := unhide HF
        rw [if_neg hv] at hF
        have hd : (vecFault x.vec != 0) = true := by simpa using hv
        have HF2 := hide hF
        clear HF hF I1 hv
        go_wp2_with fail
        go_ret
        exact ⟨by rw [← unhide HF2]; rfl, unhide B1⟩
    · obtain rfl : k = xs.length := by omega
      rw [List.drop_length] at hF
      have HF := hide hF
      have HB := hide hB
      clear hF hB H
      go_wp2_with fail
      go_ret
      exact ⟨by rw [← unhide HF]; rfl, unhide HB⟩

set_option maxRecDepth 10000 in
theorem implCen (v : Value) (xs : List DCenter) (w : World) (h : (Lay.sl Lay.tCenter).Reads w [v] xs) :
    Calls Tryz.prog 131 #[v] w fun e w' => e = .returned (.int .i64 (centersFault xs)) ∧ Below w.heap.size w w' := by
  have hbig := h.big
  obtain ⟨ao, cap, rfl⟩ := open_sl h
  by_cases hn : xs.length < 1 ∨ 6 < xs.length
  · have e : centersFault xs = 2 := by unfold centersFault; rw [if_pos hn]
    rw [e]
    clear h e
    go_enter Tryz.func131, Tryz.ntmps131
    go_wp2_with fail
    refine (implCount xs.length _).mono ?_
    rintro e w ⟨rfl, rfl⟩
    rw [show (decide ((1 : Int) ≤ (xs.length : Int)) && decide ((xs.length : Int) ≤ 6)) = false by simp; omega]
    go_wp2_with fail
    go_ret
    exact ⟨rfl, Below.refl _ _⟩
  · have e : centersFault xs = cenFrom xs := by unfold centersFault; rw [if_neg hn]
    rw [e]
    obtain ⟨b, off, rfl, hbl⟩ := Lay.sl_addr h (by omega)
    exact implCen_pos b off cap xs w (by omega) h hbl

end Go.Proofs.YtggnnbdjihihiaaGreat

namespace Go.Proofs.YtggnnbdjihihiaaGreat
open Go.RowKit

set_option maxRecDepth 100000 in
set_option maxHeartbeats 1000000 in
theorem nearC_pos (b off cap : Nat) (cs : List DCenter) (a2 : Option Addr) (d2 : Nat) (q : List Int) (w : World) (h : (Lay.sl Lay.tCenter).Reads w [.slice (some ⟨b, off, none⟩) cs.length cap] cs) (hbl : b < w.heap.size) (hq : IsInts w (.slice a2 q.length d2) q) (hc0 : centersFault cs = 0) (hv : vecFault q = 0) :
    Calls Tryz.prog 112 #[.slice (some ⟨b, off, none⟩) cs.length cap, .slice a2 q.length d2] w fun e w' => e = .returned (.tuple #[.int .i64 (near cs q : Nat), .int .i64 (nearS cs q)]) ∧ Below w.heap.size w w' := by
  obtain ⟨hn, hall⟩ := centersFault_zero hc0
  have HQ := hide hq
  have HA := hide hall
  have HV := hide hv
  have H := hide h
  have HN : Hid ((near cs q = (nearK cs q cs.length).1) ∧ (nearS cs q = (nearK cs q cs.length).2)) := ⟨rfl, rfl⟩
  clear h hq hall hc0 hv
  go_enter Tryz.func112, Tryz.ntmps112
  go_wp2_with fail
  go_loopw [6, 7, 12] (fun a l i wr => ∃ k : Nat, k ≤ cs.length ∧ i = .int .i64 k ∧ a = .int .i64 ((nearK cs q k).1 : Nat) ∧ l = .int .i64 (nearK cs q k).2 ∧ Below w.heap.size w wr) (fun _ _ i _ => cs.length - (intOf i).toNat)
  case atStart => exact ⟨0, Nat.zero_le _, rfl, rfl, rfl, Below.refl _ _⟩
  case round =>
    obtain ⟨k, hk, rfl, rfl, rfl, hB⟩ := hrel
    by_cases hlt : k < cs.length
    · obtain ⟨row, hc, hr⟩ := Lay.row_at (unhide H) hlt
      replace hr := hr.later hB
      obtain ⟨a1, d1, rfl, R1⟩ := open_Center hr
      have c1 : wr.cell? ⟨b, off + k, none⟩ = some (.slice a1 (cs[k]).vec.length d1) := (hB.cell (p := ⟨b, off + k, none⟩) hbl).trans (cen_cell (hc 0 (by decide)))
      have HS := hide (nearK_step cs q k hlt)
      have hbd := nearK_bd (unhide HA) (unhide HV) k hk
      have hvx := unhide HA cs[k] (List.getElem_mem hlt)
      clear hc hr
      generalize hx : cs[k] = x at *
      clear hx
      have hsb := cscore_bd hvx (unhide HV)
      have I1 := hide (Lay.ints_reads R1)
      have I2 := hide ((unhide HQ).later hB)
      have HX := hide hvx
      have HB := hide hB
      clear R1 hB hvx
      have L := hide (implScore3 _ _ x.vec q wr (unhide I1) (unhide I2) (unhide HX) (unhide HV))
      generalize score3 x.vec q = sc at *
      generalize hs : nearK cs q k = s at *
      clear hs
      obtain ⟨sa, sl⟩ := s
      simp only at hbd
      have hfl : ∀ W : World, (Instr.field 46 (.agg #[.int .i64 0, .int .i64 sc]) 1).run Tryz.prog W = .ok (.int .i64 sc) W := fun _ => by kernel_rfl
      go_wp2_with fail
      refine (unhide L).mono ?_
      rintro e w1 ⟨rfl, hb⟩
      have HB2 := hide ((unhide HB).trans (hb.mono (unhide HB).size))
      clear hb L HB I1 I2 c1
      cases hd : decide (sc < sl) with
      | true =>
        have HS2 : Hid (nearK cs q (k + 1) = (k, sc)) := (unhide HS).trans (if_pos (by simpa using hd))
        clear HS
        go_wp2_with fail
        go_roundw
        case rel => exact ⟨k + 1, by omega, by go_num, by rw [unhide HS2], by rw [unhide HS2], unhide HB2⟩
        case measure => simp [intOf]; omega
      | false =>
        have HS2 : Hid (nearK cs q (k + 1) = (sa, sl)) := (unhide HS).trans (if_neg (by simpa using hd))
        clear HS
        go_wp2_with fail
        go_roundw
        case rel => exact ⟨k + 1, by omega, by go_num, by rw [unhide HS2], by rw [unhide HS2], unhide HB2⟩
        case measure => simp [intOf]; omega
    · obtain rfl : k = cs.length := by omega
      have HB := hide hB
      clear hB H
      go_wp2_with fail
      refine bodyPost_ret (v := .tuple #[.int .i64 ((nearK cs q cs.length).1 : Nat), .int .i64 (nearK cs q cs.length).2]) (by simp [results, Tryz.results112, go_sem]) rfl ⟨rfl, unhide HB⟩

theorem nearC (v : Value) (cs : List DCenter) (vq : Value) (q : List Int) (w : World) (h : (Lay.sl Lay.tCenter).Reads w [v] cs) (hq : IsInts w vq q) (hc : centersFault cs = 0) (hv : vecFault q = 0) :
    Calls Tryz.prog 112 #[v, vq] w fun e w' => e = .returned (.tuple #[.int .i64 (near cs q : Nat), .int .i64 (nearS cs q)]) ∧ Below w.heap.size w w' := by
  obtain ⟨ao, cap, rfl⟩ := open_sl h
  have hvq : ∃ a d, vq = .slice a q.length d := by obtain ⟨a, d, e, -⟩ := hq; exact ⟨a, d, e⟩
  obtain ⟨a2, d2, rfl⟩ := hvq
  obtain ⟨b, off, rfl, hbl⟩ := Lay.sl_addr h (centersFault_zero hc).1.1
  exact nearC_pos b off cap cs a2 d2 q w h hbl hq hc hv

end Go.Proofs.YtggnnbdjihihiaaGreat

namespace Go.Proofs.YtggnnbdjihihiaaGreat
open Go.RowKit

theorem atB_of {cs : List DCenter} {i : Nat} {xs : List DItem} (h : ∀ x ∈ xs, near cs x.vec = i) : atB cs i xs = true := by
  rw [atB, List.all_eq_true]
  intro x hx
  rw [h x hx]
  exact beq_self_eq_true _
theorem atB_not {cs : List DCenter} {i : Nat} {xs : List DItem} {x : DItem} (hx : x ∈ xs) (h : near cs x.vec ≠ i) : atB cs i xs = false := by
  cases e : atB cs i xs with
  | false => rfl
  | true =>
    rw [atB, List.all_eq_true] at e
    exact absurd (by simpa using e x hx) h

set_option maxRecDepth 100000 in
set_option maxHeartbeats 2000000 in
theorem implListF (v : Value) (cs : List DCenter) (p : Nat) (a : Option Addr) (d : Nat) (xs : List DItem) (w : World) (hcs : (Lay.sl Lay.tCenter).Reads w [v] cs) (hx : (Lay.sl Lay.tItem).Reads w [.slice a xs.length d] xs) (hc : centersFault cs = 0) :
    Calls Tryz.prog 132 #[v, .agg #[.int .i64 (p : Int), .slice a xs.length d]] w fun e w' => e = .returned (.int .i64 (listFault cs p xs)) ∧ Below w.heap.size w w' := by
  generalize hF0 : listFault cs p xs = F0
  have HF0 := hide hF0
  clear hF0
  have HB0 : Below w.heap.size w (w.alloc (.cells #[.int .i64 (p : Int), .slice a xs.length d] 83)) := (Below.refl _ _).alloc (Nat.le_refl _) _
  have bO : Box w.heap.size #[.int .i64 (p : Int), .slice a xs.length d] 83 (w.alloc (.cells #[.int .i64 (p : Int), .slice a xs.length d] 83)) w.heap.size := newBox (Nat.le_refl _)
  have hcs1 := hcs.later HB0
  have hx1 := hx.later HB0
  have z0 := bO.at 0 _ rfl
  have z1 := bO.at 1 _ rfl
  have hbig := hx.big
  obtain ⟨av, dv, rfl⟩ := open_sl hcs
  clear hcs hx
  go_enter Tryz.func132, Tryz.ntmps132
  go_wp2_with fail
  generalize w.alloc (.cells #[.int .i64 (p : Int), .slice a xs.length d] 83) = W0 at *
  refine (implTab _ xs W0 hx1).mono ?_
  rintro e w1 ⟨rfl, hb⟩
  have HC := hide (hcs1.later hb)
  have HX := hide (hx1.later hb)
  replace bO := bO.keep hb
  replace HB0 := HB0.trans (hb.mono HB0.size)
  have HB := hide HB0
  have HO := hide bO
  clear hb HB0 hcs1 hx1 z0 z1
  by_cases hf : tableFault xs = 0
  · have hall := (tableFault_zero hf).2.1
    have hlf : listFault cs p xs = if atB cs p xs then 0 else 1 := if_pos hf
    rw [hf]
    have HLF := hide hlf
    have HALL := hide hall
    have HCF := hide hc
    have z0 := bO.at 0 _ rfl
    have z1 := bO.at 1 _ rfl
    clear hall hlf hf hc bO
    go_wp2_with fail
    go_loopw [19] (fun i wr => ∃ k : Nat, k ≤ xs.length ∧ i = .int .i64 k ∧ (∀ x ∈ xs.take k, near cs x.vec = p) ∧ Below w1.heap.size w1 wr) (fun i _ => xs.length - (intOf i).toNat)
    case atStart => exact ⟨0, Nat.zero_le _, rfl, by simp, Below.refl _ _⟩
    case round =>
      obtain ⟨k, hk, rfl, hnear, hB⟩ := hrel
      clear z0 z1
      by_cases hlt : k < xs.length
      · obtain ⟨b, off, rfl, hbl⟩ := Lay.sl_addr (unhide HX) (by omega)
        obtain ⟨row, hcl, hr⟩ := Lay.row_at (unhide HX) hlt
        replace hr := hr.later hB
        obtain ⟨a1, d1, rfl, R1⟩ := open_Item hr
        have c0 : wr.cell? ⟨b, off + k * 2, none⟩ = some (.int .i64 (xs[k]).id) := (hB.cell (p := ⟨b, off + k * 2, none⟩) hbl).trans (hcl 0 (by decide))
        have c1 : wr.cell? ⟨b, off + k * 2 + 1, none⟩ = some (.slice a1 (xs[k]).vec.length d1) := (hB.cell (p := ⟨b, off + k * 2 + 1, none⟩) hbl).trans (hcl 1 (by decide))
        have hvx := (unhide HALL xs[k] (List.getElem_mem hlt)).2
        have hmem : xs[k] ∈ xs := List.getElem_mem hlt
        have htk : xs.take (k + 1) = xs.take k ++ [xs[k]] := List.take_succ_eq_append_getElem hlt
        have z0 := ((unhide HO).keep hB).at 0 _ rfl
        have z1 := ((unhide HO).keep hB).at 1 _ rfl
        have l0 := ((unhide HO).keep hB).lt
        clear hcl hr
        generalize hx : xs[k] = x at *
        clear hx
        have HN := hide hnear
        have HTK := hide htk
        have HM := hide hmem
        have HVX := hide hvx
        have HR1 := hide R1
        have HB2 := hide hB
        clear R1 hvx hB hnear htk hmem
        go_wp2_with fail
        have hbn : Below wr.heap.size wr (wr.alloc (.cells #[.int .i64 x.id, .slice a1 x.vec.length d1] 139)) := (Below.refl _ _).alloc (Nat.le_refl _) _
        have hb5 := (unhide HB2).trans (hbn.mono (unhide HB2).size)
        have L := nearC _ cs _ x.vec _ ((unhide HC).later hb5) (Lay.ints_reads ((unhide HR1).later hbn)) (unhide HCF) (unhide HVX)
        have hsz : w1.heap.size ≤ wr.heap.size := (unhide HB2).size
        refine L.mono ?_
        rintro e w3 ⟨rfl, hb3⟩
        have hb6 := hb5.trans (hb3.mono hb5.size)
        have HB6 := hide hb6
        replace z0 : w3.cell? ⟨w.heap.size, 0, none⟩ = some (.int .i64 (p : Int)) := ((unhide HO).keep hb6).at 0 _ rfl
        have l0 := ((unhide HO).keep hb6).lt
        clear hb3 hb5 hb6 hbn L c0 c1 z1 HR1 HB2
        generalize nearS cs x.vec = ns at *
        by_cases hnp : near cs x.vec = p
        · have hnn : (((near cs x.vec : Nat) : Int) != (p : Int)) = false := by rw [hnp]; simp
          have HNP := hide hnp
          clear hnp
          go_wp2_with fail
          go_roundw
          case rel =>
            refine ⟨k + 1, by omega, by go_num, ?_, unhide HB6⟩
            rw [unhide HTK]
            intro y hy
            rcases List.mem_append.1 hy with hy | hy
            · exact unhide HN y hy
            · rw [List.mem_singleton.1 hy]; exact unhide HNP
          case measure => simp [intOf]; omega
        · have hnn : (((near cs x.vec : Nat) : Int) != (p : Int)) = true := by
            have : ((near cs x.vec : Nat) : Int) ≠ (p : Int) := by omega
            simpa using this
          have hF : Hid (F0 = 1) := by show F0 = 1; rw [← unhide HF0, unhide HLF, atB_not (unhide HM) hnp]; rfl
          go_wp2_with fail
          go_ret
          exact ⟨by rw [unhide hF]; rfl, (unhide HB).trans ((unhide HB6).mono (unhide HB).size)⟩
      · obtain rfl : k = xs.length := by omega
        have hF : Hid (F0 = 0) := by show F0 = 0; rw [← unhide HF0, unhide HLF, atB_of (by simpa using hnear)]; rfl
        have HB6 := hide hB
        clear hB hnear
        go_wp2_with fail
        go_ret
        exact ⟨by rw [unhide hF]; rfl, (unhide HB).trans ((unhide HB6).mono (unhide HB).size)⟩
  · have hd : (tableFault xs != 0) = true := by simpa using hf
    have hF : Hid (F0 = tableFault xs) := by show F0 = tableFault xs; rw [← unhide HF0]; exact if_neg hf
    clear bO
    go_wp2_with fail
    go_ret
    exact ⟨by rw [unhide hF]; rfl, unhide HB⟩

end Go.Proofs.YtggnnbdjihihiaaGreat
